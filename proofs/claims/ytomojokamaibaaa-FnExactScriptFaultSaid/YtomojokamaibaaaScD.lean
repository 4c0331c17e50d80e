/- Scripts, the program's: lines, and the fault of a script. -/
import Derived.Test.YtomojokamaibaaaScC
namespace Go.Proofs.Ytomojokamaibaaa
open Go.RowKit Go.PlainAid G MGF IRow Sc M2
set_option linter.unusedVariables false
/-- A line in memory: its word, its texts, its numbers. -/
structure Ln where
  w : ByteArray
  a : Option Addr
  n : Nat
  c : Nat
  a' : Option Addr
  n' : Nat
  c' : Nat
def lnE : Enc Ln := ⟨3, fun l => [.string l.w, .slice l.a l.n l.c, .slice l.a' l.n' l.c'], fun _ => rfl, by intro x v hv; simp at hv; rcases hv with rfl | rfl | rfl <;> rfl⟩
theorem infoLn : (Try.prog.info? 43).map (fun i => (i.zero, i.size, i.bytes)) = some (some (.agg #[.string ⟨#[]⟩, .slice none 0 0, .slice none 0 0]), 3, 64) := by kernel_rfl
set_option maxRecDepth 100000 in
set_option maxHeartbeats 1600000 in
theorem linesIn_any (s : ByteArray) (w : World) (hs : s.size ≤ 1048576) :
    Calls Try.prog 8 #[.string s] w fun e w' => ∃ v, e = .returned (.tuple #[v, .agg #[.string ⟨#[]⟩, .int .i64 (faultL s).1, .int .i64 (faultL s).2]]) ∧ Below w.heap.size w w' := by
  obtain ⟨i0, hi, hz0, hz1, hz2⟩ := info_parts infoLn
  obtain ⟨W, hW⟩ : ∃ W, W = w.alloc (.cells #[.string ⟨#[]⟩, .int .i64 0, .int .i64 0] 23) := ⟨_, rfl⟩
  have HB0 := Lib.hid (show Below w.heap.size w W by rw [hW]; exact (Below.refl _ _).alloc (Nat.le_refl _) _)
  have HX := Lib.hid (show BoxC W w.heap.size [.string ⟨#[]⟩, .int .i64 0, .int .i64 0] by rw [hW]; exact BoxC.made _ _ _)
  by_cases hbig : 8000 < s.size
  · have HF := Lib.hid (fault_big hbig)
    go_enter Try.func8, Try.ntmps8
    go_upto_region 1 with fail
    rw [← hW]
    clear hW
    have hbd : decide (8000 < s.size) = true := decide_eq_true hbig
    have x0 := HX.out.cell 0 _ rfl
    have x1 := HX.out.cell 1 _ rfl
    have x2 := HX.out.cell 2 _ rfl
    have f0 := HX.out.free 0
    have f1 := HX.out.free 1
    have f2 := HX.out.free 2
    have HY := Lib.hid (((HX.out.set (j := 0) (by decide) (.string ⟨#[]⟩)).set (j := 1) (by simp) (.int .i64 0)).set (j := 2) (by simp) (.int .i64 2))
    have HYB := Lib.hid (((HB0.out.setCell (p := ⟨w.heap.size, 0, none⟩) (Nat.le_refl _) (.string ⟨#[]⟩)).setCell (p := ⟨w.heap.size, 1, none⟩) (Nat.le_refl _) (.int .i64 0)).setCell (p := ⟨w.heap.size, 2, none⟩) (Nat.le_refl _) (.int .i64 2))
    have r0 := HY.out.cell 0 _ rfl
    have r1 := HY.out.cell 1 _ rfl
    have r2 := HY.out.cell 2 _ rfl
    go_wp2_with fail
    refine (tooLong_any _ _ (by unfold maxLen; omega)).mono ?_
    rintro e w' ⟨rfl, rfl⟩
    rw [hbd]
    go_wp2_with fail
    refine bodyPost_ret (v := .tuple #[.slice none 0 0, .agg #[.string ⟨#[]⟩, .int .i64 0, .int .i64 2]]) (by simp [results, Try.results8, go_sem, r0, r1, r2]) rfl ?_
    exact ⟨_, by rw [HF.out], HYB.out⟩
  · go_enter Try.func8, Try.ntmps8
    go_upto_region 1 with fail
    rw [← hW]
    clear hW
    have hbd : decide (8000 < s.size) = false := decide_eq_false hbig
    obtain ⟨ls, hls⟩ : ∃ ls, piecesL s 10 = ls := ⟨_, rfl⟩
    obtain ⟨rs, hrs⟩ : ∃ rs, restS s 10 = rs := ⟨_, rfl⟩
    have HLS := Lib.hid hls
    have HRS := Lib.hid hrs
    have HLL := Lib.hid (show ls.length ≤ s.size by rw [← hls]; exact pieces_len _ _)
    have HSM := Lib.hid (show ∀ i, (ls.getD i ByteArray.empty).size ≤ s.size by rw [← hls]; exact pieces_mem)
    go_wp2_with fail
    refine (tooLong_any _ _ (by unfold maxLen; omega)).mono ?_
    rintro e w' ⟨rfl, rfl⟩
    rw [hbd]
    go_wp2_with fail
    refine (cutAt_any s 10 W hs (by decide)).mono ?_
    rw [hls, hrs]
    rintro e w1 ⟨v, rfl, hown, hb⟩
    clear hls hrs hbd
    have HB1 := Lib.hid (HB0.out.trans (hb.mono HB0.out.size))
    have HX1 := Lib.hid (HX.out.below hb)
    obtain ⟨ar, cr, rfl⟩ := own_shape hown
    have HS1 := Lib.hid (SR.own (E := txE) (d := ByteArray.empty) (by decide) hown)
    have HWW := Lib.hid HB1.out.size
    have HXLT := Lib.hid (show w.heap.size < w1.heap.size from HX1.out.lt)
    have hln : (ls.length : Int) ≤ 1048576 := by have := HLL.out; omega
    clear hown hb HX HB0
    go_wp2_with fail
    go_loopw [21, 6] (fun i v wr => ∃ (k : Nat) (lv : Value) (zs : List Ln), k ≤ ls.length ∧ i = .int .i64 k ∧ v = lv ∧ Hid (BoxC wr w.heap.size [.string ⟨#[]⟩, .int .i64 0, .int .i64 0]) ∧ Hid (wr.ownsRow w1.heap.size 43 lnE.k lv k (lnE.flat zs)) ∧ Hid (Below w.heap.size w wr) ∧ Hid (Below w1.heap.size w1 wr) ∧ Hid (stopAt ls 0 ls.length = stopAt ls k (ls.length - k))) (fun i _ _ => ls.length - (intOf i).toNat)
    case atStart => exact ⟨0, _, [], Nat.zero_le _, rfl, rfl, HX1, Lib.hid (World.ownsRow_nil _ _ _ _), HB1, Lib.hid (Below.refl _ _), Lib.hid (by rw [Nat.sub_zero])⟩
    case round =>
      obtain ⟨k, lv, zs, hk, rfl, rfl, HX2, HOR, HB2, HBA, HST⟩ := hrel
      obtain ⟨an, cn, rfl⟩ := own_shape HOR.out
      by_cases hlt : k < ls.length
      · obtain ⟨g, o, rfl, hg, hc⟩ := (HS1.out.below HBA.out).cells (by omega)
        have t0 := hc k hlt 0 _ rfl
        rw [show txE.k = 1 from rfl, Nat.mul_one, Nat.add_zero] at t0
        clear hc
        have hin : 0 ≤ (k : Int) ∧ (k : Int) < (ls.length : Int) := by omega
        have hsz := HSM.out k
        obtain ⟨y, hy⟩ : ∃ y, ls.getD k ByteArray.empty = y := ⟨_, rfl⟩
        rw [hy] at t0 hsz
        have hysz : y.size ≤ 1048576 := by omega
        have HY0 := Lib.hid hy
        clear hy hsz
        go_wp2_with fail
        refine (lineIn_any y _ hysz).mono ?_
        rintro e w5 ⟨lw, la, ln, lc, la', ln', lc', rfl, hb5⟩
        have HX5 := Lib.hid (HX2.out.below hb5)
        have HO5 := Lib.hid (own_below HOR.out hb5)
        have HB5 := Lib.hid (HB2.out.trans (hb5.mono HB2.out.size))
        have HA5 := Lib.hid (HBA.out.trans (hb5.mono HBA.out.size))
        clear hb5 t0 HX2 HOR HB2 HBA
        obtain ⟨W6, hW6⟩ : ∃ W6, W6 = w5.alloc (.cells #[.string lw, .slice la ln lc, .slice la' ln' lc'] 43) := ⟨_, rfl⟩
        have HX6 := Lib.hid (show BoxC W6 w.heap.size [.string ⟨#[]⟩, .int .i64 0, .int .i64 0] by rw [hW6]; exact HX5.out.alloc _)
        have HX9 := Lib.hid (show BoxC W6 w5.heap.size [.string lw, .slice la ln lc, .slice la' ln' lc'] by rw [hW6]; exact BoxC.made _ _ _)
        have HO6 := Lib.hid (show W6.ownsRow w1.heap.size 43 lnE.k (.slice an k cn) k (lnE.flat zs) by rw [hW6]; exact own_below HO5.out ((Below.refl _ _).alloc (Nat.le_refl _) _))
        have HB6 := Lib.hid (show Below w.heap.size w W6 by rw [hW6]; exact HB5.out.alloc HB5.out.size _)
        have HA6 := Lib.hid (show Below w1.heap.size w1 W6 by rw [hW6]; exact HA5.out.alloc HA5.out.size _)
        clear HX5 HO5 HB5 HA5
        by_cases hok : lineOk y = true ∧ k < 40
        · obtain ⟨hok1, hk40⟩ := hok
          rw [hok1]
          have HN : Hid (stopAt ls 0 ls.length = stopAt ls (k + 1) (ls.length - (k + 1))) := Lib.hid (by rw [HST.out]; exact stop_more hlt (by rw [HY0.out]; exact hok1) hk40)
          have hk4 : ¬ (40 : Int) ≤ (k : Int) := by omega
          have hk4d : decide ((40 : Int) ≤ (k : Int)) = false := decide_eq_false hk4
          clear hok1
          go_upto_region 9 with fail
          rw [← hW6]
          clear hW6
          have x0 := HX9.out.cell 0 _ rfl
          have x1 := HX9.out.cell 1 _ rfl
          have x2 := HX9.out.cell 2 _ rfl
          have hown := HO6.out
          have hszw := HA6.out.size
          have hkk : k ≤ 1048576 := by omega
          go_wp2_with (at_builtin; refine append_enc lnE rfl (.tmp 39) (.tmp 41) 30 rfl 43 i0 (.agg #[.string ⟨#[]⟩, .slice none 0 0, .slice none 0 0]) 64 Try.underlying30 hi hz0 hz1 hz2 (by rfl) (by decide) (by decide) w1.heap.size (.slice an k cn) k zs (by rfl) hown ⟨lw, la, ln, lc, la', ln', lc'⟩ _ (by rfl) _ (by rfl) hszw hkk ?_; intro v' w7 hown7 hg7 _; have HO7 := Lib.hid hown7; have HX7 := Lib.hid (HX6.out.grown hg7 (own_not (k := w.heap.size) HO6.out HXLT.out)); have HB7 := Lib.hid (below_grow HB6.out HO6.out HWW.out hg7 HB6.out.size); have HA7 := Lib.hid (below_grow HA6.out HO6.out (Nat.le_refl _) hg7 HA6.out.size); clear hown7 hg7 hown)
          go_roundw
          case rel => exact ⟨k + 1, _, _, by omega, by go_num, rfl, HX7, HO7, HB7, HA7, HN⟩
          case measure => simp [intOf]; omega
        · have HF : Hid (faultL s = ((k : Int), 3)) := Lib.hid (fault_line hbig (by rw [HLS.out, HST.out]; exact stop_here hlt (by rw [HY0.out]; exact hok)) (by rw [HLS.out]; exact hlt))
          cases hok1 : lineOk y
          · go_upto_region 9 with fail
            rw [← hW6]
            clear hW6
            have x0 := HX6.out.cell 0 _ rfl
            have x1 := HX6.out.cell 1 _ rfl
            have x2 := HX6.out.cell 2 _ rfl
            have f0 := HX6.out.free 0
            have f1 := HX6.out.free 1
            have f2 := HX6.out.free 2
            have HY := Lib.hid (((HX6.out.set (j := 0) (by decide) (.string ⟨#[]⟩)).set (j := 1) (by simp) (.int .i64 k)).set (j := 2) (by simp) (.int .i64 3))
            have HYB := Lib.hid (((HB6.out.setCell (p := ⟨w.heap.size, 0, none⟩) (Nat.le_refl _) (.string ⟨#[]⟩)).setCell (p := ⟨w.heap.size, 1, none⟩) (Nat.le_refl _) (.int .i64 k)).setCell (p := ⟨w.heap.size, 2, none⟩) (Nat.le_refl _) (.int .i64 3))
            have r0 := HY.out.cell 0 _ rfl
            have r1 := HY.out.cell 1 _ rfl
            have r2 := HY.out.cell 2 _ rfl
            go_wp2_with fail
            refine bodyPost_ret (v := .tuple #[.slice none 0 0, .agg #[.string ⟨#[]⟩, .int .i64 k, .int .i64 3]]) (by simp [results, Try.results8, go_sem, r0, r1, r2]) rfl ?_
            exact ⟨_, by rw [HF.out], HYB.out⟩
          · have hk4 : (40 : Int) ≤ (k : Int) := by
              rcases Nat.lt_or_ge k 40 with h | h
              · exact absurd ⟨hok1, h⟩ hok
              · omega
            have hk4d : decide ((40 : Int) ≤ (k : Int)) = true := decide_eq_true hk4
            go_upto_region 9 with fail
            rw [← hW6]
            clear hW6
            have x0 := HX6.out.cell 0 _ rfl
            have x1 := HX6.out.cell 1 _ rfl
            have x2 := HX6.out.cell 2 _ rfl
            have f0 := HX6.out.free 0
            have f1 := HX6.out.free 1
            have f2 := HX6.out.free 2
            have HY := Lib.hid (((HX6.out.set (j := 0) (by decide) (.string ⟨#[]⟩)).set (j := 1) (by simp) (.int .i64 k)).set (j := 2) (by simp) (.int .i64 3))
            have HYB := Lib.hid (((HB6.out.setCell (p := ⟨w.heap.size, 0, none⟩) (Nat.le_refl _) (.string ⟨#[]⟩)).setCell (p := ⟨w.heap.size, 1, none⟩) (Nat.le_refl _) (.int .i64 k)).setCell (p := ⟨w.heap.size, 2, none⟩) (Nat.le_refl _) (.int .i64 3))
            have r0 := HY.out.cell 0 _ rfl
            have r1 := HY.out.cell 1 _ rfl
            have r2 := HY.out.cell 2 _ rfl
            go_wp2_with fail
            refine bodyPost_ret (v := .tuple #[.slice none 0 0, .agg #[.string ⟨#[]⟩, .int .i64 k, .int .i64 3]]) (by simp [results, Try.results8, go_sem, r0, r1, r2]) rfl ?_
            exact ⟨_, by rw [HF.out], HYB.out⟩
      · obtain rfl : k = ls.length := by omega
        have HST2 : Hid (stopAt (piecesL s 10) 0 (piecesL s 10).length = (piecesL s 10).length) := Lib.hid (by rw [HLS.out, HST.out]; exact stop_end)
        by_cases hr0 : rs.size = 0
        · obtain rfl : rs = ⟨#[]⟩ := len_empty.1 hr0
          have HF : Hid (faultL s = (0, 0)) := Lib.hid (fault_none hbig HST2.out (by rw [HRS.out]; rfl))
          have x0 := HX2.out.cell 0 _ rfl
          have x1 := HX2.out.cell 1 _ rfl
          have x2 := HX2.out.cell 2 _ rfl
          have f0 := HX2.out.free 0
          have f1 := HX2.out.free 1
          have f2 := HX2.out.free 2
          have HY := Lib.hid (((HX2.out.set (j := 0) (by decide) (.string ⟨#[]⟩)).set (j := 1) (by simp) (.int .i64 0)).set (j := 2) (by simp) (.int .i64 0))
          have HYB := Lib.hid (((HB2.out.setCell (p := ⟨w.heap.size, 0, none⟩) (Nat.le_refl _) (.string ⟨#[]⟩)).setCell (p := ⟨w.heap.size, 1, none⟩) (Nat.le_refl _) (.int .i64 0)).setCell (p := ⟨w.heap.size, 2, none⟩) (Nat.le_refl _) (.int .i64 0))
          have r0 := HY.out.cell 0 _ rfl
          have r1 := HY.out.cell 1 _ rfl
          have r2 := HY.out.cell 2 _ rfl
          go_wp2_with fail
          refine bodyPost_ret (v := .tuple #[.slice an ls.length cn, .agg #[.string ⟨#[]⟩, .int .i64 0, .int .i64 0]]) (by simp [results, Try.results8, go_sem, r0, r1, r2]) rfl ?_
          exact ⟨_, by rw [HF.out], HYB.out⟩
        · have HF : Hid (faultL s = ((ls.length : Int), 3)) := Lib.hid (by rw [← HLS.out]; exact fault_rest hbig HST2.out (by rw [HRS.out]; exact hr0))
          have hre := lit_ne (x := rs) [] (fun h => hr0 (by rw [h]; rfl))
          have x0 := HX2.out.cell 0 _ rfl
          have x1 := HX2.out.cell 1 _ rfl
          have x2 := HX2.out.cell 2 _ rfl
          have f0 := HX2.out.free 0
          have f1 := HX2.out.free 1
          have f2 := HX2.out.free 2
          have HY := Lib.hid (((HX2.out.set (j := 0) (by decide) (.string ⟨#[]⟩)).set (j := 1) (by simp) (.int .i64 ls.length)).set (j := 2) (by simp) (.int .i64 3))
          have HYB := Lib.hid (((HB2.out.setCell (p := ⟨w.heap.size, 0, none⟩) (Nat.le_refl _) (.string ⟨#[]⟩)).setCell (p := ⟨w.heap.size, 1, none⟩) (Nat.le_refl _) (.int .i64 ls.length)).setCell (p := ⟨w.heap.size, 2, none⟩) (Nat.le_refl _) (.int .i64 3))
          have r0 := HY.out.cell 0 _ rfl
          have r1 := HY.out.cell 1 _ rfl
          have r2 := HY.out.cell 2 _ rfl
          go_wp2_with fail
          refine bodyPost_ret (v := .tuple #[.slice none 0 0, .agg #[.string ⟨#[]⟩, .int .i64 ls.length, .int .i64 3]]) (by simp [results, Try.results8, go_sem, r0, r1, r2]) rfl ?_
          exact ⟨_, by rw [HF.out], HYB.out⟩
end Go.Proofs.Ytomojokamaibaaa
