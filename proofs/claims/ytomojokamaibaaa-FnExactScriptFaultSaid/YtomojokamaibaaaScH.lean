/- Scripts, the model's: the fault of one; the laws' comparison. -/
import Derived.Test.YtomojokamaibaaaScG
namespace Go.Proofs.Ytomojokamaibaaa
open Go.RowKit Go.PlainAid G MGF IRow Sc M2
set_option linter.unusedVariables false
/-- A line of the model's in memory. -/
structure Lm where
  w : ByteArray
  a : ByteArray
  b : ByteArray
  n : Int
  m : Int
def lmE : Enc Lm := ⟨5, fun l => [.string l.w, .string l.a, .string l.b, .int .i64 l.n, .int .i64 l.m], fun _ => rfl, by intro x v hv; simp at hv; rcases hv with rfl | rfl | rfl | rfl | rfl <;> rfl⟩
theorem infoLm : (Try.prog.info? 36).map (fun i => (i.zero, i.size, i.bytes)) = some (some (.agg #[.string ⟨#[]⟩, .string ⟨#[]⟩, .string ⟨#[]⟩, .int .i64 0, .int .i64 0]), 5, 64) := by kernel_rfl
theorem getD_app {ls : List ByteArray} {r : ByteArray} {i : Nat} (h : i < ls.length) : (ls ++ [r]).getD i ByteArray.empty = ls.getD i ByteArray.empty := by
  rw [List.getD, List.getD, List.getElem?_append_left h]
theorem getD_end {ls : List ByteArray} {r : ByteArray} : (ls ++ [r]).getD ls.length ByteArray.empty = r := by
  rw [List.getD, List.getElem?_append_right (Nat.le_refl _), Nat.sub_self]
  rfl
set_option maxRecDepth 100000 in
set_option maxHeartbeats 16000000 in
theorem l11Script_any (s : ByteArray) (w : World) (hs : s.size ≤ 1048576) :
    Calls Try.prog 7 #[.string s] w fun e w' => ∃ v, e = .returned (.tuple #[v, .agg #[.string ⟨#[]⟩, .int .i64 (faultL s).1, .int .i64 (faultL s).2]]) ∧ Below w.heap.size w w' := by
  obtain ⟨i0, hi, hz0, hz1, hz2⟩ := info_parts infoLm
  obtain ⟨W, hW⟩ : ∃ W, W = (w.alloc (.cells #[.string ⟨#[]⟩, .int .i64 0, .int .i64 0] 23)).alloc (.cells #[] 36) := ⟨_, rfl⟩
  have HB0 := Lib.hid (show Below w.heap.size w W by rw [hW]; exact ((Below.refl _ _).alloc (Nat.le_refl _) _).alloc (by rw [World.size_alloc]; omega) _)
  have HX := Lib.hid (show BoxC W w.heap.size [.string ⟨#[]⟩, .int .i64 0, .int .i64 0] by rw [hW]; exact (BoxC.made _ _ _).alloc _)
  have HO0 := Lib.hid (show W.ownsRow (w.heap.size + 1) 36 lmE.k (.slice (some ⟨w.heap.size + 1, 0, none⟩) 0 0) 0 (lmE.flat []) by
    rw [hW]
    have h := World.ownsRow_lit (base := w.heap.size + 1) (e := 36) (size := lmE.k) (w.alloc (.cells #[.string ⟨#[]⟩, .int .i64 0, .int .i64 0] 23)) #[] 0 (by rw [World.size_alloc]; exact Nat.le_refl _) (by decide) (by simp)
    rw [World.size_alloc] at h
    exact h)
  have HWS := Lib.hid (show W.heap.size = w.heap.size + 2 by rw [hW, World.size_alloc, World.size_alloc])
  by_cases hbig : 8000 < s.size
  · have HF := Lib.hid (fault_big hbig)
    go_enter Try.func7, Try.ntmps7
    go_upto_region 2 with fail
    rw [← hW]
    clear hW
    have hbd : decide (8000 < (s.size : Int)) = true := decide_eq_true (by omega)
    have x0 := HX.out.cell 0 _ rfl
    have x1 := HX.out.cell 1 _ rfl
    have x2 := HX.out.cell 2 _ rfl
    have f0 := HX.out.free 0
    have f1 := HX.out.free 1
    have f2 := HX.out.free 2
    have HY := Lib.hid (((HX.out.set (j := 0) (by decide) (.string ⟨#[]⟩)).set (j := 1) (by simp) (.int .i64 0)).set (j := 2) (by simp) (.int .i64 2))
    have HYB := Lib.hid (((HB0.out.setCell (p := ⟨w.heap.size, 0, none⟩) (Nat.le_refl _) (.string ⟨#[]⟩)).setCell (p := ⟨w.heap.size, 1, none⟩) (Nat.le_refl _) (.int .i64 0)).setCell (p := ⟨w.heap.size, 2, none⟩) (Nat.le_refl _) (.int .i64 2))
    have r0 := HY.out.cell 0 _ rfl
    have r1 := HY.out.cell 1 _ rfl
    have r2 := HY.out.cell 2 _ rfl
    go_wp2_with fail
    refine bodyPost_ret (v := .tuple #[.slice (some ⟨w.heap.size + 1, 0, none⟩) 0 0, .agg #[.string ⟨#[]⟩, .int .i64 0, .int .i64 2]]) (by simp [results, Try.results7, go_sem, r0, r1, r2]) rfl ?_
    exact ⟨_, by rw [HF.out], HYB.out⟩
  · go_enter Try.func7, Try.ntmps7
    go_upto_region 2 with fail
    rw [← hW]
    clear hW
    have hbj : ¬ (8000 : Int) < (s.size : Int) := by omega
    obtain ⟨ls, hls⟩ : ∃ ls, piecesL s 10 = ls := ⟨_, rfl⟩
    obtain ⟨rs, hrs⟩ : ∃ rs, restS s 10 = rs := ⟨_, rfl⟩
    have HLS := Lib.hid hls
    have HRS := Lib.hid hrs
    have HLL := Lib.hid (show ls.length ≤ s.size by rw [← hls]; exact pieces_len _ _)
    have HSM := Lib.hid (show ∀ i, (ls.getD i ByteArray.empty).size ≤ s.size by rw [← hls]; exact pieces_mem)
    have HRM := Lib.hid (show rs.size ≤ s.size by rw [← hrs]; exact ex_small _ _ _)
    have hwl : wordsL s 10 = ls ++ [rs] := by rw [← hls, ← hrs]; rfl
    go_wp2_with fail
    refine (split_any s 10 W hs).mono ?_
    rw [hwl]
    rintro e w1 ⟨v, rfl, hown, hb⟩
    clear hls hrs hwl
    obtain ⟨nn, hnn⟩ : ∃ nn, (ls ++ [rs]).length = nn := ⟨_, rfl⟩
    rw [hnn] at hown
    have hn1 : nn = ls.length + 1 := by rw [← hnn]; simp
    have HB1 := Lib.hid (HB0.out.trans (hb.mono HB0.out.size))
    have HX1 := Lib.hid (HX.out.below hb)
    have HO1 := Lib.hid (own_below HO0.out hb)
    have hsz1 := hb.size
    obtain ⟨ar, cr, rfl⟩ := own_shape hown
    have HS1 := Lib.hid (SR.own (E := txE) (d := ByteArray.empty) (by decide) hown)
    obtain ⟨gS, hgS, hgW⟩ : ∃ gS, ar = some ⟨gS, 0, none⟩ ∧ W.heap.size ≤ gS := by
      obtain ⟨g, cap, hv, hb2, hg2⟩ := hown.form (by omega)
      simp only [Value.slice.injEq] at hv
      exact ⟨g, hv.1, hb2⟩
    subst hgS
    have HCL := Lib.hid (show ∀ j, j < nn → w1.cell? ⟨gS, j, none⟩ = some (.string ((ls ++ [rs]).getD j ByteArray.empty)) by
      intro j hj
      obtain ⟨g', o', e1, hg', hc'⟩ := HS1.out.cells (by omega)
      simp only [Option.some.injEq, Addr.mk.injEq, and_true] at e1
      obtain ⟨rfl, rfl⟩ := e1
      have h1 := hc' j hj 0 _ rfl
      rw [show txE.k = 1 from rfl, Nat.mul_one, Nat.add_zero, Nat.zero_add] at h1
      exact h1)
    have HGS := Lib.hid (show gS < w1.heap.size by
      obtain ⟨g', o', e1, hg', hc'⟩ := HS1.out.cells (by omega)
      simp only [Option.some.injEq, Addr.mk.injEq, and_true] at e1
      obtain ⟨rfl, rfl⟩ := e1
      exact hg')
    have HGW := Lib.hid hgW
    have hli : (nn : Int) = (ls.length : Int) + 1 := by omega
    have hlm : (nn : Int) ≤ 1048577 := by have := HLL.out; omega
    have hw0 : IntKind.i64.wrap ((nn : Int) - 1) = (nn : Int) - 1 := IntWalk.i64_in _ (by omega)
    have HNN := Lib.hid hn1
    clear hown hb HX HB0 HO0 hgW hnn
    go_wp2_with fail
    go_loopw [6, 4] (fun i v wr => ∃ (k : Nat) (lv : Value) (zs : List Lm), k ≤ ls.length ∧ i = .int .i64 k ∧ v = lv ∧ Hid (BoxC wr w.heap.size [.string ⟨#[]⟩, .int .i64 0, .int .i64 0]) ∧ Hid (wr.ownsRow (w.heap.size + 1) 36 lmE.k lv k (lmE.flat zs)) ∧ Hid (some gS ≠ lv.ownBlock) ∧ Hid (Below w.heap.size w wr) ∧ Hid (w1.heap.size ≤ wr.heap.size) ∧ Hid (∀ j, j < nn → wr.cell? ⟨gS, j, none⟩ = some (.string ((ls ++ [rs]).getD j ByteArray.empty))) ∧ Hid (stopAt ls 0 ls.length = stopAt ls k (ls.length - k))) (fun i _ _ => nn - (intOf i).toNat)
    case atStart => exact ⟨0, _, [], Nat.zero_le _, rfl, rfl, HX1, HO1, Lib.hid (by intro e; simp only [Value.ownBlock, Option.some.injEq] at e; have := HGW.out; have := HWS.out; omega), HB1, Lib.hid (Nat.le_refl _), HCL, Lib.hid (by rw [Nat.sub_zero])⟩
    case round =>
      obtain ⟨k, lv, zs, hk, rfl, rfl, HX2, HOR, HNE, HB2, HSZ, HC2, HST⟩ := hrel
      clear HX1 HO1 HB1 HCL
      obtain ⟨an, cn, rfl⟩ := own_shape HOR.out
      have hkn : (k : Int) < (nn : Int) := by omega
      have hin : 0 ≤ (k : Int) ∧ (k : Int) < (nn : Int) := by omega
      have t0 := HC2.out k (by omega)
      have HDO : Hid (∀ (x a b : ByteArray) (n m : Int) (w5 : World), Below wr.heap.size wr w5 → ∃ W6, W6 = w5.alloc (.cells #[.string x, .string a, .string b, .int .i64 n, .int .i64 m] 36) ∧ BoxC W6 w.heap.size [.string ⟨#[]⟩, .int .i64 0, .int .i64 0] ∧ BoxC W6 w5.heap.size [.string x, .string a, .string b, .int .i64 n, .int .i64 m] ∧ W6.ownsRow (w.heap.size + 1) 36 lmE.k (.slice an k cn) k (lmE.flat zs) ∧ Below w.heap.size w W6 ∧ w1.heap.size ≤ W6.heap.size ∧ (∀ j, j < nn → W6.cell? ⟨gS, j, none⟩ = some (.string ((ls ++ [rs]).getD j ByteArray.empty)))) := Lib.hid (fun x a b n m w5 hb5 => by
        have hb6 : Below wr.heap.size wr (w5.alloc (.cells #[.string x, .string a, .string b, .int .i64 n, .int .i64 m] 36)) := hb5.alloc hb5.size _
        refine ⟨_, rfl, HX2.out.below hb6, BoxC.made _ _ _, own_below HOR.out hb6, HB2.out.trans (hb6.mono HB2.out.size), Nat.le_trans HSZ.out hb6.size, fun j hj => ?_⟩
        exact (hb6.cell (p := ⟨gS, j, none⟩) (Nat.lt_of_lt_of_le HGS.out HSZ.out)).trans (HC2.out j hj))
      by_cases hlt : k < ls.length
      · rw [getD_app hlt] at t0
        have hlast : ¬ (k : Int) = (nn : Int) - 1 := by omega
        have hlastb : ((k : Int) == (nn : Int) - 1) = false := by simpa using hlast
        have hsz := HSM.out k
        obtain ⟨y, hy⟩ : ∃ y, ls.getD k ByteArray.empty = y := ⟨_, rfl⟩
        rw [hy] at t0 hsz
        have hysz : y.size ≤ 1048576 := by omega
        have HY0 := Lib.hid hy
        clear hy hsz
        go_wp2_with fail
        refine (l11Read_any y _ hysz).mono ?_
        rintro e w5 ⟨lx, la, lb, ln, lm, rfl, hb5⟩
        obtain ⟨W6, hW6, hx6, hx9, ho6, hb6, hs6, hc6⟩ := HDO.out lx la lb ln lm w5 hb5
        have HX6 := Lib.hid hx6
        have HX9 := Lib.hid hx9
        have HO6 := Lib.hid ho6
        have HB6 := Lib.hid hb6
        have HS6 := Lib.hid hs6
        have HC6 := Lib.hid hc6
        clear hb5 t0 HX2 HOR HB2 HC2 hx6 hx9 ho6 hb6 hs6 hc6 HDO
        by_cases hok : lineOk y = true ∧ k < 40
        · obtain ⟨hok1, hk40⟩ := hok
          rw [hok1]
          have HN : Hid (stopAt ls 0 ls.length = stopAt ls (k + 1) (ls.length - (k + 1))) := Lib.hid (by rw [HST.out]; exact stop_more hlt (by rw [HY0.out]; exact hok1) hk40)
          have hk4 : ¬ (40 : Int) ≤ (k : Int) := by omega
          have hk4d : decide ((40 : Int) ≤ (k : Int)) = false := decide_eq_false hk4
          clear hok1
          go_upto_region 11 with fail
          rw [← hW6]
          clear hW6
          have x0 := HX9.out.cell 0 _ rfl
          have x1 := HX9.out.cell 1 _ rfl
          have x2 := HX9.out.cell 2 _ rfl
          have x3 := HX9.out.cell 3 _ rfl
          have x4 := HX9.out.cell 4 _ rfl
          have hown := HO6.out
          have hszw : w.heap.size + 1 ≤ W6.heap.size := by have := HS6.out; have := hsz1; have := HWS.out; omega
          have hkk : k ≤ 1048576 := by omega
          go_wp2_with (at_builtin; refine append_enc lmE rfl (.tmp 58) (.tmp 60) 27 rfl 36 i0 (.agg #[.string ⟨#[]⟩, .string ⟨#[]⟩, .string ⟨#[]⟩, .int .i64 0, .int .i64 0]) 64 Try.underlying27 hi hz0 hz1 hz2 (by rfl) (by decide) (by decide) (w.heap.size + 1) (.slice an k cn) k zs (by rfl) hown ⟨lx, la, lb, ln, lm⟩ _ (by rfl) _ (by rfl) hszw hkk ?_; intro v' w7 hown7 hg7 hor7; have HO7 := Lib.hid hown7; have HX7 := Lib.hid (HX6.out.grown hg7 (own_not (k := w.heap.size) HO6.out (by omega))); have HB7 := Lib.hid (below_grow HB6.out HO6.out (by omega) hg7 HB6.out.size); have HS7 := Lib.hid (Nat.le_trans HS6.out hg7.size); have HC7 := Lib.hid (show ∀ j, j < nn → w7.cell? ⟨gS, j, none⟩ = some (.string ((ls ++ [rs]).getD j ByteArray.empty)) from fun j hj => hg7.cell (HC6.out j hj) HNE.out); have HN7 := Lib.hid (show some gS ≠ v'.ownBlock by rcases hor7 with h | ⟨g2, h, h2⟩; exact h ▸ HNE.out; rw [h]; intro e; simp only [Option.some.injEq] at e; have := HGS.out; have := HS6.out; omega); clear hown7 hg7 hown hor7)
          go_roundw
          case rel => exact ⟨k + 1, _, _, by omega, by go_num, rfl, HX7, HO7, HN7, HB7, HS7, HC7, HN⟩
          case measure => simp [intOf]; omega
        · have HF : Hid (faultL s = ((k : Int), 3)) := Lib.hid (fault_line hbig (by rw [HLS.out, HST.out]; exact stop_here hlt (by rw [HY0.out]; exact hok)) (by rw [HLS.out]; exact hlt))
          cases hok1 : lineOk y
          · go_upto_region 11 with fail
            rw [← hW6]
            clear hW6
            have x0 := HX6.out.cell 0 _ rfl
            have x1 := HX6.out.cell 1 _ rfl
            have x2 := HX6.out.cell 2 _ rfl
            have f0 := HX6.out.free 0
            have f1 := HX6.out.free 1
            have f2 := HX6.out.free 2
            have HY := Lib.hid (((HX6.out.set (j := 0) (by decide) (.string ⟨#[]⟩)).set (j := 1) (by simp) (.int .i64 k)).set (j := 2) (by simp) (.int .i64 3))
            have HYB := Lib.hid (((HB6.out.setCell (p := ⟨w.heap.size, 0, none⟩) (Nat.le_refl _) (.string ⟨#[]⟩)).setCell (p := ⟨w.heap.size, 1, none⟩) (Nat.le_refl _) (.int .i64 k)).setCell (p := ⟨w.heap.size, 2, none⟩) (Nat.le_refl _) (.int .i64 3))
            have r0 := HY.out.cell 0 _ rfl
            have r1 := HY.out.cell 1 _ rfl
            have r2 := HY.out.cell 2 _ rfl
            go_wp2_with fail
            refine bodyPost_ret (v := .tuple #[.slice an k cn, .agg #[.string ⟨#[]⟩, .int .i64 k, .int .i64 3]]) (by simp [results, Try.results7, go_sem, r0, r1, r2]) rfl ?_
            exact ⟨_, by rw [HF.out], HYB.out⟩
          · have hk4 : (40 : Int) ≤ (k : Int) := by
              rcases Nat.lt_or_ge k 40 with h | h
              · exact absurd ⟨hok1, h⟩ hok
              · omega
            have hk4d : decide ((40 : Int) ≤ (k : Int)) = true := decide_eq_true hk4
            go_upto_region 11 with fail
            rw [← hW6]
            clear hW6
            have x0 := HX6.out.cell 0 _ rfl
            have x1 := HX6.out.cell 1 _ rfl
            have x2 := HX6.out.cell 2 _ rfl
            have f0 := HX6.out.free 0
            have f1 := HX6.out.free 1
            have f2 := HX6.out.free 2
            have HY := Lib.hid (((HX6.out.set (j := 0) (by decide) (.string ⟨#[]⟩)).set (j := 1) (by simp) (.int .i64 k)).set (j := 2) (by simp) (.int .i64 3))
            have HYB := Lib.hid (((HB6.out.setCell (p := ⟨w.heap.size, 0, none⟩) (Nat.le_refl _) (.string ⟨#[]⟩)).setCell (p := ⟨w.heap.size, 1, none⟩) (Nat.le_refl _) (.int .i64 k)).setCell (p := ⟨w.heap.size, 2, none⟩) (Nat.le_refl _) (.int .i64 3))
            have r0 := HY.out.cell 0 _ rfl
            have r1 := HY.out.cell 1 _ rfl
            have r2 := HY.out.cell 2 _ rfl
            go_wp2_with fail
            refine bodyPost_ret (v := .tuple #[.slice an k cn, .agg #[.string ⟨#[]⟩, .int .i64 k, .int .i64 3]]) (by simp [results, Try.results7, go_sem, r0, r1, r2]) rfl ?_
            exact ⟨_, by rw [HF.out], HYB.out⟩
      · obtain rfl : k = ls.length := by omega
        rw [getD_end] at t0
        have hlast : (ls.length : Int) = (nn : Int) - 1 := by omega
        have hlastb : ((ls.length : Int) == (nn : Int) - 1) = true := by simpa using hlast
        clear hlast hli
        have HST2 : Hid (stopAt (piecesL s 10) 0 (piecesL s 10).length = (piecesL s 10).length) := Lib.hid (by rw [HLS.out, HST.out]; exact stop_end)
        by_cases hr0 : rs.size = 0
        · have hre := lit_eq (x := rs) [] (len_empty.1 hr0)
          have HF : Hid (faultL s = (0, 0)) := Lib.hid (fault_none hbig HST2.out (by rw [HRS.out]; exact hr0))
          clear hr0
          have x0 := HX2.out.cell 0 _ rfl
          have x1 := HX2.out.cell 1 _ rfl
          have x2 := HX2.out.cell 2 _ rfl
          have f0 := HX2.out.free 0
          have f1 := HX2.out.free 1
          have f2 := HX2.out.free 2
          have HY := Lib.hid (((HX2.out.set (j := 0) (by decide) (.string ⟨#[]⟩)).set (j := 1) (by simp) (.int .i64 0)).set (j := 2) (by simp) (.int .i64 0))
          have HYB := Lib.hid (((HB2.out.setCell (p := ⟨w.heap.size, 0, none⟩) (Nat.le_refl _) (.string ⟨#[]⟩)).setCell (p := ⟨w.heap.size, 1, none⟩) (Nat.le_refl _) (.int .i64 0)).setCell (p := ⟨w.heap.size, 2, none⟩) (Nat.le_refl _) (.int .i64 0))
          have r0 := HY.out.cell 0 _ rfl
          have r1 := HY.out.cell 1 _ rfl
          have r2 := HY.out.cell 2 _ rfl
          go_wp2_with fail
          refine bodyPost_ret (v := .tuple #[.slice an ls.length cn, .agg #[.string ⟨#[]⟩, .int .i64 0, .int .i64 0]]) (by simp [results, Try.results7, go_sem, r0, r1, r2]) rfl ?_
          exact ⟨_, by rw [HF.out], HYB.out⟩
        · have HF : Hid (faultL s = ((ls.length : Int), 3)) := Lib.hid (by rw [← HLS.out]; exact fault_rest hbig HST2.out (by rw [HRS.out]; exact hr0))
          have hre := lit_ne (x := rs) [] (fun h => hr0 (by rw [h]; rfl))
          have hysz : rs.size ≤ 1048576 := by have := HRM.out; omega
          clear hr0
          go_wp2_with fail
          refine (l11Read_any rs _ hysz).mono ?_
          rintro e w5 ⟨lx, la, lb, ln, lm, rfl, hb5⟩
          obtain ⟨W6, hW6, hx6, hx9, ho6, hb6, hs6, hc6⟩ := HDO.out lx la lb ln lm w5 hb5
          have HX6 := Lib.hid hx6
          have HB6 := Lib.hid hb6
          clear hb5 t0 HX2 HOR HB2 HC2 hx6 hx9 ho6 hb6 hs6 hc6 HDO
          go_upto_region 11 with fail
          rw [← hW6]
          clear hW6
          have x0 := HX6.out.cell 0 _ rfl
          have x1 := HX6.out.cell 1 _ rfl
          have x2 := HX6.out.cell 2 _ rfl
          have f0 := HX6.out.free 0
          have f1 := HX6.out.free 1
          have f2 := HX6.out.free 2
          have HY := Lib.hid (((HX6.out.set (j := 0) (by decide) (.string ⟨#[]⟩)).set (j := 1) (by simp) (.int .i64 ls.length)).set (j := 2) (by simp) (.int .i64 3))
          have HYB := Lib.hid (((HB6.out.setCell (p := ⟨w.heap.size, 0, none⟩) (Nat.le_refl _) (.string ⟨#[]⟩)).setCell (p := ⟨w.heap.size, 1, none⟩) (Nat.le_refl _) (.int .i64 ls.length)).setCell (p := ⟨w.heap.size, 2, none⟩) (Nat.le_refl _) (.int .i64 3))
          have r0 := HY.out.cell 0 _ rfl
          have r1 := HY.out.cell 1 _ rfl
          have r2 := HY.out.cell 2 _ rfl
          go_wp2_with fail
          refine bodyPost_ret (v := .tuple #[.slice an ls.length cn, .agg #[.string ⟨#[]⟩, .int .i64 ls.length, .int .i64 3]]) (by simp [results, Try.results7, go_sem, r0, r1, r2]) rfl ?_
          exact ⟨_, by rw [HF.out], HYB.out⟩
end Go.Proofs.Ytomojokamaibaaa
