/- What the program's Split answers. -/
import Derived.Test.YtdnbkjiijpeiiaaGreatSplB
import Derived.Test.YtdnbkjiijpeiiaaGreatHShA
namespace Go.Proofs.YtdnbkjiijpeiiaaGreat
open Go.RowKit Go.PlainAid G MGF IRow
set_option linter.unusedVariables false
theorem FAt.row {W u v : World} {f : Nat} (h : FAt W f u) {row : Option Nat} (hg : u.grownBy v row) (hr : ∀ g, row = some g → W.heap.size ≤ g) (hf : f < W.heap.size) : FAt W f v := by
  have hu := h.grown
  refine ⟨h.fld.grown hg (fun e => by have := hr f e.symm; omega), hg.os.trans hu.os, hg.tape.trans hu.tape, hg.output.trans hu.output, Nat.le_trans hu.size hg.size, fun k hk hne => ?_⟩
  exact (hg.block k (Nat.lt_of_lt_of_le hk hu.size) (fun e => by have := hr k e.symm; omega)).trans (hu.block k hk hne)
set_option maxRecDepth 100000 in
set_option maxHeartbeats 3200000 in
theorem implSplit_any (s d : ByteArray) (need many : Int) (w : World) (hs : s.size ≤ maxLen) (hd : d.size ≤ maxLen) :
    Calls Tryz.prog 5 #[.string s, .int .i64 need, .int .i64 many, .string d] w (NewShares (splitR s need many d) w) := by
  have hb0 : Below w.heap.size w (w.alloc (Obj.cells #[Value.slice none 0 0, Value.int IntKind.i64 0] 27)) := (Below.refl _ _).alloc (Nat.le_refl _) _
  by_cases h0 : splitC s need many d = 0
  · have hOk := splitC_zero h0
    have h1 := hOk.n1
    have h2 := hOk.n2
    have h3 := hOk.m1
    have h4 := hOk.m2
    have h5 := hOk.s2
    have h6 := hOk.dr
    have h7 := hOk.d8
    have HR0 := Lib.hid (splitR_yes h0)
    have HC0 := Lib.hid h0
    obtain ⟨m, rfl⟩ := Int.eq_ofNat_of_zero_le (show 0 ≤ many by omega)
    have hm20 : m ≤ 20 := by omega
    have hs1 : (w.alloc (Obj.cells #[Value.slice none 0 0, Value.int IntKind.i64 0] 27)).heap.size = w.heap.size + 1 := World.size_alloc _ _
    have hbx := Box2.made w (.slice none 0 0) (.int .i64 0) 27
    have hfn := fld_new (w.alloc (Obj.cells #[Value.slice none 0 0, Value.int IntKind.i64 0] 27))
    have hga := World.grownBy_alloc (w.alloc (Obj.cells #[Value.slice none 0 0, Value.int IntKind.i64 0] 27)) (Obj.cells Tryz.zeroCells64 64) none
    have hb1 := hb0.alloc (by rw [hs1]; omega) (Obj.cells Tryz.zeroCells64 64)
    rw [hs1] at hfn
    have HB1 := Lib.hid hb1
    have HBX := Lib.hid (hbx.grown hga (by simp))
    have HFN := Lib.hid hfn
    clear hOk hb0 hs1 hbx hfn hga hb1 h0
    obtain ⟨i0, hi, hz0, hz1, hz2⟩ := info_parts infoShare
    go_enter Tryz.func5, Tryz.ntmps5
    go_wp2_with fail
    refine (splitFault_any s d need (m : Int) _ hs hd).mono ?_
    rintro e w1 ⟨rfl, rfl⟩
    rw [HC0.out]
    go_wp2_with fail
    generalize (w.alloc (Obj.cells #[Value.slice none 0 0, Value.int IntKind.i64 0] 27)).alloc (Obj.cells Tryz.zeroCells64 64) = wf at *
    refine (curvesOf_any (w.heap.size + 1) s d need _ HFN.out.lt h1 h2 h5 h6 h7).mono ?_
    rintro e w3 ⟨ac, cc, rfl, hcv, hb3⟩
    have HF3 := Lib.hid (HFN.out.below hb3)
    have HCV := Lib.hid hcv
    have HBX3 := Lib.hid (HBX.out.below hb3)
    have HB3 := Lib.hid (HB1.out.trans (hb3.mono HB1.out.size))
    have hfl : w.heap.size + 1 < w3.heap.size := HF3.out.lt
    clear hcv hb3
    go_wp2_with (at_make; refine wpList_make_own _ rfl (.const (.int .i64 0)) (.tmp 27) 25 rfl w3.heap.size 43 i0 (.agg #[.int .i64 0, .string ByteArray.empty]) 2 Tryz.underlying25 hi hz0 hz1 .i64 .i64 _ m rfl rfl rfl (by rw [hz2]; omega) (by unfold maxLen; omega) (Nat.le_refl _) ?_; intro w4 hown4 hg4; have HO4 : Hid (w4.ownsRow w3.heap.size 43 shE.k _ 0 (shE.flat (partsT (polysT (tb s) (tb d) (kOf need)) 0))) := Lib.hid hown4; have HF4 := Lib.hid ((FAt.start HF3.out).below (below_of_none hg4)); clear hown4 hg4)
    obtain ⟨f, hf⟩ : ∃ f, f = w.heap.size + 1 := ⟨_, rfl⟩
    rw [← hf] at HF3 HCV hfl HF4 ⊢
    have HFE := Lib.hid hf
    clear hf
    go_loopw [12, 13] (fun v i wr => ∃ j : Nat, j ≤ m ∧ i = .int .i64 ((j : Int) + 1) ∧ wr.ownsRow w3.heap.size 43 shE.k v j (shE.flat (partsT (polysT (tb s) (tb d) (kOf need)) j)) ∧ FAt w3 f wr) (fun _ i _ => (m + 1 - (intOf i).toNat))
    case atStart => exact ⟨0, Nat.zero_le _, rfl, HO4.out, HF4.out⟩
    case round =>
      obtain ⟨j, hj, rfl, hown, hfw⟩ := hrel
      by_cases hlt : j < m
      · have HO := Lib.hid hown
        have HFW := Lib.hid hfw
        have hval := valuesAt_any f (pl (j + 1)) ac s.size cc _ wr hfw.fld (HCV.out.grown hfw.grown) (by omega)
        have e1 : bi (pl (j + 1)) = (j : Int) + 1 := by rw [pl_bi (by omega)]; omega
        rw [e1] at hval
        have HT : Hid (valsF (fun i x => ev (polyT (tb s) (tb d) (kOf need) i) x) s.size (pl (j + 1)) = vals (polysT (tb s) (tb d) (kOf need)) (pl (j + 1))) := Lib.hid (by
          unfold valsF vals polysT
          rw [List.map_map, tb_length]
          rfl)
        rw [HT.out] at hval
        obtain ⟨t, ht⟩ : ∃ t, t = tx (vals (polysT (tb s) (tb d) (kOf need)) (pl (j + 1))) := ⟨_, rfl⟩
        rw [← ht] at hval
        have HTT := Lib.hid ht
        have HVAL := Lib.hid hval
        have hw8 : IntKind.u8.wrap ((j : Int) + 1) = (j : Int) + 1 := by rw [IntKind.wrap_u8]; omega
        clear hown hfw hval e1 ht
        go_wp2_with fail
        refine HVAL.out.mono ?_
        rintro e w5 ⟨rfl, hf5⟩
        have hown5 := hf5.own HO.out hfl
        have HF5 := Lib.hid (HFW.out.step hf5)
        have hsz5 : w3.heap.size ≤ w5.heap.size := HF5.out.grown.size
        have HO5 := Lib.hid hown5
        clear hf5
        go_wp2_with (at_builtin; refine append_enc shE rfl (.tmp 34) (.tmp 41) 25 rfl 43 i0 (.agg #[.int .i64 0, .string ByteArray.empty]) 24 Tryz.underlying25 hi hz0 hz1 hz2 rfl (by decide) (by decide) w3.heap.size _ _ _ rfl hown5 ((j : Int) + 1, t) _ rfl _ rfl hsz5 (by omega) ?_; intro v' w6 hown6 hg6 _; have HO6 := Lib.hid hown6; have HF6 := Lib.hid (HF5.out.row hg6 (fun g hg => (HO5.out.lt g hg).1) hfl); clear hown6 hg6 hown5)
        go_roundw
        case rel => exact ⟨j + 1, by omega, by go_num, by rw [partsT_succ, ← HTT.out]; exact HO6.out, HF6.out⟩
        case measure => simp [intOf]; omega
      · obtain rfl : j = m := by omega
        obtain ⟨ar, cr, rfl⟩ := own_shape hown
        have hwf : w.heap.size < w3.heap.size := by have := HFE.out; omega
        have hne : some w.heap.size ≠ some f := by have := HFE.out; simp; omega
        obtain ⟨hb, hc0, hc1, hz0', hz1'⟩ := HBX3.out.grown hfw.grown hne
        have hnb : ∀ g, (Value.slice ar j cr).ownBlock = some g → g ≠ w.heap.size := fun g hg => by have := (hown.lt g hg).1; omega
        have HO := Lib.hid (own_mono (own_other (own_other hown hnb ⟨w.heap.size, 0, none⟩ (.slice ar j cr) rfl) hnb ⟨w.heap.size, 1, none⟩ (.int .i64 0) rfl) (show w.heap.size ≤ w3.heap.size by omega))
        have HB := Lib.hid (((HB3.out.grown hfw.grown HB3.out.size (fun g e => by cases e; have := HFE.out; omega)).setCell (p := ⟨w.heap.size, 0, none⟩) (Nat.le_refl _) (.slice ar j cr)).setCell (p := ⟨w.heap.size, 1, none⟩) (Nat.le_refl _) (.int .i64 0))
        obtain ⟨hr0, hr1⟩ := box_put (x := .slice ar j cr) (y := .int .i64 0) hc0 hc1
        have HR := Lib.hid (And.intro hr0 hr1)
        clear hown hfw hnb hr0 hr1 hb hne hi hz0 hz1 hz2
        go_wp2_with fail
        obtain ⟨hr0, hr1⟩ := HR.out
        exact bodyPost_ret (v := .agg #[.slice ar j cr, .int .i64 0]) (by simp [results, Tryz.results5, go_sem, hr0, hr1]) rfl (ret_shares HR0.out HO.out HB.out)
  · have HR0 := Lib.hid (splitR_no (c := splitC s need many d) rfl h0)
    have hbx := Box2.made w (.slice none 0 0) (.int .i64 0) 27
    obtain ⟨c, hc⟩ : ∃ c, c = splitC s need many d := ⟨_, rfl⟩
    rw [← hc] at HR0 h0
    have hcb : (c != 0) = true := by rw [bne_iff_ne]; exact h0
    have hcb2 : (c == 0) = false := by rw [beq_eq_false_iff_ne]; exact h0
    have HC := Lib.hid hc
    obtain ⟨hb, hc0, hc1, hz0', hz1'⟩ := hbx
    obtain ⟨hr0, hr1⟩ := box_put (x := .slice none 0 0) (y := .int .i64 c) hc0 hc1
    have HR := Lib.hid (And.intro hr0 hr1)
    have HB := Lib.hid ((hb0.setCell (p := ⟨w.heap.size, 0, none⟩) (Nat.le_refl _) (.slice none 0 0)).setCell (p := ⟨w.heap.size, 1, none⟩) (Nat.le_refl _) (.int .i64 c))
    clear hc hr0 hr1 hb0 h0 hc0 hc1 hz0' hz1' hb
    go_enter Tryz.func5, Tryz.ntmps5
    go_wp2_with fail
    refine (splitFault_any s d need many _ hs hd).mono ?_
    rintro e w1 ⟨rfl, rfl⟩
    rw [← HC.out]
    go_wp2_with fail
    exact bodyPost_ret (v := .agg #[.slice none 0 0, .int .i64 c]) (by simp [results, Tryz.results5, go_sem]) rfl (ret_shares HR0.out (World.ownsRow_nil _ _ _ _) ((Below.refl _ _).alloc (Nat.le_refl _) _))
end Go.Proofs.YtdnbkjiijpeiiaaGreat
