/- Scripts, the model's: the fault of one; the laws' comparison. -/
import Derived.Test.YtomojokamaibaaaScH
namespace Go.Proofs.Ytomojokamaibaaa
open Go.RowKit Go.PlainAid G MGF IRow Sc M2
set_option linter.unusedVariables false
set_option maxRecDepth 100000 in
set_option maxHeartbeats 1600000 in
theorem specScriptFault_any (s : ByteArray) (w : World) (hs : s.size ≤ 1048576) :
    Calls Try.prog 4 #[.string s] w fun e w' => e = .returned (.agg #[.string ⟨#[]⟩, .int .i64 (faultL s).1, .int .i64 (faultL s).2]) ∧ Below w.heap.size w w' := by
  obtain ⟨W, hW⟩ : ∃ W, W = w.alloc (.cells #[.string ⟨#[]⟩, .int .i64 0, .int .i64 0] 23) := ⟨_, rfl⟩
  have HB0 := Lib.hid (show Below w.heap.size w W by rw [hW]; exact (Below.refl _ _).alloc (Nat.le_refl _) _)
  have HX := Lib.hid (show BoxC W w.heap.size [.string ⟨#[]⟩, .int .i64 0, .int .i64 0] by rw [hW]; exact BoxC.made _ _ _)
  go_enter Try.func4, Try.ntmps4
  go_upto_region 1 with fail
  rw [← hW]
  clear hW
  go_wp2_with fail
  refine (l11Script_any s W hs).mono ?_
  rintro e w1 ⟨v, rfl, hb⟩
  have HB1 := Lib.hid (HB0.out.trans (hb.mono HB0.out.size))
  have HX1 := Lib.hid (HX.out.below hb)
  clear hb HX HB0
  obtain ⟨fl, fc, hf⟩ : ∃ fl fc, faultL s = (fl, fc) := ⟨_, _, rfl⟩
  rw [hf]
  go_upto_region 2 with fail
  obtain ⟨W2, hW2⟩ : ∃ W2, W2 = w1.alloc (.cells #[.string ⟨#[]⟩, .int .i64 fl, .int .i64 fc] 23) := ⟨_, rfl⟩
  have HX2 := Lib.hid (show BoxC W2 w.heap.size [.string ⟨#[]⟩, .int .i64 0, .int .i64 0] by rw [hW2]; exact HX1.out.alloc _)
  have HX9 := Lib.hid (show BoxC W2 w1.heap.size [.string ⟨#[]⟩, .int .i64 fl, .int .i64 fc] by rw [hW2]; exact BoxC.made _ _ _)
  have HB2 := Lib.hid (show Below w.heap.size w W2 by rw [hW2]; exact HB1.out.alloc HB1.out.size _)
  rw [← hW2]
  clear hW2
  have y0 := HX9.out.cell 0 _ rfl
  have y1 := HX9.out.cell 1 _ rfl
  have y2 := HX9.out.cell 2 _ rfl
  have x0 := HX2.out.cell 0 _ rfl
  have x1 := HX2.out.cell 1 _ rfl
  have x2 := HX2.out.cell 2 _ rfl
  have f0 := HX2.out.free 0
  have f1 := HX2.out.free 1
  have f2 := HX2.out.free 2
  have HY := Lib.hid (((HX2.out.set (j := 0) (by decide) (.string ⟨#[]⟩)).set (j := 1) (by simp) (.int .i64 fl)).set (j := 2) (by simp) (.int .i64 fc))
  have HYB := Lib.hid (((HB2.out.setCell (p := ⟨w.heap.size, 0, none⟩) (Nat.le_refl _) (.string ⟨#[]⟩)).setCell (p := ⟨w.heap.size, 1, none⟩) (Nat.le_refl _) (.int .i64 fl)).setCell (p := ⟨w.heap.size, 2, none⟩) (Nat.le_refl _) (.int .i64 fc))
  have r0 := HY.out.cell 0 _ rfl
  have r1 := HY.out.cell 1 _ rfl
  have r2 := HY.out.cell 2 _ rfl
  go_wp2_with fail
  refine bodyPost_ret (v := .agg #[.string ⟨#[]⟩, .int .i64 fl, .int .i64 fc]) (by simp [results, Try.results4, go_sem, r0, r1, r2]) rfl ?_
  exact ⟨by rw [hf], HYB.out⟩
theorem eqScriptOut_same (t : ByteArray) (l c : Int) (w : World) :
    Calls Try.prog 6 #[.agg #[.string t, .int .i64 l, .int .i64 c], .agg #[.string t, .int .i64 l, .int .i64 c]] w fun e w' => e = .returned (.bool true) ∧ Below w.heap.size w w' := by
  go_enter Try.func6, Try.ntmps6
  go_wp2_with fail
  go_ret
  exact ⟨rfl, ((Below.refl _ _).alloc (Nat.le_refl _) _).alloc (by simp) _⟩
end Go.Proofs.Ytomojokamaibaaa
