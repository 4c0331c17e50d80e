/- The law's comparison of parts; a number out of a code. -/
import Derived.Test.YtdnbkjiijpeiiaaGreatHShB
import Derived.Test.YtdnbkjiijpeiiaaGreatDrawSA
import Derived.Deep.QuietTactic
import Derived.BigQuiet
namespace Go.Proofs.YtdnbkjiijpeiiaaGreat
open Go.RowKit Go.PlainAid G MGF IRow
set_option linter.unusedVariables false
set_option maxRecDepth 100000 in
set_option maxHeartbeats 3200000 in
theorem lwShares_same (va vb : Option Addr) (n ca cb : Nat) (l : List (Int × ByteArray)) (rc : Int) (w : World) (ha : HR w va n ca l) (hb : HR w vb n cb l) (hn : n ≤ 1048576) :
    Calls Tryz.prog 10 #[.agg #[.slice va n ca, .int .i64 rc], .agg #[.slice vb n cb, .int .i64 rc]] w fun e w' => e = .returned (.bool true) ∧ Below w.heap.size w w' := by
  obtain ⟨wa, hwa⟩ : ∃ u, u = w.alloc (.cells #[.slice va n ca, .int .i64 rc] 27) := ⟨_, rfl⟩
  obtain ⟨wb, hwb⟩ : ∃ u, u = wa.alloc (.cells #[.slice vb n cb, .int .i64 rc] 27) := ⟨_, rfl⟩
  have sa : wa.heap.size = w.heap.size + 1 := by rw [hwa]; exact World.size_alloc _ _
  have ba : Below w.heap.size w wa := by rw [hwa]; exact (Below.refl _ _).alloc (Nat.le_refl _) _
  have bb : Below wa.heap.size wa wb := by rw [hwb]; exact (Below.refl _ _).alloc (Nat.le_refl _) _
  have bw := ba.trans (bb.mono ba.size)
  have a0 : wa.cell? ⟨w.heap.size, 0, none⟩ = some (.slice va n ca) := by rw [hwa]; exact World.cell?_alloc_new w _ _ 0
  have a1 : wa.cell? ⟨w.heap.size, 1, none⟩ = some (.int .i64 rc) := by rw [hwa]; exact World.cell?_alloc_new w _ _ 1
  have c0 : wb.cell? ⟨w.heap.size, 0, none⟩ = some (.slice va n ca) := (bb.cell (p := ⟨w.heap.size, 0, none⟩) (by show w.heap.size < _; omega)).trans a0
  have c1 : wb.cell? ⟨w.heap.size, 1, none⟩ = some (.int .i64 rc) := (bb.cell (p := ⟨w.heap.size, 1, none⟩) (by show w.heap.size < _; omega)).trans a1
  have d0 : wb.cell? ⟨w.heap.size + 1, 0, none⟩ = some (.slice vb n cb) := by rw [hwb, ← sa]; exact World.cell?_alloc_new wa _ _ 0
  have d1 : wb.cell? ⟨w.heap.size + 1, 1, none⟩ = some (.int .i64 rc) := by rw [hwb, ← sa]; exact World.cell?_alloc_new wa _ _ 1
  have sb : wb.heap.size = w.heap.size + 2 := by rw [hwb, World.size_alloc, sa]
  have HA := Lib.hid (ha.below bw)
  have HB := Lib.hid (hb.below bw)
  have HW := Lib.hid bw
  have HWA := Lib.hid hwa
  have HWB := Lib.hid hwb
  have HC : Hid (∀ u, Below wb.heap.size wb u → u.cell? ⟨w.heap.size, 0, none⟩ = some (.slice va n ca) ∧ u.cell? ⟨w.heap.size + 1, 0, none⟩ = some (.slice vb n cb)) := Lib.hid (fun u hu => ⟨(hu.cell (p := ⟨w.heap.size, 0, none⟩) (by show w.heap.size < _; omega)).trans c0, (hu.cell (p := ⟨w.heap.size + 1, 0, none⟩) (by show w.heap.size + 1 < _; omega)).trans d0⟩)
  clear ha hb bw ba bb a0 a1 hwa hwb sa sb
  go_enter Tryz.func10, Tryz.ntmps10
  go_upto_region 1 with fail
  rw [← HWA.out, ← HWB.out]
  go_wp2_with fail
  clear c0 c1 d0 d1
  go_loopw [5] (fun i wr => ∃ j : Nat, j ≤ n ∧ i = .int .i64 (j : Int) ∧ Below wb.heap.size wb wr) (fun i _ => n - (intOf i).toNat)
  case atStart => exact ⟨0, Nat.zero_le _, rfl, Below.refl _ _⟩
  case round =>
    generalize wr = wo at *
    obtain ⟨j, hj, rfl, hbw⟩ := hrel
    obtain ⟨e0, e1⟩ := HC.out _ hbw
    have HBW := Lib.hid hbw
    by_cases hlt : j < n
    · obtain ⟨g, o, rfl, hg, x0, x1⟩ := HR.at (HA.out.below hbw) hlt
      obtain ⟨g', o', rfl, hg', y0, y1⟩ := HR.at (HB.out.below hbw) hlt
      have hji : (j : Int) < (n : Int) := by omega
      generalize (l.getD j shD).1 = x at *
      generalize (l.getD j shD).2 = t at *
      clear hbw hg hg'
      go_wp2_with fail
      go_quiet (fail)
      have hb2 := Lib.hid (below_drewN HBW.out nq)
      clear x0 x1 y0 y1 e0 e1
      go_wp2_with fail
      go_roundw
      case rel => exact ⟨j + 1, by omega, by go_num, hb2.out⟩
      case measure => simp [intOf]; omega
    · obtain rfl : j = n := by omega
      clear hbw
      go_wp2_with fail
      go_ret
      exact ⟨rfl, HW.out.trans (HBW.out.mono HW.out.size)⟩
end Go.Proofs.YtdnbkjiijpeiiaaGreat
