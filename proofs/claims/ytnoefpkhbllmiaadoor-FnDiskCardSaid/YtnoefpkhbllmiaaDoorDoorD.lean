/- What the rows' list of three sentinels gives a walk, and a world that meets it. After the guide's worked example over two. -/
import Derived.Test.YtnoefpkhbllmiaaDoorCards
import Derived.Test.YtnoefpkhbllmiaaDoorTie
import Derived.Test.YtnoefpkhbllmiaaDoorDskI
import Derived.WalkKit
import Derived.ProofKit
import Derived.OpenShut
import Derived.ShutString
import Derived.LaidHandle
import Derived.Stop.LaidErr
import Derived.Deep.DeepHandedRow
namespace Go.Proofs.YtnoefpkhbllmiaaDoor
open Go.ChangeShapes Go.WideShapes Go.ChangeAt Go.RowKit
theorem door_own : ownKnob Tryd.prog.godebug = none := by kernel_rfl
theorem door_g0 : Tryd.prog.globalNamed "loop.example/g00839/impl.errLong" = some 0 := by kernel_rfl
theorem door_t0 : (Tryd.prog.globals[0]?).map (·.type) = some 47 := by kernel_rfl
theorem door_g1 : Tryd.prog.globalNamed "loop.example/g00839/impl.errWrong" = some 1 := by kernel_rfl
theorem door_t1 : (Tryd.prog.globals[1]?).map (·.type) = some 47 := by kernel_rfl
theorem door_g2 : Tryd.prog.globalNamed "loop.example/g00839/impl.errFull" = some 2 := by kernel_rfl
theorem door_t2 : (Tryd.prog.globals[2]?).map (·.type) = some 47 := by kernel_rfl
theorem door_cells : Tryd.prog.cellsOf 111 = 1 := by kernel_rfl
theorem door_cellsS : Tryd.prog.cellsOf 9 = 1 := by kernel_rfl
theorem door_star : "*" ++ "errors.errorString" = "*errors.errorString" := by decide
theorem door_row (u : TypeId) (h : Tryd.prog.typeName? 3 u = some "*errors.errorString") : u = 85 :=
  typeName_ptr_named (nm := "errors.errorString") (by rw [door_star]; kernel_rfl) (by kernel_rfl) (by decide) u (by rw [door_star]; exact h)
def laidL : List (String × DataW Unit) := [("loop.example/g00839/impl.errLong", Rows.laid_loop_example_g00839_impl_errLong), ("loop.example/g00839/impl.errWrong", Rows.laid_loop_example_g00839_impl_errWrong), ("loop.example/g00839/impl.errFull", Rows.laid_loop_example_g00839_impl_errFull)]
theorem var_below {P : Program} {W W' : World} {n : String} {cs : Array Value} (h : W.var? P n = some cs) (hb : Below W.heap.size W W') : W'.var? P n = some cs := by
  unfold World.var? at h ⊢
  cases hg : P.globalNamed n with
  | none => simp [hg] at h
  | some g =>
    simp only [hg, Option.bind_some] at h ⊢
    have hlt : g < W.heap.size := by
      rcases Nat.lt_or_ge g W.heap.size with h' | h'
      · exact h'
      · simp [Array.getElem?_eq_none h'] at h
    rw [hb.block g hlt]
    exact h
/-- The three, read as tokens. -/
theorem vr3 {H : Type} (enc : TypeId × Value → H) {X : World} {e0 e1 e2 : Addr} (x0 : X.var? Tryd.prog "loop.example/g00839/impl.errLong" = some #[.iface 85 (.pointer (some e0))]) (x1 : X.var? Tryd.prog "loop.example/g00839/impl.errWrong" = some #[.iface 85 (.pointer (some e1))]) (x2 : X.var? Tryd.prog "loop.example/g00839/impl.errFull" = some #[.iface 85 (.pointer (some e2))]) (sp : Nat → Bool) :
    DataW.TrodVars enc Tryd.prog X sp ["loop.example/g00839/impl.errLong", "loop.example/g00839/impl.errWrong", "loop.example/g00839/impl.errFull"] [tok enc (.iface 85 (.pointer (some e0))), tok enc (.iface 85 (.pointer (some e1))), tok enc (.iface 85 (.pointer (some e2)))] [.cell 0 0, .cell 1 0, .cell 2 0] :=
  ⟨0, 47, #[_], 1, [], [.cell 1 0, .cell 2 0], door_g0, door_t0, x0, trod_held Tryd.underlying47 (show IsIface (.iface 85 (.pointer (some e0))) from trivial) 0,
    ⟨1, 47, #[_], 1, [], [.cell 2 0], door_g1, door_t1, x1, trod_held Tryd.underlying47 (show IsIface (.iface 85 (.pointer (some e1))) from trivial) 0,
      ⟨2, 47, #[_], 1, [], [], door_g2, door_t2, x2, trod_held Tryd.underlying47 (show IsIface (.iface 85 (.pointer (some e2))) from trivial) 0, rfl, rfl⟩, rfl⟩, rfl⟩
set_option maxRecDepth 100000 in
/-- What the list gives a walk. -/
theorem sent3 {W : World} (h0 : laidMetH Tryd.prog laidL W) : ∃ e0 e1 e2 : Addr, W.var? Tryd.prog "loop.example/g00839/impl.errLong" = some #[.iface 85 (.pointer (some e0))] ∧ W.var? Tryd.prog "loop.example/g00839/impl.errWrong" = some #[.iface 85 (.pointer (some e1))] ∧ W.var? Tryd.prog "loop.example/g00839/impl.errFull" = some #[.iface 85 (.pointer (some e2))] ∧ DS W e0 e1 e2 := by
  have h : laidMet Tryd.prog laidL W := h0
  obtain ⟨ps, ⟨g0', t0', cs0, f0, p0, q0, hg0', ht0', hv0, hd0, ⟨g1', t1', cs1, f1, p1, q1, hg1', ht1', hv1, hd1, ⟨g2', t2', cs2, f2, p2, q2, hg2', ht2', hv2, hd2, _, z2⟩, z1⟩, z0⟩, hnd, hrows⟩ := h
  obtain rfl := Option.some.inj (door_g0.symm.trans hg0')
  obtain rfl := Option.some.inj (door_g1.symm.trans hg1')
  obtain rfl := Option.some.inj (door_g2.symm.trans hg2')
  obtain rfl := Option.some.inj (door_t0.symm.trans ht0')
  obtain rfl := Option.some.inj (door_t1.symm.trans ht1')
  obtain rfl := Option.some.inj (door_t2.symm.trans ht2')
  subst z2
  subst z1
  subst z0
  obtain ⟨l0⟩ := cs0
  obtain ⟨l1⟩ := cs1
  obtain ⟨l2⟩ := cs2
  have ok0 : ∀ u v, l0 = [.iface u v] → Value.okWide Tryd.prog W .any 0 u v := fun u v e => by
    subst e
    exact (hrows 0 0 (by simp [MemPlace.row])).2 u v (by simpa using World.var?_cell hg0' hv0 0)
  have ok1 : ∀ u v, l1 = [.iface u v] → Value.okWide Tryd.prog W .any 0 u v := fun u v e => by
    subst e
    exact (hrows 1 0 (by simp [MemPlace.row])).2 u v (by simpa using World.var?_cell hg1' hv1 0)
  have ok2 : ∀ u v, l2 = [.iface u v] → Value.okWide Tryd.prog W .any 0 u v := fun u v e => by
    subst e
    exact (hrows 2 0 (by simp [MemPlace.row])).2 u v (by simpa using World.var?_cell hg2' hv2 0)
  obtain ⟨a0, s0, rfl, hc0, hs0, hz0, rfl⟩ := errorString_of_trod Tryd.underlying47 door_row Tryd.underlying85 Tryd.underlying111 rfl rfl Tryd.underlying9 door_cells door_cellsS hd0 ok0
  obtain ⟨a1, s1, rfl, hc1, hs1, hz1, rfl⟩ := errorString_of_trod Tryd.underlying47 door_row Tryd.underlying85 Tryd.underlying111 rfl rfl Tryd.underlying9 door_cells door_cellsS hd1 ok1
  obtain ⟨a2, s2, rfl, hc2, hs2, hz2, rfl⟩ := errorString_of_trod Tryd.underlying47 door_row Tryd.underlying85 Tryd.underlying111 rfl rfl Tryd.underlying9 door_cells door_cellsS hd2 ok2
  obtain ⟨c0, t0, hb0⟩ := (hrows a0.block a0.off (by simp [MemPlace.row])).1
  obtain ⟨c1, t1, hb1⟩ := (hrows a1.block a1.off (by simp [MemPlace.row])).1
  obtain ⟨c2, t2, hb2⟩ := (hrows a2.block a2.off (by simp [MemPlace.row])).1
  refine ⟨a0, a1, a2, hv0, hv1, hv2, ⟨by simpa using World.var?_cell door_g0 hv0 0, by simpa using World.var?_cell door_g1 hv1 0, by simpa using World.var?_cell door_g2 hv2 0, ?_, ?_, ?_, ⟨c0, t0, hb0⟩, ⟨c1, t1, hb1⟩, ⟨c2, t2, hb2⟩⟩⟩
  · rintro rfl
    simp [MemPlace.row] at hnd
  · rintro rfl
    simp [MemPlace.row] at hnd
  · rintro rfl
    simp [MemPlace.row] at hnd
noncomputable def low : Nat := (World.holding Tryd.prog default ⟨#[], #[], []⟩).heap.size
/-- A world that meets the list: the settled one, the three variables laid. -/
noncomputable def laidWorld (os : Os) : World :=
  let w0 := World.holding Tryd.prog os ⟨#[.cells #[.string ⟨#[109, 111, 114, 101, 32, 116, 104, 97, 110, 32, 97, 110, 121, 32, 99, 97, 108, 108, 32, 116, 97, 107, 101, 115]⟩] 111, .cells #[.string ⟨#[116, 104, 101, 32, 100, 105, 115, 107, 32, 105, 115, 32, 110, 111, 116, 32, 114, 105, 103, 104, 116]⟩] 111, .cells #[.string ⟨#[116, 104, 101, 32, 100, 105, 115, 107, 32, 105, 115, 32, 102, 117, 108, 108]⟩] 111], #[], []⟩
  { w0 with heap := ((w0.heap.modify 0 fun
      | .cells _ t frozen => .cells #[.iface 85 (.pointer (some ⟨low, 0, none⟩))] t frozen
      | o => o).modify 1 fun
      | .cells _ t frozen => .cells #[.iface 85 (.pointer (some ⟨low + 1, 0, none⟩))] t frozen
      | o => o).modify 2 fun
      | .cells _ t frozen => .cells #[.iface 85 (.pointer (some ⟨low + 2, 0, none⟩))] t frozen
      | o => o }
theorem laidWorld_met (os : Os) (args : Array Value) : laidMetH Tryd.prog laidL ((laidWorld os).forCall (fun _ _ => 0) ⟨#[], args, []⟩).memory :=
  show laidMet Tryd.prog laidL _ from laidMet_of_run (ps := [.cell 0 0, .cell low 0, .cell 1 0, .cell (low + 1) 0, .cell 2 0, .cell (low + 2) 0]) 8 (by kernel_rfl) (by kernel_rfl) (by kernel_rfl)
end Go.Proofs.YtnoefpkhbllmiaaDoor
