/- Texts put together: what the law uses of them. -/
import Derived.Test.YtgafndgnmadcfaaGreatDoorCards
import Derived.Test.YtgafndgnmadcfaaGreatDoorTie
import Derived.WalkKit
import Derived.ProofKit
import Derived.OpenShut
import Derived.ShutString
import Derived.LaidHandle
import Derived.Deep.DeepHandedRow
import Derived.Test.YtgafndgnmadcfaaGreatDoorQV11
import Derived.Test.YtgafndgnmadcfaaGreatDoorQV00
namespace Go.Proofs.YtgafndgnmadcfaaGreatDoor
open Go.ChangeShapes Go.WideShapes Go.RowKit
theorem door_own : ownKnob Tryz.prog.godebug = none := by kernel_rfl
theorem door_et : Tryz.prog.globalNamed "errors.errorType" = some 0 := by kernel_rfl
theorem door_rt : (Tryz.prog.cutTypes.find? (·.1 == "internal/reflectlite.rtype")).map (·.2) = some 373 := by kernel_rfl
theorem door_oneRow : ((List.range 466).filter fun t => Tryz.prog.rowNamed t [101, 114, 114, 111, 114]) = [235] := by kernel_rfl
theorem door_size : Tryz.prog.types.size = 466 := by kernel_rfl
def laidL : List (String × DataW Unit) := [("errors.errorType", Rows.laid_errors_errorType)]
theorem et_of_laid {W : World} (h : laidMetH Tryz.prog laidL W) : ET W := by
 have h' : laidMet Tryz.prog [] W /\ handlesMet Tryz.prog laidL W := h
 obtain ⟨name, u, ty, e1, e2, e3, e4, e5⟩ := h'.2 _ (List.mem_singleton.2 rfl)
 have en : name = [101, 114, 114, 111, 114] := (Option.some.inj e1).symm
 subst en
 obtain rfl := Option.some.inj (door_rt.symm.trans e2)
 have hm : ty ∈ (List.range 466).filter fun t => Tryz.prog.rowNamed t [101, 114, 114, 111, 114] := List.mem_filter.2 ⟨List.mem_range.2 (by rw [<- door_size]; exact e3), e4⟩
 rw [door_oneRow] at hm
 obtain rfl := List.mem_singleton.1 hm
 have hh : typeHandle Tryz.prog 235 = .pointer (some ⟨4, 235, none⟩) := by kernel_rfl
 rw [hh] at e5
 unfold ET
 simpa using World.var?_cell door_et e5 0
noncomputable def laidWorld (os : Os) : World :=
 { World.holding Tryz.prog os ⟨#[], #[], []⟩ with heap := (World.holding Tryz.prog os ⟨#[], #[], []⟩).heap.modify 0 fun
     | .cells _ t frozen => .cells #[.iface 373 (.agg #[.pointer (some ⟨4, 235, none⟩)])] t frozen
     | o => o }
theorem laidWorld_met (os : Os) (args : Array Value) : laidMetH Tryz.prog laidL ((laidWorld os).forCall (fun _ _ => 0) ⟨#[], args, []⟩).memory :=
 laidMetH_of_parts (laidMet_nil _ _) (by kernel_rfl)
end Go.Proofs.YtgafndgnmadcfaaGreatDoor
