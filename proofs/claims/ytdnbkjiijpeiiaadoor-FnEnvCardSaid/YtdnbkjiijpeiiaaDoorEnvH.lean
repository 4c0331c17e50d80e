/- The laws' own functions on one envelope; an argument that is one. -/
import Derived.Test.YtdnbkjiijpeiiaaDoorEnvA
import Derived.WalkKit
import Derived.ProofKit
import Derived.OpenShut
import Derived.ShutString
import Derived.IntWalk
namespace Go.Proofs.YtdnbkjiijpeiiaaDoor
open Go.ChangeShapes Go.WideShapes Go.RowKit G
set_option linter.unusedVariables false
theorem cellsI64 : Tryd.prog.cellsOf 2 = 1 := by kernel_rfl
theorem cellsStr : Tryd.prog.cellsOf 9 = 1 := by kernel_rfl
theorem eqEnv_same (g n m x : Int) (t : ByteArray) (w : World) :
    Calls Tryd.prog 47 #[.agg #[.int .i64 g, .int .i64 n, .int .i64 m, .int .i64 x, .string t], .agg #[.int .i64 g, .int .i64 n, .int .i64 m, .int .i64 x, .string t]] w fun e w' => e = .returned (.bool true) ∧ Below w.heap.size w w' := by
  go_enter Tryd.func47, Tryd.ntmps47
  go_wp2_with fail
  go_ret
  exact ⟨rfl, ((Below.refl _ _).alloc (Nat.le_refl _) _).alloc (by simp) _⟩
end Go.Proofs.YtdnbkjiijpeiiaaDoor
