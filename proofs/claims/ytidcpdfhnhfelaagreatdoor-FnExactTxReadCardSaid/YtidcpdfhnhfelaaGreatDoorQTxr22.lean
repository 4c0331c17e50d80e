/- Texts put together: what the law uses of them. -/
import Derived.Test.YtidcpdfhnhfelaaGreatDoorQTxr20
import Derived.Test.YtidcpdfhnhfelaaGreatDoorQTxr00
/- Rows of items: an element by its cells; what the laws' own functions on such rows answer. -/
namespace Go.Proofs.YtidcpdfhnhfelaaGreatDoor
open Go.RowKit Go.PlainAid G MGF IRow
set_option linter.unusedVariables false
theorem eqItem_same (q0 : ByteArray) (q1 : Int) (q2 : ByteArray) (w : World) :
    Calls Tryz.prog 80 #[.agg #[.string q0, .int .i64 q1, .string q2], .agg #[.string q0, .int .i64 q1, .string q2]] w fun e w' => e = .returned (.bool true) ∧ Below w.heap.size w w' := by
  go_enter Tryz.func80, Tryz.ntmps80
  go_wp2_with fail
  go_ret
  exact ⟨rfl, ((Below.refl _ _).alloc (Nat.le_refl _) _).alloc (by simp) _⟩
end Go.Proofs.YtidcpdfhnhfelaaGreatDoor

