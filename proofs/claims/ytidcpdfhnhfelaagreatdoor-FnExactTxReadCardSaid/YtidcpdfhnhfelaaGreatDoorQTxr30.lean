/- Texts put together: what the law uses of them. -/
import Derived.Test.YtidcpdfhnhfelaaGreatDoorQTxr01
import Derived.Test.YtidcpdfhnhfelaaGreatDoorQTxr29
import Derived.Test.YtidcpdfhnhfelaaGreatDoorQTxr00
/- What the two functions on names answer: both the same. -/
namespace Go.Proofs.YtidcpdfhnhfelaaGreatDoor
open Go.RowKit M2 G
set_option linter.unusedVariables false
theorem isSmall_any (c : Int) (w : World) :
    Calls Tryz.prog 236 #[.int .u8 c] w fun e w' => e = .returned (.bool (smallB c)) ∧ w = w' := by
  unfold smallB
  by_cases a : 97 ≤ c <;> by_cases b : c ≤ 122
  all_goals
    go_enter Tryz.func236, Tryz.ntmps236
    go_wp2
    go_ret
    exact ⟨by simp [a, b], rfl⟩
end Go.Proofs.YtidcpdfhnhfelaaGreatDoor

