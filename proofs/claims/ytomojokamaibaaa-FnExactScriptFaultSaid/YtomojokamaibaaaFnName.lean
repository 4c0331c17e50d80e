/- What the two functions on names answer: both the same. -/
import Derived.Test.YtomojokamaibaaaM2
import Derived.Test.YtomojokamaibaaaBase
namespace Go.Proofs.Ytomojokamaibaaa
open Go.RowKit M2 G
set_option linter.unusedVariables false
theorem isDigit_any (c : Int) (w : World) :
    Calls Try.prog 20 #[.int .u8 c] w fun e w' => e = .returned (.bool (digB c)) ∧ w = w' := by
  unfold digB
  by_cases a : 48 ≤ c <;> by_cases b : c ≤ 57
  all_goals
    go_enter Try.func20, Try.ntmps20
    go_wp2
    go_ret
    exact ⟨by simp [a, b], rfl⟩
end Go.Proofs.Ytomojokamaibaaa
