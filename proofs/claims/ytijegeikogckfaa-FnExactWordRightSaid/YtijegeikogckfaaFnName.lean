/- What the two functions on names answer: both the same. -/
import Derived.Test.YtijegeikogckfaaM2
import Derived.Test.YtijegeikogckfaaBase
namespace Go.Proofs.Ytijegeikogckfaa
open Go.RowKit M2 G
set_option linter.unusedVariables false
theorem isSmall_any (c : Int) (w : World) :
    Calls Try.prog 23 #[.int .u8 c] w fun e w' => e = .returned (.bool (smallB c)) ∧ w = w' := by
  unfold smallB
  by_cases a : 97 ≤ c <;> by_cases b : c ≤ 122
  all_goals
    go_enter Try.func23, Try.ntmps23
    go_wp2
    go_ret
    exact ⟨by simp [a, b], rfl⟩
end Go.Proofs.Ytijegeikogckfaa
