/- What the two functions on names answer: both the same. -/
import Derived.Test.YtnoefpkhbllmiaaGreatM2
import Derived.Test.YtnoefpkhbllmiaaGreatBase
namespace Go.Proofs.YtnoefpkhbllmiaaGreat
open Go.RowKit M2 G
set_option linter.unusedVariables false
theorem isSmall_any (c : Int) (w : World) :
    Calls Tryz.prog 75 #[.int .u8 c] w fun e w' => e = .returned (.bool (smallB c)) ∧ w = w' := by
  unfold smallB
  by_cases a : 97 ≤ c <;> by_cases b : c ≤ 122
  all_goals
    go_enter Tryz.func75, Tryz.ntmps75
    go_wp2
    go_ret
    exact ⟨by simp [a, b], rfl⟩
end Go.Proofs.YtnoefpkhbllmiaaGreat
