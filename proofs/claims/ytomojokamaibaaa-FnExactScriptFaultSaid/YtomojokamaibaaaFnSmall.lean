/- What small functions answer. -/
import Derived.Test.YtomojokamaibaaaBase
namespace Go.Proofs.Ytomojokamaibaaa
open Go.RowKit G
set_option linter.unusedVariables false
theorem tooLong_any (t : ByteArray) (w : World) (ht : t.size ≤ maxLen) :
    Calls Try.prog 11 #[.string t] w fun e w' => e = .returned (.bool (decide (8000 < t.size))) ∧ w = w' := by
  unfold maxLen at ht
  by_cases h : 8000 < t.size
  all_goals
    go_enter Try.func11, Try.ntmps11
    go_wp2
    go_ret
    exact ⟨ret_bool (by simp; omega), rfl⟩
end Go.Proofs.Ytomojokamaibaaa
