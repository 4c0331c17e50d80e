/- What small functions answer. -/
import Derived.Test.YtnoefpkhbllmiaaDoorBase
namespace Go.Proofs.YtnoefpkhbllmiaaDoor
open Go.RowKit G
set_option linter.unusedVariables false
theorem tooLong_any (t : ByteArray) (w : World) (ht : t.size ≤ maxLen) :
    Calls Tryd.prog 33 #[.string t] w fun e w' => e = .returned (.bool (decide (8000 < t.size))) ∧ w = w' := by
  unfold maxLen at ht
  by_cases h : 8000 < t.size
  all_goals
    go_enter Tryd.func33, Tryd.ntmps33
    go_wp2
    go_ret
    exact ⟨ret_bool (by simp; omega), rfl⟩
end Go.Proofs.YtnoefpkhbllmiaaDoor
