/- Texts put together: what the law uses of them. -/
import Derived.Test.YtidcpdfhnhfelaaGreatDoorQTxr01
import Derived.Test.YtidcpdfhnhfelaaGreatDoorQTxr00
/- What small functions answer. -/
namespace Go.Proofs.YtidcpdfhnhfelaaGreatDoor
open Go.RowKit G
set_option linter.unusedVariables false
theorem tooLong_any (t : ByteArray) (w : World) (ht : t.size ≤ maxLen) :
    Calls Tryz.prog 107 #[.string t] w fun e w' => e = .returned (.bool (decide (8000 < t.size))) ∧ w = w' := by
  unfold maxLen at ht
  by_cases h : 8000 < t.size
  all_goals
    go_enter Tryz.func107, Tryz.ntmps107
    go_wp2
    go_ret
    exact ⟨ret_bool (by simp; omega), rfl⟩
end Go.Proofs.YtidcpdfhnhfelaaGreatDoor

