/- Texts put together: what the law uses of them. -/
import Derived.PlainAid
import Derived.KernelRfl
import Derived.Lib.Hide
import Derived.Defers
import Derived.Laws.Pointers
import Derived.Laws.LoneSync
import Derived.RegionCalls
import Derived.Laws.NewBlocks
import Derived.Test.YtgafndgnmadcfaaGreatDoorQV00
namespace Go.Proofs.YtgafndgnmadcfaaGreatDoor
open Go.RowKit Go.PlainAid G IRow MGF
set_option linter.unusedVariables false
theorem grown_set (w : World) (b i : Nat) (v : Value) : w.grownBy (w.setCell ⟨b, i, none⟩ v) (some b) :=
 ⟨rfl, rfl, rfl, by simp, fun k hk hne => by unfold World.setCell; simp only [Array.getElem?_modify]; rw [if_neg (fun e => hne (by rw [e]))]⟩
end Go.Proofs.YtgafndgnmadcfaaGreatDoor
namespace Go.Proofs.YtgafndgnmadcfaaGreatDoor
open Go.RowKit Go.PlainAid G IRow MGF
set_option linter.unusedVariables false
end Go.Proofs.YtgafndgnmadcfaaGreatDoor
namespace Go.Proofs.YtgafndgnmadcfaaGreatDoor
open Go.RowKit Go.PlainAid G IRow MGF
set_option linter.unusedVariables false
end Go.Proofs.YtgafndgnmadcfaaGreatDoor
namespace Go.Proofs.YtgafndgnmadcfaaGreatDoor
open Go.RowKit Go.PlainAid G IRow MGF
set_option linter.unusedVariables false
end Go.Proofs.YtgafndgnmadcfaaGreatDoor
namespace Go.Proofs.YtgafndgnmadcfaaGreatDoor
open Go.RowKit Go.PlainAid G IRow MGF
set_option linter.unusedVariables false
end Go.Proofs.YtgafndgnmadcfaaGreatDoor
namespace Go.Proofs.YtgafndgnmadcfaaGreatDoor
open Go.RowKit Go.PlainAid G MGF
set_option linter.unusedVariables false
theorem l02Is_any (n low high : Int) (w : World) :
   Calls Tryz.prog 35 #[.int .i64 n, .int .i64 low, .int .i64 high] w fun e w' => e = .returned (.bool (decide (low <= n /\ n <= high))) /\ w = w' := by
 by_cases h1 : low <= n
 · by_cases h2 : n <= high
   · go_enter Tryz.func35, Tryz.ntmps35
     go_wp2_with fail
     go_ret
     exact ⟨ret_bool (by simp [h1, h2]), rfl⟩
   · go_enter Tryz.func35, Tryz.ntmps35
     go_wp2_with fail
     go_ret
     exact ⟨ret_bool (by simp [h2]), rfl⟩
 · go_enter Tryz.func35, Tryz.ntmps35
   go_wp2_with fail
   go_ret
   exact ⟨ret_bool (by simp; omega), rfl⟩
theorem byteB_yes {a : Int} (h0 : 0 <= a) (h1 : a <= 255) : byteB a = true := by unfold byteB; exact decide_eq_true ⟨h0, h1⟩
theorem byteB_no {a : Int} (h : ¬ (0 <= a /\ a <= 255)) : byteB a = false := by unfold byteB; exact decide_eq_false h
end Go.Proofs.YtgafndgnmadcfaaGreatDoor
namespace Go.Proofs.YtgafndgnmadcfaaGreatDoor
open Go.RowKit Go.PlainAid G MGF
set_option linter.unusedVariables false
end Go.Proofs.YtgafndgnmadcfaaGreatDoor
namespace Go.Proofs.YtgafndgnmadcfaaGreatDoor
open Go.RowKit G
set_option linter.unusedVariables false
theorem tooLong_any (t : ByteArray) (w : World) (ht : t.size <= maxLen) :
   Calls Tryz.prog 182 #[.string t] w fun e w' => e = .returned (.bool (decide (8000 < t.size))) /\ w = w' := by
 unfold maxLen at ht
 by_cases h : 8000 < t.size
 all_goals
   go_enter Tryz.func182, Tryz.ntmps182
   go_wp2
   go_ret
   exact ⟨ret_bool (by simp; omega), rfl⟩
end Go.Proofs.YtgafndgnmadcfaaGreatDoor
