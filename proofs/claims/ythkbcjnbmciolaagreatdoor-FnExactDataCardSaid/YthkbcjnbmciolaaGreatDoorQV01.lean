/- Used by the law. -/
import Derived.Defers
import Derived.Laws.Pointers
import Derived.Laws.LoneSync
import Derived.RegionCalls
import Derived.Laws.NewBlocks
import Derived.Test.YthkbcjnbmciolaaGreatDoorQV00
set_option maxRecDepth 100000
set_option maxHeartbeats 16000000
namespace Go.Proofs.YthkbcjnbmciolaaGreatDoor
open Go.RowKit Go.PlainAid G IRow MGF
set_option linter.unusedVariables false
theorem grown_set (w : World) (b i : Nat) (v : Value) : w.grownBy (w.setCell ⟨b,i,none⟩ v) (some b) :=
 ⟨rfl,rfl,rfl,by simp,fun k hk hne => by unfold World.setCell;simp only [Array.getElem?_modify];rw [if_neg (fun e => hne (by rw [e]))]⟩
end Go.Proofs.YthkbcjnbmciolaaGreatDoor
namespace Go.Proofs.YthkbcjnbmciolaaGreatDoor
open Go.RowKit Go.PlainAid G IRow MGF
set_option linter.unusedVariables false
end Go.Proofs.YthkbcjnbmciolaaGreatDoor
namespace Go.Proofs.YthkbcjnbmciolaaGreatDoor
open Go.RowKit Go.PlainAid G IRow MGF
set_option linter.unusedVariables false
end Go.Proofs.YthkbcjnbmciolaaGreatDoor
namespace Go.Proofs.YthkbcjnbmciolaaGreatDoor
open Go.RowKit Go.PlainAid G IRow MGF
set_option linter.unusedVariables false
end Go.Proofs.YthkbcjnbmciolaaGreatDoor
namespace Go.Proofs.YthkbcjnbmciolaaGreatDoor
open Go.RowKit Go.PlainAid G IRow MGF
set_option linter.unusedVariables false
end Go.Proofs.YthkbcjnbmciolaaGreatDoor
namespace Go.Proofs.YthkbcjnbmciolaaGreatDoor
open Go.RowKit Go.PlainAid G MGF
set_option linter.unusedVariables false
theorem l02Is_any (n low high : Int) (w : World) :
 Calls Tryz.prog 42 #[.int .i64 n,.int .i64 low,.int .i64 high] w fun e w' => e = .returned (.bool (decide (low <= n /\ n <= high))) /\ w = w':=by
 by_cases h1 : low <= n
 · by_cases h2 : n <= high
   · go_enter Tryz.func42,Tryz.ntmps42
     go_wp2_with fail
     go_ret
     exact ⟨ret_bool (by simp [h1,h2]),rfl⟩
   · go_enter Tryz.func42,Tryz.ntmps42
     go_wp2_with fail
     go_ret
     exact ⟨ret_bool (by simp [h2]),rfl⟩
 · go_enter Tryz.func42,Tryz.ntmps42
   go_wp2_with fail
   go_ret
   exact ⟨ret_bool (by simp;omega),rfl⟩
theorem byteB_yes {a : Int} (h0 : 0 <= a) (h1 : a <= 255) : byteB a = true:=by unfold byteB;exact decide_eq_true ⟨h0,h1⟩
theorem byteB_no {a : Int} (h : ¬ (0 <= a /\ a <= 255)) : byteB a = false:=by unfold byteB;exact decide_eq_false h
end Go.Proofs.YthkbcjnbmciolaaGreatDoor
namespace Go.Proofs.YthkbcjnbmciolaaGreatDoor
open Go.RowKit Go.PlainAid G MGF
set_option linter.unusedVariables false
end Go.Proofs.YthkbcjnbmciolaaGreatDoor
namespace Go.Proofs.YthkbcjnbmciolaaGreatDoor
open Go.RowKit G
set_option linter.unusedVariables false
theorem tooLong_any (t : ByteArray) (w : World) (ht : t.size <= maxLen) :
 Calls Tryz.prog 106 #[.string t] w fun e w' => e = .returned (.bool (decide (8000 < t.size))) /\ w = w':=by
 unfold maxLen at ht
 by_cases h : 8000 < t.size
 all_goals
  go_enter Tryz.func106,Tryz.ntmps106
  go_wp2
  go_ret
  exact ⟨ret_bool (by simp;omega),rfl⟩
end Go.Proofs.YthkbcjnbmciolaaGreatDoor
