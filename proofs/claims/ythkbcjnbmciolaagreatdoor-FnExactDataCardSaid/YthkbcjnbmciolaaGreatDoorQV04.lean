/- Used by the law. -/
import Derived.Lib.ConvBytes
import Derived.Shelf.Abstract
import Derived.Deep.Cut
import Derived.Lib.OthersKept
import Derived.Test.YthkbcjnbmciolaaGreatDoorQV03
set_option maxRecDepth 100000
set_option maxHeartbeats 16000000
namespace Go.Proofs.YthkbcjnbmciolaaGreatDoor
open Go.RowKit Go.PlainAid G MGF IRow
set_option linter.unusedVariables false
def Seen (w : World) (b : Nat) (S : Nat -> Bool) : Prop:=b < w.heap.size /\ ∀ i,i < 256 -> w.cell? ⟨b,i,none⟩ = some (.bool (S i)) /\ w.frozen? ⟨b,i,none⟩ = false
theorem Seen.set {w : World} {b : Nat} {S : Nat -> Bool} (h : Seen w b S) {i : Nat} (_ : i < 256) (T : Nat -> Bool) (hT : ∀ j,j < 256 -> T j = if j = i then true else S j) : Seen (w.setCell ⟨b,i,none⟩ (.bool true)) b T:=by
 refine ⟨by simpa using h.1,fun j hj => ⟨?_,by rw [World.frozen?_setCell];exact (h.2 j hj).2⟩⟩
 rw [hT j hj]
 by_cases e : j = i
 · subst e
   rw [World.cell?_setCell_same _ _ _ (h.2 j hj).1,if_pos rfl]
 · rw [World.cell?_setCell_other _ _ _ _ (fun h2 => e (by injection h2 with _ h3 _;exact h3.symm)),(h.2 j hj).1,if_neg e]
theorem Seen.below {w w' : World} {b : Nat} {S : Nat -> Bool} (h : Seen w b S) (hb : Below w.heap.size w w') : Seen w' b S :=
 ⟨Nat.lt_of_lt_of_le h.1 hb.size,fun i hi => ⟨(hb.cell (p:=⟨b,i,none⟩) h.1).trans (h.2 i hi).1,(hb.frozen (p:=⟨b,i,none⟩) h.1).trans (h.2 i hi).2⟩⟩
theorem zero_seen : Tryz.zeroCells222.toList = List.replicate 256 (.bool false):=by kernel_rfl
theorem seen_new (w : World) : Seen (w.alloc (.cells Tryz.zeroCells222 222)) w.heap.size (fun _ => false):=by
 refine ⟨by rw [World.size_alloc];omega,fun i hi => ⟨?_,World.frozen?_alloc_new w _ _ i⟩⟩
 rw [World.cell?_alloc_new w,<- Array.getElem?_toList,zero_seen,List.getElem?_replicate,if_pos hi]
end Go.Proofs.YthkbcjnbmciolaaGreatDoor
namespace Go.Proofs.YthkbcjnbmciolaaGreatDoor
open Go.RowKit Go.PlainAid G MGF IRow
set_option linter.unusedVariables false
end Go.Proofs.YthkbcjnbmciolaaGreatDoor
namespace Go.Proofs.YthkbcjnbmciolaaGreatDoor
open Go.RowKit Go.PlainAid G MGF IRow
set_option linter.unusedVariables false
end Go.Proofs.YthkbcjnbmciolaaGreatDoor
namespace Go.Proofs.YthkbcjnbmciolaaGreatDoor
open Go.RowKit Go.PlainAid G MGF IRow
set_option linter.unusedVariables false
theorem secretRight_any (t : ByteArray) (w : World) (ht : t.size <= maxLen) :
 Calls Tryz.prog 59 #[.string t] w fun e w' => e = .returned (.bool (secB t)) /\ w = w':=by
 unfold maxLen at ht
 by_cases h1 : 1 <= t.size
 · by_cases h2 : t.size <= 16
   · have HF : Hid (true = secB t):=qH (by unfold secB;rw [decide_eq_true ⟨h1,h2⟩])
     go_enter Tryz.func59,Tryz.ntmps59
     go_wp2
     go_ret
     exact ⟨ret_bool (by rw [<- HF.out];simp;omega),rfl⟩
   · have HF : Hid (false = secB t):=qH (by unfold secB;rw [decide_eq_false (by omega)])
     go_enter Tryz.func59,Tryz.ntmps59
     go_wp2
     go_ret
     exact ⟨ret_bool (by rw [<- HF.out];simp;omega),rfl⟩
 · have HF : Hid (false = secB t):=qH (by unfold secB;rw [decide_eq_false (by omega)])
   have h0 : t.size = 0:=by omega
   go_enter Tryz.func59,Tryz.ntmps59
   go_wp2
   go_ret
   exact ⟨ret_bool HF.out,rfl⟩
theorem needRight_any (n : Int) (w : World) :
 Calls Tryz.prog 105 #[.int .i64 n] w fun e w' => e = .returned (.bool (needB n)) /\ w = w':=by
 by_cases h1 : 1 <= n
 · by_cases h2 : n <= 10
   · have HF : Hid (true = needB n):=qH (by unfold needB;rw [decide_eq_true ⟨h1,h2⟩])
     go_enter Tryz.func105,Tryz.ntmps105
     go_wp2
     go_ret
     exact ⟨ret_bool HF.out,rfl⟩
   · have HF : Hid (false = needB n):=qH (by unfold needB;rw [decide_eq_false (by omega)])
     go_enter Tryz.func105,Tryz.ntmps105
     go_wp2
     go_ret
     exact ⟨ret_bool HF.out,rfl⟩
 · have HF : Hid (false = needB n):=qH (by unfold needB;rw [decide_eq_false (by omega)])
   go_enter Tryz.func105,Tryz.ntmps105
   go_wp2
   go_ret
   exact ⟨ret_bool HF.out,rfl⟩
theorem manyRight_any (n m : Int) (w : World) :
 Calls Tryz.prog 87 #[.int .i64 n,.int .i64 m] w fun e w' => e = .returned (.bool (manyB n m)) /\ w = w':=by
 cases hn : needB n
 · have HF : Hid (false = manyB n m):=qH (by unfold manyB;rw [hn];rfl)
   go_enter Tryz.func87,Tryz.ntmps87
   go_wp2_with fail
   refine (needRight_any n _).mono ?_
   rintro e w1 ⟨rfl,rfl⟩
   rw [hn]
   go_wp2_with fail
   go_ret
   exact ⟨ret_bool HF.out,rfl⟩
 · by_cases h1 : n <= m
   · by_cases h2 : m <= 20
     · have HF : Hid (true = manyB n m):=qH (by unfold manyB;rw [hn,decide_eq_true ⟨h1,h2⟩];rfl)
       go_enter Tryz.func87,Tryz.ntmps87
       go_wp2_with fail
       refine (needRight_any n _).mono ?_
       rintro e w1 ⟨rfl,rfl⟩
       rw [hn]
       go_wp2_with fail
       go_ret
       exact ⟨ret_bool HF.out,rfl⟩
     · have HF : Hid (false = manyB n m):=qH (by unfold manyB;rw [hn,decide_eq_false (by omega)];rfl)
       go_enter Tryz.func87,Tryz.ntmps87
       go_wp2_with fail
       refine (needRight_any n _).mono ?_
       rintro e w1 ⟨rfl,rfl⟩
       rw [hn]
       go_wp2_with fail
       go_ret
       exact ⟨ret_bool (by rw [<- HF.out];simp <;> omega),rfl⟩
   · have HF : Hid (false = manyB n m):=qH (by unfold manyB;rw [hn,decide_eq_false (by omega)];rfl)
     go_enter Tryz.func87,Tryz.ntmps87
     go_wp2_with fail
     refine (needRight_any n _).mono ?_
     rintro e w1 ⟨rfl,rfl⟩
     rw [hn]
     go_wp2_with fail
     go_ret
     exact ⟨ret_bool HF.out,rfl⟩
end Go.Proofs.YthkbcjnbmciolaaGreatDoor
namespace Go.Proofs.YthkbcjnbmciolaaGreatDoor
open Go.RowKit Go.PlainAid G MGF IRow
set_option linter.unusedVariables false
end Go.Proofs.YthkbcjnbmciolaaGreatDoor
namespace Go.Proofs.YthkbcjnbmciolaaGreatDoor
open Go.RowKit Go.PlainAid G MGF IRow
set_option linter.unusedVariables false
end Go.Proofs.YthkbcjnbmciolaaGreatDoor
namespace Go.Proofs.YthkbcjnbmciolaaGreatDoor
open Go.RowKit Go.PlainAid G MGF IRow
set_option linter.unusedVariables false
theorem l04Secret_any (t : ByteArray) (w : World) (ht : t.size <= maxLen) :
 Calls Tryz.prog 48 #[.string t] w fun e w' => e = .returned (.bool (secB t)) /\ w = w':=by
 unfold maxLen at ht
 by_cases h1 : 1 <= t.size
 · by_cases h2 : t.size <= 16
   · have HF : Hid (true = secB t):=qH (by unfold secB;rw [decide_eq_true ⟨h1,h2⟩])
     go_enter Tryz.func48,Tryz.ntmps48
     go_wp2
     go_ret
     exact ⟨ret_bool (by rw [<- HF.out];simp;omega),rfl⟩
   · have HF : Hid (false = secB t):=qH (by unfold secB;rw [decide_eq_false (by omega)])
     go_enter Tryz.func48,Tryz.ntmps48
     go_wp2
     go_ret
     exact ⟨ret_bool (by rw [<- HF.out];simp;omega),rfl⟩
 · have HF : Hid (false = secB t):=qH (by unfold secB;rw [decide_eq_false (by omega)])
   have h0 : t.size = 0:=by omega
   go_enter Tryz.func48,Tryz.ntmps48
   go_wp2
   go_ret
   exact ⟨ret_bool HF.out,rfl⟩
end Go.Proofs.YthkbcjnbmciolaaGreatDoor
namespace Go.Proofs.YthkbcjnbmciolaaGreatDoor
open Go.RowKit Go.PlainAid G MGF IRow
set_option linter.unusedVariables false
end Go.Proofs.YthkbcjnbmciolaaGreatDoor
