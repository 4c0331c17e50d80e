/- Used by the law. -/
import Derived.Test.YthkbcjnbmciolaaGreatDoorQV15
set_option maxRecDepth 100000
set_option maxHeartbeats 16000000
namespace Go.Proofs.YthkbcjnbmciolaaGreatDoor.M2
open Go.PlainAid
def smallB (c : Int) : Bool:=decide (97 <= c) && decide (c <= 122)
end Go.Proofs.YthkbcjnbmciolaaGreatDoor.M2
namespace Go.Proofs.YthkbcjnbmciolaaGreatDoor
open Go.RowKit M2 G
set_option linter.unusedVariables false
theorem isSmall_any (c : Int) (w : World) :
 Calls Tryz.prog 227 #[.int .u8 c] w fun e w' => e = .returned (.bool (smallB c)) /\ w = w':=by
 unfold smallB
 by_cases a : 97 <= c <;> by_cases b : c <= 122
 all_goals
  go_enter Tryz.func227,Tryz.ntmps227
  go_wp2
  go_ret
  exact ⟨by simp [a,b],rfl⟩
end Go.Proofs.YthkbcjnbmciolaaGreatDoor
namespace Go.Proofs.YthkbcjnbmciolaaGreatDoor
open Go.RowKit Go.PlainAid G M2
set_option linter.unusedVariables false
theorem implWordEq_any (t : ByteArray) (w : World) (ht : t.size <= maxLen) :
 Calls Tryz.prog 226 #[.string t] w fun e w' => e = .returned (.bool (wordB t)) /\ w = w':=by
 unfold maxLen at ht
 by_cases h1 : t.size < 1
 · have HF : Hid (false = wordB t):=qH (by unfold wordB;rw [decide_eq_false (by omega)];rfl)
   go_enter Tryz.func226,Tryz.ntmps226
   go_wp2
   go_ret
   exact ⟨ret_bool HF.out,rfl⟩
 · by_cases h2 : 8 < t.size
   · have HF : Hid (false = wordB t):=qH (by unfold wordB;rw [decide_eq_false (by omega)];rfl)
     go_enter Tryz.func226,Tryz.ntmps226
     go_wp2
     go_ret
     exact ⟨ret_bool HF.out,rfl⟩
   · go_enter Tryz.func226,Tryz.ntmps226
     go_wp2_with fail
     go_loop [14] (fun i => ∃ k : Nat,k <= t.size /\ i = .int .i64 k /\ Hid (azTo t k = true)) (fun i => t.size - (intOf i).toNat)
     case atStart => exact ⟨0,Nat.zero_le _,rfl,qH (azTo_zero t)⟩
     case round =>
      obtain ⟨k,hk,rfl,HA⟩:=hrel
      by_cases hlt : k < t.size
      · have hb : ((t[k]'hlt).toNat : Int) = bt t k:=by unfold bt;rw [dif_pos hlt]
        have hin : (k : Int) < (t.size : Int):=by omega
        cases hs : smallB (bt t k)
        · have HF:=qH (wordB_no hlt (fun h => by unfold smallB at hs;simp at hs;omega)).symm
          go_wp2_with (go_at_call 227;refine (isSmall_any _ _).mono ?_;rintro e w1 ⟨rfl,rfl⟩;(try rw [hb]);rw [hs])
          go_ret
          exact ⟨ret_bool HF.out,rfl⟩
        · have h12 : 97 <= bt t k /\ bt t k <= 122:=by unfold smallB at hs;simpa using hs
          have HS:=qH (azTo_succ HA.out h12.1 h12.2)
          clear h12
          go_wp2_with (go_at_call 227;refine (isSmall_any _ _).mono ?_;rintro e w1 ⟨rfl,rfl⟩;(try rw [hb]);rw [hs])
          go_round
          case rel => exact ⟨k + 1,by omega,by go_num,HS⟩
          case measure => simp [intOf];omega
      · obtain rfl : k = t.size:=by omega
        have HF : Hid (true = wordB t):=qH (by rw [wordB_at HA.out];exact (decide_eq_true (by omega)).symm)
        go_wp2_with fail
        go_ret
        exact ⟨ret_bool HF.out,rfl⟩
theorem implWord_any (t : ByteArray) (w : World) (ht : t.size <= maxLen) :
 Calls Tryz.prog 226 #[.string t] w fun e w' => e = .returned (.bool (wordB t)) /\ Below w.heap.size w w':=by
 refine (implWordEq_any t w ht).mono ?_
 rintro e w1 ⟨rfl,rfl⟩
 exact ⟨rfl,Below.refl _ _⟩
def many2B (n m : Int) : Bool:=decide (1 <= n /\ n <= 10) && decide (n <= m /\ m <= 20)
theorem needOk_any (n : Int) (w : World) :
 Calls Tryz.prog 105 #[.int .i64 n] w fun e w' => e = .returned (.bool (decide (1 <= n /\ n <= 10))) /\ w = w':=by
 by_cases h1 : 1 <= n
 · by_cases h2 : n <= 10
   · go_enter Tryz.func105,Tryz.ntmps105
     go_wp2
     go_ret
     exact ⟨by simp <;> omega,rfl⟩
   · go_enter Tryz.func105,Tryz.ntmps105
     go_wp2
     go_ret
     exact ⟨by simp <;> omega,rfl⟩
 · go_enter Tryz.func105,Tryz.ntmps105
   go_wp2
   go_ret
   exact ⟨by simp <;> omega,rfl⟩
theorem manyOk_any (n m : Int) (w : World) :
 Calls Tryz.prog 87 #[.int .i64 n,.int .i64 m] w fun e w' => e = .returned (.bool (many2B n m)) /\ w = w':=by
 cases hn : decide (1 <= n /\ n <= 10)
 · have HF : Hid (false = many2B n m):=qH (by unfold many2B;rw [hn];rfl)
   go_enter Tryz.func87,Tryz.ntmps87
   go_wp2_with fail
   refine (needOk_any n _).mono ?_
   rintro e w1 ⟨rfl,rfl⟩
   rw [hn]
   go_wp2_with fail
   go_ret
   exact ⟨ret_bool HF.out,rfl⟩
 · have HF : Hid (decide (n <= m /\ m <= 20) = many2B n m):=qH (by unfold many2B;rw [hn];rfl)
   by_cases h1 : n <= m
   · by_cases h2 : m <= 20
     · go_enter Tryz.func87,Tryz.ntmps87
       go_wp2_with fail
       refine (needOk_any n _).mono ?_
       rintro e w1 ⟨rfl,rfl⟩
       rw [hn]
       go_wp2_with fail
       go_ret
       exact ⟨ret_bool (by rw [<- HF.out];simp <;> omega),rfl⟩
     · go_enter Tryz.func87,Tryz.ntmps87
       go_wp2_with fail
       refine (needOk_any n _).mono ?_
       rintro e w1 ⟨rfl,rfl⟩
       rw [hn]
       go_wp2_with fail
       go_ret
       exact ⟨ret_bool (by rw [<- HF.out];simp <;> omega),rfl⟩
   · go_enter Tryz.func87,Tryz.ntmps87
     go_wp2_with fail
     refine (needOk_any n _).mono ?_
     rintro e w1 ⟨rfl,rfl⟩
     rw [hn]
     go_wp2_with fail
     go_ret
     exact ⟨ret_bool (by rw [<- HF.out];simp <;> omega),rfl⟩
theorem implConf_any (g n m c : Int) (w : World)  :
 Calls Tryz.prog 215 #[.agg #[.int .i64 g,.int .i64 n,.int .i64 m,.int .i64 c]] w fun e w' => e = .returned (.bool (confB g n m c)) /\ Below w.heap.size w w':=by
 have HB : Hid (Below w.heap.size w (w.alloc (.cells #[.int .i64 g,.int .i64 n,.int .i64 m,.int .i64 c] 39))):=qH ((Below.refl _ _).alloc (Nat.le_refl _) _)
 by_cases h1 : 1 <= g
 · skip
   by_cases h2 : g <= 999
   · skip
     cases hm : many2B n m
     · skip
       have HF : Hid (false = confB g n m c):=qH (by unfold confB nums3B;unfold many2B at hm;rw [Bool.and_assoc (decide (1 <= g /\ g <= 999)),hm,Bool.and_false,Bool.false_and])
       go_enter Tryz.func215,Tryz.ntmps215
       go_wp2_with (go_at_call 87;refine (manyOk_any n m _).mono ?_;rintro e w1 ⟨rfl,rfl⟩;rw [hm])
       go_ret
       exact ⟨ret_bool (by first | exact HF.out | (rw [<- HF.out];simp <;> omega)),HB.out⟩
     · skip
       by_cases h3 : 0 <= c
       · skip
         by_cases h4 : c <= 4294967295
         · skip
           have HF : Hid (true = confB g n m c):=qH (by unfold confB nums3B;unfold many2B at hm;rw [Bool.and_assoc (decide (1 <= g /\ g <= 999)),hm,decide_eq_true ⟨h1,h2⟩,decide_eq_true ⟨h3,h4⟩];rfl)
           go_enter Tryz.func215,Tryz.ntmps215
           go_wp2_with (go_at_call 87;refine (manyOk_any n m _).mono ?_;rintro e w1 ⟨rfl,rfl⟩;rw [hm])
           go_ret
           exact ⟨ret_bool (by first | exact HF.out | (rw [<- HF.out];simp <;> omega)),HB.out⟩
         · skip
           have HF : Hid (false = confB g n m c):=qH (by unfold confB;rw [decide_eq_false (p:=0 <= c /\ c <= 4294967295) (by omega),Bool.and_false])
           go_enter Tryz.func215,Tryz.ntmps215
           go_wp2_with (go_at_call 87;refine (manyOk_any n m _).mono ?_;rintro e w1 ⟨rfl,rfl⟩;rw [hm])
           go_ret
           exact ⟨ret_bool (by first | exact HF.out | (rw [<- HF.out];simp <;> omega)),HB.out⟩
       · skip
         have HF : Hid (false = confB g n m c):=qH (by unfold confB;rw [decide_eq_false (p:=0 <= c /\ c <= 4294967295) (by omega),Bool.and_false])
         go_enter Tryz.func215,Tryz.ntmps215
         go_wp2_with (go_at_call 87;refine (manyOk_any n m _).mono ?_;rintro e w1 ⟨rfl,rfl⟩;rw [hm])
         go_ret
         exact ⟨ret_bool (by first | exact HF.out | (rw [<- HF.out];simp <;> omega)),HB.out⟩
   · skip
     have HF : Hid (false = confB g n m c):=qH (by unfold confB nums3B;rw [decide_eq_false (p:=1 <= g /\ g <= 999) (by omega)];simp only [Bool.false_and])
     go_enter Tryz.func215,Tryz.ntmps215
     go_wp2_with (go_at_call 87;refine (manyOk_any n m _).mono ?_;rintro e w1 ⟨rfl,rfl⟩;rw [hm])
     go_ret
     exact ⟨ret_bool (by first | exact HF.out | (rw [<- HF.out];simp <;> omega)),HB.out⟩
 · skip
   have HF : Hid (false = confB g n m c):=qH (by unfold confB nums3B;rw [decide_eq_false (p:=1 <= g /\ g <= 999) (by omega)];simp only [Bool.false_and])
   go_enter Tryz.func215,Tryz.ntmps215
   go_wp2_with (go_at_call 87;refine (manyOk_any n m _).mono ?_;rintro e w1 ⟨rfl,rfl⟩;rw [hm])
   go_ret
   exact ⟨ret_bool (by first | exact HF.out | (rw [<- HF.out];simp <;> omega)),HB.out⟩
theorem implTerm_any (no : Int) (lk : ByteArray) (w : World) (ht : lk.size <= maxLen) :
 Calls Tryz.prog 220 #[.agg #[.int .i64 no,.string lk]] w fun e w' => e = .returned (.bool (termB no lk)) /\ Below w.heap.size w w':=by
 have HB : Hid (Below w.heap.size w (w.alloc (.cells #[.int .i64 no,.string lk] 97))):=qH ((Below.refl _ _).alloc (Nat.le_refl _) _)
 have HT:=qH ht
 clear ht
 by_cases h1 : 1 <= no
 · skip
   by_cases h2 : no <= 5
   · skip
     cases hs : secR lk
     · skip
       have HF : Hid (false = termB no lk):=qH (by unfold termB;rw [hs,Bool.and_false])
       go_enter Tryz.func220,Tryz.ntmps220
       go_wp2_with (go_at_call 59;refine (secretOk_any lk _ HT.out).mono ?_;rintro e w1 ⟨rfl,rfl⟩;rw [hs])
       go_ret
       exact ⟨ret_bool (by first | exact HF.out | (rw [<- HF.out];simp <;> omega)),HB.out⟩
     · skip
       have HF : Hid (true = termB no lk):=qH (by unfold termB;rw [hs,decide_eq_true ⟨h1,h2⟩];rfl)
       go_enter Tryz.func220,Tryz.ntmps220
       go_wp2_with (go_at_call 59;refine (secretOk_any lk _ HT.out).mono ?_;rintro e w1 ⟨rfl,rfl⟩;rw [hs])
       go_ret
       exact ⟨ret_bool (by first | exact HF.out | (rw [<- HF.out];simp <;> omega)),HB.out⟩
   · skip
     have HF : Hid (false = termB no lk):=qH (by unfold termB;rw [decide_eq_false (p:=1 <= no /\ no <= 5) (by omega),Bool.false_and])
     go_enter Tryz.func220,Tryz.ntmps220
     go_wp2_with (go_at_call 59;refine (secretOk_any lk _ HT.out).mono ?_;rintro e w1 ⟨rfl,rfl⟩;rw [hs])
     go_ret
     exact ⟨ret_bool (by first | exact HF.out | (rw [<- HF.out];simp <;> omega)),HB.out⟩
 · skip
   have HF : Hid (false = termB no lk):=qH (by unfold termB;rw [decide_eq_false (p:=1 <= no /\ no <= 5) (by omega),Bool.false_and])
   go_enter Tryz.func220,Tryz.ntmps220
   go_wp2_with (go_at_call 59;refine (secretOk_any lk _ HT.out).mono ?_;rintro e w1 ⟨rfl,rfl⟩;rw [hs])
   go_ret
   exact ⟨ret_bool (by first | exact HF.out | (rw [<- HF.out];simp <;> omega)),HB.out⟩
theorem implItem_any (nm : ByteArray) (tm : Int) (bd : ByteArray) (w : World) (hn : nm.size <= maxLen) (hb : bd.size <= maxLen) :
 Calls Tryz.prog 225 #[.agg #[.string nm,.int .i64 tm,.string bd]] w fun e w' => e = .returned (.bool (itemB nm tm bd)) /\ Below w.heap.size w w':=by
 have HB : Hid (Below w.heap.size w (w.alloc (.cells #[.string nm,.int .i64 tm,.string bd] 62))):=qH ((Below.refl _ _).alloc (Nat.le_refl _) _)
 have HT:=qH hn
 unfold maxLen at hb
 clear hn
 cases hw : wordB nm
 · skip
   have HF : Hid (false = itemB nm tm bd):=qH (by unfold itemB;rw [hw];rfl)
   go_enter Tryz.func225,Tryz.ntmps225
   go_wp2_with (go_at_call 226;refine (implWordEq_any nm _ HT.out).mono ?_;rintro e w1 ⟨rfl,rfl⟩;rw [hw])
   go_ret
   exact ⟨ret_bool (by first | exact HF.out | (rw [<- HF.out];simp <;> omega)),HB.out⟩
 · skip
   by_cases h1 : 1 <= tm
   · skip
     by_cases h2 : tm <= 5
     · skip
       by_cases h3 : 1 <= bd.size
       · skip
         by_cases h4 : bd.size <= 20
         · skip
           have HF : Hid (true = itemB nm tm bd):=qH (by unfold itemB;rw [hw,decide_eq_true ⟨h1,h2⟩,decide_eq_true ⟨h3,h4⟩];rfl)
           go_enter Tryz.func225,Tryz.ntmps225
           go_wp2_with (go_at_call 226;refine (implWordEq_any nm _ HT.out).mono ?_;rintro e w1 ⟨rfl,rfl⟩;rw [hw])
           go_ret
           exact ⟨ret_bool (by first | exact HF.out | (rw [<- HF.out];simp <;> omega)),HB.out⟩
         · skip
           have HF : Hid (false = itemB nm tm bd):=qH (by unfold itemB;rw [decide_eq_false (p:=1 <= bd.size /\ bd.size <= 20) (by omega),Bool.and_false])
           go_enter Tryz.func225,Tryz.ntmps225
           go_wp2_with (go_at_call 226;refine (implWordEq_any nm _ HT.out).mono ?_;rintro e w1 ⟨rfl,rfl⟩;rw [hw])
           go_ret
           exact ⟨ret_bool (by first | exact HF.out | (rw [<- HF.out];simp <;> omega)),HB.out⟩
       · skip
         have HF : Hid (false = itemB nm tm bd):=qH (by unfold itemB;rw [decide_eq_false (p:=1 <= bd.size /\ bd.size <= 20) (by omega),Bool.and_false])
         go_enter Tryz.func225,Tryz.ntmps225
         go_wp2_with (go_at_call 226;refine (implWordEq_any nm _ HT.out).mono ?_;rintro e w1 ⟨rfl,rfl⟩;rw [hw])
         go_ret
         exact ⟨ret_bool (by first | exact HF.out | (rw [<- HF.out];simp <;> omega)),HB.out⟩
     · skip
       have HF : Hid (false = itemB nm tm bd):=qH (by unfold itemB;rw [decide_eq_false (p:=1 <= tm /\ tm <= 5) (by omega),Bool.and_false,Bool.false_and])
       go_enter Tryz.func225,Tryz.ntmps225
       go_wp2_with (go_at_call 226;refine (implWordEq_any nm _ HT.out).mono ?_;rintro e w1 ⟨rfl,rfl⟩;rw [hw])
       go_ret
       exact ⟨ret_bool (by first | exact HF.out | (rw [<- HF.out];simp <;> omega)),HB.out⟩
   · skip
     have HF : Hid (false = itemB nm tm bd):=qH (by unfold itemB;rw [decide_eq_false (p:=1 <= tm /\ tm <= 5) (by omega),Bool.and_false,Bool.false_and])
     go_enter Tryz.func225,Tryz.ntmps225
     go_wp2_with (go_at_call 226;refine (implWordEq_any nm _ HT.out).mono ?_;rintro e w1 ⟨rfl,rfl⟩;rw [hw])
     go_ret
     exact ⟨ret_bool (by first | exact HF.out | (rw [<- HF.out];simp <;> omega)),HB.out⟩
end Go.Proofs.YthkbcjnbmciolaaGreatDoor
