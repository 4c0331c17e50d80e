/- Used by the law. -/
import Derived.Test.YtbgoldeopmlbnaaGreatDoorQB14
set_option maxRecDepth 100000
set_option maxHeartbeats 16000000
namespace Go.Proofs.YtbgoldeopmlbnaaGreatDoor
open Go.RowKit M2 G
set_option linter.unusedVariables false
theorem isSmall_any (c : Int) (w : World) :
 Calls Tryz.prog 56 #[.int .u8 c] w fun e w' => e = .returned (.bool (smallB c)) /\ w = w':=by
 unfold smallB
 by_cases a : 97 <= c <;> by_cases b : c <= 122
 all_goals
  go_enter Tryz.func56,Tryz.ntmps56
  go_wp2
  go_ret
  exact ⟨by simp [a,b],rfl⟩
end Go.Proofs.YtbgoldeopmlbnaaGreatDoor
namespace Go.Proofs.YtbgoldeopmlbnaaGreatDoor
open Go.RowKit Go.PlainAid G M2
set_option linter.unusedVariables false
theorem implWordEq_any (t : ByteArray) (w : World) (ht : t.size <= maxLen) :
 Calls Tryz.prog 19 #[.string t] w fun e w' => e = .returned (.bool (wordB t)) /\ w = w':=by
 unfold maxLen at ht
 by_cases h1 : t.size < 1
 · have HF : Hid (false = wordB t):=qH (by unfold wordB;rw [decide_eq_false (by omega)];rfl)
   go_enter Tryz.func19,Tryz.ntmps19
   go_wp2
   go_ret
   exact ⟨ret_bool HF.out,rfl⟩
 · by_cases h2 : 8 < t.size
   · have HF : Hid (false = wordB t):=qH (by unfold wordB;rw [decide_eq_false (by omega)];rfl)
     go_enter Tryz.func19,Tryz.ntmps19
     go_wp2
     go_ret
     exact ⟨ret_bool HF.out,rfl⟩
   · go_enter Tryz.func19,Tryz.ntmps19
     go_wp2_with fail
     go_loop [14] (fun i => ∃ k : Nat,k <= t.size /\ i = .int .i64 k /\ Hid (azTo t k = true)) (fun i => t.size - (intOf i).toNat)
     case atStart => exact ⟨0,Nat.zero_le _,rfl,qH (azTo_zero t)⟩
     case round =>
      obtain ⟨k,hk,rfl,HA⟩:=hrel
      by_cases hlt : k < t.size
      · have hb : ((t[k]'hlt).toNat : Int) = bt t k:=by unfold bt;rw [dif_pos hlt]
        have hin : (k : Int) < (t.size : Int):=by omega
        cases hs : smallB (bt t k)
        · have HF:=qH (wordB_no hlt (fun h => by unfold smallB at hs;simp at hs;omega)).symm
          go_wp2_with (go_at_call 56;refine (isSmall_any _ _).mono ?_;rintro e w1 ⟨rfl,rfl⟩;(try rw [hb]);rw [hs])
          go_ret
          exact ⟨ret_bool HF.out,rfl⟩
        · have h12 : 97 <= bt t k /\ bt t k <= 122:=by unfold smallB at hs;simpa using hs
          have HS:=qH (azTo_succ HA.out h12.1 h12.2)
          clear h12
          go_wp2_with (go_at_call 56;refine (isSmall_any _ _).mono ?_;rintro e w1 ⟨rfl,rfl⟩;(try rw [hb]);rw [hs])
          go_round
          case rel => exact ⟨k + 1,by omega,by go_num,HS⟩
          case measure => simp [intOf];omega
      · obtain rfl : k = t.size:=by omega
        have HF : Hid (true = wordB t):=qH (by rw [wordB_at HA.out];exact (decide_eq_true (by omega)).symm)
        go_wp2_with fail
        go_ret
        exact ⟨ret_bool HF.out,rfl⟩
theorem implWord_any (t : ByteArray) (w : World) (ht : t.size <= maxLen) :
 Calls Tryz.prog 19 #[.string t] w fun e w' => e = .returned (.bool (wordB t)) /\ Below w.heap.size w w':=by
 refine (implWordEq_any t w ht).mono ?_
 rintro e w1 ⟨rfl,rfl⟩
 exact ⟨rfl,Below.refl _ _⟩
def many2B (n m : Int) : Bool:=decide (1 <= n /\ n <= 10) && decide (n <= m /\ m <= 20)
theorem needOk_any (n : Int) (w : World) :
 Calls Tryz.prog 103 #[.int .i64 n] w fun e w' => e = .returned (.bool (decide (1 <= n /\ n <= 10))) /\ w = w':=by
 by_cases h1 : 1 <= n
 · by_cases h2 : n <= 10
   · go_enter Tryz.func103,Tryz.ntmps103
     go_wp2
     go_ret
     exact ⟨by simp <;> omega,rfl⟩
   · go_enter Tryz.func103,Tryz.ntmps103
     go_wp2
     go_ret
     exact ⟨by simp <;> omega,rfl⟩
 · go_enter Tryz.func103,Tryz.ntmps103
   go_wp2
   go_ret
   exact ⟨by simp <;> omega,rfl⟩
theorem manyOk_any (n m : Int) (w : World) :
 Calls Tryz.prog 89 #[.int .i64 n,.int .i64 m] w fun e w' => e = .returned (.bool (many2B n m)) /\ w = w':=by
 cases hn : decide (1 <= n /\ n <= 10)
 · have HF : Hid (false = many2B n m):=qH (by unfold many2B;rw [hn];rfl)
   go_enter Tryz.func89,Tryz.ntmps89
   go_wp2_with fail
   refine (needOk_any n _).mono ?_
   rintro e w1 ⟨rfl,rfl⟩
   rw [hn]
   go_wp2_with fail
   go_ret
   exact ⟨ret_bool HF.out,rfl⟩
 · have HF : Hid (decide (n <= m /\ m <= 20) = many2B n m):=qH (by unfold many2B;rw [hn];rfl)
   by_cases h1 : n <= m
   · by_cases h2 : m <= 20
     · go_enter Tryz.func89,Tryz.ntmps89
       go_wp2_with fail
       refine (needOk_any n _).mono ?_
       rintro e w1 ⟨rfl,rfl⟩
       rw [hn]
       go_wp2_with fail
       go_ret
       exact ⟨ret_bool (by rw [<- HF.out];simp <;> omega),rfl⟩
     · go_enter Tryz.func89,Tryz.ntmps89
       go_wp2_with fail
       refine (needOk_any n _).mono ?_
       rintro e w1 ⟨rfl,rfl⟩
       rw [hn]
       go_wp2_with fail
       go_ret
       exact ⟨ret_bool (by rw [<- HF.out];simp <;> omega),rfl⟩
   · go_enter Tryz.func89,Tryz.ntmps89
     go_wp2_with fail
     refine (needOk_any n _).mono ?_
     rintro e w1 ⟨rfl,rfl⟩
     rw [hn]
     go_wp2_with fail
     go_ret
     exact ⟨ret_bool (by rw [<- HF.out];simp <;> omega),rfl⟩
theorem implConf_any (g n m c : Int) (w : World)  :
 Calls Tryz.prog 58 #[.agg #[.int .i64 g,.int .i64 n,.int .i64 m,.int .i64 c]] w fun e w' => e = .returned (.bool (confB g n m c)) /\ Below w.heap.size w w':=by
 have HB : Hid (Below w.heap.size w (w.alloc (.cells #[.int .i64 g,.int .i64 n,.int .i64 m,.int .i64 c] 24))):=qH ((Below.refl _ _).alloc (Nat.le_refl _) _)
 by_cases h1 : 1 <= g
 · skip
   by_cases h2 : g <= 999
   · skip
     cases hm : many2B n m
     · skip
       have HF : Hid (false = confB g n m c):=qH (by unfold confB nums3B;unfold many2B at hm;rw [Bool.and_assoc (decide (1 <= g /\ g <= 999)),hm,Bool.and_false,Bool.false_and])
       go_enter Tryz.func58,Tryz.ntmps58
       go_wp2_with (go_at_call 89;refine (manyOk_any n m _).mono ?_;rintro e w1 ⟨rfl,rfl⟩;rw [hm])
       go_ret
       exact ⟨ret_bool (by first | exact HF.out | (rw [<- HF.out];simp <;> omega)),HB.out⟩
     · skip
       by_cases h3 : 0 <= c
       · skip
         by_cases h4 : c <= 4294967295
         · skip
           have HF : Hid (true = confB g n m c):=qH (by unfold confB nums3B;unfold many2B at hm;rw [Bool.and_assoc (decide (1 <= g /\ g <= 999)),hm,decide_eq_true ⟨h1,h2⟩,decide_eq_true ⟨h3,h4⟩];rfl)
           go_enter Tryz.func58,Tryz.ntmps58
           go_wp2_with (go_at_call 89;refine (manyOk_any n m _).mono ?_;rintro e w1 ⟨rfl,rfl⟩;rw [hm])
           go_ret
           exact ⟨ret_bool (by first | exact HF.out | (rw [<- HF.out];simp <;> omega)),HB.out⟩
         · skip
           have HF : Hid (false = confB g n m c):=qH (by unfold confB;rw [decide_eq_false (p:=0 <= c /\ c <= 4294967295) (by omega),Bool.and_false])
           go_enter Tryz.func58,Tryz.ntmps58
           go_wp2_with (go_at_call 89;refine (manyOk_any n m _).mono ?_;rintro e w1 ⟨rfl,rfl⟩;rw [hm])
           go_ret
           exact ⟨ret_bool (by first | exact HF.out | (rw [<- HF.out];simp <;> omega)),HB.out⟩
       · skip
         have HF : Hid (false = confB g n m c):=qH (by unfold confB;rw [decide_eq_false (p:=0 <= c /\ c <= 4294967295) (by omega),Bool.and_false])
         go_enter Tryz.func58,Tryz.ntmps58
         go_wp2_with (go_at_call 89;refine (manyOk_any n m _).mono ?_;rintro e w1 ⟨rfl,rfl⟩;rw [hm])
         go_ret
         exact ⟨ret_bool (by first | exact HF.out | (rw [<- HF.out];simp <;> omega)),HB.out⟩
   · skip
     have HF : Hid (false = confB g n m c):=qH (by unfold confB nums3B;rw [decide_eq_false (p:=1 <= g /\ g <= 999) (by omega)];simp only [Bool.false_and])
     go_enter Tryz.func58,Tryz.ntmps58
     go_wp2_with (go_at_call 89;refine (manyOk_any n m _).mono ?_;rintro e w1 ⟨rfl,rfl⟩;rw [hm])
     go_ret
     exact ⟨ret_bool (by first | exact HF.out | (rw [<- HF.out];simp <;> omega)),HB.out⟩
 · skip
   have HF : Hid (false = confB g n m c):=qH (by unfold confB nums3B;rw [decide_eq_false (p:=1 <= g /\ g <= 999) (by omega)];simp only [Bool.false_and])
   go_enter Tryz.func58,Tryz.ntmps58
   go_wp2_with (go_at_call 89;refine (manyOk_any n m _).mono ?_;rintro e w1 ⟨rfl,rfl⟩;rw [hm])
   go_ret
   exact ⟨ret_bool (by first | exact HF.out | (rw [<- HF.out];simp <;> omega)),HB.out⟩
theorem implTerm_any (no : Int) (lk : ByteArray) (w : World) (ht : lk.size <= maxLen) :
 Calls Tryz.prog 90 #[.agg #[.int .i64 no,.string lk]] w fun e w' => e = .returned (.bool (termB no lk)) /\ Below w.heap.size w w':=by
 have HB : Hid (Below w.heap.size w (w.alloc (.cells #[.int .i64 no,.string lk] 30))):=qH ((Below.refl _ _).alloc (Nat.le_refl _) _)
 have HT:=qH ht
 clear ht
 by_cases h1 : 1 <= no
 · skip
   by_cases h2 : no <= 5
   · skip
     cases hs : secR lk
     · skip
       have HF : Hid (false = termB no lk):=qH (by unfold termB;rw [hs,Bool.and_false])
       go_enter Tryz.func90,Tryz.ntmps90
       go_wp2_with (go_at_call 104;refine (secretOk_any lk _ HT.out).mono ?_;rintro e w1 ⟨rfl,rfl⟩;rw [hs])
       go_ret
       exact ⟨ret_bool (by first | exact HF.out | (rw [<- HF.out];simp <;> omega)),HB.out⟩
     · skip
       have HF : Hid (true = termB no lk):=qH (by unfold termB;rw [hs,decide_eq_true ⟨h1,h2⟩];rfl)
       go_enter Tryz.func90,Tryz.ntmps90
       go_wp2_with (go_at_call 104;refine (secretOk_any lk _ HT.out).mono ?_;rintro e w1 ⟨rfl,rfl⟩;rw [hs])
       go_ret
       exact ⟨ret_bool (by first | exact HF.out | (rw [<- HF.out];simp <;> omega)),HB.out⟩
   · skip
     have HF : Hid (false = termB no lk):=qH (by unfold termB;rw [decide_eq_false (p:=1 <= no /\ no <= 5) (by omega),Bool.false_and])
     go_enter Tryz.func90,Tryz.ntmps90
     go_wp2_with (go_at_call 104;refine (secretOk_any lk _ HT.out).mono ?_;rintro e w1 ⟨rfl,rfl⟩;rw [hs])
     go_ret
     exact ⟨ret_bool (by first | exact HF.out | (rw [<- HF.out];simp <;> omega)),HB.out⟩
 · skip
   have HF : Hid (false = termB no lk):=qH (by unfold termB;rw [decide_eq_false (p:=1 <= no /\ no <= 5) (by omega),Bool.false_and])
   go_enter Tryz.func90,Tryz.ntmps90
   go_wp2_with (go_at_call 104;refine (secretOk_any lk _ HT.out).mono ?_;rintro e w1 ⟨rfl,rfl⟩;rw [hs])
   go_ret
   exact ⟨ret_bool (by first | exact HF.out | (rw [<- HF.out];simp <;> omega)),HB.out⟩
theorem implItem_any (nm : ByteArray) (tm : Int) (bd : ByteArray) (w : World) (hn : nm.size <= maxLen) (hb : bd.size <= maxLen) :
 Calls Tryz.prog 91 #[.agg #[.string nm,.int .i64 tm,.string bd]] w fun e w' => e = .returned (.bool (itemB nm tm bd)) /\ Below w.heap.size w w':=by
 have HB : Hid (Below w.heap.size w (w.alloc (.cells #[.string nm,.int .i64 tm,.string bd] 32))):=qH ((Below.refl _ _).alloc (Nat.le_refl _) _)
 have HT:=qH hn
 unfold maxLen at hb
 clear hn
 cases hw : wordB nm
 · skip
   have HF : Hid (false = itemB nm tm bd):=qH (by unfold itemB;rw [hw];rfl)
   go_enter Tryz.func91,Tryz.ntmps91
   go_wp2_with (go_at_call 19;refine (implWordEq_any nm _ HT.out).mono ?_;rintro e w1 ⟨rfl,rfl⟩;rw [hw])
   go_ret
   exact ⟨ret_bool (by first | exact HF.out | (rw [<- HF.out];simp <;> omega)),HB.out⟩
 · skip
   by_cases h1 : 1 <= tm
   · skip
     by_cases h2 : tm <= 5
     · skip
       by_cases h3 : 1 <= bd.size
       · skip
         by_cases h4 : bd.size <= 20
         · skip
           have HF : Hid (true = itemB nm tm bd):=qH (by unfold itemB;rw [hw,decide_eq_true ⟨h1,h2⟩,decide_eq_true ⟨h3,h4⟩];rfl)
           go_enter Tryz.func91,Tryz.ntmps91
           go_wp2_with (go_at_call 19;refine (implWordEq_any nm _ HT.out).mono ?_;rintro e w1 ⟨rfl,rfl⟩;rw [hw])
           go_ret
           exact ⟨ret_bool (by first | exact HF.out | (rw [<- HF.out];simp <;> omega)),HB.out⟩
         · skip
           have HF : Hid (false = itemB nm tm bd):=qH (by unfold itemB;rw [decide_eq_false (p:=1 <= bd.size /\ bd.size <= 20) (by omega),Bool.and_false])
           go_enter Tryz.func91,Tryz.ntmps91
           go_wp2_with (go_at_call 19;refine (implWordEq_any nm _ HT.out).mono ?_;rintro e w1 ⟨rfl,rfl⟩;rw [hw])
           go_ret
           exact ⟨ret_bool (by first | exact HF.out | (rw [<- HF.out];simp <;> omega)),HB.out⟩
       · skip
         have HF : Hid (false = itemB nm tm bd):=qH (by unfold itemB;rw [decide_eq_false (p:=1 <= bd.size /\ bd.size <= 20) (by omega),Bool.and_false])
         go_enter Tryz.func91,Tryz.ntmps91
         go_wp2_with (go_at_call 19;refine (implWordEq_any nm _ HT.out).mono ?_;rintro e w1 ⟨rfl,rfl⟩;rw [hw])
         go_ret
         exact ⟨ret_bool (by first | exact HF.out | (rw [<- HF.out];simp <;> omega)),HB.out⟩
     · skip
       have HF : Hid (false = itemB nm tm bd):=qH (by unfold itemB;rw [decide_eq_false (p:=1 <= tm /\ tm <= 5) (by omega),Bool.and_false,Bool.false_and])
       go_enter Tryz.func91,Tryz.ntmps91
       go_wp2_with (go_at_call 19;refine (implWordEq_any nm _ HT.out).mono ?_;rintro e w1 ⟨rfl,rfl⟩;rw [hw])
       go_ret
       exact ⟨ret_bool (by first | exact HF.out | (rw [<- HF.out];simp <;> omega)),HB.out⟩
   · skip
     have HF : Hid (false = itemB nm tm bd):=qH (by unfold itemB;rw [decide_eq_false (p:=1 <= tm /\ tm <= 5) (by omega),Bool.and_false,Bool.false_and])
     go_enter Tryz.func91,Tryz.ntmps91
     go_wp2_with (go_at_call 19;refine (implWordEq_any nm _ HT.out).mono ?_;rintro e w1 ⟨rfl,rfl⟩;rw [hw])
     go_ret
     exact ⟨ret_bool (by first | exact HF.out | (rw [<- HF.out];simp <;> omega)),HB.out⟩
end Go.Proofs.YtbgoldeopmlbnaaGreatDoor
namespace Go.Proofs.YtbgoldeopmlbnaaGreatDoor
open Go.RowKit Go.PlainAid G
set_option linter.unusedVariables false
theorem deedOf1_any (q0 q1 q2 q3 q4 q5 : Int) (q6 q7 : ByteArray) (q8 : Int) (q9 : ByteArray) (h : q0 = 1) (w : World) :
 Calls Tryz.prog 32 #[.agg #[.int .i64 q0,.int .i64 q1,.int .i64 q2,.int .i64 q3,.int .i64 q4,.int .i64 q5,.string q6,.string q7,.int .i64 q8,.string q9]] w fun e w' => e = .returned (.iface 96 (.agg #[.int .i64 q1,.int .i64 q2,.int .i64 q3,.int .i64 q4])) /\ Below w.heap.size w w':=by
 subst h
 have HB : Hid (Below w.heap.size w (w.alloc (.cells #[.int .i64 1,.int .i64 q1,.int .i64 q2,.int .i64 q3,.int .i64 q4,.int .i64 q5,.string q6,.string q7,.int .i64 q8,.string q9] 34))):=qH ((Below.refl _ _).alloc (Nat.le_refl _) _)
 go_enter Tryz.func32,Tryz.ntmps32
 go_wp2_with fail
 go_ret
 exact ⟨rfl,HB.out⟩
theorem deedOf2_any (q0 q1 q2 q3 q4 q5 : Int) (q6 q7 : ByteArray) (q8 : Int) (q9 : ByteArray) (h : q0 = 2) (w : World) :
 Calls Tryz.prog 32 #[.agg #[.int .i64 q0,.int .i64 q1,.int .i64 q2,.int .i64 q3,.int .i64 q4,.int .i64 q5,.string q6,.string q7,.int .i64 q8,.string q9]] w fun e w' => e = .returned (.iface 97 (.agg #[.int .i64 q5,.string q6])) /\ Below w.heap.size w w':=by
 subst h
 have HB : Hid (Below w.heap.size w (w.alloc (.cells #[.int .i64 2,.int .i64 q1,.int .i64 q2,.int .i64 q3,.int .i64 q4,.int .i64 q5,.string q6,.string q7,.int .i64 q8,.string q9] 34))):=qH ((Below.refl _ _).alloc (Nat.le_refl _) _)
 go_enter Tryz.func32,Tryz.ntmps32
 go_wp2_with fail
 go_ret
 exact ⟨rfl,HB.out⟩
theorem deedOf3_any (q0 q1 q2 q3 q4 q5 : Int) (q6 q7 : ByteArray) (q8 : Int) (q9 : ByteArray) (h : q0 = 3) (w : World) :
 Calls Tryz.prog 32 #[.agg #[.int .i64 q0,.int .i64 q1,.int .i64 q2,.int .i64 q3,.int .i64 q4,.int .i64 q5,.string q6,.string q7,.int .i64 q8,.string q9]] w fun e w' => e = .returned (.iface 98 (.agg #[.string q7,.int .i64 q8,.string q9])) /\ Below w.heap.size w w':=by
 subst h
 have HB : Hid (Below w.heap.size w (w.alloc (.cells #[.int .i64 3,.int .i64 q1,.int .i64 q2,.int .i64 q3,.int .i64 q4,.int .i64 q5,.string q6,.string q7,.int .i64 q8,.string q9] 34))):=qH ((Below.refl _ _).alloc (Nat.le_refl _) _)
 go_enter Tryz.func32,Tryz.ntmps32
 go_wp2_with fail
 go_ret
 exact ⟨rfl,HB.out⟩
theorem deedOf4_any (q0 q1 q2 q3 q4 q5 : Int) (q6 q7 : ByteArray) (q8 : Int) (q9 : ByteArray) (h : q0 = 4) (w : World) :
 Calls Tryz.prog 32 #[.agg #[.int .i64 q0,.int .i64 q1,.int .i64 q2,.int .i64 q3,.int .i64 q4,.int .i64 q5,.string q6,.string q7,.int .i64 q8,.string q9]] w fun e w' => e = .returned (.iface 99 (.string q7)) /\ Below w.heap.size w w':=by
 subst h
 have HB : Hid (Below w.heap.size w (w.alloc (.cells #[.int .i64 4,.int .i64 q1,.int .i64 q2,.int .i64 q3,.int .i64 q4,.int .i64 q5,.string q6,.string q7,.int .i64 q8,.string q9] 34))):=qH ((Below.refl _ _).alloc (Nat.le_refl _) _)
 go_enter Tryz.func32,Tryz.ntmps32
 go_wp2_with fail
 go_ret
 exact ⟨rfl,HB.out⟩
theorem deedOf0_any (q0 q1 q2 q3 q4 q5 : Int) (q6 q7 : ByteArray) (q8 : Int) (q9 : ByteArray) (h1 : ¬ q0 = 1) (h2 : ¬ q0 = 2) (h3 : ¬ q0 = 3) (h4 : ¬ q0 = 4) (w : World) :
 Calls Tryz.prog 32 #[.agg #[.int .i64 q0,.int .i64 q1,.int .i64 q2,.int .i64 q3,.int .i64 q4,.int .i64 q5,.string q6,.string q7,.int .i64 q8,.string q9]] w fun e w' => e = .returned .nilIface /\ Below w.heap.size w w':=by
 have HB : Hid (Below w.heap.size w (w.alloc (.cells #[.int .i64 q0,.int .i64 q1,.int .i64 q2,.int .i64 q3,.int .i64 q4,.int .i64 q5,.string q6,.string q7,.int .i64 q8,.string q9] 34))):=qH ((Below.refl _ _).alloc (Nat.le_refl _) _)
 go_enter Tryz.func32,Tryz.ntmps32
 go_wp2_with fail
 go_ret
 exact ⟨rfl,HB.out⟩
theorem right1_any (q1 q2 q3 q4 : Int) (w : World)  :
 Calls Tryz.prog 160 #[.agg #[.int .i64 q1,.int .i64 q2,.int .i64 q3,.int .i64 q4]] w fun e w' => e = .returned (.bool (confB q1 q2 q3 q4)) /\ Below w.heap.size w w':=by
 have HB : Hid (Below w.heap.size w (w.alloc (.cells #[.int .i64 q1,.int .i64 q2,.int .i64 q3,.int .i64 q4] 96))):=qH ((Below.refl _ _).alloc (Nat.le_refl _) _)
 go_enter Tryz.func160,Tryz.ntmps160
 go_wp2_with fail
 refine (implConf_any q1 q2 q3 q4 _).mono ?_
 rintro e w1 ⟨rfl,hb⟩
 have HB1:=qH (HB.out.trans (hb.mono HB.out.size))
 clear hb
 go_wp2_with fail
 go_ret
 exact ⟨rfl,HB1.out⟩
theorem whole1_any (q1 q2 q3 q4 : Int) (w : World) :
 Calls Tryz.prog 161 #[.agg #[.int .i64 q1,.int .i64 q2,.int .i64 q3,.int .i64 q4]] w fun e w' => e = .returned (.agg #[.int .i64 1,.int .i64 q1,.int .i64 q2,.int .i64 q3,.int .i64 q4,.int .i64 0,.string ⟨#[]⟩,.string ⟨#[]⟩,.int .i64 0,.string ⟨#[]⟩]) /\ Below w.heap.size w w':=by
 have HB : Hid (Below w.heap.size w (w.alloc (.cells #[.int .i64 q1,.int .i64 q2,.int .i64 q3,.int .i64 q4] 96))):=qH ((Below.refl _ _).alloc (Nat.le_refl _) _)
 go_enter Tryz.func161,Tryz.ntmps161
 go_wp2_with fail
 exact bodyPost_ret (v:=.agg #[.int .i64 1,.int .i64 q1,.int .i64 q2,.int .i64 q3,.int .i64 q4,.int .i64 0,.string ⟨#[]⟩,.string ⟨#[]⟩,.int .i64 0,.string ⟨#[]⟩]) (by simp [results,Tryz.results161,go_sem]) rfl ⟨rfl,by repeat' (first | exact Below.refl _ _ | refine Below.alloc ?_ (by first | exact Nat.le_refl _ | (simp;done) | (simp;omega)) _)⟩
theorem right2_any (q5 : Int) (q6 : ByteArray) (w : World) (h6 : q6.size <= maxLen) :
 Calls Tryz.prog 164 #[.agg #[.int .i64 q5,.string q6]] w fun e w' => e = .returned (.bool (termB q5 q6)) /\ Below w.heap.size w w':=by
 have H6:=qH h6
 have HB : Hid (Below w.heap.size w (w.alloc (.cells #[.int .i64 q5,.string q6] 97))):=qH ((Below.refl _ _).alloc (Nat.le_refl _) _)
 go_enter Tryz.func164,Tryz.ntmps164
 go_wp2_with fail
 refine (implTerm_any q5 q6 _ H6.out).mono ?_
 rintro e w1 ⟨rfl,hb⟩
 have HB1:=qH (HB.out.trans (hb.mono HB.out.size))
 clear hb
 go_wp2_with fail
 go_ret
 exact ⟨rfl,HB1.out⟩
theorem whole2_any (q5 : Int) (q6 : ByteArray) (w : World) :
 Calls Tryz.prog 165 #[.agg #[.int .i64 q5,.string q6]] w fun e w' => e = .returned (.agg #[.int .i64 2,.int .i64 0,.int .i64 0,.int .i64 0,.int .i64 0,.int .i64 q5,.string q6,.string ⟨#[]⟩,.int .i64 0,.string ⟨#[]⟩]) /\ Below w.heap.size w w':=by
 have HB : Hid (Below w.heap.size w (w.alloc (.cells #[.int .i64 q5,.string q6] 97))):=qH ((Below.refl _ _).alloc (Nat.le_refl _) _)
 go_enter Tryz.func165,Tryz.ntmps165
 go_wp2_with fail
 exact bodyPost_ret (v:=.agg #[.int .i64 2,.int .i64 0,.int .i64 0,.int .i64 0,.int .i64 0,.int .i64 q5,.string q6,.string ⟨#[]⟩,.int .i64 0,.string ⟨#[]⟩]) (by simp [results,Tryz.results165,go_sem]) rfl ⟨rfl,by repeat' (first | exact Below.refl _ _ | refine Below.alloc ?_ (by first | exact Nat.le_refl _ | (simp;done) | (simp;omega)) _)⟩
theorem right3_any (q7 : ByteArray) (q8 : Int) (q9 : ByteArray) (w : World) (h7 : q7.size <= maxLen) (h9 : q9.size <= maxLen) :
 Calls Tryz.prog 168 #[.agg #[.string q7,.int .i64 q8,.string q9]] w fun e w' => e = .returned (.bool (itemB q7 q8 q9)) /\ Below w.heap.size w w':=by
 have H7:=qH h7
 have H9:=qH h9
 have HB : Hid (Below w.heap.size w (w.alloc (.cells #[.string q7,.int .i64 q8,.string q9] 98))):=qH ((Below.refl _ _).alloc (Nat.le_refl _) _)
 go_enter Tryz.func168,Tryz.ntmps168
 go_wp2_with fail
 refine (implItem_any q7 q8 q9 _ H7.out H9.out).mono ?_
 rintro e w1 ⟨rfl,hb⟩
 have HB1:=qH (HB.out.trans (hb.mono HB.out.size))
 clear hb
 go_wp2_with fail
 go_ret
 exact ⟨rfl,HB1.out⟩
theorem whole3_any (q7 : ByteArray) (q8 : Int) (q9 : ByteArray) (w : World) :
 Calls Tryz.prog 169 #[.agg #[.string q7,.int .i64 q8,.string q9]] w fun e w' => e = .returned (.agg #[.int .i64 3,.int .i64 0,.int .i64 0,.int .i64 0,.int .i64 0,.int .i64 0,.string ⟨#[]⟩,.string q7,.int .i64 q8,.string q9]) /\ Below w.heap.size w w':=by
 have HB : Hid (Below w.heap.size w (w.alloc (.cells #[.string q7,.int .i64 q8,.string q9] 98))):=qH ((Below.refl _ _).alloc (Nat.le_refl _) _)
 go_enter Tryz.func169,Tryz.ntmps169
 go_wp2_with fail
 exact bodyPost_ret (v:=.agg #[.int .i64 3,.int .i64 0,.int .i64 0,.int .i64 0,.int .i64 0,.int .i64 0,.string ⟨#[]⟩,.string q7,.int .i64 q8,.string q9]) (by simp [results,Tryz.results169,go_sem]) rfl ⟨rfl,by repeat' (first | exact Below.refl _ _ | refine Below.alloc ?_ (by first | exact Nat.le_refl _ | (simp;done) | (simp;omega)) _)⟩
theorem right4_any (q7 : ByteArray) (w : World) (h7 : q7.size <= maxLen) :
 Calls Tryz.prog 172 #[.string q7] w fun e w' => e = .returned (.bool (wordB q7)) /\ Below w.heap.size w w':=by
 have H7:=qH h7
 go_enter Tryz.func172,Tryz.ntmps172
 go_wp2_with fail
 refine (implWord_any q7 _ H7.out).mono ?_
 rintro e w1 ⟨rfl,hb⟩
 have HB1:=qH (hb)
 clear hb
 go_wp2_with fail
 go_ret
 exact ⟨rfl,HB1.out⟩
theorem whole4_any (q7 : ByteArray) (w : World) :
 Calls Tryz.prog 173 #[.string q7] w fun e w' => e = .returned (.agg #[.int .i64 4,.int .i64 0,.int .i64 0,.int .i64 0,.int .i64 0,.int .i64 0,.string ⟨#[]⟩,.string q7,.int .i64 0,.string ⟨#[]⟩]) /\ Below w.heap.size w w':=by
 go_enter Tryz.func173,Tryz.ntmps173
 go_wp2_with fail
 exact bodyPost_ret (v:=.agg #[.int .i64 4,.int .i64 0,.int .i64 0,.int .i64 0,.int .i64 0,.int .i64 0,.string ⟨#[]⟩,.string q7,.int .i64 0,.string ⟨#[]⟩]) (by simp [results,Tryz.results173,go_sem]) rfl ⟨rfl,by repeat' (first | exact Below.refl _ _ | refine Below.alloc ?_ (by first | exact Nat.le_refl _ | (simp;done) | (simp;omega)) _)⟩
theorem eql_deed1 (q1 q2 q3 q4 q5 : Int) (q6 q7 : ByteArray) (q8 : Int) (q9 : ByteArray) (W : World) :
 (binOp .eql 34 (.agg #[.int .i64 1,.int .i64 q1,.int .i64 q2,.int .i64 q3,.int .i64 q4,.int .i64 0,.string ⟨#[]⟩,.string ⟨#[]⟩,.int .i64 0,.string ⟨#[]⟩]) (.agg #[.int .i64 1,.int .i64 q1,.int .i64 q2,.int .i64 q3,.int .i64 q4,.int .i64 q5,.string q6,.string q7,.int .i64 q8,.string q9])).run Tryz.prog W = .ok (.bool (decide (q5 = 0 /\ q6 = ⟨#[]⟩) && decide (q7 = ⟨#[]⟩ /\ q8 = 0 /\ q9 = ⟨#[]⟩))) W:=by
 by_cases h : q5 = 0
 case neg => (have h2 : ¬ 0 = q5:=fun e => h e.symm;simp [go_sem,h,h2])
 subst h
 by_cases h : q6 = ⟨#[]⟩
 case neg => (have h2:=toList_ne h;have h3 : ¬ ([] : List UInt8) = q6.toList:=fun e => h2 e.symm;have h4 : ¬ (⟨#[]⟩ : ByteArray) = q6:=fun e => h e.symm;simp [go_sem,h,h2])
 subst h
 by_cases h : q7 = ⟨#[]⟩
 case neg => (have h2:=toList_ne h;have h3 : ¬ ([] : List UInt8) = q7.toList:=fun e => h2 e.symm;have h4 : ¬ (⟨#[]⟩ : ByteArray) = q7:=fun e => h e.symm;simp [go_sem,h,h2])
 subst h
 by_cases h : q8 = 0
 case neg => (have h2 : ¬ 0 = q8:=fun e => h e.symm;simp [go_sem,h,h2])
 subst h
 by_cases h : q9 = ⟨#[]⟩
 case neg => (have h2:=toList_ne h;have h3 : ¬ ([] : List UInt8) = q9.toList:=fun e => h2 e.symm;have h4 : ¬ (⟨#[]⟩ : ByteArray) = q9:=fun e => h e.symm;simp [go_sem,h,h2])
 subst h
 simp [go_sem]
theorem eql_deed2 (q1 q2 q3 q4 q5 : Int) (q6 q7 : ByteArray) (q8 : Int) (q9 : ByteArray) (W : World) :
 (binOp .eql 34 (.agg #[.int .i64 2,.int .i64 0,.int .i64 0,.int .i64 0,.int .i64 0,.int .i64 q5,.string q6,.string ⟨#[]⟩,.int .i64 0,.string ⟨#[]⟩]) (.agg #[.int .i64 2,.int .i64 q1,.int .i64 q2,.int .i64 q3,.int .i64 q4,.int .i64 q5,.string q6,.string q7,.int .i64 q8,.string q9])).run Tryz.prog W = .ok (.bool (decide (q1 = 0 /\ q2 = 0 /\ q3 = 0 /\ q4 = 0) && decide (q7 = ⟨#[]⟩ /\ q8 = 0 /\ q9 = ⟨#[]⟩))) W:=by
 by_cases h : q1 = 0
 case neg => (have h2 : ¬ 0 = q1:=fun e => h e.symm;simp [go_sem,h,h2])
 subst h
 by_cases h : q2 = 0
 case neg => (have h2 : ¬ 0 = q2:=fun e => h e.symm;simp [go_sem,h,h2])
 subst h
 by_cases h : q3 = 0
 case neg => (have h2 : ¬ 0 = q3:=fun e => h e.symm;simp [go_sem,h,h2])
 subst h
 by_cases h : q4 = 0
 case neg => (have h2 : ¬ 0 = q4:=fun e => h e.symm;simp [go_sem,h,h2])
 subst h
 by_cases h : q7 = ⟨#[]⟩
 case neg => (have h2:=toList_ne h;have h3 : ¬ ([] : List UInt8) = q7.toList:=fun e => h2 e.symm;have h4 : ¬ (⟨#[]⟩ : ByteArray) = q7:=fun e => h e.symm;simp [go_sem,h,h2])
 subst h
 by_cases h : q8 = 0
 case neg => (have h2 : ¬ 0 = q8:=fun e => h e.symm;simp [go_sem,h,h2])
 subst h
 by_cases h : q9 = ⟨#[]⟩
 case neg => (have h2:=toList_ne h;have h3 : ¬ ([] : List UInt8) = q9.toList:=fun e => h2 e.symm;have h4 : ¬ (⟨#[]⟩ : ByteArray) = q9:=fun e => h e.symm;simp [go_sem,h,h2])
 subst h
 simp [go_sem]
theorem eql_deed3 (q1 q2 q3 q4 q5 : Int) (q6 q7 : ByteArray) (q8 : Int) (q9 : ByteArray) (W : World) :
 (binOp .eql 34 (.agg #[.int .i64 3,.int .i64 0,.int .i64 0,.int .i64 0,.int .i64 0,.int .i64 0,.string ⟨#[]⟩,.string q7,.int .i64 q8,.string q9]) (.agg #[.int .i64 3,.int .i64 q1,.int .i64 q2,.int .i64 q3,.int .i64 q4,.int .i64 q5,.string q6,.string q7,.int .i64 q8,.string q9])).run Tryz.prog W = .ok (.bool (decide (q1 = 0 /\ q2 = 0 /\ q3 = 0 /\ q4 = 0) && decide (q5 = 0 /\ q6 = ⟨#[]⟩))) W:=by
 by_cases h : q1 = 0
 case neg => (have h2 : ¬ 0 = q1:=fun e => h e.symm;simp [go_sem,h,h2])
 subst h
 by_cases h : q2 = 0
 case neg => (have h2 : ¬ 0 = q2:=fun e => h e.symm;simp [go_sem,h,h2])
 subst h
 by_cases h : q3 = 0
 case neg => (have h2 : ¬ 0 = q3:=fun e => h e.symm;simp [go_sem,h,h2])
 subst h
 by_cases h : q4 = 0
 case neg => (have h2 : ¬ 0 = q4:=fun e => h e.symm;simp [go_sem,h,h2])
 subst h
 by_cases h : q5 = 0
 case neg => (have h2 : ¬ 0 = q5:=fun e => h e.symm;simp [go_sem,h,h2])
 subst h
 by_cases h : q6 = ⟨#[]⟩
 case neg => (have h2:=toList_ne h;have h3 : ¬ ([] : List UInt8) = q6.toList:=fun e => h2 e.symm;have h4 : ¬ (⟨#[]⟩ : ByteArray) = q6:=fun e => h e.symm;simp [go_sem,h,h2])
 subst h
 simp [go_sem]
theorem eql_deed4 (q1 q2 q3 q4 q5 : Int) (q6 q7 : ByteArray) (q8 : Int) (q9 : ByteArray) (W : World) :
 (binOp .eql 34 (.agg #[.int .i64 4,.int .i64 0,.int .i64 0,.int .i64 0,.int .i64 0,.int .i64 0,.string ⟨#[]⟩,.string q7,.int .i64 0,.string ⟨#[]⟩]) (.agg #[.int .i64 4,.int .i64 q1,.int .i64 q2,.int .i64 q3,.int .i64 q4,.int .i64 q5,.string q6,.string q7,.int .i64 q8,.string q9])).run Tryz.prog W = .ok (.bool (decide (q1 = 0 /\ q2 = 0 /\ q3 = 0 /\ q4 = 0) && decide (q5 = 0 /\ q6 = ⟨#[]⟩) && decide (q8 = 0 /\ q9 = ⟨#[]⟩))) W:=by
 by_cases h : q1 = 0
 case neg => (have h2 : ¬ 0 = q1:=fun e => h e.symm;simp [go_sem,h,h2])
 subst h
 by_cases h : q2 = 0
 case neg => (have h2 : ¬ 0 = q2:=fun e => h e.symm;simp [go_sem,h,h2])
 subst h
 by_cases h : q3 = 0
 case neg => (have h2 : ¬ 0 = q3:=fun e => h e.symm;simp [go_sem,h,h2])
 subst h
 by_cases h : q4 = 0
 case neg => (have h2 : ¬ 0 = q4:=fun e => h e.symm;simp [go_sem,h,h2])
 subst h
 by_cases h : q5 = 0
 case neg => (have h2 : ¬ 0 = q5:=fun e => h e.symm;simp [go_sem,h,h2])
 subst h
 by_cases h : q6 = ⟨#[]⟩
 case neg => (have h2:=toList_ne h;have h3 : ¬ ([] : List UInt8) = q6.toList:=fun e => h2 e.symm;have h4 : ¬ (⟨#[]⟩ : ByteArray) = q6:=fun e => h e.symm;simp [go_sem,h,h2])
 subst h
 by_cases h : q8 = 0
 case neg => (have h2 : ¬ 0 = q8:=fun e => h e.symm;simp [go_sem,h,h2])
 subst h
 by_cases h : q9 = ⟨#[]⟩
 case neg => (have h2:=toList_ne h;have h3 : ¬ ([] : List UInt8) = q9.toList:=fun e => h2 e.symm;have h4 : ¬ (⟨#[]⟩ : ByteArray) = q9:=fun e => h e.symm;simp [go_sem,h,h2])
 subst h
 simp [go_sem]
end Go.Proofs.YtbgoldeopmlbnaaGreatDoor
