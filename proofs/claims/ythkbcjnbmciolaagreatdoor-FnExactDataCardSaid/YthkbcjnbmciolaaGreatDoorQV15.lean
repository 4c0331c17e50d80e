/- Used by the law. -/
import Derived.Test.YthkbcjnbmciolaaGreatDoorQV14
set_option maxRecDepth 100000
set_option maxHeartbeats 16000000
namespace Go.Proofs.YthkbcjnbmciolaaGreatDoor
open Go.RowKit Go.PlainAid G
set_option linter.unusedVariables false
def zeroB (c0 c1 c2 c3 : Int) (n1 n2 : Nat) : Bool:=decide (c0 = 0 /\ c1 = 0 /\ c2 = 0 /\ c3 = 0) && decide (n1 = 0) && decide (n2 = 0)
theorem toList_iff (a b : ByteArray) : a.toList = b.toList ↔ a = b:=by
 rw [Lib.toList_data,Lib.toList_data]
 exact ⟨fun h => ByteArray.ext (Array.toList_inj.1 h),fun h => by rw [h]⟩
theorem toList_ne {a : ByteArray} (h : ¬ a = ⟨#[]⟩) : ¬ a.toList = []:=fun h2 => h ((toList_iff a ⟨#[]⟩).1 (by rw [h2];simp))
theorem eql_conf (g n m c : Int) (W : World) : (binOp .eql 39 (.agg #[.int .i64 g,.int .i64 n,.int .i64 m,.int .i64 c]) (.agg #[.int .i64 0,.int .i64 0,.int .i64 0,.int .i64 0])).run Tryz.prog W = .ok (.bool (decide (g = 0 /\ n = 0 /\ m = 0 /\ c = 0))) W:=by
 by_cases h1 : g = 0 <;> by_cases h2 : n = 0 <;> by_cases h3 : m = 0 <;> by_cases h4 : c = 0 <;> simp [go_sem,h1,h2,h3,h4]
theorem eql_term (no : Int) (lk : ByteArray) (W : World) : (binOp .eql 97 (.agg #[.int .i64 no,.string lk]) (.agg #[.int .i64 0,.string ⟨#[]⟩])).run Tryz.prog W = .ok (.bool (decide (no = 0 /\ lk = ⟨#[]⟩))) W:=by
 by_cases h2 : lk = ⟨#[]⟩
 · subst h2
   by_cases h1 : no = 0 <;> simp [go_sem,h1]
 · have h3:=toList_ne h2
   by_cases h1 : no = 0 <;> simp [go_sem,h1,h2,h3]
theorem eql_item (nm : ByteArray) (tm : Int) (bd nm2 : ByteArray) (W : World) : (binOp .eql 62 (.agg #[.string nm,.int .i64 tm,.string bd]) (.agg #[.string nm2,.int .i64 0,.string ⟨#[]⟩])).run Tryz.prog W = .ok (.bool (decide (nm = nm2 /\ tm = 0 /\ bd = ⟨#[]⟩))) W:=by
 by_cases h3 : bd = ⟨#[]⟩
 · subst h3
   by_cases h1 : nm = nm2
   · subst h1
     by_cases h2 : tm = 0 <;> simp [go_sem,h2]
   · have h4 : ¬ nm.toList = nm2.toList:=fun h => h1 ((toList_iff _ _).1 h)
     by_cases h2 : tm = 0 <;> simp [go_sem,h1,h2,h4]
 · have h5:=toList_ne h3
   by_cases h1 : nm = nm2
   · subst h1
     by_cases h2 : tm = 0 <;> simp [go_sem,h2,h3,h5]
   · have h4 : ¬ nm.toList = nm2.toList:=fun h => h1 ((toList_iff _ _).1 h)
     by_cases h2 : tm = 0 <;> simp [go_sem,h1,h2,h3,h5]
theorem l07Zero_any (c0 c1 c2 c3 : Int) (a1 a2 : Option Addr) (n1 n2 a3 a4 : Nat) (w : World) :
 Calls Tryz.prog 115 #[.agg #[.int .i64 c0,.int .i64 c1,.int .i64 c2,.int .i64 c3,.slice a1 n1 a3,.slice a2 n2 a4]] w fun e w' => e = .returned (.bool (zeroB c0 c1 c2 c3 n1 n2)) /\ Below w.heap.size w w':=by
 have HB : Hid (Below w.heap.size w (w.alloc (.cells #[.int .i64 c0,.int .i64 c1,.int .i64 c2,.int .i64 c3,.slice a1 n1 a3,.slice a2 n2 a4] 43))):=qH ((Below.refl _ _).alloc (Nat.le_refl _) _)
 have HE:=eql_conf c0 c1 c2 c3
 have HZ : Hid (zeroB c0 c1 c2 c3 n1 n2 = (decide (c0 = 0 /\ c1 = 0 /\ c2 = 0 /\ c3 = 0) && decide (n1 = 0) && decide (n2 = 0))):=qH rfl
 generalize decide (c0 = 0 /\ c1 = 0 /\ c2 = 0 /\ c3 = 0) = z at HE HZ
 cases z
 · have HF : Hid (false = zeroB c0 c1 c2 c3 n1 n2):=qH (by rw [HZ.out];rfl)
   clear HZ
   go_enter Tryz.func115,Tryz.ntmps115
   go_wp2_with fail
   go_ret
   exact ⟨ret_bool HF.out,HB.out⟩
 · by_cases h1 : n1 = 0
   · subst h1
     by_cases h2 : n2 = 0
     · subst h2
       have HF : Hid (true = zeroB c0 c1 c2 c3 0 0):=qH (by rw [HZ.out];rfl)
       clear HZ
       go_enter Tryz.func115,Tryz.ntmps115
       go_wp2_with fail
       go_ret
       exact ⟨ret_bool HF.out,HB.out⟩
     · have HF : Hid (false = zeroB c0 c1 c2 c3 0 n2):=qH (by rw [HZ.out,decide_eq_false h2,Bool.and_false])
       have h3 : ((n2 : Int) == 0) = false:=by rw [beq_eq_false_iff_ne];omega
       clear HZ
       go_enter Tryz.func115,Tryz.ntmps115
       go_wp2_with fail
       go_ret
       exact ⟨ret_bool HF.out,HB.out⟩
   · have HF : Hid (false = zeroB c0 c1 c2 c3 n1 n2):=qH (by rw [HZ.out,decide_eq_false h1,Bool.and_false,Bool.false_and])
     clear HZ
     go_enter Tryz.func115,Tryz.ntmps115
     go_wp2_with fail
     go_ret
     exact ⟨ret_bool HF.out,HB.out⟩
def deedB (q0 q1 q2 q3 q4 q5 : Int) (q6 q7 : ByteArray) (q8 : Int) (q9 : ByteArray) : Bool :=
 if q0 = 1 then confB q1 q2 q3 q4 && decide (q5 = 0 /\ q6 = ⟨#[]⟩) && decide (q7 = ⟨#[]⟩ /\ q8 = 0 /\ q9 = ⟨#[]⟩)
 else if q0 = 2 then decide (q1 = 0 /\ q2 = 0 /\ q3 = 0 /\ q4 = 0) && termB q5 q6 && decide (q7 = ⟨#[]⟩ /\ q8 = 0 /\ q9 = ⟨#[]⟩)
 else if q0 = 3 then decide (q1 = 0 /\ q2 = 0 /\ q3 = 0 /\ q4 = 0) && decide (q5 = 0 /\ q6 = ⟨#[]⟩) && itemB q7 q8 q9
 else if q0 = 4 then decide (q1 = 0 /\ q2 = 0 /\ q3 = 0 /\ q4 = 0) && decide (q5 = 0 /\ q6 = ⟨#[]⟩) && decide (q7 = q7 /\ q8 = 0 /\ q9 = ⟨#[]⟩) && wordB q7
 else false
def deedOf (d : Dd) : Bool:=deedB d.kd d.gn d.nd d.mn d.ck d.no d.lk d.nm d.tm d.bd
theorem specDeedRight_any (q0 q1 q2 q3 q4 q5 : Int) (q6 q7 : ByteArray) (q8 : Int) (q9 : ByteArray) (w : World) (h6 : q6.size <= maxLen) (h7 : q7.size <= maxLen) (h9 : q9.size <= maxLen) :
 Calls Tryz.prog 114 #[.agg #[.int .i64 q0,.int .i64 q1,.int .i64 q2,.int .i64 q3,.int .i64 q4,.int .i64 q5,.string q6,.string q7,.int .i64 q8,.string q9]] w fun e w' => e = .returned (.bool (deedB q0 q1 q2 q3 q4 q5 q6 q7 q8 q9)) /\ Below w.heap.size w w':=by
 have HB : Hid (Below w.heap.size w (w.alloc (.cells #[.int .i64 q0,.int .i64 q1,.int .i64 q2,.int .i64 q3,.int .i64 q4,.int .i64 q5,.string q6,.string q7,.int .i64 q8,.string q9] 145))):=qH ((Below.refl _ _).alloc (Nat.le_refl _) _)
 have H6:=qH h6
 have H7:=qH h7
 have H9:=qH h9
 clear h6 h7 h9
 have HE1:=eql_conf q1 q2 q3 q4
 have HE2:=eql_term q5 q6
 have HE3:=eql_item q7 q8 q9 ⟨#[]⟩
 have HE4:=eql_item q7 q8 q9 q7
 have HD1 : Hid (q0 = 1 -> deedB q0 q1 q2 q3 q4 q5 q6 q7 q8 q9 = (confB q1 q2 q3 q4 && decide (q5 = 0 /\ q6 = ⟨#[]⟩) && decide (q7 = ⟨#[]⟩ /\ q8 = 0 /\ q9 = ⟨#[]⟩))):=qH (fun h => by unfold deedB;rw [if_pos h])
 have HD2 : Hid (q0 = 2 -> deedB q0 q1 q2 q3 q4 q5 q6 q7 q8 q9 = (decide (q1 = 0 /\ q2 = 0 /\ q3 = 0 /\ q4 = 0) && termB q5 q6 && decide (q7 = ⟨#[]⟩ /\ q8 = 0 /\ q9 = ⟨#[]⟩))):=qH (fun h => by subst h;rfl)
 have HD3 : Hid (q0 = 3 -> deedB q0 q1 q2 q3 q4 q5 q6 q7 q8 q9 = (decide (q1 = 0 /\ q2 = 0 /\ q3 = 0 /\ q4 = 0) && decide (q5 = 0 /\ q6 = ⟨#[]⟩) && itemB q7 q8 q9)):=qH (fun h => by subst h;rfl)
 have HD4 : Hid (q0 = 4 -> deedB q0 q1 q2 q3 q4 q5 q6 q7 q8 q9 = (decide (q1 = 0 /\ q2 = 0 /\ q3 = 0 /\ q4 = 0) && decide (q5 = 0 /\ q6 = ⟨#[]⟩) && decide (q7 = q7 /\ q8 = 0 /\ q9 = ⟨#[]⟩) && wordB q7)):=qH (fun h => by subst h;rfl)
 have HD5 : Hid (¬ q0 = 1 -> ¬ q0 = 2 -> ¬ q0 = 3 -> ¬ q0 = 4 -> deedB q0 q1 q2 q3 q4 q5 q6 q7 q8 q9 = false):=qH (fun h1 h2 h3 h4 => by unfold deedB;rw [if_neg h1,if_neg h2,if_neg h3,if_neg h4])
 generalize decide (q1 = 0 /\ q2 = 0 /\ q3 = 0 /\ q4 = 0) = cz at *
 generalize decide (q5 = 0 /\ q6 = ⟨#[]⟩) = tz at *
 generalize decide (q7 = ⟨#[]⟩ /\ q8 = 0 /\ q9 = ⟨#[]⟩) = iz at *
 generalize decide (q7 = q7 /\ q8 = 0 /\ q9 = ⟨#[]⟩) = jz at *
 generalize deedB q0 q1 q2 q3 q4 q5 q6 q7 q8 q9 = R at *
 by_cases k1 : q0 = 1
 · subst k1
   cases hc : confB q1 q2 q3 q4
   · skip
     have HF : Hid (false = R):=qH (by rw [HD1.out rfl];simp only [hc,Bool.false_and])
     clear HD1 HD2 HD3 HD4 HD5
     go_enter Tryz.func114,Tryz.ntmps114
     go_wp2_with fail
     go_region
     go_wp2_with (first | (go_at_call 143;refine (l07Conf_any q1 q2 q3 q4 _).mono ?_;rintro e w1 ⟨rfl,hb⟩;rw [hc];have HBC:=qH (HB.out.drew.trans (hb.mono HB.out.size));clear hb))
     go_ret
     exact ⟨ret_bool HF.out,by first | exact HBC.out | exact HB.out.drew⟩
   · skip
     cases tz
     · skip
       have HF : Hid (false = R):=qH (by rw [HD1.out rfl];simp only [hc,Bool.false_and,Bool.and_false])
       clear HD1 HD2 HD3 HD4 HD5
       go_enter Tryz.func114,Tryz.ntmps114
       go_wp2_with fail
       go_region
       go_wp2_with (first | (go_at_call 143;refine (l07Conf_any q1 q2 q3 q4 _).mono ?_;rintro e w1 ⟨rfl,hb⟩;rw [hc];have HBC:=qH (HB.out.drew.trans (hb.mono HB.out.size));clear hb))
       go_ret
       exact ⟨ret_bool HF.out,by first | exact HBC.out | exact HB.out.drew⟩
     · skip
       cases iz
       · skip
         have HF : Hid (false = R):=qH (by rw [HD1.out rfl];simp only [hc,Bool.and_false,Bool.and_true])
         clear HD1 HD2 HD3 HD4 HD5
         go_enter Tryz.func114,Tryz.ntmps114
         go_wp2_with fail
         go_region
         go_wp2_with (first | (go_at_call 143;refine (l07Conf_any q1 q2 q3 q4 _).mono ?_;rintro e w1 ⟨rfl,hb⟩;rw [hc];have HBC:=qH (HB.out.drew.trans (hb.mono HB.out.size));clear hb))
         go_ret
         exact ⟨ret_bool HF.out,by first | exact HBC.out | exact HB.out.drew⟩
       · skip
         have HF : Hid (true = R):=qH (by rw [HD1.out rfl];simp only [hc,Bool.and_true])
         clear HD1 HD2 HD3 HD4 HD5
         go_enter Tryz.func114,Tryz.ntmps114
         go_wp2_with fail
         go_region
         go_wp2_with (first | (go_at_call 143;refine (l07Conf_any q1 q2 q3 q4 _).mono ?_;rintro e w1 ⟨rfl,hb⟩;rw [hc];have HBC:=qH (HB.out.drew.trans (hb.mono HB.out.size));clear hb))
         go_ret
         exact ⟨ret_bool HF.out,by first | exact HBC.out | exact HB.out.drew⟩
 · skip
   by_cases k2 : q0 = 2
   · subst k2
     cases cz
     · skip
       have HF : Hid (false = R):=qH (by rw [HD2.out rfl];simp only [Bool.false_and])
       clear HD1 HD2 HD3 HD4 HD5
       go_enter Tryz.func114,Tryz.ntmps114
       go_wp2_with fail
       go_region
       go_wp2_with (first | (go_at_call 144;refine (l07Term_any q5 q6 _ H6.out).mono ?_;rintro e w1 ⟨rfl,hb⟩;rw [ht];have HBC:=qH (HB.out.drew.trans (hb.mono HB.out.size));clear hb))
       go_ret
       exact ⟨ret_bool HF.out,by first | exact HBC.out | exact HB.out.drew⟩
     · skip
       cases ht : termB q5 q6
       · skip
         have HF : Hid (false = R):=qH (by rw [HD2.out rfl];simp only [ht,Bool.false_and,Bool.and_false])
         clear HD1 HD2 HD3 HD4 HD5
         go_enter Tryz.func114,Tryz.ntmps114
         go_wp2_with fail
         go_region
         go_wp2_with (first | (go_at_call 144;refine (l07Term_any q5 q6 _ H6.out).mono ?_;rintro e w1 ⟨rfl,hb⟩;rw [ht];have HBC:=qH (HB.out.drew.trans (hb.mono HB.out.size));clear hb))
         go_ret
         exact ⟨ret_bool HF.out,by first | exact HBC.out | exact HB.out.drew⟩
       · skip
         cases iz
         · skip
           have HF : Hid (false = R):=qH (by rw [HD2.out rfl];simp only [ht,Bool.and_false,Bool.and_true])
           clear HD1 HD2 HD3 HD4 HD5
           go_enter Tryz.func114,Tryz.ntmps114
           go_wp2_with fail
           go_region
           go_wp2_with (first | (go_at_call 144;refine (l07Term_any q5 q6 _ H6.out).mono ?_;rintro e w1 ⟨rfl,hb⟩;rw [ht];have HBC:=qH (HB.out.drew.trans (hb.mono HB.out.size));clear hb))
           go_ret
           exact ⟨ret_bool HF.out,by first | exact HBC.out | exact HB.out.drew⟩
         · skip
           have HF : Hid (true = R):=qH (by rw [HD2.out rfl];simp only [ht,Bool.and_true])
           clear HD1 HD2 HD3 HD4 HD5
           go_enter Tryz.func114,Tryz.ntmps114
           go_wp2_with fail
           go_region
           go_wp2_with (first | (go_at_call 144;refine (l07Term_any q5 q6 _ H6.out).mono ?_;rintro e w1 ⟨rfl,hb⟩;rw [ht];have HBC:=qH (HB.out.drew.trans (hb.mono HB.out.size));clear hb))
           go_ret
           exact ⟨ret_bool HF.out,by first | exact HBC.out | exact HB.out.drew⟩
   · skip
     by_cases k3 : q0 = 3
     · subst k3
       cases cz
       · skip
         have HF : Hid (false = R):=qH (by rw [HD3.out rfl];simp only [Bool.false_and])
         clear HD1 HD2 HD3 HD4 HD5
         go_enter Tryz.func114,Tryz.ntmps114
         go_wp2_with fail
         go_region
         go_wp2_with (first | (go_at_call 145;refine (l07Item_any q7 q8 q9 _ H7.out H9.out).mono ?_;rintro e w1 ⟨rfl,hb⟩;rw [hi];have HBC:=qH (HB.out.drew.trans (hb.mono HB.out.size));clear hb))
         go_ret
         exact ⟨ret_bool HF.out,by first | exact HBC.out | exact HB.out.drew⟩
       · skip
         cases tz
         · skip
           have HF : Hid (false = R):=qH (by rw [HD3.out rfl];simp only [Bool.false_and,Bool.and_false])
           clear HD1 HD2 HD3 HD4 HD5
           go_enter Tryz.func114,Tryz.ntmps114
           go_wp2_with fail
           go_region
           go_wp2_with (first | (go_at_call 145;refine (l07Item_any q7 q8 q9 _ H7.out H9.out).mono ?_;rintro e w1 ⟨rfl,hb⟩;rw [hi];have HBC:=qH (HB.out.drew.trans (hb.mono HB.out.size));clear hb))
           go_ret
           exact ⟨ret_bool HF.out,by first | exact HBC.out | exact HB.out.drew⟩
         · skip
           cases hi : itemB q7 q8 q9
           · skip
             have HF : Hid (false = R):=qH (by rw [HD3.out rfl];simp only [hi,Bool.and_false,Bool.and_true])
             clear HD1 HD2 HD3 HD4 HD5
             go_enter Tryz.func114,Tryz.ntmps114
             go_wp2_with fail
             go_region
             go_wp2_with (first | (go_at_call 145;refine (l07Item_any q7 q8 q9 _ H7.out H9.out).mono ?_;rintro e w1 ⟨rfl,hb⟩;rw [hi];have HBC:=qH (HB.out.drew.trans (hb.mono HB.out.size));clear hb))
             go_ret
             exact ⟨ret_bool HF.out,by first | exact HBC.out | exact HB.out.drew⟩
           · skip
             have HF : Hid (true = R):=qH (by rw [HD3.out rfl];simp only [hi,Bool.and_true])
             clear HD1 HD2 HD3 HD4 HD5
             go_enter Tryz.func114,Tryz.ntmps114
             go_wp2_with fail
             go_region
             go_wp2_with (first | (go_at_call 145;refine (l07Item_any q7 q8 q9 _ H7.out H9.out).mono ?_;rintro e w1 ⟨rfl,hb⟩;rw [hi];have HBC:=qH (HB.out.drew.trans (hb.mono HB.out.size));clear hb))
             go_ret
             exact ⟨ret_bool HF.out,by first | exact HBC.out | exact HB.out.drew⟩
     · skip
       by_cases k4 : q0 = 4
       · subst k4
         cases cz
         · skip
           have HF : Hid (false = R):=qH (by rw [HD4.out rfl];simp only [Bool.false_and])
           clear HD1 HD2 HD3 HD4 HD5
           go_enter Tryz.func114,Tryz.ntmps114
           go_wp2_with fail
           go_region
           go_wp2_with (first | (go_at_call 146;refine (specWord_any q7 _ H7.out).mono ?_;rintro e w1 ⟨rfl,rfl⟩;rw [hw]))
           go_ret
           exact ⟨ret_bool HF.out,by first | exact HBC.out | exact HB.out.drew⟩
         · skip
           cases tz
           · skip
             have HF : Hid (false = R):=qH (by rw [HD4.out rfl];simp only [Bool.false_and,Bool.and_false])
             clear HD1 HD2 HD3 HD4 HD5
             go_enter Tryz.func114,Tryz.ntmps114
             go_wp2_with fail
             go_region
             go_wp2_with (first | (go_at_call 146;refine (specWord_any q7 _ H7.out).mono ?_;rintro e w1 ⟨rfl,rfl⟩;rw [hw]))
             go_ret
             exact ⟨ret_bool HF.out,by first | exact HBC.out | exact HB.out.drew⟩
           · skip
             cases jz
             · skip
               have HF : Hid (false = R):=qH (by rw [HD4.out rfl];simp only [Bool.false_and,Bool.and_false,Bool.and_true])
               clear HD1 HD2 HD3 HD4 HD5
               go_enter Tryz.func114,Tryz.ntmps114
               go_wp2_with fail
               go_region
               go_wp2_with (first | (go_at_call 146;refine (specWord_any q7 _ H7.out).mono ?_;rintro e w1 ⟨rfl,rfl⟩;rw [hw]))
               go_ret
               exact ⟨ret_bool HF.out,by first | exact HBC.out | exact HB.out.drew⟩
             · skip
               cases hw : wordB q7
               · skip
                 have HF : Hid (false = R):=qH (by rw [HD4.out rfl];simp only [hw,Bool.and_false,Bool.and_true])
                 clear HD1 HD2 HD3 HD4 HD5
                 go_enter Tryz.func114,Tryz.ntmps114
                 go_wp2_with fail
                 go_region
                 go_wp2_with (first | (go_at_call 146;refine (specWord_any q7 _ H7.out).mono ?_;rintro e w1 ⟨rfl,rfl⟩;rw [hw]))
                 go_ret
                 exact ⟨ret_bool HF.out,by first | exact HBC.out | exact HB.out.drew⟩
               · skip
                 have HF : Hid (true = R):=qH (by rw [HD4.out rfl];simp only [hw,Bool.and_true])
                 clear HD1 HD2 HD3 HD4 HD5
                 go_enter Tryz.func114,Tryz.ntmps114
                 go_wp2_with fail
                 go_region
                 go_wp2_with (first | (go_at_call 146;refine (specWord_any q7 _ H7.out).mono ?_;rintro e w1 ⟨rfl,rfl⟩;rw [hw]))
                 go_ret
                 exact ⟨ret_bool HF.out,by first | exact HBC.out | exact HB.out.drew⟩
       · skip
         have HF:=qH (HD5.out k1 k2 k3 k4).symm
         clear HD1 HD2 HD3 HD4 HD5
         go_enter Tryz.func114,Tryz.ntmps114
         go_wp2_with fail
         go_region
         go_wp2_with fail
         go_ret
         exact ⟨ret_bool HF.out,HB.out.drew⟩
end Go.Proofs.YthkbcjnbmciolaaGreatDoor
namespace Go.Proofs.YthkbcjnbmciolaaGreatDoor
open Go.RowKit Go.PlainAid G MGet MGF IRow MNum MJoin
set_option linter.unusedVariables false
abbrev Plc:=Nat × Bool
def rcConf (u : ByteArray) (k : Int) (q : Plc) : Dd × Plc :=
 (⟨k,(sN u q).1,(sN u (sN u q).2).1,(sN u (sN u (sN u q).2).2).1,(sN u (sN u (sN u (sN u q).2).2).2).1,0,⟨#[]⟩,⟨#[]⟩,0,⟨#[]⟩⟩,(sN u (sN u (sN u (sN u q).2).2).2).2)
def rcTerm (u : ByteArray) (k : Int) (q : Plc) : Dd × Plc :=
 (⟨k,0,0,0,0,(sN u q).1,(sT u (sN u q).2).1,⟨#[]⟩,0,⟨#[]⟩⟩,(sT u (sN u q).2).2)
def rcPut (u : ByteArray) (k : Int) (q : Plc) : Dd × Plc :=
 (⟨k,0,0,0,0,0,⟨#[]⟩,(sT u q).1,(sN u (sT u q).2).1,(sT u (sN u (sT u q).2).2).1⟩,(sT u (sN u (sT u q).2).2).2)
def rcDel (u : ByteArray) (k : Int) (q : Plc) : Dd × Plc:=(⟨k,0,0,0,0,0,⟨#[]⟩,(sT u q).1,0,⟨#[]⟩⟩,(sT u q).2)
def rcNone (k : Int) (q : Plc) : Dd × Plc:=(⟨k,0,0,0,0,0,⟨#[]⟩,⟨#[]⟩,0,⟨#[]⟩⟩,q)
def rcRest (u : ByteArray) (k : Int) (q : Plc) : Dd × Plc :=
 if k = 1 then rcConf u k q else if k = 2 then rcTerm u k q else if k = 3 then rcPut u k q else if k = 4 then rcDel u k q else rcNone k q
def rdDeed (u : ByteArray) (q : Plc) : Dd × Plc:=rcRest u (sN u q).1 (sN u q).2
def okDeed (u : ByteArray) (q : Plc) : Bool:=!(rdDeed u q).2.2 && deedOf (rdDeed u q).1
def plAt (u : ByteArray) (q : Plc) : Nat -> Plc
 | 0 => q
 | n + 1 => (rdDeed u (plAt u q n)).2
def ddAt (u : ByteArray) (q : Plc) (i : Nat) : Dd:=(rdDeed u (plAt u q i)).1
def ddsTo (u : ByteArray) (q : Plc) (n : Nat) : List Dd:=(List.range n).map (ddAt u q)
def okTo (u : ByteArray) (q : Plc) (n : Nat) : Bool:=(List.range n).all (fun i => okDeed u (plAt u q i))
def rdTx (u : ByteArray) : List Dd :=
 if 1 <= (sN u (0,false)).1 /\ (sN u (0,false)).1 <= 10 /\ okTo u (sN u (0,false)).2 (sN u (0,false)).1.toNat = true /\ (plAt u (sN u (0,false)).2 (sN u (0,false)).1.toNat).1 = u.size
 then ddsTo u (sN u (0,false)).2 (sN u (0,false)).1.toNat else []
theorem okTo_succ (u : ByteArray) (q : Plc) (n : Nat) : okTo u q (n + 1) = (okTo u q n && okDeed u (plAt u q n)):=by
 unfold okTo
 rw [List.range_succ,List.all_append]
 simp
theorem ddsTo_succ (u : ByteArray) (q : Plc) (n : Nat) : ddsTo u q (n + 1) = ddsTo u q n ++ [ddAt u q n]:=by
 unfold ddsTo
 rw [List.range_succ,List.map_append]
 rfl
theorem ddsTo_length (u : ByteArray) (q : Plc) (n : Nat) : (ddsTo u q n).length = n:=by simp [ddsTo]
theorem okTo_of {u : ByteArray} {q : Plc} {n i : Nat} (h : okTo u q n = true) (hi : i < n) : okDeed u (plAt u q i) = true:=by
 unfold okTo at h
 rw [List.all_eq_true] at h
 exact h i (List.mem_range.2 hi)
theorem okTo_no {u : ByteArray} {q : Plc} {n i : Nat} (h : okDeed u (plAt u q i) = false) (hi : i < n) : okTo u q n = false:=by
 unfold okTo
 rw [List.all_eq_false]
 exact ⟨i,List.mem_range.2 hi,by rw [h];decide⟩
theorem okDeed_iff {u : ByteArray} {q : Plc} : okDeed u q = true ↔ (rdDeed u q).2.2 = false /\ deedOf (rdDeed u q).1 = true:=by
 unfold okDeed
 cases (rdDeed u q).2.2 <;> simp
theorem rdTx_no {u : ByteArray} (h : ¬ (1 <= (sN u (0,false)).1 /\ (sN u (0,false)).1 <= 10 /\ okTo u (sN u (0,false)).2 (sN u (0,false)).1.toNat = true /\ (plAt u (sN u (0,false)).2 (sN u (0,false)).1.toNat).1 = u.size)) : rdTx u = []:=if_neg h
theorem rdTx_yes {u : ByteArray} (h : 1 <= (sN u (0,false)).1 /\ (sN u (0,false)).1 <= 10 /\ okTo u (sN u (0,false)).2 (sN u (0,false)).1.toNat = true /\ (plAt u (sN u (0,false)).2 (sN u (0,false)).1.toNat).1 = u.size) : rdTx u = ddsTo u (sN u (0,false)).2 (sN u (0,false)).1.toNat:=if_pos h
def rdPart (t : ByteArray) : List Dd:=if (openS t).2.2 = 0 then rdTx (openS t).1 else []
theorem sco {w : World} {h i j : Nat} {v : Value} (hne : j ≠ i) : (w.setCell ⟨h,j,none⟩ v).cell? ⟨h,i,none⟩ = w.cell? ⟨h,i,none⟩:=World.cell?_setCell_other _ _ _ _ (by simp [])
theorem below_kept {B : Nat} {a w w' : World} {b : Nat} (h : Below B a w) (hg : w.grownBy w' (some b)) (hB : B <= w.heap.size) (hb : B <= b) : Below B a w' :=
 h.grown hg hB (fun k hk => by cases hk;exact hb)
theorem txt_fits {u : ByteArray} {a : Nat} (hu : u.size <= 8000) : (txtS u a).1.size <= 8000:=by
 unfold txtS
 split
 · exact Nat.zero_le _
 · split
   · exact Nat.zero_le _
   · split
     · exact Nat.zero_le _
     · dsimp only
       rw [ByteArray.size_extract]
       omega
end Go.Proofs.YthkbcjnbmciolaaGreatDoor
