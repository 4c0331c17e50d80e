/- Used by the law. -/
import Derived.Still
import Derived.StillTactics
import Derived.Orders
import Derived.Test.YthkbcjnbmciolaaGreatDoorQV16
set_option maxRecDepth 100000
set_option maxHeartbeats 16000000
namespace Go.Proofs.YthkbcjnbmciolaaGreatDoor
open Go.RowKit Go.PlainAid G
set_option linter.unusedVariables false
theorem deedOf1_any (q0 q1 q2 q3 q4 q5 : Int) (q6 q7 : ByteArray) (q8 : Int) (q9 : ByteArray) (h : q0 = 1) (w : World) :
 Calls Tryz.prog 136 #[.agg #[.int .i64 q0,.int .i64 q1,.int .i64 q2,.int .i64 q3,.int .i64 q4,.int .i64 q5,.string q6,.string q7,.int .i64 q8,.string q9]] w fun e w' => e = .returned (.iface 213 (.agg #[.int .i64 q1,.int .i64 q2,.int .i64 q3,.int .i64 q4])) /\ Below w.heap.size w w':=by
 subst h
 have HB : Hid (Below w.heap.size w (w.alloc (.cells #[.int .i64 1,.int .i64 q1,.int .i64 q2,.int .i64 q3,.int .i64 q4,.int .i64 q5,.string q6,.string q7,.int .i64 q8,.string q9] 145))):=qH ((Below.refl _ _).alloc (Nat.le_refl _) _)
 go_enter Tryz.func136,Tryz.ntmps136
 go_wp2_with fail
 go_ret
 exact ⟨rfl,HB.out⟩
theorem deedOf2_any (q0 q1 q2 q3 q4 q5 : Int) (q6 q7 : ByteArray) (q8 : Int) (q9 : ByteArray) (h : q0 = 2) (w : World) :
 Calls Tryz.prog 136 #[.agg #[.int .i64 q0,.int .i64 q1,.int .i64 q2,.int .i64 q3,.int .i64 q4,.int .i64 q5,.string q6,.string q7,.int .i64 q8,.string q9]] w fun e w' => e = .returned (.iface 219 (.agg #[.int .i64 q5,.string q6])) /\ Below w.heap.size w w':=by
 subst h
 have HB : Hid (Below w.heap.size w (w.alloc (.cells #[.int .i64 2,.int .i64 q1,.int .i64 q2,.int .i64 q3,.int .i64 q4,.int .i64 q5,.string q6,.string q7,.int .i64 q8,.string q9] 145))):=qH ((Below.refl _ _).alloc (Nat.le_refl _) _)
 go_enter Tryz.func136,Tryz.ntmps136
 go_wp2_with fail
 go_ret
 exact ⟨rfl,HB.out⟩
theorem deedOf3_any (q0 q1 q2 q3 q4 q5 : Int) (q6 q7 : ByteArray) (q8 : Int) (q9 : ByteArray) (h : q0 = 3) (w : World) :
 Calls Tryz.prog 136 #[.agg #[.int .i64 q0,.int .i64 q1,.int .i64 q2,.int .i64 q3,.int .i64 q4,.int .i64 q5,.string q6,.string q7,.int .i64 q8,.string q9]] w fun e w' => e = .returned (.iface 220 (.agg #[.string q7,.int .i64 q8,.string q9])) /\ Below w.heap.size w w':=by
 subst h
 have HB : Hid (Below w.heap.size w (w.alloc (.cells #[.int .i64 3,.int .i64 q1,.int .i64 q2,.int .i64 q3,.int .i64 q4,.int .i64 q5,.string q6,.string q7,.int .i64 q8,.string q9] 145))):=qH ((Below.refl _ _).alloc (Nat.le_refl _) _)
 go_enter Tryz.func136,Tryz.ntmps136
 go_wp2_with fail
 go_ret
 exact ⟨rfl,HB.out⟩
theorem deedOf4_any (q0 q1 q2 q3 q4 q5 : Int) (q6 q7 : ByteArray) (q8 : Int) (q9 : ByteArray) (h : q0 = 4) (w : World) :
 Calls Tryz.prog 136 #[.agg #[.int .i64 q0,.int .i64 q1,.int .i64 q2,.int .i64 q3,.int .i64 q4,.int .i64 q5,.string q6,.string q7,.int .i64 q8,.string q9]] w fun e w' => e = .returned (.iface 221 (.string q7)) /\ Below w.heap.size w w':=by
 subst h
 have HB : Hid (Below w.heap.size w (w.alloc (.cells #[.int .i64 4,.int .i64 q1,.int .i64 q2,.int .i64 q3,.int .i64 q4,.int .i64 q5,.string q6,.string q7,.int .i64 q8,.string q9] 145))):=qH ((Below.refl _ _).alloc (Nat.le_refl _) _)
 go_enter Tryz.func136,Tryz.ntmps136
 go_wp2_with fail
 go_ret
 exact ⟨rfl,HB.out⟩
theorem deedOf0_any (q0 q1 q2 q3 q4 q5 : Int) (q6 q7 : ByteArray) (q8 : Int) (q9 : ByteArray) (h1 : ¬ q0 = 1) (h2 : ¬ q0 = 2) (h3 : ¬ q0 = 3) (h4 : ¬ q0 = 4) (w : World) :
 Calls Tryz.prog 136 #[.agg #[.int .i64 q0,.int .i64 q1,.int .i64 q2,.int .i64 q3,.int .i64 q4,.int .i64 q5,.string q6,.string q7,.int .i64 q8,.string q9]] w fun e w' => e = .returned .nilIface /\ Below w.heap.size w w':=by
 have HB : Hid (Below w.heap.size w (w.alloc (.cells #[.int .i64 q0,.int .i64 q1,.int .i64 q2,.int .i64 q3,.int .i64 q4,.int .i64 q5,.string q6,.string q7,.int .i64 q8,.string q9] 145))):=qH ((Below.refl _ _).alloc (Nat.le_refl _) _)
 go_enter Tryz.func136,Tryz.ntmps136
 go_wp2_with fail
 go_ret
 exact ⟨rfl,HB.out⟩
theorem right1_any (q1 q2 q3 q4 : Int) (w : World)  :
 Calls Tryz.prog 213 #[.agg #[.int .i64 q1,.int .i64 q2,.int .i64 q3,.int .i64 q4]] w fun e w' => e = .returned (.bool (confB q1 q2 q3 q4)) /\ Below w.heap.size w w':=by
 have HB : Hid (Below w.heap.size w (w.alloc (.cells #[.int .i64 q1,.int .i64 q2,.int .i64 q3,.int .i64 q4] 213))):=qH ((Below.refl _ _).alloc (Nat.le_refl _) _)
 go_enter Tryz.func213,Tryz.ntmps213
 go_wp2_with fail
 refine (implConf_any q1 q2 q3 q4 _).mono ?_
 rintro e w1 ⟨rfl,hb⟩
 have HB1:=qH (HB.out.trans (hb.mono HB.out.size))
 clear hb
 go_wp2_with fail
 go_ret
 exact ⟨rfl,HB1.out⟩
theorem whole1_any (q1 q2 q3 q4 : Int) (w : World) :
 Calls Tryz.prog 214 #[.agg #[.int .i64 q1,.int .i64 q2,.int .i64 q3,.int .i64 q4]] w fun e w' => e = .returned (.agg #[.int .i64 1,.int .i64 q1,.int .i64 q2,.int .i64 q3,.int .i64 q4,.int .i64 0,.string ⟨#[]⟩,.string ⟨#[]⟩,.int .i64 0,.string ⟨#[]⟩]) /\ Below w.heap.size w w':=by
 have HB : Hid (Below w.heap.size w (w.alloc (.cells #[.int .i64 q1,.int .i64 q2,.int .i64 q3,.int .i64 q4] 213))):=qH ((Below.refl _ _).alloc (Nat.le_refl _) _)
 go_enter Tryz.func214,Tryz.ntmps214
 go_wp2_with fail
 exact bodyPost_ret (v:=.agg #[.int .i64 1,.int .i64 q1,.int .i64 q2,.int .i64 q3,.int .i64 q4,.int .i64 0,.string ⟨#[]⟩,.string ⟨#[]⟩,.int .i64 0,.string ⟨#[]⟩]) (by simp [results,Tryz.results214,go_sem]) rfl ⟨rfl,by repeat' (first | exact Below.refl _ _ | refine Below.alloc ?_ (by first | exact Nat.le_refl _ | (simp;done) | (simp;omega)) _)⟩
theorem right2_any (q5 : Int) (q6 : ByteArray) (w : World) (h6 : q6.size <= maxLen) :
 Calls Tryz.prog 218 #[.agg #[.int .i64 q5,.string q6]] w fun e w' => e = .returned (.bool (termB q5 q6)) /\ Below w.heap.size w w':=by
 have H6:=qH h6
 have HB : Hid (Below w.heap.size w (w.alloc (.cells #[.int .i64 q5,.string q6] 219))):=qH ((Below.refl _ _).alloc (Nat.le_refl _) _)
 go_enter Tryz.func218,Tryz.ntmps218
 go_wp2_with fail
 refine (implTerm_any q5 q6 _ H6.out).mono ?_
 rintro e w1 ⟨rfl,hb⟩
 have HB1:=qH (HB.out.trans (hb.mono HB.out.size))
 clear hb
 go_wp2_with fail
 go_ret
 exact ⟨rfl,HB1.out⟩
theorem whole2_any (q5 : Int) (q6 : ByteArray) (w : World) :
 Calls Tryz.prog 219 #[.agg #[.int .i64 q5,.string q6]] w fun e w' => e = .returned (.agg #[.int .i64 2,.int .i64 0,.int .i64 0,.int .i64 0,.int .i64 0,.int .i64 q5,.string q6,.string ⟨#[]⟩,.int .i64 0,.string ⟨#[]⟩]) /\ Below w.heap.size w w':=by
 have HB : Hid (Below w.heap.size w (w.alloc (.cells #[.int .i64 q5,.string q6] 219))):=qH ((Below.refl _ _).alloc (Nat.le_refl _) _)
 go_enter Tryz.func219,Tryz.ntmps219
 go_wp2_with fail
 exact bodyPost_ret (v:=.agg #[.int .i64 2,.int .i64 0,.int .i64 0,.int .i64 0,.int .i64 0,.int .i64 q5,.string q6,.string ⟨#[]⟩,.int .i64 0,.string ⟨#[]⟩]) (by simp [results,Tryz.results219,go_sem]) rfl ⟨rfl,by repeat' (first | exact Below.refl _ _ | refine Below.alloc ?_ (by first | exact Nat.le_refl _ | (simp;done) | (simp;omega)) _)⟩
theorem right3_any (q7 : ByteArray) (q8 : Int) (q9 : ByteArray) (w : World) (h7 : q7.size <= maxLen) (h9 : q9.size <= maxLen) :
 Calls Tryz.prog 223 #[.agg #[.string q7,.int .i64 q8,.string q9]] w fun e w' => e = .returned (.bool (itemB q7 q8 q9)) /\ Below w.heap.size w w':=by
 have H7:=qH h7
 have H9:=qH h9
 have HB : Hid (Below w.heap.size w (w.alloc (.cells #[.string q7,.int .i64 q8,.string q9] 220))):=qH ((Below.refl _ _).alloc (Nat.le_refl _) _)
 go_enter Tryz.func223,Tryz.ntmps223
 go_wp2_with fail
 refine (implItem_any q7 q8 q9 _ H7.out H9.out).mono ?_
 rintro e w1 ⟨rfl,hb⟩
 have HB1:=qH (HB.out.trans (hb.mono HB.out.size))
 clear hb
 go_wp2_with fail
 go_ret
 exact ⟨rfl,HB1.out⟩
theorem whole3_any (q7 : ByteArray) (q8 : Int) (q9 : ByteArray) (w : World) :
 Calls Tryz.prog 224 #[.agg #[.string q7,.int .i64 q8,.string q9]] w fun e w' => e = .returned (.agg #[.int .i64 3,.int .i64 0,.int .i64 0,.int .i64 0,.int .i64 0,.int .i64 0,.string ⟨#[]⟩,.string q7,.int .i64 q8,.string q9]) /\ Below w.heap.size w w':=by
 have HB : Hid (Below w.heap.size w (w.alloc (.cells #[.string q7,.int .i64 q8,.string q9] 220))):=qH ((Below.refl _ _).alloc (Nat.le_refl _) _)
 go_enter Tryz.func224,Tryz.ntmps224
 go_wp2_with fail
 exact bodyPost_ret (v:=.agg #[.int .i64 3,.int .i64 0,.int .i64 0,.int .i64 0,.int .i64 0,.int .i64 0,.string ⟨#[]⟩,.string q7,.int .i64 q8,.string q9]) (by simp [results,Tryz.results224,go_sem]) rfl ⟨rfl,by repeat' (first | exact Below.refl _ _ | refine Below.alloc ?_ (by first | exact Nat.le_refl _ | (simp;done) | (simp;omega)) _)⟩
theorem right4_any (q7 : ByteArray) (w : World) (h7 : q7.size <= maxLen) :
 Calls Tryz.prog 230 #[.string q7] w fun e w' => e = .returned (.bool (wordB q7)) /\ Below w.heap.size w w':=by
 have H7:=qH h7
 go_enter Tryz.func230,Tryz.ntmps230
 go_wp2_with fail
 refine (implWord_any q7 _ H7.out).mono ?_
 rintro e w1 ⟨rfl,hb⟩
 have HB1:=qH (hb)
 clear hb
 go_wp2_with fail
 go_ret
 exact ⟨rfl,HB1.out⟩
theorem whole4_any (q7 : ByteArray) (w : World) :
 Calls Tryz.prog 231 #[.string q7] w fun e w' => e = .returned (.agg #[.int .i64 4,.int .i64 0,.int .i64 0,.int .i64 0,.int .i64 0,.int .i64 0,.string ⟨#[]⟩,.string q7,.int .i64 0,.string ⟨#[]⟩]) /\ Below w.heap.size w w':=by
 go_enter Tryz.func231,Tryz.ntmps231
 go_wp2_with fail
 exact bodyPost_ret (v:=.agg #[.int .i64 4,.int .i64 0,.int .i64 0,.int .i64 0,.int .i64 0,.int .i64 0,.string ⟨#[]⟩,.string q7,.int .i64 0,.string ⟨#[]⟩]) (by simp [results,Tryz.results231,go_sem]) rfl ⟨rfl,by repeat' (first | exact Below.refl _ _ | refine Below.alloc ?_ (by first | exact Nat.le_refl _ | (simp;done) | (simp;omega)) _)⟩
theorem eql_deed1 (q1 q2 q3 q4 q5 : Int) (q6 q7 : ByteArray) (q8 : Int) (q9 : ByteArray) (W : World) :
 (binOp .eql 145 (.agg #[.int .i64 1,.int .i64 q1,.int .i64 q2,.int .i64 q3,.int .i64 q4,.int .i64 0,.string ⟨#[]⟩,.string ⟨#[]⟩,.int .i64 0,.string ⟨#[]⟩]) (.agg #[.int .i64 1,.int .i64 q1,.int .i64 q2,.int .i64 q3,.int .i64 q4,.int .i64 q5,.string q6,.string q7,.int .i64 q8,.string q9])).run Tryz.prog W = .ok (.bool (decide (q5 = 0 /\ q6 = ⟨#[]⟩) && decide (q7 = ⟨#[]⟩ /\ q8 = 0 /\ q9 = ⟨#[]⟩))) W:=by
 by_cases h : q5 = 0
 case neg => (have h2 : ¬ 0 = q5:=fun e => h e.symm;simp [go_sem,h,h2])
 subst h
 by_cases h : q6 = ⟨#[]⟩
 case neg => (have h2:=toList_ne h;have h3 : ¬ ([] : List UInt8) = q6.toList:=fun e => h2 e.symm;have h4 : ¬ (⟨#[]⟩ : ByteArray) = q6:=fun e => h e.symm;simp [go_sem,h,h2])
 subst h
 by_cases h : q7 = ⟨#[]⟩
 case neg => (have h2:=toList_ne h;have h3 : ¬ ([] : List UInt8) = q7.toList:=fun e => h2 e.symm;have h4 : ¬ (⟨#[]⟩ : ByteArray) = q7:=fun e => h e.symm;simp [go_sem,h,h2])
 subst h
 by_cases h : q8 = 0
 case neg => (have h2 : ¬ 0 = q8:=fun e => h e.symm;simp [go_sem,h,h2])
 subst h
 by_cases h : q9 = ⟨#[]⟩
 case neg => (have h2:=toList_ne h;have h3 : ¬ ([] : List UInt8) = q9.toList:=fun e => h2 e.symm;have h4 : ¬ (⟨#[]⟩ : ByteArray) = q9:=fun e => h e.symm;simp [go_sem,h,h2])
 subst h
 simp [go_sem]
theorem eql_deed2 (q1 q2 q3 q4 q5 : Int) (q6 q7 : ByteArray) (q8 : Int) (q9 : ByteArray) (W : World) :
 (binOp .eql 145 (.agg #[.int .i64 2,.int .i64 0,.int .i64 0,.int .i64 0,.int .i64 0,.int .i64 q5,.string q6,.string ⟨#[]⟩,.int .i64 0,.string ⟨#[]⟩]) (.agg #[.int .i64 2,.int .i64 q1,.int .i64 q2,.int .i64 q3,.int .i64 q4,.int .i64 q5,.string q6,.string q7,.int .i64 q8,.string q9])).run Tryz.prog W = .ok (.bool (decide (q1 = 0 /\ q2 = 0 /\ q3 = 0 /\ q4 = 0) && decide (q7 = ⟨#[]⟩ /\ q8 = 0 /\ q9 = ⟨#[]⟩))) W:=by
 by_cases h : q1 = 0
 case neg => (have h2 : ¬ 0 = q1:=fun e => h e.symm;simp [go_sem,h,h2])
 subst h
 by_cases h : q2 = 0
 case neg => (have h2 : ¬ 0 = q2:=fun e => h e.symm;simp [go_sem,h,h2])
 subst h
 by_cases h : q3 = 0
 case neg => (have h2 : ¬ 0 = q3:=fun e => h e.symm;simp [go_sem,h,h2])
 subst h
 by_cases h : q4 = 0
 case neg => (have h2 : ¬ 0 = q4:=fun e => h e.symm;simp [go_sem,h,h2])
 subst h
 by_cases h : q7 = ⟨#[]⟩
 case neg => (have h2:=toList_ne h;have h3 : ¬ ([] : List UInt8) = q7.toList:=fun e => h2 e.symm;have h4 : ¬ (⟨#[]⟩ : ByteArray) = q7:=fun e => h e.symm;simp [go_sem,h,h2])
 subst h
 by_cases h : q8 = 0
 case neg => (have h2 : ¬ 0 = q8:=fun e => h e.symm;simp [go_sem,h,h2])
 subst h
 by_cases h : q9 = ⟨#[]⟩
 case neg => (have h2:=toList_ne h;have h3 : ¬ ([] : List UInt8) = q9.toList:=fun e => h2 e.symm;have h4 : ¬ (⟨#[]⟩ : ByteArray) = q9:=fun e => h e.symm;simp [go_sem,h,h2])
 subst h
 simp [go_sem]
theorem eql_deed3 (q1 q2 q3 q4 q5 : Int) (q6 q7 : ByteArray) (q8 : Int) (q9 : ByteArray) (W : World) :
 (binOp .eql 145 (.agg #[.int .i64 3,.int .i64 0,.int .i64 0,.int .i64 0,.int .i64 0,.int .i64 0,.string ⟨#[]⟩,.string q7,.int .i64 q8,.string q9]) (.agg #[.int .i64 3,.int .i64 q1,.int .i64 q2,.int .i64 q3,.int .i64 q4,.int .i64 q5,.string q6,.string q7,.int .i64 q8,.string q9])).run Tryz.prog W = .ok (.bool (decide (q1 = 0 /\ q2 = 0 /\ q3 = 0 /\ q4 = 0) && decide (q5 = 0 /\ q6 = ⟨#[]⟩))) W:=by
 by_cases h : q1 = 0
 case neg => (have h2 : ¬ 0 = q1:=fun e => h e.symm;simp [go_sem,h,h2])
 subst h
 by_cases h : q2 = 0
 case neg => (have h2 : ¬ 0 = q2:=fun e => h e.symm;simp [go_sem,h,h2])
 subst h
 by_cases h : q3 = 0
 case neg => (have h2 : ¬ 0 = q3:=fun e => h e.symm;simp [go_sem,h,h2])
 subst h
 by_cases h : q4 = 0
 case neg => (have h2 : ¬ 0 = q4:=fun e => h e.symm;simp [go_sem,h,h2])
 subst h
 by_cases h : q5 = 0
 case neg => (have h2 : ¬ 0 = q5:=fun e => h e.symm;simp [go_sem,h,h2])
 subst h
 by_cases h : q6 = ⟨#[]⟩
 case neg => (have h2:=toList_ne h;have h3 : ¬ ([] : List UInt8) = q6.toList:=fun e => h2 e.symm;have h4 : ¬ (⟨#[]⟩ : ByteArray) = q6:=fun e => h e.symm;simp [go_sem,h,h2])
 subst h
 simp [go_sem]
theorem eql_deed4 (q1 q2 q3 q4 q5 : Int) (q6 q7 : ByteArray) (q8 : Int) (q9 : ByteArray) (W : World) :
 (binOp .eql 145 (.agg #[.int .i64 4,.int .i64 0,.int .i64 0,.int .i64 0,.int .i64 0,.int .i64 0,.string ⟨#[]⟩,.string q7,.int .i64 0,.string ⟨#[]⟩]) (.agg #[.int .i64 4,.int .i64 q1,.int .i64 q2,.int .i64 q3,.int .i64 q4,.int .i64 q5,.string q6,.string q7,.int .i64 q8,.string q9])).run Tryz.prog W = .ok (.bool (decide (q1 = 0 /\ q2 = 0 /\ q3 = 0 /\ q4 = 0) && decide (q5 = 0 /\ q6 = ⟨#[]⟩) && decide (q8 = 0 /\ q9 = ⟨#[]⟩))) W:=by
 by_cases h : q1 = 0
 case neg => (have h2 : ¬ 0 = q1:=fun e => h e.symm;simp [go_sem,h,h2])
 subst h
 by_cases h : q2 = 0
 case neg => (have h2 : ¬ 0 = q2:=fun e => h e.symm;simp [go_sem,h,h2])
 subst h
 by_cases h : q3 = 0
 case neg => (have h2 : ¬ 0 = q3:=fun e => h e.symm;simp [go_sem,h,h2])
 subst h
 by_cases h : q4 = 0
 case neg => (have h2 : ¬ 0 = q4:=fun e => h e.symm;simp [go_sem,h,h2])
 subst h
 by_cases h : q5 = 0
 case neg => (have h2 : ¬ 0 = q5:=fun e => h e.symm;simp [go_sem,h,h2])
 subst h
 by_cases h : q6 = ⟨#[]⟩
 case neg => (have h2:=toList_ne h;have h3 : ¬ ([] : List UInt8) = q6.toList:=fun e => h2 e.symm;have h4 : ¬ (⟨#[]⟩ : ByteArray) = q6:=fun e => h e.symm;simp [go_sem,h,h2])
 subst h
 by_cases h : q8 = 0
 case neg => (have h2 : ¬ 0 = q8:=fun e => h e.symm;simp [go_sem,h,h2])
 subst h
 by_cases h : q9 = ⟨#[]⟩
 case neg => (have h2:=toList_ne h;have h3 : ¬ ([] : List UInt8) = q9.toList:=fun e => h2 e.symm;have h4 : ¬ (⟨#[]⟩ : ByteArray) = q9:=fun e => h e.symm;simp [go_sem,h,h2])
 subst h
 simp [go_sem]
end Go.Proofs.YthkbcjnbmciolaaGreatDoor
namespace Go.Proofs.YthkbcjnbmciolaaGreatDoor.TillZ
open Go
section
variable {P : Program} {ops : Array Oper} {md : Region.Mode} {S : World -> Prop} {Q : Exit -> Act -> World -> Prop}
def upZ (P : Program) (o : Oper) (a : Act) (next : Act -> World -> Prop) : Result Next -> Prop
 | .ok (.value v) w' => next (a.put o.dst v) w'
 | .ok .skip w' => next (a.put o.dst undef) w'
 | .ok (.enter f args) w' => Calls P f args w' fun
  | .returned v,w'' => next (a.put o.dst v) w''
  | _,_ => False
 | _ => False
theorem upZ_mono {o : Oper} {a : Act} {K K' : Act -> World -> Prop} (h : ∀ a w,K a w -> K' a w) {r : Result Next} (hr : upZ P o a K r) : upZ P o a K' r:=by
 cases r with
 | ok x w' =>
  cases x <;> first
   | exact h _ _ hr
   | exact Calls.mono hr (fun e w'' he => by cases e <;> first | exact h _ _ he | exact he)
   | exact hr.elim
 | halt x w' => exact hr.elim
def opZ (P : Program) (ops : Array Oper) (i : Nat) (K : Act -> World -> Prop) (a : Act) (w : World) : Prop :=
 ∃ o,ops[i]? = some o /\ o.guard = none /\ upZ P o a K ((execOp a.eval o).run P w)
theorem opZ_mono {i : Nat} {a : Act} {w : World} {K K' : Act -> World -> Prop} (h : ∀ a w,K a w -> K' a w) (hh : opZ P ops i K a w) : opZ P ops i K' a w:=by
 obtain ⟨o,h1,h2,h4⟩:=hh
 exact ⟨o,h1,h2,upZ_mono h h4⟩
theorem opZ_wp {i : Nat} {a : Act} {w : World} {K : Act -> World -> Prop} (h : opZ P ops i K a w) : wpOp P ops Q i K a w:=by
 obtain ⟨o,ho,hg,hu⟩:=h
 unfold wpOp
 rw [ho]
 dsimp only
 rw [if_pos (by simp [Region.wanted,hg])]
 refine .inl ?_
 unfold Oper.wp
 generalize (execOp a.eval o).run P w = r at *
 cases r with
 | ok x w' =>
  cases x <;> first
   | exact hu
   | exact Calls.mono hu (fun e w'' he => by cases e <;> first | exact he | exact he.elim)
   | exact hu.elim
 | halt x w' => exact hu.elim
def wpZ (P : Program) (md : Region.Mode) (ops : Array Oper) (S : World -> Prop) (t : Nat) (Q : Exit -> Act -> World -> Prop) : Nat -> Array Bool -> Act -> World -> Prop
 | 0,_,_,_ => False
 | k + 1,listed,a,w => Region.ready md ops listed ≠ [] /\ ∀ i ∈ Region.ready md ops listed,opZ P ops i (fun a' w' => (i = t -> wpAny P md ops Q k (listed.setIfInBounds i true) a' w') /\ (i ≠ t -> S w' /\ wpZ P md ops S t Q k (listed.setIfInBounds i true) a' w')) a w
theorem any_of {t : Nat} : ∀ (k : Nat) (listed : Array Bool) (a : Act) (w : World),wpZ P md ops S t Q k listed a w -> wpAny P md ops Q k listed a w
 | 0,_,_,_,h => h.elim
 | k + 1,listed,a,w,h => ⟨fun h0 => absurd h0 h.1,fun i hi => opZ_wp (opZ_mono (fun a' w' h2 => by
  by_cases e : i = t
  · exact h2.1 e
  · exact any_of k _ _ _ (h2.2 e).2) (h.2 i hi))⟩
def YieldsZ (P : Program) (S : World -> Prop) (o : Oper) (v : Value) (a : Act) : Prop:=∀ w,S w -> (execOp a.eval o).run P w = .ok (.value v) w
theorem put_step {j : Nat} {oi oj : Oper} {v : Value} (hj : ops[j]? = some oj) (hap : oi.apart ops oj = true) (hsi : ∀ cs b,oi.op ≠ .select cs b) (hsj : ∀ cs b,oj.op ≠ .select cs b) {K : Act -> World -> Prop} {a : Act} {w : World}
 (hy : YieldsZ P S oi v a) (h : opZ P ops j K (a.put oi.dst v) w) : opZ P ops j (fun a' w' => YieldsZ P S oi v a' /\ K (a'.put oi.dst v) w') a w:=by
 obtain ⟨h1,h2,h3⟩:=Oper.apart_spec hap
 have keep : ∀ u,YieldsZ P S oi v (a.put oj.dst u):=fun u w hS => by
  rw [execOp_put (ops:=ops) oi hsi a oj.dst u h3]
  exact hy w hS
 obtain ⟨o,ho,hg,hu⟩:=h
 obtain rfl : o = oj:=Option.some.inj (ho.symm.trans hj)
 refine ⟨o,hj,hg,?_⟩
 rw [execOp_put (ops:=ops) o hsj a oi.dst v h1] at hu
 generalize (execOp a.eval o).run P w = r at *
 cases r with
 | ok x w' =>
  cases x <;> first
   | exact ⟨keep _,by rw [<- Act.put_comm a v _ h2];exact hu⟩
   | exact Calls.mono hu (fun e w'' he => by cases e <;> first | exact ⟨keep _,by rw [<- Act.put_comm a v _ h2];exact he⟩ | exact he)
   | exact hu.elim
 | halt x w' => exact hu.elim
theorem first {i t : Nat} {oi ot : Oper} {v : Value} (hi : ops[i]? = some oi) (hg : oi.guard = none) (hne : i ≠ t) (ht : ops[t]? = some ot) (hw : ∃ e ∈ ot.after,Region.binds md e = true /\ e.on = i)
 (hsel : ∀ (j : Nat) (o : Oper) cs b,ops[j]? = some o -> o.op ≠ .select cs b) :
 ∀ (k : Nat) (listed : Array Bool) (a : Act) (w : World),
  (∀ j oj,ops[j]? = some oj -> j ≠ i -> listed.getD j true = false -> (∀ e ∈ oj.after,Region.binds md e = true -> e.on ≠ i) -> oi.apart ops oj = true) →
  i ∈ Region.ready md ops listed -> YieldsZ P S oi v a -> S w →
  wpZ P md ops S t Q k (listed.setIfInBounds i true) (a.put oi.dst v) w -> wpZ P md ops S t Q (k + 1) listed a w:=by
 intro k
 induction k with
 | zero => intro listed a w _ _ _ _ H;exact H.elim
 | succ k ih =>
  intro listed a w hfree hr hy hS H
  refine ⟨fun h => (by rw [h] at hr;cases hr),fun j hj => ?_⟩
  by_cases hji : j = i
  · subst hji
    exact ⟨oi,hi,hg,by rw [hy w hS];exact ⟨fun e => absurd e hne,fun _ => ⟨hS,H⟩⟩⟩
  · obtain ⟨hjun,oj,hoj,hall⟩:=mem_ready.1 hj
    have hun : ∀ e ∈ oj.after,Region.binds md e = true -> e.on ≠ i:=fun e he hb heq => by
     have ha:=hall e he hb
     have hb0:=(mem_ready.1 hr).1
     rw [heq] at ha
     rcases Nat.lt_or_ge i listed.size with hl | hl
     · simp [hl] at hb0 ha;rw [hb0] at ha;cases ha
     · simp [Array.getElem?_eq_none hl] at ha
    have hjt : j ≠ t:=fun e => by
     subst e
     obtain rfl : oj = ot:=Option.some.inj (hoj.symm.trans ht)
     obtain ⟨e,he,hb,hon⟩:=hw
     exact hun e he hb hon
    have hs:=put_step hoj (hfree j oj hoj hji hjun hun) (fun cs b => hsel i oi cs b hi) (fun cs b => hsel j oj cs b hoj) hy (H.2 j (ready_mono hj hji))
    refine opZ_mono (fun a' w' h3 => ?_) hs
    obtain ⟨hS',h4⟩:=h3.2.2 hjt
    refine ⟨fun e => absurd e hjt,fun _ => ⟨hS',ih (listed.setIfInBounds j true) a' w' (fun m om hm hmi hmun hno => hfree m om hm hmi (by
     by_cases hjm : j = m
     · rw [<- hjm];exact hjun
     · rw [getD_set_ne true hjm] at hmun;exact hmun) hno) (ready_mono hr (Ne.symm hji)) h3.1 hS' ?_⟩⟩
    rw [Array.setIfInBounds_comm _ _ hji]
    exact h4
def waits (md : Region.Mode) (ops : Array Oper) (t i : Nat) : Bool:=match ops[t]? with | some o => o.after.any (fun e => Region.binds md e && e.on == i) | none => false
theorem take {i t : Nat} {oi : Oper} {v : Value} {k : Nat} {listed : Array Bool} {a : Act} {w : World} (hi : ops[i]? = some oi) (hg : oi.guard = none) (hne : Nat.beq i t = false) (hw : waits md ops t i = true)
 (hs : Region.noSelect ops = true) (hf : Region.free md ops listed i = true) (hr : (Region.ready md ops listed).contains i = true) (hS : S w) (hy : YieldsZ P S oi v a)
 (h : wpZ P md ops S t Q k (listed.setIfInBounds i true) (a.put oi.dst v) w) : wpZ P md ops S t Q (k + 1) listed a w:=by
 unfold waits at hw
 cases ht : ops[t]? with
 | none => rw [ht] at hw;cases hw
 | some ot =>
  rw [ht] at hw
  obtain ⟨e,he,hb⟩:=Array.any_eq_true'.1 hw
  simp only [Bool.and_eq_true,beq_iff_eq] at hb
  exact first hi hg (Nat.ne_of_beq_eq_false hne) ht ⟨e,he,hb.1,hb.2⟩ (Region.noSelect_spec hs) k listed a w (Region.free_spec hi hf) (by simpa using hr) hy hS h
theorem take4 {i t : Nat} {oi : Oper} {v : Value} {k : Nat} {listed : Array Bool} {a : Act} {w : World} (hi : ops[i]? = some oi) (hg : oi.guard = none) (hne : Nat.beq i t = false) (hw : (waits md ops t i && (Region.noSelect ops && (Region.free md ops listed i && (Region.ready md ops listed).contains i))) = true) (hS : S w) (hy : YieldsZ P S oi v a)
 (h : wpZ P md ops S t Q k (listed.setIfInBounds i true) (a.put oi.dst v) w) : wpZ P md ops S t Q (k + 1) listed a w:=by
 simp only [Bool.and_eq_true] at hw
 exact take hi hg hne hw.1 hw.2.1 hw.2.2.1 hw.2.2.2 hS hy h
theorem value {i t : Nat} {o : Oper} {k : Nat} {listed : Array Bool} {a : Act} {w : World} {v : Value} (hr : Region.ready md ops listed = [i]) (ho : ops[i]? = some o) (hg : o.guard = none) (hne : Nat.beq i t = false) (he : (execOp a.eval o).run P w = .ok (.value v) w) (hS : S w)
 (h : wpZ P md ops S t Q k (listed.setIfInBounds i true) (a.put o.dst v) w) : wpZ P md ops S t Q (k + 1) listed a w:=by
 refine ⟨fun h0 => (by rw [hr] at h0;cases h0),fun j hj => ?_⟩
 rw [hr] at hj
 obtain rfl : j = i:=by simpa using hj
 exact ⟨o,ho,hg,by rw [he];exact ⟨fun e => absurd e (Nat.ne_of_beq_eq_false hne),fun _ => ⟨hS,h⟩⟩⟩
theorem opz {i t : Nat} {o : Oper} {k : Nat} {listed : Array Bool} {a : Act} {w w' : World} {v : Value} (ho : ops[i]? = some o) (hg : o.guard = none) (hne : Nat.beq i t = false) (he : (execOp a.eval o).run P w = .ok (.value v) w') (hS : S w')
 (h : wpZ P md ops S t Q k (listed.setIfInBounds i true) (a.put o.dst v) w') : opZ P ops i (fun a' w' => (i = t -> wpAny P md ops Q k (listed.setIfInBounds i true) a' w') /\ (i ≠ t -> S w' /\ wpZ P md ops S t Q k (listed.setIfInBounds i true) a' w')) a w :=
 ⟨o,ho,hg,by rw [he];exact ⟨fun e => absurd e (Nat.ne_of_beq_eq_false hne),fun _ => ⟨hS,h⟩⟩⟩
theorem opz_skip {i t : Nat} {o : Oper} {k : Nat} {listed : Array Bool} {a : Act} {w w' : World} (ho : ops[i]? = some o) (hg : o.guard = none) (hne : Nat.beq i t = false) (he : (execOp a.eval o).run P w = .ok .skip w') (hS : S w')
 (h : wpZ P md ops S t Q k (listed.setIfInBounds i true) (a.put o.dst undef) w') : opZ P ops i (fun a' w' => (i = t -> wpAny P md ops Q k (listed.setIfInBounds i true) a' w') /\ (i ≠ t -> S w' /\ wpZ P md ops S t Q k (listed.setIfInBounds i true) a' w')) a w :=
 ⟨o,ho,hg,by rw [he];exact ⟨fun e => absurd e (Nat.ne_of_beq_eq_false hne),fun _ => ⟨hS,h⟩⟩⟩
theorem one {i t : Nat} {k : Nat} {listed : Array Bool} {a : Act} {w : World} (hr : Region.ready md ops listed = [i]) (h : opZ P ops i (fun a' w' => (i = t -> wpAny P md ops Q k (listed.setIfInBounds i true) a' w') /\ (i ≠ t -> S w' /\ wpZ P md ops S t Q k (listed.setIfInBounds i true) a' w')) a w) : wpZ P md ops S t Q (k + 1) listed a w:=by
 refine ⟨fun h0 => (by rw [hr] at h0;cases h0),fun j hj => ?_⟩
 rw [hr] at hj
 obtain rfl : j = i:=by simpa using hj
 exact h
theorem two {i j t : Nat} {k : Nat} {listed : Array Bool} {a : Act} {w : World} (hr : Region.ready md ops listed = [i,j])
 (h : opZ P ops i (fun a' w' => (i = t -> wpAny P md ops Q k (listed.setIfInBounds i true) a' w') /\ (i ≠ t -> S w' /\ wpZ P md ops S t Q k (listed.setIfInBounds i true) a' w')) a w)
 (h2 : opZ P ops j (fun a' w' => (j = t -> wpAny P md ops Q k (listed.setIfInBounds j true) a' w') /\ (j ≠ t -> S w' /\ wpZ P md ops S t Q k (listed.setIfInBounds j true) a' w')) a w) : wpZ P md ops S t Q (k + 1) listed a w:=by
 refine ⟨fun h0 => (by rw [hr] at h0;cases h0),fun m hm => ?_⟩
 rw [hr] at hm
 rcases List.mem_cons.1 hm with rfl | hm
 · exact h
 · obtain rfl : m = j:=by simpa using hm
   exact h2
theorem callz {i t : Nat} {o : Oper} {k : Nat} {listed : Array Bool} {a : Act} {w : World} {f : FuncId} {args : Array Value} (ho : ops[i]? = some o) (hg : o.guard = none) (hne : Nat.beq i t = false) (he : (execOp a.eval o).run P w = .ok (.enter f args) w)
 (h : Calls P f args w fun e w'' => ∃ v,e = .returned v /\ S w'' /\ wpZ P md ops S t Q k (listed.setIfInBounds i true) (a.put o.dst v) w'') : opZ P ops i (fun a' w' => (i = t -> wpAny P md ops Q k (listed.setIfInBounds i true) a' w') /\ (i ≠ t -> S w' /\ wpZ P md ops S t Q k (listed.setIfInBounds i true) a' w')) a w :=
 ⟨o,ho,hg,by rw [he];exact Calls.mono h (fun e w'' he => by obtain ⟨v,rfl,hS,h1⟩:=he;exact ⟨fun e => absurd e (Nat.ne_of_beq_eq_false hne),fun _ => ⟨hS,h1⟩⟩)⟩
theorem call {i t : Nat} {o : Oper} {k : Nat} {listed : Array Bool} {a : Act} {w : World} {f : FuncId} {args : Array Value} (hr : Region.ready md ops listed = [i]) (ho : ops[i]? = some o) (hg : o.guard = none) (hne : Nat.beq i t = false) (he : (execOp a.eval o).run P w = .ok (.enter f args) w)
 (h : Calls P f args w fun e w'' => ∃ v,e = .returned v /\ S w'' /\ wpZ P md ops S t Q k (listed.setIfInBounds i true) (a.put o.dst v) w'') : wpZ P md ops S t Q (k + 1) listed a w :=
 one hr ⟨o,ho,hg,by rw [he];exact Calls.mono h (fun e w'' he => by obtain ⟨v,rfl,hS,h1⟩:=he;exact ⟨fun e => absurd e (Nat.ne_of_beq_eq_false hne),fun _ => ⟨hS,h1⟩⟩)⟩
theorem hand_skip {t : Nat} {o : Oper} {k : Nat} {listed : Array Bool} {a : Act} {w w' : World} (hr : Region.ready md ops listed = [t]) (ho : ops[t]? = some o) (hg : o.guard = none) (he : (execOp a.eval o).run P w = .ok .skip w')
 (h : wpAny P md ops Q k (listed.setIfInBounds t true) (a.put o.dst undef) w') : wpZ P md ops S t Q (k + 1) listed a w:=by
 refine ⟨fun h0 => (by rw [hr] at h0;cases h0),fun j hj => ?_⟩
 rw [hr] at hj
 obtain rfl : j = t:=by simpa using hj
 exact ⟨o,ho,hg,by rw [he];exact ⟨fun _ => h,fun e => absurd rfl e⟩⟩
theorem any_done {listed : Array Bool} {a : Act} {w : World} (hr : Region.ready md ops listed = []) (h : Q .normal a w) : ∀ k,wpAny P md ops Q k listed a w
 | 0 => ⟨hr,h⟩
 | _ + 1 => ⟨fun _ => h,by rw [hr];simp⟩
theorem hand {t : Nat} {o : Oper} {k : Nat} {listed : Array Bool} {a : Act} {w : World} {v : Value} (hr : Region.ready md ops listed = [t]) (ho : ops[t]? = some o) (hg : o.guard = none) (he : (execOp a.eval o).run P w = .ok (.value v) w)
 (h : wpAny P md ops Q k (listed.setIfInBounds t true) (a.put o.dst v) w) : wpZ P md ops S t Q (k + 1) listed a w:=by
 refine ⟨fun h0 => (by rw [hr] at h0;cases h0),fun j hj => ?_⟩
 rw [hr] at hj
 obtain rfl : j = t:=by simpa using hj
 exact ⟨o,ho,hg,by rw [he];exact ⟨fun _ => h,fun e => absurd rfl e⟩⟩
theorem any_value {i : Nat} {o : Oper} {k : Nat} {listed : Array Bool} {a : Act} {w : World} {v : Value} (hr : Region.ready md ops listed = [i]) (ho : ops[i]? = some o) (hg : o.guard = none) (he : (execOp a.eval o).run P w = .ok (.value v) w)
 (h : wpAny P md ops Q k (listed.setIfInBounds i true) (a.put o.dst v) w) : wpAny P md ops Q (k + 1) listed a w:=by
 refine ⟨fun h0 => (by rw [hr] at h0;cases h0),fun j hj => ?_⟩
 rw [hr] at hj
 obtain rfl : j = i:=by simpa using hj
 exact opZ_wp ⟨o,ho,hg,by rw [he];exact h⟩
theorem wp_of_up {o : Oper} {a : Act} {w : World} {K : Act -> World -> Prop} (hu : upZ P o a K ((execOp a.eval o).run P w)) : o.wp P a w K Q:=by
 unfold Oper.wp
 generalize (execOp a.eval o).run P w = r at *
 cases r with
 | ok x w' =>
  cases x <;> first
   | exact hu
   | exact Calls.mono hu (fun e w'' he => by cases e <;> first | exact he | exact he.elim)
   | exact hu.elim
 | halt x w' => exact hu.elim
theorem any_callg {i : Nat} {o : Oper} {k : Nat} {listed : Array Bool} {a : Act} {w : World} {f : FuncId} {args : Array Value} (hr : Region.ready md ops listed = [i]) (ho : ops[i]? = some o) (hw : Region.wanted o (yielded ops a.tmps) = true) (he : (execOp a.eval o).run P w = .ok (.enter f args) w)
 (h : Calls P f args w fun e w'' => ∃ v,e = .returned v /\ wpAny P md ops Q k (listed.setIfInBounds i true) (a.put o.dst v) w'') : wpAny P md ops Q (k + 1) listed a w:=by
 refine ⟨fun h0 => (by rw [hr] at h0;cases h0),fun j hj => ?_⟩
 rw [hr] at hj
 obtain rfl : j = i:=by simpa using hj
 unfold wpOp
 rw [ho]
 dsimp only
 rw [if_pos hw]
 exact .inl (wp_of_up (by rw [he];exact Calls.mono h (fun e w'' he => by obtain ⟨v,rfl,h1⟩:=he;exact h1)))
theorem any_valueg {i : Nat} {o : Oper} {k : Nat} {listed : Array Bool} {a : Act} {w w' : World} {v : Value} (hr : Region.ready md ops listed = [i]) (ho : ops[i]? = some o) (hw : Region.wanted o (yielded ops a.tmps) = true) (he : (execOp a.eval o).run P w = .ok (.value v) w')
 (h : wpAny P md ops Q k (listed.setIfInBounds i true) (a.put o.dst v) w') : wpAny P md ops Q (k + 1) listed a w:=by
 refine ⟨fun h0 => (by rw [hr] at h0;cases h0),fun j hj => ?_⟩
 rw [hr] at hj
 obtain rfl : j = i:=by simpa using hj
 unfold wpOp
 rw [ho]
 dsimp only
 rw [if_pos hw]
 exact .inl (wp_of_up (by rw [he];exact h))
theorem still {g m : Nat} {listed : Array Bool} {a : Act} {w : World} (hg : g = ops.toList.length - m) (hs : Region.noSelect ops = true) (hB : Region.lexFrom md ops g m listed = true)
 (h : wpStill P ops w (fun a' => Q .normal a' w) (ops.toList.drop m) a) : wpAny P md ops Q g listed a w:=by
 have hl : (ops.toList.drop m).length = g:=by rw [List.length_drop,hg]
 have h1:=wpAnyS_lex (md:=md) (w:=w) (Q:=fun a' => Q .normal a' w) hs (ops.toList.drop m) m listed a (fun j => by simp [List.getElem?_drop]) (by rw [hl];exact hB) h
 rw [hl] at h1
 exact wpAny_of_still (fun _ h => h) _ _ _ h1
theorem no {K : Act -> Prop} {l : List Oper} {o : Oper} {a : Act} {w : World} (hw : Region.wanted o (yielded ops a.tmps) = false) (h : wpStill P ops w K l (a.put o.dst undef)) : wpStill P ops w K (o :: l) a:=by
 unfold wpStill
 rw [if_neg (by rw [hw];decide)]
 exact h
theorem step {K : Act -> Prop} {l : List Oper} {o : Oper} {a : Act} {w : World} (hw : Region.wanted o (yielded ops a.tmps) = true) (h : ∀ K' : Act -> Prop,(∀ a,wpStill P ops w K l a -> K' a) -> o.still P a w K') : wpStill P ops w K (o :: l) a:=by
 unfold wpStill
 rw [if_pos hw]
 exact h _ (fun _ h => h)
theorem region {id t : Nat} {a : Act} {w : World} (hm : P.follows .mixedOrders = true) (S : World -> Prop) (h : wpZ P .any ops S t Q ops.size (Array.replicate ops.size false) a w.drew) : (Code.region id ops true).wp P Q a w :=
 wp_region_any hm (any_of _ _ _ _ h)
end
end Go.Proofs.YthkbcjnbmciolaaGreatDoor.TillZ
namespace Go.Proofs.YthkbcjnbmciolaaGreatDoor
open Go.RowKit Go.PlainAid G
set_option linter.unusedVariables false
theorem nil_right1 (a b c d : Int) (w : World) : (nilAhead 407 213 (.agg #[.int .i64 a, .int .i64 b, .int .i64 c, .int .i64 d]) "loop.example/g00839/impl.right").run Tryz.prog w = .ok (some false) w := by kernel_rfl
theorem met_right1 (a b c d : Int) (w : World) : (method 407 213 (.agg #[.int .i64 a, .int .i64 b, .int .i64 c, .int .i64 d]) "loop.example/g00839/impl.right").run Tryz.prog w = .ok (213, .agg #[.int .i64 a, .int .i64 b, .int .i64 c, .int .i64 d]) w := by kernel_rfl
theorem nil_whole1 (a b c d : Int) (w : World) : (nilAhead 407 213 (.agg #[.int .i64 a, .int .i64 b, .int .i64 c, .int .i64 d]) "loop.example/g00839/impl.whole").run Tryz.prog w = .ok (some false) w := by kernel_rfl
theorem met_whole1 (a b c d : Int) (w : World) : (method 407 213 (.agg #[.int .i64 a, .int .i64 b, .int .i64 c, .int .i64 d]) "loop.example/g00839/impl.whole").run Tryz.prog w = .ok (214, .agg #[.int .i64 a, .int .i64 b, .int .i64 c, .int .i64 d]) w := by kernel_rfl
theorem nil_bytes1 (a b c d : Int) (w : World) : (nilAhead 407 213 (.agg #[.int .i64 a, .int .i64 b, .int .i64 c, .int .i64 d]) "loop.example/g00839/impl.bytes").run Tryz.prog w = .ok (some false) w := by kernel_rfl
theorem met_bytes1 (a b c d : Int) (w : World) : (method 407 213 (.agg #[.int .i64 a, .int .i64 b, .int .i64 c, .int .i64 d]) "loop.example/g00839/impl.bytes").run Tryz.prog w = .ok (211, .agg #[.int .i64 a, .int .i64 b, .int .i64 c, .int .i64 d]) w := by kernel_rfl
theorem nil_right2 (a : Int) (b : ByteArray) (w : World) : (nilAhead 407 219 (.agg #[.int .i64 a, .string b]) "loop.example/g00839/impl.right").run Tryz.prog w = .ok (some false) w := by kernel_rfl
theorem met_right2 (a : Int) (b : ByteArray) (w : World) : (method 407 219 (.agg #[.int .i64 a, .string b]) "loop.example/g00839/impl.right").run Tryz.prog w = .ok (218, .agg #[.int .i64 a, .string b]) w := by kernel_rfl
theorem nil_whole2 (a : Int) (b : ByteArray) (w : World) : (nilAhead 407 219 (.agg #[.int .i64 a, .string b]) "loop.example/g00839/impl.whole").run Tryz.prog w = .ok (some false) w := by kernel_rfl
theorem met_whole2 (a : Int) (b : ByteArray) (w : World) : (method 407 219 (.agg #[.int .i64 a, .string b]) "loop.example/g00839/impl.whole").run Tryz.prog w = .ok (219, .agg #[.int .i64 a, .string b]) w := by kernel_rfl
theorem nil_bytes2 (a : Int) (b : ByteArray) (w : World) : (nilAhead 407 219 (.agg #[.int .i64 a, .string b]) "loop.example/g00839/impl.bytes").run Tryz.prog w = .ok (some false) w := by kernel_rfl
theorem met_bytes2 (a : Int) (b : ByteArray) (w : World) : (method 407 219 (.agg #[.int .i64 a, .string b]) "loop.example/g00839/impl.bytes").run Tryz.prog w = .ok (216, .agg #[.int .i64 a, .string b]) w := by kernel_rfl
theorem nil_right3 (a : ByteArray) (b : Int) (c : ByteArray) (w : World) : (nilAhead 407 220 (.agg #[.string a, .int .i64 b, .string c]) "loop.example/g00839/impl.right").run Tryz.prog w = .ok (some false) w := by kernel_rfl
theorem met_right3 (a : ByteArray) (b : Int) (c : ByteArray) (w : World) : (method 407 220 (.agg #[.string a, .int .i64 b, .string c]) "loop.example/g00839/impl.right").run Tryz.prog w = .ok (223, .agg #[.string a, .int .i64 b, .string c]) w := by kernel_rfl
theorem nil_whole3 (a : ByteArray) (b : Int) (c : ByteArray) (w : World) : (nilAhead 407 220 (.agg #[.string a, .int .i64 b, .string c]) "loop.example/g00839/impl.whole").run Tryz.prog w = .ok (some false) w := by kernel_rfl
theorem met_whole3 (a : ByteArray) (b : Int) (c : ByteArray) (w : World) : (method 407 220 (.agg #[.string a, .int .i64 b, .string c]) "loop.example/g00839/impl.whole").run Tryz.prog w = .ok (224, .agg #[.string a, .int .i64 b, .string c]) w := by kernel_rfl
theorem nil_bytes3 (a : ByteArray) (b : Int) (c : ByteArray) (w : World) : (nilAhead 407 220 (.agg #[.string a, .int .i64 b, .string c]) "loop.example/g00839/impl.bytes").run Tryz.prog w = .ok (some false) w := by kernel_rfl
theorem met_bytes3 (a : ByteArray) (b : Int) (c : ByteArray) (w : World) : (method 407 220 (.agg #[.string a, .int .i64 b, .string c]) "loop.example/g00839/impl.bytes").run Tryz.prog w = .ok (221, .agg #[.string a, .int .i64 b, .string c]) w := by kernel_rfl
theorem nil_right4 (a : ByteArray) (w : World) : (nilAhead 407 221 (.string a) "loop.example/g00839/impl.right").run Tryz.prog w = .ok (some false) w := by kernel_rfl
theorem met_right4 (a : ByteArray) (w : World) : (method 407 221 (.string a) "loop.example/g00839/impl.right").run Tryz.prog w = .ok (230, .string a) w := by kernel_rfl
theorem nil_whole4 (a : ByteArray) (w : World) : (nilAhead 407 221 (.string a) "loop.example/g00839/impl.whole").run Tryz.prog w = .ok (some false) w := by kernel_rfl
theorem met_whole4 (a : ByteArray) (w : World) : (method 407 221 (.string a) "loop.example/g00839/impl.whole").run Tryz.prog w = .ok (231, .string a) w := by kernel_rfl
theorem nil_bytes4 (a : ByteArray) (w : World) : (nilAhead 407 221 (.string a) "loop.example/g00839/impl.bytes").run Tryz.prog w = .ok (some false) w := by kernel_rfl
theorem met_bytes4 (a : ByteArray) (w : World) : (method 407 221 (.string a) "loop.example/g00839/impl.bytes").run Tryz.prog w = .ok (228, .string a) w := by kernel_rfl
theorem implDeedRight_any (q0 q1 q2 q3 q4 q5 : Int) (q6 q7 : ByteArray) (q8 : Int) (q9 : ByteArray) (w : World) (h6 : q6.size <= maxLen) (h7 : q7.size <= maxLen) (h9 : q9.size <= maxLen) :
 Calls Tryz.prog 135 #[.agg #[.int .i64 q0,.int .i64 q1,.int .i64 q2,.int .i64 q3,.int .i64 q4,.int .i64 q5,.string q6,.string q7,.int .i64 q8,.string q9]] w fun e w' => e = .returned (.bool (deedB q0 q1 q2 q3 q4 q5 q6 q7 q8 q9)) /\ Below w.heap.size w w':=by
 obtain ⟨W,hW⟩ : ∃ W,W = w.alloc (.cells #[.int .i64 q0,.int .i64 q1,.int .i64 q2,.int .i64 q3,.int .i64 q4,.int .i64 q5,.string q6,.string q7,.int .i64 q8,.string q9] 145):=⟨_,rfl⟩
 have HB0 : Hid (Below w.heap.size w W):=qH (by rw [hW];exact (Below.refl _ _).alloc (Nat.le_refl _) _)
 have HA : Hid (BoxC W (w.heap.size) [.int .i64 q0,.int .i64 q1,.int .i64 q2,.int .i64 q3,.int .i64 q4,.int .i64 q5,.string q6,.string q7,.int .i64 q8,.string q9]):=qH (by rw [hW];exact BoxC.made _ _ _)
 have H6:=qH h6
 have H7:=qH h7
 have H9:=qH h9
 clear h6 h7 h9
 have hmx : Tryz.prog.follows .mixedOrders = true:=by kernel_rfl
 by_cases k1 : q0 = 1
 · subst k1
   have HX : Hid (deedB 1 q1 q2 q3 q4 q5 q6 q7 q8 q9 = (confB q1 q2 q3 q4 && (decide (q5 = 0 /\ q6 = ⟨#[]⟩) && decide (q7 = ⟨#[]⟩ /\ q8 = 0 /\ q9 = ⟨#[]⟩)))):=qH (by unfold deedB;simp [Bool.and_assoc,Bool.and_comm,Bool.and_left_comm])
   have hn:=nil_right1 q1 q2 q3 q4
   have hm:=met_right1 q1 q2 q3 q4
   have hn2:=nil_whole1 q1 q2 q3 q4
   have hm2:=met_whole1 q1 q2 q3 q4
   go_enter Tryz.func135,Tryz.ntmps135
   go_wp2_with fail
   rw [<- hW]
   clear hW
   refine (deedOf1_any 1 q1 q2 q3 q4 q5 q6 q7 q8 q9 rfl _).mono ?_
   rintro e w1 ⟨rfl,hb⟩
   have HB1:=qH (HB0.out.trans (hb.mono HB0.out.size))
   have HA1:=qH (HA.out.below hb)
   clear hb
   go_wp2_with fail
   have he:=eql_deed1 q1 q2 q3 q4 q5 q6 q7 q8 q9
   generalize (decide (q5 = 0 /\ q6 = ⟨#[]⟩) && decide (q7 = ⟨#[]⟩ /\ q8 = 0 /\ q9 = ⟨#[]⟩)) = ze at *
   cases hv : confB q1 q2 q3 q4
   · have HF : Hid (false = deedB 1 q1 q2 q3 q4 q5 q6 q7 q8 q9):=qH (by rw [HX.out,hv];rfl)
     clear HX
     refine TillZ.region (t:=2) hmx (fun _ => True) ?_
     refine TillZ.value (i:=0) (v:=.iface 213 (.agg #[.int .i64 q1,.int .i64 q2,.int .i64 q3,.int .i64 q4])) (by kernel_rfl) rfl rfl rfl (by go_simp) trivial ?_
     simp only [pS,List.set,zT,zZ]
     refine TillZ.value (i:=1) (v:=.bool true) (by kernel_rfl) rfl rfl rfl (by go_simp) trivial ?_
     simp only [pS,List.set,zT,zZ,zU]
     refine TillZ.hand (v:=.bool true) (by kernel_rfl) rfl rfl (by go_simp) ?_
     simp only [pS,List.set,zT,zZ,zU]
     refine TillZ.any_valueg (i:=3) (w':=w1.drew) (v:=.iface 213 (.agg #[.int .i64 q1,.int .i64 q2,.int .i64 q3,.int .i64 q4])) (by kernel_rfl) rfl (by kernel_rfl) (by go_simp) ?_
     simp only [pS,List.set,zT,zZ,zU]
     refine TillZ.any_callg (i:=4) (f:=213) (args:=#[.agg #[.int .i64 q1,.int .i64 q2,.int .i64 q3,.int .i64 q4]]) (by kernel_rfl) rfl (by kernel_rfl) (by first | (go_simp;done) | (go_simp;rw [hm];go_simp;done) | (go_simp;rw [hm];rfl)) ?_
     refine Calls.mono (right1_any q1 q2 q3 q4 _) ?_
     rintro e w2 ⟨rfl,hb⟩
     rw [hv]
     refine ⟨_,rfl,?_⟩
     simp only [pS,List.set,zT,zZ,zU]
     have HB2:=qH (HB1.out.drew.trans (hb.mono HB1.out.size))
     clear hb
     refine TillZ.any_value (i:=5) (v:=.bool false) (by kernel_rfl) rfl rfl (by go_simp) ?_
     simp only [pS,List.set,zT,zZ,zU]
     refine TillZ.any_value (i:=6) (v:=.bool false) (by kernel_rfl) rfl rfl (by go_simp) ?_
     simp only [pS,List.set,zT,zZ,zU]
     refine TillZ.still (m:=7) rfl (by kernel_rfl) (by kernel_rfl) ?_
     dsimp only [List.drop]
     iterate 4 (with_reducible refine TillZ.no (by kernel_rfl) ?_;simp only [pS,List.set])
     iterate 2 (with_reducible refine TillZ.step (by kernel_rfl) (fun K hK => ?_);go_simp;refine hK _ ?_;clear hK K)
     with_reducible refine wpStill_nil ?_
     go_wp2_with fail
     go_ret
     exact ⟨ret_bool HF.out,HB2.out⟩
   · have HF : Hid (ze = deedB 1 q1 q2 q3 q4 q5 q6 q7 q8 q9):=qH (by rw [HX.out,hv];rfl)
     clear HX
     go_region_with (first | (go_at_call 213;refine Calls.mono (right1_any q1 q2 q3 q4 _) ?_;rintro e w2 ⟨rfl,hb⟩;rw [hv];have HB2:=qH (HB1.out.drew.trans (hb.mono HB1.out.size));have HA2:=qH (HA1.out.drew.below hb);clear hb;have x0:=HA2.out.cell 0 _ rfl;have x1:=HA2.out.cell 1 _ rfl;have x2:=HA2.out.cell 2 _ rfl;have x3:=HA2.out.cell 3 _ rfl;have x4:=HA2.out.cell 4 _ rfl;have x5:=HA2.out.cell 5 _ rfl;have x6:=HA2.out.cell 6 _ rfl;have x7:=HA2.out.cell 7 _ rfl;have x8:=HA2.out.cell 8 _ rfl;have x9:=HA2.out.cell 9 _ rfl) | (go_at_call 214;refine Calls.mono (whole1_any q1 q2 q3 q4 _) ?_;rintro e w3 ⟨rfl,hb⟩;have HB3:=qH (HB2.out.trans (hb.mono HB2.out.size));have HA3:=qH (HA2.out.below hb);clear hb x0 x1 x2 x3 x4 x5 x6 x7 x8 x9;have y0:=HA3.out.cell 0 _ rfl;have y1:=HA3.out.cell 1 _ rfl;have y2:=HA3.out.cell 2 _ rfl;have y3:=HA3.out.cell 3 _ rfl;have y4:=HA3.out.cell 4 _ rfl;have y5:=HA3.out.cell 5 _ rfl;have y6:=HA3.out.cell 6 _ rfl;have y7:=HA3.out.cell 7 _ rfl;have y8:=HA3.out.cell 8 _ rfl;have y9:=HA3.out.cell 9 _ rfl))
     all_goals
      go_wp2_with fail
      go_ret
      exact ⟨ret_bool HF.out,HB3.out⟩
 · skip
   by_cases k2 : q0 = 2
   · subst k2
     have HX : Hid (deedB 2 q1 q2 q3 q4 q5 q6 q7 q8 q9 = (termB q5 q6 && (decide (q1 = 0 /\ q2 = 0 /\ q3 = 0 /\ q4 = 0) && decide (q7 = ⟨#[]⟩ /\ q8 = 0 /\ q9 = ⟨#[]⟩)))):=qH (by unfold deedB;simp [Bool.and_assoc,Bool.and_comm,Bool.and_left_comm])
     have hn:=nil_right2 q5 q6
     have hm:=met_right2 q5 q6
     have hn2:=nil_whole2 q5 q6
     have hm2:=met_whole2 q5 q6
     go_enter Tryz.func135,Tryz.ntmps135
     go_wp2_with fail
     rw [<- hW]
     clear hW
     refine (deedOf2_any 2 q1 q2 q3 q4 q5 q6 q7 q8 q9 rfl _).mono ?_
     rintro e w1 ⟨rfl,hb⟩
     have HB1:=qH (HB0.out.trans (hb.mono HB0.out.size))
     have HA1:=qH (HA.out.below hb)
     clear hb
     go_wp2_with fail
     have he:=eql_deed2 q1 q2 q3 q4 q5 q6 q7 q8 q9
     generalize (decide (q1 = 0 /\ q2 = 0 /\ q3 = 0 /\ q4 = 0) && decide (q7 = ⟨#[]⟩ /\ q8 = 0 /\ q9 = ⟨#[]⟩)) = ze at *
     cases hv : termB q5 q6
     · have HF : Hid (false = deedB 2 q1 q2 q3 q4 q5 q6 q7 q8 q9):=qH (by rw [HX.out,hv];rfl)
       clear HX
       refine TillZ.region (t:=2) hmx (fun _ => True) ?_
       refine TillZ.value (i:=0) (v:=.iface 219 (.agg #[.int .i64 q5,.string q6])) (by kernel_rfl) rfl rfl rfl (by go_simp) trivial ?_
       simp only [pS,List.set,zT,zZ]
       refine TillZ.value (i:=1) (v:=.bool true) (by kernel_rfl) rfl rfl rfl (by go_simp) trivial ?_
       simp only [pS,List.set,zT,zZ,zU]
       refine TillZ.hand (v:=.bool true) (by kernel_rfl) rfl rfl (by go_simp) ?_
       simp only [pS,List.set,zT,zZ,zU]
       refine TillZ.any_valueg (i:=3) (w':=w1.drew) (v:=.iface 219 (.agg #[.int .i64 q5,.string q6])) (by kernel_rfl) rfl (by kernel_rfl) (by go_simp) ?_
       simp only [pS,List.set,zT,zZ,zU]
       refine TillZ.any_callg (i:=4) (f:=218) (args:=#[.agg #[.int .i64 q5,.string q6]]) (by kernel_rfl) rfl (by kernel_rfl) (by first | (go_simp;done) | (go_simp;rw [hm];go_simp;done) | (go_simp;rw [hm];rfl)) ?_
       refine Calls.mono (right2_any q5 q6 _ H6.out) ?_
       rintro e w2 ⟨rfl,hb⟩
       rw [hv]
       refine ⟨_,rfl,?_⟩
       simp only [pS,List.set,zT,zZ,zU]
       have HB2:=qH (HB1.out.drew.trans (hb.mono HB1.out.size))
       clear hb
       refine TillZ.any_value (i:=5) (v:=.bool false) (by kernel_rfl) rfl rfl (by go_simp) ?_
       simp only [pS,List.set,zT,zZ,zU]
       refine TillZ.any_value (i:=6) (v:=.bool false) (by kernel_rfl) rfl rfl (by go_simp) ?_
       simp only [pS,List.set,zT,zZ,zU]
       refine TillZ.still (m:=7) rfl (by kernel_rfl) (by kernel_rfl) ?_
       dsimp only [List.drop]
       iterate 4 (with_reducible refine TillZ.no (by kernel_rfl) ?_;simp only [pS,List.set])
       iterate 2 (with_reducible refine TillZ.step (by kernel_rfl) (fun K hK => ?_);go_simp;refine hK _ ?_;clear hK K)
       with_reducible refine wpStill_nil ?_
       go_wp2_with fail
       go_ret
       exact ⟨ret_bool HF.out,HB2.out⟩
     · have HF : Hid (ze = deedB 2 q1 q2 q3 q4 q5 q6 q7 q8 q9):=qH (by rw [HX.out,hv];rfl)
       clear HX
       go_region_with (first | (go_at_call 218;refine Calls.mono (right2_any q5 q6 _ H6.out) ?_;rintro e w2 ⟨rfl,hb⟩;rw [hv];have HB2:=qH (HB1.out.drew.trans (hb.mono HB1.out.size));have HA2:=qH (HA1.out.drew.below hb);clear hb;have x0:=HA2.out.cell 0 _ rfl;have x1:=HA2.out.cell 1 _ rfl;have x2:=HA2.out.cell 2 _ rfl;have x3:=HA2.out.cell 3 _ rfl;have x4:=HA2.out.cell 4 _ rfl;have x5:=HA2.out.cell 5 _ rfl;have x6:=HA2.out.cell 6 _ rfl;have x7:=HA2.out.cell 7 _ rfl;have x8:=HA2.out.cell 8 _ rfl;have x9:=HA2.out.cell 9 _ rfl) | (go_at_call 219;refine Calls.mono (whole2_any q5 q6 _) ?_;rintro e w3 ⟨rfl,hb⟩;have HB3:=qH (HB2.out.trans (hb.mono HB2.out.size));have HA3:=qH (HA2.out.below hb);clear hb x0 x1 x2 x3 x4 x5 x6 x7 x8 x9;have y0:=HA3.out.cell 0 _ rfl;have y1:=HA3.out.cell 1 _ rfl;have y2:=HA3.out.cell 2 _ rfl;have y3:=HA3.out.cell 3 _ rfl;have y4:=HA3.out.cell 4 _ rfl;have y5:=HA3.out.cell 5 _ rfl;have y6:=HA3.out.cell 6 _ rfl;have y7:=HA3.out.cell 7 _ rfl;have y8:=HA3.out.cell 8 _ rfl;have y9:=HA3.out.cell 9 _ rfl))
       all_goals
        go_wp2_with fail
        go_ret
        exact ⟨ret_bool HF.out,HB3.out⟩
   · skip
     by_cases k3 : q0 = 3
     · subst k3
       have HX : Hid (deedB 3 q1 q2 q3 q4 q5 q6 q7 q8 q9 = (itemB q7 q8 q9 && (decide (q1 = 0 /\ q2 = 0 /\ q3 = 0 /\ q4 = 0) && decide (q5 = 0 /\ q6 = ⟨#[]⟩)))):=qH (by unfold deedB;simp [Bool.and_assoc,Bool.and_comm,Bool.and_left_comm])
       have hn:=nil_right3 q7 q8 q9
       have hm:=met_right3 q7 q8 q9
       have hn2:=nil_whole3 q7 q8 q9
       have hm2:=met_whole3 q7 q8 q9
       go_enter Tryz.func135,Tryz.ntmps135
       go_wp2_with fail
       rw [<- hW]
       clear hW
       refine (deedOf3_any 3 q1 q2 q3 q4 q5 q6 q7 q8 q9 rfl _).mono ?_
       rintro e w1 ⟨rfl,hb⟩
       have HB1:=qH (HB0.out.trans (hb.mono HB0.out.size))
       have HA1:=qH (HA.out.below hb)
       clear hb
       go_wp2_with fail
       have he:=eql_deed3 q1 q2 q3 q4 q5 q6 q7 q8 q9
       generalize (decide (q1 = 0 /\ q2 = 0 /\ q3 = 0 /\ q4 = 0) && decide (q5 = 0 /\ q6 = ⟨#[]⟩)) = ze at *
       cases hv : itemB q7 q8 q9
       · have HF : Hid (false = deedB 3 q1 q2 q3 q4 q5 q6 q7 q8 q9):=qH (by rw [HX.out,hv];rfl)
         clear HX
         refine TillZ.region (t:=2) hmx (fun _ => True) ?_
         refine TillZ.value (i:=0) (v:=.iface 220 (.agg #[.string q7,.int .i64 q8,.string q9])) (by kernel_rfl) rfl rfl rfl (by go_simp) trivial ?_
         simp only [pS,List.set,zT,zZ]
         refine TillZ.value (i:=1) (v:=.bool true) (by kernel_rfl) rfl rfl rfl (by go_simp) trivial ?_
         simp only [pS,List.set,zT,zZ,zU]
         refine TillZ.hand (v:=.bool true) (by kernel_rfl) rfl rfl (by go_simp) ?_
         simp only [pS,List.set,zT,zZ,zU]
         refine TillZ.any_valueg (i:=3) (w':=w1.drew) (v:=.iface 220 (.agg #[.string q7,.int .i64 q8,.string q9])) (by kernel_rfl) rfl (by kernel_rfl) (by go_simp) ?_
         simp only [pS,List.set,zT,zZ,zU]
         refine TillZ.any_callg (i:=4) (f:=223) (args:=#[.agg #[.string q7,.int .i64 q8,.string q9]]) (by kernel_rfl) rfl (by kernel_rfl) (by first | (go_simp;done) | (go_simp;rw [hm];go_simp;done) | (go_simp;rw [hm];rfl)) ?_
         refine Calls.mono (right3_any q7 q8 q9 _ H7.out H9.out) ?_
         rintro e w2 ⟨rfl,hb⟩
         rw [hv]
         refine ⟨_,rfl,?_⟩
         simp only [pS,List.set,zT,zZ,zU]
         have HB2:=qH (HB1.out.drew.trans (hb.mono HB1.out.size))
         clear hb
         refine TillZ.any_value (i:=5) (v:=.bool false) (by kernel_rfl) rfl rfl (by go_simp) ?_
         simp only [pS,List.set,zT,zZ,zU]
         refine TillZ.any_value (i:=6) (v:=.bool false) (by kernel_rfl) rfl rfl (by go_simp) ?_
         simp only [pS,List.set,zT,zZ,zU]
         refine TillZ.still (m:=7) rfl (by kernel_rfl) (by kernel_rfl) ?_
         dsimp only [List.drop]
         iterate 4 (with_reducible refine TillZ.no (by kernel_rfl) ?_;simp only [pS,List.set])
         iterate 2 (with_reducible refine TillZ.step (by kernel_rfl) (fun K hK => ?_);go_simp;refine hK _ ?_;clear hK K)
         with_reducible refine wpStill_nil ?_
         go_wp2_with fail
         go_ret
         exact ⟨ret_bool HF.out,HB2.out⟩
       · have HF : Hid (ze = deedB 3 q1 q2 q3 q4 q5 q6 q7 q8 q9):=qH (by rw [HX.out,hv];rfl)
         clear HX
         go_region_with (first | (go_at_call 223;refine Calls.mono (right3_any q7 q8 q9 _ H7.out H9.out) ?_;rintro e w2 ⟨rfl,hb⟩;rw [hv];have HB2:=qH (HB1.out.drew.trans (hb.mono HB1.out.size));have HA2:=qH (HA1.out.drew.below hb);clear hb;have x0:=HA2.out.cell 0 _ rfl;have x1:=HA2.out.cell 1 _ rfl;have x2:=HA2.out.cell 2 _ rfl;have x3:=HA2.out.cell 3 _ rfl;have x4:=HA2.out.cell 4 _ rfl;have x5:=HA2.out.cell 5 _ rfl;have x6:=HA2.out.cell 6 _ rfl;have x7:=HA2.out.cell 7 _ rfl;have x8:=HA2.out.cell 8 _ rfl;have x9:=HA2.out.cell 9 _ rfl) | (go_at_call 224;refine Calls.mono (whole3_any q7 q8 q9 _) ?_;rintro e w3 ⟨rfl,hb⟩;have HB3:=qH (HB2.out.trans (hb.mono HB2.out.size));have HA3:=qH (HA2.out.below hb);clear hb x0 x1 x2 x3 x4 x5 x6 x7 x8 x9;have y0:=HA3.out.cell 0 _ rfl;have y1:=HA3.out.cell 1 _ rfl;have y2:=HA3.out.cell 2 _ rfl;have y3:=HA3.out.cell 3 _ rfl;have y4:=HA3.out.cell 4 _ rfl;have y5:=HA3.out.cell 5 _ rfl;have y6:=HA3.out.cell 6 _ rfl;have y7:=HA3.out.cell 7 _ rfl;have y8:=HA3.out.cell 8 _ rfl;have y9:=HA3.out.cell 9 _ rfl))
         all_goals
          go_wp2_with fail
          go_ret
          exact ⟨ret_bool HF.out,HB3.out⟩
     · skip
       by_cases k4 : q0 = 4
       · subst k4
         have HX : Hid (deedB 4 q1 q2 q3 q4 q5 q6 q7 q8 q9 = (wordB q7 && (decide (q1 = 0 /\ q2 = 0 /\ q3 = 0 /\ q4 = 0) && decide (q5 = 0 /\ q6 = ⟨#[]⟩) && decide (q8 = 0 /\ q9 = ⟨#[]⟩)))):=qH (by unfold deedB;simp [Bool.and_assoc,Bool.and_comm,Bool.and_left_comm])
         have hn:=nil_right4 q7
         have hm:=met_right4 q7
         have hn2:=nil_whole4 q7
         have hm2:=met_whole4 q7
         go_enter Tryz.func135,Tryz.ntmps135
         go_wp2_with fail
         rw [<- hW]
         clear hW
         refine (deedOf4_any 4 q1 q2 q3 q4 q5 q6 q7 q8 q9 rfl _).mono ?_
         rintro e w1 ⟨rfl,hb⟩
         have HB1:=qH (HB0.out.trans (hb.mono HB0.out.size))
         have HA1:=qH (HA.out.below hb)
         clear hb
         go_wp2_with fail
         have he:=eql_deed4 q1 q2 q3 q4 q5 q6 q7 q8 q9
         generalize (decide (q1 = 0 /\ q2 = 0 /\ q3 = 0 /\ q4 = 0) && decide (q5 = 0 /\ q6 = ⟨#[]⟩) && decide (q8 = 0 /\ q9 = ⟨#[]⟩)) = ze at *
         cases hv : wordB q7
         · have HF : Hid (false = deedB 4 q1 q2 q3 q4 q5 q6 q7 q8 q9):=qH (by rw [HX.out,hv];rfl)
           clear HX
           refine TillZ.region (t:=2) hmx (fun _ => True) ?_
           refine TillZ.value (i:=0) (v:=.iface 221 (.string q7)) (by kernel_rfl) rfl rfl rfl (by go_simp) trivial ?_
           simp only [pS,List.set,zT,zZ]
           refine TillZ.value (i:=1) (v:=.bool true) (by kernel_rfl) rfl rfl rfl (by go_simp) trivial ?_
           simp only [pS,List.set,zT,zZ,zU]
           refine TillZ.hand (v:=.bool true) (by kernel_rfl) rfl rfl (by go_simp) ?_
           simp only [pS,List.set,zT,zZ,zU]
           refine TillZ.any_valueg (i:=3) (w':=w1.drew) (v:=.iface 221 (.string q7)) (by kernel_rfl) rfl (by kernel_rfl) (by go_simp) ?_
           simp only [pS,List.set,zT,zZ,zU]
           refine TillZ.any_callg (i:=4) (f:=230) (args:=#[.string q7]) (by kernel_rfl) rfl (by kernel_rfl) (by first | (go_simp;done) | (go_simp;rw [hm];go_simp;done) | (go_simp;rw [hm];rfl)) ?_
           refine Calls.mono (right4_any q7 _ H7.out) ?_
           rintro e w2 ⟨rfl,hb⟩
           rw [hv]
           refine ⟨_,rfl,?_⟩
           simp only [pS,List.set,zT,zZ,zU]
           have HB2:=qH (HB1.out.drew.trans (hb.mono HB1.out.size))
           clear hb
           refine TillZ.any_value (i:=5) (v:=.bool false) (by kernel_rfl) rfl rfl (by go_simp) ?_
           simp only [pS,List.set,zT,zZ,zU]
           refine TillZ.any_value (i:=6) (v:=.bool false) (by kernel_rfl) rfl rfl (by go_simp) ?_
           simp only [pS,List.set,zT,zZ,zU]
           refine TillZ.still (m:=7) rfl (by kernel_rfl) (by kernel_rfl) ?_
           dsimp only [List.drop]
           iterate 4 (with_reducible refine TillZ.no (by kernel_rfl) ?_;simp only [pS,List.set])
           iterate 2 (with_reducible refine TillZ.step (by kernel_rfl) (fun K hK => ?_);go_simp;refine hK _ ?_;clear hK K)
           with_reducible refine wpStill_nil ?_
           go_wp2_with fail
           go_ret
           exact ⟨ret_bool HF.out,HB2.out⟩
         · have HF : Hid (ze = deedB 4 q1 q2 q3 q4 q5 q6 q7 q8 q9):=qH (by rw [HX.out,hv];rfl)
           clear HX
           go_region_with (first | (go_at_call 230;refine Calls.mono (right4_any q7 _ H7.out) ?_;rintro e w2 ⟨rfl,hb⟩;rw [hv];have HB2:=qH (HB1.out.drew.trans (hb.mono HB1.out.size));have HA2:=qH (HA1.out.drew.below hb);clear hb;have x0:=HA2.out.cell 0 _ rfl;have x1:=HA2.out.cell 1 _ rfl;have x2:=HA2.out.cell 2 _ rfl;have x3:=HA2.out.cell 3 _ rfl;have x4:=HA2.out.cell 4 _ rfl;have x5:=HA2.out.cell 5 _ rfl;have x6:=HA2.out.cell 6 _ rfl;have x7:=HA2.out.cell 7 _ rfl;have x8:=HA2.out.cell 8 _ rfl;have x9:=HA2.out.cell 9 _ rfl) | (go_at_call 231;refine Calls.mono (whole4_any q7 _) ?_;rintro e w3 ⟨rfl,hb⟩;have HB3:=qH (HB2.out.trans (hb.mono HB2.out.size));have HA3:=qH (HA2.out.below hb);clear hb x0 x1 x2 x3 x4 x5 x6 x7 x8 x9;have y0:=HA3.out.cell 0 _ rfl;have y1:=HA3.out.cell 1 _ rfl;have y2:=HA3.out.cell 2 _ rfl;have y3:=HA3.out.cell 3 _ rfl;have y4:=HA3.out.cell 4 _ rfl;have y5:=HA3.out.cell 5 _ rfl;have y6:=HA3.out.cell 6 _ rfl;have y7:=HA3.out.cell 7 _ rfl;have y8:=HA3.out.cell 8 _ rfl;have y9:=HA3.out.cell 9 _ rfl))
           all_goals
            go_wp2_with fail
            go_ret
            exact ⟨ret_bool HF.out,HB3.out⟩
       · skip
         have HF : Hid (false = deedB q0 q1 q2 q3 q4 q5 q6 q7 q8 q9):=qH (by unfold deedB;rw [if_neg k1,if_neg k2,if_neg k3,if_neg k4])
         go_enter Tryz.func135,Tryz.ntmps135
         go_wp2_with fail
         rw [<- hW]
         clear hW
         refine (deedOf0_any q0 q1 q2 q3 q4 q5 q6 q7 q8 q9 k1 k2 k3 k4 _).mono ?_
         rintro e w1 ⟨rfl,hb⟩
         have HB1:=qH (HB0.out.trans (hb.mono HB0.out.size))
         clear hb
         go_wp2_with fail
         go_region
         all_goals
          go_wp2_with fail
          go_ret
          exact ⟨ret_bool HF.out,HB1.out.drew⟩
end Go.Proofs.YthkbcjnbmciolaaGreatDoor
