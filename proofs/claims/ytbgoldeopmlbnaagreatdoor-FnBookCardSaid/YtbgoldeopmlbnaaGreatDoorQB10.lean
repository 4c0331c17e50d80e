/- Used by the law. -/
import Derived.Test.YtbgoldeopmlbnaaGreatDoorQB05
import Derived.Test.YtbgoldeopmlbnaaGreatDoorQB09
set_option maxRecDepth 100000
set_option maxHeartbeats 16000000
namespace Go.Proofs.YtbgoldeopmlbnaaGreatDoor
open Go.RowKit Go.PlainAid G
set_option linter.unusedVariables false
def azTo (t : ByteArray) (k : Nat) : Bool:=(List.range k).all fun i => decide (97 <= bt t i /\ bt t i <= 122)
theorem azTo_zero (t : ByteArray) : azTo t 0 = true:=rfl
theorem azTo_succ {t : ByteArray} {k : Nat} (h : azTo t k = true) (h1 : 97 <= bt t k) (h2 : bt t k <= 122) : azTo t (k + 1) = true:=by
 unfold azTo at h ⊢
 rw [List.range_succ,List.all_append,h]
 simp [h1,h2]
theorem azTo_no {t : ByteArray} {k n : Nat} (hk : k < n) (h : ¬ (97 <= bt t k /\ bt t k <= 122)) : azTo t n = false:=by
 unfold azTo
 rw [List.all_eq_false]
 exact ⟨k,List.mem_range.2 hk,by simp only [decide_eq_true_eq];exact h⟩
def wordB (t : ByteArray) : Bool:=decide (1 <= t.size /\ t.size <= 8) && azTo t t.size
theorem wordB_no {t : ByteArray} {k : Nat} (hk : k < t.size) (h : ¬ (97 <= bt t k /\ bt t k <= 122)) : wordB t = false:=by unfold wordB;rw [azTo_no hk h,Bool.and_false]
theorem wordB_size {t : ByteArray} (h : wordB t = true) : 1 <= t.size /\ t.size <= 8:=by unfold wordB at h;rw [Bool.and_eq_true,decide_eq_true_eq] at h;exact h.1
theorem wordB_at {t : ByteArray} (h : azTo t t.size = true) : wordB t = decide (1 <= t.size /\ t.size <= 8):=by unfold wordB;rw [h,Bool.and_true]
def nums3B (g n m : Int) : Bool:=decide (1 <= g /\ g <= 999) && decide (1 <= n /\ n <= 10) && decide (n <= m /\ m <= 20)
def confB (g n m c : Int) : Bool:=nums3B g n m && decide (0 <= c /\ c <= 4294967295)
def termB (no : Int) (lk : ByteArray) : Bool:=decide (1 <= no /\ no <= 5) && secR lk
def itemB (nm : ByteArray) (tm : Int) (bd : ByteArray) : Bool:=wordB nm && decide (1 <= tm /\ tm <= 5) && decide (1 <= bd.size /\ bd.size <= 20)
theorem confB_iff {g n m c : Int} : confB g n m c = true ↔ (1 <= g /\ g <= 999) /\ (1 <= n /\ n <= 10) /\ (n <= m /\ m <= 20) /\ (0 <= c /\ c <= 4294967295):=by
 unfold confB nums3B
 simp only [Bool.and_eq_true,decide_eq_true_eq,and_assoc]
theorem termB_iff {no : Int} {lk : ByteArray} : termB no lk = true ↔ (1 <= no /\ no <= 5) /\ (1 <= lk.size /\ lk.size <= 16):=by
 unfold termB
 rw [Bool.and_eq_true,decide_eq_true_eq,secR_iff]
theorem itemB_iff {nm : ByteArray} {tm : Int} {bd : ByteArray} : itemB nm tm bd = true ↔ wordB nm = true /\ (1 <= tm /\ tm <= 5) /\ (1 <= bd.size /\ bd.size <= 20):=by
 unfold itemB
 simp only [Bool.and_eq_true,decide_eq_true_eq,and_assoc]
def ltS (a b : ByteArray) : Bool:=Op.bytesLess a.toList b.toList
theorem specWord_any (t : ByteArray) (w : World) (ht : t.size <= maxLen) :
 Calls Tryz.prog 20 #[.string t] w fun e w' => e = .returned (.bool (wordB t)) /\ w = w':=by
 unfold maxLen at ht
 go_enter Tryz.func20,Tryz.ntmps20
 go_wp2_with fail
 go_loop [3] (fun i => ∃ k : Nat,k <= t.size /\ i = .int .i64 k /\ Hid (azTo t k = true)) (fun i => t.size - (intOf i).toNat)
 case atStart => exact ⟨0,Nat.zero_le _,rfl,qH (azTo_zero t)⟩
 case round =>
  obtain ⟨k,hk,rfl,HA⟩:=hrel
  by_cases hlt : k < t.size
  · have hb : ((t[k]'hlt).toNat : Int) = bt t k:=by unfold bt;rw [dif_pos hlt]
    have HB:=qH hb
    have hin : (k : Int) < (t.size : Int):=by omega
    by_cases h1 : 97 <= bt t k
    · by_cases h2 : bt t k <= 122
      · have HS:=qH (azTo_succ HA.out h1 h2)
        have g1 : ¬ ((t[k]'hlt).toNat : Int) < 97:=by rw [hb];omega
        have g2 : ¬ (122 : Int) < ((t[k]'hlt).toNat : Int):=by rw [hb];omega
        clear hb h1 h2
        go_wp2_with fail
        go_round
        case rel => exact ⟨k + 1,by omega,by go_num,HS⟩
        case measure => simp [intOf];omega
      · have HF:=qH (wordB_no hlt (fun h => h2 h.2)).symm
        have g1 : ¬ ((t[k]'hlt).toNat : Int) < 97:=by rw [hb];omega
        have g2 : (122 : Int) < ((t[k]'hlt).toNat : Int):=by rw [hb];omega
        clear hb h1 h2
        go_wp2_with fail
        go_ret
        exact ⟨ret_bool HF.out,rfl⟩
    · have HF:=qH (wordB_no hlt (fun h => h1 h.1)).symm
      have g1 : ((t[k]'hlt).toNat : Int) < 97:=by rw [hb];omega
      clear hb h1
      go_wp2_with fail
      go_ret
      exact ⟨ret_bool HF.out,rfl⟩
  · obtain rfl : k = t.size:=by omega
    have HW:=qH (wordB_at HA.out)
    by_cases h1 : 1 <= t.size
    · by_cases h2 : t.size <= 8
      · have HF : Hid (true = wordB t):=qH (by rw [HW.out];exact (decide_eq_true ⟨h1,h2⟩).symm)
        go_wp2_with fail
        go_ret
        exact ⟨ret_bool (by rw [<- HF.out];simp;omega),rfl⟩
      · have HF : Hid (false = wordB t):=qH (by rw [HW.out];exact (decide_eq_false (by omega)).symm)
        go_wp2_with fail
        go_ret
        exact ⟨ret_bool (by rw [<- HF.out];simp;omega),rfl⟩
    · have HF : Hid (false = wordB t):=qH (by rw [HW.out];exact (decide_eq_false (by omega)).symm)
      go_wp2_with fail
      go_ret
      exact ⟨ret_bool (by rw [<- HF.out];try (simp;omega)),rfl⟩
theorem l05NumsOk_any (g n m : Int) (w : World)  :
 Calls Tryz.prog 87 #[.int .i64 g,.int .i64 n,.int .i64 m] w fun e w' => e = .returned (.bool (nums3B g n m)) /\ w = w':=by
 cases hg : decide (1 <= g /\ g <= 999)
 · skip
   have HF : Hid (false = nums3B g n m):=qH (by unfold nums3B;simp only [hg,Bool.false_and])
   go_enter Tryz.func87,Tryz.ntmps87
   go_wp2_with ((go_at_call 79;refine (l02IsOk_any _ _ _ _).mono ?_;rintro e w1 ⟨rfl,rfl⟩;first | rw [hg] | rw [hn] | rw [hm]))
   go_ret
   exact ⟨ret_bool (by first | exact HF.out | (rw [<- HF.out];simp_all)),rfl⟩
 · skip
   cases hn : decide (1 <= n /\ n <= 10)
   · skip
     have HF : Hid (false = nums3B g n m):=qH (by unfold nums3B;simp only [hg,hn,Bool.false_and,Bool.and_false])
     go_enter Tryz.func87,Tryz.ntmps87
     go_wp2_with ((go_at_call 79;refine (l02IsOk_any _ _ _ _).mono ?_;rintro e w1 ⟨rfl,rfl⟩;first | rw [hg] | rw [hn] | rw [hm]))
     go_ret
     exact ⟨ret_bool (by first | exact HF.out | (rw [<- HF.out];simp_all)),rfl⟩
   · skip
     cases hm : decide (n <= m /\ m <= 20)
     · skip
       have HF : Hid (false = nums3B g n m):=qH (by unfold nums3B;simp only [hg,hn,hm,Bool.and_false,Bool.and_self])
       go_enter Tryz.func87,Tryz.ntmps87
       go_wp2_with ((go_at_call 79;refine (l02IsOk_any _ _ _ _).mono ?_;rintro e w1 ⟨rfl,rfl⟩;first | rw [hg] | rw [hn] | rw [hm]))
       go_ret
       exact ⟨ret_bool (by first | exact HF.out | (rw [<- HF.out];simp_all)),rfl⟩
     · skip
       have HF : Hid (true = nums3B g n m):=qH (by unfold nums3B;simp only [hg,hn,hm,Bool.and_self])
       go_enter Tryz.func87,Tryz.ntmps87
       go_wp2_with ((go_at_call 79;refine (l02IsOk_any _ _ _ _).mono ?_;rintro e w1 ⟨rfl,rfl⟩;first | rw [hg] | rw [hn] | rw [hm]))
       go_ret
       exact ⟨ret_bool (by first | exact HF.out | (rw [<- HF.out];simp_all)),rfl⟩
theorem l07Conf_any (g n m c : Int) (w : World)  :
 Calls Tryz.prog 53 #[.agg #[.int .i64 g,.int .i64 n,.int .i64 m,.int .i64 c]] w fun e w' => e = .returned (.bool (confB g n m c)) /\ Below w.heap.size w w':=by
 have HB : Hid (Below w.heap.size w (w.alloc (.cells #[.int .i64 g,.int .i64 n,.int .i64 m,.int .i64 c] 24))):=qH ((Below.refl _ _).alloc (Nat.le_refl _) _)
 cases hn : nums3B g n m
 · skip
   have HF : Hid (false = confB g n m c):=qH (by unfold confB;simp only [hn,Bool.false_and])
   go_enter Tryz.func53,Tryz.ntmps53
   go_wp2_with (first | (go_at_call 87;refine (l05NumsOk_any _ _ _ _).mono ?_;rintro e w1 ⟨rfl,rfl⟩;rw [hn]) | (go_at_call 79;refine (l02IsOk_any _ _ _ _).mono ?_;rintro e w1 ⟨rfl,rfl⟩;first | rw [hc]))
   go_ret
   exact ⟨ret_bool (by first | exact HF.out | (rw [<- HF.out];simp_all)),HB.out⟩
 · skip
   cases hc : decide (0 <= c /\ c <= 4294967295)
   · skip
     have HF : Hid (false = confB g n m c):=qH (by unfold confB;simp only [hn,hc,Bool.and_false])
     go_enter Tryz.func53,Tryz.ntmps53
     go_wp2_with (first | (go_at_call 87;refine (l05NumsOk_any _ _ _ _).mono ?_;rintro e w1 ⟨rfl,rfl⟩;rw [hn]) | (go_at_call 79;refine (l02IsOk_any _ _ _ _).mono ?_;rintro e w1 ⟨rfl,rfl⟩;first | rw [hc]))
     go_ret
     exact ⟨ret_bool (by first | exact HF.out | (rw [<- HF.out];simp_all)),HB.out⟩
   · skip
     have HF : Hid (true = confB g n m c):=qH (by unfold confB;simp only [hn,hc,Bool.and_self])
     go_enter Tryz.func53,Tryz.ntmps53
     go_wp2_with (first | (go_at_call 87;refine (l05NumsOk_any _ _ _ _).mono ?_;rintro e w1 ⟨rfl,rfl⟩;rw [hn]) | (go_at_call 79;refine (l02IsOk_any _ _ _ _).mono ?_;rintro e w1 ⟨rfl,rfl⟩;first | rw [hc]))
     go_ret
     exact ⟨ret_bool (by first | exact HF.out | (rw [<- HF.out];simp_all)),HB.out⟩
theorem l07Term_any (no : Int) (lk : ByteArray) (w : World) (ht : lk.size <= maxLen) :
 Calls Tryz.prog 54 #[.agg #[.int .i64 no,.string lk]] w fun e w' => e = .returned (.bool (termB no lk)) /\ Below w.heap.size w w':=by
 have HT:=qH ht
 clear ht
 have HB : Hid (Below w.heap.size w (w.alloc (.cells #[.int .i64 no,.string lk] 30))):=qH ((Below.refl _ _).alloc (Nat.le_refl _) _)
 cases hn : decide (1 <= no /\ no <= 5)
 · skip
   have HF : Hid (false = termB no lk):=qH (by unfold termB;simp only [hn,Bool.false_and])
   go_enter Tryz.func54,Tryz.ntmps54
   go_wp2_with (first | (go_at_call 88;refine (l04SecretOk_any _ _ HT.out).mono ?_;rintro e w1 ⟨rfl,rfl⟩;rw [hs]) | (go_at_call 79;refine (l02IsOk_any _ _ _ _).mono ?_;rintro e w1 ⟨rfl,rfl⟩;first | rw [hn]))
   go_ret
   exact ⟨ret_bool (by first | exact HF.out | (rw [<- HF.out];simp_all)),HB.out⟩
 · skip
   cases hs : secR lk
   · skip
     have HF : Hid (false = termB no lk):=qH (by unfold termB;simp only [hn,hs,Bool.and_false])
     go_enter Tryz.func54,Tryz.ntmps54
     go_wp2_with (first | (go_at_call 88;refine (l04SecretOk_any _ _ HT.out).mono ?_;rintro e w1 ⟨rfl,rfl⟩;rw [hs]) | (go_at_call 79;refine (l02IsOk_any _ _ _ _).mono ?_;rintro e w1 ⟨rfl,rfl⟩;first | rw [hn]))
     go_ret
     exact ⟨ret_bool (by first | exact HF.out | (rw [<- HF.out];simp_all)),HB.out⟩
   · skip
     have HF : Hid (true = termB no lk):=qH (by unfold termB;simp only [hn,hs,Bool.and_self])
     go_enter Tryz.func54,Tryz.ntmps54
     go_wp2_with (first | (go_at_call 88;refine (l04SecretOk_any _ _ HT.out).mono ?_;rintro e w1 ⟨rfl,rfl⟩;rw [hs]) | (go_at_call 79;refine (l02IsOk_any _ _ _ _).mono ?_;rintro e w1 ⟨rfl,rfl⟩;first | rw [hn]))
     go_ret
     exact ⟨ret_bool (by first | exact HF.out | (rw [<- HF.out];simp_all)),HB.out⟩
theorem l07Item_any (nm : ByteArray) (tm : Int) (bd : ByteArray) (w : World) (hn : nm.size <= maxLen) (hb : bd.size <= maxLen) :
 Calls Tryz.prog 55 #[.agg #[.string nm,.int .i64 tm,.string bd]] w fun e w' => e = .returned (.bool (itemB nm tm bd)) /\ Below w.heap.size w w':=by
 have HB : Hid (Below w.heap.size w (w.alloc (.cells #[.string nm,.int .i64 tm,.string bd] 32))):=qH ((Below.refl _ _).alloc (Nat.le_refl _) _)
 have HT:=qH hn
 unfold maxLen at hb
 clear hn
 cases hw : wordB nm
 · have HF : Hid (false = itemB nm tm bd):=qH (by unfold itemB;rw [hw];rfl)
   go_enter Tryz.func55,Tryz.ntmps55
   go_wp2_with (first | (go_at_call 20;refine (specWord_any _ _ HT.out).mono ?_;rintro e w1 ⟨rfl,rfl⟩;rw [hw]))
   go_ret
   exact ⟨ret_bool HF.out,HB.out⟩
 · cases ht : decide (1 <= tm /\ tm <= 5)
   · have HF : Hid (false = itemB nm tm bd):=qH (by unfold itemB;rw [ht,Bool.and_false];rfl)
     go_enter Tryz.func55,Tryz.ntmps55
     go_wp2_with (first | (go_at_call 20;refine (specWord_any _ _ HT.out).mono ?_;rintro e w1 ⟨rfl,rfl⟩;rw [hw]) | (go_at_call 79;refine (l02IsOk_any _ _ _ _).mono ?_;rintro e w1 ⟨rfl,rfl⟩;rw [ht]))
     go_ret
     exact ⟨ret_bool HF.out,HB.out⟩
   · have HF : Hid (decide (1 <= bd.size /\ bd.size <= 20) = itemB nm tm bd):=qH (by unfold itemB;rw [hw,ht];rfl)
     by_cases h1 : 1 <= bd.size
     · by_cases h2 : bd.size <= 20
       · go_enter Tryz.func55,Tryz.ntmps55
         go_wp2_with (first | (go_at_call 20;refine (specWord_any _ _ HT.out).mono ?_;rintro e w1 ⟨rfl,rfl⟩;rw [hw]) | (go_at_call 79;refine (l02IsOk_any _ _ _ _).mono ?_;rintro e w1 ⟨rfl,rfl⟩;rw [ht]))
         go_ret
         exact ⟨ret_bool (by rw [<- HF.out];simp [h1,h2];omega),HB.out⟩
       · go_enter Tryz.func55,Tryz.ntmps55
         go_wp2_with (first | (go_at_call 20;refine (specWord_any _ _ HT.out).mono ?_;rintro e w1 ⟨rfl,rfl⟩;rw [hw]) | (go_at_call 79;refine (l02IsOk_any _ _ _ _).mono ?_;rintro e w1 ⟨rfl,rfl⟩;rw [ht]))
         go_ret
         exact ⟨ret_bool (by rw [<- HF.out];simp [h1,h2];omega),HB.out⟩
     · go_enter Tryz.func55,Tryz.ntmps55
       go_wp2_with (first | (go_at_call 20;refine (specWord_any _ _ HT.out).mono ?_;rintro e w1 ⟨rfl,rfl⟩;rw [hw]) | (go_at_call 79;refine (l02IsOk_any _ _ _ _).mono ?_;rintro e w1 ⟨rfl,rfl⟩;rw [ht]))
       go_ret
       exact ⟨ret_bool (by rw [<- HF.out];simp [h1]),HB.out⟩
def zeroB (c0 c1 c2 c3 : Int) (n1 n2 : Nat) : Bool:=decide (c0 = 0 /\ c1 = 0 /\ c2 = 0 /\ c3 = 0) && decide (n1 = 0) && decide (n2 = 0)
theorem toList_iff (a b : ByteArray) : a.toList = b.toList ↔ a = b:=by
 rw [Lib.toList_data,Lib.toList_data]
 exact ⟨fun h => ByteArray.ext (Array.toList_inj.1 h),fun h => by rw [h]⟩
theorem toList_ne {a : ByteArray} (h : ¬ a = ⟨#[]⟩) : ¬ a.toList = []:=fun h2 => h ((toList_iff a ⟨#[]⟩).1 (by rw [h2];simp))
theorem eql_conf (g n m c : Int) (W : World) : (binOp .eql 24 (.agg #[.int .i64 g,.int .i64 n,.int .i64 m,.int .i64 c]) (.agg #[.int .i64 0,.int .i64 0,.int .i64 0,.int .i64 0])).run Tryz.prog W = .ok (.bool (decide (g = 0 /\ n = 0 /\ m = 0 /\ c = 0))) W:=by
 by_cases h1 : g = 0 <;> by_cases h2 : n = 0 <;> by_cases h3 : m = 0 <;> by_cases h4 : c = 0 <;> simp [go_sem,h1,h2,h3,h4]
theorem eql_term (no : Int) (lk : ByteArray) (W : World) : (binOp .eql 30 (.agg #[.int .i64 no,.string lk]) (.agg #[.int .i64 0,.string ⟨#[]⟩])).run Tryz.prog W = .ok (.bool (decide (no = 0 /\ lk = ⟨#[]⟩))) W:=by
 by_cases h2 : lk = ⟨#[]⟩
 · subst h2
   by_cases h1 : no = 0 <;> simp [go_sem,h1]
 · have h3:=toList_ne h2
   by_cases h1 : no = 0 <;> simp [go_sem,h1,h2,h3]
theorem eql_item (nm : ByteArray) (tm : Int) (bd nm2 : ByteArray) (W : World) : (binOp .eql 32 (.agg #[.string nm,.int .i64 tm,.string bd]) (.agg #[.string nm2,.int .i64 0,.string ⟨#[]⟩])).run Tryz.prog W = .ok (.bool (decide (nm = nm2 /\ tm = 0 /\ bd = ⟨#[]⟩))) W:=by
 by_cases h3 : bd = ⟨#[]⟩
 · subst h3
   by_cases h1 : nm = nm2
   · subst h1
     by_cases h2 : tm = 0 <;> simp [go_sem,h2]
   · have h4 : ¬ nm.toList = nm2.toList:=fun h => h1 ((toList_iff _ _).1 h)
     by_cases h2 : tm = 0 <;> simp [go_sem,h1,h2,h4]
 · have h5:=toList_ne h3
   by_cases h1 : nm = nm2
   · subst h1
     by_cases h2 : tm = 0 <;> simp [go_sem,h2,h3,h5]
   · have h4 : ¬ nm.toList = nm2.toList:=fun h => h1 ((toList_iff _ _).1 h)
     by_cases h2 : tm = 0 <;> simp [go_sem,h1,h2,h3,h5]
theorem l07Zero_any (c0 c1 c2 c3 : Int) (a1 a2 : Option Addr) (n1 n2 a3 a4 : Nat) (w : World) :
 Calls Tryz.prog 52 #[.agg #[.int .i64 c0,.int .i64 c1,.int .i64 c2,.int .i64 c3,.slice a1 n1 a3,.slice a2 n2 a4]] w fun e w' => e = .returned (.bool (zeroB c0 c1 c2 c3 n1 n2)) /\ Below w.heap.size w w':=by
 have HB : Hid (Below w.heap.size w (w.alloc (.cells #[.int .i64 c0,.int .i64 c1,.int .i64 c2,.int .i64 c3,.slice a1 n1 a3,.slice a2 n2 a4] 28))):=qH ((Below.refl _ _).alloc (Nat.le_refl _) _)
 have HE:=eql_conf c0 c1 c2 c3
 have HZ : Hid (zeroB c0 c1 c2 c3 n1 n2 = (decide (c0 = 0 /\ c1 = 0 /\ c2 = 0 /\ c3 = 0) && decide (n1 = 0) && decide (n2 = 0))):=qH rfl
 generalize decide (c0 = 0 /\ c1 = 0 /\ c2 = 0 /\ c3 = 0) = z at HE HZ
 cases z
 · have HF : Hid (false = zeroB c0 c1 c2 c3 n1 n2):=qH (by rw [HZ.out];rfl)
   clear HZ
   go_enter Tryz.func52,Tryz.ntmps52
   go_wp2_with fail
   go_ret
   exact ⟨ret_bool HF.out,HB.out⟩
 · by_cases h1 : n1 = 0
   · subst h1
     by_cases h2 : n2 = 0
     · subst h2
       have HF : Hid (true = zeroB c0 c1 c2 c3 0 0):=qH (by rw [HZ.out];rfl)
       clear HZ
       go_enter Tryz.func52,Tryz.ntmps52
       go_wp2_with fail
       go_ret
       exact ⟨ret_bool HF.out,HB.out⟩
     · have HF : Hid (false = zeroB c0 c1 c2 c3 0 n2):=qH (by rw [HZ.out,decide_eq_false h2,Bool.and_false])
       have h3 : ((n2 : Int) == 0) = false:=by rw [beq_eq_false_iff_ne];omega
       clear HZ
       go_enter Tryz.func52,Tryz.ntmps52
       go_wp2_with fail
       go_ret
       exact ⟨ret_bool HF.out,HB.out⟩
   · have HF : Hid (false = zeroB c0 c1 c2 c3 n1 n2):=qH (by rw [HZ.out,decide_eq_false h1,Bool.and_false,Bool.false_and])
     clear HZ
     go_enter Tryz.func52,Tryz.ntmps52
     go_wp2_with fail
     go_ret
     exact ⟨ret_bool HF.out,HB.out⟩
def deedB (q0 q1 q2 q3 q4 q5 : Int) (q6 q7 : ByteArray) (q8 : Int) (q9 : ByteArray) : Bool :=
 if q0 = 1 then confB q1 q2 q3 q4 && decide (q5 = 0 /\ q6 = ⟨#[]⟩) && decide (q7 = ⟨#[]⟩ /\ q8 = 0 /\ q9 = ⟨#[]⟩)
 else if q0 = 2 then decide (q1 = 0 /\ q2 = 0 /\ q3 = 0 /\ q4 = 0) && termB q5 q6 && decide (q7 = ⟨#[]⟩ /\ q8 = 0 /\ q9 = ⟨#[]⟩)
 else if q0 = 3 then decide (q1 = 0 /\ q2 = 0 /\ q3 = 0 /\ q4 = 0) && decide (q5 = 0 /\ q6 = ⟨#[]⟩) && itemB q7 q8 q9
 else if q0 = 4 then decide (q1 = 0 /\ q2 = 0 /\ q3 = 0 /\ q4 = 0) && decide (q5 = 0 /\ q6 = ⟨#[]⟩) && decide (q7 = q7 /\ q8 = 0 /\ q9 = ⟨#[]⟩) && wordB q7
 else false
def deedOf (d : Dd) : Bool:=deedB d.kd d.gn d.nd d.mn d.ck d.no d.lk d.nm d.tm d.bd
theorem specDeedRight_any (q0 q1 q2 q3 q4 q5 : Int) (q6 q7 : ByteArray) (q8 : Int) (q9 : ByteArray) (w : World) (h6 : q6.size <= maxLen) (h7 : q7.size <= maxLen) (h9 : q9.size <= maxLen) :
 Calls Tryz.prog 22 #[.agg #[.int .i64 q0,.int .i64 q1,.int .i64 q2,.int .i64 q3,.int .i64 q4,.int .i64 q5,.string q6,.string q7,.int .i64 q8,.string q9]] w fun e w' => e = .returned (.bool (deedB q0 q1 q2 q3 q4 q5 q6 q7 q8 q9)) /\ Below w.heap.size w w':=by
 have HB : Hid (Below w.heap.size w (w.alloc (.cells #[.int .i64 q0,.int .i64 q1,.int .i64 q2,.int .i64 q3,.int .i64 q4,.int .i64 q5,.string q6,.string q7,.int .i64 q8,.string q9] 34))):=qH ((Below.refl _ _).alloc (Nat.le_refl _) _)
 have H6:=qH h6
 have H7:=qH h7
 have H9:=qH h9
 clear h6 h7 h9
 have HE1:=eql_conf q1 q2 q3 q4
 have HE2:=eql_term q5 q6
 have HE3:=eql_item q7 q8 q9 ⟨#[]⟩
 have HE4:=eql_item q7 q8 q9 q7
 have HD1 : Hid (q0 = 1 -> deedB q0 q1 q2 q3 q4 q5 q6 q7 q8 q9 = (confB q1 q2 q3 q4 && decide (q5 = 0 /\ q6 = ⟨#[]⟩) && decide (q7 = ⟨#[]⟩ /\ q8 = 0 /\ q9 = ⟨#[]⟩))):=qH (fun h => by unfold deedB;rw [if_pos h])
 have HD2 : Hid (q0 = 2 -> deedB q0 q1 q2 q3 q4 q5 q6 q7 q8 q9 = (decide (q1 = 0 /\ q2 = 0 /\ q3 = 0 /\ q4 = 0) && termB q5 q6 && decide (q7 = ⟨#[]⟩ /\ q8 = 0 /\ q9 = ⟨#[]⟩))):=qH (fun h => by subst h;rfl)
 have HD3 : Hid (q0 = 3 -> deedB q0 q1 q2 q3 q4 q5 q6 q7 q8 q9 = (decide (q1 = 0 /\ q2 = 0 /\ q3 = 0 /\ q4 = 0) && decide (q5 = 0 /\ q6 = ⟨#[]⟩) && itemB q7 q8 q9)):=qH (fun h => by subst h;rfl)
 have HD4 : Hid (q0 = 4 -> deedB q0 q1 q2 q3 q4 q5 q6 q7 q8 q9 = (decide (q1 = 0 /\ q2 = 0 /\ q3 = 0 /\ q4 = 0) && decide (q5 = 0 /\ q6 = ⟨#[]⟩) && decide (q7 = q7 /\ q8 = 0 /\ q9 = ⟨#[]⟩) && wordB q7)):=qH (fun h => by subst h;rfl)
 have HD5 : Hid (¬ q0 = 1 -> ¬ q0 = 2 -> ¬ q0 = 3 -> ¬ q0 = 4 -> deedB q0 q1 q2 q3 q4 q5 q6 q7 q8 q9 = false):=qH (fun h1 h2 h3 h4 => by unfold deedB;rw [if_neg h1,if_neg h2,if_neg h3,if_neg h4])
 generalize decide (q1 = 0 /\ q2 = 0 /\ q3 = 0 /\ q4 = 0) = cz at *
 generalize decide (q5 = 0 /\ q6 = ⟨#[]⟩) = tz at *
 generalize decide (q7 = ⟨#[]⟩ /\ q8 = 0 /\ q9 = ⟨#[]⟩) = iz at *
 generalize decide (q7 = q7 /\ q8 = 0 /\ q9 = ⟨#[]⟩) = jz at *
 generalize deedB q0 q1 q2 q3 q4 q5 q6 q7 q8 q9 = R at *
 by_cases k1 : q0 = 1
 · subst k1
   cases hc : confB q1 q2 q3 q4
   · skip
     have HF : Hid (false = R):=qH (by rw [HD1.out rfl];simp only [hc,Bool.false_and])
     clear HD1 HD2 HD3 HD4 HD5
     go_enter Tryz.func22,Tryz.ntmps22
     go_wp2_with fail
     go_region
     go_wp2_with (first | (go_at_call 53;refine (l07Conf_any q1 q2 q3 q4 _).mono ?_;rintro e w1 ⟨rfl,hb⟩;rw [hc];have HBC:=qH (HB.out.drew.trans (hb.mono HB.out.size));clear hb))
     go_ret
     exact ⟨ret_bool HF.out,by first | exact HBC.out | exact HB.out.drew⟩
   · skip
     cases tz
     · skip
       have HF : Hid (false = R):=qH (by rw [HD1.out rfl];simp only [hc,Bool.false_and,Bool.and_false])
       clear HD1 HD2 HD3 HD4 HD5
       go_enter Tryz.func22,Tryz.ntmps22
       go_wp2_with fail
       go_region
       go_wp2_with (first | (go_at_call 53;refine (l07Conf_any q1 q2 q3 q4 _).mono ?_;rintro e w1 ⟨rfl,hb⟩;rw [hc];have HBC:=qH (HB.out.drew.trans (hb.mono HB.out.size));clear hb))
       go_ret
       exact ⟨ret_bool HF.out,by first | exact HBC.out | exact HB.out.drew⟩
     · skip
       cases iz
       · skip
         have HF : Hid (false = R):=qH (by rw [HD1.out rfl];simp only [hc,Bool.and_false,Bool.and_true])
         clear HD1 HD2 HD3 HD4 HD5
         go_enter Tryz.func22,Tryz.ntmps22
         go_wp2_with fail
         go_region
         go_wp2_with (first | (go_at_call 53;refine (l07Conf_any q1 q2 q3 q4 _).mono ?_;rintro e w1 ⟨rfl,hb⟩;rw [hc];have HBC:=qH (HB.out.drew.trans (hb.mono HB.out.size));clear hb))
         go_ret
         exact ⟨ret_bool HF.out,by first | exact HBC.out | exact HB.out.drew⟩
       · skip
         have HF : Hid (true = R):=qH (by rw [HD1.out rfl];simp only [hc,Bool.and_true])
         clear HD1 HD2 HD3 HD4 HD5
         go_enter Tryz.func22,Tryz.ntmps22
         go_wp2_with fail
         go_region
         go_wp2_with (first | (go_at_call 53;refine (l07Conf_any q1 q2 q3 q4 _).mono ?_;rintro e w1 ⟨rfl,hb⟩;rw [hc];have HBC:=qH (HB.out.drew.trans (hb.mono HB.out.size));clear hb))
         go_ret
         exact ⟨ret_bool HF.out,by first | exact HBC.out | exact HB.out.drew⟩
 · skip
   by_cases k2 : q0 = 2
   · subst k2
     cases cz
     · skip
       have HF : Hid (false = R):=qH (by rw [HD2.out rfl];simp only [Bool.false_and])
       clear HD1 HD2 HD3 HD4 HD5
       go_enter Tryz.func22,Tryz.ntmps22
       go_wp2_with fail
       go_region
       go_wp2_with (first | (go_at_call 54;refine (l07Term_any q5 q6 _ H6.out).mono ?_;rintro e w1 ⟨rfl,hb⟩;rw [ht];have HBC:=qH (HB.out.drew.trans (hb.mono HB.out.size));clear hb))
       go_ret
       exact ⟨ret_bool HF.out,by first | exact HBC.out | exact HB.out.drew⟩
     · skip
       cases ht : termB q5 q6
       · skip
         have HF : Hid (false = R):=qH (by rw [HD2.out rfl];simp only [ht,Bool.false_and,Bool.and_false])
         clear HD1 HD2 HD3 HD4 HD5
         go_enter Tryz.func22,Tryz.ntmps22
         go_wp2_with fail
         go_region
         go_wp2_with (first | (go_at_call 54;refine (l07Term_any q5 q6 _ H6.out).mono ?_;rintro e w1 ⟨rfl,hb⟩;rw [ht];have HBC:=qH (HB.out.drew.trans (hb.mono HB.out.size));clear hb))
         go_ret
         exact ⟨ret_bool HF.out,by first | exact HBC.out | exact HB.out.drew⟩
       · skip
         cases iz
         · skip
           have HF : Hid (false = R):=qH (by rw [HD2.out rfl];simp only [ht,Bool.and_false,Bool.and_true])
           clear HD1 HD2 HD3 HD4 HD5
           go_enter Tryz.func22,Tryz.ntmps22
           go_wp2_with fail
           go_region
           go_wp2_with (first | (go_at_call 54;refine (l07Term_any q5 q6 _ H6.out).mono ?_;rintro e w1 ⟨rfl,hb⟩;rw [ht];have HBC:=qH (HB.out.drew.trans (hb.mono HB.out.size));clear hb))
           go_ret
           exact ⟨ret_bool HF.out,by first | exact HBC.out | exact HB.out.drew⟩
         · skip
           have HF : Hid (true = R):=qH (by rw [HD2.out rfl];simp only [ht,Bool.and_true])
           clear HD1 HD2 HD3 HD4 HD5
           go_enter Tryz.func22,Tryz.ntmps22
           go_wp2_with fail
           go_region
           go_wp2_with (first | (go_at_call 54;refine (l07Term_any q5 q6 _ H6.out).mono ?_;rintro e w1 ⟨rfl,hb⟩;rw [ht];have HBC:=qH (HB.out.drew.trans (hb.mono HB.out.size));clear hb))
           go_ret
           exact ⟨ret_bool HF.out,by first | exact HBC.out | exact HB.out.drew⟩
   · skip
     by_cases k3 : q0 = 3
     · subst k3
       cases cz
       · skip
         have HF : Hid (false = R):=qH (by rw [HD3.out rfl];simp only [Bool.false_and])
         clear HD1 HD2 HD3 HD4 HD5
         go_enter Tryz.func22,Tryz.ntmps22
         go_wp2_with fail
         go_region
         go_wp2_with (first | (go_at_call 55;refine (l07Item_any q7 q8 q9 _ H7.out H9.out).mono ?_;rintro e w1 ⟨rfl,hb⟩;rw [hi];have HBC:=qH (HB.out.drew.trans (hb.mono HB.out.size));clear hb))
         go_ret
         exact ⟨ret_bool HF.out,by first | exact HBC.out | exact HB.out.drew⟩
       · skip
         cases tz
         · skip
           have HF : Hid (false = R):=qH (by rw [HD3.out rfl];simp only [Bool.false_and,Bool.and_false])
           clear HD1 HD2 HD3 HD4 HD5
           go_enter Tryz.func22,Tryz.ntmps22
           go_wp2_with fail
           go_region
           go_wp2_with (first | (go_at_call 55;refine (l07Item_any q7 q8 q9 _ H7.out H9.out).mono ?_;rintro e w1 ⟨rfl,hb⟩;rw [hi];have HBC:=qH (HB.out.drew.trans (hb.mono HB.out.size));clear hb))
           go_ret
           exact ⟨ret_bool HF.out,by first | exact HBC.out | exact HB.out.drew⟩
         · skip
           cases hi : itemB q7 q8 q9
           · skip
             have HF : Hid (false = R):=qH (by rw [HD3.out rfl];simp only [hi,Bool.and_false,Bool.and_true])
             clear HD1 HD2 HD3 HD4 HD5
             go_enter Tryz.func22,Tryz.ntmps22
             go_wp2_with fail
             go_region
             go_wp2_with (first | (go_at_call 55;refine (l07Item_any q7 q8 q9 _ H7.out H9.out).mono ?_;rintro e w1 ⟨rfl,hb⟩;rw [hi];have HBC:=qH (HB.out.drew.trans (hb.mono HB.out.size));clear hb))
             go_ret
             exact ⟨ret_bool HF.out,by first | exact HBC.out | exact HB.out.drew⟩
           · skip
             have HF : Hid (true = R):=qH (by rw [HD3.out rfl];simp only [hi,Bool.and_true])
             clear HD1 HD2 HD3 HD4 HD5
             go_enter Tryz.func22,Tryz.ntmps22
             go_wp2_with fail
             go_region
             go_wp2_with (first | (go_at_call 55;refine (l07Item_any q7 q8 q9 _ H7.out H9.out).mono ?_;rintro e w1 ⟨rfl,hb⟩;rw [hi];have HBC:=qH (HB.out.drew.trans (hb.mono HB.out.size));clear hb))
             go_ret
             exact ⟨ret_bool HF.out,by first | exact HBC.out | exact HB.out.drew⟩
     · skip
       by_cases k4 : q0 = 4
       · subst k4
         cases cz
         · skip
           have HF : Hid (false = R):=qH (by rw [HD4.out rfl];simp only [Bool.false_and])
           clear HD1 HD2 HD3 HD4 HD5
           go_enter Tryz.func22,Tryz.ntmps22
           go_wp2_with fail
           go_region
           go_wp2_with (first | (go_at_call 20;refine (specWord_any q7 _ H7.out).mono ?_;rintro e w1 ⟨rfl,rfl⟩;rw [hw]))
           go_ret
           exact ⟨ret_bool HF.out,by first | exact HBC.out | exact HB.out.drew⟩
         · skip
           cases tz
           · skip
             have HF : Hid (false = R):=qH (by rw [HD4.out rfl];simp only [Bool.false_and,Bool.and_false])
             clear HD1 HD2 HD3 HD4 HD5
             go_enter Tryz.func22,Tryz.ntmps22
             go_wp2_with fail
             go_region
             go_wp2_with (first | (go_at_call 20;refine (specWord_any q7 _ H7.out).mono ?_;rintro e w1 ⟨rfl,rfl⟩;rw [hw]))
             go_ret
             exact ⟨ret_bool HF.out,by first | exact HBC.out | exact HB.out.drew⟩
           · skip
             cases jz
             · skip
               have HF : Hid (false = R):=qH (by rw [HD4.out rfl];simp only [Bool.false_and,Bool.and_false,Bool.and_true])
               clear HD1 HD2 HD3 HD4 HD5
               go_enter Tryz.func22,Tryz.ntmps22
               go_wp2_with fail
               go_region
               go_wp2_with (first | (go_at_call 20;refine (specWord_any q7 _ H7.out).mono ?_;rintro e w1 ⟨rfl,rfl⟩;rw [hw]))
               go_ret
               exact ⟨ret_bool HF.out,by first | exact HBC.out | exact HB.out.drew⟩
             · skip
               cases hw : wordB q7
               · skip
                 have HF : Hid (false = R):=qH (by rw [HD4.out rfl];simp only [hw,Bool.and_false,Bool.and_true])
                 clear HD1 HD2 HD3 HD4 HD5
                 go_enter Tryz.func22,Tryz.ntmps22
                 go_wp2_with fail
                 go_region
                 go_wp2_with (first | (go_at_call 20;refine (specWord_any q7 _ H7.out).mono ?_;rintro e w1 ⟨rfl,rfl⟩;rw [hw]))
                 go_ret
                 exact ⟨ret_bool HF.out,by first | exact HBC.out | exact HB.out.drew⟩
               · skip
                 have HF : Hid (true = R):=qH (by rw [HD4.out rfl];simp only [hw,Bool.and_true])
                 clear HD1 HD2 HD3 HD4 HD5
                 go_enter Tryz.func22,Tryz.ntmps22
                 go_wp2_with fail
                 go_region
                 go_wp2_with (first | (go_at_call 20;refine (specWord_any q7 _ H7.out).mono ?_;rintro e w1 ⟨rfl,rfl⟩;rw [hw]))
                 go_ret
                 exact ⟨ret_bool HF.out,by first | exact HBC.out | exact HB.out.drew⟩
       · skip
         have HF:=qH (HD5.out k1 k2 k3 k4).symm
         clear HD1 HD2 HD3 HD4 HD5
         go_enter Tryz.func22,Tryz.ntmps22
         go_wp2_with fail
         go_region
         go_wp2_with fail
         go_ret
         exact ⟨ret_bool HF.out,HB.out.drew⟩
end Go.Proofs.YtbgoldeopmlbnaaGreatDoor
namespace Go.Proofs.YtbgoldeopmlbnaaGreatDoor
open Go.RowKit Go.PlainAid G IRow MNum MJoin
set_option linter.unusedVariables false
def deedT (q0 q1 q2 q3 q4 q5 : Int) (q6 q7 : ByteArray) (q8 : Int) (q9 : ByteArray) : ByteArray :=
 if q0 = 1 then numS q0 ++ numS q1 ++ numS q2 ++ numS q3 ++ numS q4 else if q0 = 2 then numS q0 ++ numS q5 ++ putTextS q6 else if q0 = 3 then numS q0 ++ putTextS q7 ++ numS q8 ++ putTextS q9 else numS q0 ++ putTextS q7
def deedTx (d : Dd) : ByteArray:=deedT d.kd d.gn d.nd d.mn d.ck d.no d.lk d.nm d.tm d.bd
theorem i64_in {n : Int} (h1 : -9000000000000000000 <= n) (h2 : n <= 9000000000000000000) : i64P n:=by unfold i64P;omega
theorem deedB_bounds {q0 q1 q2 q3 q4 q5 : Int} {q6 q7 : ByteArray} {q8 : Int} {q9 : ByteArray} (h : deedB q0 q1 q2 q3 q4 q5 q6 q7 q8 q9 = true) : (q0 = 1 /\ (1 <= q1 /\ q1 <= 999) /\ (1 <= q2 /\ q2 <= 10) /\ (q2 <= q3 /\ q3 <= 20) /\ (0 <= q4 /\ q4 <= 4294967295)) ∨ (q0 = 2 /\ (1 <= q5 /\ q5 <= 5) /\ (1 <= q6.size /\ q6.size <= 16)) ∨ (q0 = 3 /\ (1 <= q7.size /\ q7.size <= 8) /\ (1 <= q8 /\ q8 <= 5) /\ (1 <= q9.size /\ q9.size <= 20)) ∨ (q0 = 4 /\ (1 <= q7.size /\ q7.size <= 8)):=by
 unfold deedB at h
 by_cases k1 : q0 = 1
 · rw [if_pos k1] at h
   simp only [Bool.and_eq_true] at h
   exact .inl ⟨k1,confB_iff.1 h.1.1⟩
 · rw [if_neg k1] at h
   by_cases k2 : q0 = 2
   · rw [if_pos k2] at h
     simp only [Bool.and_eq_true] at h
     exact .inr (.inl ⟨k2,termB_iff.1 h.1.2⟩)
   · rw [if_neg k2] at h
     by_cases k3 : q0 = 3
     · rw [if_pos k3] at h
       simp only [Bool.and_eq_true] at h
       obtain ⟨h1,h2,h3⟩:=itemB_iff.1 h.2
       exact .inr (.inr (.inl ⟨k3,wordB_size h1,h2,h3⟩))
     · rw [if_neg k3] at h
       by_cases k4 : q0 = 4
       · rw [if_pos k4] at h
         simp only [Bool.and_eq_true] at h
         exact .inr (.inr (.inr ⟨k4,wordB_size h.2⟩))
       · rw [if_neg k4] at h
         cases h
theorem l07Deed_any (q0 q1 q2 q3 q4 q5 : Int) (q6 q7 : ByteArray) (q8 : Int) (q9 : ByteArray) (w : World) (hB : deedB q0 q1 q2 q3 q4 q5 q6 q7 q8 q9 = true) :
 Calls Tryz.prog 48 #[.agg #[.int .i64 q0,.int .i64 q1,.int .i64 q2,.int .i64 q3,.int .i64 q4,.int .i64 q5,.string q6,.string q7,.int .i64 q8,.string q9]] w fun e w' => e = .returned (.string (deedT q0 q1 q2 q3 q4 q5 q6 q7 q8 q9)) /\ Below w.heap.size w w':=by
 have hbd:=deedB_bounds hB
 clear hB
 obtain ⟨W,hW⟩ : ∃ W,W = w.alloc (.cells #[.int .i64 q0,.int .i64 q1,.int .i64 q2,.int .i64 q3,.int .i64 q4,.int .i64 q5,.string q6,.string q7,.int .i64 q8,.string q9] 34):=⟨_,rfl⟩
 have HA : Hid (BoxC W w.heap.size [.int .i64 q0,.int .i64 q1,.int .i64 q2,.int .i64 q3,.int .i64 q4,.int .i64 q5,.string q6,.string q7,.int .i64 q8,.string q9]):=qH (by rw [hW];exact BoxC.made _ _ _)
 have HW0 : Hid (Below w.heap.size w W):=qH (by rw [hW];exact (Below.refl _ _).alloc (Nat.le_refl _) _)
 have HC : Hid (∀ u : World,Below W.heap.size W u -> u.cell? ⟨w.heap.size,0,none⟩ = some (.int .i64 q0) /\ u.cell? ⟨w.heap.size,1,none⟩ = some (.int .i64 q1) /\ u.cell? ⟨w.heap.size,2,none⟩ = some (.int .i64 q2) /\ u.cell? ⟨w.heap.size,3,none⟩ = some (.int .i64 q3) /\ u.cell? ⟨w.heap.size,4,none⟩ = some (.int .i64 q4) /\ u.cell? ⟨w.heap.size,5,none⟩ = some (.int .i64 q5) /\ u.cell? ⟨w.heap.size,6,none⟩ = some (.string q6) /\ u.cell? ⟨w.heap.size,7,none⟩ = some (.string q7) /\ u.cell? ⟨w.heap.size,8,none⟩ = some (.int .i64 q8) /\ u.cell? ⟨w.heap.size,9,none⟩ = some (.string q9)):=qH (fun u hu => ⟨(HA.out.below hu).cell 0 _ rfl,(HA.out.below hu).cell 1 _ rfl,(HA.out.below hu).cell 2 _ rfl,(HA.out.below hu).cell 3 _ rfl,(HA.out.below hu).cell 4 _ rfl,(HA.out.below hu).cell 5 _ rfl,(HA.out.below hu).cell 6 _ rfl,(HA.out.below hu).cell 7 _ rfl,(HA.out.below hu).cell 8 _ rfl,(HA.out.below hu).cell 9 _ rfl⟩)
 clear HA
 rcases hbd with hbd | hbd | hbd | hbd
 · obtain ⟨rfl,hbd⟩:=hbd
   have P0 : Hid (∀ u,Calls Tryz.prog 47 #[.int .i64 1] u fun e w' => e = .returned (.string (numS 1)) /\ Below u.heap.size u w'):=qH (fun u => specPutNum_any 1 u (i64_in (by omega) (by omega)))
   have z0:=(numS_size 1).2
   have P1 : Hid (∀ u,Calls Tryz.prog 47 #[.int .i64 q1] u fun e w' => e = .returned (.string (numS q1)) /\ Below u.heap.size u w'):=qH (fun u => specPutNum_any q1 u (i64_in (by omega) (by omega)))
   have z1:=(numS_size q1).2
   have P2 : Hid (∀ u,Calls Tryz.prog 47 #[.int .i64 q2] u fun e w' => e = .returned (.string (numS q2)) /\ Below u.heap.size u w'):=qH (fun u => specPutNum_any q2 u (i64_in (by omega) (by omega)))
   have z2:=(numS_size q2).2
   have P3 : Hid (∀ u,Calls Tryz.prog 47 #[.int .i64 q3] u fun e w' => e = .returned (.string (numS q3)) /\ Below u.heap.size u w'):=qH (fun u => specPutNum_any q3 u (i64_in (by omega) (by omega)))
   have z3:=(numS_size q3).2
   have P4 : Hid (∀ u,Calls Tryz.prog 47 #[.int .i64 q4] u fun e w' => e = .returned (.string (numS q4)) /\ Below u.heap.size u w'):=qH (fun u => specPutNum_any q4 u (i64_in (by omega) (by omega)))
   have z4:=(numS_size q4).2
   have HT : Hid (numS 1 ++ numS q1 ++ numS q2 ++ numS q3 ++ numS q4 = deedT 1 q1 q2 q3 q4 q5 q6 q7 q8 q9):=qH rfl
   generalize numS 1 = p0 at *
   generalize numS q1 = p1 at *
   generalize numS q2 = p2 at *
   generalize numS q3 = p3 at *
   generalize numS q4 = p4 at *
   have r0 : ∀ u : World,(Op.stringOp .add (p0) p1).run Tryz.prog u = .ok (.string (p0 ++ p1)) u:=fun u => run_string_add_sum u _ _ (by omega)
   have s1 : (p0 ++ p1).size <= 300:=by rw [ByteArray.size_append];omega
   have r1 : ∀ u : World,(Op.stringOp .add (p0 ++ p1) p2).run Tryz.prog u = .ok (.string (p0 ++ p1 ++ p2)) u:=fun u => run_string_add_sum u _ _ (by omega)
   have s2 : (p0 ++ p1 ++ p2).size <= 400:=by rw [ByteArray.size_append];omega
   have r2 : ∀ u : World,(Op.stringOp .add (p0 ++ p1 ++ p2) p3).run Tryz.prog u = .ok (.string (p0 ++ p1 ++ p2 ++ p3)) u:=fun u => run_string_add_sum u _ _ (by omega)
   have s3 : (p0 ++ p1 ++ p2 ++ p3).size <= 500:=by rw [ByteArray.size_append];omega
   have r3 : ∀ u : World,(Op.stringOp .add (p0 ++ p1 ++ p2 ++ p3) p4).run Tryz.prog u = .ok (.string (p0 ++ p1 ++ p2 ++ p3 ++ p4)) u:=fun u => run_string_add_sum u _ _ (by omega)
   clear z0 hbd z1 z2 z3 z4 s1 s2 s3
   go_enter Tryz.func48,Tryz.ntmps48
   go_wp2_with fail
   rw [<- hW]
   clear hW
   refine Calls.mono (P0.out _) ?_
   rintro e w1 ⟨rfl,hb⟩
   have hFn : Below W.heap.size W w1:=hb
   clear hb
   obtain ⟨x0,x1,x2,x3,x4,x5,x6,x7,x8,x9⟩:=HC.out _ hFn
   skip
   go_wp2_with fail
   clear x0 x1 x2 x3 x4 x5 x6 x7 x8 x9
   replace hFn:=hFn.drew
   go_region_held3 (fun u => u.cell? ⟨w.heap.size,1,none⟩ = some (.int .i64 q1) /\ u.cell? ⟨w.heap.size,2,none⟩ = some (.int .i64 q2) /\ u.cell? ⟨w.heap.size,3,none⟩ = some (.int .i64 q3) /\ u.cell? ⟨w.heap.size,4,none⟩ = some (.int .i64 q4)) (exact ⟨(HC.out _ hFn).2.1,(HC.out _ hFn).2.2.1,(HC.out _ hFn).2.2.2.1,(HC.out _ hFn).2.2.2.2.1⟩)
    (first | (go_at_call 47;(with_reducible refine Calls.mono (P1.out _) ?_);rintro e w1 ⟨rfl,hb⟩;have hFn:=hFn.trans (hb.mono hFn.size)) | (go_at_call 47;(with_reducible refine Calls.mono (P2.out _) ?_);rintro e w1 ⟨rfl,hb⟩;have hFn:=hFn.trans (hb.mono hFn.size)) | (go_at_call 47;(with_reducible refine Calls.mono (P3.out _) ?_);rintro e w1 ⟨rfl,hb⟩;have hFn:=hFn.trans (hb.mono hFn.size)) | (go_at_call 47;(with_reducible refine Calls.mono (P4.out _) ?_);rintro e w1 ⟨rfl,hb⟩;have hFn:=hFn.trans (hb.mono hFn.size)))
   all_goals
    go_wp2_with fail
    go_ret
    exact ⟨ret_string HT.out,HW0.out.trans (hFn.mono HW0.out.size)⟩
 · obtain ⟨rfl,hbd⟩:=hbd
   have P0 : Hid (∀ u,Calls Tryz.prog 47 #[.int .i64 2] u fun e w' => e = .returned (.string (numS 2)) /\ Below u.heap.size u w'):=qH (fun u => specPutNum_any 2 u (i64_in (by omega) (by omega)))
   have z0:=(numS_size 2).2
   have P5 : Hid (∀ u,Calls Tryz.prog 47 #[.int .i64 q5] u fun e w' => e = .returned (.string (numS q5)) /\ Below u.heap.size u w'):=qH (fun u => specPutNum_any q5 u (i64_in (by omega) (by omega)))
   have z5:=(numS_size q5).2
   have P6 : Hid (∀ u,Calls Tryz.prog 49 #[.string q6] u fun e w' => e = .returned (.string (putTextS q6)) /\ Below u.heap.size u w'):=qH (fun u => specPutText_any q6 u (by unfold maxLen;omega))
   have z6 : (putTextS q6).size <= 100:=by rw [putTextS_short (by omega),ByteArray.size_append];have:=(numS_size (q6.size : Int)).2;omega
   have HT : Hid (numS 2 ++ numS q5 ++ putTextS q6 = deedT 2 q1 q2 q3 q4 q5 q6 q7 q8 q9):=qH rfl
   generalize numS 2 = p0 at *
   generalize numS q5 = p5 at *
   generalize putTextS q6 = p6 at *
   have r0 : ∀ u : World,(Op.stringOp .add (p0) p5).run Tryz.prog u = .ok (.string (p0 ++ p5)) u:=fun u => run_string_add_sum u _ _ (by omega)
   have s1 : (p0 ++ p5).size <= 300:=by rw [ByteArray.size_append];omega
   have r1 : ∀ u : World,(Op.stringOp .add (p0 ++ p5) p6).run Tryz.prog u = .ok (.string (p0 ++ p5 ++ p6)) u:=fun u => run_string_add_sum u _ _ (by omega)
   clear z0 hbd z5 z6 s1
   go_enter Tryz.func48,Tryz.ntmps48
   go_wp2_with fail
   rw [<- hW]
   clear hW
   refine Calls.mono (P0.out _) ?_
   rintro e w1 ⟨rfl,hb⟩
   have hFn : Below W.heap.size W w1:=hb
   clear hb
   obtain ⟨x0,x1,x2,x3,x4,x5,x6,x7,x8,x9⟩:=HC.out _ hFn
   skip
   go_wp2_with fail
   clear x0 x1 x2 x3 x4 x5 x6 x7 x8 x9
   replace hFn:=hFn.drew
   go_region_held3 (fun u => u.cell? ⟨w.heap.size,5,none⟩ = some (.int .i64 q5) /\ u.cell? ⟨w.heap.size,6,none⟩ = some (.string q6)) (exact ⟨(HC.out _ hFn).2.2.2.2.2.1,(HC.out _ hFn).2.2.2.2.2.2.1⟩)
    (first | (go_at_call 47;(with_reducible refine Calls.mono (P5.out _) ?_);rintro e w1 ⟨rfl,hb⟩;have hFn:=hFn.trans (hb.mono hFn.size)) | (go_at_call 49;(with_reducible refine Calls.mono (P6.out _) ?_);rintro e w1 ⟨rfl,hb⟩;have hFn:=hFn.trans (hb.mono hFn.size)))
   all_goals
    go_wp2_with fail
    go_ret
    exact ⟨ret_string HT.out,HW0.out.trans (hFn.mono HW0.out.size)⟩
 · obtain ⟨rfl,hbd⟩:=hbd
   have P0 : Hid (∀ u,Calls Tryz.prog 47 #[.int .i64 3] u fun e w' => e = .returned (.string (numS 3)) /\ Below u.heap.size u w'):=qH (fun u => specPutNum_any 3 u (i64_in (by omega) (by omega)))
   have z0:=(numS_size 3).2
   have P7 : Hid (∀ u,Calls Tryz.prog 49 #[.string q7] u fun e w' => e = .returned (.string (putTextS q7)) /\ Below u.heap.size u w'):=qH (fun u => specPutText_any q7 u (by unfold maxLen;omega))
   have z7 : (putTextS q7).size <= 100:=by rw [putTextS_short (by omega),ByteArray.size_append];have:=(numS_size (q7.size : Int)).2;omega
   have P8 : Hid (∀ u,Calls Tryz.prog 47 #[.int .i64 q8] u fun e w' => e = .returned (.string (numS q8)) /\ Below u.heap.size u w'):=qH (fun u => specPutNum_any q8 u (i64_in (by omega) (by omega)))
   have z8:=(numS_size q8).2
   have P9 : Hid (∀ u,Calls Tryz.prog 49 #[.string q9] u fun e w' => e = .returned (.string (putTextS q9)) /\ Below u.heap.size u w'):=qH (fun u => specPutText_any q9 u (by unfold maxLen;omega))
   have z9 : (putTextS q9).size <= 100:=by rw [putTextS_short (by omega),ByteArray.size_append];have:=(numS_size (q9.size : Int)).2;omega
   have HT : Hid (numS 3 ++ putTextS q7 ++ numS q8 ++ putTextS q9 = deedT 3 q1 q2 q3 q4 q5 q6 q7 q8 q9):=qH rfl
   generalize numS 3 = p0 at *
   generalize putTextS q7 = p7 at *
   generalize numS q8 = p8 at *
   generalize putTextS q9 = p9 at *
   have r0 : ∀ u : World,(Op.stringOp .add (p0) p7).run Tryz.prog u = .ok (.string (p0 ++ p7)) u:=fun u => run_string_add_sum u _ _ (by omega)
   have s1 : (p0 ++ p7).size <= 300:=by rw [ByteArray.size_append];omega
   have r1 : ∀ u : World,(Op.stringOp .add (p0 ++ p7) p8).run Tryz.prog u = .ok (.string (p0 ++ p7 ++ p8)) u:=fun u => run_string_add_sum u _ _ (by omega)
   have s2 : (p0 ++ p7 ++ p8).size <= 400:=by rw [ByteArray.size_append];omega
   have r2 : ∀ u : World,(Op.stringOp .add (p0 ++ p7 ++ p8) p9).run Tryz.prog u = .ok (.string (p0 ++ p7 ++ p8 ++ p9)) u:=fun u => run_string_add_sum u _ _ (by omega)
   clear z0 hbd z7 z8 z9 s1 s2
   go_enter Tryz.func48,Tryz.ntmps48
   go_wp2_with fail
   rw [<- hW]
   clear hW
   refine Calls.mono (P0.out _) ?_
   rintro e w1 ⟨rfl,hb⟩
   have hFn : Below W.heap.size W w1:=hb
   clear hb
   obtain ⟨x0,x1,x2,x3,x4,x5,x6,x7,x8,x9⟩:=HC.out _ hFn
   skip
   go_wp2_with fail
   clear x0 x1 x2 x3 x4 x5 x6 x7 x8 x9
   replace hFn:=hFn.drew
   go_region_held3 (fun u => u.cell? ⟨w.heap.size,7,none⟩ = some (.string q7) /\ u.cell? ⟨w.heap.size,8,none⟩ = some (.int .i64 q8) /\ u.cell? ⟨w.heap.size,9,none⟩ = some (.string q9)) (exact ⟨(HC.out _ hFn).2.2.2.2.2.2.2.1,(HC.out _ hFn).2.2.2.2.2.2.2.2.1,(HC.out _ hFn).2.2.2.2.2.2.2.2.2⟩)
    (first | (go_at_call 49;(with_reducible refine Calls.mono (P7.out _) ?_);rintro e w1 ⟨rfl,hb⟩;have hFn:=hFn.trans (hb.mono hFn.size)) | (go_at_call 47;(with_reducible refine Calls.mono (P8.out _) ?_);rintro e w1 ⟨rfl,hb⟩;have hFn:=hFn.trans (hb.mono hFn.size)) | (go_at_call 49;(with_reducible refine Calls.mono (P9.out _) ?_);rintro e w1 ⟨rfl,hb⟩;have hFn:=hFn.trans (hb.mono hFn.size)))
   all_goals
    go_wp2_with fail
    go_ret
    exact ⟨ret_string HT.out,HW0.out.trans (hFn.mono HW0.out.size)⟩
 · obtain ⟨rfl,hbd⟩:=hbd
   have P0 : Hid (∀ u,Calls Tryz.prog 47 #[.int .i64 4] u fun e w' => e = .returned (.string (numS 4)) /\ Below u.heap.size u w'):=qH (fun u => specPutNum_any 4 u (i64_in (by omega) (by omega)))
   have z0:=(numS_size 4).2
   have P7 : Hid (∀ u,Calls Tryz.prog 49 #[.string q7] u fun e w' => e = .returned (.string (putTextS q7)) /\ Below u.heap.size u w'):=qH (fun u => specPutText_any q7 u (by unfold maxLen;omega))
   have z7 : (putTextS q7).size <= 100:=by rw [putTextS_short (by omega),ByteArray.size_append];have:=(numS_size (q7.size : Int)).2;omega
   have HT : Hid (numS 4 ++ putTextS q7 = deedT 4 q1 q2 q3 q4 q5 q6 q7 q8 q9):=qH rfl
   generalize numS 4 = p0 at *
   generalize putTextS q7 = p7 at *
   have r0 : ∀ u : World,(Op.stringOp .add (p0) p7).run Tryz.prog u = .ok (.string (p0 ++ p7)) u:=fun u => run_string_add_sum u _ _ (by omega)
   clear z0 hbd z7 
   go_enter Tryz.func48,Tryz.ntmps48
   go_wp2_with fail
   rw [<- hW]
   clear hW
   refine Calls.mono (P0.out _) ?_
   rintro e w1 ⟨rfl,hb⟩
   have hFn : Below W.heap.size W w1:=hb
   clear hb
   obtain ⟨x0,x1,x2,x3,x4,x5,x6,x7,x8,x9⟩:=HC.out _ hFn
   skip
   go_wp2_with fail
   clear x0 x1 x2 x3 x4 x5 x6 x7 x8 x9
   refine Calls.mono (P7.out _) ?_
   rintro e w2 ⟨rfl,hb⟩
   replace hFn:=hFn.trans (hb.mono hFn.size)
   clear hb
   go_wp2_with fail
   go_ret
   exact ⟨ret_string HT.out,HW0.out.trans (hFn.mono HW0.out.size)⟩
end Go.Proofs.YtbgoldeopmlbnaaGreatDoor
