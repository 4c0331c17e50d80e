/- Texts put together: what the law uses of them. -/
import Derived.Test.YtidcpdfhnhfelaaGreatDoorQTxr19
import Derived.Test.YtidcpdfhnhfelaaGreatDoorQTxr24
import Derived.Test.YtidcpdfhnhfelaaGreatDoorQTxr00
/- What is right in a book and in a deed; what the model's functions on them answer. -/
namespace Go.Proofs.YtidcpdfhnhfelaaGreatDoor
open Go.RowKit Go.PlainAid G
set_option linter.unusedVariables false
/-- The bytes a to z alone, up to a place. -/
def azTo (t : ByteArray) (k : Nat) : Bool := (List.range k).all fun i => decide (97 ≤ bt t i ∧ bt t i ≤ 122)
theorem azTo_zero (t : ByteArray) : azTo t 0 = true := rfl
theorem azTo_succ {t : ByteArray} {k : Nat} (h : azTo t k = true) (h1 : 97 ≤ bt t k) (h2 : bt t k ≤ 122) : azTo t (k + 1) = true := by
  unfold azTo at h ⊢
  rw [List.range_succ, List.all_append, h]
  simp [h1, h2]
theorem azTo_no {t : ByteArray} {k n : Nat} (hk : k < n) (h : ¬ (97 ≤ bt t k ∧ bt t k ≤ 122)) : azTo t n = false := by
  unfold azTo
  rw [List.all_eq_false]
  exact ⟨k, List.mem_range.2 hk, by simp only [decide_eq_true_eq]; exact h⟩
def wordB (t : ByteArray) : Bool := decide (1 ≤ t.size ∧ t.size ≤ 8) && azTo t t.size
theorem wordB_no {t : ByteArray} {k : Nat} (hk : k < t.size) (h : ¬ (97 ≤ bt t k ∧ bt t k ≤ 122)) : wordB t = false := by unfold wordB; rw [azTo_no hk h, Bool.and_false]
theorem wordB_at {t : ByteArray} (h : azTo t t.size = true) : wordB t = decide (1 ≤ t.size ∧ t.size ≤ 8) := by unfold wordB; rw [h, Bool.and_true]
def nums3B (g n m : Int) : Bool := decide (1 ≤ g ∧ g ≤ 999) && decide (1 ≤ n ∧ n ≤ 10) && decide (n ≤ m ∧ m ≤ 20)
def confB (g n m c : Int) : Bool := nums3B g n m && decide (0 ≤ c ∧ c ≤ 4294967295)
def termB (no : Int) (lk : ByteArray) : Bool := decide (1 ≤ no ∧ no ≤ 5) && secR lk
def itemB (nm : ByteArray) (tm : Int) (bd : ByteArray) : Bool := wordB nm && decide (1 ≤ tm ∧ tm ≤ 5) && decide (1 ≤ bd.size ∧ bd.size ≤ 20)
theorem specWord_any (t : ByteArray) (w : World) (ht : t.size ≤ maxLen) :
    Calls Tryz.prog 106 #[.string t] w fun e w' => e = .returned (.bool (wordB t)) ∧ w = w' := by
  unfold maxLen at ht
  go_enter Tryz.func106, Tryz.ntmps106
  go_wp2_with fail
  go_loop [3] (fun i => ∃ k : Nat, k ≤ t.size ∧ i = .int .i64 k ∧ Hid (azTo t k = true)) (fun i => t.size - (intOf i).toNat)
  case atStart => exact ⟨0, Nat.zero_le _, rfl, Lib.hid (azTo_zero t)⟩
  case round =>
    obtain ⟨k, hk, rfl, HA⟩ := hrel
    by_cases hlt : k < t.size
    · have hb : ((t[k]'hlt).toNat : Int) = bt t k := by unfold bt; rw [dif_pos hlt]
      have HB := Lib.hid hb
      have hin : (k : Int) < (t.size : Int) := by omega
      by_cases h1 : 97 ≤ bt t k
      · by_cases h2 : bt t k ≤ 122
        · have HS := Lib.hid (azTo_succ HA.out h1 h2)
          have g1 : ¬ ((t[k]'hlt).toNat : Int) < 97 := by rw [hb]; omega
          have g2 : ¬ (122 : Int) < ((t[k]'hlt).toNat : Int) := by rw [hb]; omega
          clear hb h1 h2
          go_wp2_with fail
          go_round
          case rel => exact ⟨k + 1, by omega, by go_num, HS⟩
          case measure => simp [intOf]; omega
        · have HF := Lib.hid (wordB_no hlt (fun h => h2 h.2)).symm
          have g1 : ¬ ((t[k]'hlt).toNat : Int) < 97 := by rw [hb]; omega
          have g2 : (122 : Int) < ((t[k]'hlt).toNat : Int) := by rw [hb]; omega
          clear hb h1 h2
          go_wp2_with fail
          go_ret
          exact ⟨ret_bool HF.out, rfl⟩
      · have HF := Lib.hid (wordB_no hlt (fun h => h1 h.1)).symm
        have g1 : ((t[k]'hlt).toNat : Int) < 97 := by rw [hb]; omega
        clear hb h1
        go_wp2_with fail
        go_ret
        exact ⟨ret_bool HF.out, rfl⟩
    · obtain rfl : k = t.size := by omega
      have HW := Lib.hid (wordB_at HA.out)
      by_cases h1 : 1 ≤ t.size
      · by_cases h2 : t.size ≤ 8
        · have HF : Hid (true = wordB t) := Lib.hid (by rw [HW.out]; exact (decide_eq_true ⟨h1, h2⟩).symm)
          go_wp2_with fail
          go_ret
          exact ⟨ret_bool (by rw [← HF.out]; simp; omega), rfl⟩
        · have HF : Hid (false = wordB t) := Lib.hid (by rw [HW.out]; exact (decide_eq_false (by omega)).symm)
          go_wp2_with fail
          go_ret
          exact ⟨ret_bool (by rw [← HF.out]; simp; omega), rfl⟩
      · have HF : Hid (false = wordB t) := Lib.hid (by rw [HW.out]; exact (decide_eq_false (by omega)).symm)
        go_wp2_with fail
        go_ret
        exact ⟨ret_bool (by rw [← HF.out]; try (simp; omega)), rfl⟩
set_option maxRecDepth 100000 in
theorem l05NumsOk_any (g n m : Int) (w : World)  :
    Calls Tryz.prog 88 #[.int .i64 g, .int .i64 n, .int .i64 m] w fun e w' => e = .returned (.bool (nums3B g n m)) ∧ w = w' := by
  cases hg : decide (1 ≤ g ∧ g ≤ 999)
  · skip
    have HF : Hid (false = nums3B g n m) := Lib.hid (by unfold nums3B; simp only [hg, Bool.false_and, Bool.and_false, Bool.true_and, Bool.and_true, Bool.and_self])
    go_enter Tryz.func88, Tryz.ntmps88
    go_wp2_with ((go_at_call 43; refine (l02IsOk_any _ _ _ _).mono ?_; rintro e w1 ⟨rfl, rfl⟩; first | rw [hg] | rw [hn] | rw [hm]))
    go_ret
    exact ⟨ret_bool (by first | exact HF.out | (rw [← HF.out]; simp_all)), rfl⟩
  · skip
    cases hn : decide (1 ≤ n ∧ n ≤ 10)
    · skip
      have HF : Hid (false = nums3B g n m) := Lib.hid (by unfold nums3B; simp only [hg, hn, Bool.false_and, Bool.and_false, Bool.true_and, Bool.and_true, Bool.and_self])
      go_enter Tryz.func88, Tryz.ntmps88
      go_wp2_with ((go_at_call 43; refine (l02IsOk_any _ _ _ _).mono ?_; rintro e w1 ⟨rfl, rfl⟩; first | rw [hg] | rw [hn] | rw [hm]))
      go_ret
      exact ⟨ret_bool (by first | exact HF.out | (rw [← HF.out]; simp_all)), rfl⟩
    · skip
      cases hm : decide (n ≤ m ∧ m ≤ 20)
      · skip
        have HF : Hid (false = nums3B g n m) := Lib.hid (by unfold nums3B; simp only [hg, hn, hm, Bool.false_and, Bool.and_false, Bool.true_and, Bool.and_true, Bool.and_self])
        go_enter Tryz.func88, Tryz.ntmps88
        go_wp2_with ((go_at_call 43; refine (l02IsOk_any _ _ _ _).mono ?_; rintro e w1 ⟨rfl, rfl⟩; first | rw [hg] | rw [hn] | rw [hm]))
        go_ret
        exact ⟨ret_bool (by first | exact HF.out | (rw [← HF.out]; simp_all)), rfl⟩
      · skip
        have HF : Hid (true = nums3B g n m) := Lib.hid (by unfold nums3B; simp only [hg, hn, hm, Bool.false_and, Bool.and_false, Bool.true_and, Bool.and_true, Bool.and_self])
        go_enter Tryz.func88, Tryz.ntmps88
        go_wp2_with ((go_at_call 43; refine (l02IsOk_any _ _ _ _).mono ?_; rintro e w1 ⟨rfl, rfl⟩; first | rw [hg] | rw [hn] | rw [hm]))
        go_ret
        exact ⟨ret_bool (by first | exact HF.out | (rw [← HF.out]; simp_all)), rfl⟩
set_option maxRecDepth 100000 in
theorem l07Conf_any (g n m c : Int) (w : World)  :
    Calls Tryz.prog 103 #[.agg #[.int .i64 g, .int .i64 n, .int .i64 m, .int .i64 c]] w fun e w' => e = .returned (.bool (confB g n m c)) ∧ Below w.heap.size w w' := by
  have HB : Hid (Below w.heap.size w (w.alloc (.cells #[.int .i64 g, .int .i64 n, .int .i64 m, .int .i64 c] 28))) := Lib.hid ((Below.refl _ _).alloc (Nat.le_refl _) _)
  cases hn : nums3B g n m
  · skip
    have HF : Hid (false = confB g n m c) := Lib.hid (by unfold confB; simp only [hn, Bool.false_and, Bool.and_false, Bool.true_and, Bool.and_true, Bool.and_self])
    go_enter Tryz.func103, Tryz.ntmps103
    go_wp2_with (first | (go_at_call 88; refine (l05NumsOk_any _ _ _ _).mono ?_; rintro e w1 ⟨rfl, rfl⟩; rw [hn]) | (go_at_call 43; refine (l02IsOk_any _ _ _ _).mono ?_; rintro e w1 ⟨rfl, rfl⟩; first | rw [hc]))
    go_ret
    exact ⟨ret_bool (by first | exact HF.out | (rw [← HF.out]; simp_all)), HB.out⟩
  · skip
    cases hc : decide (0 ≤ c ∧ c ≤ 4294967295)
    · skip
      have HF : Hid (false = confB g n m c) := Lib.hid (by unfold confB; simp only [hn, hc, Bool.false_and, Bool.and_false, Bool.true_and, Bool.and_true, Bool.and_self])
      go_enter Tryz.func103, Tryz.ntmps103
      go_wp2_with (first | (go_at_call 88; refine (l05NumsOk_any _ _ _ _).mono ?_; rintro e w1 ⟨rfl, rfl⟩; rw [hn]) | (go_at_call 43; refine (l02IsOk_any _ _ _ _).mono ?_; rintro e w1 ⟨rfl, rfl⟩; first | rw [hc]))
      go_ret
      exact ⟨ret_bool (by first | exact HF.out | (rw [← HF.out]; simp_all)), HB.out⟩
    · skip
      have HF : Hid (true = confB g n m c) := Lib.hid (by unfold confB; simp only [hn, hc, Bool.false_and, Bool.and_false, Bool.true_and, Bool.and_true, Bool.and_self])
      go_enter Tryz.func103, Tryz.ntmps103
      go_wp2_with (first | (go_at_call 88; refine (l05NumsOk_any _ _ _ _).mono ?_; rintro e w1 ⟨rfl, rfl⟩; rw [hn]) | (go_at_call 43; refine (l02IsOk_any _ _ _ _).mono ?_; rintro e w1 ⟨rfl, rfl⟩; first | rw [hc]))
      go_ret
      exact ⟨ret_bool (by first | exact HF.out | (rw [← HF.out]; simp_all)), HB.out⟩
set_option maxRecDepth 100000 in
theorem l07Term_any (no : Int) (lk : ByteArray) (w : World) (ht : lk.size ≤ maxLen) :
    Calls Tryz.prog 104 #[.agg #[.int .i64 no, .string lk]] w fun e w' => e = .returned (.bool (termB no lk)) ∧ Below w.heap.size w w' := by
  have HT := Lib.hid ht
  clear ht
  have HB : Hid (Below w.heap.size w (w.alloc (.cells #[.int .i64 no, .string lk] 106))) := Lib.hid ((Below.refl _ _).alloc (Nat.le_refl _) _)
  cases hn : decide (1 ≤ no ∧ no ≤ 5)
  · skip
    have HF : Hid (false = termB no lk) := Lib.hid (by unfold termB; simp only [hn, Bool.false_and, Bool.and_false, Bool.true_and, Bool.and_true, Bool.and_self])
    go_enter Tryz.func104, Tryz.ntmps104
    go_wp2_with (first | (go_at_call 84; refine (l04SecretOk_any _ _ HT.out).mono ?_; rintro e w1 ⟨rfl, rfl⟩; rw [hs]) | (go_at_call 43; refine (l02IsOk_any _ _ _ _).mono ?_; rintro e w1 ⟨rfl, rfl⟩; first | rw [hn]))
    go_ret
    exact ⟨ret_bool (by first | exact HF.out | (rw [← HF.out]; simp_all)), HB.out⟩
  · skip
    cases hs : secR lk
    · skip
      have HF : Hid (false = termB no lk) := Lib.hid (by unfold termB; simp only [hn, hs, Bool.false_and, Bool.and_false, Bool.true_and, Bool.and_true, Bool.and_self])
      go_enter Tryz.func104, Tryz.ntmps104
      go_wp2_with (first | (go_at_call 84; refine (l04SecretOk_any _ _ HT.out).mono ?_; rintro e w1 ⟨rfl, rfl⟩; rw [hs]) | (go_at_call 43; refine (l02IsOk_any _ _ _ _).mono ?_; rintro e w1 ⟨rfl, rfl⟩; first | rw [hn]))
      go_ret
      exact ⟨ret_bool (by first | exact HF.out | (rw [← HF.out]; simp_all)), HB.out⟩
    · skip
      have HF : Hid (true = termB no lk) := Lib.hid (by unfold termB; simp only [hn, hs, Bool.false_and, Bool.and_false, Bool.true_and, Bool.and_true, Bool.and_self])
      go_enter Tryz.func104, Tryz.ntmps104
      go_wp2_with (first | (go_at_call 84; refine (l04SecretOk_any _ _ HT.out).mono ?_; rintro e w1 ⟨rfl, rfl⟩; rw [hs]) | (go_at_call 43; refine (l02IsOk_any _ _ _ _).mono ?_; rintro e w1 ⟨rfl, rfl⟩; first | rw [hn]))
      go_ret
      exact ⟨ret_bool (by first | exact HF.out | (rw [← HF.out]; simp_all)), HB.out⟩
set_option maxRecDepth 100000 in
theorem l07Item_any (nm : ByteArray) (tm : Int) (bd : ByteArray) (w : World) (hn : nm.size ≤ maxLen) (hb : bd.size ≤ maxLen) :
    Calls Tryz.prog 105 #[.agg #[.string nm, .int .i64 tm, .string bd]] w fun e w' => e = .returned (.bool (itemB nm tm bd)) ∧ Below w.heap.size w w' := by
  have HB : Hid (Below w.heap.size w (w.alloc (.cells #[.string nm, .int .i64 tm, .string bd] 108))) := Lib.hid ((Below.refl _ _).alloc (Nat.le_refl _) _)
  have HT := Lib.hid hn
  unfold maxLen at hb
  clear hn
  cases hw : wordB nm
  · have HF : Hid (false = itemB nm tm bd) := Lib.hid (by unfold itemB; rw [hw]; rfl)
    go_enter Tryz.func105, Tryz.ntmps105
    go_wp2_with (first | (go_at_call 106; refine (specWord_any _ _ HT.out).mono ?_; rintro e w1 ⟨rfl, rfl⟩; rw [hw]))
    go_ret
    exact ⟨ret_bool HF.out, HB.out⟩
  · cases ht : decide (1 ≤ tm ∧ tm ≤ 5)
    · have HF : Hid (false = itemB nm tm bd) := Lib.hid (by unfold itemB; rw [ht, Bool.and_false]; rfl)
      go_enter Tryz.func105, Tryz.ntmps105
      go_wp2_with (first | (go_at_call 106; refine (specWord_any _ _ HT.out).mono ?_; rintro e w1 ⟨rfl, rfl⟩; rw [hw]) | (go_at_call 43; refine (l02IsOk_any _ _ _ _).mono ?_; rintro e w1 ⟨rfl, rfl⟩; rw [ht]))
      go_ret
      exact ⟨ret_bool HF.out, HB.out⟩
    · have HF : Hid (decide (1 ≤ bd.size ∧ bd.size ≤ 20) = itemB nm tm bd) := Lib.hid (by unfold itemB; rw [hw, ht]; rfl)
      by_cases h1 : 1 ≤ bd.size
      · by_cases h2 : bd.size ≤ 20
        · go_enter Tryz.func105, Tryz.ntmps105
          go_wp2_with (first | (go_at_call 106; refine (specWord_any _ _ HT.out).mono ?_; rintro e w1 ⟨rfl, rfl⟩; rw [hw]) | (go_at_call 43; refine (l02IsOk_any _ _ _ _).mono ?_; rintro e w1 ⟨rfl, rfl⟩; rw [ht]))
          go_ret
          exact ⟨ret_bool (by rw [← HF.out]; simp [h1, h2]; omega), HB.out⟩
        · go_enter Tryz.func105, Tryz.ntmps105
          go_wp2_with (first | (go_at_call 106; refine (specWord_any _ _ HT.out).mono ?_; rintro e w1 ⟨rfl, rfl⟩; rw [hw]) | (go_at_call 43; refine (l02IsOk_any _ _ _ _).mono ?_; rintro e w1 ⟨rfl, rfl⟩; rw [ht]))
          go_ret
          exact ⟨ret_bool (by rw [← HF.out]; simp [h1, h2]; omega), HB.out⟩
      · go_enter Tryz.func105, Tryz.ntmps105
        go_wp2_with (first | (go_at_call 106; refine (specWord_any _ _ HT.out).mono ?_; rintro e w1 ⟨rfl, rfl⟩; rw [hw]) | (go_at_call 43; refine (l02IsOk_any _ _ _ _).mono ?_; rintro e w1 ⟨rfl, rfl⟩; rw [ht]))
        go_ret
        exact ⟨ret_bool (by rw [← HF.out]; simp [h1]), HB.out⟩
end Go.Proofs.YtidcpdfhnhfelaaGreatDoor

