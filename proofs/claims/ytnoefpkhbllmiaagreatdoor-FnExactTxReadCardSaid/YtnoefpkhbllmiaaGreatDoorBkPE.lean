/- Texts put together. -/
import Derived.Lib.Hide
import Derived.PlainAid
import Derived.Test.YtnoefpkhbllmiaaGreatDoorBase
import Derived.Test.YtnoefpkhbllmiaaGreatDoorBookB
import Derived.Test.YtnoefpkhbllmiaaGreatDoorTillZ
namespace Go.Proofs.YtnoefpkhbllmiaaGreatDoor.M2
open Go.PlainAid
def smallB (c : Int) : Bool := decide (97 ≤ c) && decide (c ≤ 122)
def digB (c : Int) : Bool := decide (48 ≤ c) && decide (c ≤ 57)
def restB (c : Int) : Bool := smallB c || digB c || decide (c = 95)
def okAt (s : ByteArray) : Nat → Bool
  | 0 => smallB (bt s 0)
  | k + 1 => restB (bt s (k + 1))
def allTo (s : ByteArray) : Nat → Bool
  | 0 => true
  | k + 1 => allTo s k && okAt s k
def nameB (s : ByteArray) : Bool := decide (1 ≤ s.size) && decide (s.size ≤ 20) && allTo s s.size
theorem allTo_false {s : ByteArray} {k n : Nat} (h : k < n) (hk : okAt s k = false) : allTo s n = false := by
  induction n with
  | zero => omega
  | succ n ih =>
    rcases Nat.lt_succ_iff_lt_or_eq.1 h with h | rfl
    · simp [allTo, ih h]
    · simp [allTo, hk]
theorem nameB_short {s : ByteArray} (h : s.size < 1) : nameB s = false := by simp [nameB, show s.size = 0 by omega]
theorem nameB_long {s : ByteArray} (h : 20 < s.size) : nameB s = false := by simp [nameB, show ¬ s.size ≤ 20 by omega]
theorem nameB_yes {s : ByteArray} {k : Nat} (h1 : 1 ≤ s.size) (h2 : s.size ≤ 20) (h : k = s.size) (ha : allTo s k = true) : nameB s = true := by subst h; simp [nameB, h1, h2, ha]
theorem nameB_no {s : ByteArray} {k : Nat} (h : k < s.size) (hk : okAt s k = false) : nameB s = false := by simp [nameB, allTo_false h hk]
theorem allTo_succ {s : ByteArray} {k : Nat} (h : allTo s k = true) (h' : okAt s k = true) : allTo s (k + 1) = true := by simp [allTo, h, h']
def okP (k : Nat) (c : Int) : Prop := (97 ≤ c ∧ c ≤ 122) ∨ (k ≠ 0 ∧ ((48 ≤ c ∧ c ≤ 57) ∨ c = 95))
theorem okAt_iff {s : ByteArray} {k : Nat} : okAt s k = true ↔ okP k (bt s k) := by
  cases k with
  | zero => simp [okAt, okP, smallB]
  | succ k => simp [okAt, okP, restB, smallB, digB, or_assoc]
theorem okAt_true {s : ByteArray} {k : Nat} (hp : (97 ≤ bt s k ∧ bt s k ≤ 122) ∨ (k ≠ 0 ∧ ((48 ≤ bt s k ∧ bt s k ≤ 57) ∨ bt s k = 95))) : okAt s k = true := by
  rw [okAt_iff]; exact hp
theorem okAt_false {s : ByteArray} {k : Nat} (hp : ¬ ((97 ≤ bt s k ∧ bt s k ≤ 122) ∨ (k ≠ 0 ∧ ((48 ≤ bt s k ∧ bt s k ≤ 57) ∨ bt s k = 95)))) : okAt s k = false := by
  rw [Bool.eq_false_iff, Ne, okAt_iff]; exact hp
theorem smallB_true {c : Int} : smallB c = true ↔ 97 ≤ c ∧ c ≤ 122 := by simp [smallB]
theorem digB_true {c : Int} : digB c = true ↔ 48 ≤ c ∧ c ≤ 57 := by simp [digB]
theorem smallB_false {c : Int} : smallB c = false ↔ ¬ (97 ≤ c ∧ c ≤ 122) := by rw [← smallB_true]; simp
theorem digB_false {c : Int} : digB c = false ↔ ¬ (48 ≤ c ∧ c ≤ 57) := by rw [← digB_true]; simp
end Go.Proofs.YtnoefpkhbllmiaaGreatDoor.M2
namespace Go.Proofs.YtnoefpkhbllmiaaGreatDoor
open Go.RowKit M2 G
set_option linter.unusedVariables false
theorem isSmall_any (c : Int) (w : World) :
    Calls Tryz.prog 156 #[.int .u8 c] w fun e w' => e = .returned (.bool (smallB c)) ∧ w = w' := by
  unfold smallB
  by_cases a : 97 ≤ c <;> by_cases b : c ≤ 122
  all_goals
    go_enter Tryz.func156, Tryz.ntmps156
    go_wp2
    go_ret
    exact ⟨by simp [a, b], rfl⟩
end Go.Proofs.YtnoefpkhbllmiaaGreatDoor
namespace Go.Proofs.YtnoefpkhbllmiaaGreatDoor
open Go.RowKit Go.PlainAid G M2
set_option linter.unusedVariables false
theorem implWordEq_any (t : ByteArray) (w : World) (ht : t.size ≤ maxLen) :
    Calls Tryz.prog 155 #[.string t] w fun e w' => e = .returned (.bool (wordB t)) ∧ w = w' := by
  unfold maxLen at ht
  by_cases h1 : t.size < 1
  · have HF : Hid (false = wordB t) := Lib.hid (by unfold wordB; rw [decide_eq_false (by omega)]; rfl)
    go_enter Tryz.func155, Tryz.ntmps155
    go_wp2
    go_ret
    exact ⟨ret_bool HF.out, rfl⟩
  · by_cases h2 : 8 < t.size
    · have HF : Hid (false = wordB t) := Lib.hid (by unfold wordB; rw [decide_eq_false (by omega)]; rfl)
      go_enter Tryz.func155, Tryz.ntmps155
      go_wp2
      go_ret
      exact ⟨ret_bool HF.out, rfl⟩
    · go_enter Tryz.func155, Tryz.ntmps155
      go_wp2_with fail
      go_loop [14] (fun i => ∃ k : Nat, k ≤ t.size ∧ i = .int .i64 k ∧ Hid (azTo t k = true)) (fun i => t.size - (intOf i).toNat)
      case atStart => exact ⟨0, Nat.zero_le _, rfl, Lib.hid (azTo_zero t)⟩
      case round =>
        obtain ⟨k, hk, rfl, HA⟩ := hrel
        by_cases hlt : k < t.size
        · have hb : ((t[k]'hlt).toNat : Int) = bt t k := by unfold bt; rw [dif_pos hlt]
          have hin : (k : Int) < (t.size : Int) := by omega
          cases hs : smallB (bt t k)
          · have HF := Lib.hid (wordB_no hlt (fun h => by unfold smallB at hs; simp at hs; omega)).symm
            go_wp2_with (go_at_call 156; refine (isSmall_any _ _).mono ?_; rintro e w1 ⟨rfl, rfl⟩; (try rw [hb]); rw [hs])
            go_ret
            exact ⟨ret_bool HF.out, rfl⟩
          · have h12 : 97 ≤ bt t k ∧ bt t k ≤ 122 := by unfold smallB at hs; simpa using hs
            have HS := Lib.hid (azTo_succ HA.out h12.1 h12.2)
            clear h12
            go_wp2_with (go_at_call 156; refine (isSmall_any _ _).mono ?_; rintro e w1 ⟨rfl, rfl⟩; (try rw [hb]); rw [hs])
            go_round
            case rel => exact ⟨k + 1, by omega, by go_num, HS⟩
            case measure => simp [intOf]; omega
        · obtain rfl : k = t.size := by omega
          have HF : Hid (true = wordB t) := Lib.hid (by rw [wordB_at HA.out]; exact (decide_eq_true (by omega)).symm)
          go_wp2_with fail
          go_ret
          exact ⟨ret_bool HF.out, rfl⟩
theorem implWord_any (t : ByteArray) (w : World) (ht : t.size ≤ maxLen) :
    Calls Tryz.prog 155 #[.string t] w fun e w' => e = .returned (.bool (wordB t)) ∧ Below w.heap.size w w' := by
  refine (implWordEq_any t w ht).mono ?_
  rintro e w1 ⟨rfl, rfl⟩
  exact ⟨rfl, Below.refl _ _⟩
def many2B (n m : Int) : Bool := decide (1 ≤ n ∧ n ≤ 10) && decide (n ≤ m ∧ m ≤ 20)
theorem needOk_any (n : Int) (w : World) :
    Calls Tryz.prog 140 #[.int .i64 n] w fun e w' => e = .returned (.bool (decide (1 ≤ n ∧ n ≤ 10))) ∧ w = w' := by
  by_cases h1 : 1 ≤ n
  · by_cases h2 : n ≤ 10
    · go_enter Tryz.func140, Tryz.ntmps140
      go_wp2
      go_ret
      exact ⟨by simp <;> omega, rfl⟩
    · go_enter Tryz.func140, Tryz.ntmps140
      go_wp2
      go_ret
      exact ⟨by simp <;> omega, rfl⟩
  · go_enter Tryz.func140, Tryz.ntmps140
    go_wp2
    go_ret
    exact ⟨by simp <;> omega, rfl⟩
theorem manyOk_any (n m : Int) (w : World) :
    Calls Tryz.prog 139 #[.int .i64 n, .int .i64 m] w fun e w' => e = .returned (.bool (many2B n m)) ∧ w = w' := by
  cases hn : decide (1 ≤ n ∧ n ≤ 10)
  · have HF : Hid (false = many2B n m) := Lib.hid (by unfold many2B; rw [hn]; rfl)
    go_enter Tryz.func139, Tryz.ntmps139
    go_wp2_with fail
    refine (needOk_any n _).mono ?_
    rintro e w1 ⟨rfl, rfl⟩
    rw [hn]
    go_wp2_with fail
    go_ret
    exact ⟨ret_bool HF.out, rfl⟩
  · have HF : Hid (decide (n ≤ m ∧ m ≤ 20) = many2B n m) := Lib.hid (by unfold many2B; rw [hn]; rfl)
    by_cases h1 : n ≤ m
    · by_cases h2 : m ≤ 20
      · go_enter Tryz.func139, Tryz.ntmps139
        go_wp2_with fail
        refine (needOk_any n _).mono ?_
        rintro e w1 ⟨rfl, rfl⟩
        rw [hn]
        go_wp2_with fail
        go_ret
        exact ⟨ret_bool (by rw [← HF.out]; simp <;> omega), rfl⟩
      · go_enter Tryz.func139, Tryz.ntmps139
        go_wp2_with fail
        refine (needOk_any n _).mono ?_
        rintro e w1 ⟨rfl, rfl⟩
        rw [hn]
        go_wp2_with fail
        go_ret
        exact ⟨ret_bool (by rw [← HF.out]; simp <;> omega), rfl⟩
    · go_enter Tryz.func139, Tryz.ntmps139
      go_wp2_with fail
      refine (needOk_any n _).mono ?_
      rintro e w1 ⟨rfl, rfl⟩
      rw [hn]
      go_wp2_with fail
      go_ret
      exact ⟨ret_bool (by rw [← HF.out]; simp <;> omega), rfl⟩
set_option maxRecDepth 100000 in
theorem implConf_any (g n m c : Int) (w : World)  :
    Calls Tryz.prog 138 #[.agg #[.int .i64 g, .int .i64 n, .int .i64 m, .int .i64 c]] w fun e w' => e = .returned (.bool (confB g n m c)) ∧ Below w.heap.size w w' := by
  have HB : Hid (Below w.heap.size w (w.alloc (.cells #[.int .i64 g, .int .i64 n, .int .i64 m, .int .i64 c] 28))) := Lib.hid ((Below.refl _ _).alloc (Nat.le_refl _) _)
  by_cases h1 : 1 ≤ g
  · skip
    by_cases h2 : g ≤ 999
    · skip
      cases hm : many2B n m
      · skip
        have HF : Hid (false = confB g n m c) := Lib.hid (by unfold confB nums3B; unfold many2B at hm; rw [Bool.and_assoc (decide (1 ≤ g ∧ g ≤ 999)), hm, Bool.and_false, Bool.false_and])
        go_enter Tryz.func138, Tryz.ntmps138
        go_wp2_with (go_at_call 139; refine (manyOk_any n m _).mono ?_; rintro e w1 ⟨rfl, rfl⟩; rw [hm])
        go_ret
        exact ⟨ret_bool (by first | exact HF.out | (rw [← HF.out]; simp <;> omega)), HB.out⟩
      · skip
        by_cases h3 : 0 ≤ c
        · skip
          by_cases h4 : c ≤ 4294967295
          · skip
            have HF : Hid (true = confB g n m c) := Lib.hid (by unfold confB nums3B; unfold many2B at hm; rw [Bool.and_assoc (decide (1 ≤ g ∧ g ≤ 999)), hm, decide_eq_true ⟨h1, h2⟩, decide_eq_true ⟨h3, h4⟩]; rfl)
            go_enter Tryz.func138, Tryz.ntmps138
            go_wp2_with (go_at_call 139; refine (manyOk_any n m _).mono ?_; rintro e w1 ⟨rfl, rfl⟩; rw [hm])
            go_ret
            exact ⟨ret_bool (by first | exact HF.out | (rw [← HF.out]; simp <;> omega)), HB.out⟩
          · skip
            have HF : Hid (false = confB g n m c) := Lib.hid (by unfold confB; rw [decide_eq_false (p := 0 ≤ c ∧ c ≤ 4294967295) (by omega), Bool.and_false])
            go_enter Tryz.func138, Tryz.ntmps138
            go_wp2_with (go_at_call 139; refine (manyOk_any n m _).mono ?_; rintro e w1 ⟨rfl, rfl⟩; rw [hm])
            go_ret
            exact ⟨ret_bool (by first | exact HF.out | (rw [← HF.out]; simp <;> omega)), HB.out⟩
        · skip
          have HF : Hid (false = confB g n m c) := Lib.hid (by unfold confB; rw [decide_eq_false (p := 0 ≤ c ∧ c ≤ 4294967295) (by omega), Bool.and_false])
          go_enter Tryz.func138, Tryz.ntmps138
          go_wp2_with (go_at_call 139; refine (manyOk_any n m _).mono ?_; rintro e w1 ⟨rfl, rfl⟩; rw [hm])
          go_ret
          exact ⟨ret_bool (by first | exact HF.out | (rw [← HF.out]; simp <;> omega)), HB.out⟩
    · skip
      have HF : Hid (false = confB g n m c) := Lib.hid (by unfold confB nums3B; rw [decide_eq_false (p := 1 ≤ g ∧ g ≤ 999) (by omega)]; simp only [Bool.false_and])
      go_enter Tryz.func138, Tryz.ntmps138
      go_wp2_with (go_at_call 139; refine (manyOk_any n m _).mono ?_; rintro e w1 ⟨rfl, rfl⟩; rw [hm])
      go_ret
      exact ⟨ret_bool (by first | exact HF.out | (rw [← HF.out]; simp <;> omega)), HB.out⟩
  · skip
    have HF : Hid (false = confB g n m c) := Lib.hid (by unfold confB nums3B; rw [decide_eq_false (p := 1 ≤ g ∧ g ≤ 999) (by omega)]; simp only [Bool.false_and])
    go_enter Tryz.func138, Tryz.ntmps138
    go_wp2_with (go_at_call 139; refine (manyOk_any n m _).mono ?_; rintro e w1 ⟨rfl, rfl⟩; rw [hm])
    go_ret
    exact ⟨ret_bool (by first | exact HF.out | (rw [← HF.out]; simp <;> omega)), HB.out⟩
set_option maxRecDepth 100000 in
theorem implTerm_any (no : Int) (lk : ByteArray) (w : World) (ht : lk.size ≤ maxLen) :
    Calls Tryz.prog 148 #[.agg #[.int .i64 no, .string lk]] w fun e w' => e = .returned (.bool (termB no lk)) ∧ Below w.heap.size w w' := by
  have HB : Hid (Below w.heap.size w (w.alloc (.cells #[.int .i64 no, .string lk] 67))) := Lib.hid ((Below.refl _ _).alloc (Nat.le_refl _) _)
  have HT := Lib.hid ht
  clear ht
  by_cases h1 : 1 ≤ no
  · skip
    by_cases h2 : no ≤ 5
    · skip
      cases hs : secR lk
      · skip
        have HF : Hid (false = termB no lk) := Lib.hid (by unfold termB; rw [hs, Bool.and_false])
        go_enter Tryz.func148, Tryz.ntmps148
        go_wp2_with (go_at_call 149; refine (secretOk_any lk _ HT.out).mono ?_; rintro e w1 ⟨rfl, rfl⟩; rw [hs])
        go_ret
        exact ⟨ret_bool (by first | exact HF.out | (rw [← HF.out]; simp <;> omega)), HB.out⟩
      · skip
        have HF : Hid (true = termB no lk) := Lib.hid (by unfold termB; rw [hs, decide_eq_true ⟨h1, h2⟩]; rfl)
        go_enter Tryz.func148, Tryz.ntmps148
        go_wp2_with (go_at_call 149; refine (secretOk_any lk _ HT.out).mono ?_; rintro e w1 ⟨rfl, rfl⟩; rw [hs])
        go_ret
        exact ⟨ret_bool (by first | exact HF.out | (rw [← HF.out]; simp <;> omega)), HB.out⟩
    · skip
      have HF : Hid (false = termB no lk) := Lib.hid (by unfold termB; rw [decide_eq_false (p := 1 ≤ no ∧ no ≤ 5) (by omega), Bool.false_and])
      go_enter Tryz.func148, Tryz.ntmps148
      go_wp2_with (go_at_call 149; refine (secretOk_any lk _ HT.out).mono ?_; rintro e w1 ⟨rfl, rfl⟩; rw [hs])
      go_ret
      exact ⟨ret_bool (by first | exact HF.out | (rw [← HF.out]; simp <;> omega)), HB.out⟩
  · skip
    have HF : Hid (false = termB no lk) := Lib.hid (by unfold termB; rw [decide_eq_false (p := 1 ≤ no ∧ no ≤ 5) (by omega), Bool.false_and])
    go_enter Tryz.func148, Tryz.ntmps148
    go_wp2_with (go_at_call 149; refine (secretOk_any lk _ HT.out).mono ?_; rintro e w1 ⟨rfl, rfl⟩; rw [hs])
    go_ret
    exact ⟨ret_bool (by first | exact HF.out | (rw [← HF.out]; simp <;> omega)), HB.out⟩
set_option maxRecDepth 100000 in
theorem implItem_any (nm : ByteArray) (tm : Int) (bd : ByteArray) (w : World) (hn : nm.size ≤ maxLen) (hb : bd.size ≤ maxLen) :
    Calls Tryz.prog 154 #[.agg #[.string nm, .int .i64 tm, .string bd]] w fun e w' => e = .returned (.bool (itemB nm tm bd)) ∧ Below w.heap.size w w' := by
  have HB : Hid (Below w.heap.size w (w.alloc (.cells #[.string nm, .int .i64 tm, .string bd] 69))) := Lib.hid ((Below.refl _ _).alloc (Nat.le_refl _) _)
  have HT := Lib.hid hn
  unfold maxLen at hb
  clear hn
  cases hw : wordB nm
  · skip
    have HF : Hid (false = itemB nm tm bd) := Lib.hid (by unfold itemB; rw [hw]; rfl)
    go_enter Tryz.func154, Tryz.ntmps154
    go_wp2_with (go_at_call 155; refine (implWordEq_any nm _ HT.out).mono ?_; rintro e w1 ⟨rfl, rfl⟩; rw [hw])
    go_ret
    exact ⟨ret_bool (by first | exact HF.out | (rw [← HF.out]; simp <;> omega)), HB.out⟩
  · skip
    by_cases h1 : 1 ≤ tm
    · skip
      by_cases h2 : tm ≤ 5
      · skip
        by_cases h3 : 1 ≤ bd.size
        · skip
          by_cases h4 : bd.size ≤ 20
          · skip
            have HF : Hid (true = itemB nm tm bd) := Lib.hid (by unfold itemB; rw [hw, decide_eq_true ⟨h1, h2⟩, decide_eq_true ⟨h3, h4⟩]; rfl)
            go_enter Tryz.func154, Tryz.ntmps154
            go_wp2_with (go_at_call 155; refine (implWordEq_any nm _ HT.out).mono ?_; rintro e w1 ⟨rfl, rfl⟩; rw [hw])
            go_ret
            exact ⟨ret_bool (by first | exact HF.out | (rw [← HF.out]; simp <;> omega)), HB.out⟩
          · skip
            have HF : Hid (false = itemB nm tm bd) := Lib.hid (by unfold itemB; rw [decide_eq_false (p := 1 ≤ bd.size ∧ bd.size ≤ 20) (by omega), Bool.and_false])
            go_enter Tryz.func154, Tryz.ntmps154
            go_wp2_with (go_at_call 155; refine (implWordEq_any nm _ HT.out).mono ?_; rintro e w1 ⟨rfl, rfl⟩; rw [hw])
            go_ret
            exact ⟨ret_bool (by first | exact HF.out | (rw [← HF.out]; simp <;> omega)), HB.out⟩
        · skip
          have HF : Hid (false = itemB nm tm bd) := Lib.hid (by unfold itemB; rw [decide_eq_false (p := 1 ≤ bd.size ∧ bd.size ≤ 20) (by omega), Bool.and_false])
          go_enter Tryz.func154, Tryz.ntmps154
          go_wp2_with (go_at_call 155; refine (implWordEq_any nm _ HT.out).mono ?_; rintro e w1 ⟨rfl, rfl⟩; rw [hw])
          go_ret
          exact ⟨ret_bool (by first | exact HF.out | (rw [← HF.out]; simp <;> omega)), HB.out⟩
      · skip
        have HF : Hid (false = itemB nm tm bd) := Lib.hid (by unfold itemB; rw [decide_eq_false (p := 1 ≤ tm ∧ tm ≤ 5) (by omega), Bool.and_false, Bool.false_and])
        go_enter Tryz.func154, Tryz.ntmps154
        go_wp2_with (go_at_call 155; refine (implWordEq_any nm _ HT.out).mono ?_; rintro e w1 ⟨rfl, rfl⟩; rw [hw])
        go_ret
        exact ⟨ret_bool (by first | exact HF.out | (rw [← HF.out]; simp <;> omega)), HB.out⟩
    · skip
      have HF : Hid (false = itemB nm tm bd) := Lib.hid (by unfold itemB; rw [decide_eq_false (p := 1 ≤ tm ∧ tm ≤ 5) (by omega), Bool.and_false, Bool.false_and])
      go_enter Tryz.func154, Tryz.ntmps154
      go_wp2_with (go_at_call 155; refine (implWordEq_any nm _ HT.out).mono ?_; rintro e w1 ⟨rfl, rfl⟩; rw [hw])
      go_ret
      exact ⟨ret_bool (by first | exact HF.out | (rw [← HF.out]; simp <;> omega)), HB.out⟩
end Go.Proofs.YtnoefpkhbllmiaaGreatDoor
namespace Go.Proofs.YtnoefpkhbllmiaaGreatDoor
open Go.RowKit Go.PlainAid G
set_option linter.unusedVariables false
set_option maxRecDepth 100000 in
theorem deedOf1_any (q0 q1 q2 q3 q4 q5 : Int) (q6 q7 : ByteArray) (q8 : Int) (q9 : ByteArray) (h : q0 = 1) (w : World) :
    Calls Tryz.prog 72 #[.agg #[.int .i64 q0, .int .i64 q1, .int .i64 q2, .int .i64 q3, .int .i64 q4, .int .i64 q5, .string q6, .string q7, .int .i64 q8, .string q9]] w fun e w' => e = .returned (.iface 122 (.agg #[.int .i64 q1, .int .i64 q2, .int .i64 q3, .int .i64 q4])) ∧ Below w.heap.size w w' := by
  subst h
  have HB : Hid (Below w.heap.size w (w.alloc (.cells #[.int .i64 1, .int .i64 q1, .int .i64 q2, .int .i64 q3, .int .i64 q4, .int .i64 q5, .string q6, .string q7, .int .i64 q8, .string q9] 71))) := Lib.hid ((Below.refl _ _).alloc (Nat.le_refl _) _)
  go_enter Tryz.func72, Tryz.ntmps72
  go_wp2_with fail
  go_ret
  exact ⟨rfl, HB.out⟩
set_option maxRecDepth 100000 in
theorem deedOf2_any (q0 q1 q2 q3 q4 q5 : Int) (q6 q7 : ByteArray) (q8 : Int) (q9 : ByteArray) (h : q0 = 2) (w : World) :
    Calls Tryz.prog 72 #[.agg #[.int .i64 q0, .int .i64 q1, .int .i64 q2, .int .i64 q3, .int .i64 q4, .int .i64 q5, .string q6, .string q7, .int .i64 q8, .string q9]] w fun e w' => e = .returned (.iface 145 (.agg #[.int .i64 q5, .string q6])) ∧ Below w.heap.size w w' := by
  subst h
  have HB : Hid (Below w.heap.size w (w.alloc (.cells #[.int .i64 2, .int .i64 q1, .int .i64 q2, .int .i64 q3, .int .i64 q4, .int .i64 q5, .string q6, .string q7, .int .i64 q8, .string q9] 71))) := Lib.hid ((Below.refl _ _).alloc (Nat.le_refl _) _)
  go_enter Tryz.func72, Tryz.ntmps72
  go_wp2_with fail
  go_ret
  exact ⟨rfl, HB.out⟩
set_option maxRecDepth 100000 in
theorem deedOf3_any (q0 q1 q2 q3 q4 q5 : Int) (q6 q7 : ByteArray) (q8 : Int) (q9 : ByteArray) (h : q0 = 3) (w : World) :
    Calls Tryz.prog 72 #[.agg #[.int .i64 q0, .int .i64 q1, .int .i64 q2, .int .i64 q3, .int .i64 q4, .int .i64 q5, .string q6, .string q7, .int .i64 q8, .string q9]] w fun e w' => e = .returned (.iface 146 (.agg #[.string q7, .int .i64 q8, .string q9])) ∧ Below w.heap.size w w' := by
  subst h
  have HB : Hid (Below w.heap.size w (w.alloc (.cells #[.int .i64 3, .int .i64 q1, .int .i64 q2, .int .i64 q3, .int .i64 q4, .int .i64 q5, .string q6, .string q7, .int .i64 q8, .string q9] 71))) := Lib.hid ((Below.refl _ _).alloc (Nat.le_refl _) _)
  go_enter Tryz.func72, Tryz.ntmps72
  go_wp2_with fail
  go_ret
  exact ⟨rfl, HB.out⟩
set_option maxRecDepth 100000 in
theorem deedOf4_any (q0 q1 q2 q3 q4 q5 : Int) (q6 q7 : ByteArray) (q8 : Int) (q9 : ByteArray) (h : q0 = 4) (w : World) :
    Calls Tryz.prog 72 #[.agg #[.int .i64 q0, .int .i64 q1, .int .i64 q2, .int .i64 q3, .int .i64 q4, .int .i64 q5, .string q6, .string q7, .int .i64 q8, .string q9]] w fun e w' => e = .returned (.iface 147 (.string q7)) ∧ Below w.heap.size w w' := by
  subst h
  have HB : Hid (Below w.heap.size w (w.alloc (.cells #[.int .i64 4, .int .i64 q1, .int .i64 q2, .int .i64 q3, .int .i64 q4, .int .i64 q5, .string q6, .string q7, .int .i64 q8, .string q9] 71))) := Lib.hid ((Below.refl _ _).alloc (Nat.le_refl _) _)
  go_enter Tryz.func72, Tryz.ntmps72
  go_wp2_with fail
  go_ret
  exact ⟨rfl, HB.out⟩
set_option maxRecDepth 100000 in
theorem deedOf0_any (q0 q1 q2 q3 q4 q5 : Int) (q6 q7 : ByteArray) (q8 : Int) (q9 : ByteArray) (h1 : ¬ q0 = 1) (h2 : ¬ q0 = 2) (h3 : ¬ q0 = 3) (h4 : ¬ q0 = 4) (w : World) :
    Calls Tryz.prog 72 #[.agg #[.int .i64 q0, .int .i64 q1, .int .i64 q2, .int .i64 q3, .int .i64 q4, .int .i64 q5, .string q6, .string q7, .int .i64 q8, .string q9]] w fun e w' => e = .returned .nilIface ∧ Below w.heap.size w w' := by
  have HB : Hid (Below w.heap.size w (w.alloc (.cells #[.int .i64 q0, .int .i64 q1, .int .i64 q2, .int .i64 q3, .int .i64 q4, .int .i64 q5, .string q6, .string q7, .int .i64 q8, .string q9] 71))) := Lib.hid ((Below.refl _ _).alloc (Nat.le_refl _) _)
  go_enter Tryz.func72, Tryz.ntmps72
  go_wp2_with fail
  go_ret
  exact ⟨rfl, HB.out⟩
set_option maxRecDepth 100000 in
theorem right1_any (q1 q2 q3 q4 : Int) (w : World)  :
    Calls Tryz.prog 136 #[.agg #[.int .i64 q1, .int .i64 q2, .int .i64 q3, .int .i64 q4]] w fun e w' => e = .returned (.bool (confB q1 q2 q3 q4)) ∧ Below w.heap.size w w' := by
  have HB : Hid (Below w.heap.size w (w.alloc (.cells #[.int .i64 q1, .int .i64 q2, .int .i64 q3, .int .i64 q4] 122))) := Lib.hid ((Below.refl _ _).alloc (Nat.le_refl _) _)
  go_enter Tryz.func136, Tryz.ntmps136
  go_wp2_with fail
  refine (implConf_any q1 q2 q3 q4 _).mono ?_
  rintro e w1 ⟨rfl, hb⟩
  have HB1 := Lib.hid (HB.out.trans (hb.mono HB.out.size))
  clear hb
  go_wp2_with fail
  go_ret
  exact ⟨rfl, HB1.out⟩
set_option maxRecDepth 100000 in
theorem whole1_any (q1 q2 q3 q4 : Int) (w : World) :
    Calls Tryz.prog 137 #[.agg #[.int .i64 q1, .int .i64 q2, .int .i64 q3, .int .i64 q4]] w fun e w' => e = .returned (.agg #[.int .i64 1, .int .i64 q1, .int .i64 q2, .int .i64 q3, .int .i64 q4, .int .i64 0, .string ⟨#[]⟩, .string ⟨#[]⟩, .int .i64 0, .string ⟨#[]⟩]) ∧ Below w.heap.size w w' := by
  have HB : Hid (Below w.heap.size w (w.alloc (.cells #[.int .i64 q1, .int .i64 q2, .int .i64 q3, .int .i64 q4] 122))) := Lib.hid ((Below.refl _ _).alloc (Nat.le_refl _) _)
  go_enter Tryz.func137, Tryz.ntmps137
  go_wp2_with fail
  exact bodyPost_ret (v := .agg #[.int .i64 1, .int .i64 q1, .int .i64 q2, .int .i64 q3, .int .i64 q4, .int .i64 0, .string ⟨#[]⟩, .string ⟨#[]⟩, .int .i64 0, .string ⟨#[]⟩]) (by simp [results, Tryz.results137, go_sem]) rfl ⟨rfl, by repeat' (first | exact Below.refl _ _ | refine Below.alloc ?_ (by first | exact Nat.le_refl _ | (simp; done) | (simp; omega)) _)⟩
set_option maxRecDepth 100000 in
theorem right2_any (q5 : Int) (q6 : ByteArray) (w : World) (h6 : q6.size ≤ maxLen) :
    Calls Tryz.prog 146 #[.agg #[.int .i64 q5, .string q6]] w fun e w' => e = .returned (.bool (termB q5 q6)) ∧ Below w.heap.size w w' := by
  have H6 := Lib.hid h6
  have HB : Hid (Below w.heap.size w (w.alloc (.cells #[.int .i64 q5, .string q6] 145))) := Lib.hid ((Below.refl _ _).alloc (Nat.le_refl _) _)
  go_enter Tryz.func146, Tryz.ntmps146
  go_wp2_with fail
  refine (implTerm_any q5 q6 _ H6.out).mono ?_
  rintro e w1 ⟨rfl, hb⟩
  have HB1 := Lib.hid (HB.out.trans (hb.mono HB.out.size))
  clear hb
  go_wp2_with fail
  go_ret
  exact ⟨rfl, HB1.out⟩
set_option maxRecDepth 100000 in
theorem whole2_any (q5 : Int) (q6 : ByteArray) (w : World) :
    Calls Tryz.prog 147 #[.agg #[.int .i64 q5, .string q6]] w fun e w' => e = .returned (.agg #[.int .i64 2, .int .i64 0, .int .i64 0, .int .i64 0, .int .i64 0, .int .i64 q5, .string q6, .string ⟨#[]⟩, .int .i64 0, .string ⟨#[]⟩]) ∧ Below w.heap.size w w' := by
  have HB : Hid (Below w.heap.size w (w.alloc (.cells #[.int .i64 q5, .string q6] 145))) := Lib.hid ((Below.refl _ _).alloc (Nat.le_refl _) _)
  go_enter Tryz.func147, Tryz.ntmps147
  go_wp2_with fail
  exact bodyPost_ret (v := .agg #[.int .i64 2, .int .i64 0, .int .i64 0, .int .i64 0, .int .i64 0, .int .i64 q5, .string q6, .string ⟨#[]⟩, .int .i64 0, .string ⟨#[]⟩]) (by simp [results, Tryz.results147, go_sem]) rfl ⟨rfl, by repeat' (first | exact Below.refl _ _ | refine Below.alloc ?_ (by first | exact Nat.le_refl _ | (simp; done) | (simp; omega)) _)⟩
set_option maxRecDepth 100000 in
theorem right3_any (q7 : ByteArray) (q8 : Int) (q9 : ByteArray) (w : World) (h7 : q7.size ≤ maxLen) (h9 : q9.size ≤ maxLen) :
    Calls Tryz.prog 152 #[.agg #[.string q7, .int .i64 q8, .string q9]] w fun e w' => e = .returned (.bool (itemB q7 q8 q9)) ∧ Below w.heap.size w w' := by
  have H7 := Lib.hid h7
  have H9 := Lib.hid h9
  have HB : Hid (Below w.heap.size w (w.alloc (.cells #[.string q7, .int .i64 q8, .string q9] 146))) := Lib.hid ((Below.refl _ _).alloc (Nat.le_refl _) _)
  go_enter Tryz.func152, Tryz.ntmps152
  go_wp2_with fail
  refine (implItem_any q7 q8 q9 _ H7.out H9.out).mono ?_
  rintro e w1 ⟨rfl, hb⟩
  have HB1 := Lib.hid (HB.out.trans (hb.mono HB.out.size))
  clear hb
  go_wp2_with fail
  go_ret
  exact ⟨rfl, HB1.out⟩
set_option maxRecDepth 100000 in
theorem whole3_any (q7 : ByteArray) (q8 : Int) (q9 : ByteArray) (w : World) :
    Calls Tryz.prog 153 #[.agg #[.string q7, .int .i64 q8, .string q9]] w fun e w' => e = .returned (.agg #[.int .i64 3, .int .i64 0, .int .i64 0, .int .i64 0, .int .i64 0, .int .i64 0, .string ⟨#[]⟩, .string q7, .int .i64 q8, .string q9]) ∧ Below w.heap.size w w' := by
  have HB : Hid (Below w.heap.size w (w.alloc (.cells #[.string q7, .int .i64 q8, .string q9] 146))) := Lib.hid ((Below.refl _ _).alloc (Nat.le_refl _) _)
  go_enter Tryz.func153, Tryz.ntmps153
  go_wp2_with fail
  exact bodyPost_ret (v := .agg #[.int .i64 3, .int .i64 0, .int .i64 0, .int .i64 0, .int .i64 0, .int .i64 0, .string ⟨#[]⟩, .string q7, .int .i64 q8, .string q9]) (by simp [results, Tryz.results153, go_sem]) rfl ⟨rfl, by repeat' (first | exact Below.refl _ _ | refine Below.alloc ?_ (by first | exact Nat.le_refl _ | (simp; done) | (simp; omega)) _)⟩
set_option maxRecDepth 100000 in
theorem right4_any (q7 : ByteArray) (w : World) (h7 : q7.size ≤ maxLen) :
    Calls Tryz.prog 159 #[.string q7] w fun e w' => e = .returned (.bool (wordB q7)) ∧ Below w.heap.size w w' := by
  have H7 := Lib.hid h7
  go_enter Tryz.func159, Tryz.ntmps159
  go_wp2_with fail
  refine (implWord_any q7 _ H7.out).mono ?_
  rintro e w1 ⟨rfl, hb⟩
  have HB1 := Lib.hid (hb)
  clear hb
  go_wp2_with fail
  go_ret
  exact ⟨rfl, HB1.out⟩
set_option maxRecDepth 100000 in
theorem whole4_any (q7 : ByteArray) (w : World) :
    Calls Tryz.prog 160 #[.string q7] w fun e w' => e = .returned (.agg #[.int .i64 4, .int .i64 0, .int .i64 0, .int .i64 0, .int .i64 0, .int .i64 0, .string ⟨#[]⟩, .string q7, .int .i64 0, .string ⟨#[]⟩]) ∧ Below w.heap.size w w' := by
  go_enter Tryz.func160, Tryz.ntmps160
  go_wp2_with fail
  exact bodyPost_ret (v := .agg #[.int .i64 4, .int .i64 0, .int .i64 0, .int .i64 0, .int .i64 0, .int .i64 0, .string ⟨#[]⟩, .string q7, .int .i64 0, .string ⟨#[]⟩]) (by simp [results, Tryz.results160, go_sem]) rfl ⟨rfl, by repeat' (first | exact Below.refl _ _ | refine Below.alloc ?_ (by first | exact Nat.le_refl _ | (simp; done) | (simp; omega)) _)⟩
theorem eql_deed1 (q1 q2 q3 q4 q5 : Int) (q6 q7 : ByteArray) (q8 : Int) (q9 : ByteArray) (W : World) :
    (binOp .eql 71 (.agg #[.int .i64 1, .int .i64 q1, .int .i64 q2, .int .i64 q3, .int .i64 q4, .int .i64 0, .string ⟨#[]⟩, .string ⟨#[]⟩, .int .i64 0, .string ⟨#[]⟩]) (.agg #[.int .i64 1, .int .i64 q1, .int .i64 q2, .int .i64 q3, .int .i64 q4, .int .i64 q5, .string q6, .string q7, .int .i64 q8, .string q9])).run Tryz.prog W = .ok (.bool (decide (q5 = 0 ∧ q6 = ⟨#[]⟩) && decide (q7 = ⟨#[]⟩ ∧ q8 = 0 ∧ q9 = ⟨#[]⟩))) W := by
  by_cases h : q5 = 0
  case neg => (have h2 : ¬ 0 = q5 := fun e => h e.symm; simp [go_sem, h, h2])
  subst h
  by_cases h : q6 = ⟨#[]⟩
  case neg => (have h2 := toList_ne h; have h3 : ¬ ([] : List UInt8) = q6.toList := fun e => h2 e.symm; have h4 : ¬ (⟨#[]⟩ : ByteArray) = q6 := fun e => h e.symm; simp [go_sem, h, h2, h3, h4])
  subst h
  by_cases h : q7 = ⟨#[]⟩
  case neg => (have h2 := toList_ne h; have h3 : ¬ ([] : List UInt8) = q7.toList := fun e => h2 e.symm; have h4 : ¬ (⟨#[]⟩ : ByteArray) = q7 := fun e => h e.symm; simp [go_sem, h, h2, h3, h4])
  subst h
  by_cases h : q8 = 0
  case neg => (have h2 : ¬ 0 = q8 := fun e => h e.symm; simp [go_sem, h, h2])
  subst h
  by_cases h : q9 = ⟨#[]⟩
  case neg => (have h2 := toList_ne h; have h3 : ¬ ([] : List UInt8) = q9.toList := fun e => h2 e.symm; have h4 : ¬ (⟨#[]⟩ : ByteArray) = q9 := fun e => h e.symm; simp [go_sem, h, h2, h3, h4])
  subst h
  simp [go_sem]
theorem eql_deed2 (q1 q2 q3 q4 q5 : Int) (q6 q7 : ByteArray) (q8 : Int) (q9 : ByteArray) (W : World) :
    (binOp .eql 71 (.agg #[.int .i64 2, .int .i64 0, .int .i64 0, .int .i64 0, .int .i64 0, .int .i64 q5, .string q6, .string ⟨#[]⟩, .int .i64 0, .string ⟨#[]⟩]) (.agg #[.int .i64 2, .int .i64 q1, .int .i64 q2, .int .i64 q3, .int .i64 q4, .int .i64 q5, .string q6, .string q7, .int .i64 q8, .string q9])).run Tryz.prog W = .ok (.bool (decide (q1 = 0 ∧ q2 = 0 ∧ q3 = 0 ∧ q4 = 0) && decide (q7 = ⟨#[]⟩ ∧ q8 = 0 ∧ q9 = ⟨#[]⟩))) W := by
  by_cases h : q1 = 0
  case neg => (have h2 : ¬ 0 = q1 := fun e => h e.symm; simp [go_sem, h, h2])
  subst h
  by_cases h : q2 = 0
  case neg => (have h2 : ¬ 0 = q2 := fun e => h e.symm; simp [go_sem, h, h2])
  subst h
  by_cases h : q3 = 0
  case neg => (have h2 : ¬ 0 = q3 := fun e => h e.symm; simp [go_sem, h, h2])
  subst h
  by_cases h : q4 = 0
  case neg => (have h2 : ¬ 0 = q4 := fun e => h e.symm; simp [go_sem, h, h2])
  subst h
  by_cases h : q7 = ⟨#[]⟩
  case neg => (have h2 := toList_ne h; have h3 : ¬ ([] : List UInt8) = q7.toList := fun e => h2 e.symm; have h4 : ¬ (⟨#[]⟩ : ByteArray) = q7 := fun e => h e.symm; simp [go_sem, h, h2, h3, h4])
  subst h
  by_cases h : q8 = 0
  case neg => (have h2 : ¬ 0 = q8 := fun e => h e.symm; simp [go_sem, h, h2])
  subst h
  by_cases h : q9 = ⟨#[]⟩
  case neg => (have h2 := toList_ne h; have h3 : ¬ ([] : List UInt8) = q9.toList := fun e => h2 e.symm; have h4 : ¬ (⟨#[]⟩ : ByteArray) = q9 := fun e => h e.symm; simp [go_sem, h, h2, h3, h4])
  subst h
  simp [go_sem]
theorem eql_deed3 (q1 q2 q3 q4 q5 : Int) (q6 q7 : ByteArray) (q8 : Int) (q9 : ByteArray) (W : World) :
    (binOp .eql 71 (.agg #[.int .i64 3, .int .i64 0, .int .i64 0, .int .i64 0, .int .i64 0, .int .i64 0, .string ⟨#[]⟩, .string q7, .int .i64 q8, .string q9]) (.agg #[.int .i64 3, .int .i64 q1, .int .i64 q2, .int .i64 q3, .int .i64 q4, .int .i64 q5, .string q6, .string q7, .int .i64 q8, .string q9])).run Tryz.prog W = .ok (.bool (decide (q1 = 0 ∧ q2 = 0 ∧ q3 = 0 ∧ q4 = 0) && decide (q5 = 0 ∧ q6 = ⟨#[]⟩))) W := by
  by_cases h : q1 = 0
  case neg => (have h2 : ¬ 0 = q1 := fun e => h e.symm; simp [go_sem, h, h2])
  subst h
  by_cases h : q2 = 0
  case neg => (have h2 : ¬ 0 = q2 := fun e => h e.symm; simp [go_sem, h, h2])
  subst h
  by_cases h : q3 = 0
  case neg => (have h2 : ¬ 0 = q3 := fun e => h e.symm; simp [go_sem, h, h2])
  subst h
  by_cases h : q4 = 0
  case neg => (have h2 : ¬ 0 = q4 := fun e => h e.symm; simp [go_sem, h, h2])
  subst h
  by_cases h : q5 = 0
  case neg => (have h2 : ¬ 0 = q5 := fun e => h e.symm; simp [go_sem, h, h2])
  subst h
  by_cases h : q6 = ⟨#[]⟩
  case neg => (have h2 := toList_ne h; have h3 : ¬ ([] : List UInt8) = q6.toList := fun e => h2 e.symm; have h4 : ¬ (⟨#[]⟩ : ByteArray) = q6 := fun e => h e.symm; simp [go_sem, h, h2, h3, h4])
  subst h
  simp [go_sem]
theorem eql_deed4 (q1 q2 q3 q4 q5 : Int) (q6 q7 : ByteArray) (q8 : Int) (q9 : ByteArray) (W : World) :
    (binOp .eql 71 (.agg #[.int .i64 4, .int .i64 0, .int .i64 0, .int .i64 0, .int .i64 0, .int .i64 0, .string ⟨#[]⟩, .string q7, .int .i64 0, .string ⟨#[]⟩]) (.agg #[.int .i64 4, .int .i64 q1, .int .i64 q2, .int .i64 q3, .int .i64 q4, .int .i64 q5, .string q6, .string q7, .int .i64 q8, .string q9])).run Tryz.prog W = .ok (.bool (decide (q1 = 0 ∧ q2 = 0 ∧ q3 = 0 ∧ q4 = 0) && decide (q5 = 0 ∧ q6 = ⟨#[]⟩) && decide (q8 = 0 ∧ q9 = ⟨#[]⟩))) W := by
  by_cases h : q1 = 0
  case neg => (have h2 : ¬ 0 = q1 := fun e => h e.symm; simp [go_sem, h, h2])
  subst h
  by_cases h : q2 = 0
  case neg => (have h2 : ¬ 0 = q2 := fun e => h e.symm; simp [go_sem, h, h2])
  subst h
  by_cases h : q3 = 0
  case neg => (have h2 : ¬ 0 = q3 := fun e => h e.symm; simp [go_sem, h, h2])
  subst h
  by_cases h : q4 = 0
  case neg => (have h2 : ¬ 0 = q4 := fun e => h e.symm; simp [go_sem, h, h2])
  subst h
  by_cases h : q5 = 0
  case neg => (have h2 : ¬ 0 = q5 := fun e => h e.symm; simp [go_sem, h, h2])
  subst h
  by_cases h : q6 = ⟨#[]⟩
  case neg => (have h2 := toList_ne h; have h3 : ¬ ([] : List UInt8) = q6.toList := fun e => h2 e.symm; have h4 : ¬ (⟨#[]⟩ : ByteArray) = q6 := fun e => h e.symm; simp [go_sem, h, h2, h3, h4])
  subst h
  by_cases h : q8 = 0
  case neg => (have h2 : ¬ 0 = q8 := fun e => h e.symm; simp [go_sem, h, h2])
  subst h
  by_cases h : q9 = ⟨#[]⟩
  case neg => (have h2 := toList_ne h; have h3 : ¬ ([] : List UInt8) = q9.toList := fun e => h2 e.symm; have h4 : ¬ (⟨#[]⟩ : ByteArray) = q9 := fun e => h e.symm; simp [go_sem, h, h2, h3, h4])
  subst h
  simp [go_sem]
end Go.Proofs.YtnoefpkhbllmiaaGreatDoor
namespace Go.Proofs.YtnoefpkhbllmiaaGreatDoor
open Go.RowKit Go.PlainAid G
set_option linter.unusedVariables false
theorem nil_right1 (a b c d : Int) (w : World) : (nilAhead 321 122 (.agg #[.int .i64 a, .int .i64 b, .int .i64 c, .int .i64 d]) "loop.example/g00839/impl.right").run Tryz.prog w = .ok (some false) w := by kernel_rfl
theorem met_right1 (a b c d : Int) (w : World) : (method 321 122 (.agg #[.int .i64 a, .int .i64 b, .int .i64 c, .int .i64 d]) "loop.example/g00839/impl.right").run Tryz.prog w = .ok (136, .agg #[.int .i64 a, .int .i64 b, .int .i64 c, .int .i64 d]) w := by kernel_rfl
theorem nil_whole1 (a b c d : Int) (w : World) : (nilAhead 321 122 (.agg #[.int .i64 a, .int .i64 b, .int .i64 c, .int .i64 d]) "loop.example/g00839/impl.whole").run Tryz.prog w = .ok (some false) w := by kernel_rfl
theorem met_whole1 (a b c d : Int) (w : World) : (method 321 122 (.agg #[.int .i64 a, .int .i64 b, .int .i64 c, .int .i64 d]) "loop.example/g00839/impl.whole").run Tryz.prog w = .ok (137, .agg #[.int .i64 a, .int .i64 b, .int .i64 c, .int .i64 d]) w := by kernel_rfl
theorem nil_bytes1 (a b c d : Int) (w : World) : (nilAhead 321 122 (.agg #[.int .i64 a, .int .i64 b, .int .i64 c, .int .i64 d]) "loop.example/g00839/impl.bytes").run Tryz.prog w = .ok (some false) w := by kernel_rfl
theorem nil_right2 (a : Int) (b : ByteArray) (w : World) : (nilAhead 321 145 (.agg #[.int .i64 a, .string b]) "loop.example/g00839/impl.right").run Tryz.prog w = .ok (some false) w := by kernel_rfl
theorem met_right2 (a : Int) (b : ByteArray) (w : World) : (method 321 145 (.agg #[.int .i64 a, .string b]) "loop.example/g00839/impl.right").run Tryz.prog w = .ok (146, .agg #[.int .i64 a, .string b]) w := by kernel_rfl
theorem nil_whole2 (a : Int) (b : ByteArray) (w : World) : (nilAhead 321 145 (.agg #[.int .i64 a, .string b]) "loop.example/g00839/impl.whole").run Tryz.prog w = .ok (some false) w := by kernel_rfl
theorem met_whole2 (a : Int) (b : ByteArray) (w : World) : (method 321 145 (.agg #[.int .i64 a, .string b]) "loop.example/g00839/impl.whole").run Tryz.prog w = .ok (147, .agg #[.int .i64 a, .string b]) w := by kernel_rfl
theorem nil_bytes2 (a : Int) (b : ByteArray) (w : World) : (nilAhead 321 145 (.agg #[.int .i64 a, .string b]) "loop.example/g00839/impl.bytes").run Tryz.prog w = .ok (some false) w := by kernel_rfl
theorem nil_right3 (a : ByteArray) (b : Int) (c : ByteArray) (w : World) : (nilAhead 321 146 (.agg #[.string a, .int .i64 b, .string c]) "loop.example/g00839/impl.right").run Tryz.prog w = .ok (some false) w := by kernel_rfl
theorem met_right3 (a : ByteArray) (b : Int) (c : ByteArray) (w : World) : (method 321 146 (.agg #[.string a, .int .i64 b, .string c]) "loop.example/g00839/impl.right").run Tryz.prog w = .ok (152, .agg #[.string a, .int .i64 b, .string c]) w := by kernel_rfl
theorem nil_whole3 (a : ByteArray) (b : Int) (c : ByteArray) (w : World) : (nilAhead 321 146 (.agg #[.string a, .int .i64 b, .string c]) "loop.example/g00839/impl.whole").run Tryz.prog w = .ok (some false) w := by kernel_rfl
theorem met_whole3 (a : ByteArray) (b : Int) (c : ByteArray) (w : World) : (method 321 146 (.agg #[.string a, .int .i64 b, .string c]) "loop.example/g00839/impl.whole").run Tryz.prog w = .ok (153, .agg #[.string a, .int .i64 b, .string c]) w := by kernel_rfl
theorem nil_bytes3 (a : ByteArray) (b : Int) (c : ByteArray) (w : World) : (nilAhead 321 146 (.agg #[.string a, .int .i64 b, .string c]) "loop.example/g00839/impl.bytes").run Tryz.prog w = .ok (some false) w := by kernel_rfl
theorem nil_right4 (a : ByteArray) (w : World) : (nilAhead 321 147 (.string a) "loop.example/g00839/impl.right").run Tryz.prog w = .ok (some false) w := by kernel_rfl
theorem met_right4 (a : ByteArray) (w : World) : (method 321 147 (.string a) "loop.example/g00839/impl.right").run Tryz.prog w = .ok (159, .string a) w := by kernel_rfl
theorem nil_whole4 (a : ByteArray) (w : World) : (nilAhead 321 147 (.string a) "loop.example/g00839/impl.whole").run Tryz.prog w = .ok (some false) w := by kernel_rfl
theorem met_whole4 (a : ByteArray) (w : World) : (method 321 147 (.string a) "loop.example/g00839/impl.whole").run Tryz.prog w = .ok (160, .string a) w := by kernel_rfl
theorem nil_bytes4 (a : ByteArray) (w : World) : (nilAhead 321 147 (.string a) "loop.example/g00839/impl.bytes").run Tryz.prog w = .ok (some false) w := by kernel_rfl
set_option maxRecDepth 100000 in
set_option maxHeartbeats 3200000 in
theorem implDeedRight_any (q0 q1 q2 q3 q4 q5 : Int) (q6 q7 : ByteArray) (q8 : Int) (q9 : ByteArray) (w : World) (h6 : q6.size ≤ maxLen) (h7 : q7.size ≤ maxLen) (h9 : q9.size ≤ maxLen) :
    Calls Tryz.prog 66 #[.agg #[.int .i64 q0, .int .i64 q1, .int .i64 q2, .int .i64 q3, .int .i64 q4, .int .i64 q5, .string q6, .string q7, .int .i64 q8, .string q9]] w fun e w' => e = .returned (.bool (deedB q0 q1 q2 q3 q4 q5 q6 q7 q8 q9)) ∧ Below w.heap.size w w' := by
  obtain ⟨W, hW⟩ : ∃ W, W = w.alloc (.cells #[.int .i64 q0, .int .i64 q1, .int .i64 q2, .int .i64 q3, .int .i64 q4, .int .i64 q5, .string q6, .string q7, .int .i64 q8, .string q9] 71) := ⟨_, rfl⟩
  have HB0 : Hid (Below w.heap.size w W) := Lib.hid (by rw [hW]; exact (Below.refl _ _).alloc (Nat.le_refl _) _)
  have HA : Hid (BoxC W (w.heap.size) [.int .i64 q0, .int .i64 q1, .int .i64 q2, .int .i64 q3, .int .i64 q4, .int .i64 q5, .string q6, .string q7, .int .i64 q8, .string q9]) := Lib.hid (by rw [hW]; exact BoxC.made _ _ _)
  have H6 := Lib.hid h6
  have H7 := Lib.hid h7
  have H9 := Lib.hid h9
  clear h6 h7 h9
  have hmx : Tryz.prog.follows .mixedOrders = true := by kernel_rfl
  by_cases k1 : q0 = 1
  · subst k1
    have HX : Hid (deedB 1 q1 q2 q3 q4 q5 q6 q7 q8 q9 = (confB q1 q2 q3 q4 && (decide (q5 = 0 ∧ q6 = ⟨#[]⟩) && decide (q7 = ⟨#[]⟩ ∧ q8 = 0 ∧ q9 = ⟨#[]⟩)))) := Lib.hid (by unfold deedB; simp [Bool.and_assoc, Bool.and_comm, Bool.and_left_comm])
    have hn := nil_right1 q1 q2 q3 q4
    have hm := met_right1 q1 q2 q3 q4
    have hn2 := nil_whole1 q1 q2 q3 q4
    have hm2 := met_whole1 q1 q2 q3 q4
    go_enter Tryz.func66, Tryz.ntmps66
    go_wp2_with fail
    rw [← hW]
    clear hW
    refine (deedOf1_any 1 q1 q2 q3 q4 q5 q6 q7 q8 q9 rfl _).mono ?_
    rintro e w1 ⟨rfl, hb⟩
    have HB1 := Lib.hid (HB0.out.trans (hb.mono HB0.out.size))
    have HA1 := Lib.hid (HA.out.below hb)
    clear hb
    go_wp2_with fail
    have he := eql_deed1 q1 q2 q3 q4 q5 q6 q7 q8 q9
    generalize (decide (q5 = 0 ∧ q6 = ⟨#[]⟩) && decide (q7 = ⟨#[]⟩ ∧ q8 = 0 ∧ q9 = ⟨#[]⟩)) = ze at *
    cases hv : confB q1 q2 q3 q4
    · have HF : Hid (false = deedB 1 q1 q2 q3 q4 q5 q6 q7 q8 q9) := Lib.hid (by rw [HX.out, hv]; rfl)
      clear HX
      refine TillZ.region (t := 2) hmx (fun _ => True) ?_
      refine TillZ.value (i := 0) (v := .iface 122 (.agg #[.int .i64 q1, .int .i64 q2, .int .i64 q3, .int .i64 q4])) (by kernel_rfl) rfl rfl rfl (by go_simp) trivial ?_
      simp only [Act.put, List.getElem_toArray, List.getElem_cons_zero, List.getElem_cons_succ, List.setIfInBounds_toArray, List.set_cons_zero, List.set_cons_succ]
      refine TillZ.value (i := 1) (v := .bool true) (by kernel_rfl) rfl rfl rfl (by go_simp) trivial ?_
      simp only [Act.put, List.getElem_toArray, List.getElem_cons_zero, List.getElem_cons_succ, List.setIfInBounds_toArray, List.set_cons_zero, List.set_cons_succ]
      refine TillZ.hand (v := .bool true) (by kernel_rfl) rfl rfl (by go_simp) ?_
      simp only [Act.put, List.getElem_toArray, List.getElem_cons_zero, List.getElem_cons_succ, List.setIfInBounds_toArray, List.set_cons_zero, List.set_cons_succ]
      refine TillZ.any_valueg (i := 3) (w' := w1.drew) (v := .iface 122 (.agg #[.int .i64 q1, .int .i64 q2, .int .i64 q3, .int .i64 q4])) (by kernel_rfl) rfl (by kernel_rfl) (by go_simp) ?_
      simp only [Act.put, List.getElem_toArray, List.getElem_cons_zero, List.getElem_cons_succ, List.setIfInBounds_toArray, List.set_cons_zero, List.set_cons_succ]
      refine TillZ.any_callg (i := 4) (f := 136) (args := #[.agg #[.int .i64 q1, .int .i64 q2, .int .i64 q3, .int .i64 q4]]) (by kernel_rfl) rfl (by kernel_rfl) (by first | (go_simp; done) | (go_simp; rw [hm]; go_simp; done) | (go_simp; rw [hm]; rfl)) ?_
      refine Calls.mono (right1_any q1 q2 q3 q4 _) ?_
      rintro e w2 ⟨rfl, hb⟩
      rw [hv]
      refine ⟨_, rfl, ?_⟩
      simp only [Act.put, List.getElem_toArray, List.getElem_cons_zero, List.getElem_cons_succ, List.setIfInBounds_toArray, List.set_cons_zero, List.set_cons_succ]
      have HB2 := Lib.hid (HB1.out.drew.trans (hb.mono HB1.out.size))
      clear hb
      refine TillZ.any_value (i := 5) (v := .bool false) (by kernel_rfl) rfl rfl (by go_simp) ?_
      simp only [Act.put, List.getElem_toArray, List.getElem_cons_zero, List.getElem_cons_succ, List.setIfInBounds_toArray, List.set_cons_zero, List.set_cons_succ]
      refine TillZ.any_value (i := 6) (v := .bool false) (by kernel_rfl) rfl rfl (by go_simp) ?_
      simp only [Act.put, List.getElem_toArray, List.getElem_cons_zero, List.getElem_cons_succ, List.setIfInBounds_toArray, List.set_cons_zero, List.set_cons_succ]
      refine TillZ.still (m := 7) rfl (by kernel_rfl) (by kernel_rfl) ?_
      dsimp only [List.drop]
      iterate 4 (with_reducible refine TillZ.no (by kernel_rfl) ?_; simp only [Act.put, List.getElem_toArray, List.getElem_cons_zero, List.getElem_cons_succ, List.setIfInBounds_toArray, List.set_cons_zero, List.set_cons_succ])
      iterate 2 (with_reducible refine TillZ.step (by kernel_rfl) (fun K hK => ?_); go_simp; refine hK _ ?_; clear hK K)
      with_reducible refine wpStill_nil ?_
      go_wp2_with fail
      go_ret
      exact ⟨ret_bool HF.out, HB2.out⟩
    · have HF : Hid (ze = deedB 1 q1 q2 q3 q4 q5 q6 q7 q8 q9) := Lib.hid (by rw [HX.out, hv]; rfl)
      clear HX
      go_region_with (first | (go_at_call 136; refine Calls.mono (right1_any q1 q2 q3 q4 _) ?_; rintro e w2 ⟨rfl, hb⟩; rw [hv]; have HB2 := Lib.hid (HB1.out.drew.trans (hb.mono HB1.out.size)); have HA2 := Lib.hid (HA1.out.drew.below hb); clear hb; have x0 := HA2.out.cell 0 _ rfl; have x1 := HA2.out.cell 1 _ rfl; have x2 := HA2.out.cell 2 _ rfl; have x3 := HA2.out.cell 3 _ rfl; have x4 := HA2.out.cell 4 _ rfl; have x5 := HA2.out.cell 5 _ rfl; have x6 := HA2.out.cell 6 _ rfl; have x7 := HA2.out.cell 7 _ rfl; have x8 := HA2.out.cell 8 _ rfl; have x9 := HA2.out.cell 9 _ rfl) | (go_at_call 137; refine Calls.mono (whole1_any q1 q2 q3 q4 _) ?_; rintro e w3 ⟨rfl, hb⟩; have HB3 := Lib.hid (HB2.out.trans (hb.mono HB2.out.size)); have HA3 := Lib.hid (HA2.out.below hb); clear hb x0 x1 x2 x3 x4 x5 x6 x7 x8 x9; have y0 := HA3.out.cell 0 _ rfl; have y1 := HA3.out.cell 1 _ rfl; have y2 := HA3.out.cell 2 _ rfl; have y3 := HA3.out.cell 3 _ rfl; have y4 := HA3.out.cell 4 _ rfl; have y5 := HA3.out.cell 5 _ rfl; have y6 := HA3.out.cell 6 _ rfl; have y7 := HA3.out.cell 7 _ rfl; have y8 := HA3.out.cell 8 _ rfl; have y9 := HA3.out.cell 9 _ rfl))
      all_goals
        go_wp2_with fail
        go_ret
        exact ⟨ret_bool HF.out, HB3.out⟩
  · skip
    by_cases k2 : q0 = 2
    · subst k2
      have HX : Hid (deedB 2 q1 q2 q3 q4 q5 q6 q7 q8 q9 = (termB q5 q6 && (decide (q1 = 0 ∧ q2 = 0 ∧ q3 = 0 ∧ q4 = 0) && decide (q7 = ⟨#[]⟩ ∧ q8 = 0 ∧ q9 = ⟨#[]⟩)))) := Lib.hid (by unfold deedB; simp [Bool.and_assoc, Bool.and_comm, Bool.and_left_comm])
      have hn := nil_right2 q5 q6
      have hm := met_right2 q5 q6
      have hn2 := nil_whole2 q5 q6
      have hm2 := met_whole2 q5 q6
      go_enter Tryz.func66, Tryz.ntmps66
      go_wp2_with fail
      rw [← hW]
      clear hW
      refine (deedOf2_any 2 q1 q2 q3 q4 q5 q6 q7 q8 q9 rfl _).mono ?_
      rintro e w1 ⟨rfl, hb⟩
      have HB1 := Lib.hid (HB0.out.trans (hb.mono HB0.out.size))
      have HA1 := Lib.hid (HA.out.below hb)
      clear hb
      go_wp2_with fail
      have he := eql_deed2 q1 q2 q3 q4 q5 q6 q7 q8 q9
      generalize (decide (q1 = 0 ∧ q2 = 0 ∧ q3 = 0 ∧ q4 = 0) && decide (q7 = ⟨#[]⟩ ∧ q8 = 0 ∧ q9 = ⟨#[]⟩)) = ze at *
      cases hv : termB q5 q6
      · have HF : Hid (false = deedB 2 q1 q2 q3 q4 q5 q6 q7 q8 q9) := Lib.hid (by rw [HX.out, hv]; rfl)
        clear HX
        refine TillZ.region (t := 2) hmx (fun _ => True) ?_
        refine TillZ.value (i := 0) (v := .iface 145 (.agg #[.int .i64 q5, .string q6])) (by kernel_rfl) rfl rfl rfl (by go_simp) trivial ?_
        simp only [Act.put, List.getElem_toArray, List.getElem_cons_zero, List.getElem_cons_succ, List.setIfInBounds_toArray, List.set_cons_zero, List.set_cons_succ]
        refine TillZ.value (i := 1) (v := .bool true) (by kernel_rfl) rfl rfl rfl (by go_simp) trivial ?_
        simp only [Act.put, List.getElem_toArray, List.getElem_cons_zero, List.getElem_cons_succ, List.setIfInBounds_toArray, List.set_cons_zero, List.set_cons_succ]
        refine TillZ.hand (v := .bool true) (by kernel_rfl) rfl rfl (by go_simp) ?_
        simp only [Act.put, List.getElem_toArray, List.getElem_cons_zero, List.getElem_cons_succ, List.setIfInBounds_toArray, List.set_cons_zero, List.set_cons_succ]
        refine TillZ.any_valueg (i := 3) (w' := w1.drew) (v := .iface 145 (.agg #[.int .i64 q5, .string q6])) (by kernel_rfl) rfl (by kernel_rfl) (by go_simp) ?_
        simp only [Act.put, List.getElem_toArray, List.getElem_cons_zero, List.getElem_cons_succ, List.setIfInBounds_toArray, List.set_cons_zero, List.set_cons_succ]
        refine TillZ.any_callg (i := 4) (f := 146) (args := #[.agg #[.int .i64 q5, .string q6]]) (by kernel_rfl) rfl (by kernel_rfl) (by first | (go_simp; done) | (go_simp; rw [hm]; go_simp; done) | (go_simp; rw [hm]; rfl)) ?_
        refine Calls.mono (right2_any q5 q6 _ H6.out) ?_
        rintro e w2 ⟨rfl, hb⟩
        rw [hv]
        refine ⟨_, rfl, ?_⟩
        simp only [Act.put, List.getElem_toArray, List.getElem_cons_zero, List.getElem_cons_succ, List.setIfInBounds_toArray, List.set_cons_zero, List.set_cons_succ]
        have HB2 := Lib.hid (HB1.out.drew.trans (hb.mono HB1.out.size))
        clear hb
        refine TillZ.any_value (i := 5) (v := .bool false) (by kernel_rfl) rfl rfl (by go_simp) ?_
        simp only [Act.put, List.getElem_toArray, List.getElem_cons_zero, List.getElem_cons_succ, List.setIfInBounds_toArray, List.set_cons_zero, List.set_cons_succ]
        refine TillZ.any_value (i := 6) (v := .bool false) (by kernel_rfl) rfl rfl (by go_simp) ?_
        simp only [Act.put, List.getElem_toArray, List.getElem_cons_zero, List.getElem_cons_succ, List.setIfInBounds_toArray, List.set_cons_zero, List.set_cons_succ]
        refine TillZ.still (m := 7) rfl (by kernel_rfl) (by kernel_rfl) ?_
        dsimp only [List.drop]
        iterate 4 (with_reducible refine TillZ.no (by kernel_rfl) ?_; simp only [Act.put, List.getElem_toArray, List.getElem_cons_zero, List.getElem_cons_succ, List.setIfInBounds_toArray, List.set_cons_zero, List.set_cons_succ])
        iterate 2 (with_reducible refine TillZ.step (by kernel_rfl) (fun K hK => ?_); go_simp; refine hK _ ?_; clear hK K)
        with_reducible refine wpStill_nil ?_
        go_wp2_with fail
        go_ret
        exact ⟨ret_bool HF.out, HB2.out⟩
      · have HF : Hid (ze = deedB 2 q1 q2 q3 q4 q5 q6 q7 q8 q9) := Lib.hid (by rw [HX.out, hv]; rfl)
        clear HX
        go_region_with (first | (go_at_call 146; refine Calls.mono (right2_any q5 q6 _ H6.out) ?_; rintro e w2 ⟨rfl, hb⟩; rw [hv]; have HB2 := Lib.hid (HB1.out.drew.trans (hb.mono HB1.out.size)); have HA2 := Lib.hid (HA1.out.drew.below hb); clear hb; have x0 := HA2.out.cell 0 _ rfl; have x1 := HA2.out.cell 1 _ rfl; have x2 := HA2.out.cell 2 _ rfl; have x3 := HA2.out.cell 3 _ rfl; have x4 := HA2.out.cell 4 _ rfl; have x5 := HA2.out.cell 5 _ rfl; have x6 := HA2.out.cell 6 _ rfl; have x7 := HA2.out.cell 7 _ rfl; have x8 := HA2.out.cell 8 _ rfl; have x9 := HA2.out.cell 9 _ rfl) | (go_at_call 147; refine Calls.mono (whole2_any q5 q6 _) ?_; rintro e w3 ⟨rfl, hb⟩; have HB3 := Lib.hid (HB2.out.trans (hb.mono HB2.out.size)); have HA3 := Lib.hid (HA2.out.below hb); clear hb x0 x1 x2 x3 x4 x5 x6 x7 x8 x9; have y0 := HA3.out.cell 0 _ rfl; have y1 := HA3.out.cell 1 _ rfl; have y2 := HA3.out.cell 2 _ rfl; have y3 := HA3.out.cell 3 _ rfl; have y4 := HA3.out.cell 4 _ rfl; have y5 := HA3.out.cell 5 _ rfl; have y6 := HA3.out.cell 6 _ rfl; have y7 := HA3.out.cell 7 _ rfl; have y8 := HA3.out.cell 8 _ rfl; have y9 := HA3.out.cell 9 _ rfl))
        all_goals
          go_wp2_with fail
          go_ret
          exact ⟨ret_bool HF.out, HB3.out⟩
    · skip
      by_cases k3 : q0 = 3
      · subst k3
        have HX : Hid (deedB 3 q1 q2 q3 q4 q5 q6 q7 q8 q9 = (itemB q7 q8 q9 && (decide (q1 = 0 ∧ q2 = 0 ∧ q3 = 0 ∧ q4 = 0) && decide (q5 = 0 ∧ q6 = ⟨#[]⟩)))) := Lib.hid (by unfold deedB; simp [Bool.and_assoc, Bool.and_comm, Bool.and_left_comm])
        have hn := nil_right3 q7 q8 q9
        have hm := met_right3 q7 q8 q9
        have hn2 := nil_whole3 q7 q8 q9
        have hm2 := met_whole3 q7 q8 q9
        go_enter Tryz.func66, Tryz.ntmps66
        go_wp2_with fail
        rw [← hW]
        clear hW
        refine (deedOf3_any 3 q1 q2 q3 q4 q5 q6 q7 q8 q9 rfl _).mono ?_
        rintro e w1 ⟨rfl, hb⟩
        have HB1 := Lib.hid (HB0.out.trans (hb.mono HB0.out.size))
        have HA1 := Lib.hid (HA.out.below hb)
        clear hb
        go_wp2_with fail
        have he := eql_deed3 q1 q2 q3 q4 q5 q6 q7 q8 q9
        generalize (decide (q1 = 0 ∧ q2 = 0 ∧ q3 = 0 ∧ q4 = 0) && decide (q5 = 0 ∧ q6 = ⟨#[]⟩)) = ze at *
        cases hv : itemB q7 q8 q9
        · have HF : Hid (false = deedB 3 q1 q2 q3 q4 q5 q6 q7 q8 q9) := Lib.hid (by rw [HX.out, hv]; rfl)
          clear HX
          refine TillZ.region (t := 2) hmx (fun _ => True) ?_
          refine TillZ.value (i := 0) (v := .iface 146 (.agg #[.string q7, .int .i64 q8, .string q9])) (by kernel_rfl) rfl rfl rfl (by go_simp) trivial ?_
          simp only [Act.put, List.getElem_toArray, List.getElem_cons_zero, List.getElem_cons_succ, List.setIfInBounds_toArray, List.set_cons_zero, List.set_cons_succ]
          refine TillZ.value (i := 1) (v := .bool true) (by kernel_rfl) rfl rfl rfl (by go_simp) trivial ?_
          simp only [Act.put, List.getElem_toArray, List.getElem_cons_zero, List.getElem_cons_succ, List.setIfInBounds_toArray, List.set_cons_zero, List.set_cons_succ]
          refine TillZ.hand (v := .bool true) (by kernel_rfl) rfl rfl (by go_simp) ?_
          simp only [Act.put, List.getElem_toArray, List.getElem_cons_zero, List.getElem_cons_succ, List.setIfInBounds_toArray, List.set_cons_zero, List.set_cons_succ]
          refine TillZ.any_valueg (i := 3) (w' := w1.drew) (v := .iface 146 (.agg #[.string q7, .int .i64 q8, .string q9])) (by kernel_rfl) rfl (by kernel_rfl) (by go_simp) ?_
          simp only [Act.put, List.getElem_toArray, List.getElem_cons_zero, List.getElem_cons_succ, List.setIfInBounds_toArray, List.set_cons_zero, List.set_cons_succ]
          refine TillZ.any_callg (i := 4) (f := 152) (args := #[.agg #[.string q7, .int .i64 q8, .string q9]]) (by kernel_rfl) rfl (by kernel_rfl) (by first | (go_simp; done) | (go_simp; rw [hm]; go_simp; done) | (go_simp; rw [hm]; rfl)) ?_
          refine Calls.mono (right3_any q7 q8 q9 _ H7.out H9.out) ?_
          rintro e w2 ⟨rfl, hb⟩
          rw [hv]
          refine ⟨_, rfl, ?_⟩
          simp only [Act.put, List.getElem_toArray, List.getElem_cons_zero, List.getElem_cons_succ, List.setIfInBounds_toArray, List.set_cons_zero, List.set_cons_succ]
          have HB2 := Lib.hid (HB1.out.drew.trans (hb.mono HB1.out.size))
          clear hb
          refine TillZ.any_value (i := 5) (v := .bool false) (by kernel_rfl) rfl rfl (by go_simp) ?_
          simp only [Act.put, List.getElem_toArray, List.getElem_cons_zero, List.getElem_cons_succ, List.setIfInBounds_toArray, List.set_cons_zero, List.set_cons_succ]
          refine TillZ.any_value (i := 6) (v := .bool false) (by kernel_rfl) rfl rfl (by go_simp) ?_
          simp only [Act.put, List.getElem_toArray, List.getElem_cons_zero, List.getElem_cons_succ, List.setIfInBounds_toArray, List.set_cons_zero, List.set_cons_succ]
          refine TillZ.still (m := 7) rfl (by kernel_rfl) (by kernel_rfl) ?_
          dsimp only [List.drop]
          iterate 4 (with_reducible refine TillZ.no (by kernel_rfl) ?_; simp only [Act.put, List.getElem_toArray, List.getElem_cons_zero, List.getElem_cons_succ, List.setIfInBounds_toArray, List.set_cons_zero, List.set_cons_succ])
          iterate 2 (with_reducible refine TillZ.step (by kernel_rfl) (fun K hK => ?_); go_simp; refine hK _ ?_; clear hK K)
          with_reducible refine wpStill_nil ?_
          go_wp2_with fail
          go_ret
          exact ⟨ret_bool HF.out, HB2.out⟩
        · have HF : Hid (ze = deedB 3 q1 q2 q3 q4 q5 q6 q7 q8 q9) := Lib.hid (by rw [HX.out, hv]; rfl)
          clear HX
          go_region_with (first | (go_at_call 152; refine Calls.mono (right3_any q7 q8 q9 _ H7.out H9.out) ?_; rintro e w2 ⟨rfl, hb⟩; rw [hv]; have HB2 := Lib.hid (HB1.out.drew.trans (hb.mono HB1.out.size)); have HA2 := Lib.hid (HA1.out.drew.below hb); clear hb; have x0 := HA2.out.cell 0 _ rfl; have x1 := HA2.out.cell 1 _ rfl; have x2 := HA2.out.cell 2 _ rfl; have x3 := HA2.out.cell 3 _ rfl; have x4 := HA2.out.cell 4 _ rfl; have x5 := HA2.out.cell 5 _ rfl; have x6 := HA2.out.cell 6 _ rfl; have x7 := HA2.out.cell 7 _ rfl; have x8 := HA2.out.cell 8 _ rfl; have x9 := HA2.out.cell 9 _ rfl) | (go_at_call 153; refine Calls.mono (whole3_any q7 q8 q9 _) ?_; rintro e w3 ⟨rfl, hb⟩; have HB3 := Lib.hid (HB2.out.trans (hb.mono HB2.out.size)); have HA3 := Lib.hid (HA2.out.below hb); clear hb x0 x1 x2 x3 x4 x5 x6 x7 x8 x9; have y0 := HA3.out.cell 0 _ rfl; have y1 := HA3.out.cell 1 _ rfl; have y2 := HA3.out.cell 2 _ rfl; have y3 := HA3.out.cell 3 _ rfl; have y4 := HA3.out.cell 4 _ rfl; have y5 := HA3.out.cell 5 _ rfl; have y6 := HA3.out.cell 6 _ rfl; have y7 := HA3.out.cell 7 _ rfl; have y8 := HA3.out.cell 8 _ rfl; have y9 := HA3.out.cell 9 _ rfl))
          all_goals
            go_wp2_with fail
            go_ret
            exact ⟨ret_bool HF.out, HB3.out⟩
      · skip
        by_cases k4 : q0 = 4
        · subst k4
          have HX : Hid (deedB 4 q1 q2 q3 q4 q5 q6 q7 q8 q9 = (wordB q7 && (decide (q1 = 0 ∧ q2 = 0 ∧ q3 = 0 ∧ q4 = 0) && decide (q5 = 0 ∧ q6 = ⟨#[]⟩) && decide (q8 = 0 ∧ q9 = ⟨#[]⟩)))) := Lib.hid (by unfold deedB; simp [Bool.and_assoc, Bool.and_comm, Bool.and_left_comm])
          have hn := nil_right4 q7
          have hm := met_right4 q7
          have hn2 := nil_whole4 q7
          have hm2 := met_whole4 q7
          go_enter Tryz.func66, Tryz.ntmps66
          go_wp2_with fail
          rw [← hW]
          clear hW
          refine (deedOf4_any 4 q1 q2 q3 q4 q5 q6 q7 q8 q9 rfl _).mono ?_
          rintro e w1 ⟨rfl, hb⟩
          have HB1 := Lib.hid (HB0.out.trans (hb.mono HB0.out.size))
          have HA1 := Lib.hid (HA.out.below hb)
          clear hb
          go_wp2_with fail
          have he := eql_deed4 q1 q2 q3 q4 q5 q6 q7 q8 q9
          generalize (decide (q1 = 0 ∧ q2 = 0 ∧ q3 = 0 ∧ q4 = 0) && decide (q5 = 0 ∧ q6 = ⟨#[]⟩) && decide (q8 = 0 ∧ q9 = ⟨#[]⟩)) = ze at *
          cases hv : wordB q7
          · have HF : Hid (false = deedB 4 q1 q2 q3 q4 q5 q6 q7 q8 q9) := Lib.hid (by rw [HX.out, hv]; rfl)
            clear HX
            refine TillZ.region (t := 2) hmx (fun _ => True) ?_
            refine TillZ.value (i := 0) (v := .iface 147 (.string q7)) (by kernel_rfl) rfl rfl rfl (by go_simp) trivial ?_
            simp only [Act.put, List.getElem_toArray, List.getElem_cons_zero, List.getElem_cons_succ, List.setIfInBounds_toArray, List.set_cons_zero, List.set_cons_succ]
            refine TillZ.value (i := 1) (v := .bool true) (by kernel_rfl) rfl rfl rfl (by go_simp) trivial ?_
            simp only [Act.put, List.getElem_toArray, List.getElem_cons_zero, List.getElem_cons_succ, List.setIfInBounds_toArray, List.set_cons_zero, List.set_cons_succ]
            refine TillZ.hand (v := .bool true) (by kernel_rfl) rfl rfl (by go_simp) ?_
            simp only [Act.put, List.getElem_toArray, List.getElem_cons_zero, List.getElem_cons_succ, List.setIfInBounds_toArray, List.set_cons_zero, List.set_cons_succ]
            refine TillZ.any_valueg (i := 3) (w' := w1.drew) (v := .iface 147 (.string q7)) (by kernel_rfl) rfl (by kernel_rfl) (by go_simp) ?_
            simp only [Act.put, List.getElem_toArray, List.getElem_cons_zero, List.getElem_cons_succ, List.setIfInBounds_toArray, List.set_cons_zero, List.set_cons_succ]
            refine TillZ.any_callg (i := 4) (f := 159) (args := #[.string q7]) (by kernel_rfl) rfl (by kernel_rfl) (by first | (go_simp; done) | (go_simp; rw [hm]; go_simp; done) | (go_simp; rw [hm]; rfl)) ?_
            refine Calls.mono (right4_any q7 _ H7.out) ?_
            rintro e w2 ⟨rfl, hb⟩
            rw [hv]
            refine ⟨_, rfl, ?_⟩
            simp only [Act.put, List.getElem_toArray, List.getElem_cons_zero, List.getElem_cons_succ, List.setIfInBounds_toArray, List.set_cons_zero, List.set_cons_succ]
            have HB2 := Lib.hid (HB1.out.drew.trans (hb.mono HB1.out.size))
            clear hb
            refine TillZ.any_value (i := 5) (v := .bool false) (by kernel_rfl) rfl rfl (by go_simp) ?_
            simp only [Act.put, List.getElem_toArray, List.getElem_cons_zero, List.getElem_cons_succ, List.setIfInBounds_toArray, List.set_cons_zero, List.set_cons_succ]
            refine TillZ.any_value (i := 6) (v := .bool false) (by kernel_rfl) rfl rfl (by go_simp) ?_
            simp only [Act.put, List.getElem_toArray, List.getElem_cons_zero, List.getElem_cons_succ, List.setIfInBounds_toArray, List.set_cons_zero, List.set_cons_succ]
            refine TillZ.still (m := 7) rfl (by kernel_rfl) (by kernel_rfl) ?_
            dsimp only [List.drop]
            iterate 4 (with_reducible refine TillZ.no (by kernel_rfl) ?_; simp only [Act.put, List.getElem_toArray, List.getElem_cons_zero, List.getElem_cons_succ, List.setIfInBounds_toArray, List.set_cons_zero, List.set_cons_succ])
            iterate 2 (with_reducible refine TillZ.step (by kernel_rfl) (fun K hK => ?_); go_simp; refine hK _ ?_; clear hK K)
            with_reducible refine wpStill_nil ?_
            go_wp2_with fail
            go_ret
            exact ⟨ret_bool HF.out, HB2.out⟩
          · have HF : Hid (ze = deedB 4 q1 q2 q3 q4 q5 q6 q7 q8 q9) := Lib.hid (by rw [HX.out, hv]; rfl)
            clear HX
            go_region_with (first | (go_at_call 159; refine Calls.mono (right4_any q7 _ H7.out) ?_; rintro e w2 ⟨rfl, hb⟩; rw [hv]; have HB2 := Lib.hid (HB1.out.drew.trans (hb.mono HB1.out.size)); have HA2 := Lib.hid (HA1.out.drew.below hb); clear hb; have x0 := HA2.out.cell 0 _ rfl; have x1 := HA2.out.cell 1 _ rfl; have x2 := HA2.out.cell 2 _ rfl; have x3 := HA2.out.cell 3 _ rfl; have x4 := HA2.out.cell 4 _ rfl; have x5 := HA2.out.cell 5 _ rfl; have x6 := HA2.out.cell 6 _ rfl; have x7 := HA2.out.cell 7 _ rfl; have x8 := HA2.out.cell 8 _ rfl; have x9 := HA2.out.cell 9 _ rfl) | (go_at_call 160; refine Calls.mono (whole4_any q7 _) ?_; rintro e w3 ⟨rfl, hb⟩; have HB3 := Lib.hid (HB2.out.trans (hb.mono HB2.out.size)); have HA3 := Lib.hid (HA2.out.below hb); clear hb x0 x1 x2 x3 x4 x5 x6 x7 x8 x9; have y0 := HA3.out.cell 0 _ rfl; have y1 := HA3.out.cell 1 _ rfl; have y2 := HA3.out.cell 2 _ rfl; have y3 := HA3.out.cell 3 _ rfl; have y4 := HA3.out.cell 4 _ rfl; have y5 := HA3.out.cell 5 _ rfl; have y6 := HA3.out.cell 6 _ rfl; have y7 := HA3.out.cell 7 _ rfl; have y8 := HA3.out.cell 8 _ rfl; have y9 := HA3.out.cell 9 _ rfl))
            all_goals
              go_wp2_with fail
              go_ret
              exact ⟨ret_bool HF.out, HB3.out⟩
        · skip
          have HF : Hid (false = deedB q0 q1 q2 q3 q4 q5 q6 q7 q8 q9) := Lib.hid (by unfold deedB; rw [if_neg k1, if_neg k2, if_neg k3, if_neg k4])
          go_enter Tryz.func66, Tryz.ntmps66
          go_wp2_with fail
          rw [← hW]
          clear hW
          refine (deedOf0_any q0 q1 q2 q3 q4 q5 q6 q7 q8 q9 k1 k2 k3 k4 _).mono ?_
          rintro e w1 ⟨rfl, hb⟩
          have HB1 := Lib.hid (HB0.out.trans (hb.mono HB0.out.size))
          clear hb
          go_wp2_with fail
          go_region
          all_goals
            go_wp2_with fail
            go_ret
            exact ⟨ret_bool HF.out, HB1.out.drew⟩
end Go.Proofs.YtnoefpkhbllmiaaGreatDoor
