/- Plain facts on bytes and names that the walks of chapter 2 use; nothing of the program stands here. -/
import Derived.Lib.Hide
import Derived.PlainAid
namespace Go.Proofs.Ytomojokamaibaaa.M2
open Go.PlainAid
def smallB (c : Int) : Bool := decide (97 ≤ c) && decide (c ≤ 122)
def digB (c : Int) : Bool := decide (48 ≤ c) && decide (c ≤ 57)
def restB (c : Int) : Bool := smallB c || digB c || decide (c = 95)
def okAt (s : ByteArray) : Nat → Bool
  | 0 => smallB (bt s 0)
  | k + 1 => restB (bt s (k + 1))
def allTo (s : ByteArray) : Nat → Bool
  | 0 => true
  | k + 1 => allTo s k && okAt s k
def nameB (s : ByteArray) : Bool := decide (1 ≤ s.size) && decide (s.size ≤ 20) && allTo s s.size
theorem allTo_false {s : ByteArray} {k n : Nat} (h : k < n) (hk : okAt s k = false) : allTo s n = false := by
  induction n with
  | zero => omega
  | succ n ih =>
    rcases Nat.lt_succ_iff_lt_or_eq.1 h with h | rfl
    · simp [allTo, ih h]
    · simp [allTo, hk]
theorem nameB_short {s : ByteArray} (h : s.size < 1) : nameB s = false := by simp [nameB, show s.size = 0 by omega]
theorem nameB_long {s : ByteArray} (h : 20 < s.size) : nameB s = false := by simp [nameB, show ¬ s.size ≤ 20 by omega]
theorem nameB_yes {s : ByteArray} {k : Nat} (h1 : 1 ≤ s.size) (h2 : s.size ≤ 20) (h : k = s.size) (ha : allTo s k = true) : nameB s = true := by subst h; simp [nameB, h1, h2, ha]
theorem nameB_no {s : ByteArray} {k : Nat} (h : k < s.size) (hk : okAt s k = false) : nameB s = false := by simp [nameB, allTo_false h hk]
theorem allTo_succ {s : ByteArray} {k : Nat} (h : allTo s k = true) (h' : okAt s k = true) : allTo s (k + 1) = true := by simp [allTo, h, h']
def okP (k : Nat) (c : Int) : Prop := (97 ≤ c ∧ c ≤ 122) ∨ (k ≠ 0 ∧ ((48 ≤ c ∧ c ≤ 57) ∨ c = 95))
theorem okAt_iff {s : ByteArray} {k : Nat} : okAt s k = true ↔ okP k (bt s k) := by
  cases k with
  | zero => simp [okAt, okP, smallB]
  | succ k => simp [okAt, okP, restB, smallB, digB, or_assoc]
theorem okAt_true {s : ByteArray} {k : Nat} (hp : (97 ≤ bt s k ∧ bt s k ≤ 122) ∨ (k ≠ 0 ∧ ((48 ≤ bt s k ∧ bt s k ≤ 57) ∨ bt s k = 95))) : okAt s k = true := by
  rw [okAt_iff]; exact hp
theorem okAt_false {s : ByteArray} {k : Nat} (hp : ¬ ((97 ≤ bt s k ∧ bt s k ≤ 122) ∨ (k ≠ 0 ∧ ((48 ≤ bt s k ∧ bt s k ≤ 57) ∨ bt s k = 95)))) : okAt s k = false := by
  rw [Bool.eq_false_iff, Ne, okAt_iff]; exact hp
theorem smallB_true {c : Int} : smallB c = true ↔ 97 ≤ c ∧ c ≤ 122 := by simp [smallB]
theorem digB_true {c : Int} : digB c = true ↔ 48 ≤ c ∧ c ≤ 57 := by simp [digB]
theorem smallB_false {c : Int} : smallB c = false ↔ ¬ (97 ≤ c ∧ c ≤ 122) := by rw [← smallB_true]; simp
theorem digB_false {c : Int} : digB c = false ↔ ¬ (48 ≤ c ∧ c ≤ 57) := by rw [← digB_true]; simp
end Go.Proofs.Ytomojokamaibaaa.M2
