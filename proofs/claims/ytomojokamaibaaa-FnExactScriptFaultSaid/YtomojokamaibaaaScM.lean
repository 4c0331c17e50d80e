/- Scripts: texts cut at a byte, numbers, words and lines, as plain functions; nothing of the program stands here. -/
import Derived.Laws.RangeAny
import Derived.Test.YtomojokamaibaaaM2
namespace Go.Proofs.Ytomojokamaibaaa.Sc
open Go.PlainAid M2
set_option linter.unusedVariables false
/-- The pieces ahead of the ends among the first k bytes, and where the piece under way begins. -/
def cutTo (s : ByteArray) (c : Int) : Nat → List ByteArray × Nat
  | 0 => ([], 0)
  | k + 1 => if bt s k = c then ((cutTo s c k).1 ++ [s.extract (cutTo s c k).2 k], k + 1) else cutTo s c k
def piecesL (s : ByteArray) (c : Int) : List ByteArray := (cutTo s c s.size).1
def restS (s : ByteArray) (c : Int) : ByteArray := s.extract (cutTo s c s.size).2 s.size
def wordsL (s : ByteArray) (c : Int) : List ByteArray := piecesL s c ++ [restS s c]
theorem cut_from (s : ByteArray) (c : Int) : ∀ k, (cutTo s c k).2 ≤ k
  | 0 => Nat.le_refl _
  | k + 1 => by
    have := cut_from s c k
    unfold cutTo
    split
    · exact Nat.le_refl _
    · omega
theorem cut_len (s : ByteArray) (c : Int) : ∀ k, (cutTo s c k).1.length ≤ k
  | 0 => Nat.le_refl _
  | k + 1 => by
    have := cut_len s c k
    unfold cutTo
    split
    · simp; omega
    · omega
theorem ex_small (s : ByteArray) (a b : Nat) : (s.extract a b).size ≤ s.size := by rw [ByteArray.size_extract]; omega
theorem cut_small (s : ByteArray) (c : Int) : ∀ k, ∀ p ∈ (cutTo s c k).1, p.size ≤ s.size
  | 0 => fun p h => by cases h
  | k + 1 => by
    have := cut_small s c k
    unfold cutTo
    split
    · intro p hp
      simp only [List.mem_append, List.mem_singleton] at hp
      rcases hp with hp | rfl
      · exact this p hp
      · exact ex_small _ _ _
    · exact this
theorem cut_hit {s : ByteArray} {c : Int} {k : Nat} (h : bt s k = c) : cutTo s c (k + 1) = ((cutTo s c k).1 ++ [s.extract (cutTo s c k).2 k], k + 1) := by
  conv => lhs; unfold cutTo
  rw [if_pos h]
theorem cut_miss {s : ByteArray} {c : Int} {k : Nat} (h : bt s k ≠ c) : cutTo s c (k + 1) = cutTo s c k := by
  conv => lhs; unfold cutTo
  rw [if_neg h]
theorem cut_skip {s : ByteArray} {c : Int} {k : Nat} : ∀ m, (∀ j, j < m → bt s (k + j) ≠ c) → cutTo s c (k + m) = cutTo s c k
  | 0, _ => rfl
  | m + 1, h => by
    rw [← Nat.add_assoc, cut_miss (h m (by omega))]
    exact cut_skip m fun j hj => h j (by omega)
theorem pieces_mem {s : ByteArray} {c : Int} (i : Nat) : ((piecesL s c).getD i ByteArray.empty).size ≤ s.size := by
  by_cases h : i < (piecesL s c).length
  · have : (piecesL s c).getD i ByteArray.empty = (piecesL s c)[i] := by simp [List.getD, h]
    rw [this]
    exact cut_small s c _ _ (List.getElem_mem h)
  · have : (piecesL s c).getD i ByteArray.empty = ByteArray.empty := by simp [List.getD, List.getElem?_eq_none (Nat.le_of_not_lt h)]
    rw [this]
    exact Nat.zero_le _
theorem words_mem {s : ByteArray} {c : Int} (i : Nat) : ((wordsL s c).getD i ByteArray.empty).size ≤ s.size := by
  by_cases h : i < (wordsL s c).length
  · have e : (wordsL s c).getD i ByteArray.empty = (wordsL s c)[i] := by simp [List.getD, h]
    rw [e]
    have hm : (wordsL s c)[i] ∈ piecesL s c ++ [restS s c] := List.getElem_mem h
    generalize (wordsL s c)[i] = x at hm
    rcases List.mem_append.1 hm with hm | hm
    · exact cut_small s c _ _ hm
    · rw [List.mem_singleton.1 hm]
      exact ex_small _ _ _
  · have : (wordsL s c).getD i ByteArray.empty = ByteArray.empty := by simp [List.getD, List.getElem?_eq_none (Nat.le_of_not_lt h)]
    rw [this]
    exact Nat.zero_le _
theorem pieces_len (s : ByteArray) (c : Int) : (piecesL s c).length ≤ s.size := cut_len _ _ _
theorem words_len (s : ByteArray) (c : Int) : (wordsL s c).length = (piecesL s c).length + 1 := by simp [wordsL]
/-- A rune of more than one byte, or none: bytes of 128 and more. -/
theorem dec_high (s : ByteArray) (p : Nat) (h : p < s.size) (ha : 128 ≤ bt s p) : ∀ j, j < (Utf8.decode s p).2 → p + j < s.size ∧ 128 ≤ bt s (p + j) := by
  have hg : ∀ k, p + k < s.size → ((s.get! (p + k)).toNat : Int) = bt s (p + k) := by
    intro k hk
    have e : s.get! (p + k) = s[p + k]'hk := by simp [ByteArray.get!, getElem!_pos, hk]; rfl
    rw [e, get_bt]
  have h0 : ¬ (s.get! (p + 0)).toNat < 128 := by have := hg 0 h; simp only [Nat.add_zero] at *; omega
  have c1 : ∀ k, (decide (p + k < s.size) && (s.get! (p + k)).toNat / 64 == 2) = true → p + k < s.size ∧ 128 ≤ bt s (p + k) := by
    intro k hk
    simp only [Bool.and_eq_true, decide_eq_true_eq, beq_iff_eq] at hk
    refine ⟨hk.1, ?_⟩
    rw [← hg k hk.1]
    omega
  intro j hj
  have hz : j = 0 → p + j < s.size ∧ 128 ≤ bt s (p + j) := fun e => by subst e; exact ⟨h, ha⟩
  simp only [Utf8.decode, h0, if_false] at hj
  repeat' split at hj
  all_goals first
    | exact hz (by simp only at hj; omega)
    | (simp only at hj
       rcases Nat.eq_zero_or_pos j with e | e
       · exact hz e
       · have : j = 1 ∨ j = 2 ∨ j = 3 := by omega
         rcases this with rfl | rfl | rfl
         all_goals first
           | (exfalso; omega)
           | (apply c1; simp only [Bool.and_eq_true]; simp_all))
/-- A rune that is more than one byte, or none, is no end: all is as it was. -/
theorem cut_rune {s : ByteArray} {c : Int} {p : Nat} (h : p < s.size) (ha : 128 ≤ bt s p) (hc : c < 128) : cutTo s c (p + (Utf8.decode s p).2) = cutTo s c p ∧ p + (Utf8.decode s p).2 ≤ s.size ∧ 1 ≤ (Utf8.decode s p).2 ∧ c < ((Utf8.decode s p).1 : Int) := by
  have hd := dec_high s p h ha
  have hh := decode_high s p h (by have := get_bt s p h; omega)
  refine ⟨cut_skip _ fun j hj => by have := (hd j hj).2; omega, ?_, hh.2, by omega⟩
  have := (hd ((Utf8.decode s p).2 - 1) (by omega)).1
  omega
/-- How a number reads. -/
def digsTo (s : ByteArray) : Nat → Bool
  | 0 => true
  | k + 1 => digsTo s k && digB (bt s k)
def numV (s : ByteArray) : Nat → Int
  | 0 => 0
  | k + 1 => 10 * numV s k + (bt s k - 48)
def numOk (s : ByteArray) : Bool := decide (s.size ≤ 9) && !(decide (1 < s.size) && decide (bt s 0 = 48)) && digsTo s s.size
theorem digs_false {s : ByteArray} {k n : Nat} (h : k < n) (hk : digB (bt s k) = false) : digsTo s n = false := by
  induction n with
  | zero => omega
  | succ n ih =>
    by_cases e : k = n
    · subst e; simp [digsTo, hk]
    · simp [digsTo, ih (by omega)]
theorem numV_range {s : ByteArray} : ∀ k, digsTo s k = true → 0 ≤ numV s k ∧ numV s k < 10 ^ k
  | 0, _ => by simp [numV]
  | k + 1, h => by
    simp only [digsTo, Bool.and_eq_true] at h
    have := numV_range k h.1
    have h2 := digB_true.1 h.2
    have e : (10 : Int) ^ (k + 1) = 10 * 10 ^ k := by rw [Int.pow_succ, Int.mul_comm]
    simp only [numV]
    rw [e]
    omega
theorem ten_le : ∀ {k : Nat}, k ≤ 9 → (10 : Int) ^ k ≤ 1000000000
  | 0, _ | 1, _ | 2, _ | 3, _ | 4, _ | 5, _ | 6, _ | 7, _ | 8, _ | 9, _ => by decide
  | n + 10, h => by omega
theorem numV_le {s : ByteArray} {k : Nat} (h : digsTo s k = true) (hk : k ≤ 9) : 0 ≤ numV s k ∧ numV s k < 1000000000 := by
  have := numV_range k h
  have := ten_le hk
  omega
/-- What a word has behind it: how many texts, how many numbers. -/
def kindOf (w : ByteArray) : Nat × Nat × Bool :=
  if w = ⟨#[112, 117, 116]⟩ then (2, 0, true)
  else if w = ⟨#[100, 114, 97, 119, 115]⟩ then (1, 0, true)
  else if w = ⟨#[103, 101, 116]⟩ then (1, 0, true)
  else if w = ⟨#[100, 101, 108]⟩ then (1, 0, true)
  else if w = ⟨#[105, 110, 105, 116]⟩ then (1, 2, true)
  else if w = ⟨#[114, 101, 107, 101, 121]⟩ then (0, 2, true)
  else if w = ⟨#[103, 105, 118, 101]⟩ then (0, 1, true)
  else if w = ⟨#[111, 108, 100]⟩ then (0, 1, true)
  else if w = ⟨#[112, 97, 114, 116]⟩ then (0, 1, true)
  else if w = ⟨#[115, 101, 97, 108]⟩ then (0, 0, true)
  else if w = ⟨#[108, 105, 115, 116]⟩ then (0, 0, true)
  else if w = ⟨#[116, 117, 114, 110]⟩ then (0, 0, true)
  else if w = ⟨#[113, 117, 105, 116]⟩ then (0, 0, true)
  else if w = ⟨#[114, 101, 98, 111, 111, 116]⟩ then (0, 0, true)
  else (0, 0, false)
/-- The same as the model tells it: a letter for each. -/
def takesOf (w : ByteArray) : ByteArray :=
  if w = ⟨#[112, 117, 116]⟩ then ⟨#[119, 119]⟩
  else if w = ⟨#[100, 114, 97, 119, 115]⟩ then ⟨#[119]⟩
  else if w = ⟨#[103, 101, 116]⟩ then ⟨#[119]⟩
  else if w = ⟨#[100, 101, 108]⟩ then ⟨#[119]⟩
  else if w = ⟨#[105, 110, 105, 116]⟩ then ⟨#[119, 110, 110]⟩
  else if w = ⟨#[114, 101, 107, 101, 121]⟩ then ⟨#[110, 110]⟩
  else if w = ⟨#[103, 105, 118, 101]⟩ then ⟨#[110]⟩
  else if w = ⟨#[111, 108, 100]⟩ then ⟨#[110]⟩
  else if w = ⟨#[112, 97, 114, 116]⟩ then ⟨#[110]⟩
  else if w = ⟨#[115, 101, 97, 108]⟩ then ⟨#[]⟩
  else if w = ⟨#[108, 105, 115, 116]⟩ then ⟨#[]⟩
  else if w = ⟨#[116, 117, 114, 110]⟩ then ⟨#[]⟩
  else if w = ⟨#[113, 117, 105, 116]⟩ then ⟨#[]⟩
  else if w = ⟨#[114, 101, 98, 111, 111, 116]⟩ then ⟨#[]⟩
  else ⟨#[45]⟩
/-- The words that there are: each tells the same to both; and it is none that is empty. -/
theorem kind_takes (w : ByteArray) :
    ((kindOf w).2.2 = false ∧ takesOf w = ⟨#[45]⟩) ∨
    ((kindOf w).2.2 = true ∧ takesOf w ≠ ⟨#[45]⟩ ∧ (takesOf w).size = (kindOf w).1 + (kindOf w).2.1 ∧ w.size ≠ 0 ∧ (kindOf w).1 ≤ 2 ∧ (kindOf w).2.1 ≤ 2 ∧
      ∀ i, i < (takesOf w).size → (i < (kindOf w).1 → bt (takesOf w) i = 119) ∧ ((kindOf w).1 ≤ i → bt (takesOf w) i = 110)) := by
  by_cases h0 : w = ⟨#[112, 117, 116]⟩
  · subst h0; exact .inr (by decide)
  by_cases h1 : w = ⟨#[100, 114, 97, 119, 115]⟩
  · subst h1; exact .inr (by decide)
  by_cases h2 : w = ⟨#[103, 101, 116]⟩
  · subst h2; exact .inr (by decide)
  by_cases h3 : w = ⟨#[100, 101, 108]⟩
  · subst h3; exact .inr (by decide)
  by_cases h4 : w = ⟨#[105, 110, 105, 116]⟩
  · subst h4; exact .inr (by decide)
  by_cases h5 : w = ⟨#[114, 101, 107, 101, 121]⟩
  · subst h5; exact .inr (by decide)
  by_cases h6 : w = ⟨#[103, 105, 118, 101]⟩
  · subst h6; exact .inr (by decide)
  by_cases h7 : w = ⟨#[111, 108, 100]⟩
  · subst h7; exact .inr (by decide)
  by_cases h8 : w = ⟨#[112, 97, 114, 116]⟩
  · subst h8; exact .inr (by decide)
  by_cases h9 : w = ⟨#[115, 101, 97, 108]⟩
  · subst h9; exact .inr (by decide)
  by_cases h10 : w = ⟨#[108, 105, 115, 116]⟩
  · subst h10; exact .inr (by decide)
  by_cases h11 : w = ⟨#[116, 117, 114, 110]⟩
  · subst h11; exact .inr (by decide)
  by_cases h12 : w = ⟨#[113, 117, 105, 116]⟩
  · subst h12; exact .inr (by decide)
  by_cases h13 : w = ⟨#[114, 101, 98, 111, 111, 116]⟩
  · subst h13; exact .inr (by decide)
  exact .inl ⟨by unfold kindOf; rw [if_neg h0, if_neg h1, if_neg h2, if_neg h3, if_neg h4, if_neg h5, if_neg h6, if_neg h7, if_neg h8, if_neg h9, if_neg h10, if_neg h11, if_neg h12, if_neg h13], by unfold takesOf; rw [if_neg h0, if_neg h1, if_neg h2, if_neg h3, if_neg h4, if_neg h5, if_neg h6, if_neg h7, if_neg h8, if_neg h9, if_neg h10, if_neg h11, if_neg h12, if_neg h13]⟩
/-- A line that is right. -/
def lineOk (t : ByteArray) : Bool :=
  (kindOf ((wordsL t 32).getD 0 ByteArray.empty)).2.2 && decide ((wordsL t 32).length = 1 + (kindOf ((wordsL t 32).getD 0 ByteArray.empty)).1 + (kindOf ((wordsL t 32).getD 0 ByteArray.empty)).2.1)
    && (wordsL t 32).all (fun w => decide (0 < w.size)) && ((wordsL t 32).drop (1 + (kindOf ((wordsL t 32).getD 0 ByteArray.empty)).1)).all numOk
/-- The first line from i on, of m more, that is not right or one too many. -/
def stopAt (ls : List ByteArray) : Nat → Nat → Nat
  | i, 0 => i
  | i, m + 1 => if lineOk (ls.getD i ByteArray.empty) = true ∧ i < 40 then stopAt ls (i + 1) m else i
theorem stop_more {ls : List ByteArray} {i n : Nat} (h : i < n) (hk : lineOk (ls.getD i ByteArray.empty) = true) (h4 : i < 40) : stopAt ls i (n - i) = stopAt ls (i + 1) (n - (i + 1)) := by
  obtain ⟨m, e⟩ : ∃ m, n - i = m + 1 := ⟨n - i - 1, by omega⟩
  rw [e, show n - (i + 1) = m by omega]
  conv => lhs; unfold stopAt
  rw [if_pos ⟨hk, h4⟩]
theorem stop_here {ls : List ByteArray} {i n : Nat} (h : i < n) (hk : ¬ (lineOk (ls.getD i ByteArray.empty) = true ∧ i < 40)) : stopAt ls i (n - i) = i := by
  obtain ⟨m, e⟩ : ∃ m, n - i = m + 1 := ⟨n - i - 1, by omega⟩
  rw [e]
  conv => lhs; unfold stopAt
  rw [if_neg hk]
theorem stop_end {ls : List ByteArray} {n : Nat} : stopAt ls n (n - n) = n := by rw [Nat.sub_self]; rfl
/-- The fault of a script: its line, its code. -/
def faultL (s : ByteArray) : Int × Int :=
  if 8000 < s.size then (0, 2)
  else if stopAt (piecesL s 10) 0 (piecesL s 10).length < (piecesL s 10).length then ((stopAt (piecesL s 10) 0 (piecesL s 10).length : Nat), 3)
  else if (restS s 10).size = 0 then (0, 0)
  else (((piecesL s 10).length : Nat), 3)
theorem fault_big {s : ByteArray} (h : 8000 < s.size) : faultL s = (0, 2) := by unfold faultL; rw [if_pos h]
theorem fault_line {s : ByteArray} {i : Nat} (h : ¬ 8000 < s.size) (hi : stopAt (piecesL s 10) 0 (piecesL s 10).length = i) (hl : i < (piecesL s 10).length) : faultL s = ((i : Int), 3) := by
  unfold faultL; rw [if_neg h, hi, if_pos hl]
theorem fault_none {s : ByteArray} (h : ¬ 8000 < s.size) (hi : stopAt (piecesL s 10) 0 (piecesL s 10).length = (piecesL s 10).length) (hr : (restS s 10).size = 0) : faultL s = (0, 0) := by
  unfold faultL; rw [if_neg h, hi, if_neg (Nat.lt_irrefl _), if_pos hr]
theorem fault_rest {s : ByteArray} (h : ¬ 8000 < s.size) (hi : stopAt (piecesL s 10) 0 (piecesL s 10).length = (piecesL s 10).length) (hr : (restS s 10).size ≠ 0) : faultL s = (((piecesL s 10).length : Int), 3) := by
  unfold faultL; rw [if_neg h, hi, if_neg (Nat.lt_irrefl _), if_neg hr]
theorem len_empty {s : ByteArray} : s.size = 0 ↔ s = ByteArray.empty := by
  constructor
  · intro h
    cases s with | mk d =>
    have : d = #[] := Array.eq_empty_of_size_eq_zero h
    subst this
    rfl
  · rintro rfl; rfl
end Go.Proofs.Ytomojokamaibaaa.Sc
