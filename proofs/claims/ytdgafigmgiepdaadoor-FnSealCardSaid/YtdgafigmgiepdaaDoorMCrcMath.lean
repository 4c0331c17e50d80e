/- What a CRC is good for: it goes on from text to text, and one byte turned turns it. Nothing of the program stands here. -/
import Derived.Test.YtdgafigmgiepdaaDoorMCrc
import Derived.Laws.BitsLemmas
namespace Go.Proofs.YtdgafigmgiepdaaDoor.MCrc
open Go.PlainAid
theorem xor32_nat (a b : Nat) (ha : a < 4294967296) (hb : b < 4294967296) : xor32 (a : Int) (b : Int) = ((a ^^^ b : Nat) : Int) := by
  have h2 : a ^^^ b < 2 ^ 32 := Nat.xor_lt_two_pow (by omega) (by omega)
  have ha' : a % 2 ^ IntKind.u32.bits = a := Nat.mod_eq_of_lt (Nat.lt_of_lt_of_le ha (by decide))
  have hb' : b % 2 ^ IntKind.u32.bits = b := Nat.mod_eq_of_lt (Nat.lt_of_lt_of_le hb (by decide))
  show bits .xor .u32 a b = _
  simp only [bits, BitVec.ofInt_natCast, BitVec.toNat_xor, BitVec.toNat_ofNat, ha', hb']
  rw [IntKind.wrap_u32]
  exact Int.emod_eq_of_lt (Int.natCast_nonneg _) (by omega)
theorem nat32 {x : Int} (h : 0 ≤ x ∧ x ≤ 4294967295) : ∃ a : Nat, a < 4294967296 ∧ x = (a : Int) := ⟨x.toNat, by omega, by omega⟩
theorem xor32_cancel {x z : Int} (h : 0 ≤ x ∧ x ≤ 4294967295) (hz : 0 ≤ z ∧ z ≤ 4294967295) : xor32 (xor32 x z) z = x := by
  obtain ⟨a, ha, rfl⟩ := nat32 h
  obtain ⟨c, hc, rfl⟩ := nat32 hz
  have h2 : a ^^^ c < 2 ^ 32 := Nat.xor_lt_two_pow (by omega) (by omega)
  rw [xor32_nat a c ha hc, xor32_nat _ c (by omega) hc, Nat.xor_assoc, Nat.xor_self, Nat.xor_zero]
theorem xor32_inj {x y z : Int} (hx : 0 ≤ x ∧ x ≤ 4294967295) (hy : 0 ≤ y ∧ y ≤ 4294967295) (hz : 0 ≤ z ∧ z ≤ 4294967295) (h : xor32 x z = xor32 y z) : x = y := by
  rw [← xor32_cancel hx hz, h, xor32_cancel hy hz]
theorem xor32_comm {x y : Int} : xor32 x y = xor32 y x := by simp only [xor32, bits, BitVec.xor_comm]
theorem xor32_inj' {x y z : Int} (hx : 0 ≤ x ∧ x ≤ 4294967295) (hy : 0 ≤ y ∧ y ≤ 4294967295) (hz : 0 ≤ z ∧ z ≤ 4294967295) (h : xor32 z x = xor32 z y) : x = y := by
  rw [xor32_comm (x := z), xor32_comm (x := z)] at h; exact xor32_inj hx hy hz h
theorem xor32_low {x y : Int} (hx : 0 ≤ x ∧ x ≤ 2147483647) (hy : 0 ≤ y ∧ y ≤ 2147483647) : xor32 x y ≤ 2147483647 := by
  obtain ⟨a, ha, rfl⟩ := nat32 (x := x) (by omega)
  obtain ⟨c, hc, rfl⟩ := nat32 (x := y) (by omega)
  have h2 : a ^^^ c < 2 ^ 31 := Nat.xor_lt_two_pow (by omega) (by omega)
  rw [xor32_nat a c ha hc]
  omega
theorem odd32 {y : Int} (h : 0 ≤ y ∧ y ≤ 4294967295) : bits .and .u32 y 1 = y % 2 :=
  bits_mask .u32 32 (by decide) (fun n h0 h1 => by rw [IntKind.wrap_u32]; omega) 1 (by decide) y h.1 (Int.lt_of_le_of_lt h.2 (by decide))
theorem crcBit_inj {y y' : Int} (h : 0 ≤ y ∧ y ≤ 4294967295) (h' : 0 ≤ y' ∧ y' ≤ 4294967295) (e : crcBit y = crcBit y') : y = y' := by
  have hB : (0 : Int) ≤ 3988292384 ∧ (3988292384 : Int) ≤ 4294967295 := by omega
  have mixed : ∀ u v : Int, 0 ≤ u ∧ u ≤ 4294967295 → 0 ≤ v ∧ v ≤ 4294967295 → xor32 (u / 2) 3988292384 = v / 2 → False := by
    intro u v hu hv hh
    have h1 : xor32 (v / 2) (u / 2) = 3988292384 := by
      rw [← hh, xor32_comm (x := u / 2), xor32_cancel hB (by omega)]
    have h2 := xor32_low (x := v / 2) (y := u / 2) (by omega) (by omega)
    omega
  unfold crcBit at e
  rw [odd32 h, odd32 h'] at e
  by_cases a : (y % 2 == 1) = true <;> by_cases b : (y' % 2 == 1) = true
  · rw [if_pos a, if_pos b] at e
    have := xor32_inj (by omega) (by omega) hB e
    simp at a b
    omega
  · rw [if_pos a, if_neg b] at e
    exact (mixed y y' h h' e).elim
  · rw [if_neg a, if_pos b] at e
    exact (mixed y' y h' h e.symm).elim
  · rw [if_neg a, if_neg b] at e
    simp at a b
    omega
theorem crcBits_inj {y y' : Int} (h : 0 ≤ y ∧ y ≤ 4294967295) (h' : 0 ≤ y' ∧ y' ≤ 4294967295) : ∀ n, crcBits y n = crcBits y' n → y = y'
  | 0, e => e
  | n + 1, e => crcBits_inj h h' n (crcBit_inj (crcBits_range h n) (crcBits_range h' n) e)
theorem byte32 (s : ByteArray) (k : Nat) : 0 ≤ bt s k ∧ bt s k ≤ 4294967295 := ⟨bt_nonneg s k, by have := bt_le s k; omega⟩
/-- Over the same bytes two registers stay apart. -/
theorem crcTo_inj {x x' : Int} (h : 0 ≤ x ∧ x ≤ 4294967295) (h' : 0 ≤ x' ∧ x' ≤ 4294967295) (s s' : ByteArray) : ∀ k, (∀ i, i < k → bt s i = bt s' i) → crcTo x s k = crcTo x' s' k → x = x'
  | 0, _, e => e
  | k + 1, hb, e => by
    rw [crcTo_succ, crcTo_succ, hb k (by omega)] at e
    exact crcTo_inj h h' s s' k (fun i hi => hb i (by omega)) (xor32_inj (crcTo_range h s k) (crcTo_range h' s' k) (byte32 s' k) (crcBits_inj (xor32_range _ _) (xor32_range _ _) 8 e))
theorem crcTo_same (x : Int) (s s' : ByteArray) : ∀ k, (∀ i, i < k → bt s i = bt s' i) → crcTo x s k = crcTo x s' k
  | 0, _ => rfl
  | k + 1, hb => by rw [crcTo_succ, crcTo_succ, hb k (by omega), crcTo_same x s s' k (fun i hi => hb i (by omega))]
/-- One byte turned turns the register, and it stays so. -/
theorem crcTo_turned {x : Int} (h : 0 ≤ x ∧ x ≤ 4294967295) {s s' : ByteArray} {j : Nat} (hj : bt s j ≠ bt s' j) (ho : ∀ i, i ≠ j → bt s i = bt s' i) : ∀ k, j < k → crcTo x s k ≠ crcTo x s' k
  | 0, hk => by omega
  | k + 1, hk => by
    intro e
    rw [crcTo_succ, crcTo_succ] at e
    have e1 := crcBits_inj (xor32_range _ _) (xor32_range _ _) 8 e
    by_cases hjk : j = k
    · subst hjk
      rw [crcTo_same x s s' j (fun i hi => ho i (by omega))] at e1
      exact hj (xor32_inj' (byte32 s j) (byte32 s' j) (crcTo_range h s' j) e1)
    · rw [ho k (by omega)] at e1
      exact crcTo_turned h hj ho k (by omega) (xor32_inj (crcTo_range h s k) (crcTo_range h s' k) (byte32 s' k) e1)
theorem crcOn_turned {c : Int} {s s' : ByteArray} {j : Nat} (hs : s.size = s'.size) (hjs : j < s.size) (hj : bt s j ≠ bt s' j) (ho : ∀ i, i ≠ j → bt s i = bt s' i) : crcOn c s ≠ crcOn c s' := by
  intro e
  unfold crcOn at e
  rw [← hs] at e
  exact crcTo_turned (xor32_range _ _) hj ho s.size hjs (xor32_inj (crcTo_range (xor32_range _ _) _ _) (crcTo_range (xor32_range _ _) _ _) (by omega) e)
theorem crcTo_append (x : Int) (t u : ByteArray) : ∀ k, crcTo x (t ++ u) (t.size + k) = crcTo (crcTo x t t.size) u k
  | 0 => by
    rw [Nat.add_zero]
    exact crcTo_same x _ _ _ (fun i hi => by
      unfold bt
      rw [dif_pos (by rw [ByteArray.size_append]; omega), dif_pos hi, ByteArray.getElem_append_left hi])
  | k + 1 => by
    have hb : bt (t ++ u) (t.size + k) = bt u k := by
      unfold bt
      by_cases hk : k < u.size
      · rw [dif_pos (by rw [ByteArray.size_append]; omega), dif_pos hk, ByteArray.getElem_append_right (by omega)]
        simp only [Nat.add_sub_cancel_left]
      · rw [dif_neg (by rw [ByteArray.size_append]; omega), dif_neg hk]
    rw [← Nat.add_assoc, crcTo_succ, crcTo_succ, crcTo_append x t u k, hb]
/-- The CRC goes on from text to text. -/
theorem crcOn_append (c : Int) (t u : ByteArray) : crcOn (crcOn c t) u = crcOn c (t ++ u) := by
  have hR := crcTo_range (xor32_range c 4294967295) t t.size
  show xor32 (crcTo (xor32 (xor32 (crcTo (xor32 c 4294967295) t t.size) 4294967295) 4294967295) u u.size) 4294967295 = _
  rw [xor32_cancel hR (by omega)]
  unfold crcOn
  rw [ByteArray.size_append, crcTo_append]
end Go.Proofs.YtdgafigmgiepdaaDoor.MCrc
