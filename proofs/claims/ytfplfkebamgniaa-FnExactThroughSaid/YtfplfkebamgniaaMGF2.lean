/- Bytes that can be divided: they are a field. Nothing of the program stands here. -/
import Derived.Test.YtfplfkebamgniaaMGF
namespace Go.Proofs.Ytfplfkebamgniaa.MGF
theorem gm_tm {a b : Nat} (ha : a < 256) (hb : b < 256) : gm a b = tmB a b := by
  have h1 := allB_of _ 8 0 gm_tm_all a ha
  rw [Nat.zero_add] at h1
  have h2 := allB_of _ 8 0 h1 b hb
  rw [Nat.zero_add] at h2
  exact Nat.eq_of_beq_eq_true h2
theorem tmB_zero (b : Nat) : tmB 0 b = 0 := rfl
theorem tmB_zero' (a : Nat) : tmB a 0 = 0 := by cases a <;> rfl
theorem tmB_pos {a b : Nat} (ha : a ≠ 0) (hb : b ≠ 0) : tmB a b = ex ((lg a + lg b) % 255) := by
  obtain ⟨n, rfl⟩ := Nat.exists_eq_succ_of_ne_zero ha
  obtain ⟨m, rfl⟩ := Nat.exists_eq_succ_of_ne_zero hb
  rfl
theorem ex_all : allB (fun i => Nat.beq i 255 || (Nat.ble 1 (ex i) && Nat.ble (ex i) 255 && Nat.beq (lg (ex i)) i)) 8 0 = true := by kernel_rfl
theorem lg_all : allB (fun a => Nat.beq a 0 || (Nat.ble (lg a) 254 && Nat.beq (ex (lg a)) a)) 8 0 = true := by kernel_rfl
theorem ex_fact {i : Nat} (h : i < 255) : 1 ≤ ex i ∧ ex i ≤ 255 ∧ lg (ex i) = i := by
  have h1 := allB_of _ 8 0 ex_all i (by omega)
  rw [Nat.zero_add, Bool.or_eq_true, Bool.and_eq_true, Bool.and_eq_true] at h1
  rcases h1 with h1 | ⟨⟨h1, h2⟩, h3⟩
  · have := Nat.eq_of_beq_eq_true h1; omega
  · exact ⟨Nat.le_of_ble_eq_true h1, Nat.le_of_ble_eq_true h2, Nat.eq_of_beq_eq_true h3⟩
theorem lg_fact {a : Nat} (h : a < 256) (h0 : a ≠ 0) : lg a < 255 ∧ ex (lg a) = a := by
  have h1 := allB_of _ 8 0 lg_all a h
  rw [Nat.zero_add, Bool.or_eq_true, Bool.and_eq_true] at h1
  rcases h1 with h1 | ⟨h1, h2⟩
  · exact absurd (Nat.eq_of_beq_eq_true h1) h0
  · have := Nat.le_of_ble_eq_true h1
    exact ⟨by omega, Nat.eq_of_beq_eq_true h2⟩
theorem ex_zero : ex 0 = 1 := by decide
theorem lg_one : lg 1 = 0 := by decide
theorem gmTo_xor (a b c : Nat) : ∀ n, gmTo a (b ^^^ c) n = gmTo a b n ^^^ gmTo a c n := by
  intro n
  induction n generalizing a b c with
  | zero => simp [gmTo]
  | succ n ih =>
    have e1 : (b ^^^ c) / 2 = b / 2 ^^^ c / 2 := Nat.xor_div_two
    have e2 : (b ^^^ c) % 2 * a = (b % 2 * a) ^^^ (c % 2 * a) := by
      have h : (b ^^^ c) % 2 = b % 2 ^^^ c % 2 := Nat.xor_mod_two_pow (n := 1)
      rw [h]
      rcases Nat.mod_two_eq_zero_or_one b with hb | hb <;> rcases Nat.mod_two_eq_zero_or_one c with hc | hc <;> rw [hb, hc] <;> simp
    rw [gmTo, gmTo, gmTo, e1, e2, ih]
    simp only [Nat.xor_assoc]
    congr 1
    rw [← Nat.xor_assoc, Nat.xor_comm (c % 2 * a), Nat.xor_assoc]
theorem gm_lt {a b : Nat} (ha : a < 256) (hb : b < 256) : gm a b < 256 := by
  rw [gm_tm ha hb]
  by_cases h0 : a = 0
  · subst h0; rw [tmB_zero]; decide
  · by_cases h1 : b = 0
    · subst h1; rw [tmB_zero']; decide
    · rw [tmB_pos h0 h1]
      have := ex_fact (show (lg a + lg b) % 255 < 255 from Nat.mod_lt _ (by decide))
      omega
/-! Bytes as such. -/
abbrev B := BitVec 8
def mul (x y : B) : B := BitVec.ofNat 8 (gm x.toNat y.toNat)
def inv (x : B) : B := BitVec.ofNat 8 (ex ((255 - lg x.toNat) % 255))
def E (i : Nat) : B := BitVec.ofNat 8 (ex (i % 255))
def L (x : B) : Nat := lg x.toNat
theorem mul_toNat (x y : B) : (mul x y).toNat = gm x.toNat y.toNat := by
  unfold mul
  rw [BitVec.toNat_ofNat]
  exact Nat.mod_eq_of_lt (gm_lt x.isLt y.isLt)
theorem E_toNat (i : Nat) : (E i).toNat = ex (i % 255) := by
  unfold E
  rw [BitVec.toNat_ofNat]
  have := ex_fact (show i % 255 < 255 from Nat.mod_lt _ (by decide))
  exact Nat.mod_eq_of_lt (by omega)
theorem E_ne (i : Nat) : E i ≠ 0 := by
  intro h
  have := E_toNat i
  have h2 := ex_fact (show i % 255 < 255 from Nat.mod_lt _ (by decide))
  rw [h] at this
  simp at this
  omega
theorem L_E (i : Nat) : L (E i) = i % 255 := by
  unfold L
  rw [E_toNat]
  exact (ex_fact (Nat.mod_lt _ (by decide))).2.2
theorem toNat_ne {x : B} (h : x ≠ 0) : x.toNat ≠ 0 := fun h2 => h (BitVec.eq_of_toNat_eq (by simpa using h2))
theorem L_lt {x : B} (h : x ≠ 0) : L x < 255 := (lg_fact x.isLt (toNat_ne h)).1
theorem E_L {x : B} (h : x ≠ 0) : E (L x) = x := by
  apply BitVec.eq_of_toNat_eq
  rw [E_toNat, Nat.mod_eq_of_lt (L_lt h)]
  exact (lg_fact x.isLt (toNat_ne h)).2
theorem E_mod (i : Nat) : E (i % 255) = E i := by unfold E; rw [Nat.mod_mod]
theorem zero_mul (y : B) : mul 0 y = 0 := by
  apply BitVec.eq_of_toNat_eq
  rw [mul_toNat, gm_tm (BitVec.isLt _) (BitVec.isLt _)]
  rfl
theorem mul_zero (x : B) : mul x 0 = 0 := by
  apply BitVec.eq_of_toNat_eq
  rw [mul_toNat, gm_tm (BitVec.isLt _) (BitVec.isLt _)]
  exact tmB_zero' _
theorem mul_E {x y : B} (hx : x ≠ 0) (hy : y ≠ 0) : mul x y = E (L x + L y) := by
  apply BitVec.eq_of_toNat_eq
  rw [mul_toNat, gm_tm (BitVec.isLt _) (BitVec.isLt _), tmB_pos (toNat_ne hx) (toNat_ne hy), E_toNat]
  rfl
theorem mul_ne {x y : B} (hx : x ≠ 0) (hy : y ≠ 0) : mul x y ≠ 0 := by rw [mul_E hx hy]; exact E_ne _
theorem E_mul (i j : Nat) : mul (E i) (E j) = E (i + j) := by
  rw [mul_E (E_ne _) (E_ne _), L_E, L_E, ← E_mod (i + j), ← E_mod (i % 255 + j % 255), Nat.add_mod i j]
theorem mul_comm (x y : B) : mul x y = mul y x := by
  by_cases hx : x = 0
  · rw [hx, zero_mul, mul_zero]
  · by_cases hy : y = 0
    · rw [hy, zero_mul, mul_zero]
    · rw [mul_E hx hy, mul_E hy hx, Nat.add_comm]
theorem mul_assoc (x y z : B) : mul (mul x y) z = mul x (mul y z) := by
  by_cases hx : x = 0
  · rw [hx, zero_mul, zero_mul, zero_mul]
  · by_cases hy : y = 0
    · rw [hy, mul_zero, zero_mul, mul_zero]
    · by_cases hz : z = 0
      · rw [hz, mul_zero, mul_zero, mul_zero]
      · rw [← E_L hx, ← E_L hy, ← E_L hz, E_mul, E_mul, E_mul, E_mul, Nat.add_assoc]
theorem E_zero : E 0 = 1 := by decide
theorem mul_one (x : B) : mul x 1 = x := by
  by_cases hx : x = 0
  · rw [hx, zero_mul]
  · rw [← E_zero]
    have h := E_mul (L x) 0
    rw [E_L hx] at h
    rw [h, Nat.add_zero, E_L hx]
theorem one_mul (x : B) : mul 1 x = x := by rw [mul_comm, mul_one]
theorem mul_xor (x y z : B) : mul x (y ^^^ z) = mul x y ^^^ mul x z := by
  apply BitVec.eq_of_toNat_eq
  rw [BitVec.toNat_xor, mul_toNat, mul_toNat, mul_toNat, BitVec.toNat_xor]
  exact gmTo_xor _ _ _ _
theorem xor_mul (x y z : B) : mul (x ^^^ y) z = mul x z ^^^ mul y z := by rw [mul_comm, mul_xor, mul_comm z, mul_comm z]
theorem inv_E {x : B} (_ : x ≠ 0) : inv x = E (255 - L x) := rfl
theorem inv_ne {x : B} (h : x ≠ 0) : inv x ≠ 0 := by rw [inv_E h]; exact E_ne _
theorem mul_inv {x : B} (h : x ≠ 0) : mul x (inv x) = 1 := by
  have hl := L_lt h
  have e := E_mul (L x) (255 - L x)
  rw [E_L h] at e
  rw [inv_E h, e, show L x + (255 - L x) = 255 by omega, ← E_mod, show 255 % 255 = 0 from rfl, E_zero]
theorem mul_eq_zero {x y : B} (h : mul x y = 0) : x = 0 ∨ y = 0 := by
  by_cases hx : x = 0
  · exact Or.inl hx
  · by_cases hy : y = 0
    · exact Or.inr hy
    · exact absurd h (mul_ne hx hy)
def pw (x : B) : Nat → B
  | 0 => 1
  | n + 1 => mul x (pw x n)
theorem pw_E (i n : Nat) : pw (E i) n = E (i * n) := by
  induction n with
  | zero => rw [pw, Nat.mul_zero, E_zero]
  | succ n ih => rw [pw, ih, E_mul, Nat.mul_succ, Nat.add_comm]
theorem pw_zero {n : Nat} (h : n ≠ 0) : pw 0 n = 0 := by
  obtain ⟨m, rfl⟩ := Nat.exists_eq_succ_of_ne_zero h
  rw [pw, zero_mul]
theorem pw_add (x : B) (m n : Nat) : pw x (m + n) = mul (pw x m) (pw x n) := by
  induction m with
  | zero => rw [Nat.zero_add, pw, one_mul]
  | succ m ih => rw [show m + 1 + n = (m + n) + 1 by omega, pw, pw, ih, mul_assoc]
theorem pw_double (x : B) (n : Nat) : pw (mul x x) n = pw x (2 * n) := by
  induction n with
  | zero => rfl
  | succ n ih => rw [show 2 * (n + 1) = 2 * n + 1 + 1 by omega, pw, pw, pw, ih, mul_assoc]
theorem pw_inv {x : B} (h : x ≠ 0) : pw x 254 = inv x := by
  have hl := L_lt h
  have e := pw_E (L x) 254
  rw [E_L h] at e
  rw [e, inv_E h, ← E_mod (L x * 254), ← E_mod (255 - L x)]
  congr 1
  omega
theorem pw_255 {x : B} (h : x ≠ 0) : pw x 255 = 1 := by
  have e := pw_E (L x) 255
  rw [E_L h] at e
  rw [e, ← E_mod, Nat.mul_mod_left, E_zero]
end Go.Proofs.Ytfplfkebamgniaa.MGF
