/- The product's loop in steps. Nothing of the program stands here. -/
import Derived.Test.YtfplfkebamgniaaMGF2
namespace Go.Proofs.Ytfplfkebamgniaa.MGF
open Go.PlainAid
theorem xor64_nat (a b : Nat) (ha : a < 65536) (hb : b < 65536) : bits .xor .i64 (a : Int) (b : Int) = ((a ^^^ b : Nat) : Int) := by
  have h2 : a ^^^ b < 2 ^ 16 := Nat.xor_lt_two_pow (by omega) (by omega)
  have ha' : a % 2 ^ IntKind.i64.bits = a := Nat.mod_eq_of_lt (Nat.lt_of_lt_of_le ha (by decide))
  have hb' : b % 2 ^ IntKind.i64.bits = b := Nat.mod_eq_of_lt (Nat.lt_of_lt_of_le hb (by decide))
  simp only [bits, BitVec.ofInt_natCast, BitVec.toNat_xor, BitVec.toNat_ofNat, ha', hb']
  rw [IntKind.wrap_i64]
  omega
theorem odd64 (b : Nat) (h : b < 9223372036854775808) : bits .and .i64 (b : Int) 1 = ((b % 2 : Nat) : Int) := by
  have hb' : b % 2 ^ IntKind.i64.bits = b := Nat.mod_eq_of_lt (Nat.lt_of_lt_of_le h (by decide))
  show bits .and .i64 (b : Int) ((1 : Nat) : Int) = _
  simp only [bits, BitVec.ofInt_natCast, BitVec.toNat_and, BitVec.toNat_ofNat, hb', show (1 : Nat) % 2 ^ IntKind.i64.bits = 1 from by decide, Nat.and_one_is_mod]
  rw [IntKind.wrap_i64]
  omega
theorem xt_lt {a : Nat} (h : a < 256) : xt a < 256 := by
  have h1 := allB_of (fun a => Nat.ble (xt a) 255) 8 0 (by kernel_rfl) a h
  rw [Nat.zero_add] at h1
  have := Nat.le_of_ble_eq_true h1
  omega
theorem xt_low {a : Nat} (h : a < 128) : xt a = 2 * a := by
  unfold xt
  rw [Nat.div_eq_of_lt h, Nat.zero_mul, Nat.xor_zero]
theorem xt_high {a : Nat} (h : 128 ≤ a) (h2 : a < 256) : xt a = (2 * a) ^^^ 283 := by
  unfold xt
  rw [show a / 128 = 1 by omega, Nat.one_mul]
theorem gmTo_even {a b n : Nat} (h : b % 2 = 0) : gmTo a b (n + 1) = gmTo (xt a) (b / 2) n := by rw [gmTo, h, Nat.zero_mul, Nat.zero_xor]
theorem gmTo_odd {a b n : Nat} (h : b % 2 = 1) : gmTo a b (n + 1) = a ^^^ gmTo (xt a) (b / 2) n := by rw [gmTo, h, Nat.one_mul]
theorem gmTo_zero (a n : Nat) : gmTo a 0 n = 0 := by
  induction n generalizing a with
  | zero => rfl
  | succ n ih => rw [gmTo, Nat.zero_div, ih]; simp
/-- Where the loop stands: what is still to add makes the product. -/
def At (a0 b0 a b o : Nat) : Prop := a < 256 ∧ o < 256 ∧ ∃ n, b < 2 ^ n ∧ n ≤ 8 ∧ o ^^^ gmTo a b n = gm a0 b0
theorem At.start {a0 b0 : Nat} (ha : a0 < 256) (hb : b0 < 256) : At a0 b0 a0 b0 0 := ⟨ha, by decide, 8, hb, Nat.le_refl _, by rw [Nat.zero_xor]; rfl⟩
theorem At.lt {a0 b0 a b o : Nat} (h : At a0 b0 a b o) : b < 256 := by
  obtain ⟨_, _, n, hb, hn, _⟩ := h
  exact Nat.lt_of_lt_of_le hb (Nat.pow_le_pow_right (by decide) hn : 2 ^ n ≤ 2 ^ 8)
theorem At.fin {a0 b0 a o : Nat} (h : At a0 b0 a 0 o) : o = gm a0 b0 := by
  obtain ⟨_, _, n, _, _, e⟩ := h
  rwa [gmTo_zero, Nat.xor_zero] at e
theorem xor_lt {a b : Nat} (ha : a < 256) (hb : b < 256) : a ^^^ b < 256 := Nat.xor_lt_two_pow (n := 8) ha hb
theorem At.even {a0 b0 a b o : Nat} (h : At a0 b0 a b o) (hb : 0 < b) (h2 : b % 2 = 0) : At a0 b0 (xt a) (b / 2) o := by
  obtain ⟨ha, ho, n, hn, h8, e⟩ := h
  cases n with
  | zero => simp at hn; omega
  | succ n => exact ⟨xt_lt ha, ho, n, by rw [Nat.pow_succ] at hn; omega, by omega, by rw [← e, gmTo_even h2]⟩
theorem At.odd {a0 b0 a b o : Nat} (h : At a0 b0 a b o) (_ : 0 < b) (h2 : b % 2 = 1) : At a0 b0 (xt a) (b / 2) (o ^^^ a) := by
  obtain ⟨ha, ho, n, hn, h8, e⟩ := h
  cases n with
  | zero => simp at hn; omega
  | succ n => exact ⟨xt_lt ha, xor_lt ho ha, n, by rw [Nat.pow_succ] at hn; omega, by omega, by rw [← e, gmTo_odd h2, Nat.xor_assoc]⟩
/-- A byte as a number. -/
def bi (x : B) : Int := (x.toNat : Int)
theorem bi_range (x : B) : 0 ≤ bi x ∧ bi x ≤ 255 := by have := x.isLt; unfold bi; omega
def ib (z : Int) : B := BitVec.ofNat 8 z.toNat
theorem bi_ib {z : Int} (h0 : 0 ≤ z) (h1 : z ≤ 255) : bi (ib z) = z := by
  unfold bi ib
  rw [BitVec.toNat_ofNat, Nat.mod_eq_of_lt (by omega)]
  omega
theorem ib_bi (x : B) : ib (bi x) = x := by
  unfold ib bi
  apply BitVec.eq_of_toNat_eq
  rw [BitVec.toNat_ofNat, Int.toNat_natCast]
  exact Nat.mod_eq_of_lt x.isLt
theorem bi_inj {x y : B} (h : bi x = bi y) : x = y := by rw [← ib_bi x, h, ib_bi]
theorem bi_zero : bi 0 = 0 := rfl
theorem bi_xor (x y : B) : bits .xor .i64 (bi x) (bi y) = bi (x ^^^ y) := by
  have hx := x.isLt
  have hy := y.isLt
  unfold bi
  rw [xor64_nat _ _ (by omega) (by omega), BitVec.toNat_xor]
theorem bi_mul (x y : B) : bi (mul x y) = ((gm x.toNat y.toNat : Nat) : Int) := by unfold bi; rw [mul_toNat]
end Go.Proofs.Ytfplfkebamgniaa.MGF
