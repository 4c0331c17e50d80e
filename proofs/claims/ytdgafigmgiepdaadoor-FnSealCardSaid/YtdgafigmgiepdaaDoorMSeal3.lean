/- What FnSeal still wants of plain facts. -/
import Derived.Test.YtdgafigmgiepdaaDoorMSeal2
import Derived.Test.YtdgafigmgiepdaaDoorMBytes
namespace Go.Proofs.YtdgafigmgiepdaaDoor
open Go.RowKit Go.PlainAid G MCrc
theorem bt_turned_other {s : ByteArray} {j i : Nat} {y : Int} (hy : 0 ≤ y ∧ y ≤ 255) (h : i ≠ j) : bt (turned s j y) i = bt s i := by
  by_cases hi : i < s.size
  · rw [bt_turned hy hi, if_neg h]
  · unfold bt
    rw [dif_neg hi, dif_neg (by rw [turned_size]; exact hi)]
theorem xor8_nat (a b : Nat) (ha : a < 256) (hb : b < 256) : bits .xor .u8 (a : Int) (b : Int) = ((a ^^^ b : Nat) : Int) := by
  have h2 : a ^^^ b < 2 ^ 8 := Nat.xor_lt_two_pow (by omega) (by omega)
  have ha' : a % 2 ^ IntKind.u8.bits = a := Nat.mod_eq_of_lt (Nat.lt_of_lt_of_le ha (by decide))
  have hb' : b % 2 ^ IntKind.u8.bits = b := Nat.mod_eq_of_lt (Nat.lt_of_lt_of_le hb (by decide))
  simp only [bits, BitVec.ofInt_natCast, BitVec.toNat_xor, BitVec.toNat_ofNat, ha', hb']
  rw [IntKind.wrap_u8]
  exact Int.emod_eq_of_lt (Int.natCast_nonneg _) (by omega)
theorem xor8_ne {x m : Int} (h0 : 0 ≤ x) (h1 : x ≤ 255) (hm0 : 1 ≤ m) (hm1 : m ≤ 255) : bits .xor .u8 x m ≠ x := by
  obtain ⟨a, rfl⟩ := Int.eq_ofNat_of_zero_le h0
  obtain ⟨b, rfl⟩ := Int.eq_ofNat_of_zero_le (show 0 ≤ m by omega)
  intro h
  have h2 : ((a ^^^ b : Nat) : Int) = (a : Int) := by rw [← xor8_nat a b (by omega) (by omega)]; exact h
  have h3 : a ^^^ b = a := by omega
  have h4 : a ^^^ (a ^^^ b) = b := by rw [← Nat.xor_assoc, Nat.xor_self, Nat.zero_xor]
  rw [h3, Nat.xor_self] at h4
  omega
theorem wf_crc {c : Int} (h : 0 ≤ c ∧ c ≤ 4294967295) : (Lit.int .i64 c).wf = true := by
  simp only [Lit.wf, IntKind.min, IntKind.max, IntKind.signed, IntKind.bits]
  simp
  omega
end Go.Proofs.YtdgafigmgiepdaaDoor
