/- Plain facts on the CRC; nothing of the program stands here. -/
import Derived.OpenShut
import Derived.PlainAid
import Derived.Lib.Hide
namespace Go.Proofs.Ytfplfkebamgniaa.MCrc
open Go.PlainAid
def xor32 (x y : Int) : Int := bits .xor .u32 x y
theorem xor32_range (x y : Int) : 0 ≤ xor32 x y ∧ xor32 x y ≤ 4294967295 := bounds_u32 (wf_bits _ _ _ _)
theorem and32_range (x y : Int) : 0 ≤ bits .and .u32 x y ∧ bits .and .u32 x y ≤ 4294967295 := bounds_u32 (wf_bits _ _ _ _)
theorem xor32_def (x y : Int) : bits .xor .u32 x y = xor32 x y := rfl
theorem xor32_max (x : Int) : xor32 IntKind.u32.max x = xor32 x 4294967295 := by
  have e : IntKind.u32.max = 4294967295 := by decide
  rw [e]
  simp only [xor32, bits, BitVec.xor_comm]
/-- One bit of a byte goes into the register. -/
def crcBit (y : Int) : Int := if (bits .and .u32 y 1 == 1) = true then xor32 (y / 2) 3988292384 else y / 2
theorem crcBit_one {y : Int} (h : (bits .and .u32 y 1 == 1) = true) : crcBit y = xor32 (y / 2) 3988292384 := by unfold crcBit; rw [if_pos h]
theorem crcBit_nil {y : Int} (h : (bits .and .u32 y 1 == 1) = false) : crcBit y = y / 2 := by unfold crcBit; rw [if_neg (by rw [h]; exact Bool.false_ne_true)]
def crcBits (y : Int) : Nat → Int
  | 0 => y
  | n + 1 => crcBit (crcBits y n)
def crcTo (x : Int) (s : ByteArray) : Nat → Int
  | 0 => x
  | k + 1 => crcBits (xor32 (crcTo x s k) (bt s k)) 8
theorem crcBit_range {y : Int} (h : 0 ≤ y ∧ y ≤ 4294967295) : 0 ≤ crcBit y ∧ crcBit y ≤ 4294967295 := by
  unfold crcBit
  split
  · exact xor32_range _ _
  · omega
theorem crcBits_range {y : Int} (h : 0 ≤ y ∧ y ≤ 4294967295) (n : Nat) : 0 ≤ crcBits y n ∧ crcBits y n ≤ 4294967295 := by
  induction n with
  | zero => exact h
  | succ n ih => exact crcBit_range ih
theorem crcTo_range {x : Int} (h : 0 ≤ x ∧ x ≤ 4294967295) (s : ByteArray) (k : Nat) : 0 ≤ crcTo x s k ∧ crcTo x s k ≤ 4294967295 := by
  cases k with
  | zero => exact h
  | succ k => exact crcBits_range (xor32_range _ _) 8
/-- The CRC that goes on from crc over s. -/
def crcOn (crc : Int) (s : ByteArray) : Int := xor32 (crcTo (xor32 crc 4294967295) s s.size) 4294967295
theorem crcOn_range (crc : Int) (s : ByteArray) : 0 ≤ crcOn crc s ∧ crcOn crc s ≤ 4294967295 := xor32_range _ _
theorem crcOn_end {crc : Int} {s : ByteArray} {k : Nat} (h1 : k ≤ s.size) (h2 : ¬ k < s.size) : xor32 (crcTo (xor32 crc 4294967295) s k) 4294967295 = crcOn crc s := by
  obtain rfl : k = s.size := by omega
  rfl
theorem crcTo_succ (x : Int) (s : ByteArray) (k : Nat) : crcTo x s (k + 1) = crcBits (xor32 (crcTo x s k) (bt s k)) 8 := rfl
theorem crcBits_succ (y : Int) (n : Nat) : crcBits y (n + 1) = crcBit (crcBits y n) := rfl
end Go.Proofs.Ytfplfkebamgniaa.MCrc
