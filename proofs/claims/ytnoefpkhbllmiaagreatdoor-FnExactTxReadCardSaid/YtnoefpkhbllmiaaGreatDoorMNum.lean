/- Plain facts on the way that numbers are written; nothing of the program stands here. -/
import Derived.Lib.Hide
import Derived.PlainAid
import Derived.Laws.BytesArg
namespace Go.Proofs.YtnoefpkhbllmiaaGreatDoor.MNum
/-- The number from 0 on that stands for n. -/
def foldI (n : Int) : Int := if 0 ≤ n then 2 * n else -2 * n - 1
def p64 : Int := 18446744073709551616
def i64P (n : Int) : Prop := -9223372036854775808 ≤ n ∧ n ≤ 9223372036854775807
theorem foldI_range {n : Int} (h : i64P n) : 0 ≤ foldI n ∧ foldI n < p64 := by unfold foldI p64; unfold i64P at h; split <;> omega
theorem foldI_pos {n : Int} (h : 0 ≤ n) : foldI n = 2 * n := by simp [foldI, h]
theorem foldI_neg {n : Int} (h : n < 0) : foldI n = -2 * n - 1 := by simp [foldI, show ¬ 0 ≤ n by omega]
/-- The bytes of a number, the last one at most 127. -/
def encL : Nat → Int → List Int
  | 0, u => [u]
  | f + 1, u => if u < 128 then [u] else (u % 128 + 128) :: encL f (u / 128)
def encN (u : Int) : List Int := encL 9 u
def capN : Nat → Int
  | 0 => 128
  | f + 1 => 128 * capN f
theorem encL_small {f : Nat} {u : Int} (h : u < 128) : encL f u = [u] := by cases f <;> simp [encL, h]
theorem encL_big {f : Nat} {u : Int} (h : 128 ≤ u) : encL (f + 1) u = (u % 128 + 128) :: encL f (u / 128) := by simp [encL, show ¬ u < 128 by omega]
theorem cap_step {f : Nat} {u : Int} (h : u < capN (f + 1)) : u / 128 < capN f := by simp only [capN] at h; omega
theorem cap_all {u : Int} (h : u < p64) : u < capN 9 := by unfold p64 at h; simp [capN]; omega
theorem encL_len (f : Nat) (u : Int) : 1 ≤ (encL f u).length ∧ (encL f u).length ≤ f + 1 := by
  induction f generalizing u with
  | zero => simp [encL]
  | succ f ih => simp only [encL]; split <;> simp; exact (ih _).2
theorem encN_len (u : Int) : 1 ≤ (encN u).length ∧ (encN u).length ≤ 10 := encL_len 9 u
/-- What a number is written as. -/
def numS (n : Int) : ByteArray := strOfNums (encN (foldI n))
theorem numS_size (n : Int) : 1 ≤ (numS n).size ∧ (numS n).size ≤ 10 := by unfold numS; rw [strOfNums_size]; exact encN_len _
end Go.Proofs.YtnoefpkhbllmiaaGreatDoor.MNum
