/- Plain facts on the CRC; nothing of the program stands here. -/
import Derived.OpenShut
import Derived.PlainAid
import Derived.Lib.Hide
import Derived.Test.YtomojokamaibaaaFnSmall
import Derived.Lib.UnsafeStr
import Derived.Lib.SlBytesRow
import Derived.Test.YtomojokamaibaaaGRow
import Derived.Test.YtomojokamaibaaaBase
import Derived.Handy
import Derived.Test.YtomojokamaibaaaDrawA
namespace Go.Proofs.Ytomojokamaibaaa.MCrc
open Go.PlainAid
def xor32 (x y : Int) : Int := bits .xor .u32 x y
theorem xor32_range (x y : Int) : 0 ≤ xor32 x y ∧ xor32 x y ≤ 4294967295 := bounds_u32 (wf_bits _ _ _ _)
theorem and32_range (x y : Int) : 0 ≤ bits .and .u32 x y ∧ bits .and .u32 x y ≤ 4294967295 := bounds_u32 (wf_bits _ _ _ _)
theorem xor32_def (x y : Int) : bits .xor .u32 x y = xor32 x y := rfl
theorem xor32_max (x : Int) : xor32 IntKind.u32.max x = xor32 x 4294967295 := by
  have e : IntKind.u32.max = 4294967295 := by decide
  rw [e]
  simp only [xor32, bits, BitVec.xor_comm]
/-- One bit of a byte goes into the register. -/
def crcBit (y : Int) : Int := if (bits .and .u32 y 1 == 1) = true then xor32 (y / 2) 3988292384 else y / 2
theorem crcBit_one {y : Int} (h : (bits .and .u32 y 1 == 1) = true) : crcBit y = xor32 (y / 2) 3988292384 := by unfold crcBit; rw [if_pos h]
theorem crcBit_nil {y : Int} (h : (bits .and .u32 y 1 == 1) = false) : crcBit y = y / 2 := by unfold crcBit; rw [if_neg (by rw [h]; exact Bool.false_ne_true)]
def crcBits (y : Int) : Nat → Int
  | 0 => y
  | n + 1 => crcBit (crcBits y n)
def crcTo (x : Int) (s : ByteArray) : Nat → Int
  | 0 => x
  | k + 1 => crcBits (xor32 (crcTo x s k) (bt s k)) 8
theorem crcBit_range {y : Int} (h : 0 ≤ y ∧ y ≤ 4294967295) : 0 ≤ crcBit y ∧ crcBit y ≤ 4294967295 := by
  unfold crcBit
  split
  · exact xor32_range _ _
  · omega
theorem crcBits_range {y : Int} (h : 0 ≤ y ∧ y ≤ 4294967295) (n : Nat) : 0 ≤ crcBits y n ∧ crcBits y n ≤ 4294967295 := by
  induction n with
  | zero => exact h
  | succ n ih => exact crcBit_range ih
theorem crcTo_range {x : Int} (h : 0 ≤ x ∧ x ≤ 4294967295) (s : ByteArray) (k : Nat) : 0 ≤ crcTo x s k ∧ crcTo x s k ≤ 4294967295 := by
  cases k with
  | zero => exact h
  | succ k => exact crcBits_range (xor32_range _ _) 8
/-- The CRC that goes on from crc over s. -/
def crcOn (crc : Int) (s : ByteArray) : Int := xor32 (crcTo (xor32 crc 4294967295) s s.size) 4294967295
theorem crcOn_range (crc : Int) (s : ByteArray) : 0 ≤ crcOn crc s ∧ crcOn crc s ≤ 4294967295 := xor32_range _ _
theorem crcOn_end {crc : Int} {s : ByteArray} {k : Nat} (h1 : k ≤ s.size) (h2 : ¬ k < s.size) : xor32 (crcTo (xor32 crc 4294967295) s k) 4294967295 = crcOn crc s := by
  obtain rfl : k = s.size := by omega
  rfl
theorem crcTo_succ (x : Int) (s : ByteArray) (k : Nat) : crcTo x s (k + 1) = crcBits (xor32 (crcTo x s k) (bt s k)) 8 := rfl
theorem crcBits_succ (y : Int) (n : Nat) : crcBits y (n + 1) = crcBit (crcBits y n) := rfl
end Go.Proofs.Ytomojokamaibaaa.MCrc
/- What the functions on CRCs answer. -/
namespace Go.Proofs.Ytomojokamaibaaa
open Go.RowKit G MCrc
set_option linter.unusedVariables false
def crcMoreI (crc : Int) (s : ByteArray) : Int := if s.size ≤ 8000 ∧ 0 ≤ crc ∧ crc ≤ 4294967295 then crcOn crc s else 0
theorem crcMoreI_no {crc : Int} {s : ByteArray} (h : 8000 < s.size ∨ crc < 0 ∨ 4294967295 < crc) : crcMoreI crc s = 0 := by unfold crcMoreI; rw [if_neg (by omega)]
theorem crcMoreI_yes {crc : Int} {s : ByteArray} (h : s.size ≤ 8000) (h0 : 0 ≤ crc) (h1 : crc ≤ 4294967295) : crcMoreI crc s = crcOn crc s := by unfold crcMoreI; rw [if_pos ⟨h, h0, h1⟩]
def crcI (s : ByteArray) : Int := if s.size ≤ 8000 then crcOn 0 s else 0
theorem crcI_no {s : ByteArray} (h : 8000 < s.size) : crcI s = 0 := by unfold crcI; rw [if_neg (by omega)]
theorem crcI_yes {s : ByteArray} (h : s.size ≤ 8000) : crcI s = crcOn 0 s := by unfold crcI; rw [if_pos h]
theorem crcMoreI_zero (s : ByteArray) : crcMoreI 0 s = crcI s := by
  by_cases h : s.size ≤ 8000
  · rw [crcI_yes h, crcMoreI_yes h (by omega) (by omega)]
  · rw [crcI_no (by omega), crcMoreI_no (by omega)]
end Go.Proofs.Ytomojokamaibaaa
/- Plain facts on texts that are put one behind the other. -/
namespace Go.Proofs.Ytomojokamaibaaa.MJoin
open Go.Lib
def sumL (ps : List ByteArray) : Nat := (ps.map ByteArray.size).sum
def catL (ps : List ByteArray) : List UInt8 := (ps.map fun p => p.data.toList).flatten
def catS (ps : List ByteArray) : ByteArray := ⟨(catL ps).toArray⟩
theorem catL_len (ps : List ByteArray) : (catL ps).length = sumL ps := by
  induction ps with
  | nil => rfl
  | cons p ps ih => simp only [catL, sumL, List.map_cons, List.flatten_cons, List.length_append, List.sum_cons] at *; rw [ih]; simp
theorem take_snoc (ps : List ByteArray) (k : Nat) (h : k < ps.length) : ps.take (k + 1) = ps.take k ++ [ps.getD k ByteArray.empty] := by
  rw [List.take_succ_eq_append_getElem h]
  simp [List.getD, List.getElem?_eq_getElem h]
theorem sumL_snoc (ps : List ByteArray) (p : ByteArray) : sumL (ps ++ [p]) = sumL ps + p.size := by simp [sumL]
theorem catL_snoc (ps : List ByteArray) (p : ByteArray) : catL (ps ++ [p]) = catL ps ++ p.data.toList := by simp [catL]
theorem sumL_step {ps : List ByteArray} {k : Nat} (h : k < ps.length) : sumL (ps.take (k + 1)) = sumL (ps.take k) + (ps.getD k ByteArray.empty).size := by rw [take_snoc ps k h, sumL_snoc]
theorem sumL_le (ps : List ByteArray) (k : Nat) : sumL (ps.take k) ≤ sumL ps := by
  induction ps generalizing k with
  | nil => simp [sumL]
  | cons p ps ih =>
    cases k with
    | zero => simp [sumL]
    | succ k => have := ih k; simp only [sumL, List.take_succ_cons, List.map_cons, List.sum_cons] at *; omega
theorem sumL_all {ps : List ByteArray} {k : Nat} (h : ps.length ≤ k) : sumL (ps.take k) = sumL ps := by rw [List.take_of_length_le h]
/-- A row of n cells, the first of which are the bytes l, the rest zero. -/
def fill (l : List UInt8) (n : Nat) : Array Value := (byteCells l ++ List.replicate (n - l.length) (Value.int .u8 0)).toArray
theorem fill_size {l : List UInt8} {n : Nat} (h : l.length ≤ n) : (fill l n).size = n := by simp [fill, byteCells]; omega
theorem fill_spl {ps : List ByteArray} {k : Nat} (h : k < ps.length) : G.spl (fill (catL (ps.take k)) (sumL ps)) (sumL (ps.take k)) (ps.getD k ByteArray.empty) = fill (catL (ps.take (k + 1))) (sumL ps) := by
  have h1 := sumL_step h
  have h2 := sumL_le ps (k + 1)
  have l1 := catL_len (ps.take k)
  have lb : (byteCells (catL (ps.take k))).length = sumL (ps.take k) := by rw [byteCells_length, l1]
  unfold G.spl fill
  congr 1
  rw [take_snoc ps k h, catL_snoc, byteCells_append, List.length_append, l1, List.take_append_of_le_length (by rw [lb]; exact Nat.le_refl _), List.take_of_length_le (by rw [lb]; exact Nat.le_refl _)]
  rw [List.append_assoc]
  congr 1
  congr 1
  show List.drop _ (_ ++ _) = _
  rw [List.drop_append, List.drop_of_length_le (by rw [lb]; omega), lb, List.nil_append, List.drop_replicate]
  congr 1
  simp
  omega
theorem fill_made (n : Nat) : (madeCells (Value.int .u8 0).cells (n * 1)) = fill [] n := by
  apply Array.ext
  · simp [fill, size_madeCells, byteCells]
  · intro i h1 h2
    simp [fill, madeCells, byteCells, Value.cells, Nat.mod_one]
/-- A row that a make has just laid. -/
theorem made_row {w : World} {base g n : Nat} {e : TypeId} {z : Value} (h : w.ownsRow base e 1 (.slice (some ⟨g, 0, none⟩) n n) n (madeCells z.cells (n * 1)).toList) :
    w.heap[g]? = some (.cells (madeCells z.cells (n * 1)) e (0, 0)) := by
  rcases h.2 with ⟨h, _⟩ | ⟨g', cap, cur, hv, _, hg, _, _, hcs, htake⟩
  · cases h
  · injection hv with h1 h2 h3
    injection h1 with h1
    injection h1 with h1
    subst h1 h3
    have e1 : cur = madeCells z.cells (n * 1) := by
      apply Array.toList_inj.1
      rw [← htake, List.take_of_length_le (by simp [hcs])]
    rw [hg, e1]
theorem made_fill {w : World} {base g n : Nat} {e : TypeId} (h : w.ownsRow base e 1 (.slice (some ⟨g, 0, none⟩) n n) n (madeCells (Value.int .u8 0).cells (n * 1)).toList) :
    w.heap[g]? = some (.cells (fill [] n) e (0, 0)) := by rw [made_row h, fill_made]
theorem conv_fill {P : Program} {w : World} (src dst e t : TypeId) (hs : P.underlying src = some (.slice e)) (he : P.underlying e = some (.int .u8)) (hd : P.underlying dst = some .string)
    (g : Nat) (ps : List ByteArray) (hg : w.heap[g]? = some (.cells (fill (catL ps) (sumL ps)) t (0, 0))) (cap : Nat) :
    (convert src dst (.slice (some ⟨g, 0, none⟩) (sumL ps) cap)).run P w = .ok (.string (catS ps)) w := by
  have hsz : (catS ps).size = sumL ps := by rw [← catL_len]; simp [catS, ByteArray.size]
  have h := Lib.run_convert_whole (P := P) w src e dst hs he hd g 0 (catS ps) (fun i hi => by
    have hil : i < (catL ps).length := by rw [catL_len, ← hsz]; exact hi
    rw [Nat.zero_add, cell_of_row w g i _ _ _ hg]
    unfold fill
    rw [List.getElem?_toArray, List.getElem?_append_left (by rw [byteCells_length]; exact hil)]
    simp [byteCells, hil]
    rfl) cap
  rwa [hsz] at h
end Go.Proofs.Ytomojokamaibaaa.MJoin
/- What the function that puts texts one behind the other answers. -/
namespace Go.Proofs.Ytomojokamaibaaa
open Go.RowKit MJoin G
set_option linter.unusedVariables false
theorem catS_two (a b : ByteArray) : catS [a, b] = a ++ b := by
  apply ByteArray.ext
  apply Array.toList_inj.1
  simp [catS, catL]
theorem catS_one (a : ByteArray) : catS [a] = a := by
  apply ByteArray.ext
  apply Array.toList_inj.1
  simp [catS, catL]
end Go.Proofs.Ytomojokamaibaaa
/- What the functions that seal a text answer. -/
namespace Go.Proofs.Ytomojokamaibaaa
open Go.RowKit G MCrc
set_option linter.unusedVariables false
def fourL (c : Int) : List Int := [c % 256, c / 256 % 256, c / 65536 % 256, c / 16777216]
theorem crcI_range (s : ByteArray) : 0 ≤ crcI s ∧ crcI s ≤ 4294967295 := by
  unfold crcI
  split
  · exact crcOn_range _ _
  · omega
def crc4 (s : ByteArray) : ByteArray := strOfNums (fourL (crcI s))
theorem crc4_def (s : ByteArray) : strOfNums (fourL (crcI s)) = crc4 s := rfl
theorem crc4_size (s : ByteArray) : (crc4 s).size = 4 := by unfold crc4; rw [strOfNums_size]; rfl
def sealS (s : ByteArray) : ByteArray := if s.size ≤ 7996 then s ++ crc4 s else ⟨#[]⟩
theorem sealS_no {s : ByteArray} (h : 7996 < s.size) : sealS s = ⟨#[]⟩ := by unfold sealS; rw [if_neg (by omega)]
theorem sealS_yes {s : ByteArray} (h : s.size ≤ 7996) : sealS s = s ++ crc4 s := by unfold sealS; rw [if_pos h]
end Go.Proofs.Ytomojokamaibaaa
/- What more of the draws of chapter 2 answer. -/
namespace Go.Proofs.Ytomojokamaibaaa
open Go.RowKit G MCrc
set_option linter.unusedVariables false
def SomeCrc (w : World) (e : Ending) (w' : World) : Prop := ∃ (r : Int) (x : ByteArray), e = .returned (.tuple #[.int .i64 r, .string x]) ∧ (Lit.int .i64 r).wf = true ∧ x.size ≤ 30000 ∧ Below w.heap.size w w'
end Go.Proofs.Ytomojokamaibaaa
/- The byte that laws' lwAt tells, named ahead of the call. -/
namespace Go.Proofs.Ytomojokamaibaaa
open Go.RowKit G MCrc
set_option linter.unusedVariables false
end Go.Proofs.Ytomojokamaibaaa
