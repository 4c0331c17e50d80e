/- Plain facts on texts that are put one behind the other. -/
import Derived.Lib.Hide
import Derived.Lib.UnsafeStr
import Derived.Lib.SlBytesRow
import Derived.Test.YtfplfkebamgniaaG
namespace Go.Proofs.Ytfplfkebamgniaa.MJoin
open Go.Lib
def sumL (ps : List ByteArray) : Nat := (ps.map ByteArray.size).sum
def catL (ps : List ByteArray) : List UInt8 := (ps.map fun p => p.data.toList).flatten
def catS (ps : List ByteArray) : ByteArray := ⟨(catL ps).toArray⟩
theorem catL_len (ps : List ByteArray) : (catL ps).length = sumL ps := by
  induction ps with
  | nil => rfl
  | cons p ps ih => simp only [catL, sumL, List.map_cons, List.flatten_cons, List.length_append, List.sum_cons] at *; rw [ih]; simp
theorem take_snoc (ps : List ByteArray) (k : Nat) (h : k < ps.length) : ps.take (k + 1) = ps.take k ++ [ps.getD k ByteArray.empty] := by
  rw [List.take_succ_eq_append_getElem h]
  simp [List.getD, List.getElem?_eq_getElem h]
theorem sumL_snoc (ps : List ByteArray) (p : ByteArray) : sumL (ps ++ [p]) = sumL ps + p.size := by simp [sumL]
theorem catL_snoc (ps : List ByteArray) (p : ByteArray) : catL (ps ++ [p]) = catL ps ++ p.data.toList := by simp [catL]
theorem sumL_step {ps : List ByteArray} {k : Nat} (h : k < ps.length) : sumL (ps.take (k + 1)) = sumL (ps.take k) + (ps.getD k ByteArray.empty).size := by rw [take_snoc ps k h, sumL_snoc]
theorem sumL_le (ps : List ByteArray) (k : Nat) : sumL (ps.take k) ≤ sumL ps := by
  induction ps generalizing k with
  | nil => simp [sumL]
  | cons p ps ih =>
    cases k with
    | zero => simp [sumL]
    | succ k => have := ih k; simp only [sumL, List.take_succ_cons, List.map_cons, List.sum_cons] at *; omega
theorem sumL_all {ps : List ByteArray} {k : Nat} (h : ps.length ≤ k) : sumL (ps.take k) = sumL ps := by rw [List.take_of_length_le h]
/-- A row of n cells, the first of which are the bytes l, the rest zero. -/
def fill (l : List UInt8) (n : Nat) : Array Value := (byteCells l ++ List.replicate (n - l.length) (Value.int .u8 0)).toArray
theorem fill_size {l : List UInt8} {n : Nat} (h : l.length ≤ n) : (fill l n).size = n := by simp [fill, byteCells]; omega
theorem fill_spl {ps : List ByteArray} {k : Nat} (h : k < ps.length) : G.spl (fill (catL (ps.take k)) (sumL ps)) (sumL (ps.take k)) (ps.getD k ByteArray.empty) = fill (catL (ps.take (k + 1))) (sumL ps) := by
  have h1 := sumL_step h
  have h2 := sumL_le ps (k + 1)
  have l1 := catL_len (ps.take k)
  have lb : (byteCells (catL (ps.take k))).length = sumL (ps.take k) := by rw [byteCells_length, l1]
  unfold G.spl fill
  congr 1
  rw [take_snoc ps k h, catL_snoc, byteCells_append, List.length_append, l1, List.take_append_of_le_length (by rw [lb]; exact Nat.le_refl _), List.take_of_length_le (by rw [lb]; exact Nat.le_refl _)]
  rw [List.append_assoc]
  congr 1
  congr 1
  show List.drop _ (_ ++ _) = _
  rw [List.drop_append, List.drop_of_length_le (by rw [lb]; omega), lb, List.nil_append, List.drop_replicate]
  congr 1
  simp
  omega
theorem fill_made (n : Nat) : (madeCells (Value.int .u8 0).cells (n * 1)) = fill [] n := by
  apply Array.ext
  · simp [fill, size_madeCells, byteCells]
  · intro i h1 h2
    simp [fill, madeCells, byteCells, Value.cells, Nat.mod_one]
/-- A row that a make has just laid. -/
theorem made_row {w : World} {base g n : Nat} {e : TypeId} {z : Value} (h : w.ownsRow base e 1 (.slice (some ⟨g, 0, none⟩) n n) n (madeCells z.cells (n * 1)).toList) :
    w.heap[g]? = some (.cells (madeCells z.cells (n * 1)) e (0, 0)) := by
  rcases h.2 with ⟨h, _⟩ | ⟨g', cap, cur, hv, _, hg, _, _, hcs, htake⟩
  · cases h
  · injection hv with h1 h2 h3
    injection h1 with h1
    injection h1 with h1
    subst h1 h3
    have e1 : cur = madeCells z.cells (n * 1) := by
      apply Array.toList_inj.1
      rw [← htake, List.take_of_length_le (by simp [hcs])]
    rw [hg, e1]
theorem made_fill {w : World} {base g n : Nat} {e : TypeId} (h : w.ownsRow base e 1 (.slice (some ⟨g, 0, none⟩) n n) n (madeCells (Value.int .u8 0).cells (n * 1)).toList) :
    w.heap[g]? = some (.cells (fill [] n) e (0, 0)) := by rw [made_row h, fill_made]
theorem conv_fill {P : Program} {w : World} (src dst e t : TypeId) (hs : P.underlying src = some (.slice e)) (he : P.underlying e = some (.int .u8)) (hd : P.underlying dst = some .string)
    (g : Nat) (ps : List ByteArray) (hg : w.heap[g]? = some (.cells (fill (catL ps) (sumL ps)) t (0, 0))) (cap : Nat) :
    (convert src dst (.slice (some ⟨g, 0, none⟩) (sumL ps) cap)).run P w = .ok (.string (catS ps)) w := by
  have hsz : (catS ps).size = sumL ps := by rw [← catL_len]; simp [catS, ByteArray.size]
  have h := Lib.run_convert_whole (P := P) w src e dst hs he hd g 0 (catS ps) (fun i hi => by
    have hil : i < (catL ps).length := by rw [catL_len, ← hsz]; exact hi
    rw [Nat.zero_add, cell_of_row w g i _ _ _ hg]
    unfold fill
    rw [List.getElem?_toArray, List.getElem?_append_left (by rw [byteCells_length]; exact hil)]
    simp [byteCells, hil]
    rfl) cap
  rwa [hsz] at h
end Go.Proofs.Ytfplfkebamgniaa.MJoin
