/- '[]byte(s)' of a text, one byte of it turned, and the text that it then is. -/
import Derived.Test.YtnoefpkhbllmiaaGreatGRow
import Derived.Laws.IdiomStrings
import Derived.PlainAid
namespace Go.Proofs.YtnoefpkhbllmiaaGreat.G
open Go.RowKit Go.PlainAid
/-- A block holds a text's bytes, none of them barred. -/
structure BytesAt (w : World) (g : Nat) (s : ByteArray) : Prop where
  cell : ∀ i, i < s.size → w.cell? ⟨g, i, none⟩ = some (.int .u8 (bt s i))
  free : ∀ i, i < s.size → w.frozen? ⟨g, i, none⟩ = false
theorem bytesAt_made (w : World) (s : ByteArray) (cap : Nat) (e : TypeId) :
    BytesAt ((w.alloc (.cells (bytesRow s cap) e ((bytesRow s cap).size, (bytesRow s cap).size + 1))).drew) w.heap.size s := by
  have hh : ((w.alloc (.cells (bytesRow s cap) e ((bytesRow s cap).size, (bytesRow s cap).size + 1))).drew).heap[w.heap.size]? = some (.cells (bytesRow s cap) e ((bytesRow s cap).size, (bytesRow s cap).size + 1)) := heap_alloc_new w _
  have hsz : s.size ≤ (bytesRow s cap).size := by simp [bytesRow]
  constructor
  · intro i hi
    rw [cell_of_row _ _ i _ _ _ hh, bytesRow_at s cap i (by simpa using hi)]
    unfold bt
    rw [dif_pos hi]
    rfl
  · intro i hi
    unfold World.frozen?
    simp only [hh]
    simp
    omega
theorem BytesAt.drew {w : World} {g : Nat} {s : ByteArray} (h : BytesAt w g s) : BytesAt w.drew g s := ⟨h.cell, h.free⟩
theorem BytesAt.below {w w' : World} {g : Nat} {s : ByteArray} (h : BytesAt w g s) (hb : Below w.heap.size w w') (hg : g < w.heap.size) : BytesAt w' g s :=
  ⟨fun i hi => (hb.cell hg).trans (h.cell i hi), fun i hi => (hb.frozen hg).trans (h.free i hi)⟩
/-- One byte turned. -/
def turned (s : ByteArray) (j : Nat) (y : Int) : ByteArray := strOfNums ((List.range s.size).map fun i => if i = j then y else bt s i)
theorem turned_size (s : ByteArray) (j : Nat) (y : Int) : (turned s j y).size = s.size := by unfold turned; rw [strOfNums_size]; simp
theorem bt_strOfNums {zs : List Int} {i : Nat} (h : ∀ z ∈ zs, 0 ≤ z ∧ z ≤ 255) (hi : i < zs.length) : bt (strOfNums zs) i = zs.getD i 0 := by
  have hs : i < (strOfNums zs).size := by rw [strOfNums_size]; exact hi
  have hz := h zs[i] (List.getElem_mem hi)
  unfold bt
  rw [dif_pos hs]
  have e : (strOfNums zs)[i] = UInt8.ofNat zs[i].toNat := by
    show (strOfNums zs).data[i] = _
    simp [strOfNums]
  rw [e]
  simp [List.getD, List.getElem?_eq_getElem hi]
  omega
theorem bt_turned {s : ByteArray} {j i : Nat} {y : Int} (hy : 0 ≤ y ∧ y ≤ 255) (hi : i < s.size) : bt (turned s j y) i = if i = j then y else bt s i := by
  unfold turned
  rw [bt_strOfNums (fun z hz => by
    obtain ⟨k, hk, rfl⟩ := List.mem_map.1 hz
    split
    · exact hy
    · exact ⟨bt_nonneg s k, bt_le s k⟩) (by simpa using hi)]
  simp [List.getD, hi]
theorem conv_turned {P : Program} {w : World} (src dst e : TypeId) (hs : P.underlying src = some (.slice e)) (he : P.underlying e = some (.int .u8)) (hd : P.underlying dst = some .string)
    {g j cap : Nat} {s : ByteArray} {y : Int} (h : BytesAt w g s) (hj : j < s.size) :
    (convert src dst (.slice (some ⟨g, 0, none⟩) s.size cap)).run P (w.setCell ⟨g, j, none⟩ (.int .u8 y)) = .ok (.string (turned s j y)) (w.setCell ⟨g, j, none⟩ (.int .u8 y)) := by
  refine run_convert_bytes_arg (P := P) _ src e hs he g 0 s.size cap _ (by simp) (fun i hi => ?_) dst hd
  rw [Nat.zero_add]
  by_cases hij : i = j
  · subst hij
    rw [World.cell?_setCell_same _ _ _ (h.cell i hi)]
    simp [List.getD, hi]
  · rw [World.cell?_setCell_other _ _ _ _ (by intro h2; simp_all), h.cell i hi]
    simp [List.getD, hi, hij]
/-- The cells of a text with one byte turned. -/
def TurnedAt (w : World) (g : Nat) (s : ByteArray) (j : Nat) (y : Int) : Prop := ∀ i, i < s.size → w.cell? ⟨g, i, none⟩ = some (.int .u8 (if i = j then y else bt s i))
theorem turned_made {w : World} {g j : Nat} {s : ByteArray} {y : Int} (h : BytesAt w g s) (hj : j < s.size) : TurnedAt (w.setCell ⟨g, j, none⟩ (.int .u8 y)) g s j y := by
  intro i hi
  by_cases hij : i = j
  · subst hij
    rw [World.cell?_setCell_same _ _ _ (h.cell i hi), if_pos rfl]
  · rw [World.cell?_setCell_other _ _ _ _ (by intro h2; simp_all), h.cell i hi, if_neg hij]
theorem TurnedAt.below {w w' : World} {g j : Nat} {s : ByteArray} {y : Int} (h : TurnedAt w g s j y) (hb : Below w.heap.size w w') (hg : g < w.heap.size) : TurnedAt w' g s j y :=
  fun i hi => (hb.cell hg).trans (h i hi)
theorem TurnedAt.alloc {w : World} {g j : Nat} {s : ByteArray} {y : Int} (h : TurnedAt w g s j y) (hg : g < w.heap.size) (o : Obj) : TurnedAt (w.alloc o) g s j y :=
  h.below ((Below.refl _ _).alloc (Nat.le_refl _) o) hg
theorem conv_at {P : Program} {w : World} (src dst e : TypeId) (hs : P.underlying src = some (.slice e)) (he : P.underlying e = some (.int .u8)) (hd : P.underlying dst = some .string)
    {g j cap : Nat} {s : ByteArray} {y : Int} (h : TurnedAt w g s j y) :
    (convert src dst (.slice (some ⟨g, 0, none⟩) s.size cap)).run P w = .ok (.string (turned s j y)) w := by
  refine run_convert_bytes_arg (P := P) _ src e hs he g 0 s.size cap _ (by simp) (fun i hi => ?_) dst hd
  rw [Nat.zero_add, h i hi]
  simp [List.getD, hi]
end Go.Proofs.YtnoefpkhbllmiaaGreat.G
