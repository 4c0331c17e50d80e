/- Rows of bytes that hold a polynomial, beside a field's block; what one call of the field's leaves. -/
import Derived.Test.YtomojokamaibaaaFldA
import Derived.Test.YtomojokamaibaaaMParts2
import Derived.Laws.CopyOwn
import Derived.Test.YtomojokamaibaaaSPolyA
import Derived.Deep.RegionHeld3
import Derived.Test.YtomojokamaibaaaFnFieldA
import Derived.StillTailTactics
namespace Go.Proofs.Ytomojokamaibaaa
open Go.RowKit Go.PlainAid G IRow MGF
set_option linter.unusedVariables false
/-- A row of bytes that can be read, in another block than f. -/
structure BR (f : Nat) (w : World) (a : Option Addr) (n cap : Nat) (p : List B) : Prop where
  len : p.length = n
  le : n ≤ cap
  nil : a = none → cap = 0
  cells : 0 < n → ∃ g o, a = some ⟨g, o, none⟩ ∧ g < w.heap.size ∧ g ≠ f ∧ ∀ i, i < n → w.cell? ⟨g, o + i, none⟩ = some (.int .u8 (bi (cf p i)))
theorem BR.grown {f : Nat} {w w' : World} {a : Option Addr} {n cap : Nat} {p : List B} (h : BR f w a n cap p) (hg : w.grownBy w' (some f)) : BR f w' a n cap p := by
  refine ⟨h.len, h.le, h.nil, fun hn => ?_⟩
  obtain ⟨g, o, ha, hgl, hne, hc⟩ := h.cells hn
  exact ⟨g, o, ha, Nat.lt_of_lt_of_le hgl hg.size, hne, fun i hi => hg.cell (hc i hi) (fun e => hne (by simpa using e))⟩
theorem fg_below {w w' : World} {row : Option Nat} (hb : Below w.heap.size w w') : w.grownBy w' row := ⟨hb.os, hb.tape, hb.output, hb.size, fun k hk _ => hb.block k hk⟩
theorem BR.below {f : Nat} {w w' : World} {a : Option Addr} {n cap : Nat} {p : List B} (h : BR f w a n cap p) (hb : Below w.heap.size w w') : BR f w' a n cap p := h.grown (fg_below hb)
theorem BR.take {f : Nat} {w : World} {a : Option Addr} {n cap k : Nat} {p : List B} (h : BR f w a n cap p) (hk : k ≤ n) : BR f w a k cap (p.take k) := by
  have hl := h.len
  refine ⟨by rw [List.length_take]; omega, by have := h.le; omega, h.nil, fun hn => ?_⟩
  obtain ⟨g, o, ha, hg, hne, hc⟩ := h.cells (by omega)
  refine ⟨g, o, ha, hg, hne, fun i hi => ?_⟩
  rw [hc i (by omega)]
  simp [cf, List.getD, hi]
/-- A row of the call's own, made behind f. -/
theorem BR.own {f : Nat} {w : World} {base n cap : Nat} {a : Option Addr} {e : TypeId} {p : List B} (h : w.ownsRow base e 1 (.slice a n cap) n ((pv p).map (Value.int .u8))) (hf : f < base) : BR f w a n cap p := by
  have hl : p.length = n := by have := h.1; simpa [pv] using this
  have hle : n ≤ cap ∧ (a = .none → cap = 0) := by
    rcases h.2 with ⟨hv, h0⟩ | ⟨g, c, cur, hv, _, _, hnc, _⟩
    · simp only [Value.slice.injEq] at hv
      obtain ⟨rfl, rfl, rfl⟩ := hv
      exact ⟨Nat.le_refl _, fun _ => rfl⟩
    · simp only [Value.slice.injEq] at hv
      obtain ⟨rfl, _, rfl⟩ := hv
      exact ⟨hnc, fun h => by cases h⟩
  refine ⟨hl, hle.1, hle.2, fun hn => ?_⟩
  obtain ⟨g, cap', hv, hb, hg⟩ := h.form hn
  simp only [Value.slice.injEq] at hv
  obtain ⟨rfl, _, rfl⟩ := hv
  refine ⟨g, 0, rfl, hg, by omega, fun i hi => ?_⟩
  rw [Nat.zero_add, h.cellAt i (by simp []; omega)]
  simp [pv, cf, List.getD, List.getElem?_eq_getElem (show i < p.length by omega)]
theorem own_fg {f : Nat} {w w' : World} {base : Nat} {e : TypeId} {size : Nat} {v : Value} {n : Nat} {xs : List Value} (h : w.ownsRow base e size v n xs) (hg : w.grownBy w' (some f)) (hf : f < base) : w'.ownsRow base e size v n xs := by
  refine h.kept hg ?_
  cases hv : v.ownBlock with
  | none => exact .inl rfl
  | some g => exact .inr (fun h2 => by have := (h.lt g hv).1; simp only [Option.some.injEq] at h2; omega)
/-- A store into a block that is newer than all of the first world. -/
theorem fg_set {w wr : World} {row : Option Nat} (h : w.grownBy wr row) {g : Nat} (hg : w.heap.size ≤ g) (k : Nat) (v : Value) : w.grownBy (wr.setCell ⟨g, k, none⟩ v) row :=
  ⟨h.os, h.tape, h.output, by have := h.size; simpa using this, fun i hi hne => (Below.heap_setCell wr ⟨g, k, none⟩ v i (by show i ≠ g; omega)).trans (h.block i hi hne)⟩
theorem fg_alloc {w wr : World} {row : Option Nat} (h : w.grownBy wr row) (o : Obj) : w.grownBy (wr.alloc o) row := grown_trans h (World.grownBy_alloc wr o row)
theorem Fld.set {w : World} {f : Nat} (h : Fld w f) {g : Nat} (hne : f ≠ g) (k : Nat) (v : Value) : Fld (w.setCell ⟨g, k, none⟩ v) f := h.grown (grown_set w g k v) (fun e => hne (by simpa using e))
theorem Fld.alloc {w : World} {f : Nat} (h : Fld w f) (o : Obj) : Fld (w.alloc o) f := h.grown (World.grownBy_alloc w o none) (by simp)
theorem Fld.drew {w : World} {f : Nat} (h : Fld w f) : Fld w.drew f := h
/-- A row of the call's own of bytes: what stands in it, and what may be stored. -/
theorem own_cell8 {w : World} {base g n cap : Nat} {e : TypeId} {zs : List Int} (h : w.ownsRow base e 1 (.slice (some ⟨g, 0, none⟩) n cap) n (zs.map (Value.int .u8))) {k : Nat} (hk : k < n) : w.cell? ⟨g, k, none⟩ = some (.int .u8 (zs.getD k 0)) := by
  have hl : zs.length = n := by have := h.1; simpa using this
  rw [h.cellAt k (by simp; omega)]
  simp [List.getD, List.getElem?_eq_getElem (show k < zs.length by omega)]
theorem own_stored8 {w : World} {base g n cap : Nat} {e : TypeId} {zs : List Int} (h : w.ownsRow base e 1 (.slice (some ⟨g, 0, none⟩) n cap) n (zs.map (Value.int .u8))) (k : Nat) (z : Int) :
    (w.setCell ⟨g, k, none⟩ (.int .u8 z)).ownsRow base e 1 (.slice (some ⟨g, 0, none⟩) n cap) n ((zs.set k z).map (Value.int .u8)) := by
  have := (h.stored k (.int .u8 z)).1
  rwa [map_set] at this
theorem madeZero8 (n : Nat) : (madeCells (Value.int .u8 0).cells (n * 1)).toList = (fl (fun _ => 0) n).map (Value.int .u8) := by
  rw [← fl_zero]
  apply List.ext_getElem
  · simp [size_madeCells]
  · intro i h1 h2
    simp [madeCells, Value.cells, Nat.mod_one]
theorem bi_xor8 (x y : B) : bits .xor .u8 (bi x) (bi y) = bi (x ^^^ y) := by
  unfold bi
  rw [BitVec.toNat_xor]
  have h2 : x.toNat ^^^ y.toNat < 2 ^ 8 := Nat.xor_lt_two_pow x.isLt y.isLt
  have ha' : x.toNat % 2 ^ IntKind.u8.bits = x.toNat := Nat.mod_eq_of_lt x.isLt
  have hb' : y.toNat % 2 ^ IntKind.u8.bits = y.toNat := Nat.mod_eq_of_lt y.isLt
  simp only [bits, BitVec.ofInt_natCast, BitVec.toNat_xor, BitVec.toNat_ofNat, ha', hb']
  rw [IntKind.wrap_u8]
  omega
/-- A made row and its block. -/
theorem own_heap {w : World} {base L g : Nat} {e : TypeId} {xs : List Value} (h : w.ownsRow base e 1 (.slice (some ⟨g, 0, none⟩) L L) L xs) : base ≤ g ∧ w.heap[g]? = some (.cells xs.toArray e (0, 0)) := by
  rcases h.2 with ⟨h', _⟩ | ⟨g', cap', cur, h', hb, hg, _, _, hs, ht⟩
  · simp at h'
  · simp only [Value.slice.injEq, Option.some.injEq, Addr.mk.injEq, and_true] at h'
    obtain ⟨rfl, _, rfl⟩ := h'
    refine ⟨hb, ?_⟩
    rw [List.take_of_length_le (by rw [Array.length_toList, hs]; exact Nat.le_refl _)] at ht
    rw [← ht]
    exact hg
theorem own_of_heap {w : World} {base L g : Nat} {e : TypeId} {xs : List Value} (hb : base ≤ g) (hg : w.heap[g]? = some (.cells xs.toArray e (0, 0))) (hl : xs.length = L) (hm : L ≤ maxLen) : w.ownsRow base e 1 (.slice (some ⟨g, 0, none⟩) L L) L xs :=
  ⟨by omega, .inr ⟨g, L, xs.toArray, rfl, hb, hg, Nat.le_refl _, hm, by simp [hl], by rw [Nat.mul_one]; exact List.take_of_length_le (by simp [hl])⟩⟩
theorem splice_pv {p : List B} {L : Nat} (f : Int → Value) (h : p.length ≤ L) : splice ((fl (fun _ => 0) L).map f) 0 ((pv p).map f) = (fl (fun t => bi (cf p t)) L).map f := by
  apply List.ext_getElem
  · simp [splice, pv, fl_length]; omega
  · intro i h1 h2
    by_cases hi : i < p.length
    · simp [splice, pv, fl, hi, cf]
    · simp [splice, pv, fl, List.getElem_append, hi, cf]
      rfl
theorem below_of_none {w w' : World} (h : w.grownBy w' none) : Below w.heap.size w w' := ⟨h.os, h.tape, h.output, h.size, fun k hk => h.block k hk (by simp)⟩
/-- A polynomial of the program's: its field, and its row. -/
def pvl (f : Nat) (v : Value) : Value := .agg #[.pointer (some ⟨f, 0, none⟩), v]
/-- What copy wants of a row. -/
theorem BR.src {f : Nat} {w : World} {a : Option Addr} {n cap : Nat} {p : List B} (h : BR f w a n cap p) (h0 : 0 < ((pv p).map (Value.int .u8)).length) : ∃ ad, a = some ad ∧ ∀ j v, ((pv p).map (Value.int .u8))[j]? = some v → w.cell? (ad.add j) = some v := by
  have hl := h.len
  have hp : 0 < p.length := by simpa [pv] using h0
  obtain ⟨g, o, ha, hg, hf, hc⟩ := h.cells (by omega)
  refine ⟨_, ha, fun j v hj => ?_⟩
  have hjl : j < p.length := by
    by_cases hj2 : j < p.length
    · exact hj2
    · rw [List.getElem?_eq_none (by simp [pv]; omega)] at hj
      cases hj
  have e1 : (⟨g, o, none⟩ : Addr).add j = ⟨g, o + j, none⟩ := by unfold Addr.add; split <;> simp_all
  rw [e1, hc j (by omega), ← hj]
  simp [pv, cf, List.getD, List.getElem?_eq_getElem hjl]
/-- A store into another block leaves a row. -/
theorem BR.set {f : Nat} {w : World} {a : Option Addr} {n cap : Nat} {p : List B} (h : BR f w a n cap p) {b : Nat} (hne : ∀ g o, a = some ⟨g, o, none⟩ → g ≠ b) (k : Nat) (v : Value) : BR f (w.setCell ⟨b, k, none⟩ v) a n cap p := by
  refine ⟨h.len, h.le, h.nil, fun hn => ?_⟩
  obtain ⟨g, o, ha, hgl, hf, hc⟩ := h.cells hn
  refine ⟨g, o, ha, by simpa using hgl, hf, fun i hi => ?_⟩
  have hh := hc i hi
  rw [← hh]
  exact World.cell?_of_block (w := w) (Below.heap_setCell w ⟨b, k, none⟩ v g (hne g o ha))
/-- A struct of two cells is stored into its block. -/
theorem box_put {w : World} {b : Nat} {x y u v : Value} (h0 : w.cell? ⟨b, 0, none⟩ = some u) (h1 : w.cell? ⟨b, 1, none⟩ = some v) :
    ((w.setCell ⟨b, 0, none⟩ x).setCell ⟨b, 1, none⟩ y).cell? ⟨b, 0, none⟩ = some x ∧ ((w.setCell ⟨b, 0, none⟩ x).setCell ⟨b, 1, none⟩ y).cell? ⟨b, 1, none⟩ = some y :=
  ⟨(World.cell?_setCell_other _ ⟨b, 1, none⟩ ⟨b, 0, none⟩ _ (by simp)).trans (World.cell?_setCell_same _ _ _ h0), World.cell?_setCell_same _ _ _ ((World.cell?_setCell_other _ ⟨b, 0, none⟩ ⟨b, 1, none⟩ _ (by simp)).trans h1)⟩
/-- Nothing of W has turned but the field's block f; and a field is there. -/
def FAt (W : World) (f : Nat) (u : World) : Prop := Fld u f ∧ W.grownBy u (some f)
theorem FAt.start {W : World} {f : Nat} (h : Fld W f) : FAt W f W := ⟨h, World.grownBy.refl _ _⟩
theorem FAt.fld {W u : World} {f : Nat} (h : FAt W f u) : Fld u f := h.1
theorem FAt.grown {W u : World} {f : Nat} (h : FAt W f u) : W.grownBy u (some f) := h.2
theorem FAt.step {W u v : World} {f : Nat} (h : FAt W f u) (k : FAt u f v) : FAt W f v := ⟨k.1, grown_trans h.2 k.2⟩
theorem FAt.drew {W u : World} {f : Nat} (h : FAt W f u) : FAt W f u.drew := ⟨h.1, grown_drew h.2⟩
theorem FAt.alloc {W u : World} {f : Nat} (h : FAt W f u) (o : Obj) : FAt W f (u.alloc o) := ⟨h.1.alloc o, fg_alloc h.2 o⟩
theorem FAt.below {W u v : World} {f : Nat} (h : FAt W f u) (hb : Below u.heap.size u v) : FAt W f v := ⟨h.1.below hb, grown_trans h.2 (fg_below hb)⟩
theorem FAt.set {W u : World} {f : Nat} (h : FAt W f u) {g : Nat} (hg : W.heap.size ≤ g) (hf : f < W.heap.size) (k : Nat) (v : Value) : FAt W f (u.setCell ⟨g, k, none⟩ v) := ⟨h.1.set (by omega) k v, fg_set h.2 hg k v⟩
theorem FAt.br {W u : World} {f : Nat} {a : Option Addr} {n cap : Nat} {p : List B} (h : FAt W f u) (k : BR f W a n cap p) : BR f u a n cap p := k.grown h.2
theorem FAt.cell {W u : World} {f : Nat} (h : FAt W f u) {a : Addr} {v : Value} (hc : W.cell? a = some v) (hne : a.block ≠ f) : u.cell? a = some v := h.2.cell hc (fun e => hne (by simpa using e))
theorem FAt.own {W u : World} {f : Nat} (h : FAt W f u) {base : Nat} {e : TypeId} {size : Nat} {v : Value} {n : Nat} {xs : List Value} (k : W.ownsRow base e size v n xs) (hf : f < base) : u.ownsRow base e size v n xs := own_fg k h.2 hf
theorem FAt.of {W u : World} {f : Nat} (h1 : Fld u f) (h2 : W.grownBy u (some f)) : FAt W f u := ⟨h1, h2⟩
end Go.Proofs.Ytomojokamaibaaa
/- The program's polynomials: trimmed, a list of bytes as one, a list of its own. -/
namespace Go.Proofs.Ytomojokamaibaaa
open Go.RowKit Go.PlainAid G IRow MGF
set_option linter.unusedVariables false
end Go.Proofs.Ytomojokamaibaaa
/- The program's polynomials: a list of bytes as one; what one is at a place. -/
namespace Go.Proofs.Ytomojokamaibaaa
open Go.RowKit Go.PlainAid G IRow MGF
set_option linter.unusedVariables false
end Go.Proofs.Ytomojokamaibaaa
/- The program's polynomials: a list of bytes as one, and one as a list of its own. -/
namespace Go.Proofs.Ytomojokamaibaaa
open Go.RowKit Go.PlainAid G IRow MGF
set_option linter.unusedVariables false
end Go.Proofs.Ytomojokamaibaaa
/- The program's polynomials: sums. -/
namespace Go.Proofs.Ytomojokamaibaaa
open Go.RowKit Go.PlainAid G IRow MGF
set_option linter.unusedVariables false
set_option maxRecDepth 100000 in
/-- Three blocks of two cells: what stands in them. -/
theorem three_boxes (w : World) (x0 x1 y0 y1 z0 z1 : Value) (t u v : TypeId) {wa : World} (h : wa = ((w.alloc (.cells #[x0, x1] t)).alloc (.cells #[y0, y1] u)).alloc (.cells #[z0, z1] v)) :
    wa.heap.size = w.heap.size + 3 ∧ (wa.cell? ⟨w.heap.size, 0, none⟩ = some x0 ∧ wa.cell? ⟨w.heap.size, 1, none⟩ = some x1) ∧ (wa.cell? ⟨w.heap.size + 1, 0, none⟩ = some y0 ∧ wa.cell? ⟨w.heap.size + 1, 1, none⟩ = some y1) ∧ (wa.cell? ⟨w.heap.size + 2, 0, none⟩ = some z0 ∧ wa.cell? ⟨w.heap.size + 2, 1, none⟩ = some z1) ∧ wa.frozen? ⟨w.heap.size + 2, 0, none⟩ = false ∧ wa.frozen? ⟨w.heap.size + 2, 1, none⟩ = false ∧ Below w.heap.size w wa := by
  subst h
  have s1 : (w.alloc (.cells #[x0, x1] t)).heap.size = w.heap.size + 1 := World.size_alloc _ _
  have s2 : ((w.alloc (.cells #[x0, x1] t)).alloc (.cells #[y0, y1] u)).heap.size = w.heap.size + 2 := by rw [World.size_alloc, s1]
  have a0 := World.cell?_alloc_new w #[x0, x1] t
  have a1 := World.cell?_alloc_new (w.alloc (.cells #[x0, x1] t)) #[y0, y1] u
  have a2 := World.cell?_alloc_new ((w.alloc (.cells #[x0, x1] t)).alloc (.cells #[y0, y1] u)) #[z0, z1] v
  have f2 := World.frozen?_alloc_new ((w.alloc (.cells #[x0, x1] t)).alloc (.cells #[y0, y1] u)) #[z0, z1] v
  rw [s1] at a1
  rw [s2] at a2 f2
  refine ⟨by rw [World.size_alloc, s2], ⟨?_, ?_⟩, ⟨?_, ?_⟩, ⟨a2 0, a2 1⟩, f2 0, f2 1, (((Below.refl _ _).alloc (Nat.le_refl _) _).alloc (by rw [s1]; omega) _).alloc (by rw [s2]; omega) _⟩
  · rw [World.cell?_alloc_past _ _ _ (by rw [s2]; omega), World.cell?_alloc_past _ _ _ (by rw [s1]; omega)]; exact a0 0
  · rw [World.cell?_alloc_past _ _ _ (by rw [s2]; omega), World.cell?_alloc_past _ _ _ (by rw [s1]; omega)]; exact a0 1
  · rw [World.cell?_alloc_past _ _ _ (by rw [s2]; omega)]; exact a1 0
  · rw [World.cell?_alloc_past _ _ _ (by rw [s2]; omega)]; exact a1 1
end Go.Proofs.Ytomojokamaibaaa
