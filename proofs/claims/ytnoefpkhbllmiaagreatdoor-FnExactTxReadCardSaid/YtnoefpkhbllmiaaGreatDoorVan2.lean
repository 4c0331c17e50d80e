/- Which points, and which places, are right: the program's looks, by a list of what was seen. -/
import Derived.Test.YtnoefpkhbllmiaaGreatDoorSPointsA
import Derived.Test.YtnoefpkhbllmiaaGreatDoorFnFieldA
import Derived.Test.YtnoefpkhbllmiaaGreatDoorHPointA
import Derived.Test.YtnoefpkhbllmiaaGreatDoorPolyB
namespace Go.Proofs.YtnoefpkhbllmiaaGreatDoor
open Go.RowKit Go.PlainAid G MGF IRow
set_option linter.unusedVariables false
/-- A list of what was seen, in its block. -/
def Seen (w : World) (b : Nat) (S : Nat → Bool) : Prop := b < w.heap.size ∧ ∀ i, i < 256 → w.cell? ⟨b, i, none⟩ = some (.bool (S i)) ∧ w.frozen? ⟨b, i, none⟩ = false
theorem Seen.set {w : World} {b : Nat} {S : Nat → Bool} (h : Seen w b S) {i : Nat} (_ : i < 256) (T : Nat → Bool) (hT : ∀ j, j < 256 → T j = if j = i then true else S j) : Seen (w.setCell ⟨b, i, none⟩ (.bool true)) b T := by
  refine ⟨by simpa using h.1, fun j hj => ⟨?_, by rw [World.frozen?_setCell]; exact (h.2 j hj).2⟩⟩
  rw [hT j hj]
  by_cases e : j = i
  · subst e
    rw [World.cell?_setCell_same _ _ _ (h.2 j hj).1, if_pos rfl]
  · rw [World.cell?_setCell_other _ _ _ _ (fun h2 => e (by injection h2 with _ h3 _; exact h3.symm)), (h.2 j hj).1, if_neg e]
theorem Seen.below {w w' : World} {b : Nat} {S : Nat → Bool} (h : Seen w b S) (hb : Below w.heap.size w w') : Seen w' b S :=
  ⟨Nat.lt_of_lt_of_le h.1 hb.size, fun i hi => ⟨(hb.cell (p := ⟨b, i, none⟩) h.1).trans (h.2 i hi).1, (hb.frozen (p := ⟨b, i, none⟩) h.1).trans (h.2 i hi).2⟩⟩
end Go.Proofs.YtnoefpkhbllmiaaGreatDoor
/- What the program's vanish answers. -/
namespace Go.Proofs.YtnoefpkhbllmiaaGreatDoor
open Go.RowKit Go.PlainAid G MGF IRow
set_option linter.unusedVariables false
/-- A struct of a pointer and a slice in a block of its own. -/
def PBox (u : World) (b : Nat) (x : Option Addr) (a : Option Addr) (k c : Nat) : Prop := ∃ t, u.heap[b]? = some (.cells #[.pointer x, .slice a k c] t (0, 0))
theorem PBox.lt {u : World} {b : Nat} {x a : Option Addr} {k c : Nat} (h : PBox u b x a k c) : b < u.heap.size := by
  obtain ⟨t, h⟩ := h
  exact (Array.getElem?_eq_some_iff.1 h).1
theorem PBox.cells {u : World} {b : Nat} {x a : Option Addr} {k c : Nat} (h : PBox u b x a k c) : u.cell? ⟨b, 0, none⟩ = some (.pointer x) ∧ u.cell? ⟨b, 1, none⟩ = some (.slice a k c) ∧ u.frozen? ⟨b, 0, none⟩ = false ∧ u.frozen? ⟨b, 1, none⟩ = false := by
  obtain ⟨t, h⟩ := h
  exact ⟨by rw [cell_of_row u b 0 _ _ _ h]; rfl, by rw [cell_of_row u b 1 _ _ _ h]; rfl, frozen_of_row u b 0 _ _ h, frozen_of_row u b 1 _ _ h⟩
theorem PBox.grown {u v : World} {b : Nat} {x a : Option Addr} {k c : Nat} (h : PBox u b x a k c) {row : Option Nat} (hg : u.grownBy v row) (hne : some b ≠ row) : PBox v b x a k c := by
  have hlt := h.lt
  obtain ⟨t, h⟩ := h
  exact ⟨t, (hg.block b hlt hne).trans h⟩
theorem PBox.below {u v : World} {b : Nat} {x a : Option Addr} {k c : Nat} (h : PBox u b x a k c) (hb : Below u.heap.size u v) : PBox v b x a k c := h.grown (fg_below (row := none) hb) (by simp)
theorem PBox.made (u : World) (x a : Option Addr) (k c : Nat) (t : TypeId) : PBox (u.alloc (.cells #[.pointer x, .slice a k c] t)) u.heap.size x a k c := ⟨t, by show (u.heap.push _)[u.heap.size]? = _; simp⟩
theorem PBox.put {u : World} {b : Nat} {x a : Option Addr} {k c : Nat} (h : PBox u b x a k c) (y a' : Option Addr) (k' c' : Nat) : PBox ((u.setCell ⟨b, 0, none⟩ (.pointer y)).setCell ⟨b, 1, none⟩ (.slice a' k' c')) b y a' k' c' := by
  obtain ⟨t, h⟩ := h
  exact ⟨t, heap_setCell_same _ b 1 _ t _ (heap_setCell_same u b 0 _ t _ h)⟩
theorem PBox.other {u : World} {b d : Nat} {x a : Option Addr} {k c : Nat} (h : PBox u b x a k c) (hne : b ≠ d) (i : Nat) (v : Value) : PBox (u.setCell ⟨d, i, none⟩ v) b x a k c := h.grown (grown_set u d i v) (by simpa using hne)
/-- A row of bytes does not lie in such a block. -/
theorem PBox.ne {u : World} {b : Nat} {x a : Option Addr} {k c : Nat} (h : PBox u b x a k c) {f : Nat} {ar : Option Addr} {n cap : Nat} {p : List B} (hr : BR f u ar n cap p) (hn : 0 < n) : ∀ g o, ar = some ⟨g, o, none⟩ → g ≠ b := by
  rintro g o rfl rfl
  obtain ⟨t, h⟩ := h
  obtain ⟨g', o', he, _, _, hc⟩ := hr.cells hn
  simp only [Option.some.injEq, Addr.mk.injEq, and_true] at he
  obtain ⟨rfl, rfl⟩ := he
  have h0 := hc 0 hn
  rw [cell_of_row u g _ _ _ _ h] at h0
  rcases Nat.lt_or_ge (o + 0) 2 with hlt | hge
  · match o, hlt with
    | 0, _ => simp at h0
    | 1, _ => simp at h0
  · rw [Array.getElem?_eq_none (by simpa using hge)] at h0
    cases h0
theorem BR.put {f : Nat} {u : World} {ar : Option Addr} {n cap : Nat} {p : List B} (hr : BR f u ar n cap p) {b : Nat} {x a : Option Addr} {k c : Nat} (h : PBox u b x a k c) (y a' : Option Addr) (k' c' : Nat) : BR f ((u.setCell ⟨b, 0, none⟩ (.pointer y)).setCell ⟨b, 1, none⟩ (.slice a' k' c')) ar n cap p := by
  by_cases hn : 0 < n
  · exact (hr.set (h.ne hr hn) 0 _).set (h.ne hr hn) 1 _
  · exact ⟨hr.len, hr.le, hr.nil, fun h => absurd h hn⟩
theorem lit8_one (f : Nat) (w : World) (x : B) (e : TypeId) (hf : f < w.heap.size) : BR f (w.alloc (.cells #[.int .u8 (bi x)] e)) (some ⟨w.heap.size, 0, none⟩) 1 1 [x] := BR.own (World.ownsRow_lit w #[.int .u8 (bi x)] 1 (Nat.le_refl _) (by decide) rfl) hf
theorem lit8_two (f : Nat) (w : World) (x y : B) (e : TypeId) (hf : f < w.heap.size) : BR f (w.alloc (.cells #[.int .u8 (bi x), .int .u8 (bi y)] e)) (some ⟨w.heap.size, 0, none⟩) 2 2 [x, y] := BR.own (World.ownsRow_lit w #[.int .u8 (bi x), .int .u8 (bi y)] 2 (Nat.le_refl _) (by decide) rfl) hf
theorem lit8_1two (f : Nat) (w : World) (y : B) (e : TypeId) (hf : f < w.heap.size) : BR f (w.alloc (.cells #[.int .u8 1, .int .u8 (bi y)] e)) (some ⟨w.heap.size, 0, none⟩) 2 2 [1, y] := lit8_two f w 1 y e hf
theorem b_wrap (x : B) : IntKind.u8.wrap (bi x) = bi x := by rw [IntKind.wrap_u8]; exact b_mod x
theorem trim_one : trim [(1 : B)] = [1] := trim_of_right (fun _ => by simp)
theorem trim_pair {y : B} (h : y ≠ 0) (x : B) : trim [x, y] = [x, y] := trim_of_right (fun _ => by simpa using h)
end Go.Proofs.YtnoefpkhbllmiaaGreatDoor
/- What the program's Vanish answers. -/
namespace Go.Proofs.YtnoefpkhbllmiaaGreatDoor
open Go.RowKit Go.PlainAid G MGF IRow
set_option linter.unusedVariables false
theorem told_short {p : List B} (h : p.length ≤ 60) : told p = (pv p, 0) := by unfold told; rw [if_neg (by omega)]
end Go.Proofs.YtnoefpkhbllmiaaGreatDoor
