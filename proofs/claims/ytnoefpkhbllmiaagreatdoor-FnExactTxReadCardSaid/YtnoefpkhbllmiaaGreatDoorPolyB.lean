/- What the program's PolyRight answers, and which fault a pair has. -/
import Derived.Test.YtnoefpkhbllmiaaGreatDoorSPolyA
import Derived.Test.YtnoefpkhbllmiaaGreatDoorFnFieldA
import Derived.Test.YtnoefpkhbllmiaaGreatDoorPoly5
namespace Go.Proofs.YtnoefpkhbllmiaaGreatDoor
open Go.RowKit Go.PlainAid G MGF IRow
set_option linter.unusedVariables false
end Go.Proofs.YtnoefpkhbllmiaaGreatDoor
/- What the program's Eval, PolyAdd and PolyMul answer. -/
namespace Go.Proofs.YtnoefpkhbllmiaaGreatDoor
open Go.RowKit Go.PlainAid G IRow MGF
set_option linter.unusedVariables false
/-- A struct of two cells in its block, that may be written. -/
def Box2 (u : World) (b : Nat) (x y : Value) : Prop := b < u.heap.size ∧ u.cell? ⟨b, 0, none⟩ = some x ∧ u.cell? ⟨b, 1, none⟩ = some y ∧ u.frozen? ⟨b, 0, none⟩ = false ∧ u.frozen? ⟨b, 1, none⟩ = false
theorem Box2.grown {u v : World} {b : Nat} {x y : Value} (h : Box2 u b x y) {row : Option Nat} (hg : u.grownBy v row) (hne : some b ≠ row) : Box2 v b x y := by
  have hblk := hg.block b h.1 hne
  exact ⟨Nat.lt_of_lt_of_le h.1 hg.size, hg.cell h.2.1 hne, hg.cell h.2.2.1 hne, (World.frozen?_of_block (w := u) (a := ⟨b, 0, none⟩) hblk).trans h.2.2.2.1, (World.frozen?_of_block (w := u) (a := ⟨b, 1, none⟩) hblk).trans h.2.2.2.2⟩
theorem Box2.below {u v : World} {b : Nat} {x y : Value} (h : Box2 u b x y) (hb : Below u.heap.size u v) : Box2 v b x y := h.grown (fg_below (row := none) hb) (by simp)
theorem Box2.made (w : World) (x y : Value) (t : TypeId) : Box2 (w.alloc (.cells #[x, y] t)) w.heap.size x y :=
  ⟨by rw [World.size_alloc]; omega, World.cell?_alloc_new w #[x, y] t 0, World.cell?_alloc_new w #[x, y] t 1, World.frozen?_alloc_new w #[x, y] t 0, World.frozen?_alloc_new w #[x, y] t 1⟩
theorem w64_bi (x : B) : wrap64 (bi x) = bi x := by have := bi_range x; simp [wrap64]; omega
end Go.Proofs.YtnoefpkhbllmiaaGreatDoor
