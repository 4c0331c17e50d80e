/- Texts put together: what the law uses of them. -/
import Derived.Test.YtidcpdfhnhfelaaGreatDoorQTxr23
import Derived.Test.YtidcpdfhnhfelaaGreatDoorQTxr00
/- What the laws' own functions on books answer. -/
namespace Go.Proofs.YtidcpdfhnhfelaaGreatDoor
open Go.RowKit Go.PlainAid G MGF IRow
set_option linter.unusedVariables false
/-- Two rows of different types lie in different blocks. -/
theorem own_types {w : World} {base base' : Nat} {e e' : TypeId} {size size' : Nat} {v u : Value} {n m : Nat} {xs ys : List Value} (h : w.ownsRow base e size v n xs) (k : w.ownsRow base' e' size' u m ys) (he : e ≠ e') : Disj v u := by
  intro g hg hu
  rcases h.2 with ⟨rfl, _⟩ | ⟨g1, c1, cur1, rfl, _, hh1, _⟩
  · simp [Value.ownBlock] at hg
  · rcases k.2 with ⟨rfl, _⟩ | ⟨g2, c2, cur2, rfl, _, hh2, _⟩
    · simp [Value.ownBlock] at hu
    · simp only [Value.ownBlock, Option.some.injEq] at hg hu
      subst hg
      subst hu
      rw [hh1] at hh2
      simp only [Option.some.injEq, Obj.cells.injEq] at hh2
      exact he hh2.2.1
end Go.Proofs.YtidcpdfhnhfelaaGreatDoor

