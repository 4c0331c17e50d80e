/- What the laws' own functions on parts answer: marks that are held; sizes; parts of the impl's. -/
import Derived.Test.YtdnbkjiijpeiiaaDoorHShA
namespace Go.Proofs.YtdnbkjiijpeiiaaDoor
open Go.RowKit Go.PlainAid G MGF IRow
set_option linter.unusedVariables false
/-- What is left of a size; or too much. -/
def LeftS (n : Nat) (l : List (Int × ByteArray)) (w : World) (e : Ending) (w' : World) : Prop :=
  ∃ r : Int, e = .returned (.int .i64 r) ∧ (0 ≤ r → n ≤ 1048576 ∧ ∀ t, t < n → (l.getD t shD).2.size ≤ 1048576) ∧ Below w.heap.size w w'
theorem shares_len {w : World} {base n cap : Nat} {a : Option Addr} {e : TypeId} {l : List (Int × ByteArray)} (h : w.ownsRow base e shE.k (.slice a n cap) n (shE.flat l)) : l.length = n := by
  have := h.1; rw [shE.flat_length] at this; exact Nat.eq_of_mul_eq_mul_right (show 0 < shE.k by decide) this
end Go.Proofs.YtdnbkjiijpeiiaaDoor
