/- The program's polynomials: products. -/
import Derived.Test.YtnoefpkhbllmiaaGreatDoorPolyA
namespace Go.Proofs.YtnoefpkhbllmiaaGreatDoor
open Go.RowKit Go.PlainAid G IRow MGF
set_option linter.unusedVariables false
theorem mul_made' {p q : List B} {L : Nat} (hL : p.length + q.length = L) : ∃ r : List B, fl (fun t => bi (cf (mulP p q) t)) L = pv r ∧ r.length = L ∧ trim r = trim (mulP p q) := by
  obtain ⟨r, h1, h2, h3⟩ := fl_pv_same (p := mulP p q) (n := L)
  refine ⟨r, h1, h2, trim_eq (fun i => ?_)⟩
  by_cases h : i < L
  · exact h3 i h
  · rw [cf_past (p := r) (by omega), cf_mulP_past p q i (by omega)]
end Go.Proofs.YtnoefpkhbllmiaaGreatDoor
