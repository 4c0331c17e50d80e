/- What the model's functions on bytes that can be divided answer. -/
import Derived.Test.YtomojokamaibaaaGRow
import Derived.Test.YtomojokamaibaaaMParts2
import Derived.Test.YtomojokamaibaaaBase
namespace Go.Proofs.Ytomojokamaibaaa
open Go.RowKit Go.PlainAid G MGF
set_option linter.unusedVariables false
/-- What Mul, Pow, Inv and Div answer. -/
def mulI (a b : Int) : Int := if 0 ≤ a ∧ a ≤ 255 ∧ 0 ≤ b ∧ b ≤ 255 then bi (mul (ib a) (ib b)) else -1
def powI (a n : Int) : Int := if 0 ≤ a ∧ a ≤ 255 ∧ 0 ≤ n then bi (pw (ib a) n.toNat) else -1
def invI (a : Int) : Int := if 1 ≤ a ∧ a ≤ 255 then bi (inv (ib a)) else -1
def divI (a b : Int) : Int := if 0 ≤ a ∧ a ≤ 255 ∧ 1 ≤ b ∧ b ≤ 255 then bi (mul (ib a) (inv (ib b))) else -1
theorem byte_of {a : Int} (h0 : 0 ≤ a) (h1 : a ≤ 255) : ∃ x : B, a = bi x := ⟨ib a, (bi_ib h0 h1).symm⟩
theorem byteB_yes {a : Int} (h0 : 0 ≤ a) (h1 : a ≤ 255) : byteB a = true := by unfold byteB; exact decide_eq_true ⟨h0, h1⟩
theorem byteB_no {a : Int} (h : ¬ (0 ≤ a ∧ a ≤ 255)) : byteB a = false := by unfold byteB; exact decide_eq_false h
theorem byteB_bi (x : B) : byteB (bi x) = true := byteB_yes (bi_range x).1 (bi_range x).2
theorem mulI_bi (x y : B) : mulI (bi x) (bi y) = bi (mul x y) := by
  have h1 := bi_range x
  have h2 := bi_range y
  unfold mulI
  rw [if_pos ⟨h1.1, h1.2, h2.1, h2.2⟩, ib_bi, ib_bi]
end Go.Proofs.Ytomojokamaibaaa
/- What the model's Pow, Inv and Div answer. -/
namespace Go.Proofs.Ytomojokamaibaaa
open Go.RowKit Go.PlainAid G MGF
set_option linter.unusedVariables false
theorem byte_ne {a : Int} (h0 : 1 ≤ a) (h1 : a ≤ 255) : ∃ x : B, a = bi x ∧ x ≠ 0 := ⟨ib a, (bi_ib (by omega) h1).symm, fun h => by have := bi_ib (show 0 ≤ a by omega) h1; rw [h, bi_zero] at this; omega⟩
theorem bi_ne {x : B} (h : x ≠ 0) : 1 ≤ bi x := by
  have h1 := (bi_range x).1
  have h2 : bi x ≠ 0 := fun h2 => h (bi_inj (h2.trans bi_zero.symm))
  omega
end Go.Proofs.Ytomojokamaibaaa
