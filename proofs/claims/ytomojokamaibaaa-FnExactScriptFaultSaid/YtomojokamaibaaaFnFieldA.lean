/- What FnField wants besides. -/
import Derived.Test.YtomojokamaibaaaSFieldA
import Derived.Test.YtomojokamaibaaaChap2
import Derived.Test.YtomojokamaibaaaFldA
namespace Go.Proofs.Ytomojokamaibaaa
open Go.RowKit Go.PlainAid G MGF
theorem bi_one : bi 1 = 1 := rfl
theorem mulI_one (x : B) : mulI (bi x) 1 = bi x := by
  have h := mulI_bi x 1
  rw [mul_one] at h
  exact h
theorem invI_bi {x : B} (h : x ≠ 0) : invI (bi x) = bi (inv x) := by
  have h1 := bi_ne h
  have h2 := (bi_range x).2
  unfold invI
  rw [if_pos ⟨h1, h2⟩, ib_bi]
theorem powI_bi (x : B) (n : Nat) : powI (bi x) (n : Int) = bi (pw x n) := by
  have h2 := bi_range x
  unfold powI
  rw [if_pos ⟨h2.1, h2.2, Int.natCast_nonneg _⟩, ib_bi, Int.toNat_natCast]
theorem powI_255 {x : B} (h : x ≠ 0) : powI (bi x) 255 = 1 := by
  have e := powI_bi x 255
  rw [pw_255 h] at e
  exact e
theorem divI_bi {x y : B} (h : y ≠ 0) : divI (bi x) (bi y) = bi (mul x (inv y)) := by
  have h1 := bi_ne h
  have h2 := (bi_range y).2
  have h3 := bi_range x
  unfold divI
  rw [if_pos ⟨h3.1, h3.2, h1, h2⟩, ib_bi, ib_bi]
theorem mul_div {x y : B} (h : x ≠ 0) : mul (mul x y) (inv x) = y := by rw [mul_comm x y, mul_assoc, mul_inv h, mul_one]
theorem lt_of_wf {n : Int} (h : (Lit.int .i64 n).wf = true) : n < 9223372036854775808 := by have := bounds_i64 h; omega
end Go.Proofs.Ytomojokamaibaaa
/- What the program's products, powers, inverses and quotients answer. -/
namespace Go.Proofs.Ytomojokamaibaaa
open Go.RowKit Go.PlainAid G IRow MGF
set_option linter.unusedVariables false
theorem b_mod (x : B) : bi x % 256 = bi x := by have := bi_range x; omega
/-- Behind a call that wrote nothing but its own field. -/
theorem fld_end (w : World) {o : Obj} {w' : World} (hg : (w.alloc o).grownBy w' (some w.heap.size)) : Below w.heap.size w w' :=
  ((Below.refl w.heap.size w).alloc (Nat.le_refl _) o).grown hg (by simp) (fun k e => by cases e; exact Nat.le_refl _)
end Go.Proofs.Ytomojokamaibaaa
