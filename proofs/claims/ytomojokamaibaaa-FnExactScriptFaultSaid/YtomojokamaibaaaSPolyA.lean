/- What the model's functions on polynomials answer. -/
import Derived.Test.YtomojokamaibaaaSFieldA
import Derived.Test.YtomojokamaibaaaHPolyA
import Derived.StillTailTactics
namespace Go.Proofs.Ytomojokamaibaaa
open Go.RowKit Go.PlainAid G MGF IRow
set_option linter.unusedVariables false
/-- A polynomial in new memory. -/
def NewPoly (p : List B) (w : World) (e : Ending) (w' : World) : Prop :=
  ∃ a k c, e = .returned (.slice a k c) ∧ w'.ownsRow w.heap.size 2 1 (.slice a k c) k ((pv p).map (Value.int .i64)) ∧ Below w.heap.size w w'
end Go.Proofs.Ytomojokamaibaaa
/- What the model's Eval, PolyAdd and PolyMul answer. -/
namespace Go.Proofs.Ytomojokamaibaaa
open Go.RowKit Go.PlainAid G MGF IRow
set_option linter.unusedVariables false
/-- What Eval answers. -/
def evalI (zs : List Int) (x : Int) : Int := if rightB zs = true ∧ byteB x = true then bi (ev (zs.map ib) (ib x)) else -1
theorem map_ib_pv (p : List B) : (pv p).map ib = p := by
  unfold pv
  rw [List.map_map]
  have : p.map (ib ∘ bi) = p.map id := List.map_congr_left (fun x _ => ib_bi x)
  rw [this, List.map_id]
theorem evalI_pv {p : List B} (h : rightB (pv p) = true) (x : B) : evalI (pv p) (bi x) = bi (ev p x) := by
  unfold evalI
  rw [if_pos ⟨h, byteB_bi x⟩, map_ib_pv, ib_bi]
/-- A polynomial, or a code, in new memory. -/
def NewOut (r : List Int × Int) (w : World) (e : Ending) (w' : World) : Prop :=
  ∃ a k c, e = .returned (polyV (.slice a k c) r.2) ∧ w'.ownsRow w.heap.size 2 1 (.slice a k c) k (r.1.map (Value.int .i64)) ∧ Below w.heap.size w w'
def told (p : List B) : List Int × Int := if 60 < p.length then ([], 9) else (pv p, 0)
theorem ret_out {r : List Int × Int} {zs : List Int} {c : Int} (h : r = (zs, c)) {w w' : World} {a : Option Addr} {k cap : Nat} (ho : w'.ownsRow w.heap.size 2 1 (.slice a k cap) k (zs.map (Value.int .i64))) (hb : Below w.heap.size w w') : NewOut r w (.returned (.agg #[.slice a k cap, .int .i64 c])) w' := by
  subst h
  exact ⟨a, k, cap, rfl, ho, hb⟩
def polyAddR (zs ys : List Int) : List Int × Int := if 400 < zs.length ∨ 400 < ys.length then ([], 2) else if rightB zs = true ∧ rightB ys = true then told (trim (addP (zs.map ib) (ys.map ib))) else ([], 1)
theorem polyAddR_len (zs ys : List Int) : (polyAddR zs ys).1.length ≤ 60 := by
  unfold polyAddR told
  split
  · exact Nat.zero_le _
  · split
    · split
      · exact Nat.zero_le _
      · rw [pv_length]; omega
    · exact Nat.zero_le _
theorem polyAddR_size {zs ys : List Int} (h : 400 < zs.length ∨ 400 < ys.length) : polyAddR zs ys = ([], 2) := by unfold polyAddR; rw [if_pos h]
theorem polyAddR_form {zs ys : List Int} (h : ¬ (400 < zs.length ∨ 400 < ys.length)) (h2 : ¬ (rightB zs = true ∧ rightB ys = true)) : polyAddR zs ys = ([], 1) := by unfold polyAddR; rw [if_neg h, if_neg h2]
theorem polyAddR_pv {p q : List B} (h : ¬ (400 < (pv p).length ∨ 400 < (pv q).length)) (h1 : rightB (pv p) = true) (h2 : rightB (pv q) = true) : polyAddR (pv p) (pv q) = told (trim (addP p q)) := by unfold polyAddR; rw [if_neg h, if_pos ⟨h1, h2⟩, map_ib_pv, map_ib_pv]
end Go.Proofs.Ytomojokamaibaaa
/- What the model's product of polynomials answers. -/
namespace Go.Proofs.Ytomojokamaibaaa
open Go.RowKit Go.PlainAid G MGF IRow
set_option linter.unusedVariables false
end Go.Proofs.Ytomojokamaibaaa
/- What the model's PolyMul answers. -/
namespace Go.Proofs.Ytomojokamaibaaa
open Go.RowKit Go.PlainAid G MGF IRow
set_option linter.unusedVariables false
def polyMulR (zs ys : List Int) : List Int × Int := if 400 < zs.length ∨ 400 < ys.length then ([], 2) else if rightB zs = true ∧ rightB ys = true then told (trim (mulP (zs.map ib) (ys.map ib))) else ([], 1)
theorem polyMulR_len (zs ys : List Int) : (polyMulR zs ys).1.length ≤ 60 := by
  unfold polyMulR told
  split
  · exact Nat.zero_le _
  · split
    · split
      · exact Nat.zero_le _
      · rw [pv_length]; omega
    · exact Nat.zero_le _
theorem polyMulR_size {zs ys : List Int} (h : 400 < zs.length ∨ 400 < ys.length) : polyMulR zs ys = ([], 2) := by unfold polyMulR; rw [if_pos h]
theorem polyMulR_form {zs ys : List Int} (h : ¬ (400 < zs.length ∨ 400 < ys.length)) (h2 : ¬ (rightB zs = true ∧ rightB ys = true)) : polyMulR zs ys = ([], 1) := by unfold polyMulR; rw [if_neg h, if_neg h2]
theorem polyMulR_pv {p q : List B} (h : ¬ (400 < (pv p).length ∨ 400 < (pv q).length)) (h1 : rightB (pv p) = true) (h2 : rightB (pv q) = true) : polyMulR (pv p) (pv q) = told (trim (mulP p q)) := by unfold polyMulR; rw [if_neg h, if_pos ⟨h1, h2⟩, map_ib_pv, map_ib_pv]
end Go.Proofs.Ytomojokamaibaaa
