/- What the model's functions on points answer. -/
import Derived.Test.YtnoefpkhbllmiaaGreatDoorSPolyA
import Derived.Test.YtnoefpkhbllmiaaGreatDoorMParts2
namespace Go.Proofs.YtnoefpkhbllmiaaGreatDoor
open Go.RowKit Go.PlainAid G MGF IRow
set_option linter.unusedVariables false
end Go.Proofs.YtnoefpkhbllmiaaGreatDoor
/- What the model's polynomial through points answers. -/
namespace Go.Proofs.YtnoefpkhbllmiaaGreatDoor
open Go.RowKit Go.PlainAid G MGF IRow
set_option linter.unusedVariables false
theorem lit_one (w : World) (x : B) (e : TypeId) : (w.alloc (.cells #[.int .i64 (bi x)] e)).ownsRow w.heap.size e 1 (.slice (some ⟨w.heap.size, 0, none⟩) 1 1) 1 ((pv [x]).map (Value.int .i64)) := World.ownsRow_lit w #[.int .i64 (bi x)] 1 (Nat.le_refl _) (by decide) rfl
theorem lit_two (w : World) (x y : B) (e : TypeId) : (w.alloc (.cells #[.int .i64 (bi x), .int .i64 (bi y)] e)).ownsRow w.heap.size e 1 (.slice (some ⟨w.heap.size, 0, none⟩) 2 2) 2 ((pv [x, y]).map (Value.int .i64)) := World.ownsRow_lit w #[.int .i64 (bi x), .int .i64 (bi y)] 2 (Nat.le_refl _) (by decide) rfl
end Go.Proofs.YtnoefpkhbllmiaaGreatDoor
/- What the model's functions on places to vanish at answer. -/
namespace Go.Proofs.YtnoefpkhbllmiaaGreatDoor
open Go.RowKit Go.PlainAid G MGF IRow
set_option linter.unusedVariables false
end Go.Proofs.YtnoefpkhbllmiaaGreatDoor
/- What the model's Through, AtZero and Vanish answer. -/
namespace Go.Proofs.YtnoefpkhbllmiaaGreatDoor
open Go.RowKit Go.PlainAid G MGF IRow
set_option linter.unusedVariables false
def ibp (ps : List (Int × Int)) : List (B × B) := ps.map fun p => (ib p.1, ib p.2)
theorem ibp_pp (qs : List (B × B)) : ibp (pp qs) = qs := by
  unfold ibp pp
  rw [List.map_map]
  have : qs.map ((fun p : Int × Int => (ib p.1, ib p.2)) ∘ fun q : B × B => (bi q.1, bi q.2)) = qs.map id := List.map_congr_left (fun q _ => by
    show (ib (bi q.1), ib (bi q.2)) = q
    rw [ib_bi, ib_bi])
  rw [this, List.map_id]
def throughR (ps : List (Int × Int)) : List Int × Int := if 400 < ps.length then ([], 2) else if pointsB ps = true then (pv (thrS (ibp ps) ps.length), 0) else ([], 1)
def atZeroI (ps : List (Int × Int)) : Int := if pointsB ps = true then bi (ev (thrS (ibp ps) ps.length) 0) else -1
def vanishR (zs : List Int) : List Int × Int := if 400 < zs.length then ([], 2) else if xsB zs 20 = true then (pv (vanS (zs.map ib) zs.length), 0) else ([], 1)
theorem throughR_size {ps : List (Int × Int)} (h : 400 < ps.length) : throughR ps = ([], 2) := by unfold throughR; rw [if_pos h]
theorem throughR_form {ps : List (Int × Int)} (h : ¬ 400 < ps.length) (h2 : pointsB ps = false) : throughR ps = ([], 1) := by unfold throughR; rw [if_neg h, h2, if_neg (by decide)]
theorem throughR_pp {qs : List (B × B)} (h : ¬ 400 < (pp qs).length) (h2 : pointsB (pp qs) = true) : throughR (pp qs) = (pv (thrS qs qs.length), 0) := by unfold throughR; rw [if_neg h, if_pos h2, ibp_pp, pp_length]
theorem vanishR_size {zs : List Int} (h : 400 < zs.length) : vanishR zs = ([], 2) := by unfold vanishR; rw [if_pos h]
theorem vanishR_form {zs : List Int} (h : ¬ 400 < zs.length) (h2 : xsB zs 20 = false) : vanishR zs = ([], 1) := by unfold vanishR; rw [if_neg h, h2, if_neg (by decide)]
theorem vanishR_pv {xs : List B} (h : ¬ 400 < (pv xs).length) (h2 : xsB (pv xs) 20 = true) : vanishR (pv xs) = (pv (vanS xs xs.length), 0) := by unfold vanishR; rw [if_neg h, if_pos h2, map_ib_pv, pv_length]
theorem throughR_len (ps : List (Int × Int)) : (throughR ps).1.length ≤ 60 := by
  unfold throughR
  split
  · exact Nat.zero_le _
  · split
    · rename_i h
      obtain ⟨qs, rfl, h1, h2, h3⟩ := (pointsB_iff ps).1 h
      have := thrS_length qs qs.length (Nat.le_refl _)
      rw [ibp_pp, pp_length]
      show (pv _).length ≤ 60
      rw [pv_length]; omega
    · exact Nat.zero_le _
theorem vanishR_len (zs : List Int) : (vanishR zs).1.length ≤ 60 := by
  unfold vanishR
  split
  · exact Nat.zero_le _
  · split
    · rename_i h
      obtain ⟨xs, rfl, h1, _⟩ := (xsB_iff zs 20).1 h
      have := vanS_length xs xs.length
      show (pv (vanS ((pv xs).map ib) (pv xs).length)).length ≤ 60
      rw [pv_length, map_ib_pv, pv_length]; omega
    · exact Nat.zero_le _
end Go.Proofs.YtnoefpkhbllmiaaGreatDoor
