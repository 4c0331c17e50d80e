/- Texts put together: what the law uses of them. -/
import Derived.Test.YtidcpdfhnhfelaaGreatDoorQRpl12
import Derived.Test.YtidcpdfhnhfelaaGreatDoorQRpl20
import Derived.Test.YtidcpdfhnhfelaaGreatDoorQRpl27
import Derived.Test.YtidcpdfhnhfelaaGreatDoorQRpl00
/- Lists of deeds done one after the other, each as a whole: the mathematics. -/
namespace Go.Proofs.YtidcpdfhnhfelaaGreatDoor
open Go.RowKit Go.PlainAid G MGet MGF IRow MNum MJoin
set_option linter.unusedVariables false
/-- A list that may be done: of right deeds, ten at most. -/
def LR (l : List Dd) : Prop := 1 ≤ l.length ∧ l.length ≤ 10 ∧ ∀ t, t < l.length → deedOf (l.getD t ddD) = true
theorem rdTx_right (u : ByteArray) (h : ¬ rdTx u = []) : LR (rdTx u) := by
  by_cases hc : 1 ≤ (sN u (0, false)).1 ∧ (sN u (0, false)).1 ≤ 10 ∧ okTo u (sN u (0, false)).2 (sN u (0, false)).1.toNat = true ∧ (plAt u (sN u (0, false)).2 (sN u (0, false)).1.toNat).1 = u.size
  · rw [rdTx_yes hc]
    refine ⟨by rw [ddsTo_length]; omega, by rw [ddsTo_length]; omega, fun t ht => ?_⟩
    rw [ddsTo_length] at ht
    have e : (ddsTo u (sN u (0, false)).2 (sN u (0, false)).1.toNat).getD t ddD = ddAt u (sN u (0, false)).2 t := by
      unfold ddsTo
      simp [List.getD, ht]
    rw [e]
    exact (okDeed_iff.1 (okTo_of hc.2.2.1 ht)).2
  · exact absurd (rdTx_no hc) h
theorem rdPart_right (t : ByteArray) (h : ¬ rdPart t = []) : LR (rdPart t) := by
  unfold rdPart at h ⊢
  split
  · rename_i h1
    rw [if_pos h1] at h
    exact rdTx_right _ h
  · rename_i h1
    rw [if_neg h1] at h
    exact absurd rfl h
theorem txF_right (s : ByteArray) : ∀ (f p : Nat), ∀ l ∈ txF s f p, LR l
  | 0, _, l, h => by cases h
  | f + 1, p, l, h => by
    unfold txF at h
    split at h
    · split at h
      · cases h
      · rename_i h2
        rcases List.mem_cons.1 h with rfl | h
        · exact rdPart_right _ h2
        · exact txF_right s f _ l h
    · cases h
theorem txRd_right (s : ByteArray) : ∀ l ∈ txRd s, LR l := txF_right s _ _
/-- Lists done from a book on, each as a whole, till one can not be done; and how many were. -/
def rpS : Bk → List (List Dd) → Bk × Nat
  | b, [] => (b, 0)
  | b, l :: r => if (doAllS b l).2 = 0 then ((rpS (doAllS b l).1 r).1, (rpS (doAllS b l).1 r).2 + 1) else (b, 0)
theorem rpS_go {b : Bk} {l : List Dd} {r : List (List Dd)} (h : (doAllS b l).2 = 0) : rpS b (l :: r) = ((rpS (doAllS b l).1 r).1, (rpS (doAllS b l).1 r).2 + 1) := by
  conv => lhs; unfold rpS
  rw [if_pos h]
theorem rpS_no {b : Bk} {l : List Dd} {r : List (List Dd)} (h : ¬ (doAllS b l).2 = 0) : rpS b (l :: r) = (b, 0) := by
  unfold rpS
  rw [if_neg h]
theorem doAllS_right : ∀ (ds : List Dd) {b : Bk}, bookB b = true → (∀ t, t < ds.length → deedOf (ds.getD t ddD) = true) → (doAllS b ds).2 = 0 → bookB (doAllS b ds).1 = true
  | [], b, hb, _, _ => hb
  | d :: r, b, hb, hd, hc => by
    have h0 : deedOf d = true := hd 0 (by simp)
    unfold doAllS at hc ⊢
    by_cases h1 : (doS b d).2 = 0
    · rw [if_pos h1] at hc ⊢
      exact doAllS_right r (bookB_right (doS_right hb h0 h1)) (fun t ht => by have := hd (t + 1) (by simpa using ht); simpa [List.getD] using this) hc
    · rw [if_neg h1] at hc
      exact absurd hc h1
theorem bookB_bk0 : bookB bk0 = true := by decide
theorem rpS_right : ∀ (ls : List (List Dd)) {b : Bk}, bookB b = true → (∀ l ∈ ls, LR l) → bookB (rpS b ls).1 = true
  | [], b, hb, _ => hb
  | l :: r, b, hb, hl => by
    by_cases h : (doAllS b l).2 = 0
    · rw [rpS_go h]
      exact rpS_right r (doAllS_right l hb (hl l (List.mem_cons_self ..)).2.2 h) (fun x hx => hl x (List.mem_cons_of_mem _ hx))
    · rw [rpS_no h]
      exact hb
/-- The book of all that is read. -/
def bkOf (s : ByteArray) : Bk := (rpS bk0 (txRd s)).1
theorem bkOf_right (s : ByteArray) : bookB (bkOf s) = true := rpS_right _ bookB_bk0 (txRd_right s)
end Go.Proofs.YtidcpdfhnhfelaaGreatDoor

/- A struct of six or seven cells in a block of its own, stored into as a whole. -/
namespace Go.Proofs.YtidcpdfhnhfelaaGreatDoor
open Go.RowKit Go.PlainAid G MGF IRow
set_option linter.unusedVariables false
theorem grown_below {B : Nat} {w x y : World} {h : Nat} (hb : Below B w x) (hg : x.grownBy y (some h)) (hB : B ≤ h) (hs : B ≤ x.heap.size) : Below B w y :=
  hb.grown hg hs (fun q hq => by obtain rfl : h = q := Option.some.inj hq; exact hB)
theorem own_apartP {w w' : World} {base : Nat} {e : TypeId} {size : Nat} {v : Value} {n : Nat} {xs : List Value} {M : Nat} (h : w.ownsRow base e size v n xs) (hg : w.grownBy w' (some M)) (hne : ∀ g, v.ownBlock = some g → g ≠ M) : w'.ownsRow base e size v n xs := by
  refine h.kept hg ?_
  cases hv : v.ownBlock with
  | none => exact .inl rfl
  | some g => exact .inr (fun e => hne g hv (Option.some.inj e))
theorem own_far {w w' : World} {base : Nat} {e : TypeId} {size : Nat} {v : Value} {n : Nat} {xs : List Value} {M : Nat} (h : w.ownsRow base e size v n xs) (hg : w.grownBy w' (some M)) (hM : M < base) : w'.ownsRow base e size v n xs :=
  own_apartP h hg (fun g hg e => by have := (h.lt g hg).1; omega)
theorem bkO_far {w w' : World} {base : Nat} {a1 a2 : Option Addr} {n1 a3 n2 a4 : Nat} {ts : List Tm} {is : List Im} {M : Nat} (h : BkO w base a1 n1 a3 a2 n2 a4 ts is) (hg : w.grownBy w' (some M)) (hM : M < base) : BkO w' base a1 n1 a3 a2 n2 a4 ts is := ⟨own_far h.t hg hM, own_far h.i hg hM⟩
theorem set_grown (x : World) (h j : Nat) (v : Value) : x.grownBy (x.setCell ⟨h, j, none⟩ v) (some h) :=
  ⟨rfl, rfl, rfl, by simp, fun k hk hne => Below.heap_setCell x ⟨h, j, none⟩ v k (fun e => hne (by rw [e]))⟩
/-- A book stored whole. -/
theorem box_put6 {x : World} {h : Nat} {z0 z1 z2 z3 z4 z5 : Value} (k : BoxC x h [z0, z1, z2, z3, z4, z5]) (v0 v1 v2 v3 v4 v5 : Value) :
    BoxC ((((((x.setCell ⟨h, 0, none⟩ v0).setCell ⟨h, 1, none⟩ v1).setCell ⟨h, 2, none⟩ v2).setCell ⟨h, 3, none⟩ v3).setCell ⟨h, 4, none⟩ v4).setCell ⟨h, 5, none⟩ v5) h [v0, v1, v2, v3, v4, v5] ∧
    x.grownBy ((((((x.setCell ⟨h, 0, none⟩ v0).setCell ⟨h, 1, none⟩ v1).setCell ⟨h, 2, none⟩ v2).setCell ⟨h, 3, none⟩ v3).setCell ⟨h, 4, none⟩ v4).setCell ⟨h, 5, none⟩ v5) (some h) :=
  ⟨((((((k.set (j := 0) (by simp) v0).set (j := 1) (by simp) v1).set (j := 2) (by simp) v2).set (j := 3) (by simp) v3).set (j := 4) (by simp) v4).set (j := 5) (by simp) v5),
   grown_trans (grown_trans (grown_trans (grown_trans (grown_trans (set_grown x h 0 v0) (set_grown _ h 1 v1)) (set_grown _ h 2 v2)) (set_grown _ h 3 v3)) (set_grown _ h 4 v4)) (set_grown _ h 5 v5)⟩
theorem box_put7 {x : World} {h : Nat} {z0 z1 z2 z3 z4 z5 z6 : Value} (k : BoxC x h [z0, z1, z2, z3, z4, z5, z6]) (v0 v1 v2 v3 v4 v5 v6 : Value) :
    BoxC (((((((x.setCell ⟨h, 0, none⟩ v0).setCell ⟨h, 1, none⟩ v1).setCell ⟨h, 2, none⟩ v2).setCell ⟨h, 3, none⟩ v3).setCell ⟨h, 4, none⟩ v4).setCell ⟨h, 5, none⟩ v5).setCell ⟨h, 6, none⟩ v6) h [v0, v1, v2, v3, v4, v5, v6] ∧
    x.grownBy (((((((x.setCell ⟨h, 0, none⟩ v0).setCell ⟨h, 1, none⟩ v1).setCell ⟨h, 2, none⟩ v2).setCell ⟨h, 3, none⟩ v3).setCell ⟨h, 4, none⟩ v4).setCell ⟨h, 5, none⟩ v5).setCell ⟨h, 6, none⟩ v6) (some h) :=
  ⟨(((((((k.set (j := 0) (by simp) v0).set (j := 1) (by simp) v1).set (j := 2) (by simp) v2).set (j := 3) (by simp) v3).set (j := 4) (by simp) v4).set (j := 5) (by simp) v5).set (j := 6) (by simp) v6),
   grown_trans (grown_trans (grown_trans (grown_trans (grown_trans (grown_trans (set_grown x h 0 v0) (set_grown _ h 1 v1)) (set_grown _ h 2 v2)) (set_grown _ h 3 v3)) (set_grown _ h 4 v4)) (set_grown _ h 5 v5)) (set_grown _ h 6 v6)⟩
end Go.Proofs.YtidcpdfhnhfelaaGreatDoor

