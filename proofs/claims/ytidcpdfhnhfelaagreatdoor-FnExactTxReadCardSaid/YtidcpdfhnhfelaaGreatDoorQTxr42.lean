/- Texts put together: what the law uses of them. -/
import Derived.Test.YtidcpdfhnhfelaaGreatDoorQTxr24
import Derived.Test.YtidcpdfhnhfelaaGreatDoorQTxr38
import Derived.Test.YtidcpdfhnhfelaaGreatDoorQTxr39
import Derived.Test.YtidcpdfhnhfelaaGreatDoorQTxr00
/- What is read of all the bytes: the mathematics; rows of deeds, each in a block of its own. -/
namespace Go.Proofs.YtidcpdfhnhfelaaGreatDoor
open Go.RowKit Go.PlainAid G MGet MGF IRow MNum MJoin
set_option linter.unusedVariables false
/-- What is read from a place on, in so many steps. -/
def txF (s : ByteArray) : Nat → Nat → List (List Dd)
  | 0, _ => []
  | f + 1, p => if (getT s (p : Int)).2.2 = 0 then (if rdPart (getT s (p : Int)).1 = [] then [] else rdPart (getT s (p : Int)).1 :: txF s f (getT s (p : Int)).2.1.toNat) else []
def txRd (s : ByteArray) : List (List Dd) := txF s (s.size + 1) 0
theorem txF_no {s : ByteArray} {f p : Nat} (h : ¬ (getT s (p : Int)).2.2 = 0) : txF s f p = [] := by
  cases f with
  | zero => rfl
  | succ f => unfold txF; rw [if_neg h]
theorem txF_end {s : ByteArray} {f p : Nat} (h : rdPart (getT s (p : Int)).1 = []) : txF s f p = [] := by
  cases f with
  | zero => rfl
  | succ f =>
    unfold txF
    split <;> first | rfl | rw [if_pos h]
theorem txF_go {s t : ByteArray} {f p p' : Nat} (h : getT s (p : Int) = (t, (p' : Int), 0)) (hr : ¬ rdPart t = []) : txF s (f + 1) p = rdPart t :: txF s f p' := by
  conv => lhs; unfold txF
  rw [h]
  rw [if_pos rfl, if_neg hr]
  rfl
theorem txt_far {u : ByteArray} {a : Nat} (h : (txtS u a).2.2 = 0) : (a : Int) < (txtS u a).2.1 ∧ (txtS u a).2.1 ≤ (u.size : Int) := by
  unfold txtS at h ⊢
  split at h
  · rename_i h1; exact absurd h h1
  · rename_i h1
    rw [if_neg h1]
    split at h
    · exact absurd h (by decide)
    · rename_i h2
      rw [if_neg h2]
      split at h
      · exact absurd h (by decide)
      · rename_i h3
        rw [if_neg h3]
        have hp := rd_place u a 10 0 0 (by simpa using h1)
        dsimp only
        omega
theorem getT_step {s : ByteArray} {p : Nat} (h : (getT s (p : Int)).2.2 = 0) : ∃ t p', getT s (p : Int) = (t, ((p' : Nat) : Int), 0) ∧ p < p' ∧ p' ≤ s.size ∧ t.size ≤ maxLen ∧ s.size ≤ 8000 := by
  by_cases hl : 8000 < s.size
  · rw [getT_size hl] at h; exact absurd h (by decide)
  · rw [getT_read hl] at h ⊢
    obtain ⟨t, p', _, hy, hp, ht⟩ := sT_step (by omega) h
    have hf := txt_far h
    rw [hy] at hf
    dsimp only at hf
    exact ⟨t, p', hy, by omega, hp, ht, by omega⟩
theorem getT_zero {s : ByteArray} {p : Nat} (h : ¬ (getT s (p : Int)).2.2 = 0) : getT s (p : Int) = (⟨#[]⟩, 0, (getT s (p : Int)).2.2) := by
  by_cases hl : 8000 < s.size
  · rw [getT_size hl]
  · rw [getT_read hl] at h ⊢
    exact txt_zero s p h
/-- A row: where it lies, and its deeds. -/
structure Rw where
  a : Option Addr
  n : Nat
  c : Nat
  l : List Dd
abbrev Rw.v (r : Rw) : Value := .slice r.a r.n r.c
def rwD : Rw := ⟨none, 0, 0, []⟩
def rwE : Enc Rw := ⟨1, fun r => [.slice r.a r.n r.c], fun _ => rfl, fun _ v hv => by simp at hv; subst hv; rfl⟩
theorem infoDeeds : (Tryz.prog.info? 63).map (fun i => (i.zero, i.size, i.bytes)) = some (some (Value.slice none 0 0), 1, 24) := by kernel_rfl
/-- Rows of deeds in new memory, each in a block of its own. -/
structure SS (w : World) (B : Nat) (v : Value) (rs : List Rw) : Prop where
  out : w.ownsRow B 63 rwE.k v rs.length (rwE.flat rs)
  row : ∀ i, i < rs.length → w.ownsRow B 110 ddE.k (rs.getD i rwD).v (rs.getD i rwD).n (ddE.flat (rs.getD i rwD).l)
  dis : ∀ i j, i < j → j < rs.length → Disj (rs.getD i rwD).v (rs.getD j rwD).v
theorem SS.nil (w : World) (B : Nat) : SS w B (.slice none 0 0) [] := ⟨World.ownsRow_nil _ _ _ _, fun i hi => absurd hi (Nat.not_lt_zero _), fun i j _ hj => absurd hj (Nat.not_lt_zero _)⟩
theorem SS.below {w w' : World} {B : Nat} {v : Value} {rs : List Rw} (h : SS w B v rs) (hb : Below w.heap.size w w') : SS w' B v rs :=
  ⟨own_below h.out hb, fun i hi => own_below (h.row i hi) hb, h.dis⟩
/-- One row more: the outer row in a world that has grown at its own block alone. -/
theorem SS.push {w w' : World} {B : Nat} {v v' : Value} {rs : List Rw} {r : Rw} (h : SS w B v rs) (hr : w.ownsRow B 110 ddE.k r.v r.n (ddE.flat r.l)) (hd : ∀ i, i < rs.length → Disj (rs.getD i rwD).v r.v)
    (ho : w'.ownsRow B 63 rwE.k v' (rs.length + 1) (rwE.flat (rs ++ [r]))) (hg : w.grownBy w' v.ownBlock) : SS w' B v' (rs ++ [r]) := by
  have hl : (rs ++ [r]).length = rs.length + 1 := by simp
  have e1 : ∀ i, i < rs.length → (rs ++ [r]).getD i rwD = rs.getD i rwD := fun i hi => by simp [List.getD, List.getElem?_append_left hi]
  have e2 : (rs ++ [r]).getD rs.length rwD = r := by simp [List.getD]
  refine ⟨by rw [hl]; exact ho, fun i hi => ?_, fun i j hij hj => ?_⟩
  · rcases Nat.lt_or_ge i rs.length with h1 | h1
    · rw [e1 i h1]
      exact own_grown (h.row i h1) hg (own_types (h.row i h1) h.out (by decide))
    · obtain rfl : i = rs.length := by omega
      rw [e2]
      exact own_grown hr hg (own_types hr h.out (by decide))
  · rcases Nat.lt_or_ge j rs.length with h1 | h1
    · rw [e1 j h1, e1 i (by omega)]
      exact h.dis i j hij h1
    · obtain rfl : j = rs.length := by omega
      rw [e2, e1 i hij]
      exact hd i hij
/-- All that is read, in new memory. -/
def NewSS (ls : List (List Dd)) (w : World) (e : Ending) (w' : World) : Prop :=
  ∃ a n c rs, e = .returned (.slice a n c) ∧ n = rs.length ∧ SS w' w.heap.size (.slice a n c) rs ∧ rs.map Rw.l = ls ∧ Below w.heap.size w w'
end Go.Proofs.YtidcpdfhnhfelaaGreatDoor

