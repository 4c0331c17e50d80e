/- Texts put together: what the law uses of them. -/
import Derived.Test.YtidcpdfhnhfelaaGreatDoorQTxr18
import Derived.Test.YtidcpdfhnhfelaaGreatDoorQTxr26
import Derived.Test.YtidcpdfhnhfelaaGreatDoorQTxr00
/- What is read of deeds' bytes: the mathematics. -/
namespace Go.Proofs.YtidcpdfhnhfelaaGreatDoor
open Go.RowKit Go.PlainAid G MGet MGF IRow MNum MJoin
set_option linter.unusedVariables false
abbrev Plc := Nat × Bool
def rcConf (u : ByteArray) (k : Int) (q : Plc) : Dd × Plc :=
  (⟨k, (sN u q).1, (sN u (sN u q).2).1, (sN u (sN u (sN u q).2).2).1, (sN u (sN u (sN u (sN u q).2).2).2).1, 0, ⟨#[]⟩, ⟨#[]⟩, 0, ⟨#[]⟩⟩, (sN u (sN u (sN u (sN u q).2).2).2).2)
def rcTerm (u : ByteArray) (k : Int) (q : Plc) : Dd × Plc :=
  (⟨k, 0, 0, 0, 0, (sN u q).1, (sT u (sN u q).2).1, ⟨#[]⟩, 0, ⟨#[]⟩⟩, (sT u (sN u q).2).2)
def rcPut (u : ByteArray) (k : Int) (q : Plc) : Dd × Plc :=
  (⟨k, 0, 0, 0, 0, 0, ⟨#[]⟩, (sT u q).1, (sN u (sT u q).2).1, (sT u (sN u (sT u q).2).2).1⟩, (sT u (sN u (sT u q).2).2).2)
def rcDel (u : ByteArray) (k : Int) (q : Plc) : Dd × Plc := (⟨k, 0, 0, 0, 0, 0, ⟨#[]⟩, (sT u q).1, 0, ⟨#[]⟩⟩, (sT u q).2)
def rcNone (k : Int) (q : Plc) : Dd × Plc := (⟨k, 0, 0, 0, 0, 0, ⟨#[]⟩, ⟨#[]⟩, 0, ⟨#[]⟩⟩, q)
/-- What stands behind a deed's kind. -/
def rcRest (u : ByteArray) (k : Int) (q : Plc) : Dd × Plc :=
  if k = 1 then rcConf u k q else if k = 2 then rcTerm u k q else if k = 3 then rcPut u k q else if k = 4 then rcDel u k q else rcNone k q
/-- A deed, read from a place on. -/
def rdDeed (u : ByteArray) (q : Plc) : Dd × Plc := rcRest u (sN u q).1 (sN u q).2
/-- Is it read, and right? -/
def okDeed (u : ByteArray) (q : Plc) : Bool := !(rdDeed u q).2.2 && deedOf (rdDeed u q).1
/-- The place behind so many deeds. -/
def plAt (u : ByteArray) (q : Plc) : Nat → Plc
  | 0 => q
  | n + 1 => (rdDeed u (plAt u q n)).2
def ddAt (u : ByteArray) (q : Plc) (i : Nat) : Dd := (rdDeed u (plAt u q i)).1
def ddsTo (u : ByteArray) (q : Plc) (n : Nat) : List Dd := (List.range n).map (ddAt u q)
def okTo (u : ByteArray) (q : Plc) (n : Nat) : Bool := (List.range n).all (fun i => okDeed u (plAt u q i))
/-- What is in a text of deeds that are done together; none, if it is none of such. -/
def rdTx (u : ByteArray) : List Dd :=
  if 1 ≤ (sN u (0, false)).1 ∧ (sN u (0, false)).1 ≤ 10 ∧ okTo u (sN u (0, false)).2 (sN u (0, false)).1.toNat = true ∧ (plAt u (sN u (0, false)).2 (sN u (0, false)).1.toNat).1 = u.size
  then ddsTo u (sN u (0, false)).2 (sN u (0, false)).1.toNat else []
theorem okTo_succ (u : ByteArray) (q : Plc) (n : Nat) : okTo u q (n + 1) = (okTo u q n && okDeed u (plAt u q n)) := by
  unfold okTo
  rw [List.range_succ, List.all_append]
  simp
theorem ddsTo_succ (u : ByteArray) (q : Plc) (n : Nat) : ddsTo u q (n + 1) = ddsTo u q n ++ [ddAt u q n] := by
  unfold ddsTo
  rw [List.range_succ, List.map_append]
  rfl
theorem ddsTo_length (u : ByteArray) (q : Plc) (n : Nat) : (ddsTo u q n).length = n := by simp [ddsTo]
theorem okTo_no {u : ByteArray} {q : Plc} {n i : Nat} (h : okDeed u (plAt u q i) = false) (hi : i < n) : okTo u q n = false := by
  unfold okTo
  rw [List.all_eq_false]
  exact ⟨i, List.mem_range.2 hi, by rw [h]; decide⟩
theorem okDeed_iff {u : ByteArray} {q : Plc} : okDeed u q = true ↔ (rdDeed u q).2.2 = false ∧ deedOf (rdDeed u q).1 = true := by
  unfold okDeed
  cases (rdDeed u q).2.2 <;> simp
theorem rdTx_no {u : ByteArray} (h : ¬ (1 ≤ (sN u (0, false)).1 ∧ (sN u (0, false)).1 ≤ 10 ∧ okTo u (sN u (0, false)).2 (sN u (0, false)).1.toNat = true ∧ (plAt u (sN u (0, false)).2 (sN u (0, false)).1.toNat).1 = u.size)) : rdTx u = [] := if_neg h
theorem rdTx_yes {u : ByteArray} (h : 1 ≤ (sN u (0, false)).1 ∧ (sN u (0, false)).1 ≤ 10 ∧ okTo u (sN u (0, false)).2 (sN u (0, false)).1.toNat = true ∧ (plAt u (sN u (0, false)).2 (sN u (0, false)).1.toNat).1 = u.size) : rdTx u = ddsTo u (sN u (0, false)).2 (sN u (0, false)).1.toNat := if_pos h
/-- What is in a part: a text that is sealed. -/
def rdPart (t : ByteArray) : List Dd := if (openS t).2.2 = 0 then rdTx (openS t).1 else []
end Go.Proofs.YtidcpdfhnhfelaaGreatDoor

