/- Texts put together: what the law uses of them. -/
import Derived.Test.YtidcpdfhnhfelaaGreatDoorQTxr45
import Derived.Test.YtidcpdfhnhfelaaGreatDoorQTxr46
import Derived.Test.YtidcpdfhnhfelaaGreatDoorQTxr00
/- What the law on TxRead wants: how many rows, how long. -/
namespace Go.Proofs.YtidcpdfhnhfelaaGreatDoor
open Go.RowKit Go.PlainAid G MGet MGF IRow MNum MJoin
set_option linter.unusedVariables false
theorem rdTx_len (u : ByteArray) : (rdTx u).length ≤ 10 := by
  unfold rdTx
  split
  · rename_i h
    rw [ddsTo_length]
    omega
  · exact Nat.zero_le _
theorem rdPart_len (t : ByteArray) : (rdPart t).length ≤ 10 := by
  unfold rdPart
  split
  · exact rdTx_len _
  · exact Nat.zero_le _
theorem txF_ten (s : ByteArray) : ∀ (f p i : Nat), ((txF s f p).getD i []).length ≤ 10
  | 0, _, i => by simp [txF, List.getD]
  | f + 1, p, i => by
    unfold txF
    split
    · split
      · simp [List.getD]
      · cases i with
        | zero => exact rdPart_len _
        | succ i => exact txF_ten s f _ i
    · simp [List.getD]
theorem txF_len (s : ByteArray) : ∀ (f p : Nat), (txF s f p).length ≤ f
  | 0, _ => Nat.le_refl _
  | f + 1, p => by
    unfold txF
    split
    · split
      · exact Nat.zero_le _
      · exact Nat.succ_le_succ (txF_len s f _)
    · exact Nat.zero_le _
theorem txRd_len (s : ByteArray) : (txRd s).length ≤ 8001 := by
  by_cases h : 8000 < s.size
  · have : txRd s = [] := txF_no (by rw [getT_size h]; decide)
    rw [this]
    exact Nat.zero_le _
  · exact Nat.le_trans (txF_len s _ _) (by omega)
theorem SS.info {w : World} {B : Nat} {v : Value} {rs : List Rw} {s : ByteArray} (h : SS w B v rs) (hm : rs.map Rw.l = txRd s) : rs.length = (txRd s).length ∧ SSL w B v rs (fun i => (txRd s).getD i []) ∧ ∀ i, i < (txRd s).length → (rs.getD i rwD).n ≤ 10 := by
  have hl : rs.length = (txRd s).length := by rw [← hm, List.length_map]
  have he : ∀ i, i < rs.length → (txRd s).getD i [] = (rs.getD i rwD).l := fun i hi => by
    rw [← hm]
    simp [List.getD, List.getElem?_map, List.getElem?_eq_getElem hi]
  refine ⟨hl, h.rows.to he, fun i hi => ?_⟩
  have h1 := DdR.olen (h.row i (by omega))
  rw [← h1, ← he i (by omega)]
  exact txF_ten s _ _ i
end Go.Proofs.YtidcpdfhnhfelaaGreatDoor

