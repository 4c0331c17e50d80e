/- What the law about parts asks of lists: so many parts make the secret; what is hidden. Nothing of the program stands here. -/
import Derived.Test.YtdnbkjiijpeiiaaGreatSplC
import Derived.Test.YtdnbkjiijpeiiaaGreatSplB
import Derived.Test.YtdnbkjiijpeiiaaGreatSPointsA
namespace Go.Proofs.YtdnbkjiijpeiiaaGreat
open Go.RowKit Go.PlainAid G MGF IRow
set_option linter.unusedVariables false
/-- So many parts of a secret as are needed, of different places. -/
def Good (s d : ByteArray) (k : Nat) (l : List (Int × ByteArray)) : Prop := ∃ js : List Nat, l = js.map (fun j : Nat => ((j : Int) + 1, tx (vals (polysT (tb s) (tb d) k) (pl (j + 1))))) ∧ k + 1 ≤ js.length ∧ (∀ j ∈ js, j < 20) ∧ js.Nodup
theorem Good.rev {s d : ByteArray} {k : Nat} {l : List (Int × ByteArray)} (h : Good s d k l) : Good s d k l.reverse := by
  obtain ⟨js, rfl, h1, h2, h3⟩ := h
  exact ⟨js.reverse, by rw [List.map_reverse], by rw [List.length_reverse]; exact h1, fun j hj => h2 j (List.mem_reverse.1 hj), List.pairwise_reverse.2 (List.Pairwise.imp (fun h => Ne.symm h) h3)⟩
theorem Good.first {s d : ByteArray} {k : Nat} {l : List (Int × ByteArray)} (h : Good s d k l) : Good s d k (l.take (k + 1)) := by
  obtain ⟨js, rfl, h1, h2, h3⟩ := h
  exact ⟨js.take (k + 1), by rw [List.map_take], by rw [List.length_take]; omega, fun j hj => h2 j (List.mem_of_mem_take hj), h3.sublist (List.take_sublist _ _)⟩
theorem Good.drop {s d : ByteArray} {k m r : Nat} (h : k + 1 ≤ m - r) (hm : m ≤ 20) : Good s d k ((partsT (polysT (tb s) (tb d) k) m).drop r) := by
  refine ⟨(List.range m).drop r, by unfold partsT; rw [List.map_drop], by rw [List.length_drop, List.length_range]; exact h, fun j hj => ?_, List.nodup_range.sublist (List.drop_sublist _ _)⟩
  have := List.mem_range.1 (List.mem_of_mem_drop hj)
  omega
theorem Good.len {s d : ByteArray} {k : Nat} {l : List (Int × ByteArray)} (h : Good s d k l) : k + 1 ≤ l.length := by
  obtain ⟨js, rfl, h1, _⟩ := h
  rw [List.length_map]
  exact h1
theorem Good.size {s d : ByteArray} {k : Nat} {l : List (Int × ByteArray)} (h : Good s d k l) : ∀ p ∈ l, 1 ≤ p.1 ∧ p.1 ≤ 255 ∧ p.2.size = s.size := by
  obtain ⟨js, rfl, h1, h2, _⟩ := h
  intro p hp
  obtain ⟨j, hj, rfl⟩ := List.mem_map.1 hp
  have := h2 j hj
  dsimp only
  rw [tx_size, vals_length, polysT_length, tb_length]
  exact ⟨by omega, by omega, rfl⟩
theorem Good.comb {s d : ByteArray} {k : Nat} {l : List (Int × ByteArray)} (h : Good s d k l) (hs1 : 1 ≤ s.size) (hs2 : s.size ≤ 16) (hl : l.length ≤ 20) : combR l = (s, 0) := by
  have hsz := h.size
  have hlen := h.len
  have hg0 : (l.getD 0 (0, ByteArray.empty)).2.size = s.size := by
    rw [getD_mem _ (by omega)]
    exact (hsz _ (List.getElem_mem _)).2.2
  have h0 : partsCode l = 0 := by
    refine partsCode_ok (by omega) ?_ ?_ ?_
    · unfold partsB
      rw [decide_eq_true (by omega), Bool.true_and, List.all_eq_true]
      intro p hp
      obtain ⟨a1, a2, a3⟩ := hsz p hp
      unfold okPart okX
      rw [decide_eq_true ⟨a1, a2⟩, decide_eq_true (by omega)]
      rfl
    · obtain ⟨js, rfl, h1, h2, h3⟩ := h
      unfold placeB
      refine decide_eq_true ?_
      rw [List.map_map]
      refine List.pairwise_map.2 (List.Pairwise.imp ?_ h3)
      intro a b hne hab
      apply hne
      have : ((a : Int) + 1) = (b : Int) + 1 := hab
      omega
    · unfold sizeB
      rw [List.all_eq_true]
      intro p hp
      rw [decide_eq_true_iff, hg0]
      exact (hsz p hp).2.2
  rw [combR_yes h0]
  obtain ⟨js, hl', h1, h2, h3⟩ := h
  rw [comb_parts hl' h1 h2 h3, tx_tb]
/-- What is hidden are draws of the other secret. -/
theorem hid_size {a b d : ByteArray} {need : Int} {xs : List Int} {ys : List B} (h : HideOk a b need xs d ys) : (tx (hideL (tb a) (tb b) (tb d) ys (kOf need) a.size)).size = a.size * kOf need := by
  rw [tx_size, hideL_length]
theorem needs_ok {a b d : ByteArray} {need : Int} {xs : List Int} {ys : List B} (h : HideOk a b need xs d ys) : needsI a need = ((a.size * kOf need : Nat) : Int) := by
  rw [needsI_yes (secB_iff.2 ⟨h.s1, h.s2⟩) (needB_iff.2 ⟨h.n1, h.n2⟩), Int.natCast_mul]
  unfold kOf
  have := h.n1
  rw [Int.toNat_of_nonneg (by omega), Int.mul_comm]
theorem mul_small {a b d : ByteArray} {need : Int} {xs : List Int} {ys : List B} (h : HideOk a b need xs d ys) : a.size * kOf need ≤ 144 := by
  have h1 := h.s2
  have h2 := h.n2
  have h3 : kOf need ≤ 9 := by unfold kOf; omega
  exact Nat.mul_le_mul h1 h3
theorem split_one {a b d : ByteArray} {need : Int} {xs : List Int} {ys : List B} (h : HideOk a b need xs d ys) : splitR a need 20 d = (partsT (polysT (tb a) (tb d) (kOf need)) 20, 0) := by
  have h0 : splitC a need 20 d = 0 := splitC_ok (by have := h.s2; have := h.d8; omega) ⟨secB_iff.2 ⟨h.s1, h.s2⟩, by unfold manyB; rw [needB_iff.2 ⟨h.n1, h.n2⟩, decide_eq_true (by have := h.n2; omega)]; rfl⟩ (by rw [needs_ok h]; have := h.dr; omega)
  rw [splitR_yes h0]
  rfl
theorem split_two {a b d : ByteArray} {need : Int} {xs : List Int} {ys : List B} (h : HideOk a b need xs d ys) : splitR b need 20 (tx (hideL (tb a) (tb b) (tb d) ys (kOf need) a.size)) = (partsT (polysT (tb b) (hideL (tb a) (tb b) (tb d) ys (kOf need) a.size) (kOf need)) 20, 0) := by
  have hb1 : 1 ≤ b.size := by have := h.so; have := h.s1; omega
  have hb2 : b.size ≤ 16 := by have := h.so; have := h.s2; omega
  have hsz := hid_size h
  have hms := mul_small h
  have hnb : needsI b need = needsI a need := by
    rw [needsI_yes (secB_iff.2 ⟨hb1, hb2⟩) (needB_iff.2 ⟨h.n1, h.n2⟩), needsI_yes (secB_iff.2 ⟨h.s1, h.s2⟩) (needB_iff.2 ⟨h.n1, h.n2⟩), h.so]
  have h0 : splitC b need 20 (tx (hideL (tb a) (tb b) (tb d) ys (kOf need) a.size)) = 0 := splitC_ok (by omega) ⟨secB_iff.2 ⟨hb1, hb2⟩, by unfold manyB; rw [needB_iff.2 ⟨h.n1, h.n2⟩, decide_eq_true (by have := h.n2; omega)]; rfl⟩ (by rw [hnb, needs_ok h]; omega)
  rw [splitR_yes h0, tb_tx]
  rfl
theorem part_same {a b d : ByteArray} {need : Int} {xs : List Int} {ys : List B} (h : HideOk a b need xs d ys) {x : B} (hx : x ∈ ys) {t : Nat} (ht : t < 20) (he : bi x = (t : Int) + 1) :
    (partsT (polysT (tb a) (tb d) (kOf need)) 20).getD t shD = (partsT (polysT (tb b) (hideL (tb a) (tb b) (tb d) ys (kOf need) a.size) (kOf need)) 20).getD t shD := by
  have e1 : (partsT (polysT (tb a) (tb d) (kOf need)) 20).getD t shD = ((t : Int) + 1, tx (vals (polysT (tb a) (tb d) (kOf need)) (pl (t + 1)))) := partsT_getD _ ht
  have e2 : (partsT (polysT (tb b) (hideL (tb a) (tb b) (tb d) ys (kOf need) a.size) (kOf need)) 20).getD t shD = ((t : Int) + 1, tx (vals (polysT (tb b) (hideL (tb a) (tb b) (tb d) ys (kOf need) a.size) (kOf need)) (pl (t + 1)))) := partsT_getD _ ht
  have hp : pl (t + 1) = x := bi_inj (by rw [pl_bi (by omega), he]; omega)
  have hv := vals_hide (tb a) (tb b) (tb d) ys (k := kOf need) h.len (by rw [tb_length, tb_length]; exact h.so.symm) hx h.ne
  rw [tb_length] at hv
  rw [e1, e2, hp, hv]
theorem hide_back {a b d : ByteArray} {need : Int} {xs : List Int} {ys : List B} (h : HideOk a b need xs d ys) : hideR b a need xs (tx (hideL (tb a) (tb b) (tb d) ys (kOf need) a.size)) = (d.extract 0 (a.size * kOf need), 0) := by
  have hb1 : 1 ≤ b.size := by have := h.so; have := h.s1; omega
  have hb2 : b.size ≤ 16 := by have := h.so; have := h.s2; omega
  have hsz := hid_size h
  have hms := mul_small h
  have hnb : needsI b need = needsI a need := by
    rw [needsI_yes (secB_iff.2 ⟨hb1, hb2⟩) (needB_iff.2 ⟨h.n1, h.n2⟩), needsI_yes (secB_iff.2 ⟨h.s1, h.s2⟩) (needB_iff.2 ⟨h.n1, h.n2⟩), h.so]
  have hyl : ys.length ≤ 9 := by have h1 := h.len; have h2 := h.n2; unfold kOf at h1; omega
  have hxl : xs.length ≤ 9 := by rw [h.xs, pv_length]; exact hyl
  have hkn : (ys.length : Int) ≤ need - 1 := by have h1 := h.len; have h2 := h.n1; unfold kOf at h1; omega
  have h0 : hideC b a need xs (tx (hideL (tb a) (tb b) (tb d) ys (kOf need) a.size)) = 0 :=
    hideC_ok (by have := h.s2; omega) ⟨secB_iff.2 ⟨hb1, hb2⟩, secB_iff.2 ⟨h.s1, h.s2⟩, h.so.symm, needB_iff.2 ⟨h.n1, h.n2⟩, (xsB_iff _ _).2 ⟨ys, h.xs, hkn, h.ne, h.nd⟩⟩ (by rw [hnb, needs_ok h]; omega)
  have hmb : xs.map ib = ys := by rw [h.xs]; exact map_ib_pv ys
  have hb := hideL_back (tb a) (tb b) (tb d) ys (k := kOf need) h.len (by rw [tb_length, tb_length]; exact h.so.symm) (by rw [tb_length, tb_length]; exact h.dr) a.size (by rw [tb_length]; exact Nat.le_refl _)
  rw [tb_length] at hb
  rw [hideR_yes h0, hmb, tb_tx, ← h.so, hb]
  have e : (tb d).take (a.size * kOf need) = tb (d.extract 0 (a.size * kOf need)) := by
    rw [tb_extract, List.drop_zero, Nat.sub_zero]
  rw [e, tx_tb]
end Go.Proofs.YtdnbkjiijpeiiaaGreat
