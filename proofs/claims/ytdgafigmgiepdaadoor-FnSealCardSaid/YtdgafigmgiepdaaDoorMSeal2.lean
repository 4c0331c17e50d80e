/- A seal comes back; with one byte turned it is refused. -/
import Derived.Test.YtdgafigmgiepdaaDoorFnUnseal
import Derived.Test.YtdgafigmgiepdaaDoorMSeal
namespace Go.Proofs.YtdgafigmgiepdaaDoor
open Go.PlainAid MCrc
theorem crc4_inj {s s' : ByteArray} (h : crc4 s = crc4 s') : crcI s = crcI s' := by
  unfold crc4 fourL at h
  exact four_inj (crcI_range s) (crcI_range s') h
theorem bt_app_left {x y : ByteArray} {i : Nat} (h : i < x.size) : bt (x ++ y) i = bt x i := by
  unfold bt
  rw [dif_pos (by rw [ByteArray.size_append]; omega), dif_pos h, ByteArray.getElem_append_left h]
theorem bt_app_right {x y : ByteArray} {i : Nat} (h : x.size ≤ i) : bt (x ++ y) i = bt y (i - x.size) := by
  unfold bt
  by_cases hy : i - x.size < y.size
  · rw [dif_pos (by rw [ByteArray.size_append]; omega), dif_pos hy, ByteArray.getElem_append_right h]
  · rw [dif_neg (by rw [ByteArray.size_append]; omega), dif_neg hy]
theorem body_size {s : ByteArray} : (bodyS s).size = s.size - 4 := by unfold bodyS; rw [ByteArray.size_extract]; omega
theorem tail_size {s : ByteArray} (h : 4 ≤ s.size) : (tailS s).size = 4 := by unfold tailS; rw [ByteArray.size_extract]; omega
theorem body_of {t : ByteArray} : bodyS (t ++ crc4 t) = t := by
  have hc := crc4_size t
  refine ext_bt (by rw [body_size, ByteArray.size_append]; omega) (fun i hi => ?_)
  rw [body_size, ByteArray.size_append] at hi
  unfold bodyS
  rw [bt_extract (by rw [ByteArray.size_append]; omega) (by rw [ByteArray.size_append]; omega), Nat.zero_add, bt_app_left (by omega)]
theorem tail_of {t : ByteArray} : tailS (t ++ crc4 t) = crc4 t := by
  have hc := crc4_size t
  refine ext_bt (by rw [tail_size (by rw [ByteArray.size_append]; omega), hc]) (fun i hi => ?_)
  rw [tail_size (by rw [ByteArray.size_append]; omega)] at hi
  unfold tailS
  rw [bt_extract (Nat.le_refl _) (by rw [ByteArray.size_append]; omega), ByteArray.size_append, hc, bt_app_right (by omega)]
  congr 1
  omega
/-- A sealed text comes back. -/
theorem open_seal {t : ByteArray} (h : t.size ≤ 7996) : openS (t ++ crc4 t) = (t, 0, 0) := by
  have hc := crc4_size t
  rw [openS_read (by rw [ByteArray.size_append]; omega) (by rw [ByteArray.size_append]; omega), unsS_ok (by rw [tail_of, body_of]), body_of]
/-- With one byte turned it is refused. -/
theorem open_turned {t s : ByteArray} {j : Nat} (h : t.size ≤ 7996) (hs : s.size = (t ++ crc4 t).size) (hj : j < s.size) (hd : bt s j ≠ bt (t ++ crc4 t) j) (ho : ∀ i, i ≠ j → bt s i = bt (t ++ crc4 t) i) :
    openS s = (⟨#[]⟩, 0, 5) := by
  have hc := crc4_size t
  have hz : s.size = t.size + 4 := by rw [hs, ByteArray.size_append, hc]
  rw [openS_read (by omega) (by omega)]
  refine unsS_sum (fun e => ?_)
  by_cases hjt : j < t.size
  · have hb : ∀ i, i < t.size → bt (bodyS s) i = bt s i := fun i hi => by
      unfold bodyS
      rw [bt_extract (by omega) (by omega), Nat.zero_add]
    have htl : tailS s = crc4 t := by
      rw [← tail_of (t := t)]
      refine ext_bt (by rw [tail_size (by omega), tail_size (by rw [ByteArray.size_append]; omega)]) (fun i hi => ?_)
      rw [tail_size (by omega)] at hi
      unfold tailS
      rw [bt_extract (Nat.le_refl _) (by omega), bt_extract (Nat.le_refl _) (by rw [ByteArray.size_append]; omega), ← hs, ho _ (by omega)]
    rw [htl] at e
    have ec := crc4_inj e
    have hbs : (bodyS s).size = t.size := by rw [body_size]; omega
    rw [crcI_yes (by omega), crcI_yes (by omega)] at ec
    refine crcOn_turned (c := 0) (s := t) (s' := bodyS s) (j := j) hbs.symm hjt ?_ ?_ ec
    · rw [hb j hjt]
      intro h'
      apply hd
      rw [← h', bt_app_left hjt]
    · intro i hi
      by_cases hit : i < t.size
      · rw [hb i hit, ho i hi, bt_app_left hit]
      · rw [bt_end t (by omega), bt_end (bodyS s) (by omega)]
  · have hbd : bodyS s = t := by
      refine ext_bt (by rw [body_size]; omega) (fun i hi => ?_)
      rw [body_size] at hi
      unfold bodyS
      rw [bt_extract (by omega) (by omega), Nat.zero_add, ho i (by omega), bt_app_left (by omega)]
    rw [hbd, ← tail_of (t := t)] at e
    apply hd
    have e1 : bt (tailS s) (j - t.size) = bt (tailS (t ++ crc4 t)) (j - t.size) := by rw [e]
    unfold tailS at e1
    rw [bt_extract (Nat.le_refl _) (by omega), bt_extract (Nat.le_refl _) (by rw [ByteArray.size_append]; omega), ← hs, show s.size - 4 + (j - t.size) = j by omega] at e1
    exact e1
end Go.Proofs.YtdgafigmgiepdaaDoor
