/- Texts put together. -/
import Derived.Test.YtdnbkjiijpeiiaaDoorChap2
import Derived.Laws.BitsLemmas
import Derived.Lib.Strings
import Derived.Laws.BytesArg
import Derived.Test.YtdnbkjiijpeiiaaDoorFnUnseal
import Derived.Test.YtdnbkjiijpeiiaaDoorGRow
import Derived.Laws.IdiomStrings
import Derived.PlainAid
import Derived.Test.YtdnbkjiijpeiiaaDoorMNum
import Derived.Test.YtdnbkjiijpeiiaaDoorMGet
import Derived.Test.YtdnbkjiijpeiiaaDoorEnvC
namespace Go.Proofs.YtdnbkjiijpeiiaaDoor.MCrc
open Go.PlainAid
theorem xor32_nat (a b : Nat) (ha : a < 4294967296) (hb : b < 4294967296) : xor32 (a : Int) (b : Int) = ((a ^^^ b : Nat) : Int) := by
  have h2 : a ^^^ b < 2 ^ 32 := Nat.xor_lt_two_pow (by omega) (by omega)
  have ha' : a % 2 ^ IntKind.u32.bits = a := Nat.mod_eq_of_lt (Nat.lt_of_lt_of_le ha (by decide))
  have hb' : b % 2 ^ IntKind.u32.bits = b := Nat.mod_eq_of_lt (Nat.lt_of_lt_of_le hb (by decide))
  show bits .xor .u32 a b = _
  simp only [bits, BitVec.ofInt_natCast, BitVec.toNat_xor, BitVec.toNat_ofNat, ha', hb']
  rw [IntKind.wrap_u32]
  exact Int.emod_eq_of_lt (Int.natCast_nonneg _) (by omega)
theorem nat32 {x : Int} (h : 0 ≤ x ∧ x ≤ 4294967295) : ∃ a : Nat, a < 4294967296 ∧ x = (a : Int) := ⟨x.toNat, by omega, by omega⟩
theorem xor32_cancel {x z : Int} (h : 0 ≤ x ∧ x ≤ 4294967295) (hz : 0 ≤ z ∧ z ≤ 4294967295) : xor32 (xor32 x z) z = x := by
  obtain ⟨a, ha, rfl⟩ := nat32 h
  obtain ⟨c, hc, rfl⟩ := nat32 hz
  have h2 : a ^^^ c < 2 ^ 32 := Nat.xor_lt_two_pow (by omega) (by omega)
  rw [xor32_nat a c ha hc, xor32_nat _ c (by omega) hc, Nat.xor_assoc, Nat.xor_self, Nat.xor_zero]
theorem xor32_inj {x y z : Int} (hx : 0 ≤ x ∧ x ≤ 4294967295) (hy : 0 ≤ y ∧ y ≤ 4294967295) (hz : 0 ≤ z ∧ z ≤ 4294967295) (h : xor32 x z = xor32 y z) : x = y := by
  rw [← xor32_cancel hx hz, h, xor32_cancel hy hz]
theorem xor32_comm {x y : Int} : xor32 x y = xor32 y x := by simp only [xor32, bits, BitVec.xor_comm]
theorem xor32_inj' {x y z : Int} (hx : 0 ≤ x ∧ x ≤ 4294967295) (hy : 0 ≤ y ∧ y ≤ 4294967295) (hz : 0 ≤ z ∧ z ≤ 4294967295) (h : xor32 z x = xor32 z y) : x = y := by
  rw [xor32_comm (x := z), xor32_comm (x := z)] at h; exact xor32_inj hx hy hz h
theorem xor32_low {x y : Int} (hx : 0 ≤ x ∧ x ≤ 2147483647) (hy : 0 ≤ y ∧ y ≤ 2147483647) : xor32 x y ≤ 2147483647 := by
  obtain ⟨a, ha, rfl⟩ := nat32 (x := x) (by omega)
  obtain ⟨c, hc, rfl⟩ := nat32 (x := y) (by omega)
  have h2 : a ^^^ c < 2 ^ 31 := Nat.xor_lt_two_pow (by omega) (by omega)
  rw [xor32_nat a c ha hc]
  omega
theorem odd32 {y : Int} (h : 0 ≤ y ∧ y ≤ 4294967295) : bits .and .u32 y 1 = y % 2 :=
  bits_mask .u32 32 (by decide) (fun n h0 h1 => by rw [IntKind.wrap_u32]; omega) 1 (by decide) y h.1 (Int.lt_of_le_of_lt h.2 (by decide))
theorem crcBit_inj {y y' : Int} (h : 0 ≤ y ∧ y ≤ 4294967295) (h' : 0 ≤ y' ∧ y' ≤ 4294967295) (e : crcBit y = crcBit y') : y = y' := by
  have hB : (0 : Int) ≤ 3988292384 ∧ (3988292384 : Int) ≤ 4294967295 := by omega
  have mixed : ∀ u v : Int, 0 ≤ u ∧ u ≤ 4294967295 → 0 ≤ v ∧ v ≤ 4294967295 → xor32 (u / 2) 3988292384 = v / 2 → False := by
    intro u v hu hv hh
    have h1 : xor32 (v / 2) (u / 2) = 3988292384 := by
      rw [← hh, xor32_comm (x := u / 2), xor32_cancel hB (by omega)]
    have h2 := xor32_low (x := v / 2) (y := u / 2) (by omega) (by omega)
    omega
  unfold crcBit at e
  rw [odd32 h, odd32 h'] at e
  by_cases a : (y % 2 == 1) = true <;> by_cases b : (y' % 2 == 1) = true
  · rw [if_pos a, if_pos b] at e
    have := xor32_inj (by omega) (by omega) hB e
    simp at a b
    omega
  · rw [if_pos a, if_neg b] at e
    exact (mixed y y' h h' e).elim
  · rw [if_neg a, if_pos b] at e
    exact (mixed y' y h' h e.symm).elim
  · rw [if_neg a, if_neg b] at e
    simp at a b
    omega
theorem crcBits_inj {y y' : Int} (h : 0 ≤ y ∧ y ≤ 4294967295) (h' : 0 ≤ y' ∧ y' ≤ 4294967295) : ∀ n, crcBits y n = crcBits y' n → y = y'
  | 0, e => e
  | n + 1, e => crcBits_inj h h' n (crcBit_inj (crcBits_range h n) (crcBits_range h' n) e)
theorem byte32 (s : ByteArray) (k : Nat) : 0 ≤ bt s k ∧ bt s k ≤ 4294967295 := ⟨bt_nonneg s k, by have := bt_le s k; omega⟩
/-- Over the same bytes two registers stay apart. -/
theorem crcTo_inj {x x' : Int} (h : 0 ≤ x ∧ x ≤ 4294967295) (h' : 0 ≤ x' ∧ x' ≤ 4294967295) (s s' : ByteArray) : ∀ k, (∀ i, i < k → bt s i = bt s' i) → crcTo x s k = crcTo x' s' k → x = x'
  | 0, _, e => e
  | k + 1, hb, e => by
    rw [crcTo_succ, crcTo_succ, hb k (by omega)] at e
    exact crcTo_inj h h' s s' k (fun i hi => hb i (by omega)) (xor32_inj (crcTo_range h s k) (crcTo_range h' s' k) (byte32 s' k) (crcBits_inj (xor32_range _ _) (xor32_range _ _) 8 e))
theorem crcTo_same (x : Int) (s s' : ByteArray) : ∀ k, (∀ i, i < k → bt s i = bt s' i) → crcTo x s k = crcTo x s' k
  | 0, _ => rfl
  | k + 1, hb => by rw [crcTo_succ, crcTo_succ, hb k (by omega), crcTo_same x s s' k (fun i hi => hb i (by omega))]
/-- One byte turned turns the register, and it stays so. -/
theorem crcTo_turned {x : Int} (h : 0 ≤ x ∧ x ≤ 4294967295) {s s' : ByteArray} {j : Nat} (hj : bt s j ≠ bt s' j) (ho : ∀ i, i ≠ j → bt s i = bt s' i) : ∀ k, j < k → crcTo x s k ≠ crcTo x s' k
  | 0, hk => by omega
  | k + 1, hk => by
    intro e
    rw [crcTo_succ, crcTo_succ] at e
    have e1 := crcBits_inj (xor32_range _ _) (xor32_range _ _) 8 e
    by_cases hjk : j = k
    · subst hjk
      rw [crcTo_same x s s' j (fun i hi => ho i (by omega))] at e1
      exact hj (xor32_inj' (byte32 s j) (byte32 s' j) (crcTo_range h s' j) e1)
    · rw [ho k (by omega)] at e1
      exact crcTo_turned h hj ho k (by omega) (xor32_inj (crcTo_range h s k) (crcTo_range h s' k) (byte32 s' k) e1)
theorem crcOn_turned {c : Int} {s s' : ByteArray} {j : Nat} (hs : s.size = s'.size) (hjs : j < s.size) (hj : bt s j ≠ bt s' j) (ho : ∀ i, i ≠ j → bt s i = bt s' i) : crcOn c s ≠ crcOn c s' := by
  intro e
  unfold crcOn at e
  rw [← hs] at e
  exact crcTo_turned (xor32_range _ _) hj ho s.size hjs (xor32_inj (crcTo_range (xor32_range _ _) _ _) (crcTo_range (xor32_range _ _) _ _) (by omega) e)
theorem crcTo_append (x : Int) (t u : ByteArray) : ∀ k, crcTo x (t ++ u) (t.size + k) = crcTo (crcTo x t t.size) u k
  | 0 => by
    rw [Nat.add_zero]
    exact crcTo_same x _ _ _ (fun i hi => by
      unfold bt
      rw [dif_pos (by rw [ByteArray.size_append]; omega), dif_pos hi, ByteArray.getElem_append_left hi])
  | k + 1 => by
    have hb : bt (t ++ u) (t.size + k) = bt u k := by
      unfold bt
      by_cases hk : k < u.size
      · rw [dif_pos (by rw [ByteArray.size_append]; omega), dif_pos hk, ByteArray.getElem_append_right (by omega)]
        simp only [Nat.add_sub_cancel_left]
      · rw [dif_neg (by rw [ByteArray.size_append]; omega), dif_neg hk]
    rw [← Nat.add_assoc, crcTo_succ, crcTo_succ, crcTo_append x t u k, hb]
/-- The CRC goes on from text to text. -/
theorem crcOn_append (c : Int) (t u : ByteArray) : crcOn (crcOn c t) u = crcOn c (t ++ u) := by
  have hR := crcTo_range (xor32_range c 4294967295) t t.size
  show xor32 (crcTo (xor32 (xor32 (crcTo (xor32 c 4294967295) t t.size) 4294967295) 4294967295) u u.size) 4294967295 = _
  rw [xor32_cancel hR (by omega)]
  unfold crcOn
  rw [ByteArray.size_append, crcTo_append]
end Go.Proofs.YtdnbkjiijpeiiaaDoor.MCrc
namespace Go.Proofs.YtdnbkjiijpeiiaaDoor.MCrc
open Go.PlainAid
theorem four_inj {c d : Int} (hc : 0 ≤ c ∧ c ≤ 4294967295) (hd : 0 ≤ d ∧ d ≤ 4294967295) (h : strOfNums [c % 256, c / 256 % 256, c / 65536 % 256, c / 16777216] = strOfNums [d % 256, d / 256 % 256, d / 65536 % 256, d / 16777216]) : c = d := by
  have h1 : (strOfNums [c % 256, c / 256 % 256, c / 65536 % 256, c / 16777216]).data.toList = (strOfNums [d % 256, d / 256 % 256, d / 65536 % 256, d / 16777216]).data.toList := by rw [h]
  rw [strOfNums_data, strOfNums_data] at h1
  simp only [List.map_cons, List.map_nil, List.cons.injEq, and_true] at h1
  obtain ⟨a1, a2, a3, a4⟩ := h1
  have inj : ∀ x y : Int, 0 ≤ x → x ≤ 255 → 0 ≤ y → y ≤ 255 → UInt8.ofNat x.toNat = UInt8.ofNat y.toNat → x = y := by
    intro x y hx0 hx1 hy0 hy1 e
    have e1 := congrArg UInt8.toNat e
    rw [UInt8.toNat_ofNat', UInt8.toNat_ofNat'] at e1
    omega
  have b1 := inj _ _ (by omega) (by omega) (by omega) (by omega) a1
  have b2 := inj _ _ (by omega) (by omega) (by omega) (by omega) a2
  have b3 := inj _ _ (by omega) (by omega) (by omega) (by omega) a3
  have b4 := inj _ _ (by omega) (by omega) (by omega) (by omega) a4
  omega
theorem ext_bt {s s' : ByteArray} (hs : s.size = s'.size) (h : ∀ i, i < s.size → bt s i = bt s' i) : s = s' := by
  apply ByteArray.ext
  apply Array.ext
  · simpa using hs
  · intro i h1 h2
    have h3 : i < s.size := by simpa using h1
    have h4 : i < s'.size := by simpa using h2
    have := h i h3
    unfold bt at this
    rw [dif_pos h3, dif_pos h4] at this
    have h5 : s[i].toNat = s'[i].toNat := by exact_mod_cast this
    exact UInt8.toNat_inj.1 h5
theorem bt_extract {s : ByteArray} {a b i : Nat} (hb : b ≤ s.size) (hi : i < b - a) : bt (s.extract a b) i = bt s (a + i) := by
  unfold bt
  rw [dif_pos (by rw [ByteArray.size_extract]; omega), dif_pos (by omega)]
  congr 2
  simp [ByteArray.getElem_extract]
end Go.Proofs.YtdnbkjiijpeiiaaDoor.MCrc
namespace Go.Proofs.YtdnbkjiijpeiiaaDoor
open Go.PlainAid MCrc
theorem crc4_inj {s s' : ByteArray} (h : crc4 s = crc4 s') : crcI s = crcI s' := by
  unfold crc4 fourL at h
  exact four_inj (crcI_range s) (crcI_range s') h
theorem bt_app_left {x y : ByteArray} {i : Nat} (h : i < x.size) : bt (x ++ y) i = bt x i := by
  unfold bt
  rw [dif_pos (by rw [ByteArray.size_append]; omega), dif_pos h, ByteArray.getElem_append_left h]
theorem bt_app_right {x y : ByteArray} {i : Nat} (h : x.size ≤ i) : bt (x ++ y) i = bt y (i - x.size) := by
  unfold bt
  by_cases hy : i - x.size < y.size
  · rw [dif_pos (by rw [ByteArray.size_append]; omega), dif_pos hy, ByteArray.getElem_append_right h]
  · rw [dif_neg (by rw [ByteArray.size_append]; omega), dif_neg hy]
theorem body_size {s : ByteArray} : (bodyS s).size = s.size - 4 := by unfold bodyS; rw [ByteArray.size_extract]; omega
theorem tail_size {s : ByteArray} (h : 4 ≤ s.size) : (tailS s).size = 4 := by unfold tailS; rw [ByteArray.size_extract]; omega
theorem body_of {t : ByteArray} : bodyS (t ++ crc4 t) = t := by
  have hc := crc4_size t
  refine ext_bt (by rw [body_size, ByteArray.size_append]; omega) (fun i hi => ?_)
  rw [body_size, ByteArray.size_append] at hi
  unfold bodyS
  rw [bt_extract (by rw [ByteArray.size_append]; omega) (by rw [ByteArray.size_append]; omega), Nat.zero_add, bt_app_left (by omega)]
theorem tail_of {t : ByteArray} : tailS (t ++ crc4 t) = crc4 t := by
  have hc := crc4_size t
  refine ext_bt (by rw [tail_size (by rw [ByteArray.size_append]; omega), hc]) (fun i hi => ?_)
  rw [tail_size (by rw [ByteArray.size_append]; omega)] at hi
  unfold tailS
  rw [bt_extract (Nat.le_refl _) (by rw [ByteArray.size_append]; omega), ByteArray.size_append, hc, bt_app_right (by omega)]
  congr 1
  omega
/-- A sealed text comes back. -/
theorem open_seal {t : ByteArray} (h : t.size ≤ 7996) : openS (t ++ crc4 t) = (t, 0, 0) := by
  have hc := crc4_size t
  rw [openS_read (by rw [ByteArray.size_append]; omega) (by rw [ByteArray.size_append]; omega), unsS_ok (by rw [tail_of, body_of]), body_of]
/-- With one byte turned it is refused. -/
theorem open_turned {t s : ByteArray} {j : Nat} (h : t.size ≤ 7996) (hs : s.size = (t ++ crc4 t).size) (hj : j < s.size) (hd : bt s j ≠ bt (t ++ crc4 t) j) (ho : ∀ i, i ≠ j → bt s i = bt (t ++ crc4 t) i) :
    openS s = (⟨#[]⟩, 0, 5) := by
  have hc := crc4_size t
  have hz : s.size = t.size + 4 := by rw [hs, ByteArray.size_append, hc]
  rw [openS_read (by omega) (by omega)]
  refine unsS_sum (fun e => ?_)
  by_cases hjt : j < t.size
  · have hb : ∀ i, i < t.size → bt (bodyS s) i = bt s i := fun i hi => by
      unfold bodyS
      rw [bt_extract (by omega) (by omega), Nat.zero_add]
    have htl : tailS s = crc4 t := by
      rw [← tail_of (t := t)]
      refine ext_bt (by rw [tail_size (by omega), tail_size (by rw [ByteArray.size_append]; omega)]) (fun i hi => ?_)
      rw [tail_size (by omega)] at hi
      unfold tailS
      rw [bt_extract (Nat.le_refl _) (by omega), bt_extract (Nat.le_refl _) (by rw [ByteArray.size_append]; omega), ← hs, ho _ (by omega)]
    rw [htl] at e
    have ec := crc4_inj e
    have hbs : (bodyS s).size = t.size := by rw [body_size]; omega
    rw [crcI_yes (by omega), crcI_yes (by omega)] at ec
    refine crcOn_turned (c := 0) (s := t) (s' := bodyS s) (j := j) hbs.symm hjt ?_ ?_ ec
    · rw [hb j hjt]
      intro h'
      apply hd
      rw [← h', bt_app_left hjt]
    · intro i hi
      by_cases hit : i < t.size
      · rw [hb i hit, ho i hi, bt_app_left hit]
      · rw [bt_end t (by omega), bt_end (bodyS s) (by omega)]
  · have hbd : bodyS s = t := by
      refine ext_bt (by rw [body_size]; omega) (fun i hi => ?_)
      rw [body_size] at hi
      unfold bodyS
      rw [bt_extract (by omega) (by omega), Nat.zero_add, ho i (by omega), bt_app_left (by omega)]
    rw [hbd, ← tail_of (t := t)] at e
    apply hd
    have e1 : bt (tailS s) (j - t.size) = bt (tailS (t ++ crc4 t)) (j - t.size) := by rw [e]
    unfold tailS at e1
    rw [bt_extract (Nat.le_refl _) (by omega), bt_extract (Nat.le_refl _) (by rw [ByteArray.size_append]; omega), ← hs, show s.size - 4 + (j - t.size) = j by omega] at e1
    exact e1
end Go.Proofs.YtdnbkjiijpeiiaaDoor
namespace Go.Proofs.YtdnbkjiijpeiiaaDoor.G
open Go.RowKit Go.PlainAid
/-- A block holds a text's bytes, none of them barred. -/
structure BytesAt (w : World) (g : Nat) (s : ByteArray) : Prop where
  cell : ∀ i, i < s.size → w.cell? ⟨g, i, none⟩ = some (.int .u8 (bt s i))
  free : ∀ i, i < s.size → w.frozen? ⟨g, i, none⟩ = false
theorem bytesAt_made (w : World) (s : ByteArray) (cap : Nat) (e : TypeId) :
    BytesAt ((w.alloc (.cells (bytesRow s cap) e ((bytesRow s cap).size, (bytesRow s cap).size + 1))).drew) w.heap.size s := by
  have hh : ((w.alloc (.cells (bytesRow s cap) e ((bytesRow s cap).size, (bytesRow s cap).size + 1))).drew).heap[w.heap.size]? = some (.cells (bytesRow s cap) e ((bytesRow s cap).size, (bytesRow s cap).size + 1)) := heap_alloc_new w _
  have hsz : s.size ≤ (bytesRow s cap).size := by simp [bytesRow]
  constructor
  · intro i hi
    rw [cell_of_row _ _ i _ _ _ hh, bytesRow_at s cap i (by simpa using hi)]
    unfold bt
    rw [dif_pos hi]
    rfl
  · intro i hi
    unfold World.frozen?
    simp only [hh]
    simp
    omega
theorem BytesAt.drew {w : World} {g : Nat} {s : ByteArray} (h : BytesAt w g s) : BytesAt w.drew g s := ⟨h.cell, h.free⟩
theorem BytesAt.below {w w' : World} {g : Nat} {s : ByteArray} (h : BytesAt w g s) (hb : Below w.heap.size w w') (hg : g < w.heap.size) : BytesAt w' g s :=
  ⟨fun i hi => (hb.cell hg).trans (h.cell i hi), fun i hi => (hb.frozen hg).trans (h.free i hi)⟩
/-- One byte turned. -/
def turned (s : ByteArray) (j : Nat) (y : Int) : ByteArray := strOfNums ((List.range s.size).map fun i => if i = j then y else bt s i)
theorem turned_size (s : ByteArray) (j : Nat) (y : Int) : (turned s j y).size = s.size := by unfold turned; rw [strOfNums_size]; simp
theorem bt_strOfNums {zs : List Int} {i : Nat} (h : ∀ z ∈ zs, 0 ≤ z ∧ z ≤ 255) (hi : i < zs.length) : bt (strOfNums zs) i = zs.getD i 0 := by
  have hs : i < (strOfNums zs).size := by rw [strOfNums_size]; exact hi
  have hz := h zs[i] (List.getElem_mem hi)
  unfold bt
  rw [dif_pos hs]
  have e : (strOfNums zs)[i] = UInt8.ofNat zs[i].toNat := by
    show (strOfNums zs).data[i] = _
    simp [strOfNums]
  rw [e]
  simp [List.getD, List.getElem?_eq_getElem hi]
  omega
theorem bt_turned {s : ByteArray} {j i : Nat} {y : Int} (hy : 0 ≤ y ∧ y ≤ 255) (hi : i < s.size) : bt (turned s j y) i = if i = j then y else bt s i := by
  unfold turned
  rw [bt_strOfNums (fun z hz => by
    obtain ⟨k, hk, rfl⟩ := List.mem_map.1 hz
    split
    · exact hy
    · exact ⟨bt_nonneg s k, bt_le s k⟩) (by simpa using hi)]
  simp [List.getD, hi]
theorem conv_turned {P : Program} {w : World} (src dst e : TypeId) (hs : P.underlying src = some (.slice e)) (he : P.underlying e = some (.int .u8)) (hd : P.underlying dst = some .string)
    {g j cap : Nat} {s : ByteArray} {y : Int} (h : BytesAt w g s) (hj : j < s.size) :
    (convert src dst (.slice (some ⟨g, 0, none⟩) s.size cap)).run P (w.setCell ⟨g, j, none⟩ (.int .u8 y)) = .ok (.string (turned s j y)) (w.setCell ⟨g, j, none⟩ (.int .u8 y)) := by
  refine run_convert_bytes_arg (P := P) _ src e hs he g 0 s.size cap _ (by simp) (fun i hi => ?_) dst hd
  rw [Nat.zero_add]
  by_cases hij : i = j
  · subst hij
    rw [World.cell?_setCell_same _ _ _ (h.cell i hi)]
    simp [List.getD, hi]
  · rw [World.cell?_setCell_other _ _ _ _ (by intro h2; simp_all), h.cell i hi]
    simp [List.getD, hi, hij]
/-- The cells of a text with one byte turned. -/
def TurnedAt (w : World) (g : Nat) (s : ByteArray) (j : Nat) (y : Int) : Prop := ∀ i, i < s.size → w.cell? ⟨g, i, none⟩ = some (.int .u8 (if i = j then y else bt s i))
theorem turned_made {w : World} {g j : Nat} {s : ByteArray} {y : Int} (h : BytesAt w g s) (hj : j < s.size) : TurnedAt (w.setCell ⟨g, j, none⟩ (.int .u8 y)) g s j y := by
  intro i hi
  by_cases hij : i = j
  · subst hij
    rw [World.cell?_setCell_same _ _ _ (h.cell i hi), if_pos rfl]
  · rw [World.cell?_setCell_other _ _ _ _ (by intro h2; simp_all), h.cell i hi, if_neg hij]
theorem TurnedAt.below {w w' : World} {g j : Nat} {s : ByteArray} {y : Int} (h : TurnedAt w g s j y) (hb : Below w.heap.size w w') (hg : g < w.heap.size) : TurnedAt w' g s j y :=
  fun i hi => (hb.cell hg).trans (h i hi)
theorem TurnedAt.alloc {w : World} {g j : Nat} {s : ByteArray} {y : Int} (h : TurnedAt w g s j y) (hg : g < w.heap.size) (o : Obj) : TurnedAt (w.alloc o) g s j y :=
  h.below ((Below.refl _ _).alloc (Nat.le_refl _) o) hg
theorem conv_at {P : Program} {w : World} (src dst e : TypeId) (hs : P.underlying src = some (.slice e)) (he : P.underlying e = some (.int .u8)) (hd : P.underlying dst = some .string)
    {g j cap : Nat} {s : ByteArray} {y : Int} (h : TurnedAt w g s j y) :
    (convert src dst (.slice (some ⟨g, 0, none⟩) s.size cap)).run P w = .ok (.string (turned s j y)) w := by
  refine run_convert_bytes_arg (P := P) _ src e hs he g 0 s.size cap _ (by simp) (fun i hi => ?_) dst hd
  rw [Nat.zero_add, h i hi]
  simp [List.getD, hi]
end Go.Proofs.YtdnbkjiijpeiiaaDoor.G
namespace Go.Proofs.YtdnbkjiijpeiiaaDoor
open Go.RowKit Go.PlainAid G MCrc
theorem bt_turned_other {s : ByteArray} {j i : Nat} {y : Int} (hy : 0 ≤ y ∧ y ≤ 255) (h : i ≠ j) : bt (turned s j y) i = bt s i := by
  by_cases hi : i < s.size
  · rw [bt_turned hy hi, if_neg h]
  · unfold bt
    rw [dif_neg hi, dif_neg (by rw [turned_size]; exact hi)]
theorem xor8_turn (a b : Nat) (ha : a < 256) (hb : b < 256) : bits .xor .u8 (a : Int) (b : Int) = ((a ^^^ b : Nat) : Int) := by
  have h2 : a ^^^ b < 2 ^ 8 := Nat.xor_lt_two_pow (by omega) (by omega)
  have ha' : a % 2 ^ IntKind.u8.bits = a := Nat.mod_eq_of_lt (Nat.lt_of_lt_of_le ha (by decide))
  have hb' : b % 2 ^ IntKind.u8.bits = b := Nat.mod_eq_of_lt (Nat.lt_of_lt_of_le hb (by decide))
  simp only [bits, BitVec.ofInt_natCast, BitVec.toNat_xor, BitVec.toNat_ofNat, ha', hb']
  rw [IntKind.wrap_u8]
  exact Int.emod_eq_of_lt (Int.natCast_nonneg _) (by omega)
theorem xor8_ne {x m : Int} (h0 : 0 ≤ x) (h1 : x ≤ 255) (hm0 : 1 ≤ m) (hm1 : m ≤ 255) : bits .xor .u8 x m ≠ x := by
  obtain ⟨a, rfl⟩ := Int.eq_ofNat_of_zero_le h0
  obtain ⟨b, rfl⟩ := Int.eq_ofNat_of_zero_le (show 0 ≤ m by omega)
  intro h
  have h2 : ((a ^^^ b : Nat) : Int) = (a : Int) := by rw [← xor8_turn a b (by omega) (by omega)]; exact h
  have h3 : a ^^^ b = a := by omega
  have h4 : a ^^^ (a ^^^ b) = b := by rw [← Nat.xor_assoc, Nat.xor_self, Nat.zero_xor]
  rw [h3, Nat.xor_self] at h4
  omega
theorem wf_crc {c : Int} (h : 0 ≤ c ∧ c ≤ 4294967295) : (Lit.int .i64 c).wf = true := by
  simp only [Lit.wf, IntKind.min, IntKind.max, IntKind.signed, IntKind.bits]
  simp
  omega
end Go.Proofs.YtdnbkjiijpeiiaaDoor
namespace Go.Proofs.YtdnbkjiijpeiiaaDoor.MGet
open Go.PlainAid MNum
/-- From place a on the text holds the numbers l. -/
def HoldsL (s : ByteArray) (a : Nat) (l : List Int) : Prop := ∀ i, i < l.length → a + i < s.size ∧ bt s (a + i) = l.getD i 0
theorem HoldsL.head {s : ByteArray} {a : Nat} {x : Int} {l : List Int} (h : HoldsL s a (x :: l)) : a < s.size ∧ bt s a = x := by
  have := h 0 (by simp); simpa using this
theorem HoldsL.tail {s : ByteArray} {a : Nat} {x : Int} {l : List Int} (h : HoldsL s a (x :: l)) : HoldsL s (a + 1) l := by
  intro i hi
  have := h (i + 1) (by simp; omega)
  rw [show a + 1 + i = a + (i + 1) by omega]
  simpa using this
theorem unf_fold {n : Int} (h : i64P n) : unf (foldI n) = n := by
  unfold i64P at h
  by_cases a : 0 ≤ n
  · rw [foldI_pos a, unf_even (by omega)]; omega
  · rw [foldI_neg (by omega), unf_odd (by omega)]; omega
theorem pow_step (k : Nat) : (2 : Int) ^ (7 * (k + 1)) = 128 * 2 ^ (7 * k) := by
  rw [show 7 * (k + 1) = 7 * k + 7 by omega, Int.pow_add]; omega
theorem split128 (u p : Int) : u % 128 * p + u / 128 * (128 * p) = u * p := by
  have h : u = u % 128 + u / 128 * 128 := by omega
  conv => rhs; rw [h]
  rw [Int.add_mul, Int.mul_assoc]
theorem read_enc {s : ByteArray} {a : Nat} : ∀ (f k : Nat) (x u : Int), k + f = 9 → 0 ≤ u → u < capN f → (0 < k → 1 ≤ u) → 0 ≤ x → x + u * 2 ^ (7 * k) ≤ 18446744073709551615 → HoldsL s (a + k) (encL f u) →
    rdS s a (f + 1) k x = (unf (x + u * 2 ^ (7 * k)), (a : Int) + (k : Int) + ((encL f u).length : Int), 0)
  | 0, k, x, u, hk, h0, hc, hpos, hx, hb, hh => by
    have h1 : u < 128 := by simpa [capN] using hc
    obtain rfl : k = 9 := by omega
    have hu1 : u ≤ 1 := by
      have : (2 : Int) ^ (7 * 9) = 9223372036854775808 := by decide
      rw [this] at hb; omega
    have hd := (HoldsL.head (l := []) (by simpa [encL] using hh))
    rw [rd_last (by omega) (by rw [hd.2]; omega) (by rw [hd.2]; omega) (by rw [hd.2]; intro h; have := hpos (by omega); omega), hd.2, show u % 128 = u by omega]
    simp [encL]
  | f + 1, k, x, u, hk, h0, hc, hpos, hx, hb, hh => by
    by_cases hu : u < 128
    · rw [encL_small hu] at hh ⊢
      have hd := HoldsL.head (l := []) hh
      rw [rd_last (by omega) (by omega) (by rw [hd.2]; exact hu) (by rw [hd.2]; intro h; have := hpos h.2; omega), hd.2, show u % 128 = u by omega]
      simp
    · rw [encL_big (by omega)] at hh ⊢
      have hd := hh.head
      have ht := hh.tail
      have hm : (u % 128 + 128) % 128 = u % 128 := by omega
      rw [rd_more (by omega) (by omega) (by rw [hd.2]; omega), hd.2, hm]
      have hp := pow_step k
      have hs := split128 u (2 ^ (7 * k))
      have hpp : (0 : Int) ≤ 2 ^ (7 * k) := Int.le_of_lt (Int.pow_pos (by decide))
      have hmul : (0 : Int) ≤ u % 128 * 2 ^ (7 * k) := Int.mul_nonneg (by omega) hpp
      have e : x + u % 128 * 2 ^ (7 * k) + u / 128 * 2 ^ (7 * (k + 1)) = x + u * 2 ^ (7 * k) := by rw [hp]; omega
      rw [read_enc f (k + 1) (x + u % 128 * 2 ^ (7 * k)) (u / 128) (by omega) (by omega) (cap_step hc) (by omega) (by omega) (by rw [e]; exact hb) (by rw [show a + (k + 1) = a + k + 1 by omega]; exact ht), e]
      simp
      omega
/-- A number is read back from where its bytes stand. -/
theorem read_num {s : ByteArray} {a : Nat} {n : Int} (h : i64P n) (hh : HoldsL s a (encN (foldI n))) : rdS s a 10 0 0 = (n, (a : Int) + ((encN (foldI n)).length : Int), 0) := by
  have hr := foldI_range h
  have := read_enc (s := s) (a := a) 9 0 0 (foldI n) rfl hr.1 (cap_all hr.2) (fun h => absurd h (by omega)) (by omega) (by have := hr.2; unfold p64 at this; simp; omega) (by rw [Nat.add_zero]; exact hh)
  rw [this]
  simp [unf_fold h, encN]
/-- Of bytes that end ahead of the last one nothing is read. -/
theorem read_cut {s : ByteArray} {a : Nat} : ∀ (f k : Nat) (x u : Int), k + f = 9 → u < capN f → HoldsL s (a + k) (encL f u).dropLast → s.size + 1 = a + k + (encL f u).length →
    rdS s a (f + 1) k x = (0, 0, 4)
  | 0, k, x, u, hk, hc, hh, hs => by
    exact rd_short (by simp [encL] at hs; omega)
  | f + 1, k, x, u, hk, hc, hh, hs => by
    by_cases hu : u < 128
    · rw [encL_small hu] at hs
      exact rd_short (by simp at hs; omega)
    · rw [encL_big (by omega)] at hh hs
      have hl := (encL_len f (u / 128)).1
      have hne : encL f (u / 128) ≠ [] := fun h => by rw [h] at hl; simp at hl
      rw [List.dropLast_cons_of_ne_nil hne] at hh
      have hd := hh.head
      have ht := hh.tail
      rw [rd_more (by omega) (by omega) (by rw [hd.2]; omega)]
      exact read_cut f (k + 1) _ (u / 128) (by omega) (cap_step hc) (by rw [show a + (k + 1) = a + k + 1 by omega]; exact ht) (by simp at hs; omega)
theorem enc_bytes : ∀ (f : Nat) (u : Int), 0 ≤ u → u < capN f → ∀ z ∈ encL f u, 0 ≤ z ∧ z ≤ 255
  | 0, u, h0, hc, z, hz => by
    have h1 : u < 128 := by simpa [capN] using hc
    simp [encL] at hz; omega
  | f + 1, u, h0, hc, z, hz => by
    by_cases hu : u < 128
    · rw [encL_small hu] at hz; simp at hz; omega
    · rw [encL_big (by omega)] at hz
      rcases List.mem_cons.1 hz with rfl | hz
      · omega
      · exact enc_bytes f (u / 128) (by omega) (cap_step hc) z hz
theorem bt_nums {zs : List Int} (h : ∀ z ∈ zs, 0 ≤ z ∧ z ≤ 255) {i : Nat} (hi : i < zs.length) : bt (strOfNums zs) i = zs.getD i 0 := by
  have hs : i < (strOfNums zs).size := by rw [strOfNums_size]; exact hi
  have hz := h zs[i] (List.getElem_mem hi)
  unfold bt
  rw [dif_pos hs]
  have e : (strOfNums zs)[i] = UInt8.ofNat zs[i].toNat := by
    show (strOfNums zs).data[i] = _
    simp [strOfNums]
  rw [e]
  simp [List.getD, List.getElem?_eq_getElem hi]
  omega
theorem bt_left {x y : ByteArray} {i : Nat} (h : i < x.size) : bt (x ++ y) i = bt x i := by
  unfold bt
  rw [dif_pos (by rw [ByteArray.size_append]; omega), dif_pos h, ByteArray.getElem_append_left h]
theorem bt_right {x y : ByteArray} {i : Nat} (h : x.size ≤ i) : bt (x ++ y) i = bt y (i - x.size) := by
  unfold bt
  by_cases hy : i - x.size < y.size
  · rw [dif_pos (by rw [ByteArray.size_append]; omega), dif_pos hy, ByteArray.getElem_append_right h]
  · rw [dif_neg (by rw [ByteArray.size_append]; omega), dif_neg hy]
/-- A text that stands in the midst of another. -/
theorem holds_mid {x y : ByteArray} {zs : List Int} (h : ∀ z ∈ zs, 0 ≤ z ∧ z ≤ 255) : HoldsL (x ++ strOfNums zs ++ y) x.size zs := by
  intro i hi
  have hs : (strOfNums zs).size = zs.length := strOfNums_size zs
  refine ⟨by rw [ByteArray.size_append, ByteArray.size_append]; omega, ?_⟩
  rw [bt_left (by rw [ByteArray.size_append]; omega), bt_right (by omega), show x.size + i - x.size = i by omega, bt_nums h hi]
end Go.Proofs.YtdnbkjiijpeiiaaDoor.MGet
namespace Go.Proofs.YtdnbkjiijpeiiaaDoor.MGet
open Go.PlainAid MNum
theorem enc_ok {n : Int} (h : i64P n) : ∀ z ∈ encN (foldI n), 0 ≤ z ∧ z ≤ 255 :=
  enc_bytes 9 (foldI n) (foldI_range h).1 (cap_all (foldI_range h).2)
theorem numS_len (n : Int) : (numS n).size = (encN (foldI n)).length := by unfold numS; rw [strOfNums_size]
/-- A number is read back in the midst of a text. -/
theorem get_mid {n : Int} (h : i64P n) (x y : ByteArray) : rdS (x ++ numS n ++ y) x.size 10 0 0 = (n, (x.size : Int) + ((numS n).size : Int), 0) := by
  have hh : HoldsL (x ++ numS n ++ y) x.size (encN (foldI n)) := holds_mid (enc_ok h)
  rw [read_num h hh, numS_len]
theorem bt_cut {s : ByteArray} {k i : Nat} (hk : k ≤ s.size) (hi : i < k) : bt (s.extract 0 k) i = bt s i := by
  unfold bt
  have h1 : i < (s.extract 0 k).size := by rw [ByteArray.size_extract]; omega
  rw [dif_pos h1, dif_pos (by omega)]
  congr 2
  simp [ByteArray.getElem_extract]
/-- Of a number's bytes less the last one nothing is read. -/
theorem get_cut {n : Int} (h : i64P n) : rdS ((numS n).extract 0 ((numS n).size - 1)) 0 10 0 0 = (0, 0, 4) := by
  have hl := numS_size n
  have hn := numS_len n
  refine read_cut (s := (numS n).extract 0 ((numS n).size - 1)) (a := 0) 9 0 0 (foldI n) rfl (cap_all (foldI_range h).2) ?_ ?_
  · intro i hi
    have hi' : i < (numS n).size - 1 := by
      rw [List.length_dropLast] at hi
      have : (encL 9 (foldI n)).length = (numS n).size := by rw [hn]; rfl
      omega
    refine ⟨by rw [ByteArray.size_extract]; omega, ?_⟩
    rw [show 0 + 0 + i = i by omega, bt_cut (by omega) hi']
    unfold numS
    have hb := bt_nums (enc_ok h) (i := i) (by rw [← hn]; omega)
    rw [hb]
    show (encN (foldI n)).getD i 0 = (encL 9 (foldI n)).dropLast.getD i 0
    simp only [encN, List.getD_eq_getElem?_getD]
    rw [List.getElem?_dropLast, if_pos (by have : (encL 9 (foldI n)).length = (numS n).size := by rw [hn]; rfl
                                           omega)]
  · rw [ByteArray.size_extract]
    show _ = 0 + 0 + (encN (foldI n)).length
    rw [← hn]; omega
theorem size_i64 {u : ByteArray} (h : u.size ≤ 8000) : i64P (u.size : Int) := by unfold i64P; omega
theorem cut_end (x t u : ByteArray) : (x ++ (t ++ u)).extract (x.size + t.size) (x.size + t.size + u.size) = u := by
  apply ByteArray.ext
  apply Array.toList_inj.1
  rw [Lib.extract_data]
  have e : (x ++ (t ++ u)).data.toList = (x.data.toList ++ t.data.toList) ++ u.data.toList := by simp
  have hl : (x.data.toList ++ t.data.toList).length = x.size + t.size := by simp
  rw [e, ← hl, List.drop_left, Nat.add_sub_cancel_left, List.take_of_length_le (by simp)]
theorem cut_tail (t u : ByteArray) (h : 0 < u.size) : (t ++ u).extract 0 ((t ++ u).size - 1) = t ++ u.extract 0 (u.size - 1) := by
  apply ByteArray.ext
  apply Array.toList_inj.1
  rw [Lib.extract_data, ByteArray.size_append]
  have e : (t ++ u).data.toList = t.data.toList ++ u.data.toList := by simp
  have e2 : (t ++ u.extract 0 (u.size - 1)).data.toList = t.data.toList ++ (u.data.toList.take (u.size - 1)) := by
    rw [ByteArray.data_append, Array.toList_append, Lib.extract_data, List.drop_zero, Nat.sub_zero]
  have hl : t.data.toList.length = t.size := by simp
  rw [e, e2, List.drop_zero, List.take_append, List.take_of_length_le (by omega), hl]
  congr 2
  omega
theorem cut_none (t u : ByteArray) (h : u.size = 0) : t ++ u = t := by
  apply ByteArray.ext
  apply Array.toList_inj.1
  have e : (t ++ u).data.toList = t.data.toList ++ u.data.toList := by simp
  have e1 : u.data.toList = [] := List.eq_nil_of_length_eq_zero (by simpa using h)
  rw [e, e1, List.append_nil]
theorem nil_append (t : ByteArray) : (⟨#[]⟩ : ByteArray) ++ t = t := by
  apply ByteArray.ext
  apply Array.toList_inj.1
  have e : ((⟨#[]⟩ : ByteArray) ++ t).data.toList = ([] : List UInt8) ++ t.data.toList := by simp
  rw [e, List.nil_append]
theorem get_head {n : Int} (h : i64P n) (y : ByteArray) : rdS (numS n ++ y) 0 10 0 0 = (n, ((numS n).size : Int), 0) := by
  have hm := get_mid h ⟨#[]⟩ y
  rw [nil_append] at hm
  have e : ((⟨#[]⟩ : ByteArray).size : Int) = 0 := rfl
  rw [e, Int.zero_add] at hm
  exact hm
/-- A text is read back behind another. -/
theorem getText_mid (x u : ByteArray) (hu : u.size ≤ 8000) : txtS (x ++ (numS u.size ++ u)) x.size = (u, (x.size : Int) + ((numS u.size).size : Int) + (u.size : Int), 0) := by
  have h := get_mid (size_i64 hu) x u
  rw [ByteArray.append_assoc] at h
  generalize numS u.size = t at *
  have e : ((x.size : Int) + (t.size : Int)) = ((x.size + t.size : Nat) : Int) := by omega
  rw [e] at h
  rw [txt_ok h hu (by rw [ByteArray.size_append, ByteArray.size_append]; omega), ← e, cut_end]
/-- Of a text's bytes less the last one nothing is read. -/
theorem getText_cut (u : ByteArray) (hu : u.size ≤ 8000) : txtS ((numS u.size ++ u).extract 0 ((numS u.size ++ u).size - 1)) 0 = (⟨#[]⟩, 0, 4) := by
  by_cases h0 : u.size = 0
  · rw [cut_none _ u h0]
    exact txt_err (get_cut (size_i64 hu)) (by decide)
  · have hr := get_head (size_i64 hu) (u.extract 0 (u.size - 1))
    rw [cut_tail _ u (by omega)]
    refine txt_short (n := (u.size : Int)) (p := ((numS u.size).size : Int)) hr (by omega) ?_
    rw [ByteArray.size_append, ByteArray.size_extract]
    omega
end Go.Proofs.YtdnbkjiijpeiiaaDoor.MGet
namespace Go.Proofs.YtdnbkjiijpeiiaaDoor.MGet
open Go.PlainAid MNum
theorem HoldsL.cons {s : ByteArray} {a : Nat} {x : Int} {l : List Int} (h0 : a < s.size) (h1 : bt s a = x) (h : HoldsL s (a + 1) l) : HoldsL s a (x :: l) := by
  intro i hi
  cases i with
  | zero => exact ⟨by omega, by simpa using h1⟩
  | succ i =>
    have := h i (by simpa using hi)
    rw [show a + 1 + i = a + (i + 1) by omega] at this
    simpa using this
theorem pow_le8 : ∀ k : Nat, k ≤ 8 → (2 : Int) ^ (7 * k) ≤ 72057594037927936
  | 0, _ => by decide
  | 1, _ => by decide
  | 2, _ => by decide
  | 3, _ => by decide
  | 4, _ => by decide
  | 5, _ => by decide
  | 6, _ => by decide
  | 7, _ => by decide
  | 8, _ => by decide
  | k + 9, h => absurd h (by omega)
theorem pow_9 : (2 : Int) ^ (7 * 9) = 9223372036854775808 := by decide
theorem cap_pos : ∀ f : Nat, 128 ≤ capN f
  | 0 => by simp [capN]
  | f + 1 => by have := cap_pos f; simp only [capN]; omega
theorem encL_one {f : Nat} {v : Int} (h : v < 128) : encL f v = [v] := encL_small h
theorem back_enc {s : ByteArray} {a : Nat} : ∀ (f k : Nat) (x n p : Int), k + f = 9 → 0 ≤ x → x < 2 ^ (7 * k) → rdS s a (f + 1) k x = (n, p, 0) →
    ∃ v : Int, 0 ≤ v ∧ v < capN f ∧ (0 < k → 1 ≤ v) ∧ x + v * 2 ^ (7 * k) < 18446744073709551616 ∧ HoldsL s (a + k) (encL f v) ∧ n = unf (x + v * 2 ^ (7 * k)) ∧ p = (a : Int) + (k : Int) + ((encL f v).length : Int) := by
  intro f
  induction f with
  | zero =>
    intro k x n p hk hx0 hx1 h
    by_cases h1 : s.size ≤ a + k
    · rw [rd_short h1] at h; simp at h
    by_cases h9 : k = 9 ∧ 1 < bt s (a + k)
    · rw [rd_ten h1 h9.1 h9.2] at h; simp at h
    have hb := bt_nonneg s (a + k)
    obtain rfl : k = 9 := by omega
    have hb1 : bt s (a + 9) ≤ 1 := by omega
    by_cases hz : bt s (a + 9) = 0 ∧ 0 < 9
    · rw [rd_nil h1 hz.1 hz.2] at h; simp at h
    rw [rd_last h1 h9 (by omega) hz] at h
    simp only [Prod.mk.injEq] at h
    obtain ⟨hn, hp, _⟩ := h
    have hm : bt s (a + 9) % 128 = bt s (a + 9) := by omega
    rw [hm] at hn
    refine ⟨bt s (a + 9), hb, by simp [capN]; omega, fun _ => by omega, ?_, ?_, hn.symm, ?_⟩
    · rw [pow_9] at hx1 ⊢; omega
    · exact HoldsL.cons (by omega) rfl (fun i hi => absurd hi (by simp))
    · simp [encL]; omega
  | succ f ih =>
    intro k x n p hk hx0 hx1 h
    by_cases h1 : s.size ≤ a + k
    · rw [rd_short h1] at h; simp at h
    have h9 : ¬ (k = 9 ∧ 1 < bt s (a + k)) := by omega
    have hb := bt_nonneg s (a + k)
    have hb2 := bt_le s (a + k)
    have hP := pow_le8 k (by omega)
    have hP0 : (0 : Int) ≤ 2 ^ (7 * k) := Int.le_of_lt (Int.pow_pos (by decide))
    by_cases hc : bt s (a + k) < 128
    · by_cases hz : bt s (a + k) = 0 ∧ 0 < k
      · rw [rd_nil h1 hz.1 hz.2] at h; simp at h
      rw [rd_last h1 h9 hc hz] at h
      simp only [Prod.mk.injEq] at h
      obtain ⟨hn, hp, _⟩ := h
      have hm : bt s (a + k) % 128 = bt s (a + k) := by omega
      rw [hm] at hn
      have hcp := cap_pos (f + 1)
      have hmul : bt s (a + k) * 2 ^ (7 * k) ≤ 127 * 2 ^ (7 * k) := Int.mul_le_mul_of_nonneg_right (by omega) hP0
      refine ⟨bt s (a + k), hb, by omega, fun h0 => by omega, by omega, ?_, hn.symm, ?_⟩
      · rw [encL_one hc]
        exact HoldsL.cons (by omega) rfl (fun i hi => absurd hi (by simp))
      · rw [encL_one hc]; simp; omega
    · rw [rd_more h1 (by omega) hc] at h
      have hmul : bt s (a + k) % 128 * 2 ^ (7 * k) ≤ 127 * 2 ^ (7 * k) := Int.mul_le_mul_of_nonneg_right (by omega) hP0
      have hmul0 : 0 ≤ bt s (a + k) % 128 * 2 ^ (7 * k) := Int.mul_nonneg (by omega) hP0
      have hps := pow_step k
      obtain ⟨v, hv0, hv1, hv2, hv3, hv4, hv5, hv6⟩ := ih (k + 1) _ n p (by omega) (by omega) (by rw [hps]; omega) h
      have hv := hv2 (by omega)
      have e : x + bt s (a + k) % 128 * 2 ^ (7 * k) + v * 2 ^ (7 * (k + 1)) = x + (bt s (a + k) % 128 + 128 * v) * 2 ^ (7 * k) := by
        rw [hps, Int.add_mul, Int.add_assoc]
        congr 2
        rw [Int.mul_comm 128 v, Int.mul_assoc]
      rw [e] at hv3 hv5
      have hbig : encL (f + 1) (bt s (a + k) % 128 + 128 * v) = bt s (a + k) :: encL f v := by
        rw [encL_big (by omega)]
        congr 1
        · omega
        · congr 1; omega
      refine ⟨bt s (a + k) % 128 + 128 * v, by omega, by simp only [capN]; omega, fun _ => by omega, hv3, ?_, hv5, ?_⟩
      · rw [hbig]
        exact HoldsL.cons (by omega) rfl (by rw [show a + k + 1 = a + (k + 1) by omega]; exact hv4)
      · rw [hbig, hv6]; simp; omega
theorem fold_unf {v : Int} (h0 : 0 ≤ v) (h1 : v < 18446744073709551616) : foldI (unf v) = v ∧ i64P (unf v) := by
  by_cases hp : v % 2 = 1
  · rw [unf_odd hp, foldI_neg (by omega)]
    unfold i64P
    omega
  · rw [unf_even hp, foldI_pos (by omega)]
    unfold i64P
    omega
/-- A number that is read stands there as it is written. -/
theorem back_num {u : ByteArray} {a : Nat} {n p : Int} (h : rdS u a 10 0 0 = (n, p, 0)) : i64P n ∧ HoldsL u a (encN (foldI n)) ∧ p = (a : Int) + ((numS n).size : Int) := by
  obtain ⟨v, h0, h1, _, h3, h4, h5, h6⟩ := back_enc 9 0 0 n p rfl (by omega) (by decide) h
  simp only [Nat.mul_zero, Int.pow_zero, Int.mul_one, Int.zero_add] at h3 h5
  obtain ⟨f1, f2⟩ := fold_unf h0 h3
  rw [← h5] at f1 f2
  refine ⟨f2, ?_, ?_⟩
  · rw [f1]; exact h4
  · rw [numS_len, f1, h6]; simp [encN]
theorem bt_ext {s t : ByteArray} (hs : s.size = t.size) (h : ∀ i, i < s.size → bt s i = bt t i) : s = t := by
  apply ByteArray.ext
  apply Array.toList_inj.1
  apply List.ext_getElem
  · simpa using hs
  · intro i h1 h2
    have hi : i < s.size := by simpa using h1
    have ht : i < t.size := by simpa using h2
    have := h i hi
    unfold bt at this
    rw [dif_pos hi, dif_pos ht] at this
    have e : s[i].toNat = t[i].toNat := by omega
    have e2 : s[i] = t[i] := UInt8.toNat_inj.1 e
    rw [Array.getElem_toList, Array.getElem_toList]
    exact e2
theorem bt_piece {s : ByteArray} {a b i : Nat} (hb : b ≤ s.size) (hi : i < b - a) : bt (s.extract a b) i = bt s (a + i) := by
  unfold bt
  have h1 : i < (s.extract a b).size := by rw [ByteArray.size_extract]; omega
  rw [dif_pos h1, dif_pos (by omega)]
  congr 2
  simp [ByteArray.getElem_extract]
/-- The piece of the text that holds the number. -/
theorem piece_num {u : ByteArray} {a : Nat} {n : Int} (hn : i64P n) (h : HoldsL u a (encN (foldI n))) : u.extract a (a + (numS n).size) = numS n ∧ a + (numS n).size ≤ u.size := by
  have hl := numS_len n
  have h1 := (numS_size n).1
  have hle : a + (numS n).size ≤ u.size := by
    have := (h ((numS n).size - 1) (by omega)).1
    omega
  refine ⟨?_, hle⟩
  refine bt_ext (by rw [ByteArray.size_extract]; omega) (fun i hi => ?_)
  rw [ByteArray.size_extract] at hi
  rw [bt_piece hle (by omega), (h i (by omega)).2]
  unfold numS
  rw [bt_nums (enc_ok hn) (by omega)]
/-- A text that is read stands there as it is written. -/
theorem back_text {u : ByteArray} {a : Nat} {t : ByteArray} {p : Int} (h : txtS u a = (t, p, 0)) : t.size ≤ 8000 ∧ u.extract a p.toNat = numS t.size ++ t ∧ 0 ≤ p ∧ p ≤ (u.size : Int) ∧ (a : Int) ≤ p := by
  unfold txtS at h
  split at h
  · rename_i h1
    simp only [Prod.mk.injEq] at h
    exact absurd h.2.2 h1
  rename_i h1
  split at h
  · simp at h
  rename_i h2
  split at h
  · simp at h
  rename_i h3
  obtain ⟨⟨n, q, c⟩, hr⟩ : ∃ r, r = rdS u a 10 0 0 := ⟨_, rfl⟩
  rw [← hr] at h h1 h2 h3
  dsimp only at h h1 h2 h3
  obtain rfl : c = 0 := by omega
  obtain ⟨hi, hh, hq⟩ := back_num hr.symm
  obtain ⟨hp1, hp2⟩ := piece_num hi hh
  simp only [Prod.mk.injEq, and_true] at h
  obtain ⟨rfl, rfl⟩ := h
  obtain ⟨m, rfl⟩ := Int.eq_ofNat_of_zero_le (show 0 ≤ n by omega)
  have hqn : q.toNat = a + (numS (m : Int)).size := by omega
  have hsz : (u.extract q.toNat (q.toNat + (m : Int).toNat)).size = m := by rw [ByteArray.size_extract]; omega
  rw [hsz]
  refine ⟨by omega, ?_, by omega, by omega, by omega⟩
  have e : (q + (m : Int)).toNat = q.toNat + m := by omega
  rw [e, Int.toNat_natCast, ← hp1, ← hqn, ByteArray.extract_append_extract]
  congr 1 <;> omega
end Go.Proofs.YtdnbkjiijpeiiaaDoor.MGet
namespace Go.Proofs.YtdnbkjiijpeiiaaDoor
open Go.RowKit Go.PlainAid G MGet MGF MCrc IRow MNum MJoin
set_option linter.unusedVariables false
theorem sN_of {u : ByteArray} {q : Nat × Bool} {n : Int} {p : Nat} (h : rdS u q.1 10 0 0 = (n, (p : Int), 0)) : sN u q = (n, (p, q.2)) := by
  unfold sN; rw [h]; simp
theorem sT_of {u : ByteArray} {q : Nat × Bool} {t : ByteArray} {p : Nat} (h : txtS u q.1 = (t, (p : Int), 0)) : sT u q = (t, (p, q.2)) := by
  unfold sT; rw [h]; simp
theorem i64_small {n : Int} (h0 : 0 ≤ n) (h1 : n ≤ 1000) : i64P n := by unfold i64P; omega
theorem envT_read {g n m x : Int} {t : ByteArray} (h : envB g n m x t = true) : rdOk (envT g n m x t) = true ∧ rdEnv (envT g n m x t) = ⟨g, n, m, x, t⟩ := by
  obtain ⟨⟨g1, g2⟩, ⟨n1, n2⟩, ⟨m1, m2⟩, ⟨x1, x2⟩, t1, t2⟩ := envB_bounds h
  have hT : envT g n m x t = numS g ++ numS n ++ numS m ++ numS x ++ (numS t.size ++ t) := by unfold envT; rw [putTextS_short (by omega)]
  have r1 := get_head (i64_small (n := g) (by omega) (by omega)) (numS n ++ (numS m ++ (numS x ++ (numS t.size ++ t))))
  have r2 := get_mid (i64_small (n := n) (by omega) (by omega)) (numS g) (numS m ++ (numS x ++ (numS t.size ++ t)))
  have r3 := get_mid (i64_small (n := m) (by omega) (by omega)) (numS g ++ numS n) (numS x ++ (numS t.size ++ t))
  have r4 := get_mid (i64_small (n := x) (by omega) (by omega)) (numS g ++ numS n ++ numS m) (numS t.size ++ t)
  have r5 := getText_mid (numS g ++ numS n ++ numS m ++ numS x) t (by omega)
  have a1 : numS g ++ (numS n ++ (numS m ++ (numS x ++ (numS t.size ++ t)))) = envT g n m x t := by rw [hT]; simp only [ByteArray.append_assoc]
  have a2 : numS g ++ numS n ++ (numS m ++ (numS x ++ (numS t.size ++ t))) = envT g n m x t := by rw [hT]; simp only [ByteArray.append_assoc]
  have a3 : numS g ++ numS n ++ numS m ++ (numS x ++ (numS t.size ++ t)) = envT g n m x t := by rw [hT]; simp only [ByteArray.append_assoc]
  have a4 : numS g ++ numS n ++ numS m ++ numS x ++ (numS t.size ++ t) = envT g n m x t := hT.symm
  have hsz : (envT g n m x t).size = (numS g).size + (numS n).size + (numS m).size + (numS x).size + ((numS t.size).size + t.size) := by rw [hT]; simp only [ByteArray.size_append]
  rw [a1] at r1
  rw [a2] at r2
  rw [a3] at r3
  rw [a4] at r4 r5
  simp only [ByteArray.size_append] at r2 r3 r4 r5
  generalize envT g n m x t = u at *
  generalize (numS g).size = A at *
  generalize (numS n).size = B at *
  generalize (numS m).size = C at *
  generalize (numS x).size = D at *
  generalize (numS t.size).size = E at *
  have s1 : e1 u = (g, (A, false)) := sN_of (q := (0, false)) r1
  have s2 : e2 u = (n, (A + B, false)) := by unfold e2; rw [s1]; exact sN_of (q := (A, false)) (by rw [r2]; simp)
  have s3 : e3 u = (m, (A + B + C, false)) := by unfold e3; rw [s2]; exact sN_of (q := (A + B, false)) (by rw [r3]; simp)
  have s4 : e4 u = (x, (A + B + C + D, false)) := by unfold e4; rw [s3]; exact sN_of (q := (A + B + C, false)) (by rw [r4]; simp)
  have s5 : e5 u = (t, (A + B + C + D + E + t.size, false)) := by unfold e5; rw [s4]; exact sT_of (q := (A + B + C + D, false)) (by rw [r5]; simp)
  refine ⟨?_, ?_⟩
  · unfold rdOk
    rw [s1, s2, s3, s4, s5]
    simp only [Bool.not_false, Bool.true_and, Bool.and_eq_true, decide_eq_true_eq]
    exact ⟨by omega, h⟩
  · unfold rdEnv
    rw [s1, s2, s3, s4, s5]
/-- A right envelope comes back from its bytes. -/
theorem readE_env {g n m x : Int} {t : ByteArray} (h : envB g n m x t = true) : readE (envS g n m x t) = (⟨g, n, m, x, t⟩, 0) := by
  have ht := (envB_bounds h).2.2.2.2.2
  have hz := envT_size (g := g) (n := n) (m := m) (x := x) ht
  obtain ⟨h1, h2⟩ := envT_read h
  have ho : openS (envS g n m x t) = (envT g n m x t, 0, 0) := by rw [envS_yes h, sealS_yes (by omega)]; exact open_seal (by omega)
  rw [readE_ok (by rw [ho]) (by rw [ho]; exact h1), ho]
  exact Prod.ext h2 rfl
theorem sN_good {u : ByteArray} {q : Nat × Bool} (h : (sN u q).2.2 = false) : (rdS u q.1 10 0 0).2.2 = 0 ∧ q.2 = false := by
  by_cases hc : (rdS u q.1 10 0 0).2.2 = 0
  · exact ⟨hc, (sN_yes hc).2.1.symm.trans h⟩
  · rw [sN_no hc] at h; cases h
theorem sT_good {u : ByteArray} {q : Nat × Bool} (h : (sT u q).2.2 = false) : (txtS u q.1).2.2 = 0 ∧ q.2 = false := by
  by_cases hc : (txtS u q.1).2.2 = 0
  · exact ⟨hc, (sT_yes hc).2.1.symm.trans h⟩
  · rw [sT_no hc] at h; cases h
theorem step_piece {u : ByteArray} {q : Nat × Bool} (h : (rdS u q.1 10 0 0).2.2 = 0) : u.extract q.1 (sN u q).2.1 = numS (sN u q).1 ∧ q.1 ≤ (sN u q).2.1 := by
  obtain ⟨hy, _, hp⟩ := sN_yes h
  obtain ⟨hi, hh, he⟩ := back_num hy
  obtain ⟨h1, h2⟩ := piece_num hi hh
  have e : (sN u q).2.1 = q.1 + (numS (sN u q).1).size := by omega
  rw [e]
  exact ⟨h1, by omega⟩
theorem join_pieces {u x y : ByteArray} {a b c : Nat} (h1 : u.extract a b = x) (h2 : u.extract b c = y) (hab : a ≤ b) (hbc : b ≤ c) : u.extract a c = x ++ y := by
  rw [← h1, ← h2, ByteArray.extract_append_extract]
  congr 1 <;> omega
/-- Of bytes that are an envelope's it has these. -/
theorem envT_back {u : ByteArray} (h : rdOk u = true) : envB (rdEnv u).g (rdEnv u).n (rdEnv u).m (rdEnv u).x (rdEnv u).t = true ∧ envT (rdEnv u).g (rdEnv u).n (rdEnv u).m (rdEnv u).x (rdEnv u).t = u := by
  unfold rdOk at h
  simp only [Bool.and_eq_true, Bool.not_eq_true', decide_eq_true_eq] at h
  obtain ⟨h5, hp, hB⟩ := h
  obtain ⟨c5, h4⟩ := sT_good (u := u) (q := (e4 u).2) h5
  obtain ⟨c4, h3⟩ := sN_good (u := u) (q := (e3 u).2) h4
  obtain ⟨c3, h2⟩ := sN_good (u := u) (q := (e2 u).2) h3
  obtain ⟨c2, h1⟩ := sN_good (u := u) (q := (e1 u).2) h2
  obtain ⟨c1, h0⟩ := sN_good (u := u) (q := (0, false)) h1
  have p1 := step_piece (u := u) (q := (0, false)) c1
  have p2 := step_piece (u := u) (q := (e1 u).2) c2
  have p3 := step_piece (u := u) (q := (e2 u).2) c3
  have p4 := step_piece (u := u) (q := (e3 u).2) c4
  obtain ⟨hy, _, hle⟩ := sT_yes (u := u) (q := (e4 u).2) c5
  obtain ⟨ht8, hx, _, _, ha⟩ := back_text hy
  rw [Int.toNat_natCast] at hx
  have k1 : u.extract 0 (e1 u).2.1 = numS (e1 u).1 := p1.1
  have k2 : u.extract (e1 u).2.1 (e2 u).2.1 = numS (e2 u).1 := p2.1
  have k3 : u.extract (e2 u).2.1 (e3 u).2.1 = numS (e3 u).1 := p3.1
  have k4 : u.extract (e3 u).2.1 (e4 u).2.1 = numS (e4 u).1 := p4.1
  have k5 : u.extract (e4 u).2.1 (e5 u).2.1 = numS (e5 u).1.size ++ (e5 u).1 := hx
  have l2 : (e1 u).2.1 ≤ (e2 u).2.1 := p2.2
  have l3 : (e2 u).2.1 ≤ (e3 u).2.1 := p3.2
  have l4 : (e3 u).2.1 ≤ (e4 u).2.1 := p4.2
  have l5 : (e4 u).2.1 ≤ (e5 u).2.1 := by have : ((e4 u).2.1 : Int) ≤ ((e5 u).2.1 : Int) := ha; omega
  have j2 := join_pieces k1 k2 (Nat.zero_le _) l2
  have j3 := join_pieces j2 k3 (Nat.zero_le _) l3
  have j4 := join_pieces j3 k4 (Nat.zero_le _) l4
  have j5 := join_pieces j4 k5 (Nat.zero_le _) l5
  refine ⟨hB, ?_⟩
  show envT (e1 u).1 (e2 u).1 (e3 u).1 (e4 u).1 (e5 u).1 = u
  unfold envT
  rw [putTextS_short (t := (e5 u).1) ht8, ← j5, hp]
  exact ByteArray.extract_zero_size
theorem openS_whole {s u : ByteArray} (h : openS s = (u, 0, 0)) : s = u ++ crc4 u ∧ u.size ≤ 7996 := by
  unfold openS at h
  split at h
  · simp at h
  rename_i h8
  split at h
  · simp at h
  rename_i h4
  unfold unsS at h
  split at h
  · rename_i ht
    simp only [Prod.mk.injEq, and_true] at h
    subst h
    refine ⟨?_, by rw [body_size]; omega⟩
    rw [← ht]
    unfold bodyS tailS
    have hj := join_pieces (u := s) (a := 0) (b := s.size - 4) (c := s.size) rfl rfl (Nat.zero_le _) (by omega)
    rw [← hj]
    exact ByteArray.extract_zero_size.symm
  · simp at h
theorem openS_env {s : ByteArray} (h : (openS s).2.2 = 0) : openS s = ((openS s).1, 0, 0) := by
  revert h
  unfold openS
  split
  · intro h; simp at h
  split
  · intro h; simp at h
  unfold unsS
  split
  · intro h; rfl
  · intro h; simp at h
/-- Of bytes that are read, the envelope has these. -/
theorem env_back {s : ByteArray} {e : Ev} (h : readE s = (e, 0)) : envS e.g e.n e.m e.x e.t = s := by
  by_cases hc : (openS s).2.2 = 0
  · by_cases hk : rdOk (openS s).1 = true
    · rw [readE_ok hc hk] at h
      simp only [Prod.mk.injEq, and_true] at h
      subst h
      obtain ⟨hB, hT⟩ := envT_back hk
      obtain ⟨hw, hz⟩ := openS_whole (openS_env hc)
      rw [envS_yes hB, hT, sealS_yes hz]
      exact hw.symm
    · have hk2 : rdOk (openS s).1 = false := by simpa using hk
      rw [readE_bad hc hk2] at h
      simp at h
  · rw [readE_code hc] at h
    simp only [Prod.mk.injEq] at h
    exact absurd h.2 hc
theorem env_right {s : ByteArray} {e : Ev} (h : readE s = (e, 0)) : envB e.g e.n e.m e.x e.t = true := by
  by_cases hc : (openS s).2.2 = 0
  · by_cases hk : rdOk (openS s).1 = true
    · rw [readE_ok hc hk] at h
      simp only [Prod.mk.injEq, and_true] at h
      subst h
      exact (envT_back hk).1
    · have hk2 : rdOk (openS s).1 = false := by simpa using hk
      rw [readE_bad hc hk2] at h
      simp at h
  · rw [readE_code hc] at h
    simp only [Prod.mk.injEq] at h
    exact absurd h.2 hc
end Go.Proofs.YtdnbkjiijpeiiaaDoor
