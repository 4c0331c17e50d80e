/- A number is read back from its bytes; of bytes that end too early nothing is read. Nothing of the program stands here. -/
import Derived.Test.YteigjnjcfnpckaaDoorMNum
import Derived.Test.YteigjnjcfnpckaaDoorMGet
namespace Go.Proofs.YteigjnjcfnpckaaDoor.MGet
open Go.PlainAid MNum
/-- From place a on the text holds the numbers l. -/
def HoldsL (s : ByteArray) (a : Nat) (l : List Int) : Prop := ∀ i, i < l.length → a + i < s.size ∧ bt s (a + i) = l.getD i 0
theorem HoldsL.head {s : ByteArray} {a : Nat} {x : Int} {l : List Int} (h : HoldsL s a (x :: l)) : a < s.size ∧ bt s a = x := by
  have := h 0 (by simp); simpa using this
theorem HoldsL.tail {s : ByteArray} {a : Nat} {x : Int} {l : List Int} (h : HoldsL s a (x :: l)) : HoldsL s (a + 1) l := by
  intro i hi
  have := h (i + 1) (by simp; omega)
  rw [show a + 1 + i = a + (i + 1) by omega]
  simpa using this
theorem unf_fold {n : Int} (h : i64P n) : unf (foldI n) = n := by
  unfold i64P at h
  by_cases a : 0 ≤ n
  · rw [foldI_pos a, unf_even (by omega)]; omega
  · rw [foldI_neg (by omega), unf_odd (by omega)]; omega
theorem pow_step (k : Nat) : (2 : Int) ^ (7 * (k + 1)) = 128 * 2 ^ (7 * k) := by
  rw [show 7 * (k + 1) = 7 * k + 7 by omega, Int.pow_add]; omega
theorem split128 (u p : Int) : u % 128 * p + u / 128 * (128 * p) = u * p := by
  have h : u = u % 128 + u / 128 * 128 := by omega
  conv => rhs; rw [h]
  rw [Int.add_mul, Int.mul_assoc]
theorem read_enc {s : ByteArray} {a : Nat} : ∀ (f k : Nat) (x u : Int), k + f = 9 → 0 ≤ u → u < capN f → (0 < k → 1 ≤ u) → 0 ≤ x → x + u * 2 ^ (7 * k) ≤ 18446744073709551615 → HoldsL s (a + k) (encL f u) →
    rdS s a (f + 1) k x = (unf (x + u * 2 ^ (7 * k)), (a : Int) + (k : Int) + ((encL f u).length : Int), 0)
  | 0, k, x, u, hk, h0, hc, hpos, hx, hb, hh => by
    have h1 : u < 128 := by simpa [capN] using hc
    obtain rfl : k = 9 := by omega
    have hu1 : u ≤ 1 := by
      have : (2 : Int) ^ (7 * 9) = 9223372036854775808 := by decide
      rw [this] at hb; omega
    have hd := (HoldsL.head (l := []) (by simpa [encL] using hh))
    rw [rd_last (by omega) (by rw [hd.2]; omega) (by rw [hd.2]; omega) (by rw [hd.2]; intro h; have := hpos (by omega); omega), hd.2, show u % 128 = u by omega]
    simp [encL]
  | f + 1, k, x, u, hk, h0, hc, hpos, hx, hb, hh => by
    by_cases hu : u < 128
    · rw [encL_small hu] at hh ⊢
      have hd := HoldsL.head (l := []) hh
      rw [rd_last (by omega) (by omega) (by rw [hd.2]; exact hu) (by rw [hd.2]; intro h; have := hpos h.2; omega), hd.2, show u % 128 = u by omega]
      simp
    · rw [encL_big (by omega)] at hh ⊢
      have hd := hh.head
      have ht := hh.tail
      have hm : (u % 128 + 128) % 128 = u % 128 := by omega
      rw [rd_more (by omega) (by omega) (by rw [hd.2]; omega), hd.2, hm]
      have hp := pow_step k
      have hs := split128 u (2 ^ (7 * k))
      have hpp : (0 : Int) ≤ 2 ^ (7 * k) := Int.le_of_lt (Int.pow_pos (by decide))
      have hmul : (0 : Int) ≤ u % 128 * 2 ^ (7 * k) := Int.mul_nonneg (by omega) hpp
      have e : x + u % 128 * 2 ^ (7 * k) + u / 128 * 2 ^ (7 * (k + 1)) = x + u * 2 ^ (7 * k) := by rw [hp]; omega
      rw [read_enc f (k + 1) (x + u % 128 * 2 ^ (7 * k)) (u / 128) (by omega) (by omega) (cap_step hc) (by omega) (by omega) (by rw [e]; exact hb) (by rw [show a + (k + 1) = a + k + 1 by omega]; exact ht), e]
      simp
      omega
/-- A number is read back from where its bytes stand. -/
theorem read_num {s : ByteArray} {a : Nat} {n : Int} (h : i64P n) (hh : HoldsL s a (encN (foldI n))) : rdS s a 10 0 0 = (n, (a : Int) + ((encN (foldI n)).length : Int), 0) := by
  have hr := foldI_range h
  have := read_enc (s := s) (a := a) 9 0 0 (foldI n) rfl hr.1 (cap_all hr.2) (fun h => absurd h (by omega)) (by omega) (by have := hr.2; unfold p64 at this; simp; omega) (by rw [Nat.add_zero]; exact hh)
  rw [this]
  simp [unf_fold h, encN]
/-- Of bytes that end ahead of the last one nothing is read. -/
theorem read_cut {s : ByteArray} {a : Nat} : ∀ (f k : Nat) (x u : Int), k + f = 9 → u < capN f → HoldsL s (a + k) (encL f u).dropLast → s.size + 1 = a + k + (encL f u).length →
    rdS s a (f + 1) k x = (0, 0, 4)
  | 0, k, x, u, hk, hc, hh, hs => by
    exact rd_short (by simp [encL] at hs; omega)
  | f + 1, k, x, u, hk, hc, hh, hs => by
    by_cases hu : u < 128
    · rw [encL_small hu] at hs
      exact rd_short (by simp at hs; omega)
    · rw [encL_big (by omega)] at hh hs
      have hl := (encL_len f (u / 128)).1
      have hne : encL f (u / 128) ≠ [] := fun h => by rw [h] at hl; simp at hl
      rw [List.dropLast_cons_of_ne_nil hne] at hh
      have hd := hh.head
      have ht := hh.tail
      rw [rd_more (by omega) (by omega) (by rw [hd.2]; omega)]
      exact read_cut f (k + 1) _ (u / 128) (by omega) (cap_step hc) (by rw [show a + (k + 1) = a + k + 1 by omega]; exact ht) (by simp at hs; omega)
theorem enc_bytes : ∀ (f : Nat) (u : Int), 0 ≤ u → u < capN f → ∀ z ∈ encL f u, 0 ≤ z ∧ z ≤ 255
  | 0, u, h0, hc, z, hz => by
    have h1 : u < 128 := by simpa [capN] using hc
    simp [encL] at hz; omega
  | f + 1, u, h0, hc, z, hz => by
    by_cases hu : u < 128
    · rw [encL_small hu] at hz; simp at hz; omega
    · rw [encL_big (by omega)] at hz
      rcases List.mem_cons.1 hz with rfl | hz
      · omega
      · exact enc_bytes f (u / 128) (by omega) (cap_step hc) z hz
theorem bt_nums {zs : List Int} (h : ∀ z ∈ zs, 0 ≤ z ∧ z ≤ 255) {i : Nat} (hi : i < zs.length) : bt (strOfNums zs) i = zs.getD i 0 := by
  have hs : i < (strOfNums zs).size := by rw [strOfNums_size]; exact hi
  have hz := h zs[i] (List.getElem_mem hi)
  unfold bt
  rw [dif_pos hs]
  have e : (strOfNums zs)[i] = UInt8.ofNat zs[i].toNat := by
    show (strOfNums zs).data[i] = _
    simp [strOfNums]
  rw [e]
  simp [List.getD, List.getElem?_eq_getElem hi]
  omega
theorem bt_left {x y : ByteArray} {i : Nat} (h : i < x.size) : bt (x ++ y) i = bt x i := by
  unfold bt
  rw [dif_pos (by rw [ByteArray.size_append]; omega), dif_pos h, ByteArray.getElem_append_left h]
theorem bt_right {x y : ByteArray} {i : Nat} (h : x.size ≤ i) : bt (x ++ y) i = bt y (i - x.size) := by
  unfold bt
  by_cases hy : i - x.size < y.size
  · rw [dif_pos (by rw [ByteArray.size_append]; omega), dif_pos hy, ByteArray.getElem_append_right h]
  · rw [dif_neg (by rw [ByteArray.size_append]; omega), dif_neg hy]
/-- A text that stands in the midst of another. -/
theorem holds_mid {x y : ByteArray} {zs : List Int} (h : ∀ z ∈ zs, 0 ≤ z ∧ z ≤ 255) : HoldsL (x ++ strOfNums zs ++ y) x.size zs := by
  intro i hi
  have hs : (strOfNums zs).size = zs.length := strOfNums_size zs
  refine ⟨by rw [ByteArray.size_append, ByteArray.size_append]; omega, ?_⟩
  rw [bt_left (by rw [ByteArray.size_append]; omega), bt_right (by omega), show x.size + i - x.size = i by omega, bt_nums h hi]
end Go.Proofs.YteigjnjcfnpckaaDoor.MGet
