/- What is read back of a number, and of a text, that was written. Nothing of the program stands here. -/
import Derived.Test.YteigjnjcfnpckaaDoorMNumRead
import Derived.Lib.Strings
namespace Go.Proofs.YteigjnjcfnpckaaDoor.MGet
open Go.PlainAid MNum
theorem enc_ok {n : Int} (h : i64P n) : ∀ z ∈ encN (foldI n), 0 ≤ z ∧ z ≤ 255 :=
  enc_bytes 9 (foldI n) (foldI_range h).1 (cap_all (foldI_range h).2)
theorem numS_len (n : Int) : (numS n).size = (encN (foldI n)).length := by unfold numS; rw [strOfNums_size]
/-- A number is read back in the midst of a text. -/
theorem get_mid {n : Int} (h : i64P n) (x y : ByteArray) : rdS (x ++ numS n ++ y) x.size 10 0 0 = (n, (x.size : Int) + ((numS n).size : Int), 0) := by
  have hh : HoldsL (x ++ numS n ++ y) x.size (encN (foldI n)) := holds_mid (enc_ok h)
  rw [read_num h hh, numS_len]
theorem bt_cut {s : ByteArray} {k i : Nat} (hk : k ≤ s.size) (hi : i < k) : bt (s.extract 0 k) i = bt s i := by
  unfold bt
  have h1 : i < (s.extract 0 k).size := by rw [ByteArray.size_extract]; omega
  rw [dif_pos h1, dif_pos (by omega)]
  congr 2
  simp [ByteArray.getElem_extract]
/-- Of a number's bytes less the last one nothing is read. -/
theorem get_cut {n : Int} (h : i64P n) : rdS ((numS n).extract 0 ((numS n).size - 1)) 0 10 0 0 = (0, 0, 4) := by
  have hl := numS_size n
  have hn := numS_len n
  refine read_cut (s := (numS n).extract 0 ((numS n).size - 1)) (a := 0) 9 0 0 (foldI n) rfl (cap_all (foldI_range h).2) ?_ ?_
  · intro i hi
    have hi' : i < (numS n).size - 1 := by
      rw [List.length_dropLast] at hi
      have : (encL 9 (foldI n)).length = (numS n).size := by rw [hn]; rfl
      omega
    refine ⟨by rw [ByteArray.size_extract]; omega, ?_⟩
    rw [show 0 + 0 + i = i by omega, bt_cut (by omega) hi']
    unfold numS
    have hb := bt_nums (enc_ok h) (i := i) (by rw [← hn]; omega)
    rw [hb]
    show (encN (foldI n)).getD i 0 = (encL 9 (foldI n)).dropLast.getD i 0
    simp only [encN, List.getD_eq_getElem?_getD]
    rw [List.getElem?_dropLast, if_pos (by have : (encL 9 (foldI n)).length = (numS n).size := by rw [hn]; rfl
                                           omega)]
  · rw [ByteArray.size_extract]
    show _ = 0 + 0 + (encN (foldI n)).length
    rw [← hn]; omega
theorem size_i64 {u : ByteArray} (h : u.size ≤ 8000) : i64P (u.size : Int) := by unfold i64P; omega
theorem cut_end (x t u : ByteArray) : (x ++ (t ++ u)).extract (x.size + t.size) (x.size + t.size + u.size) = u := by
  apply ByteArray.ext
  apply Array.toList_inj.1
  rw [Lib.extract_data]
  have e : (x ++ (t ++ u)).data.toList = (x.data.toList ++ t.data.toList) ++ u.data.toList := by simp
  have hl : (x.data.toList ++ t.data.toList).length = x.size + t.size := by simp
  rw [e, ← hl, List.drop_left, Nat.add_sub_cancel_left, List.take_of_length_le (by simp)]
theorem cut_tail (t u : ByteArray) (h : 0 < u.size) : (t ++ u).extract 0 ((t ++ u).size - 1) = t ++ u.extract 0 (u.size - 1) := by
  apply ByteArray.ext
  apply Array.toList_inj.1
  rw [Lib.extract_data, ByteArray.size_append]
  have e : (t ++ u).data.toList = t.data.toList ++ u.data.toList := by simp
  have e2 : (t ++ u.extract 0 (u.size - 1)).data.toList = t.data.toList ++ (u.data.toList.take (u.size - 1)) := by
    rw [ByteArray.data_append, Array.toList_append, Lib.extract_data, List.drop_zero, Nat.sub_zero]
  have hl : t.data.toList.length = t.size := by simp
  rw [e, e2, List.drop_zero, List.take_append, List.take_of_length_le (by omega), hl]
  congr 2
  omega
theorem cut_none (t u : ByteArray) (h : u.size = 0) : t ++ u = t := by
  apply ByteArray.ext
  apply Array.toList_inj.1
  have e : (t ++ u).data.toList = t.data.toList ++ u.data.toList := by simp
  have e1 : u.data.toList = [] := List.eq_nil_of_length_eq_zero (by simpa using h)
  rw [e, e1, List.append_nil]
theorem nil_append (t : ByteArray) : (⟨#[]⟩ : ByteArray) ++ t = t := by
  apply ByteArray.ext
  apply Array.toList_inj.1
  have e : ((⟨#[]⟩ : ByteArray) ++ t).data.toList = ([] : List UInt8) ++ t.data.toList := by simp
  rw [e, List.nil_append]
theorem get_head {n : Int} (h : i64P n) (y : ByteArray) : rdS (numS n ++ y) 0 10 0 0 = (n, ((numS n).size : Int), 0) := by
  have hm := get_mid h ⟨#[]⟩ y
  rw [nil_append] at hm
  have e : ((⟨#[]⟩ : ByteArray).size : Int) = 0 := rfl
  rw [e, Int.zero_add] at hm
  exact hm
/-- A text is read back behind another. -/
theorem getText_mid (x u : ByteArray) (hu : u.size ≤ 8000) : txtS (x ++ (numS u.size ++ u)) x.size = (u, (x.size : Int) + ((numS u.size).size : Int) + (u.size : Int), 0) := by
  have h := get_mid (size_i64 hu) x u
  rw [ByteArray.append_assoc] at h
  generalize numS u.size = t at *
  have e : ((x.size : Int) + (t.size : Int)) = ((x.size + t.size : Nat) : Int) := by omega
  rw [e] at h
  rw [txt_ok h hu (by rw [ByteArray.size_append, ByteArray.size_append]; omega), ← e, cut_end]
/-- Of a text's bytes less the last one nothing is read. -/
theorem getText_cut (u : ByteArray) (hu : u.size ≤ 8000) : txtS ((numS u.size ++ u).extract 0 ((numS u.size ++ u).size - 1)) 0 = (⟨#[]⟩, 0, 4) := by
  by_cases h0 : u.size = 0
  · rw [cut_none _ u h0]
    exact txt_err (get_cut (size_i64 hu)) (by decide)
  · have hr := get_head (size_i64 hu) (u.extract 0 (u.size - 1))
    rw [cut_tail _ u (by omega)]
    refine txt_short (n := (u.size : Int)) (p := ((numS u.size).size : Int)) hr (by omega) ?_
    rw [ByteArray.size_append, ByteArray.size_extract]
    omega
end Go.Proofs.YteigjnjcfnpckaaDoor.MGet
