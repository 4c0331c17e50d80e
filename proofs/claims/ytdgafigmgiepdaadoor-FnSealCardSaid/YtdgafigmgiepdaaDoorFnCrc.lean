/- What the functions on CRCs answer. -/
import Derived.Test.YtdgafigmgiepdaaDoorFnSmall
import Derived.Test.YtdgafigmgiepdaaDoorMCrc
namespace Go.Proofs.YtdgafigmgiepdaaDoor
open Go.RowKit G MCrc
set_option linter.unusedVariables false
theorem l01Crc_any (crc : Int) (s : ByteArray) (w : World) (h0 : 0 ≤ crc) (h1 : crc ≤ 4294967295) (hs : s.size ≤ maxLen) :
    Calls Tryd.prog 45 #[.int .i64 crc, .string s] w fun e w' => e = .returned (.int .i64 (crcOn crc s)) ∧ w = w' := by
  unfold maxLen at hs
  have hb := PlainAid.get_bt s
  have hxd := xor32_def
  go_enter Tryd.func45, Tryd.ntmps45
  go_wp2_with fail
  have HR := Lib.hid (xor32_range crc 4294967295)
  go_loop [5, 6] (fun r i => ∃ k : Nat, k ≤ s.size ∧ i = .int .i64 k ∧ r = .int .u32 (crcTo (xor32 crc 4294967295) s k)) (fun _ i => s.size - (intOf i).toNat)
  case atStart => exact ⟨0, Nat.zero_le _, rfl, rfl⟩
  case round =>
    obtain ⟨k, hk, rfl, rfl⟩ := hrel
    have HX := Lib.hid (crcTo_range HR.out s k)
    have HN := Lib.hid (crcTo_succ (xor32 crc 4294967295) s k)
    have HE := Lib.hid (fun h => crcOn_end (crc := crc) (s := s) (k := k) hk h)
    generalize crcTo (xor32 crc 4294967295) s k = x at *
    by_cases hlt : k < s.size
    · have hb0 := PlainAid.bt_nonneg s k
      have hb1 := PlainAid.bt_le s k
      go_wp2_with fail
      have HY := Lib.hid (xor32_range x (PlainAid.bt s k))
      generalize xor32 x (PlainAid.bt s k) = y at *
      go_loop [5, 7] (fun r j => ∃ i : Nat, i ≤ 8 ∧ j = .int .i64 i ∧ r = .int .u32 (crcBits y i)) (fun _ j => 8 - (intOf j).toNat)
      case atStart => exact ⟨0, by omega, rfl, rfl⟩
      case round =>
        obtain ⟨i, hi, rfl, rfl⟩ := hrel
        have hz := crcBits_range HY.out i
        have HZ := Lib.hid (crcBits_succ y i)
        have HZ8 : Hid (i = 8 → crcBits y i = crcBits y 8) := fun h => by rw [h]
        generalize crcBits y i = z at *
        obtain ⟨hz0, hz1⟩ := hz
        by_cases hl8 : i < 8
        · cases hbit : (bits .and .u32 z 1 == 1)
          · go_wp2_with fail
            go_round
            case rel => exact ⟨i + 1, by omega, by go_num, by rw [HZ.out, crcBit_nil hbit]⟩
            case measure => simp [intOf]; omega
          · go_wp2_with fail
            go_round
            case rel => exact ⟨i + 1, by omega, by go_num, by rw [HZ.out, crcBit_one hbit]⟩
            case measure => simp [intOf]; omega
        · have H8 := HZ8.out (by omega)
          have H8' := Lib.hid H8; clear H8
          go_wp2_with fail
          go_round
          case rel => exact ⟨k + 1, by omega, by go_num, by rw [HN.out, H8'.out]⟩
          case measure => simp [intOf]; omega
    · have HE' := HE.out hlt
      have HF := Lib.hid HE'; clear HE'
      have hx0 := (xor32_range x 4294967295).1
      have hx1 := (xor32_range x 4294967295).2
      go_wp2_with fail
      go_ret
      exact ⟨ret_int HF.out, rfl⟩
theorem crcOver_any (r : Int) (s : ByteArray) (w : World) (h0 : 0 ≤ r) (h1 : r ≤ 4294967295) (hs : s.size ≤ maxLen) :
    Calls Tryd.prog 49 #[.int .u32 r, .string s] w fun e w' => e = .returned (.int .u32 (crcTo r s s.size)) ∧ w = w' := by
  unfold maxLen at hs
  have hb := PlainAid.get_bt s
  have hxd := xor32_def
  go_enter Tryd.func49, Tryd.ntmps49
  go_wp2_with fail
  have HR : Hid (0 ≤ r ∧ r ≤ 4294967295) := ⟨h0, h1⟩
  go_loop [0, 5] (fun r' i => ∃ k : Nat, k ≤ s.size ∧ i = .int .i64 k ∧ r' = .int .u32 (crcTo r s k)) (fun _ i => s.size - (intOf i).toNat)
  case atStart => exact ⟨0, Nat.zero_le _, rfl, rfl⟩
  case round =>
    obtain ⟨k, hk, rfl, rfl⟩ := hrel
    have hx := crcTo_range HR.out s k
    have HN := Lib.hid (crcTo_succ r s k)
    have HE : Hid (¬ k < s.size → crcTo r s k = crcTo r s s.size) := fun h => by rw [show k = s.size by omega]
    generalize crcTo r s k = x at *
    obtain ⟨hx0, hx1⟩ := hx
    by_cases hlt : k < s.size
    · have hb0 := PlainAid.bt_nonneg s k
      have hb1 := PlainAid.bt_le s k
      go_wp2_with fail
      have HY := Lib.hid (xor32_range x (PlainAid.bt s k))
      generalize xor32 x (PlainAid.bt s k) = y at *
      go_loop [0, 19] (fun r' j => ∃ i : Nat, i ≤ 8 ∧ j = .int .i64 i ∧ r' = .int .u32 (crcBits y i)) (fun _ j => 8 - (intOf j).toNat)
      case atStart => exact ⟨0, by omega, rfl, rfl⟩
      case round =>
        obtain ⟨i, hi, rfl, rfl⟩ := hrel
        have hz := crcBits_range HY.out i
        have HZ := Lib.hid (crcBits_succ y i)
        have HZ8 : Hid (i = 8 → crcBits y i = crcBits y 8) := fun h => by rw [h]
        generalize crcBits y i = z at *
        obtain ⟨hz0, hz1⟩ := hz
        by_cases hl8 : i < 8
        · cases hbit : (bits .and .u32 z 1 == 1)
          · go_wp2_with fail
            go_round
            case rel => exact ⟨i + 1, by omega, by go_num, by rw [HZ.out, crcBit_nil hbit]⟩
            case measure => simp [intOf]; omega
          · go_wp2_with fail
            go_round
            case rel => exact ⟨i + 1, by omega, by go_num, by rw [HZ.out, crcBit_one hbit]⟩
            case measure => simp [intOf]; omega
        · have H8' := Lib.hid (HZ8.out (by omega))
          go_wp2_with fail
          go_round
          case rel => exact ⟨k + 1, by omega, by go_num, by rw [HN.out, H8'.out]⟩
          case measure => simp [intOf]; omega
    · have HF := Lib.hid (HE.out hlt)
      go_wp2_with fail
      go_ret
      exact ⟨ret_int HF.out, rfl⟩
def crcMoreI (crc : Int) (s : ByteArray) : Int := if s.size ≤ 8000 ∧ 0 ≤ crc ∧ crc ≤ 4294967295 then crcOn crc s else 0
theorem crcMoreI_no {crc : Int} {s : ByteArray} (h : 8000 < s.size ∨ crc < 0 ∨ 4294967295 < crc) : crcMoreI crc s = 0 := by unfold crcMoreI; rw [if_neg (by omega)]
theorem crcMoreI_yes {crc : Int} {s : ByteArray} (h : s.size ≤ 8000) (h0 : 0 ≤ crc) (h1 : crc ≤ 4294967295) : crcMoreI crc s = crcOn crc s := by unfold crcMoreI; rw [if_pos ⟨h, h0, h1⟩]
theorem specCrcMore_any (crc : Int) (s : ByteArray) (w : World) (h : (Lit.int .i64 crc).wf = true) (hs : s.size ≤ maxLen) :
    Calls Tryd.prog 23 #[.int .i64 crc, .string s] w fun e w' => e = .returned (.int .i64 (crcMoreI crc s)) ∧ w = w' := by
  unfold maxLen at hs
  obtain ⟨g0, g1⟩ := bounds_i64 h
  by_cases a : 8000 < s.size
  · go_enter Tryd.func23, Tryd.ntmps23
    go_wp2_with fail
    go_ret
    exact ⟨ret_int (crcMoreI_no (Or.inl a)).symm, rfl⟩
  · by_cases b : crc < 0
    · go_enter Tryd.func23, Tryd.ntmps23
      go_wp2_with fail
      go_ret
      exact ⟨ret_int (crcMoreI_no (Or.inr (Or.inl b))).symm, rfl⟩
    · by_cases c : 4294967295 < crc
      · go_enter Tryd.func23, Tryd.ntmps23
        go_wp2_with fail
        go_ret
        exact ⟨ret_int (crcMoreI_no (Or.inr (Or.inr c))).symm, rfl⟩
      · go_enter Tryd.func23, Tryd.ntmps23
        go_wp2_with fail
        refine (l01Crc_any _ _ _ (by omega) (by omega) (by unfold maxLen; omega)).mono ?_
        rintro e w1 ⟨rfl, rfl⟩
        go_wp2_with fail
        go_ret
        exact ⟨ret_int (crcMoreI_yes (by omega) (by omega) (by omega)).symm, rfl⟩
theorem implCrcMore_any (crc : Int) (s : ByteArray) (w : World) (h : (Lit.int .i64 crc).wf = true) (hs : s.size ≤ maxLen) :
    Calls Tryd.prog 22 #[.int .i64 crc, .string s] w fun e w' => e = .returned (.int .i64 (crcMoreI crc s)) ∧ w = w' := by
  obtain ⟨g0, g1⟩ := bounds_i64 h
  by_cases b : crc < 0
  · go_enter Tryd.func22, Tryd.ntmps22
    go_wp2_with (go_at_call 40; refine (tooLong_any _ _ hs).mono ?_; rintro e w1 ⟨rfl, rfl⟩)
    go_ret
    exact ⟨ret_int (crcMoreI_no (Or.inr (Or.inl b))).symm, rfl⟩
  · by_cases c : 4294967295 < crc
    · go_enter Tryd.func22, Tryd.ntmps22
      go_wp2_with (go_at_call 40; refine (tooLong_any _ _ hs).mono ?_; rintro e w1 ⟨rfl, rfl⟩)
      go_ret
      exact ⟨ret_int (crcMoreI_no (Or.inr (Or.inr c))).symm, rfl⟩
    · by_cases a : 8000 < s.size
      · go_enter Tryd.func22, Tryd.ntmps22
        go_wp2_with (go_at_call 40; refine (tooLong_any _ _ hs).mono ?_; rintro e w1 ⟨rfl, rfl⟩)
        go_ret
        exact ⟨ret_int (crcMoreI_no (Or.inl a)).symm, rfl⟩
      · have hxd := xor32_def
        have hxm := xor32_max
        go_enter Tryd.func22, Tryd.ntmps22
        go_wp2_with (go_at_call 40; refine (tooLong_any _ _ hs).mono ?_; rintro e w1 ⟨rfl, rfl⟩)
        refine (crcOver_any _ _ _ (xor32_range _ _).1 (xor32_range _ _).2 hs).mono ?_
        rintro e w1 ⟨rfl, rfl⟩
        have hr0 := crcOn_range crc s
        have HO : Hid (xor32 (crcTo (xor32 crc 4294967295) s s.size) 4294967295 = crcOn crc s) := rfl
        generalize crcTo (xor32 crc 4294967295) s s.size = x at *
        have hq0 := (xor32_range x 4294967295).1
        have hq1 := (xor32_range x 4294967295).2
        go_wp2_with fail
        go_ret
        exact ⟨ret_int (by rw [HO.out, crcMoreI_yes (by omega) (by omega) (by omega)]), rfl⟩
def crcI (s : ByteArray) : Int := if s.size ≤ 8000 then crcOn 0 s else 0
theorem crcI_no {s : ByteArray} (h : 8000 < s.size) : crcI s = 0 := by unfold crcI; rw [if_neg (by omega)]
theorem crcI_yes {s : ByteArray} (h : s.size ≤ 8000) : crcI s = crcOn 0 s := by unfold crcI; rw [if_pos h]
theorem crcMoreI_zero (s : ByteArray) : crcMoreI 0 s = crcI s := by
  by_cases h : s.size ≤ 8000
  · rw [crcI_yes h, crcMoreI_yes h (by omega) (by omega)]
  · rw [crcI_no (by omega), crcMoreI_no (by omega)]
theorem specCrc_any (s : ByteArray) (w : World) (hs : s.size ≤ maxLen) :
    Calls Tryd.prog 48 #[.string s] w fun e w' => e = .returned (.int .i64 (crcI s)) ∧ w = w' := by
  unfold maxLen at hs
  by_cases a : 8000 < s.size
  · go_enter Tryd.func48, Tryd.ntmps48
    go_wp2_with fail
    go_ret
    exact ⟨ret_int (crcI_no a).symm, rfl⟩
  · go_enter Tryd.func48, Tryd.ntmps48
    go_wp2_with fail
    refine (l01Crc_any _ _ _ (by omega) (by omega) (by unfold maxLen; omega)).mono ?_
    rintro e w1 ⟨rfl, rfl⟩
    go_wp2_with fail
    go_ret
    exact ⟨ret_int (crcI_yes (by omega)).symm, rfl⟩
theorem implCrc_any (s : ByteArray) (w : World) (hs : s.size ≤ maxLen) :
    Calls Tryd.prog 24 #[.string s] w fun e w' => e = .returned (.int .i64 (crcI s)) ∧ w = w' := by
  go_enter Tryd.func24, Tryd.ntmps24
  go_wp2_with fail
  refine (implCrcMore_any _ _ _ (by decide) hs).mono ?_
  rintro e w1 ⟨rfl, rfl⟩
  go_wp2_with fail
  go_ret
  exact ⟨ret_int (crcMoreI_zero s), rfl⟩
end Go.Proofs.YtdgafigmgiepdaaDoor
