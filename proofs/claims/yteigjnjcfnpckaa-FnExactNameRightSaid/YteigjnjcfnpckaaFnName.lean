/- What the two functions on names answer: both the same. -/
import Derived.Test.YteigjnjcfnpckaaM2
import Derived.Test.YteigjnjcfnpckaaBase
namespace Go.Proofs.Yteigjnjcfnpckaa
open Go.RowKit M2 G
set_option linter.unusedVariables false
theorem isSmall_any (c : Int) (w : World) :
    Calls Try.prog 25 #[.int .u8 c] w fun e w' => e = .returned (.bool (smallB c)) ∧ w = w' := by
  unfold smallB
  by_cases a : 97 ≤ c <;> by_cases b : c ≤ 122
  all_goals
    go_enter Try.func25, Try.ntmps25
    go_wp2
    go_ret
    exact ⟨by simp [a, b], rfl⟩
theorem isDigit_any (c : Int) (w : World) :
    Calls Try.prog 26 #[.int .u8 c] w fun e w' => e = .returned (.bool (digB c)) ∧ w = w' := by
  unfold digB
  by_cases a : 48 ≤ c <;> by_cases b : c ≤ 57
  all_goals
    go_enter Try.func26, Try.ntmps26
    go_wp2
    go_ret
    exact ⟨by simp [a, b], rfl⟩
theorem specName_any (s : ByteArray) (w : World) (hs : s.size ≤ maxLen) :
    Calls Try.prog 13 #[.string s] w fun e w' => e = .returned (.bool (nameB s)) ∧ w = w' := by
  unfold maxLen at hs
  by_cases h1 : s.size < 1
  · go_enter Try.func13, Try.ntmps13
    go_wp2
    go_ret
    exact ⟨ret_bool (nameB_short (by omega)).symm, rfl⟩
  · by_cases h2 : 20 < s.size
    · go_enter Try.func13, Try.ntmps13
      go_wp2
      go_ret
      exact ⟨ret_bool (nameB_long (by omega)).symm, rfl⟩
    · go_enter Try.func13, Try.ntmps13
      go_wp2
      go_loop [3] (fun i => ∃ k : Nat, k ≤ s.size ∧ i = .int .i64 k ∧ allTo s k = true) (fun i => s.size - (intOf i).toNat)
      case atStart => exact ⟨0, Nat.zero_le _, rfl, rfl⟩
      case round =>
        obtain ⟨k, hk, rfl, ha⟩ := hrel
        have HA := Lib.hid ha; clear ha
        by_cases hlt : k < s.size
        · by_cases hk0 : k = 0
          · subst hk0
            have hb := PlainAid.get_bt s
            go_wp2
            all_goals first
              | (go_ret
                 refine ⟨ret_bool (nameB_no hlt ?_).symm, rfl⟩
                 apply okAt_false
                 simp at *
                 omega)
              | (go_round
                 case rel =>
                   refine ⟨1, by omega, by go_num, allTo_succ HA.out (okAt_true ?_)⟩
                   simp at *
                   omega
                 case measure => simp [intOf]; omega)
          · have hk1 : 1 ≤ k := by omega
            have hb := PlainAid.get_bt s
            go_wp2
            all_goals first
              | (go_ret
                 refine ⟨ret_bool (nameB_no hlt ?_).symm, rfl⟩
                 apply okAt_false
                 simp at *
                 omega)
              | (go_round
                 case rel =>
                   refine ⟨k + 1, by omega, by go_num, allTo_succ HA.out (okAt_true ?_)⟩
                   simp at *
                   omega
                 case measure => simp [intOf]; omega)
        · go_wp2
          go_ret
          exact ⟨ret_bool (nameB_yes (by omega) (by omega) (by omega) HA.out).symm, rfl⟩
theorem implName_any (s : ByteArray) (w : World) (hs : s.size ≤ maxLen) :
    Calls Try.prog 14 #[.string s] w fun e w' => e = .returned (.bool (nameB s)) ∧ w = w' := by
  unfold maxLen at hs
  by_cases h1 : s.size < 1
  · go_enter Try.func14, Try.ntmps14
    go_wp2
    go_ret
    exact ⟨ret_bool (nameB_short (by omega)).symm, rfl⟩
  · by_cases h2 : 20 < s.size
    · go_enter Try.func14, Try.ntmps14
      go_wp2
      go_ret
      exact ⟨ret_bool (nameB_long (by omega)).symm, rfl⟩
    · have h1' : 1 ≤ s.size := by omega
      have hb := PlainAid.get_bt s
      cases h0 : smallB (PlainAid.bt s 0)
      · go_enter Try.func14, Try.ntmps14
        go_wp2_with (go_at_call 25; refine (isSmall_any _ _).mono ?_; rintro e w' ⟨rfl, rfl⟩)
        go_ret
        exact ⟨ret_bool (nameB_no (k := 0) (by omega) h0).symm, rfl⟩
      · have H1 := Lib.hid (show allTo s 1 = true by simp [allTo, okAt, h0])
        go_enter Try.func14, Try.ntmps14
        go_wp2_with (go_at_call 25; refine (isSmall_any _ _).mono ?_; rintro e w' ⟨rfl, rfl⟩)
        go_loop [3] (fun i => ∃ k : Nat, 1 ≤ k ∧ k ≤ s.size ∧ i = .int .i64 k ∧ allTo s k = true) (fun i => s.size - (intOf i).toNat)
        case atStart => exact ⟨1, by omega, by omega, rfl, H1.out⟩
        case round =>
          obtain ⟨k, hk0, hk, rfl, ha⟩ := hrel
          have HA := Lib.hid ha; clear ha h0
          by_cases hlt : k < s.size
          · go_wp2_with (first
              | (go_at_call 25; refine (isSmall_any _ _).mono ?_; rintro e w' ⟨rfl, rfl⟩)
              | (go_at_call 26; refine (isDigit_any _ _).mono ?_; rintro e w' ⟨rfl, rfl⟩))
            all_goals first
              | (go_ret
                 refine ⟨ret_bool (nameB_no hlt ?_).symm, rfl⟩
                 apply okAt_false
                 simp [smallB_false, digB_false, smallB_true, digB_true] at *
                 omega)
              | (go_round
                 case rel =>
                   refine ⟨k + 1, by omega, by omega, by go_num, allTo_succ HA.out (okAt_true ?_)⟩
                   simp [smallB_false, digB_false, smallB_true, digB_true] at *
                   omega
                 case measure => simp [intOf]; omega)
          · go_wp2
            go_ret
            exact ⟨ret_bool (nameB_yes (by omega) (by omega) (by omega) HA.out).symm, rfl⟩
end Go.Proofs.Yteigjnjcfnpckaa
