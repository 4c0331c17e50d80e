/- Texts put together: what the law uses of them. -/
import Derived.Test.YtidcpdfhnhfelaaGreatDoorQTxr01
import Derived.Test.YtidcpdfhnhfelaaGreatDoorQTxr11
import Derived.Test.YtidcpdfhnhfelaaGreatDoorQTxr00
/- What the functions that read a number answer. -/
namespace Go.Proofs.YtidcpdfhnhfelaaGreatDoor
open Go.RowKit G MGet
set_option linter.unusedVariables false
def numOutV (t : Int × Int × Int) : Value := .agg #[.int .i64 t.1, .int .i64 t.2.1, .int .i64 t.2.2]
theorem ret_num {t : Int × Int × Int} {a b c : Int} (h : t = (a, b, c)) : Ending.returned (.agg #[.int .i64 a, .int .i64 b, .int .i64 c]) = .returned (numOutV t) := by rw [h]; rfl
set_option maxHeartbeats 1600000 in
theorem specGetNum_any (s : ByteArray) (a : Int) (w : World) (ha : (Lit.int .i64 a).wf = true) (hs : s.size ≤ maxLen) :
    Calls Tryz.prog 61 #[.string s, .int .i64 a] w fun e w' => e = .returned (numOutV (getS s a)) ∧ Below w.heap.size w w' := by
  unfold maxLen at hs
  obtain ⟨g0, g1⟩ := bounds_i64 ha
  by_cases hl : 8000 < s.size
  · go_enter Tryz.func61, Tryz.ntmps61
    go_wp2_with fail
    exact bodyPost_ret (v := .agg #[.int .i64 0, .int .i64 0, .int .i64 2]) (by simp [results, Tryz.results61, go_sem]) rfl ⟨ret_num (getS_size hl), (Below.refl _ _).alloc (Nat.le_refl _) _⟩
  · by_cases hn : a < 0
    · go_enter Tryz.func61, Tryz.ntmps61
      go_wp2_with fail
      exact bodyPost_ret (v := .agg #[.int .i64 0, .int .i64 0, .int .i64 1]) (by simp [results, Tryz.results61, go_sem]) rfl ⟨ret_num (getS_form hl hn), (Below.refl _ _).alloc (Nat.le_refl _) _⟩
    · obtain ⟨j, rfl⟩ := Int.eq_ofNat_of_zero_le (show 0 ≤ a by omega)
      have HG := Lib.hid (getS_read (s := s) (a := j) hl)
      have hb := PlainAid.get_bt s
      go_enter Tryz.func61, Tryz.ntmps61
      go_wp2_with fail
      go_loop [5, 6] (fun u i => ∃ (k : Nat) (x : Int), k ≤ 9 ∧ i = .int .i64 k ∧ u = .int .u64 x ∧ 0 ≤ x ∧ x < 2 ^ (7 * k) ∧ rdS s j (9 - k + 1) k x = rdS s j 10 0 0) (fun _ i => 10 - (intOf i).toNat)
      case atStart => exact ⟨0, 0, by omega, rfl, rfl, by omega, by decide, rfl⟩
      case round =>
        obtain ⟨k, x, hk, rfl, rfl, hx0, hx1, hrd⟩ := hrel
        have HX := Lib.hid hx1; clear hx1
        have HR := Lib.hid (hrd.trans HG.out.symm); clear hrd
        by_cases hsh : s.size ≤ j + k
        · have HF := Lib.hid (HR.out.symm.trans (rd_short hsh))
          go_wp2_with fail
          exact bodyPost_ret (v := .agg #[.int .i64 0, .int .i64 0, .int .i64 4]) (by simp [results, Tryz.results61, go_sem]) rfl ⟨ret_num HF.out, (Below.refl _ _).alloc (Nat.le_refl _) _⟩
        · have hc0 := PlainAid.bt_nonneg s (j + k)
          have hc1 := PlainAid.bt_le s (j + k)
          have hjk : j + k < s.size := by omega
          by_cases h9 : k = 9 ∧ 1 < PlainAid.bt s (j + k)
          · obtain ⟨h9, h91⟩ := h9
            have HF := Lib.hid (HR.out.symm.trans (rd_ten hsh h9 h91))
            subst h9
            go_wp2_with fail
            exact bodyPost_ret (v := .agg #[.int .i64 0, .int .i64 0, .int .i64 3]) (by simp [results, Tryz.results61, go_sem]) rfl ⟨ret_num HF.out, (Below.refl _ _).alloc (Nat.le_refl _) _⟩
          · by_cases hA : PlainAid.bt s (j + k) = 0 ∧ 0 < k
            · obtain ⟨hA0, hAk⟩ := hA
              have HF := Lib.hid (HR.out.symm.trans (rd_nil hsh hA0 hAk))
              have h9' : ¬ (k = 9 ∧ 1 < PlainAid.bt s (j + k)) := h9
              have hcl : PlainAid.bt s (j + k) < 128 := by omega
              have hcz : (PlainAid.bt s (j + k) == 0) = true := by simp [hA0]
              have hcn : ¬ 1 < PlainAid.bt s (j + k) := by omega
              have HA0 := Lib.hid hA0; clear hA0
              have hfit := add_fits hx0 HX.out hk hc0 hc1 (fun h => by omega)
              obtain ⟨hp0, hp1, hp2⟩ := hfit
              go_wp2_with fail
              all_goals exact bodyPost_ret (v := .agg #[.int .i64 0, .int .i64 0, .int .i64 3]) (by simp [results, Tryz.results61, go_sem]) rfl ⟨ret_num HF.out, (Below.refl _ _).alloc (Nat.le_refl _) _⟩
            · by_cases hC : PlainAid.bt s (j + k) < 128
              · have HF := Lib.hid (HR.out.symm.trans (rd_last hsh h9 hC hA))
                have hfit := add_fits hx0 HX.out hk hc0 hc1 (fun h => by omega)
                obtain ⟨hp0, hp1, hp2⟩ := hfit
                by_cases hk9 : k = 9
                · subst hk9
                  have hq1 : x + PlainAid.bt s (j + 9) % 128 * 9223372036854775808 ≤ 18446744073709551615 := by simpa using hp2
                  clear hp0 hp1 hp2
                  have hz : ¬ PlainAid.bt s (j + 9) = 0 := by omega
                  by_cases hpar : (x + PlainAid.bt s (j + 9) % 128 * 9223372036854775808) % 2 = 1
                  · have HU := Lib.hid (show unf (x + PlainAid.bt s (j + 9) % 128 * 2 ^ (7 * 9)) = -((x + PlainAid.bt s (j + 9) % 128 * 9223372036854775808) / 2) - 1 from by simpa using unf_odd hpar)
                    have hpb : ((x + PlainAid.bt s (j + 9) % 128 * 9223372036854775808) % 2 == 1) = true := by simp [hpar]
                    have HPAR := Lib.hid hpar; clear hpar
                    go_wp2_with fail
                    exact bodyPost_ret (v := .agg #[.int .i64 (-((x + PlainAid.bt s (j + 9) % 128 * 9223372036854775808) / 2) - 1), .int .i64 (j + (9 : Nat) + 1), .int .i64 0]) (by simp [results, Tryz.results61, go_sem]) rfl ⟨ret_num (by rw [HF.out, HU.out]), (Below.refl _ _).alloc (Nat.le_refl _) _⟩
                  · have HU := Lib.hid (show unf (x + PlainAid.bt s (j + 9) % 128 * 2 ^ (7 * 9)) = (x + PlainAid.bt s (j + 9) % 128 * 9223372036854775808) / 2 from by simpa using unf_even hpar)
                    have hpb : ((x + PlainAid.bt s (j + 9) % 128 * 9223372036854775808) % 2 == 1) = false := by simp; omega
                    have HPAR := Lib.hid hpar; clear hpar
                    go_wp2_with fail
                    exact bodyPost_ret (v := .agg #[.int .i64 ((x + PlainAid.bt s (j + 9) % 128 * 9223372036854775808) / 2), .int .i64 (j + (9 : Nat) + 1), .int .i64 0]) (by simp [results, Tryz.results61, go_sem]) rfl ⟨ret_num (by rw [HF.out, HU.out]), (Below.refl _ _).alloc (Nat.le_refl _) _⟩
                · by_cases hc0' : PlainAid.bt s (j + k) = 0
                  · obtain rfl : k = 0 := by omega
                    obtain rfl : x = 0 := by have := HX.out; simp at this; omega
                    have HU := Lib.hid (show unf (0 + PlainAid.bt s (j + 0) % 128 * 2 ^ (7 * 0)) = PlainAid.bt s j % 128 / 2 from by rw [show PlainAid.bt s j = 0 from hc0', hc0']; rfl)
                    rw [Nat.add_zero] at hc0 hc1 hc0' hC
                    have hcz : (PlainAid.bt s j == 0) = true := by simp [hc0']
                    have hcl : PlainAid.bt s j ≤ 0 := by omega
                    have HC0 := Lib.hid hc0'; clear hc0' hp0 hp1 hp2 hA h9 HC0 hjk
                    go_wp2_with fail
                    exact bodyPost_ret (v := .agg #[.int .i64 (PlainAid.bt s j % 128 / 2), .int .i64 (j + 1), .int .i64 0]) (by simp [results, Tryz.results61, go_sem]) rfl ⟨ret_num (by rw [HF.out, HU.out]; simp), (Below.refl _ _).alloc (Nat.le_refl _) _⟩
                  · by_cases hpar : (x + PlainAid.bt s (j + k) % 128 * 2 ^ (7 * k)) % 2 = 1
                    · have HU : Hid (unf (x + PlainAid.bt s (j + k) % 128 * 2 ^ (7 * k)) = -((x + PlainAid.bt s (j + k) % 128 * 2 ^ (7 * k)) / 2) - 1) := unf_odd hpar
                      have hpb : ((x + PlainAid.bt s (j + k) % 128 * 2 ^ (7 * k)) % 2 == 1) = true := by simp [hpar]
                      have HPAR := Lib.hid hpar; clear hpar
                      go_wp2_with fail
                      exact bodyPost_ret (v := .agg #[.int .i64 (-((x + PlainAid.bt s (j + k) % 128 * 2 ^ (7 * k)) / 2) - 1), .int .i64 (j + k + 1), .int .i64 0]) (by simp [results, Tryz.results61, go_sem]) rfl ⟨ret_num (by rw [HF.out, HU.out]), (Below.refl _ _).alloc (Nat.le_refl _) _⟩
                    · have HU : Hid (unf (x + PlainAid.bt s (j + k) % 128 * 2 ^ (7 * k)) = (x + PlainAid.bt s (j + k) % 128 * 2 ^ (7 * k)) / 2) := unf_even hpar
                      have hpb : ((x + PlainAid.bt s (j + k) % 128 * 2 ^ (7 * k)) % 2 == 1) = false := by simp; omega
                      have HPAR := Lib.hid hpar; clear hpar
                      go_wp2_with fail
                      exact bodyPost_ret (v := .agg #[.int .i64 ((x + PlainAid.bt s (j + k) % 128 * 2 ^ (7 * k)) / 2), .int .i64 (j + k + 1), .int .i64 0]) (by simp [results, Tryz.results61, go_sem]) rfl ⟨ret_num (by rw [HF.out, HU.out]), (Below.refl _ _).alloc (Nat.le_refl _) _⟩
              · have h9k : k ≠ 9 := by omega
                have HF := Lib.hid (rd_more (f := 9 - k) (x := x) hsh h9k hC)
                have hfit := add_fits hx0 HX.out hk hc0 hc1 (fun h => by omega)
                obtain ⟨hp0, hp1, hp2⟩ := hfit
                have HM := Lib.hid (add_more hx0 HX.out (by omega) hc0 hc1)
                go_wp2_with fail
                go_round
                case rel => exact ⟨k + 1, _, by omega, by go_num, rfl, HM.out.1, HM.out.2, by rw [show 9 - (k + 1) + 1 = 9 - k by omega, ← HF.out, HR.out, HG.out]⟩
                case measure => simp [intOf]; omega
end Go.Proofs.YtidcpdfhnhfelaaGreatDoor

