/- Texts put together: what the law uses of them. -/
import Derived.BigQuiet
import Derived.WalkSmall
import Derived.Deep.QuietTactic
import Derived.Test.YtidcpdfhnhfelaaGreatDoorQTxr09
import Derived.Test.YtidcpdfhnhfelaaGreatDoorQTxr10
import Derived.Test.YtidcpdfhnhfelaaGreatDoorQTxr11
import Derived.Test.YtidcpdfhnhfelaaGreatDoorQTxr00
/- What the function that reads a number answers: Go's text jumps between labels. -/
namespace Go.Proofs.YtidcpdfhnhfelaaGreatDoor
open Go.RowKit G MGet
set_option linter.unusedVariables false
def errV (c : Int) : Value := .iface 158 (.agg #[.int .i64 c])
theorem unfolded_any (u : Int) (w : World) (h0 : 0 ≤ u) (h1 : u ≤ 18446744073709551615) :
    Calls Tryz.prog 133 #[.int .u64 u] w fun e w' => e = .returned (.int .i64 (unf u)) ∧ w = w' := by
  by_cases hp : u % 2 = 1
  · have hb : (u % 2 == 0) = false := by simp; omega
    have HU := Lib.hid (unf_odd hp); clear hp
    go_enter Tryz.func133, Tryz.ntmps133
    go_wp2_with fail
    go_ret
    exact ⟨ret_int HU.out.symm, rfl⟩
  · have hb : (u % 2 == 0) = true := by simp; omega
    have HU := Lib.hid (unf_even hp); clear hp
    go_enter Tryz.func133, Tryz.ntmps133
    go_wp2_with fail
    go_ret
    exact ⟨ret_int HU.out.symm, rfl⟩
/-- What holds at a jump to each of the three labels. -/
def readJ (s : ByteArray) (j : Nat) (W : World) (l : Nat) (a : Act) (w : World) : Prop :=
  (l = 1 ∧ ∃ (k : Nat) (x p z : Int), p = (j : Int) + (k : Int) ∧ z = 7 * (k : Int) ∧ k ≤ 9 ∧ 0 ≤ x ∧ x < 2 ^ (7 * k) ∧ rdS s j (9 - k + 1) k x = rdS s j 10 0 0 ∧ w = W.alloc (.cells #[.int .i64 0] 158) ∧ ∃ u2 u3 u8 u11 u12 u13 u14 u15 u16 u17 u18 u19 u20 u21 u22 u23 u24 u25 u26 u27 u28 u29 u30 u31 u32 u33 u34 u35 u36 u37 u38 u39 u40 u41 u42 u43 u44 u45 u46 u47 u48 u49 u50 u51 u52 u53 u54 u55 : Value, a = { tmps := #[.string s, .int .i64 p, u2, u3, .int .i64 0, .int .i64 0, .nilIface, .int .u64 x, u8, .pointer (some ⟨W.heap.size, 0, none⟩), .int .i64 z, u11, u12, u13, u14, u15, u16, u17, u18, u19, u20, u21, u22, u23, u24, u25, u26, u27, u28, u29, u30, u31, u32, u33, u34, u35, u36, u37, u38, u39, u40, u41, u42, u43, u44, u45, u46, u47, u48, u49, u50, u51, u52, u53, u54, u55], defers := [] }) ∨
  (l = 2 ∧ ∃ (k : Nat) (x y p z b : Int), p = (j : Int) + (k : Int) + 1 ∧ z = 7 * (k : Int) ∧ b = PlainAid.bt s (j + k) ∧ k ≤ 9 ∧ j + k < s.size ∧ 0 ≤ x ∧ x < 2 ^ (7 * k) ∧ rdS s j (9 - k + 1) k x = rdS s j 10 0 0 ∧ (PlainAid.bt s (j + k) < 128 ∨ k = 9) ∧ (k = 9 ∧ 1 < PlainAid.bt s (j + k) ∨ y = x + PlainAid.bt s (j + k) % 128 * 2 ^ (7 * k)) ∧ w = W.alloc (.cells #[.int .i64 0] 158) ∧ ∃ u2 u3 u11 u12 u13 u14 u15 u16 u17 u18 u19 u20 u21 u22 u23 u24 u25 u26 u27 u28 u29 u30 u31 u32 u33 u34 u35 u36 u37 u38 u39 u40 u41 u42 u43 u44 u45 u46 u47 u48 u49 u50 u51 u52 u53 u54 u55 : Value, a = { tmps := #[.string s, .int .i64 p, u2, u3, .int .i64 0, .int .i64 0, .nilIface, .int .u64 y, .int .u8 b, .pointer (some ⟨W.heap.size, 0, none⟩), .int .i64 z, u11, u12, u13, u14, u15, u16, u17, u18, u19, u20, u21, u22, u23, u24, u25, u26, u27, u28, u29, u30, u31, u32, u33, u34, u35, u36, u37, u38, u39, u40, u41, u42, u43, u44, u45, u46, u47, u48, u49, u50, u51, u52, u53, u54, u55], defers := [] }) ∨
  (l = 0 ∧ ∃ c : Int, c ≠ 0 ∧ rdS s j 10 0 0 = (0, 0, c) ∧ w = W.alloc (.cells #[.int .i64 c] 158) ∧ ∃ u1 u2 u3 u7 u8 u10 u11 u12 u13 u14 u15 u16 u17 u18 u19 u20 u21 u22 u23 u24 u25 u26 u27 u28 u29 u30 u31 u32 u33 u34 u35 u36 u37 u38 u39 u40 u41 u42 u43 u44 u45 u46 u47 u48 u49 u50 u51 u52 u53 u54 u55 : Value, a = { tmps := #[.string s, u1, u2, u3, .int .i64 0, .int .i64 0, .nilIface, u7, u8, .pointer (some ⟨W.heap.size, 0, none⟩), u10, u11, u12, u13, u14, u15, u16, u17, u18, u19, u20, u21, u22, u23, u24, u25, u26, u27, u28, u29, u30, u31, u32, u33, u34, u35, u36, u37, u38, u39, u40, u41, u42, u43, u44, u45, u46, u47, u48, u49, u50, u51, u52, u53, u54, u55], defers := [] })
def readM (l : Nat) (a : Act) (_ : World) : Nat := if l = 1 then 80 - (intOf (a.tmps.getD 10 undef)).toNat else if l = 2 then 1 else 0

def readV (t : Int × Int × Int) : Value := if t.2.2 = 0 then .tuple #[.int .i64 t.1, .int .i64 t.2.1, .nilIface] else .tuple #[.int .i64 0, .int .i64 0, errV t.2.2]
theorem readV_ok (n a : Int) : readV (n, a, 0) = .tuple #[.int .i64 n, .int .i64 a, .nilIface] := by simp [readV]
theorem readV_err {c : Int} (h : c ≠ 0) : readV (0, 0, c) = .tuple #[.int .i64 0, .int .i64 0, errV c] := by simp [readV, h]
set_option maxHeartbeats 1600000 in
theorem readNum_any (s : ByteArray) (j : Nat) (w : World) (hj : (j : Int) ≤ 9223372036854775807) (hs : s.size ≤ 8000) :
    Calls Tryz.prog 108 #[.string s, .int .i64 j] w fun e w' => e = .returned (readV (rdS s j 10 0 0)) ∧ Below w.heap.size w w' := by
  have hb := PlainAid.get_bt s
  go_enter Tryz.func108, Tryz.ntmps108
  go_wp2_with fail
  refine wp_scope_labels (readJ s j w) readM ?_ ?_
  · have hc0 := PlainAid.bt_nonneg s j
    have hc1 := PlainAid.bt_le s j
    go_wp2_with fail
    go_step3
    by_cases hsh : s.size ≤ j
    · have HF := Lib.hid (rd_short (s := s) (a := j) (f := 9) (k := 0) (x := 0) hsh)
      go_wp2_with fail
      go_step3
      exact (show readJ s j w 0 _ _ from Or.inr (Or.inr ⟨rfl, 4, by decide, HF.out, rfl, _, _, _, _, _, _, _, _, _, _, _, _, _, _, _, _, _, _, _, _, _, _, _, _, _, _, _, _, _, _, _, _, _, _, _, _, _, _, _, _, _, _, _, _, _, _, _, _, _, _, _, rfl⟩))
    · have hor : bits .or .u64 0 (PlainAid.bt s j % 128) = PlainAid.bt s j % 128 := by
        have := or_fits (x := 0) (k := 0) (by omega) (by decide) (by omega) hc0 hc1 (by omega)
        simpa using this
      have hjs : j < s.size := by omega
      by_cases hC : PlainAid.bt s j < 128
      · go_wp2_with fail
        go_step3
        exact (show readJ s j w 2 _ _ from Or.inr (Or.inl ⟨rfl, 0, 0, _, _, _, _, by simp, by simp, rfl, by omega, by omega, by omega, by decide, rfl, Or.inl hC, Or.inr (by simp), rfl, _, _, _, _, _, _, _, _, _, _, _, _, _, _, _, _, _, _, _, _, _, _, _, _, _, _, _, _, _, _, _, _, _, _, _, _, _, _, _, _, _, _, _, _, _, _, _, rfl⟩))
      · have HM := Lib.hid (rd_more (s := s) (a := j) (f := 9) (k := 0) (x := 0) (by omega) (by decide) hC)
        have HA := Lib.hid (add_more (x := 0) (c := PlainAid.bt s j) (k := 0) (by omega) (by decide) (by omega) hc0 hc1)
        have e0 : PlainAid.bt s j % 128 = 0 + PlainAid.bt s (j + 0) % 128 * 2 ^ (7 * 0) := by simp
        have E0 := Lib.hid e0; clear e0
        go_wp2_with fail
        go_step3
        exact (show readJ s j w 1 _ _ from Or.inl ⟨rfl, 1, _, _, _, by simp, by simp, by omega, by have := HA.out.1; simpa using this, by have := HA.out.2; simpa using this, by rw [E0.out]; exact HM.out.symm, rfl, _, _, _, _, _, _, _, _, _, _, _, _, _, _, _, _, _, _, _, _, _, _, _, _, _, _, _, _, _, _, _, _, _, _, _, _, _, _, _, _, _, _, _, _, _, _, _, _, rfl⟩)
  · intro l a w' hJ
    rcases hJ with ⟨rfl, k, x, p, z, rfl, rfl, hk, hx0, hx1, hrd, rfl, u2, u3, u8, u11, u12, u13, u14, u15, u16, u17, u18, u19, u20, u21, u22, u23, u24, u25, u26, u27, u28, u29, u30, u31, u32, u33, u34, u35, u36, u37, u38, u39, u40, u41, u42, u43, u44, u45, u46, u47, u48, u49, u50, u51, u52, u53, u54, u55, rfl⟩ | ⟨rfl, k, x, y, p, z, b, rfl, rfl, rfl, hk, hjk, hx0, hx1, hrd, hlast, hy, rfl, u2, u3, u11, u12, u13, u14, u15, u16, u17, u18, u19, u20, u21, u22, u23, u24, u25, u26, u27, u28, u29, u30, u31, u32, u33, u34, u35, u36, u37, u38, u39, u40, u41, u42, u43, u44, u45, u46, u47, u48, u49, u50, u51, u52, u53, u54, u55, rfl⟩ | ⟨rfl, c, hc, hrd, rfl, u1, u2, u3, u7, u8, u10, u11, u12, u13, u14, u15, u16, u17, u18, u19, u20, u21, u22, u23, u24, u25, u26, u27, u28, u29, u30, u31, u32, u33, u34, u35, u36, u37, u38, u39, u40, u41, u42, u43, u44, u45, u46, u47, u48, u49, u50, u51, u52, u53, u54, u55, rfl⟩
    · refine ⟨_, rfl, ?_⟩
      have HX := Lib.hid hx1; clear hx1
      have HR := Lib.hid hrd; clear hrd
      by_cases hsh : s.size ≤ j + k
      · have HF := Lib.hid (HR.out.symm.trans (rd_short hsh))
        go_wp2_with fail
        go_step3
        exact (show readJ s j w 0 _ _ ∧ readM 0 _ _ < readM 1 _ _ from ⟨Or.inr (Or.inr ⟨rfl, 4, by decide, HF.out, rfl, _, _, _, _, _, _, _, _, _, _, _, _, _, _, _, _, _, _, _, _, _, _, _, _, _, _, _, _, _, _, _, _, _, _, _, _, _, _, _, _, _, _, _, _, _, _, _, _, _, _, _, rfl⟩), by simp [readM, intOf]; omega⟩)
      · have hc0 := PlainAid.bt_nonneg s (j + k)
        have hc1 := PlainAid.bt_le s (j + k)
        have hjk : j + k < s.size := by omega
        by_cases h9 : k = 9
        · subst h9
          go_wp2_with fail
          all_goals go_step3
          all_goals exact (show readJ s j w 2 _ _ ∧ readM 2 _ _ < readM 1 _ _ from ⟨Or.inr (Or.inl ⟨rfl, 9, x, _, _, _, _, by simp, by simp, rfl, by omega, hjk, hx0, HX.out, HR.out, Or.inr rfl, (by
            by_cases h1 : 1 < PlainAid.bt s (j + 9)
            · exact Or.inl ⟨rfl, h1⟩
            · refine Or.inr ?_
              have h := or_fits hx0 HX.out (by omega) hc0 hc1 (fun _ => by omega)
              have hf := add_fits hx0 HX.out (by omega) hc0 hc1 (fun _ => by omega)
              simp at h hf ⊢
              rw [wraps_u64' _ (by omega) (by omega)]
              exact h), rfl, _, _, _, _, _, _, _, _, _, _, _, _, _, _, _, _, _, _, _, _, _, _, _, _, _, _, _, _, _, _, _, _, _, _, _, _, _, _, _, _, _, _, _, _, _, _, _, rfl⟩), by simp [readM, intOf]⟩)
        · have hfit := add_fits hx0 HX.out hk hc0 hc1 (fun h => by omega)
          obtain ⟨hp0, hp1, hp2⟩ := hfit
          have hor := or_fits hx0 HX.out hk hc0 hc1 (fun h => by omega)
          by_cases hC : PlainAid.bt s (j + k) < 128
          · go_wp2_with fail
            go_step3
            exact (show readJ s j w 2 _ _ ∧ readM 2 _ _ < readM 1 _ _ from ⟨Or.inr (Or.inl ⟨rfl, k, x, _, _, _, _, rfl, rfl, rfl, hk, hjk, hx0, HX.out, HR.out, Or.inl hC, Or.inr rfl, rfl, _, _, _, _, _, _, _, _, _, _, _, _, _, _, _, _, _, _, _, _, _, _, _, _, _, _, _, _, _, _, _, _, _, _, _, _, _, _, _, _, _, _, _, _, _, _, _, rfl⟩), by simp [readM, intOf]; omega⟩)
          · have HM := Lib.hid (rd_more (f := 9 - k) (x := x) hsh h9 hC)
            have HA := Lib.hid (add_more hx0 HX.out (by omega) hc0 hc1)
            go_wp2_with fail
            go_step3
            exact (show readJ s j w 1 _ _ ∧ readM 1 _ _ < readM 1 _ _ from ⟨Or.inl ⟨rfl, k + 1, _, _, _, by push_cast; omega, by push_cast; omega, by omega, HA.out.1, HA.out.2, by rw [show 9 - (k + 1) + 1 = 9 - k by omega, ← HM.out, HR.out], rfl, _, _, _, _, _, _, _, _, _, _, _, _, _, _, _, _, _, _, _, _, _, _, _, _, _, _, _, _, _, _, _, _, _, _, _, _, _, _, _, _, _, _, _, _, _, _, _, _, rfl⟩, by simp [readM, intOf]; omega⟩)
    · refine ⟨_, rfl, ?_⟩
      have hc0 := PlainAid.bt_nonneg s (j + k)
      have hc1 := PlainAid.bt_le s (j + k)
      have HX := Lib.hid hx1; clear hx1
      have HR := Lib.hid hrd; clear hrd
      by_cases h91 : k = 9 ∧ 1 < PlainAid.bt s (j + k)
      · obtain ⟨h9, h1⟩ := h91
        subst h9
        have HF := Lib.hid (HR.out.symm.trans (rd_ten (by omega) rfl h1))
        clear hy
        go_wp2_with fail
        go_step3
        exact (show readJ s j w 0 _ _ ∧ readM 0 _ _ < readM 2 _ _ from ⟨Or.inr (Or.inr ⟨rfl, 3, by decide, HF.out, rfl, _, _, _, _, _, _, _, _, _, _, _, _, _, _, _, _, _, _, _, _, _, _, _, _, _, _, _, _, _, _, _, _, _, _, _, _, _, _, _, _, _, _, _, _, _, _, _, _, _, _, _, rfl⟩), by simp [readM]⟩)
      · have hy' : y = x + PlainAid.bt s (j + k) % 128 * 2 ^ (7 * k) := by
          rcases hy with hy | hy
          · exact absurd hy h91
          · exact hy
        have hC : PlainAid.bt s (j + k) < 128 := by omega
        by_cases hA : PlainAid.bt s (j + k) = 0 ∧ 0 < k
        · obtain ⟨hA0, hAk⟩ := hA
          have HF := Lib.hid (HR.out.symm.trans (rd_nil (by omega) hA0 hAk))
          have hcz : (PlainAid.bt s (j + k) == 0) = true := by simp [hA0]
          have hcl : PlainAid.bt s (j + k) ≤ 0 := by omega
          clear hA0 hy hy'
          by_cases h9 : k = 9
          · subst h9
            go_wp2_with fail
            go_step3
            exact (show readJ s j w 0 _ _ ∧ readM 0 _ _ < readM 2 _ _ from ⟨Or.inr (Or.inr ⟨rfl, 3, by decide, HF.out, rfl, _, _, _, _, _, _, _, _, _, _, _, _, _, _, _, _, _, _, _, _, _, _, _, _, _, _, _, _, _, _, _, _, _, _, _, _, _, _, _, _, _, _, _, _, _, _, _, _, _, _, _, rfl⟩), by simp [readM]⟩)
          · have h63 : ((7 * (k : Int)) == 63) = false := by simp; omega
            go_wp2_with fail
            go_step3
            exact (show readJ s j w 0 _ _ ∧ readM 0 _ _ < readM 2 _ _ from ⟨Or.inr (Or.inr ⟨rfl, 3, by decide, HF.out, rfl, _, _, _, _, _, _, _, _, _, _, _, _, _, _, _, _, _, _, _, _, _, _, _, _, _, _, _, _, _, _, _, _, _, _, _, _, _, _, _, _, _, _, _, _, _, _, _, _, _, _, _, rfl⟩), by simp [readM]⟩)
        · have HF := Lib.hid (HR.out.symm.trans (rd_last (by omega) h91 hC hA))
          have hfit := add_fits hx0 HX.out hk hc0 hc1 (fun h => by omega)
          obtain ⟨hp0, hp1, hp2⟩ := hfit
          have hy0 : 0 ≤ y := by omega
          have hy1 : y ≤ 18446744073709551615 := by omega
          rw [← hy'] at HF
          clear hy hy' hp0 hp1 hp2
          by_cases h9 : k = 9
          · subst h9
            have hcn : ¬ 1 < PlainAid.bt s (j + 9) := by omega
            have hcz : (PlainAid.bt s (j + 9) == 0) = false := by simp; omega
            go_wp2_with fail
            refine (unfolded_any _ _ hy0 hy1).mono ?_
            rintro e w1 ⟨rfl, rfl⟩
            go_wp2_with fail
            rw [jumps_ret]
            go_ret3
            exact ⟨by rw [HF.out, readV_ok]; rfl, (Below.refl _ _).alloc (Nat.le_refl _) _⟩
          · have h63 : ((7 * (k : Int)) == 63) = false := by simp; omega
            have HB : Hid ((0 < k ∧ ¬ PlainAid.bt s (j + k) = 0) ∨ k = 0) := by
              by_cases hk0 : k = 0
              · exact Or.inr hk0
              · exact Or.inl ⟨by omega, by omega⟩
            rcases HB.out with ⟨hk0, hcz'⟩ | rfl
            · have hcz : (PlainAid.bt s (j + k) == 0) = false := by simp; omega
              go_wp2_with fail
              refine (unfolded_any _ _ hy0 hy1).mono ?_
              rintro e w1 ⟨rfl, rfl⟩
              go_wp2_with fail
              rw [jumps_ret]
              go_ret3
              exact ⟨by rw [HF.out, readV_ok]; rfl, (Below.refl _ _).alloc (Nat.le_refl _) _⟩
            · go_wp2_with fail
              refine (unfolded_any _ _ hy0 hy1).mono ?_
              rintro e w1 ⟨rfl, rfl⟩
              go_wp2_with fail
              rw [jumps_ret]
              go_ret3
              exact ⟨by rw [HF.out, readV_ok]; simp, (Below.refl _ _).alloc (Nat.le_refl _) _⟩
    · refine ⟨_, rfl, ?_⟩
      go_wp2_with fail
      go_quiet (fail)
      go_wp2_with fail
      rw [jumps_ret]
      go_ret3
      exact ⟨by rw [hrd, readV_err hc]; rfl, below_drewN ((Below.refl _ _).alloc (Nat.le_refl _) _) _⟩
end Go.Proofs.YtidcpdfhnhfelaaGreatDoor

