/- A field's products, powers and inverses. -/
import Derived.Test.YtfplfkebamgniaaFld
namespace Go.Proofs.Ytfplfkebamgniaa
open Go.RowKit Go.PlainAid G IRow MGF
set_option linter.unusedVariables false
theorem b_eq0 {x : B} (h : x ≠ 0) : (bi x == 0) = false := by
  rw [beq_eq_false_iff_ne]
  exact fun h2 => h (bi_inj (h2.trans bi_zero.symm))
theorem bi_E (i : Nat) : bi (E i) = (ex (i % 255) : Int) := by unfold bi; rw [E_toNat]
theorem bi_L (x : B) : (lg x.toNat : Int) = (L x : Int) := rfl
set_option maxRecDepth 100000 in
set_option maxHeartbeats 1600000 in
theorem times_any (b : Nat) (x y : B) (w : World) (h : Fld w b) :
    Calls Try.prog 65 #[.pointer (some ⟨b, 0, none⟩), .int .u8 (bi x), .int .u8 (bi y)] w fun e w' => e = .returned (.int .u8 (bi (mul x y))) ∧ Fld w' b ∧ w.grownBy w' (some b) := by
  have H := Lib.hid h
  clear h
  by_cases hx : x = 0
  · subst hx
    rw [zero_mul, bi_zero]
    go_enter Try.func65, Try.ntmps65
    go_wp2_with fail
    go_ret
    exact ⟨rfl, H.out, World.grownBy.refl _ _⟩
  · by_cases hy : y = 0
    · subst hy
      have hx0 := b_eq0 hx
      rw [mul_zero, bi_zero]
      generalize bi x = z at *
      go_enter Try.func65, Try.ntmps65
      go_wp2_with fail
      go_ret
      exact ⟨rfl, H.out, World.grownBy.refl _ _⟩
    · have hx0 := b_eq0 hx
      have hy0 := b_eq0 hy
      have hlx := L_lt hx
      have hly := L_lt hy
      have HM : Hid ((ex ((L x + L y) % 255) : Int) = bi (mul x y)) := Lib.hid (by rw [mul_E hx hy, bi_E])
      have hcx := log_any b x.toNat (ha := x.isLt) (h0 := toNat_ne hx)
      have hcy := log_any b y.toNat (ha := y.isLt) (h0 := toNat_ne hy)
      rw [bi_L] at hcx hcy
      change ∀ w, Fld w b → Calls _ _ #[_, .int .u8 (bi x)] w _ at hcx
      change ∀ w, Fld w b → Calls _ _ #[_, .int .u8 (bi y)] w _ at hcy
      have HCX := Lib.hid hcx
      have HCY := Lib.hid hcy
      clear hcx hcy
      have hpw' := power_any b (L x + L y)
      rw [HM.out] at hpw'
      have hpw := Lib.hid hpw'
      clear hpw' HM
      generalize bi (mul x y) = m at *
      generalize bi x = zx at *
      generalize bi y = zy at *
      generalize L x = lx at *
      generalize L y = ly at *
      go_enter Try.func65, Try.ntmps65
      go_wp2_with fail
      refine (HCX.out _ H.out).mono ?_
      rintro e w1 ⟨rfl, h1, hg1⟩
      have H1 := Lib.hid h1
      have G1 := Lib.hid hg1
      clear h1 hg1
      go_wp2_with fail
      refine (HCY.out _ H1.out).mono ?_
      rintro e w2 ⟨rfl, h2, hg2⟩
      have H2 := Lib.hid h2
      have G2 := Lib.hid (grown_trans G1.out hg2)
      clear h2 hg2 H1 G1
      go_wp2_with fail
      have hcast : ((lx : Int) + (ly : Int)) = ((lx + ly : Nat) : Int) := by omega
      rw [hcast]
      refine (hpw.out _ H2.out (by omega)).mono ?_
      rintro e w3 ⟨rfl, h3, hg3⟩
      have H3 := Lib.hid h3
      have G3 := Lib.hid (grown_trans G2.out hg3)
      clear h3 hg3
      clear hcast
      go_wp2_with fail
      go_ret
      exact ⟨rfl, H3.out, G3.out⟩
set_option maxRecDepth 100000 in
set_option maxHeartbeats 1600000 in
theorem inverse_any (b : Nat) (x : B) (w : World) (h : Fld w b) (hx : x ≠ 0) :
    Calls Try.prog 70 #[.pointer (some ⟨b, 0, none⟩), .int .u8 (bi x)] w fun e w' => e = .returned (.int .u8 (bi (inv x))) ∧ Fld w' b ∧ w.grownBy w' (some b) := by
  have H := Lib.hid h
  clear h
  have hlx := L_lt hx
  have HM : Hid ((ex ((255 - L x) % 255) : Int) = bi (inv x)) := Lib.hid (by rw [inv_E hx, bi_E])
  have hcx := log_any b x.toNat (ha := x.isLt) (h0 := toNat_ne hx)
  rw [bi_L] at hcx
  change ∀ w, Fld w b → Calls _ _ #[_, .int .u8 (bi x)] w _ at hcx
  have HCX := Lib.hid hcx
  clear hcx
  have hpw' := power_any b (255 - L x)
  rw [HM.out] at hpw'
  have hpw := Lib.hid hpw'
  clear hpw' HM
  generalize bi (inv x) = m at *
  generalize bi x = zx at *
  generalize L x = lx at *
  go_enter Try.func70, Try.ntmps70
  go_wp2_with fail
  refine (HCX.out _ H.out).mono ?_
  rintro e w1 ⟨rfl, h1, hg1⟩
  have H1 := Lib.hid h1
  have G1 := Lib.hid hg1
  clear h1 hg1
  go_wp2_with fail
  have hcast : (255 - (lx : Int)) = ((255 - lx : Nat) : Int) := by omega
  rw [hcast]
  refine (hpw.out _ H1.out (by omega)).mono ?_
  rintro e w3 ⟨rfl, h3, hg3⟩
  have H3 := Lib.hid h3
  have G3 := Lib.hid (grown_trans G1.out hg3)
  clear h3 hg3
  clear hcast
  go_wp2_with fail
  go_ret
  exact ⟨rfl, H3.out, G3.out⟩
set_option maxRecDepth 100000 in
set_option maxHeartbeats 1600000 in
theorem pow_any (b : Nat) (x : B) (n : Nat) (w : World) (h : Fld w b) (hn : n < 9223372036854775808) :
    Calls Try.prog 68 #[.pointer (some ⟨b, 0, none⟩), .int .u8 (bi x), .int .i64 n] w fun e w' => e = .returned (.int .u8 (bi (pw x n))) ∧ Fld w' b ∧ w.grownBy w' (some b) := by
  have H := Lib.hid h
  clear h
  by_cases hn0 : n = 0
  · subst hn0
    rw [show bi (pw x 0) = 1 from rfl]
    generalize bi x = z at *
    go_enter Try.func68, Try.ntmps68
    go_wp2_with fail
    go_ret
    exact ⟨rfl, H.out, World.grownBy.refl _ _⟩
  · have hnb : ((n : Int) == 0) = false := by rw [beq_eq_false_iff_ne]; omega
    by_cases hx : x = 0
    · subst hx
      rw [pw_zero hn0, bi_zero]
      go_enter Try.func68, Try.ntmps68
      go_wp2_with fail
      go_ret
      exact ⟨rfl, H.out, World.grownBy.refl _ _⟩
    · have hx0 := b_eq0 hx
      have hlx := L_lt hx
      have HM : Hid ((ex ((L x * (n % 255)) % 255) : Int) = bi (pw x n)) := Lib.hid (by
        have e : pw x n = E (L x * n) := by
          conv => lhs; rw [← E_L hx]
          exact pw_E _ _
        rw [e, bi_E, Nat.mul_mod, Nat.mod_mod, ← Nat.mul_mod])
      have hcx := log_any b x.toNat (ha := x.isLt) (h0 := toNat_ne hx)
      rw [bi_L] at hcx
      change ∀ w, Fld w b → Calls _ _ #[_, .int .u8 (bi x)] w _ at hcx
      have HCX := Lib.hid hcx
      clear hcx
      have hpw' := power_any b (L x * (n % 255))
      rw [HM.out] at hpw'
      have hpw := Lib.hid hpw'
      clear hpw' HM
      generalize bi (pw x n) = m at *
      generalize bi x = zx at *
      generalize L x = lx at *
      have hle : lx * (n % 255) ≤ 254 * 254 := Nat.mul_le_mul (by omega) (by omega)
      have hcast : ((lx : Int) * ((n : Int) % 255)) = ((lx * (n % 255) : Nat) : Int) := by simp
      have hwr : IntKind.i64.wrap ((lx : Int) * ((n : Int) % 255)) = ((lx * (n % 255) : Nat) : Int) := by rw [hcast, IntWalk.i64_in _ (by omega)]
      have HLE := Lib.hid hle
      clear hle hcast
      go_enter Try.func68, Try.ntmps68
      go_wp2_with fail
      refine (HCX.out _ H.out).mono ?_
      rintro e w1 ⟨rfl, h1, hg1⟩
      have H1 := Lib.hid h1
      have G1 := Lib.hid hg1
      clear h1 hg1
      go_wp2_with fail
      refine (hpw.out _ H1.out (by have := HLE.out; omega)).mono ?_
      rintro e w3 ⟨rfl, h3, hg3⟩
      have H3 := Lib.hid h3
      have G3 := Lib.hid (grown_trans G1.out hg3)
      clear h3 hg3
      go_wp2_with fail
      go_ret
      exact ⟨rfl, H3.out, G3.out⟩
end Go.Proofs.Ytfplfkebamgniaa
