/- What the model's functions on bytes that can be divided answer. -/
import Derived.Test.YtdnbkjiijpeiiaaDoorGRow
import Derived.Test.YtdnbkjiijpeiiaaDoorMParts2
import Derived.Test.YtdnbkjiijpeiiaaDoorBase
namespace Go.Proofs.YtdnbkjiijpeiiaaDoor
open Go.RowKit Go.PlainAid G MGF
set_option linter.unusedVariables false
theorem l02Is_any (n low high : Int) (w : World) :
    Calls Tryd.prog 45 #[.int .i64 n, .int .i64 low, .int .i64 high] w fun e w' => e = .returned (.bool (decide (low ≤ n ∧ n ≤ high))) ∧ w = w' := by
  by_cases h1 : low ≤ n
  · by_cases h2 : n ≤ high
    · go_enter Tryd.func45, Tryd.ntmps45
      go_wp2_with fail
      go_ret
      exact ⟨ret_bool (by simp [h1, h2]), rfl⟩
    · go_enter Tryd.func45, Tryd.ntmps45
      go_wp2_with fail
      go_ret
      exact ⟨ret_bool (by simp [h2]), rfl⟩
  · go_enter Tryd.func45, Tryd.ntmps45
    go_wp2_with fail
    go_ret
    exact ⟨ret_bool (by simp; omega), rfl⟩
theorem l02Mul_any (a0 b0 : Nat) (w : World) (ha : a0 < 256) (hb : b0 < 256) :
    Calls Tryd.prog 76 #[.int .i64 a0, .int .i64 b0] w fun e w' => e = .returned (.int .i64 ((gm a0 b0 : Nat) : Int)) ∧ w = w' := by
  have HS := Lib.hid (At.start ha hb)
  clear ha hb
  go_enter Tryd.func76, Tryd.ntmps76
  go_wp2_with fail
  go_loop [0, 1, 5] (fun x y z => ∃ a b o : Nat, At a0 b0 a b o ∧ x = .int .i64 a ∧ y = .int .i64 b ∧ z = .int .i64 o) (fun _ y _ => (intOf y).toNat)
  case atStart => exact ⟨a0, b0, 0, HS.out, rfl, rfl, rfl⟩
  case round =>
    obtain ⟨a, b, o, hA, rfl, rfl, rfl⟩ := hrel
    have hb8 := hA.lt
    have ha8 := hA.1
    have ho8 := hA.2.1
    have HA := Lib.hid hA
    clear hA
    have hand := odd64 b (by omega)
    have hx1 := xor64_nat o a (by omega) (by omega)
    have hx2 : bits .xor .i64 ((a : Int) * 2) 283 = (((2 * a) ^^^ 283 : Nat) : Int) := by rw [← xor64_nat (2 * a) 283 (by omega) (by omega), Int.mul_comm]; rfl
    by_cases hb0 : 0 < b
    · by_cases hodd : b % 2 = 1
      · by_cases hhi : 128 ≤ a
        · go_wp2_with fail
          go_round
          case rel => exact ⟨xt a, b / 2, o ^^^ a, HA.out.odd hb0 hodd, by rw [xt_high hhi ha8], by simp, rfl⟩
          case measure => simp [intOf]; omega
        · go_wp2_with fail
          go_round
          case rel => exact ⟨xt a, b / 2, o ^^^ a, HA.out.odd hb0 hodd, by rw [xt_low (by omega), Int.mul_comm]; rfl, by simp, rfl⟩
          case measure => simp [intOf]; omega
      · by_cases hhi : 128 ≤ a
        · go_wp2_with fail
          go_round
          case rel => exact ⟨xt a, b / 2, o, HA.out.even hb0 (by omega), by rw [xt_high hhi ha8], by simp, rfl⟩
          case measure => simp [intOf]; omega
        · go_wp2_with fail
          go_round
          case rel => exact ⟨xt a, b / 2, o, HA.out.even hb0 (by omega), by rw [xt_low (by omega), Int.mul_comm]; rfl, by simp, rfl⟩
          case measure => simp [intOf]; omega
    · obtain rfl : b = 0 := by omega
      have HF := Lib.hid HA.out.fin
      go_wp2_with fail
      go_ret
      exact ⟨ret_int (by rw [HF.out]), rfl⟩
theorem l02MulB_any (x y : B) (w : World) :
    Calls Tryd.prog 76 #[.int .i64 (bi x), .int .i64 (bi y)] w fun e w' => e = .returned (.int .i64 (bi (mul x y))) ∧ w = w' := by
  rw [bi_mul]
  exact l02Mul_any x.toNat y.toNat w x.isLt y.isLt
/-- What Mul, Pow, Inv and Div answer. -/
def mulI (a b : Int) : Int := if 0 ≤ a ∧ a ≤ 255 ∧ 0 ≤ b ∧ b ≤ 255 then bi (mul (ib a) (ib b)) else -1
def powI (a n : Int) : Int := if 0 ≤ a ∧ a ≤ 255 ∧ 0 ≤ n then bi (pw (ib a) n.toNat) else -1
def invI (a : Int) : Int := if 1 ≤ a ∧ a ≤ 255 then bi (inv (ib a)) else -1
def divI (a b : Int) : Int := if 0 ≤ a ∧ a ≤ 255 ∧ 1 ≤ b ∧ b ≤ 255 then bi (mul (ib a) (inv (ib b))) else -1
theorem byte_of {a : Int} (h0 : 0 ≤ a) (h1 : a ≤ 255) : ∃ x : B, a = bi x := ⟨ib a, (bi_ib h0 h1).symm⟩
theorem byteB_yes {a : Int} (h0 : 0 ≤ a) (h1 : a ≤ 255) : byteB a = true := by unfold byteB; exact decide_eq_true ⟨h0, h1⟩
theorem byteB_no {a : Int} (h : ¬ (0 ≤ a ∧ a ≤ 255)) : byteB a = false := by unfold byteB; exact decide_eq_false h
theorem byteB_bi (x : B) : byteB (bi x) = true := byteB_yes (bi_range x).1 (bi_range x).2
theorem mulI_bi (x y : B) : mulI (bi x) (bi y) = bi (mul x y) := by
  have h1 := bi_range x
  have h2 := bi_range y
  unfold mulI
  rw [if_pos ⟨h1.1, h1.2, h2.1, h2.2⟩, ib_bi, ib_bi]
end Go.Proofs.YtdnbkjiijpeiiaaDoor
/- What the model's Pow, Inv and Div answer. -/
namespace Go.Proofs.YtdnbkjiijpeiiaaDoor
open Go.RowKit Go.PlainAid G MGF
set_option linter.unusedVariables false
theorem byte_ne {a : Int} (h0 : 1 ≤ a) (h1 : a ≤ 255) : ∃ x : B, a = bi x ∧ x ≠ 0 := ⟨ib a, (bi_ib (by omega) h1).symm, fun h => by have := bi_ib (show 0 ≤ a by omega) h1; rw [h, bi_zero] at this; omega⟩
theorem bi_ne {x : B} (h : x ≠ 0) : 1 ≤ bi x := by
  have h1 := (bi_range x).1
  have h2 : bi x ≠ 0 := fun h2 => h (bi_inj (h2.trans bi_zero.symm))
  omega
end Go.Proofs.YtdnbkjiijpeiiaaDoor
