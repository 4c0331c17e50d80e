/- The field's arrays are filled: the walk of fill. -/
import Derived.Test.YtfplfkebamgniaaFill
namespace Go.Proofs.Ytfplfkebamgniaa
open Go.RowKit Go.PlainAid G IRow MGF
set_option linter.unusedVariables false
set_option maxRecDepth 100000 in
set_option maxHeartbeats 1600000 in
theorem fill_any (b : Nat) (C : Nat → Value) (w : World) (hB : Blk w b (FK C 0)) :
    Calls Try.prog 108 #[.pointer (some ⟨b, 0, none⟩)] w fun e w' => e = .returned (.tuple #[]) ∧ Blk w' b (FK C 255) ∧ w.grownBy w' (some b) := by
  have HB := Lib.hid hB
  clear hB
  go_enter Try.func108, Try.ntmps108
  go_wp2_with fail
  go_loopw [2, 4] (fun p i wr => ∃ k : Nat, k ≤ 255 ∧ i = .int .i64 k ∧ p = .int .u8 (ex (k % 255) : Int) ∧ Blk wr b (FK C k) ∧ w.grownBy wr (some b)) (fun _ i _ => 255 - (intOf i).toNat)
  case atStart => exact ⟨0, by omega, rfl, by rw [show ex (0 % 255) = 1 from by decide]; rfl, HB.out, World.grownBy.refl _ _⟩
  case round =>
    obtain ⟨k, hk, rfl, rfl, hb, hg⟩ := hrel
    have HBk := Lib.hid hb
    have HG := Lib.hid hg
    clear hb hg HB
    by_cases hlt : k < 255
    · have hx := ex_fact hlt
      have HX := Lib.hid (ex_next hlt)
      have HN := Lib.hid (FK_next C hlt)
      rw [Nat.mod_eq_of_lt hlt]
      obtain ⟨q, hq⟩ : ∃ q, q = ex k := ⟨_, rfl⟩
      rw [← hq] at hx
      have HQ := Lib.hid hq
      rw [← hq]
      clear hq
      have HB1 := Lib.hid (HBk.out.set (i := 3 + k) (by omega) (.int .u8 q))
      have HB2 := Lib.hid (HB1.out.set (i := 258 + q) (by omega) (.int .u8 k))
      obtain ⟨hc1, hf1⟩ := HBk.out.2 (3 + k) (by omega)
      obtain ⟨hc2, hf2⟩ := HB1.out.2 (258 + q) (by omega)
      have hxor := xor8_nat q (xt q) (by omega) (xt_lt (by omega))
      go_wp2_with fail
      refine (twice_any q _ (by omega)).mono ?_
      rintro e w1 ⟨rfl, hw1⟩
      subst hw1
      go_wp2_with fail
      go_round
      case rel =>
        refine ⟨k + 1, by omega, by simp, ?_, ?_, (grown_trans HG.out (grown_trans (grown_set _ _ _ _) (grown_set _ _ _ _)))⟩
        · rw [← HX.out, ← HQ.out, ← hxor]
        · refine HB2.out.eq (fun i hi => ?_)
          rw [← HN.out i hi, HQ.out]
      case measure => simp [intOf]; omega
    · obtain rfl : k = 255 := by omega
      go_wp2_with fail
      go_end0
      exact ⟨rfl, HBk.out, HG.out⟩
end Go.Proofs.Ytfplfkebamgniaa
