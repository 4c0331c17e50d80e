/- What the model's Pow, Inv and Div answer. -/
import Derived.Test.YtfplfkebamgniaaSField
namespace Go.Proofs.Ytfplfkebamgniaa
open Go.RowKit Go.PlainAid G MGF
set_option linter.unusedVariables false
theorem byte_ne {a : Int} (h0 : 1 ≤ a) (h1 : a ≤ 255) : ∃ x : B, a = bi x ∧ x ≠ 0 := ⟨ib a, (bi_ib (by omega) h1).symm, fun h => by have := bi_ib (show 0 ≤ a by omega) h1; rw [h, bi_zero] at this; omega⟩
theorem bi_ne {x : B} (h : x ≠ 0) : 1 ≤ bi x := by
  have h1 := (bi_range x).1
  have h2 : bi x ≠ 0 := fun h2 => h (bi_inj (h2.trans bi_zero.symm))
  omega
theorem specPow_any (a n : Int) (w : World) (hn : n < 9223372036854775808) :
    Calls Try.prog 23 #[.int .i64 a, .int .i64 n] w fun e w' => e = .returned (.int .i64 (powI a n)) ∧ w = w' := by
  by_cases ha : 0 ≤ a ∧ a ≤ 255
  · obtain ⟨x, rfl⟩ := byte_of ha.1 ha.2
    have hx := byteB_bi x
    have hr := bi_range x
    by_cases h0 : 0 ≤ n
    · obtain ⟨m, rfl⟩ := Int.eq_ofNat_of_zero_le h0
      have HP : Hid (powI (bi x) (m : Int) = bi (pw x m)) := Lib.hid (by unfold powI; rw [if_pos ⟨hr.1, hr.2, h0⟩, ib_bi, Int.toNat_natCast])
      have hm : m < 9223372036854775808 := by omega
      clear hr ha hn
      go_enter Try.func23, Try.ntmps23
      go_wp2_with fail
      refine (l02Byte_any (bi x) _).mono ?_
      rintro e w1 ⟨rfl, rfl⟩
      rw [hx]
      go_wp2_with fail
      refine (l02Pow_any x m _ hm).mono ?_
      rintro e w1 ⟨rfl, rfl⟩
      go_wp2_with fail
      go_ret
      exact ⟨ret_int (by rw [HP.out]), rfl⟩
    · have HP : Hid (powI (bi x) n = -1) := Lib.hid (by unfold powI; rw [if_neg (by omega)])
      clear hr ha
      go_enter Try.func23, Try.ntmps23
      go_wp2_with fail
      refine (l02Byte_any (bi x) _).mono ?_
      rintro e w1 ⟨rfl, rfl⟩
      rw [hx]
      go_wp2_with fail
      go_ret
      exact ⟨ret_int (by rw [HP.out]), rfl⟩
  · have hx := byteB_no ha
    have HP : Hid (powI a n = -1) := Lib.hid (by unfold powI; rw [if_neg (by omega)])
    clear ha
    go_enter Try.func23, Try.ntmps23
    go_wp2_with fail
    refine (l02Byte_any a _).mono ?_
    rintro e w1 ⟨rfl, rfl⟩
    rw [hx]
    go_wp2_with fail
    go_ret
    exact ⟨ret_int (by rw [HP.out]), rfl⟩
theorem specInv_any (a : Int) (w : World) :
    Calls Try.prog 25 #[.int .i64 a] w fun e w' => e = .returned (.int .i64 (invI a)) ∧ w = w' := by
  by_cases ha : 1 ≤ a ∧ a ≤ 255
  · have hd : decide (1 ≤ a ∧ a ≤ 255) = true := decide_eq_true ha
    obtain ⟨x, rfl, hx⟩ := byte_ne ha.1 ha.2
    have HP : Hid (invI (bi x) = bi (inv x)) := Lib.hid (by unfold invI; rw [if_pos ha, ib_bi])
    clear ha
    go_enter Try.func25, Try.ntmps25
    go_wp2_with fail
    refine (l02Is_any _ 1 255 _).mono ?_
    rintro e w1 ⟨rfl, rfl⟩
    rw [hd]
    go_wp2_with fail
    refine (l02Inv_any x _ hx).mono ?_
    rintro e w1 ⟨rfl, rfl⟩
    go_wp2_with fail
    go_ret
    exact ⟨ret_int (by rw [HP.out]), rfl⟩
  · have hd : decide (1 ≤ a ∧ a ≤ 255) = false := decide_eq_false ha
    have HP : Hid (invI a = -1) := Lib.hid (by unfold invI; rw [if_neg ha])
    clear ha
    go_enter Try.func25, Try.ntmps25
    go_wp2_with fail
    refine (l02Is_any _ 1 255 _).mono ?_
    rintro e w1 ⟨rfl, rfl⟩
    rw [hd]
    go_wp2_with fail
    go_ret
    exact ⟨ret_int (by rw [HP.out]), rfl⟩
theorem specDiv_any (a b : Int) (w : World) :
    Calls Try.prog 27 #[.int .i64 a, .int .i64 b] w fun e w' => e = .returned (.int .i64 (divI a b)) ∧ w = w' := by
  by_cases ha : 0 ≤ a ∧ a ≤ 255
  · by_cases hb : 1 ≤ b ∧ b ≤ 255
    · have hd : decide (1 ≤ b ∧ b ≤ 255) = true := decide_eq_true hb
      obtain ⟨x, rfl⟩ := byte_of ha.1 ha.2
      obtain ⟨y, rfl, hy⟩ := byte_ne hb.1 hb.2
      have hx := byteB_bi x
      have HP : Hid (divI (bi x) (bi y) = bi (mul x (inv y))) := Lib.hid (by unfold divI; rw [if_pos ⟨ha.1, ha.2, hb.1, hb.2⟩, ib_bi, ib_bi])
      clear ha hb
      go_enter Try.func27, Try.ntmps27
      go_wp2_with fail
      refine (l02Byte_any (bi x) _).mono ?_
      rintro e w1 ⟨rfl, rfl⟩
      rw [hx]
      go_wp2_with fail
      refine (l02Is_any _ 1 255 _).mono ?_
      rintro e w1 ⟨rfl, rfl⟩
      rw [hd]
      go_wp2_with fail
      refine (l02Inv_any y _ hy).mono ?_
      rintro e w1 ⟨rfl, rfl⟩
      go_wp2_with fail
      refine (l02MulB_any x (inv y) _).mono ?_
      rintro e w1 ⟨rfl, rfl⟩
      go_wp2_with fail
      go_ret
      exact ⟨ret_int (by rw [HP.out]), rfl⟩
    · have hd : decide (1 ≤ b ∧ b ≤ 255) = false := decide_eq_false hb
      obtain ⟨x, rfl⟩ := byte_of ha.1 ha.2
      have hx := byteB_bi x
      have HP : Hid (divI (bi x) b = -1) := Lib.hid (by unfold divI; rw [if_neg (by omega)])
      clear ha hb
      go_enter Try.func27, Try.ntmps27
      go_wp2_with fail
      refine (l02Byte_any (bi x) _).mono ?_
      rintro e w1 ⟨rfl, rfl⟩
      rw [hx]
      go_wp2_with fail
      refine (l02Is_any _ 1 255 _).mono ?_
      rintro e w1 ⟨rfl, rfl⟩
      rw [hd]
      go_wp2_with fail
      go_ret
      exact ⟨ret_int (by rw [HP.out]), rfl⟩
  · have hx := byteB_no ha
    have HP : Hid (divI a b = -1) := Lib.hid (by unfold divI; rw [if_neg (by omega)])
    clear ha
    go_enter Try.func27, Try.ntmps27
    go_wp2_with fail
    refine (l02Byte_any a _).mono ?_
    rintro e w1 ⟨rfl, rfl⟩
    rw [hx]
    go_wp2_with fail
    go_ret
    exact ⟨ret_int (by rw [HP.out]), rfl⟩
end Go.Proofs.Ytfplfkebamgniaa
