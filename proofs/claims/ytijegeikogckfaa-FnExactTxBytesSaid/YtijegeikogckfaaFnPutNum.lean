/- What the functions that write a number answer. -/
import Derived.Test.YtijegeikogckfaaMNum
import Derived.Test.YtijegeikogckfaaBase
namespace Go.Proofs.Ytijegeikogckfaa
open Go.RowKit MNum G
set_option linter.unusedVariables false
set_option maxRecDepth 100000
theorem folded_any (n : Int) (w : World) (h : i64P n) :
    Calls Try.prog 65 #[.int .i64 n] w fun e w' => e = .returned (.int .u64 (foldI n)) ∧ w = w' := by
  unfold i64P at h
  by_cases a : 0 ≤ n
  · go_enter Try.func65, Try.ntmps65
    go_wp2
    go_ret
    exact ⟨ret_int (by rw [foldI_pos a]), rfl⟩
  · go_enter Try.func65, Try.ntmps65
    go_wp2
    go_ret
    exact ⟨ret_int (by rw [foldI_neg (by omega)]; omega), rfl⟩
theorem l01Fold_any (n : Int) (w : World) (h : i64P n) :
    Calls Try.prog 62 #[.int .i64 n] w fun e w' => e = .returned (.int .u64 (foldI n)) ∧ w = w' := by
  unfold i64P at h
  by_cases a : 0 ≤ n
  · go_enter Try.func62, Try.ntmps62
    go_wp2
    go_ret
    exact ⟨ret_int (by rw [foldI_pos a]), rfl⟩
  · go_enter Try.func62, Try.ntmps62
    go_wp2
    go_ret
    exact ⟨ret_int (by rw [foldI_neg (by omega)]; omega), rfl⟩
theorem implPutNum_any (n : Int) (w : World) (h : i64P n) :
    Calls Try.prog 49 #[.int .i64 n] w fun e w' => e = .returned (.string (numS n)) ∧ Below w.heap.size w w' := by
  have hr := foldI_range h
  have h0 := hr.1
  have hcap := Lib.hid (cap_all hr.2)
  have htop : Hid (foldI n ≤ 18446744073709551615) := by have := hr.2; unfold p64 at this; exact (by omega : foldI n ≤ 18446744073709551615)
  clear hr
  obtain ⟨i0, hi, hz0, hz1, hz2⟩ := info_parts infoU8
  generalize hB : w.heap.size = B
  have HB := Lib.hid hB; clear hB
  go_enter Try.func49, Try.ntmps49
  go_wp2_with (go_at_call 65; refine (folded_any _ _ h).mono ?_; rintro e w' ⟨rfl, rfl⟩)
  go_loopw [3, 4] (fun u v wr => ∃ (x : Int) (zs : List Int) (f : Nat), u = .int .u64 x ∧ 0 ≤ x ∧ x ≤ 18446744073709551615 ∧ x < capN f ∧ wr.ownsRow B 5 1 v zs.length (zs.map (Value.int .u8)) ∧ zs ++ encL f x = encN (foldI n) ∧ zs.length + f ≤ 9 ∧ Below B w wr)
    (fun u _ _ => (intOf u).toNat)
  case atStart => exact ⟨foldI n, [], 9, rfl, h0, htop.out, hcap.out, World.ownsRow_nil _ _ _ _, rfl, by simp, Below.refl _ _⟩
  case round =>
    obtain ⟨x, zs, f, rfl, hx0, hxt, hxc, hown, he, hf, hbel⟩ := hrel
    have HC := Lib.hid hxc; have HE := Lib.hid he
    have hsz := hbel.size
    rw [HB.out] at hsz
    clear hxc he
    by_cases hx : x < 128
    · have hfin : strOfNums (zs ++ [x]) = numS n := by unfold numS; rw [← HE.out, encL_small hx]
      have HF := Lib.hid hfin; clear hfin
      go_wp2_with (at_builtin; refine append_one rfl (.tmp 18) (.tmp 21) 100 rfl 5 i0 (.int .u8 0) 1 Try.underlying100 hi hz0 hz1 hz2 rfl B w _ _ _ rfl hown (.int .u8 x) _ rfl rfl hbel (by omega) (by unfold maxLen; omega) (by omega) ?_; intro v' w1 hown' hb1; have hown2 : w1.ownsRow B 5 1 v' (zs.length + 1) ((zs ++ [x]).map (Value.int .u8)) := (by simpa using hown'); have hcv := conv_owned 100 9 5 Try.underlying100 Try.underlying5 Try.underlying9 _ _ _ _ hown2; clear hown' hown hown2 hbel)
      go_ret
      exact ⟨ret_string HF.out, hb1⟩
    · obtain ⟨f', rfl⟩ : ∃ f', f = f' + 1 := by
        cases f with
        | zero => exact absurd HC.out (by simp only [capN]; omega)
        | succ f' => exact ⟨f', rfl⟩
      have hst : (zs ++ [x % 128 + 128]) ++ encL f' (x / 128) = encN (foldI n) := by rw [← HE.out, encL_big (by omega)]; simp
      have HST := Lib.hid hst; clear hst
      have HC' := Lib.hid (cap_step HC.out); clear HC HE
      go_wp2_with (at_builtin; refine append_one rfl (.tmp 9) (.tmp 14) 100 rfl 5 i0 (.int .u8 0) 1 Try.underlying100 hi hz0 hz1 hz2 rfl B w _ _ _ rfl hown (.int .u8 (x % 128 + 128)) _ rfl rfl hbel (by omega) (by unfold maxLen; omega) (by omega) ?_; intro v' w1 hown' hb1; have hown2 : w1.ownsRow B 5 1 v' (zs ++ [x % 128 + 128]).length ((zs ++ [x % 128 + 128]).map (Value.int .u8)) := (by simpa using hown'); clear hown' hown hbel)
      go_roundw
      case rel => exact ⟨x / 128, zs ++ [x % 128 + 128], f', rfl, by omega, by omega, HC'.out, hown2, HST.out, by simp; omega, hb1⟩
      case measure => simp [intOf]; omega
theorem specPutNum_any (n : Int) (w : World) (h : i64P n) :
    Calls Try.prog 45 #[.int .i64 n] w fun e w' => e = .returned (.string (numS n)) ∧ Below w.heap.size w w' := by
  have hr := foldI_range h
  have h0 := hr.1
  have hcap := Lib.hid (cap_all hr.2)
  have htop : Hid (foldI n ≤ 18446744073709551615) := by have := hr.2; unfold p64 at this; exact (by omega : foldI n ≤ 18446744073709551615)
  clear hr
  obtain ⟨i0, hi, hz0, hz1, hz2⟩ := info_parts infoU8
  generalize hB : w.heap.size = B
  have HB := Lib.hid hB; clear hB
  go_enter Try.func45, Try.ntmps45
  go_wp2_with (go_at_call 62; refine (l01Fold_any _ _ h).mono ?_; rintro e w' ⟨rfl, rfl⟩)
  go_loopw [3, 4] (fun u v wr => ∃ (x : Int) (zs : List Int) (f : Nat), u = .int .u64 x ∧ 0 ≤ x ∧ x ≤ 18446744073709551615 ∧ x < capN f ∧ wr.ownsRow B 5 1 v zs.length (zs.map (Value.int .u8)) ∧ zs ++ encL f x = encN (foldI n) ∧ zs.length + f ≤ 9 ∧ Below B w wr)
    (fun u _ _ => (intOf u).toNat)
  case atStart => exact ⟨foldI n, [], 9, rfl, h0, htop.out, hcap.out, World.ownsRow_made w #[] 0 (by rw [HB.out]; exact Nat.le_refl _) (by decide) rfl, rfl, by simp, (Below.refl _ _).alloc (by rw [HB.out]; exact Nat.le_refl _) _⟩
  case round =>
    obtain ⟨x, zs, f, rfl, hx0, hxt, hxc, hown, he, hf, hbel⟩ := hrel
    have HC := Lib.hid hxc; have HE := Lib.hid he
    have hsz := hbel.size
    rw [HB.out] at hsz
    clear hxc he
    by_cases hx : x < 128
    · have hfin : strOfNums (zs ++ [x]) = numS n := by unfold numS; rw [← HE.out, encL_small hx]
      have HF := Lib.hid hfin; clear hfin
      go_wp2_with (at_builtin; refine append_one rfl (.tmp 19) (.tmp 22) 100 rfl 5 i0 (.int .u8 0) 1 Try.underlying100 hi hz0 hz1 hz2 rfl B w _ _ _ rfl hown (.int .u8 x) _ rfl rfl hbel (by omega) (by unfold maxLen; omega) (by omega) ?_; intro v' w1 hown' hb1; have hown2 : w1.ownsRow B 5 1 v' (zs.length + 1) ((zs ++ [x]).map (Value.int .u8)) := (by simpa using hown'); have hcv := conv_owned 100 9 5 Try.underlying100 Try.underlying5 Try.underlying9 _ _ _ _ hown2; clear hown' hown hown2 hbel)
      go_ret
      exact ⟨ret_string HF.out, hb1⟩
    · obtain ⟨f', rfl⟩ : ∃ f', f = f' + 1 := by
        cases f with
        | zero => exact absurd HC.out (by simp only [capN]; omega)
        | succ f' => exact ⟨f', rfl⟩
      have hst : (zs ++ [x % 128 + 128]) ++ encL f' (x / 128) = encN (foldI n) := by rw [← HE.out, encL_big (by omega)]; simp
      have HST := Lib.hid hst; clear hst
      have HC' := Lib.hid (cap_step HC.out); clear HC HE
      go_wp2_with (at_builtin; refine append_one rfl (.tmp 10) (.tmp 15) 100 rfl 5 i0 (.int .u8 0) 1 Try.underlying100 hi hz0 hz1 hz2 rfl B w _ _ _ rfl hown (.int .u8 (x % 128 + 128)) _ rfl rfl hbel (by omega) (by unfold maxLen; omega) (by omega) ?_; intro v' w1 hown' hb1; have hown2 : w1.ownsRow B 5 1 v' (zs ++ [x % 128 + 128]).length ((zs ++ [x % 128 + 128]).map (Value.int .u8)) := (by simpa using hown'); clear hown' hown hbel)
      go_roundw
      case rel => exact ⟨x / 128, zs ++ [x % 128 + 128], f', rfl, by omega, by omega, HC'.out, hown2, HST.out, by simp; omega, hb1⟩
      case measure => simp [intOf]; omega
end Go.Proofs.Ytijegeikogckfaa
