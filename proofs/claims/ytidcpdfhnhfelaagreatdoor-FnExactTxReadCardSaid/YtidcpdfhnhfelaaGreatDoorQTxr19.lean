/- Texts put together: what the law uses of them. -/
import Derived.Lib.ConvBytes
import Derived.StillTailTactics
import Derived.Deep.RegionHeld3
import Derived.Laws.IdiomStrings
import Derived.PlainAid
import Derived.Test.YtidcpdfhnhfelaaGreatDoorQTxr00
import Derived.Test.YtidcpdfhnhfelaaGreatDoorQTxr05
/- What is locked: by numbers; what the model's and the program's functions answer. -/
namespace Go.Proofs.YtidcpdfhnhfelaaGreatDoor
open Go.RowKit Go.PlainAid G
set_option linter.unusedVariables false
/-- A text of 1 to 16 bytes. -/
def secR (t : ByteArray) : Bool := decide (1 ≤ t.size ∧ t.size ≤ 16)
theorem secR_yes {t : ByteArray} (h1 : 1 ≤ t.size) (h2 : t.size ≤ 16) : secR t = true := decide_eq_true ⟨h1, h2⟩
theorem secR_no {t : ByteArray} (h : ¬ (1 ≤ t.size ∧ t.size ≤ 16)) : secR t = false := decide_eq_false h
theorem secretOk_any (t : ByteArray) (w : World) (ht : t.size ≤ maxLen) :
    Calls Tryz.prog 127 #[.string t] w fun e w' => e = .returned (.bool (secR t)) ∧ w = w' := by
  unfold maxLen at ht
  by_cases h1 : 1 ≤ t.size
  · by_cases h2 : t.size ≤ 16
    · have HF := Lib.hid (secR_yes h1 h2).symm
      go_enter Tryz.func127, Tryz.ntmps127
      go_wp2
      go_ret
      exact ⟨ret_bool (by rw [← HF.out]; simp; omega), rfl⟩
    · have HF := Lib.hid (secR_no (t := t) (by omega)).symm
      go_enter Tryz.func127, Tryz.ntmps127
      go_wp2
      go_ret
      exact ⟨ret_bool (by rw [← HF.out]; simp; omega), rfl⟩
  · have HF := Lib.hid (secR_no (t := t) (by omega)).symm
    have h0 : t.size = 0 := by omega
    go_enter Tryz.func127, Tryz.ntmps127
    go_wp2
    go_ret
    exact ⟨ret_bool HF.out, rfl⟩
theorem l04SecretOk_any (t : ByteArray) (w : World) (ht : t.size ≤ maxLen) :
    Calls Tryz.prog 84 #[.string t] w fun e w' => e = .returned (.bool (secR t)) ∧ w = w' := by
  unfold maxLen at ht
  by_cases h1 : 1 ≤ t.size
  · by_cases h2 : t.size ≤ 16
    · have HF := Lib.hid (secR_yes h1 h2).symm
      go_enter Tryz.func84, Tryz.ntmps84
      go_wp2
      go_ret
      exact ⟨ret_bool (by rw [← HF.out]; simp; omega), rfl⟩
    · have HF := Lib.hid (secR_no (t := t) (by omega)).symm
      go_enter Tryz.func84, Tryz.ntmps84
      go_wp2
      go_ret
      exact ⟨ret_bool (by rw [← HF.out]; simp; omega), rfl⟩
  · have HF := Lib.hid (secR_no (t := t) (by omega)).symm
    have h0 : t.size = 0 := by omega
    go_enter Tryz.func84, Tryz.ntmps84
    go_wp2
    go_ret
    exact ⟨ret_bool HF.out, rfl⟩
theorem l02IsOk_any (n low high : Int) (w : World) :
    Calls Tryz.prog 43 #[.int .i64 n, .int .i64 low, .int .i64 high] w fun e w' => e = .returned (.bool (decide (low ≤ n ∧ n ≤ high))) ∧ w = w' := by
  by_cases h1 : low ≤ n
  · by_cases h2 : n ≤ high
    · go_enter Tryz.func43, Tryz.ntmps43
      go_wp2_with fail
      go_ret
      exact ⟨ret_bool (by simp [h1, h2]), rfl⟩
    · go_enter Tryz.func43, Tryz.ntmps43
      go_wp2_with fail
      go_ret
      exact ⟨ret_bool (by simp [h2]), rfl⟩
  · go_enter Tryz.func43, Tryz.ntmps43
    go_wp2_with fail
    go_ret
    exact ⟨ret_bool (by simp; omega), rfl⟩
end Go.Proofs.YtidcpdfhnhfelaaGreatDoor

