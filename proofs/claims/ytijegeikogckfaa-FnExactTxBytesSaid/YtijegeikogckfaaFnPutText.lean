/- What the functions that write a text answer. -/
import Derived.Test.YtijegeikogckfaaFnSmall
import Derived.Test.YtijegeikogckfaaFnPutNum
import Derived.Test.YtijegeikogckfaaChap2
namespace Go.Proofs.Ytijegeikogckfaa
open Go.RowKit MNum MJoin G
set_option linter.unusedVariables false
def putTextS (t : ByteArray) : ByteArray := if t.size ≤ 8000 then numS t.size ++ t else ⟨#[]⟩
theorem putTextS_long {t : ByteArray} (h : 8000 < t.size) : putTextS t = ⟨#[]⟩ := by unfold putTextS; rw [if_neg (by omega)]
theorem putTextS_short {t : ByteArray} (h : t.size ≤ 8000) : putTextS t = numS t.size ++ t := by unfold putTextS; rw [if_pos h]
theorem i64_nat {n : Nat} (h : n ≤ 9223372036854775807) : i64P (n : Int) := by unfold i64P; omega
theorem specPutText_any (t : ByteArray) (w : World) (ht : t.size ≤ maxLen) :
    Calls Try.prog 47 #[.string t] w fun e w' => e = .returned (.string (putTextS t)) ∧ Below w.heap.size w w' := by
  unfold maxLen at ht
  by_cases h : 8000 < t.size
  · go_enter Try.func47, Try.ntmps47
    go_wp2
    go_ret
    exact ⟨ret_string (putTextS_long h).symm, Below.refl _ _⟩
  · go_enter Try.func47, Try.ntmps47
    go_wp2_with fail
    refine (specPutNum_any _ _ (i64_nat (by omega))).mono ?_
    rintro e w1 ⟨rfl, hb1⟩
    have h1 := (numS_size t.size).2
    generalize hn : numS t.size = x at *
    have HN := Lib.hid hn; clear hn
    go_wp2_with fail
    go_ret
    exact ⟨ret_string (by rw [← HN.out, putTextS_short (by omega)]), hb1⟩
theorem implPutText_any (t : ByteArray) (w : World) (ht : t.size ≤ maxLen) :
    Calls Try.prog 50 #[.string t] w fun e w' => e = .returned (.string (putTextS t)) ∧ Below w.heap.size w w' := by
  unfold maxLen at ht
  by_cases h : 8000 < t.size
  · go_enter Try.func50, Try.ntmps50
    go_wp2_with fail
    refine (tooLong_any _ _ ht).mono ?_
    rintro e w1 ⟨rfl, rfl⟩
    go_wp2_with fail
    go_ret
    exact ⟨ret_string (putTextS_long h).symm, Below.refl _ _⟩
  · go_enter Try.func50, Try.ntmps50
    go_wp2_with fail
    refine (tooLong_any _ _ ht).mono ?_
    rintro e w1 ⟨rfl, rfl⟩
    go_wp2_with fail
    refine (implPutNum_any _ _ (i64_nat (by omega))).mono ?_
    rintro e w1 ⟨rfl, hb1⟩
    have h1 := (numS_size t.size).2
    generalize hn : numS t.size = x at *
    have HN := Lib.hid hn; clear hn
    go_wp2_with fail
    refine (joined_two _ _ _ _ (by omega) (by omega)).mono ?_
    rintro e w2 ⟨rfl, hb2⟩
    go_wp2_with fail
    go_ret
    exact ⟨ret_string (by rw [← HN.out, putTextS_short (by omega)]), hb1.trans (hb2.mono hb1.size)⟩
end Go.Proofs.Ytijegeikogckfaa
