/- What the functions that write a text answer. -/
import Derived.Test.YtnoefpkhbllmiaaGreatDoorFnSmall
import Derived.Test.YtnoefpkhbllmiaaGreatDoorFnPutNum
import Derived.Test.YtnoefpkhbllmiaaGreatDoorChap2
namespace Go.Proofs.YtnoefpkhbllmiaaGreatDoor
open Go.RowKit MNum MJoin G
set_option linter.unusedVariables false
def putTextS (t : ByteArray) : ByteArray := if t.size ≤ 8000 then numS t.size ++ t else ⟨#[]⟩
theorem putTextS_long {t : ByteArray} (h : 8000 < t.size) : putTextS t = ⟨#[]⟩ := by unfold putTextS; rw [if_neg (by omega)]
theorem putTextS_short {t : ByteArray} (h : t.size ≤ 8000) : putTextS t = numS t.size ++ t := by unfold putTextS; rw [if_pos h]
theorem i64_nat {n : Nat} (h : n ≤ 9223372036854775807) : i64P (n : Int) := by unfold i64P; omega
end Go.Proofs.YtnoefpkhbllmiaaGreatDoor
