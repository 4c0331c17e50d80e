/- What the functions that seal a text answer. -/
import Derived.Test.YtfplfkebamgniaaFnCrc
import Derived.Test.YtfplfkebamgniaaFnJoined
import Derived.Handy
namespace Go.Proofs.Ytfplfkebamgniaa
open Go.RowKit G MCrc
set_option linter.unusedVariables false
def fourL (c : Int) : List Int := [c % 256, c / 256 % 256, c / 65536 % 256, c / 16777216]
theorem crcI_range (s : ByteArray) : 0 ≤ crcI s ∧ crcI s ≤ 4294967295 := by
  unfold crcI
  split
  · exact crcOn_range _ _
  · omega
def crc4 (s : ByteArray) : ByteArray := strOfNums (fourL (crcI s))
theorem crc4_def (s : ByteArray) : strOfNums (fourL (crcI s)) = crc4 s := rfl
theorem crc4_size (s : ByteArray) : (crc4 s).size = 4 := by unfold crc4; rw [strOfNums_size]; rfl
def sealS (s : ByteArray) : ByteArray := if s.size ≤ 7996 then s ++ crc4 s else ⟨#[]⟩
theorem sealS_no {s : ByteArray} (h : 7996 < s.size) : sealS s = ⟨#[]⟩ := by unfold sealS; rw [if_neg (by omega)]
theorem sealS_yes {s : ByteArray} (h : s.size ≤ 7996) : sealS s = s ++ crc4 s := by unfold sealS; rw [if_pos h]
end Go.Proofs.Ytfplfkebamgniaa
