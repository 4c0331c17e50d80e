/- What the functions on CRCs answer. -/
import Derived.Test.YtfplfkebamgniaaFnSmall
import Derived.Test.YtfplfkebamgniaaMCrc
namespace Go.Proofs.Ytfplfkebamgniaa
open Go.RowKit G MCrc
set_option linter.unusedVariables false
def crcMoreI (crc : Int) (s : ByteArray) : Int := if s.size ≤ 8000 ∧ 0 ≤ crc ∧ crc ≤ 4294967295 then crcOn crc s else 0
theorem crcMoreI_no {crc : Int} {s : ByteArray} (h : 8000 < s.size ∨ crc < 0 ∨ 4294967295 < crc) : crcMoreI crc s = 0 := by unfold crcMoreI; rw [if_neg (by omega)]
theorem crcMoreI_yes {crc : Int} {s : ByteArray} (h : s.size ≤ 8000) (h0 : 0 ≤ crc) (h1 : crc ≤ 4294967295) : crcMoreI crc s = crcOn crc s := by unfold crcMoreI; rw [if_pos ⟨h, h0, h1⟩]
def crcI (s : ByteArray) : Int := if s.size ≤ 8000 then crcOn 0 s else 0
theorem crcI_no {s : ByteArray} (h : 8000 < s.size) : crcI s = 0 := by unfold crcI; rw [if_neg (by omega)]
theorem crcI_yes {s : ByteArray} (h : s.size ≤ 8000) : crcI s = crcOn 0 s := by unfold crcI; rw [if_pos h]
theorem crcMoreI_zero (s : ByteArray) : crcMoreI 0 s = crcI s := by
  by_cases h : s.size ≤ 8000
  · rw [crcI_yes h, crcMoreI_yes h (by omega) (by omega)]
  · rw [crcI_no (by omega), crcMoreI_no (by omega)]
end Go.Proofs.Ytfplfkebamgniaa
