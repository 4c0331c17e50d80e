/- Texts put together: what the law uses of them. -/
import Derived.Deep.RegionWith
import Derived.Lib.Strings
import Derived.Test.YtidcpdfhnhfelaaGreatDoorQTxr05
import Derived.Test.YtidcpdfhnhfelaaGreatDoorQTxr15
import Derived.Test.YtidcpdfhnhfelaaGreatDoorQTxr00
/- What the functions that read a sealed text answer. -/
namespace Go.Proofs.YtidcpdfhnhfelaaGreatDoor
open Go.RowKit G MGet MCrc
set_option linter.unusedVariables false
theorem toList_inj {a b : ByteArray} (h : a.toList = b.toList) : a = b := by
  rw [Lib.toList_data, Lib.toList_data] at h
  exact ByteArray.ext (Array.toList_inj.1 h)
def bodyS (s : ByteArray) : ByteArray := s.extract 0 (s.size - 4)
def tailS (s : ByteArray) : ByteArray := s.extract (s.size - 4) s.size
/-- What is read of a sealed text of at least four bytes. -/
def unsS (s : ByteArray) : ByteArray × Int × Int := if tailS s = crc4 (bodyS s) then (bodyS s, 0, 0) else (⟨#[]⟩, 0, 5)
def openS (s : ByteArray) : ByteArray × Int × Int :=
  if 8000 < s.size then (⟨#[]⟩, 0, 2) else if s.size < 4 then (⟨#[]⟩, 0, 4) else unsS s
theorem openS_size {s : ByteArray} (h : 8000 < s.size) : openS s = (⟨#[]⟩, 0, 2) := by unfold openS; rw [if_pos h]
theorem openS_short {s : ByteArray} (h : ¬ 8000 < s.size) (h4 : s.size < 4) : openS s = (⟨#[]⟩, 0, 4) := by unfold openS; rw [if_neg h, if_pos h4]
theorem openS_read {s : ByteArray} (h : ¬ 8000 < s.size) (h4 : ¬ s.size < 4) : openS s = unsS s := by unfold openS; rw [if_neg h, if_neg h4]
theorem unsS_ok {s : ByteArray} (h : tailS s = crc4 (bodyS s)) : unsS s = (bodyS s, 0, 0) := by unfold unsS; rw [if_pos h]
theorem unsS_sum {s : ByteArray} (h : ¬ tailS s = crc4 (bodyS s)) : unsS s = (⟨#[]⟩, 0, 5) := by unfold unsS; rw [if_neg h]
def sealedV (t : ByteArray × Int × Int) : Value := if t.2.2 = 0 then .tuple #[.string t.1, .nilIface] else .tuple #[.string ⟨#[]⟩, errV t.2.2]
theorem sealedV_ok (s : ByteArray) (a : Int) : sealedV (s, a, 0) = .tuple #[.string s, .nilIface] := by simp [sealedV]
theorem sealedV_err {c : Int} (h : c ≠ 0) : sealedV (⟨#[]⟩, 0, c) = .tuple #[.string ⟨#[]⟩, errV c] := by simp [sealedV, h]
set_option maxRecDepth 100000 in
set_option maxHeartbeats 1600000 in
theorem readSealed_any (s : ByteArray) (w : World) (hs : s.size ≤ 8000) :
    Calls Tryz.prog 138 #[.string s] w fun e w' => e = .returned (sealedV (openS s)) ∧ Below w.heap.size w w' := by
  by_cases h4 : s.size < 4
  · have HU := Lib.hid (openS_short (by omega) h4)
    go_enter Tryz.func138, Tryz.ntmps138
    go_wp2_with fail
    go_ret2
    exact ⟨by rw [HU.out, sealedV_err (by decide)]; rfl, Below.refl _ _⟩
  · have HU := Lib.hid (openS_read (s := s) (by omega) h4)
    have hs4 : 4 ≤ s.size := by omega
    have hsb : (s.extract 0 (s.size - 4)).size ≤ 8000 := by simp [ByteArray.size_extract]; omega
    have HSB := Lib.hid hsb; clear hsb
    by_cases ht : tailS s = crc4 (bodyS s)
    · have HF := Lib.hid (unsS_ok ht)
      have hb0 : ((s.extract (s.size - 4) s.size).toList == (strOfNums (fourL (crcI (s.extract 0 (s.size - 4))))).toList) = true := by rw [beq_iff_eq]; exact congrArg ByteArray.toList ht
      clear ht
      go_enter Tryz.func138, Tryz.ntmps138
      go_wp2_with fail
      go_region_with (go_at_call 159; refine (sumOf_any _ _ (Nat.le_trans HSB.out (by unfold maxLen; omega))).mono ?_; rintro e w1 ⟨rfl, hb1⟩)
      clear hb0
      go_wp2_with fail
      refine (joined_one _ _ _ (Nat.le_trans HSB.out (by omega))).mono ?_
      rintro e w2 ⟨rfl, hb2⟩
      go_wp2_with fail
      go_ret2
      have h1 : Below w.heap.size w w1 := ((Below.refl _ _).drew).trans hb1
      exact ⟨by rw [HU.out, HF.out, sealedV_ok]; rfl, h1.trans (hb2.mono h1.size)⟩
    · have HF := Lib.hid (unsS_sum ht)
      have hb0 : ((s.extract (s.size - 4) s.size).toList == (strOfNums (fourL (crcI (s.extract 0 (s.size - 4))))).toList) = false := by rw [beq_eq_false_iff_ne]; exact fun h => ht (toList_inj h)
      clear ht
      go_enter Tryz.func138, Tryz.ntmps138
      go_wp2_with fail
      go_region_with (go_at_call 159; refine (sumOf_any _ _ (Nat.le_trans HSB.out (by unfold maxLen; omega))).mono ?_; rintro e w1 ⟨rfl, hb1⟩)
      clear hb0
      go_wp2_with fail
      go_ret2
      exact ⟨by rw [HU.out, HF.out, sealedV_err (by decide)]; rfl, ((Below.refl _ _).drew).trans hb1⟩
end Go.Proofs.YtidcpdfhnhfelaaGreatDoor

