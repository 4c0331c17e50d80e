/- What the functions that seal a text answer. -/
import Derived.Test.YtdgafigmgiepdaaDoorFnCrc
import Derived.Test.YtdgafigmgiepdaaDoorFnJoined
import Derived.Handy
namespace Go.Proofs.YtdgafigmgiepdaaDoor
open Go.RowKit G MCrc
set_option linter.unusedVariables false
def fourL (c : Int) : List Int := [c % 256, c / 256 % 256, c / 65536 % 256, c / 16777216]
theorem crcI_range (s : ByteArray) : 0 ≤ crcI s ∧ crcI s ≤ 4294967295 := by
  unfold crcI
  split
  · exact crcOn_range _ _
  · omega
theorem l01Four_any (n : Int) (w : World) (h0 : 0 ≤ n) (h1 : n ≤ 4294967295) :
    Calls Tryd.prog 44 #[.int .i64 n] w fun e w' => e = .returned (.string (strOfNums (fourL n))) ∧ Below w.heap.size w w' := by
  go_enter Tryd.func44, Tryd.ntmps44
  have hcv := conv_block (P := Tryd.prog) (w := w.alloc (.cells ((fourL n).map (Value.int .u8)).toArray 5)) 22 9 5 5 Tryd.underlying22 Tryd.underlying5 Tryd.underlying9 w.heap.size 4 4 (fourL n) (0, 0) (heap_alloc_new w _) rfl
  simp only [fourL, List.map_cons, List.map_nil] at hcv
  go_wp2_with fail
  go_ret
  exact ⟨rfl, (Below.refl _ _).alloc (Nat.le_refl _) _⟩
theorem sumOf_any (s : ByteArray) (w : World) (hs : s.size ≤ maxLen) :
    Calls Tryd.prog 43 #[.string s] w fun e w' => e = .returned (.string (strOfNums (fourL (crcI s)))) ∧ Below w.heap.size w w' := by
  go_enter Tryd.func43, Tryd.ntmps43
  go_wp2_with fail
  refine (implCrc_any _ _ hs).mono ?_
  rintro e w1 ⟨rfl, rfl⟩
  have hc0 := crcI_range s
  generalize hcc : crcI s = c at *
  have HC := Lib.hid hcc; clear hcc
  obtain ⟨hc0, hc1⟩ := hc0
  have hcv := conv_block (P := Tryd.prog) (w := w.alloc (.cells (([c % 256, c / 256 % 256, c / 256 / 256 % 256, c / 256 / 256 / 256 % 256] : List Int).map (Value.int .u8)).toArray 73)) 22 9 5 73 Tryd.underlying22 Tryd.underlying5 Tryd.underlying9 w.heap.size 4 4 [c % 256, c / 256 % 256, c / 256 / 256 % 256, c / 256 / 256 / 256 % 256] (0, 0) (heap_alloc_new w _) rfl
  simp only [List.map_cons, List.map_nil] at hcv
  have e4 : [c % 256, c / 256 % 256, c / 256 / 256 % 256, c / 256 / 256 / 256 % 256] = fourL c := by
    unfold fourL
    rw [show c / 256 / 256 = c / 65536 by omega, show c / 65536 / 256 % 256 = c / 16777216 by omega]
  have E4 := Lib.hid e4; clear e4
  go_wp2_with fail
  go_rounds 5
  go_ret
  exact ⟨ret_string (by rw [E4.out, HC.out]), (Below.refl _ _).alloc (Nat.le_refl _) _⟩
def crc4 (s : ByteArray) : ByteArray := strOfNums (fourL (crcI s))
theorem crc4_def (s : ByteArray) : strOfNums (fourL (crcI s)) = crc4 s := rfl
theorem crc4_size (s : ByteArray) : (crc4 s).size = 4 := by unfold crc4; rw [strOfNums_size]; rfl
def sealS (s : ByteArray) : ByteArray := if s.size ≤ 7996 then s ++ crc4 s else ⟨#[]⟩
theorem sealS_no {s : ByteArray} (h : 7996 < s.size) : sealS s = ⟨#[]⟩ := by unfold sealS; rw [if_neg (by omega)]
theorem sealS_yes {s : ByteArray} (h : s.size ≤ 7996) : sealS s = s ++ crc4 s := by unfold sealS; rw [if_pos h]
theorem specSeal_any (s : ByteArray) (w : World) (hs : s.size ≤ maxLen) :
    Calls Tryd.prog 18 #[.string s] w fun e w' => e = .returned (.string (sealS s)) ∧ Below w.heap.size w w' := by
  unfold maxLen at hs
  by_cases a : 7996 < s.size
  · go_enter Tryd.func18, Tryd.ntmps18
    go_wp2_with fail
    go_ret
    exact ⟨ret_string (sealS_no a).symm, Below.refl _ _⟩
  · go_enter Tryd.func18, Tryd.ntmps18
    go_wp2_with fail
    refine (l01Crc_any _ _ _ (by omega) (by omega) (by unfold maxLen; omega)).mono ?_
    rintro e w1 ⟨rfl, rfl⟩
    go_wp2_with fail
    refine (l01Four_any _ _ (crcOn_range 0 s).1 (crcOn_range 0 s).2).mono ?_
    rintro e w1 ⟨rfl, hb1⟩
    have hz := crc4_size s
    have HF : Hid (strOfNums (fourL (crcOn 0 s)) = crc4 s) := by unfold crc4; rw [crcI_yes (by omega)]; exact rfl
    rw [← HF.out] at hz
    generalize strOfNums (fourL (crcOn 0 s)) = x at *
    have hz' : x.size ≤ 4 := by omega
    clear hz
    go_wp2_with fail
    go_ret
    exact ⟨ret_string (by rw [sealS_yes (by omega), HF.out]), hb1⟩
theorem implSeal_any (s : ByteArray) (w : World) (hs : s.size ≤ maxLen) :
    Calls Tryd.prog 17 #[.string s] w fun e w' => e = .returned (.string (sealS s)) ∧ Below w.heap.size w w' := by
  unfold maxLen at hs
  by_cases a : 7996 < s.size
  · go_enter Tryd.func17, Tryd.ntmps17
    go_wp2_with fail
    go_ret
    exact ⟨ret_string (sealS_no a).symm, Below.refl _ _⟩
  · go_enter Tryd.func17, Tryd.ntmps17
    go_wp2_with fail
    refine (sumOf_any _ _ (by unfold maxLen; omega)).mono ?_
    rintro e w1 ⟨rfl, hb1⟩
    have hz := crc4_size s
    have HF := Lib.hid (crc4_def s)
    rw [← HF.out] at hz
    generalize strOfNums (fourL (crcI s)) = x at *
    have hz' : x.size ≤ 4 := by omega
    clear hz
    go_wp2_with fail
    refine (joined_two _ _ _ _ (by omega) (by omega)).mono ?_
    rintro e w2 ⟨rfl, hb2⟩
    go_wp2_with fail
    go_ret
    exact ⟨ret_string (by rw [sealS_yes (by omega), HF.out]), hb1.trans (hb2.mono hb1.size)⟩
end Go.Proofs.YtdgafigmgiepdaaDoor
