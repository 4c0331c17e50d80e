/- Texts put together: what the law uses of them. -/
import Derived.IntWalk
import Derived.Test.YtidcpdfhnhfelaaGreatDoorQTxr16
import Derived.Test.YtidcpdfhnhfelaaGreatDoorQTxr00
/- What the functions that read a sealed text answer, as a structure. -/
namespace Go.Proofs.YtidcpdfhnhfelaaGreatDoor
open Go.RowKit G MGet MCrc
set_option linter.unusedVariables false
theorem openS_zero (s : ByteArray) (hc : (openS s).2.2 ≠ 0) : openS s = (⟨#[]⟩, 0, (openS s).2.2) := by
  unfold openS unsS at *
  split
  · rfl
  · split
    · rfl
    · split
      · rename_i h1 h2 h3
        rw [if_neg h1, if_neg h2, if_pos h3] at hc
        exact absurd rfl hc
      · rfl
theorem openS_at (s : ByteArray) : (openS s).2.1 = 0 := by
  unfold openS unsS
  split
  · rfl
  · split
    · rfl
    · split <;> rfl
set_option maxHeartbeats 1600000 in
theorem implUnseal_any (s : ByteArray) (w : World) (hs : s.size ≤ maxLen) (hg : ET w) :
    Calls Tryz.prog 111 #[.string s] w fun e w' => e = .returned (textOutV (openS s)) ∧ Below w.heap.size w w' := by
  by_cases hl : 8000 < s.size
  · go_enter Tryz.func111, Tryz.ntmps111
    go_wp2_with fail
    refine (tooLong_any _ _ hs).mono ?_
    rintro e w1 ⟨rfl, rfl⟩
    go_wp2_with fail
    exact bodyPost_ret (v := .agg #[.string ⟨#[]⟩, .int .i64 0, .int .i64 2]) (by simp [results, Tryz.results111, go_sem]) rfl ⟨ret_text (openS_size hl), (Below.refl _ _).alloc (Nat.le_refl _) _⟩
  · go_enter Tryz.func111, Tryz.ntmps111
    go_wp2_with fail
    refine (tooLong_any _ _ hs).mono ?_
    rintro e w1 ⟨rfl, rfl⟩
    go_wp2_with fail
    refine (readSealed_any s _ (by omega)).mono ?_
    rintro e w1 ⟨rfl, hb1⟩
    have hg1 := Lib.hid ((hg.alloc (.cells #[.string ⟨#[]⟩, .int .i64 0, .int .i64 0] 60)).below hb1)
    obtain ⟨hc1, hf1⟩ := bcell hb1
    have hz1 : w.heap.size < w1.heap.size := by have := hb1.size; simp at this; omega
    have HAT := Lib.hid (openS_at s)
    have HZ := Lib.hid (openS_zero s)
    obtain ⟨⟨x, p, c⟩, ht⟩ : ∃ t, t = openS s := ⟨_, rfl⟩
    have HT := Lib.hid ht
    rw [← ht] at HAT HZ ⊢
    obtain rfl : p = 0 := HAT.out
    by_cases hc : c = 0
    · subst hc
      rw [sealedV_ok]
      clear ht
      go_wp2_with fail
      refine (codeOf_nil _).mono ?_
      rintro e w2 ⟨rfl, rfl⟩
      go_wp2_with fail
      exact bodyPost_ret (v := .agg #[.string x, .int .i64 0, .int .i64 0]) (by simp [results, Tryz.results111, go_sem, hc1]) rfl ⟨ret_text HT.out.symm, by
      have h : Below w.heap.size w w1 := ((Below.refl _ _).alloc (Nat.le_refl _) _).trans (hb1.mono (by simp))
      repeat' (first | exact h | refine Below.setCell ?_ (by first | exact Nat.le_refl _ | (simp; done) | (simp; omega)) _ | refine Below.alloc ?_ (by first | exact Nat.le_of_lt hz1 | (simp; omega)) _ | refine Below.drew ?_ | refine below_drewN ?_ _)⟩
    · have HZ' := Lib.hid (HZ.out hc)
      rw [HZ'.out, sealedV_err hc]
      unfold errV
      clear ht
      go_wp2_with fail
      refine (codeOf_bad _ _ hg1.out).mono ?_
      rintro e w2 ⟨rfl, hb2⟩
      obtain ⟨hc2, hf2⟩ := bcell hb2
      go_wp2_with fail
      exact bodyPost_ret (v := .agg #[.string ⟨#[]⟩, .int .i64 0, .int .i64 c]) (by simp [results, Tryz.results111, go_sem, hc1, hz1, hc2]) rfl ⟨ret_text (HT.out.symm.trans HZ'.out), by
        have h : Below w.heap.size w w2 := (((Below.refl _ _).alloc (Nat.le_refl _) _).trans (hb1.mono (by simp))).trans (hb2.mono (Nat.le_of_lt hz1))
        exact ((h.setCell (Nat.le_refl _) _).setCell (Nat.le_refl _) _).setCell (Nat.le_refl _) _⟩
set_option maxRecDepth 100000 in
set_option maxHeartbeats 1600000 in
theorem specUnseal_yes (s : ByteArray) (w : World) (hl : s.size ≤ 8000) (hs4 : 4 ≤ s.size) (ht : tailS s = crc4 (bodyS s)) :
    Calls Tryz.prog 22 #[.string s] w fun e w' => e = .returned (textOutV (openS s)) ∧ Below w.heap.size w w' := by
  have HF := Lib.hid ((openS_read (by omega) (by omega)).trans (unsS_ok ht))
  have hsb : (s.extract 0 (s.size - 4)).size ≤ 8000 := by simp [ByteArray.size_extract]; omega
  have HCI := Lib.hid (crcI_yes hsb)
  have hb0 : ((strOfNums (fourL (crcOn 0 (s.extract 0 (s.size - 4))))).toList == (s.extract (s.size - 4) s.size).toList) = true := by rw [← HCI.out, beq_iff_eq]; exact (congrArg ByteArray.toList ht).symm
  clear ht
  have HSM : Hid ((s.extract 0 (s.size - 4)).size ≤ maxLen) := Nat.le_trans hsb (by unfold maxLen; omega)
  clear hsb
  have hw0 : (0 : Int) ≤ (s.size : Int) - 4 := by omega
  have hw1 : ((s.size : Int) - 4).toNat = s.size - 4 := by omega
  have hw : IntKind.i64.wrap ((s.size : Int) - 4) = (s.size : Int) - 4 := IntWalk.i64_in _ (by omega)
  go_enter Tryz.func22, Tryz.ntmps22
  go_wp2_with fail
  go_region_with (first
    | (go_at_call 63; refine (l01Crc_any _ _ _ (by decide) (by decide) HSM.out).mono ?_; rintro e w1 ⟨rfl, rfl⟩)
    | (go_at_call 62; refine (l01Four_any _ _ (crcOn_range _ _).1 (crcOn_range _ _).2).mono ?_; rintro e w1 ⟨rfl, hb1⟩))
  all_goals clear hb0 hw hw0 hw1
  all_goals
    obtain ⟨hc1, hf1⟩ := bcell hb1
    have hz1 : w.heap.size < w1.heap.size := by have := hb1.size; simp at this; omega
    go_wp2_with fail
    exact bodyPost_ret (v := .agg #[.string (s.extract 0 (s.size - 4)), .int .i64 0, .int .i64 0]) (by simp [results, Tryz.results22, go_sem, hc1]) rfl ⟨ret_text HF.out, (by
      have h : Below w.heap.size w w1 := by first | exact ((Below.refl _ _).alloc (Nat.le_refl _) _).trans (hb1.mono (by simp)) | exact ((Below.refl _ _).alloc (Nat.le_refl _) _).drew.trans (hb1.mono (by simp))
      repeat' (first | exact h | refine Below.setCell ?_ (by first | exact Nat.le_refl _ | (simp; done) | (simp; omega)) _ | refine Below.drew ?_ | refine below_drewN ?_ _))⟩
set_option maxRecDepth 100000 in
set_option maxHeartbeats 1600000 in
theorem specUnseal_no (s : ByteArray) (w : World) (hl : s.size ≤ 8000) (hs4 : 4 ≤ s.size) (ht : ¬ tailS s = crc4 (bodyS s)) :
    Calls Tryz.prog 22 #[.string s] w fun e w' => e = .returned (textOutV (openS s)) ∧ Below w.heap.size w w' := by
  have HF := Lib.hid ((openS_read (by omega) (by omega)).trans (unsS_sum ht))
  have hsb : (s.extract 0 (s.size - 4)).size ≤ 8000 := by simp [ByteArray.size_extract]; omega
  have HCI := Lib.hid (crcI_yes hsb)
  have hb0 : ((strOfNums (fourL (crcOn 0 (s.extract 0 (s.size - 4))))).toList == (s.extract (s.size - 4) s.size).toList) = false := by rw [← HCI.out, beq_eq_false_iff_ne]; exact fun h => ht (toList_inj h).symm
  clear ht
  have HSM : Hid ((s.extract 0 (s.size - 4)).size ≤ maxLen) := Nat.le_trans hsb (by unfold maxLen; omega)
  clear hsb
  have hw0 : (0 : Int) ≤ (s.size : Int) - 4 := by omega
  have hw1 : ((s.size : Int) - 4).toNat = s.size - 4 := by omega
  have hw : IntKind.i64.wrap ((s.size : Int) - 4) = (s.size : Int) - 4 := IntWalk.i64_in _ (by omega)
  go_enter Tryz.func22, Tryz.ntmps22
  go_wp2_with fail
  go_region_with (first
    | (go_at_call 63; refine (l01Crc_any _ _ _ (by decide) (by decide) HSM.out).mono ?_; rintro e w1 ⟨rfl, rfl⟩)
    | (go_at_call 62; refine (l01Four_any _ _ (crcOn_range _ _).1 (crcOn_range _ _).2).mono ?_; rintro e w1 ⟨rfl, hb1⟩))
  all_goals clear hb0 hw hw0 hw1
  all_goals
    obtain ⟨hc1, hf1⟩ := bcell hb1
    have hz1 : w.heap.size < w1.heap.size := by have := hb1.size; simp at this; omega
    go_wp2_with fail
    exact bodyPost_ret (v := .agg #[.string ⟨#[]⟩, .int .i64 0, .int .i64 5]) (by simp [results, Tryz.results22, go_sem, hc1]) rfl ⟨ret_text HF.out, (by
      have h : Below w.heap.size w w1 := by first | exact ((Below.refl _ _).alloc (Nat.le_refl _) _).trans (hb1.mono (by simp)) | exact ((Below.refl _ _).alloc (Nat.le_refl _) _).drew.trans (hb1.mono (by simp))
      repeat' (first | exact h | refine Below.setCell ?_ (by first | exact Nat.le_refl _ | (simp; done) | (simp; omega)) _ | refine Below.drew ?_ | refine below_drewN ?_ _))⟩
theorem specUnseal_any (s : ByteArray) (w : World) (hs : s.size ≤ maxLen) :
    Calls Tryz.prog 22 #[.string s] w fun e w' => e = .returned (textOutV (openS s)) ∧ Below w.heap.size w w' := by
  by_cases hl : 8000 < s.size
  · unfold maxLen at hs
    go_enter Tryz.func22, Tryz.ntmps22
    go_wp2_with fail
    exact bodyPost_ret (v := .agg #[.string ⟨#[]⟩, .int .i64 0, .int .i64 2]) (by simp [results, Tryz.results22, go_sem]) rfl ⟨ret_text (openS_size hl), (Below.refl _ _).alloc (Nat.le_refl _) _⟩
  · by_cases h4 : s.size < 4
    · unfold maxLen at hs
      go_enter Tryz.func22, Tryz.ntmps22
      go_wp2_with fail
      exact bodyPost_ret (v := .agg #[.string ⟨#[]⟩, .int .i64 0, .int .i64 4]) (by simp [results, Tryz.results22, go_sem]) rfl ⟨ret_text (openS_short hl h4), (Below.refl _ _).alloc (Nat.le_refl _) _⟩
    · by_cases ht : tailS s = crc4 (bodyS s)
      · exact specUnseal_yes s w (by omega) (by omega) ht
      · exact specUnseal_no s w (by omega) (by omega) ht
end Go.Proofs.YtidcpdfhnhfelaaGreatDoor

