/- Texts put together: what the law uses of them. -/
import Derived.Test.YtidcpdfhnhfelaaGreatDoorQTxr02
import Derived.Test.YtidcpdfhnhfelaaGreatDoorQTxr05
import Derived.Test.YtidcpdfhnhfelaaGreatDoorQTxr12
import Derived.Test.YtidcpdfhnhfelaaGreatDoorQTxr13
import Derived.Test.YtidcpdfhnhfelaaGreatDoorQTxr00
/- What the functions that read a number and a text answer. -/
namespace Go.Proofs.YtidcpdfhnhfelaaGreatDoor
open Go.RowKit G MGet
set_option linter.unusedVariables false
def faultI (s : ByteArray) (a : Int) : Int := if 8000 < s.size then 2 else if a < 0 then 1 else 0
theorem faultI_size {s : ByteArray} {a : Int} (h : 8000 < s.size) : faultI s a = 2 := by unfold faultI; rw [if_pos h]
theorem faultI_form {s : ByteArray} {a : Int} (h : ¬ 8000 < s.size) (h' : a < 0) : faultI s a = 1 := by unfold faultI; rw [if_neg h, if_pos h']
theorem faultI_ok {s : ByteArray} {a : Int} (h : ¬ 8000 < s.size) (h' : ¬ a < 0) : faultI s a = 0 := by unfold faultI; rw [if_neg h, if_neg h']
theorem placeFault_any (s : ByteArray) (a : Int) (w : World) (hs : s.size ≤ maxLen) :
    Calls Tryz.prog 67 #[.string s, .int .i64 a] w fun e w' => e = .returned (.int .i64 (faultI s a)) ∧ w = w' := by
  by_cases h : 8000 < s.size
  · go_enter Tryz.func67, Tryz.ntmps67
    go_wp2_with (go_at_call 107; refine (tooLong_any _ _ hs).mono ?_; rintro e w' ⟨rfl, rfl⟩)
    go_ret
    exact ⟨ret_int (faultI_size h).symm, rfl⟩
  · by_cases hn : a < 0
    all_goals
      go_enter Tryz.func67, Tryz.ntmps67
      go_wp2_with (go_at_call 107; refine (tooLong_any _ _ hs).mono ?_; rintro e w' ⟨rfl, rfl⟩)
      go_ret
      first
        | exact ⟨ret_int (faultI_form h hn).symm, rfl⟩
        | exact ⟨ret_int (faultI_ok h (by omega)).symm, rfl⟩
def textV (t : ByteArray × Int × Int) : Value := if t.2.2 = 0 then .tuple #[.string t.1, .int .i64 t.2.1, .nilIface] else .tuple #[.string ⟨#[]⟩, .int .i64 0, errV t.2.2]
theorem textV_ok (s : ByteArray) (a : Int) : textV (s, a, 0) = .tuple #[.string s, .int .i64 a, .nilIface] := by simp [textV]
theorem textV_err {c : Int} (h : c ≠ 0) : textV (⟨#[]⟩, 0, c) = .tuple #[.string ⟨#[]⟩, .int .i64 0, errV c] := by simp [textV, h]
set_option maxRecDepth 100000 in
set_option maxHeartbeats 1600000 in
theorem readText_any (s : ByteArray) (j : Nat) (w : World) (hj : (j : Int) ≤ 9223372036854775807) (hs : s.size ≤ 8000) :
    Calls Tryz.prog 68 #[.string s, .int .i64 j] w fun e w' => e = .returned (textV (txtS s j)) ∧ Below w.heap.size w w' := by
  have hpl := rd_place s j 10 0 0
  have HZ := Lib.hid (rd_zero s j 10 0 0)
  obtain ⟨⟨n, p, c⟩, ht⟩ : ∃ t, t = rdS s j 10 0 0 := ⟨_, rfl⟩
  have HT := Lib.hid ht
  rw [← ht] at hpl HZ
  simp only [] at hpl HZ
  by_cases hc : c = 0
  · subst hc
    obtain ⟨hp0, hp1⟩ := hpl rfl
    obtain ⟨p, rfl⟩ := Int.eq_ofNat_of_zero_le (show 0 ≤ p by omega)
    by_cases hn : n < 0 ∨ 8000 < n
    · have HF := Lib.hid (txt_form HT.out.symm hn)
      go_enter Tryz.func68, Tryz.ntmps68
      go_wp2_with fail
      refine (readNum_any s j _ hj hs).mono ?_
      rintro e w1 ⟨rfl, hb1⟩
      rw [← HT.out, readV_ok]
      clear ht hpl
      rcases hn with hn | hn
      all_goals
        go_wp2_with fail
        go_ret3
        exact ⟨by rw [HF.out, textV_err (by decide)]; rfl, hb1⟩
    · obtain ⟨n, rfl⟩ := Int.eq_ofNat_of_zero_le (show 0 ≤ n by omega)
      by_cases hsh : (s.size : Int) < p + n
      · have HF := Lib.hid (txt_short HT.out.symm hn hsh)
        go_enter Tryz.func68, Tryz.ntmps68
        go_wp2_with fail
        refine (readNum_any s j _ hj hs).mono ?_
        rintro e w1 ⟨rfl, hb1⟩
        rw [← HT.out, readV_ok]
        clear ht hpl
        have hn8 : n ≤ 8000 := by omega
        clear hn
        go_wp2_with fail
        go_ret3
        exact ⟨by rw [HF.out, textV_err (by decide)]; rfl, hb1⟩
      · have hn8 : n ≤ 8000 := by omega
        have hpn : p + n ≤ s.size := by omega
        have HF := Lib.hid (txt_ok HT.out.symm hn8 hpn)
        go_enter Tryz.func68, Tryz.ntmps68
        go_wp2_with fail
        refine (readNum_any s j _ hj hs).mono ?_
        rintro e w1 ⟨rfl, hb1⟩
        rw [← HT.out, readV_ok]
        clear ht hpl hn hj hp0 hsh
        have hsl := fun W => run_cut_str (P := Tryz.prog) W 9 Tryz.underlying9 s p n hpn
        have hsz := size_cut s p n hpn
        generalize s.extract p (p + n) = x at hsl hsz HF
        have hsx : x.size ≤ 1000000000 := by omega
        have HSX := Lib.hid hsx; clear hsx hsz
        go_wp2_with fail
        refine (joined_one _ _ _ HSX.out).mono ?_
        rintro e w2 ⟨rfl, hb2⟩
        clear hsl
        go_wp2_with fail
        go_ret3
        exact ⟨by rw [HF.out, textV_ok]; rfl, hb1.trans (hb2.mono hb1.size)⟩
  · have HF := Lib.hid (txt_err HT.out.symm hc)
    have HZ' := Lib.hid (HZ.out hc)
    go_enter Tryz.func68, Tryz.ntmps68
    go_wp2_with fail
    refine (readNum_any s j _ hj hs).mono ?_
    rintro e w1 ⟨rfl, hb1⟩
    rw [← HT.out, HZ'.out, readV_err hc]
    unfold errV
    clear ht hpl hj
    go_wp2_with fail
    go_ret3
    exact ⟨by rw [HF.out, textV_err hc]; rfl, hb1⟩
end Go.Proofs.YtidcpdfhnhfelaaGreatDoor

