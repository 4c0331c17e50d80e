/- Texts put together: what the law uses of them. -/
import Derived.StillTailTactics
import Derived.RegionTactic
import Derived.WalkSmall
import Derived.Test.YtidcpdfhnhfelaaGreatDoorQTxr14
import Derived.Test.YtidcpdfhnhfelaaGreatDoorQTxr00
/- What the functions that read a text answer. -/
namespace Go.Proofs.YtidcpdfhnhfelaaGreatDoor
open Go.RowKit G MGet
set_option linter.unusedVariables false
def textOutV (t : ByteArray × Int × Int) : Value := .agg #[.string t.1, .int .i64 t.2.1, .int .i64 t.2.2]
theorem ret_text {t : ByteArray × Int × Int} {a : ByteArray} {b c : Int} (h : t = (a, b, c)) : Ending.returned (.agg #[.string a, .int .i64 b, .int .i64 c]) = .returned (textOutV t) := by rw [h]; rfl
theorem txt_zero (s : ByteArray) (j : Nat) (hc : (txtS s j).2.2 ≠ 0) : txtS s j = (⟨#[]⟩, 0, (txtS s j).2.2) := by
  unfold txtS at *
  split
  · rfl
  · split
    · rfl
    · split
      · rfl
      · rename_i h1 h2 h3
        rw [if_neg h1, if_neg h2, if_neg h3] at hc
        exact absurd rfl hc
set_option maxHeartbeats 800000 in
theorem implGetText_any (s : ByteArray) (a : Int) (w : World) (ha : (Lit.int .i64 a).wf = true) (hs : s.size ≤ maxLen) (hg : ET w) :
    Calls Tryz.prog 24 #[.string s, .int .i64 a] w fun e w' => e = .returned (textOutV (getT s a)) ∧ Below w.heap.size w w' := by
  obtain ⟨g0, g1⟩ := bounds_i64 ha
  by_cases hl : 8000 < s.size
  · go_enter Tryz.func24, Tryz.ntmps24
    go_wp2_with fail
    refine (placeFault_any _ _ _ hs).mono ?_
    rintro e w1 ⟨rfl, rfl⟩
    rw [faultI_size hl]
    go_wp2_with fail
    exact bodyPost_ret (v := .agg #[.string ⟨#[]⟩, .int .i64 0, .int .i64 2]) (by simp [results, Tryz.results24, go_sem]) rfl ⟨ret_text (getT_size hl), (Below.refl _ _).alloc (Nat.le_refl _) _⟩
  · by_cases hn : a < 0
    · go_enter Tryz.func24, Tryz.ntmps24
      go_wp2_with fail
      refine (placeFault_any _ _ _ hs).mono ?_
      rintro e w1 ⟨rfl, rfl⟩
      rw [faultI_form hl hn]
      go_wp2_with fail
      exact bodyPost_ret (v := .agg #[.string ⟨#[]⟩, .int .i64 0, .int .i64 1]) (by simp [results, Tryz.results24, go_sem]) rfl ⟨ret_text (getT_form hl hn), (Below.refl _ _).alloc (Nat.le_refl _) _⟩
    · obtain ⟨j, rfl⟩ := Int.eq_ofNat_of_zero_le (show 0 ≤ a by omega)
      have HG := Lib.hid (getT_read (s := s) (a := j) hl)
      go_enter Tryz.func24, Tryz.ntmps24
      go_wp2_with fail
      refine (placeFault_any _ _ _ hs).mono ?_
      rintro e w1 ⟨rfl, rfl⟩
      rw [faultI_ok hl (by omega)]
      go_wp2_with fail
      refine (readText_any s j _ g1 (by omega)).mono ?_
      rintro e w1 ⟨rfl, hb1⟩
      have hg1 := Lib.hid ((hg.alloc (.cells #[.string ⟨#[]⟩, .int .i64 0, .int .i64 0] 60)).below hb1)
      obtain ⟨hc1, hf1⟩ := bcell hb1
      have hz1 : w.heap.size < w1.heap.size := by have := hb1.size; simp at this; omega
      by_cases hc : (txtS s j).2.2 = 0
      · obtain ⟨⟨n, p, c⟩, ht⟩ : ∃ t, t = txtS s j := ⟨_, rfl⟩
        rw [← ht] at hc HG ⊢
        obtain rfl : c = 0 := hc
        rw [textV_ok]
        clear ht
        go_wp2_with fail
        refine (codeOf_nil _).mono ?_
        rintro e w2 ⟨rfl, rfl⟩
        go_wp2_with fail
        exact bodyPost_ret (v := .agg #[.string n, .int .i64 p, .int .i64 0]) (by simp [results, Tryz.results24, go_sem, hc1]) rfl ⟨ret_text HG.out, by
          have h : Below w.heap.size w w1 := ((Below.refl _ _).alloc (Nat.le_refl _) _).trans (hb1.mono (by simp))
          exact ((h.setCell (Nat.le_refl _) _).setCell (Nat.le_refl _) _).setCell (Nat.le_refl _) _⟩
      · have HZ := Lib.hid (txt_zero s j hc)
        obtain ⟨c, hcc⟩ : ∃ c, c = (txtS s j).2.2 := ⟨_, rfl⟩
        rw [← hcc] at hc HZ
        clear hcc
        rw [HZ.out, textV_err hc]
        unfold errV
        go_wp2_with fail
        refine (codeOf_bad _ _ hg1.out).mono ?_
        rintro e w2 ⟨rfl, hb2⟩
        obtain ⟨hc2, hf2⟩ := bcell hb2
        go_wp2_with fail
        exact bodyPost_ret (v := .agg #[.string ⟨#[]⟩, .int .i64 0, .int .i64 c]) (by simp [results, Tryz.results24, go_sem, hc1, hz1, hc2]) rfl ⟨ret_text (HG.out.trans HZ.out), by
          have h : Below w.heap.size w w2 := (((Below.refl _ _).alloc (Nat.le_refl _) _).trans (hb1.mono (by simp))).trans (hb2.mono (Nat.le_of_lt hz1))
          exact ((h.setCell (Nat.le_refl _) _).setCell (Nat.le_refl _) _).setCell (Nat.le_refl _) _⟩
set_option maxRecDepth 100000 in
set_option maxHeartbeats 1600000 in
theorem specGetText_any (s : ByteArray) (a : Int) (w : World) (ha : (Lit.int .i64 a).wf = true) (hs : s.size ≤ maxLen) :
    Calls Tryz.prog 21 #[.string s, .int .i64 a] w fun e w' => e = .returned (textOutV (getT s a)) ∧ Below w.heap.size w w' := by
  obtain ⟨g0, g1⟩ := bounds_i64 ha
  by_cases hl : 8000 < s.size
  · go_enter Tryz.func21, Tryz.ntmps21
    go_wp2_with fail
    refine (specGetNum_any s a _ ha hs).mono ?_
    rintro e w1 ⟨rfl, hb1⟩
    obtain ⟨hc1, hf1⟩ := bcell hb1
    have hz1 : w.heap.size < w1.heap.size := by have := hb1.size; simp at this; omega
    rw [getS_size hl]
    unfold numOutV
    go_wp2_with fail
    exact bodyPost_ret (v := .agg #[.string ⟨#[]⟩, .int .i64 0, .int .i64 2]) (by simp [results, Tryz.results21, go_sem, hc1, hz1]) rfl ⟨ret_text (getT_size hl), by
      have h : Below w.heap.size w w1 := ((Below.refl _ _).alloc (Nat.le_refl _) _).trans (hb1.mono (by simp))
      repeat' (first | exact h | refine Below.setCell ?_ (by first | exact Nat.le_refl _ | (simp; done) | (simp; omega)) _ | refine Below.alloc ?_ (by first | exact Nat.le_of_lt hz1 | (simp; omega)) _ | refine Below.drew ?_ | refine below_drewN ?_ _)⟩
  · by_cases hn : a < 0
    · go_enter Tryz.func21, Tryz.ntmps21
      go_wp2_with fail
      refine (specGetNum_any s _ _ ha hs).mono ?_
      rintro e w1 ⟨rfl, hb1⟩
      obtain ⟨hc1, hf1⟩ := bcell hb1
      have hz1 : w.heap.size < w1.heap.size := by have := hb1.size; simp at this; omega
      rw [getS_form hl hn]
      unfold numOutV
      go_wp2_with fail
      exact bodyPost_ret (v := .agg #[.string ⟨#[]⟩, .int .i64 0, .int .i64 1]) (by simp [results, Tryz.results21, go_sem, hc1, hz1]) rfl ⟨ret_text (getT_form hl hn), by
        have h : Below w.heap.size w w1 := ((Below.refl _ _).alloc (Nat.le_refl _) _).trans (hb1.mono (by simp))
        repeat' (first | exact h | refine Below.setCell ?_ (by first | exact Nat.le_refl _ | (simp; done) | (simp; omega)) _ | refine Below.alloc ?_ (by first | exact Nat.le_of_lt hz1 | (simp; omega)) _ | refine Below.drew ?_ | refine below_drewN ?_ _)⟩
    · obtain ⟨j, rfl⟩ := Int.eq_ofNat_of_zero_le (show 0 ≤ a by omega)
      have HG := Lib.hid (getS_read (s := s) (a := j) hl)
      have HGT := Lib.hid (getT_read (s := s) (a := j) hl)
      have hpl := rd_place s j 10 0 0
      have HZ := Lib.hid (rd_zero s j 10 0 0)
      obtain ⟨⟨n, p, c⟩, ht⟩ : ∃ t, t = rdS s j 10 0 0 := ⟨_, rfl⟩
      have HT := Lib.hid ht
      rw [← ht] at hpl HZ
      simp only [] at hpl HZ
      by_cases hc : c = 0
      · subst hc
        obtain ⟨hp0, hp1⟩ := hpl rfl
        obtain ⟨p, rfl⟩ := Int.eq_ofNat_of_zero_le (show 0 ≤ p by omega)
        by_cases hnn : n < 0 ∨ 8000 < n
        · have HF := Lib.hid (txt_form HT.out.symm hnn)
          clear hpl ht
          rcases hnn with hnn | hnn
          all_goals
            go_enter Tryz.func21, Tryz.ntmps21
            go_wp2_with fail
            refine (specGetNum_any s _ _ ha hs).mono ?_
            rintro e w1 ⟨rfl, hb1⟩
            obtain ⟨hc1, hf1⟩ := bcell hb1
            have hz1 : w.heap.size < w1.heap.size := by have := hb1.size; simp at this; omega
            rw [HG.out, ← HT.out]
            unfold numOutV
            go_wp2_with fail
            exact bodyPost_ret (v := .agg #[.string ⟨#[]⟩, .int .i64 0, .int .i64 3]) (by simp [results, Tryz.results21, go_sem, hc1, hz1]) rfl ⟨ret_text (HGT.out.trans HF.out), by
              have h : Below w.heap.size w w1 := ((Below.refl _ _).alloc (Nat.le_refl _) _).trans (hb1.mono (by simp))
              repeat' (first | exact h | refine Below.setCell ?_ (by first | exact Nat.le_refl _ | (simp; done) | (simp; omega)) _ | refine Below.alloc ?_ (by first | exact Nat.le_of_lt hz1 | (simp; omega)) _ | refine Below.drew ?_ | refine below_drewN ?_ _)⟩
        · obtain ⟨n, rfl⟩ := Int.eq_ofNat_of_zero_le (show 0 ≤ n by omega)
          have hn8 : n ≤ 8000 := by omega
          clear hpl ht hnn
          by_cases hsh : (s.size : Int) < p + n
          · have HF := Lib.hid (txt_short HT.out.symm (by omega) hsh)
            go_enter Tryz.func21, Tryz.ntmps21
            go_wp2_with fail
            refine (specGetNum_any s _ _ ha hs).mono ?_
            rintro e w1 ⟨rfl, hb1⟩
            obtain ⟨hc1, hf1⟩ := bcell hb1
            have hz1 : w.heap.size < w1.heap.size := by have := hb1.size; simp at this; omega
            rw [HG.out, ← HT.out]
            unfold numOutV
            go_wp2_with fail
            exact bodyPost_ret (v := .agg #[.string ⟨#[]⟩, .int .i64 0, .int .i64 4]) (by simp [results, Tryz.results21, go_sem, hc1, hz1]) rfl ⟨ret_text (HGT.out.trans HF.out), by
              have h : Below w.heap.size w w1 := ((Below.refl _ _).alloc (Nat.le_refl _) _).trans (hb1.mono (by simp))
              repeat' (first | exact h | refine Below.setCell ?_ (by first | exact Nat.le_refl _ | (simp; done) | (simp; omega)) _ | refine Below.alloc ?_ (by first | exact Nat.le_of_lt hz1 | (simp; omega)) _ | refine Below.drew ?_ | refine below_drewN ?_ _)⟩
          · have hpn : p + n ≤ s.size := by omega
            have HF := Lib.hid (txt_ok HT.out.symm hn8 hpn)
            go_enter Tryz.func21, Tryz.ntmps21
            go_wp2_with fail
            refine (specGetNum_any s _ _ ha hs).mono ?_
            rintro e w1 ⟨rfl, hb1⟩
            obtain ⟨hc1, hf1⟩ := bcell hb1
            have hz1 : w.heap.size < w1.heap.size := by have := hb1.size; simp at this; omega
            rw [HG.out, ← HT.out]
            unfold numOutV
            have hsl := fun W => run_cut_str (P := Tryz.prog) W 9 Tryz.underlying9 s p n hpn
            generalize s.extract p (p + n) = x at hsl HF
            go_wp2_with fail
            go_region
            go_wp2_with fail
            exact bodyPost_ret (v := .agg #[.string x, .int .i64 (p + n), .int .i64 0]) (by simp [results, Tryz.results21, go_sem, hc1, hz1]) rfl ⟨ret_text (HGT.out.trans HF.out), by
              have h : Below w.heap.size w w1 := ((Below.refl _ _).alloc (Nat.le_refl _) _).trans (hb1.mono (by simp))
              repeat' (first | exact h | refine Below.setCell ?_ (by first | exact Nat.le_refl _ | (simp; done) | (simp; omega)) _ | refine Below.alloc ?_ (by first | exact Nat.le_of_lt hz1 | (simp; omega)) _ | refine Below.drew ?_ | refine below_drewN ?_ _)⟩
      · have HF := Lib.hid (txt_err HT.out.symm hc)
        have HZ' := Lib.hid (HZ.out hc)
        clear hpl ht
        go_enter Tryz.func21, Tryz.ntmps21
        go_wp2_with fail
        refine (specGetNum_any s _ _ ha hs).mono ?_
        rintro e w1 ⟨rfl, hb1⟩
        obtain ⟨hc1, hf1⟩ := bcell hb1
        have hz1 : w.heap.size < w1.heap.size := by have := hb1.size; simp at this; omega
        rw [HG.out, ← HT.out, HZ'.out]
        unfold numOutV
        have hcb : (c != 0) = true := by simp [hc]
        go_wp2_with fail
        exact bodyPost_ret (v := .agg #[.string ⟨#[]⟩, .int .i64 0, .int .i64 c]) (by simp [results, Tryz.results21, go_sem, hc1, hz1]) rfl ⟨ret_text (HGT.out.trans HF.out), by
          have h : Below w.heap.size w w1 := ((Below.refl _ _).alloc (Nat.le_refl _) _).trans (hb1.mono (by simp))
          repeat' (first | exact h | refine Below.setCell ?_ (by first | exact Nat.le_refl _ | (simp; done) | (simp; omega)) _ | refine Below.alloc ?_ (by first | exact Nat.le_of_lt hz1 | (simp; omega)) _ | refine Below.drew ?_ | refine below_drewN ?_ _)⟩
end Go.Proofs.YtidcpdfhnhfelaaGreatDoor

