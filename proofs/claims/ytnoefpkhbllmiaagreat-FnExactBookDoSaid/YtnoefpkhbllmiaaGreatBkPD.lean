/- A right book, told by the program. -/
import Derived.Test.YtnoefpkhbllmiaaGreatBkPB
namespace Go.Proofs.YtnoefpkhbllmiaaGreat
open Go.RowKit Go.PlainAid G IRow
set_option linter.unusedVariables false
set_option maxRecDepth 100000 in
set_option maxHeartbeats 3200000 in
theorem implBookRight_any (b : Bk) (a1 a2 : Option Addr) (n1 n2 a3 a4 : Nat) (w : World) (h : BkR w a1 n1 a3 a2 n2 a4 b.ts b.is) (hn1 : n1 ≤ 1048576) (hn2 : n2 ≤ 1048576) (hs1 : ∀ t, t < n1 → (b.ts.getD t tmD).lk.size ≤ maxLen) (hs2 : ∀ t, t < n2 → (b.is.getD t imD).nm.size ≤ maxLen ∧ (b.is.getD t imD).bd.size ≤ maxLen) :
    Calls Tryz.prog 28 #[.agg #[.int .i64 b.c0, .int .i64 b.c1, .int .i64 b.c2, .int .i64 b.c3, .slice a1 n1 a3, .slice a2 n2 a4]] w fun e w' => e = .returned (.bool (bookB b)) ∧ Below w.heap.size w w' := by
  obtain ⟨c0, c1, c2, c3, ts, is⟩ := b
  dsimp only at h hs1 hs2 ⊢
  have hl1 : ts.length = n1 := h.t.len
  have hl2 : is.length = n2 := h.i.len
  have HS1 := Lib.hid hs1
  have HS2 := Lib.hid hs2
  have HD : Hid (bookB ⟨c0, c1, c2, c3, ts, is⟩ = (zeroB c0 c1 c2 c3 n1 n2 || (confB c0 c1 c2 c3 && decide (1 ≤ n1 ∧ n1 ≤ 5) && decide (n2 ≤ 8) && allTo' (tAt ts) n1 && allTo' (iAt n1 is) n2))) := Lib.hid (by unfold bookB; dsimp only; rw [hl1, hl2])
  generalize bookB ⟨c0, c1, c2, c3, ts, is⟩ = R at *
  obtain ⟨W, hW⟩ : ∃ W, W = w.alloc (.cells #[.int .i64 c0, .int .i64 c1, .int .i64 c2, .int .i64 c3, .slice a1 n1 a3, .slice a2 n2 a4] 40) := ⟨_, rfl⟩
  have HB0 : Hid (Below w.heap.size w W) := Lib.hid (by rw [hW]; exact (Below.refl _ _).alloc (Nat.le_refl _) _)
  have HA : Hid (BoxC W (w.heap.size) [.int .i64 c0, .int .i64 c1, .int .i64 c2, .int .i64 c3, .slice a1 n1 a3, .slice a2 n2 a4]) := Lib.hid (by rw [hW]; exact BoxC.made _ _ _)
  clear hs1 hs2 hl1 hl2
  have HR := Lib.hid h
  clear h
  cases hz : zeroB c0 c1 c2 c3 n1 n2
  · cases hc : confB c0 c1 c2 c3
    · have HF : Hid (false = R) := Lib.hid (by rw [HD.out, hz, hc]; rfl)
      go_enter Tryz.func28, Tryz.ntmps28
      go_wp2_with fail
      rw [← hW]
      clear hW HD
      refine (bookZero_any c0 c1 c2 c3 a1 a2 n1 n2 a3 a4 _).mono ?_
      rintro e w1 ⟨rfl, hb⟩
      rw [hz]
      have HB1 := Lib.hid (HB0.out.trans (hb.mono HB0.out.size))
      have HA1 := Lib.hid (HA.out.below hb)
      have x0 := HA1.out.cell 0 _ rfl
      have x1 := HA1.out.cell 1 _ rfl
      have x2 := HA1.out.cell 2 _ rfl
      have x3 := HA1.out.cell 3 _ rfl
      clear hb
      go_wp2_with fail
      refine (implConf_any c0 c1 c2 c3 _).mono ?_
      rintro e w2 ⟨rfl, hb⟩
      rw [hc]
      have HB2 := Lib.hid (HB1.out.trans (hb.mono HB1.out.size))
      have HA2 := Lib.hid (HA1.out.below hb)
      have x4 := HA2.out.cell 4 _ rfl
      clear hb x0 x1 x2 x3
      go_wp2_with fail
      go_ret
      exact ⟨ret_bool HF.out, HB2.out⟩
    · cases ht : (decide (1 ≤ n1 ∧ n1 ≤ 5) && allTo' (tAt ts) n1)
      · have HF : Hid (false = R) := Lib.hid (by rw [HD.out, hz, hc, Bool.true_and, Bool.and_right_comm (decide (1 ≤ n1 ∧ n1 ≤ 5)), ht]; simp)
        go_enter Tryz.func28, Tryz.ntmps28
        go_wp2_with fail
        rw [← hW]
        clear hW HD
        refine (bookZero_any c0 c1 c2 c3 a1 a2 n1 n2 a3 a4 _).mono ?_
        rintro e w1 ⟨rfl, hb⟩
        rw [hz]
        have HB1 := Lib.hid (HB0.out.trans (hb.mono HB0.out.size))
        have HA1 := Lib.hid (HA.out.below hb)
        have x0 := HA1.out.cell 0 _ rfl
        have x1 := HA1.out.cell 1 _ rfl
        have x2 := HA1.out.cell 2 _ rfl
        have x3 := HA1.out.cell 3 _ rfl
        clear hb
        go_wp2_with fail
        refine (implConf_any c0 c1 c2 c3 _).mono ?_
        rintro e w2 ⟨rfl, hb⟩
        rw [hc]
        have HB2 := Lib.hid (HB1.out.trans (hb.mono HB1.out.size))
        have HA2 := Lib.hid (HA1.out.below hb)
        have x4 := HA2.out.cell 4 _ rfl
        clear hb x0 x1 x2 x3
        go_wp2_with fail
        refine (termsRight_any a1 n1 a3 ts _ (HR.out.below HB2.out).t hn1 HS1.out).mono ?_
        rintro e w3 ⟨rfl, hb⟩
        rw [ht]
        have HB3 := Lib.hid (HB2.out.trans (hb.mono HB2.out.size))
        have HA3 := Lib.hid (HA2.out.below hb)
        clear hb x4
        have x4 := HA3.out.cell 4 _ rfl
        have x5 := HA3.out.cell 5 _ rfl
        go_wp2_with fail
        go_ret
        exact ⟨ret_bool HF.out, HB3.out⟩
      · have HF : Hid ((decide (n2 ≤ 8) && allTo' (iAt n1 is) n2) = R) := Lib.hid (by rw [HD.out, hz, hc, Bool.true_and, Bool.and_right_comm (decide (1 ≤ n1 ∧ n1 ≤ 5)), ht]; simp)
        go_enter Tryz.func28, Tryz.ntmps28
        go_wp2_with fail
        rw [← hW]
        clear hW HD
        refine (bookZero_any c0 c1 c2 c3 a1 a2 n1 n2 a3 a4 _).mono ?_
        rintro e w1 ⟨rfl, hb⟩
        rw [hz]
        have HB1 := Lib.hid (HB0.out.trans (hb.mono HB0.out.size))
        have HA1 := Lib.hid (HA.out.below hb)
        have x0 := HA1.out.cell 0 _ rfl
        have x1 := HA1.out.cell 1 _ rfl
        have x2 := HA1.out.cell 2 _ rfl
        have x3 := HA1.out.cell 3 _ rfl
        clear hb
        go_wp2_with fail
        refine (implConf_any c0 c1 c2 c3 _).mono ?_
        rintro e w2 ⟨rfl, hb⟩
        rw [hc]
        have HB2 := Lib.hid (HB1.out.trans (hb.mono HB1.out.size))
        have HA2 := Lib.hid (HA1.out.below hb)
        have x4 := HA2.out.cell 4 _ rfl
        clear hb x0 x1 x2 x3
        go_wp2_with fail
        refine (termsRight_any a1 n1 a3 ts _ (HR.out.below HB2.out).t hn1 HS1.out).mono ?_
        rintro e w3 ⟨rfl, hb⟩
        rw [ht]
        have HB3 := Lib.hid (HB2.out.trans (hb.mono HB2.out.size))
        have HA3 := Lib.hid (HA2.out.below hb)
        clear hb x4
        have x4 := HA3.out.cell 4 _ rfl
        have x5 := HA3.out.cell 5 _ rfl
        go_wp2_with fail
        refine (itemsRight_any a2 n2 a4 n1 is _ (HR.out.below HB3.out).i hn2 hn1 HS2.out).mono ?_
        rintro e w4 ⟨rfl, hb⟩
        have HB4 := Lib.hid (HB3.out.trans (hb.mono HB3.out.size))
        clear hb
        go_wp2_with fail
        go_ret
        exact ⟨ret_bool HF.out, HB4.out⟩
  · have HF : Hid (true = R) := Lib.hid (by rw [HD.out, hz]; rfl)
    go_enter Tryz.func28, Tryz.ntmps28
    go_wp2_with fail
    rw [← hW]
    clear hW
    refine (bookZero_any c0 c1 c2 c3 a1 a2 n1 n2 a3 a4 _).mono ?_
    rintro e w1 ⟨rfl, hb⟩
    rw [hz]
    have HB1 := Lib.hid (HB0.out.trans (hb.mono HB0.out.size))
    clear hb
    go_wp2_with fail
    go_ret
    exact ⟨ret_bool HF.out, HB1.out⟩
end Go.Proofs.YtnoefpkhbllmiaaGreat
