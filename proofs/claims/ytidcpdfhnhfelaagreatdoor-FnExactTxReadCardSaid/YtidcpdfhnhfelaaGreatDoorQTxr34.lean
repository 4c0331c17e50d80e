/- Texts put together: what the law uses of them. -/
import Derived.Test.YtidcpdfhnhfelaaGreatDoorQTxr32
import Derived.Test.YtidcpdfhnhfelaaGreatDoorQTxr33
import Derived.Test.YtidcpdfhnhfelaaGreatDoorQTxr00
/- Right deeds: what the program's DeedRight answers. -/
namespace Go.Proofs.YtidcpdfhnhfelaaGreatDoor
open Go.RowKit Go.PlainAid G
set_option linter.unusedVariables false
theorem nil_right1 (a b c d : Int) (w : World) : (nilAhead 390 206 (.agg #[.int .i64 a, .int .i64 b, .int .i64 c, .int .i64 d]) "loop.example/g00839/impl.right").run Tryz.prog w = .ok (some false) w := by kernel_rfl
theorem met_right1 (a b c d : Int) (w : World) : (method 390 206 (.agg #[.int .i64 a, .int .i64 b, .int .i64 c, .int .i64 d]) "loop.example/g00839/impl.right").run Tryz.prog w = .ok (211, .agg #[.int .i64 a, .int .i64 b, .int .i64 c, .int .i64 d]) w := by kernel_rfl
theorem nil_whole1 (a b c d : Int) (w : World) : (nilAhead 390 206 (.agg #[.int .i64 a, .int .i64 b, .int .i64 c, .int .i64 d]) "loop.example/g00839/impl.whole").run Tryz.prog w = .ok (some false) w := by kernel_rfl
theorem met_whole1 (a b c d : Int) (w : World) : (method 390 206 (.agg #[.int .i64 a, .int .i64 b, .int .i64 c, .int .i64 d]) "loop.example/g00839/impl.whole").run Tryz.prog w = .ok (212, .agg #[.int .i64 a, .int .i64 b, .int .i64 c, .int .i64 d]) w := by kernel_rfl
theorem nil_right2 (a : Int) (b : ByteArray) (w : World) : (nilAhead 390 229 (.agg #[.int .i64 a, .string b]) "loop.example/g00839/impl.right").run Tryz.prog w = .ok (some false) w := by kernel_rfl
theorem met_right2 (a : Int) (b : ByteArray) (w : World) : (method 390 229 (.agg #[.int .i64 a, .string b]) "loop.example/g00839/impl.right").run Tryz.prog w = .ok (227, .agg #[.int .i64 a, .string b]) w := by kernel_rfl
theorem nil_whole2 (a : Int) (b : ByteArray) (w : World) : (nilAhead 390 229 (.agg #[.int .i64 a, .string b]) "loop.example/g00839/impl.whole").run Tryz.prog w = .ok (some false) w := by kernel_rfl
theorem met_whole2 (a : Int) (b : ByteArray) (w : World) : (method 390 229 (.agg #[.int .i64 a, .string b]) "loop.example/g00839/impl.whole").run Tryz.prog w = .ok (228, .agg #[.int .i64 a, .string b]) w := by kernel_rfl
theorem nil_right3 (a : ByteArray) (b : Int) (c : ByteArray) (w : World) : (nilAhead 390 230 (.agg #[.string a, .int .i64 b, .string c]) "loop.example/g00839/impl.right").run Tryz.prog w = .ok (some false) w := by kernel_rfl
theorem met_right3 (a : ByteArray) (b : Int) (c : ByteArray) (w : World) : (method 390 230 (.agg #[.string a, .int .i64 b, .string c]) "loop.example/g00839/impl.right").run Tryz.prog w = .ok (232, .agg #[.string a, .int .i64 b, .string c]) w := by kernel_rfl
theorem nil_whole3 (a : ByteArray) (b : Int) (c : ByteArray) (w : World) : (nilAhead 390 230 (.agg #[.string a, .int .i64 b, .string c]) "loop.example/g00839/impl.whole").run Tryz.prog w = .ok (some false) w := by kernel_rfl
theorem met_whole3 (a : ByteArray) (b : Int) (c : ByteArray) (w : World) : (method 390 230 (.agg #[.string a, .int .i64 b, .string c]) "loop.example/g00839/impl.whole").run Tryz.prog w = .ok (233, .agg #[.string a, .int .i64 b, .string c]) w := by kernel_rfl
theorem nil_right4 (a : ByteArray) (w : World) : (nilAhead 390 231 (.string a) "loop.example/g00839/impl.right").run Tryz.prog w = .ok (some false) w := by kernel_rfl
theorem met_right4 (a : ByteArray) (w : World) : (method 390 231 (.string a) "loop.example/g00839/impl.right").run Tryz.prog w = .ok (239, .string a) w := by kernel_rfl
theorem nil_whole4 (a : ByteArray) (w : World) : (nilAhead 390 231 (.string a) "loop.example/g00839/impl.whole").run Tryz.prog w = .ok (some false) w := by kernel_rfl
theorem met_whole4 (a : ByteArray) (w : World) : (method 390 231 (.string a) "loop.example/g00839/impl.whole").run Tryz.prog w = .ok (240, .string a) w := by kernel_rfl
set_option maxRecDepth 100000 in
set_option maxHeartbeats 3200000 in
theorem implDeedRight_any (q0 q1 q2 q3 q4 q5 : Int) (q6 q7 : ByteArray) (q8 : Int) (q9 : ByteArray) (w : World) (h6 : q6.size ≤ maxLen) (h7 : q7.size ≤ maxLen) (h9 : q9.size ≤ maxLen) :
    Calls Tryz.prog 113 #[.agg #[.int .i64 q0, .int .i64 q1, .int .i64 q2, .int .i64 q3, .int .i64 q4, .int .i64 q5, .string q6, .string q7, .int .i64 q8, .string q9]] w fun e w' => e = .returned (.bool (deedB q0 q1 q2 q3 q4 q5 q6 q7 q8 q9)) ∧ Below w.heap.size w w' := by
  obtain ⟨W, hW⟩ : ∃ W, W = w.alloc (.cells #[.int .i64 q0, .int .i64 q1, .int .i64 q2, .int .i64 q3, .int .i64 q4, .int .i64 q5, .string q6, .string q7, .int .i64 q8, .string q9] 110) := ⟨_, rfl⟩
  have HB0 : Hid (Below w.heap.size w W) := Lib.hid (by rw [hW]; exact (Below.refl _ _).alloc (Nat.le_refl _) _)
  have HA : Hid (BoxC W (w.heap.size) [.int .i64 q0, .int .i64 q1, .int .i64 q2, .int .i64 q3, .int .i64 q4, .int .i64 q5, .string q6, .string q7, .int .i64 q8, .string q9]) := Lib.hid (by rw [hW]; exact BoxC.made _ _ _)
  have H6 := Lib.hid h6
  have H7 := Lib.hid h7
  have H9 := Lib.hid h9
  clear h6 h7 h9
  have hmx : Tryz.prog.follows .mixedOrders = true := by kernel_rfl
  by_cases k1 : q0 = 1
  · subst k1
    have HX : Hid (deedB 1 q1 q2 q3 q4 q5 q6 q7 q8 q9 = (confB q1 q2 q3 q4 && (decide (q5 = 0 ∧ q6 = ⟨#[]⟩) && decide (q7 = ⟨#[]⟩ ∧ q8 = 0 ∧ q9 = ⟨#[]⟩)))) := Lib.hid (by unfold deedB; simp [Bool.and_assoc, Bool.and_comm, Bool.and_left_comm])
    have hn := nil_right1 q1 q2 q3 q4
    have hm := met_right1 q1 q2 q3 q4
    have hn2 := nil_whole1 q1 q2 q3 q4
    have hm2 := met_whole1 q1 q2 q3 q4
    go_enter Tryz.func113, Tryz.ntmps113
    go_wp2_with fail
    rw [← hW]
    clear hW
    refine (deedOf1_any 1 q1 q2 q3 q4 q5 q6 q7 q8 q9 rfl _).mono ?_
    rintro e w1 ⟨rfl, hb⟩
    have HB1 := Lib.hid (HB0.out.trans (hb.mono HB0.out.size))
    have HA1 := Lib.hid (HA.out.below hb)
    clear hb
    go_wp2_with fail
    have he := eql_deed1 q1 q2 q3 q4 q5 q6 q7 q8 q9
    generalize (decide (q5 = 0 ∧ q6 = ⟨#[]⟩) && decide (q7 = ⟨#[]⟩ ∧ q8 = 0 ∧ q9 = ⟨#[]⟩)) = ze at *
    cases hv : confB q1 q2 q3 q4
    · have HF : Hid (false = deedB 1 q1 q2 q3 q4 q5 q6 q7 q8 q9) := Lib.hid (by rw [HX.out, hv]; rfl)
      clear HX
      refine TillZ.region (t := 2) hmx (fun _ => True) ?_
      refine TillZ.value (i := 0) (v := .iface 206 (.agg #[.int .i64 q1, .int .i64 q2, .int .i64 q3, .int .i64 q4])) (by kernel_rfl) rfl rfl rfl (by go_simp) trivial ?_
      simp only [Act.put, List.getElem_toArray, List.getElem_cons_zero, List.getElem_cons_succ, List.setIfInBounds_toArray, List.set_cons_zero, List.set_cons_succ]
      refine TillZ.value (i := 1) (v := .bool true) (by kernel_rfl) rfl rfl rfl (by go_simp) trivial ?_
      simp only [Act.put, List.getElem_toArray, List.getElem_cons_zero, List.getElem_cons_succ, List.setIfInBounds_toArray, List.set_cons_zero, List.set_cons_succ]
      refine TillZ.hand (v := .bool true) (by kernel_rfl) rfl rfl (by go_simp) ?_
      simp only [Act.put, List.getElem_toArray, List.getElem_cons_zero, List.getElem_cons_succ, List.setIfInBounds_toArray, List.set_cons_zero, List.set_cons_succ]
      refine TillZ.any_valueg (i := 3) (w' := w1.drew) (v := .iface 206 (.agg #[.int .i64 q1, .int .i64 q2, .int .i64 q3, .int .i64 q4])) (by kernel_rfl) rfl (by kernel_rfl) (by go_simp) ?_
      simp only [Act.put, List.getElem_toArray, List.getElem_cons_zero, List.getElem_cons_succ, List.setIfInBounds_toArray, List.set_cons_zero, List.set_cons_succ]
      refine TillZ.any_callg (i := 4) (f := 211) (args := #[.agg #[.int .i64 q1, .int .i64 q2, .int .i64 q3, .int .i64 q4]]) (by kernel_rfl) rfl (by kernel_rfl) (by first | (go_simp; done) | (go_simp; rw [hm]; go_simp; done) | (go_simp; rw [hm]; rfl)) ?_
      refine Calls.mono (right1_any q1 q2 q3 q4 _) ?_
      rintro e w2 ⟨rfl, hb⟩
      rw [hv]
      refine ⟨_, rfl, ?_⟩
      simp only [Act.put, List.getElem_toArray, List.getElem_cons_zero, List.getElem_cons_succ, List.setIfInBounds_toArray, List.set_cons_zero, List.set_cons_succ]
      have HB2 := Lib.hid (HB1.out.drew.trans (hb.mono HB1.out.size))
      clear hb
      refine TillZ.any_value (i := 5) (v := .bool false) (by kernel_rfl) rfl rfl (by go_simp) ?_
      simp only [Act.put, List.getElem_toArray, List.getElem_cons_zero, List.getElem_cons_succ, List.setIfInBounds_toArray, List.set_cons_zero, List.set_cons_succ]
      refine TillZ.any_value (i := 6) (v := .bool false) (by kernel_rfl) rfl rfl (by go_simp) ?_
      simp only [Act.put, List.getElem_toArray, List.getElem_cons_zero, List.getElem_cons_succ, List.setIfInBounds_toArray, List.set_cons_zero, List.set_cons_succ]
      refine TillZ.still (m := 7) rfl (by kernel_rfl) (by kernel_rfl) ?_
      dsimp only [List.drop]
      iterate 4 (with_reducible refine TillZ.no (by kernel_rfl) ?_; simp only [Act.put, List.getElem_toArray, List.getElem_cons_zero, List.getElem_cons_succ, List.setIfInBounds_toArray, List.set_cons_zero, List.set_cons_succ])
      iterate 2 (with_reducible refine TillZ.step (by kernel_rfl) (fun K hK => ?_); go_simp; refine hK _ ?_; clear hK K)
      with_reducible refine wpStill_nil ?_
      go_wp2_with fail
      go_ret
      exact ⟨ret_bool HF.out, HB2.out⟩
    · have HF : Hid (ze = deedB 1 q1 q2 q3 q4 q5 q6 q7 q8 q9) := Lib.hid (by rw [HX.out, hv]; rfl)
      clear HX
      go_region_with (first | (go_at_call 211; refine Calls.mono (right1_any q1 q2 q3 q4 _) ?_; rintro e w2 ⟨rfl, hb⟩; rw [hv]; have HB2 := Lib.hid (HB1.out.drew.trans (hb.mono HB1.out.size)); have HA2 := Lib.hid (HA1.out.drew.below hb); clear hb; have x0 := HA2.out.cell 0 _ rfl; have x1 := HA2.out.cell 1 _ rfl; have x2 := HA2.out.cell 2 _ rfl; have x3 := HA2.out.cell 3 _ rfl; have x4 := HA2.out.cell 4 _ rfl; have x5 := HA2.out.cell 5 _ rfl; have x6 := HA2.out.cell 6 _ rfl; have x7 := HA2.out.cell 7 _ rfl; have x8 := HA2.out.cell 8 _ rfl; have x9 := HA2.out.cell 9 _ rfl) | (go_at_call 212; refine Calls.mono (whole1_any q1 q2 q3 q4 _) ?_; rintro e w3 ⟨rfl, hb⟩; have HB3 := Lib.hid (HB2.out.trans (hb.mono HB2.out.size)); have HA3 := Lib.hid (HA2.out.below hb); clear hb x0 x1 x2 x3 x4 x5 x6 x7 x8 x9; have y0 := HA3.out.cell 0 _ rfl; have y1 := HA3.out.cell 1 _ rfl; have y2 := HA3.out.cell 2 _ rfl; have y3 := HA3.out.cell 3 _ rfl; have y4 := HA3.out.cell 4 _ rfl; have y5 := HA3.out.cell 5 _ rfl; have y6 := HA3.out.cell 6 _ rfl; have y7 := HA3.out.cell 7 _ rfl; have y8 := HA3.out.cell 8 _ rfl; have y9 := HA3.out.cell 9 _ rfl))
      all_goals
        go_wp2_with fail
        go_ret
        exact ⟨ret_bool HF.out, HB3.out⟩
  · skip
    by_cases k2 : q0 = 2
    · subst k2
      have HX : Hid (deedB 2 q1 q2 q3 q4 q5 q6 q7 q8 q9 = (termB q5 q6 && (decide (q1 = 0 ∧ q2 = 0 ∧ q3 = 0 ∧ q4 = 0) && decide (q7 = ⟨#[]⟩ ∧ q8 = 0 ∧ q9 = ⟨#[]⟩)))) := Lib.hid (by unfold deedB; simp [Bool.and_assoc, Bool.and_comm, Bool.and_left_comm])
      have hn := nil_right2 q5 q6
      have hm := met_right2 q5 q6
      have hn2 := nil_whole2 q5 q6
      have hm2 := met_whole2 q5 q6
      go_enter Tryz.func113, Tryz.ntmps113
      go_wp2_with fail
      rw [← hW]
      clear hW
      refine (deedOf2_any 2 q1 q2 q3 q4 q5 q6 q7 q8 q9 rfl _).mono ?_
      rintro e w1 ⟨rfl, hb⟩
      have HB1 := Lib.hid (HB0.out.trans (hb.mono HB0.out.size))
      have HA1 := Lib.hid (HA.out.below hb)
      clear hb
      go_wp2_with fail
      have he := eql_deed2 q1 q2 q3 q4 q5 q6 q7 q8 q9
      generalize (decide (q1 = 0 ∧ q2 = 0 ∧ q3 = 0 ∧ q4 = 0) && decide (q7 = ⟨#[]⟩ ∧ q8 = 0 ∧ q9 = ⟨#[]⟩)) = ze at *
      cases hv : termB q5 q6
      · have HF : Hid (false = deedB 2 q1 q2 q3 q4 q5 q6 q7 q8 q9) := Lib.hid (by rw [HX.out, hv]; rfl)
        clear HX
        refine TillZ.region (t := 2) hmx (fun _ => True) ?_
        refine TillZ.value (i := 0) (v := .iface 229 (.agg #[.int .i64 q5, .string q6])) (by kernel_rfl) rfl rfl rfl (by go_simp) trivial ?_
        simp only [Act.put, List.getElem_toArray, List.getElem_cons_zero, List.getElem_cons_succ, List.setIfInBounds_toArray, List.set_cons_zero, List.set_cons_succ]
        refine TillZ.value (i := 1) (v := .bool true) (by kernel_rfl) rfl rfl rfl (by go_simp) trivial ?_
        simp only [Act.put, List.getElem_toArray, List.getElem_cons_zero, List.getElem_cons_succ, List.setIfInBounds_toArray, List.set_cons_zero, List.set_cons_succ]
        refine TillZ.hand (v := .bool true) (by kernel_rfl) rfl rfl (by go_simp) ?_
        simp only [Act.put, List.getElem_toArray, List.getElem_cons_zero, List.getElem_cons_succ, List.setIfInBounds_toArray, List.set_cons_zero, List.set_cons_succ]
        refine TillZ.any_valueg (i := 3) (w' := w1.drew) (v := .iface 229 (.agg #[.int .i64 q5, .string q6])) (by kernel_rfl) rfl (by kernel_rfl) (by go_simp) ?_
        simp only [Act.put, List.getElem_toArray, List.getElem_cons_zero, List.getElem_cons_succ, List.setIfInBounds_toArray, List.set_cons_zero, List.set_cons_succ]
        refine TillZ.any_callg (i := 4) (f := 227) (args := #[.agg #[.int .i64 q5, .string q6]]) (by kernel_rfl) rfl (by kernel_rfl) (by first | (go_simp; done) | (go_simp; rw [hm]; go_simp; done) | (go_simp; rw [hm]; rfl)) ?_
        refine Calls.mono (right2_any q5 q6 _ H6.out) ?_
        rintro e w2 ⟨rfl, hb⟩
        rw [hv]
        refine ⟨_, rfl, ?_⟩
        simp only [Act.put, List.getElem_toArray, List.getElem_cons_zero, List.getElem_cons_succ, List.setIfInBounds_toArray, List.set_cons_zero, List.set_cons_succ]
        have HB2 := Lib.hid (HB1.out.drew.trans (hb.mono HB1.out.size))
        clear hb
        refine TillZ.any_value (i := 5) (v := .bool false) (by kernel_rfl) rfl rfl (by go_simp) ?_
        simp only [Act.put, List.getElem_toArray, List.getElem_cons_zero, List.getElem_cons_succ, List.setIfInBounds_toArray, List.set_cons_zero, List.set_cons_succ]
        refine TillZ.any_value (i := 6) (v := .bool false) (by kernel_rfl) rfl rfl (by go_simp) ?_
        simp only [Act.put, List.getElem_toArray, List.getElem_cons_zero, List.getElem_cons_succ, List.setIfInBounds_toArray, List.set_cons_zero, List.set_cons_succ]
        refine TillZ.still (m := 7) rfl (by kernel_rfl) (by kernel_rfl) ?_
        dsimp only [List.drop]
        iterate 4 (with_reducible refine TillZ.no (by kernel_rfl) ?_; simp only [Act.put, List.getElem_toArray, List.getElem_cons_zero, List.getElem_cons_succ, List.setIfInBounds_toArray, List.set_cons_zero, List.set_cons_succ])
        iterate 2 (with_reducible refine TillZ.step (by kernel_rfl) (fun K hK => ?_); go_simp; refine hK _ ?_; clear hK K)
        with_reducible refine wpStill_nil ?_
        go_wp2_with fail
        go_ret
        exact ⟨ret_bool HF.out, HB2.out⟩
      · have HF : Hid (ze = deedB 2 q1 q2 q3 q4 q5 q6 q7 q8 q9) := Lib.hid (by rw [HX.out, hv]; rfl)
        clear HX
        go_region_with (first | (go_at_call 227; refine Calls.mono (right2_any q5 q6 _ H6.out) ?_; rintro e w2 ⟨rfl, hb⟩; rw [hv]; have HB2 := Lib.hid (HB1.out.drew.trans (hb.mono HB1.out.size)); have HA2 := Lib.hid (HA1.out.drew.below hb); clear hb; have x0 := HA2.out.cell 0 _ rfl; have x1 := HA2.out.cell 1 _ rfl; have x2 := HA2.out.cell 2 _ rfl; have x3 := HA2.out.cell 3 _ rfl; have x4 := HA2.out.cell 4 _ rfl; have x5 := HA2.out.cell 5 _ rfl; have x6 := HA2.out.cell 6 _ rfl; have x7 := HA2.out.cell 7 _ rfl; have x8 := HA2.out.cell 8 _ rfl; have x9 := HA2.out.cell 9 _ rfl) | (go_at_call 228; refine Calls.mono (whole2_any q5 q6 _) ?_; rintro e w3 ⟨rfl, hb⟩; have HB3 := Lib.hid (HB2.out.trans (hb.mono HB2.out.size)); have HA3 := Lib.hid (HA2.out.below hb); clear hb x0 x1 x2 x3 x4 x5 x6 x7 x8 x9; have y0 := HA3.out.cell 0 _ rfl; have y1 := HA3.out.cell 1 _ rfl; have y2 := HA3.out.cell 2 _ rfl; have y3 := HA3.out.cell 3 _ rfl; have y4 := HA3.out.cell 4 _ rfl; have y5 := HA3.out.cell 5 _ rfl; have y6 := HA3.out.cell 6 _ rfl; have y7 := HA3.out.cell 7 _ rfl; have y8 := HA3.out.cell 8 _ rfl; have y9 := HA3.out.cell 9 _ rfl))
        all_goals
          go_wp2_with fail
          go_ret
          exact ⟨ret_bool HF.out, HB3.out⟩
    · skip
      by_cases k3 : q0 = 3
      · subst k3
        have HX : Hid (deedB 3 q1 q2 q3 q4 q5 q6 q7 q8 q9 = (itemB q7 q8 q9 && (decide (q1 = 0 ∧ q2 = 0 ∧ q3 = 0 ∧ q4 = 0) && decide (q5 = 0 ∧ q6 = ⟨#[]⟩)))) := Lib.hid (by unfold deedB; simp [Bool.and_assoc, Bool.and_comm, Bool.and_left_comm])
        have hn := nil_right3 q7 q8 q9
        have hm := met_right3 q7 q8 q9
        have hn2 := nil_whole3 q7 q8 q9
        have hm2 := met_whole3 q7 q8 q9
        go_enter Tryz.func113, Tryz.ntmps113
        go_wp2_with fail
        rw [← hW]
        clear hW
        refine (deedOf3_any 3 q1 q2 q3 q4 q5 q6 q7 q8 q9 rfl _).mono ?_
        rintro e w1 ⟨rfl, hb⟩
        have HB1 := Lib.hid (HB0.out.trans (hb.mono HB0.out.size))
        have HA1 := Lib.hid (HA.out.below hb)
        clear hb
        go_wp2_with fail
        have he := eql_deed3 q1 q2 q3 q4 q5 q6 q7 q8 q9
        generalize (decide (q1 = 0 ∧ q2 = 0 ∧ q3 = 0 ∧ q4 = 0) && decide (q5 = 0 ∧ q6 = ⟨#[]⟩)) = ze at *
        cases hv : itemB q7 q8 q9
        · have HF : Hid (false = deedB 3 q1 q2 q3 q4 q5 q6 q7 q8 q9) := Lib.hid (by rw [HX.out, hv]; rfl)
          clear HX
          refine TillZ.region (t := 2) hmx (fun _ => True) ?_
          refine TillZ.value (i := 0) (v := .iface 230 (.agg #[.string q7, .int .i64 q8, .string q9])) (by kernel_rfl) rfl rfl rfl (by go_simp) trivial ?_
          simp only [Act.put, List.getElem_toArray, List.getElem_cons_zero, List.getElem_cons_succ, List.setIfInBounds_toArray, List.set_cons_zero, List.set_cons_succ]
          refine TillZ.value (i := 1) (v := .bool true) (by kernel_rfl) rfl rfl rfl (by go_simp) trivial ?_
          simp only [Act.put, List.getElem_toArray, List.getElem_cons_zero, List.getElem_cons_succ, List.setIfInBounds_toArray, List.set_cons_zero, List.set_cons_succ]
          refine TillZ.hand (v := .bool true) (by kernel_rfl) rfl rfl (by go_simp) ?_
          simp only [Act.put, List.getElem_toArray, List.getElem_cons_zero, List.getElem_cons_succ, List.setIfInBounds_toArray, List.set_cons_zero, List.set_cons_succ]
          refine TillZ.any_valueg (i := 3) (w' := w1.drew) (v := .iface 230 (.agg #[.string q7, .int .i64 q8, .string q9])) (by kernel_rfl) rfl (by kernel_rfl) (by go_simp) ?_
          simp only [Act.put, List.getElem_toArray, List.getElem_cons_zero, List.getElem_cons_succ, List.setIfInBounds_toArray, List.set_cons_zero, List.set_cons_succ]
          refine TillZ.any_callg (i := 4) (f := 232) (args := #[.agg #[.string q7, .int .i64 q8, .string q9]]) (by kernel_rfl) rfl (by kernel_rfl) (by first | (go_simp; done) | (go_simp; rw [hm]; go_simp; done) | (go_simp; rw [hm]; rfl)) ?_
          refine Calls.mono (right3_any q7 q8 q9 _ H7.out H9.out) ?_
          rintro e w2 ⟨rfl, hb⟩
          rw [hv]
          refine ⟨_, rfl, ?_⟩
          simp only [Act.put, List.getElem_toArray, List.getElem_cons_zero, List.getElem_cons_succ, List.setIfInBounds_toArray, List.set_cons_zero, List.set_cons_succ]
          have HB2 := Lib.hid (HB1.out.drew.trans (hb.mono HB1.out.size))
          clear hb
          refine TillZ.any_value (i := 5) (v := .bool false) (by kernel_rfl) rfl rfl (by go_simp) ?_
          simp only [Act.put, List.getElem_toArray, List.getElem_cons_zero, List.getElem_cons_succ, List.setIfInBounds_toArray, List.set_cons_zero, List.set_cons_succ]
          refine TillZ.any_value (i := 6) (v := .bool false) (by kernel_rfl) rfl rfl (by go_simp) ?_
          simp only [Act.put, List.getElem_toArray, List.getElem_cons_zero, List.getElem_cons_succ, List.setIfInBounds_toArray, List.set_cons_zero, List.set_cons_succ]
          refine TillZ.still (m := 7) rfl (by kernel_rfl) (by kernel_rfl) ?_
          dsimp only [List.drop]
          iterate 4 (with_reducible refine TillZ.no (by kernel_rfl) ?_; simp only [Act.put, List.getElem_toArray, List.getElem_cons_zero, List.getElem_cons_succ, List.setIfInBounds_toArray, List.set_cons_zero, List.set_cons_succ])
          iterate 2 (with_reducible refine TillZ.step (by kernel_rfl) (fun K hK => ?_); go_simp; refine hK _ ?_; clear hK K)
          with_reducible refine wpStill_nil ?_
          go_wp2_with fail
          go_ret
          exact ⟨ret_bool HF.out, HB2.out⟩
        · have HF : Hid (ze = deedB 3 q1 q2 q3 q4 q5 q6 q7 q8 q9) := Lib.hid (by rw [HX.out, hv]; rfl)
          clear HX
          go_region_with (first | (go_at_call 232; refine Calls.mono (right3_any q7 q8 q9 _ H7.out H9.out) ?_; rintro e w2 ⟨rfl, hb⟩; rw [hv]; have HB2 := Lib.hid (HB1.out.drew.trans (hb.mono HB1.out.size)); have HA2 := Lib.hid (HA1.out.drew.below hb); clear hb; have x0 := HA2.out.cell 0 _ rfl; have x1 := HA2.out.cell 1 _ rfl; have x2 := HA2.out.cell 2 _ rfl; have x3 := HA2.out.cell 3 _ rfl; have x4 := HA2.out.cell 4 _ rfl; have x5 := HA2.out.cell 5 _ rfl; have x6 := HA2.out.cell 6 _ rfl; have x7 := HA2.out.cell 7 _ rfl; have x8 := HA2.out.cell 8 _ rfl; have x9 := HA2.out.cell 9 _ rfl) | (go_at_call 233; refine Calls.mono (whole3_any q7 q8 q9 _) ?_; rintro e w3 ⟨rfl, hb⟩; have HB3 := Lib.hid (HB2.out.trans (hb.mono HB2.out.size)); have HA3 := Lib.hid (HA2.out.below hb); clear hb x0 x1 x2 x3 x4 x5 x6 x7 x8 x9; have y0 := HA3.out.cell 0 _ rfl; have y1 := HA3.out.cell 1 _ rfl; have y2 := HA3.out.cell 2 _ rfl; have y3 := HA3.out.cell 3 _ rfl; have y4 := HA3.out.cell 4 _ rfl; have y5 := HA3.out.cell 5 _ rfl; have y6 := HA3.out.cell 6 _ rfl; have y7 := HA3.out.cell 7 _ rfl; have y8 := HA3.out.cell 8 _ rfl; have y9 := HA3.out.cell 9 _ rfl))
          all_goals
            go_wp2_with fail
            go_ret
            exact ⟨ret_bool HF.out, HB3.out⟩
      · skip
        by_cases k4 : q0 = 4
        · subst k4
          have HX : Hid (deedB 4 q1 q2 q3 q4 q5 q6 q7 q8 q9 = (wordB q7 && (decide (q1 = 0 ∧ q2 = 0 ∧ q3 = 0 ∧ q4 = 0) && decide (q5 = 0 ∧ q6 = ⟨#[]⟩) && decide (q8 = 0 ∧ q9 = ⟨#[]⟩)))) := Lib.hid (by unfold deedB; simp [Bool.and_assoc, Bool.and_comm, Bool.and_left_comm])
          have hn := nil_right4 q7
          have hm := met_right4 q7
          have hn2 := nil_whole4 q7
          have hm2 := met_whole4 q7
          go_enter Tryz.func113, Tryz.ntmps113
          go_wp2_with fail
          rw [← hW]
          clear hW
          refine (deedOf4_any 4 q1 q2 q3 q4 q5 q6 q7 q8 q9 rfl _).mono ?_
          rintro e w1 ⟨rfl, hb⟩
          have HB1 := Lib.hid (HB0.out.trans (hb.mono HB0.out.size))
          have HA1 := Lib.hid (HA.out.below hb)
          clear hb
          go_wp2_with fail
          have he := eql_deed4 q1 q2 q3 q4 q5 q6 q7 q8 q9
          generalize (decide (q1 = 0 ∧ q2 = 0 ∧ q3 = 0 ∧ q4 = 0) && decide (q5 = 0 ∧ q6 = ⟨#[]⟩) && decide (q8 = 0 ∧ q9 = ⟨#[]⟩)) = ze at *
          cases hv : wordB q7
          · have HF : Hid (false = deedB 4 q1 q2 q3 q4 q5 q6 q7 q8 q9) := Lib.hid (by rw [HX.out, hv]; rfl)
            clear HX
            refine TillZ.region (t := 2) hmx (fun _ => True) ?_
            refine TillZ.value (i := 0) (v := .iface 231 (.string q7)) (by kernel_rfl) rfl rfl rfl (by go_simp) trivial ?_
            simp only [Act.put, List.getElem_toArray, List.getElem_cons_zero, List.getElem_cons_succ, List.setIfInBounds_toArray, List.set_cons_zero, List.set_cons_succ]
            refine TillZ.value (i := 1) (v := .bool true) (by kernel_rfl) rfl rfl rfl (by go_simp) trivial ?_
            simp only [Act.put, List.getElem_toArray, List.getElem_cons_zero, List.getElem_cons_succ, List.setIfInBounds_toArray, List.set_cons_zero, List.set_cons_succ]
            refine TillZ.hand (v := .bool true) (by kernel_rfl) rfl rfl (by go_simp) ?_
            simp only [Act.put, List.getElem_toArray, List.getElem_cons_zero, List.getElem_cons_succ, List.setIfInBounds_toArray, List.set_cons_zero, List.set_cons_succ]
            refine TillZ.any_valueg (i := 3) (w' := w1.drew) (v := .iface 231 (.string q7)) (by kernel_rfl) rfl (by kernel_rfl) (by go_simp) ?_
            simp only [Act.put, List.getElem_toArray, List.getElem_cons_zero, List.getElem_cons_succ, List.setIfInBounds_toArray, List.set_cons_zero, List.set_cons_succ]
            refine TillZ.any_callg (i := 4) (f := 239) (args := #[.string q7]) (by kernel_rfl) rfl (by kernel_rfl) (by first | (go_simp; done) | (go_simp; rw [hm]; go_simp; done) | (go_simp; rw [hm]; rfl)) ?_
            refine Calls.mono (right4_any q7 _ H7.out) ?_
            rintro e w2 ⟨rfl, hb⟩
            rw [hv]
            refine ⟨_, rfl, ?_⟩
            simp only [Act.put, List.getElem_toArray, List.getElem_cons_zero, List.getElem_cons_succ, List.setIfInBounds_toArray, List.set_cons_zero, List.set_cons_succ]
            have HB2 := Lib.hid (HB1.out.drew.trans (hb.mono HB1.out.size))
            clear hb
            refine TillZ.any_value (i := 5) (v := .bool false) (by kernel_rfl) rfl rfl (by go_simp) ?_
            simp only [Act.put, List.getElem_toArray, List.getElem_cons_zero, List.getElem_cons_succ, List.setIfInBounds_toArray, List.set_cons_zero, List.set_cons_succ]
            refine TillZ.any_value (i := 6) (v := .bool false) (by kernel_rfl) rfl rfl (by go_simp) ?_
            simp only [Act.put, List.getElem_toArray, List.getElem_cons_zero, List.getElem_cons_succ, List.setIfInBounds_toArray, List.set_cons_zero, List.set_cons_succ]
            refine TillZ.still (m := 7) rfl (by kernel_rfl) (by kernel_rfl) ?_
            dsimp only [List.drop]
            iterate 4 (with_reducible refine TillZ.no (by kernel_rfl) ?_; simp only [Act.put, List.getElem_toArray, List.getElem_cons_zero, List.getElem_cons_succ, List.setIfInBounds_toArray, List.set_cons_zero, List.set_cons_succ])
            iterate 2 (with_reducible refine TillZ.step (by kernel_rfl) (fun K hK => ?_); go_simp; refine hK _ ?_; clear hK K)
            with_reducible refine wpStill_nil ?_
            go_wp2_with fail
            go_ret
            exact ⟨ret_bool HF.out, HB2.out⟩
          · have HF : Hid (ze = deedB 4 q1 q2 q3 q4 q5 q6 q7 q8 q9) := Lib.hid (by rw [HX.out, hv]; rfl)
            clear HX
            go_region_with (first | (go_at_call 239; refine Calls.mono (right4_any q7 _ H7.out) ?_; rintro e w2 ⟨rfl, hb⟩; rw [hv]; have HB2 := Lib.hid (HB1.out.drew.trans (hb.mono HB1.out.size)); have HA2 := Lib.hid (HA1.out.drew.below hb); clear hb; have x0 := HA2.out.cell 0 _ rfl; have x1 := HA2.out.cell 1 _ rfl; have x2 := HA2.out.cell 2 _ rfl; have x3 := HA2.out.cell 3 _ rfl; have x4 := HA2.out.cell 4 _ rfl; have x5 := HA2.out.cell 5 _ rfl; have x6 := HA2.out.cell 6 _ rfl; have x7 := HA2.out.cell 7 _ rfl; have x8 := HA2.out.cell 8 _ rfl; have x9 := HA2.out.cell 9 _ rfl) | (go_at_call 240; refine Calls.mono (whole4_any q7 _) ?_; rintro e w3 ⟨rfl, hb⟩; have HB3 := Lib.hid (HB2.out.trans (hb.mono HB2.out.size)); have HA3 := Lib.hid (HA2.out.below hb); clear hb x0 x1 x2 x3 x4 x5 x6 x7 x8 x9; have y0 := HA3.out.cell 0 _ rfl; have y1 := HA3.out.cell 1 _ rfl; have y2 := HA3.out.cell 2 _ rfl; have y3 := HA3.out.cell 3 _ rfl; have y4 := HA3.out.cell 4 _ rfl; have y5 := HA3.out.cell 5 _ rfl; have y6 := HA3.out.cell 6 _ rfl; have y7 := HA3.out.cell 7 _ rfl; have y8 := HA3.out.cell 8 _ rfl; have y9 := HA3.out.cell 9 _ rfl))
            all_goals
              go_wp2_with fail
              go_ret
              exact ⟨ret_bool HF.out, HB3.out⟩
        · skip
          have HF : Hid (false = deedB q0 q1 q2 q3 q4 q5 q6 q7 q8 q9) := Lib.hid (by unfold deedB; rw [if_neg k1, if_neg k2, if_neg k3, if_neg k4])
          go_enter Tryz.func113, Tryz.ntmps113
          go_wp2_with fail
          rw [← hW]
          clear hW
          refine (deedOf0_any q0 q1 q2 q3 q4 q5 q6 q7 q8 q9 k1 k2 k3 k4 _).mono ?_
          rintro e w1 ⟨rfl, hb⟩
          have HB1 := Lib.hid (HB0.out.trans (hb.mono HB0.out.size))
          clear hb
          go_wp2_with fail
          go_region
          all_goals
            go_wp2_with fail
            go_ret
            exact ⟨ret_bool HF.out, HB1.out.drew⟩
end Go.Proofs.YtidcpdfhnhfelaaGreatDoor

