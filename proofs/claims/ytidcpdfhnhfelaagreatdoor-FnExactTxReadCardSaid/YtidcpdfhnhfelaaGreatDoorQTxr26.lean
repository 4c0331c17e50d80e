/- Texts put together: what the law uses of them. -/
import Derived.Test.YtidcpdfhnhfelaaGreatDoorQTxr25
import Derived.Test.YtidcpdfhnhfelaaGreatDoorQTxr00
/- What the model's BookRight and DeedRight answer. -/
namespace Go.Proofs.YtidcpdfhnhfelaaGreatDoor
open Go.RowKit Go.PlainAid G
set_option linter.unusedVariables false
theorem toList_iff (a b : ByteArray) : a.toList = b.toList ↔ a = b := by
  rw [Lib.toList_data, Lib.toList_data]
  exact ⟨fun h => ByteArray.ext (Array.toList_inj.1 h), fun h => by rw [h]⟩
theorem toList_ne {a : ByteArray} (h : ¬ a = ⟨#[]⟩) : ¬ a.toList = [] := fun h2 => h ((toList_iff a ⟨#[]⟩).1 (by rw [h2]; simp))
theorem eql_conf (g n m c : Int) (W : World) : (binOp .eql 28 (.agg #[.int .i64 g, .int .i64 n, .int .i64 m, .int .i64 c]) (.agg #[.int .i64 0, .int .i64 0, .int .i64 0, .int .i64 0])).run Tryz.prog W = .ok (.bool (decide (g = 0 ∧ n = 0 ∧ m = 0 ∧ c = 0))) W := by
  by_cases h1 : g = 0 <;> by_cases h2 : n = 0 <;> by_cases h3 : m = 0 <;> by_cases h4 : c = 0 <;> simp [go_sem, h1, h2, h3, h4]
theorem eql_term (no : Int) (lk : ByteArray) (W : World) : (binOp .eql 106 (.agg #[.int .i64 no, .string lk]) (.agg #[.int .i64 0, .string ⟨#[]⟩])).run Tryz.prog W = .ok (.bool (decide (no = 0 ∧ lk = ⟨#[]⟩))) W := by
  by_cases h2 : lk = ⟨#[]⟩
  · subst h2
    by_cases h1 : no = 0 <;> simp [go_sem, h1]
  · have h3 := toList_ne h2
    by_cases h1 : no = 0 <;> simp [go_sem, h1, h2, h3]
theorem eql_item (nm : ByteArray) (tm : Int) (bd nm2 : ByteArray) (W : World) : (binOp .eql 108 (.agg #[.string nm, .int .i64 tm, .string bd]) (.agg #[.string nm2, .int .i64 0, .string ⟨#[]⟩])).run Tryz.prog W = .ok (.bool (decide (nm = nm2 ∧ tm = 0 ∧ bd = ⟨#[]⟩))) W := by
  by_cases h3 : bd = ⟨#[]⟩
  · subst h3
    by_cases h1 : nm = nm2
    · subst h1
      by_cases h2 : tm = 0 <;> simp [go_sem, h2]
    · have h4 : ¬ nm.toList = nm2.toList := fun h => h1 ((toList_iff _ _).1 h)
      by_cases h2 : tm = 0 <;> simp [go_sem, h1, h2, h4]
  · have h5 := toList_ne h3
    by_cases h1 : nm = nm2
    · subst h1
      by_cases h2 : tm = 0 <;> simp [go_sem, h2, h3, h5]
    · have h4 : ¬ nm.toList = nm2.toList := fun h => h1 ((toList_iff _ _).1 h)
      by_cases h2 : tm = 0 <;> simp [go_sem, h1, h2, h3, h4, h5]
def deedB (q0 q1 q2 q3 q4 q5 : Int) (q6 q7 : ByteArray) (q8 : Int) (q9 : ByteArray) : Bool :=
  if q0 = 1 then confB q1 q2 q3 q4 && decide (q5 = 0 ∧ q6 = ⟨#[]⟩) && decide (q7 = ⟨#[]⟩ ∧ q8 = 0 ∧ q9 = ⟨#[]⟩)
  else if q0 = 2 then decide (q1 = 0 ∧ q2 = 0 ∧ q3 = 0 ∧ q4 = 0) && termB q5 q6 && decide (q7 = ⟨#[]⟩ ∧ q8 = 0 ∧ q9 = ⟨#[]⟩)
  else if q0 = 3 then decide (q1 = 0 ∧ q2 = 0 ∧ q3 = 0 ∧ q4 = 0) && decide (q5 = 0 ∧ q6 = ⟨#[]⟩) && itemB q7 q8 q9
  else if q0 = 4 then decide (q1 = 0 ∧ q2 = 0 ∧ q3 = 0 ∧ q4 = 0) && decide (q5 = 0 ∧ q6 = ⟨#[]⟩) && decide (q7 = q7 ∧ q8 = 0 ∧ q9 = ⟨#[]⟩) && wordB q7
  else false
def deedOf (d : Dd) : Bool := deedB d.kd d.gn d.nd d.mn d.ck d.no d.lk d.nm d.tm d.bd
set_option maxRecDepth 100000 in
set_option maxHeartbeats 3200000 in
theorem specDeedRight_any (q0 q1 q2 q3 q4 q5 : Int) (q6 q7 : ByteArray) (q8 : Int) (q9 : ByteArray) (w : World) (h6 : q6.size ≤ maxLen) (h7 : q7.size ≤ maxLen) (h9 : q9.size ≤ maxLen) :
    Calls Tryz.prog 66 #[.agg #[.int .i64 q0, .int .i64 q1, .int .i64 q2, .int .i64 q3, .int .i64 q4, .int .i64 q5, .string q6, .string q7, .int .i64 q8, .string q9]] w fun e w' => e = .returned (.bool (deedB q0 q1 q2 q3 q4 q5 q6 q7 q8 q9)) ∧ Below w.heap.size w w' := by
  have HB : Hid (Below w.heap.size w (w.alloc (.cells #[.int .i64 q0, .int .i64 q1, .int .i64 q2, .int .i64 q3, .int .i64 q4, .int .i64 q5, .string q6, .string q7, .int .i64 q8, .string q9] 110))) := Lib.hid ((Below.refl _ _).alloc (Nat.le_refl _) _)
  have H6 := Lib.hid h6
  have H7 := Lib.hid h7
  have H9 := Lib.hid h9
  clear h6 h7 h9
  have HE1 := eql_conf q1 q2 q3 q4
  have HE2 := eql_term q5 q6
  have HE3 := eql_item q7 q8 q9 ⟨#[]⟩
  have HE4 := eql_item q7 q8 q9 q7
  have HD1 : Hid (q0 = 1 → deedB q0 q1 q2 q3 q4 q5 q6 q7 q8 q9 = (confB q1 q2 q3 q4 && decide (q5 = 0 ∧ q6 = ⟨#[]⟩) && decide (q7 = ⟨#[]⟩ ∧ q8 = 0 ∧ q9 = ⟨#[]⟩))) := Lib.hid (fun h => by unfold deedB; rw [if_pos h])
  have HD2 : Hid (q0 = 2 → deedB q0 q1 q2 q3 q4 q5 q6 q7 q8 q9 = (decide (q1 = 0 ∧ q2 = 0 ∧ q3 = 0 ∧ q4 = 0) && termB q5 q6 && decide (q7 = ⟨#[]⟩ ∧ q8 = 0 ∧ q9 = ⟨#[]⟩))) := Lib.hid (fun h => by subst h; rfl)
  have HD3 : Hid (q0 = 3 → deedB q0 q1 q2 q3 q4 q5 q6 q7 q8 q9 = (decide (q1 = 0 ∧ q2 = 0 ∧ q3 = 0 ∧ q4 = 0) && decide (q5 = 0 ∧ q6 = ⟨#[]⟩) && itemB q7 q8 q9)) := Lib.hid (fun h => by subst h; rfl)
  have HD4 : Hid (q0 = 4 → deedB q0 q1 q2 q3 q4 q5 q6 q7 q8 q9 = (decide (q1 = 0 ∧ q2 = 0 ∧ q3 = 0 ∧ q4 = 0) && decide (q5 = 0 ∧ q6 = ⟨#[]⟩) && decide (q7 = q7 ∧ q8 = 0 ∧ q9 = ⟨#[]⟩) && wordB q7)) := Lib.hid (fun h => by subst h; rfl)
  have HD5 : Hid (¬ q0 = 1 → ¬ q0 = 2 → ¬ q0 = 3 → ¬ q0 = 4 → deedB q0 q1 q2 q3 q4 q5 q6 q7 q8 q9 = false) := Lib.hid (fun h1 h2 h3 h4 => by unfold deedB; rw [if_neg h1, if_neg h2, if_neg h3, if_neg h4])
  generalize decide (q1 = 0 ∧ q2 = 0 ∧ q3 = 0 ∧ q4 = 0) = cz at *
  generalize decide (q5 = 0 ∧ q6 = ⟨#[]⟩) = tz at *
  generalize decide (q7 = ⟨#[]⟩ ∧ q8 = 0 ∧ q9 = ⟨#[]⟩) = iz at *
  generalize decide (q7 = q7 ∧ q8 = 0 ∧ q9 = ⟨#[]⟩) = jz at *
  generalize deedB q0 q1 q2 q3 q4 q5 q6 q7 q8 q9 = R at *
  by_cases k1 : q0 = 1
  · subst k1
    cases hc : confB q1 q2 q3 q4
    · skip
      have HF : Hid (false = R) := Lib.hid (by rw [HD1.out rfl]; simp only [hc, Bool.false_and, Bool.and_false, Bool.true_and, Bool.and_true])
      clear HD1 HD2 HD3 HD4 HD5
      go_enter Tryz.func66, Tryz.ntmps66
      go_wp2_with fail
      go_region
      go_wp2_with (first | (go_at_call 103; refine (l07Conf_any q1 q2 q3 q4 _).mono ?_; rintro e w1 ⟨rfl, hb⟩; rw [hc]; have HBC := Lib.hid (HB.out.drew.trans (hb.mono HB.out.size)); clear hb))
      go_ret
      exact ⟨ret_bool HF.out, by first | exact HBC.out | exact HB.out.drew⟩
    · skip
      cases tz
      · skip
        have HF : Hid (false = R) := Lib.hid (by rw [HD1.out rfl]; simp only [hc, Bool.false_and, Bool.and_false, Bool.true_and, Bool.and_true])
        clear HD1 HD2 HD3 HD4 HD5
        go_enter Tryz.func66, Tryz.ntmps66
        go_wp2_with fail
        go_region
        go_wp2_with (first | (go_at_call 103; refine (l07Conf_any q1 q2 q3 q4 _).mono ?_; rintro e w1 ⟨rfl, hb⟩; rw [hc]; have HBC := Lib.hid (HB.out.drew.trans (hb.mono HB.out.size)); clear hb))
        go_ret
        exact ⟨ret_bool HF.out, by first | exact HBC.out | exact HB.out.drew⟩
      · skip
        cases iz
        · skip
          have HF : Hid (false = R) := Lib.hid (by rw [HD1.out rfl]; simp only [hc, Bool.false_and, Bool.and_false, Bool.true_and, Bool.and_true])
          clear HD1 HD2 HD3 HD4 HD5
          go_enter Tryz.func66, Tryz.ntmps66
          go_wp2_with fail
          go_region
          go_wp2_with (first | (go_at_call 103; refine (l07Conf_any q1 q2 q3 q4 _).mono ?_; rintro e w1 ⟨rfl, hb⟩; rw [hc]; have HBC := Lib.hid (HB.out.drew.trans (hb.mono HB.out.size)); clear hb))
          go_ret
          exact ⟨ret_bool HF.out, by first | exact HBC.out | exact HB.out.drew⟩
        · skip
          have HF : Hid (true = R) := Lib.hid (by rw [HD1.out rfl]; simp only [hc, Bool.false_and, Bool.and_false, Bool.true_and, Bool.and_true])
          clear HD1 HD2 HD3 HD4 HD5
          go_enter Tryz.func66, Tryz.ntmps66
          go_wp2_with fail
          go_region
          go_wp2_with (first | (go_at_call 103; refine (l07Conf_any q1 q2 q3 q4 _).mono ?_; rintro e w1 ⟨rfl, hb⟩; rw [hc]; have HBC := Lib.hid (HB.out.drew.trans (hb.mono HB.out.size)); clear hb))
          go_ret
          exact ⟨ret_bool HF.out, by first | exact HBC.out | exact HB.out.drew⟩
  · skip
    by_cases k2 : q0 = 2
    · subst k2
      cases cz
      · skip
        have HF : Hid (false = R) := Lib.hid (by rw [HD2.out rfl]; simp only [Bool.false_and, Bool.and_false, Bool.true_and, Bool.and_true])
        clear HD1 HD2 HD3 HD4 HD5
        go_enter Tryz.func66, Tryz.ntmps66
        go_wp2_with fail
        go_region
        go_wp2_with (first | (go_at_call 104; refine (l07Term_any q5 q6 _ H6.out).mono ?_; rintro e w1 ⟨rfl, hb⟩; rw [ht]; have HBC := Lib.hid (HB.out.drew.trans (hb.mono HB.out.size)); clear hb))
        go_ret
        exact ⟨ret_bool HF.out, by first | exact HBC.out | exact HB.out.drew⟩
      · skip
        cases ht : termB q5 q6
        · skip
          have HF : Hid (false = R) := Lib.hid (by rw [HD2.out rfl]; simp only [ht, Bool.false_and, Bool.and_false, Bool.true_and, Bool.and_true])
          clear HD1 HD2 HD3 HD4 HD5
          go_enter Tryz.func66, Tryz.ntmps66
          go_wp2_with fail
          go_region
          go_wp2_with (first | (go_at_call 104; refine (l07Term_any q5 q6 _ H6.out).mono ?_; rintro e w1 ⟨rfl, hb⟩; rw [ht]; have HBC := Lib.hid (HB.out.drew.trans (hb.mono HB.out.size)); clear hb))
          go_ret
          exact ⟨ret_bool HF.out, by first | exact HBC.out | exact HB.out.drew⟩
        · skip
          cases iz
          · skip
            have HF : Hid (false = R) := Lib.hid (by rw [HD2.out rfl]; simp only [ht, Bool.false_and, Bool.and_false, Bool.true_and, Bool.and_true])
            clear HD1 HD2 HD3 HD4 HD5
            go_enter Tryz.func66, Tryz.ntmps66
            go_wp2_with fail
            go_region
            go_wp2_with (first | (go_at_call 104; refine (l07Term_any q5 q6 _ H6.out).mono ?_; rintro e w1 ⟨rfl, hb⟩; rw [ht]; have HBC := Lib.hid (HB.out.drew.trans (hb.mono HB.out.size)); clear hb))
            go_ret
            exact ⟨ret_bool HF.out, by first | exact HBC.out | exact HB.out.drew⟩
          · skip
            have HF : Hid (true = R) := Lib.hid (by rw [HD2.out rfl]; simp only [ht, Bool.false_and, Bool.and_false, Bool.true_and, Bool.and_true])
            clear HD1 HD2 HD3 HD4 HD5
            go_enter Tryz.func66, Tryz.ntmps66
            go_wp2_with fail
            go_region
            go_wp2_with (first | (go_at_call 104; refine (l07Term_any q5 q6 _ H6.out).mono ?_; rintro e w1 ⟨rfl, hb⟩; rw [ht]; have HBC := Lib.hid (HB.out.drew.trans (hb.mono HB.out.size)); clear hb))
            go_ret
            exact ⟨ret_bool HF.out, by first | exact HBC.out | exact HB.out.drew⟩
    · skip
      by_cases k3 : q0 = 3
      · subst k3
        cases cz
        · skip
          have HF : Hid (false = R) := Lib.hid (by rw [HD3.out rfl]; simp only [Bool.false_and, Bool.and_false, Bool.true_and, Bool.and_true])
          clear HD1 HD2 HD3 HD4 HD5
          go_enter Tryz.func66, Tryz.ntmps66
          go_wp2_with fail
          go_region
          go_wp2_with (first | (go_at_call 105; refine (l07Item_any q7 q8 q9 _ H7.out H9.out).mono ?_; rintro e w1 ⟨rfl, hb⟩; rw [hi]; have HBC := Lib.hid (HB.out.drew.trans (hb.mono HB.out.size)); clear hb))
          go_ret
          exact ⟨ret_bool HF.out, by first | exact HBC.out | exact HB.out.drew⟩
        · skip
          cases tz
          · skip
            have HF : Hid (false = R) := Lib.hid (by rw [HD3.out rfl]; simp only [Bool.false_and, Bool.and_false, Bool.true_and, Bool.and_true])
            clear HD1 HD2 HD3 HD4 HD5
            go_enter Tryz.func66, Tryz.ntmps66
            go_wp2_with fail
            go_region
            go_wp2_with (first | (go_at_call 105; refine (l07Item_any q7 q8 q9 _ H7.out H9.out).mono ?_; rintro e w1 ⟨rfl, hb⟩; rw [hi]; have HBC := Lib.hid (HB.out.drew.trans (hb.mono HB.out.size)); clear hb))
            go_ret
            exact ⟨ret_bool HF.out, by first | exact HBC.out | exact HB.out.drew⟩
          · skip
            cases hi : itemB q7 q8 q9
            · skip
              have HF : Hid (false = R) := Lib.hid (by rw [HD3.out rfl]; simp only [hi, Bool.false_and, Bool.and_false, Bool.true_and, Bool.and_true])
              clear HD1 HD2 HD3 HD4 HD5
              go_enter Tryz.func66, Tryz.ntmps66
              go_wp2_with fail
              go_region
              go_wp2_with (first | (go_at_call 105; refine (l07Item_any q7 q8 q9 _ H7.out H9.out).mono ?_; rintro e w1 ⟨rfl, hb⟩; rw [hi]; have HBC := Lib.hid (HB.out.drew.trans (hb.mono HB.out.size)); clear hb))
              go_ret
              exact ⟨ret_bool HF.out, by first | exact HBC.out | exact HB.out.drew⟩
            · skip
              have HF : Hid (true = R) := Lib.hid (by rw [HD3.out rfl]; simp only [hi, Bool.false_and, Bool.and_false, Bool.true_and, Bool.and_true])
              clear HD1 HD2 HD3 HD4 HD5
              go_enter Tryz.func66, Tryz.ntmps66
              go_wp2_with fail
              go_region
              go_wp2_with (first | (go_at_call 105; refine (l07Item_any q7 q8 q9 _ H7.out H9.out).mono ?_; rintro e w1 ⟨rfl, hb⟩; rw [hi]; have HBC := Lib.hid (HB.out.drew.trans (hb.mono HB.out.size)); clear hb))
              go_ret
              exact ⟨ret_bool HF.out, by first | exact HBC.out | exact HB.out.drew⟩
      · skip
        by_cases k4 : q0 = 4
        · subst k4
          cases cz
          · skip
            have HF : Hid (false = R) := Lib.hid (by rw [HD4.out rfl]; simp only [Bool.false_and, Bool.and_false, Bool.true_and, Bool.and_true])
            clear HD1 HD2 HD3 HD4 HD5
            go_enter Tryz.func66, Tryz.ntmps66
            go_wp2_with fail
            go_region
            go_wp2_with (first | (go_at_call 106; refine (specWord_any q7 _ H7.out).mono ?_; rintro e w1 ⟨rfl, rfl⟩; rw [hw]))
            go_ret
            exact ⟨ret_bool HF.out, by first | exact HBC.out | exact HB.out.drew⟩
          · skip
            cases tz
            · skip
              have HF : Hid (false = R) := Lib.hid (by rw [HD4.out rfl]; simp only [Bool.false_and, Bool.and_false, Bool.true_and, Bool.and_true])
              clear HD1 HD2 HD3 HD4 HD5
              go_enter Tryz.func66, Tryz.ntmps66
              go_wp2_with fail
              go_region
              go_wp2_with (first | (go_at_call 106; refine (specWord_any q7 _ H7.out).mono ?_; rintro e w1 ⟨rfl, rfl⟩; rw [hw]))
              go_ret
              exact ⟨ret_bool HF.out, by first | exact HBC.out | exact HB.out.drew⟩
            · skip
              cases jz
              · skip
                have HF : Hid (false = R) := Lib.hid (by rw [HD4.out rfl]; simp only [Bool.false_and, Bool.and_false, Bool.true_and, Bool.and_true])
                clear HD1 HD2 HD3 HD4 HD5
                go_enter Tryz.func66, Tryz.ntmps66
                go_wp2_with fail
                go_region
                go_wp2_with (first | (go_at_call 106; refine (specWord_any q7 _ H7.out).mono ?_; rintro e w1 ⟨rfl, rfl⟩; rw [hw]))
                go_ret
                exact ⟨ret_bool HF.out, by first | exact HBC.out | exact HB.out.drew⟩
              · skip
                cases hw : wordB q7
                · skip
                  have HF : Hid (false = R) := Lib.hid (by rw [HD4.out rfl]; simp only [hw, Bool.false_and, Bool.and_false, Bool.true_and, Bool.and_true])
                  clear HD1 HD2 HD3 HD4 HD5
                  go_enter Tryz.func66, Tryz.ntmps66
                  go_wp2_with fail
                  go_region
                  go_wp2_with (first | (go_at_call 106; refine (specWord_any q7 _ H7.out).mono ?_; rintro e w1 ⟨rfl, rfl⟩; rw [hw]))
                  go_ret
                  exact ⟨ret_bool HF.out, by first | exact HBC.out | exact HB.out.drew⟩
                · skip
                  have HF : Hid (true = R) := Lib.hid (by rw [HD4.out rfl]; simp only [hw, Bool.false_and, Bool.and_false, Bool.true_and, Bool.and_true])
                  clear HD1 HD2 HD3 HD4 HD5
                  go_enter Tryz.func66, Tryz.ntmps66
                  go_wp2_with fail
                  go_region
                  go_wp2_with (first | (go_at_call 106; refine (specWord_any q7 _ H7.out).mono ?_; rintro e w1 ⟨rfl, rfl⟩; rw [hw]))
                  go_ret
                  exact ⟨ret_bool HF.out, by first | exact HBC.out | exact HB.out.drew⟩
        · skip
          have HF := Lib.hid (HD5.out k1 k2 k3 k4).symm
          clear HD1 HD2 HD3 HD4 HD5
          go_enter Tryz.func66, Tryz.ntmps66
          go_wp2_with fail
          go_region
          go_wp2_with fail
          go_ret
          exact ⟨ret_bool HF.out, HB.out.drew⟩
end Go.Proofs.YtidcpdfhnhfelaaGreatDoor

