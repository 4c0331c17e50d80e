/- An op: what the laws' own functions answer of it; what OpRight answers, the model's and the program's. -/
import Derived.Test.YtidcpdfhnhfelaaFnSmall
import Derived.Deep.RegionHeld3
import Derived.PlainAid
import Derived.IntWalk
namespace Go.Proofs.Ytidcpdfhnhfelaa
open Go.RowKit Go.PlainAid G
set_option linter.unusedVariables false
set_option maxRecDepth 100000 in
theorem toOp_any (q0 : Int) (q1 : ByteArray) (q2 : ByteArray) (q3 : Int) (q4 : Int) (q5 : Int) (q6 : ByteArray) (w : World) :
    Calls Try.prog 6 #[.agg #[.int .i64 q0, .string q1, .string q2, .int .i64 q3, .int .i64 q4, .int .i64 q5, .string q6]] w fun e w' => e = .returned (.agg #[.int .i64 q0, .string q1, .string q2, .int .i64 q3, .int .i64 q4, .int .i64 q5, .string q6]) ∧ Below w.heap.size w w' := by
  go_enter Try.func6, Try.ntmps6
  go_wp2_with fail
  exact bodyPost_ret (v := .agg #[.int .i64 q0, .string q1, .string q2, .int .i64 q3, .int .i64 q4, .int .i64 q5, .string q6]) (by simp [results, Try.results6, go_sem]) rfl ⟨rfl, by repeat' (first | exact Below.refl _ _ | refine Below.alloc ?_ (by first | exact Nat.le_refl _ | (simp; done) | (simp; omega)) _ | refine Below.setCell ?_ (by first | exact Nat.le_refl _ | (simp; done) | (simp; omega)) _)⟩
theorem szOp_any (q0 : Int) (q1 : ByteArray) (q2 : ByteArray) (q3 : Int) (q4 : Int) (q5 : Int) (q6 : ByteArray) (left : Int) (w : World) (hq1 : q1.size ≤ maxLen) (hq2 : q2.size ≤ maxLen) (hq6 : q6.size ≤ maxLen) (h0 : 0 ≤ left) (h1 : left ≤ 1048576) :
    Calls Try.prog 4 #[.agg #[.int .i64 q0, .string q1, .string q2, .int .i64 q3, .int .i64 q4, .int .i64 q5, .string q6], .int .i64 left] w fun e w' => ∃ r : Int, e = .returned (.int .i64 r) ∧ (r = -1 ∨ (0 ≤ r ∧ r ≤ left ∧ q1.size ≤ 1048576 ∧ q2.size ≤ 1048576 ∧ q6.size ≤ 1048576)) ∧ Below w.heap.size w w' := by
  unfold maxLen at hq1 hq2 hq6
  have HB : Hid (Below w.heap.size w (w.alloc (.cells #[.int .i64 q0, .string q1, .string q2, .int .i64 q3, .int .i64 q4, .int .i64 q5, .string q6] 23))) := Lib.hid ((Below.refl _ _).alloc (Nat.le_refl _) _)
  have hw0 : IntKind.i64.wrap (left - (q1.size : Int)) = left - (q1.size : Int) := by rw [IntWalk.i64_in _ (by omega)]
  by_cases c0 : left - (q1.size : Int) < 0
  · go_enter Try.func4, Try.ntmps4
    go_wp2_with fail
    go_ret
    exact ⟨-1, rfl, .inl rfl, HB.out⟩
  · skip
    have hw1 : IntKind.i64.wrap (left - (q1.size : Int) - (q2.size : Int)) = left - (q1.size : Int) - (q2.size : Int) := by rw [IntWalk.i64_in _ (by omega)]
    by_cases c1 : left - (q1.size : Int) - (q2.size : Int) < 0
    · go_enter Try.func4, Try.ntmps4
      go_wp2_with fail
      go_ret
      exact ⟨-1, rfl, .inl rfl, HB.out⟩
    · skip
      have hw2 : IntKind.i64.wrap (left - (q1.size : Int) - (q2.size : Int) - (q6.size : Int)) = left - (q1.size : Int) - (q2.size : Int) - (q6.size : Int) := by rw [IntWalk.i64_in _ (by omega)]
      by_cases c2 : left - (q1.size : Int) - (q2.size : Int) - (q6.size : Int) < 0
      · go_enter Try.func4, Try.ntmps4
        go_wp2_with fail
        go_ret
        exact ⟨-1, rfl, .inl rfl, HB.out⟩
      · skip
        go_enter Try.func4, Try.ntmps4
        go_wp2_with fail
        go_ret
        exact ⟨_, rfl, .inr ⟨by omega, by omega, by omega, by omega, by omega⟩, HB.out⟩
/-- Is an op right? -/
def opB (q0 : Int) (q1 q2 : ByteArray) (q3 q4 q5 : Int) (q6 : ByteArray) : Bool :=
  decide ((1 ≤ q0 ∧ q0 ≤ 12) ∧ q1.size ≤ 20 ∧ q2.size ≤ 200 ∧ q6.size ≤ 200 ∧ (0 ≤ q3 ∧ q3 ≤ 1000000) ∧ (0 ≤ q4 ∧ q4 ≤ 1000000) ∧ (0 ≤ q5 ∧ q5 ≤ 1000000))
theorem isTimeO_any (n : Int) (w : World) :
    Calls Try.prog 9 #[.int .i64 n] w fun e w' => e = .returned (.bool (decide (0 ≤ n ∧ n ≤ 1000000))) ∧ w = w' := by
  by_cases h1 : 0 ≤ n
  · by_cases h2 : n ≤ 1000000
    · go_enter Try.func9, Try.ntmps9
      go_wp2_with fail
      go_ret
      exact ⟨ret_bool (by simp [h1, h2]), rfl⟩
    · go_enter Try.func9, Try.ntmps9
      go_wp2_with fail
      go_ret
      exact ⟨ret_bool (by simp [h2]), rfl⟩
  · go_enter Try.func9, Try.ntmps9
    go_wp2_with fail
    go_ret
    exact ⟨ret_bool (by simp; omega), rfl⟩
theorem l02IsO_any (n low high : Int) (w : World) :
    Calls Try.prog 8 #[.int .i64 n, .int .i64 low, .int .i64 high] w fun e w' => e = .returned (.bool (decide (low ≤ n ∧ n ≤ high))) ∧ w = w' := by
  by_cases h1 : low ≤ n
  · by_cases h2 : n ≤ high
    · go_enter Try.func8, Try.ntmps8
      go_wp2_with fail
      go_ret
      exact ⟨ret_bool (by simp [h1, h2]), rfl⟩
    · go_enter Try.func8, Try.ntmps8
      go_wp2_with fail
      go_ret
      exact ⟨ret_bool (by simp [h2]), rfl⟩
  · go_enter Try.func8, Try.ntmps8
    go_wp2_with fail
    go_ret
    exact ⟨ret_bool (by simp; omega), rfl⟩
set_option maxRecDepth 100000 in
set_option maxHeartbeats 1600000 in
theorem implOpRight_any (q0 : Int) (q1 q2 : ByteArray) (q3 q4 q5 : Int) (q6 : ByteArray) (w : World) (h1 : q1.size ≤ maxLen) (h2 : q2.size ≤ maxLen) (h6 : q6.size ≤ maxLen) :
    Calls Try.prog 7 #[.agg #[.int .i64 q0, .string q1, .string q2, .int .i64 q3, .int .i64 q4, .int .i64 q5, .string q6]] w fun e w' => e = .returned (.bool (opB q0 q1 q2 q3 q4 q5 q6)) ∧ Below w.heap.size w w' := by
  unfold maxLen at h1 h2 h6
  have HB : Hid (Below w.heap.size w (w.alloc (.cells #[.int .i64 q0, .string q1, .string q2, .int .i64 q3, .int .i64 q4, .int .i64 q5, .string q6] 26))) := Lib.hid ((Below.refl _ _).alloc (Nat.le_refl _) _)
  by_cases k1 : 1 ≤ q0
  · skip
    by_cases k2 : q0 ≤ 12
    · skip
      by_cases s1 : (q1.size : Int) ≤ 20
      · skip
        by_cases s2 : (q2.size : Int) ≤ 200
        · skip
          by_cases s6 : (q6.size : Int) ≤ 200
          · skip
            cases d3 : decide (0 ≤ q3 ∧ q3 ≤ 1000000)
            · skip
              have HF : Hid (false = opB q0 q1 q2 q3 q4 q5 q6) := Lib.hid (by unfold opB; symm; rw [decide_eq_false_iff_not]; (try simp only [decide_eq_false_iff_not, decide_eq_true_eq] at *); omega)
              go_enter Try.func7, Try.ntmps7
              go_wp2_with (go_at_call 9; refine (isTimeO_any _ _).mono ?_; rintro e w1 ⟨rfl, rfl⟩; first | rw [d3] | rw [d4] | rw [d5])
              go_ret
              exact ⟨ret_bool HF.out, HB.out⟩
            · skip
              cases d4 : decide (0 ≤ q4 ∧ q4 ≤ 1000000)
              · skip
                have HF : Hid (false = opB q0 q1 q2 q3 q4 q5 q6) := Lib.hid (by unfold opB; symm; rw [decide_eq_false_iff_not]; (try simp only [decide_eq_false_iff_not, decide_eq_true_eq] at *); omega)
                go_enter Try.func7, Try.ntmps7
                go_wp2_with (go_at_call 9; refine (isTimeO_any _ _).mono ?_; rintro e w1 ⟨rfl, rfl⟩; first | rw [d3] | rw [d4] | rw [d5])
                go_ret
                exact ⟨ret_bool HF.out, HB.out⟩
              · skip
                cases d5 : decide (0 ≤ q5 ∧ q5 ≤ 1000000)
                · skip
                  have HF : Hid (false = opB q0 q1 q2 q3 q4 q5 q6) := Lib.hid (by unfold opB; symm; rw [decide_eq_false_iff_not]; (try simp only [decide_eq_false_iff_not, decide_eq_true_eq] at *); omega)
                  go_enter Try.func7, Try.ntmps7
                  go_wp2_with (go_at_call 9; refine (isTimeO_any _ _).mono ?_; rintro e w1 ⟨rfl, rfl⟩; first | rw [d3] | rw [d4] | rw [d5])
                  go_ret
                  exact ⟨ret_bool HF.out, HB.out⟩
                · skip
                  have HF : Hid (true = opB q0 q1 q2 q3 q4 q5 q6) := Lib.hid (by unfold opB; symm; rw [decide_eq_true_eq]; (try simp only [decide_eq_true_eq] at *); omega)
                  go_enter Try.func7, Try.ntmps7
                  go_wp2_with (go_at_call 9; refine (isTimeO_any _ _).mono ?_; rintro e w1 ⟨rfl, rfl⟩; first | rw [d3] | rw [d4] | rw [d5])
                  go_ret
                  exact ⟨ret_bool HF.out, HB.out⟩
          · skip
            have HF : Hid (false = opB q0 q1 q2 q3 q4 q5 q6) := Lib.hid (by unfold opB; symm; rw [decide_eq_false_iff_not]; (try simp only [decide_eq_false_iff_not, decide_eq_true_eq] at *); omega)
            go_enter Try.func7, Try.ntmps7
            go_wp2_with (go_at_call 9; refine (isTimeO_any _ _).mono ?_; rintro e w1 ⟨rfl, rfl⟩; first | rw [d3] | rw [d4] | rw [d5])
            go_ret
            exact ⟨ret_bool HF.out, HB.out⟩
        · skip
          have HF : Hid (false = opB q0 q1 q2 q3 q4 q5 q6) := Lib.hid (by unfold opB; symm; rw [decide_eq_false_iff_not]; (try simp only [decide_eq_false_iff_not, decide_eq_true_eq] at *); omega)
          go_enter Try.func7, Try.ntmps7
          go_wp2_with (go_at_call 9; refine (isTimeO_any _ _).mono ?_; rintro e w1 ⟨rfl, rfl⟩; first | rw [d3] | rw [d4] | rw [d5])
          go_ret
          exact ⟨ret_bool HF.out, HB.out⟩
      · skip
        have HF : Hid (false = opB q0 q1 q2 q3 q4 q5 q6) := Lib.hid (by unfold opB; symm; rw [decide_eq_false_iff_not]; (try simp only [decide_eq_false_iff_not, decide_eq_true_eq] at *); omega)
        go_enter Try.func7, Try.ntmps7
        go_wp2_with (go_at_call 9; refine (isTimeO_any _ _).mono ?_; rintro e w1 ⟨rfl, rfl⟩; first | rw [d3] | rw [d4] | rw [d5])
        go_ret
        exact ⟨ret_bool HF.out, HB.out⟩
    · skip
      have HF : Hid (false = opB q0 q1 q2 q3 q4 q5 q6) := Lib.hid (by unfold opB; symm; rw [decide_eq_false_iff_not]; (try simp only [decide_eq_false_iff_not, decide_eq_true_eq] at *); omega)
      go_enter Try.func7, Try.ntmps7
      go_wp2_with (go_at_call 9; refine (isTimeO_any _ _).mono ?_; rintro e w1 ⟨rfl, rfl⟩; first | rw [d3] | rw [d4] | rw [d5])
      go_ret
      exact ⟨ret_bool HF.out, HB.out⟩
  · skip
    have HF : Hid (false = opB q0 q1 q2 q3 q4 q5 q6) := Lib.hid (by unfold opB; symm; rw [decide_eq_false_iff_not]; (try simp only [decide_eq_false_iff_not, decide_eq_true_eq] at *); omega)
    go_enter Try.func7, Try.ntmps7
    go_wp2_with (go_at_call 9; refine (isTimeO_any _ _).mono ?_; rintro e w1 ⟨rfl, rfl⟩; first | rw [d3] | rw [d4] | rw [d5])
    go_ret
    exact ⟨ret_bool HF.out, HB.out⟩
set_option maxRecDepth 100000 in
set_option maxHeartbeats 1600000 in
theorem specOpRight_any (q0 : Int) (q1 q2 : ByteArray) (q3 q4 q5 : Int) (q6 : ByteArray) (w : World) (h1 : q1.size ≤ maxLen) (h2 : q2.size ≤ maxLen) (h6 : q6.size ≤ maxLen) :
    Calls Try.prog 5 #[.agg #[.int .i64 q0, .string q1, .string q2, .int .i64 q3, .int .i64 q4, .int .i64 q5, .string q6]] w fun e w' => e = .returned (.bool (opB q0 q1 q2 q3 q4 q5 q6)) ∧ Below w.heap.size w w' := by
  unfold maxLen at h1 h2 h6
  have HB : Hid (Below w.heap.size w (w.alloc (.cells #[.int .i64 q0, .string q1, .string q2, .int .i64 q3, .int .i64 q4, .int .i64 q5, .string q6] 26))) := Lib.hid ((Below.refl _ _).alloc (Nat.le_refl _) _)
  cases d0 : decide (1 ≤ q0 ∧ q0 ≤ 12)
  · skip
    have HF : Hid (false = opB q0 q1 q2 q3 q4 q5 q6) := Lib.hid (by unfold opB; symm; rw [decide_eq_false_iff_not]; (try simp only [decide_eq_false_iff_not, decide_eq_true_eq] at *); omega)
    go_enter Try.func5, Try.ntmps5
    go_wp2_with (go_at_call 8; refine (l02IsO_any _ _ _ _).mono ?_; rintro e w1 ⟨rfl, rfl⟩; first | rw [d0] | rw [d3] | rw [d4] | rw [d5])
    go_ret
    exact ⟨ret_bool HF.out, HB.out⟩
  · skip
    by_cases s1 : (q1.size : Int) ≤ 20
    · skip
      by_cases s2 : (q2.size : Int) ≤ 200
      · skip
        by_cases s6 : (q6.size : Int) ≤ 200
        · skip
          cases d3 : decide (0 ≤ q3 ∧ q3 ≤ 1000000)
          · skip
            have HF : Hid (false = opB q0 q1 q2 q3 q4 q5 q6) := Lib.hid (by unfold opB; symm; rw [decide_eq_false_iff_not]; (try simp only [decide_eq_false_iff_not, decide_eq_true_eq] at *); omega)
            go_enter Try.func5, Try.ntmps5
            go_wp2_with (go_at_call 8; refine (l02IsO_any _ _ _ _).mono ?_; rintro e w1 ⟨rfl, rfl⟩; first | rw [d0] | rw [d3] | rw [d4] | rw [d5])
            go_ret
            exact ⟨ret_bool HF.out, HB.out⟩
          · skip
            cases d4 : decide (0 ≤ q4 ∧ q4 ≤ 1000000)
            · skip
              have HF : Hid (false = opB q0 q1 q2 q3 q4 q5 q6) := Lib.hid (by unfold opB; symm; rw [decide_eq_false_iff_not]; (try simp only [decide_eq_false_iff_not, decide_eq_true_eq] at *); omega)
              go_enter Try.func5, Try.ntmps5
              go_wp2_with (go_at_call 8; refine (l02IsO_any _ _ _ _).mono ?_; rintro e w1 ⟨rfl, rfl⟩; first | rw [d0] | rw [d3] | rw [d4] | rw [d5])
              go_ret
              exact ⟨ret_bool HF.out, HB.out⟩
            · skip
              cases d5 : decide (0 ≤ q5 ∧ q5 ≤ 1000000)
              · skip
                have HF : Hid (false = opB q0 q1 q2 q3 q4 q5 q6) := Lib.hid (by unfold opB; symm; rw [decide_eq_false_iff_not]; (try simp only [decide_eq_false_iff_not, decide_eq_true_eq] at *); omega)
                go_enter Try.func5, Try.ntmps5
                go_wp2_with (go_at_call 8; refine (l02IsO_any _ _ _ _).mono ?_; rintro e w1 ⟨rfl, rfl⟩; first | rw [d0] | rw [d3] | rw [d4] | rw [d5])
                go_ret
                exact ⟨ret_bool HF.out, HB.out⟩
              · skip
                have HF : Hid (true = opB q0 q1 q2 q3 q4 q5 q6) := Lib.hid (by unfold opB; symm; rw [decide_eq_true_eq]; (try simp only [decide_eq_true_eq] at *); omega)
                go_enter Try.func5, Try.ntmps5
                go_wp2_with (go_at_call 8; refine (l02IsO_any _ _ _ _).mono ?_; rintro e w1 ⟨rfl, rfl⟩; first | rw [d0] | rw [d3] | rw [d4] | rw [d5])
                go_ret
                exact ⟨ret_bool HF.out, HB.out⟩
        · skip
          have HF : Hid (false = opB q0 q1 q2 q3 q4 q5 q6) := Lib.hid (by unfold opB; symm; rw [decide_eq_false_iff_not]; (try simp only [decide_eq_false_iff_not, decide_eq_true_eq] at *); omega)
          go_enter Try.func5, Try.ntmps5
          go_wp2_with (go_at_call 8; refine (l02IsO_any _ _ _ _).mono ?_; rintro e w1 ⟨rfl, rfl⟩; first | rw [d0] | rw [d3] | rw [d4] | rw [d5])
          go_ret
          exact ⟨ret_bool HF.out, HB.out⟩
      · skip
        have HF : Hid (false = opB q0 q1 q2 q3 q4 q5 q6) := Lib.hid (by unfold opB; symm; rw [decide_eq_false_iff_not]; (try simp only [decide_eq_false_iff_not, decide_eq_true_eq] at *); omega)
        go_enter Try.func5, Try.ntmps5
        go_wp2_with (go_at_call 8; refine (l02IsO_any _ _ _ _).mono ?_; rintro e w1 ⟨rfl, rfl⟩; first | rw [d0] | rw [d3] | rw [d4] | rw [d5])
        go_ret
        exact ⟨ret_bool HF.out, HB.out⟩
    · skip
      have HF : Hid (false = opB q0 q1 q2 q3 q4 q5 q6) := Lib.hid (by unfold opB; symm; rw [decide_eq_false_iff_not]; (try simp only [decide_eq_false_iff_not, decide_eq_true_eq] at *); omega)
      go_enter Try.func5, Try.ntmps5
      go_wp2_with (go_at_call 8; refine (l02IsO_any _ _ _ _).mono ?_; rintro e w1 ⟨rfl, rfl⟩; first | rw [d0] | rw [d3] | rw [d4] | rw [d5])
      go_ret
      exact ⟨ret_bool HF.out, HB.out⟩
end Go.Proofs.Ytidcpdfhnhfelaa
