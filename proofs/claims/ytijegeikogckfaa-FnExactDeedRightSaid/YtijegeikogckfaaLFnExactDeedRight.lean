/- PROVED: the statement 'FnExactDeedRightSaid': at every argument the law's function answers true and leaves its arguments as they were. The frame was written by the kit's own frame writer. -/
import Derived.Test.YtijegeikogckfaaBookB
import Derived.Test.YtijegeikogckfaaOpenB
import Derived.Test.YtijegeikogckfaaBkPE
import Derived.Test.YtijegeikogckfaaRows
import Derived.WalkKit
import Derived.ProofKit
import Derived.OpenShut
import Derived.ShutString
import Derived.ChangeOld
import Derived.Below
import Derived.Carry
namespace Go.Proofs.Ytijegeikogckfaa.fnExactDeedRight
open Go.ChangeShapes Go.WideShapes Go.ChangeAt Go.RowKit IRow
open Go.ChangeMaps (open_string shut_string)
set_option linter.unusedVariables false
theorem own : ownKnob Try.prog.godebug = none := by kernel_rfl


/-! ### The walk. -/
set_option maxRecDepth 100000 in
set_option maxHeartbeats 4000000 in
theorem walk (q0 : Int) (q1 : Int) (q2 : Int) (q3 : Int) (q4 : Int) (q5 : Int) (q6 : ByteArray) (q7 : ByteArray) (q8 : Int) (q9 : ByteArray) (wq : (Lit.int .i64 q0).wf = true ∧ (Lit.int .i64 q1).wf = true ∧ (Lit.int .i64 q2).wf = true ∧ (Lit.int .i64 q3).wf = true ∧ (Lit.int .i64 q4).wf = true ∧ (Lit.int .i64 q5).wf = true ∧ q6.size ≤ maxLen ∧ q7.size ≤ maxLen ∧ (Lit.int .i64 q8).wf = true ∧ q9.size ≤ maxLen) (w : World)  :
    Calls Try.prog 5 #[.agg #[.int .i64 q0, .int .i64 q1, .int .i64 q2, .int .i64 q3, .int .i64 q4, .int .i64 q5, .string q6, .string q7, .int .i64 q8, .string q9]] w fun e w' => e = .returned (.bool true) ∧ Below w.heap.size w w' := by
  obtain ⟨w0, w1, w2, w3, w4, w5, w6, w7, w8, w9⟩ := wq
  have H6 := Lib.hid w6
  have H7 := Lib.hid w7
  have H9 := Lib.hid w9
  clear w0 w1 w2 w3 w4 w5 w6 w7 w8 w9
  obtain ⟨W, hW⟩ : ∃ W, W = w.alloc (.cells #[.int .i64 q0, .int .i64 q1, .int .i64 q2, .int .i64 q3, .int .i64 q4, .int .i64 q5, .string q6, .string q7, .int .i64 q8, .string q9] 44) := ⟨_, rfl⟩
  have HB0 : Hid (Below w.heap.size w W) := Lib.hid (by rw [hW]; exact (Below.refl _ _).alloc (Nat.le_refl _) _)
  have HA : Hid (BoxC W w.heap.size [.int .i64 q0, .int .i64 q1, .int .i64 q2, .int .i64 q3, .int .i64 q4, .int .i64 q5, .string q6, .string q7, .int .i64 q8, .string q9]) := Lib.hid (by rw [hW]; exact BoxC.made _ _ _)
  have HLD : ∀ u : World, Below W.heap.size W u → Hid (BoxC u w.heap.size [.int .i64 q0, .int .i64 q1, .int .i64 q2, .int .i64 q3, .int .i64 q4, .int .i64 q5, .string q6, .string q7, .int .i64 q8, .string q9]) := fun u hu => Lib.hid (HA.out.below hu)
  go_enter Try.func5, Try.ntmps5
  go_wp2_with fail
  rw [← hW]
  clear hW
  refine (szDeed_any q0 q1 q2 q3 q4 q5 q6 q7 q8 q9 1048576 _ H6.out H7.out H9.out (by omega) (by omega)).mono ?_
  rintro e v1 ⟨r, rfl, hr, hb⟩
  have HB1 : Hid (Below W.heap.size W v1) := Lib.hid hb
  clear hb
  rcases hr with rfl | ⟨r0, r1, _, _, _⟩
  · go_wp2_with fail
    go_ret
    exact ⟨rfl, HB0.out.trans (HB1.out.mono HB0.out.size)⟩
  · have hnn : ¬ r < 0 := by omega
    obtain ⟨lt, c, _⟩ := (HLD _ HB1.out).out
    have d0 := c 0 _ rfl
    have d1 := c 1 _ rfl
    have d2 := c 2 _ rfl
    have d3 := c 3 _ rfl
    have d4 := c 4 _ rfl
    have d5 := c 5 _ rfl
    have d6 := c 6 _ rfl
    have d7 := c 7 _ rfl
    have d8 := c 8 _ rfl
    have d9 := c 9 _ rfl
    clear c lt
    go_wp2_with fail
    refine (toDeed_any q0 q1 q2 q3 q4 q5 q6 q7 q8 q9 _).mono ?_
    rintro e v2 ⟨rfl, hb⟩
    have HB2 := Lib.hid (HB1.out.trans (hb.mono HB1.out.size))
    clear hb d0 d1 d2 d3 d4 d5 d6 d7 d8 d9
    go_wp2_with fail
    refine (specDeedRight_any q0 q1 q2 q3 q4 q5 q6 q7 q8 q9 _ H6.out H7.out H9.out).mono ?_
    rintro e v3 ⟨rfl, hb⟩
    have HB3 := Lib.hid (HB2.out.trans (hb.mono HB2.out.size))
    obtain ⟨lt, c, _⟩ := (HLD _ HB3.out).out
    have d0 := c 0 _ rfl
    have d1 := c 1 _ rfl
    have d2 := c 2 _ rfl
    have d3 := c 3 _ rfl
    have d4 := c 4 _ rfl
    have d5 := c 5 _ rfl
    have d6 := c 6 _ rfl
    have d7 := c 7 _ rfl
    have d8 := c 8 _ rfl
    have d9 := c 9 _ rfl
    clear c lt hb
    go_wp2_with fail
    refine (toDeed_any q0 q1 q2 q3 q4 q5 q6 q7 q8 q9 _).mono ?_
    rintro e v4 ⟨rfl, hb⟩
    have HB4 := Lib.hid (HB3.out.trans (hb.mono HB3.out.size))
    clear hb d0 d1 d2 d3 d4 d5 d6 d7 d8 d9
    go_wp2_with fail
    refine (implDeedRight_any q0 q1 q2 q3 q4 q5 q6 q7 q8 q9 _ H6.out H7.out H9.out).mono ?_
    rintro e v5 ⟨rfl, hb⟩
    have HB5 := Lib.hid (HB4.out.trans (hb.mono HB4.out.size))
    clear hb
    go_wp2_with fail
    go_ret
    exact ⟨rfl, HB0.out.trans (HB5.out.mono HB0.out.size)⟩

/-! ### THE ROW's STEP -/
set_option maxRecDepth 100000 in
theorem lifted (os : Os) (started : os.Started) (H : Type) (enc : TypeId × Value → H) :
    ReturnsInHanded {} Try.checked os 5 .any (Rows.fnExactDeedRightSpec.pre6 enc Try.prog Try.f5 Rows.fnExactDeedRightRow.domain false) (Rows.fnExactDeedRightSpec.post enc Try.prog Try.f5 false true false false) := by
  refine returnsInHanded_of_change (C := Try.checked) own started (by kernel_rfl) Try.func5
    (ChangeSpec.witness6 (enc := enc) (C := Try.checked) false ⟨#[], #[.agg #[.int .i64 0, .int .i64 0, .int .i64 0, .int .i64 0, .int .i64 0, .int .i64 0, .string ByteArray.empty, .string ByteArray.empty, .int .i64 0, .string ByteArray.empty]], []⟩ 8 (by kernel_rfl) (by kernel_rfl) (by kernel_rfl) (by kernel_rfl)) ?_
  intro W base args ds gs before hval0 hW hcnd _
  have hval : ∀ (j : Nat) t v, Try.f5.params[j]? = some t → args[j]? = some v → Value.okWide Try.prog W .any base t v := hval0
  have hW' := hW
  obtain ⟨p, q, hA0, hV, rfl, hfz, hnd⟩ := hW
  have hA : DataW.TrodAll enc Try.prog W 0 (fun _ => true) true Try.f5.params.toList args.toList ds p := hA0
  rw [Try.params5] at hA hval
  obtain ⟨v0, vs0, d0, ds0, p0, q_0, hargs0, rfl, rfl, h0, r0⟩ := trodAll_cons hA
  obtain ⟨rfl, rfl, rfl⟩ := trodAll_nil r0
  obtain rfl : args = #[v0] := by cases args; simp_all
  obtain ⟨rfl, rfl⟩ := trodVars_none hV
  obtain ⟨q0, q1, q2, q3, q4, q5, q6, q7, q8, q9, rfl, wq, rfl, hs0⟩ := deed_open (hval 0 44 v0 rfl rfl) h0
  clear hA0 hval0
  simp only [List.append_nil] at hW'
  refine (walk q0 q1 q2 q3 q4 q5 q6 q7 q8 q9 wq W ).mono fun e W' ⟨he, hg⟩ => ?_
  subst he
  exact ⟨_, rfl, _, _, _, [], _, [], hW', trodAll_mk1 (shut_bool Try.underlying4 _), (trodAll_cons_mk (hs0 _ _ _) trodAll_mk0), rfl, hg.frame _, fun h => by cases h⟩
theorem over : Rows.fnExactDeedRightRow.holds Try.pinned (OpenSpec.ofChange Rows.fnExactDeedRightSpec) :=
  OpenClaim.holds_of_wide 5 Try.f5 rfl rfl rfl rfl rfl rfl rfl ⟨rfl, rfl, rfl, rfl, rfl⟩ rfl rfl rfl rfl rfl (by kernel_rfl) Try.func5 (by kernel_rfl)
    (of_decide_eq_true (by kernel_rfl)) (by unfold Func.isWrapper; first | (rw [if_pos (by decide +kernel)]; kernel_rfl) | (rw [if_neg (by decide +kernel)]; exact ⟨rfl, rfl⟩))
    (fun os started H enc _ => lifted os started H enc)
theorem proved : Rows.FnExactDeedRightSaid :=
  over
end Go.Proofs.Ytijegeikogckfaa.fnExactDeedRight
