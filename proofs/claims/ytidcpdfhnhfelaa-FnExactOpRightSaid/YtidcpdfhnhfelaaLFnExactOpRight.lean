/- PROVED: the statement 'FnExactOpRightSaid': at every argument the law's function answers true and leaves its arguments as they were. The frame was written by the kit's own frame writer. -/
import Derived.Test.YtidcpdfhnhfelaaOpR
import Derived.Test.YtidcpdfhnhfelaaOpenO
import Derived.Test.YtidcpdfhnhfelaaRows
import Derived.WalkKit
import Derived.ProofKit
import Derived.OpenShut
import Derived.ShutString
import Derived.ChangeOld
import Derived.Below
import Derived.Carry
namespace Go.Proofs.Ytidcpdfhnhfelaa.fnExactOpRight
open Go.ChangeShapes Go.WideShapes Go.ChangeAt Go.RowKit IRow
open Go.ChangeMaps (open_string shut_string)
set_option linter.unusedVariables false
theorem own : ownKnob Try.prog.godebug = none := by kernel_rfl
open G
/-- An op in a block of its own. -/
structure OpBox (w : World) (b : Nat) (q0 : Int) (q1 q2 : ByteArray) (q3 q4 q5 : Int) (q6 : ByteArray) : Prop where
  lt : b < w.heap.size
  c0 : w.cell? ⟨b, 0, none⟩ = some (.int .i64 q0)
  c1 : w.cell? ⟨b, 1, none⟩ = some (.string q1)
  c2 : w.cell? ⟨b, 2, none⟩ = some (.string q2)
  c3 : w.cell? ⟨b, 3, none⟩ = some (.int .i64 q3)
  c4 : w.cell? ⟨b, 4, none⟩ = some (.int .i64 q4)
  c5 : w.cell? ⟨b, 5, none⟩ = some (.int .i64 q5)
  c6 : w.cell? ⟨b, 6, none⟩ = some (.string q6)
theorem OpBox.below {w w' : World} {b : Nat} {q0 : Int} {q1 q2 : ByteArray} {q3 q4 q5 : Int} {q6 : ByteArray} (h : OpBox w b q0 q1 q2 q3 q4 q5 q6) (hb : Below w.heap.size w w') : OpBox w' b q0 q1 q2 q3 q4 q5 q6 :=
  ⟨Nat.lt_of_lt_of_le h.lt hb.size, (hb.cell (p := ⟨b, 0, none⟩) h.lt).trans h.c0, (hb.cell (p := ⟨b, 1, none⟩) h.lt).trans h.c1, (hb.cell (p := ⟨b, 2, none⟩) h.lt).trans h.c2, (hb.cell (p := ⟨b, 3, none⟩) h.lt).trans h.c3, (hb.cell (p := ⟨b, 4, none⟩) h.lt).trans h.c4, (hb.cell (p := ⟨b, 5, none⟩) h.lt).trans h.c5, (hb.cell (p := ⟨b, 6, none⟩) h.lt).trans h.c6⟩

/-! ### The walk. -/
set_option maxRecDepth 100000 in
set_option maxHeartbeats 4000000 in
theorem walk (q0 : Int) (q1 : ByteArray) (q2 : ByteArray) (q3 : Int) (q4 : Int) (q5 : Int) (q6 : ByteArray) (wq : (Lit.int .i64 q0).wf = true ∧ q1.size ≤ maxLen ∧ q2.size ≤ maxLen ∧ (Lit.int .i64 q3).wf = true ∧ (Lit.int .i64 q4).wf = true ∧ (Lit.int .i64 q5).wf = true ∧ q6.size ≤ maxLen) (w : World)  :
    Calls Try.prog 3 #[.agg #[.int .i64 q0, .string q1, .string q2, .int .i64 q3, .int .i64 q4, .int .i64 q5, .string q6]] w fun e w' => e = .returned (.bool true) ∧ Below w.heap.size w w' := by
  obtain ⟨w0, w1, w2, w3, w4, w5, w6⟩ := wq
  have H1 := Lib.hid w1
  have H2 := Lib.hid w2
  have H6 := Lib.hid w6
  clear w0 w1 w2 w3 w4 w5 w6
  obtain ⟨W, hW⟩ : ∃ W, W = w.alloc (.cells #[.int .i64 q0, .string q1, .string q2, .int .i64 q3, .int .i64 q4, .int .i64 q5, .string q6] 23) := ⟨_, rfl⟩
  have HB0 : Hid (Below w.heap.size w W) := Lib.hid (by rw [hW]; exact (Below.refl _ _).alloc (Nat.le_refl _) _)
  have HA : Hid (OpBox W w.heap.size q0 q1 q2 q3 q4 q5 q6) := Lib.hid (by rw [hW]; exact ⟨by simp, by simp, by simp, by simp, by simp, by simp, by simp, by simp⟩)
  go_enter Try.func3, Try.ntmps3
  go_wp2_with fail
  rw [← hW]
  clear hW
  refine (szOp_any q0 q1 q2 q3 q4 q5 q6 1048576 _ H1.out H2.out H6.out (by omega) (by omega)).mono ?_
  rintro e v1 ⟨r, rfl, hr, hb⟩
  have HB1 : Hid (Below W.heap.size W v1) := Lib.hid hb
  clear hb
  rcases hr with rfl | ⟨r0, r1, _, _, _⟩
  · go_wp2_with fail
    go_ret
    exact ⟨rfl, HB0.out.trans (HB1.out.mono HB0.out.size)⟩
  · have hnn : ¬ r < 0 := by omega
    obtain ⟨lt, d0, d1, d2, d3, d4, d5, d6⟩ := HA.out.below HB1.out
    clear lt
    go_wp2_with fail
    refine (toOp_any q0 q1 q2 q3 q4 q5 q6 _).mono ?_
    rintro e v2 ⟨rfl, hb⟩
    have HB2 := Lib.hid (HB1.out.trans (hb.mono HB1.out.size))
    clear hb d0 d1 d2 d3 d4 d5 d6
    go_wp2_with fail
    refine (specOpRight_any q0 q1 q2 q3 q4 q5 q6 _ H1.out H2.out H6.out).mono ?_
    rintro e v3 ⟨rfl, hb⟩
    have HB3 := Lib.hid (HB2.out.trans (hb.mono HB2.out.size))
    obtain ⟨lt, d0, d1, d2, d3, d4, d5, d6⟩ := HA.out.below HB3.out
    clear lt hb
    go_wp2_with fail
    refine (toOp_any q0 q1 q2 q3 q4 q5 q6 _).mono ?_
    rintro e v4 ⟨rfl, hb⟩
    have HB4 := Lib.hid (HB3.out.trans (hb.mono HB3.out.size))
    clear hb d0 d1 d2 d3 d4 d5 d6
    go_wp2_with fail
    refine (implOpRight_any q0 q1 q2 q3 q4 q5 q6 _ H1.out H2.out H6.out).mono ?_
    rintro e v5 ⟨rfl, hb⟩
    have HB5 := Lib.hid (HB4.out.trans (hb.mono HB4.out.size))
    clear hb
    go_wp2_with fail
    go_ret
    exact ⟨rfl, HB0.out.trans (HB5.out.mono HB0.out.size)⟩

/-! ### THE ROW's STEP -/
set_option maxRecDepth 100000 in
theorem lifted (os : Os) (started : os.Started) (H : Type) (enc : TypeId × Value → H) :
    ReturnsInHanded {} Try.checked os 3 .any (Rows.fnExactOpRightSpec.pre6 enc Try.prog Try.f3 Rows.fnExactOpRightRow.domain false) (Rows.fnExactOpRightSpec.post enc Try.prog Try.f3 false true false false) := by
  refine returnsInHanded_of_change (C := Try.checked) own started (by kernel_rfl) Try.func3
    (ChangeSpec.witness6 (enc := enc) (C := Try.checked) false ⟨#[], #[.agg #[.int .i64 0, .string ByteArray.empty, .string ByteArray.empty, .int .i64 0, .int .i64 0, .int .i64 0, .string ByteArray.empty]], []⟩ 8 (by kernel_rfl) (by kernel_rfl) (by kernel_rfl) (by kernel_rfl)) ?_
  intro W base args ds gs before hval0 hW hcnd _
  have hval : ∀ (j : Nat) t v, Try.f3.params[j]? = some t → args[j]? = some v → Value.okWide Try.prog W .any base t v := hval0
  have hW' := hW
  obtain ⟨p, q, hA0, hV, rfl, hfz, hnd⟩ := hW
  have hA : DataW.TrodAll enc Try.prog W 0 (fun _ => true) true Try.f3.params.toList args.toList ds p := hA0
  rw [Try.params3] at hA hval
  obtain ⟨v0, vs0, d0, ds0, p0, q_0, hargs0, rfl, rfl, h0, r0⟩ := trodAll_cons hA
  obtain ⟨rfl, rfl, rfl⟩ := trodAll_nil r0
  obtain rfl : args = #[v0] := by cases args; simp_all
  obtain ⟨rfl, rfl⟩ := trodVars_none hV
  obtain ⟨q0, q1, q2, q3, q4, q5, q6, rfl, wq, rfl, hs0⟩ := op_open (hval 0 23 v0 rfl rfl) h0
  clear hA0 hval0
  simp only [List.append_nil] at hW'
  refine (walk q0 q1 q2 q3 q4 q5 q6 wq W ).mono fun e W' ⟨he, hg⟩ => ?_
  subst he
  exact ⟨_, rfl, _, _, _, [], _, [], hW', trodAll_mk1 (shut_bool Try.underlying4 _), (trodAll_cons_mk (hs0 _ _ _) trodAll_mk0), rfl, hg.frame _, fun h => by cases h⟩
theorem over : Rows.fnExactOpRightRow.holds Try.pinned (OpenSpec.ofChange Rows.fnExactOpRightSpec) :=
  OpenClaim.holds_of_wide 3 Try.f3 rfl rfl rfl rfl rfl rfl rfl ⟨rfl, rfl, rfl, rfl, rfl⟩ rfl rfl rfl rfl rfl (by kernel_rfl) Try.func3 (by kernel_rfl)
    (of_decide_eq_true (by kernel_rfl)) (by unfold Func.isWrapper; first | (rw [if_pos (by decide +kernel)]; kernel_rfl) | (rw [if_neg (by decide +kernel)]; exact ⟨rfl, rfl⟩))
    (fun os started H enc _ => lifted os started H enc)
theorem proved : Rows.FnExactOpRightSaid :=
  over
end Go.Proofs.Ytidcpdfhnhfelaa.fnExactOpRight
