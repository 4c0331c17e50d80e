/- PROVED: the statement 'FnExactEnvRightSaid': at every argument the law's function answers true and leaves its arguments as they were. The frame was written by the kit's own frame writer. -/
import Derived.Test.YtdnbkjiijpeiiaaEnvH
import Derived.Test.YtdnbkjiijpeiiaaRows
import Derived.WalkKit
import Derived.ProofKit
import Derived.OpenShut
import Derived.ShutString
import Derived.ChangeOld
import Derived.Below
namespace Go.Proofs.Ytdnbkjiijpeiiaa.fnExactEnvRight
open Go.ChangeShapes Go.WideShapes Go.ChangeAt Go.RowKit
open Go.ChangeMaps (open_string shut_string)
set_option linter.unusedVariables false
theorem own : ownKnob Try.prog.godebug = none := by kernel_rfl


/-! ### The walk. -/
set_option maxRecDepth 100000 in
set_option maxHeartbeats 4000000 in
theorem walk (g n m x : Int) (t : ByteArray) (wg : (Lit.int .i64 g).wf = true) (wn : (Lit.int .i64 n).wf = true) (wm : (Lit.int .i64 m).wf = true) (wx : (Lit.int .i64 x).wf = true) (wt : t.size ≤ maxLen) (w : World) :
    Calls Try.prog 3 #[.agg #[.int .i64 g, .int .i64 n, .int .i64 m, .int .i64 x, .string t]] w fun e w' => e = .returned (.bool true) ∧ Below w.heap.size w w' := by
  have HT := Lib.hid wt
  have HB0 : Hid (Below w.heap.size w (w.alloc (.cells #[.int .i64 g, .int .i64 n, .int .i64 m, .int .i64 x, .string t] 23))) := Lib.hid ((Below.refl _ _).alloc (Nat.le_refl _) _)
  clear wt
  obtain ⟨W, hW⟩ : ∃ W, W = w.alloc (.cells #[.int .i64 g, .int .i64 n, .int .i64 m, .int .i64 x, .string t] 23) := ⟨_, rfl⟩
  have c0 : W.cell? ⟨w.heap.size, 0, none⟩ = some (.int .i64 g) := by rw [hW]; simp
  have c1 : W.cell? ⟨w.heap.size, 1, none⟩ = some (.int .i64 n) := by rw [hW]; simp
  have c2 : W.cell? ⟨w.heap.size, 2, none⟩ = some (.int .i64 m) := by rw [hW]; simp
  have c3 : W.cell? ⟨w.heap.size, 3, none⟩ = some (.int .i64 x) := by rw [hW]; simp
  have c4 : W.cell? ⟨w.heap.size, 4, none⟩ = some (.string t) := by rw [hW]; simp
  have HC : Hid (∀ u : World, Below W.heap.size W u → u.cell? ⟨w.heap.size, 0, none⟩ = some (.int .i64 g) ∧ u.cell? ⟨w.heap.size, 1, none⟩ = some (.int .i64 n) ∧ u.cell? ⟨w.heap.size, 2, none⟩ = some (.int .i64 m) ∧ u.cell? ⟨w.heap.size, 3, none⟩ = some (.int .i64 x) ∧ u.cell? ⟨w.heap.size, 4, none⟩ = some (.string t)) := Lib.hid (fun u hb => by
    have z : w.heap.size < W.heap.size := by rw [hW]; simp
    exact ⟨(hb.cell (p := ⟨w.heap.size, 0, none⟩) z).trans c0, (hb.cell (p := ⟨w.heap.size, 1, none⟩) z).trans c1, (hb.cell (p := ⟨w.heap.size, 2, none⟩) z).trans c2, (hb.cell (p := ⟨w.heap.size, 3, none⟩) z).trans c3, (hb.cell (p := ⟨w.heap.size, 4, none⟩) z).trans c4⟩)
  rw [← hW] at HB0
  have HBW : Hid (Below W.heap.size W W) := Lib.hid (Below.refl _ _)
  by_cases hle : (t.size : Int) ≤ 1048576
  · have HLE := Lib.hid hle
    have hnn : ¬ 1048576 - (t.size : Int) < 0 := by omega
    clear hle
    go_enter Try.func3, Try.ntmps3
    go_wp2_with fail
    rw [← hW]
    clear hW
    refine (szEnv_any g n m x t _ HT.out).mono ?_
    rintro e w1 ⟨rfl, hb⟩
    rw [if_pos HLE.out]
    have HB1 := Lib.hid (HBW.out.trans hb)
    obtain ⟨d0, d1, d2, d3, d4⟩ := HC.out _ HB1.out
    clear hb c0 c1 c2 c3 c4
    go_wp2_with fail
    refine (toEnv_any g n m x t _).mono ?_
    rintro e w2 ⟨rfl, hb⟩
    have HB2 := Lib.hid (HB1.out.trans (hb.mono HB1.out.size))
    clear hb d0 d1 d2 d3 d4
    go_wp2_with fail
    refine (specEnvRight_any g n m x t _ HT.out).mono ?_
    rintro e w3 ⟨rfl, hb⟩
    have HB3 := Lib.hid (HB2.out.trans (hb.mono HB2.out.size))
    obtain ⟨d0, d1, d2, d3, d4⟩ := HC.out _ HB3.out
    clear hb
    go_wp2_with fail
    refine (toEnv_any g n m x t _).mono ?_
    rintro e w4 ⟨rfl, hb⟩
    have HB4 := Lib.hid (HB3.out.trans (hb.mono HB3.out.size))
    clear hb d0 d1 d2 d3 d4
    go_wp2_with fail
    refine (implEnvRight_any g n m x t _ HT.out).mono ?_
    rintro e w5 ⟨rfl, hb⟩
    have HB5 := Lib.hid (HB4.out.trans (hb.mono HB4.out.size))
    clear hb
    go_wp2_with fail
    go_ret
    exact ⟨rfl, HB0.out.trans (HB5.out.mono HB0.out.size)⟩
  · have HLE := Lib.hid hle
    clear hle
    go_enter Try.func3, Try.ntmps3
    go_wp2_with fail
    rw [← hW]
    clear hW
    refine (szEnv_any g n m x t _ HT.out).mono ?_
    rintro e w1 ⟨rfl, hb⟩
    rw [if_neg (by have := HLE.out; omega)]
    have HB1 := Lib.hid (HBW.out.trans hb)
    clear hb c0 c1 c2 c3 c4
    go_wp2_with fail
    go_ret
    exact ⟨rfl, HB0.out.trans (HB1.out.mono HB0.out.size)⟩

/-! ### THE ROW's STEP -/
set_option maxRecDepth 100000 in
theorem lifted (os : Os) (started : os.Started) (H : Type) (enc : TypeId × Value → H) :
    ReturnsInHanded {} Try.checked os 3 .any (Rows.fnExactEnvRightSpec.pre6 enc Try.prog Try.f3 Rows.fnExactEnvRightRow.domain false) (Rows.fnExactEnvRightSpec.post enc Try.prog Try.f3 false true false false) := by
  refine returnsInHanded_of_change (C := Try.checked) own started (by kernel_rfl) Try.func3
    (ChangeSpec.witness6 (enc := enc) (C := Try.checked) false ⟨#[], #[.agg #[.int .i64 0, .int .i64 0, .int .i64 0, .int .i64 0, .string ByteArray.empty]], []⟩ 8 (by kernel_rfl) (by kernel_rfl) (by kernel_rfl) (by kernel_rfl)) ?_
  intro W base args ds gs before hval0 hW hcnd _
  have hval : ∀ (j : Nat) t v, Try.f3.params[j]? = some t → args[j]? = some v → Value.okWide Try.prog W .any base t v := hval0
  have hW' := hW
  obtain ⟨p, q, hA0, hV, rfl, hfz, hnd⟩ := hW
  have hA : DataW.TrodAll enc Try.prog W 0 (fun _ => true) true Try.f3.params.toList args.toList ds p := hA0
  rw [Try.params3] at hA hval
  obtain ⟨v0, vs0, d0, ds0, p0, q0, hargs, rfl, rfl, h0, r0⟩ := trodAll_cons hA
  obtain ⟨rfl, rfl, rfl⟩ := trodAll_nil r0
  obtain rfl : args = #[v0] := by cases args; simp_all
  obtain ⟨rfl, rfl⟩ := trodVars_none hV
  obtain ⟨g, n, m, x, t, rfl, wg, wn, wm, wx, wt, rfl, hs⟩ := env_open (hval 0 23 v0 rfl rfl) h0
  clear hA0 hval0
  simp only [List.append_nil] at hW'
  refine (walk g n m x t wg wn wm wx wt W).mono fun e W' ⟨he, hg⟩ => ?_
  subst he
  exact ⟨_, rfl, _, _, _, [], _, [], hW', trodAll_mk1 (shut_bool Try.underlying4 _), (trodAll_cons_mk (hs _ _ _) trodAll_mk0), rfl, hg.frame _, fun h => by cases h⟩
theorem over : Rows.fnExactEnvRightRow.holds Try.pinned (OpenSpec.ofChange Rows.fnExactEnvRightSpec) :=
  OpenClaim.holds_of_wide 3 Try.f3 rfl rfl rfl rfl rfl rfl rfl ⟨rfl, rfl, rfl, rfl, rfl⟩ rfl rfl rfl rfl rfl (by kernel_rfl) Try.func3 (by kernel_rfl)
    (of_decide_eq_true (by kernel_rfl)) (by unfold Func.isWrapper; first | (rw [if_pos (by decide +kernel)]; kernel_rfl) | (rw [if_neg (by decide +kernel)]; exact ⟨rfl, rfl⟩))
    (fun os started H enc _ => lifted os started H enc)
theorem proved : Rows.FnExactEnvRightSaid :=
  over
end Go.Proofs.Ytdnbkjiijpeiiaa.fnExactEnvRight
