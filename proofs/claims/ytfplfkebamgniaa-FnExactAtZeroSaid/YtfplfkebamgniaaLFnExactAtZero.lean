/- PROVED: the statement 'FnExactAtZeroSaid': at every argument the law's function answers true and leaves its arguments as they were. The frame was written by the kit's own frame writer. -/
import Derived.Test.YtfplfkebamgniaaFnPoints
import Derived.Deep.SlicePairs
import Derived.Test.YtfplfkebamgniaaRows
import Derived.WalkKit
import Derived.ProofKit
import Derived.OpenShut
import Derived.ShutString
import Derived.ChangeOld
import Derived.Below
import Derived.ChangeOld
import Derived.Below
namespace Go.Proofs.Ytfplfkebamgniaa.fnExactAtZero
open Go.ChangeShapes Go.WideShapes Go.ChangeAt Go.RowKit
open Go.ChangeMaps (open_string shut_string)
set_option linter.unusedVariables false

theorem own : ownKnob Try.prog.godebug = none := by kernel_rfl
theorem laidOut : laidOutB Try.prog = true := by kernel_rfl

/-- WHAT THE WALK IS TOLD OF A SLICE OF INTEGERS THAT CAME IN: it is nil; or it leads to a row of 'cap' cells, the numbers 'zs' (the first 'len' are its elements, the rest its spare room), each fitting its kind. -/
def IsRow (k : IntKind) (w : World) (a : Option Addr) (len cap : Nat) (zs : List Int) : Prop :=
  (a = none ∧ len = 0 ∧ cap = 0 ∧ zs = []) ∨
  ∃ x, a = some x ∧ len ≤ cap ∧ cap ≤ maxLen ∧ zs.length = cap ∧ (∀ i, i < zs.length → w.cell? (x.add i) = some (.int k (zs.getD i 0))) ∧ ∀ n ∈ zs, (Lit.int k n).wf = true

def IsPairs (w : World) (a : Option Addr) (len cap : Nat) (ps : List (Int × Int)) : Prop :=
  (a = none ∧ len = 0 ∧ cap = 0 ∧ ps = []) ∨
  ∃ x, a = some x ∧ len ≤ cap ∧ cap ≤ maxLen ∧ ps.length = cap ∧ ∀ i, i < cap → w.cell? (x.add (i * 2)) = some (.int .i64 (ps.getD i (0, 0)).1) ∧ w.cell? (x.add (i * 2 + 1)) = some (.int .i64 (ps.getD i (0, 0)).2)

open G MGF IRow Go.PlainAid
theorem row_ofP {w : World} {a : Option Addr} {len cap : Nat} {ps : List (Int × Int)} (h : IsPairs w a len cap ps) : PR w a len cap (ps.take len) := by
  rcases h with ⟨rfl, rfl, rfl, rfl⟩ | ⟨x, rfl, hl, hm, hz, hc⟩
  · exact ⟨rfl, Nat.le_refl _, fun _ => rfl, fun h => absurd h (Nat.lt_irrefl 0)⟩
  · refine ⟨by rw [List.length_take]; omega, hl, (fun h => by cases h), fun h0 => ?_⟩
    obtain ⟨b, o, sp⟩ := x
    have h1 := (hc 0 (by omega)).1
    have hsp : sp = none := by simpa [Addr.add] using World.cell?_spot h1
    subst hsp
    have hadd : ∀ i, (⟨b, o, none⟩ : Addr).add i = ⟨b, o + i, none⟩ := fun i => by unfold Addr.add; split <;> simp_all
    refine ⟨b, o, rfl, World.block_lt_of_cell? w _ h1, fun i hi => ?_⟩
    have h2 := hc i (by omega)
    rw [hadd, hadd] at h2
    have e : (ps.take len).getD i (0, 0) = ps.getD i (0, 0) := by simp [List.getD, hi]
    rw [e]
    exact ⟨h2.1, by rw [← Nat.add_assoc] at h2; exact h2.2⟩
theorem len_ofP {w : World} {a : Option Addr} {len cap : Nat} {ps : List (Int × Int)} (h : IsPairs w a len cap ps) : len ≤ 9223372036854775807 := by
  rcases h with ⟨_, rfl, _, _⟩ | ⟨x, _, hl, hm, _⟩
  · omega
  · unfold maxLen at hm; omega

/-! ### The walk. -/
set_option maxRecDepth 100000 in
set_option maxHeartbeats 4000000 in
theorem walk (a0 : Option Addr) (len0 cap0 : Nat) (z0 : List (Int × Int)) (w : World) (w0 : IsPairs w a0 len0 cap0 z0) :
    Calls Try.prog 14 #[.slice a0 len0 cap0] w fun e w' => e = .returned (.bool true) ∧ Below w.heap.size w w' := by
  have I0 := Lib.hid (row_ofP w0)
  have HL0 := I0.out.len
  have HM0 := len_ofP w0
  clear w0
  by_cases h0 : 1048576 < len0
  · go_enter Try.func14, Try.ntmps14
    go_wp2_with fail
    refine (szPointS_any a0 len0 cap0 1048576 _ HM0 (by omega) (by omega)).mono ?_
    rintro e w1 ⟨rfl, rfl⟩
    rw [if_neg (by omega)]
    go_wp2_with fail
    go_ret
    exact ⟨rfl, Below.refl _ _⟩
  · skip
    go_enter Try.func14, Try.ntmps14
    have hneg : ¬ (1048576 : Int) - (len0 : Int) < 0 := by omega
    go_wp2_with fail
    refine (szPointS_any a0 len0 cap0 1048576 _ HM0 (by omega) (by omega)).mono ?_
    rintro e w1 ⟨rfl, rfl⟩
    rw [if_pos (by omega)]
    have HB := Lib.hid (Below.refl w.heap.size w)
    go_wp2_with fail
    refine (toPointS_any a0 len0 cap0 _ _ (I0.out.below HB.out) (by omega)).mono ?_
    rintro e w2 ⟨vt0, ct0, rfl, ho, hb⟩
    have Ot0 := Lib.hid (own_mono ho HB.out.size)
    clear ho
    have HB' := Lib.hid (HB.out.trans (hb.mono HB.out.size)); clear HB; have HB := HB'; clear HB'
    clear hb
    go_wp2_with fail
    refine (specAtZero_any vt0 len0 ct0 (z0.take len0) _ (PR.own Ot0.out) (by omega)).mono ?_
    rintro e w3 ⟨rfl, hb⟩
    have HB' := Lib.hid (HB.out.trans (hb.mono HB.out.size)); clear HB; have HB := HB'; clear HB'
    replace Ot0 := Lib.hid (own_below Ot0.out hb)
    clear hb
    clear Ot0
    go_wp2_with fail
    refine (toPointS_any a0 len0 cap0 _ _ (I0.out.below HB.out) (by omega)).mono ?_
    rintro e w4 ⟨vx0, cx0, rfl, ho, hb⟩
    have Ox0 := Lib.hid (own_mono ho HB.out.size)
    clear ho
    have HB' := Lib.hid (HB.out.trans (hb.mono HB.out.size)); clear HB; have HB := HB'; clear HB'
    clear hb
    go_wp2_with fail
    refine (implAtZero_any vx0 len0 cx0 (z0.take len0) _ (PR.own Ox0.out) (by omega)).mono ?_
    rintro e w5 ⟨rfl, hb⟩
    have HB' := Lib.hid (HB.out.trans (hb.mono HB.out.size)); clear HB; have HB := HB'; clear HB'
    replace Ox0 := Lib.hid (own_below Ox0.out hb)
    clear hb
    go_wp2_with fail
    refine (toPointS_any a0 len0 cap0 _ _ (I0.out.below HB.out) (by omega)).mono ?_
    rintro e w6 ⟨vy0, cy0, rfl, ho, hb⟩
    have Dx0y0 := own_disj Ox0.out ho
    have Oy0 := Lib.hid (own_mono ho HB.out.size)
    clear ho
    have HB' := Lib.hid (HB.out.trans (hb.mono HB.out.size)); clear HB; have HB := HB'; clear HB'
    replace Ox0 := Lib.hid (own_below Ox0.out hb)
    clear hb
    go_wp2_with fail
    refine (eqPointS_any vx0 vy0 len0 len0 cx0 cy0 _ _ _ (PR.own Ox0.out) (PR.own Oy0.out) (by omega) (by omega)).mono ?_
    rintro e w7 ⟨rfl, hb⟩
    rw [decide_eq_true rfl]
    clear Oy0
    have HB' := Lib.hid (HB.out.trans (hb.mono HB.out.size)); clear HB; have HB := HB'; clear HB'
    replace Ox0 := Lib.hid (own_below Ox0.out hb)
    clear hb
    go_wp2_with fail
    go_ret
    exact ⟨rfl, HB.out⟩

/-! ### THE ROW's STEP: WRITTEN OUT: LEAVE IT -/
set_option maxRecDepth 100000 in
theorem lifted (os : Os) (started : os.Started) (H : Type) (enc : TypeId × Value → H) :
    ReturnsInHanded {} Try.checked os 14 .any (Rows.fnExactAtZeroSpec.pre6 enc Try.prog Try.f14 Rows.fnExactAtZeroRow.domain false) (Rows.fnExactAtZeroSpec.post enc Try.prog Try.f14 false true false false) := by
  refine returnsInHanded_of_change (C := Try.checked) own started (by kernel_rfl) Try.func14
    (ChangeSpec.witness6 (enc := enc) (C := Try.checked) false ⟨#[], #[.slice none 0 0], []⟩ 8 (by kernel_rfl) (by kernel_rfl) (by kernel_rfl) (by kernel_rfl)) ?_
  intro W base args ds gs before hval0 hW hcnd _
  have hval : ∀ (j : Nat) t v, Try.f14.params[j]? = some t → args[j]? = some v → Value.okWide Try.prog W .any base t v := hval0
  have hW' := hW
  obtain ⟨p, q, hA0, hV, rfl, hfz, hnd⟩ := hW
  have hA : DataW.TrodAll enc Try.prog W 0 (fun _ => true) true Try.f14.params.toList args.toList ds p := hA0
  rw [Try.params14] at hA hval
  obtain ⟨v0, vs0, d0, ds0, p0, q0, hargs, rfl, rfl, h0, r0⟩ := trodAll_cons hA
  obtain ⟨rfl, rfl, rfl⟩ := trodAll_nil r0
  obtain rfl : args = #[v0] := by cases args; simp_all
  obtain ⟨rfl, rfl⟩ := trodVars_none hV
  obtain ⟨a0, len0, cap0, rfl⟩ := okWide_slice Try.underlying56 (hval 0 56 v0 rfl rfl)
  have k0 := h0
  have lt0 : ∀ x ∈ p0, x.block < W.heap.size := by obtain ⟨m, hm⟩ := k0; exact DataW.trod_lt m _ _ _ hm
  obtain ⟨z0, w0⟩ : ∃ zs, IsPairs W a0 len0 cap0 zs := by
    obtain ⟨fuel, hf⟩ := h0
    rcases Go.Deep.open_slice_pairs Try.underlying56 Try.underlying103 (by kernel_rfl) rfl rfl (by kernel_rfl) (by kernel_rfl) hf with ⟨hcs, _⟩ | ⟨x, l, c, m, nn, V0, V1, D0, D1, P0, P1, hcs, _, hl, hm, hmm, _, hx⟩
    · simp [Value.cells] at hcs
      obtain ⟨rfl, rfl, rfl⟩ := hcs
      exact ⟨[], .inl ⟨rfl, rfl, rfl, rfl⟩⟩
    · simp [Value.cells] at hcs
      obtain ⟨rfl, rfl, rfl⟩ := hcs
      have hmc : m = cap0 := by simpa using hmm
      subst hmc
      obtain ⟨q, hq⟩ := Go.Deep.choose_lt (α := Int × Int) (n := m) (p := fun i q => W.cell? (x.add (i * 2)) = some (.int .i64 q.1) ∧ W.cell? (x.add (i * 2 + 1)) = some (.int .i64 q.2)) (fun i hi => by
        obtain ⟨e0, e1, t0, t1⟩ := hx i hi
        obtain ⟨y0, hy0, _⟩ := DataW.trod_int Try.underlying2 t0
        obtain ⟨y1, hy1, _⟩ := DataW.trod_int Try.underlying2 t1
        simp only [List.cons.injEq, and_true] at hy0 hy1
        exact ⟨(y0, y1), by rw [e0, hy0], by rw [e1, hy1]⟩)
      refine ⟨(List.range m).map q, .inr ⟨_, rfl, hl, hm, by simp, fun i hi => ?_⟩⟩
      have := hq i hi
      simpa [List.getD, hi] using this
  clear hA0 hval0
  refine (walk a0 len0 cap0 z0 W w0).mono fun e W' ⟨he, bel⟩ => ?_
  subst he
  exact ⟨_, rfl, _, _, _, [], _, [], hW', trodAll_mk1 (shut_bool Try.underlying4 _), (trodAll_cons_mk (Below.trod laidOut (by kernel_rfl) (of_decide_eq_true (by kernel_rfl)) k0 bel lt0) trodAll_mk0), rfl, bel.frame _, fun h => by cases h⟩

theorem over : Rows.fnExactAtZeroRow.holds Try.pinned (OpenSpec.ofChange Rows.fnExactAtZeroSpec) :=
  OpenClaim.holds_of_wide 14 Try.f14 rfl rfl rfl rfl rfl rfl rfl ⟨rfl, rfl, rfl, rfl, rfl⟩ rfl rfl rfl rfl rfl (by kernel_rfl) Try.func14 (by kernel_rfl)
    (of_decide_eq_true (by kernel_rfl)) (by unfold Func.isWrapper; first | (rw [if_pos (by decide +kernel)]; kernel_rfl) | (rw [if_neg (by decide +kernel)]; exact ⟨rfl, rfl⟩))
    (fun os started H enc _ => lifted os started H enc)

/-- ████ THE STATEMENT ████ -/
theorem proved : Rows.FnExactAtZeroSaid := over
end Go.Proofs.Ytfplfkebamgniaa.fnExactAtZero
