/- PROVED: the statement 'FnExactCombineSaid': at every argument the law's function answers true and leaves its arguments as they were. The frame was written by the kit's own frame writer. -/
import Derived.Test.YtnlmbcdaolccbaaHShB
import Derived.Test.YtnlmbcdaolccbaaSSp4
import Derived.Test.YtnlmbcdaolccbaaSplD
import Derived.Deep.SlicePairs
import Derived.Test.YtnlmbcdaolccbaaRows
import Derived.WalkKit
import Derived.ProofKit
import Derived.OpenShut
import Derived.ShutString
import Derived.ChangeOld
import Derived.Below
import Derived.ChangeOld
import Derived.Below
namespace Go.Proofs.Ytnlmbcdaolccbaa.fnExactCombine
open Go.ChangeShapes Go.WideShapes Go.ChangeAt Go.RowKit
open Go.ChangeMaps (open_string shut_string)
set_option linter.unusedVariables false

theorem own : ownKnob Try.prog.godebug = none := by kernel_rfl
theorem laidOut : laidOutB Try.prog = true := by kernel_rfl

/-- WHAT THE WALK IS TOLD OF A SLICE OF INTEGERS THAT CAME IN: it is nil; or it leads to a row of 'cap' cells, the numbers 'zs' (the first 'len' are its elements, the rest its spare room), each fitting its kind. -/
def IsRow (k : IntKind) (w : World) (a : Option Addr) (len cap : Nat) (zs : List Int) : Prop :=
  (a = none ∧ len = 0 ∧ cap = 0 ∧ zs = []) ∨
  ∃ x, a = some x ∧ len ≤ cap ∧ cap ≤ maxLen ∧ zs.length = cap ∧ (∀ i, i < zs.length → w.cell? (x.add i) = some (.int k (zs.getD i 0))) ∧ ∀ n ∈ zs, (Lit.int k n).wf = true

def IsShares (w : World) (a : Option Addr) (len cap : Nat) (ps : List (Int × ByteArray)) : Prop :=
  (a = none ∧ len = 0 ∧ cap = 0 ∧ ps = []) ∨
  ∃ x, a = some x ∧ len ≤ cap ∧ cap ≤ maxLen ∧ ps.length = cap ∧ ∀ i, i < cap → w.cell? (x.add (i * 2)) = some (.int .i64 (ps.getD i (0, ByteArray.empty)).1) ∧ w.cell? (x.add (i * 2 + 1)) = some (.string (ps.getD i (0, ByteArray.empty)).2) ∧ (ps.getD i (0, ByteArray.empty)).2.size ≤ maxLen

open G MGF IRow Go.PlainAid
theorem row_ofS {w : World} {a : Option Addr} {len cap : Nat} {ps : List (Int × ByteArray)} (h : IsShares w a len cap ps) : HR w a len cap (ps.take len) := by
  rcases h with ⟨rfl, rfl, rfl, rfl⟩ | ⟨x, rfl, hl, hm, hz, hc⟩
  · exact SR.none shE shD w
  · refine ⟨by rw [List.length_take]; omega, hl, (fun h => by cases h), fun h0 => ?_⟩
    obtain ⟨b, o, sp⟩ := x
    have h1 := (hc 0 (by omega)).1
    have hsp : sp = none := by simpa [Addr.add] using World.cell?_spot h1
    subst hsp
    have hadd : ∀ i, (⟨b, o, none⟩ : Addr).add i = ⟨b, o + i, none⟩ := fun i => by unfold Addr.add; split <;> simp_all
    refine ⟨b, o, rfl, World.block_lt_of_cell? w _ h1, fun i hi j v hj => ?_⟩
    have h2 := hc i (by omega)
    rw [hadd, hadd] at h2
    have e : (ps.take len).getD i shD = ps.getD i (0, ByteArray.empty) := by simp [List.getD, hi, shD]
    rw [e] at hj
    match j, hj with
    | 0, hj => cases hj; exact h2.1
    | 1, hj => cases hj; exact (by rw [← Nat.add_assoc] at h2; exact h2.2.1)
    | j + 2, hj => simp [shE] at hj
theorem len_ofS {w : World} {a : Option Addr} {len cap : Nat} {ps : List (Int × ByteArray)} (h : IsShares w a len cap ps) : len ≤ 9223372036854775807 := by
  rcases h with ⟨_, rfl, _, _⟩ | ⟨x, _, hl, hm, _⟩
  · omega
  · unfold maxLen at hm; omega
theorem text_ofS {w : World} {a : Option Addr} {len cap : Nat} {ps : List (Int × ByteArray)} (h : IsShares w a len cap ps) : ∀ t, t < len → ((ps.take len).getD t shD).2.size ≤ maxLen := by
  intro t ht
  rcases h with ⟨_, rfl, _, _⟩ | ⟨x, _, hl, hm, hz, hc⟩
  · omega
  · have e : (ps.take len).getD t shD = ps.getD t (0, ByteArray.empty) := by simp [List.getD, ht, shD]
    rw [e]
    exact (hc t (by omega)).2.2

/-! ### The walk. -/
set_option maxRecDepth 100000 in
set_option maxHeartbeats 4000000 in
theorem walk (a0 : Option Addr) (len0 cap0 : Nat) (z0 : List (Int × ByteArray)) (w : World) (w0 : IsShares w a0 len0 cap0 z0) :
    Calls Try.prog 6 #[.slice a0 len0 cap0] w fun e w' => e = .returned (.bool true) ∧ Below w.heap.size w w' := by
  have I0 := Lib.hid (row_ofS w0)
  have HL0 := I0.out.len
  have HM0 := len_ofS w0
  have HT0 := Lib.hid (text_ofS w0)
  clear w0
  go_enter Try.func6, Try.ntmps6
  go_wp2_with fail
  refine (szShareS_any a0 len0 cap0 _ _ I0.out HM0 HT0.out).mono ?_
  rintro e w1 ⟨r, rfl, hr, hb⟩
  have HB := Lib.hid hb
  have HRR := Lib.hid hr
  clear hb hr
  by_cases h0 : r < 0
  · go_wp2_with fail
    go_ret
    exact ⟨rfl, HB.out⟩
  · obtain ⟨hn, _⟩ := HRR.out (by omega)
    have hnn : ¬ r < 0 := h0
    go_wp2_with fail
    refine (toShareS_any a0 len0 cap0 _ _ (I0.out.below HB.out) hn).mono ?_
    rintro e w2 ⟨vt0, ct0, rfl, ho, hb⟩
    have Ot0 := Lib.hid (own_mono ho HB.out.size)
    clear ho
    have HB' := Lib.hid (HB.out.trans (hb.mono HB.out.size)); clear HB; have HB := HB'; clear HB'
    clear hb
    go_wp2_with fail
    obtain ⟨⟨rs, rc⟩, hR⟩ : ∃ q, combR (z0.take len0) = q := ⟨_, rfl⟩
    have HR1 := Lib.hid hR
    clear hR
    have hcon := specCombine_any vt0 len0 ct0 (z0.take len0) _ (HR.own Ot0.out) hn HT0.out
    rw [HR1.out] at hcon
    refine hcon.mono ?_
    rintro e w3 ⟨rfl, hb⟩
    clear hcon
    dsimp only
    have HB' := Lib.hid (HB.out.trans (hb.mono HB.out.size)); clear HB; have HB := HB'; clear HB'
    clear hb Ot0
    have hbx : Below w3.heap.size w3 (w3.alloc (.cells #[.string rs, .int .i64 rc] 57)) := (Below.refl _ _).alloc (Nat.le_refl _) _
    have hob := box_made w3 (.string rs) (.int .i64 rc) 57
    have OBW := Lib.hid (own_mono hob HB.out.size); clear hob
    have HB' := Lib.hid (HB.out.trans (hbx.mono HB.out.size)); clear HB; have HB := HB'; clear HB'
    clear hbx
    obtain ⟨hW, hhW⟩ : ∃ h, h = w3.heap.size := ⟨_, rfl⟩
    go_wp2_with fail
    generalize w3.alloc (.cells #[.string rs, .int .i64 rc] 57) = w4 at *
    refine (toShareS_any a0 len0 cap0 _ _ (I0.out.below HB.out) hn).mono ?_
    rintro e w5 ⟨vx0, cx0, rfl, ho, hb⟩
    have Ox0 := Lib.hid (own_mono ho HB.out.size)
    clear ho
    have HB' := Lib.hid (HB.out.trans (hb.mono HB.out.size)); clear HB; have HB := HB'; clear HB'
    replace OBW := Lib.hid (own_below OBW.out hb)
    clear hb
    go_wp2_with fail
    have hcon := implCombine_any vx0 len0 cx0 (z0.take len0) _ (HR.own Ox0.out) hn HT0.out
    rw [HR1.out] at hcon
    refine hcon.mono ?_
    rintro e w6 ⟨rfl, hb⟩
    clear hcon
    dsimp only
    have HB' := Lib.hid (HB.out.trans (hb.mono HB.out.size)); clear HB; have HB := HB'; clear HB'
    replace OBW := Lib.hid (own_below OBW.out hb)
    replace Ox0 := Lib.hid (own_below Ox0.out hb)
    clear hb
    have hbx : Below w6.heap.size w6 (w6.alloc (.cells #[.string rs, .int .i64 rc] 57)) := (Below.refl _ _).alloc (Nat.le_refl _) _
    have hob := box_made w6 (.string rs) (.int .i64 rc) 57
    have OBG := Lib.hid (own_mono hob HB.out.size); clear hob
    have HB' := Lib.hid (HB.out.trans (hbx.mono HB.out.size)); clear HB; have HB := HB'; clear HB'
    replace OBW := Lib.hid (own_below OBW.out hbx)
    replace Ox0 := Lib.hid (own_below Ox0.out hbx)
    clear hbx
    obtain ⟨hG, hhG⟩ : ∃ h, h = w6.heap.size := ⟨_, rfl⟩
    obtain ⟨hxG, hyG⟩ := box_cells OBG.out
    obtain ⟨hxW, hyW⟩ := box_cells OBW.out
    go_wp2_with fail
    generalize w6.alloc (.cells #[.string rs, .int .i64 rc] 57) = w7 at *
    refine (eqSecretOut_same rs rc _).mono ?_
    rintro e w8 ⟨rfl, hb⟩
    clear hxG hyG hxW hyW OBW OBG
    have HB' := Lib.hid (HB.out.trans (hb.mono HB.out.size)); clear HB; have HB := HB'; clear HB'
    replace Ox0 := Lib.hid (own_below Ox0.out hb)
    clear hb
    go_wp2_with fail
    refine (toShareS_any a0 len0 cap0 _ _ (I0.out.below HB.out) hn).mono ?_
    rintro e w9 ⟨vy0, cy0, rfl, ho, hb⟩
    have Oy0 := Lib.hid (own_mono ho HB.out.size)
    clear ho
    have HB' := Lib.hid (HB.out.trans (hb.mono HB.out.size)); clear HB; have HB := HB'; clear HB'
    replace Ox0 := Lib.hid (own_below Ox0.out hb)
    clear hb
    go_wp2_with fail
    refine (eqShareS_same vx0 vy0 len0 cx0 cy0 _ _ (HR.own Ox0.out) (HR.own Oy0.out) hn).mono ?_
    rintro e w10 ⟨rfl, hb⟩
    clear Oy0 Ox0
    have HB' := Lib.hid (HB.out.trans (hb.mono HB.out.size)); clear HB; have HB := HB'; clear HB'
    clear hb
    go_wp2_with fail
    go_ret
    exact ⟨rfl, HB.out⟩

/-! ### THE ROW's STEP: WRITTEN OUT: LEAVE IT -/
set_option maxRecDepth 100000 in
theorem lifted (os : Os) (started : os.Started) (H : Type) (enc : TypeId × Value → H) :
    ReturnsInHanded {} Try.checked os 6 .any (Rows.fnExactCombineSpec.pre6 enc Try.prog Try.f6 Rows.fnExactCombineRow.domain false) (Rows.fnExactCombineSpec.post enc Try.prog Try.f6 false true false false) := by
  refine returnsInHanded_of_change (C := Try.checked) own started (by kernel_rfl) Try.func6
    (ChangeSpec.witness6 (enc := enc) (C := Try.checked) false ⟨#[], #[.slice none 0 0], []⟩ 8 (by kernel_rfl) (by kernel_rfl) (by kernel_rfl) (by kernel_rfl)) ?_
  intro W base args ds gs before hval0 hW hcnd _
  have hval : ∀ (j : Nat) t v, Try.f6.params[j]? = some t → args[j]? = some v → Value.okWide Try.prog W .any base t v := hval0
  have hW' := hW
  obtain ⟨p, q, hA0, hV, rfl, hfz, hnd⟩ := hW
  have hA : DataW.TrodAll enc Try.prog W 0 (fun _ => true) true Try.f6.params.toList args.toList ds p := hA0
  rw [Try.params6] at hA hval
  obtain ⟨v0, vs0, d0, ds0, p0, q0, hargs, rfl, rfl, h0, r0⟩ := trodAll_cons hA
  obtain ⟨rfl, rfl, rfl⟩ := trodAll_nil r0
  obtain rfl : args = #[v0] := by cases args; simp_all
  obtain ⟨rfl, rfl⟩ := trodVars_none hV
  obtain ⟨a0, len0, cap0, rfl⟩ := okWide_slice Try.underlying54 (hval 0 54 v0 rfl rfl)
  have k0 := h0
  have lt0 : ∀ x ∈ p0, x.block < W.heap.size := by obtain ⟨m, hm⟩ := k0; exact DataW.trod_lt m _ _ _ hm
  obtain ⟨z0, w0⟩ : ∃ zs, IsShares W a0 len0 cap0 zs := by
    obtain ⟨fuel, hf⟩ := h0
    rcases Go.Deep.open_slice_pairs Try.underlying54 Try.underlying118 (by kernel_rfl) rfl rfl (by kernel_rfl) (by kernel_rfl) hf with ⟨hcs, _⟩ | ⟨x, l, c, m, nn, V0, V1, D0, D1, P0, P1, hcs, _, hl, hm, hmm, _, hx⟩
    · simp [Value.cells] at hcs
      obtain ⟨rfl, rfl, rfl⟩ := hcs
      exact ⟨[], .inl ⟨rfl, rfl, rfl, rfl⟩⟩
    · simp [Value.cells] at hcs
      obtain ⟨rfl, rfl, rfl⟩ := hcs
      have hmc : m = cap0 := by simpa using hmm
      subst hmc
      obtain ⟨q, hq⟩ := Go.Deep.choose_lt (α := Int × ByteArray) (n := m) (p := fun i q => W.cell? (x.add (i * 2)) = some (.int .i64 q.1) ∧ W.cell? (x.add (i * 2 + 1)) = some (.string q.2) ∧ q.2.size ≤ maxLen) (fun i hi => by
        obtain ⟨e0, e1, t0, t1⟩ := hx i hi
        obtain ⟨y0, hy0, _⟩ := DataW.trod_int Try.underlying2 t0
        obtain ⟨y1, hy1, _, hs1⟩ := DataW.trod_string Try.underlying9 t1
        simp only [List.cons.injEq, and_true] at hy0 hy1
        exact ⟨(y0, y1), by rw [e0, hy0], by rw [e1, hy1], hs1⟩)
      refine ⟨(List.range m).map q, .inr ⟨_, rfl, hl, hm, by simp, fun i hi => ?_⟩⟩
      have := hq i hi
      simpa [List.getD, hi] using this
  clear hA0 hval0
  refine (walk a0 len0 cap0 z0 W w0).mono fun e W' ⟨he, bel⟩ => ?_
  subst he
  exact ⟨_, rfl, _, _, _, [], _, [], hW', trodAll_mk1 (shut_bool Try.underlying4 _), (trodAll_cons_mk (Below.trod laidOut (by kernel_rfl) (of_decide_eq_true (by kernel_rfl)) k0 bel lt0) trodAll_mk0), rfl, bel.frame _, fun h => by cases h⟩

theorem over : Rows.fnExactCombineRow.holds Try.pinned (OpenSpec.ofChange Rows.fnExactCombineSpec) :=
  OpenClaim.holds_of_wide 6 Try.f6 rfl rfl rfl rfl rfl rfl rfl ⟨rfl, rfl, rfl, rfl, rfl⟩ rfl rfl rfl rfl rfl (by kernel_rfl) Try.func6 (by kernel_rfl)
    (of_decide_eq_true (by kernel_rfl)) (by unfold Func.isWrapper; first | (rw [if_pos (by decide +kernel)]; kernel_rfl) | (rw [if_neg (by decide +kernel)]; exact ⟨rfl, rfl⟩))
    (fun os started H enc _ => lifted os started H enc)

/-- ████ THE STATEMENT ████ -/
theorem proved : Rows.FnExactCombineSaid := over
end Go.Proofs.Ytnlmbcdaolccbaa.fnExactCombine
