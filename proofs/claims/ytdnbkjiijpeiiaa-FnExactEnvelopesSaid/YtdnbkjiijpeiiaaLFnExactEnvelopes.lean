/- PROVED: the statement 'FnExactEnvelopesSaid': at every argument the law's function answers true and leaves its arguments as they were. The frame was written by the kit's own frame writer. -/
import Derived.Test.YtdnbkjiijpeiiaaEnvS
import Derived.Deep.SlicePairs
import Derived.Test.YtdnbkjiijpeiiaaRows
import Derived.WalkKit
import Derived.ProofKit
import Derived.OpenShut
import Derived.ShutString
import Derived.ChangeOld
import Derived.Below
import Derived.ChangeOld
import Derived.Below
namespace Go.Proofs.Ytdnbkjiijpeiiaa.fnExactEnvelopes
open Go.ChangeShapes Go.WideShapes Go.ChangeAt Go.RowKit
open Go.ChangeMaps (open_string shut_string)
set_option linter.unusedVariables false

theorem own : ownKnob Try.prog.godebug = none := by kernel_rfl
theorem laidOut : laidOutB Try.prog = true := by kernel_rfl

/-- WHAT THE WALK IS TOLD OF A SLICE OF INTEGERS THAT CAME IN: it is nil; or it leads to a row of 'cap' cells, the numbers 'zs' (the first 'len' are its elements, the rest its spare room), each fitting its kind. -/
def IsRow (k : IntKind) (w : World) (a : Option Addr) (len cap : Nat) (zs : List Int) : Prop :=
  (a = none ∧ len = 0 ∧ cap = 0 ∧ zs = []) ∨
  ∃ x, a = some x ∧ len ≤ cap ∧ cap ≤ maxLen ∧ zs.length = cap ∧ (∀ i, i < zs.length → w.cell? (x.add i) = some (.int k (zs.getD i 0))) ∧ ∀ n ∈ zs, (Lit.int k n).wf = true

def IsShares (w : World) (a : Option Addr) (len cap : Nat) (ps : List (Int × ByteArray)) : Prop :=
  (a = none ∧ len = 0 ∧ cap = 0 ∧ ps = []) ∨
  ∃ x, a = some x ∧ len ≤ cap ∧ cap ≤ maxLen ∧ ps.length = cap ∧ ∀ i, i < cap → w.cell? (x.add (i * 2)) = some (.int .i64 (ps.getD i (0, ByteArray.empty)).1) ∧ w.cell? (x.add (i * 2 + 1)) = some (.string (ps.getD i (0, ByteArray.empty)).2) ∧ (ps.getD i (0, ByteArray.empty)).2.size ≤ maxLen

open G MGF IRow Go.PlainAid
theorem row_ofS {w : World} {a : Option Addr} {len cap : Nat} {ps : List (Int × ByteArray)} (h : IsShares w a len cap ps) : HR w a len cap (ps.take len) := by
  rcases h with ⟨rfl, rfl, rfl, rfl⟩ | ⟨x, rfl, hl, hm, hz, hc⟩
  · exact SR.none shE shD w
  · refine ⟨by rw [List.length_take]; omega, hl, (fun h => by cases h), fun h0 => ?_⟩
    obtain ⟨b, o, sp⟩ := x
    have h1 := (hc 0 (by omega)).1
    have hsp : sp = none := by simpa [Addr.add] using World.cell?_spot h1
    subst hsp
    have hadd : ∀ i, (⟨b, o, none⟩ : Addr).add i = ⟨b, o + i, none⟩ := fun i => by unfold Addr.add; split <;> simp_all
    refine ⟨b, o, rfl, World.block_lt_of_cell? w _ h1, fun i hi j v hj => ?_⟩
    have h2 := hc i (by omega)
    rw [hadd, hadd] at h2
    have e : (ps.take len).getD i shD = ps.getD i (0, ByteArray.empty) := by simp [List.getD, hi, shD]
    rw [e] at hj
    match j, hj with
    | 0, hj => cases hj; exact h2.1
    | 1, hj => cases hj; exact (by rw [← Nat.add_assoc] at h2; exact h2.2.1)
    | j + 2, hj => simp [shE] at hj
theorem len_ofS {w : World} {a : Option Addr} {len cap : Nat} {ps : List (Int × ByteArray)} (h : IsShares w a len cap ps) : len ≤ 9223372036854775807 := by
  rcases h with ⟨_, rfl, _, _⟩ | ⟨x, _, hl, hm, _⟩
  · omega
  · unfold maxLen at hm; omega
theorem text_ofS {w : World} {a : Option Addr} {len cap : Nat} {ps : List (Int × ByteArray)} (h : IsShares w a len cap ps) : ∀ t, t < len → ((ps.take len).getD t shD).2.size ≤ maxLen := by
  intro t ht
  rcases h with ⟨_, rfl, _, _⟩ | ⟨x, _, hl, hm, hz, hc⟩
  · omega
  · have e : (ps.take len).getD t shD = ps.getD t (0, ByteArray.empty) := by simp [List.getD, ht, shD]
    rw [e]
    exact (hc t (by omega)).2.2

/-! ### The walk. -/
set_option maxRecDepth 100000 in
set_option maxHeartbeats 4000000 in
theorem walk (a0 : Int) (a1 : Int) (a2 : Int) (a3 : Option Addr) (len3 cap3 : Nat) (z3 : List (Int × ByteArray)) (w : World) (w0 : (Lit.int .i64 a0).wf = true) (w1 : (Lit.int .i64 a1).wf = true) (w2 : (Lit.int .i64 a2).wf = true) (w3 : IsShares w a3 len3 cap3 z3) :
    Calls Try.prog 5 #[.int .i64 a0, .int .i64 a1, .int .i64 a2, .slice a3 len3 cap3] w fun e w' => e = .returned (.bool true) ∧ Below w.heap.size w w' := by
  have I0 := Lib.hid (row_ofS w3)
  have HL0 := I0.out.len
  have HM0 := len_ofS w3
  have HT0 := Lib.hid (text_ofS w3)
  clear w3
  go_enter Try.func5, Try.ntmps5
  go_wp2_with fail
  refine (szShareS_any a3 len3 cap3 _ _ I0.out HM0 HT0.out).mono ?_
  rintro e w1 ⟨r, rfl, hr, hb⟩
  have HB := Lib.hid hb
  have HRR := Lib.hid hr
  clear hb hr
  by_cases h0 : r < 0
  · go_wp2_with fail
    go_ret
    exact ⟨rfl, HB.out⟩
  · obtain ⟨hn, _⟩ := HRR.out (by omega)
    have hnn : ¬ r < 0 := h0
    obtain ⟨rl, hR⟩ : ∃ q, envsL a0 a1 a2 (z3.take len3) = q := ⟨_, rfl⟩
    have HRL : Hid (rl.length ≤ 20) := Lib.hid (by rw [← hR]; exact envsL_len _ _ _ _)
    have HR1 := Lib.hid hR
    clear hR
    go_wp2_with fail
    refine (toShareS_any a3 len3 cap3 _ _ (I0.out.below HB.out) hn).mono ?_
    rintro e w2 ⟨vt, ct, rfl, ho, hb⟩
    have Ot := Lib.hid (own_mono ho HB.out.size)
    clear ho
    have HB' := Lib.hid (HB.out.trans (hb.mono HB.out.size)); clear HB; have HB := HB'; clear HB'
    clear hb
    go_wp2_with fail
    have hcon := specEnvelopes_any a0 a1 a2 vt len3 ct (z3.take len3) _ (HR.own Ot.out) hn HT0.out
    rw [HR1.out] at hcon
    refine hcon.mono ?_
    rintro e w3 ⟨vW, kW, cW, rfl, ho, hb⟩
    clear hcon
    have hkW : rl.length = kW := envs_len ho
    have OW := Lib.hid (own_mono ho HB.out.size)
    have DtW := own_disj Ot.out ho
    clear ho
    have HB' := Lib.hid (HB.out.trans (hb.mono HB.out.size)); clear HB; have HB := HB'; clear HB'
    replace Ot := Lib.hid (own_below Ot.out hb)
    clear hb
    subst hkW
    have HKK := Lib.hid HRL.out
    go_wp2_with fail
    clear Ot
    refine (toShareS_any a3 len3 cap3 _ _ (I0.out.below HB.out) hn).mono ?_
    rintro e w4 ⟨vx, cx, rfl, ho, hb⟩
    have Ox := Lib.hid (own_mono ho HB.out.size)
    have DWx := own_disj OW.out ho
    clear ho
    have HB' := Lib.hid (HB.out.trans (hb.mono HB.out.size)); clear HB; have HB := HB'; clear HB'
    replace OW := Lib.hid (own_below OW.out hb)
    clear hb
    go_wp2_with fail
    have hcon := implEnvelopes_any a0 a1 a2 vx len3 cx (z3.take len3) _ (HR.own Ox.out) hn HT0.out
    rw [HR1.out] at hcon
    refine hcon.mono ?_
    rintro e w5 ⟨vG, kG, cG, rfl, ho, hb⟩
    clear hcon
    have hkG : rl.length = kG := envs_len ho
    have OG := Lib.hid (own_mono ho HB.out.size)
    have DWG := own_disj OW.out ho
    have DxG := own_disj Ox.out ho
    clear ho
    have HB' := Lib.hid (HB.out.trans (hb.mono HB.out.size)); clear HB; have HB := HB'; clear HB'
    replace OW := Lib.hid (own_below OW.out hb)
    replace Ox := Lib.hid (own_below Ox.out hb)
    clear hb
    subst hkG
    go_wp2_with fail
    refine (eqEnvS_same vG vW _ cG cW rl _ (ER.own OG.out) (ER.own OW.out) (by have := HRL.out; omega)).mono ?_
    rintro e w6 ⟨rfl, hb⟩
    have HB' := Lib.hid (HB.out.trans (hb.mono HB.out.size)); clear HB; have HB := HB'; clear HB'
    replace OW := Lib.hid (own_below OW.out hb)
    replace Ox := Lib.hid (own_below Ox.out hb)
    replace OG := Lib.hid (own_below OG.out hb)
    clear hb
    go_wp2_with fail
    refine (toShareS_any a3 len3 cap3 _ _ (I0.out.below HB.out) hn).mono ?_
    rintro e w7 ⟨vy, cy, rfl, ho, hb⟩
    have Oy := Lib.hid (own_mono ho HB.out.size)
    have DWy := own_disj OW.out ho
    have Dxy := own_disj Ox.out ho
    have DGy := own_disj OG.out ho
    clear ho
    have HB' := Lib.hid (HB.out.trans (hb.mono HB.out.size)); clear HB; have HB := HB'; clear HB'
    replace OW := Lib.hid (own_below OW.out hb)
    replace Ox := Lib.hid (own_below Ox.out hb)
    replace OG := Lib.hid (own_below OG.out hb)
    clear hb
    go_wp2_with fail
    refine (eqShareS_same vx vy len3 cx cy _ _ (HR.own Ox.out) (HR.own Oy.out) hn).mono ?_
    rintro e w8 ⟨rfl, hb⟩
    have HB' := Lib.hid (HB.out.trans (hb.mono HB.out.size)); clear HB; have HB := HB'; clear HB'
    replace OW := Lib.hid (own_below OW.out hb)
    replace Ox := Lib.hid (own_below Ox.out hb)
    replace OG := Lib.hid (own_below OG.out hb)
    replace Oy := Lib.hid (own_below Oy.out hb)
    clear hb
    go_wp2_with fail
    clear Oy
    refine (markShareS_any vx _ len3 cx _ 1 _ Ox.out hn (by omega) (by omega)).mono ?_
    rintro e w9 ⟨rfl, ho, hg⟩
    have HB' := Lib.hid (below_grow HB.out Ox.out (Nat.le_refl _) hg HB.out.size); clear HB; have HB := HB'; clear HB'
    replace OW := Lib.hid (own_grown OW.out hg DWx)
    replace OG := Lib.hid (own_grown OG.out hg DxG.symm)
    clear ho hg Ox
    have hge : ¬ ((1 : Nat) : Int) + 2 * (len3 : Int) < 0 := by omega
    go_wp2_with fail
    refine (eqEnvS_same vG vW _ cG cW rl _ (ER.own OG.out) (ER.own OW.out) (by have := HRL.out; omega)).mono ?_
    rintro e w10 ⟨rfl, hb⟩
    have HB' := Lib.hid (HB.out.trans (hb.mono HB.out.size)); clear HB; have HB := HB'; clear HB'
    replace OW := Lib.hid (own_below OW.out hb)
    replace OG := Lib.hid (own_below OG.out hb)
    clear hb
    go_wp2_with fail
    refine (markEnvS_any vG _ _ cG _ 1 _ OG.out (by have := HRL.out; omega) (by omega) (by omega)).mono ?_
    rintro e w11 ⟨rfl, ho, hg⟩
    have HB' := Lib.hid (below_grow HB.out OG.out (Nat.le_refl _) hg HB.out.size); clear HB; have HB := HB'; clear HB'
    replace OW := Lib.hid (own_grown OW.out hg DWG)
    replace OG := Lib.hid ho
    clear ho hg
    go_wp2_with fail
    refine (heldEnvS_any vG _ cG 1 _ (ER.own OG.out) (by have := HRL.out; omega) (by omega) (by omega)).mono ?_
    rintro e w12 ⟨rfl, hb⟩
    have HB' := Lib.hid (HB.out.trans (hb.mono HB.out.size)); clear HB; have HB := HB'; clear HB'
    replace OW := Lib.hid (own_below OW.out hb)
    replace OG := Lib.hid (own_below OG.out hb)
    clear hb
    go_wp2_with fail
    refine (toShareS_any a3 len3 cap3 _ _ (I0.out.below HB.out) hn).mono ?_
    rintro e w13 ⟨vz, cz, rfl, ho, hb⟩
    have Oz := Lib.hid (own_mono ho HB.out.size)
    have DWz := own_disj OW.out ho
    have DGz := own_disj OG.out ho
    clear ho
    have HB' := Lib.hid (HB.out.trans (hb.mono HB.out.size)); clear HB; have HB := HB'; clear HB'
    replace OW := Lib.hid (own_below OW.out hb)
    replace OG := Lib.hid (own_below OG.out hb)
    clear hb
    go_wp2_with fail
    have hcon := implEnvelopes_any a0 a1 a2 vz len3 cz (z3.take len3) _ (HR.own Oz.out) hn HT0.out
    rw [HR1.out] at hcon
    refine hcon.mono ?_
    rintro e w14 ⟨vH, kH, cH, rfl, ho, hb⟩
    clear hcon
    have hkH : rl.length = kH := envs_len ho
    have OH := Lib.hid (own_mono ho HB.out.size)
    have DWH := own_disj OW.out ho
    have DGH := own_disj OG.out ho
    have DzH := own_disj Oz.out ho
    clear ho
    have HB' := Lib.hid (HB.out.trans (hb.mono HB.out.size)); clear HB; have HB := HB'; clear HB'
    replace OW := Lib.hid (own_below OW.out hb)
    replace OG := Lib.hid (own_below OG.out hb)
    replace Oz := Lib.hid (own_below Oz.out hb)
    clear hb
    subst hkH
    go_wp2_with fail
    clear Oz
    refine (eqEnvS_same vH vW _ cH cW rl _ (ER.own OH.out) (ER.own OW.out) (by have := HRL.out; omega)).mono ?_
    rintro e w15 ⟨rfl, hb⟩
    have HB' := Lib.hid (HB.out.trans (hb.mono HB.out.size)); clear HB; have HB := HB'; clear HB'
    replace OW := Lib.hid (own_below OW.out hb)
    replace OG := Lib.hid (own_below OG.out hb)
    replace OH := Lib.hid (own_below OH.out hb)
    clear hb
    go_wp2_with fail
    refine (heldEnvS_any vG _ cG 1 _ (ER.own OG.out) (by have := HRL.out; omega) (by omega) (by omega)).mono ?_
    rintro e w16 ⟨rfl, hb⟩
    have HB' := Lib.hid (HB.out.trans (hb.mono HB.out.size)); clear HB; have HB := HB'; clear HB'
    replace OW := Lib.hid (own_below OW.out hb)
    replace OG := Lib.hid (own_below OG.out hb)
    replace OH := Lib.hid (own_below OH.out hb)
    clear hb
    go_wp2_with fail
    go_ret
    exact ⟨rfl, HB.out⟩

/-! ### THE ROW's STEP: WRITTEN OUT: LEAVE IT -/
set_option maxRecDepth 100000 in
theorem lifted (os : Os) (started : os.Started) (H : Type) (enc : TypeId × Value → H) :
    ReturnsInHanded {} Try.checked os 5 .any (Rows.fnExactEnvelopesSpec.pre6 enc Try.prog Try.f5 Rows.fnExactEnvelopesRow.domain false) (Rows.fnExactEnvelopesSpec.post enc Try.prog Try.f5 false true false false) := by
  refine returnsInHanded_of_change (C := Try.checked) own started (by kernel_rfl) Try.func5
    (ChangeSpec.witness6 (enc := enc) (C := Try.checked) false ⟨#[], #[.int .i64 0, .int .i64 0, .int .i64 0, .slice none 0 0], []⟩ 8 (by kernel_rfl) (by kernel_rfl) (by kernel_rfl) (by kernel_rfl)) ?_
  intro W base args ds gs before hval0 hW hcnd _
  have hval : ∀ (j : Nat) t v, Try.f5.params[j]? = some t → args[j]? = some v → Value.okWide Try.prog W .any base t v := hval0
  have hW' := hW
  obtain ⟨p, q, hA0, hV, rfl, hfz, hnd⟩ := hW
  have hA : DataW.TrodAll enc Try.prog W 0 (fun _ => true) true Try.f5.params.toList args.toList ds p := hA0
  rw [Try.params5] at hA hval
  obtain ⟨v0, vs0, d0, ds0, p0, q0, hargs, rfl, rfl, h0, r0⟩ := trodAll_cons hA
  obtain ⟨v1, vs1, d1, ds1, p1, q1, rfl, rfl, rfl, h1, r1⟩ := trodAll_cons r0
  obtain ⟨v2, vs2, d2, ds2, p2, q2, rfl, rfl, rfl, h2, r2⟩ := trodAll_cons r1
  obtain ⟨v3, vs3, d3, ds3, p3, q3, rfl, rfl, rfl, h3, r3⟩ := trodAll_cons r2
  obtain ⟨rfl, rfl, rfl⟩ := trodAll_nil r3
  obtain rfl : args = #[v0, v1, v2, v3] := by cases args; simp_all
  obtain ⟨rfl, rfl⟩ := trodVars_none hV
  obtain ⟨a0, rfl, rfl, rfl, w0⟩ := open_int Try.underlying2 (hval 0 2 v0 rfl rfl) h0
  obtain ⟨a1, rfl, rfl, rfl, w1⟩ := open_int Try.underlying2 (hval 1 2 v1 rfl rfl) h1
  obtain ⟨a2, rfl, rfl, rfl, w2⟩ := open_int Try.underlying2 (hval 2 2 v2 rfl rfl) h2
  obtain ⟨a3, len3, cap3, rfl⟩ := okWide_slice Try.underlying30 (hval 3 30 v3 rfl rfl)
  have k3 := h3
  have lt3 : ∀ x ∈ p3, x.block < W.heap.size := by obtain ⟨m, hm⟩ := k3; exact DataW.trod_lt m _ _ _ hm
  obtain ⟨z3, w3⟩ : ∃ zs, IsShares W a3 len3 cap3 zs := by
    obtain ⟨fuel, hf⟩ := h3
    rcases Go.Deep.open_slice_pairs Try.underlying30 Try.underlying49 (by kernel_rfl) rfl rfl (by kernel_rfl) (by kernel_rfl) hf with ⟨hcs, _⟩ | ⟨x, l, c, m, nn, V0, V1, D0, D1, P0, P1, hcs, _, hl, hm, hmm, _, hx⟩
    · simp [Value.cells] at hcs
      obtain ⟨rfl, rfl, rfl⟩ := hcs
      exact ⟨[], .inl ⟨rfl, rfl, rfl, rfl⟩⟩
    · simp [Value.cells] at hcs
      obtain ⟨rfl, rfl, rfl⟩ := hcs
      have hmc : m = cap3 := by simpa using hmm
      subst hmc
      obtain ⟨q, hq⟩ := Go.Deep.choose_lt (α := Int × ByteArray) (n := m) (p := fun i q => W.cell? (x.add (i * 2)) = some (.int .i64 q.1) ∧ W.cell? (x.add (i * 2 + 1)) = some (.string q.2) ∧ q.2.size ≤ maxLen) (fun i hi => by
        obtain ⟨e0, e1, t0, t1⟩ := hx i hi
        obtain ⟨y0, hy0, _⟩ := DataW.trod_int Try.underlying2 t0
        obtain ⟨y1, hy1, _, hs1⟩ := DataW.trod_string Try.underlying9 t1
        simp only [List.cons.injEq, and_true] at hy0 hy1
        exact ⟨(y0, y1), by rw [e0, hy0], by rw [e1, hy1], hs1⟩)
      refine ⟨(List.range m).map q, .inr ⟨_, rfl, hl, hm, by simp, fun i hi => ?_⟩⟩
      have := hq i hi
      simpa [List.getD, hi] using this
  clear hA0 hval0
  refine (walk a0 a1 a2 a3 len3 cap3 z3 W w0 w1 w2 w3).mono fun e W' ⟨he, bel⟩ => ?_
  subst he
  exact ⟨_, rfl, _, _, _, [], _, [], hW', trodAll_mk1 (shut_bool Try.underlying4 _), (trodAll_cons_mk (shut_int Try.underlying2 w0) (trodAll_cons_mk (shut_int Try.underlying2 w1) (trodAll_cons_mk (shut_int Try.underlying2 w2) (trodAll_cons_mk (Below.trod laidOut (by kernel_rfl) (of_decide_eq_true (by kernel_rfl)) k3 bel lt3) trodAll_mk0)))), rfl, bel.frame _, fun h => by cases h⟩

theorem over : Rows.fnExactEnvelopesRow.holds Try.pinned (OpenSpec.ofChange Rows.fnExactEnvelopesSpec) :=
  OpenClaim.holds_of_wide 5 Try.f5 rfl rfl rfl rfl rfl rfl rfl ⟨rfl, rfl, rfl, rfl, rfl⟩ rfl rfl rfl rfl rfl (by kernel_rfl) Try.func5 (by kernel_rfl)
    (of_decide_eq_true (by kernel_rfl)) (by unfold Func.isWrapper; first | (rw [if_pos (by decide +kernel)]; kernel_rfl) | (rw [if_neg (by decide +kernel)]; exact ⟨rfl, rfl⟩))
    (fun os started H enc _ => lifted os started H enc)

/-- ████ THE STATEMENT ████ -/
theorem proved : Rows.FnExactEnvelopesSaid := over
end Go.Proofs.Ytdnbkjiijpeiiaa.fnExactEnvelopes
