/- PROVED: the statement 'FnExactHideSaid': at every argument the law's function answers true and leaves its arguments as they were. The frame was written by the kit's own frame writer. -/
import Derived.Test.YtnlmbcdaolccbaaSSp5
import Derived.Test.YtnlmbcdaolccbaaSplG
import Derived.Deep.SlicePairs
import Derived.Test.YtnlmbcdaolccbaaRows
import Derived.WalkKit
import Derived.ProofKit
import Derived.OpenShut
import Derived.ShutString
import Derived.ChangeOld
import Derived.Below
import Derived.ChangeOld
import Derived.Below
namespace Go.Proofs.Ytnlmbcdaolccbaa.fnExactHide
open Go.ChangeShapes Go.WideShapes Go.ChangeAt Go.RowKit
open Go.ChangeMaps (open_string shut_string)
set_option linter.unusedVariables false

theorem own : ownKnob Try.prog.godebug = none := by kernel_rfl
theorem laidOut : laidOutB Try.prog = true := by kernel_rfl

/-- WHAT THE WALK IS TOLD OF A SLICE OF INTEGERS THAT CAME IN: it is nil; or it leads to a row of 'cap' cells, the numbers 'zs' (the first 'len' are its elements, the rest its spare room), each fitting its kind. -/
def IsRow (k : IntKind) (w : World) (a : Option Addr) (len cap : Nat) (zs : List Int) : Prop :=
  (a = none ∧ len = 0 ∧ cap = 0 ∧ zs = []) ∨
  ∃ x, a = some x ∧ len ≤ cap ∧ cap ≤ maxLen ∧ zs.length = cap ∧ (∀ i, i < zs.length → w.cell? (x.add i) = some (.int k (zs.getD i 0))) ∧ ∀ n ∈ zs, (Lit.int k n).wf = true

open G MGF IRow Go.PlainAid
theorem row_of {w : World} {a : Option Addr} {len cap : Nat} {zs : List Int} (h : IsRow .i64 w a len cap zs) : IR w a len cap (zs.take len) := by
  rcases h with ⟨rfl, rfl, rfl, rfl⟩ | ⟨x, rfl, hl, hm, hz, hc, hw⟩
  · exact IR.none w
  · refine ⟨by rw [List.length_take]; omega, hl, (fun h => by cases h), fun h0 => ?_⟩
    obtain ⟨b, o, sp⟩ := x
    have h1 := hc 0 (by omega)
    have hsp : sp = none := by simpa [Addr.add] using World.cell?_spot h1
    subst hsp
    have hadd : ∀ i, (⟨b, o, none⟩ : Addr).add i = ⟨b, o + i, none⟩ := fun i => by unfold Addr.add; split <;> simp_all
    refine ⟨b, o, rfl, World.block_lt_of_cell? w _ h1, fun i hi => ?_⟩
    have h2 := hc i (by omega)
    rw [hadd] at h2
    rw [h2]
    simp [List.getD, hi]

/-! ### The walk. -/
set_option maxRecDepth 100000 in
set_option maxHeartbeats 4000000 in
theorem walk (a0 : ByteArray) (a1 : ByteArray) (a2 : Int) (a3 : Option Addr) (len3 cap3 : Nat) (z3 : List Int) (a4 : ByteArray) (w : World) (w0 : a0.size ≤ maxLen) (w1 : a1.size ≤ maxLen) (w2 : (Lit.int .i64 a2).wf = true) (w3 : IsRow .i64 w a3 len3 cap3 z3) (w4 : a4.size ≤ maxLen) :
    Calls Try.prog 7 #[.string a0, .string a1, .int .i64 a2, .slice a3 len3 cap3, .string a4] w fun e w' => e = .returned (.bool true) ∧ Below w.heap.size w w' := by
  have I0 := Lib.hid (row_of w3)
  have HL0 := I0.out.len
  clear w3
  have HT0 := Lib.hid w0
  have HT1 := Lib.hid w1
  have HT4 := Lib.hid w4
  unfold maxLen at w0 w1 w4
  by_cases h0 : 1048576 < a0.size
  · go_enter Try.func7, Try.ntmps7
    go_wp2
    go_ret
    exact ⟨rfl, Below.refl _ _⟩
  by_cases h1 : 1048576 < a1.size
  · go_enter Try.func7, Try.ntmps7
    go_wp2
    go_ret
    exact ⟨rfl, Below.refl _ _⟩
  by_cases h3 : 1048576 < len3
  · go_enter Try.func7, Try.ntmps7
    go_wp2
    go_ret
    exact ⟨rfl, Below.refl _ _⟩
  by_cases h4 : 1048576 < a4.size
  · go_enter Try.func7, Try.ntmps7
    go_wp2
    go_ret
    exact ⟨rfl, Below.refl _ _⟩
  go_enter Try.func7, Try.ntmps7
  have HB := Lib.hid (Below.refl w.heap.size w)
  have hn : len3 ≤ 1048576 := by omega
  have HN := Lib.hid hn
  go_wp2_with fail
  refine (toInt64S_any a3 len3 cap3 _ _ (I0.out.below HB.out) hn).mono ?_
  rintro e w2 ⟨vt0, ct0, rfl, ho, hb⟩
  have Ot0 := Lib.hid (own_mono ho HB.out.size)
  clear ho
  have HB' := Lib.hid (HB.out.trans (hb.mono HB.out.size)); clear HB; have HB := HB'; clear HB'
  clear hb
  go_wp2_with fail
  obtain ⟨⟨rs, rc⟩, hR⟩ : ∃ q, hideR a0 a1 a2 (z3.take len3) a4 = q := ⟨_, rfl⟩
  have HR1 := Lib.hid hR
  clear hR
  have hcon := specHide_any a0 a1 a4 a2 vt0 len3 ct0 (z3.take len3) _ HT0.out HT1.out HT4.out (IR.own Ot0.out) hn
  rw [HR1.out] at hcon
  refine hcon.mono ?_
  rintro e w3 ⟨rfl, hb⟩
  clear hcon
  dsimp only
  have HB' := Lib.hid (HB.out.trans (hb.mono HB.out.size)); clear HB; have HB := HB'; clear HB'
  clear hb Ot0
  have hbx : Below w3.heap.size w3 (w3.alloc (.cells #[.string rs, .int .i64 rc] 57)) := (Below.refl _ _).alloc (Nat.le_refl _) _
  have hob := box_made w3 (.string rs) (.int .i64 rc) 57
  have OBW := Lib.hid (own_mono hob HB.out.size); clear hob
  have HB' := Lib.hid (HB.out.trans (hbx.mono HB.out.size)); clear HB; have HB := HB'; clear HB'
  clear hbx
  obtain ⟨hW, hhW⟩ : ∃ h, h = w3.heap.size := ⟨_, rfl⟩
  go_wp2_with fail
  generalize w3.alloc (.cells #[.string rs, .int .i64 rc] 57) = w5' at *
  refine (toInt64S_any a3 len3 cap3 _ _ (I0.out.below HB.out) HN.out).mono ?_
  rintro e w5 ⟨vx0, cx0, rfl, ho, hb⟩
  have Ox0 := Lib.hid (own_mono ho HB.out.size)
  clear ho
  have HB' := Lib.hid (HB.out.trans (hb.mono HB.out.size)); clear HB; have HB := HB'; clear HB'
  replace OBW := Lib.hid (own_below OBW.out hb)
  clear hb
  go_wp2_with fail
  have hcon := implHide_any a0 a1 a4 a2 vx0 len3 cx0 (z3.take len3) _ HT0.out HT1.out HT4.out (IR.own Ox0.out) HN.out
  rw [HR1.out] at hcon
  refine hcon.mono ?_
  rintro e w6 ⟨rfl, hb⟩
  clear hcon
  dsimp only
  have HB' := Lib.hid (HB.out.trans (hb.mono HB.out.size)); clear HB; have HB := HB'; clear HB'
  replace OBW := Lib.hid (own_below OBW.out hb)
  replace Ox0 := Lib.hid (own_below Ox0.out hb)
  clear hb
  have hbx : Below w6.heap.size w6 (w6.alloc (.cells #[.string rs, .int .i64 rc] 57)) := (Below.refl _ _).alloc (Nat.le_refl _) _
  have hob := box_made w6 (.string rs) (.int .i64 rc) 57
  have OBG := Lib.hid (own_mono hob HB.out.size); clear hob
  have HB' := Lib.hid (HB.out.trans (hbx.mono HB.out.size)); clear HB; have HB := HB'; clear HB'
  replace OBW := Lib.hid (own_below OBW.out hbx)
  replace Ox0 := Lib.hid (own_below Ox0.out hbx)
  clear hbx
  obtain ⟨hG, hhG⟩ : ∃ h, h = w6.heap.size := ⟨_, rfl⟩
  obtain ⟨hxG, hyG⟩ := box_cells OBG.out
  obtain ⟨hxW, hyW⟩ := box_cells OBW.out
  go_wp2_with fail
  generalize w6.alloc (.cells #[.string rs, .int .i64 rc] 57) = w7 at *
  refine (eqSecretOut_same rs rc _).mono ?_
  rintro e w8 ⟨rfl, hb⟩
  clear hxG hyG hxW hyW OBW OBG
  have HB' := Lib.hid (HB.out.trans (hb.mono HB.out.size)); clear HB; have HB := HB'; clear HB'
  replace Ox0 := Lib.hid (own_below Ox0.out hb)
  clear hb
  go_wp2_with fail
  refine (toInt64S_any a3 len3 cap3 _ _ (I0.out.below HB.out) HN.out).mono ?_
  rintro e w9 ⟨vy0, cy0, rfl, ho, hb⟩
  have Oy0 := Lib.hid (own_mono ho HB.out.size)
  clear ho
  have HB' := Lib.hid (HB.out.trans (hb.mono HB.out.size)); clear HB; have HB := HB'; clear HB'
  replace Ox0 := Lib.hid (own_below Ox0.out hb)
  clear hb
  go_wp2_with fail
  refine (eqInt64S_any vx0 vy0 len3 len3 cx0 cy0 _ _ _ (IR.own Ox0.out) (IR.own Oy0.out) HN.out HN.out).mono ?_
  rintro e w10 ⟨rfl, hb⟩
  rw [decide_eq_true rfl]
  clear Oy0 Ox0
  have HB' := Lib.hid (HB.out.trans (hb.mono HB.out.size)); clear HB; have HB := HB'; clear HB'
  clear hb
  go_wp2_with fail
  go_ret
  exact ⟨rfl, HB.out⟩

/-! ### THE ROW's STEP: WRITTEN OUT: LEAVE IT -/
set_option maxRecDepth 100000 in
theorem lifted (os : Os) (started : os.Started) (H : Type) (enc : TypeId × Value → H) :
    ReturnsInHanded {} Try.checked os 7 .any (Rows.fnExactHideSpec.pre6 enc Try.prog Try.f7 Rows.fnExactHideRow.domain false) (Rows.fnExactHideSpec.post enc Try.prog Try.f7 false true false false) := by
  refine returnsInHanded_of_change (C := Try.checked) own started (by kernel_rfl) Try.func7
    (ChangeSpec.witness6 (enc := enc) (C := Try.checked) false ⟨#[], #[.string ByteArray.empty, .string ByteArray.empty, .int .i64 0, .slice none 0 0, .string ByteArray.empty], []⟩ 8 (by kernel_rfl) (by kernel_rfl) (by kernel_rfl) (by kernel_rfl)) ?_
  intro W base args ds gs before hval0 hW hcnd _
  have hval : ∀ (j : Nat) t v, Try.f7.params[j]? = some t → args[j]? = some v → Value.okWide Try.prog W .any base t v := hval0
  have hW' := hW
  obtain ⟨p, q, hA0, hV, rfl, hfz, hnd⟩ := hW
  have hA : DataW.TrodAll enc Try.prog W 0 (fun _ => true) true Try.f7.params.toList args.toList ds p := hA0
  rw [Try.params7] at hA hval
  obtain ⟨v0, vs0, d0, ds0, p0, q0, hargs, rfl, rfl, h0, r0⟩ := trodAll_cons hA
  obtain ⟨v1, vs1, d1, ds1, p1, q1, rfl, rfl, rfl, h1, r1⟩ := trodAll_cons r0
  obtain ⟨v2, vs2, d2, ds2, p2, q2, rfl, rfl, rfl, h2, r2⟩ := trodAll_cons r1
  obtain ⟨v3, vs3, d3, ds3, p3, q3, rfl, rfl, rfl, h3, r3⟩ := trodAll_cons r2
  obtain ⟨v4, vs4, d4, ds4, p4, q4, rfl, rfl, rfl, h4, r4⟩ := trodAll_cons r3
  obtain ⟨rfl, rfl, rfl⟩ := trodAll_nil r4
  obtain rfl : args = #[v0, v1, v2, v3, v4] := by cases args; simp_all
  obtain ⟨rfl, rfl⟩ := trodVars_none hV
  obtain ⟨a0, rfl, rfl, rfl, w0⟩ := open_string Try.underlying9 (hval 0 9 v0 rfl rfl) h0
  obtain ⟨a1, rfl, rfl, rfl, w1⟩ := open_string Try.underlying9 (hval 1 9 v1 rfl rfl) h1
  obtain ⟨a2, rfl, rfl, rfl, w2⟩ := open_int Try.underlying2 (hval 2 2 v2 rfl rfl) h2
  obtain ⟨a3, len3, cap3, rfl⟩ := okWide_slice Try.underlying23 (hval 3 23 v3 rfl rfl)
  have k3 := h3
  have lt3 : ∀ x ∈ p3, x.block < W.heap.size := by obtain ⟨m, hm⟩ := k3; exact DataW.trod_lt m _ _ _ hm
  obtain ⟨z3, w3⟩ : ∃ zs, IsRow .i64 W a3 len3 cap3 zs := by
    obtain ⟨fuel, hf⟩ := h3
    rcases open_ints Try.underlying23 Try.underlying2 (by kernel_rfl) hf with ⟨hcs, _⟩ | ⟨x, l, c, zs, hcs, _, hl, hm, hz, _, hcell, hwz⟩
    · simp [Value.cells] at hcs
      obtain ⟨rfl, rfl, rfl⟩ := hcs
      exact ⟨[], .inl ⟨rfl, rfl, rfl, rfl⟩⟩
    · simp [Value.cells] at hcs
      obtain ⟨rfl, rfl, rfl⟩ := hcs
      exact ⟨zs, .inr ⟨_, rfl, hl, hm, by simpa using hz, hcell, hwz⟩⟩
  obtain ⟨a4, rfl, rfl, rfl, w4⟩ := open_string Try.underlying9 (hval 4 9 v4 rfl rfl) h4
  clear hA0 hval0
  refine (walk a0 a1 a2 a3 len3 cap3 z3 a4 W w0 w1 w2 w3 w4).mono fun e W' ⟨he, bel⟩ => ?_
  subst he
  exact ⟨_, rfl, _, _, _, [], _, [], hW', trodAll_mk1 (shut_bool Try.underlying4 _), (trodAll_cons_mk (shut_string Try.underlying9 w0) (trodAll_cons_mk (shut_string Try.underlying9 w1) (trodAll_cons_mk (shut_int Try.underlying2 w2) (trodAll_cons_mk (Below.trod laidOut (by kernel_rfl) (of_decide_eq_true (by kernel_rfl)) k3 bel lt3) (trodAll_cons_mk (shut_string Try.underlying9 w4) trodAll_mk0))))), rfl, bel.frame _, fun h => by cases h⟩

theorem over : Rows.fnExactHideRow.holds Try.pinned (OpenSpec.ofChange Rows.fnExactHideSpec) :=
  OpenClaim.holds_of_wide 7 Try.f7 rfl rfl rfl rfl rfl rfl rfl ⟨rfl, rfl, rfl, rfl, rfl⟩ rfl rfl rfl rfl rfl (by kernel_rfl) Try.func7 (by kernel_rfl)
    (of_decide_eq_true (by kernel_rfl)) (by unfold Func.isWrapper; first | (rw [if_pos (by decide +kernel)]; kernel_rfl) | (rw [if_neg (by decide +kernel)]; exact ⟨rfl, rfl⟩))
    (fun os started H enc _ => lifted os started H enc)

/-- ████ THE STATEMENT ████ -/
theorem proved : Rows.FnExactHideSaid := over
end Go.Proofs.Ytnlmbcdaolccbaa.fnExactHide
