/- PROVED: the statement 'FnExactSplitSaid': at every argument the law's function answers true and leaves its arguments as they were. The frame was written by the kit's own frame writer. -/
import Derived.Test.YtnlmbcdaolccbaaHShB
import Derived.Test.YtnlmbcdaolccbaaSSp3
import Derived.Test.YtnlmbcdaolccbaaSpl7
import Derived.Test.YtnlmbcdaolccbaaRows
import Derived.WalkKit
import Derived.ProofKit
import Derived.OpenShut
import Derived.ShutString
import Derived.ChangeOld
import Derived.Below
namespace Go.Proofs.Ytnlmbcdaolccbaa.fnExactSplit
open Go.ChangeShapes Go.WideShapes Go.ChangeAt Go.RowKit
open Go.ChangeMaps (open_string shut_string)
set_option linter.unusedVariables false      -- a walk need not use every 'w<i>' (that an integer argument fits its kind)

theorem own : ownKnob Try.prog.godebug = none := by kernel_rfl

open G MGF IRow Go.PlainAid

/-! ### The walk. -/
set_option maxRecDepth 100000 in
set_option maxHeartbeats 4000000 in
theorem walk (a0 : ByteArray) (a1 : Int) (a2 : Int) (a3 : ByteArray) (w0 : a0.size ≤ maxLen) (w1 : (Lit.int .i64 a1).wf = true) (w2 : (Lit.int .i64 a2).wf = true) (w3 : a3.size ≤ maxLen) (w : World) :
    Calls Try.prog 5 #[.string a0, .int .i64 a1, .int .i64 a2, .string a3] w fun e w' => e = .returned (.bool true) ∧ Below w.heap.size w w' := by
  have HT0 := Lib.hid w0
  have HT1 := Lib.hid w3
  unfold maxLen at w0 w3
  by_cases h0 : 1048576 < a0.size
  · go_enter Try.func5, Try.ntmps5
    go_wp2
    go_ret
    exact ⟨rfl, Below.refl _ _⟩
  by_cases h1 : 1048576 < a3.size
  · go_enter Try.func5, Try.ntmps5
    go_wp2
    go_ret
    exact ⟨rfl, Below.refl _ _⟩
  · go_enter Try.func5, Try.ntmps5
    have HB := Lib.hid (Below.refl w.heap.size w)
    obtain ⟨⟨rl, rc⟩, hR⟩ : ∃ r, splitR a0 a1 a2 a3 = r := ⟨_, rfl⟩
    have HRL : Hid (rl.length ≤ 1048576) := Lib.hid (by have := splitR_len a0 a1 a2 a3; rw [hR] at this; exact Nat.le_trans this (by decide))
    have HR1 := Lib.hid hR; clear hR
    go_wp2_with fail
    have hcon := specSplit_any a0 a3 a1 a2 w HT0.out HT1.out
    rw [HR1.out] at hcon
    refine hcon.mono ?_
    rintro e w3 ⟨vW, kW, cW, rfl, ho, hb⟩
    clear hcon
    have hkW : rl.length = kW := shares_len ho
    have HKW : Hid (kW ≤ 1048576) := Lib.hid (by have := HRL.out; omega)
    have HKEW := Lib.hid hkW; clear hkW
    dsimp only
    have OW := Lib.hid (own_mono ho HB.out.size)
    clear ho
    have HB' := Lib.hid (HB.out.trans (hb.mono HB.out.size)); clear HB; have HB := HB'; clear HB'
    clear hb
    have hbx : Below w3.heap.size w3 (w3.alloc (.cells #[.slice vW kW cW, .int .i64 rc] 49)) := (Below.refl _ _).alloc (Nat.le_refl _) _
    have hob := box_made w3 (.slice vW kW cW) (.int .i64 rc) 49
    have DWBW := own_disj OW.out hob
    have OBW := Lib.hid (own_mono hob HB.out.size); clear hob
    have HB' := Lib.hid (HB.out.trans (hbx.mono HB.out.size)); clear HB; have HB := HB'; clear HB'
    replace OW := Lib.hid (own_below OW.out hbx)
    clear hbx
    obtain ⟨hW, hhW⟩ : ∃ h, h = w3.heap.size := ⟨_, rfl⟩
    go_wp2_with fail
    generalize w3.alloc (.cells #[.slice vW kW cW, .int .i64 rc] 49) = w4 at *
    have hcon := implSplit_any a0 a3 a1 a2 w4 HT0.out HT1.out
    rw [HR1.out] at hcon
    refine hcon.mono ?_
    rintro e w6 ⟨vG, kG, cG, rfl, ho, hb⟩
    clear hcon
    have hkG : rl.length = kG := shares_len ho
    have HKG : Hid (kG ≤ 1048576) := Lib.hid (by have := HRL.out; omega)
    have HKEG := Lib.hid hkG; clear hkG
    dsimp only
    have DWG := own_disj OW.out ho
    have DBWG := own_disj OBW.out ho
    have OG := Lib.hid (own_mono ho HB.out.size)
    clear ho
    have HB' := Lib.hid (HB.out.trans (hb.mono HB.out.size)); clear HB; have HB := HB'; clear HB'
    replace OW := Lib.hid (own_below OW.out hb)
    replace OBW := Lib.hid (own_below OBW.out hb)
    clear hb
    have hbx : Below w6.heap.size w6 (w6.alloc (.cells #[.slice vG kG cG, .int .i64 rc] 49)) := (Below.refl _ _).alloc (Nat.le_refl _) _
    have hob := box_made w6 (.slice vG kG cG) (.int .i64 rc) 49
    have DGBG := own_disj OG.out hob
    have OBG := Lib.hid (own_mono hob HB.out.size); clear hob
    have HB' := Lib.hid (HB.out.trans (hbx.mono HB.out.size)); clear HB; have HB := HB'; clear HB'
    replace OW := Lib.hid (own_below OW.out hbx)
    replace OBW := Lib.hid (own_below OBW.out hbx)
    replace OG := Lib.hid (own_below OG.out hbx)
    clear hbx
    obtain ⟨hG, hhG⟩ : ∃ h, h = w6.heap.size := ⟨_, rfl⟩
    obtain ⟨hxG, hyG⟩ := box_cells OBG.out
    obtain ⟨hxW, hyW⟩ := box_cells OBW.out
    go_wp2_with fail
    generalize w6.alloc (.cells #[.slice vG kG cG, .int .i64 rc] 49) = w7 at *
    have hkk : kG = kW := HKEG.out.symm.trans HKEW.out
    subst hkk
    refine (eqSharesOut_same vG vW kG cG cW rl rc _ (HR.own OG.out) (HR.own OW.out) HKG.out).mono ?_
    rintro e w8 ⟨rfl, hb⟩
    clear hxG hyG hxW hyW
    have HB' := Lib.hid (HB.out.trans (hb.mono HB.out.size)); clear HB; have HB := HB'; clear HB'
    replace OW := Lib.hid (own_below OW.out hb)
    replace OBW := Lib.hid (own_below OBW.out hb)
    replace OG := Lib.hid (own_below OG.out hb)
    replace OBG := Lib.hid (own_below OBG.out hb)
    clear hb
    obtain ⟨hxG, hyG⟩ := box_cells OBG.out
    go_wp2_with fail
    refine (markSharesOut_any vG _ kG cG _ rc 1 _ OG.out HKG.out (by omega) (by omega)).mono ?_
    rintro e w13 ⟨rfl, ho, hg⟩
    clear hxG hyG
    have HB' := Lib.hid (below_grow HB.out OG.out (Nat.le_refl _) hg HB.out.size); clear HB; have HB := HB'; clear HB'
    replace OW := Lib.hid (own_grown OW.out hg DWG)
    replace OBW := Lib.hid (own_grown OBW.out hg DBWG)
    replace OBG := Lib.hid (own_grown OBG.out hg DGBG.symm)
    replace OG := Lib.hid ho; clear ho hg
    obtain ⟨hxG, hyG⟩ := box_cells OBG.out
    go_wp2_with fail
    refine (heldSharesOut_any vG kG cG rc 1 _ (HR.own OG.out) HKG.out (by omega) (by omega)).mono ?_
    rintro e w14 ⟨rfl, hb⟩
    clear hxG hyG
    have HB' := Lib.hid (HB.out.trans (hb.mono HB.out.size)); clear HB; have HB := HB'; clear HB'
    replace OW := Lib.hid (own_below OW.out hb)
    replace OBW := Lib.hid (own_below OBW.out hb)
    replace OG := Lib.hid (own_below OG.out hb)
    replace OBG := Lib.hid (own_below OBG.out hb)
    clear hb
    go_wp2_with fail
    have hcon := implSplit_any a0 a3 a1 a2 w14 HT0.out HT1.out
    rw [HR1.out] at hcon
    refine hcon.mono ?_
    rintro e w16 ⟨vH, kH, cH, rfl, ho, hb⟩
    clear hcon
    have hkH : rl.length = kH := shares_len ho
    have HKH : Hid (kH ≤ 1048576) := Lib.hid (by have := HRL.out; omega)
    have HKEH := Lib.hid hkH; clear hkH
    dsimp only
    have OH := Lib.hid (own_mono ho HB.out.size)
    clear ho
    have HB' := Lib.hid (HB.out.trans (hb.mono HB.out.size)); clear HB; have HB := HB'; clear HB'
    replace OW := Lib.hid (own_below OW.out hb)
    replace OBW := Lib.hid (own_below OBW.out hb)
    replace OG := Lib.hid (own_below OG.out hb)
    replace OBG := Lib.hid (own_below OBG.out hb)
    clear hb
    have hbx : Below w16.heap.size w16 (w16.alloc (.cells #[.slice vH kH cH, .int .i64 rc] 49)) := (Below.refl _ _).alloc (Nat.le_refl _) _
    have hob := box_made w16 (.slice vH kH cH) (.int .i64 rc) 49
    have OBH := Lib.hid (own_mono hob HB.out.size); clear hob
    have HB' := Lib.hid (HB.out.trans (hbx.mono HB.out.size)); clear HB; have HB := HB'; clear HB'
    replace OW := Lib.hid (own_below OW.out hbx)
    replace OBW := Lib.hid (own_below OBW.out hbx)
    replace OG := Lib.hid (own_below OG.out hbx)
    replace OBG := Lib.hid (own_below OBG.out hbx)
    replace OH := Lib.hid (own_below OH.out hbx)
    clear hbx
    obtain ⟨hH, hhH⟩ : ∃ h, h = w16.heap.size := ⟨_, rfl⟩
    obtain ⟨hxH, hyH⟩ := box_cells OBH.out
    obtain ⟨hxW, hyW⟩ := box_cells OBW.out
    go_wp2_with fail
    generalize w16.alloc (.cells #[.slice vH kH cH, .int .i64 rc] 49) = w17 at *
    have hkk : kH = kG := HKEH.out.symm.trans HKEG.out
    subst hkk
    refine (eqSharesOut_same vH vW kH cH cW rl rc _ (HR.own OH.out) (HR.own OW.out) HKH.out).mono ?_
    rintro e w18 ⟨rfl, hb⟩
    clear hxH hyH hxW hyW
    have HB' := Lib.hid (HB.out.trans (hb.mono HB.out.size)); clear HB; have HB := HB'; clear HB'
    replace OG := Lib.hid (own_below OG.out hb)
    replace OBG := Lib.hid (own_below OBG.out hb)
    clear hb OW OBW OH OBH
    obtain ⟨hxG, hyG⟩ := box_cells OBG.out
    go_wp2_with fail
    refine (heldSharesOut_any vG kH cG rc 1 _ (HR.own OG.out) HKH.out (by omega) (by omega)).mono ?_
    rintro e w19 ⟨rfl, hb⟩
    clear hxG hyG
    have HB' := Lib.hid (HB.out.trans (hb.mono HB.out.size)); clear HB; have HB := HB'; clear HB'
    clear hb
    go_wp2_with fail
    go_ret
    exact ⟨rfl, HB.out⟩

/-! ### THE ROW's STEP: WRITTEN OUT: LEAVE IT -/
set_option maxRecDepth 100000 in
theorem lifted (os : Os) (started : os.Started) (H : Type) (enc : TypeId × Value → H) :
    ReturnsInHanded {} Try.checked os 5 .any (Rows.fnExactSplitSpec.pre6 enc Try.prog Try.f5 Rows.fnExactSplitRow.domain false) (Rows.fnExactSplitSpec.post enc Try.prog Try.f5 false true false false) := by
  refine returnsInHanded_of_change (C := Try.checked) own started (by kernel_rfl) Try.func5
    (ChangeSpec.witness6 (enc := enc) (C := Try.checked) false ⟨#[], #[.string ByteArray.empty, .int .i64 0, .int .i64 0, .string ByteArray.empty], []⟩ 8 (by kernel_rfl) (by kernel_rfl) (by kernel_rfl) (by kernel_rfl)) ?_
  intro W base args ds gs before hval0 hW hcnd _
  have hval : ∀ (j : Nat) t v, Try.f5.params[j]? = some t → args[j]? = some v → Value.okWide Try.prog W .any base t v := hval0
  have hW' := hW
  obtain ⟨p, q, hA0, hV, rfl, hfz, hnd⟩ := hW
  have hA : DataW.TrodAll enc Try.prog W 0 (fun _ => true) true Try.f5.params.toList args.toList ds p := hA0
  rw [Try.params5] at hA hval
  obtain ⟨v0, vs0, d0, ds0, p0, q0, hargs, rfl, rfl, h0, r0⟩ := trodAll_cons hA
  obtain ⟨v1, vs1, d1, ds1, p1, q1, rfl, rfl, rfl, h1, r1⟩ := trodAll_cons r0
  obtain ⟨v2, vs2, d2, ds2, p2, q2, rfl, rfl, rfl, h2, r2⟩ := trodAll_cons r1
  obtain ⟨v3, vs3, d3, ds3, p3, q3, rfl, rfl, rfl, h3, r3⟩ := trodAll_cons r2
  obtain ⟨rfl, rfl, rfl⟩ := trodAll_nil r3
  obtain rfl : args = #[v0, v1, v2, v3] := by cases args; simp_all
  obtain ⟨rfl, rfl⟩ := trodVars_none hV
  obtain ⟨a0, rfl, rfl, rfl, w0⟩ := open_string Try.underlying9 (hval 0 9 v0 rfl rfl) h0
  obtain ⟨a1, rfl, rfl, rfl, w1⟩ := open_int Try.underlying2 (hval 1 2 v1 rfl rfl) h1
  obtain ⟨a2, rfl, rfl, rfl, w2⟩ := open_int Try.underlying2 (hval 2 2 v2 rfl rfl) h2
  obtain ⟨a3, rfl, rfl, rfl, w3⟩ := open_string Try.underlying9 (hval 3 9 v3 rfl rfl) h3
  clear hA0 hval0
  simp only [List.append_nil] at hW'
  refine (walk a0 a1 a2 a3 w0 w1 w2 w3 W).mono fun e W' ⟨he, hg⟩ => ?_
  subst he
  exact ⟨_, rfl, _, _, _, [], _, [], hW', trodAll_mk1 (shut_bool Try.underlying4 _), (trodAll_cons_mk (shut_string Try.underlying9 w0) (trodAll_cons_mk (shut_int Try.underlying2 w1) (trodAll_cons_mk (shut_int Try.underlying2 w2) (trodAll_cons_mk (shut_string Try.underlying9 w3) trodAll_mk0)))), rfl, hg.frame _, fun h => by cases h⟩

theorem over : Rows.fnExactSplitRow.holds Try.pinned (OpenSpec.ofChange Rows.fnExactSplitSpec) :=
  OpenClaim.holds_of_wide 5 Try.f5 rfl rfl rfl rfl rfl rfl rfl ⟨rfl, rfl, rfl, rfl, rfl⟩ rfl rfl rfl rfl rfl (by kernel_rfl) Try.func5 (by kernel_rfl)
    (of_decide_eq_true (by kernel_rfl)) (by unfold Func.isWrapper; first | (rw [if_pos (by decide +kernel)]; kernel_rfl) | (rw [if_neg (by decide +kernel)]; exact ⟨rfl, rfl⟩))
    (fun os started H enc _ => lifted os started H enc)

/-- ████ THE STATEMENT ████ -/
theorem proved : Rows.FnExactSplitSaid :=
  over
end Go.Proofs.Ytnlmbcdaolccbaa.fnExactSplit
