/- PROVED: the statement 'FnExactThroughSaid': at every argument the law's function answers true and leaves its arguments as they were. The frame was written by the kit's own frame writer. -/
import Derived.Test.YtfplfkebamgniaaFnPoints
import Derived.Deep.SlicePairs
import Derived.Test.YtfplfkebamgniaaRows
import Derived.WalkKit
import Derived.ProofKit
import Derived.OpenShut
import Derived.ShutString
import Derived.ChangeOld
import Derived.Below
import Derived.ChangeOld
import Derived.Below
namespace Go.Proofs.Ytfplfkebamgniaa.fnExactThrough
open Go.ChangeShapes Go.WideShapes Go.ChangeAt Go.RowKit
open Go.ChangeMaps (open_string shut_string)
set_option linter.unusedVariables false

theorem own : ownKnob Try.prog.godebug = none := by kernel_rfl
theorem laidOut : laidOutB Try.prog = true := by kernel_rfl

/-- WHAT THE WALK IS TOLD OF A SLICE OF INTEGERS THAT CAME IN: it is nil; or it leads to a row of 'cap' cells, the numbers 'zs' (the first 'len' are its elements, the rest its spare room), each fitting its kind. -/
def IsRow (k : IntKind) (w : World) (a : Option Addr) (len cap : Nat) (zs : List Int) : Prop :=
  (a = none ∧ len = 0 ∧ cap = 0 ∧ zs = []) ∨
  ∃ x, a = some x ∧ len ≤ cap ∧ cap ≤ maxLen ∧ zs.length = cap ∧ (∀ i, i < zs.length → w.cell? (x.add i) = some (.int k (zs.getD i 0))) ∧ ∀ n ∈ zs, (Lit.int k n).wf = true

def IsPairs (w : World) (a : Option Addr) (len cap : Nat) (ps : List (Int × Int)) : Prop :=
  (a = none ∧ len = 0 ∧ cap = 0 ∧ ps = []) ∨
  ∃ x, a = some x ∧ len ≤ cap ∧ cap ≤ maxLen ∧ ps.length = cap ∧ ∀ i, i < cap → w.cell? (x.add (i * 2)) = some (.int .i64 (ps.getD i (0, 0)).1) ∧ w.cell? (x.add (i * 2 + 1)) = some (.int .i64 (ps.getD i (0, 0)).2)

open G MGF IRow Go.PlainAid
theorem row_ofP {w : World} {a : Option Addr} {len cap : Nat} {ps : List (Int × Int)} (h : IsPairs w a len cap ps) : PR w a len cap (ps.take len) := by
  rcases h with ⟨rfl, rfl, rfl, rfl⟩ | ⟨x, rfl, hl, hm, hz, hc⟩
  · exact ⟨rfl, Nat.le_refl _, fun _ => rfl, fun h => absurd h (Nat.lt_irrefl 0)⟩
  · refine ⟨by rw [List.length_take]; omega, hl, (fun h => by cases h), fun h0 => ?_⟩
    obtain ⟨b, o, sp⟩ := x
    have h1 := (hc 0 (by omega)).1
    have hsp : sp = none := by simpa [Addr.add] using World.cell?_spot h1
    subst hsp
    have hadd : ∀ i, (⟨b, o, none⟩ : Addr).add i = ⟨b, o + i, none⟩ := fun i => by unfold Addr.add; split <;> simp_all
    refine ⟨b, o, rfl, World.block_lt_of_cell? w _ h1, fun i hi => ?_⟩
    have h2 := hc i (by omega)
    rw [hadd, hadd] at h2
    have e : (ps.take len).getD i (0, 0) = ps.getD i (0, 0) := by simp [List.getD, hi]
    rw [e]
    exact ⟨h2.1, by rw [← Nat.add_assoc] at h2; exact h2.2⟩
theorem len_ofP {w : World} {a : Option Addr} {len cap : Nat} {ps : List (Int × Int)} (h : IsPairs w a len cap ps) : len ≤ 9223372036854775807 := by
  rcases h with ⟨_, rfl, _, _⟩ | ⟨x, _, hl, hm, _⟩
  · omega
  · unfold maxLen at hm; omega

/-! ### The walk. -/
set_option maxRecDepth 100000 in
set_option maxHeartbeats 4000000 in
theorem walk (a0 : Option Addr) (len0 cap0 : Nat) (z0 : List (Int × Int)) (w : World) (w0 : IsPairs w a0 len0 cap0 z0) :
    Calls Try.prog 13 #[.slice a0 len0 cap0] w fun e w' => e = .returned (.bool true) ∧ Below w.heap.size w w' := by
  have I0 := Lib.hid (row_ofP w0)
  have HL0 := I0.out.len
  have HM0 := len_ofP w0
  clear w0
  by_cases h0 : 1048576 < len0
  · go_enter Try.func13, Try.ntmps13
    go_wp2_with fail
    refine (szPointS_any a0 len0 cap0 1048576 _ HM0 (by omega) (by omega)).mono ?_
    rintro e w1 ⟨rfl, rfl⟩
    rw [if_neg (by omega)]
    go_wp2_with fail
    go_ret
    exact ⟨rfl, Below.refl _ _⟩
  · skip
    go_enter Try.func13, Try.ntmps13
    have hneg : ¬ (1048576 : Int) - (len0 : Int) < 0 := by omega
    go_wp2_with fail
    refine (szPointS_any a0 len0 cap0 1048576 _ HM0 (by omega) (by omega)).mono ?_
    rintro e w1 ⟨rfl, rfl⟩
    rw [if_pos (by omega)]
    have HB := Lib.hid (Below.refl w.heap.size w)
    obtain ⟨⟨rl, rc⟩, hR⟩ : ∃ r, throughR (z0.take len0) = r := ⟨_, rfl⟩
    have HRL : Hid (rl.length ≤ 1048576) := Lib.hid (by have := throughR_len (z0.take len0); rw [hR] at this; exact Nat.le_trans this (by decide))
    have HR := Lib.hid hR; clear hR
    go_wp2_with fail
    refine (toPointS_any a0 len0 cap0 _ _ (I0.out.below HB.out) (by omega)).mono ?_
    rintro e w2 ⟨vt0, ct0, rfl, ho, hb⟩
    have Ot0 := Lib.hid (own_mono ho HB.out.size)
    clear ho
    have HB' := Lib.hid (HB.out.trans (hb.mono HB.out.size)); clear HB; have HB := HB'; clear HB'
    clear hb
    go_wp2_with fail
    have hcon := specThrough_any vt0 len0 ct0 (z0.take len0) _ (PR.own Ot0.out) (by omega)
    rw [HR.out] at hcon
    refine hcon.mono ?_
    rintro e w3 ⟨vW, kW, cW, rfl, ho, hb⟩
    clear hcon
    have hkW : rl.length = kW := by have := ho.1; simpa using this
    have HKW : Hid (kW ≤ 1048576) := Lib.hid (by have := HRL.out; omega)
    have HKEW := Lib.hid hkW; clear hkW
    unfold polyV; dsimp only
    clear Ot0
    have OW := Lib.hid (own_mono ho HB.out.size)
    clear ho
    have HB' := Lib.hid (HB.out.trans (hb.mono HB.out.size)); clear HB; have HB := HB'; clear HB'
    clear hb
    have hbx : Below w3.heap.size w3 (w3.alloc (.cells #[.slice vW kW cW, .int .i64 rc] 34)) := (Below.refl _ _).alloc (Nat.le_refl _) _
    have hob := box_made w3 (.slice vW kW cW) (.int .i64 rc) 34
    have DWBW := own_disj OW.out hob
    have OBW := Lib.hid (own_mono hob HB.out.size); clear hob
    have HB' := Lib.hid (HB.out.trans (hbx.mono HB.out.size)); clear HB; have HB := HB'; clear HB'
    replace OW := Lib.hid (own_below OW.out hbx)
    clear hbx
    obtain ⟨hW, hhW⟩ : ∃ h, h = w3.heap.size := ⟨_, rfl⟩
    go_wp2_with fail
    generalize w3.alloc (.cells #[.slice vW kW cW, .int .i64 rc] 34) = w4 at *
    skip
    refine (toPointS_any a0 len0 cap0 _ _ (I0.out.below HB.out) (by omega)).mono ?_
    rintro e w5 ⟨vx0, cx0, rfl, ho, hb⟩
    have DWx0 := own_disj OW.out ho
    have DBWx0 := own_disj OBW.out ho
    have Ox0 := Lib.hid (own_mono ho HB.out.size)
    clear ho
    have HB' := Lib.hid (HB.out.trans (hb.mono HB.out.size)); clear HB; have HB := HB'; clear HB'
    replace OW := Lib.hid (own_below OW.out hb)
    replace OBW := Lib.hid (own_below OBW.out hb)
    clear hb
    go_wp2_with fail
    have hcon := implThrough_any vx0 len0 cx0 (z0.take len0) _ (PR.own Ox0.out) (by omega)
    rw [HR.out] at hcon
    refine hcon.mono ?_
    rintro e w6 ⟨vG, kG, cG, rfl, ho, hb⟩
    clear hcon
    have hkG : rl.length = kG := by have := ho.1; simpa using this
    have HKG : Hid (kG ≤ 1048576) := Lib.hid (by have := HRL.out; omega)
    have HKEG := Lib.hid hkG; clear hkG
    unfold polyV; dsimp only
    have DWG := own_disj OW.out ho
    have DBWG := own_disj OBW.out ho
    have Dx0G := own_disj Ox0.out ho
    have OG := Lib.hid (own_mono ho HB.out.size)
    clear ho
    have HB' := Lib.hid (HB.out.trans (hb.mono HB.out.size)); clear HB; have HB := HB'; clear HB'
    replace OW := Lib.hid (own_below OW.out hb)
    replace OBW := Lib.hid (own_below OBW.out hb)
    replace Ox0 := Lib.hid (own_below Ox0.out hb)
    clear hb
    have hbx : Below w6.heap.size w6 (w6.alloc (.cells #[.slice vG kG cG, .int .i64 rc] 34)) := (Below.refl _ _).alloc (Nat.le_refl _) _
    have hob := box_made w6 (.slice vG kG cG) (.int .i64 rc) 34
    have DWBG := own_disj OW.out hob
    have DBWBG := own_disj OBW.out hob
    have Dx0BG := own_disj Ox0.out hob
    have DGBG := own_disj OG.out hob
    have OBG := Lib.hid (own_mono hob HB.out.size); clear hob
    have HB' := Lib.hid (HB.out.trans (hbx.mono HB.out.size)); clear HB; have HB := HB'; clear HB'
    replace OW := Lib.hid (own_below OW.out hbx)
    replace OBW := Lib.hid (own_below OBW.out hbx)
    replace Ox0 := Lib.hid (own_below Ox0.out hbx)
    replace OG := Lib.hid (own_below OG.out hbx)
    clear hbx
    obtain ⟨hG, hhG⟩ : ∃ h, h = w6.heap.size := ⟨_, rfl⟩
    obtain ⟨hxG, hyG⟩ := box_cells OBG.out
    obtain ⟨hxW, hyW⟩ := box_cells OBW.out
    go_wp2_with fail
    generalize w6.alloc (.cells #[.slice vG kG cG, .int .i64 rc] 34) = w7 at *
    refine (eqPolyOut_any vG vW kG kW cG cW rl rl rc rc _ (IR.own OG.out) (IR.own OW.out) HKG.out HKW.out).mono ?_
    rintro e w8 ⟨rfl, hb⟩
    clear hxG hyG hxW hyW
    rw [decide_eq_true (show rl = rl ∧ rc = rc from ⟨rfl, rfl⟩)]
    have HB' := Lib.hid (HB.out.trans (hb.mono HB.out.size)); clear HB; have HB := HB'; clear HB'
    replace OW := Lib.hid (own_below OW.out hb)
    replace OBW := Lib.hid (own_below OBW.out hb)
    replace Ox0 := Lib.hid (own_below Ox0.out hb)
    replace OG := Lib.hid (own_below OG.out hb)
    replace OBG := Lib.hid (own_below OBG.out hb)
    clear hb
    go_wp2_with fail
    refine (toPointS_any a0 len0 cap0 _ _ (I0.out.below HB.out) (by omega)).mono ?_
    rintro e w9 ⟨vy0, cy0, rfl, ho, hb⟩
    have DWy0 := own_disj OW.out ho
    have DBWy0 := own_disj OBW.out ho
    have Dx0y0 := own_disj Ox0.out ho
    have DGy0 := own_disj OG.out ho
    have DBGy0 := own_disj OBG.out ho
    have Oy0 := Lib.hid (own_mono ho HB.out.size)
    clear ho
    have HB' := Lib.hid (HB.out.trans (hb.mono HB.out.size)); clear HB; have HB := HB'; clear HB'
    replace OW := Lib.hid (own_below OW.out hb)
    replace OBW := Lib.hid (own_below OBW.out hb)
    replace Ox0 := Lib.hid (own_below Ox0.out hb)
    replace OG := Lib.hid (own_below OG.out hb)
    replace OBG := Lib.hid (own_below OBG.out hb)
    clear hb
    go_wp2_with fail
    refine (eqPointS_any vx0 vy0 len0 len0 cx0 cy0 _ _ _ (PR.own Ox0.out) (PR.own Oy0.out) (by omega) (by omega)).mono ?_
    rintro e w10 ⟨rfl, hb⟩
    rw [decide_eq_true rfl]
    clear Oy0
    have HB' := Lib.hid (HB.out.trans (hb.mono HB.out.size)); clear HB; have HB := HB'; clear HB'
    replace OW := Lib.hid (own_below OW.out hb)
    replace OBW := Lib.hid (own_below OBW.out hb)
    replace Ox0 := Lib.hid (own_below Ox0.out hb)
    replace OG := Lib.hid (own_below OG.out hb)
    replace OBG := Lib.hid (own_below OBG.out hb)
    clear hb
    go_wp2_with fail
    refine (markPointS_any vx0 _ len0 cx0 _ (1) _ Ox0.out (by omega) (by omega) (by omega)).mono ?_
    rintro e w11 ⟨rfl, ho, hg⟩
    have HB' := Lib.hid (below_grow HB.out Ox0.out (Nat.le_refl _) hg HB.out.size); clear HB; have HB := HB'; clear HB'
    replace OW := Lib.hid (own_grown OW.out hg DWx0)
    replace OBW := Lib.hid (own_grown OBW.out hg DBWx0)
    replace OG := Lib.hid (own_grown OG.out hg Dx0G.symm)
    replace OBG := Lib.hid (own_grown OBG.out hg Dx0BG.symm)
    replace Ox0 := Lib.hid ho; clear ho hg
    clear Ox0
    obtain ⟨hxG, hyG⟩ := box_cells OBG.out
    obtain ⟨hxW, hyW⟩ := box_cells OBW.out
    go_wp2_with fail
    refine (eqPolyOut_any vG vW kG kW cG cW rl rl rc rc _ (IR.own OG.out) (IR.own OW.out) HKG.out HKW.out).mono ?_
    rintro e w12 ⟨rfl, hb⟩
    clear hxG hyG hxW hyW
    rw [decide_eq_true (show rl = rl ∧ rc = rc from ⟨rfl, rfl⟩)]
    have HB' := Lib.hid (HB.out.trans (hb.mono HB.out.size)); clear HB; have HB := HB'; clear HB'
    replace OW := Lib.hid (own_below OW.out hb)
    replace OBW := Lib.hid (own_below OBW.out hb)
    replace OG := Lib.hid (own_below OG.out hb)
    replace OBG := Lib.hid (own_below OBG.out hb)
    clear hb
    obtain ⟨hxG, hyG⟩ := box_cells OBG.out
    go_wp2_with fail
    refine (markPolyOut_any vG _ kG cG _ rc 1 _ OG.out HKG.out (by omega) (by omega)).mono ?_
    rintro e w13 ⟨rfl, ho, hg⟩
    clear hxG hyG
    have HB' := Lib.hid (below_grow HB.out OG.out (Nat.le_refl _) hg HB.out.size); clear HB; have HB := HB'; clear HB'
    replace OW := Lib.hid (own_grown OW.out hg DWG)
    replace OBW := Lib.hid (own_grown OBW.out hg DBWG)
    replace OBG := Lib.hid (own_grown OBG.out hg DGBG.symm)
    replace OG := Lib.hid ho; clear ho hg
    obtain ⟨hxG, hyG⟩ := box_cells OBG.out
    go_wp2_with fail
    refine (heldPolyOut_any vG kG cG rc 1 _ (IR.own OG.out) HKG.out (by omega) (by omega)).mono ?_
    rintro e w14 ⟨rfl, hb⟩
    clear hxG hyG
    have HB' := Lib.hid (HB.out.trans (hb.mono HB.out.size)); clear HB; have HB := HB'; clear HB'
    replace OW := Lib.hid (own_below OW.out hb)
    replace OBW := Lib.hid (own_below OBW.out hb)
    replace OG := Lib.hid (own_below OG.out hb)
    replace OBG := Lib.hid (own_below OBG.out hb)
    clear hb
    go_wp2_with fail
    refine (toPointS_any a0 len0 cap0 _ _ (I0.out.below HB.out) (by omega)).mono ?_
    rintro e w15 ⟨vs0, cs0, rfl, ho, hb⟩
    have DWs0 := own_disj OW.out ho
    have DBWs0 := own_disj OBW.out ho
    have DGs0 := own_disj OG.out ho
    have DBGs0 := own_disj OBG.out ho
    have Os0 := Lib.hid (own_mono ho HB.out.size)
    clear ho
    have HB' := Lib.hid (HB.out.trans (hb.mono HB.out.size)); clear HB; have HB := HB'; clear HB'
    replace OW := Lib.hid (own_below OW.out hb)
    replace OBW := Lib.hid (own_below OBW.out hb)
    replace OG := Lib.hid (own_below OG.out hb)
    replace OBG := Lib.hid (own_below OBG.out hb)
    clear hb
    go_wp2_with fail
    have hcon := implThrough_any vs0 len0 cs0 (z0.take len0) _ (PR.own Os0.out) (by omega)
    rw [HR.out] at hcon
    refine hcon.mono ?_
    rintro e w16 ⟨vH, kH, cH, rfl, ho, hb⟩
    clear hcon
    have hkH : rl.length = kH := by have := ho.1; simpa using this
    have HKH : Hid (kH ≤ 1048576) := Lib.hid (by have := HRL.out; omega)
    have HKEH := Lib.hid hkH; clear hkH
    unfold polyV; dsimp only
    clear Os0
    have DWH := own_disj OW.out ho
    have DBWH := own_disj OBW.out ho
    have DGH := own_disj OG.out ho
    have DBGH := own_disj OBG.out ho
    have OH := Lib.hid (own_mono ho HB.out.size)
    clear ho
    have HB' := Lib.hid (HB.out.trans (hb.mono HB.out.size)); clear HB; have HB := HB'; clear HB'
    replace OW := Lib.hid (own_below OW.out hb)
    replace OBW := Lib.hid (own_below OBW.out hb)
    replace OG := Lib.hid (own_below OG.out hb)
    replace OBG := Lib.hid (own_below OBG.out hb)
    clear hb
    have hbx : Below w16.heap.size w16 (w16.alloc (.cells #[.slice vH kH cH, .int .i64 rc] 34)) := (Below.refl _ _).alloc (Nat.le_refl _) _
    have hob := box_made w16 (.slice vH kH cH) (.int .i64 rc) 34
    have DWBH := own_disj OW.out hob
    have DBWBH := own_disj OBW.out hob
    have DGBH := own_disj OG.out hob
    have DBGBH := own_disj OBG.out hob
    have DHBH := own_disj OH.out hob
    have OBH := Lib.hid (own_mono hob HB.out.size); clear hob
    have HB' := Lib.hid (HB.out.trans (hbx.mono HB.out.size)); clear HB; have HB := HB'; clear HB'
    replace OW := Lib.hid (own_below OW.out hbx)
    replace OBW := Lib.hid (own_below OBW.out hbx)
    replace OG := Lib.hid (own_below OG.out hbx)
    replace OBG := Lib.hid (own_below OBG.out hbx)
    replace OH := Lib.hid (own_below OH.out hbx)
    clear hbx
    obtain ⟨hH, hhH⟩ : ∃ h, h = w16.heap.size := ⟨_, rfl⟩
    obtain ⟨hxH, hyH⟩ := box_cells OBH.out
    obtain ⟨hxW, hyW⟩ := box_cells OBW.out
    go_wp2_with fail
    generalize w16.alloc (.cells #[.slice vH kH cH, .int .i64 rc] 34) = w17 at *
    refine (eqPolyOut_any vH vW kH kW cH cW rl rl rc rc _ (IR.own OH.out) (IR.own OW.out) HKH.out HKW.out).mono ?_
    rintro e w18 ⟨rfl, hb⟩
    clear hxH hyH hxW hyW
    rw [decide_eq_true (show rl = rl ∧ rc = rc from ⟨rfl, rfl⟩)]
    have HB' := Lib.hid (HB.out.trans (hb.mono HB.out.size)); clear HB; have HB := HB'; clear HB'
    replace OW := Lib.hid (own_below OW.out hb)
    replace OBW := Lib.hid (own_below OBW.out hb)
    replace OG := Lib.hid (own_below OG.out hb)
    replace OBG := Lib.hid (own_below OBG.out hb)
    replace OH := Lib.hid (own_below OH.out hb)
    replace OBH := Lib.hid (own_below OBH.out hb)
    clear hb
    obtain ⟨hxG, hyG⟩ := box_cells OBG.out
    go_wp2_with fail
    refine (heldPolyOut_any vG kG cG rc 1 _ (IR.own OG.out) HKG.out (by omega) (by omega)).mono ?_
    rintro e w19 ⟨rfl, hb⟩
    clear hxG hyG
    have HB' := Lib.hid (HB.out.trans (hb.mono HB.out.size)); clear HB; have HB := HB'; clear HB'
    replace OW := Lib.hid (own_below OW.out hb)
    replace OBW := Lib.hid (own_below OBW.out hb)
    replace OG := Lib.hid (own_below OG.out hb)
    replace OBG := Lib.hid (own_below OBG.out hb)
    replace OH := Lib.hid (own_below OH.out hb)
    replace OBH := Lib.hid (own_below OBH.out hb)
    clear hb
    go_wp2_with fail
    go_ret
    exact ⟨rfl, HB.out⟩

/-! ### THE ROW's STEP: WRITTEN OUT: LEAVE IT -/
set_option maxRecDepth 100000 in
theorem lifted (os : Os) (started : os.Started) (H : Type) (enc : TypeId × Value → H) :
    ReturnsInHanded {} Try.checked os 13 .any (Rows.fnExactThroughSpec.pre6 enc Try.prog Try.f13 Rows.fnExactThroughRow.domain false) (Rows.fnExactThroughSpec.post enc Try.prog Try.f13 false true false false) := by
  refine returnsInHanded_of_change (C := Try.checked) own started (by kernel_rfl) Try.func13
    (ChangeSpec.witness6 (enc := enc) (C := Try.checked) false ⟨#[], #[.slice none 0 0], []⟩ 8 (by kernel_rfl) (by kernel_rfl) (by kernel_rfl) (by kernel_rfl)) ?_
  intro W base args ds gs before hval0 hW hcnd _
  have hval : ∀ (j : Nat) t v, Try.f13.params[j]? = some t → args[j]? = some v → Value.okWide Try.prog W .any base t v := hval0
  have hW' := hW
  obtain ⟨p, q, hA0, hV, rfl, hfz, hnd⟩ := hW
  have hA : DataW.TrodAll enc Try.prog W 0 (fun _ => true) true Try.f13.params.toList args.toList ds p := hA0
  rw [Try.params13] at hA hval
  obtain ⟨v0, vs0, d0, ds0, p0, q0, hargs, rfl, rfl, h0, r0⟩ := trodAll_cons hA
  obtain ⟨rfl, rfl, rfl⟩ := trodAll_nil r0
  obtain rfl : args = #[v0] := by cases args; simp_all
  obtain ⟨rfl, rfl⟩ := trodVars_none hV
  obtain ⟨a0, len0, cap0, rfl⟩ := okWide_slice Try.underlying56 (hval 0 56 v0 rfl rfl)
  have k0 := h0
  have lt0 : ∀ x ∈ p0, x.block < W.heap.size := by obtain ⟨m, hm⟩ := k0; exact DataW.trod_lt m _ _ _ hm
  obtain ⟨z0, w0⟩ : ∃ zs, IsPairs W a0 len0 cap0 zs := by
    obtain ⟨fuel, hf⟩ := h0
    rcases Go.Deep.open_slice_pairs Try.underlying56 Try.underlying103 (by kernel_rfl) rfl rfl (by kernel_rfl) (by kernel_rfl) hf with ⟨hcs, _⟩ | ⟨x, l, c, m, nn, V0, V1, D0, D1, P0, P1, hcs, _, hl, hm, hmm, _, hx⟩
    · simp [Value.cells] at hcs
      obtain ⟨rfl, rfl, rfl⟩ := hcs
      exact ⟨[], .inl ⟨rfl, rfl, rfl, rfl⟩⟩
    · simp [Value.cells] at hcs
      obtain ⟨rfl, rfl, rfl⟩ := hcs
      have hmc : m = cap0 := by simpa using hmm
      subst hmc
      obtain ⟨q, hq⟩ := Go.Deep.choose_lt (α := Int × Int) (n := m) (p := fun i q => W.cell? (x.add (i * 2)) = some (.int .i64 q.1) ∧ W.cell? (x.add (i * 2 + 1)) = some (.int .i64 q.2)) (fun i hi => by
        obtain ⟨e0, e1, t0, t1⟩ := hx i hi
        obtain ⟨y0, hy0, _⟩ := DataW.trod_int Try.underlying2 t0
        obtain ⟨y1, hy1, _⟩ := DataW.trod_int Try.underlying2 t1
        simp only [List.cons.injEq, and_true] at hy0 hy1
        exact ⟨(y0, y1), by rw [e0, hy0], by rw [e1, hy1]⟩)
      refine ⟨(List.range m).map q, .inr ⟨_, rfl, hl, hm, by simp, fun i hi => ?_⟩⟩
      have := hq i hi
      simpa [List.getD, hi] using this
  clear hA0 hval0
  refine (walk a0 len0 cap0 z0 W w0).mono fun e W' ⟨he, bel⟩ => ?_
  subst he
  exact ⟨_, rfl, _, _, _, [], _, [], hW', trodAll_mk1 (shut_bool Try.underlying4 _), (trodAll_cons_mk (Below.trod laidOut (by kernel_rfl) (of_decide_eq_true (by kernel_rfl)) k0 bel lt0) trodAll_mk0), rfl, bel.frame _, fun h => by cases h⟩

theorem over : Rows.fnExactThroughRow.holds Try.pinned (OpenSpec.ofChange Rows.fnExactThroughSpec) :=
  OpenClaim.holds_of_wide 13 Try.f13 rfl rfl rfl rfl rfl rfl rfl ⟨rfl, rfl, rfl, rfl, rfl⟩ rfl rfl rfl rfl rfl (by kernel_rfl) Try.func13 (by kernel_rfl)
    (of_decide_eq_true (by kernel_rfl)) (by unfold Func.isWrapper; first | (rw [if_pos (by decide +kernel)]; kernel_rfl) | (rw [if_neg (by decide +kernel)]; exact ⟨rfl, rfl⟩))
    (fun os started H enc _ => lifted os started H enc)

/-- ████ THE STATEMENT ████ -/
theorem proved : Rows.FnExactThroughSaid := over
end Go.Proofs.Ytfplfkebamgniaa.fnExactThrough
