/- PROVED: the statement 'FnExactTxBytesSaid': at every argument the law's function answers true and leaves its arguments as they were. The frame was written by the kit's own frame writer. -/
import Derived.Test.YtijegeikogckfaaBookI
import Derived.Test.YtijegeikogckfaaOpenB
import Derived.Test.YtijegeikogckfaaBkPF
import Derived.Test.YtijegeikogckfaaRows
import Derived.WalkKit
import Derived.ProofKit
import Derived.OpenShut
import Derived.ShutString
import Derived.ChangeOld
import Derived.Below
import Derived.Carry
namespace Go.Proofs.Ytijegeikogckfaa.fnExactTxBytes
open Go.ChangeShapes Go.WideShapes Go.ChangeAt Go.RowKit IRow
open Go.ChangeMaps (open_string shut_string)
set_option linter.unusedVariables false
theorem own : ownKnob Try.prog.godebug = none := by kernel_rfl
theorem laidOut : laidOutB Try.prog = true := by kernel_rfl


/-! ### The walk. -/
set_option maxRecDepth 100000 in
set_option maxHeartbeats 4000000 in
theorem walk (la : Option Addr) (ln : Nat) (lc : Nat) (ds : List Dd) (w : World) (hR : SR ddE ddD w la ln lc ds) (hn : ln ≤ maxLen) (hd : ∀ i, i < ln → DdG (ds.getD i ddD)) :
    Calls Try.prog 6 #[.slice la ln lc] w fun e w' => e = .returned (.bool true) ∧ Below w.heap.size w w' := by
  have HD := Lib.hid hd
  have HS : Hid (∀ t, t < ln → (ds.getD t ddD).lk.size ≤ maxLen ∧ (ds.getD t ddD).nm.size ≤ maxLen ∧ (ds.getD t ddD).bd.size ≤ maxLen) := Lib.hid hd
  have hln : ln ≤ 9223372036854775807 := by unfold maxLen at hn; omega
  have HR := Lib.hid hR
  clear hn hd hR HD
  go_enter Try.func6, Try.ntmps6
  go_wp2_with fail
  refine (szDeedS_any la ln lc ds 1048576 _ HR.out hln HS.out (by omega) (by omega)).mono ?_
  rintro e v1 ⟨r, rfl, hr, hb⟩
  have HB1 := Lib.hid hb
  clear hb
  rcases hr with rfl | ⟨r0, r1, hn1, hs1⟩
  · go_wp2_with fail
    go_ret
    exact ⟨rfl, HB1.out⟩
  · have hnn : ¬ r < 0 := by omega
    clear hs1
    go_wp2_with fail
    refine (toDeedS_any la ln lc ds _ (SR.below HR.out HB1.out) hn1).mono ?_
    rintro e v2 ⟨b1, b2, rfl, ho, hb⟩
    have HB2 := Lib.hid (HB1.out.trans (hb.mono HB1.out.size))
    have HO2 := Lib.hid ho
    clear hb ho
    go_wp2_with fail
    refine (specTxBytes_any b1 ln b2 ds _ (DdR.own HO2.out) hn1 HS.out).mono ?_
    rintro e v3 ⟨rfl, hb⟩
    have HB3 := Lib.hid (HB2.out.trans (hb.mono HB2.out.size))
    clear hb HO2
    go_wp2_with fail
    refine (toDeedS_any la ln lc ds _ (SR.below HR.out HB3.out) hn1).mono ?_
    rintro e v4 ⟨e1, e2, rfl, ho, hb⟩
    have HB4 := Lib.hid (HB3.out.trans (hb.mono HB3.out.size))
    have HO4 := Lib.hid ho
    clear hb ho
    go_wp2_with fail
    refine (implTxBytes_any e1 ln e2 ds _ (DdR.own HO4.out) hn1 HS.out).mono ?_
    rintro e v5 ⟨rfl, hb⟩
    have HB5 := Lib.hid (HB4.out.trans (hb.mono HB4.out.size))
    have HO5 := Lib.hid (own_below HO4.out hb)
    clear hb HO4
    go_wp2_with fail
    refine (toDeedS_any la ln lc ds _ (SR.below HR.out HB5.out) hn1).mono ?_
    rintro e v6 ⟨g1, g2, rfl, ho, hb⟩
    have HB6 := Lib.hid (HB5.out.trans (hb.mono HB5.out.size))
    have HO6 := Lib.hid ho
    have HP6 := Lib.hid (own_below HO5.out hb)
    clear hb ho HO5
    go_wp2_with fail
    refine (eqDeedS_same e1 g1 ln e2 g2 ds _ (DdR.own HP6.out) (DdR.own HO6.out) hn1).mono ?_
    rintro e v7 ⟨rfl, hb⟩
    have HB7 := Lib.hid (HB6.out.trans (hb.mono HB6.out.size))
    clear hb
    go_wp2_with fail
    go_ret
    exact ⟨rfl, HB7.out⟩

/-! ### THE ROW's STEP -/
set_option maxRecDepth 100000 in
theorem lifted (os : Os) (started : os.Started) (H : Type) (enc : TypeId × Value → H) :
    ReturnsInHanded {} Try.checked os 6 .any (Rows.fnExactTxBytesSpec.pre6 enc Try.prog Try.f6 Rows.fnExactTxBytesRow.domain false) (Rows.fnExactTxBytesSpec.post enc Try.prog Try.f6 false true false false) := by
  refine returnsInHanded_of_change (C := Try.checked) own started (by kernel_rfl) Try.func6
    (ChangeSpec.witness6 (enc := enc) (C := Try.checked) false ⟨#[], #[.slice none 0 0], []⟩ 8 (by kernel_rfl) (by kernel_rfl) (by kernel_rfl) (by kernel_rfl)) ?_
  intro W base args ds gs before hval0 hW hcnd _
  have hval : ∀ (j : Nat) t v, Try.f6.params[j]? = some t → args[j]? = some v → Value.okWide Try.prog W .any base t v := hval0
  have hW' := hW
  obtain ⟨p, q, hA0, hV, rfl, hfz, hnd⟩ := hW
  have hA : DataW.TrodAll enc Try.prog W 0 (fun _ => true) true Try.f6.params.toList args.toList ds p := hA0
  rw [Try.params6] at hA hval
  obtain ⟨v0, vs0, d0, ds0, p0, q_0, hargs0, rfl, rfl, h0, r0⟩ := trodAll_cons hA
  obtain ⟨rfl, rfl, rfl⟩ := trodAll_nil r0
  obtain rfl : args = #[v0] := by cases args; simp_all
  obtain ⟨rfl, rfl⟩ := trodVars_none hV
  have k0 := h0
  have lt0 : ∀ x ∈ p0, x.block < W.heap.size := by obtain ⟨m, hm⟩ := k0; exact DataW.trod_lt m _ _ _ hm
  obtain ⟨la, ln, lc, ds, rfl, hR, hn, hd⟩ := deeds_open (hval 0 53 v0 rfl rfl) h0
  clear hA0 hval0
  simp only [List.append_nil] at hW'
  refine (walk la ln lc ds W hR hn hd).mono fun e W' ⟨he, hg⟩ => ?_
  subst he
  exact ⟨_, rfl, _, _, _, [], _, [], hW', trodAll_mk1 (shut_bool Try.underlying4 _), (trodAll_cons_mk (Below.trod laidOut (by kernel_rfl) (of_decide_eq_true (by kernel_rfl)) k0 hg lt0) trodAll_mk0), rfl, hg.frame _, fun h => by cases h⟩
theorem over : Rows.fnExactTxBytesRow.holds Try.pinned (OpenSpec.ofChange Rows.fnExactTxBytesSpec) :=
  OpenClaim.holds_of_wide 6 Try.f6 rfl rfl rfl rfl rfl rfl rfl ⟨rfl, rfl, rfl, rfl, rfl⟩ rfl rfl rfl rfl rfl (by kernel_rfl) Try.func6 (by kernel_rfl)
    (of_decide_eq_true (by kernel_rfl)) (by unfold Func.isWrapper; first | (rw [if_pos (by decide +kernel)]; kernel_rfl) | (rw [if_neg (by decide +kernel)]; exact ⟨rfl, rfl⟩))
    (fun os started H enc _ => lifted os started H enc)
theorem proved : Rows.FnExactTxBytesSaid :=
  over
end Go.Proofs.Ytijegeikogckfaa.fnExactTxBytes
