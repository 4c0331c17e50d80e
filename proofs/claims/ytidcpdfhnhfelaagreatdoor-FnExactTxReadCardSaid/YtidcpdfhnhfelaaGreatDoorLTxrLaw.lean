/- The statement, proved: at every argument that can be read the law answers true and leaves its arguments as they were. -/
import Derived.SevenTiedAt
import Derived.WalkKit
import Derived.ProofKit
import Derived.OpenShut
import Derived.ShutString
import Derived.ChangeOld
import Derived.Below
import Derived.Test.YtidcpdfhnhfelaaGreatDoorQTxr47
import Derived.Test.YtidcpdfhnhfelaaGreatDoorQTxr48
import Derived.Test.YtidcpdfhnhfelaaGreatDoorQTxr00
/- PROVED: the statement 'FnExactTxReadSaid': at every argument the law's function answers true and leaves its arguments as they were. The frame was written by the kit's own frame writer. -/
namespace Go.Proofs.YtidcpdfhnhfelaaGreatDoor.fnExactTxRead
open Go.ChangeShapes Go.WideShapes Go.ChangeAt Go.RowKit
open Go.ChangeMaps (open_string shut_string)
set_option linter.unusedVariables false      -- a walk need not use every 'w<i>' (that an integer argument fits its kind)


open G MGet Go.PlainAid

/-! ### The walk. -/
set_option maxRecDepth 100000 in
set_option maxHeartbeats 4000000 in
theorem walk (a0 : ByteArray) (w0 : a0.size ≤ maxLen) (w : World) (hg : ET w) :
    Calls Tryz.prog 3 #[.string a0] w fun e w' => e = .returned (.bool true) ∧ Below w.heap.size w w' := by
  by_cases h : 1048576 < a0.size
  · go_enter Tryz.func3, Tryz.ntmps3
    go_wp2
    go_ret
    exact ⟨rfl, Below.refl _ _⟩
  · have HTL := Lib.hid (txRd_len a0)
    obtain ⟨n, hnn⟩ : ∃ n, n = (txRd a0).length := ⟨_, rfl⟩
    have hn : n ≤ 1048576 := by have := HTL.out; omega
    have HNN := Lib.hid hnn
    obtain ⟨LL, hll⟩ : ∃ LL : Nat → List Dd, LL = fun i => (txRd a0).getD i [] := ⟨_, rfl⟩
    have HLL := Lib.hid hll
    clear hnn hll HTL
    go_enter Tryz.func3, Tryz.ntmps3
    go_wp2_with fail
    refine (specTxRead_any _ _ w0).mono ?_
    rintro e w3 ⟨va, k0, vc, rs, rfl, hk, hs, hm, hb1⟩
    obtain ⟨hl, hS, _⟩ := hs.info hm
    rw [← HNN.out] at hl
    rw [← HLL.out] at hS
    obtain rfl : k0 = n := hk.trans hl
    have HRL := Lib.hid hl
    have HSL := Lib.hid hS
    have HB1 := Lib.hid hb1
    have HE1 := Lib.hid (hg.below hb1)
    clear hk hs hm hl hS hb1
    go_wp2_with fail
    refine (implTxRead_any _ _ w0 HE1.out).mono ?_
    rintro e w4 ⟨vb, k1, vd, qs, rfl, hk, hs, hm, hb2⟩
    obtain ⟨hl, hS, hT⟩ := hs.info hm
    rw [← HNN.out] at hl hT
    rw [← HLL.out] at hS
    obtain rfl : k1 = k0 := hk.trans hl
    have HQL := Lib.hid hl
    have HQS := Lib.hid hS
    have HTN := Lib.hid hT
    have HSL2 := Lib.hid (HSL.out.below hb2)
    have HB2 := Lib.hid (HB1.out.trans (hb2.mono HB1.out.size))
    have HB34 := Lib.hid hb2
    clear hk hs hm hl hS hT hb2
    go_wp2_with fail
    refine (eqDeedSS_same vb va k1 vd vc _ _ qs rs LL LL w4 HQL.out HRL.out HQS.out HSL2.out (fun _ _ => rfl) hn HTN.out).mono ?_
    rintro e w5 ⟨rfl, hb3⟩
    have HQ5 := Lib.hid (HQS.out.below hb3)
    have HS5 := Lib.hid (HSL2.out.below hb3)
    have HB5 := Lib.hid (HB2.out.trans (hb3.mono HB2.out.size))
    have HC5 := Lib.hid (HB34.out.trans (hb3.mono HB34.out.size))
    have HZ5 : Hid (w3.heap.size ≤ w5.heap.size) := Lib.hid (Nat.le_trans HB34.out.size hb3.size)
    clear hb3 HQS HSL2
    go_wp2_with fail
    refine (markDeedSS_any vb k1 vd w3.heap.size qs LL 1 w5 HQL.out HQ5.out HZ5.out hn HTN.out (by decide) (by decide)).mono ?_
    rintro e w6 ⟨rfl, hS, hb4⟩
    have HC6 := Lib.hid (HC5.out.trans hb4)
    have HB6 := Lib.hid (HB5.out.trans (hb4.mono HB1.out.size))
    have HM6 := Lib.hid hS
    have HE6 := Lib.hid (hg.below HB6.out)
    obtain ⟨kk, hkk⟩ : ∃ kk, kk = koff qs 1 k1 := ⟨_, rfl⟩
    have hk1 : 1 ≤ kk := by rw [hkk]; exact koff_ge qs 1 k1
    have HKK := Lib.hid hkk
    rw [← hkk]
    clear hS hb4 hkk HQ5 HS5 HB5 HZ5 HC5
    have hk0 : ¬ (kk : Int) < 0 := by omega
    go_wp2_with fail
    refine (heldDeedSS_any vb k1 vd w3.heap.size qs LL 1 w6 HQL.out HM6.out hn HTN.out (by decide) (by decide)).mono ?_
    rintro e w7 ⟨rfl, hb5⟩
    rw [← HKK.out]
    have HM7 := Lib.hid (HM6.out.below hb5)
    have HC7 := Lib.hid (HC6.out.trans (hb5.mono HC6.out.size))
    have HB7 := Lib.hid (HB6.out.trans (hb5.mono HB6.out.size))
    have HE7 := Lib.hid (hg.below HB7.out)
    clear hb5 HM6 HC6 HB6 HE6
    go_wp2_with fail
    refine (implTxRead_any _ _ w0 HE7.out).mono ?_
    rintro e w8 ⟨vp, k2, vq, ps, rfl, hk, hs, hm, hb6⟩
    obtain ⟨hl, hS, _⟩ := hs.info hm
    rw [← HNN.out] at hl
    rw [← HLL.out] at hS
    have hkl : k2 = k1 := hk.trans hl
    rw [hkl] at hS ⊢
    clear hkl hk
    have HPL := Lib.hid hl
    have HPS := Lib.hid hS
    have HM8 := Lib.hid (HM7.out.below hb6)
    have HC8 := Lib.hid (HC7.out.trans (hb6.mono HC7.out.size))
    have HB8 := Lib.hid (HB7.out.trans (hb6.mono HB7.out.size))
    have HS8 := Lib.hid (HSL.out.below HC8.out)
    have HPT : Hid (∀ i, i < k1 → (ps.getD i rwD).n ≤ 10) := Lib.hid (by have := (hs.info hm).2.2; rw [← HNN.out] at this; exact this)
    clear hs hm hl hS hb6 HM7 HC7 HB7 HE7
    go_wp2_with fail
    refine (eqDeedSS_same vp va k1 vq vc _ _ ps rs LL LL w8 HPL.out HRL.out HPS.out HS8.out (fun _ _ => rfl) hn HPT.out).mono ?_
    rintro e w9 ⟨rfl, hb7⟩
    have HM9 := Lib.hid (HM8.out.below hb7)
    have HB9 := Lib.hid (HB8.out.trans (hb7.mono HB8.out.size))
    clear hb7 HM8 HC8 HB8 HPS HS8
    go_wp2_with fail
    refine (heldDeedSS_any vb k1 vd w3.heap.size qs LL 1 w9 HQL.out HM9.out hn HTN.out (by decide) (by decide)).mono ?_
    rintro e w10 ⟨rfl, hb8⟩
    rw [← HKK.out]
    have HB10 := Lib.hid (HB9.out.trans (hb8.mono HB9.out.size))
    clear hb8 HM9 HB9
    go_wp2_with fail
    go_ret
    exact ⟨rfl, HB10.out⟩


set_option maxRecDepth 100000 in
theorem contract (H : Type) (enc : TypeId × Value → H) (W : World) (base : Nat) (args : Array Value) (ds gs : List (DataW H)) (before : List MemPlace)
    (hval0 : ∀ (j : Nat) t v, Tryz.f3.params[j]? = some t → args[j]? = some v → Value.okWide Tryz.prog W .any base t v)
    (hW : DataW.Whole enc Tryz.prog Tryz.f3.params.toList Rows.fnExactTxReadSpec.vars false W args.toList ds gs before) (hL : laidMetH Tryz.prog laidL W) :
    Calls Tryz.prog 3 args W fun e W' => ∃ v, e = .returned v ∧ Rows.fnExactTxReadSpec.post enc Tryz.prog Tryz.f3 false true false false W args v W' := by
  have hval : ∀ (j : Nat) t v, Tryz.f3.params[j]? = some t → args[j]? = some v → Value.okWide Tryz.prog W .any base t v := hval0
  have hW' := hW
  obtain ⟨p, q, hA0, hV, rfl, hfz, hnd⟩ := hW
  have hA : DataW.TrodAll enc Tryz.prog W 0 (fun _ => true) true Tryz.f3.params.toList args.toList ds p := hA0
  rw [Tryz.params3] at hA hval
  obtain ⟨v0, vs0, d0, ds0, p0, q0, hargs, rfl, rfl, h0, r0⟩ := trodAll_cons hA
  obtain ⟨rfl, rfl, rfl⟩ := trodAll_nil r0
  obtain rfl : args = #[v0] := by cases args; simp_all
  obtain ⟨rfl, rfl⟩ := trodVars_none hV
  obtain ⟨a0, rfl, rfl, rfl, w0⟩ := open_string Tryz.underlying9 (hval 0 9 v0 rfl rfl) h0
  clear hA0 hval0
  simp only [List.append_nil] at hW'
  refine (walk a0 w0 W (et_of_laid hL)).mono fun e W' ⟨he, hg⟩ => ?_
  subst he
  exact ⟨_, rfl, _, _, _, [], _, [], hW', trodAll_mk1 (shut_bool Tryz.underlying4 _), (trodAll_cons_mk (shut_string Tryz.underlying9 w0) trodAll_mk0), rfl, hg.frame _, fun h => by cases h⟩
theorem reads (os : Os) {H : Type} (enc : TypeId × Value → H) : ∃ places, DataW.whole enc Tryz.prog ((laidWorld os).forCall (fun _ _ => 0) ⟨#[], #[Value.string ByteArray.empty], []⟩).memory Tryz.f3.params.toList Rows.fnExactTxReadSpec.vars false (#[Value.string ByteArray.empty] : Array Value).toList 8 = some ([.lit (.string [])], [], places) :=
  ⟨[], by kernel_rfl⟩
set_option maxRecDepth 100000 in
theorem lifted (os : Os) (started : os.Started) (H : Type) (enc : TypeId × Value → H) (F : Stop.Interp) :
    ReturnsInHanded {} Tryz.checked os 3 .any ((OpenSpec.ofChange Rows.fnExactTxReadSpec).preRow enc Tryz.prog Tryz.f3 Rows.fnExactTxReadRow.domain false Rows.fnExactTxReadRow.laid) (((OpenSpec.ofChange Rows.fnExactTxReadSpec).at F).post enc Tryz.prog Tryz.f3 false true false false) := by
  obtain ⟨places, hx⟩ := reads os enc
  refine returnsInHanded_of_row (C := Tryz.checked) (s := OpenSpec.ofChange Rows.fnExactTxReadSpec) door_own started (by kernel_rfl) Tryz.func3
    (witness_row_at (enc := enc) (C := Tryz.checked) false (laidWorld os) #[Value.string ByteArray.empty] rfl (by kernel_rfl) (by kernel_rfl) (by kernel_rfl)
      (OpenSpec.preRow_of_cond 8 hx (by kernel_rfl) (fun k hk => by cases hk) (by kernel_rfl) (laidWorld_met os _))) ?_
  intro W base args ds gs before hval hW _ _ _ hL _ _
  exact contract H enc W base args ds gs before hval hW hL
theorem said : Rows.FnExactTxReadSaid :=
  OpenClaim.holds_of_cond 3 Tryz.f3 rfl rfl rfl rfl rfl rfl rfl ⟨rfl, rfl, rfl, rfl, rfl⟩ rfl rfl rfl rfl rfl (by kernel_rfl) Tryz.func3 (by kernel_rfl)
    (of_decide_eq_true (by kernel_rfl)) (by unfold Func.isWrapper; first | (rw [if_pos (by decide +kernel)]; kernel_rfl) | (rw [if_neg (by decide +kernel)]; exact ⟨rfl, rfl⟩))
    (fun os started H enc _ F => by rw [OpenClaim.pre_eq_preRow]; exact lifted os started H enc F)
theorem plain (f : FuncId) (fn : Func) (hf : Tryz.pinned.checked.prog.funcNamed "loop.example/g00839/laws.FnExactTxRead" = some f) (hfn : Tryz.pinned.checked.prog.funcs[f]? = some fn) :
    true = Tryz.pinned.checked.prog.looks [] ∧ ∀ (j : Nat) t, fn.params[j]? = some t → Tryz.pinned.checked.prog.wantsStandIn t = false := by
  obtain rfl : f = 3 := Option.some.inj ((show Tryz.prog.funcNamed "loop.example/g00839/laws.FnExactTxRead" = some 3 by kernel_rfl).symm.trans hf) |>.symm
  obtain rfl : fn = Tryz.f3 := (Option.some.inj (Tryz.func3.symm.trans hfn)).symm
  refine ⟨by kernel_rfl, fun j t ht => ?_⟩
  rw [Tryz.params3] at ht
  have h : t = 9 := by simpa using Array.mem_of_getElem? ht
  subst h
  · exact (show Tryz.prog.wantsStandIn 9 = false by kernel_rfl)

/-- The statement: the card, tied to the program's text. -/
theorem proved : Rows.FnExactTxReadCardSaid :=
  Claim7.holds_tied_plain_at .later [] _ _ _ _ said (fun _ h => by cases h) (by kernel_rfl) (fun _ h => by cases h) fnExactTxRead_row_tie rfl ⟨rfl, rfl⟩ (by kernel_rfl) rfl plain (by kernel_rfl)
end Go.Proofs.YtidcpdfhnhfelaaGreatDoor.fnExactTxRead

