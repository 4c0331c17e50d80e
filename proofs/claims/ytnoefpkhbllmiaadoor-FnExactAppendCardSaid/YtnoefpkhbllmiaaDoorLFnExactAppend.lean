/- PROVED: the statement 'FnExactAppendSaid': at every argument the law's function answers true and leaves its arguments as they were. The frame was written by the kit's own frame writer. -/
import Derived.Test.YtnoefpkhbllmiaaDoorOpenD
import Derived.Test.YtnoefpkhbllmiaaDoorDskJ
import Derived.Test.YtnoefpkhbllmiaaDoorDoorD
import Derived.SevenTiedAt
import Derived.WalkKit
import Derived.ProofKit
import Derived.OpenShut
import Derived.ShutString
import Derived.ChangeOld
import Derived.Below
import Derived.Carry
namespace Go.Proofs.YtnoefpkhbllmiaaDoor.fnExactAppend
open Go.ChangeShapes Go.WideShapes Go.ChangeAt Go.RowKit
open Go.ChangeMaps (open_string shut_string)
set_option linter.unusedVariables false


/-! ### The walk. -/
set_option maxRecDepth 100000 in
set_option maxHeartbeats 4000000 in
theorem walk (s t : ByteArray) (wd : s.size ≤ maxLen ∧ t.size ≤ maxLen) (bb : ByteArray) (wbb : bb.size ≤ maxLen) (w : World)  (e0 e1 e2 : Addr) (hd : DS w e0 e1 e2) :
    Calls Tryd.prog 4 #[.agg #[.string s, .string t], .string bb] w fun e w' => e = .returned (.bool true) ∧ Below w.heap.size w w' := by
  have HWD := Lib.hid wd
  have HWB := Lib.hid wbb
  clear wd wbb
  obtain ⟨W, hW⟩ : ∃ W, W = w.alloc (.cells #[.string s, .string t] 36) := ⟨_, rfl⟩
  have HB0 := Lib.hid (show Below w.heap.size w W by rw [hW]; exact (Below.refl _ _).alloc (Nat.le_refl _) _)
  have HX := Lib.hid (show DkBox W w.heap.size s t by rw [hW]; exact ⟨by simp, by simp, by simp⟩)
  have HDS := Lib.hid (hd.below HB0.out)
  clear hd
  by_cases hbl : (1048576 : Int) < (bb.size : Int)
  · go_enter Tryd.func4, Tryd.ntmps4
    go_wp2_with fail
    rw [← hW]
    go_ret
    exact ⟨rfl, HB0.out⟩
  have hbb : bb.size ≤ 1048576 := by omega
  have x0 := HX.out.c0
  have x1 := HX.out.c1
  go_enter Tryd.func4, Tryd.ntmps4
  go_wp2_with fail
  rw [← hW]
  clear hW
  refine (szDisk_any s t _ HWD.out.1 HWD.out.2).mono ?_
  rintro e v1 ⟨⟨r, rfl, hr⟩, hb⟩
  have HB1 := Lib.hid hb
  clear hb x0 x1
  rcases hr with rfl | ⟨r0, hsz⟩
  · go_wp2_with fail
    go_ret
    exact ⟨rfl, HB0.out.trans (HB1.out.mono HB0.out.size)⟩
  · have hnn : ¬ r < 0 := by omega
    clear r0
    have x0 := (HX.out.below HB1.out).c0
    have x1 := (HX.out.below HB1.out).c1
    go_wp2_with fail
    refine (toDisk_any s t _).mono ?_
    rintro e v2 ⟨rfl, hb⟩
    have HB2 := Lib.hid (HB1.out.trans (hb.mono HB1.out.size))
    clear hb x0 x1
    unfold dkV
    dsimp only
    go_wp2_with fail
    refine (specAppend_any s t bb _ (by omega) hbb).mono ?_
    rintro e v3 ⟨rfl, hb⟩
    have HB3 := Lib.hid (HB2.out.trans (hb.mono HB2.out.size))
    clear hb
    have x0 := (HX.out.below HB3.out).c0
    have x1 := (HX.out.below HB3.out).c1
    obtain ⟨r1, r2, r3, hrr⟩ : ∃ r1 r2 r3, dkAppend s t bb = (r1, r2, r3) := ⟨_, _, _, rfl⟩
    rw [hrr]
    have HRR := Lib.hid hrr
    clear hrr
    obtain ⟨V, hV⟩ : ∃ V, V = v3.alloc (.cells #[.string r1, .string r2, .int .i64 r3] 28) := ⟨_, rfl⟩
    have hb1 : Below v3.heap.size v3 V := by rw [hV]; exact (Below.refl _ _).alloc (Nat.le_refl _) _
    have HBV := Lib.hid (HB3.out.trans (hb1.mono HB3.out.size))
    have HG := Lib.hid (show (∀ u, Below V.heap.size V u → v3.heap.size < u.heap.size ∧ u.cell? ⟨v3.heap.size, 0, none⟩ = some (.string r1) ∧ u.cell? ⟨v3.heap.size, 1, none⟩ = some (.string r2) ∧ u.cell? ⟨v3.heap.size, 2, none⟩ = some (.int .i64 r3)) from fun u hu => by
      have hl : v3.heap.size < V.heap.size := by rw [hV]; simp
      exact ⟨Nat.lt_of_lt_of_le hl hu.size, (hu.cell (p := ⟨v3.heap.size, 0, none⟩) hl).trans (by rw [hV]; simp), (hu.cell (p := ⟨v3.heap.size, 1, none⟩) hl).trans (by rw [hV]; simp), (hu.cell (p := ⟨v3.heap.size, 2, none⟩) hl).trans (by rw [hV]; simp)⟩)
    have hlx := (HX.out.below HB3.out).lt
    unfold dkOutV
    dsimp only
    go_wp2_with fail
    rw [← hV]
    clear hV x0 x1 hlx hb1
    refine (toDisk_any s t _).mono ?_
    rintro e v4 ⟨rfl, hb⟩
    have HB4 := Lib.hid (HBV.out.trans (hb.mono HBV.out.size))
    have HG4 := Lib.hid hb
    clear hb
    unfold dkV
    dsimp only
    go_wp2_with fail
    refine (implAppend_any s t bb e0 e1 e2 _ (HDS.out.below HB4.out) (by omega) hbb).mono ?_
    rintro e v5 ⟨rfl, hb⟩
    rw [HRR.out]
    have HB5 := Lib.hid (HB4.out.trans (hb.mono HB4.out.size))
    obtain ⟨glt, g0, g1, g2⟩ := HG.out v5 (HG4.out.trans (hb.mono HG4.out.size))
    clear hb
    unfold dkOutV
    dsimp only
    go_wp2_with fail
    refine (eqDiskOut_same r1 r2 r3 _).mono ?_
    rintro e v6 ⟨rfl, hb⟩
    have HB6 := Lib.hid (HB5.out.trans ((Below.trans (by repeat' (first | exact Below.refl _ _ | refine Below.alloc ?_ (by first | exact Nat.le_refl _ | (simp; done) | (simp; omega)) _)) (hb.mono (by first | exact Nat.le_refl _ | (simp; done) | (simp; omega)))).mono HB5.out.size))
    clear hb
    go_wp2_with fail
    go_ret
    exact ⟨rfl, HB0.out.trans (HB6.out.mono HB0.out.size)⟩

/-! ### THE ROW's STEP -/
set_option maxRecDepth 100000 in
theorem contract (H : Type) (enc : TypeId × Value → H) (W : World) (base : Nat) (args : Array Value) (ds gs : List (DataW H)) (before : List MemPlace)
    (hval0 : ∀ (j : Nat) t v, Tryd.f4.params[j]? = some t → args[j]? = some v → Value.okWide Tryd.prog W .any base t v)
    (hW : DataW.Whole enc Tryd.prog Tryd.f4.params.toList Rows.fnExactAppendSpec.vars false W args.toList ds gs before) (hL : laidMetH Tryd.prog laidL W) :
    Calls Tryd.prog 4 args W fun e W' => ∃ v, e = .returned v ∧ Rows.fnExactAppendSpec.post enc Tryd.prog Tryd.f4 false true false false W args v W' := by
  have hval : ∀ (j : Nat) t v, Tryd.f4.params[j]? = some t → args[j]? = some v → Value.okWide Tryd.prog W .any base t v := hval0
  have hW' := hW
  obtain ⟨p, q, hA0, hV0, rfl, hfz, hnd⟩ := hW
  have hA : DataW.TrodAll enc Tryd.prog W 0 (fun _ => true) true Tryd.f4.params.toList args.toList ds p := hA0
  have hV : DataW.TrodVars enc Tryd.prog W (fun _ => true) ["loop.example/g00839/impl.errLong", "loop.example/g00839/impl.errWrong", "loop.example/g00839/impl.errFull"] gs q := hV0
  rw [Tryd.params4] at hA hval
  obtain ⟨v0, vs0, d0, ds0, p0, q_0, hargs0, rfl, rfl, h0, r0⟩ := trodAll_cons hA
  obtain ⟨v1, vs1, d1, ds1, p1, q_1, hargs1, rfl, rfl, h1, r1⟩ := trodAll_cons r0
  obtain ⟨rfl, rfl, rfl⟩ := trodAll_nil r1
  obtain rfl : args = #[v0, v1] := by cases args; simp_all
  obtain ⟨e0, e1, e2, x0, x1, x2, hds⟩ := sent3 hL
  obtain ⟨rfl, rfl⟩ := hV.unique (vr3 enc x0 x1 x2 _)
  obtain ⟨s, t, rfl, wd, rfl, hs0⟩ := disk_open (hval 0 36 v0 rfl rfl) h0
  obtain ⟨bb, rfl, rfl, rfl, wbb⟩ := open_string Tryd.underlying9 (hval 1 9 v1 rfl rfl) h1
  clear hA0 hV0 hval0
  refine (walk s t wd bb wbb W  e0 e1 e2 hds).mono fun e W' ⟨he, hg⟩ => ?_
  subst he
  exact ⟨_, rfl, _, _, _, [], _, [.cell 0 0, .cell 1 0, .cell 2 0], hW', trodAll_mk1 (shut_bool Tryd.underlying4 _), (trodAll_cons_mk (hs0 _ _ _) (trodAll_cons_mk (shut_string Tryd.underlying9 wbb) trodAll_mk0)), vr3 enc (var_below x0 hg) (var_below x1 hg) (var_below x2 hg) _, hg.frame _, fun h => by cases h⟩
theorem reads (os : Os) {H : Type} (enc : TypeId × Value → H) : ∃ places, DataW.whole enc Tryd.prog ((laidWorld os).forCall (fun _ _ => 0) ⟨#[], #[Value.agg #[Value.string ByteArray.empty, Value.string ByteArray.empty], Value.string ByteArray.empty], []⟩).memory Tryd.f4.params.toList Rows.fnExactAppendSpec.vars false (#[Value.agg #[Value.string ByteArray.empty, Value.string ByteArray.empty], Value.string ByteArray.empty] : Array Value).toList 8 = some ([.agg [.lit (.string []), .lit (.string [])], .lit (.string [])], [tok enc (.iface 85 (.pointer (some ⟨low, 0, none⟩))), tok enc (.iface 85 (.pointer (some ⟨low + 1, 0, none⟩))), tok enc (.iface 85 (.pointer (some ⟨low + 2, 0, none⟩)))], places) :=
  ⟨[.cell 0 0, .cell 1 0, .cell 2 0], by kernel_rfl⟩
set_option maxRecDepth 100000 in
theorem lifted (os : Os) (started : os.Started) (H : Type) (enc : TypeId × Value → H) (F : Stop.Interp) :
    ReturnsInHanded {} Tryd.checked os 4 .any ((OpenSpec.ofChange Rows.fnExactAppendSpec).preRow enc Tryd.prog Tryd.f4 Rows.fnExactAppendRow.domain false Rows.fnExactAppendRow.laid) (((OpenSpec.ofChange Rows.fnExactAppendSpec).at F).post enc Tryd.prog Tryd.f4 false true false false) := by
  obtain ⟨places, hx⟩ := reads os enc
  refine returnsInHanded_of_row (C := Tryd.checked) (s := OpenSpec.ofChange Rows.fnExactAppendSpec) door_own started (by kernel_rfl) Tryd.func4
    (witness_row_at (enc := enc) (C := Tryd.checked) false (laidWorld os) #[Value.agg #[Value.string ByteArray.empty, Value.string ByteArray.empty], Value.string ByteArray.empty] rfl (by kernel_rfl) (by kernel_rfl) (by kernel_rfl)
      (OpenSpec.preRow_of_cond 8 hx (by kernel_rfl) (fun k hk => by cases hk) (by kernel_rfl) (laidWorld_met os _))) ?_
  intro W base args ds gs before hval hW _ _ _ hL _ _
  exact contract H enc W base args ds gs before hval hW hL
theorem said : Rows.FnExactAppendSaid :=
  OpenClaim.holds_of_cond 4 Tryd.f4 rfl rfl rfl rfl rfl rfl rfl ⟨rfl, rfl, rfl, rfl, rfl⟩ rfl rfl rfl rfl rfl (by kernel_rfl) Tryd.func4 (by kernel_rfl)
    (of_decide_eq_true (by kernel_rfl)) (by unfold Func.isWrapper; first | (rw [if_pos (by decide +kernel)]; kernel_rfl) | (rw [if_neg (by decide +kernel)]; exact ⟨rfl, rfl⟩))
    (fun os started H enc _ F => by rw [OpenClaim.pre_eq_preRow]; exact lifted os started H enc F)
theorem plain (f : FuncId) (fn : Func) (hf : Tryd.pinned.checked.prog.funcNamed "loop.example/g00839/laws.FnExactAppend" = some f) (hfn : Tryd.pinned.checked.prog.funcs[f]? = some fn) :
    true = Tryd.pinned.checked.prog.looks [] ∧ ∀ (j : Nat) t, fn.params[j]? = some t → Tryd.pinned.checked.prog.wantsStandIn t = false := by
  obtain rfl : f = 4 := Option.some.inj ((show Tryd.prog.funcNamed "loop.example/g00839/laws.FnExactAppend" = some 4 by kernel_rfl).symm.trans hf) |>.symm
  obtain rfl : fn = Tryd.f4 := (Option.some.inj (Tryd.func4.symm.trans hfn)).symm
  refine ⟨by kernel_rfl, fun j t ht => ?_⟩
  rw [Tryd.params4] at ht
  have h : t = 36 ∨ t = 9 := by simpa using Array.mem_of_getElem? ht
  rcases h with rfl | rfl
  · exact (show Tryd.prog.wantsStandIn 36 = false by kernel_rfl)
  · exact (show Tryd.prog.wantsStandIn 9 = false by kernel_rfl)

/-- The statement: the card, tied to the program's text. -/
theorem proved : Rows.FnExactAppendCardSaid :=
  Claim7.holds_tied_plain_at .later [] _ _ _ _ said (fun _ h => by cases h) (by kernel_rfl) (fun _ h => by cases h) fnExactAppend_row_tie rfl ⟨rfl, rfl⟩ (by kernel_rfl) rfl plain (by kernel_rfl)
end Go.Proofs.YtnoefpkhbllmiaaDoor.fnExactAppend
