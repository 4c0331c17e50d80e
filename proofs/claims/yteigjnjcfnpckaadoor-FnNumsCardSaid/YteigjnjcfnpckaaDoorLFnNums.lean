/- PROVED: the statement 'FnNumsSaid': at every argument the law's function answers true and leaves its arguments as they were. The frame was written by the kit's own frame writer. -/
import Derived.Test.YteigjnjcfnpckaaDoorFnGetText
import Derived.Test.YteigjnjcfnpckaaDoorFnPutText
import Derived.Test.YteigjnjcfnpckaaDoorDraw5
import Derived.Test.YteigjnjcfnpckaaDoorMNumText
import Derived.Test.YteigjnjcfnpckaaDoorDoor
import Derived.SevenTiedAt
import Derived.WalkKit
import Derived.ProofKit
import Derived.OpenShut
import Derived.ShutString
import Derived.ChangeOld
import Derived.Below
import Derived.ChangeOld
import Derived.Below
namespace Go.Proofs.YteigjnjcfnpckaaDoor.fnNums
open Go.ChangeShapes Go.WideShapes Go.ChangeAt Go.RowKit
open Go.ChangeMaps (open_string shut_string)
set_option linter.unusedVariables false

theorem laidOut : laidOutB Tryd.prog = true := by kernel_rfl

/-- WHAT THE WALK IS TOLD OF A SLICE OF INTEGERS THAT CAME IN: it is nil; or it leads to a row of 'cap' cells, the numbers 'zs' (the first 'len' are its elements, the rest its spare room), each fitting its kind. -/
def IsRow (k : IntKind) (w : World) (a : Option Addr) (len cap : Nat) (zs : List Int) : Prop :=
  (a = none ∧ len = 0 ∧ cap = 0 ∧ zs = []) ∨
  ∃ x, a = some x ∧ len ≤ cap ∧ cap ≤ maxLen ∧ zs.length = cap ∧ (∀ i, i < zs.length → w.cell? (x.add i) = some (.int k (zs.getD i 0))) ∧ ∀ n ∈ zs, (Lit.int k n).wf = true

open G MNum MGet
theorem field_num (W : World) (a b c : Value) : (Instr.field 26 (.agg #[a, b, c]) 2).run Tryd.prog W = .ok c W := by kernel_rfl
theorem field_text (W : World) (a b c : Value) : (Instr.field 31 (.agg #[a, b, c]) 2).run Tryd.prog W = .ok c W := by kernel_rfl
theorem code_of {w : World} {a : Option Addr} {len cap : Nat} {zs : List Int} (h : IsRow .u8 w a len cap zs) : CodeAt w a len := by
  rcases h with ⟨rfl, rfl, rfl, rfl⟩ | ⟨x, rfl, hl, hm, hz, hc, hw⟩
  · exact ⟨0, 0, fun h => absurd h (by omega), fun i hi => absurd hi (by omega)⟩
  · by_cases h0 : 0 < len
    · obtain ⟨b, o, sp⟩ := x
      have h1 := hc 0 (by omega)
      have hsp : sp = none := by simpa [Addr.add] using World.cell?_spot h1
      subst hsp
      refine ⟨b, o, fun _ => rfl, fun i hi => ?_⟩
      have h2 := hc i (by omega)
      have hb := bounds_u8 (hw (zs.getD i 0) (by rw [List.getD_eq_getElem?_getD, List.getElem?_eq_getElem (show i < zs.length by omega)]; exact List.getElem_mem _))
      have e1 : (⟨b, o, none⟩ : Addr).add i = ⟨b, o + i, none⟩ := by unfold Addr.add; split <;> simp_all
      exact ⟨_, hb.1, hb.2, by rw [← e1]; exact h2⟩
    · exact ⟨0, 0, fun h => absurd h h0, fun i hi => absurd hi (by omega)⟩

/-! ### The walk. -/
set_option maxRecDepth 100000 in
set_option maxHeartbeats 4000000 in
theorem walk (a0 : Option Addr) (len0 cap0 : Nat) (z0 : List Int) (a1 : Option Addr) (len1 cap1 : Nat) (z1 : List Int) (w : World) (w0 : IsRow .u8 w a0 len0 cap0 z0) (w1 : IsRow .u8 w a1 len1 cap1 z1) (hg : ET w) :
    Calls Tryd.prog 3 #[.slice a0 len0 cap0, .slice a1 len1 cap1] w fun e w' => e = .returned (.bool true) ∧ Below w.heap.size w w' := by
  have hf1 := field_num
  have hf2 := field_text
  have hc0 := code_of w0
  have hc1 := code_of w1
  clear w0 w1
  by_cases h0 : 1048576 < len0
  · go_enter Tryd.func3, Tryd.ntmps3
    go_wp2
    go_ret
    exact ⟨rfl, Below.refl _ _⟩
  · by_cases h1 : 1048576 < len1
    · go_enter Tryd.func3, Tryd.ntmps3
      go_wp2
      go_ret
      exact ⟨rfl, Below.refl _ _⟩
    · go_enter Tryd.func3, Tryd.ntmps3
      go_wp2_with fail
      refine (drawNum_any a0 len0 cap0 w hc0 (by omega)).mono ?_
      rintro e wa ⟨n, rfl, hn, hba⟩
      have hni : i64P n := by simpa [i64P, Lit.wf, IntKind.min, IntKind.max, IntKind.signed, IntKind.bits] using hn
      have HN := Lib.hid hni
      clear hn hni
      go_wp2_with fail
      refine (implPutNum_any n _ HN.out).mono ?_
      rintro e wb ⟨rfl, hbb⟩
      go_wp2_with fail
      refine (specPutNum_any n _ HN.out).mono ?_
      rintro e wc ⟨rfl, hbc⟩
      have HBC := Lib.hid (hba.trans ((hbb.trans (hbc.mono hbb.size)).mono hba.size))
      clear hba hbb hbc
      have hls := numS_size n
      have HG1 := Lib.hid (get_mid HN.out ⟨#[120, 121]⟩ ⟨#[122]⟩)
      have HG2 := Lib.hid (get_cut HN.out)
      generalize numS n = t at *
      obtain ⟨hl1, hl2⟩ := hls
      have hs1 : (⟨#[120, 121]⟩ ++ t ++ ⟨#[122]⟩ : ByteArray).size = t.size + 3 := by rw [ByteArray.size_append, ByteArray.size_append]; show 2 + t.size + 1 = _; omega
      have HS1 : Hid ((⟨#[120, 121]⟩ ++ t ++ ⟨#[122]⟩ : ByteArray).size ≤ maxLen) := by unfold maxLen; exact (by omega : (⟨#[120, 121]⟩ ++ t ++ ⟨#[122]⟩ : ByteArray).size ≤ 9223372036854775807)
      have HV1 : Hid (getS (⟨#[120, 121]⟩ ++ t ++ ⟨#[122]⟩) 2 = (n, (t.size : Int) + 2, 0)) := by
        have e := getS_read (s := ⟨#[120, 121]⟩ ++ t ++ ⟨#[122]⟩) (a := 2) (by omega)
        have h : rdS (⟨#[120, 121]⟩ ++ t ++ ⟨#[122]⟩) 2 10 0 0 = (n, 2 + (t.size : Int), 0) := HG1.out
        rw [h, Int.add_comm] at e
        exact e
      have hs2 : (t.extract 0 (t.size - 1)).size ≤ 10 := by rw [ByteArray.size_extract]; omega
      have HS2 : Hid ((t.extract 0 (t.size - 1)).size ≤ maxLen) := by unfold maxLen; exact (by omega : (t.extract 0 (t.size - 1)).size ≤ 9223372036854775807)
      have HV2 : Hid (getS (t.extract 0 (t.size - 1)) 0 = (0, 0, 4)) := (getS_read (s := t.extract 0 (t.size - 1)) (a := 0) (by omega)).trans HG2.out
      have hgc := hg.below HBC.out
      have HGC := Lib.hid hgc
      clear hs1 hs2 hgc hg
      go_wp2_with fail
      refine (implGetNum_any _ 2 _ (by decide) HS1.out HGC.out).mono ?_
      rintro e wd ⟨rfl, hbd⟩
      rw [HV1.out]
      unfold numOutV
      have HBD := Lib.hid (HBC.out.trans (hbd.mono HBC.out.size))
      have HGD := Lib.hid ((HGC.out.below hbd).alloc (.cells #[.int .i64 n, .int .i64 ((t.size : Int) + 2), .int .i64 0] 26))
      clear hbd
      go_wp2_with fail
      refine (implGetNum_any _ 0 _ (by decide) HS2.out HGD.out).mono ?_
      rintro e we ⟨rfl, hbe⟩
      rw [HV2.out]
      unfold numOutV
      have HBE : Hid (Below w.heap.size w we) := (HBD.out.alloc HBD.out.size _).trans (hbe.mono (HBD.out.alloc HBD.out.size _).size)
      have HGE := Lib.hid (HGD.out.below hbe)
      clear hbe
      go_wp2_with fail
      refine (drawText_any a1 len1 cap1 _ (hc1.below HBE.out) (by omega)).mono ?_
      rintro e wf ⟨u, rfl, hu, hbf⟩
      have HBF := Lib.hid (HBE.out.trans (hbf.mono HBE.out.size))
      have HGF := Lib.hid (HGE.out.below hbf)
      have HUM : Hid (u.size ≤ maxLen) := by unfold maxLen; exact (by omega : u.size ≤ 9223372036854775807)
      clear hbf
      go_wp2_with fail
      refine (implPutText_any u _ HUM.out).mono ?_
      rintro e wg ⟨rfl, hbg⟩
      go_wp2_with fail
      refine (specPutText_any u _ HUM.out).mono ?_
      rintro e wh ⟨rfl, hbh⟩
      have HBH : Hid (Below w.heap.size w wh) := HBF.out.trans ((hbg.trans (hbh.mono hbg.size)).mono HBF.out.size)
      have HGH : Hid (ET wh) := (HGF.out.below hbg).below hbh
      clear hbg hbh
      by_cases hu8 : u.size ≤ 8000
      · have hnl := numS_size u.size
        have HP := Lib.hid (putTextS_short hu8)
        have HT1 := Lib.hid (getText_mid ⟨#[120]⟩ u hu8)
        have HT2 := Lib.hid (getText_cut u hu8)
        obtain ⟨v, hv⟩ : ∃ v, v = numS u.size ++ u := ⟨_, rfl⟩
        have hvs : v.size = (numS u.size).size + u.size := by rw [hv, ByteArray.size_append]
        rw [← hv] at HP HT1 HT2
        rw [HP.out]

        clear hv
        obtain ⟨hn1, hn2⟩ := hnl
        generalize (numS u.size).size = q at *
        have hvne : (v.toList == ([] : List UInt8)) = false := by
          rw [Lib.toList_data, beq_eq_false_iff_ne]
          intro h
          have : v.data.toList.length = 0 := by rw [h]; rfl
          have h2 : v.size = v.data.toList.length := by simp
          omega
        by_cases hb8 : 8000 < v.size + 1
        · go_wp2_with fail
          go_ret
          exact ⟨rfl, HBH.out⟩
        · have hs3 : (⟨#[120]⟩ ++ v : ByteArray).size = v.size + 1 := by rw [ByteArray.size_append]; show 1 + v.size = _; omega
          have HS3 : Hid ((⟨#[120]⟩ ++ v : ByteArray).size ≤ maxLen) := by unfold maxLen; exact (by omega : (⟨#[120]⟩ ++ v : ByteArray).size ≤ 9223372036854775807)
          have HV3 : Hid (getT (⟨#[120]⟩ ++ v) 1 = (u, (v.size : Int) + 1, 0)) := by
            have e := getT_read (s := ⟨#[120]⟩ ++ v) (a := 1) (by omega)
            have h : txtS (⟨#[120]⟩ ++ v) 1 = (u, 1 + (q : Int) + (u.size : Int), 0) := HT1.out
            rw [h, show 1 + (q : Int) + (u.size : Int) = (v.size : Int) + 1 by omega] at e
            exact e
          have hs4 : (v.extract 0 (v.size - 1)).size ≤ 8000 := by rw [ByteArray.size_extract]; omega
          have HS4 : Hid ((v.extract 0 (v.size - 1)).size ≤ maxLen) := by unfold maxLen; exact (by omega : (v.extract 0 (v.size - 1)).size ≤ 9223372036854775807)
          have HV4 : Hid (getT (v.extract 0 (v.size - 1)) 0 = (⟨#[]⟩, 0, 4)) := (getT_read (s := v.extract 0 (v.size - 1)) (a := 0) (by omega)).trans HT2.out
          have hv1 : 1 ≤ v.size := by omega
          clear hs3 hs4 hvs HT1 HT2 hn1 hn2
          go_wp2_with fail
          refine (implGetText_any _ 1 _ (by decide) HS3.out HGH.out).mono ?_
          rintro e wi ⟨rfl, hbi⟩
          rw [HV3.out]
          unfold textOutV
          have HBI := Lib.hid (HBH.out.trans (hbi.mono HBH.out.size))
          have HGI := Lib.hid (HGH.out.below hbi)
          clear hbi
          go_wp2_with fail
          refine (implGetText_any _ 0 _ (by decide) HS4.out HGI.out).mono ?_
          rintro e wj ⟨rfl, hbj⟩
          rw [HV4.out]
          unfold textOutV
          have HBJ := Lib.hid (HBI.out.trans (hbj.mono HBI.out.size))
          clear hbj
          go_wp2_with fail
          go_ret
          exact ⟨rfl, HBJ.out⟩
      · have HP := Lib.hid (putTextS_long (t := u) (by omega))
        rw [HP.out]
        go_wp2_with fail
        refine (specPutText_any u _ HUM.out).mono ?_
        rintro e wi ⟨rfl, hbi⟩
        rw [HP.out]
        go_wp2_with fail
        go_ret
        exact ⟨rfl, HBH.out.trans (hbi.mono HBH.out.size)⟩


set_option maxRecDepth 100000 in
theorem contract (H : Type) (enc : TypeId × Value → H) (W : World) (base : Nat) (args : Array Value) (ds gs : List (DataW H)) (before : List MemPlace)
    (hval0 : ∀ (j : Nat) t v, Tryd.f3.params[j]? = some t → args[j]? = some v → Value.okWide Tryd.prog W .any base t v)
    (hW : DataW.Whole enc Tryd.prog Tryd.f3.params.toList Rows.fnNumsSpec.vars false W args.toList ds gs before) (hL : laidMetH Tryd.prog laidL W) :
    Calls Tryd.prog 3 args W fun e W' => ∃ v, e = .returned v ∧ Rows.fnNumsSpec.post enc Tryd.prog Tryd.f3 false true false false W args v W' := by
  have hval : ∀ (j : Nat) t v, Tryd.f3.params[j]? = some t → args[j]? = some v → Value.okWide Tryd.prog W .any base t v := hval0
  have hW' := hW
  obtain ⟨p, q, hA0, hV, rfl, hfz, hnd⟩ := hW
  have hA : DataW.TrodAll enc Tryd.prog W 0 (fun _ => true) true Tryd.f3.params.toList args.toList ds p := hA0
  rw [Tryd.params3] at hA hval
  obtain ⟨v0, vs0, d0, ds0, p0, q0, hargs, rfl, rfl, h0, r0⟩ := trodAll_cons hA
  obtain ⟨v1, vs1, d1, ds1, p1, q1, rfl, rfl, rfl, h1, r1⟩ := trodAll_cons r0
  obtain ⟨rfl, rfl, rfl⟩ := trodAll_nil r1
  obtain rfl : args = #[v0, v1] := by cases args; simp_all
  obtain ⟨rfl, rfl⟩ := trodVars_none hV
  obtain ⟨a0, len0, cap0, rfl⟩ := okWide_slice Tryd.underlying22 (hval 0 22 v0 rfl rfl)
  have k0 := h0
  have lt0 : ∀ x ∈ p0, x.block < W.heap.size := by obtain ⟨m, hm⟩ := k0; exact DataW.trod_lt m _ _ _ hm
  obtain ⟨z0, w0⟩ : ∃ zs, IsRow .u8 W a0 len0 cap0 zs := by
    obtain ⟨fuel, hf⟩ := h0
    rcases open_ints Tryd.underlying22 Tryd.underlying5 (by kernel_rfl) hf with ⟨hcs, _⟩ | ⟨x, l, c, zs, hcs, _, hl, hm, hz, _, hcell, hwz⟩
    · simp [Value.cells] at hcs
      obtain ⟨rfl, rfl, rfl⟩ := hcs
      exact ⟨[], .inl ⟨rfl, rfl, rfl, rfl⟩⟩
    · simp [Value.cells] at hcs
      obtain ⟨rfl, rfl, rfl⟩ := hcs
      exact ⟨zs, .inr ⟨_, rfl, hl, hm, by simpa using hz, hcell, hwz⟩⟩
  obtain ⟨a1, len1, cap1, rfl⟩ := okWide_slice Tryd.underlying22 (hval 1 22 v1 rfl rfl)
  have k1 := h1
  have lt1 : ∀ x ∈ p1, x.block < W.heap.size := by obtain ⟨m, hm⟩ := k1; exact DataW.trod_lt m _ _ _ hm
  obtain ⟨z1, w1⟩ : ∃ zs, IsRow .u8 W a1 len1 cap1 zs := by
    obtain ⟨fuel, hf⟩ := h1
    rcases open_ints Tryd.underlying22 Tryd.underlying5 (by kernel_rfl) hf with ⟨hcs, _⟩ | ⟨x, l, c, zs, hcs, _, hl, hm, hz, _, hcell, hwz⟩
    · simp [Value.cells] at hcs
      obtain ⟨rfl, rfl, rfl⟩ := hcs
      exact ⟨[], .inl ⟨rfl, rfl, rfl, rfl⟩⟩
    · simp [Value.cells] at hcs
      obtain ⟨rfl, rfl, rfl⟩ := hcs
      exact ⟨zs, .inr ⟨_, rfl, hl, hm, by simpa using hz, hcell, hwz⟩⟩
  clear hA0 hval0
  refine (walk a0 len0 cap0 z0 a1 len1 cap1 z1 W w0 w1 (et_of_laid hL)).mono fun e W' ⟨he, bel⟩ => ?_
  subst he
  exact ⟨_, rfl, _, _, _, [], _, [], hW', trodAll_mk1 (shut_bool Tryd.underlying4 _), (trodAll_cons_mk (Below.trod laidOut (by kernel_rfl) (of_decide_eq_true (by kernel_rfl)) k0 bel lt0) (trodAll_cons_mk (Below.trod laidOut (by kernel_rfl) (of_decide_eq_true (by kernel_rfl)) k1 bel lt1) trodAll_mk0)), rfl, bel.frame _, fun h => by cases h⟩
theorem reads (os : Os) {H : Type} (enc : TypeId × Value → H) : ∃ places, DataW.whole enc Tryd.prog ((laidWorld os).forCall (fun _ _ => 0) ⟨#[], #[Value.slice none 0 0, Value.slice none 0 0], []⟩).memory Tryd.f3.params.toList Rows.fnNumsSpec.vars false (#[Value.slice none 0 0, Value.slice none 0 0] : Array Value).toList 8 = some ([.nil, .nil], [], places) :=
  ⟨[], by kernel_rfl⟩
set_option maxRecDepth 100000 in
theorem lifted (os : Os) (started : os.Started) (H : Type) (enc : TypeId × Value → H) (F : Stop.Interp) :
    ReturnsInHanded {} Tryd.checked os 3 .any ((OpenSpec.ofChange Rows.fnNumsSpec).preRow enc Tryd.prog Tryd.f3 Rows.fnNumsRow.domain false Rows.fnNumsRow.laid) (((OpenSpec.ofChange Rows.fnNumsSpec).at F).post enc Tryd.prog Tryd.f3 false true false false) := by
  obtain ⟨places, hx⟩ := reads os enc
  refine returnsInHanded_of_row (C := Tryd.checked) (s := OpenSpec.ofChange Rows.fnNumsSpec) door_own started (by kernel_rfl) Tryd.func3
    (witness_row_at (enc := enc) (C := Tryd.checked) false (laidWorld os) #[Value.slice none 0 0, Value.slice none 0 0] rfl (by kernel_rfl) (by kernel_rfl) (by kernel_rfl)
      (OpenSpec.preRow_of_cond 8 hx (by kernel_rfl) (fun k hk => by cases hk) (by kernel_rfl) (laidWorld_met os _))) ?_
  intro W base args ds gs before hval hW _ _ _ hL _ _
  exact contract H enc W base args ds gs before hval hW hL
theorem said : Rows.FnNumsSaid :=
  OpenClaim.holds_of_cond 3 Tryd.f3 rfl rfl rfl rfl rfl rfl rfl ⟨rfl, rfl, rfl, rfl, rfl⟩ rfl rfl rfl rfl rfl (by kernel_rfl) Tryd.func3 (by kernel_rfl)
    (of_decide_eq_true (by kernel_rfl)) (by unfold Func.isWrapper; first | (rw [if_pos (by decide +kernel)]; kernel_rfl) | (rw [if_neg (by decide +kernel)]; exact ⟨rfl, rfl⟩))
    (fun os started H enc _ F => by rw [OpenClaim.pre_eq_preRow]; exact lifted os started H enc F)
theorem plain (f : FuncId) (fn : Func) (hf : Tryd.pinned.checked.prog.funcNamed "loop.example/g00839/laws.FnNums" = some f) (hfn : Tryd.pinned.checked.prog.funcs[f]? = some fn) :
    true = Tryd.pinned.checked.prog.looks [] ∧ ∀ (j : Nat) t, fn.params[j]? = some t → Tryd.pinned.checked.prog.wantsStandIn t = false := by
  obtain rfl : f = 3 := Option.some.inj ((show Tryd.prog.funcNamed "loop.example/g00839/laws.FnNums" = some 3 by kernel_rfl).symm.trans hf) |>.symm
  obtain rfl : fn = Tryd.f3 := (Option.some.inj (Tryd.func3.symm.trans hfn)).symm
  refine ⟨by kernel_rfl, fun j t ht => ?_⟩
  rw [Tryd.params3] at ht
  have h : t = 22 ∨ t = 22 := by simpa using Array.mem_of_getElem? ht
  rcases h with rfl | rfl
  · exact (show Tryd.prog.wantsStandIn 22 = false by kernel_rfl)
  · exact (show Tryd.prog.wantsStandIn 22 = false by kernel_rfl)

/-- The statement: the card, tied to the program's text. -/
theorem proved : Rows.FnNumsCardSaid :=
  Claim7.holds_tied_plain_at .later [] _ _ _ _ said (fun _ h => by cases h) (by kernel_rfl) (fun _ h => by cases h) fnNums_row_tie rfl ⟨rfl, rfl⟩ (by kernel_rfl) rfl plain (by kernel_rfl)
end Go.Proofs.YteigjnjcfnpckaaDoor.fnNums
