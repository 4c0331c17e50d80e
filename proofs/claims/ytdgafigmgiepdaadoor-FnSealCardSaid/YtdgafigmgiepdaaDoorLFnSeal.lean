/- PROVED: the statement 'FnSealSaid': at every argument the law's function answers true and leaves its arguments as they were. The frame was written by the kit's own frame writer. -/
import Derived.Test.YtdgafigmgiepdaaDoorFnUnseal2
import Derived.Test.YtdgafigmgiepdaaDoorDraw7
import Derived.Test.YtdgafigmgiepdaaDoorMSeal3
import Derived.StillTailTactics
import Derived.Test.YtdgafigmgiepdaaDoorDoor
import Derived.SevenTiedAt
import Derived.WalkKit
import Derived.ProofKit
import Derived.OpenShut
import Derived.ShutString
import Derived.ChangeOld
import Derived.Below
import Derived.ChangeOld
import Derived.Below
namespace Go.Proofs.YtdgafigmgiepdaaDoor.fnSeal
open Go.ChangeShapes Go.WideShapes Go.ChangeAt Go.RowKit
open Go.ChangeMaps (open_string shut_string)
set_option linter.unusedVariables false

theorem laidOut : laidOutB Tryd.prog = true := by kernel_rfl

/-- WHAT THE WALK IS TOLD OF A SLICE OF INTEGERS THAT CAME IN: it is nil; or it leads to a row of 'cap' cells, the numbers 'zs' (the first 'len' are its elements, the rest its spare room), each fitting its kind. -/
def IsRow (k : IntKind) (w : World) (a : Option Addr) (len cap : Nat) (zs : List Int) : Prop :=
  (a = none ∧ len = 0 ∧ cap = 0 ∧ zs = []) ∨
  ∃ x, a = some x ∧ len ≤ cap ∧ cap ≤ maxLen ∧ zs.length = cap ∧ (∀ i, i < zs.length → w.cell? (x.add i) = some (.int k (zs.getD i 0))) ∧ ∀ n ∈ zs, (Lit.int k n).wf = true

open G MCrc MGet
theorem field_text (W : World) (a b c : Value) : (Instr.field 31 (.agg #[a, b, c]) 2).run Tryd.prog W = .ok c W := by kernel_rfl
theorem code_of {w : World} {a : Option Addr} {len cap : Nat} {zs : List Int} (h : IsRow .u8 w a len cap zs) : CodeAt w a len := by
  rcases h with ⟨rfl, rfl, rfl, rfl⟩ | ⟨x, rfl, hl, hm, hz, hc, hw⟩
  · exact ⟨0, 0, fun h => absurd h (by omega), fun i hi => absurd hi (by omega)⟩
  · by_cases h0 : 0 < len
    · obtain ⟨b, o, sp⟩ := x
      have h1 := hc 0 (by omega)
      have hsp : sp = none := by simpa [Addr.add] using World.cell?_spot h1
      subst hsp
      refine ⟨b, o, fun _ => rfl, fun i hi => ?_⟩
      have h2 := hc i (by omega)
      have hb := bounds_u8 (hw (zs.getD i 0) (by rw [List.getD_eq_getElem?_getD, List.getElem?_eq_getElem (show i < zs.length by omega)]; exact List.getElem_mem _))
      have e1 : (⟨b, o, none⟩ : Addr).add i = ⟨b, o + i, none⟩ := by unfold Addr.add; split <;> simp_all
      exact ⟨_, hb.1, hb.2, by rw [← e1]; exact h2⟩
    · exact ⟨0, 0, fun h => absurd h h0, fun i hi => absurd hi (by omega)⟩

/-! ### The walk. -/
set_option maxRecDepth 100000 in
set_option maxHeartbeats 4000000 in
theorem walk (a0 : Option Addr) (len0 cap0 : Nat) (z0 : List Int) (a1 : Option Addr) (len1 cap1 : Nat) (z1 : List Int) (w : World) (w0 : IsRow .u8 w a0 len0 cap0 z0) (w1 : IsRow .u8 w a1 len1 cap1 z1) (hg : ET w) :
    Calls Tryd.prog 4 #[.slice a0 len0 cap0, .slice a1 len1 cap1] w fun e w' => e = .returned (.bool true) ∧ Below w.heap.size w w' := by
  have hf2 := field_text
  have hc0 := code_of w0
  have hc1 := code_of w1
  clear w0 w1
  by_cases h0 : 1048576 < len0
  · go_enter Tryd.func4, Tryd.ntmps4
    go_wp2
    go_ret
    exact ⟨rfl, Below.refl _ _⟩
  · by_cases h1 : 1048576 < len1
    · go_enter Tryd.func4, Tryd.ntmps4
      go_wp2
      go_ret
      exact ⟨rfl, Below.refl _ _⟩
    · go_enter Tryd.func4, Tryd.ntmps4
      go_wp2_with fail
      refine (drawSeal_any a0 len0 cap0 w hc0 (by omega)).mono ?_
      rintro e wa ⟨t, rfl, ht, hba⟩
      have HTM : Hid (t.size ≤ maxLen) := by unfold maxLen; exact (by omega : t.size ≤ 9223372036854775807)
      go_wp2_with fail
      refine (implSeal_any t _ HTM.out).mono ?_
      rintro e wb ⟨rfl, hbb⟩
      go_wp2_with fail
      refine (specSeal_any t _ HTM.out).mono ?_
      rintro e wc ⟨rfl, hbc⟩
      have HBC := Lib.hid (hba.trans ((hbb.trans (hbc.mono hbb.size)).mono hba.size))
      have HGC := Lib.hid (hg.below HBC.out)
      clear hba hbb hbc
      by_cases ht8 : t.size ≤ 7996
      · have HP := Lib.hid (sealS_yes ht8)
        rw [HP.out]
        have hc4 := crc4_size t
        obtain ⟨v, hv⟩ : ∃ v, v = t ++ crc4 t := ⟨_, rfl⟩
        have hvs : v.size = t.size + 4 := by rw [hv, ByteArray.size_append, hc4]
        have HV := Lib.hid hv
        rw [← hv]
        clear hv hc4
        have hvne : (v.toList == ([] : List UInt8)) = false := by
          rw [Lib.toList_data, beq_eq_false_iff_ne]
          intro h
          have : v.data.toList.length = 0 := by rw [h]; rfl
          have h2 : v.size = v.data.toList.length := by simp
          omega
        have HVS := Lib.hid hvs
        have hv4 : 4 ≤ v.size := by omega
        have hv8 : v.size ≤ 8000 := by omega
        clear hvs
        have hcb := fun (W : World) => run_bytes_of_string (P := Tryd.prog) W 9 22 5 v Tryd.underlying9 Tryd.underlying22 Tryd.underlying5
        go_wp2_with fail
        have hBA := bytesAt_made wc v (grownCap wc v.size 0 5) 5
        have HBD : Hid (Below w.heap.size w ((wc.alloc (.cells (bytesRow v (grownCap wc v.size 0 5)) 5 ((bytesRow v (grownCap wc v.size 0 5)).size, (bytesRow v (grownCap wc v.size 0 5)).size + 1))).drew)) := Lib.hid (Below.drew (HBC.out.alloc HBC.out.size _))
        have HGD : Hid (ET ((wc.alloc (.cells (bytesRow v (grownCap wc v.size 0 5)) 5 ((bytesRow v (grownCap wc v.size 0 5)).size, (bytesRow v (grownCap wc v.size 0 5)).size + 1))).drew)) := Lib.hid (HGC.out.alloc _)
        have hgw : w.heap.size ≤ wc.heap.size := HBC.out.size
        obtain ⟨wd, hwd⟩ : ∃ wd, wd = (wc.alloc (.cells (bytesRow v (grownCap wc v.size 0 5)) 5 ((bytesRow v (grownCap wc v.size 0 5)).size, (bytesRow v (grownCap wc v.size 0 5)).size + 1))).drew := ⟨_, rfl⟩
        have hgd : wc.heap.size < wd.heap.size := by rw [hwd]; show wc.heap.size < (wc.heap.push _).size; rw [Array.size_push]; omega
        rw [← hwd] at hBA HBD HGD
        rw [← hwd]
        clear hwd
        generalize grownCap wc v.size 0 5 = cap
        generalize hgz : wc.heap.size = g at hBA hgw hgd ⊢
        refine (lwAt_any a1 len1 cap1 0 (v.size : Int) _ (hc1.below HBD.out) (by omega) (by omega) (by omega)).mono ?_
        rintro e wd' ⟨r, rfl, hr0, hr1, rfl⟩
        obtain ⟨j, rfl⟩ : ∃ j : Nat, r = j := ⟨r.toNat, by omega⟩
        have hj : j < v.size := by omega
        have hcj := hBA.cell j hj
        have hfj := hBA.free j hj
        obtain ⟨r2, hr2, hcall0⟩ := lwAt_is a1 len1 cap1 1 255 wd.drew (hc1.below HBD.out.drew) (by omega) (by omega) (by omega)
        have hcall : Calls Tryd.prog 19 #[.slice a1 len1 cap1, .int .i64 1, .int .i64 255] wd.drew fun e w' => e = .returned (.int .i64 r2) ∧ w' = wd.drew := hcall0
        clear hcall0
        obtain ⟨m, hm⟩ : ∃ m : Int, 1 + r2 = m := ⟨_, rfl⟩
        have hm1 : IntKind.i64.wrap (1 + r2) = m := by rw [hm]; exact IntWalk.i64_in _ (by omega)
        have hm2 : IntKind.u8.wrap m = m := by rw [IntKind.wrap_u8]; omega
        have hbt0 := PlainAid.bt_nonneg v j
        have hbt1 := PlainAid.bt_le v j
        obtain ⟨y, hy⟩ : ∃ y : Int, bits .xor .u8 (PlainAid.bt v j) m = y := ⟨_, rfl⟩
        go_wp2_with fail
        go_still_tail 12, (by kernel_rfl)
        still_call hcall
        repeat still_step
        refine wpStill_nil ?_
        change wpList _ _ _ _ _ wd.drew
        have hcj' : wd.drew.cell? ⟨g, j, none⟩ = some (.int .u8 (PlainAid.bt v j)) := hcj
        have hfj' : wd.drew.frozen? ⟨g, j, none⟩ = false := hfj
        have HBD' := Lib.hid HBD.out.drew
        have HGD' := Lib.hid (show ET wd.drew from HGD.out)
        have hBA' := hBA.drew
        have hgd' : g < wd.drew.heap.size := hgd
        generalize wd.drew = we at *
        go_wp2_with fail
        have hb0 : Below w.heap.size w (we.setCell ⟨g, j, none⟩ (.int .u8 y)) := HBD'.out.setCell hgw _
        have HB1 := Lib.hid hb0
        have HG1 := Lib.hid (hg.below hb0)
        have HTA := Lib.hid (turned_made (y := y) hBA' hj)
        have hg1 : g < (we.setCell ⟨g, j, none⟩ (.int .u8 y)).heap.size := by simpa using hgd'
        generalize we.setCell ⟨g, j, none⟩ (.int .u8 y) = wf at *
        have HVM : Hid (v.size ≤ maxLen) := by unfold maxLen; exact (by omega : v.size ≤ 9223372036854775807)
        have HO : Hid (openS v = (t, 0, 0)) := Lib.hid (by rw [HV.out]; exact open_seal ht8)
        have hyr : 0 ≤ y ∧ y ≤ 255 := by rw [← hy]; exact bounds_u8 (wf_bits _ _ _ _)
        have hyn : y ≠ PlainAid.bt v j := by rw [← hy]; exact xor8_ne hbt0 hbt1 (by omega) (by omega)
        have HO2 : Hid (openS (turned v j y) = (⟨#[]⟩, 0, 5)) := Lib.hid (open_turned (t := t) (j := j) ht8 (by rw [turned_size, HV.out]) (by rw [turned_size]; exact hj) (by rw [bt_turned hyr hj, if_pos rfl, ← HV.out]; exact hyn) (fun i hi => by rw [← HV.out]; exact bt_turned_other hyr hi))
        have HVM2 : Hid ((turned v j y).size ≤ maxLen) := Lib.hid (by rw [turned_size]; exact HVM.out)
        clear hy hyr hyn hm hm1 hm2 hcj hcj' hfj hfj' hcall hBA' HBD' HGD' hBA HBD HGD hbt0 hbt1 hr2 hr0 hr1 hgd' hgd hv8 hv4 hcb
        refine (implUnseal_any v _ HVM.out HG1.out).mono ?_
        rintro e wg ⟨rfl, hbg⟩
        rw [HO.out]
        unfold textOutV
        have HBG := Lib.hid (HB1.out.trans (hbg.mono HB1.out.size))
        have HTG := Lib.hid (HTA.out.below hbg hg1)
        have HGG := Lib.hid (HG1.out.below hbg)
        have hgg : g < wg.heap.size := by have := hbg.size; omega
        clear hbg
        have hcv := fun (o : Obj) => conv_at (P := Tryd.prog) 22 9 5 Tryd.underlying22 Tryd.underlying5 Tryd.underlying9 (cap := cap) (HTG.out.alloc hgg o)
        have hcv2 := conv_at (P := Tryd.prog) 22 9 5 Tryd.underlying22 Tryd.underlying5 Tryd.underlying9 (cap := cap) HTG.out
        go_wp2_with fail
        refine (implUnseal_any _ _ HVM2.out HGG.out).mono ?_
        rintro e wh ⟨rfl, hbh⟩
        rw [HO2.out]
        unfold textOutV
        have HBX := Lib.hid (HBG.out.trans (hbh.mono HBG.out.size))
        clear hbh hcv hcv2 hgg hg1
        generalize wh = wx at *
        have HGX : Hid (ET wx) := Lib.hid (hg.below HBX.out)
        go_wp2_with fail
        refine (drawCrcMore_any a1 len1 cap1 _ (hc1.below HBX.out) (by omega)).mono ?_
        rintro e wk ⟨r, u, rfl, hr, hu, hbk⟩
        have HBK := Lib.hid (HBX.out.trans (hbk.mono HBX.out.size))
        have HR := Lib.hid hr
        have HUM : Hid (u.size ≤ maxLen) := by unfold maxLen; exact (by omega : u.size ≤ 9223372036854775807)
        clear hbk hr
        by_cases h8 : 8000 < t.size + u.size
        · go_wp2_with fail
          go_ret
          exact ⟨rfl, HBK.out⟩
        · have HTU : Hid ((t ++ u).size ≤ maxLen) := by unfold maxLen; exact (by rw [ByteArray.size_append]; omega : (t ++ u).size ≤ 9223372036854775807)
          have HE : Hid (crcMoreI (crcI t) u = crcI (t ++ u)) := Lib.hid (by rw [crcI_yes (show t.size ≤ 8000 by omega), crcMoreI_yes (by omega) (crcOn_range _ _).1 (crcOn_range _ _).2, crcOn_append, crcI_yes (by rw [ByteArray.size_append]; omega)])
          have HCW : Hid ((Lit.int .i64 (crcI t)).wf = true) := Lib.hid (wf_crc (crcI_range t))
          go_wp2_with fail
          refine (implCrcMore_any r u _ HR.out HUM.out).mono ?_
          rintro e w1 ⟨rfl, rfl⟩
          go_wp2_with fail
          refine (specCrcMore_any r u _ HR.out HUM.out).mono ?_
          rintro e w1 ⟨rfl, rfl⟩
          go_wp2_with fail
          refine (implCrc_any t _ HTM.out).mono ?_
          rintro e w1 ⟨rfl, rfl⟩
          go_wp2_with fail
          refine (implCrcMore_any (crcI t) u _ HCW.out HUM.out).mono ?_
          rintro e w1 ⟨rfl, rfl⟩
          rw [HE.out]
          go_wp2_with fail
          refine (implCrc_any (t ++ u) _ HTU.out).mono ?_
          rintro e w1 ⟨rfl, rfl⟩
          go_wp2_with fail
          go_ret
          exact ⟨rfl, HBK.out⟩
      · have HP := Lib.hid (sealS_no (s := t) (by omega))
        rw [HP.out]
        have HBX := HBC
        generalize wc = wx at *
        have HGX : Hid (ET wx) := Lib.hid (hg.below HBX.out)
        go_wp2_with fail
        refine (drawCrcMore_any a1 len1 cap1 _ (hc1.below HBX.out) (by omega)).mono ?_
        rintro e wk ⟨r, u, rfl, hr, hu, hbk⟩
        have HBK := Lib.hid (HBX.out.trans (hbk.mono HBX.out.size))
        have HR := Lib.hid hr
        have HUM : Hid (u.size ≤ maxLen) := by unfold maxLen; exact (by omega : u.size ≤ 9223372036854775807)
        clear hbk hr
        by_cases h8 : 8000 < t.size + u.size
        · go_wp2_with fail
          go_ret
          exact ⟨rfl, HBK.out⟩
        · have HTU : Hid ((t ++ u).size ≤ maxLen) := by unfold maxLen; exact (by rw [ByteArray.size_append]; omega : (t ++ u).size ≤ 9223372036854775807)
          have HE : Hid (crcMoreI (crcI t) u = crcI (t ++ u)) := Lib.hid (by rw [crcI_yes (show t.size ≤ 8000 by omega), crcMoreI_yes (by omega) (crcOn_range _ _).1 (crcOn_range _ _).2, crcOn_append, crcI_yes (by rw [ByteArray.size_append]; omega)])
          have HCW : Hid ((Lit.int .i64 (crcI t)).wf = true) := Lib.hid (wf_crc (crcI_range t))
          go_wp2_with fail
          refine (implCrcMore_any r u _ HR.out HUM.out).mono ?_
          rintro e w1 ⟨rfl, rfl⟩
          go_wp2_with fail
          refine (specCrcMore_any r u _ HR.out HUM.out).mono ?_
          rintro e w1 ⟨rfl, rfl⟩
          go_wp2_with fail
          refine (implCrc_any t _ HTM.out).mono ?_
          rintro e w1 ⟨rfl, rfl⟩
          go_wp2_with fail
          refine (implCrcMore_any (crcI t) u _ HCW.out HUM.out).mono ?_
          rintro e w1 ⟨rfl, rfl⟩
          rw [HE.out]
          go_wp2_with fail
          refine (implCrc_any (t ++ u) _ HTU.out).mono ?_
          rintro e w1 ⟨rfl, rfl⟩
          go_wp2_with fail
          go_ret
          exact ⟨rfl, HBK.out⟩


set_option maxRecDepth 100000 in
theorem contract (H : Type) (enc : TypeId × Value → H) (W : World) (base : Nat) (args : Array Value) (ds gs : List (DataW H)) (before : List MemPlace)
    (hval0 : ∀ (j : Nat) t v, Tryd.f4.params[j]? = some t → args[j]? = some v → Value.okWide Tryd.prog W .any base t v)
    (hW : DataW.Whole enc Tryd.prog Tryd.f4.params.toList Rows.fnSealSpec.vars false W args.toList ds gs before) (hL : laidMetH Tryd.prog laidL W) :
    Calls Tryd.prog 4 args W fun e W' => ∃ v, e = .returned v ∧ Rows.fnSealSpec.post enc Tryd.prog Tryd.f4 false true false false W args v W' := by
  have hval : ∀ (j : Nat) t v, Tryd.f4.params[j]? = some t → args[j]? = some v → Value.okWide Tryd.prog W .any base t v := hval0
  have hW' := hW
  obtain ⟨p, q, hA0, hV, rfl, hfz, hnd⟩ := hW
  have hA : DataW.TrodAll enc Tryd.prog W 0 (fun _ => true) true Tryd.f4.params.toList args.toList ds p := hA0
  rw [Tryd.params4] at hA hval
  obtain ⟨v0, vs0, d0, ds0, p0, q0, hargs, rfl, rfl, h0, r0⟩ := trodAll_cons hA
  obtain ⟨v1, vs1, d1, ds1, p1, q1, rfl, rfl, rfl, h1, r1⟩ := trodAll_cons r0
  obtain ⟨rfl, rfl, rfl⟩ := trodAll_nil r1
  obtain rfl : args = #[v0, v1] := by cases args; simp_all
  obtain ⟨rfl, rfl⟩ := trodVars_none hV
  obtain ⟨a0, len0, cap0, rfl⟩ := okWide_slice Tryd.underlying22 (hval 0 22 v0 rfl rfl)
  have k0 := h0
  have lt0 : ∀ x ∈ p0, x.block < W.heap.size := by obtain ⟨m, hm⟩ := k0; exact DataW.trod_lt m _ _ _ hm
  obtain ⟨z0, w0⟩ : ∃ zs, IsRow .u8 W a0 len0 cap0 zs := by
    obtain ⟨fuel, hf⟩ := h0
    rcases open_ints Tryd.underlying22 Tryd.underlying5 (by kernel_rfl) hf with ⟨hcs, _⟩ | ⟨x, l, c, zs, hcs, _, hl, hm, hz, _, hcell, hwz⟩
    · simp [Value.cells] at hcs
      obtain ⟨rfl, rfl, rfl⟩ := hcs
      exact ⟨[], .inl ⟨rfl, rfl, rfl, rfl⟩⟩
    · simp [Value.cells] at hcs
      obtain ⟨rfl, rfl, rfl⟩ := hcs
      exact ⟨zs, .inr ⟨_, rfl, hl, hm, by simpa using hz, hcell, hwz⟩⟩
  obtain ⟨a1, len1, cap1, rfl⟩ := okWide_slice Tryd.underlying22 (hval 1 22 v1 rfl rfl)
  have k1 := h1
  have lt1 : ∀ x ∈ p1, x.block < W.heap.size := by obtain ⟨m, hm⟩ := k1; exact DataW.trod_lt m _ _ _ hm
  obtain ⟨z1, w1⟩ : ∃ zs, IsRow .u8 W a1 len1 cap1 zs := by
    obtain ⟨fuel, hf⟩ := h1
    rcases open_ints Tryd.underlying22 Tryd.underlying5 (by kernel_rfl) hf with ⟨hcs, _⟩ | ⟨x, l, c, zs, hcs, _, hl, hm, hz, _, hcell, hwz⟩
    · simp [Value.cells] at hcs
      obtain ⟨rfl, rfl, rfl⟩ := hcs
      exact ⟨[], .inl ⟨rfl, rfl, rfl, rfl⟩⟩
    · simp [Value.cells] at hcs
      obtain ⟨rfl, rfl, rfl⟩ := hcs
      exact ⟨zs, .inr ⟨_, rfl, hl, hm, by simpa using hz, hcell, hwz⟩⟩
  clear hA0 hval0
  refine (walk a0 len0 cap0 z0 a1 len1 cap1 z1 W w0 w1 (et_of_laid hL)).mono fun e W' ⟨he, bel⟩ => ?_
  subst he
  exact ⟨_, rfl, _, _, _, [], _, [], hW', trodAll_mk1 (shut_bool Tryd.underlying4 _), (trodAll_cons_mk (Below.trod laidOut (by kernel_rfl) (of_decide_eq_true (by kernel_rfl)) k0 bel lt0) (trodAll_cons_mk (Below.trod laidOut (by kernel_rfl) (of_decide_eq_true (by kernel_rfl)) k1 bel lt1) trodAll_mk0)), rfl, bel.frame _, fun h => by cases h⟩
theorem reads (os : Os) {H : Type} (enc : TypeId × Value → H) : ∃ places, DataW.whole enc Tryd.prog ((laidWorld os).forCall (fun _ _ => 0) ⟨#[], #[Value.slice none 0 0, Value.slice none 0 0], []⟩).memory Tryd.f4.params.toList Rows.fnSealSpec.vars false (#[Value.slice none 0 0, Value.slice none 0 0] : Array Value).toList 8 = some ([.nil, .nil], [], places) :=
  ⟨[], by kernel_rfl⟩
set_option maxRecDepth 100000 in
theorem lifted (os : Os) (started : os.Started) (H : Type) (enc : TypeId × Value → H) (F : Stop.Interp) :
    ReturnsInHanded {} Tryd.checked os 4 .any ((OpenSpec.ofChange Rows.fnSealSpec).preRow enc Tryd.prog Tryd.f4 Rows.fnSealRow.domain false Rows.fnSealRow.laid) (((OpenSpec.ofChange Rows.fnSealSpec).at F).post enc Tryd.prog Tryd.f4 false true false false) := by
  obtain ⟨places, hx⟩ := reads os enc
  refine returnsInHanded_of_row (C := Tryd.checked) (s := OpenSpec.ofChange Rows.fnSealSpec) door_own started (by kernel_rfl) Tryd.func4
    (witness_row_at (enc := enc) (C := Tryd.checked) false (laidWorld os) #[Value.slice none 0 0, Value.slice none 0 0] rfl (by kernel_rfl) (by kernel_rfl) (by kernel_rfl)
      (OpenSpec.preRow_of_cond 8 hx (by kernel_rfl) (fun k hk => by cases hk) (by kernel_rfl) (laidWorld_met os _))) ?_
  intro W base args ds gs before hval hW _ _ _ hL _ _
  exact contract H enc W base args ds gs before hval hW hL
theorem said : Rows.FnSealSaid :=
  OpenClaim.holds_of_cond 4 Tryd.f4 rfl rfl rfl rfl rfl rfl rfl ⟨rfl, rfl, rfl, rfl, rfl⟩ rfl rfl rfl rfl rfl (by kernel_rfl) Tryd.func4 (by kernel_rfl)
    (of_decide_eq_true (by kernel_rfl)) (by unfold Func.isWrapper; first | (rw [if_pos (by decide +kernel)]; kernel_rfl) | (rw [if_neg (by decide +kernel)]; exact ⟨rfl, rfl⟩))
    (fun os started H enc _ F => by rw [OpenClaim.pre_eq_preRow]; exact lifted os started H enc F)
theorem plain (f : FuncId) (fn : Func) (hf : Tryd.pinned.checked.prog.funcNamed "loop.example/g00839/laws.FnSeal" = some f) (hfn : Tryd.pinned.checked.prog.funcs[f]? = some fn) :
    true = Tryd.pinned.checked.prog.looks [] ∧ ∀ (j : Nat) t, fn.params[j]? = some t → Tryd.pinned.checked.prog.wantsStandIn t = false := by
  obtain rfl : f = 4 := Option.some.inj ((show Tryd.prog.funcNamed "loop.example/g00839/laws.FnSeal" = some 4 by kernel_rfl).symm.trans hf) |>.symm
  obtain rfl : fn = Tryd.f4 := (Option.some.inj (Tryd.func4.symm.trans hfn)).symm
  refine ⟨by kernel_rfl, fun j t ht => ?_⟩
  rw [Tryd.params4] at ht
  have h : t = 22 ∨ t = 22 := by simpa using Array.mem_of_getElem? ht
  rcases h with rfl | rfl
  · exact (show Tryd.prog.wantsStandIn 22 = false by kernel_rfl)
  · exact (show Tryd.prog.wantsStandIn 22 = false by kernel_rfl)

/-- The statement: the card, tied to the program's text. -/
theorem proved : Rows.FnSealCardSaid :=
  Claim7.holds_tied_plain_at .later [] _ _ _ _ said (fun _ h => by cases h) (by kernel_rfl) (fun _ h => by cases h) fnSeal_row_tie rfl ⟨rfl, rfl⟩ (by kernel_rfl) rfl plain (by kernel_rfl)
end Go.Proofs.YtdgafigmgiepdaaDoor.fnSeal
