/- PROVED: the statement 'FnSplitSaid': at every argument the law's function answers true and leaves its arguments as they were. The frame was written by the kit's own frame writer. -/
import Derived.Test.YtdnbkjiijpeiiaaGreatLawS
import Derived.Test.YtdnbkjiijpeiiaaGreatSplG
import Derived.Test.YtdnbkjiijpeiiaaGreatSplD
import Derived.Deep.QuietTactic
import Derived.BigQuiet
import Derived.IntWalk
import Derived.Test.YtdnbkjiijpeiiaaGreatSSp4
import Derived.Test.YtdnbkjiijpeiiaaGreatSSp5
import Derived.Deep.RegionHeld3
import Derived.Deep.Cut
import Derived.Test.YtdnbkjiijpeiiaaGreatRows
import Derived.WalkKit
import Derived.ProofKit
import Derived.OpenShut
import Derived.ShutString
import Derived.ChangeOld
import Derived.Below
import Derived.ChangeOld
import Derived.Below
namespace Go.Proofs.YtdnbkjiijpeiiaaGreat.fnSplit
open Go.ChangeShapes Go.WideShapes Go.ChangeAt Go.RowKit
open Go.ChangeMaps (open_string shut_string)
set_option linter.unusedVariables false

theorem own : ownKnob Tryz.prog.godebug = none := by kernel_rfl
theorem laidOut : laidOutB Tryz.prog = true := by kernel_rfl

/-- WHAT THE WALK IS TOLD OF A SLICE OF INTEGERS THAT CAME IN: it is nil; or it leads to a row of 'cap' cells, the numbers 'zs' (the first 'len' are its elements, the rest its spare room), each fitting its kind. -/
def IsRow (k : IntKind) (w : World) (a : Option Addr) (len cap : Nat) (zs : List Int) : Prop :=
  (a = none ∧ len = 0 ∧ cap = 0 ∧ zs = []) ∨
  ∃ x, a = some x ∧ len ≤ cap ∧ cap ≤ maxLen ∧ zs.length = cap ∧ (∀ i, i < zs.length → w.cell? (x.add i) = some (.int k (zs.getD i 0))) ∧ ∀ n ∈ zs, (Lit.int k n).wf = true

open G MGF IRow Go.PlainAid
theorem code_of {w : World} {a : Option Addr} {len cap : Nat} {zs : List Int} (h : IsRow .u8 w a len cap zs) : CodeAt w a len := by
  rcases h with ⟨rfl, rfl, rfl, rfl⟩ | ⟨x, rfl, hl, hm, hz, hc, hw⟩
  · exact ⟨0, 0, fun h => absurd h (by omega), fun i hi => absurd hi (by omega)⟩
  · by_cases h0 : 0 < len
    · obtain ⟨b, o, sp⟩ := x
      have h1 := hc 0 (by omega)
      have hsp : sp = none := by simpa [Addr.add] using World.cell?_spot h1
      subst hsp
      refine ⟨b, o, fun _ => rfl, fun i hi => ?_⟩
      have h2 := hc i (by omega)
      have hb := bounds_u8 (hw (zs.getD i 0) (by rw [List.getD_eq_getElem?_getD, List.getElem?_eq_getElem (show i < zs.length by omega)]; exact List.getElem_mem _))
      have e1 : (⟨b, o, none⟩ : Addr).add i = ⟨b, o + i, none⟩ := by unfold Addr.add; split <;> simp_all
      exact ⟨_, hb.1, hb.2, by rw [← e1]; exact h2⟩
    · exact ⟨0, 0, fun h => absurd h h0, fun i hi => absurd hi (by omega)⟩

/-! ### The walk. -/
set_option maxRecDepth 100000 in
set_option maxHeartbeats 40000000 in
theorem walk (a0 : Option Addr) (len0 cap0 : Nat) (z0 : List Int) (a1 : Option Addr) (len1 cap1 : Nat) (z1 : List Int) (w : World) (w0 : IsRow .u8 w a0 len0 cap0 z0) (w1 : IsRow .u8 w a1 len1 cap1 z1) :
    Calls Tryz.prog 3 #[.slice a0 len0 cap0, .slice a1 len1 cap1] w fun e w' => e = .returned (.bool true) ∧ Below w.heap.size w w' := by
  have hc0 := code_of w0
  have hc1 := code_of w1
  clear w0 w1
  by_cases h0 : 1048576 < len0
  · go_enter Tryz.func3, Tryz.ntmps3
    go_wp2
    go_ret
    exact ⟨rfl, Below.refl _ _⟩
  by_cases h1 : 1048576 < len1
  · go_enter Tryz.func3, Tryz.ntmps3
    go_wp2
    go_ret
    exact ⟨rfl, Below.refl _ _⟩
  go_enter Tryz.func3, Tryz.ntmps3
  have HB := Lib.hid (Below.refl w.heap.size w)
  go_wp2_with fail
  refine (drawSplit_any a0 len0 cap0 _ (hc0.below HB.out) (by omega)).mono ?_
  rintro e w1 ⟨s, d, need, many, rfl, hs, hd, hne0, hne1, hma0, hma1, hb⟩
  have HB' := Lib.hid (HB.out.trans (hb.mono HB.out.size)); clear HB; have HB := HB'; clear HB'
  clear hb; generalize w1 = wa1 at *
  obtain ⟨⟨rX, cX⟩, hX⟩ : ∃ r, splitR s need many d = r := ⟨_, rfl⟩
  have HLX : Hid (rX.length ≤ 20) := Lib.hid (by have := splitR_len s need many d; rw [hX] at this; exact this)
  have HX := Lib.hid hX; clear hX
  go_wp2_with fail
  have hcon := implSplit_any s d need many wa1 (by unfold maxLen; omega) (by unfold maxLen; omega)
  rw [HX.out] at hcon
  refine hcon.mono ?_
  rintro e w1 ⟨aX, kX, pX, rfl, ho, hb⟩
  clear hcon
  have hkX : rX.length = kX := shares_len ho
  have HKX := Lib.hid hkX; clear hkX
  have RX := Lib.hid (HR.own ho); clear ho
  dsimp only
  have HB' := Lib.hid (HB.out.trans (hb.mono HB.out.size)); clear HB; have HB := HB'; clear HB'
  clear hb; generalize w1 = wa2 at *
  have hbb : Below wa2.heap.size wa2 (wa2.alloc (.cells #[.slice aX kX pX, .int .i64 cX] 27)) := (Below.refl _ _).alloc (Nat.le_refl _) _
  have RBX := Lib.hid (XB.made wa2 (.slice aX kX pX) (.int .i64 cX) 27)
  have HB' := Lib.hid (HB.out.trans (hbb.mono HB.out.size)); clear HB; have HB := HB'; clear HB'
  replace RX := Lib.hid (RX.out.below hbb)
  clear hbb
  go_wp2_with fail
  refine (drawCombine_any a1 len1 cap1 _ (hc1.below HB.out) (by omega)).mono ?_
  rintro e w1 ⟨aC, kC, pC, lC, rfl, hkC, hRC, htC, hb⟩
  have HB' := Lib.hid (HB.out.trans (hb.mono HB.out.size)); clear HB; have HB := HB'; clear HB'
  replace RX := Lib.hid (RX.out.below hb)
  replace RBX := Lib.hid (RBX.out.below hb)
  clear hb; generalize w1 = wa3 at *
  have RC := Lib.hid hRC
  have HTC := Lib.hid htC
  clear hRC htC
  go_wp2_with fail
  refine (drawHide_any a1 len1 cap1 _ (hc1.below HB.out) (by omega)).mono ?_
  rintro e w1 ⟨sa, sb, sd, hneed, aZ, kZ, pZ, zZ, rfl, hsa, hsb, hsd, hzl, hoZ, hb⟩
  have RZ := Lib.hid (IR.own hoZ); clear hoZ
  have hkZ : zZ.length = kZ := RZ.out.len
  have HB' := Lib.hid (HB.out.trans (hb.mono HB.out.size)); clear HB; have HB := HB'; clear HB'
  replace RX := Lib.hid (RX.out.below hb)
  replace RBX := Lib.hid (RBX.out.below hb)
  replace RC := Lib.hid (RC.out.below hb)
  clear hb; generalize w1 = wa4 at *
  obtain ⟨⟨rH, cH⟩, hH⟩ : ∃ r, hideR sa sb hneed zZ sd = r := ⟨_, rfl⟩
  have HH := Lib.hid hH; clear hH
  go_wp2_with fail
  have hcon := implHide_any sa sb sd hneed aZ kZ pZ zZ wa4 (by unfold maxLen; omega) (by unfold maxLen; omega) (by unfold maxLen; omega) RZ.out (by omega)
  rw [HH.out] at hcon
  refine hcon.mono ?_
  rintro e w1 ⟨rfl, hb⟩
  clear hcon
  dsimp only
  have HB' := Lib.hid (HB.out.trans (hb.mono HB.out.size)); clear HB; have HB := HB'; clear HB'
  replace RX := Lib.hid (RX.out.below hb)
  replace RBX := Lib.hid (RBX.out.below hb)
  replace RC := Lib.hid (RC.out.below hb)
  replace RZ := Lib.hid (RZ.out.below hb)
  clear hb; generalize w1 = wa5 at *
  have hbb : Below wa5.heap.size wa5 (wa5.alloc (.cells #[.string rH, .int .i64 cH] 34)) := (Below.refl _ _).alloc (Nat.le_refl _) _
  have RBH := Lib.hid (XB.made wa5 (.string rH) (.int .i64 cH) 34)
  have HB' := Lib.hid (HB.out.trans (hbb.mono HB.out.size)); clear HB; have HB := HB'; clear HB'
  replace RX := Lib.hid (RX.out.below hbb)
  replace RBX := Lib.hid (RBX.out.below hbb)
  replace RC := Lib.hid (RC.out.below hbb)
  replace RZ := Lib.hid (RZ.out.below hbb)
  clear hbb
  go_wp2_with fail
  refine (drawNeeds_any a0 len0 cap0 _ (hc0.below HB.out) (by omega)).mono ?_
  rintro e w1 ⟨s2, n2, rfl, hs2, hb⟩
  have HB' := Lib.hid (HB.out.trans (hb.mono HB.out.size)); clear HB; have HB := HB'; clear HB'
  replace RX := Lib.hid (RX.out.below hb)
  replace RBX := Lib.hid (RBX.out.below hb)
  replace RC := Lib.hid (RC.out.below hb)
  replace RZ := Lib.hid (RZ.out.below hb)
  replace RBH := Lib.hid (RBH.out.below hb)
  clear hb; generalize w1 = wa6 at *
  obtain ⟨bX, hbX⟩ : ∃ b, b = wa2.heap.size := ⟨_, rfl⟩
  obtain ⟨bH, hbH⟩ : ∃ b, b = wa5.heap.size := ⟨_, rfl⟩
  have RBX' := RBX.out
  have RBH' := RBH.out
  rw [← hbX] at RBX'
  rw [← hbH] at RBH'
  simp only [← hbX, ← hbH]
  clear RBX RBH hbX hbH
  have RBX := Lib.hid RBX'
  have RBH := Lib.hid RBH'
  clear RBX' RBH'
  obtain ⟨F, hF⟩ : ∃ F : World → Prop, F = fun u => Below w.heap.size w u ∧ HR u aX kX pX rX ∧ HR u aC kC pC lC ∧ IR u aZ kZ pZ zZ ∧ XB u bX (.slice aX kX pX) (.int .i64 cX) ∧ XB u bH (.string rH) (.int .i64 cH) := ⟨_, rfl⟩
  have F0 : F wa6 := by rw [hF]; exact ⟨HB.out, RX.out, RC.out, RZ.out, RBX.out, RBH.out⟩
  have FB : Hid (∀ u v, F u → Below u.heap.size u v → F v) := Lib.hid (by
    rw [hF]
    rintro u v ⟨x0, x1, x2, x3, x4, x5⟩ hb
    exact ⟨x0.trans (hb.mono x0.size), x1.below hb, x2.below hb, x3.below hb, x4.below hb, x5.below hb⟩)
  have gB : Hid (∀ u, F u → Below w.heap.size w u) := Lib.hid (by rw [hF]; exact fun u h => h.1)
  have gX : Hid (∀ u, F u → HR u aX kX pX rX) := Lib.hid (by rw [hF]; exact fun u h => h.2.1)
  have gC : Hid (∀ u, F u → HR u aC kC pC lC) := Lib.hid (by rw [hF]; exact fun u h => h.2.2.1)
  have gZ : Hid (∀ u, F u → IR u aZ kZ pZ zZ) := Lib.hid (by rw [hF]; exact fun u h => h.2.2.2.1)
  have gbX : Hid (∀ u, F u → XB u bX (.slice aX kX pX) (.int .i64 cX)) := Lib.hid (by rw [hF]; exact fun u h => h.2.2.2.2.1)
  have gbH : Hid (∀ u, F u → XB u bH (.string rH) (.int .i64 cH)) := Lib.hid (by rw [hF]; exact fun u h => h.2.2.2.2.2)
  clear hF RX RC RZ RBX RBH HB
  generalize wa6 = wc at *
  have FD : Hid (∀ u, F u → F u.drew) := Lib.hid (fun u h => FB.out u _ h (Below.refl _ _).drew)
  obtain ⟨⟨rC, cC⟩, hCB⟩ : ∃ r, combR lC = r := ⟨_, rfl⟩
  have HCB := Lib.hid hCB; clear hCB
  have nX : kX ≤ 1048576 := by have h2 := HLX.out; have h3 := HKX.out; omega
  have nC : kC ≤ 1048576 := by omega
  have nZ : kZ ≤ 1048576 := by omega
  have n1 : len1 ≤ 1048576 := by omega
  have mS : s.size ≤ maxLen := by unfold maxLen; omega
  have mD : d.size ≤ maxLen := by unfold maxLen; omega
  have mA : sa.size ≤ maxLen := by unfold maxLen; omega
  have mB : sb.size ≤ maxLen := by unfold maxLen; omega
  have mSD : sd.size ≤ maxLen := by unfold maxLen; omega
  have m2 : s2.size ≤ maxLen := by unfold maxLen; omega
  clear h0 h1 hzl hkC
  have SB : Hid (∀ u, F u → (F u ∧ u.cell? ⟨bX, 0, none⟩ = some (.slice aX kX pX) ∧ u.cell? ⟨bX, 1, none⟩ = some (.int .i64 cX) ∧ u.cell? ⟨bH, 0, none⟩ = some (.string rH) ∧ u.cell? ⟨bH, 1, none⟩ = some (.int .i64 cH))) := Lib.hid (fun u h => ⟨h, (gbX.out _ h).c0, (gbX.out _ h).c1, (gbH.out _ h).c0, (gbH.out _ h).c1⟩)
  go_upto_region 9 with fail
  go_cut [101] from 27 (fun v u => v = .bool false ∧ F u)
  case first => as_aux_lemma =>
    have hFn := FD.out _ F0
    have HSPX : Hid (∀ u, Calls Tryz.prog 11 #[.string s, .int .i64 need, .int .i64 many, .string d] u (NewShares (rX, cX) u)) := Lib.hid (fun u => by
      have hcon := specSplit_any s d need many u mS mD
      rw [HX.out] at hcon
      exact hcon)
    go_region_held3 (fun u => F u ∧ u.cell? ⟨bX, 0, none⟩ = some (.slice aX kX pX) ∧ u.cell? ⟨bX, 1, none⟩ = some (.int .i64 cX) ∧ u.cell? ⟨bH, 0, none⟩ = some (.string rH) ∧ u.cell? ⟨bH, 1, none⟩ = some (.int .i64 cH)) (exact SB.out _ hFn)
      (first
        | (go_at_call 11; refine Calls.mono (HSPX.out _) ?_; rintro e w1 ⟨an, kn, cn, rfl, ho, hb⟩; obtain rfl : kX = kn := HKX.out.symm.trans (shares_len ho); have hn := HR.own ho; clear ho; have hFn := FB.out _ _ hFn hb; dsimp only)
        | (go_at_call 10; with_reducible refine Calls.mono (lwShares_same aX an kX pX cn rX cX _ (gX.out _ hFn) hn nX) ?_; rintro e w1 ⟨rfl, hb⟩; have hFn := FB.out _ _ hFn hb)
        | (go_at_call 12; have hcon := implCombine_any aC kC pC lC _ (gC.out _ hFn) nC HTC.out; rw [HCB.out] at hcon; refine Calls.mono hcon ?_; rintro e w1 ⟨rfl, hb⟩; clear hcon; have hFn := FB.out _ _ hFn hb; dsimp only)
        | (go_at_call 13; have hcon := specCombine_any aC kC pC lC _ (gC.out _ hFn) nC HTC.out; rw [HCB.out] at hcon; refine Calls.mono hcon ?_; rintro e w1 ⟨rfl, hb⟩; clear hcon; have hFn := FB.out _ _ hFn hb; dsimp only)
        | (go_at_call 14; have hcon := specHide_any sa sb sd hneed aZ kZ pZ zZ _ mA mB mSD (gZ.out _ hFn) nZ; rw [HH.out] at hcon; refine Calls.mono hcon ?_; rintro e w1 ⟨rfl, hb⟩; clear hcon; have hFn := FB.out _ _ hFn hb; dsimp only)
        | (go_at_call 15; refine Calls.mono (implNeeds_any s2 n2 _ m2) ?_; rintro e w1 ⟨rfl, rfl⟩)
        | (go_at_call 16; refine Calls.mono (specNeeds_any s2 n2 _ m2) ?_; rintro e w1 ⟨rfl, rfl⟩))
    all_goals
      go_wp2_with fail
      go_meet
      case rel => exact ⟨by first | rfl | simp, hFn⟩
  case rest => as_aux_lemma =>
    obtain ⟨rfl, hFn⟩ := hcut
    clear F0 SB gC HCB HTC nC m2 hs2
    have hF1 := (gbX.out _ hFn).c1
    go_upto_if 104 with fail
    go_cut [19, 20, 21, 22] from 27 (fun _ _ _ _ u => F u)
    case first => as_aux_lemma =>
      clear gZ gbH HH nZ mA mB mSD
      by_cases hX0 : cX = 0
      · subst hX0
        obtain ⟨hOk, hrX⟩ := split_tells HX.out
        have o1 := hOk.n1; have o2 := hOk.n2; have o3 := hOk.m1; have o4 := hOk.m2
        obtain ⟨m, rfl⟩ := Int.eq_ofNat_of_zero_le (show 0 ≤ many by omega)
        have hk0 : kOf need + 1 ≤ m := by unfold kOf; omega
        obtain ⟨k, hk⟩ : ∃ k, k = kOf need := ⟨_, rfl⟩
        have hkn : need = (k : Int) + 1 := by rw [hk]; unfold kOf; omega
        have HKN := Lib.hid hkn
        rw [← hk] at hrX hk0
        have hm20 : m ≤ 20 := by omega
        have hkm : kX = m := by rw [← HKX.out, hrX, partsT_length]; simp
        have HRX := Lib.hid hrX
        have HKM := Lib.hid hkm
        have HS1 : Hid (1 ≤ s.size ∧ s.size ≤ 16) := Lib.hid ⟨hOk.s1, hOk.s2⟩
        clear hOk hk hkn hrX hkm
        have hw1 : IntKind.i64.wrap ((m : Int) - need) = (m : Int) - need := by rw [IntWalk.i64_in _ (by omega)]
        have hw2 : IntKind.i64.wrap ((m : Int) - need + 1) = (m : Int) - need + 1 := by rw [IntWalk.i64_in _ (by omega)]
        go_wp2_with fail
        obtain ⟨r, ⟨r0, r1⟩, hcall⟩ := lwAt_is a1 len1 cap1 0 ((m : Int) - need + 1) wc (hc1.below (gB.out _ hFn)) n1 (by decide) (by omega)
        refine hcall.mono ?_
        rintro e w1 ⟨rfl, rfl⟩
        clear hcall
        obtain ⟨r, rfl⟩ := Int.eq_ofNat_of_zero_le r0
        have hr : r + (k + 1) ≤ m := by have := HKN.out; omega
        have hrk : r < kX := by have := HKM.out; omega
        clear r0 r1 hw1 hw2 hF1
        obtain ⟨gx, ox, hax, _, _, _⟩ := HR.at (gX.out _ hFn) hrk
        subst hax
        have hbE : Below w1.heap.size w1 (w1.alloc (.cells #[] 43)) := (Below.refl _ _).alloc (Nat.le_refl _) _
        have hFE := FB.out _ _ hFn hbE
        have hF0 := (gbX.out _ hFE).c0
        have hle := (gX.out _ hFE).le
        have HRD : Hid (HR (w1.alloc (.cells #[] 43)) (some ⟨gx, ox + r * 2, none⟩) (kX - r) (pX - r) (rX.drop r)) := Lib.hid (SR.drop (gX.out _ hFE) hrk)
        have hown0 : (w1.alloc (.cells #[] 43)).ownsRow w1.heap.size 43 shE.k (.slice (some ⟨w1.heap.size, 0, none⟩) 0 0) 0 (shE.flat []) := World.ownsRow_made w1 #[] 0 (Nat.le_refl _) (by decide) rfl
        have hsl : ∀ W : World, (Instr.slice 25 (.slice (some ⟨gx, ox, none⟩) kX pX) (some (.int .i64 (r : Int))) none none).run Tryz.prog W = .ok (.slice (some ⟨gx, ox + r * 2, none⟩) (kX - r) (pX - r)) W := fun W => run_cut_shares W gx ox kX pX r hrk hle
        obtain ⟨i0, hi, hz0, hz1, hz2⟩ := info_parts infoShare
        have HLE := Lib.hid hle
        have HBE := Lib.hid hbE
        have HFE := Lib.hid hFE
        have hkx20 : kX ≤ 20 := by have := HKM.out; omega
        clear hbE hFE hle
        go_wp2_with (at_builtin; refine append_parts rfl (.tmp 111) (.tmp 115) 25 rfl 43 i0 (.agg #[.int .i64 0, .string ByteArray.empty]) Tryz.underlying25 hi hz0 hz1 hz2 rfl w1.heap.size _ _ _ rfl hown0 _ _ _ _ rfl HRD.out (by omega) (by simp) ?_; intro v' w2 hown2 hg2; have HO2 := Lib.hid hown2; have HB2 := Lib.hid (below_grow HBE.out hown0 (Nat.le_refl _) hg2 (by simp)); clear hown2 hg2 hown0)
        have hF2 := FB.out _ _ hFn HB2.out
        clear hF0 hsl HFE HBE HRD
        have HF2 := Lib.hid hF2
        clear hF2 hFn
        obtain ⟨r2, ⟨q0, q1⟩, hcall⟩ := lwAt_is a1 len1 cap1 1 2 w2 (hc1.below (gB.out _ HF2.out)) n1 (by decide) (by omega)
        refine hcall.mono ?_
        rintro e w3 ⟨rfl, rfl⟩
        clear hcall q1
        obtain ⟨aS, cS, hvS⟩ := own_shape HO2.out
        subst hvS
        have hRS := HR.own HO2.out
        rw [List.nil_append] at hRS
        have HRS := Lib.hid hRS
        have hkS : k + 1 ≤ 0 + (kX - r) := by have := HKM.out; omega
        have HG : Hid (Good s d k (rX.drop r)) := Lib.hid (by rw [HRX.out]; exact Good.drop (by rw [Int.toNat_natCast]; omega) (by rw [Int.toNat_natCast]; exact hm20))
        clear hRS HO2 HB2
        go_upto_if 119 with fail
        go_cut [20] from 27 (fun v u => ∃ a n c l, v = .slice a n c ∧ HR u a n c l ∧ Good s d k l ∧ n ≤ 20 ∧ F u)
        case first => as_aux_lemma =>
          by_cases hr2 : r2 = 0
          · subst hr2
            obtain ⟨gs, os', haS, _, _, _⟩ := HR.at HRS.out (show 0 < 0 + (kX - r) by omega)
            subst haS
            have hcS := HRS.out.le
            have hsl2 : ∀ W : World, (Instr.slice 25 (.slice (some ⟨gs, os', none⟩) (0 + (kX - r)) cS) none (some (.int .i64 need)) none).run Tryz.prog W = .ok (.slice (some ⟨gs, os', none⟩) (k + 1) cS) W := fun W => by
              have h5 := run_cut_to W gs os' (0 + (kX - r)) cS (k + 1) (by omega)
              rw [show need = ((k + 1 : Nat) : Int) by have := HKN.out; omega]
              exact h5
            have HR2 := Lib.hid (SR.take HRS.out hkS)
            have HG2 := Lib.hid HG.out.first
            simp only [Nat.zero_add] at hsl2 ⊢
            go_wp2_with fail
            go_meet
            case rel => exact ⟨_, _, _, _, rfl, HR2.out, HG2.out, by omega, HF2.out⟩
          · have hr2b : (r2 == 0) = false := by rw [beq_eq_false_iff_ne]; exact hr2
            go_wp2_with fail
            go_meet
            case rel => exact ⟨_, _, _, _, rfl, by have h9 := HRS.out; rwa [Nat.zero_add] at h9, HG.out, by omega, HF2.out⟩
        case rest => as_aux_lemma =>
          clear HRS HG HF2
          obtain ⟨aT, nT, cT, lT, hu20, hRT, hGT, hnT, hFT⟩ := hcut
          subst hu20
          have hlT := hRT.len
          have HLT := Lib.hid hlT
          have HRT := Lib.hid hRT
          have HGT := Lib.hid hGT
          have hnT1 : 1 ≤ nT := by have := hGT.len; omega
          have HFT := Lib.hid hFT
          clear hlT hRT hGT hFT
          have HEM : Hid ((wc.alloc (.cells #[] 43)).ownsRow wc.heap.size 43 shE.k (.slice (some ⟨wc.heap.size, 0, none⟩) 0 0) 0 (shE.flat (lT.reverse.take 0))) := Lib.hid (World.ownsRow_made wc #[] 0 (Nat.le_refl _) (by decide) rfl)
          have HBM : Hid (Below wc.heap.size wc (wc.alloc (.cells #[] 43))) := Lib.hid ((Below.refl _ _).alloc (Nat.le_refl _) _)
          have hwn : IntKind.i64.wrap ((nT : Int) - 1) = (nT : Int) - 1 := by rw [IntWalk.i64_in _ (by omega)]
          go_wp2_with fail
          clear hwn
          go_loopw [21, 22] (fun v i wr => ∃ (t : Nat) (x : Int), t ≤ nT ∧ Hid (x = (nT : Int) - 1 - t) ∧ -1 ≤ x ∧ i = .int .i64 x ∧ wr.ownsRow wc.heap.size 43 shE.k v t (shE.flat (lT.reverse.take t)) ∧ Below wc.heap.size wc wr) (fun _ i _ => (intOf i + 1).toNat)
          case atStart => exact ⟨0, (nT : Int) - 1, Nat.zero_le _, Lib.hid (by omega), by omega, rfl, HEM.out, HBM.out⟩
          case round =>
            generalize wr = wo at *
            obtain ⟨t, x, ht, HXE, hx1, rfl, hown, hbw⟩ := hrel
            by_cases hx0 : 0 ≤ x
            · obtain ⟨j, rfl⟩ := Int.eq_ofNat_of_zero_le hx0
              have hjn : j < nT := by have := HXE.out; omega
              obtain ⟨g, o, haT, hg, c1, c2⟩ := HR.at (HRT.out.below hbw) hjn
              subst haT
              have HTK := Lib.hid (rev_take HLT.out (show t < nT by have := HXE.out; omega) (show j + t + 1 = nT by have := HXE.out; omega))
              have hsz := hbw.size
              have HBW := Lib.hid hbw
              have hjn2 : (j : Int) < (nT : Int) := by omega
              have hwj : IntKind.i64.wrap ((j : Int) - 1) = (j : Int) - 1 := by rw [IntWalk.i64_in _ (by omega)]
              generalize lT.getD j shD = q at *
              obtain ⟨qx, qt⟩ := q
              dsimp only at c1 c2
              have htn : t ≤ 20 := by omega
              clear hbw hx0
              go_wp2_with (at_builtin; refine append_enc shE rfl (.tmp 131) (.tmp 136) 25 rfl 43 i0 (.agg #[.int .i64 0, .string ByteArray.empty]) 24 Tryz.underlying25 hi hz0 hz1 hz2 rfl (by decide) (by decide) wc.heap.size _ _ _ rfl hown (qx, qt) _ rfl _ rfl hsz (by omega) ?_; intro v' w6 hown6 hg6 _; have HO6 := Lib.hid hown6; have HB6 := Lib.hid (below_grow HBW.out hown (Nat.le_refl _) hg6 hsz); clear hown6 hg6 hown)
              go_roundw
              case rel => exact ⟨t + 1, (j : Int) - 1, by have := HXE.out; omega, Lib.hid (by have := HXE.out; omega), by omega, by go_num, by rw [HTK.out]; exact HO6.out, HB6.out⟩
              case measure => simp [intOf] <;> omega
            · obtain rfl : x = -1 := by omega
              obtain rfl : nT = t := by have := HXE.out; omega
              rw [List.take_of_length_le (by rw [List.length_reverse, HLT.out]; exact Nat.le_refl _)] at hown
              obtain ⟨aR, cR, hvR⟩ := own_shape hown
              subst hvR
              have HRR := Lib.hid (HR.own hown)
              have HBW := Lib.hid hbw
              have hcon1 := implCombine_any aT nT cT lT wo (HRT.out.below hbw) (by omega) (fun t ht => HGT.out.fits HS1.out.2 t (by rw [HLT.out]; exact ht))
              rw [HGT.out.comb HS1.out.1 HS1.out.2 (by have := HLT.out; omega)] at hcon1
              have HC1 := Lib.hid hcon1
              clear hown hbw hcon1
              go_wp2_with fail
              refine HC1.out.mono ?_
              rintro e w7 ⟨rfl, hb7⟩
              dsimp only
              have hcon2 := implCombine_any aR nT cR lT.reverse w7 (HRR.out.below hb7) (by omega) (fun t ht => HGT.out.rev.fits HS1.out.2 t (by rw [List.length_reverse, HLT.out]; exact ht))
              rw [HGT.out.rev.comb HS1.out.1 HS1.out.2 (by rw [List.length_reverse]; have := HLT.out; omega)] at hcon2
              have HC2 := Lib.hid hcon2
              have HB7 := Lib.hid (HBW.out.trans (hb7.mono HBW.out.size))
              clear hcon2 hb7
              go_wp2_with fail
              refine HC2.out.mono ?_
              rintro e w8 ⟨rfl, hb8⟩
              dsimp only
              have hF8 := FB.out _ _ HFT.out (HB7.out.trans (hb8.mono HB7.out.size))
              clear hb8
              go_wp2_with fail
              go_meet
              case rel => exact hF8
      · go_wp2_with fail
        go_meet
        case rel => exact hFn
    case rest => as_aux_lemma =>
      have hFn := hcut
      clear hcut hF1 gX gbX HX HLX HKX nX mS mD
      have hF1 := (gbH.out _ hFn).c1
      have hF0 := (gbH.out _ hFn).c0
      by_cases hH0 : cH = 0
      · subst hH0
        obtain ⟨ys, hOk, hrH⟩ := hide_tells HH.out
        have HOK := Lib.hid hOk
        have HSP1 := Lib.hid (split_one hOk)
        have HSP2 := Lib.hid (split_two hOk)
        have HBK := Lib.hid (hide_back hOk)
        have HPS : Hid (∀ (x : B), x ∈ ys → ∀ t : Nat, t < 20 → bi x = (t : Int) + 1 → (partsT (polysT (tb sa) (tb sd) (kOf hneed)) 20).getD t shD = (partsT (polysT (tb sb) (hideL (tb sa) (tb sb) (tb sd) ys (kOf hneed) sa.size) (kOf hneed)) 20).getD t shD) := Lib.hid (fun x hx t ht he => part_same hOk hx ht he)
        have HND := Lib.hid (needs_ok hOk)
        have hNs : sa.size * kOf hneed ≤ sd.size := hOk.dr
        have hrs : rH.size ≤ 144 := by rw [hrH, hid_size hOk]; exact mul_small hOk
        rw [← hrH] at HSP2 HBK
        obtain ⟨lY, hlY⟩ : ∃ l, l = partsT (polysT (tb sa) (tb sd) (kOf hneed)) 20 := ⟨_, rfl⟩
        obtain ⟨lZ, hlZ⟩ : ∃ l, l = partsT (polysT (tb sb) (hideL (tb sa) (tb sb) (tb sd) ys (kOf hneed) sa.size) (kOf hneed)) 20 := ⟨_, rfl⟩
        have hlY20 : lY.length = 20 := by rw [hlY, partsT_length]
        have hlZ20 : lZ.length = 20 := by rw [hlZ, partsT_length]
        rw [← hlY, ← hlZ] at HPS
        rw [← hlY] at HSP1
        rw [← hlZ] at HSP2
        obtain ⟨N, hN⟩ : ∃ N, N = sa.size * kOf hneed := ⟨_, rfl⟩
        rw [← hN] at HBK HND hNs
        have hzs := hOk.xs
        have HY0 := Lib.hid hOk.ne
        subst hzs
        have hyl : ys.length = kZ := by rw [← hkZ, pv_length]
        have HYL := Lib.hid hyl
        have HLL := Lib.hid (And.intro hlY20 hlZ20)
        have mR : rH.size ≤ maxLen := by unfold maxLen; omega
        clear hOk hrH hlY hlZ hN hlY20 hlZ20 HH HOK hyl hkZ
        go_upto_region 25 with fail
        go_cut [23, 24] from 27 (fun v y u => ∃ bY bZ gY oY pY gZ' oZ pZ', v = .pointer (some ⟨bY, 0, none⟩) ∧ y = .pointer (some ⟨bZ, 0, none⟩) ∧ F u ∧ XB u bY (.slice (some ⟨gY, oY, none⟩) 20 pY) (.int .i64 0) ∧ XB u bZ (.slice (some ⟨gZ', oZ, none⟩) 20 pZ') (.int .i64 0) ∧ HR u (some ⟨gY, oY, none⟩) 20 pY lY ∧ HR u (some ⟨gZ', oZ, none⟩) 20 pZ' lZ)
        case first => as_aux_lemma =>
          clear HY0 HPS HND HBK
          have hFq := FD.out _ hFn
          refine Till.region (t := 12) (by kernel_rfl) F (fun a w => _) ?_ (fun _ _ h => h)
          have hSS := hFq
          clear hFq hFn hF0 hF1
          generalize World.drew _ = wq at *
          refine Till.take (i := 0) (v := .string sa) rfl rfl rfl rfl (by kernel_rfl) (by kernel_rfl) (by kernel_rfl) (by kernel_rfl) hSS (fun u hu => by go_simp) ?_
          simp only [Act.put, List.getElem_toArray, List.getElem_cons_zero, List.getElem_cons_succ, List.setIfInBounds_toArray, List.set_cons_zero, List.set_cons_succ]
          refine Till.take (i := 1) (v := .int .i64 hneed) rfl rfl rfl rfl (by kernel_rfl) (by kernel_rfl) (by kernel_rfl) (by kernel_rfl) hSS (fun u hu => by go_simp) ?_
          simp only [Act.put, List.getElem_toArray, List.getElem_cons_zero, List.getElem_cons_succ, List.setIfInBounds_toArray, List.set_cons_zero, List.set_cons_succ]
          refine Till.take (i := 2) (v := .string sd) rfl rfl rfl rfl (by kernel_rfl) (by kernel_rfl) (by kernel_rfl) (by kernel_rfl) hSS (fun u hu => by go_simp) ?_
          simp only [Act.put, List.getElem_toArray, List.getElem_cons_zero, List.getElem_cons_succ, List.setIfInBounds_toArray, List.set_cons_zero, List.set_cons_succ]
          refine Till.take (i := 4) (v := .string sb) rfl rfl rfl rfl (by kernel_rfl) (by kernel_rfl) (by kernel_rfl) (by kernel_rfl) hSS (fun u hu => by go_simp) ?_
          simp only [Act.put, List.getElem_toArray, List.getElem_cons_zero, List.getElem_cons_succ, List.setIfInBounds_toArray, List.set_cons_zero, List.set_cons_succ]
          refine Till.take (i := 5) (v := .int .i64 hneed) rfl rfl rfl rfl (by kernel_rfl) (by kernel_rfl) (by kernel_rfl) (by kernel_rfl) hSS (fun u hu => by go_simp) ?_
          simp only [Act.put, List.getElem_toArray, List.getElem_cons_zero, List.getElem_cons_succ, List.setIfInBounds_toArray, List.set_cons_zero, List.set_cons_succ]
          refine Till.take (i := 6) (v := .pointer (some ⟨bH, 0, none⟩)) rfl rfl rfl rfl (by kernel_rfl) (by kernel_rfl) (by kernel_rfl) (by kernel_rfl) hSS (fun u hu => by go_simp) ?_
          simp only [Act.put, List.getElem_toArray, List.getElem_cons_zero, List.getElem_cons_succ, List.setIfInBounds_toArray, List.set_cons_zero, List.set_cons_succ]
          refine Till.take (i := 7) (v := .string rH) rfl rfl rfl rfl (by kernel_rfl) (by kernel_rfl) (by kernel_rfl) (by kernel_rfl) hSS (fun u hu => by have hq := (gbH.out _ hu).c0; go_simp) ?_
          simp only [Act.put, List.getElem_toArray, List.getElem_cons_zero, List.getElem_cons_succ, List.setIfInBounds_toArray, List.set_cons_zero, List.set_cons_succ]
          have hB0 : Below wq.heap.size wq wq := Below.refl _ _
          have hSQ := hSS
          refine Till.three (i := 3) (j := 9) (l := 10) (by kernel_rfl) ?_ ?_ ?_
          · skip
            refine Till.opT_call (f := 5) (args := #[.string sa, .int .i64 hneed, .int .i64 20, .string sd]) rfl rfl rfl (by go_simp) ?_
            have hcon := implSplit_any sa sd hneed 20 wq mA mSD
            rw [HSP1.out] at hcon
            refine Calls.mono hcon ?_
            clear hcon
            rintro e v1 ⟨aN, kN, pN, rfl, ho, hb⟩
            dsimp only
            have hkN : lY.length = kN := shares_len ho
            obtain rfl : kN = 20 := by have := HLL.out; omega
            have hRN := HR.own ho
            obtain ⟨gN, oN, haN, hgN, _, _⟩ := HR.at hRN (show 0 < 20 by decide)
            subst haN
            have hgl : wq.heap.size ≤ gN := (ho.lt gN rfl).1
            clear ho hkN
            have hBn := hB0.trans (hb.mono hB0.size)
            clear hB0
            have hB0 := hBn
            clear hBn
            have hSn := FB.out _ _ hSS hb
            clear hSS
            have hSS := hSn
            clear hSn
            clear hb
            obtain ⟨gY, oY, pY, hRY, hgY, hglY⟩ : ∃ g o p, HR v1 (some ⟨g, o, none⟩) 20 p lY ∧ g < v1.heap.size ∧ (g = gN ∧ o = oN ∧ p = pN) := ⟨gN, oN, pN, hRN, hgN, rfl, rfl, rfl⟩
            obtain ⟨rfl, rfl, rfl⟩ := hglY
            clear hRN hgN
            clear hgl
            refine ⟨_, rfl, fun _ => hSS, ?_⟩
            simp only [Act.put, List.getElem_toArray, List.getElem_cons_zero, List.getElem_cons_succ, List.setIfInBounds_toArray, List.set_cons_zero, List.set_cons_succ]
            refine Till.three (i := 8) (j := 9) (l := 10) (by kernel_rfl) ?_ ?_ ?_
            · skip
              refine Till.opT_call (f := 5) (args := #[.string sb, .int .i64 hneed, .int .i64 20, .string rH]) rfl rfl rfl (by go_simp) ?_
              have hcon := implSplit_any sb rH hneed 20 v1 mB mR
              rw [HSP2.out] at hcon
              refine Calls.mono hcon ?_
              clear hcon
              rintro e v2 ⟨aN, kN, pN, rfl, ho, hb⟩
              dsimp only
              have hkN : lZ.length = kN := shares_len ho
              obtain rfl : kN = 20 := by have := HLL.out; omega
              have hRN := HR.own ho
              obtain ⟨gN, oN, haN, hgN, _, _⟩ := HR.at hRN (show 0 < 20 by decide)
              subst haN
              have hgl : v1.heap.size ≤ gN := (ho.lt gN rfl).1
              clear ho hkN
              have hBn := hB0.trans (hb.mono hB0.size)
              clear hB0
              have hB0 := hBn
              clear hBn
              have hSn := FB.out _ _ hSS hb
              clear hSS
              have hSS := hSn
              clear hSn
              have hn := hRY.below hb
              clear hRY
              have hRY := hn
              clear hn
              have hn : gY < v2.heap.size := Nat.lt_of_lt_of_le hgY hb.size
              clear hgY
              have hgY := hn
              clear hn
              clear hb
              obtain ⟨gZ', oZ, pZ', hRZ, hgZ, hglZ⟩ : ∃ g o p, HR v2 (some ⟨g, o, none⟩) 20 p lZ ∧ g < v2.heap.size ∧ (g = gN ∧ o = oN ∧ p = pN) := ⟨gN, oN, pN, hRN, hgN, rfl, rfl, rfl⟩
              obtain ⟨rfl, rfl, rfl⟩ := hglZ
              clear hRN hgN
              clear hgl
              refine ⟨_, rfl, fun _ => hSS, ?_⟩
              simp only [Act.put, List.getElem_toArray, List.getElem_cons_zero, List.getElem_cons_succ, List.setIfInBounds_toArray, List.set_cons_zero, List.set_cons_succ]
              refine Till.two (i := 9) (j := 10) (by kernel_rfl) ?_ ?_
              · skip
                refine Till.opT_new (ob := .cells #[.slice none 0 0, .int .i64 0] 27) rfl rfl rfl (by go_simp) (fun bY v3 hbY hw => ?_)
                have hbel : Below v2.heap.size v2 v3 := by rw [hw]; exact (Below.refl _ _).alloc (Nat.le_refl _) _
                have hXY : XB v3 bY (.slice none 0 0) (.int .i64 0) := by rw [hw, hbY]; exact XB.made _ _ _ _
                have hltY : bY < v3.heap.size := hXY.lt
                have hqY : wq.heap.size ≤ bY := by rw [hbY]; exact hB0.size
                have hneYY : gY ≠ bY := by omega
                have hneZY : gZ' ≠ bY := by omega
                clear hw
                clear hbY
                have hBn := hB0.trans (hbel.mono hB0.size)
                clear hB0
                have hB0 := hBn
                clear hBn
                have hSn := FB.out _ _ hSS hbel
                clear hSS
                have hSS := hSn
                clear hSn
                have hn := hRY.below hbel
                clear hRY
                have hRY := hn
                clear hn
                have hn : gY < v3.heap.size := Nat.lt_of_lt_of_le hgY hbel.size
                clear hgY
                have hgY := hn
                clear hn
                have hn := hRZ.below hbel
                clear hRZ
                have hRZ := hn
                clear hn
                have hn : gZ' < v3.heap.size := Nat.lt_of_lt_of_le hgZ hbel.size
                clear hgZ
                have hgZ := hn
                clear hn
                clear hbel
                refine ⟨fun _ => hSS, ?_⟩
                simp only [Act.put, List.getElem_toArray, List.getElem_cons_zero, List.getElem_cons_succ, List.setIfInBounds_toArray, List.set_cons_zero, List.set_cons_succ]
                refine Till.one (i := 10) (by kernel_rfl) ?_
                refine Till.opT_new (ob := .cells #[.slice none 0 0, .int .i64 0] 27) rfl rfl rfl (by go_simp) (fun bZ v4 hbZ hw => ?_)
                have hbel : Below v3.heap.size v3 v4 := by rw [hw]; exact (Below.refl _ _).alloc (Nat.le_refl _) _
                have hXZ : XB v4 bZ (.slice none 0 0) (.int .i64 0) := by rw [hw, hbZ]; exact XB.made _ _ _ _
                have hltZ : bZ < v4.heap.size := hXZ.lt
                have hqZ : wq.heap.size ≤ bZ := by rw [hbZ]; exact hB0.size
                have hneYZ : gY ≠ bZ := by omega
                have hneZZ : gZ' ≠ bZ := by omega
                have hbb : bY ≠ bZ := by omega
                clear hw
                clear hbZ
                have hBn := hB0.trans (hbel.mono hB0.size)
                clear hB0
                have hB0 := hBn
                clear hBn
                have hSn := FB.out _ _ hSS hbel
                clear hSS
                have hSS := hSn
                clear hSn
                have hn := hRY.below hbel
                clear hRY
                have hRY := hn
                clear hn
                have hn : gY < v4.heap.size := Nat.lt_of_lt_of_le hgY hbel.size
                clear hgY
                have hgY := hn
                clear hn
                have hn := hRZ.below hbel
                clear hRZ
                have hRZ := hn
                clear hn
                have hn : gZ' < v4.heap.size := Nat.lt_of_lt_of_le hgZ hbel.size
                clear hgZ
                have hgZ := hn
                clear hn
                have hn := hXY.below hbel
                clear hXY
                have hXY := hn
                clear hn
                have hn : bY < v4.heap.size := hXY.lt
                clear hltY
                have hltY := hn
                clear hn
                clear hbel
                refine ⟨fun _ => hSS, ?_⟩
                simp only [Act.put, List.getElem_toArray, List.getElem_cons_zero, List.getElem_cons_succ, List.setIfInBounds_toArray, List.set_cons_zero, List.set_cons_succ]
                have hbz : bZ ≠ bY := Ne.symm hbb
                have hY1 := hXY.put (u := .slice (some ⟨gY, oY, none⟩) 20 pY) (v := .int .i64 0)
                have hZa := hXZ.other (i := 0) (v := .slice (some ⟨gY, oY, none⟩) 20 pY) hbz
                have hZ1 := hZa.other (i := 1) (v := .int .i64 0) hbz
                have hB1 := (hB0.setCell (p := ⟨bY, 0, none⟩) hqY (.slice (some ⟨gY, oY, none⟩) 20 pY)).setCell (p := ⟨bY, 1, none⟩) hqY (.int .i64 0)
                have hRYa := HR.set (i := 0) (v := .slice (some ⟨gY, oY, none⟩) 20 pY) hRY hneYY
                have hRY1 := HR.set (i := 1) (v := .int .i64 0) hRYa hneYY
                have hRZa := HR.set (i := 0) (v := .slice (some ⟨gY, oY, none⟩) 20 pY) hRZ hneZY
                have hRZ1 := HR.set (i := 1) (v := .int .i64 0) hRZa hneZY
                have hS1 := FB.out _ _ hSQ hB1
                have y0 := hXY.c0
                have y1 := hXY.c1
                have yz0 := hXY.z0
                have yz1 := hXY.z1
                clear hZa hRYa hRZa hRY hRZ hXY hXZ hB0 hSS hneYY hneZY
                refine Till.skip (i := 11) (w' := (v4.setCell ⟨bY, 0, none⟩ (.slice (some ⟨gY, oY, none⟩) 20 pY)).setCell ⟨bY, 1, none⟩ (.int .i64 0)) (by kernel_rfl) rfl rfl rfl (by go_simp) (fun _ => hS1) ?_
                simp only [Act.put, List.getElem_toArray, List.getElem_cons_zero, List.getElem_cons_succ, List.setIfInBounds_toArray, List.set_cons_zero, List.set_cons_succ]
                clear y0 y1 yz0 yz1
                generalize (v4.setCell ⟨bY, 0, none⟩ (.slice (some ⟨gY, oY, none⟩) 20 pY)).setCell ⟨bY, 1, none⟩ (.int .i64 0) = W1 at *
                have hZ2 := hZ1.put (u := .slice (some ⟨gZ', oZ, none⟩) 20 pZ') (v := .int .i64 0)
                have hYa := hY1.other (i := 0) (v := .slice (some ⟨gZ', oZ, none⟩) 20 pZ') hbb
                have hY2 := hYa.other (i := 1) (v := .int .i64 0) hbb
                have hB2 := (hB1.setCell (p := ⟨bZ, 0, none⟩) hqZ (.slice (some ⟨gZ', oZ, none⟩) 20 pZ')).setCell (p := ⟨bZ, 1, none⟩) hqZ (.int .i64 0)
                have hRYa := HR.set (i := 0) (v := .slice (some ⟨gZ', oZ, none⟩) 20 pZ') hRY1 hneYZ
                have hRY2 := HR.set (i := 1) (v := .int .i64 0) hRYa hneYZ
                have hRZa := HR.set (i := 0) (v := .slice (some ⟨gZ', oZ, none⟩) 20 pZ') hRZ1 hneZZ
                have hRZ2 := HR.set (i := 1) (v := .int .i64 0) hRZa hneZZ
                have hS2 := FB.out _ _ hSQ hB2
                have y0 := hZ1.c0
                have y1 := hZ1.c1
                have yz0 := hZ1.z0
                have yz1 := hZ1.z1
                clear hYa hRYa hRZa hRY1 hRZ1 hY1 hZ1 hB1 hS1 hSQ hB2
                refine Till.skip (i := 12) (w' := (W1.setCell ⟨bZ, 0, none⟩ (.slice (some ⟨gZ', oZ, none⟩) 20 pZ')).setCell ⟨bZ, 1, none⟩ (.int .i64 0)) (by kernel_rfl) rfl rfl rfl (by go_simp) (fun h => absurd rfl h) ?_
                simp only [Act.put, List.getElem_toArray, List.getElem_cons_zero, List.getElem_cons_succ, List.setIfInBounds_toArray, List.set_cons_zero, List.set_cons_succ]
                clear y0 y1 yz0 yz1
                refine Till.done (by kernel_rfl) ?_ _
                generalize (W1.setCell ⟨bZ, 0, none⟩ (.slice (some ⟨gZ', oZ, none⟩) 20 pZ')).setCell ⟨bZ, 1, none⟩ (.int .i64 0) = W2 at *
                go_wp2_with fail
                go_meet
                case rel => exact ⟨bY, bZ, gY, oY, pY, gZ', oZ, pZ', rfl, rfl, hS2, hY2, hZ2, hRY2, hRZ2⟩
              · skip
                refine Till.opT_new (ob := .cells #[.slice none 0 0, .int .i64 0] 27) rfl rfl rfl (by go_simp) (fun bZ v5 hbZ hw => ?_)
                have hbel : Below v2.heap.size v2 v5 := by rw [hw]; exact (Below.refl _ _).alloc (Nat.le_refl _) _
                have hXZ : XB v5 bZ (.slice none 0 0) (.int .i64 0) := by rw [hw, hbZ]; exact XB.made _ _ _ _
                have hltZ : bZ < v5.heap.size := hXZ.lt
                have hqZ : wq.heap.size ≤ bZ := by rw [hbZ]; exact hB0.size
                have hneYZ : gY ≠ bZ := by omega
                have hneZZ : gZ' ≠ bZ := by omega
                clear hw
                clear hbZ
                have hBn := hB0.trans (hbel.mono hB0.size)
                clear hB0
                have hB0 := hBn
                clear hBn
                have hSn := FB.out _ _ hSS hbel
                clear hSS
                have hSS := hSn
                clear hSn
                have hn := hRY.below hbel
                clear hRY
                have hRY := hn
                clear hn
                have hn : gY < v5.heap.size := Nat.lt_of_lt_of_le hgY hbel.size
                clear hgY
                have hgY := hn
                clear hn
                have hn := hRZ.below hbel
                clear hRZ
                have hRZ := hn
                clear hn
                have hn : gZ' < v5.heap.size := Nat.lt_of_lt_of_le hgZ hbel.size
                clear hgZ
                have hgZ := hn
                clear hn
                clear hbel
                refine ⟨fun _ => hSS, ?_⟩
                simp only [Act.put, List.getElem_toArray, List.getElem_cons_zero, List.getElem_cons_succ, List.setIfInBounds_toArray, List.set_cons_zero, List.set_cons_succ]
                refine Till.one (i := 9) (by kernel_rfl) ?_
                refine Till.opT_new (ob := .cells #[.slice none 0 0, .int .i64 0] 27) rfl rfl rfl (by go_simp) (fun bY v6 hbY hw => ?_)
                have hbel : Below v5.heap.size v5 v6 := by rw [hw]; exact (Below.refl _ _).alloc (Nat.le_refl _) _
                have hXY : XB v6 bY (.slice none 0 0) (.int .i64 0) := by rw [hw, hbY]; exact XB.made _ _ _ _
                have hltY : bY < v6.heap.size := hXY.lt
                have hqY : wq.heap.size ≤ bY := by rw [hbY]; exact hB0.size
                have hneYY : gY ≠ bY := by omega
                have hneZY : gZ' ≠ bY := by omega
                have hbb : bY ≠ bZ := by omega
                clear hw
                clear hbY
                have hBn := hB0.trans (hbel.mono hB0.size)
                clear hB0
                have hB0 := hBn
                clear hBn
                have hSn := FB.out _ _ hSS hbel
                clear hSS
                have hSS := hSn
                clear hSn
                have hn := hRY.below hbel
                clear hRY
                have hRY := hn
                clear hn
                have hn : gY < v6.heap.size := Nat.lt_of_lt_of_le hgY hbel.size
                clear hgY
                have hgY := hn
                clear hn
                have hn := hRZ.below hbel
                clear hRZ
                have hRZ := hn
                clear hn
                have hn : gZ' < v6.heap.size := Nat.lt_of_lt_of_le hgZ hbel.size
                clear hgZ
                have hgZ := hn
                clear hn
                have hn := hXZ.below hbel
                clear hXZ
                have hXZ := hn
                clear hn
                have hn : bZ < v6.heap.size := hXZ.lt
                clear hltZ
                have hltZ := hn
                clear hn
                clear hbel
                refine ⟨fun _ => hSS, ?_⟩
                simp only [Act.put, List.getElem_toArray, List.getElem_cons_zero, List.getElem_cons_succ, List.setIfInBounds_toArray, List.set_cons_zero, List.set_cons_succ]
                have hbz : bZ ≠ bY := Ne.symm hbb
                have hY1 := hXY.put (u := .slice (some ⟨gY, oY, none⟩) 20 pY) (v := .int .i64 0)
                have hZa := hXZ.other (i := 0) (v := .slice (some ⟨gY, oY, none⟩) 20 pY) hbz
                have hZ1 := hZa.other (i := 1) (v := .int .i64 0) hbz
                have hB1 := (hB0.setCell (p := ⟨bY, 0, none⟩) hqY (.slice (some ⟨gY, oY, none⟩) 20 pY)).setCell (p := ⟨bY, 1, none⟩) hqY (.int .i64 0)
                have hRYa := HR.set (i := 0) (v := .slice (some ⟨gY, oY, none⟩) 20 pY) hRY hneYY
                have hRY1 := HR.set (i := 1) (v := .int .i64 0) hRYa hneYY
                have hRZa := HR.set (i := 0) (v := .slice (some ⟨gY, oY, none⟩) 20 pY) hRZ hneZY
                have hRZ1 := HR.set (i := 1) (v := .int .i64 0) hRZa hneZY
                have hS1 := FB.out _ _ hSQ hB1
                have y0 := hXY.c0
                have y1 := hXY.c1
                have yz0 := hXY.z0
                have yz1 := hXY.z1
                clear hZa hRYa hRZa hRY hRZ hXY hXZ hB0 hSS hneYY hneZY
                refine Till.skip (i := 11) (w' := (v6.setCell ⟨bY, 0, none⟩ (.slice (some ⟨gY, oY, none⟩) 20 pY)).setCell ⟨bY, 1, none⟩ (.int .i64 0)) (by kernel_rfl) rfl rfl rfl (by go_simp) (fun _ => hS1) ?_
                simp only [Act.put, List.getElem_toArray, List.getElem_cons_zero, List.getElem_cons_succ, List.setIfInBounds_toArray, List.set_cons_zero, List.set_cons_succ]
                clear y0 y1 yz0 yz1
                generalize (v6.setCell ⟨bY, 0, none⟩ (.slice (some ⟨gY, oY, none⟩) 20 pY)).setCell ⟨bY, 1, none⟩ (.int .i64 0) = W1 at *
                have hZ2 := hZ1.put (u := .slice (some ⟨gZ', oZ, none⟩) 20 pZ') (v := .int .i64 0)
                have hYa := hY1.other (i := 0) (v := .slice (some ⟨gZ', oZ, none⟩) 20 pZ') hbb
                have hY2 := hYa.other (i := 1) (v := .int .i64 0) hbb
                have hB2 := (hB1.setCell (p := ⟨bZ, 0, none⟩) hqZ (.slice (some ⟨gZ', oZ, none⟩) 20 pZ')).setCell (p := ⟨bZ, 1, none⟩) hqZ (.int .i64 0)
                have hRYa := HR.set (i := 0) (v := .slice (some ⟨gZ', oZ, none⟩) 20 pZ') hRY1 hneYZ
                have hRY2 := HR.set (i := 1) (v := .int .i64 0) hRYa hneYZ
                have hRZa := HR.set (i := 0) (v := .slice (some ⟨gZ', oZ, none⟩) 20 pZ') hRZ1 hneZZ
                have hRZ2 := HR.set (i := 1) (v := .int .i64 0) hRZa hneZZ
                have hS2 := FB.out _ _ hSQ hB2
                have y0 := hZ1.c0
                have y1 := hZ1.c1
                have yz0 := hZ1.z0
                have yz1 := hZ1.z1
                clear hYa hRYa hRZa hRY1 hRZ1 hY1 hZ1 hB1 hS1 hSQ hB2
                refine Till.skip (i := 12) (w' := (W1.setCell ⟨bZ, 0, none⟩ (.slice (some ⟨gZ', oZ, none⟩) 20 pZ')).setCell ⟨bZ, 1, none⟩ (.int .i64 0)) (by kernel_rfl) rfl rfl rfl (by go_simp) (fun h => absurd rfl h) ?_
                simp only [Act.put, List.getElem_toArray, List.getElem_cons_zero, List.getElem_cons_succ, List.setIfInBounds_toArray, List.set_cons_zero, List.set_cons_succ]
                clear y0 y1 yz0 yz1
                refine Till.done (by kernel_rfl) ?_ _
                generalize (W1.setCell ⟨bZ, 0, none⟩ (.slice (some ⟨gZ', oZ, none⟩) 20 pZ')).setCell ⟨bZ, 1, none⟩ (.int .i64 0) = W2 at *
                go_wp2_with fail
                go_meet
                case rel => exact ⟨bY, bZ, gY, oY, pY, gZ', oZ, pZ', rfl, rfl, hS2, hY2, hZ2, hRY2, hRZ2⟩
            · skip
              refine Till.opT_new (ob := .cells #[.slice none 0 0, .int .i64 0] 27) rfl rfl rfl (by go_simp) (fun bY v7 hbY hw => ?_)
              have hbel : Below v1.heap.size v1 v7 := by rw [hw]; exact (Below.refl _ _).alloc (Nat.le_refl _) _
              have hXY : XB v7 bY (.slice none 0 0) (.int .i64 0) := by rw [hw, hbY]; exact XB.made _ _ _ _
              have hltY : bY < v7.heap.size := hXY.lt
              have hqY : wq.heap.size ≤ bY := by rw [hbY]; exact hB0.size
              have hneYY : gY ≠ bY := by omega
              clear hw
              clear hbY
              have hBn := hB0.trans (hbel.mono hB0.size)
              clear hB0
              have hB0 := hBn
              clear hBn
              have hSn := FB.out _ _ hSS hbel
              clear hSS
              have hSS := hSn
              clear hSn
              have hn := hRY.below hbel
              clear hRY
              have hRY := hn
              clear hn
              have hn : gY < v7.heap.size := Nat.lt_of_lt_of_le hgY hbel.size
              clear hgY
              have hgY := hn
              clear hn
              clear hbel
              refine ⟨fun _ => hSS, ?_⟩
              simp only [Act.put, List.getElem_toArray, List.getElem_cons_zero, List.getElem_cons_succ, List.setIfInBounds_toArray, List.set_cons_zero, List.set_cons_succ]
              refine Till.two (i := 8) (j := 10) (by kernel_rfl) ?_ ?_
              · skip
                refine Till.opT_call (f := 5) (args := #[.string sb, .int .i64 hneed, .int .i64 20, .string rH]) rfl rfl rfl (by go_simp) ?_
                have hcon := implSplit_any sb rH hneed 20 v7 mB mR
                rw [HSP2.out] at hcon
                refine Calls.mono hcon ?_
                clear hcon
                rintro e v8 ⟨aN, kN, pN, rfl, ho, hb⟩
                dsimp only
                have hkN : lZ.length = kN := shares_len ho
                obtain rfl : kN = 20 := by have := HLL.out; omega
                have hRN := HR.own ho
                obtain ⟨gN, oN, haN, hgN, _, _⟩ := HR.at hRN (show 0 < 20 by decide)
                subst haN
                have hgl : v7.heap.size ≤ gN := (ho.lt gN rfl).1
                clear ho hkN
                have hBn := hB0.trans (hb.mono hB0.size)
                clear hB0
                have hB0 := hBn
                clear hBn
                have hSn := FB.out _ _ hSS hb
                clear hSS
                have hSS := hSn
                clear hSn
                have hn := hRY.below hb
                clear hRY
                have hRY := hn
                clear hn
                have hn : gY < v8.heap.size := Nat.lt_of_lt_of_le hgY hb.size
                clear hgY
                have hgY := hn
                clear hn
                have hn := hXY.below hb
                clear hXY
                have hXY := hn
                clear hn
                clear hb
                obtain ⟨gZ', oZ, pZ', hRZ, hgZ, hglZ⟩ : ∃ g o p, HR v8 (some ⟨g, o, none⟩) 20 p lZ ∧ g < v8.heap.size ∧ (g = gN ∧ o = oN ∧ p = pN) := ⟨gN, oN, pN, hRN, hgN, rfl, rfl, rfl⟩
                obtain ⟨rfl, rfl, rfl⟩ := hglZ
                clear hRN hgN
                have hneZY : gZ' ≠ bY := by have := hltY; omega
                have hn : bY < v8.heap.size := hXY.lt
                clear hltY
                have hltY := hn
                clear hn
                clear hgl
                refine ⟨_, rfl, fun _ => hSS, ?_⟩
                simp only [Act.put, List.getElem_toArray, List.getElem_cons_zero, List.getElem_cons_succ, List.setIfInBounds_toArray, List.set_cons_zero, List.set_cons_succ]
                refine Till.one (i := 10) (by kernel_rfl) ?_
                refine Till.opT_new (ob := .cells #[.slice none 0 0, .int .i64 0] 27) rfl rfl rfl (by go_simp) (fun bZ v9 hbZ hw => ?_)
                have hbel : Below v8.heap.size v8 v9 := by rw [hw]; exact (Below.refl _ _).alloc (Nat.le_refl _) _
                have hXZ : XB v9 bZ (.slice none 0 0) (.int .i64 0) := by rw [hw, hbZ]; exact XB.made _ _ _ _
                have hltZ : bZ < v9.heap.size := hXZ.lt
                have hqZ : wq.heap.size ≤ bZ := by rw [hbZ]; exact hB0.size
                have hneYZ : gY ≠ bZ := by omega
                have hneZZ : gZ' ≠ bZ := by omega
                have hbb : bY ≠ bZ := by omega
                clear hw
                clear hbZ
                have hBn := hB0.trans (hbel.mono hB0.size)
                clear hB0
                have hB0 := hBn
                clear hBn
                have hSn := FB.out _ _ hSS hbel
                clear hSS
                have hSS := hSn
                clear hSn
                have hn := hRY.below hbel
                clear hRY
                have hRY := hn
                clear hn
                have hn : gY < v9.heap.size := Nat.lt_of_lt_of_le hgY hbel.size
                clear hgY
                have hgY := hn
                clear hn
                have hn := hRZ.below hbel
                clear hRZ
                have hRZ := hn
                clear hn
                have hn : gZ' < v9.heap.size := Nat.lt_of_lt_of_le hgZ hbel.size
                clear hgZ
                have hgZ := hn
                clear hn
                have hn := hXY.below hbel
                clear hXY
                have hXY := hn
                clear hn
                have hn : bY < v9.heap.size := hXY.lt
                clear hltY
                have hltY := hn
                clear hn
                clear hbel
                refine ⟨fun _ => hSS, ?_⟩
                simp only [Act.put, List.getElem_toArray, List.getElem_cons_zero, List.getElem_cons_succ, List.setIfInBounds_toArray, List.set_cons_zero, List.set_cons_succ]
                have hbz : bZ ≠ bY := Ne.symm hbb
                have hY1 := hXY.put (u := .slice (some ⟨gY, oY, none⟩) 20 pY) (v := .int .i64 0)
                have hZa := hXZ.other (i := 0) (v := .slice (some ⟨gY, oY, none⟩) 20 pY) hbz
                have hZ1 := hZa.other (i := 1) (v := .int .i64 0) hbz
                have hB1 := (hB0.setCell (p := ⟨bY, 0, none⟩) hqY (.slice (some ⟨gY, oY, none⟩) 20 pY)).setCell (p := ⟨bY, 1, none⟩) hqY (.int .i64 0)
                have hRYa := HR.set (i := 0) (v := .slice (some ⟨gY, oY, none⟩) 20 pY) hRY hneYY
                have hRY1 := HR.set (i := 1) (v := .int .i64 0) hRYa hneYY
                have hRZa := HR.set (i := 0) (v := .slice (some ⟨gY, oY, none⟩) 20 pY) hRZ hneZY
                have hRZ1 := HR.set (i := 1) (v := .int .i64 0) hRZa hneZY
                have hS1 := FB.out _ _ hSQ hB1
                have y0 := hXY.c0
                have y1 := hXY.c1
                have yz0 := hXY.z0
                have yz1 := hXY.z1
                clear hZa hRYa hRZa hRY hRZ hXY hXZ hB0 hSS hneYY hneZY
                refine Till.skip (i := 11) (w' := (v9.setCell ⟨bY, 0, none⟩ (.slice (some ⟨gY, oY, none⟩) 20 pY)).setCell ⟨bY, 1, none⟩ (.int .i64 0)) (by kernel_rfl) rfl rfl rfl (by go_simp) (fun _ => hS1) ?_
                simp only [Act.put, List.getElem_toArray, List.getElem_cons_zero, List.getElem_cons_succ, List.setIfInBounds_toArray, List.set_cons_zero, List.set_cons_succ]
                clear y0 y1 yz0 yz1
                generalize (v9.setCell ⟨bY, 0, none⟩ (.slice (some ⟨gY, oY, none⟩) 20 pY)).setCell ⟨bY, 1, none⟩ (.int .i64 0) = W1 at *
                have hZ2 := hZ1.put (u := .slice (some ⟨gZ', oZ, none⟩) 20 pZ') (v := .int .i64 0)
                have hYa := hY1.other (i := 0) (v := .slice (some ⟨gZ', oZ, none⟩) 20 pZ') hbb
                have hY2 := hYa.other (i := 1) (v := .int .i64 0) hbb
                have hB2 := (hB1.setCell (p := ⟨bZ, 0, none⟩) hqZ (.slice (some ⟨gZ', oZ, none⟩) 20 pZ')).setCell (p := ⟨bZ, 1, none⟩) hqZ (.int .i64 0)
                have hRYa := HR.set (i := 0) (v := .slice (some ⟨gZ', oZ, none⟩) 20 pZ') hRY1 hneYZ
                have hRY2 := HR.set (i := 1) (v := .int .i64 0) hRYa hneYZ
                have hRZa := HR.set (i := 0) (v := .slice (some ⟨gZ', oZ, none⟩) 20 pZ') hRZ1 hneZZ
                have hRZ2 := HR.set (i := 1) (v := .int .i64 0) hRZa hneZZ
                have hS2 := FB.out _ _ hSQ hB2
                have y0 := hZ1.c0
                have y1 := hZ1.c1
                have yz0 := hZ1.z0
                have yz1 := hZ1.z1
                clear hYa hRYa hRZa hRY1 hRZ1 hY1 hZ1 hB1 hS1 hSQ hB2
                refine Till.skip (i := 12) (w' := (W1.setCell ⟨bZ, 0, none⟩ (.slice (some ⟨gZ', oZ, none⟩) 20 pZ')).setCell ⟨bZ, 1, none⟩ (.int .i64 0)) (by kernel_rfl) rfl rfl rfl (by go_simp) (fun h => absurd rfl h) ?_
                simp only [Act.put, List.getElem_toArray, List.getElem_cons_zero, List.getElem_cons_succ, List.setIfInBounds_toArray, List.set_cons_zero, List.set_cons_succ]
                clear y0 y1 yz0 yz1
                refine Till.done (by kernel_rfl) ?_ _
                generalize (W1.setCell ⟨bZ, 0, none⟩ (.slice (some ⟨gZ', oZ, none⟩) 20 pZ')).setCell ⟨bZ, 1, none⟩ (.int .i64 0) = W2 at *
                go_wp2_with fail
                go_meet
                case rel => exact ⟨bY, bZ, gY, oY, pY, gZ', oZ, pZ', rfl, rfl, hS2, hY2, hZ2, hRY2, hRZ2⟩
              · skip
                refine Till.opT_new (ob := .cells #[.slice none 0 0, .int .i64 0] 27) rfl rfl rfl (by go_simp) (fun bZ v10 hbZ hw => ?_)
                have hbel : Below v7.heap.size v7 v10 := by rw [hw]; exact (Below.refl _ _).alloc (Nat.le_refl _) _
                have hXZ : XB v10 bZ (.slice none 0 0) (.int .i64 0) := by rw [hw, hbZ]; exact XB.made _ _ _ _
                have hltZ : bZ < v10.heap.size := hXZ.lt
                have hqZ : wq.heap.size ≤ bZ := by rw [hbZ]; exact hB0.size
                have hneYZ : gY ≠ bZ := by omega
                have hbb : bY ≠ bZ := by omega
                clear hw
                clear hbZ
                have hBn := hB0.trans (hbel.mono hB0.size)
                clear hB0
                have hB0 := hBn
                clear hBn
                have hSn := FB.out _ _ hSS hbel
                clear hSS
                have hSS := hSn
                clear hSn
                have hn := hRY.below hbel
                clear hRY
                have hRY := hn
                clear hn
                have hn : gY < v10.heap.size := Nat.lt_of_lt_of_le hgY hbel.size
                clear hgY
                have hgY := hn
                clear hn
                have hn := hXY.below hbel
                clear hXY
                have hXY := hn
                clear hn
                have hn : bY < v10.heap.size := hXY.lt
                clear hltY
                have hltY := hn
                clear hn
                clear hbel
                refine ⟨fun _ => hSS, ?_⟩
                simp only [Act.put, List.getElem_toArray, List.getElem_cons_zero, List.getElem_cons_succ, List.setIfInBounds_toArray, List.set_cons_zero, List.set_cons_succ]
                refine Till.one (i := 8) (by kernel_rfl) ?_
                refine Till.opT_call (f := 5) (args := #[.string sb, .int .i64 hneed, .int .i64 20, .string rH]) rfl rfl rfl (by go_simp) ?_
                have hcon := implSplit_any sb rH hneed 20 v10 mB mR
                rw [HSP2.out] at hcon
                refine Calls.mono hcon ?_
                clear hcon
                rintro e v11 ⟨aN, kN, pN, rfl, ho, hb⟩
                dsimp only
                have hkN : lZ.length = kN := shares_len ho
                obtain rfl : kN = 20 := by have := HLL.out; omega
                have hRN := HR.own ho
                obtain ⟨gN, oN, haN, hgN, _, _⟩ := HR.at hRN (show 0 < 20 by decide)
                subst haN
                have hgl : v10.heap.size ≤ gN := (ho.lt gN rfl).1
                clear ho hkN
                have hBn := hB0.trans (hb.mono hB0.size)
                clear hB0
                have hB0 := hBn
                clear hBn
                have hSn := FB.out _ _ hSS hb
                clear hSS
                have hSS := hSn
                clear hSn
                have hn := hRY.below hb
                clear hRY
                have hRY := hn
                clear hn
                have hn : gY < v11.heap.size := Nat.lt_of_lt_of_le hgY hb.size
                clear hgY
                have hgY := hn
                clear hn
                have hn := hXY.below hb
                clear hXY
                have hXY := hn
                clear hn
                have hn := hXZ.below hb
                clear hXZ
                have hXZ := hn
                clear hn
                clear hb
                obtain ⟨gZ', oZ, pZ', hRZ, hgZ, hglZ⟩ : ∃ g o p, HR v11 (some ⟨g, o, none⟩) 20 p lZ ∧ g < v11.heap.size ∧ (g = gN ∧ o = oN ∧ p = pN) := ⟨gN, oN, pN, hRN, hgN, rfl, rfl, rfl⟩
                obtain ⟨rfl, rfl, rfl⟩ := hglZ
                clear hRN hgN
                have hneZY : gZ' ≠ bY := by have := hltY; omega
                have hneZZ : gZ' ≠ bZ := by have := hltZ; omega
                have hn : bY < v11.heap.size := hXY.lt
                clear hltY
                have hltY := hn
                clear hn
                have hn : bZ < v11.heap.size := hXZ.lt
                clear hltZ
                have hltZ := hn
                clear hn
                clear hgl
                refine ⟨_, rfl, fun _ => hSS, ?_⟩
                simp only [Act.put, List.getElem_toArray, List.getElem_cons_zero, List.getElem_cons_succ, List.setIfInBounds_toArray, List.set_cons_zero, List.set_cons_succ]
                have hbz : bZ ≠ bY := Ne.symm hbb
                have hY1 := hXY.put (u := .slice (some ⟨gY, oY, none⟩) 20 pY) (v := .int .i64 0)
                have hZa := hXZ.other (i := 0) (v := .slice (some ⟨gY, oY, none⟩) 20 pY) hbz
                have hZ1 := hZa.other (i := 1) (v := .int .i64 0) hbz
                have hB1 := (hB0.setCell (p := ⟨bY, 0, none⟩) hqY (.slice (some ⟨gY, oY, none⟩) 20 pY)).setCell (p := ⟨bY, 1, none⟩) hqY (.int .i64 0)
                have hRYa := HR.set (i := 0) (v := .slice (some ⟨gY, oY, none⟩) 20 pY) hRY hneYY
                have hRY1 := HR.set (i := 1) (v := .int .i64 0) hRYa hneYY
                have hRZa := HR.set (i := 0) (v := .slice (some ⟨gY, oY, none⟩) 20 pY) hRZ hneZY
                have hRZ1 := HR.set (i := 1) (v := .int .i64 0) hRZa hneZY
                have hS1 := FB.out _ _ hSQ hB1
                have y0 := hXY.c0
                have y1 := hXY.c1
                have yz0 := hXY.z0
                have yz1 := hXY.z1
                clear hZa hRYa hRZa hRY hRZ hXY hXZ hB0 hSS hneYY hneZY
                refine Till.skip (i := 11) (w' := (v11.setCell ⟨bY, 0, none⟩ (.slice (some ⟨gY, oY, none⟩) 20 pY)).setCell ⟨bY, 1, none⟩ (.int .i64 0)) (by kernel_rfl) rfl rfl rfl (by go_simp) (fun _ => hS1) ?_
                simp only [Act.put, List.getElem_toArray, List.getElem_cons_zero, List.getElem_cons_succ, List.setIfInBounds_toArray, List.set_cons_zero, List.set_cons_succ]
                clear y0 y1 yz0 yz1
                generalize (v11.setCell ⟨bY, 0, none⟩ (.slice (some ⟨gY, oY, none⟩) 20 pY)).setCell ⟨bY, 1, none⟩ (.int .i64 0) = W1 at *
                have hZ2 := hZ1.put (u := .slice (some ⟨gZ', oZ, none⟩) 20 pZ') (v := .int .i64 0)
                have hYa := hY1.other (i := 0) (v := .slice (some ⟨gZ', oZ, none⟩) 20 pZ') hbb
                have hY2 := hYa.other (i := 1) (v := .int .i64 0) hbb
                have hB2 := (hB1.setCell (p := ⟨bZ, 0, none⟩) hqZ (.slice (some ⟨gZ', oZ, none⟩) 20 pZ')).setCell (p := ⟨bZ, 1, none⟩) hqZ (.int .i64 0)
                have hRYa := HR.set (i := 0) (v := .slice (some ⟨gZ', oZ, none⟩) 20 pZ') hRY1 hneYZ
                have hRY2 := HR.set (i := 1) (v := .int .i64 0) hRYa hneYZ
                have hRZa := HR.set (i := 0) (v := .slice (some ⟨gZ', oZ, none⟩) 20 pZ') hRZ1 hneZZ
                have hRZ2 := HR.set (i := 1) (v := .int .i64 0) hRZa hneZZ
                have hS2 := FB.out _ _ hSQ hB2
                have y0 := hZ1.c0
                have y1 := hZ1.c1
                have yz0 := hZ1.z0
                have yz1 := hZ1.z1
                clear hYa hRYa hRZa hRY1 hRZ1 hY1 hZ1 hB1 hS1 hSQ hB2
                refine Till.skip (i := 12) (w' := (W1.setCell ⟨bZ, 0, none⟩ (.slice (some ⟨gZ', oZ, none⟩) 20 pZ')).setCell ⟨bZ, 1, none⟩ (.int .i64 0)) (by kernel_rfl) rfl rfl rfl (by go_simp) (fun h => absurd rfl h) ?_
                simp only [Act.put, List.getElem_toArray, List.getElem_cons_zero, List.getElem_cons_succ, List.setIfInBounds_toArray, List.set_cons_zero, List.set_cons_succ]
                clear y0 y1 yz0 yz1
                refine Till.done (by kernel_rfl) ?_ _
                generalize (W1.setCell ⟨bZ, 0, none⟩ (.slice (some ⟨gZ', oZ, none⟩) 20 pZ')).setCell ⟨bZ, 1, none⟩ (.int .i64 0) = W2 at *
                go_wp2_with fail
                go_meet
                case rel => exact ⟨bY, bZ, gY, oY, pY, gZ', oZ, pZ', rfl, rfl, hS2, hY2, hZ2, hRY2, hRZ2⟩
            · skip
              refine Till.opT_new (ob := .cells #[.slice none 0 0, .int .i64 0] 27) rfl rfl rfl (by go_simp) (fun bZ v12 hbZ hw => ?_)
              have hbel : Below v1.heap.size v1 v12 := by rw [hw]; exact (Below.refl _ _).alloc (Nat.le_refl _) _
              have hXZ : XB v12 bZ (.slice none 0 0) (.int .i64 0) := by rw [hw, hbZ]; exact XB.made _ _ _ _
              have hltZ : bZ < v12.heap.size := hXZ.lt
              have hqZ : wq.heap.size ≤ bZ := by rw [hbZ]; exact hB0.size
              have hneYZ : gY ≠ bZ := by omega
              clear hw
              clear hbZ
              have hBn := hB0.trans (hbel.mono hB0.size)
              clear hB0
              have hB0 := hBn
              clear hBn
              have hSn := FB.out _ _ hSS hbel
              clear hSS
              have hSS := hSn
              clear hSn
              have hn := hRY.below hbel
              clear hRY
              have hRY := hn
              clear hn
              have hn : gY < v12.heap.size := Nat.lt_of_lt_of_le hgY hbel.size
              clear hgY
              have hgY := hn
              clear hn
              clear hbel
              refine ⟨fun _ => hSS, ?_⟩
              simp only [Act.put, List.getElem_toArray, List.getElem_cons_zero, List.getElem_cons_succ, List.setIfInBounds_toArray, List.set_cons_zero, List.set_cons_succ]
              refine Till.two (i := 8) (j := 9) (by kernel_rfl) ?_ ?_
              · skip
                refine Till.opT_call (f := 5) (args := #[.string sb, .int .i64 hneed, .int .i64 20, .string rH]) rfl rfl rfl (by go_simp) ?_
                have hcon := implSplit_any sb rH hneed 20 v12 mB mR
                rw [HSP2.out] at hcon
                refine Calls.mono hcon ?_
                clear hcon
                rintro e v13 ⟨aN, kN, pN, rfl, ho, hb⟩
                dsimp only
                have hkN : lZ.length = kN := shares_len ho
                obtain rfl : kN = 20 := by have := HLL.out; omega
                have hRN := HR.own ho
                obtain ⟨gN, oN, haN, hgN, _, _⟩ := HR.at hRN (show 0 < 20 by decide)
                subst haN
                have hgl : v12.heap.size ≤ gN := (ho.lt gN rfl).1
                clear ho hkN
                have hBn := hB0.trans (hb.mono hB0.size)
                clear hB0
                have hB0 := hBn
                clear hBn
                have hSn := FB.out _ _ hSS hb
                clear hSS
                have hSS := hSn
                clear hSn
                have hn := hRY.below hb
                clear hRY
                have hRY := hn
                clear hn
                have hn : gY < v13.heap.size := Nat.lt_of_lt_of_le hgY hb.size
                clear hgY
                have hgY := hn
                clear hn
                have hn := hXZ.below hb
                clear hXZ
                have hXZ := hn
                clear hn
                clear hb
                obtain ⟨gZ', oZ, pZ', hRZ, hgZ, hglZ⟩ : ∃ g o p, HR v13 (some ⟨g, o, none⟩) 20 p lZ ∧ g < v13.heap.size ∧ (g = gN ∧ o = oN ∧ p = pN) := ⟨gN, oN, pN, hRN, hgN, rfl, rfl, rfl⟩
                obtain ⟨rfl, rfl, rfl⟩ := hglZ
                clear hRN hgN
                have hneZZ : gZ' ≠ bZ := by have := hltZ; omega
                have hn : bZ < v13.heap.size := hXZ.lt
                clear hltZ
                have hltZ := hn
                clear hn
                clear hgl
                refine ⟨_, rfl, fun _ => hSS, ?_⟩
                simp only [Act.put, List.getElem_toArray, List.getElem_cons_zero, List.getElem_cons_succ, List.setIfInBounds_toArray, List.set_cons_zero, List.set_cons_succ]
                refine Till.one (i := 9) (by kernel_rfl) ?_
                refine Till.opT_new (ob := .cells #[.slice none 0 0, .int .i64 0] 27) rfl rfl rfl (by go_simp) (fun bY v14 hbY hw => ?_)
                have hbel : Below v13.heap.size v13 v14 := by rw [hw]; exact (Below.refl _ _).alloc (Nat.le_refl _) _
                have hXY : XB v14 bY (.slice none 0 0) (.int .i64 0) := by rw [hw, hbY]; exact XB.made _ _ _ _
                have hltY : bY < v14.heap.size := hXY.lt
                have hqY : wq.heap.size ≤ bY := by rw [hbY]; exact hB0.size
                have hneYY : gY ≠ bY := by omega
                have hneZY : gZ' ≠ bY := by omega
                have hbb : bY ≠ bZ := by omega
                clear hw
                clear hbY
                have hBn := hB0.trans (hbel.mono hB0.size)
                clear hB0
                have hB0 := hBn
                clear hBn
                have hSn := FB.out _ _ hSS hbel
                clear hSS
                have hSS := hSn
                clear hSn
                have hn := hRY.below hbel
                clear hRY
                have hRY := hn
                clear hn
                have hn : gY < v14.heap.size := Nat.lt_of_lt_of_le hgY hbel.size
                clear hgY
                have hgY := hn
                clear hn
                have hn := hRZ.below hbel
                clear hRZ
                have hRZ := hn
                clear hn
                have hn : gZ' < v14.heap.size := Nat.lt_of_lt_of_le hgZ hbel.size
                clear hgZ
                have hgZ := hn
                clear hn
                have hn := hXZ.below hbel
                clear hXZ
                have hXZ := hn
                clear hn
                have hn : bZ < v14.heap.size := hXZ.lt
                clear hltZ
                have hltZ := hn
                clear hn
                clear hbel
                refine ⟨fun _ => hSS, ?_⟩
                simp only [Act.put, List.getElem_toArray, List.getElem_cons_zero, List.getElem_cons_succ, List.setIfInBounds_toArray, List.set_cons_zero, List.set_cons_succ]
                have hbz : bZ ≠ bY := Ne.symm hbb
                have hY1 := hXY.put (u := .slice (some ⟨gY, oY, none⟩) 20 pY) (v := .int .i64 0)
                have hZa := hXZ.other (i := 0) (v := .slice (some ⟨gY, oY, none⟩) 20 pY) hbz
                have hZ1 := hZa.other (i := 1) (v := .int .i64 0) hbz
                have hB1 := (hB0.setCell (p := ⟨bY, 0, none⟩) hqY (.slice (some ⟨gY, oY, none⟩) 20 pY)).setCell (p := ⟨bY, 1, none⟩) hqY (.int .i64 0)
                have hRYa := HR.set (i := 0) (v := .slice (some ⟨gY, oY, none⟩) 20 pY) hRY hneYY
                have hRY1 := HR.set (i := 1) (v := .int .i64 0) hRYa hneYY
                have hRZa := HR.set (i := 0) (v := .slice (some ⟨gY, oY, none⟩) 20 pY) hRZ hneZY
                have hRZ1 := HR.set (i := 1) (v := .int .i64 0) hRZa hneZY
                have hS1 := FB.out _ _ hSQ hB1
                have y0 := hXY.c0
                have y1 := hXY.c1
                have yz0 := hXY.z0
                have yz1 := hXY.z1
                clear hZa hRYa hRZa hRY hRZ hXY hXZ hB0 hSS hneYY hneZY
                refine Till.skip (i := 11) (w' := (v14.setCell ⟨bY, 0, none⟩ (.slice (some ⟨gY, oY, none⟩) 20 pY)).setCell ⟨bY, 1, none⟩ (.int .i64 0)) (by kernel_rfl) rfl rfl rfl (by go_simp) (fun _ => hS1) ?_
                simp only [Act.put, List.getElem_toArray, List.getElem_cons_zero, List.getElem_cons_succ, List.setIfInBounds_toArray, List.set_cons_zero, List.set_cons_succ]
                clear y0 y1 yz0 yz1
                generalize (v14.setCell ⟨bY, 0, none⟩ (.slice (some ⟨gY, oY, none⟩) 20 pY)).setCell ⟨bY, 1, none⟩ (.int .i64 0) = W1 at *
                have hZ2 := hZ1.put (u := .slice (some ⟨gZ', oZ, none⟩) 20 pZ') (v := .int .i64 0)
                have hYa := hY1.other (i := 0) (v := .slice (some ⟨gZ', oZ, none⟩) 20 pZ') hbb
                have hY2 := hYa.other (i := 1) (v := .int .i64 0) hbb
                have hB2 := (hB1.setCell (p := ⟨bZ, 0, none⟩) hqZ (.slice (some ⟨gZ', oZ, none⟩) 20 pZ')).setCell (p := ⟨bZ, 1, none⟩) hqZ (.int .i64 0)
                have hRYa := HR.set (i := 0) (v := .slice (some ⟨gZ', oZ, none⟩) 20 pZ') hRY1 hneYZ
                have hRY2 := HR.set (i := 1) (v := .int .i64 0) hRYa hneYZ
                have hRZa := HR.set (i := 0) (v := .slice (some ⟨gZ', oZ, none⟩) 20 pZ') hRZ1 hneZZ
                have hRZ2 := HR.set (i := 1) (v := .int .i64 0) hRZa hneZZ
                have hS2 := FB.out _ _ hSQ hB2
                have y0 := hZ1.c0
                have y1 := hZ1.c1
                have yz0 := hZ1.z0
                have yz1 := hZ1.z1
                clear hYa hRYa hRZa hRY1 hRZ1 hY1 hZ1 hB1 hS1 hSQ hB2
                refine Till.skip (i := 12) (w' := (W1.setCell ⟨bZ, 0, none⟩ (.slice (some ⟨gZ', oZ, none⟩) 20 pZ')).setCell ⟨bZ, 1, none⟩ (.int .i64 0)) (by kernel_rfl) rfl rfl rfl (by go_simp) (fun h => absurd rfl h) ?_
                simp only [Act.put, List.getElem_toArray, List.getElem_cons_zero, List.getElem_cons_succ, List.setIfInBounds_toArray, List.set_cons_zero, List.set_cons_succ]
                clear y0 y1 yz0 yz1
                refine Till.done (by kernel_rfl) ?_ _
                generalize (W1.setCell ⟨bZ, 0, none⟩ (.slice (some ⟨gZ', oZ, none⟩) 20 pZ')).setCell ⟨bZ, 1, none⟩ (.int .i64 0) = W2 at *
                go_wp2_with fail
                go_meet
                case rel => exact ⟨bY, bZ, gY, oY, pY, gZ', oZ, pZ', rfl, rfl, hS2, hY2, hZ2, hRY2, hRZ2⟩
              · skip
                refine Till.opT_new (ob := .cells #[.slice none 0 0, .int .i64 0] 27) rfl rfl rfl (by go_simp) (fun bY v15 hbY hw => ?_)
                have hbel : Below v12.heap.size v12 v15 := by rw [hw]; exact (Below.refl _ _).alloc (Nat.le_refl _) _
                have hXY : XB v15 bY (.slice none 0 0) (.int .i64 0) := by rw [hw, hbY]; exact XB.made _ _ _ _
                have hltY : bY < v15.heap.size := hXY.lt
                have hqY : wq.heap.size ≤ bY := by rw [hbY]; exact hB0.size
                have hneYY : gY ≠ bY := by omega
                have hbb : bY ≠ bZ := by omega
                clear hw
                clear hbY
                have hBn := hB0.trans (hbel.mono hB0.size)
                clear hB0
                have hB0 := hBn
                clear hBn
                have hSn := FB.out _ _ hSS hbel
                clear hSS
                have hSS := hSn
                clear hSn
                have hn := hRY.below hbel
                clear hRY
                have hRY := hn
                clear hn
                have hn : gY < v15.heap.size := Nat.lt_of_lt_of_le hgY hbel.size
                clear hgY
                have hgY := hn
                clear hn
                have hn := hXZ.below hbel
                clear hXZ
                have hXZ := hn
                clear hn
                have hn : bZ < v15.heap.size := hXZ.lt
                clear hltZ
                have hltZ := hn
                clear hn
                clear hbel
                refine ⟨fun _ => hSS, ?_⟩
                simp only [Act.put, List.getElem_toArray, List.getElem_cons_zero, List.getElem_cons_succ, List.setIfInBounds_toArray, List.set_cons_zero, List.set_cons_succ]
                refine Till.one (i := 8) (by kernel_rfl) ?_
                refine Till.opT_call (f := 5) (args := #[.string sb, .int .i64 hneed, .int .i64 20, .string rH]) rfl rfl rfl (by go_simp) ?_
                have hcon := implSplit_any sb rH hneed 20 v15 mB mR
                rw [HSP2.out] at hcon
                refine Calls.mono hcon ?_
                clear hcon
                rintro e v16 ⟨aN, kN, pN, rfl, ho, hb⟩
                dsimp only
                have hkN : lZ.length = kN := shares_len ho
                obtain rfl : kN = 20 := by have := HLL.out; omega
                have hRN := HR.own ho
                obtain ⟨gN, oN, haN, hgN, _, _⟩ := HR.at hRN (show 0 < 20 by decide)
                subst haN
                have hgl : v15.heap.size ≤ gN := (ho.lt gN rfl).1
                clear ho hkN
                have hBn := hB0.trans (hb.mono hB0.size)
                clear hB0
                have hB0 := hBn
                clear hBn
                have hSn := FB.out _ _ hSS hb
                clear hSS
                have hSS := hSn
                clear hSn
                have hn := hRY.below hb
                clear hRY
                have hRY := hn
                clear hn
                have hn : gY < v16.heap.size := Nat.lt_of_lt_of_le hgY hb.size
                clear hgY
                have hgY := hn
                clear hn
                have hn := hXY.below hb
                clear hXY
                have hXY := hn
                clear hn
                have hn := hXZ.below hb
                clear hXZ
                have hXZ := hn
                clear hn
                clear hb
                obtain ⟨gZ', oZ, pZ', hRZ, hgZ, hglZ⟩ : ∃ g o p, HR v16 (some ⟨g, o, none⟩) 20 p lZ ∧ g < v16.heap.size ∧ (g = gN ∧ o = oN ∧ p = pN) := ⟨gN, oN, pN, hRN, hgN, rfl, rfl, rfl⟩
                obtain ⟨rfl, rfl, rfl⟩ := hglZ
                clear hRN hgN
                have hneZY : gZ' ≠ bY := by have := hltY; omega
                have hneZZ : gZ' ≠ bZ := by have := hltZ; omega
                have hn : bY < v16.heap.size := hXY.lt
                clear hltY
                have hltY := hn
                clear hn
                have hn : bZ < v16.heap.size := hXZ.lt
                clear hltZ
                have hltZ := hn
                clear hn
                clear hgl
                refine ⟨_, rfl, fun _ => hSS, ?_⟩
                simp only [Act.put, List.getElem_toArray, List.getElem_cons_zero, List.getElem_cons_succ, List.setIfInBounds_toArray, List.set_cons_zero, List.set_cons_succ]
                have hbz : bZ ≠ bY := Ne.symm hbb
                have hY1 := hXY.put (u := .slice (some ⟨gY, oY, none⟩) 20 pY) (v := .int .i64 0)
                have hZa := hXZ.other (i := 0) (v := .slice (some ⟨gY, oY, none⟩) 20 pY) hbz
                have hZ1 := hZa.other (i := 1) (v := .int .i64 0) hbz
                have hB1 := (hB0.setCell (p := ⟨bY, 0, none⟩) hqY (.slice (some ⟨gY, oY, none⟩) 20 pY)).setCell (p := ⟨bY, 1, none⟩) hqY (.int .i64 0)
                have hRYa := HR.set (i := 0) (v := .slice (some ⟨gY, oY, none⟩) 20 pY) hRY hneYY
                have hRY1 := HR.set (i := 1) (v := .int .i64 0) hRYa hneYY
                have hRZa := HR.set (i := 0) (v := .slice (some ⟨gY, oY, none⟩) 20 pY) hRZ hneZY
                have hRZ1 := HR.set (i := 1) (v := .int .i64 0) hRZa hneZY
                have hS1 := FB.out _ _ hSQ hB1
                have y0 := hXY.c0
                have y1 := hXY.c1
                have yz0 := hXY.z0
                have yz1 := hXY.z1
                clear hZa hRYa hRZa hRY hRZ hXY hXZ hB0 hSS hneYY hneZY
                refine Till.skip (i := 11) (w' := (v16.setCell ⟨bY, 0, none⟩ (.slice (some ⟨gY, oY, none⟩) 20 pY)).setCell ⟨bY, 1, none⟩ (.int .i64 0)) (by kernel_rfl) rfl rfl rfl (by go_simp) (fun _ => hS1) ?_
                simp only [Act.put, List.getElem_toArray, List.getElem_cons_zero, List.getElem_cons_succ, List.setIfInBounds_toArray, List.set_cons_zero, List.set_cons_succ]
                clear y0 y1 yz0 yz1
                generalize (v16.setCell ⟨bY, 0, none⟩ (.slice (some ⟨gY, oY, none⟩) 20 pY)).setCell ⟨bY, 1, none⟩ (.int .i64 0) = W1 at *
                have hZ2 := hZ1.put (u := .slice (some ⟨gZ', oZ, none⟩) 20 pZ') (v := .int .i64 0)
                have hYa := hY1.other (i := 0) (v := .slice (some ⟨gZ', oZ, none⟩) 20 pZ') hbb
                have hY2 := hYa.other (i := 1) (v := .int .i64 0) hbb
                have hB2 := (hB1.setCell (p := ⟨bZ, 0, none⟩) hqZ (.slice (some ⟨gZ', oZ, none⟩) 20 pZ')).setCell (p := ⟨bZ, 1, none⟩) hqZ (.int .i64 0)
                have hRYa := HR.set (i := 0) (v := .slice (some ⟨gZ', oZ, none⟩) 20 pZ') hRY1 hneYZ
                have hRY2 := HR.set (i := 1) (v := .int .i64 0) hRYa hneYZ
                have hRZa := HR.set (i := 0) (v := .slice (some ⟨gZ', oZ, none⟩) 20 pZ') hRZ1 hneZZ
                have hRZ2 := HR.set (i := 1) (v := .int .i64 0) hRZa hneZZ
                have hS2 := FB.out _ _ hSQ hB2
                have y0 := hZ1.c0
                have y1 := hZ1.c1
                have yz0 := hZ1.z0
                have yz1 := hZ1.z1
                clear hYa hRYa hRZa hRY1 hRZ1 hY1 hZ1 hB1 hS1 hSQ hB2
                refine Till.skip (i := 12) (w' := (W1.setCell ⟨bZ, 0, none⟩ (.slice (some ⟨gZ', oZ, none⟩) 20 pZ')).setCell ⟨bZ, 1, none⟩ (.int .i64 0)) (by kernel_rfl) rfl rfl rfl (by go_simp) (fun h => absurd rfl h) ?_
                simp only [Act.put, List.getElem_toArray, List.getElem_cons_zero, List.getElem_cons_succ, List.setIfInBounds_toArray, List.set_cons_zero, List.set_cons_succ]
                clear y0 y1 yz0 yz1
                refine Till.done (by kernel_rfl) ?_ _
                generalize (W1.setCell ⟨bZ, 0, none⟩ (.slice (some ⟨gZ', oZ, none⟩) 20 pZ')).setCell ⟨bZ, 1, none⟩ (.int .i64 0) = W2 at *
                go_wp2_with fail
                go_meet
                case rel => exact ⟨bY, bZ, gY, oY, pY, gZ', oZ, pZ', rfl, rfl, hS2, hY2, hZ2, hRY2, hRZ2⟩
          · skip
            refine Till.opT_new (ob := .cells #[.slice none 0 0, .int .i64 0] 27) rfl rfl rfl (by go_simp) (fun bY v17 hbY hw => ?_)
            have hbel : Below wq.heap.size wq v17 := by rw [hw]; exact (Below.refl _ _).alloc (Nat.le_refl _) _
            have hXY : XB v17 bY (.slice none 0 0) (.int .i64 0) := by rw [hw, hbY]; exact XB.made _ _ _ _
            have hltY : bY < v17.heap.size := hXY.lt
            have hqY : wq.heap.size ≤ bY := by rw [hbY]; exact hB0.size
            clear hw
            clear hbY
            have hBn := hB0.trans (hbel.mono hB0.size)
            clear hB0
            have hB0 := hBn
            clear hBn
            have hSn := FB.out _ _ hSS hbel
            clear hSS
            have hSS := hSn
            clear hSn
            clear hbel
            refine ⟨fun _ => hSS, ?_⟩
            simp only [Act.put, List.getElem_toArray, List.getElem_cons_zero, List.getElem_cons_succ, List.setIfInBounds_toArray, List.set_cons_zero, List.set_cons_succ]
            refine Till.two (i := 3) (j := 10) (by kernel_rfl) ?_ ?_
            · skip
              refine Till.opT_call (f := 5) (args := #[.string sa, .int .i64 hneed, .int .i64 20, .string sd]) rfl rfl rfl (by go_simp) ?_
              have hcon := implSplit_any sa sd hneed 20 v17 mA mSD
              rw [HSP1.out] at hcon
              refine Calls.mono hcon ?_
              clear hcon
              rintro e v18 ⟨aN, kN, pN, rfl, ho, hb⟩
              dsimp only
              have hkN : lY.length = kN := shares_len ho
              obtain rfl : kN = 20 := by have := HLL.out; omega
              have hRN := HR.own ho
              obtain ⟨gN, oN, haN, hgN, _, _⟩ := HR.at hRN (show 0 < 20 by decide)
              subst haN
              have hgl : v17.heap.size ≤ gN := (ho.lt gN rfl).1
              clear ho hkN
              have hBn := hB0.trans (hb.mono hB0.size)
              clear hB0
              have hB0 := hBn
              clear hBn
              have hSn := FB.out _ _ hSS hb
              clear hSS
              have hSS := hSn
              clear hSn
              have hn := hXY.below hb
              clear hXY
              have hXY := hn
              clear hn
              clear hb
              obtain ⟨gY, oY, pY, hRY, hgY, hglY⟩ : ∃ g o p, HR v18 (some ⟨g, o, none⟩) 20 p lY ∧ g < v18.heap.size ∧ (g = gN ∧ o = oN ∧ p = pN) := ⟨gN, oN, pN, hRN, hgN, rfl, rfl, rfl⟩
              obtain ⟨rfl, rfl, rfl⟩ := hglY
              clear hRN hgN
              have hneYY : gY ≠ bY := by have := hltY; omega
              have hn : bY < v18.heap.size := hXY.lt
              clear hltY
              have hltY := hn
              clear hn
              clear hgl
              refine ⟨_, rfl, fun _ => hSS, ?_⟩
              simp only [Act.put, List.getElem_toArray, List.getElem_cons_zero, List.getElem_cons_succ, List.setIfInBounds_toArray, List.set_cons_zero, List.set_cons_succ]
              refine Till.two (i := 8) (j := 10) (by kernel_rfl) ?_ ?_
              · skip
                refine Till.opT_call (f := 5) (args := #[.string sb, .int .i64 hneed, .int .i64 20, .string rH]) rfl rfl rfl (by go_simp) ?_
                have hcon := implSplit_any sb rH hneed 20 v18 mB mR
                rw [HSP2.out] at hcon
                refine Calls.mono hcon ?_
                clear hcon
                rintro e v19 ⟨aN, kN, pN, rfl, ho, hb⟩
                dsimp only
                have hkN : lZ.length = kN := shares_len ho
                obtain rfl : kN = 20 := by have := HLL.out; omega
                have hRN := HR.own ho
                obtain ⟨gN, oN, haN, hgN, _, _⟩ := HR.at hRN (show 0 < 20 by decide)
                subst haN
                have hgl : v18.heap.size ≤ gN := (ho.lt gN rfl).1
                clear ho hkN
                have hBn := hB0.trans (hb.mono hB0.size)
                clear hB0
                have hB0 := hBn
                clear hBn
                have hSn := FB.out _ _ hSS hb
                clear hSS
                have hSS := hSn
                clear hSn
                have hn := hRY.below hb
                clear hRY
                have hRY := hn
                clear hn
                have hn : gY < v19.heap.size := Nat.lt_of_lt_of_le hgY hb.size
                clear hgY
                have hgY := hn
                clear hn
                have hn := hXY.below hb
                clear hXY
                have hXY := hn
                clear hn
                clear hb
                obtain ⟨gZ', oZ, pZ', hRZ, hgZ, hglZ⟩ : ∃ g o p, HR v19 (some ⟨g, o, none⟩) 20 p lZ ∧ g < v19.heap.size ∧ (g = gN ∧ o = oN ∧ p = pN) := ⟨gN, oN, pN, hRN, hgN, rfl, rfl, rfl⟩
                obtain ⟨rfl, rfl, rfl⟩ := hglZ
                clear hRN hgN
                have hneZY : gZ' ≠ bY := by have := hltY; omega
                have hn : bY < v19.heap.size := hXY.lt
                clear hltY
                have hltY := hn
                clear hn
                clear hgl
                refine ⟨_, rfl, fun _ => hSS, ?_⟩
                simp only [Act.put, List.getElem_toArray, List.getElem_cons_zero, List.getElem_cons_succ, List.setIfInBounds_toArray, List.set_cons_zero, List.set_cons_succ]
                refine Till.one (i := 10) (by kernel_rfl) ?_
                refine Till.opT_new (ob := .cells #[.slice none 0 0, .int .i64 0] 27) rfl rfl rfl (by go_simp) (fun bZ v20 hbZ hw => ?_)
                have hbel : Below v19.heap.size v19 v20 := by rw [hw]; exact (Below.refl _ _).alloc (Nat.le_refl _) _
                have hXZ : XB v20 bZ (.slice none 0 0) (.int .i64 0) := by rw [hw, hbZ]; exact XB.made _ _ _ _
                have hltZ : bZ < v20.heap.size := hXZ.lt
                have hqZ : wq.heap.size ≤ bZ := by rw [hbZ]; exact hB0.size
                have hneYZ : gY ≠ bZ := by omega
                have hneZZ : gZ' ≠ bZ := by omega
                have hbb : bY ≠ bZ := by omega
                clear hw
                clear hbZ
                have hBn := hB0.trans (hbel.mono hB0.size)
                clear hB0
                have hB0 := hBn
                clear hBn
                have hSn := FB.out _ _ hSS hbel
                clear hSS
                have hSS := hSn
                clear hSn
                have hn := hRY.below hbel
                clear hRY
                have hRY := hn
                clear hn
                have hn : gY < v20.heap.size := Nat.lt_of_lt_of_le hgY hbel.size
                clear hgY
                have hgY := hn
                clear hn
                have hn := hRZ.below hbel
                clear hRZ
                have hRZ := hn
                clear hn
                have hn : gZ' < v20.heap.size := Nat.lt_of_lt_of_le hgZ hbel.size
                clear hgZ
                have hgZ := hn
                clear hn
                have hn := hXY.below hbel
                clear hXY
                have hXY := hn
                clear hn
                have hn : bY < v20.heap.size := hXY.lt
                clear hltY
                have hltY := hn
                clear hn
                clear hbel
                refine ⟨fun _ => hSS, ?_⟩
                simp only [Act.put, List.getElem_toArray, List.getElem_cons_zero, List.getElem_cons_succ, List.setIfInBounds_toArray, List.set_cons_zero, List.set_cons_succ]
                have hbz : bZ ≠ bY := Ne.symm hbb
                have hY1 := hXY.put (u := .slice (some ⟨gY, oY, none⟩) 20 pY) (v := .int .i64 0)
                have hZa := hXZ.other (i := 0) (v := .slice (some ⟨gY, oY, none⟩) 20 pY) hbz
                have hZ1 := hZa.other (i := 1) (v := .int .i64 0) hbz
                have hB1 := (hB0.setCell (p := ⟨bY, 0, none⟩) hqY (.slice (some ⟨gY, oY, none⟩) 20 pY)).setCell (p := ⟨bY, 1, none⟩) hqY (.int .i64 0)
                have hRYa := HR.set (i := 0) (v := .slice (some ⟨gY, oY, none⟩) 20 pY) hRY hneYY
                have hRY1 := HR.set (i := 1) (v := .int .i64 0) hRYa hneYY
                have hRZa := HR.set (i := 0) (v := .slice (some ⟨gY, oY, none⟩) 20 pY) hRZ hneZY
                have hRZ1 := HR.set (i := 1) (v := .int .i64 0) hRZa hneZY
                have hS1 := FB.out _ _ hSQ hB1
                have y0 := hXY.c0
                have y1 := hXY.c1
                have yz0 := hXY.z0
                have yz1 := hXY.z1
                clear hZa hRYa hRZa hRY hRZ hXY hXZ hB0 hSS hneYY hneZY
                refine Till.skip (i := 11) (w' := (v20.setCell ⟨bY, 0, none⟩ (.slice (some ⟨gY, oY, none⟩) 20 pY)).setCell ⟨bY, 1, none⟩ (.int .i64 0)) (by kernel_rfl) rfl rfl rfl (by go_simp) (fun _ => hS1) ?_
                simp only [Act.put, List.getElem_toArray, List.getElem_cons_zero, List.getElem_cons_succ, List.setIfInBounds_toArray, List.set_cons_zero, List.set_cons_succ]
                clear y0 y1 yz0 yz1
                generalize (v20.setCell ⟨bY, 0, none⟩ (.slice (some ⟨gY, oY, none⟩) 20 pY)).setCell ⟨bY, 1, none⟩ (.int .i64 0) = W1 at *
                have hZ2 := hZ1.put (u := .slice (some ⟨gZ', oZ, none⟩) 20 pZ') (v := .int .i64 0)
                have hYa := hY1.other (i := 0) (v := .slice (some ⟨gZ', oZ, none⟩) 20 pZ') hbb
                have hY2 := hYa.other (i := 1) (v := .int .i64 0) hbb
                have hB2 := (hB1.setCell (p := ⟨bZ, 0, none⟩) hqZ (.slice (some ⟨gZ', oZ, none⟩) 20 pZ')).setCell (p := ⟨bZ, 1, none⟩) hqZ (.int .i64 0)
                have hRYa := HR.set (i := 0) (v := .slice (some ⟨gZ', oZ, none⟩) 20 pZ') hRY1 hneYZ
                have hRY2 := HR.set (i := 1) (v := .int .i64 0) hRYa hneYZ
                have hRZa := HR.set (i := 0) (v := .slice (some ⟨gZ', oZ, none⟩) 20 pZ') hRZ1 hneZZ
                have hRZ2 := HR.set (i := 1) (v := .int .i64 0) hRZa hneZZ
                have hS2 := FB.out _ _ hSQ hB2
                have y0 := hZ1.c0
                have y1 := hZ1.c1
                have yz0 := hZ1.z0
                have yz1 := hZ1.z1
                clear hYa hRYa hRZa hRY1 hRZ1 hY1 hZ1 hB1 hS1 hSQ hB2
                refine Till.skip (i := 12) (w' := (W1.setCell ⟨bZ, 0, none⟩ (.slice (some ⟨gZ', oZ, none⟩) 20 pZ')).setCell ⟨bZ, 1, none⟩ (.int .i64 0)) (by kernel_rfl) rfl rfl rfl (by go_simp) (fun h => absurd rfl h) ?_
                simp only [Act.put, List.getElem_toArray, List.getElem_cons_zero, List.getElem_cons_succ, List.setIfInBounds_toArray, List.set_cons_zero, List.set_cons_succ]
                clear y0 y1 yz0 yz1
                refine Till.done (by kernel_rfl) ?_ _
                generalize (W1.setCell ⟨bZ, 0, none⟩ (.slice (some ⟨gZ', oZ, none⟩) 20 pZ')).setCell ⟨bZ, 1, none⟩ (.int .i64 0) = W2 at *
                go_wp2_with fail
                go_meet
                case rel => exact ⟨bY, bZ, gY, oY, pY, gZ', oZ, pZ', rfl, rfl, hS2, hY2, hZ2, hRY2, hRZ2⟩
              · skip
                refine Till.opT_new (ob := .cells #[.slice none 0 0, .int .i64 0] 27) rfl rfl rfl (by go_simp) (fun bZ v21 hbZ hw => ?_)
                have hbel : Below v18.heap.size v18 v21 := by rw [hw]; exact (Below.refl _ _).alloc (Nat.le_refl _) _
                have hXZ : XB v21 bZ (.slice none 0 0) (.int .i64 0) := by rw [hw, hbZ]; exact XB.made _ _ _ _
                have hltZ : bZ < v21.heap.size := hXZ.lt
                have hqZ : wq.heap.size ≤ bZ := by rw [hbZ]; exact hB0.size
                have hneYZ : gY ≠ bZ := by omega
                have hbb : bY ≠ bZ := by omega
                clear hw
                clear hbZ
                have hBn := hB0.trans (hbel.mono hB0.size)
                clear hB0
                have hB0 := hBn
                clear hBn
                have hSn := FB.out _ _ hSS hbel
                clear hSS
                have hSS := hSn
                clear hSn
                have hn := hRY.below hbel
                clear hRY
                have hRY := hn
                clear hn
                have hn : gY < v21.heap.size := Nat.lt_of_lt_of_le hgY hbel.size
                clear hgY
                have hgY := hn
                clear hn
                have hn := hXY.below hbel
                clear hXY
                have hXY := hn
                clear hn
                have hn : bY < v21.heap.size := hXY.lt
                clear hltY
                have hltY := hn
                clear hn
                clear hbel
                refine ⟨fun _ => hSS, ?_⟩
                simp only [Act.put, List.getElem_toArray, List.getElem_cons_zero, List.getElem_cons_succ, List.setIfInBounds_toArray, List.set_cons_zero, List.set_cons_succ]
                refine Till.one (i := 8) (by kernel_rfl) ?_
                refine Till.opT_call (f := 5) (args := #[.string sb, .int .i64 hneed, .int .i64 20, .string rH]) rfl rfl rfl (by go_simp) ?_
                have hcon := implSplit_any sb rH hneed 20 v21 mB mR
                rw [HSP2.out] at hcon
                refine Calls.mono hcon ?_
                clear hcon
                rintro e v22 ⟨aN, kN, pN, rfl, ho, hb⟩
                dsimp only
                have hkN : lZ.length = kN := shares_len ho
                obtain rfl : kN = 20 := by have := HLL.out; omega
                have hRN := HR.own ho
                obtain ⟨gN, oN, haN, hgN, _, _⟩ := HR.at hRN (show 0 < 20 by decide)
                subst haN
                have hgl : v21.heap.size ≤ gN := (ho.lt gN rfl).1
                clear ho hkN
                have hBn := hB0.trans (hb.mono hB0.size)
                clear hB0
                have hB0 := hBn
                clear hBn
                have hSn := FB.out _ _ hSS hb
                clear hSS
                have hSS := hSn
                clear hSn
                have hn := hRY.below hb
                clear hRY
                have hRY := hn
                clear hn
                have hn : gY < v22.heap.size := Nat.lt_of_lt_of_le hgY hb.size
                clear hgY
                have hgY := hn
                clear hn
                have hn := hXY.below hb
                clear hXY
                have hXY := hn
                clear hn
                have hn := hXZ.below hb
                clear hXZ
                have hXZ := hn
                clear hn
                clear hb
                obtain ⟨gZ', oZ, pZ', hRZ, hgZ, hglZ⟩ : ∃ g o p, HR v22 (some ⟨g, o, none⟩) 20 p lZ ∧ g < v22.heap.size ∧ (g = gN ∧ o = oN ∧ p = pN) := ⟨gN, oN, pN, hRN, hgN, rfl, rfl, rfl⟩
                obtain ⟨rfl, rfl, rfl⟩ := hglZ
                clear hRN hgN
                have hneZY : gZ' ≠ bY := by have := hltY; omega
                have hneZZ : gZ' ≠ bZ := by have := hltZ; omega
                have hn : bY < v22.heap.size := hXY.lt
                clear hltY
                have hltY := hn
                clear hn
                have hn : bZ < v22.heap.size := hXZ.lt
                clear hltZ
                have hltZ := hn
                clear hn
                clear hgl
                refine ⟨_, rfl, fun _ => hSS, ?_⟩
                simp only [Act.put, List.getElem_toArray, List.getElem_cons_zero, List.getElem_cons_succ, List.setIfInBounds_toArray, List.set_cons_zero, List.set_cons_succ]
                have hbz : bZ ≠ bY := Ne.symm hbb
                have hY1 := hXY.put (u := .slice (some ⟨gY, oY, none⟩) 20 pY) (v := .int .i64 0)
                have hZa := hXZ.other (i := 0) (v := .slice (some ⟨gY, oY, none⟩) 20 pY) hbz
                have hZ1 := hZa.other (i := 1) (v := .int .i64 0) hbz
                have hB1 := (hB0.setCell (p := ⟨bY, 0, none⟩) hqY (.slice (some ⟨gY, oY, none⟩) 20 pY)).setCell (p := ⟨bY, 1, none⟩) hqY (.int .i64 0)
                have hRYa := HR.set (i := 0) (v := .slice (some ⟨gY, oY, none⟩) 20 pY) hRY hneYY
                have hRY1 := HR.set (i := 1) (v := .int .i64 0) hRYa hneYY
                have hRZa := HR.set (i := 0) (v := .slice (some ⟨gY, oY, none⟩) 20 pY) hRZ hneZY
                have hRZ1 := HR.set (i := 1) (v := .int .i64 0) hRZa hneZY
                have hS1 := FB.out _ _ hSQ hB1
                have y0 := hXY.c0
                have y1 := hXY.c1
                have yz0 := hXY.z0
                have yz1 := hXY.z1
                clear hZa hRYa hRZa hRY hRZ hXY hXZ hB0 hSS hneYY hneZY
                refine Till.skip (i := 11) (w' := (v22.setCell ⟨bY, 0, none⟩ (.slice (some ⟨gY, oY, none⟩) 20 pY)).setCell ⟨bY, 1, none⟩ (.int .i64 0)) (by kernel_rfl) rfl rfl rfl (by go_simp) (fun _ => hS1) ?_
                simp only [Act.put, List.getElem_toArray, List.getElem_cons_zero, List.getElem_cons_succ, List.setIfInBounds_toArray, List.set_cons_zero, List.set_cons_succ]
                clear y0 y1 yz0 yz1
                generalize (v22.setCell ⟨bY, 0, none⟩ (.slice (some ⟨gY, oY, none⟩) 20 pY)).setCell ⟨bY, 1, none⟩ (.int .i64 0) = W1 at *
                have hZ2 := hZ1.put (u := .slice (some ⟨gZ', oZ, none⟩) 20 pZ') (v := .int .i64 0)
                have hYa := hY1.other (i := 0) (v := .slice (some ⟨gZ', oZ, none⟩) 20 pZ') hbb
                have hY2 := hYa.other (i := 1) (v := .int .i64 0) hbb
                have hB2 := (hB1.setCell (p := ⟨bZ, 0, none⟩) hqZ (.slice (some ⟨gZ', oZ, none⟩) 20 pZ')).setCell (p := ⟨bZ, 1, none⟩) hqZ (.int .i64 0)
                have hRYa := HR.set (i := 0) (v := .slice (some ⟨gZ', oZ, none⟩) 20 pZ') hRY1 hneYZ
                have hRY2 := HR.set (i := 1) (v := .int .i64 0) hRYa hneYZ
                have hRZa := HR.set (i := 0) (v := .slice (some ⟨gZ', oZ, none⟩) 20 pZ') hRZ1 hneZZ
                have hRZ2 := HR.set (i := 1) (v := .int .i64 0) hRZa hneZZ
                have hS2 := FB.out _ _ hSQ hB2
                have y0 := hZ1.c0
                have y1 := hZ1.c1
                have yz0 := hZ1.z0
                have yz1 := hZ1.z1
                clear hYa hRYa hRZa hRY1 hRZ1 hY1 hZ1 hB1 hS1 hSQ hB2
                refine Till.skip (i := 12) (w' := (W1.setCell ⟨bZ, 0, none⟩ (.slice (some ⟨gZ', oZ, none⟩) 20 pZ')).setCell ⟨bZ, 1, none⟩ (.int .i64 0)) (by kernel_rfl) rfl rfl rfl (by go_simp) (fun h => absurd rfl h) ?_
                simp only [Act.put, List.getElem_toArray, List.getElem_cons_zero, List.getElem_cons_succ, List.setIfInBounds_toArray, List.set_cons_zero, List.set_cons_succ]
                clear y0 y1 yz0 yz1
                refine Till.done (by kernel_rfl) ?_ _
                generalize (W1.setCell ⟨bZ, 0, none⟩ (.slice (some ⟨gZ', oZ, none⟩) 20 pZ')).setCell ⟨bZ, 1, none⟩ (.int .i64 0) = W2 at *
                go_wp2_with fail
                go_meet
                case rel => exact ⟨bY, bZ, gY, oY, pY, gZ', oZ, pZ', rfl, rfl, hS2, hY2, hZ2, hRY2, hRZ2⟩
            · skip
              refine Till.opT_new (ob := .cells #[.slice none 0 0, .int .i64 0] 27) rfl rfl rfl (by go_simp) (fun bZ v23 hbZ hw => ?_)
              have hbel : Below v17.heap.size v17 v23 := by rw [hw]; exact (Below.refl _ _).alloc (Nat.le_refl _) _
              have hXZ : XB v23 bZ (.slice none 0 0) (.int .i64 0) := by rw [hw, hbZ]; exact XB.made _ _ _ _
              have hltZ : bZ < v23.heap.size := hXZ.lt
              have hqZ : wq.heap.size ≤ bZ := by rw [hbZ]; exact hB0.size
              have hbb : bY ≠ bZ := by omega
              clear hw
              clear hbZ
              have hBn := hB0.trans (hbel.mono hB0.size)
              clear hB0
              have hB0 := hBn
              clear hBn
              have hSn := FB.out _ _ hSS hbel
              clear hSS
              have hSS := hSn
              clear hSn
              have hn := hXY.below hbel
              clear hXY
              have hXY := hn
              clear hn
              have hn : bY < v23.heap.size := hXY.lt
              clear hltY
              have hltY := hn
              clear hn
              clear hbel
              refine ⟨fun _ => hSS, ?_⟩
              simp only [Act.put, List.getElem_toArray, List.getElem_cons_zero, List.getElem_cons_succ, List.setIfInBounds_toArray, List.set_cons_zero, List.set_cons_succ]
              refine Till.one (i := 3) (by kernel_rfl) ?_
              refine Till.opT_call (f := 5) (args := #[.string sa, .int .i64 hneed, .int .i64 20, .string sd]) rfl rfl rfl (by go_simp) ?_
              have hcon := implSplit_any sa sd hneed 20 v23 mA mSD
              rw [HSP1.out] at hcon
              refine Calls.mono hcon ?_
              clear hcon
              rintro e v24 ⟨aN, kN, pN, rfl, ho, hb⟩
              dsimp only
              have hkN : lY.length = kN := shares_len ho
              obtain rfl : kN = 20 := by have := HLL.out; omega
              have hRN := HR.own ho
              obtain ⟨gN, oN, haN, hgN, _, _⟩ := HR.at hRN (show 0 < 20 by decide)
              subst haN
              have hgl : v23.heap.size ≤ gN := (ho.lt gN rfl).1
              clear ho hkN
              have hBn := hB0.trans (hb.mono hB0.size)
              clear hB0
              have hB0 := hBn
              clear hBn
              have hSn := FB.out _ _ hSS hb
              clear hSS
              have hSS := hSn
              clear hSn
              have hn := hXY.below hb
              clear hXY
              have hXY := hn
              clear hn
              have hn := hXZ.below hb
              clear hXZ
              have hXZ := hn
              clear hn
              clear hb
              obtain ⟨gY, oY, pY, hRY, hgY, hglY⟩ : ∃ g o p, HR v24 (some ⟨g, o, none⟩) 20 p lY ∧ g < v24.heap.size ∧ (g = gN ∧ o = oN ∧ p = pN) := ⟨gN, oN, pN, hRN, hgN, rfl, rfl, rfl⟩
              obtain ⟨rfl, rfl, rfl⟩ := hglY
              clear hRN hgN
              have hneYY : gY ≠ bY := by have := hltY; omega
              have hneYZ : gY ≠ bZ := by have := hltZ; omega
              have hn : bY < v24.heap.size := hXY.lt
              clear hltY
              have hltY := hn
              clear hn
              have hn : bZ < v24.heap.size := hXZ.lt
              clear hltZ
              have hltZ := hn
              clear hn
              clear hgl
              refine ⟨_, rfl, fun _ => hSS, ?_⟩
              simp only [Act.put, List.getElem_toArray, List.getElem_cons_zero, List.getElem_cons_succ, List.setIfInBounds_toArray, List.set_cons_zero, List.set_cons_succ]
              refine Till.one (i := 8) (by kernel_rfl) ?_
              refine Till.opT_call (f := 5) (args := #[.string sb, .int .i64 hneed, .int .i64 20, .string rH]) rfl rfl rfl (by go_simp) ?_
              have hcon := implSplit_any sb rH hneed 20 v24 mB mR
              rw [HSP2.out] at hcon
              refine Calls.mono hcon ?_
              clear hcon
              rintro e v25 ⟨aN, kN, pN, rfl, ho, hb⟩
              dsimp only
              have hkN : lZ.length = kN := shares_len ho
              obtain rfl : kN = 20 := by have := HLL.out; omega
              have hRN := HR.own ho
              obtain ⟨gN, oN, haN, hgN, _, _⟩ := HR.at hRN (show 0 < 20 by decide)
              subst haN
              have hgl : v24.heap.size ≤ gN := (ho.lt gN rfl).1
              clear ho hkN
              have hBn := hB0.trans (hb.mono hB0.size)
              clear hB0
              have hB0 := hBn
              clear hBn
              have hSn := FB.out _ _ hSS hb
              clear hSS
              have hSS := hSn
              clear hSn
              have hn := hRY.below hb
              clear hRY
              have hRY := hn
              clear hn
              have hn : gY < v25.heap.size := Nat.lt_of_lt_of_le hgY hb.size
              clear hgY
              have hgY := hn
              clear hn
              have hn := hXY.below hb
              clear hXY
              have hXY := hn
              clear hn
              have hn := hXZ.below hb
              clear hXZ
              have hXZ := hn
              clear hn
              clear hb
              obtain ⟨gZ', oZ, pZ', hRZ, hgZ, hglZ⟩ : ∃ g o p, HR v25 (some ⟨g, o, none⟩) 20 p lZ ∧ g < v25.heap.size ∧ (g = gN ∧ o = oN ∧ p = pN) := ⟨gN, oN, pN, hRN, hgN, rfl, rfl, rfl⟩
              obtain ⟨rfl, rfl, rfl⟩ := hglZ
              clear hRN hgN
              have hneZY : gZ' ≠ bY := by have := hltY; omega
              have hneZZ : gZ' ≠ bZ := by have := hltZ; omega
              have hn : bY < v25.heap.size := hXY.lt
              clear hltY
              have hltY := hn
              clear hn
              have hn : bZ < v25.heap.size := hXZ.lt
              clear hltZ
              have hltZ := hn
              clear hn
              clear hgl
              refine ⟨_, rfl, fun _ => hSS, ?_⟩
              simp only [Act.put, List.getElem_toArray, List.getElem_cons_zero, List.getElem_cons_succ, List.setIfInBounds_toArray, List.set_cons_zero, List.set_cons_succ]
              have hbz : bZ ≠ bY := Ne.symm hbb
              have hY1 := hXY.put (u := .slice (some ⟨gY, oY, none⟩) 20 pY) (v := .int .i64 0)
              have hZa := hXZ.other (i := 0) (v := .slice (some ⟨gY, oY, none⟩) 20 pY) hbz
              have hZ1 := hZa.other (i := 1) (v := .int .i64 0) hbz
              have hB1 := (hB0.setCell (p := ⟨bY, 0, none⟩) hqY (.slice (some ⟨gY, oY, none⟩) 20 pY)).setCell (p := ⟨bY, 1, none⟩) hqY (.int .i64 0)
              have hRYa := HR.set (i := 0) (v := .slice (some ⟨gY, oY, none⟩) 20 pY) hRY hneYY
              have hRY1 := HR.set (i := 1) (v := .int .i64 0) hRYa hneYY
              have hRZa := HR.set (i := 0) (v := .slice (some ⟨gY, oY, none⟩) 20 pY) hRZ hneZY
              have hRZ1 := HR.set (i := 1) (v := .int .i64 0) hRZa hneZY
              have hS1 := FB.out _ _ hSQ hB1
              have y0 := hXY.c0
              have y1 := hXY.c1
              have yz0 := hXY.z0
              have yz1 := hXY.z1
              clear hZa hRYa hRZa hRY hRZ hXY hXZ hB0 hSS hneYY hneZY
              refine Till.skip (i := 11) (w' := (v25.setCell ⟨bY, 0, none⟩ (.slice (some ⟨gY, oY, none⟩) 20 pY)).setCell ⟨bY, 1, none⟩ (.int .i64 0)) (by kernel_rfl) rfl rfl rfl (by go_simp) (fun _ => hS1) ?_
              simp only [Act.put, List.getElem_toArray, List.getElem_cons_zero, List.getElem_cons_succ, List.setIfInBounds_toArray, List.set_cons_zero, List.set_cons_succ]
              clear y0 y1 yz0 yz1
              generalize (v25.setCell ⟨bY, 0, none⟩ (.slice (some ⟨gY, oY, none⟩) 20 pY)).setCell ⟨bY, 1, none⟩ (.int .i64 0) = W1 at *
              have hZ2 := hZ1.put (u := .slice (some ⟨gZ', oZ, none⟩) 20 pZ') (v := .int .i64 0)
              have hYa := hY1.other (i := 0) (v := .slice (some ⟨gZ', oZ, none⟩) 20 pZ') hbb
              have hY2 := hYa.other (i := 1) (v := .int .i64 0) hbb
              have hB2 := (hB1.setCell (p := ⟨bZ, 0, none⟩) hqZ (.slice (some ⟨gZ', oZ, none⟩) 20 pZ')).setCell (p := ⟨bZ, 1, none⟩) hqZ (.int .i64 0)
              have hRYa := HR.set (i := 0) (v := .slice (some ⟨gZ', oZ, none⟩) 20 pZ') hRY1 hneYZ
              have hRY2 := HR.set (i := 1) (v := .int .i64 0) hRYa hneYZ
              have hRZa := HR.set (i := 0) (v := .slice (some ⟨gZ', oZ, none⟩) 20 pZ') hRZ1 hneZZ
              have hRZ2 := HR.set (i := 1) (v := .int .i64 0) hRZa hneZZ
              have hS2 := FB.out _ _ hSQ hB2
              have y0 := hZ1.c0
              have y1 := hZ1.c1
              have yz0 := hZ1.z0
              have yz1 := hZ1.z1
              clear hYa hRYa hRZa hRY1 hRZ1 hY1 hZ1 hB1 hS1 hSQ hB2
              refine Till.skip (i := 12) (w' := (W1.setCell ⟨bZ, 0, none⟩ (.slice (some ⟨gZ', oZ, none⟩) 20 pZ')).setCell ⟨bZ, 1, none⟩ (.int .i64 0)) (by kernel_rfl) rfl rfl rfl (by go_simp) (fun h => absurd rfl h) ?_
              simp only [Act.put, List.getElem_toArray, List.getElem_cons_zero, List.getElem_cons_succ, List.setIfInBounds_toArray, List.set_cons_zero, List.set_cons_succ]
              clear y0 y1 yz0 yz1
              refine Till.done (by kernel_rfl) ?_ _
              generalize (W1.setCell ⟨bZ, 0, none⟩ (.slice (some ⟨gZ', oZ, none⟩) 20 pZ')).setCell ⟨bZ, 1, none⟩ (.int .i64 0) = W2 at *
              go_wp2_with fail
              go_meet
              case rel => exact ⟨bY, bZ, gY, oY, pY, gZ', oZ, pZ', rfl, rfl, hS2, hY2, hZ2, hRY2, hRZ2⟩
          · skip
            refine Till.opT_new (ob := .cells #[.slice none 0 0, .int .i64 0] 27) rfl rfl rfl (by go_simp) (fun bZ v26 hbZ hw => ?_)
            have hbel : Below wq.heap.size wq v26 := by rw [hw]; exact (Below.refl _ _).alloc (Nat.le_refl _) _
            have hXZ : XB v26 bZ (.slice none 0 0) (.int .i64 0) := by rw [hw, hbZ]; exact XB.made _ _ _ _
            have hltZ : bZ < v26.heap.size := hXZ.lt
            have hqZ : wq.heap.size ≤ bZ := by rw [hbZ]; exact hB0.size
            clear hw
            clear hbZ
            have hBn := hB0.trans (hbel.mono hB0.size)
            clear hB0
            have hB0 := hBn
            clear hBn
            have hSn := FB.out _ _ hSS hbel
            clear hSS
            have hSS := hSn
            clear hSn
            clear hbel
            refine ⟨fun _ => hSS, ?_⟩
            simp only [Act.put, List.getElem_toArray, List.getElem_cons_zero, List.getElem_cons_succ, List.setIfInBounds_toArray, List.set_cons_zero, List.set_cons_succ]
            refine Till.two (i := 3) (j := 9) (by kernel_rfl) ?_ ?_
            · skip
              refine Till.opT_call (f := 5) (args := #[.string sa, .int .i64 hneed, .int .i64 20, .string sd]) rfl rfl rfl (by go_simp) ?_
              have hcon := implSplit_any sa sd hneed 20 v26 mA mSD
              rw [HSP1.out] at hcon
              refine Calls.mono hcon ?_
              clear hcon
              rintro e v27 ⟨aN, kN, pN, rfl, ho, hb⟩
              dsimp only
              have hkN : lY.length = kN := shares_len ho
              obtain rfl : kN = 20 := by have := HLL.out; omega
              have hRN := HR.own ho
              obtain ⟨gN, oN, haN, hgN, _, _⟩ := HR.at hRN (show 0 < 20 by decide)
              subst haN
              have hgl : v26.heap.size ≤ gN := (ho.lt gN rfl).1
              clear ho hkN
              have hBn := hB0.trans (hb.mono hB0.size)
              clear hB0
              have hB0 := hBn
              clear hBn
              have hSn := FB.out _ _ hSS hb
              clear hSS
              have hSS := hSn
              clear hSn
              have hn := hXZ.below hb
              clear hXZ
              have hXZ := hn
              clear hn
              clear hb
              obtain ⟨gY, oY, pY, hRY, hgY, hglY⟩ : ∃ g o p, HR v27 (some ⟨g, o, none⟩) 20 p lY ∧ g < v27.heap.size ∧ (g = gN ∧ o = oN ∧ p = pN) := ⟨gN, oN, pN, hRN, hgN, rfl, rfl, rfl⟩
              obtain ⟨rfl, rfl, rfl⟩ := hglY
              clear hRN hgN
              have hneYZ : gY ≠ bZ := by have := hltZ; omega
              have hn : bZ < v27.heap.size := hXZ.lt
              clear hltZ
              have hltZ := hn
              clear hn
              clear hgl
              refine ⟨_, rfl, fun _ => hSS, ?_⟩
              simp only [Act.put, List.getElem_toArray, List.getElem_cons_zero, List.getElem_cons_succ, List.setIfInBounds_toArray, List.set_cons_zero, List.set_cons_succ]
              refine Till.two (i := 8) (j := 9) (by kernel_rfl) ?_ ?_
              · skip
                refine Till.opT_call (f := 5) (args := #[.string sb, .int .i64 hneed, .int .i64 20, .string rH]) rfl rfl rfl (by go_simp) ?_
                have hcon := implSplit_any sb rH hneed 20 v27 mB mR
                rw [HSP2.out] at hcon
                refine Calls.mono hcon ?_
                clear hcon
                rintro e v28 ⟨aN, kN, pN, rfl, ho, hb⟩
                dsimp only
                have hkN : lZ.length = kN := shares_len ho
                obtain rfl : kN = 20 := by have := HLL.out; omega
                have hRN := HR.own ho
                obtain ⟨gN, oN, haN, hgN, _, _⟩ := HR.at hRN (show 0 < 20 by decide)
                subst haN
                have hgl : v27.heap.size ≤ gN := (ho.lt gN rfl).1
                clear ho hkN
                have hBn := hB0.trans (hb.mono hB0.size)
                clear hB0
                have hB0 := hBn
                clear hBn
                have hSn := FB.out _ _ hSS hb
                clear hSS
                have hSS := hSn
                clear hSn
                have hn := hRY.below hb
                clear hRY
                have hRY := hn
                clear hn
                have hn : gY < v28.heap.size := Nat.lt_of_lt_of_le hgY hb.size
                clear hgY
                have hgY := hn
                clear hn
                have hn := hXZ.below hb
                clear hXZ
                have hXZ := hn
                clear hn
                clear hb
                obtain ⟨gZ', oZ, pZ', hRZ, hgZ, hglZ⟩ : ∃ g o p, HR v28 (some ⟨g, o, none⟩) 20 p lZ ∧ g < v28.heap.size ∧ (g = gN ∧ o = oN ∧ p = pN) := ⟨gN, oN, pN, hRN, hgN, rfl, rfl, rfl⟩
                obtain ⟨rfl, rfl, rfl⟩ := hglZ
                clear hRN hgN
                have hneZZ : gZ' ≠ bZ := by have := hltZ; omega
                have hn : bZ < v28.heap.size := hXZ.lt
                clear hltZ
                have hltZ := hn
                clear hn
                clear hgl
                refine ⟨_, rfl, fun _ => hSS, ?_⟩
                simp only [Act.put, List.getElem_toArray, List.getElem_cons_zero, List.getElem_cons_succ, List.setIfInBounds_toArray, List.set_cons_zero, List.set_cons_succ]
                refine Till.one (i := 9) (by kernel_rfl) ?_
                refine Till.opT_new (ob := .cells #[.slice none 0 0, .int .i64 0] 27) rfl rfl rfl (by go_simp) (fun bY v29 hbY hw => ?_)
                have hbel : Below v28.heap.size v28 v29 := by rw [hw]; exact (Below.refl _ _).alloc (Nat.le_refl _) _
                have hXY : XB v29 bY (.slice none 0 0) (.int .i64 0) := by rw [hw, hbY]; exact XB.made _ _ _ _
                have hltY : bY < v29.heap.size := hXY.lt
                have hqY : wq.heap.size ≤ bY := by rw [hbY]; exact hB0.size
                have hneYY : gY ≠ bY := by omega
                have hneZY : gZ' ≠ bY := by omega
                have hbb : bY ≠ bZ := by omega
                clear hw
                clear hbY
                have hBn := hB0.trans (hbel.mono hB0.size)
                clear hB0
                have hB0 := hBn
                clear hBn
                have hSn := FB.out _ _ hSS hbel
                clear hSS
                have hSS := hSn
                clear hSn
                have hn := hRY.below hbel
                clear hRY
                have hRY := hn
                clear hn
                have hn : gY < v29.heap.size := Nat.lt_of_lt_of_le hgY hbel.size
                clear hgY
                have hgY := hn
                clear hn
                have hn := hRZ.below hbel
                clear hRZ
                have hRZ := hn
                clear hn
                have hn : gZ' < v29.heap.size := Nat.lt_of_lt_of_le hgZ hbel.size
                clear hgZ
                have hgZ := hn
                clear hn
                have hn := hXZ.below hbel
                clear hXZ
                have hXZ := hn
                clear hn
                have hn : bZ < v29.heap.size := hXZ.lt
                clear hltZ
                have hltZ := hn
                clear hn
                clear hbel
                refine ⟨fun _ => hSS, ?_⟩
                simp only [Act.put, List.getElem_toArray, List.getElem_cons_zero, List.getElem_cons_succ, List.setIfInBounds_toArray, List.set_cons_zero, List.set_cons_succ]
                have hbz : bZ ≠ bY := Ne.symm hbb
                have hY1 := hXY.put (u := .slice (some ⟨gY, oY, none⟩) 20 pY) (v := .int .i64 0)
                have hZa := hXZ.other (i := 0) (v := .slice (some ⟨gY, oY, none⟩) 20 pY) hbz
                have hZ1 := hZa.other (i := 1) (v := .int .i64 0) hbz
                have hB1 := (hB0.setCell (p := ⟨bY, 0, none⟩) hqY (.slice (some ⟨gY, oY, none⟩) 20 pY)).setCell (p := ⟨bY, 1, none⟩) hqY (.int .i64 0)
                have hRYa := HR.set (i := 0) (v := .slice (some ⟨gY, oY, none⟩) 20 pY) hRY hneYY
                have hRY1 := HR.set (i := 1) (v := .int .i64 0) hRYa hneYY
                have hRZa := HR.set (i := 0) (v := .slice (some ⟨gY, oY, none⟩) 20 pY) hRZ hneZY
                have hRZ1 := HR.set (i := 1) (v := .int .i64 0) hRZa hneZY
                have hS1 := FB.out _ _ hSQ hB1
                have y0 := hXY.c0
                have y1 := hXY.c1
                have yz0 := hXY.z0
                have yz1 := hXY.z1
                clear hZa hRYa hRZa hRY hRZ hXY hXZ hB0 hSS hneYY hneZY
                refine Till.skip (i := 11) (w' := (v29.setCell ⟨bY, 0, none⟩ (.slice (some ⟨gY, oY, none⟩) 20 pY)).setCell ⟨bY, 1, none⟩ (.int .i64 0)) (by kernel_rfl) rfl rfl rfl (by go_simp) (fun _ => hS1) ?_
                simp only [Act.put, List.getElem_toArray, List.getElem_cons_zero, List.getElem_cons_succ, List.setIfInBounds_toArray, List.set_cons_zero, List.set_cons_succ]
                clear y0 y1 yz0 yz1
                generalize (v29.setCell ⟨bY, 0, none⟩ (.slice (some ⟨gY, oY, none⟩) 20 pY)).setCell ⟨bY, 1, none⟩ (.int .i64 0) = W1 at *
                have hZ2 := hZ1.put (u := .slice (some ⟨gZ', oZ, none⟩) 20 pZ') (v := .int .i64 0)
                have hYa := hY1.other (i := 0) (v := .slice (some ⟨gZ', oZ, none⟩) 20 pZ') hbb
                have hY2 := hYa.other (i := 1) (v := .int .i64 0) hbb
                have hB2 := (hB1.setCell (p := ⟨bZ, 0, none⟩) hqZ (.slice (some ⟨gZ', oZ, none⟩) 20 pZ')).setCell (p := ⟨bZ, 1, none⟩) hqZ (.int .i64 0)
                have hRYa := HR.set (i := 0) (v := .slice (some ⟨gZ', oZ, none⟩) 20 pZ') hRY1 hneYZ
                have hRY2 := HR.set (i := 1) (v := .int .i64 0) hRYa hneYZ
                have hRZa := HR.set (i := 0) (v := .slice (some ⟨gZ', oZ, none⟩) 20 pZ') hRZ1 hneZZ
                have hRZ2 := HR.set (i := 1) (v := .int .i64 0) hRZa hneZZ
                have hS2 := FB.out _ _ hSQ hB2
                have y0 := hZ1.c0
                have y1 := hZ1.c1
                have yz0 := hZ1.z0
                have yz1 := hZ1.z1
                clear hYa hRYa hRZa hRY1 hRZ1 hY1 hZ1 hB1 hS1 hSQ hB2
                refine Till.skip (i := 12) (w' := (W1.setCell ⟨bZ, 0, none⟩ (.slice (some ⟨gZ', oZ, none⟩) 20 pZ')).setCell ⟨bZ, 1, none⟩ (.int .i64 0)) (by kernel_rfl) rfl rfl rfl (by go_simp) (fun h => absurd rfl h) ?_
                simp only [Act.put, List.getElem_toArray, List.getElem_cons_zero, List.getElem_cons_succ, List.setIfInBounds_toArray, List.set_cons_zero, List.set_cons_succ]
                clear y0 y1 yz0 yz1
                refine Till.done (by kernel_rfl) ?_ _
                generalize (W1.setCell ⟨bZ, 0, none⟩ (.slice (some ⟨gZ', oZ, none⟩) 20 pZ')).setCell ⟨bZ, 1, none⟩ (.int .i64 0) = W2 at *
                go_wp2_with fail
                go_meet
                case rel => exact ⟨bY, bZ, gY, oY, pY, gZ', oZ, pZ', rfl, rfl, hS2, hY2, hZ2, hRY2, hRZ2⟩
              · skip
                refine Till.opT_new (ob := .cells #[.slice none 0 0, .int .i64 0] 27) rfl rfl rfl (by go_simp) (fun bY v30 hbY hw => ?_)
                have hbel : Below v27.heap.size v27 v30 := by rw [hw]; exact (Below.refl _ _).alloc (Nat.le_refl _) _
                have hXY : XB v30 bY (.slice none 0 0) (.int .i64 0) := by rw [hw, hbY]; exact XB.made _ _ _ _
                have hltY : bY < v30.heap.size := hXY.lt
                have hqY : wq.heap.size ≤ bY := by rw [hbY]; exact hB0.size
                have hneYY : gY ≠ bY := by omega
                have hbb : bY ≠ bZ := by omega
                clear hw
                clear hbY
                have hBn := hB0.trans (hbel.mono hB0.size)
                clear hB0
                have hB0 := hBn
                clear hBn
                have hSn := FB.out _ _ hSS hbel
                clear hSS
                have hSS := hSn
                clear hSn
                have hn := hRY.below hbel
                clear hRY
                have hRY := hn
                clear hn
                have hn : gY < v30.heap.size := Nat.lt_of_lt_of_le hgY hbel.size
                clear hgY
                have hgY := hn
                clear hn
                have hn := hXZ.below hbel
                clear hXZ
                have hXZ := hn
                clear hn
                have hn : bZ < v30.heap.size := hXZ.lt
                clear hltZ
                have hltZ := hn
                clear hn
                clear hbel
                refine ⟨fun _ => hSS, ?_⟩
                simp only [Act.put, List.getElem_toArray, List.getElem_cons_zero, List.getElem_cons_succ, List.setIfInBounds_toArray, List.set_cons_zero, List.set_cons_succ]
                refine Till.one (i := 8) (by kernel_rfl) ?_
                refine Till.opT_call (f := 5) (args := #[.string sb, .int .i64 hneed, .int .i64 20, .string rH]) rfl rfl rfl (by go_simp) ?_
                have hcon := implSplit_any sb rH hneed 20 v30 mB mR
                rw [HSP2.out] at hcon
                refine Calls.mono hcon ?_
                clear hcon
                rintro e v31 ⟨aN, kN, pN, rfl, ho, hb⟩
                dsimp only
                have hkN : lZ.length = kN := shares_len ho
                obtain rfl : kN = 20 := by have := HLL.out; omega
                have hRN := HR.own ho
                obtain ⟨gN, oN, haN, hgN, _, _⟩ := HR.at hRN (show 0 < 20 by decide)
                subst haN
                have hgl : v30.heap.size ≤ gN := (ho.lt gN rfl).1
                clear ho hkN
                have hBn := hB0.trans (hb.mono hB0.size)
                clear hB0
                have hB0 := hBn
                clear hBn
                have hSn := FB.out _ _ hSS hb
                clear hSS
                have hSS := hSn
                clear hSn
                have hn := hRY.below hb
                clear hRY
                have hRY := hn
                clear hn
                have hn : gY < v31.heap.size := Nat.lt_of_lt_of_le hgY hb.size
                clear hgY
                have hgY := hn
                clear hn
                have hn := hXY.below hb
                clear hXY
                have hXY := hn
                clear hn
                have hn := hXZ.below hb
                clear hXZ
                have hXZ := hn
                clear hn
                clear hb
                obtain ⟨gZ', oZ, pZ', hRZ, hgZ, hglZ⟩ : ∃ g o p, HR v31 (some ⟨g, o, none⟩) 20 p lZ ∧ g < v31.heap.size ∧ (g = gN ∧ o = oN ∧ p = pN) := ⟨gN, oN, pN, hRN, hgN, rfl, rfl, rfl⟩
                obtain ⟨rfl, rfl, rfl⟩ := hglZ
                clear hRN hgN
                have hneZY : gZ' ≠ bY := by have := hltY; omega
                have hneZZ : gZ' ≠ bZ := by have := hltZ; omega
                have hn : bY < v31.heap.size := hXY.lt
                clear hltY
                have hltY := hn
                clear hn
                have hn : bZ < v31.heap.size := hXZ.lt
                clear hltZ
                have hltZ := hn
                clear hn
                clear hgl
                refine ⟨_, rfl, fun _ => hSS, ?_⟩
                simp only [Act.put, List.getElem_toArray, List.getElem_cons_zero, List.getElem_cons_succ, List.setIfInBounds_toArray, List.set_cons_zero, List.set_cons_succ]
                have hbz : bZ ≠ bY := Ne.symm hbb
                have hY1 := hXY.put (u := .slice (some ⟨gY, oY, none⟩) 20 pY) (v := .int .i64 0)
                have hZa := hXZ.other (i := 0) (v := .slice (some ⟨gY, oY, none⟩) 20 pY) hbz
                have hZ1 := hZa.other (i := 1) (v := .int .i64 0) hbz
                have hB1 := (hB0.setCell (p := ⟨bY, 0, none⟩) hqY (.slice (some ⟨gY, oY, none⟩) 20 pY)).setCell (p := ⟨bY, 1, none⟩) hqY (.int .i64 0)
                have hRYa := HR.set (i := 0) (v := .slice (some ⟨gY, oY, none⟩) 20 pY) hRY hneYY
                have hRY1 := HR.set (i := 1) (v := .int .i64 0) hRYa hneYY
                have hRZa := HR.set (i := 0) (v := .slice (some ⟨gY, oY, none⟩) 20 pY) hRZ hneZY
                have hRZ1 := HR.set (i := 1) (v := .int .i64 0) hRZa hneZY
                have hS1 := FB.out _ _ hSQ hB1
                have y0 := hXY.c0
                have y1 := hXY.c1
                have yz0 := hXY.z0
                have yz1 := hXY.z1
                clear hZa hRYa hRZa hRY hRZ hXY hXZ hB0 hSS hneYY hneZY
                refine Till.skip (i := 11) (w' := (v31.setCell ⟨bY, 0, none⟩ (.slice (some ⟨gY, oY, none⟩) 20 pY)).setCell ⟨bY, 1, none⟩ (.int .i64 0)) (by kernel_rfl) rfl rfl rfl (by go_simp) (fun _ => hS1) ?_
                simp only [Act.put, List.getElem_toArray, List.getElem_cons_zero, List.getElem_cons_succ, List.setIfInBounds_toArray, List.set_cons_zero, List.set_cons_succ]
                clear y0 y1 yz0 yz1
                generalize (v31.setCell ⟨bY, 0, none⟩ (.slice (some ⟨gY, oY, none⟩) 20 pY)).setCell ⟨bY, 1, none⟩ (.int .i64 0) = W1 at *
                have hZ2 := hZ1.put (u := .slice (some ⟨gZ', oZ, none⟩) 20 pZ') (v := .int .i64 0)
                have hYa := hY1.other (i := 0) (v := .slice (some ⟨gZ', oZ, none⟩) 20 pZ') hbb
                have hY2 := hYa.other (i := 1) (v := .int .i64 0) hbb
                have hB2 := (hB1.setCell (p := ⟨bZ, 0, none⟩) hqZ (.slice (some ⟨gZ', oZ, none⟩) 20 pZ')).setCell (p := ⟨bZ, 1, none⟩) hqZ (.int .i64 0)
                have hRYa := HR.set (i := 0) (v := .slice (some ⟨gZ', oZ, none⟩) 20 pZ') hRY1 hneYZ
                have hRY2 := HR.set (i := 1) (v := .int .i64 0) hRYa hneYZ
                have hRZa := HR.set (i := 0) (v := .slice (some ⟨gZ', oZ, none⟩) 20 pZ') hRZ1 hneZZ
                have hRZ2 := HR.set (i := 1) (v := .int .i64 0) hRZa hneZZ
                have hS2 := FB.out _ _ hSQ hB2
                have y0 := hZ1.c0
                have y1 := hZ1.c1
                have yz0 := hZ1.z0
                have yz1 := hZ1.z1
                clear hYa hRYa hRZa hRY1 hRZ1 hY1 hZ1 hB1 hS1 hSQ hB2
                refine Till.skip (i := 12) (w' := (W1.setCell ⟨bZ, 0, none⟩ (.slice (some ⟨gZ', oZ, none⟩) 20 pZ')).setCell ⟨bZ, 1, none⟩ (.int .i64 0)) (by kernel_rfl) rfl rfl rfl (by go_simp) (fun h => absurd rfl h) ?_
                simp only [Act.put, List.getElem_toArray, List.getElem_cons_zero, List.getElem_cons_succ, List.setIfInBounds_toArray, List.set_cons_zero, List.set_cons_succ]
                clear y0 y1 yz0 yz1
                refine Till.done (by kernel_rfl) ?_ _
                generalize (W1.setCell ⟨bZ, 0, none⟩ (.slice (some ⟨gZ', oZ, none⟩) 20 pZ')).setCell ⟨bZ, 1, none⟩ (.int .i64 0) = W2 at *
                go_wp2_with fail
                go_meet
                case rel => exact ⟨bY, bZ, gY, oY, pY, gZ', oZ, pZ', rfl, rfl, hS2, hY2, hZ2, hRY2, hRZ2⟩
            · skip
              refine Till.opT_new (ob := .cells #[.slice none 0 0, .int .i64 0] 27) rfl rfl rfl (by go_simp) (fun bY v32 hbY hw => ?_)
              have hbel : Below v26.heap.size v26 v32 := by rw [hw]; exact (Below.refl _ _).alloc (Nat.le_refl _) _
              have hXY : XB v32 bY (.slice none 0 0) (.int .i64 0) := by rw [hw, hbY]; exact XB.made _ _ _ _
              have hltY : bY < v32.heap.size := hXY.lt
              have hqY : wq.heap.size ≤ bY := by rw [hbY]; exact hB0.size
              have hbb : bY ≠ bZ := by omega
              clear hw
              clear hbY
              have hBn := hB0.trans (hbel.mono hB0.size)
              clear hB0
              have hB0 := hBn
              clear hBn
              have hSn := FB.out _ _ hSS hbel
              clear hSS
              have hSS := hSn
              clear hSn
              have hn := hXZ.below hbel
              clear hXZ
              have hXZ := hn
              clear hn
              have hn : bZ < v32.heap.size := hXZ.lt
              clear hltZ
              have hltZ := hn
              clear hn
              clear hbel
              refine ⟨fun _ => hSS, ?_⟩
              simp only [Act.put, List.getElem_toArray, List.getElem_cons_zero, List.getElem_cons_succ, List.setIfInBounds_toArray, List.set_cons_zero, List.set_cons_succ]
              refine Till.one (i := 3) (by kernel_rfl) ?_
              refine Till.opT_call (f := 5) (args := #[.string sa, .int .i64 hneed, .int .i64 20, .string sd]) rfl rfl rfl (by go_simp) ?_
              have hcon := implSplit_any sa sd hneed 20 v32 mA mSD
              rw [HSP1.out] at hcon
              refine Calls.mono hcon ?_
              clear hcon
              rintro e v33 ⟨aN, kN, pN, rfl, ho, hb⟩
              dsimp only
              have hkN : lY.length = kN := shares_len ho
              obtain rfl : kN = 20 := by have := HLL.out; omega
              have hRN := HR.own ho
              obtain ⟨gN, oN, haN, hgN, _, _⟩ := HR.at hRN (show 0 < 20 by decide)
              subst haN
              have hgl : v32.heap.size ≤ gN := (ho.lt gN rfl).1
              clear ho hkN
              have hBn := hB0.trans (hb.mono hB0.size)
              clear hB0
              have hB0 := hBn
              clear hBn
              have hSn := FB.out _ _ hSS hb
              clear hSS
              have hSS := hSn
              clear hSn
              have hn := hXY.below hb
              clear hXY
              have hXY := hn
              clear hn
              have hn := hXZ.below hb
              clear hXZ
              have hXZ := hn
              clear hn
              clear hb
              obtain ⟨gY, oY, pY, hRY, hgY, hglY⟩ : ∃ g o p, HR v33 (some ⟨g, o, none⟩) 20 p lY ∧ g < v33.heap.size ∧ (g = gN ∧ o = oN ∧ p = pN) := ⟨gN, oN, pN, hRN, hgN, rfl, rfl, rfl⟩
              obtain ⟨rfl, rfl, rfl⟩ := hglY
              clear hRN hgN
              have hneYY : gY ≠ bY := by have := hltY; omega
              have hneYZ : gY ≠ bZ := by have := hltZ; omega
              have hn : bY < v33.heap.size := hXY.lt
              clear hltY
              have hltY := hn
              clear hn
              have hn : bZ < v33.heap.size := hXZ.lt
              clear hltZ
              have hltZ := hn
              clear hn
              clear hgl
              refine ⟨_, rfl, fun _ => hSS, ?_⟩
              simp only [Act.put, List.getElem_toArray, List.getElem_cons_zero, List.getElem_cons_succ, List.setIfInBounds_toArray, List.set_cons_zero, List.set_cons_succ]
              refine Till.one (i := 8) (by kernel_rfl) ?_
              refine Till.opT_call (f := 5) (args := #[.string sb, .int .i64 hneed, .int .i64 20, .string rH]) rfl rfl rfl (by go_simp) ?_
              have hcon := implSplit_any sb rH hneed 20 v33 mB mR
              rw [HSP2.out] at hcon
              refine Calls.mono hcon ?_
              clear hcon
              rintro e v34 ⟨aN, kN, pN, rfl, ho, hb⟩
              dsimp only
              have hkN : lZ.length = kN := shares_len ho
              obtain rfl : kN = 20 := by have := HLL.out; omega
              have hRN := HR.own ho
              obtain ⟨gN, oN, haN, hgN, _, _⟩ := HR.at hRN (show 0 < 20 by decide)
              subst haN
              have hgl : v33.heap.size ≤ gN := (ho.lt gN rfl).1
              clear ho hkN
              have hBn := hB0.trans (hb.mono hB0.size)
              clear hB0
              have hB0 := hBn
              clear hBn
              have hSn := FB.out _ _ hSS hb
              clear hSS
              have hSS := hSn
              clear hSn
              have hn := hRY.below hb
              clear hRY
              have hRY := hn
              clear hn
              have hn : gY < v34.heap.size := Nat.lt_of_lt_of_le hgY hb.size
              clear hgY
              have hgY := hn
              clear hn
              have hn := hXY.below hb
              clear hXY
              have hXY := hn
              clear hn
              have hn := hXZ.below hb
              clear hXZ
              have hXZ := hn
              clear hn
              clear hb
              obtain ⟨gZ', oZ, pZ', hRZ, hgZ, hglZ⟩ : ∃ g o p, HR v34 (some ⟨g, o, none⟩) 20 p lZ ∧ g < v34.heap.size ∧ (g = gN ∧ o = oN ∧ p = pN) := ⟨gN, oN, pN, hRN, hgN, rfl, rfl, rfl⟩
              obtain ⟨rfl, rfl, rfl⟩ := hglZ
              clear hRN hgN
              have hneZY : gZ' ≠ bY := by have := hltY; omega
              have hneZZ : gZ' ≠ bZ := by have := hltZ; omega
              have hn : bY < v34.heap.size := hXY.lt
              clear hltY
              have hltY := hn
              clear hn
              have hn : bZ < v34.heap.size := hXZ.lt
              clear hltZ
              have hltZ := hn
              clear hn
              clear hgl
              refine ⟨_, rfl, fun _ => hSS, ?_⟩
              simp only [Act.put, List.getElem_toArray, List.getElem_cons_zero, List.getElem_cons_succ, List.setIfInBounds_toArray, List.set_cons_zero, List.set_cons_succ]
              have hbz : bZ ≠ bY := Ne.symm hbb
              have hY1 := hXY.put (u := .slice (some ⟨gY, oY, none⟩) 20 pY) (v := .int .i64 0)
              have hZa := hXZ.other (i := 0) (v := .slice (some ⟨gY, oY, none⟩) 20 pY) hbz
              have hZ1 := hZa.other (i := 1) (v := .int .i64 0) hbz
              have hB1 := (hB0.setCell (p := ⟨bY, 0, none⟩) hqY (.slice (some ⟨gY, oY, none⟩) 20 pY)).setCell (p := ⟨bY, 1, none⟩) hqY (.int .i64 0)
              have hRYa := HR.set (i := 0) (v := .slice (some ⟨gY, oY, none⟩) 20 pY) hRY hneYY
              have hRY1 := HR.set (i := 1) (v := .int .i64 0) hRYa hneYY
              have hRZa := HR.set (i := 0) (v := .slice (some ⟨gY, oY, none⟩) 20 pY) hRZ hneZY
              have hRZ1 := HR.set (i := 1) (v := .int .i64 0) hRZa hneZY
              have hS1 := FB.out _ _ hSQ hB1
              have y0 := hXY.c0
              have y1 := hXY.c1
              have yz0 := hXY.z0
              have yz1 := hXY.z1
              clear hZa hRYa hRZa hRY hRZ hXY hXZ hB0 hSS hneYY hneZY
              refine Till.skip (i := 11) (w' := (v34.setCell ⟨bY, 0, none⟩ (.slice (some ⟨gY, oY, none⟩) 20 pY)).setCell ⟨bY, 1, none⟩ (.int .i64 0)) (by kernel_rfl) rfl rfl rfl (by go_simp) (fun _ => hS1) ?_
              simp only [Act.put, List.getElem_toArray, List.getElem_cons_zero, List.getElem_cons_succ, List.setIfInBounds_toArray, List.set_cons_zero, List.set_cons_succ]
              clear y0 y1 yz0 yz1
              generalize (v34.setCell ⟨bY, 0, none⟩ (.slice (some ⟨gY, oY, none⟩) 20 pY)).setCell ⟨bY, 1, none⟩ (.int .i64 0) = W1 at *
              have hZ2 := hZ1.put (u := .slice (some ⟨gZ', oZ, none⟩) 20 pZ') (v := .int .i64 0)
              have hYa := hY1.other (i := 0) (v := .slice (some ⟨gZ', oZ, none⟩) 20 pZ') hbb
              have hY2 := hYa.other (i := 1) (v := .int .i64 0) hbb
              have hB2 := (hB1.setCell (p := ⟨bZ, 0, none⟩) hqZ (.slice (some ⟨gZ', oZ, none⟩) 20 pZ')).setCell (p := ⟨bZ, 1, none⟩) hqZ (.int .i64 0)
              have hRYa := HR.set (i := 0) (v := .slice (some ⟨gZ', oZ, none⟩) 20 pZ') hRY1 hneYZ
              have hRY2 := HR.set (i := 1) (v := .int .i64 0) hRYa hneYZ
              have hRZa := HR.set (i := 0) (v := .slice (some ⟨gZ', oZ, none⟩) 20 pZ') hRZ1 hneZZ
              have hRZ2 := HR.set (i := 1) (v := .int .i64 0) hRZa hneZZ
              have hS2 := FB.out _ _ hSQ hB2
              have y0 := hZ1.c0
              have y1 := hZ1.c1
              have yz0 := hZ1.z0
              have yz1 := hZ1.z1
              clear hYa hRYa hRZa hRY1 hRZ1 hY1 hZ1 hB1 hS1 hSQ hB2
              refine Till.skip (i := 12) (w' := (W1.setCell ⟨bZ, 0, none⟩ (.slice (some ⟨gZ', oZ, none⟩) 20 pZ')).setCell ⟨bZ, 1, none⟩ (.int .i64 0)) (by kernel_rfl) rfl rfl rfl (by go_simp) (fun h => absurd rfl h) ?_
              simp only [Act.put, List.getElem_toArray, List.getElem_cons_zero, List.getElem_cons_succ, List.setIfInBounds_toArray, List.set_cons_zero, List.set_cons_succ]
              clear y0 y1 yz0 yz1
              refine Till.done (by kernel_rfl) ?_ _
              generalize (W1.setCell ⟨bZ, 0, none⟩ (.slice (some ⟨gZ', oZ, none⟩) 20 pZ')).setCell ⟨bZ, 1, none⟩ (.int .i64 0) = W2 at *
              go_wp2_with fail
              go_meet
              case rel => exact ⟨bY, bZ, gY, oY, pY, gZ', oZ, pZ', rfl, rfl, hS2, hY2, hZ2, hRY2, hRZ2⟩
        case rest => as_aux_lemma =>
          obtain ⟨bY, bZ, gY, oY, pY, gZ', oZ, pZ', hu23, hu24, hFc, hXY, hXZ, hRY, hRZ⟩ := hcut
          subst hu23 hu24
          clear hFn hF0 hF1 HSP1 HSP2
          have y0 := hXY.c0
          have y1 := hXY.c1
          have z0 := hXZ.c0
          have z1 := hXZ.c1
          obtain ⟨G, hG⟩ : ∃ G : World → Prop, G = fun u => F u ∧ XB u bY (.slice (some ⟨gY, oY, none⟩) 20 pY) (.int .i64 0) ∧ XB u bZ (.slice (some ⟨gZ', oZ, none⟩) 20 pZ') (.int .i64 0) ∧ HR u (some ⟨gY, oY, none⟩) 20 pY lY ∧ HR u (some ⟨gZ', oZ, none⟩) 20 pZ' lZ := ⟨_, rfl⟩
          have G0 : G wc := by rw [hG]; exact ⟨hFc, hXY, hXZ, hRY, hRZ⟩
          have GB : Hid (∀ u v, G u → Below u.heap.size u v → G v) := Lib.hid (by
            rw [hG]
            rintro u v ⟨x0, x1, x2, x3, x4⟩ hb
            exact ⟨FB.out _ _ x0 hb, x1.below hb, x2.below hb, x3.below hb, x4.below hb⟩)
          have gF : Hid (∀ u, G u → F u) := Lib.hid (by rw [hG]; exact fun u h => h.1)
          have gXY : Hid (∀ u, G u → XB u bY (.slice (some ⟨gY, oY, none⟩) 20 pY) (.int .i64 0)) := Lib.hid (by rw [hG]; exact fun u h => h.2.1)
          have gXZ : Hid (∀ u, G u → XB u bZ (.slice (some ⟨gZ', oZ, none⟩) 20 pZ') (.int .i64 0)) := Lib.hid (by rw [hG]; exact fun u h => h.2.2.1)
          have gRY : Hid (∀ u, G u → HR u (some ⟨gY, oY, none⟩) 20 pY lY) := Lib.hid (by rw [hG]; exact fun u h => h.2.2.2.1)
          have gRZ : Hid (∀ u, G u → HR u (some ⟨gZ', oZ, none⟩) 20 pZ' lZ) := Lib.hid (by rw [hG]; exact fun u h => h.2.2.2.2)
          clear hG hFc hXY hXZ hRY hRZ
          go_wp2_with fail
          clear y0 y1 z0 z1
          go_loopw [25] (fun i wr => ∃ j : Nat, j ≤ kZ ∧ i = .int .i64 j ∧ G wr) (fun i _ => kZ - (intOf i).toNat)
          case atStart => exact ⟨0, Nat.zero_le _, rfl, G0⟩
          case round =>
            obtain ⟨j, hj, rfl, hGw⟩ := hrel
            generalize wr = wo at *
            by_cases hlt : j < kZ
            · obtain ⟨x, hxm, hxe, hx1⟩ := place_of HY0.out (j := j) (by rw [HYL.out]; exact hlt)
              obtain ⟨gz, oz, haz, _, hcz⟩ := (gZ.out _ (gF.out _ hGw)).cells (show 0 < kZ by omega)
              subst haz
              have hcx := hcz j hlt
              rw [hxe] at hcx
              have yc := (gXY.out _ hGw).c0
              have zc := (gXZ.out _ hGw).c0
              have HGW := Lib.hid hGw
              clear hcz hxe G0
              by_cases hle : bi x ≤ 20
              · obtain ⟨t, ht⟩ : ∃ t : Nat, bi x = (t : Int) + 1 := ⟨(bi x - 1).toNat, by omega⟩
                have ht20 : t < 20 := by omega
                have hps := HPS.out x hxm t ht20 ht
                obtain ⟨g1, o1, ha1, _, p0, p1⟩ := HR.at (gRY.out _ hGw) ht20
                simp only [Option.some.injEq, Addr.mk.injEq, and_true] at ha1
                obtain ⟨rfl, rfl⟩ := ha1
                obtain ⟨g2, o2, ha2, _, q0, q1⟩ := HR.at (gRZ.out _ hGw) ht20
                simp only [Option.some.injEq, Addr.mk.injEq, and_true] at ha2
                obtain ⟨rfl, rfl⟩ := ha2
                rw [← hps] at q0 q1
                generalize (lY.getD t shD).1 = vx at *
                generalize (lY.getD t shD).2 = vt at *
                rw [ht] at hcx
                have hw : IntKind.i64.wrap ((t : Int) + 1 - 1) = (t : Int) := by rw [show (t : Int) + 1 - 1 = t by omega, IntWalk.i64_in _ (by omega)]
                have hd : decide ((t : Int) + 1 ≤ 20) = true := decide_eq_true (by omega)
                have ht1 : (t : Int) < 20 := by omega
                clear hps hxm hx1 hle ht hGw
                go_wp2_with fail
                go_quiet (fail)
                clear hcx yc zc p0 p1 q0 q1 hw hd
                go_wp2_with fail
                go_roundw
                case rel => exact ⟨j + 1, by omega, by go_num, GB.out _ _ HGW.out ((Below.refl _ _).trans ⟨rfl, rfl, rfl, Nat.le_refl _, fun _ _ => rfl⟩)⟩
                case measure => simp [intOf] <;> omega
              · have hd : decide (bi x ≤ 20) = false := decide_eq_false hle
                generalize bi x = z at *
                clear hxm hx1 hGw
                go_wp2_with fail
                go_quiet (fail)
                clear hcx yc zc hd
                go_wp2_with fail
                go_roundw
                case rel => exact ⟨j + 1, by omega, by go_num, GB.out _ _ HGW.out ((Below.refl _ _).trans ⟨rfl, rfl, rfl, Nat.le_refl _, fun _ _ => rfl⟩)⟩
                case measure => simp [intOf] <;> omega
            · obtain rfl : j = kZ := by omega
              have hF := gF.out _ hGw
              have hb0 := (gbH.out _ hF).c0
              have hcon := implHide_any sb sa rH hneed aZ j pZ (pv ys) wo mB mA mR (gZ.out _ hF) nZ
              rw [HBK.out] at hcon
              have HC := Lib.hid hcon
              have HF := Lib.hid hF
              have hsl : ∀ W : World, (Instr.slice 9 (.string sd) none (some (.int .i64 (N : Int))) none).run Tryz.prog W = .ok (.string (sd.extract 0 N)) W := fun W => run_head_str W sd N hNs
              have HN : Hid (∀ u : World, Calls Tryz.prog 16 #[.string sa, .int .i64 hneed] u fun e w' => e = .returned (.int .i64 (N : Int)) ∧ w' = u) := Lib.hid (fun u => (specNeeds_any sa hneed u mA).mono (by rintro e w' ⟨rfl, rfl⟩; exact ⟨by rw [HND.out], rfl⟩))
              generalize sd.extract 0 N = dN at *
              clear hcon hF hGw G0
              go_wp2_with fail
              refine HC.out.mono ?_
              rintro e w9 ⟨rfl, hb9⟩
              dsimp only
              have HF9 := Lib.hid (FB.out _ _ HF.out hb9)
              have hX9 := XB.made w9 (.string dN) (.int .i64 0) 34
              have hF9 := FB.out _ _ HF9.out ((Below.refl _ _).alloc (Nat.le_refl _) (.cells #[.string dN, .int .i64 0] 34))
              have HX9 := Lib.hid hX9
              have HF10 := Lib.hid hF9
              clear hb9 hb0 hX9 hF9
              go_wp2_with fail
              generalize w9.alloc (.cells #[.string dN, .int .i64 0] 34) = wl at *
              obtain ⟨b9, hb9⟩ : ∃ b, b = w9.heap.size := ⟨_, rfl⟩
              rw [← hb9] at HX9 ⊢
              clear hb9
              have hXn := HX9.out.below (Below.refl _ _).drew
              have hFn := FB.out _ _ HF10.out (Below.refl _ _).drew
              go_region_held3 (fun u => u.cell? ⟨b9, 0, none⟩ = some (.string dN) ∧ u.cell? ⟨b9, 1, none⟩ = some (.int .i64 0)) (exact ⟨hXn.c0, hXn.c1⟩)
                (first
                  | (go_at_call 16; refine Calls.mono (HN.out _) ?_; rintro e w1 ⟨rfl, rfl⟩))
              all_goals
                go_wp2_with fail
                go_ret
                exact ⟨by first | rfl | simp, gB.out _ hFn⟩
      · have hHb : (cH == 0) = false := by rw [beq_eq_false_iff_ne]; exact hH0
        go_wp2_with fail
        go_ret
        exact ⟨rfl, gB.out _ hFn⟩

/-! ### THE ROW's STEP: WRITTEN OUT: LEAVE IT -/
set_option maxRecDepth 100000 in
theorem lifted (os : Os) (started : os.Started) (H : Type) (enc : TypeId × Value → H) :
    ReturnsInHanded {} Tryz.checked os 3 .any (Rows.fnSplitSpec.pre6 enc Tryz.prog Tryz.f3 Rows.fnSplitRow.domain false) (Rows.fnSplitSpec.post enc Tryz.prog Tryz.f3 false true false false) := by
  refine returnsInHanded_of_change (C := Tryz.checked) own started (by kernel_rfl) Tryz.func3
    (ChangeSpec.witness6 (enc := enc) (C := Tryz.checked) false ⟨#[], #[.slice none 0 0, .slice none 0 0], []⟩ 8 (by kernel_rfl) (by kernel_rfl) (by kernel_rfl) (by kernel_rfl)) ?_
  intro W base args ds gs before hval0 hW hcnd _
  have hval : ∀ (j : Nat) t v, Tryz.f3.params[j]? = some t → args[j]? = some v → Value.okWide Tryz.prog W .any base t v := hval0
  have hW' := hW
  obtain ⟨p, q, hA0, hV, rfl, hfz, hnd⟩ := hW
  have hA : DataW.TrodAll enc Tryz.prog W 0 (fun _ => true) true Tryz.f3.params.toList args.toList ds p := hA0
  rw [Tryz.params3] at hA hval
  obtain ⟨v0, vs0, d0, ds0, p0, q0, hargs, rfl, rfl, h0, r0⟩ := trodAll_cons hA
  obtain ⟨v1, vs1, d1, ds1, p1, q1, rfl, rfl, rfl, h1, r1⟩ := trodAll_cons r0
  obtain ⟨rfl, rfl, rfl⟩ := trodAll_nil r1
  obtain rfl : args = #[v0, v1] := by cases args; simp_all
  obtain ⟨rfl, rfl⟩ := trodVars_none hV
  obtain ⟨a0, len0, cap0, rfl⟩ := okWide_slice Tryz.underlying22 (hval 0 22 v0 rfl rfl)
  have k0 := h0
  have lt0 : ∀ x ∈ p0, x.block < W.heap.size := by obtain ⟨m, hm⟩ := k0; exact DataW.trod_lt m _ _ _ hm
  obtain ⟨z0, w0⟩ : ∃ zs, IsRow .u8 W a0 len0 cap0 zs := by
    obtain ⟨fuel, hf⟩ := h0
    rcases open_ints Tryz.underlying22 Tryz.underlying5 (by kernel_rfl) hf with ⟨hcs, _⟩ | ⟨x, l, c, zs, hcs, _, hl, hm, hz, _, hcell, hwz⟩
    · simp [Value.cells] at hcs
      obtain ⟨rfl, rfl, rfl⟩ := hcs
      exact ⟨[], .inl ⟨rfl, rfl, rfl, rfl⟩⟩
    · simp [Value.cells] at hcs
      obtain ⟨rfl, rfl, rfl⟩ := hcs
      exact ⟨zs, .inr ⟨_, rfl, hl, hm, by simpa using hz, hcell, hwz⟩⟩
  obtain ⟨a1, len1, cap1, rfl⟩ := okWide_slice Tryz.underlying22 (hval 1 22 v1 rfl rfl)
  have k1 := h1
  have lt1 : ∀ x ∈ p1, x.block < W.heap.size := by obtain ⟨m, hm⟩ := k1; exact DataW.trod_lt m _ _ _ hm
  obtain ⟨z1, w1⟩ : ∃ zs, IsRow .u8 W a1 len1 cap1 zs := by
    obtain ⟨fuel, hf⟩ := h1
    rcases open_ints Tryz.underlying22 Tryz.underlying5 (by kernel_rfl) hf with ⟨hcs, _⟩ | ⟨x, l, c, zs, hcs, _, hl, hm, hz, _, hcell, hwz⟩
    · simp [Value.cells] at hcs
      obtain ⟨rfl, rfl, rfl⟩ := hcs
      exact ⟨[], .inl ⟨rfl, rfl, rfl, rfl⟩⟩
    · simp [Value.cells] at hcs
      obtain ⟨rfl, rfl, rfl⟩ := hcs
      exact ⟨zs, .inr ⟨_, rfl, hl, hm, by simpa using hz, hcell, hwz⟩⟩
  clear hA0 hval0
  refine (walk a0 len0 cap0 z0 a1 len1 cap1 z1 W w0 w1).mono fun e W' ⟨he, bel⟩ => ?_
  subst he
  exact ⟨_, rfl, _, _, _, [], _, [], hW', trodAll_mk1 (shut_bool Tryz.underlying4 _), (trodAll_cons_mk (Below.trod laidOut (by kernel_rfl) (of_decide_eq_true (by kernel_rfl)) k0 bel lt0) (trodAll_cons_mk (Below.trod laidOut (by kernel_rfl) (of_decide_eq_true (by kernel_rfl)) k1 bel lt1) trodAll_mk0)), rfl, bel.frame _, fun h => by cases h⟩

theorem over : Rows.fnSplitRow.holds Tryz.pinned (OpenSpec.ofChange Rows.fnSplitSpec) :=
  OpenClaim.holds_of_wide 3 Tryz.f3 rfl rfl rfl rfl rfl rfl rfl ⟨rfl, rfl, rfl, rfl, rfl⟩ rfl rfl rfl rfl rfl (by kernel_rfl) Tryz.func3 (by kernel_rfl)
    (of_decide_eq_true (by kernel_rfl)) (by unfold Func.isWrapper; first | (rw [if_pos (by decide +kernel)]; kernel_rfl) | (rw [if_neg (by decide +kernel)]; exact ⟨rfl, rfl⟩))
    (fun os started H enc _ => lifted os started H enc)

/-- ████ THE STATEMENT ████ -/
theorem proved : Rows.FnSplitSaid := over
end Go.Proofs.YtdnbkjiijpeiiaaGreat.fnSplit
