/- PROVED: the statement 'FnPolySaid': at every argument the law's function answers true and leaves its arguments as they were. The frame was written by the kit's own frame writer. -/
import Derived.Test.YtnlmbcdaolccbaaFnPointsA
import Derived.Test.YtnlmbcdaolccbaaTellA
import Derived.Test.YtnlmbcdaolccbaaDrawPA
import Derived.Deep.RegionHeld3
import Derived.Deep.Cut
import Derived.Test.YtnlmbcdaolccbaaRows
import Derived.WalkKit
import Derived.ProofKit
import Derived.OpenShut
import Derived.ShutString
import Derived.ChangeOld
import Derived.Below
import Derived.ChangeOld
import Derived.Below
namespace Go.Proofs.Ytnlmbcdaolccbaa.fnPoly
open Go.ChangeShapes Go.WideShapes Go.ChangeAt Go.RowKit
open Go.ChangeMaps (open_string shut_string)
set_option linter.unusedVariables false

theorem own : ownKnob Try.prog.godebug = none := by kernel_rfl
theorem laidOut : laidOutB Try.prog = true := by kernel_rfl

/-- WHAT THE WALK IS TOLD OF A SLICE OF INTEGERS THAT CAME IN: it is nil; or it leads to a row of 'cap' cells, the numbers 'zs' (the first 'len' are its elements, the rest its spare room), each fitting its kind. -/
def IsRow (k : IntKind) (w : World) (a : Option Addr) (len cap : Nat) (zs : List Int) : Prop :=
  (a = none ∧ len = 0 ∧ cap = 0 ∧ zs = []) ∨
  ∃ x, a = some x ∧ len ≤ cap ∧ cap ≤ maxLen ∧ zs.length = cap ∧ (∀ i, i < zs.length → w.cell? (x.add i) = some (.int k (zs.getD i 0))) ∧ ∀ n ∈ zs, (Lit.int k n).wf = true

open G MGF IRow Go.PlainAid
theorem code_of {w : World} {a : Option Addr} {len cap : Nat} {zs : List Int} (h : IsRow .u8 w a len cap zs) : CodeAt w a len := by
  rcases h with ⟨rfl, rfl, rfl, rfl⟩ | ⟨x, rfl, hl, hm, hz, hc, hw⟩
  · exact ⟨0, 0, fun h => absurd h (by omega), fun i hi => absurd hi (by omega)⟩
  · by_cases h0 : 0 < len
    · obtain ⟨b, o, sp⟩ := x
      have h1 := hc 0 (by omega)
      have hsp : sp = none := by simpa [Addr.add] using World.cell?_spot h1
      subst hsp
      refine ⟨b, o, fun _ => rfl, fun i hi => ?_⟩
      have h2 := hc i (by omega)
      have hb := bounds_u8 (hw (zs.getD i 0) (by rw [List.getD_eq_getElem?_getD, List.getElem?_eq_getElem (show i < zs.length by omega)]; exact List.getElem_mem _))
      have e1 : (⟨b, o, none⟩ : Addr).add i = ⟨b, o + i, none⟩ := by unfold Addr.add; split <;> simp_all
      exact ⟨_, hb.1, hb.2, by rw [← e1]; exact h2⟩
    · exact ⟨0, 0, fun h => absurd h h0, fun i hi => absurd hi (by omega)⟩

/-! ### The walk. -/
set_option maxRecDepth 100000 in
set_option maxHeartbeats 4000000 in
theorem walk (a0 : Option Addr) (len0 cap0 : Nat) (z0 : List Int) (a1 : Option Addr) (len1 cap1 : Nat) (z1 : List Int) (w : World) (w0 : IsRow .u8 w a0 len0 cap0 z0) (w1 : IsRow .u8 w a1 len1 cap1 z1) :
    Calls Try.prog 3 #[.slice a0 len0 cap0, .slice a1 len1 cap1] w fun e w' => e = .returned (.bool true) ∧ Below w.heap.size w w' := by
  have hc0 := code_of w0
  have hc1 := code_of w1
  clear w0 w1
  by_cases h0 : 1048576 < len0
  · go_enter Try.func3, Try.ntmps3
    go_wp2
    go_ret
    exact ⟨rfl, Below.refl _ _⟩
  · by_cases h1 : 1048576 < len1
    · go_enter Try.func3, Try.ntmps3
      go_wp2
      go_ret
      exact ⟨rfl, Below.refl _ _⟩
    · go_enter Try.func3, Try.ntmps3
      have HB := Lib.hid (Below.refl w.heap.size w)
      go_wp2_with fail
      refine (drawPolyAdd_any a0 len0 cap0 _ (hc0.below HB.out) (by omega)).mono ?_
      rintro e w1 ⟨aP, kP, cP, zP, aQ, kQ, cQ, zQ, rfl, hoP, hoQ, hlP, hlQ, hb⟩
      have RP := Lib.hid (IR.own hoP); have RQ := Lib.hid (IR.own hoQ); clear hoP hoQ
      have hkP := RP.out.len; have hkQ := RQ.out.len
      have HB' := Lib.hid (HB.out.trans (hb.mono HB.out.size)); clear HB; have HB := HB'; clear HB'
      clear hb; generalize w1 = wa1 at *
      obtain ⟨⟨rS, cSc⟩, hS⟩ : ∃ r, polyAddR zP zQ = r := ⟨_, rfl⟩
      have HLS : Hid (rS.length ≤ 60) := Lib.hid (by have := polyAddR_len zP zQ; rw [hS] at this; exact this)
      have HS := Lib.hid hS; clear hS
      go_wp2_with fail
      have hcon := implPolyAdd_any aP aQ kP kQ cP cQ zP zQ _ RP.out RQ.out (by omega) (by omega)
      rw [HS.out] at hcon
      refine hcon.mono ?_
      rintro e w1 ⟨aS, kS, cS, rfl, ho, hb⟩
      clear hcon
      have RS := Lib.hid (IR.own ho); have hkS := RS.out.len; clear ho
      unfold polyV; dsimp only
      have HB' := Lib.hid (HB.out.trans (hb.mono HB.out.size)); clear HB; have HB := HB'; clear HB'
      replace RP := Lib.hid (RP.out.below hb)
      replace RQ := Lib.hid (RQ.out.below hb)
      clear hb; generalize w1 = wa2 at *
      obtain ⟨⟨rM, cMc⟩, hM⟩ : ∃ r, polyMulR zP zQ = r := ⟨_, rfl⟩
      have HLM : Hid (rM.length ≤ 60) := Lib.hid (by have := polyMulR_len zP zQ; rw [hM] at this; exact this)
      have HM := Lib.hid hM; clear hM
      go_wp2_with fail
      have hcon := implPolyMul_any aP aQ kP kQ cP cQ zP zQ _ RP.out RQ.out (by omega) (by omega)
      rw [HM.out] at hcon
      refine hcon.mono ?_
      rintro e w1 ⟨aM, kM, cM, rfl, ho, hb⟩
      clear hcon
      have RM := Lib.hid (IR.own ho); have hkM := RM.out.len; clear ho
      unfold polyV; dsimp only
      have HB' := Lib.hid (HB.out.trans (hb.mono HB.out.size)); clear HB; have HB := HB'; clear HB'
      replace RP := Lib.hid (RP.out.below hb)
      replace RQ := Lib.hid (RQ.out.below hb)
      replace RS := Lib.hid (RS.out.below hb)
      clear hb; generalize w1 = wa3 at *
      have hbb := Below.refl wa3.heap.size wa3
      have RBS := Lib.hid (BX.made' wa3 (.slice aS kS cS) (.int .i64 cSc) 27 (h := wa3.heap.size) (by first | rfl | simp))
      have hb1 : Below wa3.heap.size wa3 (wa3.alloc (.cells #[.slice aS kS cS, .int .i64 cSc] 27)) := (Below.refl _ _).alloc (Nat.le_refl _) _
      replace hbb := hbb.trans (hb1.mono hbb.size); clear hb1
      have RBM := Lib.hid (BX.made' (wa3.alloc (.cells #[.slice aS kS cS, .int .i64 cSc] 27)) (.slice aM kM cM) (.int .i64 cMc) 27 (h := (wa3.heap.size + 1)) (by first | rfl | simp))
      have hb1 : Below (wa3.alloc (.cells #[.slice aS kS cS, .int .i64 cSc] 27)).heap.size (wa3.alloc (.cells #[.slice aS kS cS, .int .i64 cSc] 27)) ((wa3.alloc (.cells #[.slice aS kS cS, .int .i64 cSc] 27)).alloc (.cells #[.slice aM kM cM, .int .i64 cMc] 27)) := (Below.refl _ _).alloc (Nat.le_refl _) _
      replace RBS := Lib.hid (RBS.out.below hb1)
      replace hbb := hbb.trans (hb1.mono hbb.size); clear hb1
      have HB' := Lib.hid (HB.out.trans (hbb.mono HB.out.size)); clear HB; have HB := HB'; clear HB'
      replace RP := Lib.hid (RP.out.below hbb)
      replace RQ := Lib.hid (RQ.out.below hbb)
      replace RS := Lib.hid (RS.out.below hbb)
      replace RM := Lib.hid (RM.out.below hbb)
      clear hbb
      go_wp2_with fail
      refine (drawThrough_any a1 len1 cap1 _ (hc1.below HB.out) (by omega)).mono ?_
      rintro e w1 ⟨aL, kL, cL, pL, rfl, hoL, hlL, hb⟩
      have RL := Lib.hid (PR.own hoL); clear hoL
      have hkL := RL.out.len
      have HB' := Lib.hid (HB.out.trans (hb.mono HB.out.size)); clear HB; have HB := HB'; clear HB'
      replace RP := Lib.hid (RP.out.below hb)
      replace RQ := Lib.hid (RQ.out.below hb)
      replace RS := Lib.hid (RS.out.below hb)
      replace RM := Lib.hid (RM.out.below hb)
      replace RBS := Lib.hid (RBS.out.below hb)
      replace RBM := Lib.hid (RBM.out.below hb)
      clear hb; generalize w1 = wa4 at *
      obtain ⟨⟨rT, cTc⟩, hT⟩ : ∃ r, throughR pL = r := ⟨_, rfl⟩
      have HLT : Hid (rT.length ≤ 60) := Lib.hid (by have := throughR_len pL; rw [hT] at this; exact this)
      have HT := Lib.hid hT; clear hT
      go_wp2_with fail
      have hcon := implThrough_any aL kL cL pL _ RL.out (by omega)
      rw [HT.out] at hcon
      refine hcon.mono ?_
      rintro e w1 ⟨aT, kT, cT, rfl, ho, hb⟩
      clear hcon
      have RT := Lib.hid (IR.own ho); have hkT := RT.out.len; clear ho
      unfold polyV; dsimp only
      have HB' := Lib.hid (HB.out.trans (hb.mono HB.out.size)); clear HB; have HB := HB'; clear HB'
      replace RP := Lib.hid (RP.out.below hb)
      replace RQ := Lib.hid (RQ.out.below hb)
      replace RS := Lib.hid (RS.out.below hb)
      replace RM := Lib.hid (RM.out.below hb)
      replace RBS := Lib.hid (RBS.out.below hb)
      replace RBM := Lib.hid (RBM.out.below hb)
      replace RL := Lib.hid (RL.out.below hb)
      clear hb; generalize w1 = wa5 at *
      have hbb := Below.refl wa5.heap.size wa5
      have RBT := Lib.hid (BX.made' wa5 (.slice aT kT cT) (.int .i64 cTc) 27 (h := wa5.heap.size) (by first | rfl | simp))
      have hb1 : Below wa5.heap.size wa5 (wa5.alloc (.cells #[.slice aT kT cT, .int .i64 cTc] 27)) := (Below.refl _ _).alloc (Nat.le_refl _) _
      replace hbb := hbb.trans (hb1.mono hbb.size); clear hb1
      have HB' := Lib.hid (HB.out.trans (hbb.mono HB.out.size)); clear HB; have HB := HB'; clear HB'
      replace RP := Lib.hid (RP.out.below hbb)
      replace RQ := Lib.hid (RQ.out.below hbb)
      replace RS := Lib.hid (RS.out.below hbb)
      replace RM := Lib.hid (RM.out.below hbb)
      replace RBS := Lib.hid (RBS.out.below hbb)
      replace RBM := Lib.hid (RBM.out.below hbb)
      replace RL := Lib.hid (RL.out.below hbb)
      replace RT := Lib.hid (RT.out.below hbb)
      clear hbb
      go_wp2_with fail
      refine (drawVanish_any a1 len1 cap1 _ (hc1.below HB.out) (by omega)).mono ?_
      rintro e w1 ⟨aX, kX, cX, zX, rfl, hoX, hlX, hb⟩
      have RX := Lib.hid (IR.own hoX); clear hoX
      have hkX := RX.out.len
      have HB' := Lib.hid (HB.out.trans (hb.mono HB.out.size)); clear HB; have HB := HB'; clear HB'
      replace RP := Lib.hid (RP.out.below hb)
      replace RQ := Lib.hid (RQ.out.below hb)
      replace RS := Lib.hid (RS.out.below hb)
      replace RM := Lib.hid (RM.out.below hb)
      replace RBS := Lib.hid (RBS.out.below hb)
      replace RBM := Lib.hid (RBM.out.below hb)
      replace RL := Lib.hid (RL.out.below hb)
      replace RT := Lib.hid (RT.out.below hb)
      replace RBT := Lib.hid (RBT.out.below hb)
      clear hb; generalize w1 = wa6 at *
      obtain ⟨⟨rV, cVc⟩, hV⟩ : ∃ r, vanishR zX = r := ⟨_, rfl⟩
      have HLV : Hid (rV.length ≤ 60) := Lib.hid (by have := vanishR_len zX; rw [hV] at this; exact this)
      have HV := Lib.hid hV; clear hV
      go_wp2_with fail
      have hcon := implVanish_any aX kX cX zX _ RX.out (by omega)
      rw [HV.out] at hcon
      refine hcon.mono ?_
      rintro e w1 ⟨aV, kV, cV, rfl, ho, hb⟩
      clear hcon
      have RV := Lib.hid (IR.own ho); have hkV := RV.out.len; clear ho
      unfold polyV; dsimp only
      have HB' := Lib.hid (HB.out.trans (hb.mono HB.out.size)); clear HB; have HB := HB'; clear HB'
      replace RP := Lib.hid (RP.out.below hb)
      replace RQ := Lib.hid (RQ.out.below hb)
      replace RS := Lib.hid (RS.out.below hb)
      replace RM := Lib.hid (RM.out.below hb)
      replace RBS := Lib.hid (RBS.out.below hb)
      replace RBM := Lib.hid (RBM.out.below hb)
      replace RL := Lib.hid (RL.out.below hb)
      replace RT := Lib.hid (RT.out.below hb)
      replace RBT := Lib.hid (RBT.out.below hb)
      replace RX := Lib.hid (RX.out.below hb)
      clear hb; generalize w1 = wa7 at *
      have hbb := Below.refl wa7.heap.size wa7
      have RBV := Lib.hid (BX.made' wa7 (.slice aV kV cV) (.int .i64 cVc) 27 (h := wa7.heap.size) (by first | rfl | simp))
      have hb1 : Below wa7.heap.size wa7 (wa7.alloc (.cells #[.slice aV kV cV, .int .i64 cVc] 27)) := (Below.refl _ _).alloc (Nat.le_refl _) _
      replace hbb := hbb.trans (hb1.mono hbb.size); clear hb1
      have HB' := Lib.hid (HB.out.trans (hbb.mono HB.out.size)); clear HB; have HB := HB'; clear HB'
      replace RP := Lib.hid (RP.out.below hbb)
      replace RQ := Lib.hid (RQ.out.below hbb)
      replace RS := Lib.hid (RS.out.below hbb)
      replace RM := Lib.hid (RM.out.below hbb)
      replace RBS := Lib.hid (RBS.out.below hbb)
      replace RBM := Lib.hid (RBM.out.below hbb)
      replace RL := Lib.hid (RL.out.below hbb)
      replace RT := Lib.hid (RT.out.below hbb)
      replace RBT := Lib.hid (RBT.out.below hbb)
      replace RX := Lib.hid (RX.out.below hbb)
      replace RV := Lib.hid (RV.out.below hbb)
      clear hbb
      go_wp2_with fail
      refine (drawEval_any a1 len1 cap1 _ (hc1.below HB.out) (by omega)).mono ?_
      rintro e w1 ⟨aE, kE, cE, zE, x, rfl, hoE, hlE, hx, hb⟩
      have RE := Lib.hid (IR.own hoE); have HX := Lib.hid hx; clear hoE hx
      have hkE := RE.out.len
      have HB' := Lib.hid (HB.out.trans (hb.mono HB.out.size)); clear HB; have HB := HB'; clear HB'
      replace RP := Lib.hid (RP.out.below hb)
      replace RQ := Lib.hid (RQ.out.below hb)
      replace RS := Lib.hid (RS.out.below hb)
      replace RM := Lib.hid (RM.out.below hb)
      replace RBS := Lib.hid (RBS.out.below hb)
      replace RBM := Lib.hid (RBM.out.below hb)
      replace RL := Lib.hid (RL.out.below hb)
      replace RT := Lib.hid (RT.out.below hb)
      replace RBT := Lib.hid (RBT.out.below hb)
      replace RX := Lib.hid (RX.out.below hb)
      replace RV := Lib.hid (RV.out.below hb)
      replace RBV := Lib.hid (RBV.out.below hb)
      clear hb; generalize w1 = wa8 at *
      go_wp2_with fail
      refine (drawAtZero_any a0 len0 cap0 _ (hc0.below HB.out) (by omega)).mono ?_
      rintro e w1 ⟨aZ, kZ, cZ, pZ, rfl, hoZ, hlZ, hb⟩
      have RZ := Lib.hid (PR.own hoZ); clear hoZ
      have hkZ := RZ.out.len
      have HB' := Lib.hid (HB.out.trans (hb.mono HB.out.size)); clear HB; have HB := HB'; clear HB'
      replace RP := Lib.hid (RP.out.below hb)
      replace RQ := Lib.hid (RQ.out.below hb)
      replace RS := Lib.hid (RS.out.below hb)
      replace RM := Lib.hid (RM.out.below hb)
      replace RBS := Lib.hid (RBS.out.below hb)
      replace RBM := Lib.hid (RBM.out.below hb)
      replace RL := Lib.hid (RL.out.below hb)
      replace RT := Lib.hid (RT.out.below hb)
      replace RBT := Lib.hid (RBT.out.below hb)
      replace RX := Lib.hid (RX.out.below hb)
      replace RV := Lib.hid (RV.out.below hb)
      replace RBV := Lib.hid (RBV.out.below hb)
      replace RE := Lib.hid (RE.out.below hb)
      clear hb; generalize w1 = wa9 at *
      go_wp2_with fail
      obtain ⟨F, hF⟩ : ∃ F : World → Prop, F = fun u => Below w.heap.size w u ∧ IR u aP kP cP zP ∧ IR u aQ kQ cQ zQ ∧ IR u aS kS cS rS ∧ IR u aM kM cM rM ∧ IR u aT kT cT rT ∧ IR u aX kX cX zX ∧ IR u aV kV cV rV ∧ IR u aE kE cE zE ∧ PR u aL kL cL pL ∧ PR u aZ kZ cZ pZ ∧ BX u wa3.heap.size (.slice aS kS cS) (.int .i64 cSc) ∧ BX u (wa3.heap.size + 1) (.slice aM kM cM) (.int .i64 cMc) ∧ BX u wa5.heap.size (.slice aT kT cT) (.int .i64 cTc) ∧ BX u wa7.heap.size (.slice aV kV cV) (.int .i64 cVc) := ⟨_, rfl⟩
      have F0 : F wa9 := by rw [hF]; exact ⟨HB.out, RP.out, RQ.out, RS.out, RM.out, RT.out, RX.out, RV.out, RE.out, RL.out, RZ.out, RBS.out, RBM.out, RBT.out, RBV.out⟩
      have FB : Hid (∀ u v, F u → Below u.heap.size u v → F v) := Lib.hid (by
        rw [hF]
        rintro u v ⟨x0, x1, x2, x3, x4, x5, x6, x7, x8, x9, x10, x11, x12, x13, x14⟩ hb
        exact ⟨x0.trans (hb.mono x0.size), x1.below hb, x2.below hb, x3.below hb, x4.below hb, x5.below hb, x6.below hb, x7.below hb, x8.below hb, x9.below hb, x10.below hb, x11.below hb, x12.below hb, x13.below hb, x14.below hb⟩)
      have gB : Hid (∀ u, F u → Below w.heap.size w u) := Lib.hid (by rw [hF]; exact fun u h => h.1)
      have gP : Hid (∀ u, F u → IR u aP kP cP zP) := Lib.hid (by rw [hF]; exact fun u h => h.2.1)
      have gQ : Hid (∀ u, F u → IR u aQ kQ cQ zQ) := Lib.hid (by rw [hF]; exact fun u h => h.2.2.1)
      have gS : Hid (∀ u, F u → IR u aS kS cS rS) := Lib.hid (by rw [hF]; exact fun u h => h.2.2.2.1)
      have gM : Hid (∀ u, F u → IR u aM kM cM rM) := Lib.hid (by rw [hF]; exact fun u h => h.2.2.2.2.1)
      have gT : Hid (∀ u, F u → IR u aT kT cT rT) := Lib.hid (by rw [hF]; exact fun u h => h.2.2.2.2.2.1)
      have gX : Hid (∀ u, F u → IR u aX kX cX zX) := Lib.hid (by rw [hF]; exact fun u h => h.2.2.2.2.2.2.1)
      have gV : Hid (∀ u, F u → IR u aV kV cV rV) := Lib.hid (by rw [hF]; exact fun u h => h.2.2.2.2.2.2.2.1)
      have gE : Hid (∀ u, F u → IR u aE kE cE zE) := Lib.hid (by rw [hF]; exact fun u h => h.2.2.2.2.2.2.2.2.1)
      have gL : Hid (∀ u, F u → PR u aL kL cL pL) := Lib.hid (by rw [hF]; exact fun u h => h.2.2.2.2.2.2.2.2.2.1)
      have gZ : Hid (∀ u, F u → PR u aZ kZ cZ pZ) := Lib.hid (by rw [hF]; exact fun u h => h.2.2.2.2.2.2.2.2.2.2.1)
      have gbS : Hid (∀ u, F u → BX u wa3.heap.size (.slice aS kS cS) (.int .i64 cSc)) := Lib.hid (by rw [hF]; exact fun u h => h.2.2.2.2.2.2.2.2.2.2.2.1)
      have gbM : Hid (∀ u, F u → BX u (wa3.heap.size + 1) (.slice aM kM cM) (.int .i64 cMc)) := Lib.hid (by rw [hF]; exact fun u h => h.2.2.2.2.2.2.2.2.2.2.2.2.1)
      have gbT : Hid (∀ u, F u → BX u wa5.heap.size (.slice aT kT cT) (.int .i64 cTc)) := Lib.hid (by rw [hF]; exact fun u h => h.2.2.2.2.2.2.2.2.2.2.2.2.2.1)
      have gbV : Hid (∀ u, F u → BX u wa7.heap.size (.slice aV kV cV) (.int .i64 cVc)) := Lib.hid (by rw [hF]; exact fun u h => h.2.2.2.2.2.2.2.2.2.2.2.2.2.2)
      clear hF RP RQ RS RM RBS RBM RL RT RBT RX RV RBV RE RZ HB
      generalize wa9 = wc at *
      have SB : Hid (∀ u, F u → (F u ∧ u.cell? ⟨wa3.heap.size, 0, none⟩ = some (.slice aS kS cS) ∧ u.cell? ⟨wa3.heap.size, 1, none⟩ = some (.int .i64 cSc) ∧ u.cell? ⟨(wa3.heap.size + 1), 0, none⟩ = some (.slice aM kM cM) ∧ u.cell? ⟨(wa3.heap.size + 1), 1, none⟩ = some (.int .i64 cMc) ∧ u.cell? ⟨wa5.heap.size, 0, none⟩ = some (.slice aT kT cT) ∧ u.cell? ⟨wa5.heap.size, 1, none⟩ = some (.int .i64 cTc) ∧ u.cell? ⟨wa7.heap.size, 0, none⟩ = some (.slice aV kV cV) ∧ u.cell? ⟨wa7.heap.size, 1, none⟩ = some (.int .i64 cVc))) := Lib.hid (fun u hF1 => ⟨hF1, (gbS.out _ hF1).c0, (gbS.out _ hF1).c1, (gbM.out _ hF1).c0, (gbM.out _ hF1).c1, (gbT.out _ hF1).c0, (gbT.out _ hF1).c1, (gbV.out _ hF1).c0, (gbV.out _ hF1).c1⟩)
      have FD : Hid (∀ u, F u → F u.drew) := Lib.hid (fun u h => FB.out u _ h (Below.refl _ _).drew)
      have HRS := Lib.hid (polyAddR_right HS.out)
      have hk60S : kS ≤ 60 := by have := HLS.out; omega
      have HRM := Lib.hid (polyMulR_right HM.out)
      have hk60M : kM ≤ 60 := by have := HLM.out; omega
      have HRT := Lib.hid (throughR_right HT.out)
      have hk60T : kT ≤ 60 := by have := HLT.out; omega
      have HRV := Lib.hid (vanishR_right HV.out)
      have hk60V : kV ≤ 60 := by have := HLV.out; omega
      have nP : kP ≤ 1048576 := by omega
      have nQ : kQ ≤ 1048576 := by omega
      have nS : kS ≤ 1048576 := by omega
      have nM : kM ≤ 1048576 := by omega
      have nT : kT ≤ 1048576 := by omega
      have nX : kX ≤ 1048576 := by omega
      have nV : kV ≤ 1048576 := by omega
      have nE : kE ≤ 1048576 := by omega
      have nL : kL ≤ 1048576 := by omega
      have nZ : kZ ≤ 1048576 := by omega
      have n0 : len0 ≤ 1048576 := by omega
      have n1 : len1 ≤ 1048576 := by omega
      clear h0 h1 hlP hlQ hlL hlX hlE hlZ hkP hkQ hkL hkX hkE hkZ
      have hFn := FD.out _ F0
      go_region_held3 (fun u => F u ∧ u.cell? ⟨wa3.heap.size, 0, none⟩ = some (.slice aS kS cS) ∧ u.cell? ⟨wa3.heap.size, 1, none⟩ = some (.int .i64 cSc) ∧ u.cell? ⟨(wa3.heap.size + 1), 0, none⟩ = some (.slice aM kM cM) ∧ u.cell? ⟨(wa3.heap.size + 1), 1, none⟩ = some (.int .i64 cMc) ∧ u.cell? ⟨wa5.heap.size, 0, none⟩ = some (.slice aT kT cT) ∧ u.cell? ⟨wa5.heap.size, 1, none⟩ = some (.int .i64 cTc) ∧ u.cell? ⟨wa7.heap.size, 0, none⟩ = some (.slice aV kV cV) ∧ u.cell? ⟨wa7.heap.size, 1, none⟩ = some (.int .i64 cVc)) (exact SB.out _ hFn)
        (first
          | (go_at_call 18; have hcon := specPolyAdd_any aP aQ kP kQ cP cQ zP zQ _ (gP.out _ hFn) (gQ.out _ hFn) nP nQ; rw [HS.out] at hcon; refine Calls.mono hcon ?_; rintro e w1 ⟨an, kn, cn, rfl, ho, hb⟩; clear hcon; have hn := IR.own ho; clear ho; have hFn := FB.out _ _ hFn hb; unfold polyV; dsimp only)
          | (go_at_call 19; have hcon := specPolyMul_any aP aQ kP kQ cP cQ zP zQ _ (gP.out _ hFn) (gQ.out _ hFn) nP nQ; rw [HM.out] at hcon; refine Calls.mono hcon ?_; rintro e w1 ⟨an, kn, cn, rfl, ho, hb⟩; clear hcon; have hn := IR.own ho; clear ho; have hFn := FB.out _ _ hFn hb; unfold polyV; dsimp only)
          | (go_at_call 20; have hcon := specThrough_any aL kL cL pL _ (gL.out _ hFn) nL; rw [HT.out] at hcon; refine Calls.mono hcon ?_; rintro e w1 ⟨an, kn, cn, rfl, ho, hb⟩; clear hcon; have hn := IR.own ho; clear ho; have hFn := FB.out _ _ hFn hb; unfold polyV; dsimp only)
          | (go_at_call 21; have hcon := specVanish_any aX kX cX zX _ (gX.out _ hFn) nX; rw [HV.out] at hcon; refine Calls.mono hcon ?_; rintro e w1 ⟨an, kn, cn, rfl, ho, hb⟩; clear hcon; have hn := IR.own ho; clear ho; have hFn := FB.out _ _ hFn hb; unfold polyV; dsimp only)
          | (go_at_call 17; with_reducible refine Calls.mono (lwPoly_agg aS an kS kn cS cn rS cSc _ (gS.out _ hFn) hn (IR.small (gS.out _ hFn) HLS.out) (IR.small hn HLS.out) HRS.out) ?_; rintro e w1 ⟨rfl, hb⟩; have hFn := FB.out _ _ hFn hb)
          | (go_at_call 17; with_reducible refine Calls.mono (lwPoly_agg aM an kM kn cM cn rM cMc _ (gM.out _ hFn) hn (IR.small (gM.out _ hFn) HLM.out) (IR.small hn HLM.out) HRM.out) ?_; rintro e w1 ⟨rfl, hb⟩; have hFn := FB.out _ _ hFn hb)
          | (go_at_call 17; with_reducible refine Calls.mono (lwPoly_agg aT an kT kn cT cn rT cTc _ (gT.out _ hFn) hn (IR.small (gT.out _ hFn) HLT.out) (IR.small hn HLT.out) HRT.out) ?_; rintro e w1 ⟨rfl, hb⟩; have hFn := FB.out _ _ hFn hb)
          | (go_at_call 17; with_reducible refine Calls.mono (lwPoly_agg aV an kV kn cV cn rV cVc _ (gV.out _ hFn) hn (IR.small (gV.out _ hFn) HLV.out) (IR.small hn HLV.out) HRV.out) ?_; rintro e w1 ⟨rfl, hb⟩; have hFn := FB.out _ _ hFn hb)
          | (go_at_call 22; refine Calls.mono (implEval_any aE kE cE zE x _ (gE.out _ hFn) nE) ?_; rintro e w1 ⟨rfl, hb⟩; have hFn := FB.out _ _ hFn hb)
          | (go_at_call 23; refine Calls.mono (specEval_any aE kE cE zE x _ (gE.out _ hFn) nE) ?_; rintro e w1 ⟨rfl, hb⟩; have hFn := FB.out _ _ hFn hb)
          | (go_at_call 24; refine Calls.mono (implAtZero_any aZ kZ cZ pZ _ (gZ.out _ hFn) nZ) ?_; rintro e w1 ⟨rfl, hb⟩; have hFn := FB.out _ _ hFn hb)
          | (go_at_call 25; refine Calls.mono (specAtZero_any aZ kZ cZ pZ _ (gZ.out _ hFn) nZ) ?_; rintro e w1 ⟨rfl, hb⟩; have hFn := FB.out _ _ hFn hb)
          | (go_at_call 26; refine Calls.mono (implPolyRightB_any aP kP cP zP _ (gP.out _ hFn) nP) ?_; rintro e w1 ⟨rfl, hb⟩; have hFn := FB.out _ _ hFn hb)
          | (go_at_call 27; refine Calls.mono (specPolyRightB_any aP kP cP zP _ (gP.out _ hFn) nP) ?_; rintro e w1 ⟨rfl, hb⟩; have hFn := FB.out _ _ hFn hb)
        )
      go_wp2_with fail
      refine (lwAt_byte a0 len0 cap0 0 _ (hc0.below (gB.out _ hFn)) n0 (by decide)).mono ?_
      rintro e w1 ⟨y, rfl, rfl⟩
      go_upto_region 14 with fail
      go_cut [143] from 21 (fun s u => s = .bool false ∧ F u)
      case first => as_aux_lemma =>
        have hF7a := (gbS.out _ hFn).c0; have hF7b := (gbS.out _ hFn).c1
        have hF8a := (gbM.out _ hFn).c0; have hF8b := (gbM.out _ hFn).c1
        by_cases hS0 : cSc = 0
        · subst hS0
          obtain ⟨sa, sb, e1, e2, e3⟩ := add_at HS.out rfl y
          have hx64 := bi_xor64 sa sb
          have ES := Lib.hid (And.intro e1 (And.intro e2 e3)); clear e1 e2 e3
          by_cases hM0 : cMc = 0
          · subst hM0
            obtain ⟨ma, mb, e1, e2, e3⟩ := mul_at HM.out rfl y
            have EM := Lib.hid (And.intro e1 (And.intro e2 e3)); clear e1 e2 e3
            go_wp2_with fail
            have hcon := implEval_any aS kS cS rS (bi y) _ (gS.out _ hFn) nS
            rw [ES.out.2.2] at hcon
            refine hcon.mono ?_
            rintro e w1 ⟨rfl, hb⟩
            clear hcon
            clear hF7a hF7b hF8a hF8b
            have hFn := FB.out _ _ hFn hb; clear hb
            have hF7a := (gbS.out _ hFn).c0; have hF7b := (gbS.out _ hFn).c1
            have hF8a := (gbM.out _ hFn).c0; have hF8b := (gbM.out _ hFn).c1
            go_wp2_with fail
            have hcon := specEval_any aP kP cP zP (bi y) _ (gP.out _ hFn) nP
            rw [ES.out.1] at hcon
            refine hcon.mono ?_
            rintro e w1 ⟨rfl, hb⟩
            clear hcon
            clear hF7a hF7b hF8a hF8b
            have hFn := FB.out _ _ hFn hb; clear hb
            have hF7a := (gbS.out _ hFn).c0; have hF7b := (gbS.out _ hFn).c1
            have hF8a := (gbM.out _ hFn).c0; have hF8b := (gbM.out _ hFn).c1
            go_wp2_with fail
            have hcon := specEval_any aQ kQ cQ zQ (bi y) _ (gQ.out _ hFn) nQ
            rw [ES.out.2.1] at hcon
            refine hcon.mono ?_
            rintro e w1 ⟨rfl, hb⟩
            clear hcon
            clear hF7a hF7b hF8a hF8b
            have hFn := FB.out _ _ hFn hb; clear hb
            have hF7a := (gbS.out _ hFn).c0; have hF7b := (gbS.out _ hFn).c1
            have hF8a := (gbM.out _ hFn).c0; have hF8b := (gbM.out _ hFn).c1
            go_wp2_with fail
            have hcon := implEval_any aM kM cM rM (bi y) _ (gM.out _ hFn) nM
            rw [EM.out.2.2] at hcon
            refine hcon.mono ?_
            rintro e w1 ⟨rfl, hb⟩
            clear hcon
            clear hF7a hF7b hF8a hF8b
            have hFn := FB.out _ _ hFn hb; clear hb
            have hF7a := (gbS.out _ hFn).c0; have hF7b := (gbS.out _ hFn).c1
            have hF8a := (gbM.out _ hFn).c0; have hF8b := (gbM.out _ hFn).c1
            go_wp2_with fail
            have hcon := specEval_any aP kP cP zP (bi y) _ (gP.out _ hFn) nP
            rw [EM.out.1] at hcon
            refine hcon.mono ?_
            rintro e w1 ⟨rfl, hb⟩
            clear hcon
            clear hF7a hF7b hF8a hF8b
            have hFn := FB.out _ _ hFn hb; clear hb
            have hF7a := (gbS.out _ hFn).c0; have hF7b := (gbS.out _ hFn).c1
            have hF8a := (gbM.out _ hFn).c0; have hF8b := (gbM.out _ hFn).c1
            go_wp2_with fail
            have hcon := specEval_any aQ kQ cQ zQ (bi y) _ (gQ.out _ hFn) nQ
            rw [EM.out.2.1] at hcon
            refine hcon.mono ?_
            rintro e w1 ⟨rfl, hb⟩
            clear hcon
            clear hF7a hF7b hF8a hF8b
            have hFn := FB.out _ _ hFn hb; clear hb
            have hF7a := (gbS.out _ hFn).c0; have hF7b := (gbS.out _ hFn).c1
            have hF8a := (gbM.out _ hFn).c0; have hF8b := (gbM.out _ hFn).c1
            go_wp2_with fail
            with_reducible refine Calls.mono (specMul_any (bi ma) (bi mb) _) ?_
            rintro e w1 ⟨rfl, rfl⟩
            rw [mulI_bi]
            go_wp2_with fail
            go_meet
            case rel => exact ⟨by first | rfl | simp, hFn⟩
          · skip
            go_wp2_with fail
            have hcon := implEval_any aS kS cS rS (bi y) _ (gS.out _ hFn) nS
            rw [ES.out.2.2] at hcon
            refine hcon.mono ?_
            rintro e w1 ⟨rfl, hb⟩
            clear hcon
            clear hF7a hF7b hF8a hF8b
            have hFn := FB.out _ _ hFn hb; clear hb
            have hF7a := (gbS.out _ hFn).c0; have hF7b := (gbS.out _ hFn).c1
            have hF8a := (gbM.out _ hFn).c0; have hF8b := (gbM.out _ hFn).c1
            go_wp2_with fail
            have hcon := specEval_any aP kP cP zP (bi y) _ (gP.out _ hFn) nP
            rw [ES.out.1] at hcon
            refine hcon.mono ?_
            rintro e w1 ⟨rfl, hb⟩
            clear hcon
            clear hF7a hF7b hF8a hF8b
            have hFn := FB.out _ _ hFn hb; clear hb
            have hF7a := (gbS.out _ hFn).c0; have hF7b := (gbS.out _ hFn).c1
            have hF8a := (gbM.out _ hFn).c0; have hF8b := (gbM.out _ hFn).c1
            go_wp2_with fail
            have hcon := specEval_any aQ kQ cQ zQ (bi y) _ (gQ.out _ hFn) nQ
            rw [ES.out.2.1] at hcon
            refine hcon.mono ?_
            rintro e w1 ⟨rfl, hb⟩
            clear hcon
            clear hF7a hF7b hF8a hF8b
            have hFn := FB.out _ _ hFn hb; clear hb
            have hF7a := (gbS.out _ hFn).c0; have hF7b := (gbS.out _ hFn).c1
            have hF8a := (gbM.out _ hFn).c0; have hF8b := (gbM.out _ hFn).c1
            go_wp2_with fail
            go_meet
            case rel => exact ⟨by first | rfl | simp, hFn⟩
        · by_cases hM0 : cMc = 0
          · subst hM0
            obtain ⟨ma, mb, e1, e2, e3⟩ := mul_at HM.out rfl y
            have EM := Lib.hid (And.intro e1 (And.intro e2 e3)); clear e1 e2 e3
            go_wp2_with fail
            have hcon := implEval_any aM kM cM rM (bi y) _ (gM.out _ hFn) nM
            rw [EM.out.2.2] at hcon
            refine hcon.mono ?_
            rintro e w1 ⟨rfl, hb⟩
            clear hcon
            clear hF7a hF7b hF8a hF8b
            have hFn := FB.out _ _ hFn hb; clear hb
            have hF7a := (gbS.out _ hFn).c0; have hF7b := (gbS.out _ hFn).c1
            have hF8a := (gbM.out _ hFn).c0; have hF8b := (gbM.out _ hFn).c1
            go_wp2_with fail
            have hcon := specEval_any aP kP cP zP (bi y) _ (gP.out _ hFn) nP
            rw [EM.out.1] at hcon
            refine hcon.mono ?_
            rintro e w1 ⟨rfl, hb⟩
            clear hcon
            clear hF7a hF7b hF8a hF8b
            have hFn := FB.out _ _ hFn hb; clear hb
            have hF7a := (gbS.out _ hFn).c0; have hF7b := (gbS.out _ hFn).c1
            have hF8a := (gbM.out _ hFn).c0; have hF8b := (gbM.out _ hFn).c1
            go_wp2_with fail
            have hcon := specEval_any aQ kQ cQ zQ (bi y) _ (gQ.out _ hFn) nQ
            rw [EM.out.2.1] at hcon
            refine hcon.mono ?_
            rintro e w1 ⟨rfl, hb⟩
            clear hcon
            clear hF7a hF7b hF8a hF8b
            have hFn := FB.out _ _ hFn hb; clear hb
            have hF7a := (gbS.out _ hFn).c0; have hF7b := (gbS.out _ hFn).c1
            have hF8a := (gbM.out _ hFn).c0; have hF8b := (gbM.out _ hFn).c1
            go_wp2_with fail
            with_reducible refine Calls.mono (specMul_any (bi ma) (bi mb) _) ?_
            rintro e w1 ⟨rfl, rfl⟩
            rw [mulI_bi]
            go_wp2_with fail
            go_meet
            case rel => exact ⟨by first | rfl | simp, hFn⟩
          · skip
            go_wp2_with fail
            go_meet
            case rel => exact ⟨by first | rfl | simp, hFn⟩
      case rest => as_aux_lemma =>
        obtain ⟨rfl, hFn⟩ := hcut
        clear gP gQ gS gM gE gZ gbS gbM SB HS HM HRS HRM HLS HLM
        have hF12a := (gbV.out _ hFn).c0; have hF12b := (gbV.out _ hFn).c1
        go_upto_if 146 with fail
        go_cut [17] from 21 (fun _ u => F u)
        case first => as_aux_lemma =>
          by_cases hV0 : cVc = 0
          · subst hV0
            obtain ⟨v1, v2, v3⟩ := van_tells HV.out rfl
            have V1 := Lib.hid v1; have V2 := Lib.hid v2; have hkX : zX.length = kX := (gX.out _ hFn).len; have V3 : Hid ((kV : Int) = (kX : Int) + 1) := Lib.hid (by omega)
            clear v1 v2 v3
            clear hF12a hF12b
            go_wp2_with fail
            go_loopw [17] (fun i wr => ∃ j : Nat, j ≤ kX ∧ i = .int .i64 j ∧ F wr) (fun i _ => kX - (intOf i).toNat)
            case atStart => exact ⟨0, Nat.zero_le _, rfl, hFn⟩
            case round =>
              obtain ⟨j, hj, rfl, hFr⟩ := hrel
              by_cases hlt : j < kX
              · obtain ⟨g, oo, hax, hg, hc⟩ := (gX.out _ hFr).cells (by omega)
                have HC : Hid (∀ u, F u → u.cell? ⟨g, oo + j, none⟩ = some (.int .i64 (zX.getD j 0))) := Lib.hid (fun u hu => by
                  obtain ⟨g2, o2, ha2, _, hc2⟩ := (gX.out _ hu).cells (by omega)
                  rw [hax] at ha2; cases ha2; exact hc2 j hlt)
                have VJ := Lib.hid (V1.out j (by omega))
                subst hax
                clear hc hg hFn
                have hFn := FD.out _ hFr
                have SB : Hid (∀ u, F u → (F u ∧ u.cell? ⟨wa7.heap.size, 0, none⟩ = some (.slice aV kV cV) ∧ u.cell? ⟨g, oo + j, none⟩ = some (.int .i64 (zX.getD j 0)))) := Lib.hid (fun u hu => ⟨hu, (gbV.out _ hu).c0, HC.out _ hu⟩)
                generalize zX.getD j 0 = xj at *
                go_wp2_with fail
                go_region_held3 (fun u => F u ∧ u.cell? ⟨wa7.heap.size, 0, none⟩ = some (.slice aV kV cV) ∧ u.cell? ⟨g, oo + j, none⟩ = some (.int .i64 xj)) (exact SB.out _ hFn)
                  (first | (go_at_call 22; have hcon := implEval_any aV kV cV rV xj _ (gV.out _ hFn) nV; rw [VJ.out] at hcon; refine Calls.mono hcon ?_; rintro e w1 ⟨rfl, hb⟩; clear hcon; have hFn := FB.out _ _ hFn hb))
                all_goals
                  go_wp2_with fail
                  go_roundw
                  case rel => exact ⟨j + 1, by omega, by go_num, by first | exact hFn | exact FD.out _ hFn⟩
                  case measure => simp [intOf] <;> omega
              · obtain rfl : j = kX := by omega
                have hFn := hFr
                have hF12a := (gbV.out _ hFn).c0; have hF12b := (gbV.out _ hFn).c1
                have hkv3 := V3.out
                go_wp2_with fail
                have hcon := implEval_any aV kV cV rV 0 _ (gV.out _ hFn) nV
                rw [V2.out] at hcon
                refine hcon.mono ?_
                rintro e w1 ⟨rfl, hb⟩
                clear hcon
                clear hF12a hF12b
                have hFn := FB.out _ _ hFn hb; clear hb
                have hF12a := (gbV.out _ hFn).c0; have hF12b := (gbV.out _ hFn).c1
                go_wp2_with fail
                go_meet
                case rel => exact hFn
          · go_wp2_with fail
            go_meet
            case rel => exact hFn
        case rest => as_aux_lemma =>
          have hFn := hcut; clear hcut
          clear gX gV gbV HV HRV HLV
          have hF10a := (gbT.out _ hFn).c0; have hF10b := (gbT.out _ hFn).c1
          by_cases hT0 : cTc = 0
          · subst hT0
            obtain ⟨t1, t2, t3, t4, t5⟩ := thr_tells HT.out rfl
            have T1 := Lib.hid t1; have T2 := Lib.hid t2; have T3 := Lib.hid t3; have T4 := Lib.hid t4; have T5 := Lib.hid t5; have hkL : pL.length = kL := (gL.out _ hFn).len
            clear t1 t2 t3 t4 t5
            go_wp2_with fail
            clear hF10a hF10b
            go_loopw [18] (fun i wr => ∃ j : Nat, j ≤ kL ∧ i = .int .i64 j ∧ F wr) (fun i _ => kL - (intOf i).toNat)
            case atStart => exact ⟨0, Nat.zero_le _, rfl, hFn⟩
            case round =>
              obtain ⟨j, hj, rfl, hFr⟩ := hrel
              by_cases hlt : j < kL
              · obtain ⟨g, oo, hax, hg, hc⟩ := (gL.out _ hFr).cells (by omega)
                have HC : Hid (∀ u, F u → u.cell? ⟨g, oo + j * 2, none⟩ = some (.int .i64 (pL.getD j (0, 0)).1) ∧ u.cell? ⟨g, oo + j * 2 + 1, none⟩ = some (.int .i64 (pL.getD j (0, 0)).2)) := Lib.hid (fun u hu => by
                  obtain ⟨g2, o2, ha2, _, hc2⟩ := (gL.out _ hu).cells (by omega)
                  rw [hax] at ha2; cases ha2; exact hc2 j hlt)
                have TJ := Lib.hid (T1.out j (by omega))
                subst hax
                clear hc hg hFn
                have hFn := FD.out _ hFr
                have SB : Hid (∀ u, F u → (F u ∧ u.cell? ⟨wa5.heap.size, 0, none⟩ = some (.slice aT kT cT) ∧ u.cell? ⟨g, oo + j * 2, none⟩ = some (.int .i64 (pL.getD j (0, 0)).1) ∧ u.cell? ⟨g, oo + j * 2 + 1, none⟩ = some (.int .i64 (pL.getD j (0, 0)).2))) := Lib.hid (fun u hu => ⟨hu, (gbT.out _ hu).c0, HC.out _ hu⟩)
                generalize (pL.getD j (0, 0)).1 = xj at *
                generalize (pL.getD j (0, 0)).2 = yj at *
                go_wp2_with fail
                go_region_held3 (fun u => F u ∧ u.cell? ⟨wa5.heap.size, 0, none⟩ = some (.slice aT kT cT) ∧ u.cell? ⟨g, oo + j * 2, none⟩ = some (.int .i64 xj) ∧ u.cell? ⟨g, oo + j * 2 + 1, none⟩ = some (.int .i64 yj)) (exact SB.out _ hFn)
                  (first | (go_at_call 22; have hcon := implEval_any aT kT cT rT xj _ (gT.out _ hFn) nT; rw [TJ.out] at hcon; refine Calls.mono hcon ?_; rintro e w1 ⟨rfl, hb⟩; clear hcon; have hFn := FB.out _ _ hFn hb))
                all_goals
                  go_wp2_with fail
                  go_roundw
                  case rel => exact ⟨j + 1, by omega, by go_num, by first | exact hFn | exact FD.out _ hFn⟩
                  case measure => simp [intOf] <;> omega
              · obtain rfl : kL = j := by omega
                have hFn := hFr
                have ht5 := T5.out
                rw [hkL] at ht5
                have T5k := Lib.hid ht5
                clear ht5
                have hk20 : kL ≤ 20 := by have := T4.out; omega
                have hkk : kT ≤ kL := by have := T2.out; have := (gT.out _ hFn).len; omega
                have HRR : Hid (rightB rT = true) := Lib.hid (HRT.out (by trivial))
                generalize wr = wl at *
                have HEM : Hid ((wl.alloc (.cells #[] 43)).ownsRow wl.heap.size 43 2 (.slice (some ⟨wl.heap.size, 0, none⟩) 0 0) 0 (flat (mirror rT 0))) := Lib.hid (World.ownsRow_made wl #[] 0 (Nat.le_refl _) (by decide) rfl)
                have HBA : Hid (Below wl.heap.size wl (wl.alloc (.cells #[] 43))) := Lib.hid ((Below.refl _ _).alloc (Nat.le_refl _) _)
                go_wp2_with fail
                go_loopw [19, 20] (fun v i wq => ∃ m : Nat, m ≤ kL ∧ i = .int .i64 m ∧ wq.ownsRow wl.heap.size 43 2 v m (flat (mirror rT m)) ∧ Below wl.heap.size wl wq) (fun _ i _ => kL - (intOf i).toNat)
                case atStart => exact ⟨0, Nat.zero_le _, rfl, HEM.out, HBA.out⟩
                case round =>
                  obtain ⟨m, hm, rfl, hown, hbx⟩ := hrel
                  have hFx := FB.out _ _ hFn hbx
                  by_cases hlt : m < kL
                  · have HO := Lib.hid hown
                    have HBX := Lib.hid hbx
                    clear hown hbx
                    have hF10a := (gbT.out _ hFx).c0
                    obtain ⟨i0, hi, hz0, hz1, hz2⟩ := info_parts infoPoint
                    go_wp2_with fail
                    refine (specEval_any aT kT cT rT (200 - (m : Int)) _ (gT.out _ hFx) nT).mono ?_
                    rintro e w1 ⟨rfl, hb⟩
                    clear hF10a
                    have hbx1 := HBX.out.trans (hb.mono HBX.out.size)
                    have hsz := hbx1.size
                    have hown1 := own_below HO.out hb
                    have HBX1 := Lib.hid hbx1
                    have HO1 := Lib.hid hown1
                    clear hbx1 hb hFx
                    obtain ⟨q, hq⟩ : ∃ q, q = evalI rT (200 - (m : Int)) := ⟨_, rfl⟩
                    rw [← hq]
                    have HQ := Lib.hid hq
                    clear hq
                    go_wp2_with (at_builtin; refine append_pair rfl (.tmp 204) (.tmp 213) 29 rfl 43 i0 Try.underlying29 hi hz0 hz1 hz2 wl.heap.size _ _ _ rfl hown1 (200 - (m : Int)) q _ rfl hsz (by omega) ?_; intro v' w4 hown4 hg4; have HO5 := Lib.hid hown4; have HBX5 := Lib.hid (below_grow HBX1.out HO1.out (Nat.le_refl _) hg4 hsz); clear hown4 hown1 hg4)
                    go_roundw
                    case rel => exact ⟨m + 1, by omega, by go_num, by have h5 := HO5.out; rw [HQ.out, ← mirror_succ] at h5; exact h5, HBX5.out⟩
                    case measure => simp [intOf] <;> omega
                  · obtain rfl : kL = m := by omega
                    obtain ⟨aN, cN, rfl⟩ := own_shape hown
                    have hPN := PR.own hown
                    obtain ⟨F2, hF2⟩ : ∃ F2 : World → Prop, F2 = fun u => F u ∧ PR u aN kL cN (mirror rT kL) := ⟨_, rfl⟩
                    have hFm : F2 wr := by rw [hF2]; exact ⟨hFx, hPN⟩
                    have FB2 : Hid (∀ u v, F2 u → Below u.heap.size u v → F2 v) := Lib.hid (by rw [hF2]; exact fun u v h hb => ⟨FB.out _ _ h.1 hb, h.2.below hb⟩)
                    have FF : Hid (∀ u, F2 u → F u) := Lib.hid (by rw [hF2]; exact fun u h => h.1)
                    have FN : Hid (∀ u, F2 u → PR u aN kL cN (mirror rT kL)) := Lib.hid (by rw [hF2]; exact fun u h => h.2)
                    have SB : Hid (∀ u, F2 u → (F2 u ∧ u.cell? ⟨wa5.heap.size, 0, none⟩ = some (.slice aT kT cT) ∧ u.cell? ⟨wa5.heap.size, 1, none⟩ = some (.int .i64 0))) := Lib.hid (fun u h => ⟨h, (gbT.out _ (FF.out _ h)).c0, (gbT.out _ (FF.out _ h)).c1⟩)
                    have hFm2 := FB2.out _ _ hFm ((Below.refl _ _).drew)
                    clear hF2 hPN hown hbx hFx hFm hFn hFr
                    have hFn := hFm2
                    clear hFm2
                    have nLL : kL ≤ 1048576 := by omega
                    obtain ⟨ze, hze⟩ : ∃ ze, ze = evalI rT 0 := ⟨_, rfl⟩
                    have HZE := Lib.hid hze
                    clear hze
                    go_wp2_with fail
                    go_region_held3 (fun u => F2 u ∧ u.cell? ⟨wa5.heap.size, 0, none⟩ = some (.slice aT kT cT) ∧ u.cell? ⟨wa5.heap.size, 1, none⟩ = some (.int .i64 0)) (exact SB.out _ hFn)
                      (first
                        | (go_at_call 12; have hcon := implThrough_any aN kL cN (mirror rT kL) _ (FN.out _ hFn) nLL; rw [T5k.out] at hcon; refine Calls.mono hcon ?_; rintro e w1 ⟨an, kn, cn, rfl, ho, hb⟩; clear hcon; have hn := IR.own ho; clear ho; have hFn := FB2.out _ _ hFn hb; unfold polyV; dsimp only)
                        | (go_at_call 17; with_reducible refine Calls.mono (lwPoly_agg an aT kn kT cn cT rT 0 _ hn (gT.out _ (FF.out _ hFn)) (IR.small hn HLT.out) (IR.small (gT.out _ (FF.out _ hFn)) HLT.out) (fun _ => HRR.out)) ?_; rintro e w1 ⟨rfl, hb⟩; have hFn := FB2.out _ _ hFn hb)
                        | (go_at_call 24; have hcon := implAtZero_any aL kL cL pL _ (gL.out _ (FF.out _ hFn)) nLL; rw [T3.out, ← HZE.out] at hcon; refine Calls.mono hcon ?_; rintro e w1 ⟨rfl, hb⟩; clear hcon; have hFn := FB2.out _ _ hFn hb)
                        | (go_at_call 23; have hcon := specEval_any aT kT cT rT 0 _ (gT.out _ (FF.out _ hFn)) nT; rw [← HZE.out] at hcon; refine Calls.mono hcon ?_; rintro e w1 ⟨rfl, hb⟩; clear hcon; have hFn := FB2.out _ _ hFn hb))
                    all_goals
                      go_wp2_with fail
                      go_ret
                      exact ⟨by first | rfl | simp, gB.out _ (FF.out _ hFn)⟩
          · go_wp2_with fail
            go_ret
            exact ⟨rfl, gB.out _ hFn⟩

/-! ### THE ROW's STEP: WRITTEN OUT: LEAVE IT -/
set_option maxRecDepth 100000 in
theorem lifted (os : Os) (started : os.Started) (H : Type) (enc : TypeId × Value → H) :
    ReturnsInHanded {} Try.checked os 3 .any (Rows.fnPolySpec.pre6 enc Try.prog Try.f3 Rows.fnPolyRow.domain false) (Rows.fnPolySpec.post enc Try.prog Try.f3 false true false false) := by
  refine returnsInHanded_of_change (C := Try.checked) own started (by kernel_rfl) Try.func3
    (ChangeSpec.witness6 (enc := enc) (C := Try.checked) false ⟨#[], #[.slice none 0 0, .slice none 0 0], []⟩ 8 (by kernel_rfl) (by kernel_rfl) (by kernel_rfl) (by kernel_rfl)) ?_
  intro W base args ds gs before hval0 hW hcnd _
  have hval : ∀ (j : Nat) t v, Try.f3.params[j]? = some t → args[j]? = some v → Value.okWide Try.prog W .any base t v := hval0
  have hW' := hW
  obtain ⟨p, q, hA0, hV, rfl, hfz, hnd⟩ := hW
  have hA : DataW.TrodAll enc Try.prog W 0 (fun _ => true) true Try.f3.params.toList args.toList ds p := hA0
  rw [Try.params3] at hA hval
  obtain ⟨v0, vs0, d0, ds0, p0, q0, hargs, rfl, rfl, h0, r0⟩ := trodAll_cons hA
  obtain ⟨v1, vs1, d1, ds1, p1, q1, rfl, rfl, rfl, h1, r1⟩ := trodAll_cons r0
  obtain ⟨rfl, rfl, rfl⟩ := trodAll_nil r1
  obtain rfl : args = #[v0, v1] := by cases args; simp_all
  obtain ⟨rfl, rfl⟩ := trodVars_none hV
  obtain ⟨a0, len0, cap0, rfl⟩ := okWide_slice Try.underlying22 (hval 0 22 v0 rfl rfl)
  have k0 := h0
  have lt0 : ∀ x ∈ p0, x.block < W.heap.size := by obtain ⟨m, hm⟩ := k0; exact DataW.trod_lt m _ _ _ hm
  obtain ⟨z0, w0⟩ : ∃ zs, IsRow .u8 W a0 len0 cap0 zs := by
    obtain ⟨fuel, hf⟩ := h0
    rcases open_ints Try.underlying22 Try.underlying5 (by kernel_rfl) hf with ⟨hcs, _⟩ | ⟨x, l, c, zs, hcs, _, hl, hm, hz, _, hcell, hwz⟩
    · simp [Value.cells] at hcs
      obtain ⟨rfl, rfl, rfl⟩ := hcs
      exact ⟨[], .inl ⟨rfl, rfl, rfl, rfl⟩⟩
    · simp [Value.cells] at hcs
      obtain ⟨rfl, rfl, rfl⟩ := hcs
      exact ⟨zs, .inr ⟨_, rfl, hl, hm, by simpa using hz, hcell, hwz⟩⟩
  obtain ⟨a1, len1, cap1, rfl⟩ := okWide_slice Try.underlying22 (hval 1 22 v1 rfl rfl)
  have k1 := h1
  have lt1 : ∀ x ∈ p1, x.block < W.heap.size := by obtain ⟨m, hm⟩ := k1; exact DataW.trod_lt m _ _ _ hm
  obtain ⟨z1, w1⟩ : ∃ zs, IsRow .u8 W a1 len1 cap1 zs := by
    obtain ⟨fuel, hf⟩ := h1
    rcases open_ints Try.underlying22 Try.underlying5 (by kernel_rfl) hf with ⟨hcs, _⟩ | ⟨x, l, c, zs, hcs, _, hl, hm, hz, _, hcell, hwz⟩
    · simp [Value.cells] at hcs
      obtain ⟨rfl, rfl, rfl⟩ := hcs
      exact ⟨[], .inl ⟨rfl, rfl, rfl, rfl⟩⟩
    · simp [Value.cells] at hcs
      obtain ⟨rfl, rfl, rfl⟩ := hcs
      exact ⟨zs, .inr ⟨_, rfl, hl, hm, by simpa using hz, hcell, hwz⟩⟩
  clear hA0 hval0
  refine (walk a0 len0 cap0 z0 a1 len1 cap1 z1 W w0 w1).mono fun e W' ⟨he, bel⟩ => ?_
  subst he
  exact ⟨_, rfl, _, _, _, [], _, [], hW', trodAll_mk1 (shut_bool Try.underlying4 _), (trodAll_cons_mk (Below.trod laidOut (by kernel_rfl) (of_decide_eq_true (by kernel_rfl)) k0 bel lt0) (trodAll_cons_mk (Below.trod laidOut (by kernel_rfl) (of_decide_eq_true (by kernel_rfl)) k1 bel lt1) trodAll_mk0)), rfl, bel.frame _, fun h => by cases h⟩

theorem over : Rows.fnPolyRow.holds Try.pinned (OpenSpec.ofChange Rows.fnPolySpec) :=
  OpenClaim.holds_of_wide 3 Try.f3 rfl rfl rfl rfl rfl rfl rfl ⟨rfl, rfl, rfl, rfl, rfl⟩ rfl rfl rfl rfl rfl (by kernel_rfl) Try.func3 (by kernel_rfl)
    (of_decide_eq_true (by kernel_rfl)) (by unfold Func.isWrapper; first | (rw [if_pos (by decide +kernel)]; kernel_rfl) | (rw [if_neg (by decide +kernel)]; exact ⟨rfl, rfl⟩))
    (fun os started H enc _ => lifted os started H enc)

/-- ████ THE STATEMENT ████ -/
theorem proved : Rows.FnPolySaid := over
end Go.Proofs.Ytnlmbcdaolccbaa.fnPoly
