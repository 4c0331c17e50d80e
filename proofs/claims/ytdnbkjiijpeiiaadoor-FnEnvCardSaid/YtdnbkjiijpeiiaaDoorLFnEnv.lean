/- PROVED: the statement 'FnEnvSaid': at every argument the law's function answers true and leaves its arguments as they were. The frame was written by the kit's own frame writer. -/
import Derived.Test.YtdnbkjiijpeiiaaDoorEnvM
import Derived.Test.YtdnbkjiijpeiiaaDoorDrawF
import Derived.Test.YtdnbkjiijpeiiaaDoorMEnvN
import Derived.Deep.RegionHeld3
import Derived.StillTailTactics
import Derived.Test.YtdnbkjiijpeiiaaDoorDoor
import Derived.SevenTiedAt
import Derived.WalkKit
import Derived.ProofKit
import Derived.OpenShut
import Derived.ShutString
import Derived.ChangeOld
import Derived.Below
import Derived.ChangeOld
import Derived.Below
namespace Go.Proofs.YtdnbkjiijpeiiaaDoor.fnEnv
open Go.ChangeShapes Go.WideShapes Go.ChangeAt Go.RowKit
open Go.ChangeMaps (open_string shut_string)
set_option linter.unusedVariables false

theorem laidOut : laidOutB Tryd.prog = true := by kernel_rfl

/-- WHAT THE WALK IS TOLD OF A SLICE OF INTEGERS THAT CAME IN: it is nil; or it leads to a row of 'cap' cells, the numbers 'zs' (the first 'len' are its elements, the rest its spare room), each fitting its kind. -/
def IsRow (k : IntKind) (w : World) (a : Option Addr) (len cap : Nat) (zs : List Int) : Prop :=
  (a = none ∧ len = 0 ∧ cap = 0 ∧ zs = []) ∨
  ∃ x, a = some x ∧ len ≤ cap ∧ cap ≤ maxLen ∧ zs.length = cap ∧ (∀ i, i < zs.length → w.cell? (x.add i) = some (.int k (zs.getD i 0))) ∧ ∀ n ∈ zs, (Lit.int k n).wf = true

open Go.RowKit Go.PlainAid G IRow MNum MCrc MGet
theorem field_env (W : World) (a b c d e f : Value) : (Instr.field 29 (.agg #[a, b, c, d, e, f]) 1).run Tryd.prog W = .ok f W := by kernel_rfl
theorem code_of {w : World} {a : Option Addr} {len cap : Nat} {zs : List Int} (h : IsRow .u8 w a len cap zs) : CodeAt w a len := by
  rcases h with ⟨rfl, rfl, rfl, rfl⟩ | ⟨x, rfl, hl, hm, hz, hc, hw⟩
  · exact ⟨0, 0, fun h => absurd h (by omega), fun i hi => absurd hi (by omega)⟩
  · by_cases h0 : 0 < len
    · obtain ⟨b, o, sp⟩ := x
      have h1 := hc 0 (by omega)
      have hsp : sp = none := by simpa [Addr.add] using World.cell?_spot h1
      subst hsp
      refine ⟨b, o, fun _ => rfl, fun i hi => ?_⟩
      have h2 := hc i (by omega)
      have hb := bounds_u8 (hw (zs.getD i 0) (by rw [List.getD_eq_getElem?_getD, List.getElem?_eq_getElem (show i < zs.length by omega)]; exact List.getElem_mem _))
      have e1 : (⟨b, o, none⟩ : Addr).add i = ⟨b, o + i, none⟩ := by unfold Addr.add; split <;> simp_all
      exact ⟨_, hb.1, hb.2, by rw [← e1]; exact h2⟩
    · exact ⟨0, 0, fun h => absurd h h0, fun i hi => absurd hi (by omega)⟩

/-! ### The walk. -/
set_option maxRecDepth 100000 in
set_option maxHeartbeats 4000000 in
theorem walk (a0 : Option Addr) (len0 cap0 : Nat) (z0 : List Int) (a1 : Option Addr) (len1 cap1 : Nat) (z1 : List Int) (w : World) (w0 : IsRow .u8 w a0 len0 cap0 z0) (w1 : IsRow .u8 w a1 len1 cap1 z1) (hg : ET w) :
    Calls Tryd.prog 3 #[.slice a0 len0 cap0, .slice a1 len1 cap1] w fun e w' => e = .returned (.bool true) ∧ Below w.heap.size w w' := by
  have hf2 := field_env
  have hc0 := code_of w0
  have hc1 := code_of w1
  clear w0 w1
  by_cases h0 : 1048576 < len0
  · go_enter Tryd.func3, Tryd.ntmps3
    go_wp2
    go_ret
    exact ⟨rfl, Below.refl _ _⟩
  · by_cases h1 : 1048576 < len1
    · go_enter Tryd.func3, Tryd.ntmps3
      go_wp2
      go_ret
      exact ⟨rfl, Below.refl _ _⟩
    · go_enter Tryd.func3, Tryd.ntmps3
      go_wp2_with fail
      refine (drawEnvBytes_any a0 len0 cap0 w hc0 (by omega)).mono ?_
      rintro e wa ⟨g, n, m, x, t, rfl, hm, ht, hba⟩
      have HE0 : Hid ((wa.alloc (.cells #[.int .i64 g, .int .i64 n, .int .i64 m, .int .i64 x, .string t] 24)).ownsRow wa.heap.size 24 5 (.slice (some ⟨wa.heap.size, 0, none⟩) 1 1) 1 [.int .i64 g, .int .i64 n, .int .i64 m, .int .i64 x, .string t]) := Lib.hid (World.ownsRow_lit wa #[.int .i64 g, .int .i64 n, .int .i64 m, .int .i64 x, .string t] 1 (Nat.le_refl _) (by decide) rfl)
      have HB0 := Lib.hid (hba.alloc hba.size (.cells #[.int .i64 g, .int .i64 n, .int .i64 m, .int .i64 x, .string t] 24))
      obtain ⟨h, hh⟩ : ∃ h, h = wa.heap.size := ⟨_, rfl⟩
      have hhw : w.heap.size ≤ h := by rw [hh]; exact hba.size
      have HTM : Hid (t.size ≤ maxLen) := by unfold maxLen; exact (by omega : t.size ≤ 9223372036854775807)
      clear hba hm
      go_wp2_with fail
      rw [← hh] at HE0 ⊢
      generalize wa.alloc (.cells #[.int .i64 g, .int .i64 n, .int .i64 m, .int .i64 x, .string t] 24) = wb at *
      clear hh
      refine (implEnvBytes_any g n m x t wb HTM.out).mono ?_
      rintro e wc ⟨rfl, hb⟩
      have HE1 := Lib.hid (own_below HE0.out hb)
      have HB1 := Lib.hid (HB0.out.trans (hb.mono HB0.out.size))
      clear hb HE0 HB0
      go_wp2_with fail
      refine (drawEnvRead_any a1 len1 cap1 wc (hc1.below HB1.out) (by omega)).mono ?_
      rintro e wd ⟨u, rfl, hu, hb⟩
      have HUM : Hid (u.size ≤ maxLen) := by unfold maxLen; exact (by omega : u.size ≤ 9223372036854775807)
      have HE2 := Lib.hid (own_below HE1.out hb)
      have HB2 := Lib.hid (HB1.out.trans (hb.mono HB1.out.size))
      clear hb HE1 HB1 hu
      obtain ⟨⟨⟨rg, rn, rm, rx, rt⟩, rc⟩, hr⟩ : ∃ q, q = readE u := ⟨_, rfl⟩
      have HR := Lib.hid hr
      clear hr
      go_wp2_with fail
      refine (implEnvRead_any u wd HUM.out (hg.below HB2.out)).mono ?_
      rintro e we ⟨rfl, hb⟩
      have HE3 := Lib.hid (own_below HE2.out hb)
      have HB3 := Lib.hid (HB2.out.trans (hb.mono HB2.out.size))
      clear hb HE2 HB2
      rw [← HR.out]
      unfold envOutV
      dsimp only
      have HQ3 : Hid ((we.alloc (.cells #[.int .i64 rg, .int .i64 rn, .int .i64 rm, .int .i64 rx, .string rt, .int .i64 rc] 29)).ownsRow we.heap.size 29 6 (.slice (some ⟨we.heap.size, 0, none⟩) 1 1) 1 [.int .i64 rg, .int .i64 rn, .int .i64 rm, .int .i64 rx, .string rt, .int .i64 rc]) := Lib.hid (World.ownsRow_lit we #[.int .i64 rg, .int .i64 rn, .int .i64 rm, .int .i64 rx, .string rt, .int .i64 rc] 1 (Nat.le_refl _) (by decide) rfl)
      have HE4 := Lib.hid (own_below HE3.out ((Below.refl _ _).alloc (Nat.le_refl _) (.cells #[.int .i64 rg, .int .i64 rn, .int .i64 rm, .int .i64 rx, .string rt, .int .i64 rc] 29)))
      have HB4 := Lib.hid (HB3.out.alloc HB3.out.size (.cells #[.int .i64 rg, .int .i64 rn, .int .i64 rm, .int .i64 rx, .string rt, .int .i64 rc] 29))
      obtain ⟨q, hq⟩ : ∃ q, q = we.heap.size := ⟨_, rfl⟩
      clear HE3 HB3
      go_wp2_with fail
      rw [← hq] at HQ3 ⊢
      generalize we.alloc (.cells #[.int .i64 rg, .int .i64 rn, .int .i64 rm, .int .i64 rx, .string rt, .int .i64 rc] 29) = wf at *
      clear hq
      refine (drawEnvelopes_any a1 len1 cap1 wf (hc1.below HB4.out) (by omega)).mono ?_
      rintro e wg ⟨sg, sn, sm, sa, sk, sc, l, rfl, hk, hL, hlt, hb⟩
      have HE5 := Lib.hid (own_below HE4.out hb)
      have HQ5 := Lib.hid (own_below HQ3.out hb)
      have HB5 := Lib.hid (HB4.out.trans (hb.mono HB4.out.size))
      have HLT := Lib.hid hlt
      clear hb HE4 HQ3 HB4 hlt
      go_wp2_with fail
      refine (implEnvelopes_any sg sn sm sa sk sc l wg hL (by omega) HLT.out).mono ?_
      rintro e wh ⟨xA, xK, xC, rfl, hown, hb⟩
      have HXA := Lib.hid hown
      have HL2 := Lib.hid (hL.below hb)
      have HE6 := Lib.hid (own_below HE5.out hb)
      have HQ6 := Lib.hid (own_below HQ5.out hb)
      have HB6 := Lib.hid (HB5.out.trans (hb.mono HB5.out.size))
      clear hb hown hL HE5 HQ5 HB5
      go_wp2_with fail
      refine (specEnvelopes_any sg sn sm sa sk sc l wh HL2.out (by omega) HLT.out).mono ?_
      rintro e wi ⟨yA, yK, yC, rfl, hown, hb⟩
      have HXA2 := Lib.hid (own_below HXA.out hb)
      have HYA := Lib.hid hown
      have HE7 := Lib.hid (own_below HE6.out hb)
      have HQ7 := Lib.hid (own_below HQ6.out hb)
      have HB7 := Lib.hid (HB6.out.trans (hb.mono HB6.out.size))
      have HGE := Lib.hid (hg.below HB7.out)
      have hxn := (ER.own HXA2.out).len
      have hyn := (ER.own hown).len
      have hrl : (envsL sg sn sm l).length ≤ 20 := envsL_len _ _ _ _
      clear hb hown HE6 HQ6 HB6 HXA HL2 HLT
      generalize envsL sg sn sm l = L at *
      subst hxn
      subst hyn
      have HRB := Lib.hid (readE_env (g := g) (n := n) (m := m) (x := x) (t := t))
      have HBK : Hid (rc = 0 → envS rg rn rm rx rt = u) := Lib.hid (fun h => env_back (by rw [← HR.out, h]))
      have HRTS : Hid (rc = 0 → rt.size ≤ 16) := Lib.hid (fun h => (envB_bounds (env_right (by rw [← HR.out, h]))).2.2.2.2.2)
      have HSB : Hid (∀ v : World, Calls Tryd.prog 12 #[.agg #[.int .i64 g, .int .i64 n, .int .i64 m, .int .i64 x, .string t]] v fun e w' => e = .returned (.string (envS g n m x t)) ∧ Below v.heap.size v w') := Lib.hid (fun v => specEnvBytes_any g n m x t v HTM.out)
      have HSR : Hid (∀ v : World, Calls Tryd.prog 13 #[.string u] v fun e w' => e = .returned (.agg #[.int .i64 rg, .int .i64 rn, .int .i64 rm, .int .i64 rx, .string rt, .int .i64 rc]) ∧ Below v.heap.size v w') := Lib.hid (fun v => by
        have hc := specEnvRead_any u v HUM.out
        rw [← HR.out] at hc
        exact hc)
      have HIR : Hid (∀ v : World, Calls Tryd.prog 14 #[.agg #[.int .i64 g, .int .i64 n, .int .i64 m, .int .i64 x, .string t]] v fun e w' => e = .returned (.bool (envB g n m x t)) ∧ Below v.heap.size v w') := Lib.hid (fun v => implEnvRight_any g n m x t v HTM.out)
      have HRI : Hid (∀ v : World, Calls Tryd.prog 15 #[.agg #[.int .i64 g, .int .i64 n, .int .i64 m, .int .i64 x, .string t]] v fun e w' => e = .returned (.bool (envB g n m x t)) ∧ Below v.heap.size v w') := Lib.hid (fun v => specEnvRight_any g n m x t v HTM.out)
      obtain ⟨F, hF⟩ : ∃ F : World → Prop, F = fun z => Below w.heap.size w z ∧ z.ownsRow h 24 5 (.slice (some ⟨h, 0, none⟩) 1 1) 1 [.int .i64 g, .int .i64 n, .int .i64 m, .int .i64 x, .string t] ∧ z.ownsRow q 29 6 (.slice (some ⟨q, 0, none⟩) 1 1) 1 [.int .i64 rg, .int .i64 rn, .int .i64 rm, .int .i64 rx, .string rt, .int .i64 rc] ∧ ER z xA L.length xC L ∧ ER z yA L.length yC L := ⟨_, rfl⟩
      have F0 : F wi := by rw [hF]; exact ⟨HB7.out, HE7.out, HQ7.out, ER.own HXA2.out, ER.own HYA.out⟩
      have FB : Hid (∀ a b, F a → Below a.heap.size a b → F b) := Lib.hid (by
        rw [hF]
        rintro a b ⟨x0, x1, x2, x3, x4⟩ hb
        exact ⟨x0.trans (hb.mono x0.size), own_below x1 hb, own_below x2 hb, x3.below hb, x4.below hb⟩)
      have gB : Hid (∀ a, F a → Below w.heap.size w a) := Lib.hid (by rw [hF]; exact fun a h => h.1)
      have gX : Hid (∀ a, F a → ER a xA L.length xC L) := Lib.hid (by rw [hF]; exact fun a h => h.2.2.2.1)
      have gY : Hid (∀ a, F a → ER a yA L.length yC L) := Lib.hid (by rw [hF]; exact fun a h => h.2.2.2.2)
      have gS : Hid (∀ z, F z → (F z ∧ z.cell? ⟨h, 0, none⟩ = some (.int .i64 g) ∧ z.cell? ⟨h, 1, none⟩ = some (.int .i64 n) ∧ z.cell? ⟨h, 2, none⟩ = some (.int .i64 m) ∧ z.cell? ⟨h, 3, none⟩ = some (.int .i64 x) ∧ z.cell? ⟨h, 4, none⟩ = some (.string t) ∧ z.cell? ⟨q, 0, none⟩ = some (.int .i64 rg) ∧ z.cell? ⟨q, 1, none⟩ = some (.int .i64 rn) ∧ z.cell? ⟨q, 2, none⟩ = some (.int .i64 rm) ∧ z.cell? ⟨q, 3, none⟩ = some (.int .i64 rx) ∧ z.cell? ⟨q, 4, none⟩ = some (.string rt) ∧ z.cell? ⟨q, 5, none⟩ = some (.int .i64 rc))) := Lib.hid (by
        rw [hF]
        intro z hz
        obtain ⟨c0, c1, c2, c3, c4, _⟩ := own5c hz.2.1
        obtain ⟨d0, d1, d2, d3, d4, d5, _⟩ := own6 hz.2.2.1
        exact ⟨hz, c0, c1, c2, c3, c4, d0, d1, d2, d3, d4, d5⟩)
      clear hF HB7 HE7 HQ7 HXA2 HYA
      have hFn := FB.out _ _ F0 (Below.refl _ _).drew
      go_wp2_with fail
      have HS0 : Hid (envB g n m x t = false → envS g n m x t = ⟨#[]⟩) := Lib.hid envS_no
      have HS1 : Hid (envB g n m x t = true → ∃ v : ByteArray, v.size ≤ 66 ∧ envS g n m x t = v ++ crc4 v) := Lib.hid (fun h => ⟨envT g n m x t, envT_size (envB_bounds h).2.2.2.2.2, by rw [envS_yes h, sealS_yes (by have := envT_size (g := g) (n := n) (m := m) (x := x) (envB_bounds h).2.2.2.2.2; omega)]⟩)
      generalize envS g n m x t = s at *
      generalize envB g n m x t = eb at *
      go_region_held3 (fun z => F z ∧ z.cell? ⟨h, 0, none⟩ = some (.int .i64 g) ∧ z.cell? ⟨h, 1, none⟩ = some (.int .i64 n) ∧ z.cell? ⟨h, 2, none⟩ = some (.int .i64 m) ∧ z.cell? ⟨h, 3, none⟩ = some (.int .i64 x) ∧ z.cell? ⟨h, 4, none⟩ = some (.string t) ∧ z.cell? ⟨q, 0, none⟩ = some (.int .i64 rg) ∧ z.cell? ⟨q, 1, none⟩ = some (.int .i64 rn) ∧ z.cell? ⟨q, 2, none⟩ = some (.int .i64 rm) ∧ z.cell? ⟨q, 3, none⟩ = some (.int .i64 rx) ∧ z.cell? ⟨q, 4, none⟩ = some (.string rt) ∧ z.cell? ⟨q, 5, none⟩ = some (.int .i64 rc)) (exact gS.out _ hFn)
        (first
          | (go_at_call 12; refine Calls.mono (HSB.out _) ?_; rintro e w1 ⟨rfl, hb⟩; have hFn := FB.out _ _ hFn hb)
          | (go_at_call 13; refine Calls.mono (HSR.out _) ?_; rintro e w1 ⟨rfl, hb⟩; have hFn := FB.out _ _ hFn hb)
          | (go_at_call 14; refine Calls.mono (HIR.out _) ?_; rintro e w1 ⟨rfl, hb⟩; have hFn := FB.out _ _ hFn hb)
          | (go_at_call 15; refine Calls.mono (HRI.out _) ?_; rintro e w1 ⟨rfl, hb⟩; have hFn := FB.out _ _ hFn hb))
      have F1 := hFn
      clear hFn F0
      go_wp2_with fail
      go_loopw [15] (fun i z => ∃ j : Nat, j ≤ L.length ∧ i = .int .i64 j ∧ F z) (fun i _ => L.length - (intOf i).toNat)
      case atStart => exact ⟨0, Nat.zero_le _, rfl, F1⟩
      case round =>
        obtain ⟨j, hj, rfl, hF⟩ := hrel
        clear F1
        by_cases hlt : j < L.length
        · have HFd := Lib.hid (FB.out _ _ hF (Below.refl _ _).drew)
          obtain ⟨o1, p1, rfl, hg1, c0, c1, c2, c3, c4⟩ := (gX.out _ hF).at hlt
          obtain ⟨o2, p2, rfl, hg2, d0, d1, d2, d3, d4⟩ := (gY.out _ hF).at hlt
          generalize (L.getD j evD).g = q0 at *
          generalize (L.getD j evD).n = q1 at *
          generalize (L.getD j evD).m = q2 at *
          generalize (L.getD j evD).x = q3 at *
          generalize (L.getD j evD).t = q4 at *
          clear hF
          go_wp2_with fail
          go_region
          go_wp2_with fail
          go_roundw
          case rel => exact ⟨j + 1, by omega, by go_num, HFd.out⟩
          case measure => simp [intOf]; omega
        · have hje : j = L.length := by omega
          subst hje
          obtain ⟨_, k0, k1, k2, k3, k4, l0, l1, l2, l3, l4, l5⟩ := gS.out _ hF
          have HF := Lib.hid hF
          clear hF
          by_cases hrc : rc = 0
          · have HRT : Hid (rt.size ≤ maxLen) := by unfold maxLen; exact (by have := HRTS.out hrc; omega : rt.size ≤ 9223372036854775807)
            have HBKE := Lib.hid (HBK.out hrc)
            subst hrc
            go_wp2_with fail
            refine (implEnvBytes_any rg rn rm rx rt _ HRT.out).mono ?_
            rintro e z1 ⟨rfl, hb⟩
            rw [HBKE.out]
            have HF1 := Lib.hid (FB.out _ _ HF.out hb)
            clear hb HF k0 k1 k2 k3 k4 l0 l1 l2 l3 l4 l5
            cases eb
            · have hs0 := HS0.out rfl
              subst hs0
              go_wp2_with fail
              go_ret
              exact ⟨rfl, gB.out _ HF1.out⟩
            · generalize z1 = zz at *
              obtain ⟨v, hv, hs⟩ := HS1.out rfl
              have hc4 := crc4_size v
              have hvs : s.size = v.size + 4 := by rw [hs, ByteArray.size_append, hc4]
              have HV := Lib.hid hs
              have hvne : (s.toList == ([] : List UInt8)) = false := by
                rw [Lib.toList_data, beq_eq_false_iff_ne]
                intro h
                have : s.data.toList.length = 0 := by rw [h]; rfl
                have h2 : s.size = s.data.toList.length := by simp
                omega
              have HVS := Lib.hid hvs
              have hv4 : 4 ≤ s.size := by omega
              have hv8 : s.size ≤ 8000 := by omega
              have HRE := Lib.hid (HRB.out rfl)
              have HBW := Lib.hid (gB.out _ HF1.out)
              clear hs hvs hc4
              have hcb := fun (W : World) => run_bytes_of_string (P := Tryd.prog) W 9 22 5 s Tryd.underlying9 Tryd.underlying22 Tryd.underlying5
              go_wp2_with fail
              have hBA := bytesAt_made zz s (grownCap zz s.size 0 5) 5
              have HBD : Hid (Below zz.heap.size zz ((zz.alloc (.cells (bytesRow s (grownCap zz s.size 0 5)) 5 ((bytesRow s (grownCap zz s.size 0 5)).size, (bytesRow s (grownCap zz s.size 0 5)).size + 1))).drew)) := Lib.hid (Below.drew ((Below.refl _ _).alloc (Nat.le_refl _) _))
              obtain ⟨wd, hwd⟩ : ∃ wd, wd = (zz.alloc (.cells (bytesRow s (grownCap zz s.size 0 5)) 5 ((bytesRow s (grownCap zz s.size 0 5)).size, (bytesRow s (grownCap zz s.size 0 5)).size + 1))).drew := ⟨_, rfl⟩
              have hgd : zz.heap.size < wd.heap.size := by rw [hwd]; show zz.heap.size < (zz.heap.push _).size; rw [Array.size_push]; omega
              rw [← hwd] at hBA HBD
              rw [← hwd]
              clear hwd
              generalize grownCap zz s.size 0 5 = cap at *
              generalize hgz : zz.heap.size = gz at hBA hgd ⊢
              have HCD := Lib.hid (hc1.below (HBW.out.trans (HBD.out.mono HBW.out.size)))
              refine (lwAt_any a1 len1 cap1 0 (s.size : Int) _ HCD.out (by omega) (by omega) (by omega)).mono ?_
              rintro e wd' ⟨r, rfl, hr0, hr1, rfl⟩
              obtain ⟨j, rfl⟩ : ∃ j : Nat, r = j := ⟨r.toNat, by omega⟩
              have hj : j < s.size := by omega
              have hcj := hBA.cell j hj
              have hfj := hBA.free j hj
              obtain ⟨r2, hr2, hcall0⟩ := lwAt_is a1 len1 cap1 1 255 wd.drew (CodeAt.below HCD.out (Below.refl _ _).drew) (by omega) (by omega) (by omega)
              have hcall : Calls Tryd.prog 16 #[.slice a1 len1 cap1, .int .i64 1, .int .i64 255] wd.drew fun e w' => e = .returned (.int .i64 r2) ∧ w' = wd.drew := hcall0
              clear hcall0
              obtain ⟨mk, hmk⟩ : ∃ mk : Int, 1 + r2 = mk := ⟨_, rfl⟩
              have hm1 : IntKind.i64.wrap (1 + r2) = mk := by rw [hmk]; exact IntWalk.i64_in _ (by omega)
              have hm2 : IntKind.u8.wrap mk = mk := by rw [IntKind.wrap_u8]; omega
              have hbt0 := PlainAid.bt_nonneg s j
              have hbt1 := PlainAid.bt_le s j
              obtain ⟨y, hy⟩ : ∃ y : Int, bits .xor .u8 (PlainAid.bt s j) mk = y := ⟨_, rfl⟩
              go_wp2_with fail
              go_still_tail 12, (by kernel_rfl)
              still_call hcall
              repeat still_step
              refine wpStill_nil ?_
              change wpList _ _ _ _ _ wd.drew
              have hcj' : wd.drew.cell? ⟨gz, j, none⟩ = some (.int .u8 (PlainAid.bt s j)) := hcj
              have hfj' : wd.drew.frozen? ⟨gz, j, none⟩ = false := hfj
              have HBD' := Lib.hid HBD.out.drew
              have hBA' := hBA.drew
              have hgd' : gz < wd.drew.heap.size := hgd
              generalize wd.drew = wp at *
              go_wp2_with fail
              simp only [hy]
              have HF2 := Lib.hid (FB.out _ _ HF1.out (HBD'.out.setCell (p := ⟨gz, j, none⟩) (Nat.le_of_eq hgz) (.int .u8 y)))
              have HTA := Lib.hid (turned_made (y := y) hBA' hj)
              have hg1 : gz < (wp.setCell ⟨gz, j, none⟩ (.int .u8 y)).heap.size := by simpa using hgd'
              generalize wp.setCell ⟨gz, j, none⟩ (.int .u8 y) = wq at *
              have HVM : Hid (s.size ≤ maxLen) := by unfold maxLen; exact (by omega : s.size ≤ 9223372036854775807)
              have hyr : 0 ≤ y ∧ y ≤ 255 := by rw [← hy]; exact bounds_u8 (wf_bits _ _ _ _)
              have hyn : y ≠ PlainAid.bt s j := by rw [← hy]; exact xor8_ne hbt0 hbt1 (by omega) (by omega)
              have HO2 : Hid (openS (turned s j y) = (⟨#[]⟩, 0, 5)) := Lib.hid (open_turned (t := v) (j := j) (by omega) (by rw [turned_size, HV.out]) (by rw [turned_size]; exact hj) (by rw [bt_turned hyr hj, if_pos rfl, ← HV.out]; exact hyn) (fun i hi => by rw [← HV.out]; exact bt_turned_other hyr hi))
              have HVM2 : Hid ((turned s j y).size ≤ maxLen) := Lib.hid (by rw [turned_size]; exact HVM.out)
              have HRE2 : Hid (readE (turned s j y) = (evD, 5)) := Lib.hid (by rw [readE_code (by rw [HO2.out]; decide), HO2.out])
              clear hy hyr hyn hmk hm1 hm2 hcj hcj' hfj hfj' hcall hBA' HBD' hBA HBD hbt0 hbt1 hr2 hr0 hr1 hgd' hgd hv8 hv4 hcb
              obtain ⟨F2, hF2⟩ : ∃ F2 : World → Prop, F2 = fun z => F z ∧ gz < z.heap.size ∧ TurnedAt z gz s j y := ⟨_, rfl⟩
              have F20 : F2 wq := by rw [hF2]; exact ⟨HF2.out, hg1, HTA.out⟩
              have FB2 : Hid (∀ a b, F2 a → Below a.heap.size a b → F2 b) := Lib.hid (by
                rw [hF2]
                rintro a b ⟨x0, x1, x2⟩ hb
                exact ⟨FB.out _ _ x0 hb, Nat.lt_of_lt_of_le x1 hb.size, x2.below hb x1⟩)
              have gB2 : Hid (∀ a, F2 a → Below w.heap.size w a) := Lib.hid (by rw [hF2]; exact fun a h => gB.out _ h.1)
              have gS2 : Hid (∀ z, F2 z → (F2 z ∧ z.cell? ⟨h, 0, none⟩ = some (.int .i64 g) ∧ z.cell? ⟨h, 1, none⟩ = some (.int .i64 n) ∧ z.cell? ⟨h, 2, none⟩ = some (.int .i64 m) ∧ z.cell? ⟨h, 3, none⟩ = some (.int .i64 x) ∧ z.cell? ⟨h, 4, none⟩ = some (.string t) ∧ (convert 22 9 (.slice (some ⟨gz, 0, none⟩) s.size cap)).run Tryd.prog z = .ok (.string (turned s j y)) z)) := Lib.hid (by
                rw [hF2]
                intro z hz
                obtain ⟨_, c0, c1, c2, c3, c4, _⟩ := gS.out _ hz.1
                exact ⟨hz, c0, c1, c2, c3, c4, conv_at (P := Tryd.prog) 22 9 5 Tryd.underlying22 Tryd.underlying5 Tryd.underlying9 (cap := cap) hz.2.2⟩)
              have HRD1 : Hid (∀ z, F2 z → Calls Tryd.prog 8 #[.string s] z fun e w' => e = .returned (.agg #[.int .i64 g, .int .i64 n, .int .i64 m, .int .i64 x, .string t, .int .i64 0]) ∧ Below z.heap.size z w') := Lib.hid (fun z hz => by
                have hc := implEnvRead_any s z HVM.out (hg.below (gB2.out _ hz))
                rw [HRE.out] at hc
                exact hc)
              have HRD2 : Hid (∀ z, F2 z → Calls Tryd.prog 8 #[.string (turned s j y)] z fun e w' => e = .returned (.agg #[.int .i64 0, .int .i64 0, .int .i64 0, .int .i64 0, .string ByteArray.empty, .int .i64 5]) ∧ Below z.heap.size z w') := Lib.hid (fun z hz => by
                have hc := implEnvRead_any (turned s j y) z HVM2.out (hg.below (gB2.out _ hz))
                rw [HRE2.out] at hc
                exact hc)
              have hFn := FB2.out _ _ F20 (Below.refl _ _).drew
              clear hF2 F20 HF2 HTA hg1 HO2 HVM2 HRE2 HRE HV HCD HBW HF1
              generalize turned s j y = u2 at *
              go_region_held3 (fun z => F2 z ∧ z.cell? ⟨h, 0, none⟩ = some (.int .i64 g) ∧ z.cell? ⟨h, 1, none⟩ = some (.int .i64 n) ∧ z.cell? ⟨h, 2, none⟩ = some (.int .i64 m) ∧ z.cell? ⟨h, 3, none⟩ = some (.int .i64 x) ∧ z.cell? ⟨h, 4, none⟩ = some (.string t) ∧ (convert 22 9 (.slice (some ⟨gz, 0, none⟩) s.size cap)).run Tryd.prog z = .ok (.string u2) z) (exact gS2.out _ hFn)
                (first
                  | (go_at_call 8; (with_reducible refine Calls.mono (HRD1.out _ hFn) ?_); rintro e w1 ⟨rfl, hb⟩; have hFn := FB2.out _ _ hFn hb)
                  | (go_at_call 8; (with_reducible refine Calls.mono (HRD2.out _ hFn) ?_); rintro e w1 ⟨rfl, hb⟩; have hFn := FB2.out _ _ hFn hb))
              all_goals
                have HFZ := Lib.hid (gB2.out _ hFn)
                clear hFn
                go_wp2_with fail
                go_ret
                exact ⟨rfl, HFZ.out⟩
          · have hrb : (rc == 0) = false := by simp [hrc]
            have HF1 := HF
            clear HF k0 k1 k2 k3 k4 l0 l1 l2 l3 l4
            cases eb
            · have hs0 := HS0.out rfl
              subst hs0
              go_wp2_with fail
              go_ret
              exact ⟨rfl, gB.out _ HF1.out⟩
            · generalize wr = zz at *
              obtain ⟨v, hv, hs⟩ := HS1.out rfl
              have hc4 := crc4_size v
              have hvs : s.size = v.size + 4 := by rw [hs, ByteArray.size_append, hc4]
              have HV := Lib.hid hs
              have hvne : (s.toList == ([] : List UInt8)) = false := by
                rw [Lib.toList_data, beq_eq_false_iff_ne]
                intro h
                have : s.data.toList.length = 0 := by rw [h]; rfl
                have h2 : s.size = s.data.toList.length := by simp
                omega
              have HVS := Lib.hid hvs
              have hv4 : 4 ≤ s.size := by omega
              have hv8 : s.size ≤ 8000 := by omega
              have HRE := Lib.hid (HRB.out rfl)
              have HBW := Lib.hid (gB.out _ HF1.out)
              clear hs hvs hc4
              have hcb := fun (W : World) => run_bytes_of_string (P := Tryd.prog) W 9 22 5 s Tryd.underlying9 Tryd.underlying22 Tryd.underlying5
              go_wp2_with fail
              have hBA := bytesAt_made zz s (grownCap zz s.size 0 5) 5
              have HBD : Hid (Below zz.heap.size zz ((zz.alloc (.cells (bytesRow s (grownCap zz s.size 0 5)) 5 ((bytesRow s (grownCap zz s.size 0 5)).size, (bytesRow s (grownCap zz s.size 0 5)).size + 1))).drew)) := Lib.hid (Below.drew ((Below.refl _ _).alloc (Nat.le_refl _) _))
              obtain ⟨wd, hwd⟩ : ∃ wd, wd = (zz.alloc (.cells (bytesRow s (grownCap zz s.size 0 5)) 5 ((bytesRow s (grownCap zz s.size 0 5)).size, (bytesRow s (grownCap zz s.size 0 5)).size + 1))).drew := ⟨_, rfl⟩
              have hgd : zz.heap.size < wd.heap.size := by rw [hwd]; show zz.heap.size < (zz.heap.push _).size; rw [Array.size_push]; omega
              rw [← hwd] at hBA HBD
              rw [← hwd]
              clear hwd
              generalize grownCap zz s.size 0 5 = cap at *
              generalize hgz : zz.heap.size = gz at hBA hgd ⊢
              have HCD := Lib.hid (hc1.below (HBW.out.trans (HBD.out.mono HBW.out.size)))
              refine (lwAt_any a1 len1 cap1 0 (s.size : Int) _ HCD.out (by omega) (by omega) (by omega)).mono ?_
              rintro e wd' ⟨r, rfl, hr0, hr1, rfl⟩
              obtain ⟨j, rfl⟩ : ∃ j : Nat, r = j := ⟨r.toNat, by omega⟩
              have hj : j < s.size := by omega
              have hcj := hBA.cell j hj
              have hfj := hBA.free j hj
              obtain ⟨r2, hr2, hcall0⟩ := lwAt_is a1 len1 cap1 1 255 wd.drew (CodeAt.below HCD.out (Below.refl _ _).drew) (by omega) (by omega) (by omega)
              have hcall : Calls Tryd.prog 16 #[.slice a1 len1 cap1, .int .i64 1, .int .i64 255] wd.drew fun e w' => e = .returned (.int .i64 r2) ∧ w' = wd.drew := hcall0
              clear hcall0
              obtain ⟨mk, hmk⟩ : ∃ mk : Int, 1 + r2 = mk := ⟨_, rfl⟩
              have hm1 : IntKind.i64.wrap (1 + r2) = mk := by rw [hmk]; exact IntWalk.i64_in _ (by omega)
              have hm2 : IntKind.u8.wrap mk = mk := by rw [IntKind.wrap_u8]; omega
              have hbt0 := PlainAid.bt_nonneg s j
              have hbt1 := PlainAid.bt_le s j
              obtain ⟨y, hy⟩ : ∃ y : Int, bits .xor .u8 (PlainAid.bt s j) mk = y := ⟨_, rfl⟩
              go_wp2_with fail
              go_still_tail 12, (by kernel_rfl)
              still_call hcall
              repeat still_step
              refine wpStill_nil ?_
              change wpList _ _ _ _ _ wd.drew
              have hcj' : wd.drew.cell? ⟨gz, j, none⟩ = some (.int .u8 (PlainAid.bt s j)) := hcj
              have hfj' : wd.drew.frozen? ⟨gz, j, none⟩ = false := hfj
              have HBD' := Lib.hid HBD.out.drew
              have hBA' := hBA.drew
              have hgd' : gz < wd.drew.heap.size := hgd
              generalize wd.drew = wp at *
              go_wp2_with fail
              simp only [hy]
              have HF2 := Lib.hid (FB.out _ _ HF1.out (HBD'.out.setCell (p := ⟨gz, j, none⟩) (Nat.le_of_eq hgz) (.int .u8 y)))
              have HTA := Lib.hid (turned_made (y := y) hBA' hj)
              have hg1 : gz < (wp.setCell ⟨gz, j, none⟩ (.int .u8 y)).heap.size := by simpa using hgd'
              generalize wp.setCell ⟨gz, j, none⟩ (.int .u8 y) = wq at *
              have HVM : Hid (s.size ≤ maxLen) := by unfold maxLen; exact (by omega : s.size ≤ 9223372036854775807)
              have hyr : 0 ≤ y ∧ y ≤ 255 := by rw [← hy]; exact bounds_u8 (wf_bits _ _ _ _)
              have hyn : y ≠ PlainAid.bt s j := by rw [← hy]; exact xor8_ne hbt0 hbt1 (by omega) (by omega)
              have HO2 : Hid (openS (turned s j y) = (⟨#[]⟩, 0, 5)) := Lib.hid (open_turned (t := v) (j := j) (by omega) (by rw [turned_size, HV.out]) (by rw [turned_size]; exact hj) (by rw [bt_turned hyr hj, if_pos rfl, ← HV.out]; exact hyn) (fun i hi => by rw [← HV.out]; exact bt_turned_other hyr hi))
              have HVM2 : Hid ((turned s j y).size ≤ maxLen) := Lib.hid (by rw [turned_size]; exact HVM.out)
              have HRE2 : Hid (readE (turned s j y) = (evD, 5)) := Lib.hid (by rw [readE_code (by rw [HO2.out]; decide), HO2.out])
              clear hy hyr hyn hmk hm1 hm2 hcj hcj' hfj hfj' hcall hBA' HBD' hBA HBD hbt0 hbt1 hr2 hr0 hr1 hgd' hgd hv8 hv4 hcb
              obtain ⟨F2, hF2⟩ : ∃ F2 : World → Prop, F2 = fun z => F z ∧ gz < z.heap.size ∧ TurnedAt z gz s j y := ⟨_, rfl⟩
              have F20 : F2 wq := by rw [hF2]; exact ⟨HF2.out, hg1, HTA.out⟩
              have FB2 : Hid (∀ a b, F2 a → Below a.heap.size a b → F2 b) := Lib.hid (by
                rw [hF2]
                rintro a b ⟨x0, x1, x2⟩ hb
                exact ⟨FB.out _ _ x0 hb, Nat.lt_of_lt_of_le x1 hb.size, x2.below hb x1⟩)
              have gB2 : Hid (∀ a, F2 a → Below w.heap.size w a) := Lib.hid (by rw [hF2]; exact fun a h => gB.out _ h.1)
              have gS2 : Hid (∀ z, F2 z → (F2 z ∧ z.cell? ⟨h, 0, none⟩ = some (.int .i64 g) ∧ z.cell? ⟨h, 1, none⟩ = some (.int .i64 n) ∧ z.cell? ⟨h, 2, none⟩ = some (.int .i64 m) ∧ z.cell? ⟨h, 3, none⟩ = some (.int .i64 x) ∧ z.cell? ⟨h, 4, none⟩ = some (.string t) ∧ (convert 22 9 (.slice (some ⟨gz, 0, none⟩) s.size cap)).run Tryd.prog z = .ok (.string (turned s j y)) z)) := Lib.hid (by
                rw [hF2]
                intro z hz
                obtain ⟨_, c0, c1, c2, c3, c4, _⟩ := gS.out _ hz.1
                exact ⟨hz, c0, c1, c2, c3, c4, conv_at (P := Tryd.prog) 22 9 5 Tryd.underlying22 Tryd.underlying5 Tryd.underlying9 (cap := cap) hz.2.2⟩)
              have HRD1 : Hid (∀ z, F2 z → Calls Tryd.prog 8 #[.string s] z fun e w' => e = .returned (.agg #[.int .i64 g, .int .i64 n, .int .i64 m, .int .i64 x, .string t, .int .i64 0]) ∧ Below z.heap.size z w') := Lib.hid (fun z hz => by
                have hc := implEnvRead_any s z HVM.out (hg.below (gB2.out _ hz))
                rw [HRE.out] at hc
                exact hc)
              have HRD2 : Hid (∀ z, F2 z → Calls Tryd.prog 8 #[.string (turned s j y)] z fun e w' => e = .returned (.agg #[.int .i64 0, .int .i64 0, .int .i64 0, .int .i64 0, .string ByteArray.empty, .int .i64 5]) ∧ Below z.heap.size z w') := Lib.hid (fun z hz => by
                have hc := implEnvRead_any (turned s j y) z HVM2.out (hg.below (gB2.out _ hz))
                rw [HRE2.out] at hc
                exact hc)
              have hFn := FB2.out _ _ F20 (Below.refl _ _).drew
              clear hF2 F20 HF2 HTA hg1 HO2 HVM2 HRE2 HRE HV HCD HBW HF1
              generalize turned s j y = u2 at *
              go_region_held3 (fun z => F2 z ∧ z.cell? ⟨h, 0, none⟩ = some (.int .i64 g) ∧ z.cell? ⟨h, 1, none⟩ = some (.int .i64 n) ∧ z.cell? ⟨h, 2, none⟩ = some (.int .i64 m) ∧ z.cell? ⟨h, 3, none⟩ = some (.int .i64 x) ∧ z.cell? ⟨h, 4, none⟩ = some (.string t) ∧ (convert 22 9 (.slice (some ⟨gz, 0, none⟩) s.size cap)).run Tryd.prog z = .ok (.string u2) z) (exact gS2.out _ hFn)
                (first
                  | (go_at_call 8; (with_reducible refine Calls.mono (HRD1.out _ hFn) ?_); rintro e w1 ⟨rfl, hb⟩; have hFn := FB2.out _ _ hFn hb)
                  | (go_at_call 8; (with_reducible refine Calls.mono (HRD2.out _ hFn) ?_); rintro e w1 ⟨rfl, hb⟩; have hFn := FB2.out _ _ hFn hb))
              all_goals
                have HFZ := Lib.hid (gB2.out _ hFn)
                clear hFn
                go_wp2_with fail
                go_ret
                exact ⟨rfl, HFZ.out⟩


set_option maxRecDepth 100000 in
theorem contract (H : Type) (enc : TypeId × Value → H) (W : World) (base : Nat) (args : Array Value) (ds gs : List (DataW H)) (before : List MemPlace)
    (hval0 : ∀ (j : Nat) t v, Tryd.f3.params[j]? = some t → args[j]? = some v → Value.okWide Tryd.prog W .any base t v)
    (hW : DataW.Whole enc Tryd.prog Tryd.f3.params.toList Rows.fnEnvSpec.vars false W args.toList ds gs before) (hL : laidMetH Tryd.prog laidL W) :
    Calls Tryd.prog 3 args W fun e W' => ∃ v, e = .returned v ∧ Rows.fnEnvSpec.post enc Tryd.prog Tryd.f3 false true false false W args v W' := by
  have hval : ∀ (j : Nat) t v, Tryd.f3.params[j]? = some t → args[j]? = some v → Value.okWide Tryd.prog W .any base t v := hval0
  have hW' := hW
  obtain ⟨p, q, hA0, hV, rfl, hfz, hnd⟩ := hW
  have hA : DataW.TrodAll enc Tryd.prog W 0 (fun _ => true) true Tryd.f3.params.toList args.toList ds p := hA0
  rw [Tryd.params3] at hA hval
  obtain ⟨v0, vs0, d0, ds0, p0, q0, hargs, rfl, rfl, h0, r0⟩ := trodAll_cons hA
  obtain ⟨v1, vs1, d1, ds1, p1, q1, rfl, rfl, rfl, h1, r1⟩ := trodAll_cons r0
  obtain ⟨rfl, rfl, rfl⟩ := trodAll_nil r1
  obtain rfl : args = #[v0, v1] := by cases args; simp_all
  obtain ⟨rfl, rfl⟩ := trodVars_none hV
  obtain ⟨a0, len0, cap0, rfl⟩ := okWide_slice Tryd.underlying22 (hval 0 22 v0 rfl rfl)
  have k0 := h0
  have lt0 : ∀ x ∈ p0, x.block < W.heap.size := by obtain ⟨m, hm⟩ := k0; exact DataW.trod_lt m _ _ _ hm
  obtain ⟨z0, w0⟩ : ∃ zs, IsRow .u8 W a0 len0 cap0 zs := by
    obtain ⟨fuel, hf⟩ := h0
    rcases open_ints Tryd.underlying22 Tryd.underlying5 (by kernel_rfl) hf with ⟨hcs, _⟩ | ⟨x, l, c, zs, hcs, _, hl, hm, hz, _, hcell, hwz⟩
    · simp [Value.cells] at hcs
      obtain ⟨rfl, rfl, rfl⟩ := hcs
      exact ⟨[], .inl ⟨rfl, rfl, rfl, rfl⟩⟩
    · simp [Value.cells] at hcs
      obtain ⟨rfl, rfl, rfl⟩ := hcs
      exact ⟨zs, .inr ⟨_, rfl, hl, hm, by simpa using hz, hcell, hwz⟩⟩
  obtain ⟨a1, len1, cap1, rfl⟩ := okWide_slice Tryd.underlying22 (hval 1 22 v1 rfl rfl)
  have k1 := h1
  have lt1 : ∀ x ∈ p1, x.block < W.heap.size := by obtain ⟨m, hm⟩ := k1; exact DataW.trod_lt m _ _ _ hm
  obtain ⟨z1, w1⟩ : ∃ zs, IsRow .u8 W a1 len1 cap1 zs := by
    obtain ⟨fuel, hf⟩ := h1
    rcases open_ints Tryd.underlying22 Tryd.underlying5 (by kernel_rfl) hf with ⟨hcs, _⟩ | ⟨x, l, c, zs, hcs, _, hl, hm, hz, _, hcell, hwz⟩
    · simp [Value.cells] at hcs
      obtain ⟨rfl, rfl, rfl⟩ := hcs
      exact ⟨[], .inl ⟨rfl, rfl, rfl, rfl⟩⟩
    · simp [Value.cells] at hcs
      obtain ⟨rfl, rfl, rfl⟩ := hcs
      exact ⟨zs, .inr ⟨_, rfl, hl, hm, by simpa using hz, hcell, hwz⟩⟩
  clear hA0 hval0
  refine (walk a0 len0 cap0 z0 a1 len1 cap1 z1 W w0 w1 (et_of_laid hL)).mono fun e W' ⟨he, bel⟩ => ?_
  subst he
  exact ⟨_, rfl, _, _, _, [], _, [], hW', trodAll_mk1 (shut_bool Tryd.underlying4 _), (trodAll_cons_mk (Below.trod laidOut (by kernel_rfl) (of_decide_eq_true (by kernel_rfl)) k0 bel lt0) (trodAll_cons_mk (Below.trod laidOut (by kernel_rfl) (of_decide_eq_true (by kernel_rfl)) k1 bel lt1) trodAll_mk0)), rfl, bel.frame _, fun h => by cases h⟩
theorem reads (os : Os) {H : Type} (enc : TypeId × Value → H) : ∃ places, DataW.whole enc Tryd.prog ((laidWorld os).forCall (fun _ _ => 0) ⟨#[], #[Value.slice none 0 0, Value.slice none 0 0], []⟩).memory Tryd.f3.params.toList Rows.fnEnvSpec.vars false (#[Value.slice none 0 0, Value.slice none 0 0] : Array Value).toList 8 = some ([.nil, .nil], [], places) :=
  ⟨[], by kernel_rfl⟩
set_option maxRecDepth 100000 in
theorem lifted (os : Os) (started : os.Started) (H : Type) (enc : TypeId × Value → H) (F : Stop.Interp) :
    ReturnsInHanded {} Tryd.checked os 3 .any ((OpenSpec.ofChange Rows.fnEnvSpec).preRow enc Tryd.prog Tryd.f3 Rows.fnEnvRow.domain false Rows.fnEnvRow.laid) (((OpenSpec.ofChange Rows.fnEnvSpec).at F).post enc Tryd.prog Tryd.f3 false true false false) := by
  obtain ⟨places, hx⟩ := reads os enc
  refine returnsInHanded_of_row (C := Tryd.checked) (s := OpenSpec.ofChange Rows.fnEnvSpec) door_own started (by kernel_rfl) Tryd.func3
    (witness_row_at (enc := enc) (C := Tryd.checked) false (laidWorld os) #[Value.slice none 0 0, Value.slice none 0 0] rfl (by kernel_rfl) (by kernel_rfl) (by kernel_rfl)
      (OpenSpec.preRow_of_cond 8 hx (by kernel_rfl) (fun k hk => by cases hk) (by kernel_rfl) (laidWorld_met os _))) ?_
  intro W base args ds gs before hval hW _ _ _ hL _ _
  exact contract H enc W base args ds gs before hval hW hL
theorem said : Rows.FnEnvSaid :=
  OpenClaim.holds_of_cond 3 Tryd.f3 rfl rfl rfl rfl rfl rfl rfl ⟨rfl, rfl, rfl, rfl, rfl⟩ rfl rfl rfl rfl rfl (by kernel_rfl) Tryd.func3 (by kernel_rfl)
    (of_decide_eq_true (by kernel_rfl)) (by unfold Func.isWrapper; first | (rw [if_pos (by decide +kernel)]; kernel_rfl) | (rw [if_neg (by decide +kernel)]; exact ⟨rfl, rfl⟩))
    (fun os started H enc _ F => by rw [OpenClaim.pre_eq_preRow]; exact lifted os started H enc F)
theorem plain (f : FuncId) (fn : Func) (hf : Tryd.pinned.checked.prog.funcNamed "loop.example/g00839/laws.FnEnv" = some f) (hfn : Tryd.pinned.checked.prog.funcs[f]? = some fn) :
    true = Tryd.pinned.checked.prog.looks [] ∧ ∀ (j : Nat) t, fn.params[j]? = some t → Tryd.pinned.checked.prog.wantsStandIn t = false := by
  obtain rfl : f = 3 := Option.some.inj ((show Tryd.prog.funcNamed "loop.example/g00839/laws.FnEnv" = some 3 by kernel_rfl).symm.trans hf) |>.symm
  obtain rfl : fn = Tryd.f3 := (Option.some.inj (Tryd.func3.symm.trans hfn)).symm
  refine ⟨by kernel_rfl, fun j t ht => ?_⟩
  rw [Tryd.params3] at ht
  have h : t = 22 ∨ t = 22 := by simpa using Array.mem_of_getElem? ht
  rcases h with rfl | rfl
  · exact (show Tryd.prog.wantsStandIn 22 = false by kernel_rfl)
  · exact (show Tryd.prog.wantsStandIn 22 = false by kernel_rfl)

/-- The statement: the card, tied to the program's text. -/
theorem proved : Rows.FnEnvCardSaid :=
  Claim7.holds_tied_plain_at .later [] _ _ _ _ said (fun _ h => by cases h) (by kernel_rfl) (fun _ h => by cases h) fnEnv_row_tie rfl ⟨rfl, rfl⟩ (by kernel_rfl) rfl plain (by kernel_rfl)
end Go.Proofs.YtdnbkjiijpeiiaaDoor.fnEnv
