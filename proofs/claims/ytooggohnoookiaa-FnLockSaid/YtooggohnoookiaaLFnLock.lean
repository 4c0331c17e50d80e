/- PROVED: the statement 'FnLockSaid': at every argument the law's function answers true and leaves its arguments as they were. The frame was written by the kit's own frame writer. -/
import Derived.Test.YtooggohnoookiaaLockC
import Derived.Test.YtooggohnoookiaaRows
import Derived.WalkKit
import Derived.ProofKit
import Derived.OpenShut
import Derived.ShutString
import Derived.ChangeOld
import Derived.Below
import Derived.ChangeOld
import Derived.Below
namespace Go.Proofs.Ytooggohnoookiaa.fnLock
open Go.ChangeShapes Go.WideShapes Go.ChangeAt Go.RowKit
open Go.ChangeMaps (open_string shut_string)
set_option linter.unusedVariables false

theorem own : ownKnob Try.prog.godebug = none := by kernel_rfl
theorem laidOut : laidOutB Try.prog = true := by kernel_rfl

/-- WHAT THE WALK IS TOLD OF A SLICE OF INTEGERS THAT CAME IN: it is nil; or it leads to a row of 'cap' cells, the numbers 'zs' (the first 'len' are its elements, the rest its spare room), each fitting its kind. -/
def IsRow (k : IntKind) (w : World) (a : Option Addr) (len cap : Nat) (zs : List Int) : Prop :=
  (a = none ∧ len = 0 ∧ cap = 0 ∧ zs = []) ∨
  ∃ x, a = some x ∧ len ≤ cap ∧ cap ≤ maxLen ∧ zs.length = cap ∧ (∀ i, i < zs.length → w.cell? (x.add i) = some (.int k (zs.getD i 0))) ∧ ∀ n ∈ zs, (Lit.int k n).wf = true

open G
theorem code_of {w : World} {a : Option Addr} {len cap : Nat} {zs : List Int} (h : IsRow .u8 w a len cap zs) : CodeAt w a len := by
  rcases h with ⟨rfl, rfl, rfl, rfl⟩ | ⟨x, rfl, hl, hm, hz, hc, hw⟩
  · exact ⟨0, 0, fun h => absurd h (by omega), fun i hi => absurd hi (by omega)⟩
  · by_cases h0 : 0 < len
    · obtain ⟨b, o, sp⟩ := x
      have h1 := hc 0 (by omega)
      have hsp : sp = none := by simpa [Addr.add] using World.cell?_spot h1
      subst hsp
      refine ⟨b, o, fun _ => rfl, fun i hi => ?_⟩
      have h2 := hc i (by omega)
      have hb := bounds_u8 (hw (zs.getD i 0) (by rw [List.getD_eq_getElem?_getD, List.getElem?_eq_getElem (show i < zs.length by omega)]; exact List.getElem_mem _))
      have e1 : (⟨b, o, none⟩ : Addr).add i = ⟨b, o + i, none⟩ := by unfold Addr.add; split <;> simp_all
      exact ⟨_, hb.1, hb.2, by rw [← e1]; exact h2⟩
    · exact ⟨0, 0, fun h => absurd h h0, fun i hi => absurd hi (by omega)⟩

/-! ### The walk. -/
set_option maxRecDepth 100000 in
set_option maxHeartbeats 4000000 in
theorem walk (a0 : Option Addr) (len0 cap0 : Nat) (z0 : List Int) (a1 : Option Addr) (len1 cap1 : Nat) (z1 : List Int) (w : World) (w0 : IsRow .u8 w a0 len0 cap0 z0) (w1 : IsRow .u8 w a1 len1 cap1 z1) :
    Calls Try.prog 3 #[.slice a0 len0 cap0, .slice a1 len1 cap1] w fun e w' => e = .returned (.bool true) ∧ Below w.heap.size w w' := by
  have hc0 := code_of w0
  have hc1 := code_of w1
  clear w0 w1
  by_cases h0 : 1048576 < len0
  · go_enter Try.func3, Try.ntmps3
    go_wp2
    go_ret
    exact ⟨rfl, Below.refl _ _⟩
  · by_cases h1 : 1048576 < len1
    · go_enter Try.func3, Try.ntmps3
      go_wp2
      go_ret
      exact ⟨rfl, Below.refl _ _⟩
    · go_enter Try.func3, Try.ntmps3
      go_wp2_with fail
      refine (drawLock_any a0 len0 cap0 w hc0 (by omega)).mono ?_
      rintro e wa ⟨key, t, n, rfl, hk, ht, hn, hba⟩
      have HK : Hid (key.size ≤ maxLen) := Lib.hid (by unfold maxLen; omega)
      have HT : Hid (t.size ≤ maxLen) := Lib.hid (by unfold maxLen; omega)
      have HA := Lib.hid hba
      have hk2 : key.size ≤ 30000 := hk
      clear hba hn
      go_wp2_with fail
      refine (implLock_any key n t _ HK.out HT.out).mono ?_
      rintro e wb ⟨rfl, hb⟩
      have HB := Lib.hid (HA.out.trans (hb.mono HA.out.size)); clear hb
      go_wp2_with fail
      refine (drawCheckOf_any a1 len1 cap1 _ (hc1.below HB.out) (by omega)).mono ?_
      rintro e wc ⟨m, rfl, hm, hb⟩
      have HM : Hid (m.size ≤ maxLen) := Lib.hid (by unfold maxLen; omega)
      have HC := Lib.hid (HB.out.trans (hb.mono HB.out.size)); clear hb hm
      go_wp2_with fail
      refine (specLock_any key n t _ HK.out HT.out).mono ?_
      rintro e wd ⟨rfl, hb⟩
      have HD := Lib.hid (HC.out.trans (hb.mono HC.out.size)); clear hb
      go_wp2_with fail
      refine (implCheckOf_any m _ HM.out).mono ?_
      rintro e we ⟨rfl, hb⟩
      have HE := Lib.hid (HD.out.trans (hb.mono HD.out.size)); clear hb
      go_wp2_with fail
      refine (specCheckOf_any m _ HM.out).mono ?_
      rintro e wf ⟨rfl, rfl⟩
      by_cases hok : lkOk key n t
      · have HL := Lib.hid (lock_back hok)
        obtain ⟨⟨hx1, hx2⟩, ⟨hx3, hx4⟩, hx5⟩ := hok
        obtain ⟨x, hx⟩ : ∃ x, x = lockS key n t := ⟨_, rfl⟩
        rw [← hx] at HL ⊢
        have hxs := HL.out.1
        have HX : Hid (x.size ≤ maxLen) := Lib.hid (by unfold maxLen; omega)
        clear hx
        go_wp2_with fail
        refine (implLock_any key n x _ HK.out HX.out).mono ?_
        rintro e wg ⟨rfl, hb⟩
        rw [HL.out.2]
        have HG := Lib.hid (HE.out.trans (hb.mono HE.out.size)); clear hb
        go_wp2_with fail
        go_ret
        exact ⟨rfl, HG.out⟩
      · generalize lockS key n t = x
        unfold lkOk at hok
        by_cases hx1 : 1 ≤ key.size
        · by_cases hx2 : key.size ≤ 16
          · by_cases hx3 : 0 ≤ n
            · by_cases hx4 : n ≤ 1000000
              · have hx5 : ¬ t.size ≤ 40 := fun h => hok ⟨⟨hx1, hx2⟩, ⟨hx3, hx4⟩, h⟩
                clear hok
                go_wp2_with fail
                go_ret
                exact ⟨rfl, HE.out⟩
              · clear hok
                go_wp2_with fail
                go_ret
                exact ⟨rfl, HE.out⟩
            · clear hok
              go_wp2_with fail
              go_ret
              exact ⟨rfl, HE.out⟩
          · clear hok
            go_wp2_with fail
            go_ret
            exact ⟨rfl, HE.out⟩
        · clear hok
          go_wp2_with fail
          go_ret
          exact ⟨rfl, HE.out⟩

/-! ### THE ROW's STEP: WRITTEN OUT: LEAVE IT -/
set_option maxRecDepth 100000 in
theorem lifted (os : Os) (started : os.Started) (H : Type) (enc : TypeId × Value → H) :
    ReturnsInHanded {} Try.checked os 3 .any (Rows.fnLockSpec.pre6 enc Try.prog Try.f3 Rows.fnLockRow.domain false) (Rows.fnLockSpec.post enc Try.prog Try.f3 false true false false) := by
  refine returnsInHanded_of_change (C := Try.checked) own started (by kernel_rfl) Try.func3
    (ChangeSpec.witness6 (enc := enc) (C := Try.checked) false ⟨#[], #[.slice none 0 0, .slice none 0 0], []⟩ 8 (by kernel_rfl) (by kernel_rfl) (by kernel_rfl) (by kernel_rfl)) ?_
  intro W base args ds gs before hval0 hW hcnd _
  have hval : ∀ (j : Nat) t v, Try.f3.params[j]? = some t → args[j]? = some v → Value.okWide Try.prog W .any base t v := hval0
  have hW' := hW
  obtain ⟨p, q, hA0, hV, rfl, hfz, hnd⟩ := hW
  have hA : DataW.TrodAll enc Try.prog W 0 (fun _ => true) true Try.f3.params.toList args.toList ds p := hA0
  rw [Try.params3] at hA hval
  obtain ⟨v0, vs0, d0, ds0, p0, q0, hargs, rfl, rfl, h0, r0⟩ := trodAll_cons hA
  obtain ⟨v1, vs1, d1, ds1, p1, q1, rfl, rfl, rfl, h1, r1⟩ := trodAll_cons r0
  obtain ⟨rfl, rfl, rfl⟩ := trodAll_nil r1
  obtain rfl : args = #[v0, v1] := by cases args; simp_all
  obtain ⟨rfl, rfl⟩ := trodVars_none hV
  obtain ⟨a0, len0, cap0, rfl⟩ := okWide_slice Try.underlying22 (hval 0 22 v0 rfl rfl)
  have k0 := h0
  have lt0 : ∀ x ∈ p0, x.block < W.heap.size := by obtain ⟨m, hm⟩ := k0; exact DataW.trod_lt m _ _ _ hm
  obtain ⟨z0, w0⟩ : ∃ zs, IsRow .u8 W a0 len0 cap0 zs := by
    obtain ⟨fuel, hf⟩ := h0
    rcases open_ints Try.underlying22 Try.underlying5 (by kernel_rfl) hf with ⟨hcs, _⟩ | ⟨x, l, c, zs, hcs, _, hl, hm, hz, _, hcell, hwz⟩
    · simp [Value.cells] at hcs
      obtain ⟨rfl, rfl, rfl⟩ := hcs
      exact ⟨[], .inl ⟨rfl, rfl, rfl, rfl⟩⟩
    · simp [Value.cells] at hcs
      obtain ⟨rfl, rfl, rfl⟩ := hcs
      exact ⟨zs, .inr ⟨_, rfl, hl, hm, by simpa using hz, hcell, hwz⟩⟩
  obtain ⟨a1, len1, cap1, rfl⟩ := okWide_slice Try.underlying22 (hval 1 22 v1 rfl rfl)
  have k1 := h1
  have lt1 : ∀ x ∈ p1, x.block < W.heap.size := by obtain ⟨m, hm⟩ := k1; exact DataW.trod_lt m _ _ _ hm
  obtain ⟨z1, w1⟩ : ∃ zs, IsRow .u8 W a1 len1 cap1 zs := by
    obtain ⟨fuel, hf⟩ := h1
    rcases open_ints Try.underlying22 Try.underlying5 (by kernel_rfl) hf with ⟨hcs, _⟩ | ⟨x, l, c, zs, hcs, _, hl, hm, hz, _, hcell, hwz⟩
    · simp [Value.cells] at hcs
      obtain ⟨rfl, rfl, rfl⟩ := hcs
      exact ⟨[], .inl ⟨rfl, rfl, rfl, rfl⟩⟩
    · simp [Value.cells] at hcs
      obtain ⟨rfl, rfl, rfl⟩ := hcs
      exact ⟨zs, .inr ⟨_, rfl, hl, hm, by simpa using hz, hcell, hwz⟩⟩
  clear hA0 hval0
  refine (walk a0 len0 cap0 z0 a1 len1 cap1 z1 W w0 w1).mono fun e W' ⟨he, bel⟩ => ?_
  subst he
  exact ⟨_, rfl, _, _, _, [], _, [], hW', trodAll_mk1 (shut_bool Try.underlying4 _), (trodAll_cons_mk (Below.trod laidOut (by kernel_rfl) (of_decide_eq_true (by kernel_rfl)) k0 bel lt0) (trodAll_cons_mk (Below.trod laidOut (by kernel_rfl) (of_decide_eq_true (by kernel_rfl)) k1 bel lt1) trodAll_mk0)), rfl, bel.frame _, fun h => by cases h⟩

theorem over : Rows.fnLockRow.holds Try.pinned (OpenSpec.ofChange Rows.fnLockSpec) :=
  OpenClaim.holds_of_wide 3 Try.f3 rfl rfl rfl rfl rfl rfl rfl ⟨rfl, rfl, rfl, rfl, rfl⟩ rfl rfl rfl rfl rfl (by kernel_rfl) Try.func3 (by kernel_rfl)
    (of_decide_eq_true (by kernel_rfl)) (by unfold Func.isWrapper; first | (rw [if_pos (by decide +kernel)]; kernel_rfl) | (rw [if_neg (by decide +kernel)]; exact ⟨rfl, rfl⟩))
    (fun os started H enc _ => lifted os started H enc)

/-- ████ THE STATEMENT ████ -/
theorem proved : Rows.FnLockSaid := over
end Go.Proofs.Ytooggohnoookiaa.fnLock
