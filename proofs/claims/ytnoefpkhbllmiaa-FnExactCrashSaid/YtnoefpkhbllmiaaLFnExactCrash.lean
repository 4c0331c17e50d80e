/- PROVED: the statement 'FnExactCrashSaid': at every argument the law's function answers true and leaves its arguments as they were. The frame was written by the kit's own frame writer. -/
import Derived.Test.YtnoefpkhbllmiaaOpenD
import Derived.Test.YtnoefpkhbllmiaaRows
import Derived.WalkKit
import Derived.ProofKit
import Derived.OpenShut
import Derived.ShutString
import Derived.ChangeOld
import Derived.Below
import Derived.Carry
namespace Go.Proofs.Ytnoefpkhbllmiaa.fnExactCrash
open Go.ChangeShapes Go.WideShapes Go.ChangeAt Go.RowKit IRow
open Go.ChangeMaps (open_string shut_string)
set_option linter.unusedVariables false
theorem own : ownKnob Try.prog.godebug = none := by kernel_rfl


/-! ### The walk. -/
set_option maxRecDepth 100000 in
set_option maxHeartbeats 4000000 in
theorem walk (s t : ByteArray) (wd : s.size ≤ maxLen ∧ t.size ≤ maxLen) (kb : Int) (wkb : (Lit.int .i64 kb).wf = true) (w : World)  :
    Calls Try.prog 5 #[.agg #[.string s, .string t], .int .i64 kb] w fun e w' => e = .returned (.bool true) ∧ Below w.heap.size w w' := by
  have HWD := Lib.hid wd
  clear wkb
  clear wd
  obtain ⟨W, hW⟩ : ∃ W, W = w.alloc (.cells #[.string s, .string t] 23) := ⟨_, rfl⟩
  have HB0 := Lib.hid (show Below w.heap.size w W by rw [hW]; exact (Below.refl _ _).alloc (Nat.le_refl _) _)
  have HX := Lib.hid (show DkBox W w.heap.size s t by rw [hW]; exact ⟨by simp, by simp, by simp⟩)
  have x0 := HX.out.c0
  have x1 := HX.out.c1
  go_enter Try.func5, Try.ntmps5
  go_wp2_with fail
  rw [← hW]
  clear hW
  refine (szDisk_any s t _ HWD.out.1 HWD.out.2).mono ?_
  rintro e v1 ⟨⟨r, rfl, hr⟩, hb⟩
  have HB1 := Lib.hid hb
  clear hb x0 x1
  rcases hr with rfl | ⟨r0, hsz⟩
  · go_wp2_with fail
    go_ret
    exact ⟨rfl, HB0.out.trans (HB1.out.mono HB0.out.size)⟩
  · have hnn : ¬ r < 0 := by omega
    clear r0
    have x0 := (HX.out.below HB1.out).c0
    have x1 := (HX.out.below HB1.out).c1
    go_wp2_with fail
    refine (toDisk_any s t _).mono ?_
    rintro e v2 ⟨rfl, hb⟩
    have HB2 := Lib.hid (HB1.out.trans (hb.mono HB1.out.size))
    clear hb x0 x1
    unfold dkV
    dsimp only
    go_wp2_with fail
    refine (specCrash_any s t kb _ (by omega)).mono ?_
    rintro e v3 ⟨rfl, hb⟩
    have HB3 := Lib.hid (HB2.out.trans (hb.mono HB2.out.size))
    clear hb
    have x0 := (HX.out.below HB3.out).c0
    have x1 := (HX.out.below HB3.out).c1
    obtain ⟨r1, r2, hrr⟩ : ∃ r1 r2, dkCrash s t kb = (r1, r2) := ⟨_, _, rfl⟩
    rw [hrr]
    have HRR := Lib.hid hrr
    clear hrr
    obtain ⟨V, hV⟩ : ∃ V, V = v3.alloc (.cells #[.string r1, .string r2] 26) := ⟨_, rfl⟩
    have hb1 : Below v3.heap.size v3 V := by rw [hV]; exact (Below.refl _ _).alloc (Nat.le_refl _) _
    have HBV := Lib.hid (HB3.out.trans (hb1.mono HB3.out.size))
    have HG := Lib.hid (show DkBox V v3.heap.size r1 r2 by rw [hV]; exact ⟨by simp, by simp, by simp⟩)
    have hlx := (HX.out.below HB3.out).lt
    unfold dkV
    dsimp only
    go_wp2_with fail
    rw [← hV]
    clear hV x0 x1 hlx hb1
    refine (toDisk_any s t _).mono ?_
    rintro e v4 ⟨rfl, hb⟩
    have HB4 := Lib.hid (HBV.out.trans (hb.mono HBV.out.size))
    have HG4 := Lib.hid (HG.out.below hb)
    clear hb
    unfold dkV
    dsimp only
    go_wp2_with fail
    refine (implCrash_any s t kb _ (by omega)).mono ?_
    rintro e v5 ⟨rfl, hb⟩
    rw [HRR.out]
    have HB5 := Lib.hid (HB4.out.trans (hb.mono HB4.out.size))
    have HG5 := Lib.hid (HG4.out.below hb)
    clear hb
    have g0 := HG5.out.c0
    have g1 := HG5.out.c1
    have glt := HG5.out.lt
    unfold dkV
    dsimp only
    go_wp2_with fail
    refine (eqDisk_same r1 r2 _).mono ?_
    rintro e v6 ⟨rfl, hb⟩
    have HB6 := Lib.hid (HB5.out.trans ((Below.trans (by repeat' (first | exact Below.refl _ _ | refine Below.alloc ?_ (by first | exact Nat.le_refl _ | (simp; done) | (simp; omega)) _)) (hb.mono (by first | exact Nat.le_refl _ | (simp; done) | (simp; omega)))).mono HB5.out.size))
    clear hb
    go_wp2_with fail
    go_ret
    exact ⟨rfl, HB0.out.trans (HB6.out.mono HB0.out.size)⟩

/-! ### THE ROW's STEP -/
set_option maxRecDepth 100000 in
theorem lifted (os : Os) (started : os.Started) (H : Type) (enc : TypeId × Value → H) :
    ReturnsInHanded {} Try.checked os 5 .any (Rows.fnExactCrashSpec.pre6 enc Try.prog Try.f5 Rows.fnExactCrashRow.domain false) (Rows.fnExactCrashSpec.post enc Try.prog Try.f5 false true false false) := by
  refine returnsInHanded_of_change (C := Try.checked) own started (by kernel_rfl) Try.func5
    (ChangeSpec.witness6 (enc := enc) (C := Try.checked) false ⟨#[], #[.agg #[.string ByteArray.empty, .string ByteArray.empty], .int .i64 0], []⟩ 8 (by kernel_rfl) (by kernel_rfl) (by kernel_rfl) (by kernel_rfl)) ?_
  intro W base args ds gs before hval0 hW hcnd _
  have hval : ∀ (j : Nat) t v, Try.f5.params[j]? = some t → args[j]? = some v → Value.okWide Try.prog W .any base t v := hval0
  have hW' := hW
  obtain ⟨p, q, hA0, hV, rfl, hfz, hnd⟩ := hW
  have hA : DataW.TrodAll enc Try.prog W 0 (fun _ => true) true Try.f5.params.toList args.toList ds p := hA0
  rw [Try.params5] at hA hval
  obtain ⟨v0, vs0, d0, ds0, p0, q_0, hargs0, rfl, rfl, h0, r0⟩ := trodAll_cons hA
  obtain ⟨v1, vs1, d1, ds1, p1, q_1, hargs1, rfl, rfl, h1, r1⟩ := trodAll_cons r0
  obtain ⟨rfl, rfl, rfl⟩ := trodAll_nil r1
  obtain rfl : args = #[v0, v1] := by cases args; simp_all
  obtain ⟨rfl, rfl⟩ := trodVars_none hV
  obtain ⟨s, t, rfl, wd, rfl, hs0⟩ := disk_open (hval 0 23 v0 rfl rfl) h0
  obtain ⟨kb, rfl, rfl, rfl, wkb⟩ := open_int Try.underlying2 (hval 1 2 v1 rfl rfl) h1
  clear hA0 hval0
  simp only [List.append_nil] at hW'
  refine (walk s t wd kb wkb W ).mono fun e W' ⟨he, hg⟩ => ?_
  subst he
  exact ⟨_, rfl, _, _, _, [], _, [], hW', trodAll_mk1 (shut_bool Try.underlying4 _), (trodAll_cons_mk (hs0 _ _ _) (trodAll_cons_mk (shut_int Try.underlying2 wkb) trodAll_mk0)), rfl, hg.frame _, fun h => by cases h⟩
theorem over : Rows.fnExactCrashRow.holds Try.pinned (OpenSpec.ofChange Rows.fnExactCrashSpec) :=
  OpenClaim.holds_of_wide 5 Try.f5 rfl rfl rfl rfl rfl rfl rfl ⟨rfl, rfl, rfl, rfl, rfl⟩ rfl rfl rfl rfl rfl (by kernel_rfl) Try.func5 (by kernel_rfl)
    (of_decide_eq_true (by kernel_rfl)) (by unfold Func.isWrapper; first | (rw [if_pos (by decide +kernel)]; kernel_rfl) | (rw [if_neg (by decide +kernel)]; exact ⟨rfl, rfl⟩))
    (fun os started H enc _ => lifted os started H enc)
theorem proved : Rows.FnExactCrashSaid :=
  over
end Go.Proofs.Ytnoefpkhbllmiaa.fnExactCrash
