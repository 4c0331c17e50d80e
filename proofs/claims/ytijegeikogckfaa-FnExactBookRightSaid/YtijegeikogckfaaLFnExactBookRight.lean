/- PROVED: the statement 'FnExactBookRightSaid': at every argument the law's function answers true and leaves its arguments as they were. The frame was written by the kit's own frame writer. -/
import Derived.Test.YtijegeikogckfaaBookC
import Derived.Test.YtijegeikogckfaaOpenB
import Derived.Test.YtijegeikogckfaaBkPD
import Derived.Deep.RegionHeld3
import Derived.Test.YtijegeikogckfaaRows
import Derived.WalkKit
import Derived.ProofKit
import Derived.OpenShut
import Derived.ShutString
import Derived.ChangeOld
import Derived.Below
import Derived.Carry
namespace Go.Proofs.Ytijegeikogckfaa.fnExactBookRight
open Go.ChangeShapes Go.WideShapes Go.ChangeAt Go.RowKit IRow
open Go.ChangeMaps (open_string shut_string)
set_option linter.unusedVariables false
theorem own : ownKnob Try.prog.godebug = none := by kernel_rfl
theorem laidOut : laidOutB Try.prog = true := by kernel_rfl


/-! ### The walk. -/
set_option maxRecDepth 100000 in
set_option maxHeartbeats 4000000 in
theorem walk (c0 : Int) (c1 : Int) (c2 : Int) (c3 : Int) (a1 : Option Addr) (n1 : Nat) (a3 : Nat) (a2 : Option Addr) (n2 : Nat) (a4 : Nat) (ts : List Tm) (is : List Im) (w : World) (hR : BkR w a1 n1 a3 a2 n2 a4 ts is) (hn : n1 ≤ maxLen ∧ n2 ≤ maxLen) (ht : ∀ i, i < n1 → TmG (ts.getD i tmD)) (hi : ∀ i, i < n2 → ImG (is.getD i imD)) :
    Calls Try.prog 4 #[.agg #[.int .i64 c0, .int .i64 c1, .int .i64 c2, .int .i64 c3, .slice a1 n1 a3, .slice a2 n2 a4]] w fun e w' => e = .returned (.bool true) ∧ Below w.heap.size w w' := by
  have HN := Lib.hid hn
  have HT := Lib.hid ht
  have HI := Lib.hid hi
  have HR := Lib.hid hR
  clear hn ht hi hR
  obtain ⟨W, hW⟩ : ∃ W, W = w.alloc (.cells #[.int .i64 c0, .int .i64 c1, .int .i64 c2, .int .i64 c3, .slice a1 n1 a3, .slice a2 n2 a4] 28) := ⟨_, rfl⟩
  have HB0 : Hid (Below w.heap.size w W) := Lib.hid (by rw [hW]; exact (Below.refl _ _).alloc (Nat.le_refl _) _)
  have HA : Hid (BoxC W w.heap.size [.int .i64 c0, .int .i64 c1, .int .i64 c2, .int .i64 c3, .slice a1 n1 a3, .slice a2 n2 a4]) := Lib.hid (by rw [hW]; exact BoxC.made _ _ _)
  have HLD : ∀ u : World, Below W.heap.size W u → Hid (BoxC u w.heap.size [.int .i64 c0, .int .i64 c1, .int .i64 c2, .int .i64 c3, .slice a1 n1 a3, .slice a2 n2 a4]) := fun u hu => Lib.hid (HA.out.below hu)
  have HRW : ∀ u : World, Below W.heap.size W u → Hid (BkR u a1 n1 a3 a2 n2 a4 ts is) := fun u hu => Lib.hid (HR.out.below (HB0.out.trans (hu.mono HB0.out.size)))
  go_enter Try.func4, Try.ntmps4
  go_wp2_with fail
  rw [← hW]
  clear hW
  refine (szBook_any c0 c1 c2 c3 a1 a2 n1 n2 a3 a4 ts is 1048576 _ (HRW _ (Below.refl _ _)).out (by have := HN.out.1; unfold maxLen at this; omega) (by have := HN.out.2; unfold maxLen at this; omega) HT.out HI.out (by omega) (by omega)).mono ?_
  rintro e v1 ⟨r, rfl, hr, hb⟩
  have HB1 : Hid (Below W.heap.size W v1) := Lib.hid hb
  clear hb
  rcases hr with rfl | ⟨r0, r1, ⟨hn1, hn2⟩, hs1, hs2⟩
  · go_wp2_with fail
    go_ret
    exact ⟨rfl, HB0.out.trans (HB1.out.mono HB0.out.size)⟩
  · have hnn : ¬ r < 0 := by omega
    have HS1 : Hid (∀ t, t < n1 → (ts.getD t tmD).lk.size ≤ maxLen) := HT
    clear hs1 hs2 HS1
    obtain ⟨lt, c, _⟩ := (HLD _ HB1.out).out
    have x0 := c 0 _ rfl
    have x1 := c 1 _ rfl
    have x2 := c 2 _ rfl
    have x3 := c 3 _ rfl
    have x4 := c 4 _ rfl
    have x5 := c 5 _ rfl
    clear c lt
    go_wp2_with fail
    refine (toBook_any c0 c1 c2 c3 a1 a2 n1 n2 a3 a4 ts is _ (HRW _ HB1.out).out hn1 hn2).mono ?_
    rintro e v2 ⟨b1, b3, b2, b4, rfl, ho, hb⟩
    have HB2 := Lib.hid (HB1.out.trans (hb.mono HB1.out.size))
    have HO2 := Lib.hid ho
    clear hb ho x0 x1 x2 x3 x4 x5
    go_wp2_with fail
    refine (specBookRight_any ⟨c0, c1, c2, c3, ts, is⟩ b1 b2 n1 n2 b3 b4 _ HO2.out.read hn1 hn2 HT.out HI.out).mono ?_
    rintro e v3 ⟨rfl, hb⟩
    have HB3 := Lib.hid (HB2.out.trans (hb.mono HB2.out.size))
    obtain ⟨lt, c, _⟩ := (HLD _ HB3.out).out
    have x0 := c 0 _ rfl
    have x1 := c 1 _ rfl
    have x2 := c 2 _ rfl
    have x3 := c 3 _ rfl
    have x4 := c 4 _ rfl
    have x5 := c 5 _ rfl
    clear c lt hb HO2
    go_wp2_with fail
    refine (toBook_any c0 c1 c2 c3 a1 a2 n1 n2 a3 a4 ts is _ (HRW _ HB3.out).out hn1 hn2).mono ?_
    rintro e v4 ⟨e1, e3, e2, e4, rfl, ho, hb⟩
    obtain ⟨V, hV⟩ : ∃ V, V = v4.alloc (.cells #[.int .i64 c0, .int .i64 c1, .int .i64 c2, .int .i64 c3, .slice e1 n1 e3, .slice e2 n2 e4] 35) := ⟨_, rfl⟩
    have HB4 : Hid (Below W.heap.size W V) := Lib.hid (by rw [hV]; exact (HB3.out.trans (hb.mono HB3.out.size)).alloc (HB3.out.trans (hb.mono HB3.out.size)).size _)
    have HX : Hid (BoxC V v4.heap.size [.int .i64 c0, .int .i64 c1, .int .i64 c2, .int .i64 c3, .slice e1 n1 e3, .slice e2 n2 e4]) := Lib.hid (by rw [hV]; exact BoxC.made _ _ _)
    have HO4 := Lib.hid (ho.below (show Below v4.heap.size v4 V by rw [hV]; exact (Below.refl _ _).alloc (Nat.le_refl _) _))
    clear hb ho x0 x1 x2 x3 x4 x5
    go_wp2_with fail
    rw [← hV]
    clear hV
    refine (implBookRight_any ⟨c0, c1, c2, c3, ts, is⟩ e1 e2 n1 n2 e3 e4 _ HO4.out.read hn1 hn2 HT.out HI.out).mono ?_
    rintro e v5 ⟨rfl, hb⟩
    have HB5 := Lib.hid (HB4.out.trans (hb.mono HB4.out.size))
    have HO5 := Lib.hid (HO4.out.below hb)
    have HX5 := Lib.hid (HX.out.below hb)
    clear hb HO4 HX HB4 HB3 HB2 HB1
    have HC : Hid (∀ u : World, Below v5.heap.size v5 u → u.cell? ⟨w.heap.size, 0, none⟩ = some (.int .i64 c0) ∧ u.cell? ⟨w.heap.size, 1, none⟩ = some (.int .i64 c1) ∧ u.cell? ⟨w.heap.size, 2, none⟩ = some (.int .i64 c2) ∧ u.cell? ⟨w.heap.size, 3, none⟩ = some (.int .i64 c3) ∧ u.cell? ⟨w.heap.size, 4, none⟩ = some (.slice a1 n1 a3) ∧ u.cell? ⟨w.heap.size, 5, none⟩ = some (.slice a2 n2 a4) ∧ u.cell? ⟨v4.heap.size, 0, none⟩ = some (.int .i64 c0) ∧ u.cell? ⟨v4.heap.size, 1, none⟩ = some (.int .i64 c1) ∧ u.cell? ⟨v4.heap.size, 2, none⟩ = some (.int .i64 c2) ∧ u.cell? ⟨v4.heap.size, 3, none⟩ = some (.int .i64 c3) ∧ u.cell? ⟨v4.heap.size, 4, none⟩ = some (.slice e1 n1 e3) ∧ u.cell? ⟨v4.heap.size, 5, none⟩ = some (.slice e2 n2 e4)) := Lib.hid (fun u hu => ⟨(HLD u (HB5.out.trans (hu.mono HB5.out.size))).out.cell 0 _ rfl, (HLD u (HB5.out.trans (hu.mono HB5.out.size))).out.cell 1 _ rfl, (HLD u (HB5.out.trans (hu.mono HB5.out.size))).out.cell 2 _ rfl, (HLD u (HB5.out.trans (hu.mono HB5.out.size))).out.cell 3 _ rfl, (HLD u (HB5.out.trans (hu.mono HB5.out.size))).out.cell 4 _ rfl, (HLD u (HB5.out.trans (hu.mono HB5.out.size))).out.cell 5 _ rfl, (HX5.out.below hu).cell 0 _ rfl, (HX5.out.below hu).cell 1 _ rfl, (HX5.out.below hu).cell 2 _ rfl, (HX5.out.below hu).cell 3 _ rfl, (HX5.out.below hu).cell 4 _ rfl, (HX5.out.below hu).cell 5 _ rfl⟩)
    go_wp2_with fail
    have hFn : Below v5.heap.size v5 v5.drew := (Below.refl _ _).drew
    go_region_held3 (fun u => u.cell? ⟨w.heap.size, 0, none⟩ = some (.int .i64 c0) ∧ u.cell? ⟨w.heap.size, 1, none⟩ = some (.int .i64 c1) ∧ u.cell? ⟨w.heap.size, 2, none⟩ = some (.int .i64 c2) ∧ u.cell? ⟨w.heap.size, 3, none⟩ = some (.int .i64 c3) ∧ u.cell? ⟨w.heap.size, 4, none⟩ = some (.slice a1 n1 a3) ∧ u.cell? ⟨w.heap.size, 5, none⟩ = some (.slice a2 n2 a4) ∧ u.cell? ⟨v4.heap.size, 0, none⟩ = some (.int .i64 c0) ∧ u.cell? ⟨v4.heap.size, 1, none⟩ = some (.int .i64 c1) ∧ u.cell? ⟨v4.heap.size, 2, none⟩ = some (.int .i64 c2) ∧ u.cell? ⟨v4.heap.size, 3, none⟩ = some (.int .i64 c3) ∧ u.cell? ⟨v4.heap.size, 4, none⟩ = some (.slice e1 n1 e3) ∧ u.cell? ⟨v4.heap.size, 5, none⟩ = some (.slice e2 n2 e4)) (exact HC.out _ hFn)
      (first | (go_at_call 11; refine Calls.mono (toBook_any c0 c1 c2 c3 a1 a2 n1 n2 a3 a4 ts is _ (HRW _ (HB5.out.trans (hFn.mono HB5.out.size))).out hn1 hn2) ?_; rintro e v6 ⟨g1, g3, g2, g4, rfl, ho, hb⟩; have HO6 := Lib.hid ho.read; have hFn := hFn.trans (hb.mono hFn.size); clear ho hb) | (go_at_call 13; refine Calls.mono (eqBook_same c0 c1 c2 c3 e1 e2 _ _ n1 n2 e3 e4 _ _ ts is _ (HO5.out.below hFn).read HO6.out hn1 hn2) ?_; rintro e v7 ⟨rfl, hb⟩; have hFn := hFn.trans (hb.mono hFn.size)))
    all_goals
      go_wp2_with fail
      go_ret
      exact ⟨rfl, HB0.out.trans ((HB5.out.trans (hFn.mono HB5.out.size)).mono HB0.out.size)⟩

/-! ### THE ROW's STEP -/
set_option maxRecDepth 100000 in
theorem lifted (os : Os) (started : os.Started) (H : Type) (enc : TypeId × Value → H) :
    ReturnsInHanded {} Try.checked os 4 .any (Rows.fnExactBookRightSpec.pre6 enc Try.prog Try.f4 Rows.fnExactBookRightRow.domain false) (Rows.fnExactBookRightSpec.post enc Try.prog Try.f4 false true false false) := by
  refine returnsInHanded_of_change (C := Try.checked) own started (by kernel_rfl) Try.func4
    (ChangeSpec.witness6 (enc := enc) (C := Try.checked) false ⟨#[], #[.agg #[.int .i64 0, .int .i64 0, .int .i64 0, .int .i64 0, .slice none 0 0, .slice none 0 0]], []⟩ 8 (by kernel_rfl) (by kernel_rfl) (by kernel_rfl) (by kernel_rfl)) ?_
  intro W base args ds gs before hval0 hW hcnd _
  have hval : ∀ (j : Nat) t v, Try.f4.params[j]? = some t → args[j]? = some v → Value.okWide Try.prog W .any base t v := hval0
  have hW' := hW
  obtain ⟨p, q, hA0, hV, rfl, hfz, hnd⟩ := hW
  have hA : DataW.TrodAll enc Try.prog W 0 (fun _ => true) true Try.f4.params.toList args.toList ds p := hA0
  rw [Try.params4] at hA hval
  obtain ⟨v0, vs0, d0, ds0, p0, q_0, hargs0, rfl, rfl, h0, r0⟩ := trodAll_cons hA
  obtain ⟨rfl, rfl, rfl⟩ := trodAll_nil r0
  obtain rfl : args = #[v0] := by cases args; simp_all
  obtain ⟨rfl, rfl⟩ := trodVars_none hV
  have k0 := h0
  have lt0 : ∀ x ∈ p0, x.block < W.heap.size := by obtain ⟨m, hm⟩ := k0; exact DataW.trod_lt m _ _ _ hm
  obtain ⟨c0, c1, c2, c3, a1, n1, a3, a2, n2, a4, ts, is, rfl, hR, hn, ht, hi⟩ := book_open (hval 0 28 v0 rfl rfl) h0
  clear hA0 hval0
  simp only [List.append_nil] at hW'
  refine (walk c0 c1 c2 c3 a1 n1 a3 a2 n2 a4 ts is W hR hn ht hi).mono fun e W' ⟨he, hg⟩ => ?_
  subst he
  exact ⟨_, rfl, _, _, _, [], _, [], hW', trodAll_mk1 (shut_bool Try.underlying4 _), (trodAll_cons_mk (Below.trod laidOut (by kernel_rfl) (of_decide_eq_true (by kernel_rfl)) k0 hg lt0) trodAll_mk0), rfl, hg.frame _, fun h => by cases h⟩
theorem over : Rows.fnExactBookRightRow.holds Try.pinned (OpenSpec.ofChange Rows.fnExactBookRightSpec) :=
  OpenClaim.holds_of_wide 4 Try.f4 rfl rfl rfl rfl rfl rfl rfl ⟨rfl, rfl, rfl, rfl, rfl⟩ rfl rfl rfl rfl rfl (by kernel_rfl) Try.func4 (by kernel_rfl)
    (of_decide_eq_true (by kernel_rfl)) (by unfold Func.isWrapper; first | (rw [if_pos (by decide +kernel)]; kernel_rfl) | (rw [if_neg (by decide +kernel)]; exact ⟨rfl, rfl⟩))
    (fun os started H enc _ => lifted os started H enc)
theorem proved : Rows.FnExactBookRightSaid :=
  over
end Go.Proofs.Ytijegeikogckfaa.fnExactBookRight
