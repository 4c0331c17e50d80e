/- The statement, proved: at every argument that can be read the law answers true and leaves its arguments as they were. -/
import Derived.SevenTiedAt
import Derived.WalkKit
import Derived.ProofKit
import Derived.OpenShut
import Derived.ShutString
import Derived.ChangeOld
import Derived.Below
import Derived.Test.YtidcpdfhnhfelaaGreatDoorQRpl32
import Derived.Test.YtidcpdfhnhfelaaGreatDoorQRpl35
import Derived.Test.YtidcpdfhnhfelaaGreatDoorQRpl00
/- PROVED: the statement 'FnExactReplaySaid': at every argument the law's function answers true and leaves its arguments as they were. The frame was written by the kit's own frame writer. -/
namespace Go.Proofs.YtidcpdfhnhfelaaGreatDoor.fnExactReplay
open Go.ChangeShapes Go.WideShapes Go.ChangeAt Go.RowKit
open Go.ChangeMaps (open_string shut_string)
set_option linter.unusedVariables false      -- a walk need not use every 'w<i>' (that an integer argument fits its kind)


open G MGet Go.PlainAid Go.RowKit IRow
theorem boxC_marked {w w1 w' : World} {h : Nat} {cs : List Value} {r1 r2 : Option Nat} (b : BoxC w h cs) (hg1 : w.grownBy w1 r1) (hg2 : w1.grownBy w' r2) (h1 : ∀ q, r1 = some q → q ≠ h) (h2 : ∀ q, r2 = some q → q ≠ h) : BoxC w' h cs :=
  (b.grown hg1 (fun e => h1 h e.symm rfl)).grown hg2 (fun e => h2 h e.symm rfl)
theorem bkO_marked {w w1 w' : World} {base : Nat} {a1 a2 : Option Addr} {n1 a3 n2 a4 : Nat} {ts : List Tm} {is : List Im} {v1 v2 : Value} (h : BkO w base a1 n1 a3 a2 n2 a4 ts is) (hg1 : w.grownBy w1 v1.ownBlock) (hg2 : w1.grownBy w' v2.ownBlock) (d11 : Disj (.slice a1 n1 a3) v1) (d12 : Disj (.slice a1 n1 a3) v2) (d21 : Disj (.slice a2 n2 a4) v1) (d22 : Disj (.slice a2 n2 a4) v2) : BkO w' base a1 n1 a3 a2 n2 a4 ts is :=
  ⟨own_grown (own_grown h.t hg1 d11) hg2 d12, own_grown (own_grown h.i hg1 d21) hg2 d22⟩
theorem below_marked {B : Nat} {a w w1 w' : World} {r1 r2 : Option Nat} (h : Below B a w) (hg1 : w.grownBy w1 r1) (hg2 : w1.grownBy w' r2) (hB : B ≤ w.heap.size) (h1 : ∀ q, r1 = some q → B ≤ q) (h2 : ∀ q, r2 = some q → B ≤ q) : Below B a w' :=
  (h.grown hg1 hB h1).grown hg2 (Nat.le_trans hB hg1.size) h2

/-! ### The walk. -/
set_option maxRecDepth 100000 in
set_option maxHeartbeats 4000000 in
theorem walk (a0 : ByteArray) (w0 : a0.size ≤ maxLen) (w : World) (hg : ET w) :
    Calls Tryz.prog 4 #[.string a0] w fun e w' => e = .returned (.bool true) ∧ Below w.heap.size w w' := by
  by_cases h : 1048576 < a0.size
  · go_enter Tryz.func4, Tryz.ntmps4
    go_wp2
    go_ret
    exact ⟨rfl, Below.refl _ _⟩
  · obtain ⟨b, hbd⟩ : ∃ b, bkOf a0 = b := ⟨_, rfl⟩
    have hsz := book_sizes (bkOf_right a0)
    have HSP : Hid (∀ u, Calls Tryz.prog 11 #[.string a0] u (NewBook b.c0 b.c1 b.c2 b.c3 b.ts b.is u)) := Lib.hid (by rw [← hbd]; exact fun u => specReplay_any a0 u w0)
    have HIM : Hid (∀ u, ET u → Calls Tryz.prog 12 #[.string a0] u (NewBook b.c0 b.c1 b.c2 b.c3 b.ts b.is u)) := Lib.hid (by rw [← hbd]; exact fun u hu => implReplay_any a0 u w0 hu)
    rw [hbd] at hsz
    obtain ⟨c0, c1, c2, c3, ts, is⟩ := b
    dsimp only at hsz HSP HIM
    obtain ⟨n1, hn1e⟩ : ∃ n1, n1 = ts.length := ⟨_, rfl⟩
    obtain ⟨n2, hn2e⟩ : ∃ n2, n2 = is.length := ⟨_, rfl⟩
    have hn1 : n1 ≤ 1048576 := by have := hsz.1; omega
    have hn2 : n2 ≤ 1048576 := by have := hsz.2.1; omega
    have HN1 := Lib.hid hn1e
    have HN2 := Lib.hid hn2e
    clear hbd hsz hn1e hn2e
    go_enter Tryz.func4, Tryz.ntmps4
    go_wp2_with fail
    refine (HSP.out w).mono ?_
    rintro e w3 ⟨s1, m1, s3, s2, m2, s4, rfl, ho, hb⟩
    obtain rfl : n1 = m1 := by have := ho.len.1; have := HN1.out; omega
    obtain rfl : n2 = m2 := by have := ho.len.2; have := HN2.out; omega
    obtain ⟨V, hV⟩ : ∃ V, V = w3.alloc (.cells #[.int .i64 c0, .int .i64 c1, .int .i64 c2, .int .i64 c3, .slice s1 n1 s3, .slice s2 n2 s4] 32) := ⟨_, rfl⟩
    have hAB : Below w3.heap.size w3 V := by rw [hV]; exact (Below.refl _ _).alloc (Nat.le_refl _) _
    have HXS : Hid (BoxC V w3.heap.size [.int .i64 c0, .int .i64 c1, .int .i64 c2, .int .i64 c3, .slice s1 n1 s3, .slice s2 n2 s4]) := Lib.hid (by rw [hV]; exact BoxC.made _ _ _)
    have HOS := Lib.hid (ho.below hAB)
    have HBV := Lib.hid (hb.trans (hAB.mono hb.size))
    have HLV : Hid (w3.heap.size < V.heap.size) := Lib.hid HXS.out.lt
    have HEV := Lib.hid (hg.below HBV.out)
    clear ho hb hAB
    go_wp2_with fail
    rw [← hV]
    clear hV
    refine (HIM.out V HEV.out).mono ?_
    rintro e w4 ⟨g1, m1, g3, g2, m2, g4, rfl, ho, hb⟩
    obtain rfl : n1 = m1 := by have := ho.len.1; have := HN1.out; omega
    obtain rfl : n2 = m2 := by have := ho.len.2; have := HN2.out; omega
    obtain ⟨U, hV⟩ : ∃ V, V = w4.alloc (.cells #[.int .i64 c0, .int .i64 c1, .int .i64 c2, .int .i64 c3, .slice g1 n1 g3, .slice g2 n2 g4] 32) := ⟨_, rfl⟩
    have hAB : Below w4.heap.size w4 U := by rw [hV]; exact (Below.refl _ _).alloc (Nat.le_refl _) _
    have hVU : Below V.heap.size V U := hb.trans (hAB.mono hb.size)
    have HXG : Hid (BoxC U w4.heap.size [.int .i64 c0, .int .i64 c1, .int .i64 c2, .int .i64 c3, .slice g1 n1 g3, .slice g2 n2 g4]) := Lib.hid (by rw [hV]; exact BoxC.made _ _ _)
    have HOG := Lib.hid (ho.below hAB)
    have HGL : Hid ((∀ q, (Value.slice g1 n1 g3).ownBlock = some q → V.heap.size ≤ q ∧ q < w4.heap.size) ∧ (∀ q, (Value.slice g2 n2 g4).ownBlock = some q → V.heap.size ≤ q ∧ q < w4.heap.size)) := Lib.hid ⟨fun q hq => ho.t.lt q hq, fun q hq => ho.i.lt q hq⟩
    have HDJ : Hid (Disj (.slice s1 n1 s3) (.slice g1 n1 g3) ∧ Disj (.slice s1 n1 s3) (.slice g2 n2 g4) ∧ Disj (.slice s2 n2 s4) (.slice g1 n1 g3) ∧ Disj (.slice s2 n2 s4) (.slice g2 n2 g4)) := Lib.hid ⟨own_disj HOS.out.t ho.t, own_disj HOS.out.t ho.i, own_disj HOS.out.i ho.t, own_disj HOS.out.i ho.i⟩
    have HXS2 := Lib.hid (HXS.out.below hVU)
    have HOS2 := Lib.hid (HOS.out.below hVU)
    have HBU := Lib.hid (HBV.out.trans (hVU.mono HBV.out.size))
    have HVU := Lib.hid hVU
    clear ho hb hAB hVU HXS HOS HEV
    have x0 := (HXG.out).cell 0 _ rfl
    have x1 := (HXG.out).cell 1 _ rfl
    have x2 := (HXG.out).cell 2 _ rfl
    have x3 := (HXG.out).cell 3 _ rfl
    have x4 := (HXG.out).cell 4 _ rfl
    have x5 := (HXG.out).cell 5 _ rfl
    have y0 := (HXS2.out).cell 0 _ rfl
    have y1 := (HXS2.out).cell 1 _ rfl
    have y2 := (HXS2.out).cell 2 _ rfl
    have y3 := (HXS2.out).cell 3 _ rfl
    have y4 := (HXS2.out).cell 4 _ rfl
    have y5 := (HXS2.out).cell 5 _ rfl
    rw [hV] at x0 x1 x2 x3 x4 x5 y0 y1 y2 y3 y4 y5
    go_upto_region 5 with fail
    rw [← hV] at x0 x1 x2 x3 x4 x5 y0 y1 y2 y3 y4 y5 ⊢
    clear hV
    go_wp2_with fail
    refine (eqBook_same c0 c1 c2 c3 g1 g2 s1 s2 n1 n2 g3 g4 s3 s4 ts is U HOG.out.read HOS2.out.read hn1 hn2).mono ?_
    rintro e u5 ⟨rfl, hb⟩
    have HX5 := Lib.hid (HXG.out.below hb)
    have HO5 := Lib.hid (HOG.out.below hb)
    have HY5 := Lib.hid (HXS2.out.below hb)
    have HS5 := Lib.hid (HOS2.out.below hb)
    have HB5 := Lib.hid (HBU.out.trans (hb.mono HBU.out.size))
    have HV5 := Lib.hid (HVU.out.trans (hb.mono HVU.out.size))
    clear hb x0 x1 x2 x3 x4 x5 y0 y1 y2 y3 y4 y5 HXG HOG HXS2 HOS2 HBU HVU
    have x0 := (HX5.out).cell 0 _ rfl
    have x1 := (HX5.out).cell 1 _ rfl
    have x2 := (HX5.out).cell 2 _ rfl
    have x3 := (HX5.out).cell 3 _ rfl
    have x4 := (HX5.out).cell 4 _ rfl
    have x5 := (HX5.out).cell 5 _ rfl
    go_wp2_with fail
    refine (markBook_any c0 c1 c2 c3 g1 g2 V.heap.size n1 n2 g3 g4 ts is 1 u5 HO5.out hn1 hn2 (by decide) (by decide)).mono ?_
    rintro e u6 ⟨rfl, ho, m0, hg1, hg2⟩
    have HX6 := Lib.hid (boxC_marked HX5.out hg1 hg2 (fun q hq => by have := (HGL.out.1 q hq).2; omega) (fun q hq => by have := (HGL.out.2 q hq).2; omega))
    have HY6 := Lib.hid (boxC_marked HY5.out hg1 hg2 (fun q hq => by have := (HGL.out.1 q hq).1; have := HLV.out; omega) (fun q hq => by have := (HGL.out.2 q hq).1; have := HLV.out; omega))
    have HS6 := Lib.hid (bkO_marked HS5.out hg1 hg2 HDJ.out.1 HDJ.out.2.1 HDJ.out.2.2.1 HDJ.out.2.2.2)
    have HB6 := Lib.hid (below_marked HB5.out hg1 hg2 HB5.out.size (fun q hq => by have := (HGL.out.1 q hq).1; have := HBV.out.size; omega) (fun q hq => by have := (HGL.out.2 q hq).1; have := HBV.out.size; omega))
    have HM6 := Lib.hid ho
    have HE6 := Lib.hid (hg.below HB6.out)
    clear ho hg1 hg2 x0 x1 x2 x3 x4 x5 HX5 HY5 HS5 HB5 HO5
    obtain ⟨kk, hkk⟩ : ∃ kk : Int, kk = ((1 : Nat) : Int) + 2 * (n1 : Int) + 3 * (n2 : Int) := ⟨_, rfl⟩
    have hk0 : ¬ kk < 0 := by omega
    have HKK := Lib.hid hkk
    rw [← hkk]
    clear hkk
    have x0 := (HX6.out).cell 0 _ rfl
    have x1 := (HX6.out).cell 1 _ rfl
    have x2 := (HX6.out).cell 2 _ rfl
    have x3 := (HX6.out).cell 3 _ rfl
    have x4 := (HX6.out).cell 4 _ rfl
    have x5 := (HX6.out).cell 5 _ rfl
    go_wp2_with fail
    refine (heldBook_any c0 c1 c2 c3 g1 g2 n1 n2 g3 g4 1 u6 HM6.out.read hn1 hn2 (by decide) (by decide)).mono ?_
    rintro e u7 ⟨rfl, hb⟩
    rw [← HKK.out]
    have HX7 := Lib.hid (HX6.out.below hb)
    have HY7 := Lib.hid (HY6.out.below hb)
    have HS7 := Lib.hid (HS6.out.below hb)
    have HM7 := Lib.hid (HM6.out.below hb)
    have HB7 := Lib.hid (HB6.out.trans (hb.mono HB6.out.size))
    have HE7 := Lib.hid (hg.below HB7.out)
    clear hb x0 x1 x2 x3 x4 x5 HX6 HY6 HS6 HM6 HB6 HE6
    go_wp2_with fail
    refine (HIM.out u7 HE7.out).mono ?_
    rintro e w8 ⟨p1, m1, p3, p2, m2, p4, rfl, ho, hb⟩
    obtain rfl : n1 = m1 := by have := ho.len.1; have := HN1.out; omega
    obtain rfl : n2 = m2 := by have := ho.len.2; have := HN2.out; omega
    obtain ⟨Y, hV⟩ : ∃ V, V = w8.alloc (.cells #[.int .i64 c0, .int .i64 c1, .int .i64 c2, .int .i64 c3, .slice p1 n1 p3, .slice p2 n2 p4] 32) := ⟨_, rfl⟩
    have hAB : Below w8.heap.size w8 Y := by rw [hV]; exact (Below.refl _ _).alloc (Nat.le_refl _) _
    have hVY : Below u7.heap.size u7 Y := hb.trans (hAB.mono hb.size)
    have HXP : Hid (BoxC Y w8.heap.size [.int .i64 c0, .int .i64 c1, .int .i64 c2, .int .i64 c3, .slice p1 n1 p3, .slice p2 n2 p4]) := Lib.hid (by rw [hV]; exact BoxC.made _ _ _)
    have HOP := Lib.hid (ho.below hAB)
    have HX8 := Lib.hid (HX7.out.below hVY)
    have HY8 := Lib.hid (HY7.out.below hVY)
    have HS8 := Lib.hid (HS7.out.below hVY)
    have HM8 := Lib.hid (HM7.out.below hVY)
    have HB8 := Lib.hid (HB7.out.trans (hVY.mono HB7.out.size))
    clear ho hb hAB hVY HX7 HY7 HS7 HM7 HB7 HE7
    have x0 := (HXP.out).cell 0 _ rfl
    have x1 := (HXP.out).cell 1 _ rfl
    have x2 := (HXP.out).cell 2 _ rfl
    have x3 := (HXP.out).cell 3 _ rfl
    have x4 := (HXP.out).cell 4 _ rfl
    have x5 := (HXP.out).cell 5 _ rfl
    have y0 := (HY8.out).cell 0 _ rfl
    have y1 := (HY8.out).cell 1 _ rfl
    have y2 := (HY8.out).cell 2 _ rfl
    have y3 := (HY8.out).cell 3 _ rfl
    have y4 := (HY8.out).cell 4 _ rfl
    have y5 := (HY8.out).cell 5 _ rfl
    rw [hV] at x0 x1 x2 x3 x4 x5 y0 y1 y2 y3 y4 y5
    go_upto_region 16 with fail
    rw [← hV] at x0 x1 x2 x3 x4 x5 y0 y1 y2 y3 y4 y5 ⊢
    clear hV
    go_wp2_with fail
    refine (eqBook_same c0 c1 c2 c3 p1 p2 s1 s2 n1 n2 p3 p4 s3 s4 ts is Y HOP.out.read HS8.out.read hn1 hn2).mono ?_
    rintro e u9 ⟨rfl, hb⟩
    have HX9 := Lib.hid (HX8.out.below hb)
    have HM9 := Lib.hid (HM8.out.below hb)
    have HB9 := Lib.hid (HB8.out.trans (hb.mono HB8.out.size))
    clear hb x0 x1 x2 x3 x4 x5 y0 y1 y2 y3 y4 y5 HX8 HY8 HS8 HM8 HB8 HXP HOP
    have x0 := (HX9.out).cell 0 _ rfl
    have x1 := (HX9.out).cell 1 _ rfl
    have x2 := (HX9.out).cell 2 _ rfl
    have x3 := (HX9.out).cell 3 _ rfl
    have x4 := (HX9.out).cell 4 _ rfl
    have x5 := (HX9.out).cell 5 _ rfl
    go_wp2_with fail
    refine (heldBook_any c0 c1 c2 c3 g1 g2 n1 n2 g3 g4 1 u9 HM9.out.read hn1 hn2 (by decide) (by decide)).mono ?_
    rintro e u10 ⟨rfl, hb⟩
    rw [← HKK.out]
    have HB10 := Lib.hid (HB9.out.trans (hb.mono HB9.out.size))
    clear hb x0 x1 x2 x3 x4 x5 HX9 HM9 HB9
    go_wp2_with fail
    go_ret
    exact ⟨rfl, HB10.out⟩


set_option maxRecDepth 100000 in
theorem contract (H : Type) (enc : TypeId × Value → H) (W : World) (base : Nat) (args : Array Value) (ds gs : List (DataW H)) (before : List MemPlace)
    (hval0 : ∀ (j : Nat) t v, Tryz.f4.params[j]? = some t → args[j]? = some v → Value.okWide Tryz.prog W .any base t v)
    (hW : DataW.Whole enc Tryz.prog Tryz.f4.params.toList Rows.fnExactReplaySpec.vars false W args.toList ds gs before) (hL : laidMetH Tryz.prog laidL W) :
    Calls Tryz.prog 4 args W fun e W' => ∃ v, e = .returned v ∧ Rows.fnExactReplaySpec.post enc Tryz.prog Tryz.f4 false true false false W args v W' := by
  have hval : ∀ (j : Nat) t v, Tryz.f4.params[j]? = some t → args[j]? = some v → Value.okWide Tryz.prog W .any base t v := hval0
  have hW' := hW
  obtain ⟨p, q, hA0, hV, rfl, hfz, hnd⟩ := hW
  have hA : DataW.TrodAll enc Tryz.prog W 0 (fun _ => true) true Tryz.f4.params.toList args.toList ds p := hA0
  rw [Tryz.params4] at hA hval
  obtain ⟨v0, vs0, d0, ds0, p0, q0, hargs, rfl, rfl, h0, r0⟩ := trodAll_cons hA
  obtain ⟨rfl, rfl, rfl⟩ := trodAll_nil r0
  obtain rfl : args = #[v0] := by cases args; simp_all
  obtain ⟨rfl, rfl⟩ := trodVars_none hV
  obtain ⟨a0, rfl, rfl, rfl, w0⟩ := open_string Tryz.underlying9 (hval 0 9 v0 rfl rfl) h0
  clear hA0 hval0
  simp only [List.append_nil] at hW'
  refine (walk a0 w0 W (et_of_laid hL)).mono fun e W' ⟨he, hg⟩ => ?_
  subst he
  exact ⟨_, rfl, _, _, _, [], _, [], hW', trodAll_mk1 (shut_bool Tryz.underlying4 _), (trodAll_cons_mk (shut_string Tryz.underlying9 w0) trodAll_mk0), rfl, hg.frame _, fun h => by cases h⟩
theorem reads (os : Os) {H : Type} (enc : TypeId × Value → H) : ∃ places, DataW.whole enc Tryz.prog ((laidWorld os).forCall (fun _ _ => 0) ⟨#[], #[Value.string ByteArray.empty], []⟩).memory Tryz.f4.params.toList Rows.fnExactReplaySpec.vars false (#[Value.string ByteArray.empty] : Array Value).toList 8 = some ([.lit (.string [])], [], places) :=
  ⟨[], by kernel_rfl⟩
set_option maxRecDepth 100000 in
theorem lifted (os : Os) (started : os.Started) (H : Type) (enc : TypeId × Value → H) (F : Stop.Interp) :
    ReturnsInHanded {} Tryz.checked os 4 .any ((OpenSpec.ofChange Rows.fnExactReplaySpec).preRow enc Tryz.prog Tryz.f4 Rows.fnExactReplayRow.domain false Rows.fnExactReplayRow.laid) (((OpenSpec.ofChange Rows.fnExactReplaySpec).at F).post enc Tryz.prog Tryz.f4 false true false false) := by
  obtain ⟨places, hx⟩ := reads os enc
  refine returnsInHanded_of_row (C := Tryz.checked) (s := OpenSpec.ofChange Rows.fnExactReplaySpec) door_own started (by kernel_rfl) Tryz.func4
    (witness_row_at (enc := enc) (C := Tryz.checked) false (laidWorld os) #[Value.string ByteArray.empty] rfl (by kernel_rfl) (by kernel_rfl) (by kernel_rfl)
      (OpenSpec.preRow_of_cond 8 hx (by kernel_rfl) (fun k hk => by cases hk) (by kernel_rfl) (laidWorld_met os _))) ?_
  intro W base args ds gs before hval hW _ _ _ hL _ _
  exact contract H enc W base args ds gs before hval hW hL
theorem said : Rows.FnExactReplaySaid :=
  OpenClaim.holds_of_cond 4 Tryz.f4 rfl rfl rfl rfl rfl rfl rfl ⟨rfl, rfl, rfl, rfl, rfl⟩ rfl rfl rfl rfl rfl (by kernel_rfl) Tryz.func4 (by kernel_rfl)
    (of_decide_eq_true (by kernel_rfl)) (by unfold Func.isWrapper; first | (rw [if_pos (by decide +kernel)]; kernel_rfl) | (rw [if_neg (by decide +kernel)]; exact ⟨rfl, rfl⟩))
    (fun os started H enc _ F => by rw [OpenClaim.pre_eq_preRow]; exact lifted os started H enc F)
theorem plain (f : FuncId) (fn : Func) (hf : Tryz.pinned.checked.prog.funcNamed "loop.example/g00839/laws.FnExactReplay" = some f) (hfn : Tryz.pinned.checked.prog.funcs[f]? = some fn) :
    true = Tryz.pinned.checked.prog.looks [] ∧ ∀ (j : Nat) t, fn.params[j]? = some t → Tryz.pinned.checked.prog.wantsStandIn t = false := by
  obtain rfl : f = 4 := Option.some.inj ((show Tryz.prog.funcNamed "loop.example/g00839/laws.FnExactReplay" = some 4 by kernel_rfl).symm.trans hf) |>.symm
  obtain rfl : fn = Tryz.f4 := (Option.some.inj (Tryz.func4.symm.trans hfn)).symm
  refine ⟨by kernel_rfl, fun j t ht => ?_⟩
  rw [Tryz.params4] at ht
  have h : t = 9 := by simpa using Array.mem_of_getElem? ht
  subst h
  · exact (show Tryz.prog.wantsStandIn 9 = false by kernel_rfl)

/-- The statement: the card, tied to the program's text. -/
theorem proved : Rows.FnExactReplayCardSaid :=
  Claim7.holds_tied_plain_at .later [] _ _ _ _ said (fun _ h => by cases h) (by kernel_rfl) (fun _ h => by cases h) fnExactReplay_row_tie rfl ⟨rfl, rfl⟩ (by kernel_rfl) rfl plain (by kernel_rfl)
end Go.Proofs.YtidcpdfhnhfelaaGreatDoor.fnExactReplay

