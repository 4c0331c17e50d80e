/- Texts put together: what the law uses of them. -/
import Derived.Deep.Cut
import Derived.Test.YtidcpdfhnhfelaaGreatDoorQTxr39
import Derived.Test.YtidcpdfhnhfelaaGreatDoorQTxr40
import Derived.Test.YtidcpdfhnhfelaaGreatDoorQTxr00
/- The model's l05Src.deed. -/
namespace Go.Proofs.YtidcpdfhnhfelaaGreatDoor
open Go.RowKit Go.PlainAid G MGet MGF IRow MNum MJoin
set_option linter.unusedVariables false
theorem SB.other {w : World} {b : Nat} {u : ByteArray} {p : Int} {z : Bool} (k : SB w b u p z) (h i : Nat) (v : Value) (hne : h ≠ b) : SB (w.setCell ⟨h, i, none⟩ v) b u p z :=
  ⟨by simpa using k.lt, (World.cell?_setCell_other _ ⟨h, i, none⟩ ⟨b, 0, none⟩ _ (by intro e; injection e with e; exact hne e)).trans k.c0, (World.cell?_setCell_other _ ⟨h, i, none⟩ ⟨b, 1, none⟩ _ (by intro e; injection e with e; exact hne e)).trans k.c1, (World.cell?_setCell_other _ ⟨h, i, none⟩ ⟨b, 2, none⟩ _ (by intro e; injection e with e; exact hne e)).trans k.c2, by simpa using k.f1, by simpa using k.f2⟩
set_option maxRecDepth 100000 in
set_option maxHeartbeats 6400000 in
theorem srcDeed_any (b : Nat) (u : ByteArray) (q : Plc) (w : World) (hR : SB w b u (q.1 : Int) q.2) (hu : u.size ≤ 8000) (ha : q.1 ≤ u.size) :
    Calls Tryz.prog 65 #[.pointer (some ⟨b, 0, none⟩)] w fun e w' => e = .returned (ddV (rdDeed u q).1) ∧ SB w' b u ((rdDeed u q).2.1 : Int) (rdDeed u q).2.2 ∧ w.grownBy w' (some b) := by
  obtain ⟨W, hW⟩ : ∃ W, W = w.alloc (.cells #[.int .i64 0, .int .i64 0, .int .i64 0, .int .i64 0, .int .i64 0, .int .i64 0, .string ⟨#[]⟩, .string ⟨#[]⟩, .int .i64 0, .string ⟨#[]⟩] 110) := ⟨_, rfl⟩
  obtain ⟨h, hh⟩ : ∃ h, h = w.heap.size := ⟨_, rfl⟩
  have HY0 := Lib.hid (show BoxC W h [.int .i64 0, .int .i64 0, .int .i64 0, .int .i64 0, .int .i64 0, .int .i64 0, .string ⟨#[]⟩, .string ⟨#[]⟩, .int .i64 0, .string ⟨#[]⟩] by rw [hW, hh]; exact BoxC.made _ _ _)
  have hb0 : Below w.heap.size w W := by rw [hW]; exact (Below.refl _ _).alloc (Nat.le_refl _) _
  have HR0 := Lib.hid (hR.below hb0)
  have HG0 := Lib.hid (show w.grownBy W (some b) from fg_below hb0)
  have hbh : b < h := by rw [hh]; exact hR.lt
  have hne : h ≠ b := by omega
  have HHW := Lib.hid (show w.heap.size ≤ h by omega)
  clear hR hb0
  go_enter Tryz.func65, Tryz.ntmps65
  go_wp2_with fail
  rw [← hW, ← hh]
  clear hW hh
  obtain ⟨k, q1, he⟩ : ∃ k q1, sN u q = (k, q1) := ⟨_, _, rfl⟩
  have HE := Lib.hid he
  have hq1 : q1.1 ≤ u.size := by have := sN_le (u := u) (q := q) ha; rw [he] at this; exact this
  clear he
  refine (srcNum_any b u q _ HR0.out hu ha).mono ?_
  rintro e w1 ⟨rfl, hr, hg⟩
  rw [HE.out] at hr ⊢
  dsimp only at hr ⊢
  obtain ⟨V, hV⟩ : ∃ V, V = w1.alloc (.cells #[.int .i64 k, .int .i64 0, .int .i64 0, .int .i64 0, .int .i64 0, .int .i64 0, .string ⟨#[]⟩, .string ⟨#[]⟩, .int .i64 0, .string ⟨#[]⟩] 110) := ⟨_, rfl⟩
  obtain ⟨x, hx⟩ : ∃ x, x = w1.heap.size := ⟨_, rfl⟩
  have hb1 : Below w1.heap.size w1 V := by rw [hV]; exact (Below.refl _ _).alloc (Nat.le_refl _) _
  have HR1 := Lib.hid (hr.below hb1)
  have HY1 := Lib.hid ((HY0.out.kept hg hne).below hb1)
  have HG1 := Lib.hid (grown_trans HG0.out (grown_trans hg (fg_below hb1)))
  have HX1 := Lib.hid (show BoxC V x [.int .i64 k, .int .i64 0, .int .i64 0, .int .i64 0, .int .i64 0, .int .i64 0, .string ⟨#[]⟩, .string ⟨#[]⟩, .int .i64 0, .string ⟨#[]⟩] by rw [hV, hx]; exact BoxC.made _ _ _)
  have hxh : h < x := by rw [hx]; exact (HY0.out.kept hg hne).lt
  have hxb : x ≠ b := by omega
  clear hr hg hb1 HY0 HR0 HG0
  by_cases hk1 : k = 1
  · skip
    subst hk1
    have HRC : Hid (∀ q, rcRest u 1 q = rcConf u 1 q) := Lib.hid (fun q => by unfold rcRest; simp)
    go_wp2_with fail
    rw [← hV, ← hx]
    clear hV hx
    obtain ⟨n2, q2, he2⟩ : ∃ n2 q2, sN u q1 = (n2, q2) := ⟨_, _, rfl⟩
    have HE2 := Lib.hid he2
    have hq2 : q2.1 ≤ u.size := by have := sN_le (u := u) (q := q1) hq1; rw [he2] at this; exact this
    clear he2
    refine (srcNum_any b u q1 _ HR1.out hu hq1).mono ?_
    rintro e w2 ⟨rfl, hr, hg⟩
    rw [HE2.out] at hr ⊢
    dsimp only at hr ⊢
    have HR2 := Lib.hid hr
    have HY2 := Lib.hid (HY1.out.kept hg hne)
    have HX2 := Lib.hid (HX1.out.kept hg hxb)
    have HG2 := Lib.hid (grown_trans HG1.out hg)
    clear hr hg HY1 HX1
    go_wp2_with fail
    obtain ⟨n3, q3, he3⟩ : ∃ n3 q3, sN u q2 = (n3, q3) := ⟨_, _, rfl⟩
    have HE3 := Lib.hid he3
    have hq3 : q3.1 ≤ u.size := by have := sN_le (u := u) (q := q2) hq2; rw [he3] at this; exact this
    clear he3
    refine (srcNum_any b u q2 _ HR2.out hu hq2).mono ?_
    rintro e w3 ⟨rfl, hr, hg⟩
    rw [HE3.out] at hr ⊢
    dsimp only at hr ⊢
    have HR3 := Lib.hid hr
    have HY3 := Lib.hid (HY2.out.kept hg hne)
    have HX3 := Lib.hid (HX2.out.kept hg hxb)
    have HG3 := Lib.hid (grown_trans HG2.out hg)
    clear hr hg HY2 HX2
    go_wp2_with fail
    obtain ⟨n4, q4, he4⟩ : ∃ n4 q4, sN u q3 = (n4, q4) := ⟨_, _, rfl⟩
    have HE4 := Lib.hid he4
    have hq4 : q4.1 ≤ u.size := by have := sN_le (u := u) (q := q3) hq3; rw [he4] at this; exact this
    clear he4
    refine (srcNum_any b u q3 _ HR3.out hu hq3).mono ?_
    rintro e w4 ⟨rfl, hr, hg⟩
    rw [HE4.out] at hr ⊢
    dsimp only at hr ⊢
    have HR4 := Lib.hid hr
    have HY4 := Lib.hid (HY3.out.kept hg hne)
    have HX4 := Lib.hid (HX3.out.kept hg hxb)
    have HG4 := Lib.hid (grown_trans HG3.out hg)
    clear hr hg HY3 HX3
    go_wp2_with fail
    obtain ⟨n5, q5, he5⟩ : ∃ n5 q5, sN u q4 = (n5, q5) := ⟨_, _, rfl⟩
    have HE5 := Lib.hid he5
    have hq5 : q5.1 ≤ u.size := by have := sN_le (u := u) (q := q4) hq4; rw [he5] at this; exact this
    clear he5
    refine (srcNum_any b u q4 _ HR4.out hu hq4).mono ?_
    rintro e w5 ⟨rfl, hr, hg⟩
    rw [HE5.out] at hr ⊢
    dsimp only at hr ⊢
    have HR5 := Lib.hid hr
    have HY5 := Lib.hid (HY4.out.kept hg hne)
    have HX5 := Lib.hid (HX4.out.kept hg hxb)
    have HG5 := Lib.hid (grown_trans HG4.out hg)
    clear hr hg HY4 HX4
    have x0 := HX5.out.cell 0 _ rfl
    have fx0 := HX5.out.free 0
    have x1 := HX5.out.cell 1 _ rfl
    have fx1 := HX5.out.free 1
    have x2 := HX5.out.cell 2 _ rfl
    have fx2 := HX5.out.free 2
    have x3 := HX5.out.cell 3 _ rfl
    have fx3 := HX5.out.free 3
    have x4 := HX5.out.cell 4 _ rfl
    have fx4 := HX5.out.free 4
    have x5 := HX5.out.cell 5 _ rfl
    have fx5 := HX5.out.free 5
    have x6 := HX5.out.cell 6 _ rfl
    have fx6 := HX5.out.free 6
    have x7 := HX5.out.cell 7 _ rfl
    have fx7 := HX5.out.free 7
    have x8 := HX5.out.cell 8 _ rfl
    have fx8 := HX5.out.free 8
    have x9 := HX5.out.cell 9 _ rfl
    have fx9 := HX5.out.free 9
    obtain ⟨X, hX⟩ : ∃ X, X = (((w5.setCell ⟨x, 1, none⟩ (.int .i64 n2)).setCell ⟨x, 2, none⟩ (.int .i64 n3)).setCell ⟨x, 3, none⟩ (.int .i64 n4)).setCell ⟨x, 4, none⟩ (.int .i64 n5) := ⟨_, rfl⟩
    have HXX := Lib.hid (show BoxC X x [.int .i64 1, .int .i64 n2, .int .i64 n3, .int .i64 n4, .int .i64 n5, .int .i64 0, .string ⟨#[]⟩, .string ⟨#[]⟩, .int .i64 0, .string ⟨#[]⟩] by rw [hX]; exact ((((HX5.out.set (j := 1) (by simp) (.int .i64 n2)).set (j := 2) (by simp) (.int .i64 n3)).set (j := 3) (by simp) (.int .i64 n4)).set (j := 4) (by simp) (.int .i64 n5)))
    have HRX := Lib.hid (show SB X b u (q5.1 : Int) q5.2 by rw [hX]; exact ((((HR5.out.other x 1 (.int .i64 n2) hxb).other x 2 (.int .i64 n3) hxb).other x 3 (.int .i64 n4) hxb).other x 4 (.int .i64 n5) hxb))
    have HYX := Lib.hid (show BoxC X h [.int .i64 0, .int .i64 0, .int .i64 0, .int .i64 0, .int .i64 0, .int .i64 0, .string ⟨#[]⟩, .string ⟨#[]⟩, .int .i64 0, .string ⟨#[]⟩] by rw [hX]; exact ((((HY5.out.other ⟨x, 1, none⟩ (.int .i64 n2) (by show x ≠ h; omega)).other ⟨x, 2, none⟩ (.int .i64 n3) (by show x ≠ h; omega)).other ⟨x, 3, none⟩ (.int .i64 n4) (by show x ≠ h; omega)).other ⟨x, 4, none⟩ (.int .i64 n5) (by show x ≠ h; omega)))
    have HGX := Lib.hid (show w.grownBy X (some b) by rw [hX]; exact grown_own (grown_own (grown_own (grown_own (HG5.out) (grown_set _ x 1 _) (fun g hg => by cases hg; have := HHW.out; omega)) (grown_set _ x 2 _) (fun g hg => by cases hg; have := HHW.out; omega)) (grown_set _ x 3 _) (fun g hg => by cases hg; have := HHW.out; omega)) (grown_set _ x 4 _) (fun g hg => by cases hg; have := HHW.out; omega))
    have hlx := HX5.out.lt
    clear HR5 HX5 HY5
    go_upto_region 11 with fail
    rw [← hX]
    clear hX x0 fx0 x1 fx1 x2 fx2 x3 fx3 x4 fx4 x5 fx5 x6 fx6 x7 fx7 x8 fx8 x9 fx9 hlx
    have HEQ : Hid (rdDeed u q = (⟨1, n2, n3, n4, n5, 0, ⟨#[]⟩, ⟨#[]⟩, 0, ⟨#[]⟩⟩, q5)) := Lib.hid (by simp only [rdDeed, HRC.out, rcConf, HE.out, HE2.out, HE3.out, HE4.out, HE5.out])
    have x0 := HXX.out.cell 0 _ rfl
    have x1 := HXX.out.cell 1 _ rfl
    have x2 := HXX.out.cell 2 _ rfl
    have x3 := HXX.out.cell 3 _ rfl
    have x4 := HXX.out.cell 4 _ rfl
    have x5 := HXX.out.cell 5 _ rfl
    have x6 := HXX.out.cell 6 _ rfl
    have x7 := HXX.out.cell 7 _ rfl
    have x8 := HXX.out.cell 8 _ rfl
    have x9 := HXX.out.cell 9 _ rfl
    have y0 := HYX.out.cell 0 _ rfl
    have fy0 := HYX.out.free 0
    have y1 := HYX.out.cell 1 _ rfl
    have fy1 := HYX.out.free 1
    have y2 := HYX.out.cell 2 _ rfl
    have fy2 := HYX.out.free 2
    have y3 := HYX.out.cell 3 _ rfl
    have fy3 := HYX.out.free 3
    have y4 := HYX.out.cell 4 _ rfl
    have fy4 := HYX.out.free 4
    have y5 := HYX.out.cell 5 _ rfl
    have fy5 := HYX.out.free 5
    have y6 := HYX.out.cell 6 _ rfl
    have fy6 := HYX.out.free 6
    have y7 := HYX.out.cell 7 _ rfl
    have fy7 := HYX.out.free 7
    have y8 := HYX.out.cell 8 _ rfl
    have fy8 := HYX.out.free 8
    have y9 := HYX.out.cell 9 _ rfl
    have fy9 := HYX.out.free 9
    have hly := HYX.out.lt
    go_wp2_with fail
    exact bodyPost_ret (v := .agg #[.int .i64 1, .int .i64 n2, .int .i64 n3, .int .i64 n4, .int .i64 n5, .int .i64 0, .string ⟨#[]⟩, .string ⟨#[]⟩, .int .i64 0, .string ⟨#[]⟩]) (by simp [results, Tryz.results65, go_sem, hly, y0, y1, y2, y3, y4, y5, y6, y7, y8, y9]) rfl ⟨by rw [HEQ.out]; rfl, by rw [HEQ.out]; exact ((((((((((HRX.out.other h 0 (.int .i64 1) hne).other h 1 (.int .i64 n2) hne).other h 2 (.int .i64 n3) hne).other h 3 (.int .i64 n4) hne).other h 4 (.int .i64 n5) hne).other h 5 (.int .i64 0) hne).other h 6 (.string ⟨#[]⟩) hne).other h 7 (.string ⟨#[]⟩) hne).other h 8 (.int .i64 0) hne).other h 9 (.string ⟨#[]⟩) hne), grown_own (grown_own (grown_own (grown_own (grown_own (grown_own (grown_own (grown_own (grown_own (grown_own (HGX.out) (grown_set _ h 0 (.int .i64 1)) (fun g hg => by cases hg; exact HHW.out)) (grown_set _ h 1 (.int .i64 n2)) (fun g hg => by cases hg; exact HHW.out)) (grown_set _ h 2 (.int .i64 n3)) (fun g hg => by cases hg; exact HHW.out)) (grown_set _ h 3 (.int .i64 n4)) (fun g hg => by cases hg; exact HHW.out)) (grown_set _ h 4 (.int .i64 n5)) (fun g hg => by cases hg; exact HHW.out)) (grown_set _ h 5 (.int .i64 0)) (fun g hg => by cases hg; exact HHW.out)) (grown_set _ h 6 (.string ⟨#[]⟩)) (fun g hg => by cases hg; exact HHW.out)) (grown_set _ h 7 (.string ⟨#[]⟩)) (fun g hg => by cases hg; exact HHW.out)) (grown_set _ h 8 (.int .i64 0)) (fun g hg => by cases hg; exact HHW.out)) (grown_set _ h 9 (.string ⟨#[]⟩)) (fun g hg => by cases hg; exact HHW.out)⟩
  · skip
    by_cases hk2 : k = 2
    · skip
      subst hk2
      have HRC : Hid (∀ q, rcRest u 2 q = rcTerm u 2 q) := Lib.hid (fun q => by unfold rcRest; simp)
      go_wp2_with fail
      rw [← hV, ← hx]
      clear hV hx
      obtain ⟨n2, q2, he2⟩ : ∃ n2 q2, sN u q1 = (n2, q2) := ⟨_, _, rfl⟩
      have HE2 := Lib.hid he2
      have hq2 : q2.1 ≤ u.size := by have := sN_le (u := u) (q := q1) hq1; rw [he2] at this; exact this
      clear he2
      refine (srcNum_any b u q1 _ HR1.out hu hq1).mono ?_
      rintro e w2 ⟨rfl, hr, hg⟩
      rw [HE2.out] at hr ⊢
      dsimp only at hr ⊢
      have HR2 := Lib.hid hr
      have HY2 := Lib.hid (HY1.out.kept hg hne)
      have HX2 := Lib.hid (HX1.out.kept hg hxb)
      have HG2 := Lib.hid (grown_trans HG1.out hg)
      clear hr hg HY1 HX1
      go_wp2_with fail
      obtain ⟨t3, q3, he3⟩ : ∃ t3 q3, sT u q2 = (t3, q3) := ⟨_, _, rfl⟩
      have HE3 := Lib.hid he3
      have hq3 : q3.1 ≤ u.size := by have := sT_le (u := u) (q := q2) hq2; rw [he3] at this; exact this
      clear he3
      refine (srcStr_any b u q2 _ HR2.out hu hq2).mono ?_
      rintro e w3 ⟨rfl, hr, hg⟩
      rw [HE3.out] at hr ⊢
      dsimp only at hr ⊢
      have HR3 := Lib.hid hr
      have HY3 := Lib.hid (HY2.out.kept hg hne)
      have HX3 := Lib.hid (HX2.out.kept hg hxb)
      have HG3 := Lib.hid (grown_trans HG2.out hg)
      clear hr hg HY2 HX2
      have x0 := HX3.out.cell 0 _ rfl
      have fx0 := HX3.out.free 0
      have x1 := HX3.out.cell 1 _ rfl
      have fx1 := HX3.out.free 1
      have x2 := HX3.out.cell 2 _ rfl
      have fx2 := HX3.out.free 2
      have x3 := HX3.out.cell 3 _ rfl
      have fx3 := HX3.out.free 3
      have x4 := HX3.out.cell 4 _ rfl
      have fx4 := HX3.out.free 4
      have x5 := HX3.out.cell 5 _ rfl
      have fx5 := HX3.out.free 5
      have x6 := HX3.out.cell 6 _ rfl
      have fx6 := HX3.out.free 6
      have x7 := HX3.out.cell 7 _ rfl
      have fx7 := HX3.out.free 7
      have x8 := HX3.out.cell 8 _ rfl
      have fx8 := HX3.out.free 8
      have x9 := HX3.out.cell 9 _ rfl
      have fx9 := HX3.out.free 9
      obtain ⟨X, hX⟩ : ∃ X, X = (w3.setCell ⟨x, 5, none⟩ (.int .i64 n2)).setCell ⟨x, 6, none⟩ (.string t3) := ⟨_, rfl⟩
      have HXX := Lib.hid (show BoxC X x [.int .i64 2, .int .i64 0, .int .i64 0, .int .i64 0, .int .i64 0, .int .i64 n2, .string t3, .string ⟨#[]⟩, .int .i64 0, .string ⟨#[]⟩] by rw [hX]; exact ((HX3.out.set (j := 5) (by simp) (.int .i64 n2)).set (j := 6) (by simp) (.string t3)))
      have HRX := Lib.hid (show SB X b u (q3.1 : Int) q3.2 by rw [hX]; exact ((HR3.out.other x 5 (.int .i64 n2) hxb).other x 6 (.string t3) hxb))
      have HYX := Lib.hid (show BoxC X h [.int .i64 0, .int .i64 0, .int .i64 0, .int .i64 0, .int .i64 0, .int .i64 0, .string ⟨#[]⟩, .string ⟨#[]⟩, .int .i64 0, .string ⟨#[]⟩] by rw [hX]; exact ((HY3.out.other ⟨x, 5, none⟩ (.int .i64 n2) (by show x ≠ h; omega)).other ⟨x, 6, none⟩ (.string t3) (by show x ≠ h; omega)))
      have HGX := Lib.hid (show w.grownBy X (some b) by rw [hX]; exact grown_own (grown_own (HG3.out) (grown_set _ x 5 _) (fun g hg => by cases hg; have := HHW.out; omega)) (grown_set _ x 6 _) (fun g hg => by cases hg; have := HHW.out; omega))
      have hlx := HX3.out.lt
      clear HR3 HX3 HY3
      go_upto_region 11 with fail
      rw [← hX]
      clear hX x0 fx0 x1 fx1 x2 fx2 x3 fx3 x4 fx4 x5 fx5 x6 fx6 x7 fx7 x8 fx8 x9 fx9 hlx
      have HEQ : Hid (rdDeed u q = (⟨2, 0, 0, 0, 0, n2, t3, ⟨#[]⟩, 0, ⟨#[]⟩⟩, q3)) := Lib.hid (by simp only [rdDeed, HRC.out, rcTerm, HE.out, HE2.out, HE3.out])
      have x0 := HXX.out.cell 0 _ rfl
      have x1 := HXX.out.cell 1 _ rfl
      have x2 := HXX.out.cell 2 _ rfl
      have x3 := HXX.out.cell 3 _ rfl
      have x4 := HXX.out.cell 4 _ rfl
      have x5 := HXX.out.cell 5 _ rfl
      have x6 := HXX.out.cell 6 _ rfl
      have x7 := HXX.out.cell 7 _ rfl
      have x8 := HXX.out.cell 8 _ rfl
      have x9 := HXX.out.cell 9 _ rfl
      have y0 := HYX.out.cell 0 _ rfl
      have fy0 := HYX.out.free 0
      have y1 := HYX.out.cell 1 _ rfl
      have fy1 := HYX.out.free 1
      have y2 := HYX.out.cell 2 _ rfl
      have fy2 := HYX.out.free 2
      have y3 := HYX.out.cell 3 _ rfl
      have fy3 := HYX.out.free 3
      have y4 := HYX.out.cell 4 _ rfl
      have fy4 := HYX.out.free 4
      have y5 := HYX.out.cell 5 _ rfl
      have fy5 := HYX.out.free 5
      have y6 := HYX.out.cell 6 _ rfl
      have fy6 := HYX.out.free 6
      have y7 := HYX.out.cell 7 _ rfl
      have fy7 := HYX.out.free 7
      have y8 := HYX.out.cell 8 _ rfl
      have fy8 := HYX.out.free 8
      have y9 := HYX.out.cell 9 _ rfl
      have fy9 := HYX.out.free 9
      have hly := HYX.out.lt
      go_wp2_with fail
      exact bodyPost_ret (v := .agg #[.int .i64 2, .int .i64 0, .int .i64 0, .int .i64 0, .int .i64 0, .int .i64 n2, .string t3, .string ⟨#[]⟩, .int .i64 0, .string ⟨#[]⟩]) (by simp [results, Tryz.results65, go_sem, hly, y0, y1, y2, y3, y4, y5, y6, y7, y8, y9]) rfl ⟨by rw [HEQ.out]; rfl, by rw [HEQ.out]; exact ((((((((((HRX.out.other h 0 (.int .i64 2) hne).other h 1 (.int .i64 0) hne).other h 2 (.int .i64 0) hne).other h 3 (.int .i64 0) hne).other h 4 (.int .i64 0) hne).other h 5 (.int .i64 n2) hne).other h 6 (.string t3) hne).other h 7 (.string ⟨#[]⟩) hne).other h 8 (.int .i64 0) hne).other h 9 (.string ⟨#[]⟩) hne), grown_own (grown_own (grown_own (grown_own (grown_own (grown_own (grown_own (grown_own (grown_own (grown_own (HGX.out) (grown_set _ h 0 (.int .i64 2)) (fun g hg => by cases hg; exact HHW.out)) (grown_set _ h 1 (.int .i64 0)) (fun g hg => by cases hg; exact HHW.out)) (grown_set _ h 2 (.int .i64 0)) (fun g hg => by cases hg; exact HHW.out)) (grown_set _ h 3 (.int .i64 0)) (fun g hg => by cases hg; exact HHW.out)) (grown_set _ h 4 (.int .i64 0)) (fun g hg => by cases hg; exact HHW.out)) (grown_set _ h 5 (.int .i64 n2)) (fun g hg => by cases hg; exact HHW.out)) (grown_set _ h 6 (.string t3)) (fun g hg => by cases hg; exact HHW.out)) (grown_set _ h 7 (.string ⟨#[]⟩)) (fun g hg => by cases hg; exact HHW.out)) (grown_set _ h 8 (.int .i64 0)) (fun g hg => by cases hg; exact HHW.out)) (grown_set _ h 9 (.string ⟨#[]⟩)) (fun g hg => by cases hg; exact HHW.out)⟩
    · skip
      by_cases hk3 : k = 3
      · skip
        subst hk3
        have HRC : Hid (∀ q, rcRest u 3 q = rcPut u 3 q) := Lib.hid (fun q => by unfold rcRest; simp)
        go_wp2_with fail
        rw [← hV, ← hx]
        clear hV hx
        obtain ⟨t2, q2, he2⟩ : ∃ t2 q2, sT u q1 = (t2, q2) := ⟨_, _, rfl⟩
        have HE2 := Lib.hid he2
        have hq2 : q2.1 ≤ u.size := by have := sT_le (u := u) (q := q1) hq1; rw [he2] at this; exact this
        clear he2
        refine (srcStr_any b u q1 _ HR1.out hu hq1).mono ?_
        rintro e w2 ⟨rfl, hr, hg⟩
        rw [HE2.out] at hr ⊢
        dsimp only at hr ⊢
        have HR2 := Lib.hid hr
        have HY2 := Lib.hid (HY1.out.kept hg hne)
        have HX2 := Lib.hid (HX1.out.kept hg hxb)
        have HG2 := Lib.hid (grown_trans HG1.out hg)
        clear hr hg HY1 HX1
        go_wp2_with fail
        obtain ⟨n3, q3, he3⟩ : ∃ n3 q3, sN u q2 = (n3, q3) := ⟨_, _, rfl⟩
        have HE3 := Lib.hid he3
        have hq3 : q3.1 ≤ u.size := by have := sN_le (u := u) (q := q2) hq2; rw [he3] at this; exact this
        clear he3
        refine (srcNum_any b u q2 _ HR2.out hu hq2).mono ?_
        rintro e w3 ⟨rfl, hr, hg⟩
        rw [HE3.out] at hr ⊢
        dsimp only at hr ⊢
        have HR3 := Lib.hid hr
        have HY3 := Lib.hid (HY2.out.kept hg hne)
        have HX3 := Lib.hid (HX2.out.kept hg hxb)
        have HG3 := Lib.hid (grown_trans HG2.out hg)
        clear hr hg HY2 HX2
        go_wp2_with fail
        obtain ⟨t4, q4, he4⟩ : ∃ t4 q4, sT u q3 = (t4, q4) := ⟨_, _, rfl⟩
        have HE4 := Lib.hid he4
        have hq4 : q4.1 ≤ u.size := by have := sT_le (u := u) (q := q3) hq3; rw [he4] at this; exact this
        clear he4
        refine (srcStr_any b u q3 _ HR3.out hu hq3).mono ?_
        rintro e w4 ⟨rfl, hr, hg⟩
        rw [HE4.out] at hr ⊢
        dsimp only at hr ⊢
        have HR4 := Lib.hid hr
        have HY4 := Lib.hid (HY3.out.kept hg hne)
        have HX4 := Lib.hid (HX3.out.kept hg hxb)
        have HG4 := Lib.hid (grown_trans HG3.out hg)
        clear hr hg HY3 HX3
        have x0 := HX4.out.cell 0 _ rfl
        have fx0 := HX4.out.free 0
        have x1 := HX4.out.cell 1 _ rfl
        have fx1 := HX4.out.free 1
        have x2 := HX4.out.cell 2 _ rfl
        have fx2 := HX4.out.free 2
        have x3 := HX4.out.cell 3 _ rfl
        have fx3 := HX4.out.free 3
        have x4 := HX4.out.cell 4 _ rfl
        have fx4 := HX4.out.free 4
        have x5 := HX4.out.cell 5 _ rfl
        have fx5 := HX4.out.free 5
        have x6 := HX4.out.cell 6 _ rfl
        have fx6 := HX4.out.free 6
        have x7 := HX4.out.cell 7 _ rfl
        have fx7 := HX4.out.free 7
        have x8 := HX4.out.cell 8 _ rfl
        have fx8 := HX4.out.free 8
        have x9 := HX4.out.cell 9 _ rfl
        have fx9 := HX4.out.free 9
        obtain ⟨X, hX⟩ : ∃ X, X = ((w4.setCell ⟨x, 7, none⟩ (.string t2)).setCell ⟨x, 8, none⟩ (.int .i64 n3)).setCell ⟨x, 9, none⟩ (.string t4) := ⟨_, rfl⟩
        have HXX := Lib.hid (show BoxC X x [.int .i64 3, .int .i64 0, .int .i64 0, .int .i64 0, .int .i64 0, .int .i64 0, .string ⟨#[]⟩, .string t2, .int .i64 n3, .string t4] by rw [hX]; exact (((HX4.out.set (j := 7) (by simp) (.string t2)).set (j := 8) (by simp) (.int .i64 n3)).set (j := 9) (by simp) (.string t4)))
        have HRX := Lib.hid (show SB X b u (q4.1 : Int) q4.2 by rw [hX]; exact (((HR4.out.other x 7 (.string t2) hxb).other x 8 (.int .i64 n3) hxb).other x 9 (.string t4) hxb))
        have HYX := Lib.hid (show BoxC X h [.int .i64 0, .int .i64 0, .int .i64 0, .int .i64 0, .int .i64 0, .int .i64 0, .string ⟨#[]⟩, .string ⟨#[]⟩, .int .i64 0, .string ⟨#[]⟩] by rw [hX]; exact (((HY4.out.other ⟨x, 7, none⟩ (.string t2) (by show x ≠ h; omega)).other ⟨x, 8, none⟩ (.int .i64 n3) (by show x ≠ h; omega)).other ⟨x, 9, none⟩ (.string t4) (by show x ≠ h; omega)))
        have HGX := Lib.hid (show w.grownBy X (some b) by rw [hX]; exact grown_own (grown_own (grown_own (HG4.out) (grown_set _ x 7 _) (fun g hg => by cases hg; have := HHW.out; omega)) (grown_set _ x 8 _) (fun g hg => by cases hg; have := HHW.out; omega)) (grown_set _ x 9 _) (fun g hg => by cases hg; have := HHW.out; omega))
        have hlx := HX4.out.lt
        clear HR4 HX4 HY4
        go_upto_region 11 with fail
        rw [← hX]
        clear hX x0 fx0 x1 fx1 x2 fx2 x3 fx3 x4 fx4 x5 fx5 x6 fx6 x7 fx7 x8 fx8 x9 fx9 hlx
        have HEQ : Hid (rdDeed u q = (⟨3, 0, 0, 0, 0, 0, ⟨#[]⟩, t2, n3, t4⟩, q4)) := Lib.hid (by simp only [rdDeed, HRC.out, rcPut, HE.out, HE2.out, HE3.out, HE4.out])
        have x0 := HXX.out.cell 0 _ rfl
        have x1 := HXX.out.cell 1 _ rfl
        have x2 := HXX.out.cell 2 _ rfl
        have x3 := HXX.out.cell 3 _ rfl
        have x4 := HXX.out.cell 4 _ rfl
        have x5 := HXX.out.cell 5 _ rfl
        have x6 := HXX.out.cell 6 _ rfl
        have x7 := HXX.out.cell 7 _ rfl
        have x8 := HXX.out.cell 8 _ rfl
        have x9 := HXX.out.cell 9 _ rfl
        have y0 := HYX.out.cell 0 _ rfl
        have fy0 := HYX.out.free 0
        have y1 := HYX.out.cell 1 _ rfl
        have fy1 := HYX.out.free 1
        have y2 := HYX.out.cell 2 _ rfl
        have fy2 := HYX.out.free 2
        have y3 := HYX.out.cell 3 _ rfl
        have fy3 := HYX.out.free 3
        have y4 := HYX.out.cell 4 _ rfl
        have fy4 := HYX.out.free 4
        have y5 := HYX.out.cell 5 _ rfl
        have fy5 := HYX.out.free 5
        have y6 := HYX.out.cell 6 _ rfl
        have fy6 := HYX.out.free 6
        have y7 := HYX.out.cell 7 _ rfl
        have fy7 := HYX.out.free 7
        have y8 := HYX.out.cell 8 _ rfl
        have fy8 := HYX.out.free 8
        have y9 := HYX.out.cell 9 _ rfl
        have fy9 := HYX.out.free 9
        have hly := HYX.out.lt
        go_wp2_with fail
        exact bodyPost_ret (v := .agg #[.int .i64 3, .int .i64 0, .int .i64 0, .int .i64 0, .int .i64 0, .int .i64 0, .string ⟨#[]⟩, .string t2, .int .i64 n3, .string t4]) (by simp [results, Tryz.results65, go_sem, hly, y0, y1, y2, y3, y4, y5, y6, y7, y8, y9]) rfl ⟨by rw [HEQ.out]; rfl, by rw [HEQ.out]; exact ((((((((((HRX.out.other h 0 (.int .i64 3) hne).other h 1 (.int .i64 0) hne).other h 2 (.int .i64 0) hne).other h 3 (.int .i64 0) hne).other h 4 (.int .i64 0) hne).other h 5 (.int .i64 0) hne).other h 6 (.string ⟨#[]⟩) hne).other h 7 (.string t2) hne).other h 8 (.int .i64 n3) hne).other h 9 (.string t4) hne), grown_own (grown_own (grown_own (grown_own (grown_own (grown_own (grown_own (grown_own (grown_own (grown_own (HGX.out) (grown_set _ h 0 (.int .i64 3)) (fun g hg => by cases hg; exact HHW.out)) (grown_set _ h 1 (.int .i64 0)) (fun g hg => by cases hg; exact HHW.out)) (grown_set _ h 2 (.int .i64 0)) (fun g hg => by cases hg; exact HHW.out)) (grown_set _ h 3 (.int .i64 0)) (fun g hg => by cases hg; exact HHW.out)) (grown_set _ h 4 (.int .i64 0)) (fun g hg => by cases hg; exact HHW.out)) (grown_set _ h 5 (.int .i64 0)) (fun g hg => by cases hg; exact HHW.out)) (grown_set _ h 6 (.string ⟨#[]⟩)) (fun g hg => by cases hg; exact HHW.out)) (grown_set _ h 7 (.string t2)) (fun g hg => by cases hg; exact HHW.out)) (grown_set _ h 8 (.int .i64 n3)) (fun g hg => by cases hg; exact HHW.out)) (grown_set _ h 9 (.string t4)) (fun g hg => by cases hg; exact HHW.out)⟩
      · skip
        by_cases hk4 : k = 4
        · skip
          subst hk4
          have HRC : Hid (∀ q, rcRest u 4 q = rcDel u 4 q) := Lib.hid (fun q => by unfold rcRest; simp)
          go_wp2_with fail
          rw [← hV, ← hx]
          clear hV hx
          obtain ⟨t2, q2, he2⟩ : ∃ t2 q2, sT u q1 = (t2, q2) := ⟨_, _, rfl⟩
          have HE2 := Lib.hid he2
          have hq2 : q2.1 ≤ u.size := by have := sT_le (u := u) (q := q1) hq1; rw [he2] at this; exact this
          clear he2
          refine (srcStr_any b u q1 _ HR1.out hu hq1).mono ?_
          rintro e w2 ⟨rfl, hr, hg⟩
          rw [HE2.out] at hr ⊢
          dsimp only at hr ⊢
          have HR2 := Lib.hid hr
          have HY2 := Lib.hid (HY1.out.kept hg hne)
          have HX2 := Lib.hid (HX1.out.kept hg hxb)
          have HG2 := Lib.hid (grown_trans HG1.out hg)
          clear hr hg HY1 HX1
          have x0 := HX2.out.cell 0 _ rfl
          have fx0 := HX2.out.free 0
          have x1 := HX2.out.cell 1 _ rfl
          have fx1 := HX2.out.free 1
          have x2 := HX2.out.cell 2 _ rfl
          have fx2 := HX2.out.free 2
          have x3 := HX2.out.cell 3 _ rfl
          have fx3 := HX2.out.free 3
          have x4 := HX2.out.cell 4 _ rfl
          have fx4 := HX2.out.free 4
          have x5 := HX2.out.cell 5 _ rfl
          have fx5 := HX2.out.free 5
          have x6 := HX2.out.cell 6 _ rfl
          have fx6 := HX2.out.free 6
          have x7 := HX2.out.cell 7 _ rfl
          have fx7 := HX2.out.free 7
          have x8 := HX2.out.cell 8 _ rfl
          have fx8 := HX2.out.free 8
          have x9 := HX2.out.cell 9 _ rfl
          have fx9 := HX2.out.free 9
          obtain ⟨X, hX⟩ : ∃ X, X = ((w2.setCell ⟨x, 7, none⟩ (.string t2)).setCell ⟨x, 8, none⟩ (.int .i64 0)).setCell ⟨x, 9, none⟩ (.string ⟨#[]⟩) := ⟨_, rfl⟩
          have HXX := Lib.hid (show BoxC X x [.int .i64 4, .int .i64 0, .int .i64 0, .int .i64 0, .int .i64 0, .int .i64 0, .string ⟨#[]⟩, .string t2, .int .i64 0, .string ⟨#[]⟩] by rw [hX]; exact (((HX2.out.set (j := 7) (by simp) (.string t2)).set (j := 8) (by simp) (.int .i64 0)).set (j := 9) (by simp) (.string ⟨#[]⟩)))
          have HRX := Lib.hid (show SB X b u (q2.1 : Int) q2.2 by rw [hX]; exact (((HR2.out.other x 7 (.string t2) hxb).other x 8 (.int .i64 0) hxb).other x 9 (.string ⟨#[]⟩) hxb))
          have HYX := Lib.hid (show BoxC X h [.int .i64 0, .int .i64 0, .int .i64 0, .int .i64 0, .int .i64 0, .int .i64 0, .string ⟨#[]⟩, .string ⟨#[]⟩, .int .i64 0, .string ⟨#[]⟩] by rw [hX]; exact (((HY2.out.other ⟨x, 7, none⟩ (.string t2) (by show x ≠ h; omega)).other ⟨x, 8, none⟩ (.int .i64 0) (by show x ≠ h; omega)).other ⟨x, 9, none⟩ (.string ⟨#[]⟩) (by show x ≠ h; omega)))
          have HGX := Lib.hid (show w.grownBy X (some b) by rw [hX]; exact grown_own (grown_own (grown_own (HG2.out) (grown_set _ x 7 _) (fun g hg => by cases hg; have := HHW.out; omega)) (grown_set _ x 8 _) (fun g hg => by cases hg; have := HHW.out; omega)) (grown_set _ x 9 _) (fun g hg => by cases hg; have := HHW.out; omega))
          have hlx := HX2.out.lt
          clear HR2 HX2 HY2
          go_upto_region 11 with fail
          rw [← hX]
          clear hX x0 fx0 x1 fx1 x2 fx2 x3 fx3 x4 fx4 x5 fx5 x6 fx6 x7 fx7 x8 fx8 x9 fx9 hlx
          have HEQ : Hid (rdDeed u q = (⟨4, 0, 0, 0, 0, 0, ⟨#[]⟩, t2, 0, ⟨#[]⟩⟩, q2)) := Lib.hid (by simp only [rdDeed, HRC.out, rcDel, HE.out, HE2.out])
          have x0 := HXX.out.cell 0 _ rfl
          have x1 := HXX.out.cell 1 _ rfl
          have x2 := HXX.out.cell 2 _ rfl
          have x3 := HXX.out.cell 3 _ rfl
          have x4 := HXX.out.cell 4 _ rfl
          have x5 := HXX.out.cell 5 _ rfl
          have x6 := HXX.out.cell 6 _ rfl
          have x7 := HXX.out.cell 7 _ rfl
          have x8 := HXX.out.cell 8 _ rfl
          have x9 := HXX.out.cell 9 _ rfl
          have y0 := HYX.out.cell 0 _ rfl
          have fy0 := HYX.out.free 0
          have y1 := HYX.out.cell 1 _ rfl
          have fy1 := HYX.out.free 1
          have y2 := HYX.out.cell 2 _ rfl
          have fy2 := HYX.out.free 2
          have y3 := HYX.out.cell 3 _ rfl
          have fy3 := HYX.out.free 3
          have y4 := HYX.out.cell 4 _ rfl
          have fy4 := HYX.out.free 4
          have y5 := HYX.out.cell 5 _ rfl
          have fy5 := HYX.out.free 5
          have y6 := HYX.out.cell 6 _ rfl
          have fy6 := HYX.out.free 6
          have y7 := HYX.out.cell 7 _ rfl
          have fy7 := HYX.out.free 7
          have y8 := HYX.out.cell 8 _ rfl
          have fy8 := HYX.out.free 8
          have y9 := HYX.out.cell 9 _ rfl
          have fy9 := HYX.out.free 9
          have hly := HYX.out.lt
          go_wp2_with fail
          exact bodyPost_ret (v := .agg #[.int .i64 4, .int .i64 0, .int .i64 0, .int .i64 0, .int .i64 0, .int .i64 0, .string ⟨#[]⟩, .string t2, .int .i64 0, .string ⟨#[]⟩]) (by simp [results, Tryz.results65, go_sem, hly, y0, y1, y2, y3, y4, y5, y6, y7, y8, y9]) rfl ⟨by rw [HEQ.out]; rfl, by rw [HEQ.out]; exact ((((((((((HRX.out.other h 0 (.int .i64 4) hne).other h 1 (.int .i64 0) hne).other h 2 (.int .i64 0) hne).other h 3 (.int .i64 0) hne).other h 4 (.int .i64 0) hne).other h 5 (.int .i64 0) hne).other h 6 (.string ⟨#[]⟩) hne).other h 7 (.string t2) hne).other h 8 (.int .i64 0) hne).other h 9 (.string ⟨#[]⟩) hne), grown_own (grown_own (grown_own (grown_own (grown_own (grown_own (grown_own (grown_own (grown_own (grown_own (HGX.out) (grown_set _ h 0 (.int .i64 4)) (fun g hg => by cases hg; exact HHW.out)) (grown_set _ h 1 (.int .i64 0)) (fun g hg => by cases hg; exact HHW.out)) (grown_set _ h 2 (.int .i64 0)) (fun g hg => by cases hg; exact HHW.out)) (grown_set _ h 3 (.int .i64 0)) (fun g hg => by cases hg; exact HHW.out)) (grown_set _ h 4 (.int .i64 0)) (fun g hg => by cases hg; exact HHW.out)) (grown_set _ h 5 (.int .i64 0)) (fun g hg => by cases hg; exact HHW.out)) (grown_set _ h 6 (.string ⟨#[]⟩)) (fun g hg => by cases hg; exact HHW.out)) (grown_set _ h 7 (.string t2)) (fun g hg => by cases hg; exact HHW.out)) (grown_set _ h 8 (.int .i64 0)) (fun g hg => by cases hg; exact HHW.out)) (grown_set _ h 9 (.string ⟨#[]⟩)) (fun g hg => by cases hg; exact HHW.out)⟩
        · skip
          have ka : (k == 1) = false := by simp [hk1]
          have kb : (k == 2) = false := by simp [hk2]
          have kc : (k == 3) = false := by simp [hk3]
          have kd : (k == 4) = false := by simp [hk4]
          have HRC : Hid (∀ q, rcRest u k q = rcNone k q) := Lib.hid (fun q => by unfold rcRest; simp [hk1, hk2, hk3, hk4])
          go_upto_region 11 with fail
          rw [← hV, ← hx]
          clear hV hx
          have HXX := HX1
          have HRX := HR1
          have HYX := HY1
          have HGX := HG1
          have HEQ : Hid (rdDeed u q = (⟨k, 0, 0, 0, 0, 0, ⟨#[]⟩, ⟨#[]⟩, 0, ⟨#[]⟩⟩, q1)) := Lib.hid (by simp only [rdDeed, HRC.out, rcNone, HE.out])
          have x0 := HXX.out.cell 0 _ rfl
          have x1 := HXX.out.cell 1 _ rfl
          have x2 := HXX.out.cell 2 _ rfl
          have x3 := HXX.out.cell 3 _ rfl
          have x4 := HXX.out.cell 4 _ rfl
          have x5 := HXX.out.cell 5 _ rfl
          have x6 := HXX.out.cell 6 _ rfl
          have x7 := HXX.out.cell 7 _ rfl
          have x8 := HXX.out.cell 8 _ rfl
          have x9 := HXX.out.cell 9 _ rfl
          have y0 := HYX.out.cell 0 _ rfl
          have fy0 := HYX.out.free 0
          have y1 := HYX.out.cell 1 _ rfl
          have fy1 := HYX.out.free 1
          have y2 := HYX.out.cell 2 _ rfl
          have fy2 := HYX.out.free 2
          have y3 := HYX.out.cell 3 _ rfl
          have fy3 := HYX.out.free 3
          have y4 := HYX.out.cell 4 _ rfl
          have fy4 := HYX.out.free 4
          have y5 := HYX.out.cell 5 _ rfl
          have fy5 := HYX.out.free 5
          have y6 := HYX.out.cell 6 _ rfl
          have fy6 := HYX.out.free 6
          have y7 := HYX.out.cell 7 _ rfl
          have fy7 := HYX.out.free 7
          have y8 := HYX.out.cell 8 _ rfl
          have fy8 := HYX.out.free 8
          have y9 := HYX.out.cell 9 _ rfl
          have fy9 := HYX.out.free 9
          have hly := HYX.out.lt
          go_wp2_with fail
          exact bodyPost_ret (v := .agg #[.int .i64 k, .int .i64 0, .int .i64 0, .int .i64 0, .int .i64 0, .int .i64 0, .string ⟨#[]⟩, .string ⟨#[]⟩, .int .i64 0, .string ⟨#[]⟩]) (by simp [results, Tryz.results65, go_sem, hly, y0, y1, y2, y3, y4, y5, y6, y7, y8, y9]) rfl ⟨by rw [HEQ.out]; rfl, by rw [HEQ.out]; exact ((((((((((HRX.out.other h 0 (.int .i64 k) hne).other h 1 (.int .i64 0) hne).other h 2 (.int .i64 0) hne).other h 3 (.int .i64 0) hne).other h 4 (.int .i64 0) hne).other h 5 (.int .i64 0) hne).other h 6 (.string ⟨#[]⟩) hne).other h 7 (.string ⟨#[]⟩) hne).other h 8 (.int .i64 0) hne).other h 9 (.string ⟨#[]⟩) hne), grown_own (grown_own (grown_own (grown_own (grown_own (grown_own (grown_own (grown_own (grown_own (grown_own (HGX.out) (grown_set _ h 0 (.int .i64 k)) (fun g hg => by cases hg; exact HHW.out)) (grown_set _ h 1 (.int .i64 0)) (fun g hg => by cases hg; exact HHW.out)) (grown_set _ h 2 (.int .i64 0)) (fun g hg => by cases hg; exact HHW.out)) (grown_set _ h 3 (.int .i64 0)) (fun g hg => by cases hg; exact HHW.out)) (grown_set _ h 4 (.int .i64 0)) (fun g hg => by cases hg; exact HHW.out)) (grown_set _ h 5 (.int .i64 0)) (fun g hg => by cases hg; exact HHW.out)) (grown_set _ h 6 (.string ⟨#[]⟩)) (fun g hg => by cases hg; exact HHW.out)) (grown_set _ h 7 (.string ⟨#[]⟩)) (fun g hg => by cases hg; exact HHW.out)) (grown_set _ h 8 (.int .i64 0)) (fun g hg => by cases hg; exact HHW.out)) (grown_set _ h 9 (.string ⟨#[]⟩)) (fun g hg => by cases hg; exact HHW.out)⟩
end Go.Proofs.YtidcpdfhnhfelaaGreatDoor

