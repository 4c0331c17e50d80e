/- Deeds done to a book, one after the other: what the program answers. -/
import Derived.Test.YtnoefpkhbllmiaaGreatBkG
import Derived.Test.YtnoefpkhbllmiaaGreatBkN
import Derived.Test.YtnoefpkhbllmiaaGreatBkPD
import Derived.Test.YtnoefpkhbllmiaaGreatRowDeed
namespace Go.Proofs.YtnoefpkhbllmiaaGreat
open Go.RowKit Go.PlainAid G IRow
set_option linter.unusedVariables false
theorem boxc_low {x y : World} {n h : Nat} {cs : List Value} (hb : BoxC x h cs) (hxy : Below n x y) (hn : h < n) : BoxC y h cs :=
  ⟨Nat.lt_of_lt_of_le hb.lt hxy.size, fun j v hv => (hxy.cell (p := ⟨h, j, none⟩) hn).trans (hb.cell j v hv), fun j => (hxy.frozen (p := ⟨h, j, none⟩) hn).trans (hb.free j)⟩
set_option maxRecDepth 100000 in
set_option maxHeartbeats 3200000 in
theorem doneAll_any (b : Bk) (a1 a2 : Option Addr) (n1 n2 a3 a4 : Nat) (a : Option Addr) (n cap : Nat) (ds : List Dd) (w : World) (h : BkR w a1 n1 a3 a2 n2 a4 b.ts b.is) (hb : bookB b = true) (hr : DdR w a n cap ds) (hn : n ≤ 10) (hd : ∀ t, t < n → deedOf (ds.getD t ddD) = true) :
    Calls Tryz.prog 30 #[.agg #[.int .i64 b.c0, .int .i64 b.c1, .int .i64 b.c2, .int .i64 b.c3, .slice a1 n1 a3, .slice a2 n2 a4], .slice a n cap] w (NewBookOut (doAllS b ds) w) := by
  have HR := Lib.hid hr
  have HDS := Lib.hid hd
  have HBB := Lib.hid hb
  have hsz := book_sizes hb
  have hl1 : b.ts.length = n1 := h.t.len
  have hl2 : b.is.length = n2 := h.i.len
  have HBK := Lib.hid h
  clear hr hd hb h
  go_enter Tryz.func30, Tryz.ntmps30
  go_wp2_with fail
  obtain ⟨W, hW⟩ : ∃ W, W = (w.alloc (.cells #[.int .i64 b.c0, .int .i64 b.c1, .int .i64 b.c2, .int .i64 b.c3, .slice a1 n1 a3, .slice a2 n2 a4] 40)).alloc (.cells #[.int .i64 0, .int .i64 0, .int .i64 0, .int .i64 0, .slice none 0 0, .slice none 0 0, .int .i64 0] 42) := ⟨_, rfl⟩
  have HB0 : Hid (Below w.heap.size w W) := Lib.hid (by rw [hW]; exact ((Below.refl _ _).alloc (Nat.le_refl _) _).alloc (by simp) _)
  have HZ0 : Hid (BoxC W (w.heap.size + 1) [.int .i64 0, .int .i64 0, .int .i64 0, .int .i64 0, .slice none 0 0, .slice none 0 0, .int .i64 0]) := Lib.hid (by rw [hW]; have := BoxC.made (w.alloc (.cells #[.int .i64 b.c0, .int .i64 b.c1, .int .i64 b.c2, .int .i64 b.c3, .slice a1 n1 a3, .slice a2 n2 a4] 40)) #[.int .i64 0, .int .i64 0, .int .i64 0, .int .i64 0, .slice none 0 0, .slice none 0 0, .int .i64 0] 42; rwa [World.size_alloc] at this)
  rw [← hW]
  clear hW
  refine (draftOf_any b a1 a2 n1 n2 a3 a4 _ (HBK.out.below HB0.out) (by omega) (by omega) hsz.2.2.1 (fun t ht => by have := (hsz.2.2.2.2 t (by omega)).1; unfold maxLen; omega)).mono ?_
  rintro e w1 ⟨B, M, v, rfl, hD, hb⟩
  have HD1 := Lib.hid hD
  have HB1 := Lib.hid (HB0.out.trans (hb.mono HB0.out.size))
  have HWS : Hid (w.heap.size + 1 < W.heap.size) := Lib.hid HZ0.out.lt
  have HZ1 := Lib.hid (HZ0.out.below hb)
  have HW1 : Hid (W.heap.size ≤ w1.heap.size) := Lib.hid hb.size
  clear hD hb hsz
  go_wp2_with fail
  go_loopw [13] (fun i wr => ∃ (k : Nat) (b2 : Bk) (v2 : Value), k ≤ n ∧ i = .int .i64 k ∧ Hid (Dr wr W.heap.size B M v2 b2) ∧ Hid (bookB b2 = true) ∧ Hid (doAllS b ds = doAllS b2 (ds.drop k)) ∧ Hid (Below w.heap.size w wr) ∧ Hid (BoxC wr (w.heap.size + 1) [.int .i64 0, .int .i64 0, .int .i64 0, .int .i64 0, .slice none 0 0, .slice none 0 0, .int .i64 0]) ∧ Hid (W.heap.size ≤ wr.heap.size)) (fun i _ => n - (intOf i).toNat)
  case atStart => exact ⟨0, b, v, Nat.zero_le _, rfl, HD1, HBB, Lib.hid (by rw [List.drop_zero]), HB1, HZ1, HW1⟩
  case round =>
    obtain ⟨k, b2, v2, hk, rfl, HD, HBR, HDO, HB, HZ, HSZ⟩ := hrel
    clear HD1 HBB HB1 HZ1 HW1
    have hsz := book_sizes HBR.out
    have hlds : ds.length = n := HR.out.len
    by_cases hlt : k < n
    · obtain ⟨g, o, rfl, hg, t0, t1, t2, t3, t4, t5, t6, t7, t8, t9⟩ := DdR.at (SR.below HR.out HB.out) hlt
      have hin : 0 ≤ (k : Int) ∧ (k : Int) < (n : Int) := by omega
      have hrd := HDS.out k hlt
      have HDP : Hid (ds.drop k = ds.getD k ddD :: ds.drop (k + 1)) := Lib.hid (by
        rw [show ds.getD k ddD = ds[k]'(by omega) by simp [List.getD, List.getElem?_eq_getElem (show k < ds.length by omega)]]
        exact List.drop_eq_getElem_cons (by omega))
      generalize ds.getD k ddD = d at *
      obtain ⟨q0, q1, q2, q3, q4, q5, q6, q7, q8, q9⟩ := d
      dsimp only at t0 t1 t2 t3 t4 t5 t6 t7 t8 t9
      obtain ⟨V, hV⟩ : ∃ V, V = wr.alloc (.cells #[.int .i64 q0, .int .i64 q1, .int .i64 q2, .int .i64 q3, .int .i64 q4, .int .i64 q5, .string q6, .string q7, .int .i64 q8, .string q9] 48) := ⟨_, rfl⟩
      have HWV : Hid (Below wr.heap.size wr V) := Lib.hid (by rw [hV]; exact (Below.refl _ _).alloc (Nat.le_refl _) _)
      go_wp2_with fail
      rw [← hV]
      clear hV t0 t1 t2 t3 t4 t5 t6 t7 t8 t9
      refine (draftDo_any q0 q1 q2 q3 q4 q5 q6 q7 q8 q9 (HD.out.below HWV.out) (Nat.le_trans HSZ.out HWV.out.size) hrd (conf_zero HBR.out) hsz.1 hsz.2.1).mono ?_
      rintro e w5 ⟨rfl, hp⟩
      have HP := Lib.hid hp
      have HDP2 : Hid (doAllS b ds = if (doS b2 ⟨q0, q1, q2, q3, q4, q5, q6, q7, q8, q9⟩).2 = 0 then doAllS (doS b2 ⟨q0, q1, q2, q3, q4, q5, q6, q7, q8, q9⟩).1 (ds.drop (k + 1)) else (bk0, (doS b2 ⟨q0, q1, q2, q3, q4, q5, q6, q7, q8, q9⟩).2)) := Lib.hid (by rw [HDO.out, HDP.out]; rfl)
      have HRT := Lib.hid (fun h0 => doS_right HBR.out (d := ⟨q0, q1, q2, q3, q4, q5, q6, q7, q8, q9⟩) hrd h0)
      have HLOW : Hid (∀ x y : World, Below W.heap.size x y → BoxC x (w.heap.size + 1) [.int .i64 0, .int .i64 0, .int .i64 0, .int .i64 0, .slice none 0 0, .slice none 0 0, .int .i64 0] → BoxC y (w.heap.size + 1) [.int .i64 0, .int .i64 0, .int .i64 0, .int .i64 0, .slice none 0 0, .slice none 0 0, .int .i64 0]) := Lib.hid (fun x y hxy hb => boxc_low hb hxy HWS.out)
      clear hp HDP HDO hrd hsz
      generalize doS b2 ⟨q0, q1, q2, q3, q4, q5, q6, q7, q8, q9⟩ = r at *
      obtain ⟨b3, cd⟩ := r
      dsimp only at HP HDP2 HRT ⊢
      by_cases hc : cd = 0
      · obtain ⟨v3, hD3⟩ := HP.out.2 hc
        have hb3 := HP.out.1
        have HD3 := Lib.hid hD3
        have HB3 := Lib.hid (HB.out.trans ((HWV.out.mono HB.out.size).trans (hb3.mono (Nat.le_trans (Nat.le_of_lt (Nat.lt_of_succ_lt HWS.out)) (Nat.le_refl _)))))
        have HZ3 := Lib.hid (HLOW.out _ _ hb3 (HZ.out.below HWV.out))
        have HS3 := Lib.hid (Nat.le_trans (Nat.le_trans HSZ.out HWV.out.size) hb3.size)
        have HR3 := Lib.hid (bookB_right (HRT.out hc))
        have HDN : Hid (doAllS b ds = doAllS b3 (ds.drop (k + 1))) := Lib.hid (by rw [HDP2.out, if_pos hc])
        have hc2 : (cd != 0) = false := by rw [hc]; rfl
        clear hD3 hb3 HP HDP2 HRT HLOW
        go_wp2_with fail
        go_roundw
        case rel => exact ⟨k + 1, b3, v3, by omega, by go_num, HD3, HR3, HDN, HB3, HZ3, HS3⟩
        case measure => simp [intOf]; omega
      · have hc2 : (cd != 0) = true := by simpa using hc
        have HN : Hid (doAllS b ds = (bk0, cd)) := Lib.hid (by rw [HDP2.out, if_neg hc])
        have hb3 := HP.out.1
        have HB3 := Lib.hid (HB.out.trans ((HWV.out.mono HB.out.size).trans (hb3.mono (Nat.le_trans (Nat.le_of_lt (Nat.lt_of_succ_lt HWS.out)) (Nat.le_refl _)))))
        have hz3 := HLOW.out _ _ hb3 (HZ.out.below HWV.out)
        clear hb3 HP HDP2 HRT HLOW
        have z0 := hz3.cell 0 _ rfl
        have f0 := hz3.free 0
        have z1 := hz3.cell 1 _ rfl
        have f1 := hz3.free 1
        have z2 := hz3.cell 2 _ rfl
        have f2 := hz3.free 2
        have z3 := hz3.cell 3 _ rfl
        have f3 := hz3.free 3
        have z4 := hz3.cell 4 _ rfl
        have f4 := hz3.free 4
        have z5 := hz3.cell 5 _ rfl
        have f5 := hz3.free 5
        have z6 := hz3.cell 6 _ rfl
        have f6 := hz3.free 6
        have hY := (((((((hz3.set (j := 0) (by simp) (.int .i64 0)).set (j := 1) (by simp) (.int .i64 0)).set (j := 2) (by simp) (.int .i64 0)).set (j := 3) (by simp) (.int .i64 0)).set (j := 4) (by simp) (.slice none 0 0)).set (j := 5) (by simp) (.slice none 0 0)).set (j := 6) (by simp) (.int .i64 cd))
        have HYB := Lib.hid (((((((HB3.out.setCell (p := ⟨w.heap.size + 1, 0, none⟩) (by dsimp only; omega) (.int .i64 0)).setCell (p := ⟨w.heap.size + 1, 1, none⟩) (by dsimp only; omega) (.int .i64 0)).setCell (p := ⟨w.heap.size + 1, 2, none⟩) (by dsimp only; omega) (.int .i64 0)).setCell (p := ⟨w.heap.size + 1, 3, none⟩) (by dsimp only; omega) (.int .i64 0)).setCell (p := ⟨w.heap.size + 1, 4, none⟩) (by dsimp only; omega) (.slice none 0 0)).setCell (p := ⟨w.heap.size + 1, 5, none⟩) (by dsimp only; omega) (.slice none 0 0)).setCell (p := ⟨w.heap.size + 1, 6, none⟩) (by dsimp only; omega) (.int .i64 cd))
        obtain ⟨Y, hYd⟩ : ∃ Y, Y = ((((((w5.setCell ⟨w.heap.size + 1, 0, none⟩ (.int .i64 0)).setCell ⟨w.heap.size + 1, 1, none⟩ (.int .i64 0)).setCell ⟨w.heap.size + 1, 2, none⟩ (.int .i64 0)).setCell ⟨w.heap.size + 1, 3, none⟩ (.int .i64 0)).setCell ⟨w.heap.size + 1, 4, none⟩ (.slice none 0 0)).setCell ⟨w.heap.size + 1, 5, none⟩ (.slice none 0 0)).setCell ⟨w.heap.size + 1, 6, none⟩ (.int .i64 cd) := ⟨_, rfl⟩
        rw [← hYd] at hY HYB
        have g0 := hY.cell 0 _ rfl
        have g1 := hY.cell 1 _ rfl
        have g2 := hY.cell 2 _ rfl
        have g3 := hY.cell 3 _ rfl
        have g4 := hY.cell 4 _ rfl
        have g5 := hY.cell 5 _ rfl
        have g6 := hY.cell 6 _ rfl
        have HG := Lib.hid (And.intro g0 (And.intro g1 (And.intro g2 (And.intro g3 (And.intro g4 (And.intro g5 g6))))))
        have HYD := Lib.hid hYd
        clear hY hYd g0 g1 g2 g3 g4 g5 g6
        go_wp2_with fail
        rw [← HYD.out]
        obtain ⟨g0, g1, g2, g3, g4, g5, g6⟩ := HG.out
        clear z0 f0 z1 f1 z2 f2 z3 f3 z4 f4 z5 f5 z6 f6
        exact bodyPost_ret (v := .agg #[.int .i64 0, .int .i64 0, .int .i64 0, .int .i64 0, .slice none 0 0, .slice none 0 0, .int .i64 cd]) (by simp [results, Tryz.results30, go_sem, g0, g1, g2, g3, g4, g5, g6]) rfl (by rw [HN.out]; exact ⟨none, 0, 0, none, 0, 0, rfl, ⟨World.ownsRow_nil _ _ _ _, World.ownsRow_nil _ _ _ _⟩, HYB.out⟩)
    · have hkn : k = n := by omega
      have HN : Hid (doAllS b ds = (b2, 0)) := Lib.hid (by rw [HDO.out, hkn, List.drop_eq_nil_of_le (by omega)]; rfl)
      have hge : ¬ (k : Int) < (n : Int) := by omega
      clear hkn hlt hk
      go_wp2_with fail
      refine (told_any HD.out hsz.1 hsz.2.1 hsz.2.2.2.1 hsz.2.2.2.2).mono ?_
      rintro e w5 ⟨e1, m1, e3, e2, m2, e4, rfl, ho, hb⟩
      have HBO := Lib.hid ho
      have HB5 := Lib.hid (HB.out.trans (hb.mono HB.out.size))
      have hz5 := HZ.out.below hb
      clear ho hb hsz
      have z0 := hz5.cell 0 _ rfl
      have f0 := hz5.free 0
      have z1 := hz5.cell 1 _ rfl
      have f1 := hz5.free 1
      have z2 := hz5.cell 2 _ rfl
      have f2 := hz5.free 2
      have z3 := hz5.cell 3 _ rfl
      have f3 := hz5.free 3
      have z4 := hz5.cell 4 _ rfl
      have f4 := hz5.free 4
      have z5 := hz5.cell 5 _ rfl
      have f5 := hz5.free 5
      have z6 := hz5.cell 6 _ rfl
      have f6 := hz5.free 6
      have hY := (((((((hz5.set (j := 0) (by simp) (.int .i64 b2.c0)).set (j := 1) (by simp) (.int .i64 b2.c1)).set (j := 2) (by simp) (.int .i64 b2.c2)).set (j := 3) (by simp) (.int .i64 b2.c3)).set (j := 4) (by simp) (.slice e1 m1 e3)).set (j := 5) (by simp) (.slice e2 m2 e4)).set (j := 6) (by simp) (.int .i64 0))
      have HYB := Lib.hid (((((((HB5.out.setCell (p := ⟨w.heap.size + 1, 0, none⟩) (by dsimp only; omega) (.int .i64 b2.c0)).setCell (p := ⟨w.heap.size + 1, 1, none⟩) (by dsimp only; omega) (.int .i64 b2.c1)).setCell (p := ⟨w.heap.size + 1, 2, none⟩) (by dsimp only; omega) (.int .i64 b2.c2)).setCell (p := ⟨w.heap.size + 1, 3, none⟩) (by dsimp only; omega) (.int .i64 b2.c3)).setCell (p := ⟨w.heap.size + 1, 4, none⟩) (by dsimp only; omega) (.slice e1 m1 e3)).setCell (p := ⟨w.heap.size + 1, 5, none⟩) (by dsimp only; omega) (.slice e2 m2 e4)).setCell (p := ⟨w.heap.size + 1, 6, none⟩) (by dsimp only; omega) (.int .i64 0))
      obtain ⟨Y, hYd⟩ : ∃ Y, Y = ((((((w5.setCell ⟨w.heap.size + 1, 0, none⟩ (.int .i64 b2.c0)).setCell ⟨w.heap.size + 1, 1, none⟩ (.int .i64 b2.c1)).setCell ⟨w.heap.size + 1, 2, none⟩ (.int .i64 b2.c2)).setCell ⟨w.heap.size + 1, 3, none⟩ (.int .i64 b2.c3)).setCell ⟨w.heap.size + 1, 4, none⟩ (.slice e1 m1 e3)).setCell ⟨w.heap.size + 1, 5, none⟩ (.slice e2 m2 e4)).setCell ⟨w.heap.size + 1, 6, none⟩ (.int .i64 0) := ⟨_, rfl⟩
      have HYT : Hid (Y.ownsRow w.heap.size 45 tmE.k (.slice e1 m1 e3) m1 (tmE.flat b2.ts)) := Lib.hid (by rw [hYd]; exact (own_other (own_other (own_other (own_other (own_other (own_other (own_other (own_mono HBO.out.t (show w.heap.size ≤ wr.heap.size from HB.out.size)) (b := w.heap.size + 1) (fun q hq => by have := (HBO.out.t.lt q hq).1; have := HWS.out; have := HSZ.out; omega) ⟨w.heap.size + 1, 0, none⟩ (.int .i64 b2.c0) rfl) (b := w.heap.size + 1) (fun q hq => by have := (HBO.out.t.lt q hq).1; have := HWS.out; have := HSZ.out; omega) ⟨w.heap.size + 1, 1, none⟩ (.int .i64 b2.c1) rfl) (b := w.heap.size + 1) (fun q hq => by have := (HBO.out.t.lt q hq).1; have := HWS.out; have := HSZ.out; omega) ⟨w.heap.size + 1, 2, none⟩ (.int .i64 b2.c2) rfl) (b := w.heap.size + 1) (fun q hq => by have := (HBO.out.t.lt q hq).1; have := HWS.out; have := HSZ.out; omega) ⟨w.heap.size + 1, 3, none⟩ (.int .i64 b2.c3) rfl) (b := w.heap.size + 1) (fun q hq => by have := (HBO.out.t.lt q hq).1; have := HWS.out; have := HSZ.out; omega) ⟨w.heap.size + 1, 4, none⟩ (.slice e1 m1 e3) rfl) (b := w.heap.size + 1) (fun q hq => by have := (HBO.out.t.lt q hq).1; have := HWS.out; have := HSZ.out; omega) ⟨w.heap.size + 1, 5, none⟩ (.slice e2 m2 e4) rfl) (b := w.heap.size + 1) (fun q hq => by have := (HBO.out.t.lt q hq).1; have := HWS.out; have := HSZ.out; omega) ⟨w.heap.size + 1, 6, none⟩ (.int .i64 0) rfl))
      have HYI : Hid (Y.ownsRow w.heap.size 46 imE.k (.slice e2 m2 e4) m2 (imE.flat b2.is)) := Lib.hid (by rw [hYd]; exact (own_other (own_other (own_other (own_other (own_other (own_other (own_other (own_mono HBO.out.i (show w.heap.size ≤ wr.heap.size from HB.out.size)) (b := w.heap.size + 1) (fun q hq => by have := (HBO.out.i.lt q hq).1; have := HWS.out; have := HSZ.out; omega) ⟨w.heap.size + 1, 0, none⟩ (.int .i64 b2.c0) rfl) (b := w.heap.size + 1) (fun q hq => by have := (HBO.out.i.lt q hq).1; have := HWS.out; have := HSZ.out; omega) ⟨w.heap.size + 1, 1, none⟩ (.int .i64 b2.c1) rfl) (b := w.heap.size + 1) (fun q hq => by have := (HBO.out.i.lt q hq).1; have := HWS.out; have := HSZ.out; omega) ⟨w.heap.size + 1, 2, none⟩ (.int .i64 b2.c2) rfl) (b := w.heap.size + 1) (fun q hq => by have := (HBO.out.i.lt q hq).1; have := HWS.out; have := HSZ.out; omega) ⟨w.heap.size + 1, 3, none⟩ (.int .i64 b2.c3) rfl) (b := w.heap.size + 1) (fun q hq => by have := (HBO.out.i.lt q hq).1; have := HWS.out; have := HSZ.out; omega) ⟨w.heap.size + 1, 4, none⟩ (.slice e1 m1 e3) rfl) (b := w.heap.size + 1) (fun q hq => by have := (HBO.out.i.lt q hq).1; have := HWS.out; have := HSZ.out; omega) ⟨w.heap.size + 1, 5, none⟩ (.slice e2 m2 e4) rfl) (b := w.heap.size + 1) (fun q hq => by have := (HBO.out.i.lt q hq).1; have := HWS.out; have := HSZ.out; omega) ⟨w.heap.size + 1, 6, none⟩ (.int .i64 0) rfl))
      rw [← hYd] at hY HYB
      have g0 := hY.cell 0 _ rfl
      have g1 := hY.cell 1 _ rfl
      have g2 := hY.cell 2 _ rfl
      have g3 := hY.cell 3 _ rfl
      have g4 := hY.cell 4 _ rfl
      have g5 := hY.cell 5 _ rfl
      have g6 := hY.cell 6 _ rfl
      have HG := Lib.hid (And.intro g0 (And.intro g1 (And.intro g2 (And.intro g3 (And.intro g4 (And.intro g5 g6))))))
      have HYD := Lib.hid hYd
      clear hY hYd g0 g1 g2 g3 g4 g5 g6
      go_wp2_with fail
      rw [← HYD.out]
      obtain ⟨g0, g1, g2, g3, g4, g5, g6⟩ := HG.out
      clear z0 f0 z1 f1 z2 f2 z3 f3 z4 f4 z5 f5 z6 f6
      exact bodyPost_ret (v := .agg #[.int .i64 b2.c0, .int .i64 b2.c1, .int .i64 b2.c2, .int .i64 b2.c3, .slice e1 m1 e3, .slice e2 m2 e4, .int .i64 0]) (by simp [results, Tryz.results30, go_sem, g0, g1, g2, g3, g4, g5, g6]) rfl (by rw [HN.out]; exact ⟨e1, m1, e3, e2, m2, e4, rfl, ⟨HYT.out, HYI.out⟩, HYB.out⟩)
def bookDoS (b : Bk) (d : Dd) : Bk × Int := if bookB b = true ∧ deedOf d = true then doS b d else (bk0, 1)
def CodeP (r : Bk × Int) : Prop := r.2 = 0 ∨ r.1 = bk0
theorem doS_code (b : Bk) (d : Dd) : CodeP (doS b d) := by
  unfold doS itemsR
  repeat' split
  all_goals first | exact Or.inl rfl | exact Or.inr rfl
theorem doAllS_one (b : Bk) (d : Dd) : doAllS b [d] = doS b d := by
  show (if (doS b d).2 = 0 then ((doS b d).1, (0 : Int)) else (bk0, (doS b d).2)) = doS b d
  by_cases h : (doS b d).2 = 0
  · rw [if_pos h, ← h]
  · rw [if_neg h, ← (doS_code b d).resolve_left h]
set_option maxRecDepth 100000 in
set_option maxHeartbeats 3200000 in
theorem implBookDo_any (b : Bk) (a1 a2 : Option Addr) (n1 n2 a3 a4 : Nat) (q0 q1 q2 q3 q4 q5 : Int) (q6 q7 : ByteArray) (q8 : Int) (q9 : ByteArray) (w : World) (h : BkR w a1 n1 a3 a2 n2 a4 b.ts b.is) (hn1 : n1 ≤ 1048576) (hn2 : n2 ≤ 1048576) (hs1 : ∀ t, t < n1 → (b.ts.getD t tmD).lk.size ≤ maxLen) (hs2 : ∀ t, t < n2 → (b.is.getD t imD).nm.size ≤ maxLen ∧ (b.is.getD t imD).bd.size ≤ maxLen) (h6 : q6.size ≤ maxLen) (h7 : q7.size ≤ maxLen) (h9 : q9.size ≤ maxLen) :
    Calls Tryz.prog 9 #[.agg #[.int .i64 b.c0, .int .i64 b.c1, .int .i64 b.c2, .int .i64 b.c3, .slice a1 n1 a3, .slice a2 n2 a4], .agg #[.int .i64 q0, .int .i64 q1, .int .i64 q2, .int .i64 q3, .int .i64 q4, .int .i64 q5, .string q6, .string q7, .int .i64 q8, .string q9]] w (NewBookOut (bookDoS b ⟨q0, q1, q2, q3, q4, q5, q6, q7, q8, q9⟩) w) := by
  have HBK := Lib.hid h
  have HS1 := Lib.hid hs1
  have HS2 := Lib.hid hs2
  clear h hs1 hs2
  obtain ⟨W, hW⟩ : ∃ W, W = ((w.alloc (.cells #[.int .i64 b.c0, .int .i64 b.c1, .int .i64 b.c2, .int .i64 b.c3, .slice a1 n1 a3, .slice a2 n2 a4] 40)).alloc (.cells #[.int .i64 q0, .int .i64 q1, .int .i64 q2, .int .i64 q3, .int .i64 q4, .int .i64 q5, .string q6, .string q7, .int .i64 q8, .string q9] 48)).alloc (.cells #[.int .i64 0, .int .i64 0, .int .i64 0, .int .i64 0, .slice none 0 0, .slice none 0 0, .int .i64 0] 42) := ⟨_, rfl⟩
  have HB0 : Hid (Below w.heap.size w W) := Lib.hid (by rw [hW]; repeat' (first | exact Below.refl _ _ | refine Below.alloc ?_ (by first | exact Nat.le_refl _ | (simp; done) | (simp; omega)) _))
  have HXb : Hid (BoxC W w.heap.size [.int .i64 b.c0, .int .i64 b.c1, .int .i64 b.c2, .int .i64 b.c3, .slice a1 n1 a3, .slice a2 n2 a4]) := Lib.hid (by rw [hW]; exact ((BoxC.made _ _ _).alloc _).alloc _)
  have HXd : Hid (BoxC W (w.heap.size + 1) [.int .i64 q0, .int .i64 q1, .int .i64 q2, .int .i64 q3, .int .i64 q4, .int .i64 q5, .string q6, .string q7, .int .i64 q8, .string q9]) := Lib.hid (by rw [hW]; have := (BoxC.made (w.alloc (.cells #[.int .i64 b.c0, .int .i64 b.c1, .int .i64 b.c2, .int .i64 b.c3, .slice a1 n1 a3, .slice a2 n2 a4] 40)) #[.int .i64 q0, .int .i64 q1, .int .i64 q2, .int .i64 q3, .int .i64 q4, .int .i64 q5, .string q6, .string q7, .int .i64 q8, .string q9] 48).alloc (.cells #[.int .i64 0, .int .i64 0, .int .i64 0, .int .i64 0, .slice none 0 0, .slice none 0 0, .int .i64 0] 42); rwa [World.size_alloc] at this)
  have HXr : Hid (BoxC W (w.heap.size + 1 + 1) [.int .i64 0, .int .i64 0, .int .i64 0, .int .i64 0, .slice none 0 0, .slice none 0 0, .int .i64 0]) := Lib.hid (by rw [hW]; have := BoxC.made ((w.alloc (.cells #[.int .i64 b.c0, .int .i64 b.c1, .int .i64 b.c2, .int .i64 b.c3, .slice a1 n1 a3, .slice a2 n2 a4] 40)).alloc (.cells #[.int .i64 q0, .int .i64 q1, .int .i64 q2, .int .i64 q3, .int .i64 q4, .int .i64 q5, .string q6, .string q7, .int .i64 q8, .string q9] 48)) #[.int .i64 0, .int .i64 0, .int .i64 0, .int .i64 0, .slice none 0 0, .slice none 0 0, .int .i64 0] 42; rwa [World.size_alloc, World.size_alloc] at this)
  go_enter Tryz.func9, Tryz.ntmps9
  go_wp2_with fail
  rw [← hW]
  clear hW
  refine (implBookRight_any b a1 a2 n1 n2 a3 a4 _ (HBK.out.below HB0.out) hn1 hn2 HS1.out HS2.out).mono ?_
  rintro e w1 ⟨rfl, hb⟩
  have HB1 := Lib.hid hb
  clear hb
  cases hbr : bookB b
  · have HN : Hid (bookDoS b ⟨q0, q1, q2, q3, q4, q5, q6, q7, q8, q9⟩ = (bk0, 1)) := Lib.hid (by unfold bookDoS; rw [if_neg (fun h => by rw [hbr] at h; cases h.1)])
    have hz3 := HXr.out.below HB1.out
    have HB3 := Lib.hid (HB0.out.trans (HB1.out.mono HB0.out.size))
    have z0 := hz3.cell 0 _ rfl
    have f0 := hz3.free 0
    have z1 := hz3.cell 1 _ rfl
    have f1 := hz3.free 1
    have z2 := hz3.cell 2 _ rfl
    have f2 := hz3.free 2
    have z3 := hz3.cell 3 _ rfl
    have f3 := hz3.free 3
    have z4 := hz3.cell 4 _ rfl
    have f4 := hz3.free 4
    have z5 := hz3.cell 5 _ rfl
    have f5 := hz3.free 5
    have z6 := hz3.cell 6 _ rfl
    have f6 := hz3.free 6
    have hY := (((((((hz3.set (j := 0) (by simp) (.int .i64 0)).set (j := 1) (by simp) (.int .i64 0)).set (j := 2) (by simp) (.int .i64 0)).set (j := 3) (by simp) (.int .i64 0)).set (j := 4) (by simp) (.slice none 0 0)).set (j := 5) (by simp) (.slice none 0 0)).set (j := 6) (by simp) (.int .i64 1))
    have HYB := Lib.hid (((((((HB3.out.setCell (p := ⟨w.heap.size + 1 + 1, 0, none⟩) (by dsimp only; omega) (.int .i64 0)).setCell (p := ⟨w.heap.size + 1 + 1, 1, none⟩) (by dsimp only; omega) (.int .i64 0)).setCell (p := ⟨w.heap.size + 1 + 1, 2, none⟩) (by dsimp only; omega) (.int .i64 0)).setCell (p := ⟨w.heap.size + 1 + 1, 3, none⟩) (by dsimp only; omega) (.int .i64 0)).setCell (p := ⟨w.heap.size + 1 + 1, 4, none⟩) (by dsimp only; omega) (.slice none 0 0)).setCell (p := ⟨w.heap.size + 1 + 1, 5, none⟩) (by dsimp only; omega) (.slice none 0 0)).setCell (p := ⟨w.heap.size + 1 + 1, 6, none⟩) (by dsimp only; omega) (.int .i64 1))
    obtain ⟨Y, hYd⟩ : ∃ Y, Y = ((((((w1.setCell ⟨w.heap.size + 1 + 1, 0, none⟩ (.int .i64 0)).setCell ⟨w.heap.size + 1 + 1, 1, none⟩ (.int .i64 0)).setCell ⟨w.heap.size + 1 + 1, 2, none⟩ (.int .i64 0)).setCell ⟨w.heap.size + 1 + 1, 3, none⟩ (.int .i64 0)).setCell ⟨w.heap.size + 1 + 1, 4, none⟩ (.slice none 0 0)).setCell ⟨w.heap.size + 1 + 1, 5, none⟩ (.slice none 0 0)).setCell ⟨w.heap.size + 1 + 1, 6, none⟩ (.int .i64 1) := ⟨_, rfl⟩
    rw [← hYd] at hY HYB
    have g0 := hY.cell 0 _ rfl
    have g1 := hY.cell 1 _ rfl
    have g2 := hY.cell 2 _ rfl
    have g3 := hY.cell 3 _ rfl
    have g4 := hY.cell 4 _ rfl
    have g5 := hY.cell 5 _ rfl
    have g6 := hY.cell 6 _ rfl
    have HG := Lib.hid (And.intro g0 (And.intro g1 (And.intro g2 (And.intro g3 (And.intro g4 (And.intro g5 g6))))))
    have HYD := Lib.hid hYd
    clear hz3 hY hYd g0 g1 g2 g3 g4 g5 g6
    go_wp2_with fail
    rw [← HYD.out]
    obtain ⟨g0, g1, g2, g3, g4, g5, g6⟩ := HG.out
    clear z0 f0 z1 f1 z2 f2 z3 f3 z4 f4 z5 f5 z6 f6
    exact bodyPost_ret (v := .agg #[.int .i64 0, .int .i64 0, .int .i64 0, .int .i64 0, .slice none 0 0, .slice none 0 0, .int .i64 1]) (by simp [results, Tryz.results9, go_sem, g0, g1, g2, g3, g4, g5, g6]) rfl (by rw [HN.out]; exact ⟨none, 0, 0, none, 0, 0, rfl, ⟨World.ownsRow_nil _ _ _ _, World.ownsRow_nil _ _ _ _⟩, HYB.out⟩)
  · have d0 := (HXd.out.below HB1.out).cell 0 _ rfl
    have d1 := (HXd.out.below HB1.out).cell 1 _ rfl
    have d2 := (HXd.out.below HB1.out).cell 2 _ rfl
    have d3 := (HXd.out.below HB1.out).cell 3 _ rfl
    have d4 := (HXd.out.below HB1.out).cell 4 _ rfl
    have d5 := (HXd.out.below HB1.out).cell 5 _ rfl
    have d6 := (HXd.out.below HB1.out).cell 6 _ rfl
    have d7 := (HXd.out.below HB1.out).cell 7 _ rfl
    have d8 := (HXd.out.below HB1.out).cell 8 _ rfl
    have d9 := (HXd.out.below HB1.out).cell 9 _ rfl
    go_wp2_with fail
    refine (implDeedRight_any q0 q1 q2 q3 q4 q5 q6 q7 q8 q9 _ h6 h7 h9).mono ?_
    rintro e w2 ⟨rfl, hb⟩
    have HB2 := Lib.hid (HB1.out.trans (hb.mono HB1.out.size))
    clear hb d0 d1 d2 d3 d4 d5 d6 d7 d8 d9
    cases hdr : deedB q0 q1 q2 q3 q4 q5 q6 q7 q8 q9
    · have HN : Hid (bookDoS b ⟨q0, q1, q2, q3, q4, q5, q6, q7, q8, q9⟩ = (bk0, 1)) := Lib.hid (by unfold bookDoS; rw [if_neg (fun h => by have h2 : deedB q0 q1 q2 q3 q4 q5 q6 q7 q8 q9 = true := h.2; rw [hdr] at h2; cases h2)])
      have hz3 := HXr.out.below HB2.out
      have HB3 := Lib.hid (HB0.out.trans (HB2.out.mono HB0.out.size))
      have z0 := hz3.cell 0 _ rfl
      have f0 := hz3.free 0
      have z1 := hz3.cell 1 _ rfl
      have f1 := hz3.free 1
      have z2 := hz3.cell 2 _ rfl
      have f2 := hz3.free 2
      have z3 := hz3.cell 3 _ rfl
      have f3 := hz3.free 3
      have z4 := hz3.cell 4 _ rfl
      have f4 := hz3.free 4
      have z5 := hz3.cell 5 _ rfl
      have f5 := hz3.free 5
      have z6 := hz3.cell 6 _ rfl
      have f6 := hz3.free 6
      have hY := (((((((hz3.set (j := 0) (by simp) (.int .i64 0)).set (j := 1) (by simp) (.int .i64 0)).set (j := 2) (by simp) (.int .i64 0)).set (j := 3) (by simp) (.int .i64 0)).set (j := 4) (by simp) (.slice none 0 0)).set (j := 5) (by simp) (.slice none 0 0)).set (j := 6) (by simp) (.int .i64 1))
      have HYB := Lib.hid (((((((HB3.out.setCell (p := ⟨w.heap.size + 1 + 1, 0, none⟩) (by dsimp only; omega) (.int .i64 0)).setCell (p := ⟨w.heap.size + 1 + 1, 1, none⟩) (by dsimp only; omega) (.int .i64 0)).setCell (p := ⟨w.heap.size + 1 + 1, 2, none⟩) (by dsimp only; omega) (.int .i64 0)).setCell (p := ⟨w.heap.size + 1 + 1, 3, none⟩) (by dsimp only; omega) (.int .i64 0)).setCell (p := ⟨w.heap.size + 1 + 1, 4, none⟩) (by dsimp only; omega) (.slice none 0 0)).setCell (p := ⟨w.heap.size + 1 + 1, 5, none⟩) (by dsimp only; omega) (.slice none 0 0)).setCell (p := ⟨w.heap.size + 1 + 1, 6, none⟩) (by dsimp only; omega) (.int .i64 1))
      obtain ⟨Y, hYd⟩ : ∃ Y, Y = ((((((w2.setCell ⟨w.heap.size + 1 + 1, 0, none⟩ (.int .i64 0)).setCell ⟨w.heap.size + 1 + 1, 1, none⟩ (.int .i64 0)).setCell ⟨w.heap.size + 1 + 1, 2, none⟩ (.int .i64 0)).setCell ⟨w.heap.size + 1 + 1, 3, none⟩ (.int .i64 0)).setCell ⟨w.heap.size + 1 + 1, 4, none⟩ (.slice none 0 0)).setCell ⟨w.heap.size + 1 + 1, 5, none⟩ (.slice none 0 0)).setCell ⟨w.heap.size + 1 + 1, 6, none⟩ (.int .i64 1) := ⟨_, rfl⟩
      rw [← hYd] at hY HYB
      have g0 := hY.cell 0 _ rfl
      have g1 := hY.cell 1 _ rfl
      have g2 := hY.cell 2 _ rfl
      have g3 := hY.cell 3 _ rfl
      have g4 := hY.cell 4 _ rfl
      have g5 := hY.cell 5 _ rfl
      have g6 := hY.cell 6 _ rfl
      have HG := Lib.hid (And.intro g0 (And.intro g1 (And.intro g2 (And.intro g3 (And.intro g4 (And.intro g5 g6))))))
      have HYD := Lib.hid hYd
      clear hz3 hY hYd g0 g1 g2 g3 g4 g5 g6
      go_wp2_with fail
      rw [← HYD.out]
      obtain ⟨g0, g1, g2, g3, g4, g5, g6⟩ := HG.out
      clear z0 f0 z1 f1 z2 f2 z3 f3 z4 f4 z5 f5 z6 f6
      exact bodyPost_ret (v := .agg #[.int .i64 0, .int .i64 0, .int .i64 0, .int .i64 0, .slice none 0 0, .slice none 0 0, .int .i64 1]) (by simp [results, Tryz.results9, go_sem, g0, g1, g2, g3, g4, g5, g6]) rfl (by rw [HN.out]; exact ⟨none, 0, 0, none, 0, 0, rfl, ⟨World.ownsRow_nil _ _ _ _, World.ownsRow_nil _ _ _ _⟩, HYB.out⟩)
    · have HN : Hid (bookDoS b ⟨q0, q1, q2, q3, q4, q5, q6, q7, q8, q9⟩ = doAllS b [⟨q0, q1, q2, q3, q4, q5, q6, q7, q8, q9⟩]) := Lib.hid (by unfold bookDoS; rw [if_pos ⟨hbr, hdr⟩, doAllS_one])
      have HBR := Lib.hid hbr
      have HDR := Lib.hid hdr
      clear hbr hdr
      have d0 := (HXd.out.below HB2.out).cell 0 _ rfl
      have d1 := (HXd.out.below HB2.out).cell 1 _ rfl
      have d2 := (HXd.out.below HB2.out).cell 2 _ rfl
      have d3 := (HXd.out.below HB2.out).cell 3 _ rfl
      have d4 := (HXd.out.below HB2.out).cell 4 _ rfl
      have d5 := (HXd.out.below HB2.out).cell 5 _ rfl
      have d6 := (HXd.out.below HB2.out).cell 6 _ rfl
      have d7 := (HXd.out.below HB2.out).cell 7 _ rfl
      have d8 := (HXd.out.below HB2.out).cell 8 _ rfl
      have d9 := (HXd.out.below HB2.out).cell 9 _ rfl
      have b0 := (HXb.out.below HB2.out).cell 0 _ rfl
      have b1 := (HXb.out.below HB2.out).cell 1 _ rfl
      have b2 := (HXb.out.below HB2.out).cell 2 _ rfl
      have b3 := (HXb.out.below HB2.out).cell 3 _ rfl
      have b4 := (HXb.out.below HB2.out).cell 4 _ rfl
      have b5 := (HXb.out.below HB2.out).cell 5 _ rfl
      go_wp2_with fail
      clear d0 d1 d2 d3 d4 d5 d6 d7 d8 d9 b0 b1 b2 b3 b4 b5
      obtain ⟨X, hX⟩ : ∃ X, X = w2.alloc (.cells #[.int .i64 q0, .int .i64 q1, .int .i64 q2, .int .i64 q3, .int .i64 q4, .int .i64 q5, .string q6, .string q7, .int .i64 q8, .string q9] 48) := ⟨_, rfl⟩
      have hXB : Below w2.heap.size w2 X := by rw [hX]; exact (Below.refl _ _).alloc (Nat.le_refl _) _
      have hL : DdR X (some ⟨w2.heap.size, 0, none⟩) 1 1 [⟨q0, q1, q2, q3, q4, q5, q6, q7, q8, q9⟩] := by rw [hX]; exact SR.own (by decide) (World.ownsRow_lit w2 #[.int .i64 q0, .int .i64 q1, .int .i64 q2, .int .i64 q3, .int .i64 q4, .int .i64 q5, .string q6, .string q7, .int .i64 q8, .string q9] 1 (Nat.le_refl _) (by decide) rfl)
      have HBX := Lib.hid (HB2.out.trans (hXB.mono HB2.out.size))
      have HBX0 := Lib.hid (HB0.out.trans (HBX.out.mono HB0.out.size))
      have hsz := book_sizes HBR.out
      have hl1 : b.ts.length = n1 := HBK.out.t.len
      have hone : ∀ t, t < 1 → deedOf ([(⟨q0, q1, q2, q3, q4, q5, q6, q7, q8, q9⟩ : Dd)].getD t ddD) = true := fun t ht => by
        have h0 : t = 0 := by omega
        subst h0
        exact HDR.out
      rw [← hX]
      clear hX hXB
      refine (doneAll_any b a1 a2 n1 n2 a3 a4 (some ⟨w2.heap.size, 0, none⟩) 1 1 [⟨q0, q1, q2, q3, q4, q5, q6, q7, q8, q9⟩] X (HBK.out.below HBX0.out) HBR.out hL (by omega) hone).mono ?_
      rintro e w4 hnb
      rw [← HN.out] at hnb
      generalize bookDoS b ⟨q0, q1, q2, q3, q4, q5, q6, q7, q8, q9⟩ = r at *
      obtain ⟨e1, m1, e3, e2, m2, e4, rfl, ho, hb4⟩ := hnb
      have HBO := Lib.hid ho
      have HB4 := Lib.hid (HBX0.out.trans (hb4.mono HBX0.out.size))
      have hz3 := (HXr.out.below HBX.out).below hb4
      have HXS := Lib.hid (show w.heap.size + 1 + 1 < X.heap.size from (HXr.out.below HBX.out).lt)
      clear ho hb4 hsz hl1 hL HN
      have z0 := hz3.cell 0 _ rfl
      have f0 := hz3.free 0
      have z1 := hz3.cell 1 _ rfl
      have f1 := hz3.free 1
      have z2 := hz3.cell 2 _ rfl
      have f2 := hz3.free 2
      have z3 := hz3.cell 3 _ rfl
      have f3 := hz3.free 3
      have z4 := hz3.cell 4 _ rfl
      have f4 := hz3.free 4
      have z5 := hz3.cell 5 _ rfl
      have f5 := hz3.free 5
      have z6 := hz3.cell 6 _ rfl
      have f6 := hz3.free 6
      have hY := (((((((hz3.set (j := 0) (by simp) (.int .i64 r.1.c0)).set (j := 1) (by simp) (.int .i64 r.1.c1)).set (j := 2) (by simp) (.int .i64 r.1.c2)).set (j := 3) (by simp) (.int .i64 r.1.c3)).set (j := 4) (by simp) (.slice e1 m1 e3)).set (j := 5) (by simp) (.slice e2 m2 e4)).set (j := 6) (by simp) (.int .i64 r.2))
      have HYB := Lib.hid (((((((HB4.out.setCell (p := ⟨w.heap.size + 1 + 1, 0, none⟩) (by dsimp only; omega) (.int .i64 r.1.c0)).setCell (p := ⟨w.heap.size + 1 + 1, 1, none⟩) (by dsimp only; omega) (.int .i64 r.1.c1)).setCell (p := ⟨w.heap.size + 1 + 1, 2, none⟩) (by dsimp only; omega) (.int .i64 r.1.c2)).setCell (p := ⟨w.heap.size + 1 + 1, 3, none⟩) (by dsimp only; omega) (.int .i64 r.1.c3)).setCell (p := ⟨w.heap.size + 1 + 1, 4, none⟩) (by dsimp only; omega) (.slice e1 m1 e3)).setCell (p := ⟨w.heap.size + 1 + 1, 5, none⟩) (by dsimp only; omega) (.slice e2 m2 e4)).setCell (p := ⟨w.heap.size + 1 + 1, 6, none⟩) (by dsimp only; omega) (.int .i64 r.2))
      obtain ⟨Y, hYd⟩ : ∃ Y, Y = ((((((w4.setCell ⟨w.heap.size + 1 + 1, 0, none⟩ (.int .i64 r.1.c0)).setCell ⟨w.heap.size + 1 + 1, 1, none⟩ (.int .i64 r.1.c1)).setCell ⟨w.heap.size + 1 + 1, 2, none⟩ (.int .i64 r.1.c2)).setCell ⟨w.heap.size + 1 + 1, 3, none⟩ (.int .i64 r.1.c3)).setCell ⟨w.heap.size + 1 + 1, 4, none⟩ (.slice e1 m1 e3)).setCell ⟨w.heap.size + 1 + 1, 5, none⟩ (.slice e2 m2 e4)).setCell ⟨w.heap.size + 1 + 1, 6, none⟩ (.int .i64 r.2) := ⟨_, rfl⟩
      have HYT : Hid (Y.ownsRow w.heap.size 45 tmE.k (.slice e1 m1 e3) m1 (tmE.flat r.1.ts)) := Lib.hid (by rw [hYd]; exact (own_other (own_other (own_other (own_other (own_other (own_other (own_other (own_mono HBO.out.t (show w.heap.size ≤ X.heap.size by have := HXS.out; omega)) (b := w.heap.size + 1 + 1) (fun q hq => by have := (HBO.out.t.lt q hq).1; have := HXS.out; omega) ⟨w.heap.size + 1 + 1, 0, none⟩ (.int .i64 r.1.c0) rfl) (b := w.heap.size + 1 + 1) (fun q hq => by have := (HBO.out.t.lt q hq).1; have := HXS.out; omega) ⟨w.heap.size + 1 + 1, 1, none⟩ (.int .i64 r.1.c1) rfl) (b := w.heap.size + 1 + 1) (fun q hq => by have := (HBO.out.t.lt q hq).1; have := HXS.out; omega) ⟨w.heap.size + 1 + 1, 2, none⟩ (.int .i64 r.1.c2) rfl) (b := w.heap.size + 1 + 1) (fun q hq => by have := (HBO.out.t.lt q hq).1; have := HXS.out; omega) ⟨w.heap.size + 1 + 1, 3, none⟩ (.int .i64 r.1.c3) rfl) (b := w.heap.size + 1 + 1) (fun q hq => by have := (HBO.out.t.lt q hq).1; have := HXS.out; omega) ⟨w.heap.size + 1 + 1, 4, none⟩ (.slice e1 m1 e3) rfl) (b := w.heap.size + 1 + 1) (fun q hq => by have := (HBO.out.t.lt q hq).1; have := HXS.out; omega) ⟨w.heap.size + 1 + 1, 5, none⟩ (.slice e2 m2 e4) rfl) (b := w.heap.size + 1 + 1) (fun q hq => by have := (HBO.out.t.lt q hq).1; have := HXS.out; omega) ⟨w.heap.size + 1 + 1, 6, none⟩ (.int .i64 r.2) rfl))
      have HYI : Hid (Y.ownsRow w.heap.size 46 imE.k (.slice e2 m2 e4) m2 (imE.flat r.1.is)) := Lib.hid (by rw [hYd]; exact (own_other (own_other (own_other (own_other (own_other (own_other (own_other (own_mono HBO.out.i (show w.heap.size ≤ X.heap.size by have := HXS.out; omega)) (b := w.heap.size + 1 + 1) (fun q hq => by have := (HBO.out.i.lt q hq).1; have := HXS.out; omega) ⟨w.heap.size + 1 + 1, 0, none⟩ (.int .i64 r.1.c0) rfl) (b := w.heap.size + 1 + 1) (fun q hq => by have := (HBO.out.i.lt q hq).1; have := HXS.out; omega) ⟨w.heap.size + 1 + 1, 1, none⟩ (.int .i64 r.1.c1) rfl) (b := w.heap.size + 1 + 1) (fun q hq => by have := (HBO.out.i.lt q hq).1; have := HXS.out; omega) ⟨w.heap.size + 1 + 1, 2, none⟩ (.int .i64 r.1.c2) rfl) (b := w.heap.size + 1 + 1) (fun q hq => by have := (HBO.out.i.lt q hq).1; have := HXS.out; omega) ⟨w.heap.size + 1 + 1, 3, none⟩ (.int .i64 r.1.c3) rfl) (b := w.heap.size + 1 + 1) (fun q hq => by have := (HBO.out.i.lt q hq).1; have := HXS.out; omega) ⟨w.heap.size + 1 + 1, 4, none⟩ (.slice e1 m1 e3) rfl) (b := w.heap.size + 1 + 1) (fun q hq => by have := (HBO.out.i.lt q hq).1; have := HXS.out; omega) ⟨w.heap.size + 1 + 1, 5, none⟩ (.slice e2 m2 e4) rfl) (b := w.heap.size + 1 + 1) (fun q hq => by have := (HBO.out.i.lt q hq).1; have := HXS.out; omega) ⟨w.heap.size + 1 + 1, 6, none⟩ (.int .i64 r.2) rfl))
      rw [← hYd] at hY HYB
      have g0 := hY.cell 0 _ rfl
      have g1 := hY.cell 1 _ rfl
      have g2 := hY.cell 2 _ rfl
      have g3 := hY.cell 3 _ rfl
      have g4 := hY.cell 4 _ rfl
      have g5 := hY.cell 5 _ rfl
      have g6 := hY.cell 6 _ rfl
      have HG := Lib.hid (And.intro g0 (And.intro g1 (And.intro g2 (And.intro g3 (And.intro g4 (And.intro g5 g6))))))
      have HYD := Lib.hid hYd
      clear hz3 hY hYd g0 g1 g2 g3 g4 g5 g6
      go_wp2_with fail
      rw [← HYD.out]
      obtain ⟨g0, g1, g2, g3, g4, g5, g6⟩ := HG.out
      clear z0 f0 z1 f1 z2 f2 z3 f3 z4 f4 z5 f5 z6 f6
      exact bodyPost_ret (v := .agg #[.int .i64 r.1.c0, .int .i64 r.1.c1, .int .i64 r.1.c2, .int .i64 r.1.c3, .slice e1 m1 e3, .slice e2 m2 e4, .int .i64 r.2]) (by simp [results, Tryz.results9, go_sem, g0, g1, g2, g3, g4, g5, g6]) rfl ⟨e1, m1, e3, e2, m2, e4, rfl, ⟨HYT.out, HYI.out⟩, HYB.out⟩
end Go.Proofs.YtnoefpkhbllmiaaGreat
