/- What the model's l07Do and BookDo answer. -/
import Derived.Test.YtnoefpkhbllmiaaGreatBookJ
import Derived.Test.YtnoefpkhbllmiaaGreatBkN
import Derived.Deep.Cut
namespace Go.Proofs.YtnoefpkhbllmiaaGreat
open Go.RowKit Go.PlainAid G IRow
set_option linter.unusedVariables false
theorem row_apart {w : World} {base B n : Nat} {v : Value} {ts : List Tm} {x : Int} (hr : w.ownsRow base 45 tmE.k v n (tmE.flat ts)) (h0 : 0 < n) (hb : w.cell? ⟨B, 1, none⟩ = some (.int .i64 x)) : ∀ q, v.ownBlock = some q → q ≠ B := by
  intro q hq
  rcases hr.2 with ⟨rfl, h⟩ | ⟨g, cap, cur, rfl, _, hg, _⟩
  · omega
  · have hgq : g = q := by simpa [Value.ownBlock] using hq
    subst hgq
    obtain ⟨g', o', hge, _, _, t1⟩ := TmR.at (TmR.own hr) h0
    simp only [Option.some.injEq, Addr.mk.injEq, and_true] at hge
    obtain ⟨rfl, rfl⟩ := hge
    intro e
    subst e
    simp only [Nat.zero_mul, Nat.zero_add] at t1
    rw [hb] at t1
    cases t1
theorem l07Items_any (c0 c1 c2 c3 : Int) (ts : List Tm) (is : List Im) (q0 q1 q2 q3 q4 q5 : Int) (q6 q7 : ByteArray) (q8 : Int) (q9 : ByteArray) (a1 a2 : Option Addr) (n1 n2 a3 a4 : Nat) (w : World) (h : BkR w a1 n1 a3 a2 n2 a4 ts is) (hn1 : n1 ≤ 5) (hn2 : n2 ≤ 8) (hkd : q0 = 3 ∨ q0 = 4) :
    Calls Tryz.prog 43 #[.agg #[.int .i64 c0, .int .i64 c1, .int .i64 c2, .int .i64 c3, .slice a1 n1 a3, .slice a2 n2 a4], .agg #[.int .i64 q0, .int .i64 q1, .int .i64 q2, .int .i64 q3, .int .i64 q4, .int .i64 q5, .string q6, .string q7, .int .i64 q8, .string q9]] w (NewBookOut (itemsR ⟨c0, c1, c2, c3, ts, is⟩ ⟨q0, q1, q2, q3, q4, q5, q6, q7, q8, q9⟩) w) := by
  have key : ((q0 = 3 ∧ (n1 : Int) < q8) ∨ (q0 = 3 ∧ ¬ (n1 : Int) < q8 ∧ hasI is q7 = false ∧ 8 ≤ n2) ∨ (q0 = 4 ∧ hasI is q7 = false)) ∨ ((q0 = 3 ∧ ¬ (n1 : Int) < q8 ∧ (hasI is q7 = true ∨ n2 < 8)) ∨ (q0 = 4 ∧ hasI is q7 = true)) := by
    cases hh : hasI is q7
    · rcases hkd with rfl | rfl
      · by_cases h1 : (n1 : Int) < q8
        · exact .inl (.inl ⟨rfl, h1⟩)
        · by_cases h8 : 8 ≤ n2
          · exact .inl (.inr (.inl ⟨rfl, h1, rfl, h8⟩))
          · exact .inr (.inl ⟨rfl, h1, .inr (by omega)⟩)
      · exact .inl (.inr (.inr ⟨rfl, rfl⟩))
    · rcases hkd with rfl | rfl
      · by_cases h1 : (n1 : Int) < q8
        · exact .inl (.inl ⟨rfl, h1⟩)
        · exact .inr (.inl ⟨rfl, h1, .inl rfl⟩)
      · exact .inr (.inr ⟨rfl, rfl⟩)
  rcases key with hbad | hok
  · exact l07Items_code c0 c1 c2 c3 ts is q0 q1 q2 q3 q4 q5 q6 q7 q8 q9 a1 a2 n1 n2 a3 a4 w h hn1 hn2 hbad
  · exact l07Items_ok c0 c1 c2 c3 ts is q0 q1 q2 q3 q4 q5 q6 q7 q8 q9 a1 a2 n1 n2 a3 a4 w h hn1 hn2 hok
set_option maxRecDepth 100000 in
set_option maxHeartbeats 3200000 in
theorem l07Do_any (c0 c1 c2 c3 : Int) (ts : List Tm) (is : List Im) (q0 q1 q2 q3 q4 q5 : Int) (q6 q7 : ByteArray) (q8 : Int) (q9 : ByteArray) (a1 a2 : Option Addr) (n1 n2 a3 a4 : Nat) (w : World) (h : BkR w a1 n1 a3 a2 n2 a4 ts is) (hb : bookB ⟨c0, c1, c2, c3, ts, is⟩ = true) (hd : deedB q0 q1 q2 q3 q4 q5 q6 q7 q8 q9 = true) :
    Calls Tryz.prog 22 #[.agg #[.int .i64 c0, .int .i64 c1, .int .i64 c2, .int .i64 c3, .slice a1 n1 a3, .slice a2 n2 a4], .agg #[.int .i64 q0, .int .i64 q1, .int .i64 q2, .int .i64 q3, .int .i64 q4, .int .i64 q5, .string q6, .string q7, .int .i64 q8, .string q9]] w (NewBookOut (doS ⟨c0, c1, c2, c3, ts, is⟩ ⟨q0, q1, q2, q3, q4, q5, q6, q7, q8, q9⟩) w) := by
  have hl1 : ts.length = n1 := h.t.len
  have hl2 : is.length = n2 := h.i.len
  have hsz := book_sizes hb
  dsimp only at hsz
  have hn1 : n1 ≤ 5 := by rw [← hl1]; exact hsz.1
  have hn2 : n2 ≤ 8 := by rw [← hl2]; exact hsz.2.1
  clear hsz
  obtain ⟨W, hW⟩ : ∃ W, W = ((w.alloc (.cells #[.int .i64 c0, .int .i64 c1, .int .i64 c2, .int .i64 c3, .slice a1 n1 a3, .slice a2 n2 a4] 40)).alloc (.cells #[.int .i64 q0, .int .i64 q1, .int .i64 q2, .int .i64 q3, .int .i64 q4, .int .i64 q5, .string q6, .string q7, .int .i64 q8, .string q9] 48)).alloc (.cells #[.int .i64 0, .int .i64 0, .int .i64 0, .int .i64 0, .slice none 0 0, .slice none 0 0, .int .i64 0] 42) := ⟨_, rfl⟩
  have HB0 : Hid (Below w.heap.size w W) := Lib.hid (by rw [hW]; repeat' (first | exact Below.refl _ _ | refine Below.alloc ?_ (by first | exact Nat.le_refl _ | (simp; done) | (simp; omega)) _))
  have HAb : Hid (BoxC W w.heap.size [.int .i64 c0, .int .i64 c1, .int .i64 c2, .int .i64 c3, .slice a1 n1 a3, .slice a2 n2 a4]) := Lib.hid (by rw [hW]; exact ((BoxC.made _ _ _).alloc _).alloc _)
  have HAd : Hid (BoxC W (w.heap.size + 1) [.int .i64 q0, .int .i64 q1, .int .i64 q2, .int .i64 q3, .int .i64 q4, .int .i64 q5, .string q6, .string q7, .int .i64 q8, .string q9]) := Lib.hid (by rw [hW]; have := (BoxC.made (w.alloc (.cells #[.int .i64 c0, .int .i64 c1, .int .i64 c2, .int .i64 c3, .slice a1 n1 a3, .slice a2 n2 a4] 40)) #[.int .i64 q0, .int .i64 q1, .int .i64 q2, .int .i64 q3, .int .i64 q4, .int .i64 q5, .string q6, .string q7, .int .i64 q8, .string q9] 48).alloc (.cells #[.int .i64 0, .int .i64 0, .int .i64 0, .int .i64 0, .slice none 0 0, .slice none 0 0, .int .i64 0] 42); rwa [World.size_alloc] at this)
  have HAr : Hid (BoxC W (w.heap.size + 1 + 1) [.int .i64 0, .int .i64 0, .int .i64 0, .int .i64 0, .slice none 0 0, .slice none 0 0, .int .i64 0]) := Lib.hid (by rw [hW]; have := BoxC.made ((w.alloc (.cells #[.int .i64 c0, .int .i64 c1, .int .i64 c2, .int .i64 c3, .slice a1 n1 a3, .slice a2 n2 a4] 40)).alloc (.cells #[.int .i64 q0, .int .i64 q1, .int .i64 q2, .int .i64 q3, .int .i64 q4, .int .i64 q5, .string q6, .string q7, .int .i64 q8, .string q9] 48)) #[.int .i64 0, .int .i64 0, .int .i64 0, .int .i64 0, .slice none 0 0, .slice none 0 0, .int .i64 0] 42; rwa [World.size_alloc, World.size_alloc] at this)
  have HR := Lib.hid h
  clear h
  go_enter Tryz.func22, Tryz.ntmps22
  go_wp2_with fail
  rw [← hW]
  clear hW
  refine (l07Zero_any c0 c1 c2 c3 a1 a2 n1 n2 a3 a4 _).mono ?_
  rintro e w1 ⟨rfl, hb1⟩
  have HW1 := Lib.hid hb1
  have x0 := (HAb.out.below hb1).cell 0 _ rfl
  have x1 := (HAb.out.below hb1).cell 1 _ rfl
  have x2 := (HAb.out.below hb1).cell 2 _ rfl
  have x3 := (HAb.out.below hb1).cell 3 _ rfl
  have x4 := (HAb.out.below hb1).cell 4 _ rfl
  have x5 := (HAb.out.below hb1).cell 5 _ rfl
  clear hb1
  go_wp2_with fail
  refine (l07Copy_any c0 c1 c2 c3 a1 a2 n1 n2 a3 a4 ts is _ (HR.out.below (HB0.out.trans (HW1.out.mono HB0.out.size))) (by omega) (by omega)).mono ?_
  rintro e w2 ⟨b1, m1, b3, b2, m2, b4, rfl, ho, hb2⟩
  have hm1 : m1 = n1 := ho.len.1.symm.trans hl1
  have hm2 : m2 = n2 := ho.len.2.symm.trans hl2
  rw [hm1, hm2] at ho
  rw [hm1, hm2]
  have HO2 := Lib.hid ho
  have HW2 := Lib.hid (HW1.out.trans (hb2.mono HW1.out.size))
  clear ho hb2 hm1 hm2 m1 m2 x0 x1 x2 x3 x4 x5
  obtain ⟨V, hV⟩ : ∃ V, V = w2.alloc (.cells #[.int .i64 c0, .int .i64 c1, .int .i64 c2, .int .i64 c3, .slice b1 n1 b3, .slice b2 n2 b4] 40) := ⟨_, rfl⟩
  have HVW : Hid (Below W.heap.size W V) := Lib.hid (by rw [hV]; exact HW2.out.alloc HW2.out.size _)
  have HVB : Hid (Below w.heap.size w V) := Lib.hid (HB0.out.trans (HVW.out.mono HB0.out.size))
  have HVo : Hid (BoxC V w2.heap.size [.int .i64 c0, .int .i64 c1, .int .i64 c2, .int .i64 c3, .slice b1 n1 b3, .slice b2 n2 b4]) := Lib.hid (by rw [hV]; exact BoxC.made _ _ _)
  have HVT : Hid (V.ownsRow W.heap.size 45 tmE.k (.slice b1 n1 b3) n1 (tmE.flat ts)) := Lib.hid (by rw [hV]; exact World.ownsRow.alloc (own_mono HO2.out.t HW1.out.size) _)
  have HVI : Hid (V.ownsRow W.heap.size 46 imE.k (.slice b2 n2 b4) n2 (imE.flat is)) := Lib.hid (by rw [hV]; exact World.ownsRow.alloc (own_mono HO2.out.i HW1.out.size) _)
  have HVb := Lib.hid (HAb.out.below HVW.out)
  have HVd := Lib.hid (HAd.out.below HVW.out)
  have HVr := Lib.hid (HAr.out.below HVW.out)
  have HTL : Hid (∀ q, (Value.slice b1 n1 b3).ownBlock = some q → q < w2.heap.size) := Lib.hid (fun q hq => (HO2.out.t.lt q hq).2)
  have HIL : Hid (∀ q, (Value.slice b2 n2 b4).ownBlock = some q → q < w2.heap.size) := Lib.hid (fun q hq => (HO2.out.i.lt q hq).2)
  have HWS : Hid (w.heap.size + 1 + 1 < W.heap.size) := Lib.hid HAr.out.lt
  have HWT : Hid (W.heap.size ≤ w2.heap.size) := Lib.hid HW2.out.size
  have hne1 : ¬ w2.heap.size = w.heap.size + 1 + 1 := by have := HWS.out; have := HWT.out; omega
  have hne2 : ¬ w.heap.size + 1 + 1 = w2.heap.size := by have := HWS.out; have := HWT.out; omega
  go_upto_region 3 with fail
  rw [← hV]
  clear hV
  have x4 := HVb.out.cell 4 _ rfl
  have d0 := HVd.out.cell 0 _ rfl
  have hZK : zeroK ⟨c0, c1, c2, c3, ts, is⟩ = zeroB c0 c1 c2 c3 n1 n2 := by unfold zeroK; dsimp only; rw [hl1, hl2]
  have hwn : IntKind.i64.wrap (n1 : Int) = (n1 : Int) := IntWalk.i64_in _ (by omega)
  by_cases k1 : q0 = 1
  · subst k1
    have d1 := HVd.out.cell 1 _ rfl
    have d2 := HVd.out.cell 2 _ rfl
    have d3 := HVd.out.cell 3 _ rfl
    have d4 := HVd.out.cell 4 _ rfl
    have o0 := HVo.out.cell 0 _ rfl
    have o1 := HVo.out.cell 1 _ rfl
    have o2 := HVo.out.cell 2 _ rfl
    have o3 := HVo.out.cell 3 _ rfl
    have o4 := HVo.out.cell 4 _ rfl
    have o5 := HVo.out.cell 5 _ rfl
    have p0 := HVo.out.free 0
    have p1 := HVo.out.free 1
    have p2 := HVo.out.free 2
    have p3 := HVo.out.free 3
    have p4 := HVo.out.free 4
    cases hz : zeroB c0 c1 c2 c3 n1 n2
    · have HD : Hid (doS ⟨c0, c1, c2, c3, ts, is⟩ ⟨1, q1, q2, q3, q4, q5, q6, q7, q8, q9⟩ = (⟨q1, q2, q3, q4, ts, is⟩, 0)) := Lib.hid (by unfold doS; rw [if_pos rfl, hZK, hz]; rfl)
      have z0 := HVr.out.cell 0 _ rfl
      have f0 := HVr.out.free 0
      have z1 := HVr.out.cell 1 _ rfl
      have f1 := HVr.out.free 1
      have z2 := HVr.out.cell 2 _ rfl
      have f2 := HVr.out.free 2
      have z3 := HVr.out.cell 3 _ rfl
      have f3 := HVr.out.free 3
      have z4 := HVr.out.cell 4 _ rfl
      have f4 := HVr.out.free 4
      have z5 := HVr.out.cell 5 _ rfl
      have f5 := HVr.out.free 5
      have z6 := HVr.out.cell 6 _ rfl
      have f6 := HVr.out.free 6
      have hY := (((((((((((HVr.out.other ⟨w2.heap.size, 0, none⟩ (.int .i64 q1) (by dsimp only; omega)).other ⟨w2.heap.size, 1, none⟩ (.int .i64 q2) (by dsimp only; omega)).other ⟨w2.heap.size, 2, none⟩ (.int .i64 q3) (by dsimp only; omega)).other ⟨w2.heap.size, 3, none⟩ (.int .i64 q4) (by dsimp only; omega)).set (j := 0) (by simp) (.int .i64 q1)).set (j := 1) (by simp) (.int .i64 q2)).set (j := 2) (by simp) (.int .i64 q3)).set (j := 3) (by simp) (.int .i64 q4)).set (j := 4) (by simp) (.slice b1 n1 b3)).set (j := 5) (by simp) (.slice b2 n2 b4)).set (j := 6) (by simp) (.int .i64 0))
      have HYB := Lib.hid (((((((((((HVB.out.setCell (p := ⟨w2.heap.size, 0, none⟩) (by dsimp only; have := HWS.out; have := HWT.out; omega) (.int .i64 q1)).setCell (p := ⟨w2.heap.size, 1, none⟩) (by dsimp only; have := HWS.out; have := HWT.out; omega) (.int .i64 q2)).setCell (p := ⟨w2.heap.size, 2, none⟩) (by dsimp only; have := HWS.out; have := HWT.out; omega) (.int .i64 q3)).setCell (p := ⟨w2.heap.size, 3, none⟩) (by dsimp only; have := HWS.out; have := HWT.out; omega) (.int .i64 q4)).setCell (p := ⟨w.heap.size + 1 + 1, 0, none⟩) (by dsimp only; omega) (.int .i64 q1)).setCell (p := ⟨w.heap.size + 1 + 1, 1, none⟩) (by dsimp only; omega) (.int .i64 q2)).setCell (p := ⟨w.heap.size + 1 + 1, 2, none⟩) (by dsimp only; omega) (.int .i64 q3)).setCell (p := ⟨w.heap.size + 1 + 1, 3, none⟩) (by dsimp only; omega) (.int .i64 q4)).setCell (p := ⟨w.heap.size + 1 + 1, 4, none⟩) (by dsimp only; omega) (.slice b1 n1 b3)).setCell (p := ⟨w.heap.size + 1 + 1, 5, none⟩) (by dsimp only; omega) (.slice b2 n2 b4)).setCell (p := ⟨w.heap.size + 1 + 1, 6, none⟩) (by dsimp only; omega) (.int .i64 0))
      obtain ⟨Y, hYd⟩ : ∃ Y, Y = ((((((((((V.setCell ⟨w2.heap.size, 0, none⟩ (.int .i64 q1)).setCell ⟨w2.heap.size, 1, none⟩ (.int .i64 q2)).setCell ⟨w2.heap.size, 2, none⟩ (.int .i64 q3)).setCell ⟨w2.heap.size, 3, none⟩ (.int .i64 q4)).setCell ⟨w.heap.size + 1 + 1, 0, none⟩ (.int .i64 q1)).setCell ⟨w.heap.size + 1 + 1, 1, none⟩ (.int .i64 q2)).setCell ⟨w.heap.size + 1 + 1, 2, none⟩ (.int .i64 q3)).setCell ⟨w.heap.size + 1 + 1, 3, none⟩ (.int .i64 q4)).setCell ⟨w.heap.size + 1 + 1, 4, none⟩ (.slice b1 n1 b3)).setCell ⟨w.heap.size + 1 + 1, 5, none⟩ (.slice b2 n2 b4)).setCell ⟨w.heap.size + 1 + 1, 6, none⟩ (.int .i64 0) := ⟨_, rfl⟩
      have HYT : Hid (Y.ownsRow w.heap.size 45 tmE.k (.slice b1 n1 b3) n1 (tmE.flat ts)) := Lib.hid (by rw [hYd]; exact (own_other (own_other (own_other (own_other (own_other (own_other (own_other (own_other (own_other (own_other (own_other (own_mono HVT.out (show w.heap.size ≤ W.heap.size from HB0.out.size)) (b := w2.heap.size) (fun q hq => by have := HTL.out q hq; omega) ⟨w2.heap.size, 0, none⟩ (.int .i64 q1) rfl) (b := w2.heap.size) (fun q hq => by have := HTL.out q hq; omega) ⟨w2.heap.size, 1, none⟩ (.int .i64 q2) rfl) (b := w2.heap.size) (fun q hq => by have := HTL.out q hq; omega) ⟨w2.heap.size, 2, none⟩ (.int .i64 q3) rfl) (b := w2.heap.size) (fun q hq => by have := HTL.out q hq; omega) ⟨w2.heap.size, 3, none⟩ (.int .i64 q4) rfl) (b := w.heap.size + 1 + 1) (fun q hq => by have := (HVT.out.lt q hq).1; have := HWS.out; omega) ⟨w.heap.size + 1 + 1, 0, none⟩ (.int .i64 q1) rfl) (b := w.heap.size + 1 + 1) (fun q hq => by have := (HVT.out.lt q hq).1; have := HWS.out; omega) ⟨w.heap.size + 1 + 1, 1, none⟩ (.int .i64 q2) rfl) (b := w.heap.size + 1 + 1) (fun q hq => by have := (HVT.out.lt q hq).1; have := HWS.out; omega) ⟨w.heap.size + 1 + 1, 2, none⟩ (.int .i64 q3) rfl) (b := w.heap.size + 1 + 1) (fun q hq => by have := (HVT.out.lt q hq).1; have := HWS.out; omega) ⟨w.heap.size + 1 + 1, 3, none⟩ (.int .i64 q4) rfl) (b := w.heap.size + 1 + 1) (fun q hq => by have := (HVT.out.lt q hq).1; have := HWS.out; omega) ⟨w.heap.size + 1 + 1, 4, none⟩ (.slice b1 n1 b3) rfl) (b := w.heap.size + 1 + 1) (fun q hq => by have := (HVT.out.lt q hq).1; have := HWS.out; omega) ⟨w.heap.size + 1 + 1, 5, none⟩ (.slice b2 n2 b4) rfl) (b := w.heap.size + 1 + 1) (fun q hq => by have := (HVT.out.lt q hq).1; have := HWS.out; omega) ⟨w.heap.size + 1 + 1, 6, none⟩ (.int .i64 0) rfl))
      have HYI : Hid (Y.ownsRow w.heap.size 46 imE.k (.slice b2 n2 b4) n2 (imE.flat is)) := Lib.hid (by rw [hYd]; exact (own_other (own_other (own_other (own_other (own_other (own_other (own_other (own_other (own_other (own_other (own_other (own_mono HVI.out (show w.heap.size ≤ W.heap.size from HB0.out.size)) (b := w2.heap.size) (fun q hq => by have := HIL.out q hq; omega) ⟨w2.heap.size, 0, none⟩ (.int .i64 q1) rfl) (b := w2.heap.size) (fun q hq => by have := HIL.out q hq; omega) ⟨w2.heap.size, 1, none⟩ (.int .i64 q2) rfl) (b := w2.heap.size) (fun q hq => by have := HIL.out q hq; omega) ⟨w2.heap.size, 2, none⟩ (.int .i64 q3) rfl) (b := w2.heap.size) (fun q hq => by have := HIL.out q hq; omega) ⟨w2.heap.size, 3, none⟩ (.int .i64 q4) rfl) (b := w.heap.size + 1 + 1) (fun q hq => by have := (HVI.out.lt q hq).1; have := HWS.out; omega) ⟨w.heap.size + 1 + 1, 0, none⟩ (.int .i64 q1) rfl) (b := w.heap.size + 1 + 1) (fun q hq => by have := (HVI.out.lt q hq).1; have := HWS.out; omega) ⟨w.heap.size + 1 + 1, 1, none⟩ (.int .i64 q2) rfl) (b := w.heap.size + 1 + 1) (fun q hq => by have := (HVI.out.lt q hq).1; have := HWS.out; omega) ⟨w.heap.size + 1 + 1, 2, none⟩ (.int .i64 q3) rfl) (b := w.heap.size + 1 + 1) (fun q hq => by have := (HVI.out.lt q hq).1; have := HWS.out; omega) ⟨w.heap.size + 1 + 1, 3, none⟩ (.int .i64 q4) rfl) (b := w.heap.size + 1 + 1) (fun q hq => by have := (HVI.out.lt q hq).1; have := HWS.out; omega) ⟨w.heap.size + 1 + 1, 4, none⟩ (.slice b1 n1 b3) rfl) (b := w.heap.size + 1 + 1) (fun q hq => by have := (HVI.out.lt q hq).1; have := HWS.out; omega) ⟨w.heap.size + 1 + 1, 5, none⟩ (.slice b2 n2 b4) rfl) (b := w.heap.size + 1 + 1) (fun q hq => by have := (HVI.out.lt q hq).1; have := HWS.out; omega) ⟨w.heap.size + 1 + 1, 6, none⟩ (.int .i64 0) rfl))
      rw [← hYd] at hY HYB
      have g0 := hY.cell 0 _ rfl
      have g1 := hY.cell 1 _ rfl
      have g2 := hY.cell 2 _ rfl
      have g3 := hY.cell 3 _ rfl
      have g4 := hY.cell 4 _ rfl
      have g5 := hY.cell 5 _ rfl
      have g6 := hY.cell 6 _ rfl
      have HG := Lib.hid (And.intro g0 (And.intro g1 (And.intro g2 (And.intro g3 (And.intro g4 (And.intro g5 g6))))))
      have HYD := Lib.hid hYd
      clear hY hYd g0 g1 g2 g3 g4 g5 g6
      go_wp2_with fail
      rw [← HYD.out]
      obtain ⟨g0, g1, g2, g3, g4, g5, g6⟩ := HG.out
      clear z0 f0 z1 f1 z2 f2 z3 f3 z4 f4 z5 f5 z6 f6
      exact bodyPost_ret (v := .agg #[.int .i64 q1, .int .i64 q2, .int .i64 q3, .int .i64 q4, .slice b1 n1 b3, .slice b2 n2 b4, .int .i64 0]) (by simp [results, Tryz.results22, go_sem, g0, g1, g2, g3, g4, g5, g6]) rfl (by rw [HD.out]; exact ⟨b1, n1, b3, b2, n2, b4, rfl, ⟨HYT.out, HYI.out⟩, HYB.out⟩)
    · have HD : Hid (doS ⟨c0, c1, c2, c3, ts, is⟩ ⟨1, q1, q2, q3, q4, q5, q6, q7, q8, q9⟩ = (⟨q1, q2, q3, q4, [⟨1, ⟨#[120]⟩⟩], is⟩, 0)) := Lib.hid (by unfold doS; rw [if_pos rfl, hZK, hz]; rfl)
      go_upto_region 6 with fail
      have hCo := ((((HVo.out.set (j := 0) (by simp) (.int .i64 q1)).set (j := 1) (by simp) (.int .i64 q2)).set (j := 2) (by simp) (.int .i64 q3)).set (j := 3) (by simp) (.int .i64 q4))
      have hCr := ((((HVr.out.other ⟨w2.heap.size, 0, none⟩ (.int .i64 q1) (by dsimp only; omega)).other ⟨w2.heap.size, 1, none⟩ (.int .i64 q2) (by dsimp only; omega)).other ⟨w2.heap.size, 2, none⟩ (.int .i64 q3) (by dsimp only; omega)).other ⟨w2.heap.size, 3, none⟩ (.int .i64 q4) (by dsimp only; omega))
      have hCB := ((((HVB.out.setCell (p := ⟨w2.heap.size, 0, none⟩) (by dsimp only; have := HWS.out; have := HWT.out; omega) (.int .i64 q1)).setCell (p := ⟨w2.heap.size, 1, none⟩) (by dsimp only; have := HWS.out; have := HWT.out; omega) (.int .i64 q2)).setCell (p := ⟨w2.heap.size, 2, none⟩) (by dsimp only; have := HWS.out; have := HWT.out; omega) (.int .i64 q3)).setCell (p := ⟨w2.heap.size, 3, none⟩) (by dsimp only; have := HWS.out; have := HWT.out; omega) (.int .i64 q4))
      have hCI := (own_other (own_other (own_other (own_other (own_mono HVI.out (show w.heap.size ≤ W.heap.size from HB0.out.size)) (b := w2.heap.size) (fun q hq => by have := HIL.out q hq; omega) ⟨w2.heap.size, 0, none⟩ (.int .i64 q1) rfl) (b := w2.heap.size) (fun q hq => by have := HIL.out q hq; omega) ⟨w2.heap.size, 1, none⟩ (.int .i64 q2) rfl) (b := w2.heap.size) (fun q hq => by have := HIL.out q hq; omega) ⟨w2.heap.size, 2, none⟩ (.int .i64 q3) rfl) (b := w2.heap.size) (fun q hq => by have := HIL.out q hq; omega) ⟨w2.heap.size, 3, none⟩ (.int .i64 q4) rfl)
      generalize ((((V.setCell ⟨w2.heap.size, 0, none⟩ (.int .i64 q1)).setCell ⟨w2.heap.size, 1, none⟩ (.int .i64 q2)).setCell ⟨w2.heap.size, 2, none⟩ (.int .i64 q3)).setCell ⟨w2.heap.size, 3, none⟩ (.int .i64 q4)) = C at *
      have HCo := Lib.hid hCo
      have HCr := Lib.hid hCr
      have HCB := Lib.hid hCB
      have HCI := Lib.hid hCI
      clear hCo hCr hCB hCI o0 o1 o2 o3 o4 o5 p0 p1 p2 p3 p4 d0 d1 d2 d3 d4 x4
      have hxo := HCo.out.alloc (.cells #[.int .i64 1, .string ⟨#[120]⟩] 45)
      have hxr := Lib.hid (HCr.out.alloc (.cells #[.int .i64 1, .string ⟨#[120]⟩] 45))
      have hxB := Lib.hid (HCB.out.alloc HCB.out.size (.cells #[.int .i64 1, .string ⟨#[120]⟩] 45))
      have hxI := Lib.hid (World.ownsRow.alloc HCI.out (.cells #[.int .i64 1, .string ⟨#[120]⟩] 45))
      have hxT : Hid ((C.alloc (.cells #[.int .i64 1, .string ⟨#[120]⟩] 45)).ownsRow C.heap.size 45 tmE.k (.slice (some ⟨C.heap.size, 0, none⟩) 1 1) 1 (tmE.flat [⟨1, ⟨#[120]⟩⟩])) := Lib.hid (World.ownsRow_lit C #[.int .i64 1, .string ⟨#[120]⟩] 1 (Nat.le_refl _) (by decide) rfl)
      have HOC := Lib.hid HCo.out.lt
      have o0 := hxo.cell 0 _ rfl
      have o1 := hxo.cell 1 _ rfl
      have o2 := hxo.cell 2 _ rfl
      have o3 := hxo.cell 3 _ rfl
      have o4 := hxo.cell 4 _ rfl
      have o5 := hxo.cell 5 _ rfl
      have p4 := hxo.free 4
      clear hxo
      have z0 := hxr.out.cell 0 _ rfl
      have f0 := hxr.out.free 0
      have z1 := hxr.out.cell 1 _ rfl
      have f1 := hxr.out.free 1
      have z2 := hxr.out.cell 2 _ rfl
      have f2 := hxr.out.free 2
      have z3 := hxr.out.cell 3 _ rfl
      have f3 := hxr.out.free 3
      have z4 := hxr.out.cell 4 _ rfl
      have f4 := hxr.out.free 4
      have z5 := hxr.out.cell 5 _ rfl
      have f5 := hxr.out.free 5
      have z6 := hxr.out.cell 6 _ rfl
      have f6 := hxr.out.free 6
      have hY := ((((((((hxr.out.other ⟨w2.heap.size, 4, none⟩ (.slice (some ⟨C.heap.size, 0, none⟩) 1 1) (by dsimp only; omega)).set (j := 0) (by simp) (.int .i64 q1)).set (j := 1) (by simp) (.int .i64 q2)).set (j := 2) (by simp) (.int .i64 q3)).set (j := 3) (by simp) (.int .i64 q4)).set (j := 4) (by simp) (.slice (some ⟨C.heap.size, 0, none⟩) 1 1)).set (j := 5) (by simp) (.slice b2 n2 b4)).set (j := 6) (by simp) (.int .i64 0))
      have HYB := Lib.hid ((((((((hxB.out.setCell (p := ⟨w2.heap.size, 4, none⟩) (by dsimp only; have := HWS.out; have := HWT.out; omega) (.slice (some ⟨C.heap.size, 0, none⟩) 1 1)).setCell (p := ⟨w.heap.size + 1 + 1, 0, none⟩) (by dsimp only; omega) (.int .i64 q1)).setCell (p := ⟨w.heap.size + 1 + 1, 1, none⟩) (by dsimp only; omega) (.int .i64 q2)).setCell (p := ⟨w.heap.size + 1 + 1, 2, none⟩) (by dsimp only; omega) (.int .i64 q3)).setCell (p := ⟨w.heap.size + 1 + 1, 3, none⟩) (by dsimp only; omega) (.int .i64 q4)).setCell (p := ⟨w.heap.size + 1 + 1, 4, none⟩) (by dsimp only; omega) (.slice (some ⟨C.heap.size, 0, none⟩) 1 1)).setCell (p := ⟨w.heap.size + 1 + 1, 5, none⟩) (by dsimp only; omega) (.slice b2 n2 b4)).setCell (p := ⟨w.heap.size + 1 + 1, 6, none⟩) (by dsimp only; omega) (.int .i64 0))
      obtain ⟨Y, hYd⟩ : ∃ Y, Y = ((((((((C.alloc (.cells #[.int .i64 1, .string ⟨#[120]⟩] 45)).setCell ⟨w2.heap.size, 4, none⟩ (.slice (some ⟨C.heap.size, 0, none⟩) 1 1)).setCell ⟨w.heap.size + 1 + 1, 0, none⟩ (.int .i64 q1)).setCell ⟨w.heap.size + 1 + 1, 1, none⟩ (.int .i64 q2)).setCell ⟨w.heap.size + 1 + 1, 2, none⟩ (.int .i64 q3)).setCell ⟨w.heap.size + 1 + 1, 3, none⟩ (.int .i64 q4)).setCell ⟨w.heap.size + 1 + 1, 4, none⟩ (.slice (some ⟨C.heap.size, 0, none⟩) 1 1)).setCell ⟨w.heap.size + 1 + 1, 5, none⟩ (.slice b2 n2 b4)).setCell ⟨w.heap.size + 1 + 1, 6, none⟩ (.int .i64 0) := ⟨_, rfl⟩
      have HYT : Hid (Y.ownsRow w.heap.size 45 tmE.k (.slice (some ⟨C.heap.size, 0, none⟩) 1 1) 1 (tmE.flat [⟨1, ⟨#[120]⟩⟩])) := Lib.hid (by rw [hYd]; exact (own_other (own_other (own_other (own_other (own_other (own_other (own_other (own_other (own_mono hxT.out HCB.out.size) (b := w2.heap.size) (fun q hq => by have := (hxT.out.lt q hq).1; have := HOC.out; omega) ⟨w2.heap.size, 4, none⟩ (.slice (some ⟨C.heap.size, 0, none⟩) 1 1) rfl) (b := w.heap.size + 1 + 1) (fun q hq => by have := (hxT.out.lt q hq).1; have := HOC.out; have := HWS.out; have := HWT.out; omega) ⟨w.heap.size + 1 + 1, 0, none⟩ (.int .i64 q1) rfl) (b := w.heap.size + 1 + 1) (fun q hq => by have := (hxT.out.lt q hq).1; have := HOC.out; have := HWS.out; have := HWT.out; omega) ⟨w.heap.size + 1 + 1, 1, none⟩ (.int .i64 q2) rfl) (b := w.heap.size + 1 + 1) (fun q hq => by have := (hxT.out.lt q hq).1; have := HOC.out; have := HWS.out; have := HWT.out; omega) ⟨w.heap.size + 1 + 1, 2, none⟩ (.int .i64 q3) rfl) (b := w.heap.size + 1 + 1) (fun q hq => by have := (hxT.out.lt q hq).1; have := HOC.out; have := HWS.out; have := HWT.out; omega) ⟨w.heap.size + 1 + 1, 3, none⟩ (.int .i64 q4) rfl) (b := w.heap.size + 1 + 1) (fun q hq => by have := (hxT.out.lt q hq).1; have := HOC.out; have := HWS.out; have := HWT.out; omega) ⟨w.heap.size + 1 + 1, 4, none⟩ (.slice (some ⟨C.heap.size, 0, none⟩) 1 1) rfl) (b := w.heap.size + 1 + 1) (fun q hq => by have := (hxT.out.lt q hq).1; have := HOC.out; have := HWS.out; have := HWT.out; omega) ⟨w.heap.size + 1 + 1, 5, none⟩ (.slice b2 n2 b4) rfl) (b := w.heap.size + 1 + 1) (fun q hq => by have := (hxT.out.lt q hq).1; have := HOC.out; have := HWS.out; have := HWT.out; omega) ⟨w.heap.size + 1 + 1, 6, none⟩ (.int .i64 0) rfl))
      have HYI : Hid (Y.ownsRow w.heap.size 46 imE.k (.slice b2 n2 b4) n2 (imE.flat is)) := Lib.hid (by rw [hYd]; exact (own_other (own_other (own_other (own_other (own_other (own_other (own_other (own_other hxI.out (b := w2.heap.size) (fun q hq => by have := HIL.out q hq; omega) ⟨w2.heap.size, 4, none⟩ (.slice (some ⟨C.heap.size, 0, none⟩) 1 1) rfl) (b := w.heap.size + 1 + 1) (fun q hq => by have := (HVI.out.lt q hq).1; have := HWS.out; omega) ⟨w.heap.size + 1 + 1, 0, none⟩ (.int .i64 q1) rfl) (b := w.heap.size + 1 + 1) (fun q hq => by have := (HVI.out.lt q hq).1; have := HWS.out; omega) ⟨w.heap.size + 1 + 1, 1, none⟩ (.int .i64 q2) rfl) (b := w.heap.size + 1 + 1) (fun q hq => by have := (HVI.out.lt q hq).1; have := HWS.out; omega) ⟨w.heap.size + 1 + 1, 2, none⟩ (.int .i64 q3) rfl) (b := w.heap.size + 1 + 1) (fun q hq => by have := (HVI.out.lt q hq).1; have := HWS.out; omega) ⟨w.heap.size + 1 + 1, 3, none⟩ (.int .i64 q4) rfl) (b := w.heap.size + 1 + 1) (fun q hq => by have := (HVI.out.lt q hq).1; have := HWS.out; omega) ⟨w.heap.size + 1 + 1, 4, none⟩ (.slice (some ⟨C.heap.size, 0, none⟩) 1 1) rfl) (b := w.heap.size + 1 + 1) (fun q hq => by have := (HVI.out.lt q hq).1; have := HWS.out; omega) ⟨w.heap.size + 1 + 1, 5, none⟩ (.slice b2 n2 b4) rfl) (b := w.heap.size + 1 + 1) (fun q hq => by have := (HVI.out.lt q hq).1; have := HWS.out; omega) ⟨w.heap.size + 1 + 1, 6, none⟩ (.int .i64 0) rfl))
      rw [← hYd] at hY HYB
      have g0 := hY.cell 0 _ rfl
      have g1 := hY.cell 1 _ rfl
      have g2 := hY.cell 2 _ rfl
      have g3 := hY.cell 3 _ rfl
      have g4 := hY.cell 4 _ rfl
      have g5 := hY.cell 5 _ rfl
      have g6 := hY.cell 6 _ rfl
      have HG := Lib.hid (And.intro g0 (And.intro g1 (And.intro g2 (And.intro g3 (And.intro g4 (And.intro g5 g6))))))
      have HYD := Lib.hid hYd
      clear hY hYd g0 g1 g2 g3 g4 g5 g6
      go_wp2_with fail
      rw [← HYD.out]
      obtain ⟨g0, g1, g2, g3, g4, g5, g6⟩ := HG.out
      clear z0 f0 z1 f1 z2 f2 z3 f3 z4 f4 z5 f5 z6 f6
      exact bodyPost_ret (v := .agg #[.int .i64 q1, .int .i64 q2, .int .i64 q3, .int .i64 q4, .slice (some ⟨C.heap.size, 0, none⟩) 1 1, .slice b2 n2 b4, .int .i64 0]) (by simp [results, Tryz.results22, go_sem, g0, g1, g2, g3, g4, g5, g6]) rfl (by rw [HD.out]; exact ⟨_, 1, 1, b2, n2, b4, rfl, ⟨HYT.out, HYI.out⟩, HYB.out⟩)
  · have k1b : (q0 == 1) = false := by rw [beq_eq_false_iff_ne]; exact k1
    cases hz : zeroB c0 c1 c2 c3 n1 n2
    · by_cases k2 : q0 = 2
      · subst k2
        have hw1 : IntKind.i64.wrap ((n1 : Int) + 1) = (n1 : Int) + 1 := IntWalk.i64_in _ (by omega)
        have hno : 1 ≤ q5 ∧ q5 ≤ 5 := by
          unfold deedB at hd
          rw [if_neg (by decide), if_pos rfl, Bool.and_eq_true, Bool.and_eq_true] at hd
          exact (termB_iff.1 hd.1.2).1
        have hds : doS ⟨c0, c1, c2, c3, ts, is⟩ ⟨2, q1, q2, q3, q4, q5, q6, q7, q8, q9⟩ = (if (n1 : Int) + 1 < q5 then (bk0, 6) else if q5 = (n1 : Int) + 1 then (⟨c0, c1, c2, c3, ts ++ [⟨q5, q6⟩], is⟩, 0) else (⟨c0, c1, c2, c3, ts.set (q5.toNat - 1) ⟨q5, q6⟩, is⟩, 0)) := by
          unfold doS; dsimp only; rw [if_neg (by decide), hZK, hz, if_neg (by decide), if_pos rfl, hl1]
        have d5 := HVd.out.cell 5 _ rfl
        have d6 := HVd.out.cell 6 _ rfl
        have o0 := HVo.out.cell 0 _ rfl
        have o1 := HVo.out.cell 1 _ rfl
        have o2 := HVo.out.cell 2 _ rfl
        have o3 := HVo.out.cell 3 _ rfl
        have o4 := HVo.out.cell 4 _ rfl
        have o5 := HVo.out.cell 5 _ rfl
        obtain ⟨i1, hi1, hz1, hs1, hy1⟩ := info_parts infoTerm
        by_cases j1 : (n1 : Int) + 1 < q5
        · have HD : Hid (doS ⟨c0, c1, c2, c3, ts, is⟩ ⟨2, q1, q2, q3, q4, q5, q6, q7, q8, q9⟩ = (bk0, 6)) := Lib.hid (by rw [hds, if_pos j1])
          clear hds
          go_wp2_with fail
          refine (l07Ill_any 6 _).mono ?_
          rintro e w3 ⟨rfl, hb⟩
          have hz3 := HVr.out.below hb
          have HB3 := Lib.hid (HVB.out.trans (hb.mono HVB.out.size))
          clear hb
          have z0 := hz3.cell 0 _ rfl
          have f0 := hz3.free 0
          have z1 := hz3.cell 1 _ rfl
          have f1 := hz3.free 1
          have z2 := hz3.cell 2 _ rfl
          have f2 := hz3.free 2
          have z3 := hz3.cell 3 _ rfl
          have f3 := hz3.free 3
          have z4 := hz3.cell 4 _ rfl
          have f4 := hz3.free 4
          have z5 := hz3.cell 5 _ rfl
          have f5 := hz3.free 5
          have z6 := hz3.cell 6 _ rfl
          have f6 := hz3.free 6
          have hY := (((((((hz3.set (j := 0) (by simp) (.int .i64 0)).set (j := 1) (by simp) (.int .i64 0)).set (j := 2) (by simp) (.int .i64 0)).set (j := 3) (by simp) (.int .i64 0)).set (j := 4) (by simp) (.slice none 0 0)).set (j := 5) (by simp) (.slice none 0 0)).set (j := 6) (by simp) (.int .i64 6))
          have HYB := Lib.hid (((((((HB3.out.setCell (p := ⟨w.heap.size + 1 + 1, 0, none⟩) (by dsimp only; omega) (.int .i64 0)).setCell (p := ⟨w.heap.size + 1 + 1, 1, none⟩) (by dsimp only; omega) (.int .i64 0)).setCell (p := ⟨w.heap.size + 1 + 1, 2, none⟩) (by dsimp only; omega) (.int .i64 0)).setCell (p := ⟨w.heap.size + 1 + 1, 3, none⟩) (by dsimp only; omega) (.int .i64 0)).setCell (p := ⟨w.heap.size + 1 + 1, 4, none⟩) (by dsimp only; omega) (.slice none 0 0)).setCell (p := ⟨w.heap.size + 1 + 1, 5, none⟩) (by dsimp only; omega) (.slice none 0 0)).setCell (p := ⟨w.heap.size + 1 + 1, 6, none⟩) (by dsimp only; omega) (.int .i64 6))
          obtain ⟨Y, hYd⟩ : ∃ Y, Y = ((((((w3.setCell ⟨w.heap.size + 1 + 1, 0, none⟩ (.int .i64 0)).setCell ⟨w.heap.size + 1 + 1, 1, none⟩ (.int .i64 0)).setCell ⟨w.heap.size + 1 + 1, 2, none⟩ (.int .i64 0)).setCell ⟨w.heap.size + 1 + 1, 3, none⟩ (.int .i64 0)).setCell ⟨w.heap.size + 1 + 1, 4, none⟩ (.slice none 0 0)).setCell ⟨w.heap.size + 1 + 1, 5, none⟩ (.slice none 0 0)).setCell ⟨w.heap.size + 1 + 1, 6, none⟩ (.int .i64 6) := ⟨_, rfl⟩
          rw [← hYd] at hY HYB
          have g0 := hY.cell 0 _ rfl
          have g1 := hY.cell 1 _ rfl
          have g2 := hY.cell 2 _ rfl
          have g3 := hY.cell 3 _ rfl
          have g4 := hY.cell 4 _ rfl
          have g5 := hY.cell 5 _ rfl
          have g6 := hY.cell 6 _ rfl
          have HG := Lib.hid (And.intro g0 (And.intro g1 (And.intro g2 (And.intro g3 (And.intro g4 (And.intro g5 g6))))))
          have HYD := Lib.hid hYd
          clear hY hYd g0 g1 g2 g3 g4 g5 g6
          go_wp2_with fail
          rw [← HYD.out]
          obtain ⟨g0, g1, g2, g3, g4, g5, g6⟩ := HG.out
          clear z0 f0 z1 f1 z2 f2 z3 f3 z4 f4 z5 f5 z6 f6
          exact bodyPost_ret (v := .agg #[.int .i64 0, .int .i64 0, .int .i64 0, .int .i64 0, .slice none 0 0, .slice none 0 0, .int .i64 6]) (by simp [results, Tryz.results22, go_sem, g0, g1, g2, g3, g4, g5, g6]) rfl (by rw [HD.out]; exact ⟨none, 0, 0, none, 0, 0, rfl, ⟨World.ownsRow_nil _ _ _ _, World.ownsRow_nil _ _ _ _⟩, HYB.out⟩)
        · by_cases j2 : q5 = (n1 : Int) + 1
          · have HD : Hid (doS ⟨c0, c1, c2, c3, ts, is⟩ ⟨2, q1, q2, q3, q4, q5, q6, q7, q8, q9⟩ = (⟨c0, c1, c2, c3, ts ++ [⟨q5, q6⟩], is⟩, 0)) := Lib.hid (by rw [hds, if_neg j1, if_pos j2])
            have j2b : (q5 == (n1 : Int) + 1) = true := by rw [j2]; simp
            have hj2 := Lib.hid j2
            clear hds j2
            have HXB : Hid (Below V.heap.size V (V.alloc (.cells #[.int .i64 q5, .string q6] 45))) := Lib.hid ((Below.refl _ _).alloc (Nat.le_refl _) _)
            have HXT := Lib.hid (own_below HVT.out HXB.out)
            have HXI := Lib.hid (own_below HVI.out HXB.out)
            have HXo := Lib.hid (HVo.out.below HXB.out)
            have HXr := Lib.hid (HVr.out.below HXB.out)
            have HXW := Lib.hid (HVB.out.trans (HXB.out.mono HVB.out.size))
            have HXL : Hid (SR tmE tmD (V.alloc (.cells #[.int .i64 q5, .string q6] 45)) (some ⟨V.heap.size, 0, none⟩) 1 1 [⟨q5, q6⟩]) := Lib.hid (SR.own (by decide) (World.ownsRow_lit V #[.int .i64 q5, .string q6] 1 (Nat.le_refl _) (by decide) rfl))
            have HXS : Hid (W.heap.size ≤ (V.alloc (.cells #[.int .i64 q5, .string q6] 45)).heap.size) := Lib.hid (Nat.le_trans HVW.out.size HXB.out.size)
            go_wp2_with (at_builtin; refine append_wl tmE tmD rfl _ _ 37 rfl 45 i1 _ 24 Tryz.underlying37 hi1 hz1 hs1 hy1 rfl (by decide) (by decide) W.heap.size _ n1 ts rfl HXT.out _ 1 1 [(⟨q5, q6⟩ : Tm)] rfl HXL.out HXS.out (by omega) (by omega) ?_; intro v3 u3 O3 G3; have HO3 := Lib.hid O3; have HBo3 := Lib.hid (HXo.out.grown G3 (fun e => Nat.lt_irrefl _ (HTL.out _ e.symm))); have HBr3 := Lib.hid (HXr.out.grown G3 (fun e => by have := (HVT.out.lt _ e.symm).1; have := HWS.out; omega)); have HI3 := Lib.hid (own_grown HXI.out G3 (own_types HXI.out HXT.out (by decide))); have HB3 := Lib.hid (HXW.out.grown G3 HXW.out.size (fun q hq => by have := (HVT.out.lt q hq).1; have := HWS.out; omega)); obtain ⟨a5, c5, rfl⟩ := own_shape HO3.out; clear O3 G3 d0 d5 d6 o0 o1 o2 o3 o4 o5 x4; have o0 := HBo3.out.cell 0 _ rfl; have o1 := HBo3.out.cell 1 _ rfl; have o2 := HBo3.out.cell 2 _ rfl; have o3 := HBo3.out.cell 3 _ rfl; have o4 := HBo3.out.cell 4 _ rfl; have o5 := HBo3.out.cell 5 _ rfl; have p4 := HBo3.out.free 4; have z0 := HBr3.out.cell 0 _ rfl; have f0 := HBr3.out.free 0; have z1 := HBr3.out.cell 1 _ rfl; have f1 := HBr3.out.free 1; have z2 := HBr3.out.cell 2 _ rfl; have f2 := HBr3.out.free 2; have z3 := HBr3.out.cell 3 _ rfl; have f3 := HBr3.out.free 3; have z4 := HBr3.out.cell 4 _ rfl; have f4 := HBr3.out.free 4; have z5 := HBr3.out.cell 5 _ rfl; have f5 := HBr3.out.free 5; have z6 := HBr3.out.cell 6 _ rfl; have f6 := HBr3.out.free 6)
            have HTQ : Hid (∀ q, (Value.slice a5 (n1 + 1) c5).ownBlock = some q → q ≠ w2.heap.size ∧ q ≠ w.heap.size + 1 + 1) := Lib.hid (fun q hq => ⟨row_apart HO3.out (by omega) (HBo3.out.cell 1 _ rfl) q hq, by have := (HO3.out.lt q hq).1; have := HWS.out; omega⟩)
            have hY := ((((((((HBr3.out.other ⟨w2.heap.size, 4, none⟩ (.slice a5 (n1 + 1) c5) (by dsimp only; omega)).set (j := 0) (by simp) (.int .i64 c0)).set (j := 1) (by simp) (.int .i64 c1)).set (j := 2) (by simp) (.int .i64 c2)).set (j := 3) (by simp) (.int .i64 c3)).set (j := 4) (by simp) (.slice a5 (n1 + 1) c5)).set (j := 5) (by simp) (.slice b2 n2 b4)).set (j := 6) (by simp) (.int .i64 0))
            have HYB := Lib.hid ((((((((HB3.out.setCell (p := ⟨w2.heap.size, 4, none⟩) (by dsimp only; have := HWS.out; have := HWT.out; omega) (.slice a5 (n1 + 1) c5)).setCell (p := ⟨w.heap.size + 1 + 1, 0, none⟩) (by dsimp only; omega) (.int .i64 c0)).setCell (p := ⟨w.heap.size + 1 + 1, 1, none⟩) (by dsimp only; omega) (.int .i64 c1)).setCell (p := ⟨w.heap.size + 1 + 1, 2, none⟩) (by dsimp only; omega) (.int .i64 c2)).setCell (p := ⟨w.heap.size + 1 + 1, 3, none⟩) (by dsimp only; omega) (.int .i64 c3)).setCell (p := ⟨w.heap.size + 1 + 1, 4, none⟩) (by dsimp only; omega) (.slice a5 (n1 + 1) c5)).setCell (p := ⟨w.heap.size + 1 + 1, 5, none⟩) (by dsimp only; omega) (.slice b2 n2 b4)).setCell (p := ⟨w.heap.size + 1 + 1, 6, none⟩) (by dsimp only; omega) (.int .i64 0))
            obtain ⟨Y, hYd⟩ : ∃ Y, Y = (((((((u3.setCell ⟨w2.heap.size, 4, none⟩ (.slice a5 (n1 + 1) c5)).setCell ⟨w.heap.size + 1 + 1, 0, none⟩ (.int .i64 c0)).setCell ⟨w.heap.size + 1 + 1, 1, none⟩ (.int .i64 c1)).setCell ⟨w.heap.size + 1 + 1, 2, none⟩ (.int .i64 c2)).setCell ⟨w.heap.size + 1 + 1, 3, none⟩ (.int .i64 c3)).setCell ⟨w.heap.size + 1 + 1, 4, none⟩ (.slice a5 (n1 + 1) c5)).setCell ⟨w.heap.size + 1 + 1, 5, none⟩ (.slice b2 n2 b4)).setCell ⟨w.heap.size + 1 + 1, 6, none⟩ (.int .i64 0) := ⟨_, rfl⟩
            have HYT : Hid (Y.ownsRow w.heap.size 45 tmE.k (.slice a5 (n1 + 1) c5) (n1 + 1) (tmE.flat (ts ++ [⟨q5, q6⟩]))) := Lib.hid (by rw [hYd]; exact (own_other (own_other (own_other (own_other (own_other (own_other (own_other (own_other (own_mono HO3.out HB0.out.size) (b := w2.heap.size) (fun q hq => (HTQ.out q hq).1) ⟨w2.heap.size, 4, none⟩ (.slice a5 (n1 + 1) c5) rfl) (b := w.heap.size + 1 + 1) (fun q hq => (HTQ.out q hq).2) ⟨w.heap.size + 1 + 1, 0, none⟩ (.int .i64 c0) rfl) (b := w.heap.size + 1 + 1) (fun q hq => (HTQ.out q hq).2) ⟨w.heap.size + 1 + 1, 1, none⟩ (.int .i64 c1) rfl) (b := w.heap.size + 1 + 1) (fun q hq => (HTQ.out q hq).2) ⟨w.heap.size + 1 + 1, 2, none⟩ (.int .i64 c2) rfl) (b := w.heap.size + 1 + 1) (fun q hq => (HTQ.out q hq).2) ⟨w.heap.size + 1 + 1, 3, none⟩ (.int .i64 c3) rfl) (b := w.heap.size + 1 + 1) (fun q hq => (HTQ.out q hq).2) ⟨w.heap.size + 1 + 1, 4, none⟩ (.slice a5 (n1 + 1) c5) rfl) (b := w.heap.size + 1 + 1) (fun q hq => (HTQ.out q hq).2) ⟨w.heap.size + 1 + 1, 5, none⟩ (.slice b2 n2 b4) rfl) (b := w.heap.size + 1 + 1) (fun q hq => (HTQ.out q hq).2) ⟨w.heap.size + 1 + 1, 6, none⟩ (.int .i64 0) rfl))
            have HYI : Hid (Y.ownsRow w.heap.size 46 imE.k (.slice b2 n2 b4) n2 (imE.flat is)) := Lib.hid (by rw [hYd]; exact (own_other (own_other (own_other (own_other (own_other (own_other (own_other (own_other (own_mono HI3.out HB0.out.size) (b := w2.heap.size) (fun q hq => by have := HIL.out q hq; omega) ⟨w2.heap.size, 4, none⟩ (.slice a5 (n1 + 1) c5) rfl) (b := w.heap.size + 1 + 1) (fun q hq => by have := (HVI.out.lt q hq).1; have := HWS.out; omega) ⟨w.heap.size + 1 + 1, 0, none⟩ (.int .i64 c0) rfl) (b := w.heap.size + 1 + 1) (fun q hq => by have := (HVI.out.lt q hq).1; have := HWS.out; omega) ⟨w.heap.size + 1 + 1, 1, none⟩ (.int .i64 c1) rfl) (b := w.heap.size + 1 + 1) (fun q hq => by have := (HVI.out.lt q hq).1; have := HWS.out; omega) ⟨w.heap.size + 1 + 1, 2, none⟩ (.int .i64 c2) rfl) (b := w.heap.size + 1 + 1) (fun q hq => by have := (HVI.out.lt q hq).1; have := HWS.out; omega) ⟨w.heap.size + 1 + 1, 3, none⟩ (.int .i64 c3) rfl) (b := w.heap.size + 1 + 1) (fun q hq => by have := (HVI.out.lt q hq).1; have := HWS.out; omega) ⟨w.heap.size + 1 + 1, 4, none⟩ (.slice a5 (n1 + 1) c5) rfl) (b := w.heap.size + 1 + 1) (fun q hq => by have := (HVI.out.lt q hq).1; have := HWS.out; omega) ⟨w.heap.size + 1 + 1, 5, none⟩ (.slice b2 n2 b4) rfl) (b := w.heap.size + 1 + 1) (fun q hq => by have := (HVI.out.lt q hq).1; have := HWS.out; omega) ⟨w.heap.size + 1 + 1, 6, none⟩ (.int .i64 0) rfl))
            rw [← hYd] at hY HYB
            have g0 := hY.cell 0 _ rfl
            have g1 := hY.cell 1 _ rfl
            have g2 := hY.cell 2 _ rfl
            have g3 := hY.cell 3 _ rfl
            have g4 := hY.cell 4 _ rfl
            have g5 := hY.cell 5 _ rfl
            have g6 := hY.cell 6 _ rfl
            have HG := Lib.hid (And.intro g0 (And.intro g1 (And.intro g2 (And.intro g3 (And.intro g4 (And.intro g5 g6))))))
            have HYD := Lib.hid hYd
            clear hY hYd g0 g1 g2 g3 g4 g5 g6
            rw [← HYD.out]
            obtain ⟨g0, g1, g2, g3, g4, g5, g6⟩ := HG.out
            clear z0 f0 z1 f1 z2 f2 z3 f3 z4 f4 z5 f5 z6 f6
            exact bodyPost_ret (v := .agg #[.int .i64 c0, .int .i64 c1, .int .i64 c2, .int .i64 c3, .slice a5 (n1 + 1) c5, .slice b2 n2 b4, .int .i64 0]) (by simp [results, Tryz.results22, go_sem, g0, g1, g2, g3, g4, g5, g6]) rfl (by rw [HD.out]; exact ⟨a5, n1 + 1, c5, b2, n2, b4, rfl, ⟨HYT.out, HYI.out⟩, HYB.out⟩)
          · have HD : Hid (doS ⟨c0, c1, c2, c3, ts, is⟩ ⟨2, q1, q2, q3, q4, q5, q6, q7, q8, q9⟩ = (⟨c0, c1, c2, c3, ts.set (q5.toNat - 1) ⟨q5, q6⟩, is⟩, 0)) := Lib.hid (by rw [hds, if_neg j1, if_neg j2])
            have j2b : (q5 == (n1 : Int) + 1) = false := by rw [beq_eq_false_iff_ne]; exact j2
            clear hds
            obtain ⟨i, hi⟩ : ∃ i : Nat, (i : Int) = q5 - 1 := ⟨(q5 - 1).toNat, by omega⟩
            have hit : q5.toNat - 1 = i := by omega
            have hin : 0 ≤ (i : Int) ∧ (i : Int) < (n1 : Int) := by omega
            have hil : i < n1 := by omega
            have hsub : IntKind.i64.wrap (q5 - 1) = (i : Int) := by rw [IntWalk.i64_in _ (by omega)]; omega
            rw [hit] at HD
            obtain ⟨g, rfl⟩ : ∃ g, b1 = some ⟨g, 0, none⟩ := by
              rcases HVT.out.2 with ⟨_, h0⟩ | ⟨g, cap, cur, hv, _⟩
              · omega
              · simp only [Value.slice.injEq] at hv; exact ⟨g, hv.1⟩
            clear hi hit j2
            obtain ⟨g', o', hge, _, t0, t1⟩ := TmR.at (TmR.own HVT.out) hil
            simp only [Option.some.injEq, Addr.mk.injEq, and_true] at hge
            obtain ⟨rfl, rfl⟩ := hge
            rw [Nat.zero_add] at t0 t1
            have k0 := HVT.out.frozenAt (i * 2)
            have k1 := HVT.out.frozenAt (i * 2 + 1)
            have hst := TmR.stored HVT.out hil q5 q6
            have HST := Lib.hid hst.1
            clear hst
            have hg1 : ¬ g = w2.heap.size := by have := HTL.out g rfl; omega
            have hg2 : ¬ w2.heap.size = g := fun e => hg1 e.symm
            have hg3 : ¬ g = w.heap.size + 1 + 1 := by have := (HVT.out.lt g rfl).1; have := HWS.out; omega
            have hg4 : ¬ w.heap.size + 1 + 1 = g := fun e => hg3 e.symm
            have HGB := Lib.hid (HVT.out.lt g rfl).1
            have z0 := HVr.out.cell 0 _ rfl
            have f0 := HVr.out.free 0
            have z1 := HVr.out.cell 1 _ rfl
            have f1 := HVr.out.free 1
            have z2 := HVr.out.cell 2 _ rfl
            have f2 := HVr.out.free 2
            have z3 := HVr.out.cell 3 _ rfl
            have f3 := HVr.out.free 3
            have z4 := HVr.out.cell 4 _ rfl
            have f4 := HVr.out.free 4
            have z5 := HVr.out.cell 5 _ rfl
            have f5 := HVr.out.free 5
            have z6 := HVr.out.cell 6 _ rfl
            have f6 := HVr.out.free 6
            have hY := (((((((((HVr.out.other ⟨g, i * 2, none⟩ (.int .i64 q5) (by dsimp only; omega)).other ⟨g, i * 2 + 1, none⟩ (.string q6) (by dsimp only; omega)).set (j := 0) (by simp) (.int .i64 c0)).set (j := 1) (by simp) (.int .i64 c1)).set (j := 2) (by simp) (.int .i64 c2)).set (j := 3) (by simp) (.int .i64 c3)).set (j := 4) (by simp) (.slice (some ⟨g, 0, none⟩) n1 b3)).set (j := 5) (by simp) (.slice b2 n2 b4)).set (j := 6) (by simp) (.int .i64 0))
            have HYB := Lib.hid (((((((((HVB.out.setCell (p := ⟨g, i * 2, none⟩) (by dsimp only; have := HGB.out; have := HWS.out; omega) (.int .i64 q5)).setCell (p := ⟨g, i * 2 + 1, none⟩) (by dsimp only; have := HGB.out; have := HWS.out; omega) (.string q6)).setCell (p := ⟨w.heap.size + 1 + 1, 0, none⟩) (by dsimp only; omega) (.int .i64 c0)).setCell (p := ⟨w.heap.size + 1 + 1, 1, none⟩) (by dsimp only; omega) (.int .i64 c1)).setCell (p := ⟨w.heap.size + 1 + 1, 2, none⟩) (by dsimp only; omega) (.int .i64 c2)).setCell (p := ⟨w.heap.size + 1 + 1, 3, none⟩) (by dsimp only; omega) (.int .i64 c3)).setCell (p := ⟨w.heap.size + 1 + 1, 4, none⟩) (by dsimp only; omega) (.slice (some ⟨g, 0, none⟩) n1 b3)).setCell (p := ⟨w.heap.size + 1 + 1, 5, none⟩) (by dsimp only; omega) (.slice b2 n2 b4)).setCell (p := ⟨w.heap.size + 1 + 1, 6, none⟩) (by dsimp only; omega) (.int .i64 0))
            obtain ⟨Y, hYd⟩ : ∃ Y, Y = ((((((((V.setCell ⟨g, i * 2, none⟩ (.int .i64 q5)).setCell ⟨g, i * 2 + 1, none⟩ (.string q6)).setCell ⟨w.heap.size + 1 + 1, 0, none⟩ (.int .i64 c0)).setCell ⟨w.heap.size + 1 + 1, 1, none⟩ (.int .i64 c1)).setCell ⟨w.heap.size + 1 + 1, 2, none⟩ (.int .i64 c2)).setCell ⟨w.heap.size + 1 + 1, 3, none⟩ (.int .i64 c3)).setCell ⟨w.heap.size + 1 + 1, 4, none⟩ (.slice (some ⟨g, 0, none⟩) n1 b3)).setCell ⟨w.heap.size + 1 + 1, 5, none⟩ (.slice b2 n2 b4)).setCell ⟨w.heap.size + 1 + 1, 6, none⟩ (.int .i64 0) := ⟨_, rfl⟩
            have HYT : Hid (Y.ownsRow w.heap.size 45 tmE.k (.slice (some ⟨g, 0, none⟩) n1 b3) n1 (tmE.flat (ts.set i ⟨q5, q6⟩))) := Lib.hid (by rw [hYd]; exact (own_other (own_other (own_other (own_other (own_other (own_other (own_other (own_mono HST.out (show w.heap.size ≤ W.heap.size from HB0.out.size)) (b := w.heap.size + 1 + 1) (fun q hq => by have := (HVT.out.lt q hq).1; have := HWS.out; omega) ⟨w.heap.size + 1 + 1, 0, none⟩ (.int .i64 c0) rfl) (b := w.heap.size + 1 + 1) (fun q hq => by have := (HVT.out.lt q hq).1; have := HWS.out; omega) ⟨w.heap.size + 1 + 1, 1, none⟩ (.int .i64 c1) rfl) (b := w.heap.size + 1 + 1) (fun q hq => by have := (HVT.out.lt q hq).1; have := HWS.out; omega) ⟨w.heap.size + 1 + 1, 2, none⟩ (.int .i64 c2) rfl) (b := w.heap.size + 1 + 1) (fun q hq => by have := (HVT.out.lt q hq).1; have := HWS.out; omega) ⟨w.heap.size + 1 + 1, 3, none⟩ (.int .i64 c3) rfl) (b := w.heap.size + 1 + 1) (fun q hq => by have := (HVT.out.lt q hq).1; have := HWS.out; omega) ⟨w.heap.size + 1 + 1, 4, none⟩ (.slice (some ⟨g, 0, none⟩) n1 b3) rfl) (b := w.heap.size + 1 + 1) (fun q hq => by have := (HVT.out.lt q hq).1; have := HWS.out; omega) ⟨w.heap.size + 1 + 1, 5, none⟩ (.slice b2 n2 b4) rfl) (b := w.heap.size + 1 + 1) (fun q hq => by have := (HVT.out.lt q hq).1; have := HWS.out; omega) ⟨w.heap.size + 1 + 1, 6, none⟩ (.int .i64 0) rfl))
            have HYI : Hid (Y.ownsRow w.heap.size 46 imE.k (.slice b2 n2 b4) n2 (imE.flat is)) := Lib.hid (by rw [hYd]; exact (own_other (own_other (own_other (own_other (own_other (own_other (own_other (own_other (own_other (own_mono HVI.out (show w.heap.size ≤ W.heap.size from HB0.out.size)) (b := g) (fun q hq => by have := (own_types HVI.out HVT.out (by decide)) q hq; intro e; subst e; exact this rfl) ⟨g, i * 2, none⟩ (.int .i64 q5) rfl) (b := g) (fun q hq => by have := (own_types HVI.out HVT.out (by decide)) q hq; intro e; subst e; exact this rfl) ⟨g, i * 2 + 1, none⟩ (.string q6) rfl) (b := w.heap.size + 1 + 1) (fun q hq => by have := (HVI.out.lt q hq).1; have := HWS.out; omega) ⟨w.heap.size + 1 + 1, 0, none⟩ (.int .i64 c0) rfl) (b := w.heap.size + 1 + 1) (fun q hq => by have := (HVI.out.lt q hq).1; have := HWS.out; omega) ⟨w.heap.size + 1 + 1, 1, none⟩ (.int .i64 c1) rfl) (b := w.heap.size + 1 + 1) (fun q hq => by have := (HVI.out.lt q hq).1; have := HWS.out; omega) ⟨w.heap.size + 1 + 1, 2, none⟩ (.int .i64 c2) rfl) (b := w.heap.size + 1 + 1) (fun q hq => by have := (HVI.out.lt q hq).1; have := HWS.out; omega) ⟨w.heap.size + 1 + 1, 3, none⟩ (.int .i64 c3) rfl) (b := w.heap.size + 1 + 1) (fun q hq => by have := (HVI.out.lt q hq).1; have := HWS.out; omega) ⟨w.heap.size + 1 + 1, 4, none⟩ (.slice (some ⟨g, 0, none⟩) n1 b3) rfl) (b := w.heap.size + 1 + 1) (fun q hq => by have := (HVI.out.lt q hq).1; have := HWS.out; omega) ⟨w.heap.size + 1 + 1, 5, none⟩ (.slice b2 n2 b4) rfl) (b := w.heap.size + 1 + 1) (fun q hq => by have := (HVI.out.lt q hq).1; have := HWS.out; omega) ⟨w.heap.size + 1 + 1, 6, none⟩ (.int .i64 0) rfl))
            rw [← hYd] at hY HYB
            have g0 := hY.cell 0 _ rfl
            have g1 := hY.cell 1 _ rfl
            have g2 := hY.cell 2 _ rfl
            have g3 := hY.cell 3 _ rfl
            have g4 := hY.cell 4 _ rfl
            have g5 := hY.cell 5 _ rfl
            have g6 := hY.cell 6 _ rfl
            have HG := Lib.hid (And.intro g0 (And.intro g1 (And.intro g2 (And.intro g3 (And.intro g4 (And.intro g5 g6))))))
            have HYD := Lib.hid hYd
            clear hY hYd g0 g1 g2 g3 g4 g5 g6
            go_wp2_with fail
            rw [← HYD.out]
            obtain ⟨g0, g1, g2, g3, g4, g5, g6⟩ := HG.out
            clear z0 f0 z1 f1 z2 f2 z3 f3 z4 f4 z5 f5 z6 f6
            exact bodyPost_ret (v := .agg #[.int .i64 c0, .int .i64 c1, .int .i64 c2, .int .i64 c3, .slice (some ⟨g, 0, none⟩) n1 b3, .slice b2 n2 b4, .int .i64 0]) (by simp [results, Tryz.results22, go_sem, g0, g1, g2, g3, g4, g5, g6]) rfl (by rw [HD.out]; exact ⟨some ⟨g, 0, none⟩, n1, b3, b2, n2, b4, rfl, ⟨HYT.out, HYI.out⟩, HYB.out⟩)
      · have k2b : (q0 == 2) = false := by rw [beq_eq_false_iff_ne]; exact k2
        have HD : Hid (doS ⟨c0, c1, c2, c3, ts, is⟩ ⟨q0, q1, q2, q3, q4, q5, q6, q7, q8, q9⟩ = itemsR ⟨c0, c1, c2, c3, ts, is⟩ ⟨q0, q1, q2, q3, q4, q5, q6, q7, q8, q9⟩) := Lib.hid (by unfold doS; rw [if_neg k1, hZK, hz, if_neg (by decide), if_neg k2])
        have hkd : q0 = 3 ∨ q0 = 4 := by
          by_cases k3 : q0 = 3
          · exact .inl k3
          · by_cases k4 : q0 = 4
            · exact .inr k4
            · unfold deedB at hd
              rw [if_neg k1, if_neg k2, if_neg k3, if_neg k4] at hd
              cases hd
        have d1 := HVd.out.cell 1 _ rfl
        have d2 := HVd.out.cell 2 _ rfl
        have d3 := HVd.out.cell 3 _ rfl
        have d4 := HVd.out.cell 4 _ rfl
        have d5 := HVd.out.cell 5 _ rfl
        have d6 := HVd.out.cell 6 _ rfl
        have d7 := HVd.out.cell 7 _ rfl
        have d8 := HVd.out.cell 8 _ rfl
        have d9 := HVd.out.cell 9 _ rfl
        have x0 := HVb.out.cell 0 _ rfl
        have x1 := HVb.out.cell 1 _ rfl
        have x2 := HVb.out.cell 2 _ rfl
        have x3 := HVb.out.cell 3 _ rfl
        have x5 := HVb.out.cell 5 _ rfl
        go_wp2_with fail
        refine (l07Items_any c0 c1 c2 c3 ts is q0 q1 q2 q3 q4 q5 q6 q7 q8 q9 a1 a2 n1 n2 a3 a4 _ (HR.out.below HVB.out) hn1 hn2 hkd).mono ?_
        rintro e w4 hnb
        rw [← HD.out] at hnb
        generalize doS ⟨c0, c1, c2, c3, ts, is⟩ ⟨q0, q1, q2, q3, q4, q5, q6, q7, q8, q9⟩ = r at *
        obtain ⟨e1, m1, e3, e2, m2, e4, rfl, ho, hb4⟩ := hnb
        have HBO := Lib.hid ho
        have HB4 := Lib.hid (HVB.out.trans (hb4.mono HVB.out.size))
        have hz3 := HVr.out.below hb4
        have HVS := Lib.hid (show W.heap.size ≤ V.heap.size from HVW.out.size)
        clear ho hb4 d0 d1 d2 d3 d4 d5 d6 d7 d8 d9 x0 x1 x2 x3 x4 x5
        have z0 := hz3.cell 0 _ rfl
        have f0 := hz3.free 0
        have z1 := hz3.cell 1 _ rfl
        have f1 := hz3.free 1
        have z2 := hz3.cell 2 _ rfl
        have f2 := hz3.free 2
        have z3 := hz3.cell 3 _ rfl
        have f3 := hz3.free 3
        have z4 := hz3.cell 4 _ rfl
        have f4 := hz3.free 4
        have z5 := hz3.cell 5 _ rfl
        have f5 := hz3.free 5
        have z6 := hz3.cell 6 _ rfl
        have f6 := hz3.free 6
        have hY := (((((((hz3.set (j := 0) (by simp) (.int .i64 r.1.c0)).set (j := 1) (by simp) (.int .i64 r.1.c1)).set (j := 2) (by simp) (.int .i64 r.1.c2)).set (j := 3) (by simp) (.int .i64 r.1.c3)).set (j := 4) (by simp) (.slice e1 m1 e3)).set (j := 5) (by simp) (.slice e2 m2 e4)).set (j := 6) (by simp) (.int .i64 r.2))
        have HYB := Lib.hid (((((((HB4.out.setCell (p := ⟨w.heap.size + 1 + 1, 0, none⟩) (by dsimp only; omega) (.int .i64 r.1.c0)).setCell (p := ⟨w.heap.size + 1 + 1, 1, none⟩) (by dsimp only; omega) (.int .i64 r.1.c1)).setCell (p := ⟨w.heap.size + 1 + 1, 2, none⟩) (by dsimp only; omega) (.int .i64 r.1.c2)).setCell (p := ⟨w.heap.size + 1 + 1, 3, none⟩) (by dsimp only; omega) (.int .i64 r.1.c3)).setCell (p := ⟨w.heap.size + 1 + 1, 4, none⟩) (by dsimp only; omega) (.slice e1 m1 e3)).setCell (p := ⟨w.heap.size + 1 + 1, 5, none⟩) (by dsimp only; omega) (.slice e2 m2 e4)).setCell (p := ⟨w.heap.size + 1 + 1, 6, none⟩) (by dsimp only; omega) (.int .i64 r.2))
        obtain ⟨Y, hYd⟩ : ∃ Y, Y = ((((((w4.setCell ⟨w.heap.size + 1 + 1, 0, none⟩ (.int .i64 r.1.c0)).setCell ⟨w.heap.size + 1 + 1, 1, none⟩ (.int .i64 r.1.c1)).setCell ⟨w.heap.size + 1 + 1, 2, none⟩ (.int .i64 r.1.c2)).setCell ⟨w.heap.size + 1 + 1, 3, none⟩ (.int .i64 r.1.c3)).setCell ⟨w.heap.size + 1 + 1, 4, none⟩ (.slice e1 m1 e3)).setCell ⟨w.heap.size + 1 + 1, 5, none⟩ (.slice e2 m2 e4)).setCell ⟨w.heap.size + 1 + 1, 6, none⟩ (.int .i64 r.2) := ⟨_, rfl⟩
        have HYT : Hid (Y.ownsRow w.heap.size 45 tmE.k (.slice e1 m1 e3) m1 (tmE.flat r.1.ts)) := Lib.hid (by rw [hYd]; exact (own_other (own_other (own_other (own_other (own_other (own_other (own_other (own_mono HBO.out.t (show w.heap.size ≤ V.heap.size from HVB.out.size)) (b := w.heap.size + 1 + 1) (fun q hq => by have := (HBO.out.t.lt q hq).1; have := HWS.out; have := HVS.out; omega) ⟨w.heap.size + 1 + 1, 0, none⟩ (.int .i64 r.1.c0) rfl) (b := w.heap.size + 1 + 1) (fun q hq => by have := (HBO.out.t.lt q hq).1; have := HWS.out; have := HVS.out; omega) ⟨w.heap.size + 1 + 1, 1, none⟩ (.int .i64 r.1.c1) rfl) (b := w.heap.size + 1 + 1) (fun q hq => by have := (HBO.out.t.lt q hq).1; have := HWS.out; have := HVS.out; omega) ⟨w.heap.size + 1 + 1, 2, none⟩ (.int .i64 r.1.c2) rfl) (b := w.heap.size + 1 + 1) (fun q hq => by have := (HBO.out.t.lt q hq).1; have := HWS.out; have := HVS.out; omega) ⟨w.heap.size + 1 + 1, 3, none⟩ (.int .i64 r.1.c3) rfl) (b := w.heap.size + 1 + 1) (fun q hq => by have := (HBO.out.t.lt q hq).1; have := HWS.out; have := HVS.out; omega) ⟨w.heap.size + 1 + 1, 4, none⟩ (.slice e1 m1 e3) rfl) (b := w.heap.size + 1 + 1) (fun q hq => by have := (HBO.out.t.lt q hq).1; have := HWS.out; have := HVS.out; omega) ⟨w.heap.size + 1 + 1, 5, none⟩ (.slice e2 m2 e4) rfl) (b := w.heap.size + 1 + 1) (fun q hq => by have := (HBO.out.t.lt q hq).1; have := HWS.out; have := HVS.out; omega) ⟨w.heap.size + 1 + 1, 6, none⟩ (.int .i64 r.2) rfl))
        have HYI : Hid (Y.ownsRow w.heap.size 46 imE.k (.slice e2 m2 e4) m2 (imE.flat r.1.is)) := Lib.hid (by rw [hYd]; exact (own_other (own_other (own_other (own_other (own_other (own_other (own_other (own_mono HBO.out.i (show w.heap.size ≤ V.heap.size from HVB.out.size)) (b := w.heap.size + 1 + 1) (fun q hq => by have := (HBO.out.i.lt q hq).1; have := HWS.out; have := HVS.out; omega) ⟨w.heap.size + 1 + 1, 0, none⟩ (.int .i64 r.1.c0) rfl) (b := w.heap.size + 1 + 1) (fun q hq => by have := (HBO.out.i.lt q hq).1; have := HWS.out; have := HVS.out; omega) ⟨w.heap.size + 1 + 1, 1, none⟩ (.int .i64 r.1.c1) rfl) (b := w.heap.size + 1 + 1) (fun q hq => by have := (HBO.out.i.lt q hq).1; have := HWS.out; have := HVS.out; omega) ⟨w.heap.size + 1 + 1, 2, none⟩ (.int .i64 r.1.c2) rfl) (b := w.heap.size + 1 + 1) (fun q hq => by have := (HBO.out.i.lt q hq).1; have := HWS.out; have := HVS.out; omega) ⟨w.heap.size + 1 + 1, 3, none⟩ (.int .i64 r.1.c3) rfl) (b := w.heap.size + 1 + 1) (fun q hq => by have := (HBO.out.i.lt q hq).1; have := HWS.out; have := HVS.out; omega) ⟨w.heap.size + 1 + 1, 4, none⟩ (.slice e1 m1 e3) rfl) (b := w.heap.size + 1 + 1) (fun q hq => by have := (HBO.out.i.lt q hq).1; have := HWS.out; have := HVS.out; omega) ⟨w.heap.size + 1 + 1, 5, none⟩ (.slice e2 m2 e4) rfl) (b := w.heap.size + 1 + 1) (fun q hq => by have := (HBO.out.i.lt q hq).1; have := HWS.out; have := HVS.out; omega) ⟨w.heap.size + 1 + 1, 6, none⟩ (.int .i64 r.2) rfl))
        rw [← hYd] at hY HYB
        have g0 := hY.cell 0 _ rfl
        have g1 := hY.cell 1 _ rfl
        have g2 := hY.cell 2 _ rfl
        have g3 := hY.cell 3 _ rfl
        have g4 := hY.cell 4 _ rfl
        have g5 := hY.cell 5 _ rfl
        have g6 := hY.cell 6 _ rfl
        have HG := Lib.hid (And.intro g0 (And.intro g1 (And.intro g2 (And.intro g3 (And.intro g4 (And.intro g5 g6))))))
        have HYD := Lib.hid hYd
        clear hY hYd g0 g1 g2 g3 g4 g5 g6
        go_wp2_with fail
        rw [← HYD.out]
        obtain ⟨g0, g1, g2, g3, g4, g5, g6⟩ := HG.out
        clear z0 f0 z1 f1 z2 f2 z3 f3 z4 f4 z5 f5 z6 f6
        exact bodyPost_ret (v := .agg #[.int .i64 r.1.c0, .int .i64 r.1.c1, .int .i64 r.1.c2, .int .i64 r.1.c3, .slice e1 m1 e3, .slice e2 m2 e4, .int .i64 r.2]) (by simp [results, Tryz.results22, go_sem, g0, g1, g2, g3, g4, g5, g6]) rfl ⟨e1, m1, e3, e2, m2, e4, rfl, ⟨HYT.out, HYI.out⟩, HYB.out⟩
    · have HD : Hid (doS ⟨c0, c1, c2, c3, ts, is⟩ ⟨q0, q1, q2, q3, q4, q5, q6, q7, q8, q9⟩ = (bk0, 10)) := Lib.hid (by unfold doS; rw [if_neg k1, hZK, hz, if_pos rfl])
      go_wp2_with fail
      refine (l07Ill_any 10 _).mono ?_
      rintro e w3 ⟨rfl, hb⟩
      have hz3 := HVr.out.below hb
      have HB3 := Lib.hid (HVB.out.trans (hb.mono HVB.out.size))
      clear hb
      have z0 := hz3.cell 0 _ rfl
      have f0 := hz3.free 0
      have z1 := hz3.cell 1 _ rfl
      have f1 := hz3.free 1
      have z2 := hz3.cell 2 _ rfl
      have f2 := hz3.free 2
      have z3 := hz3.cell 3 _ rfl
      have f3 := hz3.free 3
      have z4 := hz3.cell 4 _ rfl
      have f4 := hz3.free 4
      have z5 := hz3.cell 5 _ rfl
      have f5 := hz3.free 5
      have z6 := hz3.cell 6 _ rfl
      have f6 := hz3.free 6
      have hY := (((((((hz3.set (j := 0) (by simp) (.int .i64 0)).set (j := 1) (by simp) (.int .i64 0)).set (j := 2) (by simp) (.int .i64 0)).set (j := 3) (by simp) (.int .i64 0)).set (j := 4) (by simp) (.slice none 0 0)).set (j := 5) (by simp) (.slice none 0 0)).set (j := 6) (by simp) (.int .i64 10))
      have HYB := Lib.hid (((((((HB3.out.setCell (p := ⟨w.heap.size + 1 + 1, 0, none⟩) (by dsimp only; omega) (.int .i64 0)).setCell (p := ⟨w.heap.size + 1 + 1, 1, none⟩) (by dsimp only; omega) (.int .i64 0)).setCell (p := ⟨w.heap.size + 1 + 1, 2, none⟩) (by dsimp only; omega) (.int .i64 0)).setCell (p := ⟨w.heap.size + 1 + 1, 3, none⟩) (by dsimp only; omega) (.int .i64 0)).setCell (p := ⟨w.heap.size + 1 + 1, 4, none⟩) (by dsimp only; omega) (.slice none 0 0)).setCell (p := ⟨w.heap.size + 1 + 1, 5, none⟩) (by dsimp only; omega) (.slice none 0 0)).setCell (p := ⟨w.heap.size + 1 + 1, 6, none⟩) (by dsimp only; omega) (.int .i64 10))
      obtain ⟨Y, hYd⟩ : ∃ Y, Y = ((((((w3.setCell ⟨w.heap.size + 1 + 1, 0, none⟩ (.int .i64 0)).setCell ⟨w.heap.size + 1 + 1, 1, none⟩ (.int .i64 0)).setCell ⟨w.heap.size + 1 + 1, 2, none⟩ (.int .i64 0)).setCell ⟨w.heap.size + 1 + 1, 3, none⟩ (.int .i64 0)).setCell ⟨w.heap.size + 1 + 1, 4, none⟩ (.slice none 0 0)).setCell ⟨w.heap.size + 1 + 1, 5, none⟩ (.slice none 0 0)).setCell ⟨w.heap.size + 1 + 1, 6, none⟩ (.int .i64 10) := ⟨_, rfl⟩
      rw [← hYd] at hY HYB
      have g0 := hY.cell 0 _ rfl
      have g1 := hY.cell 1 _ rfl
      have g2 := hY.cell 2 _ rfl
      have g3 := hY.cell 3 _ rfl
      have g4 := hY.cell 4 _ rfl
      have g5 := hY.cell 5 _ rfl
      have g6 := hY.cell 6 _ rfl
      have HG := Lib.hid (And.intro g0 (And.intro g1 (And.intro g2 (And.intro g3 (And.intro g4 (And.intro g5 g6))))))
      have HYD := Lib.hid hYd
      clear hY hYd g0 g1 g2 g3 g4 g5 g6
      go_wp2_with fail
      rw [← HYD.out]
      obtain ⟨g0, g1, g2, g3, g4, g5, g6⟩ := HG.out
      clear z0 f0 z1 f1 z2 f2 z3 f3 z4 f4 z5 f5 z6 f6
      exact bodyPost_ret (v := .agg #[.int .i64 0, .int .i64 0, .int .i64 0, .int .i64 0, .slice none 0 0, .slice none 0 0, .int .i64 10]) (by simp [results, Tryz.results22, go_sem, g0, g1, g2, g3, g4, g5, g6]) rfl (by rw [HD.out]; exact ⟨none, 0, 0, none, 0, 0, rfl, ⟨World.ownsRow_nil _ _ _ _, World.ownsRow_nil _ _ _ _⟩, HYB.out⟩)
end Go.Proofs.YtnoefpkhbllmiaaGreat
