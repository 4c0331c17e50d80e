/- A deed by its cells; what the laws' own functions on one deed answer. -/
import Derived.Test.YtnoefpkhbllmiaaGreatRowTerm
import Derived.Test.YtnoefpkhbllmiaaGreatRowItem
namespace Go.Proofs.YtnoefpkhbllmiaaGreat
open Go.RowKit Go.PlainAid G MGF IRow
set_option linter.unusedVariables false
/-- A deed. -/
structure Dd where
  kd : Int
  gn : Int
  nd : Int
  mn : Int
  ck : Int
  no : Int
  lk : ByteArray
  nm : ByteArray
  tm : Int
  bd : ByteArray
def ddD : Dd := ⟨0, 0, 0, 0, 0, 0, ByteArray.empty, ByteArray.empty, 0, ByteArray.empty⟩
/-- A deed in memory. -/
def ddE : Enc Dd := ⟨10, fun e => [.int .i64 e.kd, .int .i64 e.gn, .int .i64 e.nd, .int .i64 e.mn, .int .i64 e.ck, .int .i64 e.no, .string e.lk, .string e.nm, .int .i64 e.tm, .string e.bd], fun _ => rfl, by intro x v hv; simp at hv; rcases hv with rfl | rfl | rfl | rfl | rfl | rfl | rfl | rfl | rfl | rfl <;> rfl⟩
set_option maxRecDepth 100000 in
theorem toConf_any (q0 q1 q2 q3 : Int) (w : World) :
    Calls Tryz.prog 23 #[.agg #[.int .i64 q0, .int .i64 q1, .int .i64 q2, .int .i64 q3]] w fun e w' => e = .returned (.agg #[.int .i64 q0, .int .i64 q1, .int .i64 q2, .int .i64 q3]) ∧ Below w.heap.size w w' := by
  go_enter Tryz.func23, Tryz.ntmps23
  go_wp2_with fail
  exact bodyPost_ret (v := .agg #[.int .i64 q0, .int .i64 q1, .int .i64 q2, .int .i64 q3]) (by simp [results, Tryz.results23, go_sem]) rfl ⟨rfl, by repeat' (first | exact Below.refl _ _ | refine Below.alloc ?_ (by first | exact Nat.le_refl _ | (simp; done) | (simp; omega)) _ | refine Below.setCell ?_ (by first | exact Nat.le_refl _ | (simp; done) | (simp; omega)) _)⟩
theorem eqConf_same (q0 q1 q2 q3 : Int) (w : World) :
    Calls Tryz.prog 31 #[.agg #[.int .i64 q0, .int .i64 q1, .int .i64 q2, .int .i64 q3], .agg #[.int .i64 q0, .int .i64 q1, .int .i64 q2, .int .i64 q3]] w fun e w' => e = .returned (.bool true) ∧ Below w.heap.size w w' := by
  go_enter Tryz.func31, Tryz.ntmps31
  go_wp2_with fail
  go_ret
  exact ⟨rfl, ((Below.refl _ _).alloc (Nat.le_refl _) _).alloc (by simp) _⟩
set_option maxRecDepth 100000 in
theorem szDeed_any (q0 q1 q2 q3 q4 q5 : Int) (q6 q7 : ByteArray) (q8 : Int) (q9 : ByteArray) (left : Int) (w : World) (h6 : q6.size ≤ maxLen) (h7 : q7.size ≤ maxLen) (h9 : q9.size ≤ maxLen) (h0 : 0 ≤ left) (h1 : left ≤ 1048576) :
    Calls Tryz.prog 5 #[.agg #[.int .i64 q0, .int .i64 q1, .int .i64 q2, .int .i64 q3, .int .i64 q4, .int .i64 q5, .string q6, .string q7, .int .i64 q8, .string q9], .int .i64 left] w fun e w' => ∃ r : Int, e = .returned (.int .i64 r) ∧ (r = -1 ∨ (0 ≤ r ∧ r ≤ left ∧ q6.size ≤ 1048576 ∧ q7.size ≤ 1048576 ∧ q9.size ≤ 1048576)) ∧ Below w.heap.size w w' := by
  obtain ⟨W, hW⟩ : ∃ W, W = w.alloc (.cells #[.int .i64 q0, .int .i64 q1, .int .i64 q2, .int .i64 q3, .int .i64 q4, .int .i64 q5, .string q6, .string q7, .int .i64 q8, .string q9] 33) := ⟨_, rfl⟩
  have hb0 : Below w.heap.size w W := by rw [hW]; repeat' (first | exact Below.refl _ _ | refine Below.alloc ?_ (by first | exact Nat.le_refl _ | (simp; done) | (simp; omega)) _)
  have hA : BoxC W w.heap.size [.int .i64 q0, .int .i64 q1, .int .i64 q2, .int .i64 q3, .int .i64 q4, .int .i64 q5, .string q6, .string q7, .int .i64 q8, .string q9] := by rw [hW]; exact BoxC.made _ _ _
  go_enter Tryz.func5, Tryz.ntmps5
  go_wp2_with fail
  rw [← hW]
  clear hW
  refine (szTerm_any q5 q6 left _ h6 h0 h1).mono ?_
  rintro e w1 ⟨r, rfl, hr, hb⟩
  have HA := Lib.hid (hA.below hb)
  have HW := Lib.hid (hb0.trans (hb.mono hb0.size))
  clear hb hA hb0
  rcases hr with rfl | ⟨r0, r1, s6⟩
  · go_wp2_with fail
    go_ret
    exact ⟨-1, rfl, .inl rfl, HW.out⟩
  · have a7 := HA.out.cell 7 _ rfl
    have a8 := HA.out.cell 8 _ rfl
    have a9 := HA.out.cell 9 _ rfl
    have hn : ¬ r < 0 := by omega
    go_wp2_with fail
    refine (szItem_any q7 q8 q9 r _ h7 h9 r0 (by omega)).mono ?_
    rintro e w2 ⟨r2, rfl, hr, hb⟩
    have HW2 := Lib.hid (HW.out.trans (hb.mono HW.out.size))
    clear hb a7 a8 a9
    rcases hr with rfl | ⟨t0, t1, s7, s9⟩
    · go_wp2_with fail
      go_ret
      exact ⟨-1, rfl, .inl rfl, HW2.out⟩
    · have hn2 : ¬ r2 < 0 := by omega
      go_wp2_with fail
      go_ret
      exact ⟨r2, rfl, .inr ⟨t0, by omega, s6, s7, s9⟩, HW2.out⟩
set_option maxRecDepth 100000 in
set_option maxHeartbeats 1600000 in
theorem toDeed_any (q0 q1 q2 q3 q4 q5 : Int) (q6 q7 : ByteArray) (q8 : Int) (q9 : ByteArray) (w : World) :
    Calls Tryz.prog 8 #[.agg #[.int .i64 q0, .int .i64 q1, .int .i64 q2, .int .i64 q3, .int .i64 q4, .int .i64 q5, .string q6, .string q7, .int .i64 q8, .string q9]] w fun e w' => e = .returned (.agg #[.int .i64 q0, .int .i64 q1, .int .i64 q2, .int .i64 q3, .int .i64 q4, .int .i64 q5, .string q6, .string q7, .int .i64 q8, .string q9]) ∧ Below w.heap.size w w' := by
  obtain ⟨W, hW⟩ : ∃ W, W = ((w.alloc (.cells #[.int .i64 q0, .int .i64 q1, .int .i64 q2, .int .i64 q3, .int .i64 q4, .int .i64 q5, .string q6, .string q7, .int .i64 q8, .string q9] 33)).alloc (.cells #[.int .i64 0, .int .i64 0, .int .i64 0, .int .i64 0, .int .i64 0, .int .i64 0, .string ⟨#[]⟩, .string ⟨#[]⟩, .int .i64 0, .string ⟨#[]⟩] 48)).alloc (.cells #[.int .i64 q0, .int .i64 0, .int .i64 0, .int .i64 0, .int .i64 0, .int .i64 0, .string ⟨#[]⟩, .string ⟨#[]⟩, .int .i64 0, .string ⟨#[]⟩] 48) := ⟨_, rfl⟩
  have hb0 : Below w.heap.size w W := by rw [hW]; repeat' (first | exact Below.refl _ _ | refine Below.alloc ?_ (by first | exact Nat.le_refl _ | (simp; done) | (simp; omega)) _)
  have hA : BoxC W w.heap.size [.int .i64 q0, .int .i64 q1, .int .i64 q2, .int .i64 q3, .int .i64 q4, .int .i64 q5, .string q6, .string q7, .int .i64 q8, .string q9] := by rw [hW]; exact ((BoxC.made _ _ _).alloc _).alloc _
  have hB : BoxC W (w.heap.size + 1 + 1) [.int .i64 q0, .int .i64 0, .int .i64 0, .int .i64 0, .int .i64 0, .int .i64 0, .string ⟨#[]⟩, .string ⟨#[]⟩, .int .i64 0, .string ⟨#[]⟩] := by rw [hW]; have := BoxC.made ((w.alloc (.cells #[.int .i64 q0, .int .i64 q1, .int .i64 q2, .int .i64 q3, .int .i64 q4, .int .i64 q5, .string q6, .string q7, .int .i64 q8, .string q9] 33)).alloc (.cells #[.int .i64 0, .int .i64 0, .int .i64 0, .int .i64 0, .int .i64 0, .int .i64 0, .string ⟨#[]⟩, .string ⟨#[]⟩, .int .i64 0, .string ⟨#[]⟩] 48)) #[.int .i64 q0, .int .i64 0, .int .i64 0, .int .i64 0, .int .i64 0, .int .i64 0, .string ⟨#[]⟩, .string ⟨#[]⟩, .int .i64 0, .string ⟨#[]⟩] 48; rwa [World.size_alloc, World.size_alloc] at this
  have hC : BoxC W (w.heap.size + 1) [.int .i64 0, .int .i64 0, .int .i64 0, .int .i64 0, .int .i64 0, .int .i64 0, .string ⟨#[]⟩, .string ⟨#[]⟩, .int .i64 0, .string ⟨#[]⟩] := by rw [hW]; have := (BoxC.made (w.alloc (.cells #[.int .i64 q0, .int .i64 q1, .int .i64 q2, .int .i64 q3, .int .i64 q4, .int .i64 q5, .string q6, .string q7, .int .i64 q8, .string q9] 33)) #[.int .i64 0, .int .i64 0, .int .i64 0, .int .i64 0, .int .i64 0, .int .i64 0, .string ⟨#[]⟩, .string ⟨#[]⟩, .int .i64 0, .string ⟨#[]⟩] 48).alloc (.cells #[.int .i64 q0, .int .i64 0, .int .i64 0, .int .i64 0, .int .i64 0, .int .i64 0, .string ⟨#[]⟩, .string ⟨#[]⟩, .int .i64 0, .string ⟨#[]⟩] 48); rwa [World.size_alloc] at this
  go_enter Tryz.func8, Tryz.ntmps8
  go_wp2_with fail
  rw [← hW]
  clear hW
  refine (toConf_any q1 q2 q3 q4 _).mono ?_
  rintro e w1 ⟨rfl, hb⟩
  have hA1 := hA.below hb
  have hB1 := hB.below hb
  have hC1 := hC.below hb
  have hb1 := hb0.trans (hb.mono hb0.size)
  clear hb hA hB hC hb0
  have a5 := hA1.cell 5 _ rfl
  have a6 := hA1.cell 6 _ rfl
  have b1 := hB1.cell 1 _ rfl
  have f1 := hB1.free 1
  have b2 := hB1.cell 2 _ rfl
  have f2 := hB1.free 2
  have b3 := hB1.cell 3 _ rfl
  have f3 := hB1.free 3
  have b4 := hB1.cell 4 _ rfl
  have f4 := hB1.free 4
  obtain ⟨V, hV⟩ : ∃ V, V = (((w1.setCell ⟨w.heap.size + 1 + 1, 1, none⟩ (.int .i64 q1)).setCell ⟨w.heap.size + 1 + 1, 2, none⟩ (.int .i64 q2)).setCell ⟨w.heap.size + 1 + 1, 3, none⟩ (.int .i64 q3)).setCell ⟨w.heap.size + 1 + 1, 4, none⟩ (.int .i64 q4) := ⟨_, rfl⟩
  have hA2 : BoxC V w.heap.size [.int .i64 q0, .int .i64 q1, .int .i64 q2, .int .i64 q3, .int .i64 q4, .int .i64 q5, .string q6, .string q7, .int .i64 q8, .string q9] := by rw [hV]; exact ((((hA1.other ⟨w.heap.size + 1 + 1, 1, none⟩ (.int .i64 q1) (by simp <;> omega)).other ⟨w.heap.size + 1 + 1, 2, none⟩ (.int .i64 q2) (by simp <;> omega)).other ⟨w.heap.size + 1 + 1, 3, none⟩ (.int .i64 q3) (by simp <;> omega)).other ⟨w.heap.size + 1 + 1, 4, none⟩ (.int .i64 q4) (by simp <;> omega))
  have hB2 : BoxC V (w.heap.size + 1 + 1) [.int .i64 q0, .int .i64 q1, .int .i64 q2, .int .i64 q3, .int .i64 q4, .int .i64 0, .string ⟨#[]⟩, .string ⟨#[]⟩, .int .i64 0, .string ⟨#[]⟩] := by rw [hV]; exact ((((hB1.set (j := 1) (by simp) (.int .i64 q1)).set (j := 2) (by simp) (.int .i64 q2)).set (j := 3) (by simp) (.int .i64 q3)).set (j := 4) (by simp) (.int .i64 q4))
  have hC2 : BoxC V (w.heap.size + 1) [.int .i64 0, .int .i64 0, .int .i64 0, .int .i64 0, .int .i64 0, .int .i64 0, .string ⟨#[]⟩, .string ⟨#[]⟩, .int .i64 0, .string ⟨#[]⟩] := by rw [hV]; exact ((((hC1.other ⟨w.heap.size + 1 + 1, 1, none⟩ (.int .i64 q1) (by simp <;> omega)).other ⟨w.heap.size + 1 + 1, 2, none⟩ (.int .i64 q2) (by simp <;> omega)).other ⟨w.heap.size + 1 + 1, 3, none⟩ (.int .i64 q3) (by simp <;> omega)).other ⟨w.heap.size + 1 + 1, 4, none⟩ (.int .i64 q4) (by simp <;> omega))
  have hb2 : Below w.heap.size w V := by rw [hV]; exact ((((hb1.setCell (p := ⟨w.heap.size + 1 + 1, 1, none⟩) (by dsimp only; omega) (.int .i64 q1)).setCell (p := ⟨w.heap.size + 1 + 1, 2, none⟩) (by dsimp only; omega) (.int .i64 q2)).setCell (p := ⟨w.heap.size + 1 + 1, 3, none⟩) (by dsimp only; omega) (.int .i64 q3)).setCell (p := ⟨w.heap.size + 1 + 1, 4, none⟩) (by dsimp only; omega) (.int .i64 q4))
  have HA := Lib.hid hA2
  have HB := Lib.hid hB2
  have HC := Lib.hid hC2
  have HW := Lib.hid hb2
  clear hA1 hB1 hC1 hb1 hA2 hB2 hC2 hb2
  go_wp2_with fail
  rw [← hV]
  clear hV a5 a6 b1 f1 b2 f2 b3 f3 b4 f4
  have hA := HA.out
  have hB := HB.out
  have hC := HC.out
  have hb0 := HW.out
  clear HA HB HC HW
  refine (toTerm_any q5 q6 _).mono ?_
  rintro e w2 ⟨rfl, hb⟩
  have hA1 := hA.below hb
  have hB1 := hB.below hb
  have hC1 := hC.below hb
  have hb1 := hb0.trans (hb.mono hb0.size)
  clear hb hA hB hC hb0
  have a7 := hA1.cell 7 _ rfl
  have a8 := hA1.cell 8 _ rfl
  have a9 := hA1.cell 9 _ rfl
  have b5 := hB1.cell 5 _ rfl
  have f5 := hB1.free 5
  have b6 := hB1.cell 6 _ rfl
  have f6 := hB1.free 6
  obtain ⟨V, hV⟩ : ∃ V, V = (w2.setCell ⟨w.heap.size + 1 + 1, 5, none⟩ (.int .i64 q5)).setCell ⟨w.heap.size + 1 + 1, 6, none⟩ (.string q6) := ⟨_, rfl⟩
  have hA2 : BoxC V w.heap.size [.int .i64 q0, .int .i64 q1, .int .i64 q2, .int .i64 q3, .int .i64 q4, .int .i64 q5, .string q6, .string q7, .int .i64 q8, .string q9] := by rw [hV]; exact ((hA1.other ⟨w.heap.size + 1 + 1, 5, none⟩ (.int .i64 q5) (by simp <;> omega)).other ⟨w.heap.size + 1 + 1, 6, none⟩ (.string q6) (by simp <;> omega))
  have hB2 : BoxC V (w.heap.size + 1 + 1) [.int .i64 q0, .int .i64 q1, .int .i64 q2, .int .i64 q3, .int .i64 q4, .int .i64 q5, .string q6, .string ⟨#[]⟩, .int .i64 0, .string ⟨#[]⟩] := by rw [hV]; exact ((hB1.set (j := 5) (by simp) (.int .i64 q5)).set (j := 6) (by simp) (.string q6))
  have hC2 : BoxC V (w.heap.size + 1) [.int .i64 0, .int .i64 0, .int .i64 0, .int .i64 0, .int .i64 0, .int .i64 0, .string ⟨#[]⟩, .string ⟨#[]⟩, .int .i64 0, .string ⟨#[]⟩] := by rw [hV]; exact ((hC1.other ⟨w.heap.size + 1 + 1, 5, none⟩ (.int .i64 q5) (by simp <;> omega)).other ⟨w.heap.size + 1 + 1, 6, none⟩ (.string q6) (by simp <;> omega))
  have hb2 : Below w.heap.size w V := by rw [hV]; exact ((hb1.setCell (p := ⟨w.heap.size + 1 + 1, 5, none⟩) (by dsimp only; omega) (.int .i64 q5)).setCell (p := ⟨w.heap.size + 1 + 1, 6, none⟩) (by dsimp only; omega) (.string q6))
  have HA := Lib.hid hA2
  have HB := Lib.hid hB2
  have HC := Lib.hid hC2
  have HW := Lib.hid hb2
  clear hA1 hB1 hC1 hb1 hA2 hB2 hC2 hb2
  go_wp2_with fail
  rw [← hV]
  clear hV a7 a8 a9 b5 f5 b6 f6
  have hA := HA.out
  have hB := HB.out
  have hC := HC.out
  have hb0 := HW.out
  clear HA HB HC HW
  refine (toItem_any q7 q8 q9 _).mono ?_
  rintro e w3 ⟨rfl, hb⟩
  have hA1 := hA.below hb
  have hB1 := hB.below hb
  have hC1 := hC.below hb
  have hb1 := hb0.trans (hb.mono hb0.size)
  clear hb hA hB hC hb0
  have b7 := hB1.cell 7 _ rfl
  have f7 := hB1.free 7
  have b8 := hB1.cell 8 _ rfl
  have f8 := hB1.free 8
  have b9 := hB1.cell 9 _ rfl
  have f9 := hB1.free 9
  obtain ⟨V, hV⟩ : ∃ V, V = ((w3.setCell ⟨w.heap.size + 1 + 1, 7, none⟩ (.string q7)).setCell ⟨w.heap.size + 1 + 1, 8, none⟩ (.int .i64 q8)).setCell ⟨w.heap.size + 1 + 1, 9, none⟩ (.string q9) := ⟨_, rfl⟩
  have hA2 : BoxC V w.heap.size [.int .i64 q0, .int .i64 q1, .int .i64 q2, .int .i64 q3, .int .i64 q4, .int .i64 q5, .string q6, .string q7, .int .i64 q8, .string q9] := by rw [hV]; exact (((hA1.other ⟨w.heap.size + 1 + 1, 7, none⟩ (.string q7) (by simp <;> omega)).other ⟨w.heap.size + 1 + 1, 8, none⟩ (.int .i64 q8) (by simp <;> omega)).other ⟨w.heap.size + 1 + 1, 9, none⟩ (.string q9) (by simp <;> omega))
  have hB2 : BoxC V (w.heap.size + 1 + 1) [.int .i64 q0, .int .i64 q1, .int .i64 q2, .int .i64 q3, .int .i64 q4, .int .i64 q5, .string q6, .string q7, .int .i64 q8, .string q9] := by rw [hV]; exact (((hB1.set (j := 7) (by simp) (.string q7)).set (j := 8) (by simp) (.int .i64 q8)).set (j := 9) (by simp) (.string q9))
  have hC2 : BoxC V (w.heap.size + 1) [.int .i64 0, .int .i64 0, .int .i64 0, .int .i64 0, .int .i64 0, .int .i64 0, .string ⟨#[]⟩, .string ⟨#[]⟩, .int .i64 0, .string ⟨#[]⟩] := by rw [hV]; exact (((hC1.other ⟨w.heap.size + 1 + 1, 7, none⟩ (.string q7) (by simp <;> omega)).other ⟨w.heap.size + 1 + 1, 8, none⟩ (.int .i64 q8) (by simp <;> omega)).other ⟨w.heap.size + 1 + 1, 9, none⟩ (.string q9) (by simp <;> omega))
  have hb2 : Below w.heap.size w V := by rw [hV]; exact (((hb1.setCell (p := ⟨w.heap.size + 1 + 1, 7, none⟩) (by dsimp only; omega) (.string q7)).setCell (p := ⟨w.heap.size + 1 + 1, 8, none⟩) (by dsimp only; omega) (.int .i64 q8)).setCell (p := ⟨w.heap.size + 1 + 1, 9, none⟩) (by dsimp only; omega) (.string q9))
  have c0 := hB1.cell 0 _ rfl
  have c1 := hB1.cell 1 _ rfl
  have c2 := hB1.cell 2 _ rfl
  have c3 := hB1.cell 3 _ rfl
  have c4 := hB1.cell 4 _ rfl
  have c5 := hB1.cell 5 _ rfl
  have c6 := hB1.cell 6 _ rfl
  have d0 := hC1.cell 0 _ rfl
  have e0 := hC1.free 0
  have d1 := hC1.cell 1 _ rfl
  have e1 := hC1.free 1
  have d2 := hC1.cell 2 _ rfl
  have e2 := hC1.free 2
  have d3 := hC1.cell 3 _ rfl
  have e3 := hC1.free 3
  have d4 := hC1.cell 4 _ rfl
  have e4 := hC1.free 4
  have d5 := hC1.cell 5 _ rfl
  have e5 := hC1.free 5
  have d6 := hC1.cell 6 _ rfl
  have e6 := hC1.free 6
  have d7 := hC1.cell 7 _ rfl
  have e7 := hC1.free 7
  have d8 := hC1.cell 8 _ rfl
  have e8 := hC1.free 8
  have d9 := hC1.cell 9 _ rfl
  have e9 := hC1.free 9
  have HA := Lib.hid hA2
  have HB := Lib.hid hB2
  have HC := Lib.hid hC2
  have HW := Lib.hid hb2
  clear hA1 hB1 hC1 hb1 hA2 hB2 hC2 hb2
  go_wp2_with fail
  obtain ⟨X, hX⟩ : ∃ X, X = (((((((((V.setCell ⟨w.heap.size + 1, 0, none⟩ (.int .i64 q0)).setCell ⟨w.heap.size + 1, 1, none⟩ (.int .i64 q1)).setCell ⟨w.heap.size + 1, 2, none⟩ (.int .i64 q2)).setCell ⟨w.heap.size + 1, 3, none⟩ (.int .i64 q3)).setCell ⟨w.heap.size + 1, 4, none⟩ (.int .i64 q4)).setCell ⟨w.heap.size + 1, 5, none⟩ (.int .i64 q5)).setCell ⟨w.heap.size + 1, 6, none⟩ (.string q6)).setCell ⟨w.heap.size + 1, 7, none⟩ (.string q7)).setCell ⟨w.heap.size + 1, 8, none⟩ (.int .i64 q8)).setCell ⟨w.heap.size + 1, 9, none⟩ (.string q9) := ⟨_, rfl⟩
  have hC3 : BoxC X (w.heap.size + 1) [.int .i64 q0, .int .i64 q1, .int .i64 q2, .int .i64 q3, .int .i64 q4, .int .i64 q5, .string q6, .string q7, .int .i64 q8, .string q9] := by rw [hX]; exact ((((((((((HC.out.set (j := 0) (by simp) (.int .i64 q0)).set (j := 1) (by simp) (.int .i64 q1)).set (j := 2) (by simp) (.int .i64 q2)).set (j := 3) (by simp) (.int .i64 q3)).set (j := 4) (by simp) (.int .i64 q4)).set (j := 5) (by simp) (.int .i64 q5)).set (j := 6) (by simp) (.string q6)).set (j := 7) (by simp) (.string q7)).set (j := 8) (by simp) (.int .i64 q8)).set (j := 9) (by simp) (.string q9))
  have HX : Hid (Below w.heap.size w X) := Lib.hid (by rw [hX]; exact ((((((((((HW.out.setCell (p := ⟨w.heap.size + 1, 0, none⟩) (by dsimp only; omega) (.int .i64 q0)).setCell (p := ⟨w.heap.size + 1, 1, none⟩) (by dsimp only; omega) (.int .i64 q1)).setCell (p := ⟨w.heap.size + 1, 2, none⟩) (by dsimp only; omega) (.int .i64 q2)).setCell (p := ⟨w.heap.size + 1, 3, none⟩) (by dsimp only; omega) (.int .i64 q3)).setCell (p := ⟨w.heap.size + 1, 4, none⟩) (by dsimp only; omega) (.int .i64 q4)).setCell (p := ⟨w.heap.size + 1, 5, none⟩) (by dsimp only; omega) (.int .i64 q5)).setCell (p := ⟨w.heap.size + 1, 6, none⟩) (by dsimp only; omega) (.string q6)).setCell (p := ⟨w.heap.size + 1, 7, none⟩) (by dsimp only; omega) (.string q7)).setCell (p := ⟨w.heap.size + 1, 8, none⟩) (by dsimp only; omega) (.int .i64 q8)).setCell (p := ⟨w.heap.size + 1, 9, none⟩) (by dsimp only; omega) (.string q9)))
  rw [hV] at hX
  rw [← hX]
  have g0 := hC3.cell 0 _ rfl
  have g1 := hC3.cell 1 _ rfl
  have g2 := hC3.cell 2 _ rfl
  have g3 := hC3.cell 3 _ rfl
  have g4 := hC3.cell 4 _ rfl
  have g5 := hC3.cell 5 _ rfl
  have g6 := hC3.cell 6 _ rfl
  have g7 := hC3.cell 7 _ rfl
  have g8 := hC3.cell 8 _ rfl
  have g9 := hC3.cell 9 _ rfl
  clear hX hV hC3 HA HB HC HW d0 e0 d1 e1 d2 e2 d3 e3 d4 e4 d5 e5 d6 e6 d7 e7 d8 e8 d9 e9 c0 c1 c2 c3 c4 c5 c6 b7 f7 b8 f8 b9 f9
  exact bodyPost_ret (v := .agg #[.int .i64 q0, .int .i64 q1, .int .i64 q2, .int .i64 q3, .int .i64 q4, .int .i64 q5, .string q6, .string q7, .int .i64 q8, .string q9]) (by simp [results, Tryz.results8, go_sem, g0, g1, g2, g3, g4, g5, g6, g7, g8, g9]) rfl ⟨rfl, HX.out⟩
end Go.Proofs.YtnoefpkhbllmiaaGreat
