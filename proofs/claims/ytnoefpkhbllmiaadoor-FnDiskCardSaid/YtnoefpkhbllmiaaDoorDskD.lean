/- The disk: Sync and Crash, the program's and the model's; the model's Append. -/
import Derived.Test.YtnoefpkhbllmiaaDoorDskC
namespace Go.Proofs.YtnoefpkhbllmiaaDoor
open Go.RowKit Go.PlainAid G
set_option linter.unusedVariables false
/-- A disk in a block of its own. -/
structure DkBox (w : World) (b : Nat) (s t : ByteArray) : Prop where
  lt : b < w.heap.size
  c0 : w.cell? ⟨b, 0, none⟩ = some (.string s)
  c1 : w.cell? ⟨b, 1, none⟩ = some (.string t)
theorem DkBox.below {w w' : World} {b : Nat} {s t : ByteArray} (h : DkBox w b s t) (hb : Below w.heap.size w w') : DkBox w' b s t :=
  ⟨Nat.lt_of_lt_of_le h.lt hb.size, (hb.cell (p := ⟨b, 0, none⟩) h.lt).trans h.c0, (hb.cell (p := ⟨b, 1, none⟩) h.lt).trans h.c1⟩
structure DkFree (w : World) (b : Nat) : Prop where
  f0 : w.frozen? ⟨b, 0, none⟩ = false
  f1 : w.frozen? ⟨b, 1, none⟩ = false
theorem DkFree.below {w w' : World} {b : Nat} (h : DkFree w b) (hl : b < w.heap.size) (hb : Below w.heap.size w w') : DkFree w' b :=
  ⟨(hb.frozen (p := ⟨b, 0, none⟩) hl).trans h.f0, (hb.frozen (p := ⟨b, 1, none⟩) hl).trans h.f1⟩
theorem dkSync_no {s t : ByteArray} (h : ¬ s.size + t.size ≤ 3000) : dkSync s t = (s, t) := if_pos (by omega)
theorem dkSync_yes {s t : ByteArray} (h : s.size + t.size ≤ 3000) : dkSync s t = (s ++ t, ⟨#[]⟩) := if_neg (by omega)
theorem dkCrash_no {s t : ByteArray} {k : Int} (h : ¬ s.size + t.size ≤ 3000) : dkCrash s t k = (s, t) := if_pos (by omega)
theorem dkCrash_yes {s t : ByteArray} {k : Int} (h : s.size + t.size ≤ 3000) : dkCrash s t k = (s ++ t.extract 0 (dkKeep t k), ⟨#[]⟩) := if_neg (by omega)
theorem BS.none {w : World} {base : Nat} : BS w base none 0 0 ⟨#[]⟩ := ⟨rfl, Nat.le_refl _, .inl ⟨rfl, rfl⟩⟩

set_option maxRecDepth 100000 in
set_option maxHeartbeats 1600000 in
theorem implSync_any (s t : ByteArray) (w : World) (h : s.size + t.size ≤ 1048576) :
    Calls Tryd.prog 9 #[.agg #[.string s, .string t]] w fun e w' => e = .returned (dkV (dkSync s t)) ∧ Below w.heap.size w w' := by
  obtain ⟨W, hW⟩ : ∃ W, W = (w.alloc (.cells #[.string s, .string t] 24)).alloc (.cells #[.string ⟨#[]⟩, .string ⟨#[]⟩] 24) := ⟨_, rfl⟩
  have HB0 := Lib.hid (show Below w.heap.size w W by rw [hW]; exact ((Below.refl _ _).alloc (Nat.le_refl _) _).alloc (by simp) _)
  have HX := Lib.hid (show DkBox W w.heap.size s t by rw [hW]; exact ⟨by simp; omega, by simp, by simp⟩)
  have HY := Lib.hid (show DkBox W (w.heap.size + 1) ⟨#[]⟩ ⟨#[]⟩ by rw [hW]; exact ⟨by simp, by simp, by simp⟩)
  have HZ := Lib.hid (show DkFree W (w.heap.size + 1) by rw [hW]; exact ⟨by simp, by simp⟩)
  have x0 := (HX.out).c0
  have x1 := (HX.out).c1
  go_enter Tryd.func9, Tryd.ntmps9
  go_wp2_with fail
  rw [← hW]
  clear hW
  refine (laidOut_any s t _ (by omega)).mono ?_
  rintro e w1 ⟨a, b, rfl, hs, ht, hb⟩
  have HNA : Hid (∀ g o, a = some ⟨g, o, none⟩ → g < w1.heap.size) := Lib.hid (fun g o hg => by
    rcases hs.2.2 with ⟨rfl, _⟩ | ⟨g3, o3, rfl, _, h3, _⟩
    · cases hg
    · cases hg; exact h3)
  obtain ⟨V, hV⟩ : ∃ V, V = w1.alloc (.cells #[.slice a s.size s.size, .slice b t.size t.size] 54) := ⟨_, rfl⟩
  have hb1 : Below w1.heap.size w1 V := by rw [hV]; exact (Below.refl _ _).alloc (Nat.le_refl _) _
  have HBV := Lib.hid (hb.trans (hb1.mono hb.size))
  have HS := Lib.hid (hs.below hb1)
  have HT := Lib.hid (ht.below hb1)
  have hsz := HY.out.lt
  have HL := Lib.hid (show V.cell? ⟨w1.heap.size, 0, none⟩ = some (.slice a s.size s.size) ∧ V.cell? ⟨w1.heap.size, 1, none⟩ = some (.slice b t.size t.size) ∧ V.frozen? ⟨w1.heap.size, 0, none⟩ = false ∧ V.frozen? ⟨w1.heap.size, 1, none⟩ = false ∧ w1.heap.size < V.heap.size ∧ W.heap.size ≤ w1.heap.size by rw [hV]; exact ⟨by simp, by simp, by simp, by simp, by simp, hb.size⟩)
  have hlx : w.heap.size < w1.heap.size := Nat.lt_of_lt_of_le HX.out.lt hb.size
  have y0 := (hb.cell (p := ⟨w.heap.size, 0, none⟩) HX.out.lt).trans x0
  have y1 := (hb.cell (p := ⟨w.heap.size, 1, none⟩) HX.out.lt).trans x1
  clear hb hb1 hs ht x0 x1
  go_wp2_with fail
  rw [← hV]
  clear hV y0 y1 hlx
  refine (implDiskRight_any s t _ (by omega)).mono ?_
  rintro e w2 ⟨rfl, hb⟩
  have HB2 := Lib.hid (HBV.out.trans (hb.mono HBV.out.size))
  have HS2 := Lib.hid (HS.out.below hb)
  have HT2 := Lib.hid (HT.out.below hb)
  obtain ⟨l0, l1, l2, l3, l4, l5⟩ := HL.out
  have m0 := (hb.cell (p := ⟨w1.heap.size, 0, none⟩) l4).trans l0
  have m1 := (hb.cell (p := ⟨w1.heap.size, 1, none⟩) l4).trans l1
  have n0 := (hb.frozen (p := ⟨w1.heap.size, 0, none⟩) l4).trans l2
  have n1 := (hb.frozen (p := ⟨w1.heap.size, 1, none⟩) l4).trans l3
  have hl2 : w1.heap.size < w2.heap.size := Nat.lt_of_lt_of_le l4 hb.size
  have HL5 := Lib.hid l5
  clear hb l0 l1 l2 l3 l4 l5 HS HT HL
  by_cases h1 : s.size + t.size ≤ 3000
  · have HF := Lib.hid (dkSync_yes h1)
    rw [decide_eq_true h1]
    go_wp2_with fail
    refine (synced_any s t a b W.heap.size _ _ _ HS2.out HT2.out HB2.out.size (by omega)).mono ?_
    rintro e w4 ⟨a', c', rfl, hs, hb, hw⟩
    have HN4 : Hid (∀ g o, a' = some ⟨g, o, none⟩ → g ≠ w1.heap.size) := Lib.hid (fun g o hg => by
      rcases hw with rfl | ⟨g2, rfl, h2⟩
      · exact Nat.ne_of_lt (HNA.out g o hg)
      · cases hg; exact Nat.ne_of_gt (Nat.lt_of_lt_of_le hl2 h2))
    have HS4 := Lib.hid hs
    have HB4 := Lib.hid (HB2.out.trans (hb.mono HB2.out.size))
    have m0 := (hb.cell (p := ⟨w1.heap.size, 0, none⟩) hl2).trans m0
    have m1 := (hb.cell (p := ⟨w1.heap.size, 1, none⟩) hl2).trans m1
    have n0 := (hb.frozen (p := ⟨w1.heap.size, 0, none⟩) hl2).trans n0
    have n1 := (hb.frozen (p := ⟨w1.heap.size, 1, none⟩) hl2).trans n1
    have hl4 : w1.heap.size < w4.heap.size := Nat.lt_of_lt_of_le hl2 hb.size
    clear hb hs hw hl2
    go_wp2_with fail
    obtain ⟨X, hX⟩ : ∃ X, X = (w4.setCell ⟨w1.heap.size, 0, none⟩ (.slice a' (s.size + t.size) c')).setCell ⟨w1.heap.size, 1, none⟩ (.slice none 0 0) := ⟨_, rfl⟩
    have HBX := Lib.hid (show Below W.heap.size W X by rw [hX]; exact (HB4.out.setCell (p := ⟨w1.heap.size, 0, none⟩) HL5.out _).setCell (p := ⟨w1.heap.size, 1, none⟩) HL5.out _)
    have HSX := Lib.hid (show BS X W.heap.size a' (s.size + t.size) c' (s ++ t) by rw [hX]; exact (HS4.out.other _ _ HN4.out).other _ _ HN4.out)
    rw [← hX]
    clear hX m0 m1 n0 n1
    refine (told_any (s ++ t) ⟨#[]⟩ a' none W.heap.size _ _ 0 0 _ HSX.out BS.none).mono ?_
    rintro e w5 ⟨rfl, hb⟩
    have HB5 := Lib.hid (HBX.out.trans (hb.mono HBX.out.size))
    clear hb
    have r0 := (HY.out.below HB5.out).c0
    have r1 := (HY.out.below HB5.out).c1
    have f0 := (HZ.out.below HY.out.lt HB5.out).f0
    have f1 := (HZ.out.below HY.out.lt HB5.out).f1
    have hlt := (HY.out.below HB5.out).lt
    unfold dkV
    dsimp only
    go_wp2_with fail
    refine bodyPost_ret (v := .agg #[.string (s ++ t), .string ⟨#[]⟩]) (by simp [results, Tryd.results9, go_sem, hlt, r0, r1]) rfl ⟨by rw [HF.out]; rfl, ?_⟩
    exact HB0.out.trans (((HB5.out.mono HB0.out.size).setCell (p := ⟨w.heap.size + 1, 0, none⟩) (by simp) _).setCell (p := ⟨w.heap.size + 1, 1, none⟩) (by simp) _)
  · have HF := Lib.hid (dkSync_no h1)
    rw [decide_eq_false h1]
    clear h1
    go_wp2_with fail
    refine (told_any s t a b W.heap.size _ _ _ _ _ HS2.out HT2.out).mono ?_
    rintro e w5 ⟨rfl, hb⟩
    have HB5 := Lib.hid (HB2.out.trans (hb.mono HB2.out.size))
    clear hb m0 m1 n0 n1
    have r0 := (HY.out.below HB5.out).c0
    have r1 := (HY.out.below HB5.out).c1
    have f0 := (HZ.out.below HY.out.lt HB5.out).f0
    have f1 := (HZ.out.below HY.out.lt HB5.out).f1
    have hlt := (HY.out.below HB5.out).lt
    unfold dkV
    dsimp only
    go_wp2_with fail
    refine bodyPost_ret (v := .agg #[.string (s), .string t]) (by simp [results, Tryd.results9, go_sem, hlt, r0, r1]) rfl ⟨by rw [HF.out]; rfl, ?_⟩
    exact HB0.out.trans (((HB5.out.mono HB0.out.size).setCell (p := ⟨w.heap.size + 1, 0, none⟩) (by simp) _).setCell (p := ⟨w.heap.size + 1, 1, none⟩) (by simp) _)
set_option maxRecDepth 100000 in
set_option maxHeartbeats 1600000 in
theorem implCrash_any (s t : ByteArray) (k : Int) (w : World) (h : s.size + t.size ≤ 1048576) :
    Calls Tryd.prog 8 #[.agg #[.string s, .string t], .int .i64 k] w fun e w' => e = .returned (dkV (dkCrash s t k)) ∧ Below w.heap.size w w' := by
  obtain ⟨W, hW⟩ : ∃ W, W = (w.alloc (.cells #[.string s, .string t] 24)).alloc (.cells #[.string ⟨#[]⟩, .string ⟨#[]⟩] 24) := ⟨_, rfl⟩
  have HB0 := Lib.hid (show Below w.heap.size w W by rw [hW]; exact ((Below.refl _ _).alloc (Nat.le_refl _) _).alloc (by simp) _)
  have HX := Lib.hid (show DkBox W w.heap.size s t by rw [hW]; exact ⟨by simp; omega, by simp, by simp⟩)
  have HY := Lib.hid (show DkBox W (w.heap.size + 1) ⟨#[]⟩ ⟨#[]⟩ by rw [hW]; exact ⟨by simp, by simp, by simp⟩)
  have HZ := Lib.hid (show DkFree W (w.heap.size + 1) by rw [hW]; exact ⟨by simp, by simp⟩)
  have x0 := (HX.out).c0
  have x1 := (HX.out).c1
  go_enter Tryd.func8, Tryd.ntmps8
  go_wp2_with fail
  rw [← hW]
  clear hW
  refine (laidOut_any s t _ (by omega)).mono ?_
  rintro e w1 ⟨a, b, rfl, hs, ht, hb⟩
  have HNA : Hid (∀ g o, a = some ⟨g, o, none⟩ → g < w1.heap.size) := Lib.hid (fun g o hg => by
    rcases hs.2.2 with ⟨rfl, _⟩ | ⟨g3, o3, rfl, _, h3, _⟩
    · cases hg
    · cases hg; exact h3)
  obtain ⟨V, hV⟩ : ∃ V, V = w1.alloc (.cells #[.slice a s.size s.size, .slice b t.size t.size] 54) := ⟨_, rfl⟩
  have hb1 : Below w1.heap.size w1 V := by rw [hV]; exact (Below.refl _ _).alloc (Nat.le_refl _) _
  have HBV := Lib.hid (hb.trans (hb1.mono hb.size))
  have HS := Lib.hid (hs.below hb1)
  have HT := Lib.hid (ht.below hb1)
  have hsz := HY.out.lt
  have HL := Lib.hid (show V.cell? ⟨w1.heap.size, 0, none⟩ = some (.slice a s.size s.size) ∧ V.cell? ⟨w1.heap.size, 1, none⟩ = some (.slice b t.size t.size) ∧ V.frozen? ⟨w1.heap.size, 0, none⟩ = false ∧ V.frozen? ⟨w1.heap.size, 1, none⟩ = false ∧ w1.heap.size < V.heap.size ∧ W.heap.size ≤ w1.heap.size by rw [hV]; exact ⟨by simp, by simp, by simp, by simp, by simp, hb.size⟩)
  have hlx : w.heap.size < w1.heap.size := Nat.lt_of_lt_of_le HX.out.lt hb.size
  have y0 := (hb.cell (p := ⟨w.heap.size, 0, none⟩) HX.out.lt).trans x0
  have y1 := (hb.cell (p := ⟨w.heap.size, 1, none⟩) HX.out.lt).trans x1
  clear hb hb1 hs ht x0 x1
  go_wp2_with fail
  rw [← hV]
  clear hV y0 y1 hlx
  refine (implDiskRight_any s t _ (by omega)).mono ?_
  rintro e w2 ⟨rfl, hb⟩
  have HB2 := Lib.hid (HBV.out.trans (hb.mono HBV.out.size))
  have HS2 := Lib.hid (HS.out.below hb)
  have HT2 := Lib.hid (HT.out.below hb)
  obtain ⟨l0, l1, l2, l3, l4, l5⟩ := HL.out
  have m0 := (hb.cell (p := ⟨w1.heap.size, 0, none⟩) l4).trans l0
  have m1 := (hb.cell (p := ⟨w1.heap.size, 1, none⟩) l4).trans l1
  have n0 := (hb.frozen (p := ⟨w1.heap.size, 0, none⟩) l4).trans l2
  have n1 := (hb.frozen (p := ⟨w1.heap.size, 1, none⟩) l4).trans l3
  have hl2 : w1.heap.size < w2.heap.size := Nat.lt_of_lt_of_le l4 hb.size
  have HL5 := Lib.hid l5
  clear hb l0 l1 l2 l3 l4 l5 HS HT HL
  by_cases h1 : s.size + t.size ≤ 3000
  · have HF := Lib.hid (dkCrash_yes (k := k) h1)
    rw [decide_eq_true h1]
    have hkl : dkKeep t k ≤ t.size := by unfold dkKeep; omega
    go_wp2_with fail
    refine (torn_any s t a b W.heap.size _ _ k _ HS2.out HT2.out).mono ?_
    rintro e w3 ⟨rfl, ht, hb⟩
    have HS3 := Lib.hid (HS2.out.below hb)
    have HT3 := Lib.hid ht
    have HB3 := Lib.hid (HB2.out.trans (hb.mono HB2.out.size))
    have m0 := (hb.cell (p := ⟨w1.heap.size, 0, none⟩) hl2).trans m0
    have m1 := (hb.cell (p := ⟨w1.heap.size, 1, none⟩) hl2).trans m1
    have n0 := (hb.frozen (p := ⟨w1.heap.size, 0, none⟩) hl2).trans n0
    have n1 := (hb.frozen (p := ⟨w1.heap.size, 1, none⟩) hl2).trans n1
    have hl2 : w1.heap.size < w3.heap.size := Nat.lt_of_lt_of_le hl2 hb.size
    clear hb ht
    go_wp2_with fail
    refine (synced_any s (t.extract 0 (dkKeep t k)) a b W.heap.size _ _ _ HS3.out HT3.out HB3.out.size (by omega)).mono ?_
    rintro e w4 ⟨a', c', rfl, hs, hb, hw⟩
    have HN4 : Hid (∀ g o, a' = some ⟨g, o, none⟩ → g ≠ w1.heap.size) := Lib.hid (fun g o hg => by
      rcases hw with rfl | ⟨g2, rfl, h2⟩
      · exact Nat.ne_of_lt (HNA.out g o hg)
      · cases hg; exact Nat.ne_of_gt (Nat.lt_of_lt_of_le hl2 h2))
    have HS4 := Lib.hid hs
    have HB4 := Lib.hid (HB3.out.trans (hb.mono HB3.out.size))
    have m0 := (hb.cell (p := ⟨w1.heap.size, 0, none⟩) hl2).trans m0
    have m1 := (hb.cell (p := ⟨w1.heap.size, 1, none⟩) hl2).trans m1
    have n0 := (hb.frozen (p := ⟨w1.heap.size, 0, none⟩) hl2).trans n0
    have n1 := (hb.frozen (p := ⟨w1.heap.size, 1, none⟩) hl2).trans n1
    have hl4 : w1.heap.size < w4.heap.size := Nat.lt_of_lt_of_le hl2 hb.size
    clear hb hs hw hl2
    go_wp2_with fail
    obtain ⟨X, hX⟩ : ∃ X, X = (w4.setCell ⟨w1.heap.size, 0, none⟩ (.slice a' (s.size + dkKeep t k) c')).setCell ⟨w1.heap.size, 1, none⟩ (.slice none 0 0) := ⟨_, rfl⟩
    have HBX := Lib.hid (show Below W.heap.size W X by rw [hX]; exact (HB4.out.setCell (p := ⟨w1.heap.size, 0, none⟩) HL5.out _).setCell (p := ⟨w1.heap.size, 1, none⟩) HL5.out _)
    have HSX := Lib.hid (show BS X W.heap.size a' (s.size + dkKeep t k) c' (s ++ (t.extract 0 (dkKeep t k))) by rw [hX]; exact (HS4.out.other _ _ HN4.out).other _ _ HN4.out)
    rw [← hX]
    clear hX m0 m1 n0 n1
    refine (told_any (s ++ (t.extract 0 (dkKeep t k))) ⟨#[]⟩ a' none W.heap.size _ _ 0 0 _ HSX.out BS.none).mono ?_
    rintro e w5 ⟨rfl, hb⟩
    have HB5 := Lib.hid (HBX.out.trans (hb.mono HBX.out.size))
    clear hb
    have r0 := (HY.out.below HB5.out).c0
    have r1 := (HY.out.below HB5.out).c1
    have f0 := (HZ.out.below HY.out.lt HB5.out).f0
    have f1 := (HZ.out.below HY.out.lt HB5.out).f1
    have hlt := (HY.out.below HB5.out).lt
    unfold dkV
    dsimp only
    go_wp2_with fail
    refine bodyPost_ret (v := .agg #[.string (s ++ (t.extract 0 (dkKeep t k))), .string ⟨#[]⟩]) (by simp [results, Tryd.results8, go_sem, hlt, r0, r1]) rfl ⟨by rw [HF.out]; rfl, ?_⟩
    exact HB0.out.trans (((HB5.out.mono HB0.out.size).setCell (p := ⟨w.heap.size + 1, 0, none⟩) (by simp) _).setCell (p := ⟨w.heap.size + 1, 1, none⟩) (by simp) _)
  · have HF := Lib.hid (dkCrash_no (k := k) h1)
    rw [decide_eq_false h1]
    clear h1
    go_wp2_with fail
    refine (told_any s t a b W.heap.size _ _ _ _ _ HS2.out HT2.out).mono ?_
    rintro e w5 ⟨rfl, hb⟩
    have HB5 := Lib.hid (HB2.out.trans (hb.mono HB2.out.size))
    clear hb m0 m1 n0 n1
    have r0 := (HY.out.below HB5.out).c0
    have r1 := (HY.out.below HB5.out).c1
    have f0 := (HZ.out.below HY.out.lt HB5.out).f0
    have f1 := (HZ.out.below HY.out.lt HB5.out).f1
    have hlt := (HY.out.below HB5.out).lt
    unfold dkV
    dsimp only
    go_wp2_with fail
    refine bodyPost_ret (v := .agg #[.string (s), .string t]) (by simp [results, Tryd.results8, go_sem, hlt, r0, r1]) rfl ⟨by rw [HF.out]; rfl, ?_⟩
    exact HB0.out.trans (((HB5.out.mono HB0.out.size).setCell (p := ⟨w.heap.size + 1, 0, none⟩) (by simp) _).setCell (p := ⟨w.heap.size + 1, 1, none⟩) (by simp) _)
theorem l01Max_any (a b : Int) (w : World) :
    Calls Tryd.prog 31 #[.int .i64 a, .int .i64 b] w fun e w' => e = .returned (.int .i64 (max a b)) ∧ w = w' := by
  by_cases h : b < a
  · go_enter Tryd.func31, Tryd.ntmps31
    go_wp2
    go_ret
    exact ⟨ret_int (by omega), rfl⟩
  · go_enter Tryd.func31, Tryd.ntmps31
    go_wp2
    go_ret
    exact ⟨ret_int (by omega), rfl⟩
theorem l01Min_any (a b : Int) (w : World) :
    Calls Tryd.prog 30 #[.int .i64 a, .int .i64 b] w fun e w' => e = .returned (.int .i64 (min a b)) ∧ w = w' := by
  by_cases h : a < b
  · go_enter Tryd.func30, Tryd.ntmps30
    go_wp2
    go_ret
    exact ⟨ret_int (by omega), rfl⟩
  · go_enter Tryd.func30, Tryd.ntmps30
    go_wp2
    go_ret
    exact ⟨ret_int (by omega), rfl⟩
set_option maxRecDepth 100000 in
set_option maxHeartbeats 1600000 in
theorem specSync_any (s t : ByteArray) (w : World) (h : s.size + t.size ≤ 1048576) :
    Calls Tryd.prog 12 #[.agg #[.string s, .string t]] w fun e w' => e = .returned (dkV (dkSync s t)) ∧ Below w.heap.size w w' := by
  obtain ⟨W, hW⟩ : ∃ W, W = (w.alloc (.cells #[.string s, .string t] 24)).alloc (.cells #[.string ⟨#[]⟩, .string ⟨#[]⟩] 24) := ⟨_, rfl⟩
  have HB0 := Lib.hid (show Below w.heap.size w W by rw [hW]; exact ((Below.refl _ _).alloc (Nat.le_refl _) _).alloc (by simp) _)
  have HX := Lib.hid (show DkBox W w.heap.size s t by rw [hW]; exact ⟨by simp; omega, by simp, by simp⟩)
  have HY := Lib.hid (show DkBox W (w.heap.size + 1) ⟨#[]⟩ ⟨#[]⟩ by rw [hW]; exact ⟨by simp, by simp, by simp⟩)
  have HZ := Lib.hid (show DkFree W (w.heap.size + 1) by rw [hW]; exact ⟨by simp, by simp⟩)
  have x0 := (HX.out).c0
  have x1 := (HX.out).c1
  go_enter Tryd.func12, Tryd.ntmps12
  go_wp2_with fail
  rw [← hW]
  clear hW
  refine (specDiskRight_any s t _ (by omega)).mono ?_
  rintro e w1 ⟨rfl, hb⟩
  have HB1 := Lib.hid hb
  clear hb x0 x1
  have x0 := ((HX.out.below HB1.out)).c0
  have x1 := ((HX.out.below HB1.out)).c1
  have r0 := ((HY.out.below HB1.out)).c0
  have r1 := ((HY.out.below HB1.out)).c1
  have f0 := ((HZ.out.below HY.out.lt HB1.out)).f0
  have f1 := ((HZ.out.below HY.out.lt HB1.out)).f1
  have hlt := (HY.out.below HB1.out).lt
  have hlx := (HX.out.below HB1.out).lt
  have hsm : ¬ 9223372036854775807 < s.size + t.size := by omega
  by_cases h1 : s.size + t.size ≤ 3000
  · have HF := Lib.hid (dkSync_yes h1)
    rw [decide_eq_true h1]
    clear h1
    go_wp2_with fail
    refine bodyPost_ret (v := .agg #[.string (s ++ t), .string ⟨#[]⟩]) (by simp [results, Tryd.results12, go_sem, hlt, r0, r1]) rfl ⟨by rw [HF.out]; rfl, ?_⟩
    exact HB0.out.trans (((HB1.out.mono HB0.out.size).setCell (p := ⟨w.heap.size + 1, 0, none⟩) (by simp) _).setCell (p := ⟨w.heap.size + 1, 1, none⟩) (by simp) _)
  · have HF := Lib.hid (dkSync_no h1)
    rw [decide_eq_false h1]
    clear h1
    go_wp2_with fail
    refine bodyPost_ret (v := .agg #[.string (s), .string t]) (by simp [results, Tryd.results12, go_sem, hlt, r0, r1]) rfl ⟨by rw [HF.out]; rfl, ?_⟩
    exact HB0.out.trans (((HB1.out.mono HB0.out.size).setCell (p := ⟨w.heap.size + 1, 0, none⟩) (by simp) _).setCell (p := ⟨w.heap.size + 1, 1, none⟩) (by simp) _)
set_option maxRecDepth 100000 in
set_option maxHeartbeats 1600000 in
theorem specCrash_any (s t : ByteArray) (k : Int) (w : World) (h : s.size + t.size ≤ 1048576) :
    Calls Tryd.prog 11 #[.agg #[.string s, .string t], .int .i64 k] w fun e w' => e = .returned (dkV (dkCrash s t k)) ∧ Below w.heap.size w w' := by
  obtain ⟨W, hW⟩ : ∃ W, W = (w.alloc (.cells #[.string s, .string t] 24)).alloc (.cells #[.string ⟨#[]⟩, .string ⟨#[]⟩] 24) := ⟨_, rfl⟩
  have HB0 := Lib.hid (show Below w.heap.size w W by rw [hW]; exact ((Below.refl _ _).alloc (Nat.le_refl _) _).alloc (by simp) _)
  have HX := Lib.hid (show DkBox W w.heap.size s t by rw [hW]; exact ⟨by simp; omega, by simp, by simp⟩)
  have HY := Lib.hid (show DkBox W (w.heap.size + 1) ⟨#[]⟩ ⟨#[]⟩ by rw [hW]; exact ⟨by simp, by simp, by simp⟩)
  have HZ := Lib.hid (show DkFree W (w.heap.size + 1) by rw [hW]; exact ⟨by simp, by simp⟩)
  have x0 := (HX.out).c0
  have x1 := (HX.out).c1
  go_enter Tryd.func11, Tryd.ntmps11
  go_wp2_with fail
  rw [← hW]
  clear hW
  refine (specDiskRight_any s t _ (by omega)).mono ?_
  rintro e w1 ⟨rfl, hb⟩
  have HB1 := Lib.hid hb
  clear hb x0 x1
  have x0 := ((HX.out.below HB1.out)).c0
  have x1 := ((HX.out.below HB1.out)).c1
  have r0 := ((HY.out.below HB1.out)).c0
  have r1 := ((HY.out.below HB1.out)).c1
  have f0 := ((HZ.out.below HY.out.lt HB1.out)).f0
  have f1 := ((HZ.out.below HY.out.lt HB1.out)).f1
  have hlt := (HY.out.below HB1.out).lt
  have hlx := (HX.out.below HB1.out).lt
  have hsm : ¬ 9223372036854775807 < s.size + t.size := by omega
  by_cases h1 : s.size + t.size ≤ 3000
  · have HF := Lib.hid (dkCrash_yes (k := k) h1)
    rw [decide_eq_true h1]
    clear h1
    go_wp2_with fail
    have hmax : Calls Tryd.prog 31 #[.int .i64 k, .int .i64 0] w1.drew fun e w' => e = .returned (.int .i64 (max k 0)) ∧ w' = w1.drew := (l01Max_any k 0 _).mono (fun e w' ⟨h1, h2⟩ => ⟨h1, h2.symm⟩)
    obtain ⟨j, hj⟩ : ∃ j, j = min (max k 0) (t.size : Int) := ⟨_, rfl⟩
    have hmin : Calls Tryd.prog 30 #[.int .i64 (max k 0), .int .i64 (t.size : Int)] w1.drew fun e w' => e = .returned (.int .i64 j) ∧ w' = w1.drew := (l01Min_any _ _ _).mono (fun e w' ⟨h1, h2⟩ => ⟨by rw [hj]; exact h1, h2.symm⟩)
    have hk0 : (0 : Int) ≤ j := by omega
    have hk1 : j ≤ (t.size : Int) := by omega
    have HK : Hid (j.toNat = dkKeep t k) := Lib.hid (by unfold dkKeep; rw [hj])
    clear hj
    go_still_tail 6, (by kernel_rfl)
    still_call hmax
    repeat still_step
    still_call hmin
    repeat still_step
    refine wpStill_nil ?_
    change wpList _ _ _ _ _ w1.drew
    have HB1 := Lib.hid HB1.out.drew
    clear hmax hmin x0 x1 r0 r1 f0 f1 hlt hlx
    generalize w1.drew = w2 at *

    have x0 := ((HX.out.below HB1.out)).c0
    have x1 := ((HX.out.below HB1.out)).c1
    have r0 := ((HY.out.below HB1.out)).c0
    have r1 := ((HY.out.below HB1.out)).c1
    have f0 := ((HZ.out.below HY.out.lt HB1.out)).f0
    have f1 := ((HZ.out.below HY.out.lt HB1.out)).f1
    have hlt := (HY.out.below HB1.out).lt
    have hlx := (HX.out.below HB1.out).lt
    have hse : (t.extract 0 j.toNat).size ≤ t.size := by rw [ByteArray.size_extract]; omega
    have hsm2 : ¬ 9223372036854775807 < s.size + (t.extract 0 j.toNat).size := by omega
    have hsm3 : ¬ 9223372036854775807 < s.size + j.toNat := by omega
    clear hse
    go_wp2_with fail
    go_still_tail 8, (by kernel_rfl)
    go_wp2_with fail
    rw [HK.out]
    refine bodyPost_ret (v := .agg #[.string (s ++ t.extract 0 (dkKeep t k)), .string ⟨#[]⟩]) (by simp [results, Tryd.results11, go_sem, hlt, r0, r1]) rfl ⟨by rw [HF.out]; rfl, ?_⟩
    exact HB0.out.trans (((HB1.out.mono HB0.out.size).setCell (p := ⟨w.heap.size + 1, 0, none⟩) (by simp) _).setCell (p := ⟨w.heap.size + 1, 1, none⟩) (by simp) _).drew
  · have HF := Lib.hid (dkCrash_no (k := k) h1)
    rw [decide_eq_false h1]
    clear h1
    go_wp2_with fail
    refine bodyPost_ret (v := .agg #[.string (s), .string t]) (by simp [results, Tryd.results11, go_sem, hlt, r0, r1]) rfl ⟨by rw [HF.out]; rfl, ?_⟩
    exact HB0.out.trans (((HB1.out.mono HB0.out.size).setCell (p := ⟨w.heap.size + 1, 0, none⟩) (by simp) _).setCell (p := ⟨w.heap.size + 1, 1, none⟩) (by simp) _)
end Go.Proofs.YtnoefpkhbllmiaaDoor
