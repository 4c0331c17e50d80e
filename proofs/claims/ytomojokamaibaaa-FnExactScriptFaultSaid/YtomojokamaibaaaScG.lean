/- Scripts, the model's: a line read. -/
import Derived.Test.YtomojokamaibaaaScF
namespace Go.Proofs.Ytomojokamaibaaa
open Go.RowKit Go.PlainAid G MGF IRow Sc M2
set_option linter.unusedVariables false
theorem lineM_no {t : ByteArray} {ws : List ByteArray} {w0 : ByteArray} (hw : wordsL t 32 = ws) (hw0 : ws.getD 0 ByteArray.empty = w0) {j : Nat} (hl : ws.length = (takesOf w0).size + 1) (hj : j < (takesOf w0).size)
    (h : (ws.getD (j + 1) ByteArray.empty).size = 0 ∨ (bt (takesOf w0) j = 110 ∧ numOk (ws.getD (j + 1) ByteArray.empty) = false)) : lineOk t = false := by
  have hj1 : j + 1 < ws.length := by omega
  have hm : ws.getD (j + 1) ByteArray.empty ∈ ws := by rw [List.getD, List.getElem?_eq_getElem hj1]; exact List.getElem_mem _
  rcases h with h | ⟨hc, hn⟩
  · exact lineOk_no hw (.inr (.inr (.inl (by have := len_empty.1 h; rw [← this]; exact hm))))
  · rcases kind_takes w0 with ⟨hk, _⟩ | ⟨hk, _, hsz, _, _, _, hall⟩
    · exact lineOk_no hw (.inl (by rw [hw0]; exact hk))
    · have h2 := hall j hj
      have hge : (kindOf w0).1 ≤ j := by
        rcases Nat.lt_or_ge j (kindOf w0).1 with h3 | h3
        · have := h2.1 h3; omega
        · exact h3
      refine lineOk_no hw (.inr (.inr (.inr ⟨_, ?_, hn⟩)))
      rw [hw0, List.getD, List.getElem?_eq_getElem hj1, List.mem_iff_getElem]
      have hi : j - (kindOf w0).1 < (ws.drop (1 + (kindOf w0).1)).length := by rw [List.length_drop]; omega
      refine ⟨j - (kindOf w0).1, hi, ?_⟩
      rw [List.getElem_drop]
      simp only [Option.getD_some]
      congr 1
      omega
theorem lineM_yes {t : ByteArray} {ws : List ByteArray} {w0 : ByteArray} (hw : wordsL t 32 = ws) (hw0 : ws.getD 0 ByteArray.empty = w0) (hk : takesOf w0 ≠ ⟨#[45]⟩) (hl : ws.length = (takesOf w0).size + 1)
    (h : ∀ j, j < (takesOf w0).size → (ws.getD (j + 1) ByteArray.empty).size ≠ 0 ∧ (bt (takesOf w0) j = 110 → numOk (ws.getD (j + 1) ByteArray.empty) = true)) : lineOk t = true := by
  rcases kind_takes w0 with ⟨_, hk2⟩ | ⟨hk1, _, hsz, h0, _, _, hall⟩
  · exact absurd hk2 hk
  · refine lineOk_yes hw (by rw [hw0]; exact hk1) (by rw [hw0]; omega) (fun hm => ?_) (fun y hy => ?_)
    · obtain ⟨i, hi, e⟩ := List.getElem_of_mem hm
      have e2 : ws.getD i ByteArray.empty = ByteArray.empty := by rw [List.getD, List.getElem?_eq_getElem hi]; exact e
      rcases Nat.eq_zero_or_pos i with h1 | h1
      · subst h1; rw [← hw0, e2] at h0; exact h0 rfl
      · have := (h (i - 1) (by omega)).1
        rw [show i - 1 + 1 = i by omega, e2] at this
        exact this rfl
    · rw [hw0] at hy
      obtain ⟨i, hi, e⟩ := List.getElem_of_mem hy
      rw [List.length_drop] at hi
      rw [List.getElem_drop] at e
      have h1 := (h ((kindOf w0).1 + i) (by omega)).2 ((hall _ (by omega)).2 (by omega))
      have hi2 : (kindOf w0).1 + i + 1 < ws.length := by omega
      rw [List.getD, List.getElem?_eq_getElem hi2] at h1
      simp only [Option.getD_some] at h1
      rw [← e]
      have e3 : ws[1 + (kindOf w0).1 + i]'(by omega) = ws[(kindOf w0).1 + i + 1]'hi2 := by congr 1; omega
      rw [e3]
      exact h1
set_option maxRecDepth 100000 in
set_option maxHeartbeats 16000000 in
theorem l11Read_any (t : ByteArray) (w : World) (ht : t.size ≤ 1048576) :
    Calls Try.prog 10 #[.string t] w fun e w' => ∃ x a b n m, e = .returned (.tuple #[.agg #[.string x, .string a, .string b, .int .i64 n, .int .i64 m], .bool (lineOk t)]) ∧ Below w.heap.size w w' := by
  obtain ⟨ws, hws⟩ : ∃ ws, wordsL t 32 = ws := ⟨_, rfl⟩
  have HWS := Lib.hid hws
  have HWL := Lib.hid (show ws.length = (piecesL t 32).length + 1 by rw [← hws]; exact words_len t 32)
  have HPL := Lib.hid (pieces_len t 32)
  have HSM := Lib.hid (show ∀ i, (ws.getD i ByteArray.empty).size ≤ t.size by rw [← hws]; exact words_mem)
  clear hws
  obtain ⟨W, hW⟩ : ∃ W, W = w.alloc (.cells #[.string ⟨#[]⟩, .string ⟨#[]⟩, .string ⟨#[]⟩, .int .i64 0, .int .i64 0] 36) := ⟨_, rfl⟩
  have HB0 := Lib.hid (show Below w.heap.size w W by rw [hW]; exact (Below.refl _ _).alloc (Nat.le_refl _) _)
  have HX := Lib.hid (show BoxC W w.heap.size [.string ⟨#[]⟩, .string ⟨#[]⟩, .string ⟨#[]⟩, .int .i64 0, .int .i64 0] by rw [hW]; exact BoxC.made _ _ _)
  go_enter Try.func10, Try.ntmps10
  go_upto_region 1 with fail
  rw [← hW]
  clear hW
  go_wp2_with fail
  refine (split_any t 32 W ht).mono ?_
  rw [HWS.out]
  rintro e w1 ⟨v, rfl, hown, hb⟩
  have HB1 := Lib.hid (HB0.out.trans (hb.mono HB0.out.size))
  have HX1 := Lib.hid (HX.out.below hb)
  have hne : 1 ≤ ws.length := by have := HWL.out; omega
  have hn2 : ws.length ≤ 1048577 := by have := HWL.out; have := HPL.out; omega
  obtain ⟨ar, cr, rfl⟩ := own_shape hown
  have HS1 := Lib.hid (SR.own (E := txE) (d := ByteArray.empty) (by decide) hown)
  clear hown hb HX HB0
  obtain ⟨g, o, rfl, hg, hc⟩ := HS1.out.cells (by omega)
  have t0 := hc 0 (by omega) 0 _ rfl
  rw [show txE.k = 1 from rfl, Nat.mul_one, Nat.add_zero] at t0
  have hin : 0 < ws.length := by omega
  have hin2 : (0 : Int) < (ws.length : Int) := by omega
  clear hc
  obtain ⟨w0, hw0⟩ : ∃ w0, ws.getD 0 ByteArray.empty = w0 := ⟨_, rfl⟩
  rw [hw0] at t0
  have HW0 := Lib.hid hw0
  clear hw0
  go_upto_region 3 with fail
  obtain ⟨W2, hW2⟩ : ∃ W2, W2 = w1.alloc (.cells #[.string w0, .string ⟨#[]⟩, .string ⟨#[]⟩, .int .i64 (-1), .int .i64 0] 36) := ⟨_, rfl⟩
  have HB2 := Lib.hid (show Below w.heap.size w W2 by rw [hW2]; exact HB1.out.alloc HB1.out.size _)
  have HA2 := Lib.hid (show Below w1.heap.size w1 W2 by rw [hW2]; exact (Below.refl _ _).alloc (Nat.le_refl _) _)
  have HX2 := Lib.hid (show BoxC W2 w.heap.size [.string ⟨#[]⟩, .string ⟨#[]⟩, .string ⟨#[]⟩, .int .i64 0, .int .i64 0] by rw [hW2]; exact HX1.out.alloc _)
  have HX9 := Lib.hid (show BoxC W2 w1.heap.size [.string w0, .string ⟨#[]⟩, .string ⟨#[]⟩, .int .i64 (-1), .int .i64 0] by rw [hW2]; exact BoxC.made _ _ _)
  have HWW := Lib.hid HB1.out.size
  have HXLT := Lib.hid (show w.heap.size < w1.heap.size from HX1.out.lt)
  rw [← hW2]
  clear hW2 t0
  have t0 : W2.cell? ⟨g, o, none⟩ = some (.string w0) := by
    obtain ⟨g', o', e1, hg', hc'⟩ := HS1.out.cells (by omega)
    simp only [Option.some.injEq, Addr.mk.injEq, and_true] at e1
    obtain ⟨rfl, rfl⟩ := e1
    have h1 := hc' 0 (by omega) 0 _ rfl
    rw [show txE.k = 1 from rfl, Nat.mul_one, Nat.add_zero, HW0.out] at h1
    exact (HA2.out.cell (p := ⟨g, o, none⟩) hg).trans h1
  go_wp2_with fail
  refine (l11Takes_any w0 _).mono ?_
  rintro e w2 ⟨rfl, rfl⟩
  clear t0
  obtain ⟨tk, htk⟩ : ∃ tk, takesOf w0 = tk := ⟨_, rfl⟩
  rw [htk]
  have HTK := Lib.hid htk
  have hkt := kind_takes w0
  rw [htk] at hkt
  clear htk
  by_cases hd : tk = ⟨#[45]⟩
  · have HF : Hid (lineOk t = false) := Lib.hid (lineOk_no HWS.out (.inl (by
      rw [HW0.out]
      rcases hkt with ⟨h, _⟩ | ⟨_, h, _⟩
      · exact h
      · exact absurd hd h)))
    have hd1 := lit_eq [45] hd
    clear hkt hd
    have x0 := HX2.out.cell 0 _ rfl
    have x1 := HX2.out.cell 1 _ rfl
    have x2 := HX2.out.cell 2 _ rfl
    have x3 := HX2.out.cell 3 _ rfl
    have x4 := HX2.out.cell 4 _ rfl
    have f0 := HX2.out.free 0
    have f1 := HX2.out.free 1
    have f2 := HX2.out.free 2
    have f3 := HX2.out.free 3
    have f4 := HX2.out.free 4
    have p0 := HX9.out.cell 0 _ rfl
    have p1 := HX9.out.cell 1 _ rfl
    have p2 := HX9.out.cell 2 _ rfl
    have p3 := HX9.out.cell 3 _ rfl
    have p4 := HX9.out.cell 4 _ rfl
    have HY := Lib.hid (((((HX2.out.set (j := 0) (by simp) (.string w0)).set (j := 1) (by simp) (.string ⟨#[]⟩)).set (j := 2) (by simp) (.string ⟨#[]⟩)).set (j := 3) (by simp) (.int .i64 (-1))).set (j := 4) (by simp) (.int .i64 0))
    have HYB := Lib.hid (((((HB2.out.setCell (p := ⟨w.heap.size, 0, none⟩) (Nat.le_refl _) (.string w0)).setCell (p := ⟨w.heap.size, 1, none⟩) (Nat.le_refl _) (.string ⟨#[]⟩)).setCell (p := ⟨w.heap.size, 2, none⟩) (Nat.le_refl _) (.string ⟨#[]⟩)).setCell (p := ⟨w.heap.size, 3, none⟩) (Nat.le_refl _) (.int .i64 (-1))).setCell (p := ⟨w.heap.size, 4, none⟩) (Nat.le_refl _) (.int .i64 0))
    have r0 := HY.out.cell 0 _ rfl
    have r1 := HY.out.cell 1 _ rfl
    have r2 := HY.out.cell 2 _ rfl
    have r3 := HY.out.cell 3 _ rfl
    have r4 := HY.out.cell 4 _ rfl
    go_wp2_with fail
    refine bodyPost_ret (v := .tuple #[.agg #[.string w0, .string ⟨#[]⟩, .string ⟨#[]⟩, .int .i64 (-1), .int .i64 0], .bool false]) (by simp [results, Try.results10, go_sem, r0, r1, r2, r3, r4]) rfl ?_
    exact ⟨_, _, _, _, _, by rw [HF.out], HYB.out⟩
  · have hd1 := lit_ne [45] hd
    have HTS : Hid (tk.size ≤ 3) := Lib.hid (by
      rw [← HTK.out]
      exact takes_small w0)
    have HTL : Hid (∀ j, j < tk.size → bt tk j = 119 ∨ bt tk j = 110) := Lib.hid (fun j hj => by
      rcases hkt with ⟨_, h⟩ | ⟨_, _, _, _, _, _, h⟩
      · exact absurd h hd
      · rcases Nat.lt_or_ge j (kindOf w0).1 with h3 | h3
        · exact .inl ((h j hj).1 h3)
        · exact .inr ((h j hj).2 h3))
    have HDD := Lib.hid hd
    clear hkt hd
    have hts : (tk.size : Int) ≤ 3 := by have := HTS.out; omega
    have hwa : IntKind.i64.wrap ((tk.size : Int) + 1) = (tk.size : Int) + 1 := IntWalk.i64_in _ (by omega)
    by_cases hlen : ws.length = tk.size + 1
    · have hli : (ws.length : Int) = (tk.size : Int) + 1 := by omega
      have HLEN := Lib.hid hlen
      have hb := PlainAid.get_bt tk
      clear hlen
      go_wp2_with fail
      go_loopw [7] (fun i wr => ∃ (k : Nat) (A B : ByteArray) (N M : Int), k ≤ tk.size ∧ i = .int .i64 k ∧ Hid (BoxC wr w.heap.size [.string ⟨#[]⟩, .string ⟨#[]⟩, .string ⟨#[]⟩, .int .i64 0, .int .i64 0]) ∧ Hid (BoxC wr w1.heap.size [.string w0, .string A, .string B, .int .i64 N, .int .i64 M]) ∧ Hid (Below w.heap.size w wr) ∧ Hid (Below w1.heap.size w1 wr) ∧ Hid (∀ j, j < k → (ws.getD (j + 1) ByteArray.empty).size ≠ 0 ∧ (bt tk j = 110 → numOk (ws.getD (j + 1) ByteArray.empty) = true))) (fun i _ => tk.size - (intOf i).toNat)
      case atStart => exact ⟨0, _, _, _, _, Nat.zero_le _, rfl, HX2, HX9, HB2, HA2, Lib.hid (fun j hj => absurd hj (by omega))⟩
      case round =>
        clear HX2 HX9 HB2 HA2
        obtain ⟨k, A, B, N, M, hk, rfl, HX2, HX9, HB2, HA2, HNK⟩ := hrel
        by_cases hlt : k < tk.size
        · have t0 : wr.cell? ⟨g, o + (k + 1), none⟩ = some (.string (ws.getD (k + 1) ByteArray.empty)) := by
            obtain ⟨g', o', e1, hg', hc'⟩ := HS1.out.cells (by omega)
            simp only [Option.some.injEq, Addr.mk.injEq, and_true] at e1
            obtain ⟨rfl, rfl⟩ := e1
            have h1 := hc' (k + 1) (by have := HLEN.out; omega) 0 _ rfl
            rw [show txE.k = 1 from rfl, Nat.mul_one, Nat.add_zero] at h1
            exact (HA2.out.cell (p := ⟨g, o + (k + 1), none⟩) hg).trans h1
          have hin3 : 0 ≤ (k : Int) + 1 ∧ (k : Int) + 1 < (ws.length : Int) := by omega
          have hw1 : IntKind.i64.wrap ((k : Int) + 1) = (k : Int) + 1 := IntWalk.i64_in _ (by omega)
          have hsz := HSM.out (k + 1)
          obtain ⟨y, hy⟩ : ∃ y, ws.getD (k + 1) ByteArray.empty = y := ⟨_, rfl⟩
          rw [hy] at t0 hsz
          have hysz : y.size ≤ 1048576 := by omega
          have HY0 := Lib.hid hy
          clear hy hsz
          have q0 := HX9.out.cell 0 _ rfl
          have q1 := HX9.out.cell 1 _ rfl
          have q2 := HX9.out.cell 2 _ rfl
          have q3 := HX9.out.cell 3 _ rfl
          have q4 := HX9.out.cell 4 _ rfl
          have g0 := HX9.out.free 0
          have g1 := HX9.out.free 1
          have g2 := HX9.out.free 2
          have g3 := HX9.out.free 3
          have g4 := HX9.out.free 4
          by_cases hc : bt tk k = 119
          · by_cases hy0 : y.size = 0
            · have HF : Hid (lineOk t = false) := Lib.hid (lineM_no HWS.out HW0.out (j := k) (by rw [HTK.out]; exact HLEN.out) (by rw [HTK.out]; exact hlt) (.inl (by rw [HY0.out]; exact hy0)))
              have hye := lit_eq (x := y) [] (len_empty.1 hy0)
              clear hy0
              have x0 := HX2.out.cell 0 _ rfl
              have x1 := HX2.out.cell 1 _ rfl
              have x2 := HX2.out.cell 2 _ rfl
              have x3 := HX2.out.cell 3 _ rfl
              have x4 := HX2.out.cell 4 _ rfl
              have f0 := HX2.out.free 0
              have f1 := HX2.out.free 1
              have f2 := HX2.out.free 2
              have f3 := HX2.out.free 3
              have f4 := HX2.out.free 4
              have p0 := HX9.out.cell 0 _ rfl
              have p1 := HX9.out.cell 1 _ rfl
              have p2 := HX9.out.cell 2 _ rfl
              have p3 := HX9.out.cell 3 _ rfl
              have p4 := HX9.out.cell 4 _ rfl
              have HY := Lib.hid (((((HX2.out.set (j := 0) (by simp) (.string w0)).set (j := 1) (by simp) (.string A)).set (j := 2) (by simp) (.string B)).set (j := 3) (by simp) (.int .i64 N)).set (j := 4) (by simp) (.int .i64 M))
              have HYB := Lib.hid (((((HB2.out.setCell (p := ⟨w.heap.size, 0, none⟩) (Nat.le_refl _) (.string w0)).setCell (p := ⟨w.heap.size, 1, none⟩) (Nat.le_refl _) (.string A)).setCell (p := ⟨w.heap.size, 2, none⟩) (Nat.le_refl _) (.string B)).setCell (p := ⟨w.heap.size, 3, none⟩) (Nat.le_refl _) (.int .i64 N)).setCell (p := ⟨w.heap.size, 4, none⟩) (Nat.le_refl _) (.int .i64 M))
              have r0 := HY.out.cell 0 _ rfl
              have r1 := HY.out.cell 1 _ rfl
              have r2 := HY.out.cell 2 _ rfl
              have r3 := HY.out.cell 3 _ rfl
              have r4 := HY.out.cell 4 _ rfl
              go_wp2_with fail
              refine bodyPost_ret (v := .tuple #[.agg #[.string w0, .string A, .string B, .int .i64 N, .int .i64 M], .bool false]) (by simp [results, Try.results10, go_sem, r0, r1, r2, r3, r4]) rfl ?_
              exact ⟨_, _, _, _, _, by rw [HF.out], HYB.out⟩
            · have hye := lit_ne (x := y) [] (fun h => hy0 (by rw [h]; rfl))
              have HN : Hid (∀ j, j < k + 1 → (ws.getD (j + 1) ByteArray.empty).size ≠ 0 ∧ (bt tk j = 110 → numOk (ws.getD (j + 1) ByteArray.empty) = true)) := Lib.hid (fun j hj => by
                by_cases e : j = k
                · subst e; rw [HY0.out]; exact ⟨hy0, fun h => by omega⟩
                · exact HNK.out j (by omega))
              clear hy0
              by_cases ha : A.size = 0
              · have hae := lit_eq (x := A) [] (len_empty.1 ha)
                clear ha
                go_wp2_with fail
                go_roundw
                case rel => exact ⟨k + 1, y, B, N, M, by omega, by go_num, Lib.hid (HX2.out.other _ _ (by dsimp only; have := HXLT.out; omega)), Lib.hid (HX9.out.set (j := 1) (by simp) (.string y)), Lib.hid (HB2.out.setCell (p := ⟨w1.heap.size, 1, none⟩) HWW.out _), Lib.hid (HA2.out.setCell (p := ⟨w1.heap.size, 1, none⟩) (Nat.le_refl _) _), HN⟩
                case measure => simp [intOf]; omega
              · have hae := lit_ne (x := A) [] (fun h => ha (by rw [h]; rfl))
                clear ha
                go_wp2_with fail
                go_roundw
                case rel => exact ⟨k + 1, A, y, N, M, by omega, by go_num, Lib.hid (HX2.out.other _ _ (by dsimp only; have := HXLT.out; omega)), Lib.hid (HX9.out.set (j := 2) (by simp) (.string y)), Lib.hid (HB2.out.setCell (p := ⟨w1.heap.size, 2, none⟩) HWW.out _), Lib.hid (HA2.out.setCell (p := ⟨w1.heap.size, 2, none⟩) (Nat.le_refl _) _), HN⟩
                case measure => simp [intOf]; omega
          · have hc2 : bt tk k = 110 := by rcases HTL.out k hlt with h | h; exact absurd h hc; exact h
            have hcb : (bt tk k == 119) = false := by rw [hc2]; rfl
            by_cases hgood : y.size ≠ 0 ∧ numOk y = true
            · have hm := numM_yes hgood.1 hgood.2
              have hm0 : 0 ≤ numM y := by
                rw [hm]
                have h1 := hgood.2
                unfold numOk at h1
                simp only [Bool.and_eq_true] at h1
                exact (numV_range _ h1.2).1
              have hmn : ¬ numM y < 0 := by omega
              have HN : Hid (∀ j, j < k + 1 → (ws.getD (j + 1) ByteArray.empty).size ≠ 0 ∧ (bt tk j = 110 → numOk (ws.getD (j + 1) ByteArray.empty) = true)) := Lib.hid (fun j hj => by
                by_cases e : j = k
                · subst e; rw [HY0.out]; exact ⟨hgood.1, fun _ => hgood.2⟩
                · exact HNK.out j (by omega))
              clear hgood hm hm0
              have HNC : Hid (∀ u, Calls Try.prog 15 #[.string y] u fun e w' => e = .returned (.int .i64 (numM y)) ∧ u = w') := Lib.hid (fun u => l11Num_any y u hysz)
              generalize numM y = z at *
              by_cases hn0 : N < 0
              · go_wp2_with (go_at_call 15; refine (HNC.out _).mono ?_; rintro e w' ⟨rfl, rfl⟩)
                go_roundw
                case rel => exact ⟨k + 1, A, B, z, M, by omega, by go_num, Lib.hid (HX2.out.other _ _ (by dsimp only; have := HXLT.out; omega)), Lib.hid (HX9.out.set (j := 3) (by simp) (.int .i64 z)), Lib.hid (HB2.out.setCell (p := ⟨w1.heap.size, 3, none⟩) HWW.out _), Lib.hid (HA2.out.setCell (p := ⟨w1.heap.size, 3, none⟩) (Nat.le_refl _) _), HN⟩
                case measure => simp [intOf]; omega
              · go_wp2_with (go_at_call 15; refine (HNC.out _).mono ?_; rintro e w' ⟨rfl, rfl⟩)
                go_roundw
                case rel => exact ⟨k + 1, A, B, N, z, by omega, by go_num, Lib.hid (HX2.out.other _ _ (by dsimp only; have := HXLT.out; omega)), Lib.hid (HX9.out.set (j := 4) (by simp) (.int .i64 z)), Lib.hid (HB2.out.setCell (p := ⟨w1.heap.size, 4, none⟩) HWW.out _), Lib.hid (HA2.out.setCell (p := ⟨w1.heap.size, 4, none⟩) (Nat.le_refl _) _), HN⟩
                case measure => simp [intOf]; omega
            · have HF : Hid (lineOk t = false) := Lib.hid (lineM_no HWS.out HW0.out (j := k) (by rw [HTK.out]; exact HLEN.out) (by rw [HTK.out]; exact hlt) (by
                rw [HY0.out, HTK.out]
                rcases Nat.eq_zero_or_pos y.size with h | h
                · exact .inl h
                · refine .inr ⟨hc2, ?_⟩
                  cases e : numOk y
                  · rfl
                  · exact absurd ⟨by omega, e⟩ hgood))
              have hmm : numM y = -1 := if_neg hgood
              have HNC : Hid (∀ u, Calls Try.prog 15 #[.string y] u fun e w' => e = .returned (.int .i64 (-1)) ∧ u = w') := Lib.hid (fun u => by rw [← hmm]; exact l11Num_any y u hysz)
              clear hgood hmm
              have x0 := HX2.out.cell 0 _ rfl
              have x1 := HX2.out.cell 1 _ rfl
              have x2 := HX2.out.cell 2 _ rfl
              have x3 := HX2.out.cell 3 _ rfl
              have x4 := HX2.out.cell 4 _ rfl
              have f0 := HX2.out.free 0
              have f1 := HX2.out.free 1
              have f2 := HX2.out.free 2
              have f3 := HX2.out.free 3
              have f4 := HX2.out.free 4
              have p0 := HX9.out.cell 0 _ rfl
              have p1 := HX9.out.cell 1 _ rfl
              have p2 := HX9.out.cell 2 _ rfl
              have p3 := HX9.out.cell 3 _ rfl
              have p4 := HX9.out.cell 4 _ rfl
              have HY := Lib.hid (((((HX2.out.set (j := 0) (by simp) (.string w0)).set (j := 1) (by simp) (.string A)).set (j := 2) (by simp) (.string B)).set (j := 3) (by simp) (.int .i64 N)).set (j := 4) (by simp) (.int .i64 M))
              have HYB := Lib.hid (((((HB2.out.setCell (p := ⟨w.heap.size, 0, none⟩) (Nat.le_refl _) (.string w0)).setCell (p := ⟨w.heap.size, 1, none⟩) (Nat.le_refl _) (.string A)).setCell (p := ⟨w.heap.size, 2, none⟩) (Nat.le_refl _) (.string B)).setCell (p := ⟨w.heap.size, 3, none⟩) (Nat.le_refl _) (.int .i64 N)).setCell (p := ⟨w.heap.size, 4, none⟩) (Nat.le_refl _) (.int .i64 M))
              have r0 := HY.out.cell 0 _ rfl
              have r1 := HY.out.cell 1 _ rfl
              have r2 := HY.out.cell 2 _ rfl
              have r3 := HY.out.cell 3 _ rfl
              have r4 := HY.out.cell 4 _ rfl
              go_wp2_with (go_at_call 15; refine (HNC.out _).mono ?_; rintro e w' ⟨rfl, rfl⟩)
              refine bodyPost_ret (v := .tuple #[.agg #[.string w0, .string A, .string B, .int .i64 N, .int .i64 M], .bool false]) (by simp [results, Try.results10, go_sem, r0, r1, r2, r3, r4]) rfl ?_
              exact ⟨_, _, _, _, _, by rw [HF.out], HYB.out⟩
        · obtain rfl : k = tk.size := by omega
          have HF : Hid (lineOk t = true) := Lib.hid (lineM_yes HWS.out HW0.out (by rw [HTK.out]; exact HDD.out) (by rw [HTK.out]; exact HLEN.out) (by rw [HTK.out]; exact HNK.out))
          have x0 := HX2.out.cell 0 _ rfl
          have x1 := HX2.out.cell 1 _ rfl
          have x2 := HX2.out.cell 2 _ rfl
          have x3 := HX2.out.cell 3 _ rfl
          have x4 := HX2.out.cell 4 _ rfl
          have f0 := HX2.out.free 0
          have f1 := HX2.out.free 1
          have f2 := HX2.out.free 2
          have f3 := HX2.out.free 3
          have f4 := HX2.out.free 4
          have p0 := HX9.out.cell 0 _ rfl
          have p1 := HX9.out.cell 1 _ rfl
          have p2 := HX9.out.cell 2 _ rfl
          have p3 := HX9.out.cell 3 _ rfl
          have p4 := HX9.out.cell 4 _ rfl
          have HY := Lib.hid (((((HX2.out.set (j := 0) (by simp) (.string w0)).set (j := 1) (by simp) (.string A)).set (j := 2) (by simp) (.string B)).set (j := 3) (by simp) (.int .i64 N)).set (j := 4) (by simp) (.int .i64 M))
          have HYB := Lib.hid (((((HB2.out.setCell (p := ⟨w.heap.size, 0, none⟩) (Nat.le_refl _) (.string w0)).setCell (p := ⟨w.heap.size, 1, none⟩) (Nat.le_refl _) (.string A)).setCell (p := ⟨w.heap.size, 2, none⟩) (Nat.le_refl _) (.string B)).setCell (p := ⟨w.heap.size, 3, none⟩) (Nat.le_refl _) (.int .i64 N)).setCell (p := ⟨w.heap.size, 4, none⟩) (Nat.le_refl _) (.int .i64 M))
          have r0 := HY.out.cell 0 _ rfl
          have r1 := HY.out.cell 1 _ rfl
          have r2 := HY.out.cell 2 _ rfl
          have r3 := HY.out.cell 3 _ rfl
          have r4 := HY.out.cell 4 _ rfl
          go_wp2_with fail
          refine bodyPost_ret (v := .tuple #[.agg #[.string w0, .string A, .string B, .int .i64 N, .int .i64 M], .bool true]) (by simp [results, Try.results10, go_sem, r0, r1, r2, r3, r4]) rfl ?_
          exact ⟨_, _, _, _, _, by rw [HF.out], HYB.out⟩
    · have HF : Hid (lineOk t = false) := Lib.hid (by
        rcases kind_takes w0 with ⟨_, h⟩ | ⟨_, _, h, _⟩
        · exact absurd (by rw [← HTK.out]; exact h) HDD.out
        · exact lineOk_no HWS.out (.inr (.inl (by rw [HW0.out]; rw [HTK.out] at h; omega))))
      have hli : ¬ (ws.length : Int) = (tk.size : Int) + 1 := by omega
      have hlb : ((ws.length : Int) == (tk.size : Int) + 1) = false := by simpa using hli
      clear hlen
      have x0 := HX2.out.cell 0 _ rfl
      have x1 := HX2.out.cell 1 _ rfl
      have x2 := HX2.out.cell 2 _ rfl
      have x3 := HX2.out.cell 3 _ rfl
      have x4 := HX2.out.cell 4 _ rfl
      have f0 := HX2.out.free 0
      have f1 := HX2.out.free 1
      have f2 := HX2.out.free 2
      have f3 := HX2.out.free 3
      have f4 := HX2.out.free 4
      have p0 := HX9.out.cell 0 _ rfl
      have p1 := HX9.out.cell 1 _ rfl
      have p2 := HX9.out.cell 2 _ rfl
      have p3 := HX9.out.cell 3 _ rfl
      have p4 := HX9.out.cell 4 _ rfl
      have HY := Lib.hid (((((HX2.out.set (j := 0) (by simp) (.string w0)).set (j := 1) (by simp) (.string ⟨#[]⟩)).set (j := 2) (by simp) (.string ⟨#[]⟩)).set (j := 3) (by simp) (.int .i64 (-1))).set (j := 4) (by simp) (.int .i64 0))
      have HYB := Lib.hid (((((HB2.out.setCell (p := ⟨w.heap.size, 0, none⟩) (Nat.le_refl _) (.string w0)).setCell (p := ⟨w.heap.size, 1, none⟩) (Nat.le_refl _) (.string ⟨#[]⟩)).setCell (p := ⟨w.heap.size, 2, none⟩) (Nat.le_refl _) (.string ⟨#[]⟩)).setCell (p := ⟨w.heap.size, 3, none⟩) (Nat.le_refl _) (.int .i64 (-1))).setCell (p := ⟨w.heap.size, 4, none⟩) (Nat.le_refl _) (.int .i64 0))
      have r0 := HY.out.cell 0 _ rfl
      have r1 := HY.out.cell 1 _ rfl
      have r2 := HY.out.cell 2 _ rfl
      have r3 := HY.out.cell 3 _ rfl
      have r4 := HY.out.cell 4 _ rfl
      go_wp2_with fail
      refine bodyPost_ret (v := .tuple #[.agg #[.string w0, .string ⟨#[]⟩, .string ⟨#[]⟩, .int .i64 (-1), .int .i64 0], .bool false]) (by simp [results, Try.results10, go_sem, r0, r1, r2, r3, r4]) rfl ?_
      exact ⟨_, _, _, _, _, by rw [HF.out], HYB.out⟩
end Go.Proofs.Ytomojokamaibaaa
