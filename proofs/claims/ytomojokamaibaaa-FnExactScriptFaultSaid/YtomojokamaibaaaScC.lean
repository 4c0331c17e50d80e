/- Scripts, the program's: a line, lines. -/
import Derived.Test.YtomojokamaibaaaScB
import Derived.Deep.Cut
namespace Go.Proofs.Ytomojokamaibaaa
open Go.RowKit Go.PlainAid G MGF IRow Sc M2
set_option linter.unusedVariables false
theorem lineOk_no {t : ByteArray} {ws : List ByteArray} (hw : wordsL t 32 = ws) (h : (kindOf (ws.getD 0 ByteArray.empty)).2.2 = false ∨ ws.length ≠ 1 + (kindOf (ws.getD 0 ByteArray.empty)).1 + (kindOf (ws.getD 0 ByteArray.empty)).2.1 ∨ ByteArray.empty ∈ ws ∨ ∃ y ∈ ws.drop (1 + (kindOf (ws.getD 0 ByteArray.empty)).1), numOk y = false) : lineOk t = false := by
  unfold lineOk
  rw [hw]
  rcases h with h | h | h | ⟨y, hy, hn⟩
  · rw [h]; rfl
  · rw [decide_eq_false h]; simp
  · have : ws.all (fun w => decide (0 < w.size)) = false := by
      rw [List.all_eq_false]
      exact ⟨_, h, by decide⟩
    rw [this]; simp
  · have : (ws.drop (1 + (kindOf (ws.getD 0 ByteArray.empty)).1)).all numOk = false := by
      rw [List.all_eq_false]
      exact ⟨y, hy, by rw [hn]; decide⟩
    rw [this]; simp
theorem lineOk_yes {t : ByteArray} {ws : List ByteArray} (hw : wordsL t 32 = ws) (h1 : (kindOf (ws.getD 0 ByteArray.empty)).2.2 = true) (h2 : ws.length = 1 + (kindOf (ws.getD 0 ByteArray.empty)).1 + (kindOf (ws.getD 0 ByteArray.empty)).2.1) (h3 : ByteArray.empty ∉ ws) (h4 : ∀ y ∈ ws.drop (1 + (kindOf (ws.getD 0 ByteArray.empty)).1), numOk y = true) : lineOk t = true := by
  unfold lineOk
  rw [hw, h1, decide_eq_true h2]
  simp only [Bool.true_and, Bool.and_eq_true]
  refine ⟨List.all_eq_true.2 fun y hy => decide_eq_true ?_, List.all_eq_true.2 h4⟩
  rcases Nat.eq_zero_or_pos y.size with h | h
  · exact absurd (len_empty.1 h ▸ hy) h3
  · exact h
/-- 's[l:h]' of a row. -/
theorem run_cut_lh {P : Program} (W : World) (t e : TypeId) (ht : P.underlying t = some (.slice e)) (hz : ∀ w, (Go.sizeOf e).run P w = .ok 1 w) (b o len cap l h : Nat) (hl : l ≤ h) (hh : h ≤ cap) :
    (Instr.slice t (.slice (some ⟨b, o, none⟩) len cap) (some (.int .i64 (l : Int))) (some (.int .i64 (h : Int))) none).run P W = .ok (.slice (cutAt b o l cap) (h - l) (cap - l)) W := by
  have ht' : P.underlying t = some (.slice (P.elem t)) := by simp [Program.elem, ht]
  have he : P.elem t = e := by simp [Program.elem, ht]
  rw [run_slice_lh W t _ _ _ ht' .i64 .i64 _ _ (by omega) (by omega) (by omega), he, hz]
  unfold cutAt
  by_cases hc : cap = l
  · simp [Result.andThen, sliced, hc]
  · by_cases h0 : l = 0
    · subst h0
      simp [Result.andThen, sliced, Addr.add, hc]
    · simp [Result.andThen, sliced, Addr.add, hc, h0]
theorem own_not {w : World} {base : Nat} {e : TypeId} {size : Nat} {v : Value} {n : Nat} {xs : List Value} (h : w.ownsRow base e size v n xs) {k : Nat} (hk : k < base) : some k ≠ v.ownBlock := by
  intro e1
  have := (h.lt k e1.symm).1
  omega
theorem sizeOfTxt (w : World) : (Go.sizeOf 9).run Try.prog w = .ok 1 w := by kernel_rfl
set_option maxRecDepth 100000 in
set_option maxHeartbeats 1600000 in
theorem lineIn_any (t : ByteArray) (w : World) (ht : t.size ≤ 1048576) :
    Calls Try.prog 13 #[.string t] w fun e w' => ∃ x a n c a' n' c', e = .returned (.tuple #[.agg #[.string x, .slice a n c, .slice a' n' c'], .bool (lineOk t)]) ∧ Below w.heap.size w w' := by
  obtain ⟨i0, hi, hz0, hz1, hz2⟩ := info_parts infoI6
  obtain ⟨ws, hws⟩ : ∃ ws, wordsL t 32 = ws := ⟨_, rfl⟩
  have HWS := Lib.hid hws
  have HWL := Lib.hid (show ws.length = (piecesL t 32).length + 1 by rw [← hws]; exact words_len t 32)
  have HPL := Lib.hid (pieces_len t 32)
  have HSM := Lib.hid (show ∀ i, (ws.getD i ByteArray.empty).size ≤ t.size by rw [← hws]; exact words_mem)
  clear hws
  obtain ⟨W, hW⟩ : ∃ W, W = w.alloc (.cells #[.string ⟨#[]⟩, .slice none 0 0, .slice none 0 0] 43) := ⟨_, rfl⟩
  have HB0 := Lib.hid (show Below w.heap.size w W by rw [hW]; exact (Below.refl _ _).alloc (Nat.le_refl _) _)
  have HX := Lib.hid (show BoxC W w.heap.size [.string ⟨#[]⟩, .slice none 0 0, .slice none 0 0] by rw [hW]; exact BoxC.made _ _ _)
  go_enter Try.func13, Try.ntmps13
  go_upto_region 1 with fail
  rw [← hW]
  clear hW
  go_wp2_with fail
  refine (wordsIn_any t W ht).mono ?_
  rw [HWS.out]
  rintro e w1 ⟨v, rfl, hown, hb⟩
  have HB1 := Lib.hid (HB0.out.trans (hb.mono HB0.out.size))
  have HX1 := Lib.hid (HX.out.below hb)
  have hne : 1 ≤ ws.length := by have := HWL.out; omega
  have hn2 : ws.length ≤ 1048577 := by have := HWL.out; have := HPL.out; omega
  obtain ⟨ar, cr, rfl⟩ := own_shape hown
  have HS1 := Lib.hid (SR.own (E := txE) (d := ByteArray.empty) (by decide) hown)
  clear hown hb HX HB0
  have x0 := HX1.out.cell 0 _ rfl
  have x1 := HX1.out.cell 1 _ rfl
  have x2 := HX1.out.cell 2 _ rfl
  have f0 := HX1.out.free 0
  have f1 := HX1.out.free 1
  have f2 := HX1.out.free 2
  cases hem : hasW ByteArray.empty ws
  · have HEM : Hid (ByteArray.empty ∉ ws) := Lib.hid (fun h => by rw [hasW_iff.2 h] at hem; cases hem)
    clear hem
    obtain ⟨g, o, rfl, hg, hc⟩ := HS1.out.cells (by omega)
    have t0 := hc 0 (by omega) 0 _ rfl
    rw [show txE.k = 1 from rfl, Nat.mul_one, Nat.add_zero] at t0
    have hin : 0 < ws.length := by omega
    have hin2 : (0 : Int) < (ws.length : Int) := by omega
    clear hc
    obtain ⟨w0, hw0⟩ : ∃ w0, ws.getD 0 ByteArray.empty = w0 := ⟨_, rfl⟩
    rw [hw0] at t0
    have HW0 := Lib.hid hw0
    clear hw0
    go_wp2_with fail
    refine (hasBehind_any _ _).mono ?_
    rintro e w2 ⟨rfl, rfl⟩
    obtain ⟨na, nb, kb, hkk⟩ : ∃ na nb kb, kindOf w0 = (na, nb, kb) := ⟨_, _, _, rfl⟩
    have HKK := Lib.hid hkk
    have hkt := kind_takes w0
    rw [hkk] at hkt ⊢
    dsimp only at hkt ⊢
    clear hkk
    cases kb
    · have HF : Hid (lineOk t = false) := Lib.hid (lineOk_no HWS.out (.inl (by rw [HW0.out, HKK.out])))
      clear hkt
      have HY := Lib.hid (((HX1.out.set (j := 0) (by decide) (.string ⟨#[]⟩)).set (j := 1) (by decide) (.slice none 0 0)).set (j := 2) (by decide) (.slice none 0 0))
      have HYB := Lib.hid (((HB1.out.setCell (p := ⟨w.heap.size, 0, none⟩) (Nat.le_refl _) (.string ⟨#[]⟩)).setCell (p := ⟨w.heap.size, 1, none⟩) (Nat.le_refl _) (.slice none 0 0)).setCell (p := ⟨w.heap.size, 2, none⟩) (Nat.le_refl _) (.slice none 0 0))
      have r0 := HY.out.cell 0 _ rfl
      have r1 := HY.out.cell 1 _ rfl
      have r2 := HY.out.cell 2 _ rfl
      go_wp2_with fail
      refine bodyPost_ret (v := .tuple #[.agg #[.string ⟨#[]⟩, .slice none 0 0, .slice none 0 0], .bool false]) (by simp [results, Try.results13, go_sem, r0, r1, r2]) rfl ?_
      exact ⟨_, _, _, _, _, _, _, by rw [HF.out], HYB.out⟩
    · obtain ⟨hna, hnb⟩ : na ≤ 2 ∧ nb ≤ 2 := by
        rcases hkt with ⟨h, _⟩ | ⟨_, _, _, _, h1, h2, _⟩
        · cases h
        · exact ⟨h1, h2⟩
      clear hkt
      have HAB2 := Lib.hid (And.intro hna hnb)
      have HXLT := Lib.hid (show w.heap.size < w1.heap.size from HX1.out.lt)
      have hwa : IntKind.i64.wrap (1 + (na : Int)) = 1 + (na : Int) := IntWalk.i64_in _ (by omega)
      have hwb : IntKind.i64.wrap (1 + (na : Int) + (nb : Int)) = 1 + (na : Int) + (nb : Int) := IntWalk.i64_in _ (by omega)
      by_cases hlen : ws.length = 1 + na + nb
      · have hli : (ws.length : Int) = 1 + (na : Int) + (nb : Int) := by omega
        have hcr := HS1.out.le
        have h7 : ∀ W, (Instr.slice 33 (.slice (some ⟨g, o, none⟩) ws.length cr) (some (.int .i64 1)) (some (.int .i64 (1 + (na : Int)))) none).run Try.prog W = .ok (.slice (cutAt g o 1 cr) na (cr - 1)) W := fun W => by
          have h := run_cut_lh (P := Try.prog) W 33 9 Try.underlying33 sizeOfTxt g o ws.length cr 1 (1 + na) (by omega) (by omega)
          rw [show ((1 : Nat) : Int) = 1 from rfl, show ((1 + na : Nat) : Int) = 1 + (na : Int) by omega, Nat.add_sub_cancel_left] at h
          exact h
        have h8 : ∀ W, (Instr.slice 33 (.slice (some ⟨g, o, none⟩) ws.length cr) (some (.int .i64 (1 + (na : Int)))) none none).run Try.prog W = .ok (.slice (cutAt g o (1 + na) cr) nb (cr - (1 + na))) W := fun W => by
          have h := run_cut_from (P := Try.prog) W 33 9 Try.underlying33 sizeOfTxt g o ws.length cr (1 + na) (by omega)
          rw [show ((1 + na : Nat) : Int) = 1 + (na : Int) by omega, show ws.length - (1 + na) = nb by omega] at h
          exact h
        have HAD : Hid (0 < nb → cutAt g o (1 + na) cr = some ⟨g, o + (1 + na), none⟩) := Lib.hid (fun h => cutAt_lt (by omega))
        have HLEN := Lib.hid hlen
        generalize cutAt g o (1 + na) cr = ad at *
        generalize cutAt g o 1 cr = at1 at *
        clear hlen
        go_upto_region 7 with fail
        go_region
        obtain ⟨W2, hW2⟩ : ∃ W2, W2 = (w1.alloc (.cells #[.string w0, .slice at1 na (cr - 1), .slice none 0 0] 43)).drew := ⟨_, rfl⟩
        have HB2 := Lib.hid (show Below w.heap.size w W2 by rw [hW2]; exact (HB1.out.alloc HB1.out.size _).drew)
        have HX2 := Lib.hid (show BoxC W2 w.heap.size [.string ⟨#[]⟩, .slice none 0 0, .slice none 0 0] by rw [hW2]; exact (HX1.out.alloc _).drew)
        have HX9 := Lib.hid (show BoxC W2 w1.heap.size [.string w0, .slice at1 na (cr - 1), .slice none 0 0] by rw [hW2]; exact (BoxC.made _ _ _).drew)
        have HS2 := Lib.hid (show W2.heap.size = w1.heap.size + 1 by rw [hW2]; exact World.size_alloc _ _)
        have HSC := Lib.hid (show ∀ k, k < nb → W2.cell? ⟨g, o + (1 + na) + k, none⟩ = some (.string (ws.getD (1 + na + k) ByteArray.empty)) by
          intro k hk
          obtain ⟨g', o', e1, hg', hc'⟩ := HS1.out.cells (by omega)
          simp only [Option.some.injEq, Addr.mk.injEq, and_true] at e1
          obtain ⟨rfl, rfl⟩ := e1
          have hb1 : Below w1.heap.size w1 W2 := by rw [hW2]; exact ((Below.refl _ _).alloc (Nat.le_refl _) _).drew
          have h1 := hc' (1 + na + k) (by have := HLEN.out; omega) 0 _ rfl
          rw [show txE.k = 1 from rfl, Nat.mul_one, Nat.add_zero] at h1
          rw [Nat.add_assoc]
          exact (hb1.cell (p := ⟨g, o + (1 + na + k), none⟩) hg).trans h1)
        have HWW := Lib.hid HB1.out.size
        rw [← hW2]
        clear hW2 x0 x1 x2 f0 f1 f2 t0 h7
        go_wp2_with fail
        go_loopw [55] (fun i wr => ∃ (k : Nat) (nv : Value) (zs : List Int), k ≤ nb ∧ i = .int .i64 k ∧ Hid (BoxC wr w.heap.size [.string ⟨#[]⟩, .slice none 0 0, .slice none 0 0]) ∧ Hid (BoxC wr w1.heap.size [.string w0, .slice at1 na (cr - 1), nv]) ∧ Hid (wr.ownsRow W2.heap.size 2 i6E.k nv k (i6E.flat zs)) ∧ Hid (Below w.heap.size w wr) ∧ Hid (W2.heap.size ≤ wr.heap.size) ∧ Hid (∀ j, j < nb → wr.cell? ⟨g, o + (1 + na) + j, none⟩ = some (.string (ws.getD (1 + na + j) ByteArray.empty))) ∧ Hid (∀ j, j < k → numOk (ws.getD (1 + na + j) ByteArray.empty) = true)) (fun i _ => nb - (intOf i).toNat)
        case atStart => exact ⟨0, _, [], Nat.zero_le _, rfl, HX2, HX9, Lib.hid (World.ownsRow_nil _ _ _ _), HB2, Lib.hid (Nat.le_refl _), HSC, Lib.hid (fun j hj => absurd hj (by omega))⟩
        case round =>
          clear HX2 HX9 HB2 HSC
          obtain ⟨k, nv, zs, hk, rfl, HX2, HX9, HOR, HB2, HWS2, HSC, HNK⟩ := hrel
          by_cases hlt : k < nb
          · have had := HAD.out (by omega)
            subst had
            have t0 := HSC.out k hlt
            have hin : 0 ≤ (k : Int) ∧ (k : Int) < (nb : Int) := by omega
            have hsz := HSM.out (1 + na + k)
            obtain ⟨y, hy⟩ : ∃ y, ws.getD (1 + na + k) ByteArray.empty = y := ⟨_, rfl⟩
            rw [hy] at t0 hsz
            have hysz : y.size ≤ 1048576 := by omega
            have HY0 := Lib.hid hy
            have HMEM := Lib.hid (show y ∈ ws.drop (1 + na) by
              rw [← hy, List.getD, List.getElem?_eq_getElem (by have := HLEN.out; omega)]
              rw [List.mem_iff_getElem]
              exact ⟨k, by rw [List.length_drop]; have := HLEN.out; omega, by rw [List.getElem_drop]; rfl⟩)
            clear hy hsz
            go_wp2_with fail
            refine (numberIn_any y _ hysz).mono ?_
            rintro e w5 ⟨rfl, rfl⟩
            cases hok : numOk y
            · have HF : Hid (lineOk t = false) := Lib.hid (lineOk_no HWS.out (.inr (.inr (.inr ⟨y, by rw [HW0.out, HKK.out]; exact HMEM.out, hok⟩))))
              have x0 := HX2.out.cell 0 _ rfl
              have x1 := HX2.out.cell 1 _ rfl
              have x2 := HX2.out.cell 2 _ rfl
              have f0 := HX2.out.free 0
              have f1 := HX2.out.free 1
              have f2 := HX2.out.free 2
              have HY := Lib.hid (((HX2.out.set (j := 0) (by decide) (.string ⟨#[]⟩)).set (j := 1) (by decide) (.slice none 0 0)).set (j := 2) (by decide) (.slice none 0 0))
              have HYB := Lib.hid (((HB2.out.setCell (p := ⟨w.heap.size, 0, none⟩) (Nat.le_refl _) (.string ⟨#[]⟩)).setCell (p := ⟨w.heap.size, 1, none⟩) (Nat.le_refl _) (.slice none 0 0)).setCell (p := ⟨w.heap.size, 2, none⟩) (Nat.le_refl _) (.slice none 0 0))
              have r0 := HY.out.cell 0 _ rfl
              have r1 := HY.out.cell 1 _ rfl
              have r2 := HY.out.cell 2 _ rfl
              go_wp2_with fail
              refine bodyPost_ret (v := .tuple #[.agg #[.string ⟨#[]⟩, .slice none 0 0, .slice none 0 0], .bool false]) (by simp [results, Try.results13, go_sem, r0, r1, r2]) rfl ?_
              exact ⟨_, _, _, _, _, _, _, by rw [HF.out], HYB.out⟩
            · have HN : Hid (∀ j, j < k + 1 → numOk (ws.getD (1 + na + j) ByteArray.empty) = true) := Lib.hid (fun j hj => by
                by_cases e : j = k
                · subst e; rw [HY0.out]; exact hok
                · exact HNK.out j (by omega))
              obtain ⟨an, cn, rfl⟩ := own_shape HOR.out
              have x2 := HX9.out.cell 2 _ rfl
              have f2 := HX9.out.free 2
              have hown := HOR.out
              have hkk : k ≤ 1048576 := by have := HAB2.out; omega
              have hszw := HWS2.out
              generalize numR y = z at *
              go_wp2_with (at_builtin; refine append_enc i6E rfl (.tmp 68) (.tmp 70) 41 rfl 2 i0 (.int .i64 0) 8 Try.underlying41 hi hz0 hz1 hz2 (by rfl) (by decide) (by decide) W2.heap.size (.slice an k cn) k zs (by rfl) hown z _ (by rfl) _ (by rfl) hszw hkk ?_; intro v' w7 hown7 hg7 _; have HO7 := Lib.hid hown7; have HX27 := Lib.hid (HX2.out.grown hg7 (own_not HOR.out (by have := HS2.out; have := HWW.out; omega))); have HX97 := Lib.hid (HX9.out.grown hg7 (own_not HOR.out (by have := HS2.out; omega))); have HB7 := Lib.hid (below_grow HB2.out HOR.out (by have := HS2.out; have := HWW.out; omega) hg7 HB2.out.size); have HSZ7 := Lib.hid (Nat.le_trans HWS2.out hg7.size); have HSC7 := Lib.hid (show ∀ j, j < nb → w7.cell? ⟨g, o + (1 + na) + j, none⟩ = some (.string (ws.getD (1 + na + j) ByteArray.empty)) from fun j hj => hg7.cell (HSC.out j hj) (own_not (k := g) HOR.out (by have := HS2.out; omega))); obtain ⟨av, cv, rfl⟩ := own_shape HO7.out; have f27 := HX97.out.free 2; have x27 := HX97.out.cell 2 _ rfl; clear hown7 hg7 hown)
              go_roundw
              case rel => exact ⟨k + 1, .slice av (k + 1) cv, zs ++ [z], by omega, by go_num, Lib.hid (HX27.out.other _ _ (by dsimp only; have := HWW.out; have := HXLT.out; omega)), Lib.hid (HX97.out.set (j := 2) (by simp) _), Lib.hid (own_other HO7.out (b := w1.heap.size) (fun g' h' => by have := (HO7.out.lt g' h').1; have := HS2.out; omega) _ _ rfl), Lib.hid (HB7.out.setCell (p := ⟨w1.heap.size, 2, none⟩) HWW.out _), Lib.hid (by rw [World.size_setCell]; exact HSZ7.out), Lib.hid (fun j hj => by rw [World.cell?_setCell_other _ _ _ _ (by intro e; simp only [Addr.mk.injEq] at e; omega)]; exact HSC7.out j hj), HN⟩
              case measure => simp [intOf]; omega
          · obtain rfl : k = nb := by omega
            have HF : Hid (lineOk t = true) := Lib.hid (lineOk_yes HWS.out (by rw [HW0.out, HKK.out]) (by rw [HW0.out, HKK.out]; exact HLEN.out) HEM.out (by
              rw [HW0.out, HKK.out]
              intro y hy
              obtain ⟨j, hj, e⟩ := List.getElem_of_mem hy
              rw [List.length_drop] at hj
              have h1 := HNK.out j (by have := HLEN.out; omega)
              rw [List.getElem_drop] at e
              rw [List.getD, List.getElem?_eq_getElem (by have := HLEN.out; omega)] at h1
              rw [← e]
              exact h1))
            obtain ⟨an, cn, rfl⟩ := own_shape HOR.out
            have x0 := HX9.out.cell 0 _ rfl
            have x1 := HX9.out.cell 1 _ rfl
            have x2 := HX9.out.cell 2 _ rfl
            have f0 := HX2.out.free 0
            have f1 := HX2.out.free 1
            have f2 := HX2.out.free 2
            have y0 := HX2.out.cell 0 _ rfl
            have y1 := HX2.out.cell 1 _ rfl
            have y2 := HX2.out.cell 2 _ rfl
            have HY := Lib.hid (((HX2.out.set (j := 0) (by decide) (.string w0)).set (j := 1) (by simp) (.slice at1 na (cr - 1))).set (j := 2) (by simp) (.slice an k cn))
            have HYB := Lib.hid (((HB2.out.setCell (p := ⟨w.heap.size, 0, none⟩) (Nat.le_refl _) (.string w0)).setCell (p := ⟨w.heap.size, 1, none⟩) (Nat.le_refl _) (.slice at1 na (cr - 1))).setCell (p := ⟨w.heap.size, 2, none⟩) (Nat.le_refl _) (.slice an k cn))
            have r0 := HY.out.cell 0 _ rfl
            have r1 := HY.out.cell 1 _ rfl
            have r2 := HY.out.cell 2 _ rfl
            go_wp2_with fail
            refine bodyPost_ret (v := .tuple #[.agg #[.string w0, .slice at1 na (cr - 1), .slice an k cn], .bool true]) (by simp [results, Try.results13, go_sem, r0, r1, r2]) rfl ?_
            exact ⟨_, _, _, _, _, _, _, by rw [HF.out], HYB.out⟩
      · have HF : Hid (lineOk t = false) := Lib.hid (lineOk_no HWS.out (.inr (.inl (by rw [HW0.out, HKK.out]; exact hlen))))
        have hli : ¬ (ws.length : Int) = 1 + (na : Int) + (nb : Int) := by omega
        have hlb : ((ws.length : Int) == 1 + (na : Int) + (nb : Int)) = false := by simpa using hli
        clear hlen
        have HY := Lib.hid (((HX1.out.set (j := 0) (by decide) (.string ⟨#[]⟩)).set (j := 1) (by decide) (.slice none 0 0)).set (j := 2) (by decide) (.slice none 0 0))
        have HYB := Lib.hid (((HB1.out.setCell (p := ⟨w.heap.size, 0, none⟩) (Nat.le_refl _) (.string ⟨#[]⟩)).setCell (p := ⟨w.heap.size, 1, none⟩) (Nat.le_refl _) (.slice none 0 0)).setCell (p := ⟨w.heap.size, 2, none⟩) (Nat.le_refl _) (.slice none 0 0))
        have r0 := HY.out.cell 0 _ rfl
        have r1 := HY.out.cell 1 _ rfl
        have r2 := HY.out.cell 2 _ rfl
        go_wp2_with fail
        refine bodyPost_ret (v := .tuple #[.agg #[.string ⟨#[]⟩, .slice none 0 0, .slice none 0 0], .bool false]) (by simp [results, Try.results13, go_sem, r0, r1, r2]) rfl ?_
        exact ⟨_, _, _, _, _, _, _, by rw [HF.out], HYB.out⟩
  · have HF : Hid (lineOk t = false) := Lib.hid (lineOk_no HWS.out (.inr (.inr (.inl (hasW_iff.1 hem)))))
    clear hem
    have HY := Lib.hid (((HX1.out.set (j := 0) (by decide) (.string ⟨#[]⟩)).set (j := 1) (by decide) (.slice none 0 0)).set (j := 2) (by decide) (.slice none 0 0))
    have HYB := Lib.hid (((HB1.out.setCell (p := ⟨w.heap.size, 0, none⟩) (Nat.le_refl _) (.string ⟨#[]⟩)).setCell (p := ⟨w.heap.size, 1, none⟩) (Nat.le_refl _) (.slice none 0 0)).setCell (p := ⟨w.heap.size, 2, none⟩) (Nat.le_refl _) (.slice none 0 0))
    have r0 := HY.out.cell 0 _ rfl
    have r1 := HY.out.cell 1 _ rfl
    have r2 := HY.out.cell 2 _ rfl
    go_wp2_with fail
    refine bodyPost_ret (v := .tuple #[.agg #[.string ⟨#[]⟩, .slice none 0 0, .slice none 0 0], .bool false]) (by simp [results, Try.results13, go_sem, r0, r1, r2]) rfl ?_
    exact ⟨_, _, _, _, _, _, _, by rw [HF.out], HYB.out⟩
end Go.Proofs.Ytomojokamaibaaa
