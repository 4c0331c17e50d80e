/- The program's polynomials: sums. -/
import Derived.Test.YtfplfkebamgniaaPoly3
import Derived.StillTailTactics
namespace Go.Proofs.Ytfplfkebamgniaa
open Go.RowKit Go.PlainAid G IRow MGF
set_option linter.unusedVariables false
set_option maxRecDepth 100000 in
/-- Three blocks of two cells: what stands in them. -/
theorem three_boxes (w : World) (x0 x1 y0 y1 z0 z1 : Value) (t u v : TypeId) {wa : World} (h : wa = ((w.alloc (.cells #[x0, x1] t)).alloc (.cells #[y0, y1] u)).alloc (.cells #[z0, z1] v)) :
    wa.heap.size = w.heap.size + 3 ∧ (wa.cell? ⟨w.heap.size, 0, none⟩ = some x0 ∧ wa.cell? ⟨w.heap.size, 1, none⟩ = some x1) ∧ (wa.cell? ⟨w.heap.size + 1, 0, none⟩ = some y0 ∧ wa.cell? ⟨w.heap.size + 1, 1, none⟩ = some y1) ∧ (wa.cell? ⟨w.heap.size + 2, 0, none⟩ = some z0 ∧ wa.cell? ⟨w.heap.size + 2, 1, none⟩ = some z1) ∧ wa.frozen? ⟨w.heap.size + 2, 0, none⟩ = false ∧ wa.frozen? ⟨w.heap.size + 2, 1, none⟩ = false ∧ Below w.heap.size w wa := by
  subst h
  have s1 : (w.alloc (.cells #[x0, x1] t)).heap.size = w.heap.size + 1 := World.size_alloc _ _
  have s2 : ((w.alloc (.cells #[x0, x1] t)).alloc (.cells #[y0, y1] u)).heap.size = w.heap.size + 2 := by rw [World.size_alloc, s1]
  have a0 := World.cell?_alloc_new w #[x0, x1] t
  have a1 := World.cell?_alloc_new (w.alloc (.cells #[x0, x1] t)) #[y0, y1] u
  have a2 := World.cell?_alloc_new ((w.alloc (.cells #[x0, x1] t)).alloc (.cells #[y0, y1] u)) #[z0, z1] v
  have f2 := World.frozen?_alloc_new ((w.alloc (.cells #[x0, x1] t)).alloc (.cells #[y0, y1] u)) #[z0, z1] v
  rw [s1] at a1
  rw [s2] at a2 f2
  refine ⟨by rw [World.size_alloc, s2], ⟨?_, ?_⟩, ⟨?_, ?_⟩, ⟨a2 0, a2 1⟩, f2 0, f2 1, (((Below.refl _ _).alloc (Nat.le_refl _) _).alloc (by rw [s1]; omega) _).alloc (by rw [s2]; omega) _⟩
  · rw [World.cell?_alloc_past _ _ _ (by rw [s2]; omega), World.cell?_alloc_past _ _ _ (by rw [s1]; omega)]; exact a0 0
  · rw [World.cell?_alloc_past _ _ _ (by rw [s2]; omega), World.cell?_alloc_past _ _ _ (by rw [s1]; omega)]; exact a0 1
  · rw [World.cell?_alloc_past _ _ _ (by rw [s2]; omega)]; exact a1 0
  · rw [World.cell?_alloc_past _ _ _ (by rw [s2]; omega)]; exact a1 1
set_option maxRecDepth 100000 in
set_option maxHeartbeats 1600000 in
theorem plus_any (f : Nat) (a b : Option Addr) (n m cap cbp : Nat) (p q : List B) (w : World) (h : BR f w a n cap p) (k : BR f w b m cbp q) (hF : Fld w f) (hn : n ≤ 524288) (hm : m ≤ 524288) :
    Calls Try.prog 77 #[pvl f (.slice a n cap), pvl f (.slice b m cbp)] w fun e w' => ∃ a' k' c', e = .returned (pvl f (.slice a' k' c')) ∧ BR f w' a' k' c' (trim (addP p q)) ∧ FAt w f w' := by
  obtain ⟨i0, hi, hz0, hz1, hz2⟩ := info_parts infoU8
  obtain ⟨L, hL⟩ : ∃ L, L = max n m := ⟨_, rfl⟩
  have hLi : max (n : Int) (m : Int) = (L : Int) := by omega
  have HLI : Hid (((max n m : Nat) : Int) = (L : Int)) := Lib.hid (by omega)
  have hLs : L ≤ 524288 := by omega
  have hnL : n ≤ L := by omega
  have hmL : m ≤ L := by omega
  have HL := Lib.hid hL
  clear hL
  have hlt := hF.lt
  obtain ⟨wa, hwa⟩ : ∃ wa, wa = ((w.alloc (Obj.cells #[Value.pointer (some ⟨f, 0, none⟩), Value.slice a n cap] 90)).alloc (Obj.cells #[Value.pointer (some ⟨f, 0, none⟩), Value.slice b m cbp] 90)).alloc (Obj.cells #[Value.pointer none, Value.slice none 0 0] 90) := ⟨_, rfl⟩
  obtain ⟨hs0, hP, hQ, hR, hfr0, hfr1, hb0⟩ := three_boxes w _ _ _ _ _ _ _ _ _ hwa
  have hFa : Fld wa f := hF.below hb0
  have H0 := Lib.hid (h.below hb0)
  have K0 := Lib.hid (k.below hb0)
  have HFA := Lib.hid hFa
  have HB0 := Lib.hid hb0
  clear h k hF hFa hb0
  unfold pvl
  go_enter Try.func77, Try.ntmps77
  go_wp2_with (first
    | (at_make; rw [← hwa]; refine wpList_make_full _ rfl (.tmp 14) (.tmp 14) 22 rfl wa.heap.size 5 i0 (.int .u8 0) 1 Try.underlying22 hi hz0 hz1 .i64 .i64 _ _ L rfl rfl (by first | rfl | exact HLI.out | omega) (by first | rfl | exact HLI.out | omega) (by rw [hz2]; omega) (by unfold maxLen; omega) (Nat.le_refl _) ?_; intro w4 hown4 hg4; rw [madeZero8, hs0] at hown4; rw [hs0]; have hP4 := hg4.cell hP.2 (by simp); have HG4 := Lib.hid hg4; clear hg4)
    | (have hgd4 := hown4; (refine wpList_copy_splice rfl (.tmp 16) (.tmp 18) 22 22 rfl 5 Try.underlying22 (by kernel_rfl) _ _ _ _ _ _ rfl rfl (w.heap.size + 3) 0 ((fl (fun _ => 0) L).map (Value.int .u8)) 5 (own_heap hown4).2 ((pv p).map (Value.int .u8)) (by rw [List.length_map, pv_length, H0.out.len]; exact (Nat.min_eq_left hnL).symm) (fun h0 => ⟨rfl, (H0.out.below (below_of_none HG4.out)).src h0⟩) (by rw [List.length_map, List.length_map, pv_length, H0.out.len, fl_length]; omega) (fun v hv => by obtain ⟨z, _, rfl⟩ := List.mem_map.1 hv; rfl) wa.heap.size wa (below_of_none HG4.out) (by rw [hs0]; exact Nat.le_refl _) ?_); intro w5 hh5 hb5; rw [splice_pv _ (by rw [H0.out.len]; exact hnL)] at hh5; have hown5 := own_of_heap (Nat.le_refl (w.heap.size + 3)) hh5.out (by rw [List.length_map, fl_length]) (by unfold maxLen; omega); have hQ5 := (hb5.cell (p := ⟨w.heap.size + 1, 1, none⟩) (by show w.heap.size + 1 < wa.heap.size; omega)).trans hQ.2; have HB5 := Lib.hid hb5; have HO5 := Lib.hid hown5; clear hb5 hh5 hown5 hown4 hgd4 hP4))
  obtain ⟨rb, hrb⟩ : ∃ r, r = w.heap.size + 3 := ⟨_, rfl⟩
  have HRB : Hid (w.heap.size + 2 < rb) := Lib.hid (by omega)
  simp only [← hrb] at *
  have HS0 := Lib.hid hs0
  have HC := Lib.hid (And.intro hP (And.intro hR (And.intro hfr0 hfr1)))
  have hnef : f < w.heap.size := hlt
  clear hs0 hrb hP hQ hQ5 hR hfr0 hfr1 hwa
  go_loopw [23] (fun i wr => ∃ j : Nat, j ≤ m ∧ i = .int .i64 j ∧ wr.ownsRow rb 5 1 (.slice (some ⟨rb, 0, none⟩) L L) L ((fl (fun t => bi (if t < j then cf p t ^^^ cf q t else cf p t)) L).map (Value.int .u8)) ∧ FAt wa f wr) (fun i _ => m - (intOf i).toNat)
  case atStart => exact ⟨0, Nat.zero_le _, rfl, by rw [fl_congr (g := fun t => bi (cf p t)) (fun t _ => by rw [if_neg (Nat.not_lt_zero t)])]; exact HO5.out, (FAt.start HFA.out).below HB5.out⟩
  case round =>
    obtain ⟨j, hj, rfl, hown, hG⟩ := hrel
    by_cases hlt : j < m
    · obtain ⟨g, o, rfl, hg, hne, hc⟩ := K0.out.cells (by omega)
      have hck := hG.cell (hc j hlt) hne
      have hjL : j < L := by omega
      have hoc := own_cell8 hown hjL
      rw [fl_getD _ hjL, if_neg (Nat.lt_irrefl j)] at hoc
      have hof := hown.frozenAt j
      have hp0 := hG.cell HC.out.1.1 (by show w.heap.size ≠ f; omega)
      have hs := own_stored8 hown j (bi (cf p j ^^^ cf q j))
      rw [fl_set, fl_congr (g := fun t => bi (if t < j + 1 then cf p t ^^^ cf q t else cf p t)) (fun t _ => by
        by_cases h1 : t = j
        · subst h1; simp
        · rw [if_neg h1]
          by_cases h2 : t < j
          · rw [if_pos h2, if_pos (by omega)]
          · rw [if_neg h2, if_neg (by omega)])] at hs
      have HS : Hid ((wr.drew.setCell ⟨rb, j, none⟩ (.int .u8 (bi (cf p j ^^^ cf q j)))).ownsRow rb 5 1 (.slice (some ⟨rb, 0, none⟩) L L) L ((fl (fun t => bi (if t < j + 1 then cf p t ^^^ cf q t else cf p t)) L).map (Value.int .u8))) := Lib.hid hs
      have HG := Lib.hid (hG.drew.set (g := rb) (by have := HS0.out; omega) (by have := HS0.out; have := HRB.out; omega) j (.int .u8 (bi (cf p j ^^^ cf q j))))
      have hcall := (ringPlus_any f (cf p j) (cf q j) wr.drew).mono (fun e w' h => (⟨h.1, h.2.symm⟩ : e = Ending.returned (.int .u8 (bi (cf p j ^^^ cf q j))) ∧ w' = wr.drew))
      have hmP := mPlus f
      have hoc' : wr.drew.cell? ⟨rb, j, none⟩ = _ := hoc
      have hof' : wr.drew.frozen? ⟨rb, j, none⟩ = _ := hof
      generalize bi (cf p j ^^^ cf q j) = z at *
      generalize bi (cf p j) = x at *
      generalize bi (cf q j) = y at *
      clear hown hG hs hc
      go_wp2_with fail
      go_still_tail 12, (by kernel_rfl)
      still_call hcall
      repeat still_step
      refine wpStill_nil ?_
      change wpList _ _ _ _ _ wr.drew
      clear hoc hof hck hcall
      generalize wr.drew = we at *
      go_wp2_with fail
      go_roundw
      case rel => exact ⟨j + 1, by omega, by go_num, HS.out, HG.out⟩
      case measure => simp [intOf]; omega
    · obtain rfl : j = m := by omega
      have hLL : (addP p q).length = L := by rw [length_addP, H0.out.len, K0.out.len]; exact HL.out.symm
      have e : fl (fun t => bi (if t < j then cf p t ^^^ cf q t else cf p t)) L = pv (addP p q) := by
        rw [pv_fl, hLL]
        refine fl_congr (fun t _ => ?_)
        rw [cf_addP]
        by_cases h2 : t < j
        · rw [if_pos h2]
        · rw [if_neg h2, cf_past (p := q) (by rw [K0.out.len]; omega), xor0]
      rw [e] at hown
      have HR := Lib.hid (BR.own hown (f := f) (by have := HRB.out; omega))
      have HG := Lib.hid hG
      have hsz : w.heap.size + 1 + 1 < wr.heap.size := by have := hG.grown.size; have := HS0.out; have := HRB.out; omega
      have hp0 := hG.cell HC.out.1.1 (by show w.heap.size ≠ f; omega)
      have HC0 : Hid (wr.cell? ⟨w.heap.size + 1 + 1, 0, none⟩ = some (.pointer none)) := Lib.hid (hG.cell HC.out.2.1.1 (by show w.heap.size + 2 ≠ f; omega))
      have HC1 : Hid (wr.cell? ⟨w.heap.size + 1 + 1, 1, none⟩ = some (.slice none 0 0)) := Lib.hid (hG.cell HC.out.2.1.2 (by show w.heap.size + 2 ≠ f; omega))
      have hblk := hG.grown.block (w.heap.size + 1 + 1) (by have := HS0.out; have := HRB.out; omega) (by simp; omega)
      have HZ0 : Hid (wr.frozen? ⟨w.heap.size + 1 + 1, 0, none⟩ = false) := Lib.hid ((World.frozen?_of_block (w := wa) (a := ⟨w.heap.size + 1 + 1, 0, none⟩) hblk).trans HC.out.2.2.1)
      have HZ1 : Hid (wr.frozen? ⟨w.heap.size + 1 + 1, 1, none⟩ = false) := Lib.hid ((World.frozen?_of_block (w := wa) (a := ⟨w.heap.size + 1 + 1, 1, none⟩) hblk).trans HC.out.2.2.2)
      clear hown hG e hblk
      go_wp2_with fail
      refine (trimmed_any f (some ⟨rb, 0, none⟩) L L (addP p q) _ HR.out (by omega)).mono ?_
      rintro e w6 ⟨k6, rfl, h6, hb6⟩
      unfold pvl
      have hc0 := (hb6.cell (p := ⟨w.heap.size + 1 + 1, 0, none⟩) hsz).trans HC0.out
      have hc1 := (hb6.cell (p := ⟨w.heap.size + 1 + 1, 1, none⟩) hsz).trans HC1.out
      have hz0' := (hb6.frozen (p := ⟨w.heap.size + 1 + 1, 0, none⟩) hsz).trans HZ0.out
      have hz1' := (hb6.frozen (p := ⟨w.heap.size + 1 + 1, 1, none⟩) hsz).trans HZ1.out
      have H6 := Lib.hid h6
      have HB6 := Lib.hid hb6
      clear h6 hb6 hp0
      go_wp2_with fail
      obtain ⟨hr0, hr1⟩ := box_put (w := w6) (b := w.heap.size + 1 + 1) (x := .pointer (some ⟨f, 0, none⟩)) (y := .slice (some ⟨rb, 0, none⟩) k6 L) hc0 hc1
      have hbr := (H6.out.set (b := w.heap.size + 1 + 1) (fun g o e => by cases e; have := HRB.out; omega) 0 (.pointer (some ⟨f, 0, none⟩))).set (b := w.heap.size + 1 + 1) (fun g o e => by cases e; have := HRB.out; omega) 1 (.slice (some ⟨rb, 0, none⟩) k6 L)
      have hfa : FAt w f wr := FAt.of HG.out.fld (grown_trans (fg_below HB0.out) HG.out.grown)
      have hfe := ((hfa.below HB6.out).set (g := w.heap.size + 1 + 1) (by omega) hnef 0 (.pointer (some ⟨f, 0, none⟩))).set (g := w.heap.size + 1 + 1) (by omega) hnef 1 (.slice (some ⟨rb, 0, none⟩) k6 L)
      exact bodyPost_ret (v := .agg #[.pointer (some ⟨f, 0, none⟩), .slice (some ⟨rb, 0, none⟩) k6 L]) (by simp [results, Try.results77, go_sem, hr0, hr1]) rfl ⟨_, _, _, rfl, hbr, hfe⟩
end Go.Proofs.Ytfplfkebamgniaa
