/- The program's polynomials: products. -/
import Derived.Test.YtdnbkjiijpeiiaaGreatPolyA
namespace Go.Proofs.YtdnbkjiijpeiiaaGreat
open Go.RowKit Go.PlainAid G IRow MGF
set_option linter.unusedVariables false
theorem mul_made' {p q : List B} {L : Nat} (hL : p.length + q.length = L) : ∃ r : List B, fl (fun t => bi (cf (mulP p q) t)) L = pv r ∧ r.length = L ∧ trim r = trim (mulP p q) := by
  obtain ⟨r, h1, h2, h3⟩ := fl_pv_same (p := mulP p q) (n := L)
  refine ⟨r, h1, h2, trim_eq (fun i => ?_)⟩
  by_cases h : i < L
  · exact h3 i h
  · rw [cf_past (p := r) (by omega), cf_mulP_past p q i (by omega)]
set_option maxRecDepth 100000 in
set_option maxHeartbeats 4000000 in
theorem ptimes_any (f : Nat) (a b : Option Addr) (n m cap cbp : Nat) (p q : List B) (w : World) (h : BR f w a n cap p) (k : BR f w b m cbp q) (hF : Fld w f) (hn : n ≤ 524288) (hm : m ≤ 524288) :
    Calls Tryz.prog 56 #[pvl f (.slice a n cap), pvl f (.slice b m cbp)] w fun e w' => ∃ a' k' c', e = .returned (pvl f (.slice a' k' c')) ∧ BR f w' a' k' c' (trim (mulP p q)) ∧ FAt w f w' := by
  obtain ⟨i0, hi, hz0, hz1, hz2⟩ := info_parts infoU8
  obtain ⟨L, hL⟩ : ∃ L, L = n + m := ⟨_, rfl⟩
  have HLI : Hid ((n : Int) + (m : Int) = (L : Int)) := Lib.hid (by omega)
  have hLs : L ≤ 1048576 := by omega
  have HL := Lib.hid hL
  have HLK := Lib.hid k.len
  have HLH := Lib.hid h.len
  clear hL
  have hlt := hF.lt
  obtain ⟨wa, hwa⟩ : ∃ wa, wa = ((w.alloc (Obj.cells #[Value.pointer (some ⟨f, 0, none⟩), Value.slice a n cap] 76)).alloc (Obj.cells #[Value.pointer (some ⟨f, 0, none⟩), Value.slice b m cbp] 76)).alloc (Obj.cells #[Value.pointer none, Value.slice none 0 0] 76) := ⟨_, rfl⟩
  obtain ⟨hs0, hP, hQ, hR, hfr0, hfr1, hb0⟩ := three_boxes w _ _ _ _ _ _ _ _ _ hwa
  have hFa : Fld wa f := hF.below hb0
  have H0 := Lib.hid (h.below hb0)
  have K0 := Lib.hid (k.below hb0)
  have HFA := Lib.hid hFa
  have HB0 := Lib.hid hb0
  clear h k hF hFa hb0
  unfold pvl
  go_enter Tryz.func56, Tryz.ntmps56
  go_wp2_with (at_make; rw [← hwa]; refine wpList_make_full _ rfl (.tmp 16) (.tmp 16) 22 rfl wa.heap.size 5 i0 (.int .u8 0) 1 Tryz.underlying22 hi hz0 hz1 .i64 .i64 _ _ L rfl rfl (by first | rfl | exact HLI.out | omega) (by first | rfl | exact HLI.out | omega) (by rw [hz2]; omega) (by unfold maxLen; omega) (Nat.le_refl _) ?_; intro w4 hown4 hg4; rw [madeZero8, hs0] at hown4; rw [hs0]; have hP4 := hg4.cell hP.2 (by simp); have HG4 := Lib.hid hg4; clear hg4)
  obtain ⟨rb, hrb⟩ : ∃ r, r = w.heap.size + 3 := ⟨_, rfl⟩
  have HRB : Hid (w.heap.size + 2 < rb) := Lib.hid (by omega)
  simp only [← hrb] at *
  have HS0 := Lib.hid hs0
  have HC := Lib.hid (And.intro hP (And.intro hR (And.intro hfr0 hfr1)))
  have HQ := Lib.hid hQ
  have hnef : f < w.heap.size := hlt
  clear hs0 hrb hP hQ hP4 hR hfr0 hfr1 hwa
  go_loopw [21] (fun i wr => ∃ j : Nat, j ≤ n ∧ i = .int .i64 j ∧ wr.ownsRow rb 5 1 (.slice (some ⟨rb, 0, none⟩) L L) L ((fl (fun t => bi (cf (mulP (p.take j) q) t)) L).map (Value.int .u8)) ∧ FAt wa f wr) (fun i _ => n - (intOf i).toNat)
  case atStart => exact ⟨0, Nat.zero_le _, rfl, by rw [List.take_zero, mulP, fl_congr (g := fun _ => 0) (fun i _ => by rw [cf_nil]; rfl)]; exact hown4, (FAt.start HFA.out).below (below_of_none HG4.out)⟩
  case round =>
    obtain ⟨i, hii, rfl, hown, hG⟩ := hrel
    by_cases hlt : i < n
    · rw [fl_congr (g := fun t => bi (mid p q i 0 t)) (fun t _ => by rw [mid_zero])] at hown
      obtain ⟨g, o, rfl, hg, hne, hc⟩ := H0.out.cells (by omega)
      have hci := hG.cell (hc i hlt) hne
      have hq1 := hG.cell HQ.out.2 (by show w.heap.size + 1 ≠ f; omega)
      have HO := Lib.hid hown
      have HG := Lib.hid hG
      clear hown hown4 hG hc
      go_wp2_with fail
      go_loopw [29] (fun v wr => ∃ k : Nat, k ≤ m ∧ v = .int .i64 k ∧ wr.ownsRow rb 5 1 (.slice (some ⟨rb, 0, none⟩) L L) L ((fl (fun t => bi (mid p q i k t)) L).map (Value.int .u8)) ∧ FAt wa f wr) (fun v _ => m - (intOf v).toNat)
      case atStart => exact ⟨0, Nat.zero_le _, rfl, HO.out, HG.out⟩
      case round =>
        obtain ⟨k, hk, rfl, hown, hG⟩ := hrel
        by_cases hlt2 : k < m
        · obtain ⟨g', o', rfl, hg', hne', hc'⟩ := K0.out.cells (by omega)
          have hck := hG.cell (hc' k hlt2) hne'
          have hHF : Hid (f < rb) := Lib.hid (by have := HRB.out; omega)
          have hWH : Hid (wa.heap.size ≤ rb ∧ f < wa.heap.size) := Lib.hid (by have := HS0.out; have := HRB.out; omega)
          have hjL : i + k < L := by have := HLI.out; omega
          have hon := hown
          have hoc := own_cell8 hon hjL
          rw [fl_getD _ hjL] at hoc
          have hof := hon.frozenAt (i + k)
          have HX : Hid (∀ u : World, u.ownsRow rb 5 1 (.slice (some ⟨rb, 0, none⟩) L L) L ((fl (fun t => bi (mid p q i k t)) L).map (Value.int .u8)) → u.cell? ⟨rb, i + k, none⟩ = some (.int .u8 (bi (mid p q i k (i + k)))) ∧ u.frozen? ⟨rb, i + k, none⟩ = false) := Lib.hid (fun u hu => ⟨by have := own_cell8 hu hjL; rwa [fl_getD _ hjL] at this, hu.frozenAt (i + k)⟩)
          have HSt : Hid (∀ u : World, u.ownsRow rb 5 1 (.slice (some ⟨rb, 0, none⟩) L L) L ((fl (fun t => bi (mid p q i k t)) L).map (Value.int .u8)) → (u.setCell ⟨rb, i + k, none⟩ (.int .u8 (bi (mid p q i k (i + k) ^^^ mul (cf p i) (cf q k))))).ownsRow rb 5 1 (.slice (some ⟨rb, 0, none⟩) L L) L ((fl (fun t => bi (mid p q i (k + 1) t)) L).map (Value.int .u8))) := Lib.hid (fun u hu => by
            have hs := own_stored8 hu (i + k) (bi (mid p q i k (i + k) ^^^ mul (cf p i) (cf q k)))
            rw [fl_set, fl_congr (g := fun t => bi (mid p q i (k + 1) t)) (fun t _ => by
              rw [← mid_next]
              by_cases h1 : t = i + k
              · rw [if_pos h1, if_pos h1]
              · rw [if_neg h1, if_neg h1])] at hs
            exact hs)
          have HPR : Hid (∀ u, FAt wa f u → u.cell? ⟨w.heap.size, 0, none⟩ = some (.pointer (some ⟨f, 0, none⟩))) := Lib.hid (fun u hu => hu.cell HC.out.1.1 (by show w.heap.size ≠ f; omega))
          have hoc' : wr.drew.cell? ⟨rb, i + k, none⟩ = _ := hoc
          have hof' : wr.drew.frozen? ⟨rb, i + k, none⟩ = _ := hof
          replace hon : wr.drew.ownsRow rb 5 1 (.slice (some ⟨rb, 0, none⟩) L L) L ((fl (fun t => bi (mid p q i k t)) L).map (Value.int .u8)) := hon
          have hFn := hG.drew
          have hw : IntKind.i64.wrap ((i : Int) + (k : Int)) = (i : Int) + (k : Int) := by rw [IntWalk.i64_in _ (by omega)]
          have htn : ((i : Int) + (k : Int)).toNat = i + k := by omega
          have hp0 : (0 : Int) ≤ (i : Int) + (k : Int) := by omega
          have hp1 : (i : Int) + (k : Int) < (L : Int) := by omega
          have hmT := mTimes f
          have hmP := mPlus f
          have HT := Lib.hid (fun u => times_any f (cf p i) (cf q k) u)
          have HPl := Lib.hid (fun u => ringPlus_any f (mid p q i k (i + k)) (mul (cf p i) (cf q k)) u)
          clear hown hG HO HG hoc hof hc'
          obtain ⟨Ow, hOw⟩ : ∃ Ow : World → Prop, Ow = fun u => u.ownsRow rb 5 1 (.slice (some ⟨rb, 0, none⟩) L L) L ((fl (fun t => bi (mid p q i k t)) L).map (Value.int .u8)) := ⟨_, rfl⟩
          have HOg : Hid (∀ u v, Ow u → u.grownBy v (some f) → Ow v) := Lib.hid (fun u v hu hg => by rw [hOw] at hu ⊢; exact own_fg hu hg hHF.out)
          have hOn : Ow wr.drew := by rw [hOw]; exact hon
          have HOw := Lib.hid hOw
          change Hid (∀ u : World, (fun u => u.ownsRow rb 5 1 (.slice (some ⟨rb, 0, none⟩) L L) L ((fl (fun t => bi (mid p q i k t)) L).map (Value.int .u8))) u → _) at HX
          change Hid (∀ u : World, (fun u => u.ownsRow rb 5 1 (.slice (some ⟨rb, 0, none⟩) L L) L ((fl (fun t => bi (mid p q i k t)) L).map (Value.int .u8))) u → _) at HSt
          rw [← hOw] at HX HSt
          clear hOw hon
          obtain ⟨z, hz⟩ : ∃ z, z = mid p q i k (i + k) ^^^ mul (cf p i) (cf q k) := ⟨_, rfl⟩
          rw [← hz] at HPl HSt
          clear hz
          generalize mid p q i k (i + k) = u0 at *
          generalize mul (cf p i) (cf q k) = v0 at *
          generalize cf p i = x at *
          generalize cf q k = y at *
          go_wp2_with fail
          have hr0 := HPR.out _ hFn
          go_region_with (first
              | (go_at_call 61; refine Calls.mono (HT.out _ hFn.fld) ?_; rintro e w1 ⟨rfl, hf1, hg1⟩; have hFn := hFn.step (FAt.of hf1 hg1); have hr1 := HPR.out _ hFn; have hOn := HOg.out _ _ hOn hg1; obtain ⟨hoc1, hof1⟩ := HX.out _ hOn)
              | (go_at_call 31; refine Calls.mono (HPl.out _) ?_; rintro e w1 ⟨rfl, rfl⟩))
          all_goals
            have hS1 := HSt.out _ hOn
            have hF1 := hFn.set hWH.out.1 hWH.out.2 (i + k) (Value.int .u8 (bi z))
            clear HX HSt HPR HT HPl HOg
            go_wp2_with fail
            go_roundw
            case rel => exact ⟨k + 1, by omega, by go_num, hS1, hF1⟩
            case measure => simp [intOf] <;> omega
        · obtain rfl : k = m := by omega
          have e : fl (fun t => bi (mid p q i k t)) L = fl (fun t => bi (cf (mulP (p.take (i + 1)) q) t)) L := fl_congr (fun t _ => by
            have := mid_end (p := p) (q := q) (i := i) (by rw [HLH.out]; omega) t
            rw [HLK.out] at this
            rw [this])
          rw [e] at hown
          have HS := Lib.hid hown
          have HB2 := Lib.hid hG
          clear hown hG e HO HG
          go_wp2_with fail
          go_roundw
          case rel => exact ⟨i + 1, by omega, by go_num, HS.out, HB2.out⟩
          case measure => simp [intOf] <;> omega
    · obtain rfl : i = n := by omega
      rw [← HLH.out, mulP_take_all] at hown
      obtain ⟨r, hr1, hr2, hr3⟩ := mul_made' (p := p) (q := q) (L := L) (by rw [HLH.out, HLK.out]; exact HL.out.symm)
      rw [hr1] at hown
      have HR := Lib.hid (BR.own hown (f := f) (by have := HRB.out; omega))
      have HT := Lib.hid hr3
      have HG := Lib.hid hG
      have hsz : w.heap.size + 1 + 1 < wr.heap.size := by have := hG.grown.size; have := HS0.out; have := HRB.out; omega
      have hp0 := hG.cell HC.out.1.1 (by show w.heap.size ≠ f; omega)
      have HC0 : Hid (wr.cell? ⟨w.heap.size + 1 + 1, 0, none⟩ = some (.pointer none)) := Lib.hid (hG.cell HC.out.2.1.1 (by show w.heap.size + 2 ≠ f; omega))
      have HC1 : Hid (wr.cell? ⟨w.heap.size + 1 + 1, 1, none⟩ = some (.slice none 0 0)) := Lib.hid (hG.cell HC.out.2.1.2 (by show w.heap.size + 2 ≠ f; omega))
      have hblk := hG.grown.block (w.heap.size + 1 + 1) (by have := HS0.out; have := HRB.out; omega) (by simp; omega)
      have HZ0 : Hid (wr.frozen? ⟨w.heap.size + 1 + 1, 0, none⟩ = false) := Lib.hid ((World.frozen?_of_block (w := wa) (a := ⟨w.heap.size + 1 + 1, 0, none⟩) hblk).trans HC.out.2.2.1)
      have HZ1 : Hid (wr.frozen? ⟨w.heap.size + 1 + 1, 1, none⟩ = false) := Lib.hid ((World.frozen?_of_block (w := wa) (a := ⟨w.heap.size + 1 + 1, 1, none⟩) hblk).trans HC.out.2.2.2)
      clear hown hown4 hG hblk hr1 hr3
      go_wp2_with fail
      refine (trimmed_any f (some ⟨rb, 0, none⟩) L L r _ HR.out (by omega)).mono ?_
      rintro e w6 ⟨k6, rfl, h6, hb6⟩
      unfold pvl
      rw [HT.out] at h6
      have hc0 := (hb6.cell (p := ⟨w.heap.size + 1 + 1, 0, none⟩) hsz).trans HC0.out
      have hc1 := (hb6.cell (p := ⟨w.heap.size + 1 + 1, 1, none⟩) hsz).trans HC1.out
      have hz0' := (hb6.frozen (p := ⟨w.heap.size + 1 + 1, 0, none⟩) hsz).trans HZ0.out
      have hz1' := (hb6.frozen (p := ⟨w.heap.size + 1 + 1, 1, none⟩) hsz).trans HZ1.out
      have H6 := Lib.hid h6
      have HB6 := Lib.hid hb6
      clear h6 hb6 hp0
      go_wp2_with fail
      obtain ⟨hr0, hr1⟩ := box_put (w := w6) (b := w.heap.size + 1 + 1) (x := .pointer (some ⟨f, 0, none⟩)) (y := .slice (some ⟨rb, 0, none⟩) k6 L) hc0 hc1
      have hbr := (H6.out.set (b := w.heap.size + 1 + 1) (fun g o e => by cases e; have := HRB.out; omega) 0 (.pointer (some ⟨f, 0, none⟩))).set (b := w.heap.size + 1 + 1) (fun g o e => by cases e; have := HRB.out; omega) 1 (.slice (some ⟨rb, 0, none⟩) k6 L)
      have hfa : FAt w f wr := FAt.of HG.out.fld (grown_trans (fg_below HB0.out) HG.out.grown)
      have hfe := ((hfa.below HB6.out).set (g := w.heap.size + 1 + 1) (by omega) hnef 0 (.pointer (some ⟨f, 0, none⟩))).set (g := w.heap.size + 1 + 1) (by omega) hnef 1 (.slice (some ⟨rb, 0, none⟩) k6 L)
      exact bodyPost_ret (v := .agg #[.pointer (some ⟨f, 0, none⟩), .slice (some ⟨rb, 0, none⟩) k6 L]) (by simp [results, Tryz.results56, go_sem, hr0, hr1]) rfl ⟨_, _, _, rfl, hbr, hfe⟩
end Go.Proofs.YtdnbkjiijpeiiaaGreat
