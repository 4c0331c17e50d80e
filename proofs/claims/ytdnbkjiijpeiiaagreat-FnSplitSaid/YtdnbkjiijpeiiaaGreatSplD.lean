/- The points that parts have at a place; what parts make. -/
import Derived.Test.YtdnbkjiijpeiiaaGreatSplC
import Derived.Test.YtdnbkjiijpeiiaaGreatTillY
import Derived.Deep.Cut
namespace Go.Proofs.YtdnbkjiijpeiiaaGreat
open Go.RowKit Go.PlainAid G MGF IRow
set_option linter.unusedVariables false
set_option maxRecDepth 100000 in
theorem pointsIn_any (i : Nat) (a : Option Addr) (n cap : Nat) (w : World) :
    Calls Tryz.prog 67 #[.int .i64 i, .slice a n cap] w fun e w' => e = .returned (.func (.func 79) #[] #[.pointer (some ⟨w.heap.size + 1, 0, none⟩), .pointer (some ⟨w.heap.size, 0, none⟩)]) ∧ w' = (w.alloc (.cells #[.int .i64 i] 3)).alloc (.cells #[.slice a n cap] 25) := by
  go_enter Tryz.func67, Tryz.ntmps67
  go_wp2_with fail
  go_ret
  exact ⟨rfl, rfl⟩
attribute [local go_sem] Oper.semAt_some
set_option maxRecDepth 100000 in
set_option maxHeartbeats 2000000 in
theorem pointsIn1_in (n f Bs Bp : Nat) (a : Option Addr) (len cap : Nat) (l : List (Int × ByteArray)) (i : Nat) (hlen : len ≤ 1048576) (w : World) (hF : Fld w f)
    (hBs : w.cell? ⟨Bs, 0, none⟩ = some (.slice a len cap)) (hBf : Bs ≠ f) (hBn : Bs < n) (hBp : w.cell? ⟨Bp, 0, none⟩ = some (.int .i64 i)) (hBpf : Bp ≠ f) (hBpn : Bp < n)
    (hP : HR w a len cap l) (hPn : 0 < len → ∀ g o, a = some ⟨g, o, none⟩ → g < n ∧ g ≠ f) (hx : ∀ t, t < len → 1 ≤ (l.getD t shD).1 ∧ (l.getD t shD).1 ≤ 255 ∧ i < (l.getD t shD).2.size) :
    Points n 79 #[.pointer (some ⟨Bs, 0, none⟩), .pointer (some ⟨Bp, 0, none⟩)] f (ptsAt l i) w := by
  intro ll J W hkp hJ hY h0
  have hl : (ptsAt l i).length = len := by have := hP.len; rw [ptsAt_length]; exact this
  obtain ⟨hFW, hKW⟩ := hkp hF
  have hBW := hKW.cell hBs hBn hBf
  have HX := Lib.hid hx
  clear hx
  refine callsIn_of_wp Tryz.func79 rfl trivial ?_ rfl
  simp only [Tryz.ntmps79, List.size_toArray, List.length_cons, List.length_nil, Nat.reduceAdd, Nat.reduceSub, Array.replicate_succ, Array.replicate_zero, List.push_toArray, List.append_toArray, List.nil_append, List.cons_append]
  gi_wp2
  gi_loopw [8] (fun i' wr => ∃ k : Nat, k ≤ len ∧ i' = .int .i64 k ∧ J ((ptsAt l i).take k) wr ∧ Fld wr f ∧ Keep n f w wr) (fun i' _ => len - (intOf i').toNat)
  case atStart => exact ⟨0, Nat.zero_le _, rfl, h0, hFW, hKW⟩
  case round =>
    obtain ⟨k, hk, rfl, hJs, hFr, hKr⟩ := hrel
    by_cases hlt : k < len
    · obtain ⟨g, o, rfl, hg, hc1, hc2⟩ := hP.at hlt
      have hgn := hPn (by omega) g o rfl
      have hcx := hKr.cell hc1 hgn.1 hgn.2
      have hcy := hKr.cell hc2 hgn.1 hgn.2
      have hxk := HX.out k hlt
      have HQ := Lib.hid (ptsAt_getD (l := l) (i := i) (k := k) (by rw [← ptsAt_length l i]; omega))
      have htk : (ptsAt l i).take (k + 1) = (ptsAt l i).take k ++ [(ptsAt l i).getD k (0, 0)] := by
        have e2 : (ptsAt l i).getD k (0, 0) = (ptsAt l i)[k] := by simp [List.getD, List.getElem?_eq_getElem (show k < (ptsAt l i).length by omega)]
        rw [e2]
        exact (List.take_append_getElem (by omega)).symm
      rw [HQ.out] at htk
      have HTK := Lib.hid htk
      have HBP := Lib.hid (hKr.cell hBp hBpn hBpf)
      clear htk hBs hP hc1 hc2 HQ hBp
      generalize l.getD k shD = q at *
      obtain ⟨x, t⟩ := q
      dsimp only at hcx hcy hxk HTK
      obtain ⟨X, rfl⟩ := byte_of (show 0 ≤ x by omega) (show x ≤ 255 by omega)
      rw [ib_bi] at HTK
      obtain ⟨hx1, hx2, hx3⟩ := hxk
      have hti := tb_cf t hx3
      obtain ⟨Y, hYd⟩ : ∃ Y, Y = cf (tb t) i := ⟨_, rfl⟩
      rw [← hYd] at hti HTK
      obtain ⟨wb, hwb⟩ : ∃ u, u = wr.alloc (.cells #[.int .i64 (bi X), .string t] 43) := ⟨_, rfl⟩
      have hJa : J ((ptsAt l i).take k) wb := by rw [hwb]; exact hJ _ _ _ hJs ⟨hFr, (FAt.start hFr).alloc _⟩
      have hba : Keep n f w wb := by rw [hwb]; exact hKr.alloc _
      have hfa : Fld wb f := by rw [hwb]; exact hFr.alloc _
      have hJd : J ((ptsAt l i).take k) wb.drew := hJ _ _ _ hJa ⟨hfa, (FAt.start hfa).drew⟩
      have hpb0 : wb.cell? ⟨wr.heap.size, 0, none⟩ = some (.int .i64 (bi X)) := by rw [hwb]; exact World.cell?_alloc_new wr _ _ 0
      have hpb1 : wb.cell? ⟨wr.heap.size, 1, none⟩ = some (.string t) := by rw [hwb]; exact World.cell?_alloc_new wr _ _ 1
      have hpl : wb.cell? ⟨Bp, 0, none⟩ = some (.int .i64 i) := by rw [hwb, World.cell?_of_block (w := wr) (Below.heap_alloc _ _ _ (World.block_lt_of_cell? _ _ HBP.out))]; exact HBP.out
      obtain ⟨fn, tmps, assign, body, hy, hR⟩ := hY _ (X, Y) _ hJd (by rw [List.length_take]; omega)
      dsimp only at hy hR
      have HR0 := Lib.hid hR
      have HWB := Lib.hid hwb
      have hmx := b_mod X
      have hxs : (i : Int) < (t.size : Int) := by omega
      clear hx1 hx2
      have hw8 : IntKind.u8.wrap (bi X) = bi X := by have := bi_range X; rw [IntKind.wrap_u8]; omega
      have HTI := Lib.hid hti
      have HIS := Lib.hid hx3
      clear hwb hJs hFr hKr hJa hJd hR hti hYd HBP
      gi_wp2_with fail
      rw [← HWB.out]
      refine TillY.region (t := 8) rfl (fun u => u = wb.drew) ?_
      refine TillY.take (i := 0) (v := .func (.yield ll) #[] #[]) rfl rfl rfl rfl (by kernel_rfl) (by kernel_rfl) (by kernel_rfl) (by kernel_rfl) (by kernel_rfl) rfl (fun u hu => by subst hu; go_simp) ?_
      simp only [Act.put, List.getElem_toArray, List.getElem_cons_zero, List.setIfInBounds_toArray, List.set_cons_zero, List.set_cons_succ]
      refine TillY.take (i := 1) (v := .pointer (some ⟨wr.heap.size, 0, none⟩)) rfl rfl rfl rfl (by kernel_rfl) (by kernel_rfl) (by kernel_rfl) (by kernel_rfl) (by kernel_rfl) rfl (fun u hu => by subst hu; go_simp) ?_
      simp only [Act.put, List.getElem_toArray, List.getElem_cons_zero, List.getElem_cons_succ, List.setIfInBounds_toArray, List.set_cons_zero, List.set_cons_succ]
      refine TillY.take (i := 2) (v := .int .i64 (bi X)) rfl rfl rfl rfl (by kernel_rfl) (by kernel_rfl) (by kernel_rfl) (by kernel_rfl) (by kernel_rfl) rfl (fun u hu => by subst hu; go_simp) ?_
      simp only [Act.put, List.getElem_toArray, List.getElem_cons_zero, List.getElem_cons_succ, List.setIfInBounds_toArray, List.set_cons_zero, List.set_cons_succ]
      refine TillY.take (i := 3) (v := .int .u8 (bi X)) rfl rfl rfl rfl (by kernel_rfl) (by kernel_rfl) (by kernel_rfl) (by kernel_rfl) (by kernel_rfl) rfl (fun u hu => by subst hu; go_simp) ?_
      simp only [Act.put, List.getElem_toArray, List.getElem_cons_zero, List.getElem_cons_succ, List.setIfInBounds_toArray, List.set_cons_zero, List.set_cons_succ]
      refine TillY.take (i := 4) (v := .pointer (some ⟨wr.heap.size, 1, none⟩)) rfl rfl rfl rfl (by kernel_rfl) (by kernel_rfl) (by kernel_rfl) (by kernel_rfl) (by kernel_rfl) rfl (fun u hu => by subst hu; go_simp) ?_
      simp only [Act.put, List.getElem_toArray, List.getElem_cons_zero, List.getElem_cons_succ, List.setIfInBounds_toArray, List.set_cons_zero, List.set_cons_succ]
      refine TillY.take (i := 5) (v := .string t) rfl rfl rfl rfl (by kernel_rfl) (by kernel_rfl) (by kernel_rfl) (by kernel_rfl) (by kernel_rfl) rfl (fun u hu => by subst hu; go_simp) ?_
      simp only [Act.put, List.getElem_toArray, List.getElem_cons_zero, List.getElem_cons_succ, List.setIfInBounds_toArray, List.set_cons_zero, List.set_cons_succ]
      refine TillY.take (i := 6) (v := .int .i64 (i : Int)) rfl rfl rfl rfl (by kernel_rfl) (by kernel_rfl) (by kernel_rfl) (by kernel_rfl) (by kernel_rfl) rfl (fun u hu => by subst hu; go_simp) ?_
      simp only [Act.put, List.getElem_toArray, List.getElem_cons_zero, List.getElem_cons_succ, List.setIfInBounds_toArray, List.set_cons_zero, List.set_cons_succ]
      have hix : ∀ u : World, (Instr.index 9 (.string t) (.int .i64 (i : Int))).run Tryz.prog u = .ok (.int .u8 (bi Y)) u := fun u => by
        go_simp
        exact HTI.out.symm
      refine TillY.take (i := 7) (v := .int .u8 (bi Y)) rfl rfl rfl rfl (by kernel_rfl) (by kernel_rfl) (by kernel_rfl) (by kernel_rfl) (by kernel_rfl) rfl (fun u hu => by subst hu; go_simp) ?_
      simp only [Act.put, List.getElem_toArray, List.getElem_cons_zero, List.getElem_cons_succ, List.setIfInBounds_toArray, List.set_cons_zero, List.set_cons_succ]
      refine TillY.hands (by kernel_rfl) ?_
      refine TillY.yields (l := ll) (f := fn) (tmps := tmps) (assign := assign) (body := body) rfl rfl (by decide) (by go_simp) ?_
      refine HR0.out.mono ?_
      rintro e w3 ⟨rfl, hJ3, hk3⟩
      refine ⟨_, rfl, ?_⟩
      simp only [Act.put, List.getElem_toArray, List.getElem_cons_zero, List.getElem_cons_succ, List.setIfInBounds_toArray, List.set_cons_zero, List.set_cons_succ]
      refine wpAnyIn_ready (rs := [9]) (by kernel_rfl) (by simp) ?_
      refine AllReadyIn.cons rfl (fun K hK => ?_) AllReadyIn.nil
      go_simp
      refine hK _ _ ?_
      refine wpAnyIn_done (by kernel_rfl) ?_ _
      obtain ⟨hf3, hk3⟩ := hk3 (hfa.drew)
      have hkd : Keep n f w wb.drew := hba.drew
      clear hpb0 hpb1 hpl hy
      gi_wp2_with fail
      go_roundw
      case rel => exact ⟨k + 1, by omega, by simp, by rw [HTK.out]; exact hJ3, hf3, hkd.trans hk3⟩
      case measure => simp [intOf]; omega
    · obtain rfl : k = len := by omega
      rw [List.take_of_length_le (by omega)] at hJs
      gi_wp2
      go_end0
      exact ⟨⟨_, rfl⟩, hJs⟩
theorem HR.fat {w u : World} {f : Nat} {a : Option Addr} {n cap : Nat} {l : List (Int × ByteArray)} (h : HR w a n cap l) (k : FAt w f u) (hne : 0 < n → ∀ g o, a = some ⟨g, o, none⟩ → g ≠ f) : HR u a n cap l := SR.grown h k.grown (fun hn g o e => by simpa using hne hn g o e)
set_option maxRecDepth 100000 in
set_option maxHeartbeats 3200000 in
theorem combined_any (a : Option Addr) (n cap : Nat) (l : List (Int × ByteArray)) (w : World) (h : HR w a n cap l) (h0 : partsCode l = 0) :
    Calls Tryz.prog 37 #[.slice a n cap] w fun e w' => e = .returned (.string (tx (combL l))) ∧ Below w.heap.size w w' := by
  obtain ⟨hpB, hqB, hsB⟩ := partsCode_zero h0
  obtain ⟨hn1, hn20, hat⟩ := partsB_at hpB
  have hl := h.len
  rw [hl] at hn1 hn20
  obtain ⟨m, hm⟩ : ∃ m, m = (l.getD 0 shD).2.size := ⟨_, rfl⟩
  have hsz : ∀ t, t < l.length → (l.getD t shD).2.size = m := fun t ht => by
    unfold sizeB at hsB
    have := List.all_eq_true.1 hsB _ (List.getElem_mem ht)
    rw [← getD_mem shD ht] at this
    rw [hm]
    exact of_decide_eq_true this
  have hm16 : m ≤ 16 := by rw [hm]; exact (hat 0 (by omega)).2.2.2
  have HXI : Hid (∀ i, i < m → ∀ t, t < n → 1 ≤ (l.getD t shD).1 ∧ (l.getD t shD).1 ≤ 255 ∧ i < (l.getD t shD).2.size) := Lib.hid (fun i hi t ht => by
    have := hat t (by omega)
    exact ⟨this.1, this.2.1, by rw [hsz t (by omega)]; exact hi⟩)
  have HND : Hid (∀ i, (xsOf (ptsAt l i)).Nodup) := Lib.hid (fun i => xs_nodup i hqB (fun t ht => by have := hat t ht; exact ⟨this.1, this.2.1⟩))
  have HFL : Hid (fl (fun t => bi (ev (thrS (ptsAt l t) n) 0)) m = pv (combL l)) := Lib.hid (by rw [hm, ← hl]; exact fl_combL l)
  obtain ⟨g, o, rfl, hg, hc1, hc2⟩ := h.at (show 0 < n by omega)
  rw [Nat.zero_mul, Nat.add_zero] at hc2
  obtain ⟨t0, ht0⟩ : ∃ t0, t0 = (l.getD 0 shD).2 := ⟨_, rfl⟩
  rw [← ht0] at hc2 hm
  have HA : Hid (HR w (some ⟨g, o, none⟩) n cap l) := Lib.hid h
  have HGL := Lib.hid hg
  obtain ⟨wf, hwf⟩ : ∃ u, u = w.alloc (.cells Tryz.zeroCells64 64) := ⟨_, rfl⟩
  have hbf : Below w.heap.size w wf := by rw [hwf]; exact (Below.refl _ _).alloc (Nat.le_refl _) _
  have hsf : wf.heap.size = w.heap.size + 1 := by rw [hwf]; exact World.size_alloc _ _
  have HFF : Hid (Fld wf w.heap.size) := Lib.hid (by rw [hwf]; exact fld_new w)
  have hc2f := (hbf.cell (p := ⟨g, o + 1, none⟩) hg).trans hc2
  have HBF := Lib.hid hbf
  have HSF := Lib.hid hsf
  have HWF := Lib.hid hwf
  obtain ⟨i0, hi, hz0, hz1, hz2⟩ := info_parts infoU8
  clear h hc1 hpB hqB hsB hat hsz ht0 h0 hbf hsf hc2 hwf
  subst hm
  go_enter Tryz.func37, Tryz.ntmps37
  go_upto_region 2 with fail
  rw [← HWF.out]
  go_wp2_with (at_make; refine wpList_make_full _ rfl (.tmp 10) (.tmp 10) 22 rfl wf.heap.size 5 i0 (.int .u8 0) 1 Tryz.underlying22 hi hz0 hz1 .i64 .i64 _ _ t0.size rfl rfl rfl rfl (by rw [hz2]; omega) (by unfold maxLen; omega) (Nat.le_refl _) ?_; intro w2 hown2 hg2; rw [madeZero8] at hown2; have HO2 := Lib.hid hown2; have HF2 := Lib.hid ((FAt.start HFF.out).below (below_of_none hg2)); clear hown2 hg2)
  obtain ⟨f, hf⟩ : ∃ f, f = w.heap.size := ⟨_, rfl⟩
  obtain ⟨B, hB⟩ : ∃ B, B = wf.heap.size := ⟨_, rfl⟩
  have HFB : Hid (f < B) := Lib.hid (by rw [hf, hB, HSF.out]; omega)
  have HFE := Lib.hid hf
  have HBE := Lib.hid hB
  rw [← hf] at HF2 ⊢
  rw [← hB] at HO2 ⊢
  clear hf hB
  go_loopw [14] (fun i wr => ∃ j : Nat, j ≤ t0.size ∧ i = .int .i64 j ∧ wr.ownsRow B 5 1 (.slice (some ⟨B, 0, none⟩) t0.size t0.size) t0.size ((fl (fun t => if t < j then bi (ev (thrS (ptsAt l t) n) 0) else 0) t0.size).map (Value.int .u8)) ∧ FAt wf f wr) (fun i _ => t0.size - (intOf i).toNat)
  case atStart => exact ⟨0, Nat.zero_le _, rfl, by rw [fl_congr (g := fun _ => 0) (fun t _ => by rw [if_neg (Nat.not_lt_zero t)])]; exact HO2.out, HF2.out⟩
  case round =>
    obtain ⟨j, hj, rfl, hown, hfw⟩ := hrel
    by_cases hlt2 : j < t0.size
    · have HO := Lib.hid hown
      have HFW := Lib.hid hfw
      clear hown hfw
      go_wp2_with fail
      refine (pointsIn_any j (some ⟨g, o, none⟩) n cap _).mono ?_
      rintro e w3 ⟨rfl, hw3⟩
      obtain ⟨wa, hwa⟩ : ∃ u, u = wr.alloc (.cells #[.int .i64 (j : Int)] 3) := ⟨_, rfl⟩
      rw [← hwa] at hw3
      have sa : wa.heap.size = wr.heap.size + 1 := by rw [hwa]; exact World.size_alloc _ _
      have s3 : w3.heap.size = wr.heap.size + 2 := by rw [hw3, World.size_alloc, sa]
      have ba : Below wr.heap.size wr wa := by rw [hwa]; exact (Below.refl _ _).alloc (Nat.le_refl _) _
      have b3 : Below wa.heap.size wa w3 := by rw [hw3]; exact (Below.refl _ _).alloc (Nat.le_refl _) _
      have b03 : Below wr.heap.size wr w3 := ba.trans (b3.mono ba.size)
      have ca : wa.cell? ⟨wr.heap.size, 0, none⟩ = some (.int .i64 (j : Int)) := by rw [hwa]; exact cell_one _ _ _
      have c3 : w3.cell? ⟨wr.heap.size, 0, none⟩ = some (.int .i64 (j : Int)) := (b3.cell (p := ⟨wr.heap.size, 0, none⟩) (by show wr.heap.size < _; omega)).trans ca
      have c4 : w3.cell? ⟨wr.heap.size + 1, 0, none⟩ = some (.slice (some ⟨g, o, none⟩) n cap) := by rw [hw3, ← sa]; exact cell_one _ _ _
      have hfl : f < wr.heap.size := HFW.out.fld.lt
      have hgf : g ≠ f := by have := HGL.out; have := HFE.out; omega
      have hgw : g < w3.heap.size := by have h1 := HGL.out; have h2 := HBF.out.size; have h3 := HFW.out.grown.size; omega
      have hRw : HR w3 (some ⟨g, o, none⟩) n cap l := ((HR.fat (HA.out.below HBF.out) HFW.out (fun _ g' o' e => by cases e; exact hgf))).below b03
      have hF3 := HFW.out.fld.below b03
      have hon := HO.out
      have HO3 := Lib.hid (own_below hon b03)
      have HFW3 := Lib.hid (HFW.out.below b03)
      have HTH := Lib.hid (through_any f 79 #[.pointer (some ⟨wr.heap.size + 1, 0, none⟩), .pointer (some ⟨wr.heap.size, 0, none⟩)] (ptsAt l j) w3 hF3 (fun u hu => pointsIn1_in w3.heap.size f (wr.heap.size + 1) wr.heap.size (some ⟨g, o, none⟩) n cap l j (by omega) u hu.fld
        (hu.cell c4 (by show wr.heap.size + 1 ≠ f; omega)) (by omega) (by omega) (hu.cell c3 (by show wr.heap.size ≠ f; omega)) (by omega) (by omega) (HR.fat hRw hu (fun _ g' o' e => by cases e; exact hgf)) (fun _ g' o' e => by cases e; exact ⟨hgw, hgf⟩) (HXI.out j hlt2)) (enters_of Tryz.func79 (by kernel_rfl) rfl) (by rw [ptsAt_length, hl]; exact hn20))
      clear hw3 hwa sa s3 ba b3 b03 ca c3 c4 hRw hF3 hon
      go_wp2_with fail
      refine HTH.out.mono ?_
      rintro e w4 ⟨a4, k4, c4, rfl, h4, hf4⟩
      rw [nw_thr (HND.out j), ptsAt_length, hl] at h4
      have hk4 : k4 ≤ 1048576 := by
        have h5 := h4.len
        have h6 := thrS_length (ptsAt l j) n (by rw [ptsAt_length]; omega)
        rw [ptsAt_length] at h6
        omega
      have H4 := Lib.hid h4
      have HO4 := Lib.hid (hf4.own HO3.out HFB.out)
      have HF4 := Lib.hid (HFW3.out.step hf4)
      clear h4 hf4
      go_wp2_with fail
      refine (at_any f a4 k4 c4 (thrS (ptsAt l j) n) 0 _ H4.out HF4.out.fld hk4).mono ?_
      rintro e w5 ⟨rfl, hf5⟩
      have hown5 := hf5.own HO4.out HFB.out
      have hoc := own_cell8 hown5 hlt2
      rw [fl_getD _ hlt2, if_neg (Nat.lt_irrefl j)] at hoc
      have hof := hown5.frozenAt j
      have hs := own_stored8 hown5 j (bi (ev (thrS (ptsAt l j) n) 0))
      rw [fl_set, fl_congr (g := fun t => if t < j + 1 then bi (ev (thrS (ptsAt l t) n) 0) else 0) (fun t _ => by
        by_cases h1 : t = j
        · subst h1; simp
        · rw [if_neg h1]
          by_cases h2 : t < j
          · rw [if_pos h2, if_pos (by omega)]
          · rw [if_neg h2, if_neg (by omega)])] at hs
      have HS := Lib.hid hs
      have HG := Lib.hid ((HF4.out.step hf5).set (g := B) (by rw [HBE.out]; exact Nat.le_refl _) (by rw [← HBE.out]; exact HFB.out) j (.int .u8 (bi (ev (thrS (ptsAt l j) n) 0))))
      generalize bi (ev (thrS (ptsAt l j) n) 0) = z at *
      clear hown5 hs hf5
      go_wp2_with fail
      go_roundw
      case rel => exact ⟨j + 1, by omega, by go_num, HS.out, HG.out⟩
      case measure => simp [intOf]; omega
    · obtain rfl : j = t0.size := by omega
      rw [fl_congr (g := fun t => bi (ev (thrS (ptsAt l t) n) 0)) (fun t ht => by rw [if_pos ht]), HFL.out] at hown
      have hcv := conv_owned (P := Tryz.prog) 22 9 5 Tryz.underlying22 Tryz.underlying5 Tryz.underlying9 B _ _ _ hown
      have HBB : Hid (Below w.heap.size w wr) := Lib.hid (HBF.out.grown hfw.grown HBF.out.size (fun k e => by cases e; rw [HFE.out]; exact Nat.le_refl _))
      clear hown hfw
      go_wp2_with fail
      go_ret
      exact ⟨rfl, HBB.out⟩
set_option maxHeartbeats 1600000 in
theorem implCombine_any (a : Option Addr) (n cap : Nat) (l : List (Int × ByteArray)) (w : World) (h : HR w a n cap l) (hn : n ≤ 1048576) (hs : ∀ t, t < n → (l.getD t shD).2.size ≤ maxLen) :
    Calls Tryz.prog 12 #[.slice a n cap] w (NewSecret (combR l) w) := by
  have hb0 : Below w.heap.size w (w.alloc (Obj.cells #[Value.string ByteArray.empty, Value.int IntKind.i64 0] 34)) := (Below.refl _ _).alloc (Nat.le_refl _) _
  have HBX := Lib.hid (Box2.made w (.string ByteArray.empty) (.int .i64 0) 34)
  have H := Lib.hid (h.below hb0)
  have HS := Lib.hid hs
  have HB0 := Lib.hid hb0
  clear h hs hb0
  by_cases h0 : partsCode l = 0
  · have HF := Lib.hid (combR_yes h0)
    have H0 := Lib.hid h0
    clear h0
    go_enter Tryz.func12, Tryz.ntmps12
    go_wp2_with fail
    refine (partsFault_any a n cap l _ H.out hn HS.out).mono ?_
    rintro e w1 ⟨rfl, hb⟩
    rw [H0.out]
    have H1 := Lib.hid (H.out.below hb)
    have HB1 := Lib.hid (HB0.out.trans (hb.mono HB0.out.size))
    have HBX1 := Lib.hid (HBX.out.below hb)
    clear hb
    go_wp2_with fail
    refine (combined_any a n cap l _ H1.out H0.out).mono ?_
    rintro e w2 ⟨rfl, hb⟩
    obtain ⟨hlt, hc0, hc1, hz0', hz1'⟩ := HBX1.out.below hb
    obtain ⟨hr0, hr1⟩ := box_put (x := .string (tx (combL l))) (y := .int .i64 0) hc0 hc1
    have HR' := Lib.hid (And.intro hr0 hr1)
    have HB2 := Lib.hid (((HB1.out.trans (hb.mono HB1.out.size)).setCell (p := ⟨w.heap.size, 0, none⟩) (Nat.le_refl _) (.string (tx (combL l)))).setCell (p := ⟨w.heap.size, 1, none⟩) (Nat.le_refl _) (.int .i64 0))
    clear hb hr0 hr1 hlt
    go_wp2_with fail
    obtain ⟨hr0, hr1⟩ := HR'.out
    exact bodyPost_ret (v := .agg #[.string (tx (combL l)), .int .i64 0]) (by simp [results, Tryz.results12, go_sem, hr0, hr1]) rfl (ret_secret HF.out HB2.out)
  · obtain ⟨c, hc⟩ : ∃ c, c = partsCode l := ⟨_, rfl⟩
    rw [← hc] at h0
    have HF := Lib.hid (combR_no hc.symm h0)
    have hcb : (c != 0) = true := by rw [bne_iff_ne]; exact h0
    have hcb2 : (c == 0) = false := by rw [beq_eq_false_iff_ne]; exact h0
    have HC := Lib.hid hc
    clear hc h0
    go_enter Tryz.func12, Tryz.ntmps12
    go_wp2_with fail
    refine (partsFault_any a n cap l _ H.out hn HS.out).mono ?_
    rintro e w1 ⟨rfl, hb⟩
    rw [← HC.out]
    obtain ⟨hlt, hc0, hc1, hz0', hz1'⟩ := HBX.out.below hb
    obtain ⟨hr0, hr1⟩ := box_put (x := .string ⟨#[]⟩) (y := .int .i64 c) hc0 hc1
    have HR' := Lib.hid (And.intro hr0 hr1)
    have HB2 := Lib.hid (((HB0.out.trans (hb.mono HB0.out.size)).setCell (p := ⟨w.heap.size, 0, none⟩) (Nat.le_refl _) (.string ⟨#[]⟩)).setCell (p := ⟨w.heap.size, 1, none⟩) (Nat.le_refl _) (.int .i64 c))
    clear hb hr0 hr1 hlt
    go_wp2_with fail
    obtain ⟨hr0, hr1⟩ := HR'.out
    exact bodyPost_ret (v := .agg #[.string ⟨#[]⟩, .int .i64 c]) (by simp [results, Tryz.results12, go_sem, hr0, hr1]) rfl (ret_secret (t := ⟨#[]⟩) HF.out HB2.out)
end Go.Proofs.YtdnbkjiijpeiiaaGreat
