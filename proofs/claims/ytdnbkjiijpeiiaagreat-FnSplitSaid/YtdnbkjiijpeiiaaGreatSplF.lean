/- The points along a curve; the draws that a curve comes of. -/
import Derived.Test.YtdnbkjiijpeiiaaGreatSplE
import Derived.Test.YtdnbkjiijpeiiaaGreatSpl7
import Derived.Deep.Cut
namespace Go.Proofs.YtdnbkjiijpeiiaaGreat
open Go.RowKit Go.PlainAid G MGF IRow
set_option linter.unusedVariables false
theorem along_succ (fn : B → B) (n : Nat) : along fn (n + 1) = along fn n ++ [(pl n, fn (pl n))] := by
  unfold along
  rw [List.range_succ, List.map_append]
  rfl
set_option maxRecDepth 100000 in
theorem pointsAlong_any (gf : Nat) (lb : Array Value) (m : Int) (w : World) :
    Calls Tryz.prog 59 #[.func (.func gf) #[] lb, .int .i64 m] w fun e w' => e = .returned (.func (.func 78) #[] #[.pointer (some ⟨w.heap.size + 1, 0, none⟩), .pointer (some ⟨w.heap.size, 0, none⟩)]) ∧ w' = (w.alloc (.cells #[.func (.func gf) #[] lb] 79)).alloc (.cells #[.int .i64 m] 2) := by
  go_enter Tryz.func59, Tryz.ntmps59
  go_wp2_with fail
  go_ret
  exact ⟨rfl, rfl⟩
attribute [local go_sem] Oper.semAt_some
set_option maxRecDepth 100000 in
set_option maxHeartbeats 2000000 in
theorem pointsAlong1_in (n f Bm Bc m : Nat) (D : Nat → Prop) (gf : Nat) (lb : Array Value) (fn : B → B) (hm : m ≤ 255) (w : World) (hF : Fld w f) (hC : Cv f D w (.func (.func gf) #[] lb) fn) (hD : ∀ g, D g → g < n)
    (hBm : w.cell? ⟨Bm, 0, none⟩ = some (.int .i64 m)) (hBmf : Bm ≠ f) (hBmn : Bm < n) (hBc : w.cell? ⟨Bc, 0, none⟩ = some (.func (.func gf) #[] lb)) (hBcf : Bc ≠ f) (hBcn : Bc < n) :
    Points n 78 #[.pointer (some ⟨Bm, 0, none⟩), .pointer (some ⟨Bc, 0, none⟩)] f (along fn m) w := by
  intro ll J W hkp hJ hY h0
  obtain ⟨hFW, hKW⟩ := hkp hF
  obtain ⟨gf', lb', hv, heg, hcl⟩ := hC.is
  cases hv
  have HCALL : Hid (∀ u, Fld u f → Keep n f w u → ∀ x, Calls Tryz.prog gf (#[.int .u8 (bi x)] ++ lb) u fun e u' => e = .returned (.int .u8 (bi (fn x))) ∧ FAt u f u') := Lib.hid (fun u hu hk x => hcl u hu (fun g hg => hk.block g (hD g hg) (hC.lt g hg).1 (hC.lt g hg).2) x)
  have hmW := hKW.cell hBm hBmn hBmf
  have hw8 : IntKind.u8.wrap (m : Int) = m := by rw [IntKind.wrap_u8]; omega
  have HBC : Hid (∀ u, Keep n f w u → u.cell? ⟨Bc, 0, none⟩ = some (.func (.func gf) #[] lb)) := Lib.hid (fun u hu => hu.cell hBc hBcn hBcf)
  clear hcl hC hD hBm hBc
  refine callsIn_of_wp Tryz.func78 rfl trivial ?_ rfl
  simp only [Tryz.ntmps78, List.size_toArray, List.length_cons, List.length_nil, Nat.reduceAdd, Nat.reduceSub, Array.replicate_succ, Array.replicate_zero, List.push_toArray, List.append_toArray, List.nil_append, List.cons_append]
  gi_wp2
  gi_loopw [7] (fun i' wr => ∃ k : Nat, k ≤ m ∧ i' = .int .u8 k ∧ J (along fn k) wr ∧ Fld wr f ∧ Keep n f w wr) (fun i' _ => m - (intOf i').toNat)
  case atStart => exact ⟨0, Nat.zero_le _, rfl, h0, hFW, hKW⟩
  case round =>
    obtain ⟨k, hk, rfl, hJs, hFr, hKr⟩ := hrel
    by_cases hlt : k < m
    · have hbc := HBC.out _ hKr
      have e1 : bi (pl k) = (k : Int) := pl_bi (by omega)
      have hcall := HCALL.out wr hFr hKr (pl k)
      rw [e1] at hcall
      have HC2 := Lib.hid hcall
      have HJ := Lib.hid hJs
      have HFR := Lib.hid hFr
      have HKR := Lib.hid hKr
      have hki : (k : Int) < (m : Int) := by omega
      clear hcall hJs hFr hKr
      gi_wp2_with fail
      refine ⟨trivial, (callsIn_wide.2 HC2.out).mono ?_⟩
      rintro e w2 ⟨rfl, hf2⟩
      have hJ2 := hJ _ _ _ HJ.out ⟨HFR.out, hf2⟩
      have hK2 : Keep n f w w2 := HKR.out.fat hf2
      obtain ⟨fn', tmps, assign, body, hy, hR⟩ := hY _ (pl k, fn (pl k)) _ hJ2 (by rw [along_length, along_length]; exact hlt)
      dsimp only at hy hR
      rw [e1] at hy
      have HF2 := Lib.hid hf2.fld
      have HK2 := Lib.hid hK2
      clear hJ2 hK2 hf2 hbc
      gi_wp2_with fail
      refine hR.mono ?_
      rintro e W3 ⟨rfl, hJ3, hk3⟩
      obtain ⟨hf3, hk3⟩ := hk3 HF2.out
      gi_wp2
      go_roundw
      case rel => exact ⟨k + 1, by omega, by go_num, by rw [along_succ]; exact hJ3, hf3, HK2.out.trans hk3⟩
      case measure => simp [intOf]; omega
    · obtain rfl : k = m := by omega
      gi_wp2
      go_end0
      exact ⟨⟨_, rfl⟩, hJs⟩
end Go.Proofs.YtdnbkjiijpeiiaaGreat
/- The draws that a curve comes of. -/
namespace Go.Proofs.YtdnbkjiijpeiiaaGreat
open Go.RowKit Go.PlainAid G MGF IRow
set_option linter.unusedVariables false
theorem FAt.deep {W u v : World} {f : Nat} (h : FAt W f u) (hb : Below W.heap.size u v) (hf : f < W.heap.size) : FAt W f v := by
  have hg := h.grown
  have hc : ∀ i, v.cell? ⟨f, i, none⟩ = u.cell? ⟨f, i, none⟩ := fun i => World.cell?_of_block (a := ⟨f, i, none⟩) (hb.block f hf)
  have hz : ∀ i, v.frozen? ⟨f, i, none⟩ = u.frozen? ⟨f, i, none⟩ := fun i => by unfold World.frozen?; rw [hb.block f hf]
  have hl : f < v.heap.size := Nat.lt_of_lt_of_le hf (Nat.le_trans hg.size hb.size)
  have hk : ∀ C, Blk u f C → Blk v f C := fun C k => ⟨hl, fun i hi => by rw [hc, hz]; exact k.2 i hi⟩
  exact ⟨h.fld.imp (hk _) (hk _), hb.os.trans hg.os, hb.tape.trans hg.tape, hb.output.trans hg.output, Nat.le_trans hg.size hb.size, fun k hk hne => (hb.block k hk).trans (hg.block k hk hne)⟩
/-- What stands behind the first of a row of bytes. -/
theorem own_behind {f : Nat} {w : World} {base bk L : Nat} {e : TypeId} {p : List B} (h : w.ownsRow base e 1 (.slice (some ⟨bk, 0, none⟩) L L) L ((fl (fun t => bi (cf p t)) L).map (Value.int .u8))) (hL : 1 ≤ L) (hf : f < base) :
    BR f w (cutAt bk 0 1 L) (L - 1) (L - 1) ((List.range (L - 1)).map fun t => cf p (t + 1)) := by
  obtain ⟨hb, hg⟩ := own_heap h
  refine ⟨by simp, Nat.le_refl _, (fun h => by unfold cutAt at h; cases h), fun h0 => ⟨bk, 1, by rw [cutAt_lt (by omega)], (Array.getElem?_eq_some_iff.1 hg).1, by omega, fun i hi => ?_⟩⟩
  have h1 := own_cell8 h (k := 1 + i) (by omega)
  rw [fl_getD _ (by omega)] at h1
  rw [h1]
  simp [cf, List.getD, hi, Nat.add_comm]
set_option maxRecDepth 100000 in
set_option maxHeartbeats 3200000 in
theorem drawsOf_any (f m : Nat) (D : Nat → Prop) (gf : Nat) (lb : Array Value) (fn : B → B) (p : List B) (w : World) (hF : Fld w f) (hC : Cv f D w (.func (.func gf) #[] lb) fn) (hm1 : 1 ≤ m) (hm : m ≤ 10) (hr : Right p) (hl : p.length ≤ m) (he : ∀ x, fn x = ev p x) :
    Calls Tryz.prog 32 #[.pointer (some ⟨f, 0, none⟩), .func (.func gf) #[] lb, .int .i64 (m : Int)] w fun e w' => ∃ a, e = .returned (.slice a (m - 1) (m - 1)) ∧ BR f w' a (m - 1) (m - 1) ((List.range (m - 1)).map fun t => cf p (t + 1)) ∧ FAt w f w' := by
  have hlt := hF.lt
  have HTR : Hid ((nw (along fn m)).1 = p) := Lib.hid (by rw [nw_thr (along_nodup fn (by omega)), along_length]; exact along_thr (by omega) hr hl he)
  have hfd : ∀ (x y : Value) (u : World), (Instr.field 76 (.agg #[x, y]) 1).run Tryz.prog u = .ok y u := fun _ _ _ => by kernel_rfl
  have HF := Lib.hid (FAt.start hF)
  have HC := Lib.hid hC
  obtain ⟨i0, hi, hz0, hz1, hz2⟩ := info_parts infoU8
  clear hF hC hr he
  go_enter Tryz.func32, Tryz.ntmps32
  go_wp2_with (at_make; refine wpList_make_full _ rfl (.tmp 8) (.tmp 8) 22 rfl w.heap.size 5 i0 (.int .u8 0) 1 Tryz.underlying22 hi hz0 hz1 .i64 .i64 _ _ m rfl rfl rfl rfl (by rw [hz2]; omega) (by unfold maxLen; omega) (Nat.le_refl _) ?_; intro w2 hown2 hg2; rw [madeZero8] at hown2; have HO2 := Lib.hid hown2; have HB2 := Lib.hid (below_of_none hg2); clear hown2 hg2)
  refine (pointsAlong_any gf lb (m : Int) _).mono ?_
  rintro e w3 ⟨rfl, hw3⟩
  obtain ⟨wa, hwa⟩ : ∃ u, u = w2.alloc (.cells #[.func (.func gf) #[] lb] 79) := ⟨_, rfl⟩
  rw [← hwa] at hw3
  have sa : wa.heap.size = w2.heap.size + 1 := by rw [hwa]; exact World.size_alloc _ _
  have s3 : w3.heap.size = w2.heap.size + 2 := by rw [hw3, World.size_alloc, sa]
  have ba : Below w2.heap.size w2 wa := by rw [hwa]; exact (Below.refl _ _).alloc (Nat.le_refl _) _
  have b3 : Below wa.heap.size wa w3 := by rw [hw3]; exact (Below.refl _ _).alloc (Nat.le_refl _) _
  have b03 : Below w2.heap.size w2 w3 := ba.trans (b3.mono ba.size)
  have ca : wa.cell? ⟨w2.heap.size, 0, none⟩ = some (.func (.func gf) #[] lb) := by rw [hwa]; exact cell_one _ _ _
  have c3 : w3.cell? ⟨w2.heap.size, 0, none⟩ = some (.func (.func gf) #[] lb) := (b3.cell (p := ⟨w2.heap.size, 0, none⟩) (by show w2.heap.size < _; omega)).trans ca
  have c4 : w3.cell? ⟨w2.heap.size + 1, 0, none⟩ = some (.int .i64 (m : Int)) := by rw [hw3, ← sa]; exact cell_one _ _ _
  have hs2 := HB2.out.size
  have hF3 := (HF.out.below HB2.out).below b03
  have hC3 := (HC.out.below HB2.out).below b03
  have HO3 := Lib.hid (own_below HO2.out b03)
  have HF3 := Lib.hid hF3
  have HTH := Lib.hid (through_any f 78 #[.pointer (some ⟨w2.heap.size + 1, 0, none⟩), .pointer (some ⟨w2.heap.size, 0, none⟩)] (along fn m) w3 hF3.fld (fun u hu => pointsAlong1_in w3.heap.size f (w2.heap.size + 1) w2.heap.size m D gf lb fn (by omega) u hu.fld
    (hC3.grown hu.grown) (fun g hg => (hC3.lt g hg).1) (hu.cell c4 (by show w2.heap.size + 1 ≠ f; omega)) (by omega) (by omega) (hu.cell c3 (by show w2.heap.size ≠ f; omega)) (by omega) (by omega)) (enters_of Tryz.func78 (by kernel_rfl) rfl) (by rw [along_length]; omega))
  clear hw3 hwa sa s3 ba b3 b03 ca c3 c4 hF3 hC3 HC
  go_wp2_with fail
  refine HTH.out.mono ?_
  rintro e w4 ⟨a4, k4, c4, rfl, h4, hf4⟩
  rw [HTR.out] at h4
  have hk4 : k4 ≤ m := by have := h4.len; omega
  have H4 := Lib.hid h4
  have hown4 := hf4.own HO3.out hlt
  have HF4 := Lib.hid (HF3.out.step hf4)
  clear h4 hf4
  obtain ⟨qa, hqa⟩ : ∃ q, q = cutAt w.heap.size 0 1 m := ⟨_, rfl⟩
  have hsl : ∀ W : World, (Instr.slice 22 (.slice (some ⟨w.heap.size, 0, none⟩) m m) (some (.int .i64 1)) none none).run Tryz.prog W = .ok (.slice qa (m - 1) (m - 1)) W := fun W => by
    rw [hqa]
    exact run_cut_from (P := Tryz.prog) W 22 5 Tryz.underlying22 sizeOfU8 w.heap.size 0 m m 1 hm1
  have HQA := Lib.hid hqa
  clear hqa
  go_wp2_with (refine wpList_copy_splice rfl (.tmp 10) (.tmp 16) 22 22 rfl 5 Tryz.underlying22 (by kernel_rfl) _ _ _ _ _ _ rfl rfl w.heap.size 0 ((fl (fun _ => 0) m).map (Value.int .u8)) 5 (own_heap hown4).2 ((pv p).map (Value.int .u8)) (by rw [List.length_map, pv_length, H4.out.len]; exact (Nat.min_eq_left hk4).symm) (fun h0 => ⟨rfl, H4.out.src h0⟩) (by rw [List.length_map, List.length_map, pv_length, H4.out.len, fl_length]; omega) (fun v hv => by obtain ⟨z, _, rfl⟩ := List.mem_map.1 hv; rfl) w.heap.size w4 (Below.refl _ _) (Nat.le_refl _) ?_; intro w5 hh5 hb5; rw [splice_pv _ (by rw [H4.out.len]; exact hk4)] at hh5; have HO5 := Lib.hid (own_of_heap (Nat.le_refl w.heap.size) hh5.out (by rw [List.length_map, fl_length]) (by unfold maxLen; omega)); have HF5 := Lib.hid (HF4.out.deep hb5 hlt); have hbr := own_behind (f := f) HO5.out hm1 hlt; rw [← HQA.out] at hbr; have HBR := Lib.hid hbr; clear hbr hb5 hh5 hown4)
  go_ret
  exact ⟨_, rfl, HBR.out, HF5.out⟩
end Go.Proofs.YtdnbkjiijpeiiaaGreat
