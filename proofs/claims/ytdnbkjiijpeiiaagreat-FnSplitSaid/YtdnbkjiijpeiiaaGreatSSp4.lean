/- What the model makes of parts. -/
import Derived.Test.YtdnbkjiijpeiiaaGreatSSp3
import Derived.Test.YtdnbkjiijpeiiaaGreatSplC
import Derived.Test.YtdnbkjiijpeiiaaGreatHPointA
import Derived.Test.YtdnbkjiijpeiiaaGreatFnPointsA
import Derived.WalkSmall
import Derived.Deep.Cut
import Derived.Deep.QuietTactic
import Derived.BigQuiet
namespace Go.Proofs.YtdnbkjiijpeiiaaGreat
open Go.RowKit Go.PlainAid G MGF IRow
set_option linter.unusedVariables false
theorem run_op_append {P : Program} {o : Oper} {a : Act} {w w' : World} {v' : Value} (s x : Operand) (t : TypeId) (ho : o.op = .call { callee := .builtin .append, args := #[s, x], argTypes := #[t, t] })
    (hr : (Builtin.append_ #[t, t] o.type #[a.eval s, a.eval x]).run P w = .ok v' w') : (execOp a.eval o).run P w = .ok (.value v') w' := by
  unfold execOp
  simp only [ho, resolve, invoke, builtin, Sem.run_bind, Sem.run_pure, Result.andThen_ok, List.map_toArray, List.map_cons, List.map_nil, hr]
set_option maxRecDepth 100000 in
set_option maxHeartbeats 3200000 in
theorem l04Combine_any (a : Option Addr) (n cap : Nat) (l : List (Int × ByteArray)) (w : World) (h : HR w a n cap l) (h0 : partsCode l = 0) :
    Calls Tryz.prog 39 #[.slice a n cap] w fun e w' => e = .returned (.string (tx (combL l))) ∧ Below w.heap.size w w' := by
  obtain ⟨hpB, hqB, hsB⟩ := partsCode_zero h0
  obtain ⟨hn1, hn20, hat⟩ := partsB_at hpB
  have hl := h.len
  rw [hl] at hn1 hn20
  obtain ⟨m, hm⟩ : ∃ m, m = (l.getD 0 shD).2.size := ⟨_, rfl⟩
  have hsz : ∀ t, t < l.length → (l.getD t shD).2.size = m := fun t ht => by
    unfold sizeB at hsB
    have := List.all_eq_true.1 hsB _ (List.getElem_mem ht)
    rw [← getD_mem shD ht] at this
    rw [hm]
    exact of_decide_eq_true this
  have hm16 : m ≤ 16 := by rw [hm]; exact (hat 0 (by omega)).2.2.2
  have HXI : Hid (∀ i, i < m → ∀ t, t < n → 1 ≤ (l.getD t shD).1 ∧ (l.getD t shD).1 ≤ 255 ∧ i < (l.getD t shD).2.size) := Lib.hid (fun i hi t ht => by
    have := hat t (by omega)
    exact ⟨this.1, this.2.1, by rw [hsz t (by omega)]; exact hi⟩)
  have HND : Hid (∀ i, (xsOf (ptsAt l i)).Nodup) := Lib.hid (fun i => xs_nodup i hqB (fun t ht => by have := hat t ht; exact ⟨this.1, this.2.1⟩))
  have HFL : Hid (fl (fun t => bi (ev (thrS (ptsAt l t) n) 0)) m = pv (combL l)) := Lib.hid (by rw [hm, ← hl]; exact fl_combL l)
  obtain ⟨g, o, rfl, hg, hc1, hc2⟩ := h.at (show 0 < n by omega)
  rw [Nat.zero_mul, Nat.add_zero] at hc2
  obtain ⟨t0, ht0⟩ : ∃ t0, t0 = (l.getD 0 shD).2 := ⟨_, rfl⟩
  rw [← ht0] at hc2 hm
  have HA : Hid (HR w (some ⟨g, o, none⟩) n cap l) := Lib.hid h
  have HGL := Lib.hid hg
  have HC2 := Lib.hid hc2
  obtain ⟨i0, hi, hz0, hz1, hz2⟩ := info_parts infoU8
  obtain ⟨j0, ji, jz0, jz1, jz2⟩ := info_parts infoPoint
  have HE : Hid ((w.alloc (.cells #[] 5)).ownsRow w.heap.size 5 1 (.slice (some ⟨w.heap.size, 0, none⟩) 0 0) 0 ((fl (fun t => bi (ev (thrS (ptsAt l t) n) 0)) 0).map (Value.int .u8))) := Lib.hid (own_empty (Nat.le_refl _))
  have HBE : Hid (Below w.heap.size w (w.alloc (.cells #[] 5))) := Lib.hid ((Below.refl _ _).alloc (Nat.le_refl _) _)
  clear h hc1 hc2 hpB hqB hsB hat hsz ht0 h0
  subst hm
  go_enter Tryz.func39, Tryz.ntmps39
  go_wp2_with fail
  go_loopw [3, 4] (fun v i wr => ∃ j : Nat, j ≤ t0.size ∧ i = .int .i64 (j : Int) ∧ wr.ownsRow w.heap.size 5 1 v j ((fl (fun t => bi (ev (thrS (ptsAt l t) n) 0)) j).map (Value.int .u8)) ∧ Below w.heap.size w wr) (fun _ i _ => t0.size - (intOf i).toNat)
  case atStart => exact ⟨0, Nat.zero_le _, rfl, HE.out, HBE.out⟩
  case round =>
    obtain ⟨j, hj, rfl, hown, hbw⟩ := hrel
    generalize wr = wo at *
    have hc2 := (hbw.cell (p := ⟨g, o + 1, none⟩) hg).trans HC2.out
    by_cases hlt : j < t0.size
    · have HO := Lib.hid hown
      have HBW := Lib.hid hbw
      have HP0 : Hid ((wo.alloc (.cells #[] 114)).ownsRow wo.heap.size 114 2 (.slice (some ⟨wo.heap.size, 0, none⟩) 0 0) 0 (flat ((pp (ptsAt l j)).take 0))) := Lib.hid (World.ownsRow_made wo #[] 0 (Nat.le_refl _) (by decide) rfl)
      have HPB : Hid (Below wo.heap.size wo (wo.alloc (.cells #[] 114))) := Lib.hid ((Below.refl _ _).alloc (Nat.le_refl _) _)
      clear hown hbw
      go_wp2_with fail
      clear hc2
      go_loopw [5, 6] (fun v i wx => ∃ t : Nat, t ≤ n ∧ i = .int .i64 (t : Int) ∧ wx.ownsRow wo.heap.size 114 2 v t (flat ((pp (ptsAt l j)).take t)) ∧ Below wo.heap.size wo wx) (fun _ i _ => (n - (intOf i).toNat))
      case atStart => exact ⟨0, Nat.zero_le _, rfl, HP0.out, HPB.out⟩
      case round =>
        obtain ⟨t, ht, rfl, hown, hbx⟩ := hrel
        have hb0x := HBW.out.trans (hbx.mono HBW.out.size)
        by_cases hts : t < n
        · obtain ⟨g', o', ha', _, hd1, hd2⟩ := HR.at (HA.out.below hb0x) hts
          simp only [Option.some.injEq, Addr.mk.injEq, and_true] at ha'
          obtain ⟨rfl, rfl⟩ := ha'
          obtain ⟨hx1, hx2, hx3⟩ := HXI.out j hlt t hts
          have HTK : Hid ((pp (ptsAt l j)).take (t + 1) = (pp (ptsAt l j)).take t ++ [((l.getD t shD).1, ((((l.getD t shD).2)[j]'hx3).toNat : Int))]) := Lib.hid (by
            have hlp : t < (pp (ptsAt l j)).length := by rw [pp_length, ptsAt_length]; omega
            rw [take_getDP hlp, pp_getD, ptsAt_getD (by omega)]
            dsimp only
            rw [bi_ib (by omega) hx2, tb_cf _ hx3])
          have hy0 : 0 ≤ ((((l.getD t shD).2)[j]'hx3).toNat : Int) ∧ ((((l.getD t shD).2)[j]'hx3).toNat : Int) ≤ 255 := by rw [← tb_cf _ hx3]; exact bi_range _
          obtain ⟨hy0, hy1⟩ := hy0
          have hx4 : (j : Int) < ((l.getD t shD).2.size : Int) := by omega
          generalize (l.getD t shD).1 = x at *
          generalize (l.getD t shD).2 = tt at *
          obtain ⟨av, cv, rfl⟩ := own_shape hown
          have HO2 := Lib.hid hown.drew
          have HBX := Lib.hid hbx.drew
          have hgl : g < wr.heap.size := Nat.lt_of_lt_of_le hg hb0x.size
          obtain ⟨S, hSd⟩ : ∃ S : World → Prop, S = fun u => u.cell? ⟨g, o + t * 2, none⟩ = some (.int .i64 x) ∧ u.cell? ⟨g, o + t * 2 + 1, none⟩ = some (.string tt) := ⟨_, rfl⟩
          have hS0 : S wr.drew := by rw [hSd]; exact ⟨hd1, hd2⟩
          clear hown hbx hb0x hd1 hd2
          go_wp2_with fail
          refine Till.region (t := 17) (by kernel_rfl) S (fun a w => _) ?_ (fun _ _ h => h)
          refine Till.take (i := 0) (v := .slice av t cv) rfl rfl rfl rfl (by kernel_rfl) (by kernel_rfl) (by kernel_rfl) (by kernel_rfl) hS0 (fun u hu => by rw [hSd] at hu; obtain ⟨q0, q1⟩ := hu; go_simp) ?_
          simp only [Act.put, List.getElem_toArray, List.getElem_cons_zero, List.setIfInBounds_toArray, List.set_cons_zero, List.set_cons_succ]
          refine Till.take (i := 1) (v := .slice (some ⟨g, o, none⟩) n cap) rfl rfl rfl rfl (by kernel_rfl) (by kernel_rfl) (by kernel_rfl) (by kernel_rfl) hS0 (fun u hu => by rw [hSd] at hu; obtain ⟨q0, q1⟩ := hu; go_simp) ?_
          simp only [Act.put, List.getElem_toArray, List.getElem_cons_zero, List.getElem_cons_succ, List.setIfInBounds_toArray, List.set_cons_zero, List.set_cons_succ]
          refine Till.take (i := 2) (v := .int .i64 (t : Int)) rfl rfl rfl rfl (by kernel_rfl) (by kernel_rfl) (by kernel_rfl) (by kernel_rfl) hS0 (fun u hu => by rw [hSd] at hu; obtain ⟨q0, q1⟩ := hu; go_simp) ?_
          simp only [Act.put, List.getElem_toArray, List.getElem_cons_zero, List.getElem_cons_succ, List.setIfInBounds_toArray, List.set_cons_zero, List.set_cons_succ]
          refine Till.take (i := 3) (v := .pointer (some ⟨g, o + t * 2, none⟩)) rfl rfl rfl rfl (by kernel_rfl) (by kernel_rfl) (by kernel_rfl) (by kernel_rfl) hS0 (fun u hu => by rw [hSd] at hu; obtain ⟨q0, q1⟩ := hu; go_simp) ?_
          simp only [Act.put, List.getElem_toArray, List.getElem_cons_zero, List.getElem_cons_succ, List.setIfInBounds_toArray, List.set_cons_zero, List.set_cons_succ]
          refine Till.take (i := 4) (v := .pointer (some ⟨g, o + t * 2, none⟩)) rfl rfl rfl rfl (by kernel_rfl) (by kernel_rfl) (by kernel_rfl) (by kernel_rfl) hS0 (fun u hu => by rw [hSd] at hu; obtain ⟨q0, q1⟩ := hu; go_simp) ?_
          simp only [Act.put, List.getElem_toArray, List.getElem_cons_zero, List.getElem_cons_succ, List.setIfInBounds_toArray, List.set_cons_zero, List.set_cons_succ]
          refine Till.take (i := 5) (v := .int .i64 x) rfl rfl rfl rfl (by kernel_rfl) (by kernel_rfl) (by kernel_rfl) (by kernel_rfl) hS0 (fun u hu => by rw [hSd] at hu; obtain ⟨q0, q1⟩ := hu; go_simp) ?_
          simp only [Act.put, List.getElem_toArray, List.getElem_cons_zero, List.getElem_cons_succ, List.setIfInBounds_toArray, List.set_cons_zero, List.set_cons_succ]
          refine Till.take (i := 6) (v := .slice (some ⟨g, o, none⟩) n cap) rfl rfl rfl rfl (by kernel_rfl) (by kernel_rfl) (by kernel_rfl) (by kernel_rfl) hS0 (fun u hu => by rw [hSd] at hu; obtain ⟨q0, q1⟩ := hu; go_simp) ?_
          simp only [Act.put, List.getElem_toArray, List.getElem_cons_zero, List.getElem_cons_succ, List.setIfInBounds_toArray, List.set_cons_zero, List.set_cons_succ]
          refine Till.take (i := 7) (v := .int .i64 (t : Int)) rfl rfl rfl rfl (by kernel_rfl) (by kernel_rfl) (by kernel_rfl) (by kernel_rfl) hS0 (fun u hu => by rw [hSd] at hu; obtain ⟨q0, q1⟩ := hu; go_simp) ?_
          simp only [Act.put, List.getElem_toArray, List.getElem_cons_zero, List.getElem_cons_succ, List.setIfInBounds_toArray, List.set_cons_zero, List.set_cons_succ]
          refine Till.take (i := 8) (v := .pointer (some ⟨g, o + t * 2, none⟩)) rfl rfl rfl rfl (by kernel_rfl) (by kernel_rfl) (by kernel_rfl) (by kernel_rfl) hS0 (fun u hu => by rw [hSd] at hu; obtain ⟨q0, q1⟩ := hu; go_simp) ?_
          simp only [Act.put, List.getElem_toArray, List.getElem_cons_zero, List.getElem_cons_succ, List.setIfInBounds_toArray, List.set_cons_zero, List.set_cons_succ]
          refine Till.take (i := 9) (v := .pointer (some ⟨g, o + t * 2 + 1, none⟩)) rfl rfl rfl rfl (by kernel_rfl) (by kernel_rfl) (by kernel_rfl) (by kernel_rfl) hS0 (fun u hu => by rw [hSd] at hu; obtain ⟨q0, q1⟩ := hu; go_simp) ?_
          simp only [Act.put, List.getElem_toArray, List.getElem_cons_zero, List.getElem_cons_succ, List.setIfInBounds_toArray, List.set_cons_zero, List.set_cons_succ]
          refine Till.take (i := 10) (v := .string tt) rfl rfl rfl rfl (by kernel_rfl) (by kernel_rfl) (by kernel_rfl) (by kernel_rfl) hS0 (fun u hu => by rw [hSd] at hu; obtain ⟨q0, q1⟩ := hu; go_simp) ?_
          simp only [Act.put, List.getElem_toArray, List.getElem_cons_zero, List.getElem_cons_succ, List.setIfInBounds_toArray, List.set_cons_zero, List.set_cons_succ]
          refine Till.take (i := 11) (v := .int .i64 (j : Int)) rfl rfl rfl rfl (by kernel_rfl) (by kernel_rfl) (by kernel_rfl) (by kernel_rfl) hS0 (fun u hu => by rw [hSd] at hu; obtain ⟨q0, q1⟩ := hu; go_simp) ?_
          simp only [Act.put, List.getElem_toArray, List.getElem_cons_zero, List.getElem_cons_succ, List.setIfInBounds_toArray, List.set_cons_zero, List.set_cons_succ]
          refine Till.take (i := 12) (v := .int .u8 ((tt[j]'hx3).toNat : Int)) rfl rfl rfl rfl (by kernel_rfl) (by kernel_rfl) (by kernel_rfl) (by kernel_rfl) hS0 (fun u hu => by rw [hSd] at hu; obtain ⟨q0, q1⟩ := hu; go_simp) ?_
          simp only [Act.put, List.getElem_toArray, List.getElem_cons_zero, List.getElem_cons_succ, List.setIfInBounds_toArray, List.set_cons_zero, List.set_cons_succ]
          refine Till.take (i := 13) (v := .int .i64 ((tt[j]'hx3).toNat : Int)) rfl rfl rfl rfl (by kernel_rfl) (by kernel_rfl) (by kernel_rfl) (by kernel_rfl) hS0 (fun u hu => by rw [hSd] at hu; obtain ⟨q0, q1⟩ := hu; go_simp; rw [IntWalk.i64_in _ (by omega)]) ?_
          simp only [Act.put, List.getElem_toArray, List.getElem_cons_zero, List.getElem_cons_succ, List.setIfInBounds_toArray, List.set_cons_zero, List.set_cons_succ]
          refine Till.take (i := 14) (v := .agg #[.int .i64 x, .int .i64 ((tt[j]'hx3).toNat : Int)]) rfl rfl rfl rfl (by kernel_rfl) (by kernel_rfl) (by kernel_rfl) (by kernel_rfl) hS0 (fun u hu => by rw [hSd] at hu; obtain ⟨q0, q1⟩ := hu; go_simp) ?_
          simp only [Act.put, List.getElem_toArray, List.getElem_cons_zero, List.getElem_cons_succ, List.setIfInBounds_toArray, List.set_cons_zero, List.set_cons_succ]
          obtain ⟨y, hy⟩ : ∃ y, y = ((tt[j]'hx3).toNat : Int) := ⟨_, rfl⟩
          rw [← hy] at HTK hy0 hy1 ⊢
          refine Till.lit (i := 15) (m := 1) (ob := .cells #[.int .i64 x, .int .i64 y] 114) (by kernel_rfl) rfl rfl rfl (by go_simp) (fun b w3 hb hw3 => ?_)
          have hblk : ∀ c v, wr.drew.cell? ⟨g, c, none⟩ = some v → w3.cell? ⟨g, c, none⟩ = some v := fun c v h => by
            rw [hw3, World.cell?_of_block (w := wr.drew) (Below.heap_alloc wr.drew _ g hgl)]
            exact h
          have hS3 : S w3 := by rw [hSd] at hS0 ⊢; exact ⟨hblk _ _ hS0.1, hblk _ _ hS0.2⟩
          have hob := HO2.out.alloc (.cells #[.int .i64 x, .int .i64 y] 114)
          rw [← hw3] at hob
          have hnews := cell_two_new wr.drew (.int .i64 x) (.int .i64 y) 114
          rw [← hw3, ← hb] at hnews
          have hgw3 : g < w3.heap.size := by rw [hw3, World.size_alloc]; show g < wr.heap.size + 1; omega
          have hbs3 : wo.heap.size ≤ w3.heap.size := by rw [hw3, World.size_alloc]; have := HBX.out.size; show _ ≤ wr.heap.size + 1; have h2 : wr.drew.heap.size = wr.heap.size := rfl; omega
          have HB3 : Hid (Below wo.heap.size wo w3) := Lib.hid (by rw [hw3]; exact HBX.out.alloc HBX.out.size _)
          obtain ⟨v4, w4, hrun, hown4, hg4, _⟩ := run_append_own (P := Tryz.prog) w3 wo.heap.size 112 112 114 j0 (.agg #[.int .i64 0, .int .i64 0]) 2 16 Tryz.underlying112 ji jz0 jz1 jz2 rfl (by decide) _ t _ hob ⟨b, 0, none⟩ 1 1 [.int .i64 x, .int .i64 y] rfl hnews (fun u hu => by simp at hu; rcases hu with rfl | rfl <;> rfl) (by unfold maxLen; omega) (by omega) hbs3
          refine ⟨fun _ => hS3, ?_⟩
          simp only [Act.put, List.getElem_toArray, List.getElem_cons_zero, List.getElem_cons_succ, List.setIfInBounds_toArray, List.set_cons_zero, List.set_cons_succ]
          have hne : some g ≠ (Value.slice av t cv).ownBlock := fun e => by have := (hob.lt g e.symm).1; have := HGL.out; have := HBW.out.size; omega
          have hS4 : S w4 := by rw [hSd] at hS3 ⊢; exact ⟨hg4.cell hS3.1 hne, hg4.cell hS3.2 hne⟩
          have HB4 := Lib.hid (below_grow HB3.out hob (Nat.le_refl _) hg4 hbs3)
          have HO4 : Hid (w4.ownsRow wo.heap.size 114 2 v4 (t + 1) (flat ((pp (ptsAt l j)).take (t + 1)))) := Lib.hid (by
            rw [HTK.out]
            have hf : ∀ qs : List (Int × Int), flat (qs ++ [(x, y)]) = flat qs ++ [.int .i64 x, .int .i64 y] := fun qs => by
              induction qs with
              | nil => rfl
              | cons q qs ih => simp only [List.cons_append, flat, ih]
            rw [hf]
            exact hown4)
          clear hown4 hg4 hob hnews hblk hy
          refine Till.value (i := 16) (v := v4) (w' := w4) (by kernel_rfl) rfl rfl rfl (run_op_append (.tmp 24) (.tmp 39) 112 rfl hrun) (fun _ => hS4) ?_
          simp only [Act.put, List.getElem_toArray, List.getElem_cons_zero, List.getElem_cons_succ, List.setIfInBounds_toArray, List.set_cons_zero, List.set_cons_succ]
          refine Till.value (i := 17) (v := v4) (w' := w4) (by kernel_rfl) rfl rfl rfl (by go_simp) (fun h => absurd rfl h) ?_
          simp only [Act.put, List.getElem_toArray, List.getElem_cons_zero, List.getElem_cons_succ, List.setIfInBounds_toArray, List.set_cons_zero, List.set_cons_succ]
          refine Till.done (by kernel_rfl) ?_ _
          clear hrun hS3 hS4 hSd hS0
          go_wp2_with fail
          go_roundw
          case rel => exact ⟨t + 1, by omega, by go_num, HO4.out, HB4.out⟩
          case measure => simp [intOf]; omega
        · obtain rfl : t = n := by omega
          rw [List.take_of_length_le (by rw [pp_length, ptsAt_length]; omega)] at hown
          obtain ⟨ar, cr, rfl⟩ := own_shape hown
          have HPR := Lib.hid (PR.own hown)
          have HBX := Lib.hid hbx
          have HBW2 := Lib.hid hb0x
          clear hown hbx hb0x
          go_wp2_with fail
          refine (l03Through_any ar t cr (ptsAt l j) _ HPR.out hn1 hn20 (HND.out j)).mono ?_
          rintro e w5 ⟨a5, k5, c5, rfl, ho5, hb5⟩
          have HIR := Lib.hid (IR.own ho5)
          have hk5 : k5 ≤ 1048576 := by
            have h5 := HIR.out.len
            rw [pv_length] at h5
            have h6 := thrS_length (ptsAt l j) t (by rw [ptsAt_length]; omega)
            rw [ptsAt_length] at h6
            omega
          have HB5 := Lib.hid (HBX.out.trans (hb5.mono HBX.out.size))
          clear ho5 hb5
          go_wp2_with fail
          refine (l03Eval_any a5 k5 c5 _ 0 _ HIR.out hk5).mono ?_
          rintro e w6 ⟨rfl, hb6⟩
          have hbT := HB5.out.trans (hb6.mono HB5.out.size)
          have hown6 := own_below HO.out hbT
          have HO6 := Lib.hid hown6
          have HB6 := Lib.hid (HBW.out.trans (hbT.mono HBW.out.size))
          have hsz6 : w.heap.size ≤ w6.heap.size := HB6.out.size
          have HFL1 : Hid (fl (fun u => bi (ev (thrS (ptsAt l u) t) 0)) (j + 1) = fl (fun u => bi (ev (thrS (ptsAt l u) t) 0)) j ++ [bi (ev (thrS (ptsAt l j) t) 0)]) := Lib.hid (by unfold fl; rw [List.range_succ, List.map_append]; rfl)
          have hw8 : IntKind.u8.wrap (bi (ev (thrS (ptsAt l j) t) 0)) = bi (ev (thrS (ptsAt l j) t) 0) := by have := bi_range (ev (thrS (ptsAt l j) t) 0); rw [IntKind.wrap_u8]; omega
          obtain ⟨z, hz⟩ : ∃ z, z = bi (ev (thrS (ptsAt l j) t) 0) := ⟨_, rfl⟩
          rw [← hz] at hw8 HFL1 ⊢
          clear hb6 hbT hz
          go_wp2_with (at_builtin; refine append_one_at rfl (.tmp 41) (.tmp 46) 22 rfl 5 i0 (.int .u8 0) 1 Tryz.underlying22 hi hz0 hz1 hz2 rfl w.heap.size _ _ _ rfl hown6 (.int .u8 z) _ rfl rfl hsz6 (by unfold maxLen; omega) (by omega) ?_; intro v' w7 hown7 hg7 _; have HO7 := Lib.hid hown7; have HB7 := Lib.hid (below_grow HB6.out HO6.out (Nat.le_refl _) hg7 hsz6); clear hown7 hg7 hown6)
          go_roundw
          case rel => exact ⟨j + 1, by omega, by go_num, by rw [HFL1.out, List.map_append]; exact HO7.out, HB7.out⟩
          case measure => simp [intOf]; omega
    · obtain rfl : j = t0.size := by omega
      rw [HFL.out] at hown
      obtain ⟨ar, cr, rfl⟩ := own_shape hown
      have hcv := conv_owned (P := Tryz.prog) 22 9 5 Tryz.underlying22 Tryz.underlying5 Tryz.underlying9 w.heap.size _ _ _ hown
      have HBW := Lib.hid hbw
      clear hown hbw
      go_wp2_with fail
      go_ret
      exact ⟨rfl, HBW.out⟩
theorem combR_size {l : List (Int × ByteArray)} (h : 400 < l.length) : combR l = (ByteArray.empty, 2) := combR_no (partsCode_size h) (by decide)
set_option maxRecDepth 100000 in
set_option maxHeartbeats 6400000 in
theorem specCombine_any (a : Option Addr) (n cap : Nat) (l : List (Int × ByteArray)) (w : World) (h : HR w a n cap l) (hn : n ≤ 1048576) (hs : ∀ t, t < n → (l.getD t shD).2.size ≤ maxLen) :
    Calls Tryz.prog 13 #[.slice a n cap] w (NewSecret (combR l) w) := by
  have hl := h.len
  obtain ⟨w0, hw0⟩ : ∃ u, u = w.alloc (Obj.cells #[Value.string ⟨#[]⟩, Value.int IntKind.i64 0] 34) := ⟨_, rfl⟩
  have hb0 : Below w.heap.size w w0 := by rw [hw0]; exact (Below.refl _ _).alloc (Nat.le_refl _) _
  have HBX : Hid (Box2 w0 w.heap.size (.string ⟨#[]⟩) (.int .i64 0)) := Lib.hid (by rw [hw0]; exact Box2.made w _ _ _)
  have H := Lib.hid (h.below hb0)
  have HS := Lib.hid hs
  have HB0 := Lib.hid hb0
  have HW0 := Lib.hid hw0
  clear h hs hb0
  by_cases h1 : 400 < n
  · have HF := Lib.hid (combR_size (l := l) (by omega))
    go_enter Tryz.func13, Tryz.ntmps13
    clear hw0
    go_wp2_with fail
    exact bodyPost_ret (v := .agg #[.string ⟨#[]⟩, .int .i64 2]) (by simp [results, Tryz.results13, go_sem]) rfl (ret_secret (t := ⟨#[]⟩) HF.out ((Below.refl _ _).alloc (Nat.le_refl _) _))
  · have h1l : ¬ 400 < l.length := by omega
    by_cases h20 : 20 < n ∨ n < 1
    · have HF : Hid (combR l = (ByteArray.empty, 1)) := Lib.hid (combR_no (partsCode_form h1l (by unfold partsB; rw [decide_eq_false (by omega), Bool.false_and])) (by decide))
      clear h1l hw0
      by_cases h2 : n < 1
      · obtain rfl : n = 0 := by omega
        go_enter Tryz.func13, Tryz.ntmps13
        go_wp2_with fail
        exact bodyPost_ret (v := .agg #[.string ⟨#[]⟩, .int .i64 1]) (by simp [results, Tryz.results13, go_sem]) rfl (ret_secret (t := ⟨#[]⟩) HF.out ((Below.refl _ _).alloc (Nat.le_refl _) _))
      · have h3 : 20 < n := by omega
        have hn1 : ¬ ((n : Int) < 1) := by omega
        go_enter Tryz.func13, Tryz.ntmps13
        go_wp2_with fail
        exact bodyPost_ret (v := .agg #[.string ⟨#[]⟩, .int .i64 1]) (by simp [results, Tryz.results13, go_sem]) rfl (ret_secret (t := ⟨#[]⟩) HF.out ((Below.refl _ _).alloc (Nat.le_refl _) _))
    · have hn1 : 1 ≤ n := by omega
      have hn20 : n ≤ 20 := by omega
      clear h20 hw0
      go_enter Tryz.func13, Tryz.ntmps13
      go_upto_region 5 with fail
      rw [← HW0.out]
      go_wp2_with fail
      go_loopw [3] (fun i wr => ∃ j : Nat, j ≤ n ∧ i = .int .i64 (j : Int) ∧ Hid (∀ t, t < j → okPart (l.getD t shD) = true) ∧ Below w0.heap.size w0 wr) (fun i _ => n - (intOf i).toNat)
      case atStart => exact ⟨0, Nat.zero_le _, rfl, Lib.hid (fun t ht => absurd ht (by omega)), Below.refl _ _⟩
      case round =>
        obtain ⟨j, hj, rfl, HOK, hB⟩ := hrel
        by_cases hlt : j < n
        · obtain ⟨g, o, rfl, hg, hc1, hc2⟩ := HR.at H.out hlt
          have hck := (hB.cell (p := ⟨g, o + j * 2, none⟩) hg).trans hc1
          have hck2 := (hB.cell (p := ⟨g, o + j * 2 + 1, none⟩) hg).trans hc2
          have hsj := Lib.hid (HS.out j hlt)
          have HBD : Hid (okPart (l.getD j shD) = false → combR l = (ByteArray.empty, 1)) := Lib.hid (fun h2 => combR_no (partsCode_form h1l (by unfold partsB; rw [not_allS (by omega) h2, Bool.and_false])) (by decide))
          have HNX : Hid (okPart (l.getD j shD) = true → ∀ t, t < j + 1 → okPart (l.getD t shD) = true) := Lib.hid (fun h2 t ht => by
            by_cases e : t = j
            · rw [e]; exact h2
            · exact HOK.out t (by omega))
          generalize l.getD j shD = q at *
          obtain ⟨x, t⟩ := q
          dsimp only at HBD HNX hck hck2 hsj
          have HB := Lib.hid hB
          clear hc1 hc2 hB
          have hox : okX x = decide (1 ≤ x ∧ x ≤ 255) := rfl
          cases hx : okX x
          · have HF := Lib.hid (HBD.out (by rw [okPart_iff]; dsimp only; rw [hx]; rfl))
            rw [hx] at hox
            clear hx
            have HOX := Lib.hid hox
            clear hox
            go_wp2_with fail
            refine (l02Is_any x 1 255 _).mono ?_
            rintro e w1 ⟨rfl, rfl⟩
            rw [← HOX.out]
            have HBq := Lib.hid (HB.out)
            obtain ⟨hlt0, hc0, hc1, hz0', hz1'⟩ := HBX.out.below HBq.out
            obtain ⟨hr0, hr1⟩ := box_put (x := .string ⟨#[]⟩) (y := .int .i64 1) hc0 hc1
            have HR' := Lib.hid (And.intro hr0 hr1)
            have HB2 := Lib.hid (((HB0.out.trans (HBq.out.mono HB0.out.size)).setCell (p := ⟨w.heap.size, 0, none⟩) (Nat.le_refl _) (.string ⟨#[]⟩)).setCell (p := ⟨w.heap.size, 1, none⟩) (Nat.le_refl _) (.int .i64 1))
            clear hr0 hr1 hlt0
            go_wp2_with fail
            obtain ⟨hr0, hr1⟩ := HR'.out
            exact bodyPost_ret (v := .agg #[.string ⟨#[]⟩, .int .i64 1]) (by simp [results, Tryz.results13, go_sem, hr0, hr1]) rfl (ret_secret (t := ⟨#[]⟩) HF.out HB2.out)
          · rw [hx] at hox
            have HOX := Lib.hid hox
            clear hox
            cases hsc : secB t
            · have HF := Lib.hid (HBD.out (by rw [okPart_iff]; dsimp only; rw [hx, hsc]; rfl))
              clear hx
              go_wp2_with fail
              refine (l02Is_any x 1 255 _).mono ?_
              rintro e w1 ⟨rfl, rfl⟩
              rw [← HOX.out]
              go_wp2_with fail
              refine (l04Secret_any t _ hsj.out).mono ?_
              rintro e w1 ⟨rfl, rfl⟩
              rw [hsc]
              have HBq := Lib.hid (HB.out)
              obtain ⟨hlt0, hc0, hc1, hz0', hz1'⟩ := HBX.out.below HBq.out
              obtain ⟨hr0, hr1⟩ := box_put (x := .string ⟨#[]⟩) (y := .int .i64 1) hc0 hc1
              have HR' := Lib.hid (And.intro hr0 hr1)
              have HB2 := Lib.hid (((HB0.out.trans (HBq.out.mono HB0.out.size)).setCell (p := ⟨w.heap.size, 0, none⟩) (Nat.le_refl _) (.string ⟨#[]⟩)).setCell (p := ⟨w.heap.size, 1, none⟩) (Nat.le_refl _) (.int .i64 1))
              clear hr0 hr1 hlt0
              go_wp2_with fail
              obtain ⟨hr0, hr1⟩ := HR'.out
              exact bodyPost_ret (v := .agg #[.string ⟨#[]⟩, .int .i64 1]) (by simp [results, Tryz.results13, go_sem, hr0, hr1]) rfl (ret_secret (t := ⟨#[]⟩) HF.out HB2.out)
            · have HF := Lib.hid (HNX.out (by rw [okPart_iff]; dsimp only; rw [hx, hsc]; rfl))
              clear hx
              go_wp2_with fail
              refine (l02Is_any x 1 255 _).mono ?_
              rintro e w1 ⟨rfl, rfl⟩
              rw [← HOX.out]
              go_wp2_with fail
              refine (l04Secret_any t _ hsj.out).mono ?_
              rintro e w1 ⟨rfl, rfl⟩
              rw [hsc]
              go_wp2_with fail
              go_roundw
              case rel => exact ⟨j + 1, by omega, by go_num, HF, HB.out⟩
              case measure => simp [intOf]; omega
        · obtain rfl : n = j := by omega
          have HPB : Hid (partsB l = true) := Lib.hid (by
            unfold partsB
            rw [decide_eq_true (by omega), all_ofS (fun t ht => HOK.out t (by omega))]
            rfl)
          clear HOK
          generalize wr = wA at *
          have HBA := Lib.hid hB
          clear hB
          go_wp2_with fail
          go_loopw [4] (fun i wr => ∃ j : Nat, j ≤ n ∧ i = .int .i64 (j : Int) ∧ Hid (((l.take j).map Prod.fst).Nodup) ∧ Below w0.heap.size w0 wr) (fun i _ => n - (intOf i).toNat)
          case atStart => exact ⟨0, Nat.zero_le _, rfl, Lib.hid (by simp), HBA.out⟩
          case round =>
            obtain ⟨j, hj, rfl, HND, hB⟩ := hrel
            generalize wr = wo at *
            by_cases hlt : j < n
            · have HBO := Lib.hid hB
              clear hB
              go_wp2_with fail
              go_loopw [5] (fun i wr => ∃ t : Nat, t ≤ j ∧ i = .int .i64 (t : Int) ∧ Hid (∀ u, u < t → (l.getD u shD).1 ≠ (l.getD j shD).1) ∧ Below w0.heap.size w0 wr) (fun i _ => j - (intOf i).toNat)
              case atStart => exact ⟨0, Nat.zero_le _, rfl, Lib.hid (fun u hu => absurd hu (by omega)), HBO.out⟩
              case round =>
                obtain ⟨t, ht, rfl, HNE, hB⟩ := hrel
                by_cases htl : t < j
                · obtain ⟨g, o, rfl, hg, hc1, hc2⟩ := HR.at H.out hlt
                  obtain ⟨g', o', ha', hg', hd1, hd2⟩ := HR.at H.out (show t < n by omega)
                  simp only [Option.some.injEq, Addr.mk.injEq, and_true] at ha'
                  obtain ⟨rfl, rfl⟩ := ha'
                  have hck := (hB.cell (p := ⟨g, o + j * 2, none⟩) hg).trans hc1
                  have hdk := (hB.cell (p := ⟨g, o + t * 2, none⟩) hg).trans hd1
                  have hjn : (j : Int) < (n : Int) := by omega
                  have htn : (t : Int) < (n : Int) := by omega
                  have HBT := Lib.hid hB
                  have HDP : Hid ((l.getD j shD).1 = (l.getD t shD).1 → combR l = (ByteArray.empty, 7)) := Lib.hid (fun e => combR_no (partsCode_there h1l HPB.out (by
                    unfold placeB
                    refine decide_eq_false (not_nodupS (j := j) (by omega) ?_)
                    rw [e]
                    refine List.mem_map.2 ⟨l.getD t shD, ?_, rfl⟩
                    rw [show l.getD t shD = (l.take j).getD t shD by simp [List.getD, htl], getD_mem _ (by rw [List.length_take]; omega)]
                    exact List.getElem_mem _)) (by decide))
                  have HNX : Hid ((l.getD j shD).1 ≠ (l.getD t shD).1 → ∀ u, u < t + 1 → (l.getD u shD).1 ≠ (l.getD j shD).1) := Lib.hid (fun e u hu => by
                    by_cases e2 : u = t
                    · rw [e2]; exact fun h => e h.symm
                    · exact HNE.out u (by omega))
                  generalize (l.getD j shD).1 = x at *
                  generalize (l.getD t shD).1 = y at *
                  clear hc1 hc2 hd1 hd2 hB
                  by_cases hxy : x = y
                  · have HF := Lib.hid (HDP.out hxy)
                    subst hxy
                    go_wp2_with fail
                    go_quiet (fail)
                    clear hck hdk
                    have HBq := Lib.hid (below_drewN HBT.out nq)
                    obtain ⟨hlt0, hc0, hc1, hz0', hz1'⟩ := HBX.out.below HBq.out
                    obtain ⟨hr0, hr1⟩ := box_put (x := .string ⟨#[]⟩) (y := .int .i64 7) hc0 hc1
                    have HR' := Lib.hid (And.intro hr0 hr1)
                    have HB2 := Lib.hid (((HB0.out.trans (HBq.out.mono HB0.out.size)).setCell (p := ⟨w.heap.size, 0, none⟩) (Nat.le_refl _) (.string ⟨#[]⟩)).setCell (p := ⟨w.heap.size, 1, none⟩) (Nat.le_refl _) (.int .i64 7))
                    clear hr0 hr1 hlt0
                    go_wp2_with fail
                    obtain ⟨hr0, hr1⟩ := HR'.out
                    exact bodyPost_ret (v := .agg #[.string ⟨#[]⟩, .int .i64 7]) (by simp [results, Tryz.results13, go_sem, hr0, hr1]) rfl (ret_secret (t := ⟨#[]⟩) HF.out HB2.out)
                  · have HF := Lib.hid (HNX.out hxy)
                    have hxb : (x == y) = false := by rw [beq_eq_false_iff_ne]; exact hxy
                    go_wp2_with fail
                    go_quiet (fail)
                    go_wp2_with fail
                    go_roundw
                    case rel => exact ⟨t + 1, by omega, by go_num, HF, below_drewN HBT.out _⟩
                    case measure => simp [intOf]; omega
                · obtain rfl : t = j := by omega
                  have HF : Hid (((l.take (t + 1)).map Prod.fst).Nodup) := Lib.hid (by
                    rw [fst_take (by omega)]
                    refine nodup_snoc HND.out (fun hm => ?_)
                    obtain ⟨p, hp, hpe⟩ := List.mem_map.1 hm
                    obtain ⟨u, hu, rfl⟩ := List.getElem_of_mem hp
                    rw [List.length_take] at hu
                    refine HNE.out u (by omega) ?_
                    rw [← hpe, List.getElem_take, getD_mem _ (by omega)])
                  have HBT := Lib.hid hB
                  clear hB
                  go_wp2_with fail
                  go_roundw
                  case rel => exact ⟨t + 1, by omega, by go_num, HF, HBT.out⟩
                  case measure => simp [intOf]; omega
            · obtain rfl : n = j := by omega
              have HPL : Hid (placeB l = true) := Lib.hid (by
                have h2 := HND.out
                rw [List.take_of_length_le (by omega)] at h2
                unfold placeB
                exact decide_eq_true h2)
              have HBO := Lib.hid hB
              clear hB HND
              go_wp2_with fail
              go_loopw [6] (fun i wr => ∃ j : Nat, 1 ≤ j ∧ j ≤ n ∧ i = .int .i64 (j : Int) ∧ Hid (∀ t, t < j → (l.getD t shD).2.size = (l.getD 0 shD).2.size) ∧ Below w0.heap.size w0 wr) (fun i _ => n - (intOf i).toNat)
              case atStart => exact ⟨1, Nat.le_refl _, hn1, rfl, Lib.hid (fun t ht => by rw [show t = 0 by omega]), HBO.out⟩
              case round =>
                obtain ⟨j, hj1, hj, rfl, HSZ, hB⟩ := hrel
                by_cases hlt : j < n
                · obtain ⟨g, o, rfl, hg, hc1, hc2⟩ := HR.at H.out hlt
                  obtain ⟨g', o', ha', hg', hd1, hd2⟩ := HR.at H.out (show 0 < n by omega)
                  simp only [Option.some.injEq, Addr.mk.injEq, and_true] at ha'
                  obtain ⟨rfl, rfl⟩ := ha'
                  have hck := (hB.cell (p := ⟨g, o + j * 2 + 1, none⟩) hg).trans hc2
                  have hdk := (hB.cell (p := ⟨g, o + 0 * 2 + 1, none⟩) hg).trans hd2
                  rw [Nat.zero_mul, Nat.add_zero] at hdk
                  have hjn : (j : Int) < (n : Int) := by omega
                  have hs0 := HS.out 0 (by omega)
                  have hsj := HS.out j hlt
                  unfold maxLen at hs0 hsj
                  have HBT := Lib.hid hB
                  have HBD : Hid ((l.getD j shD).2.size ≠ (l.getD 0 shD).2.size → combR l = (ByteArray.empty, 10)) := Lib.hid (fun h2 => combR_no (partsCode_state h1l HPB.out HPL.out (by
                    unfold sizeB
                    rw [List.all_eq_false]
                    refine ⟨l[j]'(by omega), List.getElem_mem _, ?_⟩
                    rw [← getD_mem shD (by omega)]
                    rw [decide_eq_false (show ¬ (l.getD j shD).2.size = (l.getD 0 (0, ByteArray.empty)).2.size from h2)]
                    decide)) (by decide))
                  have HNX : Hid ((l.getD j shD).2.size = (l.getD 0 shD).2.size → ∀ t, t < j + 1 → (l.getD t shD).2.size = (l.getD 0 shD).2.size) := Lib.hid (fun h2 t ht => by
                    by_cases e : t = j
                    · rw [e]; exact h2
                    · exact HSZ.out t (by omega))
                  generalize (l.getD j shD).2 = t at *
                  generalize (l.getD 0 shD).2 = t0 at *
                  clear hc1 hc2 hd1 hd2 hB
                  by_cases hz : t.size = t0.size
                  · have HF := Lib.hid (HNX.out hz)
                    go_wp2_with fail
                    go_quiet (fail)
                    go_wp2_with fail
                    go_roundw
                    case rel => exact ⟨j + 1, by omega, by omega, by go_num, HF, below_drewN HBT.out _⟩
                    case measure => simp [intOf]; omega
                  · have HF := Lib.hid (HBD.out hz)
                    go_wp2_with fail
                    go_quiet (fail)
                    clear hck hdk
                    have HBq := Lib.hid (below_drewN HBT.out nq)
                    obtain ⟨hlt0, hc0, hc1, hz0', hz1'⟩ := HBX.out.below HBq.out
                    obtain ⟨hr0, hr1⟩ := box_put (x := .string ⟨#[]⟩) (y := .int .i64 10) hc0 hc1
                    have HR' := Lib.hid (And.intro hr0 hr1)
                    have HB2 := Lib.hid (((HB0.out.trans (HBq.out.mono HB0.out.size)).setCell (p := ⟨w.heap.size, 0, none⟩) (Nat.le_refl _) (.string ⟨#[]⟩)).setCell (p := ⟨w.heap.size, 1, none⟩) (Nat.le_refl _) (.int .i64 10))
                    clear hr0 hr1 hlt0
                    go_wp2_with fail
                    obtain ⟨hr0, hr1⟩ := HR'.out
                    exact bodyPost_ret (v := .agg #[.string ⟨#[]⟩, .int .i64 10]) (by simp [results, Tryz.results13, go_sem, hr0, hr1]) rfl (ret_secret (t := ⟨#[]⟩) HF.out HB2.out)
                · obtain rfl : n = j := by omega
                  have H0 : Hid (partsCode l = 0) := Lib.hid (partsCode_ok h1l HPB.out HPL.out (by
                    unfold sizeB
                    rw [List.all_eq_true]
                    intro p hp
                    obtain ⟨i, hi, rfl⟩ := List.getElem_of_mem hp
                    rw [← getD_mem shD hi]
                    exact decide_eq_true (HSZ.out i (by omega))))
                  have HF := Lib.hid (combR_yes H0.out)
                  have HBT := Lib.hid hB
                  have HT := Lib.hid (H.out.below hB)
                  clear hB
                  go_wp2_with fail
                  refine (l04Combine_any a n cap l _ HT.out H0.out).mono ?_
                  rintro e w2 ⟨rfl, hb⟩
                  have HBq := Lib.hid (HBT.out.trans (hb.mono HBT.out.size))
                  obtain ⟨hlt0, hc0, hc1, hz0', hz1'⟩ := HBX.out.below HBq.out
                  obtain ⟨hr0, hr1⟩ := box_put (x := .string (tx (combL l))) (y := .int .i64 0) hc0 hc1
                  have HR' := Lib.hid (And.intro hr0 hr1)
                  have HB2 := Lib.hid (((HB0.out.trans (HBq.out.mono HB0.out.size)).setCell (p := ⟨w.heap.size, 0, none⟩) (Nat.le_refl _) (.string (tx (combL l)))).setCell (p := ⟨w.heap.size, 1, none⟩) (Nat.le_refl _) (.int .i64 0))
                  clear hb hr0 hr1 hlt0
                  go_wp2_with fail
                  obtain ⟨hr0, hr1⟩ := HR'.out
                  exact bodyPost_ret (v := .agg #[.string (tx (combL l)), .int .i64 0]) (by simp [results, Tryz.results13, go_sem, hr0, hr1]) rfl (ret_secret HF.out HB2.out)
end Go.Proofs.YtdnbkjiijpeiiaaGreat
