/- What the model's Split answers. -/
import Derived.Test.YtdnbkjiijpeiiaaDoorSSpA
import Derived.Test.YtdnbkjiijpeiiaaDoorSpl7
namespace Go.Proofs.YtdnbkjiijpeiiaaDoor
open Go.RowKit Go.PlainAid G MGF IRow
set_option linter.unusedVariables false
theorem vals_take (ps : List (List B)) (x : B) {t : Nat} (h : t < ps.length) : (vals ps x).take (t + 1) = (vals ps x).take t ++ [ev (ps.getD t []) x] := by
  have hl : t < (vals ps x).length := by rw [vals_length]; exact h
  rw [← List.take_append_getElem hl]
  have e := vals_cf h x
  unfold cf at e
  rw [getD_mem _ hl] at e
  rw [e]
set_option maxRecDepth 100000 in
set_option maxHeartbeats 3200000 in
theorem l04Split_any (s d : ByteArray) (need : Int) (m : Nat) (w : World) (hn1 : 1 ≤ need) (hn2 : need ≤ 10) (hs : s.size ≤ 16) (hdr : s.size * kOf need ≤ d.size) (hd : d.size ≤ 8000) (hm : m ≤ 20) :
    Calls Tryd.prog 61 #[.string s, .int .i64 need, .int .i64 (m : Int), .string d] w fun e w' => ∃ a c, e = .returned (.slice a m c) ∧ w'.ownsRow w.heap.size 58 shE.k (.slice a m c) m (shE.flat (partsT (polysT (tb s) (tb d) (kOf need)) m)) ∧ Below w.heap.size w w' := by
  obtain ⟨ps, hpe⟩ : ∃ ps, ps = polysT (tb s) (tb d) (kOf need) := ⟨_, rfl⟩
  have hpl : ps.length = s.size := by rw [hpe, polysT_length, tb_length]
  have HPG : Hid (∀ i, i < s.size → ps.getD i [] = polyT (tb s) (tb d) (kOf need) i) := Lib.hid (fun i hi => by rw [hpe]; exact polysT_getD _ _ _ (by rw [tb_length]; exact hi))
  rw [← hpe]
  have HPL := Lib.hid hpl
  clear hpe hpl
  obtain ⟨i0, hi, hz0, hz1, hz2⟩ := info_parts infoShare
  obtain ⟨j0, ji, jz0, jz1, jz2⟩ := info_parts infoU8
  go_enter Tryd.func61, Tryd.ntmps61
  go_wp2_with fail
  refine (l04Polys_any s d need _ hn1 hn2 hs hdr hd).mono ?_
  rintro e w1 ⟨ap, cp, rfl, hps, hb1⟩
  have HPS := Lib.hid hps
  have HB1 := Lib.hid hb1
  have HO0 : Hid ((w1.alloc (.cells #[] 58)).ownsRow w1.heap.size 58 shE.k (.slice (some ⟨w1.heap.size, 0, none⟩) 0 0) 0 (shE.flat (partsT ps 0))) := Lib.hid (World.ownsRow_made w1 #[] 0 (Nat.le_refl _) (by decide) rfl)
  have HB0 : Hid (Below w1.heap.size w1 (w1.alloc (.cells #[] 58))) := Lib.hid ((Below.refl _ _).alloc (Nat.le_refl _) _)
  clear hps hb1 hdr
  go_wp2_with fail
  go_loopw [10, 11] (fun v i wr => ∃ j : Nat, j ≤ m ∧ i = .int .i64 ((j : Int) + 1) ∧ wr.ownsRow w1.heap.size 58 shE.k v j (shE.flat (partsT ps j)) ∧ Below w1.heap.size w1 wr) (fun _ i _ => (m + 1 - (intOf i).toNat))
  case atStart => exact ⟨0, Nat.zero_le _, rfl, HO0.out, HB0.out⟩
  case round =>
    obtain ⟨j, hj, rfl, hown, hbw⟩ := hrel
    generalize wr = wo at *
    by_cases hlt : j < m
    · have hdd : decide ((j : Int) + 1 ≤ (m : Int)) = true := decide_eq_true (by omega)
      have HO := Lib.hid hown
      have HBW := Lib.hid hbw
      have HE : Hid ((wo.alloc (.cells #[] 5)).ownsRow wo.heap.size 5 1 (.slice (some ⟨wo.heap.size, 0, none⟩) 0 0) 0 ((pv ((vals ps (pl (j + 1))).take 0)).map (Value.int .u8))) := Lib.hid (own_empty (Nat.le_refl _))
      have HBE : Hid (Below wo.heap.size wo (wo.alloc (.cells #[] 5))) := Lib.hid ((Below.refl _ _).alloc (Nat.le_refl _) _)
      have HE1 : Hid (bi (pl (j + 1)) = (j : Int) + 1) := Lib.hid (by rw [pl_bi (by omega)]; omega)
      clear hown hbw
      go_wp2_with fail
      go_loopw [12, 13] (fun v i wx => ∃ t : Nat, t ≤ s.size ∧ i = .int .i64 (t : Int) ∧ wx.ownsRow wo.heap.size 5 1 v t ((pv ((vals ps (pl (j + 1))).take t)).map (Value.int .u8)) ∧ Below wo.heap.size wo wx) (fun _ i _ => (s.size - (intOf i).toNat))
      case atStart => exact ⟨0, Nat.zero_le _, rfl, HE.out, HBE.out⟩
      case round =>
        obtain ⟨t, ht, rfl, hown, hbx⟩ := hrel
        have hb1x := HBW.out.trans (hbx.mono HBW.out.size)
        by_cases hts : t < s.size
        · obtain ⟨gb, o, rfl, hgb, hc⟩ := (HPS.out.below hb1x).cells (by omega)
          obtain ⟨b, q, c, hcell, hir⟩ := hc t hts
          have hq : q ≤ 1048576 := by
            have h1 := hir.len
            rw [pv_length] at h1
            have := polyT_len (tb s) (tb d) (kOf need) t
            have : kOf need ≤ 9 := by unfold kOf; omega
            omega
          have hev := l03Eval_any b q c _ (pl (j + 1)) wr hir hq
          rw [HE1.out, ← HPG.out t hts] at hev
          have HEV := Lib.hid hev
          have HTK := Lib.hid (vals_take ps (pl (j + 1)) (t := t) (by rw [HPL.out]; exact hts))
          obtain ⟨z, hz⟩ : ∃ z, z = ev (ps.getD t []) (pl (j + 1)) := ⟨_, rfl⟩
          rw [← hz] at HEV HTK
          have hw8 : IntKind.u8.wrap (bi z) = bi z := by have := bi_range z; rw [IntKind.wrap_u8]; omega
          have HO2 := Lib.hid hown
          have HBX := Lib.hid hbx
          clear hown hbx hb1x hc hir hev hz hgb
          go_wp2_with fail
          refine HEV.out.mono ?_
          rintro e w5 ⟨rfl, hb5⟩
          have hown5 := own_below HO2.out hb5
          have HO5 := Lib.hid hown5
          have HB5 := Lib.hid (HBX.out.trans (hb5.mono HBX.out.size))
          have hsz5 : wo.heap.size ≤ w5.heap.size := HB5.out.size
          clear hb5 hcell
          go_wp2_with (at_builtin; refine append_one_at rfl (.tmp 31) (.tmp 39) 22 rfl 5 j0 (.int .u8 0) 1 Tryd.underlying22 ji jz0 jz1 jz2 rfl wo.heap.size _ _ _ rfl hown5 (.int .u8 (bi z)) _ rfl rfl hsz5 (by unfold maxLen; omega) (by omega) ?_; intro v' w6 hown6 hg6 _; have HO6 := Lib.hid hown6; have HB6 := Lib.hid (below_grow HB5.out HO5.out (Nat.le_refl _) hg6 hsz5); clear hown6 hg6 hown5)
          go_roundw
          case rel => exact ⟨t + 1, by omega, by go_num, by rw [HTK.out, pv, List.map_append, List.map_append]; exact HO6.out, HB6.out⟩
          case measure => simp [intOf]; omega
        · obtain rfl : t = s.size := by omega
          rw [List.take_of_length_le (by rw [vals_length, HPL.out]; exact Nat.le_refl _)] at hown
          obtain ⟨ab, cb, rfl⟩ := own_shape hown
          have hcv := conv_owned (P := Tryd.prog) 22 9 5 Tryd.underlying22 Tryd.underlying5 Tryd.underlying9 wo.heap.size _ _ _ hown
          obtain ⟨str, hstr⟩ : ∃ str, str = tx (vals ps (pl (j + 1))) := ⟨_, rfl⟩
          have hcv2 : (convert 22 9 (.slice ab s.size cb)).run Tryd.prog wr = .ok (.string str) wr := by rw [hstr]; exact hcv
          have hownS := own_below HO.out hbx
          have HOS := Lib.hid hownS
          have HB6 := Lib.hid hb1x
          have HSTR := Lib.hid hstr
          have hszx : w1.heap.size ≤ wr.heap.size := hb1x.size
          clear hown hbx hb1x hcv hstr
          go_wp2_with (at_builtin; refine append_enc shE rfl (.tmp 41) (.tmp 46) 31 rfl 58 i0 (.agg #[.int .i64 0, .string ByteArray.empty]) 24 Tryd.underlying31 hi hz0 hz1 hz2 rfl (by decide) (by decide) w1.heap.size _ _ _ rfl hownS ((j : Int) + 1, str) _ rfl _ rfl hszx (by omega) ?_; intro v' w7 hown7 hg7 _; have HO7 := Lib.hid hown7; have HB7 := Lib.hid (below_grow HB6.out HOS.out (Nat.le_refl _) hg7 hszx); clear hown7 hg7 hownS)
          go_roundw
          case rel => exact ⟨j + 1, by omega, by go_num, by rw [partsT_succ, ← HSTR.out]; exact HO7.out, HB7.out⟩
          case measure => simp [intOf]; omega
    · obtain rfl : j = m := by omega
      obtain ⟨ar, cr, rfl⟩ := own_shape hown
      have HO := Lib.hid (own_mono hown HB1.out.size)
      have HB := Lib.hid (HB1.out.trans (hbw.mono HB1.out.size))
      clear hown hbw
      go_wp2_with fail
      go_ret
      exact ⟨ar, cr, rfl, HO.out, HB.out⟩
set_option maxRecDepth 100000 in
set_option maxHeartbeats 3200000 in
theorem specSplit_any (s d : ByteArray) (need many : Int) (w : World) (hs : s.size ≤ maxLen) (hd : d.size ≤ maxLen) :
    Calls Tryd.prog 37 #[.string s, .int .i64 need, .int .i64 many, .string d] w (NewShares (splitR s need many d) w) := by
  have HS := Lib.hid hs
  unfold maxLen at hs hd
  by_cases h1 : 8000 < s.size
  · have HF := Lib.hid (splitR_no (splitC_size (need := need) (many := many) (d := d) (Or.inl h1)) (by decide))
    go_enter Tryd.func37, Tryd.ntmps37
    go_wp2_with fail
    exact bodyPost_ret (v := .agg #[.slice none 0 0, .int .i64 2]) (by simp [results, Tryd.results37, go_sem]) rfl (ret_shares HF.out (World.ownsRow_nil _ _ _ _) ((Below.refl _ _).alloc (Nat.le_refl _) _))
  · by_cases h2 : 8000 < d.size
    · have HF := Lib.hid (splitR_no (splitC_size (need := need) (many := many) (s := s) (Or.inr h2)) (by decide))
      go_enter Tryd.func37, Tryd.ntmps37
      go_wp2_with fail
      exact bodyPost_ret (v := .agg #[.slice none 0 0, .int .i64 2]) (by simp [results, Tryd.results37, go_sem]) rfl (ret_shares HF.out (World.ownsRow_nil _ _ _ _) ((Below.refl _ _).alloc (Nat.le_refl _) _))
    · have h3 : ¬ (8000 < s.size ∨ 8000 < d.size) := by omega
      by_cases hsn : secB s = true ∧ needB need = true
      · obtain ⟨hsb, hnb⟩ := hsn
        have hnd := needsI_yes hsb hnb
        obtain ⟨hb0, hb1⟩ := needs_bound hsb hnb
        rw [← hnd] at hb0 hb1
        obtain ⟨nd, hn⟩ : ∃ nd, nd = needsI s need := ⟨_, rfl⟩
        have HN : Hid (needsI s need = nd) := Lib.hid hn.symm
        rw [← hn] at hb0 hb1
        by_cases hmb : need ≤ many ∧ many ≤ 20
        · have hmd : decide (need ≤ many ∧ many ≤ 20) = true := decide_eq_true hmb
          have HMD := Lib.hid hmd
          have hm2 : manyB need many = true := by unfold manyB; rw [hnb, hmd]; rfl
          by_cases h4 : (d.size : Int) < nd
          · have HF := Lib.hid (splitR_no (splitC_draws h3 ⟨hsb, hm2⟩ (by rw [← hn]; exact h4)) (by decide))
            clear h3 hsb hnb hnd hn hmd hm2 hmb
            go_enter Tryd.func37, Tryd.ntmps37
            go_wp2_with fail
            refine (specNeeds_any s need _ HS.out).mono ?_
            rintro e w1 ⟨rfl, rfl⟩
            rw [HN.out]
            go_wp2_with fail
            refine (l02Is_any many need 20 _).mono ?_
            rintro e w1 ⟨rfl, rfl⟩
            rw [HMD.out]
            go_wp2_with fail
            exact bodyPost_ret (v := .agg #[.slice none 0 0, .int .i64 13]) (by simp [results, Tryd.results37, go_sem]) rfl (ret_shares HF.out (World.ownsRow_nil _ _ _ _) ((Below.refl _ _).alloc (Nat.le_refl _) _))
          · have h0 := splitC_ok h3 ⟨hsb, hm2⟩ (by rw [← hn]; exact h4)
            have hOk := splitC_zero h0
            have k1 := hOk.n1
            have k2 := hOk.n2
            have k3 := hOk.s2
            have k4 := hOk.dr
            have k5 := hOk.d8
            obtain ⟨m, rfl⟩ := Int.eq_ofNat_of_zero_le (show 0 ≤ many by omega)
            have k6 : m ≤ 20 := by omega
            have HR0 := Lib.hid (splitR_yes h0)
            have hb0' : Below w.heap.size w (w.alloc (Obj.cells #[Value.slice none 0 0, Value.int IntKind.i64 0] 55)) := (Below.refl _ _).alloc (Nat.le_refl _) _
            have HBX := Lib.hid (Box2.made w (.slice none 0 0) (.int .i64 0) 55)
            have HB0 := Lib.hid hb0'
            have HSZ : Hid ((w.alloc (Obj.cells #[Value.slice none 0 0, Value.int IntKind.i64 0] 55)).heap.size = w.heap.size + 1) := Lib.hid (World.size_alloc _ _)
            clear h3 hsb hnb hnd hn hmd hm2 hmb h0 hOk hb0'
            go_enter Tryd.func37, Tryd.ntmps37
            go_wp2_with fail
            refine (specNeeds_any s need _ HS.out).mono ?_
            rintro e w1 ⟨rfl, rfl⟩
            rw [HN.out]
            go_wp2_with fail
            refine (l02Is_any (m : Int) need 20 _).mono ?_
            rintro e w1 ⟨rfl, rfl⟩
            rw [HMD.out]
            go_wp2_with fail
            refine (l04Split_any s d need m _ k1 k2 k3 k4 k5 k6).mono ?_
            rintro e w5 ⟨ar, cr, rfl, hown, hb⟩
            obtain ⟨hlt, hc0, hc1, hz0', hz1'⟩ := HBX.out.below hb
            have hnb : ∀ g, (Value.slice ar m cr).ownBlock = some g → g ≠ w.heap.size := fun g hg => by have := (hown.lt g hg).1; have := HSZ.out; omega
            have HO := Lib.hid (own_mono (own_other (own_other hown hnb ⟨w.heap.size, 0, none⟩ (.slice ar m cr) rfl) hnb ⟨w.heap.size, 1, none⟩ (.int .i64 0) rfl) (show w.heap.size ≤ _ by rw [HSZ.out]; omega))
            have HB := Lib.hid (((HB0.out.trans (hb.mono HB0.out.size)).setCell (p := ⟨w.heap.size, 0, none⟩) (Nat.le_refl _) (.slice ar m cr)).setCell (p := ⟨w.heap.size, 1, none⟩) (Nat.le_refl _) (.int .i64 0))
            obtain ⟨hr0, hr1⟩ := box_put (x := .slice ar m cr) (y := .int .i64 0) hc0 hc1
            have HR := Lib.hid (And.intro hr0 hr1)
            clear hown hb hnb hr0 hr1 hlt
            go_wp2_with fail
            obtain ⟨hr0, hr1⟩ := HR.out
            exact bodyPost_ret (v := .agg #[.slice ar m cr, .int .i64 0]) (by simp [results, Tryd.results37, go_sem, hr0, hr1]) rfl (ret_shares HR0.out HO.out HB.out)
        · have hmd : decide (need ≤ many ∧ many ≤ 20) = false := decide_eq_false hmb
          have HMD := Lib.hid hmd
          have hm2 : manyB need many = false := by unfold manyB; rw [hnb, hmd]; rfl
          have HF := Lib.hid (splitR_no (splitC_form h3 (by rw [hm2]; simp)) (by decide))
          clear h3 hsb hnb hnd hn hmd hm2 hmb
          go_enter Tryd.func37, Tryd.ntmps37
          go_wp2_with fail
          refine (specNeeds_any s need _ HS.out).mono ?_
          rintro e w1 ⟨rfl, rfl⟩
          rw [HN.out]
          go_wp2_with fail
          refine (l02Is_any many need 20 _).mono ?_
          rintro e w1 ⟨rfl, rfl⟩
          rw [HMD.out]
          go_wp2_with fail
          exact bodyPost_ret (v := .agg #[.slice none 0 0, .int .i64 1]) (by simp [results, Tryd.results37, go_sem]) rfl (ret_shares HF.out (World.ownsRow_nil _ _ _ _) ((Below.refl _ _).alloc (Nat.le_refl _) _))
      · have HN := Lib.hid (needsI_no hsn)
        have HF : Hid (splitR s need many d = ([], 1)) := Lib.hid (splitR_no (splitC_form h3 (fun h => hsn ⟨h.1, by have := h.2; unfold manyB at this; rw [Bool.and_eq_true] at this; exact this.1⟩)) (by decide))
        clear h3 hsn
        go_enter Tryd.func37, Tryd.ntmps37
        go_wp2_with fail
        refine (specNeeds_any s need _ HS.out).mono ?_
        rintro e w1 ⟨rfl, rfl⟩
        rw [HN.out]
        go_wp2_with fail
        exact bodyPost_ret (v := .agg #[.slice none 0 0, .int .i64 1]) (by simp [results, Tryd.results37, go_sem]) rfl (ret_shares HF.out (World.ownsRow_nil _ _ _ _) ((Below.refl _ _).alloc (Nat.le_refl _) _))
end Go.Proofs.YtdnbkjiijpeiiaaDoor
