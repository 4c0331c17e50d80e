/- Texts put together: what the law uses of them. -/
import Derived.Test.YtidcpdfhnhfelaaGreatDoorQTxr17
import Derived.Test.YtidcpdfhnhfelaaGreatDoorQTxr43
import Derived.Test.YtidcpdfhnhfelaaGreatDoorQTxr44
import Derived.Test.YtidcpdfhnhfelaaGreatDoorQTxr00
/- The model's TxRead. -/
namespace Go.Proofs.YtidcpdfhnhfelaaGreatDoor
open Go.RowKit Go.PlainAid G MGet MGF IRow MNum MJoin
set_option linter.unusedVariables false
set_option maxRecDepth 100000 in
set_option maxHeartbeats 6400000 in
theorem specTxRead_any (s : ByteArray) (w : World) (hs : s.size ≤ maxLen) :
    Calls Tryz.prog 6 #[.string s] w (NewSS (txRd s) w) := by
  have HS := Lib.hid hs
  obtain ⟨ti, hi, hz, hsy, hy⟩ := info_parts infoDeeds
  obtain ⟨W, hW⟩ : ∃ W, W = w.alloc (.cells #[] 63) := ⟨_, rfl⟩
  have HB0 := Lib.hid (show Below w.heap.size w W by rw [hW]; exact (Below.refl _ _).alloc (Nat.le_refl _) _)
  have HS0 := Lib.hid (show SS W w.heap.size (.slice (some ⟨w.heap.size, 0, none⟩) 0 0) [] by
    rw [hW]
    exact ⟨own_made0 rwE w 63 (Nat.le_refl _), fun i hi => absurd hi (Nat.not_lt_zero _), fun i j _ hj => absurd hj (Nat.not_lt_zero _)⟩)
  go_enter Tryz.func6, Tryz.ntmps6
  go_wp2_with fail
  rw [← hW]
  clear hW
  go_loopw [3, 4] (fun v i wr => ∃ (p f : Nat) (a : Option Addr) (c : Nat) (rs : List Rw), v = .slice a rs.length c ∧ i = .int .i64 p ∧ p ≤ s.size ∧ s.size + 1 ≤ f + p ∧ rs.length ≤ p ∧ Hid (SS wr w.heap.size (.slice a rs.length c) rs) ∧ Hid (txRd s = rs.map Rw.l ++ txF s f p) ∧ Hid (Below w.heap.size w wr)) (fun _ i _ => s.size + 1 - (intOf i).toNat)
  case atStart => exact ⟨0, s.size + 1, _, _, [], rfl, rfl, Nat.zero_le _, Nat.le_refl _, Nat.le_refl _, HS0.out, rfl, HB0.out⟩
  case round =>
    obtain ⟨p, f, a, c, rs, rfl, rfl, hp, hf, hn, HSS, HTX, HB⟩ := hrel
    clear HS0 HB0
    by_cases hl : s.size ≤ 8000
    · have hll : (s.size : Int) ≤ 8000 := by omega
      by_cases hc : (getT s (p : Int)).2.2 = 0
      · obtain ⟨t, p', hgt, hpp, hps, ht, hs8⟩ := getT_step hc
        have HGT := Lib.hid hgt
        clear hc hgt
        go_wp2_with fail
        refine (specGetText_any s (p : Int) wr (wf_p (by unfold maxLen at hs; omega)) HS.out).mono ?_
        rintro e w1 ⟨rfl, hb⟩
        rw [HGT.out]
        unfold textOutV
        dsimp only
        have HB1 := Lib.hid hb
        clear hb
        obtain ⟨V, hV⟩ : ∃ V, V = w1.alloc (.cells #[.string t, .int .i64 p', .int .i64 0] 60) := ⟨_, rfl⟩
        obtain ⟨b, hb0⟩ : ∃ b, b = w1.heap.size := ⟨_, rfl⟩
        have hV1 : Below w1.heap.size w1 V := by rw [hV]; exact (Below.refl _ _).alloc (Nat.le_refl _) _
        have HXV := Lib.hid (show BoxC V b [.string t, .int .i64 p', .int .i64 0] by rw [hV, hb0]; exact BoxC.made _ _ _)
        have HbV : Below wr.heap.size wr V := HB1.out.trans (hV1.mono HB1.out.size)
        have HSV := Lib.hid (HSS.out.below HbV)
        have HBV := Lib.hid (HB.out.trans (HbV.mono HB.out.size))
        have HLT : Hid (∀ q, (Value.slice a rs.length c).ownBlock = some q → q < b) := Lib.hid (fun q hq => by have := (HSS.out.out.lt q hq).2; have := HB1.out.size; omega)
        clear HbV hV1 HSS HB HB1
        obtain ⟨f, rfl⟩ : ∃ f', f = f' + 1 := ⟨f - 1, by omega⟩
        go_wp2_with fail
        rw [← hV, ← hb0]
        clear hV hb0
        refine (specUnseal_any t V ht).mono ?_
        rintro e w2 ⟨rfl, hb⟩
        have HX2 := Lib.hid (HXV.out.below hb)
        have HS2 := Lib.hid (HSV.out.below hb)
        have HB2 := Lib.hid (HBV.out.trans (hb.mono HBV.out.size))
        clear hb HXV HSV HBV
        by_cases ho : (openS t).2.2 = 0
        · have HOI := Lib.hid (openS_is ho)
          have hf8 := openS_fits ho
          have HRP : Hid (rdPart t = rdTx (openS t).1) := Lib.hid (by unfold rdPart; rw [if_pos ho])
          rw [HOI.out]
          generalize (openS t).1 = t2 at *
          unfold textOutV
          dsimp only
          clear ho
          obtain ⟨Y, hY⟩ : ∃ Y, Y = w2.alloc (.cells #[.string t2, .int .i64 0, .int .i64 0] 60) := ⟨_, rfl⟩
          obtain ⟨y, hy0⟩ : ∃ y, y = w2.heap.size := ⟨_, rfl⟩
          have hY1 : Below w2.heap.size w2 Y := by rw [hY]; exact (Below.refl _ _).alloc (Nat.le_refl _) _
          have HYY := Lib.hid (show BoxC Y y [.string t2, .int .i64 0, .int .i64 0] by rw [hY, hy0]; exact BoxC.made _ _ _)
          have HX3 := Lib.hid (HX2.out.below hY1)
          have HS3 := Lib.hid (HS2.out.below hY1)
          have HB3 := Lib.hid (HB2.out.trans (hY1.mono HB2.out.size))
          clear hY1 HX2 HS2 HB2
          go_wp2_with fail
          rw [← hY, ← hy0]
          clear hY hy0
          refine (specTx_any t2 Y hf8).mono ?_
          rintro e w3 ⟨ra, rn, rc, rfl, hown, hb⟩
          have HOW := Lib.hid hown
          have HD4 : Hid (rdTx t2 ≠ [] → ∀ i, i < rs.length → Disj (rs.getD i rwD).v (.slice ra rn rc)) := Lib.hid (fun h i hi => own_disj (HS3.out.row i hi) (hown h))
          have HR4 : Hid (rdTx t2 ≠ [] → w3.ownsRow w.heap.size 110 ddE.k (.slice ra rn rc) rn (ddE.flat (rdTx t2))) := Lib.hid (fun h => own_mono (hown h) HB3.out.size)
          have HX4 := Lib.hid (HX3.out.below hb)
          have HY4 := Lib.hid (HYY.out.below hb)
          have HS4 := Lib.hid (HS3.out.below hb)
          have HB4 := Lib.hid (HB3.out.trans (hb.mono HB3.out.size))
          clear hb hown HOW HX3 HYY HS3 HB3
          have y2 := HY4.out.cell 2 _ rfl
          by_cases hr : rdTx t2 = []
          · have HTE : Hid (txF s (f + 1) p = []) := Lib.hid (txF_end (by rw [HGT.out, HRP.out]; exact hr))
            rw [show decide (rdTx t2 ≠ []) = false by rw [hr]; rfl]
            clear hr
            go_wp2_with fail
            exact bodyPost_ret (v := .slice a rs.length c) (by simp [results, Tryz.results6, go_sem]) rfl ⟨a, _, c, rs, rfl, rfl, HS4.out, by rw [HTX.out, HTE.out, List.append_nil], HB4.out⟩
          · rw [show decide (rdTx t2 ≠ []) = true from decide_eq_true hr]
            have HTG := Lib.hid (txF_go (f := f) HGT.out (by rw [HRP.out]; exact hr))
            rw [HRP.out] at HTG
            have HR5 := Lib.hid (HR4.out hr)
            have HD5 := Lib.hid (HD4.out hr)
            generalize rdTx t2 = ds at *
            clear hr HR4 HD4
            obtain ⟨r, hrr⟩ : ∃ r : Rw, r = ⟨ra, rn, rc, ds⟩ := ⟨_, rfl⟩
            have HRR := Lib.hid hrr
            have HAB : Hid (Below w3.heap.size w3 (w3.alloc (.cells #[.slice ra rn rc] 63))) := Lib.hid ((Below.refl _ _).alloc (Nat.le_refl _) _)
            have HXL : Hid (SR rwE rwD (w3.alloc (.cells #[.slice ra rn rc] 63)) (some ⟨w3.heap.size, 0, none⟩) 1 1 [r]) := Lib.hid (by rw [hrr]; exact SR.own (by decide) (World.ownsRow_lit w3 #[.slice ra rn rc] 1 (Nat.le_refl _) (by decide) rfl))
            have HS5 := Lib.hid (HS4.out.below HAB.out)
            have HR6 := Lib.hid (own_below HR5.out HAB.out)
            have HB5 := Lib.hid (HB4.out.trans (HAB.out.mono HB4.out.size))
            clear hrr HS4 HB4 HR5
            have x1 := HX4.out.cell 1 _ rfl
            have HPU : Hid (∀ (v3 : Value) (u3 : World), u3.ownsRow w.heap.size 63 rwE.k v3 (rs.length + 1) (rwE.flat (rs ++ [r])) → (w3.alloc (.cells #[.slice ra rn rc] 63)).grownBy u3 (Value.slice a rs.length c).ownBlock → SS u3 w.heap.size v3 (rs ++ [r])) := Lib.hid (fun v3 u3 O3 G3 => HS5.out.push (r := r) (by rw [HRR.out]; exact HR6.out) (by rw [HRR.out]; exact HD5.out) O3 G3)
            have hn1 : rs.length ≤ 1048576 := by omega
            have hk0 : 0 < rwE.k := by decide
            have h24 : (24 : Nat) ≤ 1024 := by decide
            have hm1 : 1 ≤ 1048576 := by decide
            go_wp2_with (at_builtin; refine append_wl rwE rwD rfl _ _ 22 rfl 63 ti _ 24 Tryz.underlying22 hi hz hsy hy rfl hk0 h24 w.heap.size _ rs.length rs rfl HS5.out.out _ 1 1 [r] rfl HXL.out HB5.out.size hn1 hm1 ?_; intro v3 u3 O3 G3; have HS6 := Lib.hid (HPU.out v3 u3 O3 G3); have HB6 := Lib.hid (HB5.out.grown G3 HB5.out.size (fun q hq => (HS5.out.out.lt q hq).1)); obtain ⟨a5, c5, rfl⟩ := own_shape O3; clear O3 G3)
            refine ⟨⟨p', f, a5, c5, rs ++ [r], by rw [List.length_append]; rfl, rfl, hps, by omega, by rw [List.length_append]; show rs.length + 1 ≤ p'; omega, ?_, ?_, HB6.out⟩, ?_⟩
            · unfold Hid
              rw [List.length_append]
              exact HS6.out
            · unfold Hid
              rw [HTX.out, HTG.out, List.map_append, List.append_assoc, HRR.out]
              rfl
            · simp [intOf]
              omega
        · have hoz := openS_zero t ho
          obtain ⟨k, hk⟩ : ∃ k, k = (openS t).2.2 := ⟨_, rfl⟩
          have HTE : Hid (txF s (f + 1) p = []) := Lib.hid (txF_end (by rw [HGT.out]; show rdPart t = []; unfold rdPart; rw [if_neg ho]))
          rw [← hk] at hoz ho
          rw [hoz]
          have hkb : (k != 0) = true := by simp [ho]
          unfold textOutV
          dsimp only
          clear ho hk hoz
          obtain ⟨Y, hY⟩ : ∃ Y, Y = w2.alloc (.cells #[.string ⟨#[]⟩, .int .i64 0, .int .i64 k] 60) := ⟨_, rfl⟩
          obtain ⟨y, hy0⟩ : ∃ y, y = w2.heap.size := ⟨_, rfl⟩
          have hY1 : Below w2.heap.size w2 Y := by rw [hY]; exact (Below.refl _ _).alloc (Nat.le_refl _) _
          have HYY := Lib.hid (show BoxC Y y [.string ⟨#[]⟩, .int .i64 0, .int .i64 k] by rw [hY, hy0]; exact BoxC.made _ _ _)
          have HS3 := Lib.hid (HS2.out.below hY1)
          have HB3 := Lib.hid (HB2.out.trans (hY1.mono HB2.out.size))
          clear hY1 HS2 HB2
          go_wp2_with fail
          rw [← hY, ← hy0]
          clear hY hy0
          refine (specTx_any ⟨#[]⟩ Y (Nat.zero_le _)).mono ?_
          rintro e w3 ⟨ra, rn, rc, rfl, _, hb⟩
          have HY4 := Lib.hid (HYY.out.below hb)
          have HS4 := Lib.hid (HS3.out.below hb)
          have HB4 := Lib.hid (HB3.out.trans (hb.mono HB3.out.size))
          clear hb HYY HS3 HB3
          have y2 := HY4.out.cell 2 _ rfl
          generalize decide (rdTx ⟨#[]⟩ ≠ []) = ok at *
          go_wp2_with fail
          exact bodyPost_ret (v := .slice a rs.length c) (by simp [results, Tryz.results6, go_sem]) rfl ⟨a, _, c, rs, rfl, rfl, HS4.out, by rw [HTX.out, HTE.out, List.append_nil], HB4.out⟩
      · have hgt := getT_zero hc
        have HTE : Hid (txF s f p = []) := Lib.hid (txF_no hc)
        obtain ⟨k, hk⟩ : ∃ k, k = (getT s (p : Int)).2.2 := ⟨_, rfl⟩
        rw [← hk] at hgt hc
        have HGT := Lib.hid hgt
        have hcb : (k != 0) = true := by simp [hc]
        clear hc hgt hk
        go_wp2_with fail
        refine (specGetText_any s (p : Int) wr (wf_p (by unfold maxLen at hs; omega)) HS.out).mono ?_
        rintro e w1 ⟨rfl, hb⟩
        rw [HGT.out]
        unfold textOutV
        dsimp only
        have HB1 := Lib.hid hb
        clear hb
        go_wp2_with fail
        have HbX : Below wr.heap.size wr (w1.alloc (.cells #[.string ⟨#[]⟩, .int .i64 0, .int .i64 k] 60)) := HB1.out.alloc HB1.out.size _
        exact bodyPost_ret (v := .slice a rs.length c) (by simp [results, Tryz.results6, go_sem]) rfl ⟨a, _, c, rs, rfl, rfl, HSS.out.below HbX, by rw [HTX.out, HTE.out, List.append_nil], HB.out.trans (HbX.mono HB.out.size)⟩
    · have hll : ¬ (s.size : Int) ≤ 8000 := by omega
      have HTE : Hid (txF s f p = []) := Lib.hid (txF_no (by rw [getT_size (by omega)]; decide))
      go_wp2_with fail
      exact bodyPost_ret (v := .slice a rs.length c) (by simp [results, Tryz.results6, go_sem]) rfl ⟨a, _, c, rs, rfl, rfl, HSS.out, by rw [HTX.out, HTE.out, List.append_nil], HB.out⟩
end Go.Proofs.YtidcpdfhnhfelaaGreatDoor

