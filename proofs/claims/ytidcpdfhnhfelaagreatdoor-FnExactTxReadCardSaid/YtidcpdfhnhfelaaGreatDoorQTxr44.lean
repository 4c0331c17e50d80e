/- Texts put together: what the law uses of them. -/
import Derived.Test.YtidcpdfhnhfelaaGreatDoorQTxr15
import Derived.Test.YtidcpdfhnhfelaaGreatDoorQTxr40
import Derived.Test.YtidcpdfhnhfelaaGreatDoorQTxr42
import Derived.Test.YtidcpdfhnhfelaaGreatDoorQTxr00
/- The program's TxRead. -/
namespace Go.Proofs.YtidcpdfhnhfelaaGreatDoor
open Go.RowKit Go.PlainAid G MGet MGF IRow MNum MJoin
set_option linter.unusedVariables false
theorem wf_p {n : Int} (h : 0 ≤ n ∧ n ≤ 9223372036854775807) : (Lit.int .i64 n).wf = true := by
  have h1 := h.1
  have h2 := h.2
  simp only [Lit.wf, IntKind.min, IntKind.max, IntKind.signed, IntKind.bits]
  simp
  omega
set_option maxRecDepth 100000 in
set_option maxHeartbeats 3200000 in
theorem implTxRead_any (s : ByteArray) (w : World) (hs : s.size ≤ maxLen) (hg : ET w) :
    Calls Tryz.prog 7 #[.string s] w (NewSS (txRd s) w) := by
  have HS := Lib.hid hs
  obtain ⟨ti, hi, hz, hsy, hy⟩ := info_parts infoDeeds
  go_enter Tryz.func7, Tryz.ntmps7
  go_wp2_with fail
  go_loopw [3, 4] (fun v i wr => ∃ (p f : Nat) (a : Option Addr) (c : Nat) (rs : List Rw), v = .slice a rs.length c ∧ i = .int .i64 p ∧ p ≤ s.size ∧ s.size + 1 ≤ f + p ∧ rs.length ≤ p ∧ Hid (SS wr w.heap.size (.slice a rs.length c) rs) ∧ Hid (txRd s = rs.map Rw.l ++ txF s f p) ∧ Hid (Below w.heap.size w wr) ∧ Hid (ET wr)) (fun _ i _ => s.size + 1 - (intOf i).toNat)
  case atStart => exact ⟨0, s.size + 1, none, 0, [], rfl, rfl, Nat.zero_le _, Nat.le_refl _, Nat.le_refl _, SS.nil _ _, rfl, Below.refl _ _, hg⟩
  case round =>
    obtain ⟨p, f, a, c, rs, rfl, rfl, hp, hf, hn, HSS, HTX, HB, HE⟩ := hrel
    by_cases hc : (getT s (p : Int)).2.2 = 0
    · obtain ⟨t, p', hgt, hpp, hps, ht, hs8⟩ := getT_step hc
      have HGT := Lib.hid hgt
      clear hc hgt
      go_wp2_with fail
      refine (implGetText_any s (p : Int) wr (wf_p (by unfold maxLen at hs; omega)) HS.out HE.out).mono ?_
      rintro e w1 ⟨rfl, hb⟩
      rw [HGT.out]
      unfold textOutV
      dsimp only
      have HB1 := Lib.hid hb
      clear hb
      obtain ⟨V, hV⟩ : ∃ V, V = w1.alloc (.cells #[.string t, .int .i64 p', .int .i64 0] 60) := ⟨_, rfl⟩
      obtain ⟨b, hb0⟩ : ∃ b, b = w1.heap.size := ⟨_, rfl⟩
      have hV1 : Below w1.heap.size w1 V := by rw [hV]; exact (Below.refl _ _).alloc (Nat.le_refl _) _
      have HXV := Lib.hid (show BoxC V b [.string t, .int .i64 p', .int .i64 0] by rw [hV, hb0]; exact BoxC.made _ _ _)
      have HbV : Below wr.heap.size wr V := HB1.out.trans (hV1.mono HB1.out.size)
      have HSV := Lib.hid (HSS.out.below HbV)
      have HBV := Lib.hid (HB.out.trans (HbV.mono HB.out.size))
      have HEV := Lib.hid (HE.out.below HbV)
      have HLT : Hid (∀ q, (Value.slice a rs.length c).ownBlock = some q → q < b) := Lib.hid (fun q hq => by have := (HSS.out.out.lt q hq).2; have := HB1.out.size; omega)
      have HWB : Hid (w.heap.size ≤ b) := Lib.hid (by have := HB1.out.size; have := HB.out.size; omega)
      clear HbV hV1 HSS HB HE HB1
      obtain ⟨f, rfl⟩ : ∃ f', f = f' + 1 := ⟨f - 1, by omega⟩
      go_wp2_with fail
      rw [← hV, ← hb0]
      clear hV hb0
      refine (deedsIn_any t V ht HEV.out).mono ?_
      rintro e w2 ⟨ra, rn, rc, rfl, ho, hb⟩
      have HRL : Hid ((rdPart t).length = rn) := Lib.hid (DdR.olen ho)
      have HX2 := Lib.hid (HXV.out.below (hb.mono (Nat.le_refl _)))
      have HS2 := Lib.hid (HSV.out.below hb)
      have HB2 := Lib.hid (HBV.out.trans (hb.mono HBV.out.size))
      have HE2 := Lib.hid (HEV.out.below hb)
      have HR2 := Lib.hid (own_mono ho HBV.out.size)
      have HD2 : Hid (∀ i, i < rs.length → Disj (rs.getD i rwD).v (.slice ra rn rc)) := Lib.hid (fun i hi => own_disj (HSV.out.row i hi) ho)
      clear ho hb HXV HSV HBV HEV
      by_cases hr : rdPart t = []
      · have hrn : rn = 0 := by have := HRL.out; rw [hr] at this; exact this.symm
        have HTE : Hid (txF s (f + 1) p = []) := Lib.hid (txF_end (by rw [HGT.out]; exact hr))
        subst hrn
        clear hr
        go_wp2_with fail
        exact bodyPost_ret (v := .slice a rs.length c) (by simp [results, Tryz.results7, go_sem]) rfl ⟨a, _, c, rs, rfl, rfl, HS2.out, by rw [HTX.out, HTE.out, List.append_nil], HB2.out⟩
      · have hrn : ((rn : Int) == 0) = false := by
          rw [beq_eq_false_iff_ne]
          intro h0
          exact hr (List.eq_nil_of_length_eq_zero (by rw [HRL.out]; omega))
        have HTG := Lib.hid (txF_go (f := f) HGT.out hr)
        generalize rdPart t = ds at *
        clear hr
        obtain ⟨r, hrr⟩ : ∃ r : Rw, r = ⟨ra, rn, rc, ds⟩ := ⟨_, rfl⟩
        have HRR := Lib.hid hrr
        have HAB : Hid (Below w2.heap.size w2 (w2.alloc (.cells #[.slice ra rn rc] 63))) := Lib.hid ((Below.refl _ _).alloc (Nat.le_refl _) _)
        have HXL : Hid (SR rwE rwD (w2.alloc (.cells #[.slice ra rn rc] 63)) (some ⟨w2.heap.size, 0, none⟩) 1 1 [r]) := Lib.hid (by rw [hrr]; exact SR.own (by decide) (World.ownsRow_lit w2 #[.slice ra rn rc] 1 (Nat.le_refl _) (by decide) rfl))
        have HS3 := Lib.hid (HS2.out.below HAB.out)
        have HX3 := Lib.hid (HX2.out.below HAB.out)
        have HE3 := Lib.hid (HE2.out.below HAB.out)
        have HR3 := Lib.hid (own_below HR2.out HAB.out)
        have HB3 := Lib.hid (HB2.out.trans (HAB.out.mono HB2.out.size))
        clear hrr HS2 HX2 HE2 HR2 HB2
        have HPU : Hid (∀ (v3 : Value) (u3 : World), u3.ownsRow w.heap.size 63 rwE.k v3 (rs.length + 1) (rwE.flat (rs ++ [r])) → (w2.alloc (.cells #[.slice ra rn rc] 63)).grownBy u3 (Value.slice a rs.length c).ownBlock → SS u3 w.heap.size v3 (rs ++ [r])) := Lib.hid (fun v3 u3 O3 G3 => HS3.out.push (r := r) (by rw [HRR.out]; exact HR3.out) (by rw [HRR.out]; exact HD2.out) O3 G3)
        have hn1 : rs.length ≤ 1048576 := by omega
        have hk0 : 0 < rwE.k := by decide
        have h24 : (24 : Nat) ≤ 1024 := by decide
        have hm1 : 1 ≤ 1048576 := by decide
        go_wp2_with (at_builtin; refine append_wl rwE rwD rfl _ _ 22 rfl 63 ti _ 24 Tryz.underlying22 hi hz hsy hy rfl hk0 h24 w.heap.size _ rs.length rs rfl HS3.out.out _ 1 1 [r] rfl HXL.out HB3.out.size hn1 hm1 ?_; intro v3 u3 O3 G3; have HS4 := Lib.hid (HPU.out v3 u3 O3 G3); have HX4 := Lib.hid (HX3.out.grown G3 (fun e => Nat.lt_irrefl _ (HLT.out _ e.symm))); have HB4 := Lib.hid (HB3.out.grown G3 HB3.out.size (fun q hq => (HS3.out.out.lt q hq).1)); obtain ⟨a5, c5, rfl⟩ := own_shape O3; clear O3 G3; have x1 := HX4.out.cell 1 _ rfl)
        refine ⟨⟨p', f, a5, c5, rs ++ [r], by rw [List.length_append]; rfl, rfl, hps, by omega, by rw [List.length_append]; show rs.length + 1 ≤ p'; omega, ?_, ?_, HB4.out, ?_⟩, ?_⟩
        · unfold Hid
          rw [List.length_append]
          exact HS4.out
        · unfold Hid
          rw [HTX.out, HTG.out, List.map_append, List.append_assoc, HRR.out]
          rfl
        · exact hg.below HB4.out
        · simp [intOf]
          omega
    · have hgt := getT_zero hc
      have HTE : Hid (txF s f p = []) := Lib.hid (txF_no hc)
      obtain ⟨k, hk⟩ : ∃ k, k = (getT s (p : Int)).2.2 := ⟨_, rfl⟩
      rw [← hk] at hgt hc
      have HGT := Lib.hid hgt
      have hcb : (k != 0) = true := by simp [hc]
      clear hc hgt hk
      go_wp2_with fail
      refine (implGetText_any s (p : Int) wr (wf_p (by unfold maxLen at hs; omega)) HS.out HE.out).mono ?_
      rintro e w1 ⟨rfl, hb⟩
      rw [HGT.out]
      unfold textOutV
      dsimp only
      have HB1 := Lib.hid hb
      clear hb
      go_wp2_with fail
      have HbX : Below wr.heap.size wr (w1.alloc (.cells #[.string ⟨#[]⟩, .int .i64 0, .int .i64 k] 60)) := HB1.out.alloc HB1.out.size _
      exact bodyPost_ret (v := .slice a rs.length c) (by simp [results, Tryz.results7, go_sem]) rfl ⟨a, _, c, rs, rfl, rfl, HSS.out.below HbX, by rw [HTX.out, HTE.out, List.append_nil], HB.out.trans (HbX.mono HB.out.size)⟩
end Go.Proofs.YtidcpdfhnhfelaaGreatDoor

