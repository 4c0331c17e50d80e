/- What the model's Hide answers. -/
import Derived.Test.YtdnbkjiijpeiiaaGreatSSpA
import Derived.Test.YtdnbkjiijpeiiaaGreatSplB
import Derived.Test.YtdnbkjiijpeiiaaGreatHShA
import Derived.Test.YtdnbkjiijpeiiaaGreatSSp4
import Derived.WalkSmall
import Derived.Deep.Cut
import Derived.Deep.QuietTactic
import Derived.BigQuiet
namespace Go.Proofs.YtdnbkjiijpeiiaaGreat
open Go.RowKit Go.PlainAid G MGF IRow
set_option linter.unusedVariables false
theorem hideAt_take (s o d xs : List B) (k i : Nat) {t : Nat} (h : t < k) : (hideAt s o d xs k i).take (t + 1) = (hideAt s o d xs k i).take t ++ [cf (hideP s o d xs k i) (t + 1)] := by
  have hl : t < (hideAt s o d xs k i).length := by rw [hideAt_length]; exact h
  rw [← List.take_append_getElem hl]
  simp [hideAt]
theorem hide_row (s o d xs : List B) (k i : Nat) : hideL s o d xs k i ++ (hideAt s o d xs k i).take k = hideL s o d xs k (i + 1) := by
  rw [List.take_of_length_le (by rw [hideAt_length]; exact Nat.le_refl _)]
  rfl
set_option maxRecDepth 100000 in
set_option maxHeartbeats 12800000 in
theorem specHideOk_any (s o d : ByteArray) (need : Int) (a : Option Addr) (n cap : Nat) (zs : List Int) (w : World) (hs : s.size ≤ maxLen) (ho : o.size ≤ maxLen) (hd : d.size ≤ maxLen) (h : IR w a n cap zs) (hn : n ≤ 1048576) (h0 : hideC s o need zs d = 0) :
    Calls Tryz.prog 14 #[.string s, .string o, .int .i64 need, .slice a n cap, .string d] w (NewSecret (hideR s o need zs d) w) := by
  have HS := Lib.hid hs
  have hlen : zs.length = n := h.len
  have hb0 : Below w.heap.size w (w.alloc (Obj.cells #[Value.string ByteArray.empty, Value.int IntKind.i64 0] 34)) := (Below.refl _ _).alloc (Nat.le_refl _) _
  have HBX := Lib.hid (Box2.made w (.string ByteArray.empty) (.int .i64 0) 34)
  have H := Lib.hid (h.below hb0)
  have HB0 := Lib.hid hb0
  clear h hb0 hs ho hd
  have HF := Lib.hid (hideR_yes h0)
  obtain ⟨ys, hOk⟩ := hideC_zero h0
  have hn1 := hOk.n1
  have hn2 := hOk.n2
  have hs16 := hOk.s2
  have hdr := hOk.dr
  have hd8 := hOk.d8
  have hyl := hOk.len
  have hsb : secB s = true := secB_iff.2 ⟨hOk.s1, hOk.s2⟩
  have hnb : needB need = true := needB_iff.2 ⟨hn1, hn2⟩
  have hxb : xsB zs (need - 1) = true := (xsB_iff _ _).2 ⟨ys, hOk.xs, by have := hOk.len; unfold kOf at this; omega, hOk.ne, hOk.nd⟩
  have hnd := needsI_yes hsb hnb
  have h8 : ¬ (d.size : Int) < needsI s need := fun h => by
    have h5 : hideC s o need zs d = 13 := hideC_draws (by have := hOk.so; have := congrArg List.length hOk.xs; rw [pv_length] at this; unfold kOf at hyl; omega) ⟨hsb, by unfold secB at hsb ⊢; rw [← hOk.so]; exact hsb, hOk.so, hnb, hxb⟩ h
    rw [h0] at h5
    cases h5
  obtain ⟨hq0, hq1⟩ := needs_bound hsb hnb
  rw [← hnd] at hq0 hq1
  obtain ⟨nd, hne⟩ : ∃ nd, nd = needsI s need := ⟨_, rfl⟩
  have HN : Hid (needsI s need = nd) := Lib.hid hne.symm
  rw [← hne] at hq0 hq1 h8
  have hwn : IntKind.i64.wrap (need - 1) = need - 1 := by rw [IntWalk.i64_in _ (by omega)]
  have h5 : o.size = s.size := hOk.so.symm
  have H5 := Lib.hid hOk.so
  have hys := hOk.xs
  subst hys
  have hyn : ys.length = n := by rw [← hlen, pv_length]
  have HYE : Hid ((pv ys).map ib = ys) := Lib.hid (map_ib_pv ys)
  rw [HYE.out] at HF
  have HY0 := Lib.hid hOk.ne
  have h1 : ¬ 8000 < s.size := by omega
  have h2 : ¬ 8000 < o.size := by omega
  have h3 : ¬ 8000 < d.size := by omega
  have h4 : ¬ 400 < n := by unfold kOf at hyl; omega
  obtain ⟨k, hk⟩ : ∃ k, k = kOf need := ⟨_, rfl⟩
  have hkn : need = (k : Int) + 1 := by rw [hk]; unfold kOf; omega
  rw [← hk] at HF hyl hdr
  have HK := Lib.hid hk
  have hk9 : k ≤ 9 := by omega
  have HKN := Lib.hid hkn
  clear hkn
  obtain ⟨i0, hi, hz0, hz1, hz2⟩ := info_parts infoU8
  obtain ⟨j0, ji, jz0, jz1, jz2⟩ := info_parts infoI64
  clear hlen hsb hnb hnd hne h0 hOk hk
  go_enter Tryz.func14, Tryz.ntmps14
  go_wp2_with fail
  refine (specNeeds_any s need _ HS.out).mono ?_
  rintro e w1 ⟨rfl, rfl⟩
  rw [HN.out]
  go_wp2_with fail
  refine (l03Xs_any a n cap (pv ys) (need - 1) _ H.out hn (by omega)).mono ?_
  rintro e w2 ⟨rfl, hb⟩
  rw [hxb]
  have HB2 := Lib.hid hb
  clear hb
  go_wp2_with fail
  refine (l04Polys_any s d need _ hn1 hn2 hs16 (by rw [← HK.out]; exact hdr) hd8).mono ?_
  rintro e w3 ⟨a3, c3, rfl, hps, hb⟩
  rw [← HK.out] at hps
  have HB3 := Lib.hid (HB2.out.trans (hb.mono HB2.out.size))
  have HPS := Lib.hid hps
  clear hb hps
  go_wp2_with fail
  refine (l03Vanish_any a n cap ys _ (H.out.below HB3.out) (by omega) HY0.out).mono ?_
  rintro e w4 ⟨a4, k4, c4, rfl, hv, hb⟩
  have hk4 : k4 ≤ 21 := by
    have h5 := hv.1
    have h6 := vanS_length ys n
    simp only [List.length_map, pv_length] at h5
    omega
  have HV := Lib.hid (IR.own hv)
  have HPS4 := Lib.hid (HPS.out.below hb)
  have HB4 := Lib.hid (HB3.out.trans (hb.mono HB3.out.size))
  clear hv hb HPS HB3 HB2
  obtain ⟨P, hP⟩ : ∃ P : Nat → List B, P = hideP (tb s) (tb o) (tb d) ys k := ⟨_, rfl⟩
  have HP := Lib.hid hP
  have HPL : Hid (∀ j, (P j).length ≤ 10) := Lib.hid (fun j => by rw [HP.out]; have := hideP_len (tb s) (tb o) (tb d) ys k j hyl; omega)
  have HPT : Hid (∀ j, (polyT (tb s) (tb d) k j).length ≤ 10) := Lib.hid (fun j => by have := polyT_len (tb s) (tb d) k j; omega)
  have HPE : Hid (∀ j, trim (addP (polyT (tb s) (tb d) k j) (trim (mulP (vanS ys n) (trim [cf (tb s) j ^^^ cf (tb o) j])))) = P j) := Lib.hid (fun j => by rw [HP.out, ← hyn]; rfl)
  have HML : Hid (∀ j, (trim (mulP (vanS ys n) (trim [cf (tb s) j ^^^ cf (tb o) j]))).length ≤ 100) := Lib.hid (fun j => by
    have h1 := length_trim_mul (vanS ys n) (trim [cf (tb s) j ^^^ cf (tb o) j])
    have h2 := length_trim [cf (tb s) j ^^^ cf (tb o) j]
    have h3 := vanS_length ys n
    simp only [List.length_cons, List.length_nil] at h2
    omega)
  have HT1 : Hid (∀ z : B, (trim [z]).length ≤ 1) := Lib.hid (fun z => by have h2 := length_trim [z]; simpa using h2)
  have HHL : Hid (∀ j, hideL (tb s) (tb o) (tb d) ys k (j + 1) = hideL (tb s) (tb o) (tb d) ys k j ++ (hideAt (tb s) (tb o) (tb d) ys k j).take k) := Lib.hid (fun j => (hide_row _ _ _ _ _ _).symm)
  have HHT : Hid (∀ j t, t < k → (hideAt (tb s) (tb o) (tb d) ys k j).take (t + 1) = (hideAt (tb s) (tb o) (tb d) ys k j).take t ++ [cf (P j) (t + 1)]) := Lib.hid (fun j t ht => by rw [HP.out]; exact hideAt_take _ _ _ _ _ _ ht)
  have HE : Hid ((w4.alloc (.cells #[] 5)).ownsRow w4.heap.size 5 1 (.slice (some ⟨w4.heap.size, 0, none⟩) 0 0) 0 ((pv (hideL (tb s) (tb o) (tb d) ys k 0)).map (Value.int .u8))) := Lib.hid (own_empty (Nat.le_refl _))
  have HBE : Hid (Below w4.heap.size w4 (w4.alloc (.cells #[] 5))) := Lib.hid ((Below.refl _ _).alloc (Nat.le_refl _) _)
  clear hP hdr hd8 HY0 HYE
  go_wp2_with fail
  go_loopw [14, 15] (fun v i wr => ∃ j m : Nat, j ≤ s.size ∧ Hid (m = j * k) ∧ m ≤ 200 ∧ i = .int .i64 (j : Int) ∧ wr.ownsRow w4.heap.size 5 1 v m ((pv (hideL (tb s) (tb o) (tb d) ys k j)).map (Value.int .u8)) ∧ Below w4.heap.size w4 wr) (fun _ i _ => s.size - (intOf i).toNat)
  case atStart => exact ⟨0, 0, Nat.zero_le _, Lib.hid (by simp), by omega, rfl, HE.out, HBE.out⟩
  case round =>
    generalize wr = wo at *
    obtain ⟨j, m, hj, HM, hm2, rfl, hown, hbw⟩ := hrel
    by_cases hlt : j < s.size
    · have hlo : j < o.size := by have := H5.out; omega
      obtain ⟨gb, oo, hae, hgb, hpc⟩ := (HPS4.out.below hbw).cells (show 0 < s.size by omega)
      obtain ⟨pb, pk, pc, hcell, hpir⟩ := hpc j hlt
      have hvir := HV.out.below hbw
      have hx := bi_xor8 (cf (tb s) j) (cf (tb o) j)
      rw [tb_cf s hlt, tb_cf o hlo] at hx
      have hx0 : 0 ≤ ((s[j]'hlt).toNat : Int) ∧ ((s[j]'hlt).toNat : Int) ≤ 255 := by rw [← tb_cf s hlt]; exact bi_range _
      have hy0 : 0 ≤ ((o[j]'hlo).toNat : Int) ∧ ((o[j]'hlo).toNat : Int) ≤ 255 := by rw [← tb_cf o hlo]; exact bi_range _
      obtain ⟨hx0, hx1⟩ := hx0
      obtain ⟨hy0, hy1⟩ := hy0
      have hjs : (j : Int) < (s.size : Int) := by omega
      have hjo : (j : Int) < (o.size : Int) := by omega
      have HPJ := Lib.hid (HPE.out j)
      have HMJ := Lib.hid (HML.out j)
      have HTJ := Lib.hid (HPT.out j)
      have HHJ := Lib.hid (HHT.out j)
      have HLJ := Lib.hid (HHL.out j)
      have HPJL := Lib.hid (HPL.out j)
      generalize P j = Pj at *
      obtain ⟨q, hq⟩ : ∃ q, q = cf (tb s) j ^^^ cf (tb o) j := ⟨_, rfl⟩
      rw [← hq] at hx HPJ HMJ
      have hq0 := bi_range q
      obtain ⟨hq0, hq1⟩ := hq0
      generalize polyT (tb s) (tb d) k j = T at *
      have hT : pk ≤ 10 := by have h5 := hpir.len; rw [pv_length] at h5; have := HTJ.out; omega
      have HO := Lib.hid hown
      have HBW := Lib.hid hbw
      subst hae
      clear hown hbw hq HPS4
      go_wp2_with fail
      go_quiet (fail)
      have hbq := below_drewN (Below.refl wo.heap.size wo) nq
      have hown5 := own_below HO.out hbq
      have hbw5 := HBW.out.trans (hbq.mono HBW.out.size)
      have hcell5 := (hbq.cell (p := ⟨gb, oo + j, none⟩) hgb).trans hcell
      have HPI := Lib.hid (hpir.below hbq)
      have HVI := Lib.hid (hvir.below hbq)
      have hgb5 : gb < (wo.drewN nq).heap.size := Nat.lt_of_lt_of_le hgb hbq.size
      have HO5 := Lib.hid hown5
      have HBW5 := Lib.hid hbw5
      clear hcell hpir hvir hx hbq hown5 hbw5 HO HBW hgb
      generalize wo.drewN nq = w5 at *
      obtain ⟨S, hSd⟩ : ∃ S : World → Prop, S = fun u => u.cell? ⟨gb, oo + j, none⟩ = some (.slice pb pk pc) ∧ Below w5.heap.size w5 u := ⟨_, rfl⟩
      have hS0 : S w5.drew := by rw [hSd]; exact ⟨hcell5, (Below.refl _ _).drew⟩
      have HSB : Hid (∀ u v, S u → Below u.heap.size u v → S v) := Lib.hid (fun u v h k => by
        rw [hSd] at h ⊢
        exact ⟨(k.cell (p := ⟨gb, oo + j, none⟩) (Nat.lt_of_lt_of_le hgb5 h.2.size)).trans h.1, h.2.trans (k.mono h.2.size)⟩)
      have HS5 : Hid (∀ u, S u → Below w5.heap.size w5 u) := Lib.hid (fun u h => by rw [hSd] at h; exact h.2)
      go_wp2_with fail
      clear hcell5
      refine Till.region (t := 10) (by kernel_rfl) S (fun a w => _) ?_ (fun _ _ h => h)
      refine Till.take (i := 0) (v := .slice (some ⟨gb, oo, none⟩) s.size c3) rfl rfl rfl rfl (by kernel_rfl) (by kernel_rfl) (by kernel_rfl) (by kernel_rfl) hS0 (fun u hu => by rw [hSd] at hu; obtain ⟨q0, q1⟩ := hu; go_simp) ?_
      simp only [Act.put, List.getElem_toArray, List.getElem_cons_zero, List.setIfInBounds_toArray, List.set_cons_zero, List.set_cons_succ]
      refine Till.take (i := 1) (v := .int .i64 (j : Int)) rfl rfl rfl rfl (by kernel_rfl) (by kernel_rfl) (by kernel_rfl) (by kernel_rfl) hS0 (fun u hu => by rw [hSd] at hu; obtain ⟨q0, q1⟩ := hu; go_simp) ?_
      simp only [Act.put, List.getElem_toArray, List.getElem_cons_zero, List.getElem_cons_succ, List.setIfInBounds_toArray, List.set_cons_zero, List.set_cons_succ]
      refine Till.take (i := 2) (v := .pointer (some ⟨gb, oo + j, none⟩)) rfl rfl rfl rfl (by kernel_rfl) (by kernel_rfl) (by kernel_rfl) (by kernel_rfl) hS0 (fun u hu => by rw [hSd] at hu; obtain ⟨q0, q1⟩ := hu; go_simp) ?_
      simp only [Act.put, List.getElem_toArray, List.getElem_cons_zero, List.getElem_cons_succ, List.setIfInBounds_toArray, List.set_cons_zero, List.set_cons_succ]
      refine Till.take (i := 3) (v := .slice pb pk pc) rfl rfl rfl rfl (by kernel_rfl) (by kernel_rfl) (by kernel_rfl) (by kernel_rfl) hS0 (fun u hu => by rw [hSd] at hu; obtain ⟨q0, q1⟩ := hu; go_simp) ?_
      simp only [Act.put, List.getElem_toArray, List.getElem_cons_zero, List.getElem_cons_succ, List.setIfInBounds_toArray, List.set_cons_zero, List.set_cons_succ]
      refine Till.take (i := 4) (v := .slice a4 k4 c4) rfl rfl rfl rfl (by kernel_rfl) (by kernel_rfl) (by kernel_rfl) (by kernel_rfl) hS0 (fun u hu => by rw [hSd] at hu; obtain ⟨q0, q1⟩ := hu; go_simp) ?_
      simp only [Act.put, List.getElem_toArray, List.getElem_cons_zero, List.getElem_cons_succ, List.setIfInBounds_toArray, List.set_cons_zero, List.set_cons_succ]
      refine Till.take (i := 5) (v := .int .i64 (bi q)) rfl rfl rfl rfl (by kernel_rfl) (by kernel_rfl) (by kernel_rfl) (by kernel_rfl) hS0 (fun u hu => by rw [hSd] at hu; obtain ⟨q0, q1⟩ := hu; go_simp) ?_
      simp only [Act.put, List.getElem_toArray, List.getElem_cons_zero, List.getElem_cons_succ, List.setIfInBounds_toArray, List.set_cons_zero, List.set_cons_succ]
      refine Till.lit (i := 6) (m := 1) (ob := .cells #[.int .i64 (bi q)] 2) (by kernel_rfl) rfl rfl rfl (by go_simp) (fun b w6 hb hw6 => ?_)
      have hl1 := lit_one w5.drew q 2
      have hb6 : Below w5.drew.heap.size w5.drew w6 := by rw [hw6]; exact (Below.refl _ _).alloc (Nat.le_refl _) _
      rw [← hw6, ← hb] at hl1
      have hS6 := HSB.out _ _ hS0 hb6
      refine ⟨fun _ => hS6, ?_⟩
      simp only [Act.put, List.getElem_toArray, List.getElem_cons_zero, List.getElem_cons_succ, List.setIfInBounds_toArray, List.set_cons_zero, List.set_cons_succ]
      refine Till.call (i := 7) (f := 45) (args := #[.slice (some ⟨b, 0, none⟩) 1 1]) (by kernel_rfl) rfl rfl rfl (by go_simp) ?_
      with_reducible refine Calls.mono (l03Trim_any (some ⟨b, 0, none⟩) 1 1 [q] _ (IR.own hl1) (by omega)) ?_
      rintro e w7 ⟨a7, k7, c7, rfl, ho7, hb7⟩
      have hS7 := HSB.out _ _ hS6 hb7
      have hk7 : k7 ≤ 1 := by have h5 := ho7.1; have h6 := HT1.out q; simp only [List.length_map, pv_length] at h5; omega
      refine ⟨_, rfl, fun _ => hS7, ?_⟩
      simp only [Act.put, List.getElem_toArray, List.getElem_cons_zero, List.getElem_cons_succ, List.setIfInBounds_toArray, List.set_cons_zero, List.set_cons_succ]
      refine Till.call (i := 8) (f := 44) (args := #[.slice a4 k4 c4, .slice a7 k7 c7]) (by kernel_rfl) rfl rfl rfl (by go_simp) ?_
      with_reducible refine Calls.mono (l03Mul_any a4 a7 k4 k7 c4 c7 (vanS ys n) (trim [q]) _ (HVI.out.below (HS5.out _ hS7)) (IR.own ho7) (by omega) (by omega)) ?_
      rintro e w8 ⟨a8, k8, c8, rfl, ho8, hb8⟩
      have hS8 := HSB.out _ _ hS7 hb8
      have hk8 : k8 ≤ 100 := by have h5 := ho8.1; have h6 := HMJ.out; simp only [List.length_map, pv_length] at h5; omega
      refine ⟨_, rfl, fun _ => hS8, ?_⟩
      simp only [Act.put, List.getElem_toArray, List.getElem_cons_zero, List.getElem_cons_succ, List.setIfInBounds_toArray, List.set_cons_zero, List.set_cons_succ]
      refine Till.call (i := 9) (f := 43) (args := #[.slice pb pk pc, .slice a8 k8 c8]) (by kernel_rfl) rfl rfl rfl (by go_simp) ?_
      with_reducible refine Calls.mono (l03Add_any pb a8 pk k8 pc c8 T _ _ (HPI.out.below (HS5.out _ hS8)) (IR.own ho8) (by omega) (by omega)) ?_
      rintro e w9 ⟨a9, k9, c9, rfl, ho9, hb9⟩
      rw [HPJ.out] at ho9
      have hS9 := HSB.out _ _ hS8 hb9
      refine ⟨_, rfl, fun _ => hS9, ?_⟩
      simp only [Act.put, List.getElem_toArray, List.getElem_cons_zero, List.getElem_cons_succ, List.setIfInBounds_toArray, List.set_cons_zero, List.set_cons_succ]
      refine Till.value (i := 10) (v := .slice a9 k9 c9) (w' := w9) (by kernel_rfl) rfl rfl rfl (by go_simp) (fun h => absurd rfl h) ?_
      simp only [Act.put, List.getElem_toArray, List.getElem_cons_zero, List.getElem_cons_succ, List.setIfInBounds_toArray, List.set_cons_zero, List.set_cons_succ]
      refine Till.done (by kernel_rfl) ?_ _
      have hb59 := HS5.out _ hS9
      have hb58 := HS5.out _ hS8
      have hk9' : k9 = Pj.length := by have h5 := ho9.1; simp only [List.length_map, pv_length] at h5; omega
      have hk910 : k9 ≤ 10 := by have := HPJL.out; omega
      have HKP := Lib.hid hk9'
      clear hk9'
      have HIR9 := Lib.hid (IR.own ho9)
      have hown9 := own_below HO5.out hb59
      have HNE9 : Hid (0 < k9 → ∀ g o', a9 = some ⟨g, o', none⟩ → some g ≠ u14.ownBlock) := Lib.hid (fun h0 g o' e e2 => by
        have h5 := (HO5.out.lt g e2.symm).2
        have h6 := (ho9.lt g (by rw [e]; rfl)).1
        have h7 := hb58.size
        omega)
      have HB9 := Lib.hid (HBW5.out.trans (hb59.mono HBW5.out.size))
      have HO9 : Hid (w9.ownsRow w4.heap.size 5 1 u14 m ((pv (hideL (tb s) (tb o) (tb d) ys k j ++ (hideAt (tb s) (tb o) (tb d) ys k j).take 0)).map (Value.int .u8))) := Lib.hid (by rw [List.take_zero, List.append_nil]; exact hown9)
      generalize hideL (tb s) (tb o) (tb d) ys k j = L0 at *
      generalize hideAt (tb s) (tb o) (tb d) ys k j = A0 at *
      clear hb59 hb58 hown9 ho9 hb9 ho8 hb8 ho7 hb7 hl1 hb6 hS0 hS6 hS7 hS8 hS9 hSd HSB HS5 hw6 hb HPI HVI HO5 HBW5
      go_wp2_with fail
      go_loopw [14, 18] (fun v t' wx => ∃ t mm : Nat, t ≤ k ∧ Hid (mm = m + t) ∧ mm ≤ 400 ∧ t' = .int .i64 ((t : Int) + 1) ∧ wx.ownsRow w4.heap.size 5 1 v mm ((pv (L0 ++ A0.take t)).map (Value.int .u8)) ∧ Below w4.heap.size w4 wx ∧ Hid (IR wx a9 k9 c9 (pv Pj)) ∧ Hid (0 < k9 → ∀ g o', a9 = some ⟨g, o', none⟩ → some g ≠ v.ownBlock)) (fun _ t' _ => (k + 1 - (intOf t').toNat))
      case atStart => exact ⟨0, m, Nat.zero_le _, Lib.hid rfl, by omega, rfl, HO9.out, HB9.out, HIR9, HNE9⟩
      case round =>
        clear HNE9 HIR9 HO9 HB9
        generalize wr = wx at *
        obtain ⟨t, mm, ht, HMM, hmm4, rfl, hown, hbx, HIR, HNE⟩ := hrel
        have hsx := hbx.size
        by_cases htk : t < k
        · have htn : (t : Int) + 1 < need := by have := HKN.out; omega
          have hcr := bi_range (cf Pj (t + 1))
          obtain ⟨hcr0, hcr1⟩ := hcr
          have HCC := Lib.hid (HHJ.out t htk)
          have HBX := Lib.hid hbx
          have hw8 : IntKind.u8.wrap (bi (cf Pj (t + 1))) = bi (cf Pj (t + 1)) := by rw [IntKind.wrap_u8]; omega
          have hmb : mm ≤ 300 := by have := HMM.out; omega
          clear hbx
          by_cases hpk : t + 1 < k9
          · obtain ⟨g9, o9, hae9, hg9, hc9⟩ := HIR.out.cells (by omega)
            have hck := hc9 (t + 1) hpk
            rw [pv_getD] at hck
            subst hae9
            have hti : (t : Int) + 1 < (k9 : Int) := by omega
            obtain ⟨cx, hcx⟩ : ∃ cx, cx = bi (cf Pj (t + 1)) := ⟨_, rfl⟩
            rw [← hcx] at hck hw8 hcr0 hcr1
            have HCX := Lib.hid hcx.symm
            clear hcx
            clear hc9
            go_wp2_with (at_builtin; refine append_one_at rfl (.tmp 108) (.tmp 111) 22 rfl 5 i0 (.int .u8 0) 1 Tryz.underlying22 hi hz0 hz1 hz2 rfl w4.heap.size _ _ _ rfl hown (.int .u8 cx) _ rfl rfl hsx (by unfold maxLen; omega) (by omega) ?_; intro v' wy hown4 hg4 hv4; have HO4 := Lib.hid hown4; have HG4 := Lib.hid hg4; have HV4 := Lib.hid hv4; have HB4' := Lib.hid (below_grow HBX.out hown (Nat.le_refl _) hg4 hsx); clear hown4 hg4 hown hv4)
            have HIY := Lib.hid (IR.grown0 HIR.out HG4.out HNE.out)
            have HNY : Hid (0 < k9 → ∀ g o', some (⟨g9, o9, none⟩ : Addr) = some ⟨g, o', none⟩ → some g ≠ v'.ownBlock) := Lib.hid (fun h0 g o' e e2 => by
              rcases HV4.out with h4 | ⟨g4, h4, h5⟩
              · exact HNE.out h0 g o' e (e2.trans h4)
              · obtain ⟨g', o'', e', hg', _⟩ := HIR.out.cells h0
                rw [e] at e'
                cases e'
                rw [h4] at e2
                simp only [Option.some.injEq] at e2
                omega)
            go_roundw
            case rel => exact ⟨t + 1, mm + 1, by omega, Lib.hid (by rw [HMM.out]; omega), by omega, by go_num, by rw [HCC.out, ← List.append_assoc, pv, List.map_append, List.map_append, List.map_cons, List.map_nil, List.map_cons, List.map_nil, HCX.out]; exact HO4.out, HB4'.out, HIY, HNY⟩
            case measure => simp [intOf]; omega
          · have hcz : bi (cf Pj (t + 1)) = 0 := by rw [cf_past (by have := HKP.out; omega)]; rfl
            have hti : ¬ (t : Int) + 1 < (k9 : Int) := by omega
            clear hw8
            rw [hcz] at hcr0 hcr1
            have HCZ := Lib.hid hcz
            clear hcz
            go_wp2_with (at_builtin; refine append_one_at rfl (.tmp 108) (.tmp 111) 22 rfl 5 i0 (.int .u8 0) 1 Tryz.underlying22 hi hz0 hz1 hz2 rfl w4.heap.size _ _ _ rfl hown (.int .u8 0) _ rfl rfl hsx (by unfold maxLen; omega) (by omega) ?_; intro v' wy hown4 hg4 hv4; have HO4 := Lib.hid hown4; have HG4 := Lib.hid hg4; have HV4 := Lib.hid hv4; have HB4' := Lib.hid (below_grow HBX.out hown (Nat.le_refl _) hg4 hsx); clear hown4 hg4 hown hv4)
            have HIY := Lib.hid (IR.grown0 HIR.out HG4.out HNE.out)
            have HNY : Hid (0 < k9 → ∀ g o', a9 = some ⟨g, o', none⟩ → some g ≠ v'.ownBlock) := Lib.hid (fun h0 g o' e e2 => by
              rcases HV4.out with h4 | ⟨g4, h4, h5⟩
              · exact HNE.out h0 g o' e (e2.trans h4)
              · obtain ⟨g', o'', e', hg', _⟩ := HIR.out.cells h0
                rw [e] at e'
                cases e'
                rw [h4] at e2
                simp only [Option.some.injEq] at e2
                omega)
            go_roundw
            case rel => exact ⟨t + 1, mm + 1, by omega, Lib.hid (by rw [HMM.out]; omega), by omega, by go_num, by rw [HCC.out, ← List.append_assoc, pv, List.map_append, List.map_append, List.map_cons, List.map_nil, List.map_cons, List.map_nil, HCZ.out]; exact HO4.out, HB4'.out, HIY, HNY⟩
            case measure => simp [intOf]; omega
        · obtain rfl : t = k := by omega
          have htn : ¬ (t : Int) + 1 < need := by have := HKN.out; omega
          have HBX := Lib.hid hbx
          have HOX : Hid (wx.ownsRow w4.heap.size 5 1 u14 mm ((pv (hideL (tb s) (tb o) (tb d) ys t (j + 1))).map (Value.int .u8))) := Lib.hid (by rw [HLJ.out]; exact hown)
          have hjk : j * t ≤ 15 * 9 := Nat.mul_le_mul (by omega) hk9
          have hmm2 : mm ≤ 200 := by have := HMM.out; have := HM.out; omega
          have HMJ' : Hid (mm = (j + 1) * t) := Lib.hid (by rw [HMM.out, HM.out, Nat.succ_mul])
          clear hbx hown hjk
          go_wp2_with fail
          go_roundw
          case rel => exact ⟨j + 1, mm, by omega, HMJ', hmm2, by go_num, HOX.out, HBX.out⟩
          case measure => simp [intOf]; omega
    · obtain rfl : j = s.size := by omega
      have hcv : (convert 22 9 u14).run Tryz.prog wo = .ok (.string (tx (hideL (tb s) (tb o) (tb d) ys k s.size))) wo := conv_owned (P := Tryz.prog) 22 9 5 Tryz.underlying22 Tryz.underlying5 Tryz.underlying9 w4.heap.size _ _ _ hown
      have HBW := Lib.hid hbw
      clear hown hbw
      have HBq := Lib.hid (HB4.out.trans (HBW.out.mono HB4.out.size))
      obtain ⟨hlt0, hc0, hc1, hz0', hz1'⟩ := HBX.out.below HBq.out
      obtain ⟨hr0, hr1⟩ := box_put (x := .string (tx (hideL (tb s) (tb o) (tb d) ys k s.size))) (y := .int .i64 0) hc0 hc1
      have HR' := Lib.hid (And.intro hr0 hr1)
      have HB2 := Lib.hid (((HB0.out.trans (HBq.out.mono HB0.out.size)).setCell (p := ⟨w.heap.size, 0, none⟩) (Nat.le_refl _) (.string (tx (hideL (tb s) (tb o) (tb d) ys k s.size)))).setCell (p := ⟨w.heap.size, 1, none⟩) (Nat.le_refl _) (.int .i64 0))
      clear hr0 hr1 hlt0
      go_wp2_with fail
      obtain ⟨hr0, hr1⟩ := HR'.out
      exact bodyPost_ret (v := .agg #[.string (tx (hideL (tb s) (tb o) (tb d) ys k s.size)), .int .i64 0]) (by simp [results, Tryz.results14, go_sem, hr0, hr1]) rfl (ret_secret (t := (tx (hideL (tb s) (tb o) (tb d) ys k s.size))) HF.out HB2.out)
set_option maxRecDepth 100000 in
set_option maxHeartbeats 6400000 in
theorem specHide_any (s o d : ByteArray) (need : Int) (a : Option Addr) (n cap : Nat) (zs : List Int) (w : World) (hs : s.size ≤ maxLen) (ho : o.size ≤ maxLen) (hd : d.size ≤ maxLen) (h : IR w a n cap zs) (hn : n ≤ 1048576) :
    Calls Tryz.prog 14 #[.string s, .string o, .int .i64 need, .slice a n cap, .string d] w (NewSecret (hideR s o need zs d) w) := by
  have HS := Lib.hid hs
  have hlen : zs.length = n := h.len
  have hb0 : Below w.heap.size w (w.alloc (Obj.cells #[Value.string ByteArray.empty, Value.int IntKind.i64 0] 34)) := (Below.refl _ _).alloc (Nat.le_refl _) _
  have HBX := Lib.hid (Box2.made w (.string ByteArray.empty) (.int .i64 0) 34)
  have H := Lib.hid (h.below hb0)
  have HB0 := Lib.hid hb0
  have HI := Lib.hid h
  unfold maxLen at hs ho hd
  clear h hb0
  by_cases h1 : 8000 < s.size
  · skip
    have HF : Hid (hideR s o need zs d = (ByteArray.empty, 2)) := Lib.hid (hideR_no (hideC_size (by omega)) (by decide))
    clear hlen
    go_enter Tryz.func14, Tryz.ntmps14
    go_wp2_with fail
    exact bodyPost_ret (v := .agg #[.string ⟨#[]⟩, .int .i64 2]) (by simp [results, Tryz.results14, go_sem]) rfl (ret_secret (t := ⟨#[]⟩) HF.out ((Below.refl _ _).alloc (Nat.le_refl _) _))
  · skip
    by_cases h2 : 8000 < o.size
    · skip
      have HF : Hid (hideR s o need zs d = (ByteArray.empty, 2)) := Lib.hid (hideR_no (hideC_size (by omega)) (by decide))
      clear hlen
      go_enter Tryz.func14, Tryz.ntmps14
      go_wp2_with fail
      exact bodyPost_ret (v := .agg #[.string ⟨#[]⟩, .int .i64 2]) (by simp [results, Tryz.results14, go_sem]) rfl (ret_secret (t := ⟨#[]⟩) HF.out ((Below.refl _ _).alloc (Nat.le_refl _) _))
    · skip
      by_cases h3 : 8000 < d.size
      · skip
        have HF : Hid (hideR s o need zs d = (ByteArray.empty, 2)) := Lib.hid (hideR_no (hideC_size (by omega)) (by decide))
        clear hlen
        go_enter Tryz.func14, Tryz.ntmps14
        go_wp2_with fail
        exact bodyPost_ret (v := .agg #[.string ⟨#[]⟩, .int .i64 2]) (by simp [results, Tryz.results14, go_sem]) rfl (ret_secret (t := ⟨#[]⟩) HF.out ((Below.refl _ _).alloc (Nat.le_refl _) _))
      · skip
        by_cases h4 : 400 < n
        · skip
          have HF : Hid (hideR s o need zs d = (ByteArray.empty, 2)) := Lib.hid (hideR_no (hideC_size (by omega)) (by decide))
          clear hlen
          go_enter Tryz.func14, Tryz.ntmps14
          go_wp2_with fail
          exact bodyPost_ret (v := .agg #[.string ⟨#[]⟩, .int .i64 2]) (by simp [results, Tryz.results14, go_sem]) rfl (ret_secret (t := ⟨#[]⟩) HF.out ((Below.refl _ _).alloc (Nat.le_refl _) _))
        · skip
          have hno : ¬ (8000 < s.size ∨ 8000 < o.size ∨ 400 < zs.length ∨ 8000 < d.size) := by omega
          by_cases hsn : secB s = true ∧ needB need = true
          · skip
            obtain ⟨hsb, hnb⟩ := hsn
            have hnd := needsI_yes hsb hnb
            obtain ⟨hq0, hq1⟩ := needs_bound hsb hnb
            rw [← hnd] at hq0 hq1
            obtain ⟨nd, hne⟩ : ∃ nd, nd = needsI s need := ⟨_, rfl⟩
            have HN : Hid (needsI s need = nd) := Lib.hid hne.symm
            rw [← hne] at hq0 hq1
            obtain ⟨hn1, hn2⟩ := needB_iff.1 hnb
            have hwn : IntKind.i64.wrap (need - 1) = need - 1 := by rw [IntWalk.i64_in _ (by omega)]
            by_cases h5 : o.size = s.size
            · skip
              have hob : secB o = true := by unfold secB at hsb ⊢; rw [h5]; exact hsb
              have H5 := Lib.hid h5.symm
              cases hxb : xsB zs (need - 1)
              · skip
                have HF : Hid (hideR s o need zs d = (ByteArray.empty, 1)) := Lib.hid (hideR_no (hideC_form hno (by rw [hxb]; simp)) (by decide))
                clear hno hlen hob hsb hnb hnd hne
                go_enter Tryz.func14, Tryz.ntmps14
                go_wp2_with fail
                refine (specNeeds_any s need _ HS.out).mono ?_
                rintro e w1 ⟨rfl, rfl⟩
                rw [HN.out]
                go_wp2_with fail
                refine (l03Xs_any a n cap zs (need - 1) _ H.out hn (by omega)).mono ?_
                rintro e w2 ⟨rfl, hb⟩
                rw [hxb]
                have HBq := Lib.hid (hb)
                obtain ⟨hlt0, hc0, hc1, hz0', hz1'⟩ := HBX.out.below HBq.out
                obtain ⟨hr0, hr1⟩ := box_put (x := .string ⟨#[]⟩) (y := .int .i64 1) hc0 hc1
                have HR' := Lib.hid (And.intro hr0 hr1)
                have HB2 := Lib.hid (((HB0.out.trans (HBq.out.mono HB0.out.size)).setCell (p := ⟨w.heap.size, 0, none⟩) (Nat.le_refl _) (.string ⟨#[]⟩)).setCell (p := ⟨w.heap.size, 1, none⟩) (Nat.le_refl _) (.int .i64 1))
                clear hr0 hr1 hlt0
                go_wp2_with fail
                obtain ⟨hr0, hr1⟩ := HR'.out
                exact bodyPost_ret (v := .agg #[.string ⟨#[]⟩, .int .i64 1]) (by simp [results, Tryz.results14, go_sem, hr0, hr1]) rfl (ret_secret (t := ⟨#[]⟩) HF.out HB2.out)
              · skip
                have hall : secB s = true ∧ secB o = true ∧ s.size = o.size ∧ needB need = true ∧ xsB zs (need - 1) = true := ⟨hsb, hob, H5.out, hnb, hxb⟩
                by_cases h8 : (d.size : Int) < nd
                · skip
                  have HF : Hid (hideR s o need zs d = (ByteArray.empty, 13)) := Lib.hid (hideR_no (hideC_draws hno hall (by rw [← hne]; exact h8)) (by decide))
                  clear hno hlen hob hsb hnb hnd hne hall
                  go_enter Tryz.func14, Tryz.ntmps14
                  go_wp2_with fail
                  refine (specNeeds_any s need _ HS.out).mono ?_
                  rintro e w1 ⟨rfl, rfl⟩
                  rw [HN.out]
                  go_wp2_with fail
                  refine (l03Xs_any a n cap zs (need - 1) _ H.out hn (by omega)).mono ?_
                  rintro e w2 ⟨rfl, hb⟩
                  rw [hxb]
                  have HBq := Lib.hid (hb)
                  obtain ⟨hlt0, hc0, hc1, hz0', hz1'⟩ := HBX.out.below HBq.out
                  obtain ⟨hr0, hr1⟩ := box_put (x := .string ⟨#[]⟩) (y := .int .i64 13) hc0 hc1
                  have HR' := Lib.hid (And.intro hr0 hr1)
                  have HB2 := Lib.hid (((HB0.out.trans (HBq.out.mono HB0.out.size)).setCell (p := ⟨w.heap.size, 0, none⟩) (Nat.le_refl _) (.string ⟨#[]⟩)).setCell (p := ⟨w.heap.size, 1, none⟩) (Nat.le_refl _) (.int .i64 13))
                  clear hr0 hr1 hlt0
                  go_wp2_with fail
                  obtain ⟨hr0, hr1⟩ := HR'.out
                  exact bodyPost_ret (v := .agg #[.string ⟨#[]⟩, .int .i64 13]) (by simp [results, Tryz.results14, go_sem, hr0, hr1]) rfl (ret_secret (t := ⟨#[]⟩) HF.out HB2.out)
                · skip
                  exact specHideOk_any s o d need a n cap zs w HS.out (by unfold maxLen; omega) (by unfold maxLen; omega) HI.out hn (hideC_ok hno hall (by rw [← hne]; exact h8))
            · skip
              have hsz : ((o.size : Int) == (s.size : Int)) = false := by rw [beq_eq_false_iff_ne]; omega
              have HF : Hid (hideR s o need zs d = (ByteArray.empty, 1)) := Lib.hid (hideR_no (hideC_form hno (fun h => h5 h.2.2.1.symm)) (by decide))
              clear hno hlen hsb hnb hnd hne
              go_enter Tryz.func14, Tryz.ntmps14
              go_wp2_with fail
              refine (specNeeds_any s need _ HS.out).mono ?_
              rintro e w1 ⟨rfl, rfl⟩
              rw [HN.out]
              go_wp2_with fail
              exact bodyPost_ret (v := .agg #[.string ⟨#[]⟩, .int .i64 1]) (by simp [results, Tryz.results14, go_sem]) rfl (ret_secret (t := ⟨#[]⟩) HF.out ((Below.refl _ _).alloc (Nat.le_refl _) _))
          · skip
            have HN := Lib.hid (needsI_no hsn)
            have HF : Hid (hideR s o need zs d = (ByteArray.empty, 1)) := Lib.hid (hideR_no (hideC_form hno (fun h => hsn ⟨h.1, h.2.2.2.1⟩)) (by decide))
            clear hno hlen hsn
            go_enter Tryz.func14, Tryz.ntmps14
            go_wp2_with fail
            refine (specNeeds_any s need _ HS.out).mono ?_
            rintro e w1 ⟨rfl, rfl⟩
            rw [HN.out]
            go_wp2_with fail
            exact bodyPost_ret (v := .agg #[.string ⟨#[]⟩, .int .i64 1]) (by simp [results, Tryz.results14, go_sem]) rfl (ret_secret (t := ⟨#[]⟩) HF.out ((Below.refl _ _).alloc (Nat.le_refl _) _))
end Go.Proofs.YtdnbkjiijpeiiaaGreat
