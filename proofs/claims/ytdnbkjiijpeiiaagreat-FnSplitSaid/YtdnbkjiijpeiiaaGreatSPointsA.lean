/- What the model's functions on points answer. -/
import Derived.Test.YtdnbkjiijpeiiaaGreatSPolyA
import Derived.Test.YtdnbkjiijpeiiaaGreatMParts2
namespace Go.Proofs.YtdnbkjiijpeiiaaGreat
open Go.RowKit Go.PlainAid G MGF IRow
set_option linter.unusedVariables false
end Go.Proofs.YtdnbkjiijpeiiaaGreat
/- What the model's polynomial through points answers. -/
namespace Go.Proofs.YtdnbkjiijpeiiaaGreat
open Go.RowKit Go.PlainAid G MGF IRow
set_option linter.unusedVariables false
theorem lit_one (w : World) (x : B) (e : TypeId) : (w.alloc (.cells #[.int .i64 (bi x)] e)).ownsRow w.heap.size e 1 (.slice (some ⟨w.heap.size, 0, none⟩) 1 1) 1 ((pv [x]).map (Value.int .i64)) := World.ownsRow_lit w #[.int .i64 (bi x)] 1 (Nat.le_refl _) (by decide) rfl
theorem lit_two (w : World) (x y : B) (e : TypeId) : (w.alloc (.cells #[.int .i64 (bi x), .int .i64 (bi y)] e)).ownsRow w.heap.size e 1 (.slice (some ⟨w.heap.size, 0, none⟩) 2 2) 2 ((pv [x, y]).map (Value.int .i64)) := World.ownsRow_lit w #[.int .i64 (bi x), .int .i64 (bi y)] 2 (Nat.le_refl _) (by decide) rfl
set_option maxRecDepth 100000 in
set_option maxHeartbeats 1600000 in
theorem l03Through_any (a : Option Addr) (n cap : Nat) (qs : List (B × B)) (w : World) (h : PR w a n cap (pp qs)) (hn1 : 1 ≤ n) (hn : n ≤ 20) (hd : (xsOf qs).Nodup) :
    Calls Tryz.prog 68 #[.slice a n cap] w (NewPoly (thrS qs n) w) := by
  have hl : qs.length = n := by have := h.len; rwa [pp_length] at this
  obtain ⟨g, o, rfl, hg, hc⟩ := h.cells (by omega)
  have hcx : ∀ i, i < n → w.cell? ⟨g, o + i * 2, none⟩ = some (.int .i64 (bi (px qs i))) := fun i hi => by have := (hc i hi).1; rwa [pp_getD] at this
  have hcy : ∀ i, i < n → w.cell? ⟨g, o + i * 2 + 1, none⟩ = some (.int .i64 (bi (py qs i))) := fun i hi => by have := (hc i hi).2; rwa [pp_getD] at this
  have h1 : (1 : Int) = bi 1 := rfl
  have H1 := Lib.hid h1
  clear hc h h1
  go_enter Tryz.func68, Tryz.ntmps68
  go_wp2_with fail
  go_loopw [3, 4] (fun v i wr => ∃ j : Nat, j ≤ n ∧ i = .int .i64 j ∧ (∃ a k c, v = .slice a k c ∧ wr.ownsRow w.heap.size 2 1 (.slice a k c) k ((pv (thrS qs j)).map (Value.int .i64))) ∧ Below w.heap.size w wr) (fun _ i _ => n - (intOf i).toNat)
  case atStart => exact ⟨0, Nat.zero_le _, rfl, ⟨_, _, _, rfl, own_empty (Nat.le_refl _)⟩, (Below.refl _ _).alloc (Nat.le_refl _) _⟩
  case round =>
    obtain ⟨j, hj, rfl, ⟨ao, ko, co, rfl, hown⟩, hB⟩ := hrel
    by_cases hlt : j < n
    · have hob := lit_one wr 1 2
      have HO : Hid ((wr.alloc (.cells #[.int .i64 1] 2)).ownsRow w.heap.size 2 1 (.slice ao ko co) ko ((pv (thrS qs j)).map (Value.int .i64))) := Lib.hid (hown.alloc _)
      have HP : Hid ((wr.alloc (.cells #[.int .i64 1] 2)).ownsRow w.heap.size 2 1 (.slice (some ⟨wr.heap.size, 0, none⟩) 1 1) 1 ((pv (lagK qs j 0)).map (Value.int .i64))) := Lib.hid (own_mono hob hB.size)
      have HB := Lib.hid (hB.alloc hB.size (.cells #[.int .i64 1] 2))
      clear hown hB hob
      go_wp2_with fail
      go_loopw [5, 6] (fun v i wr => ∃ k : Nat, k ≤ n ∧ i = .int .i64 k ∧ (∃ a m c, v = .slice a m c ∧ wr.ownsRow w.heap.size 2 1 (.slice a m c) m ((pv (lagK qs j k)).map (Value.int .i64))) ∧ wr.ownsRow w.heap.size 2 1 (.slice ao ko co) ko ((pv (thrS qs j)).map (Value.int .i64)) ∧ Below w.heap.size w wr) (fun _ i _ => n - (intOf i).toNat)
      case atStart => exact ⟨0, Nat.zero_le _, rfl, ⟨_, _, _, rfl, HP.out⟩, HO.out, HB.out⟩
      case round =>
        obtain ⟨k, hk, rfl, ⟨ap, kp, cp, rfl, hownp⟩, hown, hB⟩ := hrel
        by_cases hkn : k < n
        · by_cases hkj : k = j
          · subst hkj
            have HL : Hid (lagK qs k (k + 1) = lagK qs k k) := Lib.hid (by rw [lagK, if_pos rfl])
            have HP2 := Lib.hid hownp
            have HO2 := Lib.hid hown
            have HB2 := Lib.hid hB
            clear hownp hown hB
            go_wp2_with fail
            go_roundw
            case rel => exact ⟨k + 1, by omega, by go_num, ⟨_, _, _, rfl, by rw [HL.out]; exact HP2.out⟩, HO2.out, HB2.out⟩
            case measure => simp [intOf] <;> omega
          · have HL : Hid (lagK qs j (k + 1) = trim (mulP (lagK qs j k) (lagF qs j k))) := Lib.hid (by rw [lagK, if_neg hkj])
            have hkb : ((k : Int) == (j : Int)) = false := by rw [beq_eq_false_iff_ne]; omega
            have hcj := (hB.cell (p := ⟨g, o + j * 2, none⟩) hg).trans (hcx j hlt)
            have hck := (hB.cell (p := ⟨g, o + k * 2, none⟩) hg).trans (hcx k hkn)
            have hck' : wr.drew.cell? ⟨g, o + k * 2, none⟩ = some (.int .i64 (bi (px qs k))) := hck
            have hxx := bi_xor (px qs j) (px qs k)
            have hcall := (l02Inv_any (px qs j ^^^ px qs k) wr.drew (fun h2 => px_ne hd (by omega) (by omega) (fun h3 => hkj h3.symm) (xor_eq_zero h2))).mono (fun e w' h => (⟨h.1, h.2.symm⟩ : e = Ending.returned (.int .i64 (bi (lagD qs j k))) ∧ w' = wr.drew))
            have hlp : (lagK qs j k).length = kp := by have := hownp.1; simpa [pv] using this
            have hkp : kp ≤ 30 := by have := lagK_length qs j k; omega
            have HP2 : Hid (wr.drew.ownsRow w.heap.size 2 1 (.slice ap kp cp) kp ((pv (lagK qs j k)).map (Value.int .i64))) := Lib.hid hownp
            have HO2 : Hid (wr.drew.ownsRow w.heap.size 2 1 (.slice ao ko co) ko ((pv (thrS qs j)).map (Value.int .i64))) := Lib.hid hown
            have HB2 := Lib.hid hB.drew
            have HLF : Hid (lagF qs j k = trim [mul (px qs k) (lagD qs j k), lagD qs j k]) := Lib.hid rfl
            have hlf := lagF_length qs j k
            generalize px qs j ^^^ px qs k = y at *
            generalize lagD qs j k = d at *
            clear hownp hown hB hlp
            go_wp2_with fail
            go_still_tail 12, (by kernel_rfl)
            still_call hcall
            repeat still_step
            refine wpStill_nil ?_
            change wpList _ _ _ _ _ wr.drew
            clear hcall hcj hck
            generalize wr.drew = we at *
            go_wp2_with fail
            refine (l02MulB_any (px qs k) d _).mono ?_
            rintro e w1 ⟨rfl, rfl⟩
            have hl2 := lit_two we (mul (px qs k) d) d 2
            have HI := Lib.hid (IR.own hl2)
            have hba : Below we.heap.size we (we.alloc (.cells #[.int .i64 (bi (mul (px qs k) d)), .int .i64 (bi d)] 2)) := (Below.refl _ _).alloc (Nat.le_refl _) _
            have HP3 := Lib.hid (own_below HP2.out hba)
            have HO3 := Lib.hid (own_below HO2.out hba)
            have HB3 := Lib.hid (HB2.out.trans (hba.mono HB2.out.size))
            clear hl2 hba HP2 HO2 HB2 hck'
            go_wp2_with fail
            refine (l03Trim_any _ 2 2 _ _ HI.out (by omega)).mono ?_
            rintro e w1 ⟨at1, kt, ct, rfl, ho, hb⟩
            rw [← HLF.out] at ho
            have hlt2 : (lagF qs j k).length = kt := by have := ho.1; simpa [pv] using this
            have HT := Lib.hid (IR.own ho)
            have HP4 := Lib.hid (own_below HP3.out hb)
            have HO4 := Lib.hid (own_below HO3.out hb)
            have HB4 := Lib.hid (HB3.out.trans (hb.mono HB3.out.size))
            clear ho hb HP3 HO3 HB3 HI
            go_wp2_with fail
            refine (l03Mul_any ap at1 kp kt cp ct (lagK qs j k) (lagF qs j k) _ (IR.own HP4.out) HT.out (by omega) (by omega)).mono ?_
            rintro e w2 ⟨am, km, cm, rfl, ho, hb⟩
            rw [← HL.out] at ho
            have HP5 := Lib.hid (own_mono ho HB4.out.size)
            have HO5 := Lib.hid (own_below HO4.out hb)
            have HB5 := Lib.hid (HB4.out.trans (hb.mono HB4.out.size))
            clear ho hb HP4 HO4 HB4 HT
            go_wp2_with fail
            go_roundw
            case rel => exact ⟨k + 1, by omega, by go_num, ⟨_, _, _, rfl, HP5.out⟩, HO5.out, HB5.out⟩
            case measure => simp [intOf] <;> omega
        · obtain rfl : k = n := by omega
          have hcy1 := (hB.cell (p := ⟨g, o + j * 2 + 1, none⟩) hg).trans (hcy j hlt)
          have hl1 := lit_one wr (py qs j) 2
          have HI := Lib.hid (IR.own hl1)
          have hba : Below wr.heap.size wr (wr.alloc (.cells #[.int .i64 (bi (py qs j))] 2)) := (Below.refl _ _).alloc (Nat.le_refl _) _
          have hlp : (lagK qs j k).length = kp := by have := hownp.1; simpa [pv] using this
          have hkp : kp ≤ 30 := by have := lagK_length qs j k; omega
          have hlo : (thrS qs j).length = ko := by have := hown.1; simpa [pv] using this
          have hko : ko ≤ 30 := by have := thrS_length qs j (by omega); omega
          have HP3 := Lib.hid (own_below hownp hba)
          have HO3 := Lib.hid (own_below hown hba)
          have HB3 := Lib.hid (hB.trans (hba.mono hB.size))
          have HS : Hid (thrS qs (j + 1) = trim (addP (thrS qs j) (trim (mulP (lagK qs j k) (trim [py qs j]))))) := Lib.hid (by rw [thrS, hl])
          clear hl1 hba hownp hown hB hlp hlo
          go_wp2_with fail
          refine (l03Trim_any _ 1 1 _ _ HI.out (by omega)).mono ?_
          rintro e w1 ⟨at1, kt, ct, rfl, ho, hb⟩
          have hlt2 : (trim [py qs j]).length = kt := by have := ho.1; simpa [pv] using this
          have hlt3 : (trim [py qs j]).length ≤ 1 := length_trim _
          have HT := Lib.hid (IR.own ho)
          have HP4 := Lib.hid (own_below HP3.out hb)
          have HO4 := Lib.hid (own_below HO3.out hb)
          have HB4 := Lib.hid (HB3.out.trans (hb.mono HB3.out.size))
          clear ho hb HP3 HO3 HB3 HI
          go_wp2_with fail
          refine (l03Mul_any ap at1 kp kt cp ct (lagK qs j k) (trim [py qs j]) _ (IR.own HP4.out) HT.out (by omega) (by omega)).mono ?_
          rintro e w2 ⟨am, km, cm, rfl, ho, hb⟩
          have hlm : (trim (mulP (lagK qs j k) (trim [py qs j]))).length = km := by have := ho.1; simpa [pv] using this
          have hkm : km ≤ 60 := by have := length_trim_mul (lagK qs j k) (trim [py qs j]); have := lagK_length qs j k; omega
          have HM := Lib.hid (IR.own ho)
          have HO5 := Lib.hid (own_below HO4.out hb)
          have HB5 := Lib.hid (HB4.out.trans (hb.mono HB4.out.size))
          clear ho hb HP4 HO4 HB4 HT hlm hlt2 hlt3
          go_wp2_with fail
          refine (l03Add_any ao am ko km co cm (thrS qs j) (trim (mulP (lagK qs j k) (trim [py qs j]))) _ (IR.own HO5.out) HM.out (by omega) (by omega)).mono ?_
          rintro e w3 ⟨ax, ks, cs, rfl, ho, hb⟩
          rw [← HS.out] at ho
          have HO6 := Lib.hid (own_mono ho HB5.out.size)
          have HB6 := Lib.hid (HB5.out.trans (hb.mono HB5.out.size))
          clear ho hb HO5 HB5 HM
          go_wp2_with fail
          go_roundw
          case rel => exact ⟨j + 1, by omega, by go_num, ⟨_, _, _, rfl, HO6.out⟩, HB6.out⟩
          case measure => simp [intOf] <;> omega
    · obtain rfl : j = n := by omega
      have HO := Lib.hid hown
      have HB := Lib.hid hB
      clear hown hB
      go_wp2_with fail
      go_ret
      exact ⟨_, _, _, rfl, HO.out, HB.out⟩
end Go.Proofs.YtdnbkjiijpeiiaaGreat
/- What the model's functions on places to vanish at answer. -/
namespace Go.Proofs.YtdnbkjiijpeiiaaGreat
open Go.RowKit Go.PlainAid G MGF IRow
set_option linter.unusedVariables false
set_option maxRecDepth 100000 in
theorem l03Xs_any (a : Option Addr) (n cap : Nat) (zs : List Int) (most : Int) (w : World) (h : IR w a n cap zs) (hn : n ≤ 1048576) (hmost : most ≤ 20) :
    Calls Tryz.prog 40 #[.slice a n cap, .int .i64 most] w fun e w' => e = .returned (.bool (xsB zs most)) ∧ Below w.heap.size w w' := by
  have hl := h.len
  go_enter Tryz.func40, Tryz.ntmps40
  go_wp2_with fail
  go_loopw [5] (fun i wr => ∃ j : Nat, j ≤ n ∧ j ≤ 21 ∧ i = .int .i64 j ∧ (∀ t, t < j → okX (zs.getD t 0) = true) ∧ (zs.take j).Nodup ∧ Below w.heap.size w wr) (fun i _ => n - (intOf i).toNat)
  case atStart => exact ⟨0, Nat.zero_le _, by omega, rfl, fun t ht => by omega, by simp, Below.refl _ _⟩
  case round =>
    obtain ⟨j, hj, hj21, rfl, hby, hnd, hB⟩ := hrel
    have HBY := Lib.hid hby
    have HND := Lib.hid hnd
    clear hby hnd
    by_cases hlt : j < n
    · by_cases h20 : j ≤ 20
      · obtain ⟨g, o, rfl, hg, hc⟩ := h.cells (by omega)
        have hcx := (hB.cell (p := ⟨g, o + j, none⟩) hg).trans (hc j hlt)
        have HB := Lib.hid hB
        have HG : Hid (okX (zs.getD j 0) = true → ∀ t, t < j + 1 → okX (zs.getD t 0) = true) := Lib.hid (fun h2 t ht => by
          by_cases htj : t = j
          · subst htj; exact h2
          · exact HBY.out t (by omega))
        have HN : Hid (okX (zs.getD j 0) = false → false = xsB zs most) := Lib.hid (fun h2 => by unfold xsB; rw [not_all1 (by omega) h2]; simp)
        have HX : Hid (∀ k, k < j → zs.getD k 0 = zs.getD j 0 → false = xsB zs most) := Lib.hid (fun k hk h2 => by
          unfold xsB
          rw [decide_eq_false (not_nodup1 (by omega) hk h2)]
          simp)
        have HT := Lib.hid (nodup_take1 (zs := zs) (j := j) (by omega) HND.out)
        clear h
        obtain ⟨x, hxe⟩ : ∃ x, zs.getD j 0 = x := ⟨_, rfl⟩
        rw [hxe] at hcx HX HT HG HN
        have HXE := Lib.hid hxe
        clear hxe
        have hok : decide (1 ≤ x ∧ x ≤ 255) = okX x := rfl
        go_wp2_with fail
        refine (l02Is_any x 1 255 _).mono ?_
        rintro e w1 ⟨rfl, rfl⟩
        rw [hok]
        clear hok
        cases hbx : okX x
        · have HF := Lib.hid (HN.out hbx)
          clear hcx hB
          go_wp2_with fail
          go_ret
          exact ⟨ret_bool HF.out, HB.out⟩
        · have HG2 := Lib.hid (HG.out hbx)
          clear hcx
          go_wp2_with fail
          go_loopw [6] (fun i wr => ∃ k : Nat, k ≤ j ∧ i = .int .i64 k ∧ (∀ t, t < k → zs.getD t 0 ≠ x) ∧ Below w.heap.size w wr) (fun i _ => j - (intOf i).toNat)
          case atStart => exact ⟨0, Nat.zero_le _, rfl, fun t ht => by omega, HB.out⟩
          case round =>
            obtain ⟨k, hk, rfl, hne, hB2⟩ := hrel
            have HNE := Lib.hid hne
            clear hne
            by_cases hkj : k < j
            · have hcx2 := (hB2.cell (p := ⟨g, o + j, none⟩) hg).trans (hc j hlt)
              rw [HXE.out] at hcx2
              have hck := (hB2.cell (p := ⟨g, o + k, none⟩) hg).trans (hc k (by omega))
              have HB3 := Lib.hid hB2
              have HXK := Lib.hid (HX.out k hkj)
              have HNK : Hid (zs.getD k 0 ≠ x → ∀ t, t < k + 1 → zs.getD t 0 ≠ x) := Lib.hid (fun h2 t ht => by
                by_cases htk : t = k
                · subst htk; exact h2
                · exact HNE.out t (by omega))
              generalize zs.getD k 0 = z at *
              clear hc hB hB2 HX
              by_cases hzx : z = x
              · have HF := Lib.hid (HXK.out hzx)
                subst hzx
                go_wp2_with fail
                go_region
                go_wp2_with fail
                go_ret
                exact ⟨ret_bool HF.out, by repeat' (first | exact HB3.out | refine Below.drew ?_)⟩
              · have HF := Lib.hid (HNK.out hzx)
                have hzb : (z == x) = false := by rw [beq_eq_false_iff_ne]; exact hzx
                go_wp2_with fail
                go_region
                go_wp2_with fail
                go_roundw
                case rel => exact ⟨k + 1, by omega, by go_num, HF.out, by repeat' (first | exact HB3.out | refine Below.drew ?_)⟩
                case measure => simp [intOf] <;> omega
            · obtain rfl : k = j := by omega
              have HT2 := Lib.hid (HT.out HNE.out)
              have HB3 := Lib.hid hB2
              clear hc hB hB2
              go_wp2_with fail
              go_roundw
              case rel => exact ⟨k + 1, by omega, by omega, by go_num, HG2.out, HT2.out, HB3.out⟩
              case measure => simp [intOf] <;> omega
      · have HF : Hid (decide ((n : Int) ≤ most) = xsB zs most) := Lib.hid (by unfold xsB; rw [decide_eq_false (show ¬ (zs.length : Int) ≤ most by omega), decide_eq_false (by omega), Bool.false_and])
        have HB := Lib.hid hB
        clear h hB
        go_wp2_with fail
        go_ret
        exact ⟨ret_bool HF.out, HB.out⟩
    · obtain rfl : j = n := by omega
      have HF : Hid (decide ((j : Int) ≤ most) = xsB zs most) := Lib.hid (by
        unfold xsB
        have hnd := HND.out
        rw [List.take_of_length_le (by omega)] at hnd
        rw [all_of1 (by rw [hl]; exact HBY.out), decide_eq_true hnd, hl]
        simp)
      have HB := Lib.hid hB
      clear h hB
      by_cases h20 : j ≤ 20
      · go_wp2_with fail
        go_ret
        exact ⟨ret_bool HF.out, HB.out⟩
      · go_wp2_with fail
        go_ret
        exact ⟨ret_bool HF.out, HB.out⟩
set_option maxRecDepth 100000 in
theorem l03Vanish_any (a : Option Addr) (n cap : Nat) (xs : List B) (w : World) (h : IR w a n cap (pv xs)) (hn : n ≤ 20) (h0 : ∀ x ∈ xs, x ≠ 0) :
    Calls Tryz.prog 42 #[.slice a n cap] w (NewPoly (vanS xs n) w) := by
  have hl : xs.length = n := by have := h.len; rwa [pv_length] at this
  go_enter Tryz.func42, Tryz.ntmps42
  go_wp2_with fail
  go_loopw [3, 4] (fun v i wr => ∃ j : Nat, j ≤ n ∧ i = .int .i64 j ∧ (∃ a k c, v = .slice a k c ∧ wr.ownsRow w.heap.size 2 1 (.slice a k c) k ((pv (vanS xs j)).map (Value.int .i64))) ∧ Below w.heap.size w wr) (fun _ i _ => n - (intOf i).toNat)
  case atStart => exact ⟨0, Nat.zero_le _, rfl, ⟨_, _, _, rfl, lit_one w 1 2⟩, (Below.refl _ _).alloc (Nat.le_refl _) _⟩
  case round =>
    obtain ⟨j, hj, rfl, ⟨ap, kp, cp, rfl, hown⟩, hB⟩ := hrel
    by_cases hlt : j < n
    · obtain ⟨g, o, rfl, hg, hc⟩ := h.cells (by omega)
      have hck := (hB.cell (p := ⟨g, o + j, none⟩) hg).trans (hc j hlt)
      rw [pv_getD] at hck
      have hx0 : cf xs j ≠ 0 := h0 _ (by unfold cf; rw [getD_mem _ (by omega)]; exact List.getElem_mem _)
      have hlp : (vanS xs j).length = kp := by have := hown.1; simpa [pv] using this
      have hkp : kp ≤ 30 := by have := vanS_length xs j; omega
      have HS : Hid (vanS xs (j + 1) = trim (mulP (vanS xs j) [1, inv (cf xs j)])) := Lib.hid rfl
      generalize cf xs j = x at *
      have hl2 := lit_two wr 1 (inv x) 2
      have HI := Lib.hid (IR.own hl2)
      have hba : Below wr.heap.size wr (wr.alloc (.cells #[.int .i64 (bi 1), .int .i64 (bi (inv x))] 2)) := (Below.refl _ _).alloc (Nat.le_refl _) _
      have HP3 := Lib.hid (own_below hown hba)
      have HB3 := Lib.hid (hB.trans (hba.mono hB.size))
      clear hl2 hba hown hB hlp hc
      go_wp2_with fail
      refine (l02Inv_any x _ hx0).mono ?_
      rintro e w1 ⟨rfl, rfl⟩
      go_wp2_with fail
      refine (l03Mul_any ap _ kp 2 cp 2 (vanS xs j) [1, inv x] _ (IR.own HP3.out) HI.out (by omega) (by omega)).mono ?_
      rintro e w2 ⟨am, km, cm, rfl, ho, hb⟩
      rw [← HS.out] at ho
      have HP5 := Lib.hid (own_mono ho HB3.out.size)
      have HB5 := Lib.hid (HB3.out.trans (hb.mono HB3.out.size))
      clear ho hb HP3 HB3 HI
      go_wp2_with fail
      go_roundw
      case rel => exact ⟨j + 1, by omega, by go_num, ⟨_, _, _, rfl, HP5.out⟩, HB5.out⟩
      case measure => simp [intOf] <;> omega
    · obtain rfl : j = n := by omega
      have HO := Lib.hid hown
      have HB := Lib.hid hB
      clear hown hB h
      go_wp2_with fail
      go_ret
      exact ⟨_, _, _, rfl, HO.out, HB.out⟩
end Go.Proofs.YtdnbkjiijpeiiaaGreat
/- What the model's Through, AtZero and Vanish answer. -/
namespace Go.Proofs.YtdnbkjiijpeiiaaGreat
open Go.RowKit Go.PlainAid G MGF IRow
set_option linter.unusedVariables false
def ibp (ps : List (Int × Int)) : List (B × B) := ps.map fun p => (ib p.1, ib p.2)
theorem ibp_pp (qs : List (B × B)) : ibp (pp qs) = qs := by
  unfold ibp pp
  rw [List.map_map]
  have : qs.map ((fun p : Int × Int => (ib p.1, ib p.2)) ∘ fun q : B × B => (bi q.1, bi q.2)) = qs.map id := List.map_congr_left (fun q _ => by
    show (ib (bi q.1), ib (bi q.2)) = q
    rw [ib_bi, ib_bi])
  rw [this, List.map_id]
def throughR (ps : List (Int × Int)) : List Int × Int := if 400 < ps.length then ([], 2) else if pointsB ps = true then (pv (thrS (ibp ps) ps.length), 0) else ([], 1)
def atZeroI (ps : List (Int × Int)) : Int := if pointsB ps = true then bi (ev (thrS (ibp ps) ps.length) 0) else -1
def vanishR (zs : List Int) : List Int × Int := if 400 < zs.length then ([], 2) else if xsB zs 20 = true then (pv (vanS (zs.map ib) zs.length), 0) else ([], 1)
theorem throughR_size {ps : List (Int × Int)} (h : 400 < ps.length) : throughR ps = ([], 2) := by unfold throughR; rw [if_pos h]
theorem throughR_form {ps : List (Int × Int)} (h : ¬ 400 < ps.length) (h2 : pointsB ps = false) : throughR ps = ([], 1) := by unfold throughR; rw [if_neg h, h2, if_neg (by decide)]
theorem throughR_pp {qs : List (B × B)} (h : ¬ 400 < (pp qs).length) (h2 : pointsB (pp qs) = true) : throughR (pp qs) = (pv (thrS qs qs.length), 0) := by unfold throughR; rw [if_neg h, if_pos h2, ibp_pp, pp_length]
theorem vanishR_size {zs : List Int} (h : 400 < zs.length) : vanishR zs = ([], 2) := by unfold vanishR; rw [if_pos h]
theorem vanishR_form {zs : List Int} (h : ¬ 400 < zs.length) (h2 : xsB zs 20 = false) : vanishR zs = ([], 1) := by unfold vanishR; rw [if_neg h, h2, if_neg (by decide)]
theorem vanishR_pv {xs : List B} (h : ¬ 400 < (pv xs).length) (h2 : xsB (pv xs) 20 = true) : vanishR (pv xs) = (pv (vanS xs xs.length), 0) := by unfold vanishR; rw [if_neg h, if_pos h2, map_ib_pv, pv_length]
theorem throughR_len (ps : List (Int × Int)) : (throughR ps).1.length ≤ 60 := by
  unfold throughR
  split
  · exact Nat.zero_le _
  · split
    · rename_i h
      obtain ⟨qs, rfl, h1, h2, h3⟩ := (pointsB_iff ps).1 h
      have := thrS_length qs qs.length (Nat.le_refl _)
      rw [ibp_pp, pp_length]
      show (pv _).length ≤ 60
      rw [pv_length]; omega
    · exact Nat.zero_le _
theorem vanishR_len (zs : List Int) : (vanishR zs).1.length ≤ 60 := by
  unfold vanishR
  split
  · exact Nat.zero_le _
  · split
    · rename_i h
      obtain ⟨xs, rfl, h1, _⟩ := (xsB_iff zs 20).1 h
      have := vanS_length xs xs.length
      show (pv (vanS ((pv xs).map ib) (pv xs).length)).length ≤ 60
      rw [pv_length, map_ib_pv, pv_length]; omega
    · exact Nat.zero_le _
end Go.Proofs.YtdnbkjiijpeiiaaGreat
