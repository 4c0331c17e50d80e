/- What the model's polynomial through points answers. -/
import Derived.Test.YtfplfkebamgniaaSPoints
namespace Go.Proofs.Ytfplfkebamgniaa
open Go.RowKit Go.PlainAid G MGF IRow
set_option linter.unusedVariables false
theorem lit_one (w : World) (x : B) (e : TypeId) : (w.alloc (.cells #[.int .i64 (bi x)] e)).ownsRow w.heap.size e 1 (.slice (some ⟨w.heap.size, 0, none⟩) 1 1) 1 ((pv [x]).map (Value.int .i64)) := World.ownsRow_lit w #[.int .i64 (bi x)] 1 (Nat.le_refl _) (by decide) rfl
theorem lit_two (w : World) (x y : B) (e : TypeId) : (w.alloc (.cells #[.int .i64 (bi x), .int .i64 (bi y)] e)).ownsRow w.heap.size e 1 (.slice (some ⟨w.heap.size, 0, none⟩) 2 2) 2 ((pv [x, y]).map (Value.int .i64)) := World.ownsRow_lit w #[.int .i64 (bi x), .int .i64 (bi y)] 2 (Nat.le_refl _) (by decide) rfl
set_option maxRecDepth 100000 in
set_option maxHeartbeats 1600000 in
theorem l03Through_any (a : Option Addr) (n cap : Nat) (qs : List (B × B)) (w : World) (h : PR w a n cap (pp qs)) (hn1 : 1 ≤ n) (hn : n ≤ 20) (hd : (xsOf qs).Nodup) :
    Calls Try.prog 91 #[.slice a n cap] w (NewPoly (thrS qs n) w) := by
  have hl : qs.length = n := by have := h.len; rwa [pp_length] at this
  obtain ⟨g, o, rfl, hg, hc⟩ := h.cells (by omega)
  have hcx : ∀ i, i < n → w.cell? ⟨g, o + i * 2, none⟩ = some (.int .i64 (bi (px qs i))) := fun i hi => by have := (hc i hi).1; rwa [pp_getD] at this
  have hcy : ∀ i, i < n → w.cell? ⟨g, o + i * 2 + 1, none⟩ = some (.int .i64 (bi (py qs i))) := fun i hi => by have := (hc i hi).2; rwa [pp_getD] at this
  have h1 : (1 : Int) = bi 1 := rfl
  have H1 := Lib.hid h1
  clear hc h h1
  go_enter Try.func91, Try.ntmps91
  go_wp2_with fail
  go_loopw [3, 4] (fun v i wr => ∃ j : Nat, j ≤ n ∧ i = .int .i64 j ∧ (∃ a k c, v = .slice a k c ∧ wr.ownsRow w.heap.size 2 1 (.slice a k c) k ((pv (thrS qs j)).map (Value.int .i64))) ∧ Below w.heap.size w wr) (fun _ i _ => n - (intOf i).toNat)
  case atStart => exact ⟨0, Nat.zero_le _, rfl, ⟨_, _, _, rfl, own_empty (Nat.le_refl _)⟩, (Below.refl _ _).alloc (Nat.le_refl _) _⟩
  case round =>
    obtain ⟨j, hj, rfl, ⟨ao, ko, co, rfl, hown⟩, hB⟩ := hrel
    by_cases hlt : j < n
    · have hob := lit_one wr 1 2
      have HO : Hid ((wr.alloc (.cells #[.int .i64 1] 2)).ownsRow w.heap.size 2 1 (.slice ao ko co) ko ((pv (thrS qs j)).map (Value.int .i64))) := Lib.hid (hown.alloc _)
      have HP : Hid ((wr.alloc (.cells #[.int .i64 1] 2)).ownsRow w.heap.size 2 1 (.slice (some ⟨wr.heap.size, 0, none⟩) 1 1) 1 ((pv (lagK qs j 0)).map (Value.int .i64))) := Lib.hid (own_mono hob hB.size)
      have HB := Lib.hid (hB.alloc hB.size (.cells #[.int .i64 1] 2))
      clear hown hB hob
      go_wp2_with fail
      go_loopw [5, 6] (fun v i wr => ∃ k : Nat, k ≤ n ∧ i = .int .i64 k ∧ (∃ a m c, v = .slice a m c ∧ wr.ownsRow w.heap.size 2 1 (.slice a m c) m ((pv (lagK qs j k)).map (Value.int .i64))) ∧ wr.ownsRow w.heap.size 2 1 (.slice ao ko co) ko ((pv (thrS qs j)).map (Value.int .i64)) ∧ Below w.heap.size w wr) (fun _ i _ => n - (intOf i).toNat)
      case atStart => exact ⟨0, Nat.zero_le _, rfl, ⟨_, _, _, rfl, HP.out⟩, HO.out, HB.out⟩
      case round =>
        obtain ⟨k, hk, rfl, ⟨ap, kp, cp, rfl, hownp⟩, hown, hB⟩ := hrel
        by_cases hkn : k < n
        · by_cases hkj : k = j
          · subst hkj
            have HL : Hid (lagK qs k (k + 1) = lagK qs k k) := Lib.hid (by rw [lagK, if_pos rfl])
            have HP2 := Lib.hid hownp
            have HO2 := Lib.hid hown
            have HB2 := Lib.hid hB
            clear hownp hown hB
            go_wp2_with fail
            go_roundw
            case rel => exact ⟨k + 1, by omega, by go_num, ⟨_, _, _, rfl, by rw [HL.out]; exact HP2.out⟩, HO2.out, HB2.out⟩
            case measure => simp [intOf] <;> omega
          · have HL : Hid (lagK qs j (k + 1) = trim (mulP (lagK qs j k) (lagF qs j k))) := Lib.hid (by rw [lagK, if_neg hkj])
            have hkb : ((k : Int) == (j : Int)) = false := by rw [beq_eq_false_iff_ne]; omega
            have hcj := (hB.cell (p := ⟨g, o + j * 2, none⟩) hg).trans (hcx j hlt)
            have hck := (hB.cell (p := ⟨g, o + k * 2, none⟩) hg).trans (hcx k hkn)
            have hck' : wr.drew.cell? ⟨g, o + k * 2, none⟩ = some (.int .i64 (bi (px qs k))) := hck
            have hxx := bi_xor (px qs j) (px qs k)
            have hcall := (l02Inv_any (px qs j ^^^ px qs k) wr.drew (fun h2 => px_ne hd (by omega) (by omega) (fun h3 => hkj h3.symm) (xor_eq_zero h2))).mono (fun e w' h => (⟨h.1, h.2.symm⟩ : e = Ending.returned (.int .i64 (bi (lagD qs j k))) ∧ w' = wr.drew))
            have hlp : (lagK qs j k).length = kp := by have := hownp.1; simpa [pv] using this
            have hkp : kp ≤ 30 := by have := lagK_length qs j k; omega
            have HP2 : Hid (wr.drew.ownsRow w.heap.size 2 1 (.slice ap kp cp) kp ((pv (lagK qs j k)).map (Value.int .i64))) := Lib.hid hownp
            have HO2 : Hid (wr.drew.ownsRow w.heap.size 2 1 (.slice ao ko co) ko ((pv (thrS qs j)).map (Value.int .i64))) := Lib.hid hown
            have HB2 := Lib.hid hB.drew
            have HLF : Hid (lagF qs j k = trim [mul (px qs k) (lagD qs j k), lagD qs j k]) := Lib.hid rfl
            have hlf := lagF_length qs j k
            generalize px qs j ^^^ px qs k = y at *
            generalize lagD qs j k = d at *
            clear hownp hown hB hlp
            go_wp2_with fail
            go_still_tail 12, (by kernel_rfl)
            still_call hcall
            repeat still_step
            refine wpStill_nil ?_
            change wpList _ _ _ _ _ wr.drew
            clear hcall hcj hck
            generalize wr.drew = we at *
            go_wp2_with fail
            refine (l02MulB_any (px qs k) d _).mono ?_
            rintro e w1 ⟨rfl, rfl⟩
            have hl2 := lit_two we (mul (px qs k) d) d 2
            have HI := Lib.hid (IR.own hl2)
            have hba : Below we.heap.size we (we.alloc (.cells #[.int .i64 (bi (mul (px qs k) d)), .int .i64 (bi d)] 2)) := (Below.refl _ _).alloc (Nat.le_refl _) _
            have HP3 := Lib.hid (own_below HP2.out hba)
            have HO3 := Lib.hid (own_below HO2.out hba)
            have HB3 := Lib.hid (HB2.out.trans (hba.mono HB2.out.size))
            clear hl2 hba HP2 HO2 HB2 hck'
            go_wp2_with fail
            refine (l03Trim_any _ 2 2 _ _ HI.out (by omega)).mono ?_
            rintro e w1 ⟨at1, kt, ct, rfl, ho, hb⟩
            rw [← HLF.out] at ho
            have hlt2 : (lagF qs j k).length = kt := by have := ho.1; simpa [pv] using this
            have HT := Lib.hid (IR.own ho)
            have HP4 := Lib.hid (own_below HP3.out hb)
            have HO4 := Lib.hid (own_below HO3.out hb)
            have HB4 := Lib.hid (HB3.out.trans (hb.mono HB3.out.size))
            clear ho hb HP3 HO3 HB3 HI
            go_wp2_with fail
            refine (l03Mul_any ap at1 kp kt cp ct (lagK qs j k) (lagF qs j k) _ (IR.own HP4.out) HT.out (by omega) (by omega)).mono ?_
            rintro e w2 ⟨am, km, cm, rfl, ho, hb⟩
            rw [← HL.out] at ho
            have HP5 := Lib.hid (own_mono ho HB4.out.size)
            have HO5 := Lib.hid (own_below HO4.out hb)
            have HB5 := Lib.hid (HB4.out.trans (hb.mono HB4.out.size))
            clear ho hb HP4 HO4 HB4 HT
            go_wp2_with fail
            go_roundw
            case rel => exact ⟨k + 1, by omega, by go_num, ⟨_, _, _, rfl, HP5.out⟩, HO5.out, HB5.out⟩
            case measure => simp [intOf] <;> omega
        · obtain rfl : k = n := by omega
          have hcy1 := (hB.cell (p := ⟨g, o + j * 2 + 1, none⟩) hg).trans (hcy j hlt)
          have hl1 := lit_one wr (py qs j) 2
          have HI := Lib.hid (IR.own hl1)
          have hba : Below wr.heap.size wr (wr.alloc (.cells #[.int .i64 (bi (py qs j))] 2)) := (Below.refl _ _).alloc (Nat.le_refl _) _
          have hlp : (lagK qs j k).length = kp := by have := hownp.1; simpa [pv] using this
          have hkp : kp ≤ 30 := by have := lagK_length qs j k; omega
          have hlo : (thrS qs j).length = ko := by have := hown.1; simpa [pv] using this
          have hko : ko ≤ 30 := by have := thrS_length qs j (by omega); omega
          have HP3 := Lib.hid (own_below hownp hba)
          have HO3 := Lib.hid (own_below hown hba)
          have HB3 := Lib.hid (hB.trans (hba.mono hB.size))
          have HS : Hid (thrS qs (j + 1) = trim (addP (thrS qs j) (trim (mulP (lagK qs j k) (trim [py qs j]))))) := Lib.hid (by rw [thrS, hl])
          clear hl1 hba hownp hown hB hlp hlo
          go_wp2_with fail
          refine (l03Trim_any _ 1 1 _ _ HI.out (by omega)).mono ?_
          rintro e w1 ⟨at1, kt, ct, rfl, ho, hb⟩
          have hlt2 : (trim [py qs j]).length = kt := by have := ho.1; simpa [pv] using this
          have hlt3 : (trim [py qs j]).length ≤ 1 := length_trim _
          have HT := Lib.hid (IR.own ho)
          have HP4 := Lib.hid (own_below HP3.out hb)
          have HO4 := Lib.hid (own_below HO3.out hb)
          have HB4 := Lib.hid (HB3.out.trans (hb.mono HB3.out.size))
          clear ho hb HP3 HO3 HB3 HI
          go_wp2_with fail
          refine (l03Mul_any ap at1 kp kt cp ct (lagK qs j k) (trim [py qs j]) _ (IR.own HP4.out) HT.out (by omega) (by omega)).mono ?_
          rintro e w2 ⟨am, km, cm, rfl, ho, hb⟩
          have hlm : (trim (mulP (lagK qs j k) (trim [py qs j]))).length = km := by have := ho.1; simpa [pv] using this
          have hkm : km ≤ 60 := by have := length_trim_mul (lagK qs j k) (trim [py qs j]); have := lagK_length qs j k; omega
          have HM := Lib.hid (IR.own ho)
          have HO5 := Lib.hid (own_below HO4.out hb)
          have HB5 := Lib.hid (HB4.out.trans (hb.mono HB4.out.size))
          clear ho hb HP4 HO4 HB4 HT hlm hlt2 hlt3
          go_wp2_with fail
          refine (l03Add_any ao am ko km co cm (thrS qs j) (trim (mulP (lagK qs j k) (trim [py qs j]))) _ (IR.own HO5.out) HM.out (by omega) (by omega)).mono ?_
          rintro e w3 ⟨ax, ks, cs, rfl, ho, hb⟩
          rw [← HS.out] at ho
          have HO6 := Lib.hid (own_mono ho HB5.out.size)
          have HB6 := Lib.hid (HB5.out.trans (hb.mono HB5.out.size))
          clear ho hb HO5 HB5 HM
          go_wp2_with fail
          go_roundw
          case rel => exact ⟨j + 1, by omega, by go_num, ⟨_, _, _, rfl, HO6.out⟩, HB6.out⟩
          case measure => simp [intOf] <;> omega
    · obtain rfl : j = n := by omega
      have HO := Lib.hid hown
      have HB := Lib.hid hB
      clear hown hB
      go_wp2_with fail
      go_ret
      exact ⟨_, _, _, rfl, HO.out, HB.out⟩
end Go.Proofs.Ytfplfkebamgniaa
