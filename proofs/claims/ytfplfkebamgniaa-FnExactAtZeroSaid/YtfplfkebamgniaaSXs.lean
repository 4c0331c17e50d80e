/- What the model's functions on places to vanish at answer. -/
import Derived.Test.YtfplfkebamgniaaSThrough
namespace Go.Proofs.Ytfplfkebamgniaa
open Go.RowKit Go.PlainAid G MGF IRow
set_option linter.unusedVariables false
set_option maxRecDepth 100000 in
theorem l03Xs_any (a : Option Addr) (n cap : Nat) (zs : List Int) (most : Int) (w : World) (h : IR w a n cap zs) (hn : n ≤ 1048576) (hmost : most ≤ 20) :
    Calls Try.prog 92 #[.slice a n cap, .int .i64 most] w fun e w' => e = .returned (.bool (xsB zs most)) ∧ Below w.heap.size w w' := by
  have hl := h.len
  go_enter Try.func92, Try.ntmps92
  go_wp2_with fail
  go_loopw [5] (fun i wr => ∃ j : Nat, j ≤ n ∧ j ≤ 21 ∧ i = .int .i64 j ∧ (∀ t, t < j → okX (zs.getD t 0) = true) ∧ (zs.take j).Nodup ∧ Below w.heap.size w wr) (fun i _ => n - (intOf i).toNat)
  case atStart => exact ⟨0, Nat.zero_le _, by omega, rfl, fun t ht => by omega, by simp, Below.refl _ _⟩
  case round =>
    obtain ⟨j, hj, hj21, rfl, hby, hnd, hB⟩ := hrel
    have HBY := Lib.hid hby
    have HND := Lib.hid hnd
    clear hby hnd
    by_cases hlt : j < n
    · by_cases h20 : j ≤ 20
      · obtain ⟨g, o, rfl, hg, hc⟩ := h.cells (by omega)
        have hcx := (hB.cell (p := ⟨g, o + j, none⟩) hg).trans (hc j hlt)
        have HB := Lib.hid hB
        have HG : Hid (okX (zs.getD j 0) = true → ∀ t, t < j + 1 → okX (zs.getD t 0) = true) := Lib.hid (fun h2 t ht => by
          by_cases htj : t = j
          · subst htj; exact h2
          · exact HBY.out t (by omega))
        have HN : Hid (okX (zs.getD j 0) = false → false = xsB zs most) := Lib.hid (fun h2 => by unfold xsB; rw [not_all1 (by omega) h2]; simp)
        have HX : Hid (∀ k, k < j → zs.getD k 0 = zs.getD j 0 → false = xsB zs most) := Lib.hid (fun k hk h2 => by
          unfold xsB
          rw [decide_eq_false (not_nodup1 (by omega) hk h2)]
          simp)
        have HT := Lib.hid (nodup_take1 (zs := zs) (j := j) (by omega) HND.out)
        clear h
        obtain ⟨x, hxe⟩ : ∃ x, zs.getD j 0 = x := ⟨_, rfl⟩
        rw [hxe] at hcx HX HT HG HN
        have HXE := Lib.hid hxe
        clear hxe
        have hok : decide (1 ≤ x ∧ x ≤ 255) = okX x := rfl
        go_wp2_with fail
        refine (l02Is_any x 1 255 _).mono ?_
        rintro e w1 ⟨rfl, rfl⟩
        rw [hok]
        clear hok
        cases hbx : okX x
        · have HF := Lib.hid (HN.out hbx)
          clear hcx hB
          go_wp2_with fail
          go_ret
          exact ⟨ret_bool HF.out, HB.out⟩
        · have HG2 := Lib.hid (HG.out hbx)
          clear hcx
          go_wp2_with fail
          go_loopw [6] (fun i wr => ∃ k : Nat, k ≤ j ∧ i = .int .i64 k ∧ (∀ t, t < k → zs.getD t 0 ≠ x) ∧ Below w.heap.size w wr) (fun i _ => j - (intOf i).toNat)
          case atStart => exact ⟨0, Nat.zero_le _, rfl, fun t ht => by omega, HB.out⟩
          case round =>
            obtain ⟨k, hk, rfl, hne, hB2⟩ := hrel
            have HNE := Lib.hid hne
            clear hne
            by_cases hkj : k < j
            · have hcx2 := (hB2.cell (p := ⟨g, o + j, none⟩) hg).trans (hc j hlt)
              rw [HXE.out] at hcx2
              have hck := (hB2.cell (p := ⟨g, o + k, none⟩) hg).trans (hc k (by omega))
              have HB3 := Lib.hid hB2
              have HXK := Lib.hid (HX.out k hkj)
              have HNK : Hid (zs.getD k 0 ≠ x → ∀ t, t < k + 1 → zs.getD t 0 ≠ x) := Lib.hid (fun h2 t ht => by
                by_cases htk : t = k
                · subst htk; exact h2
                · exact HNE.out t (by omega))
              generalize zs.getD k 0 = z at *
              clear hc hB hB2 HX
              by_cases hzx : z = x
              · have HF := Lib.hid (HXK.out hzx)
                subst hzx
                go_wp2_with fail
                go_region
                go_wp2_with fail
                go_ret
                exact ⟨ret_bool HF.out, by repeat' (first | exact HB3.out | refine Below.drew ?_)⟩
              · have HF := Lib.hid (HNK.out hzx)
                have hzb : (z == x) = false := by rw [beq_eq_false_iff_ne]; exact hzx
                go_wp2_with fail
                go_region
                go_wp2_with fail
                go_roundw
                case rel => exact ⟨k + 1, by omega, by go_num, HF.out, by repeat' (first | exact HB3.out | refine Below.drew ?_)⟩
                case measure => simp [intOf] <;> omega
            · obtain rfl : k = j := by omega
              have HT2 := Lib.hid (HT.out HNE.out)
              have HB3 := Lib.hid hB2
              clear hc hB hB2
              go_wp2_with fail
              go_roundw
              case rel => exact ⟨k + 1, by omega, by omega, by go_num, HG2.out, HT2.out, HB3.out⟩
              case measure => simp [intOf] <;> omega
      · have HF : Hid (decide ((n : Int) ≤ most) = xsB zs most) := Lib.hid (by unfold xsB; rw [decide_eq_false (show ¬ (zs.length : Int) ≤ most by omega), decide_eq_false (by omega), Bool.false_and])
        have HB := Lib.hid hB
        clear h hB
        go_wp2_with fail
        go_ret
        exact ⟨ret_bool HF.out, HB.out⟩
    · obtain rfl : j = n := by omega
      have HF : Hid (decide ((j : Int) ≤ most) = xsB zs most) := Lib.hid (by
        unfold xsB
        have hnd := HND.out
        rw [List.take_of_length_le (by omega)] at hnd
        rw [all_of1 (by rw [hl]; exact HBY.out), decide_eq_true hnd, hl]
        simp)
      have HB := Lib.hid hB
      clear h hB
      by_cases h20 : j ≤ 20
      · go_wp2_with fail
        go_ret
        exact ⟨ret_bool HF.out, HB.out⟩
      · go_wp2_with fail
        go_ret
        exact ⟨ret_bool HF.out, HB.out⟩
set_option maxRecDepth 100000 in
theorem l03Vanish_any (a : Option Addr) (n cap : Nat) (xs : List B) (w : World) (h : IR w a n cap (pv xs)) (hn : n ≤ 20) (h0 : ∀ x ∈ xs, x ≠ 0) :
    Calls Try.prog 93 #[.slice a n cap] w (NewPoly (vanS xs n) w) := by
  have hl : xs.length = n := by have := h.len; rwa [pv_length] at this
  go_enter Try.func93, Try.ntmps93
  go_wp2_with fail
  go_loopw [3, 4] (fun v i wr => ∃ j : Nat, j ≤ n ∧ i = .int .i64 j ∧ (∃ a k c, v = .slice a k c ∧ wr.ownsRow w.heap.size 2 1 (.slice a k c) k ((pv (vanS xs j)).map (Value.int .i64))) ∧ Below w.heap.size w wr) (fun _ i _ => n - (intOf i).toNat)
  case atStart => exact ⟨0, Nat.zero_le _, rfl, ⟨_, _, _, rfl, lit_one w 1 2⟩, (Below.refl _ _).alloc (Nat.le_refl _) _⟩
  case round =>
    obtain ⟨j, hj, rfl, ⟨ap, kp, cp, rfl, hown⟩, hB⟩ := hrel
    by_cases hlt : j < n
    · obtain ⟨g, o, rfl, hg, hc⟩ := h.cells (by omega)
      have hck := (hB.cell (p := ⟨g, o + j, none⟩) hg).trans (hc j hlt)
      rw [pv_getD] at hck
      have hx0 : cf xs j ≠ 0 := h0 _ (by unfold cf; rw [getD_mem _ (by omega)]; exact List.getElem_mem _)
      have hlp : (vanS xs j).length = kp := by have := hown.1; simpa [pv] using this
      have hkp : kp ≤ 30 := by have := vanS_length xs j; omega
      have HS : Hid (vanS xs (j + 1) = trim (mulP (vanS xs j) [1, inv (cf xs j)])) := Lib.hid rfl
      generalize cf xs j = x at *
      have hl2 := lit_two wr 1 (inv x) 2
      have HI := Lib.hid (IR.own hl2)
      have hba : Below wr.heap.size wr (wr.alloc (.cells #[.int .i64 (bi 1), .int .i64 (bi (inv x))] 2)) := (Below.refl _ _).alloc (Nat.le_refl _) _
      have HP3 := Lib.hid (own_below hown hba)
      have HB3 := Lib.hid (hB.trans (hba.mono hB.size))
      clear hl2 hba hown hB hlp hc
      go_wp2_with fail
      refine (l02Inv_any x _ hx0).mono ?_
      rintro e w1 ⟨rfl, rfl⟩
      go_wp2_with fail
      refine (l03Mul_any ap _ kp 2 cp 2 (vanS xs j) [1, inv x] _ (IR.own HP3.out) HI.out (by omega) (by omega)).mono ?_
      rintro e w2 ⟨am, km, cm, rfl, ho, hb⟩
      rw [← HS.out] at ho
      have HP5 := Lib.hid (own_mono ho HB3.out.size)
      have HB5 := Lib.hid (HB3.out.trans (hb.mono HB3.out.size))
      clear ho hb HP3 HB3 HI
      go_wp2_with fail
      go_roundw
      case rel => exact ⟨j + 1, by omega, by go_num, ⟨_, _, _, rfl, HP5.out⟩, HB5.out⟩
      case measure => simp [intOf] <;> omega
    · obtain rfl : j = n := by omega
      have HO := Lib.hid hown
      have HB := Lib.hid hB
      clear hown hB h
      go_wp2_with fail
      go_ret
      exact ⟨_, _, _, rfl, HO.out, HB.out⟩
end Go.Proofs.Ytfplfkebamgniaa
