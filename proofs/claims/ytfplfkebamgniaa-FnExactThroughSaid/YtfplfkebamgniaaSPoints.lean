/- What the model's functions on points answer. -/
import Derived.Test.YtfplfkebamgniaaSPoly3
import Derived.Test.YtfplfkebamgniaaMPoints
namespace Go.Proofs.Ytfplfkebamgniaa
open Go.RowKit Go.PlainAid G MGF IRow
set_option linter.unusedVariables false
set_option maxRecDepth 100000 in
theorem l03Points_any (a : Option Addr) (n cap : Nat) (ps : List (Int × Int)) (w : World) (h : PR w a n cap ps) (hn : n ≤ 1048576) :
    Calls Try.prog 90 #[.slice a n cap] w fun e w' => e = .returned (.bool (pointsB ps)) ∧ Below w.heap.size w w' := by
  have hl := h.len
  go_enter Try.func90, Try.ntmps90
  go_wp2_with fail
  go_loopw [3] (fun i wr => ∃ j : Nat, j ≤ n ∧ j ≤ 21 ∧ i = .int .i64 j ∧ (∀ t, t < j → okP (ps.getD t (0, 0)) = true) ∧ ((ps.take j).map Prod.fst).Nodup ∧ Below w.heap.size w wr) (fun i _ => n - (intOf i).toNat)
  case atStart => exact ⟨0, Nat.zero_le _, by omega, rfl, fun t ht => by omega, by simp, Below.refl _ _⟩
  case round =>
    obtain ⟨j, hj, hj21, rfl, hby, hnd, hB⟩ := hrel
    have HBY := Lib.hid hby
    have HND := Lib.hid hnd
    clear hby hnd
    by_cases hlt : j < n
    · by_cases h20 : j ≤ 20
      · obtain ⟨g, o, rfl, hg, hc⟩ := h.cells (by omega)
        have hcx := (hB.cell (p := ⟨g, o + j * 2, none⟩) hg).trans (hc j hlt).1
        have hcy := (hB.cell (p := ⟨g, o + j * 2 + 1, none⟩) hg).trans (hc j hlt).2
        have HB := Lib.hid hB
        have HG : Hid (okP (ps.getD j (0, 0)) = true → ∀ t, t < j + 1 → okP (ps.getD t (0, 0)) = true) := Lib.hid (fun h2 t ht => by
          by_cases htj : t = j
          · subst htj; exact h2
          · exact HBY.out t (by omega))
        have HN : Hid (okP (ps.getD j (0, 0)) = false → false = pointsB ps) := Lib.hid (fun h2 => by unfold pointsB; rw [not_all (by omega) h2]; simp)
        have HX : Hid (∀ k, k < j → (ps.getD k (0, 0)).1 = (ps.getD j (0, 0)).1 → false = pointsB ps) := Lib.hid (fun k hk h2 => by
          unfold pointsB
          rw [decide_eq_false (not_nodup (by omega) hk h2)]
          simp)
        have HT := Lib.hid (nodup_take (ps := ps) (j := j) (by omega) HND.out)
        have hok : okP (ps.getD j (0, 0)) = (byteB (ps.getD j (0, 0)).1 && byteB (ps.getD j (0, 0)).2) := rfl
        have HOK := Lib.hid hok
        clear hok h
        obtain ⟨x, hxe⟩ : ∃ x, (ps.getD j (0, 0)).1 = x := ⟨_, rfl⟩
        rw [hxe] at hcx HX HT HOK
        have HXE := Lib.hid hxe
        clear hxe
        generalize (ps.getD j (0, 0)).2 = y at *
        go_wp2_with fail
        refine (l02Byte_any x _).mono ?_
        rintro e w1 ⟨rfl, rfl⟩
        cases hbx : byteB x
        · have HF := Lib.hid (HN.out (by rw [HOK.out, hbx]; rfl))
          clear hcx hcy hB
          go_wp2_with fail
          go_ret
          exact ⟨ret_bool HF.out, HB.out⟩
        · go_wp2_with fail
          refine (l02Byte_any y _).mono ?_
          rintro e w1 ⟨rfl, rfl⟩
          cases hbyy : byteB y
          · have HF := Lib.hid (HN.out (by rw [HOK.out, hbx, hbyy]; rfl))
            clear hcx hcy hB
            go_wp2_with fail
            go_ret
            exact ⟨ret_bool HF.out, HB.out⟩
          · have HG2 := Lib.hid (HG.out (by rw [HOK.out, hbx, hbyy]; rfl))
            clear hcy
            go_wp2_with fail
            go_loopw [4] (fun i wr => ∃ k : Nat, k ≤ j ∧ i = .int .i64 k ∧ (∀ t, t < k → (ps.getD t (0, 0)).1 ≠ x) ∧ Below w.heap.size w wr) (fun i _ => j - (intOf i).toNat)
            case atStart => exact ⟨0, Nat.zero_le _, rfl, fun t ht => by omega, HB.out⟩
            case round =>
              obtain ⟨k, hk, rfl, hne, hB2⟩ := hrel
              have HNE := Lib.hid hne
              clear hne
              by_cases hkj : k < j
              · have hcx2 := (hB2.cell (p := ⟨g, o + j * 2, none⟩) hg).trans (hc j hlt).1
                rw [HXE.out] at hcx2
                have hck := (hB2.cell (p := ⟨g, o + k * 2, none⟩) hg).trans (hc k (by omega)).1
                have HB3 := Lib.hid hB2
                have HXK := Lib.hid (HX.out k hkj)
                have HNK : Hid ((ps.getD k (0, 0)).1 ≠ x → ∀ t, t < k + 1 → (ps.getD t (0, 0)).1 ≠ x) := Lib.hid (fun h2 t ht => by
                  by_cases htk : t = k
                  · subst htk; exact h2
                  · exact HNE.out t (by omega))
                generalize (ps.getD k (0, 0)).1 = z at *
                clear hc hB hB2 hcx HOK HX
                by_cases hzx : z = x
                · have HF := Lib.hid (HXK.out hzx)
                  subst hzx
                  go_wp2_with fail
                  go_region
                  go_wp2_with fail
                  go_ret
                  exact ⟨ret_bool HF.out, by repeat' (first | exact HB3.out | refine Below.drew ?_)⟩
                · have HF := Lib.hid (HNK.out hzx)
                  have hzb : (z == x) = false := by rw [beq_eq_false_iff_ne]; exact hzx
                  go_wp2_with fail
                  go_region
                  go_wp2_with fail
                  go_roundw
                  case rel => exact ⟨k + 1, by omega, by go_num, HF.out, by repeat' (first | exact HB3.out | refine Below.drew ?_)⟩
                  case measure => simp [intOf] <;> omega
              · obtain rfl : k = j := by omega
                have HT2 := Lib.hid (HT.out HNE.out)
                have HB3 := Lib.hid hB2
                clear hc hB hB2 hcx
                go_wp2_with fail
                go_roundw
                case rel => exact ⟨k + 1, by omega, by omega, by go_num, HG2.out, HT2.out, HB3.out⟩
                case measure => simp [intOf] <;> omega
      · have HF : Hid (false = pointsB ps) := Lib.hid (by unfold pointsB; rw [decide_eq_false (show ¬ ps.length ≤ 20 by omega)]; simp)
        have HB := Lib.hid hB
        clear h hB
        go_wp2_with fail
        go_ret
        exact ⟨ret_bool ((decide_eq_false (by omega)).trans HF.out), HB.out⟩
    · obtain rfl : j = n := by omega
      have HF : Hid ((decide (1 ≤ j) && decide (j ≤ 20)) = pointsB ps) := Lib.hid (by
        unfold pointsB
        have hnd := HND.out
        rw [List.take_of_length_le (by omega)] at hnd
        rw [all_of (by rw [hl]; exact HBY.out), decide_eq_true hnd, hl]
        simp)
      have HB := Lib.hid hB
      clear h hB
      by_cases h1 : 1 ≤ j
      · by_cases h20 : j ≤ 20
        · go_wp2_with fail
          go_ret
          exact ⟨ret_bool (by rw [← HF.out]; first | (simp; done) | (simp; omega) | (rw [Bool.eq_iff_iff]; simp; omega)), HB.out⟩
        · go_wp2_with fail
          go_ret
          exact ⟨ret_bool (by rw [← HF.out]; first | (simp; done) | (simp; omega) | (rw [Bool.eq_iff_iff]; simp; omega)), HB.out⟩
      · go_wp2_with fail
        go_ret
        exact ⟨ret_bool (by rw [← HF.out]; first | (simp; done) | (simp; omega) | (rw [Bool.eq_iff_iff]; simp; omega)), HB.out⟩
end Go.Proofs.Ytfplfkebamgniaa
