/- What the function that puts texts one behind the other answers. -/
import Derived.Test.YtdgafigmgiepdaaDoorMJoin
import Derived.Test.YtdgafigmgiepdaaDoorBase
namespace Go.Proofs.YtdgafigmgiepdaaDoor
open Go.RowKit MJoin G
set_option linter.unusedVariables false
set_option maxHeartbeats 800000 in
theorem joined_any (b off cap : Nat) (ps : List ByteArray) (w : World) (hb : b < w.heap.size)
    (hc : ∀ k, k < ps.length → w.cell? ⟨b, off + k, none⟩ = some (.string (ps.getD k ByteArray.empty))) (hl : ps.length ≤ 1099511627776) (hsum : sumL ps ≤ 1099511627776) :
    Calls Tryd.prog 41 #[.slice (some ⟨b, off, none⟩) ps.length cap] w fun e w' => e = .returned (.string (catS ps)) ∧ Below w.heap.size w w' := by
  obtain ⟨i0, hi, hz0, hz1, hz2⟩ := info_parts infoU8
  have HCELL := Lib.hid hc; clear hc
  go_enter Tryd.func41, Tryd.ntmps41
  go_wp2_with fail
  go_loop [3, 12] (fun sz i => ∃ k : Nat, k ≤ ps.length ∧ i = .int .i64 k ∧ sz = .int .i64 (sumL (ps.take k))) (fun _ i => ps.length - (intOf i).toNat)
  case atStart => exact ⟨0, Nat.zero_le _, rfl, rfl⟩
  case round =>
    obtain ⟨k, hk, rfl, rfl⟩ := hrel
    by_cases hlt : k < ps.length
    · have hc := HCELL.out k hlt
      have hs1 := sumL_step hlt
      have hs2 := sumL_le ps (k + 1)
      have hs3 : sumL (ps.take k) + (ps.getD k ByteArray.empty).size ≤ 1099511627776 := by omega
      have HS := Lib.hid hs1
      clear hs1 hs2
      generalize ps.getD k ByteArray.empty = p at hc hs3 HS
      go_wp2_with fail
      go_round
      case rel => exact ⟨k + 1, by omega, by go_num, by rw [HS.out]; go_num⟩
      case measure => simp [intOf]; omega
    · have hall := Lib.hid (sumL_all (ps := ps) (k := k) (by omega))
      have hle := sumL_le ps k
      have h0 : (0 : Int) ≤ (sumL (ps.take k) : Int) := by omega
      go_wp2_with (at_make; refine wpList_make_full _ rfl (.tmp 21) (.tmp 21) 22 rfl w.heap.size 5 i0 (.int .u8 0) 1 Tryd.underlying22 hi hz0 hz1 .i64 .i64 _ _ (sumL ps) rfl rfl (by rw [hall.out]) (by rw [hall.out]) (by rw [hz2]; omega) (by unfold maxLen; omega) (Nat.le_refl _) ?_; intro w1 hown1 hgrow1)
      have hb1 : Below w.heap.size w w1 := (Below.refl _ _).grown hgrow1 (Nat.le_refl _) (fun k hk => by cases hk)
      have hg1 : Hid (w1.heap[w.heap.size]? = some (.cells (fill (catL (ps.take 0)) (sumL ps)) 5 (0, 0))) := made_fill hown1
      clear hown1 hgrow1
      go_loopw [7, 25] (fun at_ i wr => ∃ k : Nat, k ≤ ps.length ∧ i = .int .i64 k ∧ at_ = .int .i64 (sumL (ps.take k)) ∧ Hid (wr.heap[w.heap.size]? = some (.cells (fill (catL (ps.take k)) (sumL ps)) 5 (0, 0))) ∧ Below w.heap.size w wr) (fun _ i _ => ps.length - (intOf i).toNat)
      case atStart => exact ⟨0, Nat.zero_le _, rfl, rfl, hg1, hb1⟩
      case round =>
        obtain ⟨k2, hk2, rfl, rfl, hg, hbel⟩ := hrel
        clear hg1 hb1
        by_cases hlt : k2 < ps.length
        · have hc : wr.cell? ⟨b, off + k2, none⟩ = some (.string (ps.getD k2 ByteArray.empty)) := (hbel.cell hb).trans (HCELL.out k2 hlt)
          have hs1 := sumL_step hlt
          have hs2 := sumL_le ps (k2 + 1)
          have hs3 : sumL (ps.take k2) + (ps.getD k2 ByteArray.empty).size ≤ sumL ps := by omega
          have HS := Lib.hid hs1
          have HF := Lib.hid (fill_spl hlt)
          have hfs := Lib.hid (fill_size (l := catL (ps.take k2)) (n := sumL ps) (by rw [catL_len]; omega))
          clear hs1 hs2
          generalize ps.getD k2 ByteArray.empty = p at hc hs3 HS HF
          have hsl := fun W => run_cut_from (P := Tryd.prog) W 22 5 Tryd.underlying22 sizeOfU8 w.heap.size 0 (sumL ps) (sumL ps) (sumL (ps.take k2)) (by omega)
          obtain ⟨cur, hcur⟩ : ∃ cur, cur = fill (catL (ps.take k2)) (sumL ps) := ⟨_, rfl⟩
          have HCUR := Lib.hid hcur
          rw [← hcur] at hg hfs HF
          clear hcur
          go_wp2_with (refine copy_str rfl (.tmp 32) (.tmp 33) 22 9 rfl 5 Tryd.underlying22 sizeU8 _ _ _ rfl p rfl w.heap.size (sumL (ps.take k2)) cur 5 hg.out (by omega) (fun h => by rw [cutAt_lt (by omega), Nat.zero_add]) (by rw [hfs.out]; exact hs3) w.heap.size w hbel (Nat.le_refl _) ?_; intro w2 hg2 hb2; clear hg hbel hsl hc)
          go_roundw
          case rel => exact ⟨k2 + 1, by omega, by go_num, by rw [HS.out]; go_num, by rw [HF.out] at hg2; exact hg2, hb2⟩
          case measure => simp [intOf]; omega
        · have hg' := hg.out
          rw [List.take_of_length_le (by omega)] at hg'
          have hcv := conv_fill 22 9 5 _ Tryd.underlying22 Tryd.underlying5 Tryd.underlying9 _ _ hg' (sumL ps)
          clear hg' hg
          go_wp2_with fail
          go_ret
          exact ⟨rfl, hbel⟩
theorem catS_two (a b : ByteArray) : catS [a, b] = a ++ b := by
  apply ByteArray.ext
  apply Array.toList_inj.1
  simp [catS, catL]
theorem catS_one (a : ByteArray) : catS [a] = a := by
  apply ByteArray.ext
  apply Array.toList_inj.1
  simp [catS, catL]
/-- Two texts, in a list that the call lays. -/
theorem joined_two (x y : ByteArray) (T : TypeId) (w : World) (hx : x.size ≤ 1000000000) (hy : y.size ≤ 1000000000) :
    Calls Tryd.prog 41 #[.slice (some ⟨w.heap.size, 0, none⟩) 2 2] (w.alloc (.cells #[.string x, .string y] T)) fun e w' => e = .returned (.string (x ++ y)) ∧ Below w.heap.size w w' := by
  refine (joined_any w.heap.size 0 2 [x, y] (w.alloc (.cells #[.string x, .string y] T)) (by simp) ?_ (by simp) (by simp [sumL]; omega)).mono ?_
  · intro k hk
    match k, hk with
    | 0, _ => simp
    | 1, _ => simp
    | k + 2, hk => simp at hk; omega
  · rintro e w' ⟨rfl, hb⟩
    exact ⟨by rw [catS_two], ((Below.refl _ _).alloc (Nat.le_refl _) _).trans (hb.mono (by simp))⟩
/-- One text, in a list that the call lays. -/
theorem joined_one (x : ByteArray) (T : TypeId) (w : World) (hx : x.size ≤ 1000000000) :
    Calls Tryd.prog 41 #[.slice (some ⟨w.heap.size, 0, none⟩) 1 1] (w.alloc (.cells #[.string x] T)) fun e w' => e = .returned (.string x) ∧ Below w.heap.size w w' := by
  refine (joined_any w.heap.size 0 1 [x] (w.alloc (.cells #[.string x] T)) (by simp) ?_ (by simp) (by simp [sumL]; omega)).mono ?_
  · intro k hk
    match k, hk with
    | 0, _ => simp
    | k + 1, hk => simp at hk
  · rintro e w' ⟨rfl, hb⟩
    exact ⟨by rw [catS_one], ((Below.refl _ _).alloc (Nat.le_refl _) _).trans (hb.mono (by simp))⟩
end Go.Proofs.YtdgafigmgiepdaaDoor
