/- What the laws' own functions on rows of int64 answer. -/
import Derived.Test.YtnlmbcdaolccbaaGRow
import Derived.Test.YtnlmbcdaolccbaaBase
import Derived.IntWalk
import Derived.OwnWalk
namespace Go.Proofs.Ytnlmbcdaolccbaa
open Go.RowKit G IRow
set_option linter.unusedVariables false
theorem infoI64 : (Try.prog.info? 2).map (fun i => (i.zero, i.size, i.bytes)) = some (some (.int .i64 0), 1, 8) := by kernel_rfl
set_option maxHeartbeats 800000 in
theorem toInt64S_any (a : Option Addr) (n cap : Nat) (zs : List Int) (w : World) (h : IR w a n cap zs) (hn : n ≤ 1048576) :
    Calls Try.prog 44 #[.slice a n cap] w fun e w' => ∃ a' cap', e = .returned (.slice a' n cap') ∧ w'.ownsRow w.heap.size 2 1 (.slice a' n cap') n (zs.map (Value.int .i64)) ∧ Below w.heap.size w w' := by
  obtain ⟨i0, hi, hz0, hz1, hz2⟩ := info_parts infoI64
  have hl := h.len
  go_enter Try.func44, Try.ntmps44
  go_wp2_with (at_make; refine wpList_make_full _ rfl (.tmp 6) (.tmp 6) 23 rfl w.heap.size 2 i0 (.int .i64 0) 1 Try.underlying23 hi hz0 hz1 .i64 .i64 _ _ n rfl rfl rfl rfl (by rw [hz2]; omega) (by unfold maxLen; omega) (Nat.le_refl _) ?_; intro w4 hown4 hg4; rw [madeZero] at hown4)
  have HB4 : Hid (Below w.heap.size w w4) := Lib.hid ((Below.refl _ w).grown hg4 (Nat.le_refl _) (fun k hk => by cases hk))
  clear hg4
  go_loopw [4] (fun i wr => ∃ k : Nat, k ≤ n ∧ i = .int .i64 k ∧ wr.ownsRow w.heap.size 2 1 (.slice (some ⟨w.heap.size, 0, none⟩) n n) n ((mix zs (List.replicate n 0) k).map (Value.int .i64)) ∧ Below w.heap.size w wr) (fun i _ => n - (intOf i).toNat)
  case atStart => exact ⟨0, Nat.zero_le _, rfl, by rw [mix_zero]; exact hown4, HB4.out⟩
  case round =>
    obtain ⟨k, hk, rfl, hown, hB⟩ := hrel
    by_cases hlt : k < n
    · obtain ⟨g, o, rfl, hg, hc⟩ := h.cells (by omega)
      have hck := (hB.cell (p := ⟨g, o + k, none⟩) hg).trans (hc k hlt)
      have hoc := own_cell hown hlt
      have hof := hown.frozenAt k
      have hs := own_stored hown k (zs.getD k 0)
      rw [mix_set (by rw [List.length_replicate, hl]) (by omega)] at hs
      have hb := hB.setCell (Nat.le_refl _) (p := ⟨w.heap.size, k, none⟩) (.int .i64 (zs.getD k 0))
      generalize zs.getD k 0 = z at *
      have HS := Lib.hid hs
      have HB := Lib.hid hb
      clear hown hB hs hb
      go_wp2_with fail
      go_roundw
      case rel => exact ⟨k + 1, by omega, by go_num, HS.out, HB.out⟩
      case measure => simp [intOf]; omega
    · obtain rfl : k = n := by omega
      have hm : mix zs (List.replicate k 0) k = zs := by rw [← hl]; exact mix_all (by simp)
      rw [hm] at hown
      have HO := Lib.hid hown
      have HB := Lib.hid hB
      clear hown hB
      go_wp2_with fail
      go_ret
      exact ⟨_, _, rfl, HO.out, HB.out⟩
theorem eqInt64S_any (a b : Option Addr) (n m cap cbp : Nat) (zs ys : List Int) (w : World) (h : IR w a n cap zs) (k : IR w b m cbp ys) (hn : n ≤ 1048576) (hm : m ≤ 1048576) :
    Calls Try.prog 46 #[.slice a n cap, .slice b m cbp] w fun e w' => e = .returned (.bool (decide (zs = ys))) ∧ Below w.heap.size w w' := by
  have hl := h.len
  have hl2 := k.len
  by_cases hnm : n = m
  · subst hnm
    go_enter Try.func46, Try.ntmps46
    go_wp2_with fail
    go_loopw [5] (fun i wr => ∃ j : Nat, j ≤ n ∧ i = .int .i64 j ∧ zs.take j = ys.take j ∧ Below w.heap.size w wr) (fun i _ => n - (intOf i).toNat)
    case atStart => exact ⟨0, Nat.zero_le _, rfl, by simp, Below.refl _ _⟩
    case round =>
      obtain ⟨j, hj, rfl, he, hB⟩ := hrel
      have HE := Lib.hid he
      have HB := Lib.hid hB
      by_cases hlt : j < n
      · obtain ⟨g, o, rfl, hg, hc⟩ := h.cells (by omega)
        obtain ⟨g', o', rfl, hg', hc'⟩ := k.cells (by omega)
        have hck := (hB.cell (p := ⟨g, o + j, none⟩) hg).trans (hc j hlt)
        have hck' := (hB.cell (p := ⟨g', o' + j, none⟩) hg').trans (hc' j hlt)
        have hz : zs.take (j + 1) = zs.take j ++ [zs.getD j 0] := take_getD (by omega)
        have hy : ys.take (j + 1) = ys.take j ++ [ys.getD j 0] := take_getD (by omega)
        have HZ := Lib.hid hz
        have HY := Lib.hid hy
        have HN : Hid (zs.getD j 0 ≠ ys.getD j 0 → decide (zs = ys) = false) := Lib.hid (fun hne => decide_eq_false (fun h2 => hne (by rw [h2])))
        generalize zs.getD j 0 = z at *
        generalize ys.getD j 0 = y at *
        clear hc hc' he hz hy h k hB
        by_cases hzy : z = y
        · subst hzy
          have HT : Hid (zs.take (j + 1) = ys.take (j + 1)) := Lib.hid (by rw [HZ.out, HY.out, HE.out])
          go_wp2_with fail
          go_region
          go_wp2_with fail
          go_roundw
          case rel => exact ⟨j + 1, by omega, by go_num, HT.out, by repeat' (first | exact HB.out | refine Below.drew ?_)⟩
          case measure => simp [intOf]; omega
        · have HD := Lib.hid (HN.out hzy)
          have hzb : (z == y) = false := by rw [beq_eq_false_iff_ne]; exact hzy
          go_wp2_with fail
          go_region
          go_wp2_with fail
          go_ret
          exact ⟨ret_bool HD.out.symm, by repeat' (first | exact HB.out | refine Below.drew ?_)⟩
      · obtain rfl : j = n := by omega
        have HD : Hid (decide (zs = ys) = true) := Lib.hid (decide_eq_true (by have := HE.out; rwa [List.take_of_length_le (by omega), List.take_of_length_le (by omega)] at this))
        clear h k he hB
        go_wp2_with fail
        go_ret
        exact ⟨ret_bool HD.out.symm, HB.out⟩
  · have HD : Hid (decide (zs = ys) = false) := Lib.hid (decide_eq_false (fun h2 => hnm (by rw [← hl, ← hl2, h2])))
    clear h k
    go_enter Try.func46, Try.ntmps46
    go_wp2_with fail
    go_ret
    exact ⟨ret_bool HD.out.symm, Below.refl _ _⟩
end Go.Proofs.Ytnlmbcdaolccbaa
/- What the laws' own functions on impl.PolyOut answer. -/
namespace Go.Proofs.Ytnlmbcdaolccbaa
open Go.RowKit G IRow
set_option linter.unusedVariables false
def polyV (v : Value) (c : Int) : Value := .agg #[v, .int .i64 c]
end Go.Proofs.Ytnlmbcdaolccbaa
