/- What the laws' own functions on rows of points answer. -/
import Derived.Test.YtfplfkebamgniaaPRow
import Derived.Test.YtfplfkebamgniaaHPoly
import Derived.StillTailTactics
namespace Go.Proofs.Ytfplfkebamgniaa
open Go.RowKit G IRow
set_option linter.unusedVariables false
theorem infoPoint : (Try.prog.info? 48).map (fun i => (i.zero, i.size, i.bytes)) = some (some (.agg #[.int .i64 0, .int .i64 0]), 2, 16) := by kernel_rfl
set_option maxRecDepth 100000 in
theorem szPointS_any (a : Option Addr) (n cap : Nat) (left : Int) (w : World) (hn : n ≤ 9223372036854775807) (h0 : 0 ≤ left) (h1 : left ≤ 1048576) :
    Calls Try.prog 55 #[.slice a n cap, .int .i64 left] w fun e w' => e = .returned (.int .i64 (if (n : Int) ≤ left then left - n else -1)) ∧ w = w' := by
  have hw : IntKind.i64.wrap (left - (n : Int)) = left - (n : Int) := by rw [IntWalk.i64_in _ (by omega)]
  by_cases h : (n : Int) ≤ left
  · rw [if_pos h]
    have h2 : ¬ left - (n : Int) < 0 := by omega
    go_enter Try.func55, Try.ntmps55
    go_wp2_with fail
    go_ret
    exact ⟨rfl, rfl⟩
  · rw [if_neg h]
    have h2 : left - (n : Int) < 0 := by omega
    go_enter Try.func55, Try.ntmps55
    go_wp2_with fail
    go_ret
    exact ⟨rfl, rfl⟩
set_option maxRecDepth 100000 in
theorem toPoint_any (x y : Int) (w : World) :
    Calls Try.prog 97 #[.agg #[.int .i64 x, .int .i64 y]] w fun e w' => e = .returned (.agg #[.int .i64 x, .int .i64 y]) ∧ Below w.heap.size w w' := by
  go_enter Try.func97, Try.ntmps97
  go_wp2_with fail
  exact bodyPost_ret (v := .agg #[.int .i64 x, .int .i64 y]) (by simp [results, Try.results97, go_sem]) rfl ⟨rfl, by repeat' (first | exact Below.refl _ _ | refine Below.alloc ?_ (by first | exact Nat.le_refl _ | (simp; done) | (simp; omega)) _ | refine Below.setCell ?_ (by first | exact Nat.le_refl _ | (simp; done) | (simp; omega)) _)⟩
set_option maxRecDepth 100000 in
theorem eqPoint_any (x y u v : Int) (w : World) :
    Calls Try.prog 98 #[.agg #[.int .i64 x, .int .i64 y], .agg #[.int .i64 u, .int .i64 v]] w fun e w' => e = .returned (.bool (decide ((x, y) = (u, v)))) ∧ Below w.heap.size w w' := by
  have HB : Hid (Below w.heap.size w ((w.alloc (.cells #[.int .i64 x, .int .i64 y] 48)).alloc (.cells #[.int .i64 u, .int .i64 v] 48))) := Lib.hid (((Below.refl _ w).alloc (Nat.le_refl _) _).alloc (by simp) _)
  by_cases h1 : x = u
  · by_cases h2 : y = v
    · have HD := Lib.hid (decide_eq_true (show (x, y) = (u, v) by rw [h1, h2]))
      subst h1 h2
      go_enter Try.func98, Try.ntmps98
      go_wp2_with fail
      go_ret
      exact ⟨ret_bool (by simp), HB.out⟩
    · have HD := Lib.hid (decide_eq_false (show ¬ (x, y) = (u, v) from fun h => h2 (Prod.mk.inj h).2))
      have hb : (y == v) = false := by rw [beq_eq_false_iff_ne]; exact h2
      subst h1
      go_enter Try.func98, Try.ntmps98
      go_wp2_with fail
      go_ret
      exact ⟨ret_bool HD.out.symm, HB.out⟩
  · have HD := Lib.hid (decide_eq_false (show ¬ (x, y) = (u, v) from fun h => h1 (Prod.mk.inj h).1))
    have hb : (x == u) = false := by rw [beq_eq_false_iff_ne]; exact h1
    go_enter Try.func98, Try.ntmps98
    go_wp2_with fail
    go_ret
    exact ⟨ret_bool HD.out.symm, HB.out⟩
set_option maxRecDepth 100000 in
set_option maxHeartbeats 800000 in
theorem toPointS_any (a : Option Addr) (n cap : Nat) (ps : List (Int × Int)) (w : World) (h : PR w a n cap ps) (hn : n ≤ 1048576) :
    Calls Try.prog 56 #[.slice a n cap] w fun e w' => ∃ a' cap', e = .returned (.slice a' n cap') ∧ w'.ownsRow w.heap.size 48 2 (.slice a' n cap') n (flat ps) ∧ Below w.heap.size w w' := by
  obtain ⟨i0, hi, hz0, hz1, hz2⟩ := info_parts infoPoint
  have hl := h.len
  go_enter Try.func56, Try.ntmps56
  go_wp2_with (at_make; refine wpList_make_full _ rfl (.tmp 6) (.tmp 6) 36 rfl w.heap.size 48 i0 (.agg #[.int .i64 0, .int .i64 0]) 2 Try.underlying36 hi hz0 hz1 .i64 .i64 _ _ n rfl rfl rfl rfl (by rw [hz2]; omega) (by unfold maxLen; omega) (Nat.le_refl _) ?_; intro w4 hown4 hg4; rw [madeP] at hown4)
  have HB4 : Hid (Below w.heap.size w w4) := Lib.hid ((Below.refl _ w).grown hg4 (Nat.le_refl _) (fun k hk => by cases hk))
  clear hg4
  go_loopw [4] (fun i wr => ∃ k : Nat, k ≤ n ∧ i = .int .i64 k ∧ wr.ownsRow w.heap.size 48 2 (.slice (some ⟨w.heap.size, 0, none⟩) n n) n (flat (mixP ps (List.replicate n (0, 0)) k)) ∧ Below w.heap.size w wr) (fun i _ => n - (intOf i).toNat)
  case atStart => exact ⟨0, Nat.zero_le _, rfl, by rw [mixP_zero]; exact hown4, HB4.out⟩
  case round =>
    obtain ⟨k, hk, rfl, hown, hB⟩ := hrel
    by_cases hlt : k < n
    · obtain ⟨g, o, rfl, hg, hc⟩ := h.cells (by omega)
      have hck := (hB.cell (p := ⟨g, o + k * 2, none⟩) hg).trans (hc k hlt).1
      have hck2 := (hB.cell (p := ⟨g, o + k * 2 + 1, none⟩) hg).trans (hc k hlt).2
      have HO := Lib.hid hown
      have HB := Lib.hid hB
      have HM := Lib.hid (mixP_set (zs := ps) (ys := List.replicate n (0, 0)) (k := k) (by rw [List.length_replicate, hl]) (by omega))
      have hpe : ps.getD k (0, 0) = ((ps.getD k (0, 0)).1, (ps.getD k (0, 0)).2) := rfl
      rw [hpe] at HM
      generalize (ps.getD k (0, 0)).1 = x at *
      generalize (ps.getD k (0, 0)).2 = y at *
      clear hown hB hc hpe hown4 HB4
      go_wp2_with fail
      refine (toPoint_any x y _).mono ?_
      rintro e w5 ⟨rfl, hb⟩
      have hown := own_below HO.out hb
      have hB := HB.out.trans (hb.mono HB.out.size)
      have hs := ownP_stored hown hlt x y
      rw [HM.out] at hs
      have HS := Lib.hid hs.1
      have HB5 := Lib.hid ((hB.setCell (Nat.le_refl _) (p := ⟨w.heap.size, k * 2, none⟩) (.int .i64 x)).setCell (Nat.le_refl _) (p := ⟨w.heap.size, k * 2 + 1, none⟩) (.int .i64 y))
      obtain ⟨_, _, _, hcells⟩ := PR.own hown
      obtain ⟨g', o', hge, _, hcc⟩ := hcells (by omega)
      simp only [Option.some.injEq, Addr.mk.injEq, and_true] at hge
      obtain ⟨rfl, rfl⟩ := hge
      have hoc := (hcc k hlt).1
      have hoc2 := (hcc k hlt).2
      rw [Nat.zero_add] at hoc hoc2
      have hof := hown.frozenAt (k * 2)
      have hof2 := hown.frozenAt (k * 2 + 1)
      clear hs hown hB hb hcc hcells HO HB HM
      go_wp2_with fail
      go_roundw
      case rel => exact ⟨k + 1, by omega, by go_num, HS.out, HB5.out⟩
      case measure => simp [intOf] <;> omega
    · obtain rfl : k = n := by omega
      have hm : mixP ps (List.replicate k (0, 0)) k = ps := by rw [← hl]; exact mixP_all (by simp)
      rw [hm] at hown
      have HO := Lib.hid hown
      have HB := Lib.hid hB
      clear hown hB
      go_wp2_with fail
      go_ret
      exact ⟨_, _, rfl, HO.out, HB.out⟩
set_option maxRecDepth 100000 in
theorem eqPointS_any (a b : Option Addr) (n m cap cbp : Nat) (zs ys : List (Int × Int)) (w : World) (h : PR w a n cap zs) (k : PR w b m cbp ys) (hn : n ≤ 1048576) (hm : m ≤ 1048576) :
    Calls Try.prog 57 #[.slice a n cap, .slice b m cbp] w fun e w' => e = .returned (.bool (decide (zs = ys))) ∧ Below w.heap.size w w' := by
  have hl := h.len
  have hl2 := k.len
  by_cases hnm : n = m
  · subst hnm
    go_enter Try.func57, Try.ntmps57
    go_wp2_with fail
    go_loopw [5] (fun i wr => ∃ j : Nat, j ≤ n ∧ i = .int .i64 j ∧ zs.take j = ys.take j ∧ Below w.heap.size w wr) (fun i _ => n - (intOf i).toNat)
    case atStart => exact ⟨0, Nat.zero_le _, rfl, by simp, Below.refl _ _⟩
    case round =>
      obtain ⟨j, hj, rfl, he, hB⟩ := hrel
      have HE := Lib.hid he
      have HB := Lib.hid hB.drew
      by_cases hlt : j < n
      · obtain ⟨g, o, rfl, hg, hc⟩ := h.cells (by omega)
        obtain ⟨g', o', rfl, hg', hc'⟩ := k.cells (by omega)
        have hck := (hB.cell (p := ⟨g, o + j * 2, none⟩) hg).trans (hc j hlt).1
        have hck2 := (hB.cell (p := ⟨g, o + j * 2 + 1, none⟩) hg).trans (hc j hlt).2
        have hdk := (hB.cell (p := ⟨g', o' + j * 2, none⟩) hg').trans (hc' j hlt).1
        have hdk2 := (hB.cell (p := ⟨g', o' + j * 2 + 1, none⟩) hg').trans (hc' j hlt).2
        have HZ := Lib.hid (take_getDP (zs := zs) (j := j) (by omega))
        have HY := Lib.hid (take_getDP (zs := ys) (j := j) (by omega))
        have HN : Hid (zs.getD j (0, 0) ≠ ys.getD j (0, 0) → decide (zs = ys) = false) := Lib.hid (fun hne => decide_eq_false (fun h2 => hne (by rw [h2])))
        have hze : zs.getD j (0, 0) = ((zs.getD j (0, 0)).1, (zs.getD j (0, 0)).2) := rfl
        have hye : ys.getD j (0, 0) = ((ys.getD j (0, 0)).1, (ys.getD j (0, 0)).2) := rfl
        rw [hze] at HZ HN
        rw [hye] at HY HN
        generalize (zs.getD j (0, 0)).1 = x at *
        generalize (zs.getD j (0, 0)).2 = y at *
        generalize (ys.getD j (0, 0)).1 = u at *
        generalize (ys.getD j (0, 0)).2 = v at *
        clear hc hc' he h k hB hze hye
        go_wp2_with fail
        go_still_tail 8, (by kernel_rfl)
        change wpList _ _ _ _ _ wr.drew
        clear hck hck2 hdk hdk2
        generalize wr.drew = we at *
        go_wp2_with fail
        refine (eqPoint_any x y u v _).mono ?_
        rintro e w5 ⟨rfl, hb⟩
        have HB5 := Lib.hid (HB.out.trans (hb.mono HB.out.size))
        clear hb
        by_cases hzy : (x, y) = (u, v)
        · have HT : Hid (zs.take (j + 1) = ys.take (j + 1)) := Lib.hid (by rw [HZ.out, HY.out, HE.out, hzy])
          rw [decide_eq_true hzy]
          clear hzy
          go_wp2_with fail
          go_roundw
          case rel => exact ⟨j + 1, by omega, by go_num, HT.out, HB5.out⟩
          case measure => simp [intOf] <;> omega
        · have HD := Lib.hid (HN.out hzy)
          rw [decide_eq_false hzy]
          clear hzy
          go_wp2_with fail
          go_ret
          exact ⟨ret_bool HD.out.symm, HB5.out⟩
      · obtain rfl : j = n := by omega
        have HD : Hid (decide (zs = ys) = true) := Lib.hid (decide_eq_true (by have := HE.out; rwa [List.take_of_length_le (by omega), List.take_of_length_le (by omega)] at this))
        have HB2 := Lib.hid hB
        clear h k he hB
        go_wp2_with fail
        go_ret
        exact ⟨ret_bool HD.out.symm, HB2.out⟩
  · have HD : Hid (decide (zs = ys) = false) := Lib.hid (decide_eq_false (fun h2 => hnm (by rw [← hl, ← hl2, h2])))
    clear h k
    go_enter Try.func57, Try.ntmps57
    go_wp2_with fail
    go_ret
    exact ⟨ret_bool HD.out.symm, Below.refl _ _⟩
set_option maxRecDepth 100000 in
theorem markPointS_any (a : Option Addr) (base n cap : Nat) (zs : List (Int × Int)) (k0 : Int) (w : World) (h : w.ownsRow base 48 2 (.slice a n cap) n (flat zs)) (hn : n ≤ 1048576) (hk0 : 0 ≤ k0) (hk1 : k0 ≤ 1099511627776) :
    Calls Try.prog 58 #[.slice a n cap, .int .i64 k0] w fun e w' => e = .returned (.int .i64 (k0 + 2 * (n : Int))) ∧ w'.ownsRow base 48 2 (.slice a n cap) n (flat (marks2 k0 n)) ∧ w.grownBy w' (Value.slice a n cap).ownBlock := by
  have hl : zs.length = n := by have := h.1; rw [flat_length] at this; omega
  have hml := marks2_length k0 n
  go_enter Try.func58, Try.ntmps58
  go_wp2_with fail
  go_loopw [1, 5] (fun k i wr => ∃ j : Nat, j ≤ n ∧ i = .int .i64 j ∧ k = .int .i64 (k0 + 2 * (j : Int)) ∧ wr.ownsRow base 48 2 (.slice a n cap) n (flat (mixP (marks2 k0 n) zs j)) ∧ w.grownBy wr (Value.slice a n cap).ownBlock) (fun _ i _ => n - (intOf i).toNat)
  case atStart => exact ⟨0, Nat.zero_le _, rfl, by simp, by rw [mixP_zero]; exact h, ⟨rfl, rfl, rfl, Nat.le_refl _, fun _ _ _ => rfl⟩⟩
  case round =>
    obtain ⟨j, hj, rfl, rfl, hown, hg⟩ := hrel
    by_cases hlt : j < n
    · obtain ⟨g, c, hv, _, hgl⟩ := hown.form (by omega)
      simp only [Value.slice.injEq] at hv
      obtain ⟨rfl, _, rfl⟩ := hv
      obtain ⟨_, _, _, hcells⟩ := PR.own hown
      obtain ⟨g', o', hge, _, hcc⟩ := hcells (by omega)
      simp only [Option.some.injEq, Addr.mk.injEq, and_true] at hge
      obtain ⟨rfl, rfl⟩ := hge
      have hoc := (hcc j hlt).1
      have hoc2 := (hcc j hlt).2
      rw [Nat.zero_add] at hoc hoc2
      have hof := hown.frozenAt (j * 2)
      have hof2 := hown.frozenAt (j * 2 + 1)
      have hs := ownP_stored hown hlt (k0 + 2 * (j : Int)) (k0 + 2 * (j : Int) + 1)
      have hst := mixP_set (zs := marks2 k0 n) (ys := zs) (k := j) (by omega) (by omega)
      rw [marks2_getD hlt] at hst
      rw [hst] at hs
      have HS := Lib.hid hs.1
      have HG := Lib.hid (grown_trans hg hs.2)
      clear hown hs hg h hcc hcells hst
      go_wp2_with fail
      go_roundw
      case rel => exact ⟨j + 1, by omega, by go_num, by go_num, HS.out, HG.out⟩
      case measure => simp [intOf] <;> omega
    · obtain rfl : j = n := by omega
      have hm : mixP (marks2 k0 j) zs j = marks2 k0 j := by have := mixP_all (zs := marks2 k0 j) (ys := zs) (by omega); rwa [hml] at this
      rw [hm] at hown
      have HO := Lib.hid hown
      have HG := Lib.hid hg
      clear hown hg h
      go_wp2_with fail
      go_ret
      exact ⟨rfl, HO.out, HG.out⟩
end Go.Proofs.Ytfplfkebamgniaa
