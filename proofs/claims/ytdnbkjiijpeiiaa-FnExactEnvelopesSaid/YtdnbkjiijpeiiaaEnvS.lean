/- The laws' own functions on rows of envelopes: comparing, marking, looking for the marks. -/
import Derived.Test.YtdnbkjiijpeiiaaEnvR
import Derived.Test.YtdnbkjiijpeiiaaEnvH
namespace Go.Proofs.Ytdnbkjiijpeiiaa
open Go.RowKit Go.PlainAid G MGF IRow
set_option linter.unusedVariables false
set_option maxRecDepth 100000 in
set_option maxHeartbeats 1600000 in
theorem eqEnvS_same (a b : Option Addr) (n cap cbp : Nat) (l : List Ev) (w : World) (h : ER w a n cap l) (k : ER w b n cbp l) (hn : n ≤ 1048576) :
    Calls Try.prog 16 #[.slice a n cap, .slice b n cbp] w fun e w' => e = .returned (.bool true) ∧ Below w.heap.size w w' := by
  go_enter Try.func16, Try.ntmps16
  go_wp2_with fail
  go_loopw [5] (fun i wr => ∃ j : Nat, j ≤ n ∧ i = .int .i64 j ∧ Below w.heap.size w wr) (fun i _ => n - (intOf i).toNat)
  case atStart => exact ⟨0, Nat.zero_le _, rfl, Below.refl _ _⟩
  case round =>
    obtain ⟨j, hj, rfl, hB⟩ := hrel
    have HB := Lib.hid hB.drew
    by_cases hlt : j < n
    · obtain ⟨g, o, rfl, hg, hc0, hc1, hc2, hc3, hc4⟩ := h.at hlt
      obtain ⟨g', o', rfl, hg', hd0, hd1, hd2, hd3, hd4⟩ := k.at hlt
      have a0 := (hB.cell (p := ⟨g, o + j * 5, none⟩) hg).trans hc0
      have a1 := (hB.cell (p := ⟨g, o + j * 5 + 1, none⟩) hg).trans hc1
      have a2 := (hB.cell (p := ⟨g, o + j * 5 + 2, none⟩) hg).trans hc2
      have a3 := (hB.cell (p := ⟨g, o + j * 5 + 3, none⟩) hg).trans hc3
      have a4 := (hB.cell (p := ⟨g, o + j * 5 + 4, none⟩) hg).trans hc4
      have b0 := (hB.cell (p := ⟨g', o' + j * 5, none⟩) hg').trans hd0
      have b1 := (hB.cell (p := ⟨g', o' + j * 5 + 1, none⟩) hg').trans hd1
      have b2 := (hB.cell (p := ⟨g', o' + j * 5 + 2, none⟩) hg').trans hd2
      have b3 := (hB.cell (p := ⟨g', o' + j * 5 + 3, none⟩) hg').trans hd3
      have b4 := (hB.cell (p := ⟨g', o' + j * 5 + 4, none⟩) hg').trans hd4
      generalize (l.getD j evD).g = q0 at *
      generalize (l.getD j evD).n = q1 at *
      generalize (l.getD j evD).m = q2 at *
      generalize (l.getD j evD).x = q3 at *
      generalize (l.getD j evD).t = q4 at *
      clear hc0 hc1 hc2 hc3 hc4 hd0 hd1 hd2 hd3 hd4 h k hB
      go_wp2_with fail
      go_still_tail 8, (by kernel_rfl)
      change wpList _ _ _ _ _ wr.drew
      clear a0 a1 a2 a3 a4 b0 b1 b2 b3 b4
      generalize wr.drew = we at *
      go_wp2_with fail
      refine (eqEnv_same q0 q1 q2 q3 q4 _).mono ?_
      rintro e w5 ⟨rfl, hb⟩
      have HB5 := Lib.hid (HB.out.trans (hb.mono HB.out.size))
      clear hb
      go_wp2_with fail
      go_roundw
      case rel => exact ⟨j + 1, by omega, by go_num, HB5.out⟩
      case measure => simp [intOf] <;> omega
    · obtain rfl : j = n := by omega
      have HB2 := Lib.hid hB
      clear h k hB
      go_wp2_with fail
      go_ret
      exact ⟨rfl, HB2.out⟩
/-- A cell of a row of structs, set: the list that the row holds then. -/
theorem flat_setj {α : Type} (E : Enc α) (d : α) (ps : List α) (i j : Nat) (v : Value) (p' : α) (hi : i < ps.length) (hj : j < E.k) (hc : (E.cells (ps.getD i d)).set j v = E.cells p') : (E.flat ps).set (i * E.k + j) v = E.flat (ps.set i p') := by
  induction ps generalizing i with
  | nil => exact absurd hi (Nat.not_lt_zero _)
  | cons p ps ih =>
    cases i with
    | zero =>
      rw [List.getD_cons_zero] at hc
      simp only [Enc.flat, Nat.zero_mul, Nat.zero_add, List.set_cons_zero]
      rw [List.set_append_left _ _ (by rw [E.len]; exact hj), hc]
    | succ i =>
      rw [List.getD_cons_succ] at hc
      have := ih i (by simpa using hi) hc
      simp only [Enc.flat, List.set_cons_succ]
      rw [List.set_append_right _ _ (by rw [E.len, Nat.succ_mul]; omega), E.len, ← this]
      congr 2
      rw [Nat.succ_mul]; omega
/-- The k-th envelope of the call's own row, marked by its four numbers. -/
theorem ownE_four {w : World} {base g n cap : Nat} {e : TypeId} {ps : List Ev} (h : w.ownsRow base e evE.k (.slice (some ⟨g, 0, none⟩) n cap) n (evE.flat ps)) {i : Nat} (hi : i < n) (a b c d : Int) :
    ((((w.setCell ⟨g, i * 5, none⟩ (.int .i64 a)).setCell ⟨g, i * 5 + 1, none⟩ (.int .i64 b)).setCell ⟨g, i * 5 + 2, none⟩ (.int .i64 c)).setCell ⟨g, i * 5 + 3, none⟩ (.int .i64 d)).ownsRow base e evE.k (.slice (some ⟨g, 0, none⟩) n cap) n (evE.flat (ps.set i ⟨a, b, c, d, (ps.getD i evD).t⟩)) ∧
      w.grownBy ((((w.setCell ⟨g, i * 5, none⟩ (.int .i64 a)).setCell ⟨g, i * 5 + 1, none⟩ (.int .i64 b)).setCell ⟨g, i * 5 + 2, none⟩ (.int .i64 c)).setCell ⟨g, i * 5 + 3, none⟩ (.int .i64 d)) (some g) := by
  have hl := envs_len h
  obtain ⟨h1, g1⟩ := h.stored (i * 5) (.int .i64 a)
  obtain ⟨h2, g2⟩ := h1.stored (i * 5 + 1) (.int .i64 b)
  obtain ⟨h3, g3⟩ := h2.stored (i * 5 + 2) (.int .i64 c)
  obtain ⟨h4, g4⟩ := h3.stored (i * 5 + 3) (.int .i64 d)
  have e1 : (evE.flat ps).set (i * 5) (.int .i64 a) = evE.flat (ps.set i ⟨a, (ps.getD i evD).n, (ps.getD i evD).m, (ps.getD i evD).x, (ps.getD i evD).t⟩) := flat_setj evE evD ps i 0 _ _ (by omega) (by decide) rfl
  have gd : ∀ q : Ev, (ps.set i q).getD i evD = q := fun q => by simp [List.getD, show i < ps.length by omega]
  have e2 := flat_setj evE evD (ps.set i ⟨a, (ps.getD i evD).n, (ps.getD i evD).m, (ps.getD i evD).x, (ps.getD i evD).t⟩) i 1 (.int .i64 b) ⟨a, b, (ps.getD i evD).m, (ps.getD i evD).x, (ps.getD i evD).t⟩ (by simp; omega) (by decide) (by rw [gd]; rfl)
  have e3 := flat_setj evE evD (ps.set i ⟨a, b, (ps.getD i evD).m, (ps.getD i evD).x, (ps.getD i evD).t⟩) i 2 (.int .i64 c) ⟨a, b, c, (ps.getD i evD).x, (ps.getD i evD).t⟩ (by simp; omega) (by decide) (by rw [gd]; rfl)
  have e4 := flat_setj evE evD (ps.set i ⟨a, b, c, (ps.getD i evD).x, (ps.getD i evD).t⟩) i 3 (.int .i64 d) ⟨a, b, c, d, (ps.getD i evD).t⟩ (by simp; omega) (by decide) (by rw [gd]; rfl)
  rw [List.set_set] at e2 e3 e4
  have k5 : evE.k = 5 := rfl
  rw [k5] at e2 e3 e4
  rw [e1, e2, e3, e4] at h4
  exact ⟨h4, grown_trans (grown_trans (grown_trans g1 g2) g3) g4⟩
theorem ownE_last {w : World} {base g n cap : Nat} {e : TypeId} {ps : List Ev} (h : w.ownsRow base e evE.k (.slice (some ⟨g, 0, none⟩) n cap) n (evE.flat ps)) {i : Nat} (hi : i < n) (t : ByteArray) :
    (w.setCell ⟨g, i * 5 + 4, none⟩ (.string t)).ownsRow base e evE.k (.slice (some ⟨g, 0, none⟩) n cap) n (evE.flat (ps.set i ⟨(ps.getD i evD).g, (ps.getD i evD).n, (ps.getD i evD).m, (ps.getD i evD).x, t⟩)) ∧
      w.grownBy (w.setCell ⟨g, i * 5 + 4, none⟩ (.string t)) (some g) := by
  have hl := envs_len h
  obtain ⟨h1, g1⟩ := h.stored (i * 5 + 4) (.string t)
  have e1 : (evE.flat ps).set (i * 5 + 4) (.string t) = evE.flat (ps.set i ⟨(ps.getD i evD).g, (ps.getD i evD).n, (ps.getD i evD).m, (ps.getD i evD).x, t⟩) := flat_setj evE evD ps i 4 _ _ (by omega) (by decide) rfl
  rw [e1] at h1
  exact ⟨h1, g1⟩
/-- The j-th marks. -/
def mkE (k j : Nat) : Ev := ⟨(k : Int) + 5 * (j : Int), (k : Int) + 5 * (j : Int) + 1, (k : Int) + 5 * (j : Int) + 1 + 1, (k : Int) + 5 * (j : Int) + 1 + 1 + 1, mkt (k + 5 * j + 4)⟩
def marksE (k n : Nat) : List Ev := (List.range n).map (mkE k)
theorem marksE_length (k n : Nat) : (marksE k n).length = n := by simp [marksE]
theorem marksE_getD {k n j : Nat} (h : j < n) : (marksE k n).getD j evD = mkE k j := by simp [marksE, List.getD, h]
def mixE (zs ys : List Ev) (k : Nat) : List Ev := zs.take k ++ ys.drop k
theorem mixE_zero (zs ys : List Ev) : mixE zs ys 0 = ys := by simp [mixE]
theorem mixE_all {zs ys : List Ev} (h : ys.length = zs.length) : mixE zs ys zs.length = zs := by unfold mixE; rw [List.take_length, List.drop_eq_nil_of_le (by omega), List.append_nil]
theorem mixE_length {zs ys : List Ev} (h : ys.length = zs.length) (k : Nat) : (mixE zs ys k).length = zs.length := by simp [mixE]; omega
theorem mixE_set {zs ys : List Ev} {k : Nat} (h : ys.length = zs.length) (hk : k < zs.length) : (mixE zs ys k).set k (zs.getD k evD) = mixE zs ys (k + 1) := by
  unfold mixE
  rw [List.set_append_right _ _ (by simp; omega)]
  have e1 : k - (zs.take k).length = 0 := by simp; omega
  rw [e1, List.drop_eq_getElem_cons (show k < ys.length by omega), List.set_cons_zero]
  have e2 : zs.getD k evD = zs[k] := by simp [List.getD, List.getElem?_eq_getElem hk]
  have e3 : zs.take (k + 1) = zs.take k ++ [zs[k]] := (List.take_append_getElem hk).symm
  rw [e2, e3, List.append_assoc]
  rfl
set_option maxRecDepth 100000 in
set_option maxHeartbeats 3200000 in
theorem markEnvS_any (a : Option Addr) (base n cap : Nat) (zs : List Ev) (k0 : Nat) (w : World) (h : w.ownsRow base 26 evE.k (.slice a n cap) n (evE.flat zs)) (hn : n ≤ 1048576) (hk0 : 0 < k0) (hk1 : k0 ≤ 1099511627776) :
    Calls Try.prog 19 #[.slice a n cap, .int .i64 (k0 : Int)] w fun e w' => e = .returned (.int .i64 ((k0 : Int) + 5 * (n : Int))) ∧ w'.ownsRow base 26 evE.k (.slice a n cap) n (evE.flat (marksE k0 n)) ∧ w.grownBy w' (Value.slice a n cap).ownBlock := by
  have hl := envs_len h
  have HML := Lib.hid (marksE_length k0 n)
  have HZL := Lib.hid hl
  clear hl
  go_enter Try.func19, Try.ntmps19
  go_wp2_with fail
  go_loopw [1, 5] (fun k i wr => ∃ j : Nat, j ≤ n ∧ i = .int .i64 j ∧ k = .int .i64 ((k0 : Int) + 5 * (j : Int)) ∧ wr.ownsRow base 26 evE.k (.slice a n cap) n (evE.flat (mixE (marksE k0 n) zs j)) ∧ w.grownBy wr (Value.slice a n cap).ownBlock) (fun _ i _ => n - (intOf i).toNat)
  case atStart => exact ⟨0, Nat.zero_le _, rfl, by simp, by rw [mixE_zero]; exact h, ⟨rfl, rfl, rfl, Nat.le_refl _, fun _ _ _ => rfl⟩⟩
  case round =>
    obtain ⟨j, hj, rfl, rfl, hown, hg⟩ := hrel
    by_cases hlt : j < n
    · obtain ⟨g, c, hv, _, hgl⟩ := hown.form (by omega)
      simp only [Value.slice.injEq] at hv
      obtain ⟨rfl, _, rfl⟩ := hv
      obtain ⟨g', o', hge, _, c0, c1, c2, c3, c4⟩ := (ER.own hown).at hlt
      simp only [Option.some.injEq, Addr.mk.injEq, and_true] at hge
      obtain ⟨rfl, rfl⟩ := hge
      rw [Nat.zero_add] at c0 c1 c2 c3 c4
      have f0 := hown.frozenAt (j * 5)
      have f1 := hown.frozenAt (j * 5 + 1)
      have f2 := hown.frozenAt (j * 5 + 2)
      have f3 := hown.frozenAt (j * 5 + 3)
      have HS4 := Lib.hid (fun x0 x1 x2 x3 : Int => ownE_four hown hlt x0 x1 x2 x3)
      have HG0 := Lib.hid hg
      have HMT : Hid (∀ (r : Int) (u : World), r = (k0 : Int) + 5 * (j : Int) + 4 → Calls Try.prog 35 #[.int .i64 r] u fun e w' => e = .returned (.string (mkt (k0 + 5 * j + 4))) ∧ Below u.heap.size u w') := Lib.hid (fun r u hr => by
        have hm := markText_any (k0 + 5 * j + 4) (w := u) (by omega) (by omega)
        rwa [show ((k0 + 5 * j + 4 : Nat) : Int) = r by omega] at hm)
      have HST := Lib.hid (mixE_set (zs := marksE k0 n) (ys := zs) (k := j) (by rw [HML.out, HZL.out]) (by rw [HML.out]; exact hlt))
      rw [marksE_getD hlt] at HST
      have HMJ : Hid (j < (mixE (marksE k0 n) zs j).length) := Lib.hid (by rw [mixE_length (by rw [HML.out, HZL.out]), HML.out]; exact hlt)
      clear hown hg h
      go_wp2_with fail
      refine (HMT.out _ _ (by omega)).mono ?_
      rintro e w5 ⟨rfl, hb⟩
      have hs4 := HS4.out ((k0 : Int) + 5 * (j : Int)) ((k0 : Int) + 5 * (j : Int) + 1) ((k0 : Int) + 5 * (j : Int) + 1 + 1) ((k0 : Int) + 5 * (j : Int) + 1 + 1 + 1)
      have hown5 := own_below hs4.1 hb
      have HG5 := Lib.hid (grown_trans (grown_trans HG0.out hs4.2) (fg_below hb))
      obtain ⟨g', o', hge, _, _, _, _, _, d4⟩ := (ER.own hown5).at hlt
      simp only [Option.some.injEq, Addr.mk.injEq, and_true] at hge
      obtain ⟨rfl, rfl⟩ := hge
      rw [Nat.zero_add] at d4
      have f4 := hown5.frozenAt (j * 5 + 4)
      have hs5 := ownE_last hown5 hlt (mkt (k0 + 5 * j + 4))
      rw [List.set_set] at hs5
      have e2 : ∀ q : Ev, ((mixE (marksE k0 n) zs j).set j q).getD j evD = q := fun q => by simp [List.getD, HMJ.out]
      rw [e2] at hs5
      have HS5 : Hid (World.ownsRow _ base 26 evE.k (.slice (some ⟨g, 0, none⟩) n cap) n (evE.flat (mixE (marksE k0 n) zs (j + 1)))) := Lib.hid (by rw [← HST.out]; exact hs5.1)
      have HG6 := Lib.hid (grown_trans HG5.out hs5.2)
      clear hs4 hown5 hb hs5 e2 c0 c1 c2 c3 c4 f0 f1 f2 f3
      go_wp2_with fail
      go_roundw
      case rel => exact ⟨j + 1, by omega, by go_num, by go_num, HS5.out, HG6.out⟩
      case measure => simp [intOf] <;> omega
    · obtain rfl : j = n := by omega
      have hm : mixE (marksE k0 j) zs j = marksE k0 j := by
        have := mixE_all (zs := marksE k0 j) (ys := zs) (by rw [HML.out, HZL.out])
        rwa [HML.out] at this
      rw [hm] at hown
      have HO := Lib.hid hown
      have HG := Lib.hid hg
      clear hown hg hm h
      go_wp2_with fail
      go_ret
      exact ⟨rfl, HO.out, HG.out⟩
set_option maxRecDepth 100000 in
set_option maxHeartbeats 3200000 in
theorem heldEnvS_any (a : Option Addr) (n cap k0 : Nat) (w : World) (h : ER w a n cap (marksE k0 n)) (hn : n ≤ 1048576) (hk0 : 0 < k0) (hk1 : k0 ≤ 1099511627776) :
    Calls Try.prog 20 #[.slice a n cap, .int .i64 (k0 : Int)] w fun e w' => e = .returned (.int .i64 ((k0 : Int) + 5 * (n : Int))) ∧ Below w.heap.size w w' := by
  go_enter Try.func20, Try.ntmps20
  go_wp2_with fail
  go_loopw [1, 5] (fun k i wr => ∃ j : Nat, j ≤ n ∧ i = .int .i64 j ∧ k = .int .i64 ((k0 : Int) + 5 * (j : Int)) ∧ Below w.heap.size w wr) (fun _ i _ => n - (intOf i).toNat)
  case atStart => exact ⟨0, Nat.zero_le _, rfl, by simp, Below.refl _ _⟩
  case round =>
    obtain ⟨j, hj, rfl, rfl, hB⟩ := hrel
    by_cases hlt : j < n
    · obtain ⟨g, o, rfl, hg, hc0, hc1, hc2, hc3, hc4⟩ := h.at hlt
      rw [marksE_getD hlt] at hc0 hc1 hc2 hc3 hc4
      unfold mkE at hc0 hc1 hc2 hc3 hc4
      dsimp only at hc0 hc1 hc2 hc3 hc4
      have HC : Hid (∀ u, Below w.heap.size w u → u.cell? ⟨g, o + j * 5 + 4, none⟩ = some (.string (mkt (k0 + 5 * j + 4)))) := Lib.hid (fun u hb => (hb.cell (p := ⟨g, o + j * 5 + 4, none⟩) hg).trans hc4)
      have a0 := (hB.cell (p := ⟨g, o + j * 5, none⟩) hg).trans hc0
      have a1 := (hB.cell (p := ⟨g, o + j * 5 + 1, none⟩) hg).trans hc1
      have a2 := (hB.cell (p := ⟨g, o + j * 5 + 2, none⟩) hg).trans hc2
      have a3 := (hB.cell (p := ⟨g, o + j * 5 + 3, none⟩) hg).trans hc3
      have HMT : Hid (∀ (r : Int) (u : World), r = (k0 : Int) + 5 * (j : Int) + 1 + 1 + 1 + 1 → Calls Try.prog 35 #[.int .i64 r] u fun e w' => e = .returned (.string (mkt (k0 + 5 * j + 4))) ∧ Below u.heap.size u w') := Lib.hid (fun r u hr => by
        have hm := markText_any (k0 + 5 * j + 4) (w := u) (by omega) (by omega)
        rwa [show ((k0 + 5 * j + 4 : Nat) : Int) = r by omega] at hm)
      have hFn := hB.drew
      generalize mkt (k0 + 5 * j + 4) = t at *
      clear hc0 hc1 hc2 hc3 hc4 h hB
      go_wp2_with fail
      clear a0 a1 a2 a3
      go_region_held3 (fun u => u.cell? ⟨g, o + j * 5 + 4, none⟩ = some (.string t)) (exact HC.out _ hFn)
        (first | (go_at_call 35; refine Calls.mono (HMT.out _ _ rfl) ?_; rintro e w1 ⟨rfl, hb⟩; have hFn := hFn.trans (hb.mono hFn.size)))
      all_goals
        go_wp2_with fail
        go_roundw
        case rel => exact ⟨j + 1, by omega, by go_num, by go_num, hFn⟩
        case measure => simp [intOf] <;> omega
    · obtain rfl : j = n := by omega
      have HB := Lib.hid hB
      clear hB h
      go_wp2_with fail
      go_ret
      exact ⟨rfl, HB.out⟩
end Go.Proofs.Ytdnbkjiijpeiiaa
