/- Texts put together. -/
import Derived.Test.YtnoefpkhbllmiaaGreatDoorRowKit
namespace Go.Proofs.YtnoefpkhbllmiaaGreatDoor
open Go.RowKit Go.PlainAid G MGF IRow
set_option linter.unusedVariables false
/-- A term. -/
structure Tm where
  no : Int
  lk : ByteArray
def tmD : Tm := ⟨0, ByteArray.empty⟩
/-- A term in memory. -/
def tmE : Enc Tm := ⟨2, fun e => [.int .i64 e.no, .string e.lk], fun _ => rfl, by intro x v hv; simp at hv; rcases hv with rfl | rfl <;> rfl⟩
theorem eqTerm_same (q0 : Int) (q1 : ByteArray) (w : World) :
    Calls Tryz.prog 53 #[.agg #[.int .i64 q0, .string q1], .agg #[.int .i64 q0, .string q1]] w fun e w' => e = .returned (.bool true) ∧ Below w.heap.size w w' := by
  go_enter Tryz.func53, Tryz.ntmps53
  go_wp2_with fail
  go_ret
  exact ⟨rfl, ((Below.refl _ _).alloc (Nat.le_refl _) _).alloc (by simp) _⟩
/-- A row of terms that can be read. -/
abbrev TmR (w : World) (a : Option Addr) (n cap : Nat) (l : List Tm) : Prop := SR tmE tmD w a n cap l
theorem TmR.at {w : World} {a : Option Addr} {n cap : Nat} {l : List Tm} (h : TmR w a n cap l) {i : Nat} (hi : i < n) : ∃ g o, a = some ⟨g, o, none⟩ ∧ g < w.heap.size ∧ w.cell? ⟨g, o + i * 2, none⟩ = some (.int .i64 (l.getD i tmD).no) ∧ w.cell? ⟨g, o + i * 2 + 1, none⟩ = some (.string (l.getD i tmD).lk) := by
  obtain ⟨g, o, ha, hg, hc⟩ := h.cells (by omega)
  exact ⟨g, o, ha, hg, hc i hi 0 _ rfl, hc i hi 1 _ rfl⟩
theorem TmR.own {w : World} {base n cap : Nat} {a : Option Addr} {e : TypeId} {l : List Tm} (h : w.ownsRow base e tmE.k (.slice a n cap) n (tmE.flat l)) : TmR w a n cap l := SR.own (by decide) h
theorem TmR.olen {w : World} {base n cap : Nat} {a : Option Addr} {e : TypeId} {l : List Tm} (h : w.ownsRow base e tmE.k (.slice a n cap) n (tmE.flat l)) : l.length = n := by
  have := h.1; rw [tmE.flat_length] at this; exact Nat.eq_of_mul_eq_mul_right (show 0 < tmE.k by decide) this
theorem infoTerm : (Tryz.prog.info? 67).map (fun i => (i.zero, i.size, i.bytes)) = some (some (.agg #[.int .i64 0, .string ByteArray.empty]), 2, 24) := by kernel_rfl
theorem TmR.set0 {w : World} {base g n cap : Nat} {e : TypeId} {ps : List Tm} (h : w.ownsRow base e tmE.k (.slice (some ⟨g, 0, none⟩) n cap) n (tmE.flat ps)) {i : Nat} (hi : i < n) (v : Int) :
    (w.setCell ⟨g, i * 2, none⟩ (.int .i64 v)).ownsRow base e tmE.k (.slice (some ⟨g, 0, none⟩) n cap) n (tmE.flat (ps.set i ⟨v, (ps.getD i tmD).lk⟩)) ∧ w.grownBy (w.setCell ⟨g, i * 2, none⟩ (.int .i64 v)) (some g) := by
  have hl := TmR.olen h
  obtain ⟨h1, g1⟩ := h.stored (i * 2) (.int .i64 v)
  have e1 : (tmE.flat ps).set (i * 2) (.int .i64 v) = tmE.flat (ps.set i ⟨v, (ps.getD i tmD).lk⟩) := flat_setX tmE tmD ps i 0 _ _ (by omega) (by decide) rfl
  rw [e1] at h1
  exact ⟨h1, g1⟩
theorem TmR.set1 {w : World} {base g n cap : Nat} {e : TypeId} {ps : List Tm} (h : w.ownsRow base e tmE.k (.slice (some ⟨g, 0, none⟩) n cap) n (tmE.flat ps)) {i : Nat} (hi : i < n) (v : ByteArray) :
    (w.setCell ⟨g, i * 2 + 1, none⟩ (.string v)).ownsRow base e tmE.k (.slice (some ⟨g, 0, none⟩) n cap) n (tmE.flat (ps.set i ⟨(ps.getD i tmD).no, v⟩)) ∧ w.grownBy (w.setCell ⟨g, i * 2 + 1, none⟩ (.string v)) (some g) := by
  have hl := TmR.olen h
  obtain ⟨h1, g1⟩ := h.stored (i * 2 + 1) (.string v)
  have e1 : (tmE.flat ps).set (i * 2 + 1) (.string v) = tmE.flat (ps.set i ⟨(ps.getD i tmD).no, v⟩) := flat_setX tmE tmD ps i 1 _ _ (by omega) (by decide) rfl
  rw [e1] at h1
  exact ⟨h1, g1⟩
theorem TmR.stored {w : World} {base g n cap : Nat} {e : TypeId} {ps : List Tm} (h : w.ownsRow base e tmE.k (.slice (some ⟨g, 0, none⟩) n cap) n (tmE.flat ps)) {i : Nat} (hi : i < n) (q0 : Int) (q1 : ByteArray) :
    ((w.setCell ⟨g, i * 2, none⟩ (.int .i64 q0)).setCell ⟨g, i * 2 + 1, none⟩ (.string q1)).ownsRow base e tmE.k (.slice (some ⟨g, 0, none⟩) n cap) n (tmE.flat (ps.set i ⟨q0, q1⟩)) ∧ w.grownBy ((w.setCell ⟨g, i * 2, none⟩ (.int .i64 q0)).setCell ⟨g, i * 2 + 1, none⟩ (.string q1)) (some g) := by
  have hl := TmR.olen h
  have gd : ∀ (p q : Tm), ((ps.set i p).set i q) = ps.set i q := fun p q => by rw [List.set_set]
  have ge : ∀ p : Tm, (ps.set i p).getD i tmD = p := fun p => by simp [List.getD, show i < ps.length by omega]
  have h0 := TmR.set0 h hi q0
  have h1 := TmR.set1 h0.1 hi q1
  rw [gd, ge] at h1
  exact ⟨h1.1, (grown_trans h0.2 h1.2)⟩
set_option maxRecDepth 100000 in
set_option maxHeartbeats 1600000 in
theorem eqTermS_same (a b : Option Addr) (n cap cbp : Nat) (l : List Tm) (w : World) (h : TmR w a n cap l) (k : TmR w b n cbp l) (hn : n ≤ 1048576) :
    Calls Tryz.prog 26 #[.slice a n cap, .slice b n cbp] w fun e w' => e = .returned (.bool true) ∧ Below w.heap.size w w' := by
  go_enter Tryz.func26, Tryz.ntmps26
  go_wp2_with fail
  go_loopw [5] (fun i wr => ∃ j : Nat, j ≤ n ∧ i = .int .i64 j ∧ Below w.heap.size w wr) (fun i _ => n - (intOf i).toNat)
  case atStart => exact ⟨0, Nat.zero_le _, rfl, Below.refl _ _⟩
  case round =>
    obtain ⟨j, hj, rfl, hB⟩ := hrel
    have HB := Lib.hid hB.drew
    by_cases hlt : j < n
    · obtain ⟨g, o, rfl, hg, hc0, hc1⟩ := h.at hlt
      obtain ⟨g', o', rfl, hg', hd0, hd1⟩ := k.at hlt
      have a0 := (hB.cell (p := ⟨g, o + j * 2, none⟩) hg).trans hc0
      have a1 := (hB.cell (p := ⟨g, o + j * 2 + 1, none⟩) hg).trans hc1
      have b0 := (hB.cell (p := ⟨g', o' + j * 2, none⟩) hg').trans hd0
      have b1 := (hB.cell (p := ⟨g', o' + j * 2 + 1, none⟩) hg').trans hd1
      generalize (l.getD j tmD).no = q0 at *
      generalize (l.getD j tmD).lk = q1 at *
      clear hc0 hc1 hd0 hd1 h k hB
      go_wp2_with fail
      go_still_tail 8, (by kernel_rfl)
      change wpList _ _ _ _ _ wr.drew
      clear a0 a1 b0 b1
      generalize wr.drew = we at *
      go_wp2_with fail
      refine (eqTerm_same q0 q1 _).mono ?_
      rintro e w5 ⟨rfl, hb⟩
      have HB5 := Lib.hid (HB.out.trans (hb.mono HB.out.size))
      clear hb
      go_wp2_with fail
      go_roundw
      case rel => exact ⟨j + 1, by omega, by go_num, HB5.out⟩
      case measure => simp [intOf] <;> omega
    · obtain rfl : j = n := by omega
      have HB2 := Lib.hid hB
      clear h k hB
      go_wp2_with fail
      go_ret
      exact ⟨rfl, HB2.out⟩
/-- What is left of a size; or too much. -/
def LeftTerm (n : Nat) (l : List Tm) (left : Int) (w : World) (e : Ending) (w' : World) : Prop :=
  ∃ r : Int, e = .returned (.int .i64 r) ∧ ((r = -1) ∨ (0 ≤ r ∧ r ≤ left ∧ n ≤ 1048576 ∧ ∀ t, t < n → (l.getD t tmD).lk.size ≤ 1048576)) ∧ Below w.heap.size w w'
/-- The j-th marks. -/
def mkTm (k j : Nat) : Tm := ⟨(k : Int) + 2 * (j : Int), mkt (k + 2 * j + 1)⟩
def marksTm (k n : Nat) : List Tm := (List.range n).map (mkTm k)
theorem marksTm_length (k n : Nat) : (marksTm k n).length = n := by simp [marksTm]
theorem marksTm_getD {k n j : Nat} (h : j < n) : (marksTm k n).getD j tmD = mkTm k j := by simp [marksTm, List.getD, h]
set_option maxRecDepth 100000 in
set_option maxHeartbeats 6400000 in
theorem markTermS_any (a : Option Addr) (base n cap : Nat) (zs : List Tm) (k0 : Nat) (w : World) (h : w.ownsRow base 67 tmE.k (.slice a n cap) n (tmE.flat zs)) (hn : n ≤ 1048576) (hk0 : 0 < k0) (hk1 : k0 ≤ 1099511627776) :
    Calls Tryz.prog 28 #[.slice a n cap, .int .i64 (k0 : Int)] w fun e w' => e = .returned (.int .i64 ((k0 : Int) + 2 * (n : Int))) ∧ w'.ownsRow base 67 tmE.k (.slice a n cap) n (tmE.flat (marksTm k0 n)) ∧ w.grownBy w' (Value.slice a n cap).ownBlock := by
  have hl := TmR.olen h
  have HML := Lib.hid (marksTm_length k0 n)
  have HZL := Lib.hid hl
  clear hl
  go_enter Tryz.func28, Tryz.ntmps28
  go_wp2_with fail
  go_loopw [1, 5] (fun k i wr => ∃ j : Nat, j ≤ n ∧ i = .int .i64 j ∧ k = .int .i64 ((k0 : Int) + 2 * (j : Int)) ∧ wr.ownsRow base 67 tmE.k (.slice a n cap) n (tmE.flat (mixX (marksTm k0 n) zs j)) ∧ w.grownBy wr (Value.slice a n cap).ownBlock) (fun _ i _ => n - (intOf i).toNat)
  case atStart => exact ⟨0, Nat.zero_le _, rfl, by simp, by rw [mixX_zero]; exact h, ⟨rfl, rfl, rfl, Nat.le_refl _, fun _ _ _ => rfl⟩⟩
  case round =>
    obtain ⟨j, hj, rfl, rfl, hown, hg⟩ := hrel
    by_cases hlt : j < n
    · obtain ⟨g, c, hv, _, hgl⟩ := hown.form (by omega)
      simp only [Value.slice.injEq] at hv
      obtain ⟨rfl, _, rfl⟩ := hv
      have HMT1 : Hid (∀ (r : Int) (u : World), r = (k0 : Int) + 2 * (j : Int) + 1 → Calls Tryz.prog 48 #[.int .i64 r] u fun e w' => e = .returned (.string (mkt (k0 + 2 * j + 1))) ∧ Below u.heap.size u w') := Lib.hid (fun r u hr => by
        have hm := markText_any (k0 + 2 * j + 1) (w := u) (by omega) (by omega)
        rwa [show ((k0 + 2 * j + 1 : Nat) : Int) = r by omega] at hm)
      have HST := Lib.hid (mixX_set tmD (zs := marksTm k0 n) (ys := zs) (k := j) (by rw [HML.out, HZL.out]) (by rw [HML.out]; exact hlt))
      rw [marksTm_getD hlt] at HST
      have HMJ : Hid (j < (mixX (marksTm k0 n) zs j).length) := Lib.hid (by rw [mixX_length (by rw [HML.out, HZL.out]), HML.out]; exact hlt)
      have gd : ∀ (ps : List Tm) (p q : Tm), ((ps.set j p).set j q) = ps.set j q := fun ps p q => by rw [List.set_set]
      have ge : ∀ p : Tm, ((mixX (marksTm k0 n) zs j).set j p).getD j tmD = p := fun p => by simp [List.getD, HMJ.out]
      have GD := Lib.hid gd
      have GE := Lib.hid ge
      clear gd ge h
      have HO0 := Lib.hid hown
      have HG0 := Lib.hid hg
      clear hown hg
      obtain ⟨g', o', hge, _, x0, x1⟩ := (TmR.own HO0.out).at hlt
      simp only [Option.some.injEq, Addr.mk.injEq, and_true] at hge
      obtain ⟨rfl, rfl⟩ := hge
      rw [Nat.zero_add] at x0 x1
      have y0 := HO0.out.frozenAt (j * 2)
      clear x1
      have s0 := TmR.set0 HO0.out hlt ((k0 : Int) + 2 * (j : Int))
      have HO1 := Lib.hid s0.1
      have HG1 := Lib.hid (grown_trans HG0.out s0.2)
      clear s0
      go_wp2_with fail
      clear x0 y0
      refine (HMT1.out _ _ (by omega)).mono ?_
      rintro e w5 ⟨rfl, hb⟩
      have hown5 := own_below HO1.out hb
      have hg5 := grown_trans HG1.out (fg_below hb)
      clear hb HO1 HG1
      obtain ⟨g', o', hge, _, x0, x1⟩ := (TmR.own hown5).at hlt
      simp only [Option.some.injEq, Addr.mk.injEq, and_true] at hge
      obtain ⟨rfl, rfl⟩ := hge
      rw [Nat.zero_add] at x0 x1
      have y1 := hown5.frozenAt (j * 2 + 1)
      clear x0
      have s1 := TmR.set1 hown5 hlt (mkt (k0 + 2 * j + 1))
      rw [GD.out, GE.out] at s1
      have HO2 := Lib.hid s1.1
      have HG2 := Lib.hid (grown_trans hg5 s1.2)
      clear s1
      clear hown5 hg5
      go_wp2_with fail
      go_roundw
      case rel => exact ⟨j + 1, by omega, by go_num, by go_num, by rw [← HST.out]; exact HO2.out, HG2.out⟩
      case measure => simp [intOf] <;> omega
    · obtain rfl : j = n := by omega
      have hm : mixX (marksTm k0 j) zs j = marksTm k0 j := by
        have := mixX_all (zs := marksTm k0 j) (ys := zs) (by rw [HML.out, HZL.out])
        rwa [HML.out] at this
      rw [hm] at hown
      have HO := Lib.hid hown
      have HG := Lib.hid hg
      clear hown hg hm h
      go_wp2_with fail
      go_ret
      exact ⟨rfl, HO.out, HG.out⟩
set_option maxRecDepth 100000 in
set_option maxHeartbeats 6400000 in
theorem heldTermS_any (a : Option Addr) (n cap k0 : Nat) (w : World) (h : TmR w a n cap (marksTm k0 n)) (hn : n ≤ 1048576) (hk0 : 0 < k0) (hk1 : k0 ≤ 1099511627776) :
    Calls Tryz.prog 30 #[.slice a n cap, .int .i64 (k0 : Int)] w fun e w' => e = .returned (.int .i64 ((k0 : Int) + 2 * (n : Int))) ∧ Below w.heap.size w w' := by
  go_enter Tryz.func30, Tryz.ntmps30
  go_wp2_with fail
  go_loopw [1, 5] (fun k i wr => ∃ j : Nat, j ≤ n ∧ i = .int .i64 j ∧ k = .int .i64 ((k0 : Int) + 2 * (j : Int)) ∧ Below w.heap.size w wr) (fun _ i _ => n - (intOf i).toNat)
  case atStart => exact ⟨0, Nat.zero_le _, rfl, by simp, Below.refl _ _⟩
  case round =>
    obtain ⟨j, hj, rfl, rfl, hB⟩ := hrel
    by_cases hlt : j < n
    · obtain ⟨g, o, rfl, hg, hc0, hc1⟩ := h.at hlt
      rw [marksTm_getD hlt] at hc0 hc1
      unfold mkTm at hc0 hc1
      dsimp only at hc0 hc1
      have HC : Hid (∀ u, Below w.heap.size w u → u.cell? ⟨g, o + j * 2, none⟩ = some (.int .i64 ((k0 : Int) + 2 * (j : Int))) ∧ u.cell? ⟨g, o + j * 2 + 1, none⟩ = some (.string (mkt (k0 + 2 * j + 1)))) := Lib.hid (fun u hb => ⟨(hb.cell (p := ⟨g, o + j * 2, none⟩) hg).trans hc0, (hb.cell (p := ⟨g, o + j * 2 + 1, none⟩) hg).trans hc1⟩)
      have HMT1 : Hid (∀ (r : Int) (u : World), r = (k0 : Int) + 2 * (j : Int) + 1 → Calls Tryz.prog 48 #[.int .i64 r] u fun e w' => e = .returned (.string (mkt (k0 + 2 * j + 1))) ∧ Below u.heap.size u w') := Lib.hid (fun r u hr => by
        have hm := markText_any (k0 + 2 * j + 1) (w := u) (by omega) (by omega)
        rwa [show ((k0 + 2 * j + 1 : Nat) : Int) = r by omega] at hm)
      generalize mkt (k0 + 2 * j + 1) = t1 at *
      clear hc0 hc1 h
      have hFn := hB
      obtain ⟨c0, c1⟩ := HC.out _ hFn
      clear c1
      go_wp2_with fail
      clear c0
      replace hFn := hFn.drew
      go_region_held3 (fun u => u.cell? ⟨g, o + j * 2 + 1, none⟩ = some (.string t1)) (exact (HC.out _ hFn).2)
        (first | (go_at_call 48; refine Calls.mono (HMT1.out _ _ rfl) ?_; rintro e w1 ⟨rfl, hb⟩; have hFn := hFn.trans (hb.mono hFn.size)))
      all_goals
        go_wp2_with fail
        go_roundw
        case rel => exact ⟨j + 1, by omega, by go_num, by go_num, hFn⟩
        case measure => simp [intOf] <;> omega
    · obtain rfl : j = n := by omega
      have HB := Lib.hid hB
      clear hB h
      go_wp2_with fail
      go_ret
      exact ⟨rfl, HB.out⟩
end Go.Proofs.YtnoefpkhbllmiaaGreatDoor
namespace Go.Proofs.YtnoefpkhbllmiaaGreatDoor
open Go.RowKit Go.PlainAid G MGF IRow
set_option linter.unusedVariables false
/-- A item. -/
structure Im where
  nm : ByteArray
  tm : Int
  bd : ByteArray
def imD : Im := ⟨ByteArray.empty, 0, ByteArray.empty⟩
/-- A item in memory. -/
def imE : Enc Im := ⟨3, fun e => [.string e.nm, .int .i64 e.tm, .string e.bd], fun _ => rfl, by intro x v hv; simp at hv; rcases hv with rfl | rfl | rfl <;> rfl⟩
theorem eqItem_same (q0 : ByteArray) (q1 : Int) (q2 : ByteArray) (w : World) :
    Calls Tryz.prog 54 #[.agg #[.string q0, .int .i64 q1, .string q2], .agg #[.string q0, .int .i64 q1, .string q2]] w fun e w' => e = .returned (.bool true) ∧ Below w.heap.size w w' := by
  go_enter Tryz.func54, Tryz.ntmps54
  go_wp2_with fail
  go_ret
  exact ⟨rfl, ((Below.refl _ _).alloc (Nat.le_refl _) _).alloc (by simp) _⟩
/-- A row of items that can be read. -/
abbrev ImR (w : World) (a : Option Addr) (n cap : Nat) (l : List Im) : Prop := SR imE imD w a n cap l
theorem ImR.at {w : World} {a : Option Addr} {n cap : Nat} {l : List Im} (h : ImR w a n cap l) {i : Nat} (hi : i < n) : ∃ g o, a = some ⟨g, o, none⟩ ∧ g < w.heap.size ∧ w.cell? ⟨g, o + i * 3, none⟩ = some (.string (l.getD i imD).nm) ∧ w.cell? ⟨g, o + i * 3 + 1, none⟩ = some (.int .i64 (l.getD i imD).tm) ∧ w.cell? ⟨g, o + i * 3 + 2, none⟩ = some (.string (l.getD i imD).bd) := by
  obtain ⟨g, o, ha, hg, hc⟩ := h.cells (by omega)
  exact ⟨g, o, ha, hg, hc i hi 0 _ rfl, hc i hi 1 _ rfl, hc i hi 2 _ rfl⟩
theorem ImR.own {w : World} {base n cap : Nat} {a : Option Addr} {e : TypeId} {l : List Im} (h : w.ownsRow base e imE.k (.slice a n cap) n (imE.flat l)) : ImR w a n cap l := SR.own (by decide) h
theorem ImR.olen {w : World} {base n cap : Nat} {a : Option Addr} {e : TypeId} {l : List Im} (h : w.ownsRow base e imE.k (.slice a n cap) n (imE.flat l)) : l.length = n := by
  have := h.1; rw [imE.flat_length] at this; exact Nat.eq_of_mul_eq_mul_right (show 0 < imE.k by decide) this
theorem infoItem : (Tryz.prog.info? 69).map (fun i => (i.zero, i.size, i.bytes)) = some (some (.agg #[.string ByteArray.empty, .int .i64 0, .string ByteArray.empty]), 3, 40) := by kernel_rfl
theorem ImR.set0 {w : World} {base g n cap : Nat} {e : TypeId} {ps : List Im} (h : w.ownsRow base e imE.k (.slice (some ⟨g, 0, none⟩) n cap) n (imE.flat ps)) {i : Nat} (hi : i < n) (v : ByteArray) :
    (w.setCell ⟨g, i * 3, none⟩ (.string v)).ownsRow base e imE.k (.slice (some ⟨g, 0, none⟩) n cap) n (imE.flat (ps.set i ⟨v, (ps.getD i imD).tm, (ps.getD i imD).bd⟩)) ∧ w.grownBy (w.setCell ⟨g, i * 3, none⟩ (.string v)) (some g) := by
  have hl := ImR.olen h
  obtain ⟨h1, g1⟩ := h.stored (i * 3) (.string v)
  have e1 : (imE.flat ps).set (i * 3) (.string v) = imE.flat (ps.set i ⟨v, (ps.getD i imD).tm, (ps.getD i imD).bd⟩) := flat_setX imE imD ps i 0 _ _ (by omega) (by decide) rfl
  rw [e1] at h1
  exact ⟨h1, g1⟩
theorem ImR.set1 {w : World} {base g n cap : Nat} {e : TypeId} {ps : List Im} (h : w.ownsRow base e imE.k (.slice (some ⟨g, 0, none⟩) n cap) n (imE.flat ps)) {i : Nat} (hi : i < n) (v : Int) :
    (w.setCell ⟨g, i * 3 + 1, none⟩ (.int .i64 v)).ownsRow base e imE.k (.slice (some ⟨g, 0, none⟩) n cap) n (imE.flat (ps.set i ⟨(ps.getD i imD).nm, v, (ps.getD i imD).bd⟩)) ∧ w.grownBy (w.setCell ⟨g, i * 3 + 1, none⟩ (.int .i64 v)) (some g) := by
  have hl := ImR.olen h
  obtain ⟨h1, g1⟩ := h.stored (i * 3 + 1) (.int .i64 v)
  have e1 : (imE.flat ps).set (i * 3 + 1) (.int .i64 v) = imE.flat (ps.set i ⟨(ps.getD i imD).nm, v, (ps.getD i imD).bd⟩) := flat_setX imE imD ps i 1 _ _ (by omega) (by decide) rfl
  rw [e1] at h1
  exact ⟨h1, g1⟩
theorem ImR.set2 {w : World} {base g n cap : Nat} {e : TypeId} {ps : List Im} (h : w.ownsRow base e imE.k (.slice (some ⟨g, 0, none⟩) n cap) n (imE.flat ps)) {i : Nat} (hi : i < n) (v : ByteArray) :
    (w.setCell ⟨g, i * 3 + 2, none⟩ (.string v)).ownsRow base e imE.k (.slice (some ⟨g, 0, none⟩) n cap) n (imE.flat (ps.set i ⟨(ps.getD i imD).nm, (ps.getD i imD).tm, v⟩)) ∧ w.grownBy (w.setCell ⟨g, i * 3 + 2, none⟩ (.string v)) (some g) := by
  have hl := ImR.olen h
  obtain ⟨h1, g1⟩ := h.stored (i * 3 + 2) (.string v)
  have e1 : (imE.flat ps).set (i * 3 + 2) (.string v) = imE.flat (ps.set i ⟨(ps.getD i imD).nm, (ps.getD i imD).tm, v⟩) := flat_setX imE imD ps i 2 _ _ (by omega) (by decide) rfl
  rw [e1] at h1
  exact ⟨h1, g1⟩
theorem ImR.stored {w : World} {base g n cap : Nat} {e : TypeId} {ps : List Im} (h : w.ownsRow base e imE.k (.slice (some ⟨g, 0, none⟩) n cap) n (imE.flat ps)) {i : Nat} (hi : i < n) (q0 : ByteArray) (q1 : Int) (q2 : ByteArray) :
    (((w.setCell ⟨g, i * 3, none⟩ (.string q0)).setCell ⟨g, i * 3 + 1, none⟩ (.int .i64 q1)).setCell ⟨g, i * 3 + 2, none⟩ (.string q2)).ownsRow base e imE.k (.slice (some ⟨g, 0, none⟩) n cap) n (imE.flat (ps.set i ⟨q0, q1, q2⟩)) ∧ w.grownBy (((w.setCell ⟨g, i * 3, none⟩ (.string q0)).setCell ⟨g, i * 3 + 1, none⟩ (.int .i64 q1)).setCell ⟨g, i * 3 + 2, none⟩ (.string q2)) (some g) := by
  have hl := ImR.olen h
  have gd : ∀ (p q : Im), ((ps.set i p).set i q) = ps.set i q := fun p q => by rw [List.set_set]
  have ge : ∀ p : Im, (ps.set i p).getD i imD = p := fun p => by simp [List.getD, show i < ps.length by omega]
  have h0 := ImR.set0 h hi q0
  have h1 := ImR.set1 h0.1 hi q1
  rw [gd, ge] at h1
  have h2 := ImR.set2 h1.1 hi q2
  rw [gd, ge] at h2
  exact ⟨h2.1, (grown_trans (grown_trans h0.2 h1.2) h2.2)⟩
set_option maxRecDepth 100000 in
set_option maxHeartbeats 1600000 in
theorem eqItemS_same (a b : Option Addr) (n cap cbp : Nat) (l : List Im) (w : World) (h : ImR w a n cap l) (k : ImR w b n cbp l) (hn : n ≤ 1048576) :
    Calls Tryz.prog 27 #[.slice a n cap, .slice b n cbp] w fun e w' => e = .returned (.bool true) ∧ Below w.heap.size w w' := by
  go_enter Tryz.func27, Tryz.ntmps27
  go_wp2_with fail
  go_loopw [5] (fun i wr => ∃ j : Nat, j ≤ n ∧ i = .int .i64 j ∧ Below w.heap.size w wr) (fun i _ => n - (intOf i).toNat)
  case atStart => exact ⟨0, Nat.zero_le _, rfl, Below.refl _ _⟩
  case round =>
    obtain ⟨j, hj, rfl, hB⟩ := hrel
    have HB := Lib.hid hB.drew
    by_cases hlt : j < n
    · obtain ⟨g, o, rfl, hg, hc0, hc1, hc2⟩ := h.at hlt
      obtain ⟨g', o', rfl, hg', hd0, hd1, hd2⟩ := k.at hlt
      have a0 := (hB.cell (p := ⟨g, o + j * 3, none⟩) hg).trans hc0
      have a1 := (hB.cell (p := ⟨g, o + j * 3 + 1, none⟩) hg).trans hc1
      have a2 := (hB.cell (p := ⟨g, o + j * 3 + 2, none⟩) hg).trans hc2
      have b0 := (hB.cell (p := ⟨g', o' + j * 3, none⟩) hg').trans hd0
      have b1 := (hB.cell (p := ⟨g', o' + j * 3 + 1, none⟩) hg').trans hd1
      have b2 := (hB.cell (p := ⟨g', o' + j * 3 + 2, none⟩) hg').trans hd2
      generalize (l.getD j imD).nm = q0 at *
      generalize (l.getD j imD).tm = q1 at *
      generalize (l.getD j imD).bd = q2 at *
      clear hc0 hc1 hc2 hd0 hd1 hd2 h k hB
      go_wp2_with fail
      go_still_tail 8, (by kernel_rfl)
      change wpList _ _ _ _ _ wr.drew
      clear a0 a1 a2 b0 b1 b2
      generalize wr.drew = we at *
      go_wp2_with fail
      refine (eqItem_same q0 q1 q2 _).mono ?_
      rintro e w5 ⟨rfl, hb⟩
      have HB5 := Lib.hid (HB.out.trans (hb.mono HB.out.size))
      clear hb
      go_wp2_with fail
      go_roundw
      case rel => exact ⟨j + 1, by omega, by go_num, HB5.out⟩
      case measure => simp [intOf] <;> omega
    · obtain rfl : j = n := by omega
      have HB2 := Lib.hid hB
      clear h k hB
      go_wp2_with fail
      go_ret
      exact ⟨rfl, HB2.out⟩
/-- What is left of a size; or too much. -/
def LeftItem (n : Nat) (l : List Im) (left : Int) (w : World) (e : Ending) (w' : World) : Prop :=
  ∃ r : Int, e = .returned (.int .i64 r) ∧ ((r = -1) ∨ (0 ≤ r ∧ r ≤ left ∧ n ≤ 1048576 ∧ ∀ t, t < n → (l.getD t imD).nm.size ≤ 1048576 ∧ (l.getD t imD).bd.size ≤ 1048576)) ∧ Below w.heap.size w w'
/-- The j-th marks. -/
def mkIm (k j : Nat) : Im := ⟨mkt (k + 3 * j), (k : Int) + 3 * (j : Int) + 1, mkt (k + 3 * j + 2)⟩
def marksIm (k n : Nat) : List Im := (List.range n).map (mkIm k)
theorem marksIm_length (k n : Nat) : (marksIm k n).length = n := by simp [marksIm]
theorem marksIm_getD {k n j : Nat} (h : j < n) : (marksIm k n).getD j imD = mkIm k j := by simp [marksIm, List.getD, h]
set_option maxRecDepth 100000 in
set_option maxHeartbeats 6400000 in
theorem markItemS_any (a : Option Addr) (base n cap : Nat) (zs : List Im) (k0 : Nat) (w : World) (h : w.ownsRow base 69 imE.k (.slice a n cap) n (imE.flat zs)) (hn : n ≤ 1048576) (hk0 : 0 < k0) (hk1 : k0 ≤ 1099511627776) :
    Calls Tryz.prog 29 #[.slice a n cap, .int .i64 (k0 : Int)] w fun e w' => e = .returned (.int .i64 ((k0 : Int) + 3 * (n : Int))) ∧ w'.ownsRow base 69 imE.k (.slice a n cap) n (imE.flat (marksIm k0 n)) ∧ w.grownBy w' (Value.slice a n cap).ownBlock := by
  have hl := ImR.olen h
  have HML := Lib.hid (marksIm_length k0 n)
  have HZL := Lib.hid hl
  clear hl
  go_enter Tryz.func29, Tryz.ntmps29
  go_wp2_with fail
  go_loopw [1, 5] (fun k i wr => ∃ j : Nat, j ≤ n ∧ i = .int .i64 j ∧ k = .int .i64 ((k0 : Int) + 3 * (j : Int)) ∧ wr.ownsRow base 69 imE.k (.slice a n cap) n (imE.flat (mixX (marksIm k0 n) zs j)) ∧ w.grownBy wr (Value.slice a n cap).ownBlock) (fun _ i _ => n - (intOf i).toNat)
  case atStart => exact ⟨0, Nat.zero_le _, rfl, by simp, by rw [mixX_zero]; exact h, ⟨rfl, rfl, rfl, Nat.le_refl _, fun _ _ _ => rfl⟩⟩
  case round =>
    obtain ⟨j, hj, rfl, rfl, hown, hg⟩ := hrel
    by_cases hlt : j < n
    · obtain ⟨g, c, hv, _, hgl⟩ := hown.form (by omega)
      simp only [Value.slice.injEq] at hv
      obtain ⟨rfl, _, rfl⟩ := hv
      have HMT0 : Hid (∀ (r : Int) (u : World), r = (k0 : Int) + 3 * (j : Int) → Calls Tryz.prog 48 #[.int .i64 r] u fun e w' => e = .returned (.string (mkt (k0 + 3 * j))) ∧ Below u.heap.size u w') := Lib.hid (fun r u hr => by
        have hm := markText_any (k0 + 3 * j) (w := u) (by omega) (by omega)
        rwa [show ((k0 + 3 * j : Nat) : Int) = r by omega] at hm)
      have HMT2 : Hid (∀ (r : Int) (u : World), r = (k0 : Int) + 3 * (j : Int) + 1 + 1 → Calls Tryz.prog 48 #[.int .i64 r] u fun e w' => e = .returned (.string (mkt (k0 + 3 * j + 2))) ∧ Below u.heap.size u w') := Lib.hid (fun r u hr => by
        have hm := markText_any (k0 + 3 * j + 2) (w := u) (by omega) (by omega)
        rwa [show ((k0 + 3 * j + 2 : Nat) : Int) = r by omega] at hm)
      have HST := Lib.hid (mixX_set imD (zs := marksIm k0 n) (ys := zs) (k := j) (by rw [HML.out, HZL.out]) (by rw [HML.out]; exact hlt))
      rw [marksIm_getD hlt] at HST
      have HMJ : Hid (j < (mixX (marksIm k0 n) zs j).length) := Lib.hid (by rw [mixX_length (by rw [HML.out, HZL.out]), HML.out]; exact hlt)
      have gd : ∀ (ps : List Im) (p q : Im), ((ps.set j p).set j q) = ps.set j q := fun ps p q => by rw [List.set_set]
      have ge : ∀ p : Im, ((mixX (marksIm k0 n) zs j).set j p).getD j imD = p := fun p => by simp [List.getD, HMJ.out]
      have GD := Lib.hid gd
      have GE := Lib.hid ge
      clear gd ge h
      have HO0 := Lib.hid hown
      have HG0 := Lib.hid hg
      clear hown hg
      go_wp2_with fail
      refine (HMT0.out _ _ (by omega)).mono ?_
      rintro e w5 ⟨rfl, hb⟩
      have hown5 := own_below HO0.out hb
      have hg5 := grown_trans HG0.out (fg_below hb)
      clear hb HO0 HG0
      obtain ⟨g', o', hge, _, x0, x1, x2⟩ := (ImR.own hown5).at hlt
      simp only [Option.some.injEq, Addr.mk.injEq, and_true] at hge
      obtain ⟨rfl, rfl⟩ := hge
      rw [Nat.zero_add] at x0 x1 x2
      have y0 := hown5.frozenAt (j * 3)
      have y1 := hown5.frozenAt (j * 3 + 1)
      clear x2
      have s0 := ImR.set0 hown5 hlt (mkt (k0 + 3 * j))
      have s1 := ImR.set1 s0.1 hlt ((k0 : Int) + 3 * (j : Int) + 1)
      rw [GD.out, GE.out] at s1
      have HO2 := Lib.hid s1.1
      have HG2 := Lib.hid (grown_trans (grown_trans hg5 s0.2) s1.2)
      clear s1 s0
      clear hown5 hg5
      go_wp2_with fail
      clear x0 y0 x1 y1
      refine (HMT2.out _ _ (by omega)).mono ?_
      rintro e w5 ⟨rfl, hb⟩
      have hown5 := own_below HO2.out hb
      have hg5 := grown_trans HG2.out (fg_below hb)
      clear hb HO2 HG2
      obtain ⟨g', o', hge, _, x0, x1, x2⟩ := (ImR.own hown5).at hlt
      simp only [Option.some.injEq, Addr.mk.injEq, and_true] at hge
      obtain ⟨rfl, rfl⟩ := hge
      rw [Nat.zero_add] at x0 x1 x2
      have y2 := hown5.frozenAt (j * 3 + 2)
      clear x0 x1
      have s2 := ImR.set2 hown5 hlt (mkt (k0 + 3 * j + 2))
      rw [GD.out, GE.out] at s2
      have HO3 := Lib.hid s2.1
      have HG3 := Lib.hid (grown_trans hg5 s2.2)
      clear s2
      clear hown5 hg5
      go_wp2_with fail
      go_roundw
      case rel => exact ⟨j + 1, by omega, by go_num, by go_num, by rw [← HST.out]; exact HO3.out, HG3.out⟩
      case measure => simp [intOf] <;> omega
    · obtain rfl : j = n := by omega
      have hm : mixX (marksIm k0 j) zs j = marksIm k0 j := by
        have := mixX_all (zs := marksIm k0 j) (ys := zs) (by rw [HML.out, HZL.out])
        rwa [HML.out] at this
      rw [hm] at hown
      have HO := Lib.hid hown
      have HG := Lib.hid hg
      clear hown hg hm h
      go_wp2_with fail
      go_ret
      exact ⟨rfl, HO.out, HG.out⟩
set_option maxRecDepth 100000 in
set_option maxHeartbeats 6400000 in
theorem heldItemS_any (a : Option Addr) (n cap k0 : Nat) (w : World) (h : ImR w a n cap (marksIm k0 n)) (hn : n ≤ 1048576) (hk0 : 0 < k0) (hk1 : k0 ≤ 1099511627776) :
    Calls Tryz.prog 31 #[.slice a n cap, .int .i64 (k0 : Int)] w fun e w' => e = .returned (.int .i64 ((k0 : Int) + 3 * (n : Int))) ∧ Below w.heap.size w w' := by
  go_enter Tryz.func31, Tryz.ntmps31
  go_wp2_with fail
  go_loopw [1, 5] (fun k i wr => ∃ j : Nat, j ≤ n ∧ i = .int .i64 j ∧ k = .int .i64 ((k0 : Int) + 3 * (j : Int)) ∧ Below w.heap.size w wr) (fun _ i _ => n - (intOf i).toNat)
  case atStart => exact ⟨0, Nat.zero_le _, rfl, by simp, Below.refl _ _⟩
  case round =>
    obtain ⟨j, hj, rfl, rfl, hB⟩ := hrel
    by_cases hlt : j < n
    · obtain ⟨g, o, rfl, hg, hc0, hc1, hc2⟩ := h.at hlt
      rw [marksIm_getD hlt] at hc0 hc1 hc2
      unfold mkIm at hc0 hc1 hc2
      dsimp only at hc0 hc1 hc2
      have HC : Hid (∀ u, Below w.heap.size w u → u.cell? ⟨g, o + j * 3, none⟩ = some (.string (mkt (k0 + 3 * j))) ∧ u.cell? ⟨g, o + j * 3 + 1, none⟩ = some (.int .i64 ((k0 : Int) + 3 * (j : Int) + 1)) ∧ u.cell? ⟨g, o + j * 3 + 2, none⟩ = some (.string (mkt (k0 + 3 * j + 2)))) := Lib.hid (fun u hb => ⟨(hb.cell (p := ⟨g, o + j * 3, none⟩) hg).trans hc0, (hb.cell (p := ⟨g, o + j * 3 + 1, none⟩) hg).trans hc1, (hb.cell (p := ⟨g, o + j * 3 + 2, none⟩) hg).trans hc2⟩)
      have HMT0 : Hid (∀ (r : Int) (u : World), r = (k0 : Int) + 3 * (j : Int) → Calls Tryz.prog 48 #[.int .i64 r] u fun e w' => e = .returned (.string (mkt (k0 + 3 * j))) ∧ Below u.heap.size u w') := Lib.hid (fun r u hr => by
        have hm := markText_any (k0 + 3 * j) (w := u) (by omega) (by omega)
        rwa [show ((k0 + 3 * j : Nat) : Int) = r by omega] at hm)
      have HMT2 : Hid (∀ (r : Int) (u : World), r = (k0 : Int) + 3 * (j : Int) + 1 + 1 → Calls Tryz.prog 48 #[.int .i64 r] u fun e w' => e = .returned (.string (mkt (k0 + 3 * j + 2))) ∧ Below u.heap.size u w') := Lib.hid (fun r u hr => by
        have hm := markText_any (k0 + 3 * j + 2) (w := u) (by omega) (by omega)
        rwa [show ((k0 + 3 * j + 2 : Nat) : Int) = r by omega] at hm)
      generalize mkt (k0 + 3 * j) = t0 at *
      generalize mkt (k0 + 3 * j + 2) = t2 at *
      clear hc0 hc1 hc2 h
      have hFn := hB
      go_wp2_with fail
      replace hFn := hFn.drew
      go_region_held3 (fun u => u.cell? ⟨g, o + j * 3, none⟩ = some (.string t0)) (exact (HC.out _ hFn).1)
        (first | (go_at_call 48; refine Calls.mono (HMT0.out _ _ rfl) ?_; rintro e w1 ⟨rfl, hb⟩; have hFn := hFn.trans (hb.mono hFn.size)))
      all_goals
        obtain ⟨c0, c1, c2⟩ := HC.out _ hFn
        clear c0 c2
        go_wp2_with fail
        clear c1
        replace hFn := hFn.drew
        go_region_held3 (fun u => u.cell? ⟨g, o + j * 3 + 2, none⟩ = some (.string t2)) (exact (HC.out _ hFn).2.2)
          (first | (go_at_call 48; refine Calls.mono (HMT2.out _ _ rfl) ?_; rintro e w1 ⟨rfl, hb⟩; have hFn := hFn.trans (hb.mono hFn.size)))
        all_goals
          go_wp2_with fail
          go_roundw
          case rel => exact ⟨j + 1, by omega, by go_num, by go_num, hFn⟩
          case measure => simp [intOf] <;> omega
    · obtain rfl : j = n := by omega
      have HB := Lib.hid hB
      clear hB h
      go_wp2_with fail
      go_ret
      exact ⟨rfl, HB.out⟩
end Go.Proofs.YtnoefpkhbllmiaaGreatDoor
namespace Go.Proofs.YtnoefpkhbllmiaaGreatDoor
open Go.RowKit Go.PlainAid G MGF IRow
set_option linter.unusedVariables false
/-- A deed. -/
structure Dd where
  kd : Int
  gn : Int
  nd : Int
  mn : Int
  ck : Int
  no : Int
  lk : ByteArray
  nm : ByteArray
  tm : Int
  bd : ByteArray
def ddD : Dd := ⟨0, 0, 0, 0, 0, 0, ByteArray.empty, ByteArray.empty, 0, ByteArray.empty⟩
/-- A deed in memory. -/
def ddE : Enc Dd := ⟨10, fun e => [.int .i64 e.kd, .int .i64 e.gn, .int .i64 e.nd, .int .i64 e.mn, .int .i64 e.ck, .int .i64 e.no, .string e.lk, .string e.nm, .int .i64 e.tm, .string e.bd], fun _ => rfl, by intro x v hv; simp at hv; rcases hv with rfl | rfl | rfl | rfl | rfl | rfl | rfl | rfl | rfl | rfl <;> rfl⟩
theorem eqConf_same (q0 q1 q2 q3 : Int) (w : World) :
    Calls Tryz.prog 25 #[.agg #[.int .i64 q0, .int .i64 q1, .int .i64 q2, .int .i64 q3], .agg #[.int .i64 q0, .int .i64 q1, .int .i64 q2, .int .i64 q3]] w fun e w' => e = .returned (.bool true) ∧ Below w.heap.size w w' := by
  go_enter Tryz.func25, Tryz.ntmps25
  go_wp2_with fail
  go_ret
  exact ⟨rfl, ((Below.refl _ _).alloc (Nat.le_refl _) _).alloc (by simp) _⟩
set_option maxRecDepth 100000 in
theorem eqDeed_same (q0 q1 q2 q3 q4 q5 : Int) (q6 q7 : ByteArray) (q8 : Int) (q9 : ByteArray) (w : World) :
    Calls Tryz.prog 47 #[.agg #[.int .i64 q0, .int .i64 q1, .int .i64 q2, .int .i64 q3, .int .i64 q4, .int .i64 q5, .string q6, .string q7, .int .i64 q8, .string q9], .agg #[.int .i64 q0, .int .i64 q1, .int .i64 q2, .int .i64 q3, .int .i64 q4, .int .i64 q5, .string q6, .string q7, .int .i64 q8, .string q9]] w fun e w' => e = .returned (.bool true) ∧ Below w.heap.size w w' := by
  obtain ⟨W, hW⟩ : ∃ W, W = (w.alloc (.cells #[.int .i64 q0, .int .i64 q1, .int .i64 q2, .int .i64 q3, .int .i64 q4, .int .i64 q5, .string q6, .string q7, .int .i64 q8, .string q9] 71)).alloc (.cells #[.int .i64 q0, .int .i64 q1, .int .i64 q2, .int .i64 q3, .int .i64 q4, .int .i64 q5, .string q6, .string q7, .int .i64 q8, .string q9] 71) := ⟨_, rfl⟩
  have hb0 : Below w.heap.size w W := by rw [hW]; repeat' (first | exact Below.refl _ _ | refine Below.alloc ?_ (by first | exact Nat.le_refl _ | (simp; done) | (simp; omega)) _)
  have hA : BoxC W w.heap.size [.int .i64 q0, .int .i64 q1, .int .i64 q2, .int .i64 q3, .int .i64 q4, .int .i64 q5, .string q6, .string q7, .int .i64 q8, .string q9] := by rw [hW]; exact (BoxC.made _ _ _).alloc _
  have hB : BoxC W (w.heap.size + 1) [.int .i64 q0, .int .i64 q1, .int .i64 q2, .int .i64 q3, .int .i64 q4, .int .i64 q5, .string q6, .string q7, .int .i64 q8, .string q9] := by rw [hW]; have := BoxC.made (w.alloc (.cells #[.int .i64 q0, .int .i64 q1, .int .i64 q2, .int .i64 q3, .int .i64 q4, .int .i64 q5, .string q6, .string q7, .int .i64 q8, .string q9] 71)) #[.int .i64 q0, .int .i64 q1, .int .i64 q2, .int .i64 q3, .int .i64 q4, .int .i64 q5, .string q6, .string q7, .int .i64 q8, .string q9] 71; rwa [World.size_alloc] at this
  go_enter Tryz.func47, Tryz.ntmps47
  go_wp2_with fail
  rw [← hW]
  clear hW
  refine (eqConf_same q1 q2 q3 q4 _).mono ?_
  rintro e w1 ⟨rfl, hb⟩
  have hAw1 := hA.below hb
  have hBw1 := hB.below hb
  have hbw1 := hb0.trans (hb.mono hb0.size)
  clear hb hA hB hb0
  have a5 := hAw1.cell 5 _ rfl
  have b5 := hBw1.cell 5 _ rfl
  have a6 := hAw1.cell 6 _ rfl
  have b6 := hBw1.cell 6 _ rfl
  have HA := Lib.hid hAw1
  have HB := Lib.hid hBw1
  have HW := Lib.hid hbw1
  clear hAw1 hBw1 hbw1
  go_wp2_with fail
  have hA := HA.out
  have hB := HB.out
  have hb0 := HW.out
  clear HA HB HW a5 b5 a6 b6
  refine (eqTerm_same q5 q6 _).mono ?_
  rintro e w2 ⟨rfl, hb⟩
  have hAw2 := hA.below hb
  have hBw2 := hB.below hb
  have hbw2 := hb0.trans (hb.mono hb0.size)
  clear hb hA hB hb0
  have a7 := hAw2.cell 7 _ rfl
  have b7 := hBw2.cell 7 _ rfl
  have a8 := hAw2.cell 8 _ rfl
  have b8 := hBw2.cell 8 _ rfl
  have a9 := hAw2.cell 9 _ rfl
  have b9 := hBw2.cell 9 _ rfl
  have HA := Lib.hid hAw2
  have HB := Lib.hid hBw2
  have HW := Lib.hid hbw2
  clear hAw2 hBw2 hbw2
  go_wp2_with fail
  have hA := HA.out
  have hB := HB.out
  have hb0 := HW.out
  clear HA HB HW a7 b7 a8 b8 a9 b9
  refine (eqItem_same q7 q8 q9 _).mono ?_
  rintro e w3 ⟨rfl, hb⟩
  have hAw3 := hA.below hb
  have hBw3 := hB.below hb
  have hbw3 := hb0.trans (hb.mono hb0.size)
  clear hb hA hB hb0
  have HA := Lib.hid hAw3
  have HB := Lib.hid hBw3
  have HW := Lib.hid hbw3
  clear hAw3 hBw3 hbw3
  go_wp2_with fail
  go_ret
  exact ⟨rfl, HW.out⟩
end Go.Proofs.YtnoefpkhbllmiaaGreatDoor
