/- Rows of terms: an element by its cells; what the laws' own functions on such rows answer. -/
import Derived.Test.YtnoefpkhbllmiaaGreatRowKit
namespace Go.Proofs.YtnoefpkhbllmiaaGreat
open Go.RowKit Go.PlainAid G MGF IRow
set_option linter.unusedVariables false
/-- A term. -/
structure Tm where
  no : Int
  lk : ByteArray
def tmD : Tm := ⟨0, ByteArray.empty⟩
/-- A term in memory. -/
def tmE : Enc Tm := ⟨2, fun e => [.int .i64 e.no, .string e.lk], fun _ => rfl, by intro x v hv; simp at hv; rcases hv with rfl | rfl <;> rfl⟩
set_option maxRecDepth 100000 in
theorem toTerm_any (q0 : Int) (q1 : ByteArray) (w : World) :
    Calls Tryz.prog 26 #[.agg #[.int .i64 q0, .string q1]] w fun e w' => e = .returned (.agg #[.int .i64 q0, .string q1]) ∧ Below w.heap.size w w' := by
  go_enter Tryz.func26, Tryz.ntmps26
  go_wp2_with fail
  exact bodyPost_ret (v := .agg #[.int .i64 q0, .string q1]) (by simp [results, Tryz.results26, go_sem]) rfl ⟨rfl, by repeat' (first | exact Below.refl _ _ | refine Below.alloc ?_ (by first | exact Nat.le_refl _ | (simp; done) | (simp; omega)) _ | refine Below.setCell ?_ (by first | exact Nat.le_refl _ | (simp; done) | (simp; omega)) _)⟩
theorem eqTerm_same (q0 : Int) (q1 : ByteArray) (w : World) :
    Calls Tryz.prog 52 #[.agg #[.int .i64 q0, .string q1], .agg #[.int .i64 q0, .string q1]] w fun e w' => e = .returned (.bool true) ∧ Below w.heap.size w w' := by
  go_enter Tryz.func52, Tryz.ntmps52
  go_wp2_with fail
  go_ret
  exact ⟨rfl, ((Below.refl _ _).alloc (Nat.le_refl _) _).alloc (by simp) _⟩
theorem szTerm_any (q0 : Int) (q1 : ByteArray) (left : Int) (w : World) (hq1 : q1.size ≤ maxLen) (h0 : 0 ≤ left) (h1 : left ≤ 1048576) :
    Calls Tryz.prog 17 #[.agg #[.int .i64 q0, .string q1], .int .i64 left] w fun e w' => ∃ r : Int, e = .returned (.int .i64 r) ∧ (r = -1 ∨ (0 ≤ r ∧ r ≤ left ∧ q1.size ≤ 1048576)) ∧ Below w.heap.size w w' := by
  unfold maxLen at hq1
  have HB : Hid (Below w.heap.size w (w.alloc (.cells #[.int .i64 q0, .string q1] 29))) := Lib.hid ((Below.refl _ _).alloc (Nat.le_refl _) _)
  have hw0 : IntKind.i64.wrap (left - (q1.size : Int)) = left - (q1.size : Int) := by rw [IntWalk.i64_in _ (by omega)]
  by_cases c0 : left - (q1.size : Int) < 0
  · go_enter Tryz.func17, Tryz.ntmps17
    go_wp2_with fail
    go_ret
    exact ⟨-1, rfl, .inl rfl, HB.out⟩
  · skip
    go_enter Tryz.func17, Tryz.ntmps17
    go_wp2_with fail
    go_ret
    exact ⟨_, rfl, .inr ⟨by omega, by omega, by omega⟩, HB.out⟩
/-- A row of terms that can be read. -/
abbrev TmR (w : World) (a : Option Addr) (n cap : Nat) (l : List Tm) : Prop := SR tmE tmD w a n cap l
theorem TmR.at {w : World} {a : Option Addr} {n cap : Nat} {l : List Tm} (h : TmR w a n cap l) {i : Nat} (hi : i < n) : ∃ g o, a = some ⟨g, o, none⟩ ∧ g < w.heap.size ∧ w.cell? ⟨g, o + i * 2, none⟩ = some (.int .i64 (l.getD i tmD).no) ∧ w.cell? ⟨g, o + i * 2 + 1, none⟩ = some (.string (l.getD i tmD).lk) := by
  obtain ⟨g, o, ha, hg, hc⟩ := h.cells (by omega)
  exact ⟨g, o, ha, hg, hc i hi 0 _ rfl, hc i hi 1 _ rfl⟩
theorem TmR.own {w : World} {base n cap : Nat} {a : Option Addr} {e : TypeId} {l : List Tm} (h : w.ownsRow base e tmE.k (.slice a n cap) n (tmE.flat l)) : TmR w a n cap l := SR.own (by decide) h
theorem TmR.olen {w : World} {base n cap : Nat} {a : Option Addr} {e : TypeId} {l : List Tm} (h : w.ownsRow base e tmE.k (.slice a n cap) n (tmE.flat l)) : l.length = n := by
  have := h.1; rw [tmE.flat_length] at this; exact Nat.eq_of_mul_eq_mul_right (show 0 < tmE.k by decide) this
theorem infoTerm : (Tryz.prog.info? 45).map (fun i => (i.zero, i.size, i.bytes)) = some (some (.agg #[.int .i64 0, .string ByteArray.empty]), 2, 24) := by kernel_rfl
theorem TmR.set0 {w : World} {base g n cap : Nat} {e : TypeId} {ps : List Tm} (h : w.ownsRow base e tmE.k (.slice (some ⟨g, 0, none⟩) n cap) n (tmE.flat ps)) {i : Nat} (hi : i < n) (v : Int) :
    (w.setCell ⟨g, i * 2, none⟩ (.int .i64 v)).ownsRow base e tmE.k (.slice (some ⟨g, 0, none⟩) n cap) n (tmE.flat (ps.set i ⟨v, (ps.getD i tmD).lk⟩)) ∧ w.grownBy (w.setCell ⟨g, i * 2, none⟩ (.int .i64 v)) (some g) := by
  have hl := TmR.olen h
  obtain ⟨h1, g1⟩ := h.stored (i * 2) (.int .i64 v)
  have e1 : (tmE.flat ps).set (i * 2) (.int .i64 v) = tmE.flat (ps.set i ⟨v, (ps.getD i tmD).lk⟩) := flat_setX tmE tmD ps i 0 _ _ (by omega) (by decide) rfl
  rw [e1] at h1
  exact ⟨h1, g1⟩
theorem TmR.set1 {w : World} {base g n cap : Nat} {e : TypeId} {ps : List Tm} (h : w.ownsRow base e tmE.k (.slice (some ⟨g, 0, none⟩) n cap) n (tmE.flat ps)) {i : Nat} (hi : i < n) (v : ByteArray) :
    (w.setCell ⟨g, i * 2 + 1, none⟩ (.string v)).ownsRow base e tmE.k (.slice (some ⟨g, 0, none⟩) n cap) n (tmE.flat (ps.set i ⟨(ps.getD i tmD).no, v⟩)) ∧ w.grownBy (w.setCell ⟨g, i * 2 + 1, none⟩ (.string v)) (some g) := by
  have hl := TmR.olen h
  obtain ⟨h1, g1⟩ := h.stored (i * 2 + 1) (.string v)
  have e1 : (tmE.flat ps).set (i * 2 + 1) (.string v) = tmE.flat (ps.set i ⟨(ps.getD i tmD).no, v⟩) := flat_setX tmE tmD ps i 1 _ _ (by omega) (by decide) rfl
  rw [e1] at h1
  exact ⟨h1, g1⟩
theorem TmR.stored {w : World} {base g n cap : Nat} {e : TypeId} {ps : List Tm} (h : w.ownsRow base e tmE.k (.slice (some ⟨g, 0, none⟩) n cap) n (tmE.flat ps)) {i : Nat} (hi : i < n) (q0 : Int) (q1 : ByteArray) :
    ((w.setCell ⟨g, i * 2, none⟩ (.int .i64 q0)).setCell ⟨g, i * 2 + 1, none⟩ (.string q1)).ownsRow base e tmE.k (.slice (some ⟨g, 0, none⟩) n cap) n (tmE.flat (ps.set i ⟨q0, q1⟩)) ∧ w.grownBy ((w.setCell ⟨g, i * 2, none⟩ (.int .i64 q0)).setCell ⟨g, i * 2 + 1, none⟩ (.string q1)) (some g) := by
  have hl := TmR.olen h
  have gd : ∀ (p q : Tm), ((ps.set i p).set i q) = ps.set i q := fun p q => by rw [List.set_set]
  have ge : ∀ p : Tm, (ps.set i p).getD i tmD = p := fun p => by simp [List.getD, show i < ps.length by omega]
  have h0 := TmR.set0 h hi q0
  have h1 := TmR.set1 h0.1 hi q1
  rw [gd, ge] at h1
  exact ⟨h1.1, (grown_trans h0.2 h1.2)⟩
set_option maxRecDepth 100000 in
set_option maxHeartbeats 1600000 in
theorem eqTermS_same (a b : Option Addr) (n cap cbp : Nat) (l : List Tm) (w : World) (h : TmR w a n cap l) (k : TmR w b n cbp l) (hn : n ≤ 1048576) :
    Calls Tryz.prog 32 #[.slice a n cap, .slice b n cbp] w fun e w' => e = .returned (.bool true) ∧ Below w.heap.size w w' := by
  go_enter Tryz.func32, Tryz.ntmps32
  go_wp2_with fail
  go_loopw [5] (fun i wr => ∃ j : Nat, j ≤ n ∧ i = .int .i64 j ∧ Below w.heap.size w wr) (fun i _ => n - (intOf i).toNat)
  case atStart => exact ⟨0, Nat.zero_le _, rfl, Below.refl _ _⟩
  case round =>
    obtain ⟨j, hj, rfl, hB⟩ := hrel
    have HB := Lib.hid hB.drew
    by_cases hlt : j < n
    · obtain ⟨g, o, rfl, hg, hc0, hc1⟩ := h.at hlt
      obtain ⟨g', o', rfl, hg', hd0, hd1⟩ := k.at hlt
      have a0 := (hB.cell (p := ⟨g, o + j * 2, none⟩) hg).trans hc0
      have a1 := (hB.cell (p := ⟨g, o + j * 2 + 1, none⟩) hg).trans hc1
      have b0 := (hB.cell (p := ⟨g', o' + j * 2, none⟩) hg').trans hd0
      have b1 := (hB.cell (p := ⟨g', o' + j * 2 + 1, none⟩) hg').trans hd1
      generalize (l.getD j tmD).no = q0 at *
      generalize (l.getD j tmD).lk = q1 at *
      clear hc0 hc1 hd0 hd1 h k hB
      go_wp2_with fail
      go_still_tail 8, (by kernel_rfl)
      change wpList _ _ _ _ _ wr.drew
      clear a0 a1 b0 b1
      generalize wr.drew = we at *
      go_wp2_with fail
      refine (eqTerm_same q0 q1 _).mono ?_
      rintro e w5 ⟨rfl, hb⟩
      have HB5 := Lib.hid (HB.out.trans (hb.mono HB.out.size))
      clear hb
      go_wp2_with fail
      go_roundw
      case rel => exact ⟨j + 1, by omega, by go_num, HB5.out⟩
      case measure => simp [intOf] <;> omega
    · obtain rfl : j = n := by omega
      have HB2 := Lib.hid hB
      clear h k hB
      go_wp2_with fail
      go_ret
      exact ⟨rfl, HB2.out⟩
set_option maxRecDepth 100000 in
set_option maxHeartbeats 3200000 in
theorem toTermS_any (a : Option Addr) (n cap : Nat) (ps : List Tm) (w : World) (h : TmR w a n cap ps) (hn : n ≤ 1048576) :
    Calls Tryz.prog 24 #[.slice a n cap] w fun e w' => ∃ a' cap', e = .returned (.slice a' n cap') ∧ w'.ownsRow w.heap.size 45 tmE.k (.slice a' n cap') n (tmE.flat ps) ∧ Below w.heap.size w w' := by
  obtain ⟨i0, hi, hz0, hz1, hz2⟩ := info_parts infoTerm
  have hl := h.len
  go_enter Tryz.func24, Tryz.ntmps24
  go_wp2_with (at_make; refine wpList_make_full _ rfl (.tmp 6) (.tmp 6) 37 rfl w.heap.size 45 i0 (.agg #[.int .i64 0, .string ByteArray.empty]) 2 Tryz.underlying37 hi hz0 hz1 .i64 .i64 _ _ n rfl rfl rfl rfl (by rw [hz2]; omega) (by unfold maxLen; omega) (Nat.le_refl _) ?_; intro w4 hown4 hg4; rw [show (madeCells (Value.agg #[Value.int .i64 0, Value.string ByteArray.empty]).cells (n * 2)).toList = tmE.flat (List.replicate n tmD) from made_enc tmE tmD n rfl (by decide)] at hown4)
  have HB4 : Hid (Below w.heap.size w w4) := Lib.hid ((Below.refl _ w).grown hg4 (Nat.le_refl _) (fun k hk => by cases hk))
  have HO4 : Hid (w4.ownsRow w.heap.size 45 tmE.k (.slice (some ⟨w.heap.size, 0, none⟩) n n) n (tmE.flat (List.replicate n tmD))) := Lib.hid hown4
  clear hg4 hown4
  go_loopw [4] (fun i wr => ∃ k : Nat, k ≤ n ∧ i = .int .i64 k ∧ wr.ownsRow w.heap.size 45 tmE.k (.slice (some ⟨w.heap.size, 0, none⟩) n n) n (tmE.flat (mixX ps (List.replicate n tmD) k)) ∧ Below w.heap.size w wr) (fun i _ => n - (intOf i).toNat)
  case atStart => exact ⟨0, Nat.zero_le _, rfl, by rw [mixX_zero]; exact HO4.out, HB4.out⟩
  case round =>
    obtain ⟨k, hk, rfl, hown, hB⟩ := hrel
    by_cases hlt : k < n
    · obtain ⟨g, o, rfl, hg, hc0, hc1⟩ := h.at hlt
      have a0 := (hB.cell (p := ⟨g, o + k * 2, none⟩) hg).trans hc0
      have a1 := (hB.cell (p := ⟨g, o + k * 2 + 1, none⟩) hg).trans hc1
      have HO := Lib.hid hown
      have HB := Lib.hid hB
      have HM := Lib.hid (mixX_set tmD (zs := ps) (ys := List.replicate n tmD) (k := k) (by rw [List.length_replicate, hl]) (by omega))
      have hpe : ps.getD k tmD = ⟨(ps.getD k tmD).no, (ps.getD k tmD).lk⟩ := rfl
      rw [hpe] at HM
      generalize (ps.getD k tmD).no = q0 at *
      generalize (ps.getD k tmD).lk = q1 at *
      clear hown hB hc0 hc1 hpe HB4
      go_wp2_with fail
      refine (toTerm_any q0 q1 _).mono ?_
      rintro e w5 ⟨rfl, hb⟩
      have hown := own_below HO.out hb
      have hB := HB.out.trans (hb.mono HB.out.size)
      have hs := TmR.stored hown hlt q0 q1
      rw [HM.out] at hs
      have HS := Lib.hid hs.1
      have HB5 := Lib.hid ((hB.setCell (Nat.le_refl _) (p := ⟨w.heap.size, k * 2, none⟩) (.int .i64 q0)).setCell (Nat.le_refl _) (p := ⟨w.heap.size, k * 2 + 1, none⟩) (.string q1))
      obtain ⟨g', o', hge, _, hd0, hd1⟩ := (TmR.own hown).at hlt
      simp only [Option.some.injEq, Addr.mk.injEq, and_true] at hge
      obtain ⟨rfl, rfl⟩ := hge
      rw [Nat.zero_add] at hd0 hd1
      have f0 := hown.frozenAt (k * 2)
      have f1 := hown.frozenAt (k * 2 + 1)
      clear hs hown hB hb HO HB HM a0 a1
      go_wp2_with fail
      go_roundw
      case rel => exact ⟨k + 1, by omega, by go_num, HS.out, HB5.out⟩
      case measure => simp [intOf] <;> omega
    · obtain rfl : k = n := by omega
      have hm : mixX ps (List.replicate k tmD) k = ps := by rw [← hl]; exact mixX_all (by simp)
      rw [hm] at hown
      have HO := Lib.hid hown
      have HB := Lib.hid hB
      clear hown hB
      go_wp2_with fail
      go_ret
      exact ⟨_, _, rfl, HO.out, HB.out⟩
/-- What is left of a size; or too much. -/
def LeftTerm (n : Nat) (l : List Tm) (left : Int) (w : World) (e : Ending) (w' : World) : Prop :=
  ∃ r : Int, e = .returned (.int .i64 r) ∧ ((r = -1) ∨ (0 ≤ r ∧ r ≤ left ∧ n ≤ 1048576 ∧ ∀ t, t < n → (l.getD t tmD).lk.size ≤ 1048576)) ∧ Below w.heap.size w w'
set_option maxRecDepth 100000 in
set_option maxHeartbeats 1600000 in
theorem szTermS_any (a : Option Addr) (n cap : Nat) (l : List Tm) (left : Int) (w : World) (h : TmR w a n cap l) (hn : n ≤ 9223372036854775807) (hs : ∀ t, t < n → (l.getD t tmD).lk.size ≤ maxLen) (hl0 : 0 ≤ left) (hl1 : left ≤ 1048576) :
    Calls Tryz.prog 15 #[.slice a n cap, .int .i64 left] w (LeftTerm n l left w) := by
  have hw : IntKind.i64.wrap (left - (n : Int)) = left - (n : Int) := by rw [IntWalk.i64_in _ (by omega)]
  have HS := Lib.hid hs
  clear hs
  by_cases hn1 : (n : Int) ≤ left
  · have h2 : ¬ left - (n : Int) < 0 := by omega
    have hn2 : n ≤ 1048576 := by omega
    go_enter Tryz.func15, Tryz.ntmps15
    go_wp2_with fail
    go_loopw [1, 5] (fun q i wr => ∃ (j : Nat) (r : Int), j ≤ n ∧ i = .int .i64 j ∧ q = .int .i64 r ∧ 0 ≤ r ∧ r ≤ left ∧ Hid (∀ t, t < j → (l.getD t tmD).lk.size ≤ 1048576) ∧ Below w.heap.size w wr) (fun _ i _ => n - (intOf i).toNat)
    case atStart => exact ⟨0, _, Nat.zero_le _, rfl, rfl, by omega, by omega, Lib.hid (fun t ht => absurd ht (by omega)), Below.refl _ _⟩
    case round =>
      obtain ⟨j, r, hj, rfl, rfl, hr0, hr1, HA, hB⟩ := hrel
      by_cases hlt : j < n
      · obtain ⟨g, o, rfl, hg, hc0, hc1⟩ := h.at hlt
        have a0 := (hB.cell (p := ⟨g, o + j * 2, none⟩) hg).trans hc0
        have a1 := (hB.cell (p := ⟨g, o + j * 2 + 1, none⟩) hg).trans hc1
        have hsj := HS.out j hlt
        have HA2 : Hid (((l.getD j tmD).lk.size ≤ 1048576) → ∀ t, t < j + 1 → (l.getD t tmD).lk.size ≤ 1048576) := Lib.hid (fun hx t ht => by
          by_cases e : t = j
          · rw [e]; exact hx
          · exact HA.out t (by omega))
        have HB := Lib.hid hB
        generalize (l.getD j tmD).no = q0 at *
        generalize (l.getD j tmD).lk = q1 at *
        clear hc0 hc1 hB
        go_wp2_with fail
        refine (szTerm_any q0 q1 r _ hsj hr0 (by omega)).mono ?_
        rintro e w5 ⟨r', rfl, hr, hb⟩
        have HB5 := Lib.hid (HB.out.trans (hb.mono HB.out.size))
        clear hb a0 a1
        rcases hr with rfl | ⟨hp0, hp1, hps⟩
        · go_wp2_with fail
          go_ret
          exact ⟨-1, rfl, .inl rfl, HB5.out⟩
        · have hnn : ¬ r' < 0 := by omega
          have HA3 := Lib.hid (HA2.out hps)
          clear hps
          go_wp2_with fail
          go_roundw
          case rel => exact ⟨j + 1, r', by omega, by go_num, rfl, hp0, by omega, HA3, HB5.out⟩
          case measure => simp [intOf] <;> omega
      · obtain rfl : j = n := by omega
        have HB := Lib.hid hB
        clear hB
        go_wp2_with fail
        go_ret
        exact ⟨r, rfl, .inr ⟨hr0, hr1, hn2, HA.out⟩, HB.out⟩
  · have h2 : left - (n : Int) < 0 := by omega
    go_enter Tryz.func15, Tryz.ntmps15
    go_wp2_with fail
    go_ret
    exact ⟨-1, rfl, .inl rfl, Below.refl _ _⟩
/-- The j-th marks. -/
def mkTm (k j : Nat) : Tm := ⟨(k : Int) + 2 * (j : Int), mkt (k + 2 * j + 1)⟩
def marksTm (k n : Nat) : List Tm := (List.range n).map (mkTm k)
theorem marksTm_length (k n : Nat) : (marksTm k n).length = n := by simp [marksTm]
theorem marksTm_getD {k n j : Nat} (h : j < n) : (marksTm k n).getD j tmD = mkTm k j := by simp [marksTm, List.getD, h]
set_option maxRecDepth 100000 in
set_option maxHeartbeats 6400000 in
theorem markTermS_any (a : Option Addr) (base n cap : Nat) (zs : List Tm) (k0 : Nat) (w : World) (h : w.ownsRow base 45 tmE.k (.slice a n cap) n (tmE.flat zs)) (hn : n ≤ 1048576) (hk0 : 0 < k0) (hk1 : k0 ≤ 1099511627776) :
    Calls Tryz.prog 34 #[.slice a n cap, .int .i64 (k0 : Int)] w fun e w' => e = .returned (.int .i64 ((k0 : Int) + 2 * (n : Int))) ∧ w'.ownsRow base 45 tmE.k (.slice a n cap) n (tmE.flat (marksTm k0 n)) ∧ w.grownBy w' (Value.slice a n cap).ownBlock := by
  have hl := TmR.olen h
  have HML := Lib.hid (marksTm_length k0 n)
  have HZL := Lib.hid hl
  clear hl
  go_enter Tryz.func34, Tryz.ntmps34
  go_wp2_with fail
  go_loopw [1, 5] (fun k i wr => ∃ j : Nat, j ≤ n ∧ i = .int .i64 j ∧ k = .int .i64 ((k0 : Int) + 2 * (j : Int)) ∧ wr.ownsRow base 45 tmE.k (.slice a n cap) n (tmE.flat (mixX (marksTm k0 n) zs j)) ∧ w.grownBy wr (Value.slice a n cap).ownBlock) (fun _ i _ => n - (intOf i).toNat)
  case atStart => exact ⟨0, Nat.zero_le _, rfl, by simp, by rw [mixX_zero]; exact h, ⟨rfl, rfl, rfl, Nat.le_refl _, fun _ _ _ => rfl⟩⟩
  case round =>
    obtain ⟨j, hj, rfl, rfl, hown, hg⟩ := hrel
    by_cases hlt : j < n
    · obtain ⟨g, c, hv, _, hgl⟩ := hown.form (by omega)
      simp only [Value.slice.injEq] at hv
      obtain ⟨rfl, _, rfl⟩ := hv
      have HMT1 : Hid (∀ (r : Int) (u : World), r = (k0 : Int) + 2 * (j : Int) + 1 → Calls Tryz.prog 54 #[.int .i64 r] u fun e w' => e = .returned (.string (mkt (k0 + 2 * j + 1))) ∧ Below u.heap.size u w') := Lib.hid (fun r u hr => by
        have hm := markText_any (k0 + 2 * j + 1) (w := u) (by omega) (by omega)
        rwa [show ((k0 + 2 * j + 1 : Nat) : Int) = r by omega] at hm)
      have HST := Lib.hid (mixX_set tmD (zs := marksTm k0 n) (ys := zs) (k := j) (by rw [HML.out, HZL.out]) (by rw [HML.out]; exact hlt))
      rw [marksTm_getD hlt] at HST
      have HMJ : Hid (j < (mixX (marksTm k0 n) zs j).length) := Lib.hid (by rw [mixX_length (by rw [HML.out, HZL.out]), HML.out]; exact hlt)
      have gd : ∀ (ps : List Tm) (p q : Tm), ((ps.set j p).set j q) = ps.set j q := fun ps p q => by rw [List.set_set]
      have ge : ∀ p : Tm, ((mixX (marksTm k0 n) zs j).set j p).getD j tmD = p := fun p => by simp [List.getD, HMJ.out]
      have GD := Lib.hid gd
      have GE := Lib.hid ge
      clear gd ge h
      have HO0 := Lib.hid hown
      have HG0 := Lib.hid hg
      clear hown hg
      obtain ⟨g', o', hge, _, x0, x1⟩ := (TmR.own HO0.out).at hlt
      simp only [Option.some.injEq, Addr.mk.injEq, and_true] at hge
      obtain ⟨rfl, rfl⟩ := hge
      rw [Nat.zero_add] at x0 x1
      have y0 := HO0.out.frozenAt (j * 2)
      clear x1
      have s0 := TmR.set0 HO0.out hlt ((k0 : Int) + 2 * (j : Int))
      have HO1 := Lib.hid s0.1
      have HG1 := Lib.hid (grown_trans HG0.out s0.2)
      clear s0
      go_wp2_with fail
      clear x0 y0
      refine (HMT1.out _ _ (by omega)).mono ?_
      rintro e w5 ⟨rfl, hb⟩
      have hown5 := own_below HO1.out hb
      have hg5 := grown_trans HG1.out (fg_below hb)
      clear hb HO1 HG1
      obtain ⟨g', o', hge, _, x0, x1⟩ := (TmR.own hown5).at hlt
      simp only [Option.some.injEq, Addr.mk.injEq, and_true] at hge
      obtain ⟨rfl, rfl⟩ := hge
      rw [Nat.zero_add] at x0 x1
      have y1 := hown5.frozenAt (j * 2 + 1)
      clear x0
      have s1 := TmR.set1 hown5 hlt (mkt (k0 + 2 * j + 1))
      rw [GD.out, GE.out] at s1
      have HO2 := Lib.hid s1.1
      have HG2 := Lib.hid (grown_trans hg5 s1.2)
      clear s1
      clear hown5 hg5
      go_wp2_with fail
      go_roundw
      case rel => exact ⟨j + 1, by omega, by go_num, by go_num, by rw [← HST.out]; exact HO2.out, HG2.out⟩
      case measure => simp [intOf] <;> omega
    · obtain rfl : j = n := by omega
      have hm : mixX (marksTm k0 j) zs j = marksTm k0 j := by
        have := mixX_all (zs := marksTm k0 j) (ys := zs) (by rw [HML.out, HZL.out])
        rwa [HML.out] at this
      rw [hm] at hown
      have HO := Lib.hid hown
      have HG := Lib.hid hg
      clear hown hg hm h
      go_wp2_with fail
      go_ret
      exact ⟨rfl, HO.out, HG.out⟩
set_option maxRecDepth 100000 in
set_option maxHeartbeats 6400000 in
theorem heldTermS_any (a : Option Addr) (n cap k0 : Nat) (w : World) (h : TmR w a n cap (marksTm k0 n)) (hn : n ≤ 1048576) (hk0 : 0 < k0) (hk1 : k0 ≤ 1099511627776) :
    Calls Tryz.prog 55 #[.slice a n cap, .int .i64 (k0 : Int)] w fun e w' => e = .returned (.int .i64 ((k0 : Int) + 2 * (n : Int))) ∧ Below w.heap.size w w' := by
  go_enter Tryz.func55, Tryz.ntmps55
  go_wp2_with fail
  go_loopw [1, 5] (fun k i wr => ∃ j : Nat, j ≤ n ∧ i = .int .i64 j ∧ k = .int .i64 ((k0 : Int) + 2 * (j : Int)) ∧ Below w.heap.size w wr) (fun _ i _ => n - (intOf i).toNat)
  case atStart => exact ⟨0, Nat.zero_le _, rfl, by simp, Below.refl _ _⟩
  case round =>
    obtain ⟨j, hj, rfl, rfl, hB⟩ := hrel
    by_cases hlt : j < n
    · obtain ⟨g, o, rfl, hg, hc0, hc1⟩ := h.at hlt
      rw [marksTm_getD hlt] at hc0 hc1
      unfold mkTm at hc0 hc1
      dsimp only at hc0 hc1
      have HC : Hid (∀ u, Below w.heap.size w u → u.cell? ⟨g, o + j * 2, none⟩ = some (.int .i64 ((k0 : Int) + 2 * (j : Int))) ∧ u.cell? ⟨g, o + j * 2 + 1, none⟩ = some (.string (mkt (k0 + 2 * j + 1)))) := Lib.hid (fun u hb => ⟨(hb.cell (p := ⟨g, o + j * 2, none⟩) hg).trans hc0, (hb.cell (p := ⟨g, o + j * 2 + 1, none⟩) hg).trans hc1⟩)
      have HMT1 : Hid (∀ (r : Int) (u : World), r = (k0 : Int) + 2 * (j : Int) + 1 → Calls Tryz.prog 54 #[.int .i64 r] u fun e w' => e = .returned (.string (mkt (k0 + 2 * j + 1))) ∧ Below u.heap.size u w') := Lib.hid (fun r u hr => by
        have hm := markText_any (k0 + 2 * j + 1) (w := u) (by omega) (by omega)
        rwa [show ((k0 + 2 * j + 1 : Nat) : Int) = r by omega] at hm)
      generalize mkt (k0 + 2 * j + 1) = t1 at *
      clear hc0 hc1 h
      have hFn := hB
      obtain ⟨c0, c1⟩ := HC.out _ hFn
      clear c1
      go_wp2_with fail
      clear c0
      replace hFn := hFn.drew
      go_region_held3 (fun u => u.cell? ⟨g, o + j * 2 + 1, none⟩ = some (.string t1)) (exact (HC.out _ hFn).2)
        (first | (go_at_call 54; refine Calls.mono (HMT1.out _ _ rfl) ?_; rintro e w1 ⟨rfl, hb⟩; have hFn := hFn.trans (hb.mono hFn.size)))
      all_goals
        go_wp2_with fail
        go_roundw
        case rel => exact ⟨j + 1, by omega, by go_num, by go_num, hFn⟩
        case measure => simp [intOf] <;> omega
    · obtain rfl : j = n := by omega
      have HB := Lib.hid hB
      clear hB h
      go_wp2_with fail
      go_ret
      exact ⟨rfl, HB.out⟩
end Go.Proofs.YtnoefpkhbllmiaaGreat
