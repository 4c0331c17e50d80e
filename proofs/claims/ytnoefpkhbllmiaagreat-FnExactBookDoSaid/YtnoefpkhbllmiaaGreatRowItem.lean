/- Rows of items: an element by its cells; what the laws' own functions on such rows answer. -/
import Derived.Test.YtnoefpkhbllmiaaGreatRowKit
namespace Go.Proofs.YtnoefpkhbllmiaaGreat
open Go.RowKit Go.PlainAid G MGF IRow
set_option linter.unusedVariables false
/-- A item. -/
structure Im where
  nm : ByteArray
  tm : Int
  bd : ByteArray
def imD : Im := ⟨ByteArray.empty, 0, ByteArray.empty⟩
/-- A item in memory. -/
def imE : Enc Im := ⟨3, fun e => [.string e.nm, .int .i64 e.tm, .string e.bd], fun _ => rfl, by intro x v hv; simp at hv; rcases hv with rfl | rfl | rfl <;> rfl⟩
set_option maxRecDepth 100000 in
theorem toItem_any (q0 : ByteArray) (q1 : Int) (q2 : ByteArray) (w : World) :
    Calls Tryz.prog 27 #[.agg #[.string q0, .int .i64 q1, .string q2]] w fun e w' => e = .returned (.agg #[.string q0, .int .i64 q1, .string q2]) ∧ Below w.heap.size w w' := by
  go_enter Tryz.func27, Tryz.ntmps27
  go_wp2_with fail
  exact bodyPost_ret (v := .agg #[.string q0, .int .i64 q1, .string q2]) (by simp [results, Tryz.results27, go_sem]) rfl ⟨rfl, by repeat' (first | exact Below.refl _ _ | refine Below.alloc ?_ (by first | exact Nat.le_refl _ | (simp; done) | (simp; omega)) _ | refine Below.setCell ?_ (by first | exact Nat.le_refl _ | (simp; done) | (simp; omega)) _)⟩
theorem eqItem_same (q0 : ByteArray) (q1 : Int) (q2 : ByteArray) (w : World) :
    Calls Tryz.prog 53 #[.agg #[.string q0, .int .i64 q1, .string q2], .agg #[.string q0, .int .i64 q1, .string q2]] w fun e w' => e = .returned (.bool true) ∧ Below w.heap.size w w' := by
  go_enter Tryz.func53, Tryz.ntmps53
  go_wp2_with fail
  go_ret
  exact ⟨rfl, ((Below.refl _ _).alloc (Nat.le_refl _) _).alloc (by simp) _⟩
theorem szItem_any (q0 : ByteArray) (q1 : Int) (q2 : ByteArray) (left : Int) (w : World) (hq0 : q0.size ≤ maxLen) (hq2 : q2.size ≤ maxLen) (h0 : 0 ≤ left) (h1 : left ≤ 1048576) :
    Calls Tryz.prog 18 #[.agg #[.string q0, .int .i64 q1, .string q2], .int .i64 left] w fun e w' => ∃ r : Int, e = .returned (.int .i64 r) ∧ (r = -1 ∨ (0 ≤ r ∧ r ≤ left ∧ q0.size ≤ 1048576 ∧ q2.size ≤ 1048576)) ∧ Below w.heap.size w w' := by
  unfold maxLen at hq0 hq2
  have HB : Hid (Below w.heap.size w (w.alloc (.cells #[.string q0, .int .i64 q1, .string q2] 31))) := Lib.hid ((Below.refl _ _).alloc (Nat.le_refl _) _)
  have hw0 : IntKind.i64.wrap (left - (q0.size : Int)) = left - (q0.size : Int) := by rw [IntWalk.i64_in _ (by omega)]
  by_cases c0 : left - (q0.size : Int) < 0
  · go_enter Tryz.func18, Tryz.ntmps18
    go_wp2_with fail
    go_ret
    exact ⟨-1, rfl, .inl rfl, HB.out⟩
  · skip
    have hw1 : IntKind.i64.wrap (left - (q0.size : Int) - (q2.size : Int)) = left - (q0.size : Int) - (q2.size : Int) := by rw [IntWalk.i64_in _ (by omega)]
    by_cases c1 : left - (q0.size : Int) - (q2.size : Int) < 0
    · go_enter Tryz.func18, Tryz.ntmps18
      go_wp2_with fail
      go_ret
      exact ⟨-1, rfl, .inl rfl, HB.out⟩
    · skip
      go_enter Tryz.func18, Tryz.ntmps18
      go_wp2_with fail
      go_ret
      exact ⟨_, rfl, .inr ⟨by omega, by omega, by omega, by omega⟩, HB.out⟩
/-- A row of items that can be read. -/
abbrev ImR (w : World) (a : Option Addr) (n cap : Nat) (l : List Im) : Prop := SR imE imD w a n cap l
theorem ImR.at {w : World} {a : Option Addr} {n cap : Nat} {l : List Im} (h : ImR w a n cap l) {i : Nat} (hi : i < n) : ∃ g o, a = some ⟨g, o, none⟩ ∧ g < w.heap.size ∧ w.cell? ⟨g, o + i * 3, none⟩ = some (.string (l.getD i imD).nm) ∧ w.cell? ⟨g, o + i * 3 + 1, none⟩ = some (.int .i64 (l.getD i imD).tm) ∧ w.cell? ⟨g, o + i * 3 + 2, none⟩ = some (.string (l.getD i imD).bd) := by
  obtain ⟨g, o, ha, hg, hc⟩ := h.cells (by omega)
  exact ⟨g, o, ha, hg, hc i hi 0 _ rfl, hc i hi 1 _ rfl, hc i hi 2 _ rfl⟩
theorem ImR.own {w : World} {base n cap : Nat} {a : Option Addr} {e : TypeId} {l : List Im} (h : w.ownsRow base e imE.k (.slice a n cap) n (imE.flat l)) : ImR w a n cap l := SR.own (by decide) h
theorem ImR.olen {w : World} {base n cap : Nat} {a : Option Addr} {e : TypeId} {l : List Im} (h : w.ownsRow base e imE.k (.slice a n cap) n (imE.flat l)) : l.length = n := by
  have := h.1; rw [imE.flat_length] at this; exact Nat.eq_of_mul_eq_mul_right (show 0 < imE.k by decide) this
theorem infoItem : (Tryz.prog.info? 46).map (fun i => (i.zero, i.size, i.bytes)) = some (some (.agg #[.string ByteArray.empty, .int .i64 0, .string ByteArray.empty]), 3, 40) := by kernel_rfl
theorem ImR.set0 {w : World} {base g n cap : Nat} {e : TypeId} {ps : List Im} (h : w.ownsRow base e imE.k (.slice (some ⟨g, 0, none⟩) n cap) n (imE.flat ps)) {i : Nat} (hi : i < n) (v : ByteArray) :
    (w.setCell ⟨g, i * 3, none⟩ (.string v)).ownsRow base e imE.k (.slice (some ⟨g, 0, none⟩) n cap) n (imE.flat (ps.set i ⟨v, (ps.getD i imD).tm, (ps.getD i imD).bd⟩)) ∧ w.grownBy (w.setCell ⟨g, i * 3, none⟩ (.string v)) (some g) := by
  have hl := ImR.olen h
  obtain ⟨h1, g1⟩ := h.stored (i * 3) (.string v)
  have e1 : (imE.flat ps).set (i * 3) (.string v) = imE.flat (ps.set i ⟨v, (ps.getD i imD).tm, (ps.getD i imD).bd⟩) := flat_setX imE imD ps i 0 _ _ (by omega) (by decide) rfl
  rw [e1] at h1
  exact ⟨h1, g1⟩
theorem ImR.set1 {w : World} {base g n cap : Nat} {e : TypeId} {ps : List Im} (h : w.ownsRow base e imE.k (.slice (some ⟨g, 0, none⟩) n cap) n (imE.flat ps)) {i : Nat} (hi : i < n) (v : Int) :
    (w.setCell ⟨g, i * 3 + 1, none⟩ (.int .i64 v)).ownsRow base e imE.k (.slice (some ⟨g, 0, none⟩) n cap) n (imE.flat (ps.set i ⟨(ps.getD i imD).nm, v, (ps.getD i imD).bd⟩)) ∧ w.grownBy (w.setCell ⟨g, i * 3 + 1, none⟩ (.int .i64 v)) (some g) := by
  have hl := ImR.olen h
  obtain ⟨h1, g1⟩ := h.stored (i * 3 + 1) (.int .i64 v)
  have e1 : (imE.flat ps).set (i * 3 + 1) (.int .i64 v) = imE.flat (ps.set i ⟨(ps.getD i imD).nm, v, (ps.getD i imD).bd⟩) := flat_setX imE imD ps i 1 _ _ (by omega) (by decide) rfl
  rw [e1] at h1
  exact ⟨h1, g1⟩
theorem ImR.set2 {w : World} {base g n cap : Nat} {e : TypeId} {ps : List Im} (h : w.ownsRow base e imE.k (.slice (some ⟨g, 0, none⟩) n cap) n (imE.flat ps)) {i : Nat} (hi : i < n) (v : ByteArray) :
    (w.setCell ⟨g, i * 3 + 2, none⟩ (.string v)).ownsRow base e imE.k (.slice (some ⟨g, 0, none⟩) n cap) n (imE.flat (ps.set i ⟨(ps.getD i imD).nm, (ps.getD i imD).tm, v⟩)) ∧ w.grownBy (w.setCell ⟨g, i * 3 + 2, none⟩ (.string v)) (some g) := by
  have hl := ImR.olen h
  obtain ⟨h1, g1⟩ := h.stored (i * 3 + 2) (.string v)
  have e1 : (imE.flat ps).set (i * 3 + 2) (.string v) = imE.flat (ps.set i ⟨(ps.getD i imD).nm, (ps.getD i imD).tm, v⟩) := flat_setX imE imD ps i 2 _ _ (by omega) (by decide) rfl
  rw [e1] at h1
  exact ⟨h1, g1⟩
theorem ImR.stored {w : World} {base g n cap : Nat} {e : TypeId} {ps : List Im} (h : w.ownsRow base e imE.k (.slice (some ⟨g, 0, none⟩) n cap) n (imE.flat ps)) {i : Nat} (hi : i < n) (q0 : ByteArray) (q1 : Int) (q2 : ByteArray) :
    (((w.setCell ⟨g, i * 3, none⟩ (.string q0)).setCell ⟨g, i * 3 + 1, none⟩ (.int .i64 q1)).setCell ⟨g, i * 3 + 2, none⟩ (.string q2)).ownsRow base e imE.k (.slice (some ⟨g, 0, none⟩) n cap) n (imE.flat (ps.set i ⟨q0, q1, q2⟩)) ∧ w.grownBy (((w.setCell ⟨g, i * 3, none⟩ (.string q0)).setCell ⟨g, i * 3 + 1, none⟩ (.int .i64 q1)).setCell ⟨g, i * 3 + 2, none⟩ (.string q2)) (some g) := by
  have hl := ImR.olen h
  have gd : ∀ (p q : Im), ((ps.set i p).set i q) = ps.set i q := fun p q => by rw [List.set_set]
  have ge : ∀ p : Im, (ps.set i p).getD i imD = p := fun p => by simp [List.getD, show i < ps.length by omega]
  have h0 := ImR.set0 h hi q0
  have h1 := ImR.set1 h0.1 hi q1
  rw [gd, ge] at h1
  have h2 := ImR.set2 h1.1 hi q2
  rw [gd, ge] at h2
  exact ⟨h2.1, (grown_trans (grown_trans h0.2 h1.2) h2.2)⟩
set_option maxRecDepth 100000 in
set_option maxHeartbeats 1600000 in
theorem eqItemS_same (a b : Option Addr) (n cap cbp : Nat) (l : List Im) (w : World) (h : ImR w a n cap l) (k : ImR w b n cbp l) (hn : n ≤ 1048576) :
    Calls Tryz.prog 33 #[.slice a n cap, .slice b n cbp] w fun e w' => e = .returned (.bool true) ∧ Below w.heap.size w w' := by
  go_enter Tryz.func33, Tryz.ntmps33
  go_wp2_with fail
  go_loopw [5] (fun i wr => ∃ j : Nat, j ≤ n ∧ i = .int .i64 j ∧ Below w.heap.size w wr) (fun i _ => n - (intOf i).toNat)
  case atStart => exact ⟨0, Nat.zero_le _, rfl, Below.refl _ _⟩
  case round =>
    obtain ⟨j, hj, rfl, hB⟩ := hrel
    have HB := Lib.hid hB.drew
    by_cases hlt : j < n
    · obtain ⟨g, o, rfl, hg, hc0, hc1, hc2⟩ := h.at hlt
      obtain ⟨g', o', rfl, hg', hd0, hd1, hd2⟩ := k.at hlt
      have a0 := (hB.cell (p := ⟨g, o + j * 3, none⟩) hg).trans hc0
      have a1 := (hB.cell (p := ⟨g, o + j * 3 + 1, none⟩) hg).trans hc1
      have a2 := (hB.cell (p := ⟨g, o + j * 3 + 2, none⟩) hg).trans hc2
      have b0 := (hB.cell (p := ⟨g', o' + j * 3, none⟩) hg').trans hd0
      have b1 := (hB.cell (p := ⟨g', o' + j * 3 + 1, none⟩) hg').trans hd1
      have b2 := (hB.cell (p := ⟨g', o' + j * 3 + 2, none⟩) hg').trans hd2
      generalize (l.getD j imD).nm = q0 at *
      generalize (l.getD j imD).tm = q1 at *
      generalize (l.getD j imD).bd = q2 at *
      clear hc0 hc1 hc2 hd0 hd1 hd2 h k hB
      go_wp2_with fail
      go_still_tail 8, (by kernel_rfl)
      change wpList _ _ _ _ _ wr.drew
      clear a0 a1 a2 b0 b1 b2
      generalize wr.drew = we at *
      go_wp2_with fail
      refine (eqItem_same q0 q1 q2 _).mono ?_
      rintro e w5 ⟨rfl, hb⟩
      have HB5 := Lib.hid (HB.out.trans (hb.mono HB.out.size))
      clear hb
      go_wp2_with fail
      go_roundw
      case rel => exact ⟨j + 1, by omega, by go_num, HB5.out⟩
      case measure => simp [intOf] <;> omega
    · obtain rfl : j = n := by omega
      have HB2 := Lib.hid hB
      clear h k hB
      go_wp2_with fail
      go_ret
      exact ⟨rfl, HB2.out⟩
set_option maxRecDepth 100000 in
set_option maxHeartbeats 3200000 in
theorem toItemS_any (a : Option Addr) (n cap : Nat) (ps : List Im) (w : World) (h : ImR w a n cap ps) (hn : n ≤ 1048576) :
    Calls Tryz.prog 25 #[.slice a n cap] w fun e w' => ∃ a' cap', e = .returned (.slice a' n cap') ∧ w'.ownsRow w.heap.size 46 imE.k (.slice a' n cap') n (imE.flat ps) ∧ Below w.heap.size w w' := by
  obtain ⟨i0, hi, hz0, hz1, hz2⟩ := info_parts infoItem
  have hl := h.len
  go_enter Tryz.func25, Tryz.ntmps25
  go_wp2_with (at_make; refine wpList_make_full _ rfl (.tmp 6) (.tmp 6) 38 rfl w.heap.size 46 i0 (.agg #[.string ByteArray.empty, .int .i64 0, .string ByteArray.empty]) 3 Tryz.underlying38 hi hz0 hz1 .i64 .i64 _ _ n rfl rfl rfl rfl (by rw [hz2]; omega) (by unfold maxLen; omega) (Nat.le_refl _) ?_; intro w4 hown4 hg4; rw [show (madeCells (Value.agg #[Value.string ByteArray.empty, Value.int .i64 0, Value.string ByteArray.empty]).cells (n * 3)).toList = imE.flat (List.replicate n imD) from made_enc imE imD n rfl (by decide)] at hown4)
  have HB4 : Hid (Below w.heap.size w w4) := Lib.hid ((Below.refl _ w).grown hg4 (Nat.le_refl _) (fun k hk => by cases hk))
  have HO4 : Hid (w4.ownsRow w.heap.size 46 imE.k (.slice (some ⟨w.heap.size, 0, none⟩) n n) n (imE.flat (List.replicate n imD))) := Lib.hid hown4
  clear hg4 hown4
  go_loopw [4] (fun i wr => ∃ k : Nat, k ≤ n ∧ i = .int .i64 k ∧ wr.ownsRow w.heap.size 46 imE.k (.slice (some ⟨w.heap.size, 0, none⟩) n n) n (imE.flat (mixX ps (List.replicate n imD) k)) ∧ Below w.heap.size w wr) (fun i _ => n - (intOf i).toNat)
  case atStart => exact ⟨0, Nat.zero_le _, rfl, by rw [mixX_zero]; exact HO4.out, HB4.out⟩
  case round =>
    obtain ⟨k, hk, rfl, hown, hB⟩ := hrel
    by_cases hlt : k < n
    · obtain ⟨g, o, rfl, hg, hc0, hc1, hc2⟩ := h.at hlt
      have a0 := (hB.cell (p := ⟨g, o + k * 3, none⟩) hg).trans hc0
      have a1 := (hB.cell (p := ⟨g, o + k * 3 + 1, none⟩) hg).trans hc1
      have a2 := (hB.cell (p := ⟨g, o + k * 3 + 2, none⟩) hg).trans hc2
      have HO := Lib.hid hown
      have HB := Lib.hid hB
      have HM := Lib.hid (mixX_set imD (zs := ps) (ys := List.replicate n imD) (k := k) (by rw [List.length_replicate, hl]) (by omega))
      have hpe : ps.getD k imD = ⟨(ps.getD k imD).nm, (ps.getD k imD).tm, (ps.getD k imD).bd⟩ := rfl
      rw [hpe] at HM
      generalize (ps.getD k imD).nm = q0 at *
      generalize (ps.getD k imD).tm = q1 at *
      generalize (ps.getD k imD).bd = q2 at *
      clear hown hB hc0 hc1 hc2 hpe HB4
      go_wp2_with fail
      refine (toItem_any q0 q1 q2 _).mono ?_
      rintro e w5 ⟨rfl, hb⟩
      have hown := own_below HO.out hb
      have hB := HB.out.trans (hb.mono HB.out.size)
      have hs := ImR.stored hown hlt q0 q1 q2
      rw [HM.out] at hs
      have HS := Lib.hid hs.1
      have HB5 := Lib.hid (((hB.setCell (Nat.le_refl _) (p := ⟨w.heap.size, k * 3, none⟩) (.string q0)).setCell (Nat.le_refl _) (p := ⟨w.heap.size, k * 3 + 1, none⟩) (.int .i64 q1)).setCell (Nat.le_refl _) (p := ⟨w.heap.size, k * 3 + 2, none⟩) (.string q2))
      obtain ⟨g', o', hge, _, hd0, hd1, hd2⟩ := (ImR.own hown).at hlt
      simp only [Option.some.injEq, Addr.mk.injEq, and_true] at hge
      obtain ⟨rfl, rfl⟩ := hge
      rw [Nat.zero_add] at hd0 hd1 hd2
      have f0 := hown.frozenAt (k * 3)
      have f1 := hown.frozenAt (k * 3 + 1)
      have f2 := hown.frozenAt (k * 3 + 2)
      clear hs hown hB hb HO HB HM a0 a1 a2
      go_wp2_with fail
      go_roundw
      case rel => exact ⟨k + 1, by omega, by go_num, HS.out, HB5.out⟩
      case measure => simp [intOf] <;> omega
    · obtain rfl : k = n := by omega
      have hm : mixX ps (List.replicate k imD) k = ps := by rw [← hl]; exact mixX_all (by simp)
      rw [hm] at hown
      have HO := Lib.hid hown
      have HB := Lib.hid hB
      clear hown hB
      go_wp2_with fail
      go_ret
      exact ⟨_, _, rfl, HO.out, HB.out⟩
/-- What is left of a size; or too much. -/
def LeftItem (n : Nat) (l : List Im) (left : Int) (w : World) (e : Ending) (w' : World) : Prop :=
  ∃ r : Int, e = .returned (.int .i64 r) ∧ ((r = -1) ∨ (0 ≤ r ∧ r ≤ left ∧ n ≤ 1048576 ∧ ∀ t, t < n → (l.getD t imD).nm.size ≤ 1048576 ∧ (l.getD t imD).bd.size ≤ 1048576)) ∧ Below w.heap.size w w'
set_option maxRecDepth 100000 in
set_option maxHeartbeats 1600000 in
theorem szItemS_any (a : Option Addr) (n cap : Nat) (l : List Im) (left : Int) (w : World) (h : ImR w a n cap l) (hn : n ≤ 9223372036854775807) (hs : ∀ t, t < n → (l.getD t imD).nm.size ≤ maxLen ∧ (l.getD t imD).bd.size ≤ maxLen) (hl0 : 0 ≤ left) (hl1 : left ≤ 1048576) :
    Calls Tryz.prog 16 #[.slice a n cap, .int .i64 left] w (LeftItem n l left w) := by
  have hw : IntKind.i64.wrap (left - (n : Int)) = left - (n : Int) := by rw [IntWalk.i64_in _ (by omega)]
  have HS := Lib.hid hs
  clear hs
  by_cases hn1 : (n : Int) ≤ left
  · have h2 : ¬ left - (n : Int) < 0 := by omega
    have hn2 : n ≤ 1048576 := by omega
    go_enter Tryz.func16, Tryz.ntmps16
    go_wp2_with fail
    go_loopw [1, 5] (fun q i wr => ∃ (j : Nat) (r : Int), j ≤ n ∧ i = .int .i64 j ∧ q = .int .i64 r ∧ 0 ≤ r ∧ r ≤ left ∧ Hid (∀ t, t < j → (l.getD t imD).nm.size ≤ 1048576 ∧ (l.getD t imD).bd.size ≤ 1048576) ∧ Below w.heap.size w wr) (fun _ i _ => n - (intOf i).toNat)
    case atStart => exact ⟨0, _, Nat.zero_le _, rfl, rfl, by omega, by omega, Lib.hid (fun t ht => absurd ht (by omega)), Below.refl _ _⟩
    case round =>
      obtain ⟨j, r, hj, rfl, rfl, hr0, hr1, HA, hB⟩ := hrel
      by_cases hlt : j < n
      · obtain ⟨g, o, rfl, hg, hc0, hc1, hc2⟩ := h.at hlt
        have a0 := (hB.cell (p := ⟨g, o + j * 3, none⟩) hg).trans hc0
        have a1 := (hB.cell (p := ⟨g, o + j * 3 + 1, none⟩) hg).trans hc1
        have a2 := (hB.cell (p := ⟨g, o + j * 3 + 2, none⟩) hg).trans hc2
        have hsj := HS.out j hlt
        have HA2 : Hid (((l.getD j imD).nm.size ≤ 1048576 ∧ (l.getD j imD).bd.size ≤ 1048576) → ∀ t, t < j + 1 → (l.getD t imD).nm.size ≤ 1048576 ∧ (l.getD t imD).bd.size ≤ 1048576) := Lib.hid (fun hx t ht => by
          by_cases e : t = j
          · rw [e]; exact hx
          · exact HA.out t (by omega))
        have HB := Lib.hid hB
        generalize (l.getD j imD).nm = q0 at *
        generalize (l.getD j imD).tm = q1 at *
        generalize (l.getD j imD).bd = q2 at *
        clear hc0 hc1 hc2 hB
        go_wp2_with fail
        refine (szItem_any q0 q1 q2 r _ hsj.1 hsj.2 hr0 (by omega)).mono ?_
        rintro e w5 ⟨r', rfl, hr, hb⟩
        have HB5 := Lib.hid (HB.out.trans (hb.mono HB.out.size))
        clear hb a0 a1 a2
        rcases hr with rfl | ⟨hp0, hp1, hps⟩
        · go_wp2_with fail
          go_ret
          exact ⟨-1, rfl, .inl rfl, HB5.out⟩
        · have hnn : ¬ r' < 0 := by omega
          have HA3 := Lib.hid (HA2.out hps)
          clear hps
          go_wp2_with fail
          go_roundw
          case rel => exact ⟨j + 1, r', by omega, by go_num, rfl, hp0, by omega, HA3, HB5.out⟩
          case measure => simp [intOf] <;> omega
      · obtain rfl : j = n := by omega
        have HB := Lib.hid hB
        clear hB
        go_wp2_with fail
        go_ret
        exact ⟨r, rfl, .inr ⟨hr0, hr1, hn2, HA.out⟩, HB.out⟩
  · have h2 : left - (n : Int) < 0 := by omega
    go_enter Tryz.func16, Tryz.ntmps16
    go_wp2_with fail
    go_ret
    exact ⟨-1, rfl, .inl rfl, Below.refl _ _⟩
/-- The j-th marks. -/
def mkIm (k j : Nat) : Im := ⟨mkt (k + 3 * j), (k : Int) + 3 * (j : Int) + 1, mkt (k + 3 * j + 2)⟩
def marksIm (k n : Nat) : List Im := (List.range n).map (mkIm k)
theorem marksIm_length (k n : Nat) : (marksIm k n).length = n := by simp [marksIm]
theorem marksIm_getD {k n j : Nat} (h : j < n) : (marksIm k n).getD j imD = mkIm k j := by simp [marksIm, List.getD, h]
set_option maxRecDepth 100000 in
set_option maxHeartbeats 6400000 in
theorem markItemS_any (a : Option Addr) (base n cap : Nat) (zs : List Im) (k0 : Nat) (w : World) (h : w.ownsRow base 46 imE.k (.slice a n cap) n (imE.flat zs)) (hn : n ≤ 1048576) (hk0 : 0 < k0) (hk1 : k0 ≤ 1099511627776) :
    Calls Tryz.prog 35 #[.slice a n cap, .int .i64 (k0 : Int)] w fun e w' => e = .returned (.int .i64 ((k0 : Int) + 3 * (n : Int))) ∧ w'.ownsRow base 46 imE.k (.slice a n cap) n (imE.flat (marksIm k0 n)) ∧ w.grownBy w' (Value.slice a n cap).ownBlock := by
  have hl := ImR.olen h
  have HML := Lib.hid (marksIm_length k0 n)
  have HZL := Lib.hid hl
  clear hl
  go_enter Tryz.func35, Tryz.ntmps35
  go_wp2_with fail
  go_loopw [1, 5] (fun k i wr => ∃ j : Nat, j ≤ n ∧ i = .int .i64 j ∧ k = .int .i64 ((k0 : Int) + 3 * (j : Int)) ∧ wr.ownsRow base 46 imE.k (.slice a n cap) n (imE.flat (mixX (marksIm k0 n) zs j)) ∧ w.grownBy wr (Value.slice a n cap).ownBlock) (fun _ i _ => n - (intOf i).toNat)
  case atStart => exact ⟨0, Nat.zero_le _, rfl, by simp, by rw [mixX_zero]; exact h, ⟨rfl, rfl, rfl, Nat.le_refl _, fun _ _ _ => rfl⟩⟩
  case round =>
    obtain ⟨j, hj, rfl, rfl, hown, hg⟩ := hrel
    by_cases hlt : j < n
    · obtain ⟨g, c, hv, _, hgl⟩ := hown.form (by omega)
      simp only [Value.slice.injEq] at hv
      obtain ⟨rfl, _, rfl⟩ := hv
      have HMT0 : Hid (∀ (r : Int) (u : World), r = (k0 : Int) + 3 * (j : Int) → Calls Tryz.prog 54 #[.int .i64 r] u fun e w' => e = .returned (.string (mkt (k0 + 3 * j))) ∧ Below u.heap.size u w') := Lib.hid (fun r u hr => by
        have hm := markText_any (k0 + 3 * j) (w := u) (by omega) (by omega)
        rwa [show ((k0 + 3 * j : Nat) : Int) = r by omega] at hm)
      have HMT2 : Hid (∀ (r : Int) (u : World), r = (k0 : Int) + 3 * (j : Int) + 1 + 1 → Calls Tryz.prog 54 #[.int .i64 r] u fun e w' => e = .returned (.string (mkt (k0 + 3 * j + 2))) ∧ Below u.heap.size u w') := Lib.hid (fun r u hr => by
        have hm := markText_any (k0 + 3 * j + 2) (w := u) (by omega) (by omega)
        rwa [show ((k0 + 3 * j + 2 : Nat) : Int) = r by omega] at hm)
      have HST := Lib.hid (mixX_set imD (zs := marksIm k0 n) (ys := zs) (k := j) (by rw [HML.out, HZL.out]) (by rw [HML.out]; exact hlt))
      rw [marksIm_getD hlt] at HST
      have HMJ : Hid (j < (mixX (marksIm k0 n) zs j).length) := Lib.hid (by rw [mixX_length (by rw [HML.out, HZL.out]), HML.out]; exact hlt)
      have gd : ∀ (ps : List Im) (p q : Im), ((ps.set j p).set j q) = ps.set j q := fun ps p q => by rw [List.set_set]
      have ge : ∀ p : Im, ((mixX (marksIm k0 n) zs j).set j p).getD j imD = p := fun p => by simp [List.getD, HMJ.out]
      have GD := Lib.hid gd
      have GE := Lib.hid ge
      clear gd ge h
      have HO0 := Lib.hid hown
      have HG0 := Lib.hid hg
      clear hown hg
      go_wp2_with fail
      refine (HMT0.out _ _ (by omega)).mono ?_
      rintro e w5 ⟨rfl, hb⟩
      have hown5 := own_below HO0.out hb
      have hg5 := grown_trans HG0.out (fg_below hb)
      clear hb HO0 HG0
      obtain ⟨g', o', hge, _, x0, x1, x2⟩ := (ImR.own hown5).at hlt
      simp only [Option.some.injEq, Addr.mk.injEq, and_true] at hge
      obtain ⟨rfl, rfl⟩ := hge
      rw [Nat.zero_add] at x0 x1 x2
      have y0 := hown5.frozenAt (j * 3)
      have y1 := hown5.frozenAt (j * 3 + 1)
      clear x2
      have s0 := ImR.set0 hown5 hlt (mkt (k0 + 3 * j))
      have s1 := ImR.set1 s0.1 hlt ((k0 : Int) + 3 * (j : Int) + 1)
      rw [GD.out, GE.out] at s1
      have HO2 := Lib.hid s1.1
      have HG2 := Lib.hid (grown_trans (grown_trans hg5 s0.2) s1.2)
      clear s1 s0
      clear hown5 hg5
      go_wp2_with fail
      clear x0 y0 x1 y1
      refine (HMT2.out _ _ (by omega)).mono ?_
      rintro e w5 ⟨rfl, hb⟩
      have hown5 := own_below HO2.out hb
      have hg5 := grown_trans HG2.out (fg_below hb)
      clear hb HO2 HG2
      obtain ⟨g', o', hge, _, x0, x1, x2⟩ := (ImR.own hown5).at hlt
      simp only [Option.some.injEq, Addr.mk.injEq, and_true] at hge
      obtain ⟨rfl, rfl⟩ := hge
      rw [Nat.zero_add] at x0 x1 x2
      have y2 := hown5.frozenAt (j * 3 + 2)
      clear x0 x1
      have s2 := ImR.set2 hown5 hlt (mkt (k0 + 3 * j + 2))
      rw [GD.out, GE.out] at s2
      have HO3 := Lib.hid s2.1
      have HG3 := Lib.hid (grown_trans hg5 s2.2)
      clear s2
      clear hown5 hg5
      go_wp2_with fail
      go_roundw
      case rel => exact ⟨j + 1, by omega, by go_num, by go_num, by rw [← HST.out]; exact HO3.out, HG3.out⟩
      case measure => simp [intOf] <;> omega
    · obtain rfl : j = n := by omega
      have hm : mixX (marksIm k0 j) zs j = marksIm k0 j := by
        have := mixX_all (zs := marksIm k0 j) (ys := zs) (by rw [HML.out, HZL.out])
        rwa [HML.out] at this
      rw [hm] at hown
      have HO := Lib.hid hown
      have HG := Lib.hid hg
      clear hown hg hm h
      go_wp2_with fail
      go_ret
      exact ⟨rfl, HO.out, HG.out⟩
set_option maxRecDepth 100000 in
set_option maxHeartbeats 6400000 in
theorem heldItemS_any (a : Option Addr) (n cap k0 : Nat) (w : World) (h : ImR w a n cap (marksIm k0 n)) (hn : n ≤ 1048576) (hk0 : 0 < k0) (hk1 : k0 ≤ 1099511627776) :
    Calls Tryz.prog 56 #[.slice a n cap, .int .i64 (k0 : Int)] w fun e w' => e = .returned (.int .i64 ((k0 : Int) + 3 * (n : Int))) ∧ Below w.heap.size w w' := by
  go_enter Tryz.func56, Tryz.ntmps56
  go_wp2_with fail
  go_loopw [1, 5] (fun k i wr => ∃ j : Nat, j ≤ n ∧ i = .int .i64 j ∧ k = .int .i64 ((k0 : Int) + 3 * (j : Int)) ∧ Below w.heap.size w wr) (fun _ i _ => n - (intOf i).toNat)
  case atStart => exact ⟨0, Nat.zero_le _, rfl, by simp, Below.refl _ _⟩
  case round =>
    obtain ⟨j, hj, rfl, rfl, hB⟩ := hrel
    by_cases hlt : j < n
    · obtain ⟨g, o, rfl, hg, hc0, hc1, hc2⟩ := h.at hlt
      rw [marksIm_getD hlt] at hc0 hc1 hc2
      unfold mkIm at hc0 hc1 hc2
      dsimp only at hc0 hc1 hc2
      have HC : Hid (∀ u, Below w.heap.size w u → u.cell? ⟨g, o + j * 3, none⟩ = some (.string (mkt (k0 + 3 * j))) ∧ u.cell? ⟨g, o + j * 3 + 1, none⟩ = some (.int .i64 ((k0 : Int) + 3 * (j : Int) + 1)) ∧ u.cell? ⟨g, o + j * 3 + 2, none⟩ = some (.string (mkt (k0 + 3 * j + 2)))) := Lib.hid (fun u hb => ⟨(hb.cell (p := ⟨g, o + j * 3, none⟩) hg).trans hc0, (hb.cell (p := ⟨g, o + j * 3 + 1, none⟩) hg).trans hc1, (hb.cell (p := ⟨g, o + j * 3 + 2, none⟩) hg).trans hc2⟩)
      have HMT0 : Hid (∀ (r : Int) (u : World), r = (k0 : Int) + 3 * (j : Int) → Calls Tryz.prog 54 #[.int .i64 r] u fun e w' => e = .returned (.string (mkt (k0 + 3 * j))) ∧ Below u.heap.size u w') := Lib.hid (fun r u hr => by
        have hm := markText_any (k0 + 3 * j) (w := u) (by omega) (by omega)
        rwa [show ((k0 + 3 * j : Nat) : Int) = r by omega] at hm)
      have HMT2 : Hid (∀ (r : Int) (u : World), r = (k0 : Int) + 3 * (j : Int) + 1 + 1 → Calls Tryz.prog 54 #[.int .i64 r] u fun e w' => e = .returned (.string (mkt (k0 + 3 * j + 2))) ∧ Below u.heap.size u w') := Lib.hid (fun r u hr => by
        have hm := markText_any (k0 + 3 * j + 2) (w := u) (by omega) (by omega)
        rwa [show ((k0 + 3 * j + 2 : Nat) : Int) = r by omega] at hm)
      generalize mkt (k0 + 3 * j) = t0 at *
      generalize mkt (k0 + 3 * j + 2) = t2 at *
      clear hc0 hc1 hc2 h
      have hFn := hB
      go_wp2_with fail
      replace hFn := hFn.drew
      go_region_held3 (fun u => u.cell? ⟨g, o + j * 3, none⟩ = some (.string t0)) (exact (HC.out _ hFn).1)
        (first | (go_at_call 54; refine Calls.mono (HMT0.out _ _ rfl) ?_; rintro e w1 ⟨rfl, hb⟩; have hFn := hFn.trans (hb.mono hFn.size)))
      all_goals
        obtain ⟨c0, c1, c2⟩ := HC.out _ hFn
        clear c0 c2
        go_wp2_with fail
        clear c1
        replace hFn := hFn.drew
        go_region_held3 (fun u => u.cell? ⟨g, o + j * 3 + 2, none⟩ = some (.string t2)) (exact (HC.out _ hFn).2.2)
          (first | (go_at_call 54; refine Calls.mono (HMT2.out _ _ rfl) ?_; rintro e w1 ⟨rfl, hb⟩; have hFn := hFn.trans (hb.mono hFn.size)))
        all_goals
          go_wp2_with fail
          go_roundw
          case rel => exact ⟨j + 1, by omega, by go_num, by go_num, hFn⟩
          case measure => simp [intOf] <;> omega
    · obtain rfl : j = n := by omega
      have HB := Lib.hid hB
      clear hB h
      go_wp2_with fail
      go_ret
      exact ⟨rfl, HB.out⟩
end Go.Proofs.YtnoefpkhbllmiaaGreat
