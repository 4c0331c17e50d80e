/- What the laws' own functions on parts answer: marks that are held; sizes; parts of the impl's. -/
import Derived.Test.YtdnbkjiijpeiiaaHShA
namespace Go.Proofs.Ytdnbkjiijpeiiaa
open Go.RowKit Go.PlainAid G MGF IRow
set_option linter.unusedVariables false
theorem toShare_any (x : Int) (t : ByteArray) (w : World) :
    Calls Try.prog 32 #[.agg #[.int .i64 x, .string t]] w fun e w' => e = .returned (.agg #[.int .i64 x, .string t]) ∧ Below w.heap.size w w' := by
  go_enter Try.func32, Try.ntmps32
  go_wp2_with fail
  exact bodyPost_ret (v := .agg #[.int .i64 x, .string t]) (by simp [results, Try.results32, go_sem]) rfl ⟨rfl, by repeat' (first | exact Below.refl _ _ | refine Below.alloc ?_ (by first | exact Nat.le_refl _ | (simp; done) | (simp; omega)) _ | refine Below.setCell ?_ (by first | exact Nat.le_refl _ | (simp; done) | (simp; omega)) _)⟩
set_option maxRecDepth 100000 in
set_option maxHeartbeats 1600000 in
theorem toShareS_any (a : Option Addr) (n cap : Nat) (ps : List (Int × ByteArray)) (w : World) (h : HR w a n cap ps) (hn : n ≤ 1048576) :
    Calls Try.prog 14 #[.slice a n cap] w fun e w' => ∃ a' cap', e = .returned (.slice a' n cap') ∧ w'.ownsRow w.heap.size 50 shE.k (.slice a' n cap') n (shE.flat ps) ∧ Below w.heap.size w w' := by
  obtain ⟨i0, hi, hz0, hz1, hz2⟩ := info_parts infoShare
  have hl := h.len
  go_enter Try.func14, Try.ntmps14
  go_wp2_with (at_make; refine wpList_make_full _ rfl (.tmp 6) (.tmp 6) 34 rfl w.heap.size 50 i0 (.agg #[.int .i64 0, .string ByteArray.empty]) 2 Try.underlying34 hi hz0 hz1 .i64 .i64 _ _ n rfl rfl rfl rfl (by rw [hz2]; omega) (by unfold maxLen; omega) (Nat.le_refl _) ?_; intro w4 hown4 hg4; rw [madeS] at hown4)
  have HB4 : Hid (Below w.heap.size w w4) := Lib.hid ((Below.refl _ w).grown hg4 (Nat.le_refl _) (fun k hk => by cases hk))
  have HO4 : Hid (w4.ownsRow w.heap.size 50 shE.k (.slice (some ⟨w.heap.size, 0, none⟩) n n) n (shE.flat (List.replicate n shD))) := Lib.hid hown4
  clear hg4 hown4
  go_loopw [4] (fun i wr => ∃ k : Nat, k ≤ n ∧ i = .int .i64 k ∧ wr.ownsRow w.heap.size 50 shE.k (.slice (some ⟨w.heap.size, 0, none⟩) n n) n (shE.flat (mixS ps (List.replicate n shD) k)) ∧ Below w.heap.size w wr) (fun i _ => n - (intOf i).toNat)
  case atStart => exact ⟨0, Nat.zero_le _, rfl, by rw [mixS_zero]; exact HO4.out, HB4.out⟩
  case round =>
    obtain ⟨k, hk, rfl, hown, hB⟩ := hrel
    by_cases hlt : k < n
    · obtain ⟨g, o, rfl, hg, hc1, hc2⟩ := h.at hlt
      have hck := (hB.cell (p := ⟨g, o + k * 2, none⟩) hg).trans hc1
      have hck2 := (hB.cell (p := ⟨g, o + k * 2 + 1, none⟩) hg).trans hc2
      have HO := Lib.hid hown
      have HB := Lib.hid hB
      have HM := Lib.hid (mixS_set (zs := ps) (ys := List.replicate n shD) (k := k) (by rw [List.length_replicate, hl]) (by omega))
      have hpe : ps.getD k shD = ((ps.getD k shD).1, (ps.getD k shD).2) := rfl
      rw [hpe] at HM
      generalize (ps.getD k shD).1 = x at *
      generalize (ps.getD k shD).2 = y at *
      clear hown hB hc1 hc2 hpe HB4
      go_wp2_with fail
      refine (toShare_any x y _).mono ?_
      rintro e w5 ⟨rfl, hb⟩
      have hown := own_below HO.out hb
      have hB := HB.out.trans (hb.mono HB.out.size)
      have hs := ownS_stored hown hlt x y
      rw [HM.out] at hs
      have HS := Lib.hid hs.1
      have HB5 := Lib.hid ((hB.setCell (Nat.le_refl _) (p := ⟨w.heap.size, k * 2, none⟩) (.int .i64 x)).setCell (Nat.le_refl _) (p := ⟨w.heap.size, k * 2 + 1, none⟩) (.string y))
      obtain ⟨g', o', hge, _, hoc, hoc2⟩ := (HR.own hown).at hlt
      simp only [Option.some.injEq, Addr.mk.injEq, and_true] at hge
      obtain ⟨rfl, rfl⟩ := hge
      rw [Nat.zero_add] at hoc hoc2
      have hof := hown.frozenAt (k * 2)
      have hof2 := hown.frozenAt (k * 2 + 1)
      clear hs hown hB hb HO HB HM
      go_wp2_with fail
      go_roundw
      case rel => exact ⟨k + 1, by omega, by go_num, HS.out, HB5.out⟩
      case measure => simp [intOf] <;> omega
    · obtain rfl : k = n := by omega
      have hm : mixS ps (List.replicate k shD) k = ps := by rw [← hl]; exact mixS_all (by simp)
      rw [hm] at hown
      have HO := Lib.hid hown
      have HB := Lib.hid hB
      clear hown hB
      go_wp2_with fail
      go_ret
      exact ⟨_, _, rfl, HO.out, HB.out⟩
theorem szShare_any (x : Int) (t : ByteArray) (left : Int) (w : World) (ht : t.size ≤ maxLen) (h0 : 0 ≤ left) (h1 : left ≤ 1048576) :
    Calls Try.prog 31 #[.agg #[.int .i64 x, .string t], .int .i64 left] w fun e w' => e = .returned (.int .i64 (if (t.size : Int) ≤ left then left - t.size else -1)) ∧ Below w.heap.size w w' := by
  unfold maxLen at ht
  have HB : Hid (Below w.heap.size w (w.alloc (.cells #[.int .i64 x, .string t] 49))) := Lib.hid ((Below.refl _ _).alloc (Nat.le_refl _) _)
  have hw : IntKind.i64.wrap (left - (t.size : Int)) = left - (t.size : Int) := by rw [IntWalk.i64_in _ (by omega)]
  by_cases h : (t.size : Int) ≤ left
  · rw [if_pos h]
    have h2 : ¬ left - (t.size : Int) < 0 := by omega
    go_enter Try.func31, Try.ntmps31
    go_wp2_with fail
    go_ret
    exact ⟨rfl, HB.out⟩
  · rw [if_neg h]
    have h2 : left - (t.size : Int) < 0 := by omega
    go_enter Try.func31, Try.ntmps31
    go_wp2_with fail
    go_ret
    exact ⟨rfl, HB.out⟩
/-- What is left of a size; or too much. -/
def LeftS (n : Nat) (l : List (Int × ByteArray)) (w : World) (e : Ending) (w' : World) : Prop :=
  ∃ r : Int, e = .returned (.int .i64 r) ∧ (0 ≤ r → n ≤ 1048576 ∧ ∀ t, t < n → (l.getD t shD).2.size ≤ 1048576) ∧ Below w.heap.size w w'
set_option maxRecDepth 100000 in
set_option maxHeartbeats 1600000 in
theorem szShareS_any (a : Option Addr) (n cap : Nat) (l : List (Int × ByteArray)) (w : World) (h : HR w a n cap l) (hn : n ≤ 9223372036854775807) (hs : ∀ t, t < n → (l.getD t shD).2.size ≤ maxLen) :
    Calls Try.prog 12 #[.slice a n cap, .int .i64 1048576] w (LeftS n l w) := by
  have hw : IntKind.i64.wrap (1048576 - (n : Int)) = 1048576 - (n : Int) := by rw [IntWalk.i64_in _ (by omega)]
  have HS := Lib.hid hs
  clear hs
  by_cases hn1 : n ≤ 1048576
  · have h2 : ¬ 1048576 - (n : Int) < 0 := by omega
    go_enter Try.func12, Try.ntmps12
    go_wp2_with fail
    go_loopw [1, 5] (fun q i wr => ∃ (j : Nat) (r : Int), j ≤ n ∧ i = .int .i64 j ∧ q = .int .i64 r ∧ 0 ≤ r ∧ r ≤ 1048576 ∧ Hid (∀ t, t < j → (l.getD t shD).2.size ≤ 1048576) ∧ Below w.heap.size w wr) (fun _ i _ => n - (intOf i).toNat)
    case atStart => exact ⟨0, _, Nat.zero_le _, rfl, rfl, by omega, by omega, Lib.hid (fun t ht => absurd ht (by omega)), Below.refl _ _⟩
    case round =>
      obtain ⟨j, r, hj, rfl, rfl, hr0, hr1, HA, hB⟩ := hrel
      by_cases hlt : j < n
      · obtain ⟨g, o, rfl, hg, hc1, hc2⟩ := h.at hlt
        have hck := (hB.cell (p := ⟨g, o + j * 2, none⟩) hg).trans hc1
        have hck2 := (hB.cell (p := ⟨g, o + j * 2 + 1, none⟩) hg).trans hc2
        have hsj := HS.out j hlt
        have HA2 : Hid ((l.getD j shD).2.size ≤ 1048576 → ∀ t, t < j + 1 → (l.getD t shD).2.size ≤ 1048576) := Lib.hid (fun hx t ht => by
          by_cases e : t = j
          · rw [e]; exact hx
          · exact HA.out t (by omega))
        have HB := Lib.hid hB
        generalize (l.getD j shD).1 = x at *
        generalize (l.getD j shD).2 = t at *
        clear hc1 hc2 hB
        go_wp2_with fail
        refine (szShare_any x t r _ hsj hr0 hr1).mono ?_
        rintro e w5 ⟨rfl, hb⟩
        have HB5 := Lib.hid (HB.out.trans (hb.mono HB.out.size))
        clear hb hck hck2
        by_cases hle : (t.size : Int) ≤ r
        · rw [if_pos hle]
          have hnn : ¬ r - (t.size : Int) < 0 := by omega
          have HA3 := Lib.hid (HA2.out (by omega))
          go_wp2_with fail
          go_roundw
          case rel => exact ⟨j + 1, r - (t.size : Int), by omega, by go_num, rfl, by omega, by omega, HA3, HB5.out⟩
          case measure => simp [intOf] <;> omega
        · rw [if_neg hle]
          go_wp2_with fail
          go_ret
          exact ⟨-1, rfl, (fun h => absurd h (by decide)), HB5.out⟩
      · obtain rfl : j = n := by omega
        have HB := Lib.hid hB
        clear hB
        go_wp2_with fail
        go_ret
        exact ⟨r, rfl, (fun _ => ⟨hn1, HA.out⟩), HB.out⟩
  · have h2 : 1048576 - (n : Int) < 0 := by omega
    go_enter Try.func12, Try.ntmps12
    go_wp2_with fail
    go_ret
    exact ⟨-1, rfl, (fun h => absurd h (by decide)), Below.refl _ _⟩
theorem shares_len {w : World} {base n cap : Nat} {a : Option Addr} {e : TypeId} {l : List (Int × ByteArray)} (h : w.ownsRow base e shE.k (.slice a n cap) n (shE.flat l)) : l.length = n := by
  have := h.1; rw [shE.flat_length] at this; exact Nat.eq_of_mul_eq_mul_right (show 0 < shE.k by decide) this
end Go.Proofs.Ytdnbkjiijpeiiaa
