/- Texts put together: what the law uses of them. -/
import Derived.Test.YtidcpdfhnhfelaaGreatDoorQRpl10
import Derived.Test.YtidcpdfhnhfelaaGreatDoorQRpl00
/- Rows of items: an element by its cells; what the laws' own functions on such rows answer. -/
namespace Go.Proofs.YtidcpdfhnhfelaaGreatDoor
open Go.RowKit Go.PlainAid G MGF IRow
set_option linter.unusedVariables false
/-- A item. -/
structure Im where
  nm : ByteArray
  tm : Int
  bd : ByteArray
def imD : Im := ⟨ByteArray.empty, 0, ByteArray.empty⟩
/-- A item in memory. -/
def imE : Enc Im := ⟨3, fun e => [.string e.nm, .int .i64 e.tm, .string e.bd], fun _ => rfl, by intro x v hv; simp at hv; rcases hv with rfl | rfl | rfl <;> rfl⟩
theorem eqItem_same (q0 : ByteArray) (q1 : Int) (q2 : ByteArray) (w : World) :
    Calls Tryz.prog 80 #[.agg #[.string q0, .int .i64 q1, .string q2], .agg #[.string q0, .int .i64 q1, .string q2]] w fun e w' => e = .returned (.bool true) ∧ Below w.heap.size w w' := by
  go_enter Tryz.func80, Tryz.ntmps80
  go_wp2_with fail
  go_ret
  exact ⟨rfl, ((Below.refl _ _).alloc (Nat.le_refl _) _).alloc (by simp) _⟩
/-- A row of items that can be read. -/
abbrev ImR (w : World) (a : Option Addr) (n cap : Nat) (l : List Im) : Prop := SR imE imD w a n cap l
theorem ImR.at {w : World} {a : Option Addr} {n cap : Nat} {l : List Im} (h : ImR w a n cap l) {i : Nat} (hi : i < n) : ∃ g o, a = some ⟨g, o, none⟩ ∧ g < w.heap.size ∧ w.cell? ⟨g, o + i * 3, none⟩ = some (.string (l.getD i imD).nm) ∧ w.cell? ⟨g, o + i * 3 + 1, none⟩ = some (.int .i64 (l.getD i imD).tm) ∧ w.cell? ⟨g, o + i * 3 + 2, none⟩ = some (.string (l.getD i imD).bd) := by
  obtain ⟨g, o, ha, hg, hc⟩ := h.cells (by omega)
  exact ⟨g, o, ha, hg, hc i hi 0 _ rfl, hc i hi 1 _ rfl, hc i hi 2 _ rfl⟩
theorem ImR.own {w : World} {base n cap : Nat} {a : Option Addr} {e : TypeId} {l : List Im} (h : w.ownsRow base e imE.k (.slice a n cap) n (imE.flat l)) : ImR w a n cap l := SR.own (by decide) h
theorem ImR.olen {w : World} {base n cap : Nat} {a : Option Addr} {e : TypeId} {l : List Im} (h : w.ownsRow base e imE.k (.slice a n cap) n (imE.flat l)) : l.length = n := by
  have := h.1; rw [imE.flat_length] at this; exact Nat.eq_of_mul_eq_mul_right (show 0 < imE.k by decide) this
theorem infoItem : (Tryz.prog.info? 108).map (fun i => (i.zero, i.size, i.bytes)) = some (some (.agg #[.string ByteArray.empty, .int .i64 0, .string ByteArray.empty]), 3, 40) := by kernel_rfl
theorem ImR.set0 {w : World} {base g n cap : Nat} {e : TypeId} {ps : List Im} (h : w.ownsRow base e imE.k (.slice (some ⟨g, 0, none⟩) n cap) n (imE.flat ps)) {i : Nat} (hi : i < n) (v : ByteArray) :
    (w.setCell ⟨g, i * 3, none⟩ (.string v)).ownsRow base e imE.k (.slice (some ⟨g, 0, none⟩) n cap) n (imE.flat (ps.set i ⟨v, (ps.getD i imD).tm, (ps.getD i imD).bd⟩)) ∧ w.grownBy (w.setCell ⟨g, i * 3, none⟩ (.string v)) (some g) := by
  have hl := ImR.olen h
  obtain ⟨h1, g1⟩ := h.stored (i * 3) (.string v)
  have e1 : (imE.flat ps).set (i * 3) (.string v) = imE.flat (ps.set i ⟨v, (ps.getD i imD).tm, (ps.getD i imD).bd⟩) := flat_setX imE imD ps i 0 _ _ (by omega) (by decide) rfl
  rw [e1] at h1
  exact ⟨h1, g1⟩
theorem ImR.set1 {w : World} {base g n cap : Nat} {e : TypeId} {ps : List Im} (h : w.ownsRow base e imE.k (.slice (some ⟨g, 0, none⟩) n cap) n (imE.flat ps)) {i : Nat} (hi : i < n) (v : Int) :
    (w.setCell ⟨g, i * 3 + 1, none⟩ (.int .i64 v)).ownsRow base e imE.k (.slice (some ⟨g, 0, none⟩) n cap) n (imE.flat (ps.set i ⟨(ps.getD i imD).nm, v, (ps.getD i imD).bd⟩)) ∧ w.grownBy (w.setCell ⟨g, i * 3 + 1, none⟩ (.int .i64 v)) (some g) := by
  have hl := ImR.olen h
  obtain ⟨h1, g1⟩ := h.stored (i * 3 + 1) (.int .i64 v)
  have e1 : (imE.flat ps).set (i * 3 + 1) (.int .i64 v) = imE.flat (ps.set i ⟨(ps.getD i imD).nm, v, (ps.getD i imD).bd⟩) := flat_setX imE imD ps i 1 _ _ (by omega) (by decide) rfl
  rw [e1] at h1
  exact ⟨h1, g1⟩
theorem ImR.set2 {w : World} {base g n cap : Nat} {e : TypeId} {ps : List Im} (h : w.ownsRow base e imE.k (.slice (some ⟨g, 0, none⟩) n cap) n (imE.flat ps)) {i : Nat} (hi : i < n) (v : ByteArray) :
    (w.setCell ⟨g, i * 3 + 2, none⟩ (.string v)).ownsRow base e imE.k (.slice (some ⟨g, 0, none⟩) n cap) n (imE.flat (ps.set i ⟨(ps.getD i imD).nm, (ps.getD i imD).tm, v⟩)) ∧ w.grownBy (w.setCell ⟨g, i * 3 + 2, none⟩ (.string v)) (some g) := by
  have hl := ImR.olen h
  obtain ⟨h1, g1⟩ := h.stored (i * 3 + 2) (.string v)
  have e1 : (imE.flat ps).set (i * 3 + 2) (.string v) = imE.flat (ps.set i ⟨(ps.getD i imD).nm, (ps.getD i imD).tm, v⟩) := flat_setX imE imD ps i 2 _ _ (by omega) (by decide) rfl
  rw [e1] at h1
  exact ⟨h1, g1⟩
set_option maxRecDepth 100000 in
set_option maxHeartbeats 1600000 in
theorem eqItemS_same (a b : Option Addr) (n cap cbp : Nat) (l : List Im) (w : World) (h : ImR w a n cap l) (k : ImR w b n cbp l) (hn : n ≤ 1048576) :
    Calls Tryz.prog 33 #[.slice a n cap, .slice b n cbp] w fun e w' => e = .returned (.bool true) ∧ Below w.heap.size w w' := by
  go_enter Tryz.func33, Tryz.ntmps33
  go_wp2_with fail
  go_loopw [5] (fun i wr => ∃ j : Nat, j ≤ n ∧ i = .int .i64 j ∧ Below w.heap.size w wr) (fun i _ => n - (intOf i).toNat)
  case atStart => exact ⟨0, Nat.zero_le _, rfl, Below.refl _ _⟩
  case round =>
    obtain ⟨j, hj, rfl, hB⟩ := hrel
    have HB := Lib.hid hB.drew
    by_cases hlt : j < n
    · obtain ⟨g, o, rfl, hg, hc0, hc1, hc2⟩ := h.at hlt
      obtain ⟨g', o', rfl, hg', hd0, hd1, hd2⟩ := k.at hlt
      have a0 := (hB.cell (p := ⟨g, o + j * 3, none⟩) hg).trans hc0
      have a1 := (hB.cell (p := ⟨g, o + j * 3 + 1, none⟩) hg).trans hc1
      have a2 := (hB.cell (p := ⟨g, o + j * 3 + 2, none⟩) hg).trans hc2
      have b0 := (hB.cell (p := ⟨g', o' + j * 3, none⟩) hg').trans hd0
      have b1 := (hB.cell (p := ⟨g', o' + j * 3 + 1, none⟩) hg').trans hd1
      have b2 := (hB.cell (p := ⟨g', o' + j * 3 + 2, none⟩) hg').trans hd2
      generalize (l.getD j imD).nm = q0 at *
      generalize (l.getD j imD).tm = q1 at *
      generalize (l.getD j imD).bd = q2 at *
      clear hc0 hc1 hc2 hd0 hd1 hd2 h k hB
      go_wp2_with fail
      go_still_tail 8, (by kernel_rfl)
      change wpList _ _ _ _ _ wr.drew
      clear a0 a1 a2 b0 b1 b2
      generalize wr.drew = we at *
      go_wp2_with fail
      refine (eqItem_same q0 q1 q2 _).mono ?_
      rintro e w5 ⟨rfl, hb⟩
      have HB5 := Lib.hid (HB.out.trans (hb.mono HB.out.size))
      clear hb
      go_wp2_with fail
      go_roundw
      case rel => exact ⟨j + 1, by omega, by go_num, HB5.out⟩
      case measure => simp [intOf] <;> omega
    · obtain rfl : j = n := by omega
      have HB2 := Lib.hid hB
      clear h k hB
      go_wp2_with fail
      go_ret
      exact ⟨rfl, HB2.out⟩
/-- The j-th marks. -/
def mkIm (k j : Nat) : Im := ⟨mkt (k + 3 * j), (k : Int) + 3 * (j : Int) + 1, mkt (k + 3 * j + 2)⟩
def marksIm (k n : Nat) : List Im := (List.range n).map (mkIm k)
theorem marksIm_length (k n : Nat) : (marksIm k n).length = n := by simp [marksIm]
theorem marksIm_getD {k n j : Nat} (h : j < n) : (marksIm k n).getD j imD = mkIm k j := by simp [marksIm, List.getD, h]
set_option maxRecDepth 100000 in
set_option maxHeartbeats 6400000 in
theorem markItemS_any (a : Option Addr) (base n cap : Nat) (zs : List Im) (k0 : Nat) (w : World) (h : w.ownsRow base 108 imE.k (.slice a n cap) n (imE.flat zs)) (hn : n ≤ 1048576) (hk0 : 0 < k0) (hk1 : k0 ≤ 1099511627776) :
    Calls Tryz.prog 35 #[.slice a n cap, .int .i64 (k0 : Int)] w fun e w' => e = .returned (.int .i64 ((k0 : Int) + 3 * (n : Int))) ∧ w'.ownsRow base 108 imE.k (.slice a n cap) n (imE.flat (marksIm k0 n)) ∧ w.grownBy w' (Value.slice a n cap).ownBlock := by
  have hl := ImR.olen h
  have HML := Lib.hid (marksIm_length k0 n)
  have HZL := Lib.hid hl
  clear hl
  go_enter Tryz.func35, Tryz.ntmps35
  go_wp2_with fail
  go_loopw [1, 5] (fun k i wr => ∃ j : Nat, j ≤ n ∧ i = .int .i64 j ∧ k = .int .i64 ((k0 : Int) + 3 * (j : Int)) ∧ wr.ownsRow base 108 imE.k (.slice a n cap) n (imE.flat (mixX (marksIm k0 n) zs j)) ∧ w.grownBy wr (Value.slice a n cap).ownBlock) (fun _ i _ => n - (intOf i).toNat)
  case atStart => exact ⟨0, Nat.zero_le _, rfl, by simp, by rw [mixX_zero]; exact h, ⟨rfl, rfl, rfl, Nat.le_refl _, fun _ _ _ => rfl⟩⟩
  case round =>
    obtain ⟨j, hj, rfl, rfl, hown, hg⟩ := hrel
    by_cases hlt : j < n
    · obtain ⟨g, c, hv, _, hgl⟩ := hown.form (by omega)
      simp only [Value.slice.injEq] at hv
      obtain ⟨rfl, _, rfl⟩ := hv
      have HMT0 : Hid (∀ (r : Int) (u : World), r = (k0 : Int) + 3 * (j : Int) → Calls Tryz.prog 76 #[.int .i64 r] u fun e w' => e = .returned (.string (mkt (k0 + 3 * j))) ∧ Below u.heap.size u w') := Lib.hid (fun r u hr => by
        have hm := markText_any (k0 + 3 * j) (w := u) (by omega) (by omega)
        rwa [show ((k0 + 3 * j : Nat) : Int) = r by omega] at hm)
      have HMT2 : Hid (∀ (r : Int) (u : World), r = (k0 : Int) + 3 * (j : Int) + 1 + 1 → Calls Tryz.prog 76 #[.int .i64 r] u fun e w' => e = .returned (.string (mkt (k0 + 3 * j + 2))) ∧ Below u.heap.size u w') := Lib.hid (fun r u hr => by
        have hm := markText_any (k0 + 3 * j + 2) (w := u) (by omega) (by omega)
        rwa [show ((k0 + 3 * j + 2 : Nat) : Int) = r by omega] at hm)
      have HST := Lib.hid (mixX_set imD (zs := marksIm k0 n) (ys := zs) (k := j) (by rw [HML.out, HZL.out]) (by rw [HML.out]; exact hlt))
      rw [marksIm_getD hlt] at HST
      have HMJ : Hid (j < (mixX (marksIm k0 n) zs j).length) := Lib.hid (by rw [mixX_length (by rw [HML.out, HZL.out]), HML.out]; exact hlt)
      have gd : ∀ (ps : List Im) (p q : Im), ((ps.set j p).set j q) = ps.set j q := fun ps p q => by rw [List.set_set]
      have ge : ∀ p : Im, ((mixX (marksIm k0 n) zs j).set j p).getD j imD = p := fun p => by simp [List.getD, HMJ.out]
      have GD := Lib.hid gd
      have GE := Lib.hid ge
      clear gd ge h
      have HO0 := Lib.hid hown
      have HG0 := Lib.hid hg
      clear hown hg
      go_wp2_with fail
      refine (HMT0.out _ _ (by omega)).mono ?_
      rintro e w5 ⟨rfl, hb⟩
      have hown5 := own_below HO0.out hb
      have hg5 := grown_trans HG0.out (fg_below hb)
      clear hb HO0 HG0
      obtain ⟨g', o', hge, _, x0, x1, x2⟩ := (ImR.own hown5).at hlt
      simp only [Option.some.injEq, Addr.mk.injEq, and_true] at hge
      obtain ⟨rfl, rfl⟩ := hge
      rw [Nat.zero_add] at x0 x1 x2
      have y0 := hown5.frozenAt (j * 3)
      have y1 := hown5.frozenAt (j * 3 + 1)
      clear x2
      have s0 := ImR.set0 hown5 hlt (mkt (k0 + 3 * j))
      have s1 := ImR.set1 s0.1 hlt ((k0 : Int) + 3 * (j : Int) + 1)
      rw [GD.out, GE.out] at s1
      have HO2 := Lib.hid s1.1
      have HG2 := Lib.hid (grown_trans (grown_trans hg5 s0.2) s1.2)
      clear s1 s0
      clear hown5 hg5
      go_wp2_with fail
      clear x0 y0 x1 y1
      refine (HMT2.out _ _ (by omega)).mono ?_
      rintro e w5 ⟨rfl, hb⟩
      have hown5 := own_below HO2.out hb
      have hg5 := grown_trans HG2.out (fg_below hb)
      clear hb HO2 HG2
      obtain ⟨g', o', hge, _, x0, x1, x2⟩ := (ImR.own hown5).at hlt
      simp only [Option.some.injEq, Addr.mk.injEq, and_true] at hge
      obtain ⟨rfl, rfl⟩ := hge
      rw [Nat.zero_add] at x0 x1 x2
      have y2 := hown5.frozenAt (j * 3 + 2)
      clear x0 x1
      have s2 := ImR.set2 hown5 hlt (mkt (k0 + 3 * j + 2))
      rw [GD.out, GE.out] at s2
      have HO3 := Lib.hid s2.1
      have HG3 := Lib.hid (grown_trans hg5 s2.2)
      clear s2
      clear hown5 hg5
      go_wp2_with fail
      go_roundw
      case rel => exact ⟨j + 1, by omega, by go_num, by go_num, by rw [← HST.out]; exact HO3.out, HG3.out⟩
      case measure => simp [intOf] <;> omega
    · obtain rfl : j = n := by omega
      have hm : mixX (marksIm k0 j) zs j = marksIm k0 j := by
        have := mixX_all (zs := marksIm k0 j) (ys := zs) (by rw [HML.out, HZL.out])
        rwa [HML.out] at this
      rw [hm] at hown
      have HO := Lib.hid hown
      have HG := Lib.hid hg
      clear hown hg hm h
      go_wp2_with fail
      go_ret
      exact ⟨rfl, HO.out, HG.out⟩
set_option maxRecDepth 100000 in
set_option maxHeartbeats 6400000 in
theorem heldItemS_any (a : Option Addr) (n cap k0 : Nat) (w : World) (h : ImR w a n cap (marksIm k0 n)) (hn : n ≤ 1048576) (hk0 : 0 < k0) (hk1 : k0 ≤ 1099511627776) :
    Calls Tryz.prog 37 #[.slice a n cap, .int .i64 (k0 : Int)] w fun e w' => e = .returned (.int .i64 ((k0 : Int) + 3 * (n : Int))) ∧ Below w.heap.size w w' := by
  go_enter Tryz.func37, Tryz.ntmps37
  go_wp2_with fail
  go_loopw [1, 5] (fun k i wr => ∃ j : Nat, j ≤ n ∧ i = .int .i64 j ∧ k = .int .i64 ((k0 : Int) + 3 * (j : Int)) ∧ Below w.heap.size w wr) (fun _ i _ => n - (intOf i).toNat)
  case atStart => exact ⟨0, Nat.zero_le _, rfl, by simp, Below.refl _ _⟩
  case round =>
    obtain ⟨j, hj, rfl, rfl, hB⟩ := hrel
    by_cases hlt : j < n
    · obtain ⟨g, o, rfl, hg, hc0, hc1, hc2⟩ := h.at hlt
      rw [marksIm_getD hlt] at hc0 hc1 hc2
      unfold mkIm at hc0 hc1 hc2
      dsimp only at hc0 hc1 hc2
      have HC : Hid (∀ u, Below w.heap.size w u → u.cell? ⟨g, o + j * 3, none⟩ = some (.string (mkt (k0 + 3 * j))) ∧ u.cell? ⟨g, o + j * 3 + 1, none⟩ = some (.int .i64 ((k0 : Int) + 3 * (j : Int) + 1)) ∧ u.cell? ⟨g, o + j * 3 + 2, none⟩ = some (.string (mkt (k0 + 3 * j + 2)))) := Lib.hid (fun u hb => ⟨(hb.cell (p := ⟨g, o + j * 3, none⟩) hg).trans hc0, (hb.cell (p := ⟨g, o + j * 3 + 1, none⟩) hg).trans hc1, (hb.cell (p := ⟨g, o + j * 3 + 2, none⟩) hg).trans hc2⟩)
      have HMT0 : Hid (∀ (r : Int) (u : World), r = (k0 : Int) + 3 * (j : Int) → Calls Tryz.prog 76 #[.int .i64 r] u fun e w' => e = .returned (.string (mkt (k0 + 3 * j))) ∧ Below u.heap.size u w') := Lib.hid (fun r u hr => by
        have hm := markText_any (k0 + 3 * j) (w := u) (by omega) (by omega)
        rwa [show ((k0 + 3 * j : Nat) : Int) = r by omega] at hm)
      have HMT2 : Hid (∀ (r : Int) (u : World), r = (k0 : Int) + 3 * (j : Int) + 1 + 1 → Calls Tryz.prog 76 #[.int .i64 r] u fun e w' => e = .returned (.string (mkt (k0 + 3 * j + 2))) ∧ Below u.heap.size u w') := Lib.hid (fun r u hr => by
        have hm := markText_any (k0 + 3 * j + 2) (w := u) (by omega) (by omega)
        rwa [show ((k0 + 3 * j + 2 : Nat) : Int) = r by omega] at hm)
      generalize mkt (k0 + 3 * j) = t0 at *
      generalize mkt (k0 + 3 * j + 2) = t2 at *
      clear hc0 hc1 hc2 h
      have hFn := hB
      go_wp2_with fail
      replace hFn := hFn.drew
      go_region_held3 (fun u => u.cell? ⟨g, o + j * 3, none⟩ = some (.string t0)) (exact (HC.out _ hFn).1)
        (first | (go_at_call 76; refine Calls.mono (HMT0.out _ _ rfl) ?_; rintro e w1 ⟨rfl, hb⟩; have hFn := hFn.trans (hb.mono hFn.size)))
      all_goals
        obtain ⟨c0, c1, c2⟩ := HC.out _ hFn
        clear c0 c2
        go_wp2_with fail
        clear c1
        replace hFn := hFn.drew
        go_region_held3 (fun u => u.cell? ⟨g, o + j * 3 + 2, none⟩ = some (.string t2)) (exact (HC.out _ hFn).2.2)
          (first | (go_at_call 76; refine Calls.mono (HMT2.out _ _ rfl) ?_; rintro e w1 ⟨rfl, hb⟩; have hFn := hFn.trans (hb.mono hFn.size)))
        all_goals
          go_wp2_with fail
          go_roundw
          case rel => exact ⟨j + 1, by omega, by go_num, by go_num, hFn⟩
          case measure => simp [intOf] <;> omega
    · obtain rfl : j = n := by omega
      have HB := Lib.hid hB
      clear hB h
      go_wp2_with fail
      go_ret
      exact ⟨rfl, HB.out⟩
end Go.Proofs.YtidcpdfhnhfelaaGreatDoor

/- A deed by its cells; what the laws' own functions on one deed answer. -/
namespace Go.Proofs.YtidcpdfhnhfelaaGreatDoor
open Go.RowKit Go.PlainAid G MGF IRow
set_option linter.unusedVariables false
/-- A deed. -/
structure Dd where
  kd : Int
  gn : Int
  nd : Int
  mn : Int
  ck : Int
  no : Int
  lk : ByteArray
  nm : ByteArray
  tm : Int
  bd : ByteArray
def ddD : Dd := ⟨0, 0, 0, 0, 0, 0, ByteArray.empty, ByteArray.empty, 0, ByteArray.empty⟩
/-- A deed in memory. -/
def ddE : Enc Dd := ⟨10, fun e => [.int .i64 e.kd, .int .i64 e.gn, .int .i64 e.nd, .int .i64 e.mn, .int .i64 e.ck, .int .i64 e.no, .string e.lk, .string e.nm, .int .i64 e.tm, .string e.bd], fun _ => rfl, by intro x v hv; simp at hv; rcases hv with rfl | rfl | rfl | rfl | rfl | rfl | rfl | rfl | rfl | rfl <;> rfl⟩
theorem eqConf_same (q0 q1 q2 q3 : Int) (w : World) :
    Calls Tryz.prog 31 #[.agg #[.int .i64 q0, .int .i64 q1, .int .i64 q2, .int .i64 q3], .agg #[.int .i64 q0, .int .i64 q1, .int .i64 q2, .int .i64 q3]] w fun e w' => e = .returned (.bool true) ∧ Below w.heap.size w w' := by
  go_enter Tryz.func31, Tryz.ntmps31
  go_wp2_with fail
  go_ret
  exact ⟨rfl, ((Below.refl _ _).alloc (Nat.le_refl _) _).alloc (by simp) _⟩
end Go.Proofs.YtidcpdfhnhfelaaGreatDoor

