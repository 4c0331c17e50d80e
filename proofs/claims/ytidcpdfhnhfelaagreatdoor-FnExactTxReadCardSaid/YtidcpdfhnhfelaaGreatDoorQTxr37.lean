/- Texts put together: what the law uses of them. -/
import Derived.Test.YtidcpdfhnhfelaaGreatDoorQTxr20
import Derived.Test.YtidcpdfhnhfelaaGreatDoorQTxr23
import Derived.Test.YtidcpdfhnhfelaaGreatDoorQTxr00
/- Rows of deeds: an element by its cells; what the laws' own functions on such rows answer. -/
namespace Go.Proofs.YtidcpdfhnhfelaaGreatDoor
open Go.RowKit Go.PlainAid G MGF IRow
set_option linter.unusedVariables false
/-- A row of deeds that can be read. -/
abbrev DdR (w : World) (a : Option Addr) (n cap : Nat) (l : List Dd) : Prop := SR ddE ddD w a n cap l
theorem DdR.at {w : World} {a : Option Addr} {n cap : Nat} {l : List Dd} (h : DdR w a n cap l) {i : Nat} (hi : i < n) : ∃ g o, a = some ⟨g, o, none⟩ ∧ g < w.heap.size ∧ w.cell? ⟨g, o + i * 10, none⟩ = some (.int .i64 (l.getD i ddD).kd) ∧ w.cell? ⟨g, o + i * 10 + 1, none⟩ = some (.int .i64 (l.getD i ddD).gn) ∧ w.cell? ⟨g, o + i * 10 + 2, none⟩ = some (.int .i64 (l.getD i ddD).nd) ∧ w.cell? ⟨g, o + i * 10 + 3, none⟩ = some (.int .i64 (l.getD i ddD).mn) ∧ w.cell? ⟨g, o + i * 10 + 4, none⟩ = some (.int .i64 (l.getD i ddD).ck) ∧ w.cell? ⟨g, o + i * 10 + 5, none⟩ = some (.int .i64 (l.getD i ddD).no) ∧ w.cell? ⟨g, o + i * 10 + 6, none⟩ = some (.string (l.getD i ddD).lk) ∧ w.cell? ⟨g, o + i * 10 + 7, none⟩ = some (.string (l.getD i ddD).nm) ∧ w.cell? ⟨g, o + i * 10 + 8, none⟩ = some (.int .i64 (l.getD i ddD).tm) ∧ w.cell? ⟨g, o + i * 10 + 9, none⟩ = some (.string (l.getD i ddD).bd) := by
  obtain ⟨g, o, ha, hg, hc⟩ := h.cells (by omega)
  exact ⟨g, o, ha, hg, hc i hi 0 _ rfl, hc i hi 1 _ rfl, hc i hi 2 _ rfl, hc i hi 3 _ rfl, hc i hi 4 _ rfl, hc i hi 5 _ rfl, hc i hi 6 _ rfl, hc i hi 7 _ rfl, hc i hi 8 _ rfl, hc i hi 9 _ rfl⟩
theorem DdR.own {w : World} {base n cap : Nat} {a : Option Addr} {e : TypeId} {l : List Dd} (h : w.ownsRow base e ddE.k (.slice a n cap) n (ddE.flat l)) : DdR w a n cap l := SR.own (by decide) h
theorem DdR.olen {w : World} {base n cap : Nat} {a : Option Addr} {e : TypeId} {l : List Dd} (h : w.ownsRow base e ddE.k (.slice a n cap) n (ddE.flat l)) : l.length = n := by
  have := h.1; rw [ddE.flat_length] at this; exact Nat.eq_of_mul_eq_mul_right (show 0 < ddE.k by decide) this
theorem infoDeed : (Tryz.prog.info? 110).map (fun i => (i.zero, i.size, i.bytes)) = some (some (.agg #[.int .i64 0, .int .i64 0, .int .i64 0, .int .i64 0, .int .i64 0, .int .i64 0, .string ByteArray.empty, .string ByteArray.empty, .int .i64 0, .string ByteArray.empty]), 10, 104) := by kernel_rfl
theorem DdR.set0 {w : World} {base g n cap : Nat} {e : TypeId} {ps : List Dd} (h : w.ownsRow base e ddE.k (.slice (some ⟨g, 0, none⟩) n cap) n (ddE.flat ps)) {i : Nat} (hi : i < n) (v : Int) :
    (w.setCell ⟨g, i * 10, none⟩ (.int .i64 v)).ownsRow base e ddE.k (.slice (some ⟨g, 0, none⟩) n cap) n (ddE.flat (ps.set i ⟨v, (ps.getD i ddD).gn, (ps.getD i ddD).nd, (ps.getD i ddD).mn, (ps.getD i ddD).ck, (ps.getD i ddD).no, (ps.getD i ddD).lk, (ps.getD i ddD).nm, (ps.getD i ddD).tm, (ps.getD i ddD).bd⟩)) ∧ w.grownBy (w.setCell ⟨g, i * 10, none⟩ (.int .i64 v)) (some g) := by
  have hl := DdR.olen h
  obtain ⟨h1, g1⟩ := h.stored (i * 10) (.int .i64 v)
  have e1 : (ddE.flat ps).set (i * 10) (.int .i64 v) = ddE.flat (ps.set i ⟨v, (ps.getD i ddD).gn, (ps.getD i ddD).nd, (ps.getD i ddD).mn, (ps.getD i ddD).ck, (ps.getD i ddD).no, (ps.getD i ddD).lk, (ps.getD i ddD).nm, (ps.getD i ddD).tm, (ps.getD i ddD).bd⟩) := flat_setX ddE ddD ps i 0 _ _ (by omega) (by decide) rfl
  rw [e1] at h1
  exact ⟨h1, g1⟩
theorem DdR.set1 {w : World} {base g n cap : Nat} {e : TypeId} {ps : List Dd} (h : w.ownsRow base e ddE.k (.slice (some ⟨g, 0, none⟩) n cap) n (ddE.flat ps)) {i : Nat} (hi : i < n) (v : Int) :
    (w.setCell ⟨g, i * 10 + 1, none⟩ (.int .i64 v)).ownsRow base e ddE.k (.slice (some ⟨g, 0, none⟩) n cap) n (ddE.flat (ps.set i ⟨(ps.getD i ddD).kd, v, (ps.getD i ddD).nd, (ps.getD i ddD).mn, (ps.getD i ddD).ck, (ps.getD i ddD).no, (ps.getD i ddD).lk, (ps.getD i ddD).nm, (ps.getD i ddD).tm, (ps.getD i ddD).bd⟩)) ∧ w.grownBy (w.setCell ⟨g, i * 10 + 1, none⟩ (.int .i64 v)) (some g) := by
  have hl := DdR.olen h
  obtain ⟨h1, g1⟩ := h.stored (i * 10 + 1) (.int .i64 v)
  have e1 : (ddE.flat ps).set (i * 10 + 1) (.int .i64 v) = ddE.flat (ps.set i ⟨(ps.getD i ddD).kd, v, (ps.getD i ddD).nd, (ps.getD i ddD).mn, (ps.getD i ddD).ck, (ps.getD i ddD).no, (ps.getD i ddD).lk, (ps.getD i ddD).nm, (ps.getD i ddD).tm, (ps.getD i ddD).bd⟩) := flat_setX ddE ddD ps i 1 _ _ (by omega) (by decide) rfl
  rw [e1] at h1
  exact ⟨h1, g1⟩
theorem DdR.set2 {w : World} {base g n cap : Nat} {e : TypeId} {ps : List Dd} (h : w.ownsRow base e ddE.k (.slice (some ⟨g, 0, none⟩) n cap) n (ddE.flat ps)) {i : Nat} (hi : i < n) (v : Int) :
    (w.setCell ⟨g, i * 10 + 2, none⟩ (.int .i64 v)).ownsRow base e ddE.k (.slice (some ⟨g, 0, none⟩) n cap) n (ddE.flat (ps.set i ⟨(ps.getD i ddD).kd, (ps.getD i ddD).gn, v, (ps.getD i ddD).mn, (ps.getD i ddD).ck, (ps.getD i ddD).no, (ps.getD i ddD).lk, (ps.getD i ddD).nm, (ps.getD i ddD).tm, (ps.getD i ddD).bd⟩)) ∧ w.grownBy (w.setCell ⟨g, i * 10 + 2, none⟩ (.int .i64 v)) (some g) := by
  have hl := DdR.olen h
  obtain ⟨h1, g1⟩ := h.stored (i * 10 + 2) (.int .i64 v)
  have e1 : (ddE.flat ps).set (i * 10 + 2) (.int .i64 v) = ddE.flat (ps.set i ⟨(ps.getD i ddD).kd, (ps.getD i ddD).gn, v, (ps.getD i ddD).mn, (ps.getD i ddD).ck, (ps.getD i ddD).no, (ps.getD i ddD).lk, (ps.getD i ddD).nm, (ps.getD i ddD).tm, (ps.getD i ddD).bd⟩) := flat_setX ddE ddD ps i 2 _ _ (by omega) (by decide) rfl
  rw [e1] at h1
  exact ⟨h1, g1⟩
theorem DdR.set3 {w : World} {base g n cap : Nat} {e : TypeId} {ps : List Dd} (h : w.ownsRow base e ddE.k (.slice (some ⟨g, 0, none⟩) n cap) n (ddE.flat ps)) {i : Nat} (hi : i < n) (v : Int) :
    (w.setCell ⟨g, i * 10 + 3, none⟩ (.int .i64 v)).ownsRow base e ddE.k (.slice (some ⟨g, 0, none⟩) n cap) n (ddE.flat (ps.set i ⟨(ps.getD i ddD).kd, (ps.getD i ddD).gn, (ps.getD i ddD).nd, v, (ps.getD i ddD).ck, (ps.getD i ddD).no, (ps.getD i ddD).lk, (ps.getD i ddD).nm, (ps.getD i ddD).tm, (ps.getD i ddD).bd⟩)) ∧ w.grownBy (w.setCell ⟨g, i * 10 + 3, none⟩ (.int .i64 v)) (some g) := by
  have hl := DdR.olen h
  obtain ⟨h1, g1⟩ := h.stored (i * 10 + 3) (.int .i64 v)
  have e1 : (ddE.flat ps).set (i * 10 + 3) (.int .i64 v) = ddE.flat (ps.set i ⟨(ps.getD i ddD).kd, (ps.getD i ddD).gn, (ps.getD i ddD).nd, v, (ps.getD i ddD).ck, (ps.getD i ddD).no, (ps.getD i ddD).lk, (ps.getD i ddD).nm, (ps.getD i ddD).tm, (ps.getD i ddD).bd⟩) := flat_setX ddE ddD ps i 3 _ _ (by omega) (by decide) rfl
  rw [e1] at h1
  exact ⟨h1, g1⟩
theorem DdR.set4 {w : World} {base g n cap : Nat} {e : TypeId} {ps : List Dd} (h : w.ownsRow base e ddE.k (.slice (some ⟨g, 0, none⟩) n cap) n (ddE.flat ps)) {i : Nat} (hi : i < n) (v : Int) :
    (w.setCell ⟨g, i * 10 + 4, none⟩ (.int .i64 v)).ownsRow base e ddE.k (.slice (some ⟨g, 0, none⟩) n cap) n (ddE.flat (ps.set i ⟨(ps.getD i ddD).kd, (ps.getD i ddD).gn, (ps.getD i ddD).nd, (ps.getD i ddD).mn, v, (ps.getD i ddD).no, (ps.getD i ddD).lk, (ps.getD i ddD).nm, (ps.getD i ddD).tm, (ps.getD i ddD).bd⟩)) ∧ w.grownBy (w.setCell ⟨g, i * 10 + 4, none⟩ (.int .i64 v)) (some g) := by
  have hl := DdR.olen h
  obtain ⟨h1, g1⟩ := h.stored (i * 10 + 4) (.int .i64 v)
  have e1 : (ddE.flat ps).set (i * 10 + 4) (.int .i64 v) = ddE.flat (ps.set i ⟨(ps.getD i ddD).kd, (ps.getD i ddD).gn, (ps.getD i ddD).nd, (ps.getD i ddD).mn, v, (ps.getD i ddD).no, (ps.getD i ddD).lk, (ps.getD i ddD).nm, (ps.getD i ddD).tm, (ps.getD i ddD).bd⟩) := flat_setX ddE ddD ps i 4 _ _ (by omega) (by decide) rfl
  rw [e1] at h1
  exact ⟨h1, g1⟩
theorem DdR.set5 {w : World} {base g n cap : Nat} {e : TypeId} {ps : List Dd} (h : w.ownsRow base e ddE.k (.slice (some ⟨g, 0, none⟩) n cap) n (ddE.flat ps)) {i : Nat} (hi : i < n) (v : Int) :
    (w.setCell ⟨g, i * 10 + 5, none⟩ (.int .i64 v)).ownsRow base e ddE.k (.slice (some ⟨g, 0, none⟩) n cap) n (ddE.flat (ps.set i ⟨(ps.getD i ddD).kd, (ps.getD i ddD).gn, (ps.getD i ddD).nd, (ps.getD i ddD).mn, (ps.getD i ddD).ck, v, (ps.getD i ddD).lk, (ps.getD i ddD).nm, (ps.getD i ddD).tm, (ps.getD i ddD).bd⟩)) ∧ w.grownBy (w.setCell ⟨g, i * 10 + 5, none⟩ (.int .i64 v)) (some g) := by
  have hl := DdR.olen h
  obtain ⟨h1, g1⟩ := h.stored (i * 10 + 5) (.int .i64 v)
  have e1 : (ddE.flat ps).set (i * 10 + 5) (.int .i64 v) = ddE.flat (ps.set i ⟨(ps.getD i ddD).kd, (ps.getD i ddD).gn, (ps.getD i ddD).nd, (ps.getD i ddD).mn, (ps.getD i ddD).ck, v, (ps.getD i ddD).lk, (ps.getD i ddD).nm, (ps.getD i ddD).tm, (ps.getD i ddD).bd⟩) := flat_setX ddE ddD ps i 5 _ _ (by omega) (by decide) rfl
  rw [e1] at h1
  exact ⟨h1, g1⟩
theorem DdR.set6 {w : World} {base g n cap : Nat} {e : TypeId} {ps : List Dd} (h : w.ownsRow base e ddE.k (.slice (some ⟨g, 0, none⟩) n cap) n (ddE.flat ps)) {i : Nat} (hi : i < n) (v : ByteArray) :
    (w.setCell ⟨g, i * 10 + 6, none⟩ (.string v)).ownsRow base e ddE.k (.slice (some ⟨g, 0, none⟩) n cap) n (ddE.flat (ps.set i ⟨(ps.getD i ddD).kd, (ps.getD i ddD).gn, (ps.getD i ddD).nd, (ps.getD i ddD).mn, (ps.getD i ddD).ck, (ps.getD i ddD).no, v, (ps.getD i ddD).nm, (ps.getD i ddD).tm, (ps.getD i ddD).bd⟩)) ∧ w.grownBy (w.setCell ⟨g, i * 10 + 6, none⟩ (.string v)) (some g) := by
  have hl := DdR.olen h
  obtain ⟨h1, g1⟩ := h.stored (i * 10 + 6) (.string v)
  have e1 : (ddE.flat ps).set (i * 10 + 6) (.string v) = ddE.flat (ps.set i ⟨(ps.getD i ddD).kd, (ps.getD i ddD).gn, (ps.getD i ddD).nd, (ps.getD i ddD).mn, (ps.getD i ddD).ck, (ps.getD i ddD).no, v, (ps.getD i ddD).nm, (ps.getD i ddD).tm, (ps.getD i ddD).bd⟩) := flat_setX ddE ddD ps i 6 _ _ (by omega) (by decide) rfl
  rw [e1] at h1
  exact ⟨h1, g1⟩
theorem DdR.set7 {w : World} {base g n cap : Nat} {e : TypeId} {ps : List Dd} (h : w.ownsRow base e ddE.k (.slice (some ⟨g, 0, none⟩) n cap) n (ddE.flat ps)) {i : Nat} (hi : i < n) (v : ByteArray) :
    (w.setCell ⟨g, i * 10 + 7, none⟩ (.string v)).ownsRow base e ddE.k (.slice (some ⟨g, 0, none⟩) n cap) n (ddE.flat (ps.set i ⟨(ps.getD i ddD).kd, (ps.getD i ddD).gn, (ps.getD i ddD).nd, (ps.getD i ddD).mn, (ps.getD i ddD).ck, (ps.getD i ddD).no, (ps.getD i ddD).lk, v, (ps.getD i ddD).tm, (ps.getD i ddD).bd⟩)) ∧ w.grownBy (w.setCell ⟨g, i * 10 + 7, none⟩ (.string v)) (some g) := by
  have hl := DdR.olen h
  obtain ⟨h1, g1⟩ := h.stored (i * 10 + 7) (.string v)
  have e1 : (ddE.flat ps).set (i * 10 + 7) (.string v) = ddE.flat (ps.set i ⟨(ps.getD i ddD).kd, (ps.getD i ddD).gn, (ps.getD i ddD).nd, (ps.getD i ddD).mn, (ps.getD i ddD).ck, (ps.getD i ddD).no, (ps.getD i ddD).lk, v, (ps.getD i ddD).tm, (ps.getD i ddD).bd⟩) := flat_setX ddE ddD ps i 7 _ _ (by omega) (by decide) rfl
  rw [e1] at h1
  exact ⟨h1, g1⟩
theorem DdR.set8 {w : World} {base g n cap : Nat} {e : TypeId} {ps : List Dd} (h : w.ownsRow base e ddE.k (.slice (some ⟨g, 0, none⟩) n cap) n (ddE.flat ps)) {i : Nat} (hi : i < n) (v : Int) :
    (w.setCell ⟨g, i * 10 + 8, none⟩ (.int .i64 v)).ownsRow base e ddE.k (.slice (some ⟨g, 0, none⟩) n cap) n (ddE.flat (ps.set i ⟨(ps.getD i ddD).kd, (ps.getD i ddD).gn, (ps.getD i ddD).nd, (ps.getD i ddD).mn, (ps.getD i ddD).ck, (ps.getD i ddD).no, (ps.getD i ddD).lk, (ps.getD i ddD).nm, v, (ps.getD i ddD).bd⟩)) ∧ w.grownBy (w.setCell ⟨g, i * 10 + 8, none⟩ (.int .i64 v)) (some g) := by
  have hl := DdR.olen h
  obtain ⟨h1, g1⟩ := h.stored (i * 10 + 8) (.int .i64 v)
  have e1 : (ddE.flat ps).set (i * 10 + 8) (.int .i64 v) = ddE.flat (ps.set i ⟨(ps.getD i ddD).kd, (ps.getD i ddD).gn, (ps.getD i ddD).nd, (ps.getD i ddD).mn, (ps.getD i ddD).ck, (ps.getD i ddD).no, (ps.getD i ddD).lk, (ps.getD i ddD).nm, v, (ps.getD i ddD).bd⟩) := flat_setX ddE ddD ps i 8 _ _ (by omega) (by decide) rfl
  rw [e1] at h1
  exact ⟨h1, g1⟩
theorem DdR.set9 {w : World} {base g n cap : Nat} {e : TypeId} {ps : List Dd} (h : w.ownsRow base e ddE.k (.slice (some ⟨g, 0, none⟩) n cap) n (ddE.flat ps)) {i : Nat} (hi : i < n) (v : ByteArray) :
    (w.setCell ⟨g, i * 10 + 9, none⟩ (.string v)).ownsRow base e ddE.k (.slice (some ⟨g, 0, none⟩) n cap) n (ddE.flat (ps.set i ⟨(ps.getD i ddD).kd, (ps.getD i ddD).gn, (ps.getD i ddD).nd, (ps.getD i ddD).mn, (ps.getD i ddD).ck, (ps.getD i ddD).no, (ps.getD i ddD).lk, (ps.getD i ddD).nm, (ps.getD i ddD).tm, v⟩)) ∧ w.grownBy (w.setCell ⟨g, i * 10 + 9, none⟩ (.string v)) (some g) := by
  have hl := DdR.olen h
  obtain ⟨h1, g1⟩ := h.stored (i * 10 + 9) (.string v)
  have e1 : (ddE.flat ps).set (i * 10 + 9) (.string v) = ddE.flat (ps.set i ⟨(ps.getD i ddD).kd, (ps.getD i ddD).gn, (ps.getD i ddD).nd, (ps.getD i ddD).mn, (ps.getD i ddD).ck, (ps.getD i ddD).no, (ps.getD i ddD).lk, (ps.getD i ddD).nm, (ps.getD i ddD).tm, v⟩) := flat_setX ddE ddD ps i 9 _ _ (by omega) (by decide) rfl
  rw [e1] at h1
  exact ⟨h1, g1⟩
set_option maxRecDepth 100000 in
set_option maxHeartbeats 1600000 in
theorem eqDeedS_same (a b : Option Addr) (n cap cbp : Nat) (l : List Dd) (w : World) (h : DdR w a n cap l) (k : DdR w b n cbp l) (hn : n ≤ 1048576) :
    Calls Tryz.prog 26 #[.slice a n cap, .slice b n cbp] w fun e w' => e = .returned (.bool true) ∧ Below w.heap.size w w' := by
  go_enter Tryz.func26, Tryz.ntmps26
  go_wp2_with fail
  go_loopw [5] (fun i wr => ∃ j : Nat, j ≤ n ∧ i = .int .i64 j ∧ Below w.heap.size w wr) (fun i _ => n - (intOf i).toNat)
  case atStart => exact ⟨0, Nat.zero_le _, rfl, Below.refl _ _⟩
  case round =>
    obtain ⟨j, hj, rfl, hB⟩ := hrel
    have HB := Lib.hid hB.drew
    by_cases hlt : j < n
    · obtain ⟨g, o, rfl, hg, hc0, hc1, hc2, hc3, hc4, hc5, hc6, hc7, hc8, hc9⟩ := h.at hlt
      obtain ⟨g', o', rfl, hg', hd0, hd1, hd2, hd3, hd4, hd5, hd6, hd7, hd8, hd9⟩ := k.at hlt
      have a0 := (hB.cell (p := ⟨g, o + j * 10, none⟩) hg).trans hc0
      have a1 := (hB.cell (p := ⟨g, o + j * 10 + 1, none⟩) hg).trans hc1
      have a2 := (hB.cell (p := ⟨g, o + j * 10 + 2, none⟩) hg).trans hc2
      have a3 := (hB.cell (p := ⟨g, o + j * 10 + 3, none⟩) hg).trans hc3
      have a4 := (hB.cell (p := ⟨g, o + j * 10 + 4, none⟩) hg).trans hc4
      have a5 := (hB.cell (p := ⟨g, o + j * 10 + 5, none⟩) hg).trans hc5
      have a6 := (hB.cell (p := ⟨g, o + j * 10 + 6, none⟩) hg).trans hc6
      have a7 := (hB.cell (p := ⟨g, o + j * 10 + 7, none⟩) hg).trans hc7
      have a8 := (hB.cell (p := ⟨g, o + j * 10 + 8, none⟩) hg).trans hc8
      have a9 := (hB.cell (p := ⟨g, o + j * 10 + 9, none⟩) hg).trans hc9
      have b0 := (hB.cell (p := ⟨g', o' + j * 10, none⟩) hg').trans hd0
      have b1 := (hB.cell (p := ⟨g', o' + j * 10 + 1, none⟩) hg').trans hd1
      have b2 := (hB.cell (p := ⟨g', o' + j * 10 + 2, none⟩) hg').trans hd2
      have b3 := (hB.cell (p := ⟨g', o' + j * 10 + 3, none⟩) hg').trans hd3
      have b4 := (hB.cell (p := ⟨g', o' + j * 10 + 4, none⟩) hg').trans hd4
      have b5 := (hB.cell (p := ⟨g', o' + j * 10 + 5, none⟩) hg').trans hd5
      have b6 := (hB.cell (p := ⟨g', o' + j * 10 + 6, none⟩) hg').trans hd6
      have b7 := (hB.cell (p := ⟨g', o' + j * 10 + 7, none⟩) hg').trans hd7
      have b8 := (hB.cell (p := ⟨g', o' + j * 10 + 8, none⟩) hg').trans hd8
      have b9 := (hB.cell (p := ⟨g', o' + j * 10 + 9, none⟩) hg').trans hd9
      generalize (l.getD j ddD).kd = q0 at *
      generalize (l.getD j ddD).gn = q1 at *
      generalize (l.getD j ddD).nd = q2 at *
      generalize (l.getD j ddD).mn = q3 at *
      generalize (l.getD j ddD).ck = q4 at *
      generalize (l.getD j ddD).no = q5 at *
      generalize (l.getD j ddD).lk = q6 at *
      generalize (l.getD j ddD).nm = q7 at *
      generalize (l.getD j ddD).tm = q8 at *
      generalize (l.getD j ddD).bd = q9 at *
      clear hc0 hc1 hc2 hc3 hc4 hc5 hc6 hc7 hc8 hc9 hd0 hd1 hd2 hd3 hd4 hd5 hd6 hd7 hd8 hd9 h k hB
      go_wp2_with fail
      go_still_tail 8, (by kernel_rfl)
      change wpList _ _ _ _ _ wr.drew
      clear a0 a1 a2 a3 a4 a5 a6 a7 a8 a9 b0 b1 b2 b3 b4 b5 b6 b7 b8 b9
      generalize wr.drew = we at *
      go_wp2_with fail
      refine (eqDeed_same q0 q1 q2 q3 q4 q5 q6 q7 q8 q9 _).mono ?_
      rintro e w5 ⟨rfl, hb⟩
      have HB5 := Lib.hid (HB.out.trans (hb.mono HB.out.size))
      clear hb
      go_wp2_with fail
      go_roundw
      case rel => exact ⟨j + 1, by omega, by go_num, HB5.out⟩
      case measure => simp [intOf] <;> omega
    · obtain rfl : j = n := by omega
      have HB2 := Lib.hid hB
      clear h k hB
      go_wp2_with fail
      go_ret
      exact ⟨rfl, HB2.out⟩
/-- The j-th marks. -/
def mkDd (k j : Nat) : Dd := ⟨(k : Int) + 10 * (j : Int), (k : Int) + 10 * (j : Int) + 1, (k : Int) + 10 * (j : Int) + 2, (k : Int) + 10 * (j : Int) + 3, (k : Int) + 10 * (j : Int) + 4, (k : Int) + 10 * (j : Int) + 5, mkt (k + 10 * j + 6), mkt (k + 10 * j + 7), (k : Int) + 10 * (j : Int) + 8, mkt (k + 10 * j + 9)⟩
def marksDd (k n : Nat) : List Dd := (List.range n).map (mkDd k)
theorem marksDd_length (k n : Nat) : (marksDd k n).length = n := by simp [marksDd]
theorem marksDd_getD {k n j : Nat} (h : j < n) : (marksDd k n).getD j ddD = mkDd k j := by simp [marksDd, List.getD, h]
set_option maxRecDepth 100000 in
set_option maxHeartbeats 6400000 in
theorem markDeedS_any (a : Option Addr) (base n cap : Nat) (zs : List Dd) (k0 : Nat) (w : World) (h : w.ownsRow base 110 ddE.k (.slice a n cap) n (ddE.flat zs)) (hn : n ≤ 1048576) (hk0 : 0 < k0) (hk1 : k0 ≤ 1099511627776) :
    Calls Tryz.prog 27 #[.slice a n cap, .int .i64 (k0 : Int)] w fun e w' => e = .returned (.int .i64 ((k0 : Int) + 10 * (n : Int))) ∧ w'.ownsRow base 110 ddE.k (.slice a n cap) n (ddE.flat (marksDd k0 n)) ∧ w.grownBy w' (Value.slice a n cap).ownBlock := by
  have hl := DdR.olen h
  have HML := Lib.hid (marksDd_length k0 n)
  have HZL := Lib.hid hl
  clear hl
  go_enter Tryz.func27, Tryz.ntmps27
  go_wp2_with fail
  go_loopw [1, 5] (fun k i wr => ∃ j : Nat, j ≤ n ∧ i = .int .i64 j ∧ k = .int .i64 ((k0 : Int) + 10 * (j : Int)) ∧ wr.ownsRow base 110 ddE.k (.slice a n cap) n (ddE.flat (mixX (marksDd k0 n) zs j)) ∧ w.grownBy wr (Value.slice a n cap).ownBlock) (fun _ i _ => n - (intOf i).toNat)
  case atStart => exact ⟨0, Nat.zero_le _, rfl, by simp, by rw [mixX_zero]; exact h, ⟨rfl, rfl, rfl, Nat.le_refl _, fun _ _ _ => rfl⟩⟩
  case round =>
    obtain ⟨j, hj, rfl, rfl, hown, hg⟩ := hrel
    by_cases hlt : j < n
    · obtain ⟨g, c, hv, _, hgl⟩ := hown.form (by omega)
      simp only [Value.slice.injEq] at hv
      obtain ⟨rfl, _, rfl⟩ := hv
      have HMT6 : Hid (∀ (r : Int) (u : World), r = (k0 : Int) + 10 * (j : Int) + 1 + 1 + 1 + 1 + 1 + 1 → Calls Tryz.prog 76 #[.int .i64 r] u fun e w' => e = .returned (.string (mkt (k0 + 10 * j + 6))) ∧ Below u.heap.size u w') := Lib.hid (fun r u hr => by
        have hm := markText_any (k0 + 10 * j + 6) (w := u) (by omega) (by omega)
        rwa [show ((k0 + 10 * j + 6 : Nat) : Int) = r by omega] at hm)
      have HMT7 : Hid (∀ (r : Int) (u : World), r = (k0 : Int) + 10 * (j : Int) + 1 + 1 + 1 + 1 + 1 + 1 + 1 → Calls Tryz.prog 76 #[.int .i64 r] u fun e w' => e = .returned (.string (mkt (k0 + 10 * j + 7))) ∧ Below u.heap.size u w') := Lib.hid (fun r u hr => by
        have hm := markText_any (k0 + 10 * j + 7) (w := u) (by omega) (by omega)
        rwa [show ((k0 + 10 * j + 7 : Nat) : Int) = r by omega] at hm)
      have HMT9 : Hid (∀ (r : Int) (u : World), r = (k0 : Int) + 10 * (j : Int) + 1 + 1 + 1 + 1 + 1 + 1 + 1 + 1 + 1 → Calls Tryz.prog 76 #[.int .i64 r] u fun e w' => e = .returned (.string (mkt (k0 + 10 * j + 9))) ∧ Below u.heap.size u w') := Lib.hid (fun r u hr => by
        have hm := markText_any (k0 + 10 * j + 9) (w := u) (by omega) (by omega)
        rwa [show ((k0 + 10 * j + 9 : Nat) : Int) = r by omega] at hm)
      have HST := Lib.hid (mixX_set ddD (zs := marksDd k0 n) (ys := zs) (k := j) (by rw [HML.out, HZL.out]) (by rw [HML.out]; exact hlt))
      rw [marksDd_getD hlt] at HST
      have HMJ : Hid (j < (mixX (marksDd k0 n) zs j).length) := Lib.hid (by rw [mixX_length (by rw [HML.out, HZL.out]), HML.out]; exact hlt)
      have gd : ∀ (ps : List Dd) (p q : Dd), ((ps.set j p).set j q) = ps.set j q := fun ps p q => by rw [List.set_set]
      have ge : ∀ p : Dd, ((mixX (marksDd k0 n) zs j).set j p).getD j ddD = p := fun p => by simp [List.getD, HMJ.out]
      have GD := Lib.hid gd
      have GE := Lib.hid ge
      clear gd ge h
      have HO0 := Lib.hid hown
      have HG0 := Lib.hid hg
      clear hown hg
      obtain ⟨g', o', hge, _, x0, x1, x2, x3, x4, x5, x6, x7, x8, x9⟩ := (DdR.own HO0.out).at hlt
      simp only [Option.some.injEq, Addr.mk.injEq, and_true] at hge
      obtain ⟨rfl, rfl⟩ := hge
      rw [Nat.zero_add] at x0 x1 x2 x3 x4 x5 x6 x7 x8 x9
      have y0 := HO0.out.frozenAt (j * 10)
      have y1 := HO0.out.frozenAt (j * 10 + 1)
      have y2 := HO0.out.frozenAt (j * 10 + 2)
      have y3 := HO0.out.frozenAt (j * 10 + 3)
      have y4 := HO0.out.frozenAt (j * 10 + 4)
      have y5 := HO0.out.frozenAt (j * 10 + 5)
      clear x6 x7 x8 x9
      have s0 := DdR.set0 HO0.out hlt ((k0 : Int) + 10 * (j : Int))
      have s1 := DdR.set1 s0.1 hlt ((k0 : Int) + 10 * (j : Int) + 1)
      rw [GD.out, GE.out] at s1
      have s2 := DdR.set2 s1.1 hlt ((k0 : Int) + 10 * (j : Int) + 1 + 1)
      rw [GD.out, GE.out] at s2
      have s3 := DdR.set3 s2.1 hlt ((k0 : Int) + 10 * (j : Int) + 1 + 1 + 1)
      rw [GD.out, GE.out] at s3
      have s4 := DdR.set4 s3.1 hlt ((k0 : Int) + 10 * (j : Int) + 1 + 1 + 1 + 1)
      rw [GD.out, GE.out] at s4
      have s5 := DdR.set5 s4.1 hlt ((k0 : Int) + 10 * (j : Int) + 1 + 1 + 1 + 1 + 1)
      rw [GD.out, GE.out] at s5
      have HO6 := Lib.hid s5.1
      have HG6 := Lib.hid (grown_trans (grown_trans (grown_trans (grown_trans (grown_trans (grown_trans HG0.out s0.2) s1.2) s2.2) s3.2) s4.2) s5.2)
      clear s5 s4 s3 s2 s1 s0
      go_wp2_with fail
      clear x0 y0 x1 y1 x2 y2 x3 y3 x4 y4 x5 y5
      refine (HMT6.out _ _ (by omega)).mono ?_
      rintro e w5 ⟨rfl, hb⟩
      have hown5 := own_below HO6.out hb
      have hg5 := grown_trans HG6.out (fg_below hb)
      clear hb HO6 HG6
      obtain ⟨g', o', hge, _, x0, x1, x2, x3, x4, x5, x6, x7, x8, x9⟩ := (DdR.own hown5).at hlt
      simp only [Option.some.injEq, Addr.mk.injEq, and_true] at hge
      obtain ⟨rfl, rfl⟩ := hge
      rw [Nat.zero_add] at x0 x1 x2 x3 x4 x5 x6 x7 x8 x9
      have y6 := hown5.frozenAt (j * 10 + 6)
      clear x0 x1 x2 x3 x4 x5 x7 x8 x9
      have s6 := DdR.set6 hown5 hlt (mkt (k0 + 10 * j + 6))
      rw [GD.out, GE.out] at s6
      have HO7 := Lib.hid s6.1
      have HG7 := Lib.hid (grown_trans hg5 s6.2)
      clear s6
      clear hown5 hg5
      go_wp2_with fail
      clear x6 y6
      refine (HMT7.out _ _ (by omega)).mono ?_
      rintro e w5 ⟨rfl, hb⟩
      have hown5 := own_below HO7.out hb
      have hg5 := grown_trans HG7.out (fg_below hb)
      clear hb HO7 HG7
      obtain ⟨g', o', hge, _, x0, x1, x2, x3, x4, x5, x6, x7, x8, x9⟩ := (DdR.own hown5).at hlt
      simp only [Option.some.injEq, Addr.mk.injEq, and_true] at hge
      obtain ⟨rfl, rfl⟩ := hge
      rw [Nat.zero_add] at x0 x1 x2 x3 x4 x5 x6 x7 x8 x9
      have y7 := hown5.frozenAt (j * 10 + 7)
      have y8 := hown5.frozenAt (j * 10 + 8)
      clear x0 x1 x2 x3 x4 x5 x6 x9
      have s7 := DdR.set7 hown5 hlt (mkt (k0 + 10 * j + 7))
      rw [GD.out, GE.out] at s7
      have s8 := DdR.set8 s7.1 hlt ((k0 : Int) + 10 * (j : Int) + 1 + 1 + 1 + 1 + 1 + 1 + 1 + 1)
      rw [GD.out, GE.out] at s8
      have HO9 := Lib.hid s8.1
      have HG9 := Lib.hid (grown_trans (grown_trans hg5 s7.2) s8.2)
      clear s8 s7
      clear hown5 hg5
      go_wp2_with fail
      clear x7 y7 x8 y8
      refine (HMT9.out _ _ (by omega)).mono ?_
      rintro e w5 ⟨rfl, hb⟩
      have hown5 := own_below HO9.out hb
      have hg5 := grown_trans HG9.out (fg_below hb)
      clear hb HO9 HG9
      obtain ⟨g', o', hge, _, x0, x1, x2, x3, x4, x5, x6, x7, x8, x9⟩ := (DdR.own hown5).at hlt
      simp only [Option.some.injEq, Addr.mk.injEq, and_true] at hge
      obtain ⟨rfl, rfl⟩ := hge
      rw [Nat.zero_add] at x0 x1 x2 x3 x4 x5 x6 x7 x8 x9
      have y9 := hown5.frozenAt (j * 10 + 9)
      clear x0 x1 x2 x3 x4 x5 x6 x7 x8
      have s9 := DdR.set9 hown5 hlt (mkt (k0 + 10 * j + 9))
      rw [GD.out, GE.out] at s9
      have HO10 := Lib.hid s9.1
      have HG10 := Lib.hid (grown_trans hg5 s9.2)
      clear s9
      clear hown5 hg5
      go_wp2_with fail
      go_roundw
      case rel => exact ⟨j + 1, by omega, by go_num, by go_num, by rw [← HST.out]; exact HO10.out, HG10.out⟩
      case measure => simp [intOf] <;> omega
    · obtain rfl : j = n := by omega
      have hm : mixX (marksDd k0 j) zs j = marksDd k0 j := by
        have := mixX_all (zs := marksDd k0 j) (ys := zs) (by rw [HML.out, HZL.out])
        rwa [HML.out] at this
      rw [hm] at hown
      have HO := Lib.hid hown
      have HG := Lib.hid hg
      clear hown hg hm h
      go_wp2_with fail
      go_ret
      exact ⟨rfl, HO.out, HG.out⟩
set_option maxRecDepth 100000 in
set_option maxHeartbeats 6400000 in
theorem heldDeedS_any (a : Option Addr) (n cap k0 : Nat) (w : World) (h : DdR w a n cap (marksDd k0 n)) (hn : n ≤ 1048576) (hk0 : 0 < k0) (hk1 : k0 ≤ 1099511627776) :
    Calls Tryz.prog 28 #[.slice a n cap, .int .i64 (k0 : Int)] w fun e w' => e = .returned (.int .i64 ((k0 : Int) + 10 * (n : Int))) ∧ Below w.heap.size w w' := by
  go_enter Tryz.func28, Tryz.ntmps28
  go_wp2_with fail
  go_loopw [1, 5] (fun k i wr => ∃ j : Nat, j ≤ n ∧ i = .int .i64 j ∧ k = .int .i64 ((k0 : Int) + 10 * (j : Int)) ∧ Below w.heap.size w wr) (fun _ i _ => n - (intOf i).toNat)
  case atStart => exact ⟨0, Nat.zero_le _, rfl, by simp, Below.refl _ _⟩
  case round =>
    obtain ⟨j, hj, rfl, rfl, hB⟩ := hrel
    by_cases hlt : j < n
    · obtain ⟨g, o, rfl, hg, hc0, hc1, hc2, hc3, hc4, hc5, hc6, hc7, hc8, hc9⟩ := h.at hlt
      rw [marksDd_getD hlt] at hc0 hc1 hc2 hc3 hc4 hc5 hc6 hc7 hc8 hc9
      unfold mkDd at hc0 hc1 hc2 hc3 hc4 hc5 hc6 hc7 hc8 hc9
      dsimp only at hc0 hc1 hc2 hc3 hc4 hc5 hc6 hc7 hc8 hc9
      have HC : Hid (∀ u, Below w.heap.size w u → u.cell? ⟨g, o + j * 10, none⟩ = some (.int .i64 ((k0 : Int) + 10 * (j : Int))) ∧ u.cell? ⟨g, o + j * 10 + 1, none⟩ = some (.int .i64 ((k0 : Int) + 10 * (j : Int) + 1)) ∧ u.cell? ⟨g, o + j * 10 + 2, none⟩ = some (.int .i64 ((k0 : Int) + 10 * (j : Int) + 2)) ∧ u.cell? ⟨g, o + j * 10 + 3, none⟩ = some (.int .i64 ((k0 : Int) + 10 * (j : Int) + 3)) ∧ u.cell? ⟨g, o + j * 10 + 4, none⟩ = some (.int .i64 ((k0 : Int) + 10 * (j : Int) + 4)) ∧ u.cell? ⟨g, o + j * 10 + 5, none⟩ = some (.int .i64 ((k0 : Int) + 10 * (j : Int) + 5)) ∧ u.cell? ⟨g, o + j * 10 + 6, none⟩ = some (.string (mkt (k0 + 10 * j + 6))) ∧ u.cell? ⟨g, o + j * 10 + 7, none⟩ = some (.string (mkt (k0 + 10 * j + 7))) ∧ u.cell? ⟨g, o + j * 10 + 8, none⟩ = some (.int .i64 ((k0 : Int) + 10 * (j : Int) + 8)) ∧ u.cell? ⟨g, o + j * 10 + 9, none⟩ = some (.string (mkt (k0 + 10 * j + 9)))) := Lib.hid (fun u hb => ⟨(hb.cell (p := ⟨g, o + j * 10, none⟩) hg).trans hc0, (hb.cell (p := ⟨g, o + j * 10 + 1, none⟩) hg).trans hc1, (hb.cell (p := ⟨g, o + j * 10 + 2, none⟩) hg).trans hc2, (hb.cell (p := ⟨g, o + j * 10 + 3, none⟩) hg).trans hc3, (hb.cell (p := ⟨g, o + j * 10 + 4, none⟩) hg).trans hc4, (hb.cell (p := ⟨g, o + j * 10 + 5, none⟩) hg).trans hc5, (hb.cell (p := ⟨g, o + j * 10 + 6, none⟩) hg).trans hc6, (hb.cell (p := ⟨g, o + j * 10 + 7, none⟩) hg).trans hc7, (hb.cell (p := ⟨g, o + j * 10 + 8, none⟩) hg).trans hc8, (hb.cell (p := ⟨g, o + j * 10 + 9, none⟩) hg).trans hc9⟩)
      have HMT6 : Hid (∀ (r : Int) (u : World), r = (k0 : Int) + 10 * (j : Int) + 1 + 1 + 1 + 1 + 1 + 1 → Calls Tryz.prog 76 #[.int .i64 r] u fun e w' => e = .returned (.string (mkt (k0 + 10 * j + 6))) ∧ Below u.heap.size u w') := Lib.hid (fun r u hr => by
        have hm := markText_any (k0 + 10 * j + 6) (w := u) (by omega) (by omega)
        rwa [show ((k0 + 10 * j + 6 : Nat) : Int) = r by omega] at hm)
      have HMT7 : Hid (∀ (r : Int) (u : World), r = (k0 : Int) + 10 * (j : Int) + 1 + 1 + 1 + 1 + 1 + 1 + 1 → Calls Tryz.prog 76 #[.int .i64 r] u fun e w' => e = .returned (.string (mkt (k0 + 10 * j + 7))) ∧ Below u.heap.size u w') := Lib.hid (fun r u hr => by
        have hm := markText_any (k0 + 10 * j + 7) (w := u) (by omega) (by omega)
        rwa [show ((k0 + 10 * j + 7 : Nat) : Int) = r by omega] at hm)
      have HMT9 : Hid (∀ (r : Int) (u : World), r = (k0 : Int) + 10 * (j : Int) + 1 + 1 + 1 + 1 + 1 + 1 + 1 + 1 + 1 → Calls Tryz.prog 76 #[.int .i64 r] u fun e w' => e = .returned (.string (mkt (k0 + 10 * j + 9))) ∧ Below u.heap.size u w') := Lib.hid (fun r u hr => by
        have hm := markText_any (k0 + 10 * j + 9) (w := u) (by omega) (by omega)
        rwa [show ((k0 + 10 * j + 9 : Nat) : Int) = r by omega] at hm)
      generalize mkt (k0 + 10 * j + 6) = t6 at *
      generalize mkt (k0 + 10 * j + 7) = t7 at *
      generalize mkt (k0 + 10 * j + 9) = t9 at *
      clear hc0 hc1 hc2 hc3 hc4 hc5 hc6 hc7 hc8 hc9 h
      have hFn := hB
      obtain ⟨c0, c1, c2, c3, c4, c5, c6, c7, c8, c9⟩ := HC.out _ hFn
      clear c6 c7 c8 c9
      go_wp2_with fail
      clear c0 c1 c2 c3 c4 c5
      replace hFn := hFn.drew
      go_region_held3 (fun u => u.cell? ⟨g, o + j * 10 + 6, none⟩ = some (.string t6)) (exact (HC.out _ hFn).2.2.2.2.2.2.1)
        (first | (go_at_call 76; refine Calls.mono (HMT6.out _ _ rfl) ?_; rintro e w1 ⟨rfl, hb⟩; have hFn := hFn.trans (hb.mono hFn.size)))
      all_goals
        go_wp2_with fail
        replace hFn := hFn.drew
        go_region_held3 (fun u => u.cell? ⟨g, o + j * 10 + 7, none⟩ = some (.string t7)) (exact (HC.out _ hFn).2.2.2.2.2.2.2.1)
          (first | (go_at_call 76; refine Calls.mono (HMT7.out _ _ rfl) ?_; rintro e w1 ⟨rfl, hb⟩; have hFn := hFn.trans (hb.mono hFn.size)))
        all_goals
          obtain ⟨c0, c1, c2, c3, c4, c5, c6, c7, c8, c9⟩ := HC.out _ hFn
          clear c0 c1 c2 c3 c4 c5 c6 c7 c9
          go_wp2_with fail
          clear c8
          replace hFn := hFn.drew
          go_region_held3 (fun u => u.cell? ⟨g, o + j * 10 + 9, none⟩ = some (.string t9)) (exact (HC.out _ hFn).2.2.2.2.2.2.2.2.2)
            (first | (go_at_call 76; refine Calls.mono (HMT9.out _ _ rfl) ?_; rintro e w1 ⟨rfl, hb⟩; have hFn := hFn.trans (hb.mono hFn.size)))
          all_goals
            go_wp2_with fail
            go_roundw
            case rel => exact ⟨j + 1, by omega, by go_num, by go_num, hFn⟩
            case measure => simp [intOf] <;> omega
    · obtain rfl : j = n := by omega
      have HB := Lib.hid hB
      clear hB h
      go_wp2_with fail
      go_ret
      exact ⟨rfl, HB.out⟩
end Go.Proofs.YtidcpdfhnhfelaaGreatDoor

