/- Rows of deeds: an element by its cells; what the laws' own functions on such rows answer. -/
import Derived.Test.YtnoefpkhbllmiaaGreatRowKit
import Derived.Test.YtnoefpkhbllmiaaGreatRowDeed1
namespace Go.Proofs.YtnoefpkhbllmiaaGreat
open Go.RowKit Go.PlainAid G MGF IRow
set_option linter.unusedVariables false
/-- A row of deeds that can be read. -/
abbrev DdR (w : World) (a : Option Addr) (n cap : Nat) (l : List Dd) : Prop := SR ddE ddD w a n cap l
theorem DdR.at {w : World} {a : Option Addr} {n cap : Nat} {l : List Dd} (h : DdR w a n cap l) {i : Nat} (hi : i < n) : ∃ g o, a = some ⟨g, o, none⟩ ∧ g < w.heap.size ∧ w.cell? ⟨g, o + i * 10, none⟩ = some (.int .i64 (l.getD i ddD).kd) ∧ w.cell? ⟨g, o + i * 10 + 1, none⟩ = some (.int .i64 (l.getD i ddD).gn) ∧ w.cell? ⟨g, o + i * 10 + 2, none⟩ = some (.int .i64 (l.getD i ddD).nd) ∧ w.cell? ⟨g, o + i * 10 + 3, none⟩ = some (.int .i64 (l.getD i ddD).mn) ∧ w.cell? ⟨g, o + i * 10 + 4, none⟩ = some (.int .i64 (l.getD i ddD).ck) ∧ w.cell? ⟨g, o + i * 10 + 5, none⟩ = some (.int .i64 (l.getD i ddD).no) ∧ w.cell? ⟨g, o + i * 10 + 6, none⟩ = some (.string (l.getD i ddD).lk) ∧ w.cell? ⟨g, o + i * 10 + 7, none⟩ = some (.string (l.getD i ddD).nm) ∧ w.cell? ⟨g, o + i * 10 + 8, none⟩ = some (.int .i64 (l.getD i ddD).tm) ∧ w.cell? ⟨g, o + i * 10 + 9, none⟩ = some (.string (l.getD i ddD).bd) := by
  obtain ⟨g, o, ha, hg, hc⟩ := h.cells (by omega)
  exact ⟨g, o, ha, hg, hc i hi 0 _ rfl, hc i hi 1 _ rfl, hc i hi 2 _ rfl, hc i hi 3 _ rfl, hc i hi 4 _ rfl, hc i hi 5 _ rfl, hc i hi 6 _ rfl, hc i hi 7 _ rfl, hc i hi 8 _ rfl, hc i hi 9 _ rfl⟩
theorem DdR.own {w : World} {base n cap : Nat} {a : Option Addr} {e : TypeId} {l : List Dd} (h : w.ownsRow base e ddE.k (.slice a n cap) n (ddE.flat l)) : DdR w a n cap l := SR.own (by decide) h
theorem DdR.olen {w : World} {base n cap : Nat} {a : Option Addr} {e : TypeId} {l : List Dd} (h : w.ownsRow base e ddE.k (.slice a n cap) n (ddE.flat l)) : l.length = n := by
  have := h.1; rw [ddE.flat_length] at this; exact Nat.eq_of_mul_eq_mul_right (show 0 < ddE.k by decide) this
theorem infoDeed : (Tryz.prog.info? 48).map (fun i => (i.zero, i.size, i.bytes)) = some (some (.agg #[.int .i64 0, .int .i64 0, .int .i64 0, .int .i64 0, .int .i64 0, .int .i64 0, .string ByteArray.empty, .string ByteArray.empty, .int .i64 0, .string ByteArray.empty]), 10, 104) := by kernel_rfl
theorem DdR.set0 {w : World} {base g n cap : Nat} {e : TypeId} {ps : List Dd} (h : w.ownsRow base e ddE.k (.slice (some ⟨g, 0, none⟩) n cap) n (ddE.flat ps)) {i : Nat} (hi : i < n) (v : Int) :
    (w.setCell ⟨g, i * 10, none⟩ (.int .i64 v)).ownsRow base e ddE.k (.slice (some ⟨g, 0, none⟩) n cap) n (ddE.flat (ps.set i ⟨v, (ps.getD i ddD).gn, (ps.getD i ddD).nd, (ps.getD i ddD).mn, (ps.getD i ddD).ck, (ps.getD i ddD).no, (ps.getD i ddD).lk, (ps.getD i ddD).nm, (ps.getD i ddD).tm, (ps.getD i ddD).bd⟩)) ∧ w.grownBy (w.setCell ⟨g, i * 10, none⟩ (.int .i64 v)) (some g) := by
  have hl := DdR.olen h
  obtain ⟨h1, g1⟩ := h.stored (i * 10) (.int .i64 v)
  have e1 : (ddE.flat ps).set (i * 10) (.int .i64 v) = ddE.flat (ps.set i ⟨v, (ps.getD i ddD).gn, (ps.getD i ddD).nd, (ps.getD i ddD).mn, (ps.getD i ddD).ck, (ps.getD i ddD).no, (ps.getD i ddD).lk, (ps.getD i ddD).nm, (ps.getD i ddD).tm, (ps.getD i ddD).bd⟩) := flat_setX ddE ddD ps i 0 _ _ (by omega) (by decide) rfl
  rw [e1] at h1
  exact ⟨h1, g1⟩
theorem DdR.set1 {w : World} {base g n cap : Nat} {e : TypeId} {ps : List Dd} (h : w.ownsRow base e ddE.k (.slice (some ⟨g, 0, none⟩) n cap) n (ddE.flat ps)) {i : Nat} (hi : i < n) (v : Int) :
    (w.setCell ⟨g, i * 10 + 1, none⟩ (.int .i64 v)).ownsRow base e ddE.k (.slice (some ⟨g, 0, none⟩) n cap) n (ddE.flat (ps.set i ⟨(ps.getD i ddD).kd, v, (ps.getD i ddD).nd, (ps.getD i ddD).mn, (ps.getD i ddD).ck, (ps.getD i ddD).no, (ps.getD i ddD).lk, (ps.getD i ddD).nm, (ps.getD i ddD).tm, (ps.getD i ddD).bd⟩)) ∧ w.grownBy (w.setCell ⟨g, i * 10 + 1, none⟩ (.int .i64 v)) (some g) := by
  have hl := DdR.olen h
  obtain ⟨h1, g1⟩ := h.stored (i * 10 + 1) (.int .i64 v)
  have e1 : (ddE.flat ps).set (i * 10 + 1) (.int .i64 v) = ddE.flat (ps.set i ⟨(ps.getD i ddD).kd, v, (ps.getD i ddD).nd, (ps.getD i ddD).mn, (ps.getD i ddD).ck, (ps.getD i ddD).no, (ps.getD i ddD).lk, (ps.getD i ddD).nm, (ps.getD i ddD).tm, (ps.getD i ddD).bd⟩) := flat_setX ddE ddD ps i 1 _ _ (by omega) (by decide) rfl
  rw [e1] at h1
  exact ⟨h1, g1⟩
theorem DdR.set2 {w : World} {base g n cap : Nat} {e : TypeId} {ps : List Dd} (h : w.ownsRow base e ddE.k (.slice (some ⟨g, 0, none⟩) n cap) n (ddE.flat ps)) {i : Nat} (hi : i < n) (v : Int) :
    (w.setCell ⟨g, i * 10 + 2, none⟩ (.int .i64 v)).ownsRow base e ddE.k (.slice (some ⟨g, 0, none⟩) n cap) n (ddE.flat (ps.set i ⟨(ps.getD i ddD).kd, (ps.getD i ddD).gn, v, (ps.getD i ddD).mn, (ps.getD i ddD).ck, (ps.getD i ddD).no, (ps.getD i ddD).lk, (ps.getD i ddD).nm, (ps.getD i ddD).tm, (ps.getD i ddD).bd⟩)) ∧ w.grownBy (w.setCell ⟨g, i * 10 + 2, none⟩ (.int .i64 v)) (some g) := by
  have hl := DdR.olen h
  obtain ⟨h1, g1⟩ := h.stored (i * 10 + 2) (.int .i64 v)
  have e1 : (ddE.flat ps).set (i * 10 + 2) (.int .i64 v) = ddE.flat (ps.set i ⟨(ps.getD i ddD).kd, (ps.getD i ddD).gn, v, (ps.getD i ddD).mn, (ps.getD i ddD).ck, (ps.getD i ddD).no, (ps.getD i ddD).lk, (ps.getD i ddD).nm, (ps.getD i ddD).tm, (ps.getD i ddD).bd⟩) := flat_setX ddE ddD ps i 2 _ _ (by omega) (by decide) rfl
  rw [e1] at h1
  exact ⟨h1, g1⟩
theorem DdR.set3 {w : World} {base g n cap : Nat} {e : TypeId} {ps : List Dd} (h : w.ownsRow base e ddE.k (.slice (some ⟨g, 0, none⟩) n cap) n (ddE.flat ps)) {i : Nat} (hi : i < n) (v : Int) :
    (w.setCell ⟨g, i * 10 + 3, none⟩ (.int .i64 v)).ownsRow base e ddE.k (.slice (some ⟨g, 0, none⟩) n cap) n (ddE.flat (ps.set i ⟨(ps.getD i ddD).kd, (ps.getD i ddD).gn, (ps.getD i ddD).nd, v, (ps.getD i ddD).ck, (ps.getD i ddD).no, (ps.getD i ddD).lk, (ps.getD i ddD).nm, (ps.getD i ddD).tm, (ps.getD i ddD).bd⟩)) ∧ w.grownBy (w.setCell ⟨g, i * 10 + 3, none⟩ (.int .i64 v)) (some g) := by
  have hl := DdR.olen h
  obtain ⟨h1, g1⟩ := h.stored (i * 10 + 3) (.int .i64 v)
  have e1 : (ddE.flat ps).set (i * 10 + 3) (.int .i64 v) = ddE.flat (ps.set i ⟨(ps.getD i ddD).kd, (ps.getD i ddD).gn, (ps.getD i ddD).nd, v, (ps.getD i ddD).ck, (ps.getD i ddD).no, (ps.getD i ddD).lk, (ps.getD i ddD).nm, (ps.getD i ddD).tm, (ps.getD i ddD).bd⟩) := flat_setX ddE ddD ps i 3 _ _ (by omega) (by decide) rfl
  rw [e1] at h1
  exact ⟨h1, g1⟩
theorem DdR.set4 {w : World} {base g n cap : Nat} {e : TypeId} {ps : List Dd} (h : w.ownsRow base e ddE.k (.slice (some ⟨g, 0, none⟩) n cap) n (ddE.flat ps)) {i : Nat} (hi : i < n) (v : Int) :
    (w.setCell ⟨g, i * 10 + 4, none⟩ (.int .i64 v)).ownsRow base e ddE.k (.slice (some ⟨g, 0, none⟩) n cap) n (ddE.flat (ps.set i ⟨(ps.getD i ddD).kd, (ps.getD i ddD).gn, (ps.getD i ddD).nd, (ps.getD i ddD).mn, v, (ps.getD i ddD).no, (ps.getD i ddD).lk, (ps.getD i ddD).nm, (ps.getD i ddD).tm, (ps.getD i ddD).bd⟩)) ∧ w.grownBy (w.setCell ⟨g, i * 10 + 4, none⟩ (.int .i64 v)) (some g) := by
  have hl := DdR.olen h
  obtain ⟨h1, g1⟩ := h.stored (i * 10 + 4) (.int .i64 v)
  have e1 : (ddE.flat ps).set (i * 10 + 4) (.int .i64 v) = ddE.flat (ps.set i ⟨(ps.getD i ddD).kd, (ps.getD i ddD).gn, (ps.getD i ddD).nd, (ps.getD i ddD).mn, v, (ps.getD i ddD).no, (ps.getD i ddD).lk, (ps.getD i ddD).nm, (ps.getD i ddD).tm, (ps.getD i ddD).bd⟩) := flat_setX ddE ddD ps i 4 _ _ (by omega) (by decide) rfl
  rw [e1] at h1
  exact ⟨h1, g1⟩
theorem DdR.set5 {w : World} {base g n cap : Nat} {e : TypeId} {ps : List Dd} (h : w.ownsRow base e ddE.k (.slice (some ⟨g, 0, none⟩) n cap) n (ddE.flat ps)) {i : Nat} (hi : i < n) (v : Int) :
    (w.setCell ⟨g, i * 10 + 5, none⟩ (.int .i64 v)).ownsRow base e ddE.k (.slice (some ⟨g, 0, none⟩) n cap) n (ddE.flat (ps.set i ⟨(ps.getD i ddD).kd, (ps.getD i ddD).gn, (ps.getD i ddD).nd, (ps.getD i ddD).mn, (ps.getD i ddD).ck, v, (ps.getD i ddD).lk, (ps.getD i ddD).nm, (ps.getD i ddD).tm, (ps.getD i ddD).bd⟩)) ∧ w.grownBy (w.setCell ⟨g, i * 10 + 5, none⟩ (.int .i64 v)) (some g) := by
  have hl := DdR.olen h
  obtain ⟨h1, g1⟩ := h.stored (i * 10 + 5) (.int .i64 v)
  have e1 : (ddE.flat ps).set (i * 10 + 5) (.int .i64 v) = ddE.flat (ps.set i ⟨(ps.getD i ddD).kd, (ps.getD i ddD).gn, (ps.getD i ddD).nd, (ps.getD i ddD).mn, (ps.getD i ddD).ck, v, (ps.getD i ddD).lk, (ps.getD i ddD).nm, (ps.getD i ddD).tm, (ps.getD i ddD).bd⟩) := flat_setX ddE ddD ps i 5 _ _ (by omega) (by decide) rfl
  rw [e1] at h1
  exact ⟨h1, g1⟩
theorem DdR.set6 {w : World} {base g n cap : Nat} {e : TypeId} {ps : List Dd} (h : w.ownsRow base e ddE.k (.slice (some ⟨g, 0, none⟩) n cap) n (ddE.flat ps)) {i : Nat} (hi : i < n) (v : ByteArray) :
    (w.setCell ⟨g, i * 10 + 6, none⟩ (.string v)).ownsRow base e ddE.k (.slice (some ⟨g, 0, none⟩) n cap) n (ddE.flat (ps.set i ⟨(ps.getD i ddD).kd, (ps.getD i ddD).gn, (ps.getD i ddD).nd, (ps.getD i ddD).mn, (ps.getD i ddD).ck, (ps.getD i ddD).no, v, (ps.getD i ddD).nm, (ps.getD i ddD).tm, (ps.getD i ddD).bd⟩)) ∧ w.grownBy (w.setCell ⟨g, i * 10 + 6, none⟩ (.string v)) (some g) := by
  have hl := DdR.olen h
  obtain ⟨h1, g1⟩ := h.stored (i * 10 + 6) (.string v)
  have e1 : (ddE.flat ps).set (i * 10 + 6) (.string v) = ddE.flat (ps.set i ⟨(ps.getD i ddD).kd, (ps.getD i ddD).gn, (ps.getD i ddD).nd, (ps.getD i ddD).mn, (ps.getD i ddD).ck, (ps.getD i ddD).no, v, (ps.getD i ddD).nm, (ps.getD i ddD).tm, (ps.getD i ddD).bd⟩) := flat_setX ddE ddD ps i 6 _ _ (by omega) (by decide) rfl
  rw [e1] at h1
  exact ⟨h1, g1⟩
theorem DdR.set7 {w : World} {base g n cap : Nat} {e : TypeId} {ps : List Dd} (h : w.ownsRow base e ddE.k (.slice (some ⟨g, 0, none⟩) n cap) n (ddE.flat ps)) {i : Nat} (hi : i < n) (v : ByteArray) :
    (w.setCell ⟨g, i * 10 + 7, none⟩ (.string v)).ownsRow base e ddE.k (.slice (some ⟨g, 0, none⟩) n cap) n (ddE.flat (ps.set i ⟨(ps.getD i ddD).kd, (ps.getD i ddD).gn, (ps.getD i ddD).nd, (ps.getD i ddD).mn, (ps.getD i ddD).ck, (ps.getD i ddD).no, (ps.getD i ddD).lk, v, (ps.getD i ddD).tm, (ps.getD i ddD).bd⟩)) ∧ w.grownBy (w.setCell ⟨g, i * 10 + 7, none⟩ (.string v)) (some g) := by
  have hl := DdR.olen h
  obtain ⟨h1, g1⟩ := h.stored (i * 10 + 7) (.string v)
  have e1 : (ddE.flat ps).set (i * 10 + 7) (.string v) = ddE.flat (ps.set i ⟨(ps.getD i ddD).kd, (ps.getD i ddD).gn, (ps.getD i ddD).nd, (ps.getD i ddD).mn, (ps.getD i ddD).ck, (ps.getD i ddD).no, (ps.getD i ddD).lk, v, (ps.getD i ddD).tm, (ps.getD i ddD).bd⟩) := flat_setX ddE ddD ps i 7 _ _ (by omega) (by decide) rfl
  rw [e1] at h1
  exact ⟨h1, g1⟩
theorem DdR.set8 {w : World} {base g n cap : Nat} {e : TypeId} {ps : List Dd} (h : w.ownsRow base e ddE.k (.slice (some ⟨g, 0, none⟩) n cap) n (ddE.flat ps)) {i : Nat} (hi : i < n) (v : Int) :
    (w.setCell ⟨g, i * 10 + 8, none⟩ (.int .i64 v)).ownsRow base e ddE.k (.slice (some ⟨g, 0, none⟩) n cap) n (ddE.flat (ps.set i ⟨(ps.getD i ddD).kd, (ps.getD i ddD).gn, (ps.getD i ddD).nd, (ps.getD i ddD).mn, (ps.getD i ddD).ck, (ps.getD i ddD).no, (ps.getD i ddD).lk, (ps.getD i ddD).nm, v, (ps.getD i ddD).bd⟩)) ∧ w.grownBy (w.setCell ⟨g, i * 10 + 8, none⟩ (.int .i64 v)) (some g) := by
  have hl := DdR.olen h
  obtain ⟨h1, g1⟩ := h.stored (i * 10 + 8) (.int .i64 v)
  have e1 : (ddE.flat ps).set (i * 10 + 8) (.int .i64 v) = ddE.flat (ps.set i ⟨(ps.getD i ddD).kd, (ps.getD i ddD).gn, (ps.getD i ddD).nd, (ps.getD i ddD).mn, (ps.getD i ddD).ck, (ps.getD i ddD).no, (ps.getD i ddD).lk, (ps.getD i ddD).nm, v, (ps.getD i ddD).bd⟩) := flat_setX ddE ddD ps i 8 _ _ (by omega) (by decide) rfl
  rw [e1] at h1
  exact ⟨h1, g1⟩
theorem DdR.set9 {w : World} {base g n cap : Nat} {e : TypeId} {ps : List Dd} (h : w.ownsRow base e ddE.k (.slice (some ⟨g, 0, none⟩) n cap) n (ddE.flat ps)) {i : Nat} (hi : i < n) (v : ByteArray) :
    (w.setCell ⟨g, i * 10 + 9, none⟩ (.string v)).ownsRow base e ddE.k (.slice (some ⟨g, 0, none⟩) n cap) n (ddE.flat (ps.set i ⟨(ps.getD i ddD).kd, (ps.getD i ddD).gn, (ps.getD i ddD).nd, (ps.getD i ddD).mn, (ps.getD i ddD).ck, (ps.getD i ddD).no, (ps.getD i ddD).lk, (ps.getD i ddD).nm, (ps.getD i ddD).tm, v⟩)) ∧ w.grownBy (w.setCell ⟨g, i * 10 + 9, none⟩ (.string v)) (some g) := by
  have hl := DdR.olen h
  obtain ⟨h1, g1⟩ := h.stored (i * 10 + 9) (.string v)
  have e1 : (ddE.flat ps).set (i * 10 + 9) (.string v) = ddE.flat (ps.set i ⟨(ps.getD i ddD).kd, (ps.getD i ddD).gn, (ps.getD i ddD).nd, (ps.getD i ddD).mn, (ps.getD i ddD).ck, (ps.getD i ddD).no, (ps.getD i ddD).lk, (ps.getD i ddD).nm, (ps.getD i ddD).tm, v⟩) := flat_setX ddE ddD ps i 9 _ _ (by omega) (by decide) rfl
  rw [e1] at h1
  exact ⟨h1, g1⟩
theorem DdR.stored {w : World} {base g n cap : Nat} {e : TypeId} {ps : List Dd} (h : w.ownsRow base e ddE.k (.slice (some ⟨g, 0, none⟩) n cap) n (ddE.flat ps)) {i : Nat} (hi : i < n) (q0 : Int) (q1 : Int) (q2 : Int) (q3 : Int) (q4 : Int) (q5 : Int) (q6 : ByteArray) (q7 : ByteArray) (q8 : Int) (q9 : ByteArray) :
    ((((((((((w.setCell ⟨g, i * 10, none⟩ (.int .i64 q0)).setCell ⟨g, i * 10 + 1, none⟩ (.int .i64 q1)).setCell ⟨g, i * 10 + 2, none⟩ (.int .i64 q2)).setCell ⟨g, i * 10 + 3, none⟩ (.int .i64 q3)).setCell ⟨g, i * 10 + 4, none⟩ (.int .i64 q4)).setCell ⟨g, i * 10 + 5, none⟩ (.int .i64 q5)).setCell ⟨g, i * 10 + 6, none⟩ (.string q6)).setCell ⟨g, i * 10 + 7, none⟩ (.string q7)).setCell ⟨g, i * 10 + 8, none⟩ (.int .i64 q8)).setCell ⟨g, i * 10 + 9, none⟩ (.string q9)).ownsRow base e ddE.k (.slice (some ⟨g, 0, none⟩) n cap) n (ddE.flat (ps.set i ⟨q0, q1, q2, q3, q4, q5, q6, q7, q8, q9⟩)) ∧ w.grownBy ((((((((((w.setCell ⟨g, i * 10, none⟩ (.int .i64 q0)).setCell ⟨g, i * 10 + 1, none⟩ (.int .i64 q1)).setCell ⟨g, i * 10 + 2, none⟩ (.int .i64 q2)).setCell ⟨g, i * 10 + 3, none⟩ (.int .i64 q3)).setCell ⟨g, i * 10 + 4, none⟩ (.int .i64 q4)).setCell ⟨g, i * 10 + 5, none⟩ (.int .i64 q5)).setCell ⟨g, i * 10 + 6, none⟩ (.string q6)).setCell ⟨g, i * 10 + 7, none⟩ (.string q7)).setCell ⟨g, i * 10 + 8, none⟩ (.int .i64 q8)).setCell ⟨g, i * 10 + 9, none⟩ (.string q9)) (some g) := by
  have hl := DdR.olen h
  have gd : ∀ (p q : Dd), ((ps.set i p).set i q) = ps.set i q := fun p q => by rw [List.set_set]
  have ge : ∀ p : Dd, (ps.set i p).getD i ddD = p := fun p => by simp [List.getD, show i < ps.length by omega]
  have h0 := DdR.set0 h hi q0
  have h1 := DdR.set1 h0.1 hi q1
  rw [gd, ge] at h1
  have h2 := DdR.set2 h1.1 hi q2
  rw [gd, ge] at h2
  have h3 := DdR.set3 h2.1 hi q3
  rw [gd, ge] at h3
  have h4 := DdR.set4 h3.1 hi q4
  rw [gd, ge] at h4
  have h5 := DdR.set5 h4.1 hi q5
  rw [gd, ge] at h5
  have h6 := DdR.set6 h5.1 hi q6
  rw [gd, ge] at h6
  have h7 := DdR.set7 h6.1 hi q7
  rw [gd, ge] at h7
  have h8 := DdR.set8 h7.1 hi q8
  rw [gd, ge] at h8
  have h9 := DdR.set9 h8.1 hi q9
  rw [gd, ge] at h9
  exact ⟨h9.1, (grown_trans (grown_trans (grown_trans (grown_trans (grown_trans (grown_trans (grown_trans (grown_trans (grown_trans h0.2 h1.2) h2.2) h3.2) h4.2) h5.2) h6.2) h7.2) h8.2) h9.2)⟩
/-- What is left of a size; or too much. -/
def LeftDeed (n : Nat) (l : List Dd) (left : Int) (w : World) (e : Ending) (w' : World) : Prop :=
  ∃ r : Int, e = .returned (.int .i64 r) ∧ ((r = -1) ∨ (0 ≤ r ∧ r ≤ left ∧ n ≤ 1048576 ∧ ∀ t, t < n → (l.getD t ddD).lk.size ≤ 1048576 ∧ (l.getD t ddD).nm.size ≤ 1048576 ∧ (l.getD t ddD).bd.size ≤ 1048576)) ∧ Below w.heap.size w w'
/-- The j-th marks. -/
def mkDd (k j : Nat) : Dd := ⟨(k : Int) + 10 * (j : Int), (k : Int) + 10 * (j : Int) + 1, (k : Int) + 10 * (j : Int) + 2, (k : Int) + 10 * (j : Int) + 3, (k : Int) + 10 * (j : Int) + 4, (k : Int) + 10 * (j : Int) + 5, mkt (k + 10 * j + 6), mkt (k + 10 * j + 7), (k : Int) + 10 * (j : Int) + 8, mkt (k + 10 * j + 9)⟩
def marksDd (k n : Nat) : List Dd := (List.range n).map (mkDd k)
theorem marksDd_length (k n : Nat) : (marksDd k n).length = n := by simp [marksDd]
theorem marksDd_getD {k n j : Nat} (h : j < n) : (marksDd k n).getD j ddD = mkDd k j := by simp [marksDd, List.getD, h]
end Go.Proofs.YtnoefpkhbllmiaaGreat
