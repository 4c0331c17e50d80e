/- Rows of deeds: an element by its cells; what the laws' own functions on such rows answer. -/
import Derived.Test.YtijegeikogckfaaRowKit
import Derived.Test.YtijegeikogckfaaRowDeed1
namespace Go.Proofs.Ytijegeikogckfaa
open Go.RowKit Go.PlainAid G MGF IRow
set_option linter.unusedVariables false
/-- A row of deeds that can be read. -/
abbrev DdR (w : World) (a : Option Addr) (n cap : Nat) (l : List Dd) : Prop := SR ddE ddD w a n cap l
theorem DdR.at {w : World} {a : Option Addr} {n cap : Nat} {l : List Dd} (h : DdR w a n cap l) {i : Nat} (hi : i < n) : ∃ g o, a = some ⟨g, o, none⟩ ∧ g < w.heap.size ∧ w.cell? ⟨g, o + i * 10, none⟩ = some (.int .i64 (l.getD i ddD).kd) ∧ w.cell? ⟨g, o + i * 10 + 1, none⟩ = some (.int .i64 (l.getD i ddD).gn) ∧ w.cell? ⟨g, o + i * 10 + 2, none⟩ = some (.int .i64 (l.getD i ddD).nd) ∧ w.cell? ⟨g, o + i * 10 + 3, none⟩ = some (.int .i64 (l.getD i ddD).mn) ∧ w.cell? ⟨g, o + i * 10 + 4, none⟩ = some (.int .i64 (l.getD i ddD).ck) ∧ w.cell? ⟨g, o + i * 10 + 5, none⟩ = some (.int .i64 (l.getD i ddD).no) ∧ w.cell? ⟨g, o + i * 10 + 6, none⟩ = some (.string (l.getD i ddD).lk) ∧ w.cell? ⟨g, o + i * 10 + 7, none⟩ = some (.string (l.getD i ddD).nm) ∧ w.cell? ⟨g, o + i * 10 + 8, none⟩ = some (.int .i64 (l.getD i ddD).tm) ∧ w.cell? ⟨g, o + i * 10 + 9, none⟩ = some (.string (l.getD i ddD).bd) := by
  obtain ⟨g, o, ha, hg, hc⟩ := h.cells (by omega)
  exact ⟨g, o, ha, hg, hc i hi 0 _ rfl, hc i hi 1 _ rfl, hc i hi 2 _ rfl, hc i hi 3 _ rfl, hc i hi 4 _ rfl, hc i hi 5 _ rfl, hc i hi 6 _ rfl, hc i hi 7 _ rfl, hc i hi 8 _ rfl, hc i hi 9 _ rfl⟩
theorem DdR.own {w : World} {base n cap : Nat} {a : Option Addr} {e : TypeId} {l : List Dd} (h : w.ownsRow base e ddE.k (.slice a n cap) n (ddE.flat l)) : DdR w a n cap l := SR.own (by decide) h
theorem DdR.olen {w : World} {base n cap : Nat} {a : Option Addr} {e : TypeId} {l : List Dd} (h : w.ownsRow base e ddE.k (.slice a n cap) n (ddE.flat l)) : l.length = n := by
  have := h.1; rw [ddE.flat_length] at this; exact Nat.eq_of_mul_eq_mul_right (show 0 < ddE.k by decide) this
theorem infoDeed : (Try.prog.info? 50).map (fun i => (i.zero, i.size, i.bytes)) = some (some (.agg #[.int .i64 0, .int .i64 0, .int .i64 0, .int .i64 0, .int .i64 0, .int .i64 0, .string ByteArray.empty, .string ByteArray.empty, .int .i64 0, .string ByteArray.empty]), 10, 104) := by kernel_rfl
theorem DdR.set0 {w : World} {base g n cap : Nat} {e : TypeId} {ps : List Dd} (h : w.ownsRow base e ddE.k (.slice (some ⟨g, 0, none⟩) n cap) n (ddE.flat ps)) {i : Nat} (hi : i < n) (v : Int) :
    (w.setCell ⟨g, i * 10, none⟩ (.int .i64 v)).ownsRow base e ddE.k (.slice (some ⟨g, 0, none⟩) n cap) n (ddE.flat (ps.set i ⟨v, (ps.getD i ddD).gn, (ps.getD i ddD).nd, (ps.getD i ddD).mn, (ps.getD i ddD).ck, (ps.getD i ddD).no, (ps.getD i ddD).lk, (ps.getD i ddD).nm, (ps.getD i ddD).tm, (ps.getD i ddD).bd⟩)) ∧ w.grownBy (w.setCell ⟨g, i * 10, none⟩ (.int .i64 v)) (some g) := by
  have hl := DdR.olen h
  obtain ⟨h1, g1⟩ := h.stored (i * 10) (.int .i64 v)
  have e1 : (ddE.flat ps).set (i * 10) (.int .i64 v) = ddE.flat (ps.set i ⟨v, (ps.getD i ddD).gn, (ps.getD i ddD).nd, (ps.getD i ddD).mn, (ps.getD i ddD).ck, (ps.getD i ddD).no, (ps.getD i ddD).lk, (ps.getD i ddD).nm, (ps.getD i ddD).tm, (ps.getD i ddD).bd⟩) := flat_setX ddE ddD ps i 0 _ _ (by omega) (by decide) rfl
  rw [e1] at h1
  exact ⟨h1, g1⟩
theorem DdR.set1 {w : World} {base g n cap : Nat} {e : TypeId} {ps : List Dd} (h : w.ownsRow base e ddE.k (.slice (some ⟨g, 0, none⟩) n cap) n (ddE.flat ps)) {i : Nat} (hi : i < n) (v : Int) :
    (w.setCell ⟨g, i * 10 + 1, none⟩ (.int .i64 v)).ownsRow base e ddE.k (.slice (some ⟨g, 0, none⟩) n cap) n (ddE.flat (ps.set i ⟨(ps.getD i ddD).kd, v, (ps.getD i ddD).nd, (ps.getD i ddD).mn, (ps.getD i ddD).ck, (ps.getD i ddD).no, (ps.getD i ddD).lk, (ps.getD i ddD).nm, (ps.getD i ddD).tm, (ps.getD i ddD).bd⟩)) ∧ w.grownBy (w.setCell ⟨g, i * 10 + 1, none⟩ (.int .i64 v)) (some g) := by
  have hl := DdR.olen h
  obtain ⟨h1, g1⟩ := h.stored (i * 10 + 1) (.int .i64 v)
  have e1 : (ddE.flat ps).set (i * 10 + 1) (.int .i64 v) = ddE.flat (ps.set i ⟨(ps.getD i ddD).kd, v, (ps.getD i ddD).nd, (ps.getD i ddD).mn, (ps.getD i ddD).ck, (ps.getD i ddD).no, (ps.getD i ddD).lk, (ps.getD i ddD).nm, (ps.getD i ddD).tm, (ps.getD i ddD).bd⟩) := flat_setX ddE ddD ps i 1 _ _ (by omega) (by decide) rfl
  rw [e1] at h1
  exact ⟨h1, g1⟩
theorem DdR.set2 {w : World} {base g n cap : Nat} {e : TypeId} {ps : List Dd} (h : w.ownsRow base e ddE.k (.slice (some ⟨g, 0, none⟩) n cap) n (ddE.flat ps)) {i : Nat} (hi : i < n) (v : Int) :
    (w.setCell ⟨g, i * 10 + 2, none⟩ (.int .i64 v)).ownsRow base e ddE.k (.slice (some ⟨g, 0, none⟩) n cap) n (ddE.flat (ps.set i ⟨(ps.getD i ddD).kd, (ps.getD i ddD).gn, v, (ps.getD i ddD).mn, (ps.getD i ddD).ck, (ps.getD i ddD).no, (ps.getD i ddD).lk, (ps.getD i ddD).nm, (ps.getD i ddD).tm, (ps.getD i ddD).bd⟩)) ∧ w.grownBy (w.setCell ⟨g, i * 10 + 2, none⟩ (.int .i64 v)) (some g) := by
  have hl := DdR.olen h
  obtain ⟨h1, g1⟩ := h.stored (i * 10 + 2) (.int .i64 v)
  have e1 : (ddE.flat ps).set (i * 10 + 2) (.int .i64 v) = ddE.flat (ps.set i ⟨(ps.getD i ddD).kd, (ps.getD i ddD).gn, v, (ps.getD i ddD).mn, (ps.getD i ddD).ck, (ps.getD i ddD).no, (ps.getD i ddD).lk, (ps.getD i ddD).nm, (ps.getD i ddD).tm, (ps.getD i ddD).bd⟩) := flat_setX ddE ddD ps i 2 _ _ (by omega) (by decide) rfl
  rw [e1] at h1
  exact ⟨h1, g1⟩
theorem DdR.set3 {w : World} {base g n cap : Nat} {e : TypeId} {ps : List Dd} (h : w.ownsRow base e ddE.k (.slice (some ⟨g, 0, none⟩) n cap) n (ddE.flat ps)) {i : Nat} (hi : i < n) (v : Int) :
    (w.setCell ⟨g, i * 10 + 3, none⟩ (.int .i64 v)).ownsRow base e ddE.k (.slice (some ⟨g, 0, none⟩) n cap) n (ddE.flat (ps.set i ⟨(ps.getD i ddD).kd, (ps.getD i ddD).gn, (ps.getD i ddD).nd, v, (ps.getD i ddD).ck, (ps.getD i ddD).no, (ps.getD i ddD).lk, (ps.getD i ddD).nm, (ps.getD i ddD).tm, (ps.getD i ddD).bd⟩)) ∧ w.grownBy (w.setCell ⟨g, i * 10 + 3, none⟩ (.int .i64 v)) (some g) := by
  have hl := DdR.olen h
  obtain ⟨h1, g1⟩ := h.stored (i * 10 + 3) (.int .i64 v)
  have e1 : (ddE.flat ps).set (i * 10 + 3) (.int .i64 v) = ddE.flat (ps.set i ⟨(ps.getD i ddD).kd, (ps.getD i ddD).gn, (ps.getD i ddD).nd, v, (ps.getD i ddD).ck, (ps.getD i ddD).no, (ps.getD i ddD).lk, (ps.getD i ddD).nm, (ps.getD i ddD).tm, (ps.getD i ddD).bd⟩) := flat_setX ddE ddD ps i 3 _ _ (by omega) (by decide) rfl
  rw [e1] at h1
  exact ⟨h1, g1⟩
theorem DdR.set4 {w : World} {base g n cap : Nat} {e : TypeId} {ps : List Dd} (h : w.ownsRow base e ddE.k (.slice (some ⟨g, 0, none⟩) n cap) n (ddE.flat ps)) {i : Nat} (hi : i < n) (v : Int) :
    (w.setCell ⟨g, i * 10 + 4, none⟩ (.int .i64 v)).ownsRow base e ddE.k (.slice (some ⟨g, 0, none⟩) n cap) n (ddE.flat (ps.set i ⟨(ps.getD i ddD).kd, (ps.getD i ddD).gn, (ps.getD i ddD).nd, (ps.getD i ddD).mn, v, (ps.getD i ddD).no, (ps.getD i ddD).lk, (ps.getD i ddD).nm, (ps.getD i ddD).tm, (ps.getD i ddD).bd⟩)) ∧ w.grownBy (w.setCell ⟨g, i * 10 + 4, none⟩ (.int .i64 v)) (some g) := by
  have hl := DdR.olen h
  obtain ⟨h1, g1⟩ := h.stored (i * 10 + 4) (.int .i64 v)
  have e1 : (ddE.flat ps).set (i * 10 + 4) (.int .i64 v) = ddE.flat (ps.set i ⟨(ps.getD i ddD).kd, (ps.getD i ddD).gn, (ps.getD i ddD).nd, (ps.getD i ddD).mn, v, (ps.getD i ddD).no, (ps.getD i ddD).lk, (ps.getD i ddD).nm, (ps.getD i ddD).tm, (ps.getD i ddD).bd⟩) := flat_setX ddE ddD ps i 4 _ _ (by omega) (by decide) rfl
  rw [e1] at h1
  exact ⟨h1, g1⟩
theorem DdR.set5 {w : World} {base g n cap : Nat} {e : TypeId} {ps : List Dd} (h : w.ownsRow base e ddE.k (.slice (some ⟨g, 0, none⟩) n cap) n (ddE.flat ps)) {i : Nat} (hi : i < n) (v : Int) :
    (w.setCell ⟨g, i * 10 + 5, none⟩ (.int .i64 v)).ownsRow base e ddE.k (.slice (some ⟨g, 0, none⟩) n cap) n (ddE.flat (ps.set i ⟨(ps.getD i ddD).kd, (ps.getD i ddD).gn, (ps.getD i ddD).nd, (ps.getD i ddD).mn, (ps.getD i ddD).ck, v, (ps.getD i ddD).lk, (ps.getD i ddD).nm, (ps.getD i ddD).tm, (ps.getD i ddD).bd⟩)) ∧ w.grownBy (w.setCell ⟨g, i * 10 + 5, none⟩ (.int .i64 v)) (some g) := by
  have hl := DdR.olen h
  obtain ⟨h1, g1⟩ := h.stored (i * 10 + 5) (.int .i64 v)
  have e1 : (ddE.flat ps).set (i * 10 + 5) (.int .i64 v) = ddE.flat (ps.set i ⟨(ps.getD i ddD).kd, (ps.getD i ddD).gn, (ps.getD i ddD).nd, (ps.getD i ddD).mn, (ps.getD i ddD).ck, v, (ps.getD i ddD).lk, (ps.getD i ddD).nm, (ps.getD i ddD).tm, (ps.getD i ddD).bd⟩) := flat_setX ddE ddD ps i 5 _ _ (by omega) (by decide) rfl
  rw [e1] at h1
  exact ⟨h1, g1⟩
theorem DdR.set6 {w : World} {base g n cap : Nat} {e : TypeId} {ps : List Dd} (h : w.ownsRow base e ddE.k (.slice (some ⟨g, 0, none⟩) n cap) n (ddE.flat ps)) {i : Nat} (hi : i < n) (v : ByteArray) :
    (w.setCell ⟨g, i * 10 + 6, none⟩ (.string v)).ownsRow base e ddE.k (.slice (some ⟨g, 0, none⟩) n cap) n (ddE.flat (ps.set i ⟨(ps.getD i ddD).kd, (ps.getD i ddD).gn, (ps.getD i ddD).nd, (ps.getD i ddD).mn, (ps.getD i ddD).ck, (ps.getD i ddD).no, v, (ps.getD i ddD).nm, (ps.getD i ddD).tm, (ps.getD i ddD).bd⟩)) ∧ w.grownBy (w.setCell ⟨g, i * 10 + 6, none⟩ (.string v)) (some g) := by
  have hl := DdR.olen h
  obtain ⟨h1, g1⟩ := h.stored (i * 10 + 6) (.string v)
  have e1 : (ddE.flat ps).set (i * 10 + 6) (.string v) = ddE.flat (ps.set i ⟨(ps.getD i ddD).kd, (ps.getD i ddD).gn, (ps.getD i ddD).nd, (ps.getD i ddD).mn, (ps.getD i ddD).ck, (ps.getD i ddD).no, v, (ps.getD i ddD).nm, (ps.getD i ddD).tm, (ps.getD i ddD).bd⟩) := flat_setX ddE ddD ps i 6 _ _ (by omega) (by decide) rfl
  rw [e1] at h1
  exact ⟨h1, g1⟩
theorem DdR.set7 {w : World} {base g n cap : Nat} {e : TypeId} {ps : List Dd} (h : w.ownsRow base e ddE.k (.slice (some ⟨g, 0, none⟩) n cap) n (ddE.flat ps)) {i : Nat} (hi : i < n) (v : ByteArray) :
    (w.setCell ⟨g, i * 10 + 7, none⟩ (.string v)).ownsRow base e ddE.k (.slice (some ⟨g, 0, none⟩) n cap) n (ddE.flat (ps.set i ⟨(ps.getD i ddD).kd, (ps.getD i ddD).gn, (ps.getD i ddD).nd, (ps.getD i ddD).mn, (ps.getD i ddD).ck, (ps.getD i ddD).no, (ps.getD i ddD).lk, v, (ps.getD i ddD).tm, (ps.getD i ddD).bd⟩)) ∧ w.grownBy (w.setCell ⟨g, i * 10 + 7, none⟩ (.string v)) (some g) := by
  have hl := DdR.olen h
  obtain ⟨h1, g1⟩ := h.stored (i * 10 + 7) (.string v)
  have e1 : (ddE.flat ps).set (i * 10 + 7) (.string v) = ddE.flat (ps.set i ⟨(ps.getD i ddD).kd, (ps.getD i ddD).gn, (ps.getD i ddD).nd, (ps.getD i ddD).mn, (ps.getD i ddD).ck, (ps.getD i ddD).no, (ps.getD i ddD).lk, v, (ps.getD i ddD).tm, (ps.getD i ddD).bd⟩) := flat_setX ddE ddD ps i 7 _ _ (by omega) (by decide) rfl
  rw [e1] at h1
  exact ⟨h1, g1⟩
theorem DdR.set8 {w : World} {base g n cap : Nat} {e : TypeId} {ps : List Dd} (h : w.ownsRow base e ddE.k (.slice (some ⟨g, 0, none⟩) n cap) n (ddE.flat ps)) {i : Nat} (hi : i < n) (v : Int) :
    (w.setCell ⟨g, i * 10 + 8, none⟩ (.int .i64 v)).ownsRow base e ddE.k (.slice (some ⟨g, 0, none⟩) n cap) n (ddE.flat (ps.set i ⟨(ps.getD i ddD).kd, (ps.getD i ddD).gn, (ps.getD i ddD).nd, (ps.getD i ddD).mn, (ps.getD i ddD).ck, (ps.getD i ddD).no, (ps.getD i ddD).lk, (ps.getD i ddD).nm, v, (ps.getD i ddD).bd⟩)) ∧ w.grownBy (w.setCell ⟨g, i * 10 + 8, none⟩ (.int .i64 v)) (some g) := by
  have hl := DdR.olen h
  obtain ⟨h1, g1⟩ := h.stored (i * 10 + 8) (.int .i64 v)
  have e1 : (ddE.flat ps).set (i * 10 + 8) (.int .i64 v) = ddE.flat (ps.set i ⟨(ps.getD i ddD).kd, (ps.getD i ddD).gn, (ps.getD i ddD).nd, (ps.getD i ddD).mn, (ps.getD i ddD).ck, (ps.getD i ddD).no, (ps.getD i ddD).lk, (ps.getD i ddD).nm, v, (ps.getD i ddD).bd⟩) := flat_setX ddE ddD ps i 8 _ _ (by omega) (by decide) rfl
  rw [e1] at h1
  exact ⟨h1, g1⟩
theorem DdR.set9 {w : World} {base g n cap : Nat} {e : TypeId} {ps : List Dd} (h : w.ownsRow base e ddE.k (.slice (some ⟨g, 0, none⟩) n cap) n (ddE.flat ps)) {i : Nat} (hi : i < n) (v : ByteArray) :
    (w.setCell ⟨g, i * 10 + 9, none⟩ (.string v)).ownsRow base e ddE.k (.slice (some ⟨g, 0, none⟩) n cap) n (ddE.flat (ps.set i ⟨(ps.getD i ddD).kd, (ps.getD i ddD).gn, (ps.getD i ddD).nd, (ps.getD i ddD).mn, (ps.getD i ddD).ck, (ps.getD i ddD).no, (ps.getD i ddD).lk, (ps.getD i ddD).nm, (ps.getD i ddD).tm, v⟩)) ∧ w.grownBy (w.setCell ⟨g, i * 10 + 9, none⟩ (.string v)) (some g) := by
  have hl := DdR.olen h
  obtain ⟨h1, g1⟩ := h.stored (i * 10 + 9) (.string v)
  have e1 : (ddE.flat ps).set (i * 10 + 9) (.string v) = ddE.flat (ps.set i ⟨(ps.getD i ddD).kd, (ps.getD i ddD).gn, (ps.getD i ddD).nd, (ps.getD i ddD).mn, (ps.getD i ddD).ck, (ps.getD i ddD).no, (ps.getD i ddD).lk, (ps.getD i ddD).nm, (ps.getD i ddD).tm, v⟩) := flat_setX ddE ddD ps i 9 _ _ (by omega) (by decide) rfl
  rw [e1] at h1
  exact ⟨h1, g1⟩
theorem DdR.stored {w : World} {base g n cap : Nat} {e : TypeId} {ps : List Dd} (h : w.ownsRow base e ddE.k (.slice (some ⟨g, 0, none⟩) n cap) n (ddE.flat ps)) {i : Nat} (hi : i < n) (q0 : Int) (q1 : Int) (q2 : Int) (q3 : Int) (q4 : Int) (q5 : Int) (q6 : ByteArray) (q7 : ByteArray) (q8 : Int) (q9 : ByteArray) :
    ((((((((((w.setCell ⟨g, i * 10, none⟩ (.int .i64 q0)).setCell ⟨g, i * 10 + 1, none⟩ (.int .i64 q1)).setCell ⟨g, i * 10 + 2, none⟩ (.int .i64 q2)).setCell ⟨g, i * 10 + 3, none⟩ (.int .i64 q3)).setCell ⟨g, i * 10 + 4, none⟩ (.int .i64 q4)).setCell ⟨g, i * 10 + 5, none⟩ (.int .i64 q5)).setCell ⟨g, i * 10 + 6, none⟩ (.string q6)).setCell ⟨g, i * 10 + 7, none⟩ (.string q7)).setCell ⟨g, i * 10 + 8, none⟩ (.int .i64 q8)).setCell ⟨g, i * 10 + 9, none⟩ (.string q9)).ownsRow base e ddE.k (.slice (some ⟨g, 0, none⟩) n cap) n (ddE.flat (ps.set i ⟨q0, q1, q2, q3, q4, q5, q6, q7, q8, q9⟩)) ∧ w.grownBy ((((((((((w.setCell ⟨g, i * 10, none⟩ (.int .i64 q0)).setCell ⟨g, i * 10 + 1, none⟩ (.int .i64 q1)).setCell ⟨g, i * 10 + 2, none⟩ (.int .i64 q2)).setCell ⟨g, i * 10 + 3, none⟩ (.int .i64 q3)).setCell ⟨g, i * 10 + 4, none⟩ (.int .i64 q4)).setCell ⟨g, i * 10 + 5, none⟩ (.int .i64 q5)).setCell ⟨g, i * 10 + 6, none⟩ (.string q6)).setCell ⟨g, i * 10 + 7, none⟩ (.string q7)).setCell ⟨g, i * 10 + 8, none⟩ (.int .i64 q8)).setCell ⟨g, i * 10 + 9, none⟩ (.string q9)) (some g) := by
  have hl := DdR.olen h
  have gd : ∀ (p q : Dd), ((ps.set i p).set i q) = ps.set i q := fun p q => by rw [List.set_set]
  have ge : ∀ p : Dd, (ps.set i p).getD i ddD = p := fun p => by simp [List.getD, show i < ps.length by omega]
  have h0 := DdR.set0 h hi q0
  have h1 := DdR.set1 h0.1 hi q1
  rw [gd, ge] at h1
  have h2 := DdR.set2 h1.1 hi q2
  rw [gd, ge] at h2
  have h3 := DdR.set3 h2.1 hi q3
  rw [gd, ge] at h3
  have h4 := DdR.set4 h3.1 hi q4
  rw [gd, ge] at h4
  have h5 := DdR.set5 h4.1 hi q5
  rw [gd, ge] at h5
  have h6 := DdR.set6 h5.1 hi q6
  rw [gd, ge] at h6
  have h7 := DdR.set7 h6.1 hi q7
  rw [gd, ge] at h7
  have h8 := DdR.set8 h7.1 hi q8
  rw [gd, ge] at h8
  have h9 := DdR.set9 h8.1 hi q9
  rw [gd, ge] at h9
  exact ⟨h9.1, (grown_trans (grown_trans (grown_trans (grown_trans (grown_trans (grown_trans (grown_trans (grown_trans (grown_trans h0.2 h1.2) h2.2) h3.2) h4.2) h5.2) h6.2) h7.2) h8.2) h9.2)⟩
set_option maxRecDepth 100000 in
set_option maxHeartbeats 1600000 in
theorem eqDeedS_same (a b : Option Addr) (n cap cbp : Nat) (l : List Dd) (w : World) (h : DdR w a n cap l) (k : DdR w b n cbp l) (hn : n ≤ 1048576) :
    Calls Try.prog 22 #[.slice a n cap, .slice b n cbp] w fun e w' => e = .returned (.bool true) ∧ Below w.heap.size w w' := by
  go_enter Try.func22, Try.ntmps22
  go_wp2_with fail
  go_loopw [5] (fun i wr => ∃ j : Nat, j ≤ n ∧ i = .int .i64 j ∧ Below w.heap.size w wr) (fun i _ => n - (intOf i).toNat)
  case atStart => exact ⟨0, Nat.zero_le _, rfl, Below.refl _ _⟩
  case round =>
    obtain ⟨j, hj, rfl, hB⟩ := hrel
    have HB := Lib.hid hB.drew
    by_cases hlt : j < n
    · obtain ⟨g, o, rfl, hg, hc0, hc1, hc2, hc3, hc4, hc5, hc6, hc7, hc8, hc9⟩ := h.at hlt
      obtain ⟨g', o', rfl, hg', hd0, hd1, hd2, hd3, hd4, hd5, hd6, hd7, hd8, hd9⟩ := k.at hlt
      have a0 := (hB.cell (p := ⟨g, o + j * 10, none⟩) hg).trans hc0
      have a1 := (hB.cell (p := ⟨g, o + j * 10 + 1, none⟩) hg).trans hc1
      have a2 := (hB.cell (p := ⟨g, o + j * 10 + 2, none⟩) hg).trans hc2
      have a3 := (hB.cell (p := ⟨g, o + j * 10 + 3, none⟩) hg).trans hc3
      have a4 := (hB.cell (p := ⟨g, o + j * 10 + 4, none⟩) hg).trans hc4
      have a5 := (hB.cell (p := ⟨g, o + j * 10 + 5, none⟩) hg).trans hc5
      have a6 := (hB.cell (p := ⟨g, o + j * 10 + 6, none⟩) hg).trans hc6
      have a7 := (hB.cell (p := ⟨g, o + j * 10 + 7, none⟩) hg).trans hc7
      have a8 := (hB.cell (p := ⟨g, o + j * 10 + 8, none⟩) hg).trans hc8
      have a9 := (hB.cell (p := ⟨g, o + j * 10 + 9, none⟩) hg).trans hc9
      have b0 := (hB.cell (p := ⟨g', o' + j * 10, none⟩) hg').trans hd0
      have b1 := (hB.cell (p := ⟨g', o' + j * 10 + 1, none⟩) hg').trans hd1
      have b2 := (hB.cell (p := ⟨g', o' + j * 10 + 2, none⟩) hg').trans hd2
      have b3 := (hB.cell (p := ⟨g', o' + j * 10 + 3, none⟩) hg').trans hd3
      have b4 := (hB.cell (p := ⟨g', o' + j * 10 + 4, none⟩) hg').trans hd4
      have b5 := (hB.cell (p := ⟨g', o' + j * 10 + 5, none⟩) hg').trans hd5
      have b6 := (hB.cell (p := ⟨g', o' + j * 10 + 6, none⟩) hg').trans hd6
      have b7 := (hB.cell (p := ⟨g', o' + j * 10 + 7, none⟩) hg').trans hd7
      have b8 := (hB.cell (p := ⟨g', o' + j * 10 + 8, none⟩) hg').trans hd8
      have b9 := (hB.cell (p := ⟨g', o' + j * 10 + 9, none⟩) hg').trans hd9
      generalize (l.getD j ddD).kd = q0 at *
      generalize (l.getD j ddD).gn = q1 at *
      generalize (l.getD j ddD).nd = q2 at *
      generalize (l.getD j ddD).mn = q3 at *
      generalize (l.getD j ddD).ck = q4 at *
      generalize (l.getD j ddD).no = q5 at *
      generalize (l.getD j ddD).lk = q6 at *
      generalize (l.getD j ddD).nm = q7 at *
      generalize (l.getD j ddD).tm = q8 at *
      generalize (l.getD j ddD).bd = q9 at *
      clear hc0 hc1 hc2 hc3 hc4 hc5 hc6 hc7 hc8 hc9 hd0 hd1 hd2 hd3 hd4 hd5 hd6 hd7 hd8 hd9 h k hB
      go_wp2_with fail
      go_still_tail 8, (by kernel_rfl)
      change wpList _ _ _ _ _ wr.drew
      clear a0 a1 a2 a3 a4 a5 a6 a7 a8 a9 b0 b1 b2 b3 b4 b5 b6 b7 b8 b9
      generalize wr.drew = we at *
      go_wp2_with fail
      refine (eqDeed_same q0 q1 q2 q3 q4 q5 q6 q7 q8 q9 _).mono ?_
      rintro e w5 ⟨rfl, hb⟩
      have HB5 := Lib.hid (HB.out.trans (hb.mono HB.out.size))
      clear hb
      go_wp2_with fail
      go_roundw
      case rel => exact ⟨j + 1, by omega, by go_num, HB5.out⟩
      case measure => simp [intOf] <;> omega
    · obtain rfl : j = n := by omega
      have HB2 := Lib.hid hB
      clear h k hB
      go_wp2_with fail
      go_ret
      exact ⟨rfl, HB2.out⟩
set_option maxRecDepth 100000 in
set_option maxHeartbeats 3200000 in
theorem toDeedS_any (a : Option Addr) (n cap : Nat) (ps : List Dd) (w : World) (h : DdR w a n cap ps) (hn : n ≤ 1048576) :
    Calls Try.prog 20 #[.slice a n cap] w fun e w' => ∃ a' cap', e = .returned (.slice a' n cap') ∧ w'.ownsRow w.heap.size 50 ddE.k (.slice a' n cap') n (ddE.flat ps) ∧ Below w.heap.size w w' := by
  obtain ⟨i0, hi, hz0, hz1, hz2⟩ := info_parts infoDeed
  have hl := h.len
  go_enter Try.func20, Try.ntmps20
  go_wp2_with (at_make; refine wpList_make_full _ rfl (.tmp 6) (.tmp 6) 56 rfl w.heap.size 50 i0 (.agg #[.int .i64 0, .int .i64 0, .int .i64 0, .int .i64 0, .int .i64 0, .int .i64 0, .string ByteArray.empty, .string ByteArray.empty, .int .i64 0, .string ByteArray.empty]) 10 Try.underlying56 hi hz0 hz1 .i64 .i64 _ _ n rfl rfl rfl rfl (by rw [hz2]; omega) (by unfold maxLen; omega) (Nat.le_refl _) ?_; intro w4 hown4 hg4; rw [show (madeCells (Value.agg #[Value.int .i64 0, Value.int .i64 0, Value.int .i64 0, Value.int .i64 0, Value.int .i64 0, Value.int .i64 0, Value.string ByteArray.empty, Value.string ByteArray.empty, Value.int .i64 0, Value.string ByteArray.empty]).cells (n * 10)).toList = ddE.flat (List.replicate n ddD) from made_enc ddE ddD n rfl (by decide)] at hown4)
  have HB4 : Hid (Below w.heap.size w w4) := Lib.hid ((Below.refl _ w).grown hg4 (Nat.le_refl _) (fun k hk => by cases hk))
  have HO4 : Hid (w4.ownsRow w.heap.size 50 ddE.k (.slice (some ⟨w.heap.size, 0, none⟩) n n) n (ddE.flat (List.replicate n ddD))) := Lib.hid hown4
  clear hg4 hown4
  go_loopw [4] (fun i wr => ∃ k : Nat, k ≤ n ∧ i = .int .i64 k ∧ wr.ownsRow w.heap.size 50 ddE.k (.slice (some ⟨w.heap.size, 0, none⟩) n n) n (ddE.flat (mixX ps (List.replicate n ddD) k)) ∧ Below w.heap.size w wr) (fun i _ => n - (intOf i).toNat)
  case atStart => exact ⟨0, Nat.zero_le _, rfl, by rw [mixX_zero]; exact HO4.out, HB4.out⟩
  case round =>
    obtain ⟨k, hk, rfl, hown, hB⟩ := hrel
    by_cases hlt : k < n
    · obtain ⟨g, o, rfl, hg, hc0, hc1, hc2, hc3, hc4, hc5, hc6, hc7, hc8, hc9⟩ := h.at hlt
      have a0 := (hB.cell (p := ⟨g, o + k * 10, none⟩) hg).trans hc0
      have a1 := (hB.cell (p := ⟨g, o + k * 10 + 1, none⟩) hg).trans hc1
      have a2 := (hB.cell (p := ⟨g, o + k * 10 + 2, none⟩) hg).trans hc2
      have a3 := (hB.cell (p := ⟨g, o + k * 10 + 3, none⟩) hg).trans hc3
      have a4 := (hB.cell (p := ⟨g, o + k * 10 + 4, none⟩) hg).trans hc4
      have a5 := (hB.cell (p := ⟨g, o + k * 10 + 5, none⟩) hg).trans hc5
      have a6 := (hB.cell (p := ⟨g, o + k * 10 + 6, none⟩) hg).trans hc6
      have a7 := (hB.cell (p := ⟨g, o + k * 10 + 7, none⟩) hg).trans hc7
      have a8 := (hB.cell (p := ⟨g, o + k * 10 + 8, none⟩) hg).trans hc8
      have a9 := (hB.cell (p := ⟨g, o + k * 10 + 9, none⟩) hg).trans hc9
      have HO := Lib.hid hown
      have HB := Lib.hid hB
      have HM := Lib.hid (mixX_set ddD (zs := ps) (ys := List.replicate n ddD) (k := k) (by rw [List.length_replicate, hl]) (by omega))
      have hpe : ps.getD k ddD = ⟨(ps.getD k ddD).kd, (ps.getD k ddD).gn, (ps.getD k ddD).nd, (ps.getD k ddD).mn, (ps.getD k ddD).ck, (ps.getD k ddD).no, (ps.getD k ddD).lk, (ps.getD k ddD).nm, (ps.getD k ddD).tm, (ps.getD k ddD).bd⟩ := rfl
      rw [hpe] at HM
      generalize (ps.getD k ddD).kd = q0 at *
      generalize (ps.getD k ddD).gn = q1 at *
      generalize (ps.getD k ddD).nd = q2 at *
      generalize (ps.getD k ddD).mn = q3 at *
      generalize (ps.getD k ddD).ck = q4 at *
      generalize (ps.getD k ddD).no = q5 at *
      generalize (ps.getD k ddD).lk = q6 at *
      generalize (ps.getD k ddD).nm = q7 at *
      generalize (ps.getD k ddD).tm = q8 at *
      generalize (ps.getD k ddD).bd = q9 at *
      clear hown hB hc0 hc1 hc2 hc3 hc4 hc5 hc6 hc7 hc8 hc9 hpe HB4
      go_wp2_with fail
      refine (toDeed_any q0 q1 q2 q3 q4 q5 q6 q7 q8 q9 _).mono ?_
      rintro e w5 ⟨rfl, hb⟩
      have hown := own_below HO.out hb
      have hB := HB.out.trans (hb.mono HB.out.size)
      have hs := DdR.stored hown hlt q0 q1 q2 q3 q4 q5 q6 q7 q8 q9
      rw [HM.out] at hs
      have HS := Lib.hid hs.1
      have HB5 := Lib.hid ((((((((((hB.setCell (Nat.le_refl _) (p := ⟨w.heap.size, k * 10, none⟩) (.int .i64 q0)).setCell (Nat.le_refl _) (p := ⟨w.heap.size, k * 10 + 1, none⟩) (.int .i64 q1)).setCell (Nat.le_refl _) (p := ⟨w.heap.size, k * 10 + 2, none⟩) (.int .i64 q2)).setCell (Nat.le_refl _) (p := ⟨w.heap.size, k * 10 + 3, none⟩) (.int .i64 q3)).setCell (Nat.le_refl _) (p := ⟨w.heap.size, k * 10 + 4, none⟩) (.int .i64 q4)).setCell (Nat.le_refl _) (p := ⟨w.heap.size, k * 10 + 5, none⟩) (.int .i64 q5)).setCell (Nat.le_refl _) (p := ⟨w.heap.size, k * 10 + 6, none⟩) (.string q6)).setCell (Nat.le_refl _) (p := ⟨w.heap.size, k * 10 + 7, none⟩) (.string q7)).setCell (Nat.le_refl _) (p := ⟨w.heap.size, k * 10 + 8, none⟩) (.int .i64 q8)).setCell (Nat.le_refl _) (p := ⟨w.heap.size, k * 10 + 9, none⟩) (.string q9))
      obtain ⟨g', o', hge, _, hd0, hd1, hd2, hd3, hd4, hd5, hd6, hd7, hd8, hd9⟩ := (DdR.own hown).at hlt
      simp only [Option.some.injEq, Addr.mk.injEq, and_true] at hge
      obtain ⟨rfl, rfl⟩ := hge
      rw [Nat.zero_add] at hd0 hd1 hd2 hd3 hd4 hd5 hd6 hd7 hd8 hd9
      have f0 := hown.frozenAt (k * 10)
      have f1 := hown.frozenAt (k * 10 + 1)
      have f2 := hown.frozenAt (k * 10 + 2)
      have f3 := hown.frozenAt (k * 10 + 3)
      have f4 := hown.frozenAt (k * 10 + 4)
      have f5 := hown.frozenAt (k * 10 + 5)
      have f6 := hown.frozenAt (k * 10 + 6)
      have f7 := hown.frozenAt (k * 10 + 7)
      have f8 := hown.frozenAt (k * 10 + 8)
      have f9 := hown.frozenAt (k * 10 + 9)
      clear hs hown hB hb HO HB HM a0 a1 a2 a3 a4 a5 a6 a7 a8 a9
      go_wp2_with fail
      go_roundw
      case rel => exact ⟨k + 1, by omega, by go_num, HS.out, HB5.out⟩
      case measure => simp [intOf] <;> omega
    · obtain rfl : k = n := by omega
      have hm : mixX ps (List.replicate k ddD) k = ps := by rw [← hl]; exact mixX_all (by simp)
      rw [hm] at hown
      have HO := Lib.hid hown
      have HB := Lib.hid hB
      clear hown hB
      go_wp2_with fail
      go_ret
      exact ⟨_, _, rfl, HO.out, HB.out⟩
/-- What is left of a size; or too much. -/
def LeftDeed (n : Nat) (l : List Dd) (left : Int) (w : World) (e : Ending) (w' : World) : Prop :=
  ∃ r : Int, e = .returned (.int .i64 r) ∧ ((r = -1) ∨ (0 ≤ r ∧ r ≤ left ∧ n ≤ 1048576 ∧ ∀ t, t < n → (l.getD t ddD).lk.size ≤ 1048576 ∧ (l.getD t ddD).nm.size ≤ 1048576 ∧ (l.getD t ddD).bd.size ≤ 1048576)) ∧ Below w.heap.size w w'
set_option maxRecDepth 100000 in
set_option maxHeartbeats 1600000 in
theorem szDeedS_any (a : Option Addr) (n cap : Nat) (l : List Dd) (left : Int) (w : World) (h : DdR w a n cap l) (hn : n ≤ 9223372036854775807) (hs : ∀ t, t < n → (l.getD t ddD).lk.size ≤ maxLen ∧ (l.getD t ddD).nm.size ≤ maxLen ∧ (l.getD t ddD).bd.size ≤ maxLen) (hl0 : 0 ≤ left) (hl1 : left ≤ 1048576) :
    Calls Try.prog 18 #[.slice a n cap, .int .i64 left] w (LeftDeed n l left w) := by
  have hw : IntKind.i64.wrap (left - (n : Int)) = left - (n : Int) := by rw [IntWalk.i64_in _ (by omega)]
  have HS := Lib.hid hs
  clear hs
  by_cases hn1 : (n : Int) ≤ left
  · have h2 : ¬ left - (n : Int) < 0 := by omega
    have hn2 : n ≤ 1048576 := by omega
    go_enter Try.func18, Try.ntmps18
    go_wp2_with fail
    go_loopw [1, 5] (fun q i wr => ∃ (j : Nat) (r : Int), j ≤ n ∧ i = .int .i64 j ∧ q = .int .i64 r ∧ 0 ≤ r ∧ r ≤ left ∧ Hid (∀ t, t < j → (l.getD t ddD).lk.size ≤ 1048576 ∧ (l.getD t ddD).nm.size ≤ 1048576 ∧ (l.getD t ddD).bd.size ≤ 1048576) ∧ Below w.heap.size w wr) (fun _ i _ => n - (intOf i).toNat)
    case atStart => exact ⟨0, _, Nat.zero_le _, rfl, rfl, by omega, by omega, Lib.hid (fun t ht => absurd ht (by omega)), Below.refl _ _⟩
    case round =>
      obtain ⟨j, r, hj, rfl, rfl, hr0, hr1, HA, hB⟩ := hrel
      by_cases hlt : j < n
      · obtain ⟨g, o, rfl, hg, hc0, hc1, hc2, hc3, hc4, hc5, hc6, hc7, hc8, hc9⟩ := h.at hlt
        have a0 := (hB.cell (p := ⟨g, o + j * 10, none⟩) hg).trans hc0
        have a1 := (hB.cell (p := ⟨g, o + j * 10 + 1, none⟩) hg).trans hc1
        have a2 := (hB.cell (p := ⟨g, o + j * 10 + 2, none⟩) hg).trans hc2
        have a3 := (hB.cell (p := ⟨g, o + j * 10 + 3, none⟩) hg).trans hc3
        have a4 := (hB.cell (p := ⟨g, o + j * 10 + 4, none⟩) hg).trans hc4
        have a5 := (hB.cell (p := ⟨g, o + j * 10 + 5, none⟩) hg).trans hc5
        have a6 := (hB.cell (p := ⟨g, o + j * 10 + 6, none⟩) hg).trans hc6
        have a7 := (hB.cell (p := ⟨g, o + j * 10 + 7, none⟩) hg).trans hc7
        have a8 := (hB.cell (p := ⟨g, o + j * 10 + 8, none⟩) hg).trans hc8
        have a9 := (hB.cell (p := ⟨g, o + j * 10 + 9, none⟩) hg).trans hc9
        have hsj := HS.out j hlt
        have HA2 : Hid (((l.getD j ddD).lk.size ≤ 1048576 ∧ (l.getD j ddD).nm.size ≤ 1048576 ∧ (l.getD j ddD).bd.size ≤ 1048576) → ∀ t, t < j + 1 → (l.getD t ddD).lk.size ≤ 1048576 ∧ (l.getD t ddD).nm.size ≤ 1048576 ∧ (l.getD t ddD).bd.size ≤ 1048576) := Lib.hid (fun hx t ht => by
          by_cases e : t = j
          · rw [e]; exact hx
          · exact HA.out t (by omega))
        have HB := Lib.hid hB
        generalize (l.getD j ddD).kd = q0 at *
        generalize (l.getD j ddD).gn = q1 at *
        generalize (l.getD j ddD).nd = q2 at *
        generalize (l.getD j ddD).mn = q3 at *
        generalize (l.getD j ddD).ck = q4 at *
        generalize (l.getD j ddD).no = q5 at *
        generalize (l.getD j ddD).lk = q6 at *
        generalize (l.getD j ddD).nm = q7 at *
        generalize (l.getD j ddD).tm = q8 at *
        generalize (l.getD j ddD).bd = q9 at *
        clear hc0 hc1 hc2 hc3 hc4 hc5 hc6 hc7 hc8 hc9 hB
        go_wp2_with fail
        refine (szDeed_any q0 q1 q2 q3 q4 q5 q6 q7 q8 q9 r _ hsj.1 hsj.2.1 hsj.2.2 hr0 (by omega)).mono ?_
        rintro e w5 ⟨r', rfl, hr, hb⟩
        have HB5 := Lib.hid (HB.out.trans (hb.mono HB.out.size))
        clear hb a0 a1 a2 a3 a4 a5 a6 a7 a8 a9
        rcases hr with rfl | ⟨hp0, hp1, hps⟩
        · go_wp2_with fail
          go_ret
          exact ⟨-1, rfl, .inl rfl, HB5.out⟩
        · have hnn : ¬ r' < 0 := by omega
          have HA3 := Lib.hid (HA2.out hps)
          clear hps
          go_wp2_with fail
          go_roundw
          case rel => exact ⟨j + 1, r', by omega, by go_num, rfl, hp0, by omega, HA3, HB5.out⟩
          case measure => simp [intOf] <;> omega
      · obtain rfl : j = n := by omega
        have HB := Lib.hid hB
        clear hB
        go_wp2_with fail
        go_ret
        exact ⟨r, rfl, .inr ⟨hr0, hr1, hn2, HA.out⟩, HB.out⟩
  · have h2 : left - (n : Int) < 0 := by omega
    go_enter Try.func18, Try.ntmps18
    go_wp2_with fail
    go_ret
    exact ⟨-1, rfl, .inl rfl, Below.refl _ _⟩
/-- The j-th marks. -/
def mkDd (k j : Nat) : Dd := ⟨(k : Int) + 10 * (j : Int), (k : Int) + 10 * (j : Int) + 1, (k : Int) + 10 * (j : Int) + 2, (k : Int) + 10 * (j : Int) + 3, (k : Int) + 10 * (j : Int) + 4, (k : Int) + 10 * (j : Int) + 5, mkt (k + 10 * j + 6), mkt (k + 10 * j + 7), (k : Int) + 10 * (j : Int) + 8, mkt (k + 10 * j + 9)⟩
def marksDd (k n : Nat) : List Dd := (List.range n).map (mkDd k)
theorem marksDd_length (k n : Nat) : (marksDd k n).length = n := by simp [marksDd]
theorem marksDd_getD {k n j : Nat} (h : j < n) : (marksDd k n).getD j ddD = mkDd k j := by simp [marksDd, List.getD, h]
end Go.Proofs.Ytijegeikogckfaa
