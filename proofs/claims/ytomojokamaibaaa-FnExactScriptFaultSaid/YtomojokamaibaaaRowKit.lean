/- Rows of structs: what is of no struct. -/
import Derived.Test.YtomojokamaibaaaHShA
namespace Go.Proofs.Ytomojokamaibaaa
open Go.RowKit Go.PlainAid G MGF IRow
set_option linter.unusedVariables false
/-- A cell of a row of structs, set: the list that the row holds then. -/
theorem flat_setX {α : Type} (E : Enc α) (d : α) (ps : List α) (i j : Nat) (v : Value) (p' : α) (hi : i < ps.length) (hj : j < E.k) (hc : (E.cells (ps.getD i d)).set j v = E.cells p') : (E.flat ps).set (i * E.k + j) v = E.flat (ps.set i p') := by
  induction ps generalizing i with
  | nil => exact absurd hi (Nat.not_lt_zero _)
  | cons p ps ih =>
    cases i with
    | zero =>
      rw [List.getD_cons_zero] at hc
      simp only [Enc.flat, Nat.zero_mul, Nat.zero_add, List.set_cons_zero]
      rw [List.set_append_left _ _ (by rw [E.len]; exact hj), hc]
    | succ i =>
      rw [List.getD_cons_succ] at hc
      have := ih i (by simpa using hi) hc
      simp only [Enc.flat, List.set_cons_succ]
      rw [List.set_append_right _ _ (by rw [E.len, Nat.succ_mul]; omega), E.len, ← this]
      congr 2
      rw [Nat.succ_mul]; omega
/-- A struct in a block of its own, by its cells. -/
structure BoxC (w : World) (h : Nat) (cs : List Value) : Prop where
  lt : h < w.heap.size
  cell : ∀ j v, cs[j]? = some v → w.cell? ⟨h, j, none⟩ = some v
  free : ∀ j, w.frozen? ⟨h, j, none⟩ = false
theorem BoxC.made (w : World) (cs : Array Value) (e : TypeId) : BoxC (w.alloc (.cells cs e)) w.heap.size cs.toList := by
  have hh : (w.alloc (.cells cs e)).heap[w.heap.size]? = some (.cells cs e (0, 0)) := by show (w.heap.push _)[w.heap.size]? = _; simp
  refine ⟨by rw [World.size_alloc]; omega, fun j v hv => ?_, fun j => ?_⟩
  · rw [cell_of_row _ _ j _ _ _ hh]
    simpa using hv
  · unfold World.frozen?
    simp only [hh]
    simp
theorem BoxC.below {w w' : World} {h : Nat} {cs : List Value} (b : BoxC w h cs) (hb : Below w.heap.size w w') : BoxC w' h cs :=
  ⟨Nat.lt_of_lt_of_le b.lt hb.size, fun j v hv => (hb.cell (p := ⟨h, j, none⟩) b.lt).trans (b.cell j v hv), fun j => (hb.frozen (p := ⟨h, j, none⟩) b.lt).trans (b.free j)⟩
theorem BoxC.alloc {w : World} {h : Nat} {cs : List Value} (b : BoxC w h cs) (o : Obj) : BoxC (w.alloc o) h cs := b.below ((Below.refl _ _).alloc (Nat.le_refl _) _)
theorem BoxC.drew {w : World} {h : Nat} {cs : List Value} (b : BoxC w h cs) : BoxC w.drew h cs := ⟨b.lt, b.cell, b.free⟩
theorem BoxC.set {w : World} {h : Nat} {cs : List Value} (b : BoxC w h cs) {j : Nat} (hj : j < cs.length) (u : Value) : BoxC (w.setCell ⟨h, j, none⟩ u) h (cs.set j u) := by
  refine ⟨by rw [World.size_setCell]; exact b.lt, fun i v hv => ?_, fun i => by rw [World.frozen?_setCell]; exact b.free i⟩
  by_cases hij : j = i
  · subst hij
    rw [List.getElem?_set_self hj] at hv
    cases hv
    exact World.cell?_setCell_same _ _ _ (b.cell j _ (List.getElem?_eq_getElem hj))
  · rw [List.getElem?_set_ne hij] at hv
    rw [World.cell?_setCell_other _ _ _ _ (by intro h2; simp_all)]
    exact b.cell i v hv
theorem BoxC.other {w : World} {h : Nat} {cs : List Value} (b : BoxC w h cs) (p : Addr) (u : Value) (hp : p.block ≠ h) : BoxC (w.setCell p u) h cs := by
  refine ⟨by rw [World.size_setCell]; exact b.lt, fun i v hv => ?_, fun i => by rw [World.frozen?_setCell]; exact b.free i⟩
  rw [World.cell?_setCell_other _ _ _ _ (by intro h2; apply hp; rw [h2])]
  exact b.cell i v hv
theorem BoxC.grown {w w' : World} {h : Nat} {cs : List Value} {row : Option Nat} (b : BoxC w h cs) (hg : w.grownBy w' row) (hr : some h ≠ row) : BoxC w' h cs := by
  have hblk := hg.block h b.lt hr
  refine ⟨Nat.lt_of_lt_of_le b.lt hg.size, fun j v hv => (World.cell?_of_block (a := ⟨h, j, none⟩) hblk).trans (b.cell j v hv), fun j => ?_⟩
  have := b.free j
  unfold World.frozen? at this ⊢
  dsimp only at this ⊢
  rw [hblk]
  exact this
/-- 'append(s, l...)' of rows of structs, s the call's own. -/
theorem run_append_rows {α : Type} (E : Enc α) (d : α) {P : Program} {w : World} {o : Oper} {a : Act} (s x : Operand) (t : TypeId)
    (ho : o.op = .call { callee := .builtin .append, args := #[s, x], argTypes := #[t, t] })
    (e : TypeId) (i : TypeInfo) (z : Value) (bytes : Nat) (ht : P.underlying t = some (.slice e)) (hi : P.info? e = some i) (hz : i.zero = some z) (hsize : i.size = E.k) (hby : i.bytes = bytes) (hzs : z.cells.size = E.k) (hk : 0 < E.k) (hbb : bytes ≤ 1024)
    (B : Nat) (v : Value) (n : Nat) (ps : List α) (hs : a.eval s = v) (hown : w.ownsRow B e E.k v n (E.flat ps)) (ao : Option Addr) (m c : Nat) (qs : List α) (hx : a.eval x = .slice ao m c) (hr : SR E d w ao m c qs) (hB : B ≤ w.heap.size) (hn : n ≤ 1048576) (hm : m ≤ 1048576) :
    ∃ v' w', (execOp a.eval o).run P w = .ok (.value v') w' ∧ w'.ownsRow B e E.k v' (n + m) (E.flat (ps ++ qs)) ∧ w.grownBy w' v.ownBlock := by
  cases ao with
  | none =>
    have hc := hr.nil rfl
    have hm0 : m = 0 := by have := hr.le; omega
    subst hc hm0
    have hq : qs = [] := List.eq_nil_of_length_eq_zero hr.len
    subst hq
    refine ⟨v, w, ?_, by simpa using hown, World.grownBy.refl _ _⟩
    have h1 := run_append_owned_none (P := P) (w := w) (base := B) t o.type e i E.k ht hi v n (E.flat ps) hown
    unfold execOp
    simp only [ho, resolve, invoke, builtin, Sem.run_bind, Sem.run_pure, Result.andThen_ok, List.map_toArray, List.map_cons, List.map_nil, hs, hx, h1]
  | some ad =>
    obtain ⟨v', w', h1, h2, h3, _⟩ := run_append_own (P := P) w B t o.type e i z E.k bytes ht hi hz hsize hby hzs hk v n (E.flat ps) hown ad m c (E.flat qs) (by rw [E.flat_length, hr.len]) (hr.news ad rfl) (E.flat_one qs) (by unfold maxLen; omega)
      (by have : (n + m) * bytes ≤ 2097152 * 1024 := Nat.mul_le_mul (by omega) hbb; omega) hB
    refine ⟨v', w', ?_, by rw [E.flat_append]; exact h2, h3⟩
    unfold execOp
    simp only [ho, resolve, invoke, builtin, Sem.run_bind, Sem.run_pure, Result.andThen_ok, List.map_toArray, List.map_cons, List.map_nil, hs, hx, h1]
def mixX {α : Type} (zs ys : List α) (k : Nat) : List α := zs.take k ++ ys.drop k
theorem mixX_zero {α : Type} (zs ys : List α) : mixX zs ys 0 = ys := by simp [mixX]
theorem mixX_all {α : Type} {zs ys : List α} (h : ys.length = zs.length) : mixX zs ys zs.length = zs := by unfold mixX; rw [List.take_length, List.drop_eq_nil_of_le (by omega), List.append_nil]
theorem mixX_length {α : Type} {zs ys : List α} (h : ys.length = zs.length) (k : Nat) : (mixX zs ys k).length = zs.length := by simp [mixX]; omega
theorem mixX_set {α : Type} (d : α) {zs ys : List α} {k : Nat} (h : ys.length = zs.length) (hk : k < zs.length) : (mixX zs ys k).set k (zs.getD k d) = mixX zs ys (k + 1) := by
  unfold mixX
  rw [List.set_append_right _ _ (by simp; omega)]
  have e1 : k - (zs.take k).length = 0 := by simp; omega
  rw [e1, List.drop_eq_getElem_cons (show k < ys.length by omega), List.set_cons_zero]
  have e2 : zs.getD k d = zs[k] := by simp [List.getD, List.getElem?_eq_getElem hk]
  have e3 : zs.take (k + 1) = zs.take k ++ [zs[k]] := (List.take_append_getElem hk).symm
  rw [e2, e3, List.append_assoc]
  rfl
/-- A row that 'make' makes, of structs. -/
theorem made_enc {α : Type} (E : Enc α) (d : α) (n : Nat) {z : Value} (hz : z.cells.toList = E.cells d) (hk : 0 < E.k) : (madeCells z.cells (n * E.k)).toList = E.flat (List.replicate n d) := by
  apply List.ext_getElem?
  intro i
  have hzl : z.cells.size = E.k := by rw [← Array.length_toList, hz, E.len]
  by_cases hi : i < n * E.k
  · have hd : i / E.k < (List.replicate n d).length := by simp; exact Nat.div_lt_of_lt_mul (by rw [Nat.mul_comm]; exact hi)
    have hs : i < (madeCells z.cells (n * E.k)).toList.length := by simp [size_madeCells, hi]
    have hg : (List.replicate n d).getD (i / E.k) d = d := by rw [getD_mem _ hd, List.getElem_replicate]
    have hm : i % E.k < E.k := Nat.mod_lt _ hk
    have := E.flat_at d (List.replicate n d) (i / E.k) (i % E.k) hd hm
    rw [show i / E.k * E.k + i % E.k = i by rw [Nat.mul_comm]; exact Nat.div_add_mod i E.k, hg] at this
    rw [this, List.getElem?_eq_getElem hs, ← hz]
    simp [madeCells, hzl]
    rw [Array.getElem?_eq_getElem (show i % E.k < z.cells.size by omega)]
    exact congrArg some (getElem!_pos z.cells (i % E.k) (by omega))
  · rw [List.getElem?_eq_none (by simp [size_madeCells]; omega), List.getElem?_eq_none (by rw [E.flat_length, List.length_replicate]; omega)]
end Go.Proofs.Ytomojokamaibaaa
