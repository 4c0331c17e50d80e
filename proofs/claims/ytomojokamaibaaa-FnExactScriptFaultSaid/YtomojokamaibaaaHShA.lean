/- Rows of structs: how a struct of k cells stands in memory; rows of them that can be read, and the call's own. Nothing of the program stands here. -/
import Derived.Test.YtomojokamaibaaaGRow
import Derived.Maps.AppendAt
import Derived.Test.YtomojokamaibaaaMParts2
import Derived.Test.YtomojokamaibaaaBase
import Derived.Test.YtomojokamaibaaaPolyA
import Derived.StillTailTactics
import Derived.Deep.RegionHeld3
namespace Go.Proofs.Ytomojokamaibaaa.IRow
open Go.RowKit
/-- How a value of a struct stands in memory: k cells. -/
structure Enc (α : Type) where
  k : Nat
  cells : α → List Value
  len : ∀ x, (cells x).length = k
  one : ∀ x, ∀ v ∈ cells x, v.oneCell' = true
def Enc.flat {α : Type} (E : Enc α) : List α → List Value
  | [] => []
  | p :: ps => E.cells p ++ E.flat ps
theorem Enc.flat_length {α : Type} (E : Enc α) (ps : List α) : (E.flat ps).length = ps.length * E.k := by
  induction ps with
  | nil => simp [Enc.flat]
  | cons p ps ih => simp only [Enc.flat, List.length_append, List.length_cons, ih, E.len, Nat.succ_mul]; omega
theorem Enc.flat_snoc {α : Type} (E : Enc α) (ps : List α) (p : α) : E.flat (ps ++ [p]) = E.flat ps ++ E.cells p := by
  induction ps with
  | nil => simp [Enc.flat]
  | cons q ps ih => simp only [List.cons_append, Enc.flat, ih, List.append_assoc]
theorem Enc.flat_append {α : Type} (E : Enc α) (ps qs : List α) : E.flat (ps ++ qs) = E.flat ps ++ E.flat qs := by
  induction ps with
  | nil => rfl
  | cons q ps ih => simp only [List.cons_append, Enc.flat, ih, List.append_assoc]
theorem Enc.flat_at {α : Type} (E : Enc α) (d : α) (ps : List α) : ∀ i j, i < ps.length → j < E.k → (E.flat ps)[i * E.k + j]? = (E.cells (ps.getD i d))[j]? := by
  induction ps with
  | nil => intro i j h; simp at h
  | cons p ps ih =>
    intro i j h hj
    have hl := E.len p
    cases i with
    | zero => simp only [Enc.flat, Nat.zero_mul, Nat.zero_add, List.getD_cons_zero]; rw [List.getElem?_append_left (by omega)]
    | succ i =>
      have := ih i j (by simpa using h) hj
      simp only [Enc.flat, List.getD_cons_succ]
      rw [← this, List.getElem?_append_right (by rw [Nat.succ_mul]; omega)]
      congr 1
      rw [Nat.succ_mul]
      omega
/-- A row of structs that can be read. -/
structure SR {α : Type} (E : Enc α) (d : α) (w : World) (a : Option Addr) (n cap : Nat) (ps : List α) : Prop where
  len : ps.length = n
  le : n ≤ cap
  nil : a = none → cap = 0
  cells : 0 < n → ∃ g o, a = some ⟨g, o, none⟩ ∧ g < w.heap.size ∧ ∀ i, i < n → ∀ j v, (E.cells (ps.getD i d))[j]? = some v → w.cell? ⟨g, o + i * E.k + j, none⟩ = some v
theorem SR.none {α : Type} (E : Enc α) (d : α) (w : World) : SR E d w none 0 0 [] := ⟨rfl, Nat.le_refl _, fun _ => rfl, fun h => absurd h (Nat.lt_irrefl 0)⟩
theorem SR.grown {α : Type} {E : Enc α} {d : α} {w w' : World} {row : Option Nat} {a : Option Addr} {n cap : Nat} {ps : List α} (h : SR E d w a n cap ps) (hg : w.grownBy w' row) (hne : 0 < n → ∀ g o, a = some ⟨g, o, .none⟩ → some g ≠ row) : SR E d w' a n cap ps := by
  refine ⟨h.len, h.le, h.nil, fun hn => ?_⟩
  obtain ⟨g, o, ha, hgl, hc⟩ := h.cells hn
  exact ⟨g, o, ha, Nat.lt_of_lt_of_le hgl hg.size, fun i hi j v hj => hg.cell (hc i hi j v hj) (hne hn g o ha)⟩
theorem SR.below {α : Type} {E : Enc α} {d : α} {w w' : World} {a : Option Addr} {n cap : Nat} {ps : List α} (h : SR E d w a n cap ps) (hb : Below w.heap.size w w') : SR E d w' a n cap ps :=
  h.grown (row := .none) ⟨hb.os, hb.tape, hb.output, hb.size, fun k hk _ => hb.block k hk⟩ (fun _ g o _ => by simp)
theorem SR.own {α : Type} {E : Enc α} {d : α} {w : World} {base n cap : Nat} {a : Option Addr} {e : TypeId} {ps : List α} (hk : 0 < E.k) (h : w.ownsRow base e E.k (.slice a n cap) n (E.flat ps)) : SR E d w a n cap ps := by
  have hl : ps.length = n := by have := h.1; rw [E.flat_length] at this; exact Nat.eq_of_mul_eq_mul_right hk this
  have hle : n ≤ cap ∧ (a = .none → cap = 0) := by
    rcases h.2 with ⟨hv, h0⟩ | ⟨g, c, cur, hv, _, _, hnc, _⟩
    · simp only [Value.slice.injEq] at hv
      obtain ⟨rfl, rfl, rfl⟩ := hv
      exact ⟨Nat.le_refl _, fun _ => rfl⟩
    · simp only [Value.slice.injEq] at hv
      obtain ⟨rfl, _, rfl⟩ := hv
      exact ⟨hnc, fun h => by cases h⟩
  refine ⟨hl, hle.1, hle.2, fun hn => ?_⟩
  obtain ⟨g, cap', hv, hb, hg⟩ := h.form hn
  simp only [Value.slice.injEq] at hv
  obtain ⟨rfl, _, rfl⟩ := hv
  refine ⟨g, 0, rfl, hg, fun i hi j v hj => ?_⟩
  have hjk : j < E.k := by
    by_cases hj2 : j < E.k
    · exact hj2
    · rw [List.getElem?_eq_none (by rw [E.len]; omega)] at hj; cases hj
  have hlt : i * E.k + j < n * E.k := by
    have : i * E.k + E.k ≤ n * E.k := by rw [← Nat.succ_mul]; exact Nat.mul_le_mul_right _ hi
    omega
  rw [Nat.zero_add, h.cellAt (i * E.k + j) (by omega), E.flat_at d ps i j (by omega) hjk, hj]
theorem SR.take {α : Type} {E : Enc α} {d : α} {w : World} {a : Option Addr} {n cap k : Nat} {ps : List α} (h : SR E d w a n cap ps) (hk : k ≤ n) : SR E d w a k cap (ps.take k) := by
  have hl := h.len
  refine ⟨by rw [List.length_take]; omega, by have := h.le; omega, h.nil, fun hn => ?_⟩
  obtain ⟨g, o, ha, hg, hc⟩ := h.cells (by omega)
  refine ⟨g, o, ha, hg, fun i hi j v hj => hc i (by omega) j v ?_⟩
  rw [← hj]
  simp [List.getD, hi]
/-- The rest of a row, behind its first k. -/
theorem SR.drop {α : Type} {E : Enc α} {d : α} {w : World} {g o n cap k : Nat} {ps : List α} (h : SR E d w (some ⟨g, o, .none⟩) n cap ps) (hk : k < n) : SR E d w (some ⟨g, o + k * E.k, .none⟩) (n - k) (cap - k) (ps.drop k) := by
  have hl := h.len
  have hle := h.le
  refine ⟨by rw [List.length_drop]; omega, by omega, (fun e => by cases e), fun hn => ?_⟩
  obtain ⟨g', o', ha, hg, hc⟩ := h.cells (by omega)
  simp only [Option.some.injEq, Addr.mk.injEq, and_true] at ha
  obtain ⟨rfl, rfl⟩ := ha
  refine ⟨g, o + k * E.k, rfl, hg, fun i hi j v hj => ?_⟩
  have := hc (k + i) (by omega) j v (by rw [← hj]; simp [List.getD])
  rw [Nat.add_mul] at this
  rw [show o + k * E.k + i * E.k + j = o + (k * E.k + i * E.k) + j by omega]
  exact this
/-- The cells of a row, as append wants them. -/
theorem SR.news {α : Type} {E : Enc α} {d : α} {w : World} {a : Option Addr} {n cap : Nat} {ps : List α} (h : SR E d w a n cap ps) : ∀ ad, a = some ad → ∀ j u, (E.flat ps)[j]? = some u → w.cell? (ad.add j) = some u := by
  intro ad ha j u hu
  have hl := h.len
  have hj : j < (E.flat ps).length := by
    by_cases hj : j < (E.flat ps).length
    · exact hj
    · rw [List.getElem?_eq_none (by omega)] at hu; cases hu
  rw [E.flat_length] at hj
  have hk : 0 < E.k := by
    rcases Nat.eq_zero_or_pos E.k with h0 | h0
    · rw [h0] at hj; omega
    · exact h0
  have hn : 0 < n := by
    rcases Nat.eq_zero_or_pos n with h0 | h0
    · rw [hl, h0] at hj; omega
    · exact h0
  obtain ⟨g, o, ha', hg, hc⟩ := h.cells hn
  rw [ha] at ha'
  cases ha'
  have e1 : (⟨g, o, .none⟩ : Addr).add j = ⟨g, o + j, .none⟩ := by unfold Addr.add; split <;> simp_all
  have hd : j / E.k < ps.length := Nat.div_lt_of_lt_mul (by rw [Nat.mul_comm]; exact hj)
  have hm := Nat.mod_lt j hk
  have hj2 : j / E.k * E.k + j % E.k = j := Nat.div_add_mod' j E.k
  have := E.flat_at d ps (j / E.k) (j % E.k) hd hm
  rw [hj2, hu] at this
  have h2 := hc (j / E.k) (by omega) (j % E.k) u this.symm
  rw [e1]
  rw [Nat.add_assoc, hj2] at h2
  exact h2
theorem Enc.flat_one {α : Type} (E : Enc α) (ps : List α) : ∀ v ∈ E.flat ps, v.oneCell' = true := by
  induction ps with
  | nil => intro v hv; simp [Enc.flat] at hv
  | cons p ps ih =>
    intro v hv
    simp only [Enc.flat, List.mem_append] at hv
    exact hv.elim (E.one p v) (ih v)
theorem Enc.flat_set {α : Type} (E : Enc α) (ps qs : List α) (p _ : α) : E.flat (ps ++ p :: qs) = E.flat ps ++ (E.cells p ++ E.flat qs) := by rw [E.flat_append]; rfl
/-- 'l = append(l, S{..})', l the call's own: what the walk goes on with, and where the new row lies. -/
theorem append_enc {α : Type} (E : Enc α) {P : Program} {w : World} {ops : Array Oper} {rest : List Oper} {o : Oper} {a : Act} {Q : Exit → Act → World → Prop} (hgd : o.guard = none) (s x : Operand) (t : TypeId)
    (ho : o.op = .call { callee := .builtin .append, args := #[s, x], argTypes := #[t, t] })
    (e : TypeId) (i : TypeInfo) (z : Value) (bytes : Nat) (ht : P.underlying t = some (.slice e)) (hi : P.info? e = some i) (hz : i.zero = some z) (hsize : i.size = E.k) (hby : i.bytes = bytes) (hzs : z.cells.size = E.k) (hk : 0 < E.k) (hbb : bytes ≤ 1024)
    (B : Nat) (v : Value) (n : Nat) (ps : List α) (hs : a.eval s = v) (hown : w.ownsRow B e E.k v n (E.flat ps)) (p : α) (cs : Array Value) (hcs : cs = (E.cells p).toArray) (e' : TypeId)
    (hx : a.eval x = .slice (some ⟨w.heap.size, 0, none⟩) 1 1) (hB : B ≤ w.heap.size) (hn : n ≤ 1048576)
    (h : ∀ v' w', w'.ownsRow B e E.k v' (n + 1) (E.flat (ps ++ [p])) → w.grownBy w' v.ownBlock → (v'.ownBlock = v.ownBlock ∨ ∃ g, v'.ownBlock = some g ∧ w.heap.size ≤ g) → wpList P ops Q rest (a.put o.dst v') w') : wpList P ops Q (o :: rest) a (w.alloc (.cells cs e')) := by
  subst hcs
  refine wpList_append_own_at _ hgd s x t ho B e i z E.k bytes ht hi hz hsize hby hzs hk v n (E.flat ps) hs (hown.alloc _) ⟨w.heap.size, 0, none⟩ 1 1 (E.cells p) hx (by rw [E.len, Nat.one_mul]) ?_ (E.one p) (by unfold maxLen; omega) ?_ (by simp; omega) ?_
  · intro j z hj
    have hjl : j < (E.cells p).length := by
      by_cases h2 : j < (E.cells p).length
      · exact h2
      · rw [List.getElem?_eq_none (by omega)] at hj; cases hj
    have e1 : (⟨w.heap.size, 0, none⟩ : Addr).add j = ⟨w.heap.size, 0 + j, none⟩ := by unfold Addr.add; split <;> simp_all
    rw [e1, Nat.zero_add]
    have := World.cell?_alloc_new w (E.cells p).toArray e' j
    rw [this]
    simpa using hj
  · have : (n + 1) * bytes ≤ 1048577 * 1024 := Nat.mul_le_mul (by omega) hbb
    omega
  · intro v' w' h1 h2 _ h3
    rw [← E.flat_snoc] at h1
    refine h v' w' h1 (grown_trans (World.grownBy_alloc w _ _) h2) ?_
    rcases h3 with h3 | h3
    · exact .inl h3
    · exact .inr ⟨_, h3, by simp⟩
end Go.Proofs.Ytomojokamaibaaa.IRow
/- Rows of parts: a number and a text each. -/
namespace Go.Proofs.Ytomojokamaibaaa
open Go.RowKit G MGF IRow
set_option linter.unusedVariables false
/-- A part in memory. -/
def shE : Enc (Int × ByteArray) := ⟨2, fun p => [.int .i64 p.1, .string p.2], fun _ => rfl, by intro x v hv; simp at hv; rcases hv with rfl | rfl <;> rfl⟩
def shD : Int × ByteArray := (0, ByteArray.empty)
/-- A row of parts that can be read. -/
abbrev HR (w : World) (a : Option Addr) (n cap : Nat) (l : List (Int × ByteArray)) : Prop := SR shE shD w a n cap l
theorem HR.at {w : World} {a : Option Addr} {n cap : Nat} {l : List (Int × ByteArray)} (h : HR w a n cap l) {i : Nat} (hi : i < n) : ∃ g o, a = some ⟨g, o, none⟩ ∧ g < w.heap.size ∧ w.cell? ⟨g, o + i * 2, none⟩ = some (.int .i64 (l.getD i shD).1) ∧ w.cell? ⟨g, o + i * 2 + 1, none⟩ = some (.string (l.getD i shD).2) := by
  obtain ⟨g, o, ha, hg, hc⟩ := h.cells (by omega)
  exact ⟨g, o, ha, hg, hc i hi 0 _ rfl, hc i hi 1 _ rfl⟩
/-- A text, or a code. -/
def NewSecret (r : ByteArray × Int) (w : World) (e : Ending) (w' : World) : Prop := e = .returned (.agg #[.string r.1, .int .i64 r.2]) ∧ Below w.heap.size w w'
theorem ret_secret {r : ByteArray × Int} {t : ByteArray} {c : Int} (h : r = (t, c)) {w w' : World} (hb : Below w.heap.size w w') : NewSecret r w (.returned (.agg #[.string t, .int .i64 c])) w' := by
  subst h
  exact ⟨rfl, hb⟩
end Go.Proofs.Ytomojokamaibaaa
/- Rows of parts that are written: lists; and the laws' texts for marks. -/
namespace Go.Proofs.Ytomojokamaibaaa
open Go.RowKit Go.PlainAid G MGF IRow
set_option linter.unusedVariables false
theorem sh_set1 (x : Int) : ∀ (ps : List (Int × ByteArray)) (i : Nat), i < ps.length → (shE.flat ps).set (i * 2) (.int .i64 x) = shE.flat (ps.set i (x, (ps.getD i shD).2))
  | [], i, h => absurd h (Nat.not_lt_zero _)
  | p :: ps, 0, _ => rfl
  | p :: ps, i + 1, h => by
    have := sh_set1 x ps i (by simpa using h)
    rw [show (i + 1) * 2 = i * 2 + 1 + 1 by omega]
    show (Value.int .i64 p.1 :: Value.string p.2 :: shE.flat ps).set (i * 2 + 1 + 1) _ = Value.int .i64 p.1 :: Value.string p.2 :: shE.flat (ps.set i (x, (ps.getD i shD).2))
    rw [List.set_cons_succ, List.set_cons_succ, this]
theorem sh_set2 (t : ByteArray) : ∀ (ps : List (Int × ByteArray)) (i : Nat), i < ps.length → (shE.flat ps).set (i * 2 + 1) (.string t) = shE.flat (ps.set i ((ps.getD i shD).1, t))
  | [], i, h => absurd h (Nat.not_lt_zero _)
  | p :: ps, 0, _ => rfl
  | p :: ps, i + 1, h => by
    have := sh_set2 t ps i (by simpa using h)
    rw [show (i + 1) * 2 + 1 = i * 2 + 1 + 1 + 1 by omega]
    show (Value.int .i64 p.1 :: Value.string p.2 :: shE.flat ps).set (i * 2 + 1 + 1 + 1) _ = Value.int .i64 p.1 :: Value.string p.2 :: shE.flat (ps.set i ((ps.getD i shD).1, t))
    rw [List.set_cons_succ, List.set_cons_succ, this]
theorem sh_set (x : Int) (t : ByteArray) (ps : List (Int × ByteArray)) {i : Nat} (h : i < ps.length) : ((shE.flat ps).set (i * 2) (.int .i64 x)).set (i * 2 + 1) (.string t) = shE.flat (ps.set i (x, t)) := by
  rw [sh_set1 x ps i h, sh_set2 t _ i (by simpa using h)]
  congr 1
  rw [List.set_set]
  congr 1
  simp [List.getD, h]
theorem ownS_one {w : World} {base g n cap : Nat} {e : TypeId} {ps : List (Int × ByteArray)} (h : w.ownsRow base e shE.k (.slice (some ⟨g, 0, none⟩) n cap) n (shE.flat ps)) {k : Nat} (hk : k < n) (x : Int) :
    (w.setCell ⟨g, k * 2, none⟩ (.int .i64 x)).ownsRow base e shE.k (.slice (some ⟨g, 0, none⟩) n cap) n (shE.flat (ps.set k (x, (ps.getD k shD).2))) ∧ w.grownBy (w.setCell ⟨g, k * 2, none⟩ (.int .i64 x)) (some g) := by
  have hl : ps.length = n := by have := h.1; rw [shE.flat_length] at this; exact Nat.eq_of_mul_eq_mul_right (show 0 < shE.k by decide) this
  have h1 := h.stored (k * 2) (.int .i64 x)
  rw [sh_set1 x ps k (by omega)] at h1
  exact h1
theorem ownS_two {w : World} {base g n cap : Nat} {e : TypeId} {ps : List (Int × ByteArray)} (h : w.ownsRow base e shE.k (.slice (some ⟨g, 0, none⟩) n cap) n (shE.flat ps)) {k : Nat} (hk : k < n) (t : ByteArray) :
    (w.setCell ⟨g, k * 2 + 1, none⟩ (.string t)).ownsRow base e shE.k (.slice (some ⟨g, 0, none⟩) n cap) n (shE.flat (ps.set k ((ps.getD k shD).1, t))) ∧ w.grownBy (w.setCell ⟨g, k * 2 + 1, none⟩ (.string t)) (some g) := by
  have hl : ps.length = n := by have := h.1; rw [shE.flat_length] at this; exact Nat.eq_of_mul_eq_mul_right (show 0 < shE.k by decide) this
  have h1 := h.stored (k * 2 + 1) (.string t)
  rw [sh_set2 t ps k (by omega)] at h1
  exact h1
theorem ownS_stored {w : World} {base g n cap : Nat} {e : TypeId} {ps : List (Int × ByteArray)} (h : w.ownsRow base e shE.k (.slice (some ⟨g, 0, none⟩) n cap) n (shE.flat ps)) {k : Nat} (hk : k < n) (x : Int) (t : ByteArray) :
    ((w.setCell ⟨g, k * 2, none⟩ (.int .i64 x)).setCell ⟨g, k * 2 + 1, none⟩ (.string t)).ownsRow base e shE.k (.slice (some ⟨g, 0, none⟩) n cap) n (shE.flat (ps.set k (x, t))) ∧
      w.grownBy ((w.setCell ⟨g, k * 2, none⟩ (.int .i64 x)).setCell ⟨g, k * 2 + 1, none⟩ (.string t)) (some g) := by
  have hl : ps.length = n := by have := h.1; rw [shE.flat_length] at this; exact Nat.eq_of_mul_eq_mul_right (show 0 < shE.k by decide) this
  have h1 := h.stored (k * 2) (.int .i64 x)
  have h2 := h1.1.stored (k * 2 + 1) (.string t)
  rw [sh_set x t ps (by omega)] at h2
  exact ⟨h2.1, grown_trans h1.2 h2.2⟩
def mixS (zs ys : List (Int × ByteArray)) (k : Nat) : List (Int × ByteArray) := zs.take k ++ ys.drop k
theorem mixS_zero (zs ys : List (Int × ByteArray)) : mixS zs ys 0 = ys := by simp [mixS]
theorem mixS_all {zs ys : List (Int × ByteArray)} (h : ys.length = zs.length) : mixS zs ys zs.length = zs := by unfold mixS; rw [List.take_length, List.drop_eq_nil_of_le (by omega), List.append_nil]
theorem mixS_length {zs ys : List (Int × ByteArray)} (h : ys.length = zs.length) (k : Nat) : (mixS zs ys k).length = zs.length := by simp [mixS]; omega
theorem mixS_set {zs ys : List (Int × ByteArray)} {k : Nat} (h : ys.length = zs.length) (hk : k < zs.length) : (mixS zs ys k).set k (zs.getD k shD) = mixS zs ys (k + 1) := by
  unfold mixS
  rw [List.set_append_right _ _ (by simp; omega)]
  have e1 : k - (zs.take k).length = 0 := by simp; omega
  rw [e1, List.drop_eq_getElem_cons (show k < ys.length by omega), List.set_cons_zero]
  have e2 : zs.getD k shD = zs[k] := by simp [List.getD, List.getElem?_eq_getElem hk]
  have e3 : zs.take (k + 1) = zs.take k ++ [zs[k]] := (List.take_append_getElem hk).symm
  rw [e2, e3, List.append_assoc]
  rfl
theorem take_getDS {zs : List (Int × ByteArray)} {j : Nat} (h : j < zs.length) : zs.take (j + 1) = zs.take j ++ [zs.getD j shD] := by
  have e2 : zs.getD j shD = zs[j] := by simp [List.getD, List.getElem?_eq_getElem h]
  rw [e2]
  exact (List.take_append_getElem h).symm
theorem madeS (n : Nat) : (madeCells (Value.agg #[Value.int .i64 0, Value.string ByteArray.empty]).cells (n * 2)).toList = shE.flat (List.replicate n shD) := by
  apply List.ext_getElem?
  intro i
  by_cases hi : i < n * 2
  · have hd : i / 2 < (List.replicate n shD).length := by simp; omega
    have hs : i < (madeCells (Value.agg #[Value.int .i64 0, Value.string ByteArray.empty]).cells (n * 2)).toList.length := by simp [size_madeCells, hi]
    have hg : (List.replicate n shD).getD (i / 2) shD = shD := by rw [getD_mem _ hd, List.getElem_replicate]
    rcases Nat.mod_two_eq_zero_or_one i with h | h
    · have := shE.flat_at shD (List.replicate n shD) (i / 2) 0 hd (by decide)
      rw [show i / 2 * shE.k + 0 = i by show i / 2 * 2 + 0 = i; omega, hg] at this
      rw [this, List.getElem?_eq_getElem hs]
      simp [madeCells, Value.cells, h, shE, shD]
    · have := shE.flat_at shD (List.replicate n shD) (i / 2) 1 hd (by decide)
      rw [show i / 2 * shE.k + 1 = i by show i / 2 * 2 + 1 = i; omega, hg] at this
      rw [this, List.getElem?_eq_getElem hs]
      simp [madeCells, Value.cells, h, shE, shD]
  · rw [List.getElem?_eq_none (by simp [size_madeCells]; omega), List.getElem?_eq_none (by rw [shE.flat_length, List.length_replicate]; show n * 2 ≤ i; omega)]
/-- The digits of a number, ahead of a text. -/
def mkd : Nat → Nat → ByteArray → ByteArray
  | 0, _, out => out
  | f + 1, k, out => if k = 0 then out else mkd f (k / 10) (strOfNums [48 + ((k % 10 : Nat) : Int)] ++ out)
theorem mkd_zero : ∀ (f : Nat) (out : ByteArray), mkd f 0 out = out
  | 0, _ => rfl
  | f + 1, _ => by unfold mkd; rw [if_pos rfl]
theorem mkd_succ {f k : Nat} (out : ByteArray) (h : k ≠ 0) : mkd (f + 1) k out = mkd f (k / 10) (strOfNums [48 + ((k % 10 : Nat) : Int)] ++ out) := by rw [mkd, if_neg h]
def mkt (k : Nat) : ByteArray := ⟨#[109]⟩ ++ mkd 64 k ByteArray.empty
end Go.Proofs.Ytomojokamaibaaa
/- What the laws' own functions on parts answer. -/
namespace Go.Proofs.Ytomojokamaibaaa
open Go.RowKit Go.PlainAid G MGF IRow
set_option linter.unusedVariables false
def marksS (k n : Nat) : List (Int × ByteArray) := (List.range n).map fun i : Nat => ((k : Int) + 2 * (i : Int), mkt (k + 2 * i + 1))
theorem marksS_length (k n : Nat) : (marksS k n).length = n := by simp [marksS]
theorem marksS_getD {k n j : Nat} (h : j < n) : (marksS k n).getD j shD = ((k : Int) + 2 * (j : Int), mkt (k + 2 * j + 1)) := by simp [marksS, List.getD, h]
theorem HR.own {w : World} {base n cap : Nat} {a : Option Addr} {e : TypeId} {l : List (Int × ByteArray)} (h : w.ownsRow base e shE.k (.slice a n cap) n (shE.flat l)) : HR w a n cap l := SR.own (by decide) h
end Go.Proofs.Ytomojokamaibaaa
