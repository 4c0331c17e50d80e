/- Rows of pairs of int64: rows of the call's own. Nothing of the program stands here. -/
import Derived.Test.YtnoefpkhbllmiaaGreatDoorMParts2
import Derived.Test.YtnoefpkhbllmiaaGreatDoorHPolyA
import Derived.StillTailTactics
namespace Go.Proofs.YtnoefpkhbllmiaaGreatDoor.IRow
open Go.RowKit
/-- The cells of pairs, one behind the other. -/
def flat : List (Int × Int) → List Value
  | [] => []
  | p :: ps => .int .i64 p.1 :: .int .i64 p.2 :: flat ps
theorem flat_length (ps : List (Int × Int)) : (flat ps).length = ps.length * 2 := by
  induction ps with
  | nil => rfl
  | cons p ps ih => simp only [flat, List.length_cons, ih]; omega
theorem flat_fst (ps : List (Int × Int)) : ∀ i, i < ps.length → (flat ps)[i * 2]? = some (.int .i64 (ps.getD i (0, 0)).1) := by
  induction ps with
  | nil => intro i h; simp at h
  | cons p ps ih =>
    intro i h
    cases i with
    | zero => simp [flat, List.getD]
    | succ i =>
      have := ih i (by simpa using h)
      rw [show (i + 1) * 2 = i * 2 + 1 + 1 by omega]
      simpa [flat, List.getD] using this
theorem flat_snd (ps : List (Int × Int)) : ∀ i, i < ps.length → (flat ps)[i * 2 + 1]? = some (.int .i64 (ps.getD i (0, 0)).2) := by
  induction ps with
  | nil => intro i h; simp at h
  | cons p ps ih =>
    intro i h
    cases i with
    | zero => simp [flat, List.getD]
    | succ i =>
      have := ih i (by simpa using h)
      rw [show (i + 1) * 2 + 1 = i * 2 + 1 + 1 + 1 by omega]
      simpa [flat, List.getD] using this
theorem flat_set_fst (ps : List (Int × Int)) (x _ : Int) : ∀ i, i < ps.length → (flat ps).set (i * 2) (.int .i64 x) = flat (ps.set i (x, (ps.getD i (0, 0)).2)) := by
  induction ps with
  | nil => intro i h; simp at h
  | cons p ps ih =>
    intro i h
    cases i with
    | zero => simp [flat, List.getD]
    | succ i =>
      have := ih i (by simpa using h)
      rw [show (i + 1) * 2 = i * 2 + 1 + 1 by omega]
      simpa [flat, List.getD] using this
theorem flat_set_snd (ps : List (Int × Int)) (y : Int) : ∀ i, i < ps.length → (flat ps).set (i * 2 + 1) (.int .i64 y) = flat (ps.set i ((ps.getD i (0, 0)).1, y)) := by
  induction ps with
  | nil => intro i h; simp at h
  | cons p ps ih =>
    intro i h
    cases i with
    | zero => simp [flat, List.getD]
    | succ i =>
      have := ih i (by simpa using h)
      rw [show (i + 1) * 2 + 1 = i * 2 + 1 + 1 + 1 by omega]
      simpa [flat, List.getD] using this
theorem flat_set (ps : List (Int × Int)) (x y : Int) {i : Nat} (h : i < ps.length) : ((flat ps).set (i * 2) (.int .i64 x)).set (i * 2 + 1) (.int .i64 y) = flat (ps.set i (x, y)) := by
  rw [flat_set_fst ps x y i h, flat_set_snd _ y i (by simpa using h)]
  congr 1
  rw [List.set_set]
  congr 1
  simp [List.getD, h]
theorem PR.own {w : World} {base n cap : Nat} {a : Option Addr} {e : TypeId} {ps : List (Int × Int)} (h : w.ownsRow base e 2 (.slice a n cap) n (flat ps)) : PR w a n cap ps := by
  have hl : ps.length = n := by have := h.1; rw [flat_length] at this; omega
  have hle : n ≤ cap ∧ (a = .none → cap = 0) := by
    rcases h.2 with ⟨hv, h0⟩ | ⟨g, c, cur, hv, _, _, hnc, _⟩
    · simp only [Value.slice.injEq] at hv
      obtain ⟨rfl, rfl, rfl⟩ := hv
      exact ⟨Nat.le_refl _, fun _ => rfl⟩
    · simp only [Value.slice.injEq] at hv
      obtain ⟨rfl, _, rfl⟩ := hv
      exact ⟨hnc, fun h => by cases h⟩
  refine ⟨hl, hle.1, hle.2, fun hn => ?_⟩
  obtain ⟨g, cap', hv, hb, hg⟩ := h.form hn
  simp only [Value.slice.injEq] at hv
  obtain ⟨rfl, _, rfl⟩ := hv
  refine ⟨g, 0, rfl, hg, fun i hi => ?_⟩
  rw [Nat.zero_add]
  exact ⟨by rw [h.cellAt (i * 2) (by omega), flat_fst ps i (by omega)], by rw [h.cellAt (i * 2 + 1) (by omega), flat_snd ps i (by omega)]⟩
def mixP (zs ys : List (Int × Int)) (k : Nat) : List (Int × Int) := zs.take k ++ ys.drop k
theorem mixP_zero (zs ys : List (Int × Int)) : mixP zs ys 0 = ys := by simp [mixP]
theorem mixP_all {zs ys : List (Int × Int)} (h : ys.length = zs.length) : mixP zs ys zs.length = zs := by unfold mixP; rw [List.take_length, List.drop_eq_nil_of_le (by omega), List.append_nil]
theorem mixP_length {zs ys : List (Int × Int)} (h : ys.length = zs.length) (k : Nat) : (mixP zs ys k).length = zs.length := by simp [mixP]; omega
theorem mixP_set {zs ys : List (Int × Int)} {k : Nat} (h : ys.length = zs.length) (hk : k < zs.length) : (mixP zs ys k).set k (zs.getD k (0, 0)) = mixP zs ys (k + 1) := by
  unfold mixP
  rw [List.set_append_right _ _ (by simp; omega)]
  have e1 : k - (zs.take k).length = 0 := by simp; omega
  rw [e1, List.drop_eq_getElem_cons (show k < ys.length by omega), List.set_cons_zero]
  have e2 : zs.getD k (0, 0) = zs[k] := by simp [List.getD, List.getElem?_eq_getElem hk]
  have e3 : zs.take (k + 1) = zs.take k ++ [zs[k]] := (List.take_append_getElem hk).symm
  rw [e2, e3, List.append_assoc]
  rfl
theorem ownP_stored {w : World} {base g n cap : Nat} {e : TypeId} {ps : List (Int × Int)} (h : w.ownsRow base e 2 (.slice (some ⟨g, 0, none⟩) n cap) n (flat ps)) {k : Nat} (hk : k < n) (x y : Int) :
    ((w.setCell ⟨g, k * 2, none⟩ (.int .i64 x)).setCell ⟨g, k * 2 + 1, none⟩ (.int .i64 y)).ownsRow base e 2 (.slice (some ⟨g, 0, none⟩) n cap) n (flat (ps.set k (x, y))) ∧
      w.grownBy ((w.setCell ⟨g, k * 2, none⟩ (.int .i64 x)).setCell ⟨g, k * 2 + 1, none⟩ (.int .i64 y)) (some g) := by
  have hl : ps.length = n := by have := h.1; rw [flat_length] at this; omega
  have h1 := h.stored (k * 2) (.int .i64 x)
  have h2 := h1.1.stored (k * 2 + 1) (.int .i64 y)
  rw [flat_set ps x y (by omega)] at h2
  exact ⟨h2.1, grown_trans h1.2 h2.2⟩
theorem madeP (n : Nat) : (madeCells (Value.agg #[Value.int .i64 0, Value.int .i64 0]).cells (n * 2)).toList = flat (List.replicate n (0, 0)) := by
  apply List.ext_getElem?
  intro i
  by_cases hi : i < n * 2
  · have h1 : (madeCells (Value.agg #[Value.int .i64 0, Value.int .i64 0]).cells (n * 2)).toList[i]? = some (.int .i64 0) := by
      have hs : i < (madeCells (Value.agg #[Value.int .i64 0, Value.int .i64 0]).cells (n * 2)).toList.length := by simp [size_madeCells, hi]
      rw [List.getElem?_eq_getElem hs]
      have : i % 2 = 0 ∨ i % 2 = 1 := by omega
      rcases this with h | h <;> simp [madeCells, Value.cells, h]
    rw [h1]
    rcases Nat.mod_two_eq_zero_or_one i with h | h
    · have := flat_fst (List.replicate n (0, 0)) (i / 2) (by simp; omega)
      rw [show i / 2 * 2 = i by omega] at this
      rw [this]
      simp [List.getD, show i / 2 < n by omega]
    · have := flat_snd (List.replicate n (0, 0)) (i / 2) (by simp; omega)
      rw [show i / 2 * 2 + 1 = i by omega] at this
      rw [this]
      simp [List.getD, show i / 2 < n by omega]
  · rw [List.getElem?_eq_none (by simp [size_madeCells]; omega), List.getElem?_eq_none (by rw [flat_length, List.length_replicate]; omega)]
def marks2 (k : Int) (n : Nat) : List (Int × Int) := (List.range n).map fun i : Nat => (k + 2 * (i : Int), k + 2 * (i : Int) + 1)
theorem marks2_length (k : Int) (n : Nat) : (marks2 k n).length = n := by simp [marks2]
theorem marks2_getD {k : Int} {n j : Nat} (h : j < n) : (marks2 k n).getD j (0, 0) = (k + 2 * (j : Int), k + 2 * (j : Int) + 1) := by simp [marks2, List.getD, h]
theorem take_getDP {zs : List (Int × Int)} {j : Nat} (h : j < zs.length) : zs.take (j + 1) = zs.take j ++ [zs.getD j (0, 0)] := by
  have e2 : zs.getD j (0, 0) = zs[j] := by simp [List.getD, List.getElem?_eq_getElem h]
  rw [e2]
  exact (List.take_append_getElem h).symm
/-- 'l = append(l, P{x, y})', l the call's own. -/
theorem append_pair {P : Program} {w : World} {ops : Array Oper} {rest : List Oper} {o : Oper} {a : Act} {Q : Exit → Act → World → Prop} (hgd : o.guard = none) (s x : Operand) (t : TypeId)
    (ho : o.op = .call { callee := .builtin .append, args := #[s, x], argTypes := #[t, t] })
    (e : TypeId) (i : TypeInfo) (ht : P.underlying t = some (.slice e)) (hi : P.info? e = some i) (hz : i.zero = some (.agg #[.int .i64 0, .int .i64 0])) (hsize : i.size = 2) (hby : i.bytes = 16)
    (B : Nat) (v : Value) (n : Nat) (ps : List (Int × Int)) (hs : a.eval s = v) (hown : w.ownsRow B e 2 v n (flat ps)) (u y : Int) (e' : TypeId)
    (hx : a.eval x = .slice (some ⟨w.heap.size, 0, none⟩) 1 1) (hB : B ≤ w.heap.size) (hn : n ≤ 1048576)
    (h : ∀ v' w', w'.ownsRow B e 2 v' (n + 1) (flat (ps ++ [(u, y)])) → w.grownBy w' v.ownBlock → wpList P ops Q rest (a.put o.dst v') w') : wpList P ops Q (o :: rest) a (w.alloc (.cells #[.int .i64 u, .int .i64 y] e')) := by
  have hf : ∀ qs : List (Int × Int), flat (qs ++ [(u, y)]) = flat qs ++ [.int .i64 u, .int .i64 y] := fun qs => by
    induction qs with
    | nil => rfl
    | cons q qs ih => simp only [List.cons_append, flat, ih]
  refine wpList_append_own _ hgd s x t ho B e i (.agg #[.int .i64 0, .int .i64 0]) 2 16 ht hi hz hsize hby rfl (by decide) v n (flat ps) hs (hown.alloc _) ⟨w.heap.size, 0, none⟩ 1 1 [.int .i64 u, .int .i64 y] hx rfl ?_ ?_ (by unfold maxLen; omega) (by omega) (by simp; omega) ?_
  · intro j z hj
    match j, hj with
    | 0, hj => simp at hj; subst hj; simp [Addr.add]
    | 1, hj => simp at hj; subst hj; simp [Addr.add]
  · intro z hz'
    simp at hz'
    rcases hz' with rfl | rfl <;> rfl
  · intro v' w' h1 h2 _
    rw [← hf] at h1
    exact h v' w' h1 (grown_trans (World.grownBy_alloc w _ _) h2)
theorem own_cut0 {w : World} {base n g cap : Nat} {e : TypeId} {size : Nat} {xs : List Value} (h : w.ownsRow base e size (.slice (some ⟨g, 0, none⟩) n cap) n xs) : w.ownsRow base e size (.slice (some ⟨g, 0, none⟩) 0 cap) 0 [] := by
  refine ⟨by simp, ?_⟩
  rcases h.2 with ⟨hv, _⟩ | ⟨g', c, cur, hv, hb, hg, hnc, hcm, hcs, _⟩
  · simp at hv
  · simp only [Value.slice.injEq, Option.some.injEq, Addr.mk.injEq, and_true, true_and] at hv
    obtain ⟨rfl, rfl⟩ := hv
    exact .inr ⟨g, cap, cur, rfl, hb, hg, Nat.zero_le _, hcm, hcs, by simp⟩
end Go.Proofs.YtnoefpkhbllmiaaGreatDoor.IRow
/- What the laws' own functions on rows of points answer. -/
namespace Go.Proofs.YtnoefpkhbllmiaaGreatDoor
open Go.RowKit G IRow
set_option linter.unusedVariables false
end Go.Proofs.YtnoefpkhbllmiaaGreatDoor
