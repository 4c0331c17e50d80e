/- The bytes of a text: by runes where it is plain, else at once. -/
import Derived.Test.YtnoefpkhbllmiaaGreatDoorSplA
import Derived.Test.YtnoefpkhbllmiaaGreatDoorDrawA
import Derived.Lib.OthersKept
import Derived.WalkSmall
namespace Go.Proofs.YtnoefpkhbllmiaaGreatDoor
open Go.RowKit Go.PlainAid G MGF IRow
set_option linter.unusedVariables false
def PlainP (t : ByteArray) (w : World) (e : Ending) (w' : World) : Prop := ∃ b, e = .returned (.bool b) ∧ (b = true → ∀ i (h : i < t.size), (t[i]'h).toNat < 128) ∧ w = w'
/-- An owned row does not lie where an iterator lies. -/
theorem own_iterAt {w : World} {base : Nat} {e : TypeId} {size : Nat} {v : Value} {n : Nat} {xs : List Value} (h : w.ownsRow base e size v n xs) {k : Nat} {s : ByteArray} {p : Nat} (hk : w.heap[k]? = some (.stringIter s p)) (q : Nat) : (w.iterAt k s q).ownsRow base e size v n xs := by
  refine ⟨h.1, ?_⟩
  rcases h.2 with h2 | ⟨g, cap, cur, a, b, c, d⟩
  · exact .inl h2
  · refine .inr ⟨g, cap, cur, a, b, ?_, d⟩
    rw [Lib.iterAt_other _ _ _ _ _ (fun e1 => by rw [e1, hk] at c; cases c)]
    exact c
theorem own_ne_iter {w : World} {base : Nat} {e : TypeId} {size : Nat} {v : Value} {n : Nat} {xs : List Value} (h : w.ownsRow base e size v n xs) {k : Nat} {s : ByteArray} {p : Nat} (hk : w.heap[k]? = some (.stringIter s p)) : some k ≠ v.ownBlock := by
  intro e1
  rcases h.2 with ⟨rfl, _⟩ | ⟨g, cap, cur, rfl, b, c, d⟩
  · cases e1
  · simp only [Value.ownBlock, Option.some.injEq] at e1
    rw [← e1, hk] at c
    cases c
theorem tb_take {t : ByteArray} {k : Nat} (h : k < t.size) : pv ((tb t).take (k + 1)) = pv ((tb t).take k) ++ [((t[k]'h).toNat : Int)] := by
  have hl : k < (tb t).length := by rw [tb_length]; exact h
  rw [← List.take_append_getElem hl, pv, List.map_append]
  congr 1
  have e := tb_cf t h
  unfold cf at e
  rw [getD_mem _ hl] at e
  simp [e]
end Go.Proofs.YtnoefpkhbllmiaaGreatDoor
/- The curves of a secret, each of its own draws. -/
namespace Go.Proofs.YtnoefpkhbllmiaaGreatDoor
open Go.RowKit Go.PlainAid G MGF IRow
set_option linter.unusedVariables false
/-- A row of curves. -/
structure Cvs (f : Nat) (w : World) (a : Option Addr) (n cap : Nat) (g : Nat → B → B) : Prop where
  le : n ≤ cap
  nil : a = none → cap = 0
  cells : 0 < n → ∃ gb o, a = some ⟨gb, o, none⟩ ∧ gb < w.heap.size ∧ gb ≠ f ∧ ∀ i, i < n → ∃ v D, w.cell? ⟨gb, o + i, none⟩ = some v ∧ Cv f D w v (g i)
theorem Cvs.grown {f : Nat} {w w' : World} {a : Option Addr} {n cap : Nat} {g : Nat → B → B} (h : Cvs f w a n cap g) (hg : w.grownBy w' (some f)) : Cvs f w' a n cap g := by
  refine ⟨h.le, h.nil, fun hn => ?_⟩
  obtain ⟨gb, o, ha, hl, hne, hc⟩ := h.cells hn
  refine ⟨gb, o, ha, Nat.lt_of_lt_of_le hl hg.size, hne, fun i hi => ?_⟩
  obtain ⟨v, D, hv, hk⟩ := hc i hi
  exact ⟨v, D, hg.cell hv (fun e => hne (by simpa using e)), hk.grown hg⟩
theorem Cvs.below {f : Nat} {w w' : World} {a : Option Addr} {n cap : Nat} {g : Nat → B → B} (h : Cvs f w a n cap g) (hb : Below w.heap.size w w') : Cvs f w' a n cap g := h.grown (fg_below hb)
theorem Cvs.own {f : Nat} {w : World} {base n cap : Nat} {a : Option Addr} {e : TypeId} {vs : List Value} {g : Nat → B → B} (h : w.ownsRow base e 1 (.slice a n cap) n vs) (hf : f < base) (hv : ∀ i, i < n → ∃ D, Cv f D w (vs.getD i undef) (g i)) : Cvs f w a n cap g := by
  have hl : vs.length = n := by have := h.1; simpa using this
  have hle : n ≤ cap ∧ (a = .none → cap = 0) := by
    rcases h.2 with ⟨hv, h0⟩ | ⟨g, c, cur, hv, _, _, hnc, _⟩
    · simp only [Value.slice.injEq] at hv
      obtain ⟨rfl, rfl, rfl⟩ := hv
      exact ⟨Nat.le_refl _, fun _ => rfl⟩
    · simp only [Value.slice.injEq] at hv
      obtain ⟨rfl, _, rfl⟩ := hv
      exact ⟨hnc, fun h => by cases h⟩
  refine ⟨hle.1, hle.2, fun hn => ?_⟩
  obtain ⟨g, cap', hv', hb, hg⟩ := h.form hn
  simp only [Value.slice.injEq] at hv'
  obtain ⟨rfl, _, rfl⟩ := hv'
  refine ⟨g, 0, rfl, hg, by omega, fun i hi => ?_⟩
  obtain ⟨D, hD⟩ := hv i hi
  refine ⟨vs.getD i undef, D, ?_, hD⟩
  rw [Nat.zero_add, h.cellAt i (by omega)]
  simp [List.getD, List.getElem?_eq_getElem (show i < vs.length by omega)]
/-- The draws that are left behind so many bytes. -/
def left (d : ByteArray) (m : Nat) : ByteArray := d.extract m d.size
theorem left_size (d : ByteArray) (m : Nat) : (left d m).size = d.size - m := by unfold left; rw [ByteArray.size_extract]; omega
theorem left_zero (d : ByteArray) : left d 0 = d := by
  unfold left
  apply ByteArray.ext
  simp
theorem left_left (d : ByteArray) (m k : Nat) : (left d m).extract k (left d m).size = left d (m + k) := by
  rw [left_size]
  unfold left
  apply ByteArray.ext
  simp only [ByteArray.data_extract, Array.extract_extract]
  congr 1
  have : d.data.size = d.size := rfl
  omega
theorem tb_extract (d : ByteArray) (a b : Nat) : tb (d.extract a b) = ((tb d).drop a).take (b - a) := by
  unfold tb
  rw [← List.map_drop, ← List.map_take]
  congr 1
  simp [ByteArray.data_extract, List.extract_eq_take_drop]
theorem tb_row (d : ByteArray) (k i : Nat) : tb ((left d (i * k)).extract 0 k) = rowD (tb d) k i := by
  rw [tb_extract]
  unfold left rowD
  rw [tb_extract, List.drop_zero, Nat.sub_zero, ← tb_length d, ← List.length_drop, List.take_length]
/-- 's = append(s, u)', u of one cell, s the call's own; where the new row lies. -/
theorem append_one_at {P : Program} {w : World} {ops : Array Oper} {rest : List Oper} {o : Oper} {a : Act} {Q : Exit → Act → World → Prop} (hgd : o.guard = none) (s x : Operand) (t : TypeId)
    (ho : o.op = .call { callee := .builtin .append, args := #[s, x], argTypes := #[t, t] })
    (e : TypeId) (i : TypeInfo) (z : Value) (bytes : Nat) (ht : P.underlying t = some (.slice e)) (hi : P.info? e = some i) (hz : i.zero = some z)
    (hsize : i.size = 1) (hby : i.bytes = bytes) (hzs : z.cells.size = 1)
    (B : Nat) (v : Value) (n : Nat) (xs : List Value) (hs : a.eval s = v) (hown : w.ownsRow B e 1 v n xs) (u : Value) (e' : TypeId) (hu : u.oneCell' = true)
    (hx : a.eval x = .slice (some ⟨w.heap.size, 0, none⟩) 1 1) (hB : B ≤ w.heap.size)
    (h63 : n + 1 ≤ maxLen) (hbytes : (n + 1) * bytes ≤ 140737488355328)
    (h : ∀ v' w', w'.ownsRow B e 1 v' (n + 1) (xs ++ [u]) → w.grownBy w' v.ownBlock → (v'.ownBlock = v.ownBlock ∨ ∃ g, v'.ownBlock = some g ∧ w.heap.size ≤ g) → wpList P ops Q rest (a.put o.dst v') w') : wpList P ops Q (o :: rest) a (w.alloc (.cells #[u] e')) := by
  refine wpList_append_own_at _ hgd s x t ho B e i z 1 bytes ht hi hz hsize hby hzs (by decide) v n xs hs (hown.alloc _) ⟨w.heap.size, 0, none⟩ 1 1 [u] hx rfl ?_ ?_ h63 hbytes (by simp; omega) ?_
  · intro j y hj
    match j, hj with
    | 0, hj => simp at hj; subst hj; simp [Addr.add]
  · intro y hy; simp at hy; subst hy; exact hu
  · intro v' w' h1 h2 _ h3
    refine h v' w' h1 (grown_trans (World.grownBy_alloc w _ _) h2) ?_
    rcases h3 with h3 | h3
    · exact .inl h3
    · exact .inr ⟨_, h3, by simp⟩
theorem getD_snoc {vs : List Value} {v : Value} {t : Nat} (h : t ≤ vs.length) : (vs ++ [v]).getD t undef = if t < vs.length then vs.getD t undef else v := by
  by_cases h2 : t < vs.length
  · rw [if_pos h2]; simp [List.getD, List.getElem?_append_left h2]
  · rw [if_neg h2, show t = vs.length by omega]; simp [List.getD]
end Go.Proofs.YtnoefpkhbllmiaaGreatDoor
/- What curves are at a place. -/
namespace Go.Proofs.YtnoefpkhbllmiaaGreatDoor
open Go.RowKit Go.PlainAid G MGF IRow
set_option linter.unusedVariables false
/-- What curves told by a list's places are at a place. -/
def valsF (g : Nat → B → B) (n : Nat) (x : B) : List B := (List.range n).map fun i => g i x
theorem fl_valsF (g : Nat → B → B) (n : Nat) (x : B) : fl (fun t => bi (g t x)) n = pv (valsF g n x) := by
  unfold fl pv valsF
  rw [List.map_map]
  rfl
end Go.Proofs.YtnoefpkhbllmiaaGreatDoor
