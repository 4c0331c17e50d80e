/- The model's secrets and needs; its rows of polynomials. -/
import Derived.Test.YtnoefpkhbllmiaaGreatDoorMParts2
import Derived.Test.YtnoefpkhbllmiaaGreatDoorSPointsA
import Derived.Test.YtnoefpkhbllmiaaGreatDoorSplB
namespace Go.Proofs.YtnoefpkhbllmiaaGreatDoor
open Go.RowKit Go.PlainAid G MGF IRow
set_option linter.unusedVariables false
theorem l04Secret_any (t : ByteArray) (w : World) (ht : t.size ≤ maxLen) :
    Calls Tryz.prog 77 #[.string t] w fun e w' => e = .returned (.bool (secB t)) ∧ w = w' := by
  unfold maxLen at ht
  by_cases h1 : 1 ≤ t.size
  · by_cases h2 : t.size ≤ 16
    · have HF : Hid (true = secB t) := Lib.hid (by unfold secB; rw [decide_eq_true ⟨h1, h2⟩])
      go_enter Tryz.func77, Tryz.ntmps77
      go_wp2
      go_ret
      exact ⟨ret_bool (by rw [← HF.out]; simp; omega), rfl⟩
    · have HF : Hid (false = secB t) := Lib.hid (by unfold secB; rw [decide_eq_false (by omega)])
      go_enter Tryz.func77, Tryz.ntmps77
      go_wp2
      go_ret
      exact ⟨ret_bool (by rw [← HF.out]; simp; omega), rfl⟩
  · have HF : Hid (false = secB t) := Lib.hid (by unfold secB; rw [decide_eq_false (by omega)])
    have h0 : t.size = 0 := by omega
    go_enter Tryz.func77, Tryz.ntmps77
    go_wp2
    go_ret
    exact ⟨ret_bool HF.out, rfl⟩
/-- A row of polynomials. -/
structure PS (w : World) (a : Option Addr) (n cap : Nat) (g : Nat → List B) : Prop where
  le : n ≤ cap
  nil : a = none → cap = 0
  cells : 0 < n → ∃ gb o, a = some ⟨gb, o, none⟩ ∧ gb < w.heap.size ∧ ∀ i, i < n → ∃ b k c, w.cell? ⟨gb, o + i, none⟩ = some (.slice b k c) ∧ IR w b k c (pv (g i))
theorem PS.below {w w' : World} {a : Option Addr} {n cap : Nat} {g : Nat → List B} (h : PS w a n cap g) (hb : Below w.heap.size w w') : PS w' a n cap g := by
  refine ⟨h.le, h.nil, fun hn => ?_⟩
  obtain ⟨gb, o, ha, hl, hc⟩ := h.cells hn
  refine ⟨gb, o, ha, Nat.lt_of_lt_of_le hl hb.size, fun i hi => ?_⟩
  obtain ⟨b, k, c, hv, hk⟩ := hc i hi
  exact ⟨b, k, c, (hb.cell (p := ⟨gb, o + i, none⟩) hl).trans hv, hk.below hb⟩
theorem PS.own {w : World} {base n cap : Nat} {a : Option Addr} {e : TypeId} {vs : List Value} {g : Nat → List B} (h : w.ownsRow base e 1 (.slice a n cap) n vs) (hv : ∀ i, i < n → ∃ b k c, vs.getD i undef = .slice b k c ∧ IR w b k c (pv (g i))) : PS w a n cap g := by
  have hl : vs.length = n := by have := h.1; simpa using this
  have hle : n ≤ cap ∧ (a = .none → cap = 0) := by
    rcases h.2 with ⟨hv, h0⟩ | ⟨g, c, cur, hv, _, _, hnc, _⟩
    · simp only [Value.slice.injEq] at hv
      obtain ⟨rfl, rfl, rfl⟩ := hv
      exact ⟨Nat.le_refl _, fun _ => rfl⟩
    · simp only [Value.slice.injEq] at hv
      obtain ⟨rfl, _, rfl⟩ := hv
      exact ⟨hnc, fun h => by cases h⟩
  refine ⟨hle.1, hle.2, fun hn => ?_⟩
  obtain ⟨g, cap', hv', hb, hg⟩ := h.form hn
  simp only [Value.slice.injEq] at hv'
  obtain ⟨rfl, _, rfl⟩ := hv'
  refine ⟨g, 0, rfl, hg, fun i hi => ?_⟩
  obtain ⟨b, k, c, h1, h2⟩ := hv i hi
  refine ⟨b, k, c, ?_, h2⟩
  rw [← h1, Nat.zero_add, h.cellAt i (by omega)]
  simp [List.getD, List.getElem?_eq_getElem (show i < vs.length by omega)]
/-- A byte's own draws, one by one. -/
def rowQ (s d : List B) (k i t : Nat) : List B := cf s i :: (rowD d k i).take t
theorem rowQ_zero (s d : List B) (k i : Nat) : rowQ s d k i 0 = [cf s i] := rfl
theorem rowQ_succ (s d : List B) {k i t : Nat} (ht : t < k) (hl : i * k + k ≤ d.length) : rowQ s d k i (t + 1) = rowQ s d k i t ++ [cf d (i * k + t)] := by
  unfold rowQ
  have hlen : t < (rowD d k i).length := by unfold rowD; rw [List.length_take, List.length_drop]; omega
  have e : (rowD d k i)[t] = cf d (i * k + t) := by
    simp only [rowD, List.getElem_take, List.getElem_drop]
    unfold cf
    rw [getD_mem _ (show i * k + t < d.length by omega)]
  rw [← List.take_append_getElem hlen, e]
  rfl
theorem rowQ_all (s d : List B) (k i : Nat) : trim (rowQ s d k i k) = polyT s d k i := by
  unfold rowQ polyT
  rw [List.take_of_length_le (rowD_le d k i)]
end Go.Proofs.YtnoefpkhbllmiaaGreatDoor
/- The model's polynomials of a secret. -/
namespace Go.Proofs.YtnoefpkhbllmiaaGreatDoor
open Go.RowKit Go.PlainAid G MGF IRow
set_option linter.unusedVariables false
theorem IR.grown0 {w w' : World} {row : Option Nat} {a : Option Addr} {n cap : Nat} {zs : List Int} (h : IR w a n cap zs) (hg : w.grownBy w' row) (hne : 0 < n → ∀ g o, a = some ⟨g, o, .none⟩ → some g ≠ row) : IR w' a n cap zs := by
  refine ⟨h.len, h.le, h.nil, fun hn => ?_⟩
  obtain ⟨g, o, ha, hgl, hc⟩ := h.cells hn
  exact ⟨g, o, ha, Nat.lt_of_lt_of_le hgl hg.size, fun i hi => hg.cell (hc i hi) (hne hn g o ha)⟩
end Go.Proofs.YtnoefpkhbllmiaaGreatDoor
