/- Arguments that are deeds, and what they are made of: opened and shut. -/
import Derived.Test.YtnoefpkhbllmiaaGreatRowBook
import Derived.Deep.Slices
import Derived.DataReads
import Derived.WalkKit
import Derived.ProofKit
import Derived.OpenShut
import Derived.ShutString
import Derived.IntWalk
namespace Go.Proofs.YtnoefpkhbllmiaaGreat
open Go.ChangeShapes Go.WideShapes Go.RowKit G IRow
set_option linter.unusedVariables false
theorem cellsI64b : Tryz.prog.cellsOf 2 = 1 := by kernel_rfl
theorem cellsStrb : Tryz.prog.cellsOf 9 = 1 := by kernel_rfl
theorem str_mk {H : Type} {enc : TypeId × Value → H} {u : World} {base : Nat} {spare : Nat → Bool} {held : Bool} (n : Nat) {t : ByteArray} (h : t.size ≤ maxLen) : DataW.trod enc Tryz.prog u base spare held (n + 1) 9 [.string t] = some (.lit (.string t.data.toList), []) := by
  simp [DataW.trod, Tryz.underlying9, h]
theorem cellsConf : Tryz.prog.cellsOf 23 = 4 := by kernel_rfl
set_option maxRecDepth 100000 in
theorem openConf {H : Type} {enc : TypeId × Value → H} {u : World} {base : Nat} {spare : Nat → Bool} {held : Bool} {fuel : Nat} {cs : List Value} {x : DataW H × List MemPlace} (h : DataW.trod enc Tryz.prog u base spare held fuel 23 cs = some x) :
    ∃ (q0 : Int) (q1 : Int) (q2 : Int) (q3 : Int), cs = [.int .i64 q0, .int .i64 q1, .int .i64 q2, .int .i64 q3] ∧ x = (.agg [.lit (.int .i64 q0), .lit (.int .i64 q1), .lit (.int .i64 q2), .lit (.int .i64 q3)], []) ∧ (Lit.int .i64 q0).wf = true ∧ (Lit.int .i64 q1).wf = true ∧ (Lit.int .i64 q2).wf = true ∧ (Lit.int .i64 q3).wf = true := by
  obtain ⟨xs, n, _, hx, hl0, hlen, hg⟩ := DataW.trod_struct Tryz.underlying23 h
  have hl : cs.length = 4 := hl0.trans cellsConf
  have hlen2 : xs.length = 4 := hlen
  match cs, hl, xs, hlen2 with
  | [a0, a1, a2, a3], _, [y0, y1, y2, y3], _ =>
    have r0 := hg 0 _ rfl
    have r1 := hg 1 _ rfl
    have r2 := hg 2 _ rfl
    have r3 := hg 3 _ rfl
    simp [cellsI64b, cellsStrb] at r0 r1 r2 r3
    obtain ⟨q0, e0, z0, w0⟩ := DataW.trod_int Tryz.underlying2 r0
    obtain ⟨q1, e1, z1, w1⟩ := DataW.trod_int Tryz.underlying2 r1
    obtain ⟨q2, e2, z2, w2⟩ := DataW.trod_int Tryz.underlying2 r2
    obtain ⟨q3, e3, z3, w3⟩ := DataW.trod_int Tryz.underlying2 r3
    simp only [List.cons.injEq, and_true] at e0 e1 e2 e3
    subst e0 e1 e2 e3 z0 z1 z2 z3
    exact ⟨q0, q1, q2, q3, rfl, by rw [hx]; rfl, w0, w1, w2, w3⟩
set_option maxRecDepth 100000 in
theorem mkConf {H : Type} {enc : TypeId × Value → H} {u : World} {base : Nat} {spare : Nat → Bool} {held : Bool} (n : Nat) {q0 : Int} {q1 : Int} {q2 : Int} {q3 : Int} (h0 : (Lit.int .i64 q0).wf = true) (h1 : (Lit.int .i64 q1).wf = true) (h2 : (Lit.int .i64 q2).wf = true) (h3 : (Lit.int .i64 q3).wf = true) : DataW.trod enc Tryz.prog u base spare held (n + 2) 23 [.int .i64 q0, .int .i64 q1, .int .i64 q2, .int .i64 q3] = some (.agg [.lit (.int .i64 q0), .lit (.int .i64 q1), .lit (.int .i64 q2), .lit (.int .i64 q3)], []) := by
  have p0 := trod_int_mk (enc := enc) (w := u) (base := base) (spare := spare) (held := held) n Tryz.underlying2 h0
  have p1 := trod_int_mk (enc := enc) (w := u) (base := base) (spare := spare) (held := held) n Tryz.underlying2 h1
  have p2 := trod_int_mk (enc := enc) (w := u) (base := base) (spare := spare) (held := held) n Tryz.underlying2 h2
  have p3 := trod_int_mk (enc := enc) (w := u) (base := base) (spare := spare) (held := held) n Tryz.underlying2 h3
  have hm := trod_struct_mk (enc := enc) (w := u) (base := base) (spare := spare) (held := held) (n := n + 1) (xs := [(.lit (.int .i64 q0), []), (.lit (.int .i64 q1), []), (.lit (.int .i64 q2), []), (.lit (.int .i64 q3), [])]) (cs := [.int .i64 q0, .int .i64 q1, .int .i64 q2, .int .i64 q3]) Tryz.underlying23 (by rw [cellsConf]; rfl) (by simp [cellsI64b, cellsStrb, p0, p1, p2, p3])
  simpa using hm
theorem cellsTerm : Tryz.prog.cellsOf 29 = 2 := by kernel_rfl
set_option maxRecDepth 100000 in
theorem openTerm {H : Type} {enc : TypeId × Value → H} {u : World} {base : Nat} {spare : Nat → Bool} {held : Bool} {fuel : Nat} {cs : List Value} {x : DataW H × List MemPlace} (h : DataW.trod enc Tryz.prog u base spare held fuel 29 cs = some x) :
    ∃ (q0 : Int) (q1 : ByteArray), cs = [.int .i64 q0, .string q1] ∧ x = (.agg [.lit (.int .i64 q0), .lit (.string q1.data.toList)], []) ∧ (Lit.int .i64 q0).wf = true ∧ q1.size ≤ maxLen := by
  obtain ⟨xs, n, _, hx, hl0, hlen, hg⟩ := DataW.trod_struct Tryz.underlying29 h
  have hl : cs.length = 2 := hl0.trans cellsTerm
  have hlen2 : xs.length = 2 := hlen
  match cs, hl, xs, hlen2 with
  | [a0, a1], _, [y0, y1], _ =>
    have r0 := hg 0 _ rfl
    have r1 := hg 1 _ rfl
    simp [cellsI64b, cellsStrb] at r0 r1
    obtain ⟨q0, e0, z0, w0⟩ := DataW.trod_int Tryz.underlying2 r0
    obtain ⟨q1, e1, z1, w1⟩ := DataW.trod_string Tryz.underlying9 r1
    simp only [List.cons.injEq, and_true] at e0 e1
    subst e0 e1 z0 z1
    exact ⟨q0, q1, rfl, by rw [hx]; rfl, w0, w1⟩
set_option maxRecDepth 100000 in
theorem mkTerm {H : Type} {enc : TypeId × Value → H} {u : World} {base : Nat} {spare : Nat → Bool} {held : Bool} (n : Nat) {q0 : Int} {q1 : ByteArray} (h0 : (Lit.int .i64 q0).wf = true) (h1 : q1.size ≤ maxLen) : DataW.trod enc Tryz.prog u base spare held (n + 2) 29 [.int .i64 q0, .string q1] = some (.agg [.lit (.int .i64 q0), .lit (.string q1.data.toList)], []) := by
  have p0 := trod_int_mk (enc := enc) (w := u) (base := base) (spare := spare) (held := held) n Tryz.underlying2 h0
  have p1 := str_mk (enc := enc) (u := u) (base := base) (spare := spare) (held := held) n h1
  have hm := trod_struct_mk (enc := enc) (w := u) (base := base) (spare := spare) (held := held) (n := n + 1) (xs := [(.lit (.int .i64 q0), []), (.lit (.string q1.data.toList), [])]) (cs := [.int .i64 q0, .string q1]) Tryz.underlying29 (by rw [cellsTerm]; rfl) (by simp [cellsI64b, cellsStrb, p0, p1])
  simpa using hm
theorem cellsItem : Tryz.prog.cellsOf 31 = 3 := by kernel_rfl
set_option maxRecDepth 100000 in
theorem openItem {H : Type} {enc : TypeId × Value → H} {u : World} {base : Nat} {spare : Nat → Bool} {held : Bool} {fuel : Nat} {cs : List Value} {x : DataW H × List MemPlace} (h : DataW.trod enc Tryz.prog u base spare held fuel 31 cs = some x) :
    ∃ (q0 : ByteArray) (q1 : Int) (q2 : ByteArray), cs = [.string q0, .int .i64 q1, .string q2] ∧ x = (.agg [.lit (.string q0.data.toList), .lit (.int .i64 q1), .lit (.string q2.data.toList)], []) ∧ q0.size ≤ maxLen ∧ (Lit.int .i64 q1).wf = true ∧ q2.size ≤ maxLen := by
  obtain ⟨xs, n, _, hx, hl0, hlen, hg⟩ := DataW.trod_struct Tryz.underlying31 h
  have hl : cs.length = 3 := hl0.trans cellsItem
  have hlen2 : xs.length = 3 := hlen
  match cs, hl, xs, hlen2 with
  | [a0, a1, a2], _, [y0, y1, y2], _ =>
    have r0 := hg 0 _ rfl
    have r1 := hg 1 _ rfl
    have r2 := hg 2 _ rfl
    simp [cellsI64b, cellsStrb] at r0 r1 r2
    obtain ⟨q0, e0, z0, w0⟩ := DataW.trod_string Tryz.underlying9 r0
    obtain ⟨q1, e1, z1, w1⟩ := DataW.trod_int Tryz.underlying2 r1
    obtain ⟨q2, e2, z2, w2⟩ := DataW.trod_string Tryz.underlying9 r2
    simp only [List.cons.injEq, and_true] at e0 e1 e2
    subst e0 e1 e2 z0 z1 z2
    exact ⟨q0, q1, q2, rfl, by rw [hx]; rfl, w0, w1, w2⟩
set_option maxRecDepth 100000 in
theorem mkItem {H : Type} {enc : TypeId × Value → H} {u : World} {base : Nat} {spare : Nat → Bool} {held : Bool} (n : Nat) {q0 : ByteArray} {q1 : Int} {q2 : ByteArray} (h0 : q0.size ≤ maxLen) (h1 : (Lit.int .i64 q1).wf = true) (h2 : q2.size ≤ maxLen) : DataW.trod enc Tryz.prog u base spare held (n + 2) 31 [.string q0, .int .i64 q1, .string q2] = some (.agg [.lit (.string q0.data.toList), .lit (.int .i64 q1), .lit (.string q2.data.toList)], []) := by
  have p0 := str_mk (enc := enc) (u := u) (base := base) (spare := spare) (held := held) n h0
  have p1 := trod_int_mk (enc := enc) (w := u) (base := base) (spare := spare) (held := held) n Tryz.underlying2 h1
  have p2 := str_mk (enc := enc) (u := u) (base := base) (spare := spare) (held := held) n h2
  have hm := trod_struct_mk (enc := enc) (w := u) (base := base) (spare := spare) (held := held) (n := n + 1) (xs := [(.lit (.string q0.data.toList), []), (.lit (.int .i64 q1), []), (.lit (.string q2.data.toList), [])]) (cs := [.string q0, .int .i64 q1, .string q2]) Tryz.underlying31 (by rw [cellsItem]; rfl) (by simp [cellsI64b, cellsStrb, p0, p1, p2])
  simpa using hm
theorem cellsDeed : Tryz.prog.cellsOf 33 = 10 := by kernel_rfl
set_option maxRecDepth 100000 in
theorem openDeed {H : Type} {enc : TypeId × Value → H} {u : World} {base : Nat} {spare : Nat → Bool} {held : Bool} {fuel : Nat} {cs : List Value} {x : DataW H × List MemPlace} (h : DataW.trod enc Tryz.prog u base spare held fuel 33 cs = some x) :
    ∃ (q0 : Int) (q1 : Int) (q2 : Int) (q3 : Int) (q4 : Int) (q5 : Int) (q6 : ByteArray) (q7 : ByteArray) (q8 : Int) (q9 : ByteArray), cs = [.int .i64 q0, .int .i64 q1, .int .i64 q2, .int .i64 q3, .int .i64 q4, .int .i64 q5, .string q6, .string q7, .int .i64 q8, .string q9] ∧ x = (.agg [.lit (.int .i64 q0), .agg [.lit (.int .i64 q1), .lit (.int .i64 q2), .lit (.int .i64 q3), .lit (.int .i64 q4)], .agg [.lit (.int .i64 q5), .lit (.string q6.data.toList)], .agg [.lit (.string q7.data.toList), .lit (.int .i64 q8), .lit (.string q9.data.toList)]], []) ∧ (Lit.int .i64 q0).wf = true ∧ (Lit.int .i64 q1).wf = true ∧ (Lit.int .i64 q2).wf = true ∧ (Lit.int .i64 q3).wf = true ∧ (Lit.int .i64 q4).wf = true ∧ (Lit.int .i64 q5).wf = true ∧ q6.size ≤ maxLen ∧ q7.size ≤ maxLen ∧ (Lit.int .i64 q8).wf = true ∧ q9.size ≤ maxLen := by
  obtain ⟨xs, n, _, hx, hl0, hlen, hg⟩ := DataW.trod_struct Tryz.underlying33 h
  have hl : cs.length = 10 := hl0.trans cellsDeed
  have hlen2 : xs.length = 4 := hlen
  match cs, hl, xs, hlen2 with
  | [a0, a1, a2, a3, a4, a5, a6, a7, a8, a9], _, [y0, y1, y2, y3], _ =>
    have r0 := hg 0 _ rfl
    have r1 := hg 1 _ rfl
    have r2 := hg 2 _ rfl
    have r3 := hg 3 _ rfl
    simp [cellsI64b, cellsConf, cellsTerm, cellsItem] at r0 r1 r2 r3
    obtain ⟨q0, e0, z0, w0⟩ := DataW.trod_int Tryz.underlying2 r0
    obtain ⟨q1, q2, q3, q4, e1, z1, w1, w2, w3, w4⟩ := openConf r1
    obtain ⟨q5, q6, e2, z2, w5, w6⟩ := openTerm r2
    obtain ⟨q7, q8, q9, e3, z3, w7, w8, w9⟩ := openItem r3
    simp only [List.cons.injEq, and_true] at e0 e1 e2 e3
    obtain ⟨rfl, rfl, rfl, rfl⟩ := e1
    obtain ⟨rfl, rfl⟩ := e2
    obtain ⟨rfl, rfl, rfl⟩ := e3
    subst e0 z0 z1 z2 z3
    exact ⟨q0, q1, q2, q3, q4, q5, q6, q7, q8, q9, rfl, by rw [hx]; rfl, w0, w1, w2, w3, w4, w5, w6, w7, w8, w9⟩
set_option maxRecDepth 100000 in
theorem mkDeed {H : Type} {enc : TypeId × Value → H} {u : World} {base : Nat} {spare : Nat → Bool} {held : Bool} (n : Nat) {q0 : Int} {q1 : Int} {q2 : Int} {q3 : Int} {q4 : Int} {q5 : Int} {q6 : ByteArray} {q7 : ByteArray} {q8 : Int} {q9 : ByteArray} (h0 : (Lit.int .i64 q0).wf = true) (h1 : (Lit.int .i64 q1).wf = true) (h2 : (Lit.int .i64 q2).wf = true) (h3 : (Lit.int .i64 q3).wf = true) (h4 : (Lit.int .i64 q4).wf = true) (h5 : (Lit.int .i64 q5).wf = true) (h6 : q6.size ≤ maxLen) (h7 : q7.size ≤ maxLen) (h8 : (Lit.int .i64 q8).wf = true) (h9 : q9.size ≤ maxLen) : DataW.trod enc Tryz.prog u base spare held (n + 3) 33 [.int .i64 q0, .int .i64 q1, .int .i64 q2, .int .i64 q3, .int .i64 q4, .int .i64 q5, .string q6, .string q7, .int .i64 q8, .string q9] = some (.agg [.lit (.int .i64 q0), .agg [.lit (.int .i64 q1), .lit (.int .i64 q2), .lit (.int .i64 q3), .lit (.int .i64 q4)], .agg [.lit (.int .i64 q5), .lit (.string q6.data.toList)], .agg [.lit (.string q7.data.toList), .lit (.int .i64 q8), .lit (.string q9.data.toList)]], []) := by
  have p0 := trod_int_mk (enc := enc) (w := u) (base := base) (spare := spare) (held := held) (n + 1) Tryz.underlying2 h0
  have p1 := mkConf (enc := enc) (u := u) (base := base) (spare := spare) (held := held) n h1 h2 h3 h4
  have p2 := mkTerm (enc := enc) (u := u) (base := base) (spare := spare) (held := held) n h5 h6
  have p3 := mkItem (enc := enc) (u := u) (base := base) (spare := spare) (held := held) n h7 h8 h9
  have hm := trod_struct_mk (enc := enc) (w := u) (base := base) (spare := spare) (held := held) (n := n + 2) (xs := [(.lit (.int .i64 q0), []), (.agg [.lit (.int .i64 q1), .lit (.int .i64 q2), .lit (.int .i64 q3), .lit (.int .i64 q4)], []), (.agg [.lit (.int .i64 q5), .lit (.string q6.data.toList)], []), (.agg [.lit (.string q7.data.toList), .lit (.int .i64 q8), .lit (.string q9.data.toList)], [])]) (cs := [.int .i64 q0, .int .i64 q1, .int .i64 q2, .int .i64 q3, .int .i64 q4, .int .i64 q5, .string q6, .string q7, .int .i64 q8, .string q9]) Tryz.underlying33 (by rw [cellsDeed]; rfl) (by simp [cellsI64b, cellsConf, cellsTerm, cellsItem, p0, p1, p2, p3])
  simpa using hm
set_option maxRecDepth 100000 in
/-- An argument that is a deed. -/
theorem deed_open {H : Type} {enc : TypeId × Value → H} {w : World} {base b0 : Nat} {spare : Nat → Bool} {held : Bool} {v : Value} {d : DataW H} {ps : List MemPlace}
    (hv : Value.okWide Tryz.prog w .any b0 33 v) (h : DataW.Trod enc Tryz.prog w base spare held 33 v d ps) :
    ∃ (q0 : Int) (q1 : Int) (q2 : Int) (q3 : Int) (q4 : Int) (q5 : Int) (q6 : ByteArray) (q7 : ByteArray) (q8 : Int) (q9 : ByteArray), v = .agg #[.int .i64 q0, .int .i64 q1, .int .i64 q2, .int .i64 q3, .int .i64 q4, .int .i64 q5, .string q6, .string q7, .int .i64 q8, .string q9] ∧ ((Lit.int .i64 q0).wf = true ∧ (Lit.int .i64 q1).wf = true ∧ (Lit.int .i64 q2).wf = true ∧ (Lit.int .i64 q3).wf = true ∧ (Lit.int .i64 q4).wf = true ∧ (Lit.int .i64 q5).wf = true ∧ q6.size ≤ maxLen ∧ q7.size ≤ maxLen ∧ (Lit.int .i64 q8).wf = true ∧ q9.size ≤ maxLen) ∧ ps = [] ∧
      ∀ (u : World) (base' : Nat) (spare' : Nat → Bool), DataW.Trod enc Tryz.prog u base' spare' held 33 v d [] := by
  obtain ⟨⟨l⟩, rfl, hsz⟩ := okWide_struct Tryz.underlying33 hv
  obtain ⟨fuel, hf⟩ := h
  obtain ⟨q0, q1, q2, q3, q4, q5, q6, q7, q8, q9, hc, hx, w0, w1, w2, w3, w4, w5, w6, w7, w8, w9⟩ := openDeed hf
  simp only [Prod.mk.injEq] at hx
  obtain ⟨rfl, rfl⟩ := hx
  have hl : l = [.int .i64 q0, .int .i64 q1, .int .i64 q2, .int .i64 q3, .int .i64 q4, .int .i64 q5, .string q6, .string q7, .int .i64 q8, .string q9] := by simpa [Value.cells] using hc
  subst hl
  exact ⟨q0, q1, q2, q3, q4, q5, q6, q7, q8, q9, rfl, ⟨w0, w1, w2, w3, w4, w5, w6, w7, w8, w9⟩, rfl, fun u base' spare' => ⟨3, mkDeed 0 w0 w1 w2 w3 w4 w5 w6 w7 w8 w9⟩⟩
set_option maxRecDepth 100000 in
/-- A slice of structs that came in: its row. -/
theorem open_rows {α : Type} [Inhabited α] (E : Enc α) (d : α) (Good : α → Prop) {H : Type} {enc : TypeId × Value → H} {u : World} {base : Nat} {spare : Nat → Bool} {held : Bool} {t e : TypeId} (ht : Tryz.prog.underlying t = some (.slice e)) (ce : Tryz.prog.cellsOf e = E.k) (hk : 0 < E.k)
    (hel : ∀ (f : Nat) (cs : List Value) (x : DataW H × List MemPlace), DataW.trod enc Tryz.prog u base spare held f e cs = some x → ∃ p : α, cs = E.cells p ∧ Good p)
    {fuel : Nat} {cs : List Value} {x : DataW H × List MemPlace} (h : DataW.trod enc Tryz.prog u base spare held fuel t cs = some x) :
    ∃ (a : Option Addr) (len cap : Nat) (ps : List α), cs = [.slice a len cap] ∧ SR E d u a len cap ps ∧ len ≤ maxLen ∧ ∀ i, i < len → Good (ps.getD i d) := by
  rcases Go.Deep.open_slice ht h with ⟨rfl, _⟩ | ⟨a, len, cap, m, n, D, Pl, rfl, hb, hl, hm, hmm, _, hx⟩
  · exact ⟨none, 0, 0, [], rfl, SR.none E d u, by decide, fun i hi => absurd hi (Nat.not_lt_zero _)⟩
  · have hlm : len ≤ m := by rw [hmm]; split <;> omega
    have each : ∀ i, i < len → ∃ p : α, (∀ j v, (E.cells p)[j]? = some v → u.cell? ((a.add (i * E.k)).add j) = some v) ∧ Good p := by
      intro i hi
      obtain ⟨cs', h1, h2⟩ := hx i (by omega)
      obtain ⟨p, rfl, hg⟩ := hel _ _ _ h2
      rw [ce] at h1
      obtain ⟨_, hlen, hcell⟩ := World.cells?_some h1
      refine ⟨p, fun j v hj => ?_, hg⟩
      have hjl : j < E.k := by
        rw [← E.len p]
        by_cases h : j < (E.cells p).length
        · exact h
        · rw [List.getElem?_eq_none (by omega)] at hj; cases hj
      rw [hcell j hjl]
      exact hj
    obtain ⟨q, hq⟩ := Go.Deep.choose_lt each
    have hgd : ∀ i, i < len → ((List.range len).map q).getD i d = q i := fun i hi => by simp [List.getD, hi]
    refine ⟨some a, len, cap, (List.range len).map q, rfl, ⟨by simp, hl, by simp, fun hn => ?_⟩, by omega, fun i hi => by rw [hgd i hi]; exact (hq i hi).2⟩
    obtain ⟨b, o, sp⟩ := a
    have hfirst : ∃ v, (E.cells (q 0))[0]? = some v := ⟨_, List.getElem?_eq_getElem (show 0 < (E.cells (q 0)).length by rw [E.len]; exact hk)⟩
    obtain ⟨v0, hv0⟩ := hfirst
    have h1 := (hq 0 hn).1 0 v0 hv0
    have hsp : sp = none := by simpa [Addr.add] using World.cell?_spot h1
    subst hsp
    have ha1 : ∀ o n : Nat, (⟨b, o, none⟩ : Addr).add n = ⟨b, o + n, none⟩ := fun o n => by unfold Addr.add; split <;> simp_all
    have hadd : ∀ i j : Nat, (((⟨b, o, none⟩ : Addr).add (i * E.k)).add j) = ⟨b, o + i * E.k + j, none⟩ := fun i j => by rw [ha1, ha1]
    have hblk : b < u.heap.size := by
      have := h1
      rw [hadd] at this
      exact World.block_lt_of_cell? u _ this
    refine ⟨b, o, rfl, hblk, fun i hi j v hj => ?_⟩
    rw [hgd i hi] at hj
    rw [← hadd]
    exact (hq i hi).1 j v hj
instance : Inhabited Tm := ⟨tmD⟩
instance : Inhabited Im := ⟨imD⟩
instance : Inhabited Dd := ⟨ddD⟩
/-- A book that came in. -/
def TmG (p : Tm) : Prop := p.lk.size ≤ maxLen
def ImG (p : Im) : Prop := p.nm.size ≤ maxLen ∧ p.bd.size ≤ maxLen
def DdG (p : Dd) : Prop := p.lk.size ≤ maxLen ∧ p.nm.size ≤ maxLen ∧ p.bd.size ≤ maxLen
theorem cellsBook : Tryz.prog.cellsOf 27 = 6 := by kernel_rfl
theorem cellsTermS : Tryz.prog.cellsOf 24 = 1 := by kernel_rfl
theorem cellsItemS : Tryz.prog.cellsOf 25 = 1 := by kernel_rfl
set_option maxRecDepth 100000 in
theorem openTermS {H : Type} {enc : TypeId × Value → H} {u : World} {base : Nat} {spare : Nat → Bool} {held : Bool} {fuel : Nat} {cs : List Value} {x : DataW H × List MemPlace} (h : DataW.trod enc Tryz.prog u base spare held fuel 24 cs = some x) :
    ∃ (a : Option Addr) (len cap : Nat) (ps : List Tm), cs = [.slice a len cap] ∧ TmR u a len cap ps ∧ len ≤ maxLen ∧ ∀ i, i < len → TmG (ps.getD i tmD) :=
  open_rows tmE tmD TmG Tryz.underlying24 cellsTerm (by decide) (fun f cs x hx => by
    obtain ⟨q0, q1, rfl, _, w0, w1⟩ := openTerm hx
    exact ⟨⟨q0, q1⟩, rfl, w1⟩) h
set_option maxRecDepth 100000 in
theorem openItemS {H : Type} {enc : TypeId × Value → H} {u : World} {base : Nat} {spare : Nat → Bool} {held : Bool} {fuel : Nat} {cs : List Value} {x : DataW H × List MemPlace} (h : DataW.trod enc Tryz.prog u base spare held fuel 25 cs = some x) :
    ∃ (a : Option Addr) (len cap : Nat) (ps : List Im), cs = [.slice a len cap] ∧ ImR u a len cap ps ∧ len ≤ maxLen ∧ ∀ i, i < len → ImG (ps.getD i imD) :=
  open_rows imE imD ImG Tryz.underlying25 cellsItem (by decide) (fun f cs x hx => by
    obtain ⟨q0, q1, q2, rfl, _, w0, w1, w2⟩ := openItem hx
    exact ⟨⟨q0, q1, q2⟩, rfl, w0, w2⟩) h
set_option maxRecDepth 100000 in
theorem book_open {H : Type} {enc : TypeId × Value → H} {w : World} {base b0 : Nat} {spare : Nat → Bool} {held : Bool} {v : Value} {d : DataW H} {ps : List MemPlace}
    (hv : Value.okWide Tryz.prog w .any b0 27 v) (h : DataW.Trod enc Tryz.prog w base spare held 27 v d ps) :
    ∃ (c0 c1 c2 c3 : Int) (a1 : Option Addr) (n1 a3 : Nat) (a2 : Option Addr) (n2 a4 : Nat) (ts : List Tm) (is : List Im), v = .agg #[.int .i64 c0, .int .i64 c1, .int .i64 c2, .int .i64 c3, .slice a1 n1 a3, .slice a2 n2 a4] ∧
      BkR w a1 n1 a3 a2 n2 a4 ts is ∧ (n1 ≤ maxLen ∧ n2 ≤ maxLen) ∧ (∀ i, i < n1 → TmG (ts.getD i tmD)) ∧ ∀ i, i < n2 → ImG (is.getD i imD) := by
  obtain ⟨⟨l⟩, rfl, hsz⟩ := okWide_struct Tryz.underlying27 hv
  have hl6 : l.length = 6 := hsz.trans cellsBook
  obtain ⟨fuel, hf⟩ := h
  obtain ⟨xs, k, _, hx, _, hlen, hg⟩ := DataW.trod_struct Tryz.underlying27 hf
  have hlen3 : xs.length = 3 := hlen
  match l, hl6, xs, hlen3 with
  | [z0, z1, z2, z3, z4, z5], _, [y0, y1, y2], _ =>
    have r0 := hg 0 _ rfl
    have r1 := hg 1 _ rfl
    have r2 := hg 2 _ rfl
    simp [Value.cells, cellsConf, cellsTermS, cellsItemS] at r0 r1 r2
    obtain ⟨c0, c1, c2, c3, e0, _, _⟩ := openConf r0
    obtain ⟨a1, n1, a3, ts, e1, ht, hn1, hg1⟩ := openTermS r1
    obtain ⟨a2, n2, a4, is, e2, hi, hn2, hg2⟩ := openItemS r2
    simp only [List.cons.injEq, and_true] at e0 e1 e2
    obtain ⟨rfl, rfl, rfl, rfl⟩ := e0
    subst e1 e2
    exact ⟨c0, c1, c2, c3, a1, n1, a3, a2, n2, a4, ts, is, rfl, ⟨ht, hi⟩, ⟨hn1, hn2⟩, hg1, hg2⟩
end Go.Proofs.YtnoefpkhbllmiaaGreat
