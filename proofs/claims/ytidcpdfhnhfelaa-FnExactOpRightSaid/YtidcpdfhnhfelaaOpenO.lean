/- An argument that is an op: opened and shut. -/
import Derived.Test.YtidcpdfhnhfelaaRows
import Derived.DataReads
import Derived.WalkKit
import Derived.ProofKit
import Derived.OpenShut
import Derived.ShutString
import Derived.IntWalk
namespace Go.Proofs.Ytidcpdfhnhfelaa
open Go.ChangeShapes Go.WideShapes Go.RowKit
set_option linter.unusedVariables false
theorem cellsI64o : Try.prog.cellsOf 2 = 1 := by kernel_rfl
theorem cellsStro : Try.prog.cellsOf 9 = 1 := by kernel_rfl
theorem str_mko {H : Type} {enc : TypeId × Value → H} {u : World} {base : Nat} {spare : Nat → Bool} {held : Bool} (n : Nat) {t : ByteArray} (h : t.size ≤ maxLen) : DataW.trod enc Try.prog u base spare held (n + 1) 9 [.string t] = some (.lit (.string t.data.toList), []) := by
  simp [DataW.trod, Try.underlying9, h]
theorem cellsOpo : Try.prog.cellsOf 23 = 7 := by kernel_rfl
set_option maxRecDepth 100000 in
theorem openOpo {H : Type} {enc : TypeId × Value → H} {u : World} {base : Nat} {spare : Nat → Bool} {held : Bool} {fuel : Nat} {cs : List Value} {x : DataW H × List MemPlace} (h : DataW.trod enc Try.prog u base spare held fuel 23 cs = some x) :
    ∃ (q0 : Int) (q1 : ByteArray) (q2 : ByteArray) (q3 : Int) (q4 : Int) (q5 : Int) (q6 : ByteArray), cs = [.int .i64 q0, .string q1, .string q2, .int .i64 q3, .int .i64 q4, .int .i64 q5, .string q6] ∧ x = (.agg [.lit (.int .i64 q0), .lit (.string q1.data.toList), .lit (.string q2.data.toList), .lit (.int .i64 q3), .lit (.int .i64 q4), .lit (.int .i64 q5), .lit (.string q6.data.toList)], []) ∧ (Lit.int .i64 q0).wf = true ∧ q1.size ≤ maxLen ∧ q2.size ≤ maxLen ∧ (Lit.int .i64 q3).wf = true ∧ (Lit.int .i64 q4).wf = true ∧ (Lit.int .i64 q5).wf = true ∧ q6.size ≤ maxLen := by
  obtain ⟨xs, n, _, hx, hl0, hlen, hg⟩ := DataW.trod_struct Try.underlying23 h
  have hl : cs.length = 7 := hl0.trans cellsOpo
  have hlen2 : xs.length = 7 := hlen
  match cs, hl, xs, hlen2 with
  | [a0, a1, a2, a3, a4, a5, a6], _, [y0, y1, y2, y3, y4, y5, y6], _ =>
    have r0 := hg 0 _ rfl
    have r1 := hg 1 _ rfl
    have r2 := hg 2 _ rfl
    have r3 := hg 3 _ rfl
    have r4 := hg 4 _ rfl
    have r5 := hg 5 _ rfl
    have r6 := hg 6 _ rfl
    simp [cellsI64o, cellsStro] at r0 r1 r2 r3 r4 r5 r6
    obtain ⟨q0, e0, z0, w0⟩ := DataW.trod_int Try.underlying2 r0
    obtain ⟨q1, e1, z1, w1⟩ := DataW.trod_string Try.underlying9 r1
    obtain ⟨q2, e2, z2, w2⟩ := DataW.trod_string Try.underlying9 r2
    obtain ⟨q3, e3, z3, w3⟩ := DataW.trod_int Try.underlying2 r3
    obtain ⟨q4, e4, z4, w4⟩ := DataW.trod_int Try.underlying2 r4
    obtain ⟨q5, e5, z5, w5⟩ := DataW.trod_int Try.underlying2 r5
    obtain ⟨q6, e6, z6, w6⟩ := DataW.trod_string Try.underlying9 r6
    simp only [List.cons.injEq, and_true] at e0 e1 e2 e3 e4 e5 e6
    subst e0 e1 e2 e3 e4 e5 e6 z0 z1 z2 z3 z4 z5 z6
    exact ⟨q0, q1, q2, q3, q4, q5, q6, rfl, by rw [hx]; rfl, w0, w1, w2, w3, w4, w5, w6⟩
set_option maxRecDepth 100000 in
theorem mkOpo {H : Type} {enc : TypeId × Value → H} {u : World} {base : Nat} {spare : Nat → Bool} {held : Bool} (n : Nat) {q0 : Int} {q1 : ByteArray} {q2 : ByteArray} {q3 : Int} {q4 : Int} {q5 : Int} {q6 : ByteArray} (h0 : (Lit.int .i64 q0).wf = true) (h1 : q1.size ≤ maxLen) (h2 : q2.size ≤ maxLen) (h3 : (Lit.int .i64 q3).wf = true) (h4 : (Lit.int .i64 q4).wf = true) (h5 : (Lit.int .i64 q5).wf = true) (h6 : q6.size ≤ maxLen) : DataW.trod enc Try.prog u base spare held (n + 2) 23 [.int .i64 q0, .string q1, .string q2, .int .i64 q3, .int .i64 q4, .int .i64 q5, .string q6] = some (.agg [.lit (.int .i64 q0), .lit (.string q1.data.toList), .lit (.string q2.data.toList), .lit (.int .i64 q3), .lit (.int .i64 q4), .lit (.int .i64 q5), .lit (.string q6.data.toList)], []) := by
  have p0 := trod_int_mk (enc := enc) (w := u) (base := base) (spare := spare) (held := held) n Try.underlying2 h0
  have p1 := str_mko (enc := enc) (u := u) (base := base) (spare := spare) (held := held) n h1
  have p2 := str_mko (enc := enc) (u := u) (base := base) (spare := spare) (held := held) n h2
  have p3 := trod_int_mk (enc := enc) (w := u) (base := base) (spare := spare) (held := held) n Try.underlying2 h3
  have p4 := trod_int_mk (enc := enc) (w := u) (base := base) (spare := spare) (held := held) n Try.underlying2 h4
  have p5 := trod_int_mk (enc := enc) (w := u) (base := base) (spare := spare) (held := held) n Try.underlying2 h5
  have p6 := str_mko (enc := enc) (u := u) (base := base) (spare := spare) (held := held) n h6
  have hm := trod_struct_mk (enc := enc) (w := u) (base := base) (spare := spare) (held := held) (n := n + 1) (xs := [(.lit (.int .i64 q0), []), (.lit (.string q1.data.toList), []), (.lit (.string q2.data.toList), []), (.lit (.int .i64 q3), []), (.lit (.int .i64 q4), []), (.lit (.int .i64 q5), []), (.lit (.string q6.data.toList), [])]) (cs := [.int .i64 q0, .string q1, .string q2, .int .i64 q3, .int .i64 q4, .int .i64 q5, .string q6]) Try.underlying23 (by rw [cellsOpo]; rfl) (by simp [cellsI64o, cellsStro, p0, p1, p2, p3, p4, p5, p6])
  simpa using hm
set_option maxRecDepth 100000 in
/-- An argument that is an op. -/
theorem op_open {H : Type} {enc : TypeId × Value → H} {w : World} {base b0 : Nat} {spare : Nat → Bool} {held : Bool} {v : Value} {d : DataW H} {ps : List MemPlace}
    (hv : Value.okWide Try.prog w .any b0 23 v) (h : DataW.Trod enc Try.prog w base spare held 23 v d ps) :
    ∃ (q0 : Int) (q1 : ByteArray) (q2 : ByteArray) (q3 : Int) (q4 : Int) (q5 : Int) (q6 : ByteArray), v = .agg #[.int .i64 q0, .string q1, .string q2, .int .i64 q3, .int .i64 q4, .int .i64 q5, .string q6] ∧ ((Lit.int .i64 q0).wf = true ∧ q1.size ≤ maxLen ∧ q2.size ≤ maxLen ∧ (Lit.int .i64 q3).wf = true ∧ (Lit.int .i64 q4).wf = true ∧ (Lit.int .i64 q5).wf = true ∧ q6.size ≤ maxLen) ∧ ps = [] ∧
      ∀ (u : World) (base' : Nat) (spare' : Nat → Bool), DataW.Trod enc Try.prog u base' spare' held 23 v d [] := by
  obtain ⟨⟨l⟩, rfl, hsz⟩ := okWide_struct Try.underlying23 hv
  obtain ⟨fuel, hf⟩ := h
  obtain ⟨q0, q1, q2, q3, q4, q5, q6, hc, hx, w0, w1, w2, w3, w4, w5, w6⟩ := openOpo hf
  simp only [Prod.mk.injEq] at hx
  obtain ⟨rfl, rfl⟩ := hx
  have hl : l = [.int .i64 q0, .string q1, .string q2, .int .i64 q3, .int .i64 q4, .int .i64 q5, .string q6] := by simpa [Value.cells] using hc
  subst hl
  exact ⟨q0, q1, q2, q3, q4, q5, q6, rfl, ⟨w0, w1, w2, w3, w4, w5, w6⟩, rfl, fun u base' spare' => ⟨2, mkOpo 0 w0 w1 w2 w3 w4 w5 w6⟩⟩
end Go.Proofs.Ytidcpdfhnhfelaa
