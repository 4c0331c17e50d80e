/- The laws' own functions on one envelope; an argument that is one. -/
import Derived.Test.YtdnbkjiijpeiiaaEnvA
import Derived.WalkKit
import Derived.ProofKit
import Derived.OpenShut
import Derived.ShutString
import Derived.IntWalk
namespace Go.Proofs.Ytdnbkjiijpeiiaa
open Go.ChangeShapes Go.WideShapes Go.RowKit G
set_option linter.unusedVariables false
theorem cellsEnv : Try.prog.cellsOf 23 = 5 := by kernel_rfl
theorem cellsI64 : Try.prog.cellsOf 2 = 1 := by kernel_rfl
theorem cellsStr : Try.prog.cellsOf 9 = 1 := by kernel_rfl
/-- An argument that is an envelope: its four numbers and its text. -/
theorem env_open {H : Type} {enc : TypeId × Value → H} {w : World} {base b0 : Nat} {spare : Nat → Bool} {held : Bool} {v : Value} {d : DataW H} {ps : List MemPlace}
    (hv : Value.okWide Try.prog w .any b0 23 v) (h : DataW.Trod enc Try.prog w base spare held 23 v d ps) :
    ∃ (g n m x : Int) (t : ByteArray), v = .agg #[.int .i64 g, .int .i64 n, .int .i64 m, .int .i64 x, .string t] ∧ (Lit.int .i64 g).wf = true ∧ (Lit.int .i64 n).wf = true ∧ (Lit.int .i64 m).wf = true ∧ (Lit.int .i64 x).wf = true ∧ t.size ≤ maxLen ∧ ps = [] ∧
      ∀ (u : World) (base' : Nat) (spare' : Nat → Bool), DataW.Trod enc Try.prog u base' spare' held 23 v d [] := by
  obtain ⟨⟨l⟩, rfl, hsz⟩ := okWide_struct Try.underlying23 hv
  have hl5 : l.length = 5 := hsz.trans cellsEnv
  obtain ⟨fuel, hf⟩ := h
  obtain ⟨xs, k, _, hx, _, hlen, hg⟩ := DataW.trod_struct Try.underlying23 hf
  have hlen5 : xs.length = 5 := hlen
  match l, hl5, xs, hlen5 with
  | [a0, a1, a2, a3, a4], _, [y0, y1, y2, y3, y4], _ =>
    have r0 := hg 0 _ rfl
    have r1 := hg 1 _ rfl
    have r2 := hg 2 _ rfl
    have r3 := hg 3 _ rfl
    have r4 := hg 4 _ rfl
    simp [Value.cells, cellsI64, cellsStr] at r0 r1 r2 r3 r4
    obtain ⟨g, e0, z0, w0⟩ := DataW.trod_int Try.underlying2 r0
    obtain ⟨n, e1, z1, w1⟩ := DataW.trod_int Try.underlying2 r1
    obtain ⟨m, e2, z2, w2⟩ := DataW.trod_int Try.underlying2 r2
    obtain ⟨x, e3, z3, w3⟩ := DataW.trod_int Try.underlying2 r3
    obtain ⟨t, e4, z4, w4⟩ := DataW.trod_string Try.underlying9 r4
    simp only [List.cons.injEq, and_true] at e0 e1 e2 e3 e4
    subst e0 e1 e2 e3 e4 z0 z1 z2 z3 z4
    simp only [Prod.mk.injEq, List.map_cons, List.map_nil, List.flatMap_cons, List.flatMap_nil, List.append_nil] at hx
    obtain ⟨rfl, rfl⟩ := hx
    refine ⟨g, n, m, x, t, rfl, w0, w1, w2, w3, w4, rfl, fun u base' spare' => ⟨2, ?_⟩⟩
    have q0 := trod_int_mk (enc := enc) (w := u) (base := base') (spare := spare') (held := held) 0 Try.underlying2 w0
    have q1 := trod_int_mk (enc := enc) (w := u) (base := base') (spare := spare') (held := held) 0 Try.underlying2 w1
    have q2 := trod_int_mk (enc := enc) (w := u) (base := base') (spare := spare') (held := held) 0 Try.underlying2 w2
    have q3 := trod_int_mk (enc := enc) (w := u) (base := base') (spare := spare') (held := held) 0 Try.underlying2 w3
    have q4 : DataW.trod enc Try.prog u base' spare' held (0 + 1) 9 [.string t] = some (.lit (.string t.data.toList), []) := by simp [DataW.trod, Try.underlying9, w4]
    have hm := trod_struct_mk (enc := enc) (w := u) (base := base') (spare := spare') (held := held) (n := 1) (xs := [(.lit (.int .i64 g), []), (.lit (.int .i64 n), []), (.lit (.int .i64 m), []), (.lit (.int .i64 x), []), (.lit (.string t.data.toList), [])]) (cs := [.int .i64 g, .int .i64 n, .int .i64 m, .int .i64 x, .string t]) Try.underlying23 (by rw [cellsEnv]; rfl) (by simp [cellsI64, cellsStr, q0, q1, q2, q3, q4])
    simpa [Value.cells] using hm
theorem szEnv_any (g n m x : Int) (t : ByteArray) (w : World) (ht : t.size ≤ maxLen) :
    Calls Try.prog 6 #[.agg #[.int .i64 g, .int .i64 n, .int .i64 m, .int .i64 x, .string t], .int .i64 1048576] w fun e w' => e = .returned (.int .i64 (if (t.size : Int) ≤ 1048576 then 1048576 - t.size else -1)) ∧ Below w.heap.size w w' := by
  unfold maxLen at ht
  have HB : Hid (Below w.heap.size w (w.alloc (.cells #[.int .i64 g, .int .i64 n, .int .i64 m, .int .i64 x, .string t] 23))) := Lib.hid ((Below.refl _ _).alloc (Nat.le_refl _) _)
  have hw : IntKind.i64.wrap (1048576 - (t.size : Int)) = 1048576 - (t.size : Int) := by rw [IntWalk.i64_in _ (by omega)]
  by_cases h : (t.size : Int) ≤ 1048576
  · rw [if_pos h]
    have h2 : ¬ 1048576 - (t.size : Int) < 0 := by omega
    go_enter Try.func6, Try.ntmps6
    go_wp2_with fail
    go_ret
    exact ⟨rfl, HB.out⟩
  · rw [if_neg h]
    have h2 : 1048576 - (t.size : Int) < 0 := by omega
    go_enter Try.func6, Try.ntmps6
    go_wp2_with fail
    go_ret
    exact ⟨rfl, HB.out⟩
set_option maxRecDepth 100000 in
theorem toEnv_any (g n m x : Int) (t : ByteArray) (w : World) :
    Calls Try.prog 8 #[.agg #[.int .i64 g, .int .i64 n, .int .i64 m, .int .i64 x, .string t]] w fun e w' => e = .returned (.agg #[.int .i64 g, .int .i64 n, .int .i64 m, .int .i64 x, .string t]) ∧ Below w.heap.size w w' := by
  go_enter Try.func8, Try.ntmps8
  go_wp2_with fail
  exact bodyPost_ret (v := .agg #[.int .i64 g, .int .i64 n, .int .i64 m, .int .i64 x, .string t]) (by simp [results, Try.results8, go_sem]) rfl ⟨rfl, by repeat' (first | exact Below.refl _ _ | refine Below.alloc ?_ (by first | exact Nat.le_refl _ | (simp; done) | (simp; omega)) _ | refine Below.setCell ?_ (by first | exact Nat.le_refl _ | (simp; done) | (simp; omega)) _)⟩
theorem eqEnv_same (g n m x : Int) (t : ByteArray) (w : World) :
    Calls Try.prog 33 #[.agg #[.int .i64 g, .int .i64 n, .int .i64 m, .int .i64 x, .string t], .agg #[.int .i64 g, .int .i64 n, .int .i64 m, .int .i64 x, .string t]] w fun e w' => e = .returned (.bool true) ∧ Below w.heap.size w w' := by
  go_enter Try.func33, Try.ntmps33
  go_wp2_with fail
  go_ret
  exact ⟨rfl, ((Below.refl _ _).alloc (Nat.le_refl _) _).alloc (by simp) _⟩
end Go.Proofs.Ytdnbkjiijpeiiaa
