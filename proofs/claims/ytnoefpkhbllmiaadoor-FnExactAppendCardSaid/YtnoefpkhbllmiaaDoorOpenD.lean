/- An argument that is a disk. -/
import Derived.Test.YtnoefpkhbllmiaaDoorDskD
import Derived.WalkKit
import Derived.ProofKit
import Derived.OpenShut
import Derived.ShutString
import Derived.IntWalk
namespace Go.Proofs.YtnoefpkhbllmiaaDoor
open Go.ChangeShapes Go.WideShapes Go.RowKit G
set_option linter.unusedVariables false
theorem cellsDisk : Tryd.prog.cellsOf 36 = 2 := by kernel_rfl
theorem cellsStrD : Tryd.prog.cellsOf 9 = 1 := by kernel_rfl
set_option maxRecDepth 100000 in
theorem disk_open {H : Type} {enc : TypeId × Value → H} {w : World} {base b0 : Nat} {spare : Nat → Bool} {held : Bool} {v : Value} {d : DataW H} {ps : List MemPlace}
    (hv : Value.okWide Tryd.prog w .any b0 36 v) (h : DataW.Trod enc Tryd.prog w base spare held 36 v d ps) :
    ∃ (s t : ByteArray), v = .agg #[.string s, .string t] ∧ (s.size ≤ maxLen ∧ t.size ≤ maxLen) ∧ ps = [] ∧
      ∀ (u : World) (base' : Nat) (spare' : Nat → Bool), DataW.Trod enc Tryd.prog u base' spare' held 36 v d [] := by
  obtain ⟨⟨l⟩, rfl, hsz⟩ := okWide_struct Tryd.underlying36 hv
  have hl2 : l.length = 2 := hsz.trans cellsDisk
  obtain ⟨fuel, hf⟩ := h
  obtain ⟨xs, k, _, hx, _, hlen, hg⟩ := DataW.trod_struct Tryd.underlying36 hf
  have hlen2 : xs.length = 2 := hlen
  match l, hl2, xs, hlen2 with
  | [a0, a1], _, [y0, y1], _ =>
    have r0 := hg 0 _ rfl
    have r1 := hg 1 _ rfl
    simp [Value.cells, cellsStrD] at r0 r1
    obtain ⟨s, e0, z0, w0⟩ := DataW.trod_string Tryd.underlying9 r0
    obtain ⟨t, e1, z1, w1⟩ := DataW.trod_string Tryd.underlying9 r1
    simp only [List.cons.injEq, and_true] at e0 e1
    subst e0 e1 z0 z1
    simp only [Prod.mk.injEq, List.map_cons, List.map_nil, List.flatMap_cons, List.flatMap_nil, List.append_nil] at hx
    obtain ⟨rfl, rfl⟩ := hx
    refine ⟨s, t, rfl, ⟨w0, w1⟩, rfl, fun u base' spare' => ⟨2, ?_⟩⟩
    have q0 : DataW.trod enc Tryd.prog u base' spare' held (0 + 1) 9 [.string s] = some (.lit (.string s.data.toList), []) := by simp [DataW.trod, Tryd.underlying9, w0]
    have q1 : DataW.trod enc Tryd.prog u base' spare' held (0 + 1) 9 [.string t] = some (.lit (.string t.data.toList), []) := by simp [DataW.trod, Tryd.underlying9, w1]
    have hm := trod_struct_mk (enc := enc) (w := u) (base := base') (spare := spare') (held := held) (n := 1) (xs := [(.lit (.string s.data.toList), []), (.lit (.string t.data.toList), [])]) (cs := [.string s, .string t]) Tryd.underlying36 (by rw [cellsDisk]; rfl) (by simp [cellsStrD, q0, q1])
    simpa [Value.cells] using hm
end Go.Proofs.YtnoefpkhbllmiaaDoor
