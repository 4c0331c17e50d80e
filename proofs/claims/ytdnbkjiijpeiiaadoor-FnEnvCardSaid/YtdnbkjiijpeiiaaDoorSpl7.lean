/- What the program's Split answers. -/
import Derived.Test.YtdnbkjiijpeiiaaDoorSplB
import Derived.Test.YtdnbkjiijpeiiaaDoorHShA
namespace Go.Proofs.YtdnbkjiijpeiiaaDoor
open Go.RowKit Go.PlainAid G MGF IRow
set_option linter.unusedVariables false
theorem FAt.row {W u v : World} {f : Nat} (h : FAt W f u) {row : Option Nat} (hg : u.grownBy v row) (hr : ∀ g, row = some g → W.heap.size ≤ g) (hf : f < W.heap.size) : FAt W f v := by
  have hu := h.grown
  refine ⟨h.fld.grown hg (fun e => by have := hr f e.symm; omega), hg.os.trans hu.os, hg.tape.trans hu.tape, hg.output.trans hu.output, Nat.le_trans hu.size hg.size, fun k hk hne => ?_⟩
  exact (hg.block k (Nat.lt_of_lt_of_le hk hu.size) (fun e => by have := hr k e.symm; omega)).trans (hu.block k hk hne)
end Go.Proofs.YtdnbkjiijpeiiaaDoor
