/- What the model's draws of chapter 2 answer: a number; texts that are not too long; nothing that was there turns. -/
import Derived.Test.YtfplfkebamgniaaDraw4
namespace Go.Proofs.Ytfplfkebamgniaa
open Go.RowKit G
set_option linter.unusedVariables false
theorem below_drawn {B p : Nat} {w w1 w2 : World} (h : Below B w w1) (hB : B ≤ w.heap.size) (hp : B ≤ p) (hD : Drawn w1 w2 p) : Below B w w2 :=
  h.grown hD.gr (Nat.le_trans hB h.size) (fun k hk => by injection hk with hk; omega)
theorem made_zero (n : Nat) : (madeCells (Value.int .u8 0).cells (n * 1)).toList = (List.replicate n (0 : Int)).map (Value.int .u8) := by
  apply List.ext_getElem
  · simp [size_madeCells]
  · intro i h1 h2
    simp [madeCells, Value.cells, Nat.mod_one]
def SomeNum (w : World) (e : Ending) (w' : World) : Prop := ∃ r : Int, e = .returned (.int .i64 r) ∧ (Lit.int .i64 r).wf = true ∧ Below w.heap.size w w'
def SomeText (n : Nat) (w : World) (e : Ending) (w' : World) : Prop := ∃ x : ByteArray, e = .returned (.string x) ∧ x.size ≤ n ∧ Below w.heap.size w w'
end Go.Proofs.Ytfplfkebamgniaa
