/- Texts put together: what the law uses of them. -/
import Derived.BigQuiet
import Derived.Deep.QuietTactic
import Derived.RegionTactic
import Derived.WalkSmall
import Derived.OpenShut
import Derived.IntWalk
import Derived.Test.YtidcpdfhnhfelaaGreatDoorQTxr01
import Derived.Test.YtidcpdfhnhfelaaGreatDoorQTxr00
/- What the model's sources of draws answer: numbers in their range; no memory is written but the source's own. -/
namespace Go.Proofs.YtidcpdfhnhfelaaGreatDoor
open Go.RowKit G
set_option linter.unusedVariables false
end Go.Proofs.YtidcpdfhnhfelaaGreatDoor
/- What the model's sources of draws answer: whether, a number at some limit, any number. -/
namespace Go.Proofs.YtidcpdfhnhfelaaGreatDoor
open Go.RowKit G
set_option linter.unusedVariables false
theorem grown_own {w wr w' : World} {p : Nat} {row : Option Nat} (h : w.grownBy wr (some p)) (k : wr.grownBy w' row) (hr : ∀ g, row = some g → w.heap.size ≤ g) : w.grownBy w' (some p) :=
  ⟨k.os.trans h.os, k.tape.trans h.tape, k.output.trans h.output, Nat.le_trans h.size k.size, fun i hi hp => (k.block i (Nat.lt_of_lt_of_le hi h.size) (fun e => by have := hr i e.symm; omega)).trans (h.block i hi hp)⟩
end Go.Proofs.YtidcpdfhnhfelaaGreatDoor
/- What the model's sources of draws answer: texts; and how a source is made. -/
namespace Go.Proofs.YtidcpdfhnhfelaaGreatDoor
open Go.RowKit G
set_option linter.unusedVariables false
section
variable {P : Program} {w : World}
end
end Go.Proofs.YtidcpdfhnhfelaaGreatDoor
/- How a source of draws is made. -/
namespace Go.Proofs.YtidcpdfhnhfelaaGreatDoor
open Go.RowKit G
set_option linter.unusedVariables false
end Go.Proofs.YtidcpdfhnhfelaaGreatDoor
/- What the model's draws of chapter 2 answer: a number; texts that are not too long; nothing that was there turns. -/
namespace Go.Proofs.YtidcpdfhnhfelaaGreatDoor
open Go.RowKit G
set_option linter.unusedVariables false
end Go.Proofs.YtidcpdfhnhfelaaGreatDoor

