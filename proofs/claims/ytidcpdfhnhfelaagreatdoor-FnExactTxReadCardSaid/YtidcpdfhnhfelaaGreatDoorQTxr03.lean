/- Texts put together: what the law uses of them. -/
import Derived.PlainAid
import Derived.KernelRfl
import Derived.Lib.Hide
import Derived.Defers
import Derived.Laws.Pointers
import Derived.Laws.LoneSync
import Derived.RegionCalls
import Derived.Laws.NewBlocks
import Derived.Test.YtidcpdfhnhfelaaGreatDoorQTxr00
import Derived.Test.YtidcpdfhnhfelaaGreatDoorQTxr01
/- The field's arrays are filled: twice, fill. -/
namespace Go.Proofs.YtidcpdfhnhfelaaGreatDoor
open Go.RowKit Go.PlainAid G IRow MGF
set_option linter.unusedVariables false
theorem grown_set (w : World) (b i : Nat) (v : Value) : w.grownBy (w.setCell ⟨b, i, none⟩ v) (some b) :=
  ⟨rfl, rfl, rfl, by simp, fun k hk hne => by unfold World.setCell; simp only [Array.getElem?_modify]; rw [if_neg (fun e => hne (by rw [e]))]⟩
end Go.Proofs.YtidcpdfhnhfelaaGreatDoor
/- The field's arrays are filled: the walk of fill. -/
namespace Go.Proofs.YtidcpdfhnhfelaaGreatDoor
open Go.RowKit Go.PlainAid G IRow MGF
set_option linter.unusedVariables false
end Go.Proofs.YtidcpdfhnhfelaaGreatDoor
/- The field's arrays are made once: sync.Once over fill. -/
namespace Go.Proofs.YtidcpdfhnhfelaaGreatDoor
open Go.RowKit Go.PlainAid G IRow MGF
set_option linter.unusedVariables false
end Go.Proofs.YtidcpdfhnhfelaaGreatDoor
/- A field, made or not: what its methods answer. -/
namespace Go.Proofs.YtidcpdfhnhfelaaGreatDoor
open Go.RowKit Go.PlainAid G IRow MGF
set_option linter.unusedVariables false
end Go.Proofs.YtidcpdfhnhfelaaGreatDoor
/- A field's products, powers and inverses. -/
namespace Go.Proofs.YtidcpdfhnhfelaaGreatDoor
open Go.RowKit Go.PlainAid G IRow MGF
set_option linter.unusedVariables false
end Go.Proofs.YtidcpdfhnhfelaaGreatDoor

