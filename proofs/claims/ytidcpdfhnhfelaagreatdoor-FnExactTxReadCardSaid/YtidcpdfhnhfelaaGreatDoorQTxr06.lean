/- Texts put together: what the law uses of them. -/
import Derived.Laws.CopyOwn
import Derived.Deep.RegionHeld3
import Derived.StillTailTactics
import Derived.IntWalk
import Derived.OwnWalk
import Derived.Laws.BytesArg
import Derived.PlainAid
import Derived.KernelRfl
import Derived.Lib.Hide
import Derived.Test.YtidcpdfhnhfelaaGreatDoorQTxr00
import Derived.Test.YtidcpdfhnhfelaaGreatDoorQTxr01
import Derived.Test.YtidcpdfhnhfelaaGreatDoorQTxr03
import Derived.Test.YtidcpdfhnhfelaaGreatDoorQTxr05
/- Rows of bytes that hold a polynomial, beside a field's block; what one call of the field's leaves. -/
namespace Go.Proofs.YtidcpdfhnhfelaaGreatDoor
open Go.RowKit Go.PlainAid G IRow MGF
set_option linter.unusedVariables false
theorem fg_below {w w' : World} {row : Option Nat} (hb : Below w.heap.size w w') : w.grownBy w' row := ⟨hb.os, hb.tape, hb.output, hb.size, fun k hk _ => hb.block k hk⟩
end Go.Proofs.YtidcpdfhnhfelaaGreatDoor
/- The program's polynomials: trimmed, a list of bytes as one, a list of its own. -/
namespace Go.Proofs.YtidcpdfhnhfelaaGreatDoor
open Go.RowKit Go.PlainAid G IRow MGF
set_option linter.unusedVariables false
end Go.Proofs.YtidcpdfhnhfelaaGreatDoor
/- The program's polynomials: a list of bytes as one; what one is at a place. -/
namespace Go.Proofs.YtidcpdfhnhfelaaGreatDoor
open Go.RowKit Go.PlainAid G IRow MGF
set_option linter.unusedVariables false
end Go.Proofs.YtidcpdfhnhfelaaGreatDoor
/- The program's polynomials: a list of bytes as one, and one as a list of its own. -/
namespace Go.Proofs.YtidcpdfhnhfelaaGreatDoor
open Go.RowKit Go.PlainAid G IRow MGF
set_option linter.unusedVariables false
end Go.Proofs.YtidcpdfhnhfelaaGreatDoor
/- The program's polynomials: sums. -/
namespace Go.Proofs.YtidcpdfhnhfelaaGreatDoor
open Go.RowKit Go.PlainAid G IRow MGF
set_option linter.unusedVariables false
end Go.Proofs.YtidcpdfhnhfelaaGreatDoor

