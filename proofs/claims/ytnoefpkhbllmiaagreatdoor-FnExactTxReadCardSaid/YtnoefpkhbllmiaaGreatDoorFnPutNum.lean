/- What the functions that write a number answer. -/
import Derived.Test.YtnoefpkhbllmiaaGreatDoorMNum
import Derived.Test.YtnoefpkhbllmiaaGreatDoorBase
namespace Go.Proofs.YtnoefpkhbllmiaaGreatDoor
open Go.RowKit MNum G
set_option linter.unusedVariables false
set_option maxRecDepth 100000
end Go.Proofs.YtnoefpkhbllmiaaGreatDoor
