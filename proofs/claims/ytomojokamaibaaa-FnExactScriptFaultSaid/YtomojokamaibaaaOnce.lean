/- sync.Once, not yet done and its lock free: the parts of its slow road, each a contract; after the kit's worked example of a lazy value. -/
import Derived.Test.YtomojokamaibaaaGRow
import Derived.Test.YtomojokamaibaaaBase
import Derived.Defers
import Derived.Laws.Pointers
import Derived.Laws.LoneSync
import Derived.RegionCalls
import Derived.Laws.NewBlocks
namespace Go.Proofs.Ytomojokamaibaaa
open Go.RowKit G IRow
set_option linter.unusedVariables false
end Go.Proofs.Ytomojokamaibaaa
