/- What the laws' own functions on rows of int64 answer. -/
import Derived.Test.YtomojokamaibaaaGRow
import Derived.Test.YtomojokamaibaaaBase
import Derived.IntWalk
import Derived.OwnWalk
namespace Go.Proofs.Ytomojokamaibaaa
open Go.RowKit G IRow
set_option linter.unusedVariables false
theorem infoI64 : (Try.prog.info? 2).map (fun i => (i.zero, i.size, i.bytes)) = some (some (.int .i64 0), 1, 8) := by kernel_rfl
end Go.Proofs.Ytomojokamaibaaa
/- What the laws' own functions on impl.PolyOut answer. -/
namespace Go.Proofs.Ytomojokamaibaaa
open Go.RowKit G IRow
set_option linter.unusedVariables false
def polyV (v : Value) (c : Int) : Value := .agg #[v, .int .i64 c]
end Go.Proofs.Ytomojokamaibaaa
