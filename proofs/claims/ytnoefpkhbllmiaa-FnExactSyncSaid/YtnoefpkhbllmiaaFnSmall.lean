/- What small functions answer. -/
import Derived.Test.YtnoefpkhbllmiaaBase
namespace Go.Proofs.Ytnoefpkhbllmiaa
open Go.RowKit G
set_option linter.unusedVariables false
end Go.Proofs.Ytnoefpkhbllmiaa
