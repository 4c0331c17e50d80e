/- What small functions answer. -/
import Derived.Test.YtnoefpkhbllmiaaGreatBase
namespace Go.Proofs.YtnoefpkhbllmiaaGreat
open Go.RowKit G
set_option linter.unusedVariables false
end Go.Proofs.YtnoefpkhbllmiaaGreat
