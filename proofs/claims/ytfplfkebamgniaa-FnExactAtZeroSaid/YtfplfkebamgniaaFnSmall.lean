/- What small functions answer. -/
import Derived.Test.YtfplfkebamgniaaBase
namespace Go.Proofs.Ytfplfkebamgniaa
open Go.RowKit G
set_option linter.unusedVariables false
end Go.Proofs.Ytfplfkebamgniaa
