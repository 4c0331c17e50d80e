/- What small functions answer. -/
import Derived.Test.YtidcpdfhnhfelaaBase
namespace Go.Proofs.Ytidcpdfhnhfelaa
open Go.RowKit G
set_option linter.unusedVariables false
end Go.Proofs.Ytidcpdfhnhfelaa
