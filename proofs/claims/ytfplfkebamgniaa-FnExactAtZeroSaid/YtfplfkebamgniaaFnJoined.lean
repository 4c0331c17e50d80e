/- What the function that puts texts one behind the other answers. -/
import Derived.Test.YtfplfkebamgniaaMJoin
import Derived.Test.YtfplfkebamgniaaBase
namespace Go.Proofs.Ytfplfkebamgniaa
open Go.RowKit MJoin G
set_option linter.unusedVariables false
theorem catS_two (a b : ByteArray) : catS [a, b] = a ++ b := by
  apply ByteArray.ext
  apply Array.toList_inj.1
  simp [catS, catL]
theorem catS_one (a : ByteArray) : catS [a] = a := by
  apply ByteArray.ext
  apply Array.toList_inj.1
  simp [catS, catL]
end Go.Proofs.Ytfplfkebamgniaa
