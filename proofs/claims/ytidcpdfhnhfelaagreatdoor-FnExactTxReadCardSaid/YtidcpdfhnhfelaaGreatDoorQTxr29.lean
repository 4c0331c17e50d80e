/- Texts put together: what the law uses of them. -/
import Derived.Lib.Hide
import Derived.PlainAid
import Derived.Test.YtidcpdfhnhfelaaGreatDoorQTxr00
/- Plain facts on bytes and names that the walks of chapter 2 use; nothing of the program stands here. -/
namespace Go.Proofs.YtidcpdfhnhfelaaGreatDoor.M2
open Go.PlainAid
def smallB (c : Int) : Bool := decide (97 ≤ c) && decide (c ≤ 122)
end Go.Proofs.YtidcpdfhnhfelaaGreatDoor.M2

