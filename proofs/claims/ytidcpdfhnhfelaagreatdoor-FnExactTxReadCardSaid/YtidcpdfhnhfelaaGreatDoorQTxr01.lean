/- Texts put together: what the law uses of them. -/
import Derived.Test.YtidcpdfhnhfelaaGreatDoorChecked
import Derived.ProofKit
import Derived.Lib.Hide
import Derived.LoopTactic
import Derived.Test.YtidcpdfhnhfelaaGreatDoorQTxr00
/- Facts of the program's own tables, by the kernel, that many walks use. -/
namespace Go.Proofs.YtidcpdfhnhfelaaGreatDoor
theorem infoU8 : (Tryz.prog.info? 5).map (fun i => (i.zero, i.size, i.bytes)) = some (some (.int .u8 0), 1, 1) := by kernel_rfl
theorem sizeU8 : (Tryz.prog.info? 5).map (·.size) = some 1 := by kernel_rfl
theorem sizeOfU8 (w : World) : (Go.sizeOf 5).run Tryz.prog w = .ok 1 w := by kernel_rfl
end Go.Proofs.YtidcpdfhnhfelaaGreatDoor

