/- Facts of the program's own tables, by the kernel, that many walks use. -/
import Derived.Test.YtomojokamaibaaaGRow
import Derived.Test.YtomojokamaibaaaChecked
import Derived.ProofKit
import Derived.Lib.Hide
import Derived.LoopTactic
namespace Go.Proofs.Ytomojokamaibaaa
theorem infoU8 : (Try.prog.info? 5).map (fun i => (i.zero, i.size, i.bytes)) = some (some (.int .u8 0), 1, 1) := by kernel_rfl
theorem sizeU8 : (Try.prog.info? 5).map (·.size) = some 1 := by kernel_rfl
theorem sizeOfU8 (w : World) : (Go.sizeOf 5).run Try.prog w = .ok 1 w := by kernel_rfl
end Go.Proofs.Ytomojokamaibaaa
