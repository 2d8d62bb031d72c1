/- The two kinds of numbers' zeros and sizes. -/
import Derived.Test.YthpcibofcgjcdaaDoorBase
import Derived.Test.YthpcibofcgjcdaaDoorProg
namespace Go.Proofs.YthpcibofcgjcdaaDoor
open Go.RowKit
theorem Tryd.infoI64 : (Tryd.prog.info? 3).map (fun i => (i.zero, i.size, i.bytes)) = some (some (.int .i64 0), 1, 8) := by kernel_rfl
theorem Tryd.infoU64 : (Tryd.prog.info? 35).map (fun i => (i.zero, i.size, i.bytes)) = some (some (.int .u64 0), 1, 8) := by kernel_rfl
end Go.Proofs.YthpcibofcgjcdaaDoor
