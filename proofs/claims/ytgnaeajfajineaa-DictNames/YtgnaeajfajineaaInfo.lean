/- The two kinds of numbers' zeros and sizes. -/
import Derived.Test.YtgnaeajfajineaaBase
import Derived.Test.YtgnaeajfajineaaProg
namespace Go.Proofs.Ytgnaeajfajineaa
open Go.RowKit
theorem Try.infoI64 : (Try.prog.info? 3).map (fun i => (i.zero, i.size, i.bytes)) = some (some (.int .i64 0), 1, 8) := by kernel_rfl
theorem Try.infoU64 : (Try.prog.info? 35).map (fun i => (i.zero, i.size, i.bytes)) = some (some (.int .u64 0), 1, 8) := by kernel_rfl
end Go.Proofs.Ytgnaeajfajineaa
