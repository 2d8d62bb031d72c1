/- The zero of a byte. -/
import Derived.Test.YtnifflnhbpfmnabProg
import Derived.Test.YtnifflnhbpfmnabBase
namespace Go.Proofs.Ytnifflnhbpfmnab

theorem Try.infoU8 : (Try.prog.info? 5).map (fun i => (i.zero, i.size, i.bytes)) = some (some (.int .u8 0), 1, 1) := by kernel_rfl
end Go.Proofs.Ytnifflnhbpfmnab
