/- The zero of a byte. -/
import Derived.Test.YtnifflnhbpfmnaaProg
import Derived.Test.YtnifflnhbpfmnaaBase
namespace Go.Proofs.Ytnifflnhbpfmnaa

theorem Try.infoU8 : (Try.prog.info? 5).map (fun i => (i.zero, i.size, i.bytes)) = some (some (.int .u8 0), 1, 1) := by kernel_rfl
end Go.Proofs.Ytnifflnhbpfmnaa
