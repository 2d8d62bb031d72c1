/- The document's own answers: Prove, Rebuild, Verify. -/
import Derived.Test.YtnifflnhbpfmnabRm20
import Derived.Test.YtnifflnhbpfmnabRbd
import Derived.Test.YtnifflnhbpfmnabSame2
namespace Go.Proofs.Ytnifflnhbpfmnab
open Go.RowKit
end Go.Proofs.Ytnifflnhbpfmnab
