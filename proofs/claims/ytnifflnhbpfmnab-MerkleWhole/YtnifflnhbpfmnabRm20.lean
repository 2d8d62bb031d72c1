/- The document's own answer: what leaves and a proof come to. -/
import Derived.Test.YtnifflnhbpfmnabRw20
namespace Go.Proofs.Ytnifflnhbpfmnab
open Go.RowKit
end Go.Proofs.Ytnifflnhbpfmnab
