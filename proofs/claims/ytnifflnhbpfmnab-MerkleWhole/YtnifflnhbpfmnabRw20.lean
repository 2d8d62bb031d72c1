/- The document's own answers: how many are told, the walk, Prove. -/
import Derived.Test.YtnifflnhbpfmnabRq
import Derived.Test.YtnifflnhbpfmnabPrv
namespace Go.Proofs.Ytnifflnhbpfmnab
open Go.RowKit
end Go.Proofs.Ytnifflnhbpfmnab
