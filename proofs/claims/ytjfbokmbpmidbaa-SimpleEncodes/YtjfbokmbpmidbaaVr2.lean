/- Contracts of slices.Grow of nothing, slices.Concat of two slices of bytes, and of package varint's Append. -/
import Derived.Test.YtjfbokmbpmidbaaVr
import Derived.Lib.AppendZerosOnto
import Derived.Lib.SliceRun
namespace Go.Proofs.Ytjfbokmbpmidbaa
open Go.RowKit

end Go.Proofs.Ytjfbokmbpmidbaa
