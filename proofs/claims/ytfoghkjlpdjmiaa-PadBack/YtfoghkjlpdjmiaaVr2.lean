/- Contracts of slices.Grow of nothing, slices.Concat of two slices of bytes, and of package varint's Append. -/
import Derived.Test.YtfoghkjlpdjmiaaVr
import Derived.Lib.AppendZerosOnto
import Derived.Lib.SliceRun
namespace Go.Proofs.Ytfoghkjlpdjmiaa
open Go.RowKit

end Go.Proofs.Ytfoghkjlpdjmiaa
