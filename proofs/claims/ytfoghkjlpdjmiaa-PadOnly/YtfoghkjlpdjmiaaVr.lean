/- Contracts of package varint: Size, Zig, Zag, groups. -/
import Derived.Test.YtfoghkjlpdjmiaaIu8
import Derived.Test.YtfoghkjlpdjmiaaLen
import Derived.Test.YtfoghkjlpdjmiaaVMath
namespace Go.Proofs.Ytfoghkjlpdjmiaa
open Go.RowKit

theorem and7 (x : Nat) (h : x < 18446744073709551616) : bits .and .u64 (x : Int) 127 = ((x % 128 : Nat) : Int) := by
  rw [show (127 : Int) = ((127 : Nat) : Int) from rfl, u64_and_nat _ _ h (by omega), nat_mask7]

end Go.Proofs.Ytfoghkjlpdjmiaa
