/- Contracts of package varint: Size, Zig, Zag, groups. -/
import Derived.Test.YtjfbokmbpmidbaaLen
import Derived.Test.YtjfbokmbpmidbaaVMath
namespace Go.Proofs.Ytjfbokmbpmidbaa
open Go.RowKit

theorem Try.infoU8 : (Try.prog.info? 5).map (fun i => (i.zero, i.size, i.bytes)) = some (some (.int .u8 0), 1, 1) := by kernel_rfl

theorem and7 (x : Nat) (h : x < 18446744073709551616) : bits .and .u64 (x : Int) 127 = ((x % 128 : Nat) : Int) := by
  rw [show (127 : Int) = ((127 : Nat) : Int) from rfl, u64_and_nat _ _ h (by omega), nat_mask7]

end Go.Proofs.Ytjfbokmbpmidbaa
