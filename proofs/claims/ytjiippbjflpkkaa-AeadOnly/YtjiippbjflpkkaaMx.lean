/- MAC. -/
import Derived.Test.YtjiippbjflpkkaaTa
import Derived.Test.YtjiippbjflpkkaaLe
import Derived.Test.YtjiippbjflpkkaaTi
import Derived.Test.YtjiippbjflpkkaaMu
namespace Go.Proofs.Ytjiippbjflpkkaa
open Go.RowKit

/-- the whole, in limbs -/
theorem tag_limbs (key xs : List Int) (hk : key.length = 32) (k8 : U8 key) (x8 : U8 xs) :
    leB 16 (LV (sdg (pls (lst (gth (nmb (c2 (key.take 16) 3)) xs ((xs.length + 15) / 16))) (nmb (key.drop 16))) 0)) = TAG key xs := by
  have hc := c2_clamp key (by omega)
  have hcl : (clampD key).length = 16 := clampD_len key
  have p16 : (256 : Nat) ^ 16 < 2 ^ 130 := by decide +kernel
  have h1 : LV (nmb (c2 (key.take 16) 3)) = nv (clampD key) := by
    rw [hc]
    refine nmb_LV _ (by rw [hcl]; decide) ?_
    have := nv_lt _ (clampD_u8 key k8)
    rw [hcl] at this
    omega
  have hdl : (key.drop 16).length = 16 := by rw [List.length_drop, hk]
  have h2 : LV (nmb (key.drop 16)) = nv (key.drop 16) := by
    refine nmb_LV _ (by rw [hdl]; decide) ?_
    have := nv_lt _ (k8.drop 16)
    rw [hdl] at this
    omega
  have h3 := gth_mod (nmb (c2 (key.take 16) 3)) xs (nmb_len _) x8 ((xs.length + 15) / 16)
  have h4 := lst_LV (gth (nmb (c2 (key.take 16) 3)) xs ((xs.length + 15) / 16)) (gth_len _ _ _) (gth_lb _ _ (nmb_lb _) _)
  have h5 := settle5 (pls (lst (gth (nmb (c2 (key.take 16) 3)) xs ((xs.length + 15) / 16))) (nmb (key.drop 16))) (pls_len _ _)
  rw [pls_LV _ _ (lst_len _ (gth_len _ _ _)) (nmb_len _), h4, h3, h1, h2] at h5
  unfold TAG
  rw [← h5.1]
  refine nv_inj (leB_u8 _ _) (leB_u8 _ _) (by rw [leB_len, leB_len]) ?_
  rw [nv_leB, nv_leB, show (2 : Nat) ^ 130 = 256 ^ 16 * 4 by decide +kernel, Nat.mul_assoc, Nat.add_mul_mod_self_left]
end Go.Proofs.Ytjiippbjflpkkaa
