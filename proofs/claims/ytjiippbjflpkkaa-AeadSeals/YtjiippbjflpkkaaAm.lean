/- What is sealed, what is opened: plain facts, ahead of package aead. -/
import Derived.Test.YtjiippbjflpkkaaCm
import Derived.Test.YtjiippbjflpkkaaPm
namespace Go.Proofs.Ytjiippbjflpkkaa

/-- bytes, and as few bytes 0 as make their number a multiple of 16 -/
def flN (n : Nat) : Nat := (16 - n % 16) % 16
def fl (b : List Int) : List Int := b ++ List.replicate (flN b.length) 0
/-- what is tagged -/
def ATX (ad c : List Int) : List Int := ((fl ad ++ fl c) ++ leB 8 ad.length) ++ leB 8 c.length
/-- the key of the tag: the first 32 bytes of the block of the counter 0 -/
def AKY (key nonce : List Int) : List Int := (BLK key 0 nonce).take 32
def ATG (key nonce ad c : List Int) : List Int := TAG (AKY key nonce) (ATX ad c)
/-- what is sealed -/
def ASL (key nonce ad p : List Int) : List Int := STR key 1 nonce p ++ ATG key nonce ad (STR key 1 nonce p)
/-- what is opened, and whether it is -/
def AOP (key nonce s : List Int) : List Int := STR key 1 nonce (s.take (s.length - 16))
abbrev AOK (key nonce ad s : List Int) : Prop := ATG key nonce ad (s.take (s.length - 16)) = s.drop (s.length - 16)
theorem flN_le (n : Nat) : flN n ≤ 15 := by unfold flN; omega
theorem flN_all (n : Nat) : (n + flN n) % 16 = 0 := by unfold flN; omega
/-- one more as long as there must be one more -/
theorem flN_step (n k : Nat) (hk : k ≤ flN n) : (n + k) % 16 = 0 ↔ k = flN n := by unfold flN at *; omega
theorem fl_len (b : List Int) : (fl b).length = b.length + flN b.length := by simp [fl]
theorem fl_u8 (b : List Int) (h : U8 b) : U8 (fl b) := h.app (fun y hy => by have := List.eq_of_mem_replicate hy; omega)
theorem ATX_u8 (ad c : List Int) (ha : U8 ad) (hc : U8 c) : U8 (ATX ad c) := (((fl_u8 ad ha).app (fl_u8 c hc)).app (leB_u8 _ _)).app (leB_u8 _ _)
theorem ATX_len (ad c : List Int) : (ATX ad c).length ≤ ad.length + c.length + 46 := by
  have h1 := flN_le ad.length
  have h2 := flN_le c.length
  simp only [ATX, List.length_append, fl_len, leB_len]
  omega
theorem AKY_len (key nonce : List Int) : (AKY key nonce).length = 32 := by rw [AKY, List.length_take, BLK_len]; rfl
theorem AKY_u8 (key nonce : List Int) : U8 (AKY key nonce) := (BLK_u8 _ _ _).take _
theorem ATG_len (key nonce ad c : List Int) : (ATG key nonce ad c).length = 16 := TAG_len _ _
theorem ATG_u8 (key nonce ad c : List Int) : U8 (ATG key nonce ad c) := TAG_u8 _ _
theorem ASL_len (key nonce ad p : List Int) : (ASL key nonce ad p).length = p.length + 16 := by rw [ASL, List.length_append, STR_len, ATG_len]
theorem ASL_u8 (key nonce ad p : List Int) (h : U8 p) : U8 (ASL key nonce ad p) := (STR_u8 _ _ _ _ h).app (ATG_u8 _ _ _ _)
theorem ASL_head (key nonce ad p : List Int) : (ASL key nonce ad p).take p.length = STR key 1 nonce p := by
  rw [ASL, List.take_append_of_le_length (by rw [STR_len]; exact Nat.le_refl _), List.take_of_length_le (by rw [STR_len]; exact Nat.le_refl _)]
theorem ASL_tail (key nonce ad p : List Int) : (ASL key nonce ad p).drop p.length = ATG key nonce ad (STR key 1 nonce p) := by
  rw [ASL, List.drop_append_of_le_length (by rw [STR_len]; exact Nat.le_refl _), List.drop_of_length_le (by rw [STR_len]; exact Nat.le_refl _), List.nil_append]
/-- there and back -/
theorem aead_ok (key nonce ad p : List Int) : AOK key nonce ad (ASL key nonce ad p) := by
  unfold AOK
  rw [ASL_len, Nat.add_sub_cancel, ASL_head, ASL_tail]
theorem aead_back (key nonce ad p : List Int) (h : U8 p) : AOP key nonce (ASL key nonce ad p) = p := by
  unfold AOP
  rw [ASL_len, Nat.add_sub_cancel, ASL_head, STR_STR _ _ _ _ h]
/-- what is opened was sealed -/
theorem aead_only (key nonce ad s : List Int) (h8 : U8 s) (h : AOK key nonce ad s) : ASL key nonce ad (AOP key nonce s) = s := by
  unfold AOP ASL
  rw [STR_STR _ _ _ _ (h8.take _), h, List.take_append_drop]
theorem AOP_len (key nonce s : List Int) : (AOP key nonce s).length = s.length - 16 := by
  rw [AOP, STR_len, List.length_take]; omega
theorem AOP_u8 (key nonce s : List Int) (h8 : U8 s) : U8 (AOP key nonce s) := STR_u8 _ _ _ _ (h8.take _)
theorem ASL_at (key nonce ad p : List Int) (i : Nat) (hi : i < p.length) : (ASL key nonce ad p).getD i 0 = (STR key 1 nonce p).getD i 0 := by
  simp only [ASL, List.getD_eq_getElem?_getD]
  rw [List.getElem?_append_left (by rw [STR_len]; exact hi)]
/-- the counter 1 suffices for these -/
theorem aead_fits (n : Nat) (h : n ≤ 1000000) : fitsC 1 n := by unfold fitsC; omega
/-- bytes of a length, one by one -/
theorem leB_next (n x : Nat) : leB (n + 1) x = leB n x ++ [((x / 256 ^ n % 256 : Nat) : Int)] := by
  induction n generalizing x with
  | zero => simp [leB]
  | succ n ih =>
    show ((x % 256 : Nat) : Int) :: leB (n + 1) (x / 256) = ((x % 256 : Nat) : Int) :: leB n (x / 256) ++ _
    rw [ih, Nat.div_div_eq_div_mul, Nat.pow_succ, Nat.mul_comm (256 ^ n) 256]; rfl
end Go.Proofs.Ytjiippbjflpkkaa
