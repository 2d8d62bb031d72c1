/- Several texts in one: Gm, Gm2, Gt, Laid9, Rm, Cu3, Kc. -/
import Derived.Test.YthapipgaohlgdaaGreatDoorG2
import Derived.Lib.TrailingZeros
import Derived.Laws.Bits64b
import Derived.WalkSpells
import Derived.Laws.Rows
import Derived.Deep.WholeRow
import Derived.Deep.RegionHeld3
import Derived.Test.YthapipgaohlgdaaGreatDoorRows
import Derived.ProofKit
import Derived.LaidMore
import Derived.Lib.LaidTab
import Derived.Test.YthapipgaohlgdaaGreatDoorG3


namespace Go.Proofs.YthapipgaohlgdaaGreatDoor
open Go.RowKit
def tzF : Nat → Nat → Nat
 | 0,_ => 0
 | f + 1,x => if x % 2 = 0 then tzF f (x / 2) + 1 else 0
def tz (x : Nat) : Nat:=tzF 64 x
def ldz (x : Nat) : Nat:=min (64 - wid x) 31
abbrev fitsW (x a z : Nat) : Prop:=a ≤ 64 - wid x ∧ z ≤ tz x
def newW (x : Nat) : List Bool:=true :: true :: (bitsOf (ldz x) 5 ++ (bitsOf (63 - ldz x - tz x) 6 ++ bitsOf (x / 2 ^ tz x) (64 - ldz x - tz x)))
def gx (x : Nat) (wn : Option (Nat × Nat)) : List Bool × Option (Nat × Nat) :=
 if x = 0 then ([false],wn) else
 match wn with
 | none => (newW x,some (ldz x,tz x))
 | some (a,z) => if fitsW x a z then (true :: false :: bitsOf (x / 2 ^ z) (64 - a - z),some (a,z)) else (newW x,some (ldz x,tz x))
def gE : Nat → Option (Nat × Nat) → List Int → List Bool
 | _,_,[] => []
 | p,wn,y :: t => (gx (p ^^^ y.toNat) wn).1 ++ gE y.toNat (gx (p ^^^ y.toNat) wn).2 t
def GB : List Int → List Bool
 | [] => []
 | y :: t => bitsOf y.toNat 64 ++ gE y.toNat none t
def Win (wn : Option (Nat × Nat)) : Prop:=∀ a z,wn = some (a,z) → a ≤ 31 ∧ a + z ≤ 63
theorem tzF_dvd : ∀ (f x : Nat),2 ^ tzF f x ∣ x
 | 0,x => by simp [tzF]
 | f + 1,x => by
  rw [tzF]
  by_cases h : x % 2 = 0
  ·rw [if_pos h]
   obtain ⟨k,hk⟩:=tzF_dvd f (x / 2)
   refine ⟨k,?_⟩
   have e : x = 2 * (x / 2):=by omega
   rw [Nat.pow_succ,Nat.mul_comm (2 ^ tzF f (x / 2)) 2,Nat.mul_assoc,← hk]
   exact e
  ·rw [if_neg h];simp
theorem tzF_odd : ∀ (f x : Nat),0 < x → x < 2 ^ f → x / 2 ^ tzF f x % 2 = 1
 | 0,x,h0,h1 => by simp at h1;omega
 | f + 1,x,h0,h1 => by
  rw [tzF]
  by_cases h : x % 2 = 0
  ·rw [if_pos h,Nat.pow_succ,Nat.mul_comm,← Nat.div_div_eq_div_mul]
   exact tzF_odd f (x / 2) (by omega) (by rw [Nat.pow_succ] at h1;omega)
  ·rw [if_neg h];simp;omega
theorem tzF_lt : ∀ (f x : Nat),0 < x → x < 2 ^ f → tzF f x < f
 | 0,x,h0,h1 => by simp at h1;omega
 | f + 1,x,h0,h1 => by
  rw [tzF]
  by_cases h : x % 2 = 0
  ·rw [if_pos h]
   have:=tzF_lt f (x / 2) (by omega) (by rw [Nat.pow_succ] at h1;omega)
   omega
  ·rw [if_neg h];omega
theorem p64 : (2 : Nat) ^ 64 = 18446744073709551616:=by decide
theorem tz_back {x z : Nat} (h : z ≤ tz x) : x / 2 ^ z * 2 ^ z = x:=by
 have h1 : 2 ^ z ∣ x:=Nat.dvd_trans (Nat.pow_dvd_pow 2 h) (tzF_dvd 64 x)
 exact Nat.div_mul_cancel h1
theorem fits_lt {x a z : Nat} (hx : x < 18446744073709551616) (ha : a ≤ 64 - wid x) (hz : a + z ≤ 63) : x / 2 ^ z < 2 ^ (64 - a - z):=by
 have hw:=wid_le64 x hx
 have h1 : x < 2 ^ (64 - a):=(wid_le_iff x (64 - a)).1 (by omega)
 rw [Nat.div_lt_iff_lt_mul (Nat.two_pow_pos z),← Nat.pow_add]
 rw [show 64 - a - z + z = 64 - a by omega]
 exact h1
theorem win_new {x : Nat} (h0 : 0 < x) (hx : x < 18446744073709551616) : ldz x ≤ 31 ∧ ldz x ≤ 64 - wid x ∧ ldz x + tz x ≤ 63:=by
 have h1 : tz x < 64:=tzF_lt 64 x h0 (by rw [p64];exact hx)
 have h2 : tz x < wid x:=by
  rcases Nat.lt_or_ge (tz x) (wid x) with h | h
  ·exact h
  ·have h3 : x < 2 ^ tz x:=(wid_le_iff x (tz x)).1 h
   have h4 : x / 2 ^ tz x * 2 ^ tz x = x:=tz_back (Nat.le_refl _)
   rw [Nat.div_eq_of_lt h3] at h4
   omega
 have hw:=wid_le64 x hx
 unfold ldz
 omega
theorem Win.next {x : Nat} {wn : Option (Nat × Nat)} (hw : Win wn) (hx : x < 18446744073709551616) : Win (gx x wn).2:=by
 intro a z h
 unfold gx at h
 by_cases h0 : x = 0
 ·rw [if_pos h0] at h;exact hw a z h
 ·rw [if_neg h0] at h
  have hn:=win_new (by omega) hx
  cases wn with
  | none =>
   simp only [Option.some.injEq,Prod.mk.injEq] at h
   obtain ⟨rfl,rfl⟩:=h
   exact ⟨hn.1,hn.2.2⟩
  | some p =>
   obtain ⟨a',z'⟩:=p
   simp only at h
   by_cases hf : fitsW x a' z'
   ·rw [if_pos hf] at h;exact hw a z h
   ·rw [if_neg hf] at h
    simp only [Option.some.injEq,Prod.mk.injEq] at h
    obtain ⟨rfl,rfl⟩:=h
    exact ⟨hn.1,hn.2.2⟩
theorem Win.none : Win none:=fun a z h => by cases h
def gR (wn : Option (Nat × Nat)) : List Bool → Nat × Option (Nat × Nat) × List Bool × Int
 | [] => (0,wn,[],2)
 | false :: r => (0,wn,r,0)
 | [true] => (0,wn,[],2)
 | true :: false :: r =>
  match wn with
  | none => (0,none,r,3)
  | some (a,z) => if r.length < 64 - a - z then (0,wn,r,2) else (bnum (r.take (64 - a - z)) * 2 ^ z,wn,r.drop (64 - a - z),0)
 | true :: true :: r =>
  if r.length < 5 then (0,wn,r,2) else
  if r.length < 11 then (0,wn,r,2) else
  if 63 < bnum (r.take 5) + bnum ((r.drop 5).take 6) then (0,wn,r,3) else
  if r.length < 12 + bnum ((r.drop 5).take 6) then (0,wn,r,2) else
  (bnum ((r.drop 11).take (bnum ((r.drop 5).take 6) + 1)) * 2 ^ (63 - bnum (r.take 5) - bnum ((r.drop 5).take 6)),some (bnum (r.take 5),63 - bnum (r.take 5) - bnum ((r.drop 5).take 6)),r.drop (12 + bnum ((r.drop 5).take 6)),0)
def gDA : Nat → List Int → Nat → Option (Nat × Nat) → List Bool → List Int × Int
 | 0,acc,_,_,_ => (acc,0)
 | n + 1,acc,p,wn,l => if (gR wn l).2.2.2 ≠ 0 then ([],(gR wn l).2.2.2) else gDA n (acc ++ [((p ^^^ (gR wn l).1 : Nat) : Int)]) (p ^^^ (gR wn l).1) (gR wn l).2.1 (gR wn l).2.2.1
def gRd (l : List Bool) (n : Nat) : List Int × Int :=
 if n = 0 then ([],0) else if l.length < 64 then ([],2) else gDA (n - 1) [(bnum (l.take 64) : Int)] (bnum (l.take 64)) none (l.drop 64)
theorem bnum_of {v n : Nat} (h : v < 2 ^ n) : bnum (bitsOf v n) = v:=by rw [num_bitsOf,Nat.mod_eq_of_lt h]
theorem gR_new {x : Nat} {wn : Option (Nat × Nat)} (h0 : 0 < x) (hx : x < 18446744073709551616) (r : List Bool) : gR wn (newW x ++ r) = (x,some (ldz x,tz x),r,0):=by
 obtain ⟨h1,h2,h3⟩:=win_new h0 hx
 have l5 : (bitsOf (ldz x) 5).length = 5:=bitsOf_length _ _
 have l6 : (bitsOf (63 - ldz x - tz x) 6).length = 6:=bitsOf_length _ _
 have lm : (bitsOf (x / 2 ^ tz x) (64 - ldz x - tz x)).length = 64 - ldz x - tz x:=bitsOf_length _ _
 have p5 : (2 : Nat) ^ 5 = 32:=by decide
 have p6 : (2 : Nat) ^ 6 = 64:=by decide
 have e5 : bnum (bitsOf (ldz x) 5) = ldz x:=bnum_of (by omega)
 have e6 : bnum (bitsOf (63 - ldz x - tz x) 6) = 63 - ldz x - tz x:=bnum_of (by omega)
 have em : bnum (bitsOf (x / 2 ^ tz x) (64 - ldz x - tz x)) = x / 2 ^ tz x:=bnum_of (fits_lt hx h2 h3)
 have hb:=tz_back (Nat.le_refl (tz x))
 generalize hA : bitsOf (ldz x) 5 = A at *
 generalize hB : bitsOf (63 - ldz x - tz x) 6 = B at *
 generalize hC : bitsOf (x / 2 ^ tz x) (64 - ldz x - tz x) = C at *
 have hn : newW x ++ r = true :: true :: (A ++ (B ++ (C ++ r))):=by
  unfold newW;rw [hA,hB,hC];simp
 rw [hn]
 have t5 : (A ++ (B ++ (C ++ r))).take 5 = A:=by rw [List.take_left' l5]
 have d5 : (A ++ (B ++ (C ++ r))).drop 5 = B ++ (C ++ r):=by rw [List.drop_left' l5]
 have t6 : (B ++ (C ++ r)).take 6 = B:=by rw [List.take_left' l6]
 have d6 : (B ++ (C ++ r)).drop 6 = C ++ r:=by rw [List.drop_left' l6]
 have d11 : (A ++ (B ++ (C ++ r))).drop 11 = C ++ r:=by rw [show (11 : Nat) = 5 + 6 from rfl,← List.drop_drop,d5,d6]
 have hlen : (A ++ (B ++ (C ++ r))).length = 11 + (64 - ldz x - tz x) + r.length:=by
  simp only [List.length_append];omega
 rw [gR]
 rw [t5,d5,t6,d11,e5,e6]
 rw [if_neg (by omega),if_neg (by omega),if_neg (by omega),if_neg (by omega)]
 have q1 : 63 - ldz x - tz x + 1 = 64 - ldz x - tz x:=by omega
 have q2 : 63 - ldz x - (63 - ldz x - tz x) = tz x:=by omega
 have d12 : (A ++ (B ++ (C ++ r))).drop (12 + (63 - ldz x - tz x)) = r:=by
  rw [show 12 + (63 - ldz x - tz x) = 11 + (64 - ldz x - tz x) by omega,← List.drop_drop,d11,List.drop_left' lm]
 rw [q1,q2,d12,List.take_left' lm,em,hb]
theorem gR_gx {x : Nat} {wn : Option (Nat × Nat)} (hw : Win wn) (hx : x < 18446744073709551616) (r : List Bool) : gR wn ((gx x wn).1 ++ r) = (x,(gx x wn).2,r,0):=by
 unfold gx
 by_cases h0 : x = 0
 ·subst h0
  rw [if_pos rfl];rfl
 ·rw [if_neg h0]
  cases wn with
  | none => exact gR_new (by omega) hx r
  | some p =>
   obtain ⟨a,z⟩:=p
   simp only
   by_cases hf : fitsW x a z
   ·rw [if_pos hf]
    obtain ⟨ha,hz⟩:=hf
    obtain ⟨w1,w2⟩:=hw a z rfl
    have lm : (bitsOf (x / 2 ^ z) (64 - a - z)).length = 64 - a - z:=bitsOf_length _ _
    have em : bnum (bitsOf (x / 2 ^ z) (64 - a - z)) = x / 2 ^ z:=bnum_of (fits_lt hx ha w2)
    have hb:=tz_back hz
    generalize bitsOf (x / 2 ^ z) (64 - a - z) = C at *
    show gR (some (a,z)) (true :: false :: (C ++ r)) = _
    rw [gR]
    simp only
    rw [if_neg (by rw [List.length_append];omega),List.take_left' lm,List.drop_left' lm,em,hb]
   ·rw [if_neg hf]
    exact gR_new (by omega) hx r
theorem xor_lt {a b : Nat} (ha : a < 18446744073709551616) (hb : b < 18446744073709551616) : a ^^^ b < 18446744073709551616:=by
 rw [← p64] at *
 exact Nat.xor_lt_two_pow ha hb
theorem xor_twice (a b : Nat) : a ^^^ (a ^^^ b) = b:=by rw [← Nat.xor_assoc,Nat.xor_self,Nat.zero_xor]
theorem gDA_gE (l : List Int) : ∀ (acc : List Int) (p : Nat) (wn : Option (Nat × Nat)) (r : List Bool),U64 l → p < 18446744073709551616 → Win wn → gDA l.length acc p wn (gE p wn l ++ r) = (acc ++ l,0):=by
 induction l with
 | nil => intro acc p wn r _ _ _;simp [gDA]
 | cons y t ih =>
  intro acc p wn r hu hp hw
  have hy:=hu y List.mem_cons_self
  have hx:=xor_lt hp (show y.toNat < 18446744073709551616 by omega)
  have e : gE p wn (y :: t) ++ r = (gx (p ^^^ y.toNat) wn).1 ++ (gE y.toNat (gx (p ^^^ y.toNat) wn).2 t ++ r):=by rw [gE,List.append_assoc]
  rw [e,List.length_cons,gDA,gR_gx hw hx]
  simp only [ne_eq,not_true_eq_false,if_false,xor_twice]
  rw [ih _ _ _ _ (fun z hz => hu z (List.mem_cons_of_mem _ hz)) (by omega) (hw.next hx),Int.toNat_of_nonneg hy.1]
  simp
theorem gRd_GB {l : List Int} (hu : U64 l) (r : List Bool) : gRd (GB l ++ r) l.length = (l,0):=by
 cases l with
 | nil => rfl
 | cons y t =>
  have hy:=hu y List.mem_cons_self
  have l64 : (bitsOf y.toNat 64).length = 64:=bitsOf_length _ _
  have e64 : bnum (bitsOf y.toNat 64) = y.toNat:=bnum_of (by rw [p64];omega)
  unfold gRd GB
  rw [if_neg (by simp),List.append_assoc,if_neg (by rw [List.length_append];omega),List.take_left' l64,List.drop_left' l64,e64,List.length_cons,Nat.add_sub_cancel]
  rw [gDA_gE t _ _ _ _ (fun z hz => hu z (List.mem_cons_of_mem _ hz)) (by omega) Win.none,Int.toNat_of_nonneg hy.1]
  rfl
theorem gR_ok {wn : Option (Nat × Nat)} (hw : Win wn) (l : List Bool) (h : (gR wn l).2.2.2 = 0) : (gR wn l).1 < 18446744073709551616 ∧ Win (gR wn l).2.1:=by
 have key : ∀ (c : List Bool) (a z m : Nat),c.length ≤ m → m + z + a ≤ 64 → bnum c * 2 ^ z < 18446744073709551616:=by
  intro c a z m hc hm
  have h1:=bnum_lt c
  have h2 : 2 ^ c.length ≤ 2 ^ m:=Nat.pow_le_pow_right (by omega) hc
  have h3 : bnum c * 2 ^ z < 2 ^ m * 2 ^ z:=Nat.mul_lt_mul_of_pos_right (by omega) (Nat.two_pow_pos z)
  rw [← Nat.pow_add] at h3
  have h4 : 2 ^ (m + z) ≤ 2 ^ 64:=Nat.pow_le_pow_right (by omega) (by omega)
  rw [p64] at h4
  omega
 match l,h with
 | [],h => exact absurd h (by simp [gR])
 | false :: r,_ => exact ⟨by simp [gR],by simpa [gR] using hw⟩
 | [true],h => exact absurd h (by simp [gR])
 | true :: false :: r,h =>
  cases wn with
  | none => exact absurd h (by simp [gR])
  | some p =>
   obtain ⟨a,z⟩:=p
   obtain ⟨w1,w2⟩:=hw a z rfl
   rw [gR] at h ⊢
   by_cases hl : r.length < 64 - a - z
   ·rw [if_pos hl] at h;cases h
   ·rw [if_neg hl]
    exact ⟨key _ a z (64 - a - z) (by rw [List.length_take];omega) (by omega),hw⟩
 | true :: true :: r,h =>
  rw [gR] at h ⊢
  by_cases c1 : r.length < 5
  ·rw [if_pos c1] at h;cases h
  ·rw [if_neg c1] at h ⊢
   by_cases c2 : r.length < 11
   ·rw [if_pos c2] at h;cases h
   ·rw [if_neg c2] at h ⊢
    by_cases c3 : 63 < bnum (r.take 5) + bnum ((r.drop 5).take 6)
    ·rw [if_pos c3] at h;cases h
    ·rw [if_neg c3] at h ⊢
     by_cases c4 : r.length < 12 + bnum ((r.drop 5).take 6)
     ·rw [if_pos c4] at h;cases h
     ·rw [if_neg c4]
      have hb:=bnum_lt (r.take 5)
      have hb2 : (r.take 5).length = 5:=by rw [List.length_take];omega
      rw [hb2] at hb
      refine ⟨key _ (bnum (r.take 5)) _ (bnum ((r.drop 5).take 6) + 1) (by rw [List.length_take];omega) (by omega),?_⟩
      intro a z e
      simp only [Option.some.injEq,Prod.mk.injEq] at e
      obtain ⟨rfl,rfl⟩:=e
      have : (2 : Nat) ^ 5 = 32:=by decide
      omega
theorem gDA_ok : ∀ (n : Nat) (acc : List Int) (p : Nat) (wn : Option (Nat × Nat)) (l : List Bool),U64 acc → p < 18446744073709551616 → Win wn → (gDA n acc p wn l).2 = 0 → U64 (gDA n acc p wn l).1 ∧ (gDA n acc p wn l).1.length = acc.length + n
 | 0,acc,_,_,_,hu,_,_,_ => ⟨hu,rfl⟩
 | n + 1,acc,p,wn,l,hu,hp,hw,h => by
  rw [gDA] at h ⊢
  by_cases hc : (gR wn l).2.2.2 ≠ 0
  ·rw [if_pos hc] at h;exact absurd h hc
  ·rw [if_neg hc] at h ⊢
   obtain ⟨h1,h2⟩:=gR_ok hw l (by simpa using hc)
   have hx:=xor_lt hp h1
   obtain ⟨h3,h4⟩:=gDA_ok n _ _ _ _ (fun y hy => by
    rcases List.mem_append.1 hy with h | h
    ·exact hu y h
    ·simp at h;omega) hx h2 h
   exact ⟨h3,by rw [h4,List.length_append];simp;omega⟩
theorem gRd_ok {l : List Bool} {n : Nat} (h : (gRd l n).2 = 0) : U64 (gRd l n).1 ∧ (gRd l n).1.length = n:=by
 unfold gRd at *
 by_cases h0 : n = 0
 ·rw [if_pos h0];exact ⟨fun x hx => by simp at hx,by simp [h0]⟩
 ·rw [if_neg h0] at h ⊢
  by_cases h1 : l.length < 64
  ·rw [if_pos h1] at h;cases h
  ·rw [if_neg h1] at h ⊢
   have hb:=bnum_lt (l.take 64)
   have hl : (l.take 64).length = 64:=by rw [List.length_take];omega
   rw [hl,p64] at hb
   obtain ⟨h2,h3⟩:=gDA_ok (n - 1) _ _ _ _ (fun y hy => by simp at hy;omega) hb Win.none h
   exact ⟨h2,by rw [h3];simp;omega⟩
end Go.Proofs.YthapipgaohlgdaaGreatDoor


namespace Go.Proofs.YthapipgaohlgdaaGreatDoor
open Go.RowKit
def ENC9 (l : List Int) : List Int × Int:=if 65536 < l.length then ([],4) else (bytesI (GB l),0)
def DEC9 (b : List Int) (n : Int) : List Int × Int :=
 if n < 0 ∨ 65536 < n then ([],1) else
 if (gRd (allBits b) n.toNat).2 ≠ 0 then ([],(gRd (allBits b) n.toNat).2) else
 if (ENC9 (gRd (allBits b) n.toNat).1).1 = b then ((gRd (allBits b) n.toNat).1,0) else ([],3)
theorem ENC9_of {l : List Int} (hl : l.length ≤ 65536) : ENC9 l = (bytesI (GB l),0):=if_neg (by omega)
theorem ENC9_rng (l : List Int) : ∀ y ∈ (ENC9 l).1,0 ≤ y ∧ y ≤ 255:=by
 unfold ENC9
 by_cases h : 65536 < l.length
 ·rw [if_pos h];intro y hy;simp at hy
 ·rw [if_neg h];exact bytesI_rng _
theorem gx_len (x : Nat) {wn : Option (Nat × Nat)} : (gx x wn).1.length ≤ 77 ∧ 1 ≤ (gx x wn).1.length:=by
 have hn : ∀ x,(newW x).length ≤ 77 ∧ 1 ≤ (newW x).length:=fun x => by
  unfold newW
  simp only [List.length_cons,List.length_append,bitsOf_length]
  omega
 unfold gx
 by_cases h0 : x = 0
 ·rw [if_pos h0];exact ⟨by simp,by simp⟩
 ·rw [if_neg h0]
  cases wn with
  | none => exact hn x
  | some p =>
   obtain ⟨a,z⟩:=p
   simp only
   by_cases hf : fitsW x a z
   ·rw [if_pos hf]
    simp only [List.length_cons,bitsOf_length]
    omega
   ·rw [if_neg hf];exact hn x
theorem gE_len (l : List Int) : ∀ (p : Nat) (wn : Option (Nat × Nat)),(gE p wn l).length ≤ 77 * l.length ∧ l.length ≤ (gE p wn l).length:=by
 induction l with
 | nil => intro p wn;simp [gE]
 | cons y t ih =>
  intro p wn
  rw [gE,List.length_append,List.length_cons]
  have h1:=gx_len (p ^^^ y.toNat) (wn:=wn)
  have h2:=ih y.toNat (gx (p ^^^ y.toNat) wn).2
  omega
theorem GB_len (l : List Int) : (GB l).length ≤ 77 * l.length ∧ l.length ≤ (GB l).length:=by
 cases l with
 | nil => simp [GB]
 | cons y t =>
  have h:=gE_len t y.toNat none
  unfold GB
  rw [List.length_append,bitsOf_length,List.length_cons]
  omega
theorem DEC9_ENC9 {l : List Int} (hu : U64 l) (hl : l.length ≤ 65536) : DEC9 (ENC9 l).1 l.length = (l,0):=by
 have e : gRd (allBits (ENC9 l).1) l.length = (l,0):=by
  rw [ENC9_of hl]
  simp only [bits_back]
  exact gRd_GB hu _
 unfold DEC9
 rw [if_neg (by omega),Int.toNat_natCast,e]
 simp
theorem DEC9_ok {b : List Int} {n : Int} (h : (DEC9 b n).2 = 0) : 0 ≤ n ∧ n ≤ 65536 ∧ ((DEC9 b n).1.length : Int) = n ∧ U64 (DEC9 b n).1 ∧ ENC9 (DEC9 b n).1 = (b,0):=by
 unfold DEC9 at *
 by_cases hn : n < 0 ∨ 65536 < n
 ·rw [if_pos hn] at h;cases h
 ·rw [if_neg hn] at h ⊢
  by_cases hR : (gRd (allBits b) n.toNat).2 ≠ 0
  ·rw [if_pos hR] at h;exact absurd h hR
  ·rw [if_neg hR] at h ⊢
   by_cases hE : (ENC9 (gRd (allBits b) n.toNat).1).1 = b
   ·rw [if_pos hE]
    obtain ⟨h1,h2⟩:=gRd_ok (l:=allBits b) (n:=n.toNat) (by simpa using hR)
    refine ⟨by omega,by omega,by simp only [h2];omega,h1,?_⟩
    have h3:=ENC9_of (l:=(gRd (allBits b) n.toNat).1) (by rw [h2];omega)
    rw [h3] at hE ⊢
    simp only at hE
    simp only [hE]
   ·rw [if_neg hE] at h;cases h
theorem DEC9_err {b : List Int} {n : Int} (h : (DEC9 b n).2 ≠ 0) : (DEC9 b n).1 = []:=by
 unfold DEC9 at *
 by_cases hn : n < 0 ∨ 65536 < n
 ·rw [if_pos hn]
 ·rw [if_neg hn] at h ⊢
  by_cases hR : (gRd (allBits b) n.toNat).2 ≠ 0
  ·rw [if_pos hR]
  ·rw [if_neg hR] at h ⊢
   by_cases hE : (ENC9 (gRd (allBits b) n.toNat).1).1 = b
   ·rw [if_pos hE] at h;exact absurd rfl h
   ·rw [if_neg hE]
end Go.Proofs.YthapipgaohlgdaaGreatDoor


namespace Go.Proofs.YthapipgaohlgdaaGreatDoor
open Go.RowKit
def Tab (w : World) : Prop:=∀ j,j < 64 → w.cell? ⟨0,j,none⟩ = some (.int .u8 ((Lib.deBruijn64tab.getD j 0 : Nat) : Int))
theorem Tab.pos {w : World} (h : Tab w) : 0 < w.heap.size:=by
 rcases Nat.eq_zero_or_pos w.heap.size with e | e
 ·have:=h 0 (by omega)
  have e2 : w.heap[0]? = none:=Array.getElem?_eq_none (by omega)
  simp [World.cell?,e2] at this
 ·exact e
theorem Tab.keep {w w' : World} (h : Tab w) {S : Nat → Prop} (o : Only S w w') (hs : ¬ S 0) : Tab w':=by
 intro j hj
 have e:=o.block 0 h.pos hs
 have:=h j hj
 simpa [World.cell?,e] using this
theorem Tab.past {w w' : World} (h : Tab w) (o : Only (fun _ => False) w w') : Tab w':=h.keep o (fun f => f)
theorem Tab.below {w w' : World} {N : Nat} (h : Tab w) (o : Below N w w') (hN : 0 < N) : Tab w':=by
 intro j hj
 have e:=o.block 0 hN
 have:=h j hj
 simpa [World.cell?,e] using this
theorem ctz_tz : ∀ (f x : Nat),Lib.ctzFrom f x = tzF f x
 | 0,_ => rfl
 | f + 1,x => by
  rw [Lib.ctzFrom,tzF]
  by_cases h : x % 2 = 1
  ·rw [if_pos h,if_neg (by omega)]
  ·rw [if_neg h,if_pos (by omega),ctz_tz f (x / 2)];omega
theorem low_bit {x : Nat} (h0 : 0 < x) (hx : x < 18446744073709551616) : x &&& (18446744073709551616 - x) = 2 ^ tz x ∧ tz x < 64:=by
 have h:=Lib.lowest_bit 64 x (by omega) (by rw [p64];exact hx)
 have e : Lib.ctz 64 x = tz x:=by unfold Lib.ctz tz;rw [if_neg (by omega),ctz_tz]
 rw [e,p64] at h
 exact h
theorem tz_key {n a : Nat} (hn : n < 18446744073709551616) (h0 : 0 < n) (hlow : n &&& (18446744073709551616 - n) = a) :
  IntKind.u64.wrap (bits BinOp.and IntKind.u64 (n : Int) (IntKind.u64.wrap (-(n : Int))) * 285870213051353865) / 288230376151711744 = ((a * 285870213051353865 % 18446744073709551616 / 288230376151711744 : Nat) : Int):=by
 have e1 : IntKind.u64.wrap (-(n : Int)) = ((18446744073709551616 - n : Nat) : Int):=by rw [IntKind.wrap_u64];omega
 rw [e1,bits_and_u64_nat n _ hn (by omega),hlow,IntKind.wrap_u64]
 omega
set_option maxHeartbeats 1000000 in
theorem tz_core (n k i : Nat) (w : World) (hne : ((n : Int) == 0) = false)
  (key : IntKind.u64.wrap (bits BinOp.and IntKind.u64 (n : Int) (IntKind.u64.wrap (-(n : Int))) * 285870213051353865) / 288230376151711744 = (i : Int))
  (hi : i < 64) (hk : k < 64) (hc : w.cell? ⟨0,i,none⟩ = some (.int .u8 k)) :
  Calls Tryz.prog 184 #[.int .u64 n] w fun e w' => e = .returned (.int .i64 k) ∧ w = w':=by
 go_enter Tryz.func184,Tryz.ntmps184
 go_wp2_with (simp only [key])
 go_ret
 exact ⟨rfl,rfl⟩
theorem tz_any (x : Int) (w : World) (h0 : 0 < x) (hx : x ≤ 18446744073709551615) (hT : Tab w) :
  Calls Tryz.prog 184 #[.int .u64 x] w fun e w' => e = .returned (.int .i64 (tz x.toNat : Int)) ∧ w = w':=by
 obtain ⟨n,rfl⟩:=Int.eq_ofNat_of_zero_le (show 0 ≤ x by omega)
 rw [Int.toNat_natCast]
 obtain ⟨h1,hk⟩:=low_bit (x:=n) (by omega) (by omega)
 generalize tz n = k at *
 obtain ⟨hi,ht⟩:=Lib.deBruijn64_at k hk
 have hc:=hT _ hi
 rw [ht] at hc
 have key:=tz_key (by omega) (by omega) h1
 exact tz_core n k _ w (by rw [beq_eq_false_iff_ne];omega) key hi hk hc
theorem Tryz.sizeWin : (Tryz.prog.info? 148).map (·.size) = some 2:=by kernel_rfl
set_option maxHeartbeats 1000000 in
theorem isNone_yes (w : World) :
  Calls Tryz.prog 168 #[.agg #[.int .i64 0,.int .i64 0]] w fun e w' => e = .returned (.bool true) ∧ Only (fun _ => False) w w':=by
 go_enter Tryz.func168,Tryz.ntmps168
 go_wp2
 go_ret
 exact ⟨rfl,(Only.refl _ _).alloc _⟩
set_option maxHeartbeats 1000000 in
theorem isNone_no (a d : Nat) (w : World) (hd : ¬ d = 0) :
  Calls Tryz.prog 168 #[.agg #[.int .i64 a,.int .i64 d]] w fun e w' => e = .returned (.bool false) ∧ Only (fun _ => False) w w':=by
 go_enter Tryz.func168,Tryz.ntmps168
 go_wp2
 all_goals go_ret
 all_goals exact ⟨rfl,(Only.refl _ _).alloc _⟩
set_option maxHeartbeats 1000000 in
theorem trail_any (a d : Nat) (w : World) (ha : a ≤ 64) (hd : d ≤ 64) :
  Calls Tryz.prog 171 #[.agg #[.int .i64 a,.int .i64 d]] w fun e w' => e = .returned (.int .i64 (64 - (a : Int) - d)) ∧ Only (fun _ => False) w w':=by
 go_enter Tryz.func171,Tryz.ntmps171
 go_wp2
 go_ret
 exact ⟨rfl,(Only.refl _ _).alloc _⟩
set_option maxHeartbeats 1000000 in
theorem windowOf_any (x : Int) (w : World) (h0 : 0 < x) (hx : x ≤ 18446744073709551615) (hT : Tab w) :
  Calls Tryz.prog 170 #[.int .u64 x] w fun e w' => e = .returned (.agg #[.int .i64 (ldz x.toNat : Int),.int .i64 ((64 - ldz x.toNat - tz x.toNat : Nat) : Int)]) ∧ Only (fun _ => False) w w':=by
 obtain ⟨hn1,hn2,hn3⟩:=win_new (x:=x.toNat) (by omega) (by omega)
 have hw:=wid_le64 x.toNat (by omega)
 have T1:=hideIt (hT.past ((Only.refl (fun _ => False) w).alloc (.cells #[.int .i64 0,.int .i64 0] 148)))
 have W1:=hideIt (width_any x (w.alloc (.cells #[.int .i64 0,.int .i64 0] 148)) (by omega) hx)
 have Z1:=hideIt (tz_any x (w.alloc (.cells #[.int .i64 0,.int .i64 0] 148)) h0 hx T1.out)
 have hld : Hid (ldz x.toNat = min (64 - wid x.toNat) 31):=rfl
 generalize wid x.toNat = q at *
 generalize tz x.toNat = z at *
 generalize ldz x.toNat = a at *
 go_enter Tryz.func170,Tryz.ntmps170
 go_wp2_with fail
 refine W1.out.mono ?_
 rintro e w1 ⟨rfl,rfl⟩
 go_wp2_with fail
 all_goals
  refine Z1.out.mono ?_
  rintro e w1 ⟨rfl,rfl⟩
  go_wp2
  refine bodyPost_ret (results_cell_row rfl _ _ w.heap.size 148 _ (0,0) _ rfl (heap_alloc_last w _) Tryz.underlying148 rfl Tryz.sizeWin) rfl ⟨?_,(Only.refl _ _).alloc _⟩
  have hl:=hld.out
 ·obtain rfl : a = 31:=by omega
  have e1 : ((64 - 31 - z : Nat) : Int) = 33 - (z : Int):=by omega
  rw [e1];rfl
 ·have e0 : (64 : Int) - (q : Int) = (a : Int):=by omega
  have e1 : ((64 - a - z : Nat) : Int) = 64 - (a : Int) - (z : Int):=by omega
  rw [e0,e1]
end Go.Proofs.YthapipgaohlgdaaGreatDoor


namespace Go.Proofs.YthapipgaohlgdaaGreatDoor
open Go.RowKit
abbrev laid1 : List (String × DataW Unit):=[("math/bits.deBruijn64tab",Rows.laid_math_bits_deBruijn64tab)]
theorem gTab : Tryz.prog.globalNamed "math/bits.deBruijn64tab" = some 0:=by kernel_rfl
theorem gTabType : (Tryz.prog.globals[0]?).map (·.type) = some 181:=by kernel_rfl
theorem cellsB : Tryz.prog.cellsOf 5 = 1:=by kernel_rfl
theorem cellsTab : Tryz.prog.cellsOf 181 = 64:=by kernel_rfl
theorem laid_tab : (Rows.laid_math_bits_deBruijn64tab : DataW Unit) = Lib.tabData .u8 (Lib.deBruijn64tab.map fun n : Nat => (n : Int)):=by kernel_rfl
theorem tab_of_laid {W : World} (h : laidMetH Tryz.prog laid1 W) : Tab W:=by
 rw [MakeChecks.laidMetH_plain _ _ _ (by kernel_rfl)] at h
 unfold laid1 at h
 rw [laid_tab] at h
 have hT:=Lib.tabIs_of_head gTab gTabType Tryz.underlying181 Tryz.underlying5 cellsB cellsTab h
 intro j hj
 have hl : (Lib.deBruijn64tab.map fun n : Nat => (n : Int)).length = 64:=by rw [List.length_map];decide
 have hc:=hT.cell gTab j (by omega)
 rw [hc]
 have e : (Lib.deBruijn64tab.map fun n : Nat => (n : Int)).getD j 0 = ((Lib.deBruijn64tab.getD j 0 : Nat) : Int):=by
  rw [List.getD_eq_getElem?_getD,List.getD_eq_getElem?_getD,List.getElem?_map]
  cases Lib.deBruijn64tab[j]? <;> rfl
 rw [e]
theorem door_met (os : Os) (args : Array Value) : laidMetH Tryz.prog laid1 ((World.doorLaid Tryz.prog 400 os).forCall (fun _ _ => 0) ⟨#[],args,[]⟩).memory :=
 laidMetH_of_parts3 (fuel:=8) (laidMet_of_run' 8 (by kernel_rfl) (by kernel_rfl)) (by kernel_rfl) (by kernel_rfl)
end Go.Proofs.YthapipgaohlgdaaGreatDoor


namespace Go.Proofs.YthapipgaohlgdaaGreatDoor
def runR : Int → Nat → List Int → List Int
 | v,k,[] => gs v.toNat ++ gs k
 | v,k,x :: t => if x = v then runR v (k + 1) t else gs v.toNat ++ gs k ++ runR x 0 t
def runE : List Int → List Int
 | [] => []
 | x :: t => runR x 0 t
def Apart1 (v : Int) (t : List Int) : Prop:=∀ x r,t = x :: r → x ≠ v
theorem apart_nil (v : Int) : Apart1 v []:=fun x r h => by cases h
theorem runR_rep (v : Int) (i : Nat) : ∀ (k : Nat) (r : List Int),runR v k (List.replicate i v ++ r) = runR v (k + i) r:=by
 induction i with
 | zero => intro k r;rfl
 | succ i ih =>
  intro k r
  rw [List.replicate_succ,List.cons_append,runR,if_pos rfl,ih,Nat.add_assoc,Nat.add_comm 1 i]
theorem runR_end {v : Int} {t : List Int} (h : Apart1 v t) (k : Nat) : runR v k t = gs v.toNat ++ gs k ++ runE t:=by
 cases t with
 | nil => simp [runR,runE]
 | cons x r => rw [runR,if_neg (h x r rfl),runE]
theorem runE_first {v : Int} {t : List Int} (h : Apart1 v t) (m : Nat) : runE (List.replicate (m + 1) v ++ t) = gs v.toNat ++ gs m ++ runE t:=by
 rw [List.replicate_succ,List.cons_append,runE,runR_rep,Nat.zero_add,runR_end h]
theorem run_split : ∀ (l : List Int),l ≠ [] → ∃ v m t,l = List.replicate (m + 1) v ++ t ∧ Apart1 v t
 | [],h => absurd rfl h
 | [x],_ => ⟨x,0,[],rfl,apart_nil x⟩
 | x :: y :: t,_ => by
  obtain ⟨v,m,t',e,ha⟩:=run_split (y :: t) (by simp)
  by_cases h : x = v
  ·exact ⟨v,m + 1,t',by rw [h,e,List.replicate_succ (n:=m + 1)];rfl,ha⟩
  ·refine ⟨x,0,y :: t,rfl,fun a r e2 => ?_⟩
   have : y = v:=by
    rw [List.replicate_succ] at e
    simp at e
    exact e.1
   simp at e2
   rw [← e2.1,this]
   exact fun h2 => h h2.symm
theorem run_ind {P : List Int → Prop} (h0 : P []) (h1 : ∀ v m t,Apart1 v t → P t → P (List.replicate (m + 1) v ++ t)) (l : List Int) : P l:=by
 induction hn : l.length using Nat.strongRecOn generalizing l with
 | _ n ih =>
  by_cases hl : l = []
  ·subst hl;exact h0
  ·obtain ⟨v,m,t,rfl,ha⟩:=run_split l hl
   refine h1 v m t ha (ih t.length ?_ t rfl)
   rw [← hn,List.length_append,List.length_replicate]
   omega
theorem U64.tail {v : Int} {m : Nat} {t : List Int} (h : U64 (List.replicate (m + 1) v ++ t)) : U64 t:=fun x hx => h x (by simp [hx])
theorem U64.head {v : Int} {m : Nat} {t : List Int} (h : U64 (List.replicate (m + 1) v ++ t)) : 0 ≤ v ∧ v ≤ 18446744073709551615:=h v (by simp)
theorem runE_range (l : List Int) : ∀ y ∈ runE l,0 ≤ y ∧ y ≤ 255:=by
 induction l using run_ind with
 | h0 => intro y hy;cases hy
 | h1 v m t ha ih =>
  rw [runE_first ha]
  intro y hy
  rcases List.mem_append.1 hy with hy | hy
  ·rcases List.mem_append.1 hy with hy | hy
   ·exact gs_range _ y hy
   ·exact gs_range _ y hy
  ·exact ih y hy
theorem runE_len (l : List Int) : U64 l → l.length < 18446744073709551616 → (runE l).length ≤ 20 * l.length:=by
 induction l using run_ind with
 | h0 => intro _ _;simp [runE]
 | h1 v m t ha ih =>
  intro hu hl
  rw [List.length_append,List.length_replicate] at hl
  have hv:=hu.head
  have h1:=gs_le10 (v:=v.toNat) (by omega)
  have h2:=gs_le10 (v:=m) (by omega)
  have h3:=ih hu.tail (by omega)
  rw [runE_first ha,List.length_append,List.length_append,List.length_append,List.length_replicate]
  omega
theorem runE_rep (v : Int) (m : Nat) : runE (List.replicate (m + 1) v) = gs v.toNat ++ gs m:=by
 have:=runE_first (apart_nil v) m
 rw [List.append_nil] at this
 rw [this]
 simp [runE]
theorem runE_step {l : List Int} {i : Nat} (h0 : 0 < i) (hi : i < l.length) (hs : ∀ j,j < i → l.getD j 0 = l.getD 0 0) (hd : l.getD i 0 ≠ l.getD 0 0) : runE l = gs (l.getD 0 0).toNat ++ gs (i - 1) ++ runE (l.drop i):=by
 have e : l = List.replicate (i - 1 + 1) (l.getD 0 0) ++ l.drop i:=by
  have ht : l.take i = List.replicate (i - 1 + 1) (l.getD 0 0):=by
   apply List.ext_getElem
   ·rw [List.length_take,List.length_replicate];omega
   ·intro j h1 h2
    rw [List.length_take] at h1
    have:=hs j (by omega)
    rw [List.getElem_take,List.getElem_replicate,← this,List.getD_eq_getElem?_getD,List.getElem?_eq_getElem (by omega)]
    rfl
  rw [← ht,List.take_append_drop]
 have ha : Apart1 (l.getD 0 0) (l.drop i):=by
  intro x r e2
  have:=List.drop_eq_getElem_cons hi
  rw [this] at e2
  injection e2 with e3 _
  rw [← e3]
  rw [List.getD_eq_getElem?_getD,List.getElem?_eq_getElem hi] at hd
  exact hd
 have key:=runE_first ha (i - 1)
 rw [← e] at key
 exact key
theorem runE_all {l : List Int} (h0 : 0 < l.length) (hs : ∀ j,j < l.length → l.getD j 0 = l.getD 0 0) : runE l = gs (l.getD 0 0).toNat ++ gs (l.length - 1):=by
 have e : l = List.replicate (l.length - 1 + 1) (l.getD 0 0):=by
  apply List.ext_getElem
  ·rw [List.length_replicate];omega
  ·intro j h1 h2
   have:=hs j h1
   rw [List.getElem_replicate,← this,List.getD_eq_getElem?_getD,List.getElem?_eq_getElem h1]
   rfl
 have key:=runE_rep (l.getD 0 0) (l.length - 1)
 rw [← e] at key
 exact key
theorem sVarint_cases {ys : List Int} (hr : ∀ y ∈ ys,0 ≤ y ∧ y ≤ 255) : (∃ c,sVarint ys = (0,0,c) ∧ (c = 2 ∨ c = 3)) ∨ (∃ a k : Nat,sVarint ys = ((a : Int),k,0) ∧ 1 ≤ k ∧ k ≤ ys.length ∧ a < 18446744073709551616 ∧ ys = gs a ++ ys.drop k):=by
 rcases rd_cases ys hr with ⟨c,h,hc⟩ | ⟨a,k,h,h1,h2,_,h4,h5⟩
 ·exact .inl ⟨c,by rw [sVarint,h];rfl,hc⟩
 ·exact .inr ⟨a,k,by rw [sVarint,h];rfl,h1,h2,h4,by rw [h5,List.take_append_drop]⟩
theorem sVarint_short (v k : Nat) (h : v < 18446744073709551616) (hk : k < (gs v).length) : sVarint ((gs v).take k) = (0,0,2):=by
 have:=rd_short v 0 k 0 (by omega) (by simpa using h) hk
 rw [sVarint,this]
 rfl
def runOn (acc : List Int) (v : Int) : Bool:=decide (0 < acc.length) && (acc.getD (acc.length - 1) 0 == v)
def runD : Nat → List Int → List Int → Nat → List Int × Int
 | 0,_,_,_ => ([],3)
 | f + 1,acc,ys,n =>
  if acc.length < n then
   if (sVarint ys).2.2 ≠ 0 then ([],(sVarint ys).2.2)
   else if (sVarint (ys.drop (sVarint ys).2.1)).2.2 ≠ 0 then ([],(sVarint (ys.drop (sVarint ys).2.1)).2.2)
   else if n - acc.length ≤ (sVarint (ys.drop (sVarint ys).2.1)).1.toNat ∨ runOn acc (sVarint ys).1 = true then ([],3)
   else runD f (acc ++ List.replicate ((sVarint (ys.drop (sVarint ys).2.1)).1.toNat + 1) (sVarint ys).1) ((ys.drop (sVarint ys).2.1).drop (sVarint (ys.drop (sVarint ys).2.1)).2.1) n
  else if 0 < ys.length then ([],3) else (acc,0)
def runDec (ys : List Int) (n : Nat) : List Int × Int:=runD (n + 1) [] ys n
theorem runD_done {f : Nat} {acc ys : List Int} {n : Nat} (h : ¬ acc.length < n) (hf : 0 < f) : runD f acc ys n = if 0 < ys.length then ([],3) else (acc,0):=by
 obtain ⟨g,rfl⟩ : ∃ g,f = g + 1:=⟨f - 1,by omega⟩
 rw [runD,if_neg h]
theorem runD_err1 {f : Nat} {acc ys : List Int} {n : Nat} {a : Int} {k : Nat} {c : Int} (h : acc.length < n) (hf : 0 < f) (hs : sVarint ys = (a,k,c)) (hc : c ≠ 0) : runD f acc ys n = ([],c):=by
 obtain ⟨g,rfl⟩ : ∃ g,f = g + 1:=⟨f - 1,by omega⟩
 rw [runD,if_pos h,hs,if_pos hc]
theorem runD_err2 {f : Nat} {acc ys : List Int} {n : Nat} {a b : Int} {k j : Nat} {c : Int} (h : acc.length < n) (hf : 0 < f) (hs : sVarint ys = (a,k,0)) (hs2 : sVarint (ys.drop k) = (b,j,c)) (hc : c ≠ 0) : runD f acc ys n = ([],c):=by
 obtain ⟨g,rfl⟩ : ∃ g,f = g + 1:=⟨f - 1,by omega⟩
 rw [runD,if_pos h,hs]
 simp only
 rw [hs2,if_neg (by simp),if_pos hc]
theorem runD_err3 {f : Nat} {acc ys : List Int} {n : Nat} {a : Int} {m k j : Nat} (h : acc.length < n) (hf : 0 < f) (hs : sVarint ys = (a,k,0)) (hs2 : sVarint (ys.drop k) = ((m : Int),j,0)) (hm : n - acc.length ≤ m ∨ runOn acc a = true) : runD f acc ys n = ([],3):=by
 obtain ⟨g,rfl⟩ : ∃ g,f = g + 1:=⟨f - 1,by omega⟩
 rw [runD,if_pos h,hs]
 simp only
 rw [hs2,if_neg (by simp)]
 simp only
 rw [if_neg (by simp),if_pos (by simpa using hm)]
theorem runD_next {f : Nat} {acc ys : List Int} {n : Nat} {a : Int} {m k j : Nat} (h : acc.length < n) (hf : 0 < f) (hs : sVarint ys = (a,k,0)) (hs2 : sVarint (ys.drop k) = ((m : Int),j,0)) (hm : m < n - acc.length) (ho : runOn acc a = false) :
  runD f acc ys n = runD (f - 1) (acc ++ List.replicate (m + 1) a) ((ys.drop k).drop j) n:=by
 obtain ⟨g,rfl⟩ : ∃ g,f = g + 1:=⟨f - 1,by omega⟩
 rw [runD,if_pos h,hs]
 simp only
 rw [hs2,if_neg (by simp)]
 simp only
 rw [if_neg (by simp),if_neg (by rw [ho];simp;omega)]
 simp
def Joins (acc t : List Int) : Prop:=∀ x r,t = x :: r → runOn acc x = false
theorem runOn_rep (acc : List Int) (v x : Int) (m : Nat) : runOn (acc ++ List.replicate (m + 1) v) x = (v == x):=by
 unfold runOn
 rw [List.length_append,List.length_replicate,decide_eq_true (by omega),Bool.true_and,List.getD_eq_getElem?_getD,List.getElem?_append_right (by omega)]
 rw [List.getElem?_replicate,if_pos (by omega)]
 rfl
theorem joins_rep {acc : List Int} {v : Int} {m : Nat} {t : List Int} : Joins (acc ++ List.replicate (m + 1) v) t ↔ Apart1 v t:=by
 constructor
 ·intro h x r e
  have:=h x r e
  rw [runOn_rep] at this
  simp at this
  exact fun e2 => this e2.symm
 ·intro h x r e
  rw [runOn_rep]
  have:=h x r e
  simp
  exact fun e2 => this e2.symm
theorem joins_nil (t : List Int) : Joins [] t:=fun _ _ _ => rfl
theorem runD_only (f : Nat) : ∀ (acc ys : List Int) (n : Nat),(∀ y ∈ ys,0 ≤ y ∧ y ≤ 255) → n - acc.length < f → acc.length ≤ n →
  (∃ c,runD f acc ys n = ([],c) ∧ (c = 2 ∨ c = 3)) ∨ (∃ t,runD f acc ys n = (acc ++ t,0) ∧ acc.length + t.length = n ∧ ys = runE t ∧ U64 t ∧ Joins acc t):=by
 induction f with
 | zero => intro acc ys n _ h;omega
 | succ f ih =>
  intro acc ys n hr hf hn
  by_cases h : acc.length < n
  ·rcases sVarint_cases hr with ⟨c,hs,hc⟩ | ⟨a,k,hs,k1,k2,ha,e1⟩
   ·exact .inl ⟨c,runD_err1 h (by omega) hs (by omega),hc⟩
   ·have hr2 : ∀ y ∈ ys.drop k,0 ≤ y ∧ y ≤ 255:=fun y hy => hr y (List.mem_of_mem_drop hy)
    rcases sVarint_cases hr2 with ⟨c,hs2,hc⟩ | ⟨m,j,hs2,j1,j2,hm,e2⟩
    ·exact .inl ⟨c,runD_err2 h (by omega) hs hs2 (by omega),hc⟩
    ·by_cases hb : n - acc.length ≤ m ∨ runOn acc (a : Int) = true
     ·exact .inl ⟨3,runD_err3 h (by omega) hs hs2 hb,.inr rfl⟩
     ·have ho : runOn acc (a : Int) = false:=by
       cases h3 : runOn acc (a : Int) with
       | false => rfl
       | true => exact absurd (.inr h3) hb
      rw [runD_next h (by omega) hs hs2 (by omega) ho]
      have hl : (acc ++ List.replicate (m + 1) (a : Int)).length = acc.length + (m + 1):=by rw [List.length_append,List.length_replicate]
      rcases ih (acc ++ List.replicate (m + 1) (a : Int)) ((ys.drop k).drop j) n (fun y hy => hr2 y (List.mem_of_mem_drop hy)) (by rw [hl];omega) (by rw [hl];omega) with ⟨c,h1,h2⟩ | ⟨t,h1,h2,h3,h4,h5⟩
      ·exact .inl ⟨c,by simpa using h1,h2⟩
      ·refine .inr ⟨List.replicate (m + 1) (a : Int) ++ t,by rw [← List.append_assoc];simpa using h1,by rw [List.length_append,List.length_replicate];omega,?_,?_,?_⟩
       ·rw [runE_first (joins_rep.1 h5),Int.toNat_natCast,← h3,List.append_assoc,← e2,← e1]
       ·intro x hx
        rcases List.mem_append.1 hx with hx | hx
        ·have:=List.eq_of_mem_replicate hx
         omega
        ·exact h4 x hx
       ·intro x r e
        rw [List.replicate_succ] at e
        simp at e
        rw [← e.1]
        exact ho
  ·rw [runD_done h (by omega)]
   by_cases hy : 0 < ys.length
   ·rw [if_pos hy];exact .inl ⟨3,rfl,.inr rfl⟩
   ·rw [if_neg hy]
    have : ys = []:=List.eq_nil_of_length_eq_zero (by omega)
    subst this
    exact .inr ⟨[],by rw [List.append_nil],by simp;omega,rfl,(fun x hx => by cases hx),(fun x r e => by cases e)⟩
theorem runD_enc (t : List Int) : ∀ (f : Nat) (acc z : List Int) (n : Nat),U64 t → n < 18446744073709551616 → acc.length + t.length = n → t.length < f → Joins acc t →
  runD f acc (runE t ++ z) n = if 0 < z.length then ([],3) else (acc ++ t,0):=by
 induction t using run_ind with
 | h0 =>
  intro f acc z n _ _ hn hf _
  simp at hn
  rw [runE,List.nil_append,runD_done (by omega) (by simpa using hf),List.append_nil]
 | h1 v m t ha ih =>
  intro f acc z n hu h64 hn hf hj
  rw [List.length_append,List.length_replicate] at hn hf
  have hv:=hu.head
  obtain ⟨a,rfl⟩:=Int.eq_ofNat_of_zero_le hv.1
  rw [runE_first ha,Int.toNat_natCast]
  have e1 : gs a ++ gs m ++ runE t ++ z = gs a ++ (gs m ++ (runE t ++ z)):=by simp
  rw [e1]
  have hs:=sVarint_gs a (gs m ++ (runE t ++ z)) (by omega)
  have ed : (gs a ++ (gs m ++ (runE t ++ z))).drop (gs a).length = gs m ++ (runE t ++ z):=by simp
  have hs2:=sVarint_gs m (runE t ++ z) (by omega)
  rw [← ed] at hs2
  rw [runD_next (by omega) (by omega) hs hs2 (by omega) (hj a (List.replicate m (a : Int) ++ t) (by rw [List.replicate_succ];rfl)),ed]
  have ed2 : (gs m ++ (runE t ++ z)).drop (gs m).length = runE t ++ z:=by simp
  rw [ed2,ih (f - 1) (acc ++ List.replicate (m + 1) (a : Int)) z n hu.tail h64 (by rw [List.length_append,List.length_replicate];omega) (by omega) (joins_rep.2 ha),List.append_assoc]
def ends (l : List Int) : Nat:=l.countP fun y => decide (y < 128)
def opens : Int → List Int → Nat
 | _,[] => 0
 | v,x :: t => (if x = v then 0 else 1) + opens x t
end Go.Proofs.YthapipgaohlgdaaGreatDoor


namespace Go.Proofs.YthapipgaohlgdaaGreatDoor
set_option maxRecDepth 100000
open Go.RowKit
def fixB (v : Int) (i : Nat) : Int:=v / 2 ^ (8 * i) % 256
def fixAt (v : Int) (n k : Nat) : List Int:=(List.range n).map fun j => if n ≤ j + k then fixB v (n - 1 - j) else 0
def fixL (v : Int) (n : Nat) : List Int:=(List.range n).map fun j => fixB v (n - 1 - j)
theorem fixAt_len (v : Int) (n k : Nat) : (fixAt v n k).length = n:=by simp [fixAt]
theorem fixL_len (v : Int) (n : Nat) : (fixL v n).length = n:=by simp [fixL]
theorem fixAt_zero (v : Int) (n : Nat) : (fixAt v n 0).map (Value.int .u8) = (madeCells #[Value.int .u8 0] (n * 1)).toList:=by
 apply List.ext_getElem?
 intro i
 by_cases h : i < n
 ·simp [fixAt,madeCells,h,Nat.mod_one]
  omega
 ·simp [fixAt,madeCells,h]
theorem fixAt_all (v : Int) (n : Nat) : fixAt v n n = fixL v n:=by
 unfold fixAt fixL
 apply List.map_congr_left
 intro j _
 rw [if_pos (by omega)]
theorem fixAt_step (v : Int) (n k : Nat) (h : k < n) : (fixAt v n k).set (n - 1 - k) (fixB v k) = fixAt v n (k + 1):=by
 apply List.ext_getElem?
 intro i
 rw [List.getElem?_set,fixAt_len]
 by_cases hi : i < n
 ·by_cases he : n - 1 - k = i
  ·subst he
   rw [if_pos rfl,if_pos hi]
   simp only [fixAt,List.getElem?_map,List.getElem?_range hi,Option.map_some]
   rw [if_pos (by omega),show n - 1 - (n - 1 - k) = k by omega]
  ·rw [if_neg he]
   simp only [fixAt,List.getElem?_map,List.getElem?_range hi,Option.map_some]
   by_cases h1 : n ≤ i + k
   ·rw [if_pos h1,if_pos (by omega)]
   ·rw [if_neg h1,if_neg (by omega)]
 ·rw [if_neg (by omega),List.getElem?_eq_none (by rw [fixAt_len];omega),List.getElem?_eq_none (by rw [fixAt_len];omega)]
theorem fixB_range (v : Int) (i : Nat) : 0 ≤ fixB v i ∧ fixB v i ≤ 255:=by unfold fixB;omega
theorem fixL_range (v : Int) (n : Nat) : ∀ y ∈ fixL v n,0 ≤ y ∧ y ≤ 255:=by
 intro y hy
 simp only [fixL,List.mem_map] at hy
 obtain ⟨j,_,rfl⟩:=hy
 exact fixB_range _ _
set_option maxHeartbeats 400000 in
theorem fix_any (v : Int) (n : Nat) (w : World) (h : n ≤ 8) :
  Calls Tryz.prog 96 #[.int .u64 v,.int .i64 n] w fun e w' => ∃ u,e = .returned u ∧ w'.ownsRow w.heap.size 5 1 u (fixL v n).length ((fixL v n).map (Value.int .u8)) ∧ Only (fun _ => False) w w':=by
 obtain ⟨i0,hi,hz0,hz1,hz2⟩:=info_parts Tryz.infoU8
 obtain ⟨wm,hmk,hown0,hgr⟩:=run_make_full (P:=Tryz.prog) w w.heap.size 26 5 i0 (.int .u8 0) 1 Tryz.underlying26 hi hz0 hz1 .i64 .i64 n (by rw [hz2];omega) (by unfold maxLen;omega) (Nat.le_refl _)
 have START : Hid (wm.ownsRow w.heap.size 5 1 (.slice (some ⟨w.heap.size,0,none⟩) n n) n ((fixAt v n 0).map (Value.int .u8)) ∧ Only (fun _ => False) w wm):=by
  rw [show (Value.int .u8 0).cells = #[Value.int .u8 0] from rfl] at hown0
  rw [fixAt_zero]
  exact ⟨hown0,(Only.refl _ _).grown hgr (fun _ _ e => by cases e)⟩
 clear hown0 hgr
 have d0 : decide ((n : Int) < 0) = false:=by simp
 have d8 : decide (8 < (n : Int)) = false:=decide_eq_false (by omega)
 obtain ⟨N,hN⟩ : ∃ N,N = w.heap.size:=⟨_,rfl⟩
 rw [← hN] at hmk START
 rw [← hN]
 have HN:=hideIt hN
 clear hN
 go_enter Tryz.func96,Tryz.ntmps96
 go_wp2
 go_loopw [17] (fun i wr => ∃ k : Nat,k ≤ n ∧ i = .int .i64 k ∧ wr.ownsRow N 5 1 (.slice (some ⟨N,0,none⟩) n n) n ((fixAt v n k).map (Value.int .u8)) ∧ Only (fun _ => False) w wr) (fun i _ => n - (intOf i).toNat)
 case atStart => exact ⟨0,Nat.zero_le _,rfl,START.out.1,START.out.2⟩
 case round =>
  obtain ⟨k,hk,rfl,hown,hon⟩:=hrel
  clear START hmk
  by_cases hlt : k < n
  ·have hcell : ∃ y,wr.cell? ⟨N,n - 1 - k,none⟩ = some (.int .u8 y):=by
    refine ⟨(fixAt v n k).getD (n - 1 - k) 0,?_⟩
    rw [hown.cellAt (n - 1 - k) (by omega),List.getElem?_map,List.getElem?_eq_getElem (by rw [fixAt_len];omega),List.getD_eq_getElem?_getD,List.getElem?_eq_getElem (by rw [fixAt_len];omega)]
    rfl
   obtain ⟨y,hy⟩:=hcell
   have hfr : wr.frozen? ⟨N,n - 1 - k,none⟩ = false:=hown.frozenAt _
   have i0 : (0 : Int) ≤ (n : Int) - 1 - k:=by omega
   have i1 : (n : Int) - 1 - k < (n : Int):=by omega
   have it : ((n : Int) - 1 - k).toNat = n - 1 - k:=by omega
   have H:=hideIt (And.intro hown hon)
   clear hown hon
   go_wp2
   go_roundw
   case rel =>
    refine ⟨k + 1,by omega,by go_num,?_,?_⟩
    ·have h1:=(H.out.1.stored (n - 1 - k) (.int .u8 (fixB v k))).1
     rw [← List.map_set,fixAt_step v n k hlt] at h1
     exact h1
    ·refine H.out.2.setCell (fun hb => ?_) _
     have:=HN.out
     simp only at hb
     omega
   case measure => simp [intOf];omega
  ·have hkn : k = n:=by omega
   subst hkn
   have H:=hideIt (And.intro hown hon)
   clear hown hon
   go_wp2
   go_ret
   rw [fixL_len,← fixAt_all]
   exact ⟨_,rfl,H.out⟩
def blk (b : List Int) : List Int:=gs b.length ++ b
theorem blk_len (b : List Int) (h : b.length ≤ 1000000) : (blk b).length ≤ b.length + 10:=by
 have:=gs_le10 (v:=b.length) (by omega)
 simp only [blk,List.length_append]
 omega
theorem blk_range (b : List Int) (hr : ∀ y ∈ b,0 ≤ y ∧ y ≤ 255) : ∀ y ∈ blk b,0 ≤ y ∧ y ≤ 255:=by
 intro y hy
 simp only [blk,List.mem_append] at hy
 rcases hy with hy | hy
 ·exact gs_range _ y hy
 ·exact hr y hy
set_option maxHeartbeats 400000 in
theorem blk_any (vb : Value) (ys : List Int) (w : World) (hb : Bs .u8 w vb ys) (nb : NoCap vb) (hl : ys.length ≤ 1000000) :
  Calls Tryz.prog 23 #[vb] w fun e w' => ∃ v',e = .returned v' ∧ w'.ownsRow w.heap.size 5 1 v' (blk ys).length ((blk ys).map (Value.int .u8)) ∧ Only (fun _ => False) w w':=by
 have HB:=hideIt hb
 have NB:=hideIt nb
 have A:=hideIt (append_any (.slice none 0 0) [] ys.length w (Bs.nil _ _) NoCap.nil (by simp) (by omega) (by omega))
 rw [List.nil_append,Int.toNat_natCast] at A
 have H10:=hideIt (gs_le10 (v:=ys.length) (by omega))
 have HP:=hideIt (gs_pos ys.length)
 obtain ⟨ab,cb,rfl⟩:=hb.len
 clear hb nb
 go_enter Tryz.func23,Tryz.ntmps23
 go_wp2_with fail
 refine A.out.mono ?_
 rintro e w1 ⟨v1,rfl,hown1,hon1⟩
 have hbl : Below w1.heap.size w1 (w1.alloc (.cells #[v1,.slice ab ys.length cb] 26)):=(Below.refl _ _).alloc (Nat.le_refl _) _
 have CC:=hideIt (concat_two w1.heap.size v1 (.slice ab ys.length cb) (gs ys.length) ys (w1.alloc (.cells #[v1,.slice ab ys.length cb] 26)) (by go_cell) (by go_cell) ((Bs.of_own hown1).later hbl) ((HB.out.later (hon1.low (Nat.le_refl _))).later hbl) (NoCap.of_own hown1) NB.out (by have:=HP.out;omega) (by have:=H10.out;omega))
 have O1:=hideIt hon1
 have F1 : Hid (∃ ao c,v1 = .slice ao (gs ys.length).length c):=(Bs.of_own hown1).len
 clear hown1 hon1 hbl A
 obtain ⟨ao1,c1,hv1⟩:=F1.out
 subst hv1
 go_wp2_with fail
 refine CC.out.mono ?_
 rintro e w2 ⟨v',rfl,hown,hon⟩
 have F : Hid (w2.ownsRow w.heap.size 5 1 v' (blk ys).length ((blk ys).map (Value.int .u8)) ∧ Only (fun _ => False) w w2) :=
  ⟨own_low hown (by have:=O1.out.size;simp;omega),(O1.out.alloc _).trans hon (fun _ _ f => f)⟩
 clear hown hon CC O1
 go_wp2
 go_ret
 exact ⟨_,rfl,F.out⟩
end Go.Proofs.YthapipgaohlgdaaGreatDoor


namespace Go.Proofs.YthapipgaohlgdaaGreatDoor
open Go.RowKit
theorem sBlk_back (b t : List Int) (n : Int) (hb : b.length ≤ 1000000) (hn : (b.length : Int) ≤ n) : sBlock n (blk b ++ t) = (b,(blk b).length,0):=by
 unfold sBlock blk
 rw [List.append_assoc,sVarint_gs _ _ (by omega),if_neg (by omega),if_neg (by simp),if_neg (by simp;omega),if_neg (by simp [List.length_append];omega)]
 simp
theorem sBlk_cut (b : List Int) (k : Nat) (n : Int) (hb : b.length ≤ 1000000) (hn : (b.length : Int) ≤ n) (hk : k < (blk b).length) : sBlock n ((blk b).take k) = ([],0,2):=by
 have hl : (blk b).length = (gs b.length).length + b.length:=by rw [blk,List.length_append]
 by_cases h : k < (gs b.length).length
 ·have e : (blk b).take k = (gs b.length).take k:=by rw [blk,List.take_append_of_le_length (by omega)]
  rw [e,sBlock,if_neg (by omega),sVarint_short _ _ (by omega) h,if_pos (by simp)]
 ·have e : (blk b).take k = gs b.length ++ b.take (k - (gs b.length).length):=by
   rw [blk,List.take_append,List.take_of_length_le (by omega)]
  rw [e,sBlock,if_neg (by omega),sVarint_gs _ _ (by omega),if_neg (by simp),if_neg (by simp;omega),if_pos (by simp only [List.length_append,List.length_take];omega)]
theorem sBlk_cases {ys : List Int} {n : Int} (hr : ∀ y ∈ ys,0 ≤ y ∧ y ≤ 255) (hn : 0 ≤ n) (hn1 : n ≤ 1000000) :
  (∃ c,sBlock n ys = ([],0,c) ∧ (c = 2 ∨ c = 3 ∨ c = 4)) ∨ (∃ b k,sBlock n ys = (b,k,0) ∧ (b.length : Int) ≤ n ∧ k ≤ ys.length ∧ 1 ≤ k ∧ ys = blk b ++ ys.drop k ∧ k = (blk b).length):=by
 unfold sBlock
 rw [if_neg (by omega)]
 rcases sVarint_cases hr with ⟨c,h,hc⟩ | ⟨a,k,h,h1,h2,h3,h4⟩
 ·rw [h,if_pos (by rcases hc with rfl | rfl <;> simp)]
  exact .inl ⟨c,rfl,by omega⟩
 ·rw [h,if_neg (by simp)]
  simp only
  by_cases c1 : n < (a : Int)
  ·rw [if_pos c1];exact .inl ⟨4,rfl,by omega⟩
  ·rw [if_neg c1]
   by_cases c2 : (ys.length : Int) - k < a
   ·rw [if_pos c2];exact .inl ⟨2,rfl,by omega⟩
   ·rw [if_neg c2,Int.toNat_natCast]
    have hkg : k = (gs a).length:=by
     have:=congrArg List.length h4
     rw [List.length_append,List.length_drop] at this
     omega
    have hbl : ((ys.drop k).take a).length = a:=by rw [List.length_take,List.length_drop];omega
    refine .inr ⟨(ys.drop k).take a,k + a,rfl,by rw [hbl];omega,by omega,by omega,?_,?_⟩
    ·unfold blk
     rw [hbl,List.append_assoc,← List.drop_drop,List.take_append_drop]
     exact h4
    ·unfold blk
     rw [List.length_append,hbl,hkg]
def chNone : (List Int × List (Int × Int)):=([],[])
def MOST (n : Int) : Int:=if n < 0 then 1 else 1 + 8 * min n 65536
section
variable (e8 e11 : List Int → List Int) (d8 d11 : List Int → Int → List Int × Int)
def ENC12 (tn : List Int) (s : List (Int × Int)) : List Int × Int :=
 if 64 < tn.length ∨ 65536 < s.length then ([],4) else (1 :: (blk tn ++ (gs s.length ++ (blk (e8 (s.map Prod.fst)) ++ blk (e11 (s.map Prod.snd))))),0)
def C5 (tn : List Int) (n : Int) (ti va rest : List Int) : (List Int × List (Int × Int)) × Int :=
 if rest ≠ [] then (chNone,3) else if (d8 ti n).2 ≠ 0 then (chNone,(d8 ti n).2) else if (d11 va n).2 ≠ 0 then (chNone,(d11 va n).2) else ((tn,(d8 ti n).1.zip (d11 va n).1),0)
def C4 (tn : List Int) (n : Int) (ti ys : List Int) : (List Int × List (Int × Int)) × Int :=
 if (sBlock (MOST n) ys).2.2 ≠ 0 then (chNone,(sBlock (MOST n) ys).2.2) else C5 d8 d11 tn n ti (sBlock (MOST n) ys).1 (ys.drop (sBlock (MOST n) ys).2.1)
def C3 (tn : List Int) (n : Int) (ys : List Int) : (List Int × List (Int × Int)) × Int :=
 if (sBlock (MOST n) ys).2.2 ≠ 0 then (chNone,(sBlock (MOST n) ys).2.2) else C4 d8 d11 tn n (sBlock (MOST n) ys).1 (ys.drop (sBlock (MOST n) ys).2.1)
def C2 (tn : List Int) (ys : List Int) : (List Int × List (Int × Int)) × Int :=
 if (sVarint ys).2.2 ≠ 0 then (chNone,(sVarint ys).2.2) else if 65536 < (sVarint ys).1 then (chNone,4) else C3 d8 d11 tn (sVarint ys).1 (ys.drop (sVarint ys).2.1)
def C1 (ys : List Int) : (List Int × List (Int × Int)) × Int :=
 if (sBlock 64 ys).2.2 ≠ 0 then (chNone,(sBlock 64 ys).2.2) else C2 d8 d11 (sBlock 64 ys).1 (ys.drop (sBlock 64 ys).2.1)
def DEC12 (b : List Int) : (List Int × List (Int × Int)) × Int :=
 if b = [] then (chNone,2) else if b.getD 0 0 ≠ 1 then (chNone,3) else C1 d8 d11 (b.drop 1)
end
theorem MOST_nat {n : Nat} (h : n ≤ 65536) : MOST n = 1 + 8 * n:=by unfold MOST;rw [if_neg (by omega)];omega
structure Codec (e : List Int → List Int) (d : List Int → Int → List Int × Int) (G : List Int → Prop) : Prop where
 back : ∀ l,G l → l.length ≤ 65536 → d (e l) l.length = (l,0)
 ok : ∀ b (n : Int),(∀ y ∈ b,0 ≤ y ∧ y ≤ 255) → (d b n).2 = 0 → ((d b n).1.length : Int) = n ∧ G (d b n).1 ∧ e (d b n).1 = b
 len : ∀ l,l.length ≤ 65536 → (e l).length ≤ 1 + 8 * l.length
variable {e8 e11 : List Int → List Int} {d8 d11 : List Int → Int → List Int × Int} {G8 G11 : List Int → Prop}
theorem C5_ok (K8 : Codec e8 d8 G8) (K11 : Codec e11 d11 G11) {tn : List Int} {s : List (Int × Int)} (g8 : G8 (s.map Prod.fst)) (g11 : G11 (s.map Prod.snd)) (hs : s.length ≤ 65536) : C5 d8 d11 tn s.length (e8 (s.map Prod.fst)) (e11 (s.map Prod.snd)) [] = ((tn,s),0):=by
 have h1:=K8.back _ g8 (by rw [List.length_map];exact hs)
 have h2:=K11.back _ g11 (by rw [List.length_map];exact hs)
 rw [List.length_map] at h1 h2
 unfold C5
 rw [if_neg (by simp),h1,if_neg (by simp),h2,if_neg (by simp)]
 simp only
 congr 2
 rw [List.zip_map']
 exact (List.map_congr_left (g:=id) (fun x _ => rfl)).trans (List.map_id s)
theorem DEC12_parts (K8 : Codec e8 d8 G8) (K11 : Codec e11 d11 G11) {tn : List Int} {s : List (Int × Int)} (ht : tn.length ≤ 64) (hs : s.length ≤ 65536) (r : List Int) :
  DEC12 d8 d11 ((ENC12 e8 e11 tn s).1 ++ r) = C5 d8 d11 tn s.length (e8 (s.map Prod.fst)) (e11 (s.map Prod.snd)) r:=by
 have l8:=K8.len (s.map Prod.fst) (by rw [List.length_map];exact hs)
 have l11:=K11.len (s.map Prod.snd) (by rw [List.length_map];exact hs)
 rw [List.length_map] at l8 l11
 unfold ENC12
 rw [if_neg (by omega)]
 simp only [List.cons_append,List.append_assoc]
 unfold DEC12
 rw [if_neg (List.cons_ne_nil _ _),List.getD_cons_zero,if_neg (by simp),List.drop_succ_cons,List.drop_zero]
 unfold C1
 rw [sBlk_back tn _ 64 (by omega) (by omega),if_neg (by simp)]
 simp only [List.drop_left]
 unfold C2
 rw [sVarint_gs _ _ (by omega),if_neg (by simp)]
 simp only [List.drop_left]
 rw [if_neg (by omega)]
 unfold C3
 rw [MOST_nat hs,sBlk_back _ _ _ (by omega) (by omega),if_neg (by simp)]
 simp only [List.drop_left]
 unfold C4
 rw [MOST_nat hs,sBlk_back _ _ _ (by omega) (by omega),if_neg (by simp)]
 simp only [List.drop_left]
theorem DEC12_ENC12 (K8 : Codec e8 d8 G8) (K11 : Codec e11 d11 G11) {tn : List Int} {s : List (Int × Int)} (ht : tn.length ≤ 64) (hs : s.length ≤ 65536) (g8 : G8 (s.map Prod.fst)) (g11 : G11 (s.map Prod.snd)) : DEC12 d8 d11 (ENC12 e8 e11 tn s).1 = ((tn,s),0):=by
 have:=DEC12_parts K8 K11 ht hs []
 rw [List.append_nil] at this
 rw [this]
 exact C5_ok K8 K11 g8 g11 hs
theorem DEC12_more (K8 : Codec e8 d8 G8) (K11 : Codec e11 d11 G11) {tn : List Int} {s : List (Int × Int)} {r : List Int} (ht : tn.length ≤ 64) (hs : s.length ≤ 65536) (hr : r ≠ []) : DEC12 d8 d11 ((ENC12 e8 e11 tn s).1 ++ r) = (chNone,3):=by
 rw [DEC12_parts K8 K11 ht hs r]
 unfold C5
 rw [if_pos hr]
theorem DEC12_cut (K8 : Codec e8 d8 G8) (K11 : Codec e11 d11 G11) {tn : List Int} {s : List (Int × Int)} {k : Nat} (ht : tn.length ≤ 64) (hs : s.length ≤ 65536) (hk : k < (ENC12 e8 e11 tn s).1.length) : DEC12 d8 d11 ((ENC12 e8 e11 tn s).1.take k) = (chNone,2):=by
 have l8:=K8.len (s.map Prod.fst) (by rw [List.length_map];exact hs)
 have l11:=K11.len (s.map Prod.snd) (by rw [List.length_map];exact hs)
 rw [List.length_map] at l8 l11
 unfold ENC12 at hk ⊢
 rw [if_neg (by omega)] at hk ⊢
 simp only [List.length_cons,List.length_append] at hk ⊢
 unfold DEC12
 cases k with
 | zero => rw [List.take_zero,if_pos rfl]
 | succ k =>
  rw [List.take_succ_cons,if_neg (List.cons_ne_nil _ _),List.getD_cons_zero,if_neg (by simp),List.drop_succ_cons,List.drop_zero]
  unfold C1
  by_cases k1 : k < (blk tn).length
  ·rw [List.take_append_of_le_length (by omega),sBlk_cut tn k 64 (by omega) (by omega) k1,if_pos (by simp)]
  ·rw [List.take_append,List.take_of_length_le (by omega),sBlk_back tn _ 64 (by omega) (by omega),if_neg (by simp)]
   simp only [List.drop_left]
   unfold C2
   obtain ⟨k',hk'⟩ : ∃ k',k' = k - (blk tn).length:=⟨_,rfl⟩
   rw [← hk']
   by_cases k2 : k' < (gs s.length).length
   ·rw [List.take_append_of_le_length (by omega),sVarint_short _ _ (by omega) k2,if_pos (by simp)]
   ·rw [List.take_append,List.take_of_length_le (by omega),sVarint_gs _ _ (by omega),if_neg (by simp)]
    simp only [List.drop_left]
    rw [if_neg (by omega)]
    unfold C3
    rw [MOST_nat hs]
    obtain ⟨k3,hk3⟩ : ∃ k3,k3 = k' - (gs s.length).length:=⟨_,rfl⟩
    rw [← hk3]
    by_cases k4 : k3 < (blk (e8 (s.map Prod.fst))).length
    ·rw [List.take_append_of_le_length (by omega),sBlk_cut _ _ _ (by omega) (by omega) k4,if_pos (by simp)]
    ·rw [List.take_append,List.take_of_length_le (by omega),sBlk_back _ _ _ (by omega) (by omega),if_neg (by simp)]
     simp only [List.drop_left]
     unfold C4
     rw [MOST_nat hs,sBlk_cut _ _ _ (by omega) (by omega) (by omega),if_pos (by simp)]
theorem drop_rng {ys : List Int} {k : Nat} (hr : ∀ y ∈ ys,0 ≤ y ∧ y ≤ 255) : ∀ y ∈ ys.drop k,0 ≤ y ∧ y ≤ 255:=fun y hy => hr y (List.mem_of_mem_drop hy)
theorem DEC12_ok (K8 : Codec e8 d8 G8) (K11 : Codec e11 d11 G11) {b : List Int} (hr : ∀ y ∈ b,0 ≤ y ∧ y ≤ 255) (h : (DEC12 d8 d11 b).2 = 0) :
  ENC12 e8 e11 (DEC12 d8 d11 b).1.1 (DEC12 d8 d11 b).1.2 = (b,0) ∧ (DEC12 d8 d11 b).1.1.length ≤ 64 ∧ (DEC12 d8 d11 b).1.2.length ≤ 65536 ∧ G8 ((DEC12 d8 d11 b).1.2.map Prod.fst) ∧ G11 ((DEC12 d8 d11 b).1.2.map Prod.snd):=by
 unfold DEC12 at *
 by_cases hb : b = []
 ·rw [if_pos hb] at h;cases h
 rw [if_neg hb] at h ⊢
 by_cases h1 : b.getD 0 0 ≠ 1
 ·rw [if_pos h1] at h;cases h
 rw [if_neg h1] at h ⊢
 have hb1 : b = 1 :: b.drop 1:=by
  cases b with
  | nil => exact absurd rfl hb
  | cons x t => simp only [List.getD_cons_zero,ne_eq,Classical.not_not] at h1;rw [h1];rfl
 have r1:=drop_rng (k:=1) hr
 generalize b.drop 1 = y1 at *
 unfold C1 at *
 rcases sBlk_cases (n:=64) r1 (by omega) (by omega) with ⟨c,e,hc⟩ | ⟨tn,k1,e,hl1,_,_,e1,_⟩
 ·rw [e] at h;rw [if_pos (by simp only;omega)] at h;simp only at h;omega
 rw [e] at h ⊢
 rw [if_neg (by simp)] at h ⊢
 simp only at h ⊢
 have r2:=drop_rng (k:=k1) r1
 generalize y1.drop k1 = y2 at *
 unfold C2 at *
 rcases sVarint_cases r2 with ⟨c,e,hc⟩ | ⟨n,k2,e,_,_,_,e2⟩
 ·rw [e] at h;rw [if_pos (by simp only;omega)] at h;simp only at h;omega
 rw [e] at h ⊢
 rw [if_neg (by simp)] at h ⊢
 simp only at h ⊢
 by_cases hn : 65536 < (n : Int)
 ·rw [if_pos hn] at h;cases h
 rw [if_neg hn] at h ⊢
 have r3:=drop_rng (k:=k2) r2
 generalize y2.drop k2 = y3 at *
 unfold C3 at *
 have hM:=MOST_nat (n:=n) (by omega)
 rcases sBlk_cases (n:=MOST n) r3 (by omega) (by omega) with ⟨c,e,hc⟩ | ⟨ti,k3,e,hl3,_,_,e3,_⟩
 ·rw [e] at h;rw [if_pos (by simp only;omega)] at h;simp only at h;omega
 rw [e] at h ⊢
 rw [if_neg (by simp)] at h ⊢
 simp only at h ⊢
 have rti : ∀ y ∈ ti,0 ≤ y ∧ y ≤ 255:=fun y hy => r3 y (by rw [e3];unfold blk;simp [hy])
 have r4:=drop_rng (k:=k3) r3
 generalize y3.drop k3 = y4 at *
 unfold C4 at *
 rcases sBlk_cases (n:=MOST n) r4 (by omega) (by omega) with ⟨c,e,hc⟩ | ⟨va,k4,e,hl4,_,_,e4,_⟩
 ·rw [e] at h;rw [if_pos (by simp only;omega)] at h;simp only at h;omega
 rw [e] at h ⊢
 rw [if_neg (by simp)] at h ⊢
 simp only at h ⊢
 have rva : ∀ y ∈ va,0 ≤ y ∧ y ≤ 255:=fun y hy => r4 y (by rw [e4];unfold blk;simp [hy])
 generalize y4.drop k4 = y5 at *
 unfold C5 at *
 by_cases h5 : y5 ≠ []
 ·rw [if_pos h5] at h;cases h
 rw [if_neg h5] at h ⊢
 have h5' : y5 = []:=Classical.not_not.1 h5
 by_cases h6 : (d8 ti n).2 ≠ 0
 ·rw [if_pos h6] at h;exact absurd h h6
 rw [if_neg h6] at h ⊢
 by_cases h7 : (d11 va n).2 ≠ 0
 ·rw [if_pos h7] at h;exact absurd h h7
 rw [if_neg h7]
 obtain ⟨a1,a2,a3⟩:=K8.ok ti n rti (by simpa using h6)
 obtain ⟨b1,b2,b3⟩:=K11.ok va n rva (by simpa using h7)
 have hz1 : ((d8 ti n).1.zip (d11 va n).1).map Prod.fst = (d8 ti n).1:=List.map_fst_zip (by omega)
 have hz2 : ((d8 ti n).1.zip (d11 va n).1).map Prod.snd = (d11 va n).1:=List.map_snd_zip (by omega)
 have hzl : ((d8 ti n).1.zip (d11 va n).1).length = n:=by rw [List.length_zip];omega
 simp only
 refine ⟨?_,by omega,by rw [hzl];omega,by rw [hz1];exact a2,by rw [hz2];exact b2⟩
 unfold ENC12
 rw [if_neg (by rw [hzl];omega),hz1,hz2,hzl,a3,b3]
 congr 1
 rw [hb1,e1,e2,e3,e4,h5',List.append_nil]
theorem DEC12_err {b : List Int} : (DEC12 d8 d11 b).2 ≠ 0 → (DEC12 d8 d11 b).1 = chNone:=by
 unfold DEC12
 by_cases hb : b = []
 ·rw [if_pos hb];exact fun _ => rfl
 rw [if_neg hb]
 by_cases h1 : b.getD 0 0 ≠ 1
 ·rw [if_pos h1];exact fun _ => rfl
 rw [if_neg h1]
 unfold C1
 by_cases h2 : (sBlock 64 (b.drop 1)).2.2 ≠ 0
 ·rw [if_pos h2];exact fun _ => rfl
 rw [if_neg h2]
 unfold C2
 split
 ·exact fun _ => rfl
 split
 ·exact fun _ => rfl
 unfold C3
 split
 ·exact fun _ => rfl
 unfold C4
 split
 ·exact fun _ => rfl
 unfold C5
 split
 ·exact fun _ => rfl
 split
 ·exact fun _ => rfl
 split
 ·exact fun _ => rfl
 exact fun h => absurd rfl h
end Go.Proofs.YthapipgaohlgdaaGreatDoor
