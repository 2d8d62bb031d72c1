/- Several texts in one: Dk2, Dk3, Vc, Kd, Ks, Ka, Kp, En2, Cat. -/
import Derived.Test.YthapipgaohlgdaaGreatDoorG8
import Derived.Test.YthapipgaohlgdaaGreatDoorG5
import Derived.Laws.IdiomStrings
import Derived.Laws.BytesArg
import Derived.Deep.SlicePairs
import Derived.OpenShut
import Derived.Test.YthapipgaohlgdaaGreatDoorG6
import Derived.BigRegion
import Derived.WalkLawsBesides
import Derived.Test.YthapipgaohlgdaaGreatDoorG4
import Derived.Test.YthapipgaohlgdaaGreatDoorG2


namespace Go.Proofs.YthapipgaohlgdaaGreatDoor
open Go.RowKit
theorem dic_lt {l : List Int} (hl : l.length ≤ 65536) : (dic l).length < 18446744073709551616:=by have:=dic_len l;omega
theorem DECB_back {l : List Int} (hu : U64 l) (r b : List Int) :
  DECB (dic l).length l.length (fx8 (dic l) ++ (bytesI (tail10 (dic l) l) ++ r)) b = if (ENC10 l).1 = b then (l,0) else ([],3):=by
 have hf:=fx8_len (dic l)
 have e1 : (fx8 (dic l) ++ (bytesI (tail10 (dic l) l) ++ r)).drop (8 * (dic l).length) = bytesI (tail10 (dic l) l) ++ r:=List.drop_left' hf
 have e2 : allBits (bytesI (tail10 (dic l) l) ++ r) = tail10 (dic l) l ++ (List.replicate (8 * nb (tail10 (dic l) l) - (tail10 (dic l) l).length) false ++ allBits r):=by
  rw [allBits_append,bits_back,List.append_assoc]
 have e3 : rdP (wP (dic l).length) l.length (tail10 (dic l) l ++ (List.replicate (8 * nb (tail10 (dic l) l) - (tail10 (dic l) l).length) false ++ allBits r)) = l.map (plc (dic l)):=by
  have:=rdP_bits (wP (dic l).length) (l.map (plc (dic l))) (List.replicate (8 * nb (tail10 (dic l) l) - (tail10 (dic l) l).length) false ++ allBits r) (fun p hp => wP_lt (plc_all p hp))
  rw [List.length_map] at this
  exact this
 have e4 : rd8 (dic l).length (fx8 (dic l) ++ (bytesI (tail10 (dic l) l) ++ r)) = dic l:=rd8_fx (dic l) _ (dic_u64 hu)
 unfold DECB
 rw [e1,e2,e3,e4,back10]
 rw [if_neg (by rw [List.length_append];omega),if_neg (by rw [List.length_append,tail10_len];omega),if_neg (fun ⟨p,hp,h⟩ => by have:=plc_all p hp;omega)]
theorem DEC10_head {l : List Int} (hl : l.length ≤ 65536) (r : List Int) : DEC10 (gs (dic l).length ++ r) l.length = DECB (dic l).length l.length r (gs (dic l).length ++ r):=by
 unfold DEC10
 rw [sVarint_gs _ _ (dic_lt hl)]
 have:=dic_len l
 simp only [ne_eq,not_true_eq_false,if_false,Int.toNat_natCast,List.drop_left]
 rw [if_neg (by omega),if_neg (by omega)]
theorem DEC10_ENC10 {l : List Int} (hu : U64 l) (hl : l.length ≤ 65536) : DEC10 (ENC10 l).1 l.length = (l,0):=by
 have e:=DECB_back hu [] (ENC10 l).1
 rw [List.append_nil,if_pos rfl] at e
 rw [ENC10_of hl] at e ⊢
 rw [DEC10_head hl]
 exact e
theorem if_err {p : Prop} [Decidable p] {x y : List Int × Int} (hx : x.2 ≠ 0 → x.1 = []) (hy : y.2 ≠ 0 → y.1 = []) : (if p then x else y).2 ≠ 0 → (if p then x else y).1 = []:=by
 by_cases h : p
 ·rw [if_pos h];exact hx
 ·rw [if_neg h];exact hy
theorem DEC10_err {b : List Int} {n : Int} : (DEC10 b n).2 ≠ 0 → (DEC10 b n).1 = []:=by
 unfold DEC10 DECB
 exact if_err (fun _ => rfl) (if_err (fun _ => rfl) (if_err (fun _ => rfl) (if_err (fun _ => rfl) (if_err (fun _ => rfl) (if_err (fun _ => rfl) (if_err (fun h => absurd rfl h) (fun _ => rfl)))))))
theorem DEC10_ok {b : List Int} {n : Int} (hr : ∀ y ∈ b,0 ≤ y ∧ y ≤ 255) (h : (DEC10 b n).2 = 0) : 0 ≤ n ∧ n ≤ 65536 ∧ ((DEC10 b n).1.length : Int) = n ∧ U64 (DEC10 b n).1 ∧ ENC10 (DEC10 b n).1 = (b,0):=by
 have key : ∀ (many m : Nat) (rest : List Int),(∀ y ∈ rest,0 ≤ y ∧ y ≤ 255) → m ≤ 65536 → (DECB many m rest b).2 = 0 → (DECB many m rest b).1.length = m ∧ U64 (DECB many m rest b).1 ∧ ENC10 (DECB many m rest b).1 = (b,0):=by
  intro many m rest hrr hm h
  unfold DECB at *
  by_cases c1 : rest.length < 8 * many
  ·rw [if_pos c1] at h;cases h
  ·rw [if_neg c1] at h ⊢
   by_cases c2 : (allBits (rest.drop (8 * many))).length < m * wP many
   ·rw [if_pos c2] at h;cases h
   ·rw [if_neg c2] at h ⊢
    by_cases c3 : ∃ p ∈ rdP (wP many) m (allBits (rest.drop (8 * many))),many ≤ p
    ·rw [if_pos c3] at h;cases h
    ·rw [if_neg c3] at h ⊢
     by_cases c4 : (ENC10 ((rdP (wP many) m (allBits (rest.drop (8 * many)))).map fun p => (rd8 many rest).getD p 0)).1 = b
     ·rw [if_pos c4]
      have hlen : ((rdP (wP many) m (allBits (rest.drop (8 * many)))).map fun p => (rd8 many rest).getD p 0).length = m:=by rw [List.length_map,rdP_len]
      refine ⟨hlen,?_,?_⟩
      ·intro x hx
       obtain ⟨p,hp,rfl⟩:=List.mem_map.1 hx
       have hpm : p < many:=by
        rcases Nat.lt_or_ge p many with e | e
        ·exact e
        ·exact absurd ⟨p,hp,e⟩ c3
       have hp8 : p < (rd8 many rest).length:=by rw [rd8_len];exact hpm
       refine rd8_u64 many rest hrr _ ?_
       rw [List.getD_eq_getElem?_getD,List.getElem?_eq_getElem hp8]
       exact List.getElem_mem hp8
      ·have e:=ENC10_of (l:=(rdP (wP many) m (allBits (rest.drop (8 * many)))).map fun p => (rd8 many rest).getD p 0) (by rw [hlen];exact hm)
       rw [e] at c4 ⊢
       simp only at c4
       simp only [c4]
     ·rw [if_neg c4] at h;cases h
 unfold DEC10 at *
 by_cases hn : n < 0 ∨ 65536 < n
 ·rw [if_pos hn] at h;cases h
 ·rw [if_neg hn] at h ⊢
  by_cases hv : (sVarint b).2.2 ≠ 0
  ·rw [if_pos hv] at h;exact absurd h hv
  ·rw [if_neg hv] at h ⊢
   by_cases hm : n < (sVarint b).1
   ·rw [if_pos hm] at h;cases h
   ·rw [if_neg hm] at h ⊢
    obtain ⟨k1,k2,k3⟩:=key _ n.toNat _ (fun y hy => hr y (List.mem_of_mem_drop hy)) (by omega) h
    exact ⟨by omega,by omega,by rw [k1];omega,k2,k3⟩
theorem ENC10_rng (l : List Int) : ∀ y ∈ (ENC10 l).1,0 ≤ y ∧ y ≤ 255:=by
 unfold ENC10
 by_cases h : 65536 < l.length
 ·rw [if_pos h];intro y hy;simp at hy
 ·rw [if_neg h]
  intro y hy
  rcases List.mem_append.1 hy with h1 | h1
  ·exact gs_range _ y h1
  ·rcases List.mem_append.1 h1 with h2 | h2
   ·obtain ⟨v,_,hv⟩:=List.mem_flatMap.1 h2
    unfold fixL at hv
    obtain ⟨j,_,rfl⟩:=List.mem_map.1 hv
    exact fixB_range v _
   ·exact bytesI_rng _ y h2
end Go.Proofs.YthapipgaohlgdaaGreatDoor


namespace Go.Proofs.YthapipgaohlgdaaGreatDoor
open Go.RowKit
def firsts (l : List Int) (k : Nat) : Nat:=(dic (l.take k)).length
end Go.Proofs.YthapipgaohlgdaaGreatDoor


namespace Go.Proofs.YthapipgaohlgdaaGreatDoor
open Go.RowKit
def allSameB (l : List Int) : Bool:=l.all fun x => x == l.getD 0 0
abbrev allSame (l : List Int) : Prop:=allSameB l = true
theorem allSame_iff {l : List Int} : allSame l ↔ ∀ x ∈ l,x = l.getD 0 0:=by
 unfold allSame allSameB
 rw [List.all_eq_true]
 exact ⟨fun h x hx => by simpa using h x hx,fun h x hx => by simpa using h x hx⟩
def W11 (l : List Int) (tag : Nat) : List Int × Int :=
 if tag = 0 then (fx8 l,0) else if tag = 1 then (if l = [] ∨ ¬ allSame l then ([],1) else (fixL (l.getD 0 0) 8,0)) else if tag = 2 then ENC10 l else ENC9 l
def WAY11 (l : List Int) (tag : Int) : List Int × Int:=if tag < 0 ∨ 3 < tag then ([],1) else if 65536 < l.length then ([],4) else W11 l tag.toNat
def pick11 (l : List Int) : Nat → Nat × List Int
 | 0 => (0,(W11 l 0).1)
 | t + 1 => if (W11 l (t + 1)).2 = 0 ∧ (W11 l (t + 1)).1.length < (pick11 l t).2.length then (t + 1,(W11 l (t + 1)).1) else pick11 l t
def ENC11 (l : List Int) : List Int × Int:=if 65536 < l.length then ([],4) else (((pick11 l 3).1 : Int) :: (pick11 l 3).2,0)
def R11 (ys : List Int) (n tag : Nat) : List Int × Int :=
 if tag = 2 then DEC10 ys n else if tag = 3 then DEC9 ys n else
 if tag = 1 then (if ys.length < 8 then ([],2) else if 8 < ys.length then ([],3) else (List.replicate n ((num (ys.take 8) : Nat) : Int),0)) else
 if ys.length < 8 * n then ([],2) else if 8 * n < ys.length then ([],3) else (rd8 n ys,0)
def DEC11 (b : List Int) (n : Int) : List Int × Int :=
 if n < 0 ∨ 65536 < n then ([],1) else if b = [] then ([],2) else if 3 < b.getD 0 0 then ([],3) else
 if (R11 (b.drop 1) n.toNat (b.getD 0 0).toNat).2 ≠ 0 then ([],(R11 (b.drop 1) n.toNat (b.getD 0 0).toNat).2) else
 if (ENC11 (R11 (b.drop 1) n.toNat (b.getD 0 0).toNat).1).1 = b then ((R11 (b.drop 1) n.toNat (b.getD 0 0).toNat).1,0) else ([],3)
theorem W11_0 (l : List Int) : W11 l 0 = (fx8 l,0):=rfl
theorem W11_1 (l : List Int) : W11 l 1 = if l = [] ∨ ¬ allSame l then ([],1) else (fixL (l.getD 0 0) 8,0):=rfl
theorem W11_2 (l : List Int) : W11 l 2 = ENC10 l:=rfl
theorem W11_3 (l : List Int) : W11 l 3 = ENC9 l:=rfl
theorem tag_cases {t : Nat} (h : t ≤ 3) : t = 0 ∨ t = 1 ∨ t = 2 ∨ t = 3:=by omega
theorem fx8_rng (l : List Int) : ∀ y ∈ fx8 l,0 ≤ y ∧ y ≤ 255:=by
 intro y hy
 obtain ⟨v,_,hv⟩:=List.mem_flatMap.1 hy
 exact fixL_range v 8 y hv
theorem W11_rng {l : List Int} {t : Nat} (ht : t ≤ 3) : ∀ y ∈ (W11 l t).1,0 ≤ y ∧ y ≤ 255:=by
 rcases tag_cases ht with rfl | rfl | rfl | rfl
 ·exact fx8_rng l
 ·rw [W11_1]
  by_cases c : l = [] ∨ ¬ allSame l
  ·rw [if_pos c];intro y hy;simp at hy
  ·rw [if_neg c];exact fixL_range _ 8
 ·exact ENC10_rng l
 ·exact ENC9_rng l
theorem same_rep {l : List Int} (h : allSame l) : l = List.replicate l.length (l.getD 0 0):=List.eq_replicate_iff.2 ⟨rfl,allSame_iff.1 h⟩
theorem num_fixI {v : Int} (h0 : 0 ≤ v) (h1 : v ≤ 18446744073709551615) : ((num (fixL v 8) : Nat) : Int) = v:=by
 obtain ⟨n,rfl⟩:=Int.eq_ofNat_of_zero_le h0
 rw [num_fix8 n (by omega)]
theorem head_mem {l : List Int} (h : l ≠ []) : l.getD 0 0 ∈ l:=by
 cases l with
 | nil => exact absurd rfl h
 | cons x t => exact List.mem_cons_self
theorem R11_W11 {l : List Int} {t : Nat} (ht : t ≤ 3) (hu : U64 l) (hl : l.length ≤ 65536) (h : (W11 l t).2 = 0) : R11 (W11 l t).1 l.length t = (l,0):=by
 rcases tag_cases ht with rfl | rfl | rfl | rfl
 ·rw [W11_0]
  unfold R11
  rw [if_neg (by omega),if_neg (by omega),if_neg (by omega),if_neg (by rw [fx8_len];omega),if_neg (by rw [fx8_len];omega)]
  have:=rd8_fx l [] hu
  rw [List.append_nil] at this
  rw [this]
 ·rw [W11_1] at *
  by_cases c : l = [] ∨ ¬ allSame l
  ·rw [if_pos c] at h;cases h
  ·rw [if_neg c]
   have hne : l ≠ []:=fun e => c (.inl e)
   have hs : allSame l:=Classical.byContradiction fun e => c (.inr e)
   unfold R11
   rw [if_neg (by omega),if_neg (by omega),if_pos rfl,if_neg (by rw [fixL_len];omega),if_neg (by rw [fixL_len];omega)]
   rw [List.take_of_length_le (by rw [fixL_len];omega),num_fixI (hu _ (head_mem hne)).1 (hu _ (head_mem hne)).2,← same_rep hs]
 ·exact DEC10_ENC10 hu hl
 ·exact DEC9_ENC9 hu hl
theorem R11_ok {ys : List Int} {n t : Nat} (hr : ∀ y ∈ ys,0 ≤ y ∧ y ≤ 255) (h : (R11 ys n t).2 = 0) : U64 (R11 ys n t).1 ∧ (R11 ys n t).1.length = n:=by
 unfold R11 at *
 by_cases c2 : t = 2
 ·rw [if_pos c2] at h ⊢
  obtain ⟨_,_,h3,h4,_⟩:=DEC10_ok hr h
  exact ⟨h4,by omega⟩
 ·rw [if_neg c2] at h ⊢
  by_cases c3 : t = 3
  ·rw [if_pos c3] at h ⊢
   obtain ⟨_,_,h3,h4,_⟩:=DEC9_ok h
   exact ⟨h4,by omega⟩
  ·rw [if_neg c3] at h ⊢
   by_cases c1 : t = 1
   ·rw [if_pos c1] at h ⊢
    by_cases a1 : ys.length < 8
    ·rw [if_pos a1] at h;cases h
    ·rw [if_neg a1] at h ⊢
     by_cases a2 : 8 < ys.length
     ·rw [if_pos a2] at h;cases h
     ·rw [if_neg a2]
      refine ⟨fun x hx => ?_,by rw [List.length_replicate]⟩
      rw [List.eq_of_mem_replicate hx]
      have h1:=num_lt (ys.take 8) (fun y hy => hr y (List.mem_of_mem_take hy))
      have h2 : (256 : Nat) ^ (ys.take 8).length ≤ 256 ^ 8:=Nat.pow_le_pow_right (by omega) (by rw [List.length_take];omega)
      have h3 : (256 : Nat) ^ 8 = 18446744073709551616:=by decide
      omega
   ·rw [if_neg c1] at h ⊢
    by_cases a1 : ys.length < 8 * n
    ·rw [if_pos a1] at h;cases h
    ·rw [if_neg a1] at h ⊢
     by_cases a2 : 8 * n < ys.length
     ·rw [if_pos a2] at h;cases h
     ·rw [if_neg a2]
      exact ⟨rd8_u64 n ys hr,rd8_len n ys⟩
theorem pick11_spec (l : List Int) : ∀ t,(pick11 l t).1 ≤ t ∧ W11 l (pick11 l t).1 = ((pick11 l t).2,0) ∧ ∀ s,s ≤ t → (W11 l s).2 = 0 → (pick11 l t).2.length ≤ (W11 l s).1.length
 | 0 => ⟨Nat.le_refl _,rfl,fun s hs _ => by
  obtain rfl : s = 0:=by omega
  exact Nat.le_refl _⟩
 | t + 1 => by
  obtain ⟨h1,h2,h3⟩:=pick11_spec l t
  rw [pick11]
  by_cases c : (W11 l (t + 1)).2 = 0 ∧ (W11 l (t + 1)).1.length < (pick11 l t).2.length
  ·rw [if_pos c]
   refine ⟨Nat.le_refl _,Prod.ext rfl c.1,fun s hs he => ?_⟩
   rcases Nat.lt_or_ge s (t + 1) with e | e
   ·have:=h3 s (by omega) he;simp only;omega
   ·obtain rfl : s = t + 1:=by omega
    exact Nat.le_refl _
  ·rw [if_neg c]
   refine ⟨by omega,h2,fun s hs he => ?_⟩
   rcases Nat.lt_or_ge s (t + 1) with e | e
   ·exact h3 s (by omega) he
   ·obtain rfl : s = t + 1:=by omega
    rcases Nat.lt_or_ge (W11 l (t + 1)).1.length (pick11 l t).2.length with e2 | e2
    ·exact absurd ⟨he,e2⟩ c
    ·exact e2
theorem ENC11_of {l : List Int} (hl : l.length ≤ 65536) : ENC11 l = (((pick11 l 3).1 : Int) :: (pick11 l 3).2,0):=if_neg (by omega)
theorem ENC11_len {l : List Int} (hl : l.length ≤ 65536) : (ENC11 l).1.length ≤ 1 + 8 * l.length ∧ 0 < (ENC11 l).1.length:=by
 have h:=(pick11_spec l 3).2.2 0 (by omega) rfl
 rw [W11_0] at h
 simp only [fx8_len] at h
 rw [ENC11_of hl]
 simp only [List.length_cons]
 omega
theorem ENC11_rng (l : List Int) : ∀ y ∈ (ENC11 l).1,0 ≤ y ∧ y ≤ 255:=by
 unfold ENC11
 by_cases h : 65536 < l.length
 ·rw [if_pos h];intro y hy;simp at hy
 ·rw [if_neg h]
  obtain ⟨h1,h2,_⟩:=pick11_spec l 3
  intro y hy
  rcases List.mem_cons.1 hy with rfl | hy
  ·omega
  ·have:=W11_rng (l:=l) h1
   rw [h2] at this
   exact this y hy
theorem WAY11_nat {l : List Int} (hl : l.length ≤ 65536) (t : Nat) (ht : t ≤ 3) : WAY11 l t = W11 l t:=by
 unfold WAY11
 rw [if_neg (by omega),if_neg (by omega),Int.toNat_natCast]
theorem WAY11_len {l : List Int} {tag : Int} : (WAY11 l tag).1.length ≤ 2000000:=by
 unfold WAY11
 by_cases c : tag < 0 ∨ 3 < tag
 ·rw [if_pos c];simp
 ·rw [if_neg c]
  by_cases hl : 65536 < l.length
  ·rw [if_pos hl];simp
  ·rw [if_neg hl]
   rcases tag_cases (t:=tag.toNat) (by omega) with e | e | e | e <;> rw [e]
   ·rw [W11_0];simp only [fx8_len];omega
   ·rw [W11_1];split <;> simp [fixL_len]
   ·rw [W11_2,ENC10_of (by omega)]
    have h1:=gs_le10 (dic_lt (l:=l) (by omega))
    have h2:=dic_len l
    have h3:=wP_le (k:=(dic l).length) (by omega)
    have h4 : (tail10 (dic l) l).length ≤ 65536 * 16:=by rw [tail10_len];exact Nat.mul_le_mul (by omega) h3
    simp only [List.length_append,fx8_len,bytesI_length];unfold nb;omega
   ·rw [W11_3,ENC9_of (by omega)]
    have:=(GB_len l).1
    simp only [bytesI_length];unfold nb;omega
theorem DEC11_back {l : List Int} (hl : l.length ≤ 65536) (ys : List Int) (n : Nat) (hn : n = l.length) : DEC11 (((pick11 l 3).1 : Int) :: ys) n = if (R11 ys n (pick11 l 3).1).2 ≠ 0 then ([],(R11 ys n (pick11 l 3).1).2) else if (ENC11 (R11 ys n (pick11 l 3).1).1).1 = ((pick11 l 3).1 : Int) :: ys then ((R11 ys n (pick11 l 3).1).1,0) else ([],3):=by
 have h1:=(pick11_spec l 3).1
 unfold DEC11
 rw [if_neg (by omega),if_neg (List.cons_ne_nil _ _),List.getD_cons_zero,if_neg (by omega),List.drop_succ_cons,List.drop_zero,Int.toNat_natCast,Int.toNat_natCast]
theorem DEC11_ENC11 {l : List Int} (hu : U64 l) (hl : l.length ≤ 65536) : DEC11 (ENC11 l).1 l.length = (l,0):=by
 obtain ⟨h1,h2,_⟩:=pick11_spec l 3
 have hR:=R11_W11 h1 hu hl (by rw [h2])
 rw [h2] at hR
 rw [ENC11_of hl]
 simp only
 rw [DEC11_back hl _ _ rfl,hR]
 simp only [ne_eq,not_true_eq_false,if_false]
 rw [ENC11_of hl,if_pos rfl]
theorem DEC11_ok {b : List Int} {n : Int} (hr : ∀ y ∈ b,0 ≤ y ∧ y ≤ 255) (h : (DEC11 b n).2 = 0) : 0 ≤ n ∧ n ≤ 65536 ∧ ((DEC11 b n).1.length : Int) = n ∧ U64 (DEC11 b n).1 ∧ ENC11 (DEC11 b n).1 = (b,0):=by
 unfold DEC11 at *
 by_cases c1 : n < 0 ∨ 65536 < n
 ·rw [if_pos c1] at h;cases h
 ·rw [if_neg c1] at h ⊢
  by_cases c2 : b = []
  ·rw [if_pos c2] at h;cases h
  ·rw [if_neg c2] at h ⊢
   by_cases c3 : 3 < b.getD 0 0
   ·rw [if_pos c3] at h;cases h
   ·rw [if_neg c3] at h ⊢
    by_cases c4 : (R11 (b.drop 1) n.toNat (b.getD 0 0).toNat).2 ≠ 0
    ·rw [if_pos c4] at h;exact absurd h c4
    ·rw [if_neg c4] at h ⊢
     by_cases c5 : (ENC11 (R11 (b.drop 1) n.toNat (b.getD 0 0).toNat).1).1 = b
     ·rw [if_pos c5]
      obtain ⟨k1,k2⟩:=R11_ok (ys:=b.drop 1) (n:=n.toNat) (t:=(b.getD 0 0).toNat) (fun y hy => hr y (List.mem_of_mem_drop hy)) (by simpa using c4)
      refine ⟨by omega,by omega,by rw [k2];omega,k1,?_⟩
      have e:=ENC11_of (l:=(R11 (b.drop 1) n.toNat (b.getD 0 0).toNat).1) (by rw [k2];omega)
      rw [e] at c5 ⊢
      simp only at c5
      simp only [c5]
     ·rw [if_neg c5] at h;cases h
theorem W11_ge {l : List Int} {t : Nat} (ht : t ≤ 3) (hne : l ≠ []) (hl : l.length ≤ 65536) (h : (W11 l t).2 = 0) : 8 ≤ (W11 l t).1.length:=by
 have hp:=List.length_pos_iff.2 hne
 rcases tag_cases ht with rfl | rfl | rfl | rfl
 ·rw [W11_0];simp only [fx8_len];omega
 ·rw [W11_1] at *
  by_cases c : l = [] ∨ ¬ allSame l
  ·rw [if_pos c] at h;cases h
  ·rw [if_neg c];simp only [fixL_len];omega
 ·rw [W11_2,ENC10_of hl]
  have:=dic_pos hne
  simp only [List.length_append,fx8_len];omega
 ·rw [W11_3,ENC9_of hl]
  have h64 : 64 ≤ (GB l).length:=by
   cases l with
   | nil => exact absurd rfl hne
   | cons y t => unfold GB;rw [List.length_append,bitsOf_length];omega
  simp only [bytesI_length];unfold nb;omega
theorem ENC11_rep (v : Int) (k : Nat) (hl : k + 1 ≤ 65536) : (ENC11 (List.replicate (k + 1) v)).1.length = 9:=by
 have hl' : (List.replicate (k + 1) v).length ≤ 65536:=by rw [List.length_replicate];exact hl
 have hne : List.replicate (k + 1) v ≠ []:=by rw [List.replicate_succ];exact List.cons_ne_nil _ _
 obtain ⟨h1,h2,h3⟩:=pick11_spec (List.replicate (k + 1) v) 3
 have hs : allSame (List.replicate (k + 1) v):=allSame_iff.2 fun x hx => by rw [List.eq_of_mem_replicate hx,List.replicate_succ];rfl
 have e1 : W11 (List.replicate (k + 1) v) 1 = (fixL ((List.replicate (k + 1) v).getD 0 0) 8,0):=by
  rw [W11_1,if_neg (by
   intro c;rcases c with c | c
   ·exact hne c
   ·exact c hs)]
 have a1:=h3 1 (by omega) (by rw [e1])
 rw [e1] at a1
 simp only [fixL_len] at a1
 have a2:=W11_ge h1 hne hl' (by rw [h2])
 rw [h2] at a2
 simp only at a2
 rw [ENC11_of hl']
 simp only [List.length_cons]
 omega
end Go.Proofs.YthapipgaohlgdaaGreatDoor


namespace Go.Proofs.YthapipgaohlgdaaGreatDoor
open Go.RowKit
def e8c (l : List Int) : List Int:=(ENC8 l).1
def e11c (l : List Int) : List Int:=(ENC11 l).1
theorem codec8 : Codec e8c DEC8 I64s where
 back:=fun _ g h => DEC8_ENC8 g h
 ok:=fun b n hr h => by
  obtain ⟨_,_,h3,h4,h5⟩:=DEC8_ok (b:=b) (n:=n) hr h
  exact ⟨h3,h4,by unfold e8c;rw [h5]⟩
 len:=fun _ h => (ENC8_len h).1
theorem codec11 : Codec e11c DEC11 U64 where
 back:=fun _ g h => DEC11_ENC11 g h
 ok:=fun b n hr h => by
  obtain ⟨_,_,h3,h4,h5⟩:=DEC11_ok (b:=b) (n:=n) hr h
  exact ⟨h3,h4,by unfold e11c;rw [h5]⟩
 len:=fun _ h => (ENC11_len h).1
def ENCC (tn : List Int) (s : List (Int × Int)) : List Int × Int:=ENC12 e8c e11c tn s
def DECC (b : List Int) : (List Int × List (Int × Int)) × Int:=DEC12 DEC8 DEC11 b
def Gs (s : List (Int × Int)) : Prop:=I64s (s.map Prod.fst) ∧ U64 (s.map Prod.snd)
theorem DECC_ENCC {tn : List Int} {s : List (Int × Int)} (ht : tn.length ≤ 64) (hs : s.length ≤ 65536) (g : Gs s) : DECC (ENCC tn s).1 = ((tn,s),0):=DEC12_ENC12 codec8 codec11 ht hs g.1 g.2
theorem DECC_more {tn : List Int} {s : List (Int × Int)} {r : List Int} (ht : tn.length ≤ 64) (hs : s.length ≤ 65536) (hr : r ≠ []) : DECC ((ENCC tn s).1 ++ r) = (chNone,3):=DEC12_more codec8 codec11 ht hs hr
theorem DECC_cut {tn : List Int} {s : List (Int × Int)} {k : Nat} (ht : tn.length ≤ 64) (hs : s.length ≤ 65536) (hk : k < (ENCC tn s).1.length) : DECC ((ENCC tn s).1.take k) = (chNone,2):=DEC12_cut codec8 codec11 ht hs hk
theorem DECC_ok {b : List Int} (hr : ∀ y ∈ b,0 ≤ y ∧ y ≤ 255) (h : (DECC b).2 = 0) : ENCC (DECC b).1.1 (DECC b).1.2 = (b,0) ∧ (DECC b).1.1.length ≤ 64 ∧ (DECC b).1.2.length ≤ 65536 ∧ Gs (DECC b).1.2:=by
 obtain ⟨h1,h2,h3,h4,h5⟩:=DEC12_ok codec8 codec11 hr h
 exact ⟨h1,h2,h3,h4,h5⟩
theorem DECC_err {b : List Int} (h : (DECC b).2 ≠ 0) : (DECC b).1 = chNone:=DEC12_err h
theorem ENCC_long {tn : List Int} {s : List (Int × Int)} (h : 64 < tn.length ∨ 65536 < s.length) : ENCC tn s = ([],4):=if_pos h
theorem ENCC_of {tn : List Int} {s : List (Int × Int)} (h : tn.length ≤ 64) (h' : s.length ≤ 65536) : ENCC tn s = (1 :: (blk tn ++ (gs s.length ++ (blk (e8c (s.map Prod.fst)) ++ blk (e11c (s.map Prod.snd))))),0):=if_neg (by omega)
theorem blk_small {b : List Int} (h : b.length ≤ 127) : blk b = (b.length : Int) :: b:=by
 unfold blk
 rw [gs_small (by omega)]
 rfl
def sb (s : ByteArray) : List Int:=s.data.toList.map fun c => (c.toNat : Int)
theorem sb_len (s : ByteArray) : (sb s).length = s.size:=by simp [sb]
theorem sb_range (s : ByteArray) : ∀ y ∈ sb s,0 ≤ y ∧ y ≤ 255:=by
 intro y hy
 simp only [sb,List.mem_map] at hy
 obtain ⟨c,_,rfl⟩:=hy
 have:=c.toNat_lt
 omega
theorem of_sb (s : ByteArray) : strOfNums (sb s) = s:=by
 unfold strOfNums sb
 rw [List.map_map]
 have : s.data.toList.map ((fun n : Int => UInt8.ofNat n.toNat) ∘ fun c : UInt8 => (c.toNat : Int)) = s.data.toList:=by
  refine (List.map_congr_left (g:=id) (fun x _ => ?_)).trans (List.map_id _)
  simp
 rw [this]
theorem sb_of {l : List Int} (h : ∀ y ∈ l,0 ≤ y ∧ y ≤ 255) : sb (strOfNums l) = l:=by
 unfold strOfNums sb
 rw [List.map_map]
 refine (List.map_congr_left (g:=id) (fun x hx => ?_)).trans (List.map_id _)
 have:=h x hx
 simp only [Function.comp,id]
 rw [UInt8.toNat_ofNat']
 omega
end Go.Proofs.YthapipgaohlgdaaGreatDoor


namespace Go.Proofs.YthapipgaohlgdaaGreatDoor
set_option maxRecDepth 100000
open Go.RowKit Go.ChangeShapes Go.WideShapes
def Sps (w : World) (v : Value) (s : List (Int × Int)) : Prop :=
 ∃ ao cap,v = .slice ao s.length cap ∧ s.length ≤ cap ∧ (s ≠ [] → ∃ b off,ao = some ⟨b,off,none⟩ ∧ ∀ j,j < s.length →
  w.cell? ⟨b,off + j * 2,none⟩ = some (.int .i64 (s.getD j (0,0)).1) ∧ w.cell? ⟨b,off + j * 2 + 1,none⟩ = some (.int .u64 (s.getD j (0,0)).2))
theorem Sps.len {w : World} {v : Value} {s : List (Int × Int)} (h : Sps w v s) : ∃ ao cap,v = .slice ao s.length cap:=by
 obtain ⟨ao,cap,rfl,_⟩:=h
 exact ⟨ao,cap,rfl⟩
theorem Sps.nil (w : World) : Sps w (.slice none 0 0) []:=⟨none,0,rfl,Nat.le_refl _,fun h => absurd rfl h⟩
theorem Sps.at {w : World} {v : Value} {s : List (Int × Int)} (h : Sps w v s) (j : Nat) (hj : j < s.length) :
  ∃ b off cap,v = .slice (some ⟨b,off,none⟩) s.length cap ∧ w.cell? ⟨b,off + j * 2,none⟩ = some (.int .i64 (s.getD j (0,0)).1) ∧ w.cell? ⟨b,off + j * 2 + 1,none⟩ = some (.int .u64 (s.getD j (0,0)).2):=by
 obtain ⟨ao,cap,rfl,_,hr⟩:=h
 obtain ⟨b,off,rfl,hc⟩:=hr (by intro h0;subst h0;simp at hj)
 exact ⟨b,off,cap,rfl,hc j hj⟩
theorem Sps.keep {w w' : World} {v : Value} {s : List (Int × Int)} (h : Sps w v s) {S : Nat → Prop} (ho : Only S w w') (hs : ∀ b,v.ownBlock = some b → ¬ S b) : Sps w' v s:=by
 obtain ⟨ao,cap,rfl,hl,hr⟩:=h
 refine ⟨ao,cap,rfl,hl,fun hne => ?_⟩
 obtain ⟨b,off,rfl,hc⟩:=hr hne
 refine ⟨b,off,rfl,fun j hj => ?_⟩
 have hb : ¬ S b:=hs b rfl
 obtain ⟨h0,h1⟩:=hc j hj
 have hlt : b < w.heap.size:=World.block_lt_of_cell? w _ h0
 have e:=ho.block b hlt hb
 exact ⟨by rw [← h0];unfold World.cell?;rw [e],by rw [← h1];unfold World.cell?;rw [e]⟩
theorem Sps.past {w w' : World} {v : Value} {s : List (Int × Int)} (h : Sps w v s) (o : Only (fun _ => False) w w') : Sps w' v s:=h.keep o (fun _ _ f => f)
theorem sps_open {H : Type} {enc : TypeId × Value → H} {W : World} {fuel : Nat} {u : Value} {x : DataW H × List MemPlace}
  (hf : DataW.trod enc Tryz.prog W 0 (fun _ => true) true fuel 22 [u] = some x) : ∃ s : List (Int × Int),Sps W u s ∧ Gs s ∧ s.length ≤ maxLen:=by
 rcases Deep.open_slice_pairs Tryz.underlying22 Tryz.underlying44 (by kernel_rfl) rfl rfl (by kernel_rfl) (by kernel_rfl) hf with ⟨hcs,_⟩ | ⟨x,l,c,m,n,V0,V1,D0,D1,P0,P1,hcs,_,hl,hm,hmm,_,hi⟩
 ·simp at hcs
  subst hcs
  exact ⟨[],Sps.nil _,⟨by simp [I64s],by simp [U64]⟩,by simp⟩
 ·simp at hcs
  subst hcs
  simp only [if_true] at hmm
  rw [hmm] at hi
  clear hmm
  have each : ∀ i,i < l → ∃ q : Int × Int,W.cell? (x.add (i * 2)) = some (.int .i64 q.1) ∧ W.cell? (x.add (i * 2 + 1)) = some (.int .u64 q.2) ∧ (Lit.int .i64 q.1).wf = true ∧ (Lit.int .u64 q.2).wf = true:=by
   intro i hlt
   obtain ⟨c0,c1,t0,t1⟩:=hi i (by omega)
   obtain ⟨q0,e0,_,w0⟩:=DataW.trod_int Tryz.underlying3 t0
   obtain ⟨q1,e1,_,w1⟩:=DataW.trod_int Tryz.underlying42 t1
   simp at e0 e1
   exact ⟨(q0,q1),by rw [c0,e0],by rw [c1,e1],w0,w1⟩
  obtain ⟨q,hq⟩:=Deep.choose_lt each
  have hget : ∀ j,j < l → ((List.range l).map q).getD j (0,0) = q j:=fun j hj => by
   rw [List.getD_eq_getElem?_getD];simp [hj]
  refine ⟨(List.range l).map q,⟨some x,c,by simp,by simpa using hl,fun hne => ?_⟩,⟨?_,?_⟩,by simp;omega⟩
  ·have hp : 0 < l:=by
    cases l with
    | zero => simp at hne
    | succ n => omega
   obtain ⟨b,off,spot⟩:=x
   have hspot : spot = none:=by simpa [Addr.add] using World.cell?_spot (hq 0 hp).1
   subst hspot
   refine ⟨b,off,rfl,fun j hj => ?_⟩
   have hj' : j < l:=by simpa using hj
   rw [hget j hj']
   have h0:=(hq j hj').1
   have h1:=(hq j hj').2.1
   rw [Go.WideShapes.add_plain] at h0 h1
   exact ⟨h0,by rw [Nat.add_assoc];exact h1⟩
  ·intro y hy
   simp only [List.mem_map,List.mem_range] at hy
   obtain ⟨_,⟨j,hj,rfl⟩,rfl⟩:=hy
   simpa [G64,Lit.wf,IntKind.min,IntKind.max,IntKind.signed,IntKind.bits] using (hq j hj).2.2.1
  ·intro y hy
   simp only [List.mem_map,List.mem_range] at hy
   obtain ⟨_,⟨j,hj,rfl⟩,rfl⟩:=hy
   simpa [Lit.wf,IntKind.min,IntKind.max,IntKind.signed,IntKind.bits] using (hq j hj).2.2.2
theorem chunk_open {H : Type} {enc : TypeId × Value → H} {W : World} {r : Reach} {b0 : Nat} {v : Value} {d : DataW H} {p : List MemPlace} (hval : Value.okWide Tryz.prog W r b0 24 v)
  (h : DataW.Trod enc Tryz.prog W 0 (fun _ => true) true 24 v d p) :
  ∃ (t : ByteArray) (u : Value) (s : List (Int × Int)),v = .agg #[.string t,u] ∧ t.size ≤ maxLen ∧ Sps W u s ∧ Gs s ∧ s.length ≤ maxLen:=by
 obtain ⟨cs,rfl,hsz⟩:=okWide_struct Tryz.underlying24 hval
 obtain ⟨fuel,hf⟩:=h
 have hc2 : Tryz.prog.cellsOf 24 = 2:=by kernel_rfl
 rw [hc2] at hsz
 obtain ⟨v0,v1,rfl⟩ : ∃ v0 v1,cs = #[v0,v1]:=by
  obtain ⟨l⟩:=cs
  match l,hsz with
  | [a,b],_ => exact ⟨a,b,rfl⟩
 obtain ⟨y0,y1,n,_,_,g0,g1⟩:=trod_struct2 Tryz.underlying24 hf
 have k0 : Tryz.prog.cellsOf 9 = 1:=by kernel_rfl
 have k1 : Tryz.prog.cellsOf 22 = 1:=by kernel_rfl
 simp [Value.cells,k0,k1] at g0 g1
 obtain ⟨t,e0,_,w0⟩:=DataW.trod_string Tryz.underlying9 g0
 simp at e0
 subst e0
 obtain ⟨s,h1,h2,h3⟩:=sps_open g1
 exact ⟨t,v1,s,rfl,w0,h1,h2,h3⟩
theorem string_of (w : World) (v : Value) (xs : List Int) (h : Bs .u8 w v xs) : (convert 26 9 v).run Tryz.prog w = .ok (.string (strOfNums xs)) w:=by
 obtain ⟨ao,cap,rfl,hl,hc⟩:=h
 cases ao with
 | none =>
  have hx : xs = []:=by
   by_cases hx : xs = []
   ·exact hx
   ·obtain ⟨b,off,e,_⟩:=hc hx;cases e
  subst hx
  rw [run_convert_bytes_nil w 26 5 Tryz.underlying26 Tryz.underlying5 _ _ _ Tryz.underlying9]
  rfl
 | some a =>
  by_cases hx : xs = []
  ·subst hx
   obtain ⟨b,off,spot⟩:=a
   rw [run_convert_bytes_string w 26 9 5 _ _ _ Tryz.underlying26 Tryz.underlying5 Tryz.underlying9]
   have hl0:=run_loadCells_list (P:=Tryz.prog) w ⟨b,off,spot⟩ [] (fun j u hj => by simp at hj)
   rw [List.length_nil] at *
   rw [run_bytesToString w _ 0 cap [] (by simpa using hl0)]
   rfl
  ·obtain ⟨b,off,e,hcell⟩:=hc hx
   cases e
   exact run_convert_bytes_arg w 26 5 Tryz.underlying26 Tryz.underlying5 b off xs.length cap xs rfl hcell _ Tryz.underlying9
end Go.Proofs.YthapipgaohlgdaaGreatDoor


namespace Go.Proofs.YthapipgaohlgdaaGreatDoor
set_option maxRecDepth 100000
open Go.RowKit
def prt (l : List Int) (n k : Nat) : List Int:=l.take k ++ List.replicate (n - k) 0
theorem prt_len (l : List Int) (k : Nat) (hk : k ≤ l.length) : (prt l l.length k).length = l.length:=by
 simp [prt];omega
theorem prt_zero (kd : IntKind) (l : List Int) (n : Nat) : (prt l n 0).map (Value.int kd) = (madeCells #[Value.int kd 0] (n * 1)).toList:=by
 simp only [prt,List.take_zero,List.nil_append,Nat.sub_zero,List.map_replicate]
 unfold madeCells
 apply List.ext_getElem
 ·simp
 ·intro i h1 h2
  simp [Nat.mod_one]
theorem prt_all (l : List Int) : prt l l.length l.length = l:=by simp [prt]
theorem prt_step (l : List Int) (k : Nat) (h : k < l.length) : (prt l l.length k).set k (l.getD k 0) = prt l l.length (k + 1):=by
 unfold prt
 obtain ⟨m,hm⟩ : ∃ m,l.length - k = m + 1:=⟨l.length - k - 1,by omega⟩
 rw [hm,show l.length - (k + 1) = m by omega,List.replicate_succ,List.set_append_right _ _ (by simp;omega)]
 rw [List.take_succ_eq_append_getElem h]
 have e : k - (l.take k).length = 0:=by simp;omega
 rw [e,List.set_cons_zero,List.append_assoc]
 simp [List.getD_eq_getElem?_getD,List.getElem?_eq_getElem h]
theorem pgetD (s : List (Int × Int)) (k : Nat) : ((s.map Prod.fst).getD k 0 = (s.getD k (0,0)).1) ∧ ((s.map Prod.snd).getD k 0 = (s.getD k (0,0)).2):=by
 rw [List.getD_eq_getElem?_getD,List.getD_eq_getElem?_getD,List.getD_eq_getElem?_getD,List.getElem?_map,List.getElem?_map]
 cases s[k]? <;> exact ⟨rfl,rfl⟩
set_option maxHeartbeats 1600000 in
theorem apart_any (v : Value) (s : List (Int × Int)) (w : World) (h : Sps w v s) (hl : s.length ≤ 65536) :
  Calls Tryz.prog 19 #[v] w fun e w' => ∃ u1 u2,e = .returned (.tuple #[u1,u2]) ∧ Bs .i64 w' u1 (s.map Prod.fst) ∧ Bs .u64 w' u2 (s.map Prod.snd) ∧ Only (fun _ => False) w w':=by
 obtain ⟨i0,hi,hz0,hz1,hz2⟩:=info_parts Tryz.infoI64
 obtain ⟨j0,hj,gz0,gz1,gz2⟩:=info_parts Tryz.infoU64
 have HB:=hideIt h
 obtain ⟨ao,cap,rfl⟩:=h.len
 obtain ⟨n,hn⟩ : ∃ n,n = s.length:=⟨_,rfl⟩
 rw [← hn] at hl HB
 rw [← hn]
 have HN:=hideIt hn
 obtain ⟨wm,hmk,hown0,hgr⟩:=run_make_full (P:=Tryz.prog) w w.heap.size 45 3 i0 (.int .i64 0) 1 Tryz.underlying45 hi hz0 hz1 .i64 .i64 n (by rw [hz2];omega) (by unfold maxLen;omega) (Nat.le_refl _)
 obtain ⟨wk,hmk2,hown1,hgr1⟩:=run_make_full (P:=Tryz.prog) wm wm.heap.size 46 42 j0 (.int .u64 0) 1 Tryz.underlying46 hj gz0 gz1 .i64 .i64 n (by rw [gz2];omega) (by unfold maxLen;omega) (Nat.le_refl _)
 have START : Hid (wk.ownsRow w.heap.size 3 1 (.slice (some ⟨w.heap.size,0,none⟩) n n) n ((prt (s.map Prod.fst) n 0).map (Value.int .i64)) ∧ wk.ownsRow wm.heap.size 42 1 (.slice (some ⟨wm.heap.size,0,none⟩) n n) n ((prt (s.map Prod.snd) n 0).map (Value.int .u64)) ∧ Only (fun _ => False) w wk ∧ w.heap.size < wm.heap.size):=by
  rw [show (Value.int .u64 0).cells = #[Value.int .u64 0] from rfl] at hown1
  rw [show (Value.int .i64 0).cells = #[Value.int .i64 0] from rfl] at hown0
  rw [prt_zero,prt_zero]
  have o1 : Only (fun _ => False) w wm:=(Only.refl _ _).grown hgr (fun _ _ e => by cases e)
  have o2 : Only (fun _ => False) wm wk:=(Only.refl _ _).grown hgr1 (fun _ _ e => by cases e)
  exact ⟨o2.own hown0 (fun _ _ f => f),hown1,o1.same o2,(hown0.lt _ rfl).2⟩
 clear hown0 hgr hown1 hgr1
 obtain ⟨N,hN⟩ : ∃ N,N = w.heap.size:=⟨_,rfl⟩
 obtain ⟨M,hM⟩ : ∃ M,M = wm.heap.size:=⟨_,rfl⟩
 rw [← hN] at hmk START
 rw [← hM] at hmk2 START
 have HNN:=hideIt hN
 have HMM:=hideIt hM
 clear h hn hN hM
 go_enter Tryz.func19,Tryz.ntmps19
 go_wp2
 go_loopw [16] (fun i wr => ∃ k : Nat,k ≤ n ∧ i = .int .i64 k ∧ wr.ownsRow N 3 1 (.slice (some ⟨N,0,none⟩) n n) n ((prt (s.map Prod.fst) n k).map (Value.int .i64)) ∧ wr.ownsRow M 42 1 (.slice (some ⟨M,0,none⟩) n n) n ((prt (s.map Prod.snd) n k).map (Value.int .u64)) ∧ Only (fun _ => False) w wr) (fun i _ => n - (intOf i).toNat)
 case atStart => exact ⟨0,Nat.zero_le _,rfl,START.out.1,START.out.2.1,START.out.2.2.1⟩
 case round =>
  obtain ⟨k,hk,rfl,hown,hown2,hon⟩:=hrel
  have HNM : N < M:=START.out.2.2.2
  clear START hmk hmk2
  have HOWN:=hideIt hown
  have HOWN2:=hideIt hown2
  have HON:=hideIt hon
  by_cases hlt : k < n
  ·have dlt : decide ((k : Int) < (n : Int)) = true:=by simp;omega
   have dlt2 : (k : Int) < (n : Int):=by omega
   have hkl : k < s.length:=by rw [← HN.out];exact hlt
   obtain ⟨b,off,cap',e1,hc0,hc1⟩:=(HB.out.past hon).at k hkl
   have ea : ao = some ⟨b,off,none⟩:=by simp at e1;exact e1.1
   subst ea
   clear e1
   have hcell : ∃ y,wr.cell? ⟨N,k,none⟩ = some (.int .i64 y):=by
    have hz:=prt_len (s.map Prod.fst) k (by simp;omega)
    rw [List.length_map,← HN.out] at hz
    refine ⟨(prt (s.map Prod.fst) n k).getD k 0,?_⟩
    rw [hown.cellAt k (by omega),List.getElem?_map,List.getElem?_eq_getElem (by rw [hz];omega),List.getD_eq_getElem?_getD,List.getElem?_eq_getElem (by rw [hz];omega)]
    rfl
   have hcell2 : ∃ y,wr.cell? ⟨M,k,none⟩ = some (.int .u64 y):=by
    have hz:=prt_len (s.map Prod.snd) k (by simp;omega)
    rw [List.length_map,← HN.out] at hz
    refine ⟨(prt (s.map Prod.snd) n k).getD k 0,?_⟩
    rw [hown2.cellAt k (by omega),List.getElem?_map,List.getElem?_eq_getElem (by rw [hz];omega),List.getD_eq_getElem?_getD,List.getElem?_eq_getElem (by rw [hz];omega)]
    rfl
   obtain ⟨y,hy⟩:=hcell
   obtain ⟨y2,hy2⟩:=hcell2
   have hfr : wr.frozen? ⟨N,k,none⟩ = false:=hown.frozenAt _
   have hfr2 : wr.frozen? ⟨M,k,none⟩ = false:=hown2.frozenAt _
   have hNlt : N < wr.heap.size:=(hown.lt _ rfl).2
   have hMlt : M < wr.heap.size:=(hown2.lt _ rfl).2
   have hstep : Hid (((prt (s.map Prod.fst) n k).map (Value.int .i64)).set k (.int .i64 (s.getD k (0,0)).1) = (prt (s.map Prod.fst) n (k + 1)).map (Value.int .i64)):=by
    simp only [Hid];rw [← List.map_set,← (pgetD s k).1]
    have:=prt_step (s.map Prod.fst) k (by simpa using hkl)
    rw [List.length_map,← HN.out] at this
    rw [this]
   have hstep2 : Hid (((prt (s.map Prod.snd) n k).map (Value.int .u64)).set k (.int .u64 (s.getD k (0,0)).2) = (prt (s.map Prod.snd) n (k + 1)).map (Value.int .u64)):=by
    simp only [Hid];rw [← List.map_set,← (pgetD s k).2]
    have:=prt_step (s.map Prod.snd) k (by simpa using hkl)
    rw [List.length_map,← HN.out] at this
    rw [this]
   generalize (s.getD k (0,0)).1 = x at *
   generalize (s.getD k (0,0)).2 = z at *
   have ne1 : ¬ N = M:=by omega
   have ne2 : ¬ M = N:=by omega
   have ne3 : ¬ N = wr.heap.size:=by omega
   have ne4 : ¬ M = wr.heap.size:=by omega
   have ne5 : ¬ wr.heap.size = N:=by omega
   have ne6 : ¬ wr.heap.size = M:=by omega
   have hk0 : (0 : Int) ≤ (k : Int):=by omega
   clear hown hown2 hon HB hkl
   go_wp2
   go_region
   go_wp2
   go_roundw
   case rel =>
    have e1:=(HOWN.out.stored k (.int .i64 x)).1
    rw [hstep.out] at e1
    have o1 : Only (fun b => b = N) wr (wr.setCell ⟨N,k,none⟩ (.int .i64 x)):=(Only.refl (fun b => b = N) wr).setCell (p:=⟨N,k,none⟩) (fun _ => rfl) _
    have e2:=((o1.own HOWN2.out (fun b hb e => by cases hb;exact ne2 e)).stored k (.int .u64 z)).1
    rw [hstep2.out] at e2
    have o2 : Only (fun b => b = M) (wr.setCell ⟨N,k,none⟩ (.int .i64 x)) ((wr.setCell ⟨N,k,none⟩ (.int .i64 x)).setCell ⟨M,k,none⟩ (.int .u64 z)):=(Only.refl (fun b => b = M) _).setCell (p:=⟨M,k,none⟩) (fun _ => rfl) _
    have o3 : Only (fun _ => False) ((wr.setCell ⟨N,k,none⟩ (.int .i64 x)).setCell ⟨M,k,none⟩ (.int .u64 z)) ((((wr.setCell ⟨N,k,none⟩ (.int .i64 x)).setCell ⟨M,k,none⟩ (.int .u64 z)).alloc (Obj.cells #[Value.int IntKind.i64 x,Value.int IntKind.u64 z] 44)).drew):=((Only.refl _ _).alloc _).drew
    have hNw:=HNN.out
    have hMN:=HNM
    refine ⟨k + 1,by omega,by go_num,o3.own (o2.own e1 (fun b hb e => by cases hb;exact ne1 e)) (fun _ _ f => f),o3.own e2 (fun _ _ f => f),?_⟩
    exact ((HON.out.trans o1 (fun b hb e => by omega)).trans o2 (fun b hb e => by omega)).trans o3 (fun _ _ f => f)
   case measure => simp [intOf];omega
  ·obtain rfl : k = n:=by omega
   have dlt : decide ((k : Int) < (k : Int)) = false:=by simp
   have F : Hid (Bs .i64 wr (.slice (some ⟨N,0,none⟩) k k) (s.map Prod.fst) ∧ Bs .u64 wr (.slice (some ⟨M,0,none⟩) k k) (s.map Prod.snd)):=by
    have h1:=HOWN.out
    have h2:=HOWN2.out
    have e1:=prt_all (s.map Prod.fst)
    have e2:=prt_all (s.map Prod.snd)
    rw [List.length_map,← HN.out] at e1 e2
    rw [e1] at h1
    rw [e2] at h2
    refine ⟨Bs.of_own (lo:=N) (E:=3) ?_,Bs.of_own (lo:=M) (E:=42) ?_⟩
    ·rw [List.length_map,← HN.out];exact h1
    ·rw [List.length_map,← HN.out];exact h2
   clear hown hown2 hon
   go_wp2
   go_ret2
   exact ⟨_,_,rfl,F.out.1,F.out.2,HON.out⟩
def scells (s : List (Int × Int)) : List Value:=s.flatMap fun p => [.int .i64 p.1,.int .u64 p.2]
theorem scells_cons (p : Int × Int) (s : List (Int × Int)) : scells (p :: s) = .int .i64 p.1 :: .int .u64 p.2 :: scells s:=rfl
theorem scells_len (s : List (Int × Int)) : (scells s).length = s.length * 2:=by
 induction s with
 | nil => rfl
 | cons p s ih => rw [scells_cons,List.length_cons,List.length_cons,List.length_cons,ih];omega
theorem scells_at (s : List (Int × Int)) : ∀ (j : Nat),j < s.length → (scells s)[j * 2]? = some (.int .i64 (s.getD j (0,0)).1) ∧ (scells s)[j * 2 + 1]? = some (.int .u64 (s.getD j (0,0)).2):=by
 induction s with
 | nil => intro j hj;simp at hj
 | cons p s ih =>
  intro j hj
  cases j with
  | zero => exact ⟨rfl,rfl⟩
  | succ j =>
   have:=ih j (by simpa using hj)
   rw [scells_cons,show (j + 1) * 2 = j * 2 + 1 + 1 by omega]
   simpa using this
theorem scells_set (s : List (Int × Int)) : ∀ (j : Nat) (a b : Int),j < s.length → ((scells s).set (j * 2) (.int .i64 a)).set (j * 2 + 1) (.int .u64 b) = scells (s.set j (a,b)):=by
 induction s with
 | nil => intro j a b hj;simp at hj
 | cons p s ih =>
  intro j a b hj
  cases j with
  | zero => rfl
  | succ j =>
   have:=ih j a b (by simpa using hj)
   rw [scells_cons,show (j + 1) * 2 = j * 2 + 1 + 1 by omega,List.set_cons_succ,List.set_cons_succ,List.set_cons_succ,List.set_cons_succ,List.set_cons_succ,scells_cons,this]
theorem Sps.of_own {w : World} {lo : Nat} {E : TypeId} {v : Value} {s : List (Int × Int)} (h : w.ownsRow lo E 2 v s.length (scells s)) : Sps w v s:=by
 rcases h.2 with ⟨rfl,hn⟩ | ⟨g,cap,cur,rfl,_,hg,hnc,_,hcs,htk⟩
 ·have : s = []:=List.eq_nil_of_length_eq_zero hn
  subst this
  exact Sps.nil w
 ·refine ⟨_,cap,rfl,hnc,fun _ => ⟨g,0,rfl,fun j hj => ?_⟩⟩
  have hc : ∀ i,i < s.length * 2 → w.cell? ⟨g,0 + i,none⟩ = (scells s)[i]?:=fun i hi => by
   rw [← htk,List.getElem?_take_of_lt hi]
   simp [World.cell?,hg]
  obtain ⟨h0,h1⟩:=scells_at s j hj
  exact ⟨by rw [hc _ (by omega)];exact h0,by rw [Nat.add_assoc,hc _ (by omega)];exact h1⟩
def ppart (s : List (Int × Int)) (n k : Nat) : List (Int × Int):=s.take k ++ List.replicate (n - k) (0,0)
theorem ppart_len (s : List (Int × Int)) (k : Nat) (hk : k ≤ s.length) : (ppart s s.length k).length = s.length:=by
 simp [ppart];omega
theorem ppart_zero (s : List (Int × Int)) (n : Nat) : scells (ppart s n 0) = (madeCells #[Value.int .i64 0,Value.int .u64 0] (n * 2)).toList:=by
 simp only [ppart,List.take_zero,List.nil_append,Nat.sub_zero]
 unfold madeCells
 apply List.ext_getElem?
 intro i
 have hl:=scells_len (List.replicate n ((0 : Int),(0 : Int)))
 rw [List.length_replicate] at hl
 by_cases h : i < n * 2
 ·obtain ⟨h0,h1⟩:=scells_at (List.replicate n ((0 : Int),(0 : Int))) (i / 2) (by simp;omega)
  have hg : (List.replicate n ((0 : Int),(0 : Int))).getD (i / 2) (0,0) = (0,0):=by
   rw [List.getD_eq_getElem?_getD,List.getElem?_replicate];split <;> rfl
  rw [hg] at h0 h1
  rcases Nat.mod_two_eq_zero_or_one i with hm | hm
  ·rw [show i / 2 * 2 = i by omega] at h0
   rw [h0];simp [h,hm]
  ·rw [show i / 2 * 2 + 1 = i by omega] at h1
   rw [h1];simp [h,hm]
 ·rw [List.getElem?_eq_none (by omega),List.getElem?_eq_none (by simp;omega)]
theorem ppart_all (s : List (Int × Int)) : ppart s s.length s.length = s:=by simp [ppart]
theorem ppart_step (s : List (Int × Int)) (k : Nat) (h : k < s.length) : (ppart s s.length k).set k (s.getD k (0,0)) = ppart s s.length (k + 1):=by
 unfold ppart
 obtain ⟨m,hm⟩ : ∃ m,s.length - k = m + 1:=⟨s.length - k - 1,by omega⟩
 rw [hm,show s.length - (k + 1) = m by omega,List.replicate_succ,List.set_append_right _ _ (by simp;omega)]
 rw [List.take_succ_eq_append_getElem h]
 have e : k - (s.take k).length = 0:=by simp;omega
 rw [e,List.set_cons_zero,List.append_assoc]
 simp [List.getD_eq_getElem?_getD,List.getElem?_eq_getElem h]
theorem Tryz.infoSm : (Tryz.prog.info? 44).map (fun i => (i.zero,i.size,i.bytes)) = some (some (.agg #[.int .i64 0,.int .u64 0]),2,16):=by kernel_rfl
set_option maxHeartbeats 1600000 in
theorem together_any (v1 v2 : Value) (s : List (Int × Int)) (w : World) (h1 : Bs .i64 w v1 (s.map Prod.fst)) (h2 : Bs .u64 w v2 (s.map Prod.snd)) (hl : s.length ≤ 65536) :
  Calls Tryz.prog 58 #[v1,v2] w fun e w' => ∃ u,e = .returned u ∧ w'.ownsRow w.heap.size 44 2 u s.length (scells s) ∧ Only (fun _ => False) w w':=by
 obtain ⟨i0,hi,hz0,hz1,hz2⟩:=info_parts Tryz.infoSm
 have HB1:=hideIt h1
 have HB2:=hideIt h2
 obtain ⟨ao,cap,rfl⟩:=h1.len
 obtain ⟨ao2,cap2,rfl⟩:=h2.len
 obtain ⟨n,hn⟩ : ∃ n,n = s.length:=⟨_,rfl⟩
 rw [List.length_map,← hn] at HB1 HB2
 rw [List.length_map,List.length_map,← hn]
 rw [← hn] at hl
 have HN:=hideIt hn
 obtain ⟨wm,hmk,hown0,hgr⟩:=run_make_full (P:=Tryz.prog) w w.heap.size 22 44 i0 (.agg #[.int .i64 0,.int .u64 0]) 2 Tryz.underlying22 hi hz0 hz1 .i64 .i64 n (by rw [hz2];omega) (by unfold maxLen;omega) (Nat.le_refl _)
 have START : Hid (wm.ownsRow w.heap.size 44 2 (.slice (some ⟨w.heap.size,0,none⟩) n n) n (scells (ppart s n 0)) ∧ Only (fun _ => False) w wm):=by
  rw [ppart_zero]
  exact ⟨hown0,(Only.refl _ _).grown hgr (fun _ _ e => by cases e)⟩
 clear hown0 hgr
 obtain ⟨N,hN⟩ : ∃ N,N = w.heap.size:=⟨_,rfl⟩
 rw [← hN] at hmk START
 rw [← hN]
 have HNN:=hideIt hN
 clear h1 h2 hn hN
 go_enter Tryz.func58,Tryz.ntmps58
 go_wp2
 go_loopw [13] (fun i wr => ∃ k : Nat,k ≤ n ∧ i = .int .i64 k ∧ wr.ownsRow N 44 2 (.slice (some ⟨N,0,none⟩) n n) n (scells (ppart s n k)) ∧ Only (fun _ => False) w wr) (fun i _ => n - (intOf i).toNat)
 case atStart => exact ⟨0,Nat.zero_le _,rfl,START.out.1,START.out.2⟩
 case round =>
  obtain ⟨k,hk,rfl,hown,hon⟩:=hrel
  clear START hmk
  have HOWN:=hideIt hown
  have HON:=hideIt hon
  by_cases hlt : k < n
  ·have dlt : decide ((k : Int) < (n : Int)) = true:=by simp;omega
   have hkl : k < s.length:=by rw [← HN.out];exact hlt
   obtain ⟨b,off,cap',e1,hc0⟩:=(HB1.out.past hon).at k (by simpa using hkl)
   have ea : ao = some ⟨b,off,none⟩:=by simp at e1;exact e1.1
   subst ea
   clear e1
   obtain ⟨b2,off2,cap2',e2,hc2⟩:=(HB2.out.past hon).at k (by simpa using hkl)
   have ea : ao2 = some ⟨b2,off2,none⟩:=by simp at e2;exact e2.1
   subst ea
   clear e2
   rw [(pgetD s k).1] at hc0
   rw [(pgetD s k).2] at hc2
   have hz:=ppart_len s k (by omega)
   rw [← HN.out] at hz
   have hat:=scells_at (ppart s n k) k (by omega)
   have hg : ∀ i,i < n * 2 → wr.cell? ⟨N,i,none⟩ = (scells (ppart s n k))[i]?:=fun i hi => hown.cellAt i hi
   have hy1:=hg (k * 2) (by omega)
   have hy2:=hg (k * 2 + 1) (by omega)
   rw [hat.1] at hy1
   rw [hat.2] at hy2
   have hfr : wr.frozen? ⟨N,k * 2,none⟩ = false:=hown.frozenAt _
   have hfr2 : wr.frozen? ⟨N,k * 2 + 1,none⟩ = false:=hown.frozenAt _
   have hstep : Hid (((scells (ppart s n k)).set (k * 2) (.int .i64 (s.getD k (0,0)).1)).set (k * 2 + 1) (.int .u64 (s.getD k (0,0)).2) = scells (ppart s n (k + 1))):=by
    simp only [Hid];rw [scells_set _ _ _ _ (by omega)]
    have:=ppart_step s k hkl
    rw [← HN.out] at this
    rw [← this]
   generalize (s.getD k (0,0)).1 = x at *
   generalize (s.getD k (0,0)).2 = z at *
   generalize ((ppart s n k).getD k (0,0)).1 = y1 at *
   generalize ((ppart s n k).getD k (0,0)).2 = y2 at *
   clear hown hon HB1 HB2 hkl hz hat hg
   go_wp2
   go_roundw
   case rel =>
    have e1:=(HOWN.out.stored (k * 2) (.int .i64 x)).1
    have e2:=(e1.stored (k * 2 + 1) (.int .u64 z)).1
    rw [hstep.out] at e2
    have hNw:=HNN.out
    refine ⟨k + 1,by omega,by go_num,e2,?_⟩
    exact (HON.out.setCell (p:=⟨N,k * 2,none⟩) (fun hb => by simp only at hb;omega) _).setCell (p:=⟨N,k * 2 + 1,none⟩) (fun hb => by simp only at hb;omega) _
   case measure => simp [intOf];omega
  ·obtain rfl : k = n:=by omega
   have dlt : decide ((k : Int) < (k : Int)) = false:=by simp
   have F : Hid (wr.ownsRow N 44 2 (.slice (some ⟨N,0,none⟩) k k) k (scells s)):=by
    have h1:=HOWN.out
    have e1:=ppart_all s
    rw [← HN.out] at e1
    rw [e1] at h1
    exact h1
   clear hown hon
   go_wp2
   go_ret
   exact ⟨_,rfl,F.out,HON.out⟩
end Go.Proofs.YthapipgaohlgdaaGreatDoor


namespace Go.Proofs.YthapipgaohlgdaaGreatDoor
open Go.RowKit
def pan (c : Int) : Ending:=.panicked [{ v:=.iface 27 (.int .i64 c),recovered:=false }]
set_option maxHeartbeats 400000 in
theorem most_any (n : Int) (w : World) : Calls Tryz.prog 13 #[.int .i64 n] w fun e w' => e = .returned (.int .i64 (MOST n)) ∧ w = w':=by
 unfold MOST
 by_cases h : n < 0
 ·rw [if_pos h]
  go_enter Tryz.func13,Tryz.ntmps13
  go_wp2
  all_goals (go_ret;exact ⟨ret_int (by omega),rfl⟩)
 ·rw [if_neg h]
  go_enter Tryz.func13,Tryz.ntmps13
  go_wp2
  all_goals (go_ret;exact ⟨ret_int (by omega),rfl⟩)
theorem mustBeOK_ok (w : World) : Calls Tryz.prog 52 #[.int .i64 0] w fun e w' => e = .returned (.tuple #[]) ∧ w = w':=by
 go_enter Tryz.func52,Tryz.ntmps52
 go_wp2
 go_end0
 exact ⟨rfl,rfl⟩
theorem mustBeOK_no (c : Int) (w : World) (h : c ≠ 0) : Calls Tryz.prog 52 #[.int .i64 c] w fun e w' => e = pan c ∧ w = w':=by
 have h0 : (c != 0) = true:=by simpa using h
 go_enter Tryz.func52,Tryz.ntmps52
 go_wp2
 exact ⟨rfl,rfl,rfl⟩
theorem must1_ok (v : Value) (w : World) : Calls Tryz.prog 47 #[v,.int .i64 0] w fun e w' => e = .returned v ∧ w = w':=by
 go_enter Tryz.func47,Tryz.ntmps47
 go_wp2_with fail
 refine (mustBeOK_ok w).mono ?_
 rintro e w' ⟨rfl,rfl⟩
 go_wp2
 go_ret
 exact ⟨rfl,rfl⟩
theorem must1_no (v : Value) (c : Int) (w : World) (h : c ≠ 0) : Calls Tryz.prog 47 #[v,.int .i64 c] w fun e w' => e = pan c ∧ w = w':=by
 go_enter Tryz.func47,Tryz.ntmps47
 go_wp2_with fail
 refine (mustBeOK_no c w h).mono ?_
 rintro e w' ⟨rfl,rfl⟩
 unfold pan
 go_wp2
 exact ⟨rfl,rfl,rfl⟩
theorem musts_ok (v : Value) (w : World) : Calls Tryz.prog 49 #[v,.int .i64 0] w fun e w' => e = .returned v ∧ w = w':=by
 go_enter Tryz.func49,Tryz.ntmps49
 go_wp2_with fail
 refine (mustBeOK_ok w).mono ?_
 rintro e w' ⟨rfl,rfl⟩
 go_wp2
 go_ret
 exact ⟨rfl,rfl⟩
theorem musts_no (v : Value) (c : Int) (w : World) (h : c ≠ 0) : Calls Tryz.prog 49 #[v,.int .i64 c] w fun e w' => e = pan c ∧ w = w':=by
 go_enter Tryz.func49,Tryz.ntmps49
 go_wp2_with fail
 refine (mustBeOK_no c w h).mono ?_
 rintro e w' ⟨rfl,rfl⟩
 unfold pan
 go_wp2
 exact ⟨rfl,rfl,rfl⟩
theorem mustu_ok (v : Value) (w : World) : Calls Tryz.prog 83 #[v,.int .i64 0] w fun e w' => e = .returned v ∧ w = w':=by
 go_enter Tryz.func83,Tryz.ntmps83
 go_wp2_with fail
 refine (mustBeOK_ok w).mono ?_
 rintro e w' ⟨rfl,rfl⟩
 go_wp2
 go_ret
 exact ⟨rfl,rfl⟩
theorem mustu_no (v : Value) (c : Int) (w : World) (h : c ≠ 0) : Calls Tryz.prog 83 #[v,.int .i64 c] w fun e w' => e = pan c ∧ w = w':=by
 go_enter Tryz.func83,Tryz.ntmps83
 go_wp2_with fail
 refine (mustBeOK_no c w h).mono ?_
 rintro e w' ⟨rfl,rfl⟩
 unfold pan
 go_wp2
 exact ⟨rfl,rfl,rfl⟩
theorem musti_ok (v : Value) (w : World) : Calls Tryz.prog 54 #[v,.int .i64 0] w fun e w' => e = .returned v ∧ w = w':=by
 go_enter Tryz.func54,Tryz.ntmps54
 go_wp2_with fail
 refine (mustBeOK_ok w).mono ?_
 rintro e w' ⟨rfl,rfl⟩
 go_wp2
 go_ret
 exact ⟨rfl,rfl⟩
theorem musti_no (v : Value) (c : Int) (w : World) (h : c ≠ 0) : Calls Tryz.prog 54 #[v,.int .i64 c] w fun e w' => e = pan c ∧ w = w':=by
 go_enter Tryz.func54,Tryz.ntmps54
 go_wp2_with fail
 refine (mustBeOK_no c w h).mono ?_
 rintro e w' ⟨rfl,rfl⟩
 unfold pan
 go_wp2
 exact ⟨rfl,rfl,rfl⟩
theorem mustv_ok (v : Value) (w : World) : Calls Tryz.prog 56 #[v,.int .i64 0] w fun e w' => e = .returned v ∧ w = w':=by
 go_enter Tryz.func56,Tryz.ntmps56
 go_wp2_with fail
 refine (mustBeOK_ok w).mono ?_
 rintro e w' ⟨rfl,rfl⟩
 go_wp2
 go_ret
 exact ⟨rfl,rfl⟩
theorem mustv_no (v : Value) (c : Int) (w : World) (h : c ≠ 0) : Calls Tryz.prog 56 #[v,.int .i64 c] w fun e w' => e = pan c ∧ w = w':=by
 go_enter Tryz.func56,Tryz.ntmps56
 go_wp2_with fail
 refine (mustBeOK_no c w h).mono ?_
 rintro e w' ⟨rfl,rfl⟩
 unfold pan
 go_wp2
 exact ⟨rfl,rfl,rfl⟩
set_option maxHeartbeats 400000 in
theorem readCount_err {w : World} {R : Nat} {v : Value} {ys : List Int} (h : CurAt 92 w R v ys) {s1 c : Int} {s2 : Nat} (hs : sVarint ys = (s1,s2,c)) (he : c ≠ 0) :
  Calls Tryz.prog 51 #[.pointer (some ⟨R,0,none⟩)] w fun e w' => e = pan c ∧ Only (fun k => k = R) w w':=by
 have A:=hideIt (varint_cur h)
 rw [hs] at A
 clear h hs
 go_enter Tryz.func51,Tryz.ntmps51
 go_wp2_with fail
 refine A.out.mono ?_
 rintro e w1 ⟨rfl,v2,_,_,o1⟩
 have O1:=hideIt o1
 clear o1 A
 go_wp2_with fail
 refine (mustu_no _ c w1 he).mono ?_
 rintro e w' ⟨rfl,rfl⟩
 unfold pan
 go_wp2
 exact ⟨rfl,rfl,O1.out⟩
set_option maxHeartbeats 400000 in
theorem readCount_long {w : World} {R : Nat} {v : Value} {ys : List Int} (h : CurAt 92 w R v ys) {n s2 : Nat} (hs : sVarint ys = ((n : Int),s2,0)) (hn : 65536 < n) :
  Calls Tryz.prog 51 #[.pointer (some ⟨R,0,none⟩)] w fun e w' => e = pan 4 ∧ Only (fun k => k = R) w w':=by
 have A:=hideIt (varint_cur h)
 rw [hs] at A
 have d1 : decide (65536 < (n : Int)) = true:=by simp;omega
 have d2 : decide (65536 < n) = true:=by simp;omega
 clear h hs
 go_enter Tryz.func51,Tryz.ntmps51
 go_wp2_with fail
 refine A.out.mono ?_
 rintro e w1 ⟨rfl,v2,_,_,o1⟩
 have O1:=hideIt o1
 clear o1 A
 go_wp2_with fail
 refine (mustu_ok _ w1).mono ?_
 rintro e w' ⟨rfl,rfl⟩
 go_wp2
 exact ⟨rfl,rfl,O1.out⟩
set_option maxHeartbeats 400000 in
theorem readCount_ok {w : World} {R : Nat} {v : Value} {ys : List Int} (h : CurAt 92 w R v ys) {n s2 : Nat} (hs : sVarint ys = ((n : Int),s2,0)) (hn : n ≤ 65536) :
  Calls Tryz.prog 51 #[.pointer (some ⟨R,0,none⟩)] w fun e w' => e = .returned (.int .i64 n) ∧ ∃ v2,CurAt 92 w' R v2 (ys.drop s2) ∧ v2.ownBlock = v.ownBlock ∧ Only (fun k => k = R) w w':=by
 have A:=hideIt (varint_cur h)
 rw [hs] at A
 have d1 : decide (65536 < (n : Int)) = false:=by simp;omega
 have d2 : decide (65536 < n) = false:=by simp;omega
 clear h hs
 go_enter Tryz.func51,Tryz.ntmps51
 go_wp2_with fail
 refine A.out.mono ?_
 rintro e w1 ⟨rfl,F1⟩
 have FF:=hideIt F1
 clear F1 A
 go_wp2_with fail
 refine (mustu_ok _ w1).mono ?_
 rintro e w' ⟨rfl,rfl⟩
 go_wp2
 go_ret
 exact ⟨rfl,FF.out⟩
end Go.Proofs.YthapipgaohlgdaaGreatDoor


namespace Go.Proofs.YthapipgaohlgdaaGreatDoor
set_option maxRecDepth 100000
open Go.RowKit Go.Shelf
attribute [local go_sem] Oper.semAt_some
set_option maxHeartbeats 1000000 in
theorem ends_nil_in (F : Fence) (n : Nat) (h3 : F.fn 137) (hro : F.round = none) (ao : Option Addr) (cap : Nat) (w : World) :
  CallsIn F n Tryz.prog 137 #[.slice ao 0 cap] w fun e W' => e = .returned (.tuple #[.int .u64 0,.int .u64 0]) ∧ Below w.heap.size w W':=by
 refine callsIn_of_wp_marks Tryz.func137 rfl h3 ?_ hro
 simp only [Tryz.ntmps137,List.size_toArray,List.length_cons,List.length_nil,Nat.reduceAdd,Nat.reduceSub,Array.replicate_succ,Array.replicate_zero,List.push_toArray,List.append_toArray,List.nil_append,List.cons_append]
 gi_wp2
 have bA:=(Boxed.new w 42 (.int .u64 0)).alloc (.cells #[.int .u64 0] 42)
 have bC:=Boxed.new (w.alloc (.cells #[.int .u64 0] 42)) 42 (.int .u64 0)
 rw [World.size_alloc] at bC
 have r1:=bA.cell
 have r3:=bC.cell
 refine ⟨.tuple #[.int .u64 0,.int .u64 0],?_,rfl,((Below.refl _ w).alloc (Nat.le_refl _) _).alloc (by simp) _⟩
 simp [results,Tryz.f137,go_sem,r1,r3]
theorem ends_bs (v : Value) (xs : List Int) (w : World) (h : Bs .u64 w v xs) (hl : xs.length ≤ 1000000000) :
  Calls Tryz.prog 137 #[v] w fun e w' => e = .returned (.tuple #[.int .u64 (lo xs),.int .u64 (hi xs)]) ∧ Only (fun _ => False) w w':=by
 obtain ⟨ao,cap,rfl,hc,hr⟩:=h
 refine ((callsIn_wide (n:=3)).1 ?_ : Calls Tryz.prog 137 #[.slice ao xs.length cap] w fun e w' => e = .returned (.tuple #[.int .u64 (lo xs),.int .u64 (hi xs)]) ∧ Below w.heap.size w w').mono fun e w' h => ⟨h.1,only_of_below h.2⟩
 cases xs with
 | nil => exact ends_nil_in _ _ trivial rfl ao cap w
 | cons x0 zs =>
  obtain ⟨b,off,rfl,hcell⟩:=hr (by simp)
  have c0 : w.cell? ⟨b,off,none⟩ = some (.int .u64 x0):=hcell 0 (by simp)
  by_cases h1 : cap = 1
  ·subst h1
   have h0 : zs = []:=List.eq_nil_of_length_eq_zero (by rw [List.length_cons] at hc;omega)
   subst h0
   exact ends_one_in _ _ trivial trivial trivial rfl (by omega) b off x0 w c0
  ·refine ends_in _ _ trivial trivial trivial rfl (by omega) b off cap zs x0 w c0 (by rw [List.length_cons] at hl;omega) (by rw [List.length_cons] at hc;omega) h1 ?_
   refine ⟨_,_,rfl,fun _ => ⟨b,off + 1,rfl,World.block_lt_of_cell? w _ c0,fun j hj => ?_⟩⟩
   have:=hcell (j + 1) (by rw [List.length_cons];omega)
   rw [show off + 1 + j = off + (j + 1) by omega,this]
   simp [List.getD_eq_getElem?_getD]
end Go.Proofs.YthapipgaohlgdaaGreatDoor


namespace Go.Proofs.YthapipgaohlgdaaGreatDoor
set_option maxRecDepth 100000
open Go.RowKit
def cat (ls : Nat → List Int) (k : Nat) : List Int:=(List.range k).flatMap ls
theorem cat_zero (ls : Nat → List Int) : cat ls 0 = []:=rfl
theorem cat_succ (ls : Nat → List Int) (k : Nat) : cat ls (k + 1) = cat ls k ++ ls k:=by simp [cat,List.range_succ]
theorem cat_mono (ls : Nat → List Int) {k m : Nat} (h : k ≤ m) : (cat ls k).length ≤ (cat ls m).length:=by
 induction m with
 | zero => rw [Nat.le_zero.1 h];exact Nat.le_refl _
 | succ m ih =>
  rcases Nat.lt_or_ge k (m + 1) with h' | h'
  ·have:=ih (by omega);rw [cat_succ,List.length_append];omega
  ·rw [show k = m + 1 by omega];exact Nat.le_refl _
set_option maxHeartbeats 1600000 in
theorem concat_n (B m : Nat) (vs : Nat → Value) (ls : Nat → List Int) (w : World) (hm : m ≤ 1000) (hm0 : 0 < m) (hc : ∀ i,i < m → w.cell? ⟨B,i,none⟩ = some (vs i)) (hb : ∀ i,i < m → Bs .u8 w (vs i) (ls i)) (nc : ∀ i,i < m → NoCap (vs i))
  (hp : 0 < (cat ls m).length) (hl : (cat ls m).length ≤ 140737488355328) :
  Calls Tryz.prog 22 #[.slice (some ⟨B,0,none⟩) m m] w fun e w' => ∃ v',e = .returned v' ∧ w'.ownsRow w.heap.size 5 1 v' (cat ls m).length ((cat ls m).map (Value.int .u8)) ∧ Only (fun _ => False) w w':=by
 obtain ⟨i0,hi,hz0,hz1,hz2⟩:=info_parts Tryz.infoU8
 have HC:=hideIt hc
 have HB:=hideIt hb
 have NC:=hideIt nc
 have HP:=hideIt hp
 have HL:=hideIt hl
 have hBw : B < w.heap.size:=World.block_lt_of_cell? w _ (hc 0 hm0)
 clear hc hb nc hp hl
 go_enter Tryz.func22,Tryz.ntmps22
 go_wp2
 go_loop [3,11] (fun s i => ∃ k : Nat,k ≤ m ∧ i = .int .i64 k ∧ s = .int .i64 (cat ls k).length) (fun _ i => m - (intOf i).toNat)
 case atStart => exact ⟨0,Nat.zero_le _,rfl,rfl⟩
 case round =>
  obtain ⟨k,hk,rfl,rfl⟩:=hrel
  by_cases hlt : k < m
  ·obtain ⟨ao,cap,e1⟩:=(HB.out k hlt).len
   have c0:=HC.out k hlt
   rw [e1] at c0
   have hnext : Hid ((cat ls (k + 1)).length = (cat ls k).length + (ls k).length):=by simp only [Hid];rw [cat_succ,List.length_append]
   have hle:=cat_mono ls (show k + 1 ≤ m by omega)
   rw [hnext.out] at hle
   have HX:=HL.out
   obtain ⟨s,hs⟩ : ∃ s,s = (cat ls k).length:=⟨_,rfl⟩
   obtain ⟨n,hn⟩ : ∃ n,n = (ls k).length:=⟨_,rfl⟩
   rw [← hs,← hn] at hle hnext
   rw [← hn] at c0
   rw [← hs]
   have hb2 : s + n ≤ 140737488355328:=by omega
   have dlt : decide ((k : Int) < (m : Int)) = true:=by simp;omega
   have d0 : decide ((s : Int) + n < 0) = false:=by simp;omega
   clear e1 hs hn hle HX
   go_wp2
   go_round
   case rel => exact ⟨k + 1,by omega,by simp,by rw [hnext.out];simp⟩
   case measure => simp [intOf];omega
  ·obtain rfl : k = m:=by omega
   have dlt : decide ((k : Int) < (k : Int)) = false:=by simp
   obtain ⟨s,hs⟩ : ∃ s,s = (cat ls k).length:=⟨_,rfl⟩
   have HS:=hideIt hs
   rw [← hs]
   have hs0 : 0 < s:=by rw [hs];exact HP.out
   have hs1 : s ≤ 140737488355328:=by rw [hs];exact HL.out
   have GN:=hideIt (grow_nil s w hs0 hs1)
   clear hs
   go_wp2_with fail
   refine GN.out.mono ?_
   rintro e w2 ⟨G,rfl,hown,hon⟩
   have hbel : Below w.heap.size w w2:=hon.low (Nat.le_refl _)
   clear GN hon
   go_wp2
   go_loopw [6,27] (fun o i wr => Below w.heap.size w wr ∧ ∃ j : Nat,j ≤ k ∧ i = .int .i64 j ∧ wr.ownsRow w.heap.size 5 1 o (cat ls j).length ((cat ls j).map (Value.int .u8))) (fun _ i _ => k - (intOf i).toNat)
   case atStart => exact ⟨hbel,0,Nat.zero_le _,rfl,hown⟩
   case round =>
    obtain ⟨hbw,j,hj,rfl,hown1⟩:=hrel
    clear hbel hown
    have hsz:=hbw.size
    by_cases hlt : j < k
    ·obtain ⟨ao,cap,e1⟩:=(HB.out j hlt).len
     have c0:=(hbw.cell (p:=⟨B,j,none⟩) hBw).trans (HC.out j hlt)
     have HBJ:=hideIt ((HB.out j hlt).later hbw)
     have NCJ:=hideIt (NC.out j hlt)
     rw [e1] at c0 HBJ NCJ
     have hnext : Hid (cat ls (j + 1) = cat ls j ++ ls j):=cat_succ ls j
     have hle:=cat_mono ls (show j + 1 ≤ k by omega)
     rw [hnext.out,List.length_append] at hle
     have HX:=HL.out
     obtain ⟨n,hn⟩ : ∃ n,n = (ls j).length:=⟨_,rfl⟩
     rw [← hn] at c0 HBJ NCJ
     have dlt2 : decide ((j : Int) < (k : Int)) = true:=by simp;omega
     clear e1 hn
     have hle2:=hideIt hle
     clear hle HX
     go_wp2_with (at_builtin;refine wpList_append_bs _ rfl _ _ _ rfl w.heap.size 5 i0 (.int .u8 0) 1 Tryz.underlying26 hi hz0 hz1 hz2 rfl _ _ _ rfl hown1 .u8 _ (ls j) rfl HBJ.out NCJ.out ?c3 ?c4 hsz ?_)
     case c3 => have:=hle2.out;have:=HL.out;unfold maxLen;omega
     case c4 => have:=hle2.out;have:=HL.out;omega
     intro v' w3 hown2 hgrow _ _
     have hb3 : Below w.heap.size w w3:=hbw.grown hgrow hsz (fun q hq => (hown1.lt q hq).1)
     rw [← List.map_append,← List.length_append,← hnext.out] at hown2
     clear hown1 hgrow
     go_wp2
     go_roundw
     case rel => exact ⟨hb3,j + 1,by omega,by simp,hown2⟩
     case measure => simp [intOf];omega
    ·obtain rfl : j = k:=by omega
     have dlt2 : decide ((j : Int) < (j : Int)) = false:=by simp
     go_wp2
     go_ret
     exact ⟨_,rfl,hown1,only_of_below hbw⟩
end Go.Proofs.YthapipgaohlgdaaGreatDoor
