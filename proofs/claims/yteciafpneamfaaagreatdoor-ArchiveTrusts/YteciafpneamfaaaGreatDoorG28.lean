import Derived.Test.YteciafpneamfaaaGreatDoorG27
namespace Go.Proofs.YteciafpneamfaaaGreatDoor
set_option maxRecDepth 100000
open Go.RowKit _root_.Go.Proofs.Tryz
variable {w w' W:World} {v:Value} {ys xs l:LI} {R n p k g B:Nat} {P:Program} {ls:List (LI)} {E:TypeId}
def tzF:Nat->Nat->Nat
 | 0,_=>0
 | f+1,x=>if x % 2=0 then tzF f (x / 2)+1 else 0
def tz (x:Nat):Nat:=tzF 64 x
def ldz (x:Nat):Nat:=min (64 - wid x) 31
abbrev fitsW (x a z:Nat):Prop:=a<=64 - wid x∧z<=tz x
def newW (x:Nat):List Bool:=true :: true :: (Ql (ldz x) 5++(Ql (63 - ldz x - tz x) 6++Ql (x / 2^tz x) (64 - ldz x - tz x)))
def gx (x:Nat) (wn:Option (Nat × Nat)):List Bool × Option (Nat × Nat) :=
 if x=0 then ([false],wn) else
 match wn with
 | none=>(newW x,some (ldz x,tz x))
 | some (a,z)=>if fitsW x a z then (true :: false :: Ql (x / 2^z) (64 - a - z),some (a,z)) else (newW x,some (ldz x,tz x))
def gE:Nat->Option (Nat × Nat)->LI->List Bool
 | _,_,[]=>[]
 | p,wn,y :: t=>(gx (p ^^^ y.toNat) wn).1++gE y.toNat (gx (p ^^^ y.toNat) wn).2 t
def GB:LI->List Bool
 | []=>[]
 | y :: t=>Ql y.toNat 64++gE y.toNat none t
def Win (wn:Option (Nat × Nat)):Prop:=∀a z,wn=some (a,z)->a<=31∧a+z<=63
theorem PE:∀(f x:Nat),2^tzF f x∣x
 | 0,x=>by simp[tzF]
 | f+1,x=>by
  rw[tzF]
  by_cases h:x % 2=0
  ·rw[if_pos h]
   obtain⟨k,hk⟩:=PE f (x / 2);refine⟨k,?_⟩
   have e:x=2*(x / 2):=by omega
   rw[Nat.pow_succ,Nat.mul_comm (2^tzF f (x / 2)) 2,Nat.mul_assoc,<-hk];exact e
  ·rw[if_neg h];simp
theorem Ns:∀(f x:Nat),0<x->x<2^f->x / 2^tzF f x % 2=1
 | 0,x,h0,h1=>by simp at h1;omega
 | f+1,x,h0,h1=>by
  rw[tzF]
  by_cases h:x % 2=0
  ·rw[if_pos h,Nat.pow_succ,Nat.mul_comm,<-Nat.div_div_eq_div_mul]
   exact Ns f (x / 2) (by omega) (by rw[Nat.pow_succ] at h1;omega)
  ·rw[if_neg h];simp;omega
theorem Mj:∀(f x:Nat),0<x->x<2^f->tzF f x<f
 | 0,x,h0,h1=>by simp at h1;omega
 | f+1,x,h0,h1=>by
  rw[tzF]
  by_cases h:x % 2=0
  ·rw[if_pos h]
   have:=Mj f (x / 2) (by omega) (by rw[Nat.pow_succ] at h1;omega);omega
  ·rw[if_neg h];omega
theorem p64:(2:Nat)^64=18446744073709551616:=by decide
theorem XG {x z:Nat} (h:z<=tz x):x / 2^z*2^z=x:=by
 have h1:2^z∣x:=Nat.dvd_trans (Nat.pow_dvd_pow 2 h) (PE 64 x);exact Nat.div_mul_cancel h1
theorem Z5 {x a z:Nat} (hx:x<18446744073709551616) (ha:a<=64 - wid x) (hz:a+z<=63):x / 2^z<2^(64 - a - z):=by
 have hw:=Kk x hx;have h1:x<2^(64 - a):=(Yj x (64 - a)).1 (by omega);rw[Nat.div_lt_iff_lt_mul (Nat.two_pow_pos z),<-Nat.pow_add];rw[show 64 - a - z+z=64 - a by omega];exact h1
theorem Zn {x:Nat} (h0:0<x) (hx:x<18446744073709551616):ldz x<=31∧ldz x<=64 - wid x∧ldz x+tz x<=63:=by
 have h1:tz x<64:=Mj 64 x h0 (by rw[p64];exact hx)
 have h2:tz x<wid x:=by
  rcases Nat.lt_or_ge (tz x) (wid x) with h | h
  ·exact h
  ·have h3:x<2^tz x:=(Yj x (tz x)).1 h
   have h4:x / 2^tz x*2^tz x=x:=XG (Nat.le_refl _);rw[Nat.div_eq_of_lt h3] at h4;omega
 have hw:=Kk x hx;unfold ldz;omega
theorem Win.next {x:Nat} {wn:Option (Nat × Nat)} (hw:Win wn) (hx:x<18446744073709551616):Win (gx x wn).2:=by
 intro a z h;unfold gx at h
 by_cases h0:x=0
 ·rw[if_pos h0] at h;exact hw a z h
 ·rw[if_neg h0] at h
  have hn:=Zn (by omega) hx
  cases wn with
  | none =>
   simp only[Option.some.injEq,Prod.mk.injEq] at h;obtain⟨rfl,rfl⟩:=h;exact⟨hn.1,hn.2.2⟩
  | some p =>
   obtain⟨a',z'⟩:=p;simp only at h
   by_cases hf:fitsW x a' z'
   ·rw[if_pos hf] at h;exact hw a z h
   ·rw[if_neg hf] at h
    simp only[Option.some.injEq,Prod.mk.injEq] at h;obtain⟨rfl,rfl⟩:=h;exact⟨hn.1,hn.2.2⟩
theorem Win.none:Win none:=λa z h=>by cases h
def gR (wn:Option (Nat × Nat)):List Bool->Nat × Option (Nat × Nat) × List Bool × Int
 | []=>(0,wn,[],2)
 | false :: r=>(0,wn,r,0)
 | [true]=>(0,wn,[],2)
 | true :: false :: r =>
  match wn with
  | none=>(0,none,r,3)
  | some (a,z)=>if r.length<64 - a - z then (0,wn,r,2) else (bnum (r.take (64 - a - z))*2^z,wn,r.drop (64 - a - z),0)
 | true :: true :: r =>
  if r.length<5 then (0,wn,r,2) else
  if r.length<11 then (0,wn,r,2) else
  if 63<bnum (r.take 5)+bnum ((r.drop 5).take 6) then (0,wn,r,3) else
  if r.length<12+bnum ((r.drop 5).take 6) then (0,wn,r,2) else
  (bnum ((r.drop 11).take (bnum ((r.drop 5).take 6)+1))*2^(63 - bnum (r.take 5) - bnum ((r.drop 5).take 6)),some (bnum (r.take 5),63 - bnum (r.take 5) - bnum ((r.drop 5).take 6)),r.drop (12+bnum ((r.drop 5).take 6)),0)
def gDA:Nat->LI->Nat->Option (Nat × Nat)->List Bool->LI × Int
 | 0,acc,_,_,_=>(acc,0)
 | n+1,acc,p,wn,l=>if (gR wn l).2.2.2≠0 then ([],(gR wn l).2.2.2) else gDA n (acc++[((p ^^^ (gR wn l).1:Nat):Int)]) (p ^^^ (gR wn l).1) (gR wn l).2.1 (gR wn l).2.2.1
def gRd (l:List Bool) (n:Nat):LI × Int :=
 if n=0 then ([],0) else if l.length<64 then ([],2) else gDA (n - 1) [(bnum (l.take 64):Int)] (bnum (l.take 64)) none (l.drop 64)
theorem Zz {v n:Nat} (h:v<2^n):bnum (Ql v n)=v:=by rw[JL,Nat.mod_eq_of_lt h]
theorem NY {x:Nat} {wn:Option (Nat × Nat)} (h0:0<x) (hx:x<18446744073709551616) (r:List Bool):gR wn (newW x++r)=(x,some (ldz x,tz x),r,0):=by
 obtain⟨h1,h2,h3⟩:=Zn h0 hx;have l5:(Ql (ldz x) 5).length=5:=Ys _ _;have l6:(Ql (63 - ldz x - tz x) 6).length=6:=Ys _ _;have lm:(Ql (x / 2^tz x) (64 - ldz x - tz x)).length=64 - ldz x - tz x:=Ys _ _
 have p5:(2:Nat)^5=32:=by decide
 have p6:(2:Nat)^6=64:=by decide
 have e5:bnum (Ql (ldz x) 5)=ldz x:=Zz (by omega);have e6:bnum (Ql (63 - ldz x - tz x) 6)=63 - ldz x - tz x:=Zz (by omega);have em:bnum (Ql (x / 2^tz x) (64 - ldz x - tz x))=x / 2^tz x:=Zz (Z5 hx h2 h3);have hb:=XG (Nat.le_refl (tz x));generalize hA:Ql (ldz x) 5=A at *;generalize hB:Ql (63 - ldz x - tz x) 6=B at *;generalize hC:Ql (x / 2^tz x) (64 - ldz x - tz x)=C at *
 have hn:newW x++r=true :: true :: (A++(B++(C++r))):=by
  unfold newW;rw[hA,hB,hC];simp
 rw[hn]
 have t5:(A++(B++(C++r))).take 5=A:=by rw[List.take_left' l5]
 have d5:(A++(B++(C++r))).drop 5=B++(C++r):=by rw[List.drop_left' l5]
 have t6:(B++(C++r)).take 6=B:=by rw[List.take_left' l6]
 have d6:(B++(C++r)).drop 6=C++r:=by rw[List.drop_left' l6]
 have h4:(A++(B++(C++r))).drop 11=C++r:=by rw[show (11:Nat)=5+6 from rfl,<-List.drop_drop,d5,d6]
 have hlen:(A++(B++(C++r))).length=11+(64 - ldz x - tz x)+r.length:=by
  simp only[Qb];omega
 rw[gR];rw[t5,d5,t6,h4,e5,e6];rw[if_neg (by omega),if_neg (by omega),if_neg (by omega),if_neg (by omega)]
 have q1:63 - ldz x - tz x+1=64 - ldz x - tz x:=by omega
 have q2:63 - ldz x - (63 - ldz x - tz x)=tz x:=by omega
 have d12:(A++(B++(C++r))).drop (12+(63 - ldz x - tz x))=r:=by
  rw[show 12+(63 - ldz x - tz x)=11+(64 - ldz x - tz x) by omega,<-List.drop_drop,h4,List.drop_left' lm]
 rw[q1,q2,d12,List.take_left' lm,em,hb]
theorem gR_gx {x:Nat} {wn:Option (Nat × Nat)} (hw:Win wn) (hx:x<18446744073709551616) (r:List Bool):gR wn ((gx x wn).1++r)=(x,(gx x wn).2,r,0):=by
 unfold gx
 by_cases h0:x=0
 ·subst h0
  rw[if_pos rfl];rfl
 ·rw[if_neg h0]
  cases wn with
  | none=>exact NY (by omega) hx r
  | some p =>
   obtain⟨a,z⟩:=p;simp only
   by_cases hf:fitsW x a z
   ·rw[if_pos hf]
    obtain⟨ha,hz⟩:=hf;obtain⟨w1,w2⟩:=hw a z rfl;have lm:(Ql (x / 2^z) (64 - a - z)).length=64 - a - z:=Ys _ _;have em:bnum (Ql (x / 2^z) (64 - a - z))=x / 2^z:=Zz (Z5 hx ha w2);have hb:=XG hz;generalize Ql (x / 2^z) (64 - a - z)=C at *
    show gR (some (a,z)) (true :: false :: (C++r))=_
    rw[gR];simp only;rw[if_neg (by rw[Qb];omega),List.take_left' lm,List.drop_left' lm,em,hb]
   ·rw[if_neg hf]
    exact NY (by omega) hx r
theorem ZN {a b:Nat} (ha:a<18446744073709551616) (hb:b<18446744073709551616):a ^^^ b<18446744073709551616:=by
 rw[<-p64] at *;exact Nat.xor_lt_two_pow ha hb
theorem IV (a b:Nat):a ^^^ (a ^^^ b)=b:=by rw[<-Nat.xor_assoc,Nat.xor_self,Nat.zero_xor]
theorem rF (l:LI):∀(acc:LI) (p:Nat) (wn:Option (Nat × Nat)) (r:List Bool),U64 l->p<18446744073709551616->Win wn->gDA l.length acc p wn (gE p wn l++r)=(acc++l,0):=by
 induction l with
 | nil=>intro acc p wn r _ _ _;simp[gDA]
 | cons y t ih =>
  intro acc p wn r hu hp hw;have hy:=hu y List.mem_cons_self;have hx:=ZN hp (show y.toNat<18446744073709551616 by omega)
  have e:gE p wn (y :: t)++r=(gx (p ^^^ y.toNat) wn).1++(gE y.toNat (gx (p ^^^ y.toNat) wn).2 t++r):=by rw[gE,List.append_assoc]
  rw[e,Qj,gDA,gR_gx hw hx];simp only[ne_eq,not_true_eq_false,if_false,IV];rw[ih _ _ _ _ (λz hz=>hu z (List.mem_cons_of_mem _ hz)) (by omega) (hw.next hx),Int.toNat_of_nonneg hy.1];simp
theorem OF (hu:U64 l) (r:List Bool):gRd (GB l++r) l.length=(l,0):=by
 cases l with
 | nil=>rfl
 | cons y t =>
  have hy:=hu y List.mem_cons_self;have h0:(Ql y.toNat 64).length=64:=Ys _ _;have e64:bnum (Ql y.toNat 64)=y.toNat:=Zz (by rw[p64];omega);unfold gRd GB;rw[if_neg (by simp),List.append_assoc,if_neg (by rw[Qb];omega),List.take_left' h0,List.drop_left' h0,e64,Qj,Nat.add_sub_cancel];rw[rF t _ _ _ _ (λz hz=>hu z (List.mem_cons_of_mem _ hz)) (by omega) Win.none,Int.toNat_of_nonneg hy.1]
  rfl
theorem gR_ok {wn:Option (Nat × Nat)} (hw:Win wn) (l:List Bool) (h:(gR wn l).2.2.2=0):(gR wn l).1<18446744073709551616∧Win (gR wn l).2.1:=by
 have h0:∀(c:List Bool) (a z m:Nat),c.length<=m->m+z+a<=64->bnum c*2^z<18446744073709551616:=by
  intro c a z m hc hm;have h1:=Wi c;have h2:2^c.length<=2^m:=Nat.pow_le_pow_right (by omega) hc;have h3:bnum c*2^z<2^m*2^z:=Nat.mul_lt_mul_of_pos_right (by omega) (Nat.two_pow_pos z);rw[<-Nat.pow_add] at h3;have h4:2^(m+z)<=2^64:=Nat.pow_le_pow_right (by omega) (by omega);rw[p64] at h4;omega
 match l,h with
 | [],h=>exact absurd h (by simp[gR])
 | false :: r,_=>exact⟨by simp[gR],by simpa [gR] using hw⟩
 | [true],h=>exact absurd h (by simp[gR])
 | true :: false :: r,h =>
  cases wn with
  | none=>exact absurd h (by simp[gR])
  | some p =>
   obtain⟨a,z⟩:=p;obtain⟨w1,w2⟩:=hw a z rfl;rw[gR] at h ⊢
   by_cases hl:r.length<64 - a - z
   ·rw[if_pos hl] at h;cases h
   ·rw[if_neg hl]
    exact⟨h0 _ a z (64 - a - z) (by rw[Qg];omega) (by omega),hw⟩
 | true :: true :: r,h =>
  rw[gR] at h ⊢
  by_cases c1:r.length<5
  ·rw[if_pos c1] at h;cases h
  ·rw[if_neg c1] at h ⊢
   by_cases c2:r.length<11
   ·rw[if_pos c2] at h;cases h
   ·rw[if_neg c2] at h ⊢
    by_cases c3:63<bnum (r.take 5)+bnum ((r.drop 5).take 6)
    ·rw[if_pos c3] at h;cases h
    ·rw[if_neg c3] at h ⊢
     by_cases c4:r.length<12+bnum ((r.drop 5).take 6)
     ·rw[if_pos c4] at h;cases h
     ·rw[if_neg c4]
      have hb:=Wi (r.take 5)
      have hb2:(r.take 5).length=5:=by rw[Qg];omega
      rw[hb2] at hb;refine⟨h0 _ (bnum (r.take 5)) _ (bnum ((r.drop 5).take 6)+1) (by rw[Qg];omega) (by omega),?_⟩;intro a z e;simp only[Option.some.injEq,Prod.mk.injEq] at e;obtain⟨rfl,rfl⟩:=e
      have:(2:Nat)^5=32:=by decide
      omega
theorem LT:∀(n:Nat) (acc:LI) (p:Nat) (wn:Option (Nat × Nat)) (l:List Bool),U64 acc->p<18446744073709551616->Win wn->(gDA n acc p wn l).2=0->U64 (gDA n acc p wn l).1∧(gDA n acc p wn l).1.length=acc.length+n
 | 0,acc,_,_,_,hu,_,_,_=>⟨hu,rfl⟩
 | n+1,acc,p,wn,l,hu,hp,hw,h=>by
  rw[gDA] at h ⊢
  by_cases hc:(gR wn l).2.2.2≠0
  ·rw[if_pos hc] at h;exact absurd h hc
  ·rw[if_neg hc] at h ⊢
   obtain⟨h1,h2⟩:=gR_ok hw l (by simpa using hc);have hx:=ZN hp h1
   obtain⟨h3,h4⟩:=LT n _ _ _ _ (λy hy=>by
    rcases List.mem_append.1 hy with h | h
    ·exact hu y h
    ·simp at h;omega) hx h2 h
   exact⟨h3,by rw[h4,Qb];simp;omega⟩
theorem DU {l:List Bool} (h:(gRd l n).2=0):U64 (gRd l n).1∧(gRd l n).1.length=n:=by
 unfold gRd at *
 by_cases h0:n=0
 ·rw[if_pos h0];exact⟨λx hx=>by simp at hx,by simp[h0]⟩
 ·rw[if_neg h0] at h ⊢
  by_cases h1:l.length<64
  ·rw[if_pos h1] at h;cases h
  ·rw[if_neg h1] at h ⊢
   have hb:=Wi (l.take 64)
   have hl:(l.take 64).length=64:=by rw[Qg];omega
   rw[hl,p64] at hb;obtain⟨h2,h3⟩:=LT (n - 1) _ _ _ _ (λy hy=>by simp at hy;omega) hb Win.none h;exact⟨h2,by rw[h3];simp;omega⟩
def ENC9 (l:LI):LI × Int:=if 65536<l.length then ([],4) else (QH (GB l),0)
def DEC9 (b:LI) (n:Int):LI × Int :=
 if n<0∨65536<n then ([],1) else
 if (gRd (Qf b) n.toNat).2≠0 then ([],(gRd (Qf b) n.toNat).2) else
 if (ENC9 (gRd (Qf b) n.toNat).1).1=b then ((gRd (Qf b) n.toNat).1,0) else ([],3)
theorem VK (hl:l.length<=65536):ENC9 l=(QH (GB l),0):=if_neg (by omega)
theorem NF (l:LI):∀y∈(ENC9 l).1,0<=y∧y<=255:=by
 unfold ENC9
 by_cases h:65536<l.length
 ·rw[if_pos h];intro y hy;simp at hy
 ·rw[if_neg h];exact GD _
theorem rJ (x:Nat) {wn:Option (Nat × Nat)}:(gx x wn).1.length<=77∧1<=(gx x wn).1.length:=by
 have hn:∀x,(newW x).length<=77∧1<=(newW x).length:=λx=>by
  unfold newW;simp only[Qj,Qb,Ys];omega
 unfold gx
 by_cases h0:x=0
 ·rw[if_pos h0];exact⟨by simp,by simp⟩
 ·rw[if_neg h0]
  cases wn with
  | none=>exact hn x
  | some p =>
   obtain⟨a,z⟩:=p;simp only
   by_cases hf:fitsW x a z
   ·rw[if_pos hf]
    simp only[Qj,Ys];omega
   ·rw[if_neg hf];exact hn x
theorem X0 (l:LI):∀(p:Nat) (wn:Option (Nat × Nat)),(gE p wn l).length<=77*l.length∧l.length<=(gE p wn l).length:=by
 induction l with
 | nil=>intro p wn;simp[gE]
 | cons y t ih =>
  intro p wn;rw[gE,Qb,Qj];have h1:=rJ (p ^^^ y.toNat) (wn:=wn);have h2:=ih y.toNat (gx (p ^^^ y.toNat) wn).2;omega
theorem xv (l:LI):(GB l).length<=77*l.length∧l.length<=(GB l).length:=by
 cases l with
 | nil=>simp[GB]
 | cons y t =>
  have h:=X0 t y.toNat none;unfold GB;rw[Qb,Ys,Qj];omega
theorem zD (hu:U64 l) (hl:l.length<=65536):DEC9 (ENC9 l).1 l.length=(l,0):=by
 have e:gRd (Qf (ENC9 l).1) l.length=(l,0):=by
  rw[VK hl];simp only[Hu];exact OF hu _
 unfold DEC9;rw[if_neg (by omega),Int.toNat_natCast,e];simp
theorem Th {b:LI} {n:Int} (h:(DEC9 b n).2=0):0<=n∧n<=65536∧((DEC9 b n).1.length:Int)=n∧U64 (DEC9 b n).1∧ENC9 (DEC9 b n).1=(b,0):=by
 unfold DEC9 at *
 by_cases hn:n<0∨65536<n
 ·rw[if_pos hn] at h;cases h
 ·rw[if_neg hn] at h ⊢
  by_cases hR:(gRd (Qf b) n.toNat).2≠0
  ·rw[if_pos hR] at h;exact absurd h hR
  ·rw[if_neg hR] at h ⊢
   by_cases hE:(ENC9 (gRd (Qf b) n.toNat).1).1=b
   ·rw[if_pos hE]
    obtain⟨h1,h2⟩:=DU (l:=Qf b) (n:=n.toNat) (by simpa using hR);refine⟨by omega,by omega,by simp only[h2];omega,h1,?_⟩;have h3:=VK (l:=(gRd (Qf b) n.toNat).1) (by rw[h2];omega);rw[h3] at hE ⊢;simp only at hE;simp only[hE]
   ·rw[if_neg hE] at h;cases h
theorem zE {b:LI} {n:Int} (h:(DEC9 b n).2≠0):(DEC9 b n).1=[]:=by
 unfold DEC9 at *
 by_cases hn:n<0∨65536<n
 ·rw[if_pos hn]
 ·rw[if_neg hn] at h ⊢
  by_cases hR:(gRd (Qf b) n.toNat).2≠0
  ·rw[if_pos hR]
  ·rw[if_neg hR] at h ⊢
   by_cases hE:(ENC9 (gRd (Qf b) n.toNat).1).1=b
   ·rw[if_pos hE] at h;exact absurd rfl h
   ·rw[if_neg hE]
def dct:LI->LI->LI
 | d,[]=>d
 | d,x :: t=>if x∈d then dct d t else dct (d++[x]) t
def dic (l:LI):LI:=dct [] l
theorem Cw (l:LI) (y:Int):∀d,dct d (l++[y])=if y∈dct d l then dct d l else dct d l++[y]:=by
 induction l with
 | nil=>intro d;rfl
 | cons x t ih =>
  intro d;rw[List.cons_append,dct,dct]
  by_cases h:x∈d
  ·rw[if_pos h,if_pos h,ih]
  ·rw[if_neg h,if_neg h,ih]
theorem xB (l:LI):∀(d:LI) (y:Int),y∈dct d l↔y∈d∨y∈l:=by
 induction l with
 | nil=>intro d y;simp[dct]
 | cons x t ih =>
  intro d y;rw[dct]
  by_cases h:x∈d
  ·rw[if_pos h,ih,List.mem_cons]
   constructor
   ·rintro (h1 | h1)
    ·exact .inl h1
    ·exact .inr (.inr h1)
   ·rintro (h1 | rfl | h1)
    ·exact .inl h1
    ·exact .inl h
    ·exact .inr h1
  ·rw[if_neg h,ih,List.mem_cons,List.mem_append]
   constructor
   ·rintro ((h1 | h1) | h1)
    ·exact .inl h1
    ·exact .inr (.inl (by simpa using h1))
    ·exact .inr (.inr h1)
   ·rintro (h1 | rfl | h1)
    ·exact .inl (.inl h1)
    ·exact .inl (.inr (by simp))
    ·exact .inr h1
theorem yl (l:LI):∀d:LI,d.Nodup->(dct d l).Nodup:=by
 induction l with
 | nil=>intro d h;exact h
 | cons x t ih =>
  intro d h;rw[dct]
  by_cases hx:x∈d
  ·rw[if_pos hx];exact ih d h
  ·rw[if_neg hx]
   refine ih _ (List.nodup_append.2 ⟨h,by simp,?_⟩);intro a ha b hb e;simp at hb;subst hb e;exact hx ha
theorem kN (l:LI):∀d:LI,(dct d l).length<=d.length+l.length:=by
 induction l with
 | nil=>intro d;simp[dct]
 | cons x t ih =>
  intro d;rw[dct]
  by_cases h:x∈d
  ·rw[if_pos h];have:=ih d;simp only[Qj];omega
  ·rw[if_neg h];have:=ih (d++[x]);simp only[Qj,Qb,List.length_nil] at *;omega
theorem Zd (l:LI) (y:Int):y∈dic l↔y∈l:=by unfold dic;rw[xB];simp
theorem Ob (l:LI):(dic l).Nodup:=yl l [] List.nodup_nil
theorem Zp (l:LI):(dic l).length<=l.length:=by have:=kN l [];simpa [dic] using this
theorem Lq (hu:U64 l):U64 (dic l):=λy hy=>hu y ((Zd l y).1 hy)
theorem OR (l:LI) (y:Int):dic (l++[y])=if y∈dic l then dic l else dic l++[y]:=Cw l y []
theorem E9 (h:l≠[]):0<(dic l).length:=by
 cases l with
 | nil=>exact absurd rfl h
 | cons x t =>
  have:x∈dic (x :: t):=(Zd _ _).2 List.mem_cons_self;exact List.length_pos_of_mem this
def plc (d:LI) (v:Int):Nat:=d.idxOf v
theorem J4 {d:LI} {v:Int} (h:v∈d):plc d v<d.length:=List.idxOf_lt_length_of_mem h
theorem py {d:LI} {v:Int} (h:v∈d):d.getD (plc d v) 0=v:=by
 have hl:=J4 h;rw[Qd,Qi hl];exact List.getElem_idxOf hl
def wP (k:Nat):Nat:=if k=0 then 0 else wid (k - 1)
theorem wP_lt (h:p<k):p<2^wP k:=by
 unfold wP;rw[if_neg (by omega)];have:=(Yj (k - 1) (wid (k - 1))).1 (Nat.le_refl _);omega
theorem wP_le (h:k<=65536):wP k<=16:=by
 unfold wP
 by_cases h0:k=0
 ·rw[if_pos h0];omega
 ·rw[if_neg h0];exact (Yj _ 16).2 (by omega)
def bitsP (w:Nat) (ps:List Nat):List Bool:=ps.flatMap λp=>Ql p w
theorem Ab (w p:Nat) (ps:List Nat):bitsP w (p :: ps)=Ql p w++bitsP w ps:=rfl
theorem NP (w:Nat) (ps:List Nat):(bitsP w ps).length=ps.length*w:=by
 induction ps with
 | nil=>simp[bitsP]
 | cons p t ih=>rw[Ab,Qb,Ys,ih,Qj,Nat.succ_mul];omega
theorem Ip (w:Nat) (ps:List Nat) (p:Nat):bitsP w (ps++[p])=bitsP w ps++Ql p w:=by simp[bitsP]
def rdP (w:Nat):Nat->List Bool->List Nat
 | 0,_=>[]
 | n+1,k=>bnum (k.take w) :: rdP w n (k.drop w)
theorem VJ (w:Nat):∀(n:Nat) (k:List Bool),(rdP w n k).length=n
 | 0,_=>rfl
 | n+1,k=>by rw[rdP,Qj,VJ w n]
theorem Id (w:Nat) (ps:List Nat):∀r:List Bool,(∀p∈ps,p<2^w)->rdP w ps.length (bitsP w ps++r)=ps:=by
 induction ps with
 | nil=>intro r _;rfl
 | cons p t ih =>
  intro r h;have hl:(Ql p w).length=w:=Ys _ _;rw[Qj,rdP,Ab,List.append_assoc,List.take_left' hl,List.drop_left' hl,JL,Nat.mod_eq_of_lt (h p List.mem_cons_self),ih r (λq hq=>h q (List.mem_cons_of_mem _ hq))]
theorem Xr (w:Nat):∀(n:Nat) (k:List Bool),rdP w (n+1) k=rdP w n k++[bnum ((k.drop (n*w)).take w)]
 | 0,k=>by simp[rdP]
 | n+1,k=>by
  rw[rdP,Xr w n (k.drop w),rdP,List.drop_drop,List.cons_append,Nat.succ_mul,Nat.add_comm w]
def fx8 (d:LI):LI:=d.flatMap λv=>fixL v 8
theorem Da (v:Int) (d:LI):fx8 (v :: d)=fixL v 8++fx8 d:=rfl
theorem CI (d:LI) (v:Int):fx8 (d++[v])=fx8 d++fixL v 8:=by simp[fx8]
theorem UB (d:LI):(fx8 d).length=8*d.length:=by
 induction d with
 | nil=>rfl
 | cons v t ih=>rw[Da,Qb,Qt,ih,Qj];omega
def rd8:Nat->LI->LI
 | 0,_=>[]
 | n+1,b=>((num (b.take 8):Nat):Int) :: rd8 n (b.drop 8)
theorem Wo:∀(n:Nat) (b:LI),(rd8 n b).length=n
 | 0,_=>rfl
 | n+1,b=>by rw[rd8,Qj,Wo n]
theorem Mh (d:LI):∀r:LI,U64 d->rd8 d.length (fx8 d++r)=d:=by
 induction d with
 | nil=>intro r _;rfl
 | cons v t ih =>
  intro r hu;have hv:=hu v List.mem_cons_self;obtain⟨n,rfl⟩:=Int.eq_ofNat_of_zero_le hv.1;rw[Qj,rd8,Da,List.append_assoc,List.take_left' (Qt _ 8),List.drop_left' (Qt _ 8),VL n (by omega),ih r (λq hq=>hu q (List.mem_cons_of_mem _ hq))]
theorem Gh:∀(n:Nat) (b:LI),rd8 (n+1) b=rd8 n b++[((num ((b.drop (8*n)).take 8):Nat):Int)]
 | 0,b=>by simp[rd8]
 | n+1,b=>by
  rw[rd8,Gh n (b.drop 8),rd8,List.drop_drop,List.cons_append,show 8+8*n=8*(n+1) by omega]
theorem KT:∀(n:Nat) (b:LI),(∀y∈b,0<=y∧y<=255)->U64 (rd8 n b)
 | 0,_,_=>λx hx=>by simp[rd8] at hx
 | n+1,b,hr=>λx hx=>by
  rw[rd8] at hx
  rcases List.mem_cons.1 hx with rfl | h
  ·have h1:=Wv (b.take 8) (λy hy=>hr y (List.mem_of_mem_take hy))
   have h2:(256:Nat)^(b.take 8).length<=256^8:=Nat.pow_le_pow_right (by omega) (by rw[Qg];omega)
   have h3:(256:Nat)^8=18446744073709551616:=by decide
   omega
  ·exact KT n _ (λy hy=>hr y (List.mem_of_mem_drop hy)) x h
def Yo (d l:LI):List Bool:=bitsP (wP d.length) (l.map (plc d))
def ENC10 (l:LI):LI × Int:=if 65536<l.length then ([],4) else (gs (dic l).length++(fx8 (dic l)++QH (Yo (dic l) l)),0)
theorem Zi (h:l.length<=65536):ENC10 l=(gs (dic l).length++(fx8 (dic l)++QH (Yo (dic l) l)),0):=if_neg (by omega)
def DECB (many n:Nat) (rest b:LI):LI × Int :=
 if rest.length<8*many then ([],2) else
 if (Qf (rest.drop (8*many))).length<n*wP many then ([],2) else
 if ∃p∈rdP (wP many) n (Qf (rest.drop (8*many))),many<=p then ([],3) else
 if (ENC10 ((rdP (wP many) n (Qf (rest.drop (8*many)))).map λp=>(rd8 many rest).getD p 0)).1=b then ((rdP (wP many) n (Qf (rest.drop (8*many)))).map λp=>(rd8 many rest).getD p 0,0) else ([],3)
def DEC10 (b:LI) (n:Int):LI × Int :=
 if n<0∨65536<n then ([],1) else
 if (Qe b).2.2≠0 then ([],(Qe b).2.2) else
 if n<(Qe b).1 then ([],3) else
 DECB (Qe b).1.toNat n.toNat (b.drop (Qe b).2.1) b
theorem MW (d l:LI):(Yo d l).length=l.length*wP d.length:=by unfold Yo;rw[NP,List.length_map]
theorem Rg:∀p∈l.map (plc (dic l)),p<(dic l).length:=by
 intro p hp;obtain⟨x,hx,rfl⟩:=List.mem_map.1 hp;exact J4 ((Zd l x).2 hx)
theorem vC (l:LI):(l.map (plc (dic l))).map (λp=>(dic l).getD p 0)=l:=by
 rw[List.map_map];exact (List.map_congr_left (g:=id) (λx hx=>py ((Zd l x).2 hx))).trans (List.map_id l)
theorem NH (hl:l.length<=65536):(dic l).length<18446744073709551616:=by have:=Zp l;omega
theorem C0 (hu:U64 l) (r b:LI) :
 DECB (dic l).length l.length (fx8 (dic l)++(QH (Yo (dic l) l)++r)) b=if (ENC10 l).1=b then (l,0) else ([],3):=by
 have hf:=UB (dic l);have e1:(fx8 (dic l)++(QH (Yo (dic l) l)++r)).drop (8*(dic l).length)=QH (Yo (dic l) l)++r:=List.drop_left' hf
 have e2:Qf (QH (Yo (dic l) l)++r)=Yo (dic l) l++(List.replicate (8*nb (Yo (dic l) l) - (Yo (dic l) l).length) false++Qf r):=by
  rw[Rx,Hu,List.append_assoc]
 have e3:rdP (wP (dic l).length) l.length (Yo (dic l) l++(List.replicate (8*nb (Yo (dic l) l) - (Yo (dic l) l).length) false++Qf r))=l.map (plc (dic l)):=by
  have:=Id (wP (dic l).length) (l.map (plc (dic l))) (List.replicate (8*nb (Yo (dic l) l) - (Yo (dic l) l).length) false++Qf r) (λp hp=>wP_lt (Rg p hp));rw[List.length_map] at this;exact this
 have e4:rd8 (dic l).length (fx8 (dic l)++(QH (Yo (dic l) l)++r))=dic l:=Mh (dic l) _ (Lq hu);unfold DECB;rw[e1,e2,e3,e4,vC];rw[if_neg (by rw[Qb];omega),if_neg (by rw[Qb,MW];omega),if_neg (λ⟨p,hp,h⟩=>by have:=Rg p hp;omega)]
theorem xe (hl:l.length<=65536) (r:LI):DEC10 (gs (dic l).length++r) l.length=DECB (dic l).length l.length r (gs (dic l).length++r):=by
 unfold DEC10;rw[Y4 _ _ (NH hl)];have:=Zp l;simp only[ne_eq,not_true_eq_false,if_false,Int.toNat_natCast,List.drop_left];rw[if_neg (by omega),if_neg (by omega)]
theorem yC (hu:U64 l) (hl:l.length<=65536):DEC10 (ENC10 l).1 l.length=(l,0):=by
 have e:=C0 hu [] (ENC10 l).1;rw[List.append_nil,if_pos rfl] at e;rw[Zi hl] at e ⊢;rw[xe hl];exact e
theorem Kg {p:Prop} [Decidable p] {x y:LI × Int} (hx:x.2≠0->x.1=[]) (hy:y.2≠0->y.1=[]):(if p then x else y).2≠0->(if p then x else y).1=[]:=by
 by_cases h:p
 ·rw[if_pos h];exact hx
 ·rw[if_neg h];exact hy
theorem po {b:LI} {n:Int}:(DEC10 b n).2≠0->(DEC10 b n).1=[]:=by
 unfold DEC10 DECB;exact Kg (λ_=>rfl) (Kg (λ_=>rfl) (Kg (λ_=>rfl) (Kg (λ_=>rfl) (Kg (λ_=>rfl) (Kg (λ_=>rfl) (Kg (λh=>absurd rfl h) (λ_=>rfl)))))))
theorem Pj {b:LI} {n:Int} (hr:∀y∈b,0<=y∧y<=255) (h:(DEC10 b n).2=0):0<=n∧n<=65536∧((DEC10 b n).1.length:Int)=n∧U64 (DEC10 b n).1∧ENC10 (DEC10 b n).1=(b,0):=by
 have key:∀(h0 m:Nat) (rest:LI),(∀y∈rest,0<=y∧y<=255)->m<=65536->(DECB h0 m rest b).2=0->(DECB h0 m rest b).1.length=m∧U64 (DECB h0 m rest b).1∧ENC10 (DECB h0 m rest b).1=(b,0):=by
  intro h0 m rest hrr hm h;unfold DECB at *
  by_cases c1:rest.length<8*h0
  ·rw[if_pos c1] at h;cases h
  ·rw[if_neg c1] at h ⊢
   by_cases c2:(Qf (rest.drop (8*h0))).length<m*wP h0
   ·rw[if_pos c2] at h;cases h
   ·rw[if_neg c2] at h ⊢
    by_cases c3:∃p∈rdP (wP h0) m (Qf (rest.drop (8*h0))),h0<=p
    ·rw[if_pos c3] at h;cases h
    ·rw[if_neg c3] at h ⊢
     by_cases c4:(ENC10 ((rdP (wP h0) m (Qf (rest.drop (8*h0)))).map λp=>(rd8 h0 rest).getD p 0)).1=b
     ·rw[if_pos c4]
      have h1:((rdP (wP h0) m (Qf (rest.drop (8*h0)))).map λp=>(rd8 h0 rest).getD p 0).length=m:=by rw[List.length_map,VJ]
      refine⟨h1,?_,?_⟩
      ·intro x hx
       obtain⟨p,hp,rfl⟩:=List.mem_map.1 hx
       have hpm:p<h0:=by
        rcases Nat.lt_or_ge p h0 with e | e
        ·exact e
        ·exact absurd ⟨p,hp,e⟩ c3
       have h2:p<(rd8 h0 rest).length:=by rw[Wo];exact hpm
       refine KT h0 rest hrr _ ?_;rw[Qd,Qi h2];exact List.getElem_mem h2
      ·have e:=Zi (l:=(rdP (wP h0) m (Qf (rest.drop (8*h0)))).map λp=>(rd8 h0 rest).getD p 0) (by rw[h1];exact hm)
       rw[e] at c4 ⊢;simp only at c4;simp only[c4]
     ·rw[if_neg c4] at h;cases h
 unfold DEC10 at *
 by_cases hn:n<0∨65536<n
 ·rw[if_pos hn] at h;cases h
 ·rw[if_neg hn] at h ⊢
  by_cases hv:(Qe b).2.2≠0
  ·rw[if_pos hv] at h;exact absurd h hv
  ·rw[if_neg hv] at h ⊢
   by_cases hm:n<(Qe b).1
   ·rw[if_pos hm] at h;cases h
   ·rw[if_neg hm] at h ⊢
    obtain⟨k1,k2,k3⟩:=key _ n.toNat _ (λy hy=>hr y (List.mem_of_mem_drop hy)) (by omega) h;exact⟨by omega,by omega,by rw[k1];omega,k2,k3⟩
theorem TX (l:LI):∀y∈(ENC10 l).1,0<=y∧y<=255:=by
 unfold ENC10
 by_cases h:65536<l.length
 ·rw[if_pos h];intro y hy;simp at hy
 ·rw[if_neg h]
  intro y hy
  rcases List.mem_append.1 hy with h1 | h1
  ·exact UO _ y h1
  ·rcases List.mem_append.1 h1 with h2 | h2
   ·obtain⟨v,_,hv⟩:=List.mem_flatMap.1 h2
    unfold fixL at hv;obtain⟨j,_,rfl⟩:=List.mem_map.1 hv;exact JT v _
   ·exact GD _ y h2
def pL (l:LI) (k:Nat):Nat:=(dic (l.take k)).length
def Ti (l:LI):Bool:=l.all λx=>x == l.getD 0 0
abbrev Yy (l:LI):Prop:=Ti l=true
theorem Qcp:Yy l↔∀x∈l,x=l.getD 0 0:=by
 unfold Yy Ti;rw[List.all_eq_true];exact⟨λh x hx=>by simpa using h x hx,λh x hx=>by simpa using h x hx⟩
def QG (l:LI) (tag:Nat):LI × Int :=
 if tag=0 then (fx8 l,0) else if tag=1 then (if l=[]∨¬Yy l then ([],1) else (fixL (l.getD 0 0) 8,0)) else if tag=2 then ENC10 l else ENC9 l
def WAY11 (l:LI) (tag:Int):LI × Int:=if tag<0∨3<tag then ([],1) else if 65536<l.length then ([],4) else QG l tag.toNat
def QY (l:LI):Nat->Nat × LI
 | 0=>(0,(QG l 0).1)
 | t+1=>if (QG l (t+1)).2=0∧(QG l (t+1)).1.length<(QY l t).2.length then (t+1,(QG l (t+1)).1) else QY l t
def ENC11 (l:LI):LI × Int:=if 65536<l.length then ([],4) else (((QY l 3).1:Int) :: (QY l 3).2,0)
def Yl (ys:LI) (n tag:Nat):LI × Int :=
 if tag=2 then DEC10 ys n else if tag=3 then DEC9 ys n else
 if tag=1 then (if ys.length<8 then ([],2) else if 8<ys.length then ([],3) else (List.replicate n ((num (ys.take 8):Nat):Int),0)) else
 if ys.length<8*n then ([],2) else if 8*n<ys.length then ([],3) else (rd8 n ys,0)
def DEC11 (b:LI) (n:Int):LI × Int :=
 if n<0∨65536<n then ([],1) else if b=[] then ([],2) else if 3<b.getD 0 0 then ([],3) else
 if (Yl (b.drop 1) n.toNat (b.getD 0 0).toNat).2≠0 then ([],(Yl (b.drop 1) n.toNat (b.getD 0 0).toNat).2) else
 if (ENC11 (Yl (b.drop 1) n.toNat (b.getD 0 0).toNat).1).1=b then ((Yl (b.drop 1) n.toNat (b.getD 0 0).toNat).1,0) else ([],3)
theorem W11_0 (l:LI):QG l 0=(fx8 l,0):=rfl
theorem W11_1 (l:LI):QG l 1=if l=[]∨¬Yy l then ([],1) else (fixL (l.getD 0 0) 8,0):=rfl
theorem W11_2 (l:LI):QG l 2=ENC10 l:=rfl
theorem W11_3 (l:LI):QG l 3=ENC9 l:=rfl
theorem Wx {t:Nat} (h:t<=3):t=0∨t=1∨t=2∨t=3:=by omega
theorem td (l:LI):∀y∈fx8 l,0<=y∧y<=255:=by
 intro y hy;obtain⟨v,_,hv⟩:=List.mem_flatMap.1 hy;exact UM v 8 y hv
theorem yf {t:Nat} (ht:t<=3):∀y∈(QG l t).1,0<=y∧y<=255:=by
 rcases Wx ht with rfl | rfl | rfl | rfl
 ·exact td l
 ·rw[W11_1]
  by_cases c:l=[]∨¬Yy l
  ·rw[if_pos c];intro y hy;simp at hy
  ·rw[if_neg c];exact UM _ 8
 ·exact TX l
 ·exact NF l
theorem Ee (h:Yy l):l=List.replicate l.length (l.getD 0 0):=List.eq_replicate_iff.2 ⟨rfl,Qcp.1 h⟩
theorem AY {v:Int} (h0:0<=v) (h1:v<=18446744073709551615):((num (fixL v 8):Nat):Int)=v:=by
 obtain⟨n,rfl⟩:=Int.eq_ofNat_of_zero_le h0;rw[VL n (by omega)]
theorem ZY (h:l≠[]):l.getD 0 0∈l:=by
 cases l with
 | nil=>exact absurd rfl h
 | cons x t=>exact List.mem_cons_self
theorem kX {t:Nat} (ht:t<=3) (hu:U64 l) (hl:l.length<=65536) (h:(QG l t).2=0):Yl (QG l t).1 l.length t=(l,0):=by
 rcases Wx ht with rfl | rfl | rfl | rfl
 ·rw[W11_0]
  unfold Yl;rw[if_neg (by omega),if_neg (by omega),if_neg (by omega),if_neg (by rw[UB];omega),if_neg (by rw[UB];omega)];have:=Mh l [] hu;rw[List.append_nil] at this;rw[this]
 ·rw[W11_1] at *
  by_cases c:l=[]∨¬Yy l
  ·rw[if_pos c] at h;cases h
  ·rw[if_neg c]
   have h0:l≠[]:=λe=>c (.inl e)
   have hs:Yy l:=Classical.byContradiction λe=>c (.inr e)
   unfold Yl;rw[if_neg (by omega),if_neg (by omega),if_pos rfl,if_neg (by rw[Qt];omega),if_neg (by rw[Qt];omega)];rw[List.take_of_length_le (by rw[Qt];omega),AY (hu _ (ZY h0)).1 (hu _ (ZY h0)).2,<-Ee hs]
 ·exact yC hu hl
 ·exact zD hu hl
theorem Ik {n t:Nat} (hr:∀y∈ys,0<=y∧y<=255) (h:(Yl ys n t).2=0):U64 (Yl ys n t).1∧(Yl ys n t).1.length=n:=by
 unfold Yl at *
 by_cases c2:t=2
 ·rw[if_pos c2] at h ⊢
  obtain⟨_,_,h3,h4,_⟩:=Pj hr h;exact⟨h4,by omega⟩
 ·rw[if_neg c2] at h ⊢
  by_cases c3:t=3
  ·rw[if_pos c3] at h ⊢
   obtain⟨_,_,h3,h4,_⟩:=Th h;exact⟨h4,by omega⟩
  ·rw[if_neg c3] at h ⊢
   by_cases c1:t=1
   ·rw[if_pos c1] at h ⊢
    by_cases a1:ys.length<8
    ·rw[if_pos a1] at h;cases h
    ·rw[if_neg a1] at h ⊢
     by_cases a2:8<ys.length
     ·rw[if_pos a2] at h;cases h
     ·rw[if_neg a2]
      refine⟨λx hx=>?_,by rw[List.length_replicate]⟩;rw[List.eq_of_mem_replicate hx];have h1:=Wv (ys.take 8) (λy hy=>hr y (List.mem_of_mem_take hy));have h2:(256:Nat)^(ys.take 8).length<=256^8:=Nat.pow_le_pow_right (by omega) (by rw[Qg];omega)
      have h3:(256:Nat)^8=18446744073709551616:=by decide
      omega
   ·rw[if_neg c1] at h ⊢
    by_cases a1:ys.length<8*n
    ·rw[if_pos a1] at h;cases h
    ·rw[if_neg a1] at h ⊢
     by_cases a2:8*n<ys.length
     ·rw[if_pos a2] at h;cases h
     ·rw[if_neg a2]
      exact⟨KT n ys hr,Wo n ys⟩
theorem Vg (l:LI):∀t,(QY l t).1<=t∧QG l (QY l t).1=((QY l t).2,0)∧∀s,s<=t->(QG l s).2=0->(QY l t).2.length<=(QG l s).1.length
 | 0=>⟨Nat.le_refl _,rfl,λs hs _=>by
  obtain rfl:s=0:=by omega
  exact Nat.le_refl _⟩
 | t+1=>by
  obtain⟨h1,h2,h3⟩:=Vg l t;rw[QY]
  by_cases c:(QG l (t+1)).2=0∧(QG l (t+1)).1.length<(QY l t).2.length
  ·rw[if_pos c]
   refine⟨Nat.le_refl _,Prod.ext rfl c.1,λs hs he=>?_⟩
   rcases Nat.lt_or_ge s (t+1) with e | e
   ·have:=h3 s (by omega) he;simp only;omega
   ·obtain rfl:s=t+1:=by omega
    exact Nat.le_refl _
  ·rw[if_neg c]
   refine⟨by omega,h2,λs hs he=>?_⟩
   rcases Nat.lt_or_ge s (t+1) with e | e
   ·exact h3 s (by omega) he
   ·obtain rfl:s=t+1:=by omega
    rcases Nat.lt_or_ge (QG l (t+1)).1.length (QY l t).2.length with e2 | e2
    ·exact absurd ⟨he,e2⟩ c
    ·exact e2
theorem KL (hl:l.length<=65536):ENC11 l=(((QY l 3).1:Int) :: (QY l 3).2,0):=if_neg (by omega)
theorem Z7 (hl:l.length<=65536):(ENC11 l).1.length<=1+8*l.length∧0<(ENC11 l).1.length:=by
 have h:=(Vg l 3).2.2 0 (by omega) rfl;rw[W11_0] at h;simp only[UB] at h;rw[KL hl];simp only[Qj];omega
theorem Mr (l:LI):∀y∈(ENC11 l).1,0<=y∧y<=255:=by
 unfold ENC11
 by_cases h:65536<l.length
 ·rw[if_pos h];intro y hy;simp at hy
 ·rw[if_neg h]
  obtain⟨h1,h2,_⟩:=Vg l 3;intro y hy
  rcases List.mem_cons.1 hy with rfl | hy
  ·omega
  ·have:=yf (l:=l) h1
   rw[h2] at this;exact this y hy
theorem GR (hl:l.length<=65536) (t:Nat) (ht:t<=3):WAY11 l t=QG l t:=by
 unfold WAY11;rw[if_neg (by omega),if_neg (by omega),Int.toNat_natCast]
theorem L6 {tag:Int}:(WAY11 l tag).1.length<=2000000:=by
 unfold WAY11
 by_cases c:tag<0∨3<tag
 ·rw[if_pos c];simp
 ·rw[if_neg c]
  by_cases hl:65536<l.length
  ·rw[if_pos hl];simp
  ·rw[if_neg hl]
   rcases Wx (t:=tag.toNat) (by omega) with e | e | e | e <;> rw[e]
   ·rw[W11_0];simp only[UB];omega
   ·rw[W11_1];split <;> simp[Qt]
   ·rw[W11_2,Zi (by omega)]
    have h1:=Yw (NH (l:=l) (by omega));have h2:=Zp l;have h3:=wP_le (k:=(dic l).length) (by omega)
    have h4:(Yo (dic l) l).length<=65536*16:=by rw[MW];exact Nat.mul_le_mul (by omega) h3
    simp only[Qb,UB,UG];unfold nb;omega
   ·rw[W11_3,VK (by omega)]
    have:=(xv l).1;simp only[UG];unfold nb;omega
theorem pu (hl:l.length<=65536) (ys:LI) (n:Nat) (hn:n=l.length):DEC11 (((QY l 3).1:Int) :: ys) n=if (Yl ys n (QY l 3).1).2≠0 then ([],(Yl ys n (QY l 3).1).2) else if (ENC11 (Yl ys n (QY l 3).1).1).1=((QY l 3).1:Int) :: ys then ((Yl ys n (QY l 3).1).1,0) else ([],3):=by
 have h1:=(Vg l 3).1;unfold DEC11;rw[if_neg (by omega),if_neg (List.cons_ne_nil _ _),List.getD_cons_zero,if_neg (by omega),List.drop_succ_cons,List.drop_zero,Int.toNat_natCast,Int.toNat_natCast]
theorem FP (hu:U64 l) (hl:l.length<=65536):DEC11 (ENC11 l).1 l.length=(l,0):=by
 obtain⟨h1,h2,_⟩:=Vg l 3;have hR:=kX h1 hu hl (by rw[h2]);rw[h2] at hR;rw[KL hl];simp only;rw[pu hl _ _ rfl,hR];simp only[ne_eq,not_true_eq_false,if_false];rw[KL hl,if_pos rfl]
theorem Mv {b:LI} {n:Int} (hr:∀y∈b,0<=y∧y<=255) (h:(DEC11 b n).2=0):0<=n∧n<=65536∧((DEC11 b n).1.length:Int)=n∧U64 (DEC11 b n).1∧ENC11 (DEC11 b n).1=(b,0):=by
 unfold DEC11 at *
 by_cases c1:n<0∨65536<n
 ·rw[if_pos c1] at h;cases h
 ·rw[if_neg c1] at h ⊢
  by_cases c2:b=[]
  ·rw[if_pos c2] at h;cases h
  ·rw[if_neg c2] at h ⊢
   by_cases c3:3<b.getD 0 0
   ·rw[if_pos c3] at h;cases h
   ·rw[if_neg c3] at h ⊢
    by_cases c4:(Yl (b.drop 1) n.toNat (b.getD 0 0).toNat).2≠0
    ·rw[if_pos c4] at h;exact absurd h c4
    ·rw[if_neg c4] at h ⊢
     by_cases c5:(ENC11 (Yl (b.drop 1) n.toNat (b.getD 0 0).toNat).1).1=b
     ·rw[if_pos c5]
      obtain⟨k1,k2⟩:=Ik (ys:=b.drop 1) (n:=n.toNat) (t:=(b.getD 0 0).toNat) (λy hy=>hr y (List.mem_of_mem_drop hy)) (by simpa using c4);refine⟨by omega,by omega,by rw[k2];omega,k1,?_⟩;have e:=KL (l:=(Yl (b.drop 1) n.toNat (b.getD 0 0).toNat).1) (by rw[k2];omega);rw[e] at c5 ⊢;simp only at c5;simp only[c5]
     ·rw[if_neg c5] at h;cases h
theorem wA {t:Nat} (ht:t<=3) (hne:l≠[]) (hl:l.length<=65536) (h:(QG l t).2=0):8<=(QG l t).1.length:=by
 have hp:=List.length_pos_iff.2 hne
 rcases Wx ht with rfl | rfl | rfl | rfl
 ·rw[W11_0];simp only[UB];omega
 ·rw[W11_1] at *
  by_cases c:l=[]∨¬Yy l
  ·rw[if_pos c] at h;cases h
  ·rw[if_neg c];simp only[Qt];omega
 ·rw[W11_2,Zi hl]
  have:=E9 hne;simp only[Qb,UB];omega
 ·rw[W11_3,VK hl]
  have h64:64<=(GB l).length:=by
   cases l with
   | nil=>exact absurd rfl hne
   | cons y t=>unfold GB;rw[Qb,Ys];omega
  simp only[UG];unfold nb;omega
theorem vL (v:Int) (k:Nat) (hl:k+1<=65536):(ENC11 (List.replicate (k+1) v)).1.length=9:=by
 have h4:(List.replicate (k+1) v).length<=65536:=by rw[List.length_replicate];exact hl
 have h0:List.replicate (k+1) v≠[]:=by rw[List.replicate_succ];exact List.cons_ne_nil _ _
 obtain⟨h1,h2,h3⟩:=Vg (List.replicate (k+1) v) 3
 have hs:Yy (List.replicate (k+1) v):=Qcp.2 λx hx=>by rw[List.eq_of_mem_replicate hx,List.replicate_succ];rfl
 have e1:QG (List.replicate (k+1) v) 1=(fixL ((List.replicate (k+1) v).getD 0 0) 8,0):=by
  rw[W11_1,if_neg (by
   intro c;rcases c with c | c
   ·exact h0 c
   ·exact c hs)]
 have a1:=h3 1 (by omega) (by rw[e1]);rw[e1] at a1;simp only[Qt] at a1;have a2:=wA h1 h0 h4 (by rw[h2]);rw[h2] at a2;simp only at a2;rw[KL h4];simp only[Qj];omega
def e8c (l:LI):LI:=(ENC8 l).1
def e11c (l:LI):LI:=(ENC11 l).1
theorem yn:Codec e8c DEC8 I64s where
 back:=λ_ g h=>Oc g h
 ok:=λb n hr h=>by
  obtain⟨_,_,h3,h4,h5⟩:=Px (b:=b) (n:=n) hr h;exact⟨h3,h4,by unfold e8c;rw[h5]⟩
 len:=λ_ h=>(Re h).1
theorem Eu:Codec e11c DEC11 U64 where
 back:=λ_ g h=>FP g h
 ok:=λb n hr h=>by
  obtain⟨_,_,h3,h4,h5⟩:=Mv (b:=b) (n:=n) hr h;exact⟨h3,h4,by unfold e11c;rw[h5]⟩
 len:=λ_ h=>(Z7 h).1
def ENCC (tn:LI) (s:List (Int × Int)):LI × Int:=ENC12 e8c e11c tn s
def DECC (b:LI):(LI × List (Int × Int)) × Int:=DEC12 DEC8 DEC11 b
def Gs (s:List (Int × Int)):Prop:=I64s (s.map Prod.fst)∧U64 (s.map Prod.snd)
theorem zh {tn:LI} {s:List (Int × Int)} (ht:tn.length<=64) (hs:s.length<=65536) (g:Gs s):DECC (ENCC tn s).1=((tn,s),0):=I6 yn Eu ht hs g.1 g.2
theorem Ef {b:LI} (h:(DECC b).2≠0):(DECC b).1=QM:=tC h
theorem JK {tn:LI} {s:List (Int × Int)} (h:64<tn.length∨65536<s.length):ENCC tn s=([],4):=if_pos h
theorem Gg {tn:LI} {s:List (Int × Int)} (h:tn.length<=64) (h':s.length<=65536):ENCC tn s=(1 :: (blk tn++(gs s.length++(blk (e8c (s.map Prod.fst))++blk (e11c (s.map Prod.snd))))),0):=if_neg (by omega)
section
open Go.ChangeShapes Go.WideShapes
def Sps (w:World) (v:Value) (s:List (Int × Int)):Prop :=
 ∃ao cap,v=.slice ao s.length cap∧s.length<=cap∧(s≠[]->∃b off,ao=some ⟨b,off,none⟩∧∀j,j<s.length ->
  w.cell? ⟨b,off+j*2,none⟩=some (.int .i64 (s.getD j (0,0)).1)∧w.cell? ⟨b,off+j*2+1,none⟩=some (.int .u64 (s.getD j (0,0)).2))
theorem Sps.len {s:List (Int × Int)} (h:Sps w v s):∃ao cap,v=.slice ao s.length cap:=by
 obtain⟨ao,cap,rfl,_⟩:=h;exact⟨ao,cap,rfl⟩
theorem Sps.nil (w:World):Sps w (.slice none 0 0) []:=⟨none,0,rfl,Nat.le_refl _,λh=>absurd rfl h⟩
theorem Sps.at {s:List (Int × Int)} (h:Sps w v s) (j:Nat) (hj:j<s.length) :
 ∃b off cap,v=.slice (some ⟨b,off,none⟩) s.length cap∧w.cell? ⟨b,off+j*2,none⟩=some (.int .i64 (s.getD j (0,0)).1)∧w.cell? ⟨b,off+j*2+1,none⟩=some (.int .u64 (s.getD j (0,0)).2):=by
 obtain⟨ao,cap,rfl,_,hr⟩:=h;obtain⟨b,off,rfl,hc⟩:=hr (by intro h0;subst h0;simp at hj);exact⟨b,off,cap,rfl,hc j hj⟩
theorem Sps.keep {s:List (Int × Int)} (h:Sps w v s) {S:Nat->Prop} (ho:Only S w w') (hs:∀b,v.ownBlock=some b->¬S b):Sps w' v s:=by
 obtain⟨ao,cap,rfl,hl,hr⟩:=h;refine⟨ao,cap,rfl,hl,λhne=>?_⟩;obtain⟨b,off,rfl,hc⟩:=hr hne;refine⟨b,off,rfl,λj hj=>?_⟩;have hb:¬S b:=hs b rfl;obtain⟨h0,h1⟩:=hc j hj;have hlt:b<w.heap.size:=World.block_lt_of_cell? w _ h0;have e:=ho.block b hlt hb;exact⟨by rw[<-h0];unfold World.cell?;rw[e],by rw[<-h1];unfold World.cell?;rw[e]⟩
theorem Sps.past {s:List (Int × Int)} (h:Sps w v s) (o:N0 w w'):Sps w' v s:=h.keep o (λ_ _ f=>f)
theorem tK {H:Type} {enc:TypeId × Value->H} {fuel:Nat} {u:Value} {x:DataW H × List MemPlace}
 (hf:DataW.trod enc prog W 0 (λ_=>true) true fuel 40 [u]=some x):∃s:List (Int × Int),Sps W u s∧Gs s∧s.length<=maxLen:=by
 rcases Deep.open_slice_pairs underlying40 underlying89 (by kernel_rfl) rfl rfl (by kernel_rfl) (by kernel_rfl) hf with ⟨hcs,_⟩ | ⟨x,l,c,m,n,V0,V1,D0,D1,P0,P1,hcs,_,hl,hm,hmm,_,hi⟩
 ·simp at hcs
  subst hcs;exact⟨[],Sps.nil _,⟨by simp[I64s],by simp[U64]⟩,by simp⟩
 ·simp at hcs
  subst hcs;simp only[if_true] at hmm;rw[hmm] at hi;clear hmm
  have h5:∀i,i<l->∃q:Int × Int,W.cell? (x.add (i*2))=some (.int .i64 q.1)∧W.cell? (x.add (i*2+1))=some (.int .u64 q.2)∧(Lit.int .i64 q.1).wf=true∧(Lit.int .u64 q.2).wf=true:=by
   intro i hlt;obtain⟨c0,c1,t0,t1⟩:=hi i (by omega);obtain⟨q0,e0,_,w0⟩:=DataW.trod_int underlying3 t0;obtain⟨q1,e1,_,w1⟩:=DataW.trod_int underlying23 t1;simp at e0 e1;exact⟨(q0,q1),by rw[c0,e0],by rw[c1,e1],w0,w1⟩
  obtain⟨q,hq⟩:=Deep.choose_lt h5
  have h3:∀j,j<l->((List.range l).map q).getD j (0,0)=q j:=λj hj=>by
   rw[Qd];simp[hj]
  refine⟨(List.range l).map q,⟨some x,c,by simp,by simpa using hl,λhne=>?_⟩,⟨?_,?_⟩,by simp;omega⟩
  ·have hp:0<l:=by
    cases l with
    | zero=>simp at hne
    | succ n=>omega
   obtain⟨b,off,h6⟩:=x
   have h2:h6=none:=by simpa [Addr.add] using World.cell?_spot (hq 0 hp).1
   subst h2;refine⟨b,off,rfl,λj hj=>?_⟩
   have h4:j<l:=by simpa using hj
   rw[h3 j h4];have h0:=(hq j h4).1;have h1:=(hq j h4).2.1;rw[Go.WideShapes.add_plain] at h0 h1;exact⟨h0,by rw[Nat.add_assoc];exact h1⟩
  ·intro y hy
   simp only[List.mem_map,List.mem_range] at hy;obtain⟨_,⟨j,hj,rfl⟩,rfl⟩:=hy
   simpa [Ym,Lit.wf,IntKind.min,IntKind.max,IntKind.signed,IntKind.bits] using (hq j hj).2.2.1
  ·intro y hy
   simp only[List.mem_map,List.mem_range] at hy;obtain⟨_,⟨j,hj,rfl⟩,rfl⟩:=hy
   simpa [Lit.wf,IntKind.min,IntKind.max,IntKind.signed,IntKind.bits] using (hq j hj).2.2.2
end
end Go.Proofs.YteciafpneamfaaaGreatDoor
