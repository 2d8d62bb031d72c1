import Derived.Test.YtoflhbghdlaeaaaGreatDoorG5
import Derived.WalkLawsBesides
import Derived.Deep.SlicePairs
import Derived.Lib.SmallJoins
namespace Go.Proofs.YtoflhbghdlaeaaaGreatDoor
set_option maxHeartbeats 400000
open Go.RowKit _root_.Go.Proofs.Tryz
variable {w w' W:World} {v:Value} {ys xs l:LI} {R n p k g B:Nat} {P:Program} {ls:List (LI)} {E:TypeId}
theorem Zt (hr:∀y∈ys,0<=y∧y<=255):(∃c,Qh ys=(0,0,c)∧(c=2∨c=3))∨(∃a k:Nat,Qh ys=((a:Int),k,0)∧1<=k∧k<=ys.length∧a<18446744073709551616∧ys=gs a++ys.drop k):=by
 rcases Jj ys hr with ⟨c,h,hc⟩ | ⟨a,k,h,h1,h2,_,h4,h5⟩
 ·exact .inl ⟨c,by rw[Qh,h];rfl,hc⟩
 ·exact .inr ⟨a,k,by rw[Qh,h];rfl,h1,h2,h4,by rw[h5,List.take_append_drop]⟩
theorem Tr (v k:Nat) (h:v<18446744073709551616) (hk:k<(gs v).length):Qh ((gs v).take k)=(0,0,2):=by
 have:=uy v 0 k 0 (by omega) (by simpa using h) hk;rw[Qh,this]
 rfl
theorem IT (b t:LI) (n:Int) (hb:b.length<=1000000) (hn:(b.length:Int)<=n):Qq n (blk b++t)=(b,(blk b).length,0):=by
 unfold Qq blk;rw[List.append_assoc,Ke _ _ (by omega),if_neg (by omega),if_neg (by simp),if_neg (by simp;omega),if_neg (by simp[List.length_append];omega)];simp
theorem Mu (b:LI) (k:Nat) (n:Int) (hb:b.length<=1000000) (hn:(b.length:Int)<=n) (hk:k<(blk b).length):Qq n ((blk b).take k)=([],0,2):=by
 have hl:(blk b).length=(gs b.length).length+b.length:=by rw[blk,Qc]
 by_cases h:k<(gs b.length).length
 ·have e:(blk b).take k=(gs b.length).take k:=by rw[blk,List.take_append_of_le_length (by omega)]
  rw[e,Qq,if_neg (by omega),Tr _ _ (by omega) h,if_pos (by simp)]
 ·have e:(blk b).take k=gs b.length++b.take (k - (gs b.length).length):=by
   rw[blk,List.take_append,List.take_of_length_le (by omega)]
  rw[e,Qq,if_neg (by omega),Ke _ _ (by omega),if_neg (by simp),if_neg (by simp;omega),if_pos (by simp only[Qc,Qf];omega)]
theorem Pb {n:Int} (hr:∀y∈ys,0<=y∧y<=255) (hn:0<=n) (hn1:n<=1000000) :
 (∃c,Qq n ys=([],0,c)∧(c=2∨c=3∨c=4))∨(∃b k,Qq n ys=(b,k,0)∧(b.length:Int)<=n∧k<=ys.length∧1<=k∧ys=blk b++ys.drop k∧k=(blk b).length):=by
 unfold Qq;rw[if_neg (by omega)]
 rcases Zt hr with ⟨c,h,hc⟩ | ⟨a,k,h,h1,h2,h3,h4⟩
 ·rw[h,if_pos (by rcases hc with rfl | rfl <;> simp)]
  exact .inl ⟨c,rfl,by omega⟩
 ·rw[h,if_neg (by simp)]
  simp only
  by_cases c1:n<(a:Int)
  ·rw[if_pos c1];exact .inl ⟨4,rfl,by omega⟩
  ·rw[if_neg c1]
   by_cases c2:(ys.length:Int) - k<a
   ·rw[if_pos c2];exact .inl ⟨2,rfl,by omega⟩
   ·rw[if_neg c2,Int.toNat_natCast]
    have hkg:k=(gs a).length:=by
     have:=congrArg List.length h4;rw[Qc,Qo] at this;omega
    have h0:((ys.drop k).take a).length=a:=by rw[Qf,Qo];omega
    refine .inr ⟨(ys.drop k).take a,k+a,rfl,by rw[h0];omega,by omega,by omega,?_,?_⟩
    ·unfold blk
     rw[h0,List.append_assoc,<-List.drop_drop,List.take_append_drop];exact h4
    ·unfold blk
     rw[Qc,h0,hkg]
theorem Mh (v:Int) (i:Nat):fixB v (i+1)=fixB (v / 256) i:=by
 unfold fixB;rw[show 8*(i+1)=8+8*i by omega,Int.pow_add,show (2:Int)^8=256 from rfl,Int.ediv_ediv_of_nonneg (by omega)]
theorem Ln (v:Int) (n:Nat):fixL v (n+1)=fixL (v / 256) n++[fixB v 0]:=by
 unfold fixL;rw[List.range_succ,List.map_append,List.map_singleton]
 congr 1
 ·apply List.map_congr_left
  intro j hj;rw[List.mem_range] at hj;rw[<-Mh]
  congr 1
  omega
 ·simp
theorem yK (n:Nat):∀v:Int,0<=v->(num (fixL v n):Int)=v % ((256^n:Nat):Int):=by
 induction n with
 | zero=>intro v _;simp[fixL,num]
 | succ n ih =>
  intro v hv;have h0:=JR v 0;rw[Ln,ZL,Int.natCast_add,Int.natCast_mul,ih (v / 256) (by omega),Int.toNat_of_nonneg h0.1];obtain⟨m,rfl⟩:=Int.eq_ofNat_of_zero_le hv
  have e1:fixB (m:Int) 0=((m % 256:Nat):Int):=by simp[fixB]
  have e2:((m:Int) / 256)=((m / 256:Nat):Int):=by omega
  rw[e1,e2,Nat.pow_succ,Nat.mul_comm (256^n) 256,<-Int.natCast_emod,<-Int.natCast_emod,Nat.mod_mul];omega
theorem uS (v:Nat) (h:v<18446744073709551616):num (fixL v 8)=v:=by
 have:=yK 8 v (by omega)
 have e:((256^8:Nat):Int)=18446744073709551616:=by decide
 rw[e] at this;omega
abbrev Qy (α:Type):=LI->Except Int (α × LI)
structure PC {α:Type} (rd:Qy α) (wr:α->LI) (good:α->Prop):Prop where
 back:∀x t,good x->rd (wr x++t)=.ok (x,t)
 only:∀ys x t,U8 ys->rd ys=.ok (x,t)->good x∧ys=wr x++t
 cut:∀x k,good x->k<(wr x).length->rd ((wr x).take k)=.error 2
def Yv {α β:Type} (r1:Qy α) (r2:α->Qy β):Qy (α × β):=λys=>match r1 ys with
 | .error e=>.error e
 | .ok (x,t)=>match r2 x t with
  | .error e=>.error e
  | .ok (y,t')=>.ok ((x,y),t')
theorem PC.then' {α β:Type} {r1:Qy α} {w1:α->LI} {g1:α->Prop} {r2:α->Qy β} {w2:α->β->LI} {g2:α->β->Prop} (h1:PC r1 w1 g1) (h2:∀x,g1 x->PC (r2 x) (w2 x) (g2 x)) :
 PC (Yv r1 r2) (λp=>w1 p.1++w2 p.1 p.2) (λp=>g1 p.1∧g2 p.1 p.2):=by
 refine⟨?_,?_,?_⟩
 ·rintro⟨x,y⟩ t ⟨hx,hy⟩
  simp only[Yv];rw[List.append_assoc,h1.back x _ hx];simp only;rw[(h2 x hx).back y t hy]
 ·rintro ys ⟨x,y⟩ t h8 h
  simp only[Yv] at h
  cases e1:r1 ys with
  | error e=>rw[e1] at h;cases h
  | ok p =>
   obtain⟨x',t1⟩:=p;rw[e1] at h;simp only at h
   cases e2:r2 x' t1 with
   | error e=>rw[e2] at h;cases h
   | ok p =>
    obtain⟨y',t2⟩:=p;rw[e2] at h;simp only[Except.ok.injEq,Prod.mk.injEq] at h;obtain⟨⟨rfl,rfl⟩,rfl⟩:=h;obtain⟨gx,hx⟩:=h1.only ys _ _ h8 e1
    have h8':U8 t1:=λz hz=>h8 z (by rw[hx];exact List.mem_append_right _ hz)
    obtain⟨gy,hy⟩:=(h2 _ gx).only t1 _ _ h8' e2;exact⟨⟨gx,gy⟩,by simp only;rw[List.append_assoc,<-hy];exact hx⟩
 ·rintro⟨x,y⟩ k ⟨hx,hy⟩ hk
  simp only at hk ⊢;simp only[Yv]
  by_cases hlt:k<(w1 x).length
  ·rw[List.take_append_of_le_length (by omega),h1.cut x k hx hlt]
  ·rw[List.take_append,List.take_of_length_le (by omega),h1.back x _ hx]
   simp only;rw[(h2 x hx).cut y _ hy (by rw[Qc] at hk;omega)]
def YE {α:Type} (r:Qy α) (c:α->Bool) (e:Int):Qy α:=λys=>match r ys with
 | .error e=>.error e
 | .ok (x,t)=>if c x then .ok (x,t) else .error e
theorem PC.need {α:Type} {r:Qy α} {w:α->LI} {g:α->Prop} (h:PC r w g) (c:α->Bool) (e:Int):PC (YE r c e) w (λx=>g x∧c x=true):=by
 refine⟨?_,?_,?_⟩
 ·rintro x t ⟨hx,hc⟩
  simp only[YE];rw[h.back x t hx];simp only[hc,if_true]
 ·rintro ys x t h8 k
  simp only[YE] at k
  cases e1:r ys with
  | error e=>rw[e1] at k;cases k
  | ok p =>
   obtain⟨x',t1⟩:=p;rw[e1] at k;simp only at k
   by_cases hc:c x'=true
   ·rw[if_pos hc] at k
    simp only[Except.ok.injEq,Prod.mk.injEq] at k;obtain⟨rfl,rfl⟩:=k;obtain⟨gx,hx⟩:=h.only ys _ _ h8 e1;exact⟨⟨gx,hc⟩,hx⟩
   ·rw[if_neg hc] at k;cases k
 ·rintro x k ⟨hx,_⟩ hk
  simp only[YE];rw[h.cut x k hx hk]
def rdRep {σ α:Type} (r:σ->Qy α) (nx:σ->α->σ):Nat->σ->Qy (List α)
 | 0,_=>λys=>.ok ([],ys)
 | n+1,s=>λys=>match r s ys with
  | .error e=>.error e
  | .ok (x,t)=>match rdRep r nx n (nx s x) t with
   | .error e=>.error e
   | .ok (l,t')=>.ok (x :: l,t')
def YR {σ α:Type} (g:σ->α->Prop) (nx:σ->α->σ):Nat->σ->List α->Prop
 | 0,_,l=>l=[]
 | _+1,_,[]=>False
 | n+1,s,x :: l=>g s x∧YR g nx n (nx s x) l
theorem PC.rep {σ α:Type} {r:σ->Qy α} {w:α->LI} {g:σ->α->Prop} (nx:σ->α->σ) (h:∀s,PC (r s) w (g s)):∀(n:Nat) (s:σ),PC (rdRep r nx n s) (λl=>(l.map w).flatten) (YR g nx n s)
 | 0,s=>by
  refine⟨?_,?_,?_⟩
  ·rintro x t rfl;rfl
  ·rintro ys x t h8 k
   simp only[rdRep,Except.ok.injEq,Prod.mk.injEq] at k;obtain⟨rfl,rfl⟩:=k;exact⟨rfl,rfl⟩
  ·rintro x k rfl hk
   simp at hk
 | n+1,s=>by
  have ih:=λs=>PC.rep nx h n s
  refine⟨?_,?_,?_⟩
  ·rintro l t hl
   cases l with
   | nil=>exact hl.elim
   | cons x l =>
    simp only[rdRep,List.map_cons,List.flatten_cons];rw[List.append_assoc,(h s).back x _ hl.1];simp only;rw[(ih _).back l t hl.2]
  ·rintro ys l t h8 k
   simp only[rdRep] at k
   cases e1:r s ys with
   | error e=>rw[e1] at k;cases k
   | ok p =>
    obtain⟨x,t1⟩:=p;rw[e1] at k;simp only at k
    cases e2:rdRep r nx n (nx s x) t1 with
    | error e=>rw[e2] at k;cases k
    | ok p =>
     obtain⟨l',t2⟩:=p;rw[e2] at k;simp only[Except.ok.injEq,Prod.mk.injEq] at k;obtain⟨rfl,rfl⟩:=k;obtain⟨gx,hx⟩:=(h s).only ys _ _ h8 e1
     have h8':U8 t1:=λz hz=>h8 z (by rw[hx];exact List.mem_append_right _ hz)
     obtain⟨gl,hl⟩:=(ih _).only t1 _ _ h8' e2;refine⟨⟨gx,gl⟩,?_⟩;simp only[List.map_cons,List.flatten_cons];rw[List.append_assoc,<-hl];exact hx
  ·rintro l k hl hk
   cases l with
   | nil=>exact hl.elim
   | cons x l =>
    simp only[List.map_cons,List.flatten_cons] at hk ⊢;simp only[rdRep]
    by_cases hlt:k<(w x).length
    ·rw[List.take_append_of_le_length (by omega),(h s).cut x k hl.1 hlt]
    ·rw[List.take_append,List.take_of_length_le (by omega),(h s).back x _ hl.1]
     simp only;rw[(ih _).cut l _ hl.2 (by rw[Qc] at hk;omega)]
def rdB (n:Nat):Qy (LI):=λys=>if ys.length<n then .error 2 else .ok (ys.take n,ys.drop n)
theorem PC.bytes (n:Nat):PC (rdB n) (λx=>x) (λx=>x.length=n∧U8 x):=by
 refine⟨?_,?_,?_⟩
 ·rintro x t ⟨rfl,_⟩
  simp only[rdB];rw[if_neg (by rw[Qc];omega),List.take_left,List.drop_left]
 ·rintro ys x t h8 k
  simp only[rdB] at k
  by_cases h:ys.length<n
  ·rw[if_pos h] at k;cases k
  ·rw[if_neg h] at k
   simp only[Except.ok.injEq,Prod.mk.injEq] at k;obtain⟨rfl,rfl⟩:=k;exact⟨⟨by rw[Qf];omega,h8.take _⟩,(List.take_append_drop _ _).symm⟩
 ·rintro x k ⟨rfl,_⟩ hk
  simp only[rdB];rw[if_pos (by rw[Qf];omega)]
def rdV:Qy Nat:=λys=>if (Qh ys).2.2=0 then .ok ((Qh ys).1.toNat,ys.drop (Qh ys).2.1) else .error (Qh ys).2.2
theorem PC.varint:PC rdV gs (λv=>v<18446744073709551616):=by
 refine⟨?_,?_,?_⟩
 ·intro v t hv
  simp only[rdV];rw[Ke v t hv];simp
 ·intro ys x t h8 k
  simp only[rdV] at k
  rcases Zt h8 with ⟨c,h,hc⟩ | ⟨a,j,h,h1,h2,h3,h4⟩
  ·rw[h] at k
   rw[if_neg (by simp only;omega)] at k;cases k
  ·rw[h] at k
   simp only[if_true,Int.toNat_natCast,Except.ok.injEq,Prod.mk.injEq] at k;obtain⟨rfl,rfl⟩:=k;exact⟨h3,h4⟩
 ·intro v k hv hk
  simp only[rdV];rw[Tr v k hv hk]
  rfl
def rdK (n:Nat):Qy (LI):=λys=>if (Qq n ys).2.2=0 then .ok ((Qq n ys).1,ys.drop (Qq n ys).2.1) else .error (Qq n ys).2.2
theorem PC.block (n:Nat) (hn:n<=1000000):PC (rdK n) blk (λx=>x.length<=n∧U8 x):=by
 refine⟨?_,?_,?_⟩
 ·rintro x t ⟨hx,_⟩
  simp only[rdK];rw[IT x t n (by omega) (by omega)];simp
 ·intro ys x t h8 k
  simp only[rdK] at k
  rcases Pb (n:=(n:Int)) h8 (by omega) (by omega) with ⟨c,h,hc⟩ | ⟨b,j,h,h1,h2,_,h4,_⟩
  ·rw[h] at k
   rw[if_neg (by simp only;omega)] at k;cases k
  ·rw[h] at k
   simp only[if_true,Except.ok.injEq,Prod.mk.injEq] at k;obtain⟨rfl,rfl⟩:=k;exact⟨⟨by omega,λy hy=>h8 y (by rw[h4];exact List.mem_append_left _ (List.mem_append_right _ hy))⟩,h4⟩
 ·rintro x k ⟨hx,_⟩ hk
  simp only[rdK];rw[Mu x k n (by omega) (by omega) hk]
  rfl
def rdAs {α β:Type} (r:Qy α) (f:α->β):Qy β:=λys=>match r ys with
 | .error e=>.error e
 | .ok (x,t)=>.ok (f x,t)
theorem PC.as {α β:Type} {r:Qy α} {w:α->LI} {g:α->Prop} (h:PC r w g) (f:α->β) (f':β->α) (w':β->LI) (g':β->Prop) (h1:∀x,g x->f' (f x)=x) (h2:∀y,g' y->g (f' y)∧f (f' y)=y∧w (f' y)=w' y) (h3:∀x,g x->g' (f x)) :
 PC (rdAs r f) w' g':=by
 refine⟨?_,?_,?_⟩
 ·intro y t hy
  obtain⟨k1,k2,k3⟩:=h2 y hy;simp only[rdAs];rw[<-k3,h.back _ t k1];simp only[k2]
 ·intro ys y t h8 k
  simp only[rdAs] at k
  cases e1:r ys with
  | error e=>rw[e1] at k;cases k
  | ok p =>
   obtain⟨x,t1⟩:=p;rw[e1] at k;simp only[Except.ok.injEq,Prod.mk.injEq] at k;obtain⟨rfl,rfl⟩:=k;obtain⟨gx,hx⟩:=h.only ys _ _ h8 e1;refine⟨h3 x gx,?_⟩;have:=(h2 (f x) (h3 x gx)).2.2;rw[h1 x gx] at this;rw[<-this];exact hx
 ·intro y k hy hk
  obtain⟨k1,k2,k3⟩:=h2 y hy;rw[<-k3] at hk ⊢;simp only[rdAs];rw[h.cut _ k k1 hk]
def lexB:LI->LI->Bool
 | _,[]=>false
 | [],_ :: _=>true
 | a :: x,b :: y=>decide (a<b) || (decide (a=b) && lexB x y)
theorem Ri (x:LI):lexB x x=false:=by
 induction x with
 | nil=>rfl
 | cons a x ih=>simp[lexB,ih]
theorem Zy:∀{x y z:LI},lexB x y=true->lexB y z=true->lexB x z=true
 | _,[],_,h,_=>by cases ‹LI› <;> simp[lexB] at h
 | _,_ :: _,[],_,h=>by simp[lexB] at h
 | [],_ :: _,_ :: _,_,_=>rfl
 | a :: x,b :: y,c :: z,h1,h2=>by
  simp only[lexB,Bool.or_eq_true,Bool.and_eq_true,decide_eq_true_eq] at h1 h2 ⊢
  rcases h1 with h1 | ⟨h1,k1⟩ <;> rcases h2 with h2 | ⟨h2,k2⟩
  ·exact .inl (by omega)
  ·exact .inl (by omega)
  ·exact .inl (by omega)
  ·exact .inr ⟨by omega,Zy k1 k2⟩
theorem X6:∀(x y:LI),x=y∨lexB x y=true∨lexB y x=true
 | [],[]=>.inl rfl
 | [],_ :: _=>.inr (.inl rfl)
 | _ :: _,[]=>.inr (.inr rfl)
 | a :: x,b :: y=>by
  simp only[lexB,Bool.or_eq_true,Bool.and_eq_true,decide_eq_true_eq,List.cons.injEq]
  rcases (show a<b∨a=b∨b<a by omega) with h | h | h
  ·exact .inr (.inl (.inl h))
  ·rcases X6 x y with k | k | k
   ·exact .inl ⟨h,k⟩
   ·exact .inr (.inl (.inr ⟨h,k⟩))
   ·exact .inr (.inr (.inr ⟨h.symm,k⟩))
  ·exact .inr (.inr (.inl h))
theorem ZZ {x y:LI} (h:lexB x y=true):x≠y:=λe=>by rw[e,Ri] at h;cases h
theorem Ee {x y:LI} (h:lexB x y=true):lexB y x=false:=by
 cases k:lexB y x with
 | false=>rfl
 | true=>have:=Zy h k;rw[Ri] at this;exact this.symm
def RIS (l:List (LI)):Prop:=l.Pairwise λx y=>lexB x y=true
theorem RIS.nodup {l:List (LI)} (h:RIS l):l.Nodup:=List.Pairwise.imp (λk=>ZZ k) h
theorem RIS.same:∀{a b:List (LI)},RIS a->RIS b->(∀x,x∈a↔x∈b)->a=b
 | [],[],_,_,_=>rfl
 | [],y :: b,_,_,h=>by have:=(h y).2 (by simp);simp at this
 | x :: a,[],_,_,h=>by have:=(h x).1 (by simp);simp at this
 | x :: a,y :: b,ha,hb,h=>by
  have h3:=List.pairwise_cons.1 ha;have h0:=List.pairwise_cons.1 hb
  have exy:x=y:=by
   have h1:=(h x).1 (by simp);have h2:=(h y).2 (by simp);rw[List.mem_cons] at h1 h2
   rcases h1 with h1 | h1
   ·exact h1
   ·rcases h2 with h2 | h2
    ·exact h2.symm
    ·have k1:=h0.1 x h1
     have k2:=h3.1 y h2;rw[Ee k1] at k2;cases k2
  subst exy
  congr 1
  refine RIS.same h3.2 h0.2 (λz=>⟨λhz=>?_,λhz=>?_⟩)
  ·rcases List.mem_cons.1 ((h z).1 (List.mem_cons_of_mem _ hz)) with e | e
   ·exact absurd e.symm (ZZ (h3.1 z hz))
   ·exact e
  ·rcases List.mem_cons.1 ((h z).2 (List.mem_cons_of_mem _ hz)) with e | e
   ·exact absurd e.symm (ZZ (h0.1 z hz))
   ·exact e
def insT (x:LI):List (LI)->List (LI)
 | []=>[x]
 | y :: l=>if lexB y x then y :: insT x l else if y=x then y :: l else x :: y :: l
theorem XM (x z:LI):∀l,z∈insT x l↔z=x∨z∈l
 | []=>by simp[insT]
 | y :: l=>by
  have ih:=XM x z l;unfold insT
  by_cases h:lexB y x=true
  ·rw[if_pos h,List.mem_cons,ih,List.mem_cons]
   exact⟨λk=>by rcases k with k | k | k <;> simp[k],λk=>by rcases k with k | k | k <;> simp[k]⟩
  ·rw[if_neg h]
   by_cases e:y=x
   ·rw[if_pos e];subst e
    simp
   ·rw[if_neg e];simp
theorem PX (x:LI):∀l,RIS l->RIS (insT x l)
 | [],_=>List.pairwise_singleton _ _
 | y :: l,hr=>by
  have h':=List.pairwise_cons.1 hr;unfold insT
  by_cases h:lexB y x=true
  ·rw[if_pos h]
   refine List.pairwise_cons.2 ⟨λz hz=>?_,PX x l h'.2⟩
   rcases (XM x z l).1 hz with rfl | k
   ·exact h
   ·exact h'.1 z k
  ·rw[if_neg h]
   by_cases e:y=x
   ·rw[if_pos e];exact hr
   ·rw[if_neg e]
    refine List.pairwise_cons.2 ⟨λz hz=>?_,hr⟩
    have h0:lexB x y=true:=by
     rcases X6 x y with k | k | k
     ·exact absurd k.symm e
     ·exact k
     ·exact absurd k h
    rcases List.mem_cons.1 hz with rfl | k
    ·exact h0
    ·exact Zy h0 (h'.1 z k)
def Yl:List (LI)->List (LI)
 | []=>[]
 | x :: l=>insT x (Yl l)
theorem UF (z:LI):∀l,z∈Yl l↔z∈l
 | []=>by simp[Yl]
 | x :: l=>by rw[Yl,XM,UF z l,List.mem_cons]
theorem Va:∀l,RIS (Yl l)
 | []=>List.Pairwise.nil
 | x :: l=>PX x _ (Va l)
theorem Xl {l t:List (LI)} (hr:RIS t) (h:∀x,x∈t↔x∈l):t=Yl l:=RIS.same hr (Va l) (λx=>(h x).trans (UF x l).symm)
theorem Ti (l:List (LI)):(Yl l).length<=l.length:=by
 have h:∀(x:LI) t,(insT x t).length<=t.length+1:=by
  intro x t
  induction t with
  | nil=>simp[insT]
  | cons y t ih =>
   unfold insT
   split
   ·simp only[Qi];omega
   ·split <;> simp
 induction l with
 | nil=>simp[Yl]
 | cons x l ih=>rw[Yl,Qi];have:=h x (Yl l);omega
def YU (l:List (LI)) (x:LI):Nat:=l.idxOf x
theorem Wq {l:List (LI)} {x:LI} (h:x∈l):YU l x<l.length:=List.idxOf_lt_length_of_mem h
theorem ZF {l:List (LI)} {x:LI} (h:x∈l):l.getD (YU l x) []=x:=by
 rw[Qd,Qg (Wq h)];exact List.getElem_idxOf (Wq h)
theorem Zd {l:List (LI)} (hr:RIS l) {i:Nat} (hi:i<l.length):YU l (l.getD i [])=i:=by
 rw[Qd,Qg hi];exact List.Nodup.idxOf_getElem hr.nodup i hi
def YZ (l:List (LI)) (x:LI):Bool:=match l.getLast? with
 | none=>true
 | some y=>lexB y x
theorem RIS.snoc {l:List (LI)} {x:LI} (h:RIS l) (hb:YZ l x=true):RIS (l++[x]):=by
 refine List.pairwise_append.2 ⟨h,List.pairwise_singleton _ _,λa ha b hb'=>?_⟩;rw[List.mem_singleton] at hb';subst hb'
 have h0:l≠[]:=λe=>by subst e;simp at ha
 obtain⟨t,y,rfl⟩:∃t y,l=t++[y]:=⟨l.dropLast,l.getLast h0,(List.dropLast_concat_getLast h0).symm⟩;simp[YZ] at hb
 rcases List.mem_append.1 ha with k | k
 ·exact Zy ((List.pairwise_append.1 h).2.2 a k y (by simp)) hb
 ·rw[List.mem_singleton] at k
  subst k;exact hb
theorem RIS.last {l:List (LI)} {x:LI} (h:RIS (l++[x])):RIS l∧YZ l x=true:=by
 have h':=List.pairwise_append.1 h;refine⟨h'.1,?_⟩
 by_cases hne:l=[]
 ·subst hne;rfl
 ·obtain⟨t,y,rfl⟩:∃t y,l=t++[y]:=⟨l.dropLast,l.getLast hne,(List.dropLast_concat_getLast hne).symm⟩
  simp[YZ];exact h'.2.2 y (by simp) x (by simp)
theorem Ae:∀(x:LI),U8 x->fixL (num x:Int) x.length=x:=by
 intro x
 induction h:x.length generalizing x with
 | zero =>
  intro _;have:x=[]:=List.eq_nil_of_length_eq_zero h;subst this;rfl
 | succ n ih =>
  intro h8
  have h1:x≠[]:=by intro h0;subst h0;simp at h
  obtain⟨t,b,rfl⟩:∃t b,x=t++[b]:=⟨x.dropLast,x.getLast h1,(List.dropLast_concat_getLast h1).symm⟩
  have hl:t.length=n:=by simpa using h
  have hb:=h8 b (by simp);have e:=ih t hl (λy hy=>h8 y (by simp[hy]));rw[ZL,Ln,show (((256*num t+b.toNat:Nat):Int) / 256)=(num t:Int) by omega,e]
  congr 2
  unfold fixB;simp only[Nat.mul_zero,Int.pow_zero];omega
structure MAN where
 ver:Nat
 prev:LI
 es:List (LI × Int)
 root:LI
def QW:LI:=[67,83,75,49]
def QC (m:MAN):List (LI):=Yl (m.es.map Prod.fst)
def Uh (m:MAN):Prop:=m.ver<18446744073709551615∧(m.prev.length=32∧U8 m.prev)∧(m.root.length=32∧U8 m.root)∧m.es.length<=1048576∧∀e∈m.es,(e.1.length<=64∧U8 e.1)∧0<=e.2∧e.2<=8
def U1 (l:List (LI)) (e:LI × Int):LI:=gs (YU l e.1)++[e.2]
def MENC (m:MAN):LI :=
 QW++(fixL (m.ver:Int) 8++(m.prev++(gs (QC m).length++((QC m).map blk).flatten++(gs m.es.length++(m.es.map (U1 (QC m))).flatten++m.root))))
def rdHd:Qy (LI):=YE (rdB 4) (λx=>x == QW) 3
def rdVer:Qy Nat:=rdAs (YE (rdB 8) (λx=>decide (num x≠18446744073709551615)) 3) num
def Kg:Qy Nat:=YE rdV (λn=>decide (n<=1048576)) 4
def rdTn (acc:List (LI)):Qy (LI):=YE (rdK 64) (λx=>YZ acc x) 3
def rdTns (n:Nat) (acc:List (LI)):Qy (List (LI)):=rdRep rdTn (λacc x=>acc++[x]) n acc
def rdDir:Qy (Nat × List (LI)):=Yv Kg (λn=>rdTns n [])
def rdEn (L:Nat):Qy (Nat × LI):=Yv (YE rdV (λa=>decide (a<L)) 3) (λ_=>YE (rdB 1) (λx=>decide (x.getD 0 0<=8)) 3)
def rdEns (L n:Nat):Qy (List (Nat × LI)):=rdRep (λ_:Unit=>rdEn L) (λs _=>s) n ()
def rdAll (L:Nat):Qy (Nat × List (Nat × LI)):=Yv Kg (λn=>rdEns L n)
def Wc:Qy (LI × Nat × LI × (Nat × List (LI)) × (Nat × List (Nat × LI)) × LI) :=
 Yv rdHd λ_=>Yv rdVer λ_=>Yv (rdB 32) λ_=>Yv rdDir λd=>Yv (rdAll d.2.length) λ_=>rdB 32
def Uu (L:Nat) (ts:List (Nat × LI)):Bool:=(List.range L).all λi=>ts.any λt=>t.1 == i
def Ks (v:Nat) (p:LI) (l:List (LI)) (ts:List (Nat × LI)) (r:LI):MAN:=⟨v,p,ts.map λt=>(l.getD t.1 [],t.2.getD 0 0),r⟩
def MDEC (b:LI):Except Int MAN:=match Wc b with
 | .error e=>.error e
 | .ok ((_,v,p,d,a,r),rest)=>if rest=[] then (if Uu d.2.length a.2=true then .ok (Ks v p d.2 a.2 r) else .error 3) else .error 3
theorem PC_hd:PC rdHd (λx=>x) (λx=>(x.length=4∧U8 x)∧(x == QW)=true):=(PC.bytes 4).need _ 3
theorem QuH:PC rdVer (λv=>fixL (v:Int) 8) (λv=>v<18446744073709551615):=by
 refine ((PC.bytes 8).need (λx=>decide (num x≠18446744073709551615)) 3).as num (λv=>fixL (v:Int) 8) _ _ ?_ ?_ ?_
 ·rintro x ⟨⟨hl,h8⟩,_⟩
  have:=Ae x h8;rw[hl] at this;exact this
 ·intro v hv
  have e:=uS v (by omega);exact⟨⟨⟨QD _ _,Ur _ _⟩,Qe (by rw[e];omega)⟩,e,rfl⟩
 ·rintro x ⟨⟨hl,h8⟩,hc⟩
  have h1:=GE x h8;rw[hl] at h1;have h2:=of_decide_eq_true hc
  have h3:(256:Nat)^8=18446744073709551616:=by decide
  omega
theorem QmJ:PC Kg gs (λn=>n<18446744073709551616∧decide (n<=1048576)=true):=PC.varint.need _ 4
theorem PC_tn (acc:List (LI)):PC (rdTn acc) blk (λx=>(x.length<=64∧U8 x)∧YZ acc x=true):=(PC.block 64 (by decide)).need _ 3
theorem Fo (n:Nat) (acc:List (LI)):PC (rdTns n acc) (λl=>(l.map blk).flatten) (YR (λacc x=>(x.length<=64∧U8 x)∧YZ acc x=true) (λacc x=>acc++[x]) n acc):=PC.rep _ PC_tn n acc
theorem Vu:∀(l acc:List (LI)),RIS acc->(YR (λacc x=>(x.length<=64∧U8 x)∧YZ acc x=true) (λacc x=>acc++[x]) l.length acc l↔RIS (acc++l)∧∀x∈l,x.length<=64∧U8 x)
 | [],acc,h=>by simp[YR,h]
 | x :: l,acc,h=>by
  simp only[Qi,YR]
  constructor
  ·rintro⟨⟨h1,h2⟩,h3⟩
   have k:=(Vu l (acc++[x]) (h.snoc h2)).1 h3;rw[List.append_assoc] at k;refine⟨k.1,λy hy=>?_⟩
   rcases List.mem_cons.1 hy with rfl | hy
   ·exact h1
   ·exact k.2 y hy
  ·rintro⟨h1,h2⟩
   have e:acc++x :: l=(acc++[x])++l:=by simp
   rw[e] at h1;have k1:=(List.pairwise_append.1 h1).1;have k2:=RIS.last k1;exact⟨⟨h2 x (by simp),k2.2⟩,(Vu l (acc++[x]) k1).2 ⟨h1,λy hy=>h2 y (by simp[hy])⟩⟩
theorem Zo {σ α:Type} {g:σ->α->Prop} {nx:σ->α->σ}:∀{n:Nat} {s:σ} {l:List α},YR g nx n s l->l.length=n
 | 0,_,_,h=>by cases h;rfl
 | n+1,_,[],h=>h.elim
 | n+1,_,x :: l,h=>by rw[Qi,Zo h.2]
theorem PC_en (L:Nat):PC (rdEn L) (λt=>gs t.1++t.2) (λt=>(t.1<18446744073709551616∧decide (t.1<L)=true)∧((t.2.length=1∧U8 t.2)∧decide (t.2.getD 0 0<=8)=true)) :=
 (PC.varint.need _ 3).then' (λ_ _=>(PC.bytes 1).need _ 3)
theorem Xu {g:Nat × LI->Prop}:∀(ts:List (Nat × LI)),YR (λ_:Unit=>g) (λs _=>s) ts.length () ts↔∀t∈ts,g t
 | []=>by simp[YR]
 | t :: ts=>by simp only[Qi,YR,Xu ts,List.forall_mem_cons]
abbrev PH (L:Nat) (t:Nat × LI):Prop:=(t.1<18446744073709551616∧decide (t.1<L)=true)∧((t.2.length=1∧U8 t.2)∧decide (t.2.getD 0 0<=8)=true)
theorem Cx (L:Nat):PC (rdAll L) (λa=>gs a.1++(a.2.map λt=>gs t.1++t.2).flatten) (λa=>(a.1<18446744073709551616∧decide (a.1<=1048576)=true)∧YR (λ_:Unit=>PH L) (λs _=>s) a.1 () a.2) :=
 QmJ.then' (λn _=>PC.rep _ (λ_=>PC_en L) n ())
theorem Qq2:PC rdDir (λd=>gs d.1++(d.2.map blk).flatten) (λd=>(d.1<18446744073709551616∧decide (d.1<=1048576)=true)∧YR (λacc x=>(x.length<=64∧U8 x)∧YZ acc x=true) (λacc x=>acc++[x]) d.1 [] d.2) :=
 QmJ.then' (λn _=>Fo n [])
abbrev Jk:=LI × Nat × LI × (Nat × List (LI)) × (Nat × List (Nat × LI)) × LI
def Xd (x:Jk):LI:=x.1++(fixL (x.2.1:Int) 8++(x.2.2.1++((gs x.2.2.2.1.1++(x.2.2.2.1.2.map blk).flatten)++((gs x.2.2.2.2.1.1++(x.2.2.2.2.1.2.map λt=>gs t.1++t.2).flatten)++x.2.2.2.2.2))))
def Nb (x:Jk):Prop:=((x.1.length=4∧U8 x.1)∧(x.1 == QW)=true)∧x.2.1<18446744073709551615∧(x.2.2.1.length=32∧U8 x.2.2.1) ∧
 ((x.2.2.2.1.1<18446744073709551616∧decide (x.2.2.2.1.1<=1048576)=true)∧YR (λacc x=>(x.length<=64∧U8 x)∧YZ acc x=true) (λacc x=>acc++[x]) x.2.2.2.1.1 [] x.2.2.2.1.2) ∧
 ((x.2.2.2.2.1.1<18446744073709551616∧decide (x.2.2.2.2.1.1<=1048576)=true)∧YR (λ_:Unit=>PH x.2.2.2.1.2.length) (λs _=>s) x.2.2.2.2.1.1 () x.2.2.2.2.1.2)∧(x.2.2.2.2.2.length=32∧U8 x.2.2.2.2.2)
theorem Qq3:PC Wc Xd Nb:=PC_hd.then' λ_ _=>QuH.then' λ_ _=>(PC.bytes 32).then' λ_ _=>Qq2.then' λd _=>(Cx d.2.length).then' λ_ _=>PC.bytes 32
def Yk (m:MAN):Jk:=(QW,m.ver,m.prev,((QC m).length,QC m),(m.es.length,m.es.map λe=>(YU (QC m) e.1,[e.2])),m.root)
theorem VU {m:MAN} {e:LI × Int} (h:e∈m.es):e.1∈QC m:=(UF _ _).2 (List.mem_map.2 ⟨e,h,rfl⟩)
theorem Ve (m:MAN):(QC m).length<=m.es.length:=by
 have:=Ti (m.es.map Prod.fst);rw[List.length_map] at this;exact this
theorem yu (m:MAN):Xd (Yk m)=MENC m:=by
 unfold Xd Yk MENC;simp only[List.map_map]
 rfl
theorem kV {m:MAN} (h:Uh m):Nb (Yk m):=by
 obtain⟨h1,h2,h3,h4,h5⟩:=h;have hl:=Ve m;refine⟨⟨⟨rfl,λy hy=>?_⟩,by simp[Yk]⟩,h1,h2,⟨⟨?_,?_⟩,?_⟩,⟨⟨?_,?_⟩,?_⟩,h3⟩
 ·simp[Yk,QW] at hy;omega
 ·simp only[Yk];omega
 ·simp only[Yk];exact Qe (by omega)
 ·simp only[Yk]
  refine (Vu (QC m) [] List.Pairwise.nil).2 ⟨by rw[List.nil_append];exact Va _,λx hx=>?_⟩;obtain⟨e,he,rfl⟩:=List.mem_map.1 ((UF _ _).1 hx);exact (h5 e he).1
 ·simp only[Yk];omega
 ·simp only[Yk];exact Qe (by omega)
 ·have e1:(Yk m).2.2.2.2.1.1=(Yk m).2.2.2.2.1.2.length:=by simp[Yk]
  rw[e1];refine (Xu _).2 (λt ht=>?_);simp only[Yk] at ht ⊢;obtain⟨e,he,rfl⟩:=List.mem_map.1 ht;have hp:=Wq (VU he);obtain⟨_,k2,k3⟩:=h5 e he;refine⟨⟨by simp only;omega,Qe hp⟩,⟨rfl,λy hy=>?_⟩,Qe (by simpa using k3)⟩;rw[List.mem_singleton] at hy;omega
theorem EM (m:MAN):Uu (QC m).length (Yk m).2.2.2.2.1.2=true:=by
 unfold Uu;rw[List.all_eq_true];intro i hi;rw[List.mem_range] at hi
 have hx:(QC m).getD i []∈QC m:=by
  rw[Qd,Qg hi];exact List.getElem_mem hi
 obtain⟨e,he,e1⟩:=List.mem_map.1 ((UF _ _).1 hx);rw[List.any_eq_true];refine⟨(YU (QC m) e.1,[e.2]),List.mem_map.2 ⟨e,he,rfl⟩,?_⟩;simp only[e1,beq_iff_eq];exact Zd (Va _) hi
theorem If (m:MAN):Ks m.ver m.prev (QC m) (Yk m).2.2.2.2.1.2 m.root=m:=by
 unfold Ks Yk
 cases m with
 | mk v p es r =>
  congr 1
  simp only[List.map_map];rw[List.map_congr_left (g:=λe=>e),List.map_id'];intro e he;simp only[Function.comp];rw[ZF (VU (m:=⟨v,p,es,r⟩) he)]
  rfl
theorem RX {m:MAN} (h:Uh m):MDEC (MENC m)=.ok m:=by
 have k:=Qq3.back (Yk m) [] (kV h);rw[yu,List.append_nil] at k;unfold MDEC;rw[k]
 show (if ([]:LI)=[] then (if Uu (QC m).length (Yk m).2.2.2.2.1.2=true then Except.ok (Ks m.ver m.prev (QC m) (Yk m).2.2.2.2.1.2 m.root) else .error 3) else .error 3)=.ok m
 rw[if_pos rfl,if_pos (EM m),If]
theorem JG {b:LI} {m:MAN} (h8:U8 b) (h:MDEC b=.ok m):Uh m∧MENC m=b:=by
 unfold MDEC at h
 cases e1:Wc b with
 | error e=>rw[e1] at h;cases h
 | ok x =>
  obtain⟨⟨hd,v,p,⟨n,l⟩,⟨q,ts⟩,r⟩,rest⟩:=x;rw[e1] at h;simp only at h
  by_cases hr:rest=[]
  ·rw[if_pos hr] at h
   by_cases hu:Uu l.length ts=true
   ·rw[if_pos hu] at h
    subst hr;obtain⟨g,hb⟩:=Qq3.only b _ _ h8 e1;rw[List.append_nil] at hb;simp only[Except.ok.injEq] at h;obtain⟨⟨_,h4⟩,gv,gp,⟨⟨_,_⟩,gl⟩,⟨⟨_,gq⟩,gt⟩,gr⟩:=g;simp only at h4 gv gp gl gq gt gr;have hn:l.length=n:=Zo gl;have hq:ts.length=q:=Zo gt;subst hn hq;obtain⟨rl,ll⟩:=(Vu l [] List.Pairwise.nil).1 gl;rw[List.nil_append] at rl;have h2:=(Xu ts).1 gt
    have h3:∀t∈ts,t.1<l.length:=λt ht=>of_decide_eq_true (h2 t ht).1.2
    have h0:∀t∈ts,l.getD t.1 []∈l:=λt ht=>by
     rw[Qd,Qg (h3 t ht)];exact List.getElem_mem (h3 t ht)
    have hT:QC m=l:=by
     symm
     rw[<-h];refine Xl rl (λx=>⟨λhx=>?_,λhx=>?_⟩)
     ·have hi:=Wq hx
      unfold Uu at hu;rw[List.all_eq_true] at hu;have:=hu (YU l x) (List.mem_range.2 hi);rw[List.any_eq_true] at this;obtain⟨t,ht,e⟩:=this;rw[beq_iff_eq] at e;refine List.mem_map.2 ⟨(l.getD t.1 [],t.2.getD 0 0),List.mem_map.2 ⟨t,ht,rfl⟩,?_⟩;simp only[e];exact ZF hx
     ·obtain⟨e,he,rfl⟩:=List.mem_map.1 hx
      obtain⟨t,ht,rfl⟩:=List.mem_map.1 he;exact h0 t ht
    have hes:∀t∈ts,U1 l (l.getD t.1 [],t.2.getD 0 0)=gs t.1++t.2:=λt ht=>by
     unfold U1;simp only;rw[Zd rl (h3 t ht)]
     congr 1
     have h1:=(h2 t ht).2.1.1;obtain⟨y,hy⟩:=List.length_eq_one_iff.1 h1;rw[hy];rfl
    refine⟨?_,?_⟩
    ·rw[<-h]
     refine⟨gv,gp,gr,?_,?_⟩
     ·simp only[Ks,List.length_map]
      exact of_decide_eq_true gq
     ·intro e he
      obtain⟨t,ht,rfl⟩:=List.mem_map.1 he;refine⟨ll _ (h0 t ht),?_,of_decide_eq_true (h2 t ht).2.2⟩;exact ((h2 t ht).2.1.2.at 0).1
    ·have hhd:hd=QW:=by simpa using h4
     unfold MENC;rw[hT,hb,<-h,hhd];unfold Xd Ks;simp only[List.length_map,List.map_map];rw[List.map_congr_left (l:=ts) (f:=U1 l ∘ λt=>(l.getD t.1 [],t.2.getD 0 0)) (g:=λt=>gs t.1++t.2) hes]
   ·rw[if_neg hu] at h;cases h
  ·rw[if_neg hr] at h;cases h
theorem To {m:MAN} (h:Uh m):U8 (MENC m):=by
 obtain⟨h1,h2,h3,h4,h5⟩:=h;unfold MENC;refine U8.app (λy hy=>by simp[QW] at hy;omega) (U8.app (Ur _ _) (U8.app h2.2 (U8.app (U8.app (YW _) ?_) (U8.app (U8.app (YW _) ?_) h3.2))))
 ·intro y hy
  obtain⟨b,hb,hy⟩:=List.mem_flatten.1 hy;obtain⟨x,hx,rfl⟩:=List.mem_map.1 hb;obtain⟨e,he,rfl⟩:=List.mem_map.1 ((UF _ _).1 hx);exact Wh _ (h5 e he).1.2 y hy
 ·intro y hy
  obtain⟨l,hl,hy⟩:=List.mem_flatten.1 hy;obtain⟨e,he,rfl⟩:=List.mem_map.1 hl
  rcases List.mem_append.1 hy with k | k
  ·exact YW _ y k
  ·rw[List.mem_singleton] at k
   have:=(h5 e he).2;omega
def mpan (c:Int):Ending:=.panicked [{ v:=.iface 27 (.int .i64 c),recovered:=false }]
theorem Uf (c:Int) (w:World):Calls prog 133 #[.bool true,.int .i64 c] w λe w'=>e=.returned (.tuple #[])∧w=w':=by
 go_enter func133,ntmps133;go_wp2
 go_end0
 exact⟨rfl,rfl⟩
theorem UG (c:Int) (w:World):Calls prog 133 #[.bool false,.int .i64 c] w λe w'=>e=mpan c∧w=w':=by
 go_enter func133,ntmps133;go_wp2;exact⟨rfl,rfl,rfl⟩
theorem ZN (v:Value) (w:World):Calls prog 132 #[v,.int .i64 0] w λe w'=>e=.returned v∧w=w':=by
 go_enter func132,ntmps132;go_wp2_with fail;refine (Uf 0 w).mono ?_;rintro e w' ⟨rfl,rfl⟩;go_wp2;go_ret;exact⟨rfl,rfl⟩
theorem Zi (v:Value) (c:Int) (w:World) (h:c≠0):Calls prog 132 #[v,.int .i64 c] w λe w'=>e=mpan c∧w=w':=by
 have h0:(c == 0)=false:=by simpa using h
 go_enter func132,ntmps132;go_wp2_with fail;refine (UG c w).mono ?_;rintro e w' ⟨rfl,rfl⟩;unfold mpan;go_wp2;exact⟨rfl,rfl,rfl⟩
theorem VT (v:Value) (w:World):Calls prog 134 #[v,.int .i64 0] w λe w'=>e=.returned v∧w=w':=by
 go_enter func134,ntmps134;go_wp2_with fail;refine (Uf 0 w).mono ?_;rintro e w' ⟨rfl,rfl⟩;go_wp2;go_ret;exact⟨rfl,rfl⟩
theorem J7 (v:Value) (c:Int) (w:World) (h:c≠0):Calls prog 134 #[v,.int .i64 c] w λe w'=>e=mpan c∧w=w':=by
 have h0:(c == 0)=false:=by simpa using h
 go_enter func134,ntmps134;go_wp2_with fail;refine (UG c w).mono ?_;rintro e w' ⟨rfl,rfl⟩;unfold mpan;go_wp2;exact⟨rfl,rfl,rfl⟩
theorem EA (v:Value) (w:World):Calls prog 177 #[v,.int .i64 0] w λe w'=>e=.returned v∧w=w':=by
 go_enter func177,ntmps177;go_wp2_with fail;refine (Uf 0 w).mono ?_;rintro e w' ⟨rfl,rfl⟩;go_wp2;go_ret;exact⟨rfl,rfl⟩
theorem BO (v:Value) (c:Int) (w:World) (h:c≠0):Calls prog 177 #[v,.int .i64 c] w λe w'=>e=mpan c∧w=w':=by
 have h0:(c == 0)=false:=by simpa using h
 go_enter func177,ntmps177;go_wp2_with fail;refine (UG c w).mono ?_;rintro e w' ⟨rfl,rfl⟩;unfold mpan;go_wp2;exact⟨rfl,rfl,rfl⟩
theorem Nx {c:Int} (h:Qh ys=(0,0,c)) (hc:c≠0):rdV ys=.error c:=by unfold rdV;rw[h,if_neg hc]
theorem KO {a k:Nat} (h:Qh ys=((a:Int),k,0)):rdV ys=.ok (a,ys.drop k):=by unfold rdV;rw[h,if_pos rfl,Int.toNat_natCast]
theorem KU {α:Type} {r:Qy α} {c:α->Bool} {e e':Int} (h:r ys=.error e):YE r c e' ys=.error e:=by unfold YE;rw[h]
theorem Kx {α:Type} {r:Qy α} {c:α->Bool} {e':Int} {x:α} {t:LI} (h:r ys=.ok (x,t)) (hc:c x=false):YE r c e' ys=.error e':=by unfold YE;rw[h];simp[hc]
theorem Wm {α:Type} {r:Qy α} {c:α->Bool} {e':Int} {x:α} {t:LI} (h:r ys=.ok (x,t)) (hc:c x=true):YE r c e' ys=.ok (x,t):=by unfold YE;rw[h];simp[hc]
theorem U7 {α β:Type} {r1:Qy α} {r2:α->Qy β} {e:Int} (h:r1 ys=.error e):Yv r1 r2 ys=.error e:=by unfold Yv;rw[h]
theorem Yf {α β:Type} {r1:Qy α} {r2:α->Qy β} {ys t:LI} {x:α} {e:Int} (h:r1 ys=.ok (x,t)) (h2:r2 x t=.error e):Yv r1 r2 ys=.error e:=by unfold Yv;rw[h];simp only[h2]
theorem We {α β:Type} {r1:Qy α} {r2:α->Qy β} {ys t t':LI} {x:α} {y:β} (h:r1 ys=.ok (x,t)) (h2:r2 x t=.ok (y,t')):Yv r1 r2 ys=.ok ((x,y),t'):=by unfold Yv;rw[h];simp only[h2]
theorem Dd {c:Int} (h:Qh ys=(0,0,c)) (hc:c≠0):Kg ys=.error c:=KU (Nx h hc)
theorem Aq {a k:Nat} (h:Qh ys=((a:Int),k,0)) (hn:1048576<a):Kg ys=.error 4:=Kx (KO h) (Qb (by omega))
theorem Ad {a k:Nat} (h:Qh ys=((a:Int),k,0)) (hn:a<=1048576):Kg ys=.ok (a,ys.drop k):=Wm (KO h) (Qe hn)
def VV {α:Type} (w:World) (R:Nat) (v:Value) (r:Except Int (α × LI)) (val:α->Ending->World->Prop) (e:Ending) (w':World):Prop :=
 Only (λk=>k=R) w w'∧((∃c,c≠0∧r=.error c∧e=mpan c)∨∃x rest,r=.ok (x,rest)∧val x e w'∧∃v2,CurAt 108 w' R v2 rest∧v2.ownBlock=v.ownBlock)
theorem Hp (h:CurAt 108 w R v ys) :
 Calls prog 176 #[.pointer (some ⟨R,0,none⟩)] w (VV w R v (Kg ys) λn e _=>e=.returned (.int .i64 (n:Nat))∧n<=1048576):=by
 have A:=Qa (VY h)
 rcases Zt h.rng with ⟨c,hs,hc⟩ | ⟨a,k,hs,_,_,ha,_⟩
 ·have h2:c≠0:=by omega
  rw[Dd hs h2];rw[hs] at A;clear h hs hc;go_enter func176,ntmps176;go_wp2_with fail;refine A.o.mono ?_;rintro e w1 ⟨rfl,v2,_,_,o1⟩;have O1:=Qa o1;clear o1 A;go_wp2_with fail;refine (J7 _ c w1 h2).mono ?_;rintro e w' ⟨rfl,rfl⟩;unfold mpan;go_wp2;exact⟨rfl,O1.o,.inl ⟨c,h2,rfl,rfl⟩⟩
 ·rw[hs] at A
  by_cases hn:1048576<a
  ·rw[Aq hs hn]
   have d1:decide ((a:Int)<=1048576)=false:=by simp;omega
   have d2:decide (a<=1048576)=false:=by simp;omega
   clear h hs;go_enter func176,ntmps176;go_wp2_with fail;refine A.o.mono ?_;rintro e w1 ⟨rfl,v2,_,_,o1⟩;have O1:=Qa o1;clear o1 A;go_wp2_with fail;refine (VT _ w1).mono ?_;rintro e w' ⟨rfl,rfl⟩;go_wp2_with fail;refine (UG 4 w1).mono ?_;rintro e w' ⟨rfl,rfl⟩;unfold mpan;go_wp2;exact⟨rfl,O1.o,.inl ⟨4,by decide,rfl,rfl⟩⟩
  ·rw[Ad hs (by omega)]
   have d1:decide ((a:Int)<=1048576)=true:=by simp;omega
   have d2:decide (a<=1048576)=true:=by simp;omega
   have hw:IntKind.i64.wrap (a:Int)=a:=by rw[IntKind.wrap_i64];omega
   clear h hs;go_enter func176,ntmps176;go_wp2_with fail;refine A.o.mono ?_;rintro e w1 ⟨rfl,v2,h1,h0,o1⟩;have F:=Qa (And.intro h1 (And.intro h0 o1));clear o1 A h1 h0;go_wp2_with fail;refine (VT _ w1).mono ?_;rintro e w' ⟨rfl,rfl⟩;go_wp2_with fail;refine (Uf 4 w1).mono ?_;rintro e w' ⟨rfl,rfl⟩;go_wp2;go_ret;exact⟨F.o.2.2,.inr ⟨a,_,rfl,⟨rfl,by omega⟩,v2,F.o.1,F.o.2.1⟩⟩
section
open Go.ChangeShapes Go.WideShapes
def Ens (w:World) (v:Value) (s:List (LI × Int)):Prop :=
 ∃ao cap,v=.slice ao s.length cap∧s.length<=cap∧(s≠[]->∃b off,ao=some ⟨b,off,none⟩∧∀j,j<s.length ->
  w.cell? ⟨b,off+j*2,none⟩=some (.string (strOfNums (s.getD j ([],0)).1))∧w.cell? ⟨b,off+j*2+1,none⟩=some (.int .i64 (s.getD j ([],0)).2))
theorem Ens.len {s:List (LI × Int)} (h:Ens w v s):∃ao cap,v=.slice ao s.length cap:=by
 obtain⟨ao,cap,rfl,_⟩:=h;exact⟨ao,cap,rfl⟩
theorem Ens.nil (w:World):Ens w (.slice none 0 0) []:=⟨none,0,rfl,Nat.le_refl _,λh=>absurd rfl h⟩
theorem Ens.at {s:List (LI × Int)} (h:Ens w v s) (j:Nat) (hj:j<s.length) :
 ∃b off cap,v=.slice (some ⟨b,off,none⟩) s.length cap∧w.cell? ⟨b,off+j*2,none⟩=some (.string (strOfNums (s.getD j ([],0)).1))∧w.cell? ⟨b,off+j*2+1,none⟩=some (.int .i64 (s.getD j ([],0)).2):=by
 obtain⟨ao,cap,rfl,_,hr⟩:=h;obtain⟨b,off,rfl,hc⟩:=hr (by intro h0;subst h0;simp at hj);exact⟨b,off,cap,rfl,hc j hj⟩
theorem Ens.keep {s:List (LI × Int)} (h:Ens w v s) {S:Nat->Prop} (ho:Only S w w') (hs:∀b,v.ownBlock=some b->¬S b):Ens w' v s:=by
 obtain⟨ao,cap,rfl,hl,hr⟩:=h;refine⟨ao,cap,rfl,hl,λhne=>?_⟩;obtain⟨b,off,rfl,hc⟩:=hr hne;refine⟨b,off,rfl,λj hj=>?_⟩;have hb:¬S b:=hs b rfl;obtain⟨h0,h1⟩:=hc j hj;have hlt:b<w.heap.size:=World.block_lt_of_cell? w _ h0;have e:=ho.block b hlt hb;exact⟨by rw[<-h0];unfold World.cell?;rw[e],by rw[<-h1];unfold World.cell?;rw[e]⟩
theorem Ens.past {s:List (LI × Int)} (h:Ens w v s) (o:N0 w w'):Ens w' v s:=h.keep o (λ_ _ f=>f)
def Yy (s:List (LI × Int)):List Value:=s.flatMap λp=>[.string (strOfNums p.1),.int .i64 p.2]
theorem Kw (p:LI × Int) (s:List (LI × Int)):Yy (p :: s)=.string (strOfNums p.1) :: .int .i64 p.2 :: Yy s:=rfl
theorem qL (p:LI × Int) (s:List (LI × Int)):Yy (s++[p])=Yy s++[.string (strOfNums p.1),.int .i64 p.2]:=by
 unfold Yy;rw[List.flatMap_append];rfl
theorem OM (s:List (LI × Int)):(Yy s).length=s.length*2:=by
 induction s with
 | nil=>rfl
 | cons p s ih=>rw[Kw];simp only[Qi,ih];omega
theorem X9 (s:List (LI × Int)):∀(j:Nat),j<s.length->(Yy s)[j*2]? = some (.string (strOfNums (s.getD j ([],0)).1))∧(Yy s)[j*2+1]? = some (.int .i64 (s.getD j ([],0)).2):=by
 induction s with
 | nil=>intro j hj;simp at hj
 | cons p s ih =>
  intro j hj
  cases j with
  | zero=>rw[Kw];exact⟨rfl,rfl⟩
  | succ j =>
   have hj':j<s.length:=by simpa using hj
   obtain⟨h0,h1⟩:=ih j hj';rw[Kw,show (j+1)*2=j*2+1+1 by omega];simp only[List.getElem?_cons_succ,List.getD_cons_succ];exact⟨h0,h1⟩
theorem Ens.of_own {lo:Nat} {s:List (LI × Int)} (h:w.ownsRow lo E 2 v s.length (Yy s)):Ens w v s:=by
 rcases h.2 with ⟨rfl,hn⟩ | ⟨g,cap,cur,rfl,_,hg,hnc,_,hcs,htk⟩
 ·have:s=[]:=List.eq_nil_of_length_eq_zero hn
  subst this;exact Ens.nil w
 ·refine⟨_,cap,rfl,hnc,λ_=>⟨g,0,rfl,λj hj=>?_⟩⟩
  have hc:∀i,i<s.length*2->w.cell? ⟨g,0+i,none⟩=(Yy s)[i]?:=λi hi=>by
   rw[<-htk,List.getElem?_take_of_lt hi];simp[World.cell?,hg]
  obtain⟨h0,h1⟩:=X9 s j hj;exact⟨by rw[hc _ (by omega)];exact h0,by rw[Nat.add_assoc,hc _ (by omega)];exact h1⟩
def VM (s:List (LI × Int)):Prop:=∀e∈s,U8 e.1
structure Mf (w:World) (x:Value) (m:MAN) (vp ve vr:Value):Prop where
 form:x=.agg #[.int .u64 m.ver,vp,ve,vr]
 prev:Bs .u8 w vp m.prev
 es:Ens w ve m.es
 root:Bs .u8 w vr m.root
theorem Mf.past {x:Value} {m:MAN} {vp ve vr:Value} (h:Mf w x m vp ve vr) (o:N0 w w'):Mf w' x m vp ve vr:=⟨h.form,h.prev.past o,h.es.past o,h.root.past o⟩
structure Mok (m:MAN):Prop where
 ver:m.ver<18446744073709551616
 prev:U8 m.prev
 root:U8 m.root
 es:VM m.es
end
def Sts (w:World) (v:Value) (T:List (LI)):Prop :=
 ∃ao cap,v=.slice ao T.length cap∧T.length<=cap∧(T≠[]->∃b off,ao=some ⟨b,off,none⟩∧∀j,j<T.length->w.cell? ⟨b,off+j,none⟩=some (.string (strOfNums (T.getD j []))))
theorem Sts.len {T:List (LI)} (h:Sts w v T):∃ao cap,v=.slice ao T.length cap:=by
 obtain⟨ao,cap,rfl,_⟩:=h;exact⟨ao,cap,rfl⟩
theorem Sts.nil (w:World):Sts w (.slice none 0 0) []:=⟨none,0,rfl,Nat.le_refl _,λh=>absurd rfl h⟩
theorem Sts.at {T:List (LI)} (h:Sts w v T) (j:Nat) (hj:j<T.length) :
 ∃b off cap,v=.slice (some ⟨b,off,none⟩) T.length cap∧w.cell? ⟨b,off+j,none⟩=some (.string (strOfNums (T.getD j []))):=by
 obtain⟨ao,cap,rfl,_,hr⟩:=h;obtain⟨b,off,rfl,hc⟩:=hr (by intro h0;subst h0;simp at hj);exact⟨b,off,cap,rfl,hc j hj⟩
theorem Sts.keep {T:List (LI)} (h:Sts w v T) {S:Nat->Prop} (ho:Only S w w') (hs:∀b,v.ownBlock=some b->¬S b):Sts w' v T:=by
 obtain⟨ao,cap,rfl,hl,hr⟩:=h;refine⟨ao,cap,rfl,hl,λhne=>?_⟩;obtain⟨b,off,rfl,hc⟩:=hr hne;refine⟨b,off,rfl,λj hj=>?_⟩;have hb:¬S b:=hs b rfl;have h0:=hc j hj;have hlt:b<w.heap.size:=World.block_lt_of_cell? w _ h0;have e:=ho.block b hlt hb;rw[<-h0];unfold World.cell?;rw[e]
theorem Sts.past {T:List (LI)} (h:Sts w v T) (o:N0 w w'):Sts w' v T:=h.keep o (λ_ _ f=>f)
abbrev UL (T:List (LI)):List Value:=T.map λx=>Value.string (strOfNums x)
theorem Sts.of_own {lo:Nat} {T:List (LI)} (h:w.ownsRow lo E 1 v T.length (UL T)):Sts w v T:=by
 rcases h.2 with ⟨rfl,hn⟩ | ⟨g,cap,cur,rfl,_,hg,hnc,_,hcs,htk⟩
 ·have:T=[]:=List.eq_nil_of_length_eq_zero hn
  subst this;exact Sts.nil w
 ·refine⟨_,cap,rfl,hnc,λ_=>⟨g,0,rfl,λj hj=>?_⟩⟩
  have hc:w.cell? ⟨g,0+j,none⟩=(UL T)[j]?:=by
   rw[<-htk,List.getElem?_take_of_lt (by omega)];simp[World.cell?,hg]
  rw[hc];simp[UL,List.getD_eq_getElem?_getD,List.getElem?_eq_getElem hj]
theorem Az {lo:Nat} {size:Nat} {xs:List Value} (h:w.ownsRow lo E size v n xs) {b:Nat} (hb:b<lo):some b≠v.ownBlock:=by
 intro e;have:=(h.lt b e.symm).1;omega
theorem Jf:∀(x y:List UInt8),Op.bytesLess x y=lexB (x.map λc=>(c.toNat:Int)) (y.map λc=>(c.toNat:Int))
 | _,[]=>by cases ‹List UInt8› <;> rfl
 | [],_ :: _=>rfl
 | a :: x,b :: y=>by
  have h1:decide (a<b)=decide ((a.toNat:Int)<(b.toNat:Int)):=by
   rw[decide_eq_decide,UInt8.lt_iff_toNat_lt];omega
  have h2:(a == b)=decide ((a.toNat:Int)=(b.toNat:Int)):=by
   rw[Bool.eq_iff_iff,beq_iff_eq,decide_eq_true_eq]
   constructor
   ·rintro rfl;rfl
   ·intro h;exact UInt8.toNat_inj.1 (by omega)
  simp only[Op.bytesLess,List.map_cons,lexB,<-Jf x y,h1,h2]
theorem uN (s t:ByteArray):Op.bytesLess s.toList t.toList=lexB (sb s) (sb t):=by
 rw[Jf,ByteArray.toList_eq,ByteArray.toList_eq];rfl
theorem eq_sb (s t:ByteArray):(s.toList == t.toList)=decide (sb s=sb t):=by
 rw[Bool.eq_iff_iff,beq_iff_eq,decide_eq_true_eq]
 constructor
 ·intro h
  unfold sb;rw[<-ByteArray.toList_eq,<-ByteArray.toList_eq,h]
 ·intro h
  rw[On h]
theorem Be {l:List (List UInt8)} (h:l.Pairwise λx y=>Op.bytesLess y x=false) (hn:l.Nodup):RIS (l.map λs=>s.map λc=>(c.toNat:Int)):=by
 unfold RIS;rw[List.pairwise_map];refine (h.and hn).imp (λ{a b} k=>?_)
 rcases X6 (a.map λc=>(c.toNat:Int)) (b.map λc=>(c.toNat:Int)) with e | e | e
 ·refine absurd ?_ k.2
  have hi:∀(x y:List UInt8),(x.map λc=>(c.toNat:Int))=(y.map λc=>(c.toNat:Int))->x=y:=by
   intro x
   induction x with
   | nil=>intro y hy;cases y with
    | nil=>rfl
    | cons b y=>simp at hy
   | cons a x ih=>intro y hy;cases y with
    | nil=>simp at hy
    | cons b y =>
     simp only[List.map_cons,List.cons.injEq] at hy;rw[ih y hy.2,UInt8.toNat_inj.1 (show a.toNat=b.toNat by omega)]
  exact hi a b e
 ·exact e
 ·rw[<-Jf,k.1] at e;cases e
def Qt (k:Nat):Nat:=64*4^k
def QV (n:Nat):Nat:=if n<=60 then 0 else if n<=252 then 1 else if n<=1020 then 2 else if n<=4092 then 3 else if n<=16380 then 4 else if n<=65532 then 5 else if n<=262140 then 6 else if n<=1048572 then 7 else 8
theorem Rt (n:Nat):QV n<=8:=by unfold QV;(repeat' split) <;> omega
def Uc (n:Nat):Nat:=Qt (QV n)
theorem Gd (n:Nat):Uc n=if n<=60 then 64 else if n<=252 then 256 else if n<=1020 then 1024 else if n<=4092 then 4096 else if n<=16380 then 16384 else if n<=65532 then 65536 else if n<=262140 then 262144 else if n<=1048572 then 1048576 else 4194304:=by
 unfold Uc QV;repeat' split
 all_goals rfl
theorem J3 (n:Nat) (h:n<=4194300):n+4<=Uc n:=by rw[Gd];(repeat' split) <;> omega
theorem JU (n:Nat):Uc n<=4194304:=by rw[Gd];(repeat' split) <;> omega
theorem kP (n:Nat):64<=Uc n:=by rw[Gd];(repeat' split) <;> omega
theorem NT (n:Nat):(n<=60∧QV n=0)∨(60<n∧n<=252∧QV n=1)∨(252<n∧n<=1020∧QV n=2)∨(1020<n∧n<=4092∧QV n=3)∨(4092<n∧n<=16380∧QV n=4)∨(16380<n∧n<=65532∧QV n=5)∨(65532<n∧n<=262140∧QV n=6)∨(262140<n∧n<=1048572∧QV n=7)∨(1048572<n∧QV n=8):=by
 unfold QV;(repeat' split) <;> omega
def PADL (b:LI):LI:=fixL (b.length:Int) 4++b++List.replicate (Uc b.length - 4 - b.length) 0
theorem Gb (b:LI) (h:b.length<=4194300):(PADL b).length=Uc b.length:=by
 have:=J3 b.length h;simp only[PADL,Qc,QD,List.length_replicate];omega
theorem Ni {b:LI} (h:U8 b):U8 (PADL b):=by
 unfold PADL;refine U8.app (U8.app (Ur _ _) h) ?_;intro y hy;have:=List.eq_of_mem_replicate hy;omega
def KV (b:LI):LI:=if b.length<=4194300 then PADL b else []
def Uo (b:LI):Int:=if b.length<=4194300 then 0 else 4
end Go.Proofs.YtoflhbghdlaeaaaGreatDoor
