import Derived.Test.YtiochaeeoelmjaaGreatDoorG4
import Derived.WalkLawsBesides
import Derived.Deep.SlicePairs
import Derived.Lib.SmallJoins
import Derived.Test.YtiochaeeoelmjaaGreatDoorG6
namespace Go.Proofs.YtiochaeeoelmjaaGreatDoor
set_option maxHeartbeats 1000000
set_option maxRecDepth 100000
open Go.RowKit _root_.Go.Proofs.Tryz
variable {w w' W:World} {v:Value} {ys xs l:LI} {R n p k g B:Nat} {P:Program} {ls:List (LI)} {E:TypeId}
theorem Ue (hr:∀y∈ys,0<=y∧y<=255):(∃c,Qd ys=(0,0,c)∧(c=2∨c=3))∨(∃a k:Nat,Qd ys=((a:Int),k,0)∧1<=k∧k<=ys.length∧a<18446744073709551616∧ys=gs a++ys.drop k):=by
 rcases XH ys hr with ⟨c,h,hc⟩ | ⟨a,k,h,h1,h2,_,h4,h5⟩
 ·exact .inl ⟨c,by rw[Qd,h];rfl,hc⟩
 ·exact .inr ⟨a,k,by rw[Qd,h];rfl,h1,h2,h4,by rw[h5,List.take_append_drop]⟩
theorem Mn (v k:Nat) (h:v<18446744073709551616) (hk:k<(gs v).length):Qd ((gs v).take k)=(0,0,2):=by
 have:=Iz v 0 k 0 (by omega) (by simpa using h) hk;rw[Qd,this]
 rfl
theorem Xk (b t:LI) (n:Int) (hb:b.length<=1000000) (hn:(b.length:Int)<=n):Qp n (blk b++t)=(b,(blk b).length,0):=by
 unfold Qp blk;rw[List.append_assoc,Ua _ _ (by omega),if_neg (by omega),if_neg (by simp),if_neg (by simp;omega),if_neg (by simp[List.length_append];omega)];simp
theorem Fy (b:LI) (k:Nat) (n:Int) (hb:b.length<=1000000) (hn:(b.length:Int)<=n) (hk:k<(blk b).length):Qp n ((blk b).take k)=([],0,2):=by
 have hl:(blk b).length=(gs b.length).length+b.length:=by rw[blk,Qb]
 by_cases h:k<(gs b.length).length
 ·have e:(blk b).take k=(gs b.length).take k:=by rw[blk,List.take_append_of_le_length (by omega)]
  rw[e,Qp,if_neg (by omega),Mn _ _ (by omega) h,if_pos (by simp)]
 ·have e:(blk b).take k=gs b.length++b.take (k - (gs b.length).length):=by
   rw[blk,List.take_append,List.take_of_length_le (by omega)]
  rw[e,Qp,if_neg (by omega),Ua _ _ (by omega),if_neg (by simp),if_neg (by simp;omega),if_pos (by simp only[Qb,Qg];omega)]
theorem Zi {n:Int} (hr:∀y∈ys,0<=y∧y<=255) (hn:0<=n) (hn1:n<=1000000) :
 (∃c,Qp n ys=([],0,c)∧(c=2∨c=3∨c=4))∨(∃b k,Qp n ys=(b,k,0)∧(b.length:Int)<=n∧k<=ys.length∧1<=k∧ys=blk b++ys.drop k∧k=(blk b).length):=by
 unfold Qp;rw[if_neg (by omega)]
 rcases Ue hr with ⟨c,h,hc⟩ | ⟨a,k,h,h1,h2,h3,h4⟩
 ·rw[h,if_pos (by rcases hc with rfl | rfl <;> simp)]
  exact .inl ⟨c,rfl,by omega⟩
 ·rw[h,if_neg (by simp)]
  simp only
  by_cases c1:n<(a:Int)
  ·rw[if_pos c1];exact .inl ⟨4,rfl,by omega⟩
  ·rw[if_neg c1]
   by_cases c2:(ys.length:Int) - k<a
   ·rw[if_pos c2];exact .inl ⟨2,rfl,by omega⟩
   ·rw[if_neg c2,Int.toNat_natCast]
    have hkg:k=(gs a).length:=by
     have:=congrArg List.length h4;rw[Qb,Qm] at this;omega
    have h0:((ys.drop k).take a).length=a:=by rw[Qg,Qm];omega
    refine .inr ⟨(ys.drop k).take a,k+a,rfl,by rw[h0];omega,by omega,by omega,?_,?_⟩
    ·unfold blk
     rw[h0,List.append_assoc,<-List.drop_drop,List.take_append_drop];exact h4
    ·unfold blk
     rw[Qb,h0,hkg]
theorem vS (v:Int) (i:Nat):fixB v (i+1)=fixB (v / 256) i:=by
 unfold fixB;rw[show 8*(i+1)=8+8*i by omega,Int.pow_add,show (2:Int)^8=256 from rfl,Int.ediv_ediv_of_nonneg (by omega)]
theorem Sq (v:Int) (n:Nat):fixL v (n+1)=fixL (v / 256) n++[fixB v 0]:=by
 unfold fixL;rw[List.range_succ,List.map_append,List.map_singleton]
 congr 1
 ·apply List.map_congr_left
  intro j hj;rw[List.mem_range] at hj;rw[<-vS]
  congr 1
  omega
 ·simp
theorem Mk (n:Nat):∀v:Int,0<=v->(num (fixL v n):Int)=v % ((256^n:Nat):Int):=by
 induction n with
 | zero=>intro v _;simp[fixL,num]
 | succ n ih =>
  intro v hv;have h0:=Ji v 0;rw[Sq,Xt,Int.natCast_add,Int.natCast_mul,ih (v / 256) (by omega),Int.toNat_of_nonneg h0.1];obtain⟨m,rfl⟩:=Int.eq_ofNat_of_zero_le hv
  have e1:fixB (m:Int) 0=((m % 256:Nat):Int):=by simp[fixB]
  have e2:((m:Int) / 256)=((m / 256:Nat):Int):=by omega
  rw[e1,e2,Nat.pow_succ,Nat.mul_comm (256^n) 256,<-Int.natCast_emod,<-Int.natCast_emod,Nat.mod_mul];omega
theorem VE (v:Nat) (h:v<18446744073709551616):num (fixL v 8)=v:=by
 have:=Mk 8 v (by omega)
 have e:((256^8:Nat):Int)=18446744073709551616:=by decide
 rw[e] at this;omega
theorem wW (v:Nat) (h:v<4294967296):num (fixL v 4)=v:=by
 have:=Mk 4 v (by omega)
 have e:((256^4:Nat):Int)=4294967296:=by decide
 rw[e] at this;omega
abbrev Qz (α:Type):=LI->Except Int (α × LI)
structure PC {α:Type} (rd:Qz α) (wr:α->LI) (good:α->Prop):Prop where
 back:∀x t,good x->rd (wr x++t)=.ok (x,t)
 only:∀ys x t,U8 ys->rd ys=.ok (x,t)->good x∧ys=wr x++t
 cut:∀x k,good x->k<(wr x).length->rd ((wr x).take k)=.error 2
def YL {α β:Type} (r1:Qz α) (r2:α->Qz β):Qz (α × β):=λys=>match r1 ys with
 | .error e=>.error e
 | .ok (x,t)=>match r2 x t with
  | .error e=>.error e
  | .ok (y,t')=>.ok ((x,y),t')
theorem PC.then' {α β:Type} {r1:Qz α} {w1:α->LI} {g1:α->Prop} {r2:α->Qz β} {w2:α->β->LI} {g2:α->β->Prop} (h1:PC r1 w1 g1) (h2:∀x,g1 x->PC (r2 x) (w2 x) (g2 x)) :
 PC (YL r1 r2) (λp=>w1 p.1++w2 p.1 p.2) (λp=>g1 p.1∧g2 p.1 p.2):=by
 refine⟨?_,?_,?_⟩
 ·rintro⟨x,y⟩ t ⟨hx,hy⟩
  simp only[YL];rw[List.append_assoc,h1.back x _ hx];simp only;rw[(h2 x hx).back y t hy]
 ·rintro ys ⟨x,y⟩ t h8 h
  simp only[YL] at h
  cases e1:r1 ys with
  | error e=>rw[e1] at h;cases h
  | ok p =>
   obtain⟨x',t1⟩:=p;rw[e1] at h;simp only at h
   cases e2:r2 x' t1 with
   | error e=>rw[e2] at h;cases h
   | ok p =>
    obtain⟨y',t2⟩:=p;rw[e2] at h;simp only[Except.ok.injEq,Prod.mk.injEq] at h;obtain⟨⟨rfl,rfl⟩,rfl⟩:=h;obtain⟨gx,hx⟩:=h1.only ys _ _ h8 e1
    have h8':U8 t1:=λz hz=>h8 z (by rw[hx];exact List.mem_append_right _ hz)
    obtain⟨gy,hy⟩:=(h2 _ gx).only t1 _ _ h8' e2;exact⟨⟨gx,gy⟩,by simp only;rw[List.append_assoc,<-hy];exact hx⟩
 ·rintro⟨x,y⟩ k ⟨hx,hy⟩ hk
  simp only at hk ⊢;simp only[YL]
  by_cases hlt:k<(w1 x).length
  ·rw[List.take_append_of_le_length (by omega),h1.cut x k hx hlt]
  ·rw[List.take_append,List.take_of_length_le (by omega),h1.back x _ hx]
   simp only;rw[(h2 x hx).cut y _ hy (by rw[Qb] at hk;omega)]
def YU {α:Type} (r:Qz α) (c:α->Bool) (e:Int):Qz α:=λys=>match r ys with
 | .error e=>.error e
 | .ok (x,t)=>if c x then .ok (x,t) else .error e
theorem PC.need {α:Type} {r:Qz α} {w:α->LI} {g:α->Prop} (h:PC r w g) (c:α->Bool) (e:Int):PC (YU r c e) w (λx=>g x∧c x=true):=by
 refine⟨?_,?_,?_⟩
 ·rintro x t ⟨hx,hc⟩
  simp only[YU];rw[h.back x t hx];simp only[hc,if_true]
 ·rintro ys x t h8 k
  simp only[YU] at k
  cases e1:r ys with
  | error e=>rw[e1] at k;cases k
  | ok p =>
   obtain⟨x',t1⟩:=p;rw[e1] at k;simp only at k
   by_cases hc:c x'=true
   ·rw[if_pos hc] at k
    simp only[Except.ok.injEq,Prod.mk.injEq] at k;obtain⟨rfl,rfl⟩:=k;obtain⟨gx,hx⟩:=h.only ys _ _ h8 e1;exact⟨⟨gx,hc⟩,hx⟩
   ·rw[if_neg hc] at k;cases k
 ·rintro x k ⟨hx,_⟩ hk
  simp only[YU];rw[h.cut x k hx hk]
def rdRep {σ α:Type} (r:σ->Qz α) (nx:σ->α->σ):Nat->σ->Qz (List α)
 | 0,_=>λys=>.ok ([],ys)
 | n+1,s=>λys=>match r s ys with
  | .error e=>.error e
  | .ok (x,t)=>match rdRep r nx n (nx s x) t with
   | .error e=>.error e
   | .ok (l,t')=>.ok (x :: l,t')
def Y9 {σ α:Type} (g:σ->α->Prop) (nx:σ->α->σ):Nat->σ->List α->Prop
 | 0,_,l=>l=[]
 | _+1,_,[]=>False
 | n+1,s,x :: l=>g s x∧Y9 g nx n (nx s x) l
theorem PC.rep {σ α:Type} {r:σ->Qz α} {w:α->LI} {g:σ->α->Prop} (nx:σ->α->σ) (h:∀s,PC (r s) w (g s)):∀(n:Nat) (s:σ),PC (rdRep r nx n s) (λl=>(l.map w).flatten) (Y9 g nx n s)
 | 0,s=>by
  refine⟨?_,?_,?_⟩
  ·rintro x t rfl;rfl
  ·rintro ys x t h8 k
   simp only[rdRep,Except.ok.injEq,Prod.mk.injEq] at k;obtain⟨rfl,rfl⟩:=k;exact⟨rfl,rfl⟩
  ·rintro x k rfl hk
   simp at hk
 | n+1,s=>by
  have ih:=λs=>PC.rep nx h n s
  refine⟨?_,?_,?_⟩
  ·rintro l t hl
   cases l with
   | nil=>exact hl.elim
   | cons x l =>
    simp only[rdRep,List.map_cons,List.flatten_cons];rw[List.append_assoc,(h s).back x _ hl.1];simp only;rw[(ih _).back l t hl.2]
  ·rintro ys l t h8 k
   simp only[rdRep] at k
   cases e1:r s ys with
   | error e=>rw[e1] at k;cases k
   | ok p =>
    obtain⟨x,t1⟩:=p;rw[e1] at k;simp only at k
    cases e2:rdRep r nx n (nx s x) t1 with
    | error e=>rw[e2] at k;cases k
    | ok p =>
     obtain⟨l',t2⟩:=p;rw[e2] at k;simp only[Except.ok.injEq,Prod.mk.injEq] at k;obtain⟨rfl,rfl⟩:=k;obtain⟨gx,hx⟩:=(h s).only ys _ _ h8 e1
     have h8':U8 t1:=λz hz=>h8 z (by rw[hx];exact List.mem_append_right _ hz)
     obtain⟨gl,hl⟩:=(ih _).only t1 _ _ h8' e2;refine⟨⟨gx,gl⟩,?_⟩;simp only[List.map_cons,List.flatten_cons];rw[List.append_assoc,<-hl];exact hx
  ·rintro l k hl hk
   cases l with
   | nil=>exact hl.elim
   | cons x l =>
    simp only[List.map_cons,List.flatten_cons] at hk ⊢;simp only[rdRep]
    by_cases hlt:k<(w x).length
    ·rw[List.take_append_of_le_length (by omega),(h s).cut x k hl.1 hlt]
    ·rw[List.take_append,List.take_of_length_le (by omega),(h s).back x _ hl.1]
     simp only;rw[(ih _).cut l _ hl.2 (by rw[Qb] at hk;omega)]
def rdB (n:Nat):Qz (LI):=λys=>if ys.length<n then .error 2 else .ok (ys.take n,ys.drop n)
theorem PC.bytes (n:Nat):PC (rdB n) (λx=>x) (λx=>x.length=n∧U8 x):=by
 refine⟨?_,?_,?_⟩
 ·rintro x t ⟨rfl,_⟩
  simp only[rdB];rw[if_neg (by rw[Qb];omega),List.take_left,List.drop_left]
 ·rintro ys x t h8 k
  simp only[rdB] at k
  by_cases h:ys.length<n
  ·rw[if_pos h] at k;cases k
  ·rw[if_neg h] at k
   simp only[Except.ok.injEq,Prod.mk.injEq] at k;obtain⟨rfl,rfl⟩:=k;exact⟨⟨by rw[Qg];omega,h8.take _⟩,(List.take_append_drop _ _).symm⟩
 ·rintro x k ⟨rfl,_⟩ hk
  simp only[rdB];rw[if_pos (by rw[Qg];omega)]
def rdV:Qz Nat:=λys=>if (Qd ys).2.2=0 then .ok ((Qd ys).1.toNat,ys.drop (Qd ys).2.1) else .error (Qd ys).2.2
theorem PC.varint:PC rdV gs (λv=>v<18446744073709551616):=by
 refine⟨?_,?_,?_⟩
 ·intro v t hv
  simp only[rdV];rw[Ua v t hv];simp
 ·intro ys x t h8 k
  simp only[rdV] at k
  rcases Ue h8 with ⟨c,h,hc⟩ | ⟨a,j,h,h1,h2,h3,h4⟩
  ·rw[h] at k
   rw[if_neg (by simp only;omega)] at k;cases k
  ·rw[h] at k
   simp only[if_true,Int.toNat_natCast,Except.ok.injEq,Prod.mk.injEq] at k;obtain⟨rfl,rfl⟩:=k;exact⟨h3,h4⟩
 ·intro v k hv hk
  simp only[rdV];rw[Mn v k hv hk]
  rfl
def rdK (n:Nat):Qz (LI):=λys=>if (Qp n ys).2.2=0 then .ok ((Qp n ys).1,ys.drop (Qp n ys).2.1) else .error (Qp n ys).2.2
theorem PC.block (n:Nat) (hn:n<=1000000):PC (rdK n) blk (λx=>x.length<=n∧U8 x):=by
 refine⟨?_,?_,?_⟩
 ·rintro x t ⟨hx,_⟩
  simp only[rdK];rw[Xk x t n (by omega) (by omega)];simp
 ·intro ys x t h8 k
  simp only[rdK] at k
  rcases Zi (n:=(n:Int)) h8 (by omega) (by omega) with ⟨c,h,hc⟩ | ⟨b,j,h,h1,h2,_,h4,_⟩
  ·rw[h] at k
   rw[if_neg (by simp only;omega)] at k;cases k
  ·rw[h] at k
   simp only[if_true,Except.ok.injEq,Prod.mk.injEq] at k;obtain⟨rfl,rfl⟩:=k;exact⟨⟨by omega,λy hy=>h8 y (by rw[h4];exact List.mem_append_left _ (List.mem_append_right _ hy))⟩,h4⟩
 ·rintro x k ⟨hx,_⟩ hk
  simp only[rdK];rw[Fy x k n (by omega) (by omega) hk]
  rfl
def rdAs {α β:Type} (r:Qz α) (f:α->β):Qz β:=λys=>match r ys with
 | .error e=>.error e
 | .ok (x,t)=>.ok (f x,t)
theorem PC.as {α β:Type} {r:Qz α} {w:α->LI} {g:α->Prop} (h:PC r w g) (f:α->β) (f':β->α) (w':β->LI) (g':β->Prop) (h1:∀x,g x->f' (f x)=x) (h2:∀y,g' y->g (f' y)∧f (f' y)=y∧w (f' y)=w' y) (h3:∀x,g x->g' (f x)) :
 PC (rdAs r f) w' g':=by
 refine⟨?_,?_,?_⟩
 ·intro y t hy
  obtain⟨k1,k2,k3⟩:=h2 y hy;simp only[rdAs];rw[<-k3,h.back _ t k1];simp only[k2]
 ·intro ys y t h8 k
  simp only[rdAs] at k
  cases e1:r ys with
  | error e=>rw[e1] at k;cases k
  | ok p =>
   obtain⟨x,t1⟩:=p;rw[e1] at k;simp only[Except.ok.injEq,Prod.mk.injEq] at k;obtain⟨rfl,rfl⟩:=k;obtain⟨gx,hx⟩:=h.only ys _ _ h8 e1;refine⟨h3 x gx,?_⟩;have:=(h2 (f x) (h3 x gx)).2.2;rw[h1 x gx] at this;rw[<-this];exact hx
 ·intro y k hy hk
  obtain⟨k1,k2,k3⟩:=h2 y hy;rw[<-k3] at hk ⊢;simp only[rdAs];rw[h.cut _ k k1 hk]
def lexB:LI->LI->Bool
 | _,[]=>false
 | [],_ :: _=>true
 | a :: x,b :: y=>decide (a<b) || (decide (a=b) && lexB x y)
theorem SI (x:LI):lexB x x=false:=by
 induction x with
 | nil=>rfl
 | cons a x ih=>simp[lexB,ih]
theorem Xg:∀{x y z:LI},lexB x y=true->lexB y z=true->lexB x z=true
 | _,[],_,h,_=>by cases ‹LI› <;> simp[lexB] at h
 | _,_ :: _,[],_,h=>by simp[lexB] at h
 | [],_ :: _,_ :: _,_,_=>rfl
 | a :: x,b :: y,c :: z,h1,h2=>by
  simp only[lexB,Bool.or_eq_true,Bool.and_eq_true,decide_eq_true_eq] at h1 h2 ⊢
  rcases h1 with h1 | ⟨h1,k1⟩ <;> rcases h2 with h2 | ⟨h2,k2⟩
  ·exact .inl (by omega)
  ·exact .inl (by omega)
  ·exact .inl (by omega)
  ·exact .inr ⟨by omega,Xg k1 k2⟩
theorem Hd:∀(x y:LI),x=y∨lexB x y=true∨lexB y x=true
 | [],[]=>.inl rfl
 | [],_ :: _=>.inr (.inl rfl)
 | _ :: _,[]=>.inr (.inr rfl)
 | a :: x,b :: y=>by
  simp only[lexB,Bool.or_eq_true,Bool.and_eq_true,decide_eq_true_eq,List.cons.injEq]
  rcases (show a<b∨a=b∨b<a by omega) with h | h | h
  ·exact .inr (.inl (.inl h))
  ·rcases Hd x y with k | k | k
   ·exact .inl ⟨h,k⟩
   ·exact .inr (.inl (.inr ⟨h,k⟩))
   ·exact .inr (.inr (.inr ⟨h.symm,k⟩))
  ·exact .inr (.inr (.inl h))
theorem Z8 {x y:LI} (h:lexB x y=true):x≠y:=λe=>by rw[e,SI] at h;cases h
theorem j7 {x y:LI} (h:lexB x y=true):lexB y x=false:=by
 cases k:lexB y x with
 | false=>rfl
 | true=>have:=Xg h k;rw[SI] at this;exact this.symm
def RIS (l:List (LI)):Prop:=l.Pairwise λx y=>lexB x y=true
theorem RIS.nodup {l:List (LI)} (h:RIS l):l.Nodup:=List.Pairwise.imp (λk=>Z8 k) h
theorem RIS.same:∀{a b:List (LI)},RIS a->RIS b->(∀x,x∈a↔x∈b)->a=b
 | [],[],_,_,_=>rfl
 | [],y :: b,_,_,h=>by have:=(h y).2 (by simp);simp at this
 | x :: a,[],_,_,h=>by have:=(h x).1 (by simp);simp at this
 | x :: a,y :: b,ha,hb,h=>by
  have h3:=List.pairwise_cons.1 ha;have h0:=List.pairwise_cons.1 hb
  have exy:x=y:=by
   have h1:=(h x).1 (by simp);have h2:=(h y).2 (by simp);rw[List.mem_cons] at h1 h2
   rcases h1 with h1 | h1
   ·exact h1
   ·rcases h2 with h2 | h2
    ·exact h2.symm
    ·have k1:=h0.1 x h1
     have k2:=h3.1 y h2;rw[j7 k1] at k2;cases k2
  subst exy
  congr 1
  refine RIS.same h3.2 h0.2 (λz=>⟨λhz=>?_,λhz=>?_⟩)
  ·rcases List.mem_cons.1 ((h z).1 (List.mem_cons_of_mem _ hz)) with e | e
   ·exact absurd e.symm (Z8 (h3.1 z hz))
   ·exact e
  ·rcases List.mem_cons.1 ((h z).2 (List.mem_cons_of_mem _ hz)) with e | e
   ·exact absurd e.symm (Z8 (h0.1 z hz))
   ·exact e
def insT (x:LI):List (LI)->List (LI)
 | []=>[x]
 | y :: l=>if lexB y x then y :: insT x l else if y=x then y :: l else x :: y :: l
theorem Tf (x z:LI):∀l,z∈insT x l↔z=x∨z∈l
 | []=>by simp[insT]
 | y :: l=>by
  have ih:=Tf x z l;unfold insT
  by_cases h:lexB y x=true
  ·rw[if_pos h,List.mem_cons,ih,List.mem_cons]
   exact⟨λk=>by rcases k with k | k | k <;> simp[k],λk=>by rcases k with k | k | k <;> simp[k]⟩
  ·rw[if_neg h]
   by_cases e:y=x
   ·rw[if_pos e];subst e
    simp
   ·rw[if_neg e];simp
theorem NG (x:LI):∀l,RIS l->RIS (insT x l)
 | [],_=>List.pairwise_singleton _ _
 | y :: l,hr=>by
  have h':=List.pairwise_cons.1 hr;unfold insT
  by_cases h:lexB y x=true
  ·rw[if_pos h]
   refine List.pairwise_cons.2 ⟨λz hz=>?_,NG x l h'.2⟩
   rcases (Tf x z l).1 hz with rfl | k
   ·exact h
   ·exact h'.1 z k
  ·rw[if_neg h]
   by_cases e:y=x
   ·rw[if_pos e];exact hr
   ·rw[if_neg e]
    refine List.pairwise_cons.2 ⟨λz hz=>?_,hr⟩
    have h0:lexB x y=true:=by
     rcases Hd x y with k | k | k
     ·exact absurd k.symm e
     ·exact k
     ·exact absurd k h
    rcases List.mem_cons.1 hz with rfl | k
    ·exact h0
    ·exact Xg h0 (h'.1 z k)
def Yy:List (LI)->List (LI)
 | []=>[]
 | x :: l=>insT x (Yy l)
theorem UQ (z:LI):∀l,z∈Yy l↔z∈l
 | []=>by simp[Yy]
 | x :: l=>by rw[Yy,Tf,UQ z l,List.mem_cons]
theorem Vt:∀l,RIS (Yy l)
 | []=>List.Pairwise.nil
 | x :: l=>NG x _ (Vt l)
theorem Gy {l t:List (LI)} (hr:RIS t) (h:∀x,x∈t↔x∈l):t=Yy l:=RIS.same hr (Vt l) (λx=>(h x).trans (UQ x l).symm)
theorem Sl (l:List (LI)):(Yy l).length<=l.length:=by
 have h:∀(x:LI) t,(insT x t).length<=t.length+1:=by
  intro x t
  induction t with
  | nil=>simp[insT]
  | cons y t ih =>
   unfold insT
   split
   ·simp only[Qk];omega
   ·split <;> simp
 induction l with
 | nil=>simp[Yy]
 | cons x l ih=>rw[Yy,Qk];have:=h x (Yy l);omega
def Y8 (l:List (LI)) (x:LI):Nat:=l.idxOf x
theorem WU {l:List (LI)} {x:LI} (h:x∈l):Y8 l x<l.length:=List.idxOf_lt_length_of_mem h
theorem Z5 {l:List (LI)} {x:LI} (h:x∈l):l.getD (Y8 l x) []=x:=by
 rw[Qc,Qh (WU h)];exact List.getElem_idxOf (WU h)
theorem ZO {l:List (LI)} (hr:RIS l) {i:Nat} (hi:i<l.length):Y8 l (l.getD i [])=i:=by
 rw[Qc,Qh hi];exact List.Nodup.idxOf_getElem hr.nodup i hi
def Y3 (l:List (LI)) (x:LI):Bool:=match l.getLast? with
 | none=>true
 | some y=>lexB y x
theorem RIS.snoc {l:List (LI)} {x:LI} (h:RIS l) (hb:Y3 l x=true):RIS (l++[x]):=by
 refine List.pairwise_append.2 ⟨h,List.pairwise_singleton _ _,λa ha b hb'=>?_⟩;rw[List.mem_singleton] at hb';subst hb'
 have h0:l≠[]:=λe=>by subst e;simp at ha
 obtain⟨t,y,rfl⟩:∃t y,l=t++[y]:=⟨l.dropLast,l.getLast h0,(List.dropLast_concat_getLast h0).symm⟩;simp[Y3] at hb
 rcases List.mem_append.1 ha with k | k
 ·exact Xg ((List.pairwise_append.1 h).2.2 a k y (by simp)) hb
 ·rw[List.mem_singleton] at k
  subst k;exact hb
theorem RIS.last {l:List (LI)} {x:LI} (h:RIS (l++[x])):RIS l∧Y3 l x=true:=by
 have h':=List.pairwise_append.1 h;refine⟨h'.1,?_⟩
 by_cases hne:l=[]
 ·subst hne;rfl
 ·obtain⟨t,y,rfl⟩:∃t y,l=t++[y]:=⟨l.dropLast,l.getLast hne,(List.dropLast_concat_getLast hne).symm⟩
  simp[Y3];exact h'.2.2 y (by simp) x (by simp)
theorem j9:∀(x:LI),U8 x->fixL (num x:Int) x.length=x:=by
 intro x
 induction h:x.length generalizing x with
 | zero =>
  intro _;have:x=[]:=List.eq_nil_of_length_eq_zero h;subst this;rfl
 | succ n ih =>
  intro h8
  have h1:x≠[]:=by intro h0;subst h0;simp at h
  obtain⟨t,b,rfl⟩:∃t b,x=t++[b]:=⟨x.dropLast,x.getLast h1,(List.dropLast_concat_getLast h1).symm⟩
  have hl:t.length=n:=by simpa using h
  have hb:=h8 b (by simp);have e:=ih t hl (λy hy=>h8 y (by simp[hy]));rw[Xt,Sq,show (((256*num t+b.toNat:Nat):Int) / 256)=(num t:Int) by omega,e]
  congr 2
  unfold fixB;simp only[Nat.mul_zero,Int.pow_zero];omega
structure MAN where
 ver:Nat
 prev:LI
 es:List (LI × Int)
 root:LI
def Q6:LI:=[67,83,75,49]
def QC (m:MAN):List (LI):=Yy (m.es.map Prod.fst)
def Ut (m:MAN):Prop:=m.ver<18446744073709551615∧(m.prev.length=32∧U8 m.prev)∧(m.root.length=32∧U8 m.root)∧m.es.length<=1048576∧∀e∈m.es,(e.1.length<=64∧U8 e.1)∧0<=e.2∧e.2<=8
def Wp (l:List (LI)) (e:LI × Int):LI:=gs (Y8 l e.1)++[e.2]
def MENC (m:MAN):LI :=
 Q6++(fixL (m.ver:Int) 8++(m.prev++(gs (QC m).length++((QC m).map blk).flatten++(gs m.es.length++(m.es.map (Wp (QC m))).flatten++m.root))))
def rdHd:Qz (LI):=YU (rdB 4) (λx=>x == Q6) 3
def rdVer:Qz Nat:=rdAs (YU (rdB 8) (λx=>decide (num x≠18446744073709551615)) 3) num
def Kf:Qz Nat:=YU rdV (λn=>decide (n<=1048576)) 4
def rdTn (acc:List (LI)):Qz (LI):=YU (rdK 64) (λx=>Y3 acc x) 3
def rdTns (n:Nat) (acc:List (LI)):Qz (List (LI)):=rdRep rdTn (λacc x=>acc++[x]) n acc
def rdDir:Qz (Nat × List (LI)):=YL Kf (λn=>rdTns n [])
def rdEn (L:Nat):Qz (Nat × LI):=YL (YU rdV (λa=>decide (a<L)) 3) (λ_=>YU (rdB 1) (λx=>decide (x.getD 0 0<=8)) 3)
def rdEns (L n:Nat):Qz (List (Nat × LI)):=rdRep (λ_:Unit=>rdEn L) (λs _=>s) n ()
def rdAll (L:Nat):Qz (Nat × List (Nat × LI)):=YL Kf (λn=>rdEns L n)
def WB:Qz (LI × Nat × LI × (Nat × List (LI)) × (Nat × List (Nat × LI)) × LI) :=
 YL rdHd λ_=>YL rdVer λ_=>YL (rdB 32) λ_=>YL rdDir λd=>YL (rdAll d.2.length) λ_=>rdB 32
def UF (L:Nat) (ts:List (Nat × LI)):Bool:=(List.range L).all λi=>ts.any λt=>t.1 == i
def KL (v:Nat) (p:LI) (l:List (LI)) (ts:List (Nat × LI)) (r:LI):MAN:=⟨v,p,ts.map λt=>(l.getD t.1 [],t.2.getD 0 0),r⟩
def MDEC (b:LI):Except Int MAN:=match WB b with
 | .error e=>.error e
 | .ok ((_,v,p,d,a,r),rest)=>if rest=[] then (if UF d.2.length a.2=true then .ok (KL v p d.2 a.2 r) else .error 3) else .error 3
theorem PC_hd:PC rdHd (λx=>x) (λx=>(x.length=4∧U8 x)∧(x == Q6)=true):=(PC.bytes 4).need _ 3
theorem Qzo:PC rdVer (λv=>fixL (v:Int) 8) (λv=>v<18446744073709551615):=by
 refine ((PC.bytes 8).need (λx=>decide (num x≠18446744073709551615)) 3).as num (λv=>fixL (v:Int) 8) _ _ ?_ ?_ ?_
 ·rintro x ⟨⟨hl,h8⟩,_⟩
  have:=j9 x h8;rw[hl] at this;exact this
 ·intro v hv
  have e:=VE v (by omega);exact⟨⟨⟨Qv _ _,US _ _⟩,Qe (by rw[e];omega)⟩,e,rfl⟩
 ·rintro x ⟨⟨hl,h8⟩,hc⟩
  have h1:=Wx x h8;rw[hl] at h1;have h2:=of_decide_eq_true hc
  have h3:(256:Nat)^8=18446744073709551616:=by decide
  omega
theorem QpR:PC Kf gs (λn=>n<18446744073709551616∧decide (n<=1048576)=true):=PC.varint.need _ 4
theorem PC_tn (acc:List (LI)):PC (rdTn acc) blk (λx=>(x.length<=64∧U8 x)∧Y3 acc x=true):=(PC.block 64 (by decide)).need _ 3
theorem tV (n:Nat) (acc:List (LI)):PC (rdTns n acc) (λl=>(l.map blk).flatten) (Y9 (λacc x=>(x.length<=64∧U8 x)∧Y3 acc x=true) (λacc x=>acc++[x]) n acc):=PC.rep _ PC_tn n acc
theorem Zh:∀(l acc:List (LI)),RIS acc->(Y9 (λacc x=>(x.length<=64∧U8 x)∧Y3 acc x=true) (λacc x=>acc++[x]) l.length acc l↔RIS (acc++l)∧∀x∈l,x.length<=64∧U8 x)
 | [],acc,h=>by simp[Y9,h]
 | x :: l,acc,h=>by
  simp only[Qk,Y9]
  constructor
  ·rintro⟨⟨h1,h2⟩,h3⟩
   have k:=(Zh l (acc++[x]) (h.snoc h2)).1 h3;rw[List.append_assoc] at k;refine⟨k.1,λy hy=>?_⟩
   rcases List.mem_cons.1 hy with rfl | hy
   ·exact h1
   ·exact k.2 y hy
  ·rintro⟨h1,h2⟩
   have e:acc++x :: l=(acc++[x])++l:=by simp
   rw[e] at h1;have k1:=(List.pairwise_append.1 h1).1;have k2:=RIS.last k1;exact⟨⟨h2 x (by simp),k2.2⟩,(Zh l (acc++[x]) k1).2 ⟨h1,λy hy=>h2 y (by simp[hy])⟩⟩
theorem XN {σ α:Type} {g:σ->α->Prop} {nx:σ->α->σ}:∀{n:Nat} {s:σ} {l:List α},Y9 g nx n s l->l.length=n
 | 0,_,_,h=>by cases h;rfl
 | n+1,_,[],h=>h.elim
 | n+1,_,x :: l,h=>by rw[Qk,XN h.2]
theorem PC_en (L:Nat):PC (rdEn L) (λt=>gs t.1++t.2) (λt=>(t.1<18446744073709551616∧decide (t.1<L)=true)∧((t.2.length=1∧U8 t.2)∧decide (t.2.getD 0 0<=8)=true)) :=
 (PC.varint.need _ 3).then' (λ_ _=>(PC.bytes 1).need _ 3)
theorem Hr {g:Nat × LI->Prop}:∀(ts:List (Nat × LI)),Y9 (λ_:Unit=>g) (λs _=>s) ts.length () ts↔∀t∈ts,g t
 | []=>by simp[Y9]
 | t :: ts=>by simp only[Qk,Y9,Hr ts,List.forall_mem_cons]
abbrev Mw (L:Nat) (t:Nat × LI):Prop:=(t.1<18446744073709551616∧decide (t.1<L)=true)∧((t.2.length=1∧U8 t.2)∧decide (t.2.getD 0 0<=8)=true)
theorem yy (L:Nat):PC (rdAll L) (λa=>gs a.1++(a.2.map λt=>gs t.1++t.2).flatten) (λa=>(a.1<18446744073709551616∧decide (a.1<=1048576)=true)∧Y9 (λ_:Unit=>Mw L) (λs _=>s) a.1 () a.2) :=
 QpR.then' (λn _=>PC.rep _ (λ_=>PC_en L) n ())
theorem Qvd:PC rdDir (λd=>gs d.1++(d.2.map blk).flatten) (λd=>(d.1<18446744073709551616∧decide (d.1<=1048576)=true)∧Y9 (λacc x=>(x.length<=64∧U8 x)∧Y3 acc x=true) (λacc x=>acc++[x]) d.1 [] d.2) :=
 QpR.then' (λn _=>tV n [])
abbrev Ga:=LI × Nat × LI × (Nat × List (LI)) × (Nat × List (Nat × LI)) × LI
def XV (x:Ga):LI:=x.1++(fixL (x.2.1:Int) 8++(x.2.2.1++((gs x.2.2.2.1.1++(x.2.2.2.1.2.map blk).flatten)++((gs x.2.2.2.2.1.1++(x.2.2.2.2.1.2.map λt=>gs t.1++t.2).flatten)++x.2.2.2.2.2))))
def So (x:Ga):Prop:=((x.1.length=4∧U8 x.1)∧(x.1 == Q6)=true)∧x.2.1<18446744073709551615∧(x.2.2.1.length=32∧U8 x.2.2.1) ∧
 ((x.2.2.2.1.1<18446744073709551616∧decide (x.2.2.2.1.1<=1048576)=true)∧Y9 (λacc x=>(x.length<=64∧U8 x)∧Y3 acc x=true) (λacc x=>acc++[x]) x.2.2.2.1.1 [] x.2.2.2.1.2) ∧
 ((x.2.2.2.2.1.1<18446744073709551616∧decide (x.2.2.2.2.1.1<=1048576)=true)∧Y9 (λ_:Unit=>Mw x.2.2.2.1.2.length) (λs _=>s) x.2.2.2.2.1.1 () x.2.2.2.2.1.2)∧(x.2.2.2.2.2.length=32∧U8 x.2.2.2.2.2)
theorem Qve:PC WB XV So:=PC_hd.then' λ_ _=>Qzo.then' λ_ _=>(PC.bytes 32).then' λ_ _=>Qvd.then' λd _=>(yy d.2.length).then' λ_ _=>PC.bytes 32
def Yw (m:MAN):Ga:=(Q6,m.ver,m.prev,((QC m).length,QC m),(m.es.length,m.es.map λe=>(Y8 (QC m) e.1,[e.2])),m.root)
theorem ZC {m:MAN} {e:LI × Int} (h:e∈m.es):e.1∈QC m:=(UQ _ _).2 (List.mem_map.2 ⟨e,h,rfl⟩)
theorem Zy (m:MAN):(QC m).length<=m.es.length:=by
 have:=Sl (m.es.map Prod.fst);rw[List.length_map] at this;exact this
theorem CJ (m:MAN):XV (Yw m)=MENC m:=by
 unfold XV Yw MENC;simp only[List.map_map]
 rfl
theorem yo {m:MAN} (h:Ut m):So (Yw m):=by
 obtain⟨h1,h2,h3,h4,h5⟩:=h;have hl:=Zy m;refine⟨⟨⟨rfl,λy hy=>?_⟩,by simp[Yw]⟩,h1,h2,⟨⟨?_,?_⟩,?_⟩,⟨⟨?_,?_⟩,?_⟩,h3⟩
 ·simp[Yw,Q6] at hy;omega
 ·simp only[Yw];omega
 ·simp only[Yw];exact Qe (by omega)
 ·simp only[Yw]
  refine (Zh (QC m) [] List.Pairwise.nil).2 ⟨by rw[List.nil_append];exact Vt _,λx hx=>?_⟩;obtain⟨e,he,rfl⟩:=List.mem_map.1 ((UQ _ _).1 hx);exact (h5 e he).1
 ·simp only[Yw];omega
 ·simp only[Yw];exact Qe (by omega)
 ·have e1:(Yw m).2.2.2.2.1.1=(Yw m).2.2.2.2.1.2.length:=by simp[Yw]
  rw[e1];refine (Hr _).2 (λt ht=>?_);simp only[Yw] at ht ⊢;obtain⟨e,he,rfl⟩:=List.mem_map.1 ht;have hp:=WU (ZC he);obtain⟨_,k2,k3⟩:=h5 e he;refine⟨⟨by simp only;omega,Qe hp⟩,⟨rfl,λy hy=>?_⟩,Qe (by simpa using k3)⟩;rw[List.mem_singleton] at hy;omega
theorem zh (m:MAN):UF (QC m).length (Yw m).2.2.2.2.1.2=true:=by
 unfold UF;rw[List.all_eq_true];intro i hi;rw[List.mem_range] at hi
 have hx:(QC m).getD i []∈QC m:=by
  rw[Qc,Qh hi];exact List.getElem_mem hi
 obtain⟨e,he,e1⟩:=List.mem_map.1 ((UQ _ _).1 hx);rw[List.any_eq_true];refine⟨(Y8 (QC m) e.1,[e.2]),List.mem_map.2 ⟨e,he,rfl⟩,?_⟩;simp only[e1,beq_iff_eq];exact ZO (Vt _) hi
theorem gH (m:MAN):KL m.ver m.prev (QC m) (Yw m).2.2.2.2.1.2 m.root=m:=by
 unfold KL Yw
 cases m with
 | mk v p es r =>
  congr 1
  simp only[List.map_map];rw[List.map_congr_left (g:=λe=>e),List.map_id'];intro e he;simp only[Function.comp];rw[Z5 (ZC (m:=⟨v,p,es,r⟩) he)]
  rfl
theorem Lc {m:MAN} (h:Ut m):MDEC (MENC m)=.ok m:=by
 have k:=Qve.back (Yw m) [] (yo h);rw[CJ,List.append_nil] at k;unfold MDEC;rw[k]
 show (if ([]:LI)=[] then (if UF (QC m).length (Yw m).2.2.2.2.1.2=true then Except.ok (KL m.ver m.prev (QC m) (Yw m).2.2.2.2.1.2 m.root) else .error 3) else .error 3)=.ok m
 rw[if_pos rfl,if_pos (zh m),gH]
theorem Sh {b:LI} {m:MAN} (h8:U8 b) (h:MDEC b=.ok m):Ut m∧MENC m=b:=by
 unfold MDEC at h
 cases e1:WB b with
 | error e=>rw[e1] at h;cases h
 | ok x =>
  obtain⟨⟨hd,v,p,⟨n,l⟩,⟨q,ts⟩,r⟩,rest⟩:=x;rw[e1] at h;simp only at h
  by_cases hr:rest=[]
  ·rw[if_pos hr] at h
   by_cases hu:UF l.length ts=true
   ·rw[if_pos hu] at h
    subst hr;obtain⟨g,hb⟩:=Qve.only b _ _ h8 e1;rw[List.append_nil] at hb;simp only[Except.ok.injEq] at h;obtain⟨⟨_,h4⟩,gv,gp,⟨⟨_,_⟩,gl⟩,⟨⟨_,gq⟩,gt⟩,gr⟩:=g;simp only at h4 gv gp gl gq gt gr;have hn:l.length=n:=XN gl;have hq:ts.length=q:=XN gt;subst hn hq;obtain⟨rl,ll⟩:=(Zh l [] List.Pairwise.nil).1 gl;rw[List.nil_append] at rl;have h2:=(Hr ts).1 gt
    have h3:∀t∈ts,t.1<l.length:=λt ht=>of_decide_eq_true (h2 t ht).1.2
    have h0:∀t∈ts,l.getD t.1 []∈l:=λt ht=>by
     rw[Qc,Qh (h3 t ht)];exact List.getElem_mem (h3 t ht)
    have hT:QC m=l:=by
     symm
     rw[<-h];refine Gy rl (λx=>⟨λhx=>?_,λhx=>?_⟩)
     ·have hi:=WU hx
      unfold UF at hu;rw[List.all_eq_true] at hu;have:=hu (Y8 l x) (List.mem_range.2 hi);rw[List.any_eq_true] at this;obtain⟨t,ht,e⟩:=this;rw[beq_iff_eq] at e;refine List.mem_map.2 ⟨(l.getD t.1 [],t.2.getD 0 0),List.mem_map.2 ⟨t,ht,rfl⟩,?_⟩;simp only[e];exact Z5 hx
     ·obtain⟨e,he,rfl⟩:=List.mem_map.1 hx
      obtain⟨t,ht,rfl⟩:=List.mem_map.1 he;exact h0 t ht
    have hes:∀t∈ts,Wp l (l.getD t.1 [],t.2.getD 0 0)=gs t.1++t.2:=λt ht=>by
     unfold Wp;simp only;rw[ZO rl (h3 t ht)]
     congr 1
     have h1:=(h2 t ht).2.1.1;obtain⟨y,hy⟩:=List.length_eq_one_iff.1 h1;rw[hy];rfl
    refine⟨?_,?_⟩
    ·rw[<-h]
     refine⟨gv,gp,gr,?_,?_⟩
     ·simp only[KL,List.length_map]
      exact of_decide_eq_true gq
     ·intro e he
      obtain⟨t,ht,rfl⟩:=List.mem_map.1 he;refine⟨ll _ (h0 t ht),?_,of_decide_eq_true (h2 t ht).2.2⟩;exact ((h2 t ht).2.1.2.at 0).1
    ·have hhd:hd=Q6:=by simpa using h4
     unfold MENC;rw[hT,hb,<-h,hhd];unfold XV KL;simp only[List.length_map,List.map_map];rw[List.map_congr_left (l:=ts) (f:=Wp l ∘ λt=>(l.getD t.1 [],t.2.getD 0 0)) (g:=λt=>gs t.1++t.2) hes]
   ·rw[if_neg hu] at h;cases h
  ·rw[if_neg hr] at h;cases h
theorem Ti {m:MAN} (h:Ut m):U8 (MENC m):=by
 obtain⟨h1,h2,h3,h4,h5⟩:=h;unfold MENC;refine U8.app (λy hy=>by simp[Q6] at hy;omega) (U8.app (US _ _) (U8.app h2.2 (U8.app (U8.app (UU _) ?_) (U8.app (U8.app (UU _) ?_) h3.2))))
 ·intro y hy
  obtain⟨b,hb,hy⟩:=List.mem_flatten.1 hy;obtain⟨x,hx,rfl⟩:=List.mem_map.1 hb;obtain⟨e,he,rfl⟩:=List.mem_map.1 ((UQ _ _).1 hx);exact Kk _ (h5 e he).1.2 y hy
 ·intro y hy
  obtain⟨l,hl,hy⟩:=List.mem_flatten.1 hy;obtain⟨e,he,rfl⟩:=List.mem_map.1 hl
  rcases List.mem_append.1 hy with k | k
  ·exact UU _ y k
  ·rw[List.mem_singleton] at k
   have:=(h5 e he).2;omega
def mpan (c:Int):Ending:=.panicked [{ v:=.iface 26 (.int .i64 c),recovered:=false }]
theorem Ux (c:Int) (w:World):Calls prog 184 #[.bool true,.int .i64 c] w λe w'=>e=.returned (.tuple #[])∧w=w':=by
 go_enter func184,ntmps184;go_wp2
 go_end0
 exact⟨rfl,rfl⟩
theorem UK (c:Int) (w:World):Calls prog 184 #[.bool false,.int .i64 c] w λe w'=>e=mpan c∧w=w':=by
 go_enter func184,ntmps184;go_wp2;exact⟨rfl,rfl,rfl⟩
theorem XE (v:Value) (w:World):Calls prog 183 #[v,.int .i64 0] w λe w'=>e=.returned v∧w=w':=by
 go_enter func183,ntmps183;go_wp2_with fail;refine (Ux 0 w).mono ?_;rintro e w' ⟨rfl,rfl⟩;go_wp2;go_ret;exact⟨rfl,rfl⟩
theorem XB (v:Value) (c:Int) (w:World) (h:c≠0):Calls prog 183 #[v,.int .i64 c] w λe w'=>e=mpan c∧w=w':=by
 have h0:(c == 0)=false:=by simpa using h
 go_enter func183,ntmps183;go_wp2_with fail;refine (UK c w).mono ?_;rintro e w' ⟨rfl,rfl⟩;unfold mpan;go_wp2;exact⟨rfl,rfl,rfl⟩
theorem Zp (v:Value) (w:World):Calls prog 185 #[v,.int .i64 0] w λe w'=>e=.returned v∧w=w':=by
 go_enter func185,ntmps185;go_wp2_with fail;refine (Ux 0 w).mono ?_;rintro e w' ⟨rfl,rfl⟩;go_wp2;go_ret;exact⟨rfl,rfl⟩
theorem GU (v:Value) (c:Int) (w:World) (h:c≠0):Calls prog 185 #[v,.int .i64 c] w λe w'=>e=mpan c∧w=w':=by
 have h0:(c == 0)=false:=by simpa using h
 go_enter func185,ntmps185;go_wp2_with fail;refine (UK c w).mono ?_;rintro e w' ⟨rfl,rfl⟩;unfold mpan;go_wp2;exact⟨rfl,rfl,rfl⟩
theorem EP (v:Value) (w:World):Calls prog 215 #[v,.int .i64 0] w λe w'=>e=.returned v∧w=w':=by
 go_enter func215,ntmps215;go_wp2_with fail;refine (Ux 0 w).mono ?_;rintro e w' ⟨rfl,rfl⟩;go_wp2;go_ret;exact⟨rfl,rfl⟩
theorem OH (v:Value) (c:Int) (w:World) (h:c≠0):Calls prog 215 #[v,.int .i64 c] w λe w'=>e=mpan c∧w=w':=by
 have h0:(c == 0)=false:=by simpa using h
 go_enter func215,ntmps215;go_wp2_with fail;refine (UK c w).mono ?_;rintro e w' ⟨rfl,rfl⟩;unfold mpan;go_wp2;exact⟨rfl,rfl,rfl⟩
theorem MP {c:Int} (h:Qd ys=(0,0,c)) (hc:c≠0):rdV ys=.error c:=by unfold rdV;rw[h,if_neg hc]
theorem Vm {a k:Nat} (h:Qd ys=((a:Int),k,0)):rdV ys=.ok (a,ys.drop k):=by unfold rdV;rw[h,if_pos rfl,Int.toNat_natCast]
theorem Vi {α:Type} {r:Qz α} {c:α->Bool} {e e':Int} (h:r ys=.error e):YU r c e' ys=.error e:=by unfold YU;rw[h]
theorem KX {α:Type} {r:Qz α} {c:α->Bool} {e':Int} {x:α} {t:LI} (h:r ys=.ok (x,t)) (hc:c x=false):YU r c e' ys=.error e':=by unfold YU;rw[h];simp[hc]
theorem Wy {α:Type} {r:Qz α} {c:α->Bool} {e':Int} {x:α} {t:LI} (h:r ys=.ok (x,t)) (hc:c x=true):YU r c e' ys=.ok (x,t):=by unfold YU;rw[h];simp[hc]
theorem Wf {α β:Type} {r1:Qz α} {r2:α->Qz β} {e:Int} (h:r1 ys=.error e):YL r1 r2 ys=.error e:=by unfold YL;rw[h]
theorem Yt {α β:Type} {r1:Qz α} {r2:α->Qz β} {ys t:LI} {x:α} {e:Int} (h:r1 ys=.ok (x,t)) (h2:r2 x t=.error e):YL r1 r2 ys=.error e:=by unfold YL;rw[h];simp only[h2]
theorem WJ {α β:Type} {r1:Qz α} {r2:α->Qz β} {ys t t':LI} {x:α} {y:β} (h:r1 ys=.ok (x,t)) (h2:r2 x t=.ok (y,t')):YL r1 r2 ys=.ok ((x,y),t'):=by unfold YL;rw[h];simp only[h2]
theorem Fh {c:Int} (h:Qd ys=(0,0,c)) (hc:c≠0):Kf ys=.error c:=Vi (MP h hc)
theorem qX {a k:Nat} (h:Qd ys=((a:Int),k,0)) (hn:1048576<a):Kf ys=.error 4:=KX (Vm h) (Qi (by omega))
theorem yH {a k:Nat} (h:Qd ys=((a:Int),k,0)) (hn:a<=1048576):Kf ys=.ok (a,ys.drop k):=Wy (Vm h) (Qe hn)
def Zv {α:Type} (w:World) (R:Nat) (v:Value) (r:Except Int (α × LI)) (val:α->Ending->World->Prop) (e:Ending) (w':World):Prop :=
 Only (λk=>k=R) w w'∧((∃c,c≠0∧r=.error c∧e=mpan c)∨∃x rest,r=.ok (x,rest)∧val x e w'∧∃v2,CurAt 146 w' R v2 rest∧v2.ownBlock=v.ownBlock)
theorem Lb (h:CurAt 146 w R v ys) :
 Calls prog 213 #[.pointer (some ⟨R,0,none⟩)] w (Zv w R v (Kf ys) λn e _=>e=.returned (.int .i64 (n:Nat))∧n<=1048576):=by
 have A:=Qa (YF h)
 rcases Ue h.rng with ⟨c,hs,hc⟩ | ⟨a,k,hs,_,_,ha,_⟩
 ·have h2:c≠0:=by omega
  rw[Fh hs h2];rw[hs] at A;clear h hs hc;go_enter func213,ntmps213;go_wp2_with fail;refine A.o.mono ?_;rintro e w1 ⟨rfl,v2,_,_,o1⟩;have O1:=Qa o1;clear o1 A;go_wp2_with fail;refine (GU _ c w1 h2).mono ?_;rintro e w' ⟨rfl,rfl⟩;unfold mpan;go_wp2;exact⟨rfl,O1.o,.inl ⟨c,h2,rfl,rfl⟩⟩
 ·rw[hs] at A
  by_cases hn:1048576<a
  ·rw[qX hs hn]
   have d1:decide ((a:Int)<=1048576)=false:=by simp;omega
   have d2:decide (a<=1048576)=false:=by simp;omega
   clear h hs;go_enter func213,ntmps213;go_wp2_with fail;refine A.o.mono ?_;rintro e w1 ⟨rfl,v2,_,_,o1⟩;have O1:=Qa o1;clear o1 A;go_wp2_with fail;refine (Zp _ w1).mono ?_;rintro e w' ⟨rfl,rfl⟩;go_wp2_with fail;refine (UK 4 w1).mono ?_;rintro e w' ⟨rfl,rfl⟩;unfold mpan;go_wp2;exact⟨rfl,O1.o,.inl ⟨4,by decide,rfl,rfl⟩⟩
  ·rw[yH hs (by omega)]
   have d1:decide ((a:Int)<=1048576)=true:=by simp;omega
   have d2:decide (a<=1048576)=true:=by simp;omega
   have hw:IntKind.i64.wrap (a:Int)=a:=by rw[IntKind.wrap_i64];omega
   clear h hs;go_enter func213,ntmps213;go_wp2_with fail;refine A.o.mono ?_;rintro e w1 ⟨rfl,v2,h1,h0,o1⟩;have F:=Qa (Vz h1 (Vz h0 o1));clear o1 A h1 h0;go_wp2_with fail;refine (Zp _ w1).mono ?_;rintro e w' ⟨rfl,rfl⟩;go_wp2_with fail;refine (Ux 4 w1).mono ?_;rintro e w' ⟨rfl,rfl⟩;go_wp2;go_ret;exact⟨F.o.2.2,.inr ⟨a,_,rfl,⟨rfl,by omega⟩,v2,F.o.1,F.o.2.1⟩⟩
section
open Go.ChangeShapes Go.WideShapes
def Ens (w:World) (v:Value) (s:List (LI × Int)):Prop :=
 ∃ao cap,v=.slice ao s.length cap∧s.length<=cap∧(s≠[]->∃b off,ao=some ⟨b,off,none⟩∧∀j,j<s.length ->
  w.cell? ⟨b,off+j*2,none⟩=some (.string (strOfNums (s.getD j ([],0)).1))∧w.cell? ⟨b,off+j*2+1,none⟩=some (.int .i64 (s.getD j ([],0)).2))
theorem Ens.len {s:List (LI × Int)} (h:Ens w v s):∃ao cap,v=.slice ao s.length cap:=by
 obtain⟨ao,cap,rfl,_⟩:=h;exact⟨ao,cap,rfl⟩
theorem Ens.nil (w:World):Ens w (.slice none 0 0) []:=⟨none,0,rfl,Zu,λh=>absurd rfl h⟩
theorem Ens.at {s:List (LI × Int)} (h:Ens w v s) (j:Nat) (hj:j<s.length) :
 ∃b off cap,v=.slice (some ⟨b,off,none⟩) s.length cap∧w.cell? ⟨b,off+j*2,none⟩=some (.string (strOfNums (s.getD j ([],0)).1))∧w.cell? ⟨b,off+j*2+1,none⟩=some (.int .i64 (s.getD j ([],0)).2):=by
 obtain⟨ao,cap,rfl,_,hr⟩:=h;obtain⟨b,off,rfl,hc⟩:=hr (by intro h0;subst h0;simp at hj);exact⟨b,off,cap,rfl,hc j hj⟩
theorem Ens.keep {s:List (LI × Int)} (h:Ens w v s) {S:Nat->Prop} (ho:Only S w w') (hs:∀b,v.ownBlock=some b->¬S b):Ens w' v s:=by
 obtain⟨ao,cap,rfl,hl,hr⟩:=h;refine⟨ao,cap,rfl,hl,λhne=>?_⟩;obtain⟨b,off,rfl,hc⟩:=hr hne;refine⟨b,off,rfl,λj hj=>?_⟩;have hb:¬S b:=hs b rfl;obtain⟨h0,h1⟩:=hc j hj;have hlt:b<w.heap.size:=World.block_lt_of_cell? w _ h0;have e:=ho.block b hlt hb;exact⟨by rw[<-h0];unfold World.cell?;rw[e],by rw[<-h1];unfold World.cell?;rw[e]⟩
theorem Ens.past {s:List (LI × Int)} (h:Ens w v s) (o:N0 w w'):Ens w' v s:=h.keep o (λ_ _ f=>f)
def YJ (s:List (LI × Int)):List Value:=s.flatMap λp=>[.string (strOfNums p.1),.int .i64 p.2]
theorem Vx (p:LI × Int) (s:List (LI × Int)):YJ (p :: s)=.string (strOfNums p.1) :: .int .i64 p.2 :: YJ s:=rfl
theorem tH (p:LI × Int) (s:List (LI × Int)):YJ (s++[p])=YJ s++[.string (strOfNums p.1),.int .i64 p.2]:=by
 unfold YJ;rw[List.flatMap_append];rfl
theorem xx (s:List (LI × Int)):(YJ s).length=s.length*2:=by
 induction s with
 | nil=>rfl
 | cons p s ih=>rw[Vx];simp only[Qk,ih];omega
theorem Tc (s:List (LI × Int)):∀(j:Nat),j<s.length->(YJ s)[j*2]? = some (.string (strOfNums (s.getD j ([],0)).1))∧(YJ s)[j*2+1]? = some (.int .i64 (s.getD j ([],0)).2):=by
 induction s with
 | nil=>intro j hj;simp at hj
 | cons p s ih =>
  intro j hj
  cases j with
  | zero=>rw[Vx];exact⟨rfl,rfl⟩
  | succ j =>
   have hj':j<s.length:=by simpa using hj
   obtain⟨h0,h1⟩:=ih j hj';rw[Vx,show (j+1)*2=j*2+1+1 by omega];simp only[List.getElem?_cons_succ,List.getD_cons_succ];exact⟨h0,h1⟩
theorem Ens.of_own {lo:Nat} {s:List (LI × Int)} (h:w.ownsRow lo E 2 v s.length (YJ s)):Ens w v s:=by
 rcases h.2 with ⟨rfl,hn⟩ | ⟨g,cap,cur,rfl,_,hg,hnc,_,hcs,htk⟩
 ·have:s=[]:=List.eq_nil_of_length_eq_zero hn
  subst this;exact Ens.nil w
 ·refine⟨_,cap,rfl,hnc,λ_=>⟨g,0,rfl,λj hj=>?_⟩⟩
  have hc:∀i,i<s.length*2->w.cell? ⟨g,0+i,none⟩=(YJ s)[i]?:=λi hi=>by
   rw[<-htk,List.getElem?_take_of_lt hi];simp[World.cell?,hg]
  obtain⟨h0,h1⟩:=Tc s j hj;exact⟨by rw[hc _ (by omega)];exact h0,by rw[Nat.add_assoc,hc _ (by omega)];exact h1⟩
def Zf (s:List (LI × Int)):Prop:=∀e∈s,U8 e.1
structure Mf (w:World) (x:Value) (m:MAN) (vp ve vr:Value):Prop where
 form:x=.agg #[.int .u64 m.ver,vp,ve,vr]
 prev:Bs .u8 w vp m.prev
 es:Ens w ve m.es
 root:Bs .u8 w vr m.root
theorem Mf.past {x:Value} {m:MAN} {vp ve vr:Value} (h:Mf w x m vp ve vr) (o:N0 w w'):Mf w' x m vp ve vr:=⟨h.form,h.prev.past o,h.es.past o,h.root.past o⟩
structure Mok (m:MAN):Prop where
 ver:m.ver<18446744073709551616
 prev:U8 m.prev
 root:U8 m.root
 es:Zf m.es
end
def Sts (w:World) (v:Value) (T:List (LI)):Prop :=
 ∃ao cap,v=.slice ao T.length cap∧T.length<=cap∧(T≠[]->∃b off,ao=some ⟨b,off,none⟩∧∀j,j<T.length->w.cell? ⟨b,off+j,none⟩=some (.string (strOfNums (T.getD j []))))
theorem Sts.len {T:List (LI)} (h:Sts w v T):∃ao cap,v=.slice ao T.length cap:=by
 obtain⟨ao,cap,rfl,_⟩:=h;exact⟨ao,cap,rfl⟩
theorem Sts.nil (w:World):Sts w (.slice none 0 0) []:=⟨none,0,rfl,Zu,λh=>absurd rfl h⟩
theorem Sts.at {T:List (LI)} (h:Sts w v T) (j:Nat) (hj:j<T.length) :
 ∃b off cap,v=.slice (some ⟨b,off,none⟩) T.length cap∧w.cell? ⟨b,off+j,none⟩=some (.string (strOfNums (T.getD j []))):=by
 obtain⟨ao,cap,rfl,_,hr⟩:=h;obtain⟨b,off,rfl,hc⟩:=hr (by intro h0;subst h0;simp at hj);exact⟨b,off,cap,rfl,hc j hj⟩
theorem Sts.keep {T:List (LI)} (h:Sts w v T) {S:Nat->Prop} (ho:Only S w w') (hs:∀b,v.ownBlock=some b->¬S b):Sts w' v T:=by
 obtain⟨ao,cap,rfl,hl,hr⟩:=h;refine⟨ao,cap,rfl,hl,λhne=>?_⟩;obtain⟨b,off,rfl,hc⟩:=hr hne;refine⟨b,off,rfl,λj hj=>?_⟩;have hb:¬S b:=hs b rfl;have h0:=hc j hj;have hlt:b<w.heap.size:=World.block_lt_of_cell? w _ h0;have e:=ho.block b hlt hb;rw[<-h0];unfold World.cell?;rw[e]
theorem Sts.past {T:List (LI)} (h:Sts w v T) (o:N0 w w'):Sts w' v T:=h.keep o (λ_ _ f=>f)
abbrev UW (T:List (LI)):List Value:=T.map λx=>Value.string (strOfNums x)
theorem Sts.of_own {lo:Nat} {T:List (LI)} (h:w.ownsRow lo E 1 v T.length (UW T)):Sts w v T:=by
 rcases h.2 with ⟨rfl,hn⟩ | ⟨g,cap,cur,rfl,_,hg,hnc,_,hcs,htk⟩
 ·have:T=[]:=List.eq_nil_of_length_eq_zero hn
  subst this;exact Sts.nil w
 ·refine⟨_,cap,rfl,hnc,λ_=>⟨g,0,rfl,λj hj=>?_⟩⟩
  have hc:w.cell? ⟨g,0+j,none⟩=(UW T)[j]?:=by
   rw[<-htk,List.getElem?_take_of_lt (by omega)];simp[World.cell?,hg]
  rw[hc];simp[UW,List.getD_eq_getElem?_getD,List.getElem?_eq_getElem hj]
theorem Ef {lo:Nat} {size:Nat} {xs:List Value} (h:w.ownsRow lo E size v n xs) {b:Nat} (hb:b<lo):some b≠v.ownBlock:=by
 intro e;have:=(h.lt b e.symm).1;omega
theorem Gf:∀(x y:List UInt8),Op.bytesLess x y=lexB (x.map λc=>(c.toNat:Int)) (y.map λc=>(c.toNat:Int))
 | _,[]=>by cases ‹List UInt8› <;> rfl
 | [],_ :: _=>rfl
 | a :: x,b :: y=>by
  have h1:decide (a<b)=decide ((a.toNat:Int)<(b.toNat:Int)):=by
   rw[decide_eq_decide,UInt8.lt_iff_toNat_lt];omega
  have h2:(a == b)=decide ((a.toNat:Int)=(b.toNat:Int)):=by
   rw[Bool.eq_iff_iff,beq_iff_eq,decide_eq_true_eq]
   constructor
   ·rintro rfl;rfl
   ·intro h;exact UInt8.toNat_inj.1 (by omega)
  simp only[Op.bytesLess,List.map_cons,lexB,<-Gf x y,h1,h2]
theorem wB (s t:ByteArray):Op.bytesLess s.toList t.toList=lexB (sb s) (sb t):=by
 rw[Gf,ByteArray.toList_eq,ByteArray.toList_eq];rfl
theorem eq_sb (s t:ByteArray):(s.toList == t.toList)=decide (sb s=sb t):=by
 rw[Bool.eq_iff_iff,beq_iff_eq,decide_eq_true_eq]
 constructor
 ·intro h
  unfold sb;rw[<-ByteArray.toList_eq,<-ByteArray.toList_eq,h]
 ·intro h
  rw[zg h]
theorem xo {l:List (List UInt8)} (h:l.Pairwise λx y=>Op.bytesLess y x=false) (hn:l.Nodup):RIS (l.map λs=>s.map λc=>(c.toNat:Int)):=by
 unfold RIS;rw[List.pairwise_map];refine (h.and hn).imp (λ{a b} k=>?_)
 rcases Hd (a.map λc=>(c.toNat:Int)) (b.map λc=>(c.toNat:Int)) with e | e | e
 ·refine absurd ?_ k.2
  have hi:∀(x y:List UInt8),(x.map λc=>(c.toNat:Int))=(y.map λc=>(c.toNat:Int))->x=y:=by
   intro x
   induction x with
   | nil=>intro y hy;cases y with
    | nil=>rfl
    | cons b y=>simp at hy
   | cons a x ih=>intro y hy;cases y with
    | nil=>simp at hy
    | cons b y =>
     simp only[List.map_cons,List.cons.injEq] at hy;rw[ih y hy.2,UInt8.toNat_inj.1 (show a.toNat=b.toNat by omega)]
  exact hi a b e
 ·exact e
 ·rw[<-Gf,k.1] at e;cases e
def Qx (k:Nat):Nat:=64*4^k
def QR (n:Nat):Nat:=if n<=60 then 0 else if n<=252 then 1 else if n<=1020 then 2 else if n<=4092 then 3 else if n<=16380 then 4 else if n<=65532 then 5 else if n<=262140 then 6 else if n<=1048572 then 7 else 8
theorem RY (n:Nat):QR n<=8:=by unfold QR;(repeat' split) <;> omega
def Uo (n:Nat):Nat:=Qx (QR n)
theorem Ju (n:Nat):Uo n=if n<=60 then 64 else if n<=252 then 256 else if n<=1020 then 1024 else if n<=4092 then 4096 else if n<=16380 then 16384 else if n<=65532 then 65536 else if n<=262140 then 262144 else if n<=1048572 then 1048576 else 4194304:=by
 unfold Uo QR;repeat' split
 all_goals rfl
theorem XT (n:Nat) (h:n<=4194300):n+4<=Uo n:=by rw[Ju];(repeat' split) <;> omega
theorem Zl (n:Nat):Uo n<=4194304:=by rw[Ju];(repeat' split) <;> omega
theorem rZ (n:Nat):64<=Uo n:=by rw[Ju];(repeat' split) <;> omega
theorem rh (n:Nat):(n<=60∧QR n=0)∨(60<n∧n<=252∧QR n=1)∨(252<n∧n<=1020∧QR n=2)∨(1020<n∧n<=4092∧QR n=3)∨(4092<n∧n<=16380∧QR n=4)∨(16380<n∧n<=65532∧QR n=5)∨(65532<n∧n<=262140∧QR n=6)∨(262140<n∧n<=1048572∧QR n=7)∨(1048572<n∧QR n=8):=by
 unfold QR;(repeat' split) <;> omega
def PADL (b:LI):LI:=fixL (b.length:Int) 4++b++List.replicate (Uo b.length - 4 - b.length) 0
theorem K9 (b:LI) (h:b.length<=4194300):(PADL b).length=Uo b.length:=by
 have:=XT b.length h;simp only[PADL,Qb,Qv,List.length_replicate];omega
theorem ZF {b:LI} (h:U8 b):U8 (PADL b):=by
 unfold PADL;refine U8.app (U8.app (US _ _) h) ?_;intro y hy;have:=List.eq_of_mem_replicate hy;omega
def Y5 (b:LI):Nat:=num (b.take 4)
def YY (b:LI):LI:=(b.drop 4).take (Y5 b)
abbrev WK (b:LI):Prop:=(YY b).length<=4194300∧PADL (YY b)=b
theorem N7 (d:LI) (h:d.length<=4194300):Y5 (PADL d)=d.length:=by
 unfold Y5 PADL;rw[List.append_assoc,List.take_append_of_le_length (by rw[Qv];exact Zu),List.take_of_length_le (by rw[Qv];exact Zu),wW _ (by omega)]
theorem JH (d:LI) (h:d.length<=4194300):YY (PADL d)=d:=by
 unfold YY;rw[N7 d h];unfold PADL;rw[List.append_assoc,List.drop_append_of_le_length (by rw[Qv];exact Zu),List.drop_of_length_le (by rw[Qv];exact Zu),List.nil_append,List.take_left]
theorem Hz (d:LI) (h:d.length<=4194300):WK (PADL d):=by
 refine⟨?_,?_⟩
 ·rw[JH d h];exact h
 ·rw[JH d h]
def KD (b:LI):LI:=if b.length<=4194300 then PADL b else []
def Uh (b:LI):Int:=if b.length<=4194300 then 0 else 4
def Kx (b:LI):LI:=if WK b then YY b else []
def Ks (b:LI):Int:=if WK b then 0 else 3
theorem pb {b:LI} (h:U8 b):U8 (YY b):=(h.drop _).take _
section
open Go.Shelf
attribute [local go_sem] Oper.semAt_some
theorem yU (t:Nat):Qx (t+1)=Qx t*4:=by unfold Qx;rw[Nat.pow_succ];omega
theorem No {t:Nat} (h:t<=9):(t<9∧Qx t<=4194304∧64<=Qx t)∨(t=9∧Qx t=16777216):=by
 rcases (show t=0∨t=1∨t=2∨t=3∨t=4∨t=5∨t=6∨t=7∨t=8∨t=9 by omega) with rfl | rfl | rfl | rfl | rfl | rfl | rfl | rfl | rfl | rfl <;> decide
theorem Dw (n:Nat) (w:World):CallsIn Fence.wide n prog 36 #[] w λe w'=>e=.returned (.func (.func 58) #[] #[])∧w'=w:=by
 refine callsIn_of_wp func36 rfl trivial ?_ rfl;simp only[ntmps36,List.size_toArray,List.length_nil,Nat.reduceSub,Array.replicate_succ,Array.replicate_zero,List.push_toArray,List.append_toArray,List.nil_append]
 gi_wp2
 go_ret;exact⟨rfl,rfl⟩
theorem LQ (n L:Nat) (J Jx:Nat->World->Prop)
 (hY:∀(s:Nat) A,s<9->J s A->YieldAt Fence.wide (n - 1) prog L #[.int .i64 (s:Int),.int .i64 (Qx s:Int)] A λe B =>
  (e=.returned (.bool true)∧J (s+1) B)∨(e=.returned (.bool false)∧Jx (s+1) B))
 (W:World) (h0:J 0 W) :
 CallsIn Fence.wide n prog 58 #[.func (.yield L) #[] #[]] W λe B=>(∃v,e=.returned v)∧(J 9 B∨∃s,Jx s B):=by
 have HY:=Qa hY;have H0:=Qa h0;clear hY h0;refine callsIn_of_wp func58 rfl trivial ?_ rfl;simp only[ntmps58,List.size_toArray,Qk,List.length_nil,Nat.reduceAdd,Nat.reduceSub,Array.replicate_succ,Array.replicate_zero,List.push_toArray,List.append_toArray,List.nil_append,List.cons_append]
 gi_wp2
 gi_loopw [2,3] (λk z wr=>∃t q:Nat,t<=9∧k=.int .i64 t∧z=.int .i64 q∧Hid (q=Qx t)∧Hid (J t wr)) (λk _ _=>9 - (intOf k).toNat)
 case atStart=>exact⟨0,64,by omega,rfl,rfl,rfl,H0⟩
 case round =>
  obtain⟨t,q,ht,rfl,rfl,HQ,HT⟩:=hrel
  rcases No ht with ⟨hlt,hle,hge⟩ | ⟨heq,hgr⟩
  ·rw[<-HQ.o] at hle hge
   have dle:decide ((q:Int)<=4194304)=true:=Qe (by omega);obtain⟨fn,tmps,h2,body,hy,hR⟩:=HY.o t wr hlt HT.o;rw[<-HQ.o] at hy;have HR:=Qa hR;clear hR HT
   gi_wp2_with fail
   refine⟨(λh=>by cases h),HR.o.mono ?_⟩;rintro e w3 (⟨rfl,h1⟩ | ⟨rfl,h1⟩)
   ·have H3:=Qa h1
    clear HR h1
    gi_wp2
    go_roundw
    case rel=>exact⟨t+1,q*4,by omega,by go_num,by go_num,by show _=_;rw[HQ.o,yU],H3⟩
    case measure=>simp[intOf];omega
   ·have H3:=Qa h1
    clear HR h1
    gi_wp2
    refine bodyPost_ret (results_none rfl _ _ _) rfl ?_;exact⟨⟨_,rfl⟩,.inr ⟨_,H3.o⟩⟩
  ·rw[<-HQ.o] at hgr
   have dle:decide ((q:Int)<=4194304)=false:=Qi (by omega);subst heq
   gi_wp2
   go_end0
   exact⟨⟨_,rfl⟩,.inl HT.o⟩
end
section
open Go.Shelf
attribute [local go_sem] Oper.semAt_some
theorem XG {fn:Func} {p:Tmp} {ty:TypeId} (h:fn.results=#[.cell p ty]) (tmps:Array Value) (w:World) {a:Addr} {v:Value} (ha:tmps[p]?.getD undef=.pointer (some a)) (hl:(loadVar ty a).run P w=.ok v w) :
 (results fn tmps).run P w=.ok v w:=by
 simp only[results,h];simp[ha,asAddr,hl]
theorem Hh {fn:Func} {p q:Tmp} {ty ty2:TypeId} (h:fn.results=#[.cell p ty,.cell q ty2]) (tmps:Array Value) (w:World) {a b:Addr} {v1 v2:Value}
 (hp:tmps[p]?.getD undef=.pointer (some a)) (hq:tmps[q]?.getD undef=.pointer (some b)) (h1:(loadVar ty a).run P w=.ok v1 w) (h2:(loadVar ty2 b).run P w=.ok v2 w) :
 (results fn tmps).run P w=.ok (.tuple #[v1,v2]) w:=by
 simp[results,h,hp,hq,asAddr,h1,h2]
theorem Zj {b:Nat} {c:Int} (h:Boxed W b 3 (.int .i64 c)):(loadVar 3 ⟨b,0,none⟩).run prog W=.ok (.int .i64 c) W:=by
 have hc:=h.cell;simp[go_sem,hc]
theorem JJ {b:Nat} {c:Int} (h:Boxed W b 26 (.int .i64 c)):(loadVar 26 ⟨b,0,none⟩).run prog W=.ok (.int .i64 c) W:=by
 have hc:=h.cell;simp[go_sem,hc]
def Yb (k:Int):Int:=if 0<=k∧k<=8 then (Qx k.toNat:Int) else 0
theorem Jf (k:Int) (w:World):Calls prog 98 #[.int .i64 k] w λe w'=>e=.returned (.int .i64 (Yb k))∧N0 w w':=by
 refine (callsIn_wide (n:=5)).1 ?_;refine callsIn_of_wp_marks func98 rfl trivial ?_ rfl;simp only[ntmps98,List.size_toArray,Qk,List.length_nil,Nat.reduceAdd,Nat.reduceSub,Array.replicate_succ,Array.replicate_zero,List.push_toArray,List.append_toArray,List.nil_append,List.cons_append]
 gi_wp2_with fail
 refine⟨trivial,(Dw _ _).mono ?_⟩;rintro e w2 ⟨rfl,rfl⟩
 gi_wp2_with fail
 obtain⟨W0,h4⟩:∃W0,(w.alloc (.cells #[.int .i64 k] 3)).alloc (.cells #[.int .i64 0] 3)=W0:=⟨_,rfl⟩
 have o0:N0 w W0:=by rw[<-h4];exact ((Only.refl _ w).alloc _).alloc _
 have hsz:W0.heap.size=w.heap.size+1+1:=by rw[<-h4];simp
 have bK:Boxed W0 w.heap.size 3 (.int .i64 k):=by rw[<-h4];exact (Boxed.new w 3 (.int .i64 k)).alloc _
 have bR:Boxed W0 (w.heap.size+1) 3 (.int .i64 0):=by
  have h:=Boxed.new (w.alloc (.cells #[.int .i64 k] 3)) 3 (.int .i64 0);rw[World.size_alloc,h4] at h;exact h
 rw[h4]
 refine Jo (c:=.ret) (gf:=58) (lb:=#[]) rfl (enters_of func58 (by kernel_rfl) rfl)
  (λx:Nat × Nat=>#[.int .i64 (x.1:Int),.int .i64 (x.2:Int)]) (λ_=>rfl)
  (λs A=>(∀j:Nat,j<s->(j:Int)≠k)∧N0 W0 A)
  (λs A=>(0<=k∧k<=8)∧Only (λj=>j=w.heap.size+1) W0 A∧Boxed A (w.heap.size+1) 3 (.int .i64 (Qx k.toNat:Int)))
  (λs x s' A=>s'=s+1∧s<9∧x.1=s∧x.2=Qx s) 0 9
  (λs A B r hi hl o=>⟨hi.1,hi.2.trans o (λi hi e=>by omega)⟩) (λs A B r hi hl o=>⟨hi.1,hi.2.1.trans o (λi hi e=>by omega),QN hi.2.2 o (by omega)⟩) (λs A B hi o=>⟨hi.1,hi.2.same o⟩)
  (λs x s' A B r hv hl o=>hv) ⟨λj hj=>by omega,VG⟩
  ?hit (λx=>{ tmps:=#[.int .i64 k,.pointer (some ⟨w.heap.size,0,none⟩),.pointer (some ⟨w.heap.size+1,0,none⟩),.int .i64 (x.1:Int),.int .i64 (x.2:Int),.func (.func 58) #[] #[],.int .i64 (x.1:Int),.int .i64 (x.2:Int),undef,undef,undef,undef],defers:=[] }) ?assign ?body ?done ?stop
 case hit =>
  intro J Jx W hJ hJo hY h0 hW;refine LQ 4 (W0.heap.size+1) J Jx (λs A h9 hs=>?_) W h0;obtain⟨fn,tmps,assign,body,hy,hR⟩:=hY s (s,Qx s) (s+1) A hs ⟨rfl,h9,rfl,rfl⟩;refine⟨fn,tmps,assign,body,hy,hR.mono ?_⟩;rintro e B (⟨h1,h2,_⟩ | h)
  ·exact .inl ⟨h1,h2⟩
  ·exact .inr h
 case assign =>
  intro x W K hK
  gi_wp2
  exact hK
 case body =>
  rintro s ⟨x1,x2⟩ s' W ⟨hs,hq⟩ ⟨rfl,h9,h8,h7⟩;simp only at h8 h7;subst h8 h7;have hck:=(QN bK hq (λf=>f)).cell;have h3:=QN bR hq (λf=>f);have ha:=h3.cell;have hfr:=h3.frozen
  by_cases heq:(x1:Int)=k
  ·have d1:((x1:Int) == k)=true:=by simpa using heq
   have o5:Only (λj=>j=w.heap.size+1) W (W.setCell ⟨w.heap.size+1,0,none⟩ (.int .i64 (Qx x1:Int))):=(Only.refl (λj=>j=w.heap.size+1) W).setCell (p:=⟨w.heap.size+1,0,none⟩) (λ_=>rfl) _
   have h6:Hid (Only (λj=>j<W0.heap.size) W (W.setCell ⟨w.heap.size+1,0,none⟩ (.int .i64 (Qx x1:Int)))∧(0<=k∧k<=8)∧Only (λj=>j=w.heap.size+1) W0 (W.setCell ⟨w.heap.size+1,0,none⟩ (.int .i64 (Qx x1:Int)))∧Boxed (W.setCell ⟨w.heap.size+1,0,none⟩ (.int .i64 (Qx x1:Int))) (w.heap.size+1) 3 (.int .i64 (Qx k.toNat:Int))):=by
    refine⟨o5.mono (λj _ e=>by omega),by omega,(hq.mono (λ_ _ f=>f.elim)).trans o5 (λ_ _ e=>e),?_⟩
    have:k.toNat=x1:=by omega
    rw[this];exact h3.set _
   generalize Qx x1=q at *;clear hs hq h3 o5 heq
   gi_wp2
   exact⟨rfl,h6.o⟩
  ·have d1:((x1:Int) == k)=false:=by simpa using heq
   have h6:Hid (Only (λj=>j<W0.heap.size) W W∧(∀j:Nat,j<x1+1->(j:Int)≠k)∧N0 W0 W):=by
    refine⟨VG,λj hj e=>?_,hq⟩
    rcases Nat.lt_or_ge j x1 with h | h
    ·exact hs j h e
    ·exact heq (by omega)
   generalize Qx x1=q at *;clear hs hq h3 heq
   gi_wp2
   exact h6.o
 case done =>
  intro W hi hD
  have hS:Yb k=0:=by
   unfold Yb;rw[if_neg];rintro⟨h1,h2⟩;exact hi.1 k.toNat (by omega) (by omega)
  have h3:=QN bR hi.2 (λf=>f);have ha:=h3.cell;have hfr:=h3.frozen;have HI:=Qa hi.2;have HD:=Qa hD;have h5:=Qa h3;have HS:=Qa hS;clear hi hD h3 hS
  gi_wp2
  have o5:Only (λj=>j=w.heap.size+1) W (W.setCell ⟨w.heap.size+1,0,none⟩ (.int .i64 0)):=(Only.refl (λj=>j=w.heap.size+1) W).setCell (p:=⟨w.heap.size+1,0,none⟩) (λ_=>rfl) _;have hD5:=o5.heap HD.o (by omega);have o6:Only (λj=>j=W0.heap.size) (W.setCell ⟨w.heap.size+1,0,none⟩ (.int .i64 0)) ((W.setCell ⟨w.heap.size+1,0,none⟩ (.int .i64 0)).putObj W0.heap.size (.deferred none)):=VG.putObj _ _ (λ_=>rfl);refine⟨by simp,.inl ⟨_,_,rfl,run_takeDeferred hD5,?_⟩⟩;refine⟨.int .i64 0,XG rfl _ _ rfl (Zj (QN (h5.o.set _) o6 (by omega))),?_,?_⟩
  ·rw[HS.o]
  ·exact ((o0.same HI.o).trans o5 (λj _ e=>by omega)).trans o6 (λj _ e=>by omega)
 case stop =>
  intro s W hi hD;have hS:Yb k=(Qx k.toNat:Int):=if_pos hi.1;have ha:=hi.2.2.cell;have HI:=Qa hi.2.1;have HD:=Qa hD;have h5:=Qa hi.2.2;have HS:=Qa hS;clear hi hD hS;generalize Qx k.toNat=q at *
  gi_wp2
  have o6:Only (λj=>j=W0.heap.size) W (W.putObj W0.heap.size (.deferred none)):=VG.putObj _ _ (λ_=>rfl);refine⟨by simp,.inl ⟨_,_,rfl,run_takeDeferred HD.o,?_⟩⟩;refine⟨.int .i64 (q:Int),XG rfl _ _ rfl (Zj (QN h5.o o6 (by omega))),?_,?_⟩
  ·rw[HS.o]
  ·exact (o0.trans HI.o (λj _ e=>by omega)).trans o6 (λj _ e=>by omega)
def UZ (n:Int):Int:=if 0<=n∧n<=4194300 then (QR n.toNat:Int) else 0
def YK (n:Int):Int:=if n<0 then 1 else if 4194300<n then 4 else 0
theorem zI {s n:Nat} (h9:s<9) (h:n+4<=Qx s) (hb:∀j,j<s->Qx j<n+4):QR n=s:=by
 have hc:=rh n
 rcases (show s=0∨s=1∨s=2∨s=3∨s=4∨s=5∨s=6∨s=7∨s=8 by omega) with rfl | rfl | rfl | rfl | rfl | rfl | rfl | rfl | rfl
 ·simp only[Qx,Nat.reducePow,Nat.reduceMul] at h
  omega
 ·have:=hb 0 (by omega)
  simp only[Qx,Nat.reducePow,Nat.reduceMul] at h this;omega
 ·have:=hb 1 (by omega)
  simp only[Qx,Nat.reducePow,Nat.reduceMul] at h this;omega
 ·have:=hb 2 (by omega)
  simp only[Qx,Nat.reducePow,Nat.reduceMul] at h this;omega
 ·have:=hb 3 (by omega)
  simp only[Qx,Nat.reducePow,Nat.reduceMul] at h this;omega
 ·have:=hb 4 (by omega)
  simp only[Qx,Nat.reducePow,Nat.reduceMul] at h this;omega
 ·have:=hb 5 (by omega)
  simp only[Qx,Nat.reducePow,Nat.reduceMul] at h this;omega
 ·have:=hb 6 (by omega)
  simp only[Qx,Nat.reducePow,Nat.reduceMul] at h this;omega
 ·have:=hb 7 (by omega)
  simp only[Qx,Nat.reducePow,Nat.reduceMul] at h this;omega
theorem Z4 (n:Int) (w:World):Calls prog 16 #[.int .i64 n] w λe w'=>e=.returned (.tuple #[.int .i64 (UZ n),.int .i64 (YK n)])∧N0 w w':=by
 obtain⟨W0,h5⟩:∃W0,((w.alloc (.cells #[.int .i64 n] 3)).alloc (.cells #[.int .i64 0] 3)).alloc (.cells #[.int .i64 0] 26)=W0:=⟨_,rfl⟩
 have o0:N0 w W0:=by rw[<-h5];exact (((Only.refl _ w).alloc _).alloc _).alloc _
 have hsz:W0.heap.size=w.heap.size+1+1+1:=by rw[<-h5];simp
 have bN:Boxed W0 w.heap.size 3 (.int .i64 n):=by rw[<-h5];exact ((Boxed.new w 3 (.int .i64 n)).alloc _).alloc _
 have bR:Boxed W0 (w.heap.size+1) 3 (.int .i64 0):=by
  have h:=(Boxed.new (w.alloc (.cells #[.int .i64 n] 3)) 3 (.int .i64 0)).alloc (.cells #[.int .i64 0] 26);rw[World.size_alloc,h5] at h;exact h
 have bE:Boxed W0 (w.heap.size+1+1) 26 (.int .i64 0):=by
  have h:=Boxed.new ((w.alloc (.cells #[.int .i64 n] 3)).alloc (.cells #[.int .i64 0] 3)) 26 (.int .i64 0);rw[World.size_alloc,World.size_alloc,h5] at h;exact h
 have hh:∀(V:World) (x y:Int),Boxed V (w.heap.size+1) 3 (.int .i64 0)->Boxed V (w.heap.size+1+1) 26 (.int .i64 0) ->
  Only (λj=>j=w.heap.size+1∨j=w.heap.size+1+1) V ((V.setCell ⟨w.heap.size+1,0,none⟩ (.int .i64 x)).setCell ⟨w.heap.size+1+1,0,none⟩ (.int .i64 y)) ∧
  Boxed ((V.setCell ⟨w.heap.size+1,0,none⟩ (.int .i64 x)).setCell ⟨w.heap.size+1+1,0,none⟩ (.int .i64 y)) (w.heap.size+1) 3 (.int .i64 x) ∧
  Boxed ((V.setCell ⟨w.heap.size+1,0,none⟩ (.int .i64 x)).setCell ⟨w.heap.size+1+1,0,none⟩ (.int .i64 y)) (w.heap.size+1+1) 26 (.int .i64 y):=by
  intro V x y h1 h2;have oa:Only (λj=>j=w.heap.size+1) V (V.setCell ⟨w.heap.size+1,0,none⟩ (.int .i64 x)):=(Only.refl (λj=>j=w.heap.size+1) V).setCell (p:=⟨w.heap.size+1,0,none⟩) (λ_=>rfl) _;have ob:Only (λj=>j=w.heap.size+1+1) (V.setCell ⟨w.heap.size+1,0,none⟩ (.int .i64 x)) ((V.setCell ⟨w.heap.size+1,0,none⟩ (.int .i64 x)).setCell ⟨w.heap.size+1+1,0,none⟩ (.int .i64 y)):=(Only.refl (λj=>j=w.heap.size+1+1) _).setCell (p:=⟨w.heap.size+1+1,0,none⟩) (λ_=>rfl) _;exact⟨(oa.mono (T:=λj=>j=w.heap.size+1∨j=w.heap.size+1+1) (λ_ _ e=>.inl e)).trans ob (λ_ _ e=>.inr e),QN (h1.set _) ob (by omega),(QN h2 oa (by omega)).set _⟩
 have h6:=Qa hh;clear hh
 by_cases hn:n<0
 ·have d1:decide (n<0)=true:=Qe hn
  have HV:Hid (UZ n=0∧YK n=1):=⟨if_neg (by omega),if_pos hn⟩
  have h3:Boxed (((w.alloc (.cells #[.int .i64 n] 3)).alloc (.cells #[.int .i64 0] 3)).alloc (.cells #[.int .i64 1] 26)) (w.heap.size+1) 3 (.int .i64 0):=by
   have h:=(Boxed.new (w.alloc (.cells #[.int .i64 n] 3)) 3 (.int .i64 0)).alloc (.cells #[.int .i64 1] 26);rw[World.size_alloc] at h;exact h
  have h4:Boxed (((w.alloc (.cells #[.int .i64 n] 3)).alloc (.cells #[.int .i64 0] 3)).alloc (.cells #[.int .i64 1] 26)) (w.heap.size+1+1) 26 (.int .i64 1):=by
   have h:=Boxed.new ((w.alloc (.cells #[.int .i64 n] 3)).alloc (.cells #[.int .i64 0] 3)) 26 (.int .i64 1);rw[World.size_alloc,World.size_alloc] at h;exact h
  have F:=Qa (Vz h3 h4);clear h3 h4 o0 hn hsz bN bR bE h5 h6;refine (callsIn_wide (n:=5)).1 ?_;refine callsIn_of_wp_marks func16 rfl trivial ?_ rfl;simp only[ntmps16,List.size_toArray,Qk,List.length_nil,Nat.reduceAdd,Nat.reduceSub,Array.replicate_succ,Array.replicate_zero,List.push_toArray,List.append_toArray,List.nil_append,List.cons_append]
  gi_wp2
  refine⟨.tuple #[.int .i64 0,.int .i64 1],Hh rfl _ _ rfl rfl (Zj F.o.1) (JJ F.o.2),?_,?_⟩
  ·rw[HV.o.1,HV.o.2]
  ·exact (((Only.refl _ w).alloc _).alloc _).alloc _
 have d1:decide (n<0)=false:=Qi hn;obtain⟨n,rfl⟩:=Int.eq_ofNat_of_zero_le (Int.not_lt.1 hn);have HW0:=Qa h5;clear h5;refine (callsIn_wide (n:=5)).1 ?_;refine callsIn_of_wp_marks func16 rfl trivial ?_ rfl;simp only[ntmps16,List.size_toArray,Qk,List.length_nil,Nat.reduceAdd,Nat.reduceSub,Array.replicate_succ,Array.replicate_zero,List.push_toArray,List.append_toArray,List.nil_append,List.cons_append]
 gi_wp2_with fail
 refine⟨trivial,(Dw _ _).mono ?_⟩;rintro e w2 ⟨rfl,rfl⟩
 gi_wp2_with fail
 rw[HW0.o]
 refine Jo (c:=.ret) (gf:=58) (lb:=#[]) rfl (enters_of func58 (by kernel_rfl) rfl)
  (λx:Nat × Nat=>#[.int .i64 (x.1:Int),.int .i64 (x.2:Int)]) (λ_=>rfl)
  (λs A=>(∀j:Nat,j<s->Qx j<n+4)∧N0 W0 A)
  (λs A=>n<=4194300∧Only (λj=>j=w.heap.size+1∨j=w.heap.size+1+1) W0 A∧Boxed A (w.heap.size+1) 3 (.int .i64 (QR n:Int))∧Boxed A (w.heap.size+1+1) 26 (.int .i64 0))
  (λs x s' A=>s'=s+1∧s<9∧x.1=s∧x.2=Qx s) 0 9
  (λs A B r hi hl o=>⟨hi.1,hi.2.trans o (λi hi e=>by omega)⟩) (λs A B r hi hl o=>⟨hi.1,hi.2.1.trans o (λi hi e=>by omega),QN hi.2.2.1 o (by omega),QN hi.2.2.2 o (by omega)⟩) (λs A B hi o=>⟨hi.1,hi.2.same o⟩)
  (λs x s' A B r hv hl o=>hv) ⟨λj hj=>by omega,VG⟩
  ?hit (λx=>{ tmps:=#[.int .i64 (n:Int),.pointer (some ⟨w.heap.size,0,none⟩),.pointer (some ⟨w.heap.size+1,0,none⟩),.pointer (some ⟨w.heap.size+1+1,0,none⟩),.int .i64 (x.1:Int),.int .i64 (x.2:Int),.int .i64 (n:Int),.bool false,.func (.func 58) #[] #[],.int .i64 (x.1:Int),.int .i64 (x.2:Int),undef,undef,undef,undef,undef],defers:=[] }) ?assign ?body ?done ?stop
 case hit =>
  intro J Jx W hJ hJo hY h0 hW;refine LQ 4 (W0.heap.size+1) J Jx (λs A h9 hs=>?_) W h0;obtain⟨fn,tmps,assign,body,hy,hR⟩:=hY s (s,Qx s) (s+1) A hs ⟨rfl,h9,rfl,rfl⟩;refine⟨fn,tmps,assign,body,hy,hR.mono ?_⟩;rintro e B (⟨h1,h2,_⟩ | h)
  ·exact .inl ⟨h1,h2⟩
  ·exact .inr h
 case assign =>
  intro x W K hK
  gi_wp2
  exact hK
 case body =>
  rintro s ⟨x1,x2⟩ s' W ⟨hs,hq⟩ ⟨rfl,h9,hf,he⟩;simp only at hf he;subst hf he;have hck:=(QN bN hq (λf=>f)).cell;have h3:=QN bR hq (λf=>f);have h4:=QN bE hq (λf=>f);have hcr:=h3.cell;have hfr:=h3.frozen;have hce:=h4.cell;have hfe:=h4.frozen;have hg:=No (t:=x1) (by omega)
  by_cases hle:n+4<=Qx x1
  ·have e1:=zI h9 hle hs
   obtain⟨f1,f2,f3⟩:=h6.o W (x1:Int) 0 h3 h4
   have hd:Hid (Only (λj=>j<W0.heap.size) W ((W.setCell ⟨w.heap.size+1,0,none⟩ (.int .i64 (x1:Int))).setCell ⟨w.heap.size+1+1,0,none⟩ (.int .i64 0))∧n<=4194300∧Only (λj=>j=w.heap.size+1∨j=w.heap.size+1+1) W0 ((W.setCell ⟨w.heap.size+1,0,none⟩ (.int .i64 (x1:Int))).setCell ⟨w.heap.size+1+1,0,none⟩ (.int .i64 0)) ∧
    Boxed ((W.setCell ⟨w.heap.size+1,0,none⟩ (.int .i64 (x1:Int))).setCell ⟨w.heap.size+1+1,0,none⟩ (.int .i64 0)) (w.heap.size+1) 3 (.int .i64 (QR n:Int))∧Boxed ((W.setCell ⟨w.heap.size+1,0,none⟩ (.int .i64 (x1:Int))).setCell ⟨w.heap.size+1+1,0,none⟩ (.int .i64 0)) (w.heap.size+1+1) 26 (.int .i64 0)):=by
    refine⟨f1.mono (λj _ e=>by omega),by omega,(hq.mono (λ_ _ f=>f.elim)).trans f1 (λ_ _ e=>e),?_,f3⟩;rw[e1];exact f2
   have d2:decide ((n:Int)<=(Qx x1:Int) - 4)=true:=Qe (by omega);generalize Qx x1=q at *;clear hs hq h3 h4 f1 f2 f3 e1 hle
   have ha:64<=q∧q<=4194304:=by omega
   clear hg
   gi_wp2
   exact⟨rfl,hd.o⟩
  ·have hd:Hid (Only (λj=>j<W0.heap.size) W W∧(∀j:Nat,j<x1+1->Qx j<n+4)∧N0 W0 W):=by
    refine⟨VG,λj hj=>?_,hq⟩
    rcases Nat.lt_or_ge j x1 with h | h
    ·exact hs j h
    ·obtain rfl:j=x1:=by omega
     omega
   have d2:decide ((n:Int)<=(Qx x1:Int) - 4)=false:=Qi (by omega);clear hs;generalize Qx x1=q at *;clear hq h3 h4 hle
   have ha:64<=q∧q<=4194304:=by omega
   clear hg
   gi_wp2
   exact hd.o
 case done =>
  intro W hi hD;have h8:=hi.1 8 (by omega);simp only[Qx,Nat.reducePow,Nat.reduceMul] at h8;have HV:Hid (UZ n=0∧YK n=4):=⟨if_neg (by omega),by show YK _=_;unfold YK;rw[if_neg (by omega),if_pos (by omega)]⟩;have h3:=QN bR hi.2 (λf=>f);have h4:=QN bE hi.2 (λf=>f);have hcr:=h3.cell;have hfr:=h3.frozen;have hce:=h4.cell;have hfe:=h4.frozen;have HI:=Qa hi.2;have HD:=Qa hD;have hb:=Qa h3;have h7:=Qa h4;clear hi hD h3 h4 h8
  gi_wp2
  obtain⟨f1,f2,f3⟩:=h6.o W 0 4 hb.o h7.o;obtain⟨V,hV⟩:=EX ((W.setCell ⟨w.heap.size+1,0,none⟩ (.int .i64 0)).setCell ⟨w.heap.size+1+1,0,none⟩ (.int .i64 4));rw[<-hV] at f1 f2 f3 ⊢;have hD5:=f1.heap HD.o (by omega);have o6:Only (λj=>j=W0.heap.size) V (V.putObj W0.heap.size (.deferred none)):=VG.putObj _ _ (λ_=>rfl);refine⟨by simp,.inl ⟨_,_,rfl,run_takeDeferred hD5,?_⟩⟩;refine⟨.tuple #[.int .i64 0,.int .i64 4],Hh rfl _ _ rfl rfl (Zj (QN f2 o6 (by omega))) (JJ (QN f3 o6 (by omega))),?_,?_⟩
  ·rw[HV.o.1,HV.o.2]
  ·exact ((o0.same HI.o).trans f1 (λj _ e=>by omega)).trans o6 (λj _ e=>by omega)
 case stop =>
  intro s W hi hD;have HV:Hid (UZ n=(QR n:Int)∧YK n=0):=⟨if_pos (by have:=hi.1;omega),by show YK _=_;unfold YK;rw[if_neg (by omega),if_neg (by have:=hi.1;omega)]⟩;have HI:=Qa hi.2.1;have HD:=Qa hD;have hb:=Qa hi.2.2.1;have h7:=Qa hi.2.2.2;clear hi hD;generalize QR n=q at *
  gi_wp2
  have o6:Only (λj=>j=W0.heap.size) W (W.putObj W0.heap.size (.deferred none)):=VG.putObj _ _ (λ_=>rfl);refine⟨by simp,.inl ⟨_,_,rfl,run_takeDeferred HD.o,?_⟩⟩;refine⟨.tuple #[.int .i64 (q:Int),.int .i64 0],Hh rfl _ _ rfl rfl (Zj (QN hb.o o6 (by omega))) (JJ (QN h7.o o6 (by omega))),?_,?_⟩
  ·rw[HV.o.1,HV.o.2]
  ·exact (o0.trans HI.o (λj _ e=>by omega)).trans o6 (λj _ e=>by omega)
end
end Go.Proofs.YtiochaeeoelmjaaGreatDoor
