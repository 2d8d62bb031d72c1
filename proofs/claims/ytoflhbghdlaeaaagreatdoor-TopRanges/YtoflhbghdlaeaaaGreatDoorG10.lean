import Derived.Test.YtoflhbghdlaeaaaGreatDoorG7
import Derived.Deep.Matrix
namespace Go.Proofs.YtoflhbghdlaeaaaGreatDoor
set_option maxHeartbeats 800000
set_option maxRecDepth 100000
open Go.RowKit _root_.Go.Proofs.Tryz
variable {w w' W:World} {v:Value} {ys xs l:LI} {R n p k g B:Nat} {P:Program} {ls:List (LI)} {E:TypeId}
def RL (w:World) (v:Value) (ls:List (LI)):Prop :=
 ∃ao cap,v=.slice ao ls.length cap∧ls.length<=cap∧(ls≠[]->∃b off,ao=some ⟨b,off,none⟩∧∀j,j<ls.length->∃u,w.cell? ⟨b,off+j,none⟩=some u∧Bs .u8 w u (ls.getD j [])∧NoCap u)
theorem RL.len (h:RL w v ls):∃ao cap,v=.slice ao ls.length cap∧ls.length<=cap:=by
 obtain⟨ao,cap,rfl,hc,_⟩:=h;exact⟨ao,cap,rfl,hc⟩
theorem RL.form (h:RL w v ls) {n:Nat} (hn:ls.length=n) (h0:0<n):∃b off cap,v=.slice (some ⟨b,off,none⟩) n cap∧n<=cap:=by
 obtain⟨ao,cap,rfl,hc,hr⟩:=h;obtain⟨b,off,rfl,_⟩:=hr (by intro e;subst e;simp at hn;omega);exact⟨b,off,cap,by rw[hn],by omega⟩
theorem RL.nil (w:World):RL w (.slice none 0 0) []:=⟨none,0,rfl,Nat.le_refl _,λh=>absurd rfl h⟩
theorem RL.at {b off m cap:Nat} (h:RL w (.slice (some ⟨b,off,none⟩) m cap) ls) (j:Nat) (hj:j<ls.length) :
 ∃u,w.cell? ⟨b,off+j,none⟩=some u∧Bs .u8 w u (ls.getD j [])∧NoCap u:=by
 obtain⟨ao1,cap1,e,_,hr⟩:=h;simp at e;obtain⟨rfl,_,_⟩:=e;obtain⟨b',off',e',hc⟩:=hr (by intro h0;subst h0;simp at hj);simp at e';obtain⟨rfl,rfl⟩:=e';exact hc j hj
theorem RL.past (h:RL w v ls) (o:N0 w w'):RL w' v ls:=by
 obtain⟨ao,cap,rfl,hc,hr⟩:=h;refine⟨ao,cap,rfl,hc,λhx=>?_⟩;obtain⟨b,off,rfl,h0⟩:=hr hx;refine⟨b,off,rfl,λj hj=>?_⟩;obtain⟨u,h1,h2,h3⟩:=h0 j hj;exact⟨u,Qv h1 o,h2.past o,h3⟩
theorem RL.length {ao:Option Addr} {m cap:Nat} (h:RL w (.slice ao m cap) ls):m=ls.length:=by
 obtain⟨ao',cap',e,_⟩:=h;simp at e;exact e.2.1
theorem RL.room {ao:Option Addr} {m cap:Nat} (h:RL w (.slice ao m cap) ls):m<=cap:=by
 obtain⟨ao',cap',e,hc,_⟩:=h;simp at e;obtain⟨rfl,rfl,rfl⟩:=e;exact hc
theorem RL.part {b off m cap:Nat} (h:RL w (.slice (some ⟨b,off,none⟩) m cap) ls) (lo hi:Nat) (h1:lo<=hi) (h2:hi<=m) :
 RL w (.slice (some ⟨b,off+lo,none⟩) (hi - lo) (cap - lo)) ((ls.drop lo).take (hi - lo)):=by
 have hm:=h.length;have hr:=h.room
 have hl:((ls.drop lo).take (hi - lo)).length=hi - lo:=by rw[Qf,Qo];omega
 refine⟨_,_,by rw[hl],by omega,λ_=>⟨b,off+lo,rfl,λj hj=>?_⟩⟩;rw[hl] at hj;obtain⟨u,c1,c2,c3⟩:=h.at (lo+j) (by omega);refine⟨u,by rw[Nat.add_assoc];exact c1,?_,c3⟩
 have e:((ls.drop lo).take (hi - lo)).getD j []=ls.getD (lo+j) []:=by
  rw[Qd,Qd,List.getElem?_take,if_pos hj,List.getElem?_drop]
 rw[e];exact c2
theorem RL.head {b off m cap:Nat} (h:RL w (.slice (some ⟨b,off,none⟩) m cap) ls) (n:Nat) (hn:n<=m):RL w (.slice (some ⟨b,off,none⟩) n cap) (ls.take n):=by
 have:=h.part 0 n (Nat.zero_le _) hn
 simpa using this
theorem RL.tail {b off m cap:Nat} (h:RL w (.slice (some ⟨b,off,none⟩) m cap) ls) (n:Nat) (hn:n<=m):RL w (.slice (some ⟨b,off+n,none⟩) (m - n) (cap - n)) (ls.drop n):=by
 have hm:=h.length;have:=h.part n m hn (Nat.le_refl _);rw[List.take_of_length_le (by rw[Qo];omega)] at this;exact this
def R8 (ls:List (LI)):Prop:=∀l∈ls,U8 l∧l.length<=1000000000
theorem R8.take (h:R8 ls) (n:Nat):R8 (ls.take n):=λl hl=>h l (List.mem_of_mem_take hl)
theorem R8.drop (h:R8 ls) (n:Nat):R8 (ls.drop n):=λl hl=>h l (List.mem_of_mem_drop hl)
theorem R8.at (h:R8 ls) (j:Nat):U8 (ls.getD j [])∧(ls.getD j []).length<=1000000000:=by
 rw[Qd]
 cases hj:ls[j]? with
 | none=>exact⟨λy hy=>by simp at hy,by simp⟩
 | some l=>exact h l (List.mem_of_getElem? hj)
theorem RL.of_own {lo:Nat} {vs:List Value} (h:w.ownsRow lo 23 1 v ls.length vs) (hv:∀j u,vs[j]? = some u->Bs .u8 w u (ls.getD j [])∧NoCap u):RL w v ls:=by
 rcases h.2 with ⟨rfl,h0⟩ | ⟨g,cap,cur,rfl,_,_,hc,_⟩
 ·have:ls=[]:=List.eq_nil_of_length_eq_zero h0
  subst this;exact RL.nil w
 ·refine⟨_,cap,rfl,hc,λ_=>⟨g,0,rfl,λj hj=>?_⟩⟩
  have hl:=h.1
  have h1:j<vs.length:=by omega
  refine⟨vs[j],?_,hv j _ (Qg h1)⟩;rw[Nat.zero_add,h.cellAt j (by omega),Qg h1]
def LEAF (b:LI):LI:=QH (0 :: b)
def NODE (l r:LI):LI:=QH (1 :: (l++r))
theorem Ky (b:LI):(LEAF b).length=32:=YN _
theorem Zb (l r:LI):(NODE l r).length=32:=YN _
def HALF (n:Nat):Nat:=2^Nat.log2 (n - 1)
theorem Y8 (n:Nat):1<=HALF n:=Nat.two_pow_pos _
theorem YK (h:2<=n):HALF n<n:=by
 have:=Nat.log2_self_le (n:=n - 1) (by omega);unfold HALF;omega
theorem Ht (h:2<=n):n<=2*HALF n:=by
 have:=Nat.lt_log2_self (n:=n - 1);rw[Nat.pow_succ] at this;unfold HALF;omega
def TOPF:Nat->List (LI)->LI
 | 0,l=>l.headD []
 | f+1,l=>if l.length=0 then QH [] else if l.length=1 then l.headD [] else NODE (TOPF f (l.take (HALF l.length))) (TOPF f (l.drop (HALF l.length)))
def QB (l:List (LI)):LI:=TOPF (l.length+1) l
theorem V6:∀(f g:Nat) (l:List (LI)),l.length<f->l.length<g->TOPF f l=TOPF g l
 | 0,_,_,h,_=>by omega
 | _,0,_,_,h=>by omega
 | f+1,g+1,l,hf,hg=>by
  unfold TOPF
  by_cases h0:l.length=0
  ·rw[if_pos h0,if_pos h0]
  ·rw[if_neg h0,if_neg h0]
   by_cases h1:l.length=1
   ·rw[if_pos h1,if_pos h1]
   ·rw[if_neg h1,if_neg h1]
    have a:=YK (n:=l.length) (by omega);have b:=Y8 l.length;rw[V6 f g _ (by rw[Qf];omega) (by rw[Qf];omega),V6 f g _ (by rw[Qo];omega) (by rw[Qo];omega)]
theorem IW:QB []=QH []:=rfl
theorem V4 {l:List (LI)} (h:l.length=1):QB l=l.headD []:=by
 unfold QB TOPF;rw[if_neg (by omega),if_pos h]
theorem JD {l:List (LI)} (h:2<=l.length):QB l=NODE (QB (l.take (HALF l.length))) (QB (l.drop (HALF l.length))):=by
 have a:=YK h;have b:=Y8 l.length
 show TOPF (l.length+1) l=_
 rw[TOPF,if_neg (by omega),if_neg (by omega)]
 congr 1
 ·exact V6 _ _ _ (by rw[Qf];omega) (by omega)
 ·exact V6 _ _ _ (by rw[Qo];omega) (by omega)
theorem NF {l:List (LI)} (h:2<=l.length):(QB l).length=32:=by rw[JD h];exact Zb _ _
def Qx (l:List (LI)) (lo hi:Nat):List (LI):=(l.drop lo).take (hi - lo)
theorem Ko (l:List (LI)) (lo hi:Nat) (h:hi<=l.length):(Qx l lo hi).length=hi - lo:=by
 unfold Qx;rw[Qf,Qo];omega
theorem Co (l:List (LI)):Qx l 0 l.length=l:=by
 unfold Qx;rw[List.drop_zero,Nat.sub_zero,List.take_length]
theorem ye (l:List (LI)) (lo:Nat):(Qx l lo (lo+1)).headD []=l.getD lo []:=by
 unfold Qx;rw[Nat.add_sub_cancel_left,List.headD_eq_head?_getD,List.head?_take,if_neg (by decide),List.head?_drop,Qd]
theorem Ih (l:List (LI)) (lo k hi:Nat) (h:lo+k<=hi):(Qx l lo hi).take k=Qx l lo (lo+k):=by
 unfold Qx;rw[List.take_take];congr 1;omega
theorem EC (l:List (LI)) (lo k hi:Nat):(Qx l lo hi).drop k=Qx l (lo+k) hi:=by
 unfold Qx;rw[List.drop_take,List.drop_drop];congr 1;omega
theorem PA {l:List (LI)} {lo hi:Nat} (h:2<=hi - lo) (hh:hi<=l.length):QB (Qx l lo hi)=NODE (QB (Qx l lo (lo+HALF (hi - lo)))) (QB (Qx l (lo+HALF (hi - lo)) hi)):=by
 have hl:=Ko l lo hi hh;have:=YK h;rw[JD (by rw[hl];exact h),hl,Ih _ _ _ _ (by omega),EC]
def QG:Nat->List (LI)->Nat->Nat->Nat->Nat->List (LI)
 | 0,_,_,_,_,_=>[]
 | f+1,l,lo,hi,i,j=>if i<=lo∧hi<=j+1 then [] else if j<lo∨hi<=i then [QB (Qx l lo hi)] else QG f l lo (lo+HALF (hi - lo)) i j++QG f l (lo+HALF (hi - lo)) hi i j
def WALKL (l:List (LI)) (i j:Nat):List (LI):=QG (l.length+1) l 0 l.length i j
def Ql:Nat->Nat->Nat->Nat->Nat->Nat
 | 0,_,_,_,_=>0
 | f+1,lo,hi,i,j=>if i<=lo∧hi<=j+1 then 0 else if j<lo∨hi<=i then 1 else Ql f lo (lo+HALF (hi - lo)) i j+Ql f (lo+HALF (hi - lo)) hi i j
theorem Hy (f lo hi i j:Nat):Ql (f+1) lo hi i j=if i<=lo∧hi<=j+1 then 0 else if j<lo∨hi<=i then 1 else Ql f lo (lo+HALF (hi - lo)) i j+Ql f (lo+HALF (hi - lo)) hi i j:=rfl
def MANY (n i j:Nat):Nat:=Ql (n+1) 0 n i j
theorem Kb {lo hi i j:Nat} (h:lo<hi) (h1:¬(i<=lo∧hi<=j+1)) (h2:¬(j<lo∨hi<=i)):2<=hi - lo:=by omega
theorem VA:∀(f:Nat) (l:List (LI)) (lo hi i j:Nat),(QG f l lo hi i j).length=Ql f lo hi i j
 | 0,_,_,_,_,_=>rfl
 | f+1,l,lo,hi,i,j=>by
  unfold QG Ql
  split
  ·rfl
  ·split
   ·rfl
   ·rw[Qc,VA f,VA f]
theorem Ng (l:List (LI)) (i j:Nat):(WALKL l i j).length=MANY l.length i j:=VA _ _ _ _ _ _
def Qw:Nat->Nat->Nat->Nat->List (LI)->List (LI)->LI × List (LI)
 | 0,_,_,_,_,p=>([],p)
 | f+1,lo,hi,i,x,p=>if i+x.length<=lo∨hi<=i then (p.headD [],p.tail) else if hi - lo=1 then (x.getD (lo - i) [],p) else
  (NODE (Qw f lo (lo+HALF (hi - lo)) i x p).1 (Qw f (lo+HALF (hi - lo)) hi i x (Qw f lo (lo+HALF (hi - lo)) i x p).2).1,(Qw f (lo+HALF (hi - lo)) hi i x (Qw f lo (lo+HALF (hi - lo)) i x p).2).2)
def MADE (n i:Nat) (x p:List (LI)):LI:=(Qw (n+1) 0 n i x p).1
theorem Xc:∀(f:Nat) (l:List (LI)) (lo hi i:Nat) (x p:List (LI)),lo<hi->hi - lo<f->hi<=l.length->i<=lo->hi<=i+x.length->(∀t,i<=t->t<i+x.length->x.getD (t - i) []=l.getD t [])->Qw f lo hi i x p=(QB (Qx l lo hi),p)
 | 0,_,_,_,_,_,_,_,h,_,_,_,_=>by omega
 | f+1,l,lo,hi,i,x,p,hlt,hf,hh,h1,h2,hx=>by
  unfold Qw;rw[if_neg (by omega)]
  by_cases h3:hi - lo=1
  ·rw[if_pos h3]
   have e:hi=lo+1:=by omega
   subst e;rw[V4 (by rw[Ko _ _ _ hh];omega),ye,hx lo h1 (by omega)]
  ·rw[if_neg h3]
   have a:=YK (n:=hi - lo) (by omega);have b:=Y8 (hi - lo);rw[Xc f l lo (lo+HALF (hi - lo)) i x p (by omega) (by omega) (by omega) h1 (by omega) hx];simp only;rw[Xc f l (lo+HALF (hi - lo)) hi i x p (by omega) (by omega) hh (by omega) h2 hx,PA (lo:=lo) (hi:=hi) (by omega) hh]
theorem Ja:∀(f g:Nat) (l:List (LI)) (lo hi i:Nat) (x r:List (LI)),lo<hi->hi - lo<f->hi - lo<g->hi<=l.length->0<x.length->(∀t,i<=t->t<i+x.length->x.getD (t - i) []=l.getD t [])->Qw f lo hi i x (QG g l lo hi i (i+x.length - 1)++r)=(QB (Qx l lo hi),r)
 | 0,_,_,_,_,_,_,_,_,h,_,_,_,_=>by omega
 | _,0,_,_,_,_,_,_,_,_,h,_,_,_=>by omega
 | f+1,g+1,l,lo,hi,i,x,r,hlt,hf,hg,hh,h0,hx=>by
  by_cases h1:i<=lo∧hi<=(i+x.length - 1)+1
  ·rw[QG,if_pos h1,List.nil_append]
   exact Xc (f+1) l lo hi i x r hlt hf hh h1.1 (by omega) hx
  ·rw[QG,if_neg h1]
   by_cases h2:i+x.length - 1<lo∨hi<=i
   ·rw[if_pos h2,Qw,if_pos (by omega)];rfl
   ·rw[if_neg h2,Qw,if_neg (by omega)]
    have h3:=Kb hlt h1 h2;have a:=YK h3;have b:=Y8 (hi - lo);rw[if_neg (by omega),List.append_assoc,Ja f g l lo (lo+HALF (hi - lo)) i x _ (by omega) (by omega) (by omega) (by omega) h0 hx];simp only;rw[Ja f g l (lo+HALF (hi - lo)) hi i x r (by omega) (by omega) (by omega) hh h0 hx,PA (lo:=lo) (hi:=hi) h3 hh]
theorem Sw (l:List (LI)) (i j:Nat) (hi:i<=j) (hj:j<l.length):MADE l.length i (Qx l i (j+1)) (WALKL l i j)=QB l:=by
 have hl:(Qx l i (j+1)).length=j+1 - i:=Ko l i (j+1) (by omega)
 have h:=Ja (l.length+1) (l.length+1) l 0 l.length i (Qx l i (j+1)) [] (by omega) (by omega) (by omega) (Nat.le_refl _) (by omega) (λt h1 h2=>by
  rw[hl] at h2;unfold Qx;rw[Qd,Qd,List.getElem?_take,if_pos (by omega),List.getElem?_drop]
  congr 2;omega)
 rw[hl,show i+(j+1 - i) - 1=j by omega,List.append_nil,Co] at h;unfold MADE WALKL;rw[h]
def UR:Nat->Nat->Nat->Nat->List (LI)->List (LI)->List (LI)->List (LI)->Nat->Option (LI × LI) × LI × LI × Nat
 | 0,_,_,_,_,_,_,_,at'=>(none,[],[],at')
 | f+1,lo,hi,i,x,y,p,q,at'=>if i+x.length<=lo∨hi<=i then (none,p.getD at' [],q.getD at' [],at'+1) else if hi - lo=1 then (none,x.getD (lo - i) [],y.getD (lo - i) [],at') else
  let L:=UR f lo (lo+HALF (hi - lo)) i x y p q at'
  let R:=UR f (lo+HALF (hi - lo)) hi i x y p q L.2.2.2
  (match L.1 with
   | some c=>some c
   | none=>match R.1 with
    | some c=>some c
    | none=>if NODE L.2.1 R.2.1=NODE L.2.2.1 R.2.2.1∧(1:Int) :: (L.2.1++R.2.1)≠1 :: (L.2.2.1++R.2.2.1) then some (1 :: (L.2.1++R.2.1),1 :: (L.2.2.1++R.2.2.1)) else none,
  NODE L.2.1 R.2.1,NODE L.2.2.1 R.2.2.1,R.2.2.2)
theorem J6:∀(f lo hi i:Nat) (x y p q:List (LI)) (k:Nat),x.length=y.length->(UR f lo hi i x y p q k).2.1=(Qw f lo hi i x (p.drop k)).1∧(UR f lo hi i x y p q k).2.2.1=(Qw f lo hi i y (q.drop k)).1∧p.drop (UR f lo hi i x y p q k).2.2.2=(Qw f lo hi i x (p.drop k)).2∧q.drop (UR f lo hi i x y p q k).2.2.2=(Qw f lo hi i y (q.drop k)).2
 | 0,_,_,_,_,_,_,_,_,_=>⟨rfl,rfl,rfl,rfl⟩
 | f+1,lo,hi,i,x,y,p,q,k,hl=>by
  unfold UR Qw;rw[<-hl]
  by_cases h1:i+x.length<=lo∨hi<=i
  ·simp only[if_pos h1]
   refine⟨?_,?_,?_,?_⟩
   ·rw[List.headD_eq_head?_getD,List.head?_drop,Qd]
   ·rw[List.headD_eq_head?_getD,List.head?_drop,Qd]
   ·rw[List.tail_drop]
   ·rw[List.tail_drop]
  ·simp only[if_neg h1]
   by_cases h2:hi - lo=1
   ·simp only[if_pos h2,and_self]
   ·simp only[if_neg h2]
    obtain⟨a1,a2,a3,a4⟩:=J6 f lo (lo+HALF (hi - lo)) i x y p q k hl;obtain⟨b1,b2,b3,b4⟩:=J6 f (lo+HALF (hi - lo)) hi i x y p q (UR f lo (lo+HALF (hi - lo)) i x y p q k).2.2.2 hl;rw[a3] at b1 b3;rw[a4] at b2 b4;exact⟨by rw[a1,b1],by rw[a2,b2],b3,b4⟩
theorem JC:∀(f lo hi i:Nat) (x y p q:List (LI)) (k:Nat),0<x.length->lo<hi->hi - lo<f->(UR f lo hi i x y p q k).2.2.2=k+Ql f lo hi i (i+x.length - 1)
 | 0,_,_,_,_,_,_,_,_,_,_,h=>by omega
 | f+1,lo,hi,i,x,y,p,q,k,h0,hlt,hf=>by
  unfold UR
  by_cases h1:i+x.length<=lo∨hi<=i
  ·rw[if_pos h1,Ql,if_neg (by omega),if_pos (by omega)]
  ·rw[if_neg h1]
   by_cases h2:hi - lo=1
   ·rw[if_pos h2,Ql,if_pos (by omega)];rfl
   ·rw[if_neg h2]
    simp only;have a:=YK (n:=hi - lo) (by omega);have b:=Y8 (hi - lo);rw[JC f (lo+HALF (hi - lo)) hi i x y p q _ h0 (by omega) (by omega),JC f lo (lo+HALF (hi - lo)) i x y p q k h0 (by omega) (by omega)];rw[Hy f lo hi]
    by_cases h3:i<=lo∧hi<=i+x.length - 1+1
    ·rw[if_pos h3]
     have e1:Ql f lo (lo+HALF (hi - lo)) i (i+x.length - 1)=0:=by
      cases f with
      | zero=>omega
      | succ f=>rw[Ql,if_pos (by omega)]
     have e2:Ql f (lo+HALF (hi - lo)) hi i (i+x.length - 1)=0:=by
      cases f with
      | zero=>omega
      | succ f=>rw[Ql,if_pos (by omega)]
     rw[e1,e2]
    ·rw[if_neg h3,if_neg (by omega)];omega
theorem TU (m:Int) (hm:0<=m∧m<=255) (p n:Nat) (ls:Nat->LI) (w:World) (hp:Ps w p n ls) (hl:(pcat ls n).length<=10000000000) (hn:n<=1000) :
 Calls prog 35 #[.int .u8 m,.slice (some ⟨p,0,none⟩) n n] w λe w'=>∃v,e=.returned v∧w'.ownsRow w.heap.size 5 1 v 32 ((QH (m :: pcat ls n)).map (Value.int .u8))∧N0 w w':=by
 have h7:=(zero_of_info (P:=prog) Tryz.zero33).1;obtain⟨Z,hZ⟩:=EX zH;rw[<-hZ] at h7;obtain⟨W1,h2⟩:=EX ((w.alloc (.cells Z.toArray 119)).alloc (.cells #[.int .u8 m] 5))
 have hf:Blk W1 w.heap.size 119 zH:=by
  have:=(Blk.new w 119 Z).alloc (.cells #[.int .u8 m] 5);rw[h2,<-hZ];exact this
 have h9:Blk W1 (w.heap.size+1) 5 (bl [m]):=by
  have:=Blk.new (w.alloc (.cells Z.toArray 119)) 5 (bl [m]);rw[size_alloc] at this;rw[h2];exact this
 have h5:N0 w W1:=by rw[h2];exact ((Only.refl _ _).alloc _).alloc _
 have WC:=Qa (KF w.heap.size [] [m] (.slice (some ⟨w.heap.size+1,0,none⟩) 1 1) W1 (Hs.zero hf) (h9.bs 1 rfl) (λy hy=>by simp at hy;subst hy;exact hm) (λ_ k hk e=>by simp[Value.ownBlock] at hk;omega) (by simp));rw[show (([m]:LI).length:Int)=1 from rfl] at WC;have ha:=Qa h5;have hb:=Qa h2;have HP:=Qa hp;obtain⟨G,hG⟩:=EX w.heap.size;have HG:=Qa hG;clear hZ h2 h9 hf h5 hp hm hG;go_enter func35,ntmps35;go_wp2_with fail;rw[<-hb.o];refine WC.o.mono ?_;rintro e w3 ⟨rfl,h3,h6⟩;rw[List.nil_append] at h3
 have S0:Hid (Hs w3 G (m :: pcat ls 0)):=by
  show _
  rw[HG.o];exact .inl h3
 have O0:=Qa (ha.o.trans h6 (λi hi e=>by omega));rw[<-HG.o];clear h3 h6 WC hb ha h7;go_wp2
 go_loopw [13] (λi wr=>∃j:Nat,j<=n∧i=.int .i64 j∧Hid (Hs wr G (m :: pcat ls j))∧Hid (N0 w wr)) (λi _=>n - (intOf i).toNat)
 case atStart=>exact⟨0,by omega,rfl,S0,O0⟩
 case round =>
  obtain⟨j,hj,rfl,hS,hO⟩:=hrel;clear S0 O0
  by_cases hlt:j<n
  ·obtain⟨u,hu,h4,hd⟩:=HP.o j hlt
   have hc:wr.cell? ⟨p,j,none⟩=some u:=Qv hu hO.o;have he:=GH ls (j+1) n (by omega);have A:=Qa (KF G (m :: pcat ls j) (ls j) u wr hS.o (h4.past hO.o) hd (λhx k hk e=>by have:=h4.blk_lt hx k hk;have:=HG.o;omega) (by rw[pcat,Qc] at he;rw[Qi];omega));have dlt:decide ((j:Int)<(n:Int))=true:=Qe (by omega);have dlt':decide (j<n)=true:=Qe hlt
   have i0:(0:Int)<=(j:Int):=by omega
   have i1:(j:Int)<(n:Int):=by omega
   clear hu h4 hd hS he;go_wp2_with fail;refine A.o.mono ?_;rintro e w4 ⟨rfl,h8,h1⟩
   have N1:Hid (Hs w4 G (m :: pcat ls (j+1))):=by
    show _
    rw[pcat];exact .inl h8
   have N2:=Qa (hO.o.trans h1 (λi hi e=>by have:=HG.o;omega));clear h8 h1 A hO hc;go_wp2
   go_roundw
   case rel=>exact⟨j+1,by omega,by go_num,N1,N2⟩
   case measure=>simp[intOf];omega
  ·obtain rfl:j=n:=by omega
   have A:=Qa (JF G (m :: pcat ls j) wr hS.o (by rw[Qi];omega));have dlt:decide ((j:Int)<(j:Int))=false:=Qb (by omega);clear hS;go_wp2_with fail;refine A.o.mono ?_;rintro e w4 ⟨v4,rfl,h0,h1⟩;have F1:=Qa (Qu h0 hO.o.size);have F2:=Qa (hO.o.same h1);obtain⟨ao4,cap4,e4⟩:=Qm h0;subst e4;clear h0 h1 A;go_wp2;go_ret;exact⟨_,rfl,F1.o,F2.o⟩
theorem Zm (v:Value) (xs:LI) (w:World) (hb:Bs .u8 w v xs) (h8:U8 xs) (hl:xs.length<=10000000000) :
 Calls prog 11 #[v] w λe w'=>∃v',e=.returned v'∧w'.ownsRow w.heap.size 5 1 v' 32 (bl (LEAF xs))∧N0 w w':=by
 have A:=Qa (TU 0 (by decide) w.heap.size 1 (λ_=>xs) (w.alloc (.cells #[v] 23)) (Ps.one hb h8) (by rw[KH];exact hl) (by decide));rw[KH] at A;have HO:=Qa (((Only.refl (λ_=>False) w)).alloc (.cells #[v] 23));obtain⟨ao,cap,rfl⟩:=hb.len;obtain⟨n,hn⟩:=EX xs.length;rw[<-hn] at A HO ⊢;clear hb h8 hl hn;go_enter func11,ntmps11;go_wp2_with fail;refine A.o.mono ?_;rintro e w4 ⟨v4,rfl,h0,h1⟩;have F1:=Qa (Qu h0 HO.o.size);have F2:=Qa (HO.o.same h1);obtain⟨ao4,cap4,e4⟩:=Qm h0;subst e4;clear h0 h1 A;go_wp2;go_ret;exact⟨_,rfl,F1.o,F2.o⟩
theorem XK (vl vr:Value) (l r:LI) (w:World) (hb:Bs .u8 w vl l) (hr:Bs .u8 w vr r) (h8:U8 l) (r8:U8 r) (hl:l.length<=1000000000) (hl':r.length<=1000000000) :
 Calls prog 72 #[vl,vr] w λe w'=>∃v',e=.returned v'∧w'.ownsRow w.heap.size 5 1 v' 32 (bl (NODE l r))∧N0 w w':=by
 have A:=Qa (TU 1 (by decide) w.heap.size 2 (ptwo l r) (w.alloc (.cells #[vl,vr] 23)) (Ps.two hb hr h8 r8) (by rw[Tz,Qc];omega) (by decide));rw[Tz] at A;have HO:=Qa (((Only.refl (λ_=>False) w)).alloc (.cells #[vl,vr] 23));obtain⟨ao,cap,rfl⟩:=hb.len;obtain⟨ao',cap',rfl⟩:=hr.len;obtain⟨n,hn⟩:=EX l.length;obtain⟨n',h2⟩:=EX r.length;rw[<-hn,<-h2] at A HO ⊢;clear hb h8 hl hn hr r8 hl' h2;go_enter func72,ntmps72;go_wp2_with fail;refine A.o.mono ?_;rintro e w4 ⟨v4,rfl,h0,h1⟩;have F1:=Qa (Qu h0 HO.o.size);have F2:=Qa (HO.o.same h1);obtain⟨ao4,cap4,e4⟩:=Qm h0;subst e4;clear h0 h1 A;go_wp2;go_ret;exact⟨_,rfl,F1.o,F2.o⟩
theorem DP (v:Int) (w:World) (h0:0<=v) (h1:v<=18446744073709551615) :
 Calls prog 107 #[.int .u64 v] w λe w'=>e=.returned (.int .i64 (wid v.toNat))∧w=w':=by
 have A:=Qa (Hx v w h0 h1);obtain⟨z,hz⟩:∃z:Int,z=(wid v.toNat:Int):=⟨_,rfl⟩;rw[<-hz] at A ⊢;clear hz;go_enter func107,ntmps107;go_wp2_with fail;refine A.o.mono ?_;rintro e w1 ⟨rfl,rfl⟩;go_wp2;go_ret;exact⟨rfl,rfl⟩
theorem Dg (h:2<=n):HALF n=2^(wid (n - 1) - 1):=by
 unfold HALF wid;rw[if_neg (by omega),Nat.add_sub_cancel]
theorem WE (n:Nat) (h:2<=n) (hn:n<=1000000000000) (w:World) :
 Calls prog 71 #[.int .i64 n] w λe w'=>e=.returned (.int .i64 (HALF n))∧w=w':=by
 obtain⟨d,hd⟩:=EX (wid (n - 1) - 1)
 have h2:wid (n - 1)=d+1:=by
  have:wid (n - 1)≠0:=by unfold wid;rw[if_neg (by omega)];omega
  omega
 have h0:d<=40:=by
  have:=(Yd (n - 1) 40).2 (by omega);omega
 have hH:=Dg h;rw[<-hd] at hH;have A:=Qa (DP (n - 1:Int) w (by omega) (by omega));rw[show ((n:Int) - 1).toNat=n - 1 by omega,h2] at A;have HH:=Qa hH
 have e1:(((d+1:Nat)):Int) - 1=(d:Int):=by omega
 clear hd h2 hH;go_enter func71,ntmps71;go_wp2_with fail;refine A.o.mono ?_;rintro e w1 ⟨rfl,rfl⟩;go_wp2;go_ret;refine⟨YP ?_,rfl⟩;have hp:(2:Nat)^d<=2^40:=Nat.pow_le_pow_right (by omega) h0
 have h1:(2:Nat)^40=1099511627776:=by decide
 have e2:(2:Int)^d=((2^d:Nat):Int):=(Int.natCast_pow 2 d).symm;rw[HH.o,e2];rw[h1] at hp;clear e2 h1;generalize (2:Nat)^d=z at hp ⊢;exact IntWalk.wrap64_in _ (by omega)
end Go.Proofs.YtoflhbghdlaeaaaGreatDoor
