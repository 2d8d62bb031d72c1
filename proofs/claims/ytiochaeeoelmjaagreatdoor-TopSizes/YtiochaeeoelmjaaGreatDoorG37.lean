import Derived.Test.YtiochaeeoelmjaaGreatDoorG18
import Derived.Test.YtiochaeeoelmjaaGreatDoorG25
import Derived.WalkLawsBesides
import Derived.Test.YtiochaeeoelmjaaGreatDoorG27
import Derived.Test.YtiochaeeoelmjaaGreatDoorG28
import Derived.Laws.CopyOwn
import Derived.Test.YtiochaeeoelmjaaGreatDoorG26
import Derived.Test.YtiochaeeoelmjaaGreatDoorG3
import Derived.Test.YtiochaeeoelmjaaGreatDoorG1
import Derived.Test.YtiochaeeoelmjaaGreatDoorG29
import Derived.Test.YtiochaeeoelmjaaGreatDoorG30
import Derived.Deep.DrawnRows
import Derived.Test.YtiochaeeoelmjaaGreatDoorG32
import Derived.Test.YtiochaeeoelmjaaGreatDoorG34
import Derived.Test.YtiochaeeoelmjaaGreatDoorG33
import Derived.Test.YtiochaeeoelmjaaGreatDoorG14
import Derived.Test.YtiochaeeoelmjaaGreatDoorG35
import Derived.Test.YtiochaeeoelmjaaGreatDoorG13
import Derived.Test.YtiochaeeoelmjaaGreatDoorG36
namespace Go.Proofs.YtiochaeeoelmjaaGreatDoor
set_option maxHeartbeats 4000000
set_option maxRecDepth 100000
open Go.RowKit _root_.Go.Proofs.Tryz
def part (a q:Nat) (l:List Bool) (n k:Nat):LI:=nums a q l k++List.replicate (n - k) 0
section
open Go.Maps
def RB (many n:Nat) (rest:LI):LI × Int :=
 if rest.length<8*many then ([],2) else
 if (Vr (rest.drop (8*many))).length<n*wP many then ([],2) else
 if ∃p∈rdP (wP many) n (Vr (rest.drop (8*many))),many<=p then ([],3) else
 ((rdP (wP many) n (Vr (rest.drop (8*many)))).map (λp=>(rd8 many rest).getD p 0),0)
end
def Y4 (s:List (ByteArray × Value)):List Value:=s.flatMap λp=>[.string p.1,p.2]
abbrev KZ:ByteArray × Value:=(⟨#[]⟩,.slice none 0 0)
theorem Xx (p:ByteArray × Value) (s:List (ByteArray × Value)):Y4 (p :: s)=.string p.1 :: p.2 :: Y4 s:=rfl
theorem Sp (s:List (ByteArray × Value)):(Y4 s).length=s.length*2:=by
 induction s with
 | nil=>rfl
 | cons p s ih=>rw[Xx];simp only[Ql,ih];omega
theorem An (s:List (ByteArray × Value)):∀(j:Nat),j<s.length->(Y4 s)[j*2]? = some (.string (s.getD j KZ).1)∧(Y4 s)[j*2+1]? = some (s.getD j KZ).2:=by
 induction s with
 | nil=>intro j hj;simp at hj
 | cons p s ih =>
  intro j hj
  cases j with
  | zero=>rw[Xx];exact⟨rfl,rfl⟩
  | succ j =>
   have hj':j<s.length:=by simpa using hj
   obtain⟨h0,h1⟩:=ih j hj';rw[Xx,show (j+1)*2=j*2+1+1 by omega];simp only[List.getElem?_cons_succ,List.getD_cons_succ];exact⟨h0,h1⟩
abbrev NMS:List (LI):=[[97,110,116],[98,101,101],[99,97,116]]
def SOK (i:Nat) (s:List (Int × Int)):Prop:=∀k,k<s.length->(s.getD k (0,0)).1=1000*(i:Int)+10*(k:Int)∧0<=(s.getD k (0,0)).2∧(s.getD k (0,0)).2<=15
structure COK (r i m:Nat) (c:Qi):Prop where
 t:c.1=NMS.getD ((i+r) % 3) []
 l:c.2.length=m
 s:SOK i c.2
theorem SOK.snoc {i:Nat} {s:List (Int × Int)} (h:SOK i s) {k:Nat} (hk:s.length=k) {a b:Int} (ha:a=1000*(i:Int)+10*(k:Int)) (hb:0<=b∧b<=15):SOK i (s++[(a,b)]):=λj hj=>by
 rw[Qb,List.length_singleton] at hj;rw[Qc]
 rcases Nat.lt_or_ge j s.length with h1 | h1
 ·rw[List.getElem?_append_left h1,<-Qc];exact h j h1
 ·obtain rfl:j=s.length:=by omega
  rw[List.getElem?_append_right (Nat.le_refl _),Nat.sub_self];subst hk;exact⟨ha,hb⟩
theorem Ak (s:List (Int × Int)) (a b:Int):YH (s++[(a,b)])=YH s++[.int .i64 a,.int .u64 b]:=by simp[YH]
theorem Cw (s:List (ByteArray × Value)) (a:ByteArray) (b:Value):Y4 (s++[(a,b)])=Y4 s++[.string a,b]:=by simp[Y4]
theorem Ld {w:World} {lo b n m:Nat} {E F:TypeId} {u v:Value} {xs ys:List Value} (h:w.ownsRow lo E 2 u n xs) (g:w.ownsRow b F 2 v m ys) (hne:E≠F) (k:Nat) (hk:u.ownBlock=some k):¬v.ownBlock=some k:=λe=>by
 rcases h.2 with ⟨rfl,_⟩ | ⟨p,_,_,rfl,_,hp,_⟩
 ·cases hk
 ·rcases g.2 with ⟨rfl,_⟩ | ⟨q,_,_,rfl,_,hq,_⟩
  ·cases e
  ·cases hk;cases e
   rw[hp] at hq
   cases hq
   exact hne rfl
def CI (W0 wr:World) (B i k:Nat) (t:ByteArray):Prop:=∃(v:Value) (s:List (Int × Int)),s.length=k∧SOK i s∧wr.heap[B]? = some (.cells #[.string t,v] 46 (0,0))∧wr.ownsRow (B+1) 60 2 v k (YH s)∧Only (λj=>j=B) W0 wr
def CQ (w wr:World) (r m i:Nat) (o:Value) (cs:List Qi) (ps:List (ByteArray × Value)):Prop:=cs.length=i∧ps.length=i∧(∀j,j<i->COK r j m (cs.getD j Qg)) ∧
 (∀j p,ps[j]? = some p->p.1=strOfNums (cs.getD j Qg).1∧wr.ownsRow (w.heap.size+1) 60 2 p.2 (cs.getD j Qg).2.length (YH (cs.getD j Qg).2)) ∧
 wr.ownsRow (w.heap.size+1) 46 2 o i (Y4 ps)∧N0 w wr∧wr.heap[w.heap.size]? = some (.cells #[.string (strOfNums [97,110,116]),.string (strOfNums [98,101,101]),.string (strOfNums [99,97,116])] 9 (0,0))
def CO (w wr:World) (r m i:Nat) (o:Value):Prop:=∃(cs:List Qi) (ps:List (ByteArray × Value)),CQ w wr r m i o cs ps
theorem CO.chs {w wr:World} {r m i:Nat} {o:Value} (h:CO w wr r m i o):∃cs:List Qi,cs.length=i∧(∀j,j<i->COK r j m (cs.getD j Qg))∧Chs wr o cs:=by
 obtain⟨cs,ps,h1,h2,h3,h4,h5,_,_⟩:=h;refine⟨cs,h1,h3,?_⟩
 rcases h5.2 with ⟨rfl,h0⟩ | ⟨g,cap,cur,rfl,_,hg,hc,_⟩
 ·have:cs=[]:=List.eq_nil_of_length_eq_zero (by omega)
  subst this;exact⟨none,0,rfl,Nat.le_refl _,λh=>absurd rfl h⟩
 ·refine⟨_,cap,by rw[h1],by omega,λ_=>⟨g,0,rfl,λj hj=>?_⟩⟩
  have h6:j<ps.length:=by omega
  obtain⟨e1,e2⟩:=h4 j _ (Qe h6);obtain⟨a1,a2⟩:=An ps j h6
  have hgd:ps.getD j KZ=ps[j]:=by rw[Qc,Qe h6,Option.getD_some]
  rw[hgd] at a1 a2;have hl:=Sp ps;refine⟨ps[j].2,?_,?_,Sps.of_own e2⟩
  ·rw[Nat.zero_add,World.ownsRow.cellAt h5 (j*2) (by omega),a1,e1]
  ·rw[Nat.zero_add,World.ownsRow.cellAt h5 (j*2+1) (by omega),a2]
theorem CQ.snoc {w wr w2 w3:World} {r m i B:Nat} {o o':Value} {t:LI} {cs:List Qi} {ps:List (ByteArray × Value)} (h:CQ w wr r m i o cs ps) (ht:t=NMS.getD ((i+r) % 3) []) (hB:B=wr.heap.size) {v:Value} {s:List (Int × Int)} (hl:s.length=m) (hs:SOK i s)
 (hv:w2.ownsRow (B+1) 60 2 v m (YH s)) (o2:N0 wr w2) (x:Obj) (g:(w2.alloc x).grownBy w3 o.ownBlock)
 (own:w3.ownsRow (w.heap.size+1) 46 2 o' (i+1) (Y4 ps++[.string (strOfNums t),v])):CO w w3 r m (i+1) o':=by
 obtain⟨h1,h2,h3,h4,h5,h6,h7⟩:=h;have h0:=o2.own h5 (λ_ _ f=>f);have og:Only (λj=>o.ownBlock=some j) w2 w3:=((Only.refl _ w2).alloc x).grown g (λj _ e=>e);have hsz:=h6.size
 have hw:wr.heap.size≥w.heap.size+1:=by have:=(Array.getElem?_eq_some_iff.1 h7).1;omega
 refine⟨cs++[(t,s)],ps++[(strOfNums t,v)],by simp[h1],by simp[h2],λj hj=>?_,λj p hp=>?_,by rw[Cw];exact own,(h6.same o2).trans og (λj hj e=>by have:=(h5.lt j e).1;omega),?_⟩
 ·rcases Nat.lt_or_ge j i with e | e
  ·rw[Qc,List.getElem?_append_left (by omega),<-Qc];exact h3 j e
  ·obtain rfl:j=cs.length:=by omega
   rw[Qc,List.getElem?_append_right (Nat.le_refl _),Nat.sub_self];subst h1;exact⟨ht,hl,hs⟩
 ·rcases Nat.lt_or_ge j i with e | e
  ·rw[List.getElem?_append_left (by omega)] at hp
   obtain⟨q1,q2⟩:=h4 j p hp;rw[Qc,List.getElem?_append_left (by omega),<-Qc];have q3:=o2.own q2 (λ_ _ f=>f);exact⟨q1,og.own q3 (λk hk e=>Ld q3 h0 (by decide) k hk e)⟩
  ·have hj:j<(ps++[(strOfNums t,v)]).length:=(List.getElem?_eq_some_iff.1 hp).1
   have hj':j=ps.length:=by simp at hj;omega
   subst hj';rw[List.getElem?_append_right (Nat.le_refl _),Nat.sub_self] at hp
   cases hp
   rw[Qc,List.getElem?_append_right (by omega),h1,h2,Nat.sub_self];refine⟨rfl,?_⟩
   show w3.ownsRow _ _ 2 v s.length (YH s)
   rw[hl];exact Qv (og.own hv (λk hk e=>Ld hv h0 (by decide) k hk e)) (by omega)
 ·exact og.heap (o2.heap h7 (λf=>f)) (λe=>by have:=(h5.lt _ e).1;omega)
theorem PO (q:Nat):(NMS.getD (q % 3) []).length=3∧U8 (NMS.getD (q % 3) []):=by
 have h:q % 3<3:=Nat.mod_lt _ (by decide);generalize q % 3=j at h
 rcases j with _ | _ | _ | j
 ·exact⟨rfl,λy hy=>by simp at hy;omega⟩
 ·exact⟨rfl,λy hy=>by simp at hy;omega⟩
 ·exact⟨rfl,λy hy=>by simp at hy;omega⟩
 ·omega
theorem COK.t3 {r i m:Nat} {c:Qi} (h:COK r i m c):c.1.length=3:=by rw[h.t];exact (PO _).1
theorem COK.cg {r i m:Nat} {c:Qi} (h:COK r i m c) (hi:i<=16) (hm:m<=64):CG c:=by
 refine⟨by rw[h.t];exact (PO _).2,λx hx=>?_,λx hx=>?_⟩
 ·obtain⟨p,hp,rfl⟩:=List.mem_map.1 hx
  obtain⟨k,hk,rfl⟩:=List.mem_iff_getElem.1 hp;have:=h.s k hk;rw[Qc,Qe hk,Option.getD_some] at this;have hk':=h.l
  show -9223372036854775808<=(c.2[k]).1∧(c.2[k]).1<=9223372036854775807
  omega
 ·obtain⟨p,hp,rfl⟩:=List.mem_map.1 hx
  obtain⟨k,hk,rfl⟩:=List.mem_iff_getElem.1 hp;have:=h.s k hk;rw[Qc,Qe hk,Option.getD_some] at this;omega
theorem COK.enc {r i m:Nat} {c:Qi} (h:COK r i m c) (hm:m<=64):(ENCC c.1 c.2).2=0∧(QF c).length<=4194300:=by
 have h3:=h.t3;have hl:=h.l;refine⟨Dz (by omega) (by omega),?_⟩;have:=qy (tn:=c.1) (s:=c.2) (by omega) (by omega);unfold QF;omega
theorem COK.ce {r i m:Nat} {c:Qi} {k:LI} (h:COK r i m c) (hi:i<=16) (hm:m<=64) (hk:k.length=32):Yw k i c=0∧Yg (Qt k c) i c=0:=by
 have h3:=h.t3
 have h1:QC k c.1=0:=by unfold QC;rw[if_pos hk,if_pos (by omega)]
 have h2:(Qt k c).length=32:=by unfold Qt QL;rw[if_pos hk,if_pos (by omega),U1]
 have h4:Yg (Qt k c) i c=0:=by
  obtain⟨e1,e2⟩:=h.enc hm;unfold Yg Yl Us;rw[if_pos h2,if_pos (by omega),if_pos e1,if_pos e2]
 refine⟨?_,h4⟩;unfold Yw;rw[if_pos h1,h4]
theorem JZ {m:LI}:∀(l:List Qi) (k:Nat),(∀j,j<l.length->Yw m (k+j) (l.getD j Qg)=0)->QS m k l=0
 | [],_,_=>rfl
 | c :: l,k,h=>by
  rw[QS,if_pos (by simpa using h 0 (by simp))]
  refine JZ l (k+1) λj hj=>?_
  have:=h (j+1) (by simpa using hj);rw[show k+1+j=k+(j+1) by omega]
  simpa using this
theorem ZX {m:LI} {v n r:Nat} {l:List Qi} (hm:m.length=32) (hv:v<18446744073709551615) (hl:l.length<=16) (hn:n<=64) (h:∀j,j<l.length->COK r j n (l.getD j Qg)):QX m (0,[]) v l=0:=by
 have e:Yt m (0,[]) v l.length=0:=by
  unfold Yt;rw[if_pos (c:=m.length=32∧WH (0,[])∧v≠18446744073709551615) ⟨hm,.inl rfl,by omega⟩,if_neg (by simp),if_neg (by omega)]
 unfold QX;rw[if_pos e]
 exact JZ l 0 λj hj=>by rw[Nat.zero_add];exact ((h j hj).ce (by omega) hn hm).1
theorem Nh {n r:Nat} {l:List Qi} (hl:l.length<=16) (hn:n<=64) (h:∀j,j<l.length->COK r j n (l.getD j Qg)):CL l:=λc hc=>by
 obtain⟨j,hj,rfl⟩:=List.mem_iff_getElem.1 hc;have:=h j hj;rw[Qc,Qe hj,Option.getD_some] at this;have h3:=this.t3;have h4:=this.l;exact⟨this.cg (by omega) hn,by rw[h3];decide,by rw[h4];unfold maxLen;omega⟩
def Yx (c:Qi):Nat:=QK (QF c).length
theorem Ah {m:LI} {v r a b:Nat} {x y:List Qi} (hm:m.length=32) (hv:v<18446744073709551615) (hx2:x.length=2) (hy2:y.length=2) (ha:a<=64) (hb:b<=64) (hx:∀j,j<2->COK r j a (x.getD j Qg)) (hy:∀j,j<2->COK r j b (y.getD j Qg)) (hbk:∀j,j<2->Yx (x.getD j Qg)=Yx (y.getD j Qg)):(Q0 m (0,[]) v x).length=(Q0 m (0,[]) v y).length:=by
 have ex:=ZX (m:=m) (v:=v) (l:=x) hm hv (by omega) ha (by rw[hx2];exact hx);have ey:=ZX (m:=m) (v:=v) (l:=y) hm hv (by omega) hb (by rw[hy2];exact hy)
 have se:∀(n:Nat) (l:List Qi),n<=64->(∀j,j<2->COK r j n (l.getD j Qg))->∀j,j<2->(QR (Qt m (l.getD j Qg)) v j (l.getD j Qg)).length=Qs (Yx (l.getD j Qg))+16∧QU (Qt m (l.getD j Qg)) j (l.getD j Qg)=(Yx (l.getD j Qg):Int):=λn l hn h j hj=>by
  have h0:=((h j hj).ce (k:=m) (by omega) hn hm).2;refine⟨by rw[Xo h0];rfl,?_⟩;unfold QU;rw[if_pos h0];rfl
 have sx:=se a x ha hx;have sy:=se b y hb hy
 have en:Yp m x x.length=Yp m y y.length:=by
  rw[hx2,hy2]
  show [((x.getD 0 Qg).1,QU (Qt m (x.getD 0 Qg)) (0:Nat) (x.getD 0 Qg)),((x.getD 1 Qg).1,QU (Qt m (x.getD 1 Qg)) (1:Nat) (x.getD 1 Qg))]=[((y.getD 0 Qg).1,QU (Qt m (y.getD 0 Qg)) (0:Nat) (y.getD 0 Qg)),((y.getD 1 Qg).1,QU (Qt m (y.getD 1 Qg)) (1:Nat) (y.getD 1 Qg))]
  rw[(sx 0 (by omega)).2,(sx 1 (by omega)).2,(sy 0 (by omega)).2,(sy 1 (by omega)).2,hbk 0 (by omega),hbk 1 (by omega),(hx 0 (by omega)).t,(hx 1 (by omega)).t,(hy 0 (by omega)).t,(hy 1 (by omega)).t]
 have e:∀l,MENC (QH m [] v l)=QP++(fixL (v:Int) 8++(US []++(gs (QY ((Yp m l l.length).map Prod.fst)).length++((QY ((Yp m l l.length).map Prod.fst)).map blk).flatten++(gs (Yp m l l.length).length++((Yp m l l.length).map (Uu (QY ((Yp m l l.length).map Prod.fst)))).flatten++QT (QW m v l l.length))))):=λl=>rfl
 have el:(MENC (QH m [] v x)).length=(MENC (QH m [] v y)).length:=by
  rw[e,e,en];simp only[Qb,UQ]
 have eg:(QI m (0,[]) v x).length=(QI m (0,[]) v y).length:=by
  unfold QI;rw[Qb,Qb,YJ,YJ];exact congrArg (·+32) el
 have ef:(QW m v x x.length).flatten.length=(QW m v y y.length).flatten.length:=by
  rw[hx2,hy2]
  show (QR (Qt m (x.getD 0 Qg)) v (0:Nat) (x.getD 0 Qg)++(QR (Qt m (x.getD 1 Qg)) v (1:Nat) (x.getD 1 Qg)++[])).length=(QR (Qt m (y.getD 0 Qg)) v (0:Nat) (y.getD 0 Qg)++(QR (Qt m (y.getD 1 Qg)) v (1:Nat) (y.getD 1 Qg)++[])).length
  simp only[Qb,(sx 0 (by omega)).1,(sx 1 (by omega)).1,(sy 0 (by omega)).1,(sy 1 (by omega)).1,hbk 0 (by omega),hbk 1 (by omega)]
 unfold Q0;rw[if_pos ex,if_pos ey,Qb,Qb,ef];unfold blk;rw[Qb,Qb,eg]
theorem ZC (x:Int):0<=IntKind.u64.wrap x∧IntKind.u64.wrap x<=18446744073709551615:=by
 simp[IntKind.wrap,IntKind.bits,IntKind.signed];omega
theorem CO.only {w wr:World} {r m i:Nat} {o:Value} (h:CO w wr r m i o):N0 w wr:=by
 obtain⟨_,_,_,_,_,_,_,h6,_⟩:=h;exact h6
theorem Pe {w:World} {lo n:Nat} {E:TypeId} {v:Value} {xs:List Value} (h:w.ownsRow lo E 2 v n xs):∃ao cap,v=.slice ao n cap:=by
 rcases h.2 with ⟨rfl,rfl⟩ | ⟨g,cap,cur,rfl,_⟩
 ·exact⟨none,0,rfl⟩
 ·exact⟨_,cap,rfl⟩
theorem TG (n m r:Nat) (sd:Int) (w:World) (hr:(r:Int)=sd % 2) (hn:n<=16) (hm:m<=64) (hs0:0<=sd) (hs1:sd<=1023) :
 Calls prog 9 #[.int .i64 n,.int .i64 m,.int .i64 sd] w λe w'=>∃v cs,e=.returned v∧cs.length=n∧(∀j,j<n->COK r j m (cs.getD j Qg))∧Chs w' v cs∧N0 w w':=by
 obtain⟨i0,hi,hz0,hz1,hz2⟩:=info_parts Tryz.infoSm;obtain⟨i1,hj,hy0,hy1,hy2⟩:=info_parts Tryz.infoCk
 have hand:bits .and .i64 sd 1=(r:Int):=by rw[hr];exact Ve sd 1 (by decide)
 have hr1:r<=1:=by omega
 clear hr;go_enter func9,ntmps9;go_wp2
 have S0:Hid (CO w (w.alloc (.cells #[.string ⟨#[97,110,116]⟩,.string ⟨#[98,101,101]⟩,.string ⟨#[99,97,116]⟩] 9)) r m 0 (.slice none 0 0)) :=
  ⟨[],[],rfl,rfl,λj h=>absurd h (Nat.not_lt_zero _),λj p h=>by simp at h,World.ownsRow_nil _ _ _ _,(Only.refl _ _).alloc _,heap_alloc_new _ _⟩
 go_loopw [8,9,10] (λo x i wr=>∃(k:Nat) (y:Int),k<=n∧i=.int .i64 k∧x=.int .u64 y∧0<=y∧y<=18446744073709551615∧Hid (CO w wr r m k o)) (λ_ _ i _=>n - (intOf i).toNat)
 case atStart=>exact⟨0,_,Nat.zero_le _,rfl,rfl,by omega,by omega,S0⟩
 case round =>
  obtain⟨k,y,hk,rfl,rfl,hy0',hy1',hS⟩:=hrel;clear S0
  by_cases hlt:k<n
  ·have dlt:decide ((k:Int)<(n:Int))=true:=Qf (by omega)
   obtain⟨j,hd⟩:=EX ((k+r) % 3)
   have hj3:j<3:=by omega
   have e1:((k:Int)+(r:Int)).tmod 3=(j:Int):=by rw[Int.tmod_eq_emod_of_nonneg (by omega)];omega
   have i1:(0:Int)<=(j:Int):=by omega
   have i2:(j:Int)<3:=by omega
   obtain⟨t,ht⟩:=EX (NMS.getD j [])
   have he:t=NMS.getD ((k+r) % 3) []:=by rw[ht,hd]
   have c0:wr.cell? ⟨w.heap.size,j,none⟩=some (.string (strOfNums t)):=by
    obtain⟨_,_,_,_,_,_,_,_,hb⟩:=hS.o;rw[cell_of_row wr _ j _ _ _ hb,ht]
    rcases j with _ | _ | _ | j
    ·rfl
    ·rfl
    ·rfl
    ·omega
   have HT:=Qa he;clear hd ht he hj3;obtain⟨T,hT⟩:=EX (strOfNums t);rw[<-hT] at c0;have HTT:=Qa hT;obtain⟨W0,h0⟩:=EX (wr.alloc (.cells #[.string T,.slice none 0 0] 46));obtain⟨B,hB⟩:=EX wr.heap.size;have S1:Hid (CI W0 W0 B k 0 T):=⟨.slice none 0 0,[],rfl,λj h=>absurd h (Nat.not_lt_zero _),by rw[h0,hB];exact heap_alloc_new _ _,World.ownsRow_nil _ _ _ _,Only.refl _ _⟩;have ha:=Qa (And.intro h0 hB);obtain⟨cs,ps,hQ⟩:=hS.o
   have FIN:=Qa (λ(w2:World) (v:Value) (s:List (Int × Int)) (h1:s.length=m) (h2:SOK k s) (h4:w2.ownsRow (B+1) 60 2 v m (YH s)) (h5:Only (λj=>j=B) W0 w2)=>show w2.ownsRow (w.heap.size+1) 46 2 u8 k (Y4 ps)∧w.heap.size+1<=w2.heap.size∧∀(x:Obj) (o':Value) (w3:World),(w2.alloc x).grownBy w3 u8.ownBlock->w3.ownsRow (w.heap.size+1) 46 2 o' (k+1) (Y4 ps++[.string T,v])->CO w w3 r m (k+1) o' from by
    have o2:N0 wr w2:=((Only.refl (λ_=>False) wr).alloc (.cells #[.string T,.slice none 0 0] 46)).trans (by rw[<-h0];exact h5) (λi hi e=>by omega);have h7:=(Array.getElem?_eq_some_iff.1 hQ.2.2.2.2.2.2).1
    refine⟨o2.own hQ.2.2.2.2.1 (λ_ _ f=>f),by have:=o2.size;omega,λx o' w3 g own=>hQ.snoc HT.o hB h1 h2 h4 o2 x g (by rw[<-hT];exact own)⟩)
   clear hT h0 hQ hS;go_wp2;rw[<-ha.o.1,<-hB];clear hB c0
   go_loopw [9,12] (λx i wi=>∃(q:Nat) (z:Int),q<=m∧i=.int .i64 q∧x=.int .u64 z∧0<=z∧z<=18446744073709551615∧Hid (CI W0 wi B k q T)) (λ_ i _=>m - (intOf i).toNat)
   case atStart=>exact⟨0,_,Nat.zero_le _,rfl,rfl,by omega,by omega,S1⟩
   case round =>
    obtain⟨q,z,hq,rfl,rfl,h9,h8,hI⟩:=hrel;clear S1
    by_cases hql:q<m
    ·have dql:decide ((q:Int)<(m:Int))=true:=Qf (by omega)
     obtain⟨v,s,h1,h2,h3,h4,h5⟩:=hI.o;obtain⟨_,b1,_,_⟩:=Qz h3;have H:=Qa (And.intro h1 (And.intro h2 (And.intro h3 (And.intro h4 h5))));clear h1 h2 h3 h4 h5 hI;obtain⟨Z,hZ⟩:=EX (IntKind.u64.wrap (IntKind.u64.wrap (z*6364136223846793005)+1442695040888963407))
     have zb:0<=Z∧Z<=18446744073709551615:=by rw[hZ];exact ZC _
     have NX:Hid (∀(v':Value) (w':World),w'.ownsRow (B+1) 60 2 v' (q+1) (YH s++[.int .i64 (1000*(k:Int)+10*(q:Int)),.int .u64 (Z / 1152921504606846976)])->(wr.alloc (.cells #[.int .i64 (1000*(k:Int)+10*(q:Int)),.int .u64 (Z / 1152921504606846976)] 60)).grownBy w' v.ownBlock ->
      (∃c0,w'.cell? ⟨B,1,none⟩=some c0)∧w'.frozen? ⟨B,1,none⟩=false∧CI W0 (w'.setCell ⟨B,1,none⟩ v') B k (q+1) T):=by
      intro v' w' own' g';obtain⟨h1,h2,h3,h4,h5⟩:=H.o;have og:Only (λj=>v.ownBlock=some j) wr w':=((Only.refl _ wr).alloc _).grown g' (λj _ e=>e)
      have hb:¬v.ownBlock=some B:=λe=>by have:=(h4.lt B e).1;omega
      have hf:=og.heap h3 hb;obtain⟨c0,c1,c2,c3⟩:=Qz hf
      have hW:=(h5.trans og (λj hj e=>by
       have h6:=(h4.lt j e).1
       have h7:W0.heap.size=B+1:=by rw[ha.o.1,ha.o.2];exact Array.size_push ..
       omega))
      refine⟨⟨_,c1⟩,c3,v',s++[(1000*(k:Int)+10*(q:Int),Z / 1152921504606846976)],by simp[h1],h2.snoc h1 rfl (by omega),?_,?_,hW.setCell (p:=⟨B,1,none⟩) (λ_=>rfl) _⟩
      ·have:=heap_setCell_same w' B 1 _ _ v' hf
       simpa using this
      ·rw[Ak]
       exact ((Only.refl (λj=>j=B) w').setCell (p:=⟨B,1,none⟩) (λ_=>rfl) v').own own' (λj hj e=>by have:=(own'.lt j hj).1;omega)
     have hsw:B+1<=wr.heap.size:=by have:=(Array.getElem?_eq_some_iff.1 H.o.2.2.1).1;omega
     go_wp2_with (at_builtin;rw[<-hZ];refine wpList_append_own _ rfl _ _ 44 rfl (B+1) 60 i0 (.agg #[.int .i64 0,.int .u64 0]) 2 16 underlying44 hi hz0 hz1 hz2 rfl (by decide) _ q _ rfl (H.o.2.2.2.1.alloc _) ⟨wr.heap.size,0,none⟩ 1 1 [.int .i64 (1000*(k:Int)+10*(q:Int)),.int .u64 (Z / 1152921504606846976)] rfl rfl (Z0 _ _ _ _) (λu hu=>by simp only[List.mem_cons,List.not_mem_nil,or_false] at hu;rcases hu with rfl | rfl <;> rfl) (by unfold maxLen;omega) (by omega) (by simp;omega) ?_;intro v' w4 hown' hgrow' _;(obtain⟨a4,k4,e4⟩:=Pe hown');subst e4;obtain⟨⟨c9,d0⟩,d1,nx⟩:=NX.o _ w4 hown' hgrow';have N1:=Qa nx;clear nx hown' hgrow')
     go_roundw
     case rel=>exact⟨q+1,_,by omega,by go_num,rfl,(ZC _).1,(ZC _).2,N1⟩
     case measure=>simp[intOf];omega
    ·obtain rfl:q=m:=by omega
     have dql:decide ((q:Int)<(q:Int))=false:=by simp
     obtain⟨v,s,h1,h2,h3,h4,h5⟩:=hI.o;obtain⟨b0,b1,_,_⟩:=Qz h3;obtain⟨a5,c5,e5⟩:=Pe h4;subst e5;have H:=Qa (And.intro h1 (And.intro h2 (And.intro h3 (And.intro h4 h5))));clear h1 h2 h3 h4 h5 hI;have NX:=Qa (FIN.o _ _ _ H.o.1 H.o.2.1 H.o.2.2.2.1 H.o.2.2.2.2);have hsz:=NX.o.2.1;go_wp2_with (at_builtin;refine wpList_append_own _ rfl _ _ 32 rfl (w.heap.size+1) 46 _ (.agg #[.string ⟨#[]⟩,.slice none 0 0]) 2 40 underlying32 hj hy0 hy1 hy2 rfl (by decide) _ k _ rfl (NX.o.1.alloc _) ⟨wr.heap.size,0,none⟩ 1 1 [.string T,.slice a5 q c5] rfl rfl (Z0 _ _ _ _) (λu hu=>by simp only[List.mem_cons,List.not_mem_nil,or_false] at hu;rcases hu with rfl | rfl <;> rfl) (by unfold maxLen;omega) (by omega) (by simp;omega) ?_;intro v' w4 hown' hgrow' _;have N1:=Qa (NX.o.2.2 _ _ _ hgrow' hown');clear hown' hgrow')
     go_roundw
     case rel=>exact⟨k+1,z,by omega,by go_num,rfl,h9,h8,N1⟩
     case measure=>simp[intOf];omega
  ·obtain rfl:k=n:=by omega
   have dlt:decide ((k:Int)<(k:Int))=false:=by simp
   go_wp2;go_ret;obtain⟨cs,h1,h2,h3⟩:=hS.o.chs;exact⟨_,cs,rfl,h1,h2,h3,hS.o.only⟩
theorem OZ (vk vl:Value) (m:LI) (l:List Qi) (r n v:Nat) (w:World) (bm:Bs .u8 w vk m) (m8:U8 m) (hm:m.length=32) (hc:Chs w vl l) (hv:v<18446744073709551615) (hl:l.length<=16) (hn:n<=64) (h:∀j,j<l.length->COK r j n (l.getD j Qg)) (hT:Tab w) :
 Calls prog 10 #[vk,.agg #[.int .u64 0,NIL],.int .u64 v,vl] w λe w'=>∃a k ar cr,e=.returned (.tuple #[.slice a (Q0 m (0,[]) v l).length k,.agg #[.int .u64 v,.slice ar 32 cr],.int .i64 0])∧N0 w w':=by
 have h0:=ZX (m:=m) (v:=v) (l:=l) hm hv hl hn h
 have h1:YY m (0,[]) v l=(v,QT (QW m v l l.length)):=by unfold YY;rw[if_pos h0]
 refine (Xu vk NIL vl m [] 0 v l w bm m8 (Bs.nil _ _) NoCap.nil (λy hy=>by cases hy) hc (Nh hl hn h) (by omega) (by omega) hT).mono ?_;rintro e w' ⟨u,ru,rfl,bu⟩;have h4:=bu.r;rw[h1] at h4 ⊢;obtain⟨a,k,rfl⟩:=QB bu.t;obtain⟨ar,cr,rfl⟩:=h4.len;exact⟨a,k,ar,cr,by rw[h0,UQ],bu.o⟩
theorem Tm {r i n:Nat} {c:Qi} (h:COK r i n c) (hi:i<=16) (hn:n<=64) (u:Value) (w:World) (hs:Sps w u c.2) (hT:Tab w) :
 Calls prog 15 #[.agg #[.string (strOfNums c.1),u]] w λe w'=>∃a k,e=.returned (.tuple #[.slice a (QF c).length k,.int .i64 0])∧N0 w w':=by
 have g:=h.cg hi hn;have hl:=h.l;have h3:=h.t3;have hb:sb (strOfNums c.1)=c.1:=sb_of g.t8;refine (JJ (strOfNums c.1) u c.2 w hs g.gs (by unfold maxLen;omega) (by rw[<-QQ,hb,h3];decide) hT).mono ?_;rw[hb,(h.enc hn).1];rintro e w' ⟨v,rfl,own,o⟩;obtain⟨a,k,rfl⟩:=QB own;exact⟨a,k,rfl,o⟩
theorem JA {r i n:Nat} {c:Qi} (h:COK r i n c) (hn:n<=64) (w:World):Calls prog 16 #[.int .i64 ((QF c).length:Nat)] w λe w'=>e=.returned (.tuple #[.int .i64 (Yx c:Nat),.int .i64 0])∧N0 w w':=by
 have:=VP ((QF c).length:Nat) w;have h2:=(h.enc hn).2
 rwa [show Uy ((QF c).length:Nat)=(Yx c:Nat) by unfold Uy Yx;rw[if_pos (by omega),Int.toNat_natCast],show Yo ((QF c).length:Nat)=0 by unfold Yo;rw[if_neg (by omega),if_neg (by omega)]] at this
theorem qD (s a b:Int) (w:World) (hT:Tab w) :
 Calls prog 4 #[.int .i64 s,.int .i64 a,.int .i64 b] w λe w'=>e=.returned (.bool true)∧N0 w w':=by
 have A:=Qa (T3 w hT);have KA:=Qa (λW=>ZS s W);have k8:=Jk s;have h5:=XV s;obtain⟨K,hK⟩:=EX (Wh s);rw[<-hK] at k8 h5;simp only[<-hK] at KA;obtain⟨sd,hb⟩:=EX (s % 1024);obtain⟨r,hr⟩:∃r:Nat,(r:Int)=sd % 2:=⟨(sd % 2).toNat,by omega⟩;obtain⟨na,hf⟩:∃q:Nat,(q:Int)=a % 64:=⟨(a % 64).toNat,by omega⟩;obtain⟨nb,hg⟩:∃q:Nat,(q:Int)=b % 64:=⟨(b % 64).toNat,by omega⟩
 have and1:bits .and .i64 s 1023=sd:=by rw[hb];exact Ve s 10 (by decide)
 have and2:bits .and .i64 a 63=(na:Int):=by rw[hf];exact Ve a 6 (by decide)
 have and3:bits .and .i64 b 63=(nb:Int):=by rw[hg];exact Ve b 6 (by decide)
 have h1:na<=64:=by omega
 have h0:nb<=64:=by omega
 have CX:=Qa (λW=>TG 2 na r sd W hr (by decide) h1 (by omega) (by omega));have CY:=Qa (λW=>TG 2 nb r sd W hr (by decide) h0 (by omega) (by omega));simp only[show ((2:Nat):Int)=2 from rfl] at CX CY;have BD:=Qa (λ(W:World) (vk vl:Value) (l:List Qi) (n:Nat) (hn:n<=64) (h2:l.length=2) (h:∀j,j<2->COK r j n (l.getD j Qg)) (o:N0 w W) (bk:Bs .u8 W vk K) (hc:Chs W vl l)=>OZ vk vl K l r n 1 W bk k8 h5 hc (by decide) (by omega) hn (by rw[h2];exact h) (hT.past o));simp only[show ((1:Nat):Int)=1 from rfl] at BD;have HT:=Qa (And.intro hT (And.intro h5 (And.intro h1 h0)));clear hK k8 hb hr hf hg hT h5 h1 h0;go_enter func4,ntmps4;go_wp2_with fail;refine A.o.mono ?_;rintro e w1 ⟨rfl,o1⟩;have O1:=Qa o1;clear A o1;go_wp2_with fail;refine (CX.o w1).mono ?_;rintro e w2 ⟨vx,x,rfl,h9,hx,cx,o2⟩;obtain⟨ax,kx,rfl,_⟩:=cx.len;rw[h9] at cx ⊢;have O2:=Qa (O1.o.same o2);have X2:=Qa (And.intro cx (And.intro h9 hx));clear cx h9 hx o2 CX O1;go_wp2_with fail;refine (CY.o w2).mono ?_;rintro e w3 ⟨vy,y,rfl,h7,hy,cy,o3⟩;obtain⟨ay,ky,rfl,_⟩:=cy.len;rw[h7] at cy ⊢;have O3:=Qa (O2.o.same o3);have X3:=Qa (X2.o.1.past o3);have Y3:=Qa (And.intro cy (And.intro h7 hy));clear cy h7 hy o3 CY O2;go_wp2_with fail;refine (KA.o w3).mono ?_;rintro e w4 ⟨rfl,hl,o4⟩;have b5:=Qa (BD.o w4 _ _ x na HT.o.2.2.1 X2.o.2.1 X2.o.2.2 (O3.o.same o4) (hl.bs 32 HT.o.2.1) (X3.o.past o4));have O4:=Qa o4;clear hl o4;go_wp2_with fail;refine b5.o.mono ?_;rintro e w5 ⟨a5,k5,c5,d5,rfl,o5⟩;have O6:=Qa (O4.o.same (o5.alloc (.cells #[.int .u64 1,.slice c5 32 d5] 31)));clear o5 b5 O4;go_wp2_with fail;refine (KA.o _).mono ?_;rintro e w7 ⟨hh,h8,o7⟩;rw[show (w5.alloc (.cells #[.int .u64 1,.slice c5 32 d5] 31)).heap.size=w5.heap.size+1 from Array.size_push ..] at hh h8;subst hh;have O7:=Qa (O6.o.same o7);have b8:=Qa (BD.o w7 _ _ y nb HT.o.2.2.2 Y3.o.2.1 Y3.o.2.2 (O3.o.same O7.o) (h8.bs 32 HT.o.2.1) (Y3.o.1.past O7.o));clear h8 o7 O6 KA BD;go_wp2_with fail;refine b8.o.mono ?_;rintro e w8 ⟨a8,k8,c8,d8,rfl,o8⟩;obtain⟨W,hW⟩:=EX (w8.alloc (.cells #[.int .u64 1,.slice c8 32 d8] 31))
 have o9:N0 w3 W:=by rw[hW];exact O7.o.same (o8.alloc _)
 have XW:=Qa (And.intro (X3.o.past o9) (And.intro X2.o.2.1 X2.o.2.2));have YW:=Qa (And.intro (Y3.o.1.past o9) (And.intro Y3.o.2.1 Y3.o.2.2));have OW:=Qa (O3.o.same o9);have h6:=Qa (Ah (m:=K) (v:=1) HT.o.2.1 (by decide) X2.o.2.1 Y3.o.2.1 HT.o.2.2.1 HT.o.2.2.2 X2.o.2.2 Y3.o.2.2);have HW:=Qa hW;generalize (Q0 K (0,[]) 1 x).length=lx at *;generalize (Q0 K (0,[]) 1 y).length=ly at *;clear o8 o9 b8 O7 X3 Y3 X2 O3 hW;go_wp2;rw[<-HW.o];have S0:Hid ((true=true->∀j,j<0->Yx (x.getD j Qg)=Yx (y.getD j Qg))∧N0 W W):=⟨λ_ j h=>absurd h (Nat.not_lt_zero _),Only.refl _ _⟩
 go_loopw [16,17] (λal i wr=>∃(k:Nat) (q:Bool),k<=2∧i=.int .i64 k∧al=.bool q∧Hid ((q=true->∀j,j<k->Yx (x.getD j Qg)=Yx (y.getD j Qg))∧N0 W wr)) (λ_ i _=>2 - (intOf i).toNat)
 case atStart=>exact⟨0,true,by omega,rfl,rfl,S0⟩
 case round =>
  obtain⟨k,q,hk,rfl,rfl,hS⟩:=hrel;clear S0 HW
  by_cases hlt:k<2
  ·have i1:(k:Int)<2:=by omega
   have i2:(0:Int)<=(k:Int):=by omega
   obtain⟨b1,f1,u1,ea,x0,x1,xs⟩:=(XW.o.1.past hS.o.2).at k (by rw[XW.o.2.1];exact hlt);subst ea;obtain⟨b2,f2,u2,eb,y0,y1,ys⟩:=(YW.o.1.past hS.o.2).at k (by rw[YW.o.2.1];exact hlt);subst eb;have h3:=XW.o.2.2 k hlt;have h4:=YW.o.2.2 k hlt
   have N:=Qa (λ(q':Bool) (W':World) (hq:q'=true->q=true∧Yx (x.getD k Qg)=Yx (y.getD k Qg)) (o:N0 wr W')=>show Hid ((q'=true->∀j,j<k+1->Yx (x.getD j Qg)=Yx (y.getD j Qg))∧N0 W W') from ⟨λe j hj=>by
    obtain⟨e1,e2⟩:=hq e
    rcases Nat.lt_or_ge j k with h | h
    ·exact hS.o.1 e1 j h
    ·obtain rfl:j=k:=by omega
     exact e2,hS.o.2.same o⟩)
   obtain⟨c,hc⟩:=EX (x.getD k Qg);obtain⟨d,hd⟩:=EX (y.getD k Qg);rw[<-hc] at x0 xs h3;rw[<-hd] at y0 ys h4;simp only[<-hc,<-hd] at N;have E1:=Qa (Tm h3 (by omega) HT.o.2.2.1 u1 wr xs (HT.o.1.past (OW.o.same hS.o.2)));have E2:=Qa (λ(W':World) (o:N0 wr W')=>Tm h4 (by omega) HT.o.2.2.2 u2 W' (ys.past o) (HT.o.1.past ((OW.o.same hS.o.2).same o)));have YC:=Qa (λ(W':World) (o:N0 wr W')=>And.intro (Uw y0 o) (Uw y1 o));have K1:=Qa (λW'=>JA h3 HT.o.2.2.1 W');have K2:=Qa (λW'=>JA h4 HT.o.2.2.2 W');generalize (QF c).length=nx at *;generalize (QF d).length=ny at *;obtain⟨p1,ha⟩:=EX (Yx c);obtain⟨p2,hm⟩:=EX (Yx d);simp only[<-ha,<-hm] at N K1 K2;obtain⟨T1,he⟩:=EX (strOfNums c.1);obtain⟨T2,ho⟩:=EX (strOfNums d.1);rw[<-he] at x0 E1;simp only[<-ho] at y0 E2 YC;clear hc hd xs ys h3 h4 hS ha hm he ho y0 y1
   have ck2:((k:Int)*2).toNat=k*2:=by omega
   go_wp2_with fail;refine E1.o.mono ?_;rintro e w2 ⟨q1,q2,rfl,o2⟩;obtain⟨y0,y1⟩:=YC.o w2 o2;have E3:=Qa (E2.o w2 o2);have O2:=Qa o2;clear E1 E2 YC o2 x0 x1;go_wp2_with fail;refine E3.o.mono ?_;rintro e w3 ⟨q3,q4,rfl,o3⟩;have O3:=Qa (O2.o.same o3);clear E3 O2 o3 y0 y1;go_wp2_with fail;refine (K1.o w3).mono ?_;rintro e w4 ⟨rfl,o4⟩;have O4:=Qa (O3.o.same o4);clear O3 o4 K1;go_wp2_with fail;refine (K2.o w4).mono ?_;rintro e w5 ⟨rfl,o5⟩;have O5:=Qa (O4.o.same o5);clear O4 o5 K2
   by_cases heq:p1=p2
   case' pos =>
    have dq:((p1:Int) == (p2:Int))=true:=by rw[heq];simp
   case' neg =>
    have dq:((p1:Int) == (p2:Int))=false:=by rw[beq_eq_false_iff_ne];omega
   all_goals
    have HE:=Qa heq;clear heq
    cases q
    all_goals
     go_wp2
     go_roundw
     case rel =>
      refine⟨k+1,_,by omega,by go_num,rfl,N.o _ _ ?_ O5.o⟩
      first
      | exact λ_=>⟨by trivial,HE.o⟩
      | exact λh=>(by cases h; done)
      | exact λh=>absurd (by simpa using h) HE.o
     case measure=>simp[intOf];omega
  ·obtain rfl:k=2:=by omega
   have F:=Qa (OW.o.same hS.o.2)
   cases q with
   | false =>
    clear hS h6;go_wp2;go_ret;exact⟨rfl,F.o⟩
   | true =>
    have e1:lx=ly:=h6.o (hS.o.1 rfl);subst e1
    have dq:((lx:Int) == (lx:Int))=true:=by simp
    clear hS h6;go_wp2;go_ret;exact⟨rfl,F.o⟩
theorem Bp (s a b:Int) (w:World) (hT:Tab w):Calls prog 4 #[.int .i64 s,.int .i64 a,.int .i64 b] w λe w'=>e=.returned (.bool true)∧Below w.heap.size w w':=TQ (qD s a b w hT)
end Go.Proofs.YtiochaeeoelmjaaGreatDoor
