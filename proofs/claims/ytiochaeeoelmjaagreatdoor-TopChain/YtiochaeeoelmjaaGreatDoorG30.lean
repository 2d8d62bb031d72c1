import Derived.Test.YtiochaeeoelmjaaGreatDoorG26
import Derived.Test.YtiochaeeoelmjaaGreatDoorG29
import Derived.Test.YtiochaeeoelmjaaGreatDoorG10
import Derived.Test.YtiochaeeoelmjaaGreatDoorG24
import Derived.Test.YtiochaeeoelmjaaGreatDoorG9
namespace Go.Proofs.YtiochaeeoelmjaaGreatDoor
set_option maxHeartbeats 4000000
set_option maxRecDepth 100000
open Go.RowKit _root_.Go.Proofs.Tryz
variable {w w' W:World} {v:Value} {ys xs l:LI} {R n p k g B:Nat} {P:Program} {ls:List (LI)} {E:TypeId}
structure OffB (w:World) (B:Nat):Prop where
 u8:∀j x,w.cell? ⟨B,j,none⟩≠some (.int .u8 x)
 st:∀j t,w.cell? ⟨B,j,none⟩≠some (.string t)
 sm:∀j x y,w.cell? ⟨B,j,none⟩=some (.int .i64 x)->w.cell? ⟨B,j+1,none⟩≠some (.int .u64 y)
theorem OffB.rd {B kb ver rn cr:Nat} {ar:Option Addr} {tk rf:Int} {t:TypeId} (hh:w.heap[B]? = some (.cells #[.slice (some ⟨kb,0,none⟩) 32 32,.int .u64 ver,.slice ar rn cr,.int .i64 tk,.int .i64 rf] t (0,0))):OffB w B:=by
 refine⟨λj x hc=>?_,λj x hc=>?_,λj x y hc hd=>?_⟩
 ·rw[cell_of_row w B j _ _ _ hh] at hc
  rcases j with _ | _ | _ | _ | _ | j <;> simp at hc
 ·rw[cell_of_row w B j _ _ _ hh] at hc
  rcases j with _ | _ | _ | _ | _ | j <;> simp at hc
 ·rw[cell_of_row w B _ _ _ _ hh] at hc hd
  rcases j with _ | _ | _ | _ | _ | j <;> simp at hc hd
theorem OffB.stt {x:Int} {a:Option Addr} {n c:Nat} {t:TypeId} (hh:w.heap[B]? = some (.cells #[.int .u64 x,.slice a n c] t (0,0))):OffB w B:=by
 refine⟨λj x hc=>?_,λj x hc=>?_,λj x y hc hd=>?_⟩
 ·rw[cell_of_row w B j _ _ _ hh] at hc
  rcases j with _ | _ | j <;> simp at hc
 ·rw[cell_of_row w B j _ _ _ hh] at hc
  rcases j with _ | _ | j <;> simp at hc
 ·rw[cell_of_row w B _ _ _ _ hh] at hc hd
  rcases j with _ | _ | j <;> simp at hc hd
theorem Bs.offR (h:OffB w B) (o:Only (λk=>k=B) w w') {v:Value} {xs:LI} (hb:Bs .u8 w v xs):Bs .u8 w' v xs:=by
 obtain⟨ao,cap,e,hc,hr⟩:=hb;refine⟨ao,cap,e,hc,λhx=>?_⟩;obtain⟨b,off,e2,h0⟩:=hr hx;refine⟨b,off,e2,λj hj=>YZ (h0 j hj) o (λ(eb:b=B)=>?_)⟩;have:=h0 j hj;rw[eb] at this;exact h.u8 _ _ this
theorem Chs.offR (h:OffB w B) (o:Only (λk=>k=B) w w') {v:Value} {l:List Qj} (hb:Chs w v l):Chs w' v l:=by
 obtain⟨ao,cap,e,hc,hr⟩:=hb;refine⟨ao,cap,e,hc,λhx=>?_⟩;obtain⟨b,off,e2,h0⟩:=hr hx;refine⟨b,off,e2,λj hj=>?_⟩;obtain⟨u,c0,c1,ao,cap,e,hc,hr⟩:=h0 j hj
 have hb:¬b=B:=λeb=>by
  rw[eb] at c0;exact h.st _ _ c0
 refine⟨u,YZ c0 o hb,YZ c1 o hb,ao,cap,e,hc,λhx=>?_⟩;obtain⟨b,off,e2,h0⟩:=hr hx;refine⟨b,off,e2,λj hj=>?_⟩;obtain⟨c0,c1⟩:=h0 j hj
 have hb:¬b=B:=λeb=>by
  rw[eb] at c0 c1;exact h.sm _ _ _ c0 c1
 exact⟨YZ c0 o hb,YZ c1 o hb⟩
theorem zo {X:World} {RB:Nat} {a b c d e:Value} {t:TypeId} (T:Value) (h:X.heap[RB]? = some (.cells #[a,b,c,d,e] t (0,0))):(X.setCell ⟨RB,4,none⟩ T).heap[RB]? = some (.cells #[a,b,c,d,T] t (0,0)):=by
 have:=heap_setCell_same X RB 4 _ _ T h
 simpa using this
theorem Br {X:World} {RB:Nat} {a b c d e:Value} {t:TypeId} (T Q U:Value) (h:X.heap[RB]? = some (.cells #[a,b,c,d,e] t (0,0))):(((X.setCell ⟨RB,3,none⟩ T).setCell ⟨RB,1,none⟩ Q).setCell ⟨RB,2,none⟩ U).heap[RB]? = some (.cells #[a,Q,U,T,e] t (0,0)):=by
 have h1:(X.setCell ⟨RB,3,none⟩ T).heap[RB]? = some (.cells #[a,b,c,T,e] t (0,0)):=by have:=heap_setCell_same X RB 3 _ _ T h;simpa using this
 have h2:((X.setCell ⟨RB,3,none⟩ T).setCell ⟨RB,1,none⟩ Q).heap[RB]? = some (.cells #[a,Q,c,T,e] t (0,0)):=by have:=heap_setCell_same _ RB 1 _ _ Q h1;simpa using this
 have:=heap_setCell_same _ RB 2 _ _ U h2
 simpa using this
theorem GX {RB ver:Nat} {key root:LI} (h:RDR w RB key ver root) (vb:Value) (l:List Qj) (v2:Nat) (R2:LI) (E:Int)
 (OPN:∀(W:World) (vm vt:Value),N0 w W->Bs .u8 W vm key->Bs .u8 W vt root->Calls prog 17 #[vm,.agg #[.int .u64 ver,vt],vb] W λe w'=>∃ac nc cc q av nv cv,e=.returned (.tuple #[.slice ac nc cc,.agg #[.int .u64 q,.slice av nv cv],.int .i64 E])∧(E=0->q=(v2:Int)∧Chs w' (.slice ac nc cc) l∧Bs .u8 w' (.slice av nv cv) R2)∧N0 W w') (hk:key.length=32) :
 Calls prog 11 #[.pointer (some ⟨RB,0,none⟩),vb] w λe w'=>∃a n c,e=.returned (.tuple #[.slice a n c,.int .i64 E])∧(E=0->Chs w' (.slice a n c) l∧RDR w' RB key v2 R2)∧(E≠0->n=0∧RDR w' RB key ver root)∧Only (λk=>k=RB) w w':=by
 have MA:=Qa (Pt h);obtain⟨kb,vr,tk,rf,h1,h2,h3⟩:=h;obtain⟨ar,cr,rfl⟩:=h3.len;obtain⟨rn,h7⟩:=EX root.length;have OP:=Qa (λW (o:N0 w W)=>OPN W _ _ o ((h2.past o).bs 32 hk) (h3.past o));rw[<-h7] at h1 h3 OP;have H:=Qa (Vz h1 (Vz h2 h3));obtain⟨⟨c0,c1,c2,c3,c4⟩,fz⟩:=VF h1;have hRB:=(Array.getElem?_eq_some_iff.1 h1).1;have KS:=Qa (λW (o:N0 w W)=>(show W.cell? ⟨RB,0,none⟩=some (.slice (some ⟨kb,0,none⟩) 32 32)∧W.cell? ⟨RB,1,none⟩=some (.int .u64 ver)∧W.cell? ⟨RB,2,none⟩=some (.slice ar rn cr) from have h:=(VF (o.heap h1 (λf=>f))).1;⟨h.1,h.2.1,h.2.2.1⟩));have CR:Hid (N0 w w.drew):=VG.drew;clear OPN h1 h2 h3 hk h7 c3 c4 fz;go_enter func11,ntmps11;go_wp2_with fail;refine MA.o.mono ?_;rintro e w1 ⟨rfl,rfl⟩;clear MA;go_wp2_with fail
 go_region_held3 (λW'=>W'.cell? ⟨RB,0,none⟩=some (.slice (some ⟨kb,0,none⟩) 32 32)∧W'.cell? ⟨RB,1,none⟩=some (.int .u64 ver)∧W'.cell? ⟨RB,2,none⟩=some (.slice ar rn cr))
  (first | assumption | exact KS.o _ CR.o | exact KS.o _ (CR.o.alloc _) | exact (show _∧_∧_ from ⟨YZ (YZ (KS.o _ CR.o).1 ((Only.refl (λk=>k=w.heap.size) _).setCell (p:=⟨_,0,none⟩) (λ_=>rfl) _) (by simp only;omega)) ((Only.refl (λk=>k=w.heap.size) _).setCell (p:=⟨_,1,none⟩) (λ_=>rfl) _) (by simp only;omega),YZ (YZ (KS.o _ CR.o).2.1 ((Only.refl (λk=>k=w.heap.size) _).setCell (p:=⟨_,0,none⟩) (λ_=>rfl) _) (by simp only;omega)) ((Only.refl (λk=>k=w.heap.size) _).setCell (p:=⟨_,1,none⟩) (λ_=>rfl) _) (by simp only;omega),YZ (YZ (KS.o _ CR.o).2.2 ((Only.refl (λk=>k=w.heap.size) _).setCell (p:=⟨_,0,none⟩) (λ_=>rfl) _) (by simp only;omega)) ((Only.refl (λk=>k=w.heap.size) _).setCell (p:=⟨_,1,none⟩) (λ_=>rfl) _) (by simp only;omega)⟩))
  (first|(go_at_call 17;refine (OP.o _ (by first | exact CR.o | exact CR.o.alloc _)).mono ?_;rintro e w5 ⟨ac,nc,cc,q,av,nv,cv,rfl,hE,o5⟩;(first|(have g5:w5.heap[w.heap.size]? = some (.cells #[.int .u64 0,.slice none 0 0] 31 (0,0)):=o5.heap (heap_alloc_new w.drew _) (λf=>f);have G5:=Qa g5;obtain⟨_,_,_,_⟩:=Qs g5;have CR:=Qa ((CR.o.alloc _).same o5)) | have CR:=Qa (CR.o.same o5));have HE:=Qa hE;clear hE o5 OP))
 all_goals
  first
  | (obtain⟨X,b,hX,hb,h0,h6,h5⟩:∃X b,X=(w5.setCell ⟨w.heap.size,0,none⟩ (.int .u64 q)).setCell ⟨w.heap.size,1,none⟩ (.slice av nv cv)∧b=w.heap.size∧N0 w X∧X.heap[b]? = some (.cells #[.int .u64 q,.slice av nv cv] 31 (0,0))∧(E=0->q=(v2:Int)∧Chs X (.slice ac nc cc) l∧Bs .u8 X (.slice av nv cv) R2):=(by
   have oo:Only (λk=>k=w.heap.size) w5 ((w5.setCell ⟨w.heap.size,0,none⟩ (.int .u64 q)).setCell ⟨w.heap.size,1,none⟩ (.slice av nv cv)):=((Only.refl (λk=>k=w.heap.size) w5).setCell (p:=⟨w.heap.size,0,none⟩) (λ_=>rfl) _).setCell (p:=⟨w.heap.size,1,none⟩) (λ_=>rfl) _
   exact⟨_,_,rfl,rfl,CR.o.trans oo (λk hk e=>by omega),Un _ _ G5.o,λe=>⟨(HE.o e).1,(HE.o e).2.1.offR (OffB.stt G5.o) oo,(HE.o e).2.2.offR (OffB.stt G5.o) oo⟩⟩);rw[<-hX,<-hb];have hbR:¬b=RB:=(by omega))
  | (obtain⟨X,b,hX,hb,h0,h6,h5⟩:∃X b,X=w5.alloc (.cells #[.int .u64 q,.slice av nv cv] 31)∧b=w5.heap.size∧N0 w X∧X.heap[b]? = some (.cells #[.int .u64 q,.slice av nv cv] 31 (0,0))∧(E=0->q=(v2:Int)∧Chs X (.slice ac nc cc) l∧Bs .u8 X (.slice av nv cv) R2):=(by
   have oo:=(Only.refl (λ_=>False) w5).alloc (.cells #[.int .u64 q,.slice av nv cv] 31)
   exact⟨_,_,rfl,rfl,CR.o.same oo,heap_alloc_new _ _,λe=>⟨(HE.o e).1,(HE.o e).2.1.past oo,(HE.o e).2.2.past oo⟩⟩);rw[<-hX,<-hb];have hbR:¬b=RB:=(by have:=CR.o.size;omega))
  have gR:=h0.heap H.o.1 (λf=>f);obtain⟨⟨r0,r1,r2,r3,r4⟩,rz⟩:=VF gR;have z1:=rz 1;have z2:=rz 2;have z3:=rz 3;have z4:=rz 4;obtain⟨d0,d1,_,_⟩:=Qs h6;have P:=Qa (Vz gR (Vz h0 (Vz h5 (Vz (H.o.2.1.past h0) (H.o.2.2.past h0)))));clear gR h0 h6 h5 hX hb KS HE CR H rz
  have h8:¬kb=RB:=λe=>by
   have q1:=P.o.2.2.2.1;rw[e] at q1;have q2:X.heap[RB]? = _:=q1;rw[P.o.1] at q2;simp at q2
  by_cases hE:E=0
  case' pos =>
   have dE:(E != 0)=false:=by rw[hE];rfl
   have h4:=Qa hE;clear hE;go_wp2;go_ret2;have oR:=(((Only.refl (λk=>k=RB) X).setCell (p:=⟨RB,3,none⟩) (λ_=>rfl) (.int .i64 (RowKit.wrap64 (tk+1)))).setCell (p:=⟨RB,1,none⟩) (λ_=>rfl) (.int .u64 q)).setCell (p:=⟨RB,2,none⟩) (λ_=>rfl) (.slice av nv cv);obtain⟨hq,hch,hbs⟩:=P.o.2.2.1 h4.o;subst hq;exact⟨ac,nc,cc,by rw[h4.o];rfl,λ_=>⟨hch.offR (OffB.rd P.o.1) oR,kb,_,_,_,Br _ _ _ P.o.1,P.o.2.2.2.1.keep oR h8,hbs.offR (OffB.rd P.o.1) oR⟩,λh=>absurd h4.o h,(P.o.2.1.mono (λ_ _ f=>f.elim)).trans oR (λ_ _ e=>e)⟩
  case' neg =>
   have dE:(E != 0)=true:=by simpa using hE
   have h4:=Qa hE;clear hE;go_wp2;go_ret2;have oR:=(Only.refl (λk=>k=RB) X).setCell (p:=⟨RB,4,none⟩) (λ_=>rfl) (.int .i64 (RowKit.wrap64 (rf+1)));exact⟨none,0,0,rfl,λh=>absurd h h4.o,λ_=>⟨rfl,kb,_,_,_,zo _ P.o.1,P.o.2.2.2.1.keep oR h8,P.o.2.2.2.2.offR (OffB.rd P.o.1) oR⟩,(P.o.2.1.mono (λ_ _ f=>f.elim)).trans oR (λ_ _ e=>e)⟩
abbrev NMS:List (LI):=[[97,110,116],[98,101,101],[99,97,116]]
def SOK (i:Nat) (s:List (Int × Int)):Prop:=∀k,k<s.length->(s.getD k (0,0)).1=1000*(i:Int)+10*(k:Int)∧0<=(s.getD k (0,0)).2∧(s.getD k (0,0)).2<=15
structure COK (r i m:Nat) (c:Qj):Prop where
 t:c.1=NMS.getD ((i+r) % 3) []
 l:c.2.length=m
 s:SOK i c.2
theorem SOK.snoc {i:Nat} {s:List (Int × Int)} (h:SOK i s) {k:Nat} (hk:s.length=k) {a b:Int} (ha:a=1000*(i:Int)+10*(k:Int)) (hb:0<=b∧b<=15):SOK i (s++[(a,b)]):=λj hj=>by
 rw[Qb,List.length_singleton] at hj;rw[Qc]
 rcases Nat.lt_or_ge j s.length with h1 | h1
 ·rw[List.getElem?_append_left h1,<-Qc];exact h j h1
 ·obtain rfl:j=s.length:=by omega
  rw[List.getElem?_append_right Zu,Nat.sub_self];subst hk;exact⟨ha,hb⟩
theorem ER (s:List (Int × Int)) (a b:Int):QO (s++[(a,b)])=QO s++[.int .i64 a,.int .u64 b]:=by simp[QO]
theorem AK (s:List (ByteArray × Value)) (a:ByteArray) (b:Value):YS (s++[(a,b)])=YS s++[.string a,b]:=by simp[YS]
theorem Tl {lo b n m:Nat} {E F:TypeId} {u v:Value} {xs ys:List Value} (h:w.ownsRow lo E 2 u n xs) (g:w.ownsRow b F 2 v m ys) (hne:E≠F) (k:Nat) (hk:u.ownBlock=some k):¬v.ownBlock=some k:=λe=>by
 rcases h.2 with ⟨rfl,_⟩ | ⟨p,_,_,rfl,_,hp,_⟩
 ·cases hk
 ·rcases g.2 with ⟨rfl,_⟩ | ⟨q,_,_,rfl,_,hq,_⟩
  ·cases e
  ·cases hk;cases e
   rw[hp] at hq
   cases hq
   exact hne rfl
def CI (W0 wr:World) (B i k:Nat) (t:ByteArray):Prop:=∃(v:Value) (s:List (Int × Int)),s.length=k∧SOK i s∧wr.heap[B]? = some (.cells #[.string t,v] 46 (0,0))∧wr.ownsRow (B+1) 60 2 v k (QO s)∧Only (λj=>j=B) W0 wr
def CQ (w wr:World) (r m i:Nat) (o:Value) (cs:List Qj) (ps:List (ByteArray × Value)):Prop:=cs.length=i∧ps.length=i∧(∀j,j<i->COK r j m (cs.getD j Qw)) ∧
 (∀j p,ps[j]? = some p->p.1=strOfNums (cs.getD j Qw).1∧wr.ownsRow (w.heap.size+1) 60 2 p.2 (cs.getD j Qw).2.length (QO (cs.getD j Qw).2)) ∧
 wr.ownsRow (w.heap.size+1) 46 2 o i (YS ps)∧N0 w wr∧wr.heap[w.heap.size]? = some (.cells #[.string (strOfNums [97,110,116]),.string (strOfNums [98,101,101]),.string (strOfNums [99,97,116])] 9 (0,0))
def CO (w wr:World) (r m i:Nat) (o:Value):Prop:=∃(cs:List Qj) (ps:List (ByteArray × Value)),CQ w wr r m i o cs ps
theorem CO.chs {w wr:World} {r m i:Nat} {o:Value} (h:CO w wr r m i o):∃cs:List Qj,cs.length=i∧(∀j,j<i->COK r j m (cs.getD j Qw))∧Chs wr o cs:=by
 obtain⟨cs,ps,h1,h2,h3,h4,h5,_,_⟩:=h;refine⟨cs,h1,h3,?_⟩
 rcases h5.2 with ⟨rfl,h0⟩ | ⟨g,cap,cur,rfl,_,hg,hc,_⟩
 ·have:cs=[]:=List.eq_nil_of_length_eq_zero (by omega)
  subst this;exact⟨none,0,rfl,Zu,λh=>absurd rfl h⟩
 ·refine⟨_,cap,by rw[h1],by omega,λ_=>⟨g,0,rfl,λj hj=>?_⟩⟩
  have h6:j<ps.length:=by omega
  obtain⟨e1,e2⟩:=h4 j _ (Qh h6);obtain⟨a1,a2⟩:=X0 ps j h6
  have hgd:ps.getD j KZ=ps[j]:=by rw[Qc,Qh h6,Option.getD_some]
  rw[hgd] at a1 a2;have hl:=Gn ps;refine⟨ps[j].2,?_,?_,Sps.of_own e2⟩
  ·rw[Nat.zero_add,World.ownsRow.cellAt h5 (j*2) (by omega),a1,e1]
  ·rw[Nat.zero_add,World.ownsRow.cellAt h5 (j*2+1) (by omega),a2]
theorem CQ.snoc {w wr w2 w3:World} {r m i B:Nat} {o o':Value} {t:LI} {cs:List Qj} {ps:List (ByteArray × Value)} (h:CQ w wr r m i o cs ps) (ht:t=NMS.getD ((i+r) % 3) []) (hB:B=wr.heap.size) {v:Value} {s:List (Int × Int)} (hl:s.length=m) (hs:SOK i s)
 (hv:w2.ownsRow (B+1) 60 2 v m (QO s)) (o2:N0 wr w2) (x:Obj) (g:(w2.alloc x).grownBy w3 o.ownBlock)
 (own:w3.ownsRow (w.heap.size+1) 46 2 o' (i+1) (YS ps++[.string (strOfNums t),v])):CO w w3 r m (i+1) o':=by
 obtain⟨h1,h2,h3,h4,h5,h6,h7⟩:=h;have h0:=o2.own h5 (λ_ _ f=>f);have og:Only (λj=>o.ownBlock=some j) w2 w3:=((Only.refl _ w2).alloc x).grown g (λj _ e=>e);have hsz:=h6.size
 have hw:wr.heap.size≥w.heap.size+1:=by have:=(Array.getElem?_eq_some_iff.1 h7).1;omega
 refine⟨cs++[(t,s)],ps++[(strOfNums t,v)],by simp[h1],by simp[h2],λj hj=>?_,λj p hp=>?_,by rw[AK];exact own,(h6.same o2).trans og (λj hj e=>by have:=(h5.lt j e).1;omega),?_⟩
 ·rcases Nat.lt_or_ge j i with e | e
  ·rw[Qc,List.getElem?_append_left (by omega),<-Qc];exact h3 j e
  ·obtain rfl:j=cs.length:=by omega
   rw[Qc,List.getElem?_append_right Zu,Nat.sub_self];subst h1;exact⟨ht,hl,hs⟩
 ·rcases Nat.lt_or_ge j i with e | e
  ·rw[List.getElem?_append_left (by omega)] at hp
   obtain⟨q1,q2⟩:=h4 j p hp;rw[Qc,List.getElem?_append_left (by omega),<-Qc];have q3:=o2.own q2 (λ_ _ f=>f);exact⟨q1,og.own q3 (λk hk e=>Tl q3 h0 (by decide) k hk e)⟩
  ·have hj:j<(ps++[(strOfNums t,v)]).length:=(List.getElem?_eq_some_iff.1 hp).1
   have hj':j=ps.length:=by simp at hj;omega
   subst hj';rw[List.getElem?_append_right Zu,Nat.sub_self] at hp
   cases hp
   rw[Qc,List.getElem?_append_right (by omega),h1,h2,Nat.sub_self];refine⟨rfl,?_⟩
   show w3.ownsRow _ _ 2 v s.length (QO s)
   rw[hl];exact Qr (og.own hv (λk hk e=>Tl hv h0 (by decide) k hk e)) (by omega)
 ·exact og.heap (o2.heap h7 (λf=>f)) (λe=>by have:=(h5.lt _ e).1;omega)
theorem LR (q:Nat):(NMS.getD (q % 3) []).length=3∧U8 (NMS.getD (q % 3) []):=by
 have h:q % 3<3:=Nat.mod_lt _ (by decide);generalize q % 3=j at h
 rcases j with _ | _ | _ | j
 ·exact⟨rfl,λy hy=>by simp at hy;omega⟩
 ·exact⟨rfl,λy hy=>by simp at hy;omega⟩
 ·exact⟨rfl,λy hy=>by simp at hy;omega⟩
 ·omega
theorem COK.t3 {r i m:Nat} {c:Qj} (h:COK r i m c):c.1.length=3:=by rw[h.t];exact (LR _).1
theorem COK.cg {r i m:Nat} {c:Qj} (h:COK r i m c) (hi:i<=16) (hm:m<=64):CG c:=by
 refine⟨by rw[h.t];exact (LR _).2,λx hx=>?_,λx hx=>?_⟩
 ·obtain⟨p,hp,rfl⟩:=List.mem_map.1 hx
  obtain⟨k,hk,rfl⟩:=List.mem_iff_getElem.1 hp;have:=h.s k hk;rw[Qc,Qh hk,Option.getD_some] at this;have hk':=h.l
  show -9223372036854775808<=(c.2[k]).1∧(c.2[k]).1<=9223372036854775807
  omega
 ·obtain⟨p,hp,rfl⟩:=List.mem_map.1 hx
  obtain⟨k,hk,rfl⟩:=List.mem_iff_getElem.1 hp;have:=h.s k hk;rw[Qc,Qh hk,Option.getD_some] at this;omega
theorem COK.enc {r i m:Nat} {c:Qj} (h:COK r i m c) (hm:m<=64):(ENCC c.1 c.2).2=0∧(Qy c).length<=4194300:=by
 have h3:=h.t3;have hl:=h.l;refine⟨gj (by omega) (by omega),?_⟩;have:=AV (tn:=c.1) (s:=c.2) (by omega) (by omega);unfold Qy;omega
theorem COK.ce {r i m:Nat} {c:Qj} {k:LI} (h:COK r i m c) (hi:i<=16) (hm:m<=64) (hk:k.length=32):YR k i c=0∧Ym (QH k c) i c=0:=by
 have h3:=h.t3
 have h1:QS k c.1=0:=by unfold QS;rw[if_pos hk,if_pos (by omega)]
 have h2:(QH k c).length=32:=by unfold QH QT;rw[if_pos hk,if_pos (by omega),UY]
 have h4:Ym (QH k c) i c=0:=by
  obtain⟨e1,e2⟩:=h.enc hm;unfold Ym Yp Uh;rw[if_pos h2,if_pos (by omega),if_pos e1,if_pos e2]
 refine⟨?_,h4⟩;unfold YR;rw[if_pos h1,h4]
theorem Pz {m:LI}:∀(l:List Qj) (k:Nat),(∀j,j<l.length->YR m (k+j) (l.getD j Qw)=0)->Ya m k l=0
 | [],_,_=>rfl
 | c :: l,k,h=>by
  rw[Ya,if_pos (by simpa using h 0 (by simp))]
  refine Pz l (k+1) λj hj=>?_
  have:=h (j+1) (by simpa using hj);rw[show k+1+j=k+(j+1) by omega]
  simpa using this
theorem Ck {n r:Nat} {l:List Qj} (hl:l.length<=16) (hn:n<=64) (h:∀j,j<l.length->COK r j n (l.getD j Qw)):CL l:=λc hc=>by
 obtain⟨j,hj,rfl⟩:=List.mem_iff_getElem.1 hc;have:=h j hj;rw[Qc,Qh hj,Option.getD_some] at this;have h3:=this.t3;have h4:=this.l;exact⟨this.cg (by omega) hn,by rw[h3];decide,by rw[h4];unfold maxLen;omega⟩
theorem yW {m r:LI} {p v:Nat} {s:Yl} {l:List Qj} (hv:v<18446744073709551616) (s8:U8 s.2) (hl:∀c∈l,CG c) (h:Yc m s v l=0) (ht:r.length=0∨p<v∨(p=v∧r=QG (QI m v l l.length))) :
 Wa m (p,r) (QD m s.2 v l) (QJ m s v l)=0:=by
 unfold Wa;rw[if_pos (Hp hv s8 hl h)]
 split
 ·rfl
 ·rename_i hr
  have hr':¬r.length=0:=hr;rw[if_neg (show ¬(QD m s.2 v l).ver<p from (by show ¬v<p;rcases ht with q | q | q <;> omega))];rw[if_neg];rintro⟨e1,e2⟩
  rcases ht with q | q | q
  ·exact hr q
  ·have e1':v=p:=e1
   omega
  ·exact e2 q.2.symm
theorem OM {m r:LI} {p v:Nat} {s:Yl} {l:List Qj} (hv:v<18446744073709551616) (s8:U8 s.2) (hl:∀c∈l,CG c) (h:Yc m s v l=0) (hr:r.length=32) (hp:v<p) :
 Wa m (p,r) (QD m s.2 v l) (QJ m s v l)=6:=by
 unfold Wa;rw[if_pos (Hp hv s8 hl h),if_neg (by show ¬r.length=0;omega),if_pos (show (QD m s.2 v l).ver<p from hp)]
theorem Ad (vk vt vb:Value) (m r:LI) (p v:Nat) (s:Yl) (l:List Qj) (w:World) (bk:Bs .u8 w vk m) (k8:U8 m) (bt:Bs .u8 w vt r) (r8:U8 r) (hb:Bs .u8 w vb (Q9 m s v l))
 (hv:v<18446744073709551616) (s8:U8 s.2) (hg:CL l) (h100:l.length<=100) (h0:Yc m s v l=0) (hr:r.length=0∨r.length=32) (ht:r.length=0∨p<v∨(p=v∧r=QG (QI m v l l.length))) (hT:Tab w) :
 Calls prog 17 #[vk,.agg #[.int .u64 p,vt],vb] w λe w'=>∃c rv,e=.returned (.tuple #[c,.agg #[.int .u64 v,rv],.int .i64 0])∧Chs w' c l∧Bs .u8 w' rv (QG (QI m v l l.length))∧NoCap rv∧N0 w w':=by
 have hl:∀c∈l,CG c:=λc hc=>(hg c hc).1
 obtain⟨hmb,hsa⟩:=V3 h0
 exact Pr vk vt vb m r _ _ p (QD m s.2 v l) _ l w bk k8 bt r8 hb (AR_u8 hv s8 hl h0).2 (by have:=(Nt hv s8 hl h100 h0).2;omega) (VY hmb).1 hr (X9 hv s8 hl h100 h0) (Je hl _) (by rw[VP];omega) rfl (yW hv s8 hl h0 ht)
  (IA vk m (QD m s.2 v l) v l w bk k8 hg (by omega) hsa rfl rfl hT)
theorem IS {f:Nat} {args:Array Value} (h:Calls prog f args w λe w'=>e=.returned (.bool true)∧N0 w w'):Calls prog f args w λe w'=>e=.returned (.bool true)∧Below w.heap.size w w':=by
 refine h.mono ?_;rintro e w' ⟨rfl,o⟩;exact⟨rfl,o.low Zu⟩
theorem pB (vk vt vb:Value) (m r:LI) (p v:Nat) (s:Yl) (l:List Qj) (w:World) (bk:Bs .u8 w vk m) (k8:U8 m) (bt:Bs .u8 w vt r) (r8:U8 r) (hb:Bs .u8 w vb (Q9 m s v l))
 (hv:v<18446744073709551616) (s8:U8 s.2) (hg:CL l) (h100:l.length<=100) (h0:Yc m s v l=0) (hr:r.length=32) (hp:v<p) :
 Calls prog 17 #[vk,.agg #[.int .u64 p,vt],vb] w λe w'=>e=.returned (.tuple #[NIL,.agg #[.int .u64 0,NIL],.int .i64 6])∧N0 w w':=by
 have hl:∀c∈l,CG c:=λc hc=>(hg c hc).1
 obtain⟨hmb,_⟩:=V3 h0;exact Ib vk vt vb m r _ _ p (QD m s.2 v l) _ w bk k8 bt r8 hb (AR_u8 hv s8 hl h0).2 (by have:=(Nt hv s8 hl h100 h0).2;omega) (VY hmb).1 (.inr hr) (X9 hv s8 hl h100 h0) (OM hv s8 hl h0 hr hp) (by decide)
theorem qT {m:LI} {s:Yl} {v n r:Nat} {l:List Qj} (hm:m.length=32) (hv:v<18446744073709551615) (hs:Kc s) (hlt:s.2.length=0∨s.1<v) (hl:l.length<=16) (hn:n<=64) (h:∀j,j<l.length->COK r j n (l.getD j Qw)):Yc m s v l=0:=by
 have e:Ug m s v l.length=0:=by
  unfold Ug;rw[if_pos (c:=m.length=32∧Kc s∧v≠18446744073709551615) ⟨hm,hs,by omega⟩,if_neg (by omega),if_neg (by omega)]
 unfold Yc;rw[if_pos e]
 exact Pz l 0 λj hj=>by rw[Nat.zero_add];exact ((h j hj).ce (by omega) hn hm).1
def PRE (j:Nat) (root:LI):Prop:=U8 root∧(j=0∧root=[]∨0<j∧root.length=32)
theorem PRE.srt {j i:Nat} {root:LI} (h:PRE j root) (hi:i=j+1):Kc (j,root)∧(root.length=0∨j<i):=by
 rcases h.2 with ⟨_,rfl⟩ | ⟨_,h2⟩
 ·exact⟨.inl rfl,.inl rfl⟩
 ·exact⟨.inr h2,.inr (by omega)⟩
structure TCL (l:List Qj):Prop where
 len:l.length<=16
 ck:∃r,∀j,j<l.length->COK r j 3 (l.getD j Qw)
theorem TCL.cl {l:List Qj} (h:TCL l):CL l:=by
 obtain⟨r,hc⟩:=h.ck;exact Ck h.len (by decide) hc
theorem TCL.are {l:List Qj} {m:LI} {j i:Nat} {root:LI} (h:TCL l) (hm:m.length=32) (hp:PRE j root) (hi:i=j+1) (h16:i<=16):Yc m (j,root) i l=0:=by
 obtain⟨r,hc⟩:=h.ck;obtain⟨h1,h2⟩:=hp.srt hi;exact qT hm (by omega) h1 h2 h.len (by decide) hc
theorem rg (vk vr vl:Value) {m root:LI} {j i:Nat} {l:List Qj} {w:World} (bm:Bs .u8 w vk m) (m8:U8 m) (hm:m.length=32) (br:Bs .u8 w vr root) (nr:NoCap vr) (hp:PRE j root) (hc:Chs w vl l) (hi:i=j+1) (h16:i<=16) (h:TCL l) (hT:Tab w) :
 Calls prog 10 #[vk,.agg #[.int .u64 j,vr],.int .u64 i,vl] w λe w'=>∃a n k ar cr,e=.returned (.tuple #[.slice a n k,.agg #[.int .u64 i,.slice ar 32 cr],.int .i64 0])∧Bs .u8 w' (.slice a n k) (Q9 m (j,root) i l)∧Bs .u8 w' (.slice ar 32 cr) (QG (QI m i l l.length))∧NoCap (.slice ar 32 cr)∧N0 w w':=by
 have h0:=h.are hm hp hi h16
 have h1:UP m (j,root) i l=(i,QG (QI m i l l.length)):=by unfold UP;rw[if_pos h0]
 have hl:=h.len;refine (PM vk vr vl m root j i l w bm m8 br nr hp.1 hc h.cl (by omega) (by omega) hT).mono ?_;rintro e w' ⟨u,ru,rfl,bu⟩;have h4:=bu.r;have h5:=bu.nr;have h6:=Bs.of_own (k:=.u8) (E:=5) bu.t;rw[h1] at h4 ⊢;obtain⟨a,k,rfl⟩:=QK bu.t;obtain⟨ar,cr,rfl⟩:=h4.len;rw[Um] at h4 h5 ⊢;exact⟨a,_,k,ar,cr,by rw[h0],h6,h4,h5,bu.o⟩
theorem Ex {RB j i:Nat} {m root:LI} (h:RDR w RB m j root) (m8:U8 m) (hm:m.length=32) (hp:PRE j root) (hi:i=j+1) (h16:i<=16) {l:List Qj} (hl:TCL l) (vb:Value) (hb:Bs .u8 w vb (Q9 m (j,root) i l)) (hT:Tab w) :
 Calls prog 11 #[.pointer (some ⟨RB,0,none⟩),vb] w λe w'=>∃a n c,e=.returned (.tuple #[.slice a n c,.int .i64 0])∧Chs w' (.slice a n c) l∧RDR w' RB m i (QG (QI m i l l.length))∧Only (λk=>k=RB) w w':=by
 have h0:=hl.are hm hp hi h16;have hll:=hl.len;have hs:=hp.srt hi;refine (GX h vb l i (QG (QI m i l l.length)) 0 (λW vm vt o bm bt=>(Ad vm vt vb m root j i (j,root) l W bm m8 bt hp.1 (hb.past o) (by omega) hp.1 hl.cl (by omega) h0 hs.1 (hs.2.imp_right .inl) (hT.past o)).mono ?_) hm).mono ?_
 ·rintro e w' ⟨c,rv,rfl,h1,h2,_,h4⟩
  obtain⟨ac,cc,rfl,_⟩:=h1.len;obtain⟨av,cv,rfl⟩:=h2.len;exact⟨_,_,_,_,_,_,_,rfl,λ_=>⟨rfl,h1,h2⟩,h4⟩
 ·rintro e w' ⟨a,n,c,rfl,h1,_,h3⟩
  exact⟨a,n,c,rfl,(h1 rfl).1,(h1 rfl).2,h3⟩
theorem yx {RB j:Nat} {m root:LI} (h:RDR w RB m j root) (m8:U8 m) (hm:m.length=32) (r8:U8 root) (hr:root.length=32) (hj:0<j) {l:List Qj} (hl:TCL l) (h1:j=1->root=QG (QI m 1 l l.length)) (vb:Value) (hb:Bs .u8 w vb (Q9 m (0,[]) 1 l)) (hT:Tab w) :
 Calls prog 11 #[.pointer (some ⟨RB,0,none⟩),vb] w λe w'=>∃a n c,e=.returned (.tuple #[.slice a n c,.int .i64 (if j=1 then 0 else 6)])∧(∃r2,r2.length=32∧RDR w' RB m j r2)∧Only (λk=>k=RB) w w':=by
 have h5:U8 ([]:LI):=λy hy=>by cases hy
 have h0:=hl.are (m:=m) (j:=0) (i:=1) (root:=[]) hm ⟨h5,.inl ⟨rfl,rfl⟩⟩ rfl (by decide);have hll:=hl.len
 by_cases h2:j=1
 ·rw[if_pos h2]
  subst h2;refine (GX h vb l 1 (QG (QI m 1 l l.length)) 0 (λW vm vt o bm bt=>(Ad vm vt vb m root 1 1 (0,[]) l W bm m8 bt r8 (hb.past o) (by decide) h5 hl.cl (by omega) h0 (.inr hr) (.inr (.inr ⟨rfl,h1 rfl⟩)) (hT.past o)).mono ?_) hm).mono ?_
  ·rintro e w' ⟨c,rv,rfl,h1,h2,_,h4⟩
   obtain⟨ac,cc,rfl,_⟩:=h1.len;obtain⟨av,cv,rfl⟩:=h2.len;exact⟨_,_,_,_,_,_,_,rfl,λ_=>⟨rfl,h1,h2⟩,h4⟩
  ·rintro e w' ⟨a,n,c,rfl,h1,_,h3⟩
   exact⟨a,n,c,rfl,⟨_,Um _,(h1 rfl).2⟩,h3⟩
 ·rw[if_neg h2]
  refine (GX h vb l 1 [] 6 (λW vm vt o bm bt=>(pB vm vt vb m root j 1 (0,[]) l W bm m8 bt r8 (hb.past o) (by decide) h5 hl.cl (by omega) h0 hr (by omega)).mono ?_) hm).mono ?_
  ·rintro e w' ⟨rfl,h4⟩
   exact⟨_,_,_,_,_,_,_,rfl,λe=>absurd e (by decide),h4⟩
  ·rintro e w' ⟨a,n,c,rfl,_,h1,h3⟩
   exact⟨a,n,c,rfl,⟨_,hr,(h1 (by decide)).2⟩,h3⟩
theorem GI (x:Int):0<=IntKind.u64.wrap x∧IntKind.u64.wrap x<=18446744073709551615:=by
 simp[IntKind.wrap,IntKind.bits,IntKind.signed];omega
theorem CO.only {w wr:World} {r m i:Nat} {o:Value} (h:CO w wr r m i o):N0 w wr:=by
 obtain⟨_,_,_,_,_,_,_,h6,_⟩:=h;exact h6
theorem Na {lo n:Nat} {xs:List Value} (h:w.ownsRow lo E 2 v n xs):∃ao cap,v=.slice ao n cap:=by
 rcases h.2 with ⟨rfl,rfl⟩ | ⟨g,cap,cur,rfl,_⟩
 ·exact⟨none,0,rfl⟩
 ·exact⟨_,cap,rfl⟩
theorem Eg (n m r:Nat) (sd:Int) (w:World) (hr:(r:Int)=sd % 2) (hn:n<=16) (hm:m<=64) (hs0:0<=sd) (hs1:sd<=1023) :
 Calls prog 9 #[.int .i64 n,.int .i64 m,.int .i64 sd] w λe w'=>∃v cs,e=.returned v∧cs.length=n∧(∀j,j<n->COK r j m (cs.getD j Qw))∧Chs w' v cs∧N0 w w':=by
 obtain⟨i0,hi,hz0,hz1,hz2⟩:=info_parts Tryz.infoSm;obtain⟨i1,hj,hy0,hy1,hy2⟩:=info_parts Tryz.infoCk
 have hand:bits .and .i64 sd 1=(r:Int):=by rw[hr];exact Jh sd 1 (by decide)
 have hr1:r<=1:=by omega
 clear hr;go_enter func9,ntmps9;go_wp2
 have S0:Hid (CO w (w.alloc (.cells #[.string ⟨#[97,110,116]⟩,.string ⟨#[98,101,101]⟩,.string ⟨#[99,97,116]⟩] 9)) r m 0 (.slice none 0 0)) :=
  ⟨[],[],rfl,rfl,λj h=>absurd h (Nat.not_lt_zero _),λj p h=>by simp at h,Xh,VG.alloc _,heap_alloc_new _ _⟩
 go_loopw [8,9,10] (λo x i wr=>∃(k:Nat) (y:Int),k<=n∧i=.int .i64 k∧x=.int .u64 y∧0<=y∧y<=18446744073709551615∧Hid (CO w wr r m k o)) (λ_ _ i _=>n - (intOf i).toNat)
 case atStart=>exact⟨0,_,Nat.zero_le _,rfl,rfl,by omega,by omega,S0⟩
 case round =>
  obtain⟨k,y,hk,rfl,rfl,hy0',hy1',hS⟩:=hrel;clear S0
  by_cases hlt:k<n
  ·have dlt:decide ((k:Int)<(n:Int))=true:=Qe (by omega)
   obtain⟨j,hd⟩:=EX ((k+r) % 3)
   have hj3:j<3:=by omega
   have e1:((k:Int)+(r:Int)).tmod 3=(j:Int):=by rw[Int.tmod_eq_emod_of_nonneg (by omega)];omega
   have i1:(0:Int)<=(j:Int):=by omega
   have i2:(j:Int)<3:=by omega
   obtain⟨t,ht⟩:=EX (NMS.getD j [])
   have hf:t=NMS.getD ((k+r) % 3) []:=by rw[ht,hd]
   have c0:wr.cell? ⟨w.heap.size,j,none⟩=some (.string (strOfNums t)):=by
    obtain⟨_,_,_,_,_,_,_,_,hb⟩:=hS.o;rw[cell_of_row wr _ j _ _ _ hb,ht]
    rcases j with _ | _ | _ | j
    ·rfl
    ·rfl
    ·rfl
    ·omega
   have HT:=Qa hf;clear hd ht hf hj3;obtain⟨T,hT⟩:=EX (strOfNums t);rw[<-hT] at c0;have HTT:=Qa hT;obtain⟨W0,h0⟩:=EX (wr.alloc (.cells #[.string T,.slice none 0 0] 46));obtain⟨B,hB⟩:=EX wr.heap.size;have S1:Hid (CI W0 W0 B k 0 T):=⟨.slice none 0 0,[],rfl,λj h=>absurd h (Nat.not_lt_zero _),by rw[h0,hB];exact heap_alloc_new _ _,Xh,VG⟩;have ha:=Qa (Vz h0 hB);obtain⟨cs,ps,hQ⟩:=hS.o
   have FIN:=Qa (λ(w2:World) (v:Value) (s:List (Int × Int)) (h1:s.length=m) (h2:SOK k s) (h4:w2.ownsRow (B+1) 60 2 v m (QO s)) (h5:Only (λj=>j=B) W0 w2)=>show w2.ownsRow (w.heap.size+1) 46 2 u8 k (YS ps)∧w.heap.size+1<=w2.heap.size∧∀(x:Obj) (o':Value) (w3:World),(w2.alloc x).grownBy w3 u8.ownBlock->w3.ownsRow (w.heap.size+1) 46 2 o' (k+1) (YS ps++[.string T,v])->CO w w3 r m (k+1) o' from by
    have o2:N0 wr w2:=((Only.refl (λ_=>False) wr).alloc (.cells #[.string T,.slice none 0 0] 46)).trans (by rw[<-h0];exact h5) (λi hi e=>by omega);have h7:=(Array.getElem?_eq_some_iff.1 hQ.2.2.2.2.2.2).1
    refine⟨o2.own hQ.2.2.2.2.1 (λ_ _ f=>f),by have:=o2.size;omega,λx o' w3 g own=>hQ.snoc HT.o hB h1 h2 h4 o2 x g (by rw[<-hT];exact own)⟩)
   clear hT h0 hQ hS;go_wp2;rw[<-ha.o.1,<-hB];clear hB c0
   go_loopw [9,12] (λx i wi=>∃(q:Nat) (z:Int),q<=m∧i=.int .i64 q∧x=.int .u64 z∧0<=z∧z<=18446744073709551615∧Hid (CI W0 wi B k q T)) (λ_ i _=>m - (intOf i).toNat)
   case atStart=>exact⟨0,_,Nat.zero_le _,rfl,rfl,by omega,by omega,S1⟩
   case round =>
    obtain⟨q,z,hq,rfl,rfl,h8,h9,hI⟩:=hrel;clear S1
    by_cases hql:q<m
    ·have dql:decide ((q:Int)<(m:Int))=true:=Qe (by omega)
     obtain⟨v,s,h1,h2,h3,h4,h5⟩:=hI.o;obtain⟨_,b1,_,_⟩:=Qs h3;have H:=Qa (Vz h1 (Vz h2 (Vz h3 (Vz h4 h5))));clear h1 h2 h3 h4 h5 hI;obtain⟨Z,hZ⟩:=EX (IntKind.u64.wrap (IntKind.u64.wrap (z*6364136223846793005)+1442695040888963407))
     have zb:0<=Z∧Z<=18446744073709551615:=by rw[hZ];exact GI _
     have NX:Hid (∀(v':Value) (w':World),w'.ownsRow (B+1) 60 2 v' (q+1) (QO s++[.int .i64 (1000*(k:Int)+10*(q:Int)),.int .u64 (Z / 1152921504606846976)])->(wr.alloc (.cells #[.int .i64 (1000*(k:Int)+10*(q:Int)),.int .u64 (Z / 1152921504606846976)] 60)).grownBy w' v.ownBlock ->
      (∃c0,w'.cell? ⟨B,1,none⟩=some c0)∧w'.frozen? ⟨B,1,none⟩=false∧CI W0 (w'.setCell ⟨B,1,none⟩ v') B k (q+1) T):=by
      intro v' w' own' g';obtain⟨h1,h2,h3,h4,h5⟩:=H.o;have og:Only (λj=>v.ownBlock=some j) wr w':=((Only.refl _ wr).alloc _).grown g' (λj _ e=>e)
      have hb:¬v.ownBlock=some B:=λe=>by have:=(h4.lt B e).1;omega
      have he:=og.heap h3 hb;obtain⟨c0,c1,c2,c3⟩:=Qs he
      have hW:=(h5.trans og (λj hj e=>by
       have h6:=(h4.lt j e).1
       have h7:W0.heap.size=B+1:=by rw[ha.o.1,ha.o.2];exact Array.size_push ..
       omega))
      refine⟨⟨_,c1⟩,c3,v',s++[(1000*(k:Int)+10*(q:Int),Z / 1152921504606846976)],by simp[h1],h2.snoc h1 rfl (by omega),?_,?_,hW.setCell (p:=⟨B,1,none⟩) (λ_=>rfl) _⟩
      ·have:=heap_setCell_same w' B 1 _ _ v' he
       simpa using this
      ·rw[ER]
       exact ((Only.refl (λj=>j=B) w').setCell (p:=⟨B,1,none⟩) (λ_=>rfl) v').own own' (λj hj e=>by have:=(own'.lt j hj).1;omega)
     have hsw:B+1<=wr.heap.size:=by have:=(Array.getElem?_eq_some_iff.1 H.o.2.2.1).1;omega
     go_wp2_with (at_builtin;rw[<-hZ];refine wpList_append_own _ rfl _ _ 44 rfl (B+1) 60 i0 (.agg #[.int .i64 0,.int .u64 0]) 2 16 underlying44 hi hz0 hz1 hz2 rfl (by decide) _ q _ rfl (H.o.2.2.2.1.alloc _) ⟨wr.heap.size,0,none⟩ 1 1 [.int .i64 (1000*(k:Int)+10*(q:Int)),.int .u64 (Z / 1152921504606846976)] rfl rfl (Jz _ _ _ _) (λu hu=>by simp only[List.mem_cons,List.not_mem_nil,or_false] at hu;rcases hu with rfl | rfl <;> rfl) (by unfold maxLen;omega) (by omega) (by simp;omega) ?_;intro v' w4 hown' hgrow' _;(obtain⟨a4,k4,e4⟩:=Na hown');subst e4;obtain⟨⟨c9,d0⟩,d1,nx⟩:=NX.o _ w4 hown' hgrow';have N1:=Qa nx;clear nx hown' hgrow')
     go_roundw
     case rel=>exact⟨q+1,_,by omega,by go_num,rfl,(GI _).1,(GI _).2,N1⟩
     case measure=>simp[intOf];omega
    ·obtain rfl:q=m:=by omega
     have dql:decide ((q:Int)<(q:Int))=false:=by simp
     obtain⟨v,s,h1,h2,h3,h4,h5⟩:=hI.o;obtain⟨b0,b1,_,_⟩:=Qs h3;obtain⟨a5,c5,e5⟩:=Na h4;subst e5;have H:=Qa (Vz h1 (Vz h2 (Vz h3 (Vz h4 h5))));clear h1 h2 h3 h4 h5 hI;have NX:=Qa (FIN.o _ _ _ H.o.1 H.o.2.1 H.o.2.2.2.1 H.o.2.2.2.2);have hsz:=NX.o.2.1;go_wp2_with (at_builtin;refine wpList_append_own _ rfl _ _ 32 rfl (w.heap.size+1) 46 _ (.agg #[.string ⟨#[]⟩,.slice none 0 0]) 2 40 underlying32 hj hy0 hy1 hy2 rfl (by decide) _ k _ rfl (NX.o.1.alloc _) ⟨wr.heap.size,0,none⟩ 1 1 [.string T,.slice a5 q c5] rfl rfl (Jz _ _ _ _) (λu hu=>by simp only[List.mem_cons,List.not_mem_nil,or_false] at hu;rcases hu with rfl | rfl <;> rfl) (by unfold maxLen;omega) (by omega) (by simp;omega) ?_;intro v' w4 hown' hgrow' _;have N1:=Qa (NX.o.2.2 _ _ _ hgrow' hown');clear hown' hgrow')
     go_roundw
     case rel=>exact⟨k+1,z,by omega,by go_num,rfl,h8,h9,N1⟩
     case measure=>simp[intOf];omega
  ·obtain rfl:k=n:=by omega
   have dlt:decide ((k:Int)<(k:Int))=false:=by simp
   go_wp2;go_ret;obtain⟨cs,h1,h2,h3⟩:=hS.o.chs;exact⟨_,cs,rfl,h1,h2,h3,hS.o.only⟩
theorem JV {a b:Bool} (h:a=b):Ending.returned (.bool a)=.returned (.bool b):=by rw[h]
theorem LA {s s':List (Int × Int)} (h:s.getD k (0,0)≠s'.getD k (0,0)):s≠s':=λe=>h (by rw[e])
theorem qz {s s':List (Int × Int)} (hl:s.length=s'.length) (h:∀j,j<s.length->s.getD j (0,0)=s'.getD j (0,0)):s=s':=by
 refine List.ext_getElem hl (λi h1 h2=>?_);have:=h i h1;rw[Qc,Qc,Qh h1,Qh h2] at this;exact this
theorem F7 {t t':ByteArray} (h:t.toList=t'.toList):t=t':=by
 rw[ByteArray.toList_eq,ByteArray.toList_eq] at h
 cases t;cases t'
 simp only[ByteArray.mk.injEq];exact Array.toList_inj.1 h
theorem Ds {W W':World} {a:Addr} {x:Value} (o:N0 W W') (h:W.cell? a=some x):W'.cell? a=some x:=by
 have hb:=World.block_lt_of_cell? W _ h;rw[<-h];unfold World.cell?;rw[o.block a.block hb (λf=>f)]
theorem yK (t t':ByteArray) (u u':Value) (s s':List (Int × Int)) (w:World) (h:Sps w u s) (h':Sps w u' s') (hm:s.length<=maxLen) :
 Calls prog 30 #[.agg #[.string t,u],.agg #[.string t',u']] w λe w'=>e=.returned (.bool (decide (t=t'∧s=s')))∧N0 w w':=by
 unfold maxLen at hm;have HS:=Qa h;have h8:=Qa h';obtain⟨ao,cap,rfl⟩:=h.len;obtain⟨hb,h0,rfl⟩:=h'.len;clear h h'
 by_cases ht:t=t'
 ·subst ht
  by_cases hl:s.length=s'.length
  ·rw[<-hl]
   rw[<-hl] at h8;obtain⟨n,hn⟩:=EX s.length;rw[<-hn] at hm HS h8;rw[<-hn];obtain⟨B,hB⟩:=EX (decide (t=t∧s=s'));rw[<-hB];have HB:=Qa hB;have HN:=Qa hn;have ho:=Qa hl
   have hdn:((n:Int) != (n:Int))=false:=by simp
   clear hl hn hB;obtain⟨W0,h5⟩:=EX ((w.alloc (.cells #[.string t,.slice ao n cap] 46)).alloc (.cells #[.string t,.slice hb n h0] 46))
   have O0:Hid (N0 w W0):=by simp only[Hid];rw[h5];exact (VG.alloc _).alloc _
   have c1:W0.cell? ⟨w.heap.size,1,none⟩=some (.slice ao n cap):=by rw[h5];go_cell
   have c2:W0.cell? ⟨w.heap.size+1,1,none⟩=some (.slice hb n h0):=by rw[h5];go_cell
   have hs:=Qa (HS.o.past O0.o);have h6:=Qa (h8.o.past O0.o);go_enter func30,ntmps30;go_wp2;rw[<-h5];clear h5 HS h8
   go_loopw [5] (λi wr=>∃k:Nat,k<=n∧i=.int .i64 k∧N0 W0 wr∧(∀j,j<k->s.getD j (0,0)=s'.getD j (0,0))) (λi _=>n - (intOf i).toNat)
   case atStart=>exact⟨0,Nat.zero_le _,rfl,VG,λj hj=>by omega⟩
   case round =>
    obtain⟨k,hk,rfl,od,h7⟩:=hrel;have c1':=Ds od c1;have c2':=Ds od c2;have h4:=Qa h7;have OD:=Qa od;clear h7 c1 c2
    by_cases hlt:k<n
    ·have dlt:decide ((k:Int)<(n:Int))=true:=by simp;omega
     have dlt2:(k:Int)<(n:Int):=by omega
     have hg:k<s.length:=by rw[<-HN.o];exact hlt
     have h3:k<s'.length:=by rw[<-ho.o,<-HN.o];exact hlt
     obtain⟨b,off,cp,e1,x1,x2⟩:=(hs.o.past od).at k hg
     have ea:ao=some ⟨b,off,none⟩:=by simp at e1;exact e1.1
     subst ea;obtain⟨b',ha,cp',hd,hh,hr⟩:=(h6.o.past od).at k h3
     have ea:hb=some ⟨b',ha,none⟩:=by simp at hd;exact hd.1
     subst ea;clear e1 hd hg h3 od hs h6;obtain⟨p,hp⟩:=EX (s.getD k (0,0));obtain⟨q,hq⟩:=EX (s'.getD k (0,0));rw[<-hp] at x1 x2;rw[<-hq] at hh hr;have HP:=Qa hp;have HQ:=Qa hq;clear hp hq;obtain⟨p1,p2⟩:=p;obtain⟨q1,q2⟩:=q;simp only at x1 x2 hh hr
     by_cases h1:p1=q1
     ·subst h1
      have n1:(p1 != p1)=false:=by simp
      by_cases h2:p2=q2
      ·subst h2
       have n2:(p2 != p2)=false:=by simp
       go_wp2_with fail;go_quiet (fail);go_wp2
       go_roundw
       case rel =>
        refine⟨k+1,by omega,by go_num,OD.o.drewN nq,λj hj=>?_⟩
        by_cases hjk:j<k
        ·exact h4.o j hjk
        ·obtain rfl:j=k:=by omega
         rw[<-HP.o,<-HQ.o]
       case measure=>simp[intOf];omega
      ·have n2:(p2 != q2)=true:=by simpa using h2
       have HF:Hid (false=B):=by
        have:=HB.o;simp only[Hid];rw[this];have h9:s≠s':=LA (k:=k) (by rw[<-HP.o,<-HQ.o];simpa using h2);simp[h9]
       go_wp2_with fail;go_quiet (fail);go_wp2;go_ret;exact⟨JV HF.o,O0.o.same (OD.o.drewN nq)⟩
     ·have n1:(p1 != q1)=true:=by simpa using h1
      have HF:Hid (false=B):=by
       have:=HB.o;simp only[Hid];rw[this];have h9:s≠s':=LA (k:=k) (by rw[<-HP.o,<-HQ.o];intro e;exact h1 (congrArg Prod.fst e));simp[h9]
      go_wp2_with fail;go_quiet (fail);go_wp2;go_ret;exact⟨JV HF.o,O0.o.same (OD.o.drewN nq)⟩
    ·obtain rfl:k=n:=by omega
     have dlt:decide ((k:Int)<(k:Int))=false:=by simp
     have HF:Hid (true=B):=by
      have:=HB.o;simp only[Hid];rw[this];have he:s=s':=qz ho.o (by rw[<-HN.o];exact h4.o);simp[he]
     clear od;go_wp2;go_ret;exact⟨JV HF.o,O0.o.same OD.o⟩
  ·have hdn:((s.length:Int) != (s'.length:Int))=true:=by rw[bne_iff_ne];omega
   have hf:decide (t=t∧s=s')=false:=by simp;intro e;exact hl (by rw[e])
   rw[hf];generalize s.length=n at *;generalize s'.length=n' at *;clear hf;go_enter func30,ntmps30;go_wp2;go_ret;exact⟨rfl,(VG.alloc _).alloc _⟩
 ·have hd2:¬t.toList=t'.toList:=λe=>ht (F7 e)
  have hd3:decide (t.toList=t'.toList)=false:=by simpa using hd2
  have hf:decide (t=t'∧s=s')=false:=by simp[ht]
  rw[hf];go_enter func30,ntmps30;go_wp2;go_ret;exact⟨rfl,(VG.alloc _).alloc _⟩
theorem jK (va vb:Value) (l:List Qj) (w:World) (ha:Chs w va l) (hb:Chs w vb l) (hg:CL l) (h1:l.length<=1000) :
 Calls prog 12 #[va,vb] w λe w'=>e=.returned (.bool true)∧N0 w w':=by
 have HA:=Qa ha;have HB:=Qa hb;obtain⟨aa,ca,rfl,_⟩:=ha.len;obtain⟨ab,cb,rfl,_⟩:=hb.len;obtain⟨n,hn⟩:=EX l.length;rw[<-hn] at HA HB ⊢;have HN:=Qa (Vz hn hg)
 have hn1:n<=1000:=by omega
 have S0:=Qa (Only.refl (λ_=>False) w);clear ha hb hg hn h1;go_enter func12,ntmps12;go_wp2
 go_loopw [5] (λi wr=>∃k:Nat,k<=n∧i=.int .i64 k∧Hid (N0 w wr)) (λi _=>n - (intOf i).toNat)
 case atStart=>exact⟨0,Nat.zero_le _,rfl,S0⟩
 case round =>
  obtain⟨k,hk,rfl,hS⟩:=hrel;clear S0
  by_cases hlt:k<n
  ·have dlt:decide ((k:Int)<(n:Int))=true:=Qe (by omega)
   have dlt':decide (k<n)=true:=Qe hlt
   have h0:k<l.length:=by rw[<-HN.o.1];exact hlt
   have hm:=(HN.o.2.at h0).2.2;obtain⟨ba,oa,ua,ea,a0,a1,sa⟩:=(HA.o.past hS.o).at k h0;obtain⟨bb,ob,ub,eb,b0,b1,h2⟩:=(HB.o.past hS.o).at k h0;subst ea eb;obtain⟨t,ht⟩:=EX (strOfNums (l.getD k Qw).1);obtain⟨s,hs⟩:=EX ((l.getD k Qw).2);rw[<-ht] at a0 b0;rw[<-hs] at sa h2 hm;have CS:=Qa (λW (o:N0 wr W)=>yK t t ua ub s s W (sa.past o) (h2.past o) hm);rw[Qe ⟨rfl,rfl⟩] at CS;obtain⟨xa,ya,rfl⟩:=sa.len;obtain⟨xb,yb,rfl⟩:=h2.len;generalize s.length=sl at *
   have i0:(0:Int)<=(k:Int):=by omega
   have i1:(k:Int)<(n:Int):=by omega
   have KS:=Qa (λW (o:N0 wr W)=>Vz (Uw a0 o) (Vz (Uw a1 o) (Vz (Uw b0 o) (Uw b1 o))));clear sa h2 h0 hm ht hs;go_wp2_with fail
   go_region_held3 (λW=>W.cell? ⟨ba,oa+k*2,none⟩=some (.string t)∧W.cell? ⟨ba,oa+k*2+1,none⟩=some (.slice xa sl ya)∧W.cell? ⟨bb,ob+k*2,none⟩=some (.string t)∧W.cell? ⟨bb,ob+k*2+1,none⟩=some (.slice xb sl yb)) (first | exact KS.o _ VG | exact KS.o _ VG.drew | exact KS.o _ O1.o | assumption)
    ((go_at_call 30;refine (CS.o _ (VG.drew)).mono ?_;rintro e w1 ⟨rfl,o1⟩;have O1:=Qa (((Only.refl (λ_=>False) wr).drew).same o1);clear o1 CS))
   have F:=Qa (hS.o.same O1.o);clear KS O1 hS a0 a1 b0 b1;go_wp2
   go_roundw
   case rel=>exact⟨k+1,by omega,by go_num,F⟩
   case measure=>simp[intOf];omega
  ·obtain rfl:k=n:=by omega
   have dlt:decide ((k:Int)<(k:Int))=false:=Qi (by omega);go_wp2;go_ret;exact⟨rfl,hS.o⟩
structure CIN (K:LI) (w0 w:World) (kb RB SB j:Nat) (vf:Value) (root:LI) (ar:Option Addr) (rn cr:Nat):Prop where
 pre:PRE j root
 nr:NoCap (.slice ar rn cr)
 sb:w.heap[SB]? = some (.cells #[.int .u64 j,.slice ar rn cr] 31 (0,0))
 br:Bs .u8 w (.slice ar rn cr) root
 rd:RDR w RB K j root
 ft:0<j->∃l1,TCL l1∧Bs .u8 w vf (Q9 K (0,[]) 1 l1)∧(j=1->root=QG (QI K 1 l1 l1.length))
 kb:Blk w kb 5 (bl K)
 o:N0 w0 w
theorem RDR.ne {RB SB v:Nat} {K root:LI} {cs:Array Value} (h:RDR w RB K v root) (g:w.heap[SB]? = some (.cells cs 31 (0,0))):SB≠RB:=λe=>by
 obtain⟨kb,vr,tk,rf,h1,_⟩:=h;rw[e,h1] at g;simp at g
theorem RDR.off {RB v:Nat} {K root:LI} (h:RDR w RB K v root):OffB w RB:=by
 obtain⟨kb,vr,tk,rf,h1,_,h3⟩:=h;obtain⟨a,c,rfl⟩:=h3.len;exact OffB.rd h1
theorem RDR.keepS {RB SB v:Nat} {K root:LI} {x:Int} {a:Option Addr} {n c:Nat} (h:RDR w RB K v root) (g:w.heap[SB]? = some (.cells #[.int .u64 x,.slice a n c] 31 (0,0))) (o:Only (λk=>k=SB) w w'):RDR w' RB K v root:=by
 have hne:=h.ne g;obtain⟨kb,vr,tk,rf,h1,h2,h3⟩:=h;refine⟨kb,vr,tk,rf,o.heap h1 (λe=>hne e.symm),h2.keep o (λe=>?_),h3.offR (OffB.stt g) o⟩;have h0:w.heap[kb]? = _:=h2;rw[e,g] at h0;simp at h0
theorem RDR.blk {RB v kb:Nat} {K root:LI} (h:RDR w RB K v root) (o:Only (λk=>k=RB) w w') {xs:List Value} (hb:Blk w kb 5 xs):Blk w' kb 5 xs:=by
 obtain⟨_,vr,tk,rf,h1,h2,h3⟩:=h;refine hb.keep o (λe=>?_);have h0:w.heap[kb]? = _:=hb;rw[e,h1] at h0;simp at h0
theorem blkS {SB kb:Nat} {cs:Array Value} (g:w.heap[SB]? = some (.cells cs 31 (0,0))) (o:Only (λk=>k=SB) w w') {xs:List Value} (hb:Blk w kb 5 xs):Blk w' kb 5 xs:=by
 refine hb.keep o (λe=>?_);have h0:w.heap[kb]? = _:=hb;rw[e,g] at h0;simp at h0
theorem qU (s n:Int) (w:World) (hT:Tab w) :
 Calls prog 3 #[.int .i64 s,.int .i64 n] w λe w'=>e=.returned (.bool true)∧N0 w w':=by
 have A:=Qa (FO w hT);have KA:=Qa (λW=>Tn s W);have k8:=Sv s;have he:=Mx s;obtain⟨K,hK⟩:=EX (Va s);rw[<-hK] at k8 he;simp only[<-hK] at KA;obtain⟨k1,k7⟩:∃q:Nat,(q:Int)=n % 8:=⟨(n % 8).toNat,by omega⟩
 have and1:bits .and .i64 n 7=(k1:Int):=by rw[k7];exact Jh n 3 (by decide)
 have k17:k1<=7:=by omega
 have NW:=Qa (λ(W:World) (v:Value) (b:Bs .u8 W v K)=>Em v K W b he);have HT:=Qa (Vz hT (Vz he k8));clear hK k8 k7 hT he;go_enter func3,ntmps3;go_wp2_with fail;refine A.o.mono ?_;rintro e w1 ⟨rfl,o1⟩;have O1:=Qa o1;clear A o1;go_wp2_with fail;refine (KA.o w1).mono ?_;rintro e w2 ⟨rfl,ha,o2⟩;obtain⟨kb,h5⟩:=EX w1.heap.size;rw[<-h5] at ha ⊢;have N2:=Qa (NW.o w2 _ (ha.bs 32 HT.o.2.1));have O2:=Qa (O1.o.same o2);have KB:=Qa ha;clear ha o2 O1 KA NW h5;go_wp2_with fail;refine N2.o.mono ?_;rintro e w3 ⟨RB,rfl,k4,hrb,o3⟩;obtain⟨SB,hl⟩:=EX w3.heap.size;obtain⟨W,hW⟩:=EX (w3.alloc (.cells #[.int .u64 0,.slice none 0 0] 31))
 have o4:N0 w3 W:=by rw[hW];exact VG.alloc _
 have S0:Hid (∃root ar rn cr,CIN K w W kb RB SB 0 (.slice none 0 0) root ar rn cr):=⟨[],none,0,0,⟨λy hy=>(by cases hy),.inl ⟨rfl,rfl⟩⟩,NoCap.nil,by rw[hW,hl];exact heap_alloc_new _ _,Bs.nil _ _,k4.past o4,λh=>absurd h (Nat.lt_irrefl _),(KB.o.past o3).past o4,(O2.o.same o3).same o4⟩;have HZ:=Qa (Vz (show w.heap.size<=RB by have:=O2.o.size;omega) (show w.heap.size<=SB by have:=(O2.o.same o3).size;omega));have HW:=Qa hW;clear k4 hrb o3 o4 hW KB N2 O2;go_wp2;rw[<-HW.o,<-hl];clear hl
 go_loopw [10,12] (λvf i wr=>∃p j:Nat,p<=k1+2∧i=.int .i64 p∧(∃a b c,vf=.slice a b c)∧Hid (p=j+1)∧Hid (∃root ar rn cr,CIN K w wr kb RB SB j vf root ar rn cr)) (λ_ i _=>k1+2 - (intOf i).toNat)
 case atStart=>exact⟨1,0,by omega,rfl,⟨_,_,_,rfl⟩,rfl,S0⟩
 case round =>
  obtain⟨p,j,hp,rfl,⟨fa,fb,fc,rfl⟩,h4,hS⟩:=hrel;clear S0 HW
  by_cases hlt:p<=k1+1
  ·have dle:decide ((p:Int)<=1+(k1:Int))=true:=Qe (by omega)
   have hp8:p<=8:=by omega
   obtain⟨root,ar,rn,cr,ci⟩:=hS.o;obtain⟨q,hq⟩:∃q:Nat,(q:Int)=(p:Int) % 4:=⟨p % 4,by omega⟩;obtain⟨r,hr⟩:∃r:Nat,(r:Int)=(p:Int) % 2:=⟨p % 2,by omega⟩
   have and3:bits .and .i64 (p:Int) 3=(q:Int):=by rw[hq];exact Jh p 2 (by decide)
   have hcv:IntKind.u64.wrap (p:Int)=(p:Int):=by simp[IntKind.wrap,IntKind.bits,IntKind.signed];omega
   have CX:=Qa (Eg q 3 r p wr hr (by omega) (by decide) (by omega) (by omega));rw[show ((3:Nat):Int)=3 from rfl] at CX
   have hq3:q<=16:=by omega
   have CI:=Qa ci;clear hq hr hS;go_wp2_with fail;refine CX.o.mono ?_;rintro e w2 ⟨vl,l,rfl,k5,hx,hd,o2⟩;obtain⟨al,cl,rfl,_⟩:=hd.len;have tl:TCL l:=⟨by omega,r,by rw[k5];exact hx⟩;obtain⟨s0,s1,_,_⟩:=Qs (o2.heap CI.o.sb (λf=>f));have ht:=HT.o.1.past (CI.o.o.same o2);have BD:=Qa (rg _ _ _ ((CI.o.kb.past o2).bs 32 HT.o.2.1) HT.o.2.2 HT.o.2.1 (CI.o.br.past o2) CI.o.nr CI.o.pre hd h4.o (by omega) tl ht);have H2:=Qa (Vz hd (Vz o2 tl));clear CX hd o2 tl k5 hx ht ci;go_wp2_with fail;refine BD.o.mono ?_;rintro e w3 ⟨ba,bn,bk,ra,rc,rfl,hb,hr,hw,o3⟩;obtain⟨T1,hm⟩:=EX w3.heap.size;obtain⟨W4,h9⟩:=EX (w3.alloc (.cells #[.int .u64 p,.slice ra 32 rc] 31))
   have o4:N0 w3 W4:=by rw[h9];exact VG.alloc _
   have gT:W4.heap[T1]? = some (.cells #[.int .u64 p,.slice ra 32 rc] 31 (0,0)):=by rw[h9,hm];exact heap_alloc_new _ _
   have h8:=(H2.o.2.1.same o3).same o4;have hg:=CI.o.rd.past h8;have OF:=Qa (Ex hg HT.o.2.2 HT.o.2.1 CI.o.pre h4.o (by omega) H2.o.2.2 _ (hb.past o4) (HT.o.1.past (CI.o.o.same h8)));have H4:=Qa (Vz h8 (Vz hg (Vz gT (Vz (hb.past o4) (Vz (hr.past o4) (Vz hw ((H2.o.1.past o3).past o4)))))));have hh:=Qa (Vz h9 hm);clear BD hb hr hw o3 hm h9 o4 gT h8 hg s0 s1;go_wp2_with fail;rw[<-hh.o.1,<-hh.o.2];clear hh;refine OF.o.mono ?_;rintro e w5 ⟨ga,gn,gc,rfl,k0,h0,o5⟩;have h6:=H4.o.2.1.off;have k9:=o5.heap H4.o.2.2.1 (H4.o.2.1.ne H4.o.2.2.1);have hSR:=(CI.o.rd.ne CI.o.sb);have hf:=o5.heap (H4.o.1.heap CI.o.sb (λf=>f)) hSR;have hz:=H4.o.2.2.2.1.offR h6 o5;have hn:=H4.o.2.2.2.2.1.offR h6 o5;have k2:=H4.o.2.2.2.2.2.2.offR h6 o5;have h5:=H4.o.2.1.blk o5 (CI.o.kb.past H4.o.1);have ho:N0 w w5:=(CI.o.o.same H4.o.1).trans o5 (λk hk e=>by have:=HZ.o.1;omega)
   have k6:∀xs,Bs .u8 wr (.slice fa fb fc) xs->Bs .u8 w5 (.slice fa fb fc) xs:=λxs h=>(h.past H4.o.1).offR h6 o5
   have NX:=Qa (λ(w8:World) (o8:N0 w5 w8) (vf:Value) (hvf:(p=1∧vf=.slice ba bn bk)∨(p≠1∧vf=.slice fa fb fc))=>show CIN K w ((w8.setCell ⟨SB,0,none⟩ (.int .u64 p)).setCell ⟨SB,1,none⟩ (.slice ra 32 rc)) kb RB SB p vf (QG (QI K p l l.length)) ra 32 rc from by
    have h3:=o8.heap hf (λf=>f);have oS:=((Only.refl (λk=>k=SB) w8).setCell (p:=⟨SB,0,none⟩) (λ_=>rfl) (.int .u64 p)).setCell (p:=⟨SB,1,none⟩) (λ_=>rfl) (.slice ra 32 rc);refine⟨⟨Zn _,.inr ⟨by have:=h4.o;omega,Um _⟩⟩,H4.o.2.2.2.2.2.1,Un _ _ h3,(hn.past o8).offR (OffB.stt h3) oS,(h0.past o8).keepS h3 oS,λ_=>?_,blkS h3 oS (h5.past o8),(ho.same o8).trans oS (λk hk e=>by have:=HZ.o.2;omega)⟩
    rcases hvf with ⟨h1,rfl⟩ | ⟨h1,rfl⟩
    ·have hj0:j=0:=by have:=h4.o;omega
     have hr0:root=[]:=by rcases CI.o.pre.2 with ⟨_,h⟩ | ⟨h,_⟩;exact h;omega
     refine⟨l,H2.o.2.2,?_,λ_=>by rw[h1]⟩;have h2:=(hz.past o8).offR (OffB.stt h3) oS
     have e:Q9 K (j,root) p l=Q9 K (0,[]) 1 l:=by rw[hj0,hr0,h1]
     rw[e] at h2;exact h2
    ·obtain⟨l1,q1,q2,_⟩:=CI.o.ft (by have:=h4.o;omega)
     exact⟨l1,q1,((k6 _ q2).past o8).offR (OffB.stt h3) oS,λh=>absurd h h1⟩)
   have SM:=Qa (λ(w8:World) (o8:N0 w5 w8)=>jK _ _ l w8 (k0.past o8) (k2.past o8) H2.o.2.2.cl (by have:=H2.o.2.2.len;omega));have ST:=Qa (λ(w8:World) (o8:N0 w5 w8)=>Dy (h0.past o8) (Um _))
   have SS:=Qa (λ(w8:World) (u:Nat) (o8:N0 w5 w8) (h:Blk w8 u 5 (bl (QG (QI K p l l.length))))=>(show Calls prog 13 #[.agg #[.int .u64 p,.slice (some ⟨u,0,none⟩) 32 32],.agg #[.int .u64 p,.slice ra 32 rc]] w8 λe w'=>e=.returned (.bool true)∧N0 w8 w' from by
    have:=qA p p _ _ _ _ w8 (h.bs 32 (Um _)) (hn.past o8) (by rw[Um];decide)
    rwa [Qe ⟨rfl,rfl⟩] at this))
   have KS:=Qa (λ(w8:World) (o8:N0 w5 w8)=>(show w8.cell? ⟨T1,0,none⟩=some (.int .u64 p)∧w8.cell? ⟨T1,1,none⟩=some (.slice ra 32 rc) from have h:=Qs (o8.heap k9 (λf=>f));⟨h.1,h.2.1⟩));have SC:=Qa (λ(w8:World) (o8:N0 w5 w8)=>Qs (o8.heap hf (λf=>f)));have CR:Hid (N0 w5 w5.drew):=VG.drew;clear OF k0 h0 o5 h6 k9 hf hz hn k2 h5 ho k6 H2 H4 CI;go_wp2_with fail
   go_region_held3 (λW'=>W'.cell? ⟨T1,0,none⟩=some (.int .u64 p)∧W'.cell? ⟨T1,1,none⟩=some (.slice ra 32 rc))
    (first | assumption | exact KS.o _ CR.o)
    (first|(go_at_call 12;refine (SM.o _ CR.o).mono ?_;rintro e w6 ⟨rfl,o6⟩;have CR:=Qa (CR.o.same o6);clear o6)|(go_at_call 14;refine (ST.o _ CR.o).mono ?_;rintro e w7 ⟨u,rfl,hu,o7⟩;have CR:=Qa (CR.o.same o7);have HU:=Qa hu;clear hu o7)|(go_at_call 13;refine (SS.o _ _ CR.o HU.o).mono ?_;rintro e w8 ⟨rfl,o8⟩;have CR:=Qa (CR.o.same o8);clear o8))
   all_goals
    obtain⟨t0,t1⟩:=KS.o _ CR.o;obtain⟨s0,s1,f0,f1⟩:=SC.o _ CR.o
    by_cases hp1:p=1
    case' pos =>
     have e1:((p:Int) == 1)=true:=by rw[hp1];rfl
     have N1:=Qa (NX.o _ CR.o _ (.inl ⟨hp1,rfl⟩))
    case' neg =>
     have e1:((p:Int) == 1)=false:=by rw[beq_eq_false_iff_ne];omega
     have N1:=Qa (NX.o _ CR.o _ (.inr ⟨hp1,rfl⟩))
    all_goals
     clear hp1 NX SM ST SS KS SC CR HU;go_wp2
     go_roundw
     case rel=>exact⟨p+1,p,by omega,by go_num,⟨_,_,_,rfl⟩,rfl,⟨_,_,_,_,N1.o⟩⟩
     case measure=>simp[intOf];omega
  ·have dle:decide ((p:Int)<=1+(k1:Int))=false:=Qi (by omega)
   obtain⟨root,ar,rn,cr,ci⟩:=hS.o
   have hj:j=k1+1:=by have:=h4.o;omega
   obtain⟨l1,q1,q2,q3⟩:=ci.ft (by omega)
   have h7:root.length=32:=by rcases ci.pre.2 with ⟨h,_⟩ | ⟨_,h⟩;omega;exact h
   have OF:=Qa (yx ci.rd HT.o.2.2 HT.o.2.1 ci.pre.1 h7 (by omega) q1 q3 _ q2 (HT.o.1.past ci.o))
   have hcv:IntKind.u64.wrap (1+(k1:Int))=1+(k1:Int):=by simp[IntKind.wrap,IntKind.bits,IntKind.signed];omega
   have hv:((j:Int) == 1+(k1:Int))=true:=by rw[hj];simp;omega
   have CO:=Qa ci.o;clear ci q1 q2 q3 h7 hS
   by_cases hk:k1=0
   case' pos =>
    rw[if_pos (by omega:j=1)] at OF
    have e1:(1+(k1:Int) == 1)=true:=by rw[hk];rfl
   case' neg =>
    rw[if_neg (by omega:¬j=1)] at OF
    have e1:(1+(k1:Int) == 1)=false:=by rw[beq_eq_false_iff_ne];omega
    have e2:decide ((1:Int)<1+(k1:Int))=true:=Qe (by omega)
   all_goals
    clear hk hj;go_wp2_with fail;refine OF.o.mono ?_;rintro e w2 ⟨a2,n2,c2,rfl,⟨r2,hs,k3⟩,o2⟩;have ST:=Qa (Dy k3 hs);have O2:=Qa (CO.o.trans o2 (λk hk e=>by have:=HZ.o.1;omega));clear OF hs k3 o2 CO;go_wp2_with fail;refine ST.o.mono ?_;rintro e w3 ⟨u,rfl,_,o3⟩;have F:=Qa (O2.o.same o3)
    have fd:∀W:World,(Instr.field 31 (.agg #[.int .u64 j,.slice (some ⟨u,0,none⟩) 32 32]) 0).run prog W=.ok (.int .u64 j) W:=λ_=>by kernel_rfl
    clear ST o3 O2;go_wp2;go_ret;exact⟨rfl,F.o⟩
theorem qn (s n:Int) (w:World) (hT:Tab w):Calls prog 3 #[.int .i64 s,.int .i64 n] w λe w'=>e=.returned (.bool true)∧Below w.heap.size w w':=IS (qU s n w hT)
end Go.Proofs.YtiochaeeoelmjaaGreatDoor
