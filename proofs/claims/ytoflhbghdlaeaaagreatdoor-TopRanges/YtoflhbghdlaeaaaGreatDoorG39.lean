import Derived.Test.YtoflhbghdlaeaaaGreatDoorG38
namespace Go.Proofs.YtoflhbghdlaeaaaGreatDoor
set_option maxHeartbeats 4000000
set_option maxRecDepth 100000
open Go.RowKit _root_.Go.Proofs.Tryz
variable {w w' W:World} {v:Value} {ys xs l:LI} {R n p k g B:Nat} {P:Program} {ls:List (LI)} {E:TypeId}
def pan (c:Int):Ending:=.panicked [{ v:=.iface 27 (.int .i64 c),recovered:=false }]
def part (a q:Nat) (l:List Bool) (n k:Nat):LI:=nums a q l k++List.replicate (n - k) 0
section
open Go.Maps
def RB (many n:Nat) (rest:LI):LI × Int :=
 if rest.length<8*many then ([],2) else
 if (Xg (rest.drop (8*many))).length<n*wP many then ([],2) else
 if ∃p∈rdP (wP many) n (Xg (rest.drop (8*many))),many<=p then ([],3) else
 ((rdP (wP many) n (Xg (rest.drop (8*many)))).map (λp=>(rd8 many rest).getD p 0),0)
end
section
attribute [local go_sem ↓] Go.wp_at_zero Go.wp_at_succ
def RP (w:World) (R:Nat) (D:(LI × List (Int × Int)) × Int):Ending->World->Prop:=λe w' =>
 ((D.2=0∧∃u,e=.returned (.agg #[.string (strOfNums D.1.1),u])∧w'.ownsRow w.heap.size 63 2 u D.1.2.length (YL D.1.2))∨(D.2≠0∧e=pan D.2))∧Only (λk=>k=R) w w'
end
def Ui (s:List (ByteArray × Value)):List Value:=s.flatMap λp=>[.string p.1,p.2]
abbrev KZ:ByteArray × Value:=(⟨#[]⟩,.slice none 0 0)
theorem Gi (p:ByteArray × Value) (s:List (ByteArray × Value)):Ui (p :: s)=.string p.1 :: p.2 :: Ui s:=rfl
theorem uP (s:List (ByteArray × Value)):(Ui s).length=s.length*2:=by
 induction s with
 | nil=>rfl
 | cons p s ih=>rw[Gi];simp only[Qi,ih];omega
theorem MW (s:List (ByteArray × Value)):∀(j:Nat),j<s.length->(Ui s)[j*2]? = some (.string (s.getD j KZ).1)∧(Ui s)[j*2+1]? = some (s.getD j KZ).2:=by
 induction s with
 | nil=>intro j hj;simp at hj
 | cons p s ih =>
  intro j hj
  cases j with
  | zero=>rw[Gi];exact⟨rfl,rfl⟩
  | succ j =>
   have hj':j<s.length:=by simpa using hj
   obtain⟨h0,h1⟩:=ih j hj';rw[Gi,show (j+1)*2=j*2+1+1 by omega];simp only[List.getElem?_cons_succ,List.getD_cons_succ];exact⟨h0,h1⟩
abbrev NMS:List (LI):=[[97,110,116],[98,101,101],[99,97,116]]
def SOK (i:Nat) (s:List (Int × Int)):Prop:=∀k,k<s.length->(s.getD k (0,0)).1=1000*(i:Int)+10*(k:Int)∧0<=(s.getD k (0,0)).2∧(s.getD k (0,0)).2<=15
structure COK (r i m:Nat) (c:Qk):Prop where
 t:c.1=NMS.getD ((i+r) % 3) []
 l:c.2.length=m
 s:SOK i c.2
theorem SOK.snoc {i:Nat} {s:List (Int × Int)} (h:SOK i s) {k:Nat} (hk:s.length=k) {a b:Int} (ha:a=1000*(i:Int)+10*(k:Int)) (hb:0<=b∧b<=15):SOK i (s++[(a,b)]):=λj hj=>by
 rw[Qc,List.length_singleton] at hj;rw[Qd]
 rcases Nat.lt_or_ge j s.length with h1 | h1
 ·rw[List.getElem?_append_left h1,<-Qd];exact h j h1
 ·obtain rfl:j=s.length:=by omega
  rw[List.getElem?_append_right (Nat.le_refl _),Nat.sub_self];subst hk;exact⟨ha,hb⟩
theorem Ol (s:List (Int × Int)) (a b:Int):YL (s++[(a,b)])=YL s++[.int .i64 a,.int .u64 b]:=by simp[YL]
theorem Eh (s:List (ByteArray × Value)) (a:ByteArray) (b:Value):Ui (s++[(a,b)])=Ui s++[.string a,b]:=by simp[Ui]
theorem RC {lo b n m:Nat} {E F:TypeId} {u v:Value} {xs ys:List Value} (h:w.ownsRow lo E 2 u n xs) (g:w.ownsRow b F 2 v m ys) (hne:E≠F) (k:Nat) (hk:u.ownBlock=some k):¬v.ownBlock=some k:=λe=>by
 rcases h.2 with ⟨rfl,_⟩ | ⟨p,_,_,rfl,_,hp,_⟩
 ·cases hk
 ·rcases g.2 with ⟨rfl,_⟩ | ⟨q,_,_,rfl,_,hq,_⟩
  ·cases e
  ·cases hk;cases e
   rw[hp] at hq
   cases hq
   exact hne rfl
def CI (W0 wr:World) (B i k:Nat) (t:ByteArray):Prop:=∃(v:Value) (s:List (Int × Int)),s.length=k∧SOK i s∧wr.heap[B]? = some (.cells #[.string t,v] 61 (0,0))∧wr.ownsRow (B+1) 63 2 v k (YL s)∧Only (λj=>j=B) W0 wr
def CQ (w wr:World) (r m i:Nat) (o:Value) (cs:List Qk) (ps:List (ByteArray × Value)):Prop:=cs.length=i∧ps.length=i∧(∀j,j<i->COK r j m (cs.getD j Qz)) ∧
 (∀j p,ps[j]? = some p->p.1=strOfNums (cs.getD j Qz).1∧wr.ownsRow (w.heap.size+1) 63 2 p.2 (cs.getD j Qz).2.length (YL (cs.getD j Qz).2)) ∧
 wr.ownsRow (w.heap.size+1) 61 2 o i (Ui ps)∧N0 w wr∧wr.heap[w.heap.size]? = some (.cells #[.string (strOfNums [97,110,116]),.string (strOfNums [98,101,101]),.string (strOfNums [99,97,116])] 9 (0,0))
def CO (w wr:World) (r m i:Nat) (o:Value):Prop:=∃(cs:List Qk) (ps:List (ByteArray × Value)),CQ w wr r m i o cs ps
theorem CO.chs {w wr:World} {r m i:Nat} {o:Value} (h:CO w wr r m i o):∃cs:List Qk,cs.length=i∧(∀j,j<i->COK r j m (cs.getD j Qz))∧Chs wr o cs:=by
 obtain⟨cs,ps,h1,h2,h3,h4,h5,_,_⟩:=h;refine⟨cs,h1,h3,?_⟩
 rcases h5.2 with ⟨rfl,h0⟩ | ⟨g,cap,cur,rfl,_,hg,hc,_⟩
 ·have:cs=[]:=List.eq_nil_of_length_eq_zero (by omega)
  subst this;exact⟨none,0,rfl,Nat.le_refl _,λh=>absurd rfl h⟩
 ·refine⟨_,cap,by rw[h1],by omega,λ_=>⟨g,0,rfl,λj hj=>?_⟩⟩
  have h6:j<ps.length:=by omega
  obtain⟨e1,e2⟩:=h4 j _ (Qg h6);obtain⟨a1,a2⟩:=MW ps j h6
  have hgd:ps.getD j KZ=ps[j]:=by rw[Qd,Qg h6,Option.getD_some]
  rw[hgd] at a1 a2;have hl:=uP ps;refine⟨ps[j].2,?_,?_,Sps.of_own e2⟩
  ·rw[Nat.zero_add,World.ownsRow.cellAt h5 (j*2) (by omega),a1,e1]
  ·rw[Nat.zero_add,World.ownsRow.cellAt h5 (j*2+1) (by omega),a2]
theorem CQ.snoc {w wr w2 w3:World} {r m i B:Nat} {o o':Value} {t:LI} {cs:List Qk} {ps:List (ByteArray × Value)} (h:CQ w wr r m i o cs ps) (ht:t=NMS.getD ((i+r) % 3) []) (hB:B=wr.heap.size) {v:Value} {s:List (Int × Int)} (hl:s.length=m) (hs:SOK i s)
 (hv:w2.ownsRow (B+1) 63 2 v m (YL s)) (o2:N0 wr w2) (x:Obj) (g:(w2.alloc x).grownBy w3 o.ownBlock)
 (own:w3.ownsRow (w.heap.size+1) 61 2 o' (i+1) (Ui ps++[.string (strOfNums t),v])):CO w w3 r m (i+1) o':=by
 obtain⟨h1,h2,h3,h4,h5,h6,h7⟩:=h;have h0:=o2.own h5 (λ_ _ f=>f);have og:Only (λj=>o.ownBlock=some j) w2 w3:=((Only.refl _ w2).alloc x).grown g (λj _ e=>e);have hsz:=h6.size
 have hw:wr.heap.size≥w.heap.size+1:=by have:=(Array.getElem?_eq_some_iff.1 h7).1;omega
 refine⟨cs++[(t,s)],ps++[(strOfNums t,v)],by simp[h1],by simp[h2],λj hj=>?_,λj p hp=>?_,by rw[Eh];exact own,(h6.same o2).trans og (λj hj e=>by have:=(h5.lt j e).1;omega),?_⟩
 ·rcases Nat.lt_or_ge j i with e | e
  ·rw[Qd,List.getElem?_append_left (by omega),<-Qd];exact h3 j e
  ·obtain rfl:j=cs.length:=by omega
   rw[Qd,List.getElem?_append_right (Nat.le_refl _),Nat.sub_self];subst h1;exact⟨ht,hl,hs⟩
 ·rcases Nat.lt_or_ge j i with e | e
  ·rw[List.getElem?_append_left (by omega)] at hp
   obtain⟨q1,q2⟩:=h4 j p hp;rw[Qd,List.getElem?_append_left (by omega),<-Qd];have q3:=o2.own q2 (λ_ _ f=>f);exact⟨q1,og.own q3 (λk hk e=>RC q3 h0 (by decide) k hk e)⟩
  ·have hj:j<(ps++[(strOfNums t,v)]).length:=(List.getElem?_eq_some_iff.1 hp).1
   have hj':j=ps.length:=by simp at hj;omega
   subst hj';rw[List.getElem?_append_right (Nat.le_refl _),Nat.sub_self] at hp
   cases hp
   rw[Qd,List.getElem?_append_right (by omega),h1,h2,Nat.sub_self];refine⟨rfl,?_⟩
   show w3.ownsRow _ _ 2 v s.length (YL s)
   rw[hl];exact Qu (og.own hv (λk hk e=>RC hv h0 (by decide) k hk e)) (by omega)
 ·exact og.heap (o2.heap h7 (λf=>f)) (λe=>by have:=(h5.lt _ e).1;omega)
theorem T7 (q:Nat):(NMS.getD (q % 3) []).length=3∧U8 (NMS.getD (q % 3) []):=by
 have h:q % 3<3:=Nat.mod_lt _ (by decide);generalize q % 3=j at h
 rcases j with _ | _ | _ | j
 ·exact⟨rfl,λy hy=>by simp at hy;omega⟩
 ·exact⟨rfl,λy hy=>by simp at hy;omega⟩
 ·exact⟨rfl,λy hy=>by simp at hy;omega⟩
 ·omega
theorem COK.t3 {r i m:Nat} {c:Qk} (h:COK r i m c):c.1.length=3:=by rw[h.t];exact (T7 _).1
theorem COK.cg {r i m:Nat} {c:Qk} (h:COK r i m c) (hi:i<=16) (hm:m<=64):CG c:=by
 refine⟨by rw[h.t];exact (T7 _).2,λx hx=>?_,λx hx=>?_⟩
 ·obtain⟨p,hp,rfl⟩:=List.mem_map.1 hx
  obtain⟨k,hk,rfl⟩:=List.mem_iff_getElem.1 hp;have:=h.s k hk;rw[Qd,Qg hk,Option.getD_some] at this;have hk':=h.l
  show -9223372036854775808<=(c.2[k]).1∧(c.2[k]).1<=9223372036854775807
  omega
 ·obtain⟨p,hp,rfl⟩:=List.mem_map.1 hx
  obtain⟨k,hk,rfl⟩:=List.mem_iff_getElem.1 hp;have:=h.s k hk;rw[Qd,Qg hk,Option.getD_some] at this;omega
theorem COK.enc {r i m:Nat} {c:Qk} (h:COK r i m c) (hm:m<=64):(ENCC c.1 c.2).2=0∧(Q0 c).length<=4194300:=by
 have h3:=h.t3;have hl:=h.l;refine⟨Ap (by omega) (by omega),?_⟩;have:=AZ (tn:=c.1) (s:=c.2) (by omega) (by omega);unfold Q0;omega
theorem COK.ce {r i m:Nat} {c:Qk} {k:LI} (h:COK r i m c) (hi:i<=16) (hm:m<=64) (hk:k.length=32):YD k i c=0∧Yg (QN k c) i c=0:=by
 have h3:=h.t3
 have h1:QL k c.1=0:=by unfold QL;rw[if_pos hk,if_pos (by omega)]
 have h2:(QN k c).length=32:=by unfold QN QT;rw[if_pos hk,if_pos (by omega),Wf]
 have h4:Yg (QN k c) i c=0:=by
  obtain⟨e1,e2⟩:=h.enc hm;unfold Yg Yo Uo;rw[if_pos h2,if_pos (by omega),if_pos e1,if_pos e2]
 refine⟨?_,h4⟩;unfold YD;rw[if_pos h1,h4]
theorem GP {m:LI}:∀(l:List Qk) (k:Nat),(∀j,j<l.length->YD m (k+j) (l.getD j Qz)=0)->QZ m k l=0
 | [],_,_=>rfl
 | c :: l,k,h=>by
  rw[QZ,if_pos (by simpa using h 0 (by simp))]
  refine GP l (k+1) λj hj=>?_
  have:=h (j+1) (by simpa using hj);rw[show k+1+j=k+(j+1) by omega]
  simpa using this
theorem vC {m:LI} {v n r:Nat} {l:List Qk} (hm:m.length=32) (hv:v<18446744073709551615) (hl:l.length<=17) (hn:n<=64) (h:∀j,j<l.length->COK r j n (l.getD j Qz)):Ym m (0,[]) v l=0:=by
 have e:Y4 m (0,[]) v l.length=0:=by
  unfold Y4;rw[if_pos (c:=m.length=32∧Vm (0,[])∧v≠18446744073709551615) ⟨hm,.inl rfl,by omega⟩,if_neg (by simp),if_neg (by omega)]
 unfold Ym;rw[if_pos e]
 exact GP l 0 λj hj=>by rw[Nat.zero_add];exact ((h j hj).ce (by omega) hn hm).1
theorem kM {n r:Nat} {l:List Qk} (hl:l.length<=17) (hn:n<=64) (h:∀j,j<l.length->COK r j n (l.getD j Qz)):CL l:=λc hc=>by
 obtain⟨j,hj,rfl⟩:=List.mem_iff_getElem.1 hc;have:=h j hj;rw[Qd,Qg hj,Option.getD_some] at this;have h3:=this.t3;have h4:=this.l;exact⟨this.cg (by omega) hn,by rw[h3];decide,by rw[h4];unfold maxLen;omega⟩
theorem XF (x:Int):0<=IntKind.u64.wrap x∧IntKind.u64.wrap x<=18446744073709551615:=by
 simp[IntKind.wrap,IntKind.bits,IntKind.signed];omega
theorem CO.only {w wr:World} {r m i:Nat} {o:Value} (h:CO w wr r m i o):N0 w wr:=by
 obtain⟨_,_,_,_,_,_,_,h6,_⟩:=h;exact h6
theorem Nl {lo n:Nat} {xs:List Value} (h:w.ownsRow lo E 2 v n xs):∃ao cap,v=.slice ao n cap:=by
 rcases h.2 with ⟨rfl,rfl⟩ | ⟨g,cap,cur,rfl,_⟩
 ·exact⟨none,0,rfl⟩
 ·exact⟨_,cap,rfl⟩
theorem AY (n m r:Nat) (sd:Int) (w:World) (hr:(r:Int)=sd % 2) (hn:n<=17) (hm:m<=64) (hs0:0<=sd) (hs1:sd<=1023) :
 Calls prog 7 #[.int .i64 n,.int .i64 m,.int .i64 sd] w λe w'=>∃v cs,e=.returned v∧cs.length=n∧(∀j,j<n->COK r j m (cs.getD j Qz))∧Chs w' v cs∧N0 w w':=by
 obtain⟨i0,hi,hz0,hz1,hz2⟩:=info_parts Tryz.infoSm;obtain⟨i1,hj,hy0,hy1,hy2⟩:=info_parts Tryz.infoCk
 have hand:bits .and .i64 sd 1=(r:Int):=by rw[hr];exact Xb sd 1 (by decide)
 have hr1:r<=1:=by omega
 clear hr;go_enter func7,ntmps7;go_wp2
 have S0:Hid (CO w (w.alloc (.cells #[.string ⟨#[97,110,116]⟩,.string ⟨#[98,101,101]⟩,.string ⟨#[99,97,116]⟩] 9)) r m 0 (.slice none 0 0)) :=
  ⟨[],[],rfl,rfl,λj h=>absurd h (Nat.not_lt_zero _),λj p h=>by simp at h,World.ownsRow_nil _ _ _ _,(Only.refl _ _).alloc _,heap_alloc_new _ _⟩
 go_loopw [8,9,10] (λo x i wr=>∃(k:Nat) (y:Int),k<=n∧i=.int .i64 k∧x=.int .u64 y∧0<=y∧y<=18446744073709551615∧Hid (CO w wr r m k o)) (λ_ _ i _=>n - (intOf i).toNat)
 case atStart=>exact⟨0,_,Nat.zero_le _,rfl,rfl,by omega,by omega,S0⟩
 case round =>
  obtain⟨k,y,hk,rfl,rfl,hy0',hy1',hS⟩:=hrel;clear S0
  by_cases hlt:k<n
  ·have dlt:decide ((k:Int)<(n:Int))=true:=Qe (by omega)
   obtain⟨j,hd⟩:=EX ((k+r) % 3)
   have hj3:j<3:=by omega
   have e1:((k:Int)+(r:Int)).tmod 3=(j:Int):=by rw[Int.tmod_eq_emod_of_nonneg (by omega)];omega
   have i1:(0:Int)<=(j:Int):=by omega
   have i2:(j:Int)<3:=by omega
   obtain⟨t,ht⟩:=EX (NMS.getD j [])
   have hf:t=NMS.getD ((k+r) % 3) []:=by rw[ht,hd]
   have c0:wr.cell? ⟨w.heap.size,j,none⟩=some (.string (strOfNums t)):=by
    obtain⟨_,_,_,_,_,_,_,_,hb⟩:=hS.o;rw[cell_of_row wr _ j _ _ _ hb,ht]
    rcases j with _ | _ | _ | j
    ·rfl
    ·rfl
    ·rfl
    ·omega
   have HT:=Qa hf;clear hd ht hf hj3;obtain⟨T,hT⟩:=EX (strOfNums t);rw[<-hT] at c0;have HTT:=Qa hT;obtain⟨W0,h0⟩:=EX (wr.alloc (.cells #[.string T,.slice none 0 0] 61));obtain⟨B,hB⟩:=EX wr.heap.size;have S1:Hid (CI W0 W0 B k 0 T):=⟨.slice none 0 0,[],rfl,λj h=>absurd h (Nat.not_lt_zero _),by rw[h0,hB];exact heap_alloc_new _ _,World.ownsRow_nil _ _ _ _,Only.refl _ _⟩;have ha:=Qa (And.intro h0 hB);obtain⟨cs,ps,hQ⟩:=hS.o
   have FIN:=Qa (λ(w2:World) (v:Value) (s:List (Int × Int)) (h1:s.length=m) (h2:SOK k s) (h4:w2.ownsRow (B+1) 63 2 v m (YL s)) (h5:Only (λj=>j=B) W0 w2)=>show w2.ownsRow (w.heap.size+1) 61 2 u8 k (Ui ps)∧w.heap.size+1<=w2.heap.size∧∀(x:Obj) (o':Value) (w3:World),(w2.alloc x).grownBy w3 u8.ownBlock->w3.ownsRow (w.heap.size+1) 61 2 o' (k+1) (Ui ps++[.string T,v])->CO w w3 r m (k+1) o' from by
    have o2:N0 wr w2:=((Only.refl (λ_=>False) wr).alloc (.cells #[.string T,.slice none 0 0] 61)).trans (by rw[<-h0];exact h5) (λi hi e=>by omega);have h7:=(Array.getElem?_eq_some_iff.1 hQ.2.2.2.2.2.2).1
    refine⟨o2.own hQ.2.2.2.2.1 (λ_ _ f=>f),by have:=o2.size;omega,λx o' w3 g own=>hQ.snoc HT.o hB h1 h2 h4 o2 x g (by rw[<-hT];exact own)⟩)
   clear hT h0 hQ hS;go_wp2;rw[<-ha.o.1,<-hB];clear hB c0
   go_loopw [9,12] (λx i wi=>∃(q:Nat) (z:Int),q<=m∧i=.int .i64 q∧x=.int .u64 z∧0<=z∧z<=18446744073709551615∧Hid (CI W0 wi B k q T)) (λ_ i _=>m - (intOf i).toNat)
   case atStart=>exact⟨0,_,Nat.zero_le _,rfl,rfl,by omega,by omega,S1⟩
   case round =>
    obtain⟨q,z,hq,rfl,rfl,h8,h9,hI⟩:=hrel;clear S1
    by_cases hql:q<m
    ·have dql:decide ((q:Int)<(m:Int))=true:=Qe (by omega)
     obtain⟨v,s,h1,h2,h3,h4,h5⟩:=hI.o;obtain⟨_,b1,_,_⟩:=QE h3;have H:=Qa (And.intro h1 (And.intro h2 (And.intro h3 (And.intro h4 h5))));clear h1 h2 h3 h4 h5 hI;obtain⟨Z,hZ⟩:=EX (IntKind.u64.wrap (IntKind.u64.wrap (z*6364136223846793005)+1442695040888963407))
     have zb:0<=Z∧Z<=18446744073709551615:=by rw[hZ];exact XF _
     have NX:Hid (∀(v':Value) (w':World),w'.ownsRow (B+1) 63 2 v' (q+1) (YL s++[.int .i64 (1000*(k:Int)+10*(q:Int)),.int .u64 (Z / 1152921504606846976)])->(wr.alloc (.cells #[.int .i64 (1000*(k:Int)+10*(q:Int)),.int .u64 (Z / 1152921504606846976)] 63)).grownBy w' v.ownBlock ->
      (∃c0,w'.cell? ⟨B,1,none⟩=some c0)∧w'.frozen? ⟨B,1,none⟩=false∧CI W0 (w'.setCell ⟨B,1,none⟩ v') B k (q+1) T):=by
      intro v' w' own' g';obtain⟨h1,h2,h3,h4,h5⟩:=H.o;have og:Only (λj=>v.ownBlock=some j) wr w':=((Only.refl _ wr).alloc _).grown g' (λj _ e=>e)
      have hb:¬v.ownBlock=some B:=λe=>by have:=(h4.lt B e).1;omega
      have he:=og.heap h3 hb;obtain⟨c0,c1,c2,c3⟩:=QE he
      have hW:=(h5.trans og (λj hj e=>by
       have h6:=(h4.lt j e).1
       have h7:W0.heap.size=B+1:=by rw[ha.o.1,ha.o.2];exact Array.size_push ..
       omega))
      refine⟨⟨_,c1⟩,c3,v',s++[(1000*(k:Int)+10*(q:Int),Z / 1152921504606846976)],by simp[h1],h2.snoc h1 rfl (by omega),?_,?_,hW.setCell (p:=⟨B,1,none⟩) (λ_=>rfl) _⟩
      ·have:=heap_setCell_same w' B 1 _ _ v' he
       simpa using this
      ·rw[Ol]
       exact ((Only.refl (λj=>j=B) w').setCell (p:=⟨B,1,none⟩) (λ_=>rfl) v').own own' (λj hj e=>by have:=(own'.lt j hj).1;omega)
     have hsw:B+1<=wr.heap.size:=by have:=(Array.getElem?_eq_some_iff.1 H.o.2.2.1).1;omega
     go_wp2_with (at_builtin;rw[<-hZ];refine wpList_append_own _ rfl _ _ 59 rfl (B+1) 63 i0 (.agg #[.int .i64 0,.int .u64 0]) 2 16 underlying59 hi hz0 hz1 hz2 rfl (by decide) _ q _ rfl (H.o.2.2.2.1.alloc _) ⟨wr.heap.size,0,none⟩ 1 1 [.int .i64 (1000*(k:Int)+10*(q:Int)),.int .u64 (Z / 1152921504606846976)] rfl rfl (X5 _ _ _ _) (λu hu=>by simp only[List.mem_cons,List.not_mem_nil,or_false] at hu;rcases hu with rfl | rfl <;> rfl) (by unfold maxLen;omega) (by omega) (by simp;omega) ?_;intro v' w4 hown' hgrow' _;(obtain⟨a4,k4,e4⟩:=Nl hown');subst e4;obtain⟨⟨c9,d0⟩,d1,nx⟩:=NX.o _ w4 hown' hgrow';have N1:=Qa nx;clear nx hown' hgrow')
     go_roundw
     case rel=>exact⟨q+1,_,by omega,by go_num,rfl,(XF _).1,(XF _).2,N1⟩
     case measure=>simp[intOf];omega
    ·obtain rfl:q=m:=by omega
     have dql:decide ((q:Int)<(q:Int))=false:=by simp
     obtain⟨v,s,h1,h2,h3,h4,h5⟩:=hI.o;obtain⟨b0,b1,_,_⟩:=QE h3;obtain⟨a5,c5,e5⟩:=Nl h4;subst e5;have H:=Qa (And.intro h1 (And.intro h2 (And.intro h3 (And.intro h4 h5))));clear h1 h2 h3 h4 h5 hI;have NX:=Qa (FIN.o _ _ _ H.o.1 H.o.2.1 H.o.2.2.2.1 H.o.2.2.2.2);have hsz:=NX.o.2.1;go_wp2_with (at_builtin;refine wpList_append_own _ rfl _ _ 31 rfl (w.heap.size+1) 61 _ (.agg #[.string ⟨#[]⟩,.slice none 0 0]) 2 40 underlying31 hj hy0 hy1 hy2 rfl (by decide) _ k _ rfl (NX.o.1.alloc _) ⟨wr.heap.size,0,none⟩ 1 1 [.string T,.slice a5 q c5] rfl rfl (X5 _ _ _ _) (λu hu=>by simp only[List.mem_cons,List.not_mem_nil,or_false] at hu;rcases hu with rfl | rfl <;> rfl) (by unfold maxLen;omega) (by omega) (by simp;omega) ?_;intro v' w4 hown' hgrow' _;have N1:=Qa (NX.o.2.2 _ _ _ hgrow' hown');clear hown' hgrow')
     go_roundw
     case rel=>exact⟨k+1,z,by omega,by go_num,rfl,h8,h9,N1⟩
     case measure=>simp[intOf];omega
  ·obtain rfl:k=n:=by omega
   have dlt:decide ((k:Int)<(k:Int))=false:=by simp
   go_wp2;go_ret;obtain⟨cs,h1,h2,h3⟩:=hS.o.chs;exact⟨_,cs,rfl,h1,h2,h3,hS.o.only⟩
theorem FU {f:Nat} {args:Array Value} (h:Calls prog f args w λe w'=>e=.returned (.bool true)∧N0 w w'):Calls prog f args w λe w'=>e=.returned (.bool true)∧Below w.heap.size w w':=by
 refine h.mono ?_;rintro e w' ⟨rfl,o⟩;exact⟨rfl,o.low (Nat.le_refl _)⟩
theorem Cm {most:Nat} {ys sg:LI} (hs:Qq (most:Int) ys=(sg,k,0)):sg.length<=most:=by
 unfold Qq at hs;rw[if_neg (by omega)] at hs
 split at hs
 ·rename_i q;simp only[Prod.mk.injEq] at hs;rw[<-hs.1];simp
 ·split at hs
  ·simp only[Prod.mk.injEq] at hs;omega
  ·split at hs
   ·simp only[Prod.mk.injEq] at hs;omega
   ·simp only[Prod.mk.injEq] at hs;rw[<-hs.1,Qf];omega
theorem Bf {ys sg:LI} {m:MAN} (w:World) (hvb:∀b,v.ownBlock=some b->b<w.heap.size) (hC:CurAt 108 w R v ys) (hs:Qq 268435456 ys=(sg,k,0)) (h32:32<=sg.length) (hm:MDEC (sg.take (sg.length - 32))=.ok m) (h8:U8 sg) :
 Calls prog 29 #[.pointer (some ⟨R,0,none⟩)] w λe w'=>∃x vp ve vr,e=.returned (.tuple #[x,.int .i64 0])∧Mnw w w' x m vp ve vr∧(∃v2,CurAt 108 w' R v2 (ys.drop k)∧v2.ownBlock=v.ownBlock)∧Only (λk=>k=R) w w':=by
 have h5:R<w.heap.size:=(Array.getElem?_eq_some_iff.1 hC.cell).1;obtain⟨w0,h0⟩:=EX (w.alloc (.cells #[.int .u64 0,.slice none 0 0,.slice none 0 0,.slice none 0 0] 37))
 have o0:N0 w w0:=by rw[h0];exact (Only.refl _ _).alloc _
 have g0:Hid (w0.heap[w.heap.size]? = some (.cells #[.int .u64 0,.slice none 0 0,.slice none 0 0,.slice none 0 0] 37 (0,0))):=by show _=_;rw[h0];exact heap_alloc_new _ _
 have BL:=Qa (J2 (hC.keep o0 (λf=>f) (λ_ _ f=>f)) 268435456 (by omega));rw[hs] at BL;have hle:sg.length<=268435456:=Cm hs;obtain⟨e1,e2⟩:=MD_ok hm;have DE:=Qa (λ(W:World) (u:Value) (h:Bs .u8 W u (sg.take (sg.length - 32)))=>Jt u _ W h (h8.take _) (by rw[Qf];omega));rw[e1,e2] at DE;obtain⟨q,hq⟩:=EX sg.length;obtain⟨p,hp⟩:=EX (q - 32);rw[<-hq,<-hp] at DE;have HQ:=Qa (And.intro hq (show p<=sg.length by omega))
 have hsub:(q:Int) - 32=(p:Int):=by omega
 have d32:decide ((q:Int)<32)=false:=Qb (by omega);have dn:decide ((p:Int)<0)=false:=Qb (by omega)
 have j0:(0:Int)<=(p:Int):=by omega
 have j1:(p:Int)<=(q:Int):=by omega
 have hqb:q<=268435456:=by omega
 have HW:=Qa (And.intro h0 o0);have HR:=Qa h5;have HV:=Qa hvb;clear hC hvb hs h32 hm h8 h0 o0 hle e1 e2 hq hp h5;go_enter func29,ntmps29;go_wp2_with fail;rw[<-HW.o.1];refine BL.o.mono ?_;rintro e w1 ⟨v1,rfl,b1,n1,lo1,v2,h2,h4,o1⟩;obtain⟨a1,c1,rfl,hc1⟩:=b1.formN (n:=q) HQ.o.1.symm
 have j2:(p:Int)<=(c1:Int):=by omega
 have h1:=Qa (DE.o w1 (.slice a1 p c1) ((b1.head (n:=p) (by omega)).recap (by omega)));have H1:=Qa (And.intro h2 (And.intro h4 o1));clear b1 n1 lo1 h2 h4 o1 BL DE;go_wp2_with fail;refine h1.o.mono ?_;rintro e w2 ⟨x,vp,ve,vr,rfl,mn,o2⟩;have hf:=mn.mf.form;obtain⟨ap,cp,ep⟩:=mn.mf.prev.len;obtain⟨ae,ce,ee⟩:=mn.mf.es.len;obtain⟨ar,cr,er⟩:=mn.mf.root.len;subst ep ee er hf;have RN:=HR.o;have gm:=o2.heap (H1.o.2.2.heap g0.o (λe=>by omega)) (λf=>f);obtain⟨⟨z0,z1,z2,z3⟩,f0,f1,f2,f3⟩:=QY gm;have P4:=put4 gm (.int .u64 m.ver) (.slice ap m.prev.length cp) (.slice ae m.es.length ce) (.slice ar m.root.length cr);have hs1:=H1.o.2.2.size
 have hs0:w0.heap.size=w.heap.size+1:=by rw[HW.o.1];simp
 have oT:Only (λk=>k=R) w w2:=((HW.o.2.mono (T:=λk=>k=R) (λ_ _ f=>f.elim)).trans H1.o.2.2 (λ_ _ e=>e)).trans o2 (λ_ _ f=>f.elim);have h3:=(mn.keep (B:=w.heap.size) P4.2 (by omega)).lowS (a:=w) (by omega);have F:=Qa (And.intro (Yt P4.1) (And.intro h3 (And.intro (show ∃v2',CurAt 108 _ R v2' (ys.drop k)∧v2'.ownBlock=v.ownBlock from ⟨v2,(H1.o.1.keep o2 (λf=>f) (λ_ _ f=>f)).keep P4.2 (by omega) (λb hb e=>by have:=HV.o b (by rw[<-H1.o.2.1];exact hb);omega),H1.o.2.1⟩) (oT.trans P4.2 (λi hi e=>by omega)))));clear mn o2 gm P4 hs1 hs0 oT h3 H1 h1 RN;go_wp2;refine bodyPost_ret (Wy rfl _ _ rfl rfl F.o.1) rfl ⟨_,_,_,_,rfl,F.o.2.1,F.o.2.2.1,F.o.2.2.2⟩
theorem Si {t:LI} (n i d:Nat) (h:CurAt 108 w R v (gs i++(gs d++t))) (hi:i+d<n) (hn:n<=1048576) :
 Calls prog 30 #[.pointer (some ⟨R,0,none⟩),.int .i64 n] w λe w'=>e=.returned (.tuple #[.int .i64 i,.int .i64 ((i+d:Nat):Int),.int .i64 0])∧(∃v2,CurAt 108 w' R v2 t∧v2.ownBlock=v.ownBlock)∧Only (λk=>k=R) w w':=by
 have V:=VY h;rw[Ke i _ (by omega),List.drop_left] at V;have V:=Qa V
 have hcv:IntKind.u64.wrap (n:Int)=(n:Int):=by simp[IntKind.wrap,IntKind.bits,IntKind.signed];omega
 have hsu:IntKind.u64.wrap ((n:Int) - (i:Int))=(n:Int) - (i:Int):=by simp[IntKind.wrap,IntKind.bits,IntKind.signed];omega
 have d1:decide ((n:Int)<=(i:Int))=false:=Qb (by omega);have d2:decide ((n:Int) - (i:Int)<=(d:Int))=false:=Qb (by omega)
 have hw1:IntKind.u64.wrap ((i:Int)+(d:Int))=(i:Int)+(d:Int):=by simp[IntKind.wrap,IntKind.bits,IntKind.signed];omega
 rw[show ((i+d:Nat):Int)=(i:Int)+(d:Int) by omega];clear h;go_enter func30,ntmps30;go_wp2_with fail;refine V.o.mono ?_;rintro e w1 ⟨rfl,v2,c2,ob,o1⟩;have V2:=VY c2;rw[Ke d _ (by omega),List.drop_left] at V2;have V2:=Qa V2;have O1:=Qa o1;have OB:=Qa ob;clear V c2 o1 ob;go_wp2_with fail;refine V2.o.mono ?_;rintro e w2 ⟨rfl,v3,c3,h0,o2⟩;have F:=Qa (And.intro (show ∃v2,CurAt 108 w2 R v2 t∧v2.ownBlock=v.ownBlock from ⟨v3,c3,h0.trans OB.o⟩) (O1.o.trans o2 (λ_ _ e=>e)));clear V2 c3 o2 h0 O1 OB;go_wp2;exact bodyPost_ret (Ua rfl _ _ _) rfl ⟨rfl,F.o⟩
theorem yp (w:World) (n:Nat) (hn:n<=1000000000):∃wm,(Instr.makeSlice 38 (.int .u64 (n:Int)) (.int .u64 (n:Int))).run prog w=.ok (.slice (some ⟨w.heap.size,0,none⟩) n n) wm∧wm.ownsRow w.heap.size 23 1 (.slice (some ⟨w.heap.size,0,none⟩) n n) n (List.replicate n NIL)∧N0 w wm:=by
 obtain⟨i0,hi,hz0,hz1,hz2⟩:=info_parts Tryz.infoRows;obtain⟨wm,hmk,h0,hgr⟩:=run_make_full (P:=prog) w w.heap.size 38 23 i0 (.slice none 0 0) 1 underlying38 hi hz0 hz1 .u64 .u64 n (by rw[hz2];omega) (by unfold maxLen;omega) (Nat.le_refl _);refine⟨wm,hmk,?_,(Only.refl _ _).grown hgr (λk _ e=>by cases e)⟩;rw[Nat.mul_one,show (Value.slice none 0 0).cells=#[Value.slice none 0 0] from rfl,toList_madeCells_one] at h0;exact h0
theorem LD.ne {R N n k:Nat} {ls:Nat->LI} (h:LD w N n k ls) (o:Only (λk=>k=R) w w') {cs:Array Value} {T:TypeId} {f:Nat × Nat} (hN:w.heap[R]? = some (.cells cs T f)) (h5:T≠5) (hT:T≠23):LD w' N n k ls:=by
 obtain⟨vs,h1,h2⟩:=h.ex;exact⟨vs,h1.ne o hN h5,Wo o hN hT h2⟩
theorem u7 {t:LI} (ps:List (LI)) (w:World) (hC:CurAt 108 w R v (gs ps.length++(ps.flatten++t))) (h5:∀k,v.ownBlock=some k->k<w.heap.size) (hp:∀p∈ps,p.length=32) (hn:ps.length<=64) :
 Calls prog 32 #[.pointer (some ⟨R,0,none⟩)] w λe w'=>∃a,e=.returned (.tuple #[a,.int .i64 0])∧(∃us,LO w' us ps∧w'.ownsRow w.heap.size 23 1 a ps.length us)∧(∃v2,CurAt 108 w' R v2 t∧v2.ownBlock=v.ownBlock)∧Only (λk=>k=R) w w':=by
 have V:=VY hC;rw[Ke ps.length _ (by omega),List.drop_left] at V;have V:=Qa V;have h9:R<w.heap.size:=(Array.getElem?_eq_some_iff.1 hC.cell).1;obtain⟨n,ha⟩:=EX ps.length;rw[<-ha] at V;have HE:=Qa (And.intro hp (And.intro h5 (And.intro h9 ha)))
 have hnb:n<=64:=by omega
 have d64:decide ((64:Int)<(n:Int))=false:=Qb (by omega);clear hC h5 hp hn h9 ha;go_enter func32,ntmps32;go_wp2_with fail;refine V.o.mono ?_;rintro e w1 ⟨rfl,v1,he,hg,o1⟩;obtain⟨wm,hl,h0,om⟩:=yp w1 n (by omega);obtain⟨N,hN⟩:=EX w1.heap.size;rw[<-hN] at hl h0
 have S0:Hid (∃v2,LD wm N n 0 (λi=>ps.getD i [])∧CurAt 108 wm R v2 ((ps.drop 0).flatten++t)∧v2.ownBlock=v.ownBlock∧Only (λk=>k=R) w wm) :=
  ⟨v1,LD.nought h0,he.keep om (λf=>f) (λ_ _ f=>f),hg,o1.trans (T:=λ_=>False) om (λ_ _ f=>f.elim)⟩
 have HN:Hid (w.heap.size<=N):=by show _<=_;have:=o1.size;omega
 have MA:Hid ((List.range n).map (λi=>ps.getD i [])=ps):=by
  show _=_
  have:=XL ps (λx=>x);rw[List.map_id'] at this;rw[HE.o.2.2.2];exact this
 clear V he hg o1 h0 om hN;go_wp2
 go_loopw [22] (λi wr=>∃k:Nat,k<=n∧i=.int .i64 k∧Hid (∃v2,LD wr N n k (λi=>ps.getD i [])∧CurAt 108 wr R v2 ((ps.drop k).flatten++t)∧v2.ownBlock=v.ownBlock∧Only (λk=>k=R) w wr)) (λi _=>n - (intOf i).toNat)
 case atStart=>exact⟨0,Nat.zero_le _,rfl,S0⟩
 case round =>
  obtain⟨k,hk,rfl,hS⟩:=hrel;clear S0 hl
  by_cases hlt:k<n
  ·have dlt:decide ((k:Int)<(n:Int))=true:=Qe (by omega)
   have dlt':decide (k<n)=true:=Qe hlt;obtain⟨v2,ld,cu,h4,o⟩:=hS.o
   have h6:k<ps.length:=by rw[<-HE.o.2.2.2];exact hlt
   have h7:ps[k]=ps.getD k []:=by rw[Qd,Qg h6];rfl
   have h8:(ps.getD k []).length=32:=by rw[<-h7];exact HE.o.1 _ (List.getElem_mem h6)
   rw[List.drop_eq_getElem_cons h6,h7,List.flatten_cons,List.append_assoc] at cu;have BY:=V8 cu ((32:Nat):Int);rw[KT (by rw[Qc];omega),List.take_left' h8,List.drop_left' h8] at BY;have BY:=Qa BY;have D:=Qa (And.intro ld (And.intro cu.cell (And.intro h4 o)))
   have i0:(0:Int)<=(k:Int):=by omega
   have i1:(k:Int)<(n:Int):=by omega
   clear hS ld cu h4 o h7 h8 h6;go_wp2_with fail;refine BY.o.mono ?_;rintro e w4 ⟨v4,rfl,h3,v3,hh,hj,o4⟩;have ld4:=D.o.1.ne o4 D.o.2.1 (by decide) (by decide);obtain⟨hc,hf⟩:=ld4.cell hlt;have oS:Only (λq=>q=N) w4 (w4.setCell ⟨N,k,none⟩ v4):=(Only.refl (λq=>q=N) w4).setCell (p:=⟨N,k,none⟩) (λ_=>rfl) _
   have F:Hid (∃v2,LD (w4.setCell ⟨N,k,none⟩ v4) N n (k+1) (λi=>ps.getD i [])∧CurAt 108 (w4.setCell ⟨N,k,none⟩ v4) R v2 ((ps.drop (k+1)).flatten++t)∧v2.ownBlock=v.ownBlock∧Only (λk=>k=R) w (w4.setCell ⟨N,k,none⟩ v4)):=by
    have hNw:=HN.o;have h9:=HE.o.2.2.1;have h5:=HE.o.2.1;have hm:=hj.trans D.o.2.2.1;refine⟨v3,ld4.store hlt (lo:=wr.heap.size) h3,hh.keep oS (by omega) (λq hq e=>?_),hm,(D.o.2.2.2.trans o4 (λ_ _ e=>e)).setCell (λhb=>by simp only at hb;omega) _⟩;rw[hm] at hq;have:=h5 q hq;omega
   obtain⟨a4,c4,rfl⟩:=Qm h3;clear h3 o4 BY D hj hh ld4 oS;go_wp2
   go_roundw
   case rel=>exact⟨k+1,by omega,by go_num,F⟩
   case measure=>simp[intOf];omega
  ·obtain rfl:k=n:=by omega
   have dlt:decide ((k:Int)<(k:Int))=false:=Qb (by omega);obtain⟨v2,ld,cu,h4,o⟩:=hS.o
   have hd:ps.drop k=[]:=by rw[HE.o.2.2.2];exact List.drop_length
   rw[hd,List.flatten_nil,List.nil_append] at cu;obtain⟨us,h1,h2⟩:=ld.ex;rw[Nat.sub_self,List.replicate_zero,List.append_nil] at h2;rw[MA.o] at h1;have hr:∃us,LO wr us ps∧wr.ownsRow w.heap.size 23 1 (.slice (some ⟨N,0,none⟩) k k) ps.length us:=⟨us,h1,by rw[<-HE.o.2.2.2];exact Qu h2 HN.o⟩;have F:=Qa (And.intro hr (And.intro (show ∃v2,CurAt 108 wr R v2 t∧v2.ownBlock=v.ownBlock from ⟨v2,cu,h4⟩) o));clear hS ld cu h4 o hr hd h1 h2;go_wp2;go_ret2;exact⟨_,rfl,F.o⟩
theorem uL {ys t:LI} (es:List (LI × Int)) (ls:List (LI)) (ve:Value) (w:World) (hC:CurAt 108 w R v ys) (k5:∀k,v.ownBlock=some k->k<w.heap.size) (hE:Ens w ve es) (hp:∀k,ve.ownBlock=some k->¬k=R) (h0:CUT es ys=some (ls,t)) (hb:∀e∈es,0<=e.2∧e.2<=8) (hn:es.length<=1048576) :
 Calls prog 31 #[.pointer (some ⟨R,0,none⟩),ve] w λe w'=>∃a,e=.returned (.tuple #[a,.int .i64 0])∧(∃vs,LO w' vs ls∧w'.ownsRow w.heap.size 23 1 a ls.length vs)∧(∃v2,CurAt 108 w' R v2 t∧v2.ownBlock=v.ownBlock)∧Only (λk=>k=R) w w':=by
 obtain⟨ae,ce,rfl⟩:=hE.len;obtain⟨i0,hi,hz0,hz1,hz2⟩:=info_parts Tryz.infoRows;have k2:R<w.heap.size:=(Array.getElem?_eq_some_iff.1 hC.cell).1;have k4:=Gq es h0;obtain⟨n,hj⟩:=EX es.length
 have S0:Hid (∃(rv:Value) (vs:List Value) (v2:Value) (rest:LI),.slice none 0 0=rv∧w.ownsRow w.heap.size 23 1 rv 0 vs∧LO w vs (ls.take 0)∧CurAt 108 w R v2 rest∧v2.ownBlock=v.ownBlock∧CUT (es.drop 0) rest=some (ls.drop 0,t)∧Only (λk=>k=R) w w) :=
  ⟨_,[],v,ys,rfl,World.ownsRow_nil _ _ _ _,LO.nil w,hC,rfl,h0,Only.refl _ _⟩
 have HE:=Qa (And.intro hE (And.intro hp (And.intro hb (And.intro k5 (And.intro k2 k4)))));have HN:=Qa hj
 have hnb:n<=1048576:=by omega
 rw[<-hj] at HE ⊢;clear hC k5 hE hp h0 hb hn k2 k4 hj;go_enter func31,ntmps31;go_wp2
 go_loopw [6,13] (λrv i wr=>∃k:Nat,k<=n∧i=.int .i64 k∧Hid (∃(vs:List Value) (v2:Value) (rest:LI),wr.ownsRow w.heap.size 23 1 rv k vs∧LO wr vs (ls.take k)∧CurAt 108 wr R v2 rest∧v2.ownBlock=v.ownBlock∧CUT (es.drop k) rest=some (ls.drop k,t)∧Only (λk=>k=R) w wr)) (λ_ i _=>n - (intOf i).toNat)
 case atStart =>
  obtain⟨rv,vs,v2,rest,rfl,h⟩:=S0.o;exact⟨0,Nat.zero_le _,rfl,vs,v2,rest,h⟩
 case round =>
  obtain⟨k,hk,rfl,hS⟩:=hrel;clear S0
  by_cases hlt:k<n
  ·have dlt:decide ((k:Int)<(n:Int))=true:=Qe (by omega)
   have dlt':decide (k<n)=true:=Qe hlt;obtain⟨vs,v2,rest,ow,lo,cu,h6,h0,o⟩:=hS.o
   have h5:k<es.length:=by rw[<-HN.o];exact hlt
   rw[List.drop_eq_getElem_cons h5] at h0;obtain⟨l,ls',k3,h7,hl,h1⟩:=Xe h0
   have hkl:k<ls.length:=by have:=HE.o.2.2.2.2.2;omega
   have hh:es[k]=es.getD k ([],0):=by rw[Qd,Qg h5];rfl
   rw[hh] at h7 hl h1;have ha:=HE.o.2.2.1 _ (List.getElem_mem h5);rw[hh] at ha;obtain⟨b,off,cap',ee,hf,k6⟩:=(HE.o.1.keep o (λq hq=>HE.o.2.1 q hq)).at k h5
   obtain rfl:ae=some ⟨b,off,none⟩:=by simp at ee;exact ee.1
   clear ee;obtain⟨e,hx⟩:=EX (es.getD k ([],0));rw[<-hx] at h7 hl h1 ha hf k6;obtain⟨T,hT⟩:=EX (strOfNums e.1);rw[<-hT] at hf
   obtain⟨z,hz⟩:∃z:Nat,QO e.2=(z:Int)∧z<=4194304:=by
    refine⟨Qt e.2.toNat,?_,?_⟩
    ·unfold QO;rw[if_pos ha]
    ·unfold Qt
     have:e.2.toNat<=8:=by omega
     have h4:4^e.2.toNat<=4^8:=Nat.pow_le_pow_right (by decide) this
     have:(4:Nat)^8=65536:=by decide
     omega
   have ht:(QO e.2).toNat+16=z+16:=by rw[hz.1];rfl
   rw[ht] at h7 hl h1;obtain⟨wb,h8⟩:=EX (wr.alloc (.cells #[.string T,.int .i64 e.2] 88))
   have ob:N0 wr wb:=by rw[h8];exact (Only.refl _ _).alloc _
   obtain⟨q0,q1,_,_⟩:=QE (show wb.heap[wr.heap.size]? = some (.cells #[.string T,.int .i64 e.2] 88 (0,0)) by rw[h8];exact heap_alloc_new _ _);have SZ:=Qa (Zu e.2 wb);rw[hz.1] at SZ;have hzz:=hz.2;have HB:=Qa h8;have he:=cu.keep ob (λf=>f) (λ_ _ f=>f);have BY:=Qa (λW (oW:N0 wb W)=>V8 (he.keep oW (λf=>f) (λ_ _ f=>f)) ((z+16:Nat):Int));rw[KT h7,<-hl] at BY
   have hu:((z+16:Nat):Int)=(z:Int)+16:=by omega
   rw[hu] at BY;have D:=Qa (And.intro (ob.own ow (λ_ _ f=>f)) (And.intro (lo.past ob) (And.intro h6 (And.intro (o.trans (T:=λ_=>False) ob (λ_ _ f=>f.elim)) he.cell))));have HX:=Qa (And.intro k3 h1)
   have i0':(0:Int)<=(k:Int):=by omega
   have i1':(k:Int)<(n:Int):=by omega
   clear hS ow lo cu h6 h0 o h5 k3 h7 hl h1 hkl hh ha hx hT hz ht h8 ob he hu;go_wp2_with fail;rw[<-HB.o];refine SZ.o.mono ?_;rintro e1 w1 ⟨rfl,o1⟩;have k7:=Qa (BY.o w1 o1);have D1:=Qa (And.intro (o1.own D.o.1 (λ_ _ f=>f)) (And.intro (D.o.2.1.past o1) (And.intro D.o.2.2.1 (And.intro (D.o.2.2.2.1.trans (T:=λ_=>False) o1 (λ_ _ f=>f.elim)) (o1.heap D.o.2.2.2.2 (λf=>f))))));clear o1 SZ BY D q0 q1 hf k6;go_wp2_with fail;refine k7.o.mono ?_;rintro e2 w2 ⟨v1,rfl,h2,v3,hw,k1,o2⟩;obtain⟨a1,c1,rfl⟩:=Qm h2;obtain⟨m,hm⟩:=EX l.length;obtain⟨W3,h9⟩:=EX (w2.alloc (.cells #[.slice a1 m c1] 23))
   have o3:N0 w2 W3:=by rw[h9];exact (Only.refl _ _).alloc _
   have hV:VS W3 (.slice (some ⟨w2.heap.size,0,none⟩) 1 1) [.slice a1 m c1]:=VS.of_own (lo:=w2.heap.size) (n:=1) (e:=23) (by rw[h9];exact VN w2 23 [.slice a1 m c1] (Nat.le_refl _) (show 1<=maxLen by unfold maxLen;decide)) (λy hy=>by simp at hy;subst hy;rfl)
   have h3:(108:Nat)≠23:=by decide
   have k0:=o3.own (Wo o2 D1.o.2.2.2.2 h3 D1.o.1) (λ_ _ f=>f);have ho:=(D1.o.2.1.ne o2 D1.o.2.2.2.2 (by decide)).past o3;have E3:=Qa (And.intro k0 (And.intro ho (And.intro (hw.keep o3 (λf=>f) (λ_ _ f=>f)) (And.intro (k1.trans D1.o.2.2.1) (And.intro (((D1.o.2.2.2.1).trans o2 (λ_ _ e=>e)).trans (T:=λ_=>False) o3 (λ_ _ f=>f.elim)) (o3.own h2 (λ_ _ f=>f)))))));have HV:=Qa (And.intro hV (And.intro h9 hm))
   have bs:Hid (w.heap.size<=W3.heap.size):=by show _<=_;have:=E3.o.2.2.2.2.1.size;omega
   have hs:k+1<=maxLen:=by unfold maxLen;omega
   rw[<-hm];clear h2 hw k1 o2 o3 hV k0 ho k7 D1 h9 hm h3;go_wp2_with (at_builtin;rw[<-HV.o.2.1];refine Kd _ rfl _ _ 38 rfl w.heap.size 23 i0 NIL 24 underlying38 hi hz0 hz1 hz2 rfl _ k vs rfl E3.o.1 _ [.slice a1 m c1] rfl HV.o.1 hs (by simp only[Qi,List.length_nil];omega) bs.o ?_);intro v' w4 own4 g4
   have F:Hid (∃(vs:List Value) (v2:Value) (rest:LI),w4.ownsRow w.heap.size 23 1 v' (k+1) vs∧LO w4 vs (ls.take (k+1))∧CurAt 108 w4 R v2 rest∧v2.ownBlock=v.ownBlock∧CUT (es.drop (k+1)) rest=some (ls.drop (k+1),t)∧Only (λk=>k=R) w w4):=by
    obtain⟨ow,lo,cu,hv,o,ob⟩:=E3.o;have hg:=(Only.refl (λq=>u6.ownBlock=some q) W3).grown g4 (λ_ _ e=>e)
    have hRu:¬u6.ownBlock=some R:=λe=>by have:=(ow.lt R e).1;have:=HE.o.2.2.2.2.1;omega
    have hd:=HX.o.1
    have e1:ls.take (k+1)=ls.take k++[l]:=by
     rw[List.take_add_one]
     congr 1
     have:ls[k]? = some l:=by have:=List.getElem?_drop (xs:=ls) (i:=k) (j:=0);rw[hd] at this;simpa using this.symm
     rw[this];rfl
    have e2:ls.drop (k+1)=ls':=by rw[<-List.drop_drop,hd];rfl
    refine⟨vs++[.slice a1 m c1],v3,_,own4,?_,cu.keep hg hRu (λq hq e=>?_),hv,by rw[e2];exact HX.o.2,o.grown g4 (λq hq e=>?_)⟩
    ·rw[e1]
     have:=(LO.one ob).grown ow g4;rw[HV.o.2.2];exact (lo.grown ow g4).app this
    ·rw[hv] at hq
     have:=HE.o.2.2.2.1 q hq;have:=(ow.lt q e).1;omega
    ·have:=(ow.lt q e).1
     omega
   obtain⟨a4,c4,rfl⟩:=Qm own4;clear own4 g4 E3 HV bs hs HX;go_wp2
   go_roundw
   case rel=>exact⟨k+1,by omega,by go_num,F⟩
   case measure=>simp[intOf];omega
  ·obtain rfl:k=n:=by omega
   have dlt:decide ((k:Int)<(k:Int))=false:=Qb (by omega);obtain⟨vs,v2,rest,ow,lo,cu,h6,h0,o⟩:=hS.o;rw[HN.o,List.drop_length] at h0;have hl:ls.length=k:=HE.o.2.2.2.2.2;rw[<-HN.o,<-hl,List.drop_length] at h0;rw[<-hl,List.take_length] at lo
   have hr:rest=t:=by simp[CUT] at h0;exact h0
   subst hr;have F:=Qa (And.intro (show ∃vs,LO wr vs ls∧wr.ownsRow w.heap.size 23 1 _ ls.length vs from ⟨vs,lo,by rw[hl];exact ow⟩) (And.intro (show ∃v2,CurAt 108 wr R v2 rest∧v2.ownBlock=v.ownBlock from ⟨v2,cu,h6⟩) o));clear hS ow lo cu h6 h0 o;go_wp2;go_ret2;exact⟨_,rfl,F.o⟩
end Go.Proofs.YtoflhbghdlaeaaaGreatDoor
