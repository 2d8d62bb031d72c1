import Derived.Test.YtoflhbghdlaeaaaGreatDoorG36
namespace Go.Proofs.YtoflhbghdlaeaaaGreatDoor
set_option maxHeartbeats 4000000
set_option maxRecDepth 100000
open Go.RowKit _root_.Go.Proofs.Tryz
variable {w w' W:World} {v:Value} {ys xs l:LI} {R n p k g B:Nat} {P:Program} {ls:List (LI)} {E:TypeId}
def Chs (w:World) (v:Value) (l:List Qk):Prop :=
 ∃ao cap,v=.slice ao l.length cap∧l.length<=cap∧(l≠[]->∃b off,ao=some ⟨b,off,none⟩∧∀j,j<l.length->∃u,
  w.cell? ⟨b,off+j*2,none⟩=some (.string (strOfNums (l.getD j Qz).1))∧w.cell? ⟨b,off+j*2+1,none⟩=some u∧Sps w u (l.getD j Qz).2)
theorem Chs.past {l:List Qk} (h:Chs w v l) (o:N0 w w'):Chs w' v l:=by
 obtain⟨ao,cap,rfl,hc,hr⟩:=h;refine⟨ao,cap,rfl,hc,λhx=>?_⟩;obtain⟨b,off,rfl,h0⟩:=hr hx;refine⟨b,off,rfl,λj hj=>?_⟩;obtain⟨u,h1,h2,h3⟩:=h0 j hj;exact⟨u,Qv h1 o,Qv h2 o,h3.past o⟩
theorem Chs.len {l:List Qk} (h:Chs w v l):∃ao cap,v=.slice ao l.length cap∧l.length<=cap:=by
 obtain⟨ao,cap,e,h,_⟩:=h;exact⟨ao,cap,e,h⟩
theorem Chs.at {ao:Option Addr} {n cap:Nat} {l:List Qk} (h:Chs w (.slice ao n cap) l) (j:Nat) (hj:j<l.length):∃b off u,ao=some ⟨b,off,none⟩ ∧
 w.cell? ⟨b,off+j*2,none⟩=some (.string (strOfNums (l.getD j Qz).1))∧w.cell? ⟨b,off+j*2+1,none⟩=some u∧Sps w u (l.getD j Qz).2:=by
 obtain⟨ao',cap',e,hc,hr⟩:=h
 cases e
 obtain⟨b,off,rfl,h0⟩:=hr (λe=>by rw[e] at hj;simp at hj);obtain⟨u,h1,h2,h3⟩:=h0 j hj;exact⟨b,off,u,rfl,h1,h2,h3⟩
def CL (l:List Qk):Prop:=∀c∈l,CG c∧c.1.length<=maxLen∧c.2.length<=maxLen
theorem CL.at {l:List Qk} (h:CL l) {j:Nat} (hj:j<l.length):CG (l.getD j Qz)∧(l.getD j Qz).1.length<=maxLen∧(l.getD j Qz).2.length<=maxLen:=by
 rw[Qd,Qg hj];exact h _ (List.getElem_mem hj)
theorem yB (s:List (LI × Int)):∀(j:Nat) (a:LI) (b:Int),j<s.length->((Yy s).set (j*2) (.string (strOfNums a))).set (j*2+1) (.int .i64 b)=Yy (s.set j (a,b)):=by
 induction s with
 | nil=>intro j a b h;simp at h
 | cons p s ih =>
  intro j a b h
  cases j with
  | zero=>simp[Kw]
  | succ j =>
   have:=ih j a b (by simpa using h);rw[Kw,Qn,Kw,<-this,show (j+1)*2=j*2+1+1 by omega];simp only[Qn]
theorem Ec (n:Nat):Yy (List.replicate n ([],0))=(madeCells #[Value.string ⟨#[]⟩,Value.int .i64 0] (n*2)).toList:=by
 unfold madeCells
 apply List.ext_getElem?
 intro i;have hl:=OM (List.replicate n (([]:LI),(0:Int)));rw[List.length_replicate] at hl
 by_cases h:i<n*2
 ·obtain⟨h0,h1⟩:=X9 (List.replicate n (([]:LI),(0:Int))) (i / 2) (by simp;omega)
  have hg:(List.replicate n (([]:LI),(0:Int))).getD (i / 2) ([],0)=([],0):=by
   rw[Qd,List.getElem?_replicate];split <;> rfl
  rw[hg] at h0 h1;have es:strOfNums []=⟨#[]⟩:=rfl;rw[es] at h0
  rcases Nat.mod_two_eq_zero_or_one i with hm | hm
  ·rw[show i / 2*2=i by omega] at h0
   rw[h0];simp[h,hm]
  ·rw[show i / 2*2+1=i by omega] at h1
   rw[h1];simp[h,hm]
 ·rw[List.getElem?_eq_none (by omega),List.getElem?_eq_none (by simp;omega)]
def ED (w:World) (N n k:Nat) (es:Nat->LI × Int):Prop:=w.ownsRow N 88 2 (.slice (some ⟨N,0,none⟩) n n) n (Yy ((List.range k).map es++List.replicate (n - k) ([],0)))
theorem I5 (w:World) (n:Nat) (hn:n<=1000000000) (es:Nat->LI × Int):∃wm,(Instr.makeSlice 35 (.int .i64 (n:Int)) (.int .i64 (n:Int))).run prog w=.ok (.slice (some ⟨w.heap.size,0,none⟩) n n) wm∧ED wm w.heap.size n 0 es∧N0 w wm:=by
 obtain⟨i0,hi,hz0,hz1,hz2⟩:=info_parts Tryz.infoEn;obtain⟨wm,hmk,h0,hgr⟩:=run_make_full (P:=prog) w w.heap.size 35 88 i0 (.agg #[.string ⟨#[]⟩,.int .i64 0]) 2 underlying35 hi hz0 hz1 .i64 .i64 n (by rw[hz2];omega) (by unfold maxLen;omega) (Nat.le_refl _);refine⟨wm,hmk,?_,(Only.refl _ _).grown hgr (λk _ e=>by cases e)⟩;unfold ED;rw[List.range_zero,List.map_nil,List.nil_append,Nat.sub_zero,Ec];exact h0
theorem ED.past {N n k:Nat} {es:Nat->LI × Int} (h:ED w N n k es) (o:N0 w w'):ED w' N n k es:=o.own h (λ_ _ f=>f)
theorem ED.cell {N n k:Nat} {es:Nat->LI × Int} (h:ED w N n k es) (hk:k<n):w.cell? ⟨N,k*2,none⟩=some (.string ⟨#[]⟩)∧w.cell? ⟨N,k*2+1,none⟩=some (.int .i64 0)∧w.frozen? ⟨N,k*2,none⟩=false∧w.frozen? ⟨N,k*2+1,none⟩=false:=by
 have ha:=X9 ((List.range k).map es++List.replicate (n - k) ([],0)) k (by simp;omega)
 have hg:((List.range k).map es++List.replicate (n - k) ([],0)).getD k ([],0)=([],0):=by
  rw[Qd,List.getElem?_append_right (by simp),List.getElem?_replicate];split <;> rfl
 rw[hg] at ha;refine⟨?_,?_,h.frozenAt _,h.frozenAt _⟩
 ·rw[World.ownsRow.cellAt h (k*2) (by omega),ha.1];rfl
 ·rw[World.ownsRow.cellAt h (k*2+1) (by omega),ha.2]
theorem ED.store {N n k:Nat} {es:Nat->LI × Int} (h:ED w N n k es) (hk:k<n):ED ((w.setCell ⟨N,k*2,none⟩ (.string (strOfNums (es k).1))).setCell ⟨N,k*2+1,none⟩ (.int .i64 (es k).2)) N n (k+1) es:=by
 have h1:=(World.ownsRow.stored h (k*2) (.string (strOfNums (es k).1))).1;have h2:=(h1.stored (k*2+1) (.int .i64 (es k).2)).1;rw[yB _ _ _ _ (by simp;omega)] at h2;unfold ED;obtain⟨m,hm⟩:∃m,n - k=m+1:=⟨n - k - 1,by omega⟩;rw[hm,List.replicate_succ,List.set_append_right _ _ (by simp)] at h2;rw[show n - (k+1)=m by omega,List.range_succ,List.map_append,List.append_assoc]
 simpa using h2
theorem ED.other {N n k:Nat} {es:Nat->LI × Int} (h:ED w N n k es) {a:Addr} (ha:a.block≠N) (u:Value):ED (w.setCell a u) N n k es :=
 ownsRow_setCell_other h (by simp only[Value.ownBlock];exact λe=>ha (by cases e;rfl)) u
theorem LD.other {N n k:Nat} {ls:Nat->LI} {t:TypeId} {cs:Array Value} {f:Nat × Nat} (h:LD w N n k ls) (hB:w.heap[B]? = some (.cells cs t f)) (ht:t≠5) (hN:B≠N) (j:Nat) (u:Value):LD (w.setCell ⟨B,j,none⟩ u) N n k ls:=by
 obtain⟨vs,h1,h2⟩:=h.ex;refine⟨vs,⟨h1.1,λi x hx=>?_⟩,ownsRow_setCell_other h2 (by simp only[Value.ownBlock];exact λe=>hN (by cases e;rfl)) u⟩;obtain⟨lo,h3⟩:=h1.2 i x hx;refine⟨lo,ownsRow_setCell_other h3 (λe=>?_) u⟩
 rcases h3.2 with ⟨rfl,_⟩ | ⟨g,cap,cur,rfl,_,hg,_⟩
 ·cases e
 ·cases e
  rw[hB] at hg
  cases hg
  exact ht rfl
theorem ED.block {N n k:Nat} {es:Nat->LI × Int} (h:ED w N n k es):∃cs,w.heap[N]? = some (.cells cs 88):=by
 rcases h.2 with ⟨e,_⟩ | ⟨g,cap,cur,e,_,hg,_⟩
 ·cases e
 ·cases e;exact⟨_,hg⟩
abbrev slf (m:LI) (v:Nat) (l:List Qk) (k:Nat):LI:=Ya (QN m (l.getD k Qz)) v k (l.getD k Qz)
abbrev enf (m:LI) (l:List Qk) (k:Nat):LI × Int:=((l.getD k Qz).1,Yq (QN m (l.getD k Qz)) k (l.getD k Qz))
def FY (w w':World) (m:LI) (v:Nat) (l:List Qk) (a b:Value):Prop :=
 QZ m 0 l=0->∃N1 N2,a=.slice (some ⟨N1,0,none⟩) l.length l.length∧b=.slice (some ⟨N2,0,none⟩) l.length l.length∧w.heap.size<=N1∧w.heap.size<=N2∧LD w' N1 l.length l.length (slf m v l)∧ED w' N2 l.length l.length (enf m l)
theorem ZJ {lo g n c size:Nat} {xs:List Value} (h:w.ownsRow lo E size (.slice (some ⟨g,0,none⟩) n c) n xs):g<w.heap.size:=by
 rcases h.2 with ⟨e,_⟩ | ⟨g',c',cur,e,_,hg,_⟩
 ·cases e
 ·cases e;exact (Array.getElem?_eq_some_iff.1 hg).1
theorem LD.lt {N n k:Nat} {ls:Nat->LI} (h:LD w N n k ls):N<w.heap.size:=by
 obtain⟨vs,_,h2⟩:=h.ex;exact ZJ h2
theorem ED.lt {N n k:Nat} {es:Nat->LI × Int} (h:ED w N n k es):N<w.heap.size:=ZJ h
theorem uV {N1 N2 n k lo:Nat} {ls:Nat->LI} {es:Nat->LI × Int} (h1:LD w N1 n k ls) (h2:ED w N2 n k es) (hne:N1≠N2) (hk:k<n) {x:Value} (hx:w.ownsRow lo 5 1 x (ls k).length (bl (ls k))) {t:ByteArray} (ht:t=strOfNums (es k).1) {b:Int} (hb:b=(es k).2) :
 LD (((w.setCell ⟨N1,k,none⟩ x).setCell ⟨N2,k*2,none⟩ (.string t)).setCell ⟨N2,k*2+1,none⟩ (.int .i64 b)).drew N1 n (k+1) ls∧ED (((w.setCell ⟨N1,k,none⟩ x).setCell ⟨N2,k*2,none⟩ (.string t)).setCell ⟨N2,k*2+1,none⟩ (.int .i64 b)).drew N2 n (k+1) es:=by
 subst ht hb;have e1:ED (w.setCell ⟨N1,k,none⟩ x) N2 n k es:=h2.other hne x;have l1:=h1.store hk hx;obtain⟨cs,hb⟩:=e1.block;have hb2:=heap_setCell_same _ N2 (k*2) _ _ (.string (strOfNums (es k).1)) hb;exact⟨((l1.other hb (by decide) (λe=>hne e.symm) (k*2) _).other hb2 (by decide) (λe=>hne e.symm) (k*2+1) _).past (Only.refl _ _).drew,(e1.store hk).past (Only.refl _ _).drew⟩
theorem EU (vm vl:Value) (m:LI) (v:Nat) (l:List Qk) (w:World) (bm:Bs .u8 w vm m) (m8:U8 m) (hc:Chs w vl l) (hg:CL l) (hl:l.length<=1048576) (hT:Tab w) :
 Calls prog 16 #[vm,.int .u64 v,vl] w λe w'=>∃a b,e=.returned (.tuple #[a,b,.int .i64 (QZ m 0 l)])∧FY w w' m v l a b∧(QZ m 0 l≠0->a=NIL∧b=NIL)∧N0 w w':=by
 obtain⟨ao,cap,rfl,hx⟩:=hc.len;obtain⟨n,hn⟩:=EX l.length;obtain⟨w1,hh,h3,k6⟩:=JK w n (by omega);obtain⟨w2,hd,h8,hz⟩:=I5 w1 n (by omega) (enf m l);obtain⟨N1,hw⟩:=EX w.heap.size;obtain⟨N2,k3⟩:=EX w1.heap.size;rw[<-hw] at hh h3;rw[<-k3] at hd h8
 have hj:N1<N2:=by
  have:w.heap.size<w1.heap.size:=by
   rcases h3.2 with ⟨e,_⟩ | ⟨g,c,cur,e,_,hg',_⟩
   ·cases e
   ·cases e;rw[<-hw];exact (Array.getElem?_eq_some_iff.1 hg').1
  omega
 have S0:Hid (LD w2 N1 n 0 (slf m v l)∧ED w2 N2 n 0 (enf m l)∧N0 w w2∧QZ m 0 l=QZ m 0 (l.drop 0)):=⟨(LD.nought h3).past hz,h8,k6.same hz,rfl⟩;have HH:=Qa (And.intro bm (And.intro m8 (And.intro hg hT)));have HC:=Qa hc;have HN:=Qa (And.intro hn (And.intro hw (show w.heap.size<=N2 by omega)))
 have hnb:n<=1048576:=by omega
 have hm:N1≠N2:=by omega
 have k5:N2≠N1:=by omega
 rw[<-hn] at hx;rw[<-hn] at HC;rw[<-hn];obtain⟨E,hE⟩:=EX (QZ m 0 l);rw[<-hE] at S0 ⊢;have HE:=Qa hE;clear hc hg hl bm m8 hT h3 h8 k6 hz hw k3 hn hj hE;go_enter func16,ntmps16;go_wp2
 go_loopw [25] (λi wr=>∃k:Nat,k<=n∧i=.int .i64 k∧Hid (LD wr N1 n k (slf m v l)∧ED wr N2 n k (enf m l)∧N0 w wr∧E=QZ m k (l.drop k))) (λi _=>n - (intOf i).toNat)
 case atStart=>exact⟨0,Nat.zero_le _,rfl,S0⟩
 case round =>
  obtain⟨k,hk,rfl,hS⟩:=hrel;clear S0 hh hd
  by_cases hlt:k<n
  ·have dlt:decide ((k:Int)<(n:Int))=true:=Qe (by omega)
   have dlt':decide (k<n)=true:=Qe hlt
   have hu:k<l.length:=by rw[<-HN.o.1];exact hlt
   obtain⟨b,off,u,ea,hf,k0,hs⟩:=(HC.o.past hS.o.2.2.1).at k hu;subst ea;obtain⟨hv,k1,k2⟩:=HH.o.2.2.1.at hu;obtain⟨c,ho⟩:=EX (l.getD k Qz)
   have h4:E=if YD m k c=0 then QZ m (k+1) (l.drop (k+1)) else YD m k c:=by rw[hS.o.2.2.2,A4 hu,ho]
   have h9:slf m v l k=Ya (QN m c) v k c:=by rw[ho]
   have ha:enf m l k=(c.1,Yq (QN m c) k c):=by rw[ho]
   rw[<-ho] at hf hs hv k1 k2;obtain⟨t,ht⟩:=EX (strOfNums c.1)
   have hr:sb t=c.1:=by rw[ht,sb_of hv.t8]
   have k4:t.size<=maxLen:=by rw[<-QX,hr];exact k1
   rw[<-ht] at hf
   have hsl:∃au nu cu,u=.slice au nu cu:=by obtain⟨a,c',e,_⟩:=hs;exact⟨_,_,_,e⟩
   obtain⟨au,nu,cu,rfl⟩:=hsl
   have i0:(0:Int)<=(k:Int):=by omega
   have i1:(k:Int)<(n:Int):=by omega
   obtain⟨wb,hp⟩:=EX (wr.alloc (.cells #[.string t,.slice au nu cu] 61))
   have ob:N0 wr wb:=by rw[hp];exact (Only.refl _ _).alloc _
   have G0:=Qa (show wb.heap[wr.heap.size]? = some (.cells #[.string t,.slice au nu cu] 61 (0,0)) by rw[hp];exact heap_alloc_new _ _);obtain⟨q0,q1,_,_⟩:=QE G0.o;have TA:=Qa (Ij vm m t HH.o.2.1 wb (HH.o.1.past (hS.o.2.2.1.same ob)));rw[hr] at TA;have HB:=Qa (And.intro hp ob)
   have hB1:¬wr.heap.size=N1:=by have:=hS.o.1.lt;omega
   have hB2:¬wr.heap.size=N2:=by have:=hS.o.2.1.lt;omega
   have h7:=Qa (And.intro (hS.o.1.past ob) (And.intro (hS.o.2.1.past ob) (hS.o.2.2.1.same ob)));have HX:=Qa (And.intro (hs.past ob) (And.intro hv (And.intro k2 k4)));have HQ:=Qa (And.intro h9 (And.intro ha (And.intro hr ht)));clear hp ob hs hv k2 k4 k1 hS ho h9 ha hu hr ht
   by_cases h1:QL m c.1=0
   ·rw[h1] at TA
    have HT8:Hid (U8 (QT m 1 c.1)):=by
     show U8 _
     unfold QT;split
     ·split
      ·exact ZQ _ _ _
      ·intro y hy;cases hy
     ·intro y hy;cases hy
    have SL:=Qa (λ(W:World) (x:Value) (o:N0 wb W) (h:Bs .u8 W x (QN m c))=>yQ x (QN m c) v k t (.slice au nu cu) c.2 W h HT8.o ⟨by omega,by omega⟩ (HX.o.1.past o) HX.o.2.1.gs HX.o.2.2.1 HX.o.2.2.2 (HH.o.2.2.2.past (h7.o.2.2.same o)));simp only[show (sb t,c.2)=c from by rw[HQ.o.2.2.1]] at SL
    have eC:YD m k c=Yg (QN m c) k c:=by unfold YD;rw[if_pos h1]
    rw[eC] at h4
    by_cases h2:Yg (QN m c) k c=0
    ·rw[if_pos h2] at h4
     rw[h2] at SL;clear h1 h2 eC;go_wp2_with fail;rw[<-HB.o.1];refine TA.o.mono ?_;rintro e w3 ⟨x3,rfl,h0,o3⟩;have he:=Qa (SL.o w3 x3 o3 (Bs.of_own h0));have G3:=Qa (o3.heap G0.o (λf=>f));obtain⟨p0,p1,_,_⟩:=QE G3.o;have hq:=Qa (And.intro (h7.o.1.past o3) (And.intro (h7.o.2.1.past o3) (h7.o.2.2.same o3)));clear h0 o3 TA SL G0 h7 q0 q1 hf k0 HX;go_wp2_with fail;refine he.o.mono ?_;rintro e w4 ⟨x4,rfl,h5,o4⟩;clear p0 p1;have G4:=o4.heap G3.o (λf=>f);obtain⟨p0,p1,_,_⟩:=QE G4;obtain⟨a4,c4,rfl⟩:=Qm h5;have LS:=hq.o.1.past o4;have ES:=hq.o.2.1.past o4;obtain⟨r0,r1⟩:=LS.cell hlt;obtain⟨f0,f1,f2,f3⟩:=ES.cell hlt;have F:=Qa (And.intro LS (And.intro ES (And.intro (hq.o.2.2.same o4) h5)));clear LS ES h5 o4 he hq G3 G4
     have ck2:((k:Int)*2).toNat=k*2:=by omega
     have FF:Hid (LD (((w4.setCell ⟨N1,k,none⟩ (.slice a4 (Ya (QN m c) (v:Int) (k:Int) c).length c4)).setCell ⟨N2,k*2,none⟩ (.string t)).setCell ⟨N2,k*2+1,none⟩ (.int .i64 (Yq (QN m c) (k:Int) c))).drew N1 n (k+1) (slf m v l) ∧
      ED (((w4.setCell ⟨N1,k,none⟩ (.slice a4 (Ya (QN m c) (v:Int) (k:Int) c).length c4)).setCell ⟨N2,k*2,none⟩ (.string t)).setCell ⟨N2,k*2+1,none⟩ (.int .i64 (Yq (QN m c) (k:Int) c))).drew N2 n (k+1) (enf m l) ∧
      N0 w (((w4.setCell ⟨N1,k,none⟩ (.slice a4 (Ya (QN m c) (v:Int) (k:Int) c).length c4)).setCell ⟨N2,k*2,none⟩ (.string t)).setCell ⟨N2,k*2+1,none⟩ (.int .i64 (Yq (QN m c) (k:Int) c))).drew∧E=QZ m (k+1) (l.drop (k+1))):=by
      have q:=uV (x:=.slice a4 (Ya (QN m c) (v:Int) (k:Int) c).length c4) (t:=t) (b:=Yq (QN m c) (k:Int) c) F.o.1 F.o.2.1 hm hlt (lo:=w3.heap.size) (by rw[HQ.o.1];exact F.o.2.2.2) (by rw[HQ.o.2.1];exact HQ.o.2.2.2) (by rw[HQ.o.2.1]);refine⟨q.1,q.2,((((F.o.2.2.1).setCell (p:=⟨N1,k,none⟩) (λhb=>?_) _).setCell (p:=⟨N2,k*2,none⟩) (λhb=>?_) _).setCell (p:=⟨N2,k*2+1,none⟩) (λhb=>?_) _).drew,h4⟩
      ·have:=HN.o.2.1;simp only at hb;omega
      ·have:=HN.o.2.2;simp only at hb;omega
      ·have:=HN.o.2.2;simp only at hb;omega
     clear F h4;generalize Yq (QN m c) (k:Int) c=bk at *;generalize (Ya (QN m c) (v:Int) (k:Int) c).length=sl at *;go_wp2;go_region;go_wp2
     go_roundw
     case rel=>exact⟨k+1,by omega,by go_num,FF⟩
     case measure=>simp[intOf];omega
    ·rw[if_neg h2] at h4
     have hne:(Yg (QN m c) k c != 0)=true:=by simpa using h2
     have h6:¬E=0:=by rw[h4];exact h2
     have HF:=Qa (And.intro h4 h6);clear h1 h2 eC h4 h6;generalize Yg (QN m c) (k:Int) c=er at *;go_wp2_with fail;rw[<-HB.o.1];refine TA.o.mono ?_;rintro e w3 ⟨x3,rfl,h0,o3⟩;have he:=Qa (SL.o w3 x3 o3 (Bs.of_own h0));have G3:=Qa (o3.heap G0.o (λf=>f));obtain⟨p0,p1,_,_⟩:=QE G3.o;have O3:=Qa (h7.o.2.2.same o3);clear h0 o3 TA SL G0 h7 q0 q1 hf k0 HX;go_wp2_with fail;refine he.o.mono ?_;rintro e w4 ⟨x4,rfl,h5,o4⟩;have O4:=Qa (O3.o.same o4);clear h5 o4 he O3;go_wp2;exact bodyPost_ret (Ua rfl _ _ _) rfl ⟨_,_,by rw[HF.o.1];rfl,λq=>absurd (HE.o.trans q) HF.o.2,λ_=>⟨rfl,rfl⟩,O4.o⟩
   ·have eC:YD m k c=QL m c.1:=by unfold YD;rw[if_neg h1]
    rw[eC,if_neg h1] at h4
    have hne:(QL m c.1 != 0)=true:=by simpa using h1
    have h6:¬E=0:=by rw[h4];exact h1
    have HF:=Qa (And.intro h4 h6);clear h1 eC h4 h6;generalize QL m c.1=er at *;go_wp2_with fail;rw[<-HB.o.1];refine TA.o.mono ?_;rintro e w3 ⟨x3,rfl,h0,o3⟩;have O3:=Qa (h7.o.2.2.same o3);clear h0 o3 TA G0 h7 q0 q1 hf k0 HX;go_wp2;exact bodyPost_ret (Ua rfl _ _ _) rfl ⟨_,_,by rw[HF.o.1];rfl,λq=>absurd (HE.o.trans q) HF.o.2,λ_=>⟨rfl,rfl⟩,O3.o⟩
  ·obtain rfl:k=n:=by omega
   have dlt:decide ((k:Int)<(k:Int))=false:=Qb (by omega)
   have e0:E=0:=by rw[hS.o.2.2.2,HN.o.1,List.drop_length];rfl
   subst e0;have F:=Qa (And.intro hS.o.1 (And.intro hS.o.2.1 hS.o.2.2.1));clear hS;go_wp2;exact bodyPost_ret (Ua rfl _ _ _) rfl ⟨_,_,rfl,λ_=>⟨N1,N2,by rw[<-HN.o.1];rfl,by rw[<-HN.o.1];rfl,by have:=HN.o.2.1;omega,HN.o.2.2,by rw[<-HN.o.1];exact F.o.1,by rw[<-HN.o.1];exact F.o.2.1⟩,λq=>absurd rfl q,F.o.2.2⟩
theorem Tryz.one22:(prog.info? 23).map (·.size)=some 1:=by kernel_rfl
theorem I6 (w:World) (N n:Nat) (hn:n<=1000000000):∃C wm,n+1<=C∧C<=maxLen∧(Builtin.append_ #[38,3] 38 #[.slice (some ⟨N,0,none⟩) 0 n,.int .i64 ((n+1:Nat):Int)]).run prog w=.ok (.slice (some ⟨w.heap.size,0,none⟩) (n+1) C) wm ∧
 Blk wm w.heap.size 23 (List.replicate C NIL)∧wm.heap.size=w.heap.size+1∧N0 w wm:=by
 obtain⟨i0,hi,hz0,hz1,h0⟩:=info_parts Tryz.infoRows;have hge:=grownCap_ge w (n+1) n 23;have hcm:=grownCap_le_maxLen w (n+1) n 23 (by unfold maxLen;omega);have hr:=Lib.run_append_grow_zeros (P:=prog) w 38 3 38 23 i0 NIL .i64 .i64 underlying38 underlying3 hi hz0 (some ⟨N,0,none⟩) 0 n [] (by have:=run_loadCells_list (P:=prog) w.drew ⟨N,0,none⟩ [] (λj v h=>by simp at h);simpa [Builtin.firstCells,hz1] using this) (n+1) (by omega) (by omega) (by omega) (by omega) (by rw[h0];omega) (by rw[h0,Nat.zero_add];exact growslice_fits (by omega) (by omega));rw[Nat.zero_add] at hr;refine⟨_,_,hge,hcm,hr,?_,by simp,(Only.refl _ _).drew.alloc _⟩
 have e:(([]:List Value).toArray++Builtin.zeroCells NIL.cells (n+1)++Builtin.zeroCells NIL.cells (grownCap w (n+1) n 23 - (n+1)))=(List.replicate (grownCap w (n+1) n 23) NIL).toArray:=by
  apply Array.toList_inj.1
  simp only[Array.toList_append,show NIL.cells=#[NIL] from rfl,Zg,List.nil_append,List.replicate_append_replicate];rw[show n+1+(grownCap w (n+1) n 23 - (n+1))=grownCap w (n+1) n 23 by omega]
 rw[e];exact heap_alloc_new _ _
theorem TF (W:World) (G off L cap:Nat) (src:Addr) (cs Z:List Value) (k m:Nat) (hk:cs.length=k) (hN:Blk W G 23 Z) (hs:∀j v,cs[j]? = some v->W.cell? (src.add j)=some v) (h1:∀v∈cs,v.oneCell'=true) (hl:k<=L) (hf:off+k<=Z.length) :
 ∃w3,(Builtin.copy_ #[38,38] 3 #[.slice (some ⟨G,off,none⟩) L cap,.slice (some src) k m]).run prog W=.ok (.int .i64 (k:Int)) w3∧Blk w3 G 23 (Z.take off++cs++Z.drop (off+k))∧w3.heap.size=W.heap.size∧Only (λk=>k=G) W w3:=by
 subst hk;have h0:=run_copy_row (P:=prog) W 38 38 3 23 G off L cap src cs.length m Z.toArray 23 cs underlying38 Tryz.one22 hN (Nat.min_eq_left hl).symm hs (by simpa using hf) h1;exact⟨_,h0,setRow_heap W G _ _ _ _ hN,by simp[World.setRow],(Only.refl (λk=>k=G) W).setRow (λ_=>rfl) _⟩
theorem yF (N X n lo:Nat) (x:Value) (vs:List Value) (w:World) (hn:n<=1000000) (own:w.ownsRow lo 23 1 (.slice (some ⟨N,0,none⟩) n n) n vs) (v1:∀v∈vs,v.oneCell'=true) (hX:w.cell? ⟨X,0,none⟩=some x) (x1:x.oneCell'=true) (hlo:lo<=w.heap.size) :
 Calls prog 20 #[.slice (some ⟨N,0,none⟩) n n,.int .i64 0,.slice (some ⟨X,0,none⟩) 1 1] w λe w'=>∃B C,e=.returned (.slice (some ⟨B,0,none⟩) (n+1) C)∧w'.ownsRow lo 23 1 (.slice (some ⟨B,0,none⟩) (n+1) C) (n+1) (x :: vs)∧Only (λk=>k=N) w w':=by
 have hl:vs.length=n:=by have:=own.1;omega
 have h4:∀(W:World),W.cell? ⟨X,0,none⟩=some x->∀j v,([x]:List Value)[j]? = some v->W.cell? ((⟨X,0,none⟩:Addr).add j)=some v:=by
  intro W h j v hj
  match j,hj with
  | 0,hj=>simp at hj;subst hj;exact h
 by_cases h0:n=0
 ·subst h0
  have hvs:vs=[]:=List.eq_nil_of_length_eq_zero hl;subst hvs;obtain⟨i0,hi,hz0,hz1,hz2⟩:=info_parts Tryz.infoRows;have OW:=Qa own;have HV:Hid (VS w (.slice (some ⟨X,0,none⟩) 1 1) [x]):=⟨_,1,rfl,NoCap.some _ _ _,λy hy=>by simp at hy;subst hy;exact x1,(λh=>by cases h),(λad e=>by cases e;exact h4 w hX)⟩;clear own h4 hX;go_enter func20,ntmps20;go_wp2_with (at_builtin;refine Kd _ rfl _ _ 38 rfl lo 23 i0 NIL 24 underlying38 hi hz0 hz1 hz2 rfl _ 0 [] rfl OW.o _ [x] rfl HV.o (by unfold maxLen;simp) (by simp) hlo ?_);intro v' w' h2 g'
  obtain⟨B,C,e⟩:∃B C,v'=.slice (some ⟨B,0,none⟩) 1 C:=by
   rcases h2.2 with ⟨_,h⟩ | ⟨g,c,cur,e,_⟩
   ·simp at h
   ·exact⟨g,c,e⟩
  subst e;have F:=Qa (And.intro h2 ((Only.refl (λk=>k=N) w).grown g' (λk _ e=>by simp[Value.ownBlock] at e;omega)));clear h2 g';go_wp2;go_ret;exact⟨_,_,rfl,F.o⟩
 ·obtain⟨C,wm,hge,hcm,h1,h5,hsz,om⟩:=I6 w N n (by omega)
  obtain⟨G,hG⟩:=EX w.heap.size;rw[<-hG] at h1 h5;obtain⟨w3,hc1,h8,hs3,o3⟩:=TF wm G 0 (n+1) C ⟨X,0,none⟩ [x] (List.replicate C NIL) 1 1 rfl h5 (h4 wm (Qv hX om)) (λy hy=>by simp at hy;subst hy;exact x1) (by omega) (by simp;omega);have hNb:N<w.heap.size:=ZJ own
  have h3:∀(W:World),Only (λk=>k=G) wm W->∀j v,vs[j]? = some v->W.cell? ((⟨N,0,none⟩:Addr).add j)=some v:=by
   intro W o j v hj;have hjl:j<vs.length:=(List.getElem?_eq_some_iff.1 hj).1;have ow:=(o.own (om.own own (λ_ _ f=>f)) (λk hk e=>by simp[Value.ownBlock] at hk;omega));have:=ow.cellAt j (by omega);rw[hj] at this;rw[<-this,show (⟨N,0,none⟩:Addr).add j=⟨N,j,none⟩ by unfold Addr.add;split <;> simp_all]
  have h7:Only (λk=>k=G) wm w3.drew:=o3.drew;obtain⟨w4,hc2,h6,hs4,o4⟩:=TF w3.drew G 1 n (C - 1) ⟨N,0,none⟩ vs ((List.replicate C NIL).take 0++[x]++(List.replicate C NIL).drop (0+1)) n n hl h8 (h3 _ h7) v1 (Nat.le_refl _) (by simp;omega)
  have hZ:(((List.replicate C NIL).take 0++[x]++(List.replicate C NIL).drop (0+1)).take 1++vs++((List.replicate C NIL).take 0++[x]++(List.replicate C NIL).drop (0+1)).drop (1+n))=x :: vs++List.replicate (C - 1 - n) NIL:=by
   have e:(List.replicate C NIL).take 0++[x]++(List.replicate C NIL).drop (0+1)=x :: List.replicate (C - 1) NIL:=by simp[List.drop_replicate]
   rw[e,Nat.add_comm 1 n,List.drop_succ_cons,List.drop_replicate];rfl
  rw[hZ] at h6
  have F:Hid (w4.ownsRow lo 23 1 (.slice (some ⟨G,0,none⟩) (n+1) C) (n+1) (x :: vs)∧Only (λk=>k=N) w w4):=by
   refine⟨⟨by simp[hl],.inr ⟨G,C,_,rfl,by omega,h6,hge,hcm,?_,?_⟩⟩,?_⟩
   ·simp[hl];omega
   ·rw[List.take_append_of_le_length (by simp[hl])]
    exact List.take_of_length_le (by simp[hl])
   ·exact (om.trans (o3.drew.trans o4 (λ_ _ e=>e)) (λi hi e=>by omega)).mono (λ_ _ f=>f.elim)
  have e1:((n+1:Nat):Int)=(n:Int)+1:=by omega
  rw[e1] at h1
  have d0:((0:Int) == (n:Int))=false:=by rw[beq_eq_false_iff_ne];omega
  have d1:decide ((n:Int)<(n:Int)+1)=true:=Qe (by omega);clear h4 own v1 hX x1 hlo hl h5 hsz om h8 hs3 o3 h3 h7 h6 hs4 o4 hZ hG e1;go_enter func20,ntmps20;go_wp2_with (at_builtin;refine Lib.wpList_append_run _ rfl _ _ _ _ rfl _ _ rfl rfl _ _ h1 ?_)
  have d2:¬C=1:=by omega
  have d3:¬1=C:=by omega
  go_wp2;go_region;go_wp2;go_ret;exact⟨_,_,rfl,F.o⟩
theorem Zf {fn:Func} {a b c:Tmp} {ty:TypeId} (h:fn.results=#[.tmp a,.cell b ty,.tmp c]) (tmps:Array Value) (w:World) {ad:Addr} {v1 v2 v3:Value}
 (h1:tmps.getD a undef=v1) (h2:tmps.getD b undef=.pointer (some ad)) (h3:tmps.getD c undef=v3) (hl:(loadVar ty ad).run P w=.ok v2 w) :
 (results fn tmps).run P w=.ok (.tuple #[v1,v2,v3]) w:=by
 have h1':tmps[a]?.getD undef=v1:=by simpa using h1
 have h2':tmps[b]?.getD undef=.pointer (some ad):=by simpa using h2
 have h3':tmps[c]?.getD undef=v3:=by simpa using h3
 simp[results,h,h1',h2',h3',asAddr,hl]
theorem put2 {x0 x1:Value} (h:W.heap[B]? = some (.cells #[x0,x1] E (0,0))) (y0 y1:Value) :
 ((W.setCell ⟨B,0,none⟩ y0).setCell ⟨B,1,none⟩ y1).heap[B]? = some (.cells #[y0,y1] E (0,0))∧Only (λk=>k=B) W ((W.setCell ⟨B,0,none⟩ y0).setCell ⟨B,1,none⟩ y1):=by
 have g1:=heap_setCell_same W B 0 _ _ y0 h;have g2:=heap_setCell_same _ B 1 _ _ y1 g1;exact⟨by simpa using g2,((Only.refl (λk=>k=B) W).setCell (p:=⟨B,0,none⟩) (λ_=>rfl) _).setCell (p:=⟨B,1,none⟩) (λ_=>rfl) _⟩
theorem Pj (L:List (LI)):cat (λi=>L.getD i []) L.length=L.flatten:=by
 unfold cat;rw[List.flatMap_def]
 congr 1
 refine List.ext_getElem (by simp) (λi h1 h2=>?_);simp[List.getD_eq_getElem?_getD,List.getElem?_eq_getElem h2]
theorem J0 {N lo n:Nat} {xs:List Value} (o:Only (λk=>k=N) w w') {cs:Array Value} (hN:w.heap[N]? = some (.cells cs 23)) (h:w.ownsRow lo 5 1 v n xs):w'.ownsRow lo 5 1 v n xs :=
 o.own h (λk hk e=>by
  subst e
  rcases h.2 with ⟨rfl,_⟩ | ⟨g,cap,cur,rfl,_,hg,_⟩
  ·cases hk
  ·cases hk;rw[hN] at hg;cases hg)
theorem LO.off {N:Nat} {vs:List Value} (h:LO w vs ls) (o:Only (λk=>k=N) w w') {cs:Array Value} (hN:w.heap[N]? = some (.cells cs 23)):LO w' vs ls :=
 ⟨h.1,λj u hu=>by obtain⟨lo,h1⟩:=h.2 j u hu;exact⟨lo,J0 o hN h1⟩⟩
theorem Nr {m:MAN} (h:Uh m) (h1:m.es.length<=100):(MENC m).length<=10000:=by
 obtain⟨g1,g2,g3,g4,g5⟩:=h;have hT0:=Ve m
 have h2:(QC m).length<=1048576:=by omega
 have q1:=ZH (QC m) _ (Nat.le_refl _) h2 (λx hx=>by
  obtain⟨e,h0,rfl⟩:=List.mem_map.1 ((UF _ _).1 hx)
  exact (g5 e h0).1.1)
 have q2:=ZM (QC m) m.es _ (Nat.le_refl _) g4 (λe h0=>VU h0) h2;rw[XX] at q1;rw[JZ] at q2;unfold MENC;simp only[Qc,QD,g2.1,g3.1,QW,Qi,List.length_nil] at q1 q2 ⊢;omega
theorem ZE (L:List (LI)) (k:Nat) (h:∀x∈L,x.length<=k):L.flatten.length<=L.length*k:=by
 induction L with
 | nil=>simp
 | cons a L ih =>
  have h1:=h a (by simp);have h2:=ih (λx hx=>h x (by simp[hx]));rw[List.flatten_cons,Qc,Qi,Nat.succ_mul];omega
theorem XO {m:LI} {v:Nat} {l:List Qk}:∀x∈Q8 m v l k,x.length<=4194320:=λx hx=>by
 obtain⟨i,_,rfl⟩:=List.mem_map.1 hx;exact Rg
theorem CG_at {l:List Qk} (h:∀c∈l,CG c) (j:Nat):CG (l.getD j Qz):=by
 by_cases hj:j<l.length
 ·rw[Qd,Qg hj];exact h _ (List.getElem_mem hj)
 ·rw[Qd,List.getElem?_eq_none (by omega)]
  exact⟨λy hy=>(by cases hy),⟨λy hy=>(by cases hy),λy hy=>(by cases hy)⟩⟩
theorem X7 {m:LI} {v:Nat} {l:List Qk} (h:∀c∈l,CG c) (k:Nat):R8 (Q8 m v l k):=λx hx=>by
 obtain⟨i,_,rfl⟩:=List.mem_map.1 hx;exact⟨Fl (CG_at h i),by have:=Rg (k:=QN m (l.getD i Qz)) (v:=v) (i:=i) (c:=l.getD i Qz);omega⟩
theorem Ok {lo n B C:Nat} {x:Value} {vs:List Value} {b0:LI} (own:w.ownsRow lo 23 1 (.slice (some ⟨B,0,none⟩) (n+1) C) (n+1) (x :: vs)) (hn:n<=900) (hx:∃lo,w.ownsRow lo 5 1 x b0.length (bl b0)) (hl:LO w vs ls) (h0:0<b0.length) (h1:b0.length<=1000000000) (h2:∀y∈ls,y.length<=4194320) :
 Calls prog 22 #[.slice (some ⟨B,0,none⟩) (n+1) C] w λe w'=>∃u,e=.returned u∧w'.ownsRow w.heap.size 5 1 u (b0++ls.flatten).length (bl (b0++ls.flatten))∧N0 w w':=by
 have hvl:vs.length=n:=by have:=own.1;simp at this;omega
 have h4:ls.length=n:=by rw[<-hl.1];exact hvl
 have h5:∀i,i<n+1->∃lo,w.ownsRow lo 5 1 ((x :: vs).getD i NIL) ((b0 :: ls).getD i []).length (bl ((b0 :: ls).getD i [])):=by
  intro i hi
  cases i with
  | zero=>simpa using hx
  | succ j =>
   have hj:j<vs.length:=by omega
   have:=hl.2 j vs[j] (Qg hj)
   simpa [List.getD_eq_getElem?_getD,List.getElem?_eq_getElem hj] using this
 have h3:cat (λi=>(b0 :: ls).getD i []) (n+1)=b0++ls.flatten:=by
  have:=Pj (b0 :: ls);rw[Qi,h4,List.flatten_cons] at this;exact this
 have hf:=ZE ls 4194320 h2
 have:=XZ B (n+1) C (λi=>(x :: vs).getD i NIL) (λi=>(b0 :: ls).getD i []) w (by omega) (by omega)
  (λi hi=>by
   rw[World.ownsRow.cellAt own i (by omega),Qg (by simp;omega)]
   simp[List.getD_eq_getElem?_getD,List.getElem?_eq_getElem (show i<(x :: vs).length by simp;omega)])
  (λi hi=>by obtain⟨lo,h⟩:=h5 i hi;exact Bs.of_own h)
  (λi hi=>by obtain⟨lo,h⟩:=h5 i hi;exact NoCap.of_own h)
  (by rw[h3,Qc];omega) (by rw[h3,Qc];rw[h4] at hf;omega)
 rw[h3] at this;exact this
theorem Wo {N lo n size:Nat} {E T:TypeId} {xs:List Value} {f:Nat × Nat} {cs:Array Value} (o:Only (λk=>k=N) w w') (hN:w.heap[N]? = some (.cells cs T f)) (hT:T≠E) (h:w.ownsRow lo E size v n xs):w'.ownsRow lo E size v n xs :=
 o.own h (λk hk e=>by
  subst e
  rcases h.2 with ⟨rfl,_⟩ | ⟨g,cap,cur,rfl,_,hg,_⟩
  ·cases hk
  ·cases hk;rw[hN] at hg;cases hg;exact hT rfl)
theorem LO.ne {N:Nat} {T:TypeId} {f:Nat × Nat} {vs:List Value} (h:LO w vs ls) (o:Only (λk=>k=N) w w') {cs:Array Value} (hN:w.heap[N]? = some (.cells cs T f)) (hT:T≠5):LO w' vs ls :=
 ⟨h.1,λj u hu=>by obtain⟨lo,h1⟩:=h.2 j u hu;exact⟨lo,Wo o hN hT h1⟩⟩
theorem Xe {e:LI × Int} {es:List (LI × Int)} {ys t:LI} (h:CUT (e :: es) ys=some (ls,t)) :
 ∃l ls',ls=l :: ls'∧¬ys.length<(QO e.2).toNat+16∧l=ys.take ((QO e.2).toNat+16)∧CUT es (ys.drop ((QO e.2).toNat+16))=some (ls',t):=by
 rw[CUT] at h
 by_cases h1:ys.length<(QO e.2).toNat+16
 ·rw[if_pos h1] at h;cases h
 ·rw[if_neg h1] at h
  cases h2:CUT es (ys.drop ((QO e.2).toNat+16)) with
  | none=>rw[h2] at h;cases h
  | some x =>
   rw[h2] at h;simp only[Option.some.injEq,Prod.mk.injEq] at h;exact⟨_,x.1,h.1.symm,h1,rfl,by rw[<-h.2]⟩
theorem Gq:∀(es:List (LI × Int)) {ys t:LI} {ls:List (LI)},CUT es ys=some (ls,t)->ls.length=es.length
 | [],ys,t,ls,h=>by simp[CUT] at h;rw[h.1];rfl
 | e :: es,ys,t,ls,h=>by
  obtain⟨l,ls',rfl,_,_,h2⟩:=Xe h;simp[Gq es h2]
theorem Dn {ys t:LI} (es:List (LI × Int)) (ls:List (LI)) (ve:Value) (w:World) (hC:CurAt 108 w R v ys) (k5:∀k,v.ownBlock=some k->k<w.heap.size) (hE:Ens w ve es) (hp:∀k,ve.ownBlock=some k->¬k=R) (h0:CUT es ys=some (ls,t)) (hb:∀e∈es,0<=e.2∧e.2<=8) (hn:es.length<=1048576) :
 Calls prog 55 #[.func (.func 56) #[.pointer (some ⟨R,0,none⟩)] #[],ve] w λe w'=>∃a,e=.returned (.tuple #[a,.int .i64 0])∧(∃vs,LO w' vs ls∧w'.ownsRow w.heap.size 23 1 a ls.length vs)∧(∃v2,CurAt 108 w' R v2 t∧v2.ownBlock=v.ownBlock)∧Only (λk=>k=R) w w':=by
 obtain⟨ae,ce,rfl⟩:=hE.len;obtain⟨i0,hi,hz0,hz1,hz2⟩:=info_parts Tryz.infoRows;have k2:R<w.heap.size:=(Array.getElem?_eq_some_iff.1 hC.cell).1;have k4:=Gq es h0;obtain⟨n,hj⟩:=EX es.length
 have S0:Hid (∃(rv:Value) (vs:List Value) (v2:Value) (rest:LI),.slice none 0 0=rv∧w.ownsRow w.heap.size 23 1 rv 0 vs∧LO w vs (ls.take 0)∧CurAt 108 w R v2 rest∧v2.ownBlock=v.ownBlock∧CUT (es.drop 0) rest=some (ls.drop 0,t)∧Only (λk=>k=R) w w) :=
  ⟨_,[],v,ys,rfl,World.ownsRow_nil _ _ _ _,LO.nil w,hC,rfl,h0,Only.refl _ _⟩
 have HE:=Qa (And.intro hE (And.intro hp (And.intro hb (And.intro k5 (And.intro k2 k4)))));have HN:=Qa hj
 have hnb:n<=1048576:=by omega
 rw[<-hj] at HE ⊢;clear hC k5 hE hp h0 hb hn k2 k4 hj;go_enter func55,ntmps55;go_wp2
 go_loopw [6,13] (λrv i wr=>∃k:Nat,k<=n∧i=.int .i64 k∧Hid (∃(vs:List Value) (v2:Value) (rest:LI),wr.ownsRow w.heap.size 23 1 rv k vs∧LO wr vs (ls.take k)∧CurAt 108 wr R v2 rest∧v2.ownBlock=v.ownBlock∧CUT (es.drop k) rest=some (ls.drop k,t)∧Only (λk=>k=R) w wr)) (λ_ i _=>n - (intOf i).toNat)
 case atStart =>
  obtain⟨rv,vs,v2,rest,rfl,h⟩:=S0.o;exact⟨0,Nat.zero_le _,rfl,vs,v2,rest,h⟩
 case round =>
  obtain⟨k,hk,rfl,hS⟩:=hrel;clear S0
  by_cases hlt:k<n
  ·have dlt:decide ((k:Int)<(n:Int))=true:=Qe (by omega)
   have dlt':decide (k<n)=true:=Qe hlt;obtain⟨vs,v2,rest,ow,lo,cu,h6,h0,o⟩:=hS.o
   have h5:k<es.length:=by rw[<-HN.o];exact hlt
   rw[List.drop_eq_getElem_cons h5] at h0;obtain⟨l,ls',k3,h7,hl,h1⟩:=Xe h0
   have hkl:k<ls.length:=by have:=HE.o.2.2.2.2.2;omega
   have hh:es[k]=es.getD k ([],0):=by rw[Qd,Qg h5];rfl
   rw[hh] at h7 hl h1;have ha:=HE.o.2.2.1 _ (List.getElem_mem h5);rw[hh] at ha;obtain⟨b,off,cap',ee,hf,k6⟩:=(HE.o.1.keep o (λq hq=>HE.o.2.1 q hq)).at k h5
   obtain rfl:ae=some ⟨b,off,none⟩:=by simp at ee;exact ee.1
   clear ee;obtain⟨e,hx⟩:=EX (es.getD k ([],0));rw[<-hx] at h7 hl h1 ha hf k6;obtain⟨T,hT⟩:=EX (strOfNums e.1);rw[<-hT] at hf
   obtain⟨z,hz⟩:∃z:Nat,QO e.2=(z:Int)∧z<=4194304:=by
    refine⟨Qt e.2.toNat,?_,?_⟩
    ·unfold QO;rw[if_pos ha]
    ·unfold Qt
     have:e.2.toNat<=8:=by omega
     have h4:4^e.2.toNat<=4^8:=Nat.pow_le_pow_right (by decide) this
     have:(4:Nat)^8=65536:=by decide
     omega
   have ht:(QO e.2).toNat+16=z+16:=by rw[hz.1];rfl
   rw[ht] at h7 hl h1;obtain⟨wb,h8⟩:=EX (wr.alloc (.cells #[.string T,.int .i64 e.2] 88))
   have ob:N0 wr wb:=by rw[h8];exact (Only.refl _ _).alloc _
   obtain⟨q0,q1,_,_⟩:=QE (show wb.heap[wr.heap.size]? = some (.cells #[.string T,.int .i64 e.2] 88 (0,0)) by rw[h8];exact heap_alloc_new _ _);have SZ:=Qa (Zu e.2 wb);rw[hz.1] at SZ;have hzz:=hz.2;have HB:=Qa h8;have he:=cu.keep ob (λf=>f) (λ_ _ f=>f);have BY:=Qa (λW (oW:N0 wb W)=>V8 (he.keep oW (λf=>f) (λ_ _ f=>f)) ((z+16:Nat):Int));rw[KT h7,<-hl] at BY
   have hu:((z+16:Nat):Int)=(z:Int)+16:=by omega
   rw[hu] at BY;have D:=Qa (And.intro (ob.own ow (λ_ _ f=>f)) (And.intro (lo.past ob) (And.intro h6 (And.intro (o.trans (T:=λ_=>False) ob (λ_ _ f=>f.elim)) he.cell))));have HX:=Qa (And.intro k3 h1)
   have i0':(0:Int)<=(k:Int):=by omega
   have i1':(k:Int)<(n:Int):=by omega
   clear hS ow lo cu h6 h0 o h5 k3 h7 hl h1 hkl hh ha hx hT hz ht h8 ob he hu;go_wp2_with fail;rw[<-HB.o];refine SZ.o.mono ?_;rintro e1 w1 ⟨rfl,o1⟩;have k7:=Qa (BY.o w1 o1);have D1:=Qa (And.intro (o1.own D.o.1 (λ_ _ f=>f)) (And.intro (D.o.2.1.past o1) (And.intro D.o.2.2.1 (And.intro (D.o.2.2.2.1.trans (T:=λ_=>False) o1 (λ_ _ f=>f.elim)) (o1.heap D.o.2.2.2.2 (λf=>f))))));clear o1 SZ BY D q0 q1 hf k6;go_wp2_with fail;refine k7.o.mono ?_;rintro e2 w2 ⟨v1,rfl,h2,v3,hw,k1,o2⟩;obtain⟨a1,c1,rfl⟩:=Qm h2;obtain⟨m,hm⟩:=EX l.length;obtain⟨W3,h9⟩:=EX (w2.alloc (.cells #[.slice a1 m c1] 23))
   have o3:N0 w2 W3:=by rw[h9];exact (Only.refl _ _).alloc _
   have hV:VS W3 (.slice (some ⟨w2.heap.size,0,none⟩) 1 1) [.slice a1 m c1]:=VS.of_own (lo:=w2.heap.size) (n:=1) (e:=23) (by rw[h9];exact VN w2 23 [.slice a1 m c1] (Nat.le_refl _) (show 1<=maxLen by unfold maxLen;decide)) (λy hy=>by simp at hy;subst hy;rfl)
   have h3:(108:Nat)≠23:=by decide
   have k0:=o3.own (Wo o2 D1.o.2.2.2.2 h3 D1.o.1) (λ_ _ f=>f);have ho:=(D1.o.2.1.ne o2 D1.o.2.2.2.2 (by decide)).past o3;have E3:=Qa (And.intro k0 (And.intro ho (And.intro (hw.keep o3 (λf=>f) (λ_ _ f=>f)) (And.intro (k1.trans D1.o.2.2.1) (And.intro (((D1.o.2.2.2.1).trans o2 (λ_ _ e=>e)).trans (T:=λ_=>False) o3 (λ_ _ f=>f.elim)) (o3.own h2 (λ_ _ f=>f)))))));have HV:=Qa (And.intro hV (And.intro h9 hm))
   have bs:Hid (w.heap.size<=W3.heap.size):=by show _<=_;have:=E3.o.2.2.2.2.1.size;omega
   have hs:k+1<=maxLen:=by unfold maxLen;omega
   rw[<-hm];clear h2 hw k1 o2 o3 hV k0 ho k7 D1 h9 hm h3;go_wp2_with (at_builtin;rw[<-HV.o.2.1];refine Kd _ rfl _ _ 38 rfl w.heap.size 23 i0 NIL 24 underlying38 hi hz0 hz1 hz2 rfl _ k vs rfl E3.o.1 _ [.slice a1 m c1] rfl HV.o.1 hs (by simp only[Qi,List.length_nil];omega) bs.o ?_);intro v' w4 own4 g4
   have F:Hid (∃(vs:List Value) (v2:Value) (rest:LI),w4.ownsRow w.heap.size 23 1 v' (k+1) vs∧LO w4 vs (ls.take (k+1))∧CurAt 108 w4 R v2 rest∧v2.ownBlock=v.ownBlock∧CUT (es.drop (k+1)) rest=some (ls.drop (k+1),t)∧Only (λk=>k=R) w w4):=by
    obtain⟨ow,lo,cu,hv,o,ob⟩:=E3.o;have hg:=(Only.refl (λq=>u6.ownBlock=some q) W3).grown g4 (λ_ _ e=>e)
    have hRu:¬u6.ownBlock=some R:=λe=>by have:=(ow.lt R e).1;have:=HE.o.2.2.2.2.1;omega
    have hd:=HX.o.1
    have e1:ls.take (k+1)=ls.take k++[l]:=by
     rw[List.take_add_one]
     congr 1
     have:ls[k]? = some l:=by have:=List.getElem?_drop (xs:=ls) (i:=k) (j:=0);rw[hd] at this;simpa using this.symm
     rw[this];rfl
    have e2:ls.drop (k+1)=ls':=by rw[<-List.drop_drop,hd];rfl
    refine⟨vs++[.slice a1 m c1],v3,_,own4,?_,cu.keep hg hRu (λq hq e=>?_),hv,by rw[e2];exact HX.o.2,o.grown g4 (λq hq e=>?_)⟩
    ·rw[e1]
     have:=(LO.one ob).grown ow g4;rw[HV.o.2.2];exact (lo.grown ow g4).app this
    ·rw[hv] at hq
     have:=HE.o.2.2.2.1 q hq;have:=(ow.lt q e).1;omega
    ·have:=(ow.lt q e).1
     omega
   obtain⟨a4,c4,rfl⟩:=Qm own4;clear own4 g4 E3 HV bs hs HX;go_wp2
   go_roundw
   case rel=>exact⟨k+1,by omega,by go_num,F⟩
   case measure=>simp[intOf];omega
  ·obtain rfl:k=n:=by omega
   have dlt:decide ((k:Int)<(k:Int))=false:=Qb (by omega);obtain⟨vs,v2,rest,ow,lo,cu,h6,h0,o⟩:=hS.o;rw[HN.o,List.drop_length] at h0;have hl:ls.length=k:=HE.o.2.2.2.2.2;rw[<-HN.o,<-hl,List.drop_length] at h0;rw[<-hl,List.take_length] at lo
   have hr:rest=t:=by simp[CUT] at h0;exact h0
   subst hr;have F:=Qa (And.intro (show ∃vs,LO wr vs ls∧wr.ownsRow w.heap.size 23 1 _ ls.length vs from ⟨vs,lo,by rw[hl];exact ow⟩) (And.intro (show ∃v2,CurAt 108 wr R v2 rest∧v2.ownBlock=v.ownBlock from ⟨v2,cu,h6⟩) o));clear hS ow lo cu h6 h0 o;go_wp2;go_ret2;exact⟨_,rfl,F.o⟩
theorem y9 {m:MAN} (h:Uh m):Yj (MENC m)=m∧Y0 (MENC m)=0:=MD_ok (RX h)
theorem BG {fn:Func} {a b c:Tmp} {ty:TypeId} (h:fn.results=#[.cell a ty,.tmp b,.tmp c]) (tmps:Array Value) (w:World) {ad:Addr} {v1 v2 v3:Value}
 (h1:tmps.getD a undef=.pointer (some ad)) (h2:tmps.getD b undef=v2) (h3:tmps.getD c undef=v3) (hl:(loadVar ty ad).run P w=.ok v1 w) :
 (results fn tmps).run P w=.ok (.tuple #[v1,v2,v3]) w:=by
 have h1':tmps[a]?.getD undef=.pointer (some ad):=by simpa using h1
 have h2':tmps[b]?.getD undef=v2:=by simpa using h2
 have h3':tmps[c]?.getD undef=v3:=by simpa using h3
 simp[results,h,h1',h2',h3',asAddr,hl]
theorem Bs.recap {k:IntKind} {ao:Option Addr} {n c c':Nat} (h:Bs k w (.slice ao n c) xs) (hc:n<=c'):Bs k w (.slice ao n c') xs:=by
 obtain⟨ao',cap',e,h1,h2⟩:=h;simp at e;obtain⟨rfl,rfl,rfl⟩:=e;exact⟨_,_,rfl,hc,h2⟩
theorem Mnw.lowS {a b w':World} {x:Value} {m:MAN} {vp ve vr:Value} (h:Mnw b w' x m vp ve vr) (o:a.heap.size<=b.heap.size):Mnw a w' x m vp ve vr :=
 ⟨h.mf,h.np,h.nr,λk hk=>by have:=h.bp k hk;omega,λk hk=>by have:=h.be k hk;omega,λk hk=>by have:=h.br k hk;omega⟩
theorem Mnw.past {a w w':World} {x:Value} {m:MAN} {vp ve vr:Value} (h:Mnw a w x m vp ve vr) (o:N0 w w'):Mnw a w' x m vp ve vr:=⟨h.mf.past o,h.np,h.nr,h.bp,h.be,h.br⟩
theorem yj {ys sg:LI} {m:MAN} (w:World) (hvb:∀b,v.ownBlock=some b->b<w.heap.size) (hC:CurAt 108 w R v ys) (hs:Qq 268435456 ys=(sg,k,0)) (h32:32<=sg.length) (hm:MDEC (sg.take (sg.length - 32))=.ok m) (h8:U8 sg) :
 Calls prog 53 #[.func (.func 54) #[.pointer (some ⟨R,0,none⟩)] #[]] w λe w'=>∃x vp ve vr u,e=.returned (.tuple #[x,u,.int .i64 0])∧Mnw w w' x m vp ve vr∧Bs .u8 w' u sg∧NoCap u∧(∀q,u.ownBlock=some q->w.heap.size<=q)∧(∃v2,CurAt 108 w' R v2 (ys.drop k)∧v2.ownBlock=v.ownBlock)∧Only (λk=>k=R) w w':=by
 have h6:R<w.heap.size:=(Array.getElem?_eq_some_iff.1 hC.cell).1;have h1:=hC.len;obtain⟨w0,h0⟩:=EX (w.alloc (.cells #[.int .u64 0,.slice none 0 0,.slice none 0 0,.slice none 0 0] 37))
 have o0:N0 w w0:=by rw[h0];exact (Only.refl _ _).alloc _
 have g0:Hid (w0.heap[w.heap.size]? = some (.cells #[.int .u64 0,.slice none 0 0,.slice none 0 0,.slice none 0 0] 37 (0,0))):=by show _=_;rw[h0];exact heap_alloc_new _ _
 have BL:=Qa (J2 (hC.keep o0 (λf=>f) (λ_ _ f=>f)) 268435456 (by omega));rw[hs] at BL
 have hle:sg.length<=268435456:=by
  have:=hs;unfold Qq at this;rw[if_neg (by omega)] at this
  split at this
  ·rename_i q;simp only[Prod.mk.injEq] at this;rw[<-this.1];simp
  ·split at this
   ·simp only[Prod.mk.injEq] at this;omega
   ·split at this
    ·simp only[Prod.mk.injEq] at this;omega
    ·simp only[Prod.mk.injEq] at this;rw[<-this.1,Qf];omega
 obtain⟨e1,e2⟩:=MD_ok hm;have DE:=Qa (λ(W:World) (u:Value) (h:Bs .u8 W u (sg.take (sg.length - 32)))=>Jt u _ W h (h8.take _) (by rw[Qf];omega));rw[e1,e2] at DE;obtain⟨q,hq⟩:=EX sg.length;obtain⟨p,hp⟩:=EX (q - 32);rw[<-hq,<-hp] at DE;have HQ:=Qa (And.intro hq (show p<=sg.length by omega))
 have hsub:(q:Int) - 32=(p:Int):=by omega
 have dn:decide ((p:Int)<0)=false:=Qb (by omega)
 have j0:(0:Int)<=(p:Int):=by omega
 have j1:(p:Int)<=(q:Int):=by omega
 have hqb:q<=268435456:=by omega
 have HW:=Qa (And.intro h0 o0);have HR:=Qa h6;have HV:=Qa hvb;clear hC hvb hs h32 hm h8 h1 h0 o0 hle e1 e2 hq hp h6;go_enter func53,ntmps53;go_wp2_with fail;rw[<-HW.o.1];refine BL.o.mono ?_;rintro e w1 ⟨v1,rfl,b1,n1,h3,v2,h4,h5,o1⟩;obtain⟨a1,c1,rfl,hc1⟩:=b1.formN (n:=q) HQ.o.1.symm;have h7:=Qa (DE.o w1 (.slice a1 p p) ((b1.head (n:=p) (by omega)).recap (Nat.le_refl _)));have H1:=Qa (And.intro b1 (And.intro n1 (And.intro h3 (And.intro h4 (And.intro h5 o1)))))
 have j2:(p:Int)<=(c1:Int):=by omega
 clear b1 n1 h3 h4 h5 o1 BL DE;go_wp2_with fail;refine h7.o.mono ?_;rintro e w2 ⟨x,vp,ve,vr,rfl,mn,o2⟩;have hf:=mn.mf.form;obtain⟨ap,cp,ep⟩:=mn.mf.prev.len;obtain⟨ae,ce,ee⟩:=mn.mf.es.len;obtain⟨ar,cr,er⟩:=mn.mf.root.len;subst ep ee er hf;have RN:=HR.o;have gm:=o2.heap (H1.o.2.2.2.2.2.heap g0.o (λe=>by omega)) (λf=>f);obtain⟨W3,h2⟩:=EX (w2.alloc (.cells #[.int .u64 m.ver,.slice ap m.prev.length cp,.slice ae m.es.length ce,.slice ar m.root.length cr] 37))
 have o3:N0 w2 W3:=by rw[h2];exact (Only.refl _ _).alloc _
 have gb:=Qa (show W3.heap[w2.heap.size]? = some (.cells #[.int .u64 m.ver,.slice ap m.prev.length cp,.slice ae m.es.length ce,.slice ar m.root.length cr] 37 (0,0)) by rw[h2];exact heap_alloc_new _ _);have hld:=Yt gb.o;obtain⟨⟨y0,y1,y2,y3⟩,_⟩:=QY gb.o;have g3:=o3.heap gm (λf=>f);obtain⟨⟨z0,z1,z2,z3⟩,f0,f1,f2,f3⟩:=QY g3;have P4:=put4 g3 (.int .u64 m.ver) (.slice ap m.prev.length cp) (.slice ae m.es.length ce) (.slice ar m.root.length cr);have hs1:=H1.o.2.2.2.2.2.size
 have hs0:w0.heap.size=w.heap.size+1:=by rw[HW.o.1];simp
 have oT:Only (λk=>k=R) w W3:=((HW.o.2.mono (T:=λk=>k=R) (λ_ _ f=>f.elim)).trans H1.o.2.2.2.2.2 (λ_ _ e=>e)).trans (o2.same o3) (λ_ _ f=>f.elim);have h9:=((mn.past o3).keep (B:=w.heap.size) P4.2 (by omega)).lowS (a:=w) (by omega);have F:=Qa (And.intro (Yt P4.1) (And.intro h9 (And.intro ((H1.o.1.past (o2.same o3)).keep P4.2 (λb hb e=>by have:=H1.o.2.2.1 b hb;omega)) (And.intro H1.o.2.1 (And.intro (show ∀b,(Value.slice a1 q c1).ownBlock=some b->w.heap.size<=b from λb hb=>by have:=H1.o.2.2.1 b hb;omega) (And.intro (show ∃v2',CurAt 108 _ R v2' (ys.drop k)∧v2'.ownBlock=v.ownBlock from ⟨v2,(H1.o.2.2.2.1.keep (o2.same o3) (λf=>f) (λ_ _ f=>f)).keep P4.2 (by omega) (λb hb e=>by have:=HV.o b (by rw[<-H1.o.2.2.2.2.1];exact hb);omega),H1.o.2.2.2.2.1⟩) (oT.trans P4.2 (λi hi e=>by omega))))))));clear mn o2 gm o3 g3 P4 hs1 hs0 oT h9 H1 h7 RN;subst h2;go_wp2;refine bodyPost_ret (BG rfl _ _ rfl rfl rfl F.o.1) rfl ⟨_,_,_,_,_,rfl,F.o.2.1,F.o.2.2.1,F.o.2.2.2.1,F.o.2.2.2.2.1,F.o.2.2.2.2.2⟩
end Go.Proofs.YtoflhbghdlaeaaaGreatDoor
