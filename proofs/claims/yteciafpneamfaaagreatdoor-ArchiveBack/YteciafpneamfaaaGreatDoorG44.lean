import Derived.Test.YteciafpneamfaaaGreatDoorG42
namespace Go.Proofs.YteciafpneamfaaaGreatDoor
set_option maxHeartbeats 4000000
set_option maxRecDepth 100000
open Go.RowKit _root_.Go.Proofs.Tryz
theorem Gb {a b:Bool} (h:a=b):Ending.returned (.bool a)=.returned (.bool b):=by rw[h]
theorem De {s s':List (Int × Int)} {k:Nat} (h:s.getD k (0,0)≠s'.getD k (0,0)):s≠s':=λe=>h (by rw[e])
theorem Ox {s s':List (Int × Int)} (hl:s.length=s'.length) (h:∀j,j<s.length->s.getD j (0,0)=s'.getD j (0,0)):s=s':=by
 refine List.ext_getElem hl (λi h1 h2=>?_);have:=h i h1;rw[Qd,Qd,Qi h1,Qi h2] at this;exact this
theorem zc {t t':ByteArray} (h:t.toList=t'.toList):t=t':=by
 rw[ByteArray.toList_eq,ByteArray.toList_eq] at h
 cases t;cases t'
 simp only[ByteArray.mk.injEq];exact Array.toList_inj.1 h
theorem Sm {W W':World} {a:Addr} {x:Value} (o:N0 W W') (h:W.cell? a=some x):W'.cell? a=some x:=by
 have hb:=World.block_lt_of_cell? W _ h;rw[<-h];unfold World.cell?;rw[o.block a.block hb (λf=>f)]
theorem Ic (t t':ByteArray) (u u':Value) (s s':List (Int × Int)) (w:World) (h:Sps w u s) (h':Sps w u' s') (hm:s.length<=maxLen) :
 Calls prog 25 #[.agg #[.string t,u],.agg #[.string t',u']] w λe w'=>e=.returned (.bool (decide (t=t'∧s=s')))∧N0 w w':=by
 unfold maxLen at hm;have HS:=Qa h;have h8:=Qa h';obtain⟨ao,cap,rfl⟩:=h.len;obtain⟨hb,h0,rfl⟩:=h'.len;clear h h'
 by_cases ht:t=t'
 ·subst ht
  by_cases hl:s.length=s'.length
  ·rw[<-hl]
   rw[<-hl] at h8;obtain⟨n,hn⟩:=EX s.length;rw[<-hn] at hm HS h8;rw[<-hn];obtain⟨B,hB⟩:=EX (decide (t=t∧s=s'));rw[<-hB];have HB:=Qa hB;have HN:=Qa hn;have hr:=Qa hl
   have hdn:((n:Int) != (n:Int))=false:=by simp
   clear hl hn hB;obtain⟨W0,h4⟩:=EX ((w.alloc (.cells #[.string t,.slice ao n cap] 42)).alloc (.cells #[.string t,.slice hb n h0] 42))
   have O0:Hid (N0 w W0):=by simp only[Hid];rw[h4];exact ((Only.refl _ _).alloc _).alloc _
   have c1:W0.cell? ⟨w.heap.size,1,none⟩=some (.slice ao n cap):=by rw[h4];go_cell
   have c2:W0.cell? ⟨w.heap.size+1,1,none⟩=some (.slice hb n h0):=by rw[h4];go_cell
   have ho:=Qa (HS.o.past O0.o);have h6:=Qa (h8.o.past O0.o);go_enter func25,ntmps25;go_wp2;rw[<-h4];clear h4 HS h8
   go_loopw [5] (λi wr=>∃k:Nat,k<=n∧i=.int .i64 k∧N0 W0 wr∧(∀j,j<k->s.getD j (0,0)=s'.getD j (0,0))) (λi _=>n - (intOf i).toNat)
   case atStart=>exact⟨0,Nat.zero_le _,rfl,Only.refl _ _,λj hj=>by omega⟩
   case round =>
    obtain⟨k,hk,rfl,od,h7⟩:=hrel;have c1':=Sm od c1;have c2':=Sm od c2;have h3:=Qa h7;have OD:=Qa od;clear h7 c1 c2
    by_cases hlt:k<n
    ·have dlt:decide ((k:Int)<(n:Int))=true:=by simp;omega
     have dlt2:(k:Int)<(n:Int):=by omega
     have hs:k<s.length:=by rw[<-HN.o];exact hlt
     have h5:k<s'.length:=by rw[<-hr.o,<-HN.o];exact hlt
     obtain⟨b,off,cp,e1,x1,x2⟩:=(ho.o.past od).at k hs
     have ea:ao=some ⟨b,off,none⟩:=by simp at e1;exact e1.1
     subst ea;obtain⟨b',hd,cp',ha,hh,hg⟩:=(h6.o.past od).at k h5
     have ea:hb=some ⟨b',hd,none⟩:=by simp at ha;exact ha.1
     subst ea;clear e1 ha hs h5 od ho h6;obtain⟨p,hp⟩:=EX (s.getD k (0,0));obtain⟨q,hq⟩:=EX (s'.getD k (0,0));rw[<-hp] at x1 x2;rw[<-hq] at hh hg;have HP:=Qa hp;have HQ:=Qa hq;clear hp hq;obtain⟨p1,p2⟩:=p;obtain⟨q1,q2⟩:=q;simp only at x1 x2 hh hg
     by_cases h1:p1=q1
     ·subst h1
      have n1:(p1 != p1)=false:=by simp
      by_cases h2:p2=q2
      ·subst h2
       have n2:(p2 != p2)=false:=by simp
       go_wp2_with fail;go_quiet (fail);go_wp2
       go_roundw
       case rel =>
        refine⟨k+1,by omega,by go_num,OD.o.drewN nq,λj hj=>?_⟩
        by_cases hjk:j<k
        ·exact h3.o j hjk
        ·obtain rfl:j=k:=by omega
         rw[<-HP.o,<-HQ.o]
       case measure=>simp[intOf];omega
      ·have n2:(p2 != q2)=true:=by simpa using h2
       have HF:Hid (false=B):=by
        have:=HB.o;simp only[Hid];rw[this];have h9:s≠s':=De (k:=k) (by rw[<-HP.o,<-HQ.o];simpa using h2);simp[h9]
       go_wp2_with fail;go_quiet (fail);go_wp2;go_ret;exact⟨Gb HF.o,O0.o.same (OD.o.drewN nq)⟩
     ·have n1:(p1 != q1)=true:=by simpa using h1
      have HF:Hid (false=B):=by
       have:=HB.o;simp only[Hid];rw[this];have h9:s≠s':=De (k:=k) (by rw[<-HP.o,<-HQ.o];intro e;exact h1 (congrArg Prod.fst e));simp[h9]
      go_wp2_with fail;go_quiet (fail);go_wp2;go_ret;exact⟨Gb HF.o,O0.o.same (OD.o.drewN nq)⟩
    ·obtain rfl:k=n:=by omega
     have dlt:decide ((k:Int)<(k:Int))=false:=by simp
     have HF:Hid (true=B):=by
      have:=HB.o;simp only[Hid];rw[this];have he:s=s':=Ox hr.o (by rw[<-HN.o];exact h3.o);simp[he]
     clear od;go_wp2;go_ret;exact⟨Gb HF.o,O0.o.same OD.o⟩
  ·have hdn:((s.length:Int) != (s'.length:Int))=true:=by rw[bne_iff_ne];omega
   have hf:decide (t=t∧s=s')=false:=by simp;intro e;exact hl (by rw[e])
   rw[hf];generalize s.length=n at *;generalize s'.length=n' at *;clear hf;go_enter func25,ntmps25;go_wp2;go_ret;exact⟨rfl,((Only.refl _ _).alloc _).alloc _⟩
 ·have hd2:¬t.toList=t'.toList:=λe=>ht (zc e)
  have hd3:decide (t.toList=t'.toList)=false:=by simpa using hd2
  have hf:decide (t=t'∧s=s')=false:=by simp[ht]
  rw[hf];go_enter func25,ntmps25;go_wp2;go_ret;exact⟨rfl,((Only.refl _ _).alloc _).alloc _⟩
theorem Bp (va vb:Value) (l:List Qk) (w:World) (ha:Chs w va l) (hb:Chs w vb l) (hg:CL l) (h1:l.length<=1000) :
 Calls prog 9 #[va,vb] w λe w'=>e=.returned (.bool true)∧N0 w w':=by
 have HA:=Qa ha;have HB:=Qa hb;obtain⟨aa,ca,rfl,_⟩:=ha.len;obtain⟨ab,cb,rfl,_⟩:=hb.len;obtain⟨n,hn⟩:=EX l.length;rw[<-hn] at HA HB ⊢;have HN:=Qa (And.intro hn hg)
 have hn1:n<=1000:=by omega
 have S0:=Qa (Only.refl (λ_=>False) w);clear ha hb hg hn h1;go_enter func9,ntmps9;go_wp2
 go_loopw [5] (λi wr=>∃k:Nat,k<=n∧i=.int .i64 k∧Hid (N0 w wr)) (λi _=>n - (intOf i).toNat)
 case atStart=>exact⟨0,Nat.zero_le _,rfl,S0⟩
 case round =>
  obtain⟨k,hk,rfl,hS⟩:=hrel;clear S0
  by_cases hlt:k<n
  ·have dlt:decide ((k:Int)<(n:Int))=true:=Qc (by omega)
   have dlt':decide (k<n)=true:=Qc hlt
   have h0:k<l.length:=by rw[<-HN.o.1];exact hlt
   have hm:=(HN.o.2.at h0).2.2;obtain⟨ba,oa,ua,ea,a0,a1,sa⟩:=(HA.o.past hS.o).at k h0;obtain⟨bb,ob,ub,eb,b0,b1,h2⟩:=(HB.o.past hS.o).at k h0;subst ea eb;obtain⟨t,ht⟩:=EX (strOfNums (l.getD k Qv).1);obtain⟨s,hs⟩:=EX ((l.getD k Qv).2);rw[<-ht] at a0 b0;rw[<-hs] at sa h2 hm;have CS:=Qa (λW (o:N0 wr W)=>Ic t t ua ub s s W (sa.past o) (h2.past o) hm);rw[Qc ⟨rfl,rfl⟩] at CS;obtain⟨xa,ya,rfl⟩:=sa.len;obtain⟨xb,yb,rfl⟩:=h2.len;generalize s.length=sl at *
   have i0:(0:Int)<=(k:Int):=by omega
   have i1:(k:Int)<(n:Int):=by omega
   have KS:=Qa (λW (o:N0 wr W)=>And.intro (Ux a0 o) (And.intro (Ux a1 o) (And.intro (Ux b0 o) (Ux b1 o))));clear sa h2 h0 hm ht hs;go_wp2_with fail
   go_region_held3 (λW=>W.cell? ⟨ba,oa+k*2,none⟩=some (.string t)∧W.cell? ⟨ba,oa+k*2+1,none⟩=some (.slice xa sl ya)∧W.cell? ⟨bb,ob+k*2,none⟩=some (.string t)∧W.cell? ⟨bb,ob+k*2+1,none⟩=some (.slice xb sl yb)) (first | exact KS.o _ (Only.refl _ _) | exact KS.o _ (Only.refl _ _).drew | exact KS.o _ O1.o | assumption)
    ((go_at_call 25;refine (CS.o _ ((Only.refl _ _).drew)).mono ?_;rintro e w1 ⟨rfl,o1⟩;have O1:=Qa (((Only.refl (λ_=>False) wr).drew).same o1);clear o1 CS))
   have F:=Qa (hS.o.same O1.o);clear KS O1 hS a0 a1 b0 b1;go_wp2
   go_roundw
   case rel=>exact⟨k+1,by omega,by go_num,F⟩
   case measure=>simp[intOf];omega
  ·obtain rfl:k=n:=by omega
   have dlt:decide ((k:Int)<(k:Int))=false:=Qh (by omega);go_wp2;go_ret;exact⟨rfl,hS.o⟩
theorem Eo (vm vr vl:Value) (m r:LI) (p v:Nat) (l:List Qk) (w:World) (bm:Bs .u8 w vm m) (m8:U8 m) (br:Bs .u8 w vr r) (nr:NoCap vr) (r8:U8 r) (hv:v<18446744073709551616) (hc:Chs w vl l) (hg:CL l) (hT:Tab w) :
 Calls prog 3 #[vm,.agg #[.int .u64 p,vr],.int .u64 v,vl] w λe w'=>e=.returned (.bool true)∧N0 w w':=by
 obtain⟨am,cm,rfl⟩:=bm.len;obtain⟨ar,cr,rfl⟩:=br.len;obtain⟨al,cl,rfl,_⟩:=hc.len
 have k7:∀c∈l,CG c:=λc h=>(hg c h).1
 obtain⟨w0,h7⟩:=EX (w.alloc (.cells #[.int .u64 p,.slice ar r.length cr] 25))
 have o0:N0 w w0:=by rw[h7];exact (Only.refl _ _).alloc _
 have gP:=Qa (show w0.heap[w.heap.size]? = some (.cells #[.int .u64 p,.slice ar r.length cr] 25 (0,0)) by rw[h7];exact heap_alloc_new _ _);have A:=Qa (SF w0 (hT.past o0));have FW:=Qa (λW (o:N0 w W)=>Rb (.slice al l.length cl) l W (hc.past o) hg (λc h=>(k7 c h).t8));have BD:=Qa (λW (o:N0 w W) (h3:l.length<=100)=>Jp (.slice am m.length cm) (.slice ar r.length cr) (.slice al l.length cl) m r p v l W (bm.past o) m8 (br.past o) nr r8 (hc.past o) hg h3 hv (hT.past o));have OP:=Qa (λ(W:World) (vt vb:Value) (rr:LI) (q:Nat) (o:N0 w W) (bt:Bs .u8 W vt rr) (rr8:U8 rr) (hb:Bs .u8 W vb (QT m (p,r) v l)) (h3:l.length<=100) (h0:QP m (p,r) v l=0) (hr:rr.length=0∨rr.length=32) (ht:rr.length=0∨q<v∨(q=v∧rr=QD (QF m v l l.length)))=>DL (.slice am m.length cm) vt vb m rr q v (p,r) l W (bm.past o) m8 bt rr8 hb hv r8 hg h3 h0 hr ht (hT.past o));have HR:=Qa (And.intro br (And.intro r8 (And.intro hg hc)));obtain⟨M,hM⟩:=EX m.length;obtain⟨n,hn⟩:=EX l.length;obtain⟨rl,h8⟩:=EX r.length;rw[<-hn] at FW HR;simp only[<-hM,<-hn,<-h8] at BD;rw[<-hM] at OP;rw[<-h8] at gP HR h7;rw[<-hM,<-hn,<-h8];have HW:=Qa (And.intro h7 o0);have HL:=Qa (And.intro hM (And.intro hn h8));clear bm m8 br nr r8 hv hc hg hT k7 hM hn h8 h7 o0;go_enter func3,ntmps3;go_wp2_with fail;rw[<-HW.o.1];refine A.o.mono ?_;rintro e w1 ⟨rfl,o1⟩;obtain⟨b,hb,fw⟩:=FW.o w1 (HW.o.2.same o1);have h4:=Qa fw;have HB:=Qa hb;have O1:=Qa o1;clear A FW fw hb o1
 cases b with
 | false =>
  clear BD HB HR OP;go_wp2_with fail;refine h4.o.mono ?_;rintro e w2 ⟨rfl,rfl⟩;have F:=Qa (HW.o.2.same O1.o);clear h4 O1;go_wp2;go_ret;exact⟨rfl,F.o⟩
 | true =>
  have hF:=Qa (HB.o rfl)
  have hn12:n<=12:=by have:=HL.o.2.1;have:=hF.o.1;omega
  clear HB;have g1:=O1.o.heap gP.o (λf=>f);obtain⟨x0,x1,_,_⟩:=Qw g1;clear g1
  by_cases h32:M=32
  ·subst h32
   have h5:=Qa (BD.o w1 (HW.o.2.same O1.o) (by have:=HL.o.2.1;omega));clear BD
   by_cases hX:rl≠0∧rl≠32
   ·have d0:((rl:Int) != 0)=true:=by rw[bne_iff_ne];omega
    have d1:((rl:Int) != 32)=true:=by rw[bne_iff_ne];omega
    have d2:((rl:Int) == 0)=false:=by rw[beq_eq_false_iff_ne];omega
    have d3:((rl:Int) == 32)=false:=by rw[beq_eq_false_iff_ne];omega
    clear h5 OP HR hX;go_wp2_with fail;refine h4.o.mono ?_;rintro e w2 ⟨rfl,rfl⟩;have F:=Qa (HW.o.2.same O1.o);clear h4 O1;go_wp2;go_ret;exact⟨rfl,F.o⟩
   ·have hr2:rl=0∨rl=32:=by omega
    clear hX
    rcases hr2 with h0 | h0
    case' inl =>
     have hs:Hid (rl=0∨rl=32):=.inl h0
     have d0:((rl:Int) != 0)=false:=by rw[h0];rfl
     clear h0;go_wp2_with fail;refine h4.o.mono ?_;rintro e w2 ⟨rfl,rfl⟩;clear h4;go_wp2_with fail
    case' inr =>
     have hs:Hid (rl=0∨rl=32):=.inr h0
     have d0:((rl:Int) != 0)=true:=by rw[h0];rfl
     have d1:((rl:Int) != 32)=false:=by rw[h0];rfl
     clear h0;go_wp2_with fail;refine h4.o.mono ?_;rintro e w2 ⟨rfl,rfl⟩;clear h4;go_wp2_with fail
    all_goals (
     by_cases hE:QP m (p,r) v l=0
     ·have h3:l.length<=100:=by have:=HL.o.2.1;omega
      have k0:YN m (p,r) v l=(v,QD (QF m v l l.length)):=if_pos hE;have k8:=Kv (KC hE).1;have ha:=Qa (λ(W:World) (vt vb:Value) (rr:LI) (q:Nat) (o:N0 w W) (bt:Bs .u8 W vt rr) (rr8:U8 rr) (hb:Bs .u8 W vb (QT m (p,r) v l)) (hr:rr.length=0∨rr.length=32) (ht:rr.length=0∨q<v∨(q=v∧rr=QD (QF m v l l.length)))=>OP.o W vt vb rr q o bt rr8 hb h3 hE hr ht)
      have HP:Hid (r.length=0∨p<v):=by
       show _∨_
       have h1:=k8.2.2.2.1;simp only at h1;omega
      rw[hE,k0] at h5;have RU:=Qa (And.intro (VO (QF m v l l.length)) (US (QF m v l l.length)));clear h3 hE k0 k8 OP;refine h5.o.mono ?_;rintro e w3 ⟨u,ru,rfl,bu⟩;have hru:=bu.r.formN (n:=32) RU.o.2;obtain⟨a3,c3,rfl,_⟩:=hru;obtain⟨au,cu,rfl⟩:=(Bs.of_own (k:=.u8) (E:=5) bu.t).len;obtain⟨RT,k5⟩:=EX (QD (QF m v l l.length));obtain⟨AT,ho⟩:=EX (QT m (p,r) v l);simp only[<-k5,<-ho] at bu RU ha;simp only[<-ho];obtain⟨tl,hq⟩:=EX AT.length;rw[<-hq];obtain⟨W4,h9⟩:=EX (w3.alloc (.cells #[.int .u64 v,.slice a3 32 c3] 25))
      have o4:N0 w3 W4:=by rw[h9];exact (Only.refl _ _).alloc _
      have g4:=show W4.heap[w3.heap.size]? = some (.cells #[.int .u64 v,.slice a3 32 c3] 25 (0,0)) by rw[h9];exact heap_alloc_new _ _
      have hm:=O1.o.same (bu.o.same o4);obtain⟨y0,y1,_,_⟩:=Qw (hm.heap gP.o (λf=>f));obtain⟨W5,h6⟩:=EX (W4.alloc (.cells #[.int .u64 0,.slice none 0 0,.int .u64 v,.slice a3 32 c3,.int .u64 p,.slice ar rl cr] 25))
      have o5:N0 W4 W5:=by rw[h6];exact (Only.refl _ _).alloc _
      have g5:=show W5.heap[W4.heap.size]? = some (.cells #[.int .u64 0,.slice none 0 0,.int .u64 v,.slice a3 32 c3,.int .u64 p,.slice ar rl cr] 25 (0,0)) by rw[h6];exact heap_alloc_new _ _
      obtain⟨NN,hh⟩:=EX W4.heap.size;rw[<-hh] at g5;have hf:=(HW.o.2.same hm).same o5;have hp:=bu.r.past (o4.same o5);have hj:=Bs.past (Bs.of_own (k:=.u8) (E:=5) bu.t) (o4.same o5);rw[<-hq] at hj
      have G5:=Qa (show ∀W,N0 W5 W->(W.cell? ⟨NN,0*2,none⟩=some (.int .u64 0)∧W.cell? ⟨NN,0*2+1,none⟩=some (.slice none 0 0))∧(W.cell? ⟨NN,1*2,none⟩=some (.int .u64 v)∧W.cell? ⟨NN,1*2+1,none⟩=some (.slice a3 32 c3))∧(W.cell? ⟨NN,2*2,none⟩=some (.int .u64 p)∧W.cell? ⟨NN,2*2+1,none⟩=some (.slice ar rl cr)) from λW o=>by
       have h:=o.heap g5 (λf=>f)
       refine⟨⟨?_,?_⟩,⟨?_,?_⟩,⟨?_,?_⟩⟩ <;> (unfold World.cell?;simp only[h];rfl))
      have GS:=Qa (λW (o:N0 W5 W)=>Qw (o.heap (o5.heap g4 (λf=>f)) (λf=>f)))
      have ST:=Qa (show ∀k,k<3->∀W,N0 W5 W->∃(q:Nat) (x:Option Addr) (y z:Nat),W.cell? ⟨NN,k*2,none⟩=some (.int .u64 q)∧W.cell? ⟨NN,k*2+1,none⟩=some (.slice x y z)∧Calls prog 8 #[.slice am 32 cm,.agg #[.int .u64 q,.slice x y z],.slice au tl cu] W λe w'=>∃c rv,e=.returned (.tuple #[c,.agg #[.int .u64 v,rv],.int .i64 0])∧Chs w' c l∧Bs .u8 w' rv RT∧NoCap rv∧N0 W w' from λk hk W o=>by
       have hg:=G5.o W o;have oo:=hf.same o;have hb:=hj.past o
       have hk3:k=0∨k=1∨k=2:=by omega
       rcases hk3 with rfl | rfl | rfl
       ·exact⟨0,none,0,0,hg.1.1,hg.1.2,ha.o W _ _ [] 0 oo (Bs.nil _ _) (λy hy=>by cases hy) hb (.inl rfl) (.inl rfl)⟩
       ·exact⟨v,a3,32,c3,hg.2.1.1,hg.2.1.2,ha.o W _ _ RT v oo (hp.past o) RU.o.1 hb (.inr RU.o.2) (.inr (.inr ⟨rfl,rfl⟩))⟩
       ·refine⟨p,ar,rl,cr,hg.2.2.1,hg.2.2.2,ha.o W _ _ r p oo (HR.o.1.past oo) HR.o.2.1 hb (by have h1:=hs.o;have h2:=HL.o.2.2;omega) ?_⟩
        rcases HP.o with h | h
        ·exact .inl h
        ·exact .inr (.inl h))
      have SC:=Qa (λ(W:World) (c:Value) (o:N0 W5 W) (h:Chs W c l)=>Bp c (.slice al n cl) l W h (HR.o.2.2.2.past (hf.same o)) HR.o.2.2.1 (by have:=HL.o.2.1;omega))
      have SS:=Qa (show ∀(W:World) (x:Value),N0 W5 W->Bs .u8 W x RT->Calls prog 10 #[.agg #[.int .u64 v,.slice a3 32 c3],.agg #[.int .u64 v,x]] W λe w'=>e=.returned (.bool true)∧N0 W w' from λW x o h=>by
       have:=Mu v v (.slice a3 32 c3) x RT RT W (hp.past o) h (by rw[RU.o.2];decide)
       rwa [Qc ⟨rfl,rfl⟩] at this)
      have HZ:=Qa hf;have HL3:=Qa RU.o.2;rw[h9] at y0 y1 h6;rw[h9] at hh;have HW5:=Qa h6;have HNN:=Qa hh;clear bu hm g4 o4 h5 O1 k5 ho hq x0 x1 g5 o5 hp hj hf ha G5 HP hs RU h9 hh h6;go_wp2;rw[<-HW5.o];have S0:=Qa (Only.refl (λ_=>False) W5)
      have k9:w3.heap.size+1=NN:=by rw[HNN.o];simp
      rw[k9];have hn3:(3:Nat)=3:=rfl;clear k9 hn3 y0 y1
      go_loopw [14] (λi wr=>∃k:Nat,k<=3∧i=.int .i64 k∧Hid (N0 W5 wr)) (λi _=>3 - (intOf i).toNat)
      case atStart=>exact⟨0,Nat.zero_le _,rfl,S0⟩
      case round =>
       obtain⟨k,hk,rfl,hS⟩:=hrel;clear S0
       by_cases hlt:k<3
       ·have dlt:decide ((k:Int)<3)=true:=Qc (by omega)
        have dlt':decide (k<3)=true:=Qc hlt;obtain⟨q,x,y,z,c0,c1,OQ⟩:=ST.o k hlt wr hS.o;have k3:=Qa OQ
        have i0:(0:Int)<=(k:Int):=by omega
        have i1:(k:Int)<3:=by omega
        clear OQ;go_wp2_with fail;refine k3.o.mono ?_;rintro e w6 ⟨c,rv,rfl,he,hl,nrv,o6⟩;have hrv:=hl.formN (n:=32) HL3.o;obtain⟨a6,c6,rfl,_⟩:=hrv;obtain⟨ac,cc,rfl,_⟩:=he.len;have hw:=HL.o.2.1;rw[<-hw] at he ⊢;obtain⟨W7,hd⟩:=EX (w6.alloc (.cells #[.int .u64 v,.slice a6 32 c6] 25))
        have o7:N0 w6 W7:=by rw[hd];exact (Only.refl _ _).alloc _
        have g7:=Qa (show W7.heap[w6.heap.size]? = some (.cells #[.int .u64 v,.slice a6 32 c6] 25 (0,0)) by rw[hd];exact heap_alloc_new _ _);have O7:=(hS.o.same o6).same o7;have hu:=Qa (SC.o W7 _ O7 (he.past o7));have B7:=Qa (hl.past o7);have hz:=Qa O7;have k2:=Qa hd;clear he hl nrv o6 o7 O7 k3 c0 c1 hw hd hS;go_wp2_with fail;rw[<-k2.o];refine hu.o.mono ?_;rintro e w8 ⟨rfl,o8⟩;have O8:=hz.o.same o8;obtain⟨s0,s1,_,_⟩:=GS.o w8 O8;obtain⟨t0,t1,_,_⟩:=Qw (o8.heap g7.o (λf=>f));have k6:=Qa (SS.o w8 _ O8 (B7.o.past o8));have k1:=Qa O8;clear hu o8 O8 hz B7 g7 k2;go_wp2_with fail;refine k6.o.mono ?_;rintro e w9 ⟨rfl,o9⟩;have F:=Qa (k1.o.same o9);clear k6 o9 k1 s0 s1 t0 t1;go_wp2
        go_roundw
        case rel=>exact⟨k+1,by omega,by go_num,F⟩
        case measure=>simp[intOf];omega
       ·obtain rfl:k=3:=by omega
        obtain⟨s0,s1,_,_⟩:=GS.o wr hS.o
        have dv:((v:Int) == (v:Int))=true:=by simp
        have F:=Qa (HZ.o.same hS.o);clear hS ST SC SS GS;go_wp2;go_ret;exact⟨rfl,F.o⟩
     ·have hne:(QP m (p,r) v l != 0)=true:=by simpa using hE
      have hx:QT m (p,r) v l=[]:=if_neg hE;have k4:YN m (p,r) v l=(0,[]):=if_neg hE;rw[hx,k4] at h5;clear hE hx k4 OP;generalize QP m (p,r) v l=c at *;refine h5.o.mono ?_;rintro e w3 ⟨u,ru,rfl,bu⟩;obtain⟨a3,c3,rfl⟩:=bu.r.len;obtain⟨au,cu,rfl⟩:=(Bs.of_own (k:=.u8) (E:=5) bu.t).len;have F:=Qa (((HW.o.2.same O1.o).same bu.o).alloc (.cells #[.int .u64 ((0:Nat):Int),.slice a3 ([]:LI).length c3] 25));clear bu h5 O1 x0 x1;go_wp2;go_ret
      exact⟨rfl,F.o⟩)
  ·have d1:((M:Int) != 32)=true:=by rw[bne_iff_ne];omega
   clear BD OP HR h32;go_wp2_with fail;refine h4.o.mono ?_;rintro e w2 ⟨rfl,rfl⟩;have F:=Qa (HW.o.2.same O1.o);clear h4 O1;go_wp2;go_ret;exact⟨rfl,F.o⟩
theorem wF (vm vr vl:Value) (m r:LI) (p:Nat) (v:Int) (l:List Qk) (w:World) (bm:Bs .u8 w vm m) (m8:U8 m) (br:Bs .u8 w vr r) (nr:NoCap vr) (r8:U8 r) (hv:0<=v∧v<=18446744073709551615) (h:Chs w vl l∧CL l) (hT:Tab w) :
 Calls prog 3 #[vm,.agg #[.int .u64 p,vr],.int .u64 v,vl] w λe w'=>e=.returned (.bool true)∧Below w.heap.size w w':=by
 obtain⟨n,rfl⟩:=Int.eq_ofNat_of_zero_le hv.1;exact Db (Eo vm vr vl m r p n l w bm m8 br nr r8 (by omega) h.1 h.2 hT)
end Go.Proofs.YteciafpneamfaaaGreatDoor
