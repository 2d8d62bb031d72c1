import Derived.Test.YteciafpneamfaaaGreatDoorG42
namespace Go.Proofs.YteciafpneamfaaaGreatDoor
set_option maxHeartbeats 4000000
set_option maxRecDepth 100000
open Go.RowKit _root_.Go.Proofs.Tryz
theorem Ap (vm vl vo:Value) (m oth:LI) (v q:Nat) (l:List Qk) (w:World) (bm:Bs .u8 w vm m) (m8:U8 m) (bo:Bs .u8 w vo oth) (o8:U8 oth) (hv:v<18446744073709551616) (hq:q<18446744073709551616) (hc:Chs w vl l) (hg:CL l) (hT:Tab w) :
 Calls prog 4 #[vm,.int .u64 v,vl,vo,.int .u64 q] w λe w'=>e=.returned (.bool true)∧N0 w w':=by
 have A:=Qa (SF w hT);obtain⟨am,cm,rfl⟩:=bm.len;obtain⟨ao,co,rfl⟩:=bo.len;obtain⟨al,cl,rfl,_⟩:=hc.len
 have hh:∀c∈l,CG c:=λc h=>(hg c h).1
 have FW:=Qa (λW (o:N0 w W)=>Rb (.slice al l.length cl) l W (hc.past o) hg (λc h=>(hh c h).t8));have BD:=Qa (λW (o:N0 w W) (h1:l.length<=100)=>Jp (.slice am m.length cm) NIL (.slice al l.length cl) m [] 0 v l W (bm.past o) m8 (Bs.nil _ _) NoCap.nil (λy hy=>by cases hy) (hc.past o) hg h1 hv (hT.past o));have HI:=Qa (And.intro m8 (And.intro hv (And.intro hg (And.intro hh (And.intro o8 (And.intro bm (And.intro bo hT)))))));obtain⟨M,hM⟩:=EX m.length;obtain⟨K,hK⟩:=EX oth.length;obtain⟨n,hn⟩:=EX l.length;rw[<-hn] at FW;simp only[<-hM,<-hn] at BD;rw[<-hM,<-hK] at HI;rw[<-hM,<-hn,<-hK];have HL:=Qa (And.intro hM (And.intro hn hK));clear bm bo m8 o8 hv hc hg hT hh hM hn hK;go_enter func4,ntmps4;go_wp2_with fail;refine A.o.mono ?_;rintro e w1 ⟨rfl,o1⟩;obtain⟨b,hb,fw⟩:=FW.o w1 o1;have h2:=Qa fw;have HB:=Qa hb;have O1:=Qa o1;clear A FW fw hb o1
 cases b with
 | false =>
  clear BD HB HI;go_wp2_with fail;refine h2.o.mono ?_;rintro e w2 ⟨rfl,rfl⟩;clear h2;go_wp2;go_ret;exact⟨rfl,O1.o⟩
 | true =>
  obtain⟨he,_⟩:=HB.o rfl
  have hn12:n<=12:=by have:=HL.o.2.1;omega
  clear HB
  by_cases h32:M=32
  ·subst h32
   by_cases k32:K=32
   ·subst k32
    have h3:=Qa (BD.o w1 O1.o (by omega));clear BD he
    by_cases hE:QP m (0,[]) v l=0
    ·have h1:l.length<=100:=by have:=HL.o.2.1;omega
     have hd:U8 ([]:LI):=λy hy=>by cases hy
     have h4:oth.length=32:=HL.o.2.2.symm
     have h7:(YN m (0,[]) v l).2=QD (QF m v l l.length):=by unfold YN;rw[if_pos hE]
     have P1:=Qa (λ(W:World) (x:Value) (p:Nat) (o:N0 w W) (h:Bs .u8 W x (QT m (0,[]) v l)) (hp:v<p)=>Iq (.slice am 32 cm) (.slice ao 32 co) x m oth p v (0,[]) l W (HI.o.2.2.2.2.2.1.past o) HI.o.1 (HI.o.2.2.2.2.2.2.1.past o) HI.o.2.2.2.2.1 h HI.o.2.1 hd HI.o.2.2.1 h1 hE h4 hp);have P2:=Qa (λ(W:World) (x:Value) (o:N0 w W) (h:Bs .u8 W x (QT m (0,[]) v l))=>zQ (.slice am 32 cm) (.slice ao 32 co) x m oth v (0,[]) l W (HI.o.2.2.2.2.2.1.past o) HI.o.1 (HI.o.2.2.2.2.2.2.1.past o) HI.o.2.2.2.2.1 h HI.o.2.1 hd HI.o.2.2.1 h1 hE h4 (HI.o.2.2.2.2.2.2.2.past o));have P3:=Qa (λ(W:World) (y:Value) (o:N0 w W) (h:Bs .u8 W y (YN m (0,[]) v l).2)=>At (.slice ao 32 co) y oth (YN m (0,[]) v l).2 W (HI.o.2.2.2.2.2.2.1.past o) h (by omega));rw[hE,show ((0:Nat):Int)=0 from rfl] at h3;clear hE h1 hd h4
     by_cases hx:oth=QD (QF m v l l.length)
     case' pos=>(rw[h7] at P3;simp only[hx,if_true,decide_true] at P2 P3)
     case' neg=>(rw[h7] at P3;simp only[hx,if_false,decide_false] at P2 P3)
     all_goals (
      simp only[h7] at h3;clear h7 hx;generalize QD (QF m v l l.length)=RT at *;generalize QT m (0,[]) v l=AT at *;generalize (YN m (0,[]) v l).1=V2 at *;go_wp2_with fail;refine h2.o.mono ?_;rintro e w2 ⟨rfl,rfl⟩;clear h2;go_wp2_with fail;refine h3.o.mono ?_;rintro e w3 ⟨u,ru,rfl,bu⟩;obtain⟨ar,cr,rfl⟩:=bu.r.len;have bt:=Bs.of_own (k:=.u8) (E:=5) bu.t;obtain⟨au,cu,rfl⟩:=bt.len;obtain⟨W4,h8⟩:=EX (w3.alloc (.cells #[.int .u64 V2,.slice ar RT.length cr] 25))
      have o4:N0 w3 W4:=by rw[h8];exact (Only.refl _ _).alloc _
      have GB:Hid (W4.heap[w3.heap.size]? = some (.cells #[.int .u64 V2,.slice ar RT.length cr] 25 (0,0))):=by show _=_;rw[h8];exact heap_alloc_new _ _
      have OW:=Qa ((O1.o.same bu.o).same o4);have SA:=Qa (λW (o:N0 W4 W)=>P3.o W _ (OW.o.same o) ((bu.r.past o4).past o));have h9:=Qa (λW (o:N0 W4 W)=>P2.o W _ (OW.o.same o) ((bt.past o4).past o));have hf:=Qa (λ(p:Nat) (hp:v<p)=>P1.o W4 _ p OW.o (bt.past o4) hp);have h5:=Qa h8;clear bu bt o4 h8 h3 O1 P1 P2 P3
      by_cases hA:0<q∧v+q<=18446744073709551615
      case' pos =>
       have d1:decide ((0:Int)<(q:Int))=true:=Qc (by omega);have d2:decide (0<q)=true:=Qc (by omega);have d3:decide ((v:Int)<=18446744073709551615 - (q:Int))=true:=Qc (by omega)
       have hvq:(v:Int)+(q:Int)<=18446744073709551615:=by omega
       have hj:=Qa (hf.o (v+q) (by omega));rw[show ((v+q:Nat):Int)=(v:Int)+(q:Int) by omega] at hj;clear hf hA;go_wp2_with fail;rw[<-h5.o];refine hj.o.mono ?_;rintro e w5 ⟨rfl,o5⟩;obtain⟨W6,h6⟩:=EX (w5.alloc (.cells #[.int .u64 0,NIL] 25))
       have o6:N0 w5 W6:=by rw[h6];exact (Only.refl _ _).alloc _
       obtain⟨z0,z1,_,_⟩:=Qw (show W6.heap[w5.heap.size]? = some (.cells #[.int .u64 0,NIL] 25 (0,0)) by rw[h6];exact heap_alloc_new _ _);have OX:=Qa (o5.same o6);have ha:=Qa (h9.o W6 OX.o);have hl:=Qa h6;clear o5 o6 h6 h9 hj;go_wp2_with fail;rw[<-hl.o];clear hl h5;clear z0
      case' neg =>
       have hk:q=0∨decide ((v:Int)<=18446744073709551615 - (q:Int))=false:=by
        by_cases h:q=0
        ·exact .inl h
        ·exact .inr (Qh (by omega))
       have OX:=Qa (Only.refl (λ_=>False) W4);have ha:=Qa (h9.o W4 OX.o);clear h9 hf hA
       by_cases h0:q=0
       case' pos =>
        have d1:decide ((0:Int)<(q:Int))=false:=Qh (by omega);have d2:decide (0<q)=false:=Qh (by omega);clear hk h0;go_wp2_with fail;rw[<-h5.o];clear h5
       case' neg =>
        have d1:decide ((0:Int)<(q:Int))=true:=Qc (by omega);have d2:decide (0<q)=true:=Qc (by omega)
        have d3:decide ((v:Int)<=18446744073709551615 - (q:Int))=false:=by rcases hk with h | h;exact absurd h h0;exact h
        clear hk h0;go_wp2_with fail;rw[<-h5.o];clear h5
      all_goals (
       refine ha.o.mono ?_;rintro e w7 ⟨a7,n7,k7,g7,a8,n8,k8,rfl,o7⟩;obtain⟨W8,ho⟩:=EX (w7.alloc (.cells #[.int .u64 g7,.slice a7 n7 k7] 25))
       have o8:N0 w7 W8:=by rw[ho];exact (Only.refl _ _).alloc _
       have oX:=(OX.o.same o7).same o8;have KS:=Qa (λW (o:N0 W8 W)=>(Qw ((oX.same o).heap GB.o (λf=>f))).2.1);have SM:=Qa (λW (o:N0 W8 W)=>SA.o W (oX.same o));have y1:=KS.o W8 (Only.refl _ _);have F:=Qa (OW.o.same oX);clear o7 o8 oX ha GB SA OW OX;subst ho;go_wp2_with fail;refine (SM.o _ (Only.refl _ _)).mono ?_;rintro e q1 ⟨rfl,o1⟩;clear y1;have y1:=KS.o _ o1;have Q1:=Qa o1;clear o1
       first
        | (go_wp2_with fail;refine (SM.o _ Q1.o).mono ?_;rintro e q2 ⟨rfl,o2⟩;have Q2:=Qa (Q1.o.same o2);clear o2 y1;go_wp2;go_ret;exact⟨rfl,F.o.same Q2.o⟩)
        | (go_wp2;go_ret;exact⟨rfl,F.o.same Q1.o⟩)))
    ·have hne:(QP m (0,[]) v l != 0)=true:=by simpa using hE
     rw[show ((0:Nat):Int)=0 from rfl] at h3
     have hm:(QT m (0,[]) v l).length=0:=by unfold QT;rw[if_neg hE];rfl
     clear hE;generalize QP m (0,[]) v l=c at *;go_wp2_with fail;refine h2.o.mono ?_;rintro e w2 ⟨rfl,rfl⟩;clear h2;go_wp2_with fail;refine h3.o.mono ?_;rintro e w3 ⟨u,ru,rfl,bu⟩;obtain⟨ar,cr,rfl⟩:=bu.r.len;have bt:=bu.t;rw[hm] at bt;obtain⟨au,cu,rfl⟩:=QJ bt;have F:=Qa ((O1.o.same bu.o).alloc (.cells #[.int .u64 (YN m (0,[]) v l).1,.slice ar (YN m (0,[]) v l).2.length cr] 25));clear bu bt h3 O1 hm;go_wp2;go_ret;exact⟨rfl,F.o⟩
   ·have d1:((K:Int) != 32)=true:=by rw[bne_iff_ne];omega
    clear BD HI he k32;go_wp2_with fail;refine h2.o.mono ?_;rintro e w2 ⟨rfl,rfl⟩;clear h2;go_wp2;go_ret;exact⟨rfl,O1.o⟩
  ·have d1:((M:Int) != 32)=true:=by rw[bne_iff_ne];omega
   clear BD HI he h32;go_wp2_with fail;refine h2.o.mono ?_;rintro e w2 ⟨rfl,rfl⟩;clear h2;go_wp2;go_ret;exact⟨rfl,O1.o⟩
theorem FK (vm vl vo:Value) (m oth:LI) (v q:Int) (l:List Qk) (w:World) (bm:Bs .u8 w vm m) (m8:U8 m) (bo:Bs .u8 w vo oth) (o8:U8 oth) (hv:0<=v∧v<=18446744073709551615) (hq:0<=q∧q<=18446744073709551615) (h:Chs w vl l∧CL l) (hT:Tab w) :
 Calls prog 4 #[vm,.int .u64 v,vl,vo,.int .u64 q] w λe w'=>e=.returned (.bool true)∧Below w.heap.size w w':=by
 obtain⟨n,rfl⟩:=Int.eq_ofNat_of_zero_le hv.1;obtain⟨k,rfl⟩:=Int.eq_ofNat_of_zero_le hq.1;exact Db (Ap vm vl vo m oth n k l w bm m8 bo o8 (by omega) (by omega) h.1 h.2 hT)
end Go.Proofs.YteciafpneamfaaaGreatDoor
