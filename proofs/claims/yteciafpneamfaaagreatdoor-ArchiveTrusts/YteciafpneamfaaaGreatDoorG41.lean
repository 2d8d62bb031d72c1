import Derived.Test.YteciafpneamfaaaGreatDoorG40
namespace Go.Proofs.YteciafpneamfaaaGreatDoor
set_option maxHeartbeats 4000000
set_option maxRecDepth 100000
open Go.RowKit _root_.Go.Proofs.Tryz
theorem tP (t:ByteArray) (s:List (Int × Int)) (vp:Value) (w:World) (h0:YC (sb t,s)=0) (hg:Gs s) (h:Bs .u8 w vp (PADL (Qy (sb t,s)))) (hT:Tab w) :
 Calls prog 75 #[.agg #[.string t,.int .i64 (QO (Qy (sb t,s)).length:Int)],vp] w λe w'=>∃u,e=.returned (.tuple #[.agg #[.string t,u],.int .i64 0])∧w'.ownsRow w.heap.size 89 2 u s.length (Yc s)∧N0 w w':=by
 obtain⟨q1,q2,q3,q4⟩:=ZD h0;have g:CG (sb t,s):=⟨Kr t,hg⟩;have b8:U8 (Qy (sb t,s)):=XT g;have p8:U8 (PADL (Qy (sb t,s))):=ZC b8
 have pl:(PADL (Qy (sb t,s))).length<=4194304:=by rw[KX _ q4];exact VX _
 have hD:DECC (Qy (sb t,s))=((sb t,s),0):=zh q1 q2 hg;obtain⟨b,hb⟩:=EX (Qy (sb t,s));rw[<-hb] at b8 p8 pl hD h q4 ⊢;have U:=Qa (λW (o:N0 w W)=>Ew vp _ W (h.past o) p8 (by omega));rw[show KI (PADL b)=b by unfold KI;rw[if_pos (Gj b q4),Hc b q4],show KE (PADL b)=0 by unfold KE;rw[if_pos (Gj b q4)]] at U;have D:=Qa (λW (v:Value) (o:N0 w W) (hv:Bs .u8 W v b)=>FL v b W hv b8 (by omega) (hT.past o));simp only[hD] at D;rw[of_sb] at D;have K:=Qa (λW=>Z3 (b.length:Int) W);rw[show YL (b.length:Int)=0 by unfold YL;rw[if_neg (by omega),if_neg (by omega)],show UR (b.length:Int)=QO b.length by unfold UR;rw[if_pos (by omega)];rfl] at K;obtain⟨m,hm⟩:=EX b.length;obtain⟨n,hn⟩:=EX (QO b.length);rw[<-hn] at K ⊢;rw[<-hm] at K;have HM:=Qa hm;obtain⟨W0,h2⟩:=EX ((w.alloc (.cells #[.string t,.int .i64 (n:Int)] 68)).alloc (.cells #[.string ⟨#[]⟩,.slice none 0 0] 42))
 have o0:N0 w W0:=by rw[h2];exact ((Only.refl _ _).alloc _).alloc _
 have ge:W0.heap[w.heap.size]? = some (.cells #[.string t,.int .i64 (n:Int)] 68 (0,0)):=by rw[h2];exact Ub (heap_alloc_new _ _)
 have gc:W0.heap[w.heap.size+1]? = some (.cells #[.string ⟨#[]⟩,.slice none 0 0] 42 (0,0)):=by rw[h2];exact YS (by simp)
 have U0:=Qa (U.o W0 o0);have G0:=Qa (And.intro ge (And.intro gc (And.intro o0 h2)));clear hn hm hb hD pl p8 b8 g q1 q2 q3 q4 h0 hg h hT U ge gc o0 h2;go_enter func75,ntmps75;go_wp2_with fail;rw[<-G0.o.2.2.2];refine U0.o.mono ?_;rintro e w1 ⟨r,rfl,b1,nc1,lo1,o1⟩;obtain⟨a1,c1,rfl,hc1⟩:=b1.formN (n:=m) HM.o.symm;have D1:=Qa (D.o w1 (.slice a1 m c1) (G0.o.2.2.1.same o1) b1);have H1:=Qa (And.intro o1 b1);clear o1 b1 nc1 lo1 hc1 U0 D;go_wp2_with fail;refine D1.o.mono ?_;rintro e w2 ⟨u,rfl,h1,o2⟩;have K2:=Qa (λW=>K.o W);obtain⟨a2,c2,rfl⟩:=(Sps.of_own h1).len;have H2:=Qa (And.intro h1 (H1.o.1.same o2));obtain⟨W3,h3⟩:=EX (w2.alloc (.cells #[.string t,.slice a2 s.length c2] 42))
 have o3:N0 w2 W3:=by rw[h3];exact (Only.refl _ _).alloc _
 have gn:W3.heap[w2.heap.size]? = some (.cells #[.string t,.slice a2 s.length c2] 42 (0,0)):=by rw[h3];exact heap_alloc_new _ _
 have K3:=Qa (K2.o W3);have H3:=Qa (And.intro gn (And.intro o3 h3));have HS:=Qa H1.o.1.size;clear h1 o2 D1 H1 K K2 gn o3 h3;go_wp2_with fail;rw[<-H3.o.2.2];refine K3.o.mono ?_;rintro e w4 ⟨rfl,o4⟩;have hld:=VH (o4.heap H3.o.1 (λf=>f));obtain⟨c0,c1,_,_⟩:=Qw (o4.heap H3.o.1 (λf=>f));have oT:=(H2.o.2.same H3.o.2.1).same o4;obtain⟨d0,d1,_,_⟩:=Qw (oT.heap G0.o.1 (λf=>f));obtain⟨z0,z1,f0,f1⟩:=Qw (oT.heap G0.o.2.1 (λf=>f));obtain⟨g5,o5⟩:=put2 (oT.heap G0.o.2.1 (λf=>f)) (.string t) (.slice a2 s.length c2)
 have h4:W0.heap.size=w.heap.size+2:=by rw[G0.o.2.2.2];simp
 have F:=Qa (And.intro (VH g5) (And.intro o5 (And.intro h4 (And.intro oT o4))));clear K3 o4 oT g5 o5 h4;go_wp2;refine bodyPost_ret (Kx rfl _ _ rfl rfl F.o.1) rfl ⟨_,rfl,?_,?_⟩
 ·refine Qr (F.o.2.1.own (F.o.2.2.2.2.own (H3.o.2.1.own H2.o.1 (λ_ _ f=>f)) (λ_ _ f=>f)) (λk hk e=>ZE H2.o.1 (b:=w.heap.size+1) (by have:=HS.o;have:=F.o.2.2.1;omega) (by rw[hk,e]))) ?_
  ·have:=HS.o;have:=F.o.2.2.1;omega
 ·exact (G0.o.2.2.1.same F.o.2.2.2.1).trans F.o.2.1 (λi hi e=>by omega)
theorem Tryz.sizeEn22:(prog.info? 68).map (·.size)=some 2:=by kernel_rfl
theorem uM {W:World} {b:Nat} {x y:Value} (h:W.heap[b]? = some (.cells #[x,y] 68 (0,0))):(loadVar 68 ⟨b,0,none⟩).run prog W=.ok (.agg #[x,y]) W :=
 run_loadVar_row W b 68 68 _ (0,0) _ h underlying68 rfl Tryz.sizeEn22
theorem qu (vk vs:Value) (k:LI) (v i:Int) (t:ByteArray) (s:List (Int × Int)) (w:World) (bk:Bs .u8 w vk k) (k8:U8 k) (h0:YF k i (sb t,s)=0) (hg:Gs s)
 (hs:Bs .u8 w vs (Yb k v i (sb t,s))) (ns:NoCap vs) (hT:Tab w) :
 Calls prog 46 #[vk,.int .u64 v,.int .i64 i,.agg #[.string t,.int .i64 (Ye k i (sb t,s))],vs] w λe w'=>∃u,e=.returned (.tuple #[.agg #[.string t,u],.int .i64 0])∧w'.ownsRow w.heap.size 89 2 u s.length (Yc s)∧N0 w w':=by
 obtain⟨hl,hi,hp⟩:=J5 h0;obtain⟨q1,q2,q3,q4⟩:=ZD hp;rw[QS] at q1
 have eT:Yb k v i (sb t,s)=YJ (QN k 2 []) (Q6 k v i) (Q5 v i (sb t)) (PADL (Qy (sb t,s))):=by unfold Yb;rw[if_pos h0]
 have eB:Ye k i (sb t,s)=(QO (Qy (sb t,s)).length:Int):=by unfold Ye;rw[if_pos h0]
 rw[eB];rw[eT] at hs;have g:CG (sb t,s):=⟨Kr t,hg⟩;have p8:U8 (PADL (Qy (sb t,s))):=ZC (XT g)
 have pl:(PADL (Qy (sb t,s))).length<=4194304:=by rw[KX _ q4];exact VX _
 have hbl:(Q5 v i (sb t)).length<=200:=by have:=NS (v:=v) (i:=i) (t:=sb t) (by rw[QS];omega);rw[QS] at this;omega
 have hf:U8 (Q5 v i (sb t)):=Mb (Kr t);have kn:KN (QN k 2 []) (Q6 k v i):=⟨We _ _ _,Vt _ _ _⟩;have hal:=VG (QN k 2 []) (Q6 k v i) (Q5 v i (sb t)) (PADL (Qy (sb t,s)));have hd:=Sl (QN k 2 []) (Q6 k v i) (Q5 v i (sb t)) (PADL (Qy (sb t,s))) p8;have ha:=BB (QN k 2 []) (Q6 k v i) (Q5 v i (sb t)) (PADL (Qy (sb t,s)));have he:=Cs (QN k 2 []) (Q6 k v i) (Q5 v i (sb t)) (PADL (Qy (sb t,s))) p8;have OP:=Qa (λ(W:World) (a b c:Value) (h1:Bs .u8 W a (QN k 2 [])) (h2:Bs .u8 W b (Q6 k v i)) (h3:Bs .u8 W c (Q5 v i (sb t))) (n3:NoCap c) (o:N0 w W)=>uS a b c vs _ _ _ _ (Vx _ _ _) (MP _ _ _) hf hd (by omega) (by omega) W h1 h2 h3 n3 (hs.past o) ns)
 simp only[show Wz (QN k 2 []) (Q6 k v i) (Q5 v i (sb t)) (YJ (QN k 2 []) (Q6 k v i) (Q5 v i (sb t)) (PADL (Qy (sb t,s))))=0 by unfold Wz;rw[if_pos kn,if_pos (by omega),if_pos ha],
  show Wb (QN k 2 []) (Q6 k v i) (Q5 v i (sb t)) (YJ (QN k 2 []) (Q6 k v i) (Q5 v i (sb t)) (PADL (Qy (sb t,s))))=PADL (Qy (sb t,s)) by unfold Wb;rw[if_pos kn,if_pos (by omega),if_pos ha,he]] at OP
 have UN:=Qa (λ(W:World) (x:Value) (o:N0 w W) (h:Bs .u8 W x (PADL (Qy (sb t,s))))=>tP t s x W hp hg h (hT.past o));have BS:=Qa (λW=>TD v i t hi (by omega) W);obtain⟨n,hn⟩:=EX (QO (Qy (sb t,s)).length);rw[<-hn] at UN ⊢;obtain⟨W0,h7⟩:=EX ((w.alloc (.cells #[.string t,.int .i64 (n:Int)] 68)).alloc (.cells #[.string ⟨#[]⟩,.slice none 0 0] 42))
 have o0:N0 w W0:=by rw[h7];exact ((Only.refl _ _).alloc _).alloc _
 have ge:W0.heap[w.heap.size]? = some (.cells #[.string t,.int .i64 (n:Int)] 68 (0,0)):=by rw[h7];exact Ub (heap_alloc_new _ _)
 have gc:W0.heap[w.heap.size+1]? = some (.cells #[.string ⟨#[]⟩,.slice none 0 0] 42 (0,0)):=by rw[h7];exact YS (by simp)
 have A:=Qa (N5 vk k v i k8 W0 (bk.past o0) hl hi);have L:=Qa (And.intro (We k 2 []) (Vt k v i));have G0:=Qa (And.intro ge (And.intro gc (And.intro o0 h7)))
 have d1:decide (64<(t.size:Int))=false:=by simp;omega
 have d2:decide (64<t.size)=false:=by simp;omega
 clear bk k8 h0 hg hs ns hT hl hi hp q1 q2 q3 q4 eT eB g p8 pl hbl hf kn hal hd ha he hn ge gc o0 h7;generalize QN k 2 []=k1 at *;generalize Q6 k v i=k2 at *;generalize Q5 v i (sb t)=X at *;generalize PADL (Qy (sb t,s))=p at *;go_enter func46,ntmps46;go_wp2_with fail;rw[<-G0.o.2.2.2];refine A.o.mono ?_;rintro e w1 ⟨a,b,rfl,h8,h4,o1⟩;have B1:Hid (Bs .u8 w1 a k1∧Bs .u8 w1 b k2):=⟨Bs.of_own (k:=.u8) (E:=5) (lo:=W0.heap.size) (by rw[L.o.1];exact h8),Bs.of_own (k:=.u8) (E:=5) (lo:=W0.heap.size) (by rw[L.o.2];exact h4)⟩;obtain⟨c0,c1,_,_⟩:=Qw (o1.heap G0.o.1 (λf=>f));have hb:=Qa (BS.o w1);have O1:=Qa o1;clear h8 h4 o1 A BS L;go_wp2_with fail;refine hb.o.mono ?_;rintro e w2 ⟨x2,rfl,h5,o2⟩;have hm:=Qa (OP.o w2 a b x2 (B1.o.1.past o2) (B1.o.2.past o2) (Bs.of_own h5) (NoCap.of_own h5) (G0.o.2.2.1.same (O1.o.same o2)));have O2:=Qa (O1.o.same o2);clear h5 o2 hb B1 O1 OP c0 c1;go_wp2_with fail;refine hm.o.mono ?_;rintro e w3 ⟨x3,rfl,h9,o3⟩;have oT:=O2.o.same o3;have hj:=Qa (UN.o w3 x3 (G0.o.2.2.1.same oT) (Bs.of_own h9));have hld:=uM (oT.heap G0.o.1 (λf=>f));obtain⟨e0,e1,_,_⟩:=Qw (oT.heap G0.o.1 (λf=>f));have O3:=Qa oT;clear h9 o3 hm O2 UN oT;go_wp2_with fail;refine hj.o.mono ?_;rintro e w4 ⟨u,rfl,h6,o4⟩;obtain⟨a4,c4,rfl⟩:=(Sps.of_own h6).len;have oT:=O3.o.same o4;obtain⟨z0,z1,f0,f1⟩:=Qw (oT.heap G0.o.2.1 (λf=>f));obtain⟨g5,o5⟩:=put2 (oT.heap G0.o.2.1 (λf=>f)) (.string t) (.slice a4 s.length c4)
 have hh:W0.heap.size=w.heap.size+2:=by rw[G0.o.2.2.2];simp
 have F:=Qa (And.intro (VH g5) (And.intro o5 (And.intro hh (And.intro oT (And.intro h6 O3.o.size)))));clear hj o4 oT g5 o5 hh h6 hld e0 e1;go_wp2;refine bodyPost_ret (Kx rfl _ _ rfl rfl F.o.1) rfl ⟨_,rfl,?_,?_⟩
 ·refine Qr (F.o.2.1.own F.o.2.2.2.2.1 (λk hk e=>ZE F.o.2.2.2.2.1 (b:=w.heap.size+1) (by have:=F.o.2.2.2.2.2;have:=F.o.2.2.1;omega) (by rw[hk,e]))) ?_
  have:=F.o.2.2.2.2.2;have:=F.o.2.2.1;omega
 ·exact (G0.o.2.2.1.same F.o.2.2.2.1).trans F.o.2.1 (λi hi e=>by omega)
theorem qX {P:Program} {fn:Func} {a b c d:Tmp} {ty:TypeId} (h:fn.results=#[.cell a ty,.tmp b,.tmp c,.tmp d]) (tmps:Array Value) (w:World) {ad:Addr} {v1 v2 v3 v4:Value}
 (h1:tmps.getD a undef=.pointer (some ad)) (h2:tmps.getD b undef=v2) (h3:tmps.getD c undef=v3) (h4:tmps.getD d undef=v4) (hl:(loadVar ty ad).run P w=.ok v1 w) :
 (results fn tmps).run P w=.ok (.tuple #[v1,v2,v3,v4]) w:=by
 have h1':tmps[a]?.getD undef=.pointer (some ad):=by simpa using h1
 have h2':tmps[b]?.getD undef=v2:=by simpa using h2
 have h3':tmps[c]?.getD undef=v3:=by simpa using h3
 have h4':tmps[d]?.getD undef=v4:=by simpa using h4
 simp[results,h,h1',h2',h3',h4',asAddr,hl]
theorem Nt {b sg:LI} {m:MAN} {ls:List (LI)} (h:Wh b=.ok (m,sg,ls)) :
 ∃k,Qp 268435456 b=(sg,k,0)∧32<=sg.length∧MDEC (sg.take (sg.length - 32))=.ok m∧CUT m.es (b.drop k)=some (ls,[]):=by
 obtain⟨h0,k,c,hs⟩:∃x k c,Qp 268435456 b=(x,k,c):=⟨_,_,_,rfl⟩;unfold Wh at h;rw[hs] at h ⊢;simp only at h
 by_cases h1:c=0
 ·rw[if_neg (by simpa using h1)] at h
  by_cases h2:h0.length<32
  ·rw[if_pos h2] at h;cases h
  ·rw[if_neg h2] at h
   cases h3:MDEC (h0.take (h0.length - 32)) with
   | error e=>rw[h3] at h;cases h
   | ok m' =>
    rw[h3] at h;simp only at h
    cases h4:CUT m'.es (b.drop k) with
    | none=>rw[h4] at h;cases h
    | some x =>
     rw[h4] at h;simp only at h
     by_cases h5:x.2=[]
     ·rw[if_pos h5] at h
      simp only[Except.ok.injEq,Prod.mk.injEq] at h;obtain⟨rfl,rfl,rfl⟩:=h;exact⟨k,by rw[h1],by omega,h3,by rw[<-h5,h4]⟩
     ·rw[if_neg h5] at h;cases h
 ·rw[if_pos h1] at h;cases h
theorem LF {n:Int} {b sg:LI} {k:Nat} {c:Int} (h8:U8 b) (h:Qp n b=(sg,k,c)):U8 sg:=by
 have nl:U8 []:=λy hy=>by cases hy
 unfold Qp at h
 split at h
 ·simp only[Prod.mk.injEq] at h;rw[<-h.1];exact nl
 ·split at h
  ·simp only[Prod.mk.injEq] at h;rw[<-h.1];exact nl
  ·split at h
   ·simp only[Prod.mk.injEq] at h;rw[<-h.1];exact nl
   ·split at h
    ·simp only[Prod.mk.injEq] at h;rw[<-h.1];exact nl
    ·simp only[Prod.mk.injEq] at h;rw[<-h.1];exact (h8.drop _).take _
structure SPW (w w':World) (x vp ve vr u a:Value) (m:MAN) (sg:LI) (ls:List (LI)):Prop where
 mn:Mnw w w' x m vp ve vr
 sg:Bs .u8 w' u sg
 nu:NoCap u
 ls:∃vs,LO w' vs ls∧w'.ownsRow w.heap.size 22 1 a ls.length vs
 o:N0 w w'
theorem RX (vb:Value) (b:LI) (w:World) (hb:Bs .u8 w vb b) (h8:U8 b) (hl:b.length<=1000000000000) {m:MAN} {sg:LI} {ls:List (LI)} (hx:Wh b=.ok (m,sg,ls)) :
 Calls prog 21 #[vb] w λe w'=>∃x vp ve vr u a,e=.returned (.tuple #[x,u,a,.int .i64 0])∧SPW w w' x vp ve vr u a m sg ls:=by
 obtain⟨k,hs,h9,hm,h1⟩:=Nt hx;have h5:=LF h8 hs;have hG:=(Mp (h5.take _) hm).1;obtain⟨w0,h2⟩:=EX (w.alloc (.cells #[.int .u64 0,.slice none 0 0,.slice none 0 0,.slice none 0 0] 51))
 have o0:N0 w w0:=by rw[h2];exact (Only.refl _ _).alloc _
 have g0:Hid (w0.heap[w.heap.size]? = some (.cells #[.int .u64 0,.slice none 0 0,.slice none 0 0,.slice none 0 0] 51 (0,0))):=by show _=_;rw[h2];exact heap_alloc_new _ _
 have NW:=Qa (Ut vb b w0 (hb.past o0) h8 hl);have HW:=Qa (And.intro h2 (And.intro o0 (show w0.heap.size=w.heap.size+1 by rw[h2];simp)));have HX:=Qa (And.intro hs (And.intro h9 (And.intro hm (And.intro h1 (And.intro h5 hG)))));clear hb h8 hl hx hs h9 hm h1 h5 hG h2 o0;go_enter func21,ntmps21;go_wp2_with fail;rw[<-HW.o.1];refine NW.o.mono ?_;rintro e w1 ⟨R,v',rfl,cu,o1,r0,r1,hv⟩;have CM:=Qa (xI w1 (λq hq=>(hv q hq).2) cu HX.o.1 HX.o.2.1 HX.o.2.2.1 HX.o.2.2.2.2.1);have H1:=Qa (And.intro o1 (And.intro r0 (And.intro r1 hv)));clear cu o1 r0 r1 hv NW;go_wp2_with fail;refine CM.o.mono ?_;rintro e w2 ⟨x,vp,ve,vr,u,rfl,mn,bu,nu,lu,⟨v2,cu,h6⟩,o2⟩;have hf:=mn.mf.form;obtain⟨ap,cp,ep⟩:=mn.mf.prev.len;obtain⟨ae,ce,ee⟩:=mn.mf.es.len;obtain⟨ar,cr,er⟩:=mn.mf.root.len;obtain⟨au,cau,eu⟩:=bu.len;subst ep ee er hf eu;obtain⟨W3,h3⟩:=EX (w2.alloc (.cells #[.int .u64 m.ver,.slice ap m.prev.length cp,.slice ae m.es.length ce,.slice ar m.root.length cr] 51))
 have o3:N0 w2 W3:=by rw[h3];exact (Only.refl _ _).alloc _
 have gb:=show W3.heap[w2.heap.size]? = some (.cells #[.int .u64 m.ver,.slice ap m.prev.length cp,.slice ae m.es.length ce,.slice ar m.root.length cr] 51 (0,0)) by rw[h3];exact heap_alloc_new _ _
 obtain⟨⟨y0,y1,y2,y3⟩,_⟩:=Yd gb;have CC:=Qa (Ol (t:=[]) m.es ls (.slice ae m.es.length ce) W3 (cu.keep o3 (λf=>f) (λ_ _ f=>f)) (λq hq=>by rw[h6] at hq;have:=(H1.o.2.2.2 q hq).2;have:=o2.size;have:=o3.size;omega) (mn.mf.es.past o3) (λq hq e=>by have:=mn.be q hq;have:=H1.o.2.2.1;omega) HX.o.2.2.2.1 (λe he=>(HX.o.2.2.2.2.2.2.2.2.2 e he).2) HX.o.2.2.2.2.2.2.2.2.1);have gz:=o3.heap (o2.heap (H1.o.1.heap g0.o (λf=>f)) (λe=>by have:=H1.o.2.1;have:=HW.o.2.2;omega)) (λf=>f);have H3:=Qa (And.intro (mn.past o3) (And.intro (bu.past o3) (And.intro nu (And.intro lu (And.intro (o2.trans (T:=λ_=>False) o3 (λ_ _ f=>f.elim)) (And.intro gb (And.intro gz (show R<w2.heap.size by have:=H1.o.2.2.1;have:=o2.size;omega))))))));clear mn bu nu lu cu h6 o2 o3 gb gz CM;subst h3;go_wp2_with fail;refine CC.o.mono ?_;rintro e w4 ⟨a,rfl,hls,⟨v3,h7,hv3⟩,o4⟩;have EN:=Qa (JI h7);rw[show endV []=0 from rfl] at EN;obtain⟨vs,lo,own⟩:=hls;obtain⟨a4,c4,ea4⟩:=QJ own;subst ea4;have h4:=o4.heap H3.o.2.2.2.2.2.1 (λe=>by have:=H3.o.2.2.2.2.2.2.2;omega);have hld:=YP h4;obtain⟨⟨x0,x1,x2,x3⟩,_⟩:=Yd h4;have h0:=o4.heap H3.o.2.2.2.2.2.2.1 (λe=>by have:=H1.o.2.1;have:=HW.o.2.2;omega);obtain⟨⟨z0,z1,z2,z3⟩,f0,f1,f2,f3⟩:=Yd h0;have P4:=put4 h0 (.int .u64 m.ver) (.slice ap m.prev.length cp) (.slice ae m.es.length ce) (.slice ar m.root.length cr)
 have F:=Qa (And.intro (YP P4.1) (show SPW w _ (.agg #[.int .u64 m.ver,.slice ap m.prev.length cp,.slice ae m.es.length ce,.slice ar m.root.length cr]) (.slice ap m.prev.length cp) (.slice ae m.es.length ce) (.slice ar m.root.length cr) (.slice au sg.length cau) (.slice a4 ls.length c4) m sg ls from by
  have q1:=H1.o.2.1;have q2:=HW.o.2.2;have q3:=H1.o.1.size;have q4:=H3.o.2.2.2.2.1.size;refine⟨((H3.o.1.keep o4 H1.o.2.2.1).keep P4.2 (by omega)).lowS (by omega),(H3.o.2.1.keep o4 (λq hq e=>?_)).keep P4.2 (λq hq e=>?_),H3.o.2.2.1,⟨vs,lo.ne P4.2 h0 (by decide),Qr (Gl P4.2 h0 (by decide) own) (by omega)⟩,?_⟩
  ·have:=H3.o.2.2.2.1 q hq;have:=H1.o.2.2.1;omega
  ·have:=H3.o.2.2.2.1 q hq;omega
  ·exact ((HW.o.2.1.trans H1.o.1 (λ_ _ f=>f.elim)).trans (H3.o.2.2.2.2.1.trans o4 (λ_ _ e=>e)) (λi hi e=>by omega)).trans P4.2 (λi hi e=>by omega)))
 clear lo own h4 h0 P4 o4 CC H3 H1 y0 y1 y2 y3;go_wp2_with fail;refine EN.o.mono ?_;rintro e w5 ⟨rfl,rfl⟩;clear EN h7;go_wp2;exact bodyPost_ret (qX rfl _ _ rfl rfl rfl rfl F.o.1) rfl ⟨_,_,_,_,_,_,rfl,F.o.2⟩
def Y8 (k:LI) (s:Yf) (m:MAN) (sg:LI):Int :=
 if UL k sg=0 then (if s.2.length=0 then 0 else if m.ver<s.1 then 6 else if m.ver=s.1∧m.root≠s.2 then 7 else 0) else 5
theorem Lw (vk vt x vp ve vr vs:Value) (k r sg:LI) (p:Nat) (m:MAN) (w:World) (bk:Bs .u8 w vk k) (k8:U8 k) (bt:Bs .u8 w vt r) (r8:U8 r) (hm:Mf w x m vp ve vr) (m8:U8 m.root) (bs:Bs .u8 w vs sg) (s8:U8 sg) (hl:sg.length<=10000000000) :
 Calls prog 22 #[vk,.agg #[.int .u64 p,vt],x,vs] w λe w'=>e=.returned (.int .i64 (Y8 k (p,r) m sg))∧N0 w w':=by
 have hf:=hm.form;obtain⟨ap,cp,ep⟩:=hm.prev.len;obtain⟨ae,ce,ee⟩:=hm.es.len;obtain⟨ar,cr,er⟩:=hm.root.len;obtain⟨hg,ct,et⟩:=bt.len;subst ep ee er hf et;obtain⟨w0,h6⟩:=EX ((w.alloc (.cells #[.int .u64 p,.slice hg r.length ct] 25)).alloc (.cells #[.int .u64 m.ver,.slice ap m.prev.length cp,.slice ae m.es.length ce,.slice ar m.root.length cr] 51))
 have o0:N0 w w0:=by rw[h6];exact ((Only.refl _ _).alloc _).alloc _
 have gP:w0.heap[w.heap.size]? = some (.cells #[.int .u64 p,.slice hg r.length ct] 25 (0,0)):=by rw[h6];exact Ub (heap_alloc_new _ _)
 have gM:w0.heap[w.heap.size+1]? = some (.cells #[.int .u64 m.ver,.slice ap m.prev.length cp,.slice ae m.es.length ce,.slice ar m.root.length cr] 51 (0,0)):=by rw[h6];exact YS (by simp)
 have CK:=Qa (I8 vk vs k sg w0 (bk.past o0) k8 (bs.past o0) s8 hl);have TS:=Qa (λW=>XL (.int .u64 p) hg r.length ct W);have EQ:=Qa (λW (o:N0 w W)=>UZ (.slice ar m.root.length cr) (.slice hg r.length ct) m.root r W (hm.root.past o) (bt.past o) m8 r8);have HW:=Qa (And.intro h6 (And.intro o0 (And.intro gP gM)));obtain⟨e,he⟩:=EX (UL k sg)
 have hT:Y8 k (p,r) m sg=if e=0 then (if r.length=0 then 0 else if m.ver<p then 6 else if m.ver=p∧m.root≠r then 7 else 0) else 5:=by rw[he];rfl
 rw[hT];rw[<-he] at CK;obtain⟨n,hn⟩:=EX r.length;obtain⟨q,hq⟩:=EX m.root.length;rw[<-hn] at HW TS EQ ⊢;rw[<-hq] at HW EQ ⊢;clear bk k8 bt r8 hm m8 bs s8 hl h6 o0 gP gM he hT hn hq
 by_cases h1:e=0
 ·subst h1
  rw[if_pos rfl]
  by_cases h2:n=0
  ·subst h2
   rw[if_pos rfl];simp only[show decide (0<0)=false from rfl] at TS;go_enter func22,ntmps22;go_wp2_with fail;rw[<-HW.o.1];refine CK.o.mono ?_;rintro e w1 ⟨x1,hj,hh,ho,rfl,mn,o1⟩;have hf:=mn.mf.form;obtain⟨h7,h3,ep⟩:=mn.mf.prev.len;obtain⟨h8,h9,ee⟩:=mn.mf.es.len;obtain⟨hd,h4,er⟩:=mn.mf.root.len;subst ep ee er hf;obtain⟨W2,h5⟩:=EX (w1.alloc (.cells #[.int .u64 (Yz k sg).ver,.slice h7 (Yz k sg).prev.length h3,.slice h8 (Yz k sg).es.length h9,.slice hd (Yz k sg).root.length h4] 51))
   have o2:N0 w0 W2:=by rw[h5];exact o1.alloc _
   obtain⟨c0,c1,_,_⟩:=Qw (o2.heap HW.o.2.2.1 (λf=>f));have h0:=Qa (TS.o W2);have O2:=Qa (HW.o.2.1.same o2);clear mn o1 o2 TS CK EQ;subst h5;go_wp2_with fail;refine h0.o.mono ?_;rintro e w3 ⟨rfl,o3⟩;have F:=Qa (O2.o.same o3);clear h0 o3 O2;go_wp2;go_ret;exact⟨rfl,F.o⟩
  ·rw[if_neg h2]
   simp only[Qc (by omega:0<n)] at TS;obtain⟨t,ht⟩:=EX (decide (m.root=r));simp only[<-ht] at EQ;have d1:decide ((m.ver:Int)<(p:Int))=decide (m.ver<p):=decide_eq_decide.2 (by omega)
   have d2:((m.ver:Int) == (p:Int))=decide (m.ver=p):=by
    by_cases h:m.ver=p
    ·rw[Qc h,h];simp
    ·rw[Qh h,beq_eq_false_iff_ne];omega
   obtain⟨a,ha⟩:=EX (decide (m.ver<p));obtain⟨b,hb⟩:=EX (decide (m.ver=p))
   have hR:(if m.ver<p then (6:Int) else if m.ver=p∧m.root≠r then 7 else 0)=if a=true then 6 else if b=true∧t=false then 7 else 0:=by rw[ha,hb,ht];simp
   rw[hR]
   have hk:¬(a=true∧b=true):=by rw[ha,hb];simp;omega
   have ha':=ha.symm;rw[<-ha] at d1;rw[<-hb] at d2;clear ha hb ht hR h2
   have W1:Hid (∀(v:Int),(if a=true then 6 else if b=true∧t=false then 7 else 0)=v->Calls prog 22 #[vk,.agg #[.int .u64 p,.slice hg n ct],.agg #[.int .u64 m.ver,.slice ap m.prev.length cp,.slice ae m.es.length ce,.slice ar q cr],vs] w λe w'=>e=.returned (.int .i64 v)∧N0 w w'):=by
    intro v hv
    cases ha2:a <;> cases hb2:b <;> cases ht2:t
    all_goals (subst ha2 hb2 ht2)
    all_goals (first|(exact absurd ⟨rfl,rfl⟩ hk) | skip)
    all_goals (simp at hv)
    all_goals (
     subst hv;clear hk;go_enter func22,ntmps22;go_wp2_with fail;rw[<-HW.o.1];refine CK.o.mono ?_;rintro e w1 ⟨x1,hj,hh,ho,rfl,mn,o1⟩;have hf:=mn.mf.form;obtain⟨h7,h3,ep⟩:=mn.mf.prev.len;obtain⟨h8,h9,ee⟩:=mn.mf.es.len;obtain⟨hd,h4,er⟩:=mn.mf.root.len;subst ep ee er hf;obtain⟨W2,h5⟩:=EX (w1.alloc (.cells #[.int .u64 (Yz k sg).ver,.slice h7 (Yz k sg).prev.length h3,.slice h8 (Yz k sg).es.length h9,.slice hd (Yz k sg).root.length h4] 51))
     have o2:N0 w0 W2:=by rw[h5];exact o1.alloc _
     obtain⟨c0,c1,_,_⟩:=Qw (o2.heap HW.o.2.2.1 (λf=>f));have h0:=Qa (TS.o W2);have O2:=Qa (And.intro (HW.o.2.1.same o2) o2);clear mn o1 o2 TS CK;subst h5;go_wp2_with fail;refine h0.o.mono ?_;rintro e w3 ⟨rfl,o3⟩;clear c0 c1;obtain⟨c0,c1,_,_⟩:=Qw ((O2.o.2.same o3).heap HW.o.2.2.1 (λf=>f));obtain⟨⟨m0,m1,m2,m3⟩,_⟩:=Yd ((O2.o.2.same o3).heap HW.o.2.2.2 (λf=>f));have EQ1:=Qa (EQ.o w3 (O2.o.1.same o3));have F:=Qa (O2.o.1.same o3);clear h0 o3 O2 EQ;go_wp2_with (first|(go_at_call 23;refine EQ1.o.mono ?_;rintro e w4 ⟨rfl,rfl⟩))
     all_goals (
      go_ret
      exact⟨rfl,F.o⟩))
   exact W1.o _ rfl
 ·rw[if_neg h1]
  have hne:(e != 0)=true:=by simpa using h1
  clear h1 TS EQ;go_enter func22,ntmps22;go_wp2_with fail;rw[<-HW.o.1];refine CK.o.mono ?_;rintro e w1 ⟨x1,hj,hh,ho,rfl,mn,o1⟩;have hf:=mn.mf.form;obtain⟨h7,h3,ep⟩:=mn.mf.prev.len;obtain⟨h8,h9,ee⟩:=mn.mf.es.len;obtain⟨hd,h4,er⟩:=mn.mf.root.len;subst ep ee er hf;have F:=Qa (HW.o.2.1.same (o1.alloc (.cells #[.int .u64 (Yz k sg).ver,.slice h7 (Yz k sg).prev.length h3,.slice h8 (Yz k sg).es.length h9,.slice hd (Yz k sg).root.length h4] 51)));clear mn o1 CK;go_wp2;go_ret;exact⟨rfl,F.o⟩
theorem Cr (m:LI) (p:Nat) (r:LI) (v n:Nat):(if m.length=32∧(r.length=0∨r.length=32)∧v≠18446744073709551615 then (if 0<r.length∧v<=p then (6:Int) else if 1048576<n then 4 else 0) else 1)=Un m (p,r) v n:=rfl
structure BU (w w':World) (u ru:Value) (t r:LI):Prop where
 t:w'.ownsRow w.heap.size 5 1 u t.length (bl t)
 r:Bs .u8 w' ru r
 nr:NoCap ru
 lo:∀k,ru.ownBlock=some k->w.heap.size<=k
 o:N0 w w'
theorem ED.all {w:World} {N n:Nat} {es:Nat->LI × Int} (h:ED w N n n es):Ens w (.slice (some ⟨N,0,none⟩) n n) ((List.range n).map es):=by
 unfold ED at h;rw[Nat.sub_self,List.replicate_zero,List.append_nil] at h;exact Ens.of_own (lo:=N) (E:=68) (by simpa using h)
theorem BU.no {w w':World} (o:N0 w w'):BU w w' NIL NIL [] []:=⟨World.ownsRow_nil _ _ _ _,Bs.nil _ _,NoCap.nil,(λk hk=>by cases hk),o⟩
theorem Jp (vm vr vl:Value) (m r:LI) (p v:Nat) (l:List Qk) (w:World) (bm:Bs .u8 w vm m) (m8:U8 m) (br:Bs .u8 w vr r) (nr:NoCap vr) (r8:U8 r) (hc:Chs w vl l) (hg:CL l) (hl:l.length<=100) (hv:v<18446744073709551616) (hT:Tab w) :
 Calls prog 7 #[vm,.agg #[.int .u64 p,vr],.int .u64 v,vl] w λe w'=>∃u ru,e=.returned (.tuple #[u,.agg #[.int .u64 (YN m (p,r) v l).1,ru],.int .i64 (QP m (p,r) v l)])∧BU w w' u ru (QT m (p,r) v l) (YN m (p,r) v l).2:=by
 obtain⟨ar,cr,rfl⟩:=br.len;obtain⟨am,cm,rfl⟩:=bm.len;obtain⟨al,cl,rfl,_⟩:=hc.len;obtain⟨w0,h8⟩:=EX ((w.alloc (.cells #[.int .u64 p,.slice ar r.length cr] 25)).alloc (.cells #[.int .u64 0,.slice none 0 0] 25))
 have o0:N0 w w0:=by rw[h8];exact ((Only.refl _ _).alloc _).alloc _
 have gP:Hid (w0.heap[w.heap.size]? = some (.cells #[.int .u64 p,.slice ar r.length cr] 25 (0,0))):=by
  show _=_
  rw[h8];exact Ub (heap_alloc_new _ _)
 have gR:Hid (w0.heap[w.heap.size+1]? = some (.cells #[.int .u64 0,.slice none 0 0] 25 (0,0))):=by
  show _=_
  rw[h8];exact YS (by simp)
 obtain⟨p0,p1,_,_⟩:=Qw gP.o;have MA:=Qa (A7 am m.length cm p ar r.length cr v l.length w0);rw[Cr] at MA;have HB:=Qa (And.intro (bm.past o0) (And.intro (br.past o0) (And.intro (hc.past o0) (hT.past o0))));have HI:=Qa (And.intro m8 (And.intro nr (And.intro r8 (And.intro hg (And.intro hl hv)))));have HW:=Qa h8;have O0:=Qa o0
 have ha:Hid (w0.heap.size=w.heap.size+2):=by show _=_;rw[h8];simp
 have R0:Hid (w.heap.size<=w.heap.size+1):=by show _<=_;omega
 obtain⟨L,hL⟩:=EX l.length;obtain⟨M,hM⟩:=EX m.length;obtain⟨rl,hd⟩:=EX r.length;rw[<-hL,<-hM,<-hd] at MA HB;rw[<-hd] at gP HW p1 HI;rw[<-hL,<-hM,<-hd];have HL:=Qa (And.intro hL (And.intro hM hd));clear h8 o0 bm m8 br nr r8 hc hg hl hv hT hL hM hd
 by_cases h1:Un m (p,r) v L=0
 ·rw[h1] at MA
  have SA:=Qa (λW (o:N0 w0 W)=>xt (.slice am M cm) (.slice al L cl) m v l W (HB.o.1.past o) HI.o.1 (HB.o.2.2.1.past o) HI.o.2.2.2.1 (by have:=HI.o.2.2.2.2.1;omega) (HB.o.2.2.2.past o))
  have eE:QP m (p,r) v l=Yg m 0 l:=by unfold QP;rw[<-HL.o.1,if_pos h1]
  obtain⟨q1,q2,q3,q4,q5⟩:=Kv h1
  by_cases h2:Yg m 0 l=0
  ·have eA:QP m (p,r) v l=0:=by rw[eE,h2]
   have eT:QT m (p,r) v l=blk (QI m (p,r) v l)++(QF m v l l.length).flatten:=by unfold QT;rw[if_pos eA]
   have eR:YN m (p,r) v l=(v,QD (QF m v l l.length)):=by unfold YN;rw[if_pos eA]
   have hm:∀c∈l,CG c:=λc hc=>(HI.o.2.2.2.1 c hc).1
   have hs:Uv (Qz m r v l):=VT (s:=(p,r)) HI.o.2.2.2.2.2 HI.o.2.2.1 hm eA;have ho:Mok (Qz m r v l):=BO (s:=(p,r)) HI.o.2.2.2.2.2 HI.o.2.2.1 hm
   have k1:(Qz m r v l).es.length<=100:=by show (Um m l l.length).length<=100;rw[KJ];exact HI.o.2.2.2.2.1
   have hn:WN m (Qz m r v l)=0:=by unfold WN;rw[if_pos q1];exact (Hp ho).2 hs
   have eS:U7 m (Qz m r v l)=QI m (p,r) v l:=by unfold U7;rw[if_pos hn];rfl
   have ht:(QI m (p,r) v l).length<=10032:=by have:=PM hs k1;unfold QI;rw[Qb,Uc];show (MENC (Qz m r v l)).length+32<=_;omega
   have RT:=Qa (λ(W:World) (x:Value) (h:RL W x (QF m v l l.length))=>SX x (QF m v l l.length) W h (J1 hm _) (by rw[Zq];have:=HI.o.2.2.2.2.1;omega));have PV:=Qa (λW (o:N0 w0 W)=>uN (.int .u64 p) (.slice ar rl cr) r W (HB.o.2.1.past o) HI.o.2.1);have SG:=Qa (λW (o:N0 w0 W) (x vp ve vr:Value) (h:Mf W x (Qz m r v l) vp ve vr) (np:NoCap vp) (nr:NoCap vr)=>x9 (.slice am M cm) x vp ve vr m (Qz m r v l) W (HB.o.1.past o) HI.o.1 h ho np nr (by omega));simp only[hn,eS] at SG;have BK:=Qa (λ(W:World) (x:Value) (h:Bs .u8 W x (QI m (p,r) v l)) (n:NoCap x)=>Kb x (QI m (p,r) v l) W h n (by omega));have HG:Hid ((QI m (p,r) v l).length<=10032∧(blk (QI m (p,r) v l)).length<=20000∧0<(blk (QI m (p,r) v l)).length):=⟨ht,by have:=UW (QI m (p,r) v l) (by omega);omega,by unfold blk;rw[Qb];have:=VE (QI m (p,r) v l).length;omega⟩;rw[eA,eT,eR];rw[h2] at SA;have hx:=Qa h2;have HQ2:=Qa q2;have eRT:(Qz m r v l).root=QD (QF m v l l.length):=rfl;have eVR:(Qz m r v l).ver=v:=rfl;clear h1 h2 eE eA eT eR hs ho k1 hn eS ht q1 q2 q3 q4 q5 hm;go_enter func7,ntmps7;go_wp2_with fail;rw[<-HW.o];refine MA.o.mono ?_;rintro e w1 ⟨rfl,o1⟩;have S1:=Qa (SA.o w1 o1);have O1:=Qa o1;clear MA SA o1 p0 p1;go_wp2_with fail;refine S1.o.mono ?_;rintro e w2 ⟨a,b,rfl,sa,_,o2⟩;obtain⟨N1,N2,rfl,rfl,n1,n2,ld,ed⟩:=sa hx.o;rw[<-HL.o.1] at ld ed;have O2:=Qa (O1.o.same o2);have D9S:Hid (w0.heap.size<=w2.heap.size):=O2.o.size;have hw:=Qa (RT.o w2 (.slice (some ⟨N1,0,none⟩) L L) (by have:=ld.all;rw[HL.o.1] at this ⊢;exact this));have D2:=Qa (And.intro ld (And.intro ed (And.intro (show w.heap.size+2<=N1 by have:=O1.o.size;have:=ha.o;omega) (show w.heap.size<=N2 by have:=O0.o.size;have:=O1.o.size;omega))));rw[<-HL.o.1];clear sa o2 S1 ld ed n1 n2 RT O1 hx;go_wp2_with fail;refine hw.o.mono ?_;rintro e w3 ⟨ro,rfl,h6,o3⟩;have O3:=Qa (O2.o.same o3);obtain⟨p0,p1,_,_⟩:=Qw (O3.o.heap gP.o (λf=>f));have hu:=Qa (PV.o w3 O3.o);have D3:=Qa (And.intro (D2.o.1.past o3) (And.intro (D2.o.2.1.past o3) (And.intro D2.o.2.2.1 (And.intro D2.o.2.2.2 h6))));obtain⟨a3,c3,rfl⟩:=QJ h6;clear h6 o3 hw O2 D2 PV;go_wp2_with fail;refine hu.o.mono ?_;rintro e w4 ⟨pv,rfl,bp,np,o4⟩;obtain⟨a4,c4,rfl,_⟩:=bp.formN (n:=32) (SQ (by have:=HQ2.o;exact this));obtain⟨W5,hf⟩:=EX (w4.alloc (.cells #[.int .u64 v,.slice a4 32 c4,.slice (some ⟨N2,0,none⟩) L L,.slice a3 32 c3] 51))
   have o5:N0 w4 W5:=by rw[hf];exact (Only.refl _ _).alloc _
   have g5:W5.heap[w4.heap.size]? = some (.cells #[.int .u64 v,.slice a4 32 c4,.slice (some ⟨N2,0,none⟩) L L,.slice a3 32 c3] 51 (0,0)):=by rw[hf];exact heap_alloc_new _ _
   have hld:=YP g5;obtain⟨⟨y0,y1,y2,y3⟩,_⟩:=Yd g5;have h7:=o4.same o5;have O5:=Qa (O3.o.same h7)
   have hy:=Qa (SG.o W5 O5.o _ (.slice a4 32 c4) (.slice (some ⟨N2,0,none⟩) L L) (.slice a3 32 c3)
    ⟨rfl,bp.past o5,by
     have h:=D3.o.2.1.past h7;rw[HL.o.1] at h ⊢
     exact h.all,by
     have h:=h7.own D3.o.2.2.2.2 (λ_ _ f=>f)
     exact Bs.of_own (k:=.u8) (E:=5) (lo:=w2.heap.size) (by rw[eRT,US];exact h)⟩ np (NoCap.of_own D3.o.2.2.2.2))
   have D5:=Qa (And.intro (D3.o.1.past h7) (And.intro D3.o.2.2.1 (h7.own D3.o.2.2.2.2 (λ_ _ f=>f))));have H5:=Qa (And.intro hf D3.o.2.2.2.2);clear bp np o4 o5 h7 g5 hu D3 O3 SG p0 p1 hf;go_wp2_with fail;rw[<-H5.o.1];refine hy.o.mono ?_;rintro e w6 ⟨sg,rfl,h3,o6⟩;have O6:=Qa (O5.o.same o6);have k0:=Qa (BK.o w6 sg (Bs.of_own h3) (NoCap.of_own h3));have D6:=Qa (And.intro (D5.o.1.past o6) (And.intro D5.o.2.1 (o6.own D5.o.2.2 (λ_ _ f=>f))));clear h3 o6 hy O5 D5 BK hld y0 y1 y2 y3;go_wp2_with fail;refine k0.o.mono ?_;rintro e w7 ⟨x7,rfl,h4,o7⟩;obtain⟨a7,c7,rfl⟩:=QJ h4;obtain⟨hp,h5⟩:=EX ((blk (QI m (p,r) v l)).length);obtain⟨W8,hj⟩:=EX (w7.alloc (.cells #[.slice a7 hp c7] 22))
   have o8:N0 w7 W8:=by rw[hj];exact (Only.refl _ _).alloc _
   have c8:W8.cell? ⟨w7.heap.size,0,none⟩=some (.slice a7 hp c7):=(UC (T:=22) (by rw[hj];exact heap_alloc_new _ _)).1;have hh:=o7.same o8;obtain⟨vs,hr,hb⟩:=(D6.o.1.past hh).ex;rw[Nat.sub_self,List.replicate_zero,List.append_nil] at hb;have hNb:=X7 hb
   obtain⟨cs8,k3⟩:∃cs,W8.heap[N1]? = some (.cells cs 22):=by
    rcases hb.2 with ⟨e,_⟩ | ⟨g,cap,cur,e,_,hg,_⟩
    ·cases e
    ·cases e;exact⟨_,hg⟩
   have IN:=Qa (rm N1 w7.heap.size L N1 (.slice a7 hp c7) vs W8 (by have:=HI.o.2.2.2.2.1;have:=HL.o.1;omega) hb hr.one' c8 rfl (by omega));have D8:=Qa (And.intro hr (And.intro k3 (And.intro D6.o.2.1 (And.intro (hh.own D6.o.2.2 (λ_ _ f=>f)) (And.intro (o8.own h4 (λ_ _ f=>f)) (O6.o.same hh))))));have H8:=Qa (And.intro hj h5);rw[<-h5];clear h4 o7 o8 c8 hh hr hb hNb k3 k0 D6 O6 hj h5;go_wp2_with fail;rw[<-H8.o.1];refine IN.o.mono ?_;rintro e w9 ⟨B,C,rfl,he,o9⟩;have O9:=Qa ((D8.o.2.2.2.2.2).trans o9 (λi hi e=>by have:=D8.o.2.2.1;have:=ha.o;omega));have PC:=Qa (tv (ls:=QF m v l l.length) he (by have:=HI.o.2.2.2.2.1;have:=HL.o.1;omega) ⟨w6.heap.size,JC o9 D8.o.2.1 (by rw[H8.o.2];exact D8.o.2.2.2.2.1)⟩ (by have:=D8.o.1.off o9 D8.o.2.1;rw[HL.o.1] at this;exact this) HG.o.2.2 (by have:=HG.o.2.1;omega) NK);have D9:=Qa (JC o9 D8.o.2.1 D8.o.2.2.2.1);clear he o9 IN D8;go_wp2_with fail;refine PC.o.mono ?_;rintro e hz ⟨u,rfl,h0,hq⟩;have k2:=Qa (O9.o.same hq);have g1:=k2.o.heap gR.o (λf=>f);obtain⟨q0,q1,z0,z1⟩:=Qw g1;have P2:=put2 g1 (.int .u64 (v:Int)) (.slice a3 32 c3)
   have HR:∀{lo n:Nat} {x:Value} {xs:List Value} {b:Nat},hz.ownsRow lo 5 1 x n xs->∀k,x.ownBlock=some k->¬k=w.heap.size+1:=by
    intro lo n x xs _ h k hk e;subst e
    rcases h.2 with ⟨rfl,_⟩ | ⟨g,cap,cur,rfl,_,hg,_⟩
    ·cases hk
    ·cases hk;rw[g1] at hg;cases hg
   have h9:=hq.own D9.o (λ_ _ f=>f)
   have F:=Qa (And.intro (Vr P2.1) (show BU w ((hz.setCell ⟨w.heap.size+1,0,none⟩ (.int .u64 (v:Int))).setCell ⟨w.heap.size+1,1,none⟩ (.slice a3 32 c3)) u (.slice a3 32 c3) (blk (QI m (p,r) v l)++(QF m v l l.length).flatten) (QD (QF m v l l.length)) from by
    refine⟨Qr (P2.2.own h0 (HR (b:=0) h0)) (by have:=O0.o.size;have:=O9.o.size;omega),?_,NoCap.of_own h9,λk hk=>?_,(O0.o.same k2.o).trans P2.2 (λi hi e=>by omega)⟩
    ·exact Bs.of_own (k:=.u8) (E:=5) (lo:=w2.heap.size) (by rw[US];exact P2.2.own h9 (HR (b:=0) h9))
    ·have h1:=(h9.lt k hk).1
     have:=O0.o.size;have:=D9S.o
     omega))
   clear P2 g1 h0 hq PC HR h9;go_wp2;exact bodyPost_ret (Zr rfl _ _ rfl rfl rfl F.o.1) rfl ⟨_,_,rfl,F.o.2⟩
  ·have eT:QT m (p,r) v l=[]:=by unfold QT;rw[eE,if_neg h2]
   have eR:YN m (p,r) v l=(0,[]):=by unfold YN;rw[eE,if_neg h2]
   rw[eE,eT,eR]
   have hne:(Yg m 0 l != 0)=true:=by simpa using h2
   clear h1 eE eT eR h2 q1 q2 q3 q4 q5;generalize Yg m 0 l=c at *;go_enter func7,ntmps7;go_wp2_with fail;rw[<-HW.o];refine MA.o.mono ?_;rintro e w1 ⟨rfl,o1⟩;have S1:=Qa (SA.o w1 o1);have O1:=Qa o1;clear MA SA o1 p0 p1;go_wp2_with fail;refine S1.o.mono ?_;rintro e w2 ⟨a,b,rfl,_,_,o2⟩;have g1:=(O1.o.same o2).heap gR.o (λf=>f);obtain⟨q0,q1,z0,z1⟩:=Qw g1;have P2:=put2 g1 (.int .u64 0) (.slice none 0 0);have F:=Qa (And.intro (Vr P2.1) ((O0.o.same (O1.o.same o2)).trans P2.2 (λi hi e=>by omega)));clear P2 g1 S1 o2;go_wp2;refine bodyPost_ret (Zr rfl _ _ rfl rfl rfl F.o.1) rfl ⟨_,_,rfl,BU.no F.o.2⟩
 ·have eE:QP m (p,r) v l=Un m (p,r) v L:=by unfold QP;rw[<-HL.o.1,if_neg h1]
  have eT:QT m (p,r) v l=[]:=by unfold QT;rw[eE,if_neg h1]
  have eR:YN m (p,r) v l=(0,[]):=by unfold YN;rw[eE,if_neg h1]
  rw[eE,eT,eR]
  have hne:(Un m (p,r) v L != 0)=true:=by simpa using h1
  clear eE eT eR h1;generalize Un m (p,r) v L=c at *;go_enter func7,ntmps7;go_wp2_with fail;rw[<-HW.o];refine MA.o.mono ?_;rintro e w1 ⟨rfl,o1⟩;have g1:=o1.heap gR.o (λf=>f);obtain⟨q0,q1,z0,z1⟩:=Qw g1;have P2:=put2 g1 (.int .u64 0) (.slice none 0 0);have F:=Qa (And.intro (Vr P2.1) ((O0.o.same o1).trans P2.2 (λi hi e=>by omega)));clear P2 g1 MA o1;go_wp2;refine bodyPost_ret (Zr rfl _ _ rfl rfl rfl F.o.1) rfl ⟨_,_,rfl,BU.no F.o.2⟩
def J3 (vk:Value) (m:MAN) (ls:List (LI)) (cs:List Qk) (w:World):Prop :=
 ∀(W:World) (x vp ve vr a:Value) (vs:List Value) (lo:Nat),N0 w W->Mf W x m vp ve vr->LO W vs ls->W.ownsRow lo 22 1 a ls.length vs ->
  Calls prog 24 #[vk,x,a] W λe w'=>∃c,e=.returned (.tuple #[c,.int .i64 0])∧(∀(W':World) (R:Nat),R<W.heap.size->Only (λk=>k=R) w' W'->Chs W' c cs)∧N0 W w'
theorem Nu {b sg:LI} {m:MAN} {ls:List (LI)} (h8:U8 b) (h:Wh b=.ok (m,sg,ls)):Uv m∧U8 sg∧sg.length<=268435456:=by
 obtain⟨k,hs,h32,hm,hcut⟩:=Nt h;have h0:=LF h8 hs;refine⟨(Mp (h0.take _) hm).1,h0,?_⟩;unfold Qp at hs;rw[if_neg (by omega)] at hs
 split at hs
 ·simp only[Prod.mk.injEq] at hs;rw[<-hs.1];simp
 ·split at hs
  ·simp only[Prod.mk.injEq] at hs;omega
  ·split at hs
   ·simp only[Prod.mk.injEq] at hs;omega
   ·simp only[Prod.mk.injEq] at hs;rw[<-hs.1,Qg];omega
theorem SR (vk vt vb:Value) (k r b sg:LI) (p:Nat) (m:MAN) (ls:List (LI)) (cs:List Qk) (w:World) (bk:Bs .u8 w vk k) (k8:U8 k) (bt:Bs .u8 w vt r) (r8:U8 r) (hb:Bs .u8 w vb b) (b8:U8 b) (hl:b.length<=1000000000000)
 (h32:k.length=32) (hr:r.length=0∨r.length=32) (hx:Wh b=.ok (m,sg,ls)) (l8:R8 ls) (ho:ls.length<=1048576) (hroot:QD ls=m.root) (hT:Y8 k (p,r) m sg=0) (hU:J3 vk m ls cs w) :
 Calls prog 8 #[vk,.agg #[.int .u64 p,vt],vb] w λe w'=>∃c rv,e=.returned (.tuple #[c,.agg #[.int .u64 m.ver,rv],.int .i64 0])∧Chs w' c cs∧Bs .u8 w' rv m.root∧NoCap rv∧N0 w w':=by
 obtain⟨hG,hq,hsl⟩:=Nu b8 hx;obtain⟨ak,ck,ek⟩:=bk.len;obtain⟨h7,ct,et⟩:=bt.len;subst ek et;obtain⟨w0,h3⟩:=EX ((w.alloc (.cells #[.int .u64 p,.slice h7 r.length ct] 25)).alloc (.cells #[.int .u64 0,.slice none 0 0] 25))
 have o0:N0 w w0:=by rw[h3];exact ((Only.refl _ _).alloc _).alloc _
 have gP:Hid (w0.heap[w.heap.size]? = some (.cells #[.int .u64 p,.slice h7 r.length ct] 25 (0,0))):=by show _=_;rw[h3];exact Ub (heap_alloc_new _ _)
 have gR:Hid (w0.heap[w.heap.size+1]? = some (.cells #[.int .u64 0,.slice none 0 0] 25 (0,0))):=by show _=_;rw[h3];exact YS (by simp)
 obtain⟨p0,p1,_,_⟩:=Qw gP.o;have RI:=Qa (Hk (.int .u64 p) h7 r.length ct w0);rw[Qc hr] at RI;have SP:=Qa (λW (o:N0 w W)=>RX vb b W (hb.past o) b8 hl hx);have TR:=Qa (λW (o:N0 w W) (x vp ve vr vs:Value) (hm:Mf W x m vp ve vr) (hv:Bs .u8 W vs sg)=>Lw (.slice ak k.length ck) (.slice h7 r.length ct) x vp ve vr vs k r sg p m W (bk.past o) k8 (bt.past o) r8 hm hG.2.2.1.2 hv hq (by omega));simp only[hT] at TR;have RT:=Qa (λ(W:World) (x:Value) (h:RL W x ls)=>SX x ls W h l8 (by omega));have EQ:=Qa (λ(W:World) (x y:Value) (h1:Bs .u8 W x (QD ls)) (h2:Bs .u8 W y m.root)=>UZ x y (QD ls) m.root W h1 h2 (VO ls) hG.2.2.1.2);simp only[Qc hroot] at EQ;have UA:=Qa hU;have HW:=Qa (And.intro h3 o0)
 have hsz:Hid (w0.heap.size=w.heap.size+2):=by show _=_;rw[h3];simp
 have d1:((k.length:Int) != 32)=false:=by rw[h32];rfl
 obtain⟨M,hM⟩:=EX k.length;obtain⟨n,hn⟩:=EX r.length;rw[<-hM] at d1 TR UA ⊢;rw[<-hn] at RI TR gP HW p1 ⊢;have HL:=Qa (And.intro ho (And.intro (US ls) hroot));clear bk k8 bt r8 hb b8 hl h32 hr hx l8 ho hroot hT hU hG hq hsl h3 o0 hM hn;go_enter func8,ntmps8;go_wp2_with fail;rw[<-HW.o.1];refine RI.o.mono ?_;rintro e w1 ⟨rfl,o1⟩;have hs:=Qa (SP.o w1 (HW.o.2.same o1));have O1:=Qa o1;clear RI SP o1 p0 p1;go_wp2_with fail;refine hs.o.mono ?_;rintro e w2 ⟨x,vp,ve,vr,u,a,rfl,sw⟩;have hf:=sw.mn.mf.form;obtain⟨ap,cp,ep⟩:=sw.mn.mf.prev.len;obtain⟨ae,ce,ee⟩:=sw.mn.mf.es.len;obtain⟨ar,cr,er⟩:=sw.mn.mf.root.len;subst ep ee er hf;obtain⟨vs,lo,own⟩:=sw.ls;obtain⟨aa,ca,ea⟩:=QJ own;subst ea;obtain⟨W3,hg⟩:=EX (w2.alloc (.cells #[.int .u64 m.ver,.slice ap m.prev.length cp,.slice ae m.es.length ce,.slice ar m.root.length cr] 51))
 have o3:N0 w2 W3:=by rw[hg];exact (Only.refl _ _).alloc _
 have h5:N0 w0 W3:=(O1.o.same sw.o).same o3
 have gM:=show W3.heap[w2.heap.size]? = some (.cells #[.int .u64 m.ver,.slice ap m.prev.length cp,.slice ae m.es.length ce,.slice ar m.root.length cr] 51 (0,0)) by rw[hg];exact heap_alloc_new _ _
 have hd:=YP gM;obtain⟨⟨y0,y1,y2,y3⟩,_⟩:=Yd gM;obtain⟨p0,p1,_,_⟩:=Qw (h5.heap gP.o (λf=>f));have hu:=Qa (TR.o W3 (HW.o.2.same h5) _ (.slice ap m.prev.length cp) (.slice ae m.es.length ce) (.slice ar m.root.length cr) u (sw.mn.mf.past o3) (sw.sg.past o3));have H3:=Qa (And.intro h5 (And.intro gM (And.intro (sw.mn.mf.past o3) (And.intro (lo.past o3) (And.intro (o3.own own (λ_ _ f=>f)) sw.mn.nr)))));clear sw lo own o3 h5 gM TR hs O1;subst hg;go_wp2_with fail;refine hu.o.mono ?_;rintro e w4 ⟨rfl,o4⟩;have hh:=o4.heap H3.o.2.1 (λf=>f);clear y0 y1 y2 y3 hd p0 p1;obtain⟨⟨y0,y1,y2,y3⟩,_⟩:=Yd hh;have H4:=Qa (And.intro (H3.o.1.same o4) (And.intro hh (And.intro (H3.o.2.2.1.past o4) (And.intro (H3.o.2.2.2.1.past o4) (And.intro (o4.own H3.o.2.2.2.2.1 (λ_ _ f=>f)) H3.o.2.2.2.2.2)))));have ht:=Qa (λW (o:N0 w4 W)=>((H4.o.2.2.2.1.past o).rl (lo:=w1.heap.size) (by rw[H4.o.2.2.2.1.1];exact o.own H4.o.2.2.2.2.1 (λ_ _ f=>f))).1);have he:=Qa (λW (o:N0 w4 W)=>H4.o.2.2.1.root.past o);have hk:=Qa (λW (o:N0 w4 W)=>RT.o W _ (ht.o W o));clear o4 hh hu H3 RT ht;go_wp2_with fail
 go_region_held3 (λW=>W.cell? ⟨w2.heap.size,3,none⟩=some (.slice ar m.root.length cr)) (go_keep)
  (first
   | (go_at_call 14;refine (hk.o _ ((Only.refl _ _).drew)).mono ?_;rintro e w5 ⟨u5,rfl,h0,o5⟩;have O5:=Qa (((Only.refl (λ_=>False) w4).drew).same o5);have k3:=Ux y3 O5.o;obtain⟨a5,c5,rfl⟩:=QJ h0;have B5:=Qa (show Bs .u8 w5 (.slice a5 32 c5) (QD ls) from Bs.of_own (k:=.u8) (E:=5) (lo:=w4.drew.heap.size) (by rw[HL.o.2.1];exact h0));clear h0 o5 y0 y1 y2 y3 hk)
   | (go_at_call 23;refine (EQ.o w5 _ _ B5.o (he.o w5 O5.o)).mono ?_;rintro e w6 ⟨rfl,rfl⟩;clear B5 EQ)
   | fail)
 have h6:=O5.o.heap H4.o.2.1 (λf=>f);have hd:=YP h6;clear k3;obtain⟨⟨y0,y1,y2,y3⟩,_⟩:=Yd h6;have hp:=Qa (UA.o w5 _ (.slice ap m.prev.length cp) (.slice ae m.es.length ce) (.slice ar m.root.length cr) (.slice aa ls.length ca) vs w1.heap.size (HW.o.2.same (H4.o.1.same O5.o)) (H4.o.2.2.1.past O5.o) (H4.o.2.2.2.1.past O5.o) (O5.o.own H4.o.2.2.2.2.1 (λ_ _ f=>f)));have H5:=Qa (And.intro (H4.o.1.same O5.o) (And.intro h6 (And.intro (he.o w5 O5.o) H4.o.2.2.2.2.2)));clear h6 H4 O5 he UA;go_wp2_with fail;refine hp.o.mono ?_;rintro e w7 ⟨c,rfl,ha,o7⟩;have h9:=H5.o.1.same o7
 have hj:w.heap.size+1<w5.heap.size:=by have:=hsz.o;have:=H5.o.1.size;omega
 obtain⟨ac,lc,cc,rfl⟩:∃a n c',c=.slice a n c':=by
  obtain⟨a,c',e,_⟩:=(ha w7 (w.heap.size+1) hj (Only.refl _ _)).len;exact⟨_,_,_,e⟩
 have h8:=o7.heap H5.o.2.1 (λf=>f);clear hd y0 y1 y2 y3;obtain⟨⟨y0,y1,y2,y3⟩,_⟩:=Yd h8;have h4:=h9.heap gR.o (λf=>f);obtain⟨q0,q1,z0,z1⟩:=Qw h4;have P2:=put2 h4 (.int .u64 m.ver) (.slice ar m.root.length cr)
 have hne:¬w2.heap.size=w.heap.size+1:=by
  intro e;rw[e] at h8;rw[h8] at h4;simp at h4
 have F:=Qa (And.intro (Vr (show ((((w7.setCell ⟨w.heap.size+1,0,none⟩ (.int .u64 m.ver)).setCell ⟨w.heap.size+1,1,none⟩ (.slice ar m.root.length cr)).drew).heap[w.heap.size+1]? = _) from P2.1)) (And.intro (ha _ _ hj P2.2.drew) (And.intro (((H5.o.2.2.1.past o7).offB (g:=w.heap.size+1) (T:=25) (cs:=[.int .u64 0,.slice none 0 0]) h4 (λy hy x=>by simp at hy;rcases hy with rfl | rfl <;> simp) P2.2.drew)) (And.intro H5.o.2.2.2 ((HW.o.2.same h9).trans P2.2.drew (λi hi e=>by omega))))));clear ha o7 h9 hp h8 h4 P2 H5 hj;go_wp2;go_region;go_wp2;exact bodyPost_ret (Zr rfl _ _ rfl rfl rfl F.o.1) rfl ⟨_,_,rfl,F.o.2⟩
theorem Jk (vk vt vb:Value) (k r b sg:LI) (p:Nat) (m:MAN) (ls:List (LI)) (w:World) (bk:Bs .u8 w vk k) (k8:U8 k) (bt:Bs .u8 w vt r) (r8:U8 r) (hb:Bs .u8 w vb b) (b8:U8 b) (hl:b.length<=1000000000000)
 (h32:k.length=32) (hr:r.length=0∨r.length=32) (hx:Wh b=.ok (m,sg,ls)) {c:Int} (hT:Y8 k (p,r) m sg=c) (hc:c≠0) :
 Calls prog 8 #[vk,.agg #[.int .u64 p,vt],vb] w λe w'=>e=.returned (.tuple #[NIL,.agg #[.int .u64 0,NIL],.int .i64 c])∧N0 w w':=by
 obtain⟨hG,h6,hsl⟩:=Nu b8 hx;obtain⟨ak,ck,ek⟩:=bk.len;obtain⟨h2,ct,et⟩:=bt.len;subst ek et;obtain⟨w0,h0⟩:=EX ((w.alloc (.cells #[.int .u64 p,.slice h2 r.length ct] 25)).alloc (.cells #[.int .u64 0,.slice none 0 0] 25))
 have o0:N0 w w0:=by rw[h0];exact ((Only.refl _ _).alloc _).alloc _
 have gP:Hid (w0.heap[w.heap.size]? = some (.cells #[.int .u64 p,.slice h2 r.length ct] 25 (0,0))):=by show _=_;rw[h0];exact Ub (heap_alloc_new _ _)
 have gR:Hid (w0.heap[w.heap.size+1]? = some (.cells #[.int .u64 0,.slice none 0 0] 25 (0,0))):=by show _=_;rw[h0];exact YS (by simp)
 obtain⟨p0,p1,_,_⟩:=Qw gP.o;have RI:=Qa (Hk (.int .u64 p) h2 r.length ct w0);rw[Qc hr] at RI;have SP:=Qa (λW (o:N0 w W)=>RX vb b W (hb.past o) b8 hl hx);have TR:=Qa (λW (o:N0 w W) (x vp ve vr vs:Value) (hm:Mf W x m vp ve vr) (hv:Bs .u8 W vs sg)=>Lw (.slice ak k.length ck) (.slice h2 r.length ct) x vp ve vr vs k r sg p m W (bk.past o) k8 (bt.past o) r8 hm hG.2.2.1.2 hv h6 (by omega));simp only[hT] at TR
 have hne:(c != 0)=true:=by simpa using hc
 have HW:=Qa (And.intro h0 o0)
 have hsz:Hid (w0.heap.size=w.heap.size+2):=by show _=_;rw[h0];simp
 have d1:((k.length:Int) != 32)=false:=by rw[h32];rfl
 obtain⟨M,hM⟩:=EX k.length;obtain⟨n,hn⟩:=EX r.length;rw[<-hM] at d1 TR ⊢;rw[<-hn] at RI TR gP HW p1 ⊢;clear bk k8 bt r8 hb b8 hl h32 hr hx hT hc hG h6 hsl h0 o0 hM hn;go_enter func8,ntmps8;go_wp2_with fail;rw[<-HW.o.1];refine RI.o.mono ?_;rintro e w1 ⟨rfl,o1⟩;have h7:=Qa (SP.o w1 (HW.o.2.same o1));have O1:=Qa o1;clear RI SP o1 p0 p1;go_wp2_with fail;refine h7.o.mono ?_;rintro e w2 ⟨x,vp,ve,vr,u,a,rfl,sw⟩;have hf:=sw.mn.mf.form;obtain⟨ap,cp,ep⟩:=sw.mn.mf.prev.len;obtain⟨ae,ce,ee⟩:=sw.mn.mf.es.len;obtain⟨ar,cr,er⟩:=sw.mn.mf.root.len;subst ep ee er hf;obtain⟨vs,lo,own⟩:=sw.ls;obtain⟨aa,ca,ea⟩:=QJ own;subst ea;obtain⟨W3,h5⟩:=EX (w2.alloc (.cells #[.int .u64 m.ver,.slice ap m.prev.length cp,.slice ae m.es.length ce,.slice ar m.root.length cr] 51))
 have o3:N0 w2 W3:=by rw[h5];exact (Only.refl _ _).alloc _
 have h1:N0 w0 W3:=(O1.o.same sw.o).same o3
 have gM:=show W3.heap[w2.heap.size]? = some (.cells #[.int .u64 m.ver,.slice ap m.prev.length cp,.slice ae m.es.length ce,.slice ar m.root.length cr] 51 (0,0)) by rw[h5];exact heap_alloc_new _ _
 have hld:=YP gM;obtain⟨⟨y0,y1,y2,y3⟩,_⟩:=Yd gM;obtain⟨p0,p1,_,_⟩:=Qw (h1.heap gP.o (λf=>f));have h8:=Qa (TR.o W3 (HW.o.2.same h1) _ (.slice ap m.prev.length cp) (.slice ae m.es.length ce) (.slice ar m.root.length cr) u (sw.mn.mf.past o3) (sw.sg.past o3));have H3:=Qa (And.intro h1 (And.intro gM (And.intro (sw.mn.mf.past o3) (And.intro (lo.past o3) (And.intro (o3.own own (λ_ _ f=>f)) sw.mn.nr)))));clear sw lo own o3 h1 gM TR h7 O1;subst h5;go_wp2_with fail;refine h8.o.mono ?_;rintro e w4 ⟨rfl,o4⟩;have h3:=H3.o.1.same o4;have h4:=h3.heap gR.o (λf=>f);obtain⟨q0,q1,z0,z1⟩:=Qw h4;have P2:=put2 h4 (.int .u64 0) (.slice none 0 0);have F:=Qa (And.intro (Vr P2.1) ((HW.o.2.same h3).trans P2.2 (λi hi e=>by omega)));clear o4 h8 H3 h3 h4 P2 y0 y1 y2 y3 hld p0 p1;go_wp2;exact bodyPost_ret (Zr rfl _ _ rfl rfl rfl F.o.1) rfl ⟨rfl,F.o.2⟩
theorem Tryz.infoCk:(prog.info? 42).map (λi=>(i.zero,i.size,i.bytes))=some (some (.agg #[.string ⟨#[]⟩,.slice none 0 0]),2,40):=by kernel_rfl
theorem gT (vk:Value) (m:MAN) (w:World):J3 vk m [] [] w:=by
 intro W x vp ve vr a vs lo _ hm hL own;have hf:=hm.form;obtain⟨ap,cp,ep⟩:=hm.prev.len;obtain⟨ae,ce,ee⟩:=hm.es.len;obtain⟨ar,cr,er⟩:=hm.root.len;obtain⟨aa,ca,ea⟩:=QJ own;subst ep ee er hf ea;obtain⟨W0,h3⟩:=EX (W.alloc (.cells #[.int .u64 m.ver,.slice ap m.prev.length cp,.slice ae m.es.length ce,.slice ar m.root.length cr] 51));obtain⟨i0,hi,hz0,hz1,hz2⟩:=info_parts Tryz.infoCk;obtain⟨wm,hmk,h1,h2⟩:=run_make_full (P:=prog) W0 W0.heap.size 26 42 i0 (.agg #[.string ⟨#[]⟩,.slice none 0 0]) 2 underlying26 hi hz0 hz1 .i64 .i64 0 (by rw[hz2];omega) (by unfold maxLen;omega) (Nat.le_refl _)
 have F:=Qa (show N0 W wm from by
  have h0:N0 W W0:=by rw[h3];exact (Only.refl _ _).alloc _
  exact h0.grown h2 (λk _ e=>by cases e))
 rw[show ((0:Nat):Int)=0 from rfl] at hmk;clear hm hL own h1 h2;subst h3;go_enter func24,ntmps24;go_wp2
 go_loopw [18] (λi wr=>i=.int .i64 0∧wr=wm) (λi _=>0)
 case atStart=>exact⟨rfl,rfl⟩
 case round =>
  obtain⟨rfl,rfl⟩:=hrel;go_wp2;go_ret2;exact⟨_,rfl,λW' R _ _=>⟨_,_,rfl,Nat.le_refl _,λh=>absurd rfl h⟩,F.o⟩
end Go.Proofs.YteciafpneamfaaaGreatDoor
