import Derived.Test.YtoflhbghdlaeaaaGreatDoorG37
namespace Go.Proofs.YtoflhbghdlaeaaaGreatDoor
set_option maxHeartbeats 4000000
set_option maxRecDepth 100000
open Go.RowKit _root_.Go.Proofs.Tryz
theorem EI {P:Program} {fn:Func} {a b c d:Tmp} {ty:TypeId} (h:fn.results=#[.cell a ty,.tmp b,.tmp c,.tmp d]) (tmps:Array Value) (w:World) {ad:Addr} {v1 v2 v3 v4:Value}
 (h1:tmps.getD a undef=.pointer (some ad)) (h2:tmps.getD b undef=v2) (h3:tmps.getD c undef=v3) (h4:tmps.getD d undef=v4) (hl:(loadVar ty ad).run P w=.ok v1 w) :
 (results fn tmps).run P w=.ok (.tuple #[v1,v2,v3,v4]) w:=by
 have h1':tmps[a]?.getD undef=.pointer (some ad):=by simpa using h1
 have h2':tmps[b]?.getD undef=v2:=by simpa using h2
 have h3':tmps[c]?.getD undef=v3:=by simpa using h3
 have h4':tmps[d]?.getD undef=v4:=by simpa using h4
 simp[results,h,h1',h2',h3',h4',asAddr,hl]
theorem ZY {b sg:LI} {m:MAN} {ls:List (LI)} (h:UQ b=.ok (m,sg,ls)) :
 ∃k,Qq 268435456 b=(sg,k,0)∧32<=sg.length∧MDEC (sg.take (sg.length - 32))=.ok m∧CUT m.es (b.drop k)=some (ls,[]):=by
 obtain⟨h0,k,c,hs⟩:∃x k c,Qq 268435456 b=(x,k,c):=⟨_,_,_,rfl⟩;unfold UQ at h;rw[hs] at h ⊢;simp only at h
 by_cases h1:c=0
 ·rw[if_neg (by simpa using h1)] at h
  by_cases h2:h0.length<32
  ·rw[if_pos h2] at h;cases h
  ·rw[if_neg h2] at h
   cases h3:MDEC (h0.take (h0.length - 32)) with
   | error e=>rw[h3] at h;cases h
   | ok m' =>
    rw[h3] at h;simp only at h
    cases h4:CUT m'.es (b.drop k) with
    | none=>rw[h4] at h;cases h
    | some x =>
     rw[h4] at h;simp only at h
     by_cases h5:x.2=[]
     ·rw[if_pos h5] at h
      simp only[Except.ok.injEq,Prod.mk.injEq] at h;obtain⟨rfl,rfl,rfl⟩:=h;exact⟨k,by rw[h1],by omega,h3,by rw[<-h5,h4]⟩
     ·rw[if_neg h5] at h;cases h
 ·rw[if_pos h1] at h;cases h
theorem Xn {n:Int} {b sg:LI} {k:Nat} {c:Int} (h8:U8 b) (h:Qq n b=(sg,k,c)):U8 sg:=by
 have nl:U8 []:=λy hy=>by cases hy
 unfold Qq at h
 split at h
 ·simp only[Prod.mk.injEq] at h;rw[<-h.1];exact nl
 ·split at h
  ·simp only[Prod.mk.injEq] at h;rw[<-h.1];exact nl
  ·split at h
   ·simp only[Prod.mk.injEq] at h;rw[<-h.1];exact nl
   ·split at h
    ·simp only[Prod.mk.injEq] at h;rw[<-h.1];exact nl
    ·simp only[Prod.mk.injEq] at h;rw[<-h.1];exact (h8.drop _).take _
structure SPW (w w':World) (x vp ve vr u a:Value) (m:MAN) (sg:LI) (ls:List (LI)):Prop where
 mn:Mnw w w' x m vp ve vr
 sg:Bs .u8 w' u sg
 nu:NoCap u
 ls:∃vs,LO w' vs ls∧w'.ownsRow w.heap.size 23 1 a ls.length vs
 o:N0 w w'
theorem Rr (vb:Value) (b:LI) (w:World) (hb:Bs .u8 w vb b) (h8:U8 b) (hl:b.length<=1000000000000) {m:MAN} {sg:LI} {ls:List (LI)} (hx:UQ b=.ok (m,sg,ls)) :
 Calls prog 23 #[vb] w λe w'=>∃x vp ve vr u a,e=.returned (.tuple #[x,u,a,.int .i64 0])∧SPW w w' x vp ve vr u a m sg ls:=by
 obtain⟨k,hs,h9,hm,h1⟩:=ZY hx;have h3:=Xn h8 hs;have hG:=(JG (h3.take _) hm).1;obtain⟨w0,h2⟩:=EX (w.alloc (.cells #[.int .u64 0,.slice none 0 0,.slice none 0 0,.slice none 0 0] 37))
 have o0:N0 w w0:=by rw[h2];exact (Only.refl _ _).alloc _
 have g0:Hid (w0.heap[w.heap.size]? = some (.cells #[.int .u64 0,.slice none 0 0,.slice none 0 0,.slice none 0 0] 37 (0,0))):=by show _=_;rw[h2];exact heap_alloc_new _ _
 have NW:=Qa (Xy vb b w0 (hb.past o0) h8 hl);have HW:=Qa (And.intro h2 (And.intro o0 (show w0.heap.size=w.heap.size+1 by rw[h2];simp)));have HX:=Qa (And.intro hs (And.intro h9 (And.intro hm (And.intro h1 (And.intro h3 hG)))));clear hb h8 hl hx hs h9 hm h1 h3 hG h2 o0;go_enter func23,ntmps23;go_wp2_with fail;rw[<-HW.o.1];refine NW.o.mono ?_;rintro e w1 ⟨R,v',rfl,cu,o1,r0,r1,hv⟩;have CM:=Qa (yj w1 (λq hq=>(hv q hq).2) cu HX.o.1 HX.o.2.1 HX.o.2.2.1 HX.o.2.2.2.2.1);have H1:=Qa (And.intro o1 (And.intro r0 (And.intro r1 hv)));clear cu o1 r0 r1 hv NW;go_wp2_with fail;refine CM.o.mono ?_;rintro e w2 ⟨x,vp,ve,vr,u,rfl,mn,bu,nu,lu,⟨v2,cu,h7⟩,o2⟩;have hf:=mn.mf.form;obtain⟨ap,cp,ep⟩:=mn.mf.prev.len;obtain⟨ae,ce,ee⟩:=mn.mf.es.len;obtain⟨ar,cr,er⟩:=mn.mf.root.len;obtain⟨au,cau,eu⟩:=bu.len;subst ep ee er hf eu;obtain⟨W3,h4⟩:=EX (w2.alloc (.cells #[.int .u64 m.ver,.slice ap m.prev.length cp,.slice ae m.es.length ce,.slice ar m.root.length cr] 37))
 have o3:N0 w2 W3:=by rw[h4];exact (Only.refl _ _).alloc _
 have gb:=show W3.heap[w2.heap.size]? = some (.cells #[.int .u64 m.ver,.slice ap m.prev.length cp,.slice ae m.es.length ce,.slice ar m.root.length cr] 37 (0,0)) by rw[h4];exact heap_alloc_new _ _
 obtain⟨⟨y0,y1,y2,y3⟩,_⟩:=QY gb;have CC:=Qa (Dn (t:=[]) m.es ls (.slice ae m.es.length ce) W3 (cu.keep o3 (λf=>f) (λ_ _ f=>f)) (λq hq=>by rw[h7] at hq;have:=(H1.o.2.2.2 q hq).2;have:=o2.size;have:=o3.size;omega) (mn.mf.es.past o3) (λq hq e=>by have:=mn.be q hq;have:=H1.o.2.2.1;omega) HX.o.2.2.2.1 (λe he=>(HX.o.2.2.2.2.2.2.2.2.2 e he).2) HX.o.2.2.2.2.2.2.2.2.1);have gz:=o3.heap (o2.heap (H1.o.1.heap g0.o (λf=>f)) (λe=>by have:=H1.o.2.1;have:=HW.o.2.2;omega)) (λf=>f);have H3:=Qa (And.intro (mn.past o3) (And.intro (bu.past o3) (And.intro nu (And.intro lu (And.intro (o2.trans (T:=λ_=>False) o3 (λ_ _ f=>f.elim)) (And.intro gb (And.intro gz (show R<w2.heap.size by have:=H1.o.2.2.1;have:=o2.size;omega))))))));clear mn bu nu lu cu h7 o2 o3 gb gz CM;subst h4;go_wp2_with fail;refine CC.o.mono ?_;rintro e w4 ⟨a,rfl,hls,⟨v3,h6,hv3⟩,o4⟩;have EN:=Qa (Le h6);rw[show endV []=0 from rfl] at EN;obtain⟨vs,lo,own⟩:=hls;obtain⟨a4,c4,ea4⟩:=Qm own;subst ea4;have h5:=o4.heap H3.o.2.2.2.2.2.1 (λe=>by have:=H3.o.2.2.2.2.2.2.2;omega);have hld:=Yt h5;obtain⟨⟨x0,x1,x2,x3⟩,_⟩:=QY h5;have h0:=o4.heap H3.o.2.2.2.2.2.2.1 (λe=>by have:=H1.o.2.1;have:=HW.o.2.2;omega);obtain⟨⟨z0,z1,z2,z3⟩,f0,f1,f2,f3⟩:=QY h0;have P4:=put4 h0 (.int .u64 m.ver) (.slice ap m.prev.length cp) (.slice ae m.es.length ce) (.slice ar m.root.length cr)
 have F:=Qa (And.intro (Yt P4.1) (show SPW w _ (.agg #[.int .u64 m.ver,.slice ap m.prev.length cp,.slice ae m.es.length ce,.slice ar m.root.length cr]) (.slice ap m.prev.length cp) (.slice ae m.es.length ce) (.slice ar m.root.length cr) (.slice au sg.length cau) (.slice a4 ls.length c4) m sg ls from by
  have q1:=H1.o.2.1;have q2:=HW.o.2.2;have q3:=H1.o.1.size;have q4:=H3.o.2.2.2.2.1.size;refine⟨((H3.o.1.keep o4 H1.o.2.2.1).keep P4.2 (by omega)).lowS (by omega),(H3.o.2.1.keep o4 (λq hq e=>?_)).keep P4.2 (λq hq e=>?_),H3.o.2.2.1,⟨vs,lo.ne P4.2 h0 (by decide),Qu (Wo P4.2 h0 (by decide) own) (by omega)⟩,?_⟩
  ·have:=H3.o.2.2.2.1 q hq;have:=H1.o.2.2.1;omega
  ·have:=H3.o.2.2.2.1 q hq;omega
  ·exact ((HW.o.2.1.trans H1.o.1 (λ_ _ f=>f.elim)).trans (H3.o.2.2.2.2.1.trans o4 (λ_ _ e=>e)) (λi hi e=>by omega)).trans P4.2 (λi hi e=>by omega)))
 clear lo own h5 h0 P4 o4 CC H3 H1 y0 y1 y2 y3;go_wp2_with fail;refine EN.o.mono ?_;rintro e w5 ⟨rfl,rfl⟩;clear EN h6;go_wp2;exact bodyPost_ret (EI rfl _ _ rfl rfl rfl rfl F.o.1) rfl ⟨_,_,_,_,_,_,rfl,F.o.2⟩
def VZ (k:LI) (s:Yx) (m:MAN) (sg:LI):Int :=
 if UD k sg=0 then (if s.2.length=0 then 0 else if m.ver<s.1 then 6 else if m.ver=s.1∧m.root≠s.2 then 7 else 0) else 5
theorem Iz (vk vt x vp ve vr vs:Value) (k r sg:LI) (p:Nat) (m:MAN) (w:World) (bk:Bs .u8 w vk k) (k8:U8 k) (bt:Bs .u8 w vt r) (r8:U8 r) (hm:Mf w x m vp ve vr) (m8:U8 m.root) (bs:Bs .u8 w vs sg) (s8:U8 sg) (hl:sg.length<=10000000000) :
 Calls prog 40 #[vk,.agg #[.int .u64 p,vt],x,vs] w λe w'=>e=.returned (.int .i64 (VZ k (p,r) m sg))∧N0 w w':=by
 have hf:=hm.form;obtain⟨ap,cp,ep⟩:=hm.prev.len;obtain⟨ae,ce,ee⟩:=hm.es.len;obtain⟨ar,cr,er⟩:=hm.root.len;obtain⟨hd,ct,et⟩:=bt.len;subst ep ee er hf et;obtain⟨w0,hg⟩:=EX ((w.alloc (.cells #[.int .u64 p,.slice hd r.length ct] 26)).alloc (.cells #[.int .u64 m.ver,.slice ap m.prev.length cp,.slice ae m.es.length ce,.slice ar m.root.length cr] 37))
 have o0:N0 w w0:=by rw[hg];exact ((Only.refl _ _).alloc _).alloc _
 have gP:w0.heap[w.heap.size]? = some (.cells #[.int .u64 p,.slice hd r.length ct] 26 (0,0)):=by rw[hg];exact Yr (heap_alloc_new _ _)
 have gM:w0.heap[w.heap.size+1]? = some (.cells #[.int .u64 m.ver,.slice ap m.prev.length cp,.slice ae m.es.length ce,.slice ar m.root.length cr] 37 (0,0)):=by rw[hg];exact YV (by simp)
 have CK:=Qa (DO vk vs k sg w0 (bk.past o0) k8 (bs.past o0) s8 hl);have TS:=Qa (λW=>Zp (.int .u64 p) hd r.length ct W);have EQ:=Qa (λW (o:N0 w W)=>NL (.slice ar m.root.length cr) (.slice hd r.length ct) m.root r W (hm.root.past o) (bt.past o) m8 r8);have HW:=Qa (And.intro hg (And.intro o0 (And.intro gP gM)));obtain⟨e,he⟩:=EX (UD k sg)
 have hT:VZ k (p,r) m sg=if e=0 then (if r.length=0 then 0 else if m.ver<p then 6 else if m.ver=p∧m.root≠r then 7 else 0) else 5:=by rw[he];rfl
 rw[hT];rw[<-he] at CK;obtain⟨n,hn⟩:=EX r.length;obtain⟨q,hq⟩:=EX m.root.length;rw[<-hn] at HW TS EQ ⊢;rw[<-hq] at HW EQ ⊢;clear bk k8 bt r8 hm m8 bs s8 hl hg o0 gP gM he hT hn hq
 by_cases h1:e=0
 ·subst h1
  rw[if_pos rfl]
  by_cases h2:n=0
  ·subst h2
   rw[if_pos rfl];simp only[show decide (0<0)=false from rfl] at TS;go_enter func40,ntmps40;go_wp2_with fail;rw[<-HW.o.1];refine CK.o.mono ?_;rintro e w1 ⟨x1,ho,hk,hj,rfl,mn,o1⟩;have hf:=mn.mf.form;obtain⟨h3,h5,ep⟩:=mn.mf.prev.len;obtain⟨h4,h9,ee⟩:=mn.mf.es.len;obtain⟨h7,h6,er⟩:=mn.mf.root.len;subst ep ee er hf;obtain⟨W2,h0⟩:=EX (w1.alloc (.cells #[.int .u64 (Yp k sg).ver,.slice h3 (Yp k sg).prev.length h5,.slice h4 (Yp k sg).es.length h9,.slice h7 (Yp k sg).root.length h6] 37))
   have o2:N0 w0 W2:=by rw[h0];exact o1.alloc _
   obtain⟨c0,c1,_,_⟩:=QE (o2.heap HW.o.2.2.1 (λf=>f));have h8:=Qa (TS.o W2);have O2:=Qa (HW.o.2.1.same o2);clear mn o1 o2 TS CK EQ;subst h0;go_wp2_with fail;refine h8.o.mono ?_;rintro e w3 ⟨rfl,o3⟩;have F:=Qa (O2.o.same o3);clear h8 o3 O2;go_wp2;go_ret;exact⟨rfl,F.o⟩
  ·rw[if_neg h2]
   simp only[Qe (by omega:0<n)] at TS;obtain⟨t,ht⟩:=EX (decide (m.root=r));simp only[<-ht] at EQ;have d1:decide ((m.ver:Int)<(p:Int))=decide (m.ver<p):=decide_eq_decide.2 (by omega)
   have d2:((m.ver:Int) == (p:Int))=decide (m.ver=p):=by
    by_cases h:m.ver=p
    ·rw[Qe h,h];simp
    ·rw[Qb h,beq_eq_false_iff_ne];omega
   obtain⟨a,ha⟩:=EX (decide (m.ver<p));obtain⟨b,hb⟩:=EX (decide (m.ver=p))
   have hR:(if m.ver<p then (6:Int) else if m.ver=p∧m.root≠r then 7 else 0)=if a=true then 6 else if b=true∧t=false then 7 else 0:=by rw[ha,hb,ht];simp
   rw[hR]
   have hh:¬(a=true∧b=true):=by rw[ha,hb];simp;omega
   have ha':=ha.symm;rw[<-ha] at d1;rw[<-hb] at d2;clear ha hb ht hR h2
   have W1:Hid (∀(v:Int),(if a=true then 6 else if b=true∧t=false then 7 else 0)=v->Calls prog 40 #[vk,.agg #[.int .u64 p,.slice hd n ct],.agg #[.int .u64 m.ver,.slice ap m.prev.length cp,.slice ae m.es.length ce,.slice ar q cr],vs] w λe w'=>e=.returned (.int .i64 v)∧N0 w w'):=by
    intro v hv
    cases ha2:a <;> cases hb2:b <;> cases ht2:t
    all_goals (subst ha2 hb2 ht2)
    all_goals (first|(exact absurd ⟨rfl,rfl⟩ hh) | skip)
    all_goals (simp at hv)
    all_goals (
     subst hv;clear hh;go_enter func40,ntmps40;go_wp2_with fail;rw[<-HW.o.1];refine CK.o.mono ?_;rintro e w1 ⟨x1,ho,hk,hj,rfl,mn,o1⟩;have hf:=mn.mf.form;obtain⟨h3,h5,ep⟩:=mn.mf.prev.len;obtain⟨h4,h9,ee⟩:=mn.mf.es.len;obtain⟨h7,h6,er⟩:=mn.mf.root.len;subst ep ee er hf;obtain⟨W2,h0⟩:=EX (w1.alloc (.cells #[.int .u64 (Yp k sg).ver,.slice h3 (Yp k sg).prev.length h5,.slice h4 (Yp k sg).es.length h9,.slice h7 (Yp k sg).root.length h6] 37))
     have o2:N0 w0 W2:=by rw[h0];exact o1.alloc _
     obtain⟨c0,c1,_,_⟩:=QE (o2.heap HW.o.2.2.1 (λf=>f));have h8:=Qa (TS.o W2);have O2:=Qa (And.intro (HW.o.2.1.same o2) o2);clear mn o1 o2 TS CK;subst h0;go_wp2_with fail;refine h8.o.mono ?_;rintro e w3 ⟨rfl,o3⟩;clear c0 c1;obtain⟨c0,c1,_,_⟩:=QE ((O2.o.2.same o3).heap HW.o.2.2.1 (λf=>f));obtain⟨⟨m0,m1,m2,m3⟩,_⟩:=QY ((O2.o.2.same o3).heap HW.o.2.2.2 (λf=>f));have EQ1:=Qa (EQ.o w3 (O2.o.1.same o3));have F:=Qa (O2.o.1.same o3);clear h8 o3 O2 EQ;go_wp2_with (first|(go_at_call 41;refine EQ1.o.mono ?_;rintro e w4 ⟨rfl,rfl⟩))
     all_goals (
      go_ret
      exact⟨rfl,F.o⟩))
   exact W1.o _ rfl
 ·rw[if_neg h1]
  have hne:(e != 0)=true:=by simpa using h1
  clear h1 TS EQ;go_enter func40,ntmps40;go_wp2_with fail;rw[<-HW.o.1];refine CK.o.mono ?_;rintro e w1 ⟨x1,ho,hk,hj,rfl,mn,o1⟩;have hf:=mn.mf.form;obtain⟨h3,h5,ep⟩:=mn.mf.prev.len;obtain⟨h4,h9,ee⟩:=mn.mf.es.len;obtain⟨h7,h6,er⟩:=mn.mf.root.len;subst ep ee er hf;have F:=Qa (HW.o.2.1.same (o1.alloc (.cells #[.int .u64 (Yp k sg).ver,.slice h3 (Yp k sg).prev.length h5,.slice h4 (Yp k sg).es.length h9,.slice h7 (Yp k sg).root.length h6] 37)));clear mn o1 CK;go_wp2;go_ret;exact⟨rfl,F.o⟩
theorem vL (m:LI) (p:Nat) (r:LI) (v n:Nat):(if m.length=32∧(r.length=0∨r.length=32)∧v≠18446744073709551615 then (if 0<r.length∧v<=p then (6:Int) else if 1048576<n then 4 else 0) else 1)=Y4 m (p,r) v n:=rfl
structure BU (w w':World) (u ru:Value) (t r:LI):Prop where
 t:w'.ownsRow w.heap.size 5 1 u t.length (bl t)
 r:Bs .u8 w' ru r
 nr:NoCap ru
 lo:∀k,ru.ownBlock=some k->w.heap.size<=k
 o:N0 w w'
theorem ED.all {w:World} {N n:Nat} {es:Nat->LI × Int} (h:ED w N n n es):Ens w (.slice (some ⟨N,0,none⟩) n n) ((List.range n).map es):=by
 unfold ED at h;rw[Nat.sub_self,List.replicate_zero,List.append_nil] at h;exact Ens.of_own (lo:=N) (E:=88) (by simpa using h)
theorem BU.no {w w':World} (o:N0 w w'):BU w w' NIL NIL [] []:=⟨World.ownsRow_nil _ _ _ _,Bs.nil _ _,NoCap.nil,(λk hk=>by cases hk),o⟩
theorem Rp (vm vr vl:Value) (m r:LI) (p v:Nat) (l:List Qk) (w:World) (bm:Bs .u8 w vm m) (m8:U8 m) (br:Bs .u8 w vr r) (nr:NoCap vr) (r8:U8 r) (hc:Chs w vl l) (hg:CL l) (hl:l.length<=100) (hv:v<18446744073709551616) (hT:Tab w) :
 Calls prog 5 #[vm,.agg #[.int .u64 p,vr],.int .u64 v,vl] w λe w'=>∃u ru,e=.returned (.tuple #[u,.agg #[.int .u64 (Uy m (p,r) v l).1,ru],.int .i64 (Ym m (p,r) v l)])∧BU w w' u ru (YB m (p,r) v l) (Uy m (p,r) v l).2:=by
 obtain⟨ar,cr,rfl⟩:=br.len;obtain⟨am,cm,rfl⟩:=bm.len;obtain⟨al,cl,rfl,_⟩:=hc.len;obtain⟨w0,h8⟩:=EX ((w.alloc (.cells #[.int .u64 p,.slice ar r.length cr] 26)).alloc (.cells #[.int .u64 0,.slice none 0 0] 26))
 have o0:N0 w w0:=by rw[h8];exact ((Only.refl _ _).alloc _).alloc _
 have gP:Hid (w0.heap[w.heap.size]? = some (.cells #[.int .u64 p,.slice ar r.length cr] 26 (0,0))):=by
  show _=_
  rw[h8];exact Yr (heap_alloc_new _ _)
 have gR:Hid (w0.heap[w.heap.size+1]? = some (.cells #[.int .u64 0,.slice none 0 0] 26 (0,0))):=by
  show _=_
  rw[h8];exact YV (by simp)
 obtain⟨p0,p1,_,_⟩:=QE gP.o;have MA:=Qa (AW am m.length cm p ar r.length cr v l.length w0);rw[vL] at MA;have HB:=Qa (And.intro (bm.past o0) (And.intro (br.past o0) (And.intro (hc.past o0) (hT.past o0))));have HI:=Qa (And.intro m8 (And.intro nr (And.intro r8 (And.intro hg (And.intro hl hv)))));have HW:=Qa h8;have O0:=Qa o0
 have hd:Hid (w0.heap.size=w.heap.size+2):=by show _=_;rw[h8];simp
 have R0:Hid (w.heap.size<=w.heap.size+1):=by show _<=_;omega
 obtain⟨L,hL⟩:=EX l.length;obtain⟨M,hM⟩:=EX m.length;obtain⟨rl,ha⟩:=EX r.length;rw[<-hL,<-hM,<-ha] at MA HB;rw[<-ha] at gP HW p1 HI;rw[<-hL,<-hM,<-ha];have HL:=Qa (And.intro hL (And.intro hM ha));clear h8 o0 bm m8 br nr r8 hc hg hl hv hT hL hM ha
 by_cases h1:Y4 m (p,r) v L=0
 ·rw[h1] at MA
  have SA:=Qa (λW (o:N0 w0 W)=>EU (.slice am M cm) (.slice al L cl) m v l W (HB.o.1.past o) HI.o.1 (HB.o.2.2.1.past o) HI.o.2.2.2.1 (by have:=HI.o.2.2.2.2.1;omega) (HB.o.2.2.2.past o))
  have eE:Ym m (p,r) v l=QZ m 0 l:=by unfold Ym;rw[<-HL.o.1,if_pos h1]
  obtain⟨q1,q2,q3,q4,q5⟩:=Jg h1
  by_cases h2:QZ m 0 l=0
  ·have eA:Ym m (p,r) v l=0:=by rw[eE,h2]
   have eT:YB m (p,r) v l=blk (QJ m (p,r) v l)++(Q8 m v l l.length).flatten:=by unfold YB;rw[if_pos eA]
   have eR:Uy m (p,r) v l=(v,QM (Q8 m v l l.length)):=by unfold Uy;rw[if_pos eA]
   have hf:∀c∈l,CG c:=λc hc=>(HI.o.2.2.2.1 c hc).1
   have hr:Uh (QP m r v l):=V0 (s:=(p,r)) HI.o.2.2.2.2.2 HI.o.2.2.1 hf eA;have hq:Mok (QP m r v l):=qj (s:=(p,r)) HI.o.2.2.2.2.2 HI.o.2.2.1 hf
   have k2:(QP m r v l).es.length<=100:=by show (UH m l l.length).length<=100;rw[VE];exact HI.o.2.2.2.2.1
   have hp:Wj m (QP m r v l)=0:=by unfold Wj;rw[if_pos q1];exact (JI hq).2 hr
   have eS:UT m (QP m r v l)=QJ m (p,r) v l:=by unfold UT;rw[if_pos hp];rfl
   have hu:(QJ m (p,r) v l).length<=10032:=by have:=Nr hr k2;unfold QJ;rw[Qc,Y3];show (MENC (QP m r v l)).length+32<=_;omega
   have RT:=Qa (λ(W:World) (x:Value) (h:RL W x (Q8 m v l l.length))=>Ny x (Q8 m v l l.length) W h (X7 hf _) (by rw[VQ];have:=HI.o.2.2.2.2.1;omega));have PV:=Qa (λW (o:N0 w0 W)=>Mi (.int .u64 p) (.slice ar rl cr) r W (HB.o.2.1.past o) HI.o.2.1);have SG:=Qa (λW (o:N0 w0 W) (x vp ve vr:Value) (h:Mf W x (QP m r v l) vp ve vr) (np:NoCap vp) (nr:NoCap vr)=>Ex (.slice am M cm) x vp ve vr m (QP m r v l) W (HB.o.1.past o) HI.o.1 h hq np nr (by omega));simp only[hp,eS] at SG;have BK:=Qa (λ(W:World) (x:Value) (h:Bs .u8 W x (QJ m (p,r) v l)) (n:NoCap x)=>Wb x (QJ m (p,r) v l) W h n (by omega));have HG:Hid ((QJ m (p,r) v l).length<=10032∧(blk (QJ m (p,r) v l)).length<=20000∧0<(blk (QJ m (p,r) v l)).length):=⟨hu,by have:=Ut (QJ m (p,r) v l) (by omega);omega,by unfold blk;rw[Qc];have:=Vb (QJ m (p,r) v l).length;omega⟩;rw[eA,eT,eR];rw[h2] at SA;have hx:=Qa h2;have HQ2:=Qa q2;have eRT:(QP m r v l).root=QM (Q8 m v l l.length):=rfl;have eVR:(QP m r v l).ver=v:=rfl;clear h1 h2 eE eA eT eR hr hq k2 hp eS hu q1 q2 q3 q4 q5 hf;go_enter func5,ntmps5;go_wp2_with fail;rw[<-HW.o];refine MA.o.mono ?_;rintro e w1 ⟨rfl,o1⟩;have S1:=Qa (SA.o w1 o1);have O1:=Qa o1;clear MA SA o1 p0 p1;go_wp2_with fail;refine S1.o.mono ?_;rintro e w2 ⟨a,b,rfl,sa,_,o2⟩;obtain⟨N1,N2,rfl,rfl,n1,n2,ld,ed⟩:=sa hx.o;rw[<-HL.o.1] at ld ed;have O2:=Qa (O1.o.same o2);have D9S:Hid (w0.heap.size<=w2.heap.size):=O2.o.size;have hw:=Qa (RT.o w2 (.slice (some ⟨N1,0,none⟩) L L) (by have:=ld.all;rw[HL.o.1] at this ⊢;exact this));have D2:=Qa (And.intro ld (And.intro ed (And.intro (show w.heap.size+2<=N1 by have:=O1.o.size;have:=hd.o;omega) (show w.heap.size<=N2 by have:=O0.o.size;have:=O1.o.size;omega))));rw[<-HL.o.1];clear sa o2 S1 ld ed n1 n2 RT O1 hx;go_wp2_with fail;refine hw.o.mono ?_;rintro e w3 ⟨ro,rfl,h4,o3⟩;have O3:=Qa (O2.o.same o3);obtain⟨p0,p1,_,_⟩:=QE (O3.o.heap gP.o (λf=>f));have hy:=Qa (PV.o w3 O3.o);have D3:=Qa (And.intro (D2.o.1.past o3) (And.intro (D2.o.2.1.past o3) (And.intro D2.o.2.2.1 (And.intro D2.o.2.2.2 h4))));obtain⟨a3,c3,rfl⟩:=Qm h4;clear h4 o3 hw O2 D2 PV;go_wp2_with fail;refine hy.o.mono ?_;rintro e w4 ⟨pv,rfl,bp,np,o4⟩;obtain⟨a4,c4,rfl,_⟩:=bp.formN (n:=32) (NO (by have:=HQ2.o;exact this));obtain⟨W5,hj⟩:=EX (w4.alloc (.cells #[.int .u64 v,.slice a4 32 c4,.slice (some ⟨N2,0,none⟩) L L,.slice a3 32 c3] 37))
   have o5:N0 w4 W5:=by rw[hj];exact (Only.refl _ _).alloc _
   have g5:W5.heap[w4.heap.size]? = some (.cells #[.int .u64 v,.slice a4 32 c4,.slice (some ⟨N2,0,none⟩) L L,.slice a3 32 c3] 37 (0,0)):=by rw[hj];exact heap_alloc_new _ _
   have hld:=Yt g5;obtain⟨⟨y0,y1,y2,y3⟩,_⟩:=QY g5;have h7:=o4.same o5;have O5:=Qa (O3.o.same h7)
   have hz:=Qa (SG.o W5 O5.o _ (.slice a4 32 c4) (.slice (some ⟨N2,0,none⟩) L L) (.slice a3 32 c3)
    ⟨rfl,bp.past o5,by
     have h:=D3.o.2.1.past h7;rw[HL.o.1] at h ⊢
     exact h.all,by
     have h:=h7.own D3.o.2.2.2.2 (λ_ _ f=>f)
     exact Bs.of_own (k:=.u8) (E:=5) (lo:=w2.heap.size) (by rw[eRT,UM];exact h)⟩ np (NoCap.of_own D3.o.2.2.2.2))
   have D5:=Qa (And.intro (D3.o.1.past h7) (And.intro D3.o.2.2.1 (h7.own D3.o.2.2.2.2 (λ_ _ f=>f))));have H5:=Qa (And.intro hj D3.o.2.2.2.2);clear bp np o4 o5 h7 g5 hy D3 O3 SG p0 p1 hj;go_wp2_with fail;rw[<-H5.o.1];refine hz.o.mono ?_;rintro e w6 ⟨sg,rfl,h6,o6⟩;have O6:=Qa (O5.o.same o6);have k0:=Qa (BK.o w6 sg (Bs.of_own h6) (NoCap.of_own h6));have D6:=Qa (And.intro (D5.o.1.past o6) (And.intro D5.o.2.1 (o6.own D5.o.2.2 (λ_ _ f=>f))));clear h6 o6 hz O5 D5 BK hld y0 y1 y2 y3;go_wp2_with fail;refine k0.o.mono ?_;rintro e w7 ⟨x7,rfl,h3,o7⟩;obtain⟨a7,c7,rfl⟩:=Qm h3;obtain⟨ho,h5⟩:=EX ((blk (QJ m (p,r) v l)).length);obtain⟨W8,hm⟩:=EX (w7.alloc (.cells #[.slice a7 ho c7] 23))
   have o8:N0 w7 W8:=by rw[hm];exact (Only.refl _ _).alloc _
   have c8:W8.cell? ⟨w7.heap.size,0,none⟩=some (.slice a7 ho c7):=(U3 (T:=23) (by rw[hm];exact heap_alloc_new _ _)).1;have hh:=o7.same o8;obtain⟨vs,hs,he⟩:=(D6.o.1.past hh).ex;rw[Nat.sub_self,List.replicate_zero,List.append_nil] at he;have hNb:=ZJ he
   obtain⟨cs8,k1⟩:∃cs,W8.heap[N1]? = some (.cells cs 23):=by
    rcases he.2 with ⟨e,_⟩ | ⟨g,cap,cur,e,_,hg,_⟩
    ·cases e
    ·cases e;exact⟨_,hg⟩
   have IN:=Qa (yF N1 w7.heap.size L N1 (.slice a7 ho c7) vs W8 (by have:=HI.o.2.2.2.2.1;have:=HL.o.1;omega) he hs.one' c8 rfl (by omega));have D8:=Qa (And.intro hs (And.intro k1 (And.intro D6.o.2.1 (And.intro (hh.own D6.o.2.2 (λ_ _ f=>f)) (And.intro (o8.own h3 (λ_ _ f=>f)) (O6.o.same hh))))));have H8:=Qa (And.intro hm h5);rw[<-h5];clear h3 o7 o8 c8 hh hs he hNb k1 k0 D6 O6 hm h5;go_wp2_with fail;rw[<-H8.o.1];refine IN.o.mono ?_;rintro e w9 ⟨B,C,rfl,h9,o9⟩;have O9:=Qa ((D8.o.2.2.2.2.2).trans o9 (λi hi e=>by have:=D8.o.2.2.1;have:=hd.o;omega));have PC:=Qa (Ok (ls:=Q8 m v l l.length) h9 (by have:=HI.o.2.2.2.2.1;have:=HL.o.1;omega) ⟨w6.heap.size,J0 o9 D8.o.2.1 (by rw[H8.o.2];exact D8.o.2.2.2.2.1)⟩ (by have:=D8.o.1.off o9 D8.o.2.1;rw[HL.o.1] at this;exact this) HG.o.2.2 (by have:=HG.o.2.1;omega) XO);have D9:=Qa (J0 o9 D8.o.2.1 D8.o.2.2.2.1);clear h9 o9 IN D8;go_wp2_with fail;refine PC.o.mono ?_;rintro e k3 ⟨u,rfl,h0,hn⟩;have ht:=Qa (O9.o.same hn);have g1:=ht.o.heap gR.o (λf=>f);obtain⟨q0,q1,z0,z1⟩:=QE g1;have P2:=put2 g1 (.int .u64 (v:Int)) (.slice a3 32 c3)
   have HR:∀{lo n:Nat} {x:Value} {xs:List Value} {b:Nat},k3.ownsRow lo 5 1 x n xs->∀k,x.ownBlock=some k->¬k=w.heap.size+1:=by
    intro lo n x xs _ h k hk e;subst e
    rcases h.2 with ⟨rfl,_⟩ | ⟨g,cap,cur,rfl,_,hg,_⟩
    ·cases hk
    ·cases hk;rw[g1] at hg;cases hg
   have hb:=hn.own D9.o (λ_ _ f=>f)
   have F:=Qa (And.intro (ZO P2.1) (show BU w ((k3.setCell ⟨w.heap.size+1,0,none⟩ (.int .u64 (v:Int))).setCell ⟨w.heap.size+1,1,none⟩ (.slice a3 32 c3)) u (.slice a3 32 c3) (blk (QJ m (p,r) v l)++(Q8 m v l l.length).flatten) (QM (Q8 m v l l.length)) from by
    refine⟨Qu (P2.2.own h0 (HR (b:=0) h0)) (by have:=O0.o.size;have:=O9.o.size;omega),?_,NoCap.of_own hb,λk hk=>?_,(O0.o.same ht.o).trans P2.2 (λi hi e=>by omega)⟩
    ·exact Bs.of_own (k:=.u8) (E:=5) (lo:=w2.heap.size) (by rw[UM];exact P2.2.own hb (HR (b:=0) hb))
    ·have h1:=(hb.lt k hk).1
     have:=O0.o.size;have:=D9S.o
     omega))
   clear P2 g1 h0 hn PC HR hb;go_wp2;exact bodyPost_ret (Zf rfl _ _ rfl rfl rfl F.o.1) rfl ⟨_,_,rfl,F.o.2⟩
  ·have eT:YB m (p,r) v l=[]:=by unfold YB;rw[eE,if_neg h2]
   have eR:Uy m (p,r) v l=(0,[]):=by unfold Uy;rw[eE,if_neg h2]
   rw[eE,eT,eR]
   have hne:(QZ m 0 l != 0)=true:=by simpa using h2
   clear h1 eE eT eR h2 q1 q2 q3 q4 q5;generalize QZ m 0 l=c at *;go_enter func5,ntmps5;go_wp2_with fail;rw[<-HW.o];refine MA.o.mono ?_;rintro e w1 ⟨rfl,o1⟩;have S1:=Qa (SA.o w1 o1);have O1:=Qa o1;clear MA SA o1 p0 p1;go_wp2_with fail;refine S1.o.mono ?_;rintro e w2 ⟨a,b,rfl,_,_,o2⟩;have g1:=(O1.o.same o2).heap gR.o (λf=>f);obtain⟨q0,q1,z0,z1⟩:=QE g1;have P2:=put2 g1 (.int .u64 0) (.slice none 0 0);have F:=Qa (And.intro (ZO P2.1) ((O0.o.same (O1.o.same o2)).trans P2.2 (λi hi e=>by omega)));clear P2 g1 S1 o2;go_wp2;refine bodyPost_ret (Zf rfl _ _ rfl rfl rfl F.o.1) rfl ⟨_,_,rfl,BU.no F.o.2⟩
 ·have eE:Ym m (p,r) v l=Y4 m (p,r) v L:=by unfold Ym;rw[<-HL.o.1,if_neg h1]
  have eT:YB m (p,r) v l=[]:=by unfold YB;rw[eE,if_neg h1]
  have eR:Uy m (p,r) v l=(0,[]):=by unfold Uy;rw[eE,if_neg h1]
  rw[eE,eT,eR]
  have hne:(Y4 m (p,r) v L != 0)=true:=by simpa using h1
  clear eE eT eR h1;generalize Y4 m (p,r) v L=c at *;go_enter func5,ntmps5;go_wp2_with fail;rw[<-HW.o];refine MA.o.mono ?_;rintro e w1 ⟨rfl,o1⟩;have g1:=o1.heap gR.o (λf=>f);obtain⟨q0,q1,z0,z1⟩:=QE g1;have P2:=put2 g1 (.int .u64 0) (.slice none 0 0);have F:=Qa (And.intro (ZO P2.1) ((O0.o.same o1).trans P2.2 (λi hi e=>by omega)));clear P2 g1 MA o1;go_wp2;refine bodyPost_ret (Zf rfl _ _ rfl rfl rfl F.o.1) rfl ⟨_,_,rfl,BU.no F.o.2⟩
def GU (vk:Value) (m:MAN) (ls:List (LI)) (cs:List Qk) (w:World):Prop :=
 ∀(W:World) (x vp ve vr a:Value) (vs:List Value) (lo:Nat),N0 w W->Mf W x m vp ve vr->LO W vs ls->W.ownsRow lo 23 1 a ls.length vs ->
  Calls prog 42 #[vk,x,a] W λe w'=>∃c,e=.returned (.tuple #[c,.int .i64 0])∧(∀(W':World) (R:Nat),R<W.heap.size->Only (λk=>k=R) w' W'->Chs W' c cs)∧N0 W w'
theorem M0 {b sg:LI} {m:MAN} {ls:List (LI)} (h8:U8 b) (h:UQ b=.ok (m,sg,ls)):Uh m∧U8 sg∧sg.length<=268435456:=by
 obtain⟨k,hs,h32,hm,hcut⟩:=ZY h;have h0:=Xn h8 hs;refine⟨(JG (h0.take _) hm).1,h0,?_⟩;unfold Qq at hs;rw[if_neg (by omega)] at hs
 split at hs
 ·simp only[Prod.mk.injEq] at hs;rw[<-hs.1];simp
 ·split at hs
  ·simp only[Prod.mk.injEq] at hs;omega
  ·split at hs
   ·simp only[Prod.mk.injEq] at hs;omega
   ·simp only[Prod.mk.injEq] at hs;rw[<-hs.1,Qf];omega
theorem qf (vk vt vb:Value) (k r b sg:LI) (p:Nat) (m:MAN) (ls:List (LI)) (cs:List Qk) (w:World) (bk:Bs .u8 w vk k) (k8:U8 k) (bt:Bs .u8 w vt r) (r8:U8 r) (hb:Bs .u8 w vb b) (b8:U8 b) (hl:b.length<=1000000000000)
 (h32:k.length=32) (hr:r.length=0∨r.length=32) (hx:UQ b=.ok (m,sg,ls)) (l8:R8 ls) (ht:ls.length<=1048576) (hroot:QM ls=m.root) (hT:VZ k (p,r) m sg=0) (hU:GU vk m ls cs w) :
 Calls prog 14 #[vk,.agg #[.int .u64 p,vt],vb] w λe w'=>∃c rv,e=.returned (.tuple #[c,.agg #[.int .u64 m.ver,rv],.int .i64 0])∧Chs w' c cs∧Bs .u8 w' rv m.root∧NoCap rv∧N0 w w':=by
 obtain⟨hG,hp,hsl⟩:=M0 b8 hx;obtain⟨ak,ck,ek⟩:=bk.len;obtain⟨h6,ct,et⟩:=bt.len;subst ek et;obtain⟨w0,h4⟩:=EX ((w.alloc (.cells #[.int .u64 p,.slice h6 r.length ct] 26)).alloc (.cells #[.int .u64 0,.slice none 0 0] 26))
 have o0:N0 w w0:=by rw[h4];exact ((Only.refl _ _).alloc _).alloc _
 have gP:Hid (w0.heap[w.heap.size]? = some (.cells #[.int .u64 p,.slice h6 r.length ct] 26 (0,0))):=by show _=_;rw[h4];exact Yr (heap_alloc_new _ _)
 have gR:Hid (w0.heap[w.heap.size+1]? = some (.cells #[.int .u64 0,.slice none 0 0] 26 (0,0))):=by show _=_;rw[h4];exact YV (by simp)
 obtain⟨p0,p1,_,_⟩:=QE gP.o;have RI:=Qa (P9 (.int .u64 p) h6 r.length ct w0);rw[Qe hr] at RI;have SP:=Qa (λW (o:N0 w W)=>Rr vb b W (hb.past o) b8 hl hx);have TR:=Qa (λW (o:N0 w W) (x vp ve vr vs:Value) (hm:Mf W x m vp ve vr) (hv:Bs .u8 W vs sg)=>Iz (.slice ak k.length ck) (.slice h6 r.length ct) x vp ve vr vs k r sg p m W (bk.past o) k8 (bt.past o) r8 hm hG.2.2.1.2 hv hp (by omega));simp only[hT] at TR;have RT:=Qa (λ(W:World) (x:Value) (h:RL W x ls)=>Ny x ls W h l8 (by omega));have EQ:=Qa (λ(W:World) (x y:Value) (h1:Bs .u8 W x (QM ls)) (h2:Bs .u8 W y m.root)=>NL x y (QM ls) m.root W h1 h2 (KJ ls) hG.2.2.1.2);simp only[Qe hroot] at EQ;have UA:=Qa hU;have HW:=Qa (And.intro h4 o0)
 have hsz:Hid (w0.heap.size=w.heap.size+2):=by show _=_;rw[h4];simp
 have d1:((k.length:Int) != 32)=false:=by rw[h32];rfl
 obtain⟨M,hM⟩:=EX k.length;obtain⟨n,hn⟩:=EX r.length;rw[<-hM] at d1 TR UA ⊢;rw[<-hn] at RI TR gP HW p1 ⊢;have HL:=Qa (And.intro ht (And.intro (UM ls) hroot));clear bk k8 bt r8 hb b8 hl h32 hr hx l8 ht hroot hT hU hG hp hsl h4 o0 hM hn;go_enter func14,ntmps14;go_wp2_with fail;rw[<-HW.o.1];refine RI.o.mono ?_;rintro e w1 ⟨rfl,o1⟩;have hs:=Qa (SP.o w1 (HW.o.2.same o1));have O1:=Qa o1;clear RI SP o1 p0 p1;go_wp2_with fail;refine hs.o.mono ?_;rintro e w2 ⟨x,vp,ve,vr,u,a,rfl,sw⟩;have hf:=sw.mn.mf.form;obtain⟨ap,cp,ep⟩:=sw.mn.mf.prev.len;obtain⟨ae,ce,ee⟩:=sw.mn.mf.es.len;obtain⟨ar,cr,er⟩:=sw.mn.mf.root.len;subst ep ee er hf;obtain⟨vs,lo,own⟩:=sw.ls;obtain⟨aa,ca,ea⟩:=Qm own;subst ea;obtain⟨W3,hg⟩:=EX (w2.alloc (.cells #[.int .u64 m.ver,.slice ap m.prev.length cp,.slice ae m.es.length ce,.slice ar m.root.length cr] 37))
 have o3:N0 w2 W3:=by rw[hg];exact (Only.refl _ _).alloc _
 have h5:N0 w0 W3:=(O1.o.same sw.o).same o3
 have gM:=show W3.heap[w2.heap.size]? = some (.cells #[.int .u64 m.ver,.slice ap m.prev.length cp,.slice ae m.es.length ce,.slice ar m.root.length cr] 37 (0,0)) by rw[hg];exact heap_alloc_new _ _
 have h9:=Yt gM;obtain⟨⟨y0,y1,y2,y3⟩,_⟩:=QY gM;obtain⟨p0,p1,_,_⟩:=QE (h5.heap gP.o (λf=>f));have hu:=Qa (TR.o W3 (HW.o.2.same h5) _ (.slice ap m.prev.length cp) (.slice ae m.es.length ce) (.slice ar m.root.length cr) u (sw.mn.mf.past o3) (sw.sg.past o3));have H3:=Qa (And.intro h5 (And.intro gM (And.intro (sw.mn.mf.past o3) (And.intro (lo.past o3) (And.intro (o3.own own (λ_ _ f=>f)) sw.mn.nr)))));clear sw lo own o3 h5 gM TR hs O1;subst hg;go_wp2_with fail;refine hu.o.mono ?_;rintro e w4 ⟨rfl,o4⟩;have hd:=o4.heap H3.o.2.1 (λf=>f);clear y0 y1 y2 y3 h9 p0 p1;obtain⟨⟨y0,y1,y2,y3⟩,_⟩:=QY hd;have H4:=Qa (And.intro (H3.o.1.same o4) (And.intro hd (And.intro (H3.o.2.2.1.past o4) (And.intro (H3.o.2.2.2.1.past o4) (And.intro (o4.own H3.o.2.2.2.2.1 (λ_ _ f=>f)) H3.o.2.2.2.2.2)))));have ho:=Qa (λW (o:N0 w4 W)=>((H4.o.2.2.2.1.past o).rl (lo:=w1.heap.size) (by rw[H4.o.2.2.2.1.1];exact o.own H4.o.2.2.2.2.1 (λ_ _ f=>f))).1);have ha:=Qa (λW (o:N0 w4 W)=>H4.o.2.2.1.root.past o);have hk:=Qa (λW (o:N0 w4 W)=>RT.o W _ (ho.o W o));clear o4 hd hu H3 RT ho;go_wp2_with fail
 go_region_held3 (λW=>W.cell? ⟨w2.heap.size,3,none⟩=some (.slice ar m.root.length cr)) (go_keep)
  (first
   | (go_at_call 17;refine (hk.o _ ((Only.refl _ _).drew)).mono ?_;rintro e w5 ⟨u5,rfl,h0,o5⟩;have O5:=Qa (((Only.refl (λ_=>False) w4).drew).same o5);have k3:=Qv y3 O5.o;obtain⟨a5,c5,rfl⟩:=Qm h0;have B5:=Qa (show Bs .u8 w5 (.slice a5 32 c5) (QM ls) from Bs.of_own (k:=.u8) (E:=5) (lo:=w4.drew.heap.size) (by rw[HL.o.2.1];exact h0));clear h0 o5 y0 y1 y2 y3 hk)
   | (go_at_call 41;refine (EQ.o w5 _ _ B5.o (ha.o w5 O5.o)).mono ?_;rintro e w6 ⟨rfl,rfl⟩;clear B5 EQ)
   | fail)
 have h7:=O5.o.heap H4.o.2.1 (λf=>f);have h9:=Yt h7;clear k3;obtain⟨⟨y0,y1,y2,y3⟩,_⟩:=QY h7;have hq:=Qa (UA.o w5 _ (.slice ap m.prev.length cp) (.slice ae m.es.length ce) (.slice ar m.root.length cr) (.slice aa ls.length ca) vs w1.heap.size (HW.o.2.same (H4.o.1.same O5.o)) (H4.o.2.2.1.past O5.o) (H4.o.2.2.2.1.past O5.o) (O5.o.own H4.o.2.2.2.2.1 (λ_ _ f=>f)));have H5:=Qa (And.intro (H4.o.1.same O5.o) (And.intro h7 (And.intro (ha.o w5 O5.o) H4.o.2.2.2.2.2)));clear h7 H4 O5 ha UA;go_wp2_with fail;refine hq.o.mono ?_;rintro e w7 ⟨c,rfl,hh,o7⟩;have hj:=H5.o.1.same o7
 have he:w.heap.size+1<w5.heap.size:=by have:=hsz.o;have:=H5.o.1.size;omega
 obtain⟨ac,lc,cc,rfl⟩:∃a n c',c=.slice a n c':=by
  obtain⟨a,c',e,_⟩:=(hh w7 (w.heap.size+1) he (Only.refl _ _)).len;exact⟨_,_,_,e⟩
 have h8:=o7.heap H5.o.2.1 (λf=>f);clear h9 y0 y1 y2 y3;obtain⟨⟨y0,y1,y2,y3⟩,_⟩:=QY h8;have h3:=hj.heap gR.o (λf=>f);obtain⟨q0,q1,z0,z1⟩:=QE h3;have P2:=put2 h3 (.int .u64 m.ver) (.slice ar m.root.length cr)
 have hne:¬w2.heap.size=w.heap.size+1:=by
  intro e;rw[e] at h8;rw[h8] at h3;simp at h3
 have F:=Qa (And.intro (ZO (show ((((w7.setCell ⟨w.heap.size+1,0,none⟩ (.int .u64 m.ver)).setCell ⟨w.heap.size+1,1,none⟩ (.slice ar m.root.length cr)).drew).heap[w.heap.size+1]? = _) from P2.1)) (And.intro (hh _ _ he P2.2.drew) (And.intro (((H5.o.2.2.1.past o7).offB (g:=w.heap.size+1) (T:=26) (cs:=[.int .u64 0,.slice none 0 0]) h3 (λy hy x=>by simp at hy;rcases hy with rfl | rfl <;> simp) P2.2.drew)) (And.intro H5.o.2.2.2 ((HW.o.2.same hj).trans P2.2.drew (λi hi e=>by omega))))));clear hh o7 hj hq h8 h3 P2 H5 he;go_wp2;go_region;go_wp2;exact bodyPost_ret (Zf rfl _ _ rfl rfl rfl F.o.1) rfl ⟨_,_,rfl,F.o.2⟩
theorem Tryz.infoCk:(prog.info? 61).map (λi=>(i.zero,i.size,i.bytes))=some (some (.agg #[.string ⟨#[]⟩,.slice none 0 0]),2,40):=by kernel_rfl
theorem CV (vk:Value) (m:MAN) (w:World):GU vk m [] [] w:=by
 intro W x vp ve vr a vs lo _ hm hL own;have hf:=hm.form;obtain⟨ap,cp,ep⟩:=hm.prev.len;obtain⟨ae,ce,ee⟩:=hm.es.len;obtain⟨ar,cr,er⟩:=hm.root.len;obtain⟨aa,ca,ea⟩:=Qm own;subst ep ee er hf ea;obtain⟨W0,h2⟩:=EX (W.alloc (.cells #[.int .u64 m.ver,.slice ap m.prev.length cp,.slice ae m.es.length ce,.slice ar m.root.length cr] 37));obtain⟨i0,hi,hz0,hz1,hz2⟩:=info_parts Tryz.infoCk;obtain⟨wm,hmk,h1,h3⟩:=run_make_full (P:=prog) W0 W0.heap.size 31 61 i0 (.agg #[.string ⟨#[]⟩,.slice none 0 0]) 2 underlying31 hi hz0 hz1 .i64 .i64 0 (by rw[hz2];omega) (by unfold maxLen;omega) (Nat.le_refl _)
 have F:=Qa (show N0 W wm from by
  have h0:N0 W W0:=by rw[h2];exact (Only.refl _ _).alloc _
  exact h0.grown h3 (λk _ e=>by cases e))
 rw[show ((0:Nat):Int)=0 from rfl] at hmk;clear hm hL own h1 h3;subst h2;go_enter func42,ntmps42;go_wp2
 go_loopw [18] (λi wr=>i=.int .i64 0∧wr=wm) (λi _=>0)
 case atStart=>exact⟨rfl,rfl⟩
 case round =>
  obtain⟨rfl,rfl⟩:=hrel;go_wp2;go_ret2;exact⟨_,rfl,λW' R _ _=>⟨_,_,rfl,Nat.le_refl _,λh=>absurd rfl h⟩,F.o⟩
theorem OU {m:LI} {v:Nat} {l:List Qk} (h:QZ m 0 l=0) {j:Nat} (hj:j<l.length):((Q8 m v l l.length).getD j []).length=(QO ((UH m l l.length).getD j ([],0)).2).toNat+16:=by
 have hc:=XV l 0 h j hj;rw[Nat.zero_add] at hc;have hs:=(L5 hc).2;rw[uR m v l hj,wU m l hj,LH hs]
 show _=(QO (Yq _ _ _)).toNat+16
 unfold Yq;rw[if_pos hs,Tk]
 rfl
theorem Jq {m:LI} {s:Yx} {v:Nat} {l:List Qk} (hv:v<18446744073709551616) (s8:U8 s.2) (hl:∀c∈l,CG c) (h100:l.length<=100) (h:Ym m s v l=0):(MENC (QP m s.2 v l)).length<=10000 :=
 Nr (V0 hv s8 hl h) (by show (UH m l l.length).length<=100;rw[VE];exact h100)
theorem Tx {m:LI} {s:Yx} {v:Nat} {l:List Qk} (hv:v<18446744073709551616) (s8:U8 s.2) (hl:∀c∈l,CG c) (h100:l.length<=100) (h:Ym m s v l=0):UQ (YB m s v l)=.ok (QP m s.2 v l,QJ m s v l,Q8 m v l l.length):=by
 have hsm:=Jq hv s8 hl h100 h;unfold YB;rw[if_pos h];refine Ck (V0 hv s8 hl h) (Y3 _ _) (by omega) ?_ ?_
 ·show (UH m l l.length).length=_;rw[VE,VQ]
 ·intro j hj
  have hj':j<l.length:=by have:(QP m s.2 v l).es.length=l.length:=VE _ _ _;omega
  exact OU (Gc h).2 hj'
theorem I1 {m:LI} {s:Yx} {v:Nat} {l:List Qk} (hv:v<18446744073709551616) (s8:U8 s.2) (hl:∀c∈l,CG c) (h:Ym m s v l=0):UD m (QJ m s v l)=0:=by
 have hL:(QJ m s v l).length=(MENC (QP m s.2 v l)).length+32:=by unfold QJ;rw[Qc,Y3]
 unfold UD;rw[if_pos (Jg (Gc h).1).1,if_neg (by omega),hL,Nat.add_sub_cancel]
 have e1:(QJ m s v l).take (MENC (QP m s.2 v l)).length=MENC (QP m s.2 v l):=by unfold QJ;exact List.take_left
 have e2:(QJ m s v l).drop (MENC (QP m s.2 v l)).length=MACL (Yn m) (MENC (QP m s.2 v l)):=by unfold QJ;exact List.drop_left
 rw[e1,e2,if_pos rfl];exact (y9 (V0 hv s8 hl h)).2
theorem AR_u8 {m:LI} {s:Yx} {v:Nat} {l:List Qk} (hv:v<18446744073709551616) (s8:U8 s.2) (hl:∀c∈l,CG c) (h:Ym m s v l=0):U8 (QJ m s v l)∧U8 (YB m s v l):=by
 have hg:U8 (QJ m s v l):=by unfold QJ;exact U8.app (To (V0 hv s8 hl h)) (VW _ _)
 refine⟨hg,?_⟩;unfold YB;rw[if_pos h];refine U8.app (Wh _ hg) (λy hy=>?_);obtain⟨x,hx,hy⟩:=List.mem_flatten.1 hy;exact (X7 hl _ x hx).1 y hy
theorem Su {m:LI} {s:Yx} {v:Nat} {l:List Qk} (hv:v<18446744073709551616) (s8:U8 s.2) (hl:∀c∈l,CG c) (h100:l.length<=100) (h:Ym m s v l=0):(QJ m s v l).length=(MENC (QP m s.2 v l)).length+32∧(YB m s v l).length<=1000000000:=by
 have hL:(QJ m s v l).length=(MENC (QP m s.2 v l)).length+32:=by unfold QJ;rw[Qc,Y3]
 have hsm:=Jq hv s8 hl h100 h;refine⟨hL,?_⟩;unfold YB;rw[if_pos h,Qc];have h1:=Ut (QJ m s v l) (by omega);have h2:=ZE (Q8 m v l l.length) 4194320 XO;rw[VQ] at h2;omega
theorem KR {m:LI} (h:m.length=32):Ym m (0,[]) 1 []=0:=by
 unfold Ym Y4;rw[if_pos (c:=m.length=32∧Vm (0,[])∧1≠18446744073709551615) ⟨h,.inl rfl,by decide⟩]
 rfl
theorem XP:∀c∈([]:List Qk),CG c:=λc h=>by cases h
theorem AR1_m (m:LI):QP m [] 1 []=⟨1,List.replicate 32 0,[],QM []⟩:=rfl
theorem SF {m:LI} (h:m.length=32):(YB m (0,[]) 1 []).length=111:=by
 have e1:(MENC (QP m [] 1 [])).length=78:=by
  rw[AR1_m];have e2:QC ⟨1,List.replicate 32 0,[],QM []⟩=[]:=List.eq_nil_of_length_eq_zero (by have:=Ve ⟨1,List.replicate 32 0,[],QM []⟩;simpa using this)
  have e3:(gs 0).length=1:=by rw[UE (by omega)];rfl
  unfold MENC;rw[e2];simp only[Qc,QD,List.length_replicate,List.length_nil,List.map_nil,List.flatten_nil,UM,QW,Qi,e3]
 have e4:(QJ m (0,[]) 1 []).length=110:=by unfold QJ;rw[Qc,Y3];show (MENC (QP m [] 1 [])).length+32=_;rw[e1]
 unfold YB;rw[if_pos (KR h),Qc];unfold blk;rw[Qc,e4,UE (by omega)]
 rfl
theorem uF {m:LI} (h:m.length=32):VZ m (1,QM []) (QP m [] 1 []) (QJ m (0,[]) 1 [])=0:=by
 unfold VZ;rw[if_pos (I1 (s:=(0,[])) (by decide) (λy hy=>by cases hy) XP (KR h)),AR1_m];simp
theorem SH (w:World) (hT:Tab w):Calls prog 4 #[] w λe w'=>e=.returned (.bool true)∧N0 w w':=by
 have h3:U8 []:=λy hy=>by cases hy
 have k8:=RQ 1;have h0:=Pg 1;obtain⟨K,hK⟩:=EX (KG 1);have KA:=Qa (λW=>GJ 1 W);rw[<-hK] at k8 h0;simp only[<-hK] at KA;have BD:=Qa (λ(W:World) (v:Value) (o:N0 w W) (b:Bs .u8 W v K)=>Rp v NIL NIL K [] 0 1 [] W b k8 (Bs.nil _ _) NoCap.nil h3 ⟨_,0,rfl,Nat.le_refl _,λh=>absurd rfl h⟩ (λc h=>by cases h) (by simp) (by decide) (hT.past o));have ha:=Tx (m:=K) (s:=(0,[])) (v:=1) (by decide) h3 XP (by simp) (KR h0);have h8:=AR_u8 (m:=K) (s:=(0,[])) (v:=1) (by decide) h3 XP (KR h0);have h2:=SF h0;have OP:=Qa (λ(W:World) (vk vt vb:Value) (bk:Bs .u8 W vk K) (bt:Bs .u8 W vt (QM [])) (bb:Bs .u8 W vb (YB K (0,[]) 1 []))=>qf vk vt vb K (QM []) _ _ 1 _ _ [] W bk k8 bt (KJ _) bb h8.2 (by rw[h2];omega) h0 (.inr (UM _)) ha (λx hx=>by cases hx) (by simp[Q8]) rfl (uF h0) (CV _ _ _));have e1:Uy K (0,[]) 1 []=(1,QM []):=if_pos (KR h0);simp only[KR h0,e1,show ((0:Nat):Int)=0 from rfl,show ((1:Nat):Int)=1 from rfl] at BD;simp only[show (QP K [] 1 []).ver=1 from rfl,show (QP K [] 1 []).root=QM [] from rfl,show ((1:Nat):Int)=1 from rfl] at OP;obtain⟨A,hA⟩:=EX (YB K (0,[]) 1 []);obtain⟨R,hR⟩:=EX (QM []);simp only[<-hA,<-hR] at BD OP;rw[<-hA] at h2;have HL:=Qa h2;have HK:=Qa h0;clear ha h8 h2 e1 hA hR hT h3 hK k8 h0;go_enter func4,ntmps4;go_wp2_with fail;refine (KA.o w).mono ?_;rintro e w0 ⟨rfl,h5,o0⟩;have h9:=Qa (BD.o w0 _ o0 (h5.bs 32 HK.o));have O0:=Qa o0;clear h5 o0 BD;go_wp2_with fail;refine h9.o.mono ?_;rintro e w1 ⟨u,ru,rfl,bu⟩;obtain⟨au,cu,rfl⟩:=(Bs.of_own (k:=.u8) (E:=5) bu.t).len;obtain⟨ar,cr,rfl⟩:=bu.r.len;obtain⟨W2,h1⟩:=EX (w1.alloc (.cells #[.int .u64 1,.slice ar R.length cr] 26))
 have o2:N0 w1 W2:=by rw[h1];exact (Only.refl _ _).alloc _
 have g2:=show W2.heap[w1.heap.size]? = some (.cells #[.int .u64 1,.slice ar R.length cr] 26 (0,0)) by rw[h1];exact heap_alloc_new _ _
 obtain⟨c0,c1,_,_⟩:=QE g2;have H2:=Qa (And.intro (O0.o.same (bu.o.same o2)) (And.intro g2 (And.intro (bu.r.past o2) ((Bs.of_own (k:=.u8) (E:=5) bu.t).past o2))));have h6:=Qa h1;clear bu o2 g2 h9 O0 h1;go_wp2_with fail;rw[<-h6.o];obtain⟨M,hM⟩:=EX w1.heap.size;rw[<-hM] at H2 c0 c1 ⊢;have KS:=Qa (λ(W:World) (o:Only (λk=>¬k=M) W2 W)=>(show W.cell? ⟨M,0,none⟩=some (.int .u64 1)∧W.cell? ⟨M,1,none⟩=some (.slice ar R.length cr) from have h:=QE (o.heap H2.o.2.1 (λf=>f rfl));⟨h.1,h.2.1⟩));have hM2:M<W2.heap.size:=(Array.getElem?_eq_some_iff.1 H2.o.2.1).1;have CR:Hid (N0 W2 W2.drew):=(Only.refl _ _).drew;clear h6 hM
 go_region_held3 (λW'=>W'.cell? ⟨M,0,none⟩=some (.int .u64 1)∧W'.cell? ⟨M,1,none⟩=some (.slice ar R.length cr))
  (first | assumption | exact KS.o _ (CR.o.mono (λ_ _ f=>f.elim)) | exact KS.o _ ((CR.o.alloc _).mono (λ_ _ f=>f.elim)) | exact KS.o _ (((CR.o.mono (T:=λk=>¬k=M) (λ_ _ f=>f.elim)).setCell (p:=⟨_,0,none⟩) (λ_=>by simp only;omega) _).setCell (p:=⟨_,1,none⟩) (λ_=>by simp only;omega) _))
  (first|(go_at_call 6;refine (KA.o _).mono ?_;rintro e w4 ⟨rfl,h4,o4⟩;(first|(have g4:=Qa (o4.heap (heap_alloc_new W2.drew _) (λf=>f));have CR:=Qa ((CR.o.alloc _).same o4)) | have CR:=Qa (CR.o.same o4));have hz:=Nat.lt_of_lt_of_le hM2 CR.o.size;have hz4:=CR.o.size;(first | have B4:Hid (Bs .u8 w4 (.slice (some ⟨W2.heap.size,0,none⟩) 32 32) K):=h4.bs 32 HK.o | have B4:Hid (Bs .u8 w4 (.slice (some ⟨W2.heap.size+1,0,none⟩) 32 32) K):=(by have h:=h4.bs 32 HK.o;have e:(W2.alloc (.cells #[.int .u64 0,.slice none 0 0] 26)).heap.size=W2.heap.size+1:=Array.size_push ..;show Bs _ _ _ _;rw[<-e];exact h));clear h4 o4)|(go_at_call 14;refine (OP.o _ _ _ _ (by first | exact B4.o | exact B4.o.past ((Only.refl _ _).alloc _)) (H2.o.2.2.1.past (by first | exact CR.o | exact CR.o.alloc _)) (H2.o.2.2.2.past (by first | exact CR.o | exact CR.o.alloc _))).mono ?_;rintro e w5 ⟨c,rv,rfl,hb,h7,_,o5⟩;(first|(have CR:=Qa (CR.o.same o5);have g5:w5.heap[W2.heap.size]? = some (.cells #[.int .u64 0,.slice none 0 0] 26 (0,0)):=o5.heap g4.o (λf=>f);obtain⟨_,_,_,_⟩:=QE g5)|(have CR:=Qa ((CR.o.alloc _).same o5);have g5:=o5.heap (heap_alloc_new w4 _) (λf=>f);obtain⟨_,_,_,_⟩:=QE g5) | have CR:=Qa (CR.o.same o5));(obtain⟨ac,cc,rfl,_⟩:=hb.len);(obtain⟨av,cv,rfl⟩:=h7.len);clear hb h7 o5 OP))
 all_goals
  have l1:(A.length:Int)=111:=by rw[HL.o];rfl
  go_wp2;go_ret;refine⟨rfl,H2.o.1.same ?_⟩
  first
  | exact CR.o.alloc _
  | exact (CR.o.setCell (p:=⟨_,0,none⟩) (λh=>absurd h (by simp only;omega)) _).setCell (p:=⟨_,1,none⟩) (λh=>absurd h (by simp only;omega)) _
  | exact ((CR.o.alloc _).setCell (p:=⟨_,0,none⟩) (λh=>absurd h (by have:=CR.o.size;simp only;omega)) _).setCell (p:=⟨_,1,none⟩) (λh=>absurd h (by have:=CR.o.size;simp only;omega)) _
end Go.Proofs.YtoflhbghdlaeaaaGreatDoor
