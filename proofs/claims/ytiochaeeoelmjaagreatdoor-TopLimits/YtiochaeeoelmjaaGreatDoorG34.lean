import Derived.Test.YtiochaeeoelmjaaGreatDoorG33
import Derived.Test.YtiochaeeoelmjaaGreatDoorG25
import Derived.Deep.RegionHeld3
namespace Go.Proofs.YtiochaeeoelmjaaGreatDoor
set_option maxHeartbeats 4000000
set_option maxRecDepth 100000
open Go.RowKit _root_.Go.Proofs.Tryz
variable {w w' W:World} {v:Value} {ys xs l:LI} {R n p k g B:Nat} {P:Program} {ls:List (LI)} {E:TypeId}
theorem Mi {fn:Func} {a b c:Tmp} {ty:TypeId} (h:fn.results=#[.cell a ty,.tmp b,.tmp c]) (tmps:Array Value) (w:World) {ad:Addr} {v1 v2 v3:Value}
 (h1:tmps.getD a undef=.pointer (some ad)) (h2:tmps.getD b undef=v2) (h3:tmps.getD c undef=v3) (hl:(loadVar ty ad).run P w=.ok v1 w) :
 (results fn tmps).run P w=.ok (.tuple #[v1,v2,v3]) w:=by
 have h1':tmps[a]?.getD undef=.pointer (some ad):=by simpa using h1
 have h2':tmps[b]?.getD undef=v2:=by simpa using h2
 have h3':tmps[c]?.getD undef=v3:=by simpa using h3
 simp[results,h,h1',h2',h3',asAddr,hl]
theorem Bs.recap {k:IntKind} {ao:Option Addr} {n c c':Nat} (h:Bs k w (.slice ao n c) xs) (hc:n<=c'):Bs k w (.slice ao n c') xs:=by
 obtain⟨ao',cap',e,h1,h2⟩:=h;simp at e;obtain⟨rfl,rfl,rfl⟩:=e;exact⟨_,_,rfl,hc,h2⟩
theorem Mnw.lowS {a b w':World} {x:Value} {m:MAN} {vp ve vr:Value} (h:Mnw b w' x m vp ve vr) (o:a.heap.size<=b.heap.size):Mnw a w' x m vp ve vr :=
 ⟨h.mf,h.np,h.nr,λk hk=>by have:=h.bp k hk;omega,λk hk=>by have:=h.be k hk;omega,λk hk=>by have:=h.br k hk;omega⟩
theorem Mnw.past {a w w':World} {x:Value} {m:MAN} {vp ve vr:Value} (h:Mnw a w x m vp ve vr) (o:N0 w w'):Mnw a w' x m vp ve vr:=⟨h.mf.past o,h.np,h.nr,h.bp,h.be,h.br⟩
theorem qE {ys sg:LI} {m:MAN} (w:World) (hvb:∀b,v.ownBlock=some b->b<w.heap.size) (hC:CurAt 146 w R v ys) (hs:Qo 268435456 ys=(sg,k,0)) (h32:32<=sg.length) (hm:MDEC (sg.take (sg.length - 32))=.ok m) (h8:U8 sg) :
 Calls prog 60 #[.func (.func 61) #[.pointer (some ⟨R,0,none⟩)] #[]] w λe w'=>∃x vp ve vr u,e=.returned (.tuple #[x,u,.int .i64 0])∧Mnw w w' x m vp ve vr∧Bs .u8 w' u sg∧NoCap u∧(∀q,u.ownBlock=some q->w.heap.size<=q)∧(∃v2,CurAt 146 w' R v2 (ys.drop k)∧v2.ownBlock=v.ownBlock)∧Only (λk=>k=R) w w':=by
 have h6:R<w.heap.size:=(Array.getElem?_eq_some_iff.1 hC.cell).1;have h1:=hC.len;obtain⟨w0,h0⟩:=EX (w.alloc (.cells #[.int .u64 0,.slice none 0 0,.slice none 0 0,.slice none 0 0] 69))
 have o0:N0 w w0:=by rw[h0];exact (Only.refl _ _).alloc _
 have g0:Hid (w0.heap[w.heap.size]? = some (.cells #[.int .u64 0,.slice none 0 0,.slice none 0 0,.slice none 0 0] 69 (0,0))):=by show _=_;rw[h0];exact heap_alloc_new _ _
 have BL:=Qa (RG (hC.keep o0 (λf=>f) (λ_ _ f=>f)) 268435456 (by omega));rw[hs] at BL
 have hle:sg.length<=268435456:=by
  have:=hs;unfold Qo at this;rw[if_neg (by omega)] at this
  split at this
  ·rename_i q;simp only[Prod.mk.injEq] at this;rw[<-this.1];simp
  ·split at this
   ·simp only[Prod.mk.injEq] at this;omega
   ·split at this
    ·simp only[Prod.mk.injEq] at this;omega
    ·simp only[Prod.mk.injEq] at this;rw[<-this.1,Qd];omega
 obtain⟨e1,e2⟩:=MD_ok hm;have DE:=Qa (λ(W:World) (u:Value) (h:Bs .u8 W u (sg.take (sg.length - 32)))=>TE u _ W h (h8.take _) (by rw[Qd];omega));rw[e1,e2] at DE;obtain⟨q,hq⟩:=EX sg.length;obtain⟨p,hp⟩:=EX (q - 32);rw[<-hq,<-hp] at DE;have HQ:=Qa (And.intro hq (show p<=sg.length by omega))
 have hsub:(q:Int) - 32=(p:Int):=by omega
 have dn:decide ((p:Int)<0)=false:=Qj (by omega)
 have j0:(0:Int)<=(p:Int):=by omega
 have j1:(p:Int)<=(q:Int):=by omega
 have hqb:q<=268435456:=by omega
 have HW:=Qa (And.intro h0 o0);have HR:=Qa h6;have HV:=Qa hvb;clear hC hvb hs h32 hm h8 h1 h0 o0 hle e1 e2 hq hp h6;go_enter func60,ntmps60;go_wp2_with fail;rw[<-HW.o.1];refine BL.o.mono ?_;rintro e w1 ⟨v1,rfl,b1,n1,h7,v2,h9,h4,o1⟩;obtain⟨a1,c1,rfl,hc1⟩:=b1.formN (n:=q) HQ.o.1.symm;have h5:=Qa (DE.o w1 (.slice a1 p p) ((b1.head (n:=p) (by omega)).recap (Nat.le_refl _)));have H1:=Qa (And.intro b1 (And.intro n1 (And.intro h7 (And.intro h9 (And.intro h4 o1)))))
 have j2:(p:Int)<=(c1:Int):=by omega
 clear b1 n1 h7 h9 h4 o1 BL DE;go_wp2_with fail;refine h5.o.mono ?_;rintro e w2 ⟨x,vp,ve,vr,rfl,mn,o2⟩;have hf:=mn.mf.form;obtain⟨ap,cp,ep⟩:=mn.mf.prev.len;obtain⟨ae,ce,ee⟩:=mn.mf.es.len;obtain⟨ar,cr,er⟩:=mn.mf.root.len;subst ep ee er hf;have RN:=HR.o;have gm:=o2.heap (H1.o.2.2.2.2.2.heap g0.o (λe=>by omega)) (λf=>f);obtain⟨W3,h2⟩:=EX (w2.alloc (.cells #[.int .u64 m.ver,.slice ap m.prev.length cp,.slice ae m.es.length ce,.slice ar m.root.length cr] 69))
 have o3:N0 w2 W3:=by rw[h2];exact (Only.refl _ _).alloc _
 have gb:=Qa (show W3.heap[w2.heap.size]? = some (.cells #[.int .u64 m.ver,.slice ap m.prev.length cp,.slice ae m.es.length ce,.slice ar m.root.length cr] 69 (0,0)) by rw[h2];exact heap_alloc_new _ _);have hld:=YB gb.o;obtain⟨⟨y0,y1,y2,y3⟩,_⟩:=Q9 gb.o;have g3:=o3.heap gm (λf=>f);obtain⟨⟨z0,z1,z2,z3⟩,f0,f1,f2,f3⟩:=Q9 g3;have P4:=put4 g3 (.int .u64 m.ver) (.slice ap m.prev.length cp) (.slice ae m.es.length ce) (.slice ar m.root.length cr);have hs1:=H1.o.2.2.2.2.2.size
 have hs0:w0.heap.size=w.heap.size+1:=by rw[HW.o.1];simp
 have oT:Only (λk=>k=R) w W3:=((HW.o.2.mono (T:=λk=>k=R) (λ_ _ f=>f.elim)).trans H1.o.2.2.2.2.2 (λ_ _ e=>e)).trans (o2.same o3) (λ_ _ f=>f.elim);have h3:=((mn.past o3).keep (B:=w.heap.size) P4.2 (by omega)).lowS (a:=w) (by omega);have F:=Qa (And.intro (YB P4.1) (And.intro h3 (And.intro ((H1.o.1.past (o2.same o3)).keep P4.2 (λb hb e=>by have:=H1.o.2.2.1 b hb;omega)) (And.intro H1.o.2.1 (And.intro (show ∀b,(Value.slice a1 q c1).ownBlock=some b->w.heap.size<=b from λb hb=>by have:=H1.o.2.2.1 b hb;omega) (And.intro (show ∃v2',CurAt 146 _ R v2' (ys.drop k)∧v2'.ownBlock=v.ownBlock from ⟨v2,(H1.o.2.2.2.1.keep (o2.same o3) (λf=>f) (λ_ _ f=>f)).keep P4.2 (by omega) (λb hb e=>by have:=HV.o b (by rw[<-H1.o.2.2.2.2.1];exact hb);omega),H1.o.2.2.2.2.1⟩) (oT.trans P4.2 (λi hi e=>by omega))))))));clear mn o2 gm o3 g3 P4 hs1 hs0 oT h3 H1 h5 RN;subst h2;go_wp2;refine bodyPost_ret (Mi rfl _ _ rfl rfl rfl F.o.1) rfl ⟨_,_,_,_,_,rfl,F.o.2.1,F.o.2.2.1,F.o.2.2.2.1,F.o.2.2.2.2.1,F.o.2.2.2.2.2⟩
theorem Bo {fn:Func} {a b c d:Tmp} {ty:TypeId} (h:fn.results=#[.cell a ty,.tmp b,.tmp c,.tmp d]) (tmps:Array Value) (w:World) {ad:Addr} {v1 v2 v3 v4:Value}
 (h1:tmps.getD a undef=.pointer (some ad)) (h2:tmps.getD b undef=v2) (h3:tmps.getD c undef=v3) (h4:tmps.getD d undef=v4) (hl:(loadVar ty ad).run P w=.ok v1 w) :
 (results fn tmps).run P w=.ok (.tuple #[v1,v2,v3,v4]) w:=by
 have h1':tmps[a]?.getD undef=.pointer (some ad):=by simpa using h1
 have h2':tmps[b]?.getD undef=v2:=by simpa using h2
 have h3':tmps[c]?.getD undef=v3:=by simpa using h3
 have h4':tmps[d]?.getD undef=v4:=by simpa using h4
 simp[results,h,h1',h2',h3',h4',asAddr,hl]
theorem Gt {b sg:LI} {m:MAN} (h:We b=.ok (m,sg,ls)) :
 ∃k,Qo 268435456 b=(sg,k,0)∧32<=sg.length∧MDEC (sg.take (sg.length - 32))=.ok m∧CUT m.es (b.drop k)=some (ls,[]):=by
 obtain⟨h0,k,c,hs⟩:∃x k c,Qo 268435456 b=(x,k,c):=⟨_,_,_,rfl⟩;unfold We at h;rw[hs] at h ⊢;simp only at h
 by_cases h1:c=0
 ·rw[if_neg (by simpa using h1)] at h
  by_cases h2:h0.length<32
  ·rw[if_pos h2] at h;cases h
  ·rw[if_neg h2] at h
   cases h3:MDEC (h0.take (h0.length - 32)) with
   | error e=>rw[h3] at h;cases h
   | ok m' =>
    rw[h3] at h;simp only at h
    cases h4:CUT m'.es (b.drop k) with
    | none=>rw[h4] at h;cases h
    | some x =>
     rw[h4] at h;simp only at h
     by_cases h5:x.2=[]
     ·rw[if_pos h5] at h
      simp only[Except.ok.injEq,Prod.mk.injEq] at h;obtain⟨rfl,rfl,rfl⟩:=h;exact⟨k,by rw[h1],by omega,h3,by rw[<-h5,h4]⟩
     ·rw[if_neg h5] at h;cases h
 ·rw[if_pos h1] at h;cases h
theorem Gv {n:Int} {b sg:LI} {c:Int} (h8:U8 b) (h:Qo n b=(sg,k,c)):U8 sg:=by
 have nl:U8 []:=λy hy=>by cases hy
 unfold Qo at h
 split at h
 ·simp only[Prod.mk.injEq] at h;rw[<-h.1];exact nl
 ·split at h
  ·simp only[Prod.mk.injEq] at h;rw[<-h.1];exact nl
  ·split at h
   ·simp only[Prod.mk.injEq] at h;rw[<-h.1];exact nl
   ·split at h
    ·simp only[Prod.mk.injEq] at h;rw[<-h.1];exact nl
    ·simp only[Prod.mk.injEq] at h;rw[<-h.1];exact (h8.drop _).take _
structure SPW (w w':World) (x vp ve vr u a:Value) (m:MAN) (sg:LI) (ls:List (LI)):Prop where
 mn:Mnw w w' x m vp ve vr
 sg:Bs .u8 w' u sg
 nu:NoCap u
 ls:∃vs,LO w' vs ls∧w'.ownsRow w.heap.size 23 1 a ls.length vs
 o:N0 w w'
theorem Dh (vb:Value) (b:LI) (w:World) (hb:Bs .u8 w vb b) (h8:U8 b) (hl:b.length<=1000000000000) {m:MAN} {sg:LI} {ls:List (LI)} (hx:We b=.ok (m,sg,ls)) :
 Calls prog 38 #[vb] w λe w'=>∃x vp ve vr u a,e=.returned (.tuple #[x,u,a,.int .i64 0])∧SPW w w' x vp ve vr u a m sg ls:=by
 obtain⟨k,hs,h9,hm,h1⟩:=Gt hx;have h3:=Gv h8 hs;have hG:=(GQ (h3.take _) hm).1;obtain⟨w0,h0⟩:=EX (w.alloc (.cells #[.int .u64 0,.slice none 0 0,.slice none 0 0,.slice none 0 0] 69))
 have o0:N0 w w0:=by rw[h0];exact (Only.refl _ _).alloc _
 have g0:Hid (w0.heap[w.heap.size]? = some (.cells #[.int .u64 0,.slice none 0 0,.slice none 0 0,.slice none 0 0] 69 (0,0))):=by show _=_;rw[h0];exact heap_alloc_new _ _
 have NW:=Qa (GU vb b w0 (hb.past o0) h8 hl);have HW:=Qa (And.intro h0 (And.intro o0 (show w0.heap.size=w.heap.size+1 by rw[h0];simp)));have HX:=Qa (And.intro hs (And.intro h9 (And.intro hm (And.intro h1 (And.intro h3 hG)))));clear hb h8 hl hx hs h9 hm h1 h3 hG h0 o0;go_enter func38,ntmps38;go_wp2_with fail;rw[<-HW.o.1];refine NW.o.mono ?_;rintro e w1 ⟨R,v',rfl,cu,o1,r0,r1,hv⟩;have CM:=Qa (qE w1 (λq hq=>(hv q hq).2) cu HX.o.1 HX.o.2.1 HX.o.2.2.1 HX.o.2.2.2.2.1);have H1:=Qa (And.intro o1 (And.intro r0 (And.intro r1 hv)));clear cu o1 r0 r1 hv NW;go_wp2_with fail;refine CM.o.mono ?_;rintro e w2 ⟨x,vp,ve,vr,u,rfl,mn,bu,nu,lu,⟨v2,cu,h6⟩,o2⟩;have hf:=mn.mf.form;obtain⟨ap,cp,ep⟩:=mn.mf.prev.len;obtain⟨ae,ce,ee⟩:=mn.mf.es.len;obtain⟨ar,cr,er⟩:=mn.mf.root.len;obtain⟨au,cau,eu⟩:=bu.len;subst ep ee er hf eu;obtain⟨W3,h5⟩:=EX (w2.alloc (.cells #[.int .u64 m.ver,.slice ap m.prev.length cp,.slice ae m.es.length ce,.slice ar m.root.length cr] 69))
 have o3:N0 w2 W3:=by rw[h5];exact (Only.refl _ _).alloc _
 have gb:=show W3.heap[w2.heap.size]? = some (.cells #[.int .u64 m.ver,.slice ap m.prev.length cp,.slice ae m.es.length ce,.slice ar m.root.length cr] 69 (0,0)) by rw[h5];exact heap_alloc_new _ _
 obtain⟨⟨y0,y1,y2,y3⟩,_⟩:=Q9 gb;have CC:=Qa (Cs (t:=[]) m.es ls (.slice ae m.es.length ce) W3 (cu.keep o3 (λf=>f) (λ_ _ f=>f)) (λq hq=>by rw[h6] at hq;have:=(H1.o.2.2.2 q hq).2;have:=o2.size;have:=o3.size;omega) (mn.mf.es.past o3) (λq hq e=>by have:=mn.be q hq;have:=H1.o.2.2.1;omega) HX.o.2.2.2.1 (λe he=>(HX.o.2.2.2.2.2.2.2.2.2 e he).2) HX.o.2.2.2.2.2.2.2.2.1);have gz:=o3.heap (o2.heap (H1.o.1.heap g0.o (λf=>f)) (λe=>by have:=H1.o.2.1;have:=HW.o.2.2;omega)) (λf=>f);have H3:=Qa (And.intro (mn.past o3) (And.intro (bu.past o3) (And.intro nu (And.intro lu (And.intro (o2.trans (T:=λ_=>False) o3 (λ_ _ f=>f.elim)) (And.intro gb (And.intro gz (show R<w2.heap.size by have:=H1.o.2.2.1;have:=o2.size;omega))))))));clear mn bu nu lu cu h6 o2 o3 gb gz CM;subst h5;go_wp2_with fail;refine CC.o.mono ?_;rintro e w4 ⟨a,rfl,hls,⟨v3,h7,hv3⟩,o4⟩;have EN:=Qa (LH h7);rw[show endV []=0 from rfl] at EN;obtain⟨vs,lo,own⟩:=hls;obtain⟨a4,c4,ea4⟩:=QB own;subst ea4;have h4:=o4.heap H3.o.2.2.2.2.2.1 (λe=>by have:=H3.o.2.2.2.2.2.2.2;omega);have hld:=YB h4;obtain⟨⟨x0,x1,x2,x3⟩,_⟩:=Q9 h4;have h2:=o4.heap H3.o.2.2.2.2.2.2.1 (λe=>by have:=H1.o.2.1;have:=HW.o.2.2;omega);obtain⟨⟨z0,z1,z2,z3⟩,f0,f1,f2,f3⟩:=Q9 h2;have P4:=put4 h2 (.int .u64 m.ver) (.slice ap m.prev.length cp) (.slice ae m.es.length ce) (.slice ar m.root.length cr)
 have F:=Qa (And.intro (YB P4.1) (show SPW w _ (.agg #[.int .u64 m.ver,.slice ap m.prev.length cp,.slice ae m.es.length ce,.slice ar m.root.length cr]) (.slice ap m.prev.length cp) (.slice ae m.es.length ce) (.slice ar m.root.length cr) (.slice au sg.length cau) (.slice a4 ls.length c4) m sg ls from by
  have q1:=H1.o.2.1;have q2:=HW.o.2.2;have q3:=H1.o.1.size;have q4:=H3.o.2.2.2.2.1.size;refine⟨((H3.o.1.keep o4 H1.o.2.2.1).keep P4.2 (by omega)).lowS (by omega),(H3.o.2.1.keep o4 (λq hq e=>?_)).keep P4.2 (λq hq e=>?_),H3.o.2.2.1,⟨vs,lo.ne P4.2 h2 (by decide),Qv (X9 P4.2 h2 (by decide) own) (by omega)⟩,?_⟩
  ·have:=H3.o.2.2.2.1 q hq;have:=H1.o.2.2.1;omega
  ·have:=H3.o.2.2.2.1 q hq;omega
  ·exact ((HW.o.2.1.trans H1.o.1 (λ_ _ f=>f.elim)).trans (H3.o.2.2.2.2.1.trans o4 (λ_ _ e=>e)) (λi hi e=>by omega)).trans P4.2 (λi hi e=>by omega)))
 clear lo own h4 h2 P4 o4 CC H3 H1 y0 y1 y2 y3;go_wp2_with fail;refine EN.o.mono ?_;rintro e w5 ⟨rfl,rfl⟩;clear EN h7;go_wp2;exact bodyPost_ret (Bo rfl _ _ rfl rfl rfl rfl F.o.1) rfl ⟨_,_,_,_,_,_,rfl,F.o.2⟩
def Vc (k:LI) (s:YA) (m:MAN) (sg:LI):Int :=
 if Ui k sg=0 then (if s.2.length=0 then 0 else if m.ver<s.1 then 6 else if m.ver=s.1∧m.root≠s.2 then 7 else 0) else 5
theorem MJ (vk vt x vp ve vr vs:Value) (k r sg:LI) (p:Nat) (m:MAN) (w:World) (bk:Bs .u8 w vk k) (k8:U8 k) (bt:Bs .u8 w vt r) (r8:U8 r) (hm:Mf w x m vp ve vr) (m8:U8 m.root) (bs:Bs .u8 w vs sg) (s8:U8 sg) (hl:sg.length<=10000000000) :
 Calls prog 39 #[vk,.agg #[.int .u64 p,vt],x,vs] w λe w'=>e=.returned (.int .i64 (Vc k (p,r) m sg))∧N0 w w':=by
 have hf:=hm.form;obtain⟨ap,cp,ep⟩:=hm.prev.len;obtain⟨ae,ce,ee⟩:=hm.es.len;obtain⟨ar,cr,er⟩:=hm.root.len;obtain⟨h4,ct,et⟩:=bt.len;subst ep ee er hf et;obtain⟨w0,h7⟩:=EX ((w.alloc (.cells #[.int .u64 p,.slice h4 r.length ct] 31)).alloc (.cells #[.int .u64 m.ver,.slice ap m.prev.length cp,.slice ae m.es.length ce,.slice ar m.root.length cr] 69))
 have o0:N0 w w0:=by rw[h7];exact ((Only.refl _ _).alloc _).alloc _
 have gP:w0.heap[w.heap.size]? = some (.cells #[.int .u64 p,.slice h4 r.length ct] 31 (0,0)):=by rw[h7];exact UJ (heap_alloc_new _ _)
 have gM:w0.heap[w.heap.size+1]? = some (.cells #[.int .u64 m.ver,.slice ap m.prev.length cp,.slice ae m.es.length ce,.slice ar m.root.length cr] 69 (0,0)):=by rw[h7];exact Uq (by simp)
 have CK:=Qa (NT vk vs k sg w0 (bk.past o0) k8 (bs.past o0) s8 hl);have TS:=Qa (λW=>Zk (.int .u64 p) h4 r.length ct W);have EQ:=Qa (λW (o:N0 w W)=>GK (.slice ar m.root.length cr) (.slice h4 r.length ct) m.root r W (hm.root.past o) (bt.past o) m8 r8);have HW:=Qa (And.intro h7 (And.intro o0 (And.intro gP gM)));obtain⟨e,he⟩:=EX (Ui k sg)
 have hT:Vc k (p,r) m sg=if e=0 then (if r.length=0 then 0 else if m.ver<p then 6 else if m.ver=p∧m.root≠r then 7 else 0) else 5:=by rw[he];rfl
 rw[hT];rw[<-he] at CK;obtain⟨n,hn⟩:=EX r.length;obtain⟨q,hq⟩:=EX m.root.length;rw[<-hn] at HW TS EQ ⊢;rw[<-hq] at HW EQ ⊢;clear bk k8 bt r8 hm m8 bs s8 hl h7 o0 gP gM he hT hn hq
 by_cases h1:e=0
 ·subst h1
  rw[if_pos rfl]
  by_cases h2:n=0
  ·subst h2
   rw[if_pos rfl];simp only[show decide (0<0)=false from rfl] at TS;go_enter func39,ntmps39;go_wp2_with fail;rw[<-HW.o.1];refine CK.o.mono ?_;rintro e w1 ⟨x1,hj,hk,ho,rfl,mn,o1⟩;have hf:=mn.mf.form;obtain⟨h0,h5,ep⟩:=mn.mf.prev.len;obtain⟨hd,h6,ee⟩:=mn.mf.es.len;obtain⟨h3,h8,er⟩:=mn.mf.root.len;subst ep ee er hf;obtain⟨W2,h9⟩:=EX (w1.alloc (.cells #[.int .u64 (Yk k sg).ver,.slice h0 (Yk k sg).prev.length h5,.slice hd (Yk k sg).es.length h6,.slice h3 (Yk k sg).root.length h8] 69))
   have o2:N0 w0 W2:=by rw[h9];exact o1.alloc _
   obtain⟨c0,c1,_,_⟩:=Qz (o2.heap HW.o.2.2.1 (λf=>f));have hg:=Qa (TS.o W2);have O2:=Qa (HW.o.2.1.same o2);clear mn o1 o2 TS CK EQ;subst h9;go_wp2_with fail;refine hg.o.mono ?_;rintro e w3 ⟨rfl,o3⟩;have F:=Qa (O2.o.same o3);clear hg o3 O2;go_wp2;go_ret;exact⟨rfl,F.o⟩
  ·rw[if_neg h2]
   simp only[Qf (by omega:0<n)] at TS;obtain⟨t,ht⟩:=EX (decide (m.root=r));simp only[<-ht] at EQ;have d1:decide ((m.ver:Int)<(p:Int))=decide (m.ver<p):=decide_eq_decide.2 (by omega)
   have d2:((m.ver:Int) == (p:Int))=decide (m.ver=p):=by
    by_cases h:m.ver=p
    ·rw[Qf h,h];simp
    ·rw[Qj h,beq_eq_false_iff_ne];omega
   obtain⟨a,ha⟩:=EX (decide (m.ver<p));obtain⟨b,hb⟩:=EX (decide (m.ver=p))
   have hR:(if m.ver<p then (6:Int) else if m.ver=p∧m.root≠r then 7 else 0)=if a=true then 6 else if b=true∧t=false then 7 else 0:=by rw[ha,hb,ht];simp
   rw[hR]
   have hh:¬(a=true∧b=true):=by rw[ha,hb];simp;omega
   have ha':=ha.symm;rw[<-ha] at d1;rw[<-hb] at d2;clear ha hb ht hR h2
   have W1:Hid (∀(v:Int),(if a=true then 6 else if b=true∧t=false then 7 else 0)=v->Calls prog 39 #[vk,.agg #[.int .u64 p,.slice h4 n ct],.agg #[.int .u64 m.ver,.slice ap m.prev.length cp,.slice ae m.es.length ce,.slice ar q cr],vs] w λe w'=>e=.returned (.int .i64 v)∧N0 w w'):=by
    intro v hv
    cases ha2:a <;> cases hb2:b <;> cases ht2:t
    all_goals (subst ha2 hb2 ht2)
    all_goals (first|(exact absurd ⟨rfl,rfl⟩ hh) | skip)
    all_goals (simp at hv)
    all_goals (
     subst hv;clear hh;go_enter func39,ntmps39;go_wp2_with fail;rw[<-HW.o.1];refine CK.o.mono ?_;rintro e w1 ⟨x1,hj,hk,ho,rfl,mn,o1⟩;have hf:=mn.mf.form;obtain⟨h0,h5,ep⟩:=mn.mf.prev.len;obtain⟨hd,h6,ee⟩:=mn.mf.es.len;obtain⟨h3,h8,er⟩:=mn.mf.root.len;subst ep ee er hf;obtain⟨W2,h9⟩:=EX (w1.alloc (.cells #[.int .u64 (Yk k sg).ver,.slice h0 (Yk k sg).prev.length h5,.slice hd (Yk k sg).es.length h6,.slice h3 (Yk k sg).root.length h8] 69))
     have o2:N0 w0 W2:=by rw[h9];exact o1.alloc _
     obtain⟨c0,c1,_,_⟩:=Qz (o2.heap HW.o.2.2.1 (λf=>f));have hg:=Qa (TS.o W2);have O2:=Qa (And.intro (HW.o.2.1.same o2) o2);clear mn o1 o2 TS CK;subst h9;go_wp2_with fail;refine hg.o.mono ?_;rintro e w3 ⟨rfl,o3⟩;clear c0 c1;obtain⟨c0,c1,_,_⟩:=Qz ((O2.o.2.same o3).heap HW.o.2.2.1 (λf=>f));obtain⟨⟨m0,m1,m2,m3⟩,_⟩:=Q9 ((O2.o.2.same o3).heap HW.o.2.2.2 (λf=>f));have EQ1:=Qa (EQ.o w3 (O2.o.1.same o3));have F:=Qa (O2.o.1.same o3);clear hg o3 O2 EQ;go_wp2_with (first|(go_at_call 40;refine EQ1.o.mono ?_;rintro e w4 ⟨rfl,rfl⟩))
     all_goals (
      go_ret
      exact⟨rfl,F.o⟩))
   exact W1.o _ rfl
 ·rw[if_neg h1]
  have hne:(e != 0)=true:=by simpa using h1
  clear h1 TS EQ;go_enter func39,ntmps39;go_wp2_with fail;rw[<-HW.o.1];refine CK.o.mono ?_;rintro e w1 ⟨x1,hj,hk,ho,rfl,mn,o1⟩;have hf:=mn.mf.form;obtain⟨h0,h5,ep⟩:=mn.mf.prev.len;obtain⟨hd,h6,ee⟩:=mn.mf.es.len;obtain⟨h3,h8,er⟩:=mn.mf.root.len;subst ep ee er hf;have F:=Qa (HW.o.2.1.same (o1.alloc (.cells #[.int .u64 (Yk k sg).ver,.slice h0 (Yk k sg).prev.length h5,.slice hd (Yk k sg).es.length h6,.slice h3 (Yk k sg).root.length h8] 69)));clear mn o1 CK;go_wp2;go_ret;exact⟨rfl,F.o⟩
theorem L9 (m:LI) (p:Nat) (r:LI) (v n:Nat):(if m.length=32∧(r.length=0∨r.length=32)∧v≠18446744073709551615 then (if 0<r.length∧v<=p then (6:Int) else if 1048576<n then 4 else 0) else 1)=Yt m (p,r) v n:=rfl
structure BU (w w':World) (u ru:Value) (t r:LI):Prop where
 t:w'.ownsRow w.heap.size 5 1 u t.length (bl t)
 r:Bs .u8 w' ru r
 nr:NoCap ru
 lo:∀k,ru.ownBlock=some k->w.heap.size<=k
 o:N0 w w'
theorem ED.all {N n:Nat} {es:Nat->LI × Int} (h:ED w N n n es):Ens w (.slice (some ⟨N,0,none⟩) n n) ((List.range n).map es):=by
 unfold ED at h;rw[Nat.sub_self,List.replicate_zero,List.append_nil] at h;exact Ens.of_own (lo:=N) (E:=93) (by simpa using h)
theorem BU.no (o:N0 w w'):BU w w' NIL NIL [] []:=⟨World.ownsRow_nil _ _ _ _,Bs.nil _ _,NoCap.nil,(λk hk=>by cases hk),o⟩
theorem Xu (vm vr vl:Value) (m r:LI) (p v:Nat) (l:List Qi) (w:World) (bm:Bs .u8 w vm m) (m8:U8 m) (br:Bs .u8 w vr r) (nr:NoCap vr) (r8:U8 r) (hc:Chs w vl l) (hg:CL l) (hl:l.length<=100) (hv:v<18446744073709551616) (hT:Tab w) :
 Calls prog 10 #[vm,.agg #[.int .u64 p,vr],.int .u64 v,vl] w λe w'=>∃u ru,e=.returned (.tuple #[u,.agg #[.int .u64 (YY m (p,r) v l).1,ru],.int .i64 (QX m (p,r) v l)])∧BU w w' u ru (Q0 m (p,r) v l) (YY m (p,r) v l).2:=by
 obtain⟨ar,cr,rfl⟩:=br.len;obtain⟨am,cm,rfl⟩:=bm.len;obtain⟨al,cl,rfl,_⟩:=hc.len;obtain⟨w0,h8⟩:=EX ((w.alloc (.cells #[.int .u64 p,.slice ar r.length cr] 31)).alloc (.cells #[.int .u64 0,.slice none 0 0] 31))
 have o0:N0 w w0:=by rw[h8];exact ((Only.refl _ _).alloc _).alloc _
 have gP:Hid (w0.heap[w.heap.size]? = some (.cells #[.int .u64 p,.slice ar r.length cr] 31 (0,0))):=by
  show _=_
  rw[h8];exact UJ (heap_alloc_new _ _)
 have gR:Hid (w0.heap[w.heap.size+1]? = some (.cells #[.int .u64 0,.slice none 0 0] 31 (0,0))):=by
  show _=_
  rw[h8];exact Uq (by simp)
 obtain⟨p0,p1,_,_⟩:=Qz gP.o;have MA:=Qa (Sy am m.length cm p ar r.length cr v l.length w0);rw[L9] at MA;have HB:=Qa (And.intro (bm.past o0) (And.intro (br.past o0) (And.intro (hc.past o0) (hT.past o0))));have HI:=Qa (And.intro m8 (And.intro nr (And.intro r8 (And.intro hg (And.intro hl hv)))));have HW:=Qa h8;have O0:=Qa o0
 have hd:Hid (w0.heap.size=w.heap.size+2):=by show _=_;rw[h8];simp
 have R0:Hid (w.heap.size<=w.heap.size+1):=by show _<=_;omega
 obtain⟨L,hL⟩:=EX l.length;obtain⟨M,hM⟩:=EX m.length;obtain⟨rl,ha⟩:=EX r.length;rw[<-hL,<-hM,<-ha] at MA HB;rw[<-ha] at gP HW p1 HI;rw[<-hL,<-hM,<-ha];have HL:=Qa (And.intro hL (And.intro hM ha));clear h8 o0 bm m8 br nr r8 hc hg hl hv hT hL hM ha
 by_cases h1:Yt m (p,r) v L=0
 ·rw[h1] at MA
  have SA:=Qa (λW (o:N0 w0 W)=>OJ (.slice am M cm) (.slice al L cl) m v l W (HB.o.1.past o) HI.o.1 (HB.o.2.2.1.past o) HI.o.2.2.2.1 (by have:=HI.o.2.2.2.2.1;omega) (HB.o.2.2.2.past o))
  have eE:QX m (p,r) v l=QS m 0 l:=by unfold QX;rw[<-HL.o.1,if_pos h1]
  obtain⟨q1,q2,q3,q4,q5⟩:=Jg h1
  by_cases h2:QS m 0 l=0
  ·have eA:QX m (p,r) v l=0:=by rw[eE,h2]
   have eT:Q0 m (p,r) v l=blk (QI m (p,r) v l)++(QW m v l l.length).flatten:=by unfold Q0;rw[if_pos eA]
   have eR:YY m (p,r) v l=(v,QT (QW m v l l.length)):=by unfold YY;rw[if_pos eA]
   have hj:∀c∈l,CG c:=λc hc=>(HI.o.2.2.2.1 c hc).1
   have hq:Y8 (QH m r v l):=Vl (s:=(p,r)) HI.o.2.2.2.2.2 HI.o.2.2.1 hj eA;have hr:Mok (QH m r v l):=Ew (s:=(p,r)) HI.o.2.2.2.2.2 HI.o.2.2.1 hj
   have hu:(QH m r v l).es.length<=100:=by show (Yp m l l.length).length<=100;rw[KH];exact HI.o.2.2.2.2.1
   have ho:UX m (QH m r v l)=0:=by unfold UX;rw[if_pos q1];exact (Xq hr).2 hq
   have eS:UD m (QH m r v l)=QI m (p,r) v l:=by unfold UD;rw[if_pos ho];rfl
   have k1:(QI m (p,r) v l).length<=10032:=by have:=RQ hq hu;unfold QI;rw[Qb,YJ];show (MENC (QH m r v l)).length+32<=_;omega
   have RT:=Qa (λ(W:World) (x:Value) (h:RL W x (QW m v l l.length))=>Rp x (QW m v l l.length) W h (R9 hj _) (by rw[JH];have:=HI.o.2.2.2.2.1;omega));have PV:=Qa (λW (o:N0 w0 W)=>yt (.int .u64 p) (.slice ar rl cr) r W (HB.o.2.1.past o) HI.o.2.1);have SG:=Qa (λW (o:N0 w0 W) (x vp ve vr:Value) (h:Mf W x (QH m r v l) vp ve vr) (np:NoCap vp) (nr:NoCap vr)=>IZ (.slice am M cm) x vp ve vr m (QH m r v l) W (HB.o.1.past o) HI.o.1 h hr np nr (by omega));simp only[ho,eS] at SG;have BK:=Qa (λ(W:World) (x:Value) (h:Bs .u8 W x (QI m (p,r) v l)) (n:NoCap x)=>Wy x (QI m (p,r) v l) W h n (by omega));have HG:Hid ((QI m (p,r) v l).length<=10032∧(blk (QI m (p,r) v l)).length<=20000∧0<(blk (QI m (p,r) v l)).length):=⟨k1,by have:=UW (QI m (p,r) v l) (by omega);omega,by unfold blk;rw[Qb];have:=Vj (QI m (p,r) v l).length;omega⟩;rw[eA,eT,eR];rw[h2] at SA;have k2:=Qa h2;have HQ2:=Qa q2;have eRT:(QH m r v l).root=QT (QW m v l l.length):=rfl;have eVR:(QH m r v l).ver=v:=rfl;clear h1 h2 eE eA eT eR hq hr hu ho eS k1 q1 q2 q3 q4 q5 hj;go_enter func10,ntmps10;go_wp2_with fail;rw[<-HW.o];refine MA.o.mono ?_;rintro e w1 ⟨rfl,o1⟩;have S1:=Qa (SA.o w1 o1);have O1:=Qa o1;clear MA SA o1 p0 p1;go_wp2_with fail;refine S1.o.mono ?_;rintro e w2 ⟨a,b,rfl,sa,_,o2⟩;obtain⟨N1,N2,rfl,rfl,n1,n2,ld,ed⟩:=sa k2.o;rw[<-HL.o.1] at ld ed;have O2:=Qa (O1.o.same o2);have D9S:Hid (w0.heap.size<=w2.heap.size):=O2.o.size;have k3:=Qa (RT.o w2 (.slice (some ⟨N1,0,none⟩) L L) (by have:=ld.all;rw[HL.o.1] at this ⊢;exact this));have D2:=Qa (And.intro ld (And.intro ed (And.intro (show w.heap.size+2<=N1 by have:=O1.o.size;have:=hd.o;omega) (show w.heap.size<=N2 by have:=O0.o.size;have:=O1.o.size;omega))));rw[<-HL.o.1];clear sa o2 S1 ld ed n1 n2 RT O1 k2;go_wp2_with fail;refine k3.o.mono ?_;rintro e w3 ⟨ro,rfl,h6,o3⟩;have O3:=Qa (O2.o.same o3);obtain⟨p0,p1,_,_⟩:=Qz (O3.o.heap gP.o (λf=>f));have hw:=Qa (PV.o w3 O3.o);have D3:=Qa (And.intro (D2.o.1.past o3) (And.intro (D2.o.2.1.past o3) (And.intro D2.o.2.2.1 (And.intro D2.o.2.2.2 h6))));obtain⟨a3,c3,rfl⟩:=QB h6;clear h6 o3 k3 O2 D2 PV;go_wp2_with fail;refine hw.o.mono ?_;rintro e w4 ⟨pv,rfl,bp,np,o4⟩;obtain⟨a4,c4,rfl,_⟩:=bp.formN (n:=32) (Tc (by have:=HQ2.o;exact this));obtain⟨W5,hm⟩:=EX (w4.alloc (.cells #[.int .u64 v,.slice a4 32 c4,.slice (some ⟨N2,0,none⟩) L L,.slice a3 32 c3] 69))
   have o5:N0 w4 W5:=by rw[hm];exact (Only.refl _ _).alloc _
   have g5:W5.heap[w4.heap.size]? = some (.cells #[.int .u64 v,.slice a4 32 c4,.slice (some ⟨N2,0,none⟩) L L,.slice a3 32 c3] 69 (0,0)):=by rw[hm];exact heap_alloc_new _ _
   have hld:=YB g5;obtain⟨⟨y0,y1,y2,y3⟩,_⟩:=Q9 g5;have h7:=o4.same o5;have O5:=Qa (O3.o.same h7)
   have hx:=Qa (SG.o W5 O5.o _ (.slice a4 32 c4) (.slice (some ⟨N2,0,none⟩) L L) (.slice a3 32 c3)
    ⟨rfl,bp.past o5,by
     have h:=D3.o.2.1.past h7;rw[HL.o.1] at h ⊢
     exact h.all,by
     have h:=h7.own D3.o.2.2.2.2 (λ_ _ f=>f)
     exact Bs.of_own (k:=.u8) (E:=5) (lo:=w2.heap.size) (by rw[eRT,UQ];exact h)⟩ np (NoCap.of_own D3.o.2.2.2.2))
   have D5:=Qa (And.intro (D3.o.1.past h7) (And.intro D3.o.2.2.1 (h7.own D3.o.2.2.2.2 (λ_ _ f=>f))));have H5:=Qa (And.intro hm D3.o.2.2.2.2);clear bp np o4 o5 h7 g5 hw D3 O3 SG p0 p1 hm;go_wp2_with fail;rw[<-H5.o.1];refine hx.o.mono ?_;rintro e w6 ⟨sg,rfl,h4,o6⟩;have O6:=Qa (O5.o.same o6);have ht:=Qa (BK.o w6 sg (Bs.of_own h4) (NoCap.of_own h4));have D6:=Qa (And.intro (D5.o.1.past o6) (And.intro D5.o.2.1 (o6.own D5.o.2.2 (λ_ _ f=>f))));clear h4 o6 hx O5 D5 BK hld y0 y1 y2 y3;go_wp2_with fail;refine ht.o.mono ?_;rintro e w7 ⟨x7,rfl,h5,o7⟩;obtain⟨a7,c7,rfl⟩:=QB h5;obtain⟨hn,h3⟩:=EX ((blk (QI m (p,r) v l)).length);obtain⟨W8,hf⟩:=EX (w7.alloc (.cells #[.slice a7 hn c7] 23))
   have o8:N0 w7 W8:=by rw[hf];exact (Only.refl _ _).alloc _
   have c8:W8.cell? ⟨w7.heap.size,0,none⟩=some (.slice a7 hn c7):=(UH (T:=23) (by rw[hf];exact heap_alloc_new _ _)).1;have hh:=o7.same o8;obtain⟨vs,hp,hb⟩:=(D6.o.1.past hh).ex;rw[Nat.sub_self,List.replicate_zero,List.append_nil] at hb;have hNb:=Vv hb
   obtain⟨cs8,hy⟩:∃cs,W8.heap[N1]? = some (.cells cs 23):=by
    rcases hb.2 with ⟨e,_⟩ | ⟨g,cap,cur,e,_,hg,_⟩
    ·cases e
    ·cases e;exact⟨_,hg⟩
   have IN:=Qa (Aw N1 w7.heap.size L N1 (.slice a7 hn c7) vs W8 (by have:=HI.o.2.2.2.2.1;have:=HL.o.1;omega) hb hp.one' c8 rfl (by omega));have D8:=Qa (And.intro hp (And.intro hy (And.intro D6.o.2.1 (And.intro (hh.own D6.o.2.2 (λ_ _ f=>f)) (And.intro (o8.own h5 (λ_ _ f=>f)) (O6.o.same hh))))));have H8:=Qa (And.intro hf h3);rw[<-h3];clear h5 o7 o8 c8 hh hp hb hNb hy ht D6 O6 hf h3;go_wp2_with fail;rw[<-H8.o.1];refine IN.o.mono ?_;rintro e w9 ⟨B,C,rfl,he,o9⟩;have O9:=Qa ((D8.o.2.2.2.2.2).trans o9 (λi hi e=>by have:=D8.o.2.2.1;have:=hd.o;omega));have PC:=Qa (A5 (ls:=QW m v l l.length) he (by have:=HI.o.2.2.2.2.1;have:=HL.o.1;omega) ⟨w6.heap.size,Xa o9 D8.o.2.1 (by rw[H8.o.2];exact D8.o.2.2.2.2.1)⟩ (by have:=D8.o.1.off o9 D8.o.2.1;rw[HL.o.1] at this;exact this) HG.o.2.2 (by have:=HG.o.2.1;omega) Si);have D9:=Qa (Xa o9 D8.o.2.1 D8.o.2.2.2.1);clear he o9 IN D8;go_wp2_with fail;refine PC.o.mono ?_;rintro e k0 ⟨u,rfl,h0,hs⟩;have hz:=Qa (O9.o.same hs);have g1:=hz.o.heap gR.o (λf=>f);obtain⟨q0,q1,z0,z1⟩:=Qz g1;have P2:=put2 g1 (.int .u64 (v:Int)) (.slice a3 32 c3)
   have HR:∀{lo n:Nat} {x:Value} {xs:List Value} {b:Nat},k0.ownsRow lo 5 1 x n xs->∀k,x.ownBlock=some k->¬k=w.heap.size+1:=by
    intro lo n x xs _ h k hk e;subst e
    rcases h.2 with ⟨rfl,_⟩ | ⟨g,cap,cur,rfl,_,hg,_⟩
    ·cases hk
    ·cases hk;rw[g1] at hg;cases hg
   have h9:=hs.own D9.o (λ_ _ f=>f)
   have F:=Qa (And.intro (V4 P2.1) (show BU w ((k0.setCell ⟨w.heap.size+1,0,none⟩ (.int .u64 (v:Int))).setCell ⟨w.heap.size+1,1,none⟩ (.slice a3 32 c3)) u (.slice a3 32 c3) (blk (QI m (p,r) v l)++(QW m v l l.length).flatten) (QT (QW m v l l.length)) from by
    refine⟨Qv (P2.2.own h0 (HR (b:=0) h0)) (by have:=O0.o.size;have:=O9.o.size;omega),?_,NoCap.of_own h9,λk hk=>?_,(O0.o.same hz.o).trans P2.2 (λi hi e=>by omega)⟩
    ·exact Bs.of_own (k:=.u8) (E:=5) (lo:=w2.heap.size) (by rw[UQ];exact P2.2.own h9 (HR (b:=0) h9))
    ·have h1:=(h9.lt k hk).1
     have:=O0.o.size;have:=D9S.o
     omega))
   clear P2 g1 h0 hs PC HR h9;go_wp2;exact bodyPost_ret (VT rfl _ _ rfl rfl rfl F.o.1) rfl ⟨_,_,rfl,F.o.2⟩
  ·have eT:Q0 m (p,r) v l=[]:=by unfold Q0;rw[eE,if_neg h2]
   have eR:YY m (p,r) v l=(0,[]):=by unfold YY;rw[eE,if_neg h2]
   rw[eE,eT,eR]
   have hne:(QS m 0 l != 0)=true:=by simpa using h2
   clear h1 eE eT eR h2 q1 q2 q3 q4 q5;generalize QS m 0 l=c at *;go_enter func10,ntmps10;go_wp2_with fail;rw[<-HW.o];refine MA.o.mono ?_;rintro e w1 ⟨rfl,o1⟩;have S1:=Qa (SA.o w1 o1);have O1:=Qa o1;clear MA SA o1 p0 p1;go_wp2_with fail;refine S1.o.mono ?_;rintro e w2 ⟨a,b,rfl,_,_,o2⟩;have g1:=(O1.o.same o2).heap gR.o (λf=>f);obtain⟨q0,q1,z0,z1⟩:=Qz g1;have P2:=put2 g1 (.int .u64 0) (.slice none 0 0);have F:=Qa (And.intro (V4 P2.1) ((O0.o.same (O1.o.same o2)).trans P2.2 (λi hi e=>by omega)));clear P2 g1 S1 o2;go_wp2;refine bodyPost_ret (VT rfl _ _ rfl rfl rfl F.o.1) rfl ⟨_,_,rfl,BU.no F.o.2⟩
 ·have eE:QX m (p,r) v l=Yt m (p,r) v L:=by unfold QX;rw[<-HL.o.1,if_neg h1]
  have eT:Q0 m (p,r) v l=[]:=by unfold Q0;rw[eE,if_neg h1]
  have eR:YY m (p,r) v l=(0,[]):=by unfold YY;rw[eE,if_neg h1]
  rw[eE,eT,eR]
  have hne:(Yt m (p,r) v L != 0)=true:=by simpa using h1
  clear eE eT eR h1;generalize Yt m (p,r) v L=c at *;go_enter func10,ntmps10;go_wp2_with fail;rw[<-HW.o];refine MA.o.mono ?_;rintro e w1 ⟨rfl,o1⟩;have g1:=o1.heap gR.o (λf=>f);obtain⟨q0,q1,z0,z1⟩:=Qz g1;have P2:=put2 g1 (.int .u64 0) (.slice none 0 0);have F:=Qa (And.intro (V4 P2.1) ((O0.o.same o1).trans P2.2 (λi hi e=>by omega)));clear P2 g1 MA o1;go_wp2;refine bodyPost_ret (VT rfl _ _ rfl rfl rfl F.o.1) rfl ⟨_,_,rfl,BU.no F.o.2⟩
def Hj (vk:Value) (m:MAN) (ls:List (LI)) (cs:List Qi) (w:World):Prop :=
 ∀(W:World) (x vp ve vr a:Value) (vs:List Value) (lo:Nat),N0 w W->Mf W x m vp ve vr->LO W vs ls->W.ownsRow lo 23 1 a ls.length vs ->
  Calls prog 41 #[vk,x,a] W λe w'=>∃c,e=.returned (.tuple #[c,.int .i64 0])∧(∀(W':World) (R:Nat),R<W.heap.size->Only (λk=>k=R) w' W'->Chs W' c cs)∧N0 W w'
theorem qR {b sg:LI} {m:MAN} (h8:U8 b) (h:We b=.ok (m,sg,ls)):Y8 m∧U8 sg∧sg.length<=268435456:=by
 obtain⟨k,hs,h32,hm,hcut⟩:=Gt h;have h0:=Gv h8 hs;refine⟨(GQ (h0.take _) hm).1,h0,?_⟩;unfold Qo at hs;rw[if_neg (by omega)] at hs
 split at hs
 ·simp only[Prod.mk.injEq] at hs;rw[<-hs.1];simp
 ·split at hs
  ·simp only[Prod.mk.injEq] at hs;omega
  ·split at hs
   ·simp only[Prod.mk.injEq] at hs;omega
   ·simp only[Prod.mk.injEq] at hs;rw[<-hs.1,Qd];omega
theorem yR (vk vt vb:Value) (k r b sg:LI) (p:Nat) (m:MAN) (ls:List (LI)) (cs:List Qi) (w:World) (bk:Bs .u8 w vk k) (k8:U8 k) (bt:Bs .u8 w vt r) (r8:U8 r) (hb:Bs .u8 w vb b) (b8:U8 b) (hl:b.length<=1000000000000)
 (h32:k.length=32) (hr:r.length=0∨r.length=32) (hx:We b=.ok (m,sg,ls)) (l8:R8 ls) (ht:ls.length<=1048576) (hroot:QT ls=m.root) (hT:Vc k (p,r) m sg=0) (hU:Hj vk m ls cs w) :
 Calls prog 17 #[vk,.agg #[.int .u64 p,vt],vb] w λe w'=>∃c rv,e=.returned (.tuple #[c,.agg #[.int .u64 m.ver,rv],.int .i64 0])∧Chs w' c cs∧Bs .u8 w' rv m.root∧NoCap rv∧N0 w w':=by
 obtain⟨hG,ho,hsl⟩:=qR b8 hx;obtain⟨ak,ck,ek⟩:=bk.len;obtain⟨h6,ct,et⟩:=bt.len;subst ek et;obtain⟨w0,h4⟩:=EX ((w.alloc (.cells #[.int .u64 p,.slice h6 r.length ct] 31)).alloc (.cells #[.int .u64 0,.slice none 0 0] 31))
 have o0:N0 w w0:=by rw[h4];exact ((Only.refl _ _).alloc _).alloc _
 have gP:Hid (w0.heap[w.heap.size]? = some (.cells #[.int .u64 p,.slice h6 r.length ct] 31 (0,0))):=by show _=_;rw[h4];exact UJ (heap_alloc_new _ _)
 have gR:Hid (w0.heap[w.heap.size+1]? = some (.cells #[.int .u64 0,.slice none 0 0] 31 (0,0))):=by show _=_;rw[h4];exact Uq (by simp)
 obtain⟨p0,p1,_,_⟩:=Qz gP.o;have RI:=Qa (Rl (.int .u64 p) h6 r.length ct w0);rw[Qf hr] at RI;have SP:=Qa (λW (o:N0 w W)=>Dh vb b W (hb.past o) b8 hl hx);have TR:=Qa (λW (o:N0 w W) (x vp ve vr vs:Value) (hm:Mf W x m vp ve vr) (hv:Bs .u8 W vs sg)=>MJ (.slice ak k.length ck) (.slice h6 r.length ct) x vp ve vr vs k r sg p m W (bk.past o) k8 (bt.past o) r8 hm hG.2.2.1.2 hv ho (by omega));simp only[hT] at TR;have RT:=Qa (λ(W:World) (x:Value) (h:RL W x ls)=>Rp x ls W h l8 (by omega));have EQ:=Qa (λ(W:World) (x y:Value) (h1:Bs .u8 W x (QT ls)) (h2:Bs .u8 W y m.root)=>GK x y (QT ls) m.root W h1 h2 (Zi ls) hG.2.2.1.2);simp only[Qf hroot] at EQ;have UA:=Qa hU;have HW:=Qa (And.intro h4 o0)
 have hsz:Hid (w0.heap.size=w.heap.size+2):=by show _=_;rw[h4];simp
 have d1:((k.length:Int) != 32)=false:=by rw[h32];rfl
 obtain⟨M,hM⟩:=EX k.length;obtain⟨n,hn⟩:=EX r.length;rw[<-hM] at d1 TR UA ⊢;rw[<-hn] at RI TR gP HW p1 ⊢;have HL:=Qa (And.intro ht (And.intro (UQ ls) hroot));clear bk k8 bt r8 hb b8 hl h32 hr hx l8 ht hroot hT hU hG ho hsl h4 o0 hM hn;go_enter func17,ntmps17;go_wp2_with fail;rw[<-HW.o.1];refine RI.o.mono ?_;rintro e w1 ⟨rfl,o1⟩;have hp:=Qa (SP.o w1 (HW.o.2.same o1));have O1:=Qa o1;clear RI SP o1 p0 p1;go_wp2_with fail;refine hp.o.mono ?_;rintro e w2 ⟨x,vp,ve,vr,u,a,rfl,sw⟩;have hf:=sw.mn.mf.form;obtain⟨ap,cp,ep⟩:=sw.mn.mf.prev.len;obtain⟨ae,ce,ee⟩:=sw.mn.mf.es.len;obtain⟨ar,cr,er⟩:=sw.mn.mf.root.len;subst ep ee er hf;obtain⟨vs,lo,own⟩:=sw.ls;obtain⟨aa,ca,ea⟩:=QB own;subst ea;obtain⟨W3,hg⟩:=EX (w2.alloc (.cells #[.int .u64 m.ver,.slice ap m.prev.length cp,.slice ae m.es.length ce,.slice ar m.root.length cr] 69))
 have o3:N0 w2 W3:=by rw[hg];exact (Only.refl _ _).alloc _
 have h7:N0 w0 W3:=(O1.o.same sw.o).same o3
 have gM:=show W3.heap[w2.heap.size]? = some (.cells #[.int .u64 m.ver,.slice ap m.prev.length cp,.slice ae m.es.length ce,.slice ar m.root.length cr] 69 (0,0)) by rw[hg];exact heap_alloc_new _ _
 have he:=YB gM;obtain⟨⟨y0,y1,y2,y3⟩,_⟩:=Q9 gM;obtain⟨p0,p1,_,_⟩:=Qz (h7.heap gP.o (λf=>f));have hs:=Qa (TR.o W3 (HW.o.2.same h7) _ (.slice ap m.prev.length cp) (.slice ae m.es.length ce) (.slice ar m.root.length cr) u (sw.mn.mf.past o3) (sw.sg.past o3));have H3:=Qa (And.intro h7 (And.intro gM (And.intro (sw.mn.mf.past o3) (And.intro (lo.past o3) (And.intro (o3.own own (λ_ _ f=>f)) sw.mn.nr)))));clear sw lo own o3 h7 gM TR hp O1;subst hg;go_wp2_with fail;refine hs.o.mono ?_;rintro e w4 ⟨rfl,o4⟩;have hj:=o4.heap H3.o.2.1 (λf=>f);clear y0 y1 y2 y3 he p0 p1;obtain⟨⟨y0,y1,y2,y3⟩,_⟩:=Q9 hj;have H4:=Qa (And.intro (H3.o.1.same o4) (And.intro hj (And.intro (H3.o.2.2.1.past o4) (And.intro (H3.o.2.2.2.1.past o4) (And.intro (o4.own H3.o.2.2.2.2.1 (λ_ _ f=>f)) H3.o.2.2.2.2.2)))));have hk:=Qa (λW (o:N0 w4 W)=>((H4.o.2.2.2.1.past o).rl (lo:=w1.heap.size) (by rw[H4.o.2.2.2.1.1];exact o.own H4.o.2.2.2.2.1 (λ_ _ f=>f))).1);have ha:=Qa (λW (o:N0 w4 W)=>H4.o.2.2.1.root.past o);have hu:=Qa (λW (o:N0 w4 W)=>RT.o W _ (hk.o W o));clear o4 hj hs H3 RT hk;go_wp2_with fail
 go_region_held3 (λW=>W.cell? ⟨w2.heap.size,3,none⟩=some (.slice ar m.root.length cr)) (go_keep)
  (first
   | (go_at_call 23;refine (hu.o _ ((Only.refl _ _).drew)).mono ?_;rintro e w5 ⟨u5,rfl,h0,o5⟩;have O5:=Qa (((Only.refl (λ_=>False) w4).drew).same o5);have k3:=Uw y3 O5.o;obtain⟨a5,c5,rfl⟩:=QB h0;have B5:=Qa (show Bs .u8 w5 (.slice a5 32 c5) (QT ls) from Bs.of_own (k:=.u8) (E:=5) (lo:=w4.drew.heap.size) (by rw[HL.o.2.1];exact h0));clear h0 o5 y0 y1 y2 y3 hu)
   | (go_at_call 40;refine (EQ.o w5 _ _ B5.o (ha.o w5 O5.o)).mono ?_;rintro e w6 ⟨rfl,rfl⟩;clear B5 EQ)
   | fail)
 have h8:=O5.o.heap H4.o.2.1 (λf=>f);have he:=YB h8;clear k3;obtain⟨⟨y0,y1,y2,y3⟩,_⟩:=Q9 h8;have hq:=Qa (UA.o w5 _ (.slice ap m.prev.length cp) (.slice ae m.es.length ce) (.slice ar m.root.length cr) (.slice aa ls.length ca) vs w1.heap.size (HW.o.2.same (H4.o.1.same O5.o)) (H4.o.2.2.1.past O5.o) (H4.o.2.2.2.1.past O5.o) (O5.o.own H4.o.2.2.2.2.1 (λ_ _ f=>f)));have H5:=Qa (And.intro (H4.o.1.same O5.o) (And.intro h8 (And.intro (ha.o w5 O5.o) H4.o.2.2.2.2.2)));clear h8 H4 O5 ha UA;go_wp2_with fail;refine hq.o.mono ?_;rintro e w7 ⟨c,rfl,h9,o7⟩;have hh:=H5.o.1.same o7
 have hd:w.heap.size+1<w5.heap.size:=by have:=hsz.o;have:=H5.o.1.size;omega
 obtain⟨ac,lc,cc,rfl⟩:∃a n c',c=.slice a n c':=by
  obtain⟨a,c',e,_⟩:=(h9 w7 (w.heap.size+1) hd (Only.refl _ _)).len;exact⟨_,_,_,e⟩
 have h5:=o7.heap H5.o.2.1 (λf=>f);clear he y0 y1 y2 y3;obtain⟨⟨y0,y1,y2,y3⟩,_⟩:=Q9 h5;have h3:=hh.heap gR.o (λf=>f);obtain⟨q0,q1,z0,z1⟩:=Qz h3;have P2:=put2 h3 (.int .u64 m.ver) (.slice ar m.root.length cr)
 have hne:¬w2.heap.size=w.heap.size+1:=by
  intro e;rw[e] at h5;rw[h5] at h3;simp at h3
 have F:=Qa (And.intro (V4 (show ((((w7.setCell ⟨w.heap.size+1,0,none⟩ (.int .u64 m.ver)).setCell ⟨w.heap.size+1,1,none⟩ (.slice ar m.root.length cr)).drew).heap[w.heap.size+1]? = _) from P2.1)) (And.intro (h9 _ _ hd P2.2.drew) (And.intro (((H5.o.2.2.1.past o7).offB (g:=w.heap.size+1) (T:=31) (cs:=[.int .u64 0,.slice none 0 0]) h3 (λy hy x=>by simp at hy;rcases hy with rfl | rfl <;> simp) P2.2.drew)) (And.intro H5.o.2.2.2 ((HW.o.2.same hh).trans P2.2.drew (λi hi e=>by omega))))));clear h9 o7 hh hq h5 h3 P2 H5 hd;go_wp2;go_region;go_wp2;exact bodyPost_ret (VT rfl _ _ rfl rfl rfl F.o.1) rfl ⟨_,_,rfl,F.o.2⟩
theorem Tryz.infoCk:(prog.info? 46).map (λi=>(i.zero,i.size,i.bytes))=some (some (.agg #[.string ⟨#[]⟩,.slice none 0 0]),2,40):=by kernel_rfl
theorem CW (vk:Value) (m:MAN) (w:World):Hj vk m [] [] w:=by
 intro W x vp ve vr a vs lo _ hm hL own;have hf:=hm.form;obtain⟨ap,cp,ep⟩:=hm.prev.len;obtain⟨ae,ce,ee⟩:=hm.es.len;obtain⟨ar,cr,er⟩:=hm.root.len;obtain⟨aa,ca,ea⟩:=QB own;subst ep ee er hf ea;obtain⟨W0,h2⟩:=EX (W.alloc (.cells #[.int .u64 m.ver,.slice ap m.prev.length cp,.slice ae m.es.length ce,.slice ar m.root.length cr] 69));obtain⟨i0,hi,hz0,hz1,hz2⟩:=info_parts Tryz.infoCk;obtain⟨wm,hmk,h1,h3⟩:=run_make_full (P:=prog) W0 W0.heap.size 32 46 i0 (.agg #[.string ⟨#[]⟩,.slice none 0 0]) 2 underlying32 hi hz0 hz1 .i64 .i64 0 (by rw[hz2];omega) (by unfold maxLen;omega) (Nat.le_refl _)
 have F:=Qa (show N0 W wm from by
  have h0:N0 W W0:=by rw[h2];exact (Only.refl _ _).alloc _
  exact h0.grown h3 (λk _ e=>by cases e))
 rw[show ((0:Nat):Int)=0 from rfl] at hmk;clear hm hL own h1 h3;subst h2;go_enter func41,ntmps41;go_wp2
 go_loopw [18] (λi wr=>i=.int .i64 0∧wr=wm) (λi _=>0)
 case atStart=>exact⟨rfl,rfl⟩
 case round =>
  obtain⟨rfl,rfl⟩:=hrel;go_wp2;go_ret2;exact⟨_,rfl,λW' R _ _=>⟨_,_,rfl,Nat.le_refl _,λh=>absurd rfl h⟩,F.o⟩
theorem MS {m:LI} {v:Nat} {l:List Qi} (h:QS m 0 l=0) {j:Nat} (hj:j<l.length):((QW m v l l.length).getD j []).length=(QV ((Yp m l l.length).getD j ([],0)).2).toNat+16:=by
 have hc:=Jc l 0 h j hj;rw[Nat.zero_add] at hc;have hs:=(Ge hc).2;rw[Dv m v l hj,BI m l hj,Xo hs]
 show _=(QV (QU _ _ _)).toNat+16
 unfold QU;rw[if_pos hs,GF]
 rfl
theorem Iz {m:LI} {s:YA} {v:Nat} {l:List Qi} (hv:v<18446744073709551616) (s8:U8 s.2) (hl:∀c∈l,CG c) (h100:l.length<=100) (h:QX m s v l=0):(MENC (QH m s.2 v l)).length<=10000 :=
 RQ (Vl hv s8 hl h) (by show (Yp m l l.length).length<=100;rw[KH];exact h100)
theorem qH {m:LI} {s:YA} {v:Nat} {l:List Qi} (hv:v<18446744073709551616) (s8:U8 s.2) (hl:∀c∈l,CG c) (h100:l.length<=100) (h:QX m s v l=0):We (Q0 m s v l)=.ok (QH m s.2 v l,QI m s v l,QW m v l l.length):=by
 have hsm:=Iz hv s8 hl h100 h;unfold Q0;rw[if_pos h];refine yW (Vl hv s8 hl h) (YJ _ _) (by omega) ?_ ?_
 ·show (Yp m l l.length).length=_;rw[KH,JH]
 ·intro j hj
  have hj':j<l.length:=by have:(QH m s.2 v l).es.length=l.length:=KH _ _ _;omega
  exact MS (X7 h).2 hj'
theorem Ot {m:LI} {s:YA} {v:Nat} {l:List Qi} (hv:v<18446744073709551616) (s8:U8 s.2) (hl:∀c∈l,CG c) (h:QX m s v l=0):Ui m (QI m s v l)=0:=by
 have hL:(QI m s v l).length=(MENC (QH m s.2 v l)).length+32:=by unfold QI;rw[Qb,YJ]
 unfold Ui;rw[if_pos (Jg (X7 h).1).1,if_neg (by omega),hL,Nat.add_sub_cancel]
 have e1:(QI m s v l).take (MENC (QH m s.2 v l)).length=MENC (QH m s.2 v l):=by unfold QI;exact List.take_left
 have e2:(QI m s v l).drop (MENC (QH m s.2 v l)).length=MACL (Ye m) (MENC (QH m s.2 v l)):=by unfold QI;exact List.drop_left
 rw[e1,e2,if_pos rfl];exact (Iw (Vl hv s8 hl h)).2
theorem AR_u8 {m:LI} {s:YA} {v:Nat} {l:List Qi} (hv:v<18446744073709551616) (s8:U8 s.2) (hl:∀c∈l,CG c) (h:QX m s v l=0):U8 (QI m s v l)∧U8 (Q0 m s v l):=by
 have hg:U8 (QI m s v l):=by unfold QI;exact U8.app (JN (Vl hv s8 hl h)) (Kz _ _)
 refine⟨hg,?_⟩;unfold Q0;rw[if_pos h];refine U8.app (Wu _ hg) (λy hy=>?_);obtain⟨x,hx,hy⟩:=List.mem_flatten.1 hy;exact (R9 hl _ x hx).1 y hy
end Go.Proofs.YtiochaeeoelmjaaGreatDoor
