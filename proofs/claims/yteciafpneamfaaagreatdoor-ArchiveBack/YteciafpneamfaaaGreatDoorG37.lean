import Derived.Test.YteciafpneamfaaaGreatDoorG36
namespace Go.Proofs.YteciafpneamfaaaGreatDoor
set_option maxHeartbeats 4000000
set_option maxRecDepth 100000
open Go.RowKit _root_.Go.Proofs.Tryz
variable {w w' W:World} {v:Value} {ys xs l:LI} {R n p k g B:Nat} {P:Program} {ls:List (LI)} {E:TypeId}
theorem zF {fn:Func} {a b c:Tmp} {ty:TypeId} (h:fn.results=#[.cell a ty,.tmp b,.tmp c]) (tmps:Array Value) (w:World) {ad:Addr} {v1 v2 v3:Value}
 (h1:tmps.getD a undef=.pointer (some ad)) (h2:tmps.getD b undef=v2) (h3:tmps.getD c undef=v3) (hl:(loadVar ty ad).run P w=.ok v1 w) :
 (results fn tmps).run P w=.ok (.tuple #[v1,v2,v3]) w:=by
 have h1':tmps[a]?.getD undef=.pointer (some ad):=by simpa using h1
 have h2':tmps[b]?.getD undef=v2:=by simpa using h2
 have h3':tmps[c]?.getD undef=v3:=by simpa using h3
 simp[results,h,h1',h2',h3',asAddr,hl]
theorem Bs.recap {k:IntKind} {ao:Option Addr} {n c c':Nat} (h:Bs k w (.slice ao n c) xs) (hc:n<=c'):Bs k w (.slice ao n c') xs:=by
 obtain⟨ao',cap',e,h1,h2⟩:=h;simp at e;obtain⟨rfl,rfl,rfl⟩:=e;exact⟨_,_,rfl,hc,h2⟩
theorem Mnw.lowS {a b w':World} {x:Value} {m:MAN} {vp ve vr:Value} (h:Mnw b w' x m vp ve vr) (o:a.heap.size<=b.heap.size):Mnw a w' x m vp ve vr :=
 ⟨h.mf,h.np,h.nr,λk hk=>by have:=h.bp k hk;omega,λk hk=>by have:=h.be k hk;omega,λk hk=>by have:=h.br k hk;omega⟩
theorem Mnw.past {a w w':World} {x:Value} {m:MAN} {vp ve vr:Value} (h:Mnw a w x m vp ve vr) (o:N0 w w'):Mnw a w' x m vp ve vr:=⟨h.mf.past o,h.np,h.nr,h.bp,h.be,h.br⟩
theorem xI {ys sg:LI} {m:MAN} (w:World) (hvb:∀b,v.ownBlock=some b->b<w.heap.size) (hC:CurAt 112 w R v ys) (hs:Qp 268435456 ys=(sg,k,0)) (h32:32<=sg.length) (hm:MDEC (sg.take (sg.length - 32))=.ok m) (h8:U8 sg) :
 Calls prog 40 #[.func (.func 41) #[.pointer (some ⟨R,0,none⟩)] #[]] w λe w'=>∃x vp ve vr u,e=.returned (.tuple #[x,u,.int .i64 0])∧Mnw w w' x m vp ve vr∧Bs .u8 w' u sg∧NoCap u∧(∀q,u.ownBlock=some q->w.heap.size<=q)∧(∃v2,CurAt 112 w' R v2 (ys.drop k)∧v2.ownBlock=v.ownBlock)∧Only (λk=>k=R) w w':=by
 have h7:R<w.heap.size:=(Array.getElem?_eq_some_iff.1 hC.cell).1;have h1:=hC.len;obtain⟨w0,h0⟩:=EX (w.alloc (.cells #[.int .u64 0,.slice none 0 0,.slice none 0 0,.slice none 0 0] 51))
 have o0:N0 w w0:=by rw[h0];exact (Only.refl _ _).alloc _
 have g0:Hid (w0.heap[w.heap.size]? = some (.cells #[.int .u64 0,.slice none 0 0,.slice none 0 0,.slice none 0 0] 51 (0,0))):=by show _=_;rw[h0];exact heap_alloc_new _ _
 have BL:=Qa (Zf (hC.keep o0 (λf=>f) (λ_ _ f=>f)) 268435456 (by omega));rw[hs] at BL
 have hle:sg.length<=268435456:=by
  have:=hs;unfold Qp at this;rw[if_neg (by omega)] at this
  split at this
  ·rename_i q;simp only[Prod.mk.injEq] at this;rw[<-this.1];simp
  ·split at this
   ·simp only[Prod.mk.injEq] at this;omega
   ·split at this
    ·simp only[Prod.mk.injEq] at this;omega
    ·simp only[Prod.mk.injEq] at this;rw[<-this.1,Qg];omega
 obtain⟨e1,e2⟩:=MD_ok hm;have DE:=Qa (λ(W:World) (u:Value) (h:Bs .u8 W u (sg.take (sg.length - 32)))=>Ad u _ W h (h8.take _) (by rw[Qg];omega));rw[e1,e2] at DE;obtain⟨q,hq⟩:=EX sg.length;obtain⟨p,hp⟩:=EX (q - 32);rw[<-hq,<-hp] at DE;have HQ:=Qa (And.intro hq (show p<=sg.length by omega))
 have hsub:(q:Int) - 32=(p:Int):=by omega
 have dn:decide ((p:Int)<0)=false:=Qh (by omega)
 have j0:(0:Int)<=(p:Int):=by omega
 have j1:(p:Int)<=(q:Int):=by omega
 have hqb:q<=268435456:=by omega
 have HW:=Qa (And.intro h0 o0);have HR:=Qa h7;have HV:=Qa hvb;clear hC hvb hs h32 hm h8 h1 h0 o0 hle e1 e2 hq hp h7;go_enter func40,ntmps40;go_wp2_with fail;rw[<-HW.o.1];refine BL.o.mono ?_;rintro e w1 ⟨v1,rfl,b1,n1,h3,v2,h9,h6,o1⟩;obtain⟨a1,c1,rfl,hc1⟩:=b1.formN (n:=q) HQ.o.1.symm;have h5:=Qa (DE.o w1 (.slice a1 p p) ((b1.head (n:=p) (by omega)).recap (Nat.le_refl _)));have H1:=Qa (And.intro b1 (And.intro n1 (And.intro h3 (And.intro h9 (And.intro h6 o1)))))
 have j2:(p:Int)<=(c1:Int):=by omega
 clear b1 n1 h3 h9 h6 o1 BL DE;go_wp2_with fail;refine h5.o.mono ?_;rintro e w2 ⟨x,vp,ve,vr,rfl,mn,o2⟩;have hf:=mn.mf.form;obtain⟨ap,cp,ep⟩:=mn.mf.prev.len;obtain⟨ae,ce,ee⟩:=mn.mf.es.len;obtain⟨ar,cr,er⟩:=mn.mf.root.len;subst ep ee er hf;have RN:=HR.o;have gm:=o2.heap (H1.o.2.2.2.2.2.heap g0.o (λe=>by omega)) (λf=>f);obtain⟨W3,h2⟩:=EX (w2.alloc (.cells #[.int .u64 m.ver,.slice ap m.prev.length cp,.slice ae m.es.length ce,.slice ar m.root.length cr] 51))
 have o3:N0 w2 W3:=by rw[h2];exact (Only.refl _ _).alloc _
 have gb:=Qa (show W3.heap[w2.heap.size]? = some (.cells #[.int .u64 m.ver,.slice ap m.prev.length cp,.slice ae m.es.length ce,.slice ar m.root.length cr] 51 (0,0)) by rw[h2];exact heap_alloc_new _ _);have hld:=YP gb.o;obtain⟨⟨y0,y1,y2,y3⟩,_⟩:=Yd gb.o;have g3:=o3.heap gm (λf=>f);obtain⟨⟨z0,z1,z2,z3⟩,f0,f1,f2,f3⟩:=Yd g3;have P4:=put4 g3 (.int .u64 m.ver) (.slice ap m.prev.length cp) (.slice ae m.es.length ce) (.slice ar m.root.length cr);have hs1:=H1.o.2.2.2.2.2.size
 have hs0:w0.heap.size=w.heap.size+1:=by rw[HW.o.1];simp
 have oT:Only (λk=>k=R) w W3:=((HW.o.2.mono (T:=λk=>k=R) (λ_ _ f=>f.elim)).trans H1.o.2.2.2.2.2 (λ_ _ e=>e)).trans (o2.same o3) (λ_ _ f=>f.elim);have h4:=((mn.past o3).keep (B:=w.heap.size) P4.2 (by omega)).lowS (a:=w) (by omega);have F:=Qa (And.intro (YP P4.1) (And.intro h4 (And.intro ((H1.o.1.past (o2.same o3)).keep P4.2 (λb hb e=>by have:=H1.o.2.2.1 b hb;omega)) (And.intro H1.o.2.1 (And.intro (show ∀b,(Value.slice a1 q c1).ownBlock=some b->w.heap.size<=b from λb hb=>by have:=H1.o.2.2.1 b hb;omega) (And.intro (show ∃v2',CurAt 112 _ R v2' (ys.drop k)∧v2'.ownBlock=v.ownBlock from ⟨v2,(H1.o.2.2.2.1.keep (o2.same o3) (λf=>f) (λ_ _ f=>f)).keep P4.2 (by omega) (λb hb e=>by have:=HV.o b (by rw[<-H1.o.2.2.2.2.1];exact hb);omega),H1.o.2.2.2.2.1⟩) (oT.trans P4.2 (λi hi e=>by omega))))))));clear mn o2 gm o3 g3 P4 hs1 hs0 oT h4 H1 h5 RN;subst h2;go_wp2;refine bodyPost_ret (zF rfl _ _ rfl rfl rfl F.o.1) rfl ⟨_,_,_,_,_,rfl,F.o.2.1,F.o.2.2.1,F.o.2.2.2.1,F.o.2.2.2.2.1,F.o.2.2.2.2.2⟩
theorem IY (h:WP ys):YZ ys+4<=ys.length∧YZ ys=(Y0 ys).length:=by
 have h1:=PQ (Y0 ys) h.1;have h2:=KX (Y0 ys) h.1;have h3:=ZV (Y0 ys).length h.1;rw[h.2] at h1 h2;omega
theorem tM (h:∀y∈ys,0<=y∧y<=255):YZ ys<4294967296:=by
 have h1:=Wv (ys.take 4) (λy hy=>h y (List.mem_of_mem_take hy))
 have h2:(ys.take 4).length<=4:=by rw[Qg];omega
 have h3:256^(ys.take 4).length<=256^4:=Nat.pow_le_pow_right (by decide) h2
 have h4:(256:Nat)^4=4294967296:=by decide
 unfold YZ;omega
theorem jo (h:CurAt 112 w R v ys) :
 Calls prog 144 #[.pointer (some ⟨R,0,none⟩)] w λe w'=>∃r c,e=.returned (.tuple #[r,.int .i64 c])∧Only (λk=>k=R) w w'∧((c≠0∧¬YZ ys+4<=ys.length)∨(c=0∧YZ ys+4<=ys.length∧Bs .u8 w' r (Y0 ys)∧NoCap r∧(∀k,r.ownBlock=some k->w.heap.size<=k))):=by
 have A:=Qa (Ke h 4);have hr:=h.rng
 by_cases h4:(ys.length:Int)<4
 ·have e1:QW 4 ys=(0,0,2):=by
   simp only[QW];rw[if_neg (by omega),if_pos h4]
  rw[e1] at A
  have HN:Hid (¬YZ ys+4<=ys.length):=by show ¬_;omega
  clear h hr h4;go_enter func144,ntmps144;go_wp2_with fail;refine A.o.mono ?_;rintro e w1 ⟨rfl,v2,_,_,o1⟩;have O1:=Qa o1;clear o1 A;go_wp2;go_ret2;exact⟨_,_,rfl,O1.o,.inl ⟨by decide,HN.o⟩⟩
 ·have e1:QW 4 ys=((num (ys.take 4):Int),4,0):=by
   simp only[QW];rw[if_neg (by omega),if_neg h4];rfl
  rw[e1] at A;have hlt:=tM hr;obtain⟨n,hn⟩:=EX (YZ ys);have h0:num (ys.take 4)=n:=hn.symm;rw[h0] at A;rw[<-hn] at hlt;have HN:=Qa hn;have H4:=Qa h4;clear h hr h4 e1 hn h0;go_enter func144,ntmps144;go_wp2_with fail;refine A.o.mono ?_;rintro e w1 ⟨rfl,v2,c1,_,o1⟩;have B:=Qa (Wt c1 (n:Int));have O1:=Qa o1;obtain⟨X,k,c,hs⟩:∃X k c,Q8 (n:Int) (ys.drop 4)=(X,k,c):=⟨_,_,_,rfl⟩;rw[hs] at B
  have HC:Hid ((c≠0∧¬YZ ys+4<=ys.length)∨(c=0∧YZ ys+4<=ys.length∧X=Y0 ys)):=by
   have h4:=H4.o;have hd:(ys.drop 4).length=ys.length - 4:=Qm;rw[<-HN.o];simp only[Q8] at hs;rw[if_neg (by omega)] at hs
   by_cases hl:((ys.drop 4).length:Int)<(n:Int)
   ·rw[if_pos hl] at hs
    cases hs
    exact .inl ⟨by decide,by omega⟩
   ·rw[if_neg hl] at hs
    cases hs
    refine .inr ⟨rfl,by omega,?_⟩;unfold Y0;rw[<-HN.o];rfl
  clear A c1 o1 hs;go_wp2_with fail;refine B.o.mono ?_;rintro e w2 ⟨r,rfl,b2,h5,l2,v3,_,_,o2⟩
  have FIN:Hid (Only (λk=>k=R) w w2∧((c≠0∧¬YZ ys+4<=ys.length)∨(c=0∧YZ ys+4<=ys.length∧Bs .u8 w2 r (Y0 ys)∧NoCap r∧(∀k,r.ownBlock=some k->w.heap.size<=k)))):=by
   refine⟨O1.o.trans o2 (λ_ _ e=>e),?_⟩
   rcases HC.o with h | ⟨h1,h2,h3⟩
   ·exact .inl h
   ·refine .inr ⟨h1,h2,by rw[<-h3];exact b2,h5,λk hk=>?_⟩
    have h1:=l2 k hk;have h2:=O1.o.size;omega
  clear B b2 h5 l2 o2 HC;go_wp2;go_ret2;exact⟨_,_,rfl,FIN.o⟩
theorem Ew (v:Value) (ys:LI) (w:World) (h:Bs .u8 w v ys) (h8:U8 ys) (hl:ys.length<=1000000000000) :
 Calls prog 105 #[v] w λe w'=>∃r,e=.returned (.tuple #[r,.int .i64 (KE ys)])∧Bs .u8 w' r (KI ys)∧NoCap r∧(∀k,r.ownBlock=some k->w.heap.size<=k)∧N0 w w':=by
 have HB:=Qa h;have H8:=Qa h8;have A:=Qa (Ut v ys w h h8 hl);obtain⟨ao,cap,rfl⟩:=h.len;obtain⟨m,hm⟩:=EX ys.length;rw[<-hm] at HB A ⊢;clear h h8 hl hm;go_enter func105,ntmps105;go_wp2_with fail;refine A.o.mono ?_;rintro e w1 ⟨R,v1,rfl,c1,o1,h3,hR2,_⟩;have B:=Qa (jo c1);have O1:=Qa (And.intro o1 h3);clear A c1 o1 h3 hR2;go_wp2_with fail;refine B.o.mono ?_;rintro e w2 ⟨r,c,rfl,o2,hc⟩;have h1:N0 w w2:=O1.o.1.trans o2 (λk hk e=>by have:=O1.o.2;omega);have O2:=Qa h1;have hs2:=h1.size;have h2:=O1.o.1.size
 rcases hc with ⟨hc,hn⟩ | ⟨rfl,hn,b2,h4,l2⟩
 ·have e1:¬WP ys:=λk=>hn (IY k).1
  have HE:Hid (KE ys=3∧KI ys=[]):=⟨if_neg e1,if_neg e1⟩
  have d1:(c != 0)=true:=by simpa using hc
  clear B o2 hc hn e1 h1 hs2 h2 O1;go_wp2;go_ret2;rw[HE.o.1,HE.o.2];exact⟨_,rfl,Bs.nil _ _,NoCap.nil,U3 _,O2.o⟩
 ·obtain⟨ra,rc,er⟩:=b2.len
  obtain⟨D,hD⟩:=EX (Y0 ys);rw[<-hD] at b2 er;subst er;have C:=Qa (Tt _ D w2 b2);have HR:=Qa (And.intro b2 (And.intro h4 (λk hk=>Nat.le_trans h2 (l2 k hk))));have HD:=Qa hD;clear B o2 hn h1 b2 h4 l2 hD h2 O1;go_wp2_with fail;refine C.o.mono ?_;rintro e w3 ⟨r3,rfl,h0,o3⟩
  by_cases hf:D.length<=4194300
  ·have e1:Kt D=PADL D:=if_pos hf
   have e2:Uu D=0:=if_pos hf;rw[e1] at h0;have b3:Bs .u8 w3 r3 (PADL D):=Bs.of_own h0
   have D8:U8 D:=by rw[HD.o];exact Bh H8.o
   have E:=Qa (UZ r3 (.slice ao m cap) (PADL D) ys w3 b3 (HB.o.past (O2.o.same o3)) (ZC D8) H8.o);have FR:=Qa (And.intro (HR.o.1.past o3) (O2.o.same o3));rw[e2]
   by_cases heq:PADL D=ys
   ·have HE:Hid (KE ys=0∧KI ys=D):=by
     have:WP ys:=by rw[<-heq];exact Gj D hf
     refine⟨if_pos this,?_⟩;rw[HD.o];exact if_pos this
    rw[Qc heq] at E;clear h0 o3 b3 D8 e1 e2 heq hf C;go_wp2_with fail;refine E.o.mono ?_;rintro e w4 ⟨rfl,rfl⟩;clear E;go_wp2;go_ret2;rw[HE.o.1,HE.o.2];exact⟨_,rfl,FR.o.1,HR.o.2.1,HR.o.2.2,FR.o.2⟩
   ·have HE:Hid (KE ys=3∧KI ys=[]):=by
     have:¬WP ys:=λk=>heq (by rw[HD.o];exact k.2)
     exact⟨if_neg this,if_neg this⟩
    rw[Qh heq] at E;clear h0 o3 b3 D8 e1 e2 heq hf C;go_wp2_with fail;refine E.o.mono ?_;rintro e w4 ⟨rfl,rfl⟩;clear E;go_wp2;go_ret2;rw[HE.o.1,HE.o.2];exact⟨_,rfl,Bs.nil _ _,NoCap.nil,U3 _,FR.o.2⟩
  ·have e2:Uu D=4:=if_neg hf
   have HE:Hid (KE ys=3∧KI ys=[]):=by
    have:¬WP ys:=λk=>hf (by rw[HD.o];exact k.1)
    exact⟨if_neg this,if_neg this⟩
   have FR:=Qa (O2.o.same o3);rw[e2];clear h0 o3 e2 hf C;go_wp2;go_ret2;rw[HE.o.1,HE.o.2];exact⟨_,rfl,Bs.nil _ _,NoCap.nil,U3 _,FR.o⟩
def pan (c:Int):Ending:=.panicked [{ v:=.iface 29 (.int .i64 c),recovered:=false }]
theorem Tf (n:Int) (w:World):Calls prog 168 #[.int .i64 n] w λe w'=>e=.returned (.int .i64 (MOST n))∧w=w':=by
 unfold MOST
 by_cases h:n<0
 ·rw[if_pos h]
  go_enter func168,ntmps168;go_wp2
  all_goals (go_ret;exact⟨YD (by omega),rfl⟩)
 ·rw[if_neg h]
  go_enter func168,ntmps168;go_wp2
  all_goals (go_ret;exact⟨YD (by omega),rfl⟩)
theorem K9 (w:World):Calls prog 169 #[.int .i64 0] w λe w'=>e=.returned (.tuple #[])∧w=w':=by
 go_enter func169,ntmps169;go_wp2
 go_end0
 exact⟨rfl,rfl⟩
theorem Vc (c:Int) (w:World) (h:c≠0):Calls prog 169 #[.int .i64 c] w λe w'=>e=pan c∧w=w':=by
 have h0:(c != 0)=true:=by simpa using h
 go_enter func169,ntmps169;go_wp2;exact⟨rfl,rfl,rfl⟩
theorem Ds (v:Value) (w:World):Calls prog 165 #[v,.int .i64 0] w λe w'=>e=.returned v∧w=w':=by
 go_enter func165,ntmps165;go_wp2_with fail;refine (K9 w).mono ?_;rintro e w' ⟨rfl,rfl⟩;go_wp2;go_ret;exact⟨rfl,rfl⟩
theorem pG (v:Value) (c:Int) (w:World) (h:c≠0):Calls prog 165 #[v,.int .i64 c] w λe w'=>e=pan c∧w=w':=by
 go_enter func165,ntmps165;go_wp2_with fail;refine (Vc c w h).mono ?_;rintro e w' ⟨rfl,rfl⟩;unfold pan;go_wp2;exact⟨rfl,rfl,rfl⟩
theorem Jh (v:Value) (w:World):Calls prog 166 #[v,.int .i64 0] w λe w'=>e=.returned v∧w=w':=by
 go_enter func166,ntmps166;go_wp2_with fail;refine (K9 w).mono ?_;rintro e w' ⟨rfl,rfl⟩;go_wp2;go_ret;exact⟨rfl,rfl⟩
theorem JP (v:Value) (c:Int) (w:World) (h:c≠0):Calls prog 166 #[v,.int .i64 c] w λe w'=>e=pan c∧w=w':=by
 go_enter func166,ntmps166;go_wp2_with fail;refine (Vc c w h).mono ?_;rintro e w' ⟨rfl,rfl⟩;unfold pan;go_wp2;exact⟨rfl,rfl,rfl⟩
theorem Lf (v:Value) (w:World):Calls prog 200 #[v,.int .i64 0] w λe w'=>e=.returned v∧w=w':=by
 go_enter func200,ntmps200;go_wp2_with fail;refine (K9 w).mono ?_;rintro e w' ⟨rfl,rfl⟩;go_wp2;go_ret;exact⟨rfl,rfl⟩
theorem Ow (v:Value) (c:Int) (w:World) (h:c≠0):Calls prog 200 #[v,.int .i64 c] w λe w'=>e=pan c∧w=w':=by
 go_enter func200,ntmps200;go_wp2_with fail;refine (Vc c w h).mono ?_;rintro e w' ⟨rfl,rfl⟩;unfold pan;go_wp2;exact⟨rfl,rfl,rfl⟩
theorem yW (v:Value) (w:World):Calls prog 170 #[v,.int .i64 0] w λe w'=>e=.returned v∧w=w':=by
 go_enter func170,ntmps170;go_wp2_with fail;refine (K9 w).mono ?_;rintro e w' ⟨rfl,rfl⟩;go_wp2;go_ret;exact⟨rfl,rfl⟩
theorem AM (v:Value) (c:Int) (w:World) (h:c≠0):Calls prog 170 #[v,.int .i64 c] w λe w'=>e=pan c∧w=w':=by
 go_enter func170,ntmps170;go_wp2_with fail;refine (Vc c w h).mono ?_;rintro e w' ⟨rfl,rfl⟩;unfold pan;go_wp2;exact⟨rfl,rfl,rfl⟩
theorem Fr (v:Value) (w:World):Calls prog 172 #[v,.int .i64 0] w λe w'=>e=.returned v∧w=w':=by
 go_enter func172,ntmps172;go_wp2_with fail;refine (K9 w).mono ?_;rintro e w' ⟨rfl,rfl⟩;go_wp2;go_ret;exact⟨rfl,rfl⟩
theorem Ao (v:Value) (c:Int) (w:World) (h:c≠0):Calls prog 172 #[v,.int .i64 c] w λe w'=>e=pan c∧w=w':=by
 go_enter func172,ntmps172;go_wp2_with fail;refine (Vc c w h).mono ?_;rintro e w' ⟨rfl,rfl⟩;unfold pan;go_wp2;exact⟨rfl,rfl,rfl⟩
theorem xH (h:CurAt 112 w R v ys) {s1 c:Int} {s2:Nat} (hs:Qe ys=(s1,s2,c)) (he:c≠0) :
 Calls prog 167 #[.pointer (some ⟨R,0,none⟩)] w λe w'=>e=pan c∧Only (λk=>k=R) w w':=by
 have A:=Qa (YO h);rw[hs] at A;clear h hs;go_enter func167,ntmps167;go_wp2_with fail;refine A.o.mono ?_;rintro e w1 ⟨rfl,v2,_,_,o1⟩;have O1:=Qa o1;clear o1 A;go_wp2_with fail;refine (Ow _ c w1 he).mono ?_;rintro e w' ⟨rfl,rfl⟩;unfold pan;go_wp2;exact⟨rfl,rfl,O1.o⟩
theorem Ia (h:CurAt 112 w R v ys) {n s2:Nat} (hs:Qe ys=((n:Int),s2,0)) (hn:65536<n) :
 Calls prog 167 #[.pointer (some ⟨R,0,none⟩)] w λe w'=>e=pan 4∧Only (λk=>k=R) w w':=by
 have A:=Qa (YO h);rw[hs] at A
 have d1:decide (65536<(n:Int))=true:=by simp;omega
 have d2:decide (65536<n)=true:=by simp;omega
 clear h hs;go_enter func167,ntmps167;go_wp2_with fail;refine A.o.mono ?_;rintro e w1 ⟨rfl,v2,_,_,o1⟩;have O1:=Qa o1;clear o1 A;go_wp2_with fail;refine (Lf _ w1).mono ?_;rintro e w' ⟨rfl,rfl⟩;go_wp2;exact⟨rfl,rfl,O1.o⟩
theorem xD (h:CurAt 112 w R v ys) {n s2:Nat} (hs:Qe ys=((n:Int),s2,0)) (hn:n<=65536) :
 Calls prog 167 #[.pointer (some ⟨R,0,none⟩)] w λe w'=>e=.returned (.int .i64 n)∧∃v2,CurAt 112 w' R v2 (ys.drop s2)∧v2.ownBlock=v.ownBlock∧Only (λk=>k=R) w w':=by
 have A:=Qa (YO h);rw[hs] at A
 have d1:decide (65536<(n:Int))=false:=by simp;omega
 have d2:decide (65536<n)=false:=by simp;omega
 clear h hs;go_enter func167,ntmps167;go_wp2_with fail;refine A.o.mono ?_;rintro e w1 ⟨rfl,F1⟩;have FF:=Qa F1;clear F1 A;go_wp2_with fail;refine (Lf _ w1).mono ?_;rintro e w' ⟨rfl,rfl⟩;go_wp2;go_ret;exact⟨rfl,FF.o⟩
theorem Ha (y:Int) (r:LI):sByte (y :: r)=(y,1,0):=by simp[sByte]
theorem N7 (r:LI):Q8 r.length r=(r,r.length,0):=by
 unfold Q8;rw[if_neg (by omega),if_neg (by omega)];simp
def part (a q:Nat) (l:List Bool) (n k:Nat):LI:=nums a q l k++List.replicate (n - k) 0
theorem LK (a q:Nat) (l:List Bool) (n k:Nat) (h:k<=n):(part a q l n k).length=n:=by simp[part,Vp];omega
theorem j4 (a q:Nat) (l:List Bool) (n:Nat):(part a q l n 0).map (Value.int .u64)=(madeCells #[Value.int .u64 0] (n*1)).toList:=by
 apply List.ext_getElem
 ·simp[part,madeCells,nums]
 ·intro i h1 h2
  simp[part,madeCells,nums,Nat.mod_one]
theorem vX (a q:Nat) (l:List Bool) (n k:Nat) (h:k<n):(part a q l n k).set k (((a+bnum ((l.drop (k*q)).take q)) % 18446744073709551616:Nat):Int)=part a q l n (k+1):=by
 unfold part
 have e:List.replicate (n - k) (0:Int)=0 :: List.replicate (n - (k+1)) 0:=by rw[<-List.replicate_succ];congr 1;omega
 rw[xK,List.set_append,if_neg (by rw[Vp];omega),Vp,Nat.sub_self,e,Qn,List.append_assoc]
 rfl
theorem FJ (a q:Nat) (l:List Bool) (n:Nat):part a q l n n=nums a q l n:=by simp[part]
theorem ui (h:CurAt 112 w R v ys) (n:Nat) {c:Int} (hr:rd 0 0 ys=(0,0,c)) (hc:c=2∨c=3) :
 Calls prog 265 #[.pointer (some ⟨R,0,none⟩),.int .i64 n] w λe w'=>e=.returned (.tuple #[.slice none 0 0,.int .i64 c])∧Only (λk=>k=R) w w':=by
 have A:=Qa (YO h)
 have e1:Qe ys=(0,0,c):=by unfold Qe;rw[hr];rfl
 rw[e1] at A
 have d0:(c != 0)=true:=by simp;omega
 clear h hr hc e1;go_enter func265,ntmps265;go_wp2_with fail;refine A.o.mono ?_;rintro e w1 ⟨rfl,v1,_,_,o1⟩;have O1:=Qa o1;clear A o1;go_wp2;go_ret2;exact⟨rfl,O1.o⟩
theorem zr {a:Nat} (h:CurAt 112 w R v (gs a)) (n:Nat) (ha:a<18446744073709551616) :
 Calls prog 265 #[.pointer (some ⟨R,0,none⟩),.int .i64 n] w λe w'=>e=.returned (.tuple #[.slice none 0 0,.int .i64 2])∧Only (λk=>k=R) w w':=by
 have A:=Qa (YO h)
 have e1:Qe (gs a)=((a:Int),(gs a).length,0):=by have:=Y4 a [] ha;rwa [List.append_nil] at this
 rw[e1,List.drop_length] at A;clear h e1;go_enter func265,ntmps265;go_wp2_with fail;refine A.o.mono ?_;rintro e w1 ⟨rfl,v1,h1,_,o1⟩;have B:=Qa (Us h1);rw[show sByte []=(0,0,2) from rfl] at B;have O1:=Qa o1;clear A o1 h1;go_wp2_with fail;refine B.o.mono ?_;rintro e w2 ⟨rfl,v2,_,_,o2⟩;have O2:=Qa (O1.o.trans o2 (λ_ _ e=>e));clear B o2;go_wp2;go_ret2;exact⟨rfl,O2.o⟩
theorem IP {a n:Nat} {y:Int} {r:LI} (h:CurAt 112 w R v (gs a++y :: r)) (ha:a<18446744073709551616) (hn:n<=65536) :
 Calls prog 265 #[.pointer (some ⟨R,0,none⟩),.int .i64 n] w λe w'=>∃v',e=.returned (.tuple #[v',.int .i64 (rdl (gs a++y :: r) n).1])∧w'.ownsRow w.heap.size 23 1 v' (rdl (gs a++y :: r) n).2.length ((rdl (gs a++y :: r) n).2.map (Value.int .u64))∧Only (λk=>k=R) w w':=by
 obtain⟨y0,y1⟩:=h.rng y (by simp)
 have he:∀z∈r,0<=z∧z<=255:=λz hz=>h.rng z (by simp[hz])
 have ho:r.length<=1000000000000:=by have:=h.len;simp at this;omega
 have hf:=Qa he;have hg:=Qa ho;have A:=Qa (YO h)
 have hd:(gs a++y :: r).drop (gs a).length=y :: r:=by simp
 rw[Y4 a _ ha] at A;simp only[hd] at A;rw[Nw a n y r ha];clear h hd he
 by_cases hy:64<y
 ·have d1:decide (64<y)=true:=by simp;exact hy
  rw[if_pos hy];go_enter func265,ntmps265;go_wp2_with fail;refine A.o.mono ?_;rintro e w1 ⟨rfl,v1,h1,_,o1⟩;have B:=Qa (Us h1);rw[Ha] at B;have O1:=Qa o1;clear A o1 h1;go_wp2_with fail;refine B.o.mono ?_;rintro e w2 ⟨rfl,v2,_,_,o2⟩;have O2:=Qa (O1.o.trans o2 (λ_ _ e=>e));clear B o2;go_wp2;go_ret2;exact⟨_,rfl,World.ownsRow_nil _ _ _ _,O2.o⟩
 ·obtain⟨q,rfl⟩:=Int.eq_ofNat_of_zero_le y0
  rw[if_neg hy,Int.toNat_natCast];have d1:decide (64<(q:Int))=false:=Qh hy
  have hq:q<=64:=by omega
  have hu:n*q<=65536*64:=Nat.mul_le_mul hn hq
  have h6:Hid (((n:Int)*(q:Int))=((n*q:Nat):Int)):=by simp only[Hid];simp
  have m0:0<=(n:Int)*(q:Int):=by rw[h6.o];omega
  have m1:(n:Int)*(q:Int)<=4194304:=by rw[h6.o];omega
  have HNQ:=Qa hu;clear hu
  by_cases hs:8*r.length<n*q
  ·rw[if_pos hs]
   go_enter func265,ntmps265;go_wp2_with fail;refine A.o.mono ?_;rintro e w1 ⟨rfl,v1,h1,_,o1⟩;have B:=Qa (Us h1);rw[Ha] at B;have O1:=Qa o1;clear A o1 h1;go_wp2_with fail;refine B.o.mono ?_;rintro e w2 ⟨rfl,v2,h2,hm,o2⟩;simp only[List.drop_succ_cons,List.drop_zero] at h2;have C:=Qa (Vu h2);have D:=Qa (Wt h2 r.length);rw[N7] at D;have O2:=Qa (O1.o.trans o2 (λ_ _ e=>e));clear B o2 h2 hm;go_wp2_with fail;refine C.o.mono ?_;rintro e w2' ⟨rfl,rfl⟩;clear C;go_wp2_with fail;refine D.o.mono ?_;rintro e w3 ⟨v3,rfl,b3,_,_,v4,_,_,o3⟩;have E:=Qa (XQ v3 r w3 b3 hf.o hg.o);have O3:=Qa (O2.o.trans o3 (λ_ _ e=>e));obtain⟨a3,c3,e3⟩:=b3.len;subst e3;clear D o3 b3;go_wp2_with fail;refine E.o.mono ?_;rintro e w4 ⟨R4,v5,rfl,r4,o4,g1,g2,g3⟩;have F:=Qa (VI r4);have O4:=Qa (O3.o.trans o4 (λ_ _ f=>f.elim));have hh:=Qa r4;have G:=Qa (And.intro g1 (And.intro g2 g3));clear E o4 r4 g1 g2 g3;go_wp2_with fail;refine F.o.mono ?_;rintro e w5 ⟨rfl,o5⟩;have O5:=Qa (O4.o.trans o5 (λ_ _ f=>f.elim));have R5:=Qa (hh.o.keep o5 (λf=>f) (λ_ _ f=>f));have S5:=Qa o5.size;clear F o5
   have d2:decide (8*(r.length:Int)<(n:Int)*(q:Int))=true:=by rw[h6.o];simp only[decide_eq_true_eq];omega
   clear hs;go_wp2;go_ret2;exact⟨_,rfl,World.ownsRow_nil _ _ _ _,O5.o⟩
  ·rw[if_neg hs]
   go_enter func265,ntmps265;go_wp2_with fail;refine A.o.mono ?_;rintro e w1 ⟨rfl,v1,h1,_,o1⟩;have B:=Qa (Us h1);rw[Ha] at B;have O1:=Qa o1;clear A o1 h1;go_wp2_with fail;refine B.o.mono ?_;rintro e w2 ⟨rfl,v2,h2,hm,o2⟩;simp only[List.drop_succ_cons,List.drop_zero] at h2;have C:=Qa (Vu h2);have D:=Qa (Wt h2 r.length);rw[N7] at D;have O2:=Qa (O1.o.trans o2 (λ_ _ e=>e));clear B o2 h2 hm;go_wp2_with fail;refine C.o.mono ?_;rintro e w2' ⟨rfl,rfl⟩;clear C;go_wp2_with fail;refine D.o.mono ?_;rintro e w3 ⟨v3,rfl,b3,_,_,v4,_,_,o3⟩;have E:=Qa (XQ v3 r w3 b3 hf.o hg.o);have O3:=Qa (O2.o.trans o3 (λ_ _ e=>e));obtain⟨a3,c3,e3⟩:=b3.len;subst e3;clear D o3 b3;go_wp2_with fail;refine E.o.mono ?_;rintro e w4 ⟨R4,v5,rfl,r4,o4,g1,g2,g3⟩;have F:=Qa (VI r4);have O4:=Qa (O3.o.trans o4 (λ_ _ f=>f.elim));have hh:=Qa r4;have G:=Qa (And.intro g1 (And.intro g2 g3));clear E o4 r4 g1 g2 g3;go_wp2_with fail;refine F.o.mono ?_;rintro e w5 ⟨rfl,o5⟩;have O5:=Qa (O4.o.trans o5 (λ_ _ f=>f.elim));have R5:=Qa (hh.o.keep o5 (λf=>f) (λ_ _ f=>f));have S5:=Qa o5.size;clear F o5
   have d2:decide (8*(r.length:Int)<(n:Int)*(q:Int))=false:=by rw[h6.o];simp only[decide_eq_false_iff_not];omega
   have HS:=Qa hs;obtain⟨i0,hi,hz0,hz1,hz2⟩:=info_parts Tryz.infoU64;obtain⟨wm,k0,h4,hw⟩:=run_make_full (P:=prog) w5 w5.heap.size 161 23 i0 (.int .u64 0) 1 underlying161 hi hz0 hz1 .i64 .i64 n (by rw[hz2];omega) (by unfold maxLen;omega) (Nat.le_refl _);rw[show (Value.int .u64 0).cells=#[Value.int .u64 0] from rfl,<-j4 a q (Qf r) n] at h4;have om:N0 w5 wm:=(Only.refl _ _).grown hw (λ_ _ e=>by cases e)
   have h0:Hid (RdAt 311 wm R4 v5 r 0∧wm.ownsRow w5.heap.size 23 1 (.slice (some ⟨w5.heap.size,0,none⟩) n n) n ((part a q (Qf r) n 0).map (Value.int .u64))∧Only (λj=>j=R) w wm) :=
    ⟨R5.o.keep om (λf=>f) (λ_ _ f=>f),h4,O5.o.trans om (λ_ _ f=>f.elim)⟩
   have G2:Hid (R4<w5.heap.size∧(∀k,v5.ownBlock=some k->k<w5.heap.size)∧w.heap.size<=w5.heap.size∧w.heap.size<=R4):=by
    have g:=G.o;have s5:=S5.o;exact⟨by omega,λk hk=>by have:=(g.2.2 k hk).2;omega,O5.o.size,by have:=O3.o.size;omega⟩
   obtain⟨N,hN⟩:=EX w5.heap.size;rw[<-hN] at k0 h0 G2;clear hs h4 hw om R5 hh G S5 O4 O3 O2 O1 hN;go_wp2
   go_loopw [54] (λi wr=>∃k:Nat,k<=n∧i=.int .i64 k∧RdAt 311 wr R4 v5 r (k*q)∧wr.ownsRow N 23 1 (.slice (some ⟨N,0,none⟩) n n) n ((part a q (Qf r) n k).map (Value.int .u64))∧Only (λj=>j=R) w wr) (λi _=>n - (intOf i).toNat)
   case atStart=>exact⟨0,Nat.zero_le _,rfl,by rw[Nat.zero_mul];exact h0.o.1,h0.o.2.1,h0.o.2.2⟩
   case round =>
    obtain⟨k,hk,rfl,hp,h8,hl⟩:=hrel;clear h0 k0;have h9:=Qa h8;have ht:=Qa hl
    by_cases hlt:k<n
    ·have hkq:k*q+q<=8*r.length:=by
      have h1:(k+1)*q<=n*q:=Nat.mul_le_mul_right q (by omega);rw[Nat.add_mul,Nat.one_mul] at h1;have:=HS.o;omega
     have GT:=Gc hp (q:Int) (by omega) (by omega) (by omega);rw[Int.toNat_natCast] at GT;have GT:=Qa GT
     have hx:Hid (bnum (((Qf r).drop (k*q)).take q)<18446744073709551616):=by
      have h1:=Wi (((Qf r).drop (k*q)).take q);have h2:2^(((Qf r).drop (k*q)).take q).length<=2^64:=Nat.pow_le_pow_right (by omega) (by rw[Qg];omega)
      have h3:(2:Nat)^64=18446744073709551616:=by decide
      simp only[Hid];omega
     have dlt:decide ((k:Int)<(n:Int))=true:=by simp;omega
     clear hp hkq h8 hl;go_wp2_with fail;refine GT.o.mono ?_;rintro e w6 ⟨rfl,r6,o6⟩
     have h5:=o6.own h9.o (λj hj=>by
      have e1:j=N:=by simp[Value.ownBlock] at hj;exact hj.symm
      have:=G2.o.1
      omega)
     have ck:w6.cell? ⟨N,k,none⟩=some (.int .u64 ((part a q (Qf r) n k).getD k 0)):=by
      rw[h5.cellAt k (by omega),List.getElem?_map,Qi (by rw[LK _ _ _ _ _ hk];exact hlt),Qd,Qi (by rw[LK _ _ _ _ _ hk];exact hlt)]
      rfl
     have fk:w6.frozen? ⟨N,k,none⟩=false:=h5.frozenAt _
     have h7:Hid (((part a q (Qf r) n k).map (Value.int .u64)).set k (.int .u64 (((a+bnum (((Qf r).drop (k*q)).take q)) % 18446744073709551616:Nat):Int))=(part a q (Qf r) n (k+1)).map (Value.int .u64)):=by
      simp only[Hid];rw[<-List.map_set,vX a q (Qf r) n k hlt]
     have hr:=Qa h5;have R6:=Qa r6;have O6:=Qa o6;obtain⟨x,k1⟩:=EX (bnum (((Qf r).drop (k*q)).take q));rw[<-k1] at hx h7 ⊢;have hxx:=hx.o;obtain⟨z,hz⟩:=EX ((part a q (Qf r) n k).getD k 0);rw[<-hz] at ck;clear GT h5 r6 o6 k1 hz hx;go_wp2
     go_roundw
     case rel =>
      have hv:IntKind.u64.wrap ((a:Int)+(x:Int))=(((a+x) % 18446744073709551616:Nat):Int):=by rw[IntKind.wrap_u64];omega
      rw[hv];have g:=G2.o;have oN:Only (λj=>j=N) w6 (w6.setCell ⟨N,k,none⟩ (.int .u64 (((a+x) % 18446744073709551616:Nat):Int))):=(Only.refl (λj=>j=N) w6).setCell (λ_=>rfl) _;refine⟨k+1,by omega,by simp,?_,?_,?_⟩
      ·rw[Nat.add_mul,Nat.one_mul]
       exact R6.o.keep oN (by omega) (λj hj=>by have:=g.2.1 j hj;omega)
      ·have h1:=(hr.o.stored k (.int .u64 (((a+x) % 18446744073709551616:Nat):Int))).1
       rw[h7.o] at h1;exact h1
      ·exact (ht.o.trans O6.o (λi hi e=>by omega)).setCell (λhb=>by simp only at hb;omega) _
     case measure=>simp[intOf];omega
    ·obtain rfl:k=n:=by omega
     have dlt:decide ((k:Int)<(k:Int))=false:=by simp
     clear h8 hl hp;go_wp2;go_ret2;refine⟨_,rfl,?_,ht.o⟩;have h1:=Qr h9.o G2.o.2.2.1;rw[FJ] at h1;rw[Vp];exact h1
theorem Og (h:CurAt 112 w R v ys) (n:Nat) (hn:n<=65536) :
 Calls prog 265 #[.pointer (some ⟨R,0,none⟩),.int .i64 n] w λe w'=>∃v',e=.returned (.tuple #[v',.int .i64 (rdl ys n).1])∧w'.ownsRow w.heap.size 23 1 v' (rdl ys n).2.length ((rdl ys n).2.map (Value.int .u64))∧Only (λk=>k=R) w w':=by
 rcases parse ys h.rng with ⟨c,hr,hc⟩ | ⟨a,ha,rfl⟩ | ⟨a,y,r,ha,rfl⟩
 ·rw[As n hr (by omega)]
  exact (ui h n hr hc).mono λe w' ⟨h1,h2⟩=>⟨_,h1,World.ownsRow_nil _ _ _ _,h2⟩
 ·rw[wq a n ha]
  exact (zr h n ha).mono λe w' ⟨h1,h2⟩=>⟨_,h1,World.ownsRow_nil _ _ _ _,h2⟩
 ·exact IP h ha hn
theorem rW (v:Value) (n:Int) (w:World) (h:n<0∨65536<n) :
 Calls prog 246 #[v,.int .i64 n] w λe w'=>e=.returned (.tuple #[.slice none 0 0,.int .i64 1])∧w=w':=by
 by_cases h0:n<0
 ·have d0:decide (n<0)=true:=Qc h0
  clear h;go_enter func246,ntmps246;go_wp2;go_ret2;exact⟨rfl,rfl⟩
 ·have h8:65536<n:=by omega
  have d0:decide (n<0)=false:=Qh h0;have d1:decide (65536<n)=true:=Qc h8;clear h;go_enter func246,ntmps246;go_wp2;go_ret2;exact⟨rfl,rfl⟩
theorem yA (v:Value) (ys:LI) (n:Nat) (w:World) (h:Bs .u8 w v ys) (hr:∀y∈ys,0<=y∧y<=255) (hl:ys.length<=1000000000000) (hn:n<=65536) :
 Calls prog 246 #[v,.int .i64 n] w λe w'=>∃v',e=.returned (.tuple #[v',.int .i64 (UN ys n).1])∧w'.ownsRow w.heap.size 23 1 v' (UN ys n).2.length ((UN ys n).2.map (Value.int .u64))∧N0 w w':=by
 have A:=Qa (Ut v ys w h hr hl);have HB:=Qa h;have HR:=Qa hr;obtain⟨ao,cap,rfl⟩:=h.len
 have d0:decide ((n:Int)<0)=false:=by simp
 have d1:decide (65536<(n:Int))=false:=Qh (by omega);obtain⟨m,hm⟩:=EX ys.length;rw[<-hm] at A HB ⊢;clear h hr hl hm
 have h8:UN ys n=if (rdl ys n).1≠0 then ((rdl ys n).1,[]) else if PK (rdl ys n).2=ys then (0,(rdl ys n).2) else (3,[]):=by
  unfold UN;rw[if_neg (by omega),Int.toNat_natCast]
 have h5:=RH ys n
 have h7:(rdl ys n).1=0->(rdl ys n).2.length=n:=λh0=>Dr (b:=ys) (n:=n) (l:=(rdl ys n).2) (by rw[<-h0])
 have FR:Hid (∀(w:World) (R:Nat) (v:Value),CurAt 112 w R v ys->Calls prog 265 #[.pointer (some ⟨R,0,none⟩),.int .i64 n] w λe w'=>∃v',e=.returned (.tuple #[v',.int .i64 (rdl ys n).1])∧w'.ownsRow w.heap.size 23 1 v' (rdl ys n).2.length ((rdl ys n).2.map (Value.int .u64))∧Only (λk=>k=R) w w') :=
  λw R v h=>Og h n hn
 rw[h8];clear h8;generalize rdl ys n=p at *;obtain⟨c,l⟩:=p;simp only at h5 h7 FR ⊢
 by_cases he:c≠0
 ·rw[if_pos he]
  have d2:(c != 0)=true:=by simpa using he
  clear h7 he;go_enter func246,ntmps246;go_wp2_with fail;refine A.o.mono ?_;rintro e w1 ⟨R,v1,rfl,c1,o1,g1,g2,g3⟩;have B:=Qa (FR.o w1 R v1 c1);have O1:=Qa o1;have G1:=Qa g1;clear A c1 o1 g1 g2 g3;go_wp2_with fail;refine B.o.mono ?_;rintro e w2 ⟨v2,rfl,h1,o2⟩;have O2:=Qa (O1.o.trans o2 (λi hi e=>by have:=G1.o;omega));obtain⟨a2,c2,e2⟩:=(Bs.of_own h1).len;subst e2;clear B h1 o2;go_wp2;go_ret2;exact⟨_,rfl,World.ownsRow_nil _ _ _ _,O2.o⟩
 ·obtain rfl:c=0:=Decidable.of_not_not he
  rw[if_neg he];have h6:=Qa (h7 rfl);clear he h7
  by_cases hs:PK l=ys
  ·rw[if_pos hs]
   have HS:=Qa hs;clear hs;go_enter func246,ntmps246;go_wp2_with fail;refine A.o.mono ?_;rintro e w1 ⟨R,v1,rfl,c1,o1,g1,g2,g3⟩;have B:=Qa (FR.o w1 R v1 c1);have O1:=Qa o1;have G1:=Qa g1;clear A c1 o1 g1 g2 g3;go_wp2_with fail;refine B.o.mono ?_;rintro e w2 ⟨v2,rfl,h1,o2⟩;have O2:=Qa (O1.o.trans o2 (λi hi e=>by have:=G1.o;omega));have C:=Qa (Jn v2 l w2 (Bs.of_own h1) h5 (by have:=h6.o;omega));have h3:=Qa h1;have S1:=Qa O1.o.size;obtain⟨a2,c2,e2⟩:=(Bs.of_own h1).len;subst e2;clear B h1 o2;go_wp2_with fail;refine C.o.mono ?_;rintro e w3 ⟨v3,rfl,h2,o3⟩;have O3:=Qa (O2.o.trans o3 (λ_ _ f=>f));have D:=UZ v3 (.slice ao m cap) (PK l) ys w3 (Bs.of_own h2) (HB.o.keep O3.o (λ_ _ f=>f)) (Jo h5) HR.o;rw[Qc HS.o] at D;have D:=Qa D;have h4:=Qa (o3.own h3.o (λ_ _ f=>f));obtain⟨a3,c3,e3⟩:=(Bs.of_own h2).len;subst e3;clear C h2 o3;go_wp2_with fail;refine D.o.mono ?_;rintro e w4 ⟨rfl,rfl⟩;clear D;go_wp2;go_ret2;exact⟨_,rfl,Qr h4.o S1.o,O3.o⟩
  ·rw[if_neg hs]
   have HS:=Qa hs;clear hs;go_enter func246,ntmps246;go_wp2_with fail;refine A.o.mono ?_;rintro e w1 ⟨R,v1,rfl,c1,o1,g1,g2,g3⟩;have B:=Qa (FR.o w1 R v1 c1);have O1:=Qa o1;have G1:=Qa g1;clear A c1 o1 g1 g2 g3;go_wp2_with fail;refine B.o.mono ?_;rintro e w2 ⟨v2,rfl,h1,o2⟩;have O2:=Qa (O1.o.trans o2 (λi hi e=>by have:=G1.o;omega));have C:=Qa (Jn v2 l w2 (Bs.of_own h1) h5 (by have:=h6.o;omega));have h3:=Qa h1;have S1:=Qa O1.o.size;obtain⟨a2,c2,e2⟩:=(Bs.of_own h1).len;subst e2;clear B h1 o2;go_wp2_with fail;refine C.o.mono ?_;rintro e w3 ⟨v3,rfl,h2,o3⟩;have O3:=Qa (O2.o.trans o3 (λ_ _ f=>f));have D:=UZ v3 (.slice ao m cap) (PK l) ys w3 (Bs.of_own h2) (HB.o.keep O3.o (λ_ _ f=>f)) (Jo h5) HR.o;rw[Qh HS.o] at D;have D:=Qa D;have h4:=Qa (o3.own h3.o (λ_ _ f=>f));obtain⟨a3,c3,e3⟩:=(Bs.of_own h2).len;subst e3;clear C h2 o3;go_wp2_with fail;refine D.o.mono ?_;rintro e w4 ⟨rfl,rfl⟩;clear D;go_wp2;go_ret2;exact⟨_,rfl,World.ownsRow_nil _ _ _ _,O3.o⟩
theorem wX (v:Value) (ys:LI) (n:Int) (w:World) (h:Bs .u8 w v ys) (hr:∀y∈ys,0<=y∧y<=255) (hl:ys.length<=1000000000000) :
 Calls prog 246 #[v,.int .i64 n] w λe w'=>∃v',e=.returned (.tuple #[v',.int .i64 (UN ys n).1])∧w'.ownsRow w.heap.size 23 1 v' (UN ys n).2.length ((UN ys n).2.map (Value.int .u64))∧N0 w w':=by
 by_cases hn:n<0∨65536<n
 ·have e:UN ys n=(1,[]):=by unfold UN;rw[if_pos hn]
  rw[e]
  exact (rW v n w hn).mono λe w' ⟨h1,h2⟩=>⟨_,h1,World.ownsRow_nil _ _ _ _,by rw[<-h2];exact Only.refl _ _⟩
 ·obtain⟨m,rfl⟩:=Int.eq_ofNat_of_zero_le (show 0<=n by omega)
  exact yA v ys m w h hr hl (by omega)
theorem uR (ys:LI) (k:Nat):((fxN ys (k+1)).map s64).map (Value.int .i64)=((fxN ys k).map s64).map (Value.int .i64)++[.int .i64 (s64 (num ((ys.drop (8*k)).take 8):Int))]:=by
 rw[vS,List.map_append,List.map_append];rfl
theorem Fa (h:CurAt 112 w R v ys) (hvb:∀k,v.ownBlock=some k->k<w.heap.size) (n:Nat) (hn:n<=65536) :
 Calls prog 223 #[.pointer (some ⟨R,0,none⟩),.int .i64 n] w λe w'=>∃u,e=.returned (.tuple #[u,.int .i64 (rFx ys n).2])∧w'.ownsRow w.heap.size 3 1 u ((rFx ys n).1.map s64).length (((rFx ys n).1.map s64).map (Value.int .i64))∧Only (λk=>k=R) w w':=by
 obtain⟨i0,hi,hz0,hz1,hz2⟩:=info_parts Tryz.infoI64;have hR:R<w.heap.size:=(Array.getElem?_eq_some_iff.1 h.cell).1;have HC:=Qa h;have HVB:=Qa hvb;clear h hvb;go_enter func223,ntmps223;go_wp2
 go_loopw [6,10] (λs i wr=>∃(k:Nat) (v':Value),k<=n∧i=.int .i64 k∧wr.ownsRow w.heap.size 3 1 s k (((fxN ys k).map s64).map (Value.int .i64))∧CurAt 112 wr R v' (ys.drop (8*k))∧v'.ownBlock=v.ownBlock∧8*k<=ys.length∧Only (λk=>k=R) w wr) (λ_ i _=>n - (intOf i).toNat)
 case atStart=>exact⟨0,v,Nat.zero_le _,rfl,World.ownsRow_nil _ _ _ _,HC.o,rfl,by omega,Only.refl _ _⟩
 case round =>
  obtain⟨k,v',hk,rfl,h2,h1,h7,h8,h5⟩:=hrel;have h0:=Qa h2;have h6:=Qa h5;have hg:=Qa h7
  by_cases hlt:k<n
  ·have dlt:decide ((k:Int)<(n:Int))=true:=by simp;omega
   have FX:=Qa (Ke h1 8)
   by_cases hs:(ys.drop (8*k)).length<8
   ·rw[Ls hs] at FX
    have HR:Hid (rFx ys n=([],2)):=by
     simp only[Hid];unfold rFx;rw[Qm] at hs;rw[if_pos (by omega)]
    clear h2 h1 h7 h5 hs HC;go_wp2_with fail;refine FX.o.mono ?_;rintro e w2 ⟨rfl,v2,_,_,o2⟩;have O2:=Qa (h6.o.trans o2 (λ_ _ e=>e));clear FX o2 h0;go_wp2;go_ret2;rw[HR.o];exact⟨_,rfl,World.ownsRow_nil _ _ _ _,O2.o⟩
   ·rw[DI (by omega)] at FX
    have h9:8*(k+1)<=ys.length:=by rw[Qm] at hs;omega
    have HST:=Qa (uR ys k)
    have hd:Hid ((ys.drop (8*k)).drop 8=ys.drop (8*(k+1))):=by
     simp only[Hid];rw[List.drop_drop,Nat.mul_add]
    rw[hd.o] at FX
    have HX:Hid (∀x:Int,IntKind.i64.wrap x=s64 x):=λx=>by unfold s64;rw[RowKit.wrap64];exact IntKind.wrap_i64 x
    generalize (num ((ys.drop (8*k)).take 8):Int)=x at *;clear h2 h1 h7 h5 hs HC hd;go_wp2_with fail;refine FX.o.mono ?_;rintro e w2 ⟨rfl,v2,h4,hf,o2⟩;have O2:=Qa (h6.o.trans o2 (λ_ _ e=>e));have h3:=o2.own h0.o (λq hq e=>by have:=(h0.o.lt q hq).1;omega);have ha:=Qa h4;have he:=Qa (hf.trans hg.o);have hsz:=O2.o.size;clear FX o2 h0 h6 hg h4 hf;go_wp2_with (at_builtin;refine wpList_append_lies _ rfl _ _ _ rfl w.heap.size 3 i0 (.int .i64 0) 1 8 underlying160 hi hz0 hz1 hz2 rfl (by omega) _ k _ rfl (h3.alloc _) ⟨w2.heap.size,0,none⟩ 1 1 [.int .i64 (s64 x)] rfl rfl ?c1 ?c2 (by omega) ?c3 ?c4 ?c5 (w2.heap.size+1) (by simp) ?_)
    case c1=>first | exact cell_one_new _ _ _|(rw[<-HX.o x];exact cell_one_new _ _ _)
    case c2=>intro u hu;simp at hu;subst hu;rfl
    case c3=>unfold maxLen;omega
    case c4=>omega
    case c5=>simp;omega
    intro gg cap1 w3 hown1 hgrow hat hg1;have o3:=Qa (((Only.refl (λq=>w.heap.size<=q) w2).alloc _).grown hgrow (λp _ hp=>(h3.lt p hp).1))
    have hb:Hid (w3.ownsRow w.heap.size 3 1 (.slice (some ⟨gg,0,none⟩) (k+1) cap1) (k+1) (((fxN ys (k+1)).map s64).map (Value.int .i64))):=by
     simp only[Hid];rw[HST.o,List.map_map];exact hown1
    clear h3 hown1 hgrow hat;go_wp2
    go_roundw
    case rel =>
     refine⟨k+1,v2,by omega,by go_num,hb.o,ha.o.keep o3.o (by omega) (λq hq e=>?_),he.o,h9,O2.o.trans o3.o (λq hq e=>absurd e (by omega))⟩;rw[he.o] at hq;have:=HVB.o q hq;omega
    case measure=>simp[intOf];omega
  ·obtain rfl:k=n:=by omega
   have dlt:decide ((k:Int)<(k:Int))=false:=by simp
   have HR:Hid (rFx ys k=(fxN ys k,0)):=by
    simp only[Hid];unfold rFx;rw[if_neg (by omega)]
   clear h2 h1 h7 h5 HC;go_wp2;go_ret2;rw[HR.o];refine⟨_,rfl,?_,h6.o⟩;rw[List.length_map,F7];exact h0.o
theorem kT {acc ys:LI} {a:Int} {c:Int} (hs:Qe ys=(a,k,c)) (hc:c≠0):rVs (n+1) acc ys=([],ys,c):=by
 rw[rVs,hs];simp only[ne_eq];rw[if_pos hc]
theorem vF {acc ys:LI} {a:Int} (hs:Qe ys=(a,k,0)):rVs (n+1) acc ys=rVs n (acc++[a]) (ys.drop k):=by
 rw[rVs,hs];simp
theorem Ck (h:CurAt 112 w R v ys) (hvb:∀k,v.ownBlock=some k->k<w.heap.size) (n:Nat) (hn:n<=65536) :
 Calls prog 250 #[.pointer (some ⟨R,0,none⟩),.int .i64 n] w λe w'=>∃u,e=.returned (.tuple #[u,.int .i64 (rVs n [] ys).2.2])∧w'.ownsRow w.heap.size 23 1 u (rVs n [] ys).1.length ((rVs n [] ys).1.map (Value.int .u64))∧Only (λk=>k=R) w w':=by
 obtain⟨i0,hi,hz0,hz1,hz2⟩:=info_parts Tryz.infoU64;have hR:R<w.heap.size:=(Array.getElem?_eq_some_iff.1 h.cell).1;have HC:=Qa h;have HVB:=Qa hvb;clear h hvb;go_enter func250,ntmps250;go_wp2
 go_loopw [6,10] (λs i wr=>∃(k g:Nat) (acc h7:LI) (v':Value),k+g=n∧i=.int .i64 k∧acc.length=k∧wr.ownsRow w.heap.size 23 1 s k (acc.map (Value.int .u64))∧CurAt 112 wr R v' h7∧v'.ownBlock=v.ownBlock∧Hid (rVs g acc h7=rVs n [] ys)∧Only (λk=>k=R) w wr) (λ_ i _=>n - (intOf i).toNat)
 case atStart=>exact⟨0,n,[],ys,v,by omega,rfl,rfl,World.ownsRow_nil _ _ _ _,HC.o,rfl,rfl,Only.refl _ _⟩
 case round =>
  obtain⟨k,g,acc,h7,v',hk,rfl,h8,h2,h1,hb,h4,h6⟩:=hrel;have h0:=Qa h2;have h9:=Qa h6;have hj:=Qa hb;have hg:=Qa h8
  cases g with
  | succ g =>
   have dlt:decide ((k:Int)<(n:Int))=true:=by simp;omega
   have FX:=YO h1
   rcases Ua h1.rng with ⟨c,hs,hc⟩ | ⟨a,q,hs,_,_,ha,_⟩
   ·rw[hs] at FX
    have FX:=Qa FX;have HR:=h4.o;rw[kT hs (by omega)] at HR;have HR:=Qa HR
    have dc:(c != 0)=true:=by simp;omega
    clear h2 h1 hb h6 hs HC h8 h4 hc;go_wp2_with fail;refine FX.o.mono ?_;rintro e w2 ⟨rfl,v2,_,_,o2⟩;have O2:=Qa (h9.o.trans o2 (λ_ _ e=>e));clear FX o2 h0;go_wp2;go_ret2;rw[<-HR.o];exact⟨_,rfl,World.ownsRow_nil _ _ _ _,O2.o⟩
   ·rw[hs] at FX
    have FX:=Qa FX;have HR:=h4.o;rw[vF hs] at HR;have HR:=Qa HR;clear h2 h1 hb h6 hs HC h8 h4;go_wp2_with fail;refine FX.o.mono ?_;rintro e w2 ⟨rfl,v2,h5,hh,o2⟩;have O2:=Qa (h9.o.trans o2 (λ_ _ e=>e));have h3:=o2.own h0.o (λq hq e=>by have:=(h0.o.lt q hq).1;omega);have hd:=Qa h5;have hf:=Qa (hh.trans hj.o);have hsz:=O2.o.size;clear FX o2 h0 h9 hj h5 hh;go_wp2_with (at_builtin;refine wpList_append_lies _ rfl _ _ _ rfl w.heap.size 23 i0 (.int .u64 0) 1 8 underlying161 hi hz0 hz1 hz2 rfl (by omega) _ k _ rfl (h3.alloc _) ⟨w2.heap.size,0,none⟩ 1 1 [.int .u64 (a:Int)] rfl rfl ?c1 ?c2 (by omega) ?c3 ?c4 ?c5 (w2.heap.size+1) (by simp) ?_)
    case c1=>exact cell_one_new _ _ _
    case c2=>intro u hu;simp at hu;subst hu;rfl
    case c3=>unfold maxLen;omega
    case c4=>omega
    case c5=>simp;omega
    intro gg cap1 w3 hown1 hgrow hat hg1;have o3:=Qa (((Only.refl (λq=>w.heap.size<=q) w2).alloc _).grown hgrow (λp _ hp=>(h3.lt p hp).1))
    have he:Hid (w3.ownsRow w.heap.size 23 1 (.slice (some ⟨gg,0,none⟩) (k+1) cap1) (k+1) ((acc++[(a:Int)]).map (Value.int .u64))):=by
     simp only[Hid];rw[List.map_append];exact hown1
    clear h3 hown1 hgrow hat;go_wp2
    go_roundw
    case rel =>
     refine⟨k+1,g,acc++[(a:Int)],_,v2,by omega,by go_num,by simp[hg.o],he.o,hd.o.keep o3.o (by omega) (λq hq e=>?_),hf.o,HR.o,O2.o.trans o3.o (λq hq e=>absurd e (by omega))⟩;rw[hf.o] at hq;have:=HVB.o q hq;omega
    case measure=>simp[intOf];omega
  | zero =>
   obtain rfl:k=n:=by omega
   have dlt:decide ((k:Int)<(k:Int))=false:=by simp
   have HR:Hid (rVs k [] ys=(acc,h7,0)):=h4.o.symm;clear h2 h1 hb h6 HC h8 h4;go_wp2;go_ret2;rw[HR.o];refine⟨_,rfl,?_,h9.o⟩;simp only[hg.o];exact h0.o
theorem ta (x:Int) (v:Value) (l:LI) (w:World) (h:Bs .u64 w v l) (hu:U64 l) (hl:l.length<=65536) (x0:0<=x) (x1:x<=18446744073709551615) :
 Calls prog 226 #[.int .u64 x,v] w λe w'=>∃u,e=.returned u∧w'.ownsRow w.heap.size 3 1 u (l.length+1) ((zag x :: zgn l).map (Value.int .i64))∧N0 w w':=by
 obtain⟨i0,hi,hz0,hz1,hz2⟩:=info_parts Tryz.infoI64;have ZX:=Qa (L5 x w x0 x1);have HB:=Qa h;have HU:=Qa hu;obtain⟨ao,cap,rfl⟩:=h.len;obtain⟨n,hn⟩:=EX l.length;rw[<-hn] at hl HB;rw[<-hn];have HN:=Qa hn;have h0:=Qa (World.ownsRow_lit (base:=w.heap.size) (e:=3) (size:=1) w #[.int .i64 (zag x)] 1 (Nat.le_refl _) (by unfold maxLen;omega) rfl);obtain⟨y,hy⟩:=EX (zag x);rw[<-hy] at ZX h0 ⊢;clear h hn hu x0 x1 hy;go_enter func226,ntmps226;go_wp2_with fail;refine ZX.o.mono ?_;rintro e w1 ⟨rfl,rfl⟩;clear ZX;go_wp2
 go_loopw [5,13] (λs i wr=>∃k:Nat,k<=n∧i=.int .i64 k∧wr.ownsRow w.heap.size 3 1 s (k+1) ((y :: zgn (l.take k)).map (Value.int .i64))∧N0 w wr) (λ_ i _=>n - (intOf i).toNat)
 case atStart=>exact⟨0,Nat.zero_le _,rfl,h0.o,(Only.refl _ _).alloc _⟩
 case round =>
  obtain⟨k,hk,rfl,h2,h5⟩:=hrel;have h4:=Qa h2;have h8:=Qa h5;clear h0
  by_cases hlt:k<n
  ·have dlt:decide ((k:Int)<(n:Int))=true:=by simp;omega
   have h6:k<l.length:=by rw[<-HN.o];exact hlt
   obtain⟨b,off,cap',e1,hc0⟩:=(HB.o.past h5).at k h6
   have ea:ao=some ⟨b,off,none⟩:=by simp at e1;exact e1.1
   subst ea;clear e1;have hx:=HU.o (l.getD k 0) (V7 l k h6)
   have HST:Hid ((y :: zgn (l.take (k+1))).map (Value.int .i64)=(y :: zgn (l.take k)).map (Value.int .i64)++[.int .i64 (zag (l.getD k 0))]):=by
    simp only[Hid];rw[U9 l k h6];simp[zgn]
   have ZK:=Qa (L5 (l.getD k 0) wr hx.1 hx.2);generalize l.getD k 0=z at *;have h3:=h4.o;have hsz:=h8.o.size;clear h2 h5 HB HU h6 hx;go_wp2_with fail;refine ZK.o.mono ?_;rintro e w2 ⟨rfl,rfl⟩;clear ZK;generalize zag z=q at *;go_wp2_with (at_builtin;refine wpList_append_lies _ rfl _ _ _ rfl w.heap.size 3 i0 (.int .i64 0) 1 8 underlying160 hi hz0 hz1 hz2 rfl (by omega) _ (k+1) _ rfl (h3.alloc _) ⟨wr.heap.size,0,none⟩ 1 1 [.int .i64 q] rfl rfl ?c1 ?c2 (by omega) ?c3 ?c4 ?c5 (wr.heap.size+1) (by simp) ?_)
   case c1=>exact cell_one_new _ _ _
   case c2=>intro u hu;simp at hu;subst hu;rfl
   case c3=>unfold maxLen;omega
   case c4=>omega
   case c5=>simp;omega
   intro gg cap1 w3 hown1 hgrow hat hg1;have o3:=Qa ((h8.o.alloc _).grown hgrow (λp hp0 hp=>absurd (h3.lt p hp).1 (by omega)))
   have h7:Hid (w3.ownsRow w.heap.size 3 1 (.slice (some ⟨gg,0,none⟩) (k+1+1) cap1) (k+1+1) ((y :: zgn (l.take (k+1))).map (Value.int .i64))):=by
    simp only[Hid];rw[HST.o];exact hown1
   clear h3 hown1 hgrow hat;go_wp2
   go_roundw
   case rel=>exact⟨k+1,by omega,by go_num,h7.o,o3.o⟩
   case measure=>simp[intOf];omega
  ·obtain rfl:k=n:=by omega
   have dlt:decide ((k:Int)<(k:Int))=false:=by simp
   have F:Hid (wr.ownsRow w.heap.size 3 1 u5 (k+1) ((y :: zgn l).map (Value.int .i64))):=by
    have h1:=h4.o;rw[HN.o,List.take_length] at h1;simp only[Hid];rw[HN.o];exact h1
   clear h2 h5;go_wp2;go_ret;exact⟨_,rfl,F.o,h8.o⟩
theorem jJ (ys:LI):Q8 ys.length ys=(ys,ys.length,0):=by
 unfold Q8;rw[if_neg (by omega),if_neg (by omega)];simp
theorem kV (h:CurAt 112 w R v ys) :
 Calls prog 247 #[.pointer (some ⟨R,0,none⟩)] w λe w'=>∃u,e=.returned u∧Bs .u8 w' u ys∧Only (λk=>k=R) w w':=by
 have L:=Qa (Vu h);have B:=Wt h ys.length;rw[jJ] at B;have B:=Qa B;clear h;go_enter func247,ntmps247;go_wp2_with fail;refine L.o.mono ?_;rintro e w1 ⟨rfl,rfl⟩;clear L;go_wp2_with fail;refine B.o.mono ?_;rintro e w2 ⟨u,rfl,bs,_,_,v2,_,_,o2⟩;have F:=Qa (And.intro bs o2);obtain⟨f1,c1,e1⟩:=bs.len;subst e1;clear B bs o2;go_wp2;go_ret;exact⟨_,rfl,F.o⟩
end Go.Proofs.YteciafpneamfaaaGreatDoor
