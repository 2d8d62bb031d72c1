import Derived.Test.YtoflhbghdlaeaaaGreatDoorG39
import Derived.Test.YtoflhbghdlaeaaaGreatDoorG13
import Derived.Test.YtoflhbghdlaeaaaGreatDoorG15
namespace Go.Proofs.YtoflhbghdlaeaaaGreatDoor
set_option maxHeartbeats 4000000
set_option maxRecDepth 100000
open Go.RowKit _root_.Go.Proofs.Tryz
variable {w w' W:World} {v:Value} {ys xs l:LI} {R n p k g B:Nat} {P:Program} {ls:List (LI)} {E:TypeId}
abbrev wide (e:LI × Int):Nat:=(QO e.2).toNat+16
theorem II {es:List (LI × Int)} {ys t:LI} (h:CUT es ys=some (ls,t)):ys=ls.flatten++t∧ls.map List.length=es.map wide:=by
 induction es generalizing ys ls with
 | nil=>simp[CUT] at h;obtain⟨rfl,rfl⟩:=h;exact⟨rfl,rfl⟩
 | cons e es ih =>
  obtain⟨l,ls',rfl,hn,rfl,h'⟩:=Xe h;obtain⟨h1,h2⟩:=ih h';refine⟨?_,?_⟩
  ·rw[List.flatten_cons,List.append_assoc,<-h1,List.take_append_drop]
  ·rw[List.map_cons,List.map_cons,h2,Qf]
   congr 1
   show min _ _=(QO e.2).toNat+16
   omega
theorem Dv {es:List (LI × Int)} (t:LI) (h:ls.map List.length=es.map wide):CUT es (ls.flatten++t)=some (ls,t):=by
 induction es generalizing ls with
 | nil =>
  obtain rfl:ls=[]:=by simpa using h
  rfl
 | cons e es ih =>
  cases ls with
  | nil=>simp at h
  | cons l ls =>
   rw[List.map_cons,List.map_cons,List.cons.injEq] at h;have h1:l.length=(QO e.2).toNat+16:=h.1;rw[CUT,List.flatten_cons,List.append_assoc,if_neg (by rw[Qc];omega),List.take_left' h1,List.drop_left' h1,ih h.2]
theorem Tryz.sizeRg:(prog.info? 40).map (·.size)=some 7:=by kernel_rfl
theorem SW {b:Nat} {x0 x1 x2 x3 x4 x5 x6:Value} (h:W.heap[b]? = some (.cells #[x0,x1,x2,x3,x4,x5,x6] 40 (0,0))):(loadVar 40 ⟨b,0,none⟩).run prog W=.ok (.agg #[x0,x1,x2,x3,x4,x5,x6]) W :=
 run_loadVar_row W b 40 40 _ (0,0) _ h underlying40 rfl Tryz.sizeRg
theorem WP {x0 x1 x2 x3 x4 x5 x6:Value} (h:W.heap[B]? = some (.cells #[x0,x1,x2,x3,x4,x5,x6] E (0,0))):(W.cell? ⟨B,0,none⟩=some x0∧W.cell? ⟨B,1,none⟩=some x1∧W.cell? ⟨B,2,none⟩=some x2∧W.cell? ⟨B,3,none⟩=some x3∧W.cell? ⟨B,4,none⟩=some x4∧W.cell? ⟨B,5,none⟩=some x5∧W.cell? ⟨B,6,none⟩=some x6)∧(W.frozen? ⟨B,0,none⟩=false∧W.frozen? ⟨B,1,none⟩=false∧W.frozen? ⟨B,2,none⟩=false∧W.frozen? ⟨B,3,none⟩=false∧W.frozen? ⟨B,4,none⟩=false∧W.frozen? ⟨B,5,none⟩=false∧W.frozen? ⟨B,6,none⟩=false):=by
 refine⟨⟨?_,?_,?_,?_,?_,?_,?_⟩,?_,?_,?_,?_,?_,?_,?_⟩ <;> simp[World.cell?,World.frozen?,h]
theorem put7 {x0 x1 x2 x3 x4 x5 x6:Value} (h:W.heap[B]? = some (.cells #[x0,x1,x2,x3,x4,x5,x6] E (0,0))) (y0 y1 y2 y3 y4 y5 y6:Value) :
 (((((((W.setCell ⟨B,0,none⟩ y0).setCell ⟨B,1,none⟩ y1).setCell ⟨B,2,none⟩ y2).setCell ⟨B,3,none⟩ y3).setCell ⟨B,4,none⟩ y4).setCell ⟨B,5,none⟩ y5).setCell ⟨B,6,none⟩ y6).heap[B]? = some (.cells #[y0,y1,y2,y3,y4,y5,y6] E (0,0))∧Only (λk=>k=B) W (((((((W.setCell ⟨B,0,none⟩ y0).setCell ⟨B,1,none⟩ y1).setCell ⟨B,2,none⟩ y2).setCell ⟨B,3,none⟩ y3).setCell ⟨B,4,none⟩ y4).setCell ⟨B,5,none⟩ y5).setCell ⟨B,6,none⟩ y6):=by
 have g1:=heap_setCell_same W B 0 _ _ y0 h;have g2:=heap_setCell_same _ B 1 _ _ y1 g1;have g3:=heap_setCell_same _ B 2 _ _ y2 g2;have g4:=heap_setCell_same _ B 3 _ _ y3 g3;have g5:=heap_setCell_same _ B 4 _ _ y4 g4;have g6:=heap_setCell_same _ B 5 _ _ y5 g5;have g7:=heap_setCell_same _ B 6 _ _ y6 g6;exact⟨by simpa using g7,(((((((Only.refl (λk=>k=B) W).setCell (p:=⟨B,0,none⟩) (λ_=>rfl) _).setCell (p:=⟨B,1,none⟩) (λ_=>rfl) _).setCell (p:=⟨B,2,none⟩) (λ_=>rfl) _).setCell (p:=⟨B,3,none⟩) (λ_=>rfl) _).setCell (p:=⟨B,4,none⟩) (λ_=>rfl) _).setCell (p:=⟨B,5,none⟩) (λ_=>rfl) _).setCell (p:=⟨B,6,none⟩) (λ_=>rfl) _⟩
theorem Ens.part {b off m cap:Nat} {s:List (LI × Int)} (h:Ens w (.slice (some ⟨b,off,none⟩) m cap) s) (lo hi:Nat) (h1:lo<=hi) (h2:hi<=m) :
 Ens w (.slice (some ⟨b,off+lo*2,none⟩) (hi - lo) (cap - lo)) ((s.drop lo).take (hi - lo)):=by
 obtain⟨ao,c,he,hc,hr⟩:=h
 obtain⟨rfl,rfl,rfl⟩:some ⟨b,off,none⟩=ao∧m=s.length∧cap=c:=by simpa using he
 have hl:((s.drop lo).take (hi - lo)).length=hi - lo:=by rw[Qf,Qo];omega
 refine⟨_,_,by rw[hl],by omega,λhne=>⟨b,off+lo*2,rfl,λj hj=>?_⟩⟩;rw[hl] at hj;obtain⟨b',off',e1,h3⟩:=hr (λh0=>by rw[h0] at hl;simp at hl;omega)
 cases e1
 have e:((s.drop lo).take (hi - lo)).getD j ([],0)=s.getD (lo+j) ([],0):=by
  rw[Qd,Qd,List.getElem?_take,if_pos hj,List.getElem?_drop]
 rw[e,Nat.add_assoc,<-Nat.add_mul];exact h3 (lo+j) (by omega)
structure RNG (ys sg:LI) (m:MAN) (i d:Nat) (sl ps:List (LI)):Prop where
 is:ys=blk sg++(gs i++(gs d++(sl.flatten++(gs ps.length++ps.flatten))))
 long:32<=sg.length
 most:sg.length<=268435456
 man:MDEC (sg.take (sg.length - 32))=.ok m
 pos:i+d<m.es.length
 cut:sl.map List.length=((m.es.drop i).take (d+1)).map wide
 sum:∀p∈ps,p.length=32
 few:ps.length<=64
 u8:U8 ys
structure RGW (w w':World) (vs vq:Value) (sl ps:List (LI)):Prop where
 rs:RL w' vs sl
 rp:RL w' vq ps
 only:N0 w w'
theorem Hz {ys sg:LI} {m:MAN} {i d:Nat} {sl ps:List (LI)} (hx:RNG ys sg m i d sl ps) (vb:Value) (w:World) (hb:Bs .u8 w vb ys) (hl:ys.length<=1000000000000) :
 Calls prog 9 #[vb] w λe w'=>∃ap np cp ae ne ce ar nr cr ax cx aq cq,e=.returned (.tuple #[.agg #[.int .u64 m.ver,.slice ap np cp,.slice ae ne ce,.slice ar nr cr,.int .i64 i,.slice ax sl.length cx,.slice aq ps.length cq],.int .i64 0])∧RGW w w' (.slice ax sl.length cx) (.slice aq ps.length cq) sl ps:=by
 have ha:=hx.is
 have hh:U8 sg:=λx h=>hx.u8 x (by rw[ha];unfold blk;simp only[List.mem_append];exact Or.inl (Or.inr h))
 have hG:=(JG (hh.take _) hx.man).1
 have hB:Qq 268435456 ys=(sg,(blk sg).length,0):=by rw[ha];have hb:=Rn (n:=268435456) (x:=sg) (t:=gs i++(gs d++(sl.flatten++(gs ps.length++ps.flatten)))) hx.most (by omega);rw[show ((268435456:Nat):Int)=268435456 from rfl] at hb;exact hb
 obtain⟨w0,h9⟩:=EX (w.alloc (.cells #[.int .u64 0,.slice none 0 0,.slice none 0 0,.slice none 0 0,.int .i64 0,.slice none 0 0,.slice none 0 0] 40))
 have o0:N0 w w0:=by rw[h9];exact (Only.refl _ _).alloc _
 have g0:Hid (w0.heap[w.heap.size]? = some (.cells #[.int .u64 0,.slice none 0 0,.slice none 0 0,.slice none 0 0,.int .i64 0,.slice none 0 0,.slice none 0 0] 40 (0,0))):=by show _=_;rw[h9];exact heap_alloc_new _ _
 have NW:=Qa (Xy vb ys w0 (hb.past o0) hx.u8 hl);have HW:=Qa (And.intro h9 (And.intro o0 (show w0.heap.size=w.heap.size+1 by rw[h9];simp)));have HX:=Qa (And.intro hx (And.intro hh (And.intro hG (And.intro hB ha))));clear hb hx hl ha hh hG hB h9 o0;go_enter func9,ntmps9;go_wp2_with fail;rw[<-HW.o.1];refine NW.o.mono ?_;rintro e w1 ⟨R,v',rfl,cu,o1,r0,r1,hv⟩;have CM:=Bf w1 (λq hq=>(hv q hq).2) cu HX.o.2.2.2.1 HX.o.1.long HX.o.1.man HX.o.2.1;rw[HX.o.2.2.2.2,List.drop_left] at CM;have CM:=Qa CM;have H1:=Qa (And.intro o1 (And.intro r0 (And.intro r1 hv)));clear cu o1 r0 r1 hv NW;go_wp2_with fail;refine CM.o.mono ?_;rintro e w2 ⟨x,vp,ve,vr,rfl,mn,⟨v2,cu,hz⟩,o2⟩;have hf:=mn.mf.form;obtain⟨ap,cp,ep⟩:=mn.mf.prev.len;obtain⟨ar,cr,er⟩:=mn.mf.root.len;obtain⟨ae,ce,ee⟩:=mn.mf.es.len;subst ep er hf ee;obtain⟨n,hn⟩:=EX m.es.length;obtain⟨b,off,hg,ea,_⟩:=mn.mf.es.at 0 (by have:=HX.o.1.pos;omega)
 obtain⟨rfl,rfl⟩:ae=some ⟨b,off,none⟩∧ce=hg:=by simpa using ea
 clear ea
 have h8:m.es.length<=ce:=by obtain⟨_,_,e,h,_⟩:=mn.mf.es;cases e;exact h
 have hp:=mn.mf.es.past (w':=w2) (Only.refl _ _);rw[<-hn] at h8 hp ⊢;obtain⟨W3,hr⟩:=EX (w2.alloc (.cells #[.int .u64 m.ver,.slice ap m.prev.length cp,.slice (some ⟨b,off,none⟩) n ce,.slice ar m.root.length cr] 37))
 have o3:N0 w2 W3:=by rw[hr];exact (Only.refl _ _).alloc _
 have gb:=show W3.heap[w2.heap.size]? = some (.cells #[.int .u64 m.ver,.slice ap m.prev.length cp,.slice (some ⟨b,off,none⟩) n ce,.slice ar m.root.length cr] 37 (0,0)) by rw[hr];exact heap_alloc_new _ _
 obtain⟨⟨y0,y1,y2,y3⟩,_⟩:=QY gb;have PL:=Qa (Si (t:=sl.flatten++(gs ps.length++ps.flatten)) n i d (cu.keep o3 (λf=>f) (λ_ _ f=>f)) (by rw[hn];exact HX.o.1.pos) (by rw[hn];exact HX.o.2.2.1.2.2.2.1));have HB:=Qa mn.be;have H2:=Qa (And.intro hz (And.intro (o2.trans (T:=λ_=>False) o3 (λ_ _ f=>f.elim)) (show R<w2.heap.size by have:=o2.size;have:=H1.o.2.2.1;omega)));have GB:=Qa gb;have k3:=Qa (hp.past o3);have HN:=Qa hn;clear cu hz o2 o3 gb CM mn hp hn;subst hr;go_wp2_with fail;refine PL.o.mono ?_;rintro e w4 ⟨rfl,⟨v3,hw,hm⟩,o4⟩;obtain⟨j,hj⟩:=EX (i+d);obtain⟨q,hq⟩:=EX (j+1);rw[<-hj]
 have k0:q<=n:=by have:=HX.o.1.pos;have:=HN.o;omega
 have hj1:(j:Int)+1=(q:Int):=by omega
 have k1:(i:Int)<=(q:Int):=by omega
 have k2:(q:Int)<=(ce:Int):=by omega
 have hqb:q<=1048576:=by have:=HX.o.2.2.1.2.2.2.1;have:=HN.o;omega
 have hs:=o4.heap GB.o (λe=>by have:=H2.o.2.2;omega);obtain⟨⟨u0,u1,u2,u3⟩,_⟩:=QY hs
 have c3:¬ce=i:=by omega
 have ht:q - i=d+1:=by omega
 have h6:=(k3.o.keep o4 (λk hk e=>by have:=HB.o k (by cases hk;rfl);have:=H1.o.2.2.1;omega)).part i q (by omega) k0;rw[ht] at h6
 have h0:∀k,v3.ownBlock=some k->k<w1.heap.size:=λk hk=>(H1.o.2.2.2 k (by rw[<-H2.o.1,<-hm];exact hk)).2
 have k4:w1.heap.size<=w4.heap.size:=by have:=H2.o.2.1.size;have:=o4.size;omega
 have RS:=Qa (uL (t:=gs ps.length++ps.flatten) ((m.es.drop i).take (d+1)) sl _ w4 hw (λk hk=>by have:=h0 k hk;omega) h6 (λk hk e=>by have:=HB.o k (by cases hk;rfl);have:=H1.o.2.2.1;omega) (Dv _ HX.o.1.cut) (λe he=>(HX.o.2.2.1.2.2.2.2 e (List.mem_of_mem_drop (List.mem_of_mem_take he))).2) (by rw[Qf];omega));have H4:=Qa (And.intro hm (And.intro (H2.o.2.1.trans o4 (λ_ _ e=>e)) (And.intro h0 k4)));rw[<-ht] at RS;have G4:=Qa hs;have HR:=Qa H2.o.2.2;clear hw hm o4 hj hq k0 ht hs h6 h0 k4 PL CM H2 k3 GB;go_wp2_with fail;refine RS.o.mono ?_;rintro e w5 ⟨a,rfl,⟨xs,lo,own⟩,⟨v4,hd,hu⟩,o5⟩;obtain⟨a5,c5,rfl⟩:=Qm own;have RP:=Qa (u7 ps (t:=[]) w5 (by rw[List.append_nil];exact hd) (λk hk=>by have:=H4.o.2.2.1 k (by rw[<-hu];exact hk);have:=H4.o.2.2.2;have:=o5.size;omega) HX.o.1.sum HX.o.1.few);have k5:=o5.heap G4.o (λe=>by have:=HR.o;omega);have H5:=Qa (And.intro lo (And.intro own (And.intro hd.cell (And.intro k5 (H4.o.2.1.trans o5 (λ_ _ e=>e))))));clear lo own hd hu o5 k5 RS H4 G4 u0 u1 u2 u3 y0 y1 y2 y3;go_wp2_with fail;refine RP.o.mono ?_;rintro e w6 ⟨vq,rfl,⟨us,lq,oq⟩,⟨v5,hy,_⟩,o6⟩;have EN:=Qa (Le hy);rw[show endV []=0 from rfl] at EN;obtain⟨aq,cq,rfl⟩:=Qm oq;have hRr:=HR.o;have q1:=H1.o.2.1;have q2:=HW.o.2.2;have q3:=H1.o.1.size;have q4:=H5.o.2.2.2.2.size;have q5:=o6.size;have ho:=o6.heap H5.o.2.2.2.1 (λe=>by omega);have hld:=Yt ho;obtain⟨⟨y0,y1,y2,y3⟩,_⟩:=QY ho;have h7:=o6.heap (H5.o.2.2.2.2.heap (H1.o.1.heap g0.o (λf=>f)) (λe=>by omega)) (λe=>by omega);obtain⟨⟨z0,z1,z2,z3,z4,z5,z6⟩,f0,f1,f2,f3,f4,f5,f6⟩:=WP h7;have P7:=put7 h7 (.int .u64 m.ver) (.slice ap m.prev.length cp) (.slice (some ⟨b,off,none⟩) n ce) (.slice ar m.root.length cr) (.int .i64 i) (.slice a5 sl.length c5) (.slice aq ps.length cq);have h1:=(H5.o.1.ne o6 H5.o.2.2.1 (by decide)).ne P7.2 h7 (by decide);have h2:=Wo P7.2 h7 (by decide) (Wo o6 H5.o.2.2.1 (by decide) H5.o.2.1);have h3:=lq.ne P7.2 h7 (by decide);have h4:=Wo P7.2 h7 (by decide) oq;have h5:N0 w _:=((HW.o.2.1.trans H1.o.1 (λ_ _ f=>f.elim)).trans (H5.o.2.2.2.2.trans o6 (λ_ _ e=>e)) (λi hi e=>by omega)).trans P7.2 (λi hi e=>by omega);have F:=Qa (And.intro (SW P7.1) (RGW.mk (w:=w) (h1.rl (by rw[h1.1];exact h2)).1 (h3.rl (by rw[h3.1];exact h4)).1 h5));clear h1 h2 h3 h4 h5 lq oq hy o6 ho h7 P7 hRr q1 q2 q3 q4 q5 RP H5 H1;go_wp2_with fail;refine EN.o.mono ?_;rintro e w7 ⟨rfl,rfl⟩;go_wp2;refine bodyPost_ret (Wy rfl _ _ rfl rfl F.o.1) rfl ⟨_,_,_,_,_,_,_,_,_,_,_,_,_,rfl,F.o.2⟩
theorem wM (n:Nat) (w:World) (hn:n<=1000000000):Calls prog 27 #[.int .i64 n] w λe w'=>∃u,e=.returned u∧w'.ownsRow w.heap.size 5 1 u (gs n).length (bl (gs n))∧N0 w w':=by
 have hcv:IntKind.u64.wrap (n:Int)=(n:Int):=by simp[IntKind.wrap,IntKind.bits,IntKind.signed];omega
 have AA:=Qa (Um (.slice none 0 0) [] (n:Int) w (Bs.nil _ _) NoCap.nil (by simp) (by omega) (by omega));rw[Int.toNat_natCast,List.nil_append] at AA;go_enter func27,ntmps27;go_wp2_with fail;refine AA.o.mono ?_;rintro e w1 ⟨u,rfl,own,o⟩;have F:=Qa (And.intro own o);obtain⟨a,c,rfl⟩:=Qm own;clear AA own o;go_wp2;go_ret;exact⟨_,rfl,F.o⟩
theorem Th (v:Value) (ls:List (LI)) (w:World) (h:RL w v ls) (h8:R8 ls) (hl:ls.length<=1000000000) :
 Calls prog 25 #[v] w λe w'=>∃u,e=.returned (.slice (some ⟨u,0,none⟩) ls.length ls.length)∧RL w' (.slice (some ⟨u,0,none⟩) ls.length ls.length) (ls.map LEAF)∧N0 w w':=by
 obtain⟨wm,h6,h0,om⟩:=JK w ls.length hl;obtain⟨ao,cap,rfl,h5⟩:=h.len;have H:=Qa h;have H8:=Qa h8;obtain⟨N,hN⟩:=EX w.heap.size;rw[<-hN] at h6 h0;have L0:Hid (LD wm N ls.length 0 (λi=>LEAF (ls.getD i []))∧N0 w wm):=⟨LD.nought h0,om⟩;have MA:=Qa (XL ls LEAF);obtain⟨n,hn⟩:=EX ls.length;rw[<-hn] at h6 L0 MA h5 ⊢
 have hnb:n<=1000000000:=by omega
 have h2:=Qa (And.intro hN hn);clear h h8 hl h0 om hN hn;go_enter func25,ntmps25;go_wp2
 go_loopw [11] (λi wr=>∃k:Nat,k<=n∧i=.int .i64 k∧Hid (LD wr N n k (λi=>LEAF (ls.getD i []))∧N0 w wr)) (λi _=>n - (intOf i).toNat)
 case atStart=>exact⟨0,Nat.zero_le _,rfl,L0⟩
 case round =>
  obtain⟨k,hk,rfl,hS⟩:=hrel;clear L0 h6
  by_cases hlt:k<n
  ·have dlt:decide ((k:Int)<(n:Int))=true:=Qe (by omega)
   have dlt':decide (k<n)=true:=Qe hlt;obtain⟨b,off,h4,ea,_⟩:=(H.o.past hS.o.2).form (show ls.length=n from h2.o.2.symm) (by omega)
   obtain⟨rfl,_,rfl⟩:ao=some ⟨b,off,none⟩∧n=n∧cap=h4:=by have:=h2.o.2;rw[<-this] at ea;simpa using ea
   have h9:RL wr (.slice (some ⟨b,off,none⟩) n cap) ls:=by have:=H.o.past hS.o.2;rw[<-h2.o.2] at this;exact this
   obtain⟨u,hu,h7,hnu⟩:=h9.at k (by rw[<-h2.o.2];exact hlt);have A:=Qa (Zm u (ls.getD k []) wr h7 (H8.o.at k).1 (by have:=(H8.o.at k).2;omega))
   have i0:(0:Int)<=(k:Int):=by omega
   have i1:(k:Int)<(n:Int):=by omega
   clear h9 h7 hnu ea;go_wp2_with fail;refine A.o.mono ?_;rintro e w4 ⟨v4,rfl,h1,o4⟩;have h3:=hS.o.1.past o4;obtain⟨hc,hf⟩:=h3.cell hlt
   have F:Hid (LD (w4.setCell ⟨N,k,none⟩ v4) N n (k+1) (λi=>LEAF (ls.getD i []))∧N0 w (w4.setCell ⟨N,k,none⟩ v4)) :=
    ⟨h3.store hlt (lo:=wr.heap.size) (by rw[Ky];exact h1),(hS.o.2.same o4).setCell (λhb=>by have:=h2.o.1;simp only at hb;omega) _⟩
   obtain⟨a4,c4,rfl⟩:=Qm h1;clear h1 o4 A hS h3 hu;go_wp2
   go_roundw
   case rel=>exact⟨k+1,by omega,by go_num,F⟩
   case measure=>simp[intOf];omega
  ·obtain rfl:k=n:=by omega
   have dlt:decide ((k:Int)<(k:Int))=false:=Qb (by omega);have F:=Qa (And.intro (show RL wr (.slice (some ⟨N,0,none⟩) k k) (ls.map LEAF) by have:=hS.o.1.all;rw[MA.o] at this;exact this) hS.o.2);clear hS;go_wp2;go_ret;exact⟨_,rfl,F.o⟩
theorem RY (vr:Value) (r:LI) (n i:Int) (vx vp:Value) (x p:List (LI)) (r8:U8 r) (x8:R8 x) (p8:R8 p) (hxl:x.length<=1000000000) (hpl:p.length<=1000000000) (w:World) (hr:Bs .u8 w vr r) (rx:RL w vx x) (rp:RL w vp p) :
 Calls prog 10 #[vr,.int .i64 n,.int .i64 i,vx,vp] w λe w'=>e=.returned (.bool (WG r n i (x.map LEAF) p))∧N0 w w':=by
 have LO:=Qa (Th vx x w rx x8 hxl);have VF:=Qa (λ(W:World) (u:Value) (o:N0 w W) (h:RL W u (x.map LEAF))=>Mj vr r n i u vp (x.map LEAF) p r8 (KE x) p8 (by rw[List.length_map];exact hxl) hpl W (hr.past o) h (rp.past o));obtain⟨ar,cr,rfl⟩:=hr.len;obtain⟨ax,cx,rfl,_⟩:=rx.len;obtain⟨ap,cp,rfl,_⟩:=rp.len;obtain⟨b,hb⟩:=EX (WG r n i (x.map LEAF) p);simp only[<-hb] at VF;rw[<-hb];clear r8 x8 p8 hxl hpl hr rx rp hb;go_enter func10,ntmps10;go_wp2_with fail;refine LO.o.mono ?_;rintro e w1 ⟨u,rfl,h,o1⟩;have V1:=Qa (VF.o w1 _ o1 h);have O1:=Qa o1;clear LO VF h o1;go_wp2_with fail;refine V1.o.mono ?_;rintro e w2 ⟨rfl,o2⟩;have F:=Qa (O1.o.same o2);clear V1 o2 O1;go_wp2;go_ret;exact⟨rfl,F.o⟩
def catR (ls:Nat->List Value) (k:Nat):List Value:=(List.range k).flatMap ls
theorem XW (ls:Nat->List Value) (k:Nat):catR ls (k+1)=catR ls k++ls k:=by simp[catR,List.range_succ]
theorem TP (ls:Nat->List Value) {k m:Nat} (h:k<=m):(catR ls k).length<=(catR ls m).length:=by
 induction m with
 | zero=>rw[Nat.le_zero.1 h];exact Nat.le_refl _
 | succ m ih =>
  rcases Nat.lt_or_ge k (m+1) with h' | h'
  ·have:=ih (by omega);rw[XW,Qc];omega
  ·rw[show k=m+1 by omega];exact Nat.le_refl _
theorem VS.len {u:Value} {ys:List Value} (h:VS w u ys):∃ao cap,u=.slice ao ys.length cap:=by
 obtain⟨ao,cap,e,_⟩:=h;exact⟨ao,cap,e⟩
theorem yi (n:Nat) (w:World) (h0:0<n) (h1:n<=1000000000) :
 Calls prog 61 #[.slice none 0 0,.int .i64 n] w λe w'=>∃G,e=.returned (.slice (some ⟨w.heap.size,0,none⟩) 0 G)∧w'.ownsRow w.heap.size 23 1 (.slice (some ⟨w.heap.size,0,none⟩) 0 G) 0 []∧N0 w w':=by
 obtain⟨i0,hi,hz0,hz1,hz2⟩:=info_parts Tryz.infoRows
 have h3:∀ty,(Builtin.append_ #[38,3] ty #[.slice none 0 0,.int .i64 (n:Int)]).run prog w =
  .ok (.slice (some ⟨w.heap.size,0,none⟩) n (grownCap w n 0 23)) (w.drew.alloc (.cells (Builtin.zeroCells (Value.slice none 0 0).cells n++Builtin.zeroCells (Value.slice none 0 0).cells (grownCap w n 0 23 - n)) 23)):=λty =>
  Lib.run_append_nil_zeros w 38 3 ty 23 i0 (.slice none 0 0) .i64 .i64 underlying38 underlying3 hi hz0 n h0 (by omega) (by omega) (by rw[hz2];omega)
 have hGn:n<=grownCap w n 0 23:=grownCap_ge w _ _ _;have h2:grownCap w n 0 23<=maxLen:=grownCap_le_maxLen w n 0 23 (by unfold maxLen;omega);obtain⟨G,hG⟩:=EX (grownCap w n 0 23);rw[<-hG] at h3 hGn h2
 have hG63:G<=9223372036854775807:=by unfold maxLen at h2;omega
 have HM:=Qa h2
 have d0:decide ((n:Int)<0)=false:=by simp
 have d1:decide (0<(n:Int))=true:=by simp;omega
 obtain⟨cs,h4⟩:=EX (Builtin.zeroCells (Value.slice none 0 0).cells n++Builtin.zeroCells (Value.slice none 0 0).cells (G - n))
 have hsz:Hid (cs.size=G*1):=by
  have hs:∀q,(Builtin.zeroCells (Value.slice none 0 0).cells q).size=q:=λq=>by simp[Builtin.zeroCells,Value.cells]
  simp only[Hid];rw[h4,Array.size_append,hs,hs];omega
 rw[<-h4] at h3;clear hG h2 h4;go_enter func61,ntmps61;go_wp2_with (at_builtin;refine Lib.wpList_append_run _ rfl _ _ _ _ rfl _ _ rfl rfl _ _ (h3 _) ?_);go_ret;exact⟨G,rfl,World.ownsRow_made (w:=w.drew) (base:=w.heap.size) (e:=23) (size:=1) cs G (Nat.le_refl _) HM.o hsz.o,(Only.refl _ _).drew.alloc _⟩
theorem Bg (B m C:Nat) (vs:Nat->Value) (ls:Nat->List Value) (w:World) (hm:m<=1000) (hm0:0<m) (hc:∀i,i<m->w.cell? ⟨B,i,none⟩=some (vs i)) (hb:∀i,i<m->VS w (vs i) (ls i))
 (hp:0<(catR ls m).length) (hl:(catR ls m).length<=1000000000) :
 Calls prog 26 #[.slice (some ⟨B,0,none⟩) m C] w λe w'=>∃v',e=.returned v'∧w'.ownsRow w.heap.size 23 1 v' (catR ls m).length (catR ls m)∧N0 w w':=by
 obtain⟨i0,hi,hz0,hz1,hz2⟩:=info_parts Tryz.infoRows;have HC:=Qa hc;have HB:=Qa hb;have HP:=Qa hp;have HL:=Qa hl;have hBw:B<w.heap.size:=World.block_lt_of_cell? w _ (hc 0 hm0);clear hc hb hp hl;go_enter func26,ntmps26;go_wp2
 go_loop [3,11] (λs i=>∃k:Nat,k<=m∧i=.int .i64 k∧s=.int .i64 (catR ls k).length) (λ_ i=>m - (intOf i).toNat)
 case atStart=>exact⟨0,Nat.zero_le _,rfl,rfl⟩
 case round =>
  obtain⟨k,hk,rfl,rfl⟩:=hrel
  by_cases hlt:k<m
  ·obtain⟨ao,cap,e1⟩:=(HB.o k hlt).len
   have c0:=HC.o k hlt;rw[e1] at c0
   have h0:Hid ((catR ls (k+1)).length=(catR ls k).length+(ls k).length):=by simp only[Hid];rw[XW,Qc]
   have h2:=TP ls (show k+1<=m by omega);rw[h0.o] at h2;have HX:=HL.o;obtain⟨s,hs⟩:=EX ((catR ls k).length);obtain⟨n,hn⟩:=EX ((ls k).length);rw[<-hs,<-hn] at h2 h0;rw[<-hn] at c0;rw[<-hs]
   have hb2:s+n<=1000000000:=by omega
   have dlt:decide ((k:Int)<(m:Int))=true:=by simp;omega
   have d0:decide ((s:Int)+n<0)=false:=by simp;omega
   clear e1 hs hn h2 HX;go_wp2
   go_round
   case rel=>exact⟨k+1,by omega,by simp,by rw[h0.o];simp⟩
   case measure=>simp[intOf];omega
  ·obtain rfl:k=m:=by omega
   have dlt:decide ((k:Int)<(k:Int))=false:=by simp
   obtain⟨s,hs⟩:=EX ((catR ls k).length);have HS:=Qa hs;rw[<-hs]
   have hs0:0<s:=by rw[hs];exact HP.o
   have hs1:s<=1000000000:=by rw[hs];exact HL.o
   have GN:=Qa (yi s w hs0 hs1);clear hs;go_wp2_with fail;refine GN.o.mono ?_;rintro e w2 ⟨G,rfl,h3,h9⟩;have h6:Below w.heap.size w w2:=h9.low (Nat.le_refl _);clear GN h9;go_wp2
   go_loopw [6,27] (λo i wr=>Below w.heap.size w wr∧∃j:Nat,j<=k∧i=.int .i64 j∧wr.ownsRow w.heap.size 23 1 o (catR ls j).length (catR ls j)) (λ_ i _=>k - (intOf i).toNat)
   case atStart=>exact⟨h6,0,Nat.zero_le _,rfl,h3⟩
   case round =>
    obtain⟨h4,j,hj,rfl,h1⟩:=hrel;clear h6 h3;have ha:=h4.size
    by_cases hlt:j<k
    ·obtain⟨ao,cap,e1⟩:=(HB.o j hlt).len
     have c0:=(h4.cell (p:=⟨B,j,none⟩) hBw).trans (HC.o j hlt);have h8:=Qa ((HB.o j hlt).past (Uw h4));rw[e1] at c0 h8;have h0:Hid (catR ls (j+1)=catR ls j++ls j):=XW ls j;have h2:=TP ls (show j+1<=k by omega);rw[h0.o,Qc] at h2;have HX:=HL.o;obtain⟨n,hn⟩:=EX ((ls j).length);rw[<-hn] at c0 h8
     have h7:decide ((j:Int)<(k:Int))=true:=by simp;omega
     clear e1 hn;have h5:=Qa h2;clear h2 HX;go_wp2_with (at_builtin;refine Kd _ rfl _ _ _ rfl w.heap.size 23 i0 (.slice none 0 0) 24 underlying38 hi hz0 hz1 hz2 rfl _ _ _ rfl h1 _ (ls j) rfl h8.o ?c3 ?c4 ha ?_)
     case c3=>have:=h5.o;have:=HL.o;unfold maxLen;omega
     case c4=>have:=h5.o;have:=HL.o;omega
     intro v' w3 hown2 hgrow;have hb3:Below w.heap.size w w3:=h4.grown hgrow ha (λq hq=>(h1.lt q hq).1);rw[<-Qc,<-h0.o] at hown2;clear h1 hgrow;go_wp2
     go_roundw
     case rel=>exact⟨hb3,j+1,by omega,by simp,hown2⟩
     case measure=>simp[intOf];omega
    ·obtain rfl:j=k:=by omega
     have h7:decide ((j:Int)<(j:Int))=false:=by simp
     go_wp2;go_ret;exact⟨_,rfl,h1,Uw h4⟩
def RWB (w:World) (vs:List Value) (ls:List (LI)):Prop:=vs.length=ls.length∧∀j u,vs[j]? = some u->Bs .u8 w u (ls.getD j [])∧NoCap u
theorem RWB.app {vs us:List Value} {ls ms:List (LI)} (h:RWB w vs ls) (k:RWB w us ms):RWB w (vs++us) (ls++ms):=⟨by rw[Qc,Qc,h.1,k.1],SR h.1 h.2 k.2⟩
theorem RWB.past {vs:List Value} (h:RWB w vs ls) (o:N0 w w'):RWB w' vs ls:=⟨h.1,IK h.2 o⟩
theorem RWB.one {u:Value} (h:Bs .u8 w u l) (n:NoCap u):RWB w [u] [l]:=⟨rfl,λj v hv=>by
 cases j with
 | zero=>simp at hv;subst hv;exact⟨h,n⟩
 | succ j=>simp at hv⟩
theorem RWB.of_lo {vs:List Value} (h:LO w vs ls):RWB w vs ls:=⟨h.1,λj u hu=>by obtain⟨lo,h1⟩:=h.2 j u hu;exact⟨Bs.of_own h1,NoCap.of_own h1⟩⟩
theorem RWB.part {vs:List Value} (h:RWB w vs ls) (i k:Nat):RWB w ((vs.drop i).take k) ((ls.drop i).take k):=⟨by rw[Qf,Qo,Qf,Qo,h.1],λj u hu=>by
 by_cases hj:j<k
 ·rw[List.getElem?_take,if_pos hj,List.getElem?_drop] at hu
  rw[Qd,List.getElem?_take,if_pos hj,List.getElem?_drop,<-Qd];exact h.2 _ u hu
 ·rw[List.getElem?_take,if_neg hj] at hu;cases hu⟩
theorem VS.part {b off n cap:Nat} {ys:List Value} (h:VS w (.slice (some ⟨b,off,none⟩) n cap) ys) (i k:Nat) (hk:i+k<=n):VS w (.slice (some ⟨b,off+i,none⟩) k (cap - i)) ((ys.drop i).take k):=by
 obtain⟨ao,c,e,_,h1,_,h4⟩:=h
 obtain⟨rfl,rfl,rfl⟩:some ⟨b,off,none⟩=ao∧n=ys.length∧cap=c:=by simpa using e
 have hl:((ys.drop i).take k).length=k:=by rw[Qf,Qo];omega
 refine⟨_,_,by rw[hl],NoCap.some _ _ _,λy hy=>h1 y (List.mem_of_mem_drop (List.mem_of_mem_take hy)),(λe=>by cases e),λad ha j y hy=>?_⟩
 cases ha
 by_cases hj:j<k
 ·rw[List.getElem?_take,if_pos hj,List.getElem?_drop] at hy
  have:=h4 _ rfl (i+j) y hy;rw[Go.WideShapes.add_plain] at this ⊢;rw[Nat.add_assoc];exact this
 ·rw[List.getElem?_take,if_neg hj] at hy;cases hy
theorem VS.heap {b:Nat} {ys:List Value} {T:TypeId} {f:Nat × Nat} (h:w.heap[b]? = some (.cells ys.toArray T f)) (h1:∀y∈ys,y.oneCell'=true):VS w (.slice (some ⟨b,0,none⟩) ys.length ys.length) ys :=
 ⟨_,_,rfl,NoCap.some _ _ _,h1,(λe=>by cases e),λad ha j y hy=>by
  cases ha
  rw[Go.WideShapes.add_plain,Nat.zero_add];unfold World.cell?;simp only;rw[h]
  simpa using hy⟩
theorem Pa {lo n:Nat} {xs:List Value} (h:w.ownsRow lo E 1 v n xs) (h0:0<n):∃g c,v=.slice (some ⟨g,0,none⟩) n c∧∀i,i<n->w.cell? ⟨g,i,none⟩=xs[i]?:=by
 rcases h.2 with ⟨e,q⟩ | ⟨g,c,cur,e,_⟩
 ·omega
 ·subst e
  exact⟨g,c,rfl,λi hi=>h.cellAt i (by omega)⟩
theorem qP {lo:Nat} (v:Value) (rows:List Value) (ls:List (LI)) (w:World) (own:w.ownsRow lo 23 1 v rows.length rows) (hb:RWB w rows ls) (h0:0<rows.length) (h1:rows.length<=1000) (hp:0<ls.flatten.length) (hl:ls.flatten.length<=140737488355328) :
 Calls prog 22 #[v] w λe w'=>∃v',e=.returned v'∧w'.ownsRow w.heap.size 5 1 v' ls.flatten.length (bl ls.flatten)∧N0 w w':=by
 obtain⟨g,c,rfl,hc⟩:=Pa own h0
 have h2:cat (λi=>ls.getD i []) rows.length=ls.flatten:=by rw[hb.1];exact Pj ls
 have:=XZ g rows.length c (λi=>rows.getD i undef) (λi=>ls.getD i []) w h1 h0
  (λi hi=>by rw[hc i hi,Qd,Qg hi];rfl)
  (λi hi=>(hb.2 i _ (by rw[Qd,Qg hi];rfl)).1)
  (λi hi=>(hb.2 i _ (by rw[Qd,Qg hi];rfl)).2)
  (by rw[h2];exact hp) (by rw[h2];exact hl)
 rw[h2] at this;exact this
theorem MP {b3 b1 B:Nat} {T3 T1 T4:TypeId} {f3 f1 f4:Nat × Nat} {u0 u1 u2 u3 vx vp:Value} {xs ps:List Value} (g3:w.heap[b3]? = some (.cells #[u0,u1,u2] T3 f3)) (g1:w.heap[b1]? = some (.cells #[u3] T1 f1)) (g4:w.heap[B]? = some (.cells #[.slice (some ⟨b3,0,none⟩) 3 3,vx,.slice (some ⟨b1,0,none⟩) 1 1,vp] T4 f4))
 (hx:VS w vx xs) (hp:VS w vp ps) (c0:u0.oneCell'=true) (c1:u1.oneCell'=true) (c2:u2.oneCell'=true) (c3:u3.oneCell'=true) (hl:xs.length+ps.length<=100000000) :
 Calls prog 26 #[.slice (some ⟨B,0,none⟩) 4 4] w λe w'=>∃v',e=.returned v'∧w'.ownsRow w.heap.size 23 1 v' ([u0,u1,u2]++(xs++([u3]++ps))).length ([u0,u1,u2]++(xs++([u3]++ps)))∧N0 w w':=by
 obtain⟨VF,h1⟩:∃F:Nat->Value,F=λi=>match i with | 0=>.slice (some ⟨b3,0,none⟩) 3 3 | 1=>vx | 2=>.slice (some ⟨b1,0,none⟩) 1 1 | _=>vp:=⟨_,rfl⟩
 obtain⟨LF,h2⟩:∃F:Nat->List Value,F=λi=>match i with | 0=>[u0,u1,u2] | 1=>xs | 2=>[u3] | _=>ps:=⟨_,rfl⟩
 have h0:catR LF 4=[u0,u1,u2]++(xs++([u3]++ps)):=by subst h2;simp[catR,List.range_succ]
 have:=Bg B 4 4 VF LF w (by omega) (by omega)
  (λi hi=>by
   subst h1
   have e:w.cell? ⟨B,i,none⟩=(#[.slice (some ⟨b3,0,none⟩) 3 3,vx,.slice (some ⟨b1,0,none⟩) 1 1,vp]:Array Value)[i]?:=by unfold World.cell?;simp only;rw[g4];rfl
   rw[e]
   match i,hi with
   | 0,_=>rfl
   | 1,_=>rfl
   | 2,_=>rfl
   | 3,_=>rfl)
  (λi hi=>by
   subst h1 h2
   match i,hi with
   | 0,_=>exact VS.heap (ys:=[u0,u1,u2]) g3 (by intro y hy;simp at hy;rcases hy with rfl | rfl | rfl <;> assumption)
   | 1,_=>exact hx
   | 2,_=>exact VS.heap (ys:=[u3]) g1 (by intro y hy;simp at hy;subst hy;exact c3)
   | 3,_=>exact hp)
  (by rw[h0];simp) (by rw[h0];simp only[Qc,Qi,List.length_nil];omega)
 rw[h0] at this;exact this
theorem JA (n:Nat) (w:World) (hn:n<=1000000000):Calls prog 27 #[.int .i64 n] w λe w'=>∃a c,e=.returned (.slice a (gs n).length c)∧RWB w' [.slice a (gs n).length c] [gs n]∧N0 w w' :=
 (wM n w hn).mono λe w' ⟨u,he,own,o⟩=>by
  obtain⟨a,c,rfl⟩:=Qm own;exact⟨a,c,he,RWB.one (Bs.of_own own) (NoCap.of_own own),o⟩
theorem Bp (vb:Value) (ys:LI) (w:World) (hb:Bs .u8 w vb ys) (nb:NoCap vb) (hl:ys.length<=1000000):Calls prog 21 #[vb] w λe w'=>∃a c,e=.returned (.slice a (blk ys).length c)∧RWB w' [.slice a (blk ys).length c] [blk ys]∧N0 w w' :=
 (Wb vb ys w hb nb hl).mono λe w' ⟨u,he,own,o⟩=>by
  obtain⟨a,c,rfl⟩:=Qm own;exact⟨a,c,he,RWB.one (Bs.of_own own) (NoCap.of_own own),o⟩
def Uj (sg:LI) (ls:List (LI)) (i d:Nat) (ps:List (LI)):List (LI):=[blk sg,gs i,gs d]++(((ls.drop i).take (d+1))++([gs ps.length]++ps))
theorem Cy {b sg:LI} {m:MAN} (i d:Nat) (vb:Value) (w:World) (hb:Bs .u8 w vb b) (h8:U8 b) (hl:b.length<=1000000000000) (hx:UQ b=.ok (m,sg,ls)) (hj:i+d<ls.length) (hn:ls.length<=100) (hh:sg.length<=1000000) (r8:R8 ls) (hp:(WALKL (ls.map LEAF) i (i+d)).length<=64)
 (hY:(Uj sg ls i d (WALKL (ls.map LEAF) i (i+d))).flatten.length<=140737488355328) :
 Calls prog 8 #[vb,.int .i64 i,.int .i64 ((i+d:Nat):Int)] w λe w'=>∃u,e=.returned (.tuple #[u,.int .i64 0])∧w'.ownsRow w.heap.size 5 1 u (Uj sg ls i d (WALKL (ls.map LEAF) i (i+d))).flatten.length (bl (Uj sg ls i d (WALKL (ls.map LEAF) i (i+d))).flatten)∧N0 w w':=by
 have SP:=Qa (Rr vb b w hb h8 hl hx);obtain⟨j,h6⟩:=EX (i+d);rw[<-h6] at hp hY ⊢;obtain⟨P,hP⟩:=EX (WALKL (ls.map LEAF) i j);rw[<-hP] at hp hY ⊢;obtain⟨Y,h5⟩:=EX ((Uj sg ls i d P).flatten);rw[<-h5] at hY ⊢;have PV:=Qa (λ(W:World) (v:Value) (h:RL W v (ls.map LEAF))=>NY v (ls.map LEAF) i j (KE ls) (by rw[List.length_map];omega) W h);have hA:Zk (ls.map LEAF) i j:=⟨by omega,by omega,by rw[List.length_map];omega⟩;have e1:Xh (ls.map LEAF) i j=0:=if_pos hA
 have e2:ZX (ls.map LEAF) i j=P:=by rw[hP];exact if_pos hA
 rw[e1,e2] at PV;have NI:=Qa (λW:World=>JA i W (by omega));have ND:=Qa (λW:World=>JA d W (by omega));have NP:=Qa (λW:World=>JA P.length W (by omega));obtain⟨n,hw⟩:=EX ls.length;obtain⟨q,hq⟩:=EX (j+1);obtain⟨y,hy⟩:=EX P.length;rw[<-hy] at NP hp;obtain⟨z0,he⟩:=EX ((blk sg).length);obtain⟨z1,hu⟩:=EX ((gs i).length);obtain⟨z2,hs⟩:=EX ((gs d).length);obtain⟨z3,ha⟩:=EX ((gs y).length);rw[<-hu] at NI;rw[<-hs] at ND;rw[<-ha] at NP
 have hsub:(j:Int) - (i:Int)=(d:Int):=by omega
 have hj1:(j:Int)+1=(q:Int):=by omega
 have k1:(i:Int)<=(q:Int):=by omega
 have HQ:=Qa (And.intro hw (And.intro hq (And.intro h6 (And.intro hj (And.intro hn (And.intro hy (And.intro hh (And.intro r8 hY))))))))
 have b1:i<=100:=by omega
 have b2:j<=100:=by omega
 have b3:q<=101:=by omega
 have HZ:=Qa (And.intro he h5);clear hb h8 hl hx hj hn hh r8 hY h6 hP hA e1 e2 hw hq hy h5 he hu hs ha;go_enter func8,ntmps8;go_wp2_with fail;refine SP.o.mono ?_;rintro e w1 ⟨x,vp,ve,vr,u,a,rfl,S⟩;have hf:=S.mn.mf.form;obtain⟨ap,cp,ep⟩:=S.mn.mf.prev.len;obtain⟨ae,ce,ee⟩:=S.mn.mf.es.len;obtain⟨ar,cr,er⟩:=S.mn.mf.root.len;obtain⟨au,cu,eu⟩:=S.sg.len;subst ep ee er hf eu;obtain⟨vs,lo,own⟩:=S.ls;obtain⟨g,c,rfl,_⟩:=Pa own (by have:=HQ.o.2.2.2.1;omega)
 have hd:ls.length<=c:=by rcases own.2 with ⟨e,_⟩ | ⟨g',c',cur,e,_,_,h,_⟩ <;> cases e;exact h
 have ht:=VS.of_own own (λz hz=>lo.one' z hz);have hv:=(lo.rl (by rw[lo.1];exact own)).1;obtain⟨W2,ho⟩:=EX (w1.alloc (.cells #[.int .u64 m.ver,.slice ap m.prev.length cp,.slice ae m.es.length ce,.slice ar m.root.length cr] 37))
 have o2:N0 w1 W2:=by rw[ho];exact (Only.refl _ _).alloc _
 have LV:=Qa (Th _ ls W2 (hv.past o2) HQ.o.2.2.2.2.2.2.2.1 (by have:=HQ.o.2.2.2.2.1;omega));have H1:=Qa (And.intro (ht.past o2) (And.intro ((RWB.of_lo lo).past o2) (And.intro (S.sg.past o2) (And.intro S.nu (S.o.same o2)))));have HC:Hid (ls.length<=c):=hd;clear S lo own ht hv o2 hd SP;subst ho;rw[<-HQ.o.1] at LV ⊢;go_wp2_with fail;refine LV.o.mono ?_;rintro e w3 ⟨uu,rfl,hk,o3⟩;have hm:=Qa (PV.o w3 _ hk);have H3:=Qa (And.intro (H1.o.1.past o3) (And.intro (H1.o.2.1.past o3) (And.intro (H1.o.2.2.1.past o3) (And.intro H1.o.2.2.2.1 (H1.o.2.2.2.2.same o3)))));clear hk o3 LV PV H1;go_wp2_with fail;refine hm.o.mono ?_;rintro e w4 ⟨vq,rfl,rq,nq,o4⟩;obtain⟨us,hV,h9,hr⟩:=rq.vs nq;obtain⟨aq,cq,rfl,_⟩:=rq.len;have BK:=Qa (λW (o:N0 w4 W)=>Bp (.slice au sg.length cu) sg W (H3.o.2.2.1.past (o4.same o)) H3.o.2.2.2.1 HQ.o.2.2.2.2.2.2.1);rw[<-HZ.o.1] at BK;have H4:=Qa (And.intro (H3.o.1.past o4) (And.intro (H3.o.2.1.past o4) (And.intro hV (And.intro (show RWB w4 us P from ⟨h9,hr⟩) (H3.o.2.2.2.2.same o4)))))
 have k2:(q:Int)<=(c:Int):=by have:=HC.o;have:=HQ.o.1;have:=HQ.o.2.1;have:=HQ.o.2.2.1;have:=HQ.o.2.2.2.1;omega
 have k3:¬c=i:=by have:=HQ.o.2.1;have:=HQ.o.2.2.1;omega
 have CR:Hid (N0 w4 w4.drew):=(Only.refl _ _).drew;rw[<-HQ.o.2.2.2.2.2.1]
 have k0:(0:Int)<=(i:Int):=by omega
 have hwd:IntKind.i64.wrap (d:Int)=(d:Int):=by have:=HQ.o.2.2.1;simp[IntKind.wrap,IntKind.bits,IntKind.signed];omega
 have hwq:IntKind.i64.wrap (q:Int)=(q:Int):=by simp[IntKind.wrap,IntKind.bits,IntKind.signed];omega
 have FN:=Qa (λ(W:World) (b3 b1 B:Nat) (x0 x1 x2 x3:Value) (o:N0 w4 W) (g4:W.heap[B]? = some (.cells #[.slice (some ⟨b3,0,none⟩) 3 3,.slice (some ⟨g,i,none⟩) (q - i) (c - i),.slice (some ⟨b1,0,none⟩) 1 1,.slice aq y cq] 38 (0,0))) (g3:W.heap[b3]? = some (.cells #[x0,x1,x2] 23 (0,0))) (g1:W.heap[b1]? = some (.cells #[x3] 23 (0,0))) (R:RWB W ([x0]++[x1]++[x2]++[x3]) ([blk sg]++[gs i]++[gs d]++[gs y])) =>
  (show Calls prog 26 #[.slice (some ⟨B,0,none⟩) 4 4] W λe w'=>∃v h2,e=.returned v∧w'.ownsRow W.heap.size 23 1 v h2.length h2∧RWB w' h2 (Uj sg ls i d P)∧(0<h2.length∧h2.length<=1000)∧N0 W w' from by
   have hqi:q - i=d+1:=by have:=HQ.o.2.1;have:=HQ.o.2.2.1;omega
   have hvl:vs.length=ls.length:=H4.o.2.1.1;have h9:us.length=P.length:=H4.o.2.2.2.1.1
   have hle:i+(q - i)<=ls.length:=by have:=HQ.o.1;have:=HQ.o.2.1;have:=HQ.o.2.2.1;have:=HQ.o.2.2.2.1;omega
   have hy:=HQ.o.2.2.2.2.2.1;have hn1:=HQ.o.1;have hn2:=HQ.o.2.2.2.2.1;have VX:=(H4.o.1.past o).part i (q - i) hle;rw[Nat.zero_add] at VX
   have oc:∀(t:Nat) (x:Value),([x0]++[x1]++[x2]++[x3])[t]? = some x->x.oneCell'=true:=λt x hx=>by obtain⟨a,c,e⟩:=(R.2 t x hx).1.len;rw[e];rfl
   have HV:=H4.o.2.2.1.past o;rw[<-hy] at HV;refine (MP g3 g1 g4 VX HV (oc 0 _ rfl) (oc 1 _ rfl) (oc 2 _ rfl) (oc 3 _ rfl) (by rw[Qf,Qo];omega)).mono ?_;rintro e w' ⟨v',rfl,h7,o'⟩;have rx:=((H4.o.2.1.past o).past o').part i (q - i);have rp:=(H4.o.2.2.2.1.past o).past o';have r3:RWB w' [x0,x1,x2] [blk sg,gs i,gs d]:=(R.past o').part 0 3;have r1:RWB w' [x3] [gs y]:=(R.past o').part 3 1;have rr:=r3.app (rx.app (r1.app rp));rw[hy] at rr;refine⟨v',_,rfl,h7,by rw[Uj,<-hqi];exact rr,⟨by simp,?_⟩,o'⟩;simp only[Qc,Qi,List.length_nil,Qf,Qo]
   omega))
 have WH:=Qa (λ(W:World) (lo:Nat) (v:Value) (h2:List Value) (own:W.ownsRow lo 23 1 v h2.length h2) (r:RWB W h2 (Uj sg ls i d P)) (h0:0<h2.length) (h1:h2.length<=1000)=>qP v h2 (Uj sg ls i d P) W own r h0 h1 (by
  unfold Uj
  have:0<(blk sg).length:=by unfold blk;have:=Vb sg.length;rw[Qc];omega
  simp only[List.flatten_append,List.flatten_cons,Qc]
  omega) (by rw[<-HZ.o.2];exact HQ.o.2.2.2.2.2.2.2.2))
 rw[<-HZ.o.2] at WH;clear hV h9 hr rq nq o4 H3 hm;go_wp2_with fail
 go_region_held3 (λ_=>True) (trivial) (first
  | (go_at_call 21;refine (BK.o _ CR.o).mono ?_;rintro e w5 ⟨a0,c0,rfl,r0,o5⟩;have CR:=Qa (CR.o.same o5);have R:=Qa r0;clear r0 o5 BK)
  | (go_at_call 27;refine (NI.o _).mono ?_;rintro e w6 ⟨a1,c1,rfl,r1,o6⟩;have CR:=Qa (CR.o.same o6);have R:=Qa ((R.o.past o6).app r1);clear r1 o6 NI)
  | (go_at_call 27;refine (ND.o _).mono ?_;rintro e w7 ⟨a2,c2,rfl,r2,o7⟩;have CR:=Qa (CR.o.same o7);have R:=Qa ((R.o.past o7).app r2);clear r2 o7 ND)
  | (go_at_call 27;refine (NP.o _).mono ?_;rintro e w8 ⟨a3,c3,rfl,r3,o8⟩;(first | (have G3:=Qa (o8.heap (heap_alloc_new w7 _) (λf=>f));have R:=Qa (((R.o.past ((Only.refl _ _).alloc _)).past o8).app r3);have CR:=Qa ((CR.o.alloc _).same o8)) | (have R:=Qa ((R.o.past o8).app r3);have CR:=Qa (CR.o.same o8)));clear r3 o8 NP)
  | (go_at_call 26;refine (FN.o _ _ _ _ _ _ _ _ (by first | exact (CR.o.alloc _).alloc _ | exact ((CR.o.alloc _).alloc _).alloc _) (by first | exact YV (by simp) | exact heap_alloc_new _ _) (by first | exact Yr (Yr G3.o) | exact Yr (YV (by simp)) | exact Yr (heap_alloc_new _ _) | exact Yr (Yr (heap_alloc_new _ _))) (by first | exact Yr (YV (by simp)) | exact Yr (heap_alloc_new _ _) | exact Yr (Yr (heap_alloc_new _ _))) (by first | exact R.o.past (((Only.refl _ _).alloc _).alloc _) | exact R.o.past ((((Only.refl _ _).alloc _).alloc _).alloc _))).mono ?_;rintro e w9 ⟨v9,h2,rfl,h4,r9,⟨p9,n9⟩,o9⟩;(first | have CR:=Qa (((CR.o.alloc _).alloc _).same o9) | have CR:=Qa ((((CR.o.alloc _).alloc _).alloc _).same o9));have WW:=Qa (WH.o _ _ _ _ h4 r9 p9 n9);clear h4 r9 p9 n9 o9 WH FN))
 all_goals
  go_wp2_with fail;refine WW.o.mono ?_;rintro e w10 ⟨v10,rfl,h3,hg⟩;have F:=Qa (And.intro (Qu h3 (show w.heap.size<=w9.heap.size by have:=H4.o.2.2.2.2.size;have:=CR.o.size;omega)) (H4.o.2.2.2.2.same (CR.o.same hg)));obtain⟨a10,c10,rfl⟩:=Qm h3;clear h3 hg WW;go_wp2;go_ret2;exact⟨_,rfl,F.o⟩
theorem DV {l:List (LI)} (h:∀x∈l,x.length=32) (h0:0<l.length):(QB l).length=32:=by
 rcases l with _ | ⟨a,_ | ⟨b,t⟩⟩
 ·simp at h0
 ·rw[V4 (by simp)];exact h a (by simp)
 ·exact NF (by simp)
theorem Ge {l:List (LI)} (h:∀x∈l,x.length=32):∀(f lo hi i j:Nat),lo<hi->hi<=l.length->∀p∈QG f l lo hi i j,p.length=32
 | 0,_,_,_,_,_,_,p,hp=>by simp[QG] at hp
 | f+1,lo,hi,i,j,h1,h2,p,hp=>by
  rw[QG] at hp
  by_cases c1:i<=lo∧hi<=j+1
  ·rw[if_pos c1] at hp;simp at hp
  ·rw[if_neg c1] at hp
   by_cases c2:j<lo∨hi<=i
   ·rw[if_pos c2,List.mem_singleton] at hp
    subst hp;exact DV (λx hx=>h x (List.mem_of_mem_drop (List.mem_of_mem_take hx))) (by rw[Ko l lo hi h2];omega)
   ·rw[if_neg c2] at hp
    have h3:=Kb h1 c1 c2;have h4:=YK h3;have h5:=Ht h3
    rcases List.mem_append.1 hp with hp | hp
    ·exact Ge h f _ _ _ _ (by omega) (by omega) p hp
    ·exact Ge h f _ _ _ _ (by omega) (by omega) p hp
theorem XC:∀(f lo hi i j:Nat),lo<hi->Ql f lo hi i j<=hi - lo
 | 0,_,_,_,_,_=>Nat.zero_le _
 | f+1,lo,hi,i,j,h1=>by
  rw[Hy]
  by_cases c1:i<=lo∧hi<=j+1
  ·rw[if_pos c1];omega
  ·rw[if_neg c1]
   by_cases c2:j<lo∨hi<=i
   ·rw[if_pos c2];omega
   ·rw[if_neg c2]
    have h3:=Kb h1 c1 c2;have h4:=YK h3;have h5:=Ht h3;have h6:=XC f lo (lo+HALF (hi - lo)) i j (by omega);have h7:=XC f (lo+HALF (hi - lo)) hi i j (by omega);omega
theorem Ow (ls:List (LI)):∀x∈ls.map LEAF,x.length=32:=λx hx=>by
 obtain⟨a,_,rfl⟩:=List.mem_map.1 hx;exact Ky _
theorem Oo {l:List (LI)} {i j:Nat} (hl:l.length<=1000000) (hij:i<=j) (hj:j<l.length):WG (QB l) (l.length:Int) (i:Int) (Qx l i (j+1)) (WALKL l i j)=true:=by
 have hp:=Ko l i (j+1) (by omega);have h:Wx (l.length:Int) (i:Int) (Qx l i (j+1)):=⟨by omega,by omega,by omega,by omega,by omega⟩
 have hz:(WALKL l i j).length=MANY ((l.length:Int).toNat) ((i:Int).toNat) ((i:Int).toNat+(Qx l i (j+1)).length - 1):=by
  rw[Ng,Int.toNat_natCast,Int.toNat_natCast,hp,show i+(j+1 - i) - 1=j by omega]
 obtain⟨e1,e2⟩:=Lt (p:=WALKL l i j) h hz;unfold WG;rw[e1,e2,Int.toNat_natCast,Int.toNat_natCast,Sw l i j hij hj];simp
structure ARX (b sg:LI) (m:MAN) (ls:List (LI)):Prop where
 sp:UQ b=.ok (m,sg,ls)
 b8:U8 b
 few:ls.length<=60
 sg:sg.length<=100000
 le:∀x∈ls,x.length<=4194320
 r8:R8 ls
abbrev YQ (ls:List (LI)) (i d:Nat):List (LI):=WALKL (ls.map LEAF) i (i+d)
abbrev UZ (ls:List (LI)) (i d:Nat):List (LI):=(ls.drop i).take (d+1)
abbrev U2 (sg:LI) (ls:List (LI)) (i d:Nat):LI:=(Uj sg ls i d (YQ ls i d)).flatten
theorem Xi {i d:Nat} (h:i+d<ls.length):(∀p∈YQ ls i d,p.length=32)∧(YQ ls i d).length<=ls.length:=by
 refine⟨Ge (Ow ls) _ _ _ _ _ (by rw[List.length_map];omega) (Nat.le_refl _),?_⟩;rw[Ng];have:=XC ((ls.map LEAF).length+1) 0 (ls.map LEAF).length i (i+d) (by rw[List.length_map];omega);rw[Nat.sub_zero,List.length_map] at this;unfold MANY;rw[List.length_map];exact this
theorem JN (ls:List (LI)) (i d:Nat):∀p∈YQ ls i d,U8 p:=by
 have:∀(f:Nat) (lo hi a b:Nat),∀p∈QG f (ls.map LEAF) lo hi a b,U8 p:=λf=>by
  induction f with
  | zero=>intro lo hi a b p hp;simp[QG] at hp
  | succ f ih =>
   intro lo hi a b p hp;rw[QG] at hp
   split at hp
   ·simp at hp
   ·split at hp
    ·rw[List.mem_singleton] at hp;subst hp
     exact (KC (λx hx=>KE ls x (List.mem_of_mem_drop (List.mem_of_mem_take hx)))).1
    ·rcases List.mem_append.1 hp with hp | hp
     ·exact ih _ _ _ _ p hp
     ·exact ih _ _ _ _ p hp
 exact this _ _ _ _ _
theorem Xr (sg:LI) (ls:List (LI)) (i d:Nat):U2 sg ls i d=blk sg++(gs i++(gs d++((UZ ls i d).flatten++(gs (YQ ls i d).length++(YQ ls i d).flatten)))):=by
 show (Uj sg ls i d (YQ ls i d)).flatten=_
 unfold Uj;simp only[List.flatten_append,List.flatten_cons,List.flatten_nil,List.append_assoc,List.append_nil]
theorem ARX.es {b sg:LI} {m:MAN} (h:ARX b sg m ls):ls.map List.length=m.es.map wide:=by
 obtain⟨k,_,_,_,h4⟩:=ZY h.sp;exact (II h4).2
theorem ARX.len {b sg:LI} {m:MAN} (h:ARX b sg m ls) {i d:Nat} (hi:i+d<ls.length):(U2 sg ls i d).length<=1000000000:=by
 rw[Xr];have h1:=Ut sg (by have:=h.sg;omega);have h2:=Q6 (v:=i) (by have:=h.few;omega);have h3:=Q6 (v:=d) (by have:=h.few;omega);have h4:=ZE (UZ ls i d) 4194320 (λx hx=>h.le x (List.mem_of_mem_drop (List.mem_of_mem_take hx)))
 have h5:(UZ ls i d).length<=ls.length:=by rw[Qf,Qo];omega
 have h6:=(Xi hi);have h7:=Q6 (v:=(YQ ls i d).length) (by have:=h.few;omega);have h8:=ZE (YQ ls i d) 32 (λx hx=>by rw[h6.1 x hx];exact Nat.le_refl _);have h9:=h.few;have h10:=h.sg;simp only[Qc];omega
theorem ARX.rng {b sg:LI} {m:MAN} (h:ARX b sg m ls) {i d:Nat} (hi:i+d<ls.length):RNG (U2 sg ls i d) sg m i d (UZ ls i d) (YQ ls i d):=by
 obtain⟨k,h1,h2,h3,h4⟩:=ZY h.sp;have h5:=h.es
 have h6:ls.length=m.es.length:=by have:=congrArg List.length h5;simpa using this
 refine⟨Xr sg ls i d,h2,by have:=h.sg;omega,h3,by omega,?_,(Xi hi).1,by have:=(Xi hi).2;have:=h.few;omega,?_⟩
 ·show ((ls.drop i).take (d+1)).map List.length=_
  rw[List.map_take,List.map_drop,h5,List.map_take,List.map_drop]
 ·have hsg:U8 sg:=Xn h.b8 h1
  rw[Xr];refine U8.app (Wh _ hsg) (U8.app (YW _) (U8.app (YW _) (U8.app ?_ (U8.app (YW _) ?_))))
  ·intro y hy
   obtain⟨x,hx,hy⟩:=List.mem_flatten.1 hy;exact (h.r8 x (List.mem_of_mem_drop (List.mem_of_mem_take hx))).1 y hy
  ·intro y hy
   obtain⟨x,hx,hy⟩:=List.mem_flatten.1 hy;exact JN ls i d x hx y hy
theorem Pf {i d:Nat} (hl:ls.length<=1000000) (hi:i+d<ls.length):WG (QM ls) (ls.length:Int) (i:Int) ((UZ ls i d).map LEAF) (YQ ls i d)=true:=by
 have:=Oo (l:=ls.map LEAF) (i:=i) (j:=i+d) (by rw[List.length_map];exact hl) (by omega) (by rw[List.length_map];exact hi);rw[List.length_map] at this;rw[show (UZ ls i d).map LEAF=Qx (ls.map LEAF) i (i+d+1) by unfold Qx;rw[List.map_take,List.map_drop,show i+d+1 - i=d+1 by omega]];exact this
theorem TE {b sg:LI} {m:MAN} (h:ARX b sg m ls) (i d:Nat) (hi:i+d<ls.length) (vb:Value) (w:World) (hb:Bs .u8 w vb b) (hl:b.length<=1000000000000) :
 Calls prog 8 #[vb,.int .i64 i,.int .i64 ((i+d:Nat):Int)] w λe w'=>∃a c,e=.returned (.tuple #[.slice a (U2 sg ls i d).length c,.int .i64 0])∧Bs .u8 w' (.slice a (U2 sg ls i d).length c) (U2 sg ls i d)∧N0 w w':=by
 have h1:=h.few;have h2:=h.len hi;refine (Cy i d vb w hb h.b8 hl h.sp hi (by omega) (by have:=h.sg;omega) h.r8 (by have:=(Xi hi).2;show (YQ ls i d).length<=64;omega) (by show (U2 sg ls i d).length<=_;omega)).mono ?_;rintro e w' ⟨u,rfl,own,o⟩;obtain⟨a,c,rfl⟩:=Qm own;exact⟨a,c,rfl,Bs.of_own own,o⟩
end Go.Proofs.YtoflhbghdlaeaaaGreatDoor
