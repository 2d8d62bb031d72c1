import Derived.Test.YtiochaeeoelmjaaGreatDoorG10
import Derived.Test.YtiochaeeoelmjaaGreatDoorG4
import Derived.Deep.Cut
namespace Go.Proofs.YtiochaeeoelmjaaGreatDoor
set_option maxHeartbeats 4000000
set_option maxRecDepth 100000
open Go.RowKit _root_.Go.Proofs.Tryz
variable {w w' W:World} {v:Value} {ys xs l:LI} {R n p k g B:Nat} {P:Program} {ls:List (LI)} {E:TypeId}
def Yv (ys:LI):MAN:=match MDEC ys with
 | .ok m=>m
 | .error _=>⟨0,[],[],[]⟩
def Uf (ys:LI):Int:=match MDEC ys with
 | .ok _=>0
 | .error c=>c
theorem MD_ok {m:MAN} (h:MDEC ys=.ok m):Yv ys=m∧Uf ys=0:=by unfold Yv Uf;rw[h];exact⟨rfl,rfl⟩
theorem AC {c:Int} (h:MDEC ys=.error c):Yv ys=⟨0,[],[],[]⟩∧Uf ys=c:=by unfold Yv Uf;rw[h];exact⟨rfl,rfl⟩
abbrev Nb:Value:=.agg #[.int .u64 0,.slice none 0 0,.slice none 0 0,.slice none 0 0]
structure Mnw (w w':World) (x:Value) (m:MAN) (vp ve vr:Value):Prop where
 mf:Mf w' x m vp ve vr
 np:NoCap vp
 nr:NoCap vr
 bp:∀k,vp.ownBlock=some k->w.heap.size<=k
 be:∀k,ve.ownBlock=some k->w.heap.size<=k
 br:∀k,vr.ownBlock=some k->w.heap.size<=k
theorem Mnw.zero (w w':World):Mnw w w' Nb ⟨0,[],[],[]⟩ (.slice none 0 0) (.slice none 0 0) (.slice none 0 0) :=
 ⟨⟨rfl,Bs.nil _ _,Ens.nil _,Bs.nil _ _⟩,NoCap.nil,NoCap.nil,Wb _,Wb _,Wb _⟩
theorem Mnw.keep {w w' w'':World} {x:Value} {m:MAN} {vp ve vr:Value} (h:Mnw w w' x m vp ve vr) {B:Nat} (o:Only (λk=>k=B) w' w'') (hB:B<w.heap.size):Mnw w w'' x m vp ve vr :=
 ⟨⟨h.mf.form,h.mf.prev.keep o (λk hk e=>by have:=h.bp k hk;omega),h.mf.es.keep o (λk hk e=>by have:=h.be k hk;omega),h.mf.root.keep o (λk hk e=>by have:=h.br k hk;omega)⟩,h.np,h.nr,h.bp,h.be,h.br⟩
theorem Mnw.low {w0 w w':World} {x:Value} {m:MAN} {vp ve vr:Value} (h:Mnw w w' x m vp ve vr) (hl:w0.heap.size<=w.heap.size):Mnw w0 w' x m vp ve vr :=
 ⟨h.mf,h.np,h.nr,λk hk=>Nat.le_trans hl (h.bp k hk),λk hk=>Nat.le_trans hl (h.be k hk),λk hk=>Nat.le_trans hl (h.br k hk)⟩
theorem pC (B:Nat) (v:Value) (ys:LI) (w:World) (hB:w.heap[B]? = some (.cells #[v] 23 (0,0))) (h:Bs .u8 w v ys) (hr:U8 ys) (hl:ys.length<=1000000000000) :
 Calls prog 139 #[.pointer (some ⟨B,0,none⟩)] w λe w'=>N0 w w'∧((Uf ys≠0∧Yv ys=⟨0,[],[],[]⟩∧e=mpan (Uf ys))∨(Uf ys=0∧∃x vp ve vr,e=.returned x∧Mnw w w' x (Yv ys) vp ve vr)):=by
 obtain⟨cB,_⟩:=UE hB
 have cB1:(w.alloc (.cells #[.int .u64 0,.slice none 0 0,.slice none 0 0,.slice none 0 0] 69)).cell? ⟨B,0,none⟩=some v:=by
  have:=Y0 (o:=.cells #[.int .u64 0,.slice none 0 0,.slice none 0 0,.slice none 0 0] 69) hB;simp[World.cell?,this]
 have oa:N0 w (w.alloc (.cells #[.int .u64 0,.slice none 0 0,.slice none 0 0,.slice none 0 0] 69)):=VG.alloc _;have A:=Qa (Uu v ys _ (h.past oa) hr hl);have G0:=Qa (heap_alloc_new w (.cells #[.int .u64 0,.slice none 0 0,.slice none 0 0,.slice none 0 0] 69));have OA:=Qa oa;obtain⟨av,cv,ev⟩:=h.len;subst ev;clear h hB cB oa;go_enter func139,ntmps139;go_wp2_with fail;refine A.o.mono ?_;rintro e w1 ⟨R,v',rfl,c1,o1,h2,hR2,h1⟩
 have hR1':w.heap.size+1<=R:=by simpa using h2
 have RD:=Qa (j6 c1 hR2 (λj hj=>(h1 j hj).2));have O1:=Qa (OA.o.same o1);have G1:=Qa (o1.heap G0.o (λf=>f));have hs1:=O1.o.size;clear A c1 o1 h1 h2 G0 OA;go_wp2_with fail;refine RD.o.mono ?_;rintro e w2 ⟨o2,⟨c,hc0,hd,rfl⟩ | ⟨m,x,vp,ve,vr,hd,rfl,h0,np,nr,bp,br,be⟩⟩
 ·obtain⟨e1,e2⟩:=AC hd
  have F:=Qa (Vz (O1.o.trans o2 (λi hi e=>by omega)) (Vz e1 e2));clear RD o2 hd e1 e2;unfold mpan;go_wp2;refine⟨rfl,F.o.1,.inl ⟨by rw[F.o.2.2];exact hc0,F.o.2.1,by rw[F.o.2.2];rfl⟩⟩
 ·obtain⟨e1,e2⟩:=MD_ok hd
  have G2:=o2.heap G1.o (λe=>by omega);obtain⟨⟨k0,k1,k2,k3⟩,f0,f1,f2,f3⟩:=Yg G2;obtain⟨ap,pc,ep⟩:=h0.prev.len;obtain⟨ae,ec,ee⟩:=h0.es.len;obtain⟨ar,rc,er⟩:=h0.root.len;subst ep ee er;have hx:=h0.form;subst hx;obtain⟨g,og⟩:=put4 G2 (.int .u64 m.ver) (.slice ap m.prev.length pc) (.slice ae m.es.length ec) (.slice ar m.root.length rc)
  have F:=Qa (Vz (YQ g) (Vz ((O1.o.trans o2 (λi hi e=>by omega)).trans og (λi hi e=>by omega)) (show Mnw w _ _ m _ _ _ from
   ⟨⟨rfl,h0.prev.keep og (λk hk e=>by have:=bp k hk;omega),h0.es.keep og (λk hk e=>by have:=be k hk;omega),h0.root.keep og (λk hk e=>by have:=br k hk;omega)⟩,np,nr,λk hk=>by have:=bp k hk;omega,λk hk=>by have:=be k hk;omega,λk hk=>by have:=br k hk;omega⟩)))
  have ME:=Qa (Vz e1 e2);clear RD o2 hd e1 e2 h0 np nr bp br be g og G2;go_wp2;refine bodyPost_ret (XG Tryz.results139 _ _ rfl F.o.1) rfl ?_;refine⟨F.o.2.1,.inr ⟨ME.o.2,_,.slice ap m.prev.length pc,.slice ae m.es.length ec,.slice ar m.root.length rc,rfl,?_⟩⟩;rw[ME.o.1];exact F.o.2.2
theorem qG (q:Nat) (w:World) :
 CallsD prog 182 #[.pointer (some ⟨q,0,none⟩)] .returning w λe u' w'=>e=.returned (.tuple #[])∧u'=.returning∧w=w':=by
 refine callsD_of_wpS func182 rfl λc₀ cs hu=>?_
 apply wpS_seq
 apply wpS_region
 simp[wpOpsS,go_sem,recoverD,hu,ntmps182,Exit.thenS];refine wpS_of_wp ?_;go_wp2
 cases c₀
 simp_all [bodyPostS,results,Tryz.results182]
theorem Eb (q:Nat) (c:Int) (older:List PanicEntry) (w:World) (y:Value) (hq:w.cell? ⟨q,0,none⟩=some y) (fq:w.frozen? ⟨q,0,none⟩=false) :
 CallsD prog 182 #[.pointer (some ⟨q,0,none⟩)] (.panicking ({ v:=.iface 26 (.int .i64 c),recovered:=false } :: older)) w λe u' w' =>
  e=.returned (.tuple #[])∧u'=.panicking ({ v:=.iface 26 (.int .i64 c),recovered:=true } :: older)∧w'=w.setCell ⟨q,0,none⟩ (.int .i64 c):=by
 have hta:∀(W:World),(Instr.typeAssert (.iface 26 (.int .i64 c)) 20 26 true).run prog W=.ok (.tuple #[.int .i64 c,.bool true]) W:=λ_=>by kernel_rfl
 refine callsD_of_wpS func182 rfl λc₀ cs hu=>?_
 apply wpS_seq
 apply wpS_region
 simp[wpOpsS,go_sem,recoverD,hu,ntmps182,Exit.thenS];refine wpS_of_wp ?_;go_wp2;simp[bodyPostS,results,Tryz.results182]
theorem Pv {fn:Func} {p q:Tmp} {ty ty2:TypeId} (h:fn.results=#[.cell p ty,.cell q ty2]) (tmps:Array Value) (w:World) {a b:Addr} {v1 v2:Value}
 (hp:tmps.getD p undef=.pointer (some a)) (hq:tmps.getD q undef=.pointer (some b)) (h1:(loadVar ty a).run P w=.ok v1 w) (h2:(loadVar ty2 b).run P w=.ok v2 w) :
 (results fn tmps).run P w=.ok (.tuple #[v1,v2]) w:=by
 have hp':tmps[p]?.getD undef=.pointer (some a):=by simpa using hp
 have hq':tmps[q]?.getD undef=.pointer (some b):=by simpa using hq
 simp[results,h,hp',hq',asAddr,h1,h2]
theorem Kz {fn:Func} {p q:Tmp} {ty:TypeId} (h:fn.results=#[.cell p ty,.tmp q]) (tmps:Array Value) (w:World) {a:Addr} {v1 v2:Value}
 (hp:tmps.getD p undef=.pointer (some a)) (hq:tmps.getD q undef=v2) (h1:(loadVar ty a).run P w=.ok v1 w) :
 (results fn tmps).run P w=.ok (.tuple #[v1,v2]) w:=by
 have hp':tmps[p]?.getD undef=.pointer (some a):=by simpa using hp
 have hq':tmps[q]?.getD undef=v2:=by simpa using hq
 simp[results,h,hp',hq',asAddr,h1]
theorem Px {b:Nat} {c:Int} (h:W.heap[b]? = some (.cells #[.int .i64 c] 26 (0,0))):(loadVar 26 ⟨b,0,none⟩).run prog W=.ok (.int .i64 c) W:=by
 have hc:W.cell? ⟨b,0,none⟩=some (.int .i64 c):=by simp[World.cell?,h]
 simp[go_sem,hc]
theorem jO (B:Nat) (v:Value) (ys:LI) (w:World) (hB:w.heap[B]? = some (.cells #[v] 23 (0,0))) (h:Bs .u8 w v ys) (hr:U8 ys) (hl:ys.length<=1000000000000) :
 Calls prog 138 #[.func (.func 139) #[] #[.pointer (some ⟨B,0,none⟩)]] w λe w'=>∃x vp ve vr,e=.returned (.tuple #[x,.int .i64 (Uf ys)])∧Mnw w w' x (Yv ys) vp ve vr∧N0 w w':=by
 have hmf:∀(fn:Fn) (first cap:Array Value) (w:World),(Instr.makeFunc fn first cap).run prog w=.ok (.func fn first cap) w:=λ_ _ _ _=>rfl
 have oa:N0 w ((w.alloc (.cells #[.int .u64 0,.slice none 0 0,.slice none 0 0,.slice none 0 0] 69)).alloc (.cells #[.int .i64 0] 26)):=(VG.alloc _).alloc _;have RD:=Qa (pC B v ys _ (oa.heap hB (λf=>f)) (h.past oa) hr hl);have g0:=Y0 (o:=.cells #[.int .i64 0] 26) (heap_alloc_new w (.cells #[.int .u64 0,.slice none 0 0,.slice none 0 0,.slice none 0 0] 69));have g1:=YH (W:=w.alloc (.cells #[.int .u64 0,.slice none 0 0,.slice none 0 0,.slice none 0 0] 69)) (o:=.cells #[.int .i64 0] 26) (k:=w.heap.size+1) (by simp);have OA:=Qa oa;obtain⟨c,hc⟩:=EX (Uf ys);obtain⟨m,hm⟩:=EX (Yv ys);rw[<-hc,<-hm] at RD;rw[<-hc,<-hm];clear hc hm;have G0:=Qa g0;have G1:=Qa g1;clear h hB oa g0 g1
 go_enter_defers func138,ntmps138
 go_wp2_with fail;refine RD.o.mono ?_;rintro e w2 ⟨o2,hh⟩;have K0:=o2.heap G0.o (λf=>f);have K1:=o2.heap G1.o (λf=>f);have O2:=Qa (OA.o.same o2);have hs2:=o2.size;clear o2 RD G0 G1 OA
 rcases hh with ⟨he,hm,rfl⟩ | ⟨he,x,vp,ve,vr,rfl,mn⟩
 ·obtain⟨p1,p2⟩:=UE K1
  have o3:Only (λk=>k=w.heap.size+1) w2 (w2.setCell ⟨w.heap.size+1,0,none⟩ (.int .i64 c)):=(Only.refl (λk=>k=w.heap.size+1) w2).setCell (p:=⟨w.heap.size+1,0,none⟩) (λ_=>rfl) _;have F0:=Qa (YQ (o3.heap K0 (λe=>by omega)));have F1:=Qa (Px (Gc K1 (.int .i64 c)));have OX:=Qa (O2.o.trans o3 (λi hi e=>by omega));have CE:=Qa (Eb (w.heap.size+1) c [] w2 _ p1 p2);have HM:=Qa hm;clear K0 K1 o3 hm;unfold mpan;go_wp2;refine leaves_cons (f:=182) (args:=#[.pointer (some ⟨w.heap.size+1,0,none⟩)]) (by simp) (by simp[go_sem]) ?_;refine CE.o.mono ?_;rintro e u' w'' ⟨rfl,rfl,rfl⟩;refine⟨_,Pv Tryz.results138 _ _ rfl rfl F0.o F1.o,?_⟩;refine⟨_,.slice none 0 0,.slice none 0 0,.slice none 0 0,rfl,?_,OX.o⟩;rw[HM.o];exact Mnw.zero _ _
 ·obtain⟨ap,pc,ep⟩:=mn.mf.prev.len
  obtain⟨ae,ec,ee⟩:=mn.mf.es.len;obtain⟨ar,rc,er⟩:=mn.mf.root.len;subst ep ee er;have hx:=mn.mf.form;subst hx;obtain⟨⟨k0,k1,k2,k3⟩,f0,f1,f2,f3⟩:=Yg K0;obtain⟨p1,p2⟩:=UE K1;obtain⟨g,og⟩:=put4 K0 (.int .u64 m.ver) (.slice ap m.prev.length pc) (.slice ae m.es.length ec) (.slice ar m.root.length rc);have h0:=og.heap K1 (λe=>by omega);generalize hW3:((((w2.setCell ⟨w.heap.size,0,none⟩ (.int .u64 m.ver)).setCell ⟨w.heap.size,1,none⟩ (.slice ap m.prev.length pc)).setCell ⟨w.heap.size,2,none⟩ (.slice ae m.es.length ec)).setCell ⟨w.heap.size,3,none⟩ (.slice ar m.root.length rc))=w3 at *;have o3:Only (λk=>k=w.heap.size+1) w3 (w3.setCell ⟨w.heap.size+1,0,none⟩ (.int .i64 0)):=(Only.refl (λk=>k=w.heap.size+1) w3).setCell (p:=⟨w.heap.size+1,0,none⟩) (λ_=>rfl) _;have F0:=Qa (YQ (o3.heap g (λe=>by omega)));have F1:=Qa (Px (Gc h0 (.int .i64 0)));have OX:=Qa ((O2.o.trans og (λi hi e=>by omega)).trans o3 (λi hi e=>by omega));have MN:=Qa (((mn.keep og (by simp;omega)).keep o3 (by simp)).low (w0:=w) (by simp;omega));have HE:=Qa he;rw[<-hW3] at F0 F1 OX MN;clear K0 K1 h0 o3 g og mn he hW3;go_wp2;refine leaves_cons (f:=182) (args:=#[.pointer (some ⟨w.heap.size+1,0,none⟩)]) (by simp) (by simp[go_sem]) ?_;refine (qG (w.heap.size+1) _).mono ?_;rintro e u' w'' ⟨rfl,rfl,rfl⟩;refine⟨_,Pv Tryz.results138 _ _ rfl rfl F0.o F1.o,?_⟩;refine⟨_,.slice ap m.prev.length pc,.slice ae m.es.length ec,.slice ar m.root.length rc,by rw[HE.o],?_,OX.o⟩;exact MN.o
theorem Py (v:Value) (ys:LI) (w:World) (h:Bs .u8 w v ys) (hr:U8 ys) (hl:ys.length<=1000000000000) :
 Calls prog 94 #[v] w λe w'=>∃x vp ve vr,e=.returned (.tuple #[x,.int .i64 (Uf ys)])∧Mnw w w' x (Yv ys) vp ve vr∧N0 w w':=by
 have hmf:∀(fn:Fn) (first cap:Array Value) (w:World),(Instr.makeFunc fn first cap).run prog w=.ok (.func fn first cap) w:=λ_ _ _ _=>rfl
 obtain⟨av,cv,ev⟩:=h.len;subst ev;have oa:N0 w ((w.alloc (.cells #[.slice av ys.length cv] 23)).alloc (.cells #[.int .u64 0,.slice none 0 0,.slice none 0 0,.slice none 0 0] 69)):=(VG.alloc _).alloc _;have g0:=Y0 (o:=.cells #[.int .u64 0,.slice none 0 0,.slice none 0 0,.slice none 0 0] 69) (heap_alloc_new w (.cells #[.slice av ys.length cv] 23));have g1:=YH (W:=w.alloc (.cells #[.slice av ys.length cv] 23)) (o:=.cells #[.int .u64 0,.slice none 0 0,.slice none 0 0,.slice none 0 0] 69) (k:=w.heap.size+1) (by simp);have RD:=Qa (jO w.heap.size _ ys _ g0 (h.past oa) hr hl);have G1:=Qa g1;have OA:=Qa oa;obtain⟨c,hc⟩:=EX (Uf ys);obtain⟨m,hm⟩:=EX (Yv ys);rw[<-hc,<-hm] at RD;rw[<-hc,<-hm];clear hc hm;clear h oa g0 g1 hr hl;go_enter func94,ntmps94;go_wp2_with fail;refine RD.o.mono ?_;rintro e w2 ⟨x,vp,ve,vr,rfl,mn,o2⟩;have K1:=o2.heap G1.o (λf=>f);have hs2:=o2.size;obtain⟨ap,pc,ep⟩:=mn.mf.prev.len;obtain⟨ae,ec,ee⟩:=mn.mf.es.len;obtain⟨ar,rc,er⟩:=mn.mf.root.len;subst ep ee er;have hx:=mn.mf.form;subst hx;obtain⟨⟨k0,k1,k2,k3⟩,f0,f1,f2,f3⟩:=Yg K1;obtain⟨g,og⟩:=put4 K1 (.int .u64 m.ver) (.slice ap m.prev.length pc) (.slice ae m.es.length ec) (.slice ar m.root.length rc);have F:=Qa (Vz (YQ g) (Vz ((OA.o.same o2).trans og (λi hi e=>by omega)) ((mn.keep og (by simp)).low (w0:=w) (by simp;omega))));clear RD K1 o2 mn g og G1 OA;go_wp2;refine bodyPost_ret (Kz Tryz.results94 _ _ rfl rfl F.o.1) rfl ?_;refine⟨_,.slice ap m.prev.length pc,.slice ae m.es.length ec,.slice ar m.root.length rc,rfl,?_,F.o.2.1⟩;exact F.o.2.2
section
open Go.Maps
def YM (T:List (LI)) (k:Nat):LI:=gs T.length++((T.take k).map blk).flatten
theorem tv (T:List (LI)):YM T 0=gs T.length:=by simp[YM]
theorem Hn (T:List (LI)):YM T T.length=gs T.length++(T.map blk).flatten:=by rw[YM,List.take_length]
theorem An {α:Type} (l:List α) (k:Nat) (d:α) (h:k<l.length):l.take (k+1)=l.take k++[l.getD k d]:=by
 rw[List.take_succ_eq_append_getElem h,Qc,Qh h];rfl
theorem It (T:List (LI)) (k:Nat) (h:k<T.length):YM T (k+1)=YM T k++blk (T.getD k []):=by
 rw[YM,An T k [] h,List.map_append,List.flatten_append,YM];simp
theorem JC {α:Type} (f:α->LI) (B:Nat):∀(l:List α),(∀x∈l,(f x).length<=B)->((l.map f).flatten).length<=l.length*B
 | [],_=>by simp
 | x :: l,h=>by
  have h1:=JC f B l (λy hy=>h y (List.mem_cons_of_mem _ hy));have h2:=h x List.mem_cons_self;simp only[List.map_cons,List.flatten_cons,Qb,Qk];rw[Nat.succ_mul];omega
theorem ZS (T:List (LI)) (k:Nat) (hk:k<=T.length) (hn:T.length<=1048576) (hl:∀x∈T,x.length<=64):(YM T k).length<=10+k*74:=by
 have h1:=Yu (v:=T.length) (by omega)
 have h2:=JC blk 74 (T.take k) (λx hx=>by
  have h3:=hl x (List.mem_of_mem_take hx);have h4:=U2 x (by omega)
  omega)
 rw[Qg,Nat.min_eq_left hk] at h2;rw[YM,Qb];omega
theorem Ij (v:Value) (T:List (LI)) (w:World) (h:Sts w v T) (hu:∀x∈T,U8 x∧x.length<=64) (hl:T.length<=1048576) :
 Calls prog 80 #[v] w λe w'=>∃u,e=.returned u∧w'.ownsRow w.heap.size 5 1 u (YM T T.length).length ((YM T T.length).map (Value.int .u8))∧N0 w w':=by
 obtain⟨i0,hi,hz0,hz1,hz2⟩:=info_parts Tryz.infoU8;obtain⟨ao,cap,rfl⟩:=h.len;have A:=Qa (UO (.slice none 0 0) [] (T.length:Int) w (Bs.nil _ _) NoCap.nil (by simp) (by omega) (by omega));rw[List.nil_append,Int.toNat_natCast,<-tv] at A;have HB:=Qa h;have HU:=Qa hu;have HS:=Qa (It T);have HLE:=Qa (λk hk=>ZS T k hk hl (λx hx=>(hu x hx).2));obtain⟨n,hn⟩:=EX T.length;rw[<-hn] at HB hl A;have HN:=Qa hn;rw[<-hn]
 have hw:IntKind.u64.wrap (n:Int)=n:=by rw[IntKind.wrap_u64];omega
 clear h hu hn;go_enter func80,ntmps80;go_wp2_with fail;refine A.o.mono ?_;rintro e w0 ⟨u0,rfl,h1,o0⟩;have F0:=Qa (Vz h1 o0);clear h1 o0 A;go_wp2
 go_loopw [3,12] (λu i wr=>∃k:Nat,k<=n∧i=.int .i64 k∧wr.ownsRow w.heap.size 5 1 u (YM T k).length ((YM T k).map (Value.int .u8))∧N0 w wr) (λ_ i _=>n - (intOf i).toNat)
 case atStart=>exact⟨0,Nat.zero_le _,rfl,F0.o⟩
 case round =>
  clear F0;obtain⟨k,hk,rfl,own,on⟩:=hrel
  by_cases hlt:k<n
  ·have h0:k<T.length:=by rw[<-HN.o];exact hlt
   obtain⟨b,off,cap',e,hc0⟩:=(HB.o.past on).at k h0;simp only[Value.slice.injEq] at e;obtain⟨rfl,hmx,rfl⟩:=e;clear hmx;obtain⟨xu,xl⟩:=HU.o _ (Uk (s:=T) (d:=[]) h0);have SC:=Qa (HS.o k h0);have LE:=HLE.o k (by omega);have h4:=sb_of xu;obtain⟨x,hx⟩:=EX (T.getD k []);rw[<-hx] at hc0 SC xu xl h4;have hcv:=Z6 (strOfNums x);have hsz:(strOfNums x).size=x.length:=Rw x;have h5:=grownCap_ge wr (strOfNums x).size 0 5;obtain⟨c,hc⟩:=EX (grownCap wr (strOfNums x).size 0 5);rw[<-hc] at h5;have o2:N0 wr (wr.alloc (Wk (strOfNums x) c)).drew:=(VG.alloc _).drew;have B:=Qa (Ke (.slice (some ⟨wr.heap.size,0,none⟩) (strOfNums x).size c) x (wr.alloc (Wk (strOfNums x) c)).drew (by have:=Xn (ZH (YH (W:=wr) (o:=Wk (strOfNums x) c) rfl)) (by omega:(strOfNums x).size<=c);rw[h4] at this;exact this) (NoCap.some _ _ _) (by omega));have HBL:=U2 x (by omega);obtain⟨X,hX⟩:=EX (blk x);rw[<-hX] at B SC HBL;obtain⟨Y,hY⟩:=EX (YM T k);rw[<-hY] at own SC LE;have OWN:=Qa (o2.own own (λ_ _ f=>f));have ON:=Qa (on.same o2)
   have i1:(k:Int)<(n:Int):=by omega
   have hsl:=on.size;clear hx hX hY own on o2 h0 xu h4 h5 hsz;go_wp2_with fail;rw[<-hc];refine B.o.mono ?_;rintro e w1 ⟨v1,rfl,h2,o1⟩;have h3:=o1.own OWN.o (λ_ _ f=>f);have BS1:=Bs.of_own (k:=.u8) h2;have NC1:=NoCap.of_own h2;have s1:=o1.size;clear hcv hc;go_wp2_with (at_builtin;refine Yr _ rfl _ _ 23 rfl w.heap.size 5 i0 (.int .u8 0) 1 underlying23 hi hz0 hz1 hz2 rfl _ Y.length (Y.map (Value.int .u8)) rfl h3 .u8 _ X rfl BS1 NC1 (by unfold maxLen;omega) (by omega) (by simp at s1;omega) ?_;intro v2 w2 own2 gr2 _ _)
   go_roundw
   case rel =>
    refine⟨k+1,by omega,by go_num,?_,(ON.o.same o1).grown gr2 (λj hj e=>by have:=(h3.lt j e).1;omega)⟩;rw[SC.o,Qb,List.map_append];exact own2
   case measure=>simp[intOf];omega
  ·obtain rfl:k=n:=by omega
   have F:=Qa (Vz own on);clear own on HB;go_wp2;go_ret;exact⟨_,rfl,F.o⟩
def Yq (T:List (LI)) (es:List (LI × Int)) (k:Nat):LI:=gs es.length++((es.take k).map (Wp T)).flatten
theorem IU (T:List (LI)) (es:List (LI × Int)):Yq T es 0=gs es.length:=by simp[Yq]
theorem J3 (T:List (LI)) (es:List (LI × Int)):Yq T es es.length=gs es.length++(es.map (Wp T)).flatten:=by rw[Yq,List.take_length]
theorem Im (T:List (LI)) (es:List (LI × Int)) (k:Nat) (h:k<es.length):Yq T es (k+1)=Yq T es k++(gs (Y8 T (es.getD k ([],0)).1)++[(es.getD k ([],0)).2]):=by
 rw[Yq,An es k ([],0) h,List.map_append,List.flatten_append,Yq];simp[Wp]
theorem Xy (T:List (LI)) (es:List (LI × Int)) (k:Nat) (hk:k<=es.length) (hn:es.length<=1048576) (hT:∀e∈es,e.1∈T) (hl:T.length<=1048576):(Yq T es k).length<=10+k*11:=by
 have h1:=Yu (v:=es.length) (by omega)
 have h2:=JC (Wp T) 11 (es.take k) (λe he=>by
  have h3:=WU (hT e (List.mem_of_mem_take he));have h4:=Yu (v:=Y8 T e.1) (by omega)
  simp only[Wp,Qb,List.length_singleton];omega)
 rw[Qg,Nat.min_eq_left hk] at h2;rw[Yq,Qb];omega
theorem jL (v:Value) (es:List (LI × Int)) (T:List (LI)) (mb N:Nat) (D:DataW Unit) (w:World) (h:Ens w v es) (hm:w.ownsMap prog 9 (plainElem (H:=Unit) prog 3) mb N D) (ha:Mm D T)
 (hT:∀e∈es,e.1∈T) (hx:∀e∈es,e.1.length<=maxLen∧0<=e.2∧e.2<=8) (hl:es.length<=1048576) (hlT:T.length<=1048576) :
 Calls prog 81 #[v,.map (some mb)] w λe w'=>∃u,e=.returned u∧w'.ownsRow w.heap.size 5 1 u (Yq T es es.length).length ((Yq T es es.length).map (Value.int .u8))∧N0 w w':=by
 obtain⟨i0,hi,h9,hg,he⟩:=info_parts Tryz.infoU8;obtain⟨ao,cap,rfl⟩:=h.len;have A:=Qa (UO (.slice none 0 0) [] (es.length:Int) w (Bs.nil _ _) NoCap.nil (by simp) (by omega) (by omega));rw[List.nil_append,Int.toNat_natCast,<-IU T] at A;have HB:=Qa h;have HM:=Qa hm;have HA:=Qa ha;have HT:=Qa hT;have HX:=Qa hx;have HS:=Qa (Im T es);have HLE:=Qa (λk hk=>Xy T es k hk hl hT hlT);obtain⟨n,hn⟩:=EX es.length;rw[<-hn] at HB hl A;have HN:=Qa hn;rw[<-hn]
 have hw:IntKind.u64.wrap (n:Int)=n:=by rw[IntKind.wrap_u64];omega
 clear h hm ha hT hx hn;go_enter func81,ntmps81;go_wp2_with fail;refine A.o.mono ?_;rintro e w0 ⟨u0,rfl,h6,o0⟩;have F0:=Qa (Vz h6 o0);clear h6 o0 A;go_wp2;clear hw
 go_loopw [5,14] (λu i wr=>∃k:Nat,k<=n∧i=.int .i64 k∧wr.ownsRow w.heap.size 5 1 u (Yq T es k).length ((Yq T es k).map (Value.int .u8))∧N0 w wr) (λ_ i _=>n - (intOf i).toNat)
 case atStart=>exact⟨0,Nat.zero_le _,rfl,F0.o⟩
 case round =>
  clear F0;obtain⟨k,hk,rfl,own,on⟩:=hrel
  by_cases hlt:k<n
  ·have h1:k<es.length:=by rw[<-HN.o];exact hlt
   obtain⟨b,off,cap',e,hd,ho⟩:=(HB.o.past on).at k h1;simp only[Value.slice.injEq] at e;obtain⟨rfl,hmx,rfl⟩:=e;clear hmx;have h0:es.getD k ([],0)∈es:=Uk h1;have SC:=Qa (HS.o k h1);have LE:=HLE.o k (by omega);obtain⟨x,hx⟩:=EX (es.getD k ([],0));rw[<-hx] at hd ho SC h0;obtain⟨xl,x0,x8⟩:=HX.o x h0;have h2:=Qa (HA.o x.1 (HT.o x h0) (.lit (.int .i64 0)));have hpl:=WU (HT.o x h0);have h7:keyOf prog 9 (.string (strOfNums x.1))=some (kS x.1):=JS underlying9 _ xl;have h4:=Yu (v:=Y8 T x.1) (by omega);obtain⟨p,hp⟩:=EX (Y8 T x.1);rw[<-hp] at h2 hpl SC h4;have B:=Qa (λW=>UO (.slice none 0 0) [] (p:Int) W (Bs.nil _ _) NoCap.nil (by simp) (by omega) (by omega));rw[List.nil_append,Int.toNat_natCast] at B;obtain⟨X,hX⟩:=EX (gs p);rw[<-hX] at B SC h4;obtain⟨Y,hY⟩:=EX (Yq T es k);rw[<-hY] at own SC LE;have h5:=Gq HM.o on (λf=>f);have hh:=Qa own;have ON:=Qa on
   have i1:(k:Int)<(n:Int):=by omega
   have hsl:=on.size
   have hw:IntKind.u64.wrap (p:Int)=p:=by rw[IntKind.wrap_u64];omega
   have hw8:IntKind.u8.wrap x.2=x.2:=by rw[IntKind.wrap_u8];omega
   clear hx hX hY own on h1 h0 hp
   go_wp2_with (first
    | (at_lookup;refine wpList_lookup_own_int _ rfl _ _ 127 rfl 9 3 .i64 law9 underlying127 underlying3 (uU _) mb N _ rfl (h5.alloc _) _ _ rfl h7 ?_;intro c hat hwc;obtain rfl:c=(p:Int):=(by have:=hat.symm.trans h2.o;simpa using this);clear hat hwc h2)
    | fail)
   refine (B.o _).mono ?_;rintro e w1 ⟨v1,rfl,h8,o1⟩;have ob:N0 wr (wr.alloc (.cells #[.string (strOfNums x.1),.int .i64 x.2] 93)):=VG.alloc _;have o2:=ob.same o1;have h3:=o2.own hh.o (λ_ _ f=>f);have hf:=Bs.of_own (k:=.u8) h8;have hb:=NoCap.of_own h8;have s1:=o2.size;have K1:=o1.heap (heap_alloc_new wr (.cells #[.string (strOfNums x.1),.int .i64 x.2] 93)) (λf=>f)
   have cb:w1.cell? ⟨wr.heap.size,1,none⟩=some (.int .i64 x.2):=by simp[World.cell?,K1]
   have KN:Hid (∀j,j=wr.heap.size->some j≠u5.ownBlock):=by
    intro j hj e;have:=hh.o.lt j e.symm;omega
   clear hd ho h7 h5 B;clear cb
   go_wp2_with (first
    | (at_builtin;refine Yr _ rfl _ _ 23 rfl w.heap.size 5 i0 (.int .u8 0) 1 underlying23 hi h9 hg he rfl u5 Y.length (Y.map (Value.int .u8)) rfl h3 .u8 _ X rfl hf hb (by unfold maxLen;omega) (by omega) (by omega) ?_;intro v2 w2 own2 gr2 _ _;have cb2:w2.cell? ⟨wr.heap.size,1,none⟩=some (.int .i64 x.2):=(by have K2:=((Only.refl (λj=>u5.ownBlock=some j) w1).grown gr2 (λj _ e=>e)).heap K1 (λe=>KN.o _ rfl e.symm);simp[World.cell?,K2]);clear K1 KN hf hb)
    | (at_builtin;refine Yr _ rfl _ _ 23 rfl w.heap.size 5 i0 (.int .u8 0) 1 underlying23 hi h9 hg he rfl v2 (Y.length+X.length) _ rfl (own2.alloc _) .u8 (.slice (some ⟨w2.heap.size,0,none⟩) 1 1) [x.2] rfl (Bs.litN .u8 w2 5 [x.2] _ _ rfl rfl) (NoCap.some _ _ _) (by unfold maxLen;simp;omega) (by simp;omega) (by have:=gr2.size;simp;omega) ?_;intro v3 w3 own3 gr3 _ _)
    | fail)
   go_roundw
   case rel =>
    refine⟨k+1,by omega,by go_num,?_,(((ON.o.same o2).grown gr2 (λj hj e=>by have:=(h3.lt j e).1;omega)).alloc _).grown gr3 (λj hj e=>by have:=(own2.lt j e).1;omega)⟩;rw[SC.o]
    have e1:(Y++(X++[x.2])).length=Y.length+X.length+1:=by simp;omega
    rw[e1,<-List.append_assoc,List.map_append,List.map_append];exact own3
   case measure=>simp[intOf];omega
  ·obtain rfl:k=n:=by omega
   have F:=Qa (Vz own on);clear own on HB;go_wp2;go_ret;exact⟨_,rfl,F.o⟩
end
def cat (ls:Nat->LI) (k:Nat):LI:=(List.range k).flatMap ls
theorem NK (ls:Nat->LI):cat ls 0=[]:=rfl
theorem WV (ls:Nat->LI) (k:Nat):cat ls (k+1)=cat ls k++ls k:=by simp[cat,List.range_succ]
theorem T4 (ls:Nat->LI) {k m:Nat} (h:k<=m):(cat ls k).length<=(cat ls m).length:=by
 induction m with
 | zero=>rw[Nat.le_zero.1 h];exact Zu
 | succ m ih =>
  rcases Nat.lt_or_ge k (m+1) with h' | h'
  ·have:=ih (by omega);rw[WV,Qb];omega
  ·rw[show k=m+1 by omega];exact Zu
theorem Ly (B m C:Nat) (vs:Nat->Value) (ls:Nat->LI) (w:World) (hm:m<=1000) (hm0:0<m) (hc:∀i,i<m->w.cell? ⟨B,i,none⟩=some (vs i)) (hb:∀i,i<m->Bs .u8 w (vs i) (ls i)) (nc:∀i,i<m->NoCap (vs i))
 (hp:0<(cat ls m).length) (hl:(cat ls m).length<=140737488355328) :
 Calls prog 28 #[.slice (some ⟨B,0,none⟩) m C] w λe w'=>∃v',e=.returned v'∧w'.ownsRow w.heap.size 5 1 v' (cat ls m).length ((cat ls m).map (Value.int .u8))∧N0 w w':=by
 obtain⟨i0,hi,hz0,hz1,hz2⟩:=info_parts Tryz.infoU8;have HC:=Qa hc;have HB:=Qa hb;have NC:=Qa nc;have HP:=Qa hp;have HL:=Qa hl;have hBw:B<w.heap.size:=World.block_lt_of_cell? w _ (hc 0 hm0);clear hc hb nc hp hl;go_enter func28,ntmps28;go_wp2
 go_loop [3,11] (λs i=>∃k:Nat,k<=m∧i=.int .i64 k∧s=.int .i64 (cat ls k).length) (λ_ i=>m - (intOf i).toNat)
 case atStart=>exact⟨0,Nat.zero_le _,rfl,rfl⟩
 case round =>
  obtain⟨k,hk,rfl,rfl⟩:=hrel
  by_cases hlt:k<m
  ·obtain⟨ao,cap,e1⟩:=(HB.o k hlt).len
   have c0:=HC.o k hlt;rw[e1] at c0
   have h0:Hid ((cat ls (k+1)).length=(cat ls k).length+(ls k).length):=by simp only[Hid];rw[WV,Qb]
   have h2:=T4 ls (show k+1<=m by omega);rw[h0.o] at h2;have HX:=HL.o;obtain⟨s,hs⟩:=EX ((cat ls k).length);obtain⟨n,hn⟩:=EX ((ls k).length);rw[<-hs,<-hn] at h2 h0;rw[<-hn] at c0;rw[<-hs]
   have hb2:s+n<=140737488355328:=by omega
   have dlt:decide ((k:Int)<(m:Int))=true:=by simp;omega
   have d0:decide ((s:Int)+n<0)=false:=by simp;omega
   clear e1 hs hn h2 HX;go_wp2
   go_round
   case rel=>exact⟨k+1,by omega,by simp,by rw[h0.o];simp⟩
   case measure=>simp[intOf];omega
  ·obtain rfl:k=m:=by omega
   have dlt:decide ((k:Int)<(k:Int))=false:=by simp
   obtain⟨s,hs⟩:=EX ((cat ls k).length);have HS:=Qa hs;rw[<-hs]
   have hs0:0<s:=by rw[hs];exact HP.o
   have hs1:s<=140737488355328:=by rw[hs];exact HL.o
   have GN:=Qa (MS s w hs0 hs1);clear hs;go_wp2_with fail;refine GN.o.mono ?_;rintro e w2 ⟨G,rfl,h3,ha⟩;have h6:Below w.heap.size w w2:=ha.low Zu;clear GN ha;go_wp2
   go_loopw [6,27] (λo i wr=>Below w.heap.size w wr∧∃j:Nat,j<=k∧i=.int .i64 j∧wr.ownsRow w.heap.size 5 1 o (cat ls j).length ((cat ls j).map (Value.int .u8))) (λ_ i _=>k - (intOf i).toNat)
   case atStart=>exact⟨h6,0,Nat.zero_le _,rfl,h3⟩
   case round =>
    obtain⟨h4,j,hj,rfl,h1⟩:=hrel;clear h6 h3;have hd:=h4.size
    by_cases hlt:j<k
    ·obtain⟨ao,cap,e1⟩:=(HB.o j hlt).len
     have c0:=(h4.cell (p:=⟨B,j,none⟩) hBw).trans (HC.o j hlt);have h9:=Qa ((HB.o j hlt).later h4);have h7:=Qa (NC.o j hlt);rw[e1] at c0 h9 h7;have h0:Hid (cat ls (j+1)=cat ls j++ls j):=WV ls j;have h2:=T4 ls (show j+1<=k by omega);rw[h0.o,Qb] at h2;have HX:=HL.o;obtain⟨n,hn⟩:=EX ((ls j).length);rw[<-hn] at c0 h9 h7
     have h8:decide ((j:Int)<(k:Int))=true:=by simp;omega
     clear e1 hn;have h5:=Qa h2;clear h2 HX;go_wp2_with (at_builtin;refine Yr _ rfl _ _ _ rfl w.heap.size 5 i0 (.int .u8 0) 1 underlying23 hi hz0 hz1 hz2 rfl _ _ _ rfl h1 .u8 _ (ls j) rfl h9.o h7.o ?c3 ?c4 hd ?_)
     case c3=>have:=h5.o;have:=HL.o;unfold maxLen;omega
     case c4=>have:=h5.o;have:=HL.o;omega
     intro v' w3 hown2 hgrow _ _;have hb3:Below w.heap.size w w3:=h4.grown hgrow hd (λq hq=>(h1.lt q hq).1);rw[<-List.map_append,<-Qb,<-h0.o] at hown2;clear h1 hgrow;go_wp2
     go_roundw
     case rel=>exact⟨hb3,j+1,by omega,by simp,hown2⟩
     case measure=>simp[intOf];omega
    ·obtain rfl:j=k:=by omega
     have h8:decide ((j:Int)<(j:Int))=false:=by simp
     go_wp2;go_ret;exact⟨_,rfl,h1,YW h4⟩
theorem VN (B m:Nat) (vs:Nat->Value) (ls:Nat->LI) (w:World) (hm:m<=1000) (hm0:0<m) (hc:∀i,i<m->w.cell? ⟨B,i,none⟩=some (vs i)) (hb:∀i,i<m->Bs .u8 w (vs i) (ls i)) (nc:∀i,i<m->NoCap (vs i))
 (hp:0<(cat ls m).length) (hl:(cat ls m).length<=140737488355328) :
 Calls prog 28 #[.slice (some ⟨B,0,none⟩) m m] w λe w'=>∃v',e=.returned v'∧w'.ownsRow w.heap.size 5 1 v' (cat ls m).length ((cat ls m).map (Value.int .u8))∧N0 w w' :=
 Ly B m m vs ls w hm hm0 hc hb nc hp hl
section
open Go.Maps
def Yj (m:MAN):Int :=
 if m.ver=18446744073709551615∨m.prev.length≠32∨m.root.length≠32 then 1
 else if m.es.any (λe=>!okB e.2)=true then 1
 else if 1048576<m.es.length∨m.es.any (λe=>decide (64<e.1.length))=true then 4 else 0
def YI (m:MAN):LI:=if Yj m=0 then MENC m else []
theorem Jv {m:MAN} (hk:Mok m):Yj m=0↔Ut m:=by
 unfold Yj
 constructor
 ·intro h
  by_cases h1:m.ver=18446744073709551615∨m.prev.length≠32∨m.root.length≠32
  ·rw[if_pos h1] at h;cases h
  ·rw[if_neg h1] at h
   by_cases h2:m.es.any (λe=>!okB e.2)=true
   ·rw[if_pos h2] at h;cases h
   ·rw[if_neg h2] at h
    by_cases h3:1048576<m.es.length∨m.es.any (λe=>decide (64<e.1.length))=true
    ·rw[if_pos h3] at h;cases h
    ·have hv:=hk.ver
     refine⟨by omega,⟨by omega,hk.prev⟩,⟨by omega,hk.root⟩,by omega,λe he=>⟨⟨?_,hk.es e he⟩,?_⟩⟩
     ·have h4:¬m.es.any (λe=>decide (64<e.1.length))=true:=λq=>h3 (.inr q)
      rw[List.any_eq_true] at h4
      exact Nat.le_of_not_lt λq=>h4 ⟨e,he,by simpa using q⟩
     ·rw[List.any_eq_true] at h2
      by_cases q:0<=e.2∧e.2<=8
      ·exact q
      ·exact absurd ⟨e,he,by simp only[okB,Qi q,Bool.not_false]⟩ h2
 ·rintro⟨h1,h2,h3,h4,h5⟩
  have q2:¬m.es.any (λe=>!okB e.2)=true:=by
   rw[List.any_eq_true];rintro⟨e,he,q⟩;have:=(h5 e he).2;rw[okB,Qe this] at q
   cases q
  have q3:¬m.es.any (λe=>decide (64<e.1.length))=true:=by
   rw[List.any_eq_true];rintro⟨e,he,q⟩;have:=(h5 e he).1.1;have:=of_decide_eq_true q;omega
  rw[if_neg (by have:=h2.1;have:=h3.1;omega),if_neg q2,if_neg (λq=>q.elim (λq=>by omega) q3)]
theorem heap4 {x0 x1 x2 x3:Value} (h:W.heap[B]? = some (.cells #[x0,x1,x2,x3] 69 (0,0))):W.cell? ⟨B,0,none⟩=some x0∧W.cell? ⟨B,1,none⟩=some x1∧W.cell? ⟨B,2,none⟩=some x2∧W.cell? ⟨B,3,none⟩=some x3 :=
 ⟨by simp[World.cell?,h],by simp[World.cell?,h],by simp[World.cell?,h],by simp[World.cell?,h]⟩
def six {α:Type} (a b c d e f:α):Nat->α
 | 0=>a
 | 1=>b
 | 2=>c
 | 3=>d
 | 4=>e
 | _=>f
theorem Hy (a b c d e f:LI):cat (six a b c d e f) 6=a++(b++(c++(d++(e++f)))):=by
 simp[cat,List.range_succ,six]
theorem wY {v0 v1 v2 v3 v4 v5:Value} {l0 l1 l2 l3 l4 l5:LI} (hB:W.heap[B]? = some (.cells #[v0,v1,v2,v3,v4,v5] 23 (0,0)))
 (b0:Bs .u8 W v0 l0) (b1:Bs .u8 W v1 l1) (b2:Bs .u8 W v2 l2) (b3:Bs .u8 W v3 l3) (b4:Bs .u8 W v4 l4) (b5:Bs .u8 W v5 l5) (n0:NoCap v0) (n1:NoCap v1) (n2:NoCap v2) (n3:NoCap v3) (n4:NoCap v4) (n5:NoCap v5)
 (hp:0<l0.length) (hl:(l0++(l1++(l2++(l3++(l4++l5))))).length<=140737488355328) :
 Calls prog 28 #[.slice (some ⟨B,0,none⟩) 6 6] W λe w'=>∃v',e=.returned v'∧w'.ownsRow W.heap.size 5 1 v' (l0++(l1++(l2++(l3++(l4++l5))))).length ((l0++(l1++(l2++(l3++(l4++l5))))).map (Value.int .u8))∧N0 W w':=by
 have:=VN B 6 (six v0 v1 v2 v3 v4 v5) (six l0 l1 l2 l3 l4 l5) W (by omega) (by omega)
  (λi hi=>by
   have e:W.cell? ⟨B,i,none⟩=(#[v0,v1,v2,v3,v4,v5]:Array Value)[i]?:=by unfold World.cell?;simp only;rw[hB];rfl
   rw[e]
   match i,hi with
   | 0,_=>rfl
   | 1,_=>rfl
   | 2,_=>rfl
   | 3,_=>rfl
   | 4,_=>rfl
   | 5,_=>rfl)
  (λi hi=>by
   match i,hi with
   | 0,_=>exact b0
   | 1,_=>exact b1
   | 2,_=>exact b2
   | 3,_=>exact b3
   | 4,_=>exact b4
   | 5,_=>exact b5)
  (λi hi=>by
   match i,hi with
   | 0,_=>exact n0
   | 1,_=>exact n1
   | 2,_=>exact n2
   | 3,_=>exact n3
   | 4,_=>exact n4
   | 5,_=>exact n5)
  (by rw[Hy];simp only[Qb];omega) (by rw[Hy];exact hl)
 rw[Hy] at this;exact this
theorem keep4 {w3 W W':World} {x0 x1 x2 x3:Value} (h:N0 w3 W∧W.cell? ⟨B,0,none⟩=some x0∧W.cell? ⟨B,1,none⟩=some x1∧W.cell? ⟨B,2,none⟩=some x2∧W.cell? ⟨B,3,none⟩=some x3) (o:N0 W W') :
 N0 w3 W'∧W'.cell? ⟨B,0,none⟩=some x0∧W'.cell? ⟨B,1,none⟩=some x1∧W'.cell? ⟨B,2,none⟩=some x2∧W'.cell? ⟨B,3,none⟩=some x3:=by
 obtain⟨h1,h2,h3,h4,h5⟩:=h;have hb:B<W.heap.size:=World.block_lt_of_cell? W _ h2;have e:=o.block B hb (λf=>f);exact⟨h1.same o,by rw[<-h2];unfold World.cell?;rw[e],by rw[<-h3];unfold World.cell?;rw[e],by rw[<-h4];unfold World.cell?;rw[e],by rw[<-h5];unfold World.cell?;rw[e]⟩
theorem Ry {b:Nat} {C:Array Value} (h:W.heap[b]? = some (.cells C 5 (0,0))):(W.freeze ⟨b,C.size,none⟩ 1).heap[b]? = some (.cells C 5 (C.size,C.size+1))∧Only (λk=>k=b) W (W.freeze ⟨b,C.size,none⟩ 1):=by
 have hb:b<W.heap.size:=(Array.getElem?_eq_some_iff.1 h).1;unfold World.freeze;rw[if_neg (by decide)];refine⟨?_,⟨rfl,rfl,rfl,by simp,λk hk hne=>?_⟩⟩
 ·simp[Array.getElem?_modify,h]
 ·have:¬b=k:=λe=>hne e.symm
  simp[Array.getElem?_modify,this]
theorem CW {b:Nat} {C:Array Value} (h:W.heap[b]? = some (.cells C 5 (0,0))) {v:Value} {xs:LI} (hv:Bs .u8 W v xs):Bs .u8 (W.freeze ⟨b,C.size,none⟩ 1) v xs:=by
 obtain⟨m1,m2⟩:=Ry h;obtain⟨ao,cap,rfl,hl,hr⟩:=hv;refine⟨ao,cap,rfl,hl,λhne=>?_⟩;obtain⟨c,off,rfl,hc⟩:=hr hne;refine⟨c,off,rfl,λj hj=>?_⟩;have h0:=hc j hj
 by_cases e:c=b
 ·subst e
  rw[<-h0];simp only[World.cell?,m1,h]
 ·have hlt:c<W.heap.size:=World.block_lt_of_cell? W _ h0
  have e2:=m2.block c hlt e;rw[<-h0];unfold World.cell?;rw[e2]
theorem vH {b:Nat} {C:Array Value} (n c:Nat) (h:W.heap[b]? = some (.cells C 5 (0,0))):(convert 23 23 (.slice (some ⟨b,0,none⟩) n c)).run prog W=.ok (.slice (some ⟨b,0,none⟩) n c) (W.freeze ⟨b,C.size,none⟩ 1):=by
 have hsh:W.shape? b=some (5,C.size):=by unfold World.shape?;rw[h]
 simp[convert,run_underlying underlying23,run_underlying underlying5,markStringish,hsh]
theorem wN {o:Oper} {a:Act} {K:Act->World->Prop} {Q:Exit->Act->World->Prop} (w3:World) {b:Nat}
 (hb:w.heap[b]? = some (.cells #[.int .u8 67,.int .u8 83,.int .u8 75,.int .u8 49] 5 (0,0))) (h3:w3.heap.size<=b) (o3:N0 w3 w)
 (h:∀w',N0 w3 w'->Bs .u8 w' (.slice (some ⟨b,0,none⟩) 4 4) Q6->(∀v xs,Bs .u8 w v xs->Bs .u8 w' v xs)->K (a.put o.dst (.slice (some ⟨b,0,none⟩) 4 4)) w') :
 Oper.upon prog o a K Q (((convert 23 23 (.slice (some ⟨b,0,none⟩) 4 4)).run prog w).andThen λa w'=>.ok (.value a) w'):=by
 obtain⟨m1,m2⟩:=Ry hb;have hK:=h (w.freeze ⟨b,4,none⟩ 1) (o3.trans m2 (λi hi e=>by omega)) ?_ (λv xs hv=>CW hb hv)
 ·rw[vH 4 4 hb]
  exact hK
 ·refine⟨some _,4,rfl,Zu,λ_=>⟨b,0,rfl,λj hj=>?_⟩⟩
  have hj':j<4:=hj;have h0:(w.freeze ⟨b,4,none⟩ 1).heap[b]? = _:=m1
  match j,hj' with
  | 0,_=>simp[World.cell?,h0,Q6]
  | 1,_=>simp[World.cell?,h0,Q6]
  | 2,_=>simp[World.cell?,h0,Q6]
  | 3,_=>simp[World.cell?,h0,Q6]
theorem AE (ver:Nat) (ap ar:Option Addr) (pl pc rl rc:Nat) (ve:Value) (w:World) (h:ver=18446744073709551615∨pl≠32∨rl≠32) :
 Calls prog 49 #[.agg #[.int .u64 ver,.slice ap pl pc,ve,.slice ar rl rc]] w λe w'=>e=.returned (.tuple #[.slice none 0 0,.int .i64 1])∧N0 w w':=by
 by_cases h1:ver=18446744073709551615
 ·have d1:((ver:Int) == 18446744073709551615)=true:=by simp;omega
  clear h1 h;go_enter func49,ntmps49;go_wp2;go_ret2;exact⟨rfl,VG.alloc _⟩
 ·have d1:((ver:Int) == 18446744073709551615)=false:=by rw[beq_eq_false_iff_ne];omega
  by_cases h2:pl=32
  ·have h3:rl≠32:=by omega
   have d2:((pl:Int) != 32)=false:=by subst h2;decide
   have d3:((rl:Int) != 32)=true:=by simp;omega
   clear h1 h2 h3 h;go_enter func49,ntmps49;go_wp2;go_ret2;exact⟨rfl,VG.alloc _⟩
  ·have d2:((pl:Int) != 32)=true:=by simp;omega
   clear h1 h2 h;go_enter func49,ntmps49;go_wp2;go_ret2;exact⟨rfl,VG.alloc _⟩
theorem A7 (x vp ve vr:Value) (m:MAN) (w:World) (h:Mf w x m vp ve vr) (hk:Mok m) (np:NoCap vp) (nr:NoCap vr) (hm63:m.es.length<=9223372036854775806) (h0:Yj m≠0) :
 Calls prog 49 #[x] w λe w'=>∃u,e=.returned (.tuple #[u,.int .i64 (Yj m)])∧w'.ownsRow w.heap.size 5 1 u (YI m).length ((YI m).map (Value.int .u8))∧N0 w w':=by
 obtain⟨rfl,hp,he,hr⟩:=h;obtain⟨ap,pc,e1⟩:=hp.len;obtain⟨ar,rc,e2⟩:=hr.len;subst e1 e2
 by_cases h1:m.ver=18446744073709551615∨m.prev.length≠32∨m.root.length≠32
 ·have e1:Yj m=1:=by unfold Yj;rw[if_pos h1]
  have e2:YI m=[]:=by unfold YI;rw[e1];rfl
  rw[e1,e2];refine (AE _ _ _ _ _ _ _ _ w h1).mono ?_;rintro e w' ⟨rfl,o⟩;exact⟨_,rfl,Xh,o⟩
 ·have d1:((m.ver:Int) == 18446744073709551615)=false:=by rw[beq_eq_false_iff_ne];omega
  have l1:m.prev.length=32:=by omega
  have l2:m.root.length=32:=by omega
  rw[l1] at hp np;rw[l2] at hr nr;rw[l1,l2];have e32:((32:Nat):Int)=32:=rfl;obtain⟨ao,cap,e3⟩:=he.len;subst e3;have oa:N0 w (w.alloc (.cells #[.int .u64 m.ver,.slice ap 32 pc,.slice ao m.es.length cap,.slice ar 32 rc] 69)):=VG.alloc _;have A:=Qa (LH _ _ _ (he.past oa) hm63);have OA:=Qa oa;have HE:=Qa he;have HP:=Qa hp;have HR:=Qa hr;have K0:=Qa (heap_alloc_new w (.cells #[.int .u64 m.ver,.slice ap 32 pc,.slice ao m.es.length cap,.slice ar 32 rc] 69))
  by_cases h2:m.es.any (λe=>!okB e.2)=true
  ·have e1:Yj m=1:=by unfold Yj;rw[if_neg h1,if_pos h2]
   have e2:YI m=[]:=by unfold YI;rw[e1];rfl
   rw[e1,e2];rw[h2] at A;clear h1 h2 e1 e2 oa he hp hr l1 l2;go_enter func49,ntmps49;go_wp2_with fail;refine A.o.mono ?_;rintro e w1 ⟨rfl,o1⟩;have O:=Qa (OA.o.same o1);clear A o1;go_wp2;go_ret2;exact⟨_,rfl,Xh,O.o⟩
  ·have h5:m.es.any (λe=>!okB e.2)=false:=by simpa using h2
   rw[h5] at A;have B:=Qa (λW o=>NZ _ _ W (he.past (oa.same o)) hm63 hk.es)
   by_cases h3:1048576<m.es.length
   ·have e1:Yj m=4:=by unfold Yj;rw[if_neg h1,if_neg h2,if_pos (.inl h3)]
    have e2:YI m=[]:=by unfold YI;rw[e1];rfl
    rw[e1,e2]
    have d3:decide ((1048576:Int)<(m.es.length:Int))=true:=by simp;omega
    have d4:decide ((1048576:Nat)<m.es.length)=true:=by simp;omega
    clear h1 h2 e1 e2 oa he hp hr l1 l2 h5 hk;generalize m.es.length=n at *;go_enter func49,ntmps49;go_wp2_with fail;refine A.o.mono ?_;rintro e w1 ⟨rfl,o1⟩;obtain⟨c0,c1,c2,c3⟩:=heap4 (o1.heap K0.o (λf=>f));have O:=Qa (OA.o.same o1);clear A o1;go_wp2;go_ret2;exact⟨_,rfl,Xh,O.o⟩
   ·have d3:decide ((1048576:Int)<(m.es.length:Int))=false:=by simp;omega
    have d4:decide ((1048576:Nat)<m.es.length)=false:=by simp;omega
    by_cases h4:m.es.any (λe=>decide (64<e.1.length))=true
    ·have e1:Yj m=4:=by unfold Yj;rw[if_neg h1,if_neg h2,if_pos (.inr h4)]
     have e2:YI m=[]:=by unfold YI;rw[e1];rfl
     rw[e1,e2];rw[h4] at B;clear h1 h2 e1 e2 oa he hp hr l1 l2 h5 hk h4;generalize m.es.length=n at *;go_enter func49,ntmps49;go_wp2_with fail;refine A.o.mono ?_;rintro e w1 ⟨rfl,o1⟩;obtain⟨c0,c1,c2,c3⟩:=heap4 (o1.heap K0.o (λf=>f));have C:=Qa (B.o w1 o1);have O:=Qa (OA.o.same o1);clear A o1 B;go_wp2_with fail;refine C.o.mono ?_;rintro e w2 ⟨rfl,o2⟩;have O2:=Qa (O.o.same o2);clear C o2;go_wp2;go_ret2;exact⟨_,rfl,Xh,O2.o⟩
    ·exact absurd (by unfold Yj;rw[if_neg h1,if_neg h2,if_neg (λq=>q.elim h3 h4)]) h0
end
section
open Go.Maps
theorem XW {o:Oper} {a:Act} {W:World} {K:Act->World->Prop} {Q:Exit->Act->World->Prop} (n:Nat) (xs:Array Operand) (ts:Array TypeId)
 (ho:o.op=.call { callee:=.value (.func n),args:=xs,argTypes:=ts }) (hf:∀vs W,(callFunc n vs).run prog W=.ok (.enter n vs) W) (vs:Array Value) (hx:xs.map a.eval=vs) {R:Value->World->Prop}
 (hc:Calls prog n vs W λe w'=>∃r,e=.returned r∧R r w') (h:∀r w',R r w'->K (a.put o.dst r) w'):Oper.wp prog o a W K Q:=by
 subst hx;unfold Oper.wp;have e:a.eval (Operand.func n)=.func (.func n) #[] #[]:=rfl;have hf2:=hf (xs.map a.eval) W;simp[execOp,ho,resolve,invoke,e,Oper.upon,Deferred.ofValue,hf2];refine Calls.mono hc ?_;rintro e w' ⟨r,rfl,hR⟩;exact h r w' hR
theorem rO (vs:Array Value) (W:World):(callFunc 28 vs).run prog W=.ok (.enter 28 vs) W:=by kernel_rfl
theorem In (vs:Array Value) (W:World):(callFunc 79 vs).run prog W=.ok (.enter 79 vs) W:=by kernel_rfl
theorem xm (vs:Array Value) (W:World):(callFunc 80 vs).run prog W=.ok (.enter 80 vs) W:=by kernel_rfl
theorem yA (vs:Array Value) (W:World):(callFunc 81 vs).run prog W=.ok (.enter 81 vs) W:=by kernel_rfl
theorem qR {o:Oper} {a:Act} {K:Act->World->Prop} {Q:Exit->Act->World->Prop} (ho:o.op=.buildSlice 23 4 #[(0,Operand.const (Value.int IntKind.u8 67)),(1,Operand.const (Value.int IntKind.u8 83)),(2,Operand.const (Value.int IntKind.u8 75)),(3,Operand.const (Value.int IntKind.u8 49))])
 (h:K (a.put o.dst (.slice (some ⟨W.heap.size,0,none⟩) 4 4)) (W.alloc (.cells #[.int .u8 67,.int .u8 83,.int .u8 75,.int .u8 49] 5))):Oper.wp prog o a W K Q:=by
 obtain⟨dst,op,ty,pos,af,gd⟩:=o;simp only at ho;subst ho
 go_simp
 exact h
theorem zY {o:Oper} {a:Act} {K:Act->World->Prop} {Q:Exit->Act->World->Prop} {p0 p1 p2 p3 p4 p5:Option Addr} {n0 n1 n2 n3 n4 n5 c0 c1 c2 c3 c4 c5:Nat} (ho:o.op=.buildSlice 62 6 #[(0,Operand.tmp 40),(1,Operand.tmp 43),(2,Operand.tmp 45),(3,Operand.tmp 47),(4,Operand.tmp 51),(5,Operand.tmp 53)])
 (h0:a.eval (.tmp 40)=(.slice p0 n0 c0)) (h1:a.eval (.tmp 43)=(.slice p1 n1 c1)) (h2:a.eval (.tmp 45)=(.slice p2 n2 c2)) (h3:a.eval (.tmp 47)=(.slice p3 n3 c3)) (h4:a.eval (.tmp 51)=(.slice p4 n4 c4)) (h5:a.eval (.tmp 53)=(.slice p5 n5 c5))
 (h:K (a.put o.dst (.slice (some ⟨W.heap.size,0,none⟩) 6 6)) (W.alloc (.cells #[(.slice p0 n0 c0),(.slice p1 n1 c1),(.slice p2 n2 c2),(.slice p3 n3 c3),(.slice p4 n4 c4),(.slice p5 n5 c5)] 23))):Oper.wp prog o a W K Q:=by
 obtain⟨dst,op,ty,pos,af,gd⟩:=o;simp only at ho;subst ho;simp only[Act.eval] at h0 h1 h2 h3 h4 h5
 have e0:a.tmps[40]?.getD undef=(.slice p0 n0 c0):=by simpa using h0
 have e1:a.tmps[43]?.getD undef=(.slice p1 n1 c1):=by simpa using h1
 have e2:a.tmps[45]?.getD undef=(.slice p2 n2 c2):=by simpa using h2
 have e3:a.tmps[47]?.getD undef=(.slice p3 n3 c3):=by simpa using h3
 have e4:a.tmps[51]?.getD undef=(.slice p4 n4 c4):=by simpa using h4
 have e5:a.tmps[53]?.getD undef=(.slice p5 n5 c5):=by simpa using h5
 unfold Oper.wp;simp[execOp,e0,e1,e2,e3,e4,e5,go_sem];exact h
theorem jP {o:Oper} {a:Act} {K:Act->World->Prop} {Q:Exit->Act->World->Prop} (x:Operand) (ho:o.op=.convert 23 23 x) (w3:World) {b:Nat}
 (hx:a.eval x=.slice (some ⟨b,0,none⟩) 4 4) (hb:w.heap[b]? = some (.cells #[.int .u8 67,.int .u8 83,.int .u8 75,.int .u8 49] 5 (0,0))) (h3:w3.heap.size<=b) (o3:N0 w3 w)
 (h:∀w',N0 w3 w'->Bs .u8 w' (.slice (some ⟨b,0,none⟩) 4 4) Q6->(∀v xs,Bs .u8 w v xs->Bs .u8 w' v xs)->K (a.put o.dst (.slice (some ⟨b,0,none⟩) 4 4)) w'):Oper.wp prog o a w K Q:=by
 unfold Oper.wp;simp[execOp,ho,hx];exact wN w3 hb h3 o3 h
abbrev o0mi : Oper:={ dst:=some 40,op:=Op.convert 23 23 (Operand.tmp 39),type:=23,pos:="manifest.go:35",after:=#[{ on:=0,ground:=Ground.data }],guard:=none }
abbrev o1mi : Oper:={ dst:=some 51,op:=Op.call { callee:=Callee.value (Operand.func 81),args:=#[Operand.tmp 49,Operand.tmp 50],argTypes:=#[63,127] },type:=23,pos:="manifest.go:40",after:=#[{ on:=10,ground:=Ground.data },{ on:=11,ground:=Ground.data },{ on:=8,ground:=Ground.chain }],guard:=none }
abbrev o2mi : Oper:={ dst:=some 54,op:=Op.buildSlice 62 6 #[(0,Operand.tmp 40),(1,Operand.tmp 43),(2,Operand.tmp 45),(3,Operand.tmp 47),(4,Operand.tmp 51),(5,Operand.tmp 53)],type:=62,pos:="manifest.go:35",after:=#[{ on:=1,ground:=Ground.data },{ on:=4,ground:=Ground.data },{ on:=6,ground:=Ground.data },{ on:=8,ground:=Ground.data },{ on:=12,ground:=Ground.data },{ on:=14,ground:=Ground.data }],guard:=none }
abbrev o3mi : Oper:={ dst:=some 55,op:=Op.call { callee:=Callee.value (Operand.func 28),args:=#[Operand.tmp 54],argTypes:=#[62] },type:=23,pos:="manifest.go:35",after:=#[{ on:=15,ground:=Ground.data },{ on:=12,ground:=Ground.chain }],guard:=none }
abbrev o6mi : Oper:={ dst:=some 47,op:=Op.call { callee:=Callee.value (Operand.func 80),args:=#[Operand.tmp 46],argTypes:=#[58] },type:=23,pos:="manifest.go:39",after:=#[{ on:=7,ground:=Ground.data },{ on:=4,ground:=Ground.chain }],guard:=none }
abbrev o7mi : Oper:={ dst:=some 39,op:=Op.buildSlice 23 4 #[(0,Operand.const (Value.int IntKind.u8 67)),(1,Operand.const (Value.int IntKind.u8 83)),(2,Operand.const (Value.int IntKind.u8 75)),(3,Operand.const (Value.int IntKind.u8 49))],type:=23,pos:="manifest.go:35",after:=#[],guard:=none }
abbrev o8mi : Oper:={ dst:=some 43,op:=Op.call { callee:=Callee.value (Operand.func 79),args:=#[Operand.tmp 42,Operand.const (Value.int IntKind.i64 8)],argTypes:=#[29,3] },type:=23,pos:="manifest.go:37",after:=#[{ on:=3,ground:=Ground.data }],guard:=none }
abbrev o4mi : Oper:={ dst:=some 2,op:=Op.assign (Operand.tmp 55),type:=23,pos:="manifest.go:35",after:=#[{ on:=16,ground:=Ground.data },{ on:=16,ground:=Ground.chain },{ on:=0,ground:=Ground.phase },{ on:=1,ground:=Ground.phase },{ on:=2,ground:=Ground.phase },{ on:=3,ground:=Ground.phase },{ on:=4,ground:=Ground.phase },{ on:=5,ground:=Ground.phase },{ on:=6,ground:=Ground.phase },{ on:=7,ground:=Ground.phase },{ on:=8,ground:=Ground.phase },{ on:=9,ground:=Ground.phase },{ on:=10,ground:=Ground.phase },{ on:=11,ground:=Ground.phase },{ on:=12,ground:=Ground.phase },{ on:=13,ground:=Ground.phase },{ on:=14,ground:=Ground.phase },{ on:=15,ground:=Ground.phase },{ on:=16,ground:=Ground.phase }],guard:=none }
abbrev o5mi : Oper:={ dst:=some 3,op:=Op.assign (Operand.const (Value.int IntKind.i64 0)),type:=26,pos:="manifest.go:35",after:=#[{ on:=17,ground:=Ground.chain },{ on:=0,ground:=Ground.phase },{ on:=1,ground:=Ground.phase },{ on:=2,ground:=Ground.phase },{ on:=3,ground:=Ground.phase },{ on:=4,ground:=Ground.phase },{ on:=5,ground:=Ground.phase },{ on:=6,ground:=Ground.phase },{ on:=7,ground:=Ground.phase },{ on:=8,ground:=Ground.phase },{ on:=9,ground:=Ground.phase },{ on:=10,ground:=Ground.phase },{ on:=11,ground:=Ground.phase },{ on:=12,ground:=Ground.phase },{ on:=13,ground:=Ground.phase },{ on:=14,ground:=Ground.phase },{ on:=15,ground:=Ground.phase },{ on:=16,ground:=Ground.phase },{ on:=17,ground:=Ground.phase }],guard:=none }
theorem newAt {S:Nat->Prop} (_:Only S w W) (o:Obj):(W.alloc o).heap[W.heap.size]? = some o:=heap_alloc_new W o
theorem OZ {S:Nat->Prop} (_:Only S w W) (o:Obj):N0 W (W.alloc o):=VG.alloc _
theorem yg {S:Nat->Prop} (_:Only S w W):∃X,X=W:=⟨_,rfl⟩
theorem wG (x vp ve vr:Value) (m:MAN) (w:World) (h:Mf w x m vp ve vr) (hk:Mok m) (np:NoCap vp) (nr:NoCap vr) (hm63:m.es.length<=9223372036854775806) (e1:Yj m=0) :
 Calls prog 49 #[x] w λe w'=>∃u,e=.returned (.tuple #[u,.int .i64 0])∧w'.ownsRow w.heap.size 5 1 u (MENC m).length ((MENC m).map (Value.int .u8))∧N0 w w':=by
 obtain⟨rfl,hp,he,hr⟩:=h;obtain⟨ap,pc,e1'⟩:=hp.len;obtain⟨ar,rc,e2'⟩:=hr.len;subst e1' e2';have hG:=(Jv hk).1 e1;obtain⟨g1,g2,g3,g4,g5⟩:=hG
 have d1:((m.ver:Int) == 18446744073709551615)=false:=by rw[beq_eq_false_iff_ne];omega
 have l1:m.prev.length=32:=g2.1;have l2:m.root.length=32:=g3.1;rw[l1] at hp np;rw[l2] at hr nr;rw[l1,l2];have e32:((32:Nat):Int)=32:=rfl;obtain⟨ao,cap,e3⟩:=he.len;subst e3;have oa:N0 w (w.alloc (.cells #[.int .u64 m.ver,.slice ap 32 pc,.slice ao m.es.length cap,.slice ar 32 rc] 69)):=VG.alloc _;have A:=Qa (LH _ _ _ (he.past oa) hm63);have OA:=Qa oa;have HE:=Qa he;have HP:=Qa hp;have HR:=Qa hr;have K0:=Qa (heap_alloc_new w (.cells #[.int .u64 m.ver,.slice ap 32 pc,.slice ao m.es.length cap,.slice ar 32 rc] 69))
 have hl:m.es.any (λe=>!okB e.2)=false:=by
  rw[List.any_eq_false];intro e h1 q;rw[okB,Qe (g5 e h1).2] at q
  cases q
 rw[hl] at A;have B:=Qa (λW o=>NZ _ _ W (he.past (oa.same o)) hm63 hk.es)
 have d3:decide ((1048576:Int)<(m.es.length:Int))=false:=by simp;omega
 have d4:decide ((1048576:Nat)<m.es.length)=false:=by simp;omega
 have hj:m.es.any (λe=>decide (64<e.1.length))=false:=by
  rw[List.any_eq_false];intro e h1 q;have:=(g5 e h1).1.1;have:=of_decide_eq_true q;omega
 rw[hj] at B
 have h8:∀e∈m.es,e.1.length<=maxLen:=λe he=>by have:=(g5 e he).1.1;unfold maxLen;omega
 have h7:=Qa (λW o=>wL _ _ W (he.past (oa.same o)) hk.es g4 h8)
 have h2:Hid (∀x∈QC m,U8 x∧x.length<=64):=λx hx=>by
  obtain⟨e,h1,rfl⟩:=List.mem_map.1 ((UQ _ _).1 hx);exact⟨(g5 e h1).1.2,(g5 e h1).1.1⟩
 have h9:Hid (∀e∈m.es,e.1∈QC m):=λe h1=>ZC h1
 have hb:Hid (∀e∈m.es,e.1.length<=maxLen∧0<=e.2∧e.2<=8):=λe h1=>⟨h8 e h1,(g5 e h1).2⟩
 have h5:(QC m).length<=1048576:=Nat.le_trans (Zy m) g4
 have ho:Hid (MENC m=Q6++(fixL (m.ver:Int) 8++(m.prev++(YM (QC m) (QC m).length++(Yq (QC m) m.es m.es.length++m.root))))):=by
  simp only[Hid];rw[Hn,J3];rfl
 have h4:Hid ((Q6++(fixL (m.ver:Int) 8++(m.prev++(YM (QC m) (QC m).length++(Yq (QC m) m.es m.es.length++m.root))))).length<=140737488355328):=by
  have q1:=ZS (QC m) _ (Nat.le_refl _) h5 (λx hx=>(h2.o x hx).2);have q2:=Xy (QC m) m.es _ (Nat.le_refl _) g4 h9.o h5;simp only[Hid,Qb,Qv,l1,l2,Q6,Qk,List.length_nil];omega
 change Hid (∀(W:World),Only (λx=>False) _ W->Calls prog 78 #[Value.slice ao m.es.length cap] W λe w'=>∃vt,e=Ending.returned (Value.tuple #[vt,Value.map (some W.heap.size)])∧TOrd W w' (QC m) vt (W.heap.size+1) m.es.length (QC m).length) at h7
 rw[ho.o];have HF:=Qa (λW=>UB (m.ver:Int) 8 W (by decide));rw[show ((8:Nat):Int)=8 from rfl] at HF;obtain⟨T,hT⟩:=EX (QC m);rw[<-hT] at h7 h2 h9 h5 h4;rw[<-hT];obtain⟨pv,hf⟩:=EX m.prev;rw[<-hf] at HP h4;rw[<-hf];obtain⟨rt,ha⟩:=EX m.root;rw[<-ha] at HR h4;rw[<-ha];obtain⟨vn,hd⟩:=EX m.ver;rw[<-hd] at h4 HF K0 OA A B h7 d1;rw[<-hd];obtain⟨E,hE⟩:=EX m.es;rw[<-hE] at HE h9 hb h4 K0 OA A B h7 d3 d4 g4;rw[<-hE];clear e1 oa he hp hr l1 l2 hl hj g1 g2 g3 g5 h8 hk ho hT hf ha hd hE hm63;obtain⟨n,hn⟩:=EX E.length;have HN:=Qa hn;rw[<-hn] at HE K0 OA A B h7 d3 d4 g4 h4;rw[<-hn];clear hn;go_enter func49,ntmps49;go_wp2_with fail;refine A.o.mono ?_;rintro e w1 ⟨rfl,o1⟩;have K1:=o1.heap K0.o (λf=>f);obtain⟨c0,c1,c2,c3⟩:=heap4 K1;have C:=Qa (B.o w1 o1);have O:=Qa o1;have hg:=Qa K1;clear A o1 B K0 K1;go_wp2_with fail;refine C.o.mono ?_;rintro e w2 ⟨rfl,o2⟩;have K2:=o2.heap hg.o (λf=>f);have O2:=O.o.same o2;have D:=Qa (h7.o w2 O2);clear C o2 h7 c0 c1 c2 c3 hg O;obtain⟨c0,c1,c2,c3⟩:=heap4 K2;have hm:=Qa K2;have hh:=Qa O2;clear K2 O2
 go_upto_region 7 with fail
 go_cut [1,2,3,4,5] from 6 (λp r0 r1 t mp W=>p=.pointer (some ⟨w.heap.size,0,none⟩)∧r0=.slice none 0 0∧r1=.int .i64 0∧mp=.map (some w2.heap.size)∧TOrd w2 W T t (w2.heap.size+1) n T.length)
 case first =>
  go_wp2_with fail;refine D.o.mono ?_;rintro e w3 ⟨vt,rfl,h0⟩;have HO:=Qa h0;clear h0 D;go_wp2_with fail
  go_meet
  exact⟨rfl,rfl,rfl,rfl,HO.o⟩
 case rest =>
  obtain⟨rfl,rfl,rfl,rfl,h0⟩:=hcut;obtain⟨w3,hw3⟩:=EX wc;subst hw3;have o3:=h0.on;have ST:=Qa (Sts.of_own h0.row);have hq:=Qa h0.at;have K3:=o3.heap hm.o (λf=>f);have O3:=Qa (OA.o.same (hh.o.same o3));clear D c0 c1 c2 c3 h0 hm o3;obtain⟨c0,c1,c2,c3⟩:=heap4 K3;clear K3;obtain⟨at1,ct1,et1⟩:=ST.o.len;subst et1;obtain⟨tn,h6⟩:=EX T.length;rw[<-h6] at ST h5;have TB:=Qa (λW o=>Ij _ T W (ST.o.past o) h2.o (by rw[<-h6];exact h5))
  have EB:Hid (∀W,N0 w3 W->Calls prog 81 #[.slice ao n cap,.map (some w2.heap.size)] W λe w'=>∃u,e=.returned u∧w'.ownsRow W.heap.size 5 1 u (Yq T E n).length ((Yq T E n).map (Value.int .u8))∧N0 W w'):=by
   intro W o;obtain⟨D',hm',ha'⟩:=hq.o;have:=jL _ E T _ _ D' W (HE.o.past (O3.o.same o)) (Gq hm' o (λf=>f)) ha' h9.o hb.o (by rw[<-HN.o];exact g4) (by rw[<-h6];exact h5);rw[<-HN.o] at this;exact this
  have HP3:=Qa (HP.o.past O3.o);have HR3:=Qa (HR.o.past O3.o);rw[<-h6];rw[<-h6] at TB h4;have HTN:=Qa h6;clear h6 h2 h9 hb hq HE HP HR ST OA hh;go_wp2_with fail;have h3:N0 w3 w3∧w3.cell? ⟨w.heap.size,0,none⟩=some (.int .u64 vn)∧w3.cell? ⟨w.heap.size,1,none⟩=some (.slice ap 32 pc)∧w3.cell? ⟨w.heap.size,2,none⟩=some (.slice ao n cap)∧w3.cell? ⟨w.heap.size,3,none⟩=some (.slice ar 32 rc):=⟨VG,c0,c1,c2,c3⟩;clear c0 c1 c2 c3 d1 d3 d4 e32;clear g4 h5;refine wp_region_held_drew (S:=λW=>N0 w3 W∧W.cell? ⟨w.heap.size,0,none⟩=some (.int .u64 vn)∧W.cell? ⟨w.heap.size,1,none⟩=some (.slice ap 32 pc)∧W.cell? ⟨w.heap.size,2,none⟩=some (.slice ao n cap)∧W.cell? ⟨w.heap.size,3,none⟩=some (.slice ar 32 rc)) (by kernel_rfl) (keep4 h3 VG.drew) (λhH0=>?_)
  try simp only[Act.put,Qq,Qn,Qo]
  have C : Only (fun _ => False) w3 w3.drew:=(Only.refl _ _).drew;have hH:=hH0;refine wpAnyH_take (i:=2) (oi:={ dst:=some 41,op:=Op.fieldAddr 69 (Operand.tmp 1) 0,type:=0,pos:="manifest.go:35",after:=#[],guard:=none }) (v:=?_) rfl (by kernel_rfl) (by kernel_rfl) (by kernel_rfl) (fun _ _ _ h => h) (Or.inl ⟨by rfl,?_⟩) hH ?_
  rotate_left
  ·intro w hSw;(try dsimp only at hSw);go_simp;try with_reducible rfl
  try simp only[Act.put,Qq,Qn,Qo]
  refine wpAnyH_take (i:=3) (oi:={ dst:=some 42,op:=Op.load 29 (Operand.tmp 41),type:=29,pos:="manifest.go:35",after:=#[{ on:=2,ground:=Ground.data }],guard:=none }) (v:=?_) rfl (by kernel_rfl) (by kernel_rfl) (by kernel_rfl) (fun _ _ _ h => h) (Or.inl ⟨by rfl,?_⟩) hH ?_
  rotate_left
  ·intro w hSw;(try dsimp only at hSw);go_simp;try with_reducible rfl
  try simp only[Act.put,Qq,Qn,Qo]
  refine wpAnyH_take (i:=5) (oi:={ dst:=some 44,op:=Op.fieldAddr 69 (Operand.tmp 1) 1,type:=0,pos:="manifest.go:35",after:=#[],guard:=none }) (v:=?_) rfl (by kernel_rfl) (by kernel_rfl) (by kernel_rfl) (fun _ _ _ h => h) (Or.inl ⟨by rfl,?_⟩) hH ?_
  rotate_left
  ·intro w hSw;(try dsimp only at hSw);go_simp;try with_reducible rfl
  try simp only[Act.put,Qq,Qn,Qo]
  refine wpAnyH_take (i:=6) (oi:={ dst:=some 45,op:=Op.load 23 (Operand.tmp 44),type:=23,pos:="manifest.go:35",after:=#[{ on:=5,ground:=Ground.data }],guard:=none }) (v:=?_) rfl (by kernel_rfl) (by kernel_rfl) (by kernel_rfl) (fun _ _ _ h => h) (Or.inl ⟨by rfl,?_⟩) hH ?_
  rotate_left
  ·intro w hSw;(try dsimp only at hSw);go_simp;try with_reducible rfl
  try simp only[Act.put,Qq,Qn,Qo]
  refine wpAnyH_take (i:=7) (oi:={ dst:=some 46,op:=Op.move (Operand.tmp 4),type:=58,pos:="manifest.go:35",after:=#[],guard:=none }) (v:=?_) rfl (by kernel_rfl) (by kernel_rfl) (by kernel_rfl) (fun _ _ _ h => h) (Or.inl ⟨by rfl,?_⟩) hH ?_
  rotate_left
  ·intro w hSw;(try dsimp only at hSw);go_simp;try with_reducible rfl
  try simp only[Act.put,Qq,Qn,Qo]
  refine wpAnyH_take (i:=9) (oi:={ dst:=some 48,op:=Op.fieldAddr 69 (Operand.tmp 1) 2,type:=0,pos:="manifest.go:35",after:=#[],guard:=none }) (v:=?_) rfl (by kernel_rfl) (by kernel_rfl) (by kernel_rfl) (fun _ _ _ h => h) (Or.inl ⟨by rfl,?_⟩) hH ?_
  rotate_left
  ·intro w hSw;(try dsimp only at hSw);go_simp;try with_reducible rfl
  try simp only[Act.put,Qq,Qn,Qo]
  refine wpAnyH_take (i:=10) (oi:={ dst:=some 49,op:=Op.load 63 (Operand.tmp 48),type:=63,pos:="manifest.go:35",after:=#[{ on:=9,ground:=Ground.data }],guard:=none }) (v:=?_) rfl (by kernel_rfl) (by kernel_rfl) (by kernel_rfl) (fun _ _ _ h => h) (Or.inl ⟨by rfl,?_⟩) hH ?_
  rotate_left
  ·intro w hSw;(try dsimp only at hSw);go_simp;try with_reducible rfl
  try simp only[Act.put,Qq,Qn,Qo]
  refine wpAnyH_take (i:=11) (oi:={ dst:=some 50,op:=Op.move (Operand.tmp 5),type:=127,pos:="manifest.go:35",after:=#[],guard:=none }) (v:=?_) rfl (by kernel_rfl) (by kernel_rfl) (by kernel_rfl) (fun _ _ _ h => h) (Or.inl ⟨by rfl,?_⟩) hH ?_
  rotate_left
  ·intro w hSw;(try dsimp only at hSw);go_simp;try with_reducible rfl
  try simp only[Act.put,Qq,Qn,Qo]
  refine wpAnyH_take (i:=13) (oi:={ dst:=some 52,op:=Op.fieldAddr 69 (Operand.tmp 1) 3,type:=0,pos:="manifest.go:35",after:=#[],guard:=none }) (v:=?_) rfl (by kernel_rfl) (by kernel_rfl) (by kernel_rfl) (fun _ _ _ h => h) (Or.inl ⟨by rfl,?_⟩) hH ?_
  rotate_left
  ·intro w hSw;(try dsimp only at hSw);go_simp;try with_reducible rfl
  try simp only[Act.put,Qq,Qn,Qo]
  refine wpAnyH_take (i:=14) (oi:={ dst:=some 53,op:=Op.load 23 (Operand.tmp 52),type:=23,pos:="manifest.go:35",after:=#[{ on:=13,ground:=Ground.data }],guard:=none }) (v:=?_) rfl (by kernel_rfl) (by kernel_rfl) (by kernel_rfl) (fun _ _ _ h => h) (Or.inl ⟨by rfl,?_⟩) hH ?_
  rotate_left
  ·intro w hSw;(try dsimp only at hSw);go_simp;try with_reducible rfl
  try simp only[Act.put,Qq,Qn,Qo]
  repeat' (first
   | ((first
    | (have _:=m7;clear m7;rw[if_pos (by rfl)];refine qR rfl ?_;have G7:=Only.size C;have H7:=newAt C (.cells #[.int .u8 67,.int .u8 83,.int .u8 75,.int .u8 49] 5);have oq:=OZ C (.cells #[.int .u8 67,.int .u8 83,.int .u8 75,.int .u8 49] 5);have C:=Only.alloc C (.cells #[.int .u8 67,.int .u8 83,.int .u8 75,.int .u8 49] 5);refine hK.out _ _ (keep4 h3 C) (λhH=>?_);clear hK K;(try have B8:=Bs.past B8 oq);(try have B6:=Bs.past B6 oq);(try have B1:=Bs.past B1 oq))
    | (have _:=m0;clear m0;rw[if_pos (by rfl)];refine jP (.tmp 39) rfl w3 rfl H7 G7 C ?_;intro W C B0 kz;refine hK.out _ _ (keep4 h3 C) (λhH=>?_);clear hK K;(try have B8:=kz _ _ B8);(try have B6:=kz _ _ B6);(try have B1:=kz _ _ B1))
    | (have _:=m8;clear m8;rw[if_pos (by rfl)];refine XW 79 #[.tmp 42,.const (Value.int IntKind.i64 8)] #[29,3] rfl In #[.int .u64 vn,.int .i64 8] (by kernel_rfl) (HF.o _) ?_;rintro v W ⟨ow,oq⟩;have C:=Only.same C oq;refine hK.out _ _ (keep4 h3 C) (λhH=>?_);clear hK K;(try have B0:=Bs.past B0 oq);(try have B8:=Bs.past B8 oq);(try have B6:=Bs.past B6 oq);(try have B1:=Bs.past B1 oq);(try have H7:=Only.heap oq H7 (λf=>f));have B8:Bs .u8 W v (fixL (vn:Int) 8):=Bs.of_own ow;have N8:=NoCap.of_own ow;clear ow)
    | (have _:=m6;clear m6;rw[if_pos (by rfl)];refine XW 80 #[.tmp 46] #[58] rfl xm #[.slice at1 tn ct1] (by kernel_rfl) (TB.o _ C) ?_;rintro v W ⟨ow,oq⟩;have C:=Only.same C oq;refine hK.out _ _ (keep4 h3 C) (λhH=>?_);clear hK K;(try have B0:=Bs.past B0 oq);(try have B8:=Bs.past B8 oq);(try have B6:=Bs.past B6 oq);(try have B1:=Bs.past B1 oq);(try have H7:=Only.heap oq H7 (λf=>f));have B6:Bs .u8 W v (YM T tn):=Bs.of_own ow;have N6:=NoCap.of_own ow;clear ow)
    | (have _:=m1;clear m1;rw[if_pos (by rfl)];refine XW 81 #[.tmp 49,.tmp 50] #[63,127] rfl yA #[.slice ao n cap,.map (some w2.heap.size)] (by kernel_rfl) (EB.o _ C) ?_;rintro v W ⟨ow,oq⟩;have C:=Only.same C oq;refine hK.out _ _ (keep4 h3 C) (λhH=>?_);clear hK K;(try have B0:=Bs.past B0 oq);(try have B8:=Bs.past B8 oq);(try have B6:=Bs.past B6 oq);(try have B1:=Bs.past B1 oq);(try have H7:=Only.heap oq H7 (λf=>f));have B1:Bs .u8 W v (Yq T E n):=Bs.of_own ow;have N1:=NoCap.of_own ow;clear ow)
    | (have _:=m2;clear m2;rw[if_pos (by rfl)];obtain⟨x8,y8,e8⟩:=Bs.len B8;subst e8;obtain⟨x6,y6,e6⟩:=Bs.len B6;subst e6;obtain⟨x1,y1,e1⟩:=Bs.len B1;subst e1;obtain⟨Z,hZ⟩:=yg C;subst hZ;have Z2:=C;refine zY rfl rfl rfl rfl rfl rfl rfl ?_;refine hK.out _ _ (keep4 h3 (Only.alloc C _)) (λhH=>?_);clear hK K)
    | (
    have _:=m3;clear m3;rw[if_pos (by rfl)];refine XW 28 #[.tmp 54] #[62] rfl rO #[.slice (some ⟨Z.heap.size,0,none⟩) 6 6] (by kernel_rfl) (wY (heap_alloc_new Z _) (Bs.past B0 (VG.alloc _)) (Bs.past B8 (VG.alloc _)) (HP3.o.past (Only.alloc C _)) (Bs.past B6 (VG.alloc _)) (Bs.past B1 (VG.alloc _)) (HR3.o.past (Only.alloc C _)) (NoCap.some _ _ _) N8 np N6 N1 nr (by simp[Q6]) h4.o) ?_;rintro v W ⟨ow,oq⟩;have D:=Only.same (Only.alloc C _) oq;refine hK.out _ _ (keep4 h3 D) (λhH=>?_);clear hK K
    try simp only[Act.put,Qq,Qn,Qo]
    refine wpAnyH_take (i:=17) (oi:=o4mi) (v:=?_) rfl (by kernel_rfl) (by kernel_rfl) (by kernel_rfl) (λ_ _ _ h=>h) (Or.inl ⟨by rfl,?_⟩) hH ?_
    rotate_left
    ·intro w hSw;(try dsimp only at hSw);go_simp;try with_reducible rfl
    try simp only[Act.put,Qq,Qn,Qo]
    refine wpAnyH_take (i:=18) (oi:=o5mi) (v:=?_) rfl (by kernel_rfl) (by kernel_rfl) (by kernel_rfl) (λ_ _ _ h=>h) (Or.inl ⟨by rfl,?_⟩) hH ?_
    rotate_left
    ·intro w hSw;(try dsimp only at hSw);go_simp;try with_reducible rfl
    try simp only[Act.put,Qq,Qn,Qo]
    refine wpAnyH_done (by kernel_rfl) ?_ _;have FZ:=Qa (Vz (Qr ow (Nat.le_trans O3.o.size (Only.size (Only.alloc C _)))) (Only.same O3.o D));rw[HTN.o] at FZ;clear hH0;go_wp2;go_ret2
    exact⟨v,rfl,FZ.o⟩));try simp only[Act.put,Qq,Qn,Qo])
   | (have _:=Z2;refine wpAnyH_ready (rs:=[16]) (by kernel_rfl) (by simp) (AllReadyH.cons (o:=o3mi) rfl (λK hK=>(λ(m3:True)=>?_) trivial) AllReadyH.nil))
   | (have _:=B1;have _:=B0;refine wpAnyH_ready (rs:=[15]) (by kernel_rfl) (by simp) (AllReadyH.cons (o:=o2mi) rfl (λK hK=>(λ(m2:True)=>?_) trivial) AllReadyH.nil))
   | (have _:=B1;have _:=H7;refine wpAnyH_ready (rs:=[1]) (by kernel_rfl) (by simp) (AllReadyH.cons (o:=o0mi) rfl (λK hK=>(λ(m0:True)=>?_) trivial) AllReadyH.nil))
   | (have _:=B1;refine wpAnyH_ready (rs:=[0]) (by kernel_rfl) (by simp) (AllReadyH.cons (o:=o7mi) rfl (λK hK=>(λ(m7:True)=>?_) trivial) AllReadyH.nil))
   | (have _:=B6;have _:=B0;refine wpAnyH_ready (rs:=[12]) (by kernel_rfl) (by simp) (AllReadyH.cons (o:=o1mi) rfl (λK hK=>(λ(m1:True)=>?_) trivial) AllReadyH.nil))
   | (have _:=B6;have _:=H7;refine wpAnyH_ready (rs:=[1,12]) (by kernel_rfl) (by simp) (AllReadyH.cons (o:=o0mi) rfl (λK hK=>(λ(m0:True)=>?_) trivial) (AllReadyH.cons (o:=o1mi) rfl (λK hK=>(λ(m1:True)=>?_) trivial) AllReadyH.nil)))
   | (have _:=B6;refine wpAnyH_ready (rs:=[0,12]) (by kernel_rfl) (by simp) (AllReadyH.cons (o:=o7mi) rfl (λK hK=>(λ(m7:True)=>?_) trivial) (AllReadyH.cons (o:=o1mi) rfl (λK hK=>(λ(m1:True)=>?_) trivial) AllReadyH.nil)))
   | (have _:=B8;have _:=B0;refine wpAnyH_ready (rs:=[8]) (by kernel_rfl) (by simp) (AllReadyH.cons (o:=o6mi) rfl (λK hK=>(λ(m6:True)=>?_) trivial) AllReadyH.nil))
   | (have _:=B8;have _:=H7;refine wpAnyH_ready (rs:=[1,8]) (by kernel_rfl) (by simp) (AllReadyH.cons (o:=o0mi) rfl (λK hK=>(λ(m0:True)=>?_) trivial) (AllReadyH.cons (o:=o6mi) rfl (λK hK=>(λ(m6:True)=>?_) trivial) AllReadyH.nil)))
   | (have _:=B8;refine wpAnyH_ready (rs:=[0,8]) (by kernel_rfl) (by simp) (AllReadyH.cons (o:=o7mi) rfl (λK hK=>(λ(m7:True)=>?_) trivial) (AllReadyH.cons (o:=o6mi) rfl (λK hK=>(λ(m6:True)=>?_) trivial) AllReadyH.nil)))
   | (have _:=B0;refine wpAnyH_ready (rs:=[4]) (by kernel_rfl) (by simp) (AllReadyH.cons (o:=o8mi) rfl (λK hK=>(λ(m8:True)=>?_) trivial) AllReadyH.nil))
   | (have _:=H7;refine wpAnyH_ready (rs:=[1,4]) (by kernel_rfl) (by simp) (AllReadyH.cons (o:=o0mi) rfl (λK hK=>(λ(m0:True)=>?_) trivial) (AllReadyH.cons (o:=o8mi) rfl (λK hK=>(λ(m8:True)=>?_) trivial) AllReadyH.nil)))
   | (refine wpAnyH_ready (rs:=[0,4]) (by kernel_rfl) (by simp) (AllReadyH.cons (o:=o7mi) rfl (λK hK=>(λ(m7:True)=>?_) trivial) (AllReadyH.cons (o:=o8mi) rfl (λK hK=>(λ(m8:True)=>?_) trivial) AllReadyH.nil))))
theorem Sz (x vp ve vr:Value) (m:MAN) (w:World) (h:Mf w x m vp ve vr) (hk:Mok m) (np:NoCap vp) (nr:NoCap vr) (hm63:m.es.length<=9223372036854775806) :
 Calls prog 49 #[x] w λe w'=>∃u,e=.returned (.tuple #[u,.int .i64 (Yj m)])∧w'.ownsRow w.heap.size 5 1 u (YI m).length ((YI m).map (Value.int .u8))∧N0 w w':=by
 by_cases e1:Yj m=0
 ·have e2:YI m=MENC m:=by unfold YI;rw[if_pos e1]
  rw[e1,e2];exact wG x vp ve vr m w h hk np nr hm63 e1
 ·exact A7 x vp ve vr m w h hk np nr hm63 e1
end
end Go.Proofs.YtiochaeeoelmjaaGreatDoor
