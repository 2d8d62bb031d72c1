import Derived.Test.YtnhapmboienipaaGreatDoorY17
import Derived.Recover
import Derived.Test.YtnhapmboienipaaGreatDoorY2
import Derived.Test.YtnhapmboienipaaGreatDoorY5
import Derived.Deep.RegionHeld3
import Derived.Laws.IdiomStrings
import Derived.Deep.RegionWith
namespace Go.Proofs.YtnhapmboienipaaGreatDoor
set_option maxHeartbeats 2000000
set_option maxRecDepth 100000
open Go.RowKit _root_.Go.Proofs.Tryz
def MDv (ys:List Int):MAN:=match MDEC ys with
 | .ok m=>m
 | .error _=>⟨0,[],[],[]⟩
def MDe (ys:List Int):Int:=match MDEC ys with
 | .ok _=>0
 | .error c=>c
theorem MD_ok {ys:List Int} {m:MAN} (h:MDEC ys=.ok m):MDv ys=m∧MDe ys=0:=by unfold MDv MDe;rw [h];exact ⟨rfl,rfl⟩
theorem Qt3 {ys:List Int} {c:Int} (h:MDEC ys=.error c):MDv ys=⟨0,[],[],[]⟩∧MDe ys=c:=by unfold MDv MDe;rw [h];exact ⟨rfl,rfl⟩
abbrev QqP:Value:=.agg #[.int .u64 0,.slice none 0 0,.slice none 0 0,.slice none 0 0]
structure Mnw (w w':World) (x:Value) (m:MAN) (vp ve vr:Value):Prop where
 mf:Mf w' x m vp ve vr
 np:NoCap vp
 nr:NoCap vr
 bp:∀k,vp.ownBlock=some k→w.heap.size≤k
 be:∀k,ve.ownBlock=some k→w.heap.size≤k
 br:∀k,vr.ownBlock=some k→w.heap.size≤k
theorem Mnw.zero (w w':World):Mnw w w' QqP ⟨0,[],[],[]⟩ (.slice none 0 0) (.slice none 0 0) (.slice none 0 0) :=
 ⟨⟨rfl,Bs.nil _ _,Ens.nil _,Bs.nil _ _⟩,NoCap.nil,NoCap.nil,QcV _,QcV _,QcV _⟩
theorem Mnw.keep {w w' w'':World} {x:Value} {m:MAN} {vp ve vr:Value} (h:Mnw w w' x m vp ve vr) {B:Nat} (o:Only (fun k=>k=B) w' w'') (hB:B<w.heap.size):Mnw w w'' x m vp ve vr :=
 ⟨⟨h.mf.form,h.mf.prev.keep o (fun k hk e=>by have:=h.bp k hk;omega),h.mf.es.keep o (fun k hk e=>by have:=h.be k hk;omega),h.mf.root.keep o (fun k hk e=>by have:=h.br k hk;omega)⟩,h.np,h.nr,h.bp,h.be,h.br⟩
theorem Mnw.low {w0 w w':World} {x:Value} {m:MAN} {vp ve vr:Value} (h:Mnw w w' x m vp ve vr) (hl:w0.heap.size≤w.heap.size):Mnw w0 w' x m vp ve vr :=
 ⟨h.mf,h.np,h.nr,fun k hk=>Nat.le_trans hl (h.bp k hk),fun k hk=>Nat.le_trans hl (h.be k hk),fun k hk=>Nat.le_trans hl (h.br k hk)⟩
theorem Qo7 (B:Nat) (v:Value) (ys:List Int) (w:World) (hB:w.heap[B]? = some (.cells #[v] 22 (0,0))) (h:Bs .u8 w v ys) (hr:U8 ys) (hl:ys.length≤1000000000000) :
  Calls prog 87 #[.pointer (some ⟨B,0,none⟩)] w fun e w'=>Only (fun _=>False) w w'∧((MDe ys≠0∧MDv ys=⟨0,[],[],[]⟩∧e=mpan (MDe ys))∨(MDe ys=0∧∃x vp ve vr,e=.returned x∧Mnw w w' x (MDv ys) vp ve vr)):=by
 obtain ⟨cB,_⟩:=Qbp hB
 have cB1:(w.alloc (.cells #[.int .u64 0,.slice none 0 0,.slice none 0 0,.slice none 0 0] 42)).cell? ⟨B,0,none⟩=some v:=by
  have:=Qaq (o:=.cells #[.int .u64 0,.slice none 0 0,.slice none 0 0,.slice none 0 0] 42) hB;simp [World.cell?,this]
 have oa:Only (fun _=>False) w (w.alloc (.cells #[.int .u64 0,.slice none 0 0,.slice none 0 0,.slice none 0 0] 42)):=(Only.refl _ _).alloc _;have A:=Qaa (QqC v ys _ (h.past oa) hr hl);have G0:=Qaa (heap_alloc_new w (.cells #[.int .u64 0,.slice none 0 0,.slice none 0 0,.slice none 0 0] 42));have OA:=Qaa oa;obtain ⟨av,cv,ev⟩:=h.len;subst ev;clear h hB cB oa;go_enter func87,ntmps87;go_wp2_with fail;refine A.out.mono ?_;rintro e w1 ⟨R,v',rfl,c1,o1,hR1,hR2,hvk⟩
 have hR1':w.heap.size+1≤R:=by simpa using hR1
 have RD:=Qaa (Qmm c1 hR2 (fun j hj=>(hvk j hj).2));have O1:=Qaa (OA.out.same o1);have G1:=Qaa (o1.heap G0.out (fun f=>f));have hs1:=O1.out.size;clear A c1 o1 hvk hR1 G0 OA;go_wp2_with fail;refine RD.out.mono ?_;rintro e w2 ⟨o2,⟨c,hc0,hd,rfl⟩ | ⟨m,x,vp,ve,vr,hd,rfl,hmf,np,nr,bp,br,be⟩⟩
 ·obtain ⟨e1,e2⟩:=Qt3 hd
  have F:=Qaa (And.intro (O1.out.trans o2 (fun i hi e=>by omega)) (And.intro e1 e2));clear RD o2 hd e1 e2;unfold mpan;go_wp2;refine ⟨rfl,F.out.1,.inl ⟨by rw [F.out.2.2];exact hc0,F.out.2.1,by rw [F.out.2.2];rfl⟩⟩
 ·obtain ⟨e1,e2⟩:=MD_ok hd
  have G2:=o2.heap G1.out (fun e=>by omega);obtain ⟨⟨k0,k1,k2,k3⟩,f0,f1,f2,f3⟩:=QaQ G2;obtain ⟨ap,pc,ep⟩:=hmf.prev.len;obtain ⟨ae,ec,ee⟩:=hmf.es.len;obtain ⟨ar,rc,er⟩:=hmf.root.len;subst ep ee er;have hx:=hmf.form;subst hx;obtain ⟨g,og⟩:=put4 G2 (.int .u64 m.ver) (.slice ap m.prev.length pc) (.slice ae m.es.length ec) (.slice ar m.root.length rc)
  have F:=Qaa (And.intro (QaA g) (And.intro ((O1.out.trans o2 (fun i hi e=>by omega)).trans og (fun i hi e=>by omega)) (show Mnw w _ _ m _ _ _ from
   ⟨⟨rfl,hmf.prev.keep og (fun k hk e=>by have:=bp k hk;omega),hmf.es.keep og (fun k hk e=>by have:=be k hk;omega),hmf.root.keep og (fun k hk e=>by have:=br k hk;omega)⟩,np,nr,fun k hk=>by have:=bp k hk;omega,fun k hk=>by have:=be k hk;omega,fun k hk=>by have:=br k hk;omega⟩)))
  have ME:=Qaa (And.intro e1 e2);clear RD o2 hd e1 e2 hmf np nr bp br be g og G2;go_wp2;refine bodyPost_ret (QcJ Tryz.results87 _ _ rfl F.out.1) rfl ?_;refine ⟨F.out.2.1,.inr ⟨ME.out.2,_,.slice ap m.prev.length pc,.slice ae m.es.length ec,.slice ar m.root.length rc,rfl,?_⟩⟩;rw [ME.out.1];exact F.out.2.2
theorem Qmn (q:Nat) (w:World) :
  CallsD prog 120 #[.pointer (some ⟨q,0,none⟩)] .returning w fun e u' w'=>e=.returned (.tuple #[])∧u'=.returning∧w=w':=by
 refine callsD_of_wpS func120 rfl fun c₀ cs hu=>?_
 apply wpS_seq
 apply wpS_region
 simp [wpOpsS,go_sem,recoverD,hu,ntmps120,Exit.thenS];refine wpS_of_wp ?_;go_wp2
 cases c₀
 simp_all [bodyPostS,results,Tryz.results120]
theorem Qo8 (q:Nat) (c:Int) (older:List PanicEntry) (w:World) (y:Value) (hq:w.cell? ⟨q,0,none⟩=some y) (fq:w.frozen? ⟨q,0,none⟩=false) :
  CallsD prog 120 #[.pointer (some ⟨q,0,none⟩)] (.panicking ({ v:=.iface 29 (.int .i64 c),recovered:=false } :: older)) w fun e u' w' =>
   e=.returned (.tuple #[])∧u'=.panicking ({ v:=.iface 29 (.int .i64 c),recovered:=true } :: older)∧w'=w.setCell ⟨q,0,none⟩ (.int .i64 c):=by
 have hta:∀(W:World),(Instr.typeAssert (.iface 29 (.int .i64 c)) 20 29 true).run prog W=.ok (.tuple #[.int .i64 c,.bool true]) W:=fun _=>by kernel_rfl
 refine callsD_of_wpS func120 rfl fun c₀ cs hu=>?_
 apply wpS_seq
 apply wpS_region
 simp [wpOpsS,go_sem,recoverD,hu,ntmps120,Exit.thenS];refine wpS_of_wp ?_;go_wp2;simp [bodyPostS,results,Tryz.results120]
theorem Qep {P:Program} {fn:Func} {p q:Tmp} {ty ty2:TypeId} (h:fn.results=#[.cell p ty,.cell q ty2]) (tmps:Array Value) (w:World) {a b:Addr} {v1 v2:Value}
  (hp:tmps.getD p undef=.pointer (some a)) (hq:tmps.getD q undef=.pointer (some b)) (h1:(loadVar ty a).run P w=.ok v1 w) (h2:(loadVar ty2 b).run P w=.ok v2 w) :
  (results fn tmps).run P w=.ok (.tuple #[v1,v2]) w:=by
 have hp':tmps[p]?.getD undef=.pointer (some a):=by simpa using hp
 have hq':tmps[q]?.getD undef=.pointer (some b):=by simpa using hq
 simp [results,h,hp',hq',asAddr,h1,h2]
theorem QbA {P:Program} {fn:Func} {p q:Tmp} {ty:TypeId} (h:fn.results=#[.cell p ty,.tmp q]) (tmps:Array Value) (w:World) {a:Addr} {v1 v2:Value}
  (hp:tmps.getD p undef=.pointer (some a)) (hq:tmps.getD q undef=v2) (h1:(loadVar ty a).run P w=.ok v1 w) :
  (results fn tmps).run P w=.ok (.tuple #[v1,v2]) w:=by
 have hp':tmps[p]?.getD undef=.pointer (some a):=by simpa using hp
 have hq':tmps[q]?.getD undef=v2:=by simpa using hq
 simp [results,h,hp',hq',asAddr,h1]
theorem Qeq {W:World} {b:Nat} {c:Int} (h:W.heap[b]? = some (.cells #[.int .i64 c] 29 (0,0))):(loadVar 29 ⟨b,0,none⟩).run prog W=.ok (.int .i64 c) W:=by
 have hc:W.cell? ⟨b,0,none⟩=some (.int .i64 c):=by simp [World.cell?,h]
 simp [go_sem,hc]
theorem Qo9 (B:Nat) (v:Value) (ys:List Int) (w:World) (hB:w.heap[B]? = some (.cells #[v] 22 (0,0))) (h:Bs .u8 w v ys) (hr:U8 ys) (hl:ys.length≤1000000000000) :
  Calls prog 86 #[.func (.func 87) #[] #[.pointer (some ⟨B,0,none⟩)]] w fun e w'=>∃x vp ve vr,e=.returned (.tuple #[x,.int .i64 (MDe ys)])∧Mnw w w' x (MDv ys) vp ve vr∧Only (fun _=>False) w w':=by
 have hmf:∀(fn:Fn) (first cap:Array Value) (w:World),(Instr.makeFunc fn first cap).run prog w=.ok (.func fn first cap) w:=fun _ _ _ _=>rfl
 have oa:Only (fun _=>False) w ((w.alloc (.cells #[.int .u64 0,.slice none 0 0,.slice none 0 0,.slice none 0 0] 42)).alloc (.cells #[.int .i64 0] 29)):=((Only.refl _ _).alloc _).alloc _;have RD:=Qaa (Qo7 B v ys _ (oa.heap hB (fun f=>f)) (h.past oa) hr hl);have g0:=Qaq (o:=.cells #[.int .i64 0] 29) (heap_alloc_new w (.cells #[.int .u64 0,.slice none 0 0,.slice none 0 0,.slice none 0 0] 42));have g1:=Qas (W:=w.alloc (.cells #[.int .u64 0,.slice none 0 0,.slice none 0 0,.slice none 0 0] 42)) (o:=.cells #[.int .i64 0] 29) (k:=w.heap.size+1) (by simp);have OA:=Qaa oa;obtain ⟨c,hc⟩:∃c,c=MDe ys:=⟨_,rfl⟩;obtain ⟨m,hm⟩:∃m,m=MDv ys:=⟨_,rfl⟩;rw [←hc,←hm] at RD;rw [←hc,←hm];clear hc hm;have G0:=Qaa g0;have G1:=Qaa g1;clear h hB oa g0 g1
 go_enter_defers func86,ntmps86
 go_wp2_with fail;refine RD.out.mono ?_;rintro e w2 ⟨o2,hh⟩;have K0:=o2.heap G0.out (fun f=>f);have K1:=o2.heap G1.out (fun f=>f);have O2:=Qaa (OA.out.same o2);have hs2:=o2.size;clear o2 RD G0 G1 OA
 rcases hh with ⟨he,hm,rfl⟩ | ⟨he,x,vp,ve,vr,rfl,mn⟩
 ·obtain ⟨p1,p2⟩:=Qbp K1
  have o3:Only (fun k=>k=w.heap.size+1) w2 (w2.setCell ⟨w.heap.size+1,0,none⟩ (.int .i64 c)):=(Only.refl (fun k=>k=w.heap.size+1) w2).setCell (p:=⟨w.heap.size+1,0,none⟩) (fun _=>rfl) _;have F0:=Qaa (QaA (o3.heap K0 (fun e=>by omega)));have F1:=Qaa (Qeq (Qfz K1 (.int .i64 c)));have OX:=Qaa (O2.out.trans o3 (fun i hi e=>by omega));have CE:=Qaa (Qo8 (w.heap.size+1) c [] w2 _ p1 p2);have HM:=Qaa hm;clear K0 K1 o3 hm;unfold mpan;go_wp2;refine leaves_cons (f:=120) (args:=#[.pointer (some ⟨w.heap.size+1,0,none⟩)]) (by simp) (by simp [go_sem]) ?_;refine CE.out.mono ?_;rintro e u' w'' ⟨rfl,rfl,rfl⟩;refine ⟨_,Qep Tryz.results86 _ _ rfl rfl F0.out F1.out,?_⟩;refine ⟨_,.slice none 0 0,.slice none 0 0,.slice none 0 0,rfl,?_,OX.out⟩;rw [HM.out];exact Mnw.zero _ _
 ·obtain ⟨ap,pc,ep⟩:=mn.mf.prev.len
  obtain ⟨ae,ec,ee⟩:=mn.mf.es.len;obtain ⟨ar,rc,er⟩:=mn.mf.root.len;subst ep ee er;have hx:=mn.mf.form;subst hx;obtain ⟨⟨k0,k1,k2,k3⟩,f0,f1,f2,f3⟩:=QaQ K0;obtain ⟨p1,p2⟩:=Qbp K1;obtain ⟨g,og⟩:=put4 K0 (.int .u64 m.ver) (.slice ap m.prev.length pc) (.slice ae m.es.length ec) (.slice ar m.root.length rc);have K1':=og.heap K1 (fun e=>by omega);generalize hW3:((((w2.setCell ⟨w.heap.size,0,none⟩ (.int .u64 m.ver)).setCell ⟨w.heap.size,1,none⟩ (.slice ap m.prev.length pc)).setCell ⟨w.heap.size,2,none⟩ (.slice ae m.es.length ec)).setCell ⟨w.heap.size,3,none⟩ (.slice ar m.root.length rc))=w3 at *;have o3:Only (fun k=>k=w.heap.size+1) w3 (w3.setCell ⟨w.heap.size+1,0,none⟩ (.int .i64 0)):=(Only.refl (fun k=>k=w.heap.size+1) w3).setCell (p:=⟨w.heap.size+1,0,none⟩) (fun _=>rfl) _;have F0:=Qaa (QaA (o3.heap g (fun e=>by omega)));have F1:=Qaa (Qeq (Qfz K1' (.int .i64 0)));have OX:=Qaa ((O2.out.trans og (fun i hi e=>by omega)).trans o3 (fun i hi e=>by omega));have MN:=Qaa (((mn.keep og (by simp;omega)).keep o3 (by simp)).low (w0:=w) (by simp;omega));have HE:=Qaa he;rw [←hW3] at F0 F1 OX MN;clear K0 K1 K1' o3 g og mn he hW3;go_wp2;refine leaves_cons (f:=120) (args:=#[.pointer (some ⟨w.heap.size+1,0,none⟩)]) (by simp) (by simp [go_sem]) ?_;refine (Qmn (w.heap.size+1) _).mono ?_;rintro e u' w'' ⟨rfl,rfl,rfl⟩;refine ⟨_,Qep Tryz.results86 _ _ rfl rfl F0.out F1.out,?_⟩;refine ⟨_,.slice ap m.prev.length pc,.slice ae m.es.length ec,.slice ar m.root.length rc,by rw [HE.out],?_,OX.out⟩;exact MN.out
theorem Qfc (v:Value) (ys:List Int) (w:World) (h:Bs .u8 w v ys) (hr:U8 ys) (hl:ys.length≤1000000000000) :
  Calls prog 55 #[v] w fun e w'=>∃x vp ve vr,e=.returned (.tuple #[x,.int .i64 (MDe ys)])∧Mnw w w' x (MDv ys) vp ve vr∧Only (fun _=>False) w w':=by
 have hmf:∀(fn:Fn) (first cap:Array Value) (w:World),(Instr.makeFunc fn first cap).run prog w=.ok (.func fn first cap) w:=fun _ _ _ _=>rfl
 obtain ⟨av,cv,ev⟩:=h.len;subst ev;have oa:Only (fun _=>False) w ((w.alloc (.cells #[.slice av ys.length cv] 22)).alloc (.cells #[.int .u64 0,.slice none 0 0,.slice none 0 0,.slice none 0 0] 42)):=((Only.refl _ _).alloc _).alloc _;have g0:=Qaq (o:=.cells #[.int .u64 0,.slice none 0 0,.slice none 0 0,.slice none 0 0] 42) (heap_alloc_new w (.cells #[.slice av ys.length cv] 22));have g1:=Qas (W:=w.alloc (.cells #[.slice av ys.length cv] 22)) (o:=.cells #[.int .u64 0,.slice none 0 0,.slice none 0 0,.slice none 0 0] 42) (k:=w.heap.size+1) (by simp);have RD:=Qaa (Qo9 w.heap.size _ ys _ g0 (h.past oa) hr hl);have G1:=Qaa g1;have OA:=Qaa oa;obtain ⟨c,hc⟩:∃c,c=MDe ys:=⟨_,rfl⟩;obtain ⟨m,hm⟩:∃m,m=MDv ys:=⟨_,rfl⟩;rw [←hc,←hm] at RD;rw [←hc,←hm];clear hc hm;clear h oa g0 g1 hr hl;go_enter func55,ntmps55;go_wp2_with fail;refine RD.out.mono ?_;rintro e w2 ⟨x,vp,ve,vr,rfl,mn,o2⟩;have K1:=o2.heap G1.out (fun f=>f);have hs2:=o2.size;obtain ⟨ap,pc,ep⟩:=mn.mf.prev.len;obtain ⟨ae,ec,ee⟩:=mn.mf.es.len;obtain ⟨ar,rc,er⟩:=mn.mf.root.len;subst ep ee er;have hx:=mn.mf.form;subst hx;obtain ⟨⟨k0,k1,k2,k3⟩,f0,f1,f2,f3⟩:=QaQ K1;obtain ⟨g,og⟩:=put4 K1 (.int .u64 m.ver) (.slice ap m.prev.length pc) (.slice ae m.es.length ec) (.slice ar m.root.length rc);have F:=Qaa (And.intro (QaA g) (And.intro ((OA.out.same o2).trans og (fun i hi e=>by omega)) ((mn.keep og (by simp)).low (w0:=w) (by simp;omega))));clear RD K1 o2 mn g og G1 OA;go_wp2;refine bodyPost_ret (QbA Tryz.results55 _ _ rfl rfl F.out.1) rfl ?_;refine ⟨_,.slice ap m.prev.length pc,.slice ae m.es.length ec,.slice ar m.root.length rc,rfl,?_,F.out.2.1⟩;exact F.out.2.2
section
open Go.Maps
def TBS (T:List (List Int)) (k:Nat):List Int:=gs T.length++((T.take k).map blk).flatten
theorem Qpn (T:List (List Int)):TBS T 0=gs T.length:=by simp [TBS]
theorem Qif (T:List (List Int)):TBS T T.length=gs T.length++(T.map blk).flatten:=by rw [TBS,List.take_length]
theorem Qff {α:Type} (l:List α) (k:Nat) (d:α) (h:k<l.length):l.take (k+1)=l.take k++[l.getD k d]:=by
 rw [List.take_succ_eq_append_getElem h,Yad,Yaf h];rfl
theorem Qpo (T:List (List Int)) (k:Nat) (h:k<T.length):TBS T (k+1)=TBS T k++blk (T.getD k []):=by
 rw [TBS,Qff T k [] h,List.map_append,List.flatten_append,TBS];simp
theorem Qig {α:Type} (f:α→List Int) (B:Nat):∀(l:List α),(∀x∈l,(f x).length≤B)→((l.map f).flatten).length≤l.length*B
 | [],_=>by simp
 | x :: l,h=>by
  have h1:=Qig f B l (fun y hy=>h y (List.mem_cons_of_mem _ hy));have h2:=h x List.mem_cons_self;simp only [List.map_cons,List.flatten_cons,Yae,Yah];rw [Nat.succ_mul];omega
theorem Qjp (T:List (List Int)) (k:Nat) (hk:k≤T.length) (hn:T.length≤1048576) (hl:∀x∈T,x.length≤64):(TBS T k).length≤10+k*74:=by
 have h1:=QaC (v:=T.length) (by omega)
 have h2:=Qig blk 74 (T.take k) (fun x hx=>by
  have h3:=hl x (List.mem_of_mem_take hx);have h4:=QbL x (by omega)
  omega)
 rw [Yag,Nat.min_eq_left hk] at h2;rw [TBS,Yae];omega
theorem Qez (v:Value) (T:List (List Int)) (w:World) (h:Sts w v T) (hu:∀x∈T,U8 x∧x.length≤64) (hl:T.length≤1048576) :
  Calls prog 77 #[v] w fun e w'=>∃u,e=.returned u∧w'.ownsRow w.heap.size 5 1 u (TBS T T.length).length ((TBS T T.length).map (Value.int .u8))∧Only (fun _=>False) w w':=by
 obtain ⟨i0,hi,hz0,hz1,hz2⟩:=info_parts Tryz.infoU8;obtain ⟨ao,cap,rfl⟩:=h.len;have A:=Qaa (Qaz (.slice none 0 0) [] (T.length:Int) w (Bs.nil _ _) NoCap.nil (by simp) (by omega) (by omega));rw [List.nil_append,Int.toNat_natCast,←Qpn] at A;have HB:=Qaa h;have HU:=Qaa hu;have HS:=Qaa (Qpo T);have HLE:=Qaa (fun k hk=>Qjp T k hk hl (fun x hx=>(hu x hx).2));obtain ⟨n,hn⟩:∃n,n=T.length:=⟨_,rfl⟩;rw [←hn] at HB hl A;have HN:=Qaa hn;rw [←hn]
 have hw:IntKind.u64.wrap (n:Int)=n:=by rw [IntKind.wrap_u64];omega
 clear h hu hn;go_enter func77,ntmps77;go_wp2_with fail;refine A.out.mono ?_;rintro e w0 ⟨u0,rfl,own0,o0⟩;have F0:=Qaa (And.intro own0 o0);clear own0 o0 A;go_wp2
 go_loopw [3,12] (fun u i wr=>∃k:Nat,k≤n∧i=.int .i64 k∧wr.ownsRow w.heap.size 5 1 u (TBS T k).length ((TBS T k).map (Value.int .u8))∧Only (fun _=>False) w wr) (fun _ i _=>n - (intOf i).toNat)
 case atStart=>exact ⟨0,Nat.zero_le _,rfl,F0.out⟩
 case round =>
  clear F0;obtain ⟨k,hk,rfl,own,on⟩:=hrel
  by_cases hlt:k<n
  ·have hlt':k<T.length:=by rw [←HN.out];exact hlt
   obtain ⟨b,off,cap',e,hc0⟩:=(HB.out.past on).at k hlt';simp only [Value.slice.injEq] at e;obtain ⟨rfl,hmx,rfl⟩:=e;clear hmx;obtain ⟨xu,xl⟩:=HU.out _ (QaU (s:=T) (d:=[]) hlt');have SC:=Qaa (HS.out k hlt');have LE:=HLE.out k (by omega);have HSB:=sb_of xu;obtain ⟨x,hx⟩:∃x,x=T.getD k []:=⟨_,rfl⟩;rw [←hx] at hc0 SC xu xl HSB;have hcv:=QcG (strOfNums x);have hsz:(strOfNums x).size=x.length:=Qg1 x;have hge:=grownCap_ge wr (strOfNums x).size 0 5;obtain ⟨c,hc⟩:∃c,c=grownCap wr (strOfNums x).size 0 5:=⟨_,rfl⟩;rw [←hc] at hge;have o2:Only (fun _=>False) wr (wr.alloc (Qbs (strOfNums x) c)).drew:=((Only.refl _ _).alloc _).drew;have B:=Qaa (QcW (.slice (some ⟨wr.heap.size,0,none⟩) (strOfNums x).size c) x (wr.alloc (Qbs (strOfNums x) c)).drew (by have:=Qb6 (Qbk (Qas (W:=wr) (o:=Qbs (strOfNums x) c) rfl)) (by omega:(strOfNums x).size≤c);rw [HSB] at this;exact this) (NoCap.some _ _ _) (by omega));have HBL:=QbL x (by omega);obtain ⟨X,hX⟩:∃X,X=blk x:=⟨_,rfl⟩;rw [←hX] at B SC HBL;obtain ⟨Y,hY⟩:∃Y,Y=TBS T k:=⟨_,rfl⟩;rw [←hY] at own SC LE;have OWN:=Qaa (o2.own own (fun _ _ f=>f));have ON:=Qaa (on.same o2)
   have i1:(k:Int)<(n:Int):=by omega
   have hsl:=on.size;clear hx hX hY own on o2 hlt' xu HSB hge hsz;go_wp2_with fail;rw [←hc];refine B.out.mono ?_;rintro e w1 ⟨v1,rfl,own1,o1⟩;have OWN1:=o1.own OWN.out (fun _ _ f=>f);have BS1:=Bs.of_own (k:=.u8) own1;have NC1:=NoCap.of_own own1;have s1:=o1.size;clear hcv hc;go_wp2_with (at_builtin;refine Qab _ rfl _ _ 22 rfl w.heap.size 5 i0 (.int .u8 0) 1 underlying22 hi hz0 hz1 hz2 rfl _ Y.length (Y.map (Value.int .u8)) rfl OWN1 .u8 _ X rfl BS1 NC1 (by unfold maxLen;omega) (by omega) (by simp at s1;omega) ?_;intro v2 w2 own2 gr2 _ _)
   go_roundw
   case rel =>
    refine ⟨k+1,by omega,by go_num,?_,(ON.out.same o1).grown gr2 (fun j hj e=>by have:=(OWN1.lt j e).1;omega)⟩;rw [SC.out,Yae,List.map_append];exact own2
   case measure=>simp [intOf];omega
  ·obtain rfl:k=n:=by omega
   have F:=Qaa (And.intro own on);clear own on HB;go_wp2;go_ret;exact ⟨_,rfl,F.out⟩
def EBS (T:List (List Int)) (es:List (List Int × Int)) (k:Nat):List Int:=gs es.length++((es.take k).map (MEN T)).flatten
theorem Qpp (T:List (List Int)) (es:List (List Int × Int)):EBS T es 0=gs es.length:=by simp [EBS]
theorem Qih (T:List (List Int)) (es:List (List Int × Int)):EBS T es es.length=gs es.length++(es.map (MEN T)).flatten:=by rw [EBS,List.take_length]
theorem Qpq (T:List (List Int)) (es:List (List Int × Int)) (k:Nat) (h:k<es.length):EBS T es (k+1)=EBS T es k++(gs (PLC T (es.getD k ([],0)).1)++[(es.getD k ([],0)).2]):=by
 rw [EBS,Qff es k ([],0) h,List.map_append,List.flatten_append,EBS];simp [MEN]
theorem Qjq (T:List (List Int)) (es:List (List Int × Int)) (k:Nat) (hk:k≤es.length) (hn:es.length≤1048576) (hT:∀e∈es,e.1∈T) (hl:T.length≤1048576):(EBS T es k).length≤10+k*11:=by
 have h1:=QaC (v:=es.length) (by omega)
 have h2:=Qig (MEN T) 11 (es.take k) (fun e he=>by
  have h3:=QdP (hT e (List.mem_of_mem_take he));have h4:=QaC (v:=PLC T e.1) (by omega)
  simp only [MEN,Yae,List.length_singleton];omega)
 rw [Yag,Nat.min_eq_left hk] at h2;rw [EBS,Yae];omega
theorem QeZ (v:Value) (es:List (List Int × Int)) (T:List (List Int)) (mb N:Nat) (D:DataW Unit) (w:World) (h:Ens w v es) (hm:w.ownsMap prog 9 (plainElem (H:=Unit) prog 3) mb N D) (ha:AtT D T)
  (hT:∀e∈es,e.1∈T) (hx:∀e∈es,e.1.length≤maxLen∧0≤e.2∧e.2≤8) (hl:es.length≤1048576) (hlT:T.length≤1048576) :
  Calls prog 78 #[v,.map (some mb)] w fun e w'=>∃u,e=.returned u∧w'.ownsRow w.heap.size 5 1 u (EBS T es es.length).length ((EBS T es es.length).map (Value.int .u8))∧Only (fun _=>False) w w':=by
 obtain ⟨i0,hi,hz0,hz1,hz2⟩:=info_parts Tryz.infoU8;obtain ⟨ao,cap,rfl⟩:=h.len;have A:=Qaa (Qaz (.slice none 0 0) [] (es.length:Int) w (Bs.nil _ _) NoCap.nil (by simp) (by omega) (by omega));rw [List.nil_append,Int.toNat_natCast,←Qpp T] at A;have HB:=Qaa h;have HM:=Qaa hm;have HA:=Qaa ha;have HT:=Qaa hT;have HX:=Qaa hx;have HS:=Qaa (Qpq T es);have HLE:=Qaa (fun k hk=>Qjq T es k hk hl hT hlT);obtain ⟨n,hn⟩:∃n,n=es.length:=⟨_,rfl⟩;rw [←hn] at HB hl A;have HN:=Qaa hn;rw [←hn]
 have hw:IntKind.u64.wrap (n:Int)=n:=by rw [IntKind.wrap_u64];omega
 clear h hm ha hT hx hn;go_enter func78,ntmps78;go_wp2_with fail;refine A.out.mono ?_;rintro e w0 ⟨u0,rfl,own0,o0⟩;have F0:=Qaa (And.intro own0 o0);clear own0 o0 A;go_wp2;clear hw
 go_loopw [5,14] (fun u i wr=>∃k:Nat,k≤n∧i=.int .i64 k∧wr.ownsRow w.heap.size 5 1 u (EBS T es k).length ((EBS T es k).map (Value.int .u8))∧Only (fun _=>False) w wr) (fun _ i _=>n - (intOf i).toNat)
 case atStart=>exact ⟨0,Nat.zero_le _,rfl,F0.out⟩
 case round =>
  clear F0;obtain ⟨k,hk,rfl,own,on⟩:=hrel
  by_cases hlt:k<n
  ·have hlt':k<es.length:=by rw [←HN.out];exact hlt
   obtain ⟨b,off,cap',e,hc0,hc1⟩:=(HB.out.past on).at k hlt';simp only [Value.slice.injEq] at e;obtain ⟨rfl,hmx,rfl⟩:=e;clear hmx;have hmem:es.getD k ([],0)∈es:=QaU hlt';have SC:=Qaa (HS.out k hlt');have LE:=HLE.out k (by omega);obtain ⟨x,hx⟩:∃x,x=es.getD k ([],0):=⟨_,rfl⟩;rw [←hx] at hc0 hc1 SC hmem;obtain ⟨xl,x0,x8⟩:=HX.out x hmem;have hat0:=Qaa (HA.out x.1 (HT.out x hmem) (.lit (.int .i64 0)));have hpl:=QdP (HT.out x hmem);have hkey:keyOf prog 9 (.string (strOfNums x.1))=some (kS x.1):=Qik underlying9 _ xl;have hg10:=QaC (v:=PLC T x.1) (by omega);obtain ⟨p,hp⟩:∃p,p=PLC T x.1:=⟨_,rfl⟩;rw [←hp] at hat0 hpl SC hg10;have B:=Qaa (fun W=>Qaz (.slice none 0 0) [] (p:Int) W (Bs.nil _ _) NoCap.nil (by simp) (by omega) (by omega));rw [List.nil_append,Int.toNat_natCast] at B;obtain ⟨X,hX⟩:∃X,X=gs p:=⟨_,rfl⟩;rw [←hX] at B SC hg10;obtain ⟨Y,hY⟩:∃Y,Y=EBS T es k:=⟨_,rfl⟩;rw [←hY] at own SC LE;have hmap:=Qey HM.out on (fun f=>f);have OWN:=Qaa own;have ON:=Qaa on
   have i1:(k:Int)<(n:Int):=by omega
   have hsl:=on.size
   have hw:IntKind.u64.wrap (p:Int)=p:=by rw [IntKind.wrap_u64];omega
   have hw8:IntKind.u8.wrap x.2=x.2:=by rw [IntKind.wrap_u8];omega
   clear hx hX hY own on hlt' hmem hp
   go_wp2_with (first
    | (at_lookup;refine wpList_lookup_own_int _ rfl _ _ 112 rfl 9 3 .i64 law9 underlying112 underlying3 (Qub _) mb N _ rfl (hmap.alloc _) _ _ rfl hkey ?_;intro c hat hwc;obtain rfl:c=(p:Int):=(by have:=hat.symm.trans hat0.out;simpa using this);clear hat hwc hat0)
    | fail)
   refine (B.out _).mono ?_;rintro e w1 ⟨v1,rfl,own1,o1⟩;have ob:Only (fun _=>False) wr (wr.alloc (.cells #[.string (strOfNums x.1),.int .i64 x.2] 47)):=(Only.refl _ _).alloc _;have o2:=ob.same o1;have OWN1:=o2.own OWN.out (fun _ _ f=>f);have BS1:=Bs.of_own (k:=.u8) own1;have NC1:=NoCap.of_own own1;have s1:=o2.size;have K1:=o1.heap (heap_alloc_new wr (.cells #[.string (strOfNums x.1),.int .i64 x.2] 47)) (fun f=>f)
   have cb:w1.cell? ⟨wr.heap.size,1,none⟩=some (.int .i64 x.2):=by simp [World.cell?,K1]
   have KN:Hid (∀j,j=wr.heap.size→some j≠u5.ownBlock):=by
    intro j hj e;have:=OWN.out.lt j e.symm;omega
   clear hc0 hc1 hkey hmap B;clear cb
   go_wp2_with (first
    | (at_builtin;refine Qab _ rfl _ _ 22 rfl w.heap.size 5 i0 (.int .u8 0) 1 underlying22 hi hz0 hz1 hz2 rfl u5 Y.length (Y.map (Value.int .u8)) rfl OWN1 .u8 _ X rfl BS1 NC1 (by unfold maxLen;omega) (by omega) (by omega) ?_;intro v2 w2 own2 gr2 _ _;have cb2:w2.cell? ⟨wr.heap.size,1,none⟩=some (.int .i64 x.2):=(by have K2:=((Only.refl (fun j=>u5.ownBlock=some j) w1).grown gr2 (fun j _ e=>e)).heap K1 (fun e=>KN.out _ rfl e.symm);simp [World.cell?,K2]);clear K1 KN BS1 NC1)
    | (at_builtin;refine Qab _ rfl _ _ 22 rfl w.heap.size 5 i0 (.int .u8 0) 1 underlying22 hi hz0 hz1 hz2 rfl v2 (Y.length+X.length) _ rfl (own2.alloc _) .u8 (.slice (some ⟨w2.heap.size,0,none⟩) 1 1) [x.2] rfl (Bs.litN .u8 w2 5 [x.2] _ _ rfl rfl) (NoCap.some _ _ _) (by unfold maxLen;simp;omega) (by simp;omega) (by have:=gr2.size;simp;omega) ?_;intro v3 w3 own3 gr3 _ _)
    | fail)
   go_roundw
   case rel =>
    refine ⟨k+1,by omega,by go_num,?_,(((ON.out.same o2).grown gr2 (fun j hj e=>by have:=(OWN1.lt j e).1;omega)).alloc _).grown gr3 (fun j hj e=>by have:=(own2.lt j e).1;omega)⟩;rw [SC.out]
    have e1:(Y++(X++[x.2])).length=Y.length+X.length+1:=by simp;omega
    rw [e1,←List.append_assoc,List.map_append,List.map_append];exact own3
   case measure=>simp [intOf];omega
  ·obtain rfl:k=n:=by omega
   have F:=Qaa (And.intro own on);clear own on HB;go_wp2;go_ret;exact ⟨_,rfl,F.out⟩
end
def cat (ls:Nat→List Int) (k:Nat):List Int:=(List.range k).flatMap ls
theorem QiW (ls:Nat→List Int):cat ls 0=[]:=rfl
theorem QbG (ls:Nat→List Int) (k:Nat):cat ls (k+1)=cat ls k++ls k:=by simp [cat,List.range_succ]
theorem QiX (ls:Nat→List Int) {k m:Nat} (h:k≤m):(cat ls k).length≤(cat ls m).length:=by
 induction m with
 | zero=>rw [Nat.le_zero.1 h];exact Nat.le_refl _
 | succ m ih =>
  rcases Nat.lt_or_ge k (m+1) with h' | h'
  ·have:=ih (by omega);rw [QbG,Yae];omega
  ·rw [show k=m+1 by omega];exact Nat.le_refl _
theorem Qgn (B m C:Nat) (vs:Nat→Value) (ls:Nat→List Int) (w:World) (hm:m≤1000) (hm0:0<m) (hc:∀i,i<m→w.cell? ⟨B,i,none⟩=some (vs i)) (hb:∀i,i<m→Bs .u8 w (vs i) (ls i)) (nc:∀i,i<m→NoCap (vs i))
  (hp:0<(cat ls m).length) (hl:(cat ls m).length≤140737488355328) :
  Calls prog 25 #[.slice (some ⟨B,0,none⟩) m C] w fun e w'=>∃v',e=.returned v'∧w'.ownsRow w.heap.size 5 1 v' (cat ls m).length ((cat ls m).map (Value.int .u8))∧Only (fun _=>False) w w':=by
 obtain ⟨i0,hi,hz0,hz1,hz2⟩:=info_parts Tryz.infoU8;have HC:=Qaa hc;have HB:=Qaa hb;have NC:=Qaa nc;have HP:=Qaa hp;have HL:=Qaa hl;have hBw:B<w.heap.size:=World.block_lt_of_cell? w _ (hc 0 hm0);clear hc hb nc hp hl;go_enter func25,ntmps25;go_wp2
 go_loop [3,11] (fun s i=>∃k:Nat,k≤m∧i=.int .i64 k∧s=.int .i64 (cat ls k).length) (fun _ i=>m - (intOf i).toNat)
 case atStart=>exact ⟨0,Nat.zero_le _,rfl,rfl⟩
 case round =>
  obtain ⟨k,hk,rfl,rfl⟩:=hrel
  by_cases hlt:k<m
  ·obtain ⟨ao,cap,e1⟩:=(HB.out k hlt).len
   have c0:=HC.out k hlt;rw [e1] at c0
   have hnext:Hid ((cat ls (k+1)).length=(cat ls k).length+(ls k).length):=by simp only [Hid];rw [QbG,Yae]
   have hle:=QiX ls (show k+1≤m by omega);rw [hnext.out] at hle;have HX:=HL.out;obtain ⟨s,hs⟩:∃s,s=(cat ls k).length:=⟨_,rfl⟩;obtain ⟨n,hn⟩:∃n,n=(ls k).length:=⟨_,rfl⟩;rw [←hs,←hn] at hle hnext;rw [←hn] at c0;rw [←hs]
   have hb2:s+n≤140737488355328:=by omega
   have dlt:decide ((k:Int)<(m:Int))=true:=by simp;omega
   have d0:decide ((s:Int)+n<0)=false:=by simp;omega
   clear e1 hs hn hle HX;go_wp2
   go_round
   case rel=>exact ⟨k+1,by omega,by simp,by rw [hnext.out];simp⟩
   case measure=>simp [intOf];omega
  ·obtain rfl:k=m:=by omega
   have dlt:decide ((k:Int)<(k:Int))=false:=by simp
   obtain ⟨s,hs⟩:∃s,s=(cat ls k).length:=⟨_,rfl⟩;have HS:=Qaa hs;rw [←hs]
   have hs0:0<s:=by rw [hs];exact HP.out
   have hs1:s≤140737488355328:=by rw [hs];exact HL.out
   have GN:=Qaa (QjU s w hs0 hs1);clear hs;go_wp2_with fail;refine GN.out.mono ?_;rintro e w2 ⟨G,rfl,hown,hon⟩;have hbel:Below w.heap.size w w2:=hon.low (Nat.le_refl _);clear GN hon;go_wp2
   go_loopw [6,27] (fun o i wr=>Below w.heap.size w wr∧∃j:Nat,j≤k∧i=.int .i64 j∧wr.ownsRow w.heap.size 5 1 o (cat ls j).length ((cat ls j).map (Value.int .u8))) (fun _ i _=>k - (intOf i).toNat)
   case atStart=>exact ⟨hbel,0,Nat.zero_le _,rfl,hown⟩
   case round =>
    obtain ⟨hbw,j,hj,rfl,hown1⟩:=hrel;clear hbel hown;have hsz:=hbw.size
    by_cases hlt:j<k
    ·obtain ⟨ao,cap,e1⟩:=(HB.out j hlt).len
     have c0:=(hbw.cell (p:=⟨B,j,none⟩) hBw).trans (HC.out j hlt);have HBJ:=Qaa ((HB.out j hlt).later hbw);have NCJ:=Qaa (NC.out j hlt);rw [e1] at c0 HBJ NCJ;have hnext:Hid (cat ls (j+1)=cat ls j++ls j):=QbG ls j;have hle:=QiX ls (show j+1≤k by omega);rw [hnext.out,Yae] at hle;have HX:=HL.out;obtain ⟨n,hn⟩:∃n,n=(ls j).length:=⟨_,rfl⟩;rw [←hn] at c0 HBJ NCJ
     have dlt2:decide ((j:Int)<(k:Int))=true:=by simp;omega
     clear e1 hn;have hle2:=Qaa hle;clear hle HX;go_wp2_with (at_builtin;refine Qab _ rfl _ _ _ rfl w.heap.size 5 i0 (.int .u8 0) 1 underlying22 hi hz0 hz1 hz2 rfl _ _ _ rfl hown1 .u8 _ (ls j) rfl HBJ.out NCJ.out ?c3 ?c4 hsz ?_)
     case c3=>have:=hle2.out;have:=HL.out;unfold maxLen;omega
     case c4=>have:=hle2.out;have:=HL.out;omega
     intro v' w3 hown2 hgrow _ _;have hb3:Below w.heap.size w w3:=hbw.grown hgrow hsz (fun q hq=>(hown1.lt q hq).1);rw [←List.map_append,←Yae,←hnext.out] at hown2;clear hown1 hgrow;go_wp2
     go_roundw
     case rel=>exact ⟨hb3,j+1,by omega,by simp,hown2⟩
     case measure=>simp [intOf];omega
    ·obtain rfl:j=k:=by omega
     have dlt2:decide ((j:Int)<(j:Int))=false:=by simp
     go_wp2;go_ret;exact ⟨_,rfl,hown1,Qav hbw⟩
theorem Qc4 (B m:Nat) (vs:Nat→Value) (ls:Nat→List Int) (w:World) (hm:m≤1000) (hm0:0<m) (hc:∀i,i<m→w.cell? ⟨B,i,none⟩=some (vs i)) (hb:∀i,i<m→Bs .u8 w (vs i) (ls i)) (nc:∀i,i<m→NoCap (vs i))
  (hp:0<(cat ls m).length) (hl:(cat ls m).length≤140737488355328) :
  Calls prog 25 #[.slice (some ⟨B,0,none⟩) m m] w fun e w'=>∃v',e=.returned v'∧w'.ownsRow w.heap.size 5 1 v' (cat ls m).length ((cat ls m).map (Value.int .u8))∧Only (fun _=>False) w w' :=
 Qgn B m m vs ls w hm hm0 hc hb nc hp hl
section
open Go.Maps
def MEr (m:MAN):Int :=
 if m.ver=18446744073709551615∨m.prev.length≠32∨m.root.length≠32 then 1
 else if m.es.any (fun e=>!okB e.2)=true then 1
 else if 1048576<m.es.length∨m.es.any (fun e=>decide (64<e.1.length))=true then 4 else 0
def MEt (m:MAN):List Int:=if MEr m=0 then MENC m else []
theorem QmH {m:MAN} (hk:Mok m):MEr m=0↔MGD m:=by
 unfold MEr
 constructor
 ·intro h
  by_cases h1:m.ver=18446744073709551615∨m.prev.length≠32∨m.root.length≠32
  ·rw [if_pos h1] at h;cases h
  ·rw [if_neg h1] at h
   by_cases h2:m.es.any (fun e=>!okB e.2)=true
   ·rw [if_pos h2] at h;cases h
   ·rw [if_neg h2] at h
    by_cases h3:1048576<m.es.length∨m.es.any (fun e=>decide (64<e.1.length))=true
    ·rw [if_pos h3] at h;cases h
    ·have hv:=hk.ver
     refine ⟨by omega,⟨by omega,hk.prev⟩,⟨by omega,hk.root⟩,by omega,fun e he=>⟨⟨?_,hk.es e he⟩,?_⟩⟩
     ·have h4:¬m.es.any (fun e=>decide (64<e.1.length))=true:=fun q=>h3 (.inr q)
      rw [List.any_eq_true] at h4
      exact Nat.le_of_not_lt fun q=>h4 ⟨e,he,by simpa using q⟩
     ·rw [List.any_eq_true] at h2
      by_cases q:0≤e.2∧e.2≤8
      ·exact q
      ·exact absurd ⟨e,he,by simp only [okB,Yak q,Bool.not_false]⟩ h2
 ·rintro ⟨h1,h2,h3,h4,h5⟩
  have q2:¬m.es.any (fun e=>!okB e.2)=true:=by
   rw [List.any_eq_true];rintro ⟨e,he,q⟩;have:=(h5 e he).2;rw [okB,Yaj this] at q
   cases q
  have q3:¬m.es.any (fun e=>decide (64<e.1.length))=true:=by
   rw [List.any_eq_true];rintro ⟨e,he,q⟩;have:=(h5 e he).1.1;have:=of_decide_eq_true q;omega
  rw [if_neg (by have:=h2.1;have:=h3.1;omega),if_neg q2,if_neg (fun q=>q.elim (fun q=>by omega) q3)]
theorem heap4 {W:World} {B:Nat} {x0 x1 x2 x3:Value} (h:W.heap[B]? = some (.cells #[x0,x1,x2,x3] 42 (0,0))):W.cell? ⟨B,0,none⟩=some x0∧W.cell? ⟨B,1,none⟩=some x1∧W.cell? ⟨B,2,none⟩=some x2∧W.cell? ⟨B,3,none⟩=some x3 :=
 ⟨by simp [World.cell?,h],by simp [World.cell?,h],by simp [World.cell?,h],by simp [World.cell?,h]⟩
def six {α:Type} (a b c d e f:α):Nat→α
 | 0=>a
 | 1=>b
 | 2=>c
 | 3=>d
 | 4=>e
 | _=>f
theorem Qii (a b c d e f:List Int):cat (six a b c d e f) 6=a++(b++(c++(d++(e++f)))):=by
 simp [cat,List.range_succ,six]
theorem QaK {W:World} {B:Nat} {v0 v1 v2 v3 v4 v5:Value} {l0 l1 l2 l3 l4 l5:List Int} (hB:W.heap[B]? = some (.cells #[v0,v1,v2,v3,v4,v5] 22 (0,0)))
  (b0:Bs .u8 W v0 l0) (b1:Bs .u8 W v1 l1) (b2:Bs .u8 W v2 l2) (b3:Bs .u8 W v3 l3) (b4:Bs .u8 W v4 l4) (b5:Bs .u8 W v5 l5) (n0:NoCap v0) (n1:NoCap v1) (n2:NoCap v2) (n3:NoCap v3) (n4:NoCap v4) (n5:NoCap v5)
  (hp:0<l0.length) (hl:(l0++(l1++(l2++(l3++(l4++l5))))).length≤140737488355328) :
  Calls prog 25 #[.slice (some ⟨B,0,none⟩) 6 6] W fun e w'=>∃v',e=.returned v'∧w'.ownsRow W.heap.size 5 1 v' (l0++(l1++(l2++(l3++(l4++l5))))).length ((l0++(l1++(l2++(l3++(l4++l5))))).map (Value.int .u8))∧Only (fun _=>False) W w':=by
 have:=Qc4 B 6 (six v0 v1 v2 v3 v4 v5) (six l0 l1 l2 l3 l4 l5) W (by omega) (by omega)
  (fun i hi=>by
   have e:W.cell? ⟨B,i,none⟩=(#[v0,v1,v2,v3,v4,v5]:Array Value)[i]?:=by unfold World.cell?;simp only;rw [hB];rfl
   rw [e]
   match i,hi with
   | 0,_=>rfl
   | 1,_=>rfl
   | 2,_=>rfl
   | 3,_=>rfl
   | 4,_=>rfl
   | 5,_=>rfl)
  (fun i hi=>by
   match i,hi with
   | 0,_=>exact b0
   | 1,_=>exact b1
   | 2,_=>exact b2
   | 3,_=>exact b3
   | 4,_=>exact b4
   | 5,_=>exact b5)
  (fun i hi=>by
   match i,hi with
   | 0,_=>exact n0
   | 1,_=>exact n1
   | 2,_=>exact n2
   | 3,_=>exact n3
   | 4,_=>exact n4
   | 5,_=>exact n5)
  (by rw [Qii];simp only [Yae];omega) (by rw [Qii];exact hl)
 rw [Qii] at this;exact this
theorem keep4 {w3 W W':World} {B:Nat} {x0 x1 x2 x3:Value} (h:Only (fun _=>False) w3 W∧W.cell? ⟨B,0,none⟩=some x0∧W.cell? ⟨B,1,none⟩=some x1∧W.cell? ⟨B,2,none⟩=some x2∧W.cell? ⟨B,3,none⟩=some x3) (o:Only (fun _=>False) W W') :
  Only (fun _=>False) w3 W'∧W'.cell? ⟨B,0,none⟩=some x0∧W'.cell? ⟨B,1,none⟩=some x1∧W'.cell? ⟨B,2,none⟩=some x2∧W'.cell? ⟨B,3,none⟩=some x3:=by
 obtain ⟨h1,h2,h3,h4,h5⟩:=h;have hb:B<W.heap.size:=World.block_lt_of_cell? W _ h2;have e:=o.block B hb (fun f=>f);exact ⟨h1.same o,by rw [←h2];unfold World.cell?;rw [e],by rw [←h3];unfold World.cell?;rw [e],by rw [←h4];unfold World.cell?;rw [e],by rw [←h5];unfold World.cell?;rw [e]⟩
theorem QgX {W:World} {b:Nat} {C:Array Value} (h:W.heap[b]? = some (.cells C 5 (0,0))):(W.freeze ⟨b,C.size,none⟩ 1).heap[b]? = some (.cells C 5 (C.size,C.size+1))∧Only (fun k=>k=b) W (W.freeze ⟨b,C.size,none⟩ 1):=by
 have hb:b<W.heap.size:=(Array.getElem?_eq_some_iff.1 h).1;unfold World.freeze;rw [if_neg (by decide)];refine ⟨?_,⟨rfl,rfl,rfl,by simp,fun k hk hne=>?_⟩⟩
 ·simp [Array.getElem?_modify,h]
 ·have:¬b=k:=fun e=>hne e.symm
  simp [Array.getElem?_modify,this]
theorem Qsd {W:World} {b:Nat} {C:Array Value} (h:W.heap[b]? = some (.cells C 5 (0,0))) {v:Value} {xs:List Int} (hv:Bs .u8 W v xs):Bs .u8 (W.freeze ⟨b,C.size,none⟩ 1) v xs:=by
 obtain ⟨m1,m2⟩:=QgX h;obtain ⟨ao,cap,rfl,hl,hr⟩:=hv;refine ⟨ao,cap,rfl,hl,fun hne=>?_⟩;obtain ⟨c,off,rfl,hc⟩:=hr hne;refine ⟨c,off,rfl,fun j hj=>?_⟩;have h0:=hc j hj
 by_cases e:c=b
 ·subst e
  rw [←h0];simp only [World.cell?,m1,h]
 ·have hlt:c<W.heap.size:=World.block_lt_of_cell? W _ h0
  have e2:=m2.block c hlt e;rw [←h0];unfold World.cell?;rw [e2]
theorem Qpr {W:World} {b:Nat} {C:Array Value} (n c:Nat) (h:W.heap[b]? = some (.cells C 5 (0,0))):(convert 22 22 (.slice (some ⟨b,0,none⟩) n c)).run prog W=.ok (.slice (some ⟨b,0,none⟩) n c) (W.freeze ⟨b,C.size,none⟩ 1):=by
 have hsh:W.shape? b=some (5,C.size):=by unfold World.shape?;rw [h]
 simp [convert,run_underlying underlying22,run_underlying underlying5,markStringish,hsh]
theorem QmI {w:World} {o:Oper} {a:Act} {K:Act→World→Prop} {Q:Exit→Act→World→Prop} (w3:World) {b:Nat}
  (hb:w.heap[b]? = some (.cells #[.int .u8 67,.int .u8 83,.int .u8 75,.int .u8 49] 5 (0,0))) (h3:w3.heap.size≤b) (o3:Only (fun _=>False) w3 w)
  (h:∀w',Only (fun _=>False) w3 w'→Bs .u8 w' (.slice (some ⟨b,0,none⟩) 4 4) MHD→(∀v xs,Bs .u8 w v xs→Bs .u8 w' v xs)→K (a.put o.dst (.slice (some ⟨b,0,none⟩) 4 4)) w') :
  Oper.upon prog o a K Q (((convert 22 22 (.slice (some ⟨b,0,none⟩) 4 4)).run prog w).andThen fun a w'=>.ok (.value a) w'):=by
 obtain ⟨m1,m2⟩:=QgX hb;have hK:=h (w.freeze ⟨b,4,none⟩ 1) (o3.trans m2 (fun i hi e=>by omega)) ?_ (fun v xs hv=>Qsd hb hv)
 ·rw [Qpr 4 4 hb]
  exact hK
 ·refine ⟨some _,4,rfl,Nat.le_refl _,fun _=>⟨b,0,rfl,fun j hj=>?_⟩⟩
  have hj':j<4:=hj;have m1':(w.freeze ⟨b,4,none⟩ 1).heap[b]? = _:=m1
  match j,hj' with
  | 0,_=>simp [World.cell?,m1',MHD]
  | 1,_=>simp [World.cell?,m1',MHD]
  | 2,_=>simp [World.cell?,m1',MHD]
  | 3,_=>simp [World.cell?,m1',MHD]
theorem Qij (ver:Nat) (ap ar:Option Addr) (pl pc rl rc:Nat) (ve:Value) (w:World) (h:ver=18446744073709551615∨pl≠32∨rl≠32) :
  Calls prog 46 #[.agg #[.int .u64 ver,.slice ap pl pc,ve,.slice ar rl rc]] w fun e w'=>e=.returned (.tuple #[.slice none 0 0,.int .i64 1])∧Only (fun _=>False) w w':=by
 by_cases h1:ver=18446744073709551615
 ·have d1:((ver:Int) == 18446744073709551615)=true:=by simp;omega
  clear h1 h;go_enter func46,ntmps46;go_wp2;go_ret2;exact ⟨rfl,(Only.refl _ _).alloc _⟩
 ·have d1:((ver:Int) == 18446744073709551615)=false:=by rw [beq_eq_false_iff_ne];omega
  by_cases h2:pl=32
  ·have h3:rl≠32:=by omega
   have d2:((pl:Int) != 32)=false:=by subst h2;decide
   have d3:((rl:Int) != 32)=true:=by simp;omega
   clear h1 h2 h3 h;go_enter func46,ntmps46;go_wp2;go_ret2;exact ⟨rfl,(Only.refl _ _).alloc _⟩
  ·have d2:((pl:Int) != 32)=true:=by simp;omega
   clear h1 h2 h;go_enter func46,ntmps46;go_wp2;go_ret2;exact ⟨rfl,(Only.refl _ _).alloc _⟩
theorem Qkv (x vp ve vr:Value) (m:MAN) (w:World) (h:Mf w x m vp ve vr) (hk:Mok m) (np:NoCap vp) (nr:NoCap vr) (hm63:m.es.length≤9223372036854775806) (h0:MEr m≠0) :
  Calls prog 46 #[x] w fun e w'=>∃u,e=.returned (.tuple #[u,.int .i64 (MEr m)])∧w'.ownsRow w.heap.size 5 1 u (MEt m).length ((MEt m).map (Value.int .u8))∧Only (fun _=>False) w w':=by
 obtain ⟨rfl,hp,he,hr⟩:=h;obtain ⟨ap,pc,e1⟩:=hp.len;obtain ⟨ar,rc,e2⟩:=hr.len;subst e1 e2
 by_cases h1:m.ver=18446744073709551615∨m.prev.length≠32∨m.root.length≠32
 ·have e1:MEr m=1:=by unfold MEr;rw [if_pos h1]
  have e2:MEt m=[]:=by unfold MEt;rw [e1];rfl
  rw [e1,e2];refine (Qij _ _ _ _ _ _ _ _ w h1).mono ?_;rintro e w' ⟨rfl,o⟩;exact ⟨_,rfl,World.ownsRow_nil _ _ _ _,o⟩
 ·have d1:((m.ver:Int) == 18446744073709551615)=false:=by rw [beq_eq_false_iff_ne];omega
  have l1:m.prev.length=32:=by omega
  have l2:m.root.length=32:=by omega
  rw [l1] at hp np;rw [l2] at hr nr;rw [l1,l2];have e32:((32:Nat):Int)=32:=rfl;obtain ⟨ao,cap,e3⟩:=he.len;subst e3;have oa:Only (fun _=>False) w (w.alloc (.cells #[.int .u64 m.ver,.slice ap 32 pc,.slice ao m.es.length cap,.slice ar 32 rc] 42)):=(Only.refl _ _).alloc _;have A:=Qaa (QbI _ _ _ (he.past oa) hm63);have OA:=Qaa oa;have HE:=Qaa he;have HP:=Qaa hp;have HR:=Qaa hr;have K0:=Qaa (heap_alloc_new w (.cells #[.int .u64 m.ver,.slice ap 32 pc,.slice ao m.es.length cap,.slice ar 32 rc] 42))
  by_cases h2:m.es.any (fun e=>!okB e.2)=true
  ·have e1:MEr m=1:=by unfold MEr;rw [if_neg h1,if_pos h2]
   have e2:MEt m=[]:=by unfold MEt;rw [e1];rfl
   rw [e1,e2];rw [h2] at A;clear h1 h2 e1 e2 oa he hp hr l1 l2;go_enter func46,ntmps46;go_wp2_with fail;refine A.out.mono ?_;rintro e w1 ⟨rfl,o1⟩;have O:=Qaa (OA.out.same o1);clear A o1;go_wp2;go_ret2;exact ⟨_,rfl,World.ownsRow_nil _ _ _ _,O.out⟩
  ·have hf2:m.es.any (fun e=>!okB e.2)=false:=by simpa using h2
   rw [hf2] at A;have B:=Qaa (fun W o=>QbJ _ _ W (he.past (oa.same o)) hm63 hk.es)
   by_cases h3:1048576<m.es.length
   ·have e1:MEr m=4:=by unfold MEr;rw [if_neg h1,if_neg h2,if_pos (.inl h3)]
    have e2:MEt m=[]:=by unfold MEt;rw [e1];rfl
    rw [e1,e2]
    have d3:decide ((1048576:Int)<(m.es.length:Int))=true:=by simp;omega
    have d4:decide ((1048576:Nat)<m.es.length)=true:=by simp;omega
    clear h1 h2 e1 e2 oa he hp hr l1 l2 hf2 hk;generalize m.es.length=n at *;go_enter func46,ntmps46;go_wp2_with fail;refine A.out.mono ?_;rintro e w1 ⟨rfl,o1⟩;obtain ⟨c0,c1,c2,c3⟩:=heap4 (o1.heap K0.out (fun f=>f));have O:=Qaa (OA.out.same o1);clear A o1;go_wp2;go_ret2;exact ⟨_,rfl,World.ownsRow_nil _ _ _ _,O.out⟩
   ·have d3:decide ((1048576:Int)<(m.es.length:Int))=false:=by simp;omega
    have d4:decide ((1048576:Nat)<m.es.length)=false:=by simp;omega
    by_cases h4:m.es.any (fun e=>decide (64<e.1.length))=true
    ·have e1:MEr m=4:=by unfold MEr;rw [if_neg h1,if_neg h2,if_pos (.inr h4)]
     have e2:MEt m=[]:=by unfold MEt;rw [e1];rfl
     rw [e1,e2];rw [h4] at B;clear h1 h2 e1 e2 oa he hp hr l1 l2 hf2 hk h4;generalize m.es.length=n at *;go_enter func46,ntmps46;go_wp2_with fail;refine A.out.mono ?_;rintro e w1 ⟨rfl,o1⟩;obtain ⟨c0,c1,c2,c3⟩:=heap4 (o1.heap K0.out (fun f=>f));have C:=Qaa (B.out w1 o1);have O:=Qaa (OA.out.same o1);clear A o1 B;go_wp2_with fail;refine C.out.mono ?_;rintro e w2 ⟨rfl,o2⟩;have O2:=Qaa (O.out.same o2);clear C o2;go_wp2;go_ret2;exact ⟨_,rfl,World.ownsRow_nil _ _ _ _,O2.out⟩
    ·exact absurd (by unfold MEr;rw [if_neg h1,if_neg h2,if_neg (fun q=>q.elim h3 h4)]) h0
end
end Go.Proofs.YtnhapmboienipaaGreatDoor
