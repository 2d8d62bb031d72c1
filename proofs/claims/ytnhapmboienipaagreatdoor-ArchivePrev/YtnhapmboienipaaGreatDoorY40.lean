import Derived.Test.YtnhapmboienipaaGreatDoorY39
import Derived.Test.YtnhapmboienipaaGreatDoorY16
import Derived.Test.YtnhapmboienipaaGreatDoorY18
import Derived.Test.YtnhapmboienipaaGreatDoorY31
namespace Go.Proofs.YtnhapmboienipaaGreatDoor
set_option maxHeartbeats 4000000
set_option maxRecDepth 100000
open Go.RowKit _root_.Go.Proofs.Tryz
theorem QhA {w w':World} {N lo n size:Nat} {E T:TypeId} {v:Value} {xs:List Value} {f:Nat × Nat} {cs:Array Value} (o:Only (fun k=>k=N) w w') (hN:w.heap[N]? = some (.cells cs T f)) (hT:T≠E) (h:w.ownsRow lo E size v n xs):w'.ownsRow lo E size v n xs :=
 o.own h (fun k hk e=>by
  subst e
  rcases h.2 with ⟨rfl,_⟩ | ⟨g,cap,cur,rfl,_,hg,_⟩
  ·cases hk
  ·cases hk;rw [hN] at hg;cases hg;exact hT rfl)
theorem LO.ne {w w':World} {N:Nat} {T:TypeId} {f:Nat × Nat} {vs:List Value} {ls:List (List Int)} (h:LO w vs ls) (o:Only (fun k=>k=N) w w') {cs:Array Value} (hN:w.heap[N]? = some (.cells cs T f)) (hT:T≠5):LO w' vs ls :=
 ⟨h.1,fun j u hu=>by obtain ⟨lo,h1⟩:=h.2 j u hu;exact ⟨lo,QhA o hN hT h1⟩⟩
theorem QiM {e:List Int × Int} {es:List (List Int × Int)} {ys t:List Int} {ls:List (List Int)} (h:CUT (e :: es) ys=some (ls,t)) :
  ∃l ls',ls=l :: ls'∧¬ys.length<(SZV e.2).toNat+16∧l=ys.take ((SZV e.2).toNat+16)∧CUT es (ys.drop ((SZV e.2).toNat+16))=some (ls',t):=by
 rw [CUT] at h
 by_cases h1:ys.length<(SZV e.2).toNat+16
 ·rw [if_pos h1] at h;cases h
 ·rw [if_neg h1] at h
  cases h2:CUT es (ys.drop ((SZV e.2).toNat+16)) with
  | none=>rw [h2] at h;cases h
  | some x =>
   rw [h2] at h;simp only [Option.some.injEq,Prod.mk.injEq] at h;exact ⟨_,x.1,h.1.symm,h1,rfl,by rw [←h.2]⟩
theorem Qk6:∀(es:List (List Int × Int)) {ys t:List Int} {ls:List (List Int)},CUT es ys=some (ls,t)→ls.length=es.length
 | [],ys,t,ls,h=>by simp [CUT] at h;rw [h.1];rfl
 | e :: es,ys,t,ls,h=>by
  obtain ⟨l,ls',rfl,_,_,h2⟩:=QiM h;simp [Qk6 es h2]
theorem Qgc {R:Nat} {v:Value} {ys t:List Int} (es:List (List Int × Int)) (ls:List (List Int)) (ve:Value) (w:World) (hC:CurAt 95 w R v ys) (hvb:∀k,v.ownBlock=some k→k<w.heap.size) (hE:Ens w ve es) (hEb:∀k,ve.ownBlock=some k→¬k=R) (hcut:CUT es ys=some (ls,t)) (hb:∀e∈es,0≤e.2∧e.2≤8) (hn:es.length≤1048576) :
  Calls prog 35 #[.func (.func 36) #[.pointer (some ⟨R,0,none⟩)] #[],ve] w fun e w'=>∃a,e=.returned (.tuple #[a,.int .i64 0])∧(∃vs,LO w' vs ls∧w'.ownsRow w.heap.size 22 1 a ls.length vs)∧(∃v2,CurAt 95 w' R v2 t∧v2.ownBlock=v.ownBlock)∧Only (fun k=>k=R) w w':=by
 obtain ⟨ae,ce,rfl⟩:=hE.len;obtain ⟨i0,hi,hz0,hz1,hz2⟩:=info_parts Tryz.infoRows;have hRw:R<w.heap.size:=(Array.getElem?_eq_some_iff.1 hC.cell).1;have hll:=Qk6 es hcut;obtain ⟨n,hnn⟩:∃n,n=es.length:=⟨_,rfl⟩
 have S0:Hid (∃(rv:Value) (vs:List Value) (v2:Value) (rest:List Int),.slice none 0 0=rv∧w.ownsRow w.heap.size 22 1 rv 0 vs∧LO w vs (ls.take 0)∧CurAt 95 w R v2 rest∧v2.ownBlock=v.ownBlock∧CUT (es.drop 0) rest=some (ls.drop 0,t)∧Only (fun k=>k=R) w w) :=
  ⟨_,[],v,ys,rfl,World.ownsRow_nil _ _ _ _,LO.nil w,hC,rfl,hcut,Only.refl _ _⟩
 have HE:=Qaa (And.intro hE (And.intro hEb (And.intro hb (And.intro hvb (And.intro hRw hll)))));have HN:=Qaa hnn
 have hnb:n≤1048576:=by omega
 rw [←hnn] at HE ⊢;clear hC hvb hE hEb hcut hb hn hRw hll hnn;go_enter func35,ntmps35;go_wp2
 go_loopw [6,13] (fun rv i wr=>∃k:Nat,k≤n∧i=.int .i64 k∧Hid (∃(vs:List Value) (v2:Value) (rest:List Int),wr.ownsRow w.heap.size 22 1 rv k vs∧LO wr vs (ls.take k)∧CurAt 95 wr R v2 rest∧v2.ownBlock=v.ownBlock∧CUT (es.drop k) rest=some (ls.drop k,t)∧Only (fun k=>k=R) w wr)) (fun _ i _=>n - (intOf i).toNat)
 case atStart =>
  obtain ⟨rv,vs,v2,rest,rfl,h⟩:=S0.out;exact ⟨0,Nat.zero_le _,rfl,vs,v2,rest,h⟩
 case round =>
  obtain ⟨k,hk,rfl,hS⟩:=hrel;clear S0
  by_cases hlt:k<n
  ·have dlt:decide ((k:Int)<(n:Int))=true:=Yaj (by omega)
   have dlt':decide (k<n)=true:=Yaj hlt;obtain ⟨vs,v2,rest,ow,lo,cu,hv2,hcut,o⟩:=hS.out
   have hke:k<es.length:=by rw [←HN.out];exact hlt
   rw [List.drop_eq_getElem_cons hke] at hcut;obtain ⟨l,ls',hls,hnl,hl,hcut'⟩:=QiM hcut
   have hkl:k<ls.length:=by have:=HE.out.2.2.2.2.2;omega
   have hge:es[k]=es.getD k ([],0):=by rw [Yad,Yaf hke];rfl
   rw [hge] at hnl hl hcut';have hbk:=HE.out.2.2.1 _ (List.getElem_mem hke);rw [hge] at hbk;obtain ⟨b,off,cap',ee,hc0,hc1⟩:=(HE.out.1.keep o (fun q hq=>HE.out.2.1 q hq)).at k hke
   obtain rfl:ae=some ⟨b,off,none⟩:=by simp at ee;exact ee.1
   clear ee;obtain ⟨e,hee⟩:∃e,e=es.getD k ([],0):=⟨_,rfl⟩;rw [←hee] at hnl hl hcut' hbk hc0 hc1;obtain ⟨T,hT⟩:∃T,T=strOfNums e.1:=⟨_,rfl⟩;rw [←hT] at hc0
   obtain ⟨z,hz⟩:∃z:Nat,SZV e.2=(z:Int)∧z≤4194304:=by
    refine ⟨PSZ e.2.toNat,?_,?_⟩
    ·unfold SZV;rw [if_pos hbk]
    ·unfold PSZ
     have:e.2.toNat≤8:=by omega
     have h4:4^e.2.toNat≤4^8:=Nat.pow_le_pow_right (by decide) this
     have:(4:Nat)^8=65536:=by decide
     omega
   have hzn:(SZV e.2).toNat+16=z+16:=by rw [hz.1];rfl
   rw [hzn] at hnl hl hcut';obtain ⟨wb,hwb⟩:∃wb,wb=wr.alloc (.cells #[.string T,.int .i64 e.2] 47):=⟨_,rfl⟩
   have ob:Only (fun _=>False) wr wb:=by rw [hwb];exact (Only.refl _ _).alloc _
   obtain ⟨q0,q1,_,_⟩:=Qar (show wb.heap[wr.heap.size]? = some (.cells #[.string T,.int .i64 e.2] 47 (0,0)) by rw [hwb];exact heap_alloc_new _ _);have SZ:=Qaa (QeQ e.2 wb);rw [hz.1] at SZ;have hzz:=hz.2;have HB:=Qaa hwb;have cub:=cu.keep ob (fun f=>f) (fun _ _ f=>f);have BY:=Qaa (fun (W:World) (oW:Only (fun _=>False) wb W)=>Qgo (cub.keep oW (fun f=>f) (fun _ _ f=>f)) ((z+16:Nat):Int));rw [Qb0 hnl,←hl] at BY
   have e16:((z+16:Nat):Int)=(z:Int)+16:=by omega
   rw [e16] at BY;have D:=Qaa (And.intro (ob.own ow (fun _ _ f=>f)) (And.intro (lo.past ob) (And.intro hv2 (And.intro (o.trans (T:=fun _=>False) ob (fun _ _ f=>f.elim)) cub.cell))));have HX:=Qaa (And.intro hls hcut')
   have i0':(0:Int)≤(k:Int):=by omega
   have i1':(k:Int)<(n:Int):=by omega
   clear hS ow lo cu hv2 hcut o hke hls hnl hl hcut' hkl hge hbk hee hT hz hzn hwb ob cub e16;go_wp2_with fail;rw [←HB.out];refine SZ.out.mono ?_;rintro e1 w1 ⟨rfl,o1⟩;have BY1:=Qaa (BY.out w1 o1);have D1:=Qaa (And.intro (o1.own D.out.1 (fun _ _ f=>f)) (And.intro (D.out.2.1.past o1) (And.intro D.out.2.2.1 (And.intro (D.out.2.2.2.1.trans (T:=fun _=>False) o1 (fun _ _ f=>f.elim)) (o1.heap D.out.2.2.2.2 (fun f=>f))))));clear o1 SZ BY D q0 q1 hc0 hc1;go_wp2_with fail;refine BY1.out.mono ?_;rintro e2 w2 ⟨v1,rfl,own2,v3,cu3,hv3,o2⟩;obtain ⟨a1,c1,rfl⟩:=Qad own2;obtain ⟨m,hm⟩:∃m,m=l.length:=⟨_,rfl⟩;obtain ⟨W3,hW3⟩:∃W,W=w2.alloc (.cells #[.slice a1 m c1] 22):=⟨_,rfl⟩
   have o3:Only (fun _=>False) w2 W3:=by rw [hW3];exact (Only.refl _ _).alloc _
   have hV:VS W3 (.slice (some ⟨w2.heap.size,0,none⟩) 1 1) [.slice a1 m c1]:=VS.of_own (lo:=w2.heap.size) (n:=1) (e:=22) (by rw [hW3];exact Qfu w2 22 [.slice a1 m c1] (Nat.le_refl _) (show 1≤maxLen by unfold maxLen;decide)) (fun y hy=>by simp at hy;subst hy;rfl)
   have hneT:(95:Nat)≠22:=by decide
   have ow3:=o3.own (QhA o2 D1.out.2.2.2.2 hneT D1.out.1) (fun _ _ f=>f);have lo3:=(D1.out.2.1.ne o2 D1.out.2.2.2.2 (by decide)).past o3;have E3:=Qaa (And.intro ow3 (And.intro lo3 (And.intro (cu3.keep o3 (fun f=>f) (fun _ _ f=>f)) (And.intro (hv3.trans D1.out.2.2.1) (And.intro (((D1.out.2.2.2.1).trans o2 (fun _ _ e=>e)).trans (T:=fun _=>False) o3 (fun _ _ f=>f.elim)) (o3.own own2 (fun _ _ f=>f)))))));have HV:=Qaa (And.intro hV (And.intro hW3 hm))
   have bs:Hid (w.heap.size≤W3.heap.size):=by show _≤_;have:=E3.out.2.2.2.2.1.size;omega
   have hkm:k+1≤maxLen:=by unfold maxLen;omega
   rw [←hm];clear own2 cu3 hv3 o2 o3 hV ow3 lo3 BY1 D1 hW3 hm hneT;go_wp2_with (at_builtin;rw [←HV.out.2.1];refine Qbl _ rfl _ _ 43 rfl w.heap.size 22 i0 NIL 24 underlying43 hi hz0 hz1 hz2 rfl _ k vs rfl E3.out.1 _ [.slice a1 m c1] rfl HV.out.1 hkm (by simp only [Yah,List.length_nil];omega) bs.out ?_);intro v' w4 own4 g4
   have F:Hid (∃(vs:List Value) (v2:Value) (rest:List Int),w4.ownsRow w.heap.size 22 1 v' (k+1) vs∧LO w4 vs (ls.take (k+1))∧CurAt 95 w4 R v2 rest∧v2.ownBlock=v.ownBlock∧CUT (es.drop (k+1)) rest=some (ls.drop (k+1),t)∧Only (fun k=>k=R) w w4):=by
    obtain ⟨ow,lo,cu,hv,o,ob⟩:=E3.out;have hg:=(Only.refl (fun q=>u6.ownBlock=some q) W3).grown g4 (fun _ _ e=>e)
    have hRu:¬u6.ownBlock=some R:=fun e=>by have:=(ow.lt R e).1;have:=HE.out.2.2.2.2.1;omega
    have hd:=HX.out.1
    have e1:ls.take (k+1)=ls.take k++[l]:=by
     rw [List.take_add_one]
     congr 1
     have:ls[k]? = some l:=by have:=List.getElem?_drop (xs:=ls) (i:=k) (j:=0);rw [hd] at this;simpa using this.symm
     rw [this];rfl
    have e2:ls.drop (k+1)=ls':=by rw [←List.drop_drop,hd];rfl
    refine ⟨vs++[.slice a1 m c1],v3,_,own4,?_,cu.keep hg hRu (fun q hq e=>?_),hv,by rw [e2];exact HX.out.2,o.grown g4 (fun q hq e=>?_)⟩
    ·rw [e1]
     have:=(LO.one ob).grown ow g4;rw [HV.out.2.2];exact (lo.grown ow g4).app this
    ·rw [hv] at hq
     have:=HE.out.2.2.2.1 q hq;have:=(ow.lt q e).1;omega
    ·have:=(ow.lt q e).1
     omega
   obtain ⟨a4,c4,rfl⟩:=Qad own4;clear own4 g4 E3 HV bs hkm HX;go_wp2
   go_roundw
   case rel=>exact ⟨k+1,by omega,by go_num,F⟩
   case measure=>simp [intOf];omega
  ·obtain rfl:k=n:=by omega
   have dlt:decide ((k:Int)<(k:Int))=false:=Yak (by omega);obtain ⟨vs,v2,rest,ow,lo,cu,hv2,hcut,o⟩:=hS.out;rw [HN.out,List.drop_length] at hcut;have hl:ls.length=k:=HE.out.2.2.2.2.2;rw [←HN.out,←hl,List.drop_length] at hcut;rw [←hl,List.take_length] at lo
   have hr:rest=t:=by simp [CUT] at hcut;exact hcut
   subst hr;have F:=Qaa (And.intro (show ∃vs,LO wr vs ls∧wr.ownsRow w.heap.size 22 1 _ ls.length vs from ⟨vs,lo,by rw [hl];exact ow⟩) (And.intro (show ∃v2,CurAt 95 wr R v2 rest∧v2.ownBlock=v.ownBlock from ⟨v2,cu,hv2⟩) o));clear hS ow lo cu hv2 hcut o;go_wp2;go_ret2;exact ⟨_,rfl,F.out⟩
theorem QpB {m:MAN} (h:MGD m):MDv (MENC m)=m∧MDe (MENC m)=0:=MD_ok (QgY h)
theorem QhB {P:Program} {fn:Func} {a b c:Tmp} {ty:TypeId} (h:fn.results=#[.cell a ty,.tmp b,.tmp c]) (tmps:Array Value) (w:World) {ad:Addr} {v1 v2 v3:Value}
  (h1:tmps.getD a undef=.pointer (some ad)) (h2:tmps.getD b undef=v2) (h3:tmps.getD c undef=v3) (hl:(loadVar ty ad).run P w=.ok v1 w) :
  (results fn tmps).run P w=.ok (.tuple #[v1,v2,v3]) w:=by
 have h1':tmps[a]?.getD undef=.pointer (some ad):=by simpa using h1
 have h2':tmps[b]?.getD undef=v2:=by simpa using h2
 have h3':tmps[c]?.getD undef=v3:=by simpa using h3
 simp [results,h,h1',h2',h3',asAddr,hl]
theorem Bs.recap {k:IntKind} {w:World} {ao:Option Addr} {n c c':Nat} {xs:List Int} (h:Bs k w (.slice ao n c) xs) (hc:n≤c'):Bs k w (.slice ao n c') xs:=by
 obtain ⟨ao',cap',e,h1,h2⟩:=h;simp at e;obtain ⟨rfl,rfl,rfl⟩:=e;exact ⟨_,_,rfl,hc,h2⟩
theorem Mnw.lowS {a b w':World} {x:Value} {m:MAN} {vp ve vr:Value} (h:Mnw b w' x m vp ve vr) (o:a.heap.size≤b.heap.size):Mnw a w' x m vp ve vr :=
 ⟨h.mf,h.np,h.nr,fun k hk=>by have:=h.bp k hk;omega,fun k hk=>by have:=h.be k hk;omega,fun k hk=>by have:=h.br k hk;omega⟩
theorem Mnw.past {a w w':World} {x:Value} {m:MAN} {vp ve vr:Value} (h:Mnw a w x m vp ve vr) (o:Only (fun _=>False) w w'):Mnw a w' x m vp ve vr:=⟨h.mf.past o,h.np,h.nr,h.bp,h.be,h.br⟩
theorem Qrf {R:Nat} {v:Value} {ys sg:List Int} {k:Nat} {m:MAN} (w:World) (hvb:∀b,v.ownBlock=some b→b<w.heap.size) (hC:CurAt 95 w R v ys) (hs:Qam 268435456 ys=(sg,k,0)) (h32:32≤sg.length) (hm:MDEC (sg.take (sg.length - 32))=.ok m) (h8:U8 sg) :
  Calls prog 33 #[.func (.func 34) #[.pointer (some ⟨R,0,none⟩)] #[]] w fun e w'=>∃x vp ve vr u,e=.returned (.tuple #[x,u,.int .i64 0])∧Mnw w w' x m vp ve vr∧Bs .u8 w' u sg∧NoCap u∧(∀q,u.ownBlock=some q→w.heap.size≤q)∧(∃v2,CurAt 95 w' R v2 (ys.drop k)∧v2.ownBlock=v.ownBlock)∧Only (fun k=>k=R) w w':=by
 have hRw:R<w.heap.size:=(Array.getElem?_eq_some_iff.1 hC.cell).1;have hlen:=hC.len;obtain ⟨w0,hw0⟩:∃w0,w0=w.alloc (.cells #[.int .u64 0,.slice none 0 0,.slice none 0 0,.slice none 0 0] 42):=⟨_,rfl⟩
 have o0:Only (fun _=>False) w w0:=by rw [hw0];exact (Only.refl _ _).alloc _
 have g0:Hid (w0.heap[w.heap.size]? = some (.cells #[.int .u64 0,.slice none 0 0,.slice none 0 0,.slice none 0 0] 42 (0,0))):=by show _=_;rw [hw0];exact heap_alloc_new _ _
 have BL:=Qaa (Qgp (hC.keep o0 (fun f=>f) (fun _ _ f=>f)) 268435456 (by omega));rw [hs] at BL
 have hle:sg.length≤268435456:=by
  have:=hs;unfold Qam at this;rw [if_neg (by omega)] at this
  split at this
  ·rename_i q;simp only [Prod.mk.injEq] at this;rw [←this.1];simp
  ·split at this
   ·simp only [Prod.mk.injEq] at this;omega
   ·split at this
    ·simp only [Prod.mk.injEq] at this;omega
    ·simp only [Prod.mk.injEq] at this;rw [←this.1,Yag];omega
 obtain ⟨e1,e2⟩:=MD_ok hm;have DE:=Qaa (fun (W:World) (u:Value) (h:Bs .u8 W u (sg.take (sg.length - 32)))=>Qfc u _ W h (h8.take _) (by rw [Yag];omega));rw [e1,e2] at DE;obtain ⟨q,hq⟩:∃q,q=sg.length:=⟨_,rfl⟩;obtain ⟨p,hp⟩:∃p,p=q - 32:=⟨_,rfl⟩;rw [←hq,←hp] at DE;have HQ:=Qaa (And.intro hq (show p≤sg.length by omega))
 have hsub:(q:Int) - 32=(p:Int):=by omega
 have dn:decide ((p:Int)<0)=false:=Yak (by omega)
 have j0:(0:Int)≤(p:Int):=by omega
 have j1:(p:Int)≤(q:Int):=by omega
 have hqb:q≤268435456:=by omega
 have HW:=Qaa (And.intro hw0 o0);have HR:=Qaa hRw;have HV:=Qaa hvb;clear hC hvb hs h32 hm h8 hlen hw0 o0 hle e1 e2 hq hp hRw;go_enter func33,ntmps33;go_wp2_with fail;rw [←HW.out.1];refine BL.out.mono ?_;rintro e w1 ⟨v1,rfl,b1,n1,lo1,v2,cu1,hv2,o1⟩;obtain ⟨a1,c1,rfl,hc1⟩:=b1.formN (n:=q) HQ.out.1.symm;have DE1:=Qaa (DE.out w1 (.slice a1 p p) ((b1.head (n:=p) (by omega)).recap (Nat.le_refl _)));have H1:=Qaa (And.intro b1 (And.intro n1 (And.intro lo1 (And.intro cu1 (And.intro hv2 o1)))))
 have j2:(p:Int)≤(c1:Int):=by omega
 clear b1 n1 lo1 cu1 hv2 o1 BL DE;go_wp2_with fail;refine DE1.out.mono ?_;rintro e w2 ⟨x,vp,ve,vr,rfl,mn,o2⟩;have hf:=mn.mf.form;obtain ⟨ap,cp,ep⟩:=mn.mf.prev.len;obtain ⟨ae,ce,ee⟩:=mn.mf.es.len;obtain ⟨ar,cr,er⟩:=mn.mf.root.len;subst ep ee er hf;have RN:=HR.out;have gm:=o2.heap (H1.out.2.2.2.2.2.heap g0.out (fun e=>by omega)) (fun f=>f);obtain ⟨W3,hW3⟩:∃W,W=w2.alloc (.cells #[.int .u64 m.ver,.slice ap m.prev.length cp,.slice ae m.es.length ce,.slice ar m.root.length cr] 42):=⟨_,rfl⟩
 have o3:Only (fun _=>False) w2 W3:=by rw [hW3];exact (Only.refl _ _).alloc _
 have gb:=Qaa (show W3.heap[w2.heap.size]? = some (.cells #[.int .u64 m.ver,.slice ap m.prev.length cp,.slice ae m.es.length ce,.slice ar m.root.length cr] 42 (0,0)) by rw [hW3];exact heap_alloc_new _ _);have hld:=QaA gb.out;obtain ⟨⟨y0,y1,y2,y3⟩,_⟩:=QaQ gb.out;have g3:=o3.heap gm (fun f=>f);obtain ⟨⟨z0,z1,z2,z3⟩,f0,f1,f2,f3⟩:=QaQ g3;have P4:=put4 g3 (.int .u64 m.ver) (.slice ap m.prev.length cp) (.slice ae m.es.length ce) (.slice ar m.root.length cr);have hs1:=H1.out.2.2.2.2.2.size
 have hs0:w0.heap.size=w.heap.size+1:=by rw [HW.out.1];simp
 have oT:Only (fun k=>k=R) w W3:=((HW.out.2.mono (T:=fun k=>k=R) (fun _ _ f=>f.elim)).trans H1.out.2.2.2.2.2 (fun _ _ e=>e)).trans (o2.same o3) (fun _ _ f=>f.elim);have mnX:=((mn.past o3).keep (B:=w.heap.size) P4.2 (by omega)).lowS (a:=w) (by omega);have F:=Qaa (And.intro (QaA P4.1) (And.intro mnX (And.intro ((H1.out.1.past (o2.same o3)).keep P4.2 (fun b hb e=>by have:=H1.out.2.2.1 b hb;omega)) (And.intro H1.out.2.1 (And.intro (show ∀b,(Value.slice a1 q c1).ownBlock=some b→w.heap.size≤b from fun b hb=>by have:=H1.out.2.2.1 b hb;omega) (And.intro (show ∃v2',CurAt 95 _ R v2' (ys.drop k)∧v2'.ownBlock=v.ownBlock from ⟨v2,(H1.out.2.2.2.1.keep (o2.same o3) (fun f=>f) (fun _ _ f=>f)).keep P4.2 (by omega) (fun b hb e=>by have:=HV.out b (by rw [←H1.out.2.2.2.2.1];exact hb);omega),H1.out.2.2.2.2.1⟩) (oT.trans P4.2 (fun i hi e=>by omega))))))));clear mn o2 gm o3 g3 P4 hs1 hs0 oT mnX H1 DE1 RN;subst hW3;go_wp2;refine bodyPost_ret (QhB rfl _ _ rfl rfl rfl F.out.1) rfl ⟨_,_,_,_,_,rfl,F.out.2.1,F.out.2.2.1,F.out.2.2.2.1,F.out.2.2.2.2.1,F.out.2.2.2.2.2⟩
theorem Qgd {P:Program} {fn:Func} {a b c d:Tmp} {ty:TypeId} (h:fn.results=#[.cell a ty,.tmp b,.tmp c,.tmp d]) (tmps:Array Value) (w:World) {ad:Addr} {v1 v2 v3 v4:Value}
  (h1:tmps.getD a undef=.pointer (some ad)) (h2:tmps.getD b undef=v2) (h3:tmps.getD c undef=v3) (h4:tmps.getD d undef=v4) (hl:(loadVar ty ad).run P w=.ok v1 w) :
  (results fn tmps).run P w=.ok (.tuple #[v1,v2,v3,v4]) w:=by
 have h1':tmps[a]?.getD undef=.pointer (some ad):=by simpa using h1
 have h2':tmps[b]?.getD undef=v2:=by simpa using h2
 have h3':tmps[c]?.getD undef=v3:=by simpa using h3
 have h4':tmps[d]?.getD undef=v4:=by simpa using h4
 simp [results,h,h1',h2',h3',h4',asAddr,hl]
theorem Qqy {b sg:List Int} {m:MAN} {ls:List (List Int)} (h:SPX b=.ok (m,sg,ls)) :
  ∃k,Qam 268435456 b=(sg,k,0)∧32≤sg.length∧MDEC (sg.take (sg.length - 32))=.ok m∧CUT m.es (b.drop k)=some (ls,[]):=by
 obtain ⟨sg',k,c,hs⟩:∃x k c,Qam 268435456 b=(x,k,c):=⟨_,_,_,rfl⟩;unfold SPX at h;rw [hs] at h ⊢;simp only at h
 by_cases h1:c=0
 ·rw [if_neg (by simpa using h1)] at h
  by_cases h2:sg'.length<32
  ·rw [if_pos h2] at h;cases h
  ·rw [if_neg h2] at h
   cases h3:MDEC (sg'.take (sg'.length - 32)) with
   | error e=>rw [h3] at h;cases h
   | ok m' =>
    rw [h3] at h;simp only at h
    cases h4:CUT m'.es (b.drop k) with
    | none=>rw [h4] at h;cases h
    | some x =>
     rw [h4] at h;simp only at h
     by_cases h5:x.2=[]
     ·rw [if_pos h5] at h
      simp only [Except.ok.injEq,Prod.mk.injEq] at h;obtain ⟨rfl,rfl,rfl⟩:=h;exact ⟨k,by rw [h1],by omega,h3,by rw [←h5,h4]⟩
     ·rw [if_neg h5] at h;cases h
 ·rw [if_pos h1] at h;cases h
theorem Qge {n:Int} {b sg:List Int} {k:Nat} {c:Int} (h8:U8 b) (h:Qam n b=(sg,k,c)):U8 sg:=by
 have nl:U8 []:=fun y hy=>by cases hy
 unfold Qam at h
 split at h
 ·simp only [Prod.mk.injEq] at h;rw [←h.1];exact nl
 ·split at h
  ·simp only [Prod.mk.injEq] at h;rw [←h.1];exact nl
  ·split at h
   ·simp only [Prod.mk.injEq] at h;rw [←h.1];exact nl
   ·split at h
    ·simp only [Prod.mk.injEq] at h;rw [←h.1];exact nl
    ·simp only [Prod.mk.injEq] at h;rw [←h.1];exact (h8.drop _).take _
structure SPW (w w':World) (x vp ve vr u a:Value) (m:MAN) (sg:List Int) (ls:List (List Int)):Prop where
 mn:Mnw w w' x m vp ve vr
 sg:Bs .u8 w' u sg
 nu:NoCap u
 ls:∃vs,LO w' vs ls∧w'.ownsRow w.heap.size 22 1 a ls.length vs
 o:Only (fun _=>False) w w'
theorem Qft (vb:Value) (b:List Int) (w:World) (hb:Bs .u8 w vb b) (h8:U8 b) (hl:b.length≤1000000000000) {m:MAN} {sg:List Int} {ls:List (List Int)} (hx:SPX b=.ok (m,sg,ls)) :
  Calls prog 14 #[vb] w fun e w'=>∃x vp ve vr u a,e=.returned (.tuple #[x,u,a,.int .i64 0])∧SPW w w' x vp ve vr u a m sg ls:=by
 obtain ⟨k,hs,h32,hm,hcut⟩:=Qqy hx;have hsg:=Qge h8 hs;have hG:=(QgZ (hsg.take _) hm).1;obtain ⟨w0,hw0⟩:∃w0,w0=w.alloc (.cells #[.int .u64 0,.slice none 0 0,.slice none 0 0,.slice none 0 0] 42):=⟨_,rfl⟩
 have o0:Only (fun _=>False) w w0:=by rw [hw0];exact (Only.refl _ _).alloc _
 have g0:Hid (w0.heap[w.heap.size]? = some (.cells #[.int .u64 0,.slice none 0 0,.slice none 0 0,.slice none 0 0] 42 (0,0))):=by show _=_;rw [hw0];exact heap_alloc_new _ _
 have NW:=Qaa (QqC vb b w0 (hb.past o0) h8 hl);have HW:=Qaa (And.intro hw0 (And.intro o0 (show w0.heap.size=w.heap.size+1 by rw [hw0];simp)));have HX:=Qaa (And.intro hs (And.intro h32 (And.intro hm (And.intro hcut (And.intro hsg hG)))));clear hb h8 hl hx hs h32 hm hcut hsg hG hw0 o0;go_enter func14,ntmps14;go_wp2_with fail;rw [←HW.out.1];refine NW.out.mono ?_;rintro e w1 ⟨R,v',rfl,cu,o1,r0,r1,hv⟩;have CM:=Qaa (Qrf w1 (fun q hq=>(hv q hq).2) cu HX.out.1 HX.out.2.1 HX.out.2.2.1 HX.out.2.2.2.2.1);have H1:=Qaa (And.intro o1 (And.intro r0 (And.intro r1 hv)));clear cu o1 r0 r1 hv NW;go_wp2_with fail;refine CM.out.mono ?_;rintro e w2 ⟨x,vp,ve,vr,u,rfl,mn,bu,nu,lu,⟨v2,cu,hv2⟩,o2⟩;have hf:=mn.mf.form;obtain ⟨ap,cp,ep⟩:=mn.mf.prev.len;obtain ⟨ae,ce,ee⟩:=mn.mf.es.len;obtain ⟨ar,cr,er⟩:=mn.mf.root.len;obtain ⟨au,cau,eu⟩:=bu.len;subst ep ee er hf eu;obtain ⟨W3,hW3⟩:∃W,W=w2.alloc (.cells #[.int .u64 m.ver,.slice ap m.prev.length cp,.slice ae m.es.length ce,.slice ar m.root.length cr] 42):=⟨_,rfl⟩
 have o3:Only (fun _=>False) w2 W3:=by rw [hW3];exact (Only.refl _ _).alloc _
 have gb:=show W3.heap[w2.heap.size]? = some (.cells #[.int .u64 m.ver,.slice ap m.prev.length cp,.slice ae m.es.length ce,.slice ar m.root.length cr] 42 (0,0)) by rw [hW3];exact heap_alloc_new _ _
 obtain ⟨⟨y0,y1,y2,y3⟩,_⟩:=QaQ gb;have CC:=Qaa (Qgc (t:=[]) m.es ls (.slice ae m.es.length ce) W3 (cu.keep o3 (fun f=>f) (fun _ _ f=>f)) (fun q hq=>by rw [hv2] at hq;have:=(H1.out.2.2.2 q hq).2;have:=o2.size;have:=o3.size;omega) (mn.mf.es.past o3) (fun q hq e=>by have:=mn.be q hq;have:=H1.out.2.2.1;omega) HX.out.2.2.2.1 (fun e he=>(HX.out.2.2.2.2.2.2.2.2.2 e he).2) HX.out.2.2.2.2.2.2.2.2.1);have gz:=o3.heap (o2.heap (H1.out.1.heap g0.out (fun f=>f)) (fun e=>by have:=H1.out.2.1;have:=HW.out.2.2;omega)) (fun f=>f);have H3:=Qaa (And.intro (mn.past o3) (And.intro (bu.past o3) (And.intro nu (And.intro lu (And.intro (o2.trans (T:=fun _=>False) o3 (fun _ _ f=>f.elim)) (And.intro gb (And.intro gz (show R<w2.heap.size by have:=H1.out.2.2.1;have:=o2.size;omega))))))));clear mn bu nu lu cu hv2 o2 o3 gb gz CM;subst hW3;go_wp2_with fail;refine CC.out.mono ?_;rintro e w4 ⟨a,rfl,hls,⟨v3,cu3,hv3⟩,o4⟩;have EN:=Qaa (Qrk cu3);rw [show endV []=0 from rfl] at EN;obtain ⟨vs,lo,own⟩:=hls;obtain ⟨a4,c4,ea4⟩:=Qad own;subst ea4;have gb4:=o4.heap H3.out.2.2.2.2.2.1 (fun e=>by have:=H3.out.2.2.2.2.2.2.2;omega);have hld:=QaA gb4;obtain ⟨⟨x0,x1,x2,x3⟩,_⟩:=QaQ gb4;have gz4:=o4.heap H3.out.2.2.2.2.2.2.1 (fun e=>by have:=H1.out.2.1;have:=HW.out.2.2;omega);obtain ⟨⟨z0,z1,z2,z3⟩,f0,f1,f2,f3⟩:=QaQ gz4;have P4:=put4 gz4 (.int .u64 m.ver) (.slice ap m.prev.length cp) (.slice ae m.es.length ce) (.slice ar m.root.length cr)
 have F:=Qaa (And.intro (QaA P4.1) (show SPW w _ (.agg #[.int .u64 m.ver,.slice ap m.prev.length cp,.slice ae m.es.length ce,.slice ar m.root.length cr]) (.slice ap m.prev.length cp) (.slice ae m.es.length ce) (.slice ar m.root.length cr) (.slice au sg.length cau) (.slice a4 ls.length c4) m sg ls from by
  have q1:=H1.out.2.1;have q2:=HW.out.2.2;have q3:=H1.out.1.size;have q4:=H3.out.2.2.2.2.1.size;refine ⟨((H3.out.1.keep o4 H1.out.2.2.1).keep P4.2 (by omega)).lowS (by omega),(H3.out.2.1.keep o4 (fun q hq e=>?_)).keep P4.2 (fun q hq e=>?_),H3.out.2.2.1,⟨vs,lo.ne P4.2 gz4 (by decide),Qaf (QhA P4.2 gz4 (by decide) own) (by omega)⟩,?_⟩
  ·have:=H3.out.2.2.2.1 q hq;have:=H1.out.2.2.1;omega
  ·have:=H3.out.2.2.2.1 q hq;omega
  ·exact ((HW.out.2.1.trans H1.out.1 (fun _ _ f=>f.elim)).trans (H3.out.2.2.2.2.1.trans o4 (fun _ _ e=>e)) (fun i hi e=>by omega)).trans P4.2 (fun i hi e=>by omega)))
 clear lo own gb4 gz4 P4 o4 CC H3 H1 y0 y1 y2 y3;go_wp2_with fail;refine EN.out.mono ?_;rintro e w5 ⟨rfl,rfl⟩;clear EN cu3;go_wp2;exact bodyPost_ret (Qgd rfl _ _ rfl rfl rfl rfl F.out.1) rfl ⟨_,_,_,_,_,_,rfl,F.out.2⟩
def TRe (k:List Int) (s:STT) (m:MAN) (sg:List Int):Int :=
 if MCe k sg=0 then (if s.2.length=0 then 0 else if m.ver<s.1 then 6 else if m.ver=s.1∧m.root≠s.2 then 7 else 0) else 5
theorem Qgf (vk vt x vp ve vr vs:Value) (k r sg:List Int) (p:Nat) (m:MAN) (w:World) (bk:Bs .u8 w vk k) (k8:U8 k) (bt:Bs .u8 w vt r) (r8:U8 r) (hm:Mf w x m vp ve vr) (m8:U8 m.root) (bs:Bs .u8 w vs sg) (s8:U8 sg) (hl:sg.length≤10000000000) :
  Calls prog 27 #[vk,.agg #[.int .u64 p,vt],x,vs] w fun e w'=>e=.returned (.int .i64 (TRe k (p,r) m sg))∧Only (fun _=>False) w w':=by
 have hf:=hm.form;obtain ⟨ap,cp,ep⟩:=hm.prev.len;obtain ⟨ae,ce,ee⟩:=hm.es.len;obtain ⟨ar,cr,er⟩:=hm.root.len;obtain ⟨at',ct,et⟩:=bt.len;subst ep ee er hf et;obtain ⟨w0,hw0⟩:∃w0,w0=(w.alloc (.cells #[.int .u64 p,.slice at' r.length ct] 25)).alloc (.cells #[.int .u64 m.ver,.slice ap m.prev.length cp,.slice ae m.es.length ce,.slice ar m.root.length cr] 42):=⟨_,rfl⟩
 have o0:Only (fun _=>False) w w0:=by rw [hw0];exact ((Only.refl _ _).alloc _).alloc _
 have gP:w0.heap[w.heap.size]? = some (.cells #[.int .u64 p,.slice at' r.length ct] 25 (0,0)):=by rw [hw0];exact Qaq (heap_alloc_new _ _)
 have gM:w0.heap[w.heap.size+1]? = some (.cells #[.int .u64 m.ver,.slice ap m.prev.length cp,.slice ae m.es.length ce,.slice ar m.root.length cr] 42 (0,0)):=by rw [hw0];exact Qas (by simp)
 have CK:=Qaa (Qmq vk vs k sg w0 (bk.past o0) k8 (bs.past o0) s8 hl);have TS:=Qaa (fun W=>Qcv (.int .u64 p) at' r.length ct W);have EQ:=Qaa (fun (W:World) (o:Only (fun _=>False) w W)=>Qi7 (.slice ar m.root.length cr) (.slice at' r.length ct) m.root r W (hm.root.past o) (bt.past o) m8 r8);have HW:=Qaa (And.intro hw0 (And.intro o0 (And.intro gP gM)));obtain ⟨e,he⟩:∃e,e=MCe k sg:=⟨_,rfl⟩
 have hT:TRe k (p,r) m sg=if e=0 then (if r.length=0 then 0 else if m.ver<p then 6 else if m.ver=p∧m.root≠r then 7 else 0) else 5:=by rw [he];rfl
 rw [hT];rw [←he] at CK;obtain ⟨n,hn⟩:∃n,n=r.length:=⟨_,rfl⟩;obtain ⟨q,hq⟩:∃q,q=m.root.length:=⟨_,rfl⟩;rw [←hn] at HW TS EQ ⊢;rw [←hq] at HW EQ ⊢;clear bk k8 bt r8 hm m8 bs s8 hl hw0 o0 gP gM he hT hn hq
 by_cases h1:e=0
 ·subst h1
  rw [if_pos rfl]
  by_cases h2:n=0
  ·subst h2
   rw [if_pos rfl];simp only [show decide (0<0)=false from rfl] at TS;go_enter func27,ntmps27;go_wp2_with fail;rw [←HW.out.1];refine CK.out.mono ?_;rintro e w1 ⟨x1,vp1,ve1,vr1,rfl,mn,o1⟩;have hf:=mn.mf.form;obtain ⟨ap1,cp1,ep⟩:=mn.mf.prev.len;obtain ⟨ae1,ce1,ee⟩:=mn.mf.es.len;obtain ⟨ar1,cr1,er⟩:=mn.mf.root.len;subst ep ee er hf;obtain ⟨W2,hW2⟩:∃W,W=w1.alloc (.cells #[.int .u64 (MCv k sg).ver,.slice ap1 (MCv k sg).prev.length cp1,.slice ae1 (MCv k sg).es.length ce1,.slice ar1 (MCv k sg).root.length cr1] 42):=⟨_,rfl⟩
   have o2:Only (fun _=>False) w0 W2:=by rw [hW2];exact o1.alloc _
   obtain ⟨c0,c1,_,_⟩:=Qar (o2.heap HW.out.2.2.1 (fun f=>f));have TS1:=Qaa (TS.out W2);have O2:=Qaa (HW.out.2.1.same o2);clear mn o1 o2 TS CK EQ;subst hW2;go_wp2_with fail;refine TS1.out.mono ?_;rintro e w3 ⟨rfl,o3⟩;have F:=Qaa (O2.out.same o3);clear TS1 o3 O2;go_wp2;go_ret;exact ⟨rfl,F.out⟩
  ·rw [if_neg h2]
   simp only [Yaj (by omega:0<n)] at TS;obtain ⟨t,ht⟩:∃t,t=decide (m.root=r):=⟨_,rfl⟩;simp only [←ht] at EQ;have d1:decide ((m.ver:Int)<(p:Int))=decide (m.ver<p):=decide_eq_decide.2 (by omega)
   have d2:((m.ver:Int) == (p:Int))=decide (m.ver=p):=by
    by_cases h:m.ver=p
    ·rw [Yaj h,h];simp
    ·rw [Yak h,beq_eq_false_iff_ne];omega
   obtain ⟨a,ha⟩:∃a,a=decide (m.ver<p):=⟨_,rfl⟩;obtain ⟨b,hb⟩:∃b,b=decide (m.ver=p):=⟨_,rfl⟩
   have hR:(if m.ver<p then (6:Int) else if m.ver=p∧m.root≠r then 7 else 0)=if a=true then 6 else if b=true∧t=false then 7 else 0:=by rw [ha,hb,ht];simp
   rw [hR]
   have hab:¬(a=true∧b=true):=by rw [ha,hb];simp;omega
   have ha':=ha.symm;rw [←ha] at d1;rw [←hb] at d2;clear ha hb ht hR h2
   have W1:Hid (∀(v:Int),(if a=true then 6 else if b=true∧t=false then 7 else 0)=v→Calls prog 27 #[vk,.agg #[.int .u64 p,.slice at' n ct],.agg #[.int .u64 m.ver,.slice ap m.prev.length cp,.slice ae m.es.length ce,.slice ar q cr],vs] w fun e w'=>e=.returned (.int .i64 v)∧Only (fun _=>False) w w'):=by
    intro v hv
    cases ha2:a <;> cases hb2:b <;> cases ht2:t
    all_goals (subst ha2 hb2 ht2)
    all_goals (first|(exact absurd ⟨rfl,rfl⟩ hab) | skip)
    all_goals (simp at hv)
    all_goals (
     subst hv;clear hab;go_enter func27,ntmps27;go_wp2_with fail;rw [←HW.out.1];refine CK.out.mono ?_;rintro e w1 ⟨x1,vp1,ve1,vr1,rfl,mn,o1⟩;have hf:=mn.mf.form;obtain ⟨ap1,cp1,ep⟩:=mn.mf.prev.len;obtain ⟨ae1,ce1,ee⟩:=mn.mf.es.len;obtain ⟨ar1,cr1,er⟩:=mn.mf.root.len;subst ep ee er hf;obtain ⟨W2,hW2⟩:∃W,W=w1.alloc (.cells #[.int .u64 (MCv k sg).ver,.slice ap1 (MCv k sg).prev.length cp1,.slice ae1 (MCv k sg).es.length ce1,.slice ar1 (MCv k sg).root.length cr1] 42):=⟨_,rfl⟩
     have o2:Only (fun _=>False) w0 W2:=by rw [hW2];exact o1.alloc _
     obtain ⟨c0,c1,_,_⟩:=Qar (o2.heap HW.out.2.2.1 (fun f=>f));have TS1:=Qaa (TS.out W2);have O2:=Qaa (And.intro (HW.out.2.1.same o2) o2);clear mn o1 o2 TS CK;subst hW2;go_wp2_with fail;refine TS1.out.mono ?_;rintro e w3 ⟨rfl,o3⟩;clear c0 c1;obtain ⟨c0,c1,_,_⟩:=Qar ((O2.out.2.same o3).heap HW.out.2.2.1 (fun f=>f));obtain ⟨⟨m0,m1,m2,m3⟩,_⟩:=QaQ ((O2.out.2.same o3).heap HW.out.2.2.2 (fun f=>f));have EQ1:=Qaa (EQ.out w3 (O2.out.1.same o3));have F:=Qaa (O2.out.1.same o3);clear TS1 o3 O2 EQ;go_wp2_with (first|(go_at_call 28;refine EQ1.out.mono ?_;rintro e w4 ⟨rfl,rfl⟩))
     all_goals (
      go_ret
      exact ⟨rfl,F.out⟩))
   exact W1.out _ rfl
 ·rw [if_neg h1]
  have hne:(e != 0)=true:=by simpa using h1
  clear h1 TS EQ;go_enter func27,ntmps27;go_wp2_with fail;rw [←HW.out.1];refine CK.out.mono ?_;rintro e w1 ⟨x1,vp1,ve1,vr1,rfl,mn,o1⟩;have hf:=mn.mf.form;obtain ⟨ap1,cp1,ep⟩:=mn.mf.prev.len;obtain ⟨ae1,ce1,ee⟩:=mn.mf.es.len;obtain ⟨ar1,cr1,er⟩:=mn.mf.root.len;subst ep ee er hf;have F:=Qaa (HW.out.2.1.same (o1.alloc (.cells #[.int .u64 (MCv k sg).ver,.slice ap1 (MCv k sg).prev.length cp1,.slice ae1 (MCv k sg).es.length ce1,.slice ar1 (MCv k sg).root.length cr1] 42)));clear mn o1 CK;go_wp2;go_ret;exact ⟨rfl,F.out⟩
theorem Qtu (m:List Int) (p:Nat) (r:List Int) (v n:Nat):(if m.length=32∧(r.length=0∨r.length=32)∧v≠18446744073709551615 then (if 0<r.length∧v≤p then (6:Int) else if 1048576<n then 4 else 0) else 1)=MBe m (p,r) v n:=rfl
structure BU (w w':World) (u ru:Value) (t r:List Int):Prop where
 t:w'.ownsRow w.heap.size 5 1 u t.length (bl t)
 r:Bs .u8 w' ru r
 nr:NoCap ru
 lo:∀k,ru.ownBlock=some k→w.heap.size≤k
 o:Only (fun _=>False) w w'
theorem ED.all {w:World} {N n:Nat} {es:Nat→List Int × Int} (h:ED w N n n es):Ens w (.slice (some ⟨N,0,none⟩) n n) ((List.range n).map es):=by
 unfold ED at h;rw [Nat.sub_self,List.replicate_zero,List.append_nil] at h;exact Ens.of_own (lo:=N) (E:=47) (by simpa using h)
theorem BU.no {w w':World} (o:Only (fun _=>False) w w'):BU w w' NIL NIL [] []:=⟨World.ownsRow_nil _ _ _ _,Bs.nil _ _,NoCap.nil,(fun k hk=>by cases hk),o⟩
theorem Qgb (vm vr vl:Value) (m r:List Int) (p v:Nat) (l:List CHK) (w:World) (bm:Bs .u8 w vm m) (m8:U8 m) (br:Bs .u8 w vr r) (nr:NoCap vr) (r8:U8 r) (hc:Chs w vl l) (hg:CL l) (hl:l.length≤100) (hv:v<18446744073709551616) (hT:Tab w) :
  Calls prog 9 #[vm,.agg #[.int .u64 p,vr],.int .u64 v,vl] w fun e w'=>∃u ru,e=.returned (.tuple #[u,.agg #[.int .u64 (ARr m (p,r) v l).1,ru],.int .i64 (ARe m (p,r) v l)])∧BU w w' u ru (ARt m (p,r) v l) (ARr m (p,r) v l).2:=by
 obtain ⟨ar,cr,rfl⟩:=br.len;obtain ⟨am,cm,rfl⟩:=bm.len;obtain ⟨al,cl,rfl,_⟩:=hc.len;obtain ⟨w0,hw0⟩:∃w0,w0=(w.alloc (.cells #[.int .u64 p,.slice ar r.length cr] 25)).alloc (.cells #[.int .u64 0,.slice none 0 0] 25):=⟨_,rfl⟩
 have o0:Only (fun _=>False) w w0:=by rw [hw0];exact ((Only.refl _ _).alloc _).alloc _
 have gP:Hid (w0.heap[w.heap.size]? = some (.cells #[.int .u64 p,.slice ar r.length cr] 25 (0,0))):=by
  show _=_
  rw [hw0];exact Qaq (heap_alloc_new _ _)
 have gR:Hid (w0.heap[w.heap.size+1]? = some (.cells #[.int .u64 0,.slice none 0 0] 25 (0,0))):=by
  show _=_
  rw [hw0];exact Qas (by simp)
 obtain ⟨p0,p1,_,_⟩:=Qar gP.out;have MA:=Qaa (Qra am m.length cm p ar r.length cr v l.length w0);rw [Qtu] at MA;have HB:=Qaa (And.intro (bm.past o0) (And.intro (br.past o0) (And.intro (hc.past o0) (hT.past o0))));have HI:=Qaa (And.intro m8 (And.intro nr (And.intro r8 (And.intro hg (And.intro hl hv)))));have HW:=Qaa hw0;have O0:=Qaa o0
 have hsz0:Hid (w0.heap.size=w.heap.size+2):=by show _=_;rw [hw0];simp
 have R0:Hid (w.heap.size≤w.heap.size+1):=by show _≤_;omega
 obtain ⟨L,hL⟩:∃L,L=l.length:=⟨_,rfl⟩;obtain ⟨M,hM⟩:∃M,M=m.length:=⟨_,rfl⟩;obtain ⟨rl,hrl⟩:∃n,n=r.length:=⟨_,rfl⟩;rw [←hL,←hM,←hrl] at MA HB;rw [←hrl] at gP HW p1 HI;rw [←hL,←hM,←hrl];have HL:=Qaa (And.intro hL (And.intro hM hrl));clear hw0 o0 bm m8 br nr r8 hc hg hl hv hT hL hM hrl
 by_cases h1:MBe m (p,r) v L=0
 ·rw [h1] at MA
  have SA:=Qaa (fun (W:World) (o:Only (fun _=>False) w0 W)=>Qhy (.slice am M cm) (.slice al L cl) m v l W (HB.out.1.past o) HI.out.1 (HB.out.2.2.1.past o) HI.out.2.2.2.1 (by have:=HI.out.2.2.2.2.1;omega) (HB.out.2.2.2.past o))
  have eE:ARe m (p,r) v l=SAe m 0 l:=by unfold ARe;rw [←HL.out.1,if_pos h1]
  obtain ⟨q1,q2,q3,q4,q5⟩:=QiH h1
  by_cases h2:SAe m 0 l=0
  ·have eA:ARe m (p,r) v l=0:=by rw [eE,h2]
   have eT:ARt m (p,r) v l=blk (ARg m (p,r) v l)++(SAt m v l l.length).flatten:=by unfold ARt;rw [if_pos eA]
   have eR:ARr m (p,r) v l=(v,RTF (SAt m v l l.length)):=by unfold ARr;rw [if_pos eA]
   have hcg:∀c∈l,CG c:=fun c hc=>(HI.out.2.2.2.1 c hc).1
   have hMG:MGD (ARm m r v l):=Qc2 (s:=(p,r)) HI.out.2.2.2.2.2 HI.out.2.2.1 hcg eA;have hMO:Mok (ARm m r v l):=Qts (s:=(p,r)) HI.out.2.2.2.2.2 HI.out.2.2.1 hcg
   have hes:(ARm m r v l).es.length≤100:=by show (SAn m l l.length).length≤100;rw [Qd7];exact HI.out.2.2.2.2.1
   have eS0:MSe m (ARm m r v l)=0:=by unfold MSe;rw [if_pos q1];exact (QmH hMO).2 hMG
   have eS:MSt m (ARm m r v l)=ARg m (p,r) v l:=by unfold MSt;rw [if_pos eS0];rfl
   have hgl:(ARg m (p,r) v l).length≤10032:=by have:=Qe3 hMG hes;unfold ARg;rw [Yae,QaN];show (MENC (ARm m r v l)).length+32≤_;omega
   have RT:=Qaa (fun (W:World) (x:Value) (h:RL W x (SAt m v l l.length))=>Qe2 x (SAt m v l l.length) W h (Qk5 hcg _) (by rw [Qd6];have:=HI.out.2.2.2.2.1;omega));have PV:=Qaa (fun (W:World) (o:Only (fun _=>False) w0 W)=>Qn3 (.int .u64 p) (.slice ar rl cr) r W (HB.out.2.1.past o) HI.out.2.1);have SG:=Qaa (fun (W:World) (o:Only (fun _=>False) w0 W) (x vp ve vr:Value) (h:Mf W x (ARm m r v l) vp ve vr) (np:NoCap vp) (nr:NoCap vr)=>Qpa (.slice am M cm) x vp ve vr m (ARm m r v l) W (HB.out.1.past o) HI.out.1 h hMO np nr (by omega));simp only [eS0,eS] at SG;have BK:=Qaa (fun (W:World) (x:Value) (h:Bs .u8 W x (ARg m (p,r) v l)) (n:NoCap x)=>QcW x (ARg m (p,r) v l) W h n (by omega));have HG:Hid ((ARg m (p,r) v l).length≤10032∧(blk (ARg m (p,r) v l)).length≤20000∧0<(blk (ARg m (p,r) v l)).length):=⟨hgl,by have:=QbL (ARg m (p,r) v l) (by omega);omega,by unfold blk;rw [Yae];have:=Qfo (ARg m (p,r) v l).length;omega⟩;rw [eA,eT,eR];rw [h2] at SA;have HS2:=Qaa h2;have HQ2:=Qaa q2;have eRT:(ARm m r v l).root=RTF (SAt m v l l.length):=rfl;have eVR:(ARm m r v l).ver=v:=rfl;clear h1 h2 eE eA eT eR hMG hMO hes eS0 eS hgl q1 q2 q3 q4 q5 hcg;go_enter func9,ntmps9;go_wp2_with fail;rw [←HW.out];refine MA.out.mono ?_;rintro e w1 ⟨rfl,o1⟩;have S1:=Qaa (SA.out w1 o1);have O1:=Qaa o1;clear MA SA o1 p0 p1;go_wp2_with fail;refine S1.out.mono ?_;rintro e w2 ⟨a,b,rfl,sa,_,o2⟩;obtain ⟨N1,N2,rfl,rfl,n1,n2,ld,ed⟩:=sa HS2.out;rw [←HL.out.1] at ld ed;have O2:=Qaa (O1.out.same o2);have D9S:Hid (w0.heap.size≤w2.heap.size):=O2.out.size;have RT2:=Qaa (RT.out w2 (.slice (some ⟨N1,0,none⟩) L L) (by have:=ld.all;rw [HL.out.1] at this ⊢;exact this));have D2:=Qaa (And.intro ld (And.intro ed (And.intro (show w.heap.size+2≤N1 by have:=O1.out.size;have:=hsz0.out;omega) (show w.heap.size≤N2 by have:=O0.out.size;have:=O1.out.size;omega))));rw [←HL.out.1];clear sa o2 S1 ld ed n1 n2 RT O1 HS2;go_wp2_with fail;refine RT2.out.mono ?_;rintro e w3 ⟨ro,rfl,own3,o3⟩;have O3:=Qaa (O2.out.same o3);obtain ⟨p0,p1,_,_⟩:=Qar (O3.out.heap gP.out (fun f=>f));have PV3:=Qaa (PV.out w3 O3.out);have D3:=Qaa (And.intro (D2.out.1.past o3) (And.intro (D2.out.2.1.past o3) (And.intro D2.out.2.2.1 (And.intro D2.out.2.2.2 own3))));obtain ⟨a3,c3,rfl⟩:=Qad own3;clear own3 o3 RT2 O2 D2 PV;go_wp2_with fail;refine PV3.out.mono ?_;rintro e w4 ⟨pv,rfl,bp,np,o4⟩;obtain ⟨a4,c4,rfl,_⟩:=bp.formN (n:=32) (Qhw (by have:=HQ2.out;exact this));obtain ⟨W5,hW5⟩:∃W,W=w4.alloc (.cells #[.int .u64 v,.slice a4 32 c4,.slice (some ⟨N2,0,none⟩) L L,.slice a3 32 c3] 42):=⟨_,rfl⟩
   have o5:Only (fun _=>False) w4 W5:=by rw [hW5];exact (Only.refl _ _).alloc _
   have g5:W5.heap[w4.heap.size]? = some (.cells #[.int .u64 v,.slice a4 32 c4,.slice (some ⟨N2,0,none⟩) L L,.slice a3 32 c3] 42 (0,0)):=by rw [hW5];exact heap_alloc_new _ _
   have hld:=QaA g5;obtain ⟨⟨y0,y1,y2,y3⟩,_⟩:=QaQ g5;have o35:=o4.same o5;have O5:=Qaa (O3.out.same o35)
   have SG5:=Qaa (SG.out W5 O5.out _ (.slice a4 32 c4) (.slice (some ⟨N2,0,none⟩) L L) (.slice a3 32 c3)
    ⟨rfl,bp.past o5,by
     have h:=D3.out.2.1.past o35;rw [HL.out.1] at h ⊢
     exact h.all,by
     have h:=o35.own D3.out.2.2.2.2 (fun _ _ f=>f)
     exact Bs.of_own (k:=.u8) (E:=5) (lo:=w2.heap.size) (by rw [eRT,Qbd];exact h)⟩ np (NoCap.of_own D3.out.2.2.2.2))
   have D5:=Qaa (And.intro (D3.out.1.past o35) (And.intro D3.out.2.2.1 (o35.own D3.out.2.2.2.2 (fun _ _ f=>f))));have H5:=Qaa (And.intro hW5 D3.out.2.2.2.2);clear bp np o4 o5 o35 g5 PV3 D3 O3 SG p0 p1 hW5;go_wp2_with fail;rw [←H5.out.1];refine SG5.out.mono ?_;rintro e w6 ⟨sg,rfl,own6,o6⟩;have O6:=Qaa (O5.out.same o6);have BK6:=Qaa (BK.out w6 sg (Bs.of_own own6) (NoCap.of_own own6));have D6:=Qaa (And.intro (D5.out.1.past o6) (And.intro D5.out.2.1 (o6.own D5.out.2.2 (fun _ _ f=>f))));clear own6 o6 SG5 O5 D5 BK hld y0 y1 y2 y3;go_wp2_with fail;refine BK6.out.mono ?_;rintro e w7 ⟨x7,rfl,own7,o7⟩;obtain ⟨a7,c7,rfl⟩:=Qad own7;obtain ⟨bl7,hbl7⟩:∃n,n=(blk (ARg m (p,r) v l)).length:=⟨_,rfl⟩;obtain ⟨W8,hW8⟩:∃W,W=w7.alloc (.cells #[.slice a7 bl7 c7] 22):=⟨_,rfl⟩
   have o8:Only (fun _=>False) w7 W8:=by rw [hW8];exact (Only.refl _ _).alloc _
   have c8:W8.cell? ⟨w7.heap.size,0,none⟩=some (.slice a7 bl7 c7):=(Qbp (T:=22) (by rw [hW8];exact heap_alloc_new _ _)).1;have o78:=o7.same o8;obtain ⟨vs,lo8,ow8⟩:=(D6.out.1.past o78).ex;rw [Nat.sub_self,List.replicate_zero,List.append_nil] at ow8;have hNb:=Qfs ow8
   obtain ⟨cs8,hN8⟩:∃cs,W8.heap[N1]? = some (.cells cs 22):=by
    rcases ow8.2 with ⟨e,_⟩ | ⟨g,cap,cur,e,_,hg,_⟩
    ·cases e
    ·cases e;exact ⟨_,hg⟩
   have IN:=Qaa (QjY N1 w7.heap.size L N1 (.slice a7 bl7 c7) vs W8 (by have:=HI.out.2.2.2.2.1;have:=HL.out.1;omega) ow8 lo8.one' c8 rfl (by omega));have D8:=Qaa (And.intro lo8 (And.intro hN8 (And.intro D6.out.2.1 (And.intro (o78.own D6.out.2.2 (fun _ _ f=>f)) (And.intro (o8.own own7 (fun _ _ f=>f)) (O6.out.same o78))))));have H8:=Qaa (And.intro hW8 hbl7);rw [←hbl7];clear own7 o7 o8 c8 o78 lo8 ow8 hNb hN8 BK6 D6 O6 hW8 hbl7;go_wp2_with fail;rw [←H8.out.1];refine IN.out.mono ?_;rintro e w9 ⟨B,C,rfl,own9,o9⟩;have O9:=Qaa ((D8.out.2.2.2.2.2).trans o9 (fun i hi e=>by have:=D8.out.2.2.1;have:=hsz0.out;omega));have PC:=Qaa (QjZ (ls:=SAt m v l l.length) own9 (by have:=HI.out.2.2.2.2.1;have:=HL.out.1;omega) ⟨w6.heap.size,Qhz o9 D8.out.2.1 (by rw [H8.out.2];exact D8.out.2.2.2.2.1)⟩ (by have:=D8.out.1.off o9 D8.out.2.1;rw [HL.out.1] at this;exact this) HG.out.2.2 (by have:=HG.out.2.1;omega) Qqx);have D9:=Qaa (Qhz o9 D8.out.2.1 D8.out.2.2.2.1);clear own9 o9 IN D8;go_wp2_with fail;refine PC.out.mono ?_;rintro e w10 ⟨u,rfl,own10,o10⟩;have O10:=Qaa (O9.out.same o10);have g1:=O10.out.heap gR.out (fun f=>f);obtain ⟨q0,q1,z0,z1⟩:=Qar g1;have P2:=put2 g1 (.int .u64 (v:Int)) (.slice a3 32 c3)
   have HR:∀{lo n:Nat} {x:Value} {xs:List Value} {b:Nat},w10.ownsRow lo 5 1 x n xs→∀k,x.ownBlock=some k→¬k=w.heap.size+1:=by
    intro lo n x xs _ h k hk e;subst e
    rcases h.2 with ⟨rfl,_⟩ | ⟨g,cap,cur,rfl,_,hg,_⟩
    ·cases hk
    ·cases hk;rw [g1] at hg;cases hg
   have ow3:=o10.own D9.out (fun _ _ f=>f)
   have F:=Qaa (And.intro (Qcu P2.1) (show BU w ((w10.setCell ⟨w.heap.size+1,0,none⟩ (.int .u64 (v:Int))).setCell ⟨w.heap.size+1,1,none⟩ (.slice a3 32 c3)) u (.slice a3 32 c3) (blk (ARg m (p,r) v l)++(SAt m v l l.length).flatten) (RTF (SAt m v l l.length)) from by
    refine ⟨Qaf (P2.2.own own10 (HR (b:=0) own10)) (by have:=O0.out.size;have:=O9.out.size;omega),?_,NoCap.of_own ow3,fun k hk=>?_,(O0.out.same O10.out).trans P2.2 (fun i hi e=>by omega)⟩
    ·exact Bs.of_own (k:=.u8) (E:=5) (lo:=w2.heap.size) (by rw [Qbd];exact P2.2.own ow3 (HR (b:=0) ow3))
    ·have h1:=(ow3.lt k hk).1
     have:=O0.out.size;have:=D9S.out
     omega))
   clear P2 g1 own10 o10 PC HR ow3;go_wp2;exact bodyPost_ret (Qbi rfl _ _ rfl rfl rfl F.out.1) rfl ⟨_,_,rfl,F.out.2⟩
  ·have eT:ARt m (p,r) v l=[]:=by unfold ARt;rw [eE,if_neg h2]
   have eR:ARr m (p,r) v l=(0,[]):=by unfold ARr;rw [eE,if_neg h2]
   rw [eE,eT,eR]
   have hne:(SAe m 0 l != 0)=true:=by simpa using h2
   clear h1 eE eT eR h2 q1 q2 q3 q4 q5;generalize SAe m 0 l=c at *;go_enter func9,ntmps9;go_wp2_with fail;rw [←HW.out];refine MA.out.mono ?_;rintro e w1 ⟨rfl,o1⟩;have S1:=Qaa (SA.out w1 o1);have O1:=Qaa o1;clear MA SA o1 p0 p1;go_wp2_with fail;refine S1.out.mono ?_;rintro e w2 ⟨a,b,rfl,_,_,o2⟩;have g1:=(O1.out.same o2).heap gR.out (fun f=>f);obtain ⟨q0,q1,z0,z1⟩:=Qar g1;have P2:=put2 g1 (.int .u64 0) (.slice none 0 0);have F:=Qaa (And.intro (Qcu P2.1) ((O0.out.same (O1.out.same o2)).trans P2.2 (fun i hi e=>by omega)));clear P2 g1 S1 o2;go_wp2;refine bodyPost_ret (Qbi rfl _ _ rfl rfl rfl F.out.1) rfl ⟨_,_,rfl,BU.no F.out.2⟩
 ·have eE:ARe m (p,r) v l=MBe m (p,r) v L:=by unfold ARe;rw [←HL.out.1,if_neg h1]
  have eT:ARt m (p,r) v l=[]:=by unfold ARt;rw [eE,if_neg h1]
  have eR:ARr m (p,r) v l=(0,[]):=by unfold ARr;rw [eE,if_neg h1]
  rw [eE,eT,eR]
  have hne:(MBe m (p,r) v L != 0)=true:=by simpa using h1
  clear eE eT eR h1;generalize MBe m (p,r) v L=c at *;go_enter func9,ntmps9;go_wp2_with fail;rw [←HW.out];refine MA.out.mono ?_;rintro e w1 ⟨rfl,o1⟩;have g1:=o1.heap gR.out (fun f=>f);obtain ⟨q0,q1,z0,z1⟩:=Qar g1;have P2:=put2 g1 (.int .u64 0) (.slice none 0 0);have F:=Qaa (And.intro (Qcu P2.1) ((O0.out.same o1).trans P2.2 (fun i hi e=>by omega)));clear P2 g1 MA o1;go_wp2;refine bodyPost_ret (Qbi rfl _ _ rfl rfl rfl F.out.1) rfl ⟨_,_,rfl,BU.no F.out.2⟩
end Go.Proofs.YtnhapmboienipaaGreatDoor
