import Derived.Test.YtiochaeeoelmjaaGreatDoorG24
import Derived.Test.YtiochaeeoelmjaaGreatDoorG14
import Derived.Test.YtiochaeeoelmjaaGreatDoorG11
import Derived.Test.YtiochaeeoelmjaaGreatDoorG18
namespace Go.Proofs.YtiochaeeoelmjaaGreatDoor
set_option maxHeartbeats 4000000
set_option maxRecDepth 100000
open Go.RowKit _root_.Go.Proofs.Tryz
variable {w w' W:World} {v:Value} {ys xs l:LI} {R n p k g B:Nat} {P:Program} {ls:List (LI)} {E:TypeId}
theorem Tryz.one22:(prog.info? 23).map (·.size)=some 1:=by kernel_rfl
theorem jb (w:World) (N n:Nat) (hn:n<=1000000000):∃C wm,n+1<=C∧C<=maxLen∧(Builtin.append_ #[62,3] 62 #[.slice (some ⟨N,0,none⟩) 0 n,.int .i64 ((n+1:Nat):Int)]).run prog w=.ok (.slice (some ⟨w.heap.size,0,none⟩) (n+1) C) wm ∧
 Blk wm w.heap.size 23 (List.replicate C NIL)∧wm.heap.size=w.heap.size+1∧N0 w wm:=by
 obtain⟨i0,hi,hz0,hz1,h0⟩:=info_parts Tryz.infoRows;have hge:=grownCap_ge w (n+1) n 23;have hcm:=grownCap_le_maxLen w (n+1) n 23 (by unfold maxLen;omega);have hr:=Lib.run_append_grow_zeros (P:=prog) w 62 3 62 23 i0 NIL .i64 .i64 underlying62 underlying3 hi hz0 (some ⟨N,0,none⟩) 0 n [] (by have:=run_loadCells_list (P:=prog) w.drew ⟨N,0,none⟩ [] (λj v h=>by simp at h);simpa [Builtin.firstCells,hz1] using this) (n+1) (by omega) (by omega) (by omega) (by omega) (by rw[h0];omega) (by rw[h0,Nat.zero_add];exact growslice_fits (by omega) (by omega));rw[Nat.zero_add] at hr;refine⟨_,_,hge,hcm,hr,?_,by simp,VG.drew.alloc _⟩
 have e:(([]:List Value).toArray++Builtin.zeroCells NIL.cells (n+1)++Builtin.zeroCells NIL.cells (grownCap w (n+1) n 23 - (n+1)))=(List.replicate (grownCap w (n+1) n 23) NIL).toArray:=by
  apply Array.toList_inj.1
  simp only[Array.toList_append,show NIL.cells=#[NIL] from rfl,Xr,List.nil_append,List.replicate_append_replicate];rw[show n+1+(grownCap w (n+1) n 23 - (n+1))=grownCap w (n+1) n 23 by omega]
 rw[e];exact heap_alloc_new _ _
theorem Ae (W:World) (G off L cap:Nat) (src:Addr) (cs Z:List Value) (k m:Nat) (hk:cs.length=k) (hN:Blk W G 23 Z) (hs:∀j v,cs[j]? = some v->W.cell? (src.add j)=some v) (h1:∀v∈cs,v.oneCell'=true) (hl:k<=L) (hf:off+k<=Z.length) :
 ∃w3,(Builtin.copy_ #[62,62] 3 #[.slice (some ⟨G,off,none⟩) L cap,.slice (some src) k m]).run prog W=.ok (.int .i64 (k:Int)) w3∧Blk w3 G 23 (Z.take off++cs++Z.drop (off+k))∧w3.heap.size=W.heap.size∧Only (λk=>k=G) W w3:=by
 subst hk;have h0:=run_copy_row (P:=prog) W 62 62 3 23 G off L cap src cs.length m Z.toArray 23 cs underlying62 Tryz.one22 hN (Nat.min_eq_left hl).symm hs (by simpa using hf) h1;exact⟨_,h0,setRow_heap W G _ _ _ _ hN,by simp[World.setRow],(Only.refl (λk=>k=G) W).setRow (λ_=>rfl) _⟩
theorem uV (N X n lo:Nat) (x:Value) (vs:List Value) (w:World) (hn:n<=1000000) (own:w.ownsRow lo 23 1 (.slice (some ⟨N,0,none⟩) n n) n vs) (v1:∀v∈vs,v.oneCell'=true) (hX:w.cell? ⟨X,0,none⟩=some x) (x1:x.oneCell'=true) (hlo:lo<=w.heap.size) :
 Calls prog 26 #[.slice (some ⟨N,0,none⟩) n n,.int .i64 0,.slice (some ⟨X,0,none⟩) 1 1] w λe w'=>∃B C,e=.returned (.slice (some ⟨B,0,none⟩) (n+1) C)∧w'.ownsRow lo 23 1 (.slice (some ⟨B,0,none⟩) (n+1) C) (n+1) (x :: vs)∧Only (λk=>k=N) w w':=by
 have hl:vs.length=n:=by have:=own.1;omega
 have h4:∀(W:World),W.cell? ⟨X,0,none⟩=some x->∀j v,([x]:List Value)[j]? = some v->W.cell? ((⟨X,0,none⟩:Addr).add j)=some v:=by
  intro W h j v hj
  match j,hj with
  | 0,hj=>simp at hj;subst hj;exact h
 by_cases h0:n=0
 ·subst h0
  have hvs:vs=[]:=List.eq_nil_of_length_eq_zero hl;subst hvs;obtain⟨i0,hi,hz0,hz1,hz2⟩:=info_parts Tryz.infoRows;have OW:=Qa own;have HV:Hid (VS w (.slice (some ⟨X,0,none⟩) 1 1) [x]):=⟨_,1,rfl,NoCap.some _ _ _,λy hy=>by simp at hy;subst hy;exact x1,(λh=>by cases h),(λad e=>by cases e;exact h4 w hX)⟩;clear own h4 hX;go_enter func26,ntmps26;go_wp2_with (at_builtin;refine Rc _ rfl _ _ 62 rfl lo 23 i0 NIL 24 underlying62 hi hz0 hz1 hz2 rfl _ 0 [] rfl OW.o _ [x] rfl HV.o (by unfold maxLen;simp) (by simp) hlo ?_);intro v' w' h2 g'
  obtain⟨B,C,e⟩:∃B C,v'=.slice (some ⟨B,0,none⟩) 1 C:=by
   rcases h2.2 with ⟨_,h⟩ | ⟨g,c,cur,e,_⟩
   ·simp at h
   ·exact⟨g,c,e⟩
  subst e;have F:=Qa (Vz h2 ((Only.refl (λk=>k=N) w).grown g' (λk _ e=>by simp[Value.ownBlock] at e;omega)));clear h2 g';go_wp2;go_ret;exact⟨_,_,rfl,F.o⟩
 ·obtain⟨C,wm,hge,hcm,h1,h5,hsz,om⟩:=jb w N n (by omega)
  obtain⟨G,hG⟩:=EX w.heap.size;rw[<-hG] at h1 h5;obtain⟨w3,hc1,h8,hs3,o3⟩:=Ae wm G 0 (n+1) C ⟨X,0,none⟩ [x] (List.replicate C NIL) 1 1 rfl h5 (h4 wm (Uw hX om)) (λy hy=>by simp at hy;subst hy;exact x1) (by omega) (by simp;omega);have hNb:N<w.heap.size:=XF own
  have h3:∀(W:World),Only (λk=>k=G) wm W->∀j v,vs[j]? = some v->W.cell? ((⟨N,0,none⟩:Addr).add j)=some v:=by
   intro W o j v hj;have hjl:j<vs.length:=(List.getElem?_eq_some_iff.1 hj).1;have ow:=(o.own (om.own own (λ_ _ f=>f)) (λk hk e=>by simp[Value.ownBlock] at hk;omega));have:=ow.cellAt j (by omega);rw[hj] at this;rw[<-this,show (⟨N,0,none⟩:Addr).add j=⟨N,j,none⟩ by unfold Addr.add;split <;> simp_all]
  have h7:Only (λk=>k=G) wm w3.drew:=o3.drew;obtain⟨w4,hc2,h6,hs4,o4⟩:=Ae w3.drew G 1 n (C - 1) ⟨N,0,none⟩ vs ((List.replicate C NIL).take 0++[x]++(List.replicate C NIL).drop (0+1)) n n hl h8 (h3 _ h7) v1 (Nat.le_refl _) (by simp;omega)
  have hZ:(((List.replicate C NIL).take 0++[x]++(List.replicate C NIL).drop (0+1)).take 1++vs++((List.replicate C NIL).take 0++[x]++(List.replicate C NIL).drop (0+1)).drop (1+n))=x :: vs++List.replicate (C - 1 - n) NIL:=by
   have e:(List.replicate C NIL).take 0++[x]++(List.replicate C NIL).drop (0+1)=x :: List.replicate (C - 1) NIL:=by simp[List.drop_replicate]
   rw[e,Nat.add_comm 1 n,List.drop_succ_cons,List.drop_replicate];rfl
  rw[hZ] at h6
  have F:Hid (w4.ownsRow lo 23 1 (.slice (some ⟨G,0,none⟩) (n+1) C) (n+1) (x :: vs)∧Only (λk=>k=N) w w4):=by
   refine⟨⟨by simp[hl],.inr ⟨G,C,_,rfl,by omega,h6,hge,hcm,?_,?_⟩⟩,?_⟩
   ·simp[hl];omega
   ·rw[List.take_append_of_le_length (by simp[hl])]
    exact List.take_of_length_le (by simp[hl])
   ·exact (om.trans (o3.drew.trans o4 (λ_ _ e=>e)) (λi hi e=>by omega)).mono (λ_ _ f=>f.elim)
  have e1:((n+1:Nat):Int)=(n:Int)+1:=by omega
  rw[e1] at h1
  have d0:((0:Int) == (n:Int))=false:=by rw[beq_eq_false_iff_ne];omega
  have d1:decide ((n:Int)<(n:Int)+1)=true:=Qe (by omega);clear h4 own v1 hX x1 hlo hl h5 hsz om h8 hs3 o3 h3 h7 h6 hs4 o4 hZ hG e1;go_enter func26,ntmps26;go_wp2_with (at_builtin;refine Lib.wpList_append_run _ rfl _ _ _ _ rfl _ _ rfl rfl _ _ h1 ?_)
  have d2:¬C=1:=by omega
  have d3:¬1=C:=by omega
  go_wp2;go_region;go_wp2;go_ret;exact⟨_,_,rfl,F.o⟩
theorem Zq {fn:Func} {a b c:Tmp} {ty:TypeId} (h:fn.results=#[.tmp a,.cell b ty,.tmp c]) (tmps:Array Value) (w:World) {ad:Addr} {v1 v2 v3:Value}
 (h1:tmps.getD a undef=v1) (h2:tmps.getD b undef=.pointer (some ad)) (h3:tmps.getD c undef=v3) (hl:(loadVar ty ad).run P w=.ok v2 w) :
 (results fn tmps).run P w=.ok (.tuple #[v1,v2,v3]) w:=by
 have h1':tmps[a]?.getD undef=v1:=by simpa using h1
 have h2':tmps[b]?.getD undef=.pointer (some ad):=by simpa using h2
 have h3':tmps[c]?.getD undef=v3:=by simpa using h3
 simp[results,h,h1',h2',h3',asAddr,hl]
theorem put2 {x0 x1:Value} (h:W.heap[B]? = some (.cells #[x0,x1] E (0,0))) (y0 y1:Value) :
 ((W.setCell ⟨B,0,none⟩ y0).setCell ⟨B,1,none⟩ y1).heap[B]? = some (.cells #[y0,y1] E (0,0))∧Only (λk=>k=B) W ((W.setCell ⟨B,0,none⟩ y0).setCell ⟨B,1,none⟩ y1):=by
 have g1:=heap_setCell_same W B 0 _ _ y0 h;have g2:=heap_setCell_same _ B 1 _ _ y1 g1;exact⟨by simpa using g2,((Only.refl (λk=>k=B) W).setCell (p:=⟨B,0,none⟩) (λ_=>rfl) _).setCell (p:=⟨B,1,none⟩) (λ_=>rfl) _⟩
theorem Fl (L:List (LI)):cat (λi=>L.getD i []) L.length=L.flatten:=by
 unfold cat;rw[List.flatMap_def]
 congr 1
 refine List.ext_getElem (by simp) (λi h1 h2=>?_);simp[List.getD_eq_getElem?_getD,List.getElem?_eq_getElem h2]
theorem JQ {N lo n:Nat} {xs:List Value} (o:Only (λk=>k=N) w w') {cs:Array Value} (hN:w.heap[N]? = some (.cells cs 23)) (h:w.ownsRow lo 5 1 v n xs):w'.ownsRow lo 5 1 v n xs :=
 o.own h (λk hk e=>by
  subst e
  rcases h.2 with ⟨rfl,_⟩ | ⟨g,cap,cur,rfl,_,hg,_⟩
  ·cases hk
  ·cases hk;rw[hN] at hg;cases hg)
theorem LO.off {N:Nat} {vs:List Value} (h:LO w vs ls) (o:Only (λk=>k=N) w w') {cs:Array Value} (hN:w.heap[N]? = some (.cells cs 23)):LO w' vs ls :=
 ⟨h.1,λj u hu=>by obtain⟨lo,h1⟩:=h.2 j u hu;exact⟨lo,JQ o hN h1⟩⟩
theorem PT {m:MAN} (h:Ut m) (h1:m.es.length<=100):(MENC m).length<=10000:=by
 obtain⟨g1,g2,g3,g4,g5⟩:=h;have hT0:=Zy m
 have h2:(QC m).length<=1048576:=by omega
 have q1:=ZS (QC m) _ Zu h2 (λx hx=>by
  obtain⟨e,h0,rfl⟩:=List.mem_map.1 ((UQ _ _).1 hx)
  exact (g5 e h0).1.1)
 have q2:=Xy (QC m) m.es _ (Nat.le_refl _) g4 (λe h0=>ZC h0) h2;rw[Hn] at q1;rw[J3] at q2;unfold MENC;simp only[Qb,Qv,g2.1,g3.1,Q6,Qk,List.length_nil] at q1 q2 ⊢;omega
theorem Nl (L:List (LI)) (k:Nat) (h:∀x∈L,x.length<=k):L.flatten.length<=L.length*k:=by
 induction L with
 | nil=>simp
 | cons a L ih =>
  have h1:=h a (by simp);have h2:=ih (λx hx=>h x (by simp[hx]));rw[List.flatten_cons,Qb,Qk,Nat.succ_mul];omega
theorem Pl {m:LI} {v:Nat} {l:List Qj}:∀x∈QI m v l k,x.length<=4194320:=λx hx=>by
 obtain⟨i,_,rfl⟩:=List.mem_map.1 hx;exact DG
theorem CG_at {l:List Qj} (h:∀c∈l,CG c) (j:Nat):CG (l.getD j Qw):=by
 by_cases hj:j<l.length
 ·rw[Qc,Qh hj];exact h _ (List.getElem_mem hj)
 ·rw[Qc,List.getElem?_eq_none (by omega)]
  exact⟨λy hy=>(by cases hy),⟨λy hy=>(by cases hy),λy hy=>(by cases hy)⟩⟩
theorem Je {m:LI} {v:Nat} {l:List Qj} (h:∀c∈l,CG c) (k:Nat):R8 (QI m v l k):=λx hx=>by
 obtain⟨i,_,rfl⟩:=List.mem_map.1 hx;exact⟨yF (CG_at h i),by have:=DG (k:=QH m (l.getD i Qw)) (v:=v) (i:=i) (c:=l.getD i Qw);omega⟩
theorem OR {lo n B C:Nat} {x:Value} {vs:List Value} {b0:LI} (own:w.ownsRow lo 23 1 (.slice (some ⟨B,0,none⟩) (n+1) C) (n+1) (x :: vs)) (hn:n<=900) (hx:∃lo,w.ownsRow lo 5 1 x b0.length (bl b0)) (hl:LO w vs ls) (h0:0<b0.length) (h1:b0.length<=1000000000) (h2:∀y∈ls,y.length<=4194320) :
 Calls prog 28 #[.slice (some ⟨B,0,none⟩) (n+1) C] w λe w'=>∃u,e=.returned u∧w'.ownsRow w.heap.size 5 1 u (b0++ls.flatten).length (bl (b0++ls.flatten))∧N0 w w':=by
 have hvl:vs.length=n:=by have:=own.1;simp at this;omega
 have h4:ls.length=n:=by rw[<-hl.1];exact hvl
 have h5:∀i,i<n+1->∃lo,w.ownsRow lo 5 1 ((x :: vs).getD i NIL) ((b0 :: ls).getD i []).length (bl ((b0 :: ls).getD i [])):=by
  intro i hi
  cases i with
  | zero=>simpa using hx
  | succ j =>
   have hj:j<vs.length:=by omega
   have:=hl.2 j vs[j] (Qh hj)
   simpa [List.getD_eq_getElem?_getD,List.getElem?_eq_getElem hj] using this
 have h3:cat (λi=>(b0 :: ls).getD i []) (n+1)=b0++ls.flatten:=by
  have:=Fl (b0 :: ls);rw[Qk,h4,List.flatten_cons] at this;exact this
 have hf:=Nl ls 4194320 h2
 have:=Ly B (n+1) C (λi=>(x :: vs).getD i NIL) (λi=>(b0 :: ls).getD i []) w (by omega) (by omega)
  (λi hi=>by
   rw[World.ownsRow.cellAt own i (by omega),Qh (by simp;omega)]
   simp[List.getD_eq_getElem?_getD,List.getElem?_eq_getElem (show i<(x :: vs).length by simp;omega)])
  (λi hi=>by obtain⟨lo,h⟩:=h5 i hi;exact Bs.of_own h)
  (λi hi=>by obtain⟨lo,h⟩:=h5 i hi;exact NoCap.of_own h)
  (by rw[h3,Qb];omega) (by rw[h3,Qb];rw[h4] at hf;omega)
 rw[h3] at this;exact this
theorem GD {N lo n size:Nat} {E T:TypeId} {xs:List Value} {f:Nat × Nat} {cs:Array Value} (o:Only (λk=>k=N) w w') (hN:w.heap[N]? = some (.cells cs T f)) (hT:T≠E) (h:w.ownsRow lo E size v n xs):w'.ownsRow lo E size v n xs :=
 o.own h (λk hk e=>by
  subst e
  rcases h.2 with ⟨rfl,_⟩ | ⟨g,cap,cur,rfl,_,hg,_⟩
  ·cases hk
  ·cases hk;rw[hN] at hg;cases hg;exact hT rfl)
theorem LO.ne {N:Nat} {T:TypeId} {f:Nat × Nat} {vs:List Value} (h:LO w vs ls) (o:Only (λk=>k=N) w w') {cs:Array Value} (hN:w.heap[N]? = some (.cells cs T f)) (hT:T≠5):LO w' vs ls :=
 ⟨h.1,λj u hu=>by obtain⟨lo,h1⟩:=h.2 j u hu;exact⟨lo,GD o hN hT h1⟩⟩
theorem DO {e:LI × Int} {es:List (LI × Int)} {ys t:LI} (h:CUT (e :: es) ys=some (ls,t)) :
 ∃l ls',ls=l :: ls'∧¬ys.length<(Yb e.2).toNat+16∧l=ys.take ((Yb e.2).toNat+16)∧CUT es (ys.drop ((Yb e.2).toNat+16))=some (ls',t):=by
 rw[CUT] at h
 by_cases h1:ys.length<(Yb e.2).toNat+16
 ·rw[if_pos h1] at h;cases h
 ·rw[if_neg h1] at h
  cases h2:CUT es (ys.drop ((Yb e.2).toNat+16)) with
  | none=>rw[h2] at h;cases h
  | some x =>
   rw[h2] at h;simp only[Option.some.injEq,Prod.mk.injEq] at h;exact⟨_,x.1,h.1.symm,h1,rfl,by rw[<-h.2]⟩
theorem TU:∀(es:List (LI × Int)) {ys t:LI} {ls:List (LI)},CUT es ys=some (ls,t)->ls.length=es.length
 | [],ys,t,ls,h=>by simp[CUT] at h;rw[h.1];rfl
 | e :: es,ys,t,ls,h=>by
  obtain⟨l,ls',rfl,_,_,h2⟩:=DO h;simp[TU es h2]
theorem tS {ys t:LI} (es:List (LI × Int)) (ls:List (LI)) (ve:Value) (w:World) (hC:CurAt 146 w R v ys) (k5:∀k,v.ownBlock=some k->k<w.heap.size) (hE:Ens w ve es) (hp:∀k,ve.ownBlock=some k->¬k=R) (h0:CUT es ys=some (ls,t)) (hb:∀e∈es,0<=e.2∧e.2<=8) (hn:es.length<=1048576) :
 Calls prog 62 #[.func (.func 63) #[.pointer (some ⟨R,0,none⟩)] #[],ve] w λe w'=>∃a,e=.returned (.tuple #[a,.int .i64 0])∧(∃vs,LO w' vs ls∧w'.ownsRow w.heap.size 23 1 a ls.length vs)∧(∃v2,CurAt 146 w' R v2 t∧v2.ownBlock=v.ownBlock)∧Only (λk=>k=R) w w':=by
 obtain⟨ae,ce,rfl⟩:=hE.len;obtain⟨i0,hi,hz0,hz1,hz2⟩:=info_parts Tryz.infoRows;have k2:R<w.heap.size:=(Array.getElem?_eq_some_iff.1 hC.cell).1;have k4:=TU es h0;obtain⟨n,hj⟩:=EX es.length
 have S0:Hid (∃(rv:Value) (vs:List Value) (v2:Value) (rest:LI),.slice none 0 0=rv∧w.ownsRow w.heap.size 23 1 rv 0 vs∧LO w vs (ls.take 0)∧CurAt 146 w R v2 rest∧v2.ownBlock=v.ownBlock∧CUT (es.drop 0) rest=some (ls.drop 0,t)∧Only (λk=>k=R) w w) :=
  ⟨_,[],v,ys,rfl,Xh,LO.nil w,hC,rfl,h0,VG⟩
 have HE:=Qa (Vz hE (Vz hp (Vz hb (Vz k5 (Vz k2 k4)))));have HN:=Qa hj
 have hnb:n<=1048576:=by omega
 rw[<-hj] at HE ⊢;clear hC k5 hE hp h0 hb hn k2 k4 hj;go_enter func62,ntmps62;go_wp2
 go_loopw [6,13] (λrv i wr=>∃k:Nat,k<=n∧i=.int .i64 k∧Hid (∃(vs:List Value) (v2:Value) (rest:LI),wr.ownsRow w.heap.size 23 1 rv k vs∧LO wr vs (ls.take k)∧CurAt 146 wr R v2 rest∧v2.ownBlock=v.ownBlock∧CUT (es.drop k) rest=some (ls.drop k,t)∧Only (λk=>k=R) w wr)) (λ_ i _=>n - (intOf i).toNat)
 case atStart =>
  obtain⟨rv,vs,v2,rest,rfl,h⟩:=S0.o;exact⟨0,Nat.zero_le _,rfl,vs,v2,rest,h⟩
 case round =>
  obtain⟨k,hk,rfl,hS⟩:=hrel;clear S0
  by_cases hlt:k<n
  ·have dlt:decide ((k:Int)<(n:Int))=true:=Qe (by omega)
   have dlt':decide (k<n)=true:=Qe hlt;obtain⟨vs,v2,rest,ow,lo,cu,h6,h0,o⟩:=hS.o
   have h5:k<es.length:=by rw[<-HN.o];exact hlt
   rw[List.drop_eq_getElem_cons h5] at h0;obtain⟨l,ls',k3,h7,hl,h1⟩:=DO h0
   have hkl:k<ls.length:=by have:=HE.o.2.2.2.2.2;omega
   have hh:es[k]=es.getD k ([],0):=by rw[Qc,Qh h5];rfl
   rw[hh] at h7 hl h1;have ha:=HE.o.2.2.1 _ (List.getElem_mem h5);rw[hh] at ha;obtain⟨b,off,cap',ee,hf,k6⟩:=(HE.o.1.keep o (λq hq=>HE.o.2.1 q hq)).at k h5
   obtain rfl:ae=some ⟨b,off,none⟩:=by simp at ee;exact ee.1
   clear ee;obtain⟨e,hx⟩:=EX (es.getD k ([],0));rw[<-hx] at h7 hl h1 ha hf k6;obtain⟨T,hT⟩:=EX (strOfNums e.1);rw[<-hT] at hf
   obtain⟨z,hz⟩:∃z:Nat,Yb e.2=(z:Int)∧z<=4194304:=by
    refine⟨Qx e.2.toNat,?_,?_⟩
    ·unfold Yb;rw[if_pos ha]
    ·unfold Qx
     have:e.2.toNat<=8:=by omega
     have h4:4^e.2.toNat<=4^8:=Nat.pow_le_pow_right (by decide) this
     have:(4:Nat)^8=65536:=by decide
     omega
   have ht:(Yb e.2).toNat+16=z+16:=by rw[hz.1];rfl
   rw[ht] at h7 hl h1;obtain⟨wb,h8⟩:=EX (wr.alloc (.cells #[.string T,.int .i64 e.2] 93))
   have ob:N0 wr wb:=by rw[h8];exact VG.alloc _
   obtain⟨q0,q1,_,_⟩:=Qs (show wb.heap[wr.heap.size]? = some (.cells #[.string T,.int .i64 e.2] 93 (0,0)) by rw[h8];exact heap_alloc_new _ _);have SZ:=Qa (Jf e.2 wb);rw[hz.1] at SZ;have hzz:=hz.2;have HB:=Qa h8;have he:=cu.keep ob (λf=>f) (λ_ _ f=>f);have BY:=Qa (λW (oW:N0 wb W)=>LZ (he.keep oW (λf=>f) (λ_ _ f=>f)) ((z+16:Nat):Int));rw[Xb h7,<-hl] at BY
   have hu:((z+16:Nat):Int)=(z:Int)+16:=by omega
   rw[hu] at BY;have D:=Qa (Vz (ob.own ow (λ_ _ f=>f)) (Vz (lo.past ob) (Vz h6 (Vz (o.trans (T:=λ_=>False) ob (λ_ _ f=>f.elim)) he.cell))));have HX:=Qa (Vz k3 h1)
   have i0':(0:Int)<=(k:Int):=by omega
   have i1':(k:Int)<(n:Int):=by omega
   clear hS ow lo cu h6 h0 o h5 k3 h7 hl h1 hkl hh ha hx hT hz ht h8 ob he hu;go_wp2_with fail;rw[<-HB.o];refine SZ.o.mono ?_;rintro e1 w1 ⟨rfl,o1⟩;have k7:=Qa (BY.o w1 o1);have D1:=Qa (Vz (o1.own D.o.1 (λ_ _ f=>f)) (Vz (D.o.2.1.past o1) (Vz D.o.2.2.1 (Vz (D.o.2.2.2.1.trans (T:=λ_=>False) o1 (λ_ _ f=>f.elim)) (o1.heap D.o.2.2.2.2 (λf=>f))))));clear o1 SZ BY D q0 q1 hf k6;go_wp2_with fail;refine k7.o.mono ?_;rintro e2 w2 ⟨v1,rfl,h2,v3,hw,k1,o2⟩;obtain⟨a1,c1,rfl⟩:=QK h2;obtain⟨m,hm⟩:=EX l.length;obtain⟨W3,h9⟩:=EX (w2.alloc (.cells #[.slice a1 m c1] 23))
   have o3:N0 w2 W3:=by rw[h9];exact VG.alloc _
   have hV:VS W3 (.slice (some ⟨w2.heap.size,0,none⟩) 1 1) [.slice a1 m c1]:=VS.of_own (lo:=w2.heap.size) (n:=1) (e:=23) (by rw[h9];exact Fx w2 23 [.slice a1 m c1] (Nat.le_refl _) (show 1<=maxLen by unfold maxLen;decide)) (λy hy=>by simp at hy;subst hy;rfl)
   have h3:(146:Nat)≠23:=by decide
   have k0:=o3.own (GD o2 D1.o.2.2.2.2 h3 D1.o.1) (λ_ _ f=>f);have ho:=(D1.o.2.1.ne o2 D1.o.2.2.2.2 (by decide)).past o3;have E3:=Qa (Vz k0 (Vz ho (Vz (hw.keep o3 (λf=>f) (λ_ _ f=>f)) (Vz (k1.trans D1.o.2.2.1) (Vz (((D1.o.2.2.2.1).trans o2 (λ_ _ e=>e)).trans (T:=λ_=>False) o3 (λ_ _ f=>f.elim)) (o3.own h2 (λ_ _ f=>f)))))));have HV:=Qa (Vz hV (Vz h9 hm))
   have bs:Hid (w.heap.size<=W3.heap.size):=by show _<=_;have:=E3.o.2.2.2.2.1.size;omega
   have hs:k+1<=maxLen:=by unfold maxLen;omega
   rw[<-hm];clear h2 hw k1 o2 o3 hV k0 ho k7 D1 h9 hm h3;go_wp2_with (at_builtin;rw[<-HV.o.2.1];refine Rc _ rfl _ _ 62 rfl w.heap.size 23 i0 NIL 24 underlying62 hi hz0 hz1 hz2 rfl _ k vs rfl E3.o.1 _ [.slice a1 m c1] rfl HV.o.1 hs (by simp only[Qk,List.length_nil];omega) bs.o ?_);intro v' w4 own4 g4
   have F:Hid (∃(vs:List Value) (v2:Value) (rest:LI),w4.ownsRow w.heap.size 23 1 v' (k+1) vs∧LO w4 vs (ls.take (k+1))∧CurAt 146 w4 R v2 rest∧v2.ownBlock=v.ownBlock∧CUT (es.drop (k+1)) rest=some (ls.drop (k+1),t)∧Only (λk=>k=R) w w4):=by
    obtain⟨ow,lo,cu,hv,o,ob⟩:=E3.o;have hg:=(Only.refl (λq=>u6.ownBlock=some q) W3).grown g4 (λ_ _ e=>e)
    have hRu:¬u6.ownBlock=some R:=λe=>by have:=(ow.lt R e).1;have:=HE.o.2.2.2.2.1;omega
    have hd:=HX.o.1
    have e1:ls.take (k+1)=ls.take k++[l]:=by
     rw[List.take_add_one]
     congr 1
     have:ls[k]? = some l:=by have:=List.getElem?_drop (xs:=ls) (i:=k) (j:=0);rw[hd] at this;simpa using this.symm
     rw[this];rfl
    have e2:ls.drop (k+1)=ls':=by rw[<-List.drop_drop,hd];rfl
    refine⟨vs++[.slice a1 m c1],v3,_,own4,?_,cu.keep hg hRu (λq hq e=>?_),hv,by rw[e2];exact HX.o.2,o.grown g4 (λq hq e=>?_)⟩
    ·rw[e1]
     have:=(LO.one ob).grown ow g4;rw[HV.o.2.2];exact (lo.grown ow g4).app this
    ·rw[hv] at hq
     have:=HE.o.2.2.2.1 q hq;have:=(ow.lt q e).1;omega
    ·have:=(ow.lt q e).1
     omega
   obtain⟨a4,c4,rfl⟩:=QK own4;clear own4 g4 E3 HV bs hs HX;go_wp2
   go_roundw
   case rel=>exact⟨k+1,by omega,by go_num,F⟩
   case measure=>simp[intOf];omega
  ·obtain rfl:k=n:=by omega
   have dlt:decide ((k:Int)<(k:Int))=false:=Qi (by omega);obtain⟨vs,v2,rest,ow,lo,cu,h6,h0,o⟩:=hS.o;rw[HN.o,List.drop_length] at h0;have hl:ls.length=k:=HE.o.2.2.2.2.2;rw[<-HN.o,<-hl,List.drop_length] at h0;rw[<-hl,List.take_length] at lo
   have hr:rest=t:=by simp[CUT] at h0;exact h0
   subst hr;have F:=Qa (Vz (show ∃vs,LO wr vs ls∧wr.ownsRow w.heap.size 23 1 _ ls.length vs from ⟨vs,lo,by rw[hl];exact ow⟩) (Vz (show ∃v2,CurAt 146 wr R v2 rest∧v2.ownBlock=v.ownBlock from ⟨v2,cu,h6⟩) o));clear hS ow lo cu h6 h0 o;go_wp2;go_ret2;exact⟨_,rfl,F.o⟩
theorem Ek {m:MAN} (h:Ut m):Yv (MENC m)=m∧Uf (MENC m)=0:=MD_ok (Lc h)
theorem qj {fn:Func} {a b c:Tmp} {ty:TypeId} (h:fn.results=#[.cell a ty,.tmp b,.tmp c]) (tmps:Array Value) (w:World) {ad:Addr} {v1 v2 v3:Value}
 (h1:tmps.getD a undef=.pointer (some ad)) (h2:tmps.getD b undef=v2) (h3:tmps.getD c undef=v3) (hl:(loadVar ty ad).run P w=.ok v1 w) :
 (results fn tmps).run P w=.ok (.tuple #[v1,v2,v3]) w:=by
 have h1':tmps[a]?.getD undef=.pointer (some ad):=by simpa using h1
 have h2':tmps[b]?.getD undef=v2:=by simpa using h2
 have h3':tmps[c]?.getD undef=v3:=by simpa using h3
 simp[results,h,h1',h2',h3',asAddr,hl]
theorem Bs.recap {k:IntKind} {ao:Option Addr} {n c c':Nat} (h:Bs k w (.slice ao n c) xs) (hc:n<=c'):Bs k w (.slice ao n c') xs:=by
 obtain⟨ao',cap',e,h1,h2⟩:=h;simp at e;obtain⟨rfl,rfl,rfl⟩:=e;exact⟨_,_,rfl,hc,h2⟩
theorem Mnw.lowS {a b w':World} {x:Value} {m:MAN} {vp ve vr:Value} (h:Mnw b w' x m vp ve vr) (o:a.heap.size<=b.heap.size):Mnw a w' x m vp ve vr :=
 ⟨h.mf,h.np,h.nr,λk hk=>by have:=h.bp k hk;omega,λk hk=>by have:=h.be k hk;omega,λk hk=>by have:=h.br k hk;omega⟩
theorem Mnw.past {a w w':World} {x:Value} {m:MAN} {vp ve vr:Value} (h:Mnw a w x m vp ve vr) (o:N0 w w'):Mnw a w' x m vp ve vr:=⟨h.mf.past o,h.np,h.nr,h.bp,h.be,h.br⟩
theorem Fm {ys sg:LI} {m:MAN} (w:World) (hvb:∀b,v.ownBlock=some b->b<w.heap.size) (hC:CurAt 146 w R v ys) (hs:Qp 268435456 ys=(sg,k,0)) (h32:32<=sg.length) (hm:MDEC (sg.take (sg.length - 32))=.ok m) (h8:U8 sg) :
 Calls prog 60 #[.func (.func 61) #[.pointer (some ⟨R,0,none⟩)] #[]] w λe w'=>∃x vp ve vr u,e=.returned (.tuple #[x,u,.int .i64 0])∧Mnw w w' x m vp ve vr∧Bs .u8 w' u sg∧NoCap u∧(∀q,u.ownBlock=some q->w.heap.size<=q)∧(∃v2,CurAt 146 w' R v2 (ys.drop k)∧v2.ownBlock=v.ownBlock)∧Only (λk=>k=R) w w':=by
 have h6:R<w.heap.size:=(Array.getElem?_eq_some_iff.1 hC.cell).1;have h1:=hC.len;obtain⟨w0,h0⟩:=EX (w.alloc (.cells #[.int .u64 0,.slice none 0 0,.slice none 0 0,.slice none 0 0] 69))
 have o0:N0 w w0:=by rw[h0];exact VG.alloc _
 have g0:Hid (w0.heap[w.heap.size]? = some (.cells #[.int .u64 0,.slice none 0 0,.slice none 0 0,.slice none 0 0] 69 (0,0))):=by show _=_;rw[h0];exact heap_alloc_new _ _
 have BL:=Qa (VK (hC.keep o0 (λf=>f) (λ_ _ f=>f)) 268435456 (by omega));rw[hs] at BL
 have hle:sg.length<=268435456:=by
  have:=hs;unfold Qp at this;rw[if_neg (by omega)] at this
  split at this
  ·rename_i q;simp only[Prod.mk.injEq] at this;rw[<-this.1];simp
  ·split at this
   ·simp only[Prod.mk.injEq] at this;omega
   ·split at this
    ·simp only[Prod.mk.injEq] at this;omega
    ·simp only[Prod.mk.injEq] at this;rw[<-this.1,Qg];omega
 obtain⟨e1,e2⟩:=MD_ok hm;have DE:=Qa (λ(W:World) (u:Value) (h:Bs .u8 W u (sg.take (sg.length - 32)))=>Py u _ W h (h8.take _) (by rw[Qg];omega));rw[e1,e2] at DE;obtain⟨q,hq⟩:=EX sg.length;obtain⟨p,hp⟩:=EX (q - 32);rw[<-hq,<-hp] at DE;have HQ:=Qa (Vz hq (show p<=sg.length by omega))
 have hsub:(q:Int) - 32=(p:Int):=by omega
 have dn:decide ((p:Int)<0)=false:=Qi (by omega)
 have j0:(0:Int)<=(p:Int):=by omega
 have j1:(p:Int)<=(q:Int):=by omega
 have hqb:q<=268435456:=by omega
 have HW:=Qa (Vz h0 o0);have HR:=Qa h6;have HV:=Qa hvb;clear hC hvb hs h32 hm h8 h1 h0 o0 hle e1 e2 hq hp h6;go_enter func60,ntmps60;go_wp2_with fail;rw[<-HW.o.1];refine BL.o.mono ?_;rintro e w1 ⟨v1,rfl,b1,n1,h3,v2,h4,h5,o1⟩;obtain⟨a1,c1,rfl,hc1⟩:=b1.formN (n:=q) HQ.o.1.symm;have h7:=Qa (DE.o w1 (.slice a1 p p) ((b1.head (n:=p) (by omega)).recap Zu));have H1:=Qa (Vz b1 (Vz n1 (Vz h3 (Vz h4 (Vz h5 o1)))))
 have j2:(p:Int)<=(c1:Int):=by omega
 clear b1 n1 h3 h4 h5 o1 BL DE;go_wp2_with fail;refine h7.o.mono ?_;rintro e w2 ⟨x,vp,ve,vr,rfl,mn,o2⟩;have hf:=mn.mf.form;obtain⟨ap,cp,ep⟩:=mn.mf.prev.len;obtain⟨ae,ce,ee⟩:=mn.mf.es.len;obtain⟨ar,cr,er⟩:=mn.mf.root.len;subst ep ee er hf;have RN:=HR.o;have gm:=o2.heap (H1.o.2.2.2.2.2.heap g0.o (λe=>by omega)) (λf=>f);obtain⟨W3,h2⟩:=EX (w2.alloc (.cells #[.int .u64 m.ver,.slice ap m.prev.length cp,.slice ae m.es.length ce,.slice ar m.root.length cr] 69))
 have o3:N0 w2 W3:=by rw[h2];exact VG.alloc _
 have gb:=Qa (show W3.heap[w2.heap.size]? = some (.cells #[.int .u64 m.ver,.slice ap m.prev.length cp,.slice ae m.es.length ce,.slice ar m.root.length cr] 69 (0,0)) by rw[h2];exact heap_alloc_new _ _);have hld:=YQ gb.o;obtain⟨⟨y0,y1,y2,y3⟩,_⟩:=Yg gb.o;have g3:=o3.heap gm (λf=>f);obtain⟨⟨z0,z1,z2,z3⟩,f0,f1,f2,f3⟩:=Yg g3;have P4:=put4 g3 (.int .u64 m.ver) (.slice ap m.prev.length cp) (.slice ae m.es.length ce) (.slice ar m.root.length cr);have hs1:=H1.o.2.2.2.2.2.size
 have hs0:w0.heap.size=w.heap.size+1:=by rw[HW.o.1];simp
 have oT:Only (λk=>k=R) w W3:=((HW.o.2.mono (T:=λk=>k=R) (λ_ _ f=>f.elim)).trans H1.o.2.2.2.2.2 (λ_ _ e=>e)).trans (o2.same o3) (λ_ _ f=>f.elim);have h9:=((mn.past o3).keep (B:=w.heap.size) P4.2 (by omega)).lowS (a:=w) (by omega);have F:=Qa (Vz (YQ P4.1) (Vz h9 (Vz ((H1.o.1.past (o2.same o3)).keep P4.2 (λb hb e=>by have:=H1.o.2.2.1 b hb;omega)) (Vz H1.o.2.1 (Vz (show ∀b,(Value.slice a1 q c1).ownBlock=some b->w.heap.size<=b from λb hb=>by have:=H1.o.2.2.1 b hb;omega) (Vz (show ∃v2',CurAt 146 _ R v2' (ys.drop k)∧v2'.ownBlock=v.ownBlock from ⟨v2,(H1.o.2.2.2.1.keep (o2.same o3) (λf=>f) (λ_ _ f=>f)).keep P4.2 (by omega) (λb hb e=>by have:=HV.o b (by rw[<-H1.o.2.2.2.2.1];exact hb);omega),H1.o.2.2.2.2.1⟩) (oT.trans P4.2 (λi hi e=>by omega))))))));clear mn o2 gm o3 g3 P4 hs1 hs0 oT h9 H1 h7 RN;subst h2;go_wp2;refine bodyPost_ret (qj rfl _ _ rfl rfl rfl F.o.1) rfl ⟨_,_,_,_,_,rfl,F.o.2.1,F.o.2.2.1,F.o.2.2.2.1,F.o.2.2.2.2.1,F.o.2.2.2.2.2⟩
theorem Ea {fn:Func} {a b c d:Tmp} {ty:TypeId} (h:fn.results=#[.cell a ty,.tmp b,.tmp c,.tmp d]) (tmps:Array Value) (w:World) {ad:Addr} {v1 v2 v3 v4:Value}
 (h1:tmps.getD a undef=.pointer (some ad)) (h2:tmps.getD b undef=v2) (h3:tmps.getD c undef=v3) (h4:tmps.getD d undef=v4) (hl:(loadVar ty ad).run P w=.ok v1 w) :
 (results fn tmps).run P w=.ok (.tuple #[v1,v2,v3,v4]) w:=by
 have h1':tmps[a]?.getD undef=.pointer (some ad):=by simpa using h1
 have h2':tmps[b]?.getD undef=v2:=by simpa using h2
 have h3':tmps[c]?.getD undef=v3:=by simpa using h3
 have h4':tmps[d]?.getD undef=v4:=by simpa using h4
 simp[results,h,h1',h2',h3',h4',asAddr,hl]
theorem L3 {b sg:LI} {m:MAN} (h:Wv b=.ok (m,sg,ls)) :
 ∃k,Qp 268435456 b=(sg,k,0)∧32<=sg.length∧MDEC (sg.take (sg.length - 32))=.ok m∧CUT m.es (b.drop k)=some (ls,[]):=by
 obtain⟨h0,k,c,hs⟩:∃x k c,Qp 268435456 b=(x,k,c):=⟨_,_,_,rfl⟩;unfold Wv at h;rw[hs] at h ⊢;simp only at h
 by_cases h1:c=0
 ·rw[if_neg (by simpa using h1)] at h
  by_cases h2:h0.length<32
  ·rw[if_pos h2] at h;cases h
  ·rw[if_neg h2] at h
   cases h3:MDEC (h0.take (h0.length - 32)) with
   | error e=>rw[h3] at h;cases h
   | ok m' =>
    rw[h3] at h;simp only at h
    cases h4:CUT m'.es (b.drop k) with
    | none=>rw[h4] at h;cases h
    | some x =>
     rw[h4] at h;simp only at h
     by_cases h5:x.2=[]
     ·rw[if_pos h5] at h
      simp only[Except.ok.injEq,Prod.mk.injEq] at h;obtain⟨rfl,rfl,rfl⟩:=h;exact⟨k,by rw[h1],by omega,h3,by rw[<-h5,h4]⟩
     ·rw[if_neg h5] at h;cases h
 ·rw[if_pos h1] at h;cases h
theorem Pg {n:Int} {b sg:LI} {c:Int} (h8:U8 b) (h:Qp n b=(sg,k,c)):U8 sg:=by
 have nl:U8 []:=λy hy=>by cases hy
 unfold Qp at h
 split at h
 ·simp only[Prod.mk.injEq] at h;rw[<-h.1];exact nl
 ·split at h
  ·simp only[Prod.mk.injEq] at h;rw[<-h.1];exact nl
  ·split at h
   ·simp only[Prod.mk.injEq] at h;rw[<-h.1];exact nl
   ·split at h
    ·simp only[Prod.mk.injEq] at h;rw[<-h.1];exact nl
    ·simp only[Prod.mk.injEq] at h;rw[<-h.1];exact (h8.drop _).take _
structure SPW (w w':World) (x vp ve vr u a:Value) (m:MAN) (sg:LI) (ls:List (LI)):Prop where
 mn:Mnw w w' x m vp ve vr
 sg:Bs .u8 w' u sg
 nu:NoCap u
 ls:∃vs,LO w' vs ls∧w'.ownsRow w.heap.size 23 1 a ls.length vs
 o:N0 w w'
theorem Sg (vb:Value) (b:LI) (w:World) (hb:Bs .u8 w vb b) (h8:U8 b) (hl:b.length<=1000000000000) {m:MAN} {sg:LI} {ls:List (LI)} (hx:Wv b=.ok (m,sg,ls)) :
 Calls prog 38 #[vb] w λe w'=>∃x vp ve vr u a,e=.returned (.tuple #[x,u,a,.int .i64 0])∧SPW w w' x vp ve vr u a m sg ls:=by
 obtain⟨k,hs,h9,hm,h1⟩:=L3 hx;have h3:=Pg h8 hs;have hG:=(Sh (h3.take _) hm).1;obtain⟨w0,h2⟩:=EX (w.alloc (.cells #[.int .u64 0,.slice none 0 0,.slice none 0 0,.slice none 0 0] 69))
 have o0:N0 w w0:=by rw[h2];exact VG.alloc _
 have g0:Hid (w0.heap[w.heap.size]? = some (.cells #[.int .u64 0,.slice none 0 0,.slice none 0 0,.slice none 0 0] 69 (0,0))):=by show _=_;rw[h2];exact heap_alloc_new _ _
 have NW:=Qa (Uu vb b w0 (hb.past o0) h8 hl);have HW:=Qa (Vz h2 (Vz o0 (show w0.heap.size=w.heap.size+1 by rw[h2];simp)));have HX:=Qa (Vz hs (Vz h9 (Vz hm (Vz h1 (Vz h3 hG)))));clear hb h8 hl hx hs h9 hm h1 h3 hG h2 o0;go_enter func38,ntmps38;go_wp2_with fail;rw[<-HW.o.1];refine NW.o.mono ?_;rintro e w1 ⟨R,v',rfl,cu,o1,r0,r1,hv⟩;have CM:=Qa (Fm w1 (λq hq=>(hv q hq).2) cu HX.o.1 HX.o.2.1 HX.o.2.2.1 HX.o.2.2.2.2.1);have H1:=Qa (Vz o1 (Vz r0 (Vz r1 hv)));clear cu o1 r0 r1 hv NW;go_wp2_with fail;refine CM.o.mono ?_;rintro e w2 ⟨x,vp,ve,vr,u,rfl,mn,bu,nu,lu,⟨v2,cu,h7⟩,o2⟩;have hf:=mn.mf.form;obtain⟨ap,cp,ep⟩:=mn.mf.prev.len;obtain⟨ae,ce,ee⟩:=mn.mf.es.len;obtain⟨ar,cr,er⟩:=mn.mf.root.len;obtain⟨au,cau,eu⟩:=bu.len;subst ep ee er hf eu;obtain⟨W3,h4⟩:=EX (w2.alloc (.cells #[.int .u64 m.ver,.slice ap m.prev.length cp,.slice ae m.es.length ce,.slice ar m.root.length cr] 69))
 have o3:N0 w2 W3:=by rw[h4];exact VG.alloc _
 have gb:=show W3.heap[w2.heap.size]? = some (.cells #[.int .u64 m.ver,.slice ap m.prev.length cp,.slice ae m.es.length ce,.slice ar m.root.length cr] 69 (0,0)) by rw[h4];exact heap_alloc_new _ _
 obtain⟨⟨y0,y1,y2,y3⟩,_⟩:=Yg gb;have CC:=Qa (tS (t:=[]) m.es ls (.slice ae m.es.length ce) W3 (cu.keep o3 (λf=>f) (λ_ _ f=>f)) (λq hq=>by rw[h7] at hq;have:=(H1.o.2.2.2 q hq).2;have:=o2.size;have:=o3.size;omega) (mn.mf.es.past o3) (λq hq e=>by have:=mn.be q hq;have:=H1.o.2.2.1;omega) HX.o.2.2.2.1 (λe he=>(HX.o.2.2.2.2.2.2.2.2.2 e he).2) HX.o.2.2.2.2.2.2.2.2.1);have gz:=o3.heap (o2.heap (H1.o.1.heap g0.o (λf=>f)) (λe=>by have:=H1.o.2.1;have:=HW.o.2.2;omega)) (λf=>f);have H3:=Qa (Vz (mn.past o3) (Vz (bu.past o3) (Vz nu (Vz lu (Vz (o2.trans (T:=λ_=>False) o3 (λ_ _ f=>f.elim)) (Vz gb (Vz gz (show R<w2.heap.size by have:=H1.o.2.2.1;have:=o2.size;omega))))))));clear mn bu nu lu cu h7 o2 o3 gb gz CM;subst h4;go_wp2_with fail;refine CC.o.mono ?_;rintro e w4 ⟨a,rfl,hls,⟨v3,h6,hv3⟩,o4⟩;have EN:=Qa (GC h6);rw[show endV []=0 from rfl] at EN;obtain⟨vs,lo,own⟩:=hls;obtain⟨a4,c4,ea4⟩:=QK own;subst ea4;have h5:=o4.heap H3.o.2.2.2.2.2.1 (λe=>by have:=H3.o.2.2.2.2.2.2.2;omega);have hld:=YQ h5;obtain⟨⟨x0,x1,x2,x3⟩,_⟩:=Yg h5;have h0:=o4.heap H3.o.2.2.2.2.2.2.1 (λe=>by have:=H1.o.2.1;have:=HW.o.2.2;omega);obtain⟨⟨z0,z1,z2,z3⟩,f0,f1,f2,f3⟩:=Yg h0;have P4:=put4 h0 (.int .u64 m.ver) (.slice ap m.prev.length cp) (.slice ae m.es.length ce) (.slice ar m.root.length cr)
 have F:=Qa (Vz (YQ P4.1) (show SPW w _ (.agg #[.int .u64 m.ver,.slice ap m.prev.length cp,.slice ae m.es.length ce,.slice ar m.root.length cr]) (.slice ap m.prev.length cp) (.slice ae m.es.length ce) (.slice ar m.root.length cr) (.slice au sg.length cau) (.slice a4 ls.length c4) m sg ls from by
  have q1:=H1.o.2.1;have q2:=HW.o.2.2;have q3:=H1.o.1.size;have q4:=H3.o.2.2.2.2.1.size;refine⟨((H3.o.1.keep o4 H1.o.2.2.1).keep P4.2 (by omega)).lowS (by omega),(H3.o.2.1.keep o4 (λq hq e=>?_)).keep P4.2 (λq hq e=>?_),H3.o.2.2.1,⟨vs,lo.ne P4.2 h0 (by decide),Qr (GD P4.2 h0 (by decide) own) (by omega)⟩,?_⟩
  ·have:=H3.o.2.2.2.1 q hq;have:=H1.o.2.2.1;omega
  ·have:=H3.o.2.2.2.1 q hq;omega
  ·exact ((HW.o.2.1.trans H1.o.1 (λ_ _ f=>f.elim)).trans (H3.o.2.2.2.2.1.trans o4 (λ_ _ e=>e)) (λi hi e=>by omega)).trans P4.2 (λi hi e=>by omega)))
 clear lo own h5 h0 P4 o4 CC H3 H1 y0 y1 y2 y3;go_wp2_with fail;refine EN.o.mono ?_;rintro e w5 ⟨rfl,rfl⟩;clear EN h6;go_wp2;exact bodyPost_ret (Ea rfl _ _ rfl rfl rfl rfl F.o.1) rfl ⟨_,_,_,_,_,_,rfl,F.o.2⟩
def Wa (k:LI) (s:Yl) (m:MAN) (sg:LI):Int :=
 if UR k sg=0 then (if s.2.length=0 then 0 else if m.ver<s.1 then 6 else if m.ver=s.1∧m.root≠s.2 then 7 else 0) else 5
theorem Sx (vk vt x vp ve vr vs:Value) (k r sg:LI) (p:Nat) (m:MAN) (w:World) (bk:Bs .u8 w vk k) (k8:U8 k) (bt:Bs .u8 w vt r) (r8:U8 r) (hm:Mf w x m vp ve vr) (m8:U8 m.root) (bs:Bs .u8 w vs sg) (s8:U8 sg) (hl:sg.length<=10000000000) :
 Calls prog 39 #[vk,.agg #[.int .u64 p,vt],x,vs] w λe w'=>e=.returned (.int .i64 (Wa k (p,r) m sg))∧N0 w w':=by
 have hf:=hm.form;obtain⟨ap,cp,ep⟩:=hm.prev.len;obtain⟨ae,ce,ee⟩:=hm.es.len;obtain⟨ar,cr,er⟩:=hm.root.len;obtain⟨hd,ct,et⟩:=bt.len;subst ep ee er hf et;obtain⟨w0,hg⟩:=EX ((w.alloc (.cells #[.int .u64 p,.slice hd r.length ct] 31)).alloc (.cells #[.int .u64 m.ver,.slice ap m.prev.length cp,.slice ae m.es.length ce,.slice ar m.root.length cr] 69))
 have o0:N0 w w0:=by rw[hg];exact (VG.alloc _).alloc _
 have gP:w0.heap[w.heap.size]? = some (.cells #[.int .u64 p,.slice hd r.length ct] 31 (0,0)):=by rw[hg];exact Y0 (heap_alloc_new _ _)
 have gM:w0.heap[w.heap.size+1]? = some (.cells #[.int .u64 m.ver,.slice ap m.prev.length cp,.slice ae m.es.length ce,.slice ar m.root.length cr] 69 (0,0)):=by rw[hg];exact YH (by simp)
 have CK:=Qa (jg vk vs k sg w0 (bk.past o0) k8 (bs.past o0) s8 hl);have TS:=Qa (λW=>Xa (.int .u64 p) hd r.length ct W);have EQ:=Qa (λW (o:N0 w W)=>U1 (.slice ar m.root.length cr) (.slice hd r.length ct) m.root r W (hm.root.past o) (bt.past o) m8 r8);have HW:=Qa (Vz hg (Vz o0 (Vz gP gM)));obtain⟨e,he⟩:=EX (UR k sg)
 have hT:Wa k (p,r) m sg=if e=0 then (if r.length=0 then 0 else if m.ver<p then 6 else if m.ver=p∧m.root≠r then 7 else 0) else 5:=by rw[he];rfl
 rw[hT];rw[<-he] at CK;obtain⟨n,hn⟩:=EX r.length;obtain⟨q,hq⟩:=EX m.root.length;rw[<-hn] at HW TS EQ ⊢;rw[<-hq] at HW EQ ⊢;clear bk k8 bt r8 hm m8 bs s8 hl hg o0 gP gM he hT hn hq
 by_cases h1:e=0
 ·subst h1
  rw[if_pos rfl]
  by_cases h2:n=0
  ·subst h2
   rw[if_pos rfl];simp only[show decide (0<0)=false from rfl] at TS;go_enter func39,ntmps39;go_wp2_with fail;rw[<-HW.o.1];refine CK.o.mono ?_;rintro e w1 ⟨x1,ho,hk,hj,rfl,mn,o1⟩;have hf:=mn.mf.form;obtain⟨h3,h5,ep⟩:=mn.mf.prev.len;obtain⟨h4,h9,ee⟩:=mn.mf.es.len;obtain⟨h7,h6,er⟩:=mn.mf.root.len;subst ep ee er hf;obtain⟨W2,h0⟩:=EX (w1.alloc (.cells #[.int .u64 (YA k sg).ver,.slice h3 (YA k sg).prev.length h5,.slice h4 (YA k sg).es.length h9,.slice h7 (YA k sg).root.length h6] 69))
   have o2:N0 w0 W2:=by rw[h0];exact o1.alloc _
   obtain⟨c0,c1,_,_⟩:=Qs (o2.heap HW.o.2.2.1 (λf=>f));have h8:=Qa (TS.o W2);have O2:=Qa (HW.o.2.1.same o2);clear mn o1 o2 TS CK EQ;subst h0;go_wp2_with fail;refine h8.o.mono ?_;rintro e w3 ⟨rfl,o3⟩;have F:=Qa (O2.o.same o3);clear h8 o3 O2;go_wp2;go_ret;exact⟨rfl,F.o⟩
  ·rw[if_neg h2]
   simp only[Qe (by omega:0<n)] at TS;obtain⟨t,ht⟩:=EX (decide (m.root=r));simp only[<-ht] at EQ;have d1:decide ((m.ver:Int)<(p:Int))=decide (m.ver<p):=decide_eq_decide.2 (by omega)
   have d2:((m.ver:Int) == (p:Int))=decide (m.ver=p):=by
    by_cases h:m.ver=p
    ·rw[Qe h,h];simp
    ·rw[Qi h,beq_eq_false_iff_ne];omega
   obtain⟨a,ha⟩:=EX (decide (m.ver<p));obtain⟨b,hb⟩:=EX (decide (m.ver=p))
   have hR:(if m.ver<p then (6:Int) else if m.ver=p∧m.root≠r then 7 else 0)=if a=true then 6 else if b=true∧t=false then 7 else 0:=by rw[ha,hb,ht];simp
   rw[hR]
   have hh:¬(a=true∧b=true):=by rw[ha,hb];simp;omega
   have ha':=ha.symm;rw[<-ha] at d1;rw[<-hb] at d2;clear ha hb ht hR h2
   have W1:Hid (∀(v:Int),(if a=true then 6 else if b=true∧t=false then 7 else 0)=v->Calls prog 39 #[vk,.agg #[.int .u64 p,.slice hd n ct],.agg #[.int .u64 m.ver,.slice ap m.prev.length cp,.slice ae m.es.length ce,.slice ar q cr],vs] w λe w'=>e=.returned (.int .i64 v)∧N0 w w'):=by
    intro v hv
    cases ha2:a <;> cases hb2:b <;> cases ht2:t
    all_goals (subst ha2 hb2 ht2)
    all_goals (first|(exact absurd ⟨rfl,rfl⟩ hh) | skip)
    all_goals (simp at hv)
    all_goals (
     subst hv;clear hh;go_enter func39,ntmps39;go_wp2_with fail;rw[<-HW.o.1];refine CK.o.mono ?_;rintro e w1 ⟨x1,ho,hk,hj,rfl,mn,o1⟩;have hf:=mn.mf.form;obtain⟨h3,h5,ep⟩:=mn.mf.prev.len;obtain⟨h4,h9,ee⟩:=mn.mf.es.len;obtain⟨h7,h6,er⟩:=mn.mf.root.len;subst ep ee er hf;obtain⟨W2,h0⟩:=EX (w1.alloc (.cells #[.int .u64 (YA k sg).ver,.slice h3 (YA k sg).prev.length h5,.slice h4 (YA k sg).es.length h9,.slice h7 (YA k sg).root.length h6] 69))
     have o2:N0 w0 W2:=by rw[h0];exact o1.alloc _
     obtain⟨c0,c1,_,_⟩:=Qs (o2.heap HW.o.2.2.1 (λf=>f));have h8:=Qa (TS.o W2);have O2:=Qa (Vz (HW.o.2.1.same o2) o2);clear mn o1 o2 TS CK;subst h0;go_wp2_with fail;refine h8.o.mono ?_;rintro e w3 ⟨rfl,o3⟩;clear c0 c1;obtain⟨c0,c1,_,_⟩:=Qs ((O2.o.2.same o3).heap HW.o.2.2.1 (λf=>f));obtain⟨⟨m0,m1,m2,m3⟩,_⟩:=Yg ((O2.o.2.same o3).heap HW.o.2.2.2 (λf=>f));have EQ1:=Qa (EQ.o w3 (O2.o.1.same o3));have F:=Qa (O2.o.1.same o3);clear h8 o3 O2 EQ;go_wp2_with (first|(go_at_call 40;refine EQ1.o.mono ?_;rintro e w4 ⟨rfl,rfl⟩))
     all_goals (
      go_ret
      exact⟨rfl,F.o⟩))
   exact W1.o _ rfl
 ·rw[if_neg h1]
  have hne:(e != 0)=true:=by simpa using h1
  clear h1 TS EQ;go_enter func39,ntmps39;go_wp2_with fail;rw[<-HW.o.1];refine CK.o.mono ?_;rintro e w1 ⟨x1,ho,hk,hj,rfl,mn,o1⟩;have hf:=mn.mf.form;obtain⟨h3,h5,ep⟩:=mn.mf.prev.len;obtain⟨h4,h9,ee⟩:=mn.mf.es.len;obtain⟨h7,h6,er⟩:=mn.mf.root.len;subst ep ee er hf;have F:=Qa (HW.o.2.1.same (o1.alloc (.cells #[.int .u64 (YA k sg).ver,.slice h3 (YA k sg).prev.length h5,.slice h4 (YA k sg).es.length h9,.slice h7 (YA k sg).root.length h6] 69)));clear mn o1 CK;go_wp2;go_ret;exact⟨rfl,F.o⟩
theorem ux (m:LI) (p:Nat) (r:LI) (v n:Nat):(if m.length=32∧(r.length=0∨r.length=32)∧v≠18446744073709551615 then (if 0<r.length∧v<=p then (6:Int) else if 1048576<n then 4 else 0) else 1)=Ug m (p,r) v n:=rfl
structure BU (w w':World) (u ru:Value) (t r:LI):Prop where
 t:w'.ownsRow w.heap.size 5 1 u t.length (bl t)
 r:Bs .u8 w' ru r
 nr:NoCap ru
 lo:∀k,ru.ownBlock=some k->w.heap.size<=k
 o:N0 w w'
theorem ED.all {N n:Nat} {es:Nat->LI × Int} (h:ED w N n n es):Ens w (.slice (some ⟨N,0,none⟩) n n) ((List.range n).map es):=by
 unfold ED at h;rw[Nat.sub_self,List.replicate_zero,List.append_nil] at h;exact Ens.of_own (lo:=N) (E:=93) (by simpa using h)
theorem BU.no (o:N0 w w'):BU w w' NIL NIL [] []:=⟨Xh,Bs.nil _ _,NoCap.nil,(λk hk=>by cases hk),o⟩
theorem PM (vm vr vl:Value) (m r:LI) (p v:Nat) (l:List Qj) (w:World) (bm:Bs .u8 w vm m) (m8:U8 m) (br:Bs .u8 w vr r) (nr:NoCap vr) (r8:U8 r) (hc:Chs w vl l) (hg:CL l) (hl:l.length<=100) (hv:v<18446744073709551616) (hT:Tab w) :
 Calls prog 10 #[vm,.agg #[.int .u64 p,vr],.int .u64 v,vl] w λe w'=>∃u ru,e=.returned (.tuple #[u,.agg #[.int .u64 (UP m (p,r) v l).1,ru],.int .i64 (Yc m (p,r) v l)])∧BU w w' u ru (Q9 m (p,r) v l) (UP m (p,r) v l).2:=by
 obtain⟨ar,cr,rfl⟩:=br.len;obtain⟨am,cm,rfl⟩:=bm.len;obtain⟨al,cl,rfl,_⟩:=hc.len;obtain⟨w0,h8⟩:=EX ((w.alloc (.cells #[.int .u64 p,.slice ar r.length cr] 31)).alloc (.cells #[.int .u64 0,.slice none 0 0] 31))
 have o0:N0 w w0:=by rw[h8];exact (VG.alloc _).alloc _
 have gP:Hid (w0.heap[w.heap.size]? = some (.cells #[.int .u64 p,.slice ar r.length cr] 31 (0,0))):=by
  show _=_
  rw[h8];exact Y0 (heap_alloc_new _ _)
 have gR:Hid (w0.heap[w.heap.size+1]? = some (.cells #[.int .u64 0,.slice none 0 0] 31 (0,0))):=by
  show _=_
  rw[h8];exact YH (by simp)
 obtain⟨p0,p1,_,_⟩:=Qs gP.o;have MA:=Qa (tP am m.length cm p ar r.length cr v l.length w0);rw[ux] at MA;have HB:=Qa (Vz (bm.past o0) (Vz (br.past o0) (Vz (hc.past o0) (hT.past o0))));have HI:=Qa (Vz m8 (Vz nr (Vz r8 (Vz hg (Vz hl hv)))));have HW:=Qa h8;have O0:=Qa o0
 have hd:Hid (w0.heap.size=w.heap.size+2):=by show _=_;rw[h8];simp
 have R0:Hid (w.heap.size<=w.heap.size+1):=by show _<=_;omega
 obtain⟨L,hL⟩:=EX l.length;obtain⟨M,hM⟩:=EX m.length;obtain⟨rl,ha⟩:=EX r.length;rw[<-hL,<-hM,<-ha] at MA HB;rw[<-ha] at gP HW p1 HI;rw[<-hL,<-hM,<-ha];have HL:=Qa (Vz hL (Vz hM ha));clear h8 o0 bm m8 br nr r8 hc hg hl hv hT hL hM ha
 by_cases h1:Ug m (p,r) v L=0
 ·rw[h1] at MA
  have SA:=Qa (λW (o:N0 w0 W)=>qN (.slice am M cm) (.slice al L cl) m v l W (HB.o.1.past o) HI.o.1 (HB.o.2.2.1.past o) HI.o.2.2.2.1 (by have:=HI.o.2.2.2.2.1;omega) (HB.o.2.2.2.past o))
  have eE:Yc m (p,r) v l=Ya m 0 l:=by unfold Yc;rw[<-HL.o.1,if_pos h1]
  obtain⟨q1,q2,q3,q4,q5⟩:=VY h1
  by_cases h2:Ya m 0 l=0
  ·have eA:Yc m (p,r) v l=0:=by rw[eE,h2]
   have eT:Q9 m (p,r) v l=blk (QJ m (p,r) v l)++(QI m v l l.length).flatten:=by unfold Q9;rw[if_pos eA]
   have eR:UP m (p,r) v l=(v,QG (QI m v l l.length)):=by unfold UP;rw[if_pos eA]
   have hf:∀c∈l,CG c:=λc hc=>(HI.o.2.2.2.1 c hc).1
   have hr:Ut (QD m r v l):=VH (s:=(p,r)) HI.o.2.2.2.2.2 HI.o.2.2.1 hf eA;have hq:Mok (QD m r v l):=CP (s:=(p,r)) HI.o.2.2.2.2.2 HI.o.2.2.1 hf
   have k2:(QD m r v l).es.length<=100:=by show (Uz m l l.length).length<=100;rw[Vb];exact HI.o.2.2.2.2.1
   have hp:WN m (QD m r v l)=0:=by unfold WN;rw[if_pos q1];exact (Jv hq).2 hr
   have eS:Wd m (QD m r v l)=QJ m (p,r) v l:=by unfold Wd;rw[if_pos hp];rfl
   have hu:(QJ m (p,r) v l).length<=10032:=by have:=PT hr k2;unfold QJ;rw[Qb,Y6];show (MENC (QD m r v l)).length+32<=_;omega
   have RT:=Qa (λ(W:World) (x:Value) (h:RL W x (QI m v l l.length))=>Lp x (QI m v l l.length) W h (Je hf _) (by rw[VP];have:=HI.o.2.2.2.2.1;omega));have PV:=Qa (λW (o:N0 w0 W)=>yT (.int .u64 p) (.slice ar rl cr) r W (HB.o.2.1.past o) HI.o.2.1);have SG:=Qa (λW (o:N0 w0 W) (x vp ve vr:Value) (h:Mf W x (QD m r v l) vp ve vr) (np:NoCap vp) (nr:NoCap vr)=>A6 (.slice am M cm) x vp ve vr m (QD m r v l) W (HB.o.1.past o) HI.o.1 h hq np nr (by omega));simp only[hp,eS] at SG;have BK:=Qa (λ(W:World) (x:Value) (h:Bs .u8 W x (QJ m (p,r) v l)) (n:NoCap x)=>Ke x (QJ m (p,r) v l) W h n (by omega));have HG:Hid ((QJ m (p,r) v l).length<=10032∧(blk (QJ m (p,r) v l)).length<=20000∧0<(blk (QJ m (p,r) v l)).length):=⟨hu,by have:=U2 (QJ m (p,r) v l) (by omega);omega,by unfold blk;rw[Qb];have:=Zc (QJ m (p,r) v l).length;omega⟩;rw[eA,eT,eR];rw[h2] at SA;have hx:=Qa h2;have HQ2:=Qa q2;have eRT:(QD m r v l).root=QG (QI m v l l.length):=rfl;have eVR:(QD m r v l).ver=v:=rfl;clear h1 h2 eE eA eT eR hr hq k2 hp eS hu q1 q2 q3 q4 q5 hf;go_enter func10,ntmps10;go_wp2_with fail;rw[<-HW.o];refine MA.o.mono ?_;rintro e w1 ⟨rfl,o1⟩;have S1:=Qa (SA.o w1 o1);have O1:=Qa o1;clear MA SA o1 p0 p1;go_wp2_with fail;refine S1.o.mono ?_;rintro e w2 ⟨a,b,rfl,sa,_,o2⟩;obtain⟨N1,N2,rfl,rfl,n1,n2,ld,ed⟩:=sa hx.o;rw[<-HL.o.1] at ld ed;have O2:=Qa (O1.o.same o2);have D9S:Hid (w0.heap.size<=w2.heap.size):=O2.o.size;have hw:=Qa (RT.o w2 (.slice (some ⟨N1,0,none⟩) L L) (by have:=ld.all;rw[HL.o.1] at this ⊢;exact this));have D2:=Qa (Vz ld (Vz ed (Vz (show w.heap.size+2<=N1 by have:=O1.o.size;have:=hd.o;omega) (show w.heap.size<=N2 by have:=O0.o.size;have:=O1.o.size;omega))));rw[<-HL.o.1];clear sa o2 S1 ld ed n1 n2 RT O1 hx;go_wp2_with fail;refine hw.o.mono ?_;rintro e w3 ⟨ro,rfl,h4,o3⟩;have O3:=Qa (O2.o.same o3);obtain⟨p0,p1,_,_⟩:=Qs (O3.o.heap gP.o (λf=>f));have hy:=Qa (PV.o w3 O3.o);have D3:=Qa (Vz (D2.o.1.past o3) (Vz (D2.o.2.1.past o3) (Vz D2.o.2.2.1 (Vz D2.o.2.2.2 h4))));obtain⟨a3,c3,rfl⟩:=QK h4;clear h4 o3 hw O2 D2 PV;go_wp2_with fail;refine hy.o.mono ?_;rintro e w4 ⟨pv,rfl,bp,np,o4⟩;obtain⟨a4,c4,rfl,_⟩:=bp.formN (n:=32) (Tp (by have:=HQ2.o;exact this));obtain⟨W5,hj⟩:=EX (w4.alloc (.cells #[.int .u64 v,.slice a4 32 c4,.slice (some ⟨N2,0,none⟩) L L,.slice a3 32 c3] 69))
   have o5:N0 w4 W5:=by rw[hj];exact VG.alloc _
   have g5:W5.heap[w4.heap.size]? = some (.cells #[.int .u64 v,.slice a4 32 c4,.slice (some ⟨N2,0,none⟩) L L,.slice a3 32 c3] 69 (0,0)):=by rw[hj];exact heap_alloc_new _ _
   have hld:=YQ g5;obtain⟨⟨y0,y1,y2,y3⟩,_⟩:=Yg g5;have h7:=o4.same o5;have O5:=Qa (O3.o.same h7)
   have hz:=Qa (SG.o W5 O5.o _ (.slice a4 32 c4) (.slice (some ⟨N2,0,none⟩) L L) (.slice a3 32 c3)
    ⟨rfl,bp.past o5,by
     have h:=D3.o.2.1.past h7;rw[HL.o.1] at h ⊢
     exact h.all,by
     have h:=h7.own D3.o.2.2.2.2 (λ_ _ f=>f)
     exact Bs.of_own (k:=.u8) (E:=5) (lo:=w2.heap.size) (by rw[eRT,Um];exact h)⟩ np (NoCap.of_own D3.o.2.2.2.2))
   have D5:=Qa (Vz (D3.o.1.past h7) (Vz D3.o.2.2.1 (h7.own D3.o.2.2.2.2 (λ_ _ f=>f))));have H5:=Qa (Vz hj D3.o.2.2.2.2);clear bp np o4 o5 h7 g5 hy D3 O3 SG p0 p1 hj;go_wp2_with fail;rw[<-H5.o.1];refine hz.o.mono ?_;rintro e w6 ⟨sg,rfl,h6,o6⟩;have O6:=Qa (O5.o.same o6);have k0:=Qa (BK.o w6 sg (Bs.of_own h6) (NoCap.of_own h6));have D6:=Qa (Vz (D5.o.1.past o6) (Vz D5.o.2.1 (o6.own D5.o.2.2 (λ_ _ f=>f))));clear h6 o6 hz O5 D5 BK hld y0 y1 y2 y3;go_wp2_with fail;refine k0.o.mono ?_;rintro e w7 ⟨x7,rfl,h3,o7⟩;obtain⟨a7,c7,rfl⟩:=QK h3;obtain⟨ho,h5⟩:=EX ((blk (QJ m (p,r) v l)).length);obtain⟨W8,hm⟩:=EX (w7.alloc (.cells #[.slice a7 ho c7] 23))
   have o8:N0 w7 W8:=by rw[hm];exact VG.alloc _
   have c8:W8.cell? ⟨w7.heap.size,0,none⟩=some (.slice a7 ho c7):=(UE (T:=23) (by rw[hm];exact heap_alloc_new _ _)).1;have hh:=o7.same o8;obtain⟨vs,hs,he⟩:=(D6.o.1.past hh).ex;rw[Nat.sub_self,List.replicate_zero,List.append_nil] at he;have hNb:=XF he
   obtain⟨cs8,k1⟩:∃cs,W8.heap[N1]? = some (.cells cs 23):=by
    rcases he.2 with ⟨e,_⟩ | ⟨g,cap,cur,e,_,hg,_⟩
    ·cases e
    ·cases e;exact⟨_,hg⟩
   have IN:=Qa (uV N1 w7.heap.size L N1 (.slice a7 ho c7) vs W8 (by have:=HI.o.2.2.2.2.1;have:=HL.o.1;omega) he hs.one' c8 rfl (by omega));have D8:=Qa (Vz hs (Vz k1 (Vz D6.o.2.1 (Vz (hh.own D6.o.2.2 (λ_ _ f=>f)) (Vz (o8.own h3 (λ_ _ f=>f)) (O6.o.same hh))))));have H8:=Qa (Vz hm h5);rw[<-h5];clear h3 o7 o8 c8 hh hs he hNb k1 k0 D6 O6 hm h5;go_wp2_with fail;rw[<-H8.o.1];refine IN.o.mono ?_;rintro e w9 ⟨B,C,rfl,h9,o9⟩;have O9:=Qa ((D8.o.2.2.2.2.2).trans o9 (λi hi e=>by have:=D8.o.2.2.1;have:=hd.o;omega));have PC:=Qa (OR (ls:=QI m v l l.length) h9 (by have:=HI.o.2.2.2.2.1;have:=HL.o.1;omega) ⟨w6.heap.size,JQ o9 D8.o.2.1 (by rw[H8.o.2];exact D8.o.2.2.2.2.1)⟩ (by have:=D8.o.1.off o9 D8.o.2.1;rw[HL.o.1] at this;exact this) HG.o.2.2 (by have:=HG.o.2.1;omega) Pl);have D9:=Qa (JQ o9 D8.o.2.1 D8.o.2.2.2.1);clear h9 o9 IN D8;go_wp2_with fail;refine PC.o.mono ?_;rintro e k3 ⟨u,rfl,h0,hn⟩;have ht:=Qa (O9.o.same hn);have g1:=ht.o.heap gR.o (λf=>f);obtain⟨q0,q1,z0,z1⟩:=Qs g1;have P2:=put2 g1 (.int .u64 (v:Int)) (.slice a3 32 c3)
   have HR:∀{lo n:Nat} {x:Value} {xs:List Value} {b:Nat},k3.ownsRow lo 5 1 x n xs->∀k,x.ownBlock=some k->¬k=w.heap.size+1:=by
    intro lo n x xs _ h k hk e;subst e
    rcases h.2 with ⟨rfl,_⟩ | ⟨g,cap,cur,rfl,_,hg,_⟩
    ·cases hk
    ·cases hk;rw[g1] at hg;cases hg
   have hb:=hn.own D9.o (λ_ _ f=>f)
   have F:=Qa (Vz (VT P2.1) (show BU w ((k3.setCell ⟨w.heap.size+1,0,none⟩ (.int .u64 (v:Int))).setCell ⟨w.heap.size+1,1,none⟩ (.slice a3 32 c3)) u (.slice a3 32 c3) (blk (QJ m (p,r) v l)++(QI m v l l.length).flatten) (QG (QI m v l l.length)) from by
    refine⟨Qr (P2.2.own h0 (HR (b:=0) h0)) (by have:=O0.o.size;have:=O9.o.size;omega),?_,NoCap.of_own hb,λk hk=>?_,(O0.o.same ht.o).trans P2.2 (λi hi e=>by omega)⟩
    ·exact Bs.of_own (k:=.u8) (E:=5) (lo:=w2.heap.size) (by rw[Um];exact P2.2.own hb (HR (b:=0) hb))
    ·have h1:=(hb.lt k hk).1
     have:=O0.o.size;have:=D9S.o
     omega))
   clear P2 g1 h0 hn PC HR hb;go_wp2;exact bodyPost_ret (Zq rfl _ _ rfl rfl rfl F.o.1) rfl ⟨_,_,rfl,F.o.2⟩
  ·have eT:Q9 m (p,r) v l=[]:=by unfold Q9;rw[eE,if_neg h2]
   have eR:UP m (p,r) v l=(0,[]):=by unfold UP;rw[eE,if_neg h2]
   rw[eE,eT,eR]
   have hne:(Ya m 0 l != 0)=true:=by simpa using h2
   clear h1 eE eT eR h2 q1 q2 q3 q4 q5;generalize Ya m 0 l=c at *;go_enter func10,ntmps10;go_wp2_with fail;rw[<-HW.o];refine MA.o.mono ?_;rintro e w1 ⟨rfl,o1⟩;have S1:=Qa (SA.o w1 o1);have O1:=Qa o1;clear MA SA o1 p0 p1;go_wp2_with fail;refine S1.o.mono ?_;rintro e w2 ⟨a,b,rfl,_,_,o2⟩;have g1:=(O1.o.same o2).heap gR.o (λf=>f);obtain⟨q0,q1,z0,z1⟩:=Qs g1;have P2:=put2 g1 (.int .u64 0) (.slice none 0 0);have F:=Qa (Vz (VT P2.1) ((O0.o.same (O1.o.same o2)).trans P2.2 (λi hi e=>by omega)));clear P2 g1 S1 o2;go_wp2;refine bodyPost_ret (Zq rfl _ _ rfl rfl rfl F.o.1) rfl ⟨_,_,rfl,BU.no F.o.2⟩
 ·have eE:Yc m (p,r) v l=Ug m (p,r) v L:=by unfold Yc;rw[<-HL.o.1,if_neg h1]
  have eT:Q9 m (p,r) v l=[]:=by unfold Q9;rw[eE,if_neg h1]
  have eR:UP m (p,r) v l=(0,[]):=by unfold UP;rw[eE,if_neg h1]
  rw[eE,eT,eR]
  have hne:(Ug m (p,r) v L != 0)=true:=by simpa using h1
  clear eE eT eR h1;generalize Ug m (p,r) v L=c at *;go_enter func10,ntmps10;go_wp2_with fail;rw[<-HW.o];refine MA.o.mono ?_;rintro e w1 ⟨rfl,o1⟩;have g1:=o1.heap gR.o (λf=>f);obtain⟨q0,q1,z0,z1⟩:=Qs g1;have P2:=put2 g1 (.int .u64 0) (.slice none 0 0);have F:=Qa (Vz (VT P2.1) ((O0.o.same o1).trans P2.2 (λi hi e=>by omega)));clear P2 g1 MA o1;go_wp2;refine bodyPost_ret (Zq rfl _ _ rfl rfl rfl F.o.1) rfl ⟨_,_,rfl,BU.no F.o.2⟩
def Jn (vk:Value) (m:MAN) (ls:List (LI)) (cs:List Qj) (w:World):Prop :=
 ∀(W:World) (x vp ve vr a:Value) (vs:List Value) (lo:Nat),N0 w W->Mf W x m vp ve vr->LO W vs ls->W.ownsRow lo 23 1 a ls.length vs ->
  Calls prog 41 #[vk,x,a] W λe w'=>∃c,e=.returned (.tuple #[c,.int .i64 0])∧(∀(W':World) (R:Nat),R<W.heap.size->Only (λk=>k=R) w' W'->Chs W' c cs)∧N0 W w'
theorem Po {b sg:LI} {m:MAN} (h8:U8 b) (h:Wv b=.ok (m,sg,ls)):Ut m∧U8 sg∧sg.length<=268435456:=by
 obtain⟨k,hs,h32,hm,hcut⟩:=L3 h;have h0:=Pg h8 hs;refine⟨(Sh (h0.take _) hm).1,h0,?_⟩;unfold Qp at hs;rw[if_neg (by omega)] at hs
 split at hs
 ·simp only[Prod.mk.injEq] at hs;rw[<-hs.1];simp
 ·split at hs
  ·simp only[Prod.mk.injEq] at hs;omega
  ·split at hs
   ·simp only[Prod.mk.injEq] at hs;omega
   ·simp only[Prod.mk.injEq] at hs;rw[<-hs.1,Qg];omega
theorem Pr (vk vt vb:Value) (k r b sg:LI) (p:Nat) (m:MAN) (ls:List (LI)) (cs:List Qj) (w:World) (bk:Bs .u8 w vk k) (k8:U8 k) (bt:Bs .u8 w vt r) (r8:U8 r) (hb:Bs .u8 w vb b) (b8:U8 b) (hl:b.length<=1000000000000)
 (h32:k.length=32) (hr:r.length=0∨r.length=32) (hx:Wv b=.ok (m,sg,ls)) (l8:R8 ls) (ht:ls.length<=1048576) (hroot:QG ls=m.root) (hT:Wa k (p,r) m sg=0) (hU:Jn vk m ls cs w) :
 Calls prog 17 #[vk,.agg #[.int .u64 p,vt],vb] w λe w'=>∃c rv,e=.returned (.tuple #[c,.agg #[.int .u64 m.ver,rv],.int .i64 0])∧Chs w' c cs∧Bs .u8 w' rv m.root∧NoCap rv∧N0 w w':=by
 obtain⟨hG,hp,hsl⟩:=Po b8 hx;obtain⟨ak,ck,ek⟩:=bk.len;obtain⟨h6,ct,et⟩:=bt.len;subst ek et;obtain⟨w0,h4⟩:=EX ((w.alloc (.cells #[.int .u64 p,.slice h6 r.length ct] 31)).alloc (.cells #[.int .u64 0,.slice none 0 0] 31))
 have o0:N0 w w0:=by rw[h4];exact (VG.alloc _).alloc _
 have gP:Hid (w0.heap[w.heap.size]? = some (.cells #[.int .u64 p,.slice h6 r.length ct] 31 (0,0))):=by show _=_;rw[h4];exact Y0 (heap_alloc_new _ _)
 have gR:Hid (w0.heap[w.heap.size+1]? = some (.cells #[.int .u64 0,.slice none 0 0] 31 (0,0))):=by show _=_;rw[h4];exact YH (by simp)
 obtain⟨p0,p1,_,_⟩:=Qs gP.o;have RI:=Qa (JI (.int .u64 p) h6 r.length ct w0);rw[Qe hr] at RI;have SP:=Qa (λW (o:N0 w W)=>Sg vb b W (hb.past o) b8 hl hx);have TR:=Qa (λW (o:N0 w W) (x vp ve vr vs:Value) (hm:Mf W x m vp ve vr) (hv:Bs .u8 W vs sg)=>Sx (.slice ak k.length ck) (.slice h6 r.length ct) x vp ve vr vs k r sg p m W (bk.past o) k8 (bt.past o) r8 hm hG.2.2.1.2 hv hp (by omega));simp only[hT] at TR;have RT:=Qa (λ(W:World) (x:Value) (h:RL W x ls)=>Lp x ls W h l8 (by omega));have EQ:=Qa (λ(W:World) (x y:Value) (h1:Bs .u8 W x (QG ls)) (h2:Bs .u8 W y m.root)=>U1 x y (QG ls) m.root W h1 h2 (Zn ls) hG.2.2.1.2);simp only[Qe hroot] at EQ;have UA:=Qa hU;have HW:=Qa (Vz h4 o0)
 have hsz:Hid (w0.heap.size=w.heap.size+2):=by show _=_;rw[h4];simp
 have d1:((k.length:Int) != 32)=false:=by rw[h32];rfl
 obtain⟨M,hM⟩:=EX k.length;obtain⟨n,hn⟩:=EX r.length;rw[<-hM] at d1 TR UA ⊢;rw[<-hn] at RI TR gP HW p1 ⊢;have HL:=Qa (Vz ht (Vz (Um ls) hroot));clear bk k8 bt r8 hb b8 hl h32 hr hx l8 ht hroot hT hU hG hp hsl h4 o0 hM hn;go_enter func17,ntmps17;go_wp2_with fail;rw[<-HW.o.1];refine RI.o.mono ?_;rintro e w1 ⟨rfl,o1⟩;have hs:=Qa (SP.o w1 (HW.o.2.same o1));have O1:=Qa o1;clear RI SP o1 p0 p1;go_wp2_with fail;refine hs.o.mono ?_;rintro e w2 ⟨x,vp,ve,vr,u,a,rfl,sw⟩;have hf:=sw.mn.mf.form;obtain⟨ap,cp,ep⟩:=sw.mn.mf.prev.len;obtain⟨ae,ce,ee⟩:=sw.mn.mf.es.len;obtain⟨ar,cr,er⟩:=sw.mn.mf.root.len;subst ep ee er hf;obtain⟨vs,lo,own⟩:=sw.ls;obtain⟨aa,ca,ea⟩:=QK own;subst ea;obtain⟨W3,hg⟩:=EX (w2.alloc (.cells #[.int .u64 m.ver,.slice ap m.prev.length cp,.slice ae m.es.length ce,.slice ar m.root.length cr] 69))
 have o3:N0 w2 W3:=by rw[hg];exact VG.alloc _
 have h5:N0 w0 W3:=(O1.o.same sw.o).same o3
 have gM:=show W3.heap[w2.heap.size]? = some (.cells #[.int .u64 m.ver,.slice ap m.prev.length cp,.slice ae m.es.length ce,.slice ar m.root.length cr] 69 (0,0)) by rw[hg];exact heap_alloc_new _ _
 have h9:=YQ gM;obtain⟨⟨y0,y1,y2,y3⟩,_⟩:=Yg gM;obtain⟨p0,p1,_,_⟩:=Qs (h5.heap gP.o (λf=>f));have hu:=Qa (TR.o W3 (HW.o.2.same h5) _ (.slice ap m.prev.length cp) (.slice ae m.es.length ce) (.slice ar m.root.length cr) u (sw.mn.mf.past o3) (sw.sg.past o3));have H3:=Qa (Vz h5 (Vz gM (Vz (sw.mn.mf.past o3) (Vz (lo.past o3) (Vz (o3.own own (λ_ _ f=>f)) sw.mn.nr)))));clear sw lo own o3 h5 gM TR hs O1;subst hg;go_wp2_with fail;refine hu.o.mono ?_;rintro e w4 ⟨rfl,o4⟩;have hd:=o4.heap H3.o.2.1 (λf=>f);clear y0 y1 y2 y3 h9 p0 p1;obtain⟨⟨y0,y1,y2,y3⟩,_⟩:=Yg hd;have H4:=Qa (Vz (H3.o.1.same o4) (Vz hd (Vz (H3.o.2.2.1.past o4) (Vz (H3.o.2.2.2.1.past o4) (Vz (o4.own H3.o.2.2.2.2.1 (λ_ _ f=>f)) H3.o.2.2.2.2.2)))));have ho:=Qa (λW (o:N0 w4 W)=>((H4.o.2.2.2.1.past o).rl (lo:=w1.heap.size) (by rw[H4.o.2.2.2.1.1];exact o.own H4.o.2.2.2.2.1 (λ_ _ f=>f))).1);have ha:=Qa (λW (o:N0 w4 W)=>H4.o.2.2.1.root.past o);have hk:=Qa (λW (o:N0 w4 W)=>RT.o W _ (ho.o W o));clear o4 hd hu H3 RT ho;go_wp2_with fail
 go_region_held3 (λW=>W.cell? ⟨w2.heap.size,3,none⟩=some (.slice ar m.root.length cr)) (go_keep)
  (first
   | (go_at_call 23;refine (hk.o _ (VG.drew)).mono ?_;rintro e w5 ⟨u5,rfl,h0,o5⟩;have O5:=Qa (((Only.refl (λ_=>False) w4).drew).same o5);have k3:=Uw y3 O5.o;obtain⟨a5,c5,rfl⟩:=QK h0;have B5:=Qa (show Bs .u8 w5 (.slice a5 32 c5) (QG ls) from Bs.of_own (k:=.u8) (E:=5) (lo:=w4.drew.heap.size) (by rw[HL.o.2.1];exact h0));clear h0 o5 y0 y1 y2 y3 hk)
   | (go_at_call 40;refine (EQ.o w5 _ _ B5.o (ha.o w5 O5.o)).mono ?_;rintro e w6 ⟨rfl,rfl⟩;clear B5 EQ)
   | fail)
 have h7:=O5.o.heap H4.o.2.1 (λf=>f);have h9:=YQ h7;clear k3;obtain⟨⟨y0,y1,y2,y3⟩,_⟩:=Yg h7;have hq:=Qa (UA.o w5 _ (.slice ap m.prev.length cp) (.slice ae m.es.length ce) (.slice ar m.root.length cr) (.slice aa ls.length ca) vs w1.heap.size (HW.o.2.same (H4.o.1.same O5.o)) (H4.o.2.2.1.past O5.o) (H4.o.2.2.2.1.past O5.o) (O5.o.own H4.o.2.2.2.2.1 (λ_ _ f=>f)));have H5:=Qa (Vz (H4.o.1.same O5.o) (Vz h7 (Vz (ha.o w5 O5.o) H4.o.2.2.2.2.2)));clear h7 H4 O5 ha UA;go_wp2_with fail;refine hq.o.mono ?_;rintro e w7 ⟨c,rfl,hh,o7⟩;have hj:=H5.o.1.same o7
 have he:w.heap.size+1<w5.heap.size:=by have:=hsz.o;have:=H5.o.1.size;omega
 obtain⟨ac,lc,cc,rfl⟩:∃a n c',c=.slice a n c':=by
  obtain⟨a,c',e,_⟩:=(hh w7 (w.heap.size+1) he VG).len;exact⟨_,_,_,e⟩
 have h8:=o7.heap H5.o.2.1 (λf=>f);clear h9 y0 y1 y2 y3;obtain⟨⟨y0,y1,y2,y3⟩,_⟩:=Yg h8;have h3:=hj.heap gR.o (λf=>f);obtain⟨q0,q1,z0,z1⟩:=Qs h3;have P2:=put2 h3 (.int .u64 m.ver) (.slice ar m.root.length cr)
 have hne:¬w2.heap.size=w.heap.size+1:=by
  intro e;rw[e] at h8;rw[h8] at h3;simp at h3
 have F:=Qa (Vz (VT (show ((((w7.setCell ⟨w.heap.size+1,0,none⟩ (.int .u64 m.ver)).setCell ⟨w.heap.size+1,1,none⟩ (.slice ar m.root.length cr)).drew).heap[w.heap.size+1]? = _) from P2.1)) (Vz (hh _ _ he P2.2.drew) (Vz (((H5.o.2.2.1.past o7).offB (g:=w.heap.size+1) (T:=31) (cs:=[.int .u64 0,.slice none 0 0]) h3 (λy hy x=>by simp at hy;rcases hy with rfl | rfl <;> simp) P2.2.drew)) (Vz H5.o.2.2.2 ((HW.o.2.same hj).trans P2.2.drew (λi hi e=>by omega))))));clear hh o7 hj hq h8 h3 P2 H5 he;go_wp2;go_region;go_wp2;exact bodyPost_ret (Zq rfl _ _ rfl rfl rfl F.o.1) rfl ⟨_,_,rfl,F.o.2⟩
theorem Ib (vk vt vb:Value) (k r b sg:LI) (p:Nat) (m:MAN) (ls:List (LI)) (w:World) (bk:Bs .u8 w vk k) (k8:U8 k) (bt:Bs .u8 w vt r) (r8:U8 r) (hb:Bs .u8 w vb b) (b8:U8 b) (hl:b.length<=1000000000000)
 (h32:k.length=32) (hr:r.length=0∨r.length=32) (hx:Wv b=.ok (m,sg,ls)) {c:Int} (hT:Wa k (p,r) m sg=c) (hc:c≠0) :
 Calls prog 17 #[vk,.agg #[.int .u64 p,vt],vb] w λe w'=>e=.returned (.tuple #[NIL,.agg #[.int .u64 0,NIL],.int .i64 c])∧N0 w w':=by
 obtain⟨hG,h6,hsl⟩:=Po b8 hx;obtain⟨ak,ck,ek⟩:=bk.len;obtain⟨h2,ct,et⟩:=bt.len;subst ek et;obtain⟨w0,h0⟩:=EX ((w.alloc (.cells #[.int .u64 p,.slice h2 r.length ct] 31)).alloc (.cells #[.int .u64 0,.slice none 0 0] 31))
 have o0:N0 w w0:=by rw[h0];exact (VG.alloc _).alloc _
 have gP:Hid (w0.heap[w.heap.size]? = some (.cells #[.int .u64 p,.slice h2 r.length ct] 31 (0,0))):=by show _=_;rw[h0];exact Y0 (heap_alloc_new _ _)
 have gR:Hid (w0.heap[w.heap.size+1]? = some (.cells #[.int .u64 0,.slice none 0 0] 31 (0,0))):=by show _=_;rw[h0];exact YH (by simp)
 obtain⟨p0,p1,_,_⟩:=Qs gP.o;have RI:=Qa (JI (.int .u64 p) h2 r.length ct w0);rw[Qe hr] at RI;have SP:=Qa (λW (o:N0 w W)=>Sg vb b W (hb.past o) b8 hl hx);have TR:=Qa (λW (o:N0 w W) (x vp ve vr vs:Value) (hm:Mf W x m vp ve vr) (hv:Bs .u8 W vs sg)=>Sx (.slice ak k.length ck) (.slice h2 r.length ct) x vp ve vr vs k r sg p m W (bk.past o) k8 (bt.past o) r8 hm hG.2.2.1.2 hv h6 (by omega));simp only[hT] at TR
 have hne:(c != 0)=true:=by simpa using hc
 have HW:=Qa (Vz h0 o0)
 have hsz:Hid (w0.heap.size=w.heap.size+2):=by show _=_;rw[h0];simp
 have d1:((k.length:Int) != 32)=false:=by rw[h32];rfl
 obtain⟨M,hM⟩:=EX k.length;obtain⟨n,hn⟩:=EX r.length;rw[<-hM] at d1 TR ⊢;rw[<-hn] at RI TR gP HW p1 ⊢;clear bk k8 bt r8 hb b8 hl h32 hr hx hT hc hG h6 hsl h0 o0 hM hn;go_enter func17,ntmps17;go_wp2_with fail;rw[<-HW.o.1];refine RI.o.mono ?_;rintro e w1 ⟨rfl,o1⟩;have h7:=Qa (SP.o w1 (HW.o.2.same o1));have O1:=Qa o1;clear RI SP o1 p0 p1;go_wp2_with fail;refine h7.o.mono ?_;rintro e w2 ⟨x,vp,ve,vr,u,a,rfl,sw⟩;have hf:=sw.mn.mf.form;obtain⟨ap,cp,ep⟩:=sw.mn.mf.prev.len;obtain⟨ae,ce,ee⟩:=sw.mn.mf.es.len;obtain⟨ar,cr,er⟩:=sw.mn.mf.root.len;subst ep ee er hf;obtain⟨vs,lo,own⟩:=sw.ls;obtain⟨aa,ca,ea⟩:=QK own;subst ea;obtain⟨W3,h4⟩:=EX (w2.alloc (.cells #[.int .u64 m.ver,.slice ap m.prev.length cp,.slice ae m.es.length ce,.slice ar m.root.length cr] 69))
 have o3:N0 w2 W3:=by rw[h4];exact VG.alloc _
 have h1:N0 w0 W3:=(O1.o.same sw.o).same o3
 have gM:=show W3.heap[w2.heap.size]? = some (.cells #[.int .u64 m.ver,.slice ap m.prev.length cp,.slice ae m.es.length ce,.slice ar m.root.length cr] 69 (0,0)) by rw[h4];exact heap_alloc_new _ _
 have hld:=YQ gM;obtain⟨⟨y0,y1,y2,y3⟩,_⟩:=Yg gM;obtain⟨p0,p1,_,_⟩:=Qs (h1.heap gP.o (λf=>f));have h8:=Qa (TR.o W3 (HW.o.2.same h1) _ (.slice ap m.prev.length cp) (.slice ae m.es.length ce) (.slice ar m.root.length cr) u (sw.mn.mf.past o3) (sw.sg.past o3));have H3:=Qa (Vz h1 (Vz gM (Vz (sw.mn.mf.past o3) (Vz (lo.past o3) (Vz (o3.own own (λ_ _ f=>f)) sw.mn.nr)))));clear sw lo own o3 h1 gM TR h7 O1;subst h4;go_wp2_with fail;refine h8.o.mono ?_;rintro e w4 ⟨rfl,o4⟩;have h5:=H3.o.1.same o4;have h3:=h5.heap gR.o (λf=>f);obtain⟨q0,q1,z0,z1⟩:=Qs h3;have P2:=put2 h3 (.int .u64 0) (.slice none 0 0);have F:=Qa (Vz (VT P2.1) ((HW.o.2.same h5).trans P2.2 (λi hi e=>by omega)));clear o4 h8 H3 h5 h3 P2 y0 y1 y2 y3 hld p0 p1;go_wp2;exact bodyPost_ret (Zq rfl _ _ rfl rfl rfl F.o.1) rfl ⟨rfl,F.o.2⟩
theorem Tryz.infoCk:(prog.info? 46).map (λi=>(i.zero,i.size,i.bytes))=some (some (.agg #[.string ⟨#[]⟩,.slice none 0 0]),2,40):=by kernel_rfl
theorem ye (vk:Value) (m:MAN) (w:World):Jn vk m [] [] w:=by
 intro W x vp ve vr a vs lo _ hm hL own;have hf:=hm.form;obtain⟨ap,cp,ep⟩:=hm.prev.len;obtain⟨ae,ce,ee⟩:=hm.es.len;obtain⟨ar,cr,er⟩:=hm.root.len;obtain⟨aa,ca,ea⟩:=QK own;subst ep ee er hf ea;obtain⟨W0,h2⟩:=EX (W.alloc (.cells #[.int .u64 m.ver,.slice ap m.prev.length cp,.slice ae m.es.length ce,.slice ar m.root.length cr] 69));obtain⟨i0,hi,hz0,hz1,hz2⟩:=info_parts Tryz.infoCk;obtain⟨wm,hmk,h1,h3⟩:=run_make_full (P:=prog) W0 W0.heap.size 32 46 i0 (.agg #[.string ⟨#[]⟩,.slice none 0 0]) 2 underlying32 hi hz0 hz1 .i64 .i64 0 (by rw[hz2];omega) (by unfold maxLen;omega) Zu
 have F:=Qa (show N0 W wm from by
  have h0:N0 W W0:=by rw[h2];exact VG.alloc _
  exact h0.grown h3 (λk _ e=>by cases e))
 rw[show ((0:Nat):Int)=0 from rfl] at hmk;clear hm hL own h1 h3;subst h2;go_enter func41,ntmps41;go_wp2
 go_loopw [18] (λi wr=>i=.int .i64 0∧wr=wm) (λi _=>0)
 case atStart=>exact⟨rfl,rfl⟩
 case round =>
  obtain⟨rfl,rfl⟩:=hrel;go_wp2;go_ret2;exact⟨_,rfl,λW' R _ _=>⟨_,_,rfl,Zu,λh=>absurd rfl h⟩,F.o⟩
theorem qE {m:LI} {v:Nat} {l:List Qj} (h:Ya m 0 l=0) {j:Nat} (hj:j<l.length):((QI m v l l.length).getD j []).length=(Yb ((Uz m l l.length).getD j ([],0)).2).toNat+16:=by
 have hc:=ZY l 0 h j hj;rw[Nat.zero_add] at hc;have hs:=(JE hc).2;rw[SQ m v l hj,LF m l hj,MB hs]
 show _=(Yb (Ye _ _ _)).toNat+16
 unfold Ye;rw[if_pos hs,LM]
 rfl
theorem Pj {m:LI} {s:Yl} {v:Nat} {l:List Qj} (hv:v<18446744073709551616) (s8:U8 s.2) (hl:∀c∈l,CG c) (h100:l.length<=100) (h:Yc m s v l=0):(MENC (QD m s.2 v l)).length<=10000 :=
 PT (VH hv s8 hl h) (by show (Uz m l l.length).length<=100;rw[Vb];exact h100)
theorem X9 {m:LI} {s:Yl} {v:Nat} {l:List Qj} (hv:v<18446744073709551616) (s8:U8 s.2) (hl:∀c∈l,CG c) (h100:l.length<=100) (h:Yc m s v l=0):Wv (Q9 m s v l)=.ok (QD m s.2 v l,QJ m s v l,QI m v l l.length):=by
 have hsm:=Pj hv s8 hl h100 h;unfold Q9;rw[if_pos h];refine lw (VH hv s8 hl h) (Y6 _ _) (by omega) ?_ ?_
 ·show (Uz m l l.length).length=_;rw[Vb,VP]
 ·intro j hj
  have hj':j<l.length:=by have:(QD m s.2 v l).es.length=l.length:=Vb _ _ _;omega
  exact qE (V3 h).2 hj'
theorem Hp {m:LI} {s:Yl} {v:Nat} {l:List Qj} (hv:v<18446744073709551616) (s8:U8 s.2) (hl:∀c∈l,CG c) (h:Yc m s v l=0):UR m (QJ m s v l)=0:=by
 have hL:(QJ m s v l).length=(MENC (QD m s.2 v l)).length+32:=by unfold QJ;rw[Qb,Y6]
 unfold UR;rw[if_pos (VY (V3 h).1).1,if_neg (by omega),hL,Nat.add_sub_cancel]
 have e1:(QJ m s v l).take (MENC (QD m s.2 v l)).length=MENC (QD m s.2 v l):=by unfold QJ;exact List.take_left
 have e2:(QJ m s v l).drop (MENC (QD m s.2 v l)).length=MACL (Yz m) (MENC (QD m s.2 v l)):=by unfold QJ;exact List.drop_left
 rw[e1,e2,if_pos rfl];exact (Ek (VH hv s8 hl h)).2
theorem AR_u8 {m:LI} {s:Yl} {v:Nat} {l:List Qj} (hv:v<18446744073709551616) (s8:U8 s.2) (hl:∀c∈l,CG c) (h:Yc m s v l=0):U8 (QJ m s v l)∧U8 (Q9 m s v l):=by
 have hg:U8 (QJ m s v l):=by unfold QJ;exact U8.app (Ti (VH hv s8 hl h)) (VX _ _)
 refine⟨hg,?_⟩;unfold Q9;rw[if_pos h];refine U8.app (Kk _ hg) (λy hy=>?_);obtain⟨x,hx,hy⟩:=List.mem_flatten.1 hy;exact (Je hl _ x hx).1 y hy
theorem Nt {m:LI} {s:Yl} {v:Nat} {l:List Qj} (hv:v<18446744073709551616) (s8:U8 s.2) (hl:∀c∈l,CG c) (h100:l.length<=100) (h:Yc m s v l=0):(QJ m s v l).length=(MENC (QD m s.2 v l)).length+32∧(Q9 m s v l).length<=1000000000:=by
 have hL:(QJ m s v l).length=(MENC (QD m s.2 v l)).length+32:=by unfold QJ;rw[Qb,Y6]
 have hsm:=Pj hv s8 hl h100 h;refine⟨hL,?_⟩;unfold Q9;rw[if_pos h,Qb];have h1:=U2 (QJ m s v l) (by omega);have h2:=Nl (QI m v l l.length) 4194320 Pl;rw[VP] at h2;omega
theorem qA (p q:Nat) (va vb:Value) (xs ys:LI) (w:World) (ha:Bs .u8 w va xs) (hb:Bs .u8 w vb ys) (hl:xs.length<=1000000000) :
 Calls prog 13 #[.agg #[.int .u64 p,va],.agg #[.int .u64 q,vb]] w λe w'=>e=.returned (.bool (decide (p=q∧xs=ys)))∧N0 w w':=by
 obtain⟨aa,ca,rfl⟩:=ha.len;obtain⟨ab,cb,rfl⟩:=hb.len;obtain⟨w0,h0⟩:=EX ((w.alloc (.cells #[.int .u64 p,.slice aa xs.length ca] 31)).alloc (.cells #[.int .u64 q,.slice ab ys.length cb] 31))
 have o0:N0 w w0:=by rw[h0];exact (VG.alloc _).alloc _
 have gA:w0.heap[w.heap.size]? = some (.cells #[.int .u64 p,.slice aa xs.length ca] 31 (0,0)):=by rw[h0];exact Y0 (heap_alloc_new _ _)
 have gB:w0.heap[w.heap.size+1]? = some (.cells #[.int .u64 q,.slice ab ys.length cb] 31 (0,0)):=by rw[h0];exact YH (by simp)
 obtain⟨a0,a1,_,_⟩:=Qs gA;obtain⟨b0,b1,_,_⟩:=Qs gB;have SM:=Qa (tE _ _ xs ys w0 (ha.past o0) (hb.past o0) (by omega));have O:=Qa o0
 by_cases h:p=q
 ·have d1:((p:Int) == (q:Int))=true:=by rw[h];simp
  have e:decide (p=q∧xs=ys)=decide (xs=ys):=decide_eq_decide.2 ⟨λz=>z.2,λz=>⟨h,z⟩⟩;rw[e];obtain⟨t,ht⟩:=EX (decide (xs=ys));rw[<-ht] at SM ⊢;clear ha hb hl o0 gA gB h e ht;subst h0;go_enter func13,ntmps13;go_wp2_with fail;refine SM.o.mono ?_;rintro e w1 ⟨rfl,o1⟩;have F:=Qa (O.o.same o1);clear SM o1 O;go_wp2;go_ret;exact⟨rfl,F.o⟩
 ·have d1:((p:Int) == (q:Int))=false:=by rw[beq_eq_false_iff_ne];omega
  rw[Qi (λz=>h z.1)];clear ha hb hl o0 gA gB h SM;subst h0;go_enter func13,ntmps13;go_wp2;go_ret;exact⟨rfl,O.o⟩
end Go.Proofs.YtiochaeeoelmjaaGreatDoor
