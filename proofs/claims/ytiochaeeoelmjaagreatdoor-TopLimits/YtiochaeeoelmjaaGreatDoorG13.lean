import Derived.Test.YtiochaeeoelmjaaGreatDoorG8
import Derived.Test.YtiochaeeoelmjaaGreatDoorG12
import Derived.Test.YtiochaeeoelmjaaGreatDoorG5
namespace Go.Proofs.YtiochaeeoelmjaaGreatDoor
set_option maxHeartbeats 1000000
set_option maxRecDepth 100000
open Go.RowKit _root_.Go.Proofs.Tryz
section
open Go.Shelf
def Ex {σ:Type} (B:Nat) (I Ix:σ->World->Prop) (s:σ) (W:World):Exit->Act->World->Prop
 | .normal,_,W'=>Only (λk=>k<B) W W'∧I s W'
 | .ret,_,W'=>Only (λk=>k<B) W W'∧Ix s W'
 | _,_,_=>False
theorem Pp {σ α:Type} {P:Program} {n:Nat} {g:Operand} {ps:Array Tmp} {assign body:Code} {Q:Exit->Act->World->Prop} {a:Act} {w:World}
 {gf:Nat} {lb:Array Value} (hg:a.eval g=.func (.func gf) #[] lb) (eg:∀args w,(callFunc gf args).run P w=.ok (.enter gf args) w)
 (encs:α->Array Value) (hps:∀x,(encs x).size=ps.size) (I Ix:σ->World->Prop) (V:σ->α->σ->World->Prop) (s0 s1:σ)
 (hI:∀s A B r,I s A->A.heap[w.heap.size+1]? = some (.loop r)->Only (λk=>k=w.heap.size+1) A B->I s B)
 (hIx:∀s A B r,Ix s A->A.heap[w.heap.size+1]? = some (.loop r)->Only (λk=>k=w.heap.size+1) A B->Ix s B)
 (hIn:∀s A B,I s A->N0 A B->I s B)
 (hV:∀s x s' A B r,V s x s' A->A.heap[w.heap.size+1]? = some (.loop r)->Only (λk=>k=w.heap.size+1) A B->V s x s' B)
 (h0:I s0 w)
 (hit:∀(J Jx:σ->World->Prop) (W:World),(∀s A,J s A->I s A)->(∀s A B,J s A->N0 A B->J s B) ->
  (∀s x s' A,J s A->V s x s' A->YieldAt Fence.wide (n - 1 - 1) P (w.heap.size+1) (encs x) A λe B =>
   (e=.returned (.bool true)∧J s' B∧Only (λk=>k<w.heap.size∨k=w.heap.size+1) A B)∨(e=.returned (.bool false)∧Jx s' B))->J s0 W->w.heap.size+2<=W.heap.size ->
  CallsIn Fence.wide (n - 1) P gf (#[.func (.yield (w.heap.size+1)) #[] #[]]++lb) W λe B=>(∃v,e=.returned v)∧(J s1 B∨∃s,Jx s B))
 (a₁:α->Act)
 (hassign:∀(x:α) (W:World) (K:Act->World->Prop),K (a₁ x) W ->
  assign.wpIn (Fence.wide.inRound (w.heap.size+1)) (n - 1 - 1) P (Exit.then K (λ_ _ _=>False)) { tmps:=(ps.zip (encs x)).foldl (λt (p,v)=>t.setIfInBounds p v) a.tmps,defers:=[] } W)
 (hbody:∀(s:σ) (x:α) (s':σ) (W:World),I s W->V s x s' W->body.wpIn (Fence.wide.inRound (w.heap.size+1)) (n - 1 - 1) P (Ex w.heap.size I Ix s' W) (a₁ x) W)
 (hdone:∀(W:World),I s1 W->W.heap[w.heap.size]? = some (.deferred (some []))->Q .normal { a with defers:={ target:=.collected w.heap.size,args:=#[] } :: a.defers } W)
 (hstop:∀(s:σ) (W:World),Ix s W->W.heap[w.heap.size]? = some (.deferred (some []))->Code.ret.wpIn Fence.wide n P Q { a with defers:={ target:=.collected w.heap.size,args:=#[] } :: a.defers } W) :
 (Code.rangeFunc g ps assign body).wpIn Fence.wide n P Q a w:=by
 refine wpIn_rangeFunc λfn hfn=>?_
 obtain⟨rc,h1⟩:∃rc:LoopState->Option Code->Loop,rc=λst pe=>{ state:=st,pending:=pe,fn,tmps:=a.tmps,params:=ps,assign,body,defers:=w.heap.size }:=⟨_,rfl⟩
 obtain⟨W1,h2⟩:∃W1,(w.alloc (.deferred (some []))).alloc (.loop (rc .ready none))=W1:=⟨_,rfl⟩
 have hL:W1.heap[w.heap.size+1]? = some (.loop (rc .ready none)):=by
  have:=World.alloc_heap_new (w.alloc (.deferred (some []))) (.loop (rc .ready none));rw[World.size_alloc,h2] at this;exact this
 have hD:W1.heap[w.heap.size]? = some (.deferred (some [])):=by
  rw[<-h2];exact (Below.heap_alloc _ _ _ (by simp)).trans (World.alloc_heap_new w _)
 have hO:N0 w W1:=by
  rw[<-h2];exact ((Only.refl _ w).alloc _).alloc _
 have hS1:w.heap.size+2<=W1.heap.size:=by rw[<-h2];simp
 refine⟨w.heap.size+1,[{ target:=.collected w.heap.size,args:=#[] }],W1,{ target:=.fn (.func gf) lb,args:=#[.func (.yield (w.heap.size+1)) #[] #[]] },W1,gf,#[.func (.yield (w.heap.size+1)) #[] #[]]++lb,W1,?_,?_,λ_ _=>trivial,?_,(λh=>by cases h),?_⟩
 ·rw[<-h2,h1]
  exact run_enterLoop_outer _ _ _ _ _
 ·simp only[resolve,hg]
  simp[go_sem]
 ·simp[invoke,go_sem,eg]
 refine (hit (λs W=>I s W∧W.heap[w.heap.size+1]? = some (.loop (rc .ready none))∧W.heap[w.heap.size]? = some (.deferred (some [])))
  (λs W=>Ix s W∧W.heap[w.heap.size+1]? = some (.loop (rc .done (some .ret)))∧W.heap[w.heap.size]? = some (.deferred (some []))) W1 (λ_ _ h=>h.1)
  (λs A B h o=>⟨hIn s A B h.1 o,o.heap h.2.1 (λf=>f),o.heap h.2.2 (λf=>f)⟩) ?_ ⟨hIn _ _ _ h0 hO,hL,hD⟩ hS1).mono ?_
 ·rintro s x s' A ⟨hi,hl,hd⟩ hv
  have hlt:w.heap.size+1<A.heap.size:=(Array.getElem?_eq_some_iff.1 hl).1;have hy:=run_yield (P:=P) (args:=encs x) hl (by rw[h1];exact hps x);rw[h1] at hy;refine⟨fn,_,assign,body,hy,roundIn_of_wpIn hfn (hassign x A _ ⟨_,run_beginRound hl (by rw[h1]),?_⟩)⟩;obtain⟨A2,h3⟩:∃A2,A.putObj (w.heap.size+1) (.loop { rc .ready none with state:=.busy })=A2:=⟨_,rfl⟩
  have o2:Only (λk=>k=w.heap.size+1) A A2:=by rw[<-h3];exact (Only.refl _ A).putObj _ _ (λ_=>rfl)
  have l2:A2.heap[w.heap.size+1]? = some (.loop { rc .ready none with state:=.busy }):=by rw[<-h3];exact World.putObj_heap_same hlt
  have d2:A2.heap[w.heap.size]? = some (.deferred (some [])):=o2.heap hd (by omega);rw[h3];refine wpIn_mono (hbody s x s' A2 (hI s A A2 _ hi hl o2) (hV s x s' A A2 _ hv hl o2)) ?_;intro ex a3 A3 h
  cases ex
  case normal =>
   obtain⟨o3,i3⟩:=h;have l3:=o3.heap l2 (by omega);have d3:=o3.heap d2 (by omega);have hr:=run_endRound (P:=P) none l3
   have h4:A3.putObj (w.heap.size+1) (.loop (rc .ready none))=A3.putObj (w.heap.size+1) (.loop { rc .ready none with state:=if (none:Option Code).isNone then .ready else .done,pending:=none }):=by rw[h1];rfl
   have o4:Only (λk=>k=w.heap.size+1) A3 (A3.putObj (w.heap.size+1) (.loop (rc .ready none))):=(Only.refl _ A3).putObj _ _ (λ_=>rfl);refine⟨_,_,hr,.inl ⟨rfl,?_⟩⟩
   have h5:(I s' (A3.putObj (w.heap.size+1) (.loop (rc .ready none)))∧(A3.putObj (w.heap.size+1) (.loop (rc .ready none))).heap[w.heap.size+1]? = some (.loop (rc .ready none))∧(A3.putObj (w.heap.size+1) (.loop (rc .ready none))).heap[w.heap.size]? = some (.deferred (some []))) ∧
    Only (λk=>k<w.heap.size∨k=w.heap.size+1) A (A3.putObj (w.heap.size+1) (.loop (rc .ready none))) :=
    ⟨⟨hI s' A3 _ _ i3 l3 o4,World.putObj_heap_same (Array.getElem?_eq_some_iff.1 l3).1,o4.heap d3 (by omega)⟩,
     ((o2.mono (T:=λk=>k<w.heap.size∨k=w.heap.size+1) (λ_ _ e=>.inr e)).trans o3 (λ_ _ e=>.inl e)).trans o4 (λ_ _ e=>.inr e)⟩
   rw[h4] at h5;exact h5
  case ret =>
   obtain⟨o3,i3⟩:=h;have l3:=o3.heap l2 (by omega);have d3:=o3.heap d2 (by omega);have hr:=run_endRound (P:=P) (some .ret) l3
   have h4:A3.putObj (w.heap.size+1) (.loop (rc .done (some .ret)))=A3.putObj (w.heap.size+1) (.loop { rc .ready none with state:=if (some Code.ret:Option Code).isNone then .ready else .done,pending:=some .ret }):=by rw[h1];rfl
   have o4:Only (λk=>k=w.heap.size+1) A3 (A3.putObj (w.heap.size+1) (.loop (rc .done (some .ret)))):=(Only.refl _ A3).putObj _ _ (λ_=>rfl);refine⟨_,_,hr,.inr ⟨rfl,?_⟩⟩
   have h5:Ix s' (A3.putObj (w.heap.size+1) (.loop (rc .done (some .ret))))∧(A3.putObj (w.heap.size+1) (.loop (rc .done (some .ret)))).heap[w.heap.size+1]? = some (.loop (rc .done (some .ret)))∧(A3.putObj (w.heap.size+1) (.loop (rc .done (some .ret)))).heap[w.heap.size]? = some (.deferred (some [])) :=
    ⟨hIx s' A3 _ _ i3 l3 o4,World.putObj_heap_same (Array.getElem?_eq_some_iff.1 l3).1,o4.heap d3 (by omega)⟩
   rw[h4] at h5;exact h5
  all_goals exact h.elim
 ·rintro e A ⟨⟨v,rfl⟩,⟨hi,hl,hd⟩ | ⟨s,hi,hl,hd⟩⟩
  ·have hr:=run_endLoop (P:=P) hl (by rw[h1];simp)
   have hp:(rc .ready none).pending=none:=by rw[h1]
   refine⟨none,_,by rw[hr,hp],hdone _ (hI _ _ _ _ hi hl ((Only.refl _ A).putObj _ _ (λ_=>rfl))) ?_⟩;exact (World.putObj_heap_other (by omega)).trans hd
  ·have hr:=run_endLoop (P:=P) hl (by rw[h1];simp)
   have hp:(rc .done (some .ret)).pending=some .ret:=by rw[h1]
   refine⟨some .ret,_,by rw[hr,hp],hstop s _ (hIx _ _ _ _ hi hl ((Only.refl _ A).putObj _ _ (λ_=>rfl))) ?_⟩;exact (World.putObj_heap_other (by omega)).trans hd
end
def Qs (k:Nat):Nat:=64*4^k
def QK (n:Nat):Nat:=if n<=60 then 0 else if n<=252 then 1 else if n<=1020 then 2 else if n<=4092 then 3 else if n<=16380 then 4 else if n<=65532 then 5 else if n<=262140 then 6 else if n<=1048572 then 7 else 8
theorem TJ (n:Nat):QK n<=8:=by unfold QK;(repeat' split) <;> omega
def YX (n:Nat):Nat:=Qs (QK n)
theorem ZO (n:Nat):YX n=if n<=60 then 64 else if n<=252 then 256 else if n<=1020 then 1024 else if n<=4092 then 4096 else if n<=16380 then 16384 else if n<=65532 then 65536 else if n<=262140 then 262144 else if n<=1048572 then 1048576 else 4194304:=by
 unfold YX QK;repeat' split
 all_goals rfl
theorem Zw (n:Nat) (h:n<=4194300):n+4<=YX n:=by rw[ZO];(repeat' split) <;> omega
theorem ZT (n:Nat):YX n<=4194304:=by rw[ZO];(repeat' split) <;> omega
theorem Iu (n:Nat):64<=YX n:=by rw[ZO];(repeat' split) <;> omega
theorem Sx (n:Nat):(n<=60∧QK n=0)∨(60<n∧n<=252∧QK n=1)∨(252<n∧n<=1020∧QK n=2)∨(1020<n∧n<=4092∧QK n=3)∨(4092<n∧n<=16380∧QK n=4)∨(16380<n∧n<=65532∧QK n=5)∨(65532<n∧n<=262140∧QK n=6)∨(262140<n∧n<=1048572∧QK n=7)∨(1048572<n∧QK n=8):=by
 unfold QK;(repeat' split) <;> omega
def PADL (b:LI):LI:=fixL (b.length:Int) 4++b++List.replicate (YX b.length - 4 - b.length) 0
theorem XY (b:LI) (h:b.length<=4194300):(PADL b).length=YX b.length:=by
 have:=Zw b.length h;simp only[PADL,Qb,Qx,List.length_replicate];omega
theorem Ha {b:LI} (h:U8 b):U8 (PADL b):=by
 unfold PADL;refine U8.app (U8.app (Uk _ _) h) ?_;intro y hy;have:=List.eq_of_mem_replicate hy;omega
def WX (b:LI):LI:=if b.length<=4194300 then PADL b else []
def Us (b:LI):Int:=if b.length<=4194300 then 0 else 4
section
open Go.Shelf
attribute [local go_sem] Oper.semAt_some
theorem Cv (t:Nat):Qs (t+1)=Qs t*4:=by unfold Qs;rw[Nat.pow_succ];omega
theorem Re {t:Nat} (h:t<=9):(t<9∧Qs t<=4194304∧64<=Qs t)∨(t=9∧Qs t=16777216):=by
 rcases (show t=0∨t=1∨t=2∨t=3∨t=4∨t=5∨t=6∨t=7∨t=8∨t=9 by omega) with rfl | rfl | rfl | rfl | rfl | rfl | rfl | rfl | rfl | rfl <;> decide
theorem Tu (n:Nat) (w:World):CallsIn Fence.wide n prog 36 #[] w λe w'=>e=.returned (.func (.func 58) #[] #[])∧w'=w:=by
 refine callsIn_of_wp func36 rfl trivial ?_ rfl;simp only[ntmps36,List.size_toArray,List.length_nil,Nat.reduceSub,Array.replicate_succ,Array.replicate_zero,List.push_toArray,List.append_toArray,List.nil_append]
 gi_wp2
 go_ret;exact⟨rfl,rfl⟩
theorem GD (n L:Nat) (J Jx:Nat->World->Prop)
 (hY:∀(s:Nat) A,s<9->J s A->YieldAt Fence.wide (n - 1) prog L #[.int .i64 (s:Int),.int .i64 (Qs s:Int)] A λe B =>
  (e=.returned (.bool true)∧J (s+1) B)∨(e=.returned (.bool false)∧Jx (s+1) B))
 (W:World) (h0:J 0 W) :
 CallsIn Fence.wide n prog 58 #[.func (.yield L) #[] #[]] W λe B=>(∃v,e=.returned v)∧(J 9 B∨∃s,Jx s B):=by
 have HY:=Qa hY;have H0:=Qa h0;clear hY h0;refine callsIn_of_wp func58 rfl trivial ?_ rfl;simp only[ntmps58,List.size_toArray,Ql,List.length_nil,Nat.reduceAdd,Nat.reduceSub,Array.replicate_succ,Array.replicate_zero,List.push_toArray,List.append_toArray,List.nil_append,List.cons_append]
 gi_wp2
 gi_loopw [2,3] (λk z wr=>∃t q:Nat,t<=9∧k=.int .i64 t∧z=.int .i64 q∧Hid (q=Qs t)∧Hid (J t wr)) (λk _ _=>9 - (intOf k).toNat)
 case atStart=>exact⟨0,64,by omega,rfl,rfl,rfl,H0⟩
 case round =>
  obtain⟨t,q,ht,rfl,rfl,HQ,HT⟩:=hrel
  rcases Re ht with ⟨hlt,hle,hge⟩ | ⟨heq,hgr⟩
  ·rw[<-HQ.o] at hle hge
   have dle:decide ((q:Int)<=4194304)=true:=Qf (by omega);obtain⟨fn,tmps,h2,body,hy,hR⟩:=HY.o t wr hlt HT.o;rw[<-HQ.o] at hy;have HR:=Qa hR;clear hR HT
   gi_wp2_with fail
   refine⟨(λh=>by cases h),HR.o.mono ?_⟩;rintro e w3 (⟨rfl,h1⟩ | ⟨rfl,h1⟩)
   ·have H3:=Qa h1
    clear HR h1
    gi_wp2
    go_roundw
    case rel=>exact⟨t+1,q*4,by omega,by go_num,by go_num,by show _=_;rw[HQ.o,Cv],H3⟩
    case measure=>simp[intOf];omega
   ·have H3:=Qa h1
    clear HR h1
    gi_wp2
    refine bodyPost_ret (results_none rfl _ _ _) rfl ?_;exact⟨⟨_,rfl⟩,.inr ⟨_,H3.o⟩⟩
  ·rw[<-HQ.o] at hgr
   have dle:decide ((q:Int)<=4194304)=false:=Qj (by omega);subst heq
   gi_wp2
   go_end0
   exact⟨⟨_,rfl⟩,.inl HT.o⟩
end
section
open Go.Shelf
attribute [local go_sem] Oper.semAt_some
theorem Vu {P:Program} {fn:Func} {p:Tmp} {ty:TypeId} (h:fn.results=#[.cell p ty]) (tmps:Array Value) (w:World) {a:Addr} {v:Value} (ha:tmps[p]?.getD undef=.pointer (some a)) (hl:(loadVar ty a).run P w=.ok v w) :
 (results fn tmps).run P w=.ok v w:=by
 simp only[results,h];simp[ha,asAddr,hl]
theorem Jr {P:Program} {fn:Func} {p q:Tmp} {ty ty2:TypeId} (h:fn.results=#[.cell p ty,.cell q ty2]) (tmps:Array Value) (w:World) {a b:Addr} {v1 v2:Value}
 (hp:tmps[p]?.getD undef=.pointer (some a)) (hq:tmps[q]?.getD undef=.pointer (some b)) (h1:(loadVar ty a).run P w=.ok v1 w) (h2:(loadVar ty2 b).run P w=.ok v2 w) :
 (results fn tmps).run P w=.ok (.tuple #[v1,v2]) w:=by
 simp[results,h,hp,hq,asAddr,h1,h2]
theorem KY {W:World} {b:Nat} {c:Int} (h:Boxed W b 3 (.int .i64 c)):(loadVar 3 ⟨b,0,none⟩).run prog W=.ok (.int .i64 c) W:=by
 have hc:=h.cell;simp[go_sem,hc]
theorem Z4 {W:World} {b:Nat} {c:Int} (h:Boxed W b 26 (.int .i64 c)):(loadVar 26 ⟨b,0,none⟩).run prog W=.ok (.int .i64 c) W:=by
 have hc:=h.cell;simp[go_sem,hc]
def QV (k:Int):Int:=if 0<=k∧k<=8 then (Qs k.toNat:Int) else 0
theorem X6 (k:Int) (w:World):Calls prog 98 #[.int .i64 k] w λe w'=>e=.returned (.int .i64 (QV k))∧N0 w w':=by
 refine (callsIn_wide (n:=5)).1 ?_;refine callsIn_of_wp_marks func98 rfl trivial ?_ rfl;simp only[ntmps98,List.size_toArray,Ql,List.length_nil,Nat.reduceAdd,Nat.reduceSub,Array.replicate_succ,Array.replicate_zero,List.push_toArray,List.append_toArray,List.nil_append,List.cons_append]
 gi_wp2_with fail
 refine⟨trivial,(Tu _ _).mono ?_⟩;rintro e w2 ⟨rfl,rfl⟩
 gi_wp2_with fail
 obtain⟨W0,h4⟩:∃W0,(w.alloc (.cells #[.int .i64 k] 3)).alloc (.cells #[.int .i64 0] 3)=W0:=⟨_,rfl⟩
 have o0:N0 w W0:=by rw[<-h4];exact ((Only.refl _ w).alloc _).alloc _
 have hsz:W0.heap.size=w.heap.size+1+1:=by rw[<-h4];simp
 have bK:Boxed W0 w.heap.size 3 (.int .i64 k):=by rw[<-h4];exact (Boxed.new w 3 (.int .i64 k)).alloc _
 have bR:Boxed W0 (w.heap.size+1) 3 (.int .i64 0):=by
  have h:=Boxed.new (w.alloc (.cells #[.int .i64 k] 3)) 3 (.int .i64 0);rw[World.size_alloc,h4] at h;exact h
 rw[h4]
 refine Pp (gf:=58) (lb:=#[]) rfl (enters_of func58 (by kernel_rfl) rfl)
  (λx:Nat × Nat=>#[.int .i64 (x.1:Int),.int .i64 (x.2:Int)]) (λ_=>rfl)
  (λs A=>(∀j:Nat,j<s->(j:Int)≠k)∧N0 W0 A)
  (λs A=>(0<=k∧k<=8)∧Only (λj=>j=w.heap.size+1) W0 A∧Boxed A (w.heap.size+1) 3 (.int .i64 (Qs k.toNat:Int)))
  (λs x s' A=>s'=s+1∧s<9∧x.1=s∧x.2=Qs s) 0 9
  (λs A B r hi hl o=>⟨hi.1,hi.2.trans o (λi hi e=>by omega)⟩) (λs A B r hi hl o=>⟨hi.1,hi.2.1.trans o (λi hi e=>by omega),QD hi.2.2 o (by omega)⟩) (λs A B hi o=>⟨hi.1,hi.2.same o⟩)
  (λs x s' A B r hv hl o=>hv) ⟨λj hj=>by omega,Only.refl _ _⟩
  ?hit (λx=>{ tmps:=#[.int .i64 k,.pointer (some ⟨w.heap.size,0,none⟩),.pointer (some ⟨w.heap.size+1,0,none⟩),.int .i64 (x.1:Int),.int .i64 (x.2:Int),.func (.func 58) #[] #[],.int .i64 (x.1:Int),.int .i64 (x.2:Int),undef,undef,undef,undef],defers:=[] }) ?assign ?body ?done ?stop
 case hit =>
  intro J Jx W hJ hJo hY h0 hW;refine GD 4 (W0.heap.size+1) J Jx (λs A h9 hs=>?_) W h0;obtain⟨fn,tmps,assign,body,hy,hR⟩:=hY s (s,Qs s) (s+1) A hs ⟨rfl,h9,rfl,rfl⟩;refine⟨fn,tmps,assign,body,hy,hR.mono ?_⟩;rintro e B (⟨h1,h2,_⟩ | h)
  ·exact .inl ⟨h1,h2⟩
  ·exact .inr h
 case assign =>
  intro x W K hK
  gi_wp2
  exact hK
 case body =>
  rintro s ⟨x1,x2⟩ s' W ⟨hs,hq⟩ ⟨rfl,h9,h7,ha⟩;simp only at h7 ha;subst h7 ha;have hck:=(QD bK hq (λf=>f)).cell;have h3:=QD bR hq (λf=>f);have h8:=h3.cell;have hfr:=h3.frozen
  by_cases heq:(x1:Int)=k
  ·have d1:((x1:Int) == k)=true:=by simpa using heq
   have o5:Only (λj=>j=w.heap.size+1) W (W.setCell ⟨w.heap.size+1,0,none⟩ (.int .i64 (Qs x1:Int))):=(Only.refl (λj=>j=w.heap.size+1) W).setCell (p:=⟨w.heap.size+1,0,none⟩) (λ_=>rfl) _
   have h5:Hid (Only (λj=>j<W0.heap.size) W (W.setCell ⟨w.heap.size+1,0,none⟩ (.int .i64 (Qs x1:Int)))∧(0<=k∧k<=8)∧Only (λj=>j=w.heap.size+1) W0 (W.setCell ⟨w.heap.size+1,0,none⟩ (.int .i64 (Qs x1:Int)))∧Boxed (W.setCell ⟨w.heap.size+1,0,none⟩ (.int .i64 (Qs x1:Int))) (w.heap.size+1) 3 (.int .i64 (Qs k.toNat:Int))):=by
    refine⟨o5.mono (λj _ e=>by omega),by omega,(hq.mono (λ_ _ f=>f.elim)).trans o5 (λ_ _ e=>e),?_⟩
    have:k.toNat=x1:=by omega
    rw[this];exact h3.set _
   generalize Qs x1=q at *;clear hs hq h3 o5 heq
   gi_wp2
   exact h5.o
  ·have d1:((x1:Int) == k)=false:=by simpa using heq
   have h5:Hid (Only (λj=>j<W0.heap.size) W W∧(∀j:Nat,j<x1+1->(j:Int)≠k)∧N0 W0 W):=by
    refine⟨Only.refl _ _,λj hj e=>?_,hq⟩
    rcases Nat.lt_or_ge j x1 with h | h
    ·exact hs j h e
    ·exact heq (by omega)
   generalize Qs x1=q at *;clear hs hq h3 heq
   gi_wp2
   exact h5.o
 case done =>
  intro W hi hD
  have hS:QV k=0:=by
   unfold QV;rw[if_neg];rintro⟨h1,h2⟩;exact hi.1 k.toNat (by omega) (by omega)
  have h3:=QD bR hi.2 (λf=>f);have h8:=h3.cell;have hfr:=h3.frozen;have HI:=Qa hi.2;have HD:=Qa hD;have h6:=Qa h3;have HS:=Qa hS;clear hi hD h3 hS
  gi_wp2
  have o5:Only (λj=>j=w.heap.size+1) W (W.setCell ⟨w.heap.size+1,0,none⟩ (.int .i64 0)):=(Only.refl (λj=>j=w.heap.size+1) W).setCell (p:=⟨w.heap.size+1,0,none⟩) (λ_=>rfl) _;have hD5:=o5.heap HD.o (by omega);have o6:Only (λj=>j=W0.heap.size) (W.setCell ⟨w.heap.size+1,0,none⟩ (.int .i64 0)) ((W.setCell ⟨w.heap.size+1,0,none⟩ (.int .i64 0)).putObj W0.heap.size (.deferred none)):=(Only.refl _ _).putObj _ _ (λ_=>rfl);refine⟨by simp,.inl ⟨_,_,rfl,run_takeDeferred hD5,?_⟩⟩;refine⟨.int .i64 0,Vu rfl _ _ rfl (KY (QD (h6.o.set _) o6 (by omega))),?_,?_⟩
  ·rw[HS.o]
  ·exact ((o0.same HI.o).trans o5 (λj _ e=>by omega)).trans o6 (λj _ e=>by omega)
 case stop =>
  intro s W hi hD;have hS:QV k=(Qs k.toNat:Int):=if_pos hi.1;have h8:=hi.2.2.cell;have HI:=Qa hi.2.1;have HD:=Qa hD;have h6:=Qa hi.2.2;have HS:=Qa hS;clear hi hD hS;generalize Qs k.toNat=q at *
  gi_wp2
  have o6:Only (λj=>j=W0.heap.size) W (W.putObj W0.heap.size (.deferred none)):=(Only.refl _ _).putObj _ _ (λ_=>rfl);refine⟨by simp,.inl ⟨_,_,rfl,run_takeDeferred HD.o,?_⟩⟩;refine⟨.int .i64 (q:Int),Vu rfl _ _ rfl (KY (QD h6.o o6 (by omega))),?_,?_⟩
  ·rw[HS.o]
  ·exact (o0.trans HI.o (λj _ e=>by omega)).trans o6 (λj _ e=>by omega)
def Uy (n:Int):Int:=if 0<=n∧n<=4194300 then (QK n.toNat:Int) else 0
def Yo (n:Int):Int:=if n<0 then 1 else if 4194300<n then 4 else 0
theorem FK {s n:Nat} (h9:s<9) (h:n+4<=Qs s) (hb:∀j,j<s->Qs j<n+4):QK n=s:=by
 have hc:=Sx n
 rcases (show s=0∨s=1∨s=2∨s=3∨s=4∨s=5∨s=6∨s=7∨s=8 by omega) with rfl | rfl | rfl | rfl | rfl | rfl | rfl | rfl | rfl
 ·simp only[Qs,Nat.reducePow,Nat.reduceMul] at h
  omega
 ·have:=hb 0 (by omega)
  simp only[Qs,Nat.reducePow,Nat.reduceMul] at h this;omega
 ·have:=hb 1 (by omega)
  simp only[Qs,Nat.reducePow,Nat.reduceMul] at h this;omega
 ·have:=hb 2 (by omega)
  simp only[Qs,Nat.reducePow,Nat.reduceMul] at h this;omega
 ·have:=hb 3 (by omega)
  simp only[Qs,Nat.reducePow,Nat.reduceMul] at h this;omega
 ·have:=hb 4 (by omega)
  simp only[Qs,Nat.reducePow,Nat.reduceMul] at h this;omega
 ·have:=hb 5 (by omega)
  simp only[Qs,Nat.reducePow,Nat.reduceMul] at h this;omega
 ·have:=hb 6 (by omega)
  simp only[Qs,Nat.reducePow,Nat.reduceMul] at h this;omega
 ·have:=hb 7 (by omega)
  simp only[Qs,Nat.reducePow,Nat.reduceMul] at h this;omega
theorem VP (n:Int) (w:World):Calls prog 16 #[.int .i64 n] w λe w'=>e=.returned (.tuple #[.int .i64 (Uy n),.int .i64 (Yo n)])∧N0 w w':=by
 obtain⟨W0,h5⟩:∃W0,((w.alloc (.cells #[.int .i64 n] 3)).alloc (.cells #[.int .i64 0] 3)).alloc (.cells #[.int .i64 0] 26)=W0:=⟨_,rfl⟩
 have o0:N0 w W0:=by rw[<-h5];exact (((Only.refl _ w).alloc _).alloc _).alloc _
 have hsz:W0.heap.size=w.heap.size+1+1+1:=by rw[<-h5];simp
 have bN:Boxed W0 w.heap.size 3 (.int .i64 n):=by rw[<-h5];exact ((Boxed.new w 3 (.int .i64 n)).alloc _).alloc _
 have bR:Boxed W0 (w.heap.size+1) 3 (.int .i64 0):=by
  have h:=(Boxed.new (w.alloc (.cells #[.int .i64 n] 3)) 3 (.int .i64 0)).alloc (.cells #[.int .i64 0] 26);rw[World.size_alloc,h5] at h;exact h
 have bE:Boxed W0 (w.heap.size+1+1) 26 (.int .i64 0):=by
  have h:=Boxed.new ((w.alloc (.cells #[.int .i64 n] 3)).alloc (.cells #[.int .i64 0] 3)) 26 (.int .i64 0);rw[World.size_alloc,World.size_alloc,h5] at h;exact h
 have hg:∀(V:World) (x y:Int),Boxed V (w.heap.size+1) 3 (.int .i64 0)->Boxed V (w.heap.size+1+1) 26 (.int .i64 0) ->
  Only (λj=>j=w.heap.size+1∨j=w.heap.size+1+1) V ((V.setCell ⟨w.heap.size+1,0,none⟩ (.int .i64 x)).setCell ⟨w.heap.size+1+1,0,none⟩ (.int .i64 y)) ∧
  Boxed ((V.setCell ⟨w.heap.size+1,0,none⟩ (.int .i64 x)).setCell ⟨w.heap.size+1+1,0,none⟩ (.int .i64 y)) (w.heap.size+1) 3 (.int .i64 x) ∧
  Boxed ((V.setCell ⟨w.heap.size+1,0,none⟩ (.int .i64 x)).setCell ⟨w.heap.size+1+1,0,none⟩ (.int .i64 y)) (w.heap.size+1+1) 26 (.int .i64 y):=by
  intro V x y h1 h2;have oa:Only (λj=>j=w.heap.size+1) V (V.setCell ⟨w.heap.size+1,0,none⟩ (.int .i64 x)):=(Only.refl (λj=>j=w.heap.size+1) V).setCell (p:=⟨w.heap.size+1,0,none⟩) (λ_=>rfl) _;have ob:Only (λj=>j=w.heap.size+1+1) (V.setCell ⟨w.heap.size+1,0,none⟩ (.int .i64 x)) ((V.setCell ⟨w.heap.size+1,0,none⟩ (.int .i64 x)).setCell ⟨w.heap.size+1+1,0,none⟩ (.int .i64 y)):=(Only.refl (λj=>j=w.heap.size+1+1) _).setCell (p:=⟨w.heap.size+1+1,0,none⟩) (λ_=>rfl) _;exact⟨(oa.mono (T:=λj=>j=w.heap.size+1∨j=w.heap.size+1+1) (λ_ _ e=>.inl e)).trans ob (λ_ _ e=>.inr e),QD (h1.set _) ob (by omega),(QD h2 oa (by omega)).set _⟩
 have h6:=Qa hg;clear hg
 by_cases hn:n<0
 ·have d1:decide (n<0)=true:=Qf hn
  have HV:Hid (Uy n=0∧Yo n=1):=⟨if_neg (by omega),if_pos hn⟩
  have h4:Boxed (((w.alloc (.cells #[.int .i64 n] 3)).alloc (.cells #[.int .i64 0] 3)).alloc (.cells #[.int .i64 1] 26)) (w.heap.size+1) 3 (.int .i64 0):=by
   have h:=(Boxed.new (w.alloc (.cells #[.int .i64 n] 3)) 3 (.int .i64 0)).alloc (.cells #[.int .i64 1] 26);rw[World.size_alloc] at h;exact h
  have h3:Boxed (((w.alloc (.cells #[.int .i64 n] 3)).alloc (.cells #[.int .i64 0] 3)).alloc (.cells #[.int .i64 1] 26)) (w.heap.size+1+1) 26 (.int .i64 1):=by
   have h:=Boxed.new ((w.alloc (.cells #[.int .i64 n] 3)).alloc (.cells #[.int .i64 0] 3)) 26 (.int .i64 1);rw[World.size_alloc,World.size_alloc] at h;exact h
  have F:=Qa (And.intro h4 h3);clear h4 h3 o0 hn hsz bN bR bE h5 h6;refine (callsIn_wide (n:=5)).1 ?_;refine callsIn_of_wp_marks func16 rfl trivial ?_ rfl;simp only[ntmps16,List.size_toArray,Ql,List.length_nil,Nat.reduceAdd,Nat.reduceSub,Array.replicate_succ,Array.replicate_zero,List.push_toArray,List.append_toArray,List.nil_append,List.cons_append]
  gi_wp2
  refine⟨.tuple #[.int .i64 0,.int .i64 1],Jr rfl _ _ rfl rfl (KY F.o.1) (Z4 F.o.2),?_,?_⟩
  ·rw[HV.o.1,HV.o.2]
  ·exact (((Only.refl _ w).alloc _).alloc _).alloc _
 have d1:decide (n<0)=false:=Qj hn;obtain⟨n,rfl⟩:=Int.eq_ofNat_of_zero_le (Int.not_lt.1 hn);have HW0:=Qa h5;clear h5;refine (callsIn_wide (n:=5)).1 ?_;refine callsIn_of_wp_marks func16 rfl trivial ?_ rfl;simp only[ntmps16,List.size_toArray,Ql,List.length_nil,Nat.reduceAdd,Nat.reduceSub,Array.replicate_succ,Array.replicate_zero,List.push_toArray,List.append_toArray,List.nil_append,List.cons_append]
 gi_wp2_with fail
 refine⟨trivial,(Tu _ _).mono ?_⟩;rintro e w2 ⟨rfl,rfl⟩
 gi_wp2_with fail
 rw[HW0.o]
 refine Pp (gf:=58) (lb:=#[]) rfl (enters_of func58 (by kernel_rfl) rfl)
  (λx:Nat × Nat=>#[.int .i64 (x.1:Int),.int .i64 (x.2:Int)]) (λ_=>rfl)
  (λs A=>(∀j:Nat,j<s->Qs j<n+4)∧N0 W0 A)
  (λs A=>n<=4194300∧Only (λj=>j=w.heap.size+1∨j=w.heap.size+1+1) W0 A∧Boxed A (w.heap.size+1) 3 (.int .i64 (QK n:Int))∧Boxed A (w.heap.size+1+1) 26 (.int .i64 0))
  (λs x s' A=>s'=s+1∧s<9∧x.1=s∧x.2=Qs s) 0 9
  (λs A B r hi hl o=>⟨hi.1,hi.2.trans o (λi hi e=>by omega)⟩) (λs A B r hi hl o=>⟨hi.1,hi.2.1.trans o (λi hi e=>by omega),QD hi.2.2.1 o (by omega),QD hi.2.2.2 o (by omega)⟩) (λs A B hi o=>⟨hi.1,hi.2.same o⟩)
  (λs x s' A B r hv hl o=>hv) ⟨λj hj=>by omega,Only.refl _ _⟩
  ?hit (λx=>{ tmps:=#[.int .i64 (n:Int),.pointer (some ⟨w.heap.size,0,none⟩),.pointer (some ⟨w.heap.size+1,0,none⟩),.pointer (some ⟨w.heap.size+1+1,0,none⟩),.int .i64 (x.1:Int),.int .i64 (x.2:Int),.int .i64 (n:Int),.bool false,.func (.func 58) #[] #[],.int .i64 (x.1:Int),.int .i64 (x.2:Int),undef,undef,undef,undef,undef],defers:=[] }) ?assign ?body ?done ?stop
 case hit =>
  intro J Jx W hJ hJo hY h0 hW;refine GD 4 (W0.heap.size+1) J Jx (λs A h9 hs=>?_) W h0;obtain⟨fn,tmps,assign,body,hy,hR⟩:=hY s (s,Qs s) (s+1) A hs ⟨rfl,h9,rfl,rfl⟩;refine⟨fn,tmps,assign,body,hy,hR.mono ?_⟩;rintro e B (⟨h1,h2,_⟩ | h)
  ·exact .inl ⟨h1,h2⟩
  ·exact .inr h
 case assign =>
  intro x W K hK
  gi_wp2
  exact hK
 case body =>
  rintro s ⟨x1,x2⟩ s' W ⟨hs,hq⟩ ⟨rfl,h9,he,hh⟩;simp only at he hh;subst he hh;have hck:=(QD bN hq (λf=>f)).cell;have h4:=QD bR hq (λf=>f);have h3:=QD bE hq (λf=>f);have hcr:=h4.cell;have hfr:=h4.frozen;have hce:=h3.cell;have hfe:=h3.frozen;have hf:=Re (t:=x1) (by omega)
  by_cases hle:n+4<=Qs x1
  ·have e1:=FK h9 hle hs
   obtain⟨f1,f2,f3⟩:=h6.o W (x1:Int) 0 h4 h3
   have h7:Hid (Only (λj=>j<W0.heap.size) W ((W.setCell ⟨w.heap.size+1,0,none⟩ (.int .i64 (x1:Int))).setCell ⟨w.heap.size+1+1,0,none⟩ (.int .i64 0))∧n<=4194300∧Only (λj=>j=w.heap.size+1∨j=w.heap.size+1+1) W0 ((W.setCell ⟨w.heap.size+1,0,none⟩ (.int .i64 (x1:Int))).setCell ⟨w.heap.size+1+1,0,none⟩ (.int .i64 0)) ∧
    Boxed ((W.setCell ⟨w.heap.size+1,0,none⟩ (.int .i64 (x1:Int))).setCell ⟨w.heap.size+1+1,0,none⟩ (.int .i64 0)) (w.heap.size+1) 3 (.int .i64 (QK n:Int))∧Boxed ((W.setCell ⟨w.heap.size+1,0,none⟩ (.int .i64 (x1:Int))).setCell ⟨w.heap.size+1+1,0,none⟩ (.int .i64 0)) (w.heap.size+1+1) 26 (.int .i64 0)):=by
    refine⟨f1.mono (λj _ e=>by omega),by omega,(hq.mono (λ_ _ f=>f.elim)).trans f1 (λ_ _ e=>e),?_,f3⟩;rw[e1];exact f2
   have d2:decide ((n:Int)<=(Qs x1:Int) - 4)=true:=Qf (by omega);generalize Qs x1=q at *;clear hs hq h4 h3 f1 f2 f3 e1 hle
   have hb:64<=q∧q<=4194304:=by omega
   clear hf
   gi_wp2
   exact h7.o
  ·have h7:Hid (Only (λj=>j<W0.heap.size) W W∧(∀j:Nat,j<x1+1->Qs j<n+4)∧N0 W0 W):=by
    refine⟨Only.refl _ _,λj hj=>?_,hq⟩
    rcases Nat.lt_or_ge j x1 with h | h
    ·exact hs j h
    ·obtain rfl:j=x1:=by omega
     omega
   have d2:decide ((n:Int)<=(Qs x1:Int) - 4)=false:=Qj (by omega);clear hs;generalize Qs x1=q at *;clear hq h4 h3 hle
   have hb:64<=q∧q<=4194304:=by omega
   clear hf
   gi_wp2
   exact h7.o
 case done =>
  intro W hi hD;have h8:=hi.1 8 (by omega);simp only[Qs,Nat.reducePow,Nat.reduceMul] at h8;have HV:Hid (Uy n=0∧Yo n=4):=⟨if_neg (by omega),by show Yo _=_;unfold Yo;rw[if_neg (by omega),if_pos (by omega)]⟩;have h4:=QD bR hi.2 (λf=>f);have h3:=QD bE hi.2 (λf=>f);have hcr:=h4.cell;have hfr:=h4.frozen;have hce:=h3.cell;have hfe:=h3.frozen;have HI:=Qa hi.2;have HD:=Qa hD;have ha:=Qa h4;have hd:=Qa h3;clear hi hD h4 h3 h8
  gi_wp2
  obtain⟨f1,f2,f3⟩:=h6.o W 0 4 ha.o hd.o;obtain⟨V,hV⟩:=EX ((W.setCell ⟨w.heap.size+1,0,none⟩ (.int .i64 0)).setCell ⟨w.heap.size+1+1,0,none⟩ (.int .i64 4));rw[<-hV] at f1 f2 f3 ⊢;have hD5:=f1.heap HD.o (by omega);have o6:Only (λj=>j=W0.heap.size) V (V.putObj W0.heap.size (.deferred none)):=(Only.refl _ _).putObj _ _ (λ_=>rfl);refine⟨by simp,.inl ⟨_,_,rfl,run_takeDeferred hD5,?_⟩⟩;refine⟨.tuple #[.int .i64 0,.int .i64 4],Jr rfl _ _ rfl rfl (KY (QD f2 o6 (by omega))) (Z4 (QD f3 o6 (by omega))),?_,?_⟩
  ·rw[HV.o.1,HV.o.2]
  ·exact ((o0.same HI.o).trans f1 (λj _ e=>by omega)).trans o6 (λj _ e=>by omega)
 case stop =>
  intro s W hi hD;have HV:Hid (Uy n=(QK n:Int)∧Yo n=0):=⟨if_pos (by have:=hi.1;omega),by show Yo _=_;unfold Yo;rw[if_neg (by omega),if_neg (by have:=hi.1;omega)]⟩;have HI:=Qa hi.2.1;have HD:=Qa hD;have ha:=Qa hi.2.2.1;have hd:=Qa hi.2.2.2;clear hi hD;generalize QK n=q at *
  gi_wp2
  have o6:Only (λj=>j=W0.heap.size) W (W.putObj W0.heap.size (.deferred none)):=(Only.refl _ _).putObj _ _ (λ_=>rfl);refine⟨by simp,.inl ⟨_,_,rfl,run_takeDeferred HD.o,?_⟩⟩;refine⟨.tuple #[.int .i64 (q:Int),.int .i64 0],Jr rfl _ _ rfl rfl (KY (QD ha.o o6 (by omega))) (Z4 (QD hd.o o6 (by omega))),?_,?_⟩
  ·rw[HV.o.1,HV.o.2]
  ·exact (o0.trans HI.o (λj _ e=>by omega)).trans o6 (λj _ e=>by omega)
end
end Go.Proofs.YtiochaeeoelmjaaGreatDoor
