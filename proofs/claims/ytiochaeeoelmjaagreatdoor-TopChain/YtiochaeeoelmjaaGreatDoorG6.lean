import Derived.StillTailTactics
import Derived.Test.YtiochaeeoelmjaaGreatDoorG5
import Derived.Test.YtiochaeeoelmjaaGreatDoorG4
namespace Go.Proofs.YtiochaeeoelmjaaGreatDoor
set_option maxHeartbeats 4000000
set_option maxRecDepth 100000
open Go.RowKit _root_.Go.Proofs.Tryz
variable {w w' W:World} {v:Value} {ys xs l:LI} {R n p k g B:Nat} {P:Program} {ls:List (LI)} {E:TypeId}
section
open Go.Shelf
theorem Only.putObj {S:Nat->Prop} {a b:World} (h:Only S a b) (l:Nat) (o:Obj) (hl:l<a.heap.size->S l):Only S a (b.putObj l o) :=
 h.grown (grownBy_putObj' b l o) (λk hk e=>by cases e;exact hl hk)
theorem Bs.loop {k:IntKind} {A B:World} (h:Bs k A v xs) {l:Nat} {r:Loop} (hl:A.heap[l]? = some (.loop r)) (o:Only (λj=>j=l) A B):Bs k B v xs:=by
 obtain⟨ao,cap,rfl,hc,hr⟩:=h;refine⟨ao,cap,rfl,hc,λhx=>?_⟩;obtain⟨b,off,rfl,h1⟩:=hr hx;refine⟨b,off,rfl,λj hj=>?_⟩;have h0:=h1 j hj;rw[<-h0];refine World.cell?_of_block (o.block b (World.block_lt_of_cell? A _ h0) ?_);intro e;subst e;obtain⟨o',h2,hc'⟩:=cells_of_cell h0;rw[hl] at h2;cases h2;cases hc'
theorem QN {A B:World} {b:Nat} {t:TypeId} (h:Boxed A b t v) {S:Nat->Prop} (o:Only S A B) (hs:¬S b):Boxed B b t v:=o.heap h hs
def jZ {σ:Type} (B:Nat) (I:σ->World->Prop) (s:σ) (W:World):Exit->Act->World->Prop
 | .normal,_,W'=>Only (λk=>k<B) W W'∧I s W'
 | _,_,_=>False
theorem jh {σ α:Type} {g:Operand} {ps:Array Tmp} {assign body:Code} {Q:Exit->Act->World->Prop} {a:Act}
 {gf:Nat} {lb:Array Value} (hg:a.eval g=.func (.func gf) #[] lb) (eg:∀args w,(callFunc gf args).run P w=.ok (.enter gf args) w)
 (encs:α->Array Value) (hps:∀x,(encs x).size=ps.size) (I:σ->World->Prop) (V:σ->α->σ->World->Prop) (s0 s1:σ)
 (hI:∀s A B r,I s A->A.heap[w.heap.size+1]? = some (.loop r)->Only (λk=>k=w.heap.size+1) A B->I s B)
 (hIn:∀s A B,I s A->N0 A B->I s B)
 (hV:∀s x s' A B r,V s x s' A->A.heap[w.heap.size+1]? = some (.loop r)->Only (λk=>k=w.heap.size+1) A B->V s x s' B)
 (h0:I s0 w)
 (hit:∀(J:σ->World->Prop) (W:World),(∀s A,J s A->I s A)->(∀s A B,J s A->N0 A B->J s B)->(∀s s' A,J s A->I s' A->J s' A) ->
  (∀s x s' A,J s A->V s x s' A->YieldAt Fence.wide (n - 1 - 1) P (w.heap.size+1) (encs x) A λe B=>e=.returned (.bool true)∧J s' B)->J s0 W ->
  CallsIn Fence.wide (n - 1) P gf (#[.func (.yield (w.heap.size+1)) #[] #[]]++lb) W λe B=>(∃v,e=.returned v)∧J s1 B)
 (a₁:α->Act)
 (hassign:∀(x:α) (W:World) (K:Act->World->Prop),K (a₁ x) W ->
  assign.wpIn (Fence.wide.inRound (w.heap.size+1)) (n - 1 - 1) P (Exit.then K (λ_ _ _=>False)) { tmps:=(ps.zip (encs x)).foldl (λt (p,v)=>t.setIfInBounds p v) a.tmps,defers:=[] } W)
 (hbody:∀(s:σ) (x:α) (s':σ) (W:World),I s W->V s x s' W->body.wpIn (Fence.wide.inRound (w.heap.size+1)) (n - 1 - 1) P (jZ w.heap.size I s' W) (a₁ x) W)
 (hdone:∀(W:World),I s1 W->W.heap[w.heap.size]? = some (.deferred (some []))->Q .normal { a with defers:={ target:=.collected w.heap.size,args:=#[] } :: a.defers } W) :
 (Code.rangeFunc g ps assign body).wpIn Fence.wide n P Q a w:=by
 refine wpIn_rangeFunc λfn hfn=>?_
 obtain⟨rc,h1⟩:∃rc:LoopState->Option Code->Loop,rc=λst pe=>{ state:=st,pending:=pe,fn,tmps:=a.tmps,params:=ps,assign,body,defers:=w.heap.size }:=⟨_,rfl⟩
 obtain⟨W1,h2⟩:∃W1,(w.alloc (.deferred (some []))).alloc (.loop (rc .ready none))=W1:=⟨_,rfl⟩
 have hL:W1.heap[w.heap.size+1]? = some (.loop (rc .ready none)):=by
  have:=World.alloc_heap_new (w.alloc (.deferred (some []))) (.loop (rc .ready none));rw[World.size_alloc,h2] at this;exact this
 have hD:W1.heap[w.heap.size]? = some (.deferred (some [])):=by
  rw[<-h2];exact (Below.heap_alloc _ _ _ (by simp)).trans (World.alloc_heap_new w _)
 have hO:N0 w W1:=by
  rw[<-h2];exact ((Only.refl _ w).alloc _).alloc _
 refine⟨w.heap.size+1,[{ target:=.collected w.heap.size,args:=#[] }],W1,{ target:=.fn (.func gf) lb,args:=#[.func (.yield (w.heap.size+1)) #[] #[]] },W1,gf,#[.func (.yield (w.heap.size+1)) #[] #[]]++lb,W1,?_,?_,λ_ _=>trivial,?_,(λh=>by cases h),?_⟩
 ·rw[<-h2,h1]
  exact run_enterLoop_outer _ _ _ _ _
 ·simp only[resolve,hg]
  simp[go_sem]
 ·simp[invoke,go_sem,eg]
 refine (hit (λs W=>I s W∧W.heap[w.heap.size+1]? = some (.loop (rc .ready none))∧W.heap[w.heap.size]? = some (.deferred (some []))) W1 (λ_ _ h=>h.1)
  (λs A B h o=>⟨hIn s A B h.1 o,o.heap h.2.1 (λf=>f),o.heap h.2.2 (λf=>f)⟩) (λ_ _ _ h i=>⟨i,h.2⟩) ?_ ⟨hIn _ _ _ h0 hO,hL,hD⟩).mono ?_
 ·rintro s x s' A ⟨hi,hl,hd⟩ hv
  have hlt:w.heap.size+1<A.heap.size:=(Array.getElem?_eq_some_iff.1 hl).1;have hy:=run_yield (P:=P) (args:=encs x) hl (by rw[h1];exact hps x);rw[h1] at hy;refine⟨fn,_,assign,body,hy,roundIn_of_wpIn hfn (hassign x A _ ⟨_,run_beginRound hl (by rw[h1]),?_⟩)⟩;obtain⟨A2,h3⟩:∃A2,A.putObj (w.heap.size+1) (.loop { rc .ready none with state:=.busy })=A2:=⟨_,rfl⟩
  have o2:Only (λk=>k=w.heap.size+1) A A2:=by rw[<-h3];exact (Only.refl _ A).putObj _ _ (λ_=>rfl)
  have l2:A2.heap[w.heap.size+1]? = some (.loop { rc .ready none with state:=.busy }):=by rw[<-h3];exact World.putObj_heap_same hlt
  have d2:A2.heap[w.heap.size]? = some (.deferred (some [])):=o2.heap hd (by omega);rw[h3];refine wpIn_mono (hbody s x s' A2 (hI s A A2 _ hi hl o2) (hV s x s' A A2 _ hv hl o2)) ?_;intro ex a3 A3 h
  cases ex
  case normal =>
   obtain⟨o3,i3⟩:=h;have l3:=o3.heap l2 (by omega);have d3:=o3.heap d2 (by omega);have hr:=run_endRound (P:=P) none l3
   have h4:A3.putObj (w.heap.size+1) (.loop (rc .ready none))=A3.putObj (w.heap.size+1) (.loop { rc .ready none with state:=if (none:Option Code).isNone then .ready else .done,pending:=none }):=by rw[h1];rfl
   have o4:Only (λk=>k=w.heap.size+1) A3 (A3.putObj (w.heap.size+1) (.loop (rc .ready none))):=(Only.refl _ A3).putObj _ _ (λ_=>rfl);refine⟨_,_,hr,rfl,?_⟩
   have h5:I s' (A3.putObj (w.heap.size+1) (.loop (rc .ready none)))∧(A3.putObj (w.heap.size+1) (.loop (rc .ready none))).heap[w.heap.size+1]? = some (.loop (rc .ready none))∧(A3.putObj (w.heap.size+1) (.loop (rc .ready none))).heap[w.heap.size]? = some (.deferred (some [])) :=
    ⟨hI s' A3 _ _ i3 l3 o4,World.putObj_heap_same (Array.getElem?_eq_some_iff.1 l3).1,o4.heap d3 (by omega)⟩
   rw[h4] at h5;exact h5
  all_goals exact h.elim
 ·rintro e A ⟨⟨v,rfl⟩,hi,hl,hd⟩
  have hr:=run_endLoop (P:=P) hl (by rw[h1];simp)
  have hp:(rc .ready none).pending=none:=by rw[h1]
  refine⟨none,_,by rw[hr,hp],hdone _ (hI _ _ _ _ hi hl ((Only.refl _ A).putObj _ _ (λ_=>rfl))) ?_⟩;exact (World.putObj_heap_other (by omega)).trans hd
end
section
open Go.Shelf
def xL {σ:Type} (c:Code) (B:Nat) (I Ix:σ->World->Prop) (s:σ) (W:World):Exit->Act->World->Prop
 | .normal,_,W'=>Only (λk=>k<B) W W'∧I s W'
 | .ret,_,W'=>c=.ret∧Only (λk=>k<B) W W'∧Ix s W'
 | .exit id,_,W'=>c=.exit id∧Only (λk=>k<B) W W'∧Ix s W'
 | _,_,_=>False
theorem Jo {σ α:Type} {c:Code} {g:Operand} {ps:Array Tmp} {assign body:Code} {Q:Exit->Act->World->Prop} {a:Act}
 {gf:Nat} {lb:Array Value} (hg:a.eval g=.func (.func gf) #[] lb) (eg:∀args w,(callFunc gf args).run P w=.ok (.enter gf args) w)
 (encs:α->Array Value) (hps:∀x,(encs x).size=ps.size) (I Ix:σ->World->Prop) (V:σ->α->σ->World->Prop) (s0 s1:σ)
 (hI:∀s A B r,I s A->A.heap[w.heap.size+1]? = some (.loop r)->Only (λk=>k=w.heap.size+1) A B->I s B)
 (hIx:∀s A B r,Ix s A->A.heap[w.heap.size+1]? = some (.loop r)->Only (λk=>k=w.heap.size+1) A B->Ix s B)
 (hIn:∀s A B,I s A->N0 A B->I s B)
 (hV:∀s x s' A B r,V s x s' A->A.heap[w.heap.size+1]? = some (.loop r)->Only (λk=>k=w.heap.size+1) A B->V s x s' B)
 (h0:I s0 w)
 (hit:∀(J Jx:σ->World->Prop) (W:World),(∀s A,J s A->I s A)->(∀s A B,J s A->N0 A B->J s B) ->
  (∀s x s' A,J s A->V s x s' A->YieldAt Fence.wide (n - 1 - 1) P (w.heap.size+1) (encs x) A λe B =>
   (e=.returned (.bool true)∧J s' B∧Only (λk=>k<w.heap.size∨k=w.heap.size+1) A B)∨(e=.returned (.bool false)∧Jx s' B))->J s0 W->w.heap.size+2<=W.heap.size ->
  CallsIn Fence.wide (n - 1) P gf (#[.func (.yield (w.heap.size+1)) #[] #[]]++lb) W λe B=>(∃v,e=.returned v)∧(J s1 B∨∃s,Jx s B))
 (a₁:α->Act)
 (hassign:∀(x:α) (W:World) (K:Act->World->Prop),K (a₁ x) W ->
  assign.wpIn (Fence.wide.inRound (w.heap.size+1)) (n - 1 - 1) P (Exit.then K (λ_ _ _=>False)) { tmps:=(ps.zip (encs x)).foldl (λt (p,v)=>t.setIfInBounds p v) a.tmps,defers:=[] } W)
 (hbody:∀(s:σ) (x:α) (s':σ) (W:World),I s W->V s x s' W->body.wpIn (Fence.wide.inRound (w.heap.size+1)) (n - 1 - 1) P (xL c w.heap.size I Ix s' W) (a₁ x) W)
 (hdone:∀(W:World),I s1 W->W.heap[w.heap.size]? = some (.deferred (some []))->Q .normal { a with defers:={ target:=.collected w.heap.size,args:=#[] } :: a.defers } W)
 (hstop:∀(s:σ) (W:World),Ix s W->W.heap[w.heap.size]? = some (.deferred (some []))->c.wpIn Fence.wide n P Q { a with defers:={ target:=.collected w.heap.size,args:=#[] } :: a.defers } W) :
 (Code.rangeFunc g ps assign body).wpIn Fence.wide n P Q a w:=by
 refine wpIn_rangeFunc λfn hfn=>?_
 obtain⟨rc,h1⟩:∃rc:LoopState->Option Code->Loop,rc=λst pe=>{ state:=st,pending:=pe,fn,tmps:=a.tmps,params:=ps,assign,body,defers:=w.heap.size }:=⟨_,rfl⟩
 obtain⟨W1,h2⟩:∃W1,(w.alloc (.deferred (some []))).alloc (.loop (rc .ready none))=W1:=⟨_,rfl⟩
 have hL:W1.heap[w.heap.size+1]? = some (.loop (rc .ready none)):=by
  have:=World.alloc_heap_new (w.alloc (.deferred (some []))) (.loop (rc .ready none));rw[World.size_alloc,h2] at this;exact this
 have hD:W1.heap[w.heap.size]? = some (.deferred (some [])):=by
  rw[<-h2];exact (Below.heap_alloc _ _ _ (by simp)).trans (World.alloc_heap_new w _)
 have hO:N0 w W1:=by
  rw[<-h2];exact ((Only.refl _ w).alloc _).alloc _
 have hS1:w.heap.size+2<=W1.heap.size:=by rw[<-h2];simp
 refine⟨w.heap.size+1,[{ target:=.collected w.heap.size,args:=#[] }],W1,{ target:=.fn (.func gf) lb,args:=#[.func (.yield (w.heap.size+1)) #[] #[]] },W1,gf,#[.func (.yield (w.heap.size+1)) #[] #[]]++lb,W1,?_,?_,λ_ _=>trivial,?_,(λh=>by cases h),?_⟩
 ·rw[<-h2,h1]
  exact run_enterLoop_outer _ _ _ _ _
 ·simp only[resolve,hg]
  simp[go_sem]
 ·simp[invoke,go_sem,eg]
 refine (hit (λs W=>I s W∧W.heap[w.heap.size+1]? = some (.loop (rc .ready none))∧W.heap[w.heap.size]? = some (.deferred (some [])))
  (λs W=>Ix s W∧W.heap[w.heap.size+1]? = some (.loop (rc .done (some c)))∧W.heap[w.heap.size]? = some (.deferred (some []))) W1 (λ_ _ h=>h.1)
  (λs A B h o=>⟨hIn s A B h.1 o,o.heap h.2.1 (λf=>f),o.heap h.2.2 (λf=>f)⟩) ?_ ⟨hIn _ _ _ h0 hO,hL,hD⟩ hS1).mono ?_
 ·rintro s x s' A ⟨hi,hl,hd⟩ hv
  have hlt:w.heap.size+1<A.heap.size:=(Array.getElem?_eq_some_iff.1 hl).1;have hy:=run_yield (P:=P) (args:=encs x) hl (by rw[h1];exact hps x);rw[h1] at hy;refine⟨fn,_,assign,body,hy,roundIn_of_wpIn hfn (hassign x A _ ⟨_,run_beginRound hl (by rw[h1]),?_⟩)⟩;obtain⟨A2,h3⟩:∃A2,A.putObj (w.heap.size+1) (.loop { rc .ready none with state:=.busy })=A2:=⟨_,rfl⟩
  have o2:Only (λk=>k=w.heap.size+1) A A2:=by rw[<-h3];exact (Only.refl _ A).putObj _ _ (λ_=>rfl)
  have l2:A2.heap[w.heap.size+1]? = some (.loop { rc .ready none with state:=.busy }):=by rw[<-h3];exact World.putObj_heap_same hlt
  have d2:A2.heap[w.heap.size]? = some (.deferred (some [])):=o2.heap hd (by omega);rw[h3];refine wpIn_mono (hbody s x s' A2 (hI s A A2 _ hi hl o2) (hV s x s' A A2 _ hv hl o2)) ?_;intro ex a3 A3 h
  cases ex
  case normal =>
   obtain⟨o3,i3⟩:=h;have l3:=o3.heap l2 (by omega);have d3:=o3.heap d2 (by omega);have hr:=run_endRound (P:=P) none l3
   have h4:A3.putObj (w.heap.size+1) (.loop (rc .ready none))=A3.putObj (w.heap.size+1) (.loop { rc .ready none with state:=if (none:Option Code).isNone then .ready else .done,pending:=none }):=by rw[h1];rfl
   have o4:Only (λk=>k=w.heap.size+1) A3 (A3.putObj (w.heap.size+1) (.loop (rc .ready none))):=(Only.refl _ A3).putObj _ _ (λ_=>rfl);refine⟨_,_,hr,.inl ⟨rfl,?_⟩⟩
   have h5:(I s' (A3.putObj (w.heap.size+1) (.loop (rc .ready none)))∧(A3.putObj (w.heap.size+1) (.loop (rc .ready none))).heap[w.heap.size+1]? = some (.loop (rc .ready none))∧(A3.putObj (w.heap.size+1) (.loop (rc .ready none))).heap[w.heap.size]? = some (.deferred (some []))) ∧
    Only (λk=>k<w.heap.size∨k=w.heap.size+1) A (A3.putObj (w.heap.size+1) (.loop (rc .ready none))) :=
    ⟨⟨hI s' A3 _ _ i3 l3 o4,World.putObj_heap_same (Array.getElem?_eq_some_iff.1 l3).1,o4.heap d3 (by omega)⟩,
     ((o2.mono (T:=λk=>k<w.heap.size∨k=w.heap.size+1) (λ_ _ e=>.inr e)).trans o3 (λ_ _ e=>.inl e)).trans o4 (λ_ _ e=>.inr e)⟩
   rw[h4] at h5;exact h5
  all_goals first
  | exact h.elim
  | (obtain⟨hc,o3,i3⟩:=h;have l3:=o3.heap l2 (by omega);have d3:=o3.heap d2 (by omega);have hr:=run_endRound (P:=P) (some c) l3;have h4:A3.putObj (w.heap.size+1) (.loop (rc .done (some c)))=A3.putObj (w.heap.size+1) (.loop { rc .ready none with state:=if (some c:Option Code).isNone then .ready else .done,pending:=some c }):=(by rw[h1];rfl);have o4:Only (λk=>k=w.heap.size+1) A3 (A3.putObj (w.heap.size+1) (.loop (rc .done (some c)))):=(Only.refl _ A3).putObj _ _ (λ_=>rfl);have h5:Ix s' (A3.putObj (w.heap.size+1) (.loop (rc .done (some c))))∧(A3.putObj (w.heap.size+1) (.loop (rc .done (some c)))).heap[w.heap.size+1]? = some (.loop (rc .done (some c)))∧(A3.putObj (w.heap.size+1) (.loop (rc .done (some c)))).heap[w.heap.size]? = some (.deferred (some [])):=⟨hIx s' A3 _ _ i3 l3 o4,World.putObj_heap_same (Array.getElem?_eq_some_iff.1 l3).1,o4.heap d3 (by omega)⟩;rw[h4] at h5;subst hc;exact⟨_,_,hr,.inr ⟨rfl,h5⟩⟩)
 ·rintro e A ⟨⟨v,rfl⟩,⟨hi,hl,hd⟩ | ⟨s,hi,hl,hd⟩⟩
  ·have hr:=run_endLoop (P:=P) hl (by rw[h1];simp)
   have hp:(rc .ready none).pending=none:=by rw[h1]
   refine⟨none,_,by rw[hr,hp],hdone _ (hI _ _ _ _ hi hl ((Only.refl _ A).putObj _ _ (λ_=>rfl))) ?_⟩;exact (World.putObj_heap_other (by omega)).trans hd
  ·have hr:=run_endLoop (P:=P) hl (by rw[h1];simp)
   have hp:(rc .done (some c)).pending=some c:=by rw[h1]
   refine⟨some c,_,by rw[hr,hp],hstop s _ (hIx _ _ _ _ hi hl ((Only.refl _ A).putObj _ _ (λ_=>rfl))) ?_⟩;exact (World.putObj_heap_other (by omega)).trans hd
end
section
open Go.Shelf
theorem jm {n l:Nat} {o:Oper} {a:Act} {K:Act->World->Prop} {Q:Exit->Act->World->Prop} (hnd:∀c,o.op≠.defer c) (h:o.wp P a w K Q):o.wpIn (Fence.wide.inRound l) n P a w K Q:=by
 refine⟨λ_ _=>trivial,?_⟩;rw[Oper.semAt_eq _ _ _ hnd];unfold Oper.wp at h;generalize (execOp a.eval o).run P w=r at *
 cases r with
 | ok x w' =>
  cases x with
  | value v=>exact h
  | skip=>exact h
  | defer d=>exact h
  | enter f args=>exact⟨(λh=>by cases h),CallsIn.inRound l (callsIn_wide.2 h)⟩
  | row row args=>exact⟨(λh=>by cases h),λc cs _=>by
   obtain⟨v,w',r,s⟩:=h c cs
   exact⟨v,w',r,stepsIn_wide.2 s⟩⟩
  | _=>exact False.elim h
 | halt x w'=>cases x <;> first | exact h | exact False.elim h
theorem pf {n l:Nat} {md:Region.Mode} {ops:Array Oper} {Q:Exit->Act->World->Prop} (hQ:¬LetsOut Q) (hnd:∀(i:Nat) (o:Oper),ops[i]? = some o->∀c,o.op≠.defer c) :
 ∀(fuel:Nat) (h0:Array Bool) (a:Act) (w:World),wpAny P md ops Q fuel h0 a w->wpAnyIn (Fence.wide.inRound l) n P md ops Q fuel h0 a w:=by
 intro fuel
 induction fuel with
 | zero=>intro h0 a w h;exact h
 | succ fuel ih =>
  intro h0 a w h;refine⟨h.1,λi hi=>?_⟩;have h1:=h.2 i hi;unfold wpOp at h1;unfold wpOpIn
  cases ho:ops[i]? with
  | none=>simp only[ho] at h1 ⊢;exact ih _ _ _ h1
  | some o =>
   simp only[ho] at h1 ⊢
   by_cases hw:Region.wanted o (yielded ops a.tmps)=true
   ·rw[if_pos hw] at h1 ⊢
    exact Oper.wpIn_mono (λa w=>ih _ a w) (jm (hnd i o ho) (h1.resolve_right (λc=>hQ c.2)))
   ·rw[if_neg hw] at h1 ⊢
    exact⟨λ_ _=>trivial,ih _ _ _ h1⟩
def Tj (l:List Oper):Bool:=l.all λo=>match o.op with | .defer _=>false | _=>true
theorem j3 {l:List Oper} (h:Tj l=true) (i:Nat) (o:Oper) (ho:l.toArray[i]? = some o) (c:Call):o.op≠.defer c:=λe=>by
 have hm:o∈l:=by
  have:=Array.mem_of_getElem? ho
  simpa using this
 have:=List.all_eq_true.1 h o hm;rw[e] at this
 cases this
theorem Sd {k L id:Nat} {Q:Exit->Act->World->Prop} {a:Act} {l:List Oper} (n:Nat) (hm:P.follows .mixedOrders=true) (hQ:¬LetsOut Q) (hnd:Tj l=true) (hB:Region.lexTailB .any l.toArray n=true)
 (h:wpStill P l.toArray { w with drawn:=w.drawn+1 } (λa'=>wpList P l.toArray Q (l.drop n) a' { w with drawn:=w.drawn+1 }) (l.take n) a):(Code.region id l.toArray true).wpIn (Fence.wide.inRound L) k P Q a w:=by
 simp only[Region.lexTailB,Bool.and_eq_true,decide_eq_true_eq] at hB;obtain⟨⟨⟨⟨h1,hn⟩,hs⟩,hc⟩,h3⟩:=hB
 have hn':n<l.length:=by simpa using hn
 have h0:(l.take n).length=n:=by simp;omega
 have h4:(l.drop n).length=l.toArray.size - n:=by simp
 have h2:HeadInv .any l.toArray n (Array.replicate l.toArray.size false) :=
  ⟨by simp,λj oj _ hl=>(by rw[getD_replicate_false] at hl;cases hl),λt _ ht=>Go.getD_in (by simpa using ht) (getD_replicate_false _ _)⟩
 have H:=wpAnyL_lex (md:=.any) (g:=l.toArray.size - n) h1 hs hc hn (l.take n) 0 _ a (λj hj=>by
  have hj':j<n:=by rw[h0] at hj;exact hj
  simp[hj']) (by simpa using h0) h2 (by rw[h0];exact h3) h
 refine wpIn_region_any hm (pf hQ (j3 hnd) _ _ _ _ ?_)
 have:=wpAny_of_head (Q':=Q) (g:=l.toArray.size - n) (λlisted a' hL=>by
  have:=wpAny_of_seq (md:=.any) (Q':=Q) (l.drop n) n listed a' { w with drawn:=w.drawn+1 } (λj=>by simp[List.getElem?_drop]) (by rw[h4];exact hL.1) hL.2
  rwa [h4] at this) _ _ _ H
 rw[h0,show n+(l.toArray.size - n)=l.toArray.size by omega] at this;exact this
end
section
open Go.Shelf
attribute [local go_sem] Oper.semAt_some
theorem Cv (key info:LI) (j:Nat):U8 (tpc key info j):=by
 cases j with
 | zero=>intro y hy;cases hy
 | succ j=>exact VX _ _
theorem gX (key info:LI) (j:Nat):(tpc key info j).length<=32:=by
 cases j with
 | zero=>exact Nat.zero_le _
 | succ j=>exact Nat.le_of_eq (Zz _ _ _)
def three (a b c:LI) (i:Nat):LI:=if i=0 then a else if i=1 then b else c
theorem Do (a b c:LI):pcat (three a b c) 3=a++b++c:=by
 show ((([]++a)++b)++c:LI)=_
 rw[List.nil_append]
theorem Ps.three {p u q:Value} {a b c:LI} (ha:Bs .u8 w p a) (hb:Bs .u8 w u b) (hc:Bs .u8 w q c) (a8:U8 a) (b8:U8 b) (c8:U8 c) (G:Nat) (hG:w.heap.size=G) :
 Ps (w.alloc (.cells #[p,u,q] 23)) G 3 (three a b c):=λi hi=>by
 subst hG;have o:N0 w (w.alloc (.cells #[p,u,q] 23)):=VG.alloc _;have hB:=Blk.new w 23 [p,u,q]
 rcases (show i=0∨i=1∨i=2 by omega) with rfl | rfl | rfl
 ·exact⟨p,hB.cell 0,ha.past o,a8⟩
 ·exact⟨u,hB.cell 1,hb.past o,b8⟩
 ·exact⟨q,hB.cell 2,hc.past o,c8⟩
theorem FJ (n:Nat) (a:Option Addr) (len cap:Nat) (b:Option Addr) (len' cap':Nat) (w:World) :
 CallsIn Fence.wide n prog 144 #[.slice a len cap,.slice b len' cap'] w λe w'=>e=.returned (.func (.func 193) #[] #[.pointer (some ⟨w.heap.size,0,none⟩),.pointer (some ⟨w.heap.size+1,0,none⟩)])∧w'=(w.alloc (.cells #[.slice a len cap] 23)).alloc (.cells #[.slice b len' cap'] 23):=by
 refine callsIn_of_wp func144 rfl trivial ?_ rfl;simp only[ntmps144,List.size_toArray,Qk,List.length_nil,Nat.reduceAdd,Nat.reduceSub,Array.replicate_succ,Array.replicate_zero,List.push_toArray,List.append_toArray,List.nil_append,List.cons_append]
 gi_wp2
 go_ret;exact⟨rfl,rfl⟩
theorem jB (n L Bk Bi B0:Nat) (v:Value) (ua:Option Addr) (ul uc:Nat) (key info:LI) (h8:U8 key) (hk:key.length<=10000000000) (hj:U8 info) (hl:info.length<=1000000000) (J Jx:Nat->World->Prop)
 (hJ:∀s A,J s A->Boxed A Bk 23 v∧Boxed A Bi 23 (.slice ua ul uc)∧Bs .u8 A v key∧Bs .u8 A (.slice ua ul uc) info)
 (hJo:∀s A B,J s A->N0 A B->J s B)
 (hY:∀(s:Nat) g c A,s<255->J s A->Bs .u8 A (.slice (some ⟨g,0,none⟩) 32 c) (tpc key info (s+1))->B0+2<=g->YieldAt Fence.wide (n - 1) prog L #[.slice (some ⟨g,0,none⟩) 32 c] A λe B =>
  (e=.returned (.bool true)∧J (s+1) B∧Only (λk=>k<B0∨k=B0+1) A B)∨(e=.returned (.bool false)∧Jx (s+1) B))
 (W:World) (h0:J 0 W) (hW:B0+2<=W.heap.size) :
 CallsIn Fence.wide n prog 193 #[.func (.yield L) #[] #[],.pointer (some ⟨Bk,0,none⟩),.pointer (some ⟨Bi,0,none⟩)] W λe B=>(∃v,e=.returned v)∧(J 255 B∨∃s,Jx s B):=by
 have HJ:=Qa hJ;have HJo:=Qa hJo;have HY:=Qa hY;have H0:=Qa h0;have HW:=Qa hW;have HK:=Qa (Vz h8 (Vz hk (Vz hj hl)));clear hJ hJo hY h0 hW h8 hk hj hl;refine callsIn_of_wp func193 rfl trivial ?_ rfl;simp only[ntmps193,List.size_toArray,Qk,List.length_nil,Nat.reduceAdd,Nat.reduceSub,Array.replicate_succ,Array.replicate_zero,List.push_toArray,List.append_toArray,List.nil_append,List.cons_append]
 gi_wp2
 gi_loopw [4,6] (λp i wr=>∃t:Nat,t<=255∧i=.int .i64 t∧Hid (J t wr)∧Hid (Bs .u8 wr p (tpc key info t))∧Hid (∀k,p.ownBlock=some k->B0+2<=k)∧Hid (B0+2<=wr.heap.size)) (λ_ i _=>255 - (intOf i).toNat)
 case atStart=>exact⟨0,by omega,rfl,H0,Bs.nil _ _,(λk h=>by cases h),HW⟩
 case round =>
  obtain⟨t,ht,rfl,HT,HP,HQ,HS⟩:=hrel
  by_cases hlt:t<255
  ·have dlt:decide ((t:Int)<255)=true:=Qe (by omega)
   obtain⟨hf,ha,h9,h7⟩:=HJ.o t wr HT.o;have hc1:=hf.cell;have hc2:=ha.cell;obtain⟨b,hb⟩:∃b:Int,b=(t:Int)+1:=⟨_,rfl⟩
   have he:b=(((t+1) % 256:Nat):Int):=by omega
   obtain⟨pa,pc,ep⟩:=HP.o.len;obtain⟨m,hm⟩:=EX ((tpc key info t).length);rw[<-hm] at ep;subst ep;have o1:N0 wr (wr.alloc (.cells #[.int .u8 b] 5)):=VG.alloc _;have o2:N0 wr ((wr.alloc (.cells #[.int .u8 b] 5)).alloc (.cells #[.slice pa m pc,.slice ua ul uc,.slice (some ⟨wr.heap.size,0,none⟩) 1 1] 23)):=o1.alloc _;have hh:=Ps.three (HP.o.past o1) (h7.past o1) (Bs.litN .u8 wr 5 [b] _ _ rfl rfl) (Cv _ _ _) HK.o.2.2.1 (λy hy=>by rw[List.mem_singleton] at hy;subst hy;omega) (wr.heap.size+1) (size_alloc _ _)
   have A:=Qa (RQ v key (wr.heap.size+1) 3 (three (tpc key info t) info [b]) ((wr.alloc (.cells #[.int .u8 b] 5)).alloc (.cells #[.slice pa m pc,.slice ua ul uc,.slice (some ⟨wr.heap.size,0,none⟩) 1 1] 23)) (h9.past o2) HK.o.1 HK.o.2.1 hh (by
    have h1:=gX key info t;have h2:=HK.o.2.2.2
    rw[Do,Qb,Qb];simp only[List.length_singleton];omega) (by decide))
   have hM:MACL key (pcat (three (tpc key info t) info [b]) 3)=tpc key info (t+1):=by rw[Do,he];rfl
   rw[hM,hb] at A;have O2:=Qa o2;rw[hb] at O2;clear hf ha h9 h7 hb he hm o1 o2 hh hM
   gi_wp2_with fail
   refine⟨trivial,(λh=>by cases h),(callsIn_wide.2 A.o).mono ?_⟩;rintro e w2 ⟨r,rfl,h3,h5⟩;have hsz:=O2.o.size;have hs2:=h5.size;have hS:=HS.o;have b2:Bs .u8 w2 r (tpc key info (t+1)):=Bs.of_own (by rw[Zz];exact h3)
   have hd:=λk hk=>(h3.lt k hk)
   obtain⟨ra,rc,er⟩:=QK h3;subst er
   obtain⟨g,hg⟩:∃g,ra=some ⟨g,0,none⟩:=by
    rcases h3.2 with ⟨_,h0⟩ | ⟨g,cap,cur,hv,_⟩
    ·cases h0
    ·simp at hv;exact⟨g,hv.1⟩
   subst hg;have hgB:=hd g rfl;obtain⟨fn,tmps,h6,body,hy,hR⟩:=HY.o t g rc w2 hlt (HJo.o _ _ _ HT.o (O2.o.same h5)) b2 (by omega);have HR:=Qa hR;have H2:=Qa (Vz b2 (show B0+2<=g by omega))
   have HS2:Hid (B0+2<=w2.heap.size):=by show _<=_;omega
   clear h3 h5 A hR b2 hd hsz hs2 hS hgB hc1 hc2 HT HP HQ HS O2
   gi_wp2
   refine⟨(λh=>by cases h),HR.o.mono ?_⟩;rintro e w3 (⟨rfl,h4,o3⟩ | ⟨rfl,h4⟩)
   ·have H3:=Qa h4
    have N2:=Qa (H2.o.1.keep o3 (λk hk=>by
     have h2:=H2.o.2;simp[Value.ownBlock] at hk
     omega))
    have N3:Hid (∀k,(Value.slice (some ⟨g,0,none⟩) 32 rc).ownBlock=some k->B0+2<=k):=λk hk=>by
     have h2:=H2.o.2;simp[Value.ownBlock] at hk;omega
    have N4:Hid (B0+2<=w3.heap.size):=by
     have h1:=HS2.o;have h2:=o3.size
     show _<=_
     omega
    clear HR h4 o3
    gi_wp2
    go_roundw
    case rel=>exact⟨t+1,by omega,by go_num,H3,N2,N3,N4⟩
    case measure=>simp[intOf];omega
   ·have H3:=Qa h4
    clear HR h4
    gi_wp2
    refine bodyPost_ret (results_none rfl _ _ _) rfl ?_;exact⟨⟨_,rfl⟩,.inr ⟨_,H3.o⟩⟩
  ·obtain rfl:t=255:=by omega
   gi_wp2
   go_end0
   exact⟨⟨_,rfl⟩,.inl HT.o⟩
end
section
open Go.Shelf
attribute [local go_sem] Oper.semAt_some
theorem FL (w:World) (c:Nat) (hc:c<=100000):(Instr.makeSlice 23 (.int .i64 0) (.int .i64 (c:Int))).run prog w=.ok (.slice (some ⟨w.heap.size,0,none⟩) 0 c) (w.alloc (.cells (bl (List.replicate c 0)).toArray 5)):=by
 obtain⟨i0,hi,hz0,hz1,hz2⟩:=info_parts Tryz.infoU8;have:=run_make (P:=prog) w 23 5 i0 (.int .u8 0) underlying23 hi hz0 .i64 .i64 0 c (by omega) (by omega) (by rw[hz2];omega) (by omega)
 have e:madeCells (Value.int .u8 0).cells ((c:Int).toNat*i0.size)=(bl (List.replicate c 0)).toArray:=by
  apply Array.toList_inj.1
  rw[show (Value.int .u8 0).cells=#[.int .u8 0] from rfl,toList_madeCells_one];simp[bl,hz1]
 rw[e] at this;exact this
theorem Lf (key info:LI) (n s:Nat) (h:n<=32*s):(tcat key info s).take n=EXPL key info n:=by
 unfold EXPL;obtain⟨d,hd⟩:∃d,s=(n+31) / 32+d:=⟨s - (n+31) / 32,by omega⟩;rw[hd,<-ue key info ((n+31) / 32) d,List.take_take,Nat.min_eq_left (by omega)]
def Oq (W0:World) (Bx Gr lo n:Nat) (A:World) (m:Nat) (xs:LI):Prop :=
 Only (λk=>k=Bx∨k=Gr) W0 A∧Boxed A Bx 23 (.slice (some ⟨Gr,0,none⟩) m n)∧A.ownsRow lo 5 1 (.slice (some ⟨Gr,0,none⟩) m n) m (xs.map (Value.int .u8))
theorem Oq.past {W0:World} {Bx Gr lo n m:Nat} {A B:World} (h:Oq W0 Bx Gr lo n A m xs) (o:N0 A B):Oq W0 Bx Gr lo n B m xs :=
 ⟨h.1.trans o (λ_ _ f=>f.elim),QN h.2.1 o (λf=>f),o.own h.2.2 (λ_ _ f=>f)⟩
theorem Oq.loop {W0:World} {Bx Gr lo n m:Nat} {A B:World} (h:Oq W0 Bx Gr lo n A m xs) {L:Nat} (o:Only (λk=>k=L) A B) (hL:W0.heap.size<=L) (hx:Bx<W0.heap.size) (hr:Gr<W0.heap.size):Oq W0 Bx Gr lo n B m xs :=
 ⟨h.1.trans o (λk hk e=>by omega),QN h.2.1 o (by omega),o.own h.2.2 (λk hk e=>by simp[Value.ownBlock] at hk;omega)⟩
theorem Oq.stored {W0 W w4:World} {Bx Gr lo n m m':Nat} (h:Oq W0 Bx Gr lo n W m xs) (hne:Bx≠Gr) (hx:Bx<W0.heap.size) (hr:Gr<W0.heap.size)
 (own:w4.ownsRow lo 5 1 (.slice (some ⟨Gr,0,none⟩) m' n) m' (ys.map (Value.int .u8))) (hg:W.drew.grownBy w4 (some Gr)) :
 Only (λk=>k<W0.heap.size) W (w4.setCell ⟨Bx,0,none⟩ (.slice (some ⟨Gr,0,none⟩) m' n))∧Oq W0 Bx Gr lo n (w4.setCell ⟨Bx,0,none⟩ (.slice (some ⟨Gr,0,none⟩) m' n)) m' ys:=by
 have o4:Only (λk=>k=Gr) W w4:=((Only.refl (λk=>k=Gr) W).drew).grown hg (λk _ e=>by cases e;rfl);have o5:Only (λk=>k=Bx) w4 (w4.setCell ⟨Bx,0,none⟩ (.slice (some ⟨Gr,0,none⟩) m' n)):=(Only.refl (λk=>k=Bx) w4).setCell (p:=⟨Bx,0,none⟩) (λ_=>rfl) _;refine⟨(o4.mono (T:=λk=>k<W0.heap.size) (λk _ e=>by omega)).trans o5 (λk _ e=>by omega),?_,(QN h.2.1 o4 (by omega)).set _,o5.own own (λk hk e=>by simp[Value.ownBlock] at hk;omega)⟩;exact (h.1.trans o4 (λk _ e=>.inr e)).trans o5 (λk _ e=>.inl e)
theorem pA (aov:Option Addr) (lv cv:Nat) (aou:Option Addr) (lu cu:Nat) (key info:LI) (n:Nat) (w:World) (hb:Bs .u8 w (.slice aov lv cv) key) (h8:U8 key) (hk:key.length<=1000000000) (hu:Bs .u8 w (.slice aou lu cu) info) (ka:U8 info) (hl:info.length<=1000000000) (hn:n<=8160) :
 Calls prog 103 #[.slice aov lv cv,.slice aou lu cu,.int .i64 (n:Int)] w λe w'=>∃r,e=.returned (.tuple #[r,.int .i64 0])∧w'.ownsRow w.heap.size 5 1 r n ((EXPL key info n).map (Value.int .u8))∧N0 w w':=by
 obtain⟨i0,hi,hz0,kc,hz2⟩:=info_parts Tryz.infoU8;have HB:=Qa (Vz hb (Vz h8 (Vz hk (Vz hu (Vz ka hl)))));have d1:decide ((n:Int)<0)=false:=Qi (by omega);have d2:decide ((8160:Int)<(n:Int))=false:=Qi (by omega);have d2':decide (8160<n)=false:=Qi (by omega);obtain⟨Z,hZ⟩:=EX ((bl (List.replicate n 0)).toArray);have hmk:=FL (w.alloc (.cells #[.int .i64 (n:Int)] 3)) n (by omega);rw[<-hZ,size_alloc] at hmk;have HZ:=Qa hZ;clear hb h8 hk hu ka hl hZ;refine (callsIn_wide (n:=5)).1 ?_;refine callsIn_of_wp_marks func103 rfl trivial ?_ rfl;simp only[ntmps103,List.size_toArray,Qk,List.length_nil,Nat.reduceAdd,Nat.reduceSub,Array.replicate_succ,Array.replicate_zero,List.push_toArray,List.append_toArray,List.nil_append,List.cons_append]
 gi_wp2_with fail
 refine⟨trivial,(FJ _ _ _ _ _ _ _ _).mono ?_⟩;rintro e w2 ⟨rfl,rfl⟩
 gi_wp2_with fail
 obtain⟨W0,h9⟩:∃W0,((((w.alloc (.cells #[.int .i64 (n:Int)] 3)).alloc (.cells Z 5)).alloc (.cells #[.slice (some ⟨w.heap.size+1,0,none⟩) 0 n] 23)).alloc (.cells #[.slice aov lv cv] 23)).alloc (.cells #[.slice aou lu cu] 23)=W0:=⟨_,rfl⟩
 have o0:N0 w W0:=by rw[<-h9];exact (((((Only.refl _ w).alloc _).alloc _).alloc _).alloc _).alloc _
 have hy:W0.heap.size=w.heap.size+1+1+1+1+1:=by rw[<-h9];simp
 have bN:Boxed W0 w.heap.size 3 (.int .i64 (n:Int)):=by rw[<-h9];exact ((((Boxed.new w 3 (.int .i64 (n:Int))).alloc _).alloc _).alloc _).alloc _
 have bX:Boxed W0 (w.heap.size+1+1) 23 (.slice (some ⟨w.heap.size+1,0,none⟩) 0 n):=by
  have h:=((Boxed.new ((w.alloc (.cells #[.int .i64 (n:Int)] 3)).alloc (.cells Z 5)) 23 (.slice (some ⟨w.heap.size+1,0,none⟩) 0 n)).alloc (.cells #[.slice aov lv cv] 23)).alloc (.cells #[.slice aou lu cu] 23);rw[World.size_alloc,World.size_alloc,h9] at h;exact h
 have bK:Boxed W0 (w.heap.size+1+1+1) 23 (.slice aov lv cv):=by
  have h:=(Boxed.new (((w.alloc (.cells #[.int .i64 (n:Int)] 3)).alloc (.cells Z 5)).alloc (.cells #[.slice (some ⟨w.heap.size+1,0,none⟩) 0 n] 23)) 23 (.slice aov lv cv)).alloc (.cells #[.slice aou lu cu] 23);rw[World.size_alloc,World.size_alloc,World.size_alloc,h9] at h;exact h
 have bI:Boxed W0 (w.heap.size+1+1+1+1) 23 (.slice aou lu cu):=by
  have h:=Boxed.new ((((w.alloc (.cells #[.int .i64 (n:Int)] 3)).alloc (.cells Z 5)).alloc (.cells #[.slice (some ⟨w.heap.size+1,0,none⟩) 0 n] 23)).alloc (.cells #[.slice aov lv cv] 23)) 23 (.slice aou lu cu);rw[World.size_alloc,World.size_alloc,World.size_alloc,World.size_alloc,h9] at h;exact h
 have bG:Blk W0 (w.heap.size+1) 5 (bl (List.replicate n 0)):=by
  have h:=(((Blk.new (w.alloc (.cells #[.int .i64 (n:Int)] 3)) 5 (bl (List.replicate n 0))).alloc (.cells #[.slice (some ⟨w.heap.size+1,0,none⟩) 0 n] 23)).alloc (.cells #[.slice aov lv cv] 23)).alloc (.cells #[.slice aou lu cu] 23);rw[<-HZ.o,World.size_alloc,h9] at h;exact h
 have oG:W0.ownsRow w.heap.size 5 1 (.slice (some ⟨w.heap.size+1,0,none⟩) 0 n) 0 ([]:List Value):=by
  have h:=Lo (base:=w.heap.size) (n:=0) (cap:=n) bG (by omega) (Nat.zero_le _) (by simp only[maxLen];omega) (by rw[Qt,List.length_replicate]);rw[List.take_zero] at h;exact h
 rw[h9];have HI0:(0=0∨32*0<n)∧Oq W0 (w.heap.size+1+1) (w.heap.size+1) w.heap.size n W0 (32*0) (tcat key info 0):=⟨.inl rfl,VG,bX,oG⟩
 refine Jo (c:=.exit 0) (gf:=193) (lb:=#[.pointer (some ⟨w.heap.size+1+1+1,0,none⟩),.pointer (some ⟨w.heap.size+1+1+1+1,0,none⟩)]) rfl (enters_of func193 (by kernel_rfl) rfl)
  (λx:Nat × Nat=>#[.slice (some ⟨x.1,0,none⟩) 32 x.2]) (λ_=>rfl)
  (λs A=>(s=0∨32*s<n)∧Oq W0 (w.heap.size+1+1) (w.heap.size+1) w.heap.size n A (32*s) (tcat key info s))
  (λ_ A=>Oq W0 (w.heap.size+1+1) (w.heap.size+1) w.heap.size n A n (EXPL key info n))
  (λs x s' A=>s'=s+1∧s<255∧Bs .u8 A (.slice (some ⟨x.1,0,none⟩) 32 x.2) (tpc key info (s+1))∧W0.heap.size+2<=x.1) 0 255
  (λs A B r hi hl o=>⟨hi.1,hi.2.loop o (by omega) (by omega) (by omega)⟩) (λs A B r hi hl o=>Oq.loop hi o (by omega) (by omega) (by omega)) (λs A B hi o=>⟨hi.1,hi.2.past o⟩)
  (λs x s' A B r hv hl o=>⟨hv.1,hv.2.1,hv.2.2.1.loop hl o,hv.2.2.2⟩) HI0
  ?hit (λx=>{ tmps:=#[.slice aov lv cv,.slice aou lu cu,.int .i64 (n:Int),undef,undef,.pointer (some ⟨w.heap.size,0,none⟩),.slice none 0 0,.int .i64 0,.pointer (some ⟨w.heap.size+1+1,0,none⟩),.slice (some ⟨x.1,0,none⟩) 32 x.2,.int .i64 (n:Int),.bool false,.bool false,.int .i64 (n:Int),.bool false,.bool false,.int .i64 (n:Int),.slice (some ⟨w.heap.size+1,0,none⟩) 0 n,.slice aov lv cv,.slice aou lu cu,.func (.func 193) #[] #[.pointer (some ⟨w.heap.size+1+1+1,0,none⟩),.pointer (some ⟨w.heap.size+1+1+1+1,0,none⟩)],.slice (some ⟨x.1,0,none⟩) 32 x.2,undef,undef,undef,undef,undef,undef,undef,undef,undef,undef,undef,undef,undef,undef,undef,undef],defers:=[] }) ?assign ?body ?done ?stop
 case hit =>
  intro J Jx W hJ hJo hY h0 hW;refine jB 4 (W0.heap.size+1) (w.heap.size+1+1+1) (w.heap.size+1+1+1+1) W0.heap.size (.slice aov lv cv) aou lu cu key info HB.o.2.1 (by have:=HB.o.2.2.1;omega) HB.o.2.2.2.2.1 HB.o.2.2.2.2.2 J Jx (λs A hs=>?_) hJo (λs g c A h3 hs hb hg=>hY s (g,c) (s+1) A hs ⟨rfl,h3,hb,hg⟩) W h0 hW;have o:=(hJ s A hs).2.1;have o':N0 w A:=o0.trans o (λk hk e=>by omega);exact⟨QN bK o (by omega),QN bI o (by omega),HB.o.1.past o',HB.o.2.2.2.1.past o'⟩
 case assign =>
  intro x W K hK
  gi_wp2
  exact hK
 case body =>
  rintro s ⟨g,cp⟩ s' W ⟨hs,hq⟩ ⟨rfl,k1,hd,hg⟩;simp only at hd hg;have hj:=hq.2.1.cell;have k6:=(QN bN hq.1 (by omega)).cell
  have k5:32<=cp:=by
   obtain⟨_,_,e,h,_⟩:=hd;simp at e;obtain⟨_,_,rfl⟩:=e;rw[Zz] at h;exact h
  obtain⟨a,ha⟩:=EX (32*s);have HA:=Qa ha
  have k0:a<=n:=by omega
  rw[<-ha] at hj hq;obtain⟨XS,hp⟩:=EX (tcat key info s);rw[<-hp] at hq;have HXS:=Qa hp
  have hT:tcat key info (s+1)=XS++tpc key info (s+1):=by rw[hp];rfl
  have HT:=Qa hT;have k4:(tpc key info (s+1)).length=32:=Zz _ _ _;obtain⟨T,k2⟩:=EX (tpc key info (s+1));rw[<-k2] at hd k4 HT;have HQ:=Qa hq;have HS:=Qa (Vz hs (Vz k1 hg));have hz:=Qa hy
  have h32:(32:Int)<=(cp:Int):=by omega
  obtain⟨r,hr⟩:∃r:Nat,r=n - a:=⟨_,rfl⟩
  have hf:(n:Int) - (a:Int)=(r:Int):=by omega
  have HR:=Qa (Vz hr k0)
  have hwr:IntKind.i64.wrap (r:Int)=(r:Int):=by rw[IntKind.wrap_i64];omega
  by_cases hmin:r<32
  ·have HC:Hid ((((T.take r).map (Value.int .u8)).length=r*1)∧∀j v,((T.take r).map (Value.int .u8))[j]? = some v->W.drew.cell? ((⟨g,0,none⟩:Addr).add j)=some v):=by
    refine⟨by rw[List.length_map,Qg,k4];omega,?_⟩;exact (hd.head (n:=r) (by omega)).news
   have he:Hid (a+r<=n):=by show _<=_;omega
   have m1:(r:Int)<32:=by omega
   have m2:¬(32:Int)<(r:Int):=by omega
   have m3:(r:Int)<=(cp:Int):=by omega
   have dm:decide ((r:Int)<32)=true:=Qe m1;clear hs hq hd hg ha k0 hp hT k2 hy hr k5
   gi_wp2_with fail
   refine wpIn_mono (Q:=Exit.then (λa1 W1=>a1={ tmps:=#[.slice aov lv cv,.slice aou lu cu,.int .i64 (n:Int),undef,undef,.pointer (some ⟨w.heap.size,0,none⟩),.slice none 0 0,.int .i64 0,.pointer (some ⟨w.heap.size+1+1,0,none⟩),.slice (some ⟨g,0,none⟩) 32 cp,.int .i64 (n:Int),.bool false,.bool false,.int .i64 (n:Int),.bool false,.bool false,.int .i64 (n:Int),.slice (some ⟨w.heap.size+1,0,none⟩) 0 n,.slice aov lv cv,.slice aou lu cu,.func (.func 193) #[] #[.pointer (some ⟨w.heap.size+1+1+1,0,none⟩),.pointer (some ⟨w.heap.size+1+1+1+1,0,none⟩)],.slice (some ⟨g,0,none⟩) 32 cp,.slice (some ⟨w.heap.size+1,0,none⟩) a n,.slice (some ⟨g,0,none⟩) 32 cp,.slice (some ⟨g,0,none⟩) 32 cp,.int .i64 32,.int .i64 (n:Int),.slice (some ⟨w.heap.size+1,0,none⟩) a n,.int .i64 (a:Int),.int .i64 (r:Int),.int .i64 (r:Int),.slice (some ⟨g,0,none⟩) r cp,.slice (some ⟨w.heap.size+1,0,none⟩) (a+r) n,undef,undef,undef,undef,undef],defers:=[] }∧∃w4,w4.ownsRow w.heap.size 5 1 (.slice (some ⟨w.heap.size+1,0,none⟩) (a+r) n) (a+r) (XS.map (Value.int .u8)++(T.take r).map (Value.int .u8))∧W.drew.grownBy w4 (some (w.heap.size+1))∧W1=w4.setCell ⟨w.heap.size+1+1,0,none⟩ (.slice (some ⟨w.heap.size+1,0,none⟩) (a+r) n)) (λ_ _ _=>False)) ?hr ?hq
   case hr =>
    refine Sd 10 (by kernel_rfl) (λ⟨_,_,h⟩=>h) (by kernel_rfl) (by kernel_rfl) ?_;simp only[List.take_succ_cons,List.take_zero,List.drop_succ_cons,List.drop_zero]
    repeat still_step
    refine wpStill_nil ?_;refine wpList_append_fits _ rfl _ _ 23 rfl w.heap.size 5 i0 1 underlying23 hi kc (w.heap.size+1) a n (XS.map (Value.int .u8)) rfl HQ.o.2.2 ⟨g,0,none⟩ r cp ((T.take r).map (Value.int .u8)) rfl HC.o.1 HC.o.2 (KF _ _) he.o ?_;intro w4 h5 h4;have hc4:w4.cell? ⟨w.heap.size+1+1,0,none⟩=some (.slice (some ⟨w.heap.size+1,0,none⟩) a n):=(World.cell?_of_block (h4.block (w.heap.size+1+1) HQ.o.2.1.lt (λe=>by have:=Option.some.inj e;omega))).trans hj;have hf4:w4.frozen? ⟨w.heap.size+1+1,0,none⟩=false:=((show Boxed W.drew (w.heap.size+1+1) 23 (.slice (some ⟨w.heap.size+1,0,none⟩) a n) from HQ.o.2.1).kept (W':=w4) h4 (λe=>by have:=Option.some.inj e;omega)).frozen;go_wp2;exact⟨trivial,w4,h5,h4,rfl⟩
   intro ex a1 W1 h
   cases ex
   all_goals first | exact False.elim h | skip
   obtain⟨rfl,w4,h5,h4,rfl⟩:=h
   have hh:w.heap.size+1+1≠w.heap.size+1:=by omega
   have h6:=HQ.o.stored (m':=a+r) (ys:=XS++T.take r) hh (by have:=hz.o;omega) (by have:=hz.o;omega) (by rw[List.map_append];exact h5) h4;obtain⟨W5,ht⟩:=EX (w4.setCell ⟨w.heap.size+1+1,0,none⟩ (.slice (some ⟨w.heap.size+1,0,none⟩) (a+r) n));rw[<-ht] at h6 ⊢;have ho:=h6.2.2.1.cell;have hn5:=(QN bN h6.2.1 (by omega)).cell;have h7:=Qa h6;clear h6 ht h5 h4 hj k6 HQ HC
   have e1:XS++T.take r=EXPL key info n:=by
    have h1:=HA.o;have h2:=HR.o
    have k7:XS.length=a:=by rw[HXS.o,ZI,h1]
    have hx:XS.take n=XS:=List.take_of_length_le (by rw[k7];exact h2.2);rw[<-Lf key info n (s+1) (by omega),HT.o,List.take_append,hx,k7,<-h2.1]
   have hw:a+r=n:=by have:=HR.o;omega
   rw[e1] at h7;obtain⟨m,hm⟩:=EX (a+r);rw[<-hm] at h7 ho hw ⊢
   have k9:((m:Int) == (n:Int))=true:=by rw[hw];simp
   have HM:=Qa hw;clear hm hw e1 hf
   gi_wp2
   refine⟨rfl,h7.o.1,?_⟩;have:=h7.o.2;rw[HM.o] at this;exact this
  ·have HC:Hid (((T.map (Value.int .u8)).length=32*1)∧∀j v,(T.map (Value.int .u8))[j]? = some v->W.drew.cell? ((⟨g,0,none⟩:Addr).add j)=some v):=by
    refine⟨by rw[List.length_map,k4],?_⟩;exact hd.news
   have he:Hid (a+32<=n):=by show _<=_;omega
   have m1:¬(r:Int)<32:=by omega
   have m2:(32:Int)<=(r:Int):=by omega
   have dm:(if (r:Int)<32 then (r:Int) else 32)=32:=if_neg m1;clear m1;clear hs hq hd hg ha k0 hp hT k2 hy hr k5
   gi_wp2_with fail
   refine wpIn_mono (Q:=Exit.then (λa1 W1=>a1={ tmps:=#[.slice aov lv cv,.slice aou lu cu,.int .i64 (n:Int),undef,undef,.pointer (some ⟨w.heap.size,0,none⟩),.slice none 0 0,.int .i64 0,.pointer (some ⟨w.heap.size+1+1,0,none⟩),.slice (some ⟨g,0,none⟩) 32 cp,.int .i64 (n:Int),.bool false,.bool false,.int .i64 (n:Int),.bool false,.bool false,.int .i64 (n:Int),.slice (some ⟨w.heap.size+1,0,none⟩) 0 n,.slice aov lv cv,.slice aou lu cu,.func (.func 193) #[] #[.pointer (some ⟨w.heap.size+1+1+1,0,none⟩),.pointer (some ⟨w.heap.size+1+1+1+1,0,none⟩)],.slice (some ⟨g,0,none⟩) 32 cp,.slice (some ⟨w.heap.size+1,0,none⟩) a n,.slice (some ⟨g,0,none⟩) 32 cp,.slice (some ⟨g,0,none⟩) 32 cp,.int .i64 32,.int .i64 (n:Int),.slice (some ⟨w.heap.size+1,0,none⟩) a n,.int .i64 (a:Int),.int .i64 (r:Int),.int .i64 32,.slice (some ⟨g,0,none⟩) 32 cp,.slice (some ⟨w.heap.size+1,0,none⟩) (a+32) n,undef,undef,undef,undef,undef],defers:=[] }∧∃w4,w4.ownsRow w.heap.size 5 1 (.slice (some ⟨w.heap.size+1,0,none⟩) (a+32) n) (a+32) (XS.map (Value.int .u8)++(T).map (Value.int .u8))∧W.drew.grownBy w4 (some (w.heap.size+1))∧W1=w4.setCell ⟨w.heap.size+1+1,0,none⟩ (.slice (some ⟨w.heap.size+1,0,none⟩) (a+32) n)) (λ_ _ _=>False)) ?hr2 ?hq2
   case hr2 =>
    refine Sd 10 (by kernel_rfl) (λ⟨_,_,h⟩=>h) (by kernel_rfl) (by kernel_rfl) ?_;simp only[List.take_succ_cons,List.take_zero,List.drop_succ_cons,List.drop_zero]
    repeat still_step
    refine wpStill_nil ?_;refine wpList_append_fits _ rfl _ _ 23 rfl w.heap.size 5 i0 1 underlying23 hi kc (w.heap.size+1) a n (XS.map (Value.int .u8)) rfl HQ.o.2.2 ⟨g,0,none⟩ 32 cp ((T).map (Value.int .u8)) rfl HC.o.1 HC.o.2 (KF _ _) he.o ?_;intro w4 h5 h4;have hc4:w4.cell? ⟨w.heap.size+1+1,0,none⟩=some (.slice (some ⟨w.heap.size+1,0,none⟩) a n):=(World.cell?_of_block (h4.block (w.heap.size+1+1) HQ.o.2.1.lt (λe=>by have:=Option.some.inj e;omega))).trans hj;have hf4:w4.frozen? ⟨w.heap.size+1+1,0,none⟩=false:=((show Boxed W.drew (w.heap.size+1+1) 23 (.slice (some ⟨w.heap.size+1,0,none⟩) a n) from HQ.o.2.1).kept (W':=w4) h4 (λe=>by have:=Option.some.inj e;omega)).frozen;go_wp2;exact⟨trivial,w4,h5,h4,rfl⟩
   intro ex a1 W1 h
   cases ex
   all_goals first | exact False.elim h | skip
   obtain⟨rfl,w4,h5,h4,rfl⟩:=h
   have hh:w.heap.size+1+1≠w.heap.size+1:=by omega
   have h6:=HQ.o.stored (m':=a+32) (ys:=XS++T) hh (by have:=hz.o;omega) (by have:=hz.o;omega) (by rw[List.map_append];exact h5) h4;obtain⟨W5,ht⟩:=EX (w4.setCell ⟨w.heap.size+1+1,0,none⟩ (.slice (some ⟨w.heap.size+1,0,none⟩) (a+32) n));rw[<-ht] at h6 ⊢;have ho:=h6.2.2.1.cell;have hn5:=(QN bN h6.2.1 (by omega)).cell;have h7:=Qa h6;clear h6 ht h5 h4 hj k6 HQ HC;rw[<-HT.o] at h7
   have k3:32*(s+1)=a+32:=by have:=HA.o;omega
   by_cases heq:a+32=n
   ·have e1:tcat key info (s+1)=EXPL key info n:=by
     rw[<-Lf key info n (s+1) (by omega),List.take_of_length_le (by rw[ZI];omega)]
    rw[e1] at h7;obtain⟨m,hm⟩:=EX (a+32);rw[<-hm] at h7 ho heq ⊢
    have k9:((m:Int) == (n:Int))=true:=by rw[heq];simp
    have HM:=Qa heq;clear hm heq e1 hf k3
    gi_wp2
    refine⟨rfl,h7.o.1,?_⟩;have:=h7.o.2;rw[HM.o] at this;exact this
   ·have k8:32*(s+1)<n:=by have:=HR.o;omega
    have HLT:=Qa k8;rw[<-k3] at h7 ho ⊢;obtain⟨m,hm⟩:=EX (32*(s+1));rw[<-hm] at h7 ho ⊢
    have k9:((m:Int) == (n:Int))=false:=by rw[beq_eq_false_iff_ne];omega
    have HM:=Qa hm;clear hm heq hf k3 k8
    gi_wp2
    refine⟨h7.o.1,.inr HLT.o,?_⟩;rw[<-HM.o];exact h7.o.2
 case done =>
  intro W hi hD
  rcases hi.1 with h | h
  ·cases h
  ·exact absurd h (by omega)
 case stop =>
  intro s W hi hD;rw[hy] at hD;have hc:=hi.2.1.cell;have HO:=Qa hi.2.2;have O1:=Qa hi.1;have HD:=Qa hD;clear hi hD
  gi_wp2
  refine⟨by simp,.inl ⟨_,_,rfl,run_takeDeferred HD.o,?_⟩⟩;refine⟨.tuple #[.slice (some ⟨w.heap.size+1,0,none⟩) n n,.int .i64 0],?_,_,rfl,ownsRow_putObj HO.o _ HD.o rfl,?_⟩
  ·simp[results,Tryz.f103,go_sem]
  ·exact (o0.trans O1.o (λk hk e=>by omega)).putObj _ _ (λhk=>by omega)
end
theorem yM (vk:Value) (key:LI) (p:Int) (t:ByteArray) (hk:key.length=32) (k8:U8 key) (hp:0<=p∧p<=255) (ht:t.size<=64) (w:World) (bk:Bs .u8 w vk key) :
 Calls prog 67 #[vk,.int .u8 p,.string t] w λe w'=>∃v,e=.returned (.tuple #[v,.int .i64 0])∧w'.ownsRow w.heap.size 5 1 v 32 (bl (QP key p (sb t)))∧N0 w w':=by
 have I:=Qa (vN p t (by omega) w)
 have d1:decide (64<(t.size:Int))=false:=by simp;omega
 have d2:decide (64<t.size)=false:=by simp;omega
 obtain⟨ko,kc,rfl,_⟩:=bk.formN hk
 have HL:Hid ((Ud p (sb t)).length<=66∧U8 (Ud p (sb t))):=by
  refine⟨?_,AU hp (Vk t)⟩;rw[AM _ _ (by rw[QX];omega),QX];omega
 have E:=Qa (λ(a:Option Addr) (l c:Nat) (W:World) (o:N0 w W) (b:Bs .u8 W (.slice a l c) (Ud p (sb t)))=>pA ko 32 kc a l c key (Ud p (sb t)) 32 W (bk.past o) k8 (by omega) b HL.o.2 (by have:=HL.o.1;omega) (by decide));rw[show ((32:Nat):Int)=32 from rfl] at E;have HX:Hid (EXPL key (Ud p (sb t)) 32=QP key p (sb t)):=rfl;rw[HX.o] at E;obtain⟨X,hX⟩:=EX (Ud p (sb t));rw[<-hX] at I HL E;clear bk k8 hk hp hX HX;go_enter func67,ntmps67;go_wp2_with fail;refine I.o.mono ?_;rintro e w1 ⟨v1,rfl,h0,o1⟩;obtain⟨a1,c1,rfl⟩:=QK h0;have E1:=Qa (E.o a1 X.length c1 w1 o1 (Bs.of_own (k:=.u8) h0));have O1:=Qa o1;obtain⟨m,hm⟩:=EX X.length;rw[<-hm] at E1 ⊢;clear h0 o1 I E hm;go_wp2_with fail;refine E1.o.mono ?_;rintro e w2 ⟨v2,rfl,h1,o2⟩;have F:=Qa (Vz (Qr h1 O1.o.size) (O1.o.same o2));clear h1 o2 E1 O1;go_wp2;go_ret2;exact⟨_,rfl,F.o⟩
theorem gJ (ko:Option Addr) (kl kc:Nat) (p:Value) (t:ByteArray) (h:kl≠32) (w:World) :
 Calls prog 67 #[.slice ko kl kc,p,.string t] w λe w'=>e=.returned (.tuple #[.slice none 0 0,.int .i64 1])∧N0 w w':=by
 have h3:((kl:Int) != 32)=true:=by simp;omega
 clear h;go_enter func67,ntmps67;go_wp2;go_ret2;exact⟨rfl,VG⟩
theorem xM (ko:Option Addr) (kc:Nat) (p:Value) (t:ByteArray) (h:64<t.size) (w:World) :
 Calls prog 67 #[.slice ko 32 kc,p,.string t] w λe w'=>e=.returned (.tuple #[.slice none 0 0,.int .i64 4])∧N0 w w':=by
 have d1:decide (64<(t.size:Int))=true:=by simp;omega
 have d2:decide (64<t.size)=true:=by simp;omega
 go_enter func67,ntmps67;go_wp2;go_ret2;exact⟨rfl,VG⟩
theorem Ls (vk:Value) (key:LI) (p:Int) (t:ByteArray) (k8:U8 key) (hp:0<=p∧p<=255) (w:World) (bk:Bs .u8 w vk key) :
 Calls prog 67 #[vk,.int .u8 p,.string t] w λe w'=>∃v,e=.returned (.tuple #[v,.int .i64 (QS key (sb t))])∧w'.ownsRow w.heap.size 5 1 v (QT key p (sb t)).length (bl (QT key p (sb t)))∧N0 w w':=by
 by_cases hk:key.length=32
 ·by_cases ht:t.size<=64
  ·have e1:QS key (sb t)=0:=by unfold QS;rw[if_pos hk,QX,if_pos ht]
   have e2:QT key p (sb t)=QP key p (sb t):=by unfold QT;rw[if_pos hk,QX,if_pos ht]
   rw[e1,e2,UY];exact yM vk key p t hk k8 hp ht w bk
  ·have e1:QS key (sb t)=4:=by unfold QS;rw[if_pos hk,QX,if_neg ht]
   have e2:QT key p (sb t)=[]:=by unfold QT;rw[if_pos hk,QX,if_neg ht]
   rw[e1,e2];obtain⟨ko,kc,rfl,_⟩:=bk.formN hk;exact (xM ko kc (.int .u8 p) t (by omega) w).mono (λ_ _ ⟨h1,h2⟩=>⟨_,h1,Xh,h2⟩)
 ·have e1:QS key (sb t)=1:=by unfold QS;rw[if_neg hk]
  have e2:QT key p (sb t)=[]:=by unfold QT;rw[if_neg hk]
  rw[e1,e2];obtain⟨ko,kc,rfl⟩:=bk.len;exact (gJ ko key.length kc (.int .u8 p) t hk w).mono (λ_ _ ⟨h1,h2⟩=>⟨_,h1,Xh,h2⟩)
theorem gY:sb ⟨#[]⟩=[]:=rfl
theorem Z0 (vk:Value) (key:LI) (p:Int) (k8:U8 key) (hp:0<=p∧p<=255) (w:World) (bk:Bs .u8 w vk key) :
 Calls prog 67 #[vk,.int .u8 p,.string ⟨#[]⟩] w λe w'=>∃v,e=.returned (.tuple #[v,.int .i64 (QS key [])])∧w'.ownsRow w.heap.size 5 1 v (QT key p []).length (bl (QT key p []))∧N0 w w':=by
 have:=Ls vk key p ⟨#[]⟩ k8 hp w bk;rw[gY] at this;exact this
theorem TV (vk:Value) (key:LI) (t:ByteArray) (k8:U8 key) (w:World) (bk:Bs .u8 w vk key) :
 Calls prog 44 #[vk,.string t] w λe w'=>∃v,e=.returned (.tuple #[v,.int .i64 (QS key (sb t))])∧w'.ownsRow w.heap.size 5 1 v (QT key 1 (sb t)).length (bl (QT key 1 (sb t)))∧N0 w w':=by
 have A:=Qa (Ls vk key 1 t k8 (by decide) w bk);obtain⟨E,hE⟩:=EX (QS key (sb t));rw[<-hE] at A ⊢;clear k8 bk hE;go_enter func44,ntmps44;go_wp2_with fail;refine A.o.mono ?_;rintro e w1 ⟨v1,rfl,h0,o1⟩;have F:=Qa (Vz h0 o1);clear h0 o1 A;go_wp2;go_ret2;exact⟨_,rfl,F.o⟩
theorem Rd (vk:Value) (key:LI) (k8:U8 key) (w:World) (bk:Bs .u8 w vk key) :
 Calls prog 105 #[vk] w λe w'=>∃v,e=.returned (.tuple #[v,.int .i64 (QS key [])])∧w'.ownsRow w.heap.size 5 1 v (QT key 2 []).length (bl (QT key 2 []))∧N0 w w':=by
 have A:=Qa (Z0 vk key 2 k8 (by decide) w bk);obtain⟨E,hE⟩:=EX (QS key []);rw[<-hE] at A ⊢;clear k8 bk hE;go_enter func105,ntmps105;go_wp2_with fail;refine A.o.mono ?_;rintro e w1 ⟨v1,rfl,h0,o1⟩;have F:=Qa (Vz h0 o1);clear h0 o1 A;go_wp2;go_ret2;exact⟨_,rfl,F.o⟩
theorem Pk (vk:Value) (key:LI) (k8:U8 key) (w:World) (bk:Bs .u8 w vk key) :
 Calls prog 48 #[vk] w λe w'=>∃v,e=.returned (.tuple #[v,.int .i64 (QS key [])])∧w'.ownsRow w.heap.size 5 1 v (QT key 4 []).length (bl (QT key 4 []))∧N0 w w':=by
 have A:=Qa (Z0 vk key 4 k8 (by decide) w bk);obtain⟨E,hE⟩:=EX (QS key []);rw[<-hE] at A ⊢;clear k8 bk hE;go_enter func48,ntmps48;go_wp2_with fail;refine A.o.mono ?_;rintro e w1 ⟨v1,rfl,h0,o1⟩;have F:=Qa (Vz h0 o1);clear h0 o1 A;go_wp2;go_ret2;exact⟨_,rfl,F.o⟩
theorem MC (vk:Value) (key:LI) (v i:Int) (k8:U8 key) (w:World) (bk:Bs .u8 w vk key) (hi:-9223372036854775808<=i∧i<=9223372036854775807) :
 Calls prog 106 #[vk,.int .u64 v,.int .i64 i] w λe w'=>∃r,e=.returned (.tuple #[r,.int .i64 (UD key i)])∧w'.ownsRow w.heap.size 5 1 r (U7 key v i).length (bl (U7 key v i))∧N0 w w':=by
 by_cases hk:key.length=32
 ·have A:=Qa (Z0 vk key 3 k8 (by decide) w bk)
  rw[show QS key []=0 by unfold QS;rw[if_pos hk];rfl,show QT key 3 []=QP key 3 [] by unfold QT;rw[if_pos hk];rfl,UY] at A
  by_cases hx:Uy i
  ·rw[show UD key i=0 by unfold UD;rw[if_pos hk,if_pos hx],show U7 key v i=QZ key v i by unfold U7;rw[if_pos hk,if_pos hx],Vg]
   have P:=Qa (λW=>yR v i ⟨hx.1,hi.2⟩ W);have d1:decide (i<0)=false:=Qi (by have:=hx.1;omega);have d2:decide (1048576<=i)=false:=Qi (by have:=hx.2;omega);have HK:Hid ((QP key 3 []).length=32∧U8 (QP key 3 [])∧(U5 v i).length=12∧U8 (U5 v i)∧QZ key v i=(MACL (QP key 3 []) (U5 v i)).take 12):=⟨UY _ _ _,Vf _ _ _,TJ _ _,vA _ _,rfl⟩;obtain⟨K,hK⟩:=EX (QP key 3 []);obtain⟨T,hT⟩:=EX (U5 v i);rw[<-hK] at A HK;rw[<-hT] at P HK;clear bk k8 hk hi hx hK hT;go_enter func106,ntmps106;go_wp2_with fail;refine A.o.mono ?_;rintro e w1 ⟨v1,rfl,h1,o1⟩;have B1:Hid (Bs .u8 w1 v1 K):=Bs.of_own (k:=.u8) (E:=5) (lo:=w.heap.size) (by rw[HK.o.1];exact h1);have O1:=Qa o1;have P1:=Qa (P.o w1);clear h1 o1 A P;go_wp2_with fail;refine P1.o.mono ?_;rintro e w2 ⟨v2,rfl,h4,o2⟩;have M:=Qa (G9 v1 v2 K T w2 (B1.o.past o2) HK.o.2.1 (by rw[HK.o.1];decide) (Bs.of_own (k:=.u8) (E:=5) (lo:=w1.heap.size) (by rw[HK.o.2.2.1];exact h4)) HK.o.2.2.2.1 (by rw[HK.o.2.2.1];decide));have O2:=Qa (O1.o.same o2);clear h4 o2 P1 B1 O1;go_wp2_with fail;refine M.o.mono ?_;rintro e w3 ⟨v3,rfl,h2,o3⟩;obtain⟨a3,c3,rfl⟩:=QK h2;have b3:Bs .u8 w3 (.slice a3 32 c3) (MACL K T):=Bs.of_own (k:=.u8) (E:=5) (lo:=w2.heap.size) (by rw[Y6];exact h2);obtain⟨_,_,e3,hc3⟩:=b3.formN (Y6 _ _)
   cases e3
   have hc4:(12:Int)<=(c3:Int):=by omega
   have C:=Qa (Kb (.slice a3 12 c3) ((MACL K T).take 12) w3 (b3.head (by decide)) (by rw[Qg];omega));rw[show ((MACL K T).take 12).length=12 by rw[Qg,Y6];rfl,<-HK.o.2.2.2.2] at C;have O3:=Qa (O2.o.same o3);clear h2 o3 b3 hc3 M O2;go_wp2_with fail;refine C.o.mono ?_;rintro e w4 ⟨v4,rfl,h3,o4⟩;have F:=Qa (Vz (Qr h3 O3.o.size) (O3.o.same o4));clear h3 o4 C O3;go_wp2;go_ret2;exact⟨_,rfl,F.o⟩
  ·rw[show UD key i=1 by unfold UD;rw[if_pos hk,if_neg hx],show U7 key v i=[] by unfold U7;rw[if_pos hk,if_neg hx]]
   clear bk k8 hk;go_enter func106,ntmps106;go_wp2_with fail;refine A.o.mono ?_;rintro e w1 ⟨v1,rfl,h1,o1⟩;have F:=Qa o1;clear h1 o1 A
   by_cases h0:i<0
   ·have d1:decide (i<0)=true:=Qe h0
    clear hx h0 hi;go_wp2;go_ret2;exact⟨_,rfl,Xh,F.o⟩
   ·have d1:decide (i<0)=false:=Qi h0
    have d2:decide (1048576<=i)=true:=Qe (by unfold Uy at hx;omega);clear hx h0 hi;go_wp2;go_ret2;exact⟨_,rfl,Xh,F.o⟩
 ·have A:=Qa (Z0 vk key 3 k8 (by decide) w bk)
  rw[show QS key []=1 by unfold QS;rw[if_neg hk]] at A;rw[show UD key i=1 by unfold UD;rw[if_neg hk],show U7 key v i=[] by unfold U7;rw[if_neg hk]];clear bk k8 hk hi;go_enter func106,ntmps106;go_wp2_with fail;refine A.o.mono ?_;rintro e w1 ⟨v1,rfl,h1,o1⟩;have F:=Qa o1;clear h1 o1 A;go_wp2;go_ret2;exact⟨_,rfl,Xh,F.o⟩
end Go.Proofs.YtiochaeeoelmjaaGreatDoor
