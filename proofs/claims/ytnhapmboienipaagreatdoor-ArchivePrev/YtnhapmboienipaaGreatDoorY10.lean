import Derived.RangeFuncBox
import Derived.RangeFuncNested
import Derived.RangeFuncBound
import Derived.RangeFuncCalls
import Derived.RangeFuncLeaves
import Derived.Shelf.Abstract
import Derived.Shelf.RegionOpen
import Derived.WalkKit
import Derived.OwnWalkIn
import Derived.TacticsInMore
import Derived.LoopNIn
import Derived.LoopIn
import Derived.Test.YtnhapmboienipaaGreatDoorProg
import Derived.Test.YtnhapmboienipaaGreatDoorY1
import Derived.StillTailTactics
import Derived.OrdersIn
import Derived.Test.YtnhapmboienipaaGreatDoorY7
import Derived.Great.BuildSlice
import Derived.Test.YtnhapmboienipaaGreatDoorY5
import Derived.Test.YtnhapmboienipaaGreatDoorY9
namespace Go.Proofs.YtnhapmboienipaaGreatDoor
set_option maxHeartbeats 2000000
set_option maxRecDepth 100000
open Go.RowKit _root_.Go.Proofs.Tryz
section
open Go.Shelf
theorem Only.putObj {S:Nat→Prop} {a b:World} (h:Only S a b) (l:Nat) (o:Obj) (hl:l<a.heap.size→S l):Only S a (b.putObj l o) :=
 h.grown (grownBy_putObj' b l o) (fun k hk e=>by cases e;exact hl hk)
theorem Bs.loop {k:IntKind} {A B:World} {v:Value} {xs:List Int} (h:Bs k A v xs) {l:Nat} {r:Loop} (hl:A.heap[l]? = some (.loop r)) (o:Only (fun j=>j=l) A B):Bs k B v xs:=by
 obtain ⟨ao,cap,rfl,hc,hr⟩:=h;refine ⟨ao,cap,rfl,hc,fun hx=>?_⟩;obtain ⟨b,off,rfl,hcell⟩:=hr hx;refine ⟨b,off,rfl,fun j hj=>?_⟩;have h0:=hcell j hj;rw [←h0];refine World.cell?_of_block (o.block b (World.block_lt_of_cell? A _ h0) ?_);intro e;subst e;obtain ⟨o',ho',hc'⟩:=cells_of_cell h0;rw [hl] at ho';cases ho';cases hc'
theorem Qak {A B:World} {b:Nat} {t:TypeId} {v:Value} (h:Boxed A b t v) {S:Nat→Prop} (o:Only S A B) (hs:¬S b):Boxed B b t v:=o.heap h hs
def Qux {σ:Type} (B:Nat) (I:σ→World→Prop) (s:σ) (W:World):Exit→Act→World→Prop
 | .normal,_,W'=>Only (fun k=>k<B) W W'∧I s W'
 | _,_,_=>False
theorem QkG {σ α:Type} {P:Program} {n:Nat} {g:Operand} {ps:Array Tmp} {assign body:Code} {Q:Exit→Act→World→Prop} {a:Act} {w:World}
  {gf:Nat} {lb:Array Value} (hg:a.eval g=.func (.func gf) #[] lb) (eg:∀args w,(callFunc gf args).run P w=.ok (.enter gf args) w)
  (encs:α→Array Value) (hps:∀x,(encs x).size=ps.size) (I:σ→World→Prop) (V:σ→α→σ→World→Prop) (s0 s1:σ)
  (hI:∀s A B r,I s A→A.heap[w.heap.size+1]? = some (.loop r)→Only (fun k=>k=w.heap.size+1) A B→I s B)
  (hIn:∀s A B,I s A→Only (fun _=>False) A B→I s B)
  (hV:∀s x s' A B r,V s x s' A→A.heap[w.heap.size+1]? = some (.loop r)→Only (fun k=>k=w.heap.size+1) A B→V s x s' B)
  (h0:I s0 w)
  (hit:∀(J:σ→World→Prop) (W:World),(∀s A,J s A→I s A)→(∀s A B,J s A→Only (fun _=>False) A B→J s B)→(∀s s' A,J s A→I s' A→J s' A) →
   (∀s x s' A,J s A→V s x s' A→YieldAt Fence.wide (n - 1 - 1) P (w.heap.size+1) (encs x) A fun e B=>e=.returned (.bool true)∧J s' B)→J s0 W →
   CallsIn Fence.wide (n - 1) P gf (#[.func (.yield (w.heap.size+1)) #[] #[]]++lb) W fun e B=>(∃v,e=.returned v)∧J s1 B)
  (a₁:α→Act)
  (hassign:∀(x:α) (W:World) (K:Act→World→Prop),K (a₁ x) W →
   assign.wpIn (Fence.wide.inRound (w.heap.size+1)) (n - 1 - 1) P (Exit.then K (fun _ _ _=>False)) { tmps:=(ps.zip (encs x)).foldl (fun t (p,v)=>t.setIfInBounds p v) a.tmps,defers:=[] } W)
  (hbody:∀(s:σ) (x:α) (s':σ) (W:World),I s W→V s x s' W→body.wpIn (Fence.wide.inRound (w.heap.size+1)) (n - 1 - 1) P (Qux w.heap.size I s' W) (a₁ x) W)
  (hdone:∀(W:World),I s1 W→W.heap[w.heap.size]? = some (.deferred (some []))→Q .normal { a with defers:={ target:=.collected w.heap.size,args:=#[] } :: a.defers } W) :
  (Code.rangeFunc g ps assign body).wpIn Fence.wide n P Q a w:=by
 refine wpIn_rangeFunc fun fn hfn=>?_
 obtain ⟨rc,hrc⟩:∃rc:LoopState→Option Code→Loop,rc=fun st pe=>{ state:=st,pending:=pe,fn,tmps:=a.tmps,params:=ps,assign,body,defers:=w.heap.size }:=⟨_,rfl⟩
 obtain ⟨W1,hW1⟩:∃W1,(w.alloc (.deferred (some []))).alloc (.loop (rc .ready none))=W1:=⟨_,rfl⟩
 have hL:W1.heap[w.heap.size+1]? = some (.loop (rc .ready none)):=by
  have:=World.alloc_heap_new (w.alloc (.deferred (some []))) (.loop (rc .ready none));rw [World.size_alloc,hW1] at this;exact this
 have hD:W1.heap[w.heap.size]? = some (.deferred (some [])):=by
  rw [←hW1];exact (Below.heap_alloc _ _ _ (by simp)).trans (World.alloc_heap_new w _)
 have hO:Only (fun _=>False) w W1:=by
  rw [←hW1];exact ((Only.refl _ w).alloc _).alloc _
 refine ⟨w.heap.size+1,[{ target:=.collected w.heap.size,args:=#[] }],W1,{ target:=.fn (.func gf) lb,args:=#[.func (.yield (w.heap.size+1)) #[] #[]] },W1,gf,#[.func (.yield (w.heap.size+1)) #[] #[]]++lb,W1,?_,?_,fun _ _=>trivial,?_,(fun h=>by cases h),?_⟩
 ·rw [←hW1,hrc]
  exact run_enterLoop_outer _ _ _ _ _
 ·simp only [resolve,hg]
  simp [go_sem]
 ·simp [invoke,go_sem,eg]
 refine (hit (fun s W=>I s W∧W.heap[w.heap.size+1]? = some (.loop (rc .ready none))∧W.heap[w.heap.size]? = some (.deferred (some []))) W1 (fun _ _ h=>h.1)
  (fun s A B h o=>⟨hIn s A B h.1 o,o.heap h.2.1 (fun f=>f),o.heap h.2.2 (fun f=>f)⟩) (fun _ _ _ h i=>⟨i,h.2⟩) ?_ ⟨hIn _ _ _ h0 hO,hL,hD⟩).mono ?_
 ·rintro s x s' A ⟨hi,hl,hd⟩ hv
  have hlt:w.heap.size+1<A.heap.size:=(Array.getElem?_eq_some_iff.1 hl).1;have hy:=run_yield (P:=P) (args:=encs x) hl (by rw [hrc];exact hps x);rw [hrc] at hy;refine ⟨fn,_,assign,body,hy,roundIn_of_wpIn hfn (hassign x A _ ⟨_,run_beginRound hl (by rw [hrc]),?_⟩)⟩;obtain ⟨A2,hA2⟩:∃A2,A.putObj (w.heap.size+1) (.loop { rc .ready none with state:=.busy })=A2:=⟨_,rfl⟩
  have o2:Only (fun k=>k=w.heap.size+1) A A2:=by rw [←hA2];exact (Only.refl _ A).putObj _ _ (fun _=>rfl)
  have l2:A2.heap[w.heap.size+1]? = some (.loop { rc .ready none with state:=.busy }):=by rw [←hA2];exact World.putObj_heap_same hlt
  have d2:A2.heap[w.heap.size]? = some (.deferred (some [])):=o2.heap hd (by omega);rw [hA2];refine wpIn_mono (hbody s x s' A2 (hI s A A2 _ hi hl o2) (hV s x s' A A2 _ hv hl o2)) ?_;intro ex a3 A3 h
  cases ex
  case normal =>
   obtain ⟨o3,i3⟩:=h;have l3:=o3.heap l2 (by omega);have d3:=o3.heap d2 (by omega);have hr:=run_endRound (P:=P) none l3
   have h4:A3.putObj (w.heap.size+1) (.loop (rc .ready none))=A3.putObj (w.heap.size+1) (.loop { rc .ready none with state:=if (none:Option Code).isNone then .ready else .done,pending:=none }):=by rw [hrc];rfl
   have o4:Only (fun k=>k=w.heap.size+1) A3 (A3.putObj (w.heap.size+1) (.loop (rc .ready none))):=(Only.refl _ A3).putObj _ _ (fun _=>rfl);refine ⟨_,_,hr,rfl,?_⟩
   have h5:I s' (A3.putObj (w.heap.size+1) (.loop (rc .ready none)))∧(A3.putObj (w.heap.size+1) (.loop (rc .ready none))).heap[w.heap.size+1]? = some (.loop (rc .ready none))∧(A3.putObj (w.heap.size+1) (.loop (rc .ready none))).heap[w.heap.size]? = some (.deferred (some [])) :=
    ⟨hI s' A3 _ _ i3 l3 o4,World.putObj_heap_same (Array.getElem?_eq_some_iff.1 l3).1,o4.heap d3 (by omega)⟩
   rw [h4] at h5;exact h5
  all_goals exact h.elim
 ·rintro e A ⟨⟨v,rfl⟩,hi,hl,hd⟩
  have hr:=run_endLoop (P:=P) hl (by rw [hrc];simp)
  have hp:(rc .ready none).pending=none:=by rw [hrc]
  refine ⟨none,_,by rw [hr,hp],hdone _ (hI _ _ _ _ hi hl ((Only.refl _ A).putObj _ _ (fun _=>rfl))) ?_⟩;exact (World.putObj_heap_other (by omega)).trans hd
end
section
open Go.Shelf
def Qis {σ:Type} (B:Nat) (I Ix:σ→World→Prop) (s:σ) (W:World):Exit→Act→World→Prop
 | .normal,_,W'=>Only (fun k=>k<B) W W'∧I s W'
 | .exit id,_,W'=>id=0∧Only (fun k=>k<B) W W'∧Ix s W'
 | _,_,_=>False
theorem Qit {σ α:Type} {P:Program} {n:Nat} {g:Operand} {ps:Array Tmp} {assign body:Code} {Q:Exit→Act→World→Prop} {a:Act} {w:World}
  {gf:Nat} {lb:Array Value} (hg:a.eval g=.func (.func gf) #[] lb) (eg:∀args w,(callFunc gf args).run P w=.ok (.enter gf args) w)
  (encs:α→Array Value) (hps:∀x,(encs x).size=ps.size) (I Ix:σ→World→Prop) (V:σ→α→σ→World→Prop) (s0 s1:σ)
  (hI:∀s A B r,I s A→A.heap[w.heap.size+1]? = some (.loop r)→Only (fun k=>k=w.heap.size+1) A B→I s B)
  (hIx:∀s A B r,Ix s A→A.heap[w.heap.size+1]? = some (.loop r)→Only (fun k=>k=w.heap.size+1) A B→Ix s B)
  (hIn:∀s A B,I s A→Only (fun _=>False) A B→I s B)
  (hV:∀s x s' A B r,V s x s' A→A.heap[w.heap.size+1]? = some (.loop r)→Only (fun k=>k=w.heap.size+1) A B→V s x s' B)
  (h0:I s0 w)
  (hit:∀(J Jx:σ→World→Prop) (W:World),(∀s A,J s A→I s A)→(∀s A B,J s A→Only (fun _=>False) A B→J s B) →
   (∀s x s' A,J s A→V s x s' A→YieldAt Fence.wide (n - 1 - 1) P (w.heap.size+1) (encs x) A fun e B =>
    (e=.returned (.bool true)∧J s' B∧Only (fun k=>k<w.heap.size∨k=w.heap.size+1) A B)∨(e=.returned (.bool false)∧Jx s' B))→J s0 W→w.heap.size+2≤W.heap.size →
   CallsIn Fence.wide (n - 1) P gf (#[.func (.yield (w.heap.size+1)) #[] #[]]++lb) W fun e B=>(∃v,e=.returned v)∧(J s1 B∨∃s,Jx s B))
  (a₁:α→Act)
  (hassign:∀(x:α) (W:World) (K:Act→World→Prop),K (a₁ x) W →
   assign.wpIn (Fence.wide.inRound (w.heap.size+1)) (n - 1 - 1) P (Exit.then K (fun _ _ _=>False)) { tmps:=(ps.zip (encs x)).foldl (fun t (p,v)=>t.setIfInBounds p v) a.tmps,defers:=[] } W)
  (hbody:∀(s:σ) (x:α) (s':σ) (W:World),I s W→V s x s' W→body.wpIn (Fence.wide.inRound (w.heap.size+1)) (n - 1 - 1) P (Qis w.heap.size I Ix s' W) (a₁ x) W)
  (hdone:∀(W:World),I s1 W→W.heap[w.heap.size]? = some (.deferred (some []))→Q .normal { a with defers:={ target:=.collected w.heap.size,args:=#[] } :: a.defers } W)
  (hstop:∀(s:σ) (W:World),Ix s W→W.heap[w.heap.size]? = some (.deferred (some []))→(Code.exit 0).wpIn Fence.wide n P Q { a with defers:={ target:=.collected w.heap.size,args:=#[] } :: a.defers } W) :
  (Code.rangeFunc g ps assign body).wpIn Fence.wide n P Q a w:=by
 refine wpIn_rangeFunc fun fn hfn=>?_
 obtain ⟨rc,hrc⟩:∃rc:LoopState→Option Code→Loop,rc=fun st pe=>{ state:=st,pending:=pe,fn,tmps:=a.tmps,params:=ps,assign,body,defers:=w.heap.size }:=⟨_,rfl⟩
 obtain ⟨W1,hW1⟩:∃W1,(w.alloc (.deferred (some []))).alloc (.loop (rc .ready none))=W1:=⟨_,rfl⟩
 have hL:W1.heap[w.heap.size+1]? = some (.loop (rc .ready none)):=by
  have:=World.alloc_heap_new (w.alloc (.deferred (some []))) (.loop (rc .ready none));rw [World.size_alloc,hW1] at this;exact this
 have hD:W1.heap[w.heap.size]? = some (.deferred (some [])):=by
  rw [←hW1];exact (Below.heap_alloc _ _ _ (by simp)).trans (World.alloc_heap_new w _)
 have hO:Only (fun _=>False) w W1:=by
  rw [←hW1];exact ((Only.refl _ w).alloc _).alloc _
 have hS1:w.heap.size+2≤W1.heap.size:=by rw [←hW1];simp
 refine ⟨w.heap.size+1,[{ target:=.collected w.heap.size,args:=#[] }],W1,{ target:=.fn (.func gf) lb,args:=#[.func (.yield (w.heap.size+1)) #[] #[]] },W1,gf,#[.func (.yield (w.heap.size+1)) #[] #[]]++lb,W1,?_,?_,fun _ _=>trivial,?_,(fun h=>by cases h),?_⟩
 ·rw [←hW1,hrc]
  exact run_enterLoop_outer _ _ _ _ _
 ·simp only [resolve,hg]
  simp [go_sem]
 ·simp [invoke,go_sem,eg]
 refine (hit (fun s W=>I s W∧W.heap[w.heap.size+1]? = some (.loop (rc .ready none))∧W.heap[w.heap.size]? = some (.deferred (some [])))
  (fun s W=>Ix s W∧W.heap[w.heap.size+1]? = some (.loop (rc .done (some (.exit 0))))∧W.heap[w.heap.size]? = some (.deferred (some []))) W1 (fun _ _ h=>h.1)
  (fun s A B h o=>⟨hIn s A B h.1 o,o.heap h.2.1 (fun f=>f),o.heap h.2.2 (fun f=>f)⟩) ?_ ⟨hIn _ _ _ h0 hO,hL,hD⟩ hS1).mono ?_
 ·rintro s x s' A ⟨hi,hl,hd⟩ hv
  have hlt:w.heap.size+1<A.heap.size:=(Array.getElem?_eq_some_iff.1 hl).1;have hy:=run_yield (P:=P) (args:=encs x) hl (by rw [hrc];exact hps x);rw [hrc] at hy;refine ⟨fn,_,assign,body,hy,roundIn_of_wpIn hfn (hassign x A _ ⟨_,run_beginRound hl (by rw [hrc]),?_⟩)⟩;obtain ⟨A2,hA2⟩:∃A2,A.putObj (w.heap.size+1) (.loop { rc .ready none with state:=.busy })=A2:=⟨_,rfl⟩
  have o2:Only (fun k=>k=w.heap.size+1) A A2:=by rw [←hA2];exact (Only.refl _ A).putObj _ _ (fun _=>rfl)
  have l2:A2.heap[w.heap.size+1]? = some (.loop { rc .ready none with state:=.busy }):=by rw [←hA2];exact World.putObj_heap_same hlt
  have d2:A2.heap[w.heap.size]? = some (.deferred (some [])):=o2.heap hd (by omega);rw [hA2];refine wpIn_mono (hbody s x s' A2 (hI s A A2 _ hi hl o2) (hV s x s' A A2 _ hv hl o2)) ?_;intro ex a3 A3 h
  cases ex
  case normal =>
   obtain ⟨o3,i3⟩:=h;have l3:=o3.heap l2 (by omega);have d3:=o3.heap d2 (by omega);have hr:=run_endRound (P:=P) none l3
   have h4:A3.putObj (w.heap.size+1) (.loop (rc .ready none))=A3.putObj (w.heap.size+1) (.loop { rc .ready none with state:=if (none:Option Code).isNone then .ready else .done,pending:=none }):=by rw [hrc];rfl
   have o4:Only (fun k=>k=w.heap.size+1) A3 (A3.putObj (w.heap.size+1) (.loop (rc .ready none))):=(Only.refl _ A3).putObj _ _ (fun _=>rfl);refine ⟨_,_,hr,.inl ⟨rfl,?_⟩⟩
   have h5:(I s' (A3.putObj (w.heap.size+1) (.loop (rc .ready none)))∧(A3.putObj (w.heap.size+1) (.loop (rc .ready none))).heap[w.heap.size+1]? = some (.loop (rc .ready none))∧(A3.putObj (w.heap.size+1) (.loop (rc .ready none))).heap[w.heap.size]? = some (.deferred (some []))) ∧
     Only (fun k=>k<w.heap.size∨k=w.heap.size+1) A (A3.putObj (w.heap.size+1) (.loop (rc .ready none))) :=
    ⟨⟨hI s' A3 _ _ i3 l3 o4,World.putObj_heap_same (Array.getElem?_eq_some_iff.1 l3).1,o4.heap d3 (by omega)⟩,
     ((o2.mono (T:=fun k=>k<w.heap.size∨k=w.heap.size+1) (fun _ _ e=>.inr e)).trans o3 (fun _ _ e=>.inl e)).trans o4 (fun _ _ e=>.inr e)⟩
   rw [h4] at h5;exact h5
  case exit id =>
   obtain ⟨rfl,o3,i3⟩:=h;have l3:=o3.heap l2 (by omega);have d3:=o3.heap d2 (by omega);have hr:=run_endRound (P:=P) (some (.exit 0)) l3
   have h4:A3.putObj (w.heap.size+1) (.loop (rc .done (some (.exit 0))))=A3.putObj (w.heap.size+1) (.loop { rc .ready none with state:=if (some (Code.exit 0):Option Code).isNone then .ready else .done,pending:=some (.exit 0) }):=by rw [hrc];rfl
   have o4:Only (fun k=>k=w.heap.size+1) A3 (A3.putObj (w.heap.size+1) (.loop (rc .done (some (.exit 0))))):=(Only.refl _ A3).putObj _ _ (fun _=>rfl);refine ⟨_,_,hr,.inr ⟨rfl,?_⟩⟩
   have h5:Ix s' (A3.putObj (w.heap.size+1) (.loop (rc .done (some (.exit 0)))))∧(A3.putObj (w.heap.size+1) (.loop (rc .done (some (.exit 0))))).heap[w.heap.size+1]? = some (.loop (rc .done (some (.exit 0))))∧(A3.putObj (w.heap.size+1) (.loop (rc .done (some (.exit 0))))).heap[w.heap.size]? = some (.deferred (some [])) :=
    ⟨hIx s' A3 _ _ i3 l3 o4,World.putObj_heap_same (Array.getElem?_eq_some_iff.1 l3).1,o4.heap d3 (by omega)⟩
   rw [h4] at h5;exact h5
  all_goals exact h.elim
 ·rintro e A ⟨⟨v,rfl⟩,⟨hi,hl,hd⟩ | ⟨s,hi,hl,hd⟩⟩
  ·have hr:=run_endLoop (P:=P) hl (by rw [hrc];simp)
   have hp:(rc .ready none).pending=none:=by rw [hrc]
   refine ⟨none,_,by rw [hr,hp],hdone _ (hI _ _ _ _ hi hl ((Only.refl _ A).putObj _ _ (fun _=>rfl))) ?_⟩;exact (World.putObj_heap_other (by omega)).trans hd
  ·have hr:=run_endLoop (P:=P) hl (by rw [hrc];simp)
   have hp:(rc .done (some (.exit 0))).pending=some (.exit 0):=by rw [hrc]
   refine ⟨some (.exit 0),_,by rw [hr,hp],hstop s _ (hIx _ _ _ _ hi hl ((Only.refl _ A).putObj _ _ (fun _=>rfl))) ?_⟩;exact (World.putObj_heap_other (by omega)).trans hd
theorem QpO {P:Program} {n l:Nat} {o:Oper} {a:Act} {w:World} {K:Act→World→Prop} {Q:Exit→Act→World→Prop} (hnd:∀c,o.op≠.defer c) (h:o.wp P a w K Q):o.wpIn (Fence.wide.inRound l) n P a w K Q:=by
 refine ⟨fun _ _=>trivial,?_⟩;rw [Oper.semAt_eq _ _ _ hnd];unfold Oper.wp at h;generalize (execOp a.eval o).run P w=r at *
 cases r with
 | ok x w' =>
  cases x with
  | value v=>exact h
  | skip=>exact h
  | defer d=>exact h
  | enter f args=>exact ⟨(fun h=>by cases h),CallsIn.inRound l (callsIn_wide.2 h)⟩
  | row row args=>exact ⟨(fun h=>by cases h),fun c cs _=>by
    obtain ⟨v,w',r,s⟩:=h c cs
    exact ⟨v,w',r,stepsIn_wide.2 s⟩⟩
  | _=>exact False.elim h
 | halt x w'=>cases x <;> first | exact h | exact False.elim h
theorem Qng {P:Program} {n l:Nat} {md:Region.Mode} {ops:Array Oper} {Q:Exit→Act→World→Prop} (hQ:¬LetsOut Q) (hnd:∀(i:Nat) (o:Oper),ops[i]? = some o→∀c,o.op≠.defer c) :
  ∀(fuel:Nat) (listed:Array Bool) (a:Act) (w:World),wpAny P md ops Q fuel listed a w→wpAnyIn (Fence.wide.inRound l) n P md ops Q fuel listed a w:=by
 intro fuel
 induction fuel with
 | zero=>intro listed a w h;exact h
 | succ fuel ih =>
  intro listed a w h;refine ⟨h.1,fun i hi=>?_⟩;have h1:=h.2 i hi;unfold wpOp at h1;unfold wpOpIn
  cases ho:ops[i]? with
  | none=>simp only [ho] at h1 ⊢;exact ih _ _ _ h1
  | some o =>
   simp only [ho] at h1 ⊢
   by_cases hw:Region.wanted o (yielded ops a.tmps)=true
   ·rw [if_pos hw] at h1 ⊢
    exact Oper.wpIn_mono (fun a w=>ih _ a w) (QpO (hnd i o ho) (h1.resolve_right (fun c=>hQ c.2)))
   ·rw [if_neg hw] at h1 ⊢
    exact ⟨fun _ _=>trivial,ih _ _ _ h1⟩
def Qnh (l:List Oper):Bool:=l.all fun o=>match o.op with | .defer _=>false | _=>true
theorem Qhc {l:List Oper} (h:Qnh l=true) (i:Nat) (o:Oper) (ho:l.toArray[i]? = some o) (c:Call):o.op≠.defer c:=fun e=>by
 have hm:o∈l:=by
  have:=Array.mem_of_getElem? ho
  simpa using this
 have:=List.all_eq_true.1 h o hm;rw [e] at this
 cases this
theorem Qca {P:Program} {k L id:Nat} {Q:Exit→Act→World→Prop} {a:Act} {w:World} {l:List Oper} (n:Nat) (hm:P.follows .mixedOrders=true) (hQ:¬LetsOut Q) (hnd:Qnh l=true) (hB:Region.lexTailB .any l.toArray n=true)
  (h:wpStill P l.toArray { w with drawn:=w.drawn+1 } (fun a'=>wpList P l.toArray Q (l.drop n) a' { w with drawn:=w.drawn+1 }) (l.take n) a):(Code.region id l.toArray true).wpIn (Fence.wide.inRound L) k P Q a w:=by
 simp only [Region.lexTailB,Bool.and_eq_true,decide_eq_true_eq] at hB;obtain ⟨⟨⟨⟨hsel,hn⟩,hs⟩,hc⟩,hlex⟩:=hB
 have hn':n<l.length:=by simpa using hn
 have htl:(l.take n).length=n:=by simp;omega
 have hdl:(l.drop n).length=l.toArray.size - n:=by simp
 have inv0:HeadInv .any l.toArray n (Array.replicate l.toArray.size false) :=
  ⟨by simp,fun j oj _ hl=>(by rw [getD_replicate_false] at hl;cases hl),fun t _ ht=>Go.getD_in (by simpa using ht) (getD_replicate_false _ _)⟩
 have H:=wpAnyL_lex (md:=.any) (g:=l.toArray.size - n) hsel hs hc hn (l.take n) 0 _ a (fun j hj=>by
  have hj':j<n:=by rw [htl] at hj;exact hj
  simp [hj']) (by simpa using htl) inv0 (by rw [htl];exact hlex) h
 refine wpIn_region_any hm (Qng hQ (Qhc hnd) _ _ _ _ ?_)
 have:=wpAny_of_head (Q':=Q) (g:=l.toArray.size - n) (fun listed a' hL=>by
  have:=wpAny_of_seq (md:=.any) (Q':=Q) (l.drop n) n listed a' { w with drawn:=w.drawn+1 } (fun j=>by simp [List.getElem?_drop]) (by rw [hdl];exact hL.1) hL.2
  rwa [hdl] at this) _ _ _ H
 rw [htl,show n+(l.toArray.size - n)=l.toArray.size by omega] at this;exact this
end
theorem Qdn (x n:Nat) (w:World) (hx:x<4294967296) (h1:1≤n) (h2:n≤31) :
  Calls prog 130 #[.int .u32 x,.int .u64 n] w fun e w'=>e=.returned (.int .u32 (rotw x n:Nat))∧w=w':=by
 go_enter func130,ntmps130;go_wp2;go_ret;refine ⟨Qa0 ?_,rfl⟩
 rw [show ((x:Int)*2^(32 - n) % 4294967296)=((x*2^(32 - n) % 4294967296:Nat):Int) by simp,show ((x:Int) / 2^n)=((x / 2^n:Nat):Int) by simp,
  u32_or_nat _ _ (QjN _ _ hx) (Nat.mod_lt _ (by decide))]
 rfl
theorem QkB (w:World):Calls prog 90 #[] w fun e w'=>e=.returned (.tuple #[.slice (some ⟨w.heap.size,0,none⟩) 64 64,.slice (some ⟨w.heap.size+1,0,none⟩) 8 8])∧Blk w' w.heap.size 134 (wl shK)∧Blk w' (w.heap.size+1) 134 (wl shH)∧Only (fun _=>False) w w':=by
 go_enter func90,ntmps90;go_wp2_with (first|(refine wpList_buildSlice rfl 130 134 64 _ rfl (wl shK).toArray Tryz.t134 (.int .u32 0) underlying130 (by kernel_rfl) (by kernel_rfl) (by decide) (by decide) (by kernel_rfl) ?_)|(refine wpList_buildSlice rfl 130 134 8 _ rfl (wl shH).toArray Tryz.t134 (.int .u32 0) underlying130 (by kernel_rfl) (by kernel_rfl) (by decide) (by decide) (by kernel_rfl) ?_));go_ret2;refine ⟨rfl,(Blk.new w 134 (wl shK)).alloc _,?_,((Only.refl _ _).alloc _).alloc _⟩;have:=Blk.new (w.alloc (.cells (wl shK).toArray 134)) 134 (wl shH);rw [size_alloc] at this;exact this
theorem Qnf (n j:Nat) (h:j<zpad n):(n+1+j) % 64≠56:=by unfold zpad at h;omega
theorem QpM (n:Nat):(n+1+zpad n) % 64=56:=QjG n
def slenB:Value→Nat
 | .slice _ n _=>n
 | _=>0
theorem QpN (n k:Nat):(n:Int)*8 / 2^(8*k) % 256=((8*n / 256^k % 256:Nat):Int):=by
 rw [Nat.mul_comm 8 k];exact byte8 n k
theorem QkC (v:Value) (xs:List Int) (w:World) (hb:Bs .u8 w v xs) (nc:NoCap v) (hl:xs.length≤1000000000) :
  Calls prog 91 #[v] w fun e w'=>∃v',e=.returned v'∧w'.ownsRow w.heap.size 5 1 v' (padS xs).length ((padS xs).map (Value.int .u8))∧Only (fun _=>False) w w':=by
 obtain ⟨i0,hi,hz0,hz1,hz2⟩:=info_parts Tryz.infoU8;obtain ⟨n,hn⟩:∃n,n=xs.length:=⟨_,rfl⟩
 have HPL:Hid ((padS xs).length=n+1+zpad n+8):=by rw [Qf4,hn];exact rfl
 obtain ⟨z,hz⟩:∃z,z=zpad n:=⟨_,rfl⟩
 have hzl:z<64:=by rw [hz];exact QfD n
 obtain ⟨F,hF⟩:∃F:Nat→List Value,F=fun j=>(xs++128 :: List.replicate j 0).map (Value.int .u8):=⟨_,rfl⟩
 obtain ⟨G,hG⟩:∃G:Nat→List Value,G=fun j=>(xs++128 :: (List.replicate z 0++(be8 (8*n)).take j)).map (Value.int .u8):=⟨_,rfl⟩
 have F0:Hid (xs.map (Value.int .u8)++[(128:Int)].map (Value.int .u8)=F 0):=by rw [hF];exact (List.map_append ..).symm
 have FN:Hid (∀j,F (j+1)=F j++[(0:Int)].map (Value.int .u8)):=fun j=>by
  rw [hF];simp only;rw [←List.map_append,List.replicate_succ'];simp
 have G0:Hid (F z=G 0):=by rw [hF,hG];simp;exact trivial
 have GN:Hid (∀j,j<8→G (j+1)=G j++[((8*n / 256^(7 - j) % 256:Nat):Int)].map (Value.int .u8)):=fun j hj=>by
  rw [hG];simp only;rw [Qi5 _ _ hj,←List.map_append];simp
 have G8:Hid (G 8=(padS xs).map (Value.int .u8)):=by
  show _=_
  rw [hG];simp only;rw [List.take_of_length_le (Nat.le_of_eq (QeL _)),padS,hz,hn]
 have HT:Hid (∀j,j<z→(n+1+j) % 64≠56):=fun j hj=>Qnf n j (by rw [←hz];exact hj)
 have HT2:Hid ((n+1+z) % 64=56):=by rw [hz];exact QpM n
 obtain ⟨P,hP⟩:∃P,P=(padS xs).map (Value.int .u8):=⟨_,rfl⟩;obtain ⟨PL,hPL⟩:∃PL,PL=(padS xs).length:=⟨_,rfl⟩;rw [←hP] at G8;rw [←hPL,←hz] at HPL;rw [←hP,←hPL];have ho:=World.ownsRow_made (base:=w.heap.size) (e:=5) (size:=1) w #[] 0 (Nat.le_refl _) (by unfold maxLen;omega) rfl;have HB:=Qaa (And.intro (hb.past ((Only.refl (fun _=>False) w).alloc (.cells #[] 5))) nc);have HN:=Qaa hn;obtain ⟨ao,cap,rfl⟩:=hb.len;rw [←hn] at HB hl ⊢;clear hF hG hz hP hPL hb nc hn;go_enter func91,ntmps91
 have hln:n+1≤1000000001:=by omega
 go_wp2_with (first
  | (at_builtin;refine Qab _ rfl _ _ 22 rfl w.heap.size 5 i0 (.int .u8 0) 1 underlying22 hi hz0 hz1 hz2 rfl (.slice (some ⟨w.heap.size,0,none⟩) 0 0) 0 [] rfl ho .u8 (.slice ao n cap) xs rfl HB.out.1 HB.out.2 (by rw [←HN.out];unfold maxLen;omega) (by rw [←HN.out];omega) (by simp) ?_;intro v1 w1 hown1 hgrow1 hnil1 hob1)
  | (at_builtin;refine Qab _ rfl _ _ 22 rfl w.heap.size 5 i0 (.int .u8 0) 1 underlying22 hi hz0 hz1 hz2 rfl v1 (0+xs.length) _ rfl (hown1.alloc _) .u8 _ [128] rfl (Bs.litN .u8 w1 5 [128] _ _ rfl rfl) (NoCap.some _ _ _) (by rw [←HN.out];simp [maxLen];omega) (by rw [←HN.out];simp;omega) (by have:=hgrow1.size;simp at this ⊢;omega) ?_;intro v2 w2 hown2 hgrow2 hnil2 hob2))
 have N1:Hid (w2.ownsRow w.heap.size 5 1 v2 (n+1+0) (F 0)):=by
  show _
  rw [←F0.out];have:=hown2;rw [←HN.out,Nat.zero_add,List.nil_append] at this;exact this
 have o1:Only (fun _=>False) w w1:=((Only.refl _ _).alloc _).grown hgrow1 (fun k hk e=>by simp [Value.ownBlock] at e;omega);have N2:Hid (Only (fun _=>False) w w2):=(o1.alloc _).grown hgrow2 (fun k hk e=>by have:=hown1.lt k e;omega);clear hown1 hgrow1 hnil1 hob1 hown2 hgrow2 hnil2 hob2 ho HB o1;go_wp2
 go_loopw [3] (fun o wr=>∃j:Nat,j≤z∧wr.ownsRow w.heap.size 5 1 o (n+1+j) (F j)∧Only (fun _=>False) w wr) (fun o _=>n+1+z - slenB o)
 case atStart=>exact ⟨0,Nat.zero_le _,N1.out,N2.out⟩
 case round =>
  obtain ⟨j,hj,hown,hon⟩:=hrel;obtain ⟨ao1,cap1,rfl⟩:=Qad hown;have hsz:=hon.size;obtain ⟨m,hm⟩:∃m,m=n+1+j:=⟨_,rfl⟩;rw [←hm] at hown ⊢;have HON:=Qaa hon;have HOWN:=Qaa hown
  have hm1:m≤1000000065:=by omega
  clear hon hown N1 N2
  by_cases hlt:j<z
  ·have ht:((m:Int) % 64 != 56)=true:=by
    have:=HT.out j hlt;rw [←hm] at this;rw [bne_iff_ne];omega
   have HFN:=Qaa (FN.out j);have HM:Hid (m=n+1+j∧j<z):=⟨hm,hlt⟩;have BL:=Qaa (Bs.litN .u8 wr 5 [0] _ _ rfl rfl);clear hm hlt hj;go_wp2_with (at_builtin;refine Qab _ rfl _ _ 22 rfl w.heap.size 5 i0 (.int .u8 0) 1 underlying22 hi hz0 hz1 hz2 rfl _ m (F j) rfl (HOWN.out.alloc _) .u8 _ [0] rfl BL.out (NoCap.some _ _ _) (by simp [maxLen];omega) (by simp;omega) (by simp;omega) ?_;intro v' w3 hown' hgrow2 hnil2 hob2);obtain ⟨ao3,cap3,e3⟩:=Qad hown'
   have M1:Hid (w3.ownsRow w.heap.size 5 1 v' (n+1+(j+1)) (F (j+1))):=by
    have e:n+1+(j+1)=m+1:=by rw [HM.out.1];omega
    show _
    rw [HFN.out,e];exact hown'
   have M2:Hid (Only (fun _=>False) w w3):=(HON.out.alloc _).grown hgrow2 (fun k hk e=>by have:=HOWN.out.lt k e;omega)
   have M3:Hid (slenB v'=m+1):=by rw [e3];exact rfl
   clear hown' hgrow2 hnil2 hob2 HOWN HON BL HFN e3;go_wp2
   go_roundw
   case rel=>exact ⟨j+1,HM.out.2,M1.out,M2.out⟩
   case measure =>
    have:=M3.out;have h1:=HM.out
    show n+1+z - slenB v'<n+1+z - m
    omega
  ·obtain rfl:j=z:=by omega
   have ht:((m:Int) % 64 != 56)=false:=by
    have:=HT2.out;rw [←hm] at this;rw [bne_eq_false_iff_eq];omega
   rw [G0.out] at HOWN;have HM:=Qaa hm;obtain ⟨W2,hW2⟩:∃W2,W2=wr:=⟨_,rfl⟩;subst hW2;clear hm hlt hj FN F0 HT HT2;go_wp2
   go_loopw [3,5] (fun o i wr=>∃t:Nat,t≤8∧i=.int .i64 (7 - (t:Int))∧wr.ownsRow w.heap.size 5 1 o (m+t) (G t)∧Only (fun _=>False) w wr) (fun _ i _=>(intOf i+1).toNat)
   case atStart=>exact ⟨0,Nat.zero_le _,rfl,HOWN.out,HON.out⟩
   case round =>
    obtain ⟨t,htt,rfl,hown,hon⟩:=hrel;have hsz3:=hon.size;have HON3:=Qaa hon;have HOWN3:=Qaa hown;clear hon hown HOWN HON
    by_cases hlt:t<8
    ·obtain ⟨k,hk⟩:∃k,k=7 - t:=⟨_,rfl⟩
     have hk7:(7:Int) - (t:Int)=(k:Int):=by omega
     have HGN:=Qaa (GN.out t hlt);rw [hk7];rw [←hk] at HGN;have HK:=Qaa (And.intro hk (And.intro hk7 hlt))
     have hk8:k≤7:=by omega
     have s0:0≤8*(k:Int):=by omega
     have s1:8*(k:Int)≤64:=by omega
     have ht8:m+t≤1000000100:=by omega
     have BL:=Qaa (Bs.litN .u8 wr 5 [(n:Int)*8 / 2^(8*k) % 256] _ _ rfl rfl);clear hk hk7 hlt htt ht;go_wp2_with (at_builtin;refine Qab _ rfl _ _ 22 rfl w.heap.size 5 i0 (.int .u8 0) 1 underlying22 hi hz0 hz1 hz2 rfl _ (m+t) (G t) rfl (HOWN3.out.alloc _) .u8 _ [(n:Int)*8 / 2^(8*k) % 256] rfl BL.out (NoCap.some _ _ _) (by simp [maxLen];omega) (by simp;omega) (by simp;omega) ?_;intro v' w3 hown' hgrow2 hnil2 hob2)
     have M1:Hid (w3.ownsRow w.heap.size 5 1 v' (m+(t+1)) (G (t+1))):=by
      show _
      rw [HGN.out,←QpN];exact hown'
     have M2:Hid (Only (fun _=>False) w w3):=(HON3.out.alloc _).grown hgrow2 (fun k hk e=>by have:=HOWN3.out.lt k e;omega);clear hown' hgrow2 hnil2 hob2 HOWN3 HON3 BL HGN;go_wp2
     go_roundw
     case rel =>
      have h1:=HK.out;exact ⟨t+1,by omega,by congr 1;omega,M1.out,M2.out⟩
     case measure =>
      have h1:=HK.out;simp [intOf]
      try omega
    ·obtain rfl:t=8:=by omega
     rw [G8.out] at HOWN3
     have hf:Hid (m+8=PL):=by show _=_;rw [HPL.out,HM.out]
     rw [hf.out] at HOWN3;clear ht htt hlt;go_wp2;go_ret;exact ⟨_,rfl,HOWN3.out,HON3.out⟩
section
open Go.Shelf
attribute [local go_sem] Oper.semAt_some
theorem Qsu (key info:List Int) (j:Nat):U8 (tpc key info j):=by
 cases j with
 | zero=>intro y hy;cases hy
 | succ j=>exact Qeh _ _
theorem Qsv (key info:List Int) (j:Nat):(tpc key info j).length≤32:=by
 cases j with
 | zero=>exact Nat.zero_le _
 | succ j=>exact Nat.le_of_eq (Qej _ _ _)
def three (a b c:List Int) (i:Nat):List Int:=if i=0 then a else if i=1 then b else c
theorem Qfi (a b c:List Int):pcat (three a b c) 3=a++b++c:=by
 show ((([]++a)++b)++c:List Int)=_
 rw [List.nil_append]
theorem Ps.three {w:World} {p u q:Value} {a b c:List Int} (ha:Bs .u8 w p a) (hb:Bs .u8 w u b) (hc:Bs .u8 w q c) (a8:U8 a) (b8:U8 b) (c8:U8 c) (G:Nat) (hG:w.heap.size=G) :
  Ps (w.alloc (.cells #[p,u,q] 22)) G 3 (three a b c):=fun i hi=>by
 subst hG;have o:Only (fun _=>False) w (w.alloc (.cells #[p,u,q] 22)):=(Only.refl _ _).alloc _;have hB:=Blk.new w 22 [p,u,q]
 rcases (show i=0∨i=1∨i=2 by omega) with rfl | rfl | rfl
 ·exact ⟨p,hB.cell 0,ha.past o,a8⟩
 ·exact ⟨u,hB.cell 1,hb.past o,b8⟩
 ·exact ⟨q,hB.cell 2,hc.past o,c8⟩
theorem QmR (n:Nat) (a:Option Addr) (len cap:Nat) (b:Option Addr) (len' cap':Nat) (w:World) :
  CallsIn Fence.wide n prog 131 #[.slice a len cap,.slice b len' cap'] w fun e w'=>e=.returned (.func (.func 166) #[] #[.pointer (some ⟨w.heap.size,0,none⟩),.pointer (some ⟨w.heap.size+1,0,none⟩)])∧w'=(w.alloc (.cells #[.slice a len cap] 22)).alloc (.cells #[.slice b len' cap'] 22):=by
 refine callsIn_of_wp func131 rfl trivial ?_ rfl;simp only [ntmps131,List.size_toArray,Yah,List.length_nil,Nat.reduceAdd,Nat.reduceSub,Array.replicate_succ,Array.replicate_zero,List.push_toArray,List.append_toArray,List.nil_append,List.cons_append]
 gi_wp2
 go_ret;exact ⟨rfl,rfl⟩
theorem Qky (n L Bk Bi B0:Nat) (v:Value) (ua:Option Addr) (ul uc:Nat) (key info:List Int) (h8:U8 key) (hk:key.length≤10000000000) (hu8:U8 info) (hl:info.length≤1000000000) (J Jx:Nat→World→Prop)
  (hJ:∀s A,J s A→Boxed A Bk 22 v∧Boxed A Bi 22 (.slice ua ul uc)∧Bs .u8 A v key∧Bs .u8 A (.slice ua ul uc) info)
  (hJo:∀s A B,J s A→Only (fun _=>False) A B→J s B)
  (hY:∀(s:Nat) g c A,s<255→J s A→Bs .u8 A (.slice (some ⟨g,0,none⟩) 32 c) (tpc key info (s+1))→B0+2≤g→YieldAt Fence.wide (n - 1) prog L #[.slice (some ⟨g,0,none⟩) 32 c] A fun e B =>
   (e=.returned (.bool true)∧J (s+1) B∧Only (fun k=>k<B0∨k=B0+1) A B)∨(e=.returned (.bool false)∧Jx (s+1) B))
  (W:World) (h0:J 0 W) (hW:B0+2≤W.heap.size) :
  CallsIn Fence.wide n prog 166 #[.func (.yield L) #[] #[],.pointer (some ⟨Bk,0,none⟩),.pointer (some ⟨Bi,0,none⟩)] W fun e B=>(∃v,e=.returned v)∧(J 255 B∨∃s,Jx s B):=by
 have HJ:=Qaa hJ;have HJo:=Qaa hJo;have HY:=Qaa hY;have H0:=Qaa h0;have HW:=Qaa hW;have HK:=Qaa (And.intro h8 (And.intro hk (And.intro hu8 hl)));clear hJ hJo hY h0 hW h8 hk hu8 hl;refine callsIn_of_wp func166 rfl trivial ?_ rfl;simp only [ntmps166,List.size_toArray,Yah,List.length_nil,Nat.reduceAdd,Nat.reduceSub,Array.replicate_succ,Array.replicate_zero,List.push_toArray,List.append_toArray,List.nil_append,List.cons_append]
 gi_wp2
 gi_loopw [4,6] (fun p i wr=>∃t:Nat,t≤255∧i=.int .i64 t∧Hid (J t wr)∧Hid (Bs .u8 wr p (tpc key info t))∧Hid (∀k,p.ownBlock=some k→B0+2≤k)∧Hid (B0+2≤wr.heap.size)) (fun _ i _=>255 - (intOf i).toNat)
 case atStart=>exact ⟨0,by omega,rfl,H0,Bs.nil _ _,(fun k h=>by cases h),HW⟩
 case round =>
  obtain ⟨t,ht,rfl,HT,HP,HQ,HS⟩:=hrel
  by_cases hlt:t<255
  ·have dlt:decide ((t:Int)<255)=true:=Yaj (by omega)
   obtain ⟨hbk,hbi,hbv,hbu⟩:=HJ.out t wr HT.out;have hc1:=hbk.cell;have hc2:=hbi.cell;obtain ⟨b,hb⟩:∃b:Int,b=(t:Int)+1:=⟨_,rfl⟩
   have hbb:b=(((t+1) % 256:Nat):Int):=by omega
   obtain ⟨pa,pc,ep⟩:=HP.out.len;obtain ⟨m,hm⟩:∃m,m=(tpc key info t).length:=⟨_,rfl⟩;rw [←hm] at ep;subst ep;have o1:Only (fun _=>False) wr (wr.alloc (.cells #[.int .u8 b] 5)):=(Only.refl _ _).alloc _;have o2:Only (fun _=>False) wr ((wr.alloc (.cells #[.int .u8 b] 5)).alloc (.cells #[.slice pa m pc,.slice ua ul uc,.slice (some ⟨wr.heap.size,0,none⟩) 1 1] 22)):=o1.alloc _;have hps:=Ps.three (HP.out.past o1) (hbu.past o1) (Bs.litN .u8 wr 5 [b] _ _ rfl rfl) (Qsu _ _ _) HK.out.2.2.1 (fun y hy=>by rw [List.mem_singleton] at hy;subst hy;omega) (wr.heap.size+1) (size_alloc _ _)
   have A:=Qaa (Qho v key (wr.heap.size+1) 3 (three (tpc key info t) info [b]) ((wr.alloc (.cells #[.int .u8 b] 5)).alloc (.cells #[.slice pa m pc,.slice ua ul uc,.slice (some ⟨wr.heap.size,0,none⟩) 1 1] 22)) (hbv.past o2) HK.out.1 HK.out.2.1 hps (by
    have h1:=Qsv key info t;have h2:=HK.out.2.2.2
    rw [Qfi,Yae,Yae];simp only [List.length_singleton];omega) (by decide))
   have hM:MACL key (pcat (three (tpc key info t) info [b]) 3)=tpc key info (t+1):=by rw [Qfi,hbb];rfl
   rw [hM,hb] at A;have O2:=Qaa o2;rw [hb] at O2;clear hbk hbi hbv hbu hb hbb hm o1 o2 hps hM
   gi_wp2_with fail
   refine ⟨trivial,(fun h=>by cases h),(callsIn_wide.2 A.out).mono ?_⟩;rintro e w2 ⟨r,rfl,own2,on2⟩;have hsz:=O2.out.size;have hs2:=on2.size;have hS:=HS.out;have b2:Bs .u8 w2 r (tpc key info (t+1)):=Bs.of_own (by rw [Qej];exact own2)
   have lt2:=fun k hk=>(own2.lt k hk)
   obtain ⟨ra,rc,er⟩:=Qad own2;subst er
   obtain ⟨g,hg⟩:∃g,ra=some ⟨g,0,none⟩:=by
    rcases own2.2 with ⟨_,h0⟩ | ⟨g,cap,cur,hv,_⟩
    ·cases h0
    ·simp at hv;exact ⟨g,hv.1⟩
   subst hg;have hgB:=lt2 g rfl;obtain ⟨fn,tmps,assign,body,hy,hR⟩:=HY.out t g rc w2 hlt (HJo.out _ _ _ HT.out (O2.out.same on2)) b2 (by omega);have HR:=Qaa hR;have H2:=Qaa (And.intro b2 (show B0+2≤g by omega))
   have HS2:Hid (B0+2≤w2.heap.size):=by show _≤_;omega
   clear own2 on2 A hR b2 lt2 hsz hs2 hS hgB hc1 hc2 HT HP HQ HS O2
   gi_wp2
   refine ⟨(fun h=>by cases h),HR.out.mono ?_⟩;rintro e w3 (⟨rfl,hJ3,o3⟩ | ⟨rfl,hJ3⟩)
   ·have H3:=Qaa hJ3
    have N2:=Qaa (H2.out.1.keep o3 (fun k hk=>by
     have h2:=H2.out.2;simp [Value.ownBlock] at hk
     omega))
    have N3:Hid (∀k,(Value.slice (some ⟨g,0,none⟩) 32 rc).ownBlock=some k→B0+2≤k):=fun k hk=>by
     have h2:=H2.out.2;simp [Value.ownBlock] at hk;omega
    have N4:Hid (B0+2≤w3.heap.size):=by
     have h1:=HS2.out;have h2:=o3.size
     show _≤_
     omega
    clear HR hJ3 o3
    gi_wp2
    go_roundw
    case rel=>exact ⟨t+1,by omega,by go_num,H3,N2,N3,N4⟩
    case measure=>simp [intOf];omega
   ·have H3:=Qaa hJ3
    clear HR hJ3
    gi_wp2
    refine bodyPost_ret (results_none rfl _ _ _) rfl ?_;exact ⟨⟨_,rfl⟩,.inr ⟨_,H3.out⟩⟩
  ·obtain rfl:t=255:=by omega
   gi_wp2
   go_end0
   exact ⟨⟨_,rfl⟩,.inl HT.out⟩
end
end Go.Proofs.YtnhapmboienipaaGreatDoor
