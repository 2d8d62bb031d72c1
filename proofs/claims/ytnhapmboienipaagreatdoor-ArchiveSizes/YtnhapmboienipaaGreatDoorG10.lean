import Derived.RangeFuncBox
import Derived.RangeFuncNested
import Derived.RangeFuncBound
import Derived.RangeFuncCalls
import Derived.RangeFuncLeaves
import Derived.Shelf.Abstract
import Derived.Shelf.RegionOpen
import Derived.WalkKit
import Derived.OwnWalkIn
import Derived.TacticsInMore
import Derived.LoopNIn
import Derived.LoopIn
import Derived.Test.YtnhapmboienipaaGreatDoorProg
import Derived.Test.YtnhapmboienipaaGreatDoorG1
import Derived.StillTailTactics
import Derived.OrdersIn
import Derived.Test.YtnhapmboienipaaGreatDoorG6
import Derived.Great.BuildSlice
import Derived.Test.YtnhapmboienipaaGreatDoorG5
import Derived.Test.YtnhapmboienipaaGreatDoorG9
namespace Go.Proofs.YtnhapmboienipaaGreatDoor
set_option maxHeartbeats 2000000
set_option maxRecDepth 100000
open Go.RowKit
section
open Go.Shelf
theorem Only.putObj {S : Nat → Prop} {a b : World} (h : Only S a b) (l : Nat) (o : Obj) (hl : l < a.heap.size → S l) : Only S a (b.putObj l o) :=
 h.grown (grownBy_putObj' b l o) (fun k hk e => by cases e;exact hl hk)
theorem Bs.loop {k : IntKind} {A B : World} {v : Value} {xs : List Int} (h : Bs k A v xs) {l : Nat} {r : Loop} (hl : A.heap[l]? = some (.loop r)) (o : Only (fun j => j = l) A B) : Bs k B v xs:=by
 obtain ⟨ao,cap,rfl,hc,hr⟩:=h;refine ⟨ao,cap,rfl,hc,fun hx => ?_⟩;obtain ⟨b,off,rfl,hcell⟩:=hr hx;refine ⟨b,off,rfl,fun j hj => ?_⟩;have h0:=hcell j hj;rw [← h0];refine World.cell?_of_block (o.block b (World.block_lt_of_cell? A _ h0) ?_);intro e;subst e;obtain ⟨o',ho',hc'⟩:=cells_of_cell h0;rw [hl] at ho';cases ho';cases hc'
theorem Qak {A B : World} {b : Nat} {t : TypeId} {v : Value} (h : Boxed A b t v) {S : Nat → Prop} (o : Only S A B) (hs : ¬ S b) : Boxed B b t v:=o.heap h hs
def QtN {σ : Type} (B : Nat) (I : σ → World → Prop) (s : σ) (W : World) : Exit → Act → World → Prop
 | .normal,_,W' => Only (fun k => k < B) W W' ∧ I s W'
 | _,_,_ => False
theorem QjV {σ α : Type} {P : Program} {n : Nat} {g : Operand} {ps : Array Tmp} {assign body : Code} {Q : Exit → Act → World → Prop} {a : Act} {w : World}
  {gf : Nat} {lb : Array Value} (hg : a.eval g = .func (.func gf) #[] lb) (eg : ∀ args w,(callFunc gf args).run P w = .ok (.enter gf args) w)
  (encs : α → Array Value) (hps : ∀ x,(encs x).size = ps.size) (I : σ → World → Prop) (V : σ → α → σ → World → Prop) (s0 s1 : σ)
  (hI : ∀ s A B r,I s A → A.heap[w.heap.size + 1]? = some (.loop r) → Only (fun k => k = w.heap.size + 1) A B → I s B)
  (hIn : ∀ s A B,I s A → Only (fun _ => False) A B → I s B)
  (hV : ∀ s x s' A B r,V s x s' A → A.heap[w.heap.size + 1]? = some (.loop r) → Only (fun k => k = w.heap.size + 1) A B → V s x s' B)
  (h0 : I s0 w)
  (hit : ∀ (J : σ → World → Prop) (W : World),(∀ s A,J s A → I s A) → (∀ s A B,J s A → Only (fun _ => False) A B → J s B) → (∀ s s' A,J s A → I s' A → J s' A) →
   (∀ s x s' A,J s A → V s x s' A → YieldAt Fence.wide (n - 1 - 1) P (w.heap.size + 1) (encs x) A fun e B => e = .returned (.bool true) ∧ J s' B) → J s0 W →
   CallsIn Fence.wide (n - 1) P gf (#[.func (.yield (w.heap.size + 1)) #[] #[]] ++ lb) W fun e B => (∃ v,e = .returned v) ∧ J s1 B)
  (a₁ : α → Act)
  (hassign : ∀ (x : α) (W : World) (K : Act → World → Prop),K (a₁ x) W →
   assign.wpIn (Fence.wide.inRound (w.heap.size + 1)) (n - 1 - 1) P (Exit.then K (fun _ _ _ => False)) { tmps:=(ps.zip (encs x)).foldl (fun t (p,v) => t.setIfInBounds p v) a.tmps,defers:=[] } W)
  (hbody : ∀ (s : σ) (x : α) (s' : σ) (W : World),I s W → V s x s' W → body.wpIn (Fence.wide.inRound (w.heap.size + 1)) (n - 1 - 1) P (QtN w.heap.size I s' W) (a₁ x) W)
  (hdone : ∀ (W : World),I s1 W → W.heap[w.heap.size]? = some (.deferred (some [])) → Q .normal { a with defers:={ target:=.collected w.heap.size,args:=#[] } :: a.defers } W) :
  (Code.rangeFunc g ps assign body).wpIn Fence.wide n P Q a w:=by
 refine wpIn_rangeFunc fun fn hfn => ?_
 obtain ⟨rc,hrc⟩ : ∃ rc : LoopState → Option Code → Loop,rc = fun st pe => { state:=st,pending:=pe,fn,tmps:=a.tmps,params:=ps,assign,body,defers:=w.heap.size }:=⟨_,rfl⟩
 obtain ⟨W1,hW1⟩ : ∃ W1,(w.alloc (.deferred (some []))).alloc (.loop (rc .ready none)) = W1:=⟨_,rfl⟩
 have hL : W1.heap[w.heap.size + 1]? = some (.loop (rc .ready none)):=by
  have:=World.alloc_heap_new (w.alloc (.deferred (some []))) (.loop (rc .ready none));rw [World.size_alloc,hW1] at this;exact this
 have hD : W1.heap[w.heap.size]? = some (.deferred (some [])):=by
  rw [← hW1];exact (Below.heap_alloc _ _ _ (by simp)).trans (World.alloc_heap_new w _)
 have hO : Only (fun _ => False) w W1:=by
  rw [← hW1];exact ((Only.refl _ w).alloc _).alloc _
 refine ⟨w.heap.size + 1,[{ target:=.collected w.heap.size,args:=#[] }],W1,{ target:=.fn (.func gf) lb,args:=#[.func (.yield (w.heap.size + 1)) #[] #[]] },W1,gf,#[.func (.yield (w.heap.size + 1)) #[] #[]] ++ lb,W1,?_,?_,fun _ _ => trivial,?_,(fun h => by cases h),?_⟩
 ·rw [← hW1,hrc]
  exact run_enterLoop_outer _ _ _ _ _
 ·simp only [resolve,hg]
  simp [go_sem]
 ·simp [invoke,go_sem,eg]
 refine (hit (fun s W => I s W ∧ W.heap[w.heap.size + 1]? = some (.loop (rc .ready none)) ∧ W.heap[w.heap.size]? = some (.deferred (some []))) W1 (fun _ _ h => h.1)
  (fun s A B h o => ⟨hIn s A B h.1 o,o.heap h.2.1 (fun f => f),o.heap h.2.2 (fun f => f)⟩) (fun _ _ _ h i => ⟨i,h.2⟩) ?_ ⟨hIn _ _ _ h0 hO,hL,hD⟩).mono ?_
 ·rintro s x s' A ⟨hi,hl,hd⟩ hv
  have hlt : w.heap.size + 1 < A.heap.size:=(Array.getElem?_eq_some_iff.1 hl).1;have hy:=run_yield (P:=P) (args:=encs x) hl (by rw [hrc];exact hps x);rw [hrc] at hy;refine ⟨fn,_,assign,body,hy,roundIn_of_wpIn hfn (hassign x A _ ⟨_,run_beginRound hl (by rw [hrc]),?_⟩)⟩;obtain ⟨A2,hA2⟩ : ∃ A2,A.putObj (w.heap.size + 1) (.loop { rc .ready none with state:=.busy }) = A2:=⟨_,rfl⟩
  have o2 : Only (fun k => k = w.heap.size + 1) A A2:=by rw [← hA2];exact (Only.refl _ A).putObj _ _ (fun _ => rfl)
  have l2 : A2.heap[w.heap.size + 1]? = some (.loop { rc .ready none with state:=.busy }):=by rw [← hA2];exact World.putObj_heap_same hlt
  have d2 : A2.heap[w.heap.size]? = some (.deferred (some [])):=o2.heap hd (by omega);rw [hA2];refine wpIn_mono (hbody s x s' A2 (hI s A A2 _ hi hl o2) (hV s x s' A A2 _ hv hl o2)) ?_;intro ex a3 A3 h
  cases ex
  case normal =>
   obtain ⟨o3,i3⟩:=h;have l3:=o3.heap l2 (by omega);have d3:=o3.heap d2 (by omega);have hr:=run_endRound (P:=P) none l3
   have h4 : A3.putObj (w.heap.size + 1) (.loop (rc .ready none)) = A3.putObj (w.heap.size + 1) (.loop { rc .ready none with state:=if (none : Option Code).isNone then .ready else .done,pending:=none }):=by rw [hrc];rfl
   have o4 : Only (fun k => k = w.heap.size + 1) A3 (A3.putObj (w.heap.size + 1) (.loop (rc .ready none))):=(Only.refl _ A3).putObj _ _ (fun _ => rfl);refine ⟨_,_,hr,rfl,?_⟩
   have h5 : I s' (A3.putObj (w.heap.size + 1) (.loop (rc .ready none))) ∧ (A3.putObj (w.heap.size + 1) (.loop (rc .ready none))).heap[w.heap.size + 1]? = some (.loop (rc .ready none)) ∧ (A3.putObj (w.heap.size + 1) (.loop (rc .ready none))).heap[w.heap.size]? = some (.deferred (some [])) :=
    ⟨hI s' A3 _ _ i3 l3 o4,World.putObj_heap_same (Array.getElem?_eq_some_iff.1 l3).1,o4.heap d3 (by omega)⟩
   rw [h4] at h5;exact h5
  all_goals exact h.elim
 ·rintro e A ⟨⟨v,rfl⟩,hi,hl,hd⟩
  have hr:=run_endLoop (P:=P) hl (by rw [hrc];simp)
  have hp : (rc .ready none).pending = none:=by rw [hrc]
  refine ⟨none,_,by rw [hr,hp],hdone _ (hI _ _ _ _ hi hl ((Only.refl _ A).putObj _ _ (fun _ => rfl))) ?_⟩;exact (World.putObj_heap_other (by omega)).trans hd
end
section
open Go.Shelf
def Qh3 {σ : Type} (B : Nat) (I Ix : σ → World → Prop) (s : σ) (W : World) : Exit → Act → World → Prop
 | .normal,_,W' => Only (fun k => k < B) W W' ∧ I s W'
 | .exit id,_,W' => id = 0 ∧ Only (fun k => k < B) W W' ∧ Ix s W'
 | _,_,_ => False
theorem Qh4 {σ α : Type} {P : Program} {n : Nat} {g : Operand} {ps : Array Tmp} {assign body : Code} {Q : Exit → Act → World → Prop} {a : Act} {w : World}
  {gf : Nat} {lb : Array Value} (hg : a.eval g = .func (.func gf) #[] lb) (eg : ∀ args w,(callFunc gf args).run P w = .ok (.enter gf args) w)
  (encs : α → Array Value) (hps : ∀ x,(encs x).size = ps.size) (I Ix : σ → World → Prop) (V : σ → α → σ → World → Prop) (s0 s1 : σ)
  (hI : ∀ s A B r,I s A → A.heap[w.heap.size + 1]? = some (.loop r) → Only (fun k => k = w.heap.size + 1) A B → I s B)
  (hIx : ∀ s A B r,Ix s A → A.heap[w.heap.size + 1]? = some (.loop r) → Only (fun k => k = w.heap.size + 1) A B → Ix s B)
  (hIn : ∀ s A B,I s A → Only (fun _ => False) A B → I s B)
  (hV : ∀ s x s' A B r,V s x s' A → A.heap[w.heap.size + 1]? = some (.loop r) → Only (fun k => k = w.heap.size + 1) A B → V s x s' B)
  (h0 : I s0 w)
  (hit : ∀ (J Jx : σ → World → Prop) (W : World),(∀ s A,J s A → I s A) → (∀ s A B,J s A → Only (fun _ => False) A B → J s B) →
   (∀ s x s' A,J s A → V s x s' A → YieldAt Fence.wide (n - 1 - 1) P (w.heap.size + 1) (encs x) A fun e B =>
    (e = .returned (.bool true) ∧ J s' B ∧ Only (fun k => k < w.heap.size ∨ k = w.heap.size + 1) A B) ∨ (e = .returned (.bool false) ∧ Jx s' B)) → J s0 W → w.heap.size + 2 ≤ W.heap.size →
   CallsIn Fence.wide (n - 1) P gf (#[.func (.yield (w.heap.size + 1)) #[] #[]] ++ lb) W fun e B => (∃ v,e = .returned v) ∧ (J s1 B ∨ ∃ s,Jx s B))
  (a₁ : α → Act)
  (hassign : ∀ (x : α) (W : World) (K : Act → World → Prop),K (a₁ x) W →
   assign.wpIn (Fence.wide.inRound (w.heap.size + 1)) (n - 1 - 1) P (Exit.then K (fun _ _ _ => False)) { tmps:=(ps.zip (encs x)).foldl (fun t (p,v) => t.setIfInBounds p v) a.tmps,defers:=[] } W)
  (hbody : ∀ (s : σ) (x : α) (s' : σ) (W : World),I s W → V s x s' W → body.wpIn (Fence.wide.inRound (w.heap.size + 1)) (n - 1 - 1) P (Qh3 w.heap.size I Ix s' W) (a₁ x) W)
  (hdone : ∀ (W : World),I s1 W → W.heap[w.heap.size]? = some (.deferred (some [])) → Q .normal { a with defers:={ target:=.collected w.heap.size,args:=#[] } :: a.defers } W)
  (hstop : ∀ (s : σ) (W : World),Ix s W → W.heap[w.heap.size]? = some (.deferred (some [])) → (Code.exit 0).wpIn Fence.wide n P Q { a with defers:={ target:=.collected w.heap.size,args:=#[] } :: a.defers } W) :
  (Code.rangeFunc g ps assign body).wpIn Fence.wide n P Q a w:=by
 refine wpIn_rangeFunc fun fn hfn => ?_
 obtain ⟨rc,hrc⟩ : ∃ rc : LoopState → Option Code → Loop,rc = fun st pe => { state:=st,pending:=pe,fn,tmps:=a.tmps,params:=ps,assign,body,defers:=w.heap.size }:=⟨_,rfl⟩
 obtain ⟨W1,hW1⟩ : ∃ W1,(w.alloc (.deferred (some []))).alloc (.loop (rc .ready none)) = W1:=⟨_,rfl⟩
 have hL : W1.heap[w.heap.size + 1]? = some (.loop (rc .ready none)):=by
  have:=World.alloc_heap_new (w.alloc (.deferred (some []))) (.loop (rc .ready none));rw [World.size_alloc,hW1] at this;exact this
 have hD : W1.heap[w.heap.size]? = some (.deferred (some [])):=by
  rw [← hW1];exact (Below.heap_alloc _ _ _ (by simp)).trans (World.alloc_heap_new w _)
 have hO : Only (fun _ => False) w W1:=by
  rw [← hW1];exact ((Only.refl _ w).alloc _).alloc _
 have hS1 : w.heap.size + 2 ≤ W1.heap.size:=by rw [← hW1];simp
 refine ⟨w.heap.size + 1,[{ target:=.collected w.heap.size,args:=#[] }],W1,{ target:=.fn (.func gf) lb,args:=#[.func (.yield (w.heap.size + 1)) #[] #[]] },W1,gf,#[.func (.yield (w.heap.size + 1)) #[] #[]] ++ lb,W1,?_,?_,fun _ _ => trivial,?_,(fun h => by cases h),?_⟩
 ·rw [← hW1,hrc]
  exact run_enterLoop_outer _ _ _ _ _
 ·simp only [resolve,hg]
  simp [go_sem]
 ·simp [invoke,go_sem,eg]
 refine (hit (fun s W => I s W ∧ W.heap[w.heap.size + 1]? = some (.loop (rc .ready none)) ∧ W.heap[w.heap.size]? = some (.deferred (some [])))
  (fun s W => Ix s W ∧ W.heap[w.heap.size + 1]? = some (.loop (rc .done (some (.exit 0)))) ∧ W.heap[w.heap.size]? = some (.deferred (some []))) W1 (fun _ _ h => h.1)
  (fun s A B h o => ⟨hIn s A B h.1 o,o.heap h.2.1 (fun f => f),o.heap h.2.2 (fun f => f)⟩) ?_ ⟨hIn _ _ _ h0 hO,hL,hD⟩ hS1).mono ?_
 ·rintro s x s' A ⟨hi,hl,hd⟩ hv
  have hlt : w.heap.size + 1 < A.heap.size:=(Array.getElem?_eq_some_iff.1 hl).1;have hy:=run_yield (P:=P) (args:=encs x) hl (by rw [hrc];exact hps x);rw [hrc] at hy;refine ⟨fn,_,assign,body,hy,roundIn_of_wpIn hfn (hassign x A _ ⟨_,run_beginRound hl (by rw [hrc]),?_⟩)⟩;obtain ⟨A2,hA2⟩ : ∃ A2,A.putObj (w.heap.size + 1) (.loop { rc .ready none with state:=.busy }) = A2:=⟨_,rfl⟩
  have o2 : Only (fun k => k = w.heap.size + 1) A A2:=by rw [← hA2];exact (Only.refl _ A).putObj _ _ (fun _ => rfl)
  have l2 : A2.heap[w.heap.size + 1]? = some (.loop { rc .ready none with state:=.busy }):=by rw [← hA2];exact World.putObj_heap_same hlt
  have d2 : A2.heap[w.heap.size]? = some (.deferred (some [])):=o2.heap hd (by omega);rw [hA2];refine wpIn_mono (hbody s x s' A2 (hI s A A2 _ hi hl o2) (hV s x s' A A2 _ hv hl o2)) ?_;intro ex a3 A3 h
  cases ex
  case normal =>
   obtain ⟨o3,i3⟩:=h;have l3:=o3.heap l2 (by omega);have d3:=o3.heap d2 (by omega);have hr:=run_endRound (P:=P) none l3
   have h4 : A3.putObj (w.heap.size + 1) (.loop (rc .ready none)) = A3.putObj (w.heap.size + 1) (.loop { rc .ready none with state:=if (none : Option Code).isNone then .ready else .done,pending:=none }):=by rw [hrc];rfl
   have o4 : Only (fun k => k = w.heap.size + 1) A3 (A3.putObj (w.heap.size + 1) (.loop (rc .ready none))):=(Only.refl _ A3).putObj _ _ (fun _ => rfl);refine ⟨_,_,hr,.inl ⟨rfl,?_⟩⟩
   have h5 : (I s' (A3.putObj (w.heap.size + 1) (.loop (rc .ready none))) ∧ (A3.putObj (w.heap.size + 1) (.loop (rc .ready none))).heap[w.heap.size + 1]? = some (.loop (rc .ready none)) ∧ (A3.putObj (w.heap.size + 1) (.loop (rc .ready none))).heap[w.heap.size]? = some (.deferred (some []))) ∧
     Only (fun k => k < w.heap.size ∨ k = w.heap.size + 1) A (A3.putObj (w.heap.size + 1) (.loop (rc .ready none))) :=
    ⟨⟨hI s' A3 _ _ i3 l3 o4,World.putObj_heap_same (Array.getElem?_eq_some_iff.1 l3).1,o4.heap d3 (by omega)⟩,
     ((o2.mono (T:=fun k => k < w.heap.size ∨ k = w.heap.size + 1) (fun _ _ e => .inr e)).trans o3 (fun _ _ e => .inl e)).trans o4 (fun _ _ e => .inr e)⟩
   rw [h4] at h5;exact h5
  case exit id =>
   obtain ⟨rfl,o3,i3⟩:=h;have l3:=o3.heap l2 (by omega);have d3:=o3.heap d2 (by omega);have hr:=run_endRound (P:=P) (some (.exit 0)) l3
   have h4 : A3.putObj (w.heap.size + 1) (.loop (rc .done (some (.exit 0)))) = A3.putObj (w.heap.size + 1) (.loop { rc .ready none with state:=if (some (Code.exit 0) : Option Code).isNone then .ready else .done,pending:=some (.exit 0) }):=by rw [hrc];rfl
   have o4 : Only (fun k => k = w.heap.size + 1) A3 (A3.putObj (w.heap.size + 1) (.loop (rc .done (some (.exit 0))))):=(Only.refl _ A3).putObj _ _ (fun _ => rfl);refine ⟨_,_,hr,.inr ⟨rfl,?_⟩⟩
   have h5 : Ix s' (A3.putObj (w.heap.size + 1) (.loop (rc .done (some (.exit 0))))) ∧ (A3.putObj (w.heap.size + 1) (.loop (rc .done (some (.exit 0))))).heap[w.heap.size + 1]? = some (.loop (rc .done (some (.exit 0)))) ∧ (A3.putObj (w.heap.size + 1) (.loop (rc .done (some (.exit 0))))).heap[w.heap.size]? = some (.deferred (some [])) :=
    ⟨hIx s' A3 _ _ i3 l3 o4,World.putObj_heap_same (Array.getElem?_eq_some_iff.1 l3).1,o4.heap d3 (by omega)⟩
   rw [h4] at h5;exact h5
  all_goals exact h.elim
 ·rintro e A ⟨⟨v,rfl⟩,⟨hi,hl,hd⟩ | ⟨s,hi,hl,hd⟩⟩
  ·have hr:=run_endLoop (P:=P) hl (by rw [hrc];simp)
   have hp : (rc .ready none).pending = none:=by rw [hrc]
   refine ⟨none,_,by rw [hr,hp],hdone _ (hI _ _ _ _ hi hl ((Only.refl _ A).putObj _ _ (fun _ => rfl))) ?_⟩;exact (World.putObj_heap_other (by omega)).trans hd
  ·have hr:=run_endLoop (P:=P) hl (by rw [hrc];simp)
   have hp : (rc .done (some (.exit 0))).pending = some (.exit 0):=by rw [hrc]
   refine ⟨some (.exit 0),_,by rw [hr,hp],hstop s _ (hIx _ _ _ _ hi hl ((Only.refl _ A).putObj _ _ (fun _ => rfl))) ?_⟩;exact (World.putObj_heap_other (by omega)).trans hd
theorem Qo1 {P : Program} {n l : Nat} {o : Oper} {a : Act} {w : World} {K : Act → World → Prop} {Q : Exit → Act → World → Prop} (hnd : ∀ c,o.op ≠ .defer c) (h : o.wp P a w K Q) : o.wpIn (Fence.wide.inRound l) n P a w K Q:=by
 refine ⟨fun _ _ => trivial,?_⟩;rw [Oper.semAt_eq _ _ _ hnd];unfold Oper.wp at h;generalize (execOp a.eval o).run P w = r at *
 cases r with
 | ok x w' =>
  cases x with
  | value v => exact h
  | skip => exact h
  | defer d => exact h
  | enter f args => exact ⟨(fun h => by cases h),CallsIn.inRound l (callsIn_wide.2 h)⟩
  | row row args => exact ⟨(fun h => by cases h),fun c cs _ => by
    obtain ⟨v,w',r,s⟩:=h c cs
    exact ⟨v,w',r,stepsIn_wide.2 s⟩⟩
  | _ => exact False.elim h
 | halt x w' => cases x <;> first | exact h | exact False.elim h
theorem QmB {P : Program} {n l : Nat} {md : Region.Mode} {ops : Array Oper} {Q : Exit → Act → World → Prop} (hQ : ¬ LetsOut Q) (hnd : ∀ (i : Nat) (o : Oper),ops[i]? = some o → ∀ c,o.op ≠ .defer c) :
  ∀ (fuel : Nat) (listed : Array Bool) (a : Act) (w : World),wpAny P md ops Q fuel listed a w → wpAnyIn (Fence.wide.inRound l) n P md ops Q fuel listed a w:=by
 intro fuel
 induction fuel with
 | zero => intro listed a w h;exact h
 | succ fuel ih =>
  intro listed a w h;refine ⟨h.1,fun i hi => ?_⟩;have h1:=h.2 i hi;unfold wpOp at h1;unfold wpOpIn
  cases ho : ops[i]? with
  | none => simp only [ho] at h1 ⊢;exact ih _ _ _ h1
  | some o =>
   simp only [ho] at h1 ⊢
   by_cases hw : Region.wanted o (yielded ops a.tmps) = true
   ·rw [if_pos hw] at h1 ⊢
    exact Oper.wpIn_mono (fun a w => ih _ a w) (Qo1 (hnd i o ho) (h1.resolve_right (fun c => hQ c.2)))
   ·rw [if_neg hw] at h1 ⊢
    exact ⟨fun _ _ => trivial,ih _ _ _ h1⟩
def QmC (l : List Oper) : Bool:=l.all fun o => match o.op with | .defer _ => false | _ => true
theorem QgQ {l : List Oper} (h : QmC l = true) (i : Nat) (o : Oper) (ho : l.toArray[i]? = some o) (c : Call) : o.op ≠ .defer c:=fun e => by
 have hm : o ∈ l:=by
  have:=Array.mem_of_getElem? ho
  simpa using this
 have:=List.all_eq_true.1 h o hm;rw [e] at this
 cases this
theorem Qb5 {P : Program} {k L id : Nat} {Q : Exit → Act → World → Prop} {a : Act} {w : World} {l : List Oper} (n : Nat) (hm : P.follows .mixedOrders = true) (hQ : ¬ LetsOut Q) (hnd : QmC l = true) (hB : Region.lexTailB .any l.toArray n = true)
  (h : wpStill P l.toArray { w with drawn:=w.drawn + 1 } (fun a' => wpList P l.toArray Q (l.drop n) a' { w with drawn:=w.drawn + 1 }) (l.take n) a) : (Code.region id l.toArray true).wpIn (Fence.wide.inRound L) k P Q a w:=by
 simp only [Region.lexTailB,Bool.and_eq_true,decide_eq_true_eq] at hB;obtain ⟨⟨⟨⟨hsel,hn⟩,hs⟩,hc⟩,hlex⟩:=hB
 have hn' : n < l.length:=by simpa using hn
 have htl : (l.take n).length = n:=by simp;omega
 have hdl : (l.drop n).length = l.toArray.size - n:=by simp
 have inv0 : HeadInv .any l.toArray n (Array.replicate l.toArray.size false) :=
  ⟨by simp,fun j oj _ hl => (by rw [getD_replicate_false] at hl;cases hl),fun t _ ht => Go.getD_in (by simpa using ht) (getD_replicate_false _ _)⟩
 have H:=wpAnyL_lex (md:=.any) (g:=l.toArray.size - n) hsel hs hc hn (l.take n) 0 _ a (fun j hj => by
  have hj' : j < n:=by rw [htl] at hj;exact hj
  simp [hj']) (by simpa using htl) inv0 (by rw [htl];exact hlex) h
 refine wpIn_region_any hm (QmB hQ (QgQ hnd) _ _ _ _ ?_)
 have:=wpAny_of_head (Q':=Q) (g:=l.toArray.size - n) (fun listed a' hL => by
  have:=wpAny_of_seq (md:=.any) (Q':=Q) (l.drop n) n listed a' { w with drawn:=w.drawn + 1 } (fun j => by simp [List.getElem?_drop]) (by rw [hdl];exact hL.1) hL.2
  rwa [hdl] at this) _ _ _ H
 rw [htl,show n + (l.toArray.size - n) = l.toArray.size by omega] at this;exact this
end
section
open Go.Shelf
attribute [local go_sem] Oper.semAt_some
theorem QrK (key info : List Int) (j : Nat) : U8 (tpc key info j):=by
 cases j with
 | zero => intro y hy;cases hy
 | succ j => exact Qd5 _ _
theorem QrL (key info : List Int) (j : Nat) : (tpc key info j).length ≤ 32:=by
 cases j with
 | zero => exact Nat.zero_le _
 | succ j => exact Nat.le_of_eq (Qd7 _ _ _)
def three (a b c : List Int) (i : Nat) : List Int:=if i = 0 then a else if i = 1 then b else c
theorem Qe2 (a b c : List Int) : pcat (three a b c) 3 = a ++ b ++ c:=by
 show ((([] ++ a) ++ b) ++ c : List Int) = _
 rw [List.nil_append]
theorem Ps.three {w : World} {p u q : Value} {a b c : List Int} (ha : Bs .u8 w p a) (hb : Bs .u8 w u b) (hc : Bs .u8 w q c) (a8 : U8 a) (b8 : U8 b) (c8 : U8 c) (G : Nat) (hG : w.heap.size = G) :
  Ps (w.alloc (.cells #[p,u,q] 22)) G 3 (three a b c):=fun i hi => by
 subst hG;have o : Only (fun _ => False) w (w.alloc (.cells #[p,u,q] 22)):=(Only.refl _ _).alloc _;have hB:=Blk.new w 22 [p,u,q]
 rcases (show i = 0 ∨ i = 1 ∨ i = 2 by omega) with rfl | rfl | rfl
 ·exact ⟨p,hB.cell 0,ha.past o,a8⟩
 ·exact ⟨u,hB.cell 1,hb.past o,b8⟩
 ·exact ⟨q,hB.cell 2,hc.past o,c8⟩
theorem Qmd (n : Nat) (a : Option Addr) (len cap : Nat) (b : Option Addr) (len' cap' : Nat) (w : World) :
  CallsIn Fence.wide n Tryz.prog 131 #[.slice a len cap,.slice b len' cap'] w fun e w' => e = .returned (.func (.func 166) #[] #[.pointer (some ⟨w.heap.size,0,none⟩),.pointer (some ⟨w.heap.size + 1,0,none⟩)]) ∧ w' = (w.alloc (.cells #[.slice a len cap] 22)).alloc (.cells #[.slice b len' cap'] 22):=by
 refine callsIn_of_wp Tryz.func131 rfl trivial ?_ rfl;simp only [Tryz.ntmps131,List.size_toArray,List.length_cons,List.length_nil,Nat.reduceAdd,Nat.reduceSub,Array.replicate_succ,Array.replicate_zero,List.push_toArray,List.append_toArray,List.nil_append,List.cons_append]
 gi_wp2
 go_ret;exact ⟨rfl,rfl⟩
theorem QjS (n L Bk Bi B0 : Nat) (v : Value) (ua : Option Addr) (ul uc : Nat) (key info : List Int) (h8 : U8 key) (hk : key.length ≤ 10000000000) (hu8 : U8 info) (hl : info.length ≤ 1000000000) (J Jx : Nat → World → Prop)
  (hJ : ∀ s A,J s A → Boxed A Bk 22 v ∧ Boxed A Bi 22 (.slice ua ul uc) ∧ Bs .u8 A v key ∧ Bs .u8 A (.slice ua ul uc) info)
  (hJo : ∀ s A B,J s A → Only (fun _ => False) A B → J s B)
  (hY : ∀ (s : Nat) g c A,s < 255 → J s A → Bs .u8 A (.slice (some ⟨g,0,none⟩) 32 c) (tpc key info (s + 1)) → B0 + 2 ≤ g → YieldAt Fence.wide (n - 1) Tryz.prog L #[.slice (some ⟨g,0,none⟩) 32 c] A fun e B =>
   (e = .returned (.bool true) ∧ J (s + 1) B ∧ Only (fun k => k < B0 ∨ k = B0 + 1) A B) ∨ (e = .returned (.bool false) ∧ Jx (s + 1) B))
  (W : World) (h0 : J 0 W) (hW : B0 + 2 ≤ W.heap.size) :
  CallsIn Fence.wide n Tryz.prog 166 #[.func (.yield L) #[] #[],.pointer (some ⟨Bk,0,none⟩),.pointer (some ⟨Bi,0,none⟩)] W fun e B => (∃ v,e = .returned v) ∧ (J 255 B ∨ ∃ s,Jx s B):=by
 have HJ:=Qaa hJ;have HJo:=Qaa hJo;have HY:=Qaa hY;have H0:=Qaa h0;have HW:=Qaa hW;have HK:=Qaa (And.intro h8 (And.intro hk (And.intro hu8 hl)));clear hJ hJo hY h0 hW h8 hk hu8 hl;refine callsIn_of_wp Tryz.func166 rfl trivial ?_ rfl;simp only [Tryz.ntmps166,List.size_toArray,List.length_cons,List.length_nil,Nat.reduceAdd,Nat.reduceSub,Array.replicate_succ,Array.replicate_zero,List.push_toArray,List.append_toArray,List.nil_append,List.cons_append]
 gi_wp2
 gi_loopw [4,6] (fun p i wr => ∃ t : Nat,t ≤ 255 ∧ i = .int .i64 t ∧ Hid (J t wr) ∧ Hid (Bs .u8 wr p (tpc key info t)) ∧ Hid (∀ k,p.ownBlock = some k → B0 + 2 ≤ k) ∧ Hid (B0 + 2 ≤ wr.heap.size)) (fun _ i _ => 255 - (intOf i).toNat)
 case atStart => exact ⟨0,by omega,rfl,H0,Bs.nil _ _,(fun k h => by cases h),HW⟩
 case round =>
  obtain ⟨t,ht,rfl,HT,HP,HQ,HS⟩:=hrel
  by_cases hlt : t < 255
  ·have dlt : decide ((t : Int) < 255) = true:=decide_eq_true (by omega)
   obtain ⟨hbk,hbi,hbv,hbu⟩:=HJ.out t wr HT.out;have hc1:=hbk.cell;have hc2:=hbi.cell;obtain ⟨b,hb⟩ : ∃ b : Int,b = (t : Int) + 1:=⟨_,rfl⟩
   have hbb : b = (((t + 1) % 256 : Nat) : Int):=by omega
   obtain ⟨pa,pc,ep⟩:=HP.out.len;obtain ⟨m,hm⟩ : ∃ m,m = (tpc key info t).length:=⟨_,rfl⟩;rw [← hm] at ep;subst ep;have o1 : Only (fun _ => False) wr (wr.alloc (.cells #[.int .u8 b] 5)):=(Only.refl _ _).alloc _;have o2 : Only (fun _ => False) wr ((wr.alloc (.cells #[.int .u8 b] 5)).alloc (.cells #[.slice pa m pc,.slice ua ul uc,.slice (some ⟨wr.heap.size,0,none⟩) 1 1] 22)):=o1.alloc _;have hps:=Ps.three (HP.out.past o1) (hbu.past o1) (Bs.litN .u8 wr 5 [b] _ _ rfl rfl) (QrK _ _ _) HK.out.2.2.1 (fun y hy => by rw [List.mem_singleton] at hy;subst hy;omega) (wr.heap.size + 1) (size_alloc _ _)
   have A:=Qaa (Qg2 v key (wr.heap.size + 1) 3 (three (tpc key info t) info [b]) ((wr.alloc (.cells #[.int .u8 b] 5)).alloc (.cells #[.slice pa m pc,.slice ua ul uc,.slice (some ⟨wr.heap.size,0,none⟩) 1 1] 22)) (hbv.past o2) HK.out.1 HK.out.2.1 hps (by
    have h1:=QrL key info t;have h2:=HK.out.2.2.2
    rw [Qe2,List.length_append,List.length_append];simp only [List.length_singleton];omega) (by decide))
   have hM : MACL key (pcat (three (tpc key info t) info [b]) 3) = tpc key info (t + 1):=by rw [Qe2,hbb];rfl
   rw [hM,hb] at A;have O2:=Qaa o2;rw [hb] at O2;clear hbk hbi hbv hbu hb hbb hm o1 o2 hps hM
   gi_wp2_with fail
   refine ⟨trivial,(fun h => by cases h),(callsIn_wide.2 A.out).mono ?_⟩;rintro e w2 ⟨r,rfl,own2,on2⟩;have hsz:=O2.out.size;have hs2:=on2.size;have hS:=HS.out;have b2 : Bs .u8 w2 r (tpc key info (t + 1)):=Bs.of_own (by rw [Qd7];exact own2)
   have lt2:=fun k hk => (own2.lt k hk)
   obtain ⟨ra,rc,er⟩:=Qaj own2;subst er
   obtain ⟨g,hg⟩ : ∃ g,ra = some ⟨g,0,none⟩:=by
    rcases own2.2 with ⟨_,h0⟩ | ⟨g,cap,cur,hv,_⟩
    ·cases h0
    ·simp at hv;exact ⟨g,hv.1⟩
   subst hg;have hgB:=lt2 g rfl;obtain ⟨fn,tmps,assign,body,hy,hR⟩:=HY.out t g rc w2 hlt (HJo.out _ _ _ HT.out (O2.out.same on2)) b2 (by omega);have HR:=Qaa hR;have H2:=Qaa (And.intro b2 (show B0 + 2 ≤ g by omega))
   have HS2 : Hid (B0 + 2 ≤ w2.heap.size):=by show _ ≤ _;omega
   clear own2 on2 A hR b2 lt2 hsz hs2 hS hgB hc1 hc2 HT HP HQ HS O2
   gi_wp2
   refine ⟨(fun h => by cases h),HR.out.mono ?_⟩;rintro e w3 (⟨rfl,hJ3,o3⟩ | ⟨rfl,hJ3⟩)
   ·have H3:=Qaa hJ3
    have N2:=Qaa (H2.out.1.keep o3 (fun k hk => by
     have h2:=H2.out.2;simp [Value.ownBlock] at hk
     omega))
    have N3 : Hid (∀ k,(Value.slice (some ⟨g,0,none⟩) 32 rc).ownBlock = some k → B0 + 2 ≤ k):=fun k hk => by
     have h2:=H2.out.2;simp [Value.ownBlock] at hk;omega
    have N4 : Hid (B0 + 2 ≤ w3.heap.size):=by
     have h1:=HS2.out;have h2:=o3.size
     show _ ≤ _
     omega
    clear HR hJ3 o3
    gi_wp2
    go_roundw
    case rel => exact ⟨t + 1,by omega,by go_num,H3,N2,N3,N4⟩
    case measure => simp [intOf];omega
   ·have H3:=Qaa hJ3
    clear HR hJ3
    gi_wp2
    refine bodyPost_ret (results_none rfl _ _ _) rfl ?_;exact ⟨⟨_,rfl⟩,.inr ⟨_,H3.out⟩⟩
  ·obtain rfl : t = 255:=by omega
   gi_wp2
   go_end0
   exact ⟨⟨_,rfl⟩,.inl HT.out⟩
end
end Go.Proofs.YtnhapmboienipaaGreatDoor
