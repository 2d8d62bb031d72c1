/- A range over a function that may be left by a return. -/
import Derived.Test.YtfoghkjlpdjmiaaRo
namespace Go.Proofs.Ytfoghkjlpdjmiaa
open Go.RowKit Go.Shelf

/-- how a round's body is left: off its end, or by a return -/
def goesOrReturns {σ : Type} (B : Nat) (I Ix : σ → World → Prop) (s : σ) (W : World) : Exit → Act → World → Prop
  | .normal, _, W' => Only (fun k => k < B) W W' ∧ I s W'
  | .ret, _, W' => Only (fun k => k < B) W W' ∧ Ix s W'
  | _, _, _ => False

theorem range_ret {σ α : Type} {P : Program} {n : Nat} {g : Operand} {ps : Array Tmp} {assign body : Code} {Q : Exit → Act → World → Prop} {a : Act} {w : World}
    {gf : Nat} {lb : Array Value} (hg : a.eval g = .func (.func gf) #[] lb) (eg : ∀ args w, (callFunc gf args).run P w = .ok (.enter gf args) w)
    (encs : α → Array Value) (hps : ∀ x, (encs x).size = ps.size) (I Ix : σ → World → Prop) (V : σ → α → σ → World → Prop) (s0 s1 : σ)
    (hI : ∀ s A B r, I s A → A.heap[w.heap.size + 1]? = some (.loop r) → Only (fun k => k = w.heap.size + 1) A B → I s B)
    (hIx : ∀ s A B r, Ix s A → A.heap[w.heap.size + 1]? = some (.loop r) → Only (fun k => k = w.heap.size + 1) A B → Ix s B)
    (hIn : ∀ s A B, I s A → Only (fun _ => False) A B → I s B)
    (hV : ∀ s x s' A B r, V s x s' A → A.heap[w.heap.size + 1]? = some (.loop r) → Only (fun k => k = w.heap.size + 1) A B → V s x s' B)
    (h0 : I s0 w)
    (hit : ∀ (J Jx : σ → World → Prop) (W : World), (∀ s A, J s A → I s A) → (∀ s A B, J s A → Only (fun _ => False) A B → J s B) →
      (∀ s x s' A, J s A → V s x s' A → YieldAt Fence.wide (n - 1 - 1) P (w.heap.size + 1) (encs x) A fun e B =>
        (e = .returned (.bool true) ∧ J s' B ∧ Only (fun k => k < w.heap.size ∨ k = w.heap.size + 1) A B) ∨ (e = .returned (.bool false) ∧ Jx s' B)) → J s0 W → w.heap.size + 2 ≤ W.heap.size →
      CallsIn Fence.wide (n - 1) P gf (#[.func (.yield (w.heap.size + 1)) #[] #[]] ++ lb) W fun e B => (∃ v, e = .returned v) ∧ (J s1 B ∨ ∃ s, Jx s B))
    (a₁ : α → Act)
    (hassign : ∀ (x : α) (W : World) (K : Act → World → Prop), K (a₁ x) W →
      assign.wpIn (Fence.wide.inRound (w.heap.size + 1)) (n - 1 - 1) P (Exit.then K (fun _ _ _ => False)) { tmps := (ps.zip (encs x)).foldl (fun t (p, v) => t.setIfInBounds p v) a.tmps, defers := [] } W)
    (hbody : ∀ (s : σ) (x : α) (s' : σ) (W : World), I s W → V s x s' W → body.wpIn (Fence.wide.inRound (w.heap.size + 1)) (n - 1 - 1) P (goesOrReturns w.heap.size I Ix s' W) (a₁ x) W)
    (hdone : ∀ (W : World), I s1 W → W.heap[w.heap.size]? = some (.deferred (some [])) → Q .normal { a with defers := { target := .collected w.heap.size, args := #[] } :: a.defers } W)
    (hstop : ∀ (s : σ) (W : World), Ix s W → W.heap[w.heap.size]? = some (.deferred (some [])) → Code.ret.wpIn Fence.wide n P Q { a with defers := { target := .collected w.heap.size, args := #[] } :: a.defers } W) :
    (Code.rangeFunc g ps assign body).wpIn Fence.wide n P Q a w := by
  refine wpIn_rangeFunc fun fn hfn => ?_
  obtain ⟨rc, hrc⟩ : ∃ rc : LoopState → Option Code → Loop, rc = fun st pe => { state := st, pending := pe, fn, tmps := a.tmps, params := ps, assign, body, defers := w.heap.size } := ⟨_, rfl⟩
  obtain ⟨W1, hW1⟩ : ∃ W1, (w.alloc (.deferred (some []))).alloc (.loop (rc .ready none)) = W1 := ⟨_, rfl⟩
  have hL : W1.heap[w.heap.size + 1]? = some (.loop (rc .ready none)) := by
    have := World.alloc_heap_new (w.alloc (.deferred (some []))) (.loop (rc .ready none))
    rw [World.size_alloc, hW1] at this
    exact this
  have hD : W1.heap[w.heap.size]? = some (.deferred (some [])) := by
    rw [← hW1]
    exact (Below.heap_alloc _ _ _ (by simp)).trans (World.alloc_heap_new w _)
  have hO : Only (fun _ => False) w W1 := by
    rw [← hW1]
    exact ((Only.refl _ w).alloc _).alloc _
  have hS1 : w.heap.size + 2 ≤ W1.heap.size := by rw [← hW1]; simp
  refine ⟨w.heap.size + 1, [{ target := .collected w.heap.size, args := #[] }], W1, { target := .fn (.func gf) lb, args := #[.func (.yield (w.heap.size + 1)) #[] #[]] }, W1, gf, #[.func (.yield (w.heap.size + 1)) #[] #[]] ++ lb, W1, ?_, ?_, fun _ _ => trivial, ?_, (fun h => by cases h), ?_⟩
  · rw [← hW1, hrc]
    exact run_enterLoop_outer _ _ _ _ _
  · simp only [resolve, hg]
    simp [go_sem]
  · simp [invoke, go_sem, eg]
  refine (hit (fun s W => I s W ∧ W.heap[w.heap.size + 1]? = some (.loop (rc .ready none)) ∧ W.heap[w.heap.size]? = some (.deferred (some [])))
    (fun s W => Ix s W ∧ W.heap[w.heap.size + 1]? = some (.loop (rc .done (some .ret))) ∧ W.heap[w.heap.size]? = some (.deferred (some []))) W1 (fun _ _ h => h.1)
    (fun s A B h o => ⟨hIn s A B h.1 o, o.heap h.2.1 (fun f => f), o.heap h.2.2 (fun f => f)⟩) ?_ ⟨hIn _ _ _ h0 hO, hL, hD⟩ hS1).mono ?_
  · rintro s x s' A ⟨hi, hl, hd⟩ hv
    have hlt : w.heap.size + 1 < A.heap.size := (Array.getElem?_eq_some_iff.1 hl).1
    have hy := run_yield (P := P) (args := encs x) hl (by rw [hrc]; exact hps x)
    rw [hrc] at hy
    refine ⟨fn, _, assign, body, hy, roundIn_of_wpIn hfn (hassign x A _ ⟨_, run_beginRound hl (by rw [hrc]), ?_⟩)⟩
    obtain ⟨A2, hA2⟩ : ∃ A2, A.putObj (w.heap.size + 1) (.loop { rc .ready none with state := .busy }) = A2 := ⟨_, rfl⟩
    have o2 : Only (fun k => k = w.heap.size + 1) A A2 := by rw [← hA2]; exact (Only.refl _ A).putObj _ _ (fun _ => rfl)
    have l2 : A2.heap[w.heap.size + 1]? = some (.loop { rc .ready none with state := .busy }) := by rw [← hA2]; exact World.putObj_heap_same hlt
    have d2 : A2.heap[w.heap.size]? = some (.deferred (some [])) := o2.heap hd (by omega)
    rw [hA2]
    refine wpIn_mono (hbody s x s' A2 (hI s A A2 _ hi hl o2) (hV s x s' A A2 _ hv hl o2)) ?_
    intro ex a3 A3 h
    cases ex
    case normal =>
      obtain ⟨o3, i3⟩ := h
      have l3 := o3.heap l2 (by omega)
      have d3 := o3.heap d2 (by omega)
      have hr := run_endRound (P := P) none l3
      have h4 : A3.putObj (w.heap.size + 1) (.loop (rc .ready none)) = A3.putObj (w.heap.size + 1) (.loop { rc .ready none with state := if (none : Option Code).isNone then .ready else .done, pending := none }) := by rw [hrc]; rfl
      have o4 : Only (fun k => k = w.heap.size + 1) A3 (A3.putObj (w.heap.size + 1) (.loop (rc .ready none))) := (Only.refl _ A3).putObj _ _ (fun _ => rfl)
      refine ⟨_, _, hr, .inl ⟨rfl, ?_⟩⟩
      have h5 : (I s' (A3.putObj (w.heap.size + 1) (.loop (rc .ready none))) ∧ (A3.putObj (w.heap.size + 1) (.loop (rc .ready none))).heap[w.heap.size + 1]? = some (.loop (rc .ready none)) ∧ (A3.putObj (w.heap.size + 1) (.loop (rc .ready none))).heap[w.heap.size]? = some (.deferred (some []))) ∧
          Only (fun k => k < w.heap.size ∨ k = w.heap.size + 1) A (A3.putObj (w.heap.size + 1) (.loop (rc .ready none))) :=
        ⟨⟨hI s' A3 _ _ i3 l3 o4, World.putObj_heap_same (Array.getElem?_eq_some_iff.1 l3).1, o4.heap d3 (by omega)⟩,
          ((o2.mono (T := fun k => k < w.heap.size ∨ k = w.heap.size + 1) (fun _ _ e => .inr e)).trans o3 (fun _ _ e => .inl e)).trans o4 (fun _ _ e => .inr e)⟩
      rw [h4] at h5
      exact h5
    case ret =>
      obtain ⟨o3, i3⟩ := h
      have l3 := o3.heap l2 (by omega)
      have d3 := o3.heap d2 (by omega)
      have hr := run_endRound (P := P) (some .ret) l3
      have h4 : A3.putObj (w.heap.size + 1) (.loop (rc .done (some .ret))) = A3.putObj (w.heap.size + 1) (.loop { rc .ready none with state := if (some Code.ret : Option Code).isNone then .ready else .done, pending := some .ret }) := by rw [hrc]; rfl
      have o4 : Only (fun k => k = w.heap.size + 1) A3 (A3.putObj (w.heap.size + 1) (.loop (rc .done (some .ret)))) := (Only.refl _ A3).putObj _ _ (fun _ => rfl)
      refine ⟨_, _, hr, .inr ⟨rfl, ?_⟩⟩
      have h5 : Ix s' (A3.putObj (w.heap.size + 1) (.loop (rc .done (some .ret)))) ∧ (A3.putObj (w.heap.size + 1) (.loop (rc .done (some .ret)))).heap[w.heap.size + 1]? = some (.loop (rc .done (some .ret))) ∧ (A3.putObj (w.heap.size + 1) (.loop (rc .done (some .ret)))).heap[w.heap.size]? = some (.deferred (some [])) :=
        ⟨hIx s' A3 _ _ i3 l3 o4, World.putObj_heap_same (Array.getElem?_eq_some_iff.1 l3).1, o4.heap d3 (by omega)⟩
      rw [h4] at h5
      exact h5
    all_goals exact h.elim
  · rintro e A ⟨⟨v, rfl⟩, ⟨hi, hl, hd⟩ | ⟨s, hi, hl, hd⟩⟩
    · have hr := run_endLoop (P := P) hl (by rw [hrc]; simp)
      have hp : (rc .ready none).pending = none := by rw [hrc]
      refine ⟨none, _, by rw [hr, hp], hdone _ (hI _ _ _ _ hi hl ((Only.refl _ A).putObj _ _ (fun _ => rfl))) ?_⟩
      exact (World.putObj_heap_other (by omega)).trans hd
    · have hr := run_endLoop (P := P) hl (by rw [hrc]; simp)
      have hp : (rc .done (some .ret)).pending = some .ret := by rw [hrc]
      refine ⟨some .ret, _, by rw [hr, hp], hstop s _ (hIx _ _ _ _ hi hl ((Only.refl _ A).putObj _ _ (fun _ => rfl))) ?_⟩
      exact (World.putObj_heap_other (by omega)).trans hd
end Go.Proofs.Ytfoghkjlpdjmiaa
