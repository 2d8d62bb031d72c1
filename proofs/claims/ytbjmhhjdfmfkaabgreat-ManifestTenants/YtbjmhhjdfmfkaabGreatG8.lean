/- Several texts in one: Pc, Lx, Mn, Me, Tx, Lxs, Mp. -/
import Derived.Test.YtbjmhhjdfmfkaabGreatG7
import Derived.Test.YtbjmhhjdfmfkaabGreatG1
import Derived.Test.YtbjmhhjdfmfkaabGreatG3
import Derived.Deep.SlicePairs
import Derived.OpenShut
import Derived.Lib.SmallJoins
import Derived.Laws.Strings
import Derived.Sort.KeysCollected
import Derived.Sort.Walk0
import Derived.Maps.OwnSet
import Derived.Maps.OwnOps

/- What is read one piece behind the other, and what is written: plain facts, no program is named here. -/
namespace Go.Proofs.YtbjmhhjdfmfkaabGreat

/-- what a reading tells: why there is nothing, or something and the bytes behind it -/
abbrev RDG (α : Type) := List Int → Except Int (α × List Int)
/-- a reading, a writing, and what may be written: there and back; one way alone; cut off it is too short -/
structure PC {α : Type} (rd : RDG α) (wr : α → List Int) (good : α → Prop) : Prop where
  back : ∀ x t, good x → rd (wr x ++ t) = .ok (x, t)
  only : ∀ ys x t, U8 ys → rd ys = .ok (x, t) → good x ∧ ys = wr x ++ t
  cut : ∀ x k, good x → k < (wr x).length → rd ((wr x).take k) = .error 2
/-- one behind the other -/
def rdThen {α β : Type} (r1 : RDG α) (r2 : α → RDG β) : RDG (α × β) := fun ys => match r1 ys with
  | .error e => .error e
  | .ok (x, t) => match r2 x t with
    | .error e => .error e
    | .ok (y, t') => .ok ((x, y), t')
theorem PC.then' {α β : Type} {r1 : RDG α} {w1 : α → List Int} {g1 : α → Prop} {r2 : α → RDG β} {w2 : α → β → List Int} {g2 : α → β → Prop} (h1 : PC r1 w1 g1) (h2 : ∀ x, g1 x → PC (r2 x) (w2 x) (g2 x)) :
    PC (rdThen r1 r2) (fun p => w1 p.1 ++ w2 p.1 p.2) (fun p => g1 p.1 ∧ g2 p.1 p.2) := by
  refine ⟨?_, ?_, ?_⟩
  · rintro ⟨x, y⟩ t ⟨hx, hy⟩
    simp only [rdThen]
    rw [List.append_assoc, h1.back x _ hx]
    simp only
    rw [(h2 x hx).back y t hy]
  · rintro ys ⟨x, y⟩ t h8 h
    simp only [rdThen] at h
    cases e1 : r1 ys with
    | error e => rw [e1] at h; cases h
    | ok p =>
      obtain ⟨x', t1⟩ := p
      rw [e1] at h
      simp only at h
      cases e2 : r2 x' t1 with
      | error e => rw [e2] at h; cases h
      | ok p =>
        obtain ⟨y', t2⟩ := p
        rw [e2] at h
        simp only [Except.ok.injEq, Prod.mk.injEq] at h
        obtain ⟨⟨rfl, rfl⟩, rfl⟩ := h
        obtain ⟨gx, hx⟩ := h1.only ys _ _ h8 e1
        have h8' : U8 t1 := fun z hz => h8 z (by rw [hx]; exact List.mem_append_right _ hz)
        obtain ⟨gy, hy⟩ := (h2 _ gx).only t1 _ _ h8' e2
        exact ⟨⟨gx, gy⟩, by simp only; rw [List.append_assoc, ← hy]; exact hx⟩
  · rintro ⟨x, y⟩ k ⟨hx, hy⟩ hk
    simp only at hk ⊢
    simp only [rdThen]
    by_cases hlt : k < (w1 x).length
    · rw [List.take_append_of_le_length (by omega), h1.cut x k hx hlt]
    · rw [List.take_append, List.take_of_length_le (by omega), h1.back x _ hx]
      simp only
      rw [(h2 x hx).cut y _ hy (by rw [List.length_append] at hk; omega)]
/-- what is read is asked -/
def rdNeed {α : Type} (r : RDG α) (c : α → Bool) (e : Int) : RDG α := fun ys => match r ys with
  | .error e => .error e
  | .ok (x, t) => if c x then .ok (x, t) else .error e
theorem PC.need {α : Type} {r : RDG α} {w : α → List Int} {g : α → Prop} (h : PC r w g) (c : α → Bool) (e : Int) : PC (rdNeed r c e) w (fun x => g x ∧ c x = true) := by
  refine ⟨?_, ?_, ?_⟩
  · rintro x t ⟨hx, hc⟩
    simp only [rdNeed]
    rw [h.back x t hx]
    simp only [hc, if_true]
  · rintro ys x t h8 k
    simp only [rdNeed] at k
    cases e1 : r ys with
    | error e => rw [e1] at k; cases k
    | ok p =>
      obtain ⟨x', t1⟩ := p
      rw [e1] at k
      simp only at k
      by_cases hc : c x' = true
      · rw [if_pos hc] at k
        simp only [Except.ok.injEq, Prod.mk.injEq] at k
        obtain ⟨rfl, rfl⟩ := k
        obtain ⟨gx, hx⟩ := h.only ys _ _ h8 e1
        exact ⟨⟨gx, hc⟩, hx⟩
      · rw [if_neg hc] at k; cases k
  · rintro x k ⟨hx, _⟩ hk
    simp only [rdNeed]
    rw [h.cut x k hx hk]
/-- so many times, what comes hanging on what was had -/
def rdRep {σ α : Type} (r : σ → RDG α) (nx : σ → α → σ) : Nat → σ → RDG (List α)
  | 0, _ => fun ys => .ok ([], ys)
  | n + 1, s => fun ys => match r s ys with
    | .error e => .error e
    | .ok (x, t) => match rdRep r nx n (nx s x) t with
      | .error e => .error e
      | .ok (l, t') => .ok (x :: l, t')
def goodRep {σ α : Type} (g : σ → α → Prop) (nx : σ → α → σ) : Nat → σ → List α → Prop
  | 0, _, l => l = []
  | _ + 1, _, [] => False
  | n + 1, s, x :: l => g s x ∧ goodRep g nx n (nx s x) l
theorem PC.rep {σ α : Type} {r : σ → RDG α} {w : α → List Int} {g : σ → α → Prop} (nx : σ → α → σ) (h : ∀ s, PC (r s) w (g s)) : ∀ (n : Nat) (s : σ), PC (rdRep r nx n s) (fun l => (l.map w).flatten) (goodRep g nx n s)
  | 0, s => by
    refine ⟨?_, ?_, ?_⟩
    · rintro x t rfl; rfl
    · rintro ys x t h8 k
      simp only [rdRep, Except.ok.injEq, Prod.mk.injEq] at k
      obtain ⟨rfl, rfl⟩ := k
      exact ⟨rfl, rfl⟩
    · rintro x k rfl hk
      simp at hk
  | n + 1, s => by
    have ih := fun s => PC.rep nx h n s
    refine ⟨?_, ?_, ?_⟩
    · rintro l t hl
      cases l with
      | nil => exact hl.elim
      | cons x l =>
        simp only [rdRep, List.map_cons, List.flatten_cons]
        rw [List.append_assoc, (h s).back x _ hl.1]
        simp only
        rw [(ih _).back l t hl.2]
    · rintro ys l t h8 k
      simp only [rdRep] at k
      cases e1 : r s ys with
      | error e => rw [e1] at k; cases k
      | ok p =>
        obtain ⟨x, t1⟩ := p
        rw [e1] at k
        simp only at k
        cases e2 : rdRep r nx n (nx s x) t1 with
        | error e => rw [e2] at k; cases k
        | ok p =>
          obtain ⟨l', t2⟩ := p
          rw [e2] at k
          simp only [Except.ok.injEq, Prod.mk.injEq] at k
          obtain ⟨rfl, rfl⟩ := k
          obtain ⟨gx, hx⟩ := (h s).only ys _ _ h8 e1
          have h8' : U8 t1 := fun z hz => h8 z (by rw [hx]; exact List.mem_append_right _ hz)
          obtain ⟨gl, hl⟩ := (ih _).only t1 _ _ h8' e2
          refine ⟨⟨gx, gl⟩, ?_⟩
          simp only [List.map_cons, List.flatten_cons]
          rw [List.append_assoc, ← hl]; exact hx
    · rintro l k hl hk
      cases l with
      | nil => exact hl.elim
      | cons x l =>
        simp only [List.map_cons, List.flatten_cons] at hk ⊢
        simp only [rdRep]
        by_cases hlt : k < (w x).length
        · rw [List.take_append_of_le_length (by omega), (h s).cut x k hl.1 hlt]
        · rw [List.take_append, List.take_of_length_le (by omega), (h s).back x _ hl.1]
          simp only
          rw [(ih _).cut l _ hl.2 (by rw [List.length_append] at hk; omega)]
/-- so many bytes -/
def rdB (n : Nat) : RDG (List Int) := fun ys => if ys.length < n then .error 2 else .ok (ys.take n, ys.drop n)
theorem PC.bytes (n : Nat) : PC (rdB n) (fun x => x) (fun x => x.length = n ∧ U8 x) := by
  refine ⟨?_, ?_, ?_⟩
  · rintro x t ⟨rfl, _⟩
    simp only [rdB]
    rw [if_neg (by rw [List.length_append]; omega), List.take_left, List.drop_left]
  · rintro ys x t h8 k
    simp only [rdB] at k
    by_cases h : ys.length < n
    · rw [if_pos h] at k; cases k
    · rw [if_neg h] at k
      simp only [Except.ok.injEq, Prod.mk.injEq] at k
      obtain ⟨rfl, rfl⟩ := k
      exact ⟨⟨by rw [List.length_take]; omega, h8.take _⟩, (List.take_append_drop _ _).symm⟩
  · rintro x k ⟨rfl, _⟩ hk
    simp only [rdB]
    rw [if_pos (by rw [List.length_take]; omega)]
/-- a varint -/
def rdV : RDG Nat := fun ys => if (sVarint ys).2.2 = 0 then .ok ((sVarint ys).1.toNat, ys.drop (sVarint ys).2.1) else .error (sVarint ys).2.2
theorem PC.varint : PC rdV gs (fun v => v < 18446744073709551616) := by
  refine ⟨?_, ?_, ?_⟩
  · intro v t hv
    simp only [rdV]
    rw [sVarint_gs v t hv]
    simp
  · intro ys x t h8 k
    simp only [rdV] at k
    rcases sVarint_cases h8 with ⟨c, h, hc⟩ | ⟨a, j, h, h1, h2, h3, h4⟩
    · rw [h] at k
      rw [if_neg (by simp only; omega)] at k; cases k
    · rw [h] at k
      simp only [if_true, Int.toNat_natCast, Except.ok.injEq, Prod.mk.injEq] at k
      obtain ⟨rfl, rfl⟩ := k
      exact ⟨h3, h4⟩
  · intro v k hv hk
    simp only [rdV]
    rw [sVarint_short v k hv hk]
    rfl
/-- a block of at most so many -/
def rdK (n : Nat) : RDG (List Int) := fun ys => if (sBlock n ys).2.2 = 0 then .ok ((sBlock n ys).1, ys.drop (sBlock n ys).2.1) else .error (sBlock n ys).2.2
theorem PC.block (n : Nat) (hn : n ≤ 1000000) : PC (rdK n) blk (fun x => x.length ≤ n ∧ U8 x) := by
  refine ⟨?_, ?_, ?_⟩
  · rintro x t ⟨hx, _⟩
    simp only [rdK]
    rw [sBlk_back x t n (by omega) (by omega)]
    simp
  · intro ys x t h8 k
    simp only [rdK] at k
    rcases sBlk_cases (n := (n : Int)) h8 (by omega) (by omega) with ⟨c, h, hc⟩ | ⟨b, j, h, h1, h2, _, h4, _⟩
    · rw [h] at k
      rw [if_neg (by simp only; omega)] at k; cases k
    · rw [h] at k
      simp only [if_true, Except.ok.injEq, Prod.mk.injEq] at k
      obtain ⟨rfl, rfl⟩ := k
      exact ⟨⟨by omega, fun y hy => h8 y (by rw [h4]; exact List.mem_append_left _ (List.mem_append_right _ hy))⟩, h4⟩
  · rintro x k ⟨hx, _⟩ hk
    simp only [rdK]
    rw [sBlk_cut x k n (by omega) (by omega) hk]
    rfl
/-- read by another word -/
def rdAs {α β : Type} (r : RDG α) (f : α → β) : RDG β := fun ys => match r ys with
  | .error e => .error e
  | .ok (x, t) => .ok (f x, t)
theorem PC.as {α β : Type} {r : RDG α} {w : α → List Int} {g : α → Prop} (h : PC r w g) (f : α → β) (f' : β → α) (w' : β → List Int) (g' : β → Prop) (h1 : ∀ x, g x → f' (f x) = x) (h2 : ∀ y, g' y → g (f' y) ∧ f (f' y) = y ∧ w (f' y) = w' y) (h3 : ∀ x, g x → g' (f x)) :
    PC (rdAs r f) w' g' := by
  refine ⟨?_, ?_, ?_⟩
  · intro y t hy
    obtain ⟨k1, k2, k3⟩ := h2 y hy
    simp only [rdAs]
    rw [← k3, h.back _ t k1]
    simp only [k2]
  · intro ys y t h8 k
    simp only [rdAs] at k
    cases e1 : r ys with
    | error e => rw [e1] at k; cases k
    | ok p =>
      obtain ⟨x, t1⟩ := p
      rw [e1] at k
      simp only [Except.ok.injEq, Prod.mk.injEq] at k
      obtain ⟨rfl, rfl⟩ := k
      obtain ⟨gx, hx⟩ := h.only ys _ _ h8 e1
      refine ⟨h3 x gx, ?_⟩
      have := (h2 (f x) (h3 x gx)).2.2
      rw [h1 x gx] at this
      rw [← this]; exact hx
  · intro y k hy hk
    obtain ⟨k1, k2, k3⟩ := h2 y hy
    rw [← k3] at hk ⊢
    simp only [rdAs]
    rw [h.cut _ k k1 hk]
end Go.Proofs.YtbjmhhjdfmfkaabGreat

/- Texts in order, byte by byte; a list that rises; the texts of a list, each once, rising: plain facts, no program is named here. -/
namespace Go.Proofs.YtbjmhhjdfmfkaabGreat

/-- is x ahead of y, byte by byte? -/
def lexB : List Int → List Int → Bool
  | _, [] => false
  | [], _ :: _ => true
  | a :: x, b :: y => decide (a < b) || (decide (a = b) && lexB x y)
theorem lexB_irrefl (x : List Int) : lexB x x = false := by
  induction x with
  | nil => rfl
  | cons a x ih => simp [lexB, ih]
theorem lexB_trans : ∀ {x y z : List Int}, lexB x y = true → lexB y z = true → lexB x z = true
  | _, [], _, h, _ => by cases ‹List Int› <;> simp [lexB] at h
  | _, _ :: _, [], _, h => by simp [lexB] at h
  | [], _ :: _, _ :: _, _, _ => rfl
  | a :: x, b :: y, c :: z, h1, h2 => by
    simp only [lexB, Bool.or_eq_true, Bool.and_eq_true, decide_eq_true_eq] at h1 h2 ⊢
    rcases h1 with h1 | ⟨h1, k1⟩ <;> rcases h2 with h2 | ⟨h2, k2⟩
    · exact .inl (by omega)
    · exact .inl (by omega)
    · exact .inl (by omega)
    · exact .inr ⟨by omega, lexB_trans k1 k2⟩
theorem lexB_total : ∀ (x y : List Int), x = y ∨ lexB x y = true ∨ lexB y x = true
  | [], [] => .inl rfl
  | [], _ :: _ => .inr (.inl rfl)
  | _ :: _, [] => .inr (.inr rfl)
  | a :: x, b :: y => by
    simp only [lexB, Bool.or_eq_true, Bool.and_eq_true, decide_eq_true_eq, List.cons.injEq]
    rcases (show a < b ∨ a = b ∨ b < a by omega) with h | h | h
    · exact .inr (.inl (.inl h))
    · rcases lexB_total x y with k | k | k
      · exact .inl ⟨h, k⟩
      · exact .inr (.inl (.inr ⟨h, k⟩))
      · exact .inr (.inr (.inr ⟨h.symm, k⟩))
    · exact .inr (.inr (.inl h))
theorem lexB_ne {x y : List Int} (h : lexB x y = true) : x ≠ y := fun e => by rw [e, lexB_irrefl] at h; cases h
theorem lexB_asym {x y : List Int} (h : lexB x y = true) : lexB y x = false := by
  cases k : lexB y x with
  | false => rfl
  | true => have := lexB_trans h k; rw [lexB_irrefl] at this; exact this.symm
/-- each is ahead of those behind it -/
def RIS (l : List (List Int)) : Prop := l.Pairwise fun x y => lexB x y = true
theorem RIS.nodup {l : List (List Int)} (h : RIS l) : l.Nodup := List.Pairwise.imp (fun k => lexB_ne k) h
/-- two that rise and have the same in them are the same -/
theorem RIS.same : ∀ {a b : List (List Int)}, RIS a → RIS b → (∀ x, x ∈ a ↔ x ∈ b) → a = b
  | [], [], _, _, _ => rfl
  | [], y :: b, _, _, h => by have := (h y).2 (by simp); simp at this
  | x :: a, [], _, _, h => by have := (h x).1 (by simp); simp at this
  | x :: a, y :: b, ha, hb, h => by
    have ha' := List.pairwise_cons.1 ha
    have hb' := List.pairwise_cons.1 hb
    have exy : x = y := by
      have h1 := (h x).1 (by simp)
      have h2 := (h y).2 (by simp)
      rw [List.mem_cons] at h1 h2
      rcases h1 with h1 | h1
      · exact h1
      · rcases h2 with h2 | h2
        · exact h2.symm
        · have k1 := hb'.1 x h1
          have k2 := ha'.1 y h2
          rw [lexB_asym k1] at k2; cases k2
    subst exy
    congr 1
    refine RIS.same ha'.2 hb'.2 (fun z => ⟨fun hz => ?_, fun hz => ?_⟩)
    · rcases List.mem_cons.1 ((h z).1 (List.mem_cons_of_mem _ hz)) with e | e
      · exact absurd e.symm (lexB_ne (ha'.1 z hz))
      · exact e
    · rcases List.mem_cons.1 ((h z).2 (List.mem_cons_of_mem _ hz)) with e | e
      · exact absurd e.symm (lexB_ne (hb'.1 z hz))
      · exact e
/-- x put in its place, if it is not there -/
def insT (x : List Int) : List (List Int) → List (List Int)
  | [] => [x]
  | y :: l => if lexB y x then y :: insT x l else if y = x then y :: l else x :: y :: l
theorem mem_insT (x z : List Int) : ∀ l, z ∈ insT x l ↔ z = x ∨ z ∈ l
  | [] => by simp [insT]
  | y :: l => by
    have ih := mem_insT x z l
    unfold insT
    by_cases h : lexB y x = true
    · rw [if_pos h, List.mem_cons, ih, List.mem_cons]
      exact ⟨fun k => by rcases k with k | k | k <;> simp [k], fun k => by rcases k with k | k | k <;> simp [k]⟩
    · rw [if_neg h]
      by_cases e : y = x
      · rw [if_pos e]; subst e
        simp
      · rw [if_neg e]; simp
theorem ris_insT (x : List Int) : ∀ l, RIS l → RIS (insT x l)
  | [], _ => List.pairwise_singleton _ _
  | y :: l, hr => by
    have h' := List.pairwise_cons.1 hr
    unfold insT
    by_cases h : lexB y x = true
    · rw [if_pos h]
      refine List.pairwise_cons.2 ⟨fun z hz => ?_, ris_insT x l h'.2⟩
      rcases (mem_insT x z l).1 hz with rfl | k
      · exact h
      · exact h'.1 z k
    · rw [if_neg h]
      by_cases e : y = x
      · rw [if_pos e]; exact hr
      · rw [if_neg e]
        refine List.pairwise_cons.2 ⟨fun z hz => ?_, hr⟩
        have hxy : lexB x y = true := by
          rcases lexB_total x y with k | k | k
          · exact absurd k.symm e
          · exact k
          · exact absurd k h
        rcases List.mem_cons.1 hz with rfl | k
        · exact hxy
        · exact lexB_trans hxy (h'.1 z k)
/-- the texts of a list, each once, rising -/
def TEN : List (List Int) → List (List Int)
  | [] => []
  | x :: l => insT x (TEN l)
theorem mem_TEN (z : List Int) : ∀ l, z ∈ TEN l ↔ z ∈ l
  | [] => by simp [TEN]
  | x :: l => by rw [TEN, mem_insT, mem_TEN z l, List.mem_cons]
theorem ris_TEN : ∀ l, RIS (TEN l)
  | [] => List.Pairwise.nil
  | x :: l => ris_insT x _ (ris_TEN l)
/-- what rises and has just these in it are they -/
theorem TEN_only {l t : List (List Int)} (hr : RIS t) (h : ∀ x, x ∈ t ↔ x ∈ l) : t = TEN l := RIS.same hr (ris_TEN l) (fun x => (h x).trans (mem_TEN x l).symm)
theorem TEN_len (l : List (List Int)) : (TEN l).length ≤ l.length := by
  have h : ∀ (x : List Int) t, (insT x t).length ≤ t.length + 1 := by
    intro x t
    induction t with
    | nil => simp [insT]
    | cons y t ih =>
      unfold insT
      split
      · simp only [List.length_cons]; omega
      · split <;> simp
  induction l with
  | nil => simp [TEN]
  | cons x l ih => rw [TEN, List.length_cons]; have := h x (TEN l); omega
/-- a text's place -/
def PLC (l : List (List Int)) (x : List Int) : Nat := l.idxOf x
theorem PLC_lt {l : List (List Int)} {x : List Int} (h : x ∈ l) : PLC l x < l.length := List.idxOf_lt_length_of_mem h
theorem PLC_at {l : List (List Int)} {x : List Int} (h : x ∈ l) : l.getD (PLC l x) [] = x := by
  rw [List.getD_eq_getElem?_getD, List.getElem?_eq_getElem (PLC_lt h)]
  exact List.getElem_idxOf (PLC_lt h)
theorem PLC_of {l : List (List Int)} (hr : RIS l) {i : Nat} (hi : i < l.length) : PLC l (l.getD i []) = i := by
  rw [List.getD_eq_getElem?_getD, List.getElem?_eq_getElem hi]
  exact List.Nodup.idxOf_getElem hr.nodup i hi
/-- one more at the end: it must be behind the last one -/
def behind (l : List (List Int)) (x : List Int) : Bool := match l.getLast? with
  | none => true
  | some y => lexB y x
theorem RIS.snoc {l : List (List Int)} {x : List Int} (h : RIS l) (hb : behind l x = true) : RIS (l ++ [x]) := by
  refine List.pairwise_append.2 ⟨h, List.pairwise_singleton _ _, fun a ha b hb' => ?_⟩
  rw [List.mem_singleton] at hb'
  subst hb'
  have hne : l ≠ [] := fun e => by subst e; simp at ha
  obtain ⟨t, y, rfl⟩ : ∃ t y, l = t ++ [y] := ⟨l.dropLast, l.getLast hne, (List.dropLast_concat_getLast hne).symm⟩
  simp [behind] at hb
  rcases List.mem_append.1 ha with k | k
  · exact lexB_trans ((List.pairwise_append.1 h).2.2 a k y (by simp)) hb
  · rw [List.mem_singleton] at k
    subst k; exact hb
theorem RIS.last {l : List (List Int)} {x : List Int} (h : RIS (l ++ [x])) : RIS l ∧ behind l x = true := by
  have h' := List.pairwise_append.1 h
  refine ⟨h'.1, ?_⟩
  by_cases hne : l = []
  · subst hne; rfl
  · obtain ⟨t, y, rfl⟩ : ∃ t y, l = t ++ [y] := ⟨l.dropLast, l.getLast hne, (List.dropLast_concat_getLast hne).symm⟩
    simp [behind]
    exact h'.2.2 y (by simp) x (by simp)
/-- where x is put: behind the k that are ahead of it -/
theorem insT_at (x : List Int) : ∀ (l : List (List Int)) (k : Nat), k ≤ l.length → (∀ j, j < k → lexB (l.getD j []) x = true) → (k < l.length → lexB (l.getD k []) x = false) →
    insT x l = if k < l.length ∧ l.getD k [] = x then l else l.take k ++ x :: l.drop k
  | [], k, hk, _, _ => by
    obtain rfl : k = 0 := by simpa using hk
    simp [insT]
  | y :: l, 0, _, _, h2 => by
    have h := h2 (by simp)
    simp only [List.getD_cons_zero] at h ⊢
    unfold insT
    rw [if_neg (by rw [h]; simp)]
    by_cases e : y = x
    · rw [if_pos e, if_pos ⟨by simp, e⟩]
    · rw [if_neg e, if_neg (fun c => e c.2)]; rfl
  | y :: l, k + 1, hk, h1, h2 => by
    have h0 := h1 0 (by omega)
    simp only [List.getD_cons_zero] at h0
    have ih := insT_at x l k (by simpa using hk) (fun j hj => by have := h1 (j + 1) (by omega); simpa using this) (fun hk' => by have := h2 (by simpa using hk'); simpa using this)
    unfold insT
    rw [if_pos h0, ih]
    by_cases c : k < l.length ∧ l.getD k [] = x
    · rw [if_pos c, if_pos ⟨by simpa using c.1, by simpa using c.2⟩]
    · rw [if_neg c, if_neg (fun c' => c ⟨by simpa using c'.1, by simpa using c'.2⟩)]
      simp
/-- one more at the end of the list -/
theorem TEN_snoc (l : List (List Int)) (x : List Int) : TEN (l ++ [x]) = insT x (TEN l) := by
  symm
  refine TEN_only (ris_insT x _ (ris_TEN l)) (fun z => ?_)
  rw [mem_insT, mem_TEN, List.mem_append, List.mem_singleton, or_comm]
end Go.Proofs.YtbjmhhjdfmfkaabGreat

/- A manifest as a list of bytes: what is written, what is read: plain facts, no program is named here. -/
namespace Go.Proofs.YtbjmhhjdfmfkaabGreat

theorem fix_num : ∀ (x : List Int), U8 x → fixL (num x : Int) x.length = x := by
  intro x
  induction h : x.length generalizing x with
  | zero =>
    intro _
    have : x = [] := List.eq_nil_of_length_eq_zero h
    subst this; rfl
  | succ n ih =>
    intro h8
    have hne : x ≠ [] := by intro h0; subst h0; simp at h
    obtain ⟨t, b, rfl⟩ : ∃ t b, x = t ++ [b] := ⟨x.dropLast, x.getLast hne, (List.dropLast_concat_getLast hne).symm⟩
    have hl : t.length = n := by simpa using h
    have hb := h8 b (by simp)
    have e := ih t hl (fun y hy => h8 y (by simp [hy]))
    rw [num_snoc, fixL_next, show (((256 * num t + b.toNat : Nat) : Int) / 256) = (num t : Int) by omega, e]
    congr 2
    unfold fixB
    simp only [Nat.mul_zero, Int.pow_zero]
    omega
/-- what an archive says of itself -/
structure MAN where
  ver : Nat
  prev : List Int
  es : List (List Int × Int)
  root : List Int
def MHD : List Int := [67, 83, 75, 49]
/-- its tenants -/
def MTN (m : MAN) : List (List Int) := TEN (m.es.map Prod.fst)
/-- may it be written? -/
def MGD (m : MAN) : Prop := m.ver < 18446744073709551615 ∧ (m.prev.length = 32 ∧ U8 m.prev) ∧ (m.root.length = 32 ∧ U8 m.root) ∧ m.es.length ≤ 1048576 ∧ ∀ e ∈ m.es, (e.1.length ≤ 64 ∧ U8 e.1) ∧ 0 ≤ e.2 ∧ e.2 ≤ 8
/-- an entry: the place of its tenant, its bucket -/
def MEN (l : List (List Int)) (e : List Int × Int) : List Int := gs (PLC l e.1) ++ [e.2]
def MENC (m : MAN) : List Int :=
  MHD ++ (fixL (m.ver : Int) 8 ++ (m.prev ++ (gs (MTN m).length ++ ((MTN m).map blk).flatten ++ (gs m.es.length ++ (m.es.map (MEN (MTN m))).flatten ++ m.root))))
/-! the readings -/
def rdHd : RDG (List Int) := rdNeed (rdB 4) (fun x => x == MHD) 3
def rdVer : RDG Nat := rdAs (rdNeed (rdB 8) (fun x => decide (num x ≠ 18446744073709551615)) 3) num
def rdMany : RDG Nat := rdNeed rdV (fun n => decide (n ≤ 1048576)) 4
def rdTn (acc : List (List Int)) : RDG (List Int) := rdNeed (rdK 64) (fun x => behind acc x) 3
def rdTns (n : Nat) (acc : List (List Int)) : RDG (List (List Int)) := rdRep rdTn (fun acc x => acc ++ [x]) n acc
def rdDir : RDG (Nat × List (List Int)) := rdThen rdMany (fun n => rdTns n [])
def rdEn (L : Nat) : RDG (Nat × List Int) := rdThen (rdNeed rdV (fun a => decide (a < L)) 3) (fun _ => rdNeed (rdB 1) (fun x => decide (x.getD 0 0 ≤ 8)) 3)
def rdEns (L n : Nat) : RDG (List (Nat × List Int)) := rdRep (fun _ : Unit => rdEn L) (fun s _ => s) n ()
def rdAll (L : Nat) : RDG (Nat × List (Nat × List Int)) := rdThen rdMany (fun n => rdEns L n)
def MRD : RDG (List Int × Nat × List Int × (Nat × List (List Int)) × (Nat × List (Nat × List Int)) × List Int) :=
  rdThen rdHd fun _ => rdThen rdVer fun _ => rdThen (rdB 32) fun _ => rdThen rdDir fun d => rdThen (rdAll d.2.length) fun _ => rdB 32
/-- is each place named? -/
def usedAll (L : Nat) (ts : List (Nat × List Int)) : Bool := (List.range L).all fun i => ts.any fun t => t.1 == i
def MOF (v : Nat) (p : List Int) (l : List (List Int)) (ts : List (Nat × List Int)) (r : List Int) : MAN := ⟨v, p, ts.map fun t => (l.getD t.1 [], t.2.getD 0 0), r⟩
def MDEC (b : List Int) : Except Int MAN := match MRD b with
  | .error e => .error e
  | .ok ((_, v, p, d, a, r), rest) => if rest = [] then (if usedAll d.2.length a.2 = true then .ok (MOF v p d.2 a.2 r) else .error 3) else .error 3
/-! each is a piece -/
theorem PC_hd : PC rdHd (fun x => x) (fun x => (x.length = 4 ∧ U8 x) ∧ (x == MHD) = true) := (PC.bytes 4).need _ 3
theorem PC_ver : PC rdVer (fun v => fixL (v : Int) 8) (fun v => v < 18446744073709551615) := by
  refine ((PC.bytes 8).need (fun x => decide (num x ≠ 18446744073709551615)) 3).as num (fun v => fixL (v : Int) 8) _ _ ?_ ?_ ?_
  · rintro x ⟨⟨hl, h8⟩, _⟩
    have := fix_num x h8
    rw [hl] at this; exact this
  · intro v hv
    have e := num_fix8 v (by omega)
    exact ⟨⟨⟨fixL_len _ _, fixL_range _ _⟩, decide_eq_true (by rw [e]; omega)⟩, e, rfl⟩
  · rintro x ⟨⟨hl, h8⟩, hc⟩
    have h1 := num_lt x h8
    rw [hl] at h1
    have h2 := of_decide_eq_true hc
    have h3 : (256 : Nat) ^ 8 = 18446744073709551616 := by decide
    omega
theorem PC_many : PC rdMany gs (fun n => n < 18446744073709551616 ∧ decide (n ≤ 1048576) = true) := PC.varint.need _ 4
theorem PC_tn (acc : List (List Int)) : PC (rdTn acc) blk (fun x => (x.length ≤ 64 ∧ U8 x) ∧ behind acc x = true) := (PC.block 64 (by decide)).need _ 3
theorem PC_tns (n : Nat) (acc : List (List Int)) : PC (rdTns n acc) (fun l => (l.map blk).flatten) (goodRep (fun acc x => (x.length ≤ 64 ∧ U8 x) ∧ behind acc x = true) (fun acc x => acc ++ [x]) n acc) := PC.rep _ PC_tn n acc
theorem tns_good : ∀ (l acc : List (List Int)), RIS acc → (goodRep (fun acc x => (x.length ≤ 64 ∧ U8 x) ∧ behind acc x = true) (fun acc x => acc ++ [x]) l.length acc l ↔ RIS (acc ++ l) ∧ ∀ x ∈ l, x.length ≤ 64 ∧ U8 x)
  | [], acc, h => by simp [goodRep, h]
  | x :: l, acc, h => by
    simp only [List.length_cons, goodRep]
    constructor
    · rintro ⟨⟨h1, h2⟩, h3⟩
      have k := (tns_good l (acc ++ [x]) (h.snoc h2)).1 h3
      rw [List.append_assoc] at k
      refine ⟨k.1, fun y hy => ?_⟩
      rcases List.mem_cons.1 hy with rfl | hy
      · exact h1
      · exact k.2 y hy
    · rintro ⟨h1, h2⟩
      have e : acc ++ x :: l = (acc ++ [x]) ++ l := by simp
      rw [e] at h1
      have k1 := (List.pairwise_append.1 h1).1
      have k2 := RIS.last k1
      exact ⟨⟨h2 x (by simp), k2.2⟩, (tns_good l (acc ++ [x]) k1).2 ⟨h1, fun y hy => h2 y (by simp [hy])⟩⟩
theorem rep_len {σ α : Type} {g : σ → α → Prop} {nx : σ → α → σ} : ∀ {n : Nat} {s : σ} {l : List α}, goodRep g nx n s l → l.length = n
  | 0, _, _, h => by cases h; rfl
  | n + 1, _, [], h => h.elim
  | n + 1, _, x :: l, h => by rw [List.length_cons, rep_len h.2]
theorem PC_en (L : Nat) : PC (rdEn L) (fun t => gs t.1 ++ t.2) (fun t => (t.1 < 18446744073709551616 ∧ decide (t.1 < L) = true) ∧ ((t.2.length = 1 ∧ U8 t.2) ∧ decide (t.2.getD 0 0 ≤ 8) = true)) :=
  (PC.varint.need _ 3).then' (fun _ _ => (PC.bytes 1).need _ 3)
theorem ens_good {g : Nat × List Int → Prop} : ∀ (ts : List (Nat × List Int)), goodRep (fun _ : Unit => g) (fun s _ => s) ts.length () ts ↔ ∀ t ∈ ts, g t
  | [] => by simp [goodRep]
  | t :: ts => by simp only [List.length_cons, goodRep, ens_good ts, List.forall_mem_cons]
abbrev GEN (L : Nat) (t : Nat × List Int) : Prop := (t.1 < 18446744073709551616 ∧ decide (t.1 < L) = true) ∧ ((t.2.length = 1 ∧ U8 t.2) ∧ decide (t.2.getD 0 0 ≤ 8) = true)
theorem PC_all (L : Nat) : PC (rdAll L) (fun a => gs a.1 ++ (a.2.map fun t => gs t.1 ++ t.2).flatten) (fun a => (a.1 < 18446744073709551616 ∧ decide (a.1 ≤ 1048576) = true) ∧ goodRep (fun _ : Unit => GEN L) (fun s _ => s) a.1 () a.2) :=
  PC_many.then' (fun n _ => PC.rep _ (fun _ => PC_en L) n ())
theorem PC_dir : PC rdDir (fun d => gs d.1 ++ (d.2.map blk).flatten) (fun d => (d.1 < 18446744073709551616 ∧ decide (d.1 ≤ 1048576) = true) ∧ goodRep (fun acc x => (x.length ≤ 64 ∧ U8 x) ∧ behind acc x = true) (fun acc x => acc ++ [x]) d.1 [] d.2) :=
  PC_many.then' (fun n _ => PC_tns n [])
abbrev MTP := List Int × Nat × List Int × (Nat × List (List Int)) × (Nat × List (Nat × List Int)) × List Int
def MWT (x : MTP) : List Int := x.1 ++ (fixL (x.2.1 : Int) 8 ++ (x.2.2.1 ++ ((gs x.2.2.2.1.1 ++ (x.2.2.2.1.2.map blk).flatten) ++ ((gs x.2.2.2.2.1.1 ++ (x.2.2.2.2.1.2.map fun t => gs t.1 ++ t.2).flatten) ++ x.2.2.2.2.2))))
def MGT (x : MTP) : Prop := ((x.1.length = 4 ∧ U8 x.1) ∧ (x.1 == MHD) = true) ∧ x.2.1 < 18446744073709551615 ∧ (x.2.2.1.length = 32 ∧ U8 x.2.2.1) ∧
  ((x.2.2.2.1.1 < 18446744073709551616 ∧ decide (x.2.2.2.1.1 ≤ 1048576) = true) ∧ goodRep (fun acc x => (x.length ≤ 64 ∧ U8 x) ∧ behind acc x = true) (fun acc x => acc ++ [x]) x.2.2.2.1.1 [] x.2.2.2.1.2) ∧
  ((x.2.2.2.2.1.1 < 18446744073709551616 ∧ decide (x.2.2.2.2.1.1 ≤ 1048576) = true) ∧ goodRep (fun _ : Unit => GEN x.2.2.2.1.2.length) (fun s _ => s) x.2.2.2.2.1.1 () x.2.2.2.2.1.2) ∧ (x.2.2.2.2.2.length = 32 ∧ U8 x.2.2.2.2.2)
theorem PC_man : PC MRD MWT MGT := PC_hd.then' fun _ _ => PC_ver.then' fun _ _ => (PC.bytes 32).then' fun _ _ => PC_dir.then' fun d _ => (PC_all d.2.length).then' fun _ _ => PC.bytes 32
/-- a manifest as its pieces -/
def MPT (m : MAN) : MTP := (MHD, m.ver, m.prev, ((MTN m).length, MTN m), (m.es.length, m.es.map fun e => (PLC (MTN m) e.1, [e.2])), m.root)
theorem MTN_mem {m : MAN} {e : List Int × Int} (h : e ∈ m.es) : e.1 ∈ MTN m := (mem_TEN _ _).2 (List.mem_map.2 ⟨e, h, rfl⟩)
theorem MTN_len (m : MAN) : (MTN m).length ≤ m.es.length := by
  have := TEN_len (m.es.map Prod.fst)
  rw [List.length_map] at this; exact this
theorem MWT_MPT (m : MAN) : MWT (MPT m) = MENC m := by
  unfold MWT MPT MENC
  simp only [List.map_map]
  rfl
theorem MGT_MPT {m : MAN} (h : MGD m) : MGT (MPT m) := by
  obtain ⟨h1, h2, h3, h4, h5⟩ := h
  have hl := MTN_len m
  refine ⟨⟨⟨rfl, fun y hy => ?_⟩, by simp [MPT]⟩, h1, h2, ⟨⟨?_, ?_⟩, ?_⟩, ⟨⟨?_, ?_⟩, ?_⟩, h3⟩
  · simp [MPT, MHD] at hy; omega
  · simp only [MPT]; omega
  · simp only [MPT]; exact decide_eq_true (by omega)
  · simp only [MPT]
    refine (tns_good (MTN m) [] List.Pairwise.nil).2 ⟨by rw [List.nil_append]; exact ris_TEN _, fun x hx => ?_⟩
    obtain ⟨e, he, rfl⟩ := List.mem_map.1 ((mem_TEN _ _).1 hx)
    exact (h5 e he).1
  · simp only [MPT]; omega
  · simp only [MPT]; exact decide_eq_true (by omega)
  · have e1 : (MPT m).2.2.2.2.1.1 = (MPT m).2.2.2.2.1.2.length := by simp [MPT]
    rw [e1]
    refine (ens_good _).2 (fun t ht => ?_)
    simp only [MPT] at ht ⊢
    obtain ⟨e, he, rfl⟩ := List.mem_map.1 ht
    have hp := PLC_lt (MTN_mem he)
    obtain ⟨_, k2, k3⟩ := h5 e he
    refine ⟨⟨by simp only; omega, decide_eq_true hp⟩, ⟨rfl, fun y hy => ?_⟩, decide_eq_true (by simpa using k3)⟩
    rw [List.mem_singleton] at hy
    omega
theorem MPT_used (m : MAN) : usedAll (MTN m).length (MPT m).2.2.2.2.1.2 = true := by
  unfold usedAll
  rw [List.all_eq_true]
  intro i hi
  rw [List.mem_range] at hi
  have hx : (MTN m).getD i [] ∈ MTN m := by
    rw [List.getD_eq_getElem?_getD, List.getElem?_eq_getElem hi]
    exact List.getElem_mem hi
  obtain ⟨e, he, e1⟩ := List.mem_map.1 ((mem_TEN _ _).1 hx)
  rw [List.any_eq_true]
  refine ⟨(PLC (MTN m) e.1, [e.2]), List.mem_map.2 ⟨e, he, rfl⟩, ?_⟩
  simp only [e1, beq_iff_eq]
  exact PLC_of (ris_TEN _) hi
theorem MPT_of (m : MAN) : MOF m.ver m.prev (MTN m) (MPT m).2.2.2.2.1.2 m.root = m := by
  unfold MOF MPT
  cases m with
  | mk v p es r =>
    congr 1
    simp only [List.map_map]
    rw [List.map_congr_left (g := fun e => e), List.map_id']
    intro e he
    simp only [Function.comp]
    rw [PLC_at (MTN_mem (m := ⟨v, p, es, r⟩) he)]
    rfl
/-- THERE AND BACK -/
theorem MDEC_back {m : MAN} (h : MGD m) : MDEC (MENC m) = .ok m := by
  have k := PC_man.back (MPT m) [] (MGT_MPT h)
  rw [MWT_MPT, List.append_nil] at k
  unfold MDEC
  rw [k]
  show (if ([] : List Int) = [] then (if usedAll (MTN m).length (MPT m).2.2.2.2.1.2 = true then Except.ok (MOF m.ver m.prev (MTN m) (MPT m).2.2.2.2.1.2 m.root) else .error 3) else .error 3) = .ok m
  rw [if_pos rfl, if_pos (MPT_used m), MPT_of]
/-- a byte more -/
theorem MDEC_more {m : MAN} (h : MGD m) {t : List Int} (ht : t ≠ []) : MDEC (MENC m ++ t) = .error 3 := by
  have k := PC_man.back (MPT m) t (MGT_MPT h)
  rw [MWT_MPT] at k
  unfold MDEC
  rw [k]
  simp only [MPT, if_neg ht]
/-- cut off it is too short -/
theorem MDEC_cut {m : MAN} (h : MGD m) {k : Nat} (hk : k < (MENC m).length) : MDEC ((MENC m).take k) = .error 2 := by
  have e := PC_man.cut (MPT m) k (MGT_MPT h) (by rw [MWT_MPT]; exact hk)
  rw [MWT_MPT] at e
  unfold MDEC
  rw [e]
/-- ONE WAY ALONE -/
theorem MDEC_only {b : List Int} {m : MAN} (h8 : U8 b) (h : MDEC b = .ok m) : MGD m ∧ MENC m = b := by
  unfold MDEC at h
  cases e1 : MRD b with
  | error e => rw [e1] at h; cases h
  | ok x =>
    obtain ⟨⟨hd, v, p, ⟨n, l⟩, ⟨q, ts⟩, r⟩, rest⟩ := x
    rw [e1] at h
    simp only at h
    by_cases hr : rest = []
    · rw [if_pos hr] at h
      by_cases hu : usedAll l.length ts = true
      · rw [if_pos hu] at h
        subst hr
        obtain ⟨g, hb⟩ := PC_man.only b _ _ h8 e1
        rw [List.append_nil] at hb
        simp only [Except.ok.injEq] at h
        obtain ⟨⟨_, ghd⟩, gv, gp, ⟨⟨_, _⟩, gl⟩, ⟨⟨_, gq⟩, gt⟩, gr⟩ := g
        simp only at ghd gv gp gl gq gt gr
        have hn : l.length = n := rep_len gl
        have hq : ts.length = q := rep_len gt
        subst hn hq
        obtain ⟨rl, ll⟩ := (tns_good l [] List.Pairwise.nil).1 gl
        rw [List.nil_append] at rl
        have gt' := (ens_good ts).1 gt
        have hat : ∀ t ∈ ts, t.1 < l.length := fun t ht => of_decide_eq_true (gt' t ht).1.2
        have hmem : ∀ t ∈ ts, l.getD t.1 [] ∈ l := fun t ht => by
          rw [List.getD_eq_getElem?_getD, List.getElem?_eq_getElem (hat t ht)]
          exact List.getElem_mem (hat t ht)
        have hT : MTN m = l := by
          symm
          rw [← h]
          refine TEN_only rl (fun x => ⟨fun hx => ?_, fun hx => ?_⟩)
          · have hi := PLC_lt hx
            unfold usedAll at hu
            rw [List.all_eq_true] at hu
            have := hu (PLC l x) (List.mem_range.2 hi)
            rw [List.any_eq_true] at this
            obtain ⟨t, ht, e⟩ := this
            rw [beq_iff_eq] at e
            refine List.mem_map.2 ⟨(l.getD t.1 [], t.2.getD 0 0), List.mem_map.2 ⟨t, ht, rfl⟩, ?_⟩
            simp only [e]
            exact PLC_at hx
          · obtain ⟨e, he, rfl⟩ := List.mem_map.1 hx
            obtain ⟨t, ht, rfl⟩ := List.mem_map.1 he
            exact hmem t ht
        have hes : ∀ t ∈ ts, MEN l (l.getD t.1 [], t.2.getD 0 0) = gs t.1 ++ t.2 := fun t ht => by
          unfold MEN
          simp only
          rw [PLC_of rl (hat t ht)]
          congr 1
          have h1 := (gt' t ht).2.1.1
          obtain ⟨y, hy⟩ := List.length_eq_one_iff.1 h1
          rw [hy]; rfl
        refine ⟨?_, ?_⟩
        · rw [← h]
          refine ⟨gv, gp, gr, ?_, ?_⟩
          · simp only [MOF, List.length_map]
            exact of_decide_eq_true gq
          · intro e he
            obtain ⟨t, ht, rfl⟩ := List.mem_map.1 he
            refine ⟨ll _ (hmem t ht), ?_, of_decide_eq_true (gt' t ht).2.2⟩
            exact ((gt' t ht).2.1.2.at 0).1
        · have hhd : hd = MHD := by simpa using ghd
          unfold MENC
          rw [hT, hb, ← h, hhd]
          unfold MWT MOF
          simp only [List.length_map, List.map_map]
          rw [List.map_congr_left (l := ts) (f := MEN l ∘ fun t => (l.getD t.1 [], t.2.getD 0 0)) (g := fun t => gs t.1 ++ t.2) hes]
      · rw [if_neg hu] at h; cases h
    · rw [if_neg hr] at h; cases h
/-- entries turned about -/
theorem MTN_rev (v v' : Nat) (p r p' r' : List Int) (es : List (List Int × Int)) : MTN ⟨v, p, es.reverse, r⟩ = MTN ⟨v', p', es, r'⟩ := by
  refine TEN_only (ris_TEN _) (fun x => ?_)
  unfold MTN
  simp only
  rw [mem_TEN, List.map_reverse, List.mem_reverse]
theorem MENC_rev (v : Nat) (p r : List Int) (es : List (List Int × Int)) : (MENC ⟨v, p, es.reverse, r⟩).length = (MENC ⟨v, p, es, r⟩).length := by
  unfold MENC
  rw [MTN_rev v v p r p r es]
  simp only [List.length_append, List.length_reverse, List.map_reverse, List.length_flatten, List.sum_reverse]
theorem MGD_rev {v : Nat} {p r : List Int} {es : List (List Int × Int)} (h : MGD ⟨v, p, es, r⟩) : MGD ⟨v, p, es.reverse, r⟩ := by
  obtain ⟨h1, h2, h3, h4, h5⟩ := h
  exact ⟨h1, h2, h3, by simpa using h4, fun e he => h5 e (by simpa using he)⟩
theorem MENC_u8 {m : MAN} (h : MGD m) : U8 (MENC m) := by
  obtain ⟨h1, h2, h3, h4, h5⟩ := h
  unfold MENC
  refine U8.app (fun y hy => by simp [MHD] at hy; omega) (U8.app (fixL_range _ _) (U8.app h2.2 (U8.app (U8.app (gs_range _) ?_) (U8.app (U8.app (gs_range _) ?_) h3.2))))
  · intro y hy
    obtain ⟨b, hb, hy⟩ := List.mem_flatten.1 hy
    obtain ⟨x, hx, rfl⟩ := List.mem_map.1 hb
    obtain ⟨e, he, rfl⟩ := List.mem_map.1 ((mem_TEN _ _).1 hx)
    exact blk_range _ (h5 e he).1.2 y hy
  · intro y hy
    obtain ⟨l, hl, hy⟩ := List.mem_flatten.1 hy
    obtain ⟨e, he, rfl⟩ := List.mem_map.1 hl
    rcases List.mem_append.1 hy with k | k
    · exact gs_range _ y k
    · rw [List.mem_singleton] at k
      have := (h5 e he).2
      omega
end Go.Proofs.YtbjmhhjdfmfkaabGreat

/- Entries and a manifest in memory; those that came in. -/
namespace Go.Proofs.YtbjmhhjdfmfkaabGreat
open Go.RowKit Go.ChangeShapes Go.WideShapes

/-- the slice v reads as the entries s -/
def Ens (w : World) (v : Value) (s : List (List Int × Int)) : Prop :=
  ∃ ao cap, v = .slice ao s.length cap ∧ s.length ≤ cap ∧ (s ≠ [] → ∃ b off, ao = some ⟨b, off, none⟩ ∧ ∀ j, j < s.length →
    w.cell? ⟨b, off + j * 2, none⟩ = some (.string (strOfNums (s.getD j ([], 0)).1)) ∧ w.cell? ⟨b, off + j * 2 + 1, none⟩ = some (.int .i64 (s.getD j ([], 0)).2))
theorem Ens.len {w : World} {v : Value} {s : List (List Int × Int)} (h : Ens w v s) : ∃ ao cap, v = .slice ao s.length cap := by
  obtain ⟨ao, cap, rfl, _⟩ := h
  exact ⟨ao, cap, rfl⟩
theorem Ens.nil (w : World) : Ens w (.slice none 0 0) [] := ⟨none, 0, rfl, Nat.le_refl _, fun h => absurd rfl h⟩
theorem Ens.at {w : World} {v : Value} {s : List (List Int × Int)} (h : Ens w v s) (j : Nat) (hj : j < s.length) :
    ∃ b off cap, v = .slice (some ⟨b, off, none⟩) s.length cap ∧ w.cell? ⟨b, off + j * 2, none⟩ = some (.string (strOfNums (s.getD j ([], 0)).1)) ∧ w.cell? ⟨b, off + j * 2 + 1, none⟩ = some (.int .i64 (s.getD j ([], 0)).2) := by
  obtain ⟨ao, cap, rfl, _, hr⟩ := h
  obtain ⟨b, off, rfl, hc⟩ := hr (by intro h0; subst h0; simp at hj)
  exact ⟨b, off, cap, rfl, hc j hj⟩
theorem Ens.keep {w w' : World} {v : Value} {s : List (List Int × Int)} (h : Ens w v s) {S : Nat → Prop} (ho : Only S w w') (hs : ∀ b, v.ownBlock = some b → ¬ S b) : Ens w' v s := by
  obtain ⟨ao, cap, rfl, hl, hr⟩ := h
  refine ⟨ao, cap, rfl, hl, fun hne => ?_⟩
  obtain ⟨b, off, rfl, hc⟩ := hr hne
  refine ⟨b, off, rfl, fun j hj => ?_⟩
  have hb : ¬ S b := hs b rfl
  obtain ⟨h0, h1⟩ := hc j hj
  have hlt : b < w.heap.size := World.block_lt_of_cell? w _ h0
  have e := ho.block b hlt hb
  exact ⟨by rw [← h0]; unfold World.cell?; rw [e], by rw [← h1]; unfold World.cell?; rw [e]⟩
theorem Ens.past {w w' : World} {v : Value} {s : List (List Int × Int)} (h : Ens w v s) (o : Only (fun _ => False) w w') : Ens w' v s := h.keep o (fun _ _ f => f)
/-- entries as cells -/
def ecells (s : List (List Int × Int)) : List Value := s.flatMap fun p => [.string (strOfNums p.1), .int .i64 p.2]
theorem ecells_cons (p : List Int × Int) (s : List (List Int × Int)) : ecells (p :: s) = .string (strOfNums p.1) :: .int .i64 p.2 :: ecells s := rfl
theorem ecells_snoc (p : List Int × Int) (s : List (List Int × Int)) : ecells (s ++ [p]) = ecells s ++ [.string (strOfNums p.1), .int .i64 p.2] := by
  unfold ecells; rw [List.flatMap_append]; rfl
theorem ecells_len (s : List (List Int × Int)) : (ecells s).length = s.length * 2 := by
  induction s with
  | nil => rfl
  | cons p s ih => rw [ecells_cons]; simp only [List.length_cons, ih]; omega
theorem ecells_at (s : List (List Int × Int)) : ∀ (j : Nat), j < s.length → (ecells s)[j * 2]? = some (.string (strOfNums (s.getD j ([], 0)).1)) ∧ (ecells s)[j * 2 + 1]? = some (.int .i64 (s.getD j ([], 0)).2) := by
  induction s with
  | nil => intro j hj; simp at hj
  | cons p s ih =>
    intro j hj
    cases j with
    | zero => rw [ecells_cons]; exact ⟨rfl, rfl⟩
    | succ j =>
      have hj' : j < s.length := by simpa using hj
      obtain ⟨h0, h1⟩ := ih j hj'
      rw [ecells_cons, show (j + 1) * 2 = j * 2 + 1 + 1 by omega]
      simp only [List.getElem?_cons_succ, List.getD_cons_succ]
      exact ⟨h0, h1⟩
theorem Ens.of_own {w : World} {lo : Nat} {E : TypeId} {v : Value} {s : List (List Int × Int)} (h : w.ownsRow lo E 2 v s.length (ecells s)) : Ens w v s := by
  rcases h.2 with ⟨rfl, hn⟩ | ⟨g, cap, cur, rfl, _, hg, hnc, _, hcs, htk⟩
  · have : s = [] := List.eq_nil_of_length_eq_zero hn
    subst this
    exact Ens.nil w
  · refine ⟨_, cap, rfl, hnc, fun _ => ⟨g, 0, rfl, fun j hj => ?_⟩⟩
    have hc : ∀ i, i < s.length * 2 → w.cell? ⟨g, 0 + i, none⟩ = (ecells s)[i]? := fun i hi => by
      rw [← htk, List.getElem?_take_of_lt hi]
      simp [World.cell?, hg]
    obtain ⟨h0, h1⟩ := ecells_at s j hj
    exact ⟨by rw [hc _ (by omega)]; exact h0, by rw [Nat.add_assoc, hc _ (by omega)]; exact h1⟩

/-- what every entry's tenant is: bytes -/
def EU8 (s : List (List Int × Int)) : Prop := ∀ e ∈ s, U8 e.1
/-- a manifest in memory -/
structure Mf (w : World) (x : Value) (m : MAN) (vp ve vr : Value) : Prop where
  form : x = .agg #[.int .u64 m.ver, vp, ve, vr]
  prev : Bs .u8 w vp m.prev
  es : Ens w ve m.es
  root : Bs .u8 w vr m.root
theorem Mf.past {w w' : World} {x : Value} {m : MAN} {vp ve vr : Value} (h : Mf w x m vp ve vr) (o : Only (fun _ => False) w w') : Mf w' x m vp ve vr := ⟨h.form, h.prev.past o, h.es.past o, h.root.past o⟩
/-- what is so of every manifest -/
structure Mok (m : MAN) : Prop where
  ver : m.ver < 18446744073709551616
  prev : U8 m.prev
  root : U8 m.root
  es : EU8 m.es

set_option maxRecDepth 100000 in
theorem ens_open {H : Type} {enc : TypeId × Value → H} {W : World} {fuel : Nat} {u : Value} {x : DataW H × List MemPlace}
    (hf : DataW.trod enc Tryz.prog W 0 (fun _ => true) true fuel 24 [u] = some x) : ∃ s : List (List Int × Int), Ens W u s ∧ EU8 s ∧ s.length ≤ maxLen ∧ (∀ e ∈ s, e.1.length ≤ maxLen) := by
  rcases Deep.open_slice_pairs Tryz.underlying24 Tryz.underlying30 (by kernel_rfl) rfl rfl (by kernel_rfl) (by kernel_rfl) hf with ⟨hcs, _⟩ | ⟨x, l, c, m, n, V0, V1, D0, D1, P0, P1, hcs, _, hl, hm, hmm, _, hi⟩
  · simp at hcs
    subst hcs
    exact ⟨[], Ens.nil _, by simp [EU8], by simp, by simp⟩
  · simp at hcs
    subst hcs
    simp only [if_true] at hmm
    rw [hmm] at hi
    clear hmm
    have each : ∀ i, i < l → ∃ q : List Int × Int, W.cell? (x.add (i * 2)) = some (.string (strOfNums q.1)) ∧ W.cell? (x.add (i * 2 + 1)) = some (.int .i64 q.2) ∧ U8 q.1 ∧ q.1.length ≤ maxLen := by
      intro i hlt
      obtain ⟨c0, c1, t0, t1⟩ := hi i (by omega)
      obtain ⟨q0, e0, _, w0⟩ := DataW.trod_string Tryz.underlying9 t0
      obtain ⟨q1, e1, _, w1⟩ := DataW.trod_int Tryz.underlying3 t1
      simp at e0 e1
      exact ⟨(sb q0, q1), by rw [c0, e0, of_sb], by rw [c1, e1], sb_range q0, by rw [sb_len]; exact w0⟩
    obtain ⟨q, hq⟩ := Deep.choose_lt each
    have hget : ∀ j, j < l → ((List.range l).map q).getD j ([], 0) = q j := fun j hj => by
      rw [List.getD_eq_getElem?_getD]; simp [hj]
    refine ⟨(List.range l).map q, ⟨some x, c, by simp, by simpa using hl, fun hne => ?_⟩, ?_, by simp; omega, ?_⟩
    · have hp : 0 < l := by
        cases l with
        | zero => simp at hne
        | succ n => omega
      obtain ⟨b, off, spot⟩ := x
      have hspot : spot = none := by simpa [Addr.add] using World.cell?_spot (hq 0 hp).1
      subst hspot
      refine ⟨b, off, rfl, fun j hj => ?_⟩
      have hj' : j < l := by simpa using hj
      rw [hget j hj']
      have h0 := (hq j hj').1
      have h1 := (hq j hj').2.1
      rw [Go.WideShapes.add_plain] at h0 h1
      exact ⟨h0, by rw [Nat.add_assoc]; exact h1⟩
    · intro y hy
      simp only [List.mem_map, List.mem_range] at hy
      obtain ⟨j, hj, rfl⟩ := hy
      exact (hq j hj).2.2.1
    · intro y hy
      simp only [List.mem_map, List.mem_range] at hy
      obtain ⟨j, hj, rfl⟩ := hy
      exact (hq j hj).2.2.2
theorem bs_open {H : Type} {enc : TypeId × Value → H} {W : World} {fuel : Nat} {u : Value} {x : DataW H × List MemPlace}
    (hf : DataW.trod enc Tryz.prog W 0 (fun _ => true) true fuel 23 [u] = some x) : ∃ xs : List Int, Bs .u8 W u xs ∧ NoCap u ∧ U8 xs := by
  rcases open_ints Tryz.underlying23 Tryz.underlying5 (by kernel_rfl) hf with ⟨hcs, _⟩ | ⟨x, l, c, zs, hcs, _, hl, hm, hz, _, hcell, hwz⟩
  · simp at hcs
    subst hcs
    exact ⟨[], Bs.nil _ _, NoCap.nil, by simp [U8]⟩
  · simp at hcs
    subst hcs
    refine ⟨zs.take l, Bs.of_take hl (by simpa using hz) hcell, NoCap.some _ _ _, fun y hy => ?_⟩
    simpa [Lit.wf, IntKind.min, IntKind.max, IntKind.signed, IntKind.bits] using hwz y (List.mem_of_mem_take hy)
set_option maxRecDepth 100000 in
/-- A MANIFEST THAT CAME IN. -/
theorem man_open {H : Type} {enc : TypeId × Value → H} {W : World} {r : Reach} {b0 : Nat} {v : Value} {d : DataW H} {p : List MemPlace} (hval : Value.okWide Tryz.prog W r b0 26 v)
    (h : DataW.Trod enc Tryz.prog W 0 (fun _ => true) true 26 v d p) :
    ∃ (m : MAN) (vp ve vr : Value), Mf W v m vp ve vr ∧ Mok m ∧ NoCap vp ∧ NoCap vr ∧ m.es.length ≤ maxLen := by
  obtain ⟨cs, rfl, hsz⟩ := okWide_struct Tryz.underlying26 hval
  obtain ⟨fuel, hf⟩ := h
  have hc2 : Tryz.prog.cellsOf 26 = 4 := by kernel_rfl
  rw [hc2] at hsz
  obtain ⟨v0, v1, v2, v3, rfl⟩ : ∃ v0 v1 v2 v3, cs = #[v0, v1, v2, v3] := by
    obtain ⟨l⟩ := cs
    match l, hsz with
    | [a, b, c, d], _ => exact ⟨a, b, c, d, rfl⟩
  obtain ⟨y0, y1, y2, y3, n, _, _, g0, g1, g2, g3⟩ := Go.Joins.trod_struct4 Tryz.underlying26 hf
  have k0 : Tryz.prog.cellsOf 22 = 1 := by kernel_rfl
  have k1 : Tryz.prog.cellsOf 23 = 1 := by kernel_rfl
  have k2 : Tryz.prog.cellsOf 24 = 1 := by kernel_rfl
  simp [Value.cells, k0, k1, k2] at g0 g1 g2 g3
  obtain ⟨t, e0, _, w0⟩ := DataW.trod_int Tryz.underlying22 g0
  simp at e0
  subst e0
  obtain ⟨p, hp1, hp2, hp3⟩ := bs_open g1
  obtain ⟨s, h1, h2, h3, h4⟩ := ens_open g2
  obtain ⟨q, hq1, hq2, hq3⟩ := bs_open g3
  have bd : 0 ≤ t ∧ t ≤ 18446744073709551615 := by simpa [Lit.wf, IntKind.min, IntKind.max, IntKind.signed, IntKind.bits] using w0
  have et : ((t.toNat : Nat) : Int) = t := by omega
  refine ⟨⟨t.toNat, p, s, q⟩, v1, v2, v3, ⟨?_, hp1, h1, hq1⟩, ⟨by simp only; omega, hp3, hq3, h2⟩, hp2, hq2, h3⟩
  simp only [et]
end Go.Proofs.YtbjmhhjdfmfkaabGreat

/- Texts in memory: a slice of strings. -/
namespace Go.Proofs.YtbjmhhjdfmfkaabGreat
open Go.RowKit

/-- the slice v reads as the texts T -/
def Sts (w : World) (v : Value) (T : List (List Int)) : Prop :=
  ∃ ao cap, v = .slice ao T.length cap ∧ T.length ≤ cap ∧ (T ≠ [] → ∃ b off, ao = some ⟨b, off, none⟩ ∧ ∀ j, j < T.length → w.cell? ⟨b, off + j, none⟩ = some (.string (strOfNums (T.getD j []))))
theorem Sts.len {w : World} {v : Value} {T : List (List Int)} (h : Sts w v T) : ∃ ao cap, v = .slice ao T.length cap := by
  obtain ⟨ao, cap, rfl, _⟩ := h
  exact ⟨ao, cap, rfl⟩
theorem Sts.nil (w : World) : Sts w (.slice none 0 0) [] := ⟨none, 0, rfl, Nat.le_refl _, fun h => absurd rfl h⟩
theorem Sts.at {w : World} {v : Value} {T : List (List Int)} (h : Sts w v T) (j : Nat) (hj : j < T.length) :
    ∃ b off cap, v = .slice (some ⟨b, off, none⟩) T.length cap ∧ w.cell? ⟨b, off + j, none⟩ = some (.string (strOfNums (T.getD j []))) := by
  obtain ⟨ao, cap, rfl, _, hr⟩ := h
  obtain ⟨b, off, rfl, hc⟩ := hr (by intro h0; subst h0; simp at hj)
  exact ⟨b, off, cap, rfl, hc j hj⟩
theorem Sts.keep {w w' : World} {v : Value} {T : List (List Int)} (h : Sts w v T) {S : Nat → Prop} (ho : Only S w w') (hs : ∀ b, v.ownBlock = some b → ¬ S b) : Sts w' v T := by
  obtain ⟨ao, cap, rfl, hl, hr⟩ := h
  refine ⟨ao, cap, rfl, hl, fun hne => ?_⟩
  obtain ⟨b, off, rfl, hc⟩ := hr hne
  refine ⟨b, off, rfl, fun j hj => ?_⟩
  have hb : ¬ S b := hs b rfl
  have h0 := hc j hj
  have hlt : b < w.heap.size := World.block_lt_of_cell? w _ h0
  have e := ho.block b hlt hb
  rw [← h0]; unfold World.cell?; rw [e]
theorem Sts.past {w w' : World} {v : Value} {T : List (List Int)} (h : Sts w v T) (o : Only (fun _ => False) w w') : Sts w' v T := h.keep o (fun _ _ f => f)
/-- texts as cells -/
abbrev tcells (T : List (List Int)) : List Value := T.map fun x => Value.string (strOfNums x)
theorem Sts.of_own {w : World} {lo : Nat} {E : TypeId} {v : Value} {T : List (List Int)} (h : w.ownsRow lo E 1 v T.length (tcells T)) : Sts w v T := by
  rcases h.2 with ⟨rfl, hn⟩ | ⟨g, cap, cur, rfl, _, hg, hnc, _, hcs, htk⟩
  · have : T = [] := List.eq_nil_of_length_eq_zero hn
    subst this
    exact Sts.nil w
  · refine ⟨_, cap, rfl, hnc, fun _ => ⟨g, 0, rfl, fun j hj => ?_⟩⟩
    have hc : w.cell? ⟨g, 0 + j, none⟩ = (tcells T)[j]? := by
      rw [← htk, List.getElem?_take_of_lt (by omega)]
      simp [World.cell?, hg]
    rw [hc]
    simp [tcells, List.getD_eq_getElem?_getD, List.getElem?_eq_getElem hj]
theorem own_neb {w : World} {lo : Nat} {E : TypeId} {size : Nat} {v : Value} {n : Nat} {xs : List Value} (h : w.ownsRow lo E size v n xs) {b : Nat} (hb : b < lo) : some b ≠ v.ownBlock := by
  intro e
  have := (h.lt b e.symm).1
  omega
end Go.Proofs.YtbjmhhjdfmfkaabGreat

/- Texts in order: the model's order of texts is that of their bytes; what a manifest may not be. -/
namespace Go.Proofs.YtbjmhhjdfmfkaabGreat

theorem less_lex : ∀ (x y : List UInt8), Op.bytesLess x y = lexB (x.map fun c => (c.toNat : Int)) (y.map fun c => (c.toNat : Int))
  | _, [] => by cases ‹List UInt8› <;> rfl
  | [], _ :: _ => rfl
  | a :: x, b :: y => by
    have h1 : decide (a < b) = decide ((a.toNat : Int) < (b.toNat : Int)) := by
      rw [decide_eq_decide, UInt8.lt_iff_toNat_lt]; omega
    have h2 : (a == b) = decide ((a.toNat : Int) = (b.toNat : Int)) := by
      rw [Bool.eq_iff_iff, beq_iff_eq, decide_eq_true_eq]
      constructor
      · rintro rfl; rfl
      · intro h; exact UInt8.toNat_inj.1 (by omega)
    simp only [Op.bytesLess, List.map_cons, lexB, ← less_lex x y, h1, h2]
theorem less_sb (s t : ByteArray) : Op.bytesLess s.toList t.toList = lexB (sb s) (sb t) := by
  rw [less_lex, ByteArray.toList_eq, ByteArray.toList_eq]; rfl
theorem eq_sb (s t : ByteArray) : (s.toList == t.toList) = decide (sb s = sb t) := by
  rw [Bool.eq_iff_iff, beq_iff_eq, decide_eq_true_eq]
  constructor
  · intro h
    unfold sb
    rw [← ByteArray.toList_eq, ← ByteArray.toList_eq, h]
  · intro h
    rw [sb_inj h]
/-- rising, as the library's sort leaves them -/
theorem sorted_ris {l : List (List UInt8)} (h : l.Pairwise fun x y => Op.bytesLess y x = false) (hn : l.Nodup) : RIS (l.map fun s => s.map fun c => (c.toNat : Int)) := by
  unfold RIS
  rw [List.pairwise_map]
  refine (h.and hn).imp (fun {a b} k => ?_)
  rcases lexB_total (a.map fun c => (c.toNat : Int)) (b.map fun c => (c.toNat : Int)) with e | e | e
  · refine absurd ?_ k.2
    have hi : ∀ (x y : List UInt8), (x.map fun c => (c.toNat : Int)) = (y.map fun c => (c.toNat : Int)) → x = y := by
      intro x
      induction x with
      | nil => intro y hy; cases y with
        | nil => rfl
        | cons b y => simp at hy
      | cons a x ih => intro y hy; cases y with
        | nil => simp at hy
        | cons b y =>
          simp only [List.map_cons, List.cons.injEq] at hy
          rw [ih y hy.2, UInt8.toNat_inj.1 (show a.toNat = b.toNat by omega)]
    exact hi a b e
  · exact e
  · rw [← less_lex, k.1] at e; cases e
end Go.Proofs.YtbjmhhjdfmfkaabGreat

/- A map keyed by texts: what it has; its keys sorted are the tenants, each once, rising. Plain facts. -/
namespace Go.Proofs.YtbjmhhjdfmfkaabGreat
open Go.RowKit Go.Maps

def b8 (x : List Int) : List UInt8 := x.map fun n => UInt8.ofNat n.toNat
def i8 (l : List UInt8) : List Int := l.map fun c => (c.toNat : Int)
theorem i8_b8 {x : List Int} (h : U8 x) : i8 (b8 x) = x := by
  unfold i8 b8
  rw [List.map_map]
  refine (List.map_congr_left (g := id) (fun y hy => ?_)).trans (List.map_id _)
  have := h y hy
  simp only [Function.comp, id]
  rw [UInt8.toNat_ofNat']
  omega
theorem b8_i8 (l : List UInt8) : b8 (i8 l) = l := by
  unfold i8 b8
  rw [List.map_map]
  refine (List.map_congr_left (g := id) (fun y _ => ?_)).trans (List.map_id _)
  simp
theorem i8_u8 (l : List UInt8) : U8 (i8 l) := by
  intro y hy
  simp only [i8, List.mem_map] at hy
  obtain ⟨c, _, rfl⟩ := hy
  have := c.toNat_lt
  omega
theorem b8_inj {x y : List Int} (hx : U8 x) (hy : U8 y) (h : b8 x = b8 y) : x = y := by rw [← i8_b8 hx, ← i8_b8 hy, h]
theorem i8_inj {x y : List UInt8} (h : i8 x = i8 y) : x = y := by rw [← b8_i8 x, ← b8_i8 y, h]
theorem str_enc (x : List Int) : Value.string (strOfNums x) = encStr (b8 x) := rfl
theorem size_nums (x : List Int) : (strOfNums x).size = x.length := strOfNums_size x
abbrev kS (x : List Int) : Lit := .string (b8 x)
theorem kS_lit (x : List Int) : WideAt.IsKeyLit (kS x) := by simp [WideAt.IsKeyLit]
theorem kS_ne {x y : List Int} (hx : U8 x) (hy : U8 y) (h : x ≠ y) : kS x ≠ kS y := fun e => h (b8_inj hx hy (by injection e))
theorem key_str {P : Program} {k : TypeId} (hk : P.underlying k = some .string) (x : List Int) (h : x.length ≤ maxLen) : keyOf P k (.string (strOfNums x)) = some (kS x) := by
  have : (strOfNums x).size ≤ maxLen := by rw [size_nums]; exact h
  simp [keyOf, hk, mapKey, this]
  rfl
/-- the map has just these -/
def HasT (D : DataW Unit) (T : List (List Int)) : Prop := ∀ x, U8 x → Maps.has D (kS x) = decide (x ∈ T)
/-- and each one's place -/
def AtT (D : DataW Unit) (T : List (List Int)) : Prop := ∀ x, x ∈ T → ∀ z, D.atKey (kS x) z = .lit (.int .i64 (PLC T x : Nat))
theorem HasT.put {D : DataW Unit} {T : List (List Int)} (h : HasT D T) (hD : IsMap D) {x : List Int} (hx : U8 x) (d : DataW Unit) : HasT (D.put (kS x) d) (T ++ [x]) := by
  intro y hy
  by_cases e : y = x
  · subst e
    rw [has_put_same hD (kS_lit y), decide_eq_true (by simp)]
  · rw [has_put_other (kS_ne hy hx e), h y hy, decide_eq_decide]
    simp [e]
theorem HasT.re {D : DataW Unit} {T : List (List Int)} (h : HasT D T) (hD : IsMap D) {x : List Int} (hx : U8 x) (hT : x ∈ T) (d : DataW Unit) : HasT (D.put (kS x) d) T := by
  intro y hy
  by_cases e : y = x
  · subst e
    rw [has_put_same hD (kS_lit y), decide_eq_true hT]
  · rw [has_put_other (kS_ne hy hx e), h y hy]
theorem HasT.of {D : DataW Unit} {T U : List (List Int)} (h : HasT D T) (e : ∀ x, x ∈ T ↔ x ∈ U) : HasT D U := fun x hx => by rw [h x hx, decide_eq_decide]; exact e x
/-- the keys of the map -/
theorem strKeys_has {P : Program} {k : TypeId} (hk : P.underlying k = some .string) {R : Value → Option (DataW Unit × List MemPlace)} {w : World} {b n : Nat} {D : DataW Unit} (h : w.ownsMap P k R b n D) :
    (strKeys D).Nodup ∧ (∀ x, x ∈ strKeys D ↔ Maps.has D (.string x) = true) ∧ (strKeys D).length = Maps.size D := by
  obtain ⟨es, rfl, hp, _⟩ := h.entries (string_keyed hk)
  obtain ⟨es', e', hks⟩ := h.keysOf
  cases e'
  have hks' : ∀ p ∈ es, ∃ x, p.1 = .string x := fun p hp' => by
    obtain ⟨v, hv⟩ := hks p hp'
    obtain ⟨x, _, e, _⟩ := Maps.keyOf_str hk hv
    exact ⟨x, e⟩
  refine ⟨?_, fun x => ?_, by simp [strKeys, Maps.size]⟩
  · show (es.map fun p => strOf p.1).Nodup
    refine List.pairwise_map.2 (hp.imp_of_mem fun {p q} hp' hq' hne e => hne ?_)
    obtain ⟨a, ha⟩ := hks' p hp'
    obtain ⟨b, hb⟩ := hks' q hq'
    rw [ha, hb] at e ⊢
    exact congrArg _ e
  · rw [has_eq, List.any_eq_true]
    show x ∈ es.map (fun p => strOf p.1) ↔ _
    rw [List.mem_map]
    constructor
    · rintro ⟨p, hp', rfl⟩
      obtain ⟨a, ha⟩ := hks' p hp'
      exact ⟨p, hp', by rw [ha]; simp [Lit.sameKey, strOf]⟩
    · rintro ⟨p, hp', hs⟩
      obtain ⟨a, ha⟩ := hks' p hp'
      rw [ha] at hs
      exact ⟨p, hp', by rw [ha]; simpa [Lit.sameKey, strOf] using hs⟩
/-- sorted they are the tenants -/
theorem sort_TEN {D : DataW Unit} {T : List (List Int)} (hU : ∀ x ∈ T, U8 x) (hT : HasT D T) (hn : (strKeys D).Nodup) (hm : ∀ x, x ∈ strKeys D ↔ Maps.has D (.string x) = true) {ss : List (List UInt8)} (hp : ss.Perm (strKeys D)) :
    (ss.mergeSort (fun x y => decide (x ≤ y))).map i8 = TEN T := by
  have tr : ∀ a b c : List UInt8, decide (a ≤ b) = true → decide (b ≤ c) = true → decide (a ≤ c) = true := fun a b c h1 h2 => by simp only [decide_eq_true_eq] at *; exact List.le_trans h1 h2
  have to : ∀ a b : List UInt8, (decide (a ≤ b) || decide (b ≤ a)) = true := fun a b => by simp only [Bool.or_eq_true, decide_eq_true_eq]; exact List.le_total a b
  have pw := List.pairwise_mergeSort (le := fun x y : List UInt8 => decide (x ≤ y)) tr to ss
  have pp := List.mergeSort_perm ss (fun x y => decide (x ≤ y))
  refine TEN_only (sorted_ris (pw.imp fun {a b} k => ?_) ((pp.trans hp).nodup_iff.2 hn)) (fun x => ?_)
  · have k' : a ≤ b := by simpa using k
    rw [bytesLess_eq, decide_eq_false_iff_not]
    exact k'
  · rw [List.mem_map]
    constructor
    · rintro ⟨s, hs, rfl⟩
      have h1 := (hm s).1 ((pp.trans hp).mem_iff.1 hs)
      have h2 := hT (i8 s) (i8_u8 s)
      rw [show kS (i8 s) = .string s by rw [kS, b8_i8]] at h2
      rw [h2] at h1
      exact of_decide_eq_true h1
    · intro hx
      refine ⟨b8 x, (pp.trans hp).mem_iff.2 ((hm _).2 ?_), i8_b8 (hU x hx)⟩
      rw [show (Lit.string (b8 x)) = kS x from rfl, hT x (hU x hx), decide_eq_true hx]
theorem enc_i8 (l : List (List UInt8)) : l.map encStr = (l.map i8).map fun x => Value.string (strOfNums x) := by
  rw [List.map_map]
  refine List.map_congr_left (fun s _ => ?_)
  simp only [Function.comp]
  rw [str_enc, b8_i8]
theorem size_TEN {D : DataW Unit} {T : List (List Int)} (hU : ∀ x ∈ T, U8 x) (hT : HasT D T) (hn : (strKeys D).Nodup) (hm : ∀ x, x ∈ strKeys D ↔ Maps.has D (.string x) = true) (hs : (strKeys D).length = Maps.size D) : Maps.size D = (TEN T).length := by
  rw [← sort_TEN hU hT hn hm (List.Perm.refl _), List.length_map, List.length_mergeSort, hs]
end Go.Proofs.YtbjmhhjdfmfkaabGreat
