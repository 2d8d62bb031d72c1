/- append of any slice whose cells are known, onto a row of the call's own: what holds in every seat. -/
import Derived.Test.YtiolgenaefillaaGreatG6
import Derived.Test.YtiolgenaefillaaGreatG3
import Derived.Deep.RegionHeld3
import Derived.Deep.RegionLaw
namespace Go.Proofs.YtiolgenaefillaaGreat
open Go.RowKit

/-- the slice u holds these cells -/
def VS (w : World) (u : Value) (ys : List Value) : Prop :=
  ∃ ao cap, u = .slice ao ys.length cap ∧ NoCap u ∧ (∀ y ∈ ys, y.oneCell' = true) ∧ (ao = none → ys = []) ∧ ∀ ad, ao = some ad → ∀ j y, ys[j]? = some y → w.cell? (ad.add j) = some y
theorem VS.past {w w' : World} {u : Value} {ys : List Value} (h : VS w u ys) (o : Only (fun _ => False) w w') : VS w' u ys := by
  obtain ⟨ao, cap, e, h1, h2, h3, h4⟩ := h
  exact ⟨ao, cap, e, h1, h2, h3, fun ad ha j y hy => cell_past (h4 ad ha j y hy) o⟩
theorem VS.of_own {w : World} {lo n : Nat} {e : TypeId} {u : Value} {ys : List Value} (h : w.ownsRow lo e 1 u n ys) (h1 : ∀ y ∈ ys, y.oneCell' = true) : VS w u ys := by
  have hl := h.1
  rcases h.2 with ⟨rfl, h0⟩ | ⟨g, cap, cur, rfl, hb, hg, hc, r⟩
  · have : ys = [] := List.eq_nil_of_length_eq_zero (by omega)
    subst this
    exact ⟨none, 0, rfl, NoCap.nil, h1, fun _ => rfl, fun ad e => by cases e⟩
  · refine ⟨_, cap, by rw [show ys.length = n by omega], NoCap.some _ _ _, h1, fun e => by (cases e), fun ad e j y hy => ?_⟩
    cases e
    have hj := (List.getElem?_eq_some_iff.1 hy).1
    have := h.cellAt j (by omega)
    rw [Go.WideShapes.add_plain, Nat.zero_add, this, hy]
/-- append(s, x...): s a row of the call's own, x any slice: as one step -/
theorem wp_append_vs {P : Program} {w : World} {o : Oper} {a : Act} {K : Act → World → Prop} {Q : Exit → Act → World → Prop} (s x : Operand) (t : TypeId)
    (ho : o.op = .call { callee := .builtin .append, args := #[s, x], argTypes := #[t, t] })
    (base : Nat) (e : TypeId) (i : TypeInfo) (z : Value) (bytes : Nat) (ht : P.underlying t = some (.slice e)) (hi : P.info? e = some i) (hz : i.zero = some z)
    (hsize : i.size = 1) (hby : i.bytes = bytes) (hzs : z.cells.size = 1)
    (v : Value) (n : Nat) (xs : List Value) (hs : a.eval s = v) (hown : w.ownsRow base e 1 v n xs)
    (u : Value) (ys : List Value) (hx : a.eval x = u) (hb : VS w u ys)
    (h63 : n + ys.length ≤ maxLen) (hbytes : (n + ys.length) * bytes ≤ 140737488355328) (hbase : base ≤ w.heap.size)
    (h : ∀ v' w', w'.ownsRow base e 1 v' (n + ys.length) (xs ++ ys) → w.grownBy w' v.ownBlock → K (a.put o.dst v') w') :
    Oper.wp P o a w K Q := by
  obtain ⟨ao, cap, rfl, hnc, hone, hnone, hcell⟩ := hb
  cases ao with
  | none =>
    have h0 : ys = [] := hnone rfl
    subst h0
    have hc : cap = 0 := hnc _ _ rfl
    subst hc
    have hrun := run_append_owned_none (P := P) (w := w) base t o.type e i 1 ht hi v n xs hown
    have hK := h v w (by simpa using hown) (World.grownBy.refl _ _)
    unfold Oper.wp
    simp [execOp, ho, resolve, invoke, builtin, hs, hx, hrun, Result.andThen]
    exact hK
  | some ad =>
    obtain ⟨v', w', hrun, r1, r2, _⟩ := run_append_own_at (P := P) w base t o.type e i z 1 bytes ht hi hz hsize hby hzs (by omega) v n xs hown ad ys.length cap ys (by simp) (hcell ad rfl) hone h63 hbytes hbase
    unfold Oper.wp
    simp [execOp, ho, resolve, invoke, builtin, hs, hx, hrun, Result.andThen]
    exact h v' w' r1 r2
theorem wpList_append_vs {P : Program} (w : World) {ops : Array Oper} {rest : List Oper} {o : Oper} {a : Act} {Q : Exit → Act → World → Prop} (hw : Region.wanted o (yielded ops a.tmps) = true) (s x : Operand) (t : TypeId)
    (ho : o.op = .call { callee := .builtin .append, args := #[s, x], argTypes := #[t, t] })
    (base : Nat) (e : TypeId) (i : TypeInfo) (z : Value) (bytes : Nat) (ht : P.underlying t = some (.slice e)) (hi : P.info? e = some i) (hz : i.zero = some z)
    (hsize : i.size = 1) (hby : i.bytes = bytes) (hzs : z.cells.size = 1)
    (v : Value) (n : Nat) (xs : List Value) (hs : a.eval s = v) (hown : w.ownsRow base e 1 v n xs)
    (u : Value) (ys : List Value) (hx : a.eval x = u) (hb : VS w u ys)
    (h63 : n + ys.length ≤ maxLen) (hbytes : (n + ys.length) * bytes ≤ 140737488355328) (hbase : base ≤ w.heap.size)
    (h : ∀ v' w', w'.ownsRow base e 1 v' (n + ys.length) (xs ++ ys) → w.grownBy w' v.ownBlock → wpList P ops Q rest (a.put o.dst v') w') :
    wpList P ops Q (o :: rest) a w := by
  refine wpList_step fun K hK => ?_
  rw [if_pos hw]
  exact wp_append_vs s x t ho base e i z bytes ht hi hz hsize hby hzs v n xs hs hown u ys hx hb h63 hbytes hbase (fun v' w' h1 h2 => hK _ _ (h v' w' h1 h2))
theorem own_blk0 {w : World} {base g : Nat} {E : TypeId} (h : Blk w g E []) (hb : base ≤ g) : w.ownsRow base E 1 (.slice (some ⟨g, 0, none⟩) 0 0) 0 [] :=
  ⟨rfl, .inr ⟨g, 0, #[], rfl, hb, h, Nat.le_refl _, Nat.zero_le _, rfl, rfl⟩⟩
theorem Blk.newIn {w : World} {G : Nat} (h : w.heap.size = G) (t : TypeId) (cs : List Value) : Blk (w.alloc (.cells cs.toArray t)) G t cs := by
  subst h; exact Blk.new w t cs
theorem VS.blk1 {W : World} {M : Nat} {E : TypeId} {y : Value} (h : Blk W M E [y]) (hy : y.oneCell' = true) : VS W (.slice (some ⟨M, 0, none⟩) 1 1) [y] :=
  ⟨_, 1, rfl, NoCap.some _ _ _, fun z hz => by (simp at hz; subst hz; exact hy), fun e => by (cases e), fun ad e j z hz => by
    cases e
    rw [Go.WideShapes.add_plain, h.cell, Nat.zero_add, hz]⟩
theorem own_le {w : World} {lo t cu n : Nat} {E : TypeId} {au : Option Addr} {xs : List Value} (h : w.ownsRow lo E 1 (.slice au t cu) n xs) : t ≤ cu := by
  rcases h.2 with ⟨e, h0⟩ | ⟨g, cap, cur, e, _, _, hc, _⟩
  · cases e; exact Nat.zero_le _
  · cases e; exact hc
/-- a row of one's own, cut in two -/
theorem vs_cut {w : World} {lo t cu : Nat} {E : TypeId} {au : Option Addr} {xs : List Value} (h : w.ownsRow lo E 1 (.slice au t cu) t xs) (h1 : ∀ y ∈ xs, y.oneCell' = true) (k : Nat) (hk : k ≤ t) :
    VS w (.slice au k cu) (xs.take k) ∧ VS w (.slice (au.map fun x => x.add k) (t - k) (cu - k)) (xs.drop k) ∧ (cu = k → VS w (.slice au 0 0) (xs.drop k)) := by
  have hl := h.1
  have hle := own_le h
  have l1 : (xs.take k).length = k := by rw [List.length_take]; omega
  have l2 : (xs.drop k).length = t - k := by rw [List.length_drop]; omega
  have hcell : ∀ g, au = some g → ∀ j, j < t → w.cell? (g.add j) = xs[j]? := fun g hg j hj => by
    rcases h.2 with ⟨e, h0⟩ | ⟨g', cap, cur, e, r⟩
    · cases e; omega
    · cases e
      cases hg
      have := h.cellAt j (by omega)
      rw [Go.WideShapes.add_plain, Nat.zero_add, this]
  have hp : ∀ g, au = some g → ∃ b, g = ⟨b, 0, none⟩ := fun g hg => by
    rcases h.2 with ⟨e, h0⟩ | ⟨g', cap, cur, e, r⟩
    · cases e; cases hg
    · cases e; cases hg; exact ⟨_, rfl⟩
  have hn : au = none → t = 0 ∧ cu = 0 := fun e => by
    rcases h.2 with ⟨e', h0⟩ | ⟨g', cap, cur, e', r⟩
    · cases e'; exact ⟨rfl, rfl⟩
    · cases e'; cases e
  refine ⟨⟨au, cu, by rw [l1], fun m c e => by (cases e; exact (hn rfl).2), fun y hy => h1 y (List.mem_of_mem_take hy), fun e => List.eq_nil_of_length_eq_zero (by have := hn e; omega), fun ad e j y hy => ?_⟩, ⟨au.map fun x => x.add k, cu - k, by rw [l2], fun m c e => ?_, fun y hy => h1 y (List.mem_of_mem_drop hy), fun e => List.eq_nil_of_length_eq_zero ?_, fun ad e j y hy => ?_⟩, fun e => ?_⟩
  · have hj := (List.getElem?_eq_some_iff.1 hy).1
    rw [hcell ad e j (by omega), ← hy, List.getElem?_take_of_lt (by omega)]
  · rw [Value.slice.injEq, Option.map_eq_none_iff] at e
    have := hn e.1
    omega
  · rw [Option.map_eq_none_iff] at e
    have := hn e
    omega
  · obtain ⟨g, hg, rfl⟩ := Option.map_eq_some_iff.1 e
    have hj := (List.getElem?_eq_some_iff.1 hy).1
    obtain ⟨b, rfl⟩ := hp g hg
    have := hcell _ hg (k + j) (by omega)
    rw [Go.WideShapes.add_plain, Nat.zero_add] at this
    rw [Go.WideShapes.add_plain, Go.WideShapes.add_plain, Nat.zero_add, this, ← hy, List.getElem?_drop]
  · have : xs.drop k = [] := List.eq_nil_of_length_eq_zero (by omega)
    rw [this]
    exact ⟨au, 0, rfl, fun m c e => by (cases e; rfl), fun y hy => by simp at hy, fun _ => rfl, fun ad _ j y hy => by simp at hy⟩
end Go.Proofs.YtiolgenaefillaaGreat
