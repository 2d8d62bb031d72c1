/- append of slices of slices: rows of the call's own. -/
import Derived.Test.YtnifflnhbpfmnabRl
import Derived.Deep.RegionHeld3
import Derived.Deep.RegionLaw
namespace Go.Proofs.Ytnifflnhbpfmnab
open Go.RowKit

theorem Try.infoRows : (Try.prog.info? 25).map (fun i => (i.zero, i.size, i.bytes)) = some (some (.slice none 0 0), 1, 24) := by kernel_rfl
/-- the slice u holds these cells -/
def VS (w : World) (u : Value) (ys : List Value) : Prop :=
  ∃ ao cap, u = .slice ao ys.length cap ∧ NoCap u ∧ (∀ y ∈ ys, y.oneCell' = true) ∧ (ao = none → ys = []) ∧ ∀ ad, ao = some ad → ∀ j y, ys[j]? = some y → w.cell? (ad.add j) = some y
theorem VS.past {w w' : World} {u : Value} {ys : List Value} (h : VS w u ys) (o : Only (fun _ => False) w w') : VS w' u ys := by
  obtain ⟨ao, cap, e, h1, h2, h3, h4⟩ := h
  exact ⟨ao, cap, e, h1, h2, h3, fun ad ha j y hy => cell_past (h4 ad ha j y hy) o⟩
theorem VS.of_own {w : World} {lo n : Nat} {e : TypeId} {u : Value} {ys : List Value} (h : w.ownsRow lo e 1 u n ys) (h1 : ∀ y ∈ ys, y.oneCell' = true) : VS w u ys := by
  have hl := h.1
  rcases h.2 with ⟨rfl, h0⟩ | ⟨g, cap, cur, rfl, hb, hg, hc, r⟩
  · have : ys = [] := List.eq_nil_of_length_eq_zero (by omega)
    subst this
    exact ⟨none, 0, rfl, NoCap.nil, h1, fun _ => rfl, fun ad e => by cases e⟩
  · refine ⟨_, cap, by rw [show ys.length = n by omega], NoCap.some _ _ _, h1, fun e => by (cases e), fun ad e j y hy => ?_⟩
    cases e
    have hj := (List.getElem?_eq_some_iff.1 hy).1
    have := h.cellAt j (by omega)
    rw [Go.WideShapes.add_plain, Nat.zero_add, this, hy]
/-- append(s, x...): s a row of the call's own, x any slice: as one step -/
theorem wp_append_vs {P : Program} {w : World} {o : Oper} {a : Act} {K : Act → World → Prop} {Q : Exit → Act → World → Prop} (s x : Operand) (t : TypeId)
    (ho : o.op = .call { callee := .builtin .append, args := #[s, x], argTypes := #[t, t] })
    (base : Nat) (e : TypeId) (i : TypeInfo) (z : Value) (bytes : Nat) (ht : P.underlying t = some (.slice e)) (hi : P.info? e = some i) (hz : i.zero = some z)
    (hsize : i.size = 1) (hby : i.bytes = bytes) (hzs : z.cells.size = 1)
    (v : Value) (n : Nat) (xs : List Value) (hs : a.eval s = v) (hown : w.ownsRow base e 1 v n xs)
    (u : Value) (ys : List Value) (hx : a.eval x = u) (hb : VS w u ys)
    (h63 : n + ys.length ≤ maxLen) (hbytes : (n + ys.length) * bytes ≤ 140737488355328) (hbase : base ≤ w.heap.size)
    (h : ∀ v' w', w'.ownsRow base e 1 v' (n + ys.length) (xs ++ ys) → w.grownBy w' v.ownBlock → K (a.put o.dst v') w') :
    Oper.wp P o a w K Q := by
  obtain ⟨ao, cap, rfl, hnc, hone, hnone, hcell⟩ := hb
  cases ao with
  | none =>
    have h0 : ys = [] := hnone rfl
    subst h0
    have hc : cap = 0 := hnc _ _ rfl
    subst hc
    have hrun := run_append_owned_none (P := P) (w := w) base t o.type e i 1 ht hi v n xs hown
    have hK := h v w (by simpa using hown) (World.grownBy.refl _ _)
    unfold Oper.wp
    simp [execOp, ho, resolve, invoke, builtin, hs, hx, hrun, Result.andThen]
    exact hK
  | some ad =>
    obtain ⟨v', w', hrun, r1, r2, _⟩ := run_append_own_at (P := P) w base t o.type e i z 1 bytes ht hi hz hsize hby hzs (by omega) v n xs hown ad ys.length cap ys (by simp) (hcell ad rfl) hone h63 hbytes hbase
    unfold Oper.wp
    simp [execOp, ho, resolve, invoke, builtin, hs, hx, hrun, Result.andThen]
    exact h v' w' r1 r2
theorem wpList_append_vs {P : Program} (w : World) {ops : Array Oper} {rest : List Oper} {o : Oper} {a : Act} {Q : Exit → Act → World → Prop} (hw : Region.wanted o (yielded ops a.tmps) = true) (s x : Operand) (t : TypeId)
    (ho : o.op = .call { callee := .builtin .append, args := #[s, x], argTypes := #[t, t] })
    (base : Nat) (e : TypeId) (i : TypeInfo) (z : Value) (bytes : Nat) (ht : P.underlying t = some (.slice e)) (hi : P.info? e = some i) (hz : i.zero = some z)
    (hsize : i.size = 1) (hby : i.bytes = bytes) (hzs : z.cells.size = 1)
    (v : Value) (n : Nat) (xs : List Value) (hs : a.eval s = v) (hown : w.ownsRow base e 1 v n xs)
    (u : Value) (ys : List Value) (hx : a.eval x = u) (hb : VS w u ys)
    (h63 : n + ys.length ≤ maxLen) (hbytes : (n + ys.length) * bytes ≤ 140737488355328) (hbase : base ≤ w.heap.size)
    (h : ∀ v' w', w'.ownsRow base e 1 v' (n + ys.length) (xs ++ ys) → w.grownBy w' v.ownBlock → wpList P ops Q rest (a.put o.dst v') w') :
    wpList P ops Q (o :: rest) a w := by
  refine wpList_step fun K hK => ?_
  rw [if_pos hw]
  exact wp_append_vs s x t ho base e i z bytes ht hi hz hsize hby hzs v n xs hs hown u ys hx hb h63 hbytes hbase (fun v' w' h1 h2 => hK _ _ (h v' w' h1 h2))
/-- cells that are rows of bytes of the call's own -/
def LO (w : World) (vs : List Value) (ls : List (List Int)) : Prop := vs.length = ls.length ∧ ∀ j u, vs[j]? = some u → ∃ lo, w.ownsRow lo 5 1 u (ls.getD j []).length (bl (ls.getD j []))
theorem LO.nil (w : World) : LO w [] [] := ⟨rfl, fun j u h => by simp at h⟩
theorem LO.one {w : World} {lo : Nat} {u : Value} {l : List Int} (h : w.ownsRow lo 5 1 u l.length (bl l)) : LO w [u] [l] := ⟨rfl, fun j v hv => by
  cases j with
  | zero => simp at hv; subst hv; exact ⟨lo, h⟩
  | succ j => simp at hv⟩
theorem LO.app {w : World} {vs us : List Value} {ls ms : List (List Int)} (h : LO w vs ls) (k : LO w us ms) : LO w (vs ++ us) (ls ++ ms) := ⟨by rw [List.length_append, List.length_append, h.1, k.1], fun j u hu => by
  have hl := h.1
  by_cases hj : j < vs.length
  · rw [List.getElem?_append_left hj] at hu
    rw [List.getD_eq_getElem?_getD, List.getElem?_append_left (by omega), ← List.getD_eq_getElem?_getD]
    exact h.2 j u hu
  · rw [List.getElem?_append_right (by omega)] at hu
    rw [List.getD_eq_getElem?_getD, List.getElem?_append_right (by omega), ← List.getD_eq_getElem?_getD, ← hl]
    exact k.2 _ u hu⟩
theorem LO.past {w w' : World} {vs : List Value} {ls : List (List Int)} (h : LO w vs ls) (o : Only (fun _ => False) w w') : LO w' vs ls := ⟨h.1, fun j u hu => by
  obtain ⟨lo, h1⟩ := h.2 j u hu
  exact ⟨lo, o.own h1 (fun _ _ f => f)⟩⟩
/-- they stay where a row of slices grows: their blocks are of another type -/
theorem LO.grown {w w' : World} {vs : List Value} {ls : List (List Int)} (h : LO w vs ls) {base n : Nat} {v : Value} {xs : List Value} (hv : w.ownsRow base 25 1 v n xs) (g : w.grownBy w' v.ownBlock) : LO w' vs ls := ⟨h.1, fun j u hu => by
  obtain ⟨lo, h1⟩ := h.2 j u hu
  refine ⟨lo, ((Only.refl (fun k => v.ownBlock = some k) w).grown g (fun _ _ e => e)).own h1 (fun k hk e => ?_)⟩
  rcases hv.2 with ⟨rfl, _⟩ | ⟨b, cap, cur, rfl, _, hb, _⟩
  · cases e
  · cases e
    rcases h1.2 with ⟨rfl, _⟩ | ⟨b', cap', cur', rfl, _, hb', _⟩
    · cases hk
    · cases hk
      rw [hb] at hb'
      cases hb'⟩
theorem LO.one' {w : World} {vs : List Value} {ls : List (List Int)} (h : LO w vs ls) : ∀ y ∈ vs, y.oneCell' = true := fun y hy => by
  obtain ⟨j, hj, rfl⟩ := List.mem_iff_getElem.1 hy
  obtain ⟨lo, h1⟩ := h.2 j _ (List.getElem?_eq_getElem hj)
  rcases h1.2 with ⟨e, _⟩ | ⟨b, cap, cur, e, _⟩
  · rw [e]; rfl
  · rw [e]; rfl
theorem LO.rl {w : World} {lo : Nat} {v : Value} {vs : List Value} {ls : List (List Int)} (h : LO w vs ls) (ho : w.ownsRow lo 25 1 v vs.length vs) : RL w v ls ∧ NoCap v := ⟨RL.of_own (lo := lo) (vs := vs) (by rw [← h.1]; exact ho) (fun j u hu => by
  obtain ⟨lo', h1⟩ := h.2 j u hu
  exact ⟨Bs.of_own (k := .u8) (E := 5) (lo := lo') h1, NoCap.of_own h1⟩), NoCap.of_own ho⟩
end Go.Proofs.Ytnifflnhbpfmnab
