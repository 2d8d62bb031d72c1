/- Package gorilla: many patterns, read. -/
import Derived.Test.YthpcibofcgjcdaaDoorGr2
import Derived.Laws.OwnMore
namespace Go.Proofs.YthpcibofcgjcdaaDoor
open Go.RowKit

theorem W2.win {wn : Option (Nat × Nat)} {a d : Nat} (h : W2 wn a d) : Win wn := by
  rcases h with ⟨rfl, _, _⟩ | ⟨z, rfl, h1, h2, h3⟩
  · exact Win.none
  · intro a' z' e
    simp only [Option.some.injEq, Prod.mk.injEq] at e
    obtain ⟨rfl, rfl⟩ := e
    omega
/-- what differs, read -/
theorem read_any {w : World} {R : Nat} {v : Value} {ys : List Int} {p : Nat} (h : RdAt 72 w R v ys p) (hv : ∀ k, v.ownBlock = some k → k < w.heap.size) (wn : Option (Nat × Nat)) (a d : Nat) (hw : W2 wn a d) (r : List Bool) (hr : (allBits ys).drop p = r) :
    Calls Tryd.prog 40 #[.pointer (some ⟨R, 0, none⟩), .agg #[.int .i64 a, .int .i64 d]] w fun e w' =>
      ((gR wn r).2.2.2 ≠ 0 ∧ Bad w R (gR wn r).2.2.2 e w') ∨ ((gR wn r).2.2.2 = 0 ∧ ∃ a' d', W2 (gR wn r).2.1 a' d' ∧ Good w R v ys (gR wn r).1 a' d' (gR wn r).2.2.1 e w') := by
  match r, hr with
  | [], hr => exact (read_end h hv a d hr).mono fun e w' b => .inl ⟨by simp [gR], by simpa [gR] using b⟩
  | false :: r, hr => exact (read_same h hv a d r hr).mono fun e w' b => .inr ⟨by simp [gR], a, d, by simpa [gR] using hw, by simpa [gR] using b⟩
  | [true], hr => exact (read_cut1 h hv a d hr).mono fun e w' b => .inl ⟨by simp [gR], by simpa [gR] using b⟩
  | true :: false :: r, hr =>
    rcases hw with ⟨rfl, rfl, rfl⟩ | ⟨z, rfl, h1, h2, h3⟩
    · exact (read_none h hv r hr).mono fun e w' b => .inl ⟨by simp [gR], by simpa [gR] using b⟩
    · have e1 : 64 - a - z = d := by omega
      by_cases hc : r.length < d
      · have e : gR (some (a, z)) (true :: false :: r) = (0, some (a, z), r, 2) := by rw [gR]; simp only [e1]; rw [if_pos hc]
        rw [e]
        exact (read_in_cut h hv a d z r h2 h3 hc hr).mono fun e w' b => .inl ⟨by simp, b⟩
      · have e : gR (some (a, z)) (true :: false :: r) = (bnum (r.take d) * 2 ^ z, some (a, z), r.drop d, 0) := by rw [gR]; simp only [e1]; rw [if_neg hc]
        rw [e]
        exact (read_in h hv a d z r h2 h3 (by omega) hr).mono fun e w' b => .inr ⟨rfl, a, d, .inr ⟨z, rfl, h1, h2, h3⟩, b⟩
  | true :: true :: r, hr =>
    by_cases c2 : r.length < 11
    · have e : ∃ q, gR wn (true :: true :: r) = q ∧ q.2.2.2 = 2 := by
        refine ⟨_, rfl, ?_⟩
        rw [gR]
        by_cases c1 : r.length < 5
        · rw [if_pos c1]
        · rw [if_neg c1, if_pos c2]
      obtain ⟨q, e, e2⟩ := e
      rw [e, e2]
      exact (read_new_cut h hv a d r c2 hr).mono fun e w' b => .inl ⟨by simp, b⟩
    · obtain ⟨_, b5, b6⟩ := bnum_11 r (by omega)
      by_cases c3 : 63 < bnum (r.take 5) + bnum ((r.drop 5).take 6)
      · have e : gR wn (true :: true :: r) = (0, wn, r, 3) := by rw [gR, if_neg (by omega), if_neg c2, if_pos c3]
        rw [e]
        exact (read_new_bad h hv a d r (by omega) c3 hr).mono fun e w' b => .inl ⟨by simp, b⟩
      · have hs : bnum (r.take 5) + (63 - bnum (r.take 5) - bnum ((r.drop 5).take 6)) + (bnum ((r.drop 5).take 6) + 1) = 64 := by omega
        by_cases c4 : r.length < 12 + bnum ((r.drop 5).take 6)
        · have e : gR wn (true :: true :: r) = (0, wn, r, 2) := by rw [gR, if_neg (by omega), if_neg c2, if_neg c3, if_pos c4]
          rw [e]
          exact (read_new_cut2 h hv a d _ _ _ r (by omega) rfl (by simp) hs (by omega) hr).mono fun e w' b => .inl ⟨by simp, b⟩
        · have e : gR wn (true :: true :: r) = (bnum ((r.drop 11).take (bnum ((r.drop 5).take 6) + 1)) * 2 ^ (63 - bnum (r.take 5) - bnum ((r.drop 5).take 6)), some (bnum (r.take 5), 63 - bnum (r.take 5) - bnum ((r.drop 5).take 6)), r.drop (12 + bnum ((r.drop 5).take 6)), 0) := by
            rw [gR, if_neg (by omega), if_neg c2, if_neg c3, if_neg c4]
          rw [e]
          refine (read_new h hv a d _ _ _ r (by omega) rfl (by simp) hs (by omega) hr).mono fun e w' b => .inr ⟨rfl, _, _, .inr ⟨_, rfl, by omega, hs, by omega⟩, ?_⟩
          rw [show 11 + (bnum ((r.drop 5).take 6) + 1) = 12 + bnum ((r.drop 5).take 6) by omega] at b
          exact b

/-- readAll under way: the reader, the window in its block K, the patterns so far -/
structure Rl (w : World) (R K : Nat) (v : Value) (ys : List Int) (wr : World) (l : Value) (acc : List Int) (p : Nat) (a d : Nat) : Prop where
  rd : RdAt 72 wr R v ys p
  on : Only (fun k => k = R) w wr
  own : wr.ownsRow w.heap.size 35 1 l acc.length (acc.map (Value.int .u64))
  nb : ∀ q, l.ownBlock = some q → q ≠ K
  gt : w.heap.size ≤ K
  box : wr.heap[K]? = some (.cells #[.int .i64 a, .int .i64 d] 42 (0, 0))
theorem Rl.next {w : World} {R K : Nat} {v : Value} {ys : List Int} {wr w2 : World} {l : Value} {acc : List Int} {p p2 a d : Nat} (h : Rl w R K v ys wr l acc p a d) (hR : R < w.heap.size) (hv : ∀ k, v.ownBlock = some k → k < w.heap.size)
    (h2 : RdAt 72 w2 R v ys p2) (o : Only (fun k => k = R) wr w2) (a2 d2 : Nat) : Rl w R K v ys ((w2.setCell ⟨K, 0, none⟩ (.int .i64 a2)).setCell ⟨K, 1, none⟩ (.int .i64 d2)) l acc p2 a2 d2 := by
  have hg := h.gt
  have hbox := o.heap h.box (fun e => by omega)
  have o2 := setCell2_only (w := w2) (K := K) (S := fun k => k = K) (.int .i64 a2) (.int .i64 d2) rfl
  have hown := o.own h.own (fun k hk e => by have := (h.own.lt k hk).1; omega)
  exact ⟨h2.keep o2 (fun f => by omega) (fun k hk f => by have := hv k hk; omega), (h.on.trans o (fun _ _ e => e)).trans o2 (fun k hk e => by omega), o2.own hown (fun k hk e => h.nb k hk e), h.nb, h.gt, setCell2_heap _ _ hbox⟩
theorem Rl.grow {w : World} {R K : Nat} {v : Value} {ys : List Int} {wr w2 : World} {l l2 : Value} {acc acc2 : List Int} {p a d : Nat} {o : Obj} (h : Rl w R K v ys wr l acc p a d) (hR : R < w.heap.size) (hv : ∀ k, v.ownBlock = some k → k < w.heap.size)
    (g : (wr.alloc o).grownBy w2 l.ownBlock) (own : w2.ownsRow w.heap.size 35 1 l2 acc2.length (acc2.map (Value.int .u64))) (hat : ∀ q, l2.ownBlock = some q → l.ownBlock = some q ∨ wr.heap.size ≤ q) : Rl w R K v ys w2 l2 acc2 p a d := by
  have hg := h.gt
  have oo : Only (fun k => l.ownBlock = some k) wr w2 := ((Only.refl (fun k => l.ownBlock = some k) wr).alloc o).grown g (fun k _ e => e)
  exact ⟨h.rd.keep oo (fun e => by have := (h.own.lt _ e).1; omega) (fun k hk e => by have := (h.own.lt _ e).1; have := hv k hk; omega),
    h.on.trans oo (fun k hk e => by have := (h.own.lt _ e).1; omega), own, fun q hq => by
      rcases hat q hq with e | e
      · exact h.nb q e
      · have := heap_in h.box; omega, h.gt, oo.heap h.box (fun e => h.nb _ e rfl)⟩
end Go.Proofs.YthpcibofcgjcdaaDoor
