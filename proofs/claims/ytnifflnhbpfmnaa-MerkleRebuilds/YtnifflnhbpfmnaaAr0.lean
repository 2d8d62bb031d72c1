/- Arrays of words and of bytes as values and in memory: what holds in every seat. -/
import Derived.Test.YtnifflnhbpfmnaaIu8
import Derived.Test.YtnifflnhbpfmnaaProg
import Derived.Test.YtnifflnhbpfmnaaBase
import Derived.Test.YtnifflnhbpfmnaaSw
import Derived.Deep.WholeRow
import Derived.Deep.MidRow
import Derived.Great.BuildSlice
namespace Go.Proofs.Ytnifflnhbpfmnaa
open Go.RowKit

/-- words as cells -/
def wl (s : List Nat) : List Value := s.map fun x => Value.int .u32 ((x : Nat) : Int)
/-- bytes as cells -/
def bl (p : List Int) : List Value := p.map (Value.int .u8)
theorem wl_len (s : List Nat) : (wl s).length = s.length := List.length_map ..
theorem bl_len (s : List Int) : (bl s).length = s.length := List.length_map ..
theorem wl_at (s : List Nat) (j : Nat) (h : j < s.length) : (wl s)[j]? = some (.int .u32 ((s.getD j 0 : Nat) : Int)) := by
  simp [wl, List.getD_eq_getElem?_getD, List.getElem?_eq_getElem h]
theorem bl_at (s : List Int) (j : Nat) (h : j < s.length) : (bl s)[j]? = some (.int .u8 (s.getD j 0)) := by
  simp [bl, List.getD_eq_getElem?_getD, List.getElem?_eq_getElem h]
theorem wl_one (s : List Nat) : ∀ v ∈ wl s, v.oneCell' = true := by
  intro u hu; simp [wl] at hu; obtain ⟨x, _, rfl⟩ := hu; rfl
theorem bl_one (s : List Int) : ∀ v ∈ bl s, v.oneCell' = true := oneCell_ints _ _
theorem wl_all (s : List Nat) : (wl s).toArray.all (·.oneCell') = true := all_oneCell_toArray (wl_one s)
theorem wl_app (s t : List Nat) : wl (s ++ t) = wl s ++ wl t := List.map_append ..
theorem wl_set (s : List Nat) (i x : Nat) : (wl s).set i (.int .u32 ((x : Nat) : Int)) = wl (s.set i x) := by
  simp [wl, List.map_set]
/-- a block that holds these cells -/
def Blk (w : World) (g : Nat) (t : TypeId) (cs : List Value) : Prop := w.heap[g]? = some (.cells cs.toArray t (0, 0))
theorem Blk.keep {w w' : World} {g : Nat} {t : TypeId} {cs : List Value} (h : Blk w g t cs) {S : Nat → Prop} (o : Only S w w') (hs : ¬ S g) : Blk w' g t cs := Only.heap o h hs
theorem Blk.past {w w' : World} {g : Nat} {t : TypeId} {cs : List Value} (h : Blk w g t cs) (o : Only (fun _ => False) w w') : Blk w' g t cs := h.keep o (fun f => f)
theorem Blk.lt {w : World} {g : Nat} {t : TypeId} {cs : List Value} (h : Blk w g t cs) : g < w.heap.size := (Array.getElem?_eq_some_iff.1 h).1
theorem Blk.cell {w : World} {g : Nat} {t : TypeId} {cs : List Value} (h : Blk w g t cs) (j : Nat) : w.cell? ⟨g, j, none⟩ = cs[j]? := by
  rw [cell_of_row w g j _ t _ h]; simp
theorem Blk.froz {w : World} {g : Nat} {t : TypeId} {cs : List Value} (h : Blk w g t cs) (j : Nat) : w.frozen? ⟨g, j, none⟩ = false := frozen_of_row w g j _ t h
theorem Blk.set {w : World} {g : Nat} {t : TypeId} {cs : List Value} (h : Blk w g t cs) (j : Nat) (v : Value) : Blk (w.setCell ⟨g, j, none⟩ v) g t (cs.set j v) := by
  have := heap_setCell_same w g j _ t v h
  simpa [Blk] using this
theorem Blk.drew {w : World} {g : Nat} {t : TypeId} {cs : List Value} (h : Blk w g t cs) : Blk w.drew g t cs := h
theorem Blk.alloc {w : World} {g : Nat} {t : TypeId} {cs : List Value} (h : Blk w g t cs) (o : Obj) : Blk (w.alloc o) g t cs := h.past ((Only.refl _ _).alloc o)
theorem Blk.new (w : World) (t : TypeId) (cs : List Value) : Blk (w.alloc (.cells cs.toArray t)) w.heap.size t cs := heap_alloc_last w _
theorem Blk.row {w : World} {g : Nat} {t : TypeId} {cs : List Value} (h : Blk w g t cs) (vs : List Value) : Blk (w.setRow g vs.toArray) g t vs := setRow_heap w g _ _ t _ h
theorem Only.setRow {S : Nat → Prop} {a b : World} (h : Only S a b) {g : Nat} (hp : g < a.heap.size → S g) (cs : Array Value) : Only S a (b.setRow g cs) :=
  h.trans (T := fun k => k = g) ⟨rfl, rfl, rfl, by simp, fun k _ hk => setRow_other b g k cs hk⟩ (fun _ hi e => by subst e; exact hp hi)
theorem Blk.there {w : World} {g : Nat} {t : TypeId} {cs : List Value} (h : Blk w g t cs) (o n : Nat) (hn : o + n ≤ cs.length) : w.there g o n := fun j hj => by
  rw [h.cell, h.froz, List.getElem?_eq_getElem (by omega)]
  exact ⟨rfl, rfl⟩
theorem Blk.range {w : World} {g : Nat} {t : TypeId} {a b c : List Value} (h : Blk w g t (a ++ b ++ c)) : w.rangeAt g a.length b := fun j v hv => by
  have hj := (List.getElem?_eq_some_iff.1 hv).1
  rw [h.cell, List.getElem?_append_left (by simp; omega), List.getElem?_append_right (by omega), Nat.add_sub_cancel_left]
  exact hv
theorem Blk.rangeN {w : World} {g : Nat} {t : TypeId} {a b c : List Value} (h : Blk w g t (a ++ b ++ c)) {n : Nat} (hn : a.length = n) : w.rangeAt g n b := by
  subst hn; exact h.range
theorem set_mid (a b c vs : List Value) (hv : vs.length = b.length) : ∀ (w : World) (g : Nat) (t : TypeId), Blk w g t (a ++ b ++ c) → Blk (w.setCells g a.length vs) g t (a ++ vs ++ c) := by
  induction vs generalizing a b with
  | nil =>
    intro w g t h
    cases b with
    | nil => exact h
    | cons y b => simp at hv
  | cons v vs ih =>
    intro w g t h
    cases b with
    | nil => simp at hv
    | cons y b =>
      have h2 : Blk (w.setCell ⟨g, a.length, none⟩ v) g t ((a ++ [v]) ++ b ++ c) := by
        have := h.set a.length v
        simpa [List.set_append] using this
      have := ih (a ++ [v]) b (by simpa using hv) _ g t h2
      simpa [World.setCells] using this
theorem Only.setCells {S : Nat → Prop} {a : World} {g : Nat} (hp : g < a.heap.size → S g) (vs : List Value) : ∀ (o : Nat) (b : World), Only S a b → Only S a (b.setCells g o vs) := by
  induction vs with
  | nil => intro o b h; exact h
  | cons v vs ih =>
    intro o b h
    exact ih (o + 1) _ (h.setCell (p := ⟨g, o, none⟩) hp v)

theorem wpList_build_as {P : Program} {ops : Array Oper} {rest : List Oper} {o : Oper} {a : Act} {w : World} {Q : Exit → Act → World → Prop} (hg : o.guard = none) (t : TypeId) (parts : Array (Nat × Operand)) (ho : o.op = .build t parts)
    (cells : Array Value) (hc : P.built t (parts.map fun (i, x) => (i, a.eval x)).toList = some cells) (h : wpList P ops Q rest (a.put o.dst (.agg cells)) w) : wpList P ops Q (o :: rest) a w :=
  wpList_build hg t parts ho (by rw [hc]; rfl) (by rw [hc]; exact h)

/-- one cell of an array value -/
theorem run_index_cell (t e : TypeId) (n : Nat) (cs : List Value) (j : Nat) (u : Value) (h : Try.prog.underlying t = some (.array n e)) (ha : (∀ w, (isAgg e).run Try.prog w = .ok false w)) (hs : (Try.prog.info? e).map (·.size) = some 1) (hj : j < n) (hu : cs[j]? = some u) (w : World) :
    (Instr.index t (.agg cs.toArray) (.int .i64 j)).run Try.prog w = .ok u w := by
  have h1 : (0 : Int) ≤ (j : Int) ∧ (j : Int) < (n : Int) := by omega
  cases hq : Try.prog.info? e with
  | none => simp [hq] at hs
  | some i =>
    have hi : i.size = 1 := by simpa [hq] using hs
    simp [Instr.index, run_underlying h, asIntOf, h1, sizeOf, typeInfo, hq, hi, ha, hu, go_sem]
    omega
theorem size_alloc (w : World) (o : Obj) : (w.alloc o).heap.size = w.heap.size + 1 := Array.size_push ..
theorem take_nextN (s : List Nat) (j : Nat) (h : j < s.length) : s.take (j + 1) = s.take j ++ [s.getD j 0] := by
  rw [List.take_add_one, List.getElem?_eq_getElem h, List.getD_eq_getElem?_getD, List.getElem?_eq_getElem h]; rfl
theorem Try.agg29 (w : World) : (isAgg 57).run Try.prog w = .ok false w := by kernel_rfl
theorem Try.agg5 (w : World) : (isAgg 5).run Try.prog w = .ok false w := by kernel_rfl
theorem Try.one29 : (Try.prog.info? 57).map (·.size) = some 1 := by kernel_rfl
theorem Try.one5 : (Try.prog.info? 5).map (·.size) = some 1 := by kernel_rfl
theorem Try.infoU32 : (Try.prog.info? 57).map (fun i => (i.zero, i.size, i.bytes)) = some (some (.int .u32 0), 1, 4) := by kernel_rfl
/-- words as numbers -/
def wi (s : List Nat) : List Int := s.map fun x => ((x : Nat) : Int)
theorem wi_len (s : List Nat) : (wi s).length = s.length := List.length_map ..
theorem wi_at (s : List Nat) (j : Nat) : (wi s).getD j 0 = ((s.getD j 0 : Nat) : Int) := by
  simp only [wi, List.getD_eq_getElem?_getD, List.getElem?_map]
  cases s[j]? <;> rfl
theorem wi_map (s : List Nat) : (wi s).map (Value.int .u32) = wl s := by simp [wi, wl]
theorem Bs.of_wl {w : World} {g : Nat} {E : TypeId} {s : List Nat} (h : Blk w g E (wl s)) (n : Nat) (hn : s.length = n) : Bs .u32 w (.slice (some ⟨g, 0, none⟩) n n) (wi s) := by
  refine ⟨_, n, by rw [wi_len, hn], by rw [wi_len, hn]; exact Nat.le_refl _, fun _ => ⟨g, 0, rfl, fun j hj => ?_⟩⟩
  rw [wi_len] at hj
  rw [Nat.zero_add, h.cell, wl_at s j hj, wi_at]
/-- one word of a slice of words -/
theorem ws_cell {w : World} {b off : Nat} {n cap : Nat} {s : List Nat} (h : Bs .u32 w (.slice (some ⟨b, off, none⟩) n cap) (wi s)) (j : Nat) (hj : j < s.length) : w.cell? ⟨b, off + j, none⟩ = some (.int .u32 ((s.getD j 0 : Nat) : Int)) := by
  obtain ⟨b', off', cap', e, hc⟩ := h.at j (by rw [wi_len]; exact hj)
  simp at e
  obtain ⟨⟨rfl, rfl⟩, _, rfl⟩ := e
  rw [hc, wi_at]

theorem cell_off (w : World) (G i j : Nat) (v : Value) (h : ¬ i = j) : (w.setCell ⟨G, i, none⟩ v).cell? ⟨G, j, none⟩ = w.cell? ⟨G, j, none⟩ := World.cell?_setCell_other _ _ _ _ (fun e => h (by cases e; rfl))
theorem own_of_blk {w : World} {base g : Nat} {E : TypeId} {cs : List Value} {n : Nat} (h : Blk w g E cs) (hb : base ≤ g) (hm : n ≤ maxLen) (hc : cs.length = n) :
    w.ownsRow base E 1 (.slice (some ⟨g, 0, none⟩) n n) n cs :=
  ⟨by omega, .inr ⟨g, n, cs.toArray, rfl, hb, h, Nat.le_refl _, hm, by simpa using hc, by simp [← hc]⟩⟩
theorem bl_set (s : List Int) (i : Nat) (x : Int) : (bl s).set i (.int .u8 x) = bl (s.set i x) := by simp [bl, List.map_set]
end Go.Proofs.Ytnifflnhbpfmnaa
