/- Arrays of words and of bytes as values and in memory; the constants. -/
import Derived.Test.YtjljpdniofiaaaaRt
import Derived.Deep.WholeRow
import Derived.Deep.MidRow
namespace Go.Proofs.Ytjljpdniofiaaaa
open Go.RowKit

/-- words as cells -/
def wl (s : List Nat) : List Value := s.map fun x => Value.int .u32 ((x : Nat) : Int)
/-- bytes as cells -/
def bl (p : List Int) : List Value := p.map (Value.int .u8)
theorem wl_len (s : List Nat) : (wl s).length = s.length := List.length_map ..
theorem bl_len (s : List Int) : (bl s).length = s.length := List.length_map ..
theorem wl_at (s : List Nat) (j : Nat) (h : j < s.length) : (wl s)[j]? = some (.int .u32 ((s.getD j 0 : Nat) : Int)) := by
  simp [wl, List.getD_eq_getElem?_getD, List.getElem?_eq_getElem h]
theorem bl_at (s : List Int) (j : Nat) (h : j < s.length) : (bl s)[j]? = some (.int .u8 (s.getD j 0)) := by
  simp [bl, List.getD_eq_getElem?_getD, List.getElem?_eq_getElem h]
theorem wl_one (s : List Nat) : ∀ v ∈ wl s, v.oneCell' = true := by
  intro u hu; simp [wl] at hu; obtain ⟨x, _, rfl⟩ := hu; rfl
theorem bl_one (s : List Int) : ∀ v ∈ bl s, v.oneCell' = true := oneCell_ints _ _
theorem wl_all (s : List Nat) : (wl s).toArray.all (·.oneCell') = true := all_oneCell_toArray (wl_one s)
theorem wl_app (s t : List Nat) : wl (s ++ t) = wl s ++ wl t := List.map_append ..
theorem wl_set (s : List Nat) (i x : Nat) : (wl s).set i (.int .u32 ((x : Nat) : Int)) = wl (s.set i x) := by
  simp [wl, List.map_set]
/-- a block that holds these cells -/
def Blk (w : World) (g : Nat) (t : TypeId) (cs : List Value) : Prop := w.heap[g]? = some (.cells cs.toArray t (0, 0))
theorem Blk.keep {w w' : World} {g : Nat} {t : TypeId} {cs : List Value} (h : Blk w g t cs) {S : Nat → Prop} (o : Only S w w') (hs : ¬ S g) : Blk w' g t cs := Only.heap o h hs
theorem Blk.past {w w' : World} {g : Nat} {t : TypeId} {cs : List Value} (h : Blk w g t cs) (o : Only (fun _ => False) w w') : Blk w' g t cs := h.keep o (fun f => f)
theorem Blk.lt {w : World} {g : Nat} {t : TypeId} {cs : List Value} (h : Blk w g t cs) : g < w.heap.size := (Array.getElem?_eq_some_iff.1 h).1
theorem Blk.cell {w : World} {g : Nat} {t : TypeId} {cs : List Value} (h : Blk w g t cs) (j : Nat) : w.cell? ⟨g, j, none⟩ = cs[j]? := by
  rw [cell_of_row w g j _ t _ h]; simp
theorem Blk.froz {w : World} {g : Nat} {t : TypeId} {cs : List Value} (h : Blk w g t cs) (j : Nat) : w.frozen? ⟨g, j, none⟩ = false := frozen_of_row w g j _ t h
theorem Blk.set {w : World} {g : Nat} {t : TypeId} {cs : List Value} (h : Blk w g t cs) (j : Nat) (v : Value) : Blk (w.setCell ⟨g, j, none⟩ v) g t (cs.set j v) := by
  have := heap_setCell_same w g j _ t v h
  simpa [Blk] using this
theorem Blk.drew {w : World} {g : Nat} {t : TypeId} {cs : List Value} (h : Blk w g t cs) : Blk w.drew g t cs := h
theorem Blk.alloc {w : World} {g : Nat} {t : TypeId} {cs : List Value} (h : Blk w g t cs) (o : Obj) : Blk (w.alloc o) g t cs := h.past ((Only.refl _ _).alloc o)
theorem Blk.new (w : World) (t : TypeId) (cs : List Value) : Blk (w.alloc (.cells cs.toArray t)) w.heap.size t cs := heap_alloc_last w _
theorem Blk.row {w : World} {g : Nat} {t : TypeId} {cs : List Value} (h : Blk w g t cs) (vs : List Value) : Blk (w.setRow g vs.toArray) g t vs := setRow_heap w g _ _ t _ h
theorem Only.setRow {S : Nat → Prop} {a b : World} (h : Only S a b) {g : Nat} (hp : g < a.heap.size → S g) (cs : Array Value) : Only S a (b.setRow g cs) :=
  h.trans (T := fun k => k = g) ⟨rfl, rfl, rfl, by simp, fun k _ hk => setRow_other b g k cs hk⟩ (fun _ hi e => by subst e; exact hp hi)
theorem Blk.there {w : World} {g : Nat} {t : TypeId} {cs : List Value} (h : Blk w g t cs) (o n : Nat) (hn : o + n ≤ cs.length) : w.there g o n := fun j hj => by
  rw [h.cell, h.froz, List.getElem?_eq_getElem (by omega)]
  exact ⟨rfl, rfl⟩
theorem Blk.range {w : World} {g : Nat} {t : TypeId} {a b c : List Value} (h : Blk w g t (a ++ b ++ c)) : w.rangeAt g a.length b := fun j v hv => by
  have hj := (List.getElem?_eq_some_iff.1 hv).1
  rw [h.cell, List.getElem?_append_left (by simp; omega), List.getElem?_append_right (by omega), Nat.add_sub_cancel_left]
  exact hv
theorem Blk.rangeN {w : World} {g : Nat} {t : TypeId} {a b c : List Value} (h : Blk w g t (a ++ b ++ c)) {n : Nat} (hn : a.length = n) : w.rangeAt g n b := by
  subst hn; exact h.range
theorem set_mid (a b c vs : List Value) (hv : vs.length = b.length) : ∀ (w : World) (g : Nat) (t : TypeId), Blk w g t (a ++ b ++ c) → Blk (w.setCells g a.length vs) g t (a ++ vs ++ c) := by
  induction vs generalizing a b with
  | nil =>
    intro w g t h
    cases b with
    | nil => exact h
    | cons y b => simp at hv
  | cons v vs ih =>
    intro w g t h
    cases b with
    | nil => simp at hv
    | cons y b =>
      have h2 : Blk (w.setCell ⟨g, a.length, none⟩ v) g t ((a ++ [v]) ++ b ++ c) := by
        have := h.set a.length v
        simpa [List.set_append] using this
      have := ih (a ++ [v]) b (by simpa using hv) _ g t h2
      simpa [World.setCells] using this
theorem Only.setCells {S : Nat → Prop} {a : World} {g : Nat} (hp : g < a.heap.size → S g) (vs : List Value) : ∀ (o : Nat) (b : World), Only S a b → Only S a (b.setCells g o vs) := by
  induction vs with
  | nil => intro o b h; exact h
  | cons v vs ih =>
    intro o b h
    exact ih (o + 1) _ (h.setCell (p := ⟨g, o, none⟩) hp v)

theorem wpList_build_as {P : Program} {ops : Array Oper} {rest : List Oper} {o : Oper} {a : Act} {w : World} {Q : Exit → Act → World → Prop} (hg : o.guard = none) (t : TypeId) (parts : Array (Nat × Operand)) (ho : o.op = .build t parts)
    (cells : Array Value) (hc : P.built t (parts.map fun (i, x) => (i, a.eval x)).toList = some cells) (h : wpList P ops Q rest (a.put o.dst (.agg cells)) w) : wpList P ops Q (o :: rest) a w :=
  wpList_build hg t parts ho (by rw [hc]; rfl) (by rw [hc]; exact h)

theorem Try.size30 : (Try.prog.info? 41).map (·.size) = some 8 := by kernel_rfl
theorem Try.size31 : (Try.prog.info? 42).map (·.size) = some 64 := by kernel_rfl
theorem Try.size52 : (Try.prog.info? 64).map (·.size) = some 64 := by kernel_rfl
theorem Try.size33 : (Try.prog.info? 44).map (·.size) = some 73 := by kernel_rfl
theorem z30 : (wl (List.replicate 8 0)).toArray = #[.int .u32 0, .int .u32 0, .int .u32 0, .int .u32 0, .int .u32 0, .int .u32 0, .int .u32 0, .int .u32 0] := rfl

set_option maxHeartbeats 800000 in
set_option maxRecDepth 100000 in
theorem first_any (w : World) : Calls Try.prog 33 #[] w fun e w' => e = .returned (.agg (wl shH).toArray) ∧ Only (fun _ => False) w w' := by
  go_enter Try.func33, Try.ntmps33
  go_wp2_with (first | (refine wpList_build_as rfl 41 _ rfl (wl shH).toArray (by kernel_rfl) ?_) | (refine wpList_store_row rfl 41 (.tmp 0) (.tmp 1) rfl w.heap.size (wl shH).toArray rfl rfl 41 (wl (List.replicate 8 0)).toArray (heap_alloc_last w _) Try.size30 rfl (wl_all _) ?_))
  refine bodyPost_ret (v := .agg (wl shH).toArray) (results_cell_row rfl _ _ w.heap.size 41 (wl shH).toArray (0, 0) _ rfl (setRow_heap _ _ _ _ 41 _ (heap_alloc_last w _)) Try.underlying41 rfl Try.size30) rfl ⟨rfl, ?_⟩
  exact ((Only.refl _ _).alloc _).setRow (fun h => absurd h (Nat.lt_irrefl _)) _
def zK : List Value := wl (List.replicate 64 0)
set_option maxHeartbeats 800000 in
set_option maxRecDepth 100000 in
theorem constants_any (w : World) : Calls Try.prog 40 #[] w fun e w' => e = .returned (.agg (wl shK).toArray) ∧ Only (fun _ => False) w w' := by
  go_enter Try.func40, Try.ntmps40
  go_wp2_with (first | (refine wpList_build_as rfl 64 _ rfl (wl shK).toArray (by kernel_rfl) ?_) | (refine wpList_store_row rfl 64 (.tmp 0) (.tmp 1) rfl w.heap.size (wl shK).toArray rfl rfl 64 zK.toArray (heap_alloc_last w _) Try.size52 (by kernel_rfl) (wl_all _) ?_))
  refine bodyPost_ret (v := .agg (wl shK).toArray) (results_cell_row rfl _ _ w.heap.size 64 (wl shK).toArray (0, 0) _ rfl (setRow_heap _ _ zK.toArray _ 64 _ (heap_alloc_last w _)) Try.underlying64 rfl Try.size52) rfl ⟨rfl, ?_⟩
  exact ((Only.refl _ _).alloc _).setRow (fun h => absurd h (Nat.lt_irrefl _)) _
end Go.Proofs.Ytjljpdniofiaaaa
