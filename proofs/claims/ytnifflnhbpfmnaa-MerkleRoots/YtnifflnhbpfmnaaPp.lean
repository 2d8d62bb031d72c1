/- Parts in memory: slices of bytes that lie one behind the other in a row. -/
import Derived.Test.YtnifflnhbpfmnaaSw
import Derived.Test.YtnifflnhbpfmnaaAr0
namespace Go.Proofs.Ytnifflnhbpfmnaa
open Go.RowKit

/-- the first k parts, one behind the other -/
def pcat (ls : Nat → List Int) : Nat → List Int
  | 0 => []
  | k + 1 => pcat ls k ++ ls k
theorem pcat_le (ls : Nat → List Int) (k n : Nat) (h : k ≤ n) : (pcat ls k).length ≤ (pcat ls n).length := by
  induction n with
  | zero => obtain rfl : k = 0 := by omega
            exact Nat.le_refl _
  | succ n ih =>
    by_cases e : k = n + 1
    · subst e; exact Nat.le_refl _
    · have := ih (by omega)
      rw [pcat, List.length_append]; omega
/-- parts in memory -/
def Ps (w : World) (p n : Nat) (ls : Nat → List Int) : Prop := ∀ i, i < n → ∃ u, w.cell? ⟨p, i, none⟩ = some u ∧ Bs .u8 w u (ls i) ∧ U8 (ls i)
theorem cell_past {w w' : World} {q : Addr} {u : Value} (h : w.cell? q = some u) (o : Only (fun _ => False) w w') : w'.cell? q = some u := by
  rw [← h]
  exact World.cell?_of_block (o.block _ (World.block_lt_of_cell? w _ h) (fun f => f))
theorem Ps.past {w w' : World} {p n : Nat} {ls : Nat → List Int} (h : Ps w p n ls) (o : Only (fun _ => False) w w') : Ps w' p n ls := fun i hi => by
  obtain ⟨u, h1, h2, h3⟩ := h i hi
  exact ⟨u, cell_past h1 o, h2.past o, h3⟩
theorem Blk.bs {w : World} {g : Nat} {t : TypeId} {xs : List Int} (h : Blk w g t (bl xs)) (n : Nat) (hn : xs.length = n) : Bs .u8 w (.slice (some ⟨g, 0, none⟩) n n) xs := by
  subst hn
  refine ⟨_, _, rfl, Nat.le_refl _, fun _ => ⟨g, 0, rfl, fun j hj => ?_⟩⟩
  rw [Nat.zero_add, h.cell, bl_at _ _ hj]
theorem Ps.one {w : World} {u : Value} {xs : List Int} (h : Bs .u8 w u xs) (h8 : U8 xs) : Ps (w.alloc (.cells #[u] 22)) w.heap.size 1 (fun _ => xs) := fun i hi => by
  obtain rfl : i = 0 := by omega
  refine ⟨u, ?_, h.past ((Only.refl _ _).alloc _), h8⟩
  have := (Blk.new w 22 [u]).cell 0
  rw [this]; rfl
theorem pcat_one (xs : List Int) : pcat (fun _ => xs) 1 = xs := List.nil_append _
def ptwo (a b : List Int) (i : Nat) : List Int := if i = 0 then a else b
theorem pcat_two (a b : List Int) : pcat (ptwo a b) 2 = a ++ b := by
  show (([] ++ a) ++ b : List Int) = _
  rw [List.nil_append]
theorem Ps.two {w : World} {p u : Value} {a b : List Int} (ha : Bs .u8 w p a) (hb : Bs .u8 w u b) (a8 : U8 a) (b8 : U8 b) :
    Ps (w.alloc (.cells #[p, u] 22)) w.heap.size 2 (ptwo a b) := fun i hi => by
  have o : Only (fun _ => False) w (w.alloc (.cells #[p, u] 22)) := (Only.refl _ _).alloc _
  have hB := Blk.new w 22 [p, u]
  rcases (show i = 0 ∨ i = 1 by omega) with rfl | rfl
  · exact ⟨p, hB.cell 0, ha.past o, a8⟩
  · exact ⟨u, hB.cell 1, hb.past o, b8⟩
end Go.Proofs.Ytnifflnhbpfmnaa
