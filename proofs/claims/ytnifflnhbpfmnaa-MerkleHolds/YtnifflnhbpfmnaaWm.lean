/- The walk: its closure, made. -/
import Derived.Test.YtnifflnhbpfmnaaWk
namespace Go.Proofs.Ytnifflnhbpfmnaa
open Go.RowKit

theorem Blk.newAt {w : World} {G : Nat} (h : w.heap.size = G) (t : TypeId) (cs : List Value) : Blk (w.alloc (.cells cs.toArray t)) G t cs := by
  subst h; exact Blk.new w t cs
/-- the world in which the walk begins -/
theorem WK.made (w : World) (i j : Nat) (fa fb fc fp : Value) (tf tg th : TypeId) :
    WK ((((((w.alloc (.cells #[.int .i64 (i : Int)] 3)).alloc (.cells #[.int .i64 (j : Int)] 3)).alloc (.cells #[fa] tf)).alloc (.cells #[fb] tf)).alloc (.cells #[fc] tg)).alloc (.cells #[fp] th)) w.heap.size (w.heap.size + 1) (w.heap.size + 1 + 1) (w.heap.size + 1 + 1 + 1) (w.heap.size + 1 + 1 + 1 + 1) (w.heap.size + 1 + 1 + 1 + 1 + 1) i j fa fb fc fp
    ∧ Only (fun _ => False) w ((((((w.alloc (.cells #[.int .i64 (i : Int)] 3)).alloc (.cells #[.int .i64 (j : Int)] 3)).alloc (.cells #[fa] tf)).alloc (.cells #[fb] tf)).alloc (.cells #[fc] tg)).alloc (.cells #[fp] th)) := by
  obtain ⟨w1, h1⟩ : ∃ w1, w1 = w.alloc (.cells #[.int .i64 (i : Int)] 3) := ⟨_, rfl⟩
  obtain ⟨w2, h2⟩ : ∃ w2, w2 = w1.alloc (.cells #[.int .i64 (j : Int)] 3) := ⟨_, rfl⟩
  obtain ⟨w3, h3⟩ : ∃ w3, w3 = w2.alloc (.cells #[fa] tf) := ⟨_, rfl⟩
  obtain ⟨w4, h4⟩ : ∃ w4, w4 = w3.alloc (.cells #[fb] tf) := ⟨_, rfl⟩
  obtain ⟨w5, h5⟩ : ∃ w5, w5 = w4.alloc (.cells #[fc] tg) := ⟨_, rfl⟩
  obtain ⟨w6, h6⟩ : ∃ w6, w6 = w5.alloc (.cells #[fp] th) := ⟨_, rfl⟩
  rw [← h1, ← h2, ← h3, ← h4, ← h5, ← h6]
  have s1 : w1.heap.size = w.heap.size + 1 := by rw [h1, size_alloc]
  have s2 : w2.heap.size = w.heap.size + 1 + 1 := by rw [h2, size_alloc, s1]
  have s3 : w3.heap.size = w.heap.size + 1 + 1 + 1 := by rw [h3, size_alloc, s2]
  have s4 : w4.heap.size = w.heap.size + 1 + 1 + 1 + 1 := by rw [h4, size_alloc, s3]
  have s5 : w5.heap.size = w.heap.size + 1 + 1 + 1 + 1 + 1 := by rw [h5, size_alloc, s4]
  have o2 : Only (fun _ => False) w1 w2 := by rw [h2]; exact (Only.refl _ _).alloc _
  have o3 : Only (fun _ => False) w2 w3 := by rw [h3]; exact (Only.refl _ _).alloc _
  have o4 : Only (fun _ => False) w3 w4 := by rw [h4]; exact (Only.refl _ _).alloc _
  have o5 : Only (fun _ => False) w4 w5 := by rw [h5]; exact (Only.refl _ _).alloc _
  have o6 : Only (fun _ => False) w5 w6 := by rw [h6]; exact (Only.refl _ _).alloc _
  have o1 : Only (fun _ => False) w w1 := by rw [h1]; exact (Only.refl _ _).alloc _
  have b1 : Blk w1 w.heap.size 3 [.int .i64 (i : Int)] := by rw [h1]; exact Blk.new w 3 [.int .i64 (i : Int)]
  have b2 : Blk w2 (w.heap.size + 1) 3 [.int .i64 (j : Int)] := by rw [h2]; exact Blk.newAt s1 3 [.int .i64 (j : Int)]
  have b3 : Blk w3 (w.heap.size + 1 + 1) tf [fa] := by rw [h3]; exact Blk.newAt s2 tf [fa]
  have b4 : Blk w4 (w.heap.size + 1 + 1 + 1) tf [fb] := by rw [h4]; exact Blk.newAt s3 tf [fb]
  have b5 : Blk w5 (w.heap.size + 1 + 1 + 1 + 1) tg [fc] := by rw [h5]; exact Blk.newAt s4 tg [fc]
  have b6 : Blk w6 (w.heap.size + 1 + 1 + 1 + 1 + 1) th [fp] := by rw [h6]; exact Blk.newAt s5 th [fp]
  exact ⟨⟨(((((b1.past o2).past o3).past o4).past o5).past o6).cell 0, ((((b2.past o3).past o4).past o5).past o6).cell 0, (((b3.past o4).past o5).past o6).cell 0, ((b4.past o5).past o6).cell 0, (b5.past o6).cell 0, b6.cell 0⟩, ((((o1.same o2).same o3).same o4).same o5).same o6⟩
end Go.Proofs.Ytnifflnhbpfmnaa
