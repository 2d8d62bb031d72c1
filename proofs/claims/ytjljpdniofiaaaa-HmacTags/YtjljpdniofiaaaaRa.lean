/- The document's own answer: turning a word about, the constants. -/
import Derived.Test.YtjljpdniofiaaaaEd
import Derived.Great.BuildSlice
namespace Go.Proofs.Ytjljpdniofiaaaa
open Go.RowKit

set_option maxHeartbeats 400000 in
set_option maxRecDepth 100000 in
theorem rrot_any (x n : Nat) (w : World) (hx : x < 4294967296) (h1 : 1 ≤ n) (h2 : n ≤ 31) :
    Calls Try.prog 38 #[.int .u32 x, .int .u64 n] w fun e w' => e = .returned (.int .u32 (rotw x n : Nat)) ∧ w = w' := by
  go_enter Try.func38, Try.ntmps38
  go_wp2
  go_ret
  refine ⟨ret_int ?_, rfl⟩
  rw [show ((x : Int) * 2 ^ (32 - n) % 4294967296) = ((x * 2 ^ (32 - n) % 4294967296 : Nat) : Int) by simp, show ((x : Int) / 2 ^ n) = ((x / 2 ^ n : Nat) : Int) by simp,
    u32_or_nat _ _ (shr_lt _ _ hx) (Nat.mod_lt _ (by decide))]
  rfl
/-- words as numbers -/
def wi (s : List Nat) : List Int := s.map fun x => ((x : Nat) : Int)
theorem wi_len (s : List Nat) : (wi s).length = s.length := List.length_map ..
theorem wi_at (s : List Nat) (j : Nat) : (wi s).getD j 0 = ((s.getD j 0 : Nat) : Int) := by
  simp only [wi, List.getD_eq_getElem?_getD, List.getElem?_map]
  cases s[j]? <;> rfl
theorem wi_map (s : List Nat) : (wi s).map (Value.int .u32) = wl s := by simp [wi, wl]
theorem Bs.of_wl {w : World} {g : Nat} {E : TypeId} {s : List Nat} (h : Blk w g E (wl s)) (n : Nat) (hn : s.length = n) : Bs .u32 w (.slice (some ⟨g, 0, none⟩) n n) (wi s) := by
  refine ⟨_, n, by rw [wi_len, hn], by rw [wi_len, hn]; exact Nat.le_refl _, fun _ => ⟨g, 0, rfl, fun j hj => ?_⟩⟩
  rw [wi_len] at hj
  rw [Nat.zero_add, h.cell, wl_at s j hj, wi_at]
/-- one word of a slice of words -/
theorem ws_cell {w : World} {b off : Nat} {n cap : Nat} {s : List Nat} (h : Bs .u32 w (.slice (some ⟨b, off, none⟩) n cap) (wi s)) (j : Nat) (hj : j < s.length) : w.cell? ⟨b, off + j, none⟩ = some (.int .u32 ((s.getD j 0 : Nat) : Int)) := by
  obtain ⟨b', off', cap', e, hc⟩ := h.at j (by rw [wi_len]; exact hj)
  simp at e
  obtain ⟨⟨rfl, rfl⟩, _, rfl⟩ := e
  rw [hc, wi_at]

set_option maxHeartbeats 800000 in
set_option maxRecDepth 100000 in
theorem rconst_any (w : World) : Calls Try.prog 29 #[] w fun e w' => e = .returned (.tuple #[.slice (some ⟨w.heap.size, 0, none⟩) 64 64, .slice (some ⟨w.heap.size + 1, 0, none⟩) 8 8]) ∧ Blk w' w.heap.size 40 (wl shK) ∧ Blk w' (w.heap.size + 1) 40 (wl shH) ∧ Only (fun _ => False) w w' := by
  go_enter Try.func29, Try.ntmps29
  go_wp2_with (first | (refine wpList_buildSlice rfl 51 40 64 _ rfl (wl shK).toArray Try.t40 (.int .u32 0) Try.underlying51 (by kernel_rfl) (by kernel_rfl) (by decide) (by decide) (by kernel_rfl) ?_) | (refine wpList_buildSlice rfl 51 40 8 _ rfl (wl shH).toArray Try.t40 (.int .u32 0) Try.underlying51 (by kernel_rfl) (by kernel_rfl) (by decide) (by decide) (by kernel_rfl) ?_))
  go_ret2
  refine ⟨rfl, (Blk.new w 40 (wl shK)).alloc _, ?_, ((Only.refl _ _).alloc _).alloc _⟩
  have := Blk.new (w.alloc (.cells (wl shK).toArray 40)) 40 (wl shH)
  rw [size_alloc] at this
  exact this
end Go.Proofs.Ytjljpdniofiaaaa
