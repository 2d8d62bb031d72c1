/- Conversions: '[]byte(s)' and 'string(b)'. -/
import Derived.Test.YtbcfpiahhippaaaProg
import Derived.Test.YtbcfpiahhippaaaBase
import Derived.Test.YtbcfpiahhippaaaSb0
import Derived.OpenShut
namespace Go.Proofs.Ytbcfpiahhippaaa
open Go.RowKit

set_option maxRecDepth 100000 in
theorem bytes_of (w : World) (s : ByteArray) : ∃ c w', (convert 9 22 (.string s)).run Try.prog w = .ok (.slice (some ⟨w.heap.size, 0, none⟩) s.size c) w' ∧ Bs .u8 w' (.slice (some ⟨w.heap.size, 0, none⟩) s.size c) (sb s) ∧ Only (fun _ => False) w w' ∧ w'.heap.size = w.heap.size + 1 := by
  refine ⟨_, _, run_bytes_of_string (P := Try.prog) w 9 22 5 s Try.underlying9 Try.underlying22 Try.underlying5, ?_, ?_, ?_⟩
  · have hg := grownCap_ge w s.size 0 5
    refine ⟨some _, _, by rw [sb_len], by rw [sb_len]; omega, fun _ => ⟨w.heap.size, 0, rfl, fun j hj => ?_⟩⟩
    rw [sb_len] at hj
    rw [show w.heap.size = w.drew.heap.size from rfl, World.cell?_alloc_mark]
    simp [bytesRow, Array.getElem?_append, hj, sb, List.getD_eq_getElem?_getD]
  · exact ((Only.refl _ w).drew).alloc _
  · simp
set_option maxRecDepth 100000 in
theorem string_of (w : World) (v : Value) (xs : List Int) (h : Bs .u8 w v xs) : (convert 22 9 v).run Try.prog w = .ok (.string (strOfNums xs)) w := by
  obtain ⟨ao, cap, rfl, hl, hc⟩ := h
  cases ao with
  | none =>
    have hx : xs = [] := by
      by_cases hx : xs = []
      · exact hx
      · obtain ⟨b, off, e, _⟩ := hc hx; cases e
    subst hx
    rw [run_convert_bytes_nil w 22 5 Try.underlying22 Try.underlying5 _ _ _ Try.underlying9]
    rfl
  | some a =>
    by_cases hx : xs = []
    · subst hx
      obtain ⟨b, off, spot⟩ := a
      rw [run_convert_bytes_string w 22 9 5 _ _ _ Try.underlying22 Try.underlying5 Try.underlying9]
      have hl0 := run_loadCells_list (P := Try.prog) w ⟨b, off, spot⟩ [] (fun j u hj => by simp at hj)
      rw [List.length_nil] at *
      rw [run_bytesToString w _ 0 cap [] (by simpa using hl0)]
      rfl
    · obtain ⟨b, off, e, hcell⟩ := hc hx
      cases e
      exact run_convert_bytes_arg w 22 5 Try.underlying22 Try.underlying5 b off xs.length cap xs rfl hcell _ Try.underlying9
def bytesObj (t : ByteArray) (c : Nat) : Obj := .cells (bytesRow t c) 5 ((bytesRow t c).size, (bytesRow t c).size + 1)
theorem conv_bytes (t : ByteArray) (W : World) : (convert 9 22 (.string t)).run Try.prog W = .ok (.slice (some ⟨W.heap.size, 0, none⟩) t.size (grownCap W t.size 0 5)) (W.drew.alloc (bytesObj t (grownCap W t.size 0 5))) :=
  run_bytes_of_string (P := Try.prog) W 9 22 5 t Try.underlying9 Try.underlying22 Try.underlying5
theorem bytesObj_bs {W : World} {t : ByteArray} {b c : Nat} (h : W.heap[b]? = some (bytesObj t c)) (hc : t.size ≤ c) : Bs .u8 W (.slice (some ⟨b, 0, none⟩) t.size c) (sb t) := by
  refine ⟨some _, _, by rw [sb_len], by rw [sb_len]; omega, fun _ => ⟨b, 0, rfl, fun j hj => ?_⟩⟩
  rw [sb_len] at hj
  have e : W.cell? ⟨b, 0 + j, none⟩ = (bytesRow t c)[j]? := by rw [Nat.zero_add]; unfold World.cell?; simp only; rw [h]; rfl
  rw [e]
  simp [bytesRow, Array.getElem?_append, hj, sb, List.getD_eq_getElem?_getD]
theorem heap_alloc_old {W : World} {k : Nat} {x o : Obj} (h : W.heap[k]? = some x) : (W.alloc o).heap[k]? = some x := by
  have hk : k < W.heap.size := by
    rcases Nat.lt_or_ge k W.heap.size with h' | h'
    · exact h'
    · rw [Array.getElem?_eq_none h'] at h; cases h
  show (W.heap.push o)[k]? = _
  rw [Array.getElem?_push, if_neg (by omega)]; exact h
theorem heap_at_new {W : World} {k : Nat} {o : Obj} (h : W.heap.size = k) : (W.alloc o).heap[k]? = some o := by subst h; exact heap_alloc_new W o
theorem heap_drew_at {W : World} {k : Nat} {x : Obj} (h : W.heap[k]? = some x) : W.drew.heap[k]? = some x := h
end Go.Proofs.Ytbcfpiahhippaaa
