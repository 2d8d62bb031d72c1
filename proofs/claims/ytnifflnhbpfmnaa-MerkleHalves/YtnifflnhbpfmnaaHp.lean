/- What a Hash holds when so many bytes were written: plain facts. -/
import Derived.Test.YtnifflnhbpfmnaaSr
import Derived.Laws.CopyOwn
namespace Go.Proofs.Ytnifflnhbpfmnaa

theorem thrus_prefix (s : List Nat) (a b : List Int) : ∀ k, 64 * k ≤ a.length → thrus s (a ++ b) k = thrus s a k := by
  intro k
  induction k with
  | zero => intro _; rw [thrus_zero, thrus_zero]
  | succ k ih =>
    intro h
    rw [thrus_succ, thrus_succ, ih (by omega), List.drop_append_of_le_length (by omega), List.take_append_of_le_length (by rw [List.length_drop]; omega)]
/-- the state, the piece under way, and all that was written -/
structure HP (st : List Nat) (pc all : List Int) : Prop where
  sl : st.length = 8
  pl : pc.length = 64
  u8 : U8 pc
  w32 : W32 st
  st : st = thrus shH all (all.length / 64)
  pc : pc.take (all.length % 64) = all.drop (64 * (all.length / 64))
theorem splice_u8 {pc ys : List Int} (h : U8 pc) (k : U8 ys) (r : Nat) : U8 (splice pc r ys) := (h.take r).app (k.app (h.drop _))
theorem HP.start (pc : List Int) (h : pc.length = 64) (h8 : U8 pc) : HP shH pc [] := ⟨rfl, h, h8, shH_w32, rfl, rfl⟩
theorem HP.part {st : List Nat} {pc all : List Int} (h : HP st pc all) (ys : List Int) (h8 : U8 ys) (hr : all.length % 64 + ys.length < 64) : HP st (splice pc (all.length % 64) ys) (all ++ ys) := by
  have hl : (all ++ ys).length = all.length + ys.length := List.length_append ..
  have hq : (all ++ ys).length / 64 = all.length / 64 := by omega
  have hm : (all ++ ys).length % 64 = all.length % 64 + ys.length := by omega
  refine ⟨h.sl, ?_, splice_u8 h.u8 h8 _, h.w32, ?_, ?_⟩
  · rw [length_splice _ _ _ (by rw [h.pl]; omega), h.pl]
  · rw [hq, thrus_prefix _ _ _ _ (by omega)]; exact h.st
  · rw [hq, hm, List.drop_append_of_le_length (by omega), ← h.pc]
    unfold splice
    rw [← List.append_assoc, List.take_append_of_le_length (by rw [List.length_append, List.length_take, h.pl]; omega)]
    exact List.take_of_length_le (by rw [List.length_append, List.length_take, h.pl]; omega)
theorem HP.whole {st : List Nat} {pc all : List Int} (h : HP st pc all) (ys : List Int) (h8 : U8 ys) (hr : all.length % 64 + ys.length = 64) : HP (thru st (splice pc (all.length % 64) ys)) (splice pc (all.length % 64) ys) (all ++ ys) := by
  have hl : (all ++ ys).length = all.length + ys.length := List.length_append ..
  have hq : (all ++ ys).length / 64 = all.length / 64 + 1 := by omega
  have hm : (all ++ ys).length % 64 = 0 := by omega
  have hpl : (splice pc (all.length % 64) ys).length = 64 := by rw [length_splice _ _ _ (by rw [h.pl]; omega), h.pl]
  have e : splice pc (all.length % 64) ys = (all ++ ys).drop (64 * (all.length / 64)) := by
    unfold splice
    rw [h.pc, List.drop_append_of_le_length (by omega), List.drop_of_length_le (l := pc) (by rw [h.pl]; omega), List.append_nil]
  refine ⟨thru_len _ _, hpl, splice_u8 h.u8 h8 _, thru_w32 _ _, ?_, ?_⟩
  · rw [hq, thrus_succ, thrus_prefix _ _ _ _ (by omega), ← e, List.take_of_length_le (by rw [hpl]; omega), ← h.st]
  · rw [hq, hm, List.drop_of_length_le (by omega)]; rfl
end Go.Proofs.Ytnifflnhbpfmnaa
