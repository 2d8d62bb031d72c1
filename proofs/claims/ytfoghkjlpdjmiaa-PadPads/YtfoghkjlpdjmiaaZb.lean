/- append(s, make([]byte, k)...), whatever k is, as a row of one's own. -/
import Derived.Test.YtfoghkjlpdjmiaaZr
import Derived.Test.YtfoghkjlpdjmiaaAp0
import Derived.Test.YtfoghkjlpdjmiaaIu8
namespace Go.Proofs.Ytfoghkjlpdjmiaa
open Go.RowKit

theorem wpList_append_zeros {P : Program} (w : World) {ops : Array Oper} {rest : List Oper} {o : Oper} {a : Act} {Q : Exit → Act → World → Prop} (hg : o.guard = none) (s x : Operand) (t tn : TypeId)
    (ho : o.op = .call { callee := .builtin .append, args := #[s, x], argTypes := #[t, tn] }) (vs vx : Value) (hs : a.eval s = vs) (hx : a.eval x = vx)
    (v' : Value) (w' : World) (hr : (Builtin.append_ #[t, tn] o.type #[vs, vx]).run P w = .ok v' w') (h : wpList P ops Q rest (a.put o.dst v') w') : wpList P ops Q (o :: rest) a w :=
  wpList_plain hg fun _ hK => Lib.wp_append_run w s x t tn ho vs vx hs hx v' w' hr (hK _ _ h)
theorem zeros_row (w : World) (base : Nat) (v : Value) (n : Nat) (xs : List Int) (own : w.ownsRow base 5 1 v n (bl xs)) (k : Nat) (hk : n + k ≤ 1000000000000) (hbase : base ≤ w.heap.size) :
    ∃ v' w', (Builtin.append_ #[28, 3] 28 #[v, .int .i64 (k : Int)]).run Try.prog w = .ok v' w' ∧ w'.ownsRow base 5 1 v' (n + k) (bl (xs ++ List.replicate k 0)) ∧ w.grownBy w' v.ownBlock := by
  obtain ⟨i0, hi, hz0, hz1, hz2⟩ := info_parts Try.infoU8
  have hxn : xs.length = n := by have := own.1; rw [bl_len] at this; omega
  by_cases h0 : k = 0
  · subst h0
    rcases own.2 with ⟨rfl, hz⟩ | ⟨g, cap', cur, rfl, _, _, hc, _⟩
    · refine ⟨_, _, run_append_zeros_nought (P := Try.prog) w 28 3 28 5 i0 .i64 .i64 Try.underlying28 Try.underlying3 hi none 0 0 (Nat.le_refl _), ?_, World.grownBy.refl _ _⟩
      rw [List.replicate_zero, List.append_nil]; exact own
    · refine ⟨_, _, run_append_zeros_nought (P := Try.prog) w 28 3 28 5 i0 .i64 .i64 Try.underlying28 Try.underlying3 hi _ n cap' hc, ?_, World.grownBy.refl _ _⟩
      rw [List.replicate_zero, List.append_nil]; exact own
  · rcases own.2 with ⟨rfl, hz⟩ | ⟨g, cap', cur, rfl, _⟩
    · subst hz
      have hx : xs = [] := List.eq_nil_of_length_eq_zero hxn
      subst hx
      have hge := grownCap_ge w k 0 5
      have hcm := grownCap_le_maxLen w k 0 5 (by unfold maxLen; omega)
      refine ⟨_, _, Lib.run_append_nil_zeros (P := Try.prog) w 28 3 28 5 i0 (.int .u8 0) .i64 .i64 Try.underlying28 Try.underlying3 hi hz0 k (by omega) (by omega) (by omega) (by rw [hz2]; omega), ⟨by simp [bl_len], .inr ⟨w.heap.size, _, _, by rw [Nat.zero_add], hbase, heap_alloc_new w.drew _, by rw [Nat.zero_add]; exact hge, hcm, ?_, ?_⟩⟩, ⟨rfl, rfl, rfl, by simp, fun j hj _ => Below.heap_alloc _ _ _ hj⟩⟩
      · simp only [Array.size_append, size_zeroCells, show (Value.int .u8 0).cells = #[.int .u8 0] from rfl]
        simp
        omega
      · simp only [Array.toList_append, show (Value.int .u8 0).cells = #[.int .u8 0] from rfl, zeroCells_one, List.nil_append]
        rw [show (0 + k) * 1 = (List.replicate k (Value.int .u8 0)).length by simp, List.take_left]
        simp [bl]
    · obtain ⟨v5, w5, h1, h2, h3⟩ := run_append_zeros_own (P := Try.prog) w base 28 3 28 5 i0 (.int .u8 0) .i64 .i64 1 Try.underlying28 Try.underlying3 hi hz0 hz1 hz2 rfl rfl g n cap' _ own k (by omega) (by simp only [maxLen]; omega) (by omega) hbase
      refine ⟨v5, w5, h1, ?_, h3⟩
      unfold bl at *
      rw [List.map_append, List.map_replicate]
      exact h2
end Go.Proofs.Ytfoghkjlpdjmiaa
