/- append(s, make([]T, k)...), whatever k is. -/
import Derived.Test.YtjljpdniofiaaaaZr
import Derived.Test.YtjljpdniofiaaaaBo
namespace Go.Proofs.Ytjljpdniofiaaaa
open Go.RowKit

theorem run_append_zeros_nought {P : Program} (w : World) (t tn ty e : TypeId) (i : TypeInfo) (kq kn : IntKind) (ht : P.underlying t = some (.slice e)) (htn : P.underlying tn = some (.int kn)) (hi : P.info? e = some i)
    (ao : Option Addr) (n cap : Nat) (hn : n ≤ cap) :
    (Builtin.append_ #[t, tn] ty #[.slice ao n cap, .int kq 0]).run P w = .ok (.slice ao n cap) w := by
  have hw : IntKind.i64.wrap 0 = 0 := by rw [IntKind.wrap_i64]; omega
  simp [Builtin.append_, run_underlying ht, run_underlying htn, sizeOf, typeInfo, hi, asInt, asIntOf, hw, hn]
  cases ao with
  | none => rfl
  | some a => simp [storeCells]
theorem wpList_append_runW {P : Program} (w : World) {ops : Array Oper} {rest : List Oper} {o : Oper} {a : Act} {Q : Exit → Act → World → Prop} (hw : Region.wanted o (yielded ops a.tmps) = true) (s x : Operand) (t tn : TypeId)
    (ho : o.op = .call { callee := .builtin .append, args := #[s, x], argTypes := #[t, tn] }) (vs vx : Value) (hs : a.eval s = vs) (hx : a.eval x = vx)
    (v' : Value) (w' : World) (hr : (Builtin.append_ #[t, tn] o.type #[vs, vx]).run P w = .ok v' w') (h : wpList P ops Q rest (a.put o.dst v') w') : wpList P ops Q (o :: rest) a w := by
  refine wpList_step fun K hK => ?_
  rw [if_pos hw]
  exact Lib.wp_append_run w s x t tn ho vs vx hs hx v' w' hr (hK _ _ h)
theorem zeros_any (w : World) (base : Nat) (ao : Option Addr) (n cap : Nat) (xs : List Int) (hn : xs.length = n) (own : w.ownsRow base 5 1 (.slice ao n cap) n (xs.map (Value.int .u8))) (k : Nat) (hk : n + k ≤ 100000) (hbase : base ≤ w.heap.size) :
    ∃ v' w', (Builtin.append_ #[22, 3] 22 #[.slice ao n cap, .int .i64 (k : Int)]).run Try.prog w = .ok v' w' ∧ Bs .u8 w' v' (xs ++ List.replicate k 0) ∧ Only (fun j => (Value.slice ao n cap).ownBlock = some j) w w' := by
  obtain ⟨i0, hi, hz0, hz1, hz2⟩ := info_parts Try.infoU8
  have hb : Bs .u8 w (.slice ao n cap) xs := Bs.of_own (by rw [hn]; exact own)
  by_cases h0 : k = 0
  · subst h0
    refine ⟨_, _, run_append_zeros_nought (P := Try.prog) w 22 3 22 5 i0 .i64 .i64 Try.underlying22 Try.underlying3 hi ao n cap ?_, ?_, Only.refl _ _⟩
    · obtain ⟨_, _, e, h, _⟩ := hb
      simp at e; obtain ⟨_, _, rfl⟩ := e; rw [hn] at h; exact h
    · rw [List.replicate_zero, List.append_nil]; exact hb
  · rcases own.2 with ⟨hv, hz⟩ | ⟨g, cap', cur, hv, _⟩
    · simp at hv
      obtain ⟨rfl, rfl, rfl⟩ := hv
      have hx : xs = [] := List.eq_nil_of_length_eq_zero hn
      subst hx
      refine ⟨_, _, Lib.run_append_nil_zeros (P := Try.prog) w 22 3 22 5 i0 (.int .u8 0) .i64 .i64 Try.underlying22 Try.underlying3 hi hz0 k (by omega) (by omega) (by omega) (by rw [hz2]; omega), ?_, ((Only.refl _ _).drew).alloc _⟩
      rw [List.nil_append]
      refine ⟨_, _, by rw [List.length_replicate], ?_, fun _ => ⟨w.heap.size, 0, rfl, fun j hj => ?_⟩⟩
      · rw [List.length_replicate]; exact grownCap_ge w k 0 5
      · rw [List.length_replicate] at hj
        have hB : (w.drew.alloc (.cells (Builtin.zeroCells (Value.int .u8 0).cells k ++ Builtin.zeroCells (Value.int .u8 0).cells (grownCap w k 0 5 - k)) 5)).heap[w.heap.size]? = some (.cells (Builtin.zeroCells (Value.int .u8 0).cells k ++ Builtin.zeroCells (Value.int .u8 0).cells (grownCap w k 0 5 - k)) 5 (0, 0)) := heap_alloc_new w.drew _
        rw [cell_of_row _ w.heap.size (0 + j) _ 5 _ hB]
        have e1 : (Builtin.zeroCells (Value.int .u8 0).cells k) = (List.replicate k (Value.int .u8 0)).toArray := by
          apply Array.toList_inj.1
          rw [show (Value.int .u8 0).cells = #[.int .u8 0] from rfl, zeroCells_one]
        rw [e1, Nat.zero_add, Array.getElem?_append_left (by simpa using hj)]
        simp [hj]
    · simp at hv
      obtain ⟨rfl, rfl⟩ := hv
      obtain ⟨v5, w5, h1, h2, h3⟩ := run_append_zeros_own (P := Try.prog) w base 22 3 22 5 i0 (.int .u8 0) .i64 .i64 1 Try.underlying22 Try.underlying3 hi hz0 hz1 hz2 rfl rfl g n cap _ own k (by omega) (by simp only [maxLen]; omega) (by omega) hbase
      refine ⟨v5, w5, h1, Bs.of_own (k := .u8) (E := 5) (lo := base) ?_, (Only.refl _ _).grown h3 (fun j hj e => e)⟩
      rw [List.length_append, List.length_replicate, hn, List.map_append, List.map_replicate]
      exact h2
end Go.Proofs.Ytjljpdniofiaaaa
