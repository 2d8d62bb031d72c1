/- append of noughts, and to a slice made: rows of one's own. -/
import Derived.Test.YtanobjnjgbhnjaaAw
import Derived.Test.YtanobjnjgbhnjaaRmu
import Derived.Test.YtanobjnjgbhnjaaZr
namespace Go.Proofs.Ytanobjnjgbhnjaa
open Go.RowKit

/-- append(s, make([]byte, 16)...): s a row of the call's own -/
theorem zeros_own (w : World) (base g n cap : Nat) (xs : List Int) (own : w.ownsRow base 5 1 (.slice (some ⟨g, 0, none⟩) n cap) n (bl xs)) (hk : n ≤ 100000) (hbase : base ≤ w.heap.size) :
    ∃ v' w', (Builtin.append_ #[22, 3] 22 #[.slice (some ⟨g, 0, none⟩) n cap, .int .i64 16]).run Try.prog w = .ok v' w' ∧ w'.ownsRow base 5 1 v' (n + 16) (bl (xs ++ List.replicate 16 0)) ∧ w.grownBy w' (some g) := by
  obtain ⟨i0, hi, hz0, hz1, hz2⟩ := info_parts Try.infoU8
  obtain ⟨v5, w5, h1, h2, h3⟩ := run_append_zeros_own (P := Try.prog) w base 22 3 22 5 i0 (.int .u8 0) .i64 .i64 1 Try.underlying22 Try.underlying3 hi hz0 hz1 hz2 rfl rfl g n cap _ own 16 (by omega) (by simp only [maxLen]; omega) (by omega) hbase
  refine ⟨v5, w5, h1, ?_, h3⟩
  unfold bl
  rw [List.map_append, List.map_replicate]
  exact h2
theorem wpList_append_run {P : Program} (w : World) {ops : Array Oper} {rest : List Oper} {o : Oper} {a : Act} {Q : Exit → Act → World → Prop} (hg : o.guard = none) (s x : Operand) (t tn : TypeId)
    (ho : o.op = .call { callee := .builtin .append, args := #[s, x], argTypes := #[t, tn] }) (vs vx : Value) (hs : a.eval s = vs) (hx : a.eval x = vx)
    (v' : Value) (w' : World) (hr : (Builtin.append_ #[t, tn] o.type #[vs, vx]).run P w = .ok v' w') (h : wpList P ops Q rest (a.put o.dst v') w') : wpList P ops Q (o :: rest) a w :=
  wpList_plain hg fun _ hK => Lib.wp_append_run w s x t tn ho vs vx hs hx v' w' hr (hK _ _ h)
theorem own_someB {w : World} {lo n : Nat} {v : Value} {xs : List Value} (h : w.ownsRow lo 5 1 v n xs) (hn : 0 < n) : ∃ g cap, v = .slice (some ⟨g, 0, none⟩) n cap ∧ lo ≤ g := by
  rcases h.2 with ⟨_, h0⟩ | ⟨g, cap, cur, rfl, hb, hg, _⟩
  · omega
  · exact ⟨g, cap, rfl, hb⟩
/-- append(append([]byte{}, r...), s...), or of noughts, as one fact: what the first append gives -/
theorem own_two {w : World} {lo : Nat} {v : Value} {a b : List Int} {n m : Nat} (hn : a.length = n) (hm : b.length = m) (h : w.ownsRow lo 5 1 v (n + m) (bl a ++ b.map (Value.int .u8))) : w.ownsRow lo 5 1 v (n + m) (bl (a ++ b)) ∧ Bs .u8 w v (a ++ b) := by
  have h2 : w.ownsRow lo 5 1 v (n + m) (bl (a ++ b)) := by
    unfold bl at *
    rw [List.map_append]; exact h
  refine ⟨h2, Bs.of_own (k := .u8) (E := 5) (lo := lo) ?_⟩
  rw [List.length_append, hn, hm]
  exact h2
theorem made16 (W : World) : (W.alloc (.cells Y16.toArray 5)).ownsRow W.heap.size 5 1 (.slice (some ⟨W.heap.size, 0, none⟩) 16 16) 16 (bl (List.replicate 16 0)) := own_of_blk (Blk.new W 5 Y16) (Nat.le_refl _) (by unfold maxLen; omega) rfl
theorem made0 (W : World) : (W.alloc (.cells #[] 5)).ownsRow W.heap.size 5 1 (.slice (some ⟨W.heap.size, 0, none⟩) 0 0) 0 (bl []) := World.ownsRow_made (base := W.heap.size) (e := 5) (size := 1) W #[] 0 (Nat.le_refl _) (by unfold maxLen; omega) rfl
theorem grown_only {W w2 : World} {o : Obj} (gr : (W.alloc o).grownBy w2 (some W.heap.size)) : Only (fun _ => False) W w2 := ((Only.refl _ _).alloc _).grown gr (fun k hk e => by simp at e; omega)
theorem grown_own {W w2 w3 : World} {lo : Nat} {v : Value} {n : Nat} {xs : List Value} (o : Only (fun _ => False) W w2) (own : w2.ownsRow lo 5 1 v n xs) (hlo : W.heap.size ≤ lo) (gr : w2.grownBy w3 v.ownBlock) : Only (fun _ => False) W w3 := o.grown gr (fun k hk e => by have := (own.lt k e).1; omega)
end Go.Proofs.Ytanobjnjgbhnjaa
