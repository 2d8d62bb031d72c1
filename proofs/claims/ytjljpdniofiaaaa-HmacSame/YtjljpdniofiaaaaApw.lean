/- append, where it is asked for behind an 'and' or an 'or'. -/
import Derived.Test.YtjljpdniofiaaaaRc
namespace Go.Proofs.Ytjljpdniofiaaaa
open Go.RowKit

/-- .. where it is asked for behind an 'and' or an 'or' -/
theorem wpList_append_bsW {P : Program} (w : World) {ops : Array Oper} {rest : List Oper} {o : Oper} {a : Act} {Q : Exit → Act → World → Prop} (hw : Region.wanted o (yielded ops a.tmps) = true) (s x : Operand) (t : TypeId)
    (ho : o.op = .call { callee := .builtin .append, args := #[s, x], argTypes := #[t, t] })
    (base : Nat) (e : TypeId) (i : TypeInfo) (z : Value) (bytes : Nat) (ht : P.underlying t = some (.slice e)) (hi : P.info? e = some i) (hz : i.zero = some z)
    (hsize : i.size = 1) (hby : i.bytes = bytes) (hzs : z.cells.size = 1)
    (v : Value) (n : Nat) (xs : List Value) (hs : a.eval s = v) (hown : w.ownsRow base e 1 v n xs)
    (k : IntKind) (u : Value) (ys : List Int) (hx : a.eval x = u) (hb : Bs k w u ys) (hnc : NoCap u)
    (h63 : n + ys.length ≤ maxLen) (hbytes : (n + ys.length) * bytes ≤ 140737488355328) (hbase : base ≤ w.heap.size)
    (h : ∀ v' w', w'.ownsRow base e 1 v' (n + ys.length) (xs ++ ys.map (Value.int k)) → w.grownBy w' v.ownBlock → wpList P ops Q rest (a.put o.dst v') w') :
    wpList P ops Q (o :: rest) a w := by
  refine wpList_step fun K hK => ?_
  rw [if_pos hw]
  exact wp_append_bs s x t ho base e i z bytes ht hi hz hsize hby hzs v n xs hs hown k u ys hx hb hnc h63 hbytes hbase (fun v' w' h1 h2 => hK _ _ (h v' w' h1 h2))


end Go.Proofs.Ytjljpdniofiaaaa
