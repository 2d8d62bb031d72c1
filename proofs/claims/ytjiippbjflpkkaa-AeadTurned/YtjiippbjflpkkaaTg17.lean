/- append(s, make([]byte, k)...), whatever k is, as a row of one's own; the bytes whose tag is made. -/
import Derived.Test.YtjiippbjflpkkaaZr
import Derived.Test.YtjiippbjflpkkaaAp0
import Derived.Test.YtjiippbjflpkkaaLa17
namespace Go.Proofs.Ytjiippbjflpkkaa
open Go.RowKit

theorem run_append_zeros_nought {P : Program} (w : World) (t tn ty e : TypeId) (i : TypeInfo) (kq kn : IntKind) (ht : P.underlying t = some (.slice e)) (htn : P.underlying tn = some (.int kn)) (hi : P.info? e = some i)
    (ao : Option Addr) (n cap : Nat) (hn : n ≤ cap) :
    (Builtin.append_ #[t, tn] ty #[.slice ao n cap, .int kq 0]).run P w = .ok (.slice ao n cap) w := by
  have hw : IntKind.i64.wrap 0 = 0 := by rw [IntKind.wrap_i64]; omega
  simp [Builtin.append_, run_underlying ht, run_underlying htn, sizeOf, typeInfo, hi, asInt, asIntOf, hw, hn]
  cases ao with
  | none => rfl
  | some a => simp [storeCells]
theorem wpList_append_zeros {P : Program} (w : World) {ops : Array Oper} {rest : List Oper} {o : Oper} {a : Act} {Q : Exit → Act → World → Prop} (hg : o.guard = none) (s x : Operand) (t tn : TypeId)
    (ho : o.op = .call { callee := .builtin .append, args := #[s, x], argTypes := #[t, tn] }) (vs vx : Value) (hs : a.eval s = vs) (hx : a.eval x = vx)
    (v' : Value) (w' : World) (hr : (Builtin.append_ #[t, tn] o.type #[vs, vx]).run P w = .ok v' w') (h : wpList P ops Q rest (a.put o.dst v') w') : wpList P ops Q (o :: rest) a w :=
  wpList_plain hg fun _ hK => Lib.wp_append_run w s x t tn ho vs vx hs hx v' w' hr (hK _ _ h)
theorem zeros_row (w : World) (base : Nat) (v : Value) (n : Nat) (xs : List Int) (own : w.ownsRow base 5 1 v n (bl xs)) (k : Nat) (hk : n + k ≤ 1000000000000) (hbase : base ≤ w.heap.size) :
    ∃ v' w', (Builtin.append_ #[22, 3] 22 #[v, .int .i64 (k : Int)]).run Try.prog w = .ok v' w' ∧ w'.ownsRow base 5 1 v' (n + k) (bl (xs ++ List.replicate k 0)) ∧ w.grownBy w' v.ownBlock := by
  obtain ⟨i0, hi, hz0, hz1, hz2⟩ := info_parts Try.infoU8
  have hxn : xs.length = n := by have := own.1; rw [bl_len] at this; omega
  by_cases h0 : k = 0
  · subst h0
    rcases own.2 with ⟨rfl, hz⟩ | ⟨g, cap', cur, rfl, _, _, hc, _⟩
    · refine ⟨_, _, run_append_zeros_nought (P := Try.prog) w 22 3 22 5 i0 .i64 .i64 Try.underlying22 Try.underlying3 hi none 0 0 (Nat.le_refl _), ?_, World.grownBy.refl _ _⟩
      rw [List.replicate_zero, List.append_nil]; exact own
    · refine ⟨_, _, run_append_zeros_nought (P := Try.prog) w 22 3 22 5 i0 .i64 .i64 Try.underlying22 Try.underlying3 hi _ n cap' hc, ?_, World.grownBy.refl _ _⟩
      rw [List.replicate_zero, List.append_nil]; exact own
  · rcases own.2 with ⟨rfl, hz⟩ | ⟨g, cap', cur, rfl, _⟩
    · subst hz
      have hx : xs = [] := List.eq_nil_of_length_eq_zero hxn
      subst hx
      have hge := grownCap_ge w k 0 5
      have hcm := grownCap_le_maxLen w k 0 5 (by unfold maxLen; omega)
      refine ⟨_, _, Lib.run_append_nil_zeros (P := Try.prog) w 22 3 22 5 i0 (.int .u8 0) .i64 .i64 Try.underlying22 Try.underlying3 hi hz0 k (by omega) (by omega) (by omega) (by rw [hz2]; omega), ⟨by simp [bl_len], .inr ⟨w.heap.size, _, _, by rw [Nat.zero_add], hbase, heap_alloc_new w.drew _, by rw [Nat.zero_add]; exact hge, hcm, ?_, ?_⟩⟩, ⟨rfl, rfl, rfl, by simp, fun j hj _ => Below.heap_alloc _ _ _ hj⟩⟩
      · simp only [Array.size_append, size_zeroCells, show (Value.int .u8 0).cells = #[.int .u8 0] from rfl]
        simp
        omega
      · simp only [Array.toList_append, show (Value.int .u8 0).cells = #[.int .u8 0] from rfl, zeroCells_one, List.nil_append]
        rw [show (0 + k) * 1 = (List.replicate k (Value.int .u8 0)).length by simp, List.take_left]
        simp [bl]
    · obtain ⟨v5, w5, h1, h2, h3⟩ := run_append_zeros_own (P := Try.prog) w base 22 3 22 5 i0 (.int .u8 0) .i64 .i64 1 Try.underlying22 Try.underlying3 hi hz0 hz1 hz2 rfl rfl g n cap' _ own k (by omega) (by simp only [maxLen]; omega) (by omega) hbase
      refine ⟨v5, w5, h1, ?_, h3⟩
      unfold bl at *
      rw [List.map_append, List.map_replicate]
      exact h2

/-- the first k pieces, each filled up; their lengths -/
def pfl (ls : Nat → List Int) : Nat → List Int
  | 0 => []
  | k + 1 => pfl ls k ++ fl (ls k)
def pln (ls : Nat → List Int) : Nat → List Int
  | 0 => []
  | k + 1 => pln ls k ++ leB 8 (ls k).length
/-- pieces in memory -/
def Pcs (w : World) (p n : Nat) (ls : Nat → List Int) : Prop := ∀ i, i < n → ∃ u, w.cell? ⟨p, i, none⟩ = some u ∧ Bs .u8 w u (ls i) ∧ NoCap u ∧ (ls i).length ≤ 100000000000
theorem acell_past {w w' : World} {q : Addr} {u : Value} (h : w.cell? q = some u) (o : Only (fun _ => False) w w') : w'.cell? q = some u := by
  rw [← h]
  exact World.cell?_of_block (o.block _ (World.block_lt_of_cell? w _ h) (fun f => f))
theorem pln_len (ls : Nat → List Int) (k : Nat) : (pln ls k).length = 8 * k := by
  induction k with
  | zero => rfl
  | succ k ih => rw [pln, List.length_append, ih, leB_len]; omega
theorem pfl_len (ls : Nat → List Int) (n k : Nat) (h : ∀ i, i < n → (ls i).length ≤ 100000000000) (hk : k ≤ n) : (pfl ls k).length ≤ 100000000015 * k := by
  induction k with
  | zero => exact Nat.zero_le _
  | succ k ih =>
    have h1 := ih (by omega)
    have h2 := h k (by omega)
    have h3 := flN_le (ls k).length
    rw [pfl, List.length_append, fl_len]; omega
theorem bl_app (a b : List Int) : bl (a ++ b) = bl a ++ bl b := List.map_append ..
set_option maxHeartbeats 1600000 in
set_option maxRecDepth 100000 in
theorem tagged_any (p n : Nat) (ls : Nat → List Int) (hn : n ≤ 2) (w : World) (hp : Pcs w p n ls) :
    Calls Try.prog 19 #[.slice (some ⟨p, 0, none⟩) n n] w fun e w' => ∃ v, e = .returned v ∧ w'.ownsRow w.heap.size 5 1 v (pfl ls n ++ pln ls n).length (bl (pfl ls n ++ pln ls n)) ∧ Only (fun _ => False) w w' := by
  obtain ⟨i0, hi, hz0, hz1, hz2⟩ := info_parts Try.infoU8
  have HP := hideIt hp
  have HL : Hid (∀ k, k ≤ n → (pfl ls k).length ≤ 100000000015 * k) := fun k hk => pfl_len ls n k (fun i hi => by obtain ⟨_, _, _, _, h⟩ := hp i hi; exact h) hk
  clear hp
  go_enter Try.func19, Try.ntmps19
  go_wp2
  go_loopw [3, 10] (fun o i wr => ∃ k : Nat, k ≤ n ∧ i = .int .i64 k ∧ wr.ownsRow w.heap.size 5 1 o (pfl ls k).length (bl (pfl ls k)) ∧ Only (fun _ => False) w wr) (fun _ i _ => n - (intOf i).toNat)
  case atStart => exact ⟨0, by omega, rfl, World.ownsRow_nil .., Only.refl _ _⟩
  case round =>
    obtain ⟨k, hk, rfl, hown, hon⟩ := hrel
    have hsz := hon.size
    by_cases hlt : k < n
    · obtain ⟨u, hu, hbu, hnc, hll⟩ := HP.out k hlt
      have hlen := HL.out k hk
      have hc : wr.cell? ⟨p, k, none⟩ = some u := acell_past hu hon
      obtain ⟨ua, uc, rfl⟩ := hbu.len
      have BU := hideIt (And.intro (hbu.past hon) hnc)
      have HX : Hid (bl (pfl ls (k + 1)) = bl ((pfl ls k ++ ls k) ++ List.replicate (flN (ls k).length) 0) ∧ (pfl ls (k + 1)).length = (pfl ls k).length + (ls k).length + flN (ls k).length) := by
        refine ⟨?_, ?_⟩
        · rw [pfl, fl, List.append_assoc]
        · rw [pfl, List.length_append, fl_len]; omega
      obtain ⟨m, hm⟩ : ∃ m, m = (ls k).length := ⟨_, rfl⟩
      have HM := hideIt hm
      have hml : m ≤ 100000000000 := by omega
      obtain ⟨q, hq⟩ : ∃ q, q = (pfl ls k).length := ⟨_, rfl⟩
      have hql : q ≤ 200000000030 := by omega
      have A := hideIt (lacking_any m (by omega))
      have hf := flN_le m
      rw [← hm] at HX
      obtain ⟨f, hff⟩ : ∃ f, f = flN m := ⟨_, rfl⟩
      rw [← hff] at A HX hf
      rw [← hq] at hown HX
      rw [← hm] at hc BU
      have HOWN := hideIt hown
      have HON := hideIt hon
      have i0' : (0 : Int) ≤ (k : Int) := by omega
      have i1 : (k : Int) < (n : Int) := by omega
      have ZR : Hid (∀ (v1 : Value) (w1 : World), w1.ownsRow w.heap.size 5 1 v1 (q + m) (bl (pfl ls k ++ ls k)) → w.heap.size ≤ w1.heap.size → ∃ v' w', (Builtin.append_ #[22, 3] 22 #[v1, .int .i64 (f : Int)]).run Try.prog w1 = .ok v' w' ∧ w'.ownsRow w.heap.size 5 1 v' (q + m + f) (bl ((pfl ls k ++ ls k) ++ List.replicate f 0)) ∧ w1.grownBy w' v1.ownBlock) := fun v1 w1 h1 h2 => zeros_row w1 w.heap.size v1 (q + m) _ h1 f (by omega) h2
      clear hm hq hff hown hon hu hbu hnc hll hlen
      go_wp2_with (first
        | (at_builtin; refine wpList_append_bs _ rfl _ _ 22 rfl w.heap.size 5 i0 (.int .u8 0) 1 Try.underlying22 hi hz0 hz1 hz2 rfl u3 q (bl (pfl ls k)) rfl HOWN.out .u8 (.slice ua m uc) (ls k) rfl BU.out.1 BU.out.2 (by rw [← HM.out]; unfold maxLen; omega) (by rw [← HM.out]; omega) (by omega) ?_; intro v1 w1 hown1 hgrow1 hnil1 hob1))
      have O1 : Hid (Only (fun _ => False) w w1) := HON.out.grown hgrow1 (fun j hj e => by have := (HOWN.out.lt j e).1; omega)
      have W1 : Hid (w1.ownsRow w.heap.size 5 1 v1 (q + m) (bl (pfl ls k ++ ls k))) := by
        show World.ownsRow _ _ _ _ _ _ _
        rw [bl_app, HM.out]; exact hown1
      clear hown1 hgrow1 hnil1 hob1 HOWN HON BU
      refine (A.out w1).mono ?_
      rintro e w2 ⟨rfl, rfl⟩
      obtain ⟨v3, w3, hrun, hown3, hgrow3⟩ := ZR.out v1 w1 W1.out O1.out.size
      go_wp2_with (first | (at_builtin; refine wpList_append_zeros _ rfl _ _ 22 3 rfl v1 (.int .i64 (f : Int)) rfl rfl v3 w3 hrun ?_))
      have N1 : Hid (w3.ownsRow w.heap.size 5 1 v3 (pfl ls (k + 1)).length (bl (pfl ls (k + 1))) ∧ Only (fun _ => False) w w3) := by
        refine ⟨?_, O1.out.grown hgrow3 (fun j hj e => by have := (W1.out.lt j e).1; omega)⟩
        rw [HX.out.1, HX.out.2]; exact hown3
      clear hrun hown3 hgrow3 W1 O1 A ZR HX
      go_wp2
      go_roundw
      case rel => exact ⟨k + 1, by omega, by go_num, N1.out⟩
      case measure => simp [intOf]; omega
    · obtain rfl : k = n := by omega
      have hlen := HL.out k hk
      have S0 : Hid (wr.ownsRow w.heap.size 5 1 u3 (pfl ls k ++ pln ls 0).length (bl (pfl ls k ++ pln ls 0)) ∧ Only (fun _ => False) w wr) := by
        rw [pln, List.append_nil]; exact ⟨hown, hon⟩
      have HLE := hideIt hlen
      clear hown hon hsz hlen HL
      go_wp2
      go_loopw [3, 25] (fun o i wr => ∃ j : Nat, j ≤ k ∧ i = .int .i64 j ∧ wr.ownsRow w.heap.size 5 1 o (pfl ls k ++ pln ls j).length (bl (pfl ls k ++ pln ls j)) ∧ Only (fun _ => False) w wr) (fun _ i _ => k - (intOf i).toNat)
      case atStart => exact ⟨0, by omega, rfl, S0.out⟩
      case round =>
        obtain ⟨j, hj, rfl, hown, hon⟩ := hrel
        clear S0
        by_cases hlt : j < k
        · obtain ⟨u, hu, hbu, hnc, hll⟩ := HP.out j hlt
          have hc : wr.cell? ⟨p, j, none⟩ = some u := acell_past hu hon
          obtain ⟨ua, uc, rfl⟩ := hbu.len
          have hle : (pfl ls k ++ pln ls j).length ≤ 1000000000000 := by
            have h1 := HLE.out
            rw [List.length_append, pln_len]; omega
          have A := hideIt (alen_own u3 w.heap.size (pfl ls k ++ pln ls j).length (ls j).length (pfl ls k ++ pln ls j) (by omega) hle wr hown hon.size)
          have HX : Hid (pfl ls k ++ pln ls (j + 1) = (pfl ls k ++ pln ls j) ++ leB 8 (ls j).length ∧ (pfl ls k ++ pln ls (j + 1)).length = (pfl ls k ++ pln ls j).length + 8) := by
            refine ⟨?_, ?_⟩
            · rw [pln, List.append_assoc]
            · rw [pln, ← List.append_assoc, List.length_append, leB_len]
          have HON := hideIt hon
          obtain ⟨m, hm⟩ : ∃ m, m = (ls j).length := ⟨_, rfl⟩
          rw [← hm] at A HX hc
          have i0' : (0 : Int) ≤ (j : Int) := by omega
          have i1 : (j : Int) < (k : Int) := by omega
          clear hown hon hu hbu hnc hll hle hm
          go_wp2_with fail
          refine A.out.mono ?_
          rintro e w1 ⟨v1, rfl, hown1, hon1⟩
          have N1 : Hid (w1.ownsRow w.heap.size 5 1 v1 (pfl ls k ++ pln ls (j + 1)).length (bl (pfl ls k ++ pln ls (j + 1))) ∧ Only (fun _ => False) w w1) := by
            refine ⟨?_, HON.out.fresh (Nat.le_refl _) hon1⟩
            rw [HX.out.2, HX.out.1]; exact hown1
          clear hown1 hon1 HX HON A
          go_wp2
          go_roundw
          case rel => exact ⟨j + 1, by omega, by go_num, N1.out⟩
          case measure => simp [intOf]; omega
        · obtain rfl : j = k := by omega
          have F1 := hideIt (And.intro hown hon)
          clear hown hon
          go_wp2
          go_ret
          exact ⟨_, rfl, F1.out⟩
/-- two pieces -/
theorem tagged_two (p : Nat) (va vc : Value) (ad c : List Int) (w : World) (hb : Blk w p 22 [va, vc]) (ba : Bs .u8 w va ad) (na : NoCap va) (la : ad.length ≤ 100000000000) (bc : Bs .u8 w vc c) (nc : NoCap vc) (lc : c.length ≤ 100000000000) :
    Calls Try.prog 19 #[.slice (some ⟨p, 0, none⟩) 2 2] w fun e w' => ∃ v, e = .returned v ∧ w'.ownsRow w.heap.size 5 1 v (ATX ad c).length (bl (ATX ad c)) ∧ Only (fun _ => False) w w' := by
  have h := tagged_any p 2 (fun i => if i = 0 then ad else c) (Nat.le_refl _) w (fun i hi => by
    by_cases h0 : i = 0
    · subst h0
      exact ⟨va, by rw [hb.cell]; rfl, ba, na, la⟩
    · obtain rfl : i = 1 := by omega
      exact ⟨vc, by rw [hb.cell]; rfl, bc, nc, lc⟩)
  have e : pfl (fun i => if i = 0 then ad else c) 2 ++ pln (fun i => if i = 0 then ad else c) 2 = ATX ad c := by
    simp [pfl, pln, ATX]
  rw [e] at h
  exact h
end Go.Proofs.Ytjiippbjflpkkaa
