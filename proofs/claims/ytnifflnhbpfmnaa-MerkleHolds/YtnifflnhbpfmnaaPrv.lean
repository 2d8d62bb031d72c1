/- Prove. -/
import Derived.Test.YtnifflnhbpfmnaaPrp
namespace Go.Proofs.Ytnifflnhbpfmnaa
open Go.RowKit
set_option linter.unusedVariables false

set_option maxHeartbeats 1600000 in
set_option maxRecDepth 100000 in
theorem walkl_any (i j cl : Nat) (vl : Value) (l : List (List Int)) (w0 w : World) (l8 : R8 l) (hl : l.length ≤ 1000000000) (h0 : 0 < l.length) (hij : i ≤ j) (rl : RL w0 vl l) (hcl : w0.cell? ⟨cl, 0, none⟩ = some vl) (ho : Only (fun _ => False) w0 w) :
    Calls Try.prog 38 #[.int .i64 l.length, .int .i64 i, .int .i64 j, .func (.func 35) #[] #[], .func (.func 36) #[] #[.pointer (some ⟨cl, 0, none⟩)], .func (.func 37) #[] #[]] w
      fun e w' => ∃ v, e = .returned v ∧ ∃ vs, w'.ownsRow w.heap.size 22 1 v vs.length vs ∧ LO w' vs (WALKL l i j) ∧ Only (fun _ => False) w w' := by
  have A := hideIt (fun (b0 b1 b2 b3 b4 b5 : Nat) (W : World) (o : Only (fun _ => False) w W) => pvp b0 b1 b2 b3 b4 b5 i j cl vl l w0 l8 hl hij rl hcl l.length 0 l.length W h0 (by omega) (Nat.le_refl _) (ho.same o))
  rw [show ((0 : Nat) : Int) = 0 from rfl] at A
  obtain ⟨Y, hY⟩ : ∃ Y, Y = WALKL l i j := ⟨_, rfl⟩
  have e : WLK (l.length + 1) l 0 l.length i j = Y := hY.symm
  rw [e] at A
  rw [← hY]
  obtain ⟨m4, m5⟩ := WK.made w i j (.func (.func 35) #[] #[]) (.func (.func 36) #[] #[.pointer (some ⟨cl, 0, none⟩)]) (.func (.func 37) #[] #[]) (.func (.func 53) #[] #[.pointer (some ⟨w.heap.size, 0, none⟩), .pointer (some ⟨w.heap.size + 1, 0, none⟩), .pointer (some ⟨w.heap.size + 1 + 1, 0, none⟩), .pointer (some ⟨w.heap.size + 1 + 1 + 1, 0, none⟩), .pointer (some ⟨w.heap.size + 1 + 1 + 1 + 1, 0, none⟩), .pointer (some ⟨w.heap.size + 1 + 1 + 1 + 1 + 1, 0, none⟩)]) 48 49 48
  have M5 := hideIt m5
  have R := hideIt (A.out _ _ _ _ _ _ _ m5 m4)
  obtain ⟨n, hn⟩ : ∃ n, n = l.length := ⟨_, rfl⟩
  rw [← hn] at R ⊢
  clear l8 hl h0 hij rl hcl ho hY e m4 m5 A hn
  go_enter Try.func38, Try.ntmps38
  go_wp2_with fail
  refine R.out.mono ?_
  rintro e w1 ⟨v1, rfl, vs1, own1, lo1, o1⟩
  have F : Hid (∃ vs, w1.ownsRow w.heap.size 22 1 v1 vs.length vs ∧ LO w1 vs Y ∧ Only (fun _ => False) w w1) := ⟨vs1, own_low own1 M5.out.size, lo1, M5.out.same o1⟩
  obtain ⟨ao1, cap1, e1⟩ := own_form own1
  subst e1
  clear R own1 lo1 o1 M5
  go_wp2
  go_ret
  exact ⟨_, rfl, F.out⟩

/-- is it a range of places? -/
abbrev PRA (l : List (List Int)) (i j : Int) : Prop := 0 ≤ i ∧ i ≤ j ∧ j < l.length
def PRE (l : List (List Int)) (i j : Int) : Int := if PRA l i j then 0 else 1
def PRF (l : List (List Int)) (i j : Int) : List (List Int) := if PRA l i j then WALKL l i.toNat j.toNat else []

set_option maxHeartbeats 800000 in
set_option maxRecDepth 100000 in
theorem prove_bad (ao : Option Addr) (m cap : Nat) (i j : Int) (h : ¬ (0 ≤ i ∧ i ≤ j ∧ j < m)) (w : World) :
    Calls Try.prog 18 #[.slice ao m cap, .int .i64 i, .int .i64 j] w fun e w' => e = .returned (.tuple #[.slice none 0 0, .int .i64 1]) ∧ Only (fun _ => False) w w' := by
  have O := hideIt ((Only.refl (fun _ => False) w).alloc (.cells #[.slice ao m cap] 23))
  by_cases h1 : i < 0
  · have d1 : decide (i < 0) = true := decide_eq_true h1
    clear h
    go_enter Try.func18, Try.ntmps18
    go_wp2
    go_ret2
    exact ⟨rfl, O.out⟩
  · have d1 : decide (i < 0) = false := decide_eq_false h1
    by_cases h2 : j < i
    · have d2 : decide (j < i) = true := decide_eq_true h2
      clear h
      go_enter Try.func18, Try.ntmps18
      go_wp2
      go_ret2
      exact ⟨rfl, O.out⟩
    · have d2 : decide (j < i) = false := decide_eq_false h2
      have d3 : decide ((m : Int) ≤ j) = true := decide_eq_true (by omega)
      clear h
      go_enter Try.func18, Try.ntmps18
      go_wp2
      go_ret2
      exact ⟨rfl, O.out⟩
set_option maxHeartbeats 800000 in
set_option maxRecDepth 100000 in
theorem prove_in (vl : Value) (l : List (List Int)) (i j : Nat) (hij : i ≤ j) (hj : j < l.length) (l8 : R8 l) (hl : l.length ≤ 1000000000) (w : World) (rl : RL w vl l) :
    Calls Try.prog 18 #[vl, .int .i64 i, .int .i64 j] w fun e w' => ∃ v, e = .returned (.tuple #[v, .int .i64 0]) ∧ ∃ vs, w'.ownsRow w.heap.size 22 1 v vs.length vs ∧ LO w' vs (WALKL l i j) ∧ Only (fun _ => False) w w' := by
  have oA : Only (fun _ => False) w (w.alloc (.cells #[vl] 23)) := (Only.refl _ _).alloc _
  have A := hideIt (walkl_any i j w.heap.size vl l (w.alloc (.cells #[vl] 23)) (w.alloc (.cells #[vl] 23)) l8 hl (by omega) hij (rl.past oA) ((Blk.new w 23 [vl]).cell 0) (Only.refl _ _))
  have O := hideIt oA
  obtain ⟨n, hn⟩ : ∃ n, n = l.length := ⟨_, rfl⟩
  obtain ⟨ao, cap, e, _⟩ := rl.len
  subst e
  rw [← hn] at A O hj ⊢
  obtain ⟨Y, hY⟩ : ∃ Y, Y = WALKL l i j := ⟨_, rfl⟩
  rw [← hY] at A ⊢
  have d1 : decide ((i : Int) < 0) = false := decide_eq_false (by omega)
  have d2 : decide ((j : Int) < (i : Int)) = false := decide_eq_false (by omega)
  have d2' : decide (j < i) = false := decide_eq_false (by omega)
  have d3 : decide ((n : Int) ≤ (j : Int)) = false := decide_eq_false (by omega)
  have d3' : decide (n ≤ j) = false := decide_eq_false (by omega)
  clear hij hj l8 hl rl oA hn hY
  go_enter Try.func18, Try.ntmps18
  go_wp2_with fail
  refine A.out.mono ?_
  rintro e w1 ⟨v1, rfl, vs1, own1, lo1, o1⟩
  have F : Hid (∃ vs, w1.ownsRow w.heap.size 22 1 v1 vs.length vs ∧ LO w1 vs Y ∧ Only (fun _ => False) w w1) := ⟨vs1, own_low own1 O.out.size, lo1, O.out.same o1⟩
  obtain ⟨ao1, cap1, e1⟩ := own_form own1
  subst e1
  clear A own1 lo1 o1 O
  go_wp2
  go_ret2
  exact ⟨_, rfl, F.out⟩
theorem prove_any (vl : Value) (l : List (List Int)) (i j : Int) (l8 : R8 l) (hl : l.length ≤ 1000000000) (w : World) (rl : RL w vl l) :
    Calls Try.prog 18 #[vl, .int .i64 i, .int .i64 j] w fun e w' => ∃ v, e = .returned (.tuple #[v, .int .i64 (PRE l i j)]) ∧ RL w' v (PRF l i j) ∧ NoCap v ∧ Only (fun _ => False) w w' := by
  by_cases h : PRA l i j
  · have e1 : PRE l i j = 0 := if_pos h
    have e2 : PRF l i j = WALKL l i.toNat j.toNat := if_pos h
    rw [e1, e2]
    obtain ⟨i', rfl⟩ := Int.eq_ofNat_of_zero_le h.1
    obtain ⟨j', rfl⟩ := Int.eq_ofNat_of_zero_le (show 0 ≤ j by have := h.1; have := h.2.1; omega)
    refine (prove_in vl l i' j' (by have := h.2.1; omega) (by have := h.2.2; omega) l8 hl w rl).mono ?_
    rintro e w1 ⟨v1, rfl, vs1, own1, lo1, o1⟩
    exact ⟨v1, rfl, (lo1.rl own1).1, (lo1.rl own1).2, o1⟩
  · have e1 : PRE l i j = 1 := if_neg h
    have e2 : PRF l i j = [] := if_neg h
    rw [e1, e2]
    obtain ⟨ao, cap, rfl, _⟩ := rl.len
    refine (prove_bad ao l.length cap i j h w).mono ?_
    rintro e w1 ⟨rfl, o1⟩
    exact ⟨_, rfl, RL.nil _, NoCap.nil, o1⟩
end Go.Proofs.Ytnifflnhbpfmnaa
