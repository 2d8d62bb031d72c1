/- Contracts of package delta: Diff and Sum. -/
import Derived.Test.YtlfioabaingfbaaDe
import Derived.Test.YtlfioabaingfbaaCloneI
namespace Go.Proofs.Ytlfioabaingfbaa
open Go.RowKit

theorem own_at_lt {w : World} {lo : Nat} {E : TypeId} {size : Nat} {v : Value} {n : Nat} {xs : List Value} (h : w.ownsRow lo E size v n xs) {b : Nat} (hb : v.ownBlock = some b) : lo ≤ b ∧ b < w.heap.size := by
  rcases h.2 with ⟨rfl, _⟩ | ⟨g, cap, cur, rfl, hg, hh, _⟩
  · simp [Value.ownBlock] at hb
  · simp [Value.ownBlock] at hb
    subst hb
    exact ⟨hg, (Array.getElem?_eq_some_iff.1 hh).1⟩

set_option maxHeartbeats 400000 in
set_option maxRecDepth 100000 in
theorem maybe_in (k : Nat) (w : World) (hk : k ≤ 3) : Calls Try.prog 14 #[.int .i64 k] w fun e w' => e = .returned (.bool true) ∧ w = w' := by
  have h1 : decide ((0 : Int) ≤ k) = true := decide_eq_true (by omega)
  have h2 : decide ((k : Int) ≤ 3) = true := decide_eq_true (by omega)
  go_enter Try.func14, Try.ntmps14
  go_wp2
  go_ret
  exact ⟨rfl, rfl⟩
set_option maxHeartbeats 400000 in
set_option maxRecDepth 100000 in
theorem maybe_out (k : Int) (w : World) (hk : k < 0 ∨ 3 < k) : Calls Try.prog 14 #[.int .i64 k] w fun e w' => e = .returned (.bool false) ∧ w = w' := by
  by_cases h0 : 0 ≤ k
  · have h1 : decide (0 ≤ k) = true := decide_eq_true h0
    have h2 : decide (k ≤ 3) = false := decide_eq_false (by omega)
    clear hk
    go_enter Try.func14, Try.ntmps14
    go_wp2
    go_ret
    exact ⟨rfl, rfl⟩
  · have h1 : decide (0 ≤ k) = false := decide_eq_false h0
    clear hk
    go_enter Try.func14, Try.ntmps14
    go_wp2
    go_ret
    exact ⟨rfl, rfl⟩

theorem zero_new (w : World) : (w.alloc (.cells #[.int .i64 0] 3)).cell? ⟨w.heap.size, 0, none⟩ = some (.int .i64 0) ∧
    (w.alloc (.cells #[.int .i64 0] 3)).frozen? ⟨w.heap.size, 0, none⟩ = false ∧ Only (fun _ => False) w (w.alloc (.cells #[.int .i64 0] 3)) :=
  ⟨by rw [World.cell?_alloc_at _ _ _ _ rfl]; rfl, World.frozen?_alloc_at _ _ _ _ rfl, (Only.refl _ _).alloc _⟩

set_option maxHeartbeats 400000 in
set_option maxRecDepth 100000 in
theorem differences_any (w : World) : Calls Try.prog 17 #[] w fun e w' => e = .returned (.func (.func 20) #[] #[.pointer (some ⟨w.heap.size, 0, none⟩)]) ∧
    w'.cell? ⟨w.heap.size, 0, none⟩ = some (.int .i64 0) ∧ w'.frozen? ⟨w.heap.size, 0, none⟩ = false ∧ Only (fun _ => False) w w' := by
  have hmf : ∀ (fn : Fn) (first cap : Array Value) (w : World), (Instr.makeFunc fn first cap).run Try.prog w = .ok (.func fn first cap) w := fun _ _ _ _ => rfl
  have H := hideIt (zero_new w)
  go_enter Try.func17, Try.ntmps17
  go_wp2
  go_ret
  exact ⟨rfl, H.out⟩
set_option maxHeartbeats 400000 in
set_option maxRecDepth 100000 in
theorem sums_any (w : World) : Calls Try.prog 18 #[] w fun e w' => e = .returned (.func (.func 21) #[] #[.pointer (some ⟨w.heap.size, 0, none⟩)]) ∧
    w'.cell? ⟨w.heap.size, 0, none⟩ = some (.int .i64 0) ∧ w'.frozen? ⟨w.heap.size, 0, none⟩ = false ∧ Only (fun _ => False) w w' := by
  have hmf : ∀ (fn : Fn) (first cap : Array Value) (w : World), (Instr.makeFunc fn first cap).run Try.prog w = .ok (.func fn first cap) w := fun _ _ _ _ => rfl
  have H := hideIt (zero_new w)
  go_enter Try.func18, Try.ntmps18
  go_wp2
  go_ret
  exact ⟨rfl, H.out⟩

set_option maxHeartbeats 800000 in
set_option maxRecDepth 100000 in
/-- DIFF of numbers by k, 0 to 3: new memory. -/
theorem diff_in (v : Value) (xs : List Int) (k : Nat) (w : World) (hb : Bs .i64 w v xs) (hl : xs.length ≤ 1000000) (hk : k ≤ 3) :
    Calls Try.prog 9 #[v, .int .i64 k] w fun e w' => ∃ v', e = .returned (.tuple #[v', .int .i64 0]) ∧ w'.ownsRow w.heap.size 3 1 v' xs.length ((D k xs).map (Value.int .i64)) ∧ Only (fun _ => False) w w' := by
  have A0 := hideIt (maybe_in k w hk)
  have A1 := hideIt (iclone_bs v xs w hb hl)
  obtain ⟨n, hn⟩ : ∃ n, n = xs.length := ⟨_, rfl⟩
  rw [← hn] at hl A1 ⊢
  obtain ⟨N, hN⟩ : ∃ N, N = w.heap.size := ⟨_, rfl⟩
  rw [← hN] at A1 ⊢
  have HN := hideIt (And.intro hn hN)
  clear hn hN hb
  go_enter Try.func9, Try.ntmps9
  go_wp2_with fail
  refine A0.out.mono ?_
  rintro e w1 ⟨rfl, rfl⟩
  clear A0
  go_wp2_with fail
  refine A1.out.mono ?_
  rintro e w1 ⟨v', rfl, own1, on1⟩
  have H1 := hideIt (And.intro own1 on1)
  clear A1 own1 on1
  go_wp2
  go_loopw [14] (fun i wr => ∃ j : Nat, j ≤ k ∧ i = .int .i64 j ∧ wr.ownsRow N 3 1 v' n ((D j xs).map (Value.int .i64)) ∧ Only (fun _ => False) w wr) (fun i _ => k - (intOf i).toNat)
  case atStart => exact ⟨0, Nat.zero_le _, rfl, H1.out⟩
  case round =>
    obtain ⟨j, hj, rfl, hown, hon⟩ := hrel
    clear H1
    by_cases hlt : j < k
    · have H := hideIt (And.intro hown hon)
      clear hown hon
      have A2 := hideIt (differences_any wr)
      go_wp2_with fail
      refine A2.out.mono ?_
      rintro e w2 ⟨rfl, hc, hf, on2⟩
      have hown2 := on2.own H.out.1 (fun _ _ f => f)
      have hln : (D j xs).length = n := by rw [D_length]; exact HN.out.1.symm
      have A3 := hideIt (rep_d N wr.heap.size j n 0 v' (D j xs) w2 hln hown2 hc hf (fun b hb => Nat.ne_of_lt (own_at_lt H.out.1 hb).2) hl (by omega))
      have H2 := hideIt (And.intro on2 hown2)
      clear A2 hc hf on2 hown2
      go_wp2_with fail
      refine A3.out.mono ?_
      rintro e w3 ⟨rfl, hown3, on3⟩
      have H3 := hideIt (And.intro hown3 on3)
      clear A3 hown3 on3
      go_wp2
      go_roundw
      case rel =>
        refine ⟨j + 1, by omega, by go_num, H3.out.1, ?_⟩
        have o2 := H.out.2.trans H2.out.1 (fun _ _ f => f)
        refine o2.trans H3.out.2 (fun i hi h => ?_)
        rcases h with h | h
        · have := (own_at_lt H.out.1 h).1
          have := HN.out.2
          omega
        · have := H.out.2.size
          omega
      case measure => simp [intOf]; omega
    · have e1 : j = k := by omega
      subst e1
      have H := hideIt (And.intro hown hon)
      clear hown hon
      go_wp2
      go_ret2
      exact ⟨_, rfl, H.out⟩

set_option maxHeartbeats 800000 in
set_option maxRecDepth 100000 in
/-- SUM of numbers by k, 0 to 3: new memory. -/
theorem sum_in (v : Value) (xs : List Int) (k : Nat) (w : World) (hb : Bs .i64 w v xs) (hl : xs.length ≤ 1000000) (hk : k ≤ 3) :
    Calls Try.prog 11 #[v, .int .i64 k] w fun e w' => ∃ v', e = .returned (.tuple #[v', .int .i64 0]) ∧ w'.ownsRow w.heap.size 3 1 v' xs.length ((S k xs).map (Value.int .i64)) ∧ Only (fun _ => False) w w' := by
  have A0 := hideIt (maybe_in k w hk)
  have A1 := hideIt (iclone_bs v xs w hb hl)
  obtain ⟨n, hn⟩ : ∃ n, n = xs.length := ⟨_, rfl⟩
  rw [← hn] at hl A1 ⊢
  obtain ⟨N, hN⟩ : ∃ N, N = w.heap.size := ⟨_, rfl⟩
  rw [← hN] at A1 ⊢
  have HN := hideIt (And.intro hn hN)
  clear hn hN hb
  go_enter Try.func11, Try.ntmps11
  go_wp2_with fail
  refine A0.out.mono ?_
  rintro e w1 ⟨rfl, rfl⟩
  clear A0
  go_wp2_with fail
  refine A1.out.mono ?_
  rintro e w1 ⟨v', rfl, own1, on1⟩
  have H1 := hideIt (And.intro own1 on1)
  clear A1 own1 on1
  go_wp2
  go_loopw [14] (fun i wr => ∃ j : Nat, j ≤ k ∧ i = .int .i64 j ∧ ∃ ys, ys.length = n ∧ S (k - j) ys = S k xs ∧ wr.ownsRow N 3 1 v' n (ys.map (Value.int .i64)) ∧ Only (fun _ => False) w wr) (fun i _ => k - (intOf i).toNat)
  case atStart => exact ⟨0, Nat.zero_le _, rfl, xs, HN.out.1.symm, rfl, H1.out⟩
  case round =>
    obtain ⟨j, hj, rfl, ys, hyl, hys, hown, hon⟩ := hrel
    have HY := hideIt (And.intro hyl hys)
    clear hyl hys
    clear H1
    by_cases hlt : j < k
    · have H := hideIt (And.intro hown hon)
      clear hown hon
      have A2 := hideIt (sums_any wr)
      have it : ((k : Int) - 1 - j) = ((k - 1 - j : Nat) : Int) := by omega
      go_wp2_with fail
      refine A2.out.mono ?_
      rintro e w2 ⟨rfl, hc, hf, on2⟩
      have hown2 := on2.own H.out.1 (fun _ _ f => f)
      have A3 := hideIt (rep_s N wr.heap.size (k - 1 - j) n 0 v' ys w2 HY.out.1 hown2 hc hf (fun b hb => Nat.ne_of_lt (own_at_lt H.out.1 hb).2) hl (by omega))
      have H2 := hideIt (And.intro on2 hown2)
      clear A2 hc hf on2 hown2
      go_wp2_with fail
      refine A3.out.mono ?_
      rintro e w3 ⟨rfl, hown3, on3⟩
      have H3 := hideIt (And.intro hown3 on3)
      clear A3 hown3 on3
      go_wp2
      go_roundw
      case rel =>
        refine ⟨j + 1, by omega, by go_num, _, ?_, ?_, H3.out.1, ?_⟩
        · exact (bh_length (sm_length 0) (k - 1 - j) ys).trans HY.out.1
        · rw [← HY.out.2, show k - j = (k - (j + 1)) + 1 by omega, S, show k - 1 - j = k - (j + 1) by omega]; rfl
        have o2 := H.out.2.trans H2.out.1 (fun _ _ f => f)
        refine o2.trans H3.out.2 (fun i hi h => ?_)
        rcases h with h | h
        · have := (own_at_lt H.out.1 h).1
          have := HN.out.2
          omega
        · have := H.out.2.size
          omega
      case measure => simp [intOf]; omega
    · have e1 : j = k := by omega
      subst e1
      have e2 : ys = S j xs := by have := HY.out.2; rw [Nat.sub_self] at this; exact this
      subst e2
      have H := hideIt (And.intro hown hon)
      clear hown hon
      go_wp2
      go_ret2
      exact ⟨_, rfl, H.out⟩

set_option maxHeartbeats 400000 in
set_option maxRecDepth 100000 in
theorem diff_out (v : Value) (k : Int) (w : World) (hk : k < 0 ∨ 3 < k) : Calls Try.prog 9 #[v, .int .i64 k] w fun e w' => e = .returned (.tuple #[.slice none 0 0, .int .i64 1]) ∧ w = w' := by
  have A0 := hideIt (maybe_out k w hk)
  clear hk
  go_enter Try.func9, Try.ntmps9
  go_wp2_with fail
  refine A0.out.mono ?_
  rintro e w1 ⟨rfl, rfl⟩
  go_wp2
  go_ret2
  exact ⟨rfl, rfl⟩

set_option maxHeartbeats 400000 in
set_option maxRecDepth 100000 in
theorem sum_out (v : Value) (k : Int) (w : World) (hk : k < 0 ∨ 3 < k) : Calls Try.prog 11 #[v, .int .i64 k] w fun e w' => e = .returned (.tuple #[.slice none 0 0, .int .i64 1]) ∧ w = w' := by
  have A0 := hideIt (maybe_out k w hk)
  clear hk
  go_enter Try.func11, Try.ntmps11
  go_wp2_with fail
  refine A0.out.mono ?_
  rintro e w1 ⟨rfl, rfl⟩
  go_wp2
  go_ret2
  exact ⟨rfl, rfl⟩

theorem Only.same {a b c : World} (h : Only (fun _ => False) a b) (k : Only (fun _ => False) b c) : Only (fun _ => False) a c := h.trans k (fun _ _ f => f)
theorem int_nat {k : Int} (h0 : 0 ≤ k) (h3 : k ≤ 3) : ∃ m : Nat, m ≤ 3 ∧ k = m := ⟨k.toNat, by omega, by omega⟩
/-- what Diff by k makes: a slice that reads so -/
theorem diff_bs (v : Value) (xs : List Int) (k : Nat) (w : World) (hb : Bs .i64 w v xs) (hl : xs.length ≤ 1000000) (hk : k ≤ 3) :
    Calls Try.prog 9 #[v, .int .i64 k] w fun e w' => ∃ v', e = .returned (.tuple #[v', .int .i64 0]) ∧ Bs .i64 w' v' (D k xs) ∧ NoCap v' ∧ Only (fun _ => False) w w' := by
  refine (diff_in v xs k w hb hl hk).mono ?_
  rintro e w' ⟨v', rfl, hown, hon⟩
  rw [← D_length k xs] at hown
  exact ⟨v', rfl, Bs.of_own hown, NoCap.of_own hown, hon⟩
theorem sum_bs (v : Value) (xs : List Int) (k : Nat) (w : World) (hb : Bs .i64 w v xs) (hl : xs.length ≤ 1000000) (hk : k ≤ 3) :
    Calls Try.prog 11 #[v, .int .i64 k] w fun e w' => ∃ v', e = .returned (.tuple #[v', .int .i64 0]) ∧ Bs .i64 w' v' (S k xs) ∧ NoCap v' ∧ Only (fun _ => False) w w' := by
  refine (sum_in v xs k w hb hl hk).mono ?_
  rintro e w' ⟨v', rfl, hown, hon⟩
  rw [← S_length k xs] at hown
  exact ⟨v', rfl, Bs.of_own hown, NoCap.of_own hown, hon⟩

end Go.Proofs.Ytlfioabaingfbaa
