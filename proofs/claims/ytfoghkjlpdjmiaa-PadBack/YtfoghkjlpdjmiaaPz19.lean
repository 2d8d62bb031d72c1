/- Package pad: the sizes, gone through by an iterator; Size and Bucket. -/
import Derived.Test.YtfoghkjlpdjmiaaRrt
import Derived.Test.YtfoghkjlpdjmiaaPd
namespace Go.Proofs.Ytfoghkjlpdjmiaa
open Go.RowKit Go.Shelf
attribute [local go_sem] Oper.semAt_some

theorem PSZ_succ (t : Nat) : PSZ (t + 1) = PSZ t * 4 := by unfold PSZ; rw [Nat.pow_succ]; omega
theorem PSZ_cases {t : Nat} (h : t ≤ 9) : (t < 9 ∧ PSZ t ≤ 4194304 ∧ 64 ≤ PSZ t) ∨ (t = 9 ∧ PSZ t = 16777216) := by
  rcases (show t = 0 ∨ t = 1 ∨ t = 2 ∨ t = 3 ∨ t = 4 ∨ t = 5 ∨ t = 6 ∨ t = 7 ∨ t = 8 ∨ t = 9 by omega) with rfl | rfl | rfl | rfl | rfl | rfl | rfl | rfl | rfl | rfl <;> decide
set_option maxHeartbeats 400000 in
theorem sizes_in (n : Nat) (w : World) : CallsIn Fence.wide n Try.prog 19 #[] w fun e w' => e = .returned (.func (.func 27) #[] #[]) ∧ w' = w := by
  refine callsIn_of_wp Try.func19 rfl trivial ?_ rfl
  simp only [Try.ntmps19, List.size_toArray, List.length_nil, Nat.reduceSub, Array.replicate_succ, Array.replicate_zero, List.push_toArray, List.append_toArray, List.nil_append]
  gi_wp2
  go_ret
  exact ⟨rfl, rfl⟩

set_option maxRecDepth 100000 in
set_option maxHeartbeats 1000000 in
/-- THE ITERATOR: each bucket and its size. -/
theorem sizes1_in (n L : Nat) (J Jx : Nat → World → Prop)
    (hY : ∀ (s : Nat) A, s < 9 → J s A → YieldAt Fence.wide (n - 1) Try.prog L #[.int .i64 (s : Int), .int .i64 (PSZ s : Int)] A fun e B =>
      (e = .returned (.bool true) ∧ J (s + 1) B) ∨ (e = .returned (.bool false) ∧ Jx (s + 1) B))
    (W : World) (h0 : J 0 W) :
    CallsIn Fence.wide n Try.prog 27 #[.func (.yield L) #[] #[]] W fun e B => (∃ v, e = .returned v) ∧ (J 9 B ∨ ∃ s, Jx s B) := by
  have HY := hideIt hY
  have H0 := hideIt h0
  clear hY h0
  refine callsIn_of_wp Try.func27 rfl trivial ?_ rfl
  simp only [Try.ntmps27, List.size_toArray, List.length_cons, List.length_nil, Nat.reduceAdd, Nat.reduceSub, Array.replicate_succ, Array.replicate_zero, List.push_toArray, List.append_toArray, List.nil_append, List.cons_append]
  gi_wp2
  gi_loopw [2, 3] (fun k z wr => ∃ t q : Nat, t ≤ 9 ∧ k = .int .i64 t ∧ z = .int .i64 q ∧ Hid (q = PSZ t) ∧ Hid (J t wr)) (fun k _ _ => 9 - (intOf k).toNat)
  case atStart => exact ⟨0, 64, by omega, rfl, rfl, rfl, H0⟩
  case round =>
    obtain ⟨t, q, ht, rfl, rfl, HQ, HT⟩ := hrel
    rcases PSZ_cases ht with ⟨hlt, hle, hge⟩ | ⟨heq, hgr⟩
    · rw [← HQ.out] at hle hge
      have dle : decide ((q : Int) ≤ 4194304) = true := decide_eq_true (by omega)
      obtain ⟨fn, tmps, assign, body, hy, hR⟩ := HY.out t wr hlt HT.out
      rw [← HQ.out] at hy
      have HR := hideIt hR
      clear hR HT
      gi_wp2_with fail
      refine ⟨(fun h => by cases h), HR.out.mono ?_⟩
      rintro e w3 (⟨rfl, hJ3⟩ | ⟨rfl, hJ3⟩)
      · have H3 := hideIt hJ3
        clear HR hJ3
        gi_wp2
        go_roundw
        case rel => exact ⟨t + 1, q * 4, by omega, by go_num, by go_num, by show _ = _; rw [HQ.out, PSZ_succ], H3⟩
        case measure => simp [intOf]; omega
      · have H3 := hideIt hJ3
        clear HR hJ3
        gi_wp2
        refine bodyPost_ret (results_none rfl _ _ _) rfl ?_
        exact ⟨⟨_, rfl⟩, .inr ⟨_, H3.out⟩⟩
    · rw [← HQ.out] at hgr
      have dle : decide ((q : Int) ≤ 4194304) = false := decide_eq_false (by omega)
      subst heq
      gi_wp2
      go_end0
      exact ⟨⟨_, rfl⟩, .inl HT.out⟩
end Go.Proofs.Ytfoghkjlpdjmiaa
