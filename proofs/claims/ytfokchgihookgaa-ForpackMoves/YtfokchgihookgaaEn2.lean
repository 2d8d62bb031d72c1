/- Package forpack's ends, as a plain contract. -/
import Derived.Test.YtfokchgihookgaaEn
namespace Go.Proofs.Ytfokchgihookgaa
open Go.RowKit Go.Shelf
attribute [local go_sem] Oper.semAt_some

set_option maxRecDepth 100000 in
set_option maxHeartbeats 1000000 in
theorem ends_nil_in (F : Fence) (n : Nat) (h3 : F.fn 18) (hro : F.round = none) (ao : Option Addr) (cap : Nat) (w : World) :
    CallsIn F n Try.prog 18 #[.slice ao 0 cap] w fun e W' => e = .returned (.tuple #[.int .u64 0, .int .u64 0]) ∧ Below w.heap.size w W' := by
  refine callsIn_of_wp_marks Try.func18 rfl h3 ?_ hro
  simp only [Try.ntmps18, List.size_toArray, List.length_cons, List.length_nil, Nat.reduceAdd, Nat.reduceSub, Array.replicate_succ, Array.replicate_zero, List.push_toArray, List.append_toArray, List.nil_append, List.cons_append]
  gi_wp2
  have bA := (Boxed.new w 35 (.int .u64 0)).alloc (.cells #[.int .u64 0] 35)
  have bC := Boxed.new (w.alloc (.cells #[.int .u64 0] 35)) 35 (.int .u64 0)
  rw [World.size_alloc] at bC
  have r1 := bA.cell
  have r3 := bC.cell
  refine ⟨.tuple #[.int .u64 0, .int .u64 0], ?_, rfl, ((Below.refl _ w).alloc (Nat.le_refl _) _).alloc (by simp) _⟩
  simp [results, Try.f18, go_sem, r1, r3]

theorem ends_bs (v : Value) (xs : List Int) (w : World) (h : Bs .u64 w v xs) (hl : xs.length ≤ 1000000000) :
    Calls Try.prog 18 #[v] w fun e w' => e = .returned (.tuple #[.int .u64 (lo xs), .int .u64 (hi xs)]) ∧ Only (fun _ => False) w w' := by
  obtain ⟨ao, cap, rfl, hc, hr⟩ := h
  refine ((callsIn_wide (n := 3)).1 ?_ : Calls Try.prog 18 #[.slice ao xs.length cap] w fun e w' => e = .returned (.tuple #[.int .u64 (lo xs), .int .u64 (hi xs)]) ∧ Below w.heap.size w w').mono fun e w' h => ⟨h.1, only_of_below h.2⟩
  cases xs with
  | nil => exact ends_nil_in _ _ trivial rfl ao cap w
  | cons x0 zs =>
    obtain ⟨b, off, rfl, hcell⟩ := hr (by simp)
    have c0 : w.cell? ⟨b, off, none⟩ = some (.int .u64 x0) := hcell 0 (by simp)
    by_cases h1 : cap = 1
    · subst h1
      have h0 : zs = [] := List.eq_nil_of_length_eq_zero (by rw [List.length_cons] at hc; omega)
      subst h0
      exact ends_one_in _ _ trivial trivial trivial rfl (by omega) b off x0 w c0
    · refine ends_in _ _ trivial trivial trivial rfl (by omega) b off cap zs x0 w c0 (by rw [List.length_cons] at hl; omega) (by rw [List.length_cons] at hc; omega) h1 ?_
      refine ⟨_, _, rfl, fun _ => ⟨b, off + 1, rfl, World.block_lt_of_cell? w _ c0, fun j hj => ?_⟩⟩
      have := hcell (j + 1) (by rw [List.length_cons]; omega)
      rw [show off + 1 + j = off + (j + 1) by omega, this]
      simp [List.getD_eq_getElem?_getD]
end Go.Proofs.Ytfokchgihookgaa
