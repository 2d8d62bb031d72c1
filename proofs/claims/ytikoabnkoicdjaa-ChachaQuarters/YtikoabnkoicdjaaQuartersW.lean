/- The statement ChachaQuarters: the walk. -/
import Derived.Test.YtikoabnkoicdjaaQu
import Derived.Test.YtikoabnkoicdjaaAr0
namespace Go.Proofs.Ytikoabnkoicdjaa
open Go.RowKit

set_option maxHeartbeats 1600000 in
set_option maxRecDepth 100000 in
theorem quarters_walk (a b c d : Nat) (ha : a < 4294967296) (hb : b < 4294967296) (hc : c < 4294967296) (hd : d < 4294967296) (w : World) :
    Calls Try.prog 3 #[.agg #[.int .u32 a, .int .u32 b, .int .u32 c, .int .u32 d]] w fun e w' => e = .returned (.bool true) ∧ Below w.heap.size w w' := by
  have A := hideIt (fun W => awake_any W)
  have P : Hid (∀ W : World, Calls Try.prog 10 #[.int .u32 a, .int .u32 b, .int .u32 c, .int .u32 d] W fun e w' => e = .returned (q4v (qrt ⟨a, b, c, d⟩)) ∧ W = w') := fun W => quarter_any a b c d W ha hb hc hd
  have R : Hid (∀ W : World, Calls Try.prog 11 #[.int .u32 a, .int .u32 b, .int .u32 c, .int .u32 d] W fun e w' => e = .returned (q4v (qrt ⟨a, b, c, d⟩)) ∧ W = w') := fun W => rquarter_any a b c d W ha hb hc hd
  obtain ⟨q, hq⟩ : ∃ q, q = qrt ⟨a, b, c, d⟩ := ⟨_, rfl⟩
  rw [← hq] at P R
  obtain ⟨qa, qb, qc, qd⟩ := q
  unfold q4v at P R
  simp only at P R
  have OW : Hid (∀ o, Below w.heap.size w (w.alloc o)) := fun o => ((Only.refl (fun _ => False) w).alloc o).low (Nat.le_refl _)
  clear hq ha hb hc hd
  go_enter Try.func3, Try.ntmps3
  go_wp2_with fail
  refine (A.out _).mono ?_
  rintro e w1 ⟨rfl, rfl⟩
  go_wp2_with fail
  refine (P.out _).mono ?_
  rintro e w1 ⟨rfl, rfl⟩
  go_wp2_with fail
  refine (R.out _).mono ?_
  rintro e w1 ⟨rfl, rfl⟩
  go_wp2
  go_ret
  exact ⟨rfl, OW.out _⟩
end Go.Proofs.Ytikoabnkoicdjaa
