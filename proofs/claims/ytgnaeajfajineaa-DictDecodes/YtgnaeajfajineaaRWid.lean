/- The reference's Width of a number. -/
import Derived.Test.YtgnaeajfajineaaProg
import Derived.Test.YtgnaeajfajineaaMath
import Derived.Test.YtgnaeajfajineaaBase
namespace Go.Proofs.Ytgnaeajfajineaa
open Go.RowKit

set_option maxHeartbeats 400000 in
set_option maxRecDepth 100000 in
theorem rwidth_any (v : Int) (w : World) (h0 : 0 ≤ v) (h1 : v ≤ 18446744073709551615) :
    Calls Try.prog 41 #[.int .u64 v] w fun e w' => e = .returned (.int .i64 (wid v.toNat)) ∧ w = w' := by
  have h64 := wid_le64 v.toNat (by omega)
  go_enter Try.func41, Try.ntmps41
  go_wp2
  go_loop [0, 3] (fun a i => ∃ (x c : Nat), a = .int .u64 x ∧ i = .int .i64 c ∧ wid x + c = wid v.toNat ∧ (x : Int) ≤ 18446744073709551615) (fun a _ => (intOf a).toNat)
  case atStart => exact ⟨v.toNat, 0, by rw [Int.toNat_of_nonneg h0], rfl, rfl, by omega⟩
  case round =>
    obtain ⟨x, c, rfl, rfl, hx, hxb⟩ := hrel
    have HX := hideIt hx
    have hcb : (c : Int) ≤ 64 := by omega
    clear hx h64
    by_cases hlt : 0 < x
    · have hlt' : (0 : Int) < (x : Int) := by omega
      have WH := hideIt (wid_half x hlt)
      go_wp2
      go_round
      case rel =>
        refine ⟨x / 2, c + 1, ?_, by go_num, by have := HX.out; have := WH.out; omega, by omega⟩
        congr 1
      case measure => simp [intOf]; omega
    · have hx0 : x = 0 := by omega
      subst hx0
      go_wp2
      go_ret
      refine ⟨ret_int ?_, rfl⟩
      have := HX.out
      simp [wid] at this
      simp [wid]
      omega
end Go.Proofs.Ytgnaeajfajineaa
