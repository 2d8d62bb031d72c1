/- The walk of the statement on a list that is cut off: all ways. -/
import Derived.Test.YtlfioabaingfbaaFirst2W
namespace Go.Proofs.Ytlfioabaingfbaa
open Go.RowKit

set_option maxHeartbeats 800000 in
set_option maxRecDepth 100000 in
theorem first_any (v : Value) (xs : List Int) (k q : Int) (w : World) (hb : Bs .i64 w v xs) (hg : ∀ x ∈ xs, G64 x) :
    Calls Try.prog 6 #[v, .int .i64 k, .int .i64 q] w fun e w' => e = .returned (.bool true) ∧ Only (fun _ => False) w w' := by
  have AW := hideIt (awake_any w)
  by_cases hlong : 1000 < xs.length
  · have h1 : decide ((1000 : Int) < xs.length) = true := decide_eq_true (by omega)
    obtain ⟨ao, cap, rfl⟩ := hb.len
    clear hb
    go_enter Try.func6, Try.ntmps6
    go_wp2_with fail
    refine AW.out.mono ?_
    rintro e w1 ⟨rfl, on1⟩
    have O1 := hideIt on1
    clear on1 AW
    go_wp2
    go_ret
    exact ⟨rfl, O1.out⟩
  have h1 : decide ((1000 : Int) < xs.length) = false := decide_eq_false (by omega)
  by_cases hk0 : k < 0
  · have t1 : decide (k < 0) = true := decide_eq_true hk0
    obtain ⟨ao, cap, rfl⟩ := hb.len
    clear hb
    go_enter Try.func6, Try.ntmps6
    go_wp2_with fail
    refine AW.out.mono ?_
    rintro e w1 ⟨rfl, on1⟩
    have O1 := hideIt on1
    clear on1 AW
    go_wp2
    go_ret
    exact ⟨rfl, O1.out⟩
  have t1 : decide (k < 0) = false := decide_eq_false hk0
  by_cases hk3 : 3 < k
  · have t2 : decide (3 < k) = true := decide_eq_true hk3
    obtain ⟨ao, cap, rfl⟩ := hb.len
    clear hb
    go_enter Try.func6, Try.ntmps6
    go_wp2_with fail
    refine AW.out.mono ?_
    rintro e w1 ⟨rfl, on1⟩
    have O1 := hideIt on1
    clear on1 AW
    go_wp2
    go_ret
    exact ⟨rfl, O1.out⟩
  have t2 : decide (3 < k) = false := decide_eq_false hk3
  have hlow := i64_low q 10 (by omega)
  obtain ⟨c, hc, hcl⟩ : ∃ c : Nat, q % ((2 ^ 10 : Nat) : Int) = c ∧ c ≤ 1023 := ⟨(q % ((2 ^ 10 : Nat) : Int)).toNat, by omega, by omega⟩
  rw [hc] at hlow
  have hlow' : bits .and .i64 q 1023 = (c : Int) := hlow
  clear hc hlow
  by_cases hcn : xs.length < c
  · have t3 : decide ((xs.length : Int) < (c : Int)) = true := decide_eq_true (by omega)
    obtain ⟨ao, cap, rfl⟩ := hb.len
    clear hb
    go_enter Try.func6, Try.ntmps6
    go_wp2_with fail
    refine AW.out.mono ?_
    rintro e w1 ⟨rfl, on1⟩
    have O1 := hideIt on1
    clear on1 AW
    go_wp2
    go_ret
    exact ⟨rfl, O1.out⟩
  obtain ⟨m, hm, rfl⟩ := int_nat (k := k) (by omega) (by omega)
  by_cases hx : xs.length = 0
  · obtain rfl : xs = [] := List.eq_nil_of_length_eq_zero hx
    obtain rfl : c = 0 := by simp at hcn; exact hcn
    exact first_zero v m q w hm hlow' hb
  · exact first_pos v xs m q c w hm hlow' hb hg (by omega) (by omega) hx
end Go.Proofs.Ytlfioabaingfbaa
