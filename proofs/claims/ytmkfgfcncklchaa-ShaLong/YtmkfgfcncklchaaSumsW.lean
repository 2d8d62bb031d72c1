/- The sum of any bytes is what the document says: the walk. -/
import Derived.Test.YtmkfgfcncklchaaAw
import Derived.Test.YtmkfgfcncklchaaRe
namespace Go.Proofs.Ytmkfgfcncklchaa
open Go.RowKit

theorem sha32 (b : List Int) : (SHA b).length ≤ 140737488355328 := by rw [SHA_len]; decide
set_option maxHeartbeats 800000 in
set_option maxRecDepth 100000 in
theorem sums_walk (v : Value) (xs : List Int) (w : World) (hb : Bs .u8 w v xs) (nc : NoCap v) (h8 : U8 xs) :
    Calls Try.prog 3 #[v] w fun e w' => e = .returned (.bool true) ∧ Below w.heap.size w w' := by
  obtain ⟨ao, cap, rfl⟩ := hb.len
  have A := hideIt (awake_any w)
  by_cases hl : 4000 < xs.length
  · have d0 : decide ((4000 : Int) < (xs.length : Int)) = true := decide_eq_true (by omega)
    clear hb nc h8
    generalize xs.length = n at *
    go_enter Try.func3, Try.ntmps3
    go_wp2_with fail
    refine A.out.mono ?_
    rintro e w1 ⟨rfl, o1⟩
    have O1 := hideIt o1
    clear o1 A
    go_wp2
    go_ret
    exact ⟨rfl, O1.out.low (Nat.le_refl _)⟩
  · have d0 : decide ((4000 : Int) < (xs.length : Int)) = false := decide_eq_false (by omega)
    have HB := hideIt (And.intro hb (And.intro nc h8))
    have HL : Hid (xs.length ≤ 4000) := (by omega : xs.length ≤ 4000)
    clear hb nc h8 hl
    obtain ⟨n, hn⟩ : ∃ n, n = xs.length := ⟨_, rfl⟩
    rw [← hn] at d0 HB ⊢
    clear hn
    go_enter Try.func3, Try.ntmps3
    go_wp2_with fail
    refine A.out.mono ?_
    rintro e w1 ⟨rfl, o1⟩
    have O1 := hideIt o1
    have S1 := hideIt (sum_bs _ xs w1 (HB.out.1.past o1) HB.out.2.2 (Nat.le_trans HL.out (by decide)))
    clear o1 A
    go_wp2_with fail
    refine S1.out.mono ?_
    rintro e w2 ⟨v2, rfl, own2, o2⟩
    obtain ⟨b2, g2, c2, rfl, _⟩ := sum_form own2
    have O2 := hideIt (O1.out.same o2)
    have B2 := hideIt b2
    have S2 := hideIt (rsum_bs _ xs w2 (HB.out.1.past O2.out) HB.out.2.1 HB.out.2.2 (Nat.le_trans HL.out (by decide)))
    clear o2 own2 b2 S1
    go_wp2_with fail
    refine S2.out.mono ?_
    rintro e w3 ⟨v3, rfl, own3, o3⟩
    obtain ⟨b3, g3, c3, rfl, _⟩ := sum_form own3
    have O3 := hideIt (O2.out.same o3)
    have S3 := hideIt (lsame_eq _ _ (SHA xs) w3 (B2.out.past o3) b3 (sha32 _))
    clear o3 own3 b3 S2 B2
    go_wp2_with fail
    refine S3.out.mono ?_
    rintro e w4 ⟨rfl, o4⟩
    have O4 := hideIt (O3.out.same o4)
    clear o4 S3
    go_wp2
    go_ret
    exact ⟨rfl, O4.out.low (Nat.le_refl _)⟩
end Go.Proofs.Ytmkfgfcncklchaa
