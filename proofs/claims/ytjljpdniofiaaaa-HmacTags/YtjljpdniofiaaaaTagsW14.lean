/- The tag of any bytes by any key, and what is taken as one: the walk. -/
import Derived.Test.YtjljpdniofiaaaaAw14
import Derived.Test.YtjljpdniofiaaaaRm14
namespace Go.Proofs.Ytjljpdniofiaaaa
open Go.RowKit

set_option maxHeartbeats 1600000 in
set_option maxRecDepth 100000 in
theorem tags_walk (vxk : Value) (vxb : Value) (vxt : Value) (xk : List Int) (xb : List Int) (xt : List Int) (w : World) (hbxk : Bs .u8 w vxk xk) (ncxk : NoCap vxk) (h8xk : U8 xk) (hbxb : Bs .u8 w vxb xb) (ncxb : NoCap vxb) (h8xb : U8 xb) (hbxt : Bs .u8 w vxt xt) (ncxt : NoCap vxt) (h8xt : U8 xt) :
    Calls Try.prog 3 #[vxk, vxb, vxt] w fun e w' => e = .returned (.bool true) ∧ Below w.heap.size w w' := by
  obtain ⟨aoxk, capxk, rfl⟩ := hbxk.len
  obtain ⟨aoxb, capxb, rfl⟩ := hbxb.len
  obtain ⟨aoxt, capxt, rfl⟩ := hbxt.len
  have A := hideIt (awake_any w)
  obtain ⟨nxk, hnxk⟩ : ∃ n, n = xk.length := ⟨_, rfl⟩
  rw [← hnxk] at hbxk ncxk ⊢
  obtain ⟨nxb, hnxb⟩ : ∃ n, n = xb.length := ⟨_, rfl⟩
  rw [← hnxb] at hbxb ncxb ⊢
  obtain ⟨nxt, hnxt⟩ : ∃ n, n = xt.length := ⟨_, rfl⟩
  rw [← hnxt] at hbxt ncxt ⊢
  by_cases hlxk : 300 < nxk
  · have dxk : decide ((300 : Int) < (nxk : Int)) = true := decide_eq_true (by omega)
    have dxk' : decide (300 < nxk) = true := decide_eq_true hlxk
    clear hbxk ncxk h8xk hnxk hbxb ncxb h8xb hnxb hbxt ncxt h8xt hnxt hlxk
    go_enter Try.func3, Try.ntmps3
    go_wp2_with fail
    refine A.out.mono ?_
    rintro e w1 ⟨rfl, o1⟩
    have O1 := hideIt o1
    clear o1 A
    go_wp2
    go_ret
    exact ⟨rfl, O1.out.low (Nat.le_refl _)⟩
  · by_cases hlxb : 1000 < nxb
    · have dxk : decide ((300 : Int) < (nxk : Int)) = false := decide_eq_false (by omega)
      have dxk' : decide (300 < nxk) = false := decide_eq_false hlxk
      have dxb : decide ((1000 : Int) < (nxb : Int)) = true := decide_eq_true (by omega)
      have dxb' : decide (1000 < nxb) = true := decide_eq_true hlxb
      clear hbxk ncxk h8xk hnxk hbxb ncxb h8xb hnxb hbxt ncxt h8xt hnxt hlxk hlxb
      go_enter Try.func3, Try.ntmps3
      go_wp2_with fail
      refine A.out.mono ?_
      rintro e w1 ⟨rfl, o1⟩
      have O1 := hideIt o1
      clear o1 A
      go_wp2
      go_ret
      exact ⟨rfl, O1.out.low (Nat.le_refl _)⟩
    · by_cases hlxt : 300 < nxt
      · have dxk : decide ((300 : Int) < (nxk : Int)) = false := decide_eq_false (by omega)
        have dxk' : decide (300 < nxk) = false := decide_eq_false hlxk
        have dxb : decide ((1000 : Int) < (nxb : Int)) = false := decide_eq_false (by omega)
        have dxb' : decide (1000 < nxb) = false := decide_eq_false hlxb
        have dxt : decide ((300 : Int) < (nxt : Int)) = true := decide_eq_true (by omega)
        have dxt' : decide (300 < nxt) = true := decide_eq_true hlxt
        clear hbxk ncxk h8xk hnxk hbxb ncxb h8xb hnxb hbxt ncxt h8xt hnxt hlxk hlxb hlxt
        go_enter Try.func3, Try.ntmps3
        go_wp2_with fail
        refine A.out.mono ?_
        rintro e w1 ⟨rfl, o1⟩
        have O1 := hideIt o1
        clear o1 A
        go_wp2
        go_ret
        exact ⟨rfl, O1.out.low (Nat.le_refl _)⟩
      · have dxk : decide ((300 : Int) < (nxk : Int)) = false := decide_eq_false (by omega)
        have dxk' : decide (300 < nxk) = false := decide_eq_false hlxk
        have dxb : decide ((1000 : Int) < (nxb : Int)) = false := decide_eq_false (by omega)
        have dxb' : decide (1000 < nxb) = false := decide_eq_false hlxb
        have dxt : decide ((300 : Int) < (nxt : Int)) = false := decide_eq_false (by omega)
        have dxt' : decide (300 < nxt) = false := decide_eq_false hlxt
        have Hxk := hideIt (And.intro hbxk (And.intro ncxk (And.intro h8xk (And.intro hnxk (show nxk ≤ 300 by omega)))))
        have Hxb := hideIt (And.intro hbxb (And.intro ncxb (And.intro h8xb (And.intro hnxb (show nxb ≤ 1000 by omega)))))
        have Hxt := hideIt (And.intro hbxt (And.intro ncxt (And.intro h8xt (And.intro hnxt (show nxt ≤ 300 by omega)))))
        clear hbxk ncxk h8xk hnxk hlxk hbxb ncxb h8xb hnxb hlxb hbxt ncxt h8xt hnxt hlxt
        obtain ⟨D, hD⟩ : ∃ D, D = decide (MACL xk xb = xt) := ⟨_, rfl⟩
        obtain ⟨E, hE⟩ : ∃ E, E = decide (xb = xt) := ⟨_, rfl⟩
        have HD := hideIt (And.intro hD hE)
        have qD : (D == D) = true := by cases D <;> rfl
        have qE : (E == E) = true := by cases E <;> rfl
        clear hD hE
        go_enter Try.func3, Try.ntmps3
        go_wp2_with fail
        refine A.out.mono ?_
        rintro e w1 ⟨rfl, o1⟩
        have O1 := hideIt o1
        have M1 := hideIt (mac_bs (.slice aoxk nxk capxk) (.slice aoxb nxb capxb) xk xb w1 (Hxk.out.1.past o1) Hxk.out.2.2.1 (by have := Hxk.out.2.2.2; omega) (Hxb.out.1.past o1) Hxb.out.2.2.1 (by have := Hxb.out.2.2.2; omega))
        clear o1 A
        go_wp2_with fail
        refine M1.out.mono ?_
        rintro e w2 ⟨v2, rfl, own2, o2⟩
        obtain ⟨b2, g2, c2, rfl, _⟩ := mac_form own2
        have O2 := hideIt (O1.out.same o2)
        have B2 := hideIt b2
        have M2 := hideIt (rmac_bs (.slice aoxk nxk capxk) (.slice aoxb nxb capxb) xk xb w2 (Hxk.out.1.past O2.out) Hxk.out.2.1 Hxk.out.2.2.1 (by have := Hxk.out.2.2.2; omega) (Hxb.out.1.past O2.out) Hxb.out.2.1 Hxb.out.2.2.1 (by have := Hxb.out.2.2.2; omega))
        clear o2 own2 b2 M1
        go_wp2_with fail
        refine M2.out.mono ?_
        rintro e w3 ⟨v3, rfl, own3, o3⟩
        obtain ⟨b3, g3, c3, rfl, _⟩ := mac_form own3
        have O3 := hideIt (O2.out.same o3)
        have S3 := hideIt (lsame_eq _ _ (MACL xk xb) w3 (B2.out.past o3) b3 (by rw [MACL_len]; decide))
        clear o3 own3 b3 M2 B2
        go_wp2_with fail
        refine S3.out.mono ?_
        rintro e w4 ⟨rfl, o4⟩
        have O4 := hideIt (O3.out.same o4)
        have C1 := hideIt (check_bs (.slice aoxk nxk capxk) (.slice aoxb nxb capxb) (.slice aoxt nxt capxt) xk xb xt w4 (Hxk.out.1.past O4.out) Hxk.out.2.2.1 (by have := Hxk.out.2.2.2; omega) (Hxb.out.1.past O4.out) Hxb.out.2.2.1 (by have := Hxb.out.2.2.2; omega) (Hxt.out.1.past O4.out) Hxt.out.2.2.1)
        rw [← HD.out.1] at C1
        clear o4 S3
        go_wp2_with fail
        refine C1.out.mono ?_
        rintro e w5 ⟨rfl, o5⟩
        have O5 := hideIt (O4.out.same o5)
        have C2 := hideIt (rcheck_bs (.slice aoxk nxk capxk) (.slice aoxb nxb capxb) (.slice aoxt nxt capxt) xk xb xt w5 (Hxk.out.1.past O5.out) Hxk.out.2.1 Hxk.out.2.2.1 (by have := Hxk.out.2.2.2; omega) (Hxb.out.1.past O5.out) Hxb.out.2.1 Hxb.out.2.2.1 (by have := Hxb.out.2.2.2; omega) (Hxt.out.1.past O5.out))
        rw [← HD.out.1] at C2
        clear o5 C1
        go_wp2_with fail
        refine C2.out.mono ?_
        rintro e w6 ⟨rfl, o6⟩
        have O6 := hideIt (O5.out.same o6)
        have C3 := hideIt (hsame_any (.slice aoxb nxb capxb) (.slice aoxt nxt capxt) xb xt w6 (Hxb.out.1.past O6.out) (Hxt.out.1.past O6.out) Hxb.out.2.2.1 Hxt.out.2.2.1 (by have := Hxb.out.2.2.2; omega))
        rw [← HD.out.2] at C3
        clear o6 C2
        go_wp2_with fail
        refine C3.out.mono ?_
        rintro e w7 ⟨rfl, o7⟩
        have O7 := hideIt (O6.out.same o7)
        have C4 := hideIt (same_any (.slice aoxb nxb capxb) (.slice aoxt nxt capxt) xb xt w7 (Hxb.out.1.past O7.out) (Hxt.out.1.past O7.out) (by have := Hxb.out.2.2.2; omega))
        rw [← HD.out.2] at C4
        clear o7 C3
        go_wp2_with fail
        refine C4.out.mono ?_
        rintro e w8 ⟨rfl, o8⟩
        have O8 := hideIt (O7.out.same o8)
        clear o8 C4
        go_wp2
        go_ret
        exact ⟨rfl, O8.out.low (Nat.le_refl _)⟩
end Go.Proofs.Ytjljpdniofiaaaa
