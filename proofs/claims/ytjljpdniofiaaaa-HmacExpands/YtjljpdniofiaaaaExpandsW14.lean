/- What is made of any key: the walk. -/
import Derived.Test.YtjljpdniofiaaaaAw14
import Derived.Test.YtjljpdniofiaaaaRe14
import Derived.Test.YtjljpdniofiaaaaEx14
namespace Go.Proofs.Ytjljpdniofiaaaa
open Go.RowKit

set_option maxHeartbeats 1600000 in
set_option maxRecDepth 100000 in
theorem expands_walk (vxk : Value) (vxi : Value) (xk : List Int) (xi : List Int) (n : Int) (w : World) (hbxk : Bs .u8 w vxk xk) (ncxk : NoCap vxk) (h8xk : U8 xk) (hbxi : Bs .u8 w vxi xi) (ncxi : NoCap vxi) (h8xi : U8 xi) :
    Calls Try.prog 4 #[vxk, vxi, .int .i64 n] w fun e w' => e = .returned (.bool true) ∧ Below w.heap.size w w' := by
  obtain ⟨aoxk, capxk, rfl⟩ := hbxk.len
  obtain ⟨aoxi, capxi, rfl⟩ := hbxi.len
  have A := hideIt (awake_any w)
  obtain ⟨nxk, hnxk⟩ : ∃ n, n = xk.length := ⟨_, rfl⟩
  rw [← hnxk] at hbxk ncxk ⊢
  obtain ⟨nxi, hnxi⟩ : ∃ n, n = xi.length := ⟨_, rfl⟩
  rw [← hnxi] at hbxi ncxi ⊢
  by_cases hlxk : 300 < nxk
  · have dxk : decide ((300 : Int) < (nxk : Int)) = true := decide_eq_true (by omega)
    have dxk' : decide (300 < nxk) = true := decide_eq_true hlxk
    clear hbxk ncxk h8xk hnxk hbxi ncxi h8xi hnxi hlxk
    go_enter Try.func4, Try.ntmps4
    go_wp2_with fail
    refine A.out.mono ?_
    rintro e w1 ⟨rfl, o1⟩
    have O1 := hideIt o1
    clear o1 A
    go_wp2
    go_ret
    exact ⟨rfl, O1.out.low (Nat.le_refl _)⟩
  · by_cases hlxi : 300 < nxi
    · have dxk : decide ((300 : Int) < (nxk : Int)) = false := decide_eq_false (by omega)
      have dxk' : decide (300 < nxk) = false := decide_eq_false hlxk
      have dxi : decide ((300 : Int) < (nxi : Int)) = true := decide_eq_true (by omega)
      have dxi' : decide (300 < nxi) = true := decide_eq_true hlxi
      clear hbxk ncxk h8xk hnxk hbxi ncxi h8xi hnxi hlxk hlxi
      go_enter Try.func4, Try.ntmps4
      go_wp2_with fail
      refine A.out.mono ?_
      rintro e w1 ⟨rfl, o1⟩
      have O1 := hideIt o1
      clear o1 A
      go_wp2
      go_ret
      exact ⟨rfl, O1.out.low (Nat.le_refl _)⟩
    · have dxk : decide ((300 : Int) < (nxk : Int)) = false := decide_eq_false (by omega)
      have dxk' : decide (300 < nxk) = false := decide_eq_false hlxk
      have dxi : decide ((300 : Int) < (nxi : Int)) = false := decide_eq_false (by omega)
      have dxi' : decide (300 < nxi) = false := decide_eq_false hlxi
      by_cases hmid : 400 < n ∧ n ≤ 8160
      · have e1 : decide ((400 : Int) < n) = true := decide_eq_true hmid.1
        have e2 : decide (n ≤ 8160) = true := decide_eq_true hmid.2
        clear hbxk ncxk h8xk hnxk hlxk hbxi ncxi h8xi hnxi hlxi
        clear hmid
        go_enter Try.func4, Try.ntmps4
        go_wp2_with fail
        refine A.out.mono ?_
        rintro e w1 ⟨rfl, o1⟩
        have O1 := hideIt o1
        clear o1 A
        go_wp2
        go_ret
        exact ⟨rfl, O1.out.low (Nat.le_refl _)⟩
      have Hxk := hideIt (And.intro hbxk (And.intro ncxk (And.intro h8xk (And.intro hnxk (show nxk ≤ 300 by omega)))))
      have Hxi := hideIt (And.intro hbxi (And.intro ncxi (And.intro h8xi (And.intro hnxi (show nxi ≤ 300 by omega)))))
      clear hbxk ncxk h8xk hnxk hlxk hbxi ncxi h8xi hnxi hlxi
      by_cases hout : n < 0 ∨ 8160 < n
      · have HN := hideIt hout
        rcases hout with h | h
        · have e1 : decide ((400 : Int) < n) = false := decide_eq_false (by omega)
          clear h hmid
          go_enter Try.func4, Try.ntmps4
          go_wp2_with fail
          refine A.out.mono ?_
          rintro e w1 ⟨rfl, o1⟩
          have O1 := hideIt o1
          have M1 := hideIt (expand_out aoxk nxk capxk aoxi nxi capxi n w1 HN.out)
          clear o1 A
          go_wp2_with fail
          refine M1.out.mono ?_
          rintro e w2 ⟨rfl, o2⟩
          have O2 := hideIt (O1.out.same o2)
          have M2 := hideIt (rexpand_out (.slice aoxk nxk capxk) (.slice aoxi nxi capxi) n w2 HN.out)
          clear o2 M1
          go_wp2_with fail
          refine M2.out.mono ?_
          rintro e w3 ⟨rfl, rfl⟩
          have S3 := hideIt (lsame_eq (.slice none 0 0) (.slice none 0 0) [] w2 (Bs.nil _ _) (Bs.nil _ _) (by decide))
          clear M2
          go_wp2_with fail
          refine S3.out.mono ?_
          rintro e w4 ⟨rfl, o4⟩
          have O4 := hideIt (O2.out.same o4)
          clear o4 S3
          go_wp2
          go_ret
          exact ⟨rfl, O4.out.low (Nat.le_refl _)⟩
        · have e1 : decide ((400 : Int) < n) = true := decide_eq_true (by omega)
          have e2 : decide (n ≤ 8160) = false := decide_eq_false (by omega)
          clear h hmid
          go_enter Try.func4, Try.ntmps4
          go_wp2_with fail
          refine A.out.mono ?_
          rintro e w1 ⟨rfl, o1⟩
          have O1 := hideIt o1
          have M1 := hideIt (expand_out aoxk nxk capxk aoxi nxi capxi n w1 HN.out)
          clear o1 A
          go_wp2_with fail
          refine M1.out.mono ?_
          rintro e w2 ⟨rfl, o2⟩
          have O2 := hideIt (O1.out.same o2)
          have M2 := hideIt (rexpand_out (.slice aoxk nxk capxk) (.slice aoxi nxi capxi) n w2 HN.out)
          clear o2 M1
          go_wp2_with fail
          refine M2.out.mono ?_
          rintro e w3 ⟨rfl, rfl⟩
          have S3 := hideIt (lsame_eq (.slice none 0 0) (.slice none 0 0) [] w2 (Bs.nil _ _) (Bs.nil _ _) (by decide))
          clear M2
          go_wp2_with fail
          refine S3.out.mono ?_
          rintro e w4 ⟨rfl, o4⟩
          have O4 := hideIt (O2.out.same o4)
          clear o4 S3
          go_wp2
          go_ret
          exact ⟨rfl, O4.out.low (Nat.le_refl _)⟩
      · obtain ⟨m, rfl⟩ : ∃ m : Nat, n = (m : Int) := ⟨n.toNat, by omega⟩
        have HN : Hid (m ≤ 400) := by show _ ≤ _; omega
        have e1 : decide ((400 : Int) < (m : Int)) = false := decide_eq_false (by omega)
        have e1' : decide (400 < m) = false := decide_eq_false (by omega)
        clear hmid hout
        go_enter Try.func4, Try.ntmps4
        go_wp2_with fail
        refine A.out.mono ?_
        rintro e w1 ⟨rfl, o1⟩
        have O1 := hideIt o1
        have M1 := hideIt (expand_in aoxk nxk capxk aoxi nxi capxi xk xi m w1 (Hxk.out.1.past o1) Hxk.out.2.2.1 (by have := Hxk.out.2.2.2; omega) (Hxi.out.1.past o1) Hxi.out.2.2.1 (by have := Hxi.out.2.2.2; omega) (by have := HN.out; omega))
        clear o1 A
        go_wp2_with fail
        refine M1.out.mono ?_
        rintro e w2 ⟨v2, rfl, own2, o2⟩
        have O2 := hideIt (O1.out.same o2)
        have B2 : Hid (Bs .u8 w2 v2 (EXPL xk xi m)) := Bs.of_own (by rw [EXPL_len]; exact own2)
        obtain ⟨ao2, cap2, e2⟩ := own_form own2
        subst e2
        have M2 := hideIt (rexpand_in (.slice aoxk nxk capxk) (.slice aoxi nxi capxi) xk xi m w2 (Hxk.out.1.past O2.out) Hxk.out.2.1 Hxk.out.2.2.1 (by have := Hxk.out.2.2.2; omega) (Hxi.out.1.past O2.out) Hxi.out.2.1 Hxi.out.2.2.1 (by have := Hxi.out.2.2.2; omega) (by have := HN.out; omega))
        clear o2 own2 M1
        go_wp2_with fail
        refine M2.out.mono ?_
        rintro e w3 ⟨v3, rfl, b3, o3⟩
        have O3 := hideIt (O2.out.same o3)
        have S3 := hideIt (lsame_eq (.slice ao2 m cap2) v3 (EXPL xk xi m) w3 (B2.out.past o3) b3 (by rw [EXPL_len]; have := HN.out; omega))
        obtain ⟨ao3, cap3, e3⟩ := b3.len
        rw [EXPL_len] at e3
        subst e3
        clear o3 b3 M2 B2
        go_wp2_with fail
        refine S3.out.mono ?_
        rintro e w4 ⟨rfl, o4⟩
        have O4 := hideIt (O3.out.same o4)
        clear o4 S3
        go_wp2
        go_ret
        exact ⟨rfl, O4.out.low (Nat.le_refl _)⟩
end Go.Proofs.Ytjljpdniofiaaaa
