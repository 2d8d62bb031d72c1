/- Long keys and short keys: the walk. -/
import Derived.Test.YtjljpdniofiaaaaAw14
import Derived.Test.YtjljpdniofiaaaaApw
import Derived.Test.YtjljpdniofiaaaaZr0
namespace Go.Proofs.Ytjljpdniofiaaaa
open Go.RowKit

set_option maxHeartbeats 1600000 in
set_option maxRecDepth 100000 in
theorem keys_walk (vxk : Value) (vxb : Value) (xk : List Int) (xb : List Int) (n : Int) (w : World) (hbxk : Bs .u8 w vxk xk) (ncxk : NoCap vxk) (h8xk : U8 xk) (hbxb : Bs .u8 w vxb xb) (ncxb : NoCap vxb) (h8xb : U8 xb) :
    Calls Try.prog 6 #[vxk, vxb, .int .i64 n] w fun e w' => e = .returned (.bool true) ∧ Below w.heap.size w w' := by
  obtain ⟨aoxk, capxk, rfl⟩ := hbxk.len
  obtain ⟨aoxb, capxb, rfl⟩ := hbxb.len
  have A := hideIt (awake_any w)
  obtain ⟨nxk, hnxk⟩ : ∃ n, n = xk.length := ⟨_, rfl⟩
  rw [← hnxk] at hbxk ncxk ⊢
  obtain ⟨nxb, hnxb⟩ : ∃ n, n = xb.length := ⟨_, rfl⟩
  rw [← hnxb] at hbxb ncxb ⊢
  by_cases hlxk : 300 < nxk
  · have dxk : decide ((300 : Int) < (nxk : Int)) = true := decide_eq_true (by omega)
    have dxk' : decide (300 < nxk) = true := decide_eq_true hlxk
    clear hbxk ncxk h8xk hnxk hbxb ncxb h8xb hnxb hlxk
    go_enter Try.func6, Try.ntmps6
    go_wp2_with fail
    refine A.out.mono ?_
    rintro e w1 ⟨rfl, o1⟩
    have O1 := hideIt o1
    clear o1 A
    go_wp2
    go_ret
    exact ⟨rfl, O1.out.low (Nat.le_refl _)⟩
  · by_cases hlxb : 1000 < nxb
    · have dxk : decide ((300 : Int) < (nxk : Int)) = false := decide_eq_false (by omega)
      have dxk' : decide (300 < nxk) = false := decide_eq_false hlxk
      have dxb : decide ((1000 : Int) < (nxb : Int)) = true := decide_eq_true (by omega)
      have dxb' : decide (1000 < nxb) = true := decide_eq_true hlxb
      clear hbxk ncxk h8xk hnxk hbxb ncxb h8xb hnxb hlxk hlxb
      go_enter Try.func6, Try.ntmps6
      go_wp2_with fail
      refine A.out.mono ?_
      rintro e w1 ⟨rfl, o1⟩
      have O1 := hideIt o1
      clear o1 A
      go_wp2
      go_ret
      exact ⟨rfl, O1.out.low (Nat.le_refl _)⟩
    · have dxk : decide ((300 : Int) < (nxk : Int)) = false := decide_eq_false (by omega)
      have dxk' : decide (300 < nxk) = false := decide_eq_false hlxk
      have dxb : decide ((1000 : Int) < (nxb : Int)) = false := decide_eq_false (by omega)
      have dxb' : decide (1000 < nxb) = false := decide_eq_false hlxb
      have Hxk := hideIt (And.intro hbxk (And.intro ncxk (And.intro h8xk (And.intro hnxk (show nxk ≤ 300 by omega)))))
      have Hxb := hideIt (And.intro hbxb (And.intro ncxb (And.intro h8xb (And.intro hnxb (show nxb ≤ 1000 by omega)))))
      clear hbxk ncxk h8xk hnxk hlxk hbxb ncxb h8xb hnxb hlxb
      by_cases hk : 64 < nxk
      · have dk : decide ((64 : Int) < (nxk : Int)) = true := decide_eq_true (by omega)
        have dk' : decide (64 < nxk) = true := decide_eq_true hk
        have HK := hideIt hk
        clear hk
        go_enter Try.func6, Try.ntmps6
        go_wp2_with fail
        refine A.out.mono ?_
        rintro e w1 ⟨rfl, o1⟩
        have O1 := hideIt o1
        have M1 := hideIt (mac_bs (.slice aoxk nxk capxk) (.slice aoxb nxb capxb) xk xb w1 (Hxk.out.1.past o1) Hxk.out.2.2.1 (by have := Hxk.out.2.2.2; omega) (Hxb.out.1.past o1) Hxb.out.2.2.1 (by have := Hxb.out.2.2.2; omega))
        clear o1 A
        go_wp2_with fail
        refine M1.out.mono ?_
        rintro e w2 ⟨v2, rfl, own2, o2⟩
        obtain ⟨b2, g2, c2, rfl, _⟩ := mac_form own2
        have O2 := hideIt (O1.out.same o2)
        have B2 := hideIt b2
        have SU := hideIt (sum_bs (.slice aoxk nxk capxk) xk w2 (Hxk.out.1.past O2.out) Hxk.out.2.2.1 (by have := Hxk.out.2.2.2; omega))
        clear o2 own2 b2 M1
        go_wp2_with fail
        refine SU.out.mono ?_
        rintro e w3 ⟨v3, rfl, own3, o3⟩
        have b3 : Bs .u8 w3 v3 (SHA xk) := Bs.of_own (by rw [SHA_len]; exact own3)
        have O3 := hideIt (O2.out.same o3)
        have B3 := hideIt (B2.out.past o3)
        have M2 := hideIt (mac_bs v3 (.slice aoxb nxb capxb) (SHA xk) xb w3 b3 (SHA_range _) (by rw [SHA_len]; decide) (Hxb.out.1.past O3.out) Hxb.out.2.2.1 (by have := Hxb.out.2.2.2; omega))
        rw [MACL_long xk xb (by have := HK.out; have := Hxk.out.2.2.2.1; omega)] at M2
        obtain ⟨ao3, cap3, e3⟩ := own_form own3
        subst e3
        clear o3 own3 b3 SU B2
        go_wp2_with fail
        refine M2.out.mono ?_
        rintro e w4 ⟨v4, rfl, own4, o4⟩
        obtain ⟨b4, g4, c4, rfl, _⟩ := mac_form own4
        have O4 := hideIt (O3.out.same o4)
        have S1 := hideIt (lsame_eq (.slice (some ⟨g2, 0, none⟩) 32 c2) (.slice (some ⟨g4, 0, none⟩) 32 c4) (MACL xk xb) w4 (B3.out.past o4) b4 (by rw [MACL_len]; decide))
        clear o4 own4 b4 M2 B3
        go_wp2_with fail
        refine S1.out.mono ?_
        rintro e w5 ⟨rfl, o5⟩
        have O5 := hideIt (O4.out.same o5)
        clear o5 S1
        go_wp2
        go_ret
        exact ⟨rfl, O5.out.low (Nat.le_refl _)⟩
      · obtain ⟨i0, hi, hz0, hz1, hz2⟩ := info_parts Try.infoU8
        have hand1 := i64_low n 6 (by decide)
        rw [show ((2 ^ 6 - 1 : Nat) : Int) = 63 from rfl, show ((2 ^ 6 : Nat) : Int) = 64 from rfl] at hand1
        obtain ⟨a, ha⟩ : ∃ a : Nat, n % 64 = (a : Int) := ⟨(n % 64).toNat, by omega⟩
        rw [ha] at hand1
        have a1 : (a : Int) ≤ 63 := by omega
        clear ha
        obtain ⟨r, hr⟩ : ∃ r : Nat, r = 64 - nxk := ⟨_, rfl⟩
        have hsub : (64 : Int) - (nxk : Int) = (r : Int) := by omega
        by_cases hra : r < a
        · have dk : decide ((64 : Int) < (nxk : Int)) = false := decide_eq_false (by omega)
          have dk' : decide (64 < nxk) = false := decide_eq_false hk
          have HN : Hid (nxk + r ≤ 64) := by show _ ≤ _; omega
          clear hr hk
          go_enter Try.func6, Try.ntmps6
          go_wp2_with fail
          refine A.out.mono ?_
          rintro e w1 ⟨rfl, o1⟩
          have O1 := hideIt o1
          have M1 := hideIt (mac_bs (.slice aoxk nxk capxk) (.slice aoxb nxb capxb) xk xb w1 (Hxk.out.1.past o1) Hxk.out.2.2.1 (by have := Hxk.out.2.2.2; omega) (Hxb.out.1.past o1) Hxb.out.2.2.1 (by have := Hxb.out.2.2.2; omega))
          clear o1 A
          go_wp2_with fail
          refine M1.out.mono ?_
          rintro e w2 ⟨v2, rfl, own2, o2⟩
          obtain ⟨b2, g2, c2, rfl, _⟩ := mac_form own2
          have O2 := hideIt (O1.out.same o2)
          have B2 := hideIt b2
          clear o2 own2 b2 M1
          have ho3 := World.ownsRow_made (base := w2.heap.size) (e := 5) (size := 1) w2 #[] 0 (Nat.le_refl _) (by unfold maxLen; omega) rfl
          have HA3 := hideIt (And.intro (Hxk.out.1.past (O2.out.alloc (.cells #[] 5))) Hxk.out.2.1)
          go_wp2_with (at_builtin; refine wpList_append_bsW _ rfl _ _ 22 rfl w2.heap.size 5 i0 (.int .u8 0) 1 Try.underlying22 hi hz0 hz1 hz2 rfl (.slice (some ⟨w2.heap.size, 0, none⟩) 0 0) 0 [] rfl ho3 .u8 (.slice aoxk nxk capxk) xk rfl HA3.out.1 HA3.out.2 (by have := Hxk.out.2.2.2; simp [maxLen]; omega) (by have := Hxk.out.2.2.2; omega) (by simp) ?_)
          intro v3 w3 hown3 hgrow3
          have q3 : Only (fun _ => False) w2 w3 := ((Only.refl _ _).alloc _).grown hgrow3 (fun k hk e => by simp [Value.ownBlock] at e; omega)
          have hs3 := q3.size
          rw [← Hxk.out.2.2.2.1] at hown3
          obtain ⟨ao3, cap3, e3⟩ := own_form hown3
          subst e3
          obtain ⟨v5, w5, hrun5, bb5, o5⟩ := zeros_any w3 w2.heap.size ao3 nxk cap3 xk Hxk.out.2.2.2.1.symm hown3 r (by have := HN.out; omega) hs3
          have q5 : Only (fun _ => False) w2 w5 := q3.trans o5 (fun j hj e => by have := hown3.lt j e; omega)
          have O6 := hideIt (O2.out.same q5)
          have B6 := hideIt (B2.out.past q5)
          have M2 := hideIt (mac_bs v5 (.slice aoxb nxb capxb) (xk ++ List.replicate r 0) xb w5 bb5 (Hxk.out.2.2.1.app (zeros_u8 _)) (by have := Hxk.out.2.2.2; have := HN.out; rw [List.length_append, List.length_replicate]; omega) (Hxb.out.1.past O6.out) Hxb.out.2.2.1 (by have := Hxb.out.2.2.2; omega))
          rw [MACL_zeros xk xb r (by have := HN.out; have := Hxk.out.2.2.2.1; omega)] at M2
          obtain ⟨ao5, cap5, e5⟩ := bb5.len
          obtain ⟨p5, hp5⟩ : ∃ p, p = (xk ++ List.replicate r 0).length := ⟨_, rfl⟩
          rw [← hp5] at e5
          subst e5
          clear hp5
          clear hown3 hgrow3 q3 hs3 ho3 HA3 q5 bb5 B2 o5
          go_wp2_with (at_builtin; refine wpList_append_runW _ rfl _ _ _ _ rfl _ _ rfl rfl _ _ hrun5 ?_)
          refine M2.out.mono ?_
          rintro e w7 ⟨v7, rfl, own7, o7⟩
          obtain ⟨b7, g7, c7, rfl, _⟩ := mac_form own7
          have O7 := hideIt (O6.out.same o7)
          have S1 := hideIt (lsame_eq (.slice (some ⟨g2, 0, none⟩) 32 c2) (.slice (some ⟨g7, 0, none⟩) 32 c7) (MACL xk xb) w7 (B6.out.past o7) b7 (by rw [MACL_len]; decide))
          clear o7 own7 b7 M2 B6 hrun5
          go_wp2_with fail
          refine S1.out.mono ?_
          rintro e w8 ⟨rfl, o8⟩
          have O8 := hideIt (O7.out.same o8)
          clear o8 S1
          go_wp2
          go_ret
          exact ⟨rfl, O8.out.low (Nat.le_refl _)⟩
        · have dk : decide ((64 : Int) < (nxk : Int)) = false := decide_eq_false (by omega)
          have dk' : decide (64 < nxk) = false := decide_eq_false hk
          have HN : Hid (nxk + a ≤ 64) := by show _ ≤ _; omega
          clear hr hk
          go_enter Try.func6, Try.ntmps6
          go_wp2_with fail
          refine A.out.mono ?_
          rintro e w1 ⟨rfl, o1⟩
          have O1 := hideIt o1
          have M1 := hideIt (mac_bs (.slice aoxk nxk capxk) (.slice aoxb nxb capxb) xk xb w1 (Hxk.out.1.past o1) Hxk.out.2.2.1 (by have := Hxk.out.2.2.2; omega) (Hxb.out.1.past o1) Hxb.out.2.2.1 (by have := Hxb.out.2.2.2; omega))
          clear o1 A
          go_wp2_with fail
          refine M1.out.mono ?_
          rintro e w2 ⟨v2, rfl, own2, o2⟩
          obtain ⟨b2, g2, c2, rfl, _⟩ := mac_form own2
          have O2 := hideIt (O1.out.same o2)
          have B2 := hideIt b2
          clear o2 own2 b2 M1
          have ho3 := World.ownsRow_made (base := w2.heap.size) (e := 5) (size := 1) w2 #[] 0 (Nat.le_refl _) (by unfold maxLen; omega) rfl
          have HA3 := hideIt (And.intro (Hxk.out.1.past (O2.out.alloc (.cells #[] 5))) Hxk.out.2.1)
          go_wp2_with (at_builtin; refine wpList_append_bsW _ rfl _ _ 22 rfl w2.heap.size 5 i0 (.int .u8 0) 1 Try.underlying22 hi hz0 hz1 hz2 rfl (.slice (some ⟨w2.heap.size, 0, none⟩) 0 0) 0 [] rfl ho3 .u8 (.slice aoxk nxk capxk) xk rfl HA3.out.1 HA3.out.2 (by have := Hxk.out.2.2.2; simp [maxLen]; omega) (by have := Hxk.out.2.2.2; omega) (by simp) ?_)
          intro v3 w3 hown3 hgrow3
          have q3 : Only (fun _ => False) w2 w3 := ((Only.refl _ _).alloc _).grown hgrow3 (fun k hk e => by simp [Value.ownBlock] at e; omega)
          have hs3 := q3.size
          rw [← Hxk.out.2.2.2.1] at hown3
          obtain ⟨ao3, cap3, e3⟩ := own_form hown3
          subst e3
          obtain ⟨v5, w5, hrun5, bb5, o5⟩ := zeros_any w3 w2.heap.size ao3 nxk cap3 xk Hxk.out.2.2.2.1.symm hown3 a (by have := HN.out; omega) hs3
          have q5 : Only (fun _ => False) w2 w5 := q3.trans o5 (fun j hj e => by have := hown3.lt j e; omega)
          have O6 := hideIt (O2.out.same q5)
          have B6 := hideIt (B2.out.past q5)
          have M2 := hideIt (mac_bs v5 (.slice aoxb nxb capxb) (xk ++ List.replicate a 0) xb w5 bb5 (Hxk.out.2.2.1.app (zeros_u8 _)) (by have := Hxk.out.2.2.2; have := HN.out; rw [List.length_append, List.length_replicate]; omega) (Hxb.out.1.past O6.out) Hxb.out.2.2.1 (by have := Hxb.out.2.2.2; omega))
          rw [MACL_zeros xk xb a (by have := HN.out; have := Hxk.out.2.2.2.1; omega)] at M2
          obtain ⟨ao5, cap5, e5⟩ := bb5.len
          obtain ⟨p5, hp5⟩ : ∃ p, p = (xk ++ List.replicate a 0).length := ⟨_, rfl⟩
          rw [← hp5] at e5
          subst e5
          clear hp5
          clear hown3 hgrow3 q3 hs3 ho3 HA3 q5 bb5 B2 o5
          go_wp2_with (at_builtin; refine wpList_append_runW _ rfl _ _ _ _ rfl _ _ rfl rfl _ _ hrun5 ?_)
          refine M2.out.mono ?_
          rintro e w7 ⟨v7, rfl, own7, o7⟩
          obtain ⟨b7, g7, c7, rfl, _⟩ := mac_form own7
          have O7 := hideIt (O6.out.same o7)
          have S1 := hideIt (lsame_eq (.slice (some ⟨g2, 0, none⟩) 32 c2) (.slice (some ⟨g7, 0, none⟩) 32 c7) (MACL xk xb) w7 (B6.out.past o7) b7 (by rw [MACL_len]; decide))
          clear o7 own7 b7 M2 B6 hrun5
          go_wp2_with fail
          refine S1.out.mono ?_
          rintro e w8 ⟨rfl, o8⟩
          have O8 := hideIt (O7.out.same o8)
          clear o8 S1
          go_wp2
          go_ret
          exact ⟨rfl, O8.out.low (Nat.le_refl _)⟩
end Go.Proofs.Ytjljpdniofiaaaa
