/- More bytes begin with fewer: the walk. -/
import Derived.Test.YtjljpdniofiaaaaAw14
import Derived.Test.YtjljpdniofiaaaaEx14
import Derived.Test.YtjljpdniofiaaaaApw
namespace Go.Proofs.Ytjljpdniofiaaaa
open Go.RowKit

set_option maxHeartbeats 1600000 in
set_option maxRecDepth 100000 in
theorem longer_walk (vxk : Value) (vxi : Value) (xk : List Int) (xi : List Int) (n more : Int) (w : World) (hbxk : Bs .u8 w vxk xk) (ncxk : NoCap vxk) (h8xk : U8 xk) (hbxi : Bs .u8 w vxi xi) (ncxi : NoCap vxi) (h8xi : U8 xi) :
    Calls Try.prog 7 #[vxk, vxi, .int .i64 n, .int .i64 more] w fun e w' => e = .returned (.bool true) ∧ Below w.heap.size w w' := by
  obtain ⟨aoxk, capxk, rfl⟩ := hbxk.len
  obtain ⟨aoxi, capxi, rfl⟩ := hbxi.len
  have A := hideIt (awake_any w)
  obtain ⟨nxk, hnxk⟩ : ∃ n, n = xk.length := ⟨_, rfl⟩
  rw [← hnxk] at hbxk ncxk ⊢
  obtain ⟨nxi, hnxi⟩ : ∃ n, n = xi.length := ⟨_, rfl⟩
  rw [← hnxi] at hbxi ncxi ⊢
  by_cases hlxk : 300 < nxk
  · have dxk : decide ((300 : Int) < (nxk : Int)) = true := decide_eq_true (by omega)
    have dxk' : decide (300 < nxk) = true := decide_eq_true hlxk
    clear hbxk ncxk h8xk hnxk hbxi ncxi h8xi hnxi hlxk
    go_enter Try.func7, Try.ntmps7
    go_wp2_with fail
    refine A.out.mono ?_
    rintro e w1 ⟨rfl, o1⟩
    have O1 := hideIt o1
    clear o1 A
    go_wp2
    go_ret
    exact ⟨rfl, O1.out.low (Nat.le_refl _)⟩
  · by_cases hlxi : 300 < nxi
    · have dxk : decide ((300 : Int) < (nxk : Int)) = false := decide_eq_false (by omega)
      have dxk' : decide (300 < nxk) = false := decide_eq_false hlxk
      have dxi : decide ((300 : Int) < (nxi : Int)) = true := decide_eq_true (by omega)
      have dxi' : decide (300 < nxi) = true := decide_eq_true hlxi
      clear hbxk ncxk h8xk hnxk hbxi ncxi h8xi hnxi hlxk hlxi
      go_enter Try.func7, Try.ntmps7
      go_wp2_with fail
      refine A.out.mono ?_
      rintro e w1 ⟨rfl, o1⟩
      have O1 := hideIt o1
      clear o1 A
      go_wp2
      go_ret
      exact ⟨rfl, O1.out.low (Nat.le_refl _)⟩
    · have dxk : decide ((300 : Int) < (nxk : Int)) = false := decide_eq_false (by omega)
      have dxk' : decide (300 < nxk) = false := decide_eq_false hlxk
      have dxi : decide ((300 : Int) < (nxi : Int)) = false := decide_eq_false (by omega)
      have dxi' : decide (300 < nxi) = false := decide_eq_false hlxi
      have Hxk := hideIt (And.intro hbxk (And.intro ncxk (And.intro h8xk (And.intro hnxk (show nxk ≤ 300 by omega)))))
      have Hxi := hideIt (And.intro hbxi (And.intro ncxi (And.intro h8xi (And.intro hnxi (show nxi ≤ 300 by omega)))))
      clear hbxk ncxk h8xk hnxk hlxk hbxi ncxi h8xi hnxi hlxi
      obtain ⟨i0, hi, hz0, hz1, hz2⟩ := info_parts Try.infoU8
      have hand1 := i64_low n 8 (by decide)
      have hand2 := i64_low more 8 (by decide)
      rw [show ((2 ^ 8 - 1 : Nat) : Int) = 255 from rfl, show ((2 ^ 8 : Nat) : Int) = 256 from rfl] at hand1 hand2
      obtain ⟨k, hk⟩ : ∃ k : Nat, n % 256 = (k : Int) := ⟨(n % 256).toNat, by omega⟩
      obtain ⟨m, hm⟩ : ∃ m : Nat, more % 256 = (m : Int) := ⟨(more % 256).toNat, by omega⟩
      rw [hk] at hand1
      rw [hm] at hand2
      have k1 : (k : Int) ≤ 255 := by omega
      have m1 : (m : Int) ≤ 255 := by omega
      obtain ⟨j, hj⟩ : ∃ j : Nat, j = k + m := ⟨_, rfl⟩
      have hj1 : (k : Int) + (m : Int) = (j : Int) := by omega
      have HJ : Hid (k ≤ j ∧ j ≤ 510) := ⟨by omega, by omega⟩
      have qk : ((k : Int) != (k : Int)) = false := by simp
      have qj : ((j : Int) != (j : Int)) = false := by simp
      clear hk hm hj
      go_enter Try.func7, Try.ntmps7
      go_wp2_with fail
      refine A.out.mono ?_
      rintro e w1 ⟨rfl, o1⟩
      have O1 := hideIt o1
      have M1 := hideIt (expand_in aoxk nxk capxk aoxi nxi capxi xk xi k w1 (Hxk.out.1.past o1) Hxk.out.2.2.1 (by have := Hxk.out.2.2.2; omega) (Hxi.out.1.past o1) Hxi.out.2.2.1 (by have := Hxi.out.2.2.2; omega) (by have := HJ.out; omega))
      clear o1 A
      go_wp2_with fail
      refine M1.out.mono ?_
      rintro e w2 ⟨v2, rfl, own2, o2⟩
      have O2 := hideIt (O1.out.same o2)
      have B2 : Hid (Bs .u8 w2 v2 (EXPL xk xi k)) := Bs.of_own (by rw [EXPL_len]; exact own2)
      obtain ⟨ao2, cap2, e2⟩ := own_form own2
      subst e2
      have M2 := hideIt (expand_in aoxk nxk capxk aoxi nxi capxi xk xi j w2 (Hxk.out.1.past O2.out) Hxk.out.2.2.1 (by have := Hxk.out.2.2.2; omega) (Hxi.out.1.past O2.out) Hxi.out.2.2.1 (by have := Hxi.out.2.2.2; omega) (by have := HJ.out; omega))
      clear o2 own2 M1
      go_wp2_with fail
      refine M2.out.mono ?_
      rintro e w3 ⟨v3, rfl, own3, o3⟩
      have O3 := hideIt (O2.out.same o3)
      have B2a := hideIt (B2.out.past o3)
      have b3 : Bs .u8 w3 v3 (EXPL xk xi j) := Bs.of_own (by rw [EXPL_len]; exact own3)
      obtain ⟨ao3, cap3, e3⟩ := own_form own3
      subst e3
      have hc3 : j ≤ cap3 := by obtain ⟨_, _, e, h, _⟩ := b3; simp at e; obtain ⟨_, _, rfl⟩ := e; rw [EXPL_len] at h; exact h
      have b3h := b3.head (n := k) (by have := HJ.out; omega)
      rw [EXPL_take xk xi k j (by have := HJ.out; omega)] at b3h
      have B3 := hideIt b3h
      have kc3 : (k : Int) ≤ (cap3 : Int) := by have := HJ.out; omega
      have M3 := hideIt (expand_in aoxk nxk capxk aoxi nxi capxi xk xi 32 w3 (Hxk.out.1.past O3.out) Hxk.out.2.2.1 (by have := Hxk.out.2.2.2; omega) (Hxi.out.1.past O3.out) Hxi.out.2.2.1 (by have := Hxi.out.2.2.2; omega) (by decide))
      rw [show ((32 : Nat) : Int) = 32 from rfl] at M3
      clear o3 own3 b3 b3h hc3 M2 B2
      go_wp2_with fail
      refine M3.out.mono ?_
      rintro e w4 ⟨v4, rfl, own4, o4⟩
      have O4 := hideIt (O3.out.same o4)
      have B2b := hideIt (B2a.out.past o4)
      have B3b := hideIt (B3.out.past o4)
      have b4 : Bs .u8 w4 v4 (EXPL xk xi 32) := Bs.of_own (by rw [EXPL_len]; exact own4)
      rw [EXPL_one] at b4
      have B4 := hideIt b4
      obtain ⟨ao4, cap4, e4⟩ := own_form own4
      subst e4
      have S1 := hideIt (lsame_eq (.slice ao2 k cap2) (.slice ao3 k cap3) (EXPL xk xi k) w4 B2b.out B3b.out (by rw [EXPL_len]; have := HJ.out; omega))
      clear o4 own4 b4 M3 B2a B3
      go_wp2_with fail
      refine S1.out.mono ?_
      rintro e w5 ⟨rfl, o5⟩
      have O5 := hideIt (O4.out.same o5)
      have B5 := hideIt (B4.out.past o5)
      clear o5 S1 B2b B3b B4
      have ho6 := World.ownsRow_made (base := w5.heap.size) (e := 5) (size := 1) w5 #[] 0 (Nat.le_refl _) (by unfold maxLen; omega) rfl
      have HA6 := hideIt (And.intro (Hxi.out.1.past (O5.out.alloc (.cells #[] 5))) Hxi.out.2.1)
      go_wp2_with (first
        | (at_builtin; refine wpList_append_bsW _ rfl _ _ 22 rfl w5.heap.size 5 i0 (.int .u8 0) 1 Try.underlying22 hi hz0 hz1 hz2 rfl (.slice (some ⟨w5.heap.size, 0, none⟩) 0 0) 0 [] rfl ho6 .u8 (.slice aoxi nxi capxi) xi rfl HA6.out.1 HA6.out.2 (by have := Hxi.out.2.2.2; simp [maxLen]; omega) (by have := Hxi.out.2.2.2; omega) (by simp) ?_; intro v6 w6 hown6 hgrow6)
        | (at_builtin; refine wpList_append_bsW _ rfl _ _ 22 rfl w5.heap.size 5 i0 (.int .u8 0) 1 Try.underlying22 hi hz0 hz1 hz2 rfl v6 (0 + xi.length) _ rfl (hown6.alloc _) .u8 _ [1] rfl (Bs.litN .u8 w6 5 [1] _ _ rfl rfl) (NoCap.some _ _ _) (by have := Hxi.out.2.2.2; simp [maxLen]; omega) (by have := Hxi.out.2.2.2; simp; omega) (by have := hgrow6.size; simp at this ⊢; omega) ?_; intro v7 w7 hown7 hgrow7))
      have q6 : Only (fun _ => False) w5 w6 := ((Only.refl _ _).alloc _).grown hgrow6 (fun k hk e => by simp [Value.ownBlock] at e; omega)
      have q7 : Only (fun _ => False) w5 w7 := (q6.alloc _).grown hgrow7 (fun k hk e => by have := hown6.lt k e; omega)
      have bb7 : Bs .u8 w7 v7 (xi ++ [1]) := Bs.of_own (by
        have := hown7
        rw [Nat.zero_add, List.nil_append, ← List.map_append] at this
        rw [List.length_append]; exact this)
      have O7 := hideIt (O5.out.same q7)
      have B7 := hideIt (B5.out.past q7)
      have MC := hideIt (mac_bs (.slice aoxk nxk capxk) v7 xk (xi ++ [1]) w7 (Hxk.out.1.past O7.out) Hxk.out.2.2.1 (by have := Hxk.out.2.2.2; omega) bb7 (Hxi.out.2.2.1.app (fun y hy => by rw [List.mem_singleton] at hy; subst hy; decide)) (by have := Hxi.out.2.2.2; rw [List.length_append]; simp only [List.length_singleton]; omega))
      obtain ⟨ao7, cap7, e7⟩ := bb7.len
      subst e7
      clear hown6 hgrow6 hown7 hgrow7 q6 q7 bb7 ho6 HA6 B5 O5
      go_wp2_with fail
      refine MC.out.mono ?_
      rintro e w8 ⟨v8, rfl, own8, o8⟩
      obtain ⟨b8, g8, c8, rfl, _⟩ := mac_form own8
      have O8 := hideIt (O7.out.same o8)
      have S2 := hideIt (lsame_eq (.slice ao4 32 cap4) (.slice (some ⟨g8, 0, none⟩) 32 c8) (MACL xk (xi ++ [1])) w8 (B7.out.past o8) b8 (by rw [MACL_len]; decide))
      clear o8 own8 b8 MC B7
      go_wp2_with fail
      refine S2.out.mono ?_
      rintro e w9 ⟨rfl, o9⟩
      have O9 := hideIt (O8.out.same o9)
      clear o9 S2
      go_wp2
      go_ret
      exact ⟨rfl, O9.out.low (Nat.le_refl _)⟩
end Go.Proofs.Ytjljpdniofiaaaa
