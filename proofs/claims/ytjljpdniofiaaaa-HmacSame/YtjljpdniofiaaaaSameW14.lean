/- Bytes held against one another: the walk. -/
import Derived.Test.YtjljpdniofiaaaaAw14
import Derived.Test.YtjljpdniofiaaaaApw
import Derived.Test.YtjljpdniofiaaaaXf14
namespace Go.Proofs.Ytjljpdniofiaaaa
open Go.RowKit

set_option maxHeartbeats 1600000 in
set_option maxRecDepth 100000 in
theorem same_walk (vxa : Value) (vxb : Value) (xa : List Int) (xb : List Int) (at_ y : Int) (hy : 0 ≤ y ∧ y ≤ 255) (w : World) (hbxa : Bs .u8 w vxa xa) (ncxa : NoCap vxa) (h8xa : U8 xa) (hbxb : Bs .u8 w vxb xb) (ncxb : NoCap vxb) (h8xb : U8 xb) :
    Calls Try.prog 8 #[vxa, vxb, .int .i64 at_, .int .u8 y] w fun e w' => e = .returned (.bool true) ∧ Below w.heap.size w w' := by
  obtain ⟨aoxa, capxa, rfl⟩ := hbxa.len
  obtain ⟨aoxb, capxb, rfl⟩ := hbxb.len
  have A := hideIt (awake_any w)
  obtain ⟨nxa, hnxa⟩ : ∃ n, n = xa.length := ⟨_, rfl⟩
  rw [← hnxa] at hbxa ncxa ⊢
  obtain ⟨nxb, hnxb⟩ : ∃ n, n = xb.length := ⟨_, rfl⟩
  rw [← hnxb] at hbxb ncxb ⊢
  by_cases hlxa : 600 < nxa
  · have dxa : decide ((600 : Int) < (nxa : Int)) = true := decide_eq_true (by omega)
    have dxa' : decide (600 < nxa) = true := decide_eq_true hlxa
    clear hbxa ncxa h8xa hnxa hbxb ncxb h8xb hnxb hlxa
    go_enter Try.func8, Try.ntmps8
    go_wp2_with fail
    refine A.out.mono ?_
    rintro e w1 ⟨rfl, o1⟩
    have O1 := hideIt o1
    clear o1 A
    go_wp2
    go_ret
    exact ⟨rfl, O1.out.low (Nat.le_refl _)⟩
  · by_cases hlxb : 600 < nxb
    · have dxa : decide ((600 : Int) < (nxa : Int)) = false := decide_eq_false (by omega)
      have dxa' : decide (600 < nxa) = false := decide_eq_false hlxa
      have dxb : decide ((600 : Int) < (nxb : Int)) = true := decide_eq_true (by omega)
      have dxb' : decide (600 < nxb) = true := decide_eq_true hlxb
      clear hbxa ncxa h8xa hnxa hbxb ncxb h8xb hnxb hlxa hlxb
      go_enter Try.func8, Try.ntmps8
      go_wp2_with fail
      refine A.out.mono ?_
      rintro e w1 ⟨rfl, o1⟩
      have O1 := hideIt o1
      clear o1 A
      go_wp2
      go_ret
      exact ⟨rfl, O1.out.low (Nat.le_refl _)⟩
    · have dxa : decide ((600 : Int) < (nxa : Int)) = false := decide_eq_false (by omega)
      have dxa' : decide (600 < nxa) = false := decide_eq_false hlxa
      have dxb : decide ((600 : Int) < (nxb : Int)) = false := decide_eq_false (by omega)
      have dxb' : decide (600 < nxb) = false := decide_eq_false hlxb
      have Hxa := hideIt (And.intro hbxa (And.intro ncxa (And.intro h8xa (And.intro hnxa (show nxa ≤ 600 by omega)))))
      have Hxb := hideIt (And.intro hbxb (And.intro ncxb (And.intro h8xb (And.intro hnxb (show nxb ≤ 600 by omega)))))
      clear hbxa ncxa h8xa hnxa hlxa hbxb ncxb h8xb hnxb hlxb
      obtain ⟨i0, hi, hz0, hz1, hz2⟩ := info_parts Try.infoU8
      have HY := hideIt hy
      obtain ⟨D, hD⟩ : ∃ D, D = decide (xa = xb) := ⟨_, rfl⟩
      have hD2 : D = decide (xb = xa) := by rw [hD]; exact decide_eq_decide.2 eq_comm
      have HD := hideIt (And.intro hD hD2)
      have qD : (D == D) = true := by cases D <;> rfl
      clear hD hD2 hy
      by_cases hz : nxa = 0
      · have hxz : xa = [] := List.eq_nil_of_length_eq_zero (by rw [← Hxa.out.2.2.2.1]; exact hz)
        have HXZ := hideIt hxz
        have HZ := hideIt hz
        have d0 : decide ((0 : Int) < (nxa : Int)) = false := decide_eq_false (by omega)
        have d0' : decide (0 < nxa) = false := decide_eq_false (by omega)
        clear hz hxz
        go_enter Try.func8, Try.ntmps8
        go_wp2_with fail
        refine A.out.mono ?_
        rintro e w1 ⟨rfl, o1⟩
        have O1 := hideIt o1
        have ho1 := World.ownsRow_made (base := w1.heap.size) (e := 5) (size := 1) w1 #[] 0 (Nat.le_refl _) (by unfold maxLen; omega) rfl
        have HA1 := hideIt (And.intro (Hxa.out.1.past (o1.alloc (.cells #[] 5))) Hxa.out.2.1)
        clear o1 A
        go_wp2_with (at_builtin; refine wpList_append_bs _ rfl _ _ 22 rfl w1.heap.size 5 i0 (.int .u8 0) 1 Try.underlying22 hi hz0 hz1 hz2 rfl (.slice (some ⟨w1.heap.size, 0, none⟩) 0 0) 0 [] rfl ho1 .u8 (.slice aoxa nxa capxa) xa rfl HA1.out.1 HA1.out.2 (by have := Hxa.out.2.2.2; simp [maxLen]; omega) (by have := Hxa.out.2.2.2; omega) (by simp) ?_)
        intro v2 w2 hown2 hgrow2 hnil2 hob2
        have q2 : Only (fun _ => False) w1 w2 := ((Only.refl _ _).alloc _).grown hgrow2 (fun k hk e => by simp [Value.ownBlock] at e; omega)
        have O2 := hideIt (O1.out.same q2)
        have B2 : Hid (Bs .u8 w2 v2 xa) := Bs.of_own (by
          have := hown2
          exact this)
        obtain ⟨ao2, cap2, e2⟩ := B2.out.len
        rw [← Hxa.out.2.2.2.1] at e2
        subst e2
        clear hown2 hgrow2 hnil2 hob2 q2 ho1 HA1
        have T1 := hideIt (hsame_any (.slice aoxa nxa capxa) (.slice aoxa nxa capxa) xa xa w2 (Hxa.out.1.past O2.out) (Hxa.out.1.past O2.out) Hxa.out.2.2.1 Hxa.out.2.2.1 (by have := Hxa.out.2.2.2; omega))
        rw [decide_eq_true (rfl : xa = xa)] at T1
        go_wp2_with fail
        refine T1.out.mono ?_
        rintro e w11 ⟨rfl, o11⟩
        have O11 := hideIt (O2.out.same o11)
        have B11 := hideIt (B2.out.past o11)
        have T2 := hideIt (hsame_any (.slice aoxa nxa capxa) (.slice aoxb nxb capxb) xa xb w11 (Hxa.out.1.past O11.out) (Hxb.out.1.past O11.out) Hxa.out.2.2.1 Hxb.out.2.2.1 (by have := Hxa.out.2.2.2; omega))
        rw [← HD.out.1] at T2
        clear o11 T1 B2
        go_wp2_with fail
        refine T2.out.mono ?_
        rintro e w12 ⟨rfl, o12⟩
        have O12 := hideIt (O11.out.same o12)
        have B12 := hideIt (B11.out.past o12)
        have T3 := hideIt (hsame_any (.slice aoxb nxb capxb) (.slice aoxa nxa capxa) xb xa w12 (Hxb.out.1.past O12.out) (Hxa.out.1.past O12.out) Hxb.out.2.2.1 Hxa.out.2.2.1 (by have := Hxb.out.2.2.2; omega))
        rw [← HD.out.2] at T3
        clear o12 T2 B11
        go_wp2_with fail
        refine T3.out.mono ?_
        rintro e w13 ⟨rfl, o13⟩
        have O13 := hideIt (O12.out.same o13)
        have B13 := hideIt (B12.out.past o13)
        have T4 := hideIt (hsame_any (.slice aoxa nxa capxa) (.slice ao2 nxa cap2) xa xa w13 (Hxa.out.1.past O13.out) B13.out Hxa.out.2.2.1 Hxa.out.2.2.1 (by have := Hxa.out.2.2.2; omega))
        rw [decide_eq_true (rfl : xa = xa)] at T4
        clear o13 T3 B12
        go_wp2_with fail
        refine T4.out.mono ?_
        rintro e w14 ⟨rfl, o14⟩
        have O14 := hideIt (O13.out.same o14)
        clear o14 T4 B13
        have ho15 := World.ownsRow_made (base := w14.heap.size) (e := 5) (size := 1) w14 #[] 0 (Nat.le_refl _) (by unfold maxLen; omega) rfl
        have HA15 := hideIt (And.intro (Hxa.out.1.past (O14.out.alloc (.cells #[] 5))) Hxa.out.2.1)
        go_wp2_with (first
          | (at_builtin; refine wpList_append_bsW _ rfl _ _ 22 rfl w14.heap.size 5 i0 (.int .u8 0) 1 Try.underlying22 hi hz0 hz1 hz2 rfl (.slice (some ⟨w14.heap.size, 0, none⟩) 0 0) 0 [] rfl ho15 .u8 (.slice aoxa nxa capxa) xa rfl HA15.out.1 HA15.out.2 (by have := Hxa.out.2.2.2; simp [maxLen]; omega) (by have := Hxa.out.2.2.2; omega) (by simp) ?_; intro v15 w15 hown15 hgrow15)
          | (at_builtin; refine wpList_append_bsW _ rfl _ _ 22 rfl w14.heap.size 5 i0 (.int .u8 0) 1 Try.underlying22 hi hz0 hz1 hz2 rfl v15 (0 + xa.length) _ rfl (hown15.alloc _) .u8 _ [y] rfl (Bs.litN .u8 w15 5 [y] _ _ rfl rfl) (NoCap.some _ _ _) (by have := Hxa.out.2.2.2; simp [maxLen]; omega) (by have := Hxa.out.2.2.2; simp; omega) (by have := hgrow15.size; simp at this ⊢; omega) ?_; intro v16 w16 hown16 hgrow16))
        have q15 : Only (fun _ => False) w14 w15 := ((Only.refl _ _).alloc _).grown hgrow15 (fun k hk e => by simp [Value.ownBlock] at e; omega)
        have q16 : Only (fun _ => False) w14 w16 := (q15.alloc _).grown hgrow16 (fun k hk e => by have := hown15.lt k e; omega)
        have bb16 : Bs .u8 w16 v16 (xa ++ [y]) := Bs.of_own (by
          have := hown16
          rw [Nat.zero_add, List.nil_append, ← List.map_append] at this
          rw [List.length_append]; exact this)
        have O16 := hideIt (O14.out.same q16)
        have T5 := hideIt (hsame_any (.slice aoxa nxa capxa) v16 xa (xa ++ [y]) w16 (Hxa.out.1.past O16.out) bb16 Hxa.out.2.2.1 (Hxa.out.2.2.1.app (fun z hz => by rw [List.mem_singleton] at hz; subst hz; exact HY.out)) (by have := Hxa.out.2.2.2; omega))
        rw [decide_eq_false (one_more xa y)] at T5
        obtain ⟨ao16, cap16, e16⟩ := bb16.len
        obtain ⟨p16, hp16⟩ : ∃ p, p = (xa ++ [y]).length := ⟨_, rfl⟩
        rw [← hp16] at e16
        subst e16
        clear hown15 hgrow15 hown16 hgrow16 q15 q16 bb16 ho15 HA15 O14 hp16
        go_wp2_with fail
        refine T5.out.mono ?_
        rintro e w17 ⟨rfl, o17⟩
        have O17 := hideIt (O16.out.same o17)
        clear o17 T5
        go_wp2
        go_ret
        exact ⟨rfl, O17.out.low (Nat.le_refl _)⟩
      · have hand1 := i64_low at_ 16 (by decide)
        rw [show ((2 ^ 16 - 1 : Nat) : Int) = 65535 from rfl, show ((2 ^ 16 : Nat) : Int) = 65536 from rfl] at hand1
        obtain ⟨q, hq⟩ : ∃ q : Nat, at_ % 65536 = (q : Int) := ⟨(at_ % 65536).toNat, by omega⟩
        rw [hq] at hand1
        obtain ⟨k, hk⟩ : ∃ k : Nat, k = q % nxa := ⟨_, rfl⟩
        have hkn : k < nxa := by rw [hk]; exact Nat.mod_lt _ (by omega)
        have hrem : Int.tmod (q : Int) (nxa : Int) = (k : Int) := by rw [hk]; rfl
        have hrem2 : (q : Int) % (nxa : Int) = (k : Int) := by rw [hk]; rfl
        have n0 : (nxa : Int) ≠ 0 := by omega
        have d0 : decide ((0 : Int) < (nxa : Int)) = true := decide_eq_true (by omega)
        have d0' : decide (0 < nxa) = true := decide_eq_true (by omega)
        obtain ⟨x, hx⟩ : ∃ x, x = xa.getD k 0 := ⟨_, rfl⟩
        have hxr := Hxa.out.2.2.1.at k
        rw [← hx] at hxr
        have hyr := HY.out
        have hxor := u8_xor x y hxr.1 (by omega) hyr.1 (by omega)
        obtain ⟨z, hzz⟩ : ∃ z : Int, z = ((x.toNat ^^^ y.toNat : Nat) : Int) := ⟨_, rfl⟩
        rw [← hzz] at hxor
        obtain ⟨T, hT⟩ : ∃ T : Bool, (y != 0) = T := ⟨_, rfl⟩
        have qT : ((!T) == (!T)) = true := by cases T <;> rfl
        have HE : Hid (decide (xa = xa.set k z) = !T) := by
          show _ = _
          rw [hzz, hx, decide_eq_decide.2 (set_turned xa Hxa.out.2.2.1 k (by rw [← Hxa.out.2.2.2.1]; exact hkn) y.toNat), ← hT]
          by_cases h0 : y = 0
          · subst h0; rfl
          · rw [decide_eq_false (by omega)]; simp [h0]
        have HC8 : Hid (U8 (xa.set k z)) := fun c hc => by
          rcases List.mem_or_eq_of_mem_set hc with h | h
          · exact Hxa.out.2.2.1 c h
          · subst h
            have : x.toNat ^^^ y.toNat < 256 := Nat.xor_lt_two_pow (n := 8) (by omega) (by omega)
            omega
        have HX := hideIt hx
        have hk1 : (k : Int) < (nxa : Int) := by omega
        clear hq hk hx hzz hz hxr hyr
        go_enter Try.func8, Try.ntmps8
        go_wp2_with fail
        refine A.out.mono ?_
        rintro e w1 ⟨rfl, o1⟩
        have O1 := hideIt o1
        have ho1 := World.ownsRow_made (base := w1.heap.size) (e := 5) (size := 1) w1 #[] 0 (Nat.le_refl _) (by unfold maxLen; omega) rfl
        have HA1 := hideIt (And.intro (Hxa.out.1.past (o1.alloc (.cells #[] 5))) Hxa.out.2.1)
        clear o1 A
        go_wp2_with (at_builtin; refine wpList_append_bs _ rfl _ _ 22 rfl w1.heap.size 5 i0 (.int .u8 0) 1 Try.underlying22 hi hz0 hz1 hz2 rfl (.slice (some ⟨w1.heap.size, 0, none⟩) 0 0) 0 [] rfl ho1 .u8 (.slice aoxa nxa capxa) xa rfl HA1.out.1 HA1.out.2 (by have := Hxa.out.2.2.2; simp [maxLen]; omega) (by have := Hxa.out.2.2.2; omega) (by simp) ?_)
        intro v2 w2 hown2 hgrow2 hnil2 hob2
        have q2 : Only (fun _ => False) w1 w2 := ((Only.refl _ _).alloc _).grown hgrow2 (fun k hk e => by simp [Value.ownBlock] at e; omega)
        have O2 := hideIt (O1.out.same q2)
        have hown3 : w2.ownsRow w1.heap.size 5 1 v2 nxa (xa.map (Value.int .u8)) := by
          rw [Hxa.out.2.2.2.1]; exact hown2
        obtain ⟨m, hm⟩ : ∃ m, nxa = m + 1 := ⟨nxa - 1, by omega⟩
        obtain ⟨g2, cap2, e2⟩ : ∃ g cap, v2 = .slice (some ⟨g, 0, none⟩) nxa cap := by
          rcases hown3.2 with ⟨_, h0⟩ | ⟨g, cap, cur, hv, _⟩
          · omega
          · exact ⟨g, cap, hv⟩
        subst e2
        have b2 : Bs .u8 w2 (.slice (some ⟨g2, 0, none⟩) nxa cap2) xa := Bs.of_own (by rw [← Hxa.out.2.2.2.1]; exact hown3)
        have hc2 : w2.cell? ⟨g2, k, none⟩ = some (.int .u8 x) := by
          obtain ⟨b', off', cap', e, hc⟩ := b2.at k (by rw [← Hxa.out.2.2.2.1]; exact hkn)
          simp at e
          obtain ⟨⟨rfl, rfl⟩, _, rfl⟩ := e
          rw [Nat.zero_add, ← HX.out] at hc; exact hc
        have hf2 : w2.frozen? ⟨g2, k, none⟩ = false := own_frozen hown3 k
        have hg2 := (hown3.lt g2 rfl).1
        obtain ⟨w3, hw3⟩ : ∃ w3, w3 = w2.setCell ⟨g2, k, none⟩ (.int .u8 z) := ⟨_, rfl⟩
        have B3 : Hid (Bs .u8 w3 (.slice (some ⟨g2, 0, none⟩) nxa cap2) (xa.set k z)) := by
          show _
          rw [hw3]; exact b2.store k hkn z
        have O3 : Hid (Only (fun _ => False) w w3) := by
          show _
          rw [hw3]
          exact O2.out.setCell (p := ⟨g2, k, none⟩) (fun h => by have := O1.out.size; simp at h; omega) _
        have HW3 := hideIt hw3
        have k0 : (0 : Int) ≤ (k : Int) := by omega
        clear hown2 hgrow2 hnil2 hob2 q2 ho1 HA1 hown3 hm b2 hg2 hw3
        have T1 := hideIt (hsame_any (.slice aoxa nxa capxa) (.slice aoxa nxa capxa) xa xa w3 (Hxa.out.1.past O3.out) (Hxa.out.1.past O3.out) Hxa.out.2.2.1 Hxa.out.2.2.1 (by have := Hxa.out.2.2.2; omega))
        rw [decide_eq_true (rfl : xa = xa)] at T1
        go_wp2_with fail
        rw [← HW3.out]
        refine T1.out.mono ?_
        rintro e w11 ⟨rfl, o11⟩
        have O11 := hideIt (O3.out.same o11)
        have B11 := hideIt (B3.out.past o11)
        have T2 := hideIt (hsame_any (.slice aoxa nxa capxa) (.slice aoxb nxb capxb) xa xb w11 (Hxa.out.1.past O11.out) (Hxb.out.1.past O11.out) Hxa.out.2.2.1 Hxb.out.2.2.1 (by have := Hxa.out.2.2.2; omega))
        rw [← HD.out.1] at T2
        clear o11 T1 B3
        go_wp2_with fail
        refine T2.out.mono ?_
        rintro e w12 ⟨rfl, o12⟩
        have O12 := hideIt (O11.out.same o12)
        have B12 := hideIt (B11.out.past o12)
        have T3 := hideIt (hsame_any (.slice aoxb nxb capxb) (.slice aoxa nxa capxa) xb xa w12 (Hxb.out.1.past O12.out) (Hxa.out.1.past O12.out) Hxb.out.2.2.1 Hxa.out.2.2.1 (by have := Hxb.out.2.2.2; omega))
        rw [← HD.out.2] at T3
        clear o12 T2 B11
        go_wp2_with fail
        refine T3.out.mono ?_
        rintro e w13 ⟨rfl, o13⟩
        have O13 := hideIt (O12.out.same o13)
        have B13 := hideIt (B12.out.past o13)
        have T4 := hideIt (hsame_any (.slice aoxa nxa capxa) (.slice (some ⟨g2, 0, none⟩) nxa cap2) xa (xa.set k z) w13 (Hxa.out.1.past O13.out) B13.out Hxa.out.2.2.1 HC8.out (by have := Hxa.out.2.2.2; omega))
        rw [HE.out] at T4
        clear o13 T3 B12
        go_wp2_with fail
        refine T4.out.mono ?_
        rintro e w14 ⟨rfl, o14⟩
        have O14 := hideIt (O13.out.same o14)
        clear o14 T4 B13
        have ho15 := World.ownsRow_made (base := w14.heap.size) (e := 5) (size := 1) w14 #[] 0 (Nat.le_refl _) (by unfold maxLen; omega) rfl
        have HA15 := hideIt (And.intro (Hxa.out.1.past (O14.out.alloc (.cells #[] 5))) Hxa.out.2.1)
        go_wp2_with (first
          | (at_builtin; refine wpList_append_bsW _ rfl _ _ 22 rfl w14.heap.size 5 i0 (.int .u8 0) 1 Try.underlying22 hi hz0 hz1 hz2 rfl (.slice (some ⟨w14.heap.size, 0, none⟩) 0 0) 0 [] rfl ho15 .u8 (.slice aoxa nxa capxa) xa rfl HA15.out.1 HA15.out.2 (by have := Hxa.out.2.2.2; simp [maxLen]; omega) (by have := Hxa.out.2.2.2; omega) (by simp) ?_; intro v15 w15 hown15 hgrow15)
          | (at_builtin; refine wpList_append_bsW _ rfl _ _ 22 rfl w14.heap.size 5 i0 (.int .u8 0) 1 Try.underlying22 hi hz0 hz1 hz2 rfl v15 (0 + xa.length) _ rfl (hown15.alloc _) .u8 _ [y] rfl (Bs.litN .u8 w15 5 [y] _ _ rfl rfl) (NoCap.some _ _ _) (by have := Hxa.out.2.2.2; simp [maxLen]; omega) (by have := Hxa.out.2.2.2; simp; omega) (by have := hgrow15.size; simp at this ⊢; omega) ?_; intro v16 w16 hown16 hgrow16))
        have q15 : Only (fun _ => False) w14 w15 := ((Only.refl _ _).alloc _).grown hgrow15 (fun k hk e => by simp [Value.ownBlock] at e; omega)
        have q16 : Only (fun _ => False) w14 w16 := (q15.alloc _).grown hgrow16 (fun k hk e => by have := hown15.lt k e; omega)
        have bb16 : Bs .u8 w16 v16 (xa ++ [y]) := Bs.of_own (by
          have := hown16
          rw [Nat.zero_add, List.nil_append, ← List.map_append] at this
          rw [List.length_append]; exact this)
        have O16 := hideIt (O14.out.same q16)
        have T5 := hideIt (hsame_any (.slice aoxa nxa capxa) v16 xa (xa ++ [y]) w16 (Hxa.out.1.past O16.out) bb16 Hxa.out.2.2.1 (Hxa.out.2.2.1.app (fun z hz => by rw [List.mem_singleton] at hz; subst hz; exact HY.out)) (by have := Hxa.out.2.2.2; omega))
        rw [decide_eq_false (one_more xa y)] at T5
        obtain ⟨ao16, cap16, e16⟩ := bb16.len
        obtain ⟨p16, hp16⟩ : ∃ p, p = (xa ++ [y]).length := ⟨_, rfl⟩
        rw [← hp16] at e16
        subst e16
        clear hown15 hgrow15 hown16 hgrow16 q15 q16 bb16 ho15 HA15 O14 hp16
        go_wp2_with fail
        refine T5.out.mono ?_
        rintro e w17 ⟨rfl, o17⟩
        have O17 := hideIt (O16.out.same o17)
        clear o17 T5
        go_wp2
        go_ret
        exact ⟨rfl, O17.out.low (Nat.le_refl _)⟩
end Go.Proofs.Ytjljpdniofiaaaa
