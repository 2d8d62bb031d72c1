/- A tree of keys: the walk. -/
import Derived.Test.YtbcfpiahhippaaaAw18
import Derived.Test.YtbcfpiahhippaaaR18
namespace Go.Proofs.Ytbcfpiahhippaaa
open Go.RowKit

set_option maxHeartbeats 1600000 in
set_option maxRecDepth 100000 in
theorem tree_walk (vk : Value) (key : List Int) (t : ByteArray) (v i : Int) (k8 : U8 key) (hi : -9223372036854775808 ≤ i ∧ i ≤ 9223372036854775807) (w : World) (bk : Bs .u8 w vk key) (nk : NoCap vk) :
    Calls Try.prog 4 #[vk, .string t, .int .u64 v, .int .i64 i] w fun e w' => e = .returned (.bool true) ∧ Below w.heap.size w w' := by
  have A := hideIt (awake_any w)
  by_cases hm : 300 < key.length
  · obtain ⟨ko, kc, rfl⟩ := bk.len
    obtain ⟨m, hmm⟩ : ∃ m, m = key.length := ⟨_, rfl⟩
    rw [← hmm] at hm ⊢
    have d1 : decide ((300 : Int) < (m : Int)) = true := decide_eq_true (by omega)
    clear bk nk k8 hi hmm
    go_enter Try.func4, Try.ntmps4
    go_wp2_with fail
    refine A.out.mono ?_
    rintro e w1 ⟨rfl, o1⟩
    have O1 := hideIt o1
    clear o1 A
    go_wp2
    go_ret
    exact ⟨rfl, O1.out.low (Nat.le_refl _)⟩
  · by_cases hn : 1000 < t.size
    · obtain ⟨ko, kc, rfl⟩ := bk.len
      obtain ⟨m, hmm⟩ : ∃ m, m = key.length := ⟨_, rfl⟩
      rw [← hmm] at hm ⊢
      have d1 : decide ((300 : Int) < (m : Int)) = false := decide_eq_false (by omega)
      have d2 : decide ((1000 : Int) < (t.size : Int)) = true := decide_eq_true (by omega)
      have d3 : decide (1000 < t.size) = true := decide_eq_true (by omega)
      clear bk nk k8 hi hmm
      go_enter Try.func4, Try.ntmps4
      go_wp2_with fail
      refine A.out.mono ?_
      rintro e w1 ⟨rfl, o1⟩
      have O1 := hideIt o1
      clear o1 A
      go_wp2
      go_ret
      exact ⟨rfl, O1.out.low (Nat.le_refl _)⟩
    · have P1 := hideIt (fun (W : World) (o : Only (fun _ => False) w W) => tenant_any vk key t k8 W (bk.past o))
      have R1 := hideIt (fun (W : World) (o : Only (fun _ => False) w W) => rtenant_any vk key t k8 nk W (bk.past o))
      have P2 := hideIt (fun (W : World) (o : Only (fun _ => False) w W) => kmanifest_any vk key k8 W (bk.past o))
      have R2 := hideIt (fun (W : World) (o : Only (fun _ => False) w W) => rkmanifest_any vk key k8 nk W (bk.past o))
      have P3 := hideIt (fun (W : World) (o : Only (fun _ => False) w W) => kseal_any vk key k8 W (bk.past o))
      have R3 := hideIt (fun (W : World) (o : Only (fun _ => False) w W) => rkseal_any vk key k8 nk W (bk.past o))
      have P4 := hideIt (fun (W : World) (o : Only (fun _ => False) w W) => nonce_any vk key v i k8 W (bk.past o) hi)
      have R4 := hideIt (fun (W : World) (o : Only (fun _ => False) w W) => rnonce_any vk key v i k8 nk W (bk.past o) hi)
      have HL : Hid ((KDt key 1 (sb t)).length ≤ 140737488355328 ∧ (KDt key 4 []).length ≤ 140737488355328 ∧ (KDt key 2 []).length ≤ 140737488355328 ∧ (KNt key v i).length ≤ 140737488355328) := by
        have h1 := KDt_len key 1 (sb t)
        have h2 := KDt_len key 4 []
        have h3 := KDt_len key 2 []
        have h4 := KNt_len key v i
        refine ⟨?_, ?_, ?_, ?_⟩ <;> omega
      obtain ⟨E1, hE1⟩ : ∃ E, E = KDe key (sb t) := ⟨_, rfl⟩
      obtain ⟨E2, hE2⟩ : ∃ E, E = KDe key [] := ⟨_, rfl⟩
      obtain ⟨E4, hE4⟩ : ∃ E, E = KNe key i := ⟨_, rfl⟩
      obtain ⟨L1, hL1⟩ : ∃ L, L = KDt key 1 (sb t) := ⟨_, rfl⟩
      obtain ⟨L2, hL2⟩ : ∃ L, L = KDt key 4 [] := ⟨_, rfl⟩
      obtain ⟨L3, hL3⟩ : ∃ L, L = KDt key 2 [] := ⟨_, rfl⟩
      obtain ⟨L4, hL4⟩ : ∃ L, L = KNt key v i := ⟨_, rfl⟩
      simp only [← hE1, ← hE2, ← hE4, ← hL1, ← hL2, ← hL3, ← hL4] at P1 R1 P2 R2 P3 R3 P4 R4 HL
      obtain ⟨ko, kc, rfl⟩ := bk.len
      obtain ⟨m, hmm⟩ : ∃ m, m = key.length := ⟨_, rfl⟩
      rw [← hmm] at P1 R1 P2 R2 P3 R3 P4 R4 hm ⊢
      have d1 : decide ((300 : Int) < (m : Int)) = false := decide_eq_false (by omega)
      have d2 : decide ((1000 : Int) < (t.size : Int)) = false := decide_eq_false (by omega)
      have d3 : decide (1000 < t.size) = false := decide_eq_false (by omega)
      have x1 : (E1 != E1) = false := by simp
      have x2 : (E2 != E2) = false := by simp
      clear bk nk k8 hi hE1 hE2 hE4 hL1 hL2 hL3 hL4 hmm
      go_enter Try.func4, Try.ntmps4
      go_wp2_with fail
      refine A.out.mono ?_
      rintro e w0 ⟨rfl, o0⟩
      have O0 := hideIt o0
      clear o0 A
      go_wp2_with fail
      refine (P1.out w0 O0.out).mono ?_
      rintro e w1 ⟨v1, rfl, own1, o1⟩
      have B1 : Hid (Bs .u8 w1 v1 L1) := Bs.of_own (k := .u8) (E := 5) own1
      have O1 := hideIt (O0.out.same o1)
      clear own1 o1 P1
      go_wp2_with fail
      refine (R1.out w1 O1.out).mono ?_
      rintro e w2 ⟨v2, rfl, b2, o2⟩
      have B2 : Hid (Bs .u8 w2 v1 L1 ∧ Bs .u8 w2 v2 L1) := ⟨B1.out.past o2, b2⟩
      have O2 := hideIt (O1.out.same o2)
      clear b2 o2 R1 B1
      go_wp2_with fail
      refine (P2.out w2 O2.out).mono ?_
      rintro e w3 ⟨v3, rfl, own3, o3⟩
      have B3 : Hid (Bs .u8 w3 v1 L1 ∧ Bs .u8 w3 v2 L1 ∧ Bs .u8 w3 v3 L2) := ⟨B2.out.1.past o3, B2.out.2.past o3, Bs.of_own (k := .u8) (E := 5) own3⟩
      have O3 := hideIt (O2.out.same o3)
      clear own3 o3 P2 B2
      go_wp2_with fail
      refine (R2.out w3 O3.out).mono ?_
      rintro e w4 ⟨v4, rfl, b4, o4⟩
      have S1 := hideIt (lsame_eq v1 v2 L1 w4 (B3.out.1.past o4) (B3.out.2.1.past o4) HL.out.1)
      have B4 : Hid (Bs .u8 w4 v3 L2 ∧ Bs .u8 w4 v4 L2) := ⟨B3.out.2.2.past o4, b4⟩
      have O4 := hideIt (O3.out.same o4)
      clear b4 o4 R2 B3
      go_wp2_with fail
      refine S1.out.mono ?_
      rintro e w5 ⟨rfl, o5⟩
      have S2 := hideIt (lsame_eq v3 v4 L2 w5 (B4.out.1.past o5) (B4.out.2.past o5) HL.out.2.1)
      have O5 := hideIt (O4.out.same o5)
      clear o5 S1 B4
      go_wp2_with fail
      refine S2.out.mono ?_
      rintro e w6 ⟨rfl, o6⟩
      have O6 := hideIt (O5.out.same o6)
      clear o6 S2
      go_wp2_with fail
      refine (P3.out w6 O6.out).mono ?_
      rintro e w7 ⟨v7, rfl, own7, o7⟩
      have B7 : Hid (Bs .u8 w7 v7 L3) := Bs.of_own (k := .u8) (E := 5) own7
      have O7 := hideIt (O6.out.same o7)
      clear own7 o7 P3
      go_wp2_with fail
      refine (R3.out w7 O7.out).mono ?_
      rintro e w8 ⟨v8, rfl, b8, o8⟩
      have B8 : Hid (Bs .u8 w8 v7 L3 ∧ Bs .u8 w8 v8 L3) := ⟨B7.out.past o8, b8⟩
      have O8 := hideIt (O7.out.same o8)
      clear b8 o8 R3 B7
      go_wp2_with fail
      refine (P4.out w8 O8.out).mono ?_
      rintro e w9 ⟨v9, rfl, own9, o9⟩
      have B9 : Hid (Bs .u8 w9 v7 L3 ∧ Bs .u8 w9 v8 L3 ∧ Bs .u8 w9 v9 L4) := ⟨B8.out.1.past o9, B8.out.2.past o9, Bs.of_own (k := .u8) (E := 5) own9⟩
      have O9 := hideIt (O8.out.same o9)
      clear own9 o9 P4 B8
      go_wp2_with fail
      refine (R4.out w9 O9.out).mono ?_
      rintro e wa ⟨va, rfl, ba, oa⟩
      have S3 := hideIt (lsame_eq v7 v8 L3 wa (B9.out.1.past oa) (B9.out.2.1.past oa) HL.out.2.2.1)
      have Ba : Hid (Bs .u8 wa v9 L4 ∧ Bs .u8 wa va L4) := ⟨B9.out.2.2.past oa, ba⟩
      have Oa := hideIt (O9.out.same oa)
      clear ba oa R4 B9
      go_wp2_with fail
      refine S3.out.mono ?_
      rintro e wb ⟨rfl, ob⟩
      have S4 := hideIt (lsame_eq v9 va L4 wb (Ba.out.1.past ob) (Ba.out.2.past ob) HL.out.2.2.2)
      have Ob := hideIt (Oa.out.same ob)
      clear ob S3 Ba
      go_wp2_with fail
      refine S4.out.mono ?_
      rintro e wc ⟨rfl, oc⟩
      have Oc := hideIt (Ob.out.same oc)
      clear oc S4
      go_wp2
      go_ret
      exact ⟨rfl, Oc.out.low (Nat.le_refl _)⟩
end Go.Proofs.Ytbcfpiahhippaaa
