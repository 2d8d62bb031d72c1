/- Derive, Tenant, Seal, Manifest, Nonce. -/
import Derived.Test.YtbcfpiahhippaaaKi18
import Derived.Test.YtbcfpiahhippaaaEx14
import Derived.Test.YtbcfpiahhippaaaTg
import Derived.Test.YtbcfpiahhippaaaG1
namespace Go.Proofs.Ytbcfpiahhippaaa
open Go.RowKit

theorem Bs.formN {k : IntKind} {w : World} {v : Value} {xs : List Int} (h : Bs k w v xs) {n : Nat} (hn : xs.length = n) : ∃ ao cap, v = .slice ao n cap ∧ n ≤ cap := by
  obtain ⟨ao, cap, e, hc, _⟩ := h
  exact ⟨ao, cap, by rw [e, hn], by omega⟩
set_option maxHeartbeats 1600000 in
set_option maxRecDepth 100000 in
theorem derive_ok (vk : Value) (key : List Int) (p : Int) (t : ByteArray) (hk : key.length = 32) (k8 : U8 key) (hp : 0 ≤ p ∧ p ≤ 255) (ht : t.size ≤ 64) (w : World) (bk : Bs .u8 w vk key) :
    Calls Try.prog 8 #[vk, .int .u8 p, .string t] w fun e w' => ∃ v, e = .returned (.tuple #[v, .int .i64 0]) ∧ w'.ownsRow w.heap.size 5 1 v 32 (bl (KDV key p (sb t))) ∧ Only (fun _ => False) w w' := by
  have I := hideIt (info_any p t (by omega) w)
  have d1 : decide (64 < (t.size : Int)) = false := by simp; omega
  have d2 : decide (64 < t.size) = false := by simp; omega
  obtain ⟨ko, kc, rfl, _⟩ := bk.formN hk
  have HL : Hid ((KTX p (sb t)).length ≤ 66 ∧ U8 (KTX p (sb t))) := by
    refine ⟨?_, KTX_u8 hp (sb_range t)⟩
    rw [KTX_len _ _ (by rw [sb_len]; omega), sb_len]; omega
  have E := hideIt (fun (a : Option Addr) (l c : Nat) (W : World) (o : Only (fun _ => False) w W) (b : Bs .u8 W (.slice a l c) (KTX p (sb t))) => expand_in ko 32 kc a l c key (KTX p (sb t)) 32 W (bk.past o) k8 (by omega) b HL.out.2 (by have := HL.out.1; omega) (by decide))
  rw [show ((32 : Nat) : Int) = 32 from rfl] at E
  have HX : Hid (EXPL key (KTX p (sb t)) 32 = KDV key p (sb t)) := rfl
  rw [HX.out] at E
  obtain ⟨X, hX⟩ : ∃ X, X = KTX p (sb t) := ⟨_, rfl⟩
  rw [← hX] at I HL E
  clear bk k8 hk hp hX HX
  go_enter Try.func8, Try.ntmps8
  go_wp2_with fail
  refine I.out.mono ?_
  rintro e w1 ⟨v1, rfl, own1, o1⟩
  obtain ⟨a1, c1, rfl⟩ := own_form own1
  have E1 := hideIt (E.out a1 X.length c1 w1 o1 (Bs.of_own (k := .u8) own1))
  have O1 := hideIt o1
  obtain ⟨m, hm⟩ : ∃ m, m = X.length := ⟨_, rfl⟩
  rw [← hm] at E1 ⊢
  clear own1 o1 I E hm
  go_wp2_with fail
  refine E1.out.mono ?_
  rintro e w2 ⟨v2, rfl, own2, o2⟩
  have F := hideIt (And.intro (own_low own2 O1.out.size) (O1.out.same o2))
  clear own2 o2 E1 O1
  go_wp2
  go_ret2
  exact ⟨_, rfl, F.out⟩
set_option maxHeartbeats 400000 in
set_option maxRecDepth 100000 in
theorem derive_key (ko : Option Addr) (kl kc : Nat) (p : Value) (t : ByteArray) (h : kl ≠ 32) (w : World) :
    Calls Try.prog 8 #[.slice ko kl kc, p, .string t] w fun e w' => e = .returned (.tuple #[.slice none 0 0, .int .i64 1]) ∧ Only (fun _ => False) w w' := by
  have h3 : ((kl : Int) != 32) = true := by simp; omega
  clear h
  go_enter Try.func8, Try.ntmps8
  go_wp2
  go_ret2
  exact ⟨rfl, Only.refl _ _⟩
set_option maxHeartbeats 400000 in
set_option maxRecDepth 100000 in
theorem derive_long (ko : Option Addr) (kc : Nat) (p : Value) (t : ByteArray) (h : 64 < t.size) (w : World) :
    Calls Try.prog 8 #[.slice ko 32 kc, p, .string t] w fun e w' => e = .returned (.tuple #[.slice none 0 0, .int .i64 4]) ∧ Only (fun _ => False) w w' := by
  have d1 : decide (64 < (t.size : Int)) = true := by simp; omega
  have d2 : decide (64 < t.size) = true := by simp; omega
  go_enter Try.func8, Try.ntmps8
  go_wp2
  go_ret2
  exact ⟨rfl, Only.refl _ _⟩
/-- A KEY FOR A PURPOSE AND A NAME, whatever comes in: new memory. -/
theorem derive_any (vk : Value) (key : List Int) (p : Int) (t : ByteArray) (k8 : U8 key) (hp : 0 ≤ p ∧ p ≤ 255) (w : World) (bk : Bs .u8 w vk key) :
    Calls Try.prog 8 #[vk, .int .u8 p, .string t] w fun e w' => ∃ v, e = .returned (.tuple #[v, .int .i64 (KDe key (sb t))]) ∧ w'.ownsRow w.heap.size 5 1 v (KDt key p (sb t)).length (bl (KDt key p (sb t))) ∧ Only (fun _ => False) w w' := by
  by_cases hk : key.length = 32
  · by_cases ht : t.size ≤ 64
    · have e1 : KDe key (sb t) = 0 := by unfold KDe; rw [if_pos hk, sb_len, if_pos ht]
      have e2 : KDt key p (sb t) = KDV key p (sb t) := by unfold KDt; rw [if_pos hk, sb_len, if_pos ht]
      rw [e1, e2, KDV_len]
      exact derive_ok vk key p t hk k8 hp ht w bk
    · have e1 : KDe key (sb t) = 4 := by unfold KDe; rw [if_pos hk, sb_len, if_neg ht]
      have e2 : KDt key p (sb t) = [] := by unfold KDt; rw [if_pos hk, sb_len, if_neg ht]
      rw [e1, e2]
      obtain ⟨ko, kc, rfl, _⟩ := bk.formN hk
      exact (derive_long ko kc (.int .u8 p) t (by omega) w).mono (fun _ _ ⟨h1, h2⟩ => ⟨_, h1, World.ownsRow_nil .., h2⟩)
  · have e1 : KDe key (sb t) = 1 := by unfold KDe; rw [if_neg hk]
    have e2 : KDt key p (sb t) = [] := by unfold KDt; rw [if_neg hk]
    rw [e1, e2]
    obtain ⟨ko, kc, rfl⟩ := bk.len
    exact (derive_key ko key.length kc (.int .u8 p) t hk w).mono (fun _ _ ⟨h1, h2⟩ => ⟨_, h1, World.ownsRow_nil .., h2⟩)
theorem sb_none : sb ⟨#[]⟩ = [] := rfl
theorem derive_none (vk : Value) (key : List Int) (p : Int) (k8 : U8 key) (hp : 0 ≤ p ∧ p ≤ 255) (w : World) (bk : Bs .u8 w vk key) :
    Calls Try.prog 8 #[vk, .int .u8 p, .string ⟨#[]⟩] w fun e w' => ∃ v, e = .returned (.tuple #[v, .int .i64 (KDe key [])]) ∧ w'.ownsRow w.heap.size 5 1 v (KDt key p []).length (bl (KDt key p [])) ∧ Only (fun _ => False) w w' := by
  have := derive_any vk key p ⟨#[]⟩ k8 hp w bk
  rw [sb_none] at this
  exact this
set_option maxHeartbeats 400000 in
set_option maxRecDepth 100000 in
theorem tenant_any (vk : Value) (key : List Int) (t : ByteArray) (k8 : U8 key) (w : World) (bk : Bs .u8 w vk key) :
    Calls Try.prog 11 #[vk, .string t] w fun e w' => ∃ v, e = .returned (.tuple #[v, .int .i64 (KDe key (sb t))]) ∧ w'.ownsRow w.heap.size 5 1 v (KDt key 1 (sb t)).length (bl (KDt key 1 (sb t))) ∧ Only (fun _ => False) w w' := by
  have A := hideIt (derive_any vk key 1 t k8 (by decide) w bk)
  obtain ⟨E, hE⟩ : ∃ E, E = KDe key (sb t) := ⟨_, rfl⟩
  rw [← hE] at A ⊢
  clear k8 bk hE
  go_enter Try.func11, Try.ntmps11
  go_wp2_with fail
  refine A.out.mono ?_
  rintro e w1 ⟨v1, rfl, own1, o1⟩
  have F := hideIt (And.intro own1 o1)
  clear own1 o1 A
  go_wp2
  go_ret2
  exact ⟨_, rfl, F.out⟩
set_option maxHeartbeats 400000 in
set_option maxRecDepth 100000 in
theorem kseal_any (vk : Value) (key : List Int) (k8 : U8 key) (w : World) (bk : Bs .u8 w vk key) :
    Calls Try.prog 15 #[vk] w fun e w' => ∃ v, e = .returned (.tuple #[v, .int .i64 (KDe key [])]) ∧ w'.ownsRow w.heap.size 5 1 v (KDt key 2 []).length (bl (KDt key 2 [])) ∧ Only (fun _ => False) w w' := by
  have A := hideIt (derive_none vk key 2 k8 (by decide) w bk)
  obtain ⟨E, hE⟩ : ∃ E, E = KDe key [] := ⟨_, rfl⟩
  rw [← hE] at A ⊢
  clear k8 bk hE
  go_enter Try.func15, Try.ntmps15
  go_wp2_with fail
  refine A.out.mono ?_
  rintro e w1 ⟨v1, rfl, own1, o1⟩
  have F := hideIt (And.intro own1 o1)
  clear own1 o1 A
  go_wp2
  go_ret2
  exact ⟨_, rfl, F.out⟩
set_option maxHeartbeats 400000 in
set_option maxRecDepth 100000 in
theorem kmanifest_any (vk : Value) (key : List Int) (k8 : U8 key) (w : World) (bk : Bs .u8 w vk key) :
    Calls Try.prog 13 #[vk] w fun e w' => ∃ v, e = .returned (.tuple #[v, .int .i64 (KDe key [])]) ∧ w'.ownsRow w.heap.size 5 1 v (KDt key 4 []).length (bl (KDt key 4 [])) ∧ Only (fun _ => False) w w' := by
  have A := hideIt (derive_none vk key 4 k8 (by decide) w bk)
  obtain ⟨E, hE⟩ : ∃ E, E = KDe key [] := ⟨_, rfl⟩
  rw [← hE] at A ⊢
  clear k8 bk hE
  go_enter Try.func13, Try.ntmps13
  go_wp2_with fail
  refine A.out.mono ?_
  rintro e w1 ⟨v1, rfl, own1, o1⟩
  have F := hideIt (And.intro own1 o1)
  clear own1 o1 A
  go_wp2
  go_ret2
  exact ⟨_, rfl, F.out⟩
set_option maxHeartbeats 1600000 in
set_option maxRecDepth 100000 in
/-- A NONCE, whatever comes in: new memory. -/
theorem nonce_any (vk : Value) (key : List Int) (v i : Int) (k8 : U8 key) (w : World) (bk : Bs .u8 w vk key) (hi : -9223372036854775808 ≤ i ∧ i ≤ 9223372036854775807) :
    Calls Try.prog 17 #[vk, .int .u64 v, .int .i64 i] w fun e w' => ∃ r, e = .returned (.tuple #[r, .int .i64 (KNe key i)]) ∧ w'.ownsRow w.heap.size 5 1 r (KNt key v i).length (bl (KNt key v i)) ∧ Only (fun _ => False) w w' := by
  by_cases hk : key.length = 32
  · have A := hideIt (derive_none vk key 3 k8 (by decide) w bk)
    rw [show KDe key [] = 0 by unfold KDe; rw [if_pos hk]; rfl, show KDt key 3 [] = KDV key 3 [] by unfold KDt; rw [if_pos hk]; rfl, KDV_len] at A
    by_cases hx : KIX i
    · rw [show KNe key i = 0 by unfold KNe; rw [if_pos hk, if_pos hx], show KNt key v i = KNC key v i by unfold KNt; rw [if_pos hk, if_pos hx], KNC_len]
      have P := hideIt (fun W => place_any v i ⟨hx.1, hi.2⟩ W)
      have d1 : decide (i < 0) = false := decide_eq_false (by have := hx.1; omega)
      have d2 : decide (1048576 ≤ i) = false := decide_eq_false (by have := hx.2; omega)
      have HK : Hid ((KDV key 3 []).length = 32 ∧ U8 (KDV key 3 []) ∧ (NTX v i).length = 12 ∧ U8 (NTX v i) ∧ KNC key v i = (MACL (KDV key 3 []) (NTX v i)).take 12) := ⟨KDV_len _ _ _, KDV_u8 _ _ _, NTX_len _ _, NTX_u8 _ _, rfl⟩
      obtain ⟨K, hK⟩ : ∃ K, K = KDV key 3 [] := ⟨_, rfl⟩
      obtain ⟨T, hT⟩ : ∃ T, T = NTX v i := ⟨_, rfl⟩
      rw [← hK] at A HK
      rw [← hT] at P HK
      clear bk k8 hk hi hx hK hT
      go_enter Try.func17, Try.ntmps17
      go_wp2_with fail
      refine A.out.mono ?_
      rintro e w1 ⟨v1, rfl, own1, o1⟩
      have B1 : Hid (Bs .u8 w1 v1 K) := Bs.of_own (k := .u8) (E := 5) (lo := w.heap.size) (by rw [HK.out.1]; exact own1)
      have O1 := hideIt o1
      have P1 := hideIt (P.out w1)
      clear own1 o1 A P
      go_wp2_with fail
      refine P1.out.mono ?_
      rintro e w2 ⟨v2, rfl, own2, o2⟩
      have M := hideIt (mac_bs v1 v2 K T w2 (B1.out.past o2) HK.out.2.1 (by rw [HK.out.1]; decide) (Bs.of_own (k := .u8) (E := 5) (lo := w1.heap.size) (by rw [HK.out.2.2.1]; exact own2)) HK.out.2.2.2.1 (by rw [HK.out.2.2.1]; decide))
      have O2 := hideIt (O1.out.same o2)
      clear own2 o2 P1 B1 O1
      go_wp2_with fail
      refine M.out.mono ?_
      rintro e w3 ⟨v3, rfl, own3, o3⟩
      obtain ⟨a3, c3, rfl⟩ := own_form own3
      have b3 : Bs .u8 w3 (.slice a3 32 c3) (MACL K T) := Bs.of_own (k := .u8) (E := 5) (lo := w2.heap.size) (by rw [MACL_len]; exact own3)
      obtain ⟨_, _, e3, hc3⟩ := b3.formN (MACL_len _ _)
      cases e3
      have hc4 : (12 : Int) ≤ (c3 : Int) := by omega
      have C := hideIt (clone_bs (.slice a3 12 c3) ((MACL K T).take 12) w3 (b3.head (by decide)) (by rw [List.length_take]; omega))
      rw [show ((MACL K T).take 12).length = 12 by rw [List.length_take, MACL_len]; rfl, ← HK.out.2.2.2.2] at C
      have O3 := hideIt (O2.out.same o3)
      clear own3 o3 b3 hc3 M O2
      go_wp2_with fail
      refine C.out.mono ?_
      rintro e w4 ⟨v4, rfl, own4, o4⟩
      have F := hideIt (And.intro (own_low own4 O3.out.size) (O3.out.same o4))
      clear own4 o4 C O3
      go_wp2
      go_ret2
      exact ⟨_, rfl, F.out⟩
    · rw [show KNe key i = 1 by unfold KNe; rw [if_pos hk, if_neg hx], show KNt key v i = [] by unfold KNt; rw [if_pos hk, if_neg hx]]
      clear bk k8 hk
      go_enter Try.func17, Try.ntmps17
      go_wp2_with fail
      refine A.out.mono ?_
      rintro e w1 ⟨v1, rfl, own1, o1⟩
      have F := hideIt o1
      clear own1 o1 A
      by_cases h0 : i < 0
      · have d1 : decide (i < 0) = true := decide_eq_true h0
        clear hx h0 hi
        go_wp2
        go_ret2
        exact ⟨_, rfl, World.ownsRow_nil .., F.out⟩
      · have d1 : decide (i < 0) = false := decide_eq_false h0
        have d2 : decide (1048576 ≤ i) = true := decide_eq_true (by unfold KIX at hx; omega)
        clear hx h0 hi
        go_wp2
        go_ret2
        exact ⟨_, rfl, World.ownsRow_nil .., F.out⟩
  · have A := hideIt (derive_none vk key 3 k8 (by decide) w bk)
    rw [show KDe key [] = 1 by unfold KDe; rw [if_neg hk]] at A
    rw [show KNe key i = 1 by unfold KNe; rw [if_neg hk], show KNt key v i = [] by unfold KNt; rw [if_neg hk]]
    clear bk k8 hk hi
    go_enter Try.func17, Try.ntmps17
    go_wp2_with fail
    refine A.out.mono ?_
    rintro e w1 ⟨v1, rfl, own1, o1⟩
    have F := hideIt o1
    clear own1 o1 A
    go_wp2
    go_ret2
    exact ⟨_, rfl, World.ownsRow_nil .., F.out⟩
end Go.Proofs.Ytbcfpiahhippaaa
