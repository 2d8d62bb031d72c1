/- The document's own answers: Derive, Tenant, Seal, Manifest, Nonce. -/
import Derived.Test.YtbcfpiahhippaaaKm
import Derived.Test.YtbcfpiahhippaaaG2
import Derived.Test.YtbcfpiahhippaaaCRef2
import Derived.Test.YtbcfpiahhippaaaRe14
import Derived.Test.YtbcfpiahhippaaaRm14
import Derived.Test.YtbcfpiahhippaaaKd18
namespace Go.Proofs.Ytbcfpiahhippaaa
open Go.RowKit

theorem Bs.nocap {k : IntKind} {w : World} {v : Value} {xs : List Int} (h : Bs k w v xs) (hx : xs ≠ []) : NoCap v := by
  obtain ⟨ao, cap, rfl, _, hr⟩ := h
  obtain ⟨b, off, rfl, _⟩ := hr hx
  exact NoCap.some _ _ _
set_option maxHeartbeats 1600000 in
set_option maxRecDepth 100000 in
theorem rderive_ok (vk : Value) (key : List Int) (p : Int) (t : ByteArray) (hk : key.length = 32) (k8 : U8 key) (nk : NoCap vk) (hp : 0 ≤ p ∧ p ≤ 255) (ht : t.size ≤ 64) (w : World) (bk : Bs .u8 w vk key) :
    Calls Try.prog 9 #[vk, .int .u8 p, .string t] w fun e w' => ∃ v, e = .returned (.tuple #[v, .int .i64 0]) ∧ Bs .u8 w' v (KDV key p (sb t)) ∧ Only (fun _ => False) w w' := by
  obtain ⟨i0, hi, hz0, hz1, hz2⟩ := info_parts Try.infoU8
  have hcv := conv_bytes t
  have hge := grownCap_ge (w.alloc (.cells #[.int .u8 p] 5)) t.size 0 5
  obtain ⟨c, hc⟩ : ∃ c, c = grownCap (w.alloc (.cells #[.int .u8 p] 5)) t.size 0 5 := ⟨_, rfl⟩
  rw [← hc] at hge
  have o1 : Only (fun _ => False) w (w.alloc (.cells #[.int .u8 p] 5)) := (Only.refl _ _).alloc _
  have b0 : (w.alloc (.cells #[.int .u8 p] 5)).ownsRow w.heap.size 5 1 (.slice (some ⟨w.heap.size, 0, none⟩) 1 1) 1 (bl [p]) := own_of_blk (Blk.new w 5 (bl [p])) (Nat.le_refl _) (by unfold maxLen; omega) rfl
  have o2 : Only (fun _ => False) (w.alloc (.cells #[.int .u8 p] 5)) ((w.alloc (.cells #[.int .u8 p] 5)).alloc (bytesObj t c)).drew := ((Only.refl _ _).alloc _).drew
  have A := hideIt (rblocked_any (.slice (some ⟨w.heap.size + 1, 0, none⟩) t.size c) (sb t) ((w.alloc (.cells #[.int .u8 p] 5)).alloc (bytesObj t c)).drew (bytesObj_bs (heap_drew_at (heap_at_new (by simp))) (by omega)) (NoCap.some _ _ _) (by rw [sb_len]; omega))
  have d1 : decide (64 < (t.size : Int)) = false := by simp; omega
  have d2 : decide (64 < t.size) = false := by simp; omega
  obtain ⟨ko, kc, rfl, _⟩ := bk.formN hk
  have HL : Hid ((KTX p (sb t)).length ≤ 66 ∧ U8 (KTX p (sb t)) ∧ (blk (sb t)).length ≤ 100) := by
    refine ⟨?_, KTX_u8 hp (sb_range t), ?_⟩
    · rw [KTX_len _ _ (by rw [sb_len]; omega), sb_len]; omega
    · have := blk_len (sb t) (by rw [sb_len]; omega)
      rw [sb_len] at this
      omega
  have E := hideIt (fun (u : Value) (W : World) (o : Only (fun _ => False) w W) (b : Bs .u8 W u (KTX p (sb t))) (nu : NoCap u) => rexpand_in (.slice ko 32 kc) u key (KTX p (sb t)) 32 W (bk.past o) nk k8 (by omega) b nu HL.out.2.1 (by have := HL.out.1; omega) (by decide))
  rw [show ((32 : Nat) : Int) = 32 from rfl] at E
  have HV : Hid (EXPL key (KTX p (sb t)) 32 = KDV key p (sb t)) := rfl
  rw [HV.out] at E
  have P0 := hideIt (And.intro (o2.own b0 (fun _ _ f => f)) (o1.same o2))
  have HX : Hid ([p] ++ blk (sb t) = KTX p (sb t)) := rfl
  obtain ⟨X, hX⟩ : ∃ X, X = blk (sb t) := ⟨_, rfl⟩
  rw [← hX] at A HL HX
  clear o1 b0 o2 hge hX HV bk nk k8 hk hp
  go_enter Try.func9, Try.ntmps9
  go_wp2_with fail
  rw [← hc]
  refine A.out.mono ?_
  rintro e w1 ⟨v1, rfl, own1, o1⟩
  have OW0 : Hid (w1.ownsRow w.heap.size 5 1 (.slice (some ⟨w.heap.size, 0, none⟩) 1 1) 1 (bl [p])) := o1.own P0.out.1 (fun _ _ f => f)
  have B1 : Hid (Bs .u8 w1 v1 X ∧ NoCap v1) := ⟨Bs.of_own (k := .u8) own1, NoCap.of_own own1⟩
  have O1 := hideIt (P0.out.2.same o1)
  have hle := O1.out.size
  clear own1 o1 A P0 hcv hc
  go_wp2_with (at_builtin; refine wpList_append_bs _ rfl _ _ 22 rfl w.heap.size 5 i0 (.int .u8 0) 1 Try.underlying22 hi hz0 hz1 hz2 rfl (.slice (some ⟨w.heap.size, 0, none⟩) 1 1) 1 (bl [p]) rfl OW0.out .u8 v1 X rfl B1.out.1 B1.out.2 (by have := HL.out.2.2; unfold maxLen; omega) (by have := HL.out.2.2; omega) hle ?_; intro v5 w5 hown5 hgrow5 hnil5 hob5)
  have b5 : Bs .u8 w5 v5 (KTX p (sb t)) := by
    rw [← HX.out]
    refine Bs.of_own (k := .u8) (E := 5) (lo := w.heap.size) ?_
    have : ([p] ++ X).length = 1 + X.length := by simp only [List.length_append, List.length_cons, List.length_nil]
    rw [this, List.map_append]
    exact hown5
  have o5 : Only (fun _ => False) w w5 := O1.out.grown hgrow5 (fun j hj e => by have := (OW0.out.lt j e).1; omega)
  have E5 := hideIt (E.out v5 w5 o5 b5 (NoCap.of_own hown5))
  have O5 := hideIt o5
  clear hown5 hgrow5 hnil5 hob5 OW0 B1 O1 b5 o5 E hle
  go_wp2_with fail
  refine E5.out.mono ?_
  rintro e w6 ⟨v6, rfl, b6, o6⟩
  have F := hideIt (And.intro b6 (O5.out.same o6))
  clear b6 o6 E5 O5
  go_wp2
  go_ret2
  exact ⟨_, rfl, F.out⟩
set_option maxHeartbeats 400000 in
set_option maxRecDepth 100000 in
theorem rderive_key (ko : Option Addr) (kl kc : Nat) (p : Value) (t : ByteArray) (h : kl ≠ 32) (w : World) :
    Calls Try.prog 9 #[.slice ko kl kc, p, .string t] w fun e w' => e = .returned (.tuple #[.slice none 0 0, .int .i64 1]) ∧ Only (fun _ => False) w w' := by
  have h3 : ((kl : Int) != 32) = true := by simp; omega
  clear h
  go_enter Try.func9, Try.ntmps9
  go_wp2
  go_ret2
  exact ⟨rfl, Only.refl _ _⟩
set_option maxHeartbeats 400000 in
set_option maxRecDepth 100000 in
theorem rderive_long (ko : Option Addr) (kc : Nat) (p : Value) (t : ByteArray) (h : 64 < t.size) (w : World) :
    Calls Try.prog 9 #[.slice ko 32 kc, p, .string t] w fun e w' => e = .returned (.tuple #[.slice none 0 0, .int .i64 4]) ∧ Only (fun _ => False) w w' := by
  have d1 : decide (64 < (t.size : Int)) = true := by simp; omega
  have d2 : decide (64 < t.size) = true := by simp; omega
  go_enter Try.func9, Try.ntmps9
  go_wp2
  go_ret2
  exact ⟨rfl, Only.refl _ _⟩
theorem rderive_any (vk : Value) (key : List Int) (p : Int) (t : ByteArray) (k8 : U8 key) (nk : NoCap vk) (hp : 0 ≤ p ∧ p ≤ 255) (w : World) (bk : Bs .u8 w vk key) :
    Calls Try.prog 9 #[vk, .int .u8 p, .string t] w fun e w' => ∃ v, e = .returned (.tuple #[v, .int .i64 (KDe key (sb t))]) ∧ Bs .u8 w' v (KDt key p (sb t)) ∧ Only (fun _ => False) w w' := by
  by_cases hk : key.length = 32
  · by_cases ht : t.size ≤ 64
    · have e1 : KDe key (sb t) = 0 := by unfold KDe; rw [if_pos hk, sb_len, if_pos ht]
      have e2 : KDt key p (sb t) = KDV key p (sb t) := by unfold KDt; rw [if_pos hk, sb_len, if_pos ht]
      rw [e1, e2]
      exact rderive_ok vk key p t hk k8 nk hp ht w bk
    · have e1 : KDe key (sb t) = 4 := by unfold KDe; rw [if_pos hk, sb_len, if_neg ht]
      have e2 : KDt key p (sb t) = [] := by unfold KDt; rw [if_pos hk, sb_len, if_neg ht]
      rw [e1, e2]
      obtain ⟨ko, kc, rfl, _⟩ := bk.formN hk
      exact (rderive_long ko kc (.int .u8 p) t (by omega) w).mono (fun _ _ ⟨h1, h2⟩ => ⟨_, h1, Bs.nil _ _, h2⟩)
  · have e1 : KDe key (sb t) = 1 := by unfold KDe; rw [if_neg hk]
    have e2 : KDt key p (sb t) = [] := by unfold KDt; rw [if_neg hk]
    rw [e1, e2]
    obtain ⟨ko, kc, rfl⟩ := bk.len
    exact (rderive_key ko key.length kc (.int .u8 p) t hk w).mono (fun _ _ ⟨h1, h2⟩ => ⟨_, h1, Bs.nil _ _, h2⟩)
theorem rderive_none (vk : Value) (key : List Int) (p : Int) (k8 : U8 key) (nk : NoCap vk) (hp : 0 ≤ p ∧ p ≤ 255) (w : World) (bk : Bs .u8 w vk key) :
    Calls Try.prog 9 #[vk, .int .u8 p, .string ⟨#[]⟩] w fun e w' => ∃ v, e = .returned (.tuple #[v, .int .i64 (KDe key [])]) ∧ Bs .u8 w' v (KDt key p []) ∧ Only (fun _ => False) w w' := by
  have := rderive_any vk key p ⟨#[]⟩ k8 nk hp w bk
  rw [sb_none] at this
  exact this
set_option maxHeartbeats 400000 in
set_option maxRecDepth 100000 in
theorem rtenant_any (vk : Value) (key : List Int) (t : ByteArray) (k8 : U8 key) (nk : NoCap vk) (w : World) (bk : Bs .u8 w vk key) :
    Calls Try.prog 12 #[vk, .string t] w fun e w' => ∃ v, e = .returned (.tuple #[v, .int .i64 (KDe key (sb t))]) ∧ Bs .u8 w' v (KDt key 1 (sb t)) ∧ Only (fun _ => False) w w' := by
  have A := hideIt (rderive_any vk key 1 t k8 nk (by decide) w bk)
  obtain ⟨E, hE⟩ : ∃ E, E = KDe key (sb t) := ⟨_, rfl⟩
  rw [← hE] at A ⊢
  clear k8 bk hE nk
  go_enter Try.func12, Try.ntmps12
  go_wp2_with fail
  refine A.out.mono ?_
  rintro e w1 ⟨v1, rfl, own1, o1⟩
  have F := hideIt (And.intro own1 o1)
  clear own1 o1 A
  go_wp2
  go_ret2
  exact ⟨_, rfl, F.out⟩
set_option maxHeartbeats 400000 in
set_option maxRecDepth 100000 in
theorem rkseal_any (vk : Value) (key : List Int) (k8 : U8 key) (nk : NoCap vk) (w : World) (bk : Bs .u8 w vk key) :
    Calls Try.prog 16 #[vk] w fun e w' => ∃ v, e = .returned (.tuple #[v, .int .i64 (KDe key [])]) ∧ Bs .u8 w' v (KDt key 2 []) ∧ Only (fun _ => False) w w' := by
  have A := hideIt (rderive_none vk key 2 k8 nk (by decide) w bk)
  obtain ⟨E, hE⟩ : ∃ E, E = KDe key [] := ⟨_, rfl⟩
  rw [← hE] at A ⊢
  clear k8 bk hE nk
  go_enter Try.func16, Try.ntmps16
  go_wp2_with fail
  refine A.out.mono ?_
  rintro e w1 ⟨v1, rfl, own1, o1⟩
  have F := hideIt (And.intro own1 o1)
  clear own1 o1 A
  go_wp2
  go_ret2
  exact ⟨_, rfl, F.out⟩
set_option maxHeartbeats 400000 in
set_option maxRecDepth 100000 in
theorem rkmanifest_any (vk : Value) (key : List Int) (k8 : U8 key) (nk : NoCap vk) (w : World) (bk : Bs .u8 w vk key) :
    Calls Try.prog 14 #[vk] w fun e w' => ∃ v, e = .returned (.tuple #[v, .int .i64 (KDe key [])]) ∧ Bs .u8 w' v (KDt key 4 []) ∧ Only (fun _ => False) w w' := by
  have A := hideIt (rderive_none vk key 4 k8 nk (by decide) w bk)
  obtain ⟨E, hE⟩ : ∃ E, E = KDe key [] := ⟨_, rfl⟩
  rw [← hE] at A ⊢
  clear k8 bk hE nk
  go_enter Try.func14, Try.ntmps14
  go_wp2_with fail
  refine A.out.mono ?_
  rintro e w1 ⟨v1, rfl, own1, o1⟩
  have F := hideIt (And.intro own1 o1)
  clear own1 o1 A
  go_wp2
  go_ret2
  exact ⟨_, rfl, F.out⟩
set_option maxHeartbeats 1600000 in
set_option maxRecDepth 100000 in
theorem rnonce_any (vk : Value) (key : List Int) (v i : Int) (k8 : U8 key) (nk : NoCap vk) (w : World) (bk : Bs .u8 w vk key) (hi : -9223372036854775808 ≤ i ∧ i ≤ 9223372036854775807) :
    Calls Try.prog 18 #[vk, .int .u64 v, .int .i64 i] w fun e w' => ∃ r, e = .returned (.tuple #[r, .int .i64 (KNe key i)]) ∧ Bs .u8 w' r (KNt key v i) ∧ Only (fun _ => False) w w' := by
  obtain ⟨i0, hi0, hz0, hz1, hz2⟩ := info_parts Try.infoU8
  by_cases hk : key.length = 32
  · have A := hideIt (rderive_none vk key 3 k8 nk (by decide) w bk)
    rw [show KDe key [] = 0 by unfold KDe; rw [if_pos hk]; rfl, show KDt key 3 [] = KDV key 3 [] by unfold KDt; rw [if_pos hk]; rfl] at A
    by_cases hx : KIX i
    · rw [show KNe key i = 0 by unfold KNe; rw [if_pos hk, if_pos hx], show KNt key v i = KNC key v i by unfold KNt; rw [if_pos hk, if_pos hx]]
      have hw : IntKind.u64.wrap i = i := by have := hx.1; have := hx.2; rw [IntKind.wrap_u64]; omega
      have P := hideIt (fun W => rfix_any v 8 W (by decide))
      have Q := hideIt (fun W => rfix_any i 4 W (by decide))
      rw [show ((8 : Nat) : Int) = 8 from rfl, fixL_len] at P
      rw [show ((4 : Nat) : Int) = 4 from rfl, fixL_len] at Q
      have d1 : decide (i < 0) = false := decide_eq_false (by have := hx.1; omega)
      have d2 : decide (1048576 ≤ i) = false := decide_eq_false (by have := hx.2; omega)
      have HK : Hid ((KDV key 3 []).length = 32 ∧ U8 (KDV key 3 []) ∧ (NTX v i).length = 12 ∧ U8 (NTX v i) ∧ KNC key v i = (MACL (KDV key 3 []) (NTX v i)).take 12) := ⟨KDV_len _ _ _, KDV_u8 _ _ _, NTX_len _ _, NTX_u8 _ _, rfl⟩
      have HX : Hid (NTX v i = fixL v 8 ++ fixL i 4 ∧ (fixL v 8).length = 8 ∧ (fixL i 4).length = 4) := ⟨rfl, fixL_len _ _, fixL_len _ _⟩
      obtain ⟨K, hK⟩ : ∃ K, K = KDV key 3 [] := ⟨_, rfl⟩
      obtain ⟨T, hT⟩ : ∃ T, T = NTX v i := ⟨_, rfl⟩
      obtain ⟨X, hX⟩ : ∃ X, X = fixL v 8 := ⟨_, rfl⟩
      obtain ⟨Y, hY⟩ : ∃ Y, Y = fixL i 4 := ⟨_, rfl⟩
      rw [← hK] at A HK
      rw [← hT] at HK HX
      rw [← hX] at HX P
      rw [← hY] at HX Q
      clear bk k8 hk hi hx hK hT nk hX hY
      go_enter Try.func18, Try.ntmps18
      go_wp2_with fail
      refine A.out.mono ?_
      rintro e w1 ⟨v1, rfl, b1, o1⟩
      have B1 : Hid (Bs .u8 w1 v1 K ∧ NoCap v1) := ⟨b1, b1.nocap (fun e => by have := HK.out.1; rw [e] at this; cases this)⟩
      have O1 := hideIt o1
      have P1 := hideIt (P.out w1)
      clear b1 o1 A P
      go_wp2_with fail
      refine P1.out.mono ?_
      rintro e w2 ⟨v2, rfl, own2, o2⟩
      have OW2 := hideIt own2
      have O2 := hideIt o2
      have Q2 := hideIt (Q.out w2)
      clear own2 o2 P1 Q
      go_wp2_with fail
      refine Q2.out.mono ?_
      rintro e w3 ⟨v3, rfl, own3, o3⟩
      have OW3 : Hid (w3.ownsRow w1.heap.size 5 1 v2 8 (bl X)) := o3.own OW2.out (fun _ _ f => f)
      have B3 : Hid (Bs .u8 w3 v3 Y ∧ NoCap v3) := ⟨Bs.of_own (k := .u8) (E := 5) (lo := w2.heap.size) (by rw [HX.out.2.2]; exact own3), NoCap.of_own own3⟩
      have O3 := hideIt (O2.out.same o3)
      have hle := O3.out.size
      clear own3 o3 Q2 OW2 O2
      go_wp2_with (at_builtin; refine wpList_append_bs _ rfl _ _ 22 rfl w1.heap.size 5 i0 (.int .u8 0) 1 Try.underlying22 hi0 hz0 hz1 hz2 rfl v2 8 (bl X) rfl OW3.out .u8 v3 Y rfl B3.out.1 B3.out.2 (by rw [HX.out.2.2]; decide) (by rw [HX.out.2.2]; decide) hle ?_; intro v5 w5 hown5 hgrow5 hnil5 hob5)
      have b5 : Bs .u8 w5 v5 T := by
        rw [HX.out.1]
        refine Bs.of_own (k := .u8) (E := 5) (lo := w1.heap.size) ?_
        have : (X ++ Y).length = 8 + Y.length := by rw [List.length_append, HX.out.2.1]
        rw [this, List.map_append]
        exact hown5
      have o5 : Only (fun _ => False) w1 w5 := O3.out.grown hgrow5 (fun j hj e => by have := (OW3.out.lt j e).1; omega)
      have M := hideIt (rmac_bs v1 v5 K T w5 (B1.out.1.past o5) B1.out.2 HK.out.2.1 (by rw [HK.out.1]; decide) b5 (NoCap.of_own hown5) HK.out.2.2.2.1 (by rw [HK.out.2.2.1]; decide))
      have O5 := hideIt (O1.out.same o5)
      clear hown5 hgrow5 hnil5 hob5 OW3 B3 O3 b5 o5 hle B1 O1
      go_wp2_with fail
      refine M.out.mono ?_
      rintro e w6 ⟨v6, rfl, own6, o6⟩
      obtain ⟨a6, c6, rfl⟩ := own_form own6
      have b6 : Bs .u8 w6 (.slice a6 32 c6) (MACL K T) := Bs.of_own (k := .u8) (E := 5) (lo := w5.heap.size) (by rw [MACL_len]; exact own6)
      obtain ⟨_, _, e6, hc6⟩ := b6.formN (MACL_len _ _)
      cases e6
      have hc7 : (12 : Int) ≤ (c6 : Int) := by omega
      have F : Hid (Bs .u8 w6 (.slice a6 12 c6) (KNC key v i) ∧ Only (fun _ => False) w w6) := ⟨by rw [HK.out.2.2.2.2]; exact b6.head (by decide), O5.out.same o6⟩
      clear own6 o6 b6 hc6 M O5
      go_wp2
      go_ret2
      exact ⟨_, rfl, F.out⟩
    · rw [show KNe key i = 1 by unfold KNe; rw [if_pos hk, if_neg hx], show KNt key v i = [] by unfold KNt; rw [if_pos hk, if_neg hx]]
      clear bk k8 hk
      go_enter Try.func18, Try.ntmps18
      go_wp2_with fail
      refine A.out.mono ?_
      rintro e w1 ⟨v1, rfl, own1, o1⟩
      have F := hideIt o1
      clear own1 o1 A
      by_cases h0 : i < 0
      · have d1 : decide (i < 0) = true := decide_eq_true h0
        clear hx h0 hi
        go_wp2
        go_ret2
        exact ⟨_, rfl, Bs.nil _ _, F.out⟩
      · have d1 : decide (i < 0) = false := decide_eq_false h0
        have d2 : decide (1048576 ≤ i) = true := decide_eq_true (by unfold KIX at hx; omega)
        clear hx h0 hi
        go_wp2
        go_ret2
        exact ⟨_, rfl, Bs.nil _ _, F.out⟩
  · have A := hideIt (rderive_none vk key 3 k8 nk (by decide) w bk)
    rw [show KDe key [] = 1 by unfold KDe; rw [if_neg hk]] at A
    rw [show KNe key i = 1 by unfold KNe; rw [if_neg hk], show KNt key v i = [] by unfold KNt; rw [if_neg hk]]
    clear bk k8 hk hi
    go_enter Try.func18, Try.ntmps18
    go_wp2_with fail
    refine A.out.mono ?_
    rintro e w1 ⟨v1, rfl, own1, o1⟩
    have F := hideIt o1
    clear own1 o1 A
    go_wp2
    go_ret2
    exact ⟨_, rfl, Bs.nil _ _, F.out⟩
end Go.Proofs.Ytbcfpiahhippaaa
