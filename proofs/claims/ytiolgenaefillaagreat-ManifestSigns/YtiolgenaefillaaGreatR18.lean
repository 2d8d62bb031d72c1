/- The document's own answers: Derive, Tenant, Seal, Manifest, Nonce. -/
import Derived.Test.YtiolgenaefillaaGreatG3
import Derived.Test.YtiolgenaefillaaGreatCRef2
import Derived.Test.YtiolgenaefillaaGreatRe14
import Derived.Test.YtiolgenaefillaaGreatRm14
import Derived.Test.YtiolgenaefillaaGreatG8
namespace Go.Proofs.YtiolgenaefillaaGreat
open Go.RowKit

set_option maxHeartbeats 1600000 in
set_option maxRecDepth 100000 in
theorem rderive_ok (vk : Value) (key : List Int) (p : Int) (t : ByteArray) (hk : key.length = 32) (k8 : U8 key) (nk : NoCap vk) (hp : 0 ≤ p ∧ p ≤ 255) (ht : t.size ≤ 64) (w : World) (bk : Bs .u8 w vk key) :
    Calls Tryz.prog 70 #[vk, .int .u8 p, .string t] w fun e w' => ∃ v, e = .returned (.tuple #[v, .int .i64 0]) ∧ Bs .u8 w' v (KDV key p (sb t)) ∧ Only (fun _ => False) w w' := by
  obtain ⟨i0, hi, hz0, hz1, hz2⟩ := info_parts Tryz.infoU8
  have hcv := conv_bytes t
  have hge := grownCap_ge (w.alloc (.cells #[.int .u8 p] 5)) t.size 0 5
  obtain ⟨c, hc⟩ : ∃ c, c = grownCap (w.alloc (.cells #[.int .u8 p] 5)) t.size 0 5 := ⟨_, rfl⟩
  rw [← hc] at hge
  have o1 : Only (fun _ => False) w (w.alloc (.cells #[.int .u8 p] 5)) := (Only.refl _ _).alloc _
  have b0 : (w.alloc (.cells #[.int .u8 p] 5)).ownsRow w.heap.size 5 1 (.slice (some ⟨w.heap.size, 0, none⟩) 1 1) 1 (bl [p]) := own_of_blk (Blk.new w 5 (bl [p])) (Nat.le_refl _) (by unfold maxLen; omega) rfl
  have o2 : Only (fun _ => False) (w.alloc (.cells #[.int .u8 p] 5)) ((w.alloc (.cells #[.int .u8 p] 5)).alloc (bytesObj t c)).drew := ((Only.refl _ _).alloc _).drew
  have A := hideIt (rblocked_any (.slice (some ⟨w.heap.size + 1, 0, none⟩) t.size c) (sb t) ((w.alloc (.cells #[.int .u8 p] 5)).alloc (bytesObj t c)).drew (bytesObj_bs (heap_drew_at (heap_at_new (by simp))) (by omega)) (NoCap.some _ _ _) (by rw [sb_len]; omega))
  have d1 : decide (64 < (t.size : Int)) = false := by simp; omega
  have d2 : decide (64 < t.size) = false := by simp; omega
  obtain ⟨ko, kc, rfl, _⟩ := bk.formN hk
  have HL : Hid ((KTX p (sb t)).length ≤ 66 ∧ U8 (KTX p (sb t)) ∧ (blk (sb t)).length ≤ 100) := by
    refine ⟨?_, KTX_u8 hp (sb_range t), ?_⟩
    · rw [KTX_len _ _ (by rw [sb_len]; omega), sb_len]; omega
    · have := blk_len (sb t) (by rw [sb_len]; omega)
      rw [sb_len] at this
      omega
  have E := hideIt (fun (u : Value) (W : World) (o : Only (fun _ => False) w W) (b : Bs .u8 W u (KTX p (sb t))) (nu : NoCap u) => rexpand_in (.slice ko 32 kc) u key (KTX p (sb t)) 32 W (bk.past o) nk k8 (by omega) b nu HL.out.2.1 (by have := HL.out.1; omega) (by decide))
  rw [show ((32 : Nat) : Int) = 32 from rfl] at E
  have HV : Hid (EXPL key (KTX p (sb t)) 32 = KDV key p (sb t)) := rfl
  rw [HV.out] at E
  have P0 := hideIt (And.intro (o2.own b0 (fun _ _ f => f)) (o1.same o2))
  have HX : Hid ([p] ++ blk (sb t) = KTX p (sb t)) := rfl
  obtain ⟨X, hX⟩ : ∃ X, X = blk (sb t) := ⟨_, rfl⟩
  rw [← hX] at A HL HX
  clear o1 b0 o2 hge hX HV bk nk k8 hk hp
  go_enter Tryz.func70, Tryz.ntmps70
  go_wp2_with fail
  rw [← hc]
  refine A.out.mono ?_
  rintro e w1 ⟨v1, rfl, own1, o1⟩
  have OW0 : Hid (w1.ownsRow w.heap.size 5 1 (.slice (some ⟨w.heap.size, 0, none⟩) 1 1) 1 (bl [p])) := o1.own P0.out.1 (fun _ _ f => f)
  have B1 : Hid (Bs .u8 w1 v1 X ∧ NoCap v1) := ⟨Bs.of_own (k := .u8) own1, NoCap.of_own own1⟩
  have O1 := hideIt (P0.out.2.same o1)
  have hle := O1.out.size
  clear own1 o1 A P0 hcv hc
  go_wp2_with (at_builtin; refine wpList_append_bs _ rfl _ _ 23 rfl w.heap.size 5 i0 (.int .u8 0) 1 Tryz.underlying23 hi hz0 hz1 hz2 rfl (.slice (some ⟨w.heap.size, 0, none⟩) 1 1) 1 (bl [p]) rfl OW0.out .u8 v1 X rfl B1.out.1 B1.out.2 (by have := HL.out.2.2; unfold maxLen; omega) (by have := HL.out.2.2; omega) hle ?_; intro v5 w5 hown5 hgrow5 hnil5 hob5)
  have b5 : Bs .u8 w5 v5 (KTX p (sb t)) := by
    rw [← HX.out]
    refine Bs.of_own (k := .u8) (E := 5) (lo := w.heap.size) ?_
    have : ([p] ++ X).length = 1 + X.length := by simp only [List.length_append, List.length_cons, List.length_nil]
    rw [this, List.map_append]
    exact hown5
  have o5 : Only (fun _ => False) w w5 := O1.out.grown hgrow5 (fun j hj e => by have := (OW0.out.lt j e).1; omega)
  have E5 := hideIt (E.out v5 w5 o5 b5 (NoCap.of_own hown5))
  have O5 := hideIt o5
  clear hown5 hgrow5 hnil5 hob5 OW0 B1 O1 b5 o5 E hle
  go_wp2_with fail
  refine E5.out.mono ?_
  rintro e w6 ⟨v6, rfl, b6, o6⟩
  have F := hideIt (And.intro b6 (O5.out.same o6))
  clear b6 o6 E5 O5
  go_wp2
  go_ret2
  exact ⟨_, rfl, F.out⟩
set_option maxHeartbeats 400000 in
set_option maxRecDepth 100000 in
theorem rderive_key (ko : Option Addr) (kl kc : Nat) (p : Value) (t : ByteArray) (h : kl ≠ 32) (w : World) :
    Calls Tryz.prog 70 #[.slice ko kl kc, p, .string t] w fun e w' => e = .returned (.tuple #[.slice none 0 0, .int .i64 1]) ∧ Only (fun _ => False) w w' := by
  have h3 : ((kl : Int) != 32) = true := by simp; omega
  clear h
  go_enter Tryz.func70, Tryz.ntmps70
  go_wp2
  go_ret2
  exact ⟨rfl, Only.refl _ _⟩
set_option maxHeartbeats 400000 in
set_option maxRecDepth 100000 in
theorem rderive_long (ko : Option Addr) (kc : Nat) (p : Value) (t : ByteArray) (h : 64 < t.size) (w : World) :
    Calls Tryz.prog 70 #[.slice ko 32 kc, p, .string t] w fun e w' => e = .returned (.tuple #[.slice none 0 0, .int .i64 4]) ∧ Only (fun _ => False) w w' := by
  have d1 : decide (64 < (t.size : Int)) = true := by simp; omega
  have d2 : decide (64 < t.size) = true := by simp; omega
  go_enter Tryz.func70, Tryz.ntmps70
  go_wp2
  go_ret2
  exact ⟨rfl, Only.refl _ _⟩
theorem rderive_any (vk : Value) (key : List Int) (p : Int) (t : ByteArray) (k8 : U8 key) (nk : NoCap vk) (hp : 0 ≤ p ∧ p ≤ 255) (w : World) (bk : Bs .u8 w vk key) :
    Calls Tryz.prog 70 #[vk, .int .u8 p, .string t] w fun e w' => ∃ v, e = .returned (.tuple #[v, .int .i64 (KDe key (sb t))]) ∧ Bs .u8 w' v (KDt key p (sb t)) ∧ Only (fun _ => False) w w' := by
  by_cases hk : key.length = 32
  · by_cases ht : t.size ≤ 64
    · have e1 : KDe key (sb t) = 0 := by unfold KDe; rw [if_pos hk, sb_len, if_pos ht]
      have e2 : KDt key p (sb t) = KDV key p (sb t) := by unfold KDt; rw [if_pos hk, sb_len, if_pos ht]
      rw [e1, e2]
      exact rderive_ok vk key p t hk k8 nk hp ht w bk
    · have e1 : KDe key (sb t) = 4 := by unfold KDe; rw [if_pos hk, sb_len, if_neg ht]
      have e2 : KDt key p (sb t) = [] := by unfold KDt; rw [if_pos hk, sb_len, if_neg ht]
      rw [e1, e2]
      obtain ⟨ko, kc, rfl, _⟩ := bk.formN hk
      exact (rderive_long ko kc (.int .u8 p) t (by omega) w).mono (fun _ _ ⟨h1, h2⟩ => ⟨_, h1, Bs.nil _ _, h2⟩)
  · have e1 : KDe key (sb t) = 1 := by unfold KDe; rw [if_neg hk]
    have e2 : KDt key p (sb t) = [] := by unfold KDt; rw [if_neg hk]
    rw [e1, e2]
    obtain ⟨ko, kc, rfl⟩ := bk.len
    exact (rderive_key ko key.length kc (.int .u8 p) t hk w).mono (fun _ _ ⟨h1, h2⟩ => ⟨_, h1, Bs.nil _ _, h2⟩)
theorem rderive_none (vk : Value) (key : List Int) (p : Int) (k8 : U8 key) (nk : NoCap vk) (hp : 0 ≤ p ∧ p ≤ 255) (w : World) (bk : Bs .u8 w vk key) :
    Calls Tryz.prog 70 #[vk, .int .u8 p, .string ⟨#[]⟩] w fun e w' => ∃ v, e = .returned (.tuple #[v, .int .i64 (KDe key [])]) ∧ Bs .u8 w' v (KDt key p []) ∧ Only (fun _ => False) w w' := by
  have := rderive_any vk key p ⟨#[]⟩ k8 nk hp w bk
  rw [sb_none] at this
  exact this
set_option maxHeartbeats 400000 in
set_option maxRecDepth 100000 in
theorem rkmanifest_any (vk : Value) (key : List Int) (k8 : U8 key) (nk : NoCap vk) (w : World) (bk : Bs .u8 w vk key) :
    Calls Tryz.prog 43 #[vk] w fun e w' => ∃ v, e = .returned (.tuple #[v, .int .i64 (KDe key [])]) ∧ Bs .u8 w' v (KDt key 4 []) ∧ Only (fun _ => False) w w' := by
  have A := hideIt (rderive_none vk key 4 k8 nk (by decide) w bk)
  obtain ⟨E, hE⟩ : ∃ E, E = KDe key [] := ⟨_, rfl⟩
  rw [← hE] at A ⊢
  clear k8 bk hE nk
  go_enter Tryz.func43, Tryz.ntmps43
  go_wp2_with fail
  refine A.out.mono ?_
  rintro e w1 ⟨v1, rfl, own1, o1⟩
  have F := hideIt (And.intro own1 o1)
  clear own1 o1 A
  go_wp2
  go_ret2
  exact ⟨_, rfl, F.out⟩
end Go.Proofs.YtiolgenaefillaaGreat
