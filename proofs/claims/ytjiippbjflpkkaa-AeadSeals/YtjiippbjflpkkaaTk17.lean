/- The key of the tag; Seal. -/
import Derived.Test.YtjiippbjflpkkaaTg17
import Derived.Test.YtjiippbjflpkkaaSt
import Derived.Test.YtjiippbjflpkkaaMc
namespace Go.Proofs.Ytjiippbjflpkkaa
open Go.RowKit

theorem Bs.room {k : IntKind} {w : World} {ao : Option Addr} {m cap : Nat} {xs : List Int} (h : Bs k w (.slice ao m cap) xs) : m ≤ cap := by
  obtain ⟨ao', cap', e, hc, _⟩ := h
  simp at e
  obtain ⟨rfl, rfl, rfl⟩ := e
  exact hc
theorem NoCap.cut {ao : Option Addr} {m cap : Nat} (h : NoCap (.slice ao m cap)) (m' : Nat) : NoCap (.slice ao m' cap) := fun _ _ e => by
  cases e; exact h _ _ rfl
theorem Bs.formN {k : IntKind} {w : World} {v : Value} {xs : List Int} (h : Bs k w v xs) {n : Nat} (hn : xs.length = n) : ∃ ao cap, v = .slice ao n cap ∧ n ≤ cap := by
  obtain ⟨ao, cap, e, hc, _⟩ := h
  exact ⟨ao, cap, by rw [e, hn], by omega⟩
set_option maxHeartbeats 400000 in
set_option maxRecDepth 100000 in
theorem tagKey_ok (vk vn : Value) (key nonce : List Int) (h : KN key nonce) (k8 : U8 key) (n8 : U8 nonce) (w : World) (bk : Bs .u8 w vk key) (bn : Bs .u8 w vn nonce) :
    Calls Try.prog 16 #[vk, vn] w fun e w' => ∃ v, e = .returned (.tuple #[v, .int .i64 0]) ∧ Bs .u8 w' v (AKY key nonce) ∧ NoCap v ∧ Only (fun _ => False) w w' := by
  have A := hideIt (block_any vk vn key nonce 0 (by decide) k8 n8 w bk bn)
  rw [show BLe key nonce = 0 from if_pos h, show BLt key 0 nonce = BLK key 0 nonce from if_pos h, show ((0 : Nat) : Int) = 0 from rfl] at A
  clear bk bn k8 n8 h
  go_enter Try.func16, Try.ntmps16
  go_wp2_with fail
  refine A.out.mono ?_
  rintro e w1 ⟨v, rfl, b1, nc1, o1⟩
  obtain ⟨ao, cap, rfl, hc⟩ := b1.formN (BLK_len _ _ _)
  have hc1 : (32 : Int) ≤ (cap : Int) := by omega
  have F1 : Hid (Bs .u8 w1 (.slice ao 32 cap) (AKY key nonce) ∧ NoCap (.slice ao 32 cap) ∧ Only (fun _ => False) w w1) := ⟨b1.head (by decide), nc1.cut 32, o1⟩
  clear b1 nc1 o1 A
  go_wp2
  go_ret2
  exact ⟨_, rfl, F1.out⟩
set_option maxHeartbeats 400000 in
set_option maxRecDepth 100000 in
theorem tagKey_no (vk vn : Value) (key nonce : List Int) (h : ¬ KN key nonce) (k8 : U8 key) (n8 : U8 nonce) (w : World) (bk : Bs .u8 w vk key) (bn : Bs .u8 w vn nonce) :
    Calls Try.prog 16 #[vk, vn] w fun e w' => e = .returned (.tuple #[.slice none 0 0, .int .i64 1]) ∧ Only (fun _ => False) w w' := by
  have A := hideIt (block_any vk vn key nonce 0 (by decide) k8 n8 w bk bn)
  rw [show BLe key nonce = 1 from if_neg h, show ((0 : Nat) : Int) = 0 from rfl] at A
  clear bk bn k8 n8 h
  go_enter Try.func16, Try.ntmps16
  go_wp2_with fail
  refine A.out.mono ?_
  rintro e w1 ⟨v, rfl, b1, nc1, o1⟩
  have F1 := hideIt o1
  clear b1 nc1 o1 A
  go_wp2
  go_ret2
  exact ⟨rfl, F1.out⟩
theorem aead_fit (n : Nat) (h : n ≤ 100000000000) : fitsC 1 n := by unfold fitsC; omega
theorem SR1 {key nonce : List Int} (h : KN key nonce) {n : Nat} (hf : fitsC 1 n) : SRe key 1 nonce n = 0 := by unfold SRe; rw [if_pos h, if_pos hf]
theorem SR1L {key nonce xs : List Int} (h : KN key nonce) (hf : fitsC 1 xs.length) : SRt key 1 nonce xs = STR key 1 nonce xs := by unfold SRt; rw [if_pos h, if_pos hf]
set_option maxHeartbeats 1600000 in
set_option maxRecDepth 100000 in
theorem seal_ok (vk vn va vp : Value) (key nonce ad p : List Int) (h : KN key nonce) (k8 : U8 key) (n8 : U8 nonce) (a8 : U8 ad) (p8 : U8 p) (la : ad.length ≤ 100000000000) (lp : p.length ≤ 100000000000) (w : World) (bk : Bs .u8 w vk key) (bn : Bs .u8 w vn nonce) (ba : Bs .u8 w va ad) (na : NoCap va) (bp : Bs .u8 w vp p) :
    Calls Try.prog 10 #[vk, vn, va, vp] w fun e w' => ∃ v, e = .returned (.tuple #[v, .int .i64 0]) ∧ w'.ownsRow w.heap.size 5 1 v (p.length + 16) (bl (ASL key nonce ad p)) ∧ Only (fun _ => False) w w' := by
  obtain ⟨i0, hi, hz0, hz1, hz2⟩ := info_parts Try.infoU8
  have T := hideIt (tagKey_ok vk vn key nonce h k8 n8 w bk bn)
  have S := hideIt (fun (W : World) (o : Only (fun _ => False) w W) => stream_own vk vn vp key nonce p 1 (by decide) k8 n8 p8 (by omega) W (bk.past o) (bn.past o) (bp.past o))
  simp only [SR1 h (aead_fit _ lp), SR1L h (aead_fit _ lp), STR_len, show ((1 : Nat) : Int) = 1 from rfl] at S
  have HA := hideIt (And.intro ba (And.intro na (And.intro a8 la)))
  obtain ⟨ao, ac, rfl⟩ := ba.len
  obtain ⟨C, hC⟩ : ∃ C, C = STR key 1 nonce p := ⟨_, rfl⟩
  simp only [← hC] at S
  have C8 : Hid (U8 C ∧ C.length = p.length ∧ ASL key nonce ad p = C ++ ATG key nonce ad C) := by
    refine ⟨?_, ?_, ?_⟩
    · rw [hC]; exact STR_u8 _ _ _ _ p8
    · rw [hC, STR_len]
    · rw [hC]; rfl
  obtain ⟨n, hn⟩ : ∃ n, n = p.length := ⟨_, rfl⟩
  rw [← hn] at C8 S lp ⊢
  clear bk bn ba na bp k8 n8 a8 p8 h la hC hn
  go_enter Try.func10, Try.ntmps10
  go_wp2_with fail
  refine T.out.mono ?_
  rintro e w1 ⟨v1, rfl, b1, nc1, o1⟩
  have B1 := hideIt b1
  have O1 := hideIt o1
  clear b1 nc1 o1 T
  go_wp2_with fail
  refine (S.out w1 O1.out).mono ?_
  rintro e w2 ⟨v2, rfl, own2, o2⟩
  have B2 := hideIt (B1.out.past o2)
  have O2 := hideIt (O1.out.same o2)
  obtain ⟨co, cc, rfl⟩ := own_form own2
  have W2 := hideIt own2
  have Z2 := hideIt o2.size
  have Z1 := hideIt O1.out.size
  have M : Hid (∀ W : World, Only (fun _ => False) w2 W → W = w2.alloc (.cells #[.slice ao ad.length ac, .slice co n cc] 22) → Calls Try.prog 19 #[.slice (some ⟨w2.heap.size, 0, none⟩) 2 2] W fun e w' => ∃ v, e = .returned v ∧ w'.ownsRow W.heap.size 5 1 v (ATX ad C).length (bl (ATX ad C)) ∧ Only (fun _ => False) W w') := fun W o e => by
    subst e
    exact tagged_two w2.heap.size _ _ ad C _ (Blk.new w2 22 [_, _]) (HA.out.1.past (O2.out.same o)) HA.out.2.1 HA.out.2.2.2 (Bs.of_own (k := .u8) (E := 5) (lo := w1.heap.size) (by rw [C8.out.2.1]; exact o.own own2 (fun _ _ f => f))) (NoCap.of_own own2) (by rw [C8.out.2.1]; exact lp)
  have oa := (Only.refl (fun _ => False) w2).alloc (.cells #[.slice ao ad.length ac, .slice co n cc] 22)
  have M2 := hideIt (M.out _ oa rfl)
  obtain ⟨m, hm⟩ : ∃ m, m = ad.length := ⟨_, rfl⟩
  rw [← hm] at M2 oa ⊢
  have OA := hideIt oa
  clear own2 o2 S O1 B1 M oa hm
  go_wp2_with fail
  refine M2.out.mono ?_
  rintro e w3 ⟨v3, rfl, own3, o3⟩
  have O3 := hideIt (OA.out.same o3)
  have P := hideIt (mac_ok v1 v3 (AKY key nonce) (ATX ad C) (AKY_len _ _) (AKY_u8 _ _) (ATX_u8 ad C HA.out.2.2.1 C8.out.1) (by
    have h1 := ATX_len ad C
    have h2 := HA.out.2.2.2
    have h3 := C8.out.2.1
    omega) w3 (B2.out.past O3.out) (Bs.of_own (k := .u8) (E := 5) own3))
  clear own3 o3 M2 OA B2
  go_wp2_with fail
  refine P.out.mono ?_
  rintro e w4 ⟨v4, rfl, own4, o4⟩
  have O4 := hideIt (O3.out.same o4)
  have W4 : Hid (w4.ownsRow w1.heap.size 5 1 (.slice co n cc) n (bl C)) := O4.out.own W2.out (fun _ _ f => f)
  have B4 : Hid (Bs .u8 w4 v4 (ATG key nonce ad C) ∧ NoCap v4) := ⟨Bs.of_own (k := .u8) (E := 5) (lo := w3.heap.size) (by rw [ATG_len]; exact own4), NoCap.of_own own4⟩
  have hle : w1.heap.size ≤ w4.heap.size := Nat.le_trans Z2.out O4.out.size
  clear own4 o4 P O3
  go_wp2_with (at_builtin; refine wpList_append_bs _ rfl _ _ 22 rfl w1.heap.size 5 i0 (.int .u8 0) 1 Try.underlying22 hi hz0 hz1 hz2 rfl (.slice co n cc) n (bl C) rfl W4.out .u8 v4 (ATG key nonce ad C) rfl B4.out.1 B4.out.2 (by rw [ATG_len]; unfold maxLen; omega) (by rw [ATG_len]; omega) hle ?_; intro v5 w5 hown5 hgrow5 hnil5 hob5)
  have F1 : Hid (w5.ownsRow w.heap.size 5 1 v5 (n + 16) (bl (ASL key nonce ad p)) ∧ Only (fun _ => False) w w5) := by
    refine ⟨own_low ?_ Z1.out, (O2.out.same O4.out).grown hgrow5 (fun j hj e => by have := (W4.out.lt j e).1; have := Z1.out; omega)⟩
    have h5 := hown5
    rw [ATG_len] at h5
    rw [C8.out.2.2, bl_app]
    exact h5
  clear hown5 hgrow5 hnil5 hob5 W4 B4 O4
  go_wp2
  go_ret2
  exact ⟨_, rfl, F1.out⟩
set_option maxHeartbeats 400000 in
set_option maxRecDepth 100000 in
theorem seal_no (vk vn va vp : Value) (key nonce : List Int) (h : ¬ KN key nonce) (k8 : U8 key) (n8 : U8 nonce) (w : World) (bk : Bs .u8 w vk key) (bn : Bs .u8 w vn nonce) :
    Calls Try.prog 10 #[vk, vn, va, vp] w fun e w' => e = .returned (.tuple #[.slice none 0 0, .int .i64 1]) ∧ Only (fun _ => False) w w' := by
  have T := hideIt (tagKey_no vk vn key nonce h k8 n8 w bk bn)
  clear bk bn k8 n8 h
  go_enter Try.func10, Try.ntmps10
  go_wp2_with fail
  refine T.out.mono ?_
  rintro e w1 ⟨rfl, o1⟩
  have F1 := hideIt o1
  clear o1 T
  go_wp2
  go_ret2
  exact ⟨rfl, F1.out⟩
/-- the answer of Seal -/
def SLt (key nonce ad p : List Int) : List Int := if KN key nonce then ASL key nonce ad p else []
end Go.Proofs.Ytjiippbjflpkkaa
