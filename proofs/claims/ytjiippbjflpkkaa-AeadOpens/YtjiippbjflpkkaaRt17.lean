/- The document's own answer: Tag, Seal. -/
import Derived.Test.YtjiippbjflpkkaaTk17
import Derived.Test.YtjiippbjflpkkaaRs15
import Derived.Test.YtjiippbjflpkkaaRma
namespace Go.Proofs.Ytjiippbjflpkkaa
open Go.RowKit

set_option maxHeartbeats 1600000 in
set_option maxRecDepth 100000 in
theorem rtag_own (vk vn va vc : Value) (key nonce ad c : List Int) (h : KN key nonce) (k8 : U8 key) (n8 : U8 nonce) (a8 : U8 ad) (c8 : U8 c) (la : ad.length ≤ 40000) (lc : c.length ≤ 40000) (w : World) (bk : Bs .u8 w vk key) (bn : Bs .u8 w vn nonce) (ba : Bs .u8 w va ad) (na : NoCap va) (bc : Bs .u8 w vc c) (nc : NoCap vc) :
    Calls Try.prog 15 #[vk, vn, va, vc] w fun e w' => ∃ v, e = .returned v ∧ w'.ownsRow w.heap.size 5 1 v 16 (bl (ATG key nonce ad c)) ∧ Only (fun _ => False) w w' := by
  have A := hideIt (rblock_any vk vn key nonce 0 (by decide) k8 n8 w bk bn)
  rw [show BLe key nonce = 0 from if_pos h, show BLt key 0 nonce = BLK key 0 nonce from if_pos h, show ((0 : Nat) : Int) = 0 from rfl] at A
  have HA := hideIt (And.intro ba (And.intro na (And.intro a8 la)))
  have HC := hideIt (And.intro bc (And.intro nc (And.intro c8 lc)))
  obtain ⟨ao, ac, rfl⟩ := ba.len
  obtain ⟨co, cc, rfl⟩ := bc.len
  have hfa : (fl ad).length ≤ 40015 := by rw [fl_len]; have := flN_le ad.length; omega
  have hfc : (fl c).length ≤ 40015 := by rw [fl_len]; have := flN_le c.length; omega
  have F1 := hideIt (fun (W : World) (o : Only (fun _ => False) w W) => rfull_own (.slice none 0 0) _ W.heap.size 0 [] ad (by omega) (by omega) W (World.ownsRow_nil ..) (Nat.le_refl _) (ba.past o) na)
  rw [Nat.zero_add, List.nil_append] at F1
  have F2 := hideIt (fun (v : Value) (lo : Nat) (W : World) (o : Only (fun _ => False) w W) (hown : W.ownsRow lo 5 1 v (fl ad).length (bl (fl ad))) (hlo : lo ≤ W.heap.size) => rfull_own v _ lo (fl ad).length (fl ad) c (by omega) (by omega) W hown hlo (bc.past o) nc)
  have G1 := hideIt (fun (v : Value) (lo : Nat) (W : World) (hown : W.ownsRow lo 5 1 v ((fl ad).length + (fl c).length) (bl (fl ad ++ fl c))) (hlo : lo ≤ W.heap.size) => rlength_own v lo ((fl ad).length + (fl c).length) ad.length (fl ad ++ fl c) (by omega) (by omega) W hown hlo)
  have G2 := hideIt (fun (v : Value) (lo : Nat) (W : World) (hown : W.ownsRow lo 5 1 v ((fl ad).length + (fl c).length + 8) (bl (fl ad ++ fl c ++ leB 8 ad.length))) (hlo : lo ≤ W.heap.size) => rlength_own v lo ((fl ad).length + (fl c).length + 8) c.length (fl ad ++ fl c ++ leB 8 ad.length) (by omega) (by omega) W hown hlo)
  have HX : Hid (fl ad ++ fl c ++ leB 8 ad.length ++ leB 8 c.length = ATX ad c ∧ (ATX ad c).length = (fl ad).length + (fl c).length + 8 + 8) := by
    refine ⟨rfl, ?_⟩
    simp only [ATX, List.length_append, leB_len]
  obtain ⟨m, hm⟩ : ∃ m, m = ad.length := ⟨_, rfl⟩
  obtain ⟨n, hn⟩ : ∃ n, n = c.length := ⟨_, rfl⟩
  rw [← hm] at HX F1 G1 G2 ⊢
  rw [← hn] at HX F2 G2 ⊢
  clear bk bn ba na bc nc k8 n8 a8 c8 h la lc hfa hfc hm hn
  go_enter Try.func15, Try.ntmps15
  go_wp2_with fail
  refine A.out.mono ?_
  rintro e w1 ⟨v1, rfl, b1, nc1, o1⟩
  obtain ⟨bo, bcap, rfl, hc⟩ := b1.formN (BLK_len _ _ _)
  have hc1 : (32 : Int) ≤ (bcap : Int) := by omega
  have B1 : Hid (Bs .u8 w1 (.slice bo 32 bcap) (AKY key nonce)) := b1.head (by decide)
  have O1 := hideIt o1
  clear b1 nc1 o1 A hc
  go_wp2_with fail
  refine (F1.out w1 O1.out).mono ?_
  rintro e w2 ⟨v2, rfl, own2, o2⟩
  have P2 : Hid (Only (fun _ => False) w1 w2) := (Only.refl _ _).fresh (Nat.le_refl _) o2
  have W2 := hideIt own2
  clear own2 o2 F1
  go_wp2_with fail
  refine (F2.out v2 w1.heap.size w2 (O1.out.same P2.out) W2.out P2.out.size).mono ?_
  rintro e w3 ⟨v3, rfl, own3, o3⟩
  have P3 : Hid (Only (fun _ => False) w1 w3) := P2.out.fresh (Nat.le_refl _) o3
  have W3 := hideIt own3
  clear own3 o3 F2 W2 P2
  go_wp2_with fail
  refine (G1.out v3 w1.heap.size w3 W3.out P3.out.size).mono ?_
  rintro e w4 ⟨v4, rfl, own4, o4⟩
  have P4 : Hid (Only (fun _ => False) w1 w4) := P3.out.fresh (Nat.le_refl _) o4
  have W4 := hideIt own4
  clear own4 o4 G1 W3 P3
  go_wp2_with fail
  refine (G2.out v4 w1.heap.size w4 W4.out P4.out.size).mono ?_
  rintro e w5 ⟨v5, rfl, own5, o5⟩
  have P5 : Hid (Only (fun _ => False) w1 w5) := P4.out.fresh (Nat.le_refl _) o5
  have b5 : Bs .u8 w5 v5 (ATX ad c) := Bs.of_own (k := .u8) (E := 5) (lo := w1.heap.size) (by rw [HX.out.2, ← HX.out.1]; exact own5)
  have P := hideIt (rmac_ok (.slice bo 32 bcap) v5 (AKY key nonce) (ATX ad c) (AKY_len _ _) (AKY_u8 _ _) (ATX_u8 ad c HA.out.2.2.1 HC.out.2.2.1) (by
    have h1 := ATX_len ad c
    have h2 := HA.out.2.2.2
    have h3 := HC.out.2.2.2
    omega) w5 (B1.out.past P5.out) b5)
  have Z := hideIt (Nat.le_trans O1.out.size P5.out.size)
  have O5 := hideIt (O1.out.same P5.out)
  clear own5 o5 G2 W4 P4 b5 B1
  go_wp2_with fail
  refine P.out.mono ?_
  rintro e w6 ⟨v6, rfl, own6, o6⟩
  have FF : Hid (w6.ownsRow w.heap.size 5 1 v6 16 (bl (ATG key nonce ad c)) ∧ Only (fun _ => False) w w6) := ⟨own_low own6 Z.out, O5.out.same o6⟩
  clear own6 o6 P
  go_wp2
  go_ret
  exact ⟨_, rfl, FF.out⟩
set_option maxHeartbeats 1600000 in
set_option maxRecDepth 100000 in
theorem rseal_any (vk vn va vp : Value) (key nonce ad p : List Int) (k8 : U8 key) (n8 : U8 nonce) (a8 : U8 ad) (p8 : U8 p) (la : ad.length ≤ 40000) (lp : p.length ≤ 40000) (w : World) (bk : Bs .u8 w vk key) (bn : Bs .u8 w vn nonce) (ba : Bs .u8 w va ad) (na : NoCap va) (bp : Bs .u8 w vp p) :
    Calls Try.prog 11 #[vk, vn, va, vp] w fun e w' => ∃ v, e = .returned (.tuple #[v, .int .i64 (BLe key nonce)]) ∧ w'.ownsRow w.heap.size 5 1 v (SLt key nonce ad p).length (bl (SLt key nonce ad p)) ∧ Only (fun _ => False) w w' := by
  obtain ⟨i0, hi, hz0, hz1, hz2⟩ := info_parts Try.infoU8
  have S := hideIt (rstream_own vk vn vp key nonce p 1 (by decide) k8 n8 p8 (by omega) w bk bn bp)
  by_cases h : KN key nonce
  · rw [SR1 h (aead_fit _ (show p.length ≤ 100000000000 by omega)), SR1L h (aead_fit _ (show p.length ≤ 100000000000 by omega)), STR_len, show ((1 : Nat) : Int) = 1 from rfl] at S
    rw [show BLe key nonce = 0 from if_pos h, show SLt key nonce ad p = ASL key nonce ad p from if_pos h, ASL_len]
    obtain ⟨C, hC⟩ : ∃ C, C = STR key 1 nonce p := ⟨_, rfl⟩
    rw [← hC] at S
    have C8 : U8 C := by rw [hC]; exact STR_u8 _ _ _ _ p8
    have hCl : C.length = p.length := by rw [hC, STR_len]
    have HS : Hid (ASL key nonce ad p = C ++ ATG key nonce ad C) := by rw [hC]; exact rfl
    have T := hideIt (fun (vc : Value) (W : World) (o : Only (fun _ => False) w W) (bc : Bs .u8 W vc C) (nc : NoCap vc) => rtag_own vk vn va vc key nonce ad C h k8 n8 a8 C8 la (by omega) W (bk.past o) (bn.past o) (ba.past o) na bc nc)
    obtain ⟨n, hn⟩ : ∃ n, n = p.length := ⟨_, rfl⟩
    rw [← hn] at S hCl lp ⊢
    have HCL := hideIt hCl
    clear bk bn ba na bp k8 n8 a8 p8 h la hC hn C8 hCl
    go_enter Try.func11, Try.ntmps11
    go_wp2_with fail
    refine S.out.mono ?_
    rintro e w1 ⟨v1, rfl, own1, o1⟩
    have W1 := hideIt own1
    have O1 := hideIt o1
    have b1 : Bs .u8 w1 v1 C := Bs.of_own (k := .u8) (E := 5) (lo := w.heap.size) (by rw [HCL.out]; exact own1)
    have T2 := hideIt (T.out v1 w1 o1 b1 (NoCap.of_own own1))
    clear own1 o1 b1 T S
    go_wp2_with fail
    refine T2.out.mono ?_
    rintro e w2 ⟨v2, rfl, own2, o2⟩
    have W2 : Hid (w2.ownsRow w.heap.size 5 1 v1 n (bl C)) := o2.own W1.out (fun _ _ f => f)
    have B2 : Hid (Bs .u8 w2 v2 (ATG key nonce ad C) ∧ NoCap v2) := ⟨Bs.of_own (k := .u8) (E := 5) (lo := w1.heap.size) (by rw [ATG_len]; exact own2), NoCap.of_own own2⟩
    have O2 := hideIt (O1.out.same o2)
    have hle := O2.out.size
    clear own2 o2 T2 W1 O1
    go_wp2_with (at_builtin; refine wpList_append_bs _ rfl _ _ 22 rfl w.heap.size 5 i0 (.int .u8 0) 1 Try.underlying22 hi hz0 hz1 hz2 rfl v1 n (bl C) rfl W2.out .u8 v2 (ATG key nonce ad C) rfl B2.out.1 B2.out.2 (by rw [ATG_len]; unfold maxLen; omega) (by rw [ATG_len]; omega) hle ?_; intro v5 w5 hown5 hgrow5 hnil5 hob5)
    have F1 : Hid (w5.ownsRow w.heap.size 5 1 v5 (n + 16) (bl (ASL key nonce ad p)) ∧ Only (fun _ => False) w w5) := by
      refine ⟨?_, O2.out.grown hgrow5 (fun j hj e => by have := (W2.out.lt j e).1; omega)⟩
      have h5 := hown5
      rw [ATG_len] at h5
      rw [HS.out, bl_app]
      exact h5
    clear hown5 hgrow5 hnil5 hob5 W2 B2 O2
    go_wp2
    go_ret2
    exact ⟨_, rfl, F1.out⟩
  · rw [show SRe key 1 nonce p.length = 1 from if_neg h, show ((1 : Nat) : Int) = 1 from rfl] at S
    rw [show BLe key nonce = 1 from if_neg h, show SLt key nonce ad p = [] from if_neg h]
    clear bk bn ba na bp k8 n8 a8 p8 h la
    go_enter Try.func11, Try.ntmps11
    go_wp2_with fail
    refine S.out.mono ?_
    rintro e w1 ⟨v1, rfl, own1, o1⟩
    have O1 := hideIt o1
    clear own1 o1 S
    go_wp2
    go_ret2
    exact ⟨_, rfl, World.ownsRow_nil .., O1.out⟩
end Go.Proofs.Ytjiippbjflpkkaa
