/- The document's own answer: Open. -/
import Derived.Test.YtjiippbjflpkkaaRt17
import Derived.Test.YtjiippbjflpkkaaOp17
import Derived.Test.YtjiippbjflpkkaaSame2
import Derived.Deep.RegionHeld3
namespace Go.Proofs.Ytjiippbjflpkkaa
open Go.RowKit

set_option maxHeartbeats 400000 in
set_option maxRecDepth 100000 in
theorem ropen_no (ko no : Option Addr) (kl kc nl nc : Nat) (va vs : Value) (h : ¬ (kl = 32 ∧ nl = 12)) (w : World) :
    Calls Try.prog 14 #[.slice ko kl kc, .slice no nl nc, va, vs] w fun e w' => e = .returned (.tuple #[.slice none 0 0, .int .i64 1]) ∧ Only (fun _ => False) w w' := by
  by_cases h1 : kl = 32
  · have h2 : ((nl : Int) != 12) = true := by simp; omega
    have h3 : ((kl : Int) != 32) = false := by simp; omega
    subst h1
    clear h
    go_enter Try.func14, Try.ntmps14
    go_wp2
    go_ret2
    exact ⟨rfl, Only.refl _ _⟩
  · have h3 : ((kl : Int) != 32) = true := by simp; omega
    clear h
    go_enter Try.func14, Try.ntmps14
    go_wp2
    go_ret2
    exact ⟨rfl, Only.refl _ _⟩
set_option maxHeartbeats 400000 in
set_option maxRecDepth 100000 in
theorem ropen_short (ko no so : Option Addr) (kc nc n sc : Nat) (va : Value) (hn : n < 16) (w : World) :
    Calls Try.prog 14 #[.slice ko 32 kc, .slice no 12 nc, va, .slice so n sc] w fun e w' => e = .returned (.tuple #[.slice none 0 0, .int .i64 2]) ∧ Only (fun _ => False) w w' := by
  have h1 : (n : Int) - 16 < 0 := by omega
  go_enter Try.func14, Try.ntmps14
  go_wp2
  go_ret2
  exact ⟨rfl, Only.refl _ _⟩
set_option maxHeartbeats 1600000 in
set_option maxRecDepth 100000 in
theorem ropen_long (vk vn va vs : Value) (key nonce ad s : List Int) (h : KN key nonce) (h16 : 16 ≤ s.length) (k8 : U8 key) (n8 : U8 nonce) (a8 : U8 ad) (s8 : U8 s) (la : ad.length ≤ 40000) (ls : s.length ≤ 40000) (w : World) (bk : Bs .u8 w vk key) (bn : Bs .u8 w vn nonce) (ba : Bs .u8 w va ad) (na : NoCap va) (bs : Bs .u8 w vs s) :
    Calls Try.prog 14 #[vk, vn, va, vs] w fun e w' => ∃ v, e = .returned (.tuple #[v, .int .i64 (if AOK key nonce ad s then 0 else 5)]) ∧ w'.ownsRow w.heap.size 5 1 v (if AOK key nonce ad s then AOP key nonce s else []).length (bl (if AOK key nonce ad s then AOP key nonce s else [])) ∧ Only (fun _ => False) w w' := by
  obtain ⟨q, hq⟩ : ∃ q, q = s.length - 16 := ⟨_, rfl⟩
  obtain ⟨C, hC⟩ : ∃ C, C = s.take q := ⟨_, rfl⟩
  obtain ⟨R, hR⟩ : ∃ R, R = s.drop q := ⟨_, rfl⟩
  have hCl : C.length = q := by rw [hC, List.length_take]; omega
  have hRl : R.length = 16 := by rw [hR, List.length_drop]; omega
  have C8 : U8 C := by rw [hC]; exact s8.take _
  have HOK : Hid (AOK key nonce ad s ↔ ATG key nonce ad C = R) := by
    show _ ↔ _
    unfold AOK
    rw [← hq, ← hC, ← hR]
  have HOP : Hid (AOP key nonce s = STR key 1 nonce C) := by
    show _ = _
    unfold AOP
    rw [← hq, ← hC]
  obtain ⟨E, hE⟩ : ∃ E : Int, E = if AOK key nonce ad s then 0 else 5 := ⟨_, rfl⟩
  obtain ⟨L, hL⟩ : ∃ L : List Int, L = if AOK key nonce ad s then AOP key nonce s else [] := ⟨_, rfl⟩
  rw [← hE, ← hL]
  have HE := hideIt hE
  have HL := hideIt hL
  clear hE hL
  obtain ⟨so, n, sc, hv, hsc⟩ : ∃ so n sc, vs = .slice so n sc ∧ n = s.length := by
    obtain ⟨so, sc, e⟩ := bs.len
    exact ⟨so, s.length, sc, e, rfl⟩
  subst hv
  obtain ⟨g, off, rfl⟩ : ∃ g off, so = some ⟨g, off, none⟩ := by
    obtain ⟨g, off, c, e, _⟩ := bs.at 0 (by omega)
    simp at e
    exact ⟨g, off, e.1⟩
  have hcap : n ≤ sc := bs.room
  have bC : Bs .u8 w (.slice (some ⟨g, off, none⟩) q sc) C := by rw [hC]; exact bs.head (by omega)
  have bR : Bs .u8 w (.slice (some ⟨g, off + q, none⟩) 16 (sc - q)) R := by
    have := bs.cut (n := q) (by omega)
    rw [← hR, show n - q = 16 by omega] at this
    simpa [Addr.add_lit] using this
  obtain ⟨ko, kc, rfl, _⟩ := bk.formN h.1
  obtain ⟨no, nc, rfl, _⟩ := bn.formN h.2
  have S := hideIt (fun (W : World) (o : Only (fun _ => False) w W) => rstream_own _ _ _ key nonce C 1 (by decide) k8 n8 C8 (by omega) W (bk.past o) (bn.past o) (bC.past o))
  simp only [SR1 h (aead_fit _ (show C.length ≤ 100000000000 by omega)), SR1L h (aead_fit _ (show C.length ≤ 100000000000 by omega)), show ((1 : Nat) : Int) = 1 from rfl] at S
  have T := hideIt (fun (W : World) (o : Only (fun _ => False) w W) => rtag_own _ _ va _ key nonce ad C h k8 n8 a8 C8 la (by omega) W (bk.past o) (bn.past o) (ba.past o) na (bC.past o) (NoCap.some _ _ _))
  have SM : Hid (∀ (v : Value) (lo : Nat) (W : World), Only (fun _ => False) w W → W.ownsRow lo 5 1 v 16 (bl (ATG key nonce ad C)) → Calls Try.prog 21 #[v, .slice (some ⟨g, off + q, none⟩) 16 (sc - q)] W fun e w' => e = .returned (.bool (decide (ATG key nonce ad C = R))) ∧ Only (fun _ => False) W w') := fun v lo W o own => same_any v _ (ATG key nonce ad C) R W (Bs.of_own (k := .u8) (E := 5) (lo := lo) (by rw [ATG_len]; exact own)) (bR.past o) (by rw [ATG_len]; decide)
  obtain ⟨D, hD⟩ : ∃ D, D = decide (ATG key nonce ad C = R) := ⟨_, rfl⟩
  rw [← hD] at SM
  have HD := hideIt hD
  obtain ⟨ao, ac, rfl⟩ := ba.len
  have hsub : (n : Int) - 16 = (q : Int) := by omega
  have c1 : (q : Int) ≤ (sc : Int) := by omega
  have c2 : (q : Int) ≤ (n : Int) := by omega
  have c0 : (0 : Int) ≤ (q : Int) := by omega
  have c3 : ¬ sc = q := by omega
  have hnq : n - q = 16 := by omega
  have wq : IntKind.i64.wrap (q : Int) = (q : Int) := by rw [IntKind.wrap_i64]; omega
  obtain ⟨m, hm⟩ : ∃ m, m = ad.length := ⟨_, rfl⟩
  rw [← hm] at T ⊢
  clear bk bn ba na bs k8 n8 a8 s8 h la hC hR hq hsc h16 hCl hRl C8 bC bR ls hcap hD hm
  go_enter Try.func14, Try.ntmps14
  go_wp2_with fail
  go_region_held3 (fun _ => True) (trivial) (first | (go_at_call 15; refine (T.out _ ((Only.refl _ _).drew)).mono ?_; rintro e w1 ⟨v1, rfl, own1, o1⟩; have O1 := hideIt (((Only.refl (fun _ => False) w).drew).same o1); have S1 := hideIt (SM.out v1 _ w1 O1.out own1); clear own1 o1) | (go_at_call 21; refine S1.out.mono ?_; rintro e w2 ⟨rfl, o2⟩; have O2 := hideIt (O1.out.same o2); clear o2))
  clear T SM S1
  by_cases hok : AOK key nonce ad s
  · have hd : D = true := by rw [HD.out]; exact decide_eq_true (HOK.out.1 hok)
    have hE := HE.out
    have hL := HL.out
    rw [if_pos hok] at hE hL
    rw [HOP.out] at hL
    subst hE
    subst hL
    subst hd
    have Z := hideIt O2.out.size
    clear hok HE HL HOK HOP HD
    go_wp2_with fail
    refine (S.out w2 O2.out).mono ?_
    rintro e w6 ⟨v6, rfl, own6, o6⟩
    have F1 : Hid (w6.ownsRow w.heap.size 5 1 v6 (STR key 1 nonce C).length (bl (STR key 1 nonce C)) ∧ Only (fun _ => False) w w6) := ⟨own_low own6 Z.out, O2.out.same o6⟩
    clear own6 o6 S
    go_wp2
    go_ret2
    exact ⟨_, rfl, F1.out⟩
  · have hd : D = false := by rw [HD.out]; exact decide_eq_false (fun e => hok (HOK.out.2 e))
    have hE := HE.out
    have hL := HL.out
    rw [if_neg hok] at hE hL
    subst hE
    subst hL
    subst hd
    clear hok HE HL HOK HOP HD S
    go_wp2
    go_ret2
    exact ⟨_, rfl, World.ownsRow_nil .., O2.out⟩
theorem ropen_any (vk vn va vs : Value) (key nonce ad s : List Int) (k8 : U8 key) (n8 : U8 nonce) (a8 : U8 ad) (s8 : U8 s) (la : ad.length ≤ 40000) (ls : s.length ≤ 40000) (w : World) (bk : Bs .u8 w vk key) (bn : Bs .u8 w vn nonce) (ba : Bs .u8 w va ad) (na : NoCap va) (bs : Bs .u8 w vs s) :
    Calls Try.prog 14 #[vk, vn, va, vs] w fun e w' => ∃ v, e = .returned (.tuple #[v, .int .i64 (OPe key nonce ad s)]) ∧ w'.ownsRow w.heap.size 5 1 v (OPt key nonce ad s).length (bl (OPt key nonce ad s)) ∧ Only (fun _ => False) w w' := by
  by_cases h : KN key nonce
  · by_cases h16 : 16 ≤ s.length
    · have e1 : OPe key nonce ad s = if AOK key nonce ad s then 0 else 5 := by unfold OPe; rw [if_pos h, if_pos h16]
      have e2 : OPt key nonce ad s = if AOK key nonce ad s then AOP key nonce s else [] := by unfold OPt; rw [if_pos h, if_pos h16]
      rw [e1, e2]
      exact ropen_long vk vn va vs key nonce ad s h h16 k8 n8 a8 s8 la ls w bk bn ba na bs
    · have e1 : OPe key nonce ad s = 2 := by unfold OPe; rw [if_pos h, if_neg h16]
      have e2 : OPt key nonce ad s = [] := by unfold OPt; rw [if_pos h, if_neg h16]
      rw [e1, e2]
      obtain ⟨so, sc, rfl⟩ := bs.len
      obtain ⟨ko, kc, rfl, _⟩ := bk.formN h.1
      obtain ⟨no, nc, rfl, _⟩ := bn.formN h.2
      exact (ropen_short ko no so kc nc s.length sc va (by omega) w).mono (fun _ _ ⟨h1, h2⟩ => ⟨_, h1, World.ownsRow_nil .., h2⟩)
  · rw [show OPe key nonce ad s = 1 from if_neg h, show OPt key nonce ad s = [] from if_neg h]
    obtain ⟨ko, kc, rfl⟩ := bk.len
    obtain ⟨no, nc, rfl⟩ := bn.len
    exact (ropen_no ko no key.length kc nonce.length nc va vs h w).mono (fun _ _ ⟨h1, h2⟩ => ⟨_, h1, World.ownsRow_nil .., h2⟩)
end Go.Proofs.Ytjiippbjflpkkaa
