/- Open. -/
import Derived.Test.YtjiippbjflpkkaaTk17
import Derived.Test.YtjiippbjflpkkaaHsa
namespace Go.Proofs.Ytjiippbjflpkkaa
open Go.RowKit

/-- the answers: bytes and what went wrong -/
def OPt (key nonce ad s : List Int) : List Int := if KN key nonce then (if 16 ≤ s.length then (if AOK key nonce ad s then AOP key nonce s else []) else []) else []
def OPe (key nonce ad s : List Int) : Int := if KN key nonce then (if 16 ≤ s.length then (if AOK key nonce ad s then 0 else 5) else 2) else 1
theorem seal_any (vk vn va vp : Value) (key nonce ad p : List Int) (k8 : U8 key) (n8 : U8 nonce) (a8 : U8 ad) (p8 : U8 p) (la : ad.length ≤ 100000000000) (lp : p.length ≤ 100000000000) (w : World) (bk : Bs .u8 w vk key) (bn : Bs .u8 w vn nonce) (ba : Bs .u8 w va ad) (na : NoCap va) (bp : Bs .u8 w vp p) :
    Calls Try.prog 10 #[vk, vn, va, vp] w fun e w' => ∃ v, e = .returned (.tuple #[v, .int .i64 (BLe key nonce)]) ∧ w'.ownsRow w.heap.size 5 1 v (SLt key nonce ad p).length (bl (SLt key nonce ad p)) ∧ Only (fun _ => False) w w' := by
  by_cases h : KN key nonce
  · rw [show BLe key nonce = 0 from if_pos h, show SLt key nonce ad p = ASL key nonce ad p from if_pos h, ASL_len]
    exact seal_ok vk vn va vp key nonce ad p h k8 n8 a8 p8 la lp w bk bn ba na bp
  · rw [show BLe key nonce = 1 from if_neg h, show SLt key nonce ad p = [] from if_neg h]
    exact (seal_no vk vn va vp key nonce h k8 n8 w bk bn).mono (fun _ _ ⟨h1, h2⟩ => ⟨_, h1, World.ownsRow_nil .., h2⟩)
set_option maxHeartbeats 400000 in
set_option maxRecDepth 100000 in
theorem open_no (vk vn va vs : Value) (key nonce : List Int) (h : ¬ KN key nonce) (k8 : U8 key) (n8 : U8 nonce) (w : World) (bk : Bs .u8 w vk key) (bn : Bs .u8 w vn nonce) :
    Calls Try.prog 13 #[vk, vn, va, vs] w fun e w' => e = .returned (.tuple #[.slice none 0 0, .int .i64 1]) ∧ Only (fun _ => False) w w' := by
  have T := hideIt (tagKey_no vk vn key nonce h k8 n8 w bk bn)
  clear bk bn k8 n8 h
  go_enter Try.func13, Try.ntmps13
  go_wp2_with fail
  refine T.out.mono ?_
  rintro e w1 ⟨rfl, o1⟩
  have F1 := hideIt o1
  clear o1 T
  go_wp2
  go_ret2
  exact ⟨rfl, F1.out⟩
set_option maxHeartbeats 400000 in
set_option maxRecDepth 100000 in
theorem open_short (vk vn va : Value) (so : Option Addr) (n sc : Nat) (hn : n < 16) (key nonce : List Int) (h : KN key nonce) (k8 : U8 key) (n8 : U8 nonce) (w : World) (bk : Bs .u8 w vk key) (bn : Bs .u8 w vn nonce) :
    Calls Try.prog 13 #[vk, vn, va, .slice so n sc] w fun e w' => e = .returned (.tuple #[.slice none 0 0, .int .i64 2]) ∧ Only (fun _ => False) w w' := by
  have T := hideIt (tagKey_ok vk vn key nonce h k8 n8 w bk bn)
  have h1 : (n : Int) - 16 < 0 := by omega
  clear bk bn k8 n8 h
  go_enter Try.func13, Try.ntmps13
  go_wp2_with fail
  refine T.out.mono ?_
  rintro e w1 ⟨v1, rfl, b1, nc1, o1⟩
  have F1 := hideIt o1
  clear o1 T b1 nc1
  go_wp2
  go_ret2
  exact ⟨rfl, F1.out⟩
set_option maxHeartbeats 1600000 in
set_option maxRecDepth 100000 in
theorem open_long (vk vn va vs : Value) (key nonce ad s : List Int) (h : KN key nonce) (h16 : 16 ≤ s.length) (k8 : U8 key) (n8 : U8 nonce) (a8 : U8 ad) (s8 : U8 s) (la : ad.length ≤ 100000000000) (ls : s.length ≤ 100000000000) (w : World) (bk : Bs .u8 w vk key) (bn : Bs .u8 w vn nonce) (ba : Bs .u8 w va ad) (na : NoCap va) (bs : Bs .u8 w vs s) (ns : NoCap vs) :
    Calls Try.prog 13 #[vk, vn, va, vs] w fun e w' => ∃ v, e = .returned (.tuple #[v, .int .i64 (if AOK key nonce ad s then 0 else 5)]) ∧ w'.ownsRow w.heap.size 5 1 v (if AOK key nonce ad s then AOP key nonce s else []).length (bl (if AOK key nonce ad s then AOP key nonce s else [])) ∧ Only (fun _ => False) w w' := by
  have T := hideIt (tagKey_ok vk vn key nonce h k8 n8 w bk bn)
  obtain ⟨q, hq⟩ : ∃ q, q = s.length - 16 := ⟨_, rfl⟩
  obtain ⟨C, hC⟩ : ∃ C, C = s.take q := ⟨_, rfl⟩
  obtain ⟨R, hR⟩ : ∃ R, R = s.drop q := ⟨_, rfl⟩
  have hCl : C.length = q := by rw [hC, List.length_take]; omega
  have hRl : R.length = 16 := by rw [hR, List.length_drop]; omega
  have C8 : U8 C := by rw [hC]; exact s8.take _
  have R8 : U8 R := by rw [hR]; exact s8.drop _
  have HOK : Hid (AOK key nonce ad s ↔ ATG key nonce ad C = R) := by
    show _ ↔ _
    unfold AOK
    rw [← hq, ← hC, ← hR]
  have HOP : Hid (AOP key nonce s = STR key 1 nonce C) := by
    show _ = _
    unfold AOP
    rw [← hq, ← hC]
  obtain ⟨E, hE⟩ : ∃ E : Int, E = if AOK key nonce ad s then 0 else 5 := ⟨_, rfl⟩
  obtain ⟨L, hL⟩ : ∃ L : List Int, L = if AOK key nonce ad s then AOP key nonce s else [] := ⟨_, rfl⟩
  rw [← hE, ← hL]
  have HE := hideIt hE
  have HL := hideIt hL
  clear hE hL
  obtain ⟨so, n, sc, hv, hsc⟩ : ∃ so n sc, vs = .slice so n sc ∧ n = s.length := by
    obtain ⟨so, sc, e⟩ := bs.len
    exact ⟨so, s.length, sc, e, rfl⟩
  subst hv
  obtain ⟨g, off, rfl⟩ : ∃ g off, so = some ⟨g, off, none⟩ := by
    obtain ⟨g, off, c, e, _⟩ := bs.at 0 (by omega)
    simp at e
    exact ⟨g, off, e.1⟩
  have hcap : n ≤ sc := bs.room
  have bC : Bs .u8 w (.slice (some ⟨g, off, none⟩) q sc) C := by rw [hC]; exact bs.head (by omega)
  have bR : Bs .u8 w (.slice (some ⟨g, off + q, none⟩) 16 (sc - q)) R := by
    have := bs.cut (n := q) (by omega)
    rw [← hR, show n - q = 16 by omega] at this
    simpa [Addr.add_lit] using this
  have S := hideIt (fun (W : World) (o : Only (fun _ => False) w W) => stream_own vk vn _ key nonce C 1 (by decide) k8 n8 C8 (by omega) W (bk.past o) (bn.past o) (bC.past o))
  simp only [SR1 h (aead_fit _ (show C.length ≤ 100000000000 by omega)), SR1L h (aead_fit _ (show C.length ≤ 100000000000 by omega)), show ((1 : Nat) : Int) = 1 from rfl] at S
  have HA := hideIt (And.intro ba (And.intro na (And.intro a8 la)))
  have HC := hideIt (And.intro bC (And.intro hCl C8))
  have HR := hideIt (And.intro bR R8)
  obtain ⟨ao, ac, rfl⟩ := ba.len
  have hsub : (n : Int) - 16 = (q : Int) := by omega
  have c1 : (q : Int) ≤ (sc : Int) := by omega
  have c2 : (q : Int) ≤ (n : Int) := by omega
  have c0 : (0 : Int) ≤ (q : Int) := by omega
  have c3 : ¬ sc = q := by omega
  have hnq : n - q = 16 := by omega
  have hql : q ≤ 100000000000 := by omega
  clear bk bn ba na bs ns k8 n8 a8 s8 h la hC hR hq hsc h16 hCl hRl C8 R8 bC bR ls hcap
  go_enter Try.func13, Try.ntmps13
  go_wp2_with fail
  refine T.out.mono ?_
  rintro e w1 ⟨v1, rfl, b1, nc1, o1⟩
  have B1 := hideIt b1
  have O1 := hideIt o1
  have oa := (Only.refl (fun _ => False) w1).alloc (.cells #[.slice ao ad.length ac, .slice (some ⟨g, off, none⟩) q sc] 22)
  have M2 := hideIt (tagged_two w1.heap.size _ _ ad C _ (Blk.new w1 22 [.slice ao ad.length ac, .slice (some ⟨g, off, none⟩) q sc]) (HA.out.1.past (o1.same oa)) HA.out.2.1 HA.out.2.2.2 (HC.out.1.past (o1.same oa)) (NoCap.some _ _ _) (by rw [HC.out.2.1]; exact hql))
  obtain ⟨m, hm⟩ : ∃ m, m = ad.length := ⟨_, rfl⟩
  rw [← hm] at M2 oa ⊢
  have OA := hideIt oa
  clear b1 nc1 o1 T oa hm
  go_wp2_with fail
  refine M2.out.mono ?_
  rintro e w3 ⟨v3, rfl, own3, o3⟩
  have O3 := hideIt (O1.out.same (OA.out.same o3))
  have P := hideIt (mac_ok v1 v3 (AKY key nonce) (ATX ad C) (AKY_len _ _) (AKY_u8 _ _) (ATX_u8 ad C HA.out.2.2.1 HC.out.2.2) (by
    have h1 := ATX_len ad C
    have h2 := HA.out.2.2.2
    have h3 := HC.out.2.1
    omega) w3 (B1.out.past (OA.out.same o3)) (Bs.of_own (k := .u8) (E := 5) own3))
  clear own3 o3 M2 OA B1 O1
  go_wp2_with fail
  refine P.out.mono ?_
  rintro e w4 ⟨v4, rfl, own4, o4⟩
  have O4 := hideIt (O3.out.same o4)
  have H := hideIt (hsame_any v4 (.slice (some ⟨g, off + q, none⟩) 16 (sc - q)) (ATG key nonce ad C) R w4 (Bs.of_own (k := .u8) (E := 5) (lo := w3.heap.size) (by rw [ATG_len]; exact own4)) (HR.out.1.past O4.out) (ATG_u8 _ _ _ _) HR.out.2 (by rw [ATG_len]; decide))
  clear own4 o4 P O3
  by_cases hok : AOK key nonce ad s
  · rw [decide_eq_true (HOK.out.1 hok)] at H
    have hE := HE.out
    have hL := HL.out
    rw [if_pos hok] at hE hL
    rw [HOP.out] at hL
    subst hE
    subst hL
    clear hok HE HL HOK HOP
    go_wp2_with fail
    refine H.out.mono ?_
    rintro e w5 ⟨rfl, o5⟩
    have O5 := hideIt (O4.out.same o5)
    have Z := hideIt O5.out.size
    clear o5 H O4
    go_wp2_with fail
    refine (S.out w5 O5.out).mono ?_
    rintro e w6 ⟨v6, rfl, own6, o6⟩
    have F1 : Hid (w6.ownsRow w.heap.size 5 1 v6 (STR key 1 nonce C).length (bl (STR key 1 nonce C)) ∧ Only (fun _ => False) w w6) := ⟨own_low own6 Z.out, O5.out.same o6⟩
    clear own6 o6 S
    go_wp2
    go_ret2
    exact ⟨_, rfl, F1.out⟩
  · rw [decide_eq_false (fun e => hok (HOK.out.2 e))] at H
    have hE := HE.out
    have hL := HL.out
    rw [if_neg hok] at hE hL
    subst hE
    subst hL
    clear hok HE HL HOK HOP
    go_wp2_with fail
    refine H.out.mono ?_
    rintro e w5 ⟨rfl, o5⟩
    have O5 := hideIt (O4.out.same o5)
    clear o5 H O4 S
    go_wp2
    go_ret2
    exact ⟨_, rfl, World.ownsRow_nil .., O5.out⟩
theorem open_any (vk vn va vs : Value) (key nonce ad s : List Int) (k8 : U8 key) (n8 : U8 nonce) (a8 : U8 ad) (s8 : U8 s) (la : ad.length ≤ 100000000000) (ls : s.length ≤ 100000000000) (w : World) (bk : Bs .u8 w vk key) (bn : Bs .u8 w vn nonce) (ba : Bs .u8 w va ad) (na : NoCap va) (bs : Bs .u8 w vs s) (ns : NoCap vs) :
    Calls Try.prog 13 #[vk, vn, va, vs] w fun e w' => ∃ v, e = .returned (.tuple #[v, .int .i64 (OPe key nonce ad s)]) ∧ w'.ownsRow w.heap.size 5 1 v (OPt key nonce ad s).length (bl (OPt key nonce ad s)) ∧ Only (fun _ => False) w w' := by
  by_cases h : KN key nonce
  · by_cases h16 : 16 ≤ s.length
    · have e1 : OPe key nonce ad s = if AOK key nonce ad s then 0 else 5 := by unfold OPe; rw [if_pos h, if_pos h16]
      have e2 : OPt key nonce ad s = if AOK key nonce ad s then AOP key nonce s else [] := by unfold OPt; rw [if_pos h, if_pos h16]
      rw [e1, e2]
      exact open_long vk vn va vs key nonce ad s h h16 k8 n8 a8 s8 la ls w bk bn ba na bs ns
    · have e1 : OPe key nonce ad s = 2 := by unfold OPe; rw [if_pos h, if_neg h16]
      have e2 : OPt key nonce ad s = [] := by unfold OPt; rw [if_pos h, if_neg h16]
      rw [e1, e2]
      obtain ⟨so, sc, rfl⟩ := bs.len
      exact (open_short vk vn va so s.length sc (by omega) key nonce h k8 n8 w bk bn).mono (fun _ _ ⟨h1, h2⟩ => ⟨_, h1, World.ownsRow_nil .., h2⟩)
  · rw [show OPe key nonce ad s = 1 from if_neg h, show OPt key nonce ad s = [] from if_neg h]
    exact (open_no vk vn va vs key nonce h k8 n8 w bk bn).mono (fun _ _ ⟨h1, h2⟩ => ⟨_, h1, World.ownsRow_nil .., h2⟩)
end Go.Proofs.Ytjiippbjflpkkaa
