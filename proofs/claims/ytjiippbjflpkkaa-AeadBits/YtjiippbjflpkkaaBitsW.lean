/- What differs, bit by bit: the walk. -/
import Derived.Test.YtjiippbjflpkkaaAw17
namespace Go.Proofs.Ytjiippbjflpkkaa
open Go.RowKit

theorem ASL_xor (key nonce ad a b : List Int) (i : Nat) (h1 : i < a.length) (h2 : i < b.length) :
    (((ASL key nonce ad a).getD i 0).toNat ^^^ ((ASL key nonce ad b).getD i 0).toNat) = ((a.getD i 0).toNat ^^^ (b.getD i 0).toNat) := by
  rw [ASL_at _ _ _ _ i h1, ASL_at _ _ _ _ i h2, STR_xor key 1 nonce a b i h1 h2]
set_option maxHeartbeats 1600000 in
set_option maxRecDepth 100000 in
theorem bits_walk (vk vn va vb vo : Value) (key nonce ad xb xo : List Int) (k8 : U8 key) (n8 : U8 nonce) (a8 : U8 ad) (b8 : U8 xb) (o8 : U8 xo) (w : World) (bk : Bs .u8 w vk key) (bn : Bs .u8 w vn nonce) (ba : Bs .u8 w va ad) (na : NoCap va) (bb : Bs .u8 w vb xb) (bo : Bs .u8 w vo xo) :
    Calls Try.prog 8 #[vk, vn, va, vb, vo] w fun e w' => e = .returned (.bool true) ∧ Below w.heap.size w w' := by
  have A := hideIt (awake_any w)
  obtain ⟨m, hm⟩ : ∃ n, ad.length = n := ⟨_, rfl⟩
  obtain ⟨nb, hnb⟩ : ∃ n, xb.length = n := ⟨_, rfl⟩
  obtain ⟨no, hno⟩ : ∃ n, xo.length = n := ⟨_, rfl⟩
  obtain ⟨aoa, capa, rfl, _⟩ := ba.formN hm
  obtain ⟨aob, capb, rfl, _⟩ := bb.formN hnb
  obtain ⟨aoo, capo, rfl, _⟩ := bo.formN hno
  by_cases hla : 300 < m
  · have d1 : decide ((300 : Int) < (m : Int)) = true := decide_eq_true (by omega)
    clear bk bn ba na bb bo k8 n8 a8 b8 o8 hm hnb hno
    go_enter Try.func8, Try.ntmps8
    go_wp2_with fail
    refine A.out.mono ?_
    rintro e w1 ⟨rfl, o1⟩
    have O1 := hideIt o1
    clear o1 A
    go_wp2
    go_ret
    exact ⟨rfl, O1.out.low (Nat.le_refl _)⟩
  have d1 : decide ((300 : Int) < (m : Int)) = false := decide_eq_false (by omega)
  by_cases hlb : 600 < nb
  · have d2 : decide ((600 : Int) < (nb : Int)) = true := decide_eq_true (by omega)
    clear bk bn ba na bb bo k8 n8 a8 b8 o8 hm hnb hno
    go_enter Try.func8, Try.ntmps8
    go_wp2_with fail
    refine A.out.mono ?_
    rintro e w1 ⟨rfl, o1⟩
    have O1 := hideIt o1
    clear o1 A
    go_wp2
    go_ret
    exact ⟨rfl, O1.out.low (Nat.le_refl _)⟩
  have d2 : decide ((600 : Int) < (nb : Int)) = false := decide_eq_false (by omega)
  by_cases hlo : 600 < no
  · have d3 : decide ((600 : Int) < (no : Int)) = true := decide_eq_true (by omega)
    clear bk bn ba na bb bo k8 n8 a8 b8 o8 hm hnb hno
    go_enter Try.func8, Try.ntmps8
    go_wp2_with fail
    refine A.out.mono ?_
    rintro e w1 ⟨rfl, o1⟩
    have O1 := hideIt o1
    clear o1 A
    go_wp2
    go_ret
    exact ⟨rfl, O1.out.low (Nat.le_refl _)⟩
  have d3 : decide ((600 : Int) < (no : Int)) = false := decide_eq_false (by omega)
  have HB := hideIt (And.intro bb bo)
  have HU := hideIt (And.intro b8 o8)
  have HN := hideIt (And.intro hnb hno)
  have hb1 : nb ≤ 600 := by omega
  have hb2 : no ≤ 600 := by omega
  by_cases h : KN key nonce
  · have P1 := hideIt (fun (W : World) (o : Only (fun _ => False) w W) => seal_ok vk vn _ _ key nonce ad xb h k8 n8 a8 b8 (by omega) (by omega) W (bk.past o) (bn.past o) (ba.past o) na (bb.past o))
    have P2 := hideIt (fun (W : World) (o : Only (fun _ => False) w W) => seal_ok vk vn _ _ key nonce ad xo h k8 n8 a8 o8 (by omega) (by omega) W (bk.past o) (bn.past o) (ba.past o) na (bo.past o))
    have HX := hideIt (ASL_xor key nonce ad xb xo)
    have HS : Hid ((ASL key nonce ad xb).length = nb + 16 ∧ (ASL key nonce ad xo).length = no + 16 ∧ U8 (ASL key nonce ad xb) ∧ U8 (ASL key nonce ad xo)) := ⟨by rw [ASL_len, hnb], by rw [ASL_len, hno], ASL_u8 _ _ _ _ b8, ASL_u8 _ _ _ _ o8⟩
    obtain ⟨X, hX⟩ : ∃ X, X = ASL key nonce ad xb := ⟨_, rfl⟩
    obtain ⟨Y, hY⟩ : ∃ Y, Y = ASL key nonce ad xo := ⟨_, rfl⟩
    rw [← hX] at P1 HX HS
    rw [← hY] at P2 HX HS
    rw [hnb] at P1
    rw [hno] at P2
    obtain ⟨qb, hqb⟩ : ∃ q, q = nb + 16 := ⟨_, rfl⟩
    obtain ⟨qo, hqo⟩ : ∃ q, q = no + 16 := ⟨_, rfl⟩
    rw [← hqb] at P1 HS
    rw [← hqo] at P2 HS
    have e1 : (nb : Int) + 16 = (qb : Int) := by omega
    have e2 : (no : Int) + 16 = (qo : Int) := by omega
    have e3 : ((qb : Int) != (qb : Int)) = false := by simp
    have e4 : ((qo : Int) != (qo : Int)) = false := by simp
    have j1 : (nb : Int) ≤ (qb : Int) := by omega
    have j2 : (no : Int) ≤ (qo : Int) := by omega
    clear bk bn ba na bb bo k8 n8 a8 b8 o8 hm hnb hno hX hY h hqb hqo hla hlb hlo
    go_enter Try.func8, Try.ntmps8
    go_wp2_with fail
    refine A.out.mono ?_
    rintro e w0 ⟨rfl, o0⟩
    have O0 := hideIt o0
    clear o0 A
    go_wp2_with fail
    refine (P1.out w0 O0.out).mono ?_
    rintro e w1 ⟨v1, rfl, own1, o1⟩
    obtain ⟨ao1, cap1, rfl⟩ := own_form own1
    have B1 : Hid (Bs .u8 w1 (.slice ao1 qb cap1) X) := Bs.of_own (k := .u8) (E := 5) (lo := w0.heap.size) (by rw [HS.out.1]; exact own1)
    have O1 := hideIt (O0.out.same o1)
    clear own1 o1 P1 O0
    go_wp2_with fail
    refine (P2.out w1 O1.out).mono ?_
    rintro e w4 ⟨v4, rfl, own4, o4⟩
    obtain ⟨ao4, cap4, rfl⟩ := own_form own4
    have O4 := hideIt (O1.out.same o4)
    have K4 : Hid (Bs .u8 w4 (.slice ao1 qb cap1) X ∧ Bs .u8 w4 (.slice ao4 qo cap4) Y ∧ Bs .u8 w4 (.slice aob nb capb) xb ∧ Bs .u8 w4 (.slice aoo no capo) xo) := ⟨B1.out.past o4, Bs.of_own (k := .u8) (E := 5) (lo := w1.heap.size) (by rw [HS.out.2.1]; exact own4), HB.out.1.past O4.out, HB.out.2.past O4.out⟩
    clear own4 o4 P2 B1 O1
    go_wp2
    go_loopw [16] (fun i wr => ∃ k : Nat, k ≤ nb ∧ i = .int .i64 k ∧ Only (fun _ => False) w4 wr) (fun i _ => nb - (intOf i).toNat)
    case atStart => exact ⟨0, by omega, rfl, Only.refl _ _⟩
    case round =>
      obtain ⟨i, hi, rfl, hon⟩ := hrel
      by_cases hgo : i < nb ∧ i < no
      · obtain ⟨g1, g2⟩ := hgo
        have e5 := HX.out i (by rw [HN.out.1]; exact g1) (by rw [HN.out.2]; exact g2)
        obtain ⟨pa, oa, ca, fa, ya⟩ := (K4.out.1.past hon).at i (by rw [HS.out.1]; omega)
        obtain ⟨pc, oc, cc, fc, yc⟩ := (K4.out.2.1.past hon).at i (by rw [HS.out.2.1]; omega)
        obtain ⟨pb, ob, cb, fb, yb⟩ := (K4.out.2.2.1.past hon).at i (by rw [HN.out.1]; exact g1)
        obtain ⟨po, oo, co, fo, yo⟩ := (K4.out.2.2.2.past hon).at i (by rw [HN.out.2]; exact g2)
        obtain rfl : ao1 = some ⟨pa, oa, none⟩ := by simp at fa; exact fa.1
        obtain rfl : ao4 = some ⟨pc, oc, none⟩ := by simp at fc; exact fc.1
        obtain rfl : aob = some ⟨pb, ob, none⟩ := by simp at fb; exact fb.1
        obtain rfl : aoo = some ⟨po, oo, none⟩ := by simp at fo; exact fo.1
        have x1 := xor_u8 _ _ (HS.out.2.2.1.at i) (HS.out.2.2.2.at i)
        have x2 := xor_u8 _ _ (HU.out.1.at i) (HU.out.2.at i)
        rw [e5] at x1
        obtain ⟨x, hx⟩ : ∃ x, x = (((xb.getD i 0).toNat ^^^ (xo.getD i 0).toNat : Nat) : Int) := ⟨_, rfl⟩
        rw [← hx] at x1 x2
        obtain ⟨za, hza⟩ : ∃ z, z = X.getD i 0 := ⟨_, rfl⟩
        obtain ⟨zc, hzc⟩ : ∃ z, z = Y.getD i 0 := ⟨_, rfl⟩
        obtain ⟨zb, hzb⟩ : ∃ z, z = xb.getD i 0 := ⟨_, rfl⟩
        obtain ⟨zo, hzo⟩ : ∃ z, z = xo.getD i 0 := ⟨_, rfl⟩
        rw [← hza] at ya x1
        rw [← hzc] at yc x1
        rw [← hzb] at yb x2
        rw [← hzo] at yo x2
        have HON := hideIt hon
        have i1 : (i : Int) < (nb : Int) := by omega
        have i2 : (i : Int) < (no : Int) := by omega
        have i3 : (i : Int) < (qb : Int) := by omega
        have i4 : (i : Int) < (qo : Int) := by omega
        have i0 : (0 : Int) ≤ (i : Int) := by omega
        have xx : (x != x) = false := by simp
        clear hza hzc hzb hzo hx e5 fa fc fb fo hon g1 g2
        go_wp2
        go_quiet (fail)
        have NX : Hid (∀ m, Only (fun _ => False) w4 (wr.drewN m)) := fun m => HON.out.drewN m
        clear HON ya yc yb yo
        go_wp2
        go_roundw
        case rel => exact ⟨i + 1, by omega, by go_num, NX.out _⟩
        case measure => simp [intOf]; omega
      · have F1 := hideIt (O4.out.same hon)
        by_cases g1 : i < nb
        · have i1 : (i : Int) < (nb : Int) := by omega
          have i2 : ¬ (i : Int) < (no : Int) := by omega
          clear hgo hon
          go_wp2
          go_ret
          exact ⟨rfl, F1.out.low (Nat.le_refl _)⟩
        · have i1 : ¬ (i : Int) < (nb : Int) := by omega
          clear hgo hon
          go_wp2
          go_ret
          exact ⟨rfl, F1.out.low (Nat.le_refl _)⟩
  · have P := hideIt (fun (W : World) (o : Only (fun _ => False) w W) (va vp : Value) => seal_no vk vn va vp key nonce h k8 n8 W (bk.past o) (bn.past o))
    clear bk bn ba na bb bo k8 n8 a8 b8 o8 hm hnb hno h hla hlb hlo HB HU HN
    go_enter Try.func8, Try.ntmps8
    go_wp2_with fail
    refine A.out.mono ?_
    rintro e w0 ⟨rfl, o0⟩
    have O0 := hideIt o0
    clear o0 A
    go_wp2_with fail
    refine (P.out w0 O0.out _ _).mono ?_
    rintro e w1 ⟨rfl, o1⟩
    have O1 := hideIt (O0.out.same o1)
    clear o1 O0
    go_wp2_with fail
    refine (P.out w1 O1.out _ _).mono ?_
    rintro e w2 ⟨rfl, o2⟩
    have O2 := hideIt (O1.out.same o2)
    clear o2 O1 P
    go_wp2
    go_ret
    exact ⟨rfl, O2.out.low (Nat.le_refl _)⟩
end Go.Proofs.Ytjiippbjflpkkaa
