/- ManifestSigns: the walk. -/
import Derived.Test.YtiolgenaefillaaGreatRsg21
import Derived.Test.YtiolgenaefillaaGreatDecodesW21
import Derived.Test.YtiolgenaefillaaGreatEncodesW21
namespace Go.Proofs.YtiolgenaefillaaGreat
open Go.RowKit

theorem MCv_small (k b : List Int) (h8 : U8 b) : (MCv k b).es.length ≤ 1048576 ∧ (MCv k b).prev.length ≤ 32 ∧ (MCv k b).root.length ≤ 32 := by
  unfold MCv
  split
  · split
    · exact ⟨Nat.zero_le _, Nat.zero_le _, Nat.zero_le _⟩
    · split
      · exact MDv_small _ (h8.take _)
      · exact ⟨Nat.zero_le _, Nat.zero_le _, Nat.zero_le _⟩
  · exact ⟨Nat.zero_le _, Nat.zero_le _, Nat.zero_le _⟩
theorem MSt_le (k : List Int) {m : MAN} (hk : Mok m) : (MSt k m).length ≤ 1000000032 := by
  unfold MSt
  split
  · next he =>
    have : MEr m = 0 := by
      unfold MSe at he
      split at he
      · exact he
      · simp at he
    have := MENC_le ((MEr_ok hk).1 this)
    rw [List.length_append, MACL_len]
    omega
  · simp
set_option maxHeartbeats 4000000 in
set_option maxRecDepth 100000 in
theorem signs_walk (vk x vp ve vr vb : Value) (k b : List Int) (m : MAN) (w : World) (hb : Bs .u8 w vk k) (nk : NoCap vk) (hk8 : U8 k) (h : Mf w x m vp ve vr) (hk : Mok m) (np : NoCap vp) (nr : NoCap vr) (hv : Bs .u8 w vb b) (hb8 : U8 b) :
    Calls Tryz.prog 5 #[vk, x, vb] w fun e w' => e = .returned (.bool true) ∧ Only (fun _ => False) w w' := by
  have hf := h.form
  obtain ⟨ap, pc, ep⟩ := h.prev.len
  obtain ⟨ae, ec, ee⟩ := h.es.len
  obtain ⟨ar, rc, er⟩ := h.root.len
  subst ep ee er hf
  obtain ⟨ak, kn, kc, ekk, hkn⟩ : ∃ ao n cap, vk = .slice ao n cap ∧ n = k.length := by
    obtain ⟨ao, cap, e⟩ := hb.len
    exact ⟨ao, k.length, cap, e, rfl⟩
  obtain ⟨ab, bn, bc, ebb, hbn⟩ : ∃ ao n cap, vb = .slice ao n cap ∧ n = b.length := by
    obtain ⟨ao, cap, e⟩ := hv.len
    exact ⟨ao, b.length, cap, e, rfl⟩
  subst ekk ebb
  have oa : Only (fun _ => False) w (w.alloc (.cells #[.int .u64 m.ver, .slice ap m.prev.length pc, .slice ae m.es.length ec, .slice ar m.root.length rc] 26)) := (Only.refl _ _).alloc _
  have K0 := hideIt (heap_alloc_new w (.cells #[.int .u64 m.ver, .slice ap m.prev.length pc, .slice ae m.es.length ec, .slice ar m.root.length rc] 26))
  have A := hideIt (awake_any (w.alloc (.cells #[.int .u64 m.ver, .slice ap m.prev.length pc, .slice ae m.es.length ec, .slice ar m.root.length rc] 26)))
  have OA := hideIt oa
  have FW := hideIt (fun W (o : Only (fun _ => False) w W) => few_any _ _ _ _ m W (h.past o))
  have dk : decide ((300 : Int) < (kn : Int)) = true ∨ decide ((300 : Int) < (kn : Int)) = false := by cases decide ((300 : Int) < (kn : Int)) <;> simp
  by_cases hok : FEWM m = true ∧ kn ≤ 300 ∧ bn ≤ 1000
  case neg =>
    have HC : Hid (FEWM m = false ∨ FEWM m = true ∧ 300 < kn ∨ FEWM m = true ∧ kn ≤ 300 ∧ 1000 < bn) := by
      simp only [Hid]
      cases hfew : FEWM m with
      | false => exact .inl rfl
      | true =>
        rw [hfew] at hok
        by_cases h1 : 300 < kn
        · exact .inr (.inl ⟨rfl, h1⟩)
        · exact .inr (.inr ⟨rfl, by omega, by by_cases h2 : bn ≤ 1000; exact absurd ⟨rfl, by omega, h2⟩ hok; omega⟩)
    generalize FEWM m = Q at *
    clear h hk np nr oa hb hv hk8 hb8 nk hok dk hkn hbn
    rcases HC.out with rfl | ⟨rfl, h1⟩ | ⟨rfl, h1, h2⟩
    · clear HC
      go_enter Tryz.func5, Tryz.ntmps5
      go_wp2_with fail
      refine A.out.mono ?_
      rintro e w1 ⟨rfl, o1⟩
      obtain ⟨k0, k1, k2, k3⟩ := box_cells (o1.heap K0.out (fun f => f))
      have O1 := hideIt (OA.out.same o1)
      clear A o1 K0 OA
      go_wp2_with fail
      refine (FW.out w1 O1.out).mono ?_
      rintro e w2 ⟨rfl, o2⟩
      have O2 := hideIt (O1.out.same o2)
      clear FW o2 O1 k0 k1 k2 k3
      go_wp2
      go_ret
      exact ⟨rfl, O2.out⟩
    · clear HC
      have d1 : decide ((300 : Int) < (kn : Int)) = true := by simp; omega
      have d2 : decide (300 < kn) = true := by simp; omega
      go_enter Tryz.func5, Tryz.ntmps5
      go_wp2_with fail
      refine A.out.mono ?_
      rintro e w1 ⟨rfl, o1⟩
      obtain ⟨k0, k1, k2, k3⟩ := box_cells (o1.heap K0.out (fun f => f))
      have O1 := hideIt (OA.out.same o1)
      clear A o1 K0 OA
      go_wp2_with fail
      refine (FW.out w1 O1.out).mono ?_
      rintro e w2 ⟨rfl, o2⟩
      have O2 := hideIt (O1.out.same o2)
      clear FW o2 O1 k0 k1 k2 k3
      go_wp2
      go_ret
      exact ⟨rfl, O2.out⟩
    · clear HC
      have d1 : decide ((300 : Int) < (kn : Int)) = false := by simp; omega
      have d2 : decide (300 < kn) = false := by simp; omega
      have d3 : decide ((1000 : Int) < (bn : Int)) = true := by simp; omega
      have d4 : decide (1000 < bn) = true := by simp; omega
      go_enter Tryz.func5, Tryz.ntmps5
      go_wp2_with fail
      refine A.out.mono ?_
      rintro e w1 ⟨rfl, o1⟩
      obtain ⟨k0, k1, k2, k3⟩ := box_cells (o1.heap K0.out (fun f => f))
      have O1 := hideIt (OA.out.same o1)
      clear A o1 K0 OA
      go_wp2_with fail
      refine (FW.out w1 O1.out).mono ?_
      rintro e w2 ⟨rfl, o2⟩
      have O2 := hideIt (O1.out.same o2)
      clear FW o2 O1 k0 k1 k2 k3
      go_wp2
      go_ret
      exact ⟨rfl, O2.out⟩
  case pos =>
    obtain ⟨hfew, h1, h2⟩ := hok
    rw [hfew] at FW
    obtain ⟨f1, f2, f3, f4⟩ := few_of hfew
    have d1 : decide ((300 : Int) < (kn : Int)) = false := by simp; omega
    have d2 : decide (300 < kn) = false := by simp; omega
    have d3 : decide ((1000 : Int) < (bn : Int)) = false := by simp; omega
    have d4 : decide (1000 < bn) = false := by simp; omega
    have E1 := hideIt (fun W (o : Only (fun _ => False) w W) => sign_any _ _ _ _ _ k m W (hb.past o) hk8 (h.past o) hk np nr (by omega))
    have E2 := hideIt (fun W (o : Only (fun _ => False) w W) => rsign21_any _ _ _ _ _ k m W (hb.past o) hk8 (h.past o) hk np nr f1 nk)
    have E3 := hideIt (fun W (o : Only (fun _ => False) w W) => check_any _ _ k b W (hb.past o) hk8 (hv.past o) hb8 (by omega))
    have E4 := hideIt (fun W (o : Only (fun _ => False) w W) => rcheck21_any _ _ k b W (hb.past o) nk hk8 (hv.past o) hb8 (by omega))
    have HL := hideIt (MSt_le k hk)
    have QQ := hideIt (MCv_small k b hb8)
    obtain ⟨L, hL⟩ : ∃ L, L = MSt k m := ⟨_, rfl⟩
    obtain ⟨c, hc⟩ : ∃ c, c = MSe k m := ⟨_, rfl⟩
    obtain ⟨M, hM⟩ : ∃ M, M = MCv k b := ⟨_, rfl⟩
    obtain ⟨d, hd⟩ : ∃ d, d = MCe k b := ⟨_, rfl⟩
    rw [← hL, ← hc] at E1 E2
    rw [← hM, ← hd] at E3 E4
    rw [← hL] at HL
    rw [← hM] at QQ
    have dc1 : (c == c) = true := by simp
    have dc2 : (d == d) = true := by simp
    clear h hk np nr oa f1 f2 f3 f4 hL hc hM hd hb hv hk8 hb8 nk h1 h2 dk hkn hbn hfew
    go_enter Tryz.func5, Tryz.ntmps5
    go_wp2_with fail
    refine A.out.mono ?_
    rintro e w1 ⟨rfl, o1⟩
    have K1 := hideIt (o1.heap K0.out (fun f => f))
    obtain ⟨k0, k1, k2, k3⟩ := box_cells K1.out
    have O1 := hideIt (OA.out.same o1)
    clear A o1 K0 OA
    go_wp2_with fail
    refine (FW.out w1 O1.out).mono ?_
    rintro e w2 ⟨rfl, o2⟩
    have K2 := hideIt (o2.heap K1.out (fun f => f))
    clear k0 k1 k2 k3
    obtain ⟨k0, k1, k2, k3⟩ := box_cells K2.out
    have O2 := hideIt (O1.out.same o2)
    clear FW o2 O1 K1
    go_wp2_with fail
    refine (E1.out w2 O2.out).mono ?_
    rintro e w3 ⟨u3, rfl, own3, o3⟩
    have K3 := hideIt (o3.heap K2.out (fun f => f))
    clear k0 k1 k2 k3
    obtain ⟨k0, k1, k2, k3⟩ := box_cells K3.out
    have O3 := hideIt (O2.out.same o3)
    have B3 := hideIt (Bs.of_own (k := .u8) own3)
    clear E1 o3 O2 K2 own3
    go_wp2_with fail
    refine (E2.out w3 O3.out).mono ?_
    rintro e w4 ⟨u4, rfl, own4, o4⟩
    have B4 := hideIt (Bs.of_own (k := .u8) own4)
    have B34 := hideIt (B3.out.past o4)
    have O4 := hideIt (O3.out.same o4)
    clear E2 o4 O3 K3 own4 k0 k1 k2 k3 B3
    go_wp2_with fail
    refine (E3.out w4 O4.out).mono ?_
    rintro e w5 ⟨x5, vp5, ve5, vr5, rfl, mn, o5⟩
    have hx := mn.mf.form
    obtain ⟨ap5, pc5, ep⟩ := mn.mf.prev.len
    obtain ⟨ae5, ec5, ee⟩ := mn.mf.es.len
    obtain ⟨ar5, rc5, er⟩ := mn.mf.root.len
    subst ep ee er hx
    have oa : Only (fun _ => False) w5 (w5.alloc (.cells #[.int .u64 M.ver, .slice ap5 M.prev.length pc5, .slice ae5 M.es.length ec5, .slice ar5 M.root.length rc5] 26)) := (Only.refl _ _).alloc _
    have K5 := hideIt (heap_alloc_new w5 (.cells #[.int .u64 M.ver, .slice ap5 M.prev.length pc5, .slice ae5 M.es.length ec5, .slice ar5 M.root.length rc5] 26))
    have M5 := hideIt (mn.mf.past oa)
    have o45 := o5.same oa
    have O5 := hideIt (O4.out.same o45)
    have B35 := hideIt (B34.out.past o45)
    have B45 := hideIt (B4.out.past o45)
    clear E3 mn o5 oa O4 B34 B4 o45
    go_wp2_with fail
    refine (E4.out _ O5.out).mono ?_
    rintro e w6 ⟨x6, vp6, ve6, vr6, rfl, mf6, o6⟩
    have hx6 := mf6.form
    obtain ⟨ap6, pc6, ep6⟩ := mf6.prev.len
    obtain ⟨ae6, ec6, ee6⟩ := mf6.es.len
    obtain ⟨ar6, rc6, er6⟩ := mf6.root.len
    subst ep6 ee6 er6 hx6
    have oa6 : Only (fun _ => False) w6 (w6.alloc (.cells #[.int .u64 M.ver, .slice ap6 M.prev.length pc6, .slice ae6 M.es.length ec6, .slice ar6 M.root.length rc6] 26)) := (Only.refl _ _).alloc _
    have K6 := hideIt (heap_alloc_new w6 (.cells #[.int .u64 M.ver, .slice ap6 M.prev.length pc6, .slice ae6 M.es.length ec6, .slice ar6 M.root.length rc6] 26))
    have o56 := o6.same oa6
    have K56 := hideIt (o56.heap K5.out (fun f => f))
    have M56 := hideIt (M5.out.past o56)
    have M6 := hideIt (mf6.past oa6)
    have O6 := hideIt (O5.out.same o56)
    have B36 := B35.out.past o56
    have B46 := B45.out.past o56
    have S1 := hideIt (same_any u3 u4 L L _ B36 B46 (by have := HL.out; omega))
    rw [decide_eq_true rfl] at S1
    clear E4 mf6 o6 oa6 O5 B35 B45 o56 K5 M5 B36 B46
    obtain ⟨k0, k1, k2, k3⟩ := box_cells K56.out
    obtain ⟨l0, l1, l2, l3⟩ := box_cells K6.out
    go_wp2_with (first
      | (go_at_call 10; refine S1.out.mono ?_; rintro e w7 ⟨rfl, o7⟩; clear k0 k1 k2 k3 l0 l1 l2 l3; (obtain ⟨k0, k1, k2, k3⟩ := box_cells (o7.heap K56.out (fun f => f))); (obtain ⟨l0, l1, l2, l3⟩ := box_cells (o7.heap K6.out (fun f => f))))
      | (go_at_call 13; refine (lsame21_eq _ _ _ _ _ _ _ _ M _ (M56.out.past o7) (M6.out.past o7) (by have := QQ.out.1; omega) (by have := QQ.out.2.1; omega) (by have := QQ.out.2.2; omega)).mono ?_; rintro e w8 ⟨rfl, o8⟩)
      | fail)
    go_ret
    exact ⟨rfl, (O6.out.same o7).same o8⟩
end Go.Proofs.YtiolgenaefillaaGreat
