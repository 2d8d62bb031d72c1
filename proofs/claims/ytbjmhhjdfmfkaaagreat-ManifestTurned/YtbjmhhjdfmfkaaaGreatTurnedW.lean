/- ManifestTurned: the walk. -/
import Derived.Test.YtbjmhhjdfmfkaaaGreatBackW
import Derived.Test.YtbjmhhjdfmfkaaaGreatXb
import Derived.Test.YtbjmhhjdfmfkaaaGreatRm14
import Derived.Test.YtbjmhhjdfmfkaaaGreatR18
import Derived.BigQuiet
import Derived.Deep.RegionHeld3
namespace Go.Proofs.YtbjmhhjdfmfkaaaGreat
open Go.RowKit

theorem MDe_ne5 {ys : List Int} (h : U8 ys) : MDe ys ≠ 5 := by
  cases e : MDEC ys with
  | ok m => rw [(MD_ok e).2]; decide
  | error c =>
    rw [(MD_err e).2]
    intro h5
    exact MDEC_nb (b := 5) (by decide) h (by rw [e, h5])
theorem own_blk_at {w : World} {lo n : Nat} {v : Value} {xs : List Value} (h : w.ownsRow lo 5 1 v n xs) (hn : 0 < n) : ∃ g cap, v = .slice (some ⟨g, 0, none⟩) n cap ∧ lo ≤ g ∧ n ≤ cap := xb_at h hn
theorem turned_small {m : MAN} (h : MGD m) (h1 : m.es.length ≤ 100) : (MENC m).length ≤ 10000 := by
  obtain ⟨g1, g2, g3, g4, g5⟩ := h
  have hT0 := MTN_len m
  have hTl : (MTN m).length ≤ 1048576 := by omega
  have q1 := TBS_le (MTN m) _ (Nat.le_refl _) hTl (fun x hx => by
    obtain ⟨e, he', rfl⟩ := List.mem_map.1 ((mem_TEN _ _).1 hx)
    exact (g5 e he').1.1)
  have q2 := EBS_le (MTN m) m.es _ (Nat.le_refl _) g4 (fun e he' => MTN_mem he') hTl
  rw [TBS_all] at q1
  rw [EBS_all] at q2
  unfold MENC
  simp only [List.length_append, fixL_len, g2.1, g3.1, MHD, List.length_cons, List.length_nil] at q1 q2 ⊢
  omega
set_option maxHeartbeats 4000000 in
set_option maxRecDepth 100000 in
theorem turned_walk (vk x vp ve vr : Value) (k : List Int) (m : MAN) (at' by' : Int) (w : World) (hb : Bs .u8 w vk k) (nk : NoCap vk) (k8 : U8 k) (hby : 0 ≤ by' ∧ by' ≤ 255) (h : Mf w x m vp ve vr) (hk : Mok m) (np : NoCap vp) (nr : NoCap vr) :
    Calls Tryz.prog 8 #[vk, x, .int .i64 at', .int .u8 by'] w fun e w' => e = .returned (.bool true) ∧ Only (fun _ => False) w w' := by
  obtain ⟨i0, hi, hz0, hz1, hz2⟩ := info_parts Tryz.infoU8
  have hf := h.form
  obtain ⟨ap, pc, ep⟩ := h.prev.len
  obtain ⟨ae, ec, ee⟩ := h.es.len
  obtain ⟨ar, rc, er⟩ := h.root.len
  obtain ⟨ak, kl, kc, hvk, hkl⟩ : ∃ ak kl kc, vk = .slice ak kl kc ∧ kl = k.length := by
    obtain ⟨a, c, e⟩ := hb.len
    exact ⟨a, k.length, c, e, rfl⟩
  subst ep ee er hf hvk
  have oa : Only (fun _ => False) w (w.alloc (.cells #[.int .u64 m.ver, .slice ap m.prev.length pc, .slice ae m.es.length ec, .slice ar m.root.length rc] 26)) := (Only.refl _ _).alloc _
  have K0 := hideIt (heap_alloc_new w (.cells #[.int .u64 m.ver, .slice ap m.prev.length pc, .slice ae m.es.length ec, .slice ar m.root.length rc] 26))
  have A := hideIt (awake_any (w.alloc (.cells #[.int .u64 m.ver, .slice ap m.prev.length pc, .slice ae m.es.length ec, .slice ar m.root.length rc] 26)))
  have OA := hideIt oa
  have FW := hideIt (fun W (o : Only (fun _ => False) w W) => few_any _ _ _ _ m W (h.past o))
  cases hfew : FEWM m with
  | false =>
    rw [hfew] at FW
    clear h hk np nr hb oa
    go_enter Tryz.func8, Tryz.ntmps8
    go_wp2_with fail
    refine A.out.mono ?_
    rintro e w1 ⟨rfl, o1⟩
    obtain ⟨k0, k1, k2, k3⟩ := box_cells (o1.heap K0.out (fun f => f))
    have O1 := hideIt (OA.out.same o1)
    clear A o1 K0 OA
    go_wp2_with fail
    refine (FW.out w1 O1.out).mono ?_
    rintro e w2 ⟨rfl, o2⟩
    have O2 := hideIt (O1.out.same o2)
    clear FW o2 O1
    go_wp2
    go_ret
    exact ⟨rfl, O2.out⟩
  | true =>
    rw [hfew] at FW
    obtain ⟨f1, f2, f3, f4⟩ := few_of hfew
    by_cases h32 : kl = 32
    · subst h32
      have hk32 : k.length = 32 := hkl.symm
      have SG := hideIt (fun W (o : Only (fun _ => False) w W) => sign_any _ _ _ _ _ k m W (hb.past o) k8 (h.past o) hk np nr (by omega))
      have e1 : MSe k m = MEr m := by unfold MSe; rw [if_pos hk32]
      by_cases her : MEr m = 0
      · have hG := (MEr_ok hk).1 her
        have hle := MENC_le hG
        have h8 := MENC_u8 hG
        rw [e1, her, show MSt k m = MENC m ++ MACL (MKY k) (MENC m) by unfold MSt; rw [e1, if_pos her]] at SG
        have hS8 : U8 (MENC m ++ MACL (MKY k) (MENC m)) := fun y hy => by
          rcases List.mem_append.1 hy with h1 | h1
          · exact h8 y h1
          · exact MACL_u8 _ _ y h1
        obtain ⟨S, hS⟩ : ∃ S, S = MENC m ++ MACL (MKY k) (MENC m) := ⟨_, rfl⟩
        have hSl : S.length = (MENC m).length + 32 := by rw [hS, List.length_append, MACL_len]
        rw [← hS] at SG hS8
        obtain ⟨q, hq⟩ : ∃ q, q = S.length := ⟨_, rfl⟩
        have hq32 : 32 ≤ q := by omega
        have hqle : q ≤ 899000 := by
          have := turned_small hG f1
          omega
        have hand := i64_low at' 16 (by decide)
        rw [show ((2 ^ 16 - 1 : Nat) : Int) = 65535 from rfl, show ((2 ^ 16 : Nat) : Int) = 65536 from rfl] at hand
        obtain ⟨c, hc⟩ : ∃ c : Nat, at' % 65536 = (c : Int) := ⟨(at' % 65536).toNat, by omega⟩
        rw [hc] at hand
        have hc16 : c < 65536 := by omega
        have hqp : 0 < q := by omega
        obtain ⟨t, ht⟩ : ∃ t, t = c % q := ⟨_, rfl⟩
        have htq : t < q := by rw [ht]; exact Nat.mod_lt _ hqp
        have hr1 : (c : Int) % (q : Int) = (t : Int) := by rw [ht]; exact (Int.natCast_emod c q).symm
        have hr2 : (c : Int).tmod (q : Int) = (t : Int) := by rw [Int.tmod_eq_emod_of_nonneg (by omega)]; exact hr1
        have hq0 : ¬ (q : Int) = 0 := by omega
        have hq1 : ((q : Int) == 0) = false := by rw [beq_eq_false_iff_ne]; omega
        have hxr := hS8.at t
        have hxor := XB_bits hxr hby
        have T8 : U8 (XBL S t by') := XBL_u8 hS8 t hby
        have Tl : (XBL S t by').length = q := by rw [XBL_len, hq]
        obtain ⟨T, hT⟩ : ∃ T, T = XBL S t by' := ⟨_, rfl⟩
        have XT := hideIt (fun (W : World) (lo g cap : Nat) (own : W.ownsRow lo 5 1 (.slice (some ⟨g, 0, none⟩) q cap) q (bl S)) => xb_turn own htq by')
        obtain ⟨z, hz⟩ : ∃ z, z = S.getD t 0 := ⟨_, rfl⟩
        rw [← hz] at hxr hxor
        simp only [← hz, ← hT] at XT
        rw [← hT] at T8 Tl
        obtain ⟨y, hy⟩ : ∃ y, y = XB z by' := ⟨_, rfl⟩
        rw [← hy] at hxor
        simp only [← hy] at XT
        obtain ⟨p, hp⟩ : ∃ p, p = q - 32 := ⟨_, rfl⟩
        obtain ⟨C, hC⟩ : ∃ C, C = T.take p := ⟨_, rfl⟩
        obtain ⟨R, hR⟩ : ∃ R, R = T.drop p := ⟨_, rfl⟩
        have hCl : C.length = p := by rw [hC, List.length_take]; omega
        have C8 : U8 C := by rw [hC]; exact T8.take _
        have RM := hideIt (fun (W : World) (o : Only (fun _ => False) w W) => rkmanifest_any _ k k8 nk W (hb.past o))
        have HKY : Hid ((MKY k).length = 32 ∧ U8 (MKY k)) := ⟨MKY_len hk32, MKY_u8 k⟩
        have CK := hideIt (fun (W : World) (v : Value) (o : Only (fun _ => False) w W) (b : Bs .u8 W v T) => check_any _ v k T W (hb.past o) k8 b T8 (by omega))
        have EC : MCe k T = if MACL (MKY k) C = R then MDe C else 5 := by unfold MCe; rw [if_pos hk32, Tl, if_neg (by omega), ← hp, ← hC, ← hR]
        rw [EC] at CK
        have RC := hideIt (fun (W : World) (v u r : Value) (b1 : Bs .u8 W v (MKY k)) (n1 : NoCap v) (b2 : Bs .u8 W u C) (n2 : NoCap u) (b3 : Bs .u8 W r R) => rcheck_bs v u r (MKY k) C R W b1 n1 HKY.out.2 (by rw [HKY.out.1]; decide) b2 n2 C8 (by omega) b3)
        obtain ⟨F, hF⟩ : ∃ F, F = decide (MACL (MKY k) C = R) := ⟨_, rfl⟩
        obtain ⟨G, hGG⟩ : ∃ G : Int, G = if MACL (MKY k) C = R then MDe C else 5 := ⟨_, rfl⟩
        have FG : (F = true ∧ (G == 5) = false ∧ (G != 5) = true) ∨ (F = false ∧ G = 5) := by
          by_cases e : MACL (MKY k) C = R
          · have hne := MDe_ne5 C8
            rw [hF, hGG, if_pos e, decide_eq_true e]
            exact .inl ⟨rfl, by simpa using hne, by simpa using hne⟩
          · rw [hF, hGG, if_neg e, decide_eq_false e]
            exact .inr ⟨rfl, rfl⟩
        rw [← hF] at RC
        rw [← hGG] at CK
        have HFG := hideIt FG
        have HT := hideIt (And.intro hC hR)
        have KDE : Hid (KDe k [] = 0) := KDe_ok hk32
        have hsub : (q : Int) - 32 = (p : Int) := by omega
        have hwp : IntKind.i64.wrap (p : Int) = (p : Int) := by rw [IntKind.wrap_i64]; omega
        have j1 : (p : Int) ≤ (q : Int) := by omega
        have j0 : (0 : Int) ≤ (p : Int) := by omega
        have hqp2 : q - p = 32 := by omega
        have tI : (t : Int) < (q : Int) := by omega
        have tI0 : (0 : Int) ≤ (t : Int) := by omega
        have i32 : ¬ (q : Int) < 32 := by omega
        have HQ := hideIt hq
        clear h hk np nr hb oa her hG hle h8 hS hSl hq hc hc16 hqp ht hT hz hy hp hC hR hCl C8 EC hF hGG FG hkl hk32 f1 f2 f3 f4 hxr T8 Tl e1
        go_enter Tryz.func8, Tryz.ntmps8
        go_wp2_with fail
        refine A.out.mono ?_
        rintro e w1 ⟨rfl, o1⟩
        have K1 := hideIt (o1.heap K0.out (fun f => f))
        obtain ⟨k0, k1, k2, k3⟩ := box_cells K1.out
        have O1 := hideIt (OA.out.same o1)
        clear A o1 K0 OA
        go_wp2_with fail
        refine (FW.out w1 O1.out).mono ?_
        rintro e w2 ⟨rfl, o2⟩
        have K2 := hideIt (o2.heap K1.out (fun f => f))
        have O2 := hideIt (O1.out.same o2)
        clear FW o2 O1 k0 k1 k2 k3 K1
        obtain ⟨k0, k1, k2, k3⟩ := box_cells K2.out
        go_wp2_with fail
        refine (SG.out w2 O2.out).mono ?_
        rintro e w3 ⟨vs, rfl, own3, o3⟩
        rw [← HQ.out] at own3
        obtain ⟨g3, c3, e3, _, _⟩ := xb_at own3 (by omega)
        subst e3
        have O3 := hideIt (O2.out.same o3)
        have B3 := hideIt (show Bs .u8 w3 (.slice (some ⟨g3, 0, none⟩) q c3) S from Bs.of_own (k := .u8) (E := 5) (lo := w2.heap.size) (by rw [← HQ.out]; exact own3))
        have B4 := hideIt (B3.out.past ((Only.refl (fun _ => False) w3).alloc (.cells #[] 5)))
        have ho4 := xb_made0 w3
        clear SG o3 O2 k0 k1 k2 k3 K2 own3
        go_wp2_with (first
          | (at_builtin; refine wpList_append_bs _ rfl _ _ 23 rfl w3.heap.size 5 i0 (.int .u8 0) 1 Tryz.underlying23 hi hz0 hz1 hz2 rfl (.slice (some ⟨w3.heap.size, 0, none⟩) 0 0) 0 [] rfl ho4 .u8 (.slice (some ⟨g3, 0, none⟩) q c3) S rfl B4.out (NoCap.some _ _ _) (by rw [← HQ.out]; unfold maxLen; omega) (by rw [← HQ.out]; omega) (by simp) ?_; intro v5 w5 own5 gr5 _ _; rw [← HQ.out, Nat.zero_add] at own5; (obtain ⟨g5, c5, e5, hg5, hc5⟩ := xb_at own5 (by omega)); subst e5; (obtain ⟨x1, x2, x3, x4⟩ := XT.out w5 w3.heap.size g5 c5 (by simpa [bl] using own5)))
          | fail)
        have o5 : Only (fun _ => False) w3 w5 := ((Only.refl _ w3).alloc _).grown gr5 (fun j hj e => by have := (ho4.lt j e).1; omega)
        have O6 := hideIt ((O3.out.same o5).trans x4 (fun i hi e => by have := O3.out.size; omega))
        have B6 := hideIt x3
        have hc5p : ¬ c5 = p := by omega
        have hc5i : (p : Int) ≤ (c5 : Int) := by omega
        clear own5 gr5 o5 x1 x2 x3 x4 B3 B4 ho4 XT O3
        refine (RM.out _ O6.out).mono ?_
        rintro e w7 ⟨v7, rfl, b7, o7⟩
        have O7 := hideIt (O6.out.same o7)
        have B7 := hideIt (B6.out.past o7)
        have bk7 : Bs .u8 w7 v7 (MKY k) := b7
        have KK := hideIt (And.intro bk7 (bk7.nocap (by intro e0; have := HKY.out.1; rw [e0] at this; cases this)))
        have bC := hideIt (show Bs .u8 w7 (.slice (some ⟨g5, 0, none⟩) p c5) C by rw [HT.out.1]; exact B7.out.head (by omega))
        have bR := hideIt (show Bs .u8 w7 (.slice (some ⟨g5, p, none⟩) 32 (c5 - p)) R by
          have := B7.out.cut (n := p) (by omega)
          rw [← HT.out.2, hqp2] at this
          simpa [Addr.add_lit] using this)
        rw [KDE.out]
        clear RM b7 bk7 o7 O6 B6
        go_wp2_with fail
        go_region_held3 (fun W => Only (fun _ => False) w7 W) ((repeat (first | with_reducible exact Only.refl _ _ | assumption | (with_reducible refine Only.drew ?_) | (with_reducible refine Only.alloc ?_ _) | (with_reducible apply Only.same; case k => assumption)))) (first
          | (go_at_call 22; refine Calls.mono (RC.out _ _ _ _ (KK.out.1.past (by (repeat (first | with_reducible exact Only.refl _ _ | assumption | (with_reducible refine Only.drew ?_) | (with_reducible refine Only.alloc ?_ _) | (with_reducible apply Only.same; case k => assumption))))) KK.out.2 (bC.out.past (by (repeat (first | with_reducible exact Only.refl _ _ | assumption | (with_reducible refine Only.drew ?_) | (with_reducible refine Only.alloc ?_ _) | (with_reducible apply Only.same; case k => assumption))))) (NoCap.some _ _ _) (bR.out.past (by (repeat (first | with_reducible exact Only.refl _ _ | assumption | (with_reducible refine Only.drew ?_) | (with_reducible refine Only.alloc ?_ _) | (with_reducible apply Only.same; case k => assumption)))))) ?_; rintro e w8 ⟨rfl, o8⟩)
          | fail)
        have O8w : Only (fun _ => False) w7 w8 := by (repeat (first | with_reducible exact Only.refl _ _ | assumption | (with_reducible refine Only.drew ?_) | (with_reducible refine Only.alloc ?_ _) | (with_reducible apply Only.same; case k => assumption)))
        have O8 := hideIt (O7.out.same O8w)
        have CX := hideIt (CK.out w8 _ O8.out (B7.out.past O8w))
        clear RC KK bC bR O7 O8w CK B7
        rcases HFG.out with ⟨rfl, hG1, hG2⟩ | ⟨rfl, rfl⟩
        · clear HFG
          go_wp2_with fail
          refine CX.out.mono ?_
          rintro e w9 ⟨y7, yp7, ye7, yr7, rfl, mn7, o9⟩
          have hy7 := mn7.mf.form
          obtain ⟨bp7, qp7, ebp7⟩ := mn7.mf.prev.len
          obtain ⟨be7, qe7, ebe7⟩ := mn7.mf.es.len
          obtain ⟨br7, qr7, ebr7⟩ := mn7.mf.root.len
          subst ebp7 ebe7 ebr7 hy7
          have O9 := hideIt (O8.out.same o9)
          clear CX mn7 o9
          go_wp2
          go_ret
          exact ⟨rfl, O9.out.alloc _⟩
        · clear HFG
          go_wp2_with fail
          refine CX.out.mono ?_
          rintro e w9 ⟨y7, yp7, ye7, yr7, rfl, mn7, o9⟩
          have hy7 := mn7.mf.form
          obtain ⟨bp7, qp7, ebp7⟩ := mn7.mf.prev.len
          obtain ⟨be7, qe7, ebe7⟩ := mn7.mf.es.len
          obtain ⟨br7, qr7, ebr7⟩ := mn7.mf.root.len
          subst ebp7 ebe7 ebr7 hy7
          have O9 := hideIt (O8.out.same o9)
          clear CX mn7 o9
          go_wp2
          go_ret
          exact ⟨rfl, O9.out.alloc _⟩
      · have e2 : MSt k m = [] := by unfold MSt; rw [e1, if_neg her]
        rw [e1, e2] at SG
        obtain ⟨c, hc⟩ : ∃ c, c = MEr m := ⟨_, rfl⟩
        rw [← hc] at SG her
        have hcb : (c != 0) = true := by simpa using her
        clear h hk np nr hb oa hc her e1 e2 hkl hk32
        go_enter Tryz.func8, Tryz.ntmps8
        go_wp2_with fail
        refine A.out.mono ?_
        rintro e w1 ⟨rfl, o1⟩
        have K1 := hideIt (o1.heap K0.out (fun f => f))
        obtain ⟨k0, k1, k2, k3⟩ := box_cells K1.out
        have O1 := hideIt (OA.out.same o1)
        clear A o1 K0 OA
        go_wp2_with fail
        refine (FW.out w1 O1.out).mono ?_
        rintro e w2 ⟨rfl, o2⟩
        have K2 := hideIt (o2.heap K1.out (fun f => f))
        have O2 := hideIt (O1.out.same o2)
        clear FW o2 O1 k0 k1 k2 k3 K1
        obtain ⟨k0, k1, k2, k3⟩ := box_cells K2.out
        go_wp2_with fail
        refine (SG.out w2 O2.out).mono ?_
        rintro e w3 ⟨vs, rfl, own3, o3⟩
        obtain ⟨ab, cb, eb⟩ := (Bs.of_own (k := .u8) (xs := []) own3).len
        rw [List.length_nil] at eb
        subst eb
        have O3 := hideIt (O2.out.same o3)
        clear SG o3 O2 own3
        go_wp2
        go_ret
        exact ⟨rfl, O3.out⟩
    · have d32 : ((kl : Int) != 32) = true := by simp; omega
      clear h hk np nr hb oa
      go_enter Tryz.func8, Tryz.ntmps8
      go_wp2_with fail
      refine A.out.mono ?_
      rintro e w1 ⟨rfl, o1⟩
      obtain ⟨k0, k1, k2, k3⟩ := box_cells (o1.heap K0.out (fun f => f))
      have O1 := hideIt (OA.out.same o1)
      clear A o1 K0 OA
      go_wp2_with fail
      refine (FW.out w1 O1.out).mono ?_
      rintro e w2 ⟨rfl, o2⟩
      have O2 := hideIt (O1.out.same o2)
      clear FW o2 O1
      go_wp2
      go_ret
      exact ⟨rfl, O2.out⟩
end Go.Proofs.YtbjmhhjdfmfkaaaGreat
