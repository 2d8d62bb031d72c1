/- The document's manifest: Sign and Check. -/
import Derived.Test.YtiolgenaefillaaGreatRz21
import Derived.Test.YtiolgenaefillaaGreatRw21
import Derived.Test.YtiolgenaefillaaGreatJf
import Derived.Test.YtiolgenaefillaaGreatR18
import Derived.Test.YtiolgenaefillaaGreatRm14
import Derived.Deep.RegionHeld3
namespace Go.Proofs.YtiolgenaefillaaGreat
open Go.RowKit

theorem MENC_le100 {m : MAN} (h : MGD m) (hl : m.es.length ≤ 100) : (MENC m).length ≤ 800000 := by
  obtain ⟨g1, g2, g3, g4, g5⟩ := h
  have hTl : (MTN m).length ≤ 100 := Nat.le_trans (MTN_len m) hl
  have q1 := TBS_le (MTN m) _ (Nat.le_refl _) (by omega) (fun x hx => by
    obtain ⟨e, he', rfl⟩ := List.mem_map.1 ((mem_TEN _ _).1 hx)
    exact (g5 e he').1.1)
  have q2 := EBS_le (MTN m) m.es _ (Nat.le_refl _) g4 (fun e he' => MTN_mem he') (by omega)
  rw [TBS_all] at q1
  rw [EBS_all] at q2
  unfold MENC
  simp only [List.length_append, fixL_len, g2.1, g3.1, MHD, List.length_cons, List.length_nil] at q1 q2 ⊢
  omega
set_option maxHeartbeats 1600000 in
set_option maxRecDepth 100000 in
theorem rsign21_any (vk x vp ve vr : Value) (k : List Int) (m : MAN) (w : World) (hb : Bs .u8 w vk k) (hk8 : U8 k) (h : Mf w x m vp ve vr) (hk : Mok m) (np : NoCap vp) (nr : NoCap vr) (hm63 : m.es.length ≤ 100) (nk : NoCap vk) :
    Calls Tryz.prog 15 #[vk, x] w fun e w' => ∃ u, e = .returned (.tuple #[u, .int .i64 (MSe k m)]) ∧ w'.ownsRow w.heap.size 5 1 u (MSt k m).length ((MSt k m).map (Value.int .u8)) ∧ Only (fun _ => False) w w' := by
  have hf := h.form
  obtain ⟨ap, pc, ep⟩ := h.prev.len
  obtain ⟨ae, ec, ee⟩ := h.es.len
  obtain ⟨ar, rc, er⟩ := h.root.len
  obtain ⟨ak, kc, ek⟩ := hb.len
  subst ep ee er hf ek
  have oa : Only (fun _ => False) w (w.alloc (.cells #[.int .u64 m.ver, .slice ap m.prev.length pc, .slice ae m.es.length ec, .slice ar m.root.length rc] 26)) := (Only.refl _ _).alloc _
  have G0 := hideIt (heap_alloc_new w (.cells #[.int .u64 m.ver, .slice ap m.prev.length pc, .slice ae m.es.length ec, .slice ar m.root.length rc] 26))
  have A := hideIt (rkmanifest_any _ k hk8 nk _ (hb.past oa))
  have OA := hideIt oa
  by_cases h32 : k.length = 32
  · rw [KDe_ok h32] at A
    have e1 : MSe k m = MEr m := by unfold MSe; rw [if_pos h32]
    have HKL := hideIt (MKY_len h32)
    have HK8 := hideIt (MKY_u8 k)
    by_cases he : MEr m = 0
    · have EN : Hid (∀ W, Only (fun _ => False) w W → Calls Tryz.prog 9 #[.agg #[.int .u64 m.ver, .slice ap m.prev.length pc, .slice ae m.es.length ec, .slice ar m.root.length rc]] W fun e w' => ∃ u, e = .returned (.tuple #[u, .int .i64 0]) ∧ w'.ownsRow W.heap.size 5 1 u (MENC m).length ((MENC m).map (Value.int .u8)) ∧ Only (fun _ => False) W w') := by
        intro W o
        have := rencode21_any _ _ _ _ m W (h.past o) hk np nr hm63
        rw [he, show MEt m = MENC m by unfold MEt; rw [if_pos he]] at this
        exact this
      have hG := (MEr_ok hk).1 he
      have hle := MENC_le100 hG hm63
      have h8 := MENC_u8 hG
      have e2 : MSt k m = MENC m ++ MACL (MKY k) (MENC m) := by unfold MSt; rw [e1, if_pos he]
      rw [e1, he, e2]
      obtain ⟨E, hE⟩ : ∃ E, E = MENC m := ⟨_, rfl⟩
      rw [← hE] at EN hle h8
      rw [← hE]
      clear h hb hk np nr nk hm63 oa e1 e2 h32 he hG hE
      go_enter Tryz.func15, Tryz.ntmps15
      go_wp2_with fail
      refine A.out.mono ?_
      rintro e w1 ⟨v1, rfl, bk1, o1⟩
      have G1 := o1.heap G0.out (fun f => f)
      have hld := load_man G1
      obtain ⟨⟨c0, c1, c2, c3⟩, _⟩ := cells4 G1
      have B := hideIt (EN.out w1 (OA.out.same o1))
      have O1 := hideIt (OA.out.same o1)
      have W1S := hideIt O1.out.size
      have BK := hideIt (show Bs .u8 w1 v1 (MKY k) from bk1)
      clear A bk1 o1 EN G0 OA G1
      go_wp2_with fail
      refine B.out.mono ?_
      rintro e w2 ⟨u, rfl, own2, o2⟩
      have O2 := hideIt (O1.out.same o2)
      have s2 := o2.size
      have D := hideIt (rmac_bs v1 u (MKY k) E w2 (BK.out.past o2) (BK.out.nocap (fun z => by have := HKL.out; rw [z] at this; cases this)) HK8.out (by rw [HKL.out]; decide) (Bs.of_own own2) (NoCap.of_own own2) h8 (by omega))
      obtain ⟨au, cu, eu⟩ := (Bs.of_own own2).len
      have OW2 := hideIt own2
      clear B o2 O1 own2 BK c0 c1 c2 c3 hld
      subst eu
      go_wp2_with fail
      refine D.out.mono ?_
      rintro e w3 ⟨r, rfl, own3, o3⟩
      have hml := MACL_len (MKY k) E
      have b3 := Bs.of_own (k := .u8) (xs := MACL (MKY k) E) (by rw [hml]; exact own3)
      have n3 := NoCap.of_own own3
      have own2' := o3.own OW2.out (fun _ _ f => f)
      have s3 := O2.out.size
      have s4 := o3.size
      have O3 := hideIt (O2.out.same o3)
      obtain ⟨i0, hi, hz0, hz1, hz2⟩ := info_parts Tryz.infoU8
      clear D own3 OW2
      go_wp2_with (first
        | (at_builtin; refine wpList_append_bs _ rfl _ _ 23 rfl w1.heap.size 5 i0 (.int .u8 0) 1 Tryz.underlying23 hi hz0 hz1 hz2 rfl _ E.length _ rfl own2' .u8 r (MACL (MKY k) E) rfl b3 n3 (by rw [hml]; unfold maxLen; omega) (by rw [hml]; omega) (by omega) ?_; intro v4 w4 own4 gr4 _ _)
        | fail)
      have F := hideIt (And.intro (own_low own4 W1S.out) (O3.out.grown gr4 (fun j hj e => by have := (own2'.lt j e).1; have := W1S.out; omega)))
      rw [← List.length_append, ← List.map_append] at F
      clear own4 gr4 own2' b3 n3
      go_ret2
      exact ⟨_, rfl, F.out⟩
    · have EN : Hid (∀ W, Only (fun _ => False) w W → Calls Tryz.prog 9 #[.agg #[.int .u64 m.ver, .slice ap m.prev.length pc, .slice ae m.es.length ec, .slice ar m.root.length rc]] W fun e w' => ∃ u, e = .returned (.tuple #[u, .int .i64 (MEr m)]) ∧ w'.ownsRow W.heap.size 5 1 u (MEt m).length ((MEt m).map (Value.int .u8)) ∧ Only (fun _ => False) W w') :=
        fun W o => rencode21_any _ _ _ _ m W (h.past o) hk np nr hm63
      have e2 : MSt k m = [] := by unfold MSt; rw [e1, if_neg he]
      rw [e1, e2]
      obtain ⟨c, hc⟩ : ∃ c, c = MEr m := ⟨_, rfl⟩
      rw [← hc] at EN he
      rw [← hc]
      have hne : (c != 0) = true := by simpa using he
      clear h hb hk np nr nk hm63 oa e1 e2 h32 hc
      go_enter Tryz.func15, Tryz.ntmps15
      go_wp2_with fail
      refine A.out.mono ?_
      rintro e w1 ⟨v1, rfl, bk1, o1⟩
      have G1 := o1.heap G0.out (fun f => f)
      have hld := load_man G1
      obtain ⟨⟨c0, c1, c2, c3⟩, _⟩ := cells4 G1
      have B := hideIt (EN.out w1 (OA.out.same o1))
      have O1 := hideIt (OA.out.same o1)
      clear A bk1 o1 EN G0 OA G1
      go_wp2_with fail
      refine B.out.mono ?_
      rintro e w2 ⟨u, rfl, own2, o2⟩
      have O2 := hideIt (O1.out.same o2)
      clear B own2 o2
      go_wp2
      go_ret2
      exact ⟨_, rfl, World.ownsRow_nil _ _ _ _, O2.out⟩
  · rw [KDe_no h32] at A
    have e1 : MSe k m = 1 := by unfold MSe; rw [if_neg h32]
    have e2 : MSt k m = [] := by unfold MSt; rw [e1]; rfl
    rw [e1, e2]
    clear h hb hk np nr nk hm63 oa e1 e2
    go_enter Tryz.func15, Tryz.ntmps15
    go_wp2_with fail
    refine A.out.mono ?_
    rintro e w1 ⟨v1, rfl, bk1, o1⟩
    have O1 := hideIt (OA.out.same o1)
    clear A bk1 o1
    go_wp2
    go_ret2
    exact ⟨_, rfl, World.ownsRow_nil _ _ _ _, O1.out⟩
theorem z4_kindS : ∀ y ∈ Z4, ∀ x, y ≠ .string x := m4_kindS 0 none none none 0 0 0 0 0 0
theorem Ens.offB {w w' : World} {g : Nat} {T : TypeId} {cs : List Value} {v : Value} {s : List (List Int × Int)} (hb : Ens w v s) (hB : Blk w g T cs) (hc : ∀ y ∈ cs, ∀ x, y ≠ .string x) (o : Only (fun k => k = g) w w') : Ens w' v s := by
  obtain ⟨ao, cap, rfl, hl, hr⟩ := hb
  refine ⟨ao, cap, rfl, hl, fun hne => ?_⟩
  obtain ⟨b, off, rfl, h⟩ := hr hne
  refine ⟨b, off, rfl, fun j hj => ?_⟩
  obtain ⟨h0, h1⟩ := h j hj
  by_cases hbg : b = g
  · subst hbg
    rw [hB.cell] at h0
    exact absurd rfl (hc _ (List.mem_of_getElem? h0) _)
  · have e := o.block b (World.block_lt_of_cell? w _ h0) hbg
    exact ⟨by rw [← h0]; exact World.cell?_of_block e, by rw [← h1]; exact World.cell?_of_block e⟩
set_option maxHeartbeats 2000000 in
set_option maxRecDepth 100000 in
theorem rcheck21_any (vk vb : Value) (k b : List Int) (w : World) (hb : Bs .u8 w vk k) (nk : NoCap vk) (hk8 : U8 k) (hv : Bs .u8 w vb b) (hb8 : U8 b) (hl : b.length ≤ 1000) :
    Calls Tryz.prog 17 #[vk, vb] w fun e w' => ∃ x vp ve vr, e = .returned (.tuple #[x, .int .i64 (MCe k b)]) ∧ Mf w' x (MCv k b) vp ve vr ∧ Only (fun _ => False) w w' := by
  obtain ⟨ak, kc, ek⟩ := hb.len
  have oa : Only (fun _ => False) w (w.alloc (.cells #[.int .u64 0, .slice none 0 0, .slice none 0 0, .slice none 0 0] 26)) := (Only.refl _ _).alloc _
  have G0 := hideIt (heap_alloc_new w (.cells #[.int .u64 0, .slice none 0 0, .slice none 0 0, .slice none 0 0] 26))
  have A := hideIt (rkmanifest_any _ k hk8 nk _ (hb.past oa))
  have OA := hideIt oa
  obtain ⟨bo, n, bc, hvb, hn⟩ : ∃ bo n bc, vb = .slice bo n bc ∧ n = b.length := by
    obtain ⟨so, sc, e⟩ := hv.len
    exact ⟨so, b.length, sc, e, rfl⟩
  subst hvb
  have hwn : IntKind.i64.wrap ((n : Int) - 32) = (n : Int) - 32 := by rw [IntKind.wrap_i64]; omega
  by_cases h32 : k.length = 32
  · rw [KDe_ok h32] at A
    have HKL := hideIt (MKY_len h32)
    have HK8 := hideIt (MKY_u8 k)
    by_cases hs : n < 32
    · have e1 : MCe k b = 2 := by unfold MCe; rw [if_pos h32, if_pos (by omega)]
      have e2 : MCv k b = ⟨0, [], [], []⟩ := by unfold MCv; rw [if_pos h32, if_pos (by omega)]
      rw [e1, e2]
      have i1 : decide ((n : Int) - 32 < 0) = true := by simp; omega
      have i2 : (n : Int) - 32 < 0 := by omega
      clear e1 e2 hb hv oa h32 hn ek
      go_enter Tryz.func17, Tryz.ntmps17
      go_wp2_with fail
      refine A.out.mono ?_
      rintro e w1 ⟨v1, rfl, own1, o1⟩
      have G1 := o1.heap G0.out (fun f => f)
      obtain ⟨⟨c0, c1, c2, c3⟩, f0, f1, f2, f3⟩ := cells4 G1
      have F := hideIt (zero_back (w := w) (Nat.le_refl _) (OA.out.same o1) G1)
      clear A own1 o1 G1
      go_wp2
      refine bodyPost_ret (results_ct Tryz.results17 _ _ rfl rfl F.out.1) rfl ?_
      exact ⟨_, _, _, _, rfl, ⟨rfl, Bs.nil _ _, Ens.nil _, Bs.nil _ _⟩, F.out.2⟩
    · obtain ⟨q, hq⟩ : ∃ q, q = n - 32 := ⟨_, rfl⟩
      obtain ⟨C, hC⟩ : ∃ C, C = b.take q := ⟨_, rfl⟩
      obtain ⟨R, hR⟩ : ∃ R, R = b.drop q := ⟨_, rfl⟩
      have hCl : C.length = q := by rw [hC, List.length_take]; omega
      have hRl : R.length = 32 := by rw [hR, List.length_drop]; omega
      have C8 : U8 C := by rw [hC]; exact hb8.take _
      have R8 : U8 R := by rw [hR]; exact hb8.drop _
      obtain ⟨g, off, rfl⟩ : ∃ g off, bo = some ⟨g, off, none⟩ := by
        obtain ⟨g, off, c, e, _⟩ := hv.at 0 (by omega)
        simp at e
        exact ⟨g, off, e.1⟩
      have hcap : n ≤ bc := hv.room
      have bC : Bs .u8 w (.slice (some ⟨g, off, none⟩) q bc) C := by rw [hC]; exact hv.head (by omega)
      have bR : Bs .u8 w (.slice (some ⟨g, off + q, none⟩) 32 (bc - q)) R := by
        have := hv.cut (n := q) (by omega)
        rw [← hR, show n - q = 32 by omega] at this
        simpa [Addr.add_lit] using this
      have E1 : MCe k b = if MACL (MKY k) C = R then MDe C else 5 := by unfold MCe; rw [if_pos h32, if_neg (by omega), hC, hR, hq, hn]
      have E2 : MCv k b = if MACL (MKY k) C = R then MDv C else ⟨0, [], [], []⟩ := by unfold MCv; rw [if_pos h32, if_neg (by omega), hC, hR, hq, hn]
      rw [E1, E2]
      have CK := hideIt (fun (v1 : Value) (W : World) (o : Only (fun _ => False) w W) (h1 : Bs .u8 W v1 (MKY k)) => rcheck_bs v1 _ _ (MKY k) C R W h1 (h1.nocap (fun z => by have := HKL.out; rw [z] at this; cases this)) HK8.out (by rw [HKL.out]; decide) (bC.past o) (NoCap.some _ _ _) C8 (by omega) (bR.past o))
      have DC := hideIt (fun (W : World) (o : Only (fun _ => False) w W) => rdecode21_any _ C W (bC.past o) (NoCap.some _ _ _) C8 (by omega))
      have hsub : (n : Int) - 32 = (q : Int) := by omega
      have hwq : IntKind.i64.wrap (q : Int) = (q : Int) := by rw [IntKind.wrap_i64]; omega
      have c1 : (q : Int) ≤ (bc : Int) := by omega
      have c2 : (q : Int) ≤ (n : Int) := by omega
      have c0 : (0 : Int) ≤ (q : Int) := by omega
      have c3 : ¬ bc = q := by omega
      have hnq : n - q = 32 := by omega
      have i1 : ¬ (q : Int) < 0 := by omega
      have HKT : Hid (KDt k 4 [] = MKY k) := rfl
      by_cases ht : MACL (MKY k) C = R
      · rw [if_pos ht, if_pos ht]
        rw [decide_eq_true ht] at CK
        clear E1 E2 hb hv oa h32 hn ek hC hR hq hCl hRl C8 R8 bC bR hb8 hl hcap hs ht hwn
        go_enter Tryz.func17, Tryz.ntmps17
        go_wp2_with fail
        refine A.out.mono ?_
        rintro e w1 ⟨v1, rfl, own1, o1⟩
        have G1 := hideIt (o1.heap G0.out (fun f => f))
        have O1 := hideIt (OA.out.same o1)
        have D := hideIt (fun W (oW : Only (fun _ => False) w1 W) => CK.out v1 W (O1.out.same oW) (own1.past oW))
        clear A own1 o1 CK G0
        go_wp2_with fail
        go_region_held3 (fun W => Only (fun _ => False) w1 W) ((repeat (first | with_reducible exact Only.refl _ _ | assumption | (with_reducible refine Only.drew ?_) | (with_reducible refine Only.alloc ?_ _) | (with_reducible apply Only.same; case k => assumption)))) (first
          | (go_at_call 46; refine Calls.mono (D.out _ (by (repeat (first | with_reducible exact Only.refl _ _ | assumption | (with_reducible refine Only.drew ?_) | (with_reducible refine Only.alloc ?_ _) | (with_reducible apply Only.same; case k => assumption))))) ?_; rintro e w2 ⟨rfl, o2x⟩)
          | fail)
        have o2 : Only (fun _ => False) w1 w2 := by (repeat (first | with_reducible exact Only.refl _ _ | assumption | (with_reducible refine Only.drew ?_) | (with_reducible refine Only.alloc ?_ _) | (with_reducible apply Only.same; case k => assumption)))
        have HG2 := hideIt (o2.heap G1.out (fun f => f))
        have O2 := hideIt (O1.out.same o2)
        have E := hideIt (DC.out w2 O2.out)
        clear D G1 DC o2
        go_wp2_with fail
        refine E.out.mono ?_
        rintro e w3 ⟨x, vp, ve, vr, rfl, mn, o3⟩
        have K1 := o3.heap HG2.out (fun f => f)
        obtain ⟨ap, pc, ep⟩ := mn.prev.len
        obtain ⟨ae, ec, ee⟩ := mn.es.len
        obtain ⟨ar, rc, er⟩ := mn.root.len
        subst ep ee er
        have hx := mn.form
        subst hx
        have hs2 := O2.out.size
        obtain ⟨⟨k0, k1, k2, k3⟩, f0, f1, f2, f3⟩ := cells4 K1
        obtain ⟨g', og⟩ := put4 K1 (.int .u64 (MDv C).ver) (.slice ap (MDv C).prev.length pc) (.slice ae (MDv C).es.length ec) (.slice ar (MDv C).root.length rc)
        have K1' : Blk w3 w.heap.size 26 Z4 := K1
        have F := hideIt (And.intro (load_man g') (And.intro ((O2.out.same o3).trans og (fun i hi e => by omega)) (And.intro (mn.prev.offB K1' z4_kind og) (And.intro (mn.es.offB K1' z4_kindS og) (mn.root.offB K1' z4_kind og)))))
        clear E K1 o3 mn g' og HG2 K1'
        go_wp2
        refine bodyPost_ret (results_ct Tryz.results17 _ _ rfl rfl F.out.1) rfl ?_
        exact ⟨_, .slice ap (MDv C).prev.length pc, .slice ae (MDv C).es.length ec, .slice ar (MDv C).root.length rc, rfl, ⟨rfl, F.out.2.2.1, F.out.2.2.2.1, F.out.2.2.2.2⟩, F.out.2.1⟩
      · rw [if_neg ht, if_neg ht]
        rw [decide_eq_false ht] at CK
        clear E1 E2 hb hv oa h32 hn ek hC hR hq hCl hRl C8 R8 bC bR hb8 hl hcap hs ht DC hwn
        go_enter Tryz.func17, Tryz.ntmps17
        go_wp2_with fail
        refine A.out.mono ?_
        rintro e w1 ⟨v1, rfl, own1, o1⟩
        have G1 := hideIt (o1.heap G0.out (fun f => f))
        have O1 := hideIt (OA.out.same o1)
        have D := hideIt (fun W (oW : Only (fun _ => False) w1 W) => CK.out v1 W (O1.out.same oW) (own1.past oW))
        clear A own1 o1 CK G0
        go_wp2_with fail
        go_region_held3 (fun W => Only (fun _ => False) w1 W) ((repeat (first | with_reducible exact Only.refl _ _ | assumption | (with_reducible refine Only.drew ?_) | (with_reducible refine Only.alloc ?_ _) | (with_reducible apply Only.same; case k => assumption)))) (first
          | (go_at_call 46; refine Calls.mono (D.out _ (by (repeat (first | with_reducible exact Only.refl _ _ | assumption | (with_reducible refine Only.drew ?_) | (with_reducible refine Only.alloc ?_ _) | (with_reducible apply Only.same; case k => assumption))))) ?_; rintro e w2 ⟨rfl, o2x⟩)
          | fail)
        have o2 : Only (fun _ => False) w1 w2 := by (repeat (first | with_reducible exact Only.refl _ _ | assumption | (with_reducible refine Only.drew ?_) | (with_reducible refine Only.alloc ?_ _) | (with_reducible apply Only.same; case k => assumption)))
        have G2 := o2.heap G1.out (fun f => f)
        have O2 := hideIt (O1.out.same o2)
        obtain ⟨⟨k0, k1, k2, k3⟩, f0, f1, f2, f3⟩ := cells4 G2
        have F := hideIt (zero_back (w := w) (Nat.le_refl _) O2.out G2)
        clear D G1 o2 G2
        go_wp2
        refine bodyPost_ret (results_ct Tryz.results17 _ _ rfl rfl F.out.1) rfl ?_
        exact ⟨_, _, _, _, rfl, ⟨rfl, Bs.nil _ _, Ens.nil _, Bs.nil _ _⟩, F.out.2⟩
  · rw [KDe_no h32] at A
    have e1 : MCe k b = 1 := by unfold MCe; rw [if_neg h32]
    have e2 : MCv k b = ⟨0, [], [], []⟩ := by unfold MCv; rw [if_neg h32]
    rw [e1, e2]
    clear e1 e2 hb hv oa h32 hn ek hwn
    go_enter Tryz.func17, Tryz.ntmps17
    go_wp2_with fail
    refine A.out.mono ?_
    rintro e w1 ⟨v1, rfl, own1, o1⟩
    have G1 := o1.heap G0.out (fun f => f)
    obtain ⟨⟨c0, c1, c2, c3⟩, f0, f1, f2, f3⟩ := cells4 G1
    have F := hideIt (zero_back (w := w) (Nat.le_refl _) (OA.out.same o1) G1)
    clear A own1 o1 G1
    go_wp2
    refine bodyPost_ret (results_ct Tryz.results17 _ _ rfl rfl F.out.1) rfl ?_
    exact ⟨_, _, _, _, rfl, ⟨rfl, Bs.nil _ _, Ens.nil _, Bs.nil _ _⟩, F.out.2⟩
end Go.Proofs.YtiolgenaefillaaGreat
