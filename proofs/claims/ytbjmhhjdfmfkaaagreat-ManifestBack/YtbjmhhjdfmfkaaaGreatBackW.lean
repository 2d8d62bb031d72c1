/- ManifestBack: the walk. -/
import Derived.Test.YtbjmhhjdfmfkaaaGreatOnlyW
import Derived.Deep.Cut
namespace Go.Proofs.YtbjmhhjdfmfkaaaGreat
open Go.RowKit

theorem MDe_back {m : MAN} (h : MGD m) : MDv (MENC m) = m ∧ MDe (MENC m) = 0 := MD_ok (MDEC_back h)
theorem MDe_cut {m : MAN} (h : MGD m) {k : Nat} (hk : k < (MENC m).length) : MDe ((MENC m).take k) = 2 := (MD_err (MDEC_cut h hk)).2
theorem MDe_more {m : MAN} (h : MGD m) : MDe (MENC m ++ [0]) = 3 := (MD_err (MDEC_more h (by simp))).2
theorem MC_back {k : List Int} {m : MAN} (hk : k.length = 32) (h : MGD m) : MCv k (MENC m ++ MACL (MKY k) (MENC m)) = m ∧ MCe k (MENC m ++ MACL (MKY k) (MENC m)) = 0 := by
  have hl : (MENC m ++ MACL (MKY k) (MENC m)).length = (MENC m).length + 32 := by rw [List.length_append, MACL_len]
  have e1 : (MENC m ++ MACL (MKY k) (MENC m)).take ((MENC m ++ MACL (MKY k) (MENC m)).length - 32) = MENC m := by rw [hl, Nat.add_sub_cancel, List.take_left]
  have e2 : (MENC m ++ MACL (MKY k) (MENC m)).drop ((MENC m ++ MACL (MKY k) (MENC m)).length - 32) = MACL (MKY k) (MENC m) := by rw [hl, Nat.add_sub_cancel, List.drop_left]
  unfold MCv MCe
  have hn : ¬ (MENC m ++ MACL (MKY k) (MENC m)).length < 32 := by omega
  rw [e1, e2, if_pos hk, if_pos hk, if_neg hn, if_neg hn, if_pos rfl, if_pos rfl]
  exact MDe_back h
theorem few_of {m : MAN} (h : FEWM m = true) : m.es.length ≤ 100 ∧ m.prev.length ≤ 300 ∧ m.root.length ≤ 300 ∧ ∀ e ∈ m.es, e.1.length ≤ 200 := of_decide_eq_true h
/-- a manifest in a box: its whole load -/
theorem box_cells {W : World} {N : Nat} {x0 x1 x2 x3 : Value} (h : W.heap[N]? = some (.cells #[x0, x1, x2, x3] 26 (0, 0))) : W.cell? ⟨N, 0, none⟩ = some x0 ∧ W.cell? ⟨N, 1, none⟩ = some x1 ∧ W.cell? ⟨N, 2, none⟩ = some x2 ∧ W.cell? ⟨N, 3, none⟩ = some x3 := (cells4 h).1
theorem own_mt (w : World) : (w.alloc (.cells #[] 5)).ownsRow w.heap.size 5 1 (.slice (some ⟨w.heap.size, 0, none⟩) 0 0) 0 [] :=
  ⟨rfl, .inr ⟨w.heap.size, 0, #[], rfl, Nat.le_refl _, heap_alloc_new w _, Nat.le_refl _, Nat.zero_le _, rfl, rfl⟩⟩
set_option maxHeartbeats 4000000 in
set_option maxRecDepth 100000 in
theorem back_walk (vk x vp ve vr : Value) (k : List Int) (m : MAN) (cut : Int) (w : World) (hb : Bs .u8 w vk k) (k8 : U8 k) (h : Mf w x m vp ve vr) (hk : Mok m) (np : NoCap vp) (nr : NoCap vr) :
    Calls Tryz.prog 6 #[vk, x, .int .i64 cut] w fun e w' => e = .returned (.bool true) ∧ Only (fun _ => False) w w' := by
  obtain ⟨i0, hi, hz0, hz1, hz2⟩ := info_parts Tryz.infoU8
  have hf := h.form
  obtain ⟨ap, pc, ep⟩ := h.prev.len
  obtain ⟨ae, ec, ee⟩ := h.es.len
  obtain ⟨ar, rc, er⟩ := h.root.len
  obtain ⟨ak, kl, kc, hvk, hkl⟩ : ∃ ak kl kc, vk = .slice ak kl kc ∧ kl = k.length := by
    obtain ⟨a, c, e⟩ := hb.len
    exact ⟨a, k.length, c, e, rfl⟩
  subst ep ee er hf hvk
  obtain ⟨BX, hBX⟩ : ∃ BX : Obj, BX = .cells #[.int .u64 m.ver, .slice ap m.prev.length pc, .slice ae m.es.length ec, .slice ar m.root.length rc] 26 := ⟨_, rfl⟩
  obtain ⟨X, hX⟩ : ∃ X : Value, X = .agg #[.int .u64 m.ver, .slice ap m.prev.length pc, .slice ae m.es.length ec, .slice ar m.root.length rc] := ⟨_, rfl⟩
  have oa : Only (fun _ => False) w (w.alloc BX) := (Only.refl _ _).alloc _
  have K0 : Hid ((w.alloc BX).heap[w.heap.size]? = some (.cells #[.int .u64 m.ver, .slice ap m.prev.length pc, .slice ae m.es.length ec, .slice ar m.root.length rc] 26 (0, 0))) := by
    simp only [Hid]; rw [hBX]; exact heap_alloc_new w _
  rw [hBX] at oa K0
  have A := hideIt (awake_any (w.alloc (.cells #[.int .u64 m.ver, .slice ap m.prev.length pc, .slice ae m.es.length ec, .slice ar m.root.length rc] 26)))
  have OA := hideIt oa
  have FW := hideIt (fun W (o : Only (fun _ => False) w W) => few_any _ _ _ _ m W (h.past o))
  have H := hideIt h
  have HKB := hideIt hb
  clear oa hBX hX hb
  cases hfew : FEWM m with
  | false =>
    rw [hfew] at FW
    clear h hk np nr
    go_enter Tryz.func6, Tryz.ntmps6
    go_wp2_with fail
    refine A.out.mono ?_
    rintro e w1 ⟨rfl, o1⟩
    obtain ⟨k0, k1, k2, k3⟩ := box_cells (o1.heap K0.out (fun f => f))
    have O1 := hideIt (OA.out.same o1)
    clear A o1 K0 OA
    go_wp2_with fail
    refine (FW.out w1 O1.out).mono ?_
    rintro e w2 ⟨rfl, o2⟩
    have O2 := hideIt (O1.out.same o2)
    clear FW o2 O1
    go_wp2
    go_ret
    exact ⟨rfl, O2.out⟩
  | true =>
    rw [hfew] at FW
    obtain ⟨f1, f2, f3, f4⟩ := few_of hfew
    have hm63 : m.es.length ≤ 9223372036854775806 := by omega
    have EN := hideIt (fun W (o : Only (fun _ => False) w W) => encode_any _ _ _ _ m W (h.past o) hk np nr hm63)
    by_cases her : MEr m = 0
    · rw [her, show MEt m = MENC m by unfold MEt; rw [if_pos her]] at EN
      have hG := (MEr_ok hk).1 her
      have hle := MENC_le hG
      have h8 := MENC_u8 hG
      have SG := hideIt (fun W (o : Only (fun _ => False) w W) => sign_any _ _ _ _ _ k m W (HKB.out.past o) k8 (h.past o) hk np nr hm63)
      obtain ⟨E, hE⟩ : ∃ E, E = MENC m := ⟨_, rfl⟩
      have DB := hideIt (MDe_back hG)
      have DC := hideIt (fun q (hq : q < (MENC m).length) => MDe_cut hG hq)
      have DM := hideIt (MDe_more hG)
      have MS : Hid (MSe k m = if kl = 32 then 0 else 1) := by simp only [Hid]; unfold MSe; rw [hkl, her]
      have MT : Hid (kl = 32 → MSt k m = E ++ MACL (MKY k) E ∧ MCv k (E ++ MACL (MKY k) E) = m ∧ MCe k (E ++ MACL (MKY k) E) = 0) := fun e32 => by
        have e1 : MSe k m = 0 := by unfold MSe; rw [← hkl, if_pos e32, her]
        refine ⟨by unfold MSt; rw [if_pos e1, hE], ?_⟩
        rw [hE]
        exact MC_back (by rw [← hkl]; exact e32) hG
      rw [← hE] at EN hle h8 DB DC DM
      have LM := hideIt (fun (W : World) (y yp ye yr : Value) (o : Only (fun _ => False) w W) (hy : Mf W y m yp ye yr) => lsame21_eq y _ _ _ _ _ _ _ m W hy (h.past o) (by omega) (by omega) (by omega))
      have hand := i64_low cut 13 (by decide)
      rw [show ((2 ^ 13 - 1 : Nat) : Int) = 8191 from rfl, show ((2 ^ 13 : Nat) : Int) = 8192 from rfl] at hand
      obtain ⟨q, hq⟩ : ∃ q : Nat, cut % 8192 = (q : Int) := ⟨(cut % 8192).toNat, by omega⟩
      rw [hq] at hand
      obtain ⟨L, hL⟩ : ∃ L, L = E.length := ⟨_, rfl⟩
      have HL := hideIt hL
      rw [← hL] at hle
      clear h hk np nr hE her hG hq hL hkl f1 f2 f3 f4
      go_enter Tryz.func6, Tryz.ntmps6
      go_wp2_with fail
      refine A.out.mono ?_
      rintro e w1 ⟨rfl, o1⟩
      have K1 := hideIt (o1.heap K0.out (fun f => f))
      obtain ⟨k0, k1, k2, k3⟩ := box_cells K1.out
      have O1 := hideIt (OA.out.same o1)
      clear A o1 K0 OA
      go_wp2_with fail
      refine (FW.out w1 O1.out).mono ?_
      rintro e w2 ⟨rfl, o2⟩
      have K2 := hideIt (o2.heap K1.out (fun f => f))
      have O2 := hideIt (O1.out.same o2)
      clear FW o2 O1 k0 k1 k2 k3 K1
      obtain ⟨k0, k1, k2, k3⟩ := box_cells K2.out
      go_wp2_with fail
      refine (EN.out w2 O2.out).mono ?_
      rintro e w3 ⟨vb, rfl, own3, o3⟩
      obtain ⟨ab, cb, eb⟩ := (Bs.of_own (k := .u8) own3).len
      rw [← HL.out] at eb
      subst eb
      have K3 := hideIt (o3.heap K2.out (fun f => f))
      have O3 := hideIt (O2.out.same o3)
      have B3 := hideIt (And.intro (Bs.of_own (k := .u8) own3) (NoCap.of_own own3))
      have DE := hideIt (decode_any _ E w3 (Bs.of_own own3) h8 (by rw [← HL.out]; omega))
      rw [DB.out.1, DB.out.2] at DE
      clear EN o3 O2 k0 k1 k2 k3 K2 own3
      go_wp2_with fail
      refine DE.out.mono ?_
      rintro e w4 ⟨y, yp, ye, yr, rfl, mn, o4⟩
      have hy := mn.mf.form
      obtain ⟨bp, qp, ebp⟩ := mn.mf.prev.len
      obtain ⟨be, qe, ebe⟩ := mn.mf.es.len
      obtain ⟨br, qr, ebr⟩ := mn.mf.root.len
      subst ebp ebe ebr hy
      have ob : Only (fun _ => False) w4 (w4.alloc (.cells #[.int .u64 m.ver, .slice bp m.prev.length qp, .slice be m.es.length qe, .slice br m.root.length qr] 26)) := (Only.refl _ _).alloc _
      have K4 := hideIt ((o4.same ob).heap K3.out (fun f => f))
      obtain ⟨k0, k1, k2, k3⟩ := box_cells K4.out
      obtain ⟨l0, l1, l2, l3⟩ := box_cells (heap_alloc_new w4 (.cells #[.int .u64 m.ver, .slice bp m.prev.length qp, .slice be m.es.length qe, .slice br m.root.length qr] 26))
      have O4 := hideIt (O3.out.same (o4.same ob))
      have B4 := hideIt (And.intro (B3.out.1.past (o4.same ob)) B3.out.2)
      have LE := hideIt (LM.out _ _ _ _ _ O4.out (mn.mf.past ob))
      clear DE o4 ob O3 K3 B3 mn
      go_wp2_with fail
      refine LE.out.mono ?_
      rintro e w5 ⟨rfl, o5⟩
      have K5 := hideIt (o5.heap K4.out (fun f => f))
      have O5 := hideIt (O4.out.same o5)
      have B5 := hideIt (And.intro (B4.out.1.past o5) B4.out.2)
      clear LE o5 O4 K4 B4 k0 k1 k2 k3 l0 l1 l2 l3
      go_upto_if 57 with fail
      go_cut [] from 13 (fun W => Only (fun _ => False) w5 W)
      case first =>
        by_cases hqL : q < L
        · have i1 : (q : Int) < (L : Int) := by omega
          have i2 : (0 : Int) ≤ (q : Int) := by omega
          have hrm := B5.out.1.room
          have i3 : (q : Int) ≤ (cb : Int) := by omega
          have CD := hideIt (decode_any _ (E.take q) w5 (B5.out.1.head (n := q) (by omega)) (h8.take q) (by rw [List.length_take, ← HL.out]; omega))
          rw [DC.out q (by rw [← HL.out]; exact hqL)] at CD
          clear hrm
          go_wp2_with fail
          refine CD.out.mono ?_
          rintro e w6 ⟨y6, yp6, ye6, yr6, rfl, mn6, o6⟩
          have hy6 := mn6.mf.form
          obtain ⟨bp6, qp6, ebp6⟩ := mn6.mf.prev.len
          obtain ⟨be6, qe6, ebe6⟩ := mn6.mf.es.len
          obtain ⟨br6, qr6, ebr6⟩ := mn6.mf.root.len
          subst ebp6 ebe6 ebr6 hy6
          have O6 := hideIt o6
          clear CD mn6 o6
          go_wp2_with fail
          go_meet
          exact O6.out.alloc _
        · have i1 : ¬ (q : Int) < (L : Int) := by omega
          go_wp2_with fail
          go_meet
          exact Only.refl _ _
      case rest =>
        have O6 := hideIt (O5.out.same hcut)
        have K6 := hideIt (hcut.heap K5.out (fun f => f))
        have B6 := hideIt (And.intro (B5.out.1.past hcut) B5.out.2)
        clear hcut O5 K5 B5
        have B7 := hideIt (B6.out.1.past ((Only.refl (fun _ => False) wc).alloc (.cells #[] 5)))
        have ho7 := own_mt wc
        go_wp2_with (first
          | (at_builtin; refine wpList_append_bs _ rfl _ _ 23 rfl wc.heap.size 5 i0 (.int .u8 0) 1 Tryz.underlying23 hi hz0 hz1 hz2 rfl (.slice (some ⟨wc.heap.size, 0, none⟩) 0 0) 0 [] rfl ho7 .u8 _ E rfl B7.out B6.out.2 (by rw [← HL.out]; unfold maxLen; omega) (by rw [← HL.out]; omega) (by simp) ?_; intro v8 w8 own8 gr8 _ _)
          | (at_builtin; refine wpList_append_bs _ rfl _ _ 23 rfl wc.heap.size 5 i0 (.int .u8 0) 1 Tryz.underlying23 hi hz0 hz1 hz2 rfl v8 (0 + E.length) _ rfl (own8.alloc _) .u8 (.slice (some ⟨w8.heap.size, 0, none⟩) 1 1) [0] rfl (Bs.litN .u8 w8 5 [0] _ _ rfl rfl) (NoCap.some _ _ _) (by rw [← HL.out]; unfold maxLen; simp; omega) (by rw [← HL.out]; simp; omega) (by have := gr8.size; simp at this ⊢; omega) ?_; intro v9 w9 own9 gr9 _ _)
          | fail)
        have ow9 : w9.ownsRow wc.heap.size 5 1 v9 (E ++ [0]).length ((E ++ [0]).map (Value.int .u8)) := by
          rw [List.map_append]
          simpa using own9
        have oc9 : Only (fun _ => False) wc w9 := ((((Only.refl _ wc).alloc _).grown gr8 (fun j hj e => by have := (ho7.lt j e).1; omega)).alloc _).grown gr9 (fun j hj e => by have := (own8.lt j e).1; omega)
        have e8 : U8 (E ++ [0]) := fun y hy => by
          rcases List.mem_append.1 hy with h1 | h1
          · exact h8 y h1
          · rw [List.mem_singleton] at h1; omega
        have DX := hideIt (decode_any v9 (E ++ [0]) w9 (Bs.of_own ow9) e8 (by rw [List.length_append, ← HL.out]; simp; omega))
        rw [DM.out] at DX
        have O9 := hideIt (O6.out.same oc9)
        have K9 := hideIt (oc9.heap K6.out (fun f => f))
        clear B7 ho7 own8 gr8 own9 gr9 ow9 oc9 e8 O6 K6
        refine DX.out.mono ?_
        rintro e w10 ⟨y6, yp6, ye6, yr6, rfl, mn6, o10⟩
        have hy6 := mn6.mf.form
        obtain ⟨bp6, qp6, ebp6⟩ := mn6.mf.prev.len
        obtain ⟨be6, qe6, ebe6⟩ := mn6.mf.es.len
        obtain ⟨br6, qr6, ebr6⟩ := mn6.mf.root.len
        subst ebp6 ebe6 ebr6 hy6
        have ox : Only (fun _ => False) w10 (w10.alloc (.cells #[.int .u64 (MDv (E ++ [0])).ver, .slice bp6 (MDv (E ++ [0])).prev.length qp6, .slice be6 (MDv (E ++ [0])).es.length qe6, .slice br6 (MDv (E ++ [0])).root.length qr6] 26)) := (Only.refl _ _).alloc _
        have O10 := hideIt (O9.out.same (o10.same ox))
        have K10 := hideIt ((o10.same ox).heap K9.out (fun f => f))
        obtain ⟨k0, k1, k2, k3⟩ := box_cells K10.out
        have SX := hideIt (SG.out _ O10.out)
        clear DX mn6 o10 ox O9 K9 SG
        go_wp2_with fail
        refine SX.out.mono ?_
        rintro e w11 ⟨vs, rfl, own11, o11⟩
        have O11 := hideIt (O10.out.same o11)
        have K11 := hideIt (o11.heap K10.out (fun f => f))
        clear SX O10 K10 k0 k1 k2 k3
        by_cases h32 : kl = 32
        · obtain ⟨m1, m2, m3⟩ := MT.out h32
          rw [MS.out, if_pos h32]
          rw [m1] at own11
          have hml := MACL_len (MKY k) E
          obtain ⟨M, hM⟩ : ∃ M, M = L + 32 := ⟨_, rfl⟩
          have hSl : (E ++ MACL (MKY k) E).length = M := by rw [List.length_append, hml, ← HL.out, hM]
          have S8 : U8 (E ++ MACL (MKY k) E) := fun y hy => by
            rcases List.mem_append.1 hy with h1 | h1
            · exact h8 y h1
            · exact MACL_u8 _ _ y h1
          have CX := hideIt (check_any _ vs k (E ++ MACL (MKY k) E) w11 (HKB.out.past O11.out) k8 (Bs.of_own own11) S8 (by omega))
          rw [m2, m3] at CX
          obtain ⟨as1, cs1, es1⟩ := (Bs.of_own (k := .u8) own11).len
          rw [hSl] at es1
          subst es1
          subst h32
          have hw32 : ((L : Int) + 32) = (M : Int) := by omega
          have hwm : M ≤ 2000000000 := by omega
          clear hM
          clear own11 m1 m2 m3 hml hSl S8 MT MS
          go_wp2_with fail
          refine CX.out.mono ?_
          rintro e w12 ⟨y7, yp7, ye7, yr7, rfl, mn7, o12⟩
          have hy7 := mn7.mf.form
          obtain ⟨bp7, qp7, ebp7⟩ := mn7.mf.prev.len
          obtain ⟨be7, qe7, ebe7⟩ := mn7.mf.es.len
          obtain ⟨br7, qr7, ebr7⟩ := mn7.mf.root.len
          subst ebp7 ebe7 ebr7 hy7
          have ob : Only (fun _ => False) w12 (w12.alloc (.cells #[.int .u64 m.ver, .slice bp7 m.prev.length qp7, .slice be7 m.es.length qe7, .slice br7 m.root.length qr7] 26)) := (Only.refl _ _).alloc _
          have K12 := hideIt ((o12.same ob).heap K11.out (fun f => f))
          obtain ⟨k0, k1, k2, k3⟩ := box_cells K12.out
          obtain ⟨l0, l1, l2, l3⟩ := box_cells (heap_alloc_new w12 (.cells #[.int .u64 m.ver, .slice bp7 m.prev.length qp7, .slice be7 m.es.length qe7, .slice br7 m.root.length qr7] 26))
          have O12 := hideIt (O11.out.same (o12.same ob))
          have LE := hideIt (LM.out _ _ _ _ _ O12.out (mn7.mf.past ob))
          clear CX mn7 o12 ob O11 K11
          go_wp2_with (first
            | (go_at_call 16; refine LE.out.mono ?_; rintro e w13 ⟨rfl, o13⟩)
            | fail)
          go_ret
          exact ⟨rfl, O12.out.same o13⟩
        · rw [MS.out, if_neg h32]
          have d32 : ((kl : Int) != 32) = true := by simp; omega
          clear own11 o11 MT MS h32
          go_wp2
          go_ret
          exact ⟨rfl, O11.out⟩
    · have e2 : MEt m = [] := by unfold MEt; rw [if_neg her]
      rw [e2] at EN
      obtain ⟨c, hc⟩ : ∃ c, c = MEr m := ⟨_, rfl⟩
      rw [← hc] at EN her
      have hcb : (c != 0) = true := by simpa using her
      clear h hk np nr hc her e2
      go_enter Tryz.func6, Tryz.ntmps6
      go_wp2_with fail
      refine A.out.mono ?_
      rintro e w1 ⟨rfl, o1⟩
      have K1 := hideIt (o1.heap K0.out (fun f => f))
      obtain ⟨k0, k1, k2, k3⟩ := box_cells K1.out
      have O1 := hideIt (OA.out.same o1)
      clear A o1 K0 OA
      go_wp2_with fail
      refine (FW.out w1 O1.out).mono ?_
      rintro e w2 ⟨rfl, o2⟩
      have K2 := hideIt (o2.heap K1.out (fun f => f))
      have O2 := hideIt (O1.out.same o2)
      clear FW o2 O1 k0 k1 k2 k3 K1
      obtain ⟨k0, k1, k2, k3⟩ := box_cells K2.out
      go_wp2_with fail
      refine (EN.out w2 O2.out).mono ?_
      rintro e w3 ⟨vb, rfl, own3, o3⟩
      obtain ⟨ab, cb, eb⟩ := (Bs.of_own (k := .u8) (xs := []) own3).len
      rw [List.length_nil] at eb
      subst eb
      have O3 := hideIt (O2.out.same o3)
      clear EN o3 O2 own3
      go_wp2
      go_ret
      exact ⟨rfl, O3.out⟩
end Go.Proofs.YtbjmhhjdfmfkaaaGreat
