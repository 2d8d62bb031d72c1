/- The document's manifest: Encode, by what its tenants are. -/
import Derived.Test.YtiolgenaefillaaGreatRx21
import Derived.Test.YtiolgenaefillaaGreatMh
import Derived.Test.YtiolgenaefillaaGreatCRef2
import Derived.Test.YtiolgenaefillaaGreatVRef
namespace Go.Proofs.YtiolgenaefillaaGreat
open Go.RowKit

/-- what the document's tenants are -/
def RTN (T : List (List Int)) (v : Value) (w : World) : Prop := Calls Tryz.prog 28 #[v] w fun e w' => ∃ u, e = .returned u ∧ Sts w' u T ∧ Only (fun _ => False) w w'
theorem own_lit4 (w : World) : (w.alloc (.cells #[.int .u8 67, .int .u8 83, .int .u8 75, .int .u8 49] 5)).ownsRow w.heap.size 5 1 (.slice (some ⟨w.heap.size, 0, none⟩) 4 4) 4 (MHD.map (Value.int .u8)) :=
  ⟨rfl, .inr ⟨w.heap.size, 4, _, rfl, Nat.le_refl _, heap_alloc_new w _, Nat.le_refl _, by unfold maxLen; omega, rfl, rfl⟩⟩
theorem own_slice {w : World} {lo : Nat} {E : TypeId} {size : Nat} {v : Value} {n : Nat} {xs : List Value} (h : w.ownsRow lo E size v n xs) : ∃ a c, v = .slice a n c := by
  rcases h.2 with ⟨rfl, h0⟩ | ⟨g, cap, cur, rfl, _⟩
  · exact ⟨none, 0, by rw [h0]⟩
  · exact ⟨_, _, rfl⟩
set_option maxHeartbeats 4000000 in
set_option maxRecDepth 100000 in
theorem rencode21_ok (x vp ve vr : Value) (m : MAN) (w : World) (h : Mf w x m vp ve vr) (hk : Mok m) (np : NoCap vp) (nr : NoCap vr) (hl : m.es.length ≤ 100) (her : MEr m = 0)
    (HTN : ∀ W, Only (fun _ => False) w W → RTN (MTN m) ve W) :
    Calls Tryz.prog 9 #[x] w fun e w' => ∃ u, e = .returned (.tuple #[u, .int .i64 0]) ∧ w'.ownsRow w.heap.size 5 1 u (MENC m).length ((MENC m).map (Value.int .u8)) ∧ Only (fun _ => False) w w' := by
  obtain ⟨i0, hi, hz0, hz1, hz2⟩ := info_parts Tryz.infoU8
  have hf := h.form
  obtain ⟨ap, pc, ep⟩ := h.prev.len
  obtain ⟨ae, ec, ee⟩ := h.es.len
  obtain ⟨ar, rc, er⟩ := h.root.len
  subst ep ee er hf
  have oa : Only (fun _ => False) w (w.alloc (.cells #[.int .u64 m.ver, .slice ap m.prev.length pc, .slice ae m.es.length ec, .slice ar m.root.length rc] 26)) := (Only.refl _ _).alloc _
  have K0 := hideIt (heap_alloc_new w (.cells #[.int .u64 m.ver, .slice ap m.prev.length pc, .slice ae m.es.length ec, .slice ar m.root.length rc] 26))
  have A := hideIt (wrong_any _ _ _ _ m _ (h.past oa) hk hl)
  rw [her] at A
  have OA := hideIt oa
  obtain ⟨g1, g2, g3, g4, g5⟩ := (MEr_ok hk).1 her
  rw [g2.1] at np
  rw [g3.1] at nr
  have HE := hideIt h.es
  have HP := hideIt h.prev
  have HR := hideIt h.root
  have TNC := hideIt HTN
  have HT64 : Hid (∀ x ∈ MTN m, U8 x ∧ x.length ≤ 64) := fun x hx => by
    obtain ⟨e, he', rfl⟩ := List.mem_map.1 ((mem_TEN _ _).1 hx)
    exact ⟨(g5 e he').1.2, (g5 e he').1.1⟩
  have HTM : Hid (∀ e ∈ m.es, e.1 ∈ MTN m) := fun e he' => MTN_mem he'
  have HX8 : Hid (∀ e ∈ m.es, e.1.length ≤ 64 ∧ 0 ≤ e.2 ∧ e.2 ≤ 8) := fun e he' => ⟨(g5 e he').1.1, (g5 e he').2⟩
  have hTl : (MTN m).length ≤ 100 := Nat.le_trans (MTN_len m) hl
  have HRS := hideIt (ris_TEN (m.es.map Prod.fst))
  have HME : Hid (MENC m = (MHD ++ fixL (m.ver : Int) 8 ++ m.prev ++ TBS (MTN m) (MTN m).length) ++ EBS (MTN m) m.es m.es.length ++ m.root) := by
    simp only [Hid]; rw [TBS_all, EBS_all]; simp [MENC]
  have HTB := hideIt (fun k hk => TBS_le (MTN m) k hk (by omega) (fun x hx => (HT64.out x hx).2))
  have HEB := hideIt (fun k hk => EBS_le (MTN m) m.es k hk (by omega) HTM.out (by omega))
  have HF8 := hideIt (fun W => rfix_any (m.ver : Int) 8 W (by decide))
  rw [show ((8 : Nat) : Int) = 8 from rfl] at HF8
  rw [HME.out]
  have l1 : m.prev.length = 32 := g2.1
  have l2 : m.root.length = 32 := g3.1
  change Hid (RIS (MTN m)) at HRS
  obtain ⟨T, hT⟩ : ∃ T, T = MTN m := ⟨_, rfl⟩
  rw [← hT] at TNC HT64 HTM hTl HRS HTB HEB
  rw [← hT]
  obtain ⟨E, hE⟩ : ∃ E, E = m.es := ⟨_, rfl⟩
  rw [← hE] at HE HTM HX8 hl HEB A OA K0 TNC
  rw [← hE]
  obtain ⟨pv, hpv⟩ : ∃ pv, pv = m.prev := ⟨_, rfl⟩
  rw [← hpv] at HP l1 A OA K0
  rw [← hpv]
  obtain ⟨rt, hrt⟩ : ∃ rt, rt = m.root := ⟨_, rfl⟩
  rw [← hrt] at HR l2 A OA K0
  rw [← hrt]
  obtain ⟨ver, hver⟩ : ∃ ver, ver = m.ver := ⟨_, rfl⟩
  rw [← hver] at A OA K0 HF8
  rw [← hver]
  rw [l1, l2] at A OA K0
  rw [l1] at HP
  rw [l2] at HR
  rw [l1, l2]
  obtain ⟨n, hn⟩ : ∃ n, n = E.length := ⟨_, rfl⟩
  have HN := hideIt hn
  rw [← hn] at A OA K0 HE hl TNC
  rw [← hn]
  obtain ⟨PRE, hPRE⟩ : ∃ PRE, PRE = MHD ++ fixL (ver : Int) 8 ++ pv := ⟨_, rfl⟩
  have hPl : PRE.length = 44 := by rw [hPRE]; simp [fixL_len, l1, MHD]
  have HPR := hideIt hPRE
  rw [← hPRE]
  have HL12 := hideIt (And.intro l1 l2)
  clear h hk oa her g1 g2 g3 g4 g5 HTN HME hT hE hpv hrt hver hn hPRE l1 l2
  have e32 : ((32 : Nat) : Int) = 32 := rfl
  go_enter Tryz.func9, Tryz.ntmps9
  go_wp2_with fail
  refine A.out.mono ?_
  rintro e w1 ⟨rfl, o1⟩
  have K1 := hideIt (o1.heap K0.out (fun f => f))
  obtain ⟨k0, k1, k2, k3⟩ := heap4 (((Only.refl (fun _ => False) w1).alloc (.cells #[.int .u8 67, .int .u8 83, .int .u8 75, .int .u8 49] 5)).heap K1.out (fun f => f))
  have O1 := hideIt (OA.out.same o1)
  clear A o1 K0 OA
  go_wp2_with fail
  refine (HF8.out _).mono ?_
  rintro e w2 ⟨v2, rfl, own2, o2⟩
  have ol := own_lit4 w1
  have ol2 := o2.own ol (fun _ _ f => f)
  have b2 := Bs.of_own (k := .u8) own2
  have n2 := NoCap.of_own own2
  have oz : Only (fun _ => False) w1 (w1.alloc (.cells #[.int .u8 67, .int .u8 83, .int .u8 75, .int .u8 49] 5)) := (Only.refl _ _).alloc _
  have o12 := oz.same o2
  have s2 := o12.size
  have f8 := fixL_len (ver : Int) 8
  have K2 := hideIt (o12.heap K1.out (fun f => f))
  have O2 := hideIt (O1.out.same o12)
  have O12 := hideIt o12
  clear HF8 k0 k1 k2 k3 oz o12 o2 ol
  go_wp2_with (first
    | (at_builtin; refine wpList_append_bs _ rfl _ _ 23 rfl w1.heap.size 5 i0 (.int .u8 0) 1 Tryz.underlying23 hi hz0 hz1 hz2 rfl (.slice (some ⟨w1.heap.size, 0, none⟩) 4 4) 4 _ rfl ol2 .u8 v2 (fixL (ver : Int) 8) rfl b2 n2 (by rw [f8]; unfold maxLen; omega) (by rw [f8]; omega) (by omega) ?_; intro v3 w3 own3 gr3 _ _; have og3 := hideIt (O12.out.grown gr3 (fun j hj e => by have := (ol2.lt j e).1; omega)); have s3 := og3.out.size; obtain ⟨k0, k1, k2, k3⟩ := heap4 (og3.out.heap K1.out (fun f => f)); clear gr3 b2 n2 ol2 own2; rw [f8] at own3)
    | (at_builtin; refine wpList_append_bs _ rfl _ _ 23 rfl w1.heap.size 5 i0 (.int .u8 0) 1 Tryz.underlying23 hi hz0 hz1 hz2 rfl v3 (4 + 8) _ rfl own3 .u8 (.slice ap 32 pc) pv rfl (HP.out.past (O1.out.same og3.out)) np (by rw [HL12.out.1]; unfold maxLen; omega) (by rw [HL12.out.1]; omega) (by omega) ?_; intro v4 w4 own4 gr4 _ _; have og4 := hideIt (og3.out.grown gr4 (fun j hj e => by have := (own3.lt j e).1; omega)); clear k0 k1 k2 k3; obtain ⟨k0, k1, k2, k3⟩ := heap4 (og4.out.heap K1.out (fun f => f)); clear gr4 own3 og3 s3; rw [HL12.out.1] at own4)
    | fail)
  refine Calls.mono (TNC.out w4 (O1.out.same og4.out)) ?_
  rintro e w5 ⟨vt, rfl, hts, o5⟩
  obtain ⟨ta, tc, rfl⟩ := hts.len
  have own4' : w4.ownsRow w1.heap.size 5 1 v4 PRE.length (PRE.map (Value.int .u8)) := by
    rw [hPl, HPR.out, List.map_append, List.map_append]; exact own4
  have own5 := o5.own own4' (fun _ _ f => f)
  have B5 := hideIt (rappend_any v4 PRE (T.length : Int) w5 (Bs.of_own (k := .u8) own5) (NoCap.of_own own5) (by omega) (by omega) (by omega))
  rw [Int.toNat_natCast, ← TBS_zero] at B5
  have K5 := hideIt ((og4.out.same o5).heap K1.out (fun f => f))
  have O5 := hideIt (O1.out.same (og4.out.same o5))
  have HTS := hideIt hts
  have E5 := hideIt (HE.out.past O5.out)
  have R5 := hideIt (HR.out.past O5.out)
  have hwt : IntKind.u64.wrap (T.length : Int) = T.length := by rw [IntKind.wrap_u64]; omega
  obtain ⟨t, ht⟩ : ∃ t, t = T.length := ⟨_, rfl⟩
  have HTL := hideIt ht
  rw [← ht] at B5 HTS hTl hwt
  rw [← ht]
  have FIN : Hid (∀ u (W : World) (Z : List Int), W.ownsRow w5.heap.size 5 1 u Z.length (Z.map (Value.int .u8)) → Only (fun _ => False) w5 W → W.ownsRow w.heap.size 5 1 u Z.length (Z.map (Value.int .u8)) ∧ Only (fun _ => False) w W) :=
    fun u W Z a b => ⟨own_low a O5.out.size, O5.out.same b⟩
  clear TNC K2 K1 O1 O2 O12 og4 own4 own4' own5 hts o5 k0 k1 k2 k3 f8 s2 ht HE HR HP np O5
  go_wp2_with fail
  refine B5.out.mono ?_
  rintro e w6 ⟨u6, rfl, own6, o6⟩
  have F0 := hideIt (And.intro own6 o6)
  have HS := hideIt (TBS_succ T)
  clear own6 o6 B5 hwt
  go_wp2_with fail
  go_loopw [5, 7] (fun u i wr => ∃ k : Nat, k ≤ t ∧ i = .int .i64 k ∧ wr.ownsRow w5.heap.size 5 1 u (PRE ++ TBS T k).length ((PRE ++ TBS T k).map (Value.int .u8)) ∧ Only (fun _ => False) w5 wr) (fun _ i _ => t - (intOf i).toNat)
  case atStart => exact ⟨0, Nat.zero_le _, rfl, F0.out⟩
  case round =>
    clear F0
    obtain ⟨k, hk, rfl, own, on⟩ := hrel
    by_cases hlt : k < t
    · have hlt' : k < T.length := by rw [← HTL.out]; exact hlt
      obtain ⟨b, off, cap', e, hc0⟩ := (HTS.out.past on).at k hlt'
      simp only [Value.slice.injEq] at e
      obtain ⟨rfl, hmx, rfl⟩ := e
      clear hmx
      obtain ⟨xu, xl⟩ := HT64.out _ (eget_mem (s := T) (d := []) hlt')
      have SC := hideIt (HS.out k hlt')
      have LE := HTB.out k (by omega)
      have HSB := sb_of xu
      obtain ⟨x, hx⟩ : ∃ x, x = T.getD k [] := ⟨_, rfl⟩
      rw [← hx] at hc0 SC xu xl HSB
      have hcv := conv_bytes (strOfNums x)
      have hsz : (strOfNums x).size = x.length := size_nums x
      have hge := grownCap_ge wr (strOfNums x).size 0 5
      obtain ⟨c, hc⟩ : ∃ c, c = grownCap wr (strOfNums x).size 0 5 := ⟨_, rfl⟩
      rw [← hc] at hge
      have o2 : Only (fun _ => False) wr (wr.alloc (bytesObj (strOfNums x) c)).drew := ((Only.refl _ _).alloc _).drew
      have B := hideIt (rblocked_any (.slice (some ⟨wr.heap.size, 0, none⟩) (strOfNums x).size c) x (wr.alloc (bytesObj (strOfNums x) c)).drew (by have := bytesObj_bs (heap_drew_at (heap_at_new (W := wr) (o := bytesObj (strOfNums x) c) rfl)) (by omega : (strOfNums x).size ≤ c); rw [HSB] at this; exact this) (NoCap.some _ _ _) (by omega))
      have HBL := blk_len x (by omega)
      obtain ⟨X, hX⟩ : ∃ X, X = blk x := ⟨_, rfl⟩
      rw [← hX] at B SC HBL
      have LE2 : (PRE ++ TBS T k).length ≤ 100000 := by rw [List.length_append]; omega
      have SC2 : Hid (PRE ++ TBS T (k + 1) = (PRE ++ TBS T k) ++ X) := by simp only [Hid]; rw [SC.out, List.append_assoc]
      clear SC LE
      obtain ⟨Y, hY⟩ : ∃ Y, Y = PRE ++ TBS T k := ⟨_, rfl⟩
      rw [← hY] at own SC2 LE2
      have OWN := hideIt (o2.own own (fun _ _ f => f))
      have ON := hideIt (on.same o2)
      have i1 : (k : Int) < (t : Int) := by omega
      have hsl := on.size
      clear hx hX hY own on o2 hlt' xu HSB hge hsz
      go_wp2_with fail
      rw [← hc]
      refine B.out.mono ?_
      rintro e w7 ⟨v7, rfl, own7, o7⟩
      have OWN1 := o7.own OWN.out (fun _ _ f => f)
      have BS1 := Bs.of_own (k := .u8) own7
      have NC1 := NoCap.of_own own7
      have s1 := o7.size
      clear hcv hc
      go_wp2_with (at_builtin; refine wpList_append_bs _ rfl _ _ 23 rfl w5.heap.size 5 i0 (.int .u8 0) 1 Tryz.underlying23 hi hz0 hz1 hz2 rfl _ Y.length (Y.map (Value.int .u8)) rfl OWN1 .u8 _ X rfl BS1 NC1 (by unfold maxLen; omega) (by omega) (by simp at s1; omega) ?_; intro v8 w8 own8 gr8 _ _)
      go_roundw
      case rel =>
        refine ⟨k + 1, by omega, by go_num, ?_, (ON.out.same o7).grown gr8 (fun j hj e => by have := (OWN1.lt j e).1; omega)⟩
        rw [SC2.out, List.length_append, List.map_append]
        exact own8
      case measure => simp [intOf]; omega
    · obtain rfl : k = t := by omega
      obtain ⟨k0, k1, k2, k3⟩ := heap4 (on.heap K5.out (fun f => f))
      have LE := HTB.out k (by rw [HTL.out]; exact Nat.le_refl _)
      have LE2 : (PRE ++ TBS T k).length ≤ 100000 := by rw [List.length_append]; omega
      obtain ⟨P2, hP2⟩ : ∃ P2, P2 = PRE ++ TBS T k := ⟨_, rfl⟩
      rw [← hP2] at own LE2
      have HP2 := hideIt hP2
      have B := hideIt (rappend_any _ P2 (n : Int) wr (Bs.of_own (k := .u8) own) (NoCap.of_own own) (by omega) (by omega) (by omega))
      rw [Int.toNat_natCast] at B
      have EZ := EBS_zero T E
      rw [← HN.out] at EZ
      rw [← EZ] at B
      have hwn : IntKind.u64.wrap (n : Int) = n := by rw [IntKind.wrap_u64]; omega
      have ON := hideIt on
      have HS2 := hideIt (EBS_succ T E)
      clear EZ own on hP2 LE HPR hPl HS HTB
      go_wp2_with fail
      refine B.out.mono ?_
      rintro e w7 ⟨u7, rfl, own7, o7⟩
      have F0 := hideIt (And.intro (own_low own7 ON.out.size) (ON.out.same o7))
      clear B own7 o7 ON hwn k0 k1 k2 k3
      go_wp2_with fail
      go_loopw [5, 8] (fun u i wr => ∃ k : Nat, k ≤ n ∧ i = .int .i64 k ∧ wr.ownsRow w5.heap.size 5 1 u (P2 ++ EBS T E k).length ((P2 ++ EBS T E k).map (Value.int .u8)) ∧ Only (fun _ => False) w5 wr) (fun _ i _ => n - (intOf i).toNat)
      case atStart => exact ⟨0, Nat.zero_le _, rfl, F0.out⟩
      case round =>
        clear F0
        obtain ⟨q, hq, rfl, own, on⟩ := hrel
        obtain ⟨k0, k1, k2, k3⟩ := heap4 (on.heap K5.out (fun f => f))
        by_cases hlt2 : q < n
        · have hlt' : q < E.length := by rw [← HN.out]; exact hlt2
          obtain ⟨b, off, cap', e, hc0, hc1⟩ := (E5.out.past on).at q hlt'
          simp only [Value.slice.injEq] at e
          obtain ⟨rfl, hmx, rfl⟩ := e
          clear hmx
          have hmem : E.getD q ([], 0) ∈ E := eget_mem hlt'
          have SC := hideIt (HS2.out q hlt')
          have LEq := HEB.out q (by omega)
          have LE3 : (P2 ++ EBS T E q).length ≤ 200000 := by rw [List.length_append]; omega
          obtain ⟨x, hx⟩ : ∃ x, x = E.getD q ([], 0) := ⟨_, rfl⟩
          rw [← hx] at hc0 hc1 SC hmem
          obtain ⟨xl, x0, x8⟩ := HX8.out x hmem
          have PL := hideIt (rplace21_any _ T x.1 wr (HTS.out.past on) HRS.out (fun y hy => (HT64.out y hy).1) (HTM.out x hmem) (by rw [← HTL.out]; omega))
          have hpl := PLC_lt (HTM.out x hmem)
          rw [← HTL.out] at hpl
          have hg10 := gs_le10 (v := PLC T x.1) (by omega)
          obtain ⟨p, hp⟩ : ∃ p, p = PLC T x.1 := ⟨_, rfl⟩
          rw [← hp] at PL hpl SC hg10
          have SC2 : Hid (P2 ++ EBS T E (q + 1) = ((P2 ++ EBS T E q) ++ gs p) ++ [x.2]) := by simp only [Hid]; rw [SC.out]; simp only [List.append_assoc]
          clear SC LEq
          obtain ⟨Y, hY⟩ : ∃ Y, Y = P2 ++ EBS T E q := ⟨_, rfl⟩
          rw [← hY] at own SC2 LE3
          have B := hideIt (rappend_any _ Y (p : Int) wr (Bs.of_own (k := .u8) own) (NoCap.of_own own) (by omega) (by omega) (by omega))
          rw [Int.toNat_natCast] at B
          obtain ⟨Z, hZ⟩ : ∃ Z, Z = Y ++ gs p := ⟨_, rfl⟩
          have hZl : Z.length ≤ 200010 := by rw [hZ, List.length_append]; omega
          rw [← hZ] at B SC2
          have ON := hideIt on
          have HLT := hideIt hlt'
          have HX := hideIt hx
          have i1 : (q : Int) < (n : Int) := by omega
          have i0' : (0 : Int) ≤ (q : Int) := by omega
          have hsl := on.size
          have hw : IntKind.u64.wrap (p : Int) = p := by rw [IntKind.wrap_u64]; omega
          have hw8 : IntKind.u8.wrap x.2 = x.2 := by rw [IntKind.wrap_u8]; omega
          clear hx hY hZ own on hlt' hmem hp hg10
          go_wp2_with fail
          refine PL.out.mono ?_
          rintro e w8 ⟨rfl, rfl⟩
          go_wp2_with fail
          refine B.out.mono ?_
          rintro e w8 ⟨v8, rfl, own8, o8⟩
          obtain ⟨k0', k1', k2', k3'⟩ := heap4 ((ON.out.same o8).heap K5.out (fun f => f))
          obtain ⟨b2, off2, cap2, e2, hd0, hd1⟩ := (E5.out.past (ON.out.same o8)).at q HLT.out
          simp only [Value.slice.injEq, Option.some.injEq, Addr.mk.injEq] at e2
          obtain ⟨⟨rfl, rfl, -⟩, -, rfl⟩ := e2
          rw [← HX.out] at hd0 hd1
          have own8' := own_low own8 hsl
          have O8 := hideIt (ON.out.same o8)
          have s8 := O8.out.size
          clear k0 k1 k2 k3 hc0 hc1 B PL
          go_wp2_with (first
            | (at_builtin; refine wpList_append_bs _ rfl _ _ 23 rfl w5.heap.size 5 i0 (.int .u8 0) 1 Tryz.underlying23 hi hz0 hz1 hz2 rfl v8 Z.length _ rfl (own8'.alloc _) .u8 (.slice (some ⟨w8.heap.size, 0, none⟩) 1 1) [x.2] rfl (Bs.litN .u8 w8 5 [x.2] _ _ rfl rfl) (NoCap.some _ _ _) (by unfold maxLen; simp; omega) (by simp; omega) (by simp; omega) ?_; intro v9 w9 own9 gr9 _ _)
            | fail)
          go_roundw
          case rel =>
            refine ⟨q + 1, by omega, by go_num, ?_, (O8.out.alloc _).grown gr9 (fun j hj e => by have := (own8'.lt j e).1; omega)⟩
            rw [SC2.out, List.length_append, List.map_append]
            exact own9
          case measure => simp [intOf]; omega
        · obtain rfl : q = n := by omega
          have LEq := HEB.out q (by rw [HN.out]; exact Nat.le_refl _)
          have LE3 : (P2 ++ EBS T E q).length ≤ 200000 := by rw [List.length_append]; omega
          have OWN := own
          have B9 := R5.out.past on
          have hsl := on.size
          have ON := hideIt on
          clear k0 k1 HT64 HRS HTM HX8 HS2 HEB HTS E5 K5 on own
          go_wp2_with (first
            | (at_builtin; refine wpList_append_bs _ rfl _ _ 23 rfl w5.heap.size 5 i0 (.int .u8 0) 1 Tryz.underlying23 hi hz0 hz1 hz2 rfl _ (P2 ++ EBS T E q).length _ rfl OWN .u8 (.slice ar 32 rc) rt rfl B9 nr (by rw [HL12.out.2]; unfold maxLen; omega) (by rw [HL12.out.2]; omega) (by omega) ?_; intro v9 w9 own9 gr9 _ _)
            | fail)
          go_ret2
          refine ⟨v9, rfl, ?_⟩
          have := FIN.out v9 w9 ((P2 ++ EBS T E q) ++ rt) (by rw [List.length_append (bs := rt), List.map_append (l₂ := rt)]; exact own9) (ON.out.grown gr9 (fun j hj e => by have := (OWN.lt j e).1; omega))
          rw [HP2.out, HTL.out] at this
          exact this
end Go.Proofs.YtiolgenaefillaaGreat
