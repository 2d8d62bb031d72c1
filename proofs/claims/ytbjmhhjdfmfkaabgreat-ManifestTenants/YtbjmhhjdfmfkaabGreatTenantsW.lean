/- ManifestTenants: the walk. -/
import Derived.Test.YtbjmhhjdfmfkaabGreatMw
import Derived.Deep.RegionHeld3
import Derived.Deep.RegionLaw
import Derived.Deep.Cut
namespace Go.Proofs.YtbjmhhjdfmfkaabGreat
open Go.RowKit

theorem MEr_rev {v : Nat} {p r : List Int} {es : List (List Int × Int)} : MEr ⟨v, p, es.reverse, r⟩ = MEr ⟨v, p, es, r⟩ := by
  unfold MEr
  simp only [List.length_reverse, List.any_reverse]
theorem Mok.rev {v : Nat} {p r : List Int} {es : List (List Int × Int)} (h : Mok ⟨v, p, es, r⟩) : Mok ⟨v, p, es.reverse, r⟩ := ⟨h.ver, h.prev, h.root, fun e he => h.es e (List.mem_reverse.1 he)⟩
/-- append of what was made onto a row of one's own, in a region that draws -/
theorem step_append_own {w : World} {ops : Array Oper} {o : Oper} {a : Act} {K : Act → World → Prop} {Q : Exit → Act → World → Prop} {E' : Prop} (hgd : o.guard = none) (s x : Operand) (t : TypeId)
    (ho : o.op = .call { callee := .builtin .append, args := #[s, x], argTypes := #[t, t] })
    (base : Nat) (e : TypeId) (i : TypeInfo) (z : Value) (size bytes : Nat) (ht : Tryz.prog.underlying t = some (.slice e)) (hi : Tryz.prog.info? e = some i) (hz : i.zero = some z)
    (hsize : i.size = size) (hby : i.bytes = bytes) (hzs : z.cells.size = size) (hsz : 0 < size)
    (v : Value) (n : Nat) (xs : List Value) (hs : a.eval s = v) (hown : w.ownsRow base e size v n xs)
    (ad : Addr) (m c : Nat) (news : List Value) (hx : a.eval x = .slice (some ad) m c) (hl : news.length = m * size) (hnews : ∀ j u, news[j]? = some u → w.cell? (ad.add j) = some u) (h1 : ∀ u ∈ news, u.oneCell' = true)
    (h63 : n + m ≤ maxLen) (hbytes : (n + m) * bytes ≤ 140737488355328) (hbase : base ≤ w.heap.size)
    (h : ∀ v' w', w'.ownsRow base e size v' (n + m) (xs ++ news) → w.grownBy w' v.ownBlock → K (a.put o.dst v') w') :
    if Region.wanted o (yielded ops a.tmps) = true then Oper.wp Tryz.prog o a w K Q else E' := by
  have hw : Region.wanted o (yielded ops a.tmps) = true := by simp [Region.wanted, hgd]
  rw [if_pos hw]
  exact wp_append_own w s x t ho base e i z size bytes ht hi hz hsize hby hzs hsz v n xs hs hown ad m c news hx hl hnews h1 h63 hbytes hbase (fun v' w' h2 h3 _ => h v' w' h2 h3)
theorem own_sl {w : World} {lo : Nat} {E : TypeId} {size : Nat} {v : Value} {n : Nat} {xs : List Value} (h : w.ownsRow lo E size v n xs) : ∃ a c, v = .slice a n c := by
  rcases h.2 with ⟨rfl, h0⟩ | ⟨g, cap, cur, rfl, _⟩
  · exact ⟨none, 0, by rw [h0]⟩
  · exact ⟨_, _, rfl⟩
theorem take_rev (es : List (List Int × Int)) (j : Nat) (hj : j < es.length) : (es.drop j).reverse = (es.drop (j + 1)).reverse ++ [es.getD j ([], 0)] := by
  rw [List.drop_eq_getElem_cons hj, List.reverse_cons, List.getD_eq_getElem?_getD, List.getElem?_eq_getElem hj]; rfl
/-- the entries turned about, under way: all behind the j-th -/
structure TV (w W0 wr : World) (B4 : Nat) (m : MAN) (vp ve vr u : Value) (j : Nat) : Prop where
  box : wr.heap[w.heap.size]? = some (.cells #[.int .u64 m.ver, vp, ve, vr] 26 (0, 0))
  new : wr.heap[B4]? = some (.cells #[.int .u64 m.ver, vp, u, vr] 26 (0, 0))
  row : wr.ownsRow (B4 + 1) 30 2 u (m.es.length - j) (ecells ((m.es.drop j).reverse))
  on : Only (fun k => k = B4) W0 wr
set_option maxHeartbeats 4000000 in
set_option maxRecDepth 100000 in
theorem tenants_walk (x vp ve vr : Value) (m : MAN) (w : World) (h : Mf w x m vp ve vr) (hk : Mok m) (np : NoCap vp) (nr : NoCap vr) :
    Calls Tryz.prog 3 #[x] w fun e w' => e = .returned (.bool true) ∧ Only (fun _ => False) w w' := by
  obtain ⟨i0, hi, hz0, hz1, hz2⟩ := info_parts Tryz.infoEn
  have hf := h.form
  obtain ⟨ap, pc, ep⟩ := h.prev.len
  obtain ⟨ae, ec, ee⟩ := h.es.len
  obtain ⟨ar, rc, er⟩ := h.root.len
  subst ep ee er hf
  have oa : Only (fun _ => False) w (w.alloc (.cells #[.int .u64 m.ver, .slice ap m.prev.length pc, .slice ae m.es.length ec, .slice ar m.root.length rc] 26)) := (Only.refl _ _).alloc _
  have K0 := hideIt (heap_alloc_new w (.cells #[.int .u64 m.ver, .slice ap m.prev.length pc, .slice ae m.es.length ec, .slice ar m.root.length rc] 26))
  have A := hideIt (awake_any (w.alloc (.cells #[.int .u64 m.ver, .slice ap m.prev.length pc, .slice ae m.es.length ec, .slice ar m.root.length rc] 26)))
  have OA := hideIt oa
  have FW := hideIt (fun W (o : Only (fun _ => False) w W) => few_any _ _ _ _ m W (h.past o))
  have H := hideIt h
  cases hfew : FEWM m with
  | false =>
    rw [hfew] at FW
    clear h hk np nr oa
    go_enter Tryz.func3, Tryz.ntmps3
    go_wp2_with fail
    refine A.out.mono ?_
    rintro e w1 ⟨rfl, o1⟩
    obtain ⟨k0, k1, k2, k3⟩ := box_cells (o1.heap K0.out (fun f => f))
    have O1 := hideIt (OA.out.same o1)
    clear A o1 K0 OA
    go_wp2_with fail
    refine (FW.out w1 O1.out).mono ?_
    rintro e w2 ⟨rfl, o2⟩
    have O2 := hideIt (O1.out.same o2)
    clear FW o2 O1
    go_wp2
    go_ret
    exact ⟨rfl, O2.out⟩
  | true =>
    rw [hfew] at FW
    obtain ⟨f1, f2, f3, f4⟩ := few_of hfew
    have HF := hideIt (And.intro f1 (And.intro f2 f3))
    clear h oa
    go_enter Tryz.func3, Tryz.ntmps3
    go_wp2_with fail
    refine A.out.mono ?_
    rintro e w1 ⟨rfl, o1⟩
    have K1 := hideIt (o1.heap K0.out (fun f => f))
    obtain ⟨k0, k1, k2, k3⟩ := box_cells K1.out
    have O1 := hideIt (OA.out.same o1)
    clear A o1 K0 OA
    go_wp2_with fail
    refine (FW.out w1 O1.out).mono ?_
    rintro e w2 ⟨rfl, o2⟩
    have K2 := hideIt (o2.heap K1.out (fun f => f))
    have O2 := hideIt (O1.out.same o2)
    clear FW o2 O1 k0 k1 k2 k3 K1
    obtain ⟨k0, k1, k2, k3⟩ := box_cells K2.out
    have hs2 : w.heap.size < w2.heap.size := (Array.getElem?_eq_some_iff.1 K2.out).1
    obtain ⟨n, hn⟩ : ∃ n, n = m.es.length := ⟨_, rfl⟩
    have HN := hideIt hn
    have hn1 : n ≤ 100 := by omega
    rw [← hn] at K2 k2
    have F0 : Hid (TV w (w2.alloc (.cells #[.int .u64 m.ver, .slice ap m.prev.length pc, .slice none 0 0, .slice ar m.root.length rc] 26)) (w2.alloc (.cells #[.int .u64 m.ver, .slice ap m.prev.length pc, .slice none 0 0, .slice ar m.root.length rc] 26)) w2.heap.size m (.slice ap m.prev.length pc) (.slice ae n ec) (.slice ar m.root.length rc) (.slice none 0 0) n) :=
      ⟨heap_alloc_old K2.out, heap_alloc_new w2 _, by rw [← hn, Nat.sub_self, hn, List.drop_length]; exact World.ownsRow_nil _ _ _ _, Only.refl _ _⟩
    clear f1 f2 f3 f4 hn
    rw [← HN.out]
    have hw1 : IntKind.i64.wrap ((n : Int) - 1) = (n : Int) - 1 := by rw [IntKind.wrap_i64]; omega
    obtain ⟨W0, hW0⟩ : ∃ W0, W0 = w2.alloc (.cells #[.int .u64 m.ver, .slice ap m.prev.length pc, .slice none 0 0, .slice ar m.root.length rc] 26) := ⟨_, rfl⟩
    rw [← hW0] at F0
    have HW0 := hideIt hW0
    have OW0 : Hid (Only (fun _ => False) w W0) := by simp only [Hid]; rw [hW0]; exact O2.out.alloc _
    have hB4 : w.heap.size < w2.heap.size := hs2
    clear hW0
    go_wp2
    rw [← HW0.out]
    clear k0 k1 k2 k3
    go_loopw [5] (fun i wr => ∃ (j : Nat) (t : Int), j ≤ n ∧ t = (j : Int) - 1 ∧ i = .int .i64 t ∧ ∃ u, TV w W0 wr w2.heap.size m (.slice ap m.prev.length pc) (.slice ae n ec) (.slice ar m.root.length rc) u j) (fun i _ => (intOf i + 1).toNat)
    case atStart => exact ⟨n, _, Nat.le_refl _, rfl, rfl, _, F0.out⟩
    case round =>
      clear F0
      obtain ⟨j, t, hj, ht, rfl, u, tv⟩ := hrel
      have TVV := hideIt tv
      cases j with
      | zero =>
        have d0 : decide ((0 : Int) ≤ t) = false := by rw [decide_eq_false_iff_not]; omega
        have i0' : ¬ (0 : Int) ≤ t := by omega
        obtain ⟨k0, k1, k2, k3⟩ := box_cells tv.box
        obtain ⟨l0, l1, l2, l3⟩ := box_cells tv.new
        have hsW : W0.heap.size = w2.heap.size + 1 := by rw [HW0.out]; simp
        have ow : Only (fun _ => False) w wr := OW0.out.trans tv.on (fun i hi e => by omega)
        have own := tv.row
        rw [List.drop_zero, Nat.sub_zero] at own
        have ownE : Ens wr u m.es.reverse := Ens.of_own (lo := w2.heap.size + 1) (E := 30) (by rw [List.length_reverse]; exact own)
        obtain ⟨NM, hNM⟩ : ∃ NM : MAN, NM = ⟨m.ver, m.prev, m.es.reverse, m.root⟩ := ⟨_, rfl⟩
        have hNf : Mf wr (.agg #[.int .u64 m.ver, .slice ap m.prev.length pc, u, .slice ar m.root.length rc]) NM (.slice ap m.prev.length pc) u (.slice ar m.root.length rc) := by
          rw [hNM]
          exact ⟨rfl, H.out.prev.past ow, ownE, H.out.root.past ow⟩
        have hNk : Mok NM := by
          rw [hNM]
          exact Mok.rev (v := m.ver) (p := m.prev) (r := m.root) (es := m.es) hk
        have hNe : MEr NM = MEr m := by rw [hNM]; exact MEr_rev
        have hNl : NM.es.length ≤ 100 := by rw [hNM]; simp only [List.length_reverse]; exact HF.out.1
        have hMl := HF.out.1
        have EM := hideIt (encode_any _ _ _ _ m wr (H.out.past ow) hk np nr (by omega))
        have EN := hideIt (fun W (o : Only (fun _ => False) wr W) => encode_any _ _ _ _ NM W (hNf.past o) hNk np nr (by omega))
        rw [hNe] at EN
        obtain ⟨au, cu, eu⟩ := ownE.len
        rw [List.length_reverse, ← HN.out] at eu
        have BOX := hideIt tv.box
        have NEW := hideIt tv.new
        have OW := hideIt ow
        have HNF := hideIt hNf
        rw [← HN.out] at EM
        by_cases her : MEr m = 0
        · have hG := (MEr_ok hk).1 her
          have hGN := (MEr_ok hNk).1 (hNe.trans her)
          have e1 : MEt m = MENC m := by unfold MEt; rw [if_pos her]
          have e2 : MEt NM = MENC NM := by unfold MEt; rw [if_pos (hNe.trans her)]
          have hll : (MENC NM).length = (MENC m).length := by rw [hNM]; exact MENC_rev m.ver m.prev m.root m.es
          rw [her, e1] at EM
          rw [her, e2, hll] at EN
          have hle := MENC_le hGN
          have h8 := MENC_u8 hGN
          have DB := hideIt (MDe_back hGN)
          have HLL := hideIt hll
          have DE := hideIt (fun W v (b : Bs .u8 W v (MENC NM)) => decode_any v (MENC NM) W b h8 (by omega))
          rw [DB.out.1, DB.out.2] at DE
          have LS := hideIt (fun (W : World) (y yp ye yr : Value) (o : Only (fun _ => False) wr W) (hy : Mf W y NM yp ye yr) => lsame21_eq y _ _ _ _ _ _ _ NM W hy (hNf.past o) (by omega) (by have := HF.out.2.1; rw [hNM]; simp only; omega) (by have := HF.out.2.2; rw [hNM]; simp only; omega))
          obtain ⟨Lm, hLm⟩ : ∃ Lm, Lm = (MENC m).length := ⟨_, rfl⟩
          have HLm := hideIt hLm
          clear tv hNf hNk hNe hNM her hG hGN e1 e2 hll hle h8 ownE ow own hsW ht hLm hNl hMl hj
          subst eu
          go_wp2_with fail
          refine EM.out.mono ?_
          rintro e w3 ⟨va, rfl, own3, o3⟩
          obtain ⟨aa, ca, ea⟩ := own_sl own3
          rw [← HLm.out] at ea
          subst ea
          have N3 := hideIt (o3.heap NEW.out (fun f => f))
          obtain ⟨n0, n1, n2, n3⟩ := box_cells N3.out
          have O3 := hideIt o3
          clear EM own3 o3 k0 k1 k2 k3 l0 l1 l2 l3
          go_wp2_with fail
          refine (EN.out w3 O3.out).mono ?_
          rintro e w4 ⟨vb, rfl, own4, o4⟩
          obtain ⟨ab, cb, eb⟩ := own_sl own4
          rw [← HLm.out] at eb
          subst eb
          have B4' : Bs .u8 w4 (.slice ab Lm cb) (MENC NM) := Bs.of_own (k := .u8) (E := 5) (lo := w3.heap.size) (by rw [HLL.out]; exact own4)
          have D4 := hideIt (DE.out w4 _ B4')
          have N4 := hideIt (o4.heap N3.out (fun f => f))
          have O4 := hideIt (O3.out.same o4)
          clear EN own4 o4 O3 N3 n0 n1 n2 n3 B4' DE
          go_wp2_with fail
          refine D4.out.mono ?_
          rintro e w5 ⟨y, yp, ye, yr, rfl, mn, o5⟩
          have hy := mn.mf.form
          obtain ⟨bp, qp, ebp⟩ := mn.mf.prev.len
          obtain ⟨be, qe, ebe⟩ := mn.mf.es.len
          obtain ⟨br, qr, ebr⟩ := mn.mf.root.len
          subst ebp ebe ebr hy
          have ob : Only (fun _ => False) w5 (w5.alloc (.cells #[.int .u64 NM.ver, .slice bp NM.prev.length qp, .slice be NM.es.length qe, .slice br NM.root.length qr] 26)) := (Only.refl _ _).alloc _
          obtain ⟨n0, n1, n2, n3⟩ := box_cells ((o5.same ob).heap N4.out (fun f => f))
          obtain ⟨y0, y1, y2, y3⟩ := box_cells (heap_alloc_new w5 (.cells #[.int .u64 NM.ver, .slice bp NM.prev.length qp, .slice be NM.es.length qe, .slice br NM.root.length qr] 26))
          have O5 := hideIt (O4.out.same (o5.same ob))
          have L5 := hideIt (LS.out _ _ _ _ _ O5.out (mn.mf.past ob))
          have OF := hideIt (OW.out.same O5.out)
          clear D4 mn o5 ob O4 N4 LS
          go_wp2_with (first
            | (go_at_call 8; refine L5.out.mono ?_; rintro e w6 ⟨rfl, o6⟩)
            | fail)
          go_ret
          exact ⟨rfl, OF.out.same o6⟩
        · obtain ⟨c, hc⟩ : ∃ c, c = MEr m := ⟨_, rfl⟩
          rw [← hc] at EM EN her
          have hcb : (c != 0) = true := by simpa using her
          have hcc : (c == c) = true := by simp
          clear tv hNf hNk hNe hNM her ownE ow own hsW ht hNl hMl hc hj
          subst eu
          go_wp2_with fail
          refine EM.out.mono ?_
          rintro e w3 ⟨va, rfl, own3, o3⟩
          have N3 := hideIt (o3.heap NEW.out (fun f => f))
          obtain ⟨n0, n1, n2, n3⟩ := box_cells N3.out
          have O3 := hideIt o3
          clear EM own3 o3 k0 k1 k2 k3 l0 l1 l2 l3
          go_wp2_with fail
          refine (EN.out w3 O3.out).mono ?_
          rintro e w4 ⟨vb, rfl, own4, o4⟩
          have OF := hideIt (OW.out.same (O3.out.same o4))
          clear EN own4 o4
          go_wp2
          go_ret
          exact ⟨rfl, OF.out⟩
      | succ q =>
        have d0 : decide ((0 : Int) ≤ t) = true := by rw [decide_eq_true_eq]; omega
        obtain rfl : t = (q : Int) := by omega
        have hqn : q < n := by omega
        have ow : Only (fun _ => False) w wr := OW0.out.trans tv.on (fun i hi e => by omega)
        obtain ⟨b, off, cap, e, hc0, hc1⟩ := (H.out.es.past ow).at q (by rw [← HN.out]; exact hqn)
        rw [← HN.out] at e
        simp only [Value.slice.injEq] at e
        obtain ⟨rfl, _, rfl⟩ := e
        have TR := hideIt (take_rev m.es q (by rw [← HN.out]; exact hqn))
        obtain ⟨z, hz⟩ : ∃ z, z = m.es.getD q ([], 0) := ⟨_, rfl⟩
        rw [← hz] at hc0 hc1 TR
        obtain ⟨k0, k1, k2, k3⟩ := box_cells tv.box
        obtain ⟨⟨l0, l1, l2, l3⟩, g0, g1, g2, g3⟩ := cells4 tv.new
        have own := tv.row
        have hsz : w2.heap.size < wr.heap.size := (Array.getElem?_eq_some_iff.1 tv.new).1
        rw [← HN.out] at own
        obtain ⟨M, hM⟩ : ∃ M, M = n - (q + 1) := ⟨_, rfl⟩
        rw [← hM] at own
        obtain ⟨au, cu, eu⟩ : ∃ au cu, u = .slice au M cu := by
          rcases own.2 with ⟨rfl, h0⟩ | ⟨g, cap, cur, rfl, _⟩
          · exact ⟨none, 0, by rw [h0]⟩
          · exact ⟨_, _, rfl⟩
        subst eu
        have j0 : (0 : Int) ≤ (q : Int) := by omega
        have j1 : (q : Int) < (n : Int) := by omega
        have hub : (Value.slice au M cu).ownBlock ≠ some w2.heap.size := fun e => by have := (own.lt _ e).1; omega
        have hMb : M ≤ 100 := by omega
        have HMM := hideIt hM
        have NEW := hideIt tv.new
        have BOX := hideIt tv.box
        have ON := hideIt tv.on
        have OW := hideIt ow
        clear tv hz ow ht hM hj
        go_wp2_with fail
        go_region_law (first
          | (refine step_append_own rfl (.tmp 33) (.tmp 39) 24 rfl (w2.heap.size + 1) 30 i0 (.agg #[.string ⟨#[]⟩, .int .i64 0]) 2 24 Tryz.underlying24 hi hz0 hz1 hz2 rfl (by decide) (.slice au M cu) M (ecells ((m.es.drop (q + 1)).reverse)) rfl (Only.own (S := fun _ => False) (a := wr) (by (repeat (first | with_reducible exact Only.refl _ _ | assumption | (with_reducible refine Only.drew ?_) | (with_reducible refine Only.alloc ?_ _) | (with_reducible apply Only.same; case k => assumption)))) own (fun _ _ f => f)) ⟨wr.heap.size, 0, none⟩ 1 1 [.string (strOfNums z.1), .int .i64 z.2] rfl rfl (cell_two_new _ _ _ _) (en_one _ _) (by unfold maxLen; omega) (by omega) (by simp; omega) ?_; intro v' w4 hown' hgrow'; (obtain ⟨av', cv', ev'⟩ := own_sl hown'); subst ev'; (have ogx : Only (fun j => (Value.slice au M cu).ownBlock = some j) wr w4 := Only.grown (S := fun j => (Value.slice au M cu).ownBlock = some j) (by (repeat (first | with_reducible exact Only.refl _ _ | assumption | (with_reducible refine Only.drew ?_) | (with_reducible refine Only.alloc ?_ _) | (with_reducible apply Only.same; case k => assumption)))) hgrow' (fun j _ e => e)); (have nw4 := ogx.heap NEW.out (fun e => hub e)); (obtain ⟨⟨n0, n1, n2, n3⟩, h0', h1', h2', h3'⟩ := cells4 nw4))
          | fail)
        all_goals
          have hsW : W0.heap.size = w2.heap.size + 1 := by rw [HW0.out]; simp
          have os : Only (fun k => k = w2.heap.size) w4 (w4.setCell ⟨w2.heap.size, 2, none⟩ (.slice av' (M + 1) cv')) := (Only.refl (fun k => k = w2.heap.size) w4).setCell (p := ⟨w2.heap.size, 2, none⟩) (fun _ => rfl) _
          have NT : Hid (TV w W0 (w4.setCell ⟨w2.heap.size, 2, none⟩ (.slice av' (M + 1) cv')) w2.heap.size m (.slice ap m.prev.length pc) (.slice (some ⟨b, off, none⟩) n ec) (.slice ar m.root.length rc) (.slice av' (M + 1) cv') q) := by
            refine ⟨os.heap (ogx.heap BOX.out (fun e => by have := (own.lt _ e).1; omega)) (fun e => by omega), ?_, ?_, (ON.out.trans ogx (fun i hi e => by have := (own.lt _ e).1; omega)).trans os (fun i hi e => e)⟩
            · have := heap_setCell_same w4 w2.heap.size 2 _ _ (.slice av' (M + 1) cv') nw4
              simpa using this
            · rw [← HN.out, show n - q = M + 1 by have := HMM.out; omega, TR.out, ecells_snoc]
              exact os.own hown' (fun k hk e => by have := (hown'.lt k hk).1; omega)
          clear hown' hgrow' ogx nw4 os own n0 n1 n2 n3 h0' h1' h2' h3' k0 k1 k2 k3 l0 l1 l2 l3 g0 g1 g2 g3 hc0 hc1 hsW
          go_wp2
          go_roundw
          case rel => exact ⟨q, _, by omega, rfl, by go_num, _, NT.out⟩
          case measure => simp [intOf]
end Go.Proofs.YtbjmhhjdfmfkaabGreat
