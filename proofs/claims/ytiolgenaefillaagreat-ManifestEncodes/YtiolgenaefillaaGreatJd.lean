/- Package manifest: read. -/
import Derived.Test.YtiolgenaefillaaGreatJp
import Derived.Test.YtiolgenaefillaaGreatMg
namespace Go.Proofs.YtiolgenaefillaaGreat
open Go.RowKit Go.Maps

set_option maxRecDepth 100000 in
theorem Tryz.sizeMf : (Tryz.prog.info? 26).map (·.size) = some 4 := by kernel_rfl
theorem load_man {W : World} {b : Nat} {x0 x1 x2 x3 : Value} (h : W.heap[b]? = some (.cells #[x0, x1, x2, x3] 26 (0, 0))) : (loadVar 26 ⟨b, 0, none⟩).run Tryz.prog W = .ok (.agg #[x0, x1, x2, x3]) W :=
  run_loadVar_row W b 26 26 _ (0, 0) _ h Tryz.underlying26 rfl Tryz.sizeMf
theorem cells4 {W : World} {B : Nat} {x0 x1 x2 x3 : Value} {E : TypeId} (h : W.heap[B]? = some (.cells #[x0, x1, x2, x3] E (0, 0))) : (W.cell? ⟨B, 0, none⟩ = some x0 ∧ W.cell? ⟨B, 1, none⟩ = some x1 ∧ W.cell? ⟨B, 2, none⟩ = some x2 ∧ W.cell? ⟨B, 3, none⟩ = some x3) ∧ (W.frozen? ⟨B, 0, none⟩ = false ∧ W.frozen? ⟨B, 1, none⟩ = false ∧ W.frozen? ⟨B, 2, none⟩ = false ∧ W.frozen? ⟨B, 3, none⟩ = false) :=
  ⟨⟨by simp [World.cell?, h], by simp [World.cell?, h], by simp [World.cell?, h], by simp [World.cell?, h]⟩, by simp [World.frozen?, h], by simp [World.frozen?, h], by simp [World.frozen?, h], by simp [World.frozen?, h]⟩
theorem put4 {W : World} {B : Nat} {x0 x1 x2 x3 : Value} {E : TypeId} (h : W.heap[B]? = some (.cells #[x0, x1, x2, x3] E (0, 0))) (y0 y1 y2 y3 : Value) :
    ((((W.setCell ⟨B, 0, none⟩ y0).setCell ⟨B, 1, none⟩ y1).setCell ⟨B, 2, none⟩ y2).setCell ⟨B, 3, none⟩ y3).heap[B]? = some (.cells #[y0, y1, y2, y3] E (0, 0)) ∧ Only (fun k => k = B) W ((((W.setCell ⟨B, 0, none⟩ y0).setCell ⟨B, 1, none⟩ y1).setCell ⟨B, 2, none⟩ y2).setCell ⟨B, 3, none⟩ y3) := by
  have g1 := heap_setCell_same W B 0 _ _ y0 h
  have g2 := heap_setCell_same _ B 1 _ _ y1 g1
  have g3 := heap_setCell_same _ B 2 _ _ y2 g2
  have g4 := heap_setCell_same _ B 3 _ _ y3 g3
  exact ⟨by simpa using g4, ((((Only.refl (fun k => k = B) W).setCell (p := ⟨B, 0, none⟩) (fun _ => rfl) _).setCell (p := ⟨B, 1, none⟩) (fun _ => rfl) _).setCell (p := ⟨B, 2, none⟩) (fun _ => rfl) _).setCell (p := ⟨B, 3, none⟩) (fun _ => rfl) _⟩
theorem sBytes_short {n : Nat} {ys : List Int} (h : ys.length < n) : sBytes (n : Int) ys = ([], 0, 2) := by unfold sBytes; rw [if_neg (by omega), if_pos (by omega)]
theorem sBytes_long {n : Nat} {ys : List Int} (h : ¬ ys.length < n) : sBytes (n : Int) ys = (ys.take n, n, 0) := by unfold sBytes; rw [if_neg (by omega), if_neg (by omega), Int.toNat_natCast]
theorem sFixed_short {ys : List Int} (h : ys.length < 8) : sFixed 8 ys = (0, 0, 2) := by unfold sFixed; rw [if_neg (by omega), if_pos (by omega)]
theorem sFixed_long {ys : List Int} (h : ¬ ys.length < 8) : sFixed 8 ys = ((num (ys.take 8) : Int), 8, 0) := by unfold sFixed; rw [if_neg (by omega), if_neg (by omega)]; rfl
theorem mark_eq {x : List Int} (h : U8 x) : ((strOfNums x).toList == [67, 83, 75, 49]) = decide (x = MHD) := by
  rw [show ([67, 83, 75, 49] : List UInt8) = (⟨#[67, 83, 75, 49]⟩ : ByteArray).toList by rw [ByteArray.toList_eq], eq_sb, sb_of h]; rfl
/-- how read ends -/
def RMan (w : World) (R : Nat) (ys : List Int) (e : Ending) (w' : World) : Prop :=
  Only (fun k => k = R) w w' ∧ ((∃ c, c ≠ 0 ∧ MDEC ys = .error c ∧ e = pan c) ∨ ∃ m x vp ve vr, MDEC ys = .ok m ∧ e = .returned x ∧ Mf w' x m vp ve vr ∧ NoCap vp ∧ NoCap vr ∧ (∀ k, vp.ownBlock = some k → w.heap.size ≤ k) ∧ (∀ k, vr.ownBlock = some k → w.heap.size ≤ k) ∧ (∀ k, ve.ownBlock = some k → w.heap.size ≤ k))
set_option maxHeartbeats 4000000 in
set_option maxRecDepth 100000 in
theorem read_any {w : World} {R : Nat} {v : Value} {ys : List Int} (h : CurAt 94 w R v ys) (hR : R < w.heap.size) (hvb : ∀ j, v.ownBlock = some j → j < w.heap.size) :
    Calls Tryz.prog 34 #[.pointer (some ⟨R, 0, none⟩)] w (RMan w R ys) := by
  obtain ⟨K, hK⟩ : ∃ K, K = RMan w R ys := ⟨_, rfl⟩
  rw [← hK]
  have HK := hideIt hK
  have HV := hideIt hvb
  have bad : Hid (∀ c w', c ≠ 0 → MDEC ys = .error c → Only (fun j => j = R) w w' → K (.panicked [{ v := .iface 29 (.int .i64 c), recovered := false }]) w') := by
    intro c w' hc he ho
    rw [HK.out]
    exact ⟨ho, .inl ⟨c, hc, he, rfl⟩⟩
  have oa : Only (fun j => j = R) w (w.alloc (.cells #[.int .u64 0, .slice none 0 0, .slice none 0 0, .slice none 0 0] 26)) := (Only.refl _ _).alloc _
  have c0 := h.keep (S := fun _ => False) ((Only.refl _ w).alloc (.cells #[.int .u64 0, .slice none 0 0, .slice none 0 0, .slice none 0 0] 26)) (fun f => f) (fun _ _ f => f)
  have G0 := hideIt (heap_alloc_new w (.cells #[.int .u64 0, .slice none 0 0, .slice none 0 0, .slice none 0 0] 26))
  have A := hideIt (bytes_cur c0 ((4 : Nat) : Int))
  rw [show ((4 : Nat) : Int) = 4 from rfl] at A
  have hrng := h.rng
  have hylen := h.len
  have OA := hideIt oa
  clear h hvb hK oa c0
  go_enter Tryz.func34, Tryz.ntmps34
  go_wp2_with fail
  refine A.out.mono ?_
  rintro e w1 ⟨v1, rfl, b1, nc1, nb1, vc1, c1, ob1, o1⟩
  have hs1 : w.heap.size + 1 ≤ w1.heap.size := by have := o1.size; simpa using this
  have O1 := hideIt (OA.out.trans o1 (fun i _ e => e))
  have G1 := hideIt (o1.heap G0.out (fun e => by omega))
  clear A o1 OA G0 nb1 nc1
  by_cases h4 : ys.length < 4
  · rw [show (4 : Int) = ((4 : Nat) : Int) from rfl, sBytes_short h4]
    have FN := hideIt (bad.out 2 w1 (by decide) (M1 (hd_short h4)) O1.out)
    clear b1 c1
    go_wp2_with fail
    refine (musts_no v1 2 w1 (by decide)).mono ?_
    rintro e w' ⟨rfl, rfl⟩
    unfold pan
    go_wp2
    exact ⟨rfl, FN.out⟩
  have e4 := sBytes_long (n := 4) h4
  rw [show ((4 : Nat) : Int) = 4 from rfl] at e4
  rw [e4] at b1 c1
  rw [e4]
  have hcv := string_of w1 v1 _ b1
  have hme := mark_eq (x := ys.take 4) (fun y hy => hrng y (List.mem_of_mem_take hy))
  generalize hx4 : ys.take 4 = x4 at *
  have HX4 := hideIt hx4
  have C1 := hideIt (And.intro c1 ob1)
  clear e4 b1 c1 ob1 hx4
  go_wp2_with fail
  refine (musts_ok v1 w1).mono ?_
  rintro e w' ⟨rfl, rfl⟩
  by_cases hm4 : x4 = MHD
  · rw [decide_eq_true hm4] at hme
    have H1 := hideIt (hd_ok h4 (HX4.out.trans hm4))
    clear HX4 hm4 h4
    go_wp2_with fail
    refine (mustHold_ok 3 w1).mono ?_
    rintro e w' ⟨rfl, rfl⟩
    have B := hideIt (fixed_cur C1.out.1 8)
    obtain ⟨y1, hy1⟩ : ∃ y1, y1 = ys.drop 4 := ⟨_, rfl⟩
    have HR1 : ∀ y ∈ y1, 0 ≤ y ∧ y ≤ 255 := fun y hy => hrng y (by rw [hy1] at hy; exact List.mem_of_mem_drop hy)
    rw [← hy1] at B H1
    clear hcv hme hy1 hrng
    go_wp2_with fail
    refine B.out.mono ?_
    rintro e w2 ⟨rfl, vc2, c2, ob2, o2⟩
    have hs2 := o2.size
    have O2 := hideIt (O1.out.trans o2 (fun i _ e => e))
    have G2 := hideIt (o2.heap G1.out (fun e => by omega))
    have C2 := hideIt (And.intro c2 (ob2.trans C1.out.2))
    clear B o2 c2 ob2 C1 O1 G1
    by_cases h8 : y1.length < 8
    · rw [sFixed_short h8]
      have FN := hideIt (bad.out 2 w2 (by decide) (M2 H1.out (ver_short h8)) O2.out)
      clear C2
      go_wp2_with fail
      refine (mustu_no _ 2 w2 (by decide)).mono ?_
      rintro e w' ⟨rfl, rfl⟩
      unfold pan
      go_wp2
      exact ⟨rfl, FN.out⟩
    rw [sFixed_long h8] at C2
    rw [sFixed_long h8]
    go_wp2_with fail
    refine (mustu_ok _ w2).mono ?_
    rintro e w' ⟨rfl, rfl⟩
    by_cases hv : num (y1.take 8) = 18446744073709551615
    · have d1 : ((num (y1.take 8) : Int) != 18446744073709551615) = false := by rw [hv]; rfl
      have FN := hideIt (bad.out 3 w2 (by decide) (M2 H1.out (ver_no h8 hv)) O2.out)
      clear C2 hv
      go_wp2_with fail
      refine (mustHold_no 3 w2).mono ?_
      rintro e w' ⟨rfl, rfl⟩
      unfold pan
      go_wp2
      exact ⟨rfl, FN.out⟩
    have d1 : ((num (y1.take 8) : Int) != 18446744073709551615) = true := by simp; omega
    have H2 := hideIt (ver_ok h8 hv)
    generalize num (y1.take 8) = ver at *
    obtain ⟨y2, hy2⟩ : ∃ y2, y2 = y1.drop 8 := ⟨_, rfl⟩
    have HR2 : ∀ y ∈ y2, 0 ≤ y ∧ y ≤ 255 := fun y hy => HR1 y (by rw [hy2] at hy; exact List.mem_of_mem_drop hy)
    have C2' : Hid (CurAt 94 w2 R vc2 y2 ∧ vc2.ownBlock = v.ownBlock) := by rw [hy2]; exact C2.out
    rw [← hy2] at H2
    clear C2 hy2 HR1 h8 hv
    go_wp2_with fail
    refine (mustHold_ok 3 w2).mono ?_
    rintro e w' ⟨rfl, rfl⟩
    have B := hideIt (bytes_cur C2'.out.1 ((32 : Nat) : Int))
    rw [show ((32 : Nat) : Int) = 32 from rfl] at B
    go_wp2_with fail
    refine B.out.mono ?_
    rintro e w3 ⟨vp, rfl, bp, ncp, nbp, vc3, c3, ob3, o3⟩
    have hs3b := o3.size
    have O3 := hideIt (O2.out.trans o3 (fun i _ e => e))
    have G3 := hideIt (o3.heap G2.out (fun e => by omega))
    clear B o3 G2
    by_cases h32 : y2.length < 32
    · have e32 := sBytes_short h32
      rw [show ((32 : Nat) : Int) = 32 from rfl] at e32
      rw [e32]
      have FN := hideIt (bad.out 2 w3 (by decide) (M3 H1.out H2.out (rdB_short h32)) O3.out)
      clear bp c3
      go_wp2_with fail
      refine (musts_no vp 2 w3 (by decide)).mono ?_
      rintro e w' ⟨rfl, rfl⟩
      unfold pan
      go_wp2
      exact ⟨rfl, FN.out⟩
    have e32 := sBytes_long h32
    rw [show ((32 : Nat) : Int) = 32 from rfl] at e32
    rw [e32] at bp c3
    rw [e32]
    have H3 := hideIt (rdB_long h32)
    obtain ⟨y3, hy3⟩ : ∃ y3, y3 = y2.drop 32 := ⟨_, rfl⟩
    have HR3 : ∀ y ∈ y3, 0 ≤ y ∧ y ≤ 255 := fun y hy => HR2 y (by rw [hy3] at hy; exact List.mem_of_mem_drop hy)
    rw [← hy3] at H3
    have c3' : CurAt 94 w3 R vc3 y3 := by rw [hy3]; exact c3
    generalize y2.take 32 = prv at *
    have hs3 := O3.out.size
    have ob3' := ob3.trans C2'.out.2
    have hw2 := O2.out.size
    have D := hideIt (readTenants_any c3' (by omega) (fun j hj => by rw [ob3'] at hj; have := HV.out j hj; omega))
    obtain ⟨apv, pcv, epv⟩ := bp.len
    subst epv
    have PV := hideIt (And.intro bp (And.intro ncp nbp))
    have OB3 := hideIt ob3'
    clear e32 c3 c3' bp ncp nbp ob3 ob3' hy3 h32 C2' HR2 O2
    go_wp2_with fail
    refine (musts_ok (.slice apv prv.length pcv) w3).mono ?_
    rintro e w' ⟨rfl, rfl⟩
    go_wp2_with fail
    refine D.out.mono ?_
    rintro e w4 ⟨o4, ⟨c, hc0, hr, rfl⟩ | ⟨d, y4, hr, ⟨vt, rfl, rowt, hdl, hda⟩, vc4, c4, ob4⟩⟩
    · have FN := hideIt (bad.out c w4 hc0 (M4 H1.out H2.out H3.out hr) (O3.out.trans o4 (fun i _ e => e)))
      clear D o4 hr
      unfold pan
      go_wp2
      exact ⟨rfl, FN.out⟩
    have H4 := hideIt hr
    have RS := hideIt (dir_ris HR3 hr)
    have O4 := hideIt (O3.out.trans o4 (fun i _ e => e))
    have G4 := hideIt (o4.heap G3.out (fun e => by omega))
    have hs4 := o4.size
    have st4 := Sts.of_own rowt
    have PV4 : Hid (Bs .u8 w4 (.slice apv prv.length pcv) prv) := PV.out.1.keep o4 (fun j hj e => by have := PV.out.2.2 j hj; omega)
    have E5 := hideIt (readEntries_any (vt := vt) c4 (by omega) (fun j hj => by rw [ob4, OB3.out] at hj; have := HV.out j hj; omega) st4 (fun j hj e => by have := (rowt.lt j hj).1; omega) hdl)
    have RT := hideIt rowt
    have HDA := hideIt hda
    have OB4 := hideIt (ob4.trans OB3.out)
    clear D o4 hr rowt c4 ob4 st4 hda G3 OB3
    go_wp2_with fail
    refine E5.out.mono ?_
    rintro e w5 ⟨o5, ⟨c, hc0, hr, rfl⟩ | ⟨a, y5, hr, ⟨ve, rfl, rowe, hal, haa⟩, vc5, c5, ob5⟩⟩
    · have FN := hideIt (bad.out c w5 hc0 (M5 H1.out H2.out H3.out H4.out hr) (O4.out.trans o5 (fun i _ e => e)))
      clear E5 o5 hr
      unfold pan
      go_wp2
      exact ⟨rfl, FN.out⟩
    have H5 := hideIt hr
    have O5 := hideIt (O4.out.trans o5 (fun i _ e => e))
    have G5 := hideIt (o5.heap G4.out (fun e => by omega))
    have hs5 := o5.size
    have PV5 : Hid (Bs .u8 w5 (.slice apv prv.length pcv) prv) := PV4.out.keep o5 (fun j hj e => by have := PV.out.2.2 j hj; omega)
    have B := hideIt (bytes_cur c5 ((32 : Nat) : Int))
    rw [show ((32 : Nat) : Int) = 32 from rfl] at B
    have RE := hideIt rowe
    have HAA := hideIt haa
    have RT5 := hideIt (o5.own RT.out (fun j hj e => by have := (RT.out.lt j hj).1; omega))
    clear E5 o5 hr rowe ob5 haa G4 PV4 RT
    go_wp2_with fail
    refine B.out.mono ?_
    rintro e w6 ⟨vr, rfl, br, ncr, nbr, vc6, c6, ob6, o6⟩
    have O6 := hideIt (O5.out.trans o6 (fun i _ e => e))
    have G6 := hideIt (o6.heap G5.out (fun e => by omega))
    have hs6 := o6.size
    have PV6 : Hid (Bs .u8 w6 (.slice apv prv.length pcv) prv) := PV5.out.keep o6 (fun j hj e => by have := PV.out.2.2 j hj; omega)
    have RE6 := hideIt (o6.own RE.out (fun j hj e => by have := (RE.out.lt j hj).1; omega))
    have RT6 := hideIt (o6.own RT5.out (fun j hj e => by have := (RT5.out.lt j hj).1; omega))
    clear B o6 ob6 c5 G5 PV5 RE RT5
    by_cases h32 : y5.length < 32
    · have e32 := sBytes_short h32
      rw [show ((32 : Nat) : Int) = 32 from rfl] at e32
      rw [e32]
      have FN := hideIt (bad.out 2 w6 (by decide) (M6 H1.out H2.out H3.out H4.out H5.out (rdB_short h32)) O6.out)
      clear br c6
      go_wp2_with fail
      refine (musts_no vr 2 w6 (by decide)).mono ?_
      rintro e w' ⟨rfl, rfl⟩
      unfold pan
      go_wp2
      exact ⟨rfl, FN.out⟩
    have e32 := sBytes_long h32
    rw [show ((32 : Nat) : Int) = 32 from rfl] at e32
    rw [e32] at br c6
    rw [e32]
    have H6 := hideIt (Mall H1.out H2.out H3.out H4.out H5.out (rdB_long h32))
    generalize y5.take 32 = rt at *
    obtain ⟨y6, hy6⟩ : ∃ y6, y6 = y5.drop 32 := ⟨_, rfl⟩
    rw [← hy6] at H6
    have c6' : CurAt 94 w6 R vc6 y6 := by rw [hy6]; exact c6
    have LL := hideIt (Left_cur c6')
    obtain ⟨arv, rcv, erv⟩ := br.len
    subst erv
    have RV := hideIt (And.intro br (And.intro ncr nbr))
    clear e32 c6 c6' br ncr nbr hy6 h32 H1 H2 H3 H5
    go_wp2_with fail
    refine (musts_ok (.slice arv rt.length rcv) w6).mono ?_
    rintro e w' ⟨rfl, rfl⟩
    go_wp2_with fail
    refine LL.out.mono ?_
    rintro e w' ⟨rfl, rfl⟩
    clear LL
    by_cases h6 : y6 = []
    · have d6 : ((y6.length : Int) == 0) = true := by rw [h6]; rfl
      obtain ⟨ev, cv, ee⟩ := (Ens.of_own (s := a.2.map (EOF d.2)) (by rw [List.length_map]; exact RE6.out)).len
      rw [List.length_map] at ee
      subst ee
      have TO := hideIt (tenantsOf_any (.slice ev a.2.length cv) (a.2.map (EOF d.2)) w6 (Ens.of_own (by rw [List.length_map]; exact RE6.out)) (fun e he => by
        obtain ⟨t, ht, rfl⟩ := List.mem_map.1 he
        exact (HDA.out _ (eget_mem (HAA.out t ht))).1) (by rw [List.length_map]; exact hal) (fun e he => by
        obtain ⟨t, ht, rfl⟩ := List.mem_map.1 he
        have := (HDA.out _ (eget_mem (d := []) (HAA.out t ht))).2
        unfold maxLen EOF; simp only; omega))
      go_wp2_with fail
      refine (mustHold_ok 3 w6).mono ?_
      rintro e w' ⟨rfl, rfl⟩
      go_wp2_with fail
      refine TO.out.mono ?_
      rintro e w7 ⟨rfl, ⟨Dm, hmap, hT⟩, o7⟩
      obtain ⟨sk1, sk2, sk3⟩ := strKeys_has Tryz.underlying9 hmap
      have hTk : ((a.2.map (EOF d.2)).map Prod.fst).take (a.2.map (EOF d.2)).length = (a.2.map (EOF d.2)).map Prod.fst := by
        have : ((a.2.map (EOF d.2)).map Prod.fst).take ((a.2.map (EOF d.2)).map Prod.fst).length = _ := List.take_length
        rwa [List.length_map] at this
      rw [hTk] at hT
      have SZ := size_TEN (fun x hx => by
        obtain ⟨e, he, rfl⟩ := List.mem_map.1 hx
        obtain ⟨t, ht, rfl⟩ := List.mem_map.1 he
        exact (HDA.out _ (eget_mem (HAA.out t ht))).1) hT sk1 sk2 sk3
      have UI := used_iff RS.out HAA.out
      rw [← SZ] at UI
      have hlen := fun ty => hmap.len Tryz.underlying45 ty
      obtain ⟨at1, ct1, et1⟩ := (Sts.of_own RT6.out).len
      generalize Maps.size Dm = sz at *
      have O7 := hideIt (O6.out.trans o7 (fun i _ f => f.elim))
      have G7 := o7.heap G6.out (fun f => f)
      clear TO sk1 sk2 sk3 hT hTk SZ hmap
      by_cases hu : sz = d.2.length
      · have hU := UI.1 hu
        have d7 : ((sz : Int) == (d.2.length : Int)) = true := by rw [hu]; simp
        obtain ⟨⟨k0, k1, k2, k3⟩, f0, f1, f2, f3⟩ := cells4 G7
        subst et1
        have FIN : Hid (∀ x, x = Value.agg #[.int .u64 (ver : Nat), (.slice apv prv.length pcv), .slice ev a.2.length cv, (.slice arv rt.length rcv)] → ∀ w', w' = ((((w7.setCell ⟨w.heap.size, 0, none⟩ (.int .u64 ver)).setCell ⟨w.heap.size, 1, none⟩ (.slice apv prv.length pcv)).setCell ⟨w.heap.size, 2, none⟩ (.slice ev a.2.length cv)).setCell ⟨w.heap.size, 3, none⟩ (.slice arv rt.length rcv)) → (loadVar 26 ⟨w.heap.size, 0, none⟩).run Tryz.prog w' = .ok x w' ∧ RMan w R ys (.returned x) w') := by
          intro x hx w' hw'
          obtain ⟨g, og⟩ := put4 G7 (.int .u64 ver) (.slice apv prv.length pcv) (.slice ev a.2.length cv) (.slice arv rt.length rcv)
          rw [← hw'] at g og
          subst hx
          have o7g : Only (fun k => k = w.heap.size) w6 w' := (o7.mono (fun _ _ f => f.elim)).trans og (fun i _ e => e)
          refine ⟨load_man g, O7.out.trans og (fun i hi e => by omega), .inr ⟨_, _, (.slice apv prv.length pcv), .slice ev a.2.length cv, (.slice arv rt.length rcv), M9 H6.out h6 hU, rfl, ⟨rfl, PV6.out.keep o7g (fun j hj e => by have := PV.out.2.2 j hj; omega), ?_, RV.out.1.keep o7g (fun j hj e => by have := RV.out.2.2 j hj; omega)⟩, PV.out.2.1, RV.out.2.1, fun k hk => by have := PV.out.2.2 k hk; omega, fun k hk => by have := RV.out.2.2 k hk; omega, fun k hk => by have := (RE6.out.lt k hk).1; omega⟩⟩
          exact (Ens.of_own (s := a.2.map (EOF d.2)) (by rw [List.length_map]; exact RE6.out)).keep o7g (fun j hj e => by have := (RE6.out.lt j hj).1; omega)
        have hKK := HK.out
        clear HK bad UI hu hU O7 RE6 RT6 PV6 RV PV G7
        subst hKK
        go_wp2_with (first
          | (go_at_call 58; refine (mustHold_ok 3 w7).mono ?_; rintro e w' ⟨rfl, rfl⟩)
          | fail)
        obtain ⟨fl, fr⟩ := FIN.out _ rfl _ rfl
        exact bodyPost_ret (results_b1 Tryz.results34 _ _ rfl fl) rfl fr
      · have d7 : ((sz : Int) == (d.2.length : Int)) = false := by rw [beq_eq_false_iff_ne]; omega
        have FN := hideIt (bad.out 3 w7 (by decide) (M8 H6.out h6 (fun q => hu (UI.2 q))) O7.out)
        subst et1
        clear bad UI hu O7
        go_wp2_with fail
        refine (mustHold_no 3 w7).mono ?_
        rintro e w' ⟨rfl, rfl⟩
        unfold pan
        go_wp2
        exact ⟨rfl, FN.out⟩
    · have d6 : ((y6.length : Int) == 0) = false := by
        rw [beq_eq_false_iff_ne]
        intro e
        exact h6 (List.eq_nil_of_length_eq_zero (by omega))
      have FN := hideIt (bad.out 3 w6 (by decide) (M7 H6.out h6) O6.out)
      clear bad
      go_wp2_with fail
      refine (mustHold_no 3 w6).mono ?_
      rintro e w' ⟨rfl, rfl⟩
      unfold pan
      go_wp2
      exact ⟨rfl, FN.out⟩
  · rw [decide_eq_false hm4] at hme
    have FN := hideIt (bad.out 3 w1 (by decide) (M1 (hd_no h4 (fun e => hm4 (HX4.out.symm.trans e)))) O1.out)
    clear bad HX4 hm4
    go_wp2_with fail
    refine (mustHold_no 3 w1).mono ?_
    rintro e w' ⟨rfl, rfl⟩
    unfold pan
    go_wp2
    exact ⟨rfl, FN.out⟩
end Go.Proofs.YtiolgenaefillaaGreat
