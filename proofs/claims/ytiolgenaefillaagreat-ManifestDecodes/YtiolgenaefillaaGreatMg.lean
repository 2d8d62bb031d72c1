/- Package manifest: the tenants of entries, in a map; in order, with their places. -/
import Derived.Test.YtiolgenaefillaaGreatG9
import Derived.Test.YtiolgenaefillaaGreatMb
import Derived.Test.YtiolgenaefillaaGreatSx
namespace Go.Proofs.YtiolgenaefillaaGreat
open Go.RowKit Go.Maps

theorem law9 : Keyed Tryz.prog 9 := string_keyed Tryz.underlying9
theorem zero3 (w : World) : (zeroValue 3).run Tryz.prog w = .ok (.int .i64 0) w := by kernel_rfl
theorem wf_i64 {y : Nat} (h : y ≤ 1048576) : (Lit.int .i64 (y : Int)).wf = true := by
  have e1 : IntKind.i64.min = -9223372036854775808 := by decide
  have e2 : IntKind.i64.max = 9223372036854775807 := by decide
  simp only [Lit.wf, e1, e2, Bool.and_eq_true, decide_eq_true_eq]; omega
/-- the map of the tenants of the first k entries -/
structure TMap (w wr : World) (es : List (List Int × Int)) (k : Nat) : Prop where
  map : ∃ D, wr.ownsMap Tryz.prog 9 (plainElem (H := Unit) Tryz.prog 3) w.heap.size k D ∧ HasT D ((es.map Prod.fst).take k)
  on : Only (fun _ => False) w wr
theorem fst_at (es : List (List Int × Int)) (k : Nat) (h : k < es.length) : (es.map Prod.fst).take (k + 1) = (es.map Prod.fst).take k ++ [(es.getD k ([], 0)).1] := by
  rw [List.take_succ_eq_append_getElem (by simpa using h), List.getElem_map, List.getD_eq_getElem?_getD, List.getElem?_eq_getElem h]
  rfl
set_option maxHeartbeats 1000000 in
set_option maxRecDepth 100000 in
theorem tenantsOf_any (v : Value) (es : List (List Int × Int)) (w : World) (h : Ens w v es) (hu : EU8 es) (hl : es.length ≤ 1048576) (hx : ∀ e ∈ es, e.1.length ≤ maxLen) :
    Calls Tryz.prog 49 #[v] w fun e w' => e = .returned (.map (some w.heap.size)) ∧ TMap w w' es es.length := by
  have hmm := @run_makeMap Tryz.prog
  obtain ⟨ao, cap, rfl⟩ := h.len
  have HB := hideIt h
  have HU := hideIt hu
  have HX := hideIt hx
  obtain ⟨m, hm⟩ : ∃ m, m = es.length := ⟨_, rfl⟩
  rw [← hm] at HB hl
  rw [← hm]
  have HM := hideIt hm
  have F0 : Hid (TMap w (w.alloc (.map #[] 0)) es 0) :=
    ⟨⟨_, World.ownsMap_made _ _ _ _, fun x _ => by simp [Maps.has]⟩, (Only.refl _ _).alloc _⟩
  clear h hm hu hx
  go_enter Tryz.func49, Tryz.ntmps49
  go_wp2
  go_loopw [9] (fun i wr => ∃ k : Nat, k ≤ m ∧ i = .int .i64 k ∧ TMap w wr es k) (fun i _ => m - (intOf i).toNat)
  case atStart => exact ⟨0, Nat.zero_le _, rfl, F0.out⟩
  case round =>
    clear F0
    obtain ⟨k, hk, rfl, ⟨D, hmap, hT⟩, hon⟩ := hrel
    by_cases hlt : k < m
    · have hlt' : k < es.length := by rw [← HM.out]; exact hlt
      obtain ⟨b, off, cap', e, hc0, hc1⟩ := (HB.out.past hon).at k hlt'
      simp only [Value.slice.injEq] at e
      obtain ⟨rfl, hmx, rfl⟩ := e
      clear hmx
      have hmem : es.getD k ([], 0) ∈ es := eget_mem hlt'
      have ST := hideIt (fst_at es k hlt')
      obtain ⟨x, hx⟩ : ∃ x, x = es.getD k ([], 0) := ⟨_, rfl⟩
      rw [← hx] at ST hc0 hc1 hmem
      have hkey : keyOf Tryz.prog 9 (.string (strOfNums x.1)) = some (kS x.1) := key_str Tryz.underlying9 _ (HX.out x hmem)
      have XU := hideIt (HU.out x hmem)
      have HT := hideIt hT
      have HO := hideIt hon
      have i1 : (k : Int) < (m : Int) := by omega
      have hlo := hmap.lt
      clear hx hT hon hmem hlt' HB
      go_wp2_with (first
        | (at_mapUpdate; refine wpList_mapUpdate_own _ rfl _ _ _ 45 rfl 9 3 law9 Tryz.underlying45 (plainElem (H := Unit) Tryz.prog 3) w.heap.size k _ rfl (hmap.alloc _) (by unfold maxLen; omega) _ _ _ rfl rfl hkey _ [] (plainElem_int Tryz.underlying3 (wf_i64 (y := 0) (by omega))) ?_; intro w1 hown1 hgrow1)
        | fail)
      go_roundw
      case rel =>
        refine ⟨k + 1, by omega, by go_num, ⟨_, hown1, ?_⟩, (HO.out.alloc _).grown hgrow1 (fun j hj e => by injection e; omega)⟩
        rw [ST.out]
        exact HT.out.put hmap.isMap XU.out _
      case measure => simp [intOf]; omega
    · obtain rfl : k = m := by omega
      have HF : Hid (TMap w wr es k) := ⟨⟨D, hmap, hT⟩, hon⟩
      clear hmap hT hon
      go_wp2
      go_ret
      exact ⟨rfl, HF.out⟩
theorem map_keepO {H : Type} {P : Program} {k : TypeId} {R : Value → Option (DataW H × List MemPlace)} {w w' : World} {b n : Nat} {D : DataW H} (h : w.ownsMap P k R b n D) {S : Nat → Prop} (o : Only S w w') (hs : ¬ S b) : w'.ownsMap P k R b n D := by
  obtain ⟨es, clock, hb, F, hl, hD⟩ := h
  exact ⟨es, clock, o.heap hb hs, F, hl, hD⟩
theorem RIS.apart {T : List (List Int)} (h : RIS T) {i j : Nat} (hij : i < j) (hj : j < T.length) : T.getD i [] ≠ T.getD j [] := by
  have h1 := List.pairwise_iff_getElem.1 h i j (by omega) hj hij
  rw [List.getD_eq_getElem?_getD, List.getD_eq_getElem?_getD, List.getElem?_eq_getElem hj, List.getElem?_eq_getElem (by omega)]
  exact lexB_ne h1
/-- the tenants in order -/
structure TOrd (w wr : World) (T : List (List Int)) (vt : Value) (lo N k : Nat) : Prop where
  map : ∃ D, wr.ownsMap Tryz.prog 9 (plainElem (H := Unit) Tryz.prog 3) w.heap.size (N + k) D ∧ ∀ j, j < k → ∀ z, D.atKey (kS (T.getD j [])) z = .lit (.int .i64 (j : Int))
  row : wr.ownsRow lo 9 1 vt T.length (tcells T)
  on : Only (fun _ => False) w wr
theorem TOrd.at {w wr : World} {T : List (List Int)} {vt : Value} {lo N : Nat} (h : TOrd w wr T vt lo N T.length) : ∃ D, wr.ownsMap Tryz.prog 9 (plainElem (H := Unit) Tryz.prog 3) w.heap.size (N + T.length) D ∧ AtT D T := by
  obtain ⟨D, hm, ha⟩ := h.map
  refine ⟨D, hm, fun x hx z => ?_⟩
  have := ha (PLC T x) (PLC_lt hx) z
  rw [PLC_at hx] at this
  exact this
set_option maxHeartbeats 2000000 in
set_option maxRecDepth 100000 in
theorem inOrder_any (v : Value) (es : List (List Int × Int)) (w : World) (h : Ens w v es) (hu : EU8 es) (hl : es.length ≤ 1048576) (hx : ∀ e ∈ es, e.1.length ≤ maxLen) :
    Calls Tryz.prog 21 #[v] w fun e w' => ∃ vt, e = .returned (.tuple #[vt, .map (some w.heap.size)]) ∧ TOrd w w' (TEN (es.map Prod.fst)) vt (w.heap.size + 1) es.length (TEN (es.map Prod.fst)).length := by
  have A := hideIt (tenantsOf_any v es w h hu hl hx)
  have HU : Hid (∀ x ∈ es.map Prod.fst, U8 x) := fun x hx => by obtain ⟨e, he, rfl⟩ := List.mem_map.1 hx; exact hu e he
  have HX : Hid (∀ x ∈ TEN (es.map Prod.fst), U8 x ∧ x.length ≤ maxLen) := fun x hx' => by
    obtain ⟨e, he, rfl⟩ := List.mem_map.1 ((mem_TEN _ _).1 hx')
    exact ⟨hu e he, hx e he⟩
  have HL : Hid ((TEN (es.map Prod.fst)).length ≤ es.length) := by have := TEN_len (es.map Prod.fst); rw [List.length_map] at this; exact this
  have HR := hideIt (ris_TEN (es.map Prod.fst))
  obtain ⟨m, hm⟩ : ∃ m, m = es.length := ⟨_, rfl⟩
  rw [← hm] at hl A HL
  rw [← hm]
  have HTk : Hid ((es.map Prod.fst).take m = es.map Prod.fst) := by
    rw [hm]
    have : (es.map Prod.fst).take (es.map Prod.fst).length = es.map Prod.fst := List.take_length
    rw [List.length_map] at this
    exact this
  obtain ⟨T, hTT⟩ : ∃ T, T = TEN (es.map Prod.fst) := ⟨_, rfl⟩
  have HTT := hideIt hTT
  rw [← hTT] at HX HL HR
  rw [← hTT]
  clear hm h hu hx hTT
  go_enter Tryz.func21, Tryz.ntmps21
  go_wp2_with fail
  refine A.out.mono ?_
  rintro e w1 ⟨rfl, ⟨D, hmap, hT⟩, hon⟩
  rw [HTk.out] at hT
  obtain ⟨sk1, sk2, sk3⟩ := strKeys_has Tryz.underlying9 hmap
  have SZ := size_TEN HU.out hT sk1 sk2 sk3
  have SO := hideIt (fun ss hp => sort_TEN HU.out hT sk1 sk2 (ss := ss) hp)
  have HT := hideIt hT
  rw [← HTT.out] at SZ SO
  have hlT := HL.out
  have ms : Maps.size D ≤ 1048576 := by omega
  have C := hideIt (sorted_any w.heap.size m D _ w1 hmap (by unfold maxLen; omega) (by omega))
  have HO := hideIt hon
  have s1 := hmap.lt
  clear A hT sk1 sk2 hon HTk HU
  go_wp2_with fail
  refine (keys_any w.heap.size w1).mono ?_
  rintro e w2 ⟨rfl, rfl⟩
  go_wp2_with fail
  refine C.out.mono ?_
  rintro e w3 ⟨vt, ss, rfl, hp, hrow, _, hbe⟩
  have hl3 : ss.length = T.length := by rw [hp.length_eq, sk3, SZ]
  have hT3 := SO.out ss hp
  rw [enc_i8, hT3, hl3] at hrow
  have o3 := only_of_below hbe
  have hmap3 := map_keepO (hmap.alloc (.cells #[.map (some w.heap.size)] 45)) o3 (fun f => f)
  have hrow3 : w3.ownsRow (w.heap.size + 1) 9 1 vt T.length (tcells T) := own_low hrow (by simp; omega)
  have F0 : Hid (TOrd w w3 T vt (w.heap.size + 1) m 0) := ⟨⟨D, hmap3, fun j hj => absurd hj (Nat.not_lt_zero _)⟩, hrow3, Only.same (HO.out.alloc _) o3⟩
  obtain ⟨av, cv, ev⟩ := (Sts.of_own hrow3).len
  obtain ⟨n, hn⟩ : ∃ n, n = T.length := ⟨_, rfl⟩
  have HN := hideIt hn
  rw [← hn] at ev hlT
  subst ev
  clear hmap hmap3 hrow hrow3 hbe hp hl3 hT3 SO C o3 s1 sk3 SZ HT HO hn ms
  go_wp2
  go_loopw [15] (fun i wr => ∃ k : Nat, k ≤ n ∧ i = .int .i64 k ∧ TOrd w wr T (.slice av n cv) (w.heap.size + 1) m k) (fun i _ => n - (intOf i).toNat)
  case atStart => exact ⟨0, Nat.zero_le _, rfl, F0.out⟩
  case round =>
    clear F0
    obtain ⟨k, hk, rfl, ⟨D', hmap, hat⟩, hrow, hon⟩ := hrel
    by_cases hlt : k < n
    · have hlt' : k < T.length := by rw [← HN.out]; exact hlt
      obtain ⟨b, off, cap', e, hc0⟩ := (Sts.of_own hrow).at k hlt'
      simp only [Value.slice.injEq] at e
      obtain ⟨rfl, hmx, rfl⟩ := e
      clear hmx
      obtain ⟨xu, xl⟩ := HX.out _ (eget_mem (s := T) (d := []) hlt')
      have hkey : keyOf Tryz.prog 9 (.string (strOfNums (T.getD k []))) = some (kS (T.getD k [])) := key_str Tryz.underlying9 _ xl
      have BL := hideIt (own_neb hrow (Nat.lt_succ_self w.heap.size))
      have HA : Hid (∀ j, j < k → kS (T.getD j []) ≠ kS (T.getD k [])) := fun j hj => kS_ne (HX.out _ (eget_mem (by omega))).1 xu (HR.out.apart hj hlt')
      have HAT := hideIt hat
      have HRW := hideIt hrow
      obtain ⟨x, hx⟩ : ∃ x, x = T.getD k [] := ⟨_, rfl⟩
      have HXX := hideIt hx
      rw [← hx] at hc0 hkey HA
      have HO := hideIt hon
      have i1 : (k : Int) < (n : Int) := by omega
      have IM := hideIt hmap.isMap
      clear hx hon hlt' xu xl hrow hat
      go_wp2_with (first
        | (at_mapUpdate; refine wpList_mapUpdate_own _ rfl _ _ _ 45 rfl 9 3 law9 Tryz.underlying45 (plainElem (H := Unit) Tryz.prog 3) w.heap.size (m + k) _ rfl hmap (by unfold maxLen; omega) _ _ _ rfl rfl hkey _ [] (plainElem_int Tryz.underlying3 (wf_i64 (y := k) (by omega))) ?_; intro w1 hown1 hgrow1)
        | fail)
      go_roundw
      case rel =>
        refine ⟨k + 1, by omega, by go_num, ⟨_, hown1, fun j hj z => ?_⟩, HRW.out.kept hgrow1 (Or.inr BL.out.symm), HO.out.grown hgrow1 (fun j hj e => by injection e; omega)⟩
        rcases Nat.lt_succ_iff_lt_or_eq.1 hj with h1 | rfl
        · rw [atKey_put_other (HA.out j h1)]
          exact HAT.out j h1 z
        · rw [← HXX.out, atKey_put_same IM.out (kS_lit x)]
      case measure => simp [intOf]; omega
    · obtain rfl : k = n := by omega
      have HF : Hid (TOrd w wr T (.slice av k cv) (w.heap.size + 1) m k) := ⟨⟨D', hmap, hat⟩, hrow, hon⟩
      clear hmap hat hrow hon
      go_wp2
      go_ret2
      exact ⟨_, rfl, by rw [← HN.out]; exact HF.out⟩
end Go.Proofs.YtiolgenaefillaaGreat
