/- Package manifest: the tenants' bytes, the entries' bytes. -/
import Derived.Test.YtiolgenaefillaaGreatMg
import Derived.Test.YtiolgenaefillaaGreatG2
import Derived.Test.YtiolgenaefillaaGreatG3
import Derived.Test.YtiolgenaefillaaGreatG1
namespace Go.Proofs.YtiolgenaefillaaGreat
open Go.RowKit Go.Maps

/-- the first k tenants' bytes -/
def TBS (T : List (List Int)) (k : Nat) : List Int := gs T.length ++ ((T.take k).map blk).flatten
theorem TBS_zero (T : List (List Int)) : TBS T 0 = gs T.length := by simp [TBS]
theorem TBS_all (T : List (List Int)) : TBS T T.length = gs T.length ++ (T.map blk).flatten := by rw [TBS, List.take_length]
theorem take_snocT {α : Type} (l : List α) (k : Nat) (d : α) (h : k < l.length) : l.take (k + 1) = l.take k ++ [l.getD k d] := by
  rw [List.take_succ_eq_append_getElem h, List.getD_eq_getElem?_getD, List.getElem?_eq_getElem h]; rfl
theorem TBS_succ (T : List (List Int)) (k : Nat) (h : k < T.length) : TBS T (k + 1) = TBS T k ++ blk (T.getD k []) := by
  rw [TBS, take_snocT T k [] h, List.map_append, List.flatten_append, TBS]
  simp
theorem flat_le {α : Type} (f : α → List Int) (B : Nat) : ∀ (l : List α), (∀ x ∈ l, (f x).length ≤ B) → ((l.map f).flatten).length ≤ l.length * B
  | [], _ => by simp
  | x :: l, h => by
    have h1 := flat_le f B l (fun y hy => h y (List.mem_cons_of_mem _ hy))
    have h2 := h x List.mem_cons_self
    simp only [List.map_cons, List.flatten_cons, List.length_append, List.length_cons]
    rw [Nat.succ_mul]; omega
theorem TBS_le (T : List (List Int)) (k : Nat) (hk : k ≤ T.length) (hn : T.length ≤ 1048576) (hl : ∀ x ∈ T, x.length ≤ 64) : (TBS T k).length ≤ 10 + k * 74 := by
  have h1 := gs_le10 (v := T.length) (by omega)
  have h2 := flat_le blk 74 (T.take k) (fun x hx => by
    have h3 := hl x (List.mem_of_mem_take hx)
    have h4 := blk_len x (by omega)
    omega)
  rw [List.length_take, Nat.min_eq_left hk] at h2
  rw [TBS, List.length_append]; omega
set_option maxHeartbeats 1000000 in
set_option maxRecDepth 100000 in
theorem tenantBytes_any (v : Value) (T : List (List Int)) (w : World) (h : Sts w v T) (hu : ∀ x ∈ T, U8 x ∧ x.length ≤ 64) (hl : T.length ≤ 1048576) :
    Calls Tryz.prog 24 #[v] w fun e w' => ∃ u, e = .returned u ∧ w'.ownsRow w.heap.size 5 1 u (TBS T T.length).length ((TBS T T.length).map (Value.int .u8)) ∧ Only (fun _ => False) w w' := by
  obtain ⟨i0, hi, hz0, hz1, hz2⟩ := info_parts Tryz.infoU8
  obtain ⟨ao, cap, rfl⟩ := h.len
  have A := hideIt (append_any (.slice none 0 0) [] (T.length : Int) w (Bs.nil _ _) NoCap.nil (by simp) (by omega) (by omega))
  rw [List.nil_append, Int.toNat_natCast, ← TBS_zero] at A
  have HB := hideIt h
  have HU := hideIt hu
  have HS := hideIt (TBS_succ T)
  have HLE := hideIt (fun k hk => TBS_le T k hk hl (fun x hx => (hu x hx).2))
  obtain ⟨n, hn⟩ : ∃ n, n = T.length := ⟨_, rfl⟩
  rw [← hn] at HB hl A
  have HN := hideIt hn
  rw [← hn]
  have hw : IntKind.u64.wrap (n : Int) = n := by rw [IntKind.wrap_u64]; omega
  clear h hu hn
  go_enter Tryz.func24, Tryz.ntmps24
  go_wp2_with fail
  refine A.out.mono ?_
  rintro e w0 ⟨u0, rfl, own0, o0⟩
  have F0 := hideIt (And.intro own0 o0)
  clear own0 o0 A
  go_wp2
  go_loopw [3, 12] (fun u i wr => ∃ k : Nat, k ≤ n ∧ i = .int .i64 k ∧ wr.ownsRow w.heap.size 5 1 u (TBS T k).length ((TBS T k).map (Value.int .u8)) ∧ Only (fun _ => False) w wr) (fun _ i _ => n - (intOf i).toNat)
  case atStart => exact ⟨0, Nat.zero_le _, rfl, F0.out⟩
  case round =>
    clear F0
    obtain ⟨k, hk, rfl, own, on⟩ := hrel
    by_cases hlt : k < n
    · have hlt' : k < T.length := by rw [← HN.out]; exact hlt
      obtain ⟨b, off, cap', e, hc0⟩ := (HB.out.past on).at k hlt'
      simp only [Value.slice.injEq] at e
      obtain ⟨rfl, hmx, rfl⟩ := e
      clear hmx
      obtain ⟨xu, xl⟩ := HU.out _ (eget_mem (s := T) (d := []) hlt')
      have SC := hideIt (HS.out k hlt')
      have LE := HLE.out k (by omega)
      have HSB := sb_of xu
      obtain ⟨x, hx⟩ : ∃ x, x = T.getD k [] := ⟨_, rfl⟩
      rw [← hx] at hc0 SC xu xl HSB
      have hcv := conv_bytes (strOfNums x)
      have hsz : (strOfNums x).size = x.length := size_nums x
      have hge := grownCap_ge wr (strOfNums x).size 0 5
      obtain ⟨c, hc⟩ : ∃ c, c = grownCap wr (strOfNums x).size 0 5 := ⟨_, rfl⟩
      rw [← hc] at hge
      have o2 : Only (fun _ => False) wr (wr.alloc (bytesObj (strOfNums x) c)).drew := ((Only.refl _ _).alloc _).drew
      have B := hideIt (blk_any (.slice (some ⟨wr.heap.size, 0, none⟩) (strOfNums x).size c) x (wr.alloc (bytesObj (strOfNums x) c)).drew (by have := bytesObj_bs (heap_drew_at (heap_at_new (W := wr) (o := bytesObj (strOfNums x) c) rfl)) (by omega : (strOfNums x).size ≤ c); rw [HSB] at this; exact this) (NoCap.some _ _ _) (by omega))
      have HBL := blk_len x (by omega)
      obtain ⟨X, hX⟩ : ∃ X, X = blk x := ⟨_, rfl⟩
      rw [← hX] at B SC HBL
      obtain ⟨Y, hY⟩ : ∃ Y, Y = TBS T k := ⟨_, rfl⟩
      rw [← hY] at own SC LE
      have OWN := hideIt (o2.own own (fun _ _ f => f))
      have ON := hideIt (on.same o2)
      have i1 : (k : Int) < (n : Int) := by omega
      have hsl := on.size
      clear hx hX hY own on o2 hlt' xu HSB hge hsz
      go_wp2_with fail
      rw [← hc]
      refine B.out.mono ?_
      rintro e w1 ⟨v1, rfl, own1, o1⟩
      have OWN1 := o1.own OWN.out (fun _ _ f => f)
      have BS1 := Bs.of_own (k := .u8) own1
      have NC1 := NoCap.of_own own1
      have s1 := o1.size
      clear hcv hc
      go_wp2_with (at_builtin; refine wpList_append_bs _ rfl _ _ 23 rfl w.heap.size 5 i0 (.int .u8 0) 1 Tryz.underlying23 hi hz0 hz1 hz2 rfl _ Y.length (Y.map (Value.int .u8)) rfl OWN1 .u8 _ X rfl BS1 NC1 (by unfold maxLen; omega) (by omega) (by simp at s1; omega) ?_; intro v2 w2 own2 gr2 _ _)
      go_roundw
      case rel =>
        refine ⟨k + 1, by omega, by go_num, ?_, (ON.out.same o1).grown gr2 (fun j hj e => by have := (OWN1.lt j e).1; omega)⟩
        rw [SC.out, List.length_append, List.map_append]
        exact own2
      case measure => simp [intOf]; omega
    · obtain rfl : k = n := by omega
      have F := hideIt (And.intro own on)
      clear own on HB
      go_wp2
      go_ret
      exact ⟨_, rfl, F.out⟩
/-- the first k entries' bytes -/
def EBS (T : List (List Int)) (es : List (List Int × Int)) (k : Nat) : List Int := gs es.length ++ ((es.take k).map (MEN T)).flatten
theorem EBS_zero (T : List (List Int)) (es : List (List Int × Int)) : EBS T es 0 = gs es.length := by simp [EBS]
theorem EBS_all (T : List (List Int)) (es : List (List Int × Int)) : EBS T es es.length = gs es.length ++ (es.map (MEN T)).flatten := by rw [EBS, List.take_length]
theorem EBS_succ (T : List (List Int)) (es : List (List Int × Int)) (k : Nat) (h : k < es.length) : EBS T es (k + 1) = EBS T es k ++ (gs (PLC T (es.getD k ([], 0)).1) ++ [(es.getD k ([], 0)).2]) := by
  rw [EBS, take_snocT es k ([], 0) h, List.map_append, List.flatten_append, EBS]
  simp [MEN]
theorem EBS_le (T : List (List Int)) (es : List (List Int × Int)) (k : Nat) (hk : k ≤ es.length) (hn : es.length ≤ 1048576) (hT : ∀ e ∈ es, e.1 ∈ T) (hl : T.length ≤ 1048576) : (EBS T es k).length ≤ 10 + k * 11 := by
  have h1 := gs_le10 (v := es.length) (by omega)
  have h2 := flat_le (MEN T) 11 (es.take k) (fun e he => by
    have h3 := PLC_lt (hT e (List.mem_of_mem_take he))
    have h4 := gs_le10 (v := PLC T e.1) (by omega)
    simp only [MEN, List.length_append, List.length_singleton]; omega)
  rw [List.length_take, Nat.min_eq_left hk] at h2
  rw [EBS, List.length_append]; omega
set_option maxHeartbeats 2000000 in
set_option maxRecDepth 100000 in
theorem entryBytes_any (v : Value) (es : List (List Int × Int)) (T : List (List Int)) (mb N : Nat) (D : DataW Unit) (w : World) (h : Ens w v es) (hm : w.ownsMap Tryz.prog 9 (plainElem (H := Unit) Tryz.prog 3) mb N D) (ha : AtT D T)
    (hT : ∀ e ∈ es, e.1 ∈ T) (hx : ∀ e ∈ es, e.1.length ≤ maxLen ∧ 0 ≤ e.2 ∧ e.2 ≤ 8) (hl : es.length ≤ 1048576) (hlT : T.length ≤ 1048576) :
    Calls Tryz.prog 25 #[v, .map (some mb)] w fun e w' => ∃ u, e = .returned u ∧ w'.ownsRow w.heap.size 5 1 u (EBS T es es.length).length ((EBS T es es.length).map (Value.int .u8)) ∧ Only (fun _ => False) w w' := by
  obtain ⟨i0, hi, hz0, hz1, hz2⟩ := info_parts Tryz.infoU8
  obtain ⟨ao, cap, rfl⟩ := h.len
  have A := hideIt (append_any (.slice none 0 0) [] (es.length : Int) w (Bs.nil _ _) NoCap.nil (by simp) (by omega) (by omega))
  rw [List.nil_append, Int.toNat_natCast, ← EBS_zero T] at A
  have HB := hideIt h
  have HM := hideIt hm
  have HA := hideIt ha
  have HT := hideIt hT
  have HX := hideIt hx
  have HS := hideIt (EBS_succ T es)
  have HLE := hideIt (fun k hk => EBS_le T es k hk hl hT hlT)
  obtain ⟨n, hn⟩ : ∃ n, n = es.length := ⟨_, rfl⟩
  rw [← hn] at HB hl A
  have HN := hideIt hn
  rw [← hn]
  have hw : IntKind.u64.wrap (n : Int) = n := by rw [IntKind.wrap_u64]; omega
  clear h hm ha hT hx hn
  go_enter Tryz.func25, Tryz.ntmps25
  go_wp2_with fail
  refine A.out.mono ?_
  rintro e w0 ⟨u0, rfl, own0, o0⟩
  have F0 := hideIt (And.intro own0 o0)
  clear own0 o0 A
  go_wp2
  clear hw
  go_loopw [5, 14] (fun u i wr => ∃ k : Nat, k ≤ n ∧ i = .int .i64 k ∧ wr.ownsRow w.heap.size 5 1 u (EBS T es k).length ((EBS T es k).map (Value.int .u8)) ∧ Only (fun _ => False) w wr) (fun _ i _ => n - (intOf i).toNat)
  case atStart => exact ⟨0, Nat.zero_le _, rfl, F0.out⟩
  case round =>
    clear F0
    obtain ⟨k, hk, rfl, own, on⟩ := hrel
    by_cases hlt : k < n
    · have hlt' : k < es.length := by rw [← HN.out]; exact hlt
      obtain ⟨b, off, cap', e, hc0, hc1⟩ := (HB.out.past on).at k hlt'
      simp only [Value.slice.injEq] at e
      obtain ⟨rfl, hmx, rfl⟩ := e
      clear hmx
      have hmem : es.getD k ([], 0) ∈ es := eget_mem hlt'
      have SC := hideIt (HS.out k hlt')
      have LE := HLE.out k (by omega)
      obtain ⟨x, hx⟩ : ∃ x, x = es.getD k ([], 0) := ⟨_, rfl⟩
      rw [← hx] at hc0 hc1 SC hmem
      obtain ⟨xl, x0, x8⟩ := HX.out x hmem
      have hat0 := hideIt (HA.out x.1 (HT.out x hmem) (.lit (.int .i64 0)))
      have hpl := PLC_lt (HT.out x hmem)
      have hkey : keyOf Tryz.prog 9 (.string (strOfNums x.1)) = some (kS x.1) := key_str Tryz.underlying9 _ xl
      have hg10 := gs_le10 (v := PLC T x.1) (by omega)
      obtain ⟨p, hp⟩ : ∃ p, p = PLC T x.1 := ⟨_, rfl⟩
      rw [← hp] at hat0 hpl SC hg10
      have B := hideIt (fun W => append_any (.slice none 0 0) [] (p : Int) W (Bs.nil _ _) NoCap.nil (by simp) (by omega) (by omega))
      rw [List.nil_append, Int.toNat_natCast] at B
      obtain ⟨X, hX⟩ : ∃ X, X = gs p := ⟨_, rfl⟩
      rw [← hX] at B SC hg10
      obtain ⟨Y, hY⟩ : ∃ Y, Y = EBS T es k := ⟨_, rfl⟩
      rw [← hY] at own SC LE
      have hmap := map_keepO HM.out on (fun f => f)
      have OWN := hideIt own
      have ON := hideIt on
      have i1 : (k : Int) < (n : Int) := by omega
      have hsl := on.size
      have hw : IntKind.u64.wrap (p : Int) = p := by rw [IntKind.wrap_u64]; omega
      have hw8 : IntKind.u8.wrap x.2 = x.2 := by rw [IntKind.wrap_u8]; omega
      clear hx hX hY own on hlt' hmem hp
      go_wp2_with (first
        | (at_lookup; refine wpList_lookup_own_int _ rfl _ _ 45 rfl 9 3 .i64 law9 Tryz.underlying45 Tryz.underlying3 (zero3 _) mb N _ rfl (hmap.alloc _) _ _ rfl hkey ?_; intro c hat hwc; obtain rfl : c = (p : Int) := (by have := hat.symm.trans hat0.out; simpa using this); clear hat hwc hat0)
        | fail)
      refine (B.out _).mono ?_
      rintro e w1 ⟨v1, rfl, own1, o1⟩
      have ob : Only (fun _ => False) wr (wr.alloc (.cells #[.string (strOfNums x.1), .int .i64 x.2] 41)) := (Only.refl _ _).alloc _
      have o2 := ob.same o1
      have OWN1 := o2.own OWN.out (fun _ _ f => f)
      have BS1 := Bs.of_own (k := .u8) own1
      have NC1 := NoCap.of_own own1
      have s1 := o2.size
      have K1 := o1.heap (heap_alloc_new wr (.cells #[.string (strOfNums x.1), .int .i64 x.2] 41)) (fun f => f)
      have cb : w1.cell? ⟨wr.heap.size, 1, none⟩ = some (.int .i64 x.2) := by simp [World.cell?, K1]
      have KN : Hid (∀ j, j = wr.heap.size → some j ≠ u5.ownBlock) := by
        intro j hj e
        have := OWN.out.lt j e.symm
        omega
      clear hc0 hc1 hkey hmap B
      clear cb
      go_wp2_with (first
        | (at_builtin; refine wpList_append_bs _ rfl _ _ 23 rfl w.heap.size 5 i0 (.int .u8 0) 1 Tryz.underlying23 hi hz0 hz1 hz2 rfl u5 Y.length (Y.map (Value.int .u8)) rfl OWN1 .u8 _ X rfl BS1 NC1 (by unfold maxLen; omega) (by omega) (by omega) ?_; intro v2 w2 own2 gr2 _ _; have cb2 : w2.cell? ⟨wr.heap.size, 1, none⟩ = some (.int .i64 x.2) := (by have K2 := ((Only.refl (fun j => u5.ownBlock = some j) w1).grown gr2 (fun j _ e => e)).heap K1 (fun e => KN.out _ rfl e.symm); simp [World.cell?, K2]); clear K1 KN BS1 NC1)
        | (at_builtin; refine wpList_append_bs _ rfl _ _ 23 rfl w.heap.size 5 i0 (.int .u8 0) 1 Tryz.underlying23 hi hz0 hz1 hz2 rfl v2 (Y.length + X.length) _ rfl (own2.alloc _) .u8 (.slice (some ⟨w2.heap.size, 0, none⟩) 1 1) [x.2] rfl (Bs.litN .u8 w2 5 [x.2] _ _ rfl rfl) (NoCap.some _ _ _) (by unfold maxLen; simp; omega) (by simp; omega) (by have := gr2.size; simp; omega) ?_; intro v3 w3 own3 gr3 _ _)
        | fail)
      go_roundw
      case rel =>
        refine ⟨k + 1, by omega, by go_num, ?_, (((ON.out.same o2).grown gr2 (fun j hj e => by have := (OWN1.lt j e).1; omega)).alloc _).grown gr3 (fun j hj e => by have := (own2.lt j e).1; omega)⟩
        rw [SC.out]
        have e1 : (Y ++ (X ++ [x.2])).length = Y.length + X.length + 1 := by simp; omega
        rw [e1, ← List.append_assoc, List.map_append, List.map_append]
        exact own3
      case measure => simp [intOf]; omega
    · obtain rfl : k = n := by omega
      have F := hideIt (And.intro own on)
      clear own on HB
      go_wp2
      go_ret
      exact ⟨_, rfl, F.out⟩
end Go.Proofs.YtiolgenaefillaaGreat
