/- The document's own answer: a key of 64 bytes with a byte held against each. -/
import Derived.Test.YtiolgenaefillaaGreatRsum
import Derived.Test.YtiolgenaefillaaGreatG1
import Derived.Test.YtiolgenaefillaaGreatG6
namespace Go.Proofs.YtiolgenaefillaaGreat
open Go.RowKit

theorem xorB_next (x : Nat) (k : List Int) (j : Nat) (hj : j < k.length) : (xorB x k).take (j + 1) = (xorB x k).take j ++ [(((k.getD j 0).toNat ^^^ x : Nat) : Int)] := by
  rw [List.take_add_one]
  have e : (xorB x k)[j]? = some (((k.getD j 0).toNat ^^^ x : Nat) : Int) := by
    unfold xorB
    rw [List.getElem?_map, List.getElem?_eq_getElem hj, List.getD_eq_getElem?_getD, List.getElem?_eq_getElem hj]; rfl
  rw [e]; rfl
theorem pad64_in (key : List Int) (j : Nat) (hj : j < (keyS key).length) : (keyS key).getD j 0 = (pad64 key).getD j 0 := by
  unfold pad64
  rw [List.getD_eq_getElem?_getD, List.getD_eq_getElem?_getD, List.getElem?_append_left hj]
theorem pad64_out (key : List Int) (j : Nat) (hj : ¬ j < (keyS key).length) : (pad64 key).getD j 0 = 0 := by
  unfold pad64
  rw [List.getD_eq_getElem?_getD, List.getElem?_append_right (by omega)]
  rw [List.getElem?_replicate]
  by_cases h : j - (keyS key).length < 64 - (keyS key).length
  · rw [if_pos h]; rfl
  · rw [if_neg h]; rfl

set_option maxHeartbeats 1600000 in
set_option maxRecDepth 100000 in
theorem rpad_short (v : Value) (key : List Int) (x : Nat) (w : World) (hb : Bs .u8 w v key) (h8 : U8 key) (hl : key.length ≤ 64) (hx : x < 256) :
    Calls Tryz.prog 72 #[v, .int .u8 (x : Int)] w fun e w' => ∃ u, e = .returned u ∧ w'.ownsRow w.heap.size 5 1 u 64 ((xorB x (pad64 key)).map (Value.int .u8)) ∧ Only (fun _ => False) w w' := by
  obtain ⟨i0, hi, hz0, hz1, hz2⟩ := info_parts Tryz.infoU8
  obtain ⟨K, hK⟩ : ∃ K, K = keyS key := ⟨_, rfl⟩
  obtain ⟨F, hF⟩ : ∃ F : Nat → List Value, F = fun j => ((xorB x (pad64 key)).take j).map (Value.int .u8) := ⟨_, rfl⟩
  have F0 : Hid (F 0 = []) := by rw [hF]; rfl
  have F64 : Hid (F 64 = (xorB x (pad64 key)).map (Value.int .u8)) := by
    show _ = _
    rw [hF]; simp only; rw [List.take_of_length_le (by rw [xorB_len, pad64_len]; decide)]
  have FN : Hid (∀ j, j < 64 → F (j + 1) = F j ++ [((((pad64 key).getD j 0).toNat ^^^ x : Nat) : Int)].map (Value.int .u8)) := fun j hj => by
    rw [hF]; simp only; rw [← List.map_append, xorB_next x _ j (by rw [pad64_len]; exact hj)]
  have HX := hideIt hx
  obtain ⟨T, hT⟩ : ∃ T, T = (xorB x (pad64 key)).map (Value.int .u8) := ⟨_, rfl⟩
  rw [← hT] at F64 ⊢
  have hk : keyS key = key := if_neg (by omega)
  obtain ⟨W, hW⟩ : ∃ W, W = w := ⟨_, rfl⟩
  obtain ⟨LO, hLO⟩ : ∃ LO, LO = W.heap.size := ⟨_, rfl⟩
  have HLO : Hid (w.heap.size ≤ LO ∧ LO ≤ W.heap.size ∧ Only (fun _ => False) w W ∧ W.heap.size ≤ LO) := ⟨by rw [hLO, hW]; exact Nat.le_refl _, by rw [hLO]; exact Nat.le_refl _, by rw [hW]; exact Only.refl _ _, by rw [hLO]; exact Nat.le_refl _⟩
  obtain ⟨ao, cap, rfl⟩ := hb.len
  obtain ⟨n, hn⟩ : ∃ n, n = key.length := ⟨_, rfl⟩
  rw [← hn] at hb ⊢
  rw [hk] at hK
  have HB : Hid (Bs .u8 W (.slice ao n cap) K ∧ n = K.length ∧ U8 K) := by
    rw [hK, hW]; exact ⟨hb, hn, h8⟩
  have HY : Hid ((∀ j, j < n → K.getD j 0 = (pad64 key).getD j 0) ∧ ∀ j, ¬ j < n → (pad64 key).getD j 0 = 0) := by
    refine ⟨fun j hj => ?_, fun j hj => ?_⟩
    · rw [hK, ← pad64_in key j (by rw [hk, ← hn]; exact hj), hk]
    · exact pad64_out key j (by rw [hk, ← hn]; exact hj)
  have d1 : decide ((64 : Int) < (n : Int)) = false := decide_eq_false (by omega)
  have d1' : decide (64 < n) = false := decide_eq_false (by omega)
  clear hK hF hT hk hLO hb h8 hl hx hn
  subst hW
  obtain ⟨W, hW⟩ : ∃ W', W' = W := ⟨_, rfl⟩
  subst hW
  go_enter Tryz.func72, Tryz.ntmps72
  go_wp2
  go_loopw [6, 7] (fun o i wr => ∃ j : Nat, j ≤ 64 ∧ i = .int .i64 j ∧ Hid (wr.ownsRow LO 5 1 o j (F j)) ∧ Hid (Only (fun _ => False) W wr)) (fun _ i _ => 64 - (intOf i).toNat)
  case atStart => exact ⟨0, by omega, rfl, ⟨by rw [F0.out]; rfl, .inl ⟨rfl, rfl⟩⟩, Only.refl _ _⟩
  case round =>
    obtain ⟨j, hj, rfl, HOWN, HON⟩ := hrel
    have HSZ : Hid (LO ≤ wr.heap.size) := by
      have h1 := HON.out.size
      have h2 := HLO.out
      show _ ≤ _
      omega
    by_cases hlt : j < 64
    · have hfn := FN.out j hlt
      by_cases hin : j < n
      · obtain ⟨b, off, cap', e, hcell⟩ := HB.out.1.at j (by rw [← HB.out.2.1]; exact hin)
        simp at e
        obtain ⟨e1, -, e3⟩ := e
        subst e1
        have hy := HY.out.1 j hin
        obtain ⟨y, hyy⟩ : ∃ y, y = K.getD j 0 := ⟨_, rfl⟩
        rw [← hyy] at hcell hy
        have hc : wr.cell? ⟨b, off + j, none⟩ = some (.int .u8 y) := cell_past hcell HON.out
        have hr := HB.out.2.2.at j
        rw [← hyy] at hr
        have hxor := u8_xor y (x : Int) hr.1 (by omega) (by omega) (by have := HX.out; omega)
        rw [Int.toNat_natCast] at hxor
        obtain ⟨q, hq⟩ : ∃ q : Nat, q = y.toNat ^^^ x := ⟨_, rfl⟩
        rw [← hq] at hxor
        have HFN : Hid (F (j + 1) = F j ++ [(q : Int)].map (Value.int .u8)) := by
          show _ = _
          rw [hfn, ← hy, ← hq]
        have dlt : decide ((j : Int) < (n : Int)) = true := decide_eq_true (by omega)
        have dlt' : decide (j < n) = true := decide_eq_true hin
        have i2 : (j : Int) < (n : Int) := by omega
        clear hfn hy hyy hcell hr hq e3
        have i0' : (0 : Int) ≤ (j : Int) := by omega
        have i1 : (j : Int) < 64 := by omega
        have BL := hideIt (Bs.litN .u8 wr 5 [(q : Int)] _ _ rfl rfl)
        go_wp2_with (at_builtin; refine wpList_append_bs _ rfl _ _ 23 rfl LO 5 i0 (.int .u8 0) 1 Tryz.underlying23 hi hz0 hz1 hz2 rfl _ j (F j) rfl (HOWN.out.alloc _) .u8 _ [(q : Int)] rfl BL.out (NoCap.some _ _ _) (by simp [maxLen]; omega) (by simp; omega) (by have := HSZ.out; simp; omega) ?_; intro v' w2 hown' hgrow2 hnil2 hob2)
        have N1 : Hid (w2.ownsRow LO 5 1 v' (j + 1) (F (j + 1))) := by
          rw [HFN.out]; exact hown'
        have N2 : Hid (Only (fun _ => False) W w2) := (HON.out.alloc _).grown hgrow2 (fun k hk e => by have := HOWN.out.lt k e; have := HLO.out; omega)
        clear hown' hgrow2 hnil2 hob2 HOWN HON BL HFN
        go_wp2
        go_roundw
        case rel => exact ⟨j + 1, by omega, by go_num, N1, N2⟩
        case measure => simp [intOf]; omega
      · have hy := HY.out.2 j hin
        have hxor := u8_xor 0 (x : Int) (by omega) (by omega) (by omega) (by have := HX.out; omega)
        rw [Int.toNat_natCast] at hxor
        obtain ⟨q, hq⟩ : ∃ q : Nat, q = (0 : Int).toNat ^^^ x := ⟨_, rfl⟩
        rw [← hq] at hxor
        have HFN : Hid (F (j + 1) = F j ++ [(q : Int)].map (Value.int .u8)) := by
          show _ = _
          rw [hfn, hy, hq]
        have dlt : decide ((j : Int) < (n : Int)) = false := decide_eq_false (by omega)
        have dlt' : decide (j < n) = false := decide_eq_false hin
        clear hfn hy hq
        have i0' : (0 : Int) ≤ (j : Int) := by omega
        have i1 : (j : Int) < 64 := by omega
        have BL := hideIt (Bs.litN .u8 wr 5 [(q : Int)] _ _ rfl rfl)
        go_wp2_with (at_builtin; refine wpList_append_bs _ rfl _ _ 23 rfl LO 5 i0 (.int .u8 0) 1 Tryz.underlying23 hi hz0 hz1 hz2 rfl _ j (F j) rfl (HOWN.out.alloc _) .u8 _ [(q : Int)] rfl BL.out (NoCap.some _ _ _) (by simp [maxLen]; omega) (by simp; omega) (by have := HSZ.out; simp; omega) ?_; intro v' w2 hown' hgrow2 hnil2 hob2)
        have N1 : Hid (w2.ownsRow LO 5 1 v' (j + 1) (F (j + 1))) := by
          rw [HFN.out]; exact hown'
        have N2 : Hid (Only (fun _ => False) W w2) := (HON.out.alloc _).grown hgrow2 (fun k hk e => by have := HOWN.out.lt k e; have := HLO.out; omega)
        clear hown' hgrow2 hnil2 hob2 HOWN HON BL HFN
        go_wp2
        go_roundw
        case rel => exact ⟨j + 1, by omega, by go_num, N1, N2⟩
        case measure => simp [intOf]; omega
    · obtain rfl : j = 64 := by omega
      rw [F64.out] at HOWN
      obtain ⟨ao', cap', e'⟩ := own_form HOWN.out
      subst e'
      go_wp2
      go_ret
      exact ⟨_, rfl, own_low HOWN.out HLO.out.1, HLO.out.2.2.1.same HON.out⟩

set_option maxHeartbeats 1600000 in
set_option maxRecDepth 100000 in
theorem rpad_long (v : Value) (key : List Int) (x : Nat) (w : World) (hb : Bs .u8 w v key) (nc : NoCap v) (h8 : U8 key) (hl : 64 < key.length) (hl2 : key.length ≤ 1000000) (hx : x < 256) :
    Calls Tryz.prog 72 #[v, .int .u8 (x : Int)] w fun e w' => ∃ u, e = .returned u ∧ w'.ownsRow w.heap.size 5 1 u 64 ((xorB x (pad64 key)).map (Value.int .u8)) ∧ Only (fun _ => False) w w' := by
  obtain ⟨i0, hi, hz0, hz1, hz2⟩ := info_parts Tryz.infoU8
  obtain ⟨K, hK⟩ : ∃ K, K = keyS key := ⟨_, rfl⟩
  obtain ⟨F, hF⟩ : ∃ F : Nat → List Value, F = fun j => ((xorB x (pad64 key)).take j).map (Value.int .u8) := ⟨_, rfl⟩
  have F0 : Hid (F 0 = []) := by rw [hF]; rfl
  have F64 : Hid (F 64 = (xorB x (pad64 key)).map (Value.int .u8)) := by
    show _ = _
    rw [hF]; simp only; rw [List.take_of_length_le (by rw [xorB_len, pad64_len]; decide)]
  have FN : Hid (∀ j, j < 64 → F (j + 1) = F j ++ [((((pad64 key).getD j 0).toNat ^^^ x : Nat) : Int)].map (Value.int .u8)) := fun j hj => by
    rw [hF]; simp only; rw [← List.map_append, xorB_next x _ j (by rw [pad64_len]; exact hj)]
  have HX := hideIt hx
  obtain ⟨T, hT⟩ : ∃ T, T = (xorB x (pad64 key)).map (Value.int .u8) := ⟨_, rfl⟩
  rw [← hT] at F64 ⊢
  have hk : keyS key = SHA key := if_pos hl
  have A := hideIt (rsum_bs v key w hb nc h8 hl2)
  rw [hk] at hK
  rw [← hK] at A
  have HK : Hid (K.length = 32 ∧ U8 K) := by rw [hK]; exact ⟨SHA_len _, SHA_range _⟩
  have HY : Hid ((∀ j, j < 32 → K.getD j 0 = (pad64 key).getD j 0) ∧ ∀ j, ¬ j < 32 → (pad64 key).getD j 0 = 0) := by
    refine ⟨fun j hj => ?_, fun j hj => ?_⟩
    · rw [hK, ← hk]
      exact pad64_in key j (by rw [hk, SHA_len]; exact hj)
    · exact pad64_out key j (by rw [hk, SHA_len]; exact hj)
  obtain ⟨ao0, cap0, rfl⟩ := hb.len
  obtain ⟨m, hm⟩ : ∃ m, m = key.length := ⟨_, rfl⟩
  rw [← hm] at A ⊢
  have d1 : decide ((64 : Int) < (m : Int)) = true := decide_eq_true (by omega)
  have d1' : decide (64 < m) = true := decide_eq_true (by omega)
  clear hK hF hT hk hb h8 hl hl2 hx hm nc
  go_enter Tryz.func72, Tryz.ntmps72
  go_wp2_with fail
  refine A.out.mono ?_
  rintro e W ⟨v1, rfl, own1, on1⟩
  have b1 : Bs .u8 W v1 K := Bs.of_own (by rw [HK.out.1]; exact own1)
  obtain ⟨LO, hLO⟩ : ∃ LO, LO = W.heap.size := ⟨_, rfl⟩
  have HLO : Hid (w.heap.size ≤ LO ∧ LO ≤ W.heap.size ∧ Only (fun _ => False) w W ∧ W.heap.size ≤ LO) := ⟨by rw [hLO]; exact on1.size, by rw [hLO]; exact Nat.le_refl _, on1, by rw [hLO]; exact Nat.le_refl _⟩
  obtain ⟨n, hn⟩ : ∃ n, n = 32 := ⟨_, rfl⟩
  rw [← hn] at HY HK
  obtain ⟨ao, cap, e1⟩ := b1.len
  rw [HK.out.1] at e1
  subst e1
  have HB : Hid (Bs .u8 W (.slice ao n cap) K ∧ n = K.length ∧ U8 K) := ⟨b1, HK.out.1.symm, HK.out.2⟩
  clear hLO own1 on1 b1 A hn HK
  go_wp2
  go_loopw [6, 7] (fun o i wr => ∃ j : Nat, j ≤ 64 ∧ i = .int .i64 j ∧ Hid (wr.ownsRow LO 5 1 o j (F j)) ∧ Hid (Only (fun _ => False) W wr)) (fun _ i _ => 64 - (intOf i).toNat)
  case atStart => exact ⟨0, by omega, rfl, ⟨by rw [F0.out]; rfl, .inl ⟨rfl, rfl⟩⟩, Only.refl _ _⟩
  case round =>
    obtain ⟨j, hj, rfl, HOWN, HON⟩ := hrel
    have HSZ : Hid (LO ≤ wr.heap.size) := by
      have h1 := HON.out.size
      have h2 := HLO.out
      show _ ≤ _
      omega
    by_cases hlt : j < 64
    · have hfn := FN.out j hlt
      by_cases hin : j < n
      · obtain ⟨b, off, cap', e, hcell⟩ := HB.out.1.at j (by rw [← HB.out.2.1]; exact hin)
        simp at e
        obtain ⟨e1, -, e3⟩ := e
        subst e1
        have hy := HY.out.1 j hin
        obtain ⟨y, hyy⟩ : ∃ y, y = K.getD j 0 := ⟨_, rfl⟩
        rw [← hyy] at hcell hy
        have hc : wr.cell? ⟨b, off + j, none⟩ = some (.int .u8 y) := cell_past hcell HON.out
        have hr := HB.out.2.2.at j
        rw [← hyy] at hr
        have hxor := u8_xor y (x : Int) hr.1 (by omega) (by omega) (by have := HX.out; omega)
        rw [Int.toNat_natCast] at hxor
        obtain ⟨q, hq⟩ : ∃ q : Nat, q = y.toNat ^^^ x := ⟨_, rfl⟩
        rw [← hq] at hxor
        have HFN : Hid (F (j + 1) = F j ++ [(q : Int)].map (Value.int .u8)) := by
          show _ = _
          rw [hfn, ← hy, ← hq]
        have dlt : decide ((j : Int) < (n : Int)) = true := decide_eq_true (by omega)
        have dlt' : decide (j < n) = true := decide_eq_true hin
        have i2 : (j : Int) < (n : Int) := by omega
        clear hfn hy hyy hcell hr hq e3
        have i0' : (0 : Int) ≤ (j : Int) := by omega
        have i1 : (j : Int) < 64 := by omega
        have BL := hideIt (Bs.litN .u8 wr 5 [(q : Int)] _ _ rfl rfl)
        go_wp2_with (at_builtin; refine wpList_append_bs _ rfl _ _ 23 rfl LO 5 i0 (.int .u8 0) 1 Tryz.underlying23 hi hz0 hz1 hz2 rfl _ j (F j) rfl (HOWN.out.alloc _) .u8 _ [(q : Int)] rfl BL.out (NoCap.some _ _ _) (by simp [maxLen]; omega) (by simp; omega) (by have := HSZ.out; simp; omega) ?_; intro v' w2 hown' hgrow2 hnil2 hob2)
        have N1 : Hid (w2.ownsRow LO 5 1 v' (j + 1) (F (j + 1))) := by
          rw [HFN.out]; exact hown'
        have N2 : Hid (Only (fun _ => False) W w2) := (HON.out.alloc _).grown hgrow2 (fun k hk e => by have := HOWN.out.lt k e; have := HLO.out; omega)
        clear hown' hgrow2 hnil2 hob2 HOWN HON BL HFN
        go_wp2
        go_roundw
        case rel => exact ⟨j + 1, by omega, by go_num, N1, N2⟩
        case measure => simp [intOf]; omega
      · have hy := HY.out.2 j hin
        have hxor := u8_xor 0 (x : Int) (by omega) (by omega) (by omega) (by have := HX.out; omega)
        rw [Int.toNat_natCast] at hxor
        obtain ⟨q, hq⟩ : ∃ q : Nat, q = (0 : Int).toNat ^^^ x := ⟨_, rfl⟩
        rw [← hq] at hxor
        have HFN : Hid (F (j + 1) = F j ++ [(q : Int)].map (Value.int .u8)) := by
          show _ = _
          rw [hfn, hy, hq]
        have dlt : decide ((j : Int) < (n : Int)) = false := decide_eq_false (by omega)
        have dlt' : decide (j < n) = false := decide_eq_false hin
        clear hfn hy hq
        have i0' : (0 : Int) ≤ (j : Int) := by omega
        have i1 : (j : Int) < 64 := by omega
        have BL := hideIt (Bs.litN .u8 wr 5 [(q : Int)] _ _ rfl rfl)
        go_wp2_with (at_builtin; refine wpList_append_bs _ rfl _ _ 23 rfl LO 5 i0 (.int .u8 0) 1 Tryz.underlying23 hi hz0 hz1 hz2 rfl _ j (F j) rfl (HOWN.out.alloc _) .u8 _ [(q : Int)] rfl BL.out (NoCap.some _ _ _) (by simp [maxLen]; omega) (by simp; omega) (by have := HSZ.out; simp; omega) ?_; intro v' w2 hown' hgrow2 hnil2 hob2)
        have N1 : Hid (w2.ownsRow LO 5 1 v' (j + 1) (F (j + 1))) := by
          rw [HFN.out]; exact hown'
        have N2 : Hid (Only (fun _ => False) W w2) := (HON.out.alloc _).grown hgrow2 (fun k hk e => by have := HOWN.out.lt k e; have := HLO.out; omega)
        clear hown' hgrow2 hnil2 hob2 HOWN HON BL HFN
        go_wp2
        go_roundw
        case rel => exact ⟨j + 1, by omega, by go_num, N1, N2⟩
        case measure => simp [intOf]; omega
    · obtain rfl : j = 64 := by omega
      rw [F64.out] at HOWN
      obtain ⟨ao', cap', e'⟩ := own_form HOWN.out
      subst e'
      go_wp2
      go_ret
      exact ⟨_, rfl, own_low HOWN.out HLO.out.1, HLO.out.2.2.1.same HON.out⟩

theorem rpad_any (v : Value) (key : List Int) (x : Nat) (w : World) (hb : Bs .u8 w v key) (nc : NoCap v) (h8 : U8 key) (hl2 : key.length ≤ 1000000) (hx : x < 256) :
    Calls Tryz.prog 72 #[v, .int .u8 (x : Int)] w fun e w' => ∃ u, e = .returned u ∧ w'.ownsRow w.heap.size 5 1 u 64 ((xorB x (pad64 key)).map (Value.int .u8)) ∧ Only (fun _ => False) w w' := by
  by_cases h : 64 < key.length
  · exact rpad_long v key x w hb nc h8 h hl2 hx
  · exact rpad_short v key x w hb h8 (by omega) hx
end Go.Proofs.YtiolgenaefillaaGreat
