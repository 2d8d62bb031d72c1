/- The walk of the statement 'only what differs counts; as many of one pattern take a bit each'. -/
import Derived.Test.YthpcibofcgjcdaaDoorAw9
import Derived.Test.YthpcibofcgjcdaaDoorSameB
import Derived.Test.YthpcibofcgjcdaaDoorInfo
namespace Go.Proofs.YthpcibofcgjcdaaDoor
open Go.RowKit

theorem msk_length (M : Nat) (xs : List Int) : (msk M xs).length = xs.length := by simp [msk]
theorem msk_take (M : Nat) (xs : List Int) (k : Nat) (h : k < xs.length) : (msk M xs).take (k + 1) = (msk M xs).take k ++ [(((xs.getD k 0).toNat ^^^ M : Nat) : Int)] := by
  rw [take_one _ k (by rw [msk_length]; exact h)]
  congr 2
  unfold msk
  rw [List.getD_eq_getElem?_getD, List.getD_eq_getElem?_getD, List.getElem?_map, List.getElem?_eq_getElem h]
  rfl
theorem msk_u64 {M : Nat} {xs : List Int} (hu : U64 xs) (hM : M < 18446744073709551616) : U64 (msk M xs) := by
  intro y hy
  obtain ⟨x, hx, rfl⟩ := List.mem_map.1 hy
  have := hu x hx
  have := xor_lt (a := x.toNat) (b := M) (by omega) hM
  omega
theorem ENC9_ge {xs : List Int} (h0 : xs ≠ []) (hl : xs.length ≤ 65536) : 8 ≤ (ENC9 xs).1.length ∧ 64 ≤ (GB xs).length := by
  have : 64 ≤ (GB xs).length := by
    cases xs with
    | nil => exact absurd rfl h0
    | cons y t => unfold GB; rw [List.length_append, bitsOf_length]; omega
  rw [ENC9_of hl]
  simp only [bytesI_length]
  unfold nb
  omega
theorem ENC9_msk {M : Nat} {xs : List Int} (h0 : xs ≠ []) (hl : xs.length ≤ 65536) : (ENC9 (msk M xs)).1.drop 8 = (ENC9 xs).1.drop 8 ∧ (ENC9 (msk M xs)).1.length = (ENC9 xs).1.length := by
  obtain ⟨h1, h2⟩ := GB_mask M xs h0
  obtain ⟨_, h3⟩ := ENC9_ge h0 hl
  rw [ENC9_of hl, ENC9_of (by rw [msk_length]; exact hl)]
  simp only
  have e1 := bytesI_drop (GB xs) 8 (by omega)
  have e2 := bytesI_drop (GB (msk M xs)) 8 (by omega)
  rw [← e1, ← e2, show 8 * 8 = 64 from rfl, h1]
  refine ⟨rfl, ?_⟩
  rw [bytesI_length, bytesI_length]
  unfold nb
  rw [h2]
theorem ENC9_rep (v : Int) (k : Nat) (hl : k + 1 ≤ 65536) : (ENC9 (List.replicate (k + 1) v)).1.length = 8 + (k + 7) / 8 := by
  rw [ENC9_of (by simpa using hl)]
  simp only [bytesI_length]
  rw [GB_same]
  unfold nb
  rw [List.length_append, bitsOf_length, List.length_replicate]
  omega
theorem wrap64_mid {n : Int} (h0 : 0 ≤ n) (h1 : n ≤ 1000000) : wrap64 n = n := by unfold wrap64; omega
theorem mask_wrap {a b : Int} (e : 8 + a = b) (h0 : 0 ≤ a) (h1 : a ≤ 100000) : wrap64 (8 + wrap64 a) = b := by
  rw [wrap64_mid h0 (by omega), wrap64_mid (by omega) (by omega), e]
set_option maxHeartbeats 800000 in
set_option maxRecDepth 100000 in
theorem masks_none (v : Value) (xs : List Int) (mask n : Int) (w : World) (hb : Bs .u64 w v xs) (hT : Tab w) (h : xs.length = 0 ∨ 300 < xs.length) :
    Calls Tryd.prog 7 #[v, .int .u64 mask, .int .i64 n] w fun e w' => e = .returned (.bool true) ∧ Only (fun _ => False) w w' := by
  have AW := hideIt (awake_any w hT)
  obtain ⟨ao, cap, rfl⟩ := hb.len
  have hd : ((xs.length : Int) == 0) = true ∨ (((xs.length : Int) == 0) = false ∧ decide ((300 : Int) < xs.length) = true) := by
    by_cases h : xs.length = 0
    · exact .inl (by simp [h])
    · exact .inr ⟨by rw [beq_eq_false_iff_ne]; omega, decide_eq_true (by omega)⟩
  clear hb h
  generalize xs.length = m at *
  rcases hd with d1 | ⟨d1, d2⟩
  all_goals
    go_enter Tryd.func7, Tryd.ntmps7
    go_wp2_with fail
    refine AW.out.mono ?_
    rintro e w1 ⟨rfl, on1⟩
    have O1 := hideIt on1
    clear on1 AW
    go_wp2
    go_ret
    exact ⟨rfl, O1.out⟩
set_option maxHeartbeats 2000000 in
set_option maxRecDepth 100000 in
theorem masks_run (v : Value) (xs : List Int) (mask n : Int) (w : World) (hb : Bs .u64 w v xs) (hu : U64 xs) (hm0 : 0 ≤ mask) (hm1 : mask ≤ 18446744073709551615) (hT : Tab w) (h0 : xs ≠ []) (h1 : xs.length ≤ 300) :
    Calls Tryd.prog 7 #[v, .int .u64 mask, .int .i64 n] w fun e w' => e = .returned (.bool true) ∧ Only (fun _ => False) w w' := by
  obtain ⟨i0, hi, hz0, hz1, hz2⟩ := info_parts Tryd.infoU64
  have AW := hideIt (awake_any w hT)
  have HB := hideIt hb
  have HU := hideIt hu
  obtain ⟨M, rfl⟩ := Int.eq_ofNat_of_zero_le hm0
  have hpos : 0 < xs.length := List.length_pos_iff.2 h0
  obtain ⟨b, off, cap, rfl, _⟩ := hb.at 0 hpos
  have HC : Hid (∀ j, j < xs.length → w.cell? ⟨b, off + j, none⟩ = some (.int .u64 (xs.getD j 0))) := by
    intro j hj
    obtain ⟨b', off', cap', e, hc⟩ := HB.out.at j hj
    simp only [Value.slice.injEq, Option.some.injEq, Addr.mk.injEq, and_true] at e
    obtain ⟨⟨rfl, rfl⟩, _, rfl⟩ := e
    exact hc
  have hbw : b < w.heap.size := cell_in (HC.out 0 hpos)
  have hlow := i64_low n 10 (by omega)
  rw [show ((2 ^ 10 - 1 : Nat) : Int) = 1023 from rfl, show ((2 ^ 10 : Nat) : Int) = 1024 from rfl] at hlow
  obtain ⟨K, hK⟩ : ∃ K : Nat, (K : Int) = n % 1024 := ⟨(n % 1024).toNat, by omega⟩
  rw [← hK] at hlow
  have hK2 : K < 1024 := by omega
  obtain ⟨kk, hkk⟩ : ∃ kk, kk = K + 1 := ⟨_, rfl⟩
  have e1 : (1 : Int) + (K : Int) = (kk : Int) := by omega
  have z1 : ∀ l : List Int, l.length ≤ 1024 → (ENC9 l).2 = 0 := fun l h => by rw [ENC9_of (by omega)]
  have HEA := hideIt (fun (w1 : World) (o : Only (fun _ => False) w w1) => encode9_all (.slice (some ⟨b, off, none⟩) xs.length cap) xs w1 (HB.out.past o) hu (hT.past o))
  have HEM := hideIt (fun (w1 : World) (u : Value) (bb : Bs .u64 w1 u (msk M xs)) (o : Only (fun _ => False) w w1) => encode9_all u (msk M xs) w1 bb (msk_u64 hu (by omega)) (hT.past o))
  have HEO := hideIt (fun (w1 : World) (u : Value) (bb : Bs .u64 w1 u (List.replicate kk (M : Int))) (o : Only (fun _ => False) w w1) => encode9_all u (List.replicate kk (M : Int)) w1 bb (fun y hy => by rw [List.eq_of_mem_replicate hy]; omega) (hT.past o))
  rw [z1 xs (by omega)] at HEA
  rw [z1 (msk M xs) (by rw [msk_length]; omega)] at HEM
  rw [z1 _ (by rw [List.length_replicate]; omega)] at HEO
  obtain ⟨f1, f2⟩ := ENC9_msk (M := M) h0 (by omega)
  obtain ⟨f3, _⟩ := ENC9_ge h0 (by omega)
  have f4 := ENC9_rep (M : Int) K (by omega)
  have f5 : (ENC9 xs).1.length ≤ 3000 := by
    have := (GB_len xs).1
    rw [ENC9_of (by omega)]; simp only [bytesI_length]; unfold nb; omega
  rw [← hkk] at f4
  generalize (ENC9 xs).1 = A at *
  generalize (ENC9 (msk M xs)).1 = B at *
  generalize (ENC9 (List.replicate kk (M : Int))).1 = C at *
  have HF1 := hideIt f1
  have HF2 := hideIt f2
  have HF3 := hideIt f3
  have HF4 := hideIt f4
  have HF5 := hideIt f5
  obtain ⟨m, hm⟩ : ∃ m, m = xs.length := ⟨_, rfl⟩
  rw [← hm] at HEA HC hpos h1
  rw [← hm]
  have HM := hideIt hm
  have d1 : ((m : Int) == 0) = false := by rw [beq_eq_false_iff_ne]; omega
  have d2 : decide ((300 : Int) < m) = false := decide_eq_false (by omega)
  have HKK := hideIt hkk
  clear z1 f1 f2 f3 f4 f5 hK hm h0 hu hb hkk
  go_enter Tryd.func7, Tryd.ntmps7
  go_wp2_with fail
  refine AW.out.mono ?_
  rintro e w1 ⟨rfl, on1⟩
  have B1 := hideIt (on1.low (Nat.le_refl _))
  clear on1 AW
  go_wp2
  go_loopw [8, 9] (fun o i wr => ∃ k : Nat, k ≤ m ∧ i = .int .i64 k ∧ wr.ownsRow w.heap.size 35 1 o k (((msk M xs).take k).map (Value.int .u64)) ∧ Below w.heap.size w wr) (fun _ i _ => m - (intOf i).toNat)
  case atStart => exact ⟨0, Nat.zero_le _, rfl, World.ownsRow_nil _ _ _ _, B1.out⟩
  case round =>
    clear B1
    obtain ⟨k, hk, rfl, hown, hbel⟩ := hrel
    by_cases hlt : k < m
    · have hcx := (hbel.cell (p := ⟨b, off + k, none⟩) hbw).trans (HC.out k hlt)
      have SR := hideIt (msk_take M xs k (by rw [← HM.out]; exact hlt))
      have hxb : 0 ≤ xs.getD k 0 ∧ xs.getD k 0 ≤ 18446744073709551615 := by
        refine HU.out _ ?_
        have : k < xs.length := by rw [← HM.out]; exact hlt
        rw [List.getD_eq_getElem?_getD, List.getElem?_eq_getElem this]; simp
      generalize xs.getD k 0 = x at hcx SR hxb
      obtain ⟨X, rfl⟩ := Int.eq_ofNat_of_zero_le hxb.1
      rw [Int.toNat_natCast] at SR
      have hxx := bits_xor_u64_nat X M (by omega) (by omega)
      have hyl := xor_lt (a := X) (b := M) (by omega) (by omega)
      generalize X ^^^ M = y at *
      have dlt : decide ((k : Int) < (m : Int)) = true := by simp; omega
      have hsz := hbel.size
      go_wp2_with (at_builtin; refine wpList_append_lies _ rfl _ _ _ rfl w.heap.size 35 i0 (.int .u64 0) 1 8 Tryd.underlying22 hi hz0 hz1 hz2 rfl (by omega) _ k _ rfl (hown.alloc _) ⟨wr.heap.size, 0, none⟩ 1 1 [.int .u64 y] rfl rfl ?c1 ?c2 (by omega) ?c3 ?c4 ?c5 (wr.heap.size + 1) (by simp) ?_)
      case c1 => exact cell_one_new _ _ _
      case c2 => intro u hu; simp at hu; subst hu; rfl
      case c3 => unfold maxLen; omega
      case c4 => omega
      case c5 => simp; omega
      intro g cap1 w2 hown1 hgrow hat hg1
      have hb2 : Below w.heap.size w w2 := (hbel.alloc hbel.size _).grown hgrow (by simp; omega) (fun q hq => (hown.lt q hq).1)
      have hown2 : w2.ownsRow w.heap.size 35 1 (.slice (some ⟨g, 0, none⟩) (k + 1) cap1) (k + 1) (((msk M xs).take (k + 1)).map (Value.int .u64)) := by
        rw [SR.out, List.map_append, List.map_take]; exact hown1
      clear hown hown1 hgrow hat hbel hcx
      go_wp2
      go_roundw
      case rel => exact ⟨k + 1, by omega, by go_num, hown2, hb2⟩
      case measure => simp [intOf]; omega
    · obtain rfl : k = m := by omega
      have dlt : decide ((k : Int) < (k : Int)) = false := by simp
      have hbm : Bs .u64 wr u8 (msk M xs) := by
        refine Bs.of_own (lo := w.heap.size) (E := 35) ?_
        have e : (msk M xs).take k = msk M xs := List.take_of_length_le (by rw [msk_length, ← HM.out]; exact Nat.le_refl _)
        rw [e] at hown
        rw [msk_length, ← HM.out]; exact hown
      obtain ⟨a8, c8, e8⟩ := hbm.len
      rw [msk_length, ← HM.out] at e8
      subst e8
      have O2 := hideIt (only_of_below hbel)
      have HBM := hideIt hbm
      have PA := hideIt (HEA.out wr O2.out)
      clear hown hbel hbm HEA
      go_wp2_with fail
      refine PA.out.mono ?_
      rintro e w2 ⟨v2, rfl, own2, on2⟩
      have O3 := hideIt (O2.out.same on2)
      have BA := hideIt (Bs.of_own own2)
      have PB := hideIt (HEM.out w2 _ (HBM.out.past on2) O3.out)
      obtain ⟨g2, cp2, e2, _, _⟩ := World.ownsRow.form own2 (by have := HF3.out; omega)
      subst e2
      obtain ⟨la, hla⟩ : ∃ la, la = A.length := ⟨_, rfl⟩
      rw [← hla] at BA HF2 HF3 HF5
      rw [← hla]
      have HLA := hideIt hla
      clear PA own2 on2 HEM hla
      go_wp2_with fail
      refine PB.out.mono ?_
      rintro e w3 ⟨v3, rfl, own3, on3⟩
      have O4 := hideIt (O3.out.same on3)
      have BB := hideIt (Bs.of_own own3)
      have BA2 := hideIt (BA.out.past on3)
      obtain ⟨g3, cp3, e3, _, _⟩ := World.ownsRow.form own3 (by have := HF2.out; have := HF3.out; omega)
      subst e3
      rw [HF2.out] at BB
      rw [HF2.out]
      clear PB own3 on3 BA HBM
      have BL4 := hideIt (O4.out.low (Nat.le_refl _))
      go_wp2
      go_loopw [15, 16] (fun o i wx => ∃ j : Nat, j ≤ kk ∧ i = .int .i64 j ∧ wx.ownsRow w3.heap.size 35 1 o j ((List.replicate j (M : Int)).map (Value.int .u64)) ∧ Below w3.heap.size w3 wx) (fun _ i _ => kk - (intOf i).toNat)
      case atStart => exact ⟨0, Nat.zero_le _, rfl, World.ownsRow_nil _ _ _ _, Below.refl _ _⟩
      case round =>
        obtain ⟨j, hj, rfl, hown, hbel⟩ := hrel
        have hkb : kk ≤ 1024 := by have := HKK.out; omega
        by_cases hlt2 : j < kk
        · have dl2 : decide ((j : Int) < (kk : Int)) = true := by simp; omega
          have hsz := hbel.size
          go_wp2_with (at_builtin; refine wpList_append_lies _ rfl _ _ _ rfl w3.heap.size 35 i0 (.int .u64 0) 1 8 Tryd.underlying22 hi hz0 hz1 hz2 rfl (by omega) _ j _ rfl (hown.alloc _) ⟨wr.heap.size, 0, none⟩ 1 1 [.int .u64 M] rfl rfl ?c1 ?c2 (by omega) ?c3 ?c4 ?c5 (wr.heap.size + 1) (by simp) ?_)
          case c1 => exact cell_one_new _ _ _
          case c2 => intro u hu; simp at hu; subst hu; rfl
          case c3 => unfold maxLen; omega
          case c4 => omega
          case c5 => simp; omega
          intro g cap1 w5 hown1 hgrow hat hg1
          have hb5 : Below w3.heap.size w3 w5 := (hbel.alloc hbel.size _).grown hgrow (by simp; omega) (fun q hq => (hown.lt q hq).1)
          have hown2 : w5.ownsRow w3.heap.size 35 1 (.slice (some ⟨g, 0, none⟩) (j + 1) cap1) (j + 1) ((List.replicate (j + 1) (M : Int)).map (Value.int .u64)) := by
            rw [List.replicate_succ', List.map_append]
            simpa using hown1
          clear hown hown1 hgrow hat hbel
          go_wp2
          go_roundw
          case rel => exact ⟨j + 1, by omega, by go_num, hown2, hb5⟩
          case measure => simp [intOf]; omega
        · obtain rfl : j = kk := by omega
          have dl2 : decide ((j : Int) < (j : Int)) = false := by simp
          have hbo : Bs .u64 wr u15 (List.replicate j (M : Int)) := Bs.of_own (lo := w3.heap.size) (E := 35) (by rw [List.length_replicate]; exact hown)
          obtain ⟨a15, c15, e15⟩ := hbo.len
          rw [List.length_replicate] at e15
          subst e15
          have o35 := only_of_below hbel
          have O5 := hideIt (O4.out.same o35)
          have BA3 := hideIt (BA2.out.past o35)
          have BB3 := hideIt (BB.out.past o35)
          have PC := hideIt (HEO.out wr _ hbo O5.out)
          clear hown hbel hbo HEO o35 BA2 BB
          go_wp2_with fail
          refine PC.out.mono ?_
          rintro e w6 ⟨v6, rfl, own6, on6⟩
          have O6 := hideIt (O5.out.same on6)
          have BA4 := hideIt (BA3.out.past on6)
          have BB4 := hideIt (BB3.out.past on6)
          obtain ⟨f6, c6, e6⟩ := (Bs.of_own own6).len
          subst e6
          obtain ⟨lc, hlc⟩ : ∃ lc, lc = C.length := ⟨_, rfl⟩
          rw [← hlc] at HF4
          rw [← hlc]
          clear PC own6 on6 hlc BA3 BB3
          go_wp2
          have ca2 : la ≤ cp2 := by
            obtain ⟨_, _, e, hc, _⟩ := BA4.out
            simp only [Value.slice.injEq] at e
            have := HLA.out
            omega
          have ca3 : la ≤ cp3 := by
            obtain ⟨_, _, e, hc, _⟩ := BB4.out
            simp only [Value.slice.injEq] at e
            have := HF2.out
            omega
          have h8 := HF3.out
          have dA : decide ((8 : Int) ≤ (la : Int)) = true := decide_eq_true (by omega)
          have dAn : decide (8 ≤ la) = true := decide_eq_true (by omega)
          have ia : (8 : Int) ≤ (la : Int) := by omega
          have ja : (la : Int) ≤ (cp2 : Int) := by omega
          have jb : (la : Int) ≤ (cp3 : Int) := by omega
          have HKK2 := HKK.out
          have s1 : IntKind.i64.wrap ((j : Int) - 1) = (K : Int) := by rw [IntKind.wrap_i64]; omega
          obtain ⟨t7, ht7⟩ : ∃ t7, t7 = K + 7 := ⟨_, rfl⟩
          have s2 : IntKind.i64.wrap ((K : Int) + 7) = (t7 : Int) := by rw [IntKind.wrap_i64]; omega
          obtain ⟨q8, hq8⟩ : ∃ q8, q8 = t7 / 8 := ⟨_, rfl⟩
          have s3 : (t7 : Int) / 8 = (q8 : Int) := by omega
          have s4 : IntKind.i64.wrap (8 + (q8 : Int)) = (lc : Int) := by rw [IntKind.wrap_i64]; have := HF4.out; omega
          have s5 : Int.tdiv (t7 : Int) 8 = (q8 : Int) := by rw [Int.tdiv_eq_ediv_of_nonneg (by omega)]; exact s3
          have s7 : (8 : Int) + (q8 : Int) = (lc : Int) := by have := HF4.out; omega
          have s6 : wrap64 (8 + wrap64 (q8 : Int)) = (lc : Int) := mask_wrap s7 (by omega) (by omega)
          have HS6 := hideIt s6
          clear s6 s7
          have HLN : Hid ((A.drop 8).length ≤ 140737488355328) := by have := HF5.out; have := HLA.out; simp only [Hid]; rw [List.length_drop]; omega
          clear HKK2 ht7 hq8
          rcases Nat.lt_or_eq_of_le (show 8 ≤ cp2 by omega) with ha | ha <;> rcases Nat.lt_or_eq_of_le (show 8 ≤ cp3 by omega) with hb | hb
          · have na : ¬ cp2 = 8 := by omega
            have nb1 : ¬ cp3 = 8 := by omega
            have SA : Hid (Bs .u8 w6 (.slice (some ⟨g2, 8, none⟩) (la - 8) (cp2 - 8)) (A.drop 8)) := BA4.out.cut (n := 8) h8
            have SB : Hid (Bs .u8 w6 (.slice (some ⟨g3, 8, none⟩) (la - 8) (cp3 - 8)) (A.drop 8)) := by
              have hd := HF1.out
              simp only [Hid]
              rw [← hd]
              exact BB4.out.cut (n := 8) h8
            clear ha hb BA4 BB4
            go_quiet (first | (go_at_call 12; exact Calls.quiet_of (bsame_q (.slice (some ⟨g2, 8, none⟩) (la - 8) (cp2 - 8)) (.slice (some ⟨g3, 8, none⟩) (la - 8) (cp3 - 8)) (A.drop 8) _ (SA.out.past ((Only.refl _ _).drewN _)) (SB.out.past ((Only.refl _ _).drewN _)) HLN.out)) | fail)
            go_wp2
            go_ret
            refine ⟨?_, O6.out.drewN nq⟩
            show Ending.returned (Value.bool ((lc : Int) == wrap64 (8 + wrap64 (q8 : Int)))) = _
            rw [HS6.out, beq_self_eq_true]
          · have na : ¬ cp2 = 8 := by omega
            have nb1 : cp3 = 8 := by omega
            have SA : Hid (Bs .u8 w6 (.slice (some ⟨g2, 8, none⟩) (la - 8) (cp2 - 8)) (A.drop 8)) := BA4.out.cut (n := 8) h8
            have SB : Hid (Bs .u8 w6 (.slice (some ⟨g3, 0, none⟩) (la - 8) 0) (A.drop 8)) := by
              have hd := HF1.out
              simp only [Hid]
              rw [← hd]
              exact (nb1 ▸ BB4.out).cut0 (n := 8) h8
            clear ha hb BA4 BB4
            go_quiet (first | (go_at_call 12; exact Calls.quiet_of (bsame_q (.slice (some ⟨g2, 8, none⟩) (la - 8) (cp2 - 8)) (.slice (some ⟨g3, 0, none⟩) (la - 8) 0) (A.drop 8) _ (SA.out.past ((Only.refl _ _).drewN _)) (SB.out.past ((Only.refl _ _).drewN _)) HLN.out)) | fail)
            go_wp2
            go_ret
            refine ⟨?_, O6.out.drewN nq⟩
            show Ending.returned (Value.bool ((lc : Int) == wrap64 (8 + wrap64 (q8 : Int)))) = _
            rw [HS6.out, beq_self_eq_true]
          · have na : cp2 = 8 := by omega
            have nb1 : ¬ cp3 = 8 := by omega
            have SA : Hid (Bs .u8 w6 (.slice (some ⟨g2, 0, none⟩) (la - 8) 0) (A.drop 8)) := (na ▸ BA4.out).cut0 (n := 8) h8
            have SB : Hid (Bs .u8 w6 (.slice (some ⟨g3, 8, none⟩) (la - 8) (cp3 - 8)) (A.drop 8)) := by
              have hd := HF1.out
              simp only [Hid]
              rw [← hd]
              exact BB4.out.cut (n := 8) h8
            clear ha hb BA4 BB4
            go_quiet (first | (go_at_call 12; exact Calls.quiet_of (bsame_q (.slice (some ⟨g2, 0, none⟩) (la - 8) 0) (.slice (some ⟨g3, 8, none⟩) (la - 8) (cp3 - 8)) (A.drop 8) _ (SA.out.past ((Only.refl _ _).drewN _)) (SB.out.past ((Only.refl _ _).drewN _)) HLN.out)) | fail)
            go_wp2
            go_ret
            refine ⟨?_, O6.out.drewN nq⟩
            show Ending.returned (Value.bool ((lc : Int) == wrap64 (8 + wrap64 (q8 : Int)))) = _
            rw [HS6.out, beq_self_eq_true]
          · have na : cp2 = 8 := by omega
            have nb1 : cp3 = 8 := by omega
            have SA : Hid (Bs .u8 w6 (.slice (some ⟨g2, 0, none⟩) (la - 8) 0) (A.drop 8)) := (na ▸ BA4.out).cut0 (n := 8) h8
            have SB : Hid (Bs .u8 w6 (.slice (some ⟨g3, 0, none⟩) (la - 8) 0) (A.drop 8)) := by
              have hd := HF1.out
              simp only [Hid]
              rw [← hd]
              exact (nb1 ▸ BB4.out).cut0 (n := 8) h8
            clear ha hb BA4 BB4
            go_quiet (first | (go_at_call 12; exact Calls.quiet_of (bsame_q (.slice (some ⟨g2, 0, none⟩) (la - 8) 0) (.slice (some ⟨g3, 0, none⟩) (la - 8) 0) (A.drop 8) _ (SA.out.past ((Only.refl _ _).drewN _)) (SB.out.past ((Only.refl _ _).drewN _)) HLN.out)) | fail)
            go_wp2
            go_ret
            refine ⟨?_, O6.out.drewN nq⟩
            show Ending.returned (Value.bool ((lc : Int) == wrap64 (8 + wrap64 (q8 : Int)))) = _
            rw [HS6.out, beq_self_eq_true]
theorem masks_any (v : Value) (xs : List Int) (mask n : Int) (w : World) (hb : Bs .u64 w v xs) (hu : U64 xs) (hm0 : 0 ≤ mask) (hm1 : mask ≤ 18446744073709551615) (hT : Tab w) :
    Calls Tryd.prog 7 #[v, .int .u64 mask, .int .i64 n] w fun e w' => e = .returned (.bool true) ∧ Only (fun _ => False) w w' := by
  by_cases h : xs.length = 0 ∨ 300 < xs.length
  · exact masks_none v xs mask n w hb hT h
  · exact masks_run v xs mask n w hb hu hm0 hm1 hT (fun e => h (.inl (by rw [e]; rfl))) (by omega)
end Go.Proofs.YthpcibofcgjcdaaDoor
