/- The walk of BitsParts: it answers true, and nothing that was there is turned. -/
import Derived.Test.YtngikldljpildaaAwake
namespace Go.Proofs.Ytngikldljpildaa
open Go.RowKit

/-- two slices that lie apart -/
def Apart (a b : Value) : Prop := ∀ k, a.ownBlock = some k → b.ownBlock ≠ some k
theorem Apart.symm {a b : Value} (h : Apart a b) : Apart b a := fun k hb ha => h k ha hb

/-- what one writer's call leaves of another one -/
theorem other_keep {T E : TypeId} {w w' : World} {lo A B : Nat} {va va' vb : Value} {la lb : List Bool} (ha : WrAt T E w lo A va la) (hb : WrAt T E w lo B vb lb) (hAB : A ≠ B) (hd : Apart va vb)
    (ho : Only (Foot A va) w w') (hs : Stays w va va') : WrAt T E w' lo B vb lb ∧ Apart va' vb := by
  refine ⟨hb.keep ho ?_ ?_, ?_⟩
  · intro hf
    rcases hf with e | e
    · exact hAB e.symm
    · have := (ha.own.lt B e).1; have := hb.lt; omega
  · intro k hk hf
    rcases hf with e | e
    · have := (hb.own.lt k hk).1; have := ha.lt; omega
    · exact hd k e hk
  · intro k hk hk'
    rcases hs with hs | hs
    · exact hd k (by rw [← hs]; exact hk) hk'
    · have := hs k hk; have := (hb.own.lt k hk').2; omega

theorem and63 (x : Int) : ∃ n : Nat, bits .and .i64 x 63 = (n : Int) ∧ n ≤ 63 := by
  have h : (BitVec.ofInt 64 x &&& BitVec.ofInt 64 63).toNat ≤ 63 := by
    rw [BitVec.toNat_and]
    have : (BitVec.ofInt 64 63).toNat = 63 := by decide
    rw [this]
    exact Nat.and_le_right
  refine ⟨(BitVec.ofInt 64 x &&& BitVec.ofInt 64 63).toNat, ?_, h⟩
  show IntKind.i64.wrap ((BitVec.ofInt 64 x &&& BitVec.ofInt 64 63).toNat : Int) = _
  generalize (BitVec.ofInt 64 x &&& BitVec.ofInt 64 63).toNat = t at h ⊢
  simp only [IntKind.wrap, IntKind.bits, IntKind.signed]
  simp
  omega
theorem and7 (x : Int) (h0 : 0 ≤ x) (h1 : x ≤ 255) : ∃ n : Nat, bits .and .u8 x 7 = (n : Int) ∧ n ≤ 7 := by
  refine ⟨x.toNat &&& 7, ?_, Nat.and_le_right⟩
  rw [u8_and x 7 h0 (by omega) (by omega) (by omega)]; rfl
theorem wid_7 (t : Nat) (h : t ≤ 7) : (wid (t : Int).toNat : Int) ≤ 3 := by
  have := (wid_le_iff t 3).2 (by simpa using Nat.lt_succ_of_le h)
  rw [Int.toNat_natCast]
  omega

theorem bitsOf_parts (v w k : Nat) (h : k ≤ w) : bitsOf v w = bitsOf (v / 2 ^ k) (w - k) ++ bitsOf (v % 2 ^ k) k := by
  apply List.ext_getElem?
  intro i
  rw [List.getElem?_append]
  simp only [bitsOf, List.length_map, List.length_range, List.getElem?_map]
  by_cases hi : i < w - k
  · rw [if_pos hi, List.getElem?_range (by omega), List.getElem?_range hi]
    simp only [Option.map_some, Nat.testBit_div_two_pow]
    congr 2
    omega
  · rw [if_neg hi]
    by_cases h2 : i < w
    · rw [List.getElem?_range h2, List.getElem?_range (by omega)]
      simp only [Option.map_some, Nat.testBit_mod_two_pow]
      rw [show (decide (k - 1 - (i - (w - k)) < k)) = true by simp; omega]
      rw [show k - 1 - (i - (w - k)) = w - 1 - i by omega]
      simp
    · rw [List.getElem?_eq_none (by simp; omega), List.getElem?_eq_none (by simp; omega)]; rfl


theorem shr_lo {v : Int} (h0 : 0 ≤ v) (k : Nat) : 0 ≤ v / 2 ^ k := Int.ediv_nonneg h0 (Int.le_of_lt (Int.pow_pos (by omega)))
theorem shr_nat {v : Int} (h0 : 0 ≤ v) (k : Nat) : (v / 2 ^ k).toNat = v.toNat / 2 ^ k := by
  obtain ⟨m, rfl⟩ := Int.eq_ofNat_of_zero_le h0
  have e : ((m : Int) / 2 ^ k) = ((m / 2 ^ k : Nat) : Int) := by simp
  rw [e]; rfl
theorem shr_hi {v : Int} (h0 : 0 ≤ v) (h1 : v ≤ 18446744073709551615) (k : Nat) : v / 2 ^ k ≤ 18446744073709551615 := by
  have := shr_nat h0 k
  have := shr_lo h0 k
  have := Nat.div_le_self v.toNat (2 ^ k)
  omega
theorem shr_wid {v : Int} (h0 : 0 ≤ v) (k n : Nat) (d : Int) (hd : (n : Int) - k ≤ d) (d0 : 0 ≤ d) (hw : wid v.toNat ≤ n) : (wid (v / 2 ^ k).toNat : Int) ≤ d := by
  by_cases hk : k ≤ n
  · rw [shr_nat h0 k]
    have h1 := (wid_le_iff v.toNat n).1 hw
    have h2 : wid (v.toNat / 2 ^ k) ≤ n - k := by
      rw [wid_le_iff, Nat.div_lt_iff_lt_mul (Nat.two_pow_pos k), ← Nat.pow_add]
      rw [show n - k + k = n by omega]; exact h1
    omega
  · rw [shr_nat h0 k]
    have h1 := (wid_le_iff v.toNat n).1 hw
    have : v.toNat / 2 ^ k = 0 := Nat.div_eq_of_lt (Nat.lt_of_lt_of_le h1 (Nat.pow_le_pow_right (by omega) (by omega)))
    rw [this]; simp [wid]; omega

theorem mask_eq {v : Int} (h0 : 0 ≤ v) (h1 : v ≤ 18446744073709551615) (k : Nat) (hk : k ≤ 63) :
    bits .and .u64 v (IntKind.u64.wrap (IntKind.u64.wrap (2 ^ k) - 1)) = ((v.toNat % 2 ^ k : Nat) : Int) := by
  have hp : 2 ^ k ≤ 2 ^ 63 := Nat.pow_le_pow_right (by omega) hk
  have hp0 := Nat.two_pow_pos k
  have e : ((2 : Int) ^ k) = ((2 ^ k : Nat) : Int) := by simp
  have e1 : IntKind.u64.wrap (IntKind.u64.wrap (2 ^ k) - 1) = ((2 ^ k - 1 : Nat) : Int) := by
    rw [e, IntKind.wrap_u64, IntKind.wrap_u64]
    generalize 2 ^ k = t at hp hp0
    omega
  rw [e1, u64_and _ _ h0 (by omega) (by omega) (by omega), Int.toNat_natCast, Nat.and_two_pow_sub_one_eq_mod]
theorem mask_wid (v k : Nat) : (wid ((v % 2 ^ k : Nat) : Int).toNat : Int) ≤ k := by
  have := (wid_le_iff (v % 2 ^ k) k).2 (Nat.mod_lt _ (Nat.two_pow_pos k))
  rw [Int.toNat_natCast]; omega
theorem mask_hi (v : Nat) (k : Nat) (h : v < 18446744073709551616) : ((v % 2 ^ k : Nat) : Int) ≤ 18446744073709551615 := by
  have := Nat.mod_le v (2 ^ k); omega
theorem parts_eq (l : List Bool) (v : Int) (n k : Nat) (d : Int) (h0 : 0 ≤ v) (hk : k ≤ n) (hd : d = (n : Int) - k) :
    l ++ bitsOf (v / 2 ^ k).toNat d.toNat ++ bitsOf ((v.toNat % 2 ^ k : Nat) : Int).toNat ((k : Int)).toNat = l ++ bitsOf v.toNat (n : Int).toNat := by
  rw [List.append_assoc, shr_nat h0, Int.toNat_natCast, Int.toNat_natCast, Int.toNat_natCast, bitsOf_parts v.toNat n k hk]
  rw [show d.toNat = n - k by omega]


set_option maxHeartbeats 800000 in
set_option maxRecDepth 100000 in
theorem parts_walk (a0 a1 a2 : Int) (v3 : Value) (xs : List Int) (w : World) (x0 : 0 ≤ a0) (x1 : a0 ≤ 18446744073709551615) (h3 : Bs .u8 w v3 xs) (hxs : ∀ x ∈ xs, 0 ≤ x ∧ x ≤ 255) :
    Calls Try.prog 8 #[.int .u64 a0, .int .i64 a1, .int .i64 a2, v3] w fun e w' => e = .returned (.bool true) ∧ Below w.heap.size w w' := by
  obtain ⟨n, hn, hn63⟩ := and63 a1
  obtain ⟨c, hc, hc63⟩ := and63 a2
  obtain ⟨ao, cap, rfl, hcap, hr⟩ := h3
  have H3 := hideIt hr
  have HX := hideIt hxs
  clear hr hxs
  by_cases hw : wid a0.toNat ≤ n
  case neg =>
    have hnl : decide (n < wid a0.toNat) = true := by simp; omega
    go_enter Try.func8, Try.ntmps8
    go_wp2_with fail
    refine (awake_any _).mono ?_
    rintro e w0 ⟨rfl, ho0⟩
    go_wp2_with (go_at_call 12; refine (width_any _ _ x0 x1).mono ?_; rintro e wz ⟨rfl, rfl⟩)
    all_goals go_ret
    all_goals exact ⟨rfl, ho0.low (Nat.le_refl _)⟩
  have hnl : decide (n < wid a0.toNat) = false := by simp; omega
  by_cases h100 : (xs.length : Int) ≤ 100
  case neg =>
    go_enter Try.func8, Try.ntmps8
    go_wp2_with fail
    refine (awake_any _).mono ?_
    rintro e w0 ⟨rfl, ho0⟩
    go_wp2_with (go_at_call 12; refine (width_any _ _ x0 x1).mono ?_; rintro e wz ⟨rfl, rfl⟩)
    all_goals go_ret
    all_goals exact ⟨rfl, ho0.low (Nat.le_refl _)⟩
  have hle : decide (100 < (xs.length : Int)) = false := by simp; omega
  obtain ⟨m, hm⟩ : ∃ m, m = xs.length := ⟨_, rfl⟩
  have HM := hideIt hm
  rw [← hm] at h100 hcap hle ⊢
  clear hm
  by_cases hnc : n < c
  case pos =>
    go_enter Try.func8, Try.ntmps8
    go_wp2_with fail
    refine (awake_any _).mono ?_
    rintro e w0 ⟨rfl, ho0⟩
    go_wp2_with (go_at_call 12; refine (width_any _ _ x0 x1).mono ?_; rintro e wz ⟨rfl, rfl⟩)
    go_loopw [14] (fun i wr => ∃ (k : Nat) (va vb : Value) (l : List Bool), k ≤ m ∧ i = .int .i64 k ∧ WrAt 27 5 wr (w0.heap.size + 2) w0.heap.size va l ∧ WrAt 27 5 wr (w0.heap.size + 2) (w0.heap.size + 1) vb l ∧ Apart va vb ∧ l.length = 3 * k ∧ Below w.heap.size w wr)
      (fun i _ => m - (intOf i).toNat)
    case atStart =>
      refine ⟨0, .slice none 0 0, .slice none 0 0, [], Nat.zero_le _, rfl, ?_, ?_, fun k h => by simp [Value.ownBlock] at h, rfl, ?_⟩
      · have h := WrAt.new (T := 27) (E := 5) w0
        exact ⟨World.ownsRow_nil _ _ _ _, by rw [Below.heap_alloc _ _ _ (by simp)]; exact h.cell, by omega, by simp⟩
      · exact ⟨World.ownsRow_nil _ _ _ _, by have := heap_alloc_new (w0.alloc (.cells #[.slice none 0 0, .int .i64 0] 27)) (.cells #[.slice none 0 0, .int .i64 0] 27); simpa using this, by omega, by simp⟩
      · have b0 : Below w.heap.size w w0 := ho0.low (Nat.le_refl _)
        have b1 := b0.alloc b0.size (.cells #[.slice none 0 0, .int .i64 0] 27)
        exact b1.alloc b1.size _
    case round =>
      obtain ⟨k, va, vb, l, hk, rfl, hwa, hwb, hap, hll, hbel⟩ := hrel
      by_cases hlt : k < m
      · have hne : xs ≠ [] := by
          intro h; have := HM.out; rw [h] at this; simp at this; omega
        obtain ⟨b, off, rfl, hcell⟩ := H3.out hne
        have hcw := hcell k (by have := HM.out; omega)
        have hbw : b < w.heap.size := World.block_lt_of_cell? w _ hcw
        obtain ⟨y, hy⟩ : ∃ y, y = xs.getD k 0 := ⟨_, rfl⟩
        rw [← hy] at hcw
        have hyb : 0 ≤ y ∧ y ≤ 255 := by
          rw [hy]; refine HX.out _ ?_
          have hk' : k < xs.length := by have := HM.out; omega
          rw [List.getD_eq_getElem?_getD, List.getElem?_eq_getElem hk']; simp
        obtain ⟨t, ht, ht7⟩ := and7 y hyb.1 hyb.2
        have hcr : wr.cell? ⟨b, off + k, none⟩ = some (.int .u8 y) := (hbel.cell (p := ⟨b, off + k, none⟩) hbw).trans hcw
        have i0 : (0 : Int) ≤ (k : Int) := by omega
        have i1 : (k : Int) < (m : Int) := by omega
        clear hy hcell hne
        go_wp2_with fail
        refine (put_wr hwa t 3 (by omega) (by omega) (by omega) (by omega) (wid_7 t ht7) (by omega)).mono ?_
        rintro e w1 ⟨rfl, va1, ha1, oa1, sa1⟩
        obtain ⟨hb1, hap1⟩ := other_keep hwa hwb (by omega) hap oa1 sa1
        have bel1 := hbel.trans (oa1.below hbel.size (hwa.foot_ge ho0.size))
        have hcr1 : w1.cell? ⟨b, off + k, none⟩ = some (.int .u8 y) := (bel1.cell (p := ⟨b, off + k, none⟩) hbw).trans hcw
        clear hwa hwb hap oa1 sa1 hbel
        go_wp2_with fail
        refine (put_wr hb1 t 3 (by omega) (by omega) (by omega) (by omega) (wid_7 t ht7) (by omega)).mono ?_
        rintro e w2 ⟨rfl, vb2, hb2, ob2, sb2⟩
        obtain ⟨ha2, hap2⟩ := other_keep hb1 ha1 (by omega) hap1.symm ob2 sb2
        have bel2 := bel1.trans (ob2.below bel1.size (hb1.foot_ge (by have := ho0.size; omega)))
        clear ha1 hb1 hap1 ob2 sb2 bel1
        go_wp2
        go_roundw
        case rel => exact ⟨k + 1, va1, vb2, _, by omega, by go_num, ha2, hb2, hap2.symm, by simp [bitsOf_length]; omega, bel2⟩
        case measure => simp [intOf]; omega
      · go_wp2_with fail
        refine (put_wr hwa a0 n (by omega) (by omega) x0 x1 (by omega) (by omega)).mono ?_
        rintro e w1 ⟨rfl, va1, ha1, oa1, sa1⟩
        obtain ⟨hb1, hap1⟩ := other_keep hwa hwb (by omega) hap oa1 sa1
        have bel1 := hbel.trans (oa1.below hbel.size (hwa.foot_ge ho0.size))
        clear hwa hwb hap oa1 sa1 hbel
        go_wp2_with fail
        refine (put_wr hb1 (a0 / 2 ^ n) 0 (by omega) (by omega) (shr_lo x0 n) (shr_hi x0 x1 n) (shr_wid x0 n n 0 (by omega) (by omega) hw) (by omega)).mono ?_
        rintro e w2 ⟨rfl, vb2, hb2, ob2, sb2⟩
        obtain ⟨ha2, hap2⟩ := other_keep hb1 ha1 (by omega) hap1.symm ob2 sb2
        have bel2 := bel1.trans (ob2.below bel1.size (hb1.foot_ge (by have := ho0.size; omega)))
        clear ha1 hb1 hap1 ob2 sb2 bel1
        go_wp2_with fail
        rw [mask_eq x0 x1 n (by omega)]
        refine (put_wr hb2 ((a0.toNat % 2 ^ n : Nat) : Int) n (by omega) (by omega) (by omega) (mask_hi _ _ (by omega)) (mask_wid _ _) (by simp [bitsOf_length]; omega)).mono ?_
        rintro e w3 ⟨rfl, vb3, hb3, ob3, sb3⟩
        obtain ⟨ha3, hap3⟩ := other_keep hb2 ha2 (by omega) hap2 ob3 sb3
        have bel3 := bel2.trans (ob3.below bel2.size (hb2.foot_ge (by have := ho0.size; omega)))
        rw [parts_eq l a0 n n 0 x0 (by omega) (by omega)] at hb3
        have A3 := hideIt ha3
        have B3 := hideIt hb3
        have LL : Hid ((l ++ bitsOf a0.toNat (n : Int).toNat).length ≤ 1000000000000) := by simp only [Hid, List.length_append, bitsOf_length]; omega
        clear ha2 hb2 hap2 ob3 sb3 bel2 hap3 ha3 hb3
        have hself : ∀ z : Int, (z == z) = true := fun z => by simp
        go_wp2_with fail
        refine (len_wr A3.out).mono ?_
        rintro e wz ⟨rfl, rfl⟩
        go_wp2_with fail
        refine (len_wr B3.out).mono ?_
        rintro e wz ⟨rfl, rfl⟩
        go_wp2_with fail
        refine (bytes_wr A3.out LL.out).mono ?_
        rintro e w4 ⟨v4, rfl, hown4, ho4⟩
        have B4 := hideIt (B3.out.keep ho4 (fun f => f) (fun _ _ f => f))
        go_wp2_with fail
        refine (bytes_wr B4.out LL.out).mono ?_
        rintro e w5 ⟨v5, rfl, hown5, ho5⟩
        have s4 := (Bs.of_own hown4).keep ho5 (fun _ _ f => f)
        have s5 := Bs.of_own hown5
        have bel5 := (bel3.trans (ho4.low bel3.size)).trans (ho5.low (bel3.trans (ho4.low bel3.size)).size)
        clear hown4 hown5 ho4 ho5 B4 A3 B3 bel3
        have S4 := hideIt s4
        have S5 := hideIt s5
        have BEL := hideIt bel5
        clear s4 s5 bel5
        go_wp2_with fail
        refine (same_eq _ _ _ _ S4.out S5.out (by rw [bytesI_length]; unfold nb; have := LL.out; omega)).mono ?_
        rintro e w6 ⟨rfl, ho6⟩
        go_wp2
        go_ret
        exact ⟨rfl, BEL.out.trans (ho6.low BEL.out.size)⟩
  case neg =>
    go_enter Try.func8, Try.ntmps8
    go_wp2_with fail
    refine (awake_any _).mono ?_
    rintro e w0 ⟨rfl, ho0⟩
    go_wp2_with (go_at_call 12; refine (width_any _ _ x0 x1).mono ?_; rintro e wz ⟨rfl, rfl⟩)
    go_loopw [14] (fun i wr => ∃ (k : Nat) (va vb : Value) (l : List Bool), k ≤ m ∧ i = .int .i64 k ∧ WrAt 27 5 wr (w0.heap.size + 2) w0.heap.size va l ∧ WrAt 27 5 wr (w0.heap.size + 2) (w0.heap.size + 1) vb l ∧ Apart va vb ∧ l.length = 3 * k ∧ Below w.heap.size w wr)
      (fun i _ => m - (intOf i).toNat)
    case atStart =>
      refine ⟨0, .slice none 0 0, .slice none 0 0, [], Nat.zero_le _, rfl, ?_, ?_, fun k h => by simp [Value.ownBlock] at h, rfl, ?_⟩
      · have h := WrAt.new (T := 27) (E := 5) w0
        exact ⟨World.ownsRow_nil _ _ _ _, by rw [Below.heap_alloc _ _ _ (by simp)]; exact h.cell, by omega, by simp⟩
      · exact ⟨World.ownsRow_nil _ _ _ _, by have := heap_alloc_new (w0.alloc (.cells #[.slice none 0 0, .int .i64 0] 27)) (.cells #[.slice none 0 0, .int .i64 0] 27); simpa using this, by omega, by simp⟩
      · have b0 : Below w.heap.size w w0 := ho0.low (Nat.le_refl _)
        have b1 := b0.alloc b0.size (.cells #[.slice none 0 0, .int .i64 0] 27)
        exact b1.alloc b1.size _
    case round =>
      obtain ⟨k, va, vb, l, hk, rfl, hwa, hwb, hap, hll, hbel⟩ := hrel
      by_cases hlt : k < m
      · have hne : xs ≠ [] := by
          intro h; have := HM.out; rw [h] at this; simp at this; omega
        obtain ⟨b, off, rfl, hcell⟩ := H3.out hne
        have hcw := hcell k (by have := HM.out; omega)
        have hbw : b < w.heap.size := World.block_lt_of_cell? w _ hcw
        obtain ⟨y, hy⟩ : ∃ y, y = xs.getD k 0 := ⟨_, rfl⟩
        rw [← hy] at hcw
        have hyb : 0 ≤ y ∧ y ≤ 255 := by
          rw [hy]; refine HX.out _ ?_
          have hk' : k < xs.length := by have := HM.out; omega
          rw [List.getD_eq_getElem?_getD, List.getElem?_eq_getElem hk']; simp
        obtain ⟨t, ht, ht7⟩ := and7 y hyb.1 hyb.2
        have hcr : wr.cell? ⟨b, off + k, none⟩ = some (.int .u8 y) := (hbel.cell (p := ⟨b, off + k, none⟩) hbw).trans hcw
        have i0 : (0 : Int) ≤ (k : Int) := by omega
        have i1 : (k : Int) < (m : Int) := by omega
        clear hy hcell hne
        go_wp2_with fail
        refine (put_wr hwa t 3 (by omega) (by omega) (by omega) (by omega) (wid_7 t ht7) (by omega)).mono ?_
        rintro e w1 ⟨rfl, va1, ha1, oa1, sa1⟩
        obtain ⟨hb1, hap1⟩ := other_keep hwa hwb (by omega) hap oa1 sa1
        have bel1 := hbel.trans (oa1.below hbel.size (hwa.foot_ge ho0.size))
        have hcr1 : w1.cell? ⟨b, off + k, none⟩ = some (.int .u8 y) := (bel1.cell (p := ⟨b, off + k, none⟩) hbw).trans hcw
        clear hwa hwb hap oa1 sa1 hbel
        go_wp2_with fail
        refine (put_wr hb1 t 3 (by omega) (by omega) (by omega) (by omega) (wid_7 t ht7) (by omega)).mono ?_
        rintro e w2 ⟨rfl, vb2, hb2, ob2, sb2⟩
        obtain ⟨ha2, hap2⟩ := other_keep hb1 ha1 (by omega) hap1.symm ob2 sb2
        have bel2 := bel1.trans (ob2.below bel1.size (hb1.foot_ge (by have := ho0.size; omega)))
        clear ha1 hb1 hap1 ob2 sb2 bel1
        go_wp2
        go_roundw
        case rel => exact ⟨k + 1, va1, vb2, _, by omega, by go_num, ha2, hb2, hap2.symm, by simp [bitsOf_length]; omega, bel2⟩
        case measure => simp [intOf]; omega
      · go_wp2_with fail
        refine (put_wr hwa a0 n (by omega) (by omega) x0 x1 (by omega) (by omega)).mono ?_
        rintro e w1 ⟨rfl, va1, ha1, oa1, sa1⟩
        obtain ⟨hb1, hap1⟩ := other_keep hwa hwb (by omega) hap oa1 sa1
        have bel1 := hbel.trans (oa1.below hbel.size (hwa.foot_ge ho0.size))
        clear hwa hwb hap oa1 sa1 hbel
        go_wp2_with fail
        refine (put_wr hb1 (a0 / 2 ^ c) ((n : Int) - (c : Int)) (by omega) (by omega) (shr_lo x0 c) (shr_hi x0 x1 c) (shr_wid x0 c n ((n : Int) - (c : Int)) (by omega) (by omega) hw) (by omega)).mono ?_
        rintro e w2 ⟨rfl, vb2, hb2, ob2, sb2⟩
        obtain ⟨ha2, hap2⟩ := other_keep hb1 ha1 (by omega) hap1.symm ob2 sb2
        have bel2 := bel1.trans (ob2.below bel1.size (hb1.foot_ge (by have := ho0.size; omega)))
        clear ha1 hb1 hap1 ob2 sb2 bel1
        go_wp2_with fail
        rw [mask_eq x0 x1 c (by omega)]
        refine (put_wr hb2 ((a0.toNat % 2 ^ c : Nat) : Int) c (by omega) (by omega) (by omega) (mask_hi _ _ (by omega)) (mask_wid _ _) (by simp [bitsOf_length]; omega)).mono ?_
        rintro e w3 ⟨rfl, vb3, hb3, ob3, sb3⟩
        obtain ⟨ha3, hap3⟩ := other_keep hb2 ha2 (by omega) hap2 ob3 sb3
        have bel3 := bel2.trans (ob3.below bel2.size (hb2.foot_ge (by have := ho0.size; omega)))
        rw [parts_eq l a0 n c ((n : Int) - (c : Int)) x0 (by omega) (by omega)] at hb3
        have A3 := hideIt ha3
        have B3 := hideIt hb3
        have LL : Hid ((l ++ bitsOf a0.toNat (n : Int).toNat).length ≤ 1000000000000) := by simp only [Hid, List.length_append, bitsOf_length]; omega
        clear ha2 hb2 hap2 ob3 sb3 bel2 hap3 ha3 hb3
        have hself : ∀ z : Int, (z == z) = true := fun z => by simp
        go_wp2_with fail
        refine (len_wr A3.out).mono ?_
        rintro e wz ⟨rfl, rfl⟩
        go_wp2_with fail
        refine (len_wr B3.out).mono ?_
        rintro e wz ⟨rfl, rfl⟩
        go_wp2_with fail
        refine (bytes_wr A3.out LL.out).mono ?_
        rintro e w4 ⟨v4, rfl, hown4, ho4⟩
        have B4 := hideIt (B3.out.keep ho4 (fun f => f) (fun _ _ f => f))
        go_wp2_with fail
        refine (bytes_wr B4.out LL.out).mono ?_
        rintro e w5 ⟨v5, rfl, hown5, ho5⟩
        have s4 := (Bs.of_own hown4).keep ho5 (fun _ _ f => f)
        have s5 := Bs.of_own hown5
        have bel5 := (bel3.trans (ho4.low bel3.size)).trans (ho5.low (bel3.trans (ho4.low bel3.size)).size)
        clear hown4 hown5 ho4 ho5 B4 A3 B3 bel3
        have S4 := hideIt s4
        have S5 := hideIt s5
        have BEL := hideIt bel5
        clear s4 s5 bel5
        go_wp2_with fail
        refine (same_eq _ _ _ _ S4.out S5.out (by rw [bytesI_length]; unfold nb; have := LL.out; omega)).mono ?_
        rintro e w6 ⟨rfl, ho6⟩
        go_wp2
        go_ret
        exact ⟨rfl, BEL.out.trans (ho6.low BEL.out.size)⟩
end Go.Proofs.Ytngikldljpildaa
