/- numberOf: the number of bytes. -/
import Derived.Test.YtjiippbjflpkkaaSe
namespace Go.Proofs.Ytjiippbjflpkkaa
open Go.RowKit

set_option maxHeartbeats 1600000 in
set_option maxRecDepth 100000 in
theorem numberOf_any (v : Value) (xs : List Int) (hl : xs.length ≤ 17) (h8 : U8 xs) (w : World) (hb : Bs .u8 w v xs) :
    Calls Try.prog 34 #[v] w fun e w' => e = .returned (.agg (ul (nmb xs)).toArray) ∧ Only (fun _ => False) w w' := by
  have hzv := (zero_of_info (P := Try.prog) Try.zero34).1
  obtain ⟨Z, hZ⟩ : ∃ Z, Z = z5 := ⟨_, rfl⟩
  rw [← hZ] at hzv
  obtain ⟨D, hD⟩ : ∃ D, D = ul (nmb xs) := ⟨_, rfl⟩
  have HZ1 : Hid ((Try.prog.info? 47).map (·.size) = some D.toArray.size) := by
    show _ = _
    rw [hD]; simp [ul_len, nmb_len, Try.size34]
  have HZ2 : Hid (Z.toArray.size = D.toArray.size) := by
    show _ = _
    rw [hD, hZ]; simp [ul_len, nmb_len, z5_len]
  have HA : Hid (D.toArray.all (·.oneCell') = true) := by
    show _ = _
    rw [hD]; exact ul_all _
  rw [← hD]
  have HD := hideIt (And.intro hD hZ)
  obtain ⟨ao, cap, rfl⟩ := hb.len
  have HBS : Hid (∀ j, j < xs.length → ∃ b off, ao = some ⟨b, off, none⟩ ∧ w.cell? ⟨b, off + j, none⟩ = some (.int .u8 (xs.getD j 0))) := fun j hj => by
    obtain ⟨b', off', cap', e, hc⟩ := hb.at j hj
    simp at e
    exact ⟨b', off', e.1, hc⟩
  have H8 := hideIt (And.intro h8 hl)
  obtain ⟨m, hm⟩ : ∃ m, m = xs.length := ⟨_, rfl⟩
  have HM := hideIt hm
  rw [← hm] at hl HBS ⊢
  clear hZ hD hb h8 hm
  go_enter Try.func34, Try.ntmps34
  go_wp2_with fail
  have S0 : Hid (Blk ((w.alloc (.cells Z.toArray 47)).alloc (.cells Z.toArray 47)) w.heap.size 47 Z ∧ Blk ((w.alloc (.cells Z.toArray 47)).alloc (.cells Z.toArray 47)) (w.heap.size + 1) 47 (ul (rawI xs 0)) ∧ Only (fun _ => False) w ((w.alloc (.cells Z.toArray 47)).alloc (.cells Z.toArray 47))) := by
    refine ⟨(Blk.new w 47 Z).alloc _, ?_, ((Only.refl _ _).alloc _).alloc _⟩
    have := Blk.new (w.alloc (.cells Z.toArray 47)) 47 Z
    rw [size_alloc, HD.out.2] at this
    rw [HD.out.2]
    exact this
  obtain ⟨G, hG⟩ : ∃ G, G = w.heap.size + 1 := ⟨_, rfl⟩
  rw [← hG] at S0 ⊢
  obtain ⟨R, hR⟩ : ∃ R, R = w.heap.size := ⟨_, rfl⟩
  have HG : Hid (w.heap.size ≤ G ∧ w.heap.size ≤ R ∧ R ≠ G) := ⟨by omega, by omega, by omega⟩
  rw [← hR] at S0 ⊢
  obtain ⟨W0, hW0⟩ : ∃ W0, W0 = (w.alloc (.cells Z.toArray 47)).alloc (.cells Z.toArray 47) := ⟨_, rfl⟩
  rw [← hW0] at S0 ⊢
  clear hG hR hW0 hzv
  go_loopw [9] (fun i wr => ∃ n : Nat, n ≤ m ∧ i = .int .i64 n ∧ Blk wr R 47 Z ∧ Blk wr G 47 (ul (rawI xs n)) ∧ Only (fun _ => False) w wr) (fun i _ => m - (intOf i).toNat)
  case atStart => exact ⟨0, by omega, rfl, S0.out⟩
  case round =>
    obtain ⟨n, hn, rfl, hR, hS, hO⟩ := hrel
    clear S0
    by_cases hlt : n < m
    · obtain ⟨b, off, rfl, hc0⟩ := HBS.out n hlt
      have hcb : wr.cell? ⟨b, off + n, none⟩ = some (.int .u8 (xs.getD n 0)) := by
        rw [World.cell?_of_block (hO.block b (World.block_lt_of_cell? w _ hc0) (fun f => f))]; exact hc0
      obtain ⟨y, hy⟩ := Int.eq_ofNat_of_zero_le (H8.out.1.at n).1
      have hy2 := (H8.out.1.at n).2
      rw [hy] at hcb hy2
      obtain ⟨q, hq⟩ : ∃ q, q = 8 * n / 26 := ⟨_, rfl⟩
      obtain ⟨r, hr⟩ : ∃ r, r = 8 * n % 26 := ⟨_, rfl⟩
      have hq5 : q < 5 := by omega
      have hc : wr.cell? ⟨G, q, none⟩ = some (.int .u64 (((rawI xs n).getD q 0 : Nat) : Int)) := by
        rw [hS.cell, ul_at _ _ (by rw [rawI_len]; exact hq5)]
      have hlx := rawI_lb xs H8.out.1 n q
      have hf := hS.froz q
      obtain ⟨x, hx⟩ : ∃ x, x = (rawI xs n).getD q 0 := ⟨_, rfl⟩
      rw [← hx] at hc hlx
      have hpw : 2 ^ r ≤ 2 ^ 25 := Nat.pow_le_pow_right (by decide) (by omega)
      obtain ⟨t, ht⟩ : ∃ t, t = y * 2 ^ r := ⟨_, rfl⟩
      have htl : t ≤ 255 * 33554432 := by rw [ht]; exact Nat.mul_le_mul (by omega) hpw
      have hti : (y : Int) * 2 ^ r = (t : Int) := by rw [ht]; simp
      have s1 : IntKind.u64.wrap ((y : Int) * 2 ^ r) = (t : Int) := by rw [hti, wrap64 t (by omega)]
      have s2 : ((y : Int) * 2 ^ r) % 18446744073709551616 = (t : Int) := by rw [hti]; omega
      obtain ⟨v, hv⟩ : ∃ v, v = x + t := ⟨_, rfl⟩
      have hadd : IntKind.u64.wrap ((x : Int) + (t : Int)) = (v : Int) := by
        rw [show ((x : Int) + (t : Int)) = ((v : Nat) : Int) by omega, wrap64 v (by omega)]
      have hsn : (rawI xs n).set q v = rawI xs (n + 1) := by
        rw [rawI, ← hq, ← hr, ← hx, hy, hv, ht]; rfl
      have N1 : Hid (Blk (wr.drew.setCell ⟨G, q, none⟩ (.int .u64 (v : Int))) R 47 Z ∧ Blk (wr.drew.setCell ⟨G, q, none⟩ (.int .u64 (v : Int))) G 47 (ul (rawI xs (n + 1))) ∧ Only (fun _ => False) w (wr.drew.setCell ⟨G, q, none⟩ (.int .u64 (v : Int)))) := by
        have oc := ((Only.refl (fun k => k = G) wr).drew).setCell (p := ⟨G, q, none⟩) (fun _ => rfl) (.int .u64 (v : Int))
        refine ⟨hR.keep oc HG.out.2.2, ?_, hO.trans oc (fun i hi e => by have := HG.out.1; omega)⟩
        have h := hS.drew.set q (.int .u64 (v : Int))
        rw [ul_set, hsn] at h
        exact h
      have hmul : IntKind.i64.wrap ((n : Int) * 8) = ((8 * n : Nat) : Int) := by rw [IntKind.wrap_i64]; omega
      have hm2 : (n : Int) * 8 = ((8 * n : Nat) : Int) := by omega
      obtain ⟨p, hp⟩ : ∃ p, p = 8 * n := ⟨_, rfl⟩
      rw [← hp] at hmul hm2 hq hr
      have hdv : (p : Int).tdiv 26 = (q : Int) := by rw [Int.tdiv_eq_ediv_of_nonneg (by omega)]; omega
      have hdv2 : (p : Int) / 26 = (q : Int) := by omega
      have hmd : (p : Int).tmod 26 = (r : Int) := by rw [Int.tmod_eq_emod_of_nonneg (by omega)]; omega
      have hmd2 : (p : Int) % 26 = (r : Int) := by omega
      have hq6 : (q : Int) < 5 := by omega
      have hr6 : (r : Int) ≤ 64 := by omega
      have i1 : (n : Int) < m := by omega
      clear hS hR hO hc0 hy hlx hx hpw ht htl hti hv hsn hq hr hp HBS
      go_wp2_with fail
      go_region
      all_goals go_wp2
      all_goals go_roundw
      case rel => exact ⟨n + 1, by omega, by go_num, N1.out⟩
      case measure => simp [intOf]; omega
    · obtain rfl : n = m := by omega
      have A := hideIt (settled_any (rawI xs n) (rawI_len _ _) ((rawI_lb xs H8.out.1 n).mono (by have := H8.out.2; have := HM.out; omega)) wr)
      have HN : Hid ((Try.prog.info? 47).map (·.size) = some (ul (rawI xs n)).toArray.size ∧ (ul (rawI xs n)).toArray.size = D.toArray.size) := by
        refine ⟨ul_size _ (rawI_len _ _), ?_⟩
        rw [HD.out.1]; simp [ul_len, rawI_len, nmb_len]
      have S1 := hideIt hS
      have R1 := hideIt hR
      have O1 := hideIt hO
      have ED : ul (sdg (rawI xs n) 0) = D := by rw [HD.out.1, nmb, HM.out]
      rw [ED] at A
      obtain ⟨NN, hNN⟩ : ∃ NN, NN = ul (rawI xs n) := ⟨_, rfl⟩
      rw [← hNN] at A HN S1
      clear hS hR hO ED hNN
      go_wp2_with (first | (refine wpList_load_row rfl 47 (.tmp 3) rfl G rfl 47 NN.toArray (0, 0) _ S1.out Try.underlying47 rfl HN.out.1 ?_))
      refine A.out.mono ?_
      rintro e w1 ⟨rfl, o1⟩
      have S2 := hideIt (S1.out.past o1)
      have R2 := hideIt (R1.out.past o1)
      have O2 := hideIt (O1.out.same o1)
      have S3 := hideIt (S2.out.row D)
      have R3 : Hid (Blk (w1.setRow G D.toArray) R 47 Z) := R2.out.keep ((Only.refl (fun k => k = G) _).setRow (fun _ => rfl) _) HG.out.2.2
      clear o1 S1 R1 O1 A
      go_wp2_with (first | (refine wpList_store_row rfl 47 (.tmp 3) (.tmp 31) rfl G D.toArray rfl rfl 47 NN.toArray S2.out HZ1.out HN.out.2 HA.out ?_) | (refine wpList_load_row rfl 47 (.tmp 3) rfl G rfl 47 D.toArray (0, 0) _ S3.out Try.underlying47 rfl HZ1.out ?_) | (refine wpList_store_row rfl 47 (.tmp 2) (.tmp 33) rfl R D.toArray rfl rfl 47 Z.toArray R3.out HZ1.out HZ2.out HA.out ?_))
      refine bodyPost_ret (v := .agg D.toArray) (results_cell_row rfl _ _ R 47 D.toArray (0, 0) _ rfl (R3.out.row D) Try.underlying47 rfl HZ1.out) rfl ⟨rfl, ?_⟩
      exact (O2.out.setRow (fun h => absurd h (by have := HG.out.1; omega)) _).setRow (fun h => absurd h (by have := HG.out.2.1; omega)) _
end Go.Proofs.Ytjiippbjflpkkaa
