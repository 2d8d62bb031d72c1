/- settled: what a limb has too much is carried to the one above it. -/
import Derived.Test.YtjiippbjflpkkaaUa
namespace Go.Proofs.Ytjiippbjflpkkaa
open Go.RowKit

theorem take_nextN' (s : List Nat) (j : Nat) (h : j < s.length) : s.take (j + 1) = s.take j ++ [s.getD j 0] := take_nextN s j h
theorem sdg_set (s : List Nat) (i : Nat) (hi : i < s.length) : (sdg (s.take i) 0 ++ s.drop i).set i ((s.getD i 0 + scy (s.take i) 0) % 67108864) = sdg (s.take (i + 1)) 0 ++ s.drop (i + 1) := by
  have hl : (sdg (s.take i) 0).length = i := by rw [sdg_len, List.length_take]; omega
  rw [take_nextN s i hi, sdg_snoc, List.set_append_right _ _ (by omega), hl, Nat.sub_self, List.drop_eq_getElem_cons hi, List.set_cons_zero, List.append_assoc]
  rfl
theorem sdg_cell (s : List Nat) (i : Nat) (hi : i < s.length) : (sdg (s.take i) 0 ++ s.drop i).getD i 0 = s.getD i 0 := by
  have hl : (sdg (s.take i) 0).length = i := by rw [sdg_len, List.length_take]; omega
  simp only [List.getD_eq_getElem?_getD]
  rw [List.getElem?_append_right (by omega), hl, Nat.sub_self, List.getElem?_drop, Nat.add_zero]
set_option maxHeartbeats 1600000 in
set_option maxRecDepth 100000 in
theorem settled_any (s : List Nat) (hs : s.length = 5) (hb : LB 9223372036854775808 s) (w : World) :
    Calls Try.prog 35 #[.agg (ul s).toArray] w fun e w' => e = .returned (.tuple #[.agg (ul (sdg s 0)).toArray, .int .u64 (scy s 0 : Nat)]) ∧ Only (fun _ => False) w w' := by
  have hzv := (zero_of_info (P := Try.prog) Try.zero34).1
  obtain ⟨Z, hZ⟩ : ∃ Z, Z = z5 := ⟨_, rfl⟩
  rw [← hZ] at hzv
  obtain ⟨D, hD⟩ : ∃ D, D = ul (sdg s 0) := ⟨_, rfl⟩
  have HZ1 : Hid ((Try.prog.info? 47).map (·.size) = some D.toArray.size) := by
    show _ = _
    rw [hD]; simp [ul_len, sdg_len, hs, Try.size34]
  have HZ2 : Hid (Z.toArray.size = D.toArray.size) := by
    show _ = _
    rw [hD, hZ]; simp [ul_len, sdg_len, hs, z5_len]
  have HA : Hid (D.toArray.all (·.oneCell') = true) := by
    show _ = _
    rw [hD]; exact ul_all _
  rw [← hD]
  have HD := hideIt hD
  have HS := hideIt (And.intro hs hb)
  obtain ⟨B, hB⟩ : ∃ B, B = ul s := ⟨_, rfl⟩
  have HB := hideIt hB
  rw [← hB]
  obtain ⟨C, hC⟩ : ∃ C, C = scy s 0 := ⟨_, rfl⟩
  rw [← hC]
  have HC := hideIt hC
  clear hZ hD hB hC hs hb
  go_enter Try.func35, Try.ntmps35
  go_wp2_with fail
  have S0 : Hid (Blk ((w.alloc (.cells B.toArray 47)).alloc (.cells Z.toArray 47)) w.heap.size 47 (ul (sdg (s.take 0) 0 ++ s.drop 0))) := by
    show Blk _ _ _ (ul s)
    rw [← HB.out]
    exact (Blk.new w 47 B).alloc _
  have R0 : Hid (Blk ((w.alloc (.cells B.toArray 47)).alloc (.cells Z.toArray 47)) (w.heap.size + 1) 47 Z) := by
    have := Blk.new (w.alloc (.cells B.toArray 47)) 47 Z
    rw [size_alloc] at this
    exact this
  have O0 : Hid (Only (fun _ => False) w ((w.alloc (.cells B.toArray 47)).alloc (.cells Z.toArray 47))) := ((Only.refl _ _).alloc _).alloc _
  obtain ⟨G, hG⟩ : ∃ G, G = w.heap.size := ⟨_, rfl⟩
  obtain ⟨R, hR⟩ : ∃ R, R = w.heap.size + 1 := ⟨_, rfl⟩
  obtain ⟨W0, hW0⟩ : ∃ W0, W0 = (w.alloc (.cells B.toArray 47)).alloc (.cells Z.toArray 47) := ⟨_, rfl⟩
  rw [← hG, ← hW0] at S0
  rw [← hR, ← hW0] at R0
  rw [← hW0] at O0
  rw [← hR, ← hG, ← hW0]
  have HG : Hid (w.heap.size ≤ G ∧ w.heap.size ≤ R ∧ R ≠ G) := ⟨by omega, by omega, by omega⟩
  clear hG hR hW0 hzv
  go_loopw [4, 6] (fun c i wr => ∃ n : Nat, n ≤ 5 ∧ i = .int .i64 n ∧ c = .int .u64 (scy (s.take n) 0 : Nat) ∧ Blk wr G 47 (ul (sdg (s.take n) 0 ++ s.drop n)) ∧ Blk wr R 47 Z ∧ Only (fun _ => False) w wr) (fun _ i _ => 5 - (intOf i).toNat)
  case atStart => exact ⟨0, by omega, rfl, rfl, S0.out, R0.out, O0.out⟩
  case round =>
    obtain ⟨n, hn, rfl, rfl, hS, hR, hO⟩ := hrel
    clear S0 R0 O0
    by_cases hlt : n < 5
    · have hl5 : n < s.length := by rw [HS.out.1]; exact hlt
      have hll : (sdg (s.take n) 0 ++ s.drop n).length = 5 := by
        rw [List.length_append, sdg_len, List.length_take, List.length_drop, HS.out.1]; omega
      have hx := HS.out.2 n
      have hcb := scy_lt (s.take n) 0 (HS.out.2.take (by decide) n) (by decide)
      have hc : wr.cell? ⟨G, n, none⟩ = some (.int .u64 ((s.getD n 0 : Nat) : Int)) := by
        rw [hS.cell, ul_at _ _ (by rw [hll]; exact hlt), sdg_cell s n hl5]
      have hf := hS.froz n
      have hsn := sdg_set s n hl5
      have hcn : scy (s.take (n + 1)) 0 = (s.getD n 0 + scy (s.take n) 0) / 67108864 := by rw [take_nextN s n hl5, scy_snoc]
      obtain ⟨x, hxx⟩ : ∃ x, x = s.getD n 0 := ⟨_, rfl⟩
      obtain ⟨c, hcc⟩ : ∃ c, c = scy (s.take n) 0 := ⟨_, rfl⟩
      rw [← hxx] at hc hsn hcn hx
      rw [← hcc] at hsn hcn hcb
      rw [← hcc]
      obtain ⟨v, hv⟩ : ∃ v, v = x + c := ⟨_, rfl⟩
      rw [← hv] at hsn hcn
      have hv64 : v < 18446744073709551616 := by omega
      have hadd : IntKind.u64.wrap ((x : Int) + (c : Int)) = (v : Int) := by
        rw [show ((x : Int) + (c : Int)) = ((v : Nat) : Int) by omega, wrap64 v hv64]
      have hand := and26 v hv64
      obtain ⟨d, hd⟩ : ∃ d, d = v % 67108864 := ⟨_, rfl⟩
      obtain ⟨q, hq⟩ : ∃ q, q = v / 67108864 := ⟨_, rfl⟩
      rw [← hd] at hand hsn
      rw [← hq] at hcn
      have hqq : (v : Int) / 67108864 = (q : Int) := by omega
      have hb1 := hS.set n (.int .u64 (v : Int))
      have hc1 := set_here wr G n 47 _ hS (by rw [ul_len, hll]; exact hlt) (.int .u64 (v : Int))
      have hf1 := hb1.froz n
      have hb2 := hb1.set n (.int .u64 (d : Int))
      rw [List.set_set, ul_set, hsn] at hb2
      have N1 : Hid (Blk ((wr.setCell ⟨G, n, none⟩ (.int .u64 (v : Int))).setCell ⟨G, n, none⟩ (.int .u64 (d : Int))) G 47 (ul (sdg (s.take (n + 1)) 0 ++ s.drop (n + 1))) ∧ Blk ((wr.setCell ⟨G, n, none⟩ (.int .u64 (v : Int))).setCell ⟨G, n, none⟩ (.int .u64 (d : Int))) R 47 Z ∧ Only (fun _ => False) w ((wr.setCell ⟨G, n, none⟩ (.int .u64 (v : Int))).setCell ⟨G, n, none⟩ (.int .u64 (d : Int)))) := by
        have oc := ((Only.refl (fun k => k = G) wr).setCell (p := ⟨G, n, none⟩) (fun _ => rfl) (.int .u64 (v : Int))).setCell (p := ⟨G, n, none⟩) (fun _ => rfl) (.int .u64 (d : Int))
        exact ⟨hb2, hR.keep oc HG.out.2.2, hO.trans oc (fun i hi e => by have := HG.out.1; omega)⟩
      have HCN := hideIt hcn
      have i1 : (n : Int) < 5 := by omega
      clear hS hR hO hll hl5 hx hcb hsn hxx hcc hv hd hq hb1 hb2 hcn hv64
      go_wp2
      go_roundw
      case rel => exact ⟨n + 1, by omega, by go_num, by rw [HCN.out], N1.out.1, N1.out.2.1, N1.out.2.2⟩
      case measure => simp [intOf]; omega
    · obtain rfl : n = 5 := by omega
      have S2 : Hid (Blk wr G 47 D) := by
        have h := hS
        rw [List.take_of_length_le (by rw [HS.out.1]; exact Nat.le_refl _), List.drop_of_length_le (by rw [HS.out.1]; exact Nat.le_refl _), List.append_nil, ← HD.out] at h
        exact h
      have R2 := hideIt hR
      have O2 := hideIt hO
      have E1 : scy (s.take 5) 0 = C := by rw [List.take_of_length_le (by rw [HS.out.1]; exact Nat.le_refl _), HC.out]
      rw [E1]
      clear hS hR hO E1
      go_wp2_with (first | (refine wpList_load_row rfl 47 (.tmp 1) rfl G rfl 47 D.toArray (0, 0) _ S2.out Try.underlying47 rfl HZ1.out ?_) | (refine wpList_store_row rfl 47 (.tmp 2) (.tmp 25) rfl R D.toArray rfl rfl 47 Z.toArray R2.out HZ1.out HZ2.out HA.out ?_))
      refine bodyPost_ret (results_c1 rfl _ _ R 47 D.toArray (0, 0) _ rfl (R2.out.row D) Try.underlying47 rfl HZ1.out) rfl ⟨rfl, ?_⟩
      exact O2.out.setRow (fun h => absurd h (by have := HG.out.2.1; omega)) _
end Go.Proofs.Ytjiippbjflpkkaa
