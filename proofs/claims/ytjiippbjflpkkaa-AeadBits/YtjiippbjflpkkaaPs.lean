/- plus: a sum that is not yet settled. -/
import Derived.Test.YtjiippbjflpkkaaSe
namespace Go.Proofs.Ytjiippbjflpkkaa
open Go.RowKit

theorem put_at (T s : List Nat) (i : Nat) (hi : i < s.length) (hT : i < T.length) : (T.take i ++ s.drop i).set i (T.getD i 0) = T.take (i + 1) ++ s.drop (i + 1) := by
  have hl : (T.take i).length = i := by rw [List.length_take]; omega
  rw [take_nextN T i hT, List.set_append_right _ _ (by omega), hl, Nat.sub_self, List.drop_eq_getElem_cons hi, List.set_cons_zero, List.append_assoc]
  rfl
theorem put_cell (T s : List Nat) (i : Nat) (hT : i < T.length) : (T.take i ++ s.drop i).getD i 0 = s.getD i 0 := by
  have hl : (T.take i).length = i := by rw [List.length_take]; omega
  simp only [List.getD_eq_getElem?_getD]
  rw [List.getElem?_append_right (by omega), hl, Nat.sub_self, List.getElem?_drop, Nat.add_zero]
theorem put_len (T s : List Nat) (i n : Nat) (hT : T.length = n) (hs : s.length = n) (hi : i ≤ n) : (T.take i ++ s.drop i).length = n := by
  rw [List.length_append, List.length_take, List.length_drop]; omega
set_option maxHeartbeats 1600000 in
set_option maxRecDepth 100000 in
theorem plus_any (a b : List Nat) (ha : a.length = 5) (hb : b.length = 5) (la : LB 4611686018427387904 a) (lb : LB 4611686018427387904 b) (w : World) :
    Calls Try.prog 36 #[.agg (ul a).toArray, .agg (ul b).toArray] w fun e w' => e = .returned (.agg (ul (pls a b)).toArray) ∧ Only (fun _ => False) w w' := by
  have hzv := (zero_of_info (P := Try.prog) Try.zero34).1
  obtain ⟨Z, hZ⟩ : ∃ Z, Z = z5 := ⟨_, rfl⟩
  rw [← hZ] at hzv
  obtain ⟨D, hD⟩ : ∃ D, D = ul (pls a b) := ⟨_, rfl⟩
  have HZ1 : Hid ((Try.prog.info? 47).map (·.size) = some D.toArray.size) := by
    show _ = _
    rw [hD]; simp [ul_len, pls_len, Try.size34]
  have HZ2 : Hid (Z.toArray.size = D.toArray.size) := by
    show _ = _
    rw [hD, hZ]; simp [ul_len, pls_len, z5_len]
  have HA : Hid (D.toArray.all (·.oneCell') = true) := by
    show _ = _
    rw [hD]; exact ul_all _
  rw [← hD]
  have HD := hideIt hD
  have HS := hideIt (And.intro ha (And.intro hb (And.intro la lb)))
  obtain ⟨A, hA⟩ : ∃ A, A = ul a := ⟨_, rfl⟩
  obtain ⟨B, hB⟩ : ∃ B, B = ul b := ⟨_, rfl⟩
  have HB := hideIt (And.intro hA hB)
  rw [← hA, ← hB]
  clear hZ hD hB hA ha hb la lb
  go_enter Try.func36, Try.ntmps36
  go_wp2_with fail
  have S0 : Hid (Blk (((w.alloc (.cells A.toArray 47)).alloc (.cells B.toArray 47)).alloc (.cells Z.toArray 47)) w.heap.size 47 (ul ((pls a b).take 0 ++ a.drop 0)) ∧ Blk (((w.alloc (.cells A.toArray 47)).alloc (.cells B.toArray 47)).alloc (.cells Z.toArray 47)) (w.heap.size + 1) 47 (ul b) ∧ Blk (((w.alloc (.cells A.toArray 47)).alloc (.cells B.toArray 47)).alloc (.cells Z.toArray 47)) (w.heap.size + 1 + 1) 47 Z ∧ Only (fun _ => False) w (((w.alloc (.cells A.toArray 47)).alloc (.cells B.toArray 47)).alloc (.cells Z.toArray 47))) := by
    refine ⟨?_, ?_, ?_, (((Only.refl _ _).alloc _).alloc _).alloc _⟩
    · show Blk _ _ _ (ul a)
      rw [← HB.out.1]
      exact ((Blk.new w 47 A).alloc _).alloc _
    · rw [← HB.out.2]
      have := (Blk.new (w.alloc (.cells A.toArray 47)) 47 B).alloc (.cells Z.toArray 47)
      rw [size_alloc] at this
      exact this
    · have := Blk.new ((w.alloc (.cells A.toArray 47)).alloc (.cells B.toArray 47)) 47 Z
      rw [size_alloc, size_alloc] at this
      exact this
  obtain ⟨R, hR⟩ : ∃ R, R = w.heap.size + 1 + 1 := ⟨_, rfl⟩
  rw [← hR] at S0 ⊢
  obtain ⟨H, hH⟩ : ∃ H, H = w.heap.size + 1 := ⟨_, rfl⟩
  rw [← hH] at S0 ⊢
  obtain ⟨G, hG⟩ : ∃ G, G = w.heap.size := ⟨_, rfl⟩
  have HG : Hid (w.heap.size ≤ G ∧ w.heap.size ≤ R ∧ R ≠ G ∧ H ≠ G) := ⟨by omega, by omega, by omega, by omega⟩
  rw [← hG] at S0 ⊢
  obtain ⟨W0, hW0⟩ : ∃ W0, W0 = ((w.alloc (.cells A.toArray 47)).alloc (.cells B.toArray 47)).alloc (.cells Z.toArray 47) := ⟨_, rfl⟩
  rw [← hW0] at S0 ⊢
  have hGH : ¬ G = H := by omega
  clear hG hR hW0 hzv hH
  go_loopw [6] (fun i wr => ∃ n : Nat, n ≤ 5 ∧ i = .int .i64 n ∧ Blk wr G 47 (ul ((pls a b).take n ++ a.drop n)) ∧ Blk wr H 47 (ul b) ∧ Blk wr R 47 Z ∧ Only (fun _ => False) w wr) (fun i _ => 5 - (intOf i).toNat)
  case atStart => exact ⟨0, by omega, rfl, S0.out⟩
  case round =>
    obtain ⟨n, hn, rfl, hS, hQ, hR, hO⟩ := hrel
    clear S0
    by_cases hlt : n < 5
    · have hll := put_len (pls a b) a n 5 (pls_len _ _) HS.out.1 hn
      have hx := HS.out.2.2.1 n
      have hy := HS.out.2.2.2 n
      have hc : wr.cell? ⟨G, n, none⟩ = some (.int .u64 ((a.getD n 0 : Nat) : Int)) := by
        rw [hS.cell, ul_at _ _ (by rw [hll]; exact hlt), put_cell _ _ _ (by rw [pls_len]; exact hlt)]
      have hc2 : wr.cell? ⟨H, n, none⟩ = some (.int .u64 ((b.getD n 0 : Nat) : Int)) := by
        rw [hQ.cell, ul_at _ _ (by rw [HS.out.2.1]; exact hlt)]
      have hf := hS.froz n
      have hsn := put_at (pls a b) a n (by rw [HS.out.1]; exact hlt) (by rw [pls_len]; exact hlt)
      rw [pls_at _ _ _ hlt] at hsn
      obtain ⟨x, hxx⟩ : ∃ x, x = a.getD n 0 := ⟨_, rfl⟩
      obtain ⟨y, hyy⟩ : ∃ y, y = b.getD n 0 := ⟨_, rfl⟩
      rw [← hxx] at hc hsn hx
      rw [← hyy] at hsn hc2 hy
      obtain ⟨v, hv⟩ : ∃ v, v = x + y := ⟨_, rfl⟩
      rw [← hv] at hsn
      have hadd : IntKind.u64.wrap ((x : Int) + (y : Int)) = (v : Int) := by
        rw [show ((x : Int) + (y : Int)) = ((v : Nat) : Int) by omega, wrap64 v (by omega)]
      have N1 : Hid (Blk (wr.drew.setCell ⟨G, n, none⟩ (.int .u64 (v : Int))) G 47 (ul ((pls a b).take (n + 1) ++ a.drop (n + 1))) ∧ Blk (wr.drew.setCell ⟨G, n, none⟩ (.int .u64 (v : Int))) H 47 (ul b) ∧ Blk (wr.drew.setCell ⟨G, n, none⟩ (.int .u64 (v : Int))) R 47 Z ∧ Only (fun _ => False) w (wr.drew.setCell ⟨G, n, none⟩ (.int .u64 (v : Int)))) := by
        have oc := ((Only.refl (fun k => k = G) wr).drew).setCell (p := ⟨G, n, none⟩) (fun _ => rfl) (.int .u64 (v : Int))
        refine ⟨?_, hQ.keep oc HG.out.2.2.2, hR.keep oc HG.out.2.2.1, hO.trans oc (fun i hi e => by have := HG.out.1; omega)⟩
        have h := hS.drew.set n (.int .u64 (v : Int))
        rw [ul_set, hsn] at h
        exact h
      have i1 : (n : Int) < 5 := by omega
      clear hS hR hO hQ hll hx hy hsn hxx hyy hv
      go_wp2_with fail
      go_region
      all_goals go_wp2
      all_goals go_roundw
      case rel => exact ⟨n + 1, by omega, by go_num, N1.out⟩
      case measure => simp [intOf]; omega
    · obtain rfl : n = 5 := by omega
      have S2 : Hid (Blk wr G 47 D) := by
        have h := hS
        rw [List.take_of_length_le (by rw [pls_len]; exact Nat.le_refl _), List.drop_of_length_le (by rw [HS.out.1]; exact Nat.le_refl _), List.append_nil, ← HD.out] at h
        exact h
      have R2 := hideIt hR
      have O2 := hideIt hO
      clear hS hR hO hQ
      go_wp2_with (first | (refine wpList_load_row rfl 47 (.tmp 2) rfl G rfl 47 D.toArray (0, 0) _ S2.out Try.underlying47 rfl HZ1.out ?_) | (refine wpList_store_row rfl 47 (.tmp 4) (.tmp 18) rfl R D.toArray rfl rfl 47 Z.toArray R2.out HZ1.out HZ2.out HA.out ?_))
      refine bodyPost_ret (v := .agg D.toArray) (results_cell_row rfl _ _ R 47 D.toArray (0, 0) _ rfl (R2.out.row D) Try.underlying47 rfl HZ1.out) rfl ⟨rfl, ?_⟩
      exact O2.out.setRow (fun h => absurd h (by have := HG.out.2.1; omega)) _
end Go.Proofs.Ytjiippbjflpkkaa
