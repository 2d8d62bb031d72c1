/- A byte held against each of 64. -/
import Derived.Test.YtbcfpiahhippaaaG2
import Derived.Test.YtbcfpiahhippaaaHm
namespace Go.Proofs.Ytbcfpiahhippaaa
open Go.RowKit


theorem Try.zero42m : (Try.prog.info? 50).map (fun i => (i.zero, i.size)) = some (some (.agg (bl (List.replicate 64 0)).toArray), 64) := by kernel_rfl
/-- j bytes are turned -/
def mkd (x : Nat) (k : List Int) (j : Nat) : List Int := (xorB x k).take j ++ k.drop j
theorem mkd_len (x : Nat) (k : List Int) (j : Nat) (hj : j ≤ k.length) : (mkd x k j).length = k.length := by
  unfold mkd
  rw [List.length_append, List.length_take, List.length_drop, xorB_len]; omega
theorem mkd_here (x : Nat) (k : List Int) (j : Nat) (hj : j < k.length) : (mkd x k j).getD j 0 = k.getD j 0 := by
  unfold mkd
  rw [List.getD_eq_getElem?_getD, List.getElem?_append_right (by rw [List.length_take, xorB_len]; omega), List.length_take, xorB_len, Nat.min_eq_left (by omega), Nat.sub_self, List.getElem?_drop, Nat.add_zero, List.getD_eq_getElem?_getD]
theorem mkd_next (x : Nat) (k : List Int) (j : Nat) (hj : j < k.length) : (mkd x k j).set j (((k.getD j 0).toNat ^^^ x : Nat) : Int) = mkd x k (j + 1) := by
  unfold mkd
  rw [List.set_append_right _ _ (by rw [List.length_take]; omega), List.length_take, xorB_len, Nat.min_eq_left (by omega), Nat.sub_self, List.take_add_one]
  have e : (xorB x k)[j]? = some (((k.getD j 0).toNat ^^^ x : Nat) : Int) := by
    unfold xorB
    rw [List.getElem?_map, List.getElem?_eq_getElem hj, List.getD_eq_getElem?_getD, List.getElem?_eq_getElem hj]; rfl
  rw [e, List.drop_eq_getElem_cons hj, List.set_cons_zero, List.append_assoc]
  rfl
theorem mkd_all (x : Nat) (k : List Int) (n : Nat) (hn : k.length = n) : mkd x k n = xorB x k := by
  unfold mkd
  rw [List.take_of_length_le (by rw [xorB_len]; omega), List.drop_of_length_le (by omega), List.append_nil]
set_option maxHeartbeats 800000 in
set_option maxRecDepth 100000 in
theorem marked_any (k : List Int) (hk : k.length = 64) (h8 : U8 k) (x : Nat) (hx : x < 256) (w : World) :
    Calls Try.prog 39 #[.agg (bl k).toArray, .int .u8 (x : Int)] w fun e w' => e = .returned (.agg (bl (xorB x k)).toArray) ∧ Only (fun _ => False) w w' := by
  have hzv := (zero_of_info (P := Try.prog) Try.zero42m).1
  obtain ⟨Z, hZ⟩ : ∃ Z, Z = bl (List.replicate 64 0) := ⟨_, rfl⟩
  rw [← hZ] at hzv
  obtain ⟨B, hB⟩ : ∃ B, B = bl k := ⟨_, rfl⟩
  obtain ⟨C, hC⟩ : ∃ C, C = bl (xorB x k) := ⟨_, rfl⟩
  have hCl : C.length = 64 := by rw [hC, bl_len, xorB_len, hk]
  have HSZ : Hid ((Try.prog.info? 50).map (·.size) = some C.toArray.size) := by
    show _ = _
    rw [List.size_toArray, hCl]; exact Try.size31
  have HZ2 : Hid (Z.toArray.size = C.toArray.size) := by
    show _ = _
    rw [List.size_toArray, List.size_toArray, hCl, hZ]; simp [bl_len]
  have HA : Hid (C.toArray.all (·.oneCell') = true) := by
    show _ = _
    rw [hC]; exact all_oneCell_toArray (bl_one _)
  have HC : Hid (bl (mkd x k 64) = C) := by
    show _ = _
    rw [mkd_all x k 64 hk, hC]
  rw [← hC, ← hB]
  have HB : Hid (B = bl (mkd x k 0)) := by
    show _ = _
    rw [hB]; simp [mkd]
  have HK := hideIt (And.intro hk (And.intro h8 hx))
  clear hZ hB hC hCl hk h8 hx
  go_enter Try.func39, Try.ntmps39
  go_wp2
  have S0 : Hid (Blk ((w.alloc (.cells B.toArray 50)).alloc (.cells Z.toArray 50)) w.heap.size 50 (bl (mkd x k 0))) := Eq.mp (congrArg (Blk _ w.heap.size 50) HB.out) ((Blk.new w 50 B).alloc _)
  have R0 : Hid (Blk ((w.alloc (.cells B.toArray 50)).alloc (.cells Z.toArray 50)) (w.heap.size + 1) 50 Z) := by
    have := Blk.new (w.alloc (.cells B.toArray 50)) 50 Z
    rw [size_alloc] at this
    exact this
  have O0 : Hid (Only (fun _ => False) w ((w.alloc (.cells B.toArray 50)).alloc (.cells Z.toArray 50))) := ((Only.refl _ _).alloc _).alloc _
  obtain ⟨W0, hW0⟩ : ∃ W0, W0 = ((w.alloc (.cells B.toArray 50)).alloc (.cells Z.toArray 50)) := ⟨_, rfl⟩
  obtain ⟨G, hG⟩ : ∃ G, G = w.heap.size := ⟨_, rfl⟩
  obtain ⟨R, hR⟩ : ∃ R, R = w.heap.size + 1 := ⟨_, rfl⟩
  rw [← hG, ← hW0] at S0
  rw [← hR, ← hW0] at R0
  rw [← hW0] at O0
  rw [← hR, ← hG, ← hW0]
  have HG : Hid (w.heap.size ≤ G ∧ w.heap.size ≤ R ∧ R ≠ G) := ⟨by omega, by omega, by omega⟩
  clear hG hR hW0 hzv HB
  go_loopw [6] (fun i wr => ∃ j : Nat, j ≤ 64 ∧ i = .int .i64 j ∧ Hid (Blk wr G 50 (bl (mkd x k j))) ∧ Hid (Blk wr R 50 Z) ∧ Hid (Only (fun _ => False) w wr)) (fun i _ => 64 - (intOf i).toNat)
  case atStart => exact ⟨0, by omega, rfl, S0, R0, O0⟩
  case round =>
    obtain ⟨j, hj, rfl, hS, hR, hO⟩ := hrel
    clear S0 R0 O0
    by_cases hlt : j < 64
    · obtain ⟨y, hy⟩ : ∃ y, y = k.getD j 0 := ⟨_, rfl⟩
      have hyr := HK.out.2.1.at j
      rw [← hy] at hyr
      obtain ⟨y0, y1⟩ := hyr
      have hcell : wr.cell? ⟨G, j, none⟩ = some (.int .u8 y) := by
        rw [hS.out.cell, bl_at _ _ (by rw [mkd_len _ _ _ (by rw [HK.out.1]; omega), HK.out.1]; exact hlt), mkd_here _ _ _ (by rw [HK.out.1]; exact hlt), hy]
      have hfr : wr.frozen? ⟨G, j, none⟩ = false := hS.out.froz _
      have hxor := u8_xor y (x : Int) y0 (by omega) (by omega) (by have := HK.out.2.2; omega)
      rw [Int.toNat_natCast] at hxor
      obtain ⟨q, hq⟩ : ∃ q : Int, q = ((y.toNat ^^^ x : Nat) : Int) := ⟨_, rfl⟩
      rw [← hq] at hxor
      have i0 : (0 : Int) ≤ (j : Int) := by omega
      have i1 : (j : Int) < 64 := by omega
      have N1 : Hid (Blk (wr.setCell ⟨G, j, none⟩ (.int .u8 q)) G 50 (bl (mkd x k (j + 1)))) := by
        have := hS.out.set j (.int .u8 q)
        rw [bl_set, hq, hy, mkd_next _ _ _ (by rw [HK.out.1]; exact hlt)] at this
        rw [hq, hy]; exact this
      have hON := (Only.refl (fun k => k = G) wr).setCell (p := ⟨G, j, none⟩) (fun _ => rfl) (.int .u8 q)
      have N2 := hideIt (hR.out.keep hON HG.out.2.2)
      have N3 := hideIt (hO.out.trans hON (fun i hi e => by have := HG.out.1; omega))
      clear hy hS hR hO hON hq
      go_wp2
      go_roundw
      case rel => exact ⟨j + 1, by omega, by go_num, N1, N2, N3⟩
      case measure => simp [intOf]; omega
    · obtain rfl : j = 64 := by omega
      rw [HC.out] at hS
      go_wp2_with (first | (refine wpList_load_row rfl 50 (.tmp 2) rfl G rfl 50 C.toArray (0, 0) _ hS.out Try.underlying50 rfl HSZ.out ?_) | (refine wpList_store_row rfl 50 (.tmp 4) (.tmp 16) rfl R C.toArray rfl rfl 50 Z.toArray hR.out HSZ.out HZ2.out HA.out ?_))
      refine bodyPost_ret (v := .agg C.toArray) (results_cell_row rfl _ _ R 50 C.toArray (0, 0) _ rfl (setRow_heap _ _ _ _ 50 _ hR.out) Try.underlying50 rfl HSZ.out) rfl ⟨rfl, ?_⟩
      exact hO.out.setRow (fun h => absurd h (by have := HG.out.2.1; omega)) _
end Go.Proofs.Ytbcfpiahhippaaa
