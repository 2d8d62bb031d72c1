/- What the first words come to, as bytes. -/
import Derived.Test.YtjiippbjflpkkaaTu
namespace Go.Proofs.Ytjiippbjflpkkaa
open Go.RowKit

/-- the bytes when i words are laid -/
def bpart (s : List Nat) (i : Nat) : List Int := (s.take i).flatMap le4
theorem bpart_len (s : List Nat) (i : Nat) (hi : i ≤ s.length) : (bpart s i).length = 4 * i := by
  unfold bpart; rw [flat_le4_len, List.length_take]; omega
theorem bpart_next (s : List Nat) (i : Nat) (hi : i < s.length) : bpart s (i + 1) = bpart s i ++ le4 (s.getD i 0) := by
  unfold bpart; rw [take_nextN s i hi, List.flatMap_append]; simp
theorem bpart_all (s : List Nat) (n : Nat) (hn : s.length ≤ n) : bpart s n = s.flatMap le4 := by
  unfold bpart; rw [List.take_of_length_le hn]
theorem le4_take_next (x j : Nat) (hj : j < 4) : (le4 x).take (j + 1) = (le4 x).take j ++ [(le4 x).getD j 0] := by
  have : j = 0 ∨ j = 1 ∨ j = 2 ∨ j = 3 := by omega
  rcases this with rfl | rfl | rfl | rfl <;> rfl
theorem bl_set (s : List Int) (i : Nat) (x : Int) : (bl s).set i (.int .u8 x) = bl (s.set i x) := by simp [bl, List.map_set]
theorem put_next (P Q : List Int) (k n : Nat) (y : Int) (hn : n = k + 1) (hP : P.length = Q.length) : (P ++ List.replicate n 0).set Q.length y = (P ++ [y]) ++ List.replicate k 0 := by
  subst hn
  rw [← hP, List.set_append_right _ _ (Nat.le_refl _), Nat.sub_self, List.replicate_succ, List.set_cons_zero]
  simp
theorem Try.size42 : (Try.prog.info? 43).map (·.size) = some 64 := by kernel_rfl
def zB : List Value := bl (List.replicate 64 0)
theorem Try.zero42 : (Try.prog.info? 43).map (fun i => (i.zero, i.size)) = some (some (.agg zB.toArray), 64) := by kernel_rfl
theorem zB_len : zB.length = 64 := rfl
theorem bl_all (s : List Int) : (bl s).toArray.all (·.oneCell') = true := all_oneCell_toArray (bl_one s)
theorem ccS_at (s : List Nat) (i : Nat) (hi : i < 16) : (ccS s).getD i 0 = ((dbls 10 s).getD i 0 + s.getD i 0) % 4294967296 := by
  simp [ccS, List.getD_eq_getElem?_getD, hi]
theorem byte_of (c j : Nat) (hj : j < 4) : (le4 c).getD j 0 = ((c / 256 ^ j % 256 : Nat) : Int) := by
  have : j = 0 ∨ j = 1 ∨ j = 2 ∨ j = 3 := by omega
  rcases this with rfl | rfl | rfl | rfl <;> simp [le4]
theorem ix_w16 (s : List Nat) (hs : s.length = 16) (j : Nat) (hj : j < 16) (w : World) : (Instr.index 41 (.agg (wl s).toArray) (.int .i64 j)).run Try.prog w = .ok (.int .u32 ((s.getD j 0 : Nat) : Int)) w :=
  run_index_cell 41 34 16 (wl s) j _ Try.underlying41 Try.agg29 Try.one29 hj (wl_at s j (by omega)) w

set_option maxHeartbeats 1600000 in
set_option maxRecDepth 100000 in
theorem blockOf_any (s : List Nat) (hs : s.length = 16) (h32 : W32 s) (w : World) : Calls Try.prog 31 #[.agg (wl s).toArray] w fun e w' => e = .returned (.agg (bl ((ccS s).flatMap le4)).toArray) ∧ Only (fun _ => False) w w' := by
  have hzv := (zero_of_info (P := Try.prog) Try.zero42).1
  obtain ⟨Z, hZ⟩ : ∃ Z, Z = zB := ⟨_, rfl⟩
  rw [← hZ] at hzv
  have HZ := hideIt hZ
  obtain ⟨D, hD⟩ : ∃ D, D = bl ((ccS s).flatMap le4) := ⟨_, rfl⟩
  have hDl : D.length = 64 := by rw [hD, bl_len, flat_le4_len, ccS_len]
  have HZ1 : Hid ((Try.prog.info? 43).map (·.size) = some D.toArray.size) := by
    show _ = _
    rw [Try.size42]; simp [hDl]
  have HZ2 : Hid (Z.toArray.size = D.toArray.size) := by
    show _ = _
    rw [hZ]; simp [hDl, zB_len]
  have HA : Hid (D.toArray.all (·.oneCell') = true) := by
    show _ = _
    rw [hD]; exact bl_all _
  rw [← hD]
  have HD := hideIt hD
  have HS := hideIt (And.intro hs h32)
  obtain ⟨B, hB⟩ : ∃ B, B = wl s := ⟨_, rfl⟩
  have HB := hideIt hB
  have HB1 : Hid ((Try.prog.info? 41).map (·.size) = some B.toArray.size) := by
    show _ = _
    rw [hB]; simp [wl_len, hs, Try.size44]
  rw [← hB]
  clear hZ hD hB hs h32
  go_enter Try.func31, Try.ntmps31
  go_wp2_with (first | (refine wpList_load_row rfl 41 (.tmp 1) rfl w.heap.size rfl 41 B.toArray (0, 0) _ (((Blk.new w 41 B).alloc _).alloc _) Try.underlying41 rfl HB1.out ?_))
  have K0 : Hid (Blk (((w.alloc (.cells B.toArray 41)).alloc (.cells Z.toArray 43)).alloc (.cells Z.toArray 43)) w.heap.size 41 B ∧ Blk (((w.alloc (.cells B.toArray 41)).alloc (.cells Z.toArray 43)).alloc (.cells Z.toArray 43)) (w.heap.size + 1) 43 Z ∧ Blk (((w.alloc (.cells B.toArray 41)).alloc (.cells Z.toArray 43)).alloc (.cells Z.toArray 43)) (w.heap.size + 1 + 1) 43 Z ∧ Only (fun _ => False) w (((w.alloc (.cells B.toArray 41)).alloc (.cells Z.toArray 43)).alloc (.cells Z.toArray 43))) := by
    refine ⟨((Blk.new w 41 B).alloc _).alloc _, ?_, ?_, (((Only.refl _ _).alloc _).alloc _).alloc _⟩
    · have := (Blk.new (w.alloc (.cells B.toArray 41)) 43 Z).alloc (.cells Z.toArray 43)
      rw [size_alloc] at this
      exact this
    · have := Blk.new ((w.alloc (.cells B.toArray 41)).alloc (.cells Z.toArray 43)) 43 Z
      rw [size_alloc, size_alloc] at this
      exact this
  obtain ⟨X, hX⟩ : ∃ X, X = w.heap.size + 1 + 1 := ⟨_, rfl⟩
  rw [← hX] at K0 ⊢
  obtain ⟨R, hR⟩ : ∃ R, R = w.heap.size + 1 := ⟨_, rfl⟩
  rw [← hR] at K0 ⊢
  obtain ⟨F, hF⟩ : ∃ F, F = w.heap.size := ⟨_, rfl⟩
  have HG : Hid (w.heap.size ≤ F ∧ w.heap.size ≤ R ∧ w.heap.size ≤ X ∧ F ≠ X ∧ R ≠ X) := ⟨by omega, by omega, by omega, by omega, by omega⟩
  rw [← hF] at K0 ⊢
  obtain ⟨W0, hW0⟩ : ∃ W0, W0 = (((w.alloc (.cells B.toArray 41)).alloc (.cells Z.toArray 43)).alloc (.cells Z.toArray 43)) := ⟨_, rfl⟩
  rw [← hW0] at K0 ⊢
  clear hX hR hF hW0 hzv
  have TC := turned_any s HS.out.1 HS.out.2 W0
  rw [← HB.out] at TC
  refine TC.mono ?_
  clear TC
  rintro e w1 ⟨rfl, o1⟩
  obtain ⟨T, hT⟩ : ∃ T, T = dbls 10 s := ⟨_, rfl⟩
  have HX := hideIt (ix_w16 (dbls 10 s) (by rw [dbls_len]; exact HS.out.1))
  have HT := hideIt (dbls_w32 10 s HS.out.2)
  obtain ⟨C, hC⟩ : ∃ C, C = ccS s := ⟨_, rfl⟩
  have HC : Hid (C.length = 16 ∧ ∀ i, i < 16 → C.getD i 0 = ((dbls 10 s).getD i 0 + s.getD i 0) % 4294967296) := by
    rw [hC]; exact ⟨ccS_len s, ccS_at s⟩
  rw [← hC] at HD
  rw [← hT] at HX HT HC ⊢
  obtain ⟨TA, hTA⟩ : ∃ TA, TA = wl T := ⟨_, rfl⟩
  rw [← hTA] at HX ⊢
  have K1 : Hid (Blk w1 F 41 B ∧ Blk w1 R 43 Z ∧ Blk w1 X 43 (bl (bpart C 0 ++ List.replicate 64 0)) ∧ Only (fun _ => False) w w1) := by
    refine ⟨K0.out.1.past o1, K0.out.2.1.past o1, ?_, K0.out.2.2.2.same o1⟩
    have := K0.out.2.2.1.past o1
    rw [HZ.out] at this
    exact this
  clear K0 o1 hT hC hTA
  go_wp2
  go_loopw [9] (fun i wr => ∃ n : Nat, n ≤ 16 ∧ i = .int .i64 n ∧ Blk wr F 41 B ∧ Blk wr R 43 Z ∧ Blk wr X 43 (bl (bpart C n ++ List.replicate (64 - 4 * n) 0)) ∧ Only (fun _ => False) w wr) (fun i _ => 16 - (intOf i).toNat)
  case atStart => exact ⟨0, by omega, rfl, K1.out⟩
  case round =>
    obtain ⟨n, hn, rfl, k1, k2, k3, k4⟩ := hrel
    clear K1
    by_cases hlt : n < 16
    · have hix := HX.out n hlt
      have hcf : wr.cell? ⟨F, n, none⟩ = some (.int .u32 ((s.getD n 0 : Nat) : Int)) := by
        rw [k1.cell, HB.out, wl_at s n (by rw [HS.out.1]; exact hlt)]
      obtain ⟨c, hc⟩ : ∃ c, c = C.getD n 0 := ⟨_, rfl⟩
      have hadd : IntKind.u32.wrap (((T.getD n 0 : Nat) : Int) + ((s.getD n 0 : Nat) : Int)) = (c : Int) := by
        rw [add_int, hc, HC.out.2 n hlt]
      have hc32 : c < 4294967296 := by rw [hc, HC.out.2 n hlt]; exact Nat.mod_lt _ (by decide)
      obtain ⟨tn, htn⟩ : ∃ tn, tn = T.getD n 0 := ⟨_, rfl⟩
      obtain ⟨sn, hsn⟩ : ∃ sn, sn = s.getD n 0 := ⟨_, rfl⟩
      rw [← htn] at hix hadd
      rw [← hsn] at hcf hadd
      have i1 : (n : Int) < 16 := by omega
      have HK := hideIt (And.intro k1 (And.intro k2 (And.intro k3 k4)))
      have HCN := hideIt hc
      clear htn hsn hc k1 k2 k3 k4
      go_wp2
      go_loopw [18] (fun i wr => ∃ j : Nat, j ≤ 4 ∧ i = .int .i64 j ∧ Blk wr F 41 B ∧ Blk wr R 43 Z ∧ Blk wr X 43 (bl ((bpart C n ++ (le4 c).take j) ++ List.replicate (64 - 4 * n - j) 0)) ∧ Only (fun _ => False) w wr) (fun i _ => 4 - (intOf i).toNat)
      case atStart => exact ⟨0, by omega, rfl, HK.out.1, HK.out.2.1, by rw [List.take_zero, List.append_nil]; exact HK.out.2.2.1, HK.out.2.2.2⟩
      case round =>
        obtain ⟨j, hj, rfl, k1, k2, k3, k4⟩ := hrel
        clear HK hcf hix hadd
        by_cases hlj : j < 4
        · have hbl : (bpart C n).length = 4 * n := bpart_len C n (by rw [HC.out.1]; omega)
          have htl : (bpart C n ++ (le4 c).take j).length = n * 4 + j := by
            rw [List.length_append, hbl, List.length_take, le4_len]; omega
          have hcx : wr.cell? ⟨X, n * 4 + j, none⟩ = some (.int .u8 (((bpart C n ++ (le4 c).take j) ++ List.replicate (64 - 4 * n - j) 0).getD (n * 4 + j) 0)) := by
            rw [k3.cell, bl_at _ _ (by rw [List.length_append, htl, List.length_replicate]; omega)]
          have hfx := k3.froz (n * 4 + j)
          obtain ⟨z, hz⟩ : ∃ z, z = ((bpart C n ++ (le4 c).take j) ++ List.replicate (64 - 4 * n - j) 0).getD (n * 4 + j) 0 := ⟨_, rfl⟩
          rw [← hz] at hcx
          have hby := byte_of c j hlj
          obtain ⟨y, hy⟩ : ∃ y, y = (le4 c).getD j 0 := ⟨_, rfl⟩
          have N1 : Hid (Blk (wr.setCell ⟨X, n * 4 + j, none⟩ (.int .u8 y)) F 41 B ∧ Blk (wr.setCell ⟨X, n * 4 + j, none⟩ (.int .u8 y)) R 43 Z ∧ Blk (wr.setCell ⟨X, n * 4 + j, none⟩ (.int .u8 y)) X 43 (bl ((bpart C n ++ (le4 c).take (j + 1)) ++ List.replicate (64 - 4 * n - (j + 1)) 0)) ∧ Only (fun _ => False) w (wr.setCell ⟨X, n * 4 + j, none⟩ (.int .u8 y))) := by
            have oc := (Only.refl (fun k => k = X) wr).setCell (p := ⟨X, n * 4 + j, none⟩) (fun _ => rfl) (.int .u8 y)
            refine ⟨k1.keep oc HG.out.2.2.2.1, k2.keep oc HG.out.2.2.2.2, ?_, k4.trans oc (fun i hi e => by have := HG.out.2.2.1; omega)⟩
            have h := k3.set (n * 4 + j) (.int .u8 y)
            rw [bl_set, ← htl, put_next _ _ (64 - 4 * n - (j + 1)) _ y (by omega) rfl, htl, List.append_assoc (bpart C n), hy, ← le4_take_next c j hlj] at h
            rw [hy]
            exact h
          rw [← hy] at hby
          have i2 : (j : Int) < 4 := by omega
          clear hz hy k1 k2 k3 k4 hbl htl
          have h4 : j = 0 ∨ j = 1 ∨ j = 2 ∨ j = 3 := by omega
          rcases h4 with rfl | rfl | rfl | rfl
          · have hyy : y = (c : Int) % 256 := by rw [hby]; simp
            rw [hyy] at N1
            clear hby hyy
            simp only [Nat.add_zero] at hcx hfx N1
            go_wp2
            go_roundw
            case rel => exact ⟨1, by omega, by go_num, N1.out.1, N1.out.2.1, N1.out.2.2.1, N1.out.2.2.2⟩
            case measure => simp [intOf]
          · have hyy : y = (c : Int) / 256 % 256 := by rw [hby]; simp
            rw [hyy] at N1
            clear hby hyy
            go_wp2
            go_roundw
            case rel => exact ⟨2, by omega, by go_num, N1.out.1, N1.out.2.1, N1.out.2.2.1, N1.out.2.2.2⟩
            case measure => simp [intOf]
          · have hyy : y = (c : Int) / 65536 % 256 := by rw [hby]; simp
            rw [hyy] at N1
            clear hby hyy
            go_wp2
            go_roundw
            case rel => exact ⟨3, by omega, by go_num, N1.out.1, N1.out.2.1, N1.out.2.2.1, N1.out.2.2.2⟩
            case measure => simp [intOf]
          · have hyy : y = (c : Int) / 16777216 := by rw [hby]; simp; omega
            rw [hyy] at N1
            clear hby hyy
            go_wp2
            go_roundw
            case rel => exact ⟨4, by omega, by go_num, N1.out.1, N1.out.2.1, N1.out.2.2.1, N1.out.2.2.2⟩
            case measure => simp [intOf]
        · obtain rfl : j = 4 := by omega
          have N2 : Hid (Blk wr F 41 B ∧ Blk wr R 43 Z ∧ Blk wr X 43 (bl (bpart C (n + 1) ++ List.replicate (64 - 4 * (n + 1)) 0)) ∧ Only (fun _ => False) w wr) := by
            refine ⟨k1, k2, ?_, k4⟩
            rw [bpart_next C n (by rw [HC.out.1]; exact hlt), ← HCN.out, show 64 - 4 * (n + 1) = 64 - 4 * n - 4 by omega]
            exact k3
          clear k1 k2 k3 k4
          go_wp2
          go_roundw
          case rel => exact ⟨n + 1, by omega, by go_num, N2.out⟩
          case measure => simp [intOf]; omega
    · obtain rfl : n = 16 := by omega
      have S2 : Hid (Blk wr X 43 D) := by
        rw [HD.out, ← bpart_all C 16 (by rw [HC.out.1]; exact Nat.le_refl _)]
        have := k3
        rw [show 64 - 4 * 16 = 0 from rfl, List.replicate_zero, List.append_nil] at this
        exact this
      have R2 := hideIt k2
      have O2 := hideIt k4
      clear k1 k2 k3 k4
      go_wp2_with (first | (refine wpList_load_row rfl 43 (.tmp 3) rfl X rfl 43 D.toArray (0, 0) _ S2.out Try.underlying43 rfl HZ1.out ?_) | (refine wpList_store_row rfl 43 (.tmp 2) (.tmp 33) rfl R D.toArray rfl rfl 43 Z.toArray R2.out HZ1.out HZ2.out HA.out ?_))
      refine bodyPost_ret (v := .agg D.toArray) (results_cell_row rfl _ _ R 43 D.toArray (0, 0) _ rfl (R2.out.row D) Try.underlying43 rfl HZ1.out) rfl ⟨rfl, ?_⟩
      exact O2.out.setRow (fun h => absurd h (by have := HG.out.2.1; omega)) _
end Go.Proofs.Ytjiippbjflpkkaa
