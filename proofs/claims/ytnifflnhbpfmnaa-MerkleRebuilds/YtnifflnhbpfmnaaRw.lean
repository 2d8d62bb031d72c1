/- The 64 words of a piece. -/
import Derived.Test.YtnifflnhbpfmnaaBo
import Derived.Test.YtnifflnhbpfmnaaSw
import Derived.Deep.RegionHeld3
namespace Go.Proofs.Ytnifflnhbpfmnaa
open Go.RowKit

theorem Try.zero52 : (Try.prog.info? 80).map (fun i => (i.zero, i.size)) = some (some (.agg zK.toArray), 64) := by kernel_rfl
theorem sum4 (a b c d : Nat) : IntKind.u32.wrap (IntKind.u32.wrap (IntKind.u32.wrap ((a : Int) + b) + c) + d) = (((a + b + c + d) % 4294967296 : Nat) : Int) := by
  rw [IntKind.wrap_u32', IntKind.wrap_u32', IntKind.wrap_u32']; omega
theorem or_int (a : Nat) (y : Int) (ha : a < 16777216) (h0 : 0 ≤ y) (h1 : y ≤ 255) : bits .or .u32 ((a : Int) * 256) y = ((a * 256 + y.toNat : Nat) : Int) := by
  obtain ⟨b, rfl⟩ := Int.eq_ofNat_of_zero_le h0
  rw [show ((a : Int) * 256) = ((a * 256 : Nat) : Int) by simp]
  have := u32_or_nat (a * 256) b (by omega) (by omega)
  rw [this, or_byte a b (by omega)]
  rfl
set_option maxHeartbeats 1600000 in
set_option maxRecDepth 100000 in
theorem roundWords_any (p : List Int) (hp : p.length = 64) (h8 : U8 p) (w : World) : Calls Try.prog 67 #[.agg (bl p).toArray] w fun e w' => e = .returned (.agg (wl (wds p)).toArray) ∧ Only (fun _ => False) w w' := by
  have HX := hideIt (ix_b64 p hp)
  have H8 := hideIt h8
  have hsz : (Try.prog.info? 59).map (·.size) = some (bl p).toArray.size := by simp [bl_len, hp, Try.size31]
  have HSZ := hideIt hsz
  obtain ⟨B, hB⟩ : ∃ B, B = bl p := ⟨_, rfl⟩
  rw [← hB] at HX HSZ ⊢
  have hzv := (zero_of_info (P := Try.prog) Try.zero52).1
  obtain ⟨Z, hZ⟩ : ∃ Z, Z = zK := ⟨_, rfl⟩
  rw [← hZ] at hzv
  have HZ := hideIt hZ
  have hz1 : (Try.prog.info? 80).map (·.size) = some (wl (wds p)).toArray.size := by simp [wl_len, wds_len, Try.size52]
  have HZ1 := hideIt hz1
  have HZ2 : Hid (Z.toArray.size = (wl (wds p)).toArray.size) := by
    show _ = _
    rw [HZ.out]; simp [wl_len, wds_len, zK]
  have HA := hideIt (wl_all (wds p))
  obtain ⟨D, hD⟩ : ∃ D, D = wl (wds p) := ⟨_, rfl⟩
  rw [← hD] at HZ1 HZ2 HA ⊢
  have HD := hideIt hD.symm
  clear hB hsz h8 hp hZ hD hz1
  go_enter Try.func67, Try.ntmps67
  go_wp2_with (refine wpList_load_row rfl 59 _ rfl w.heap.size rfl 59 B.toArray (0, 0) _ (((Blk.new w 59 B).alloc _).alloc _) Try.underlying59 rfl HSZ.out ?_)
  have S0 : Hid (Blk (((w.alloc (.cells B.toArray 59)).alloc (.cells Z.toArray 80)).alloc (.cells Z.toArray 80)) (w.heap.size + 1 + 1) 80 (wl (wpart p 0))) := by
    have := Blk.new ((w.alloc (.cells B.toArray 59)).alloc (.cells Z.toArray 80)) 80 Z
    rw [size_alloc, size_alloc] at this
    rw [wpart_zero]
    rw [HZ.out] at this ⊢
    exact this
  have R0 : Hid (Blk (((w.alloc (.cells B.toArray 59)).alloc (.cells Z.toArray 80)).alloc (.cells Z.toArray 80)) (w.heap.size + 1) 80 Z) := by
    have := (Blk.new (w.alloc (.cells B.toArray 59)) 80 Z).alloc (.cells Z.toArray 80)
    rw [size_alloc] at this
    exact this
  have O0 : Hid (Only (fun _ => False) w (((w.alloc (.cells B.toArray 59)).alloc (.cells Z.toArray 80)).alloc (.cells Z.toArray 80))) := (((Only.refl _ _).alloc _).alloc _).alloc _
  obtain ⟨G, hG⟩ : ∃ G, G = w.heap.size + 1 + 1 := ⟨_, rfl⟩
  obtain ⟨R, hR⟩ : ∃ R, R = w.heap.size + 1 := ⟨_, rfl⟩
  obtain ⟨W0, hW0⟩ : ∃ W0, W0 = (((w.alloc (.cells B.toArray 59)).alloc (.cells Z.toArray 80)).alloc (.cells Z.toArray 80)) := ⟨_, rfl⟩
  rw [← hG, ← hW0] at S0
  rw [← hR, ← hW0] at R0
  rw [← hW0] at O0
  rw [← hG, ← hR, ← hW0]
  have HG : Hid (w.heap.size ≤ G ∧ w.heap.size ≤ R ∧ R ≠ G) := ⟨by omega, by omega, by omega⟩
  clear hG hR hW0 hzv
  go_loopw [8] (fun i wr => ∃ j : Nat, j ≤ 64 ∧ i = .int .i64 j ∧ Blk wr G 80 (wl (wpart p j)) ∧ Blk wr R 80 Z ∧ Only (fun _ => False) w wr) (fun i _ => 64 - (intOf i).toNat)
  case atStart => exact ⟨0, by omega, rfl, S0.out, R0.out, O0.out⟩
  case round =>
    obtain ⟨j, hj, rfl, hS, hR, hO⟩ := hrel
    clear S0 R0 O0
    by_cases hlt : j < 64
    · obtain ⟨y, hy⟩ : ∃ y, y = p.getD j 0 := ⟨_, rfl⟩
      obtain ⟨a, ha⟩ : ∃ a, a = accw p (j / 4) (j % 4) := ⟨_, rfl⟩
      have hix := HX.out j hlt
      have hyr := H8.out.at j
      rw [← hy] at hix hyr
      obtain ⟨y0, y1⟩ := hyr
      have hcell : wr.cell? ⟨G, j / 4, none⟩ = some (.int .u32 (a : Int)) := by
        rw [hS.cell, wl_at _ _ (by rw [wpart_len]; omega), wpart_here p j hlt, ← ha]
      have hfr : wr.frozen? ⟨G, j / 4, none⟩ = false := hS.froz _
      have hal : a < 16777216 := by
        have h1 := accw_lt p H8.out (j / 4) (j % 4)
        rw [← ha] at h1
        have h2 : 256 ^ (j % 4) ≤ 256 ^ 3 := Nat.pow_le_pow_right (by decide) (by omega)
        have h3 : 256 ^ 3 = 16777216 := by decide
        omega
      have i0 : (0 : Int) ≤ (j : Int) := by omega
      have i1 : (j : Int) < 64 := by omega
      have hor := or_int a y hal y0 y1
      obtain ⟨q, hq⟩ : ∃ q : Nat, q = a * 256 + y.toNat := ⟨_, rfl⟩
      rw [← hq] at hor
      have N1 : Hid (Blk (wr.setCell ⟨G, j / 4, none⟩ (.int .u32 (q : Int))) G 80 (wl (wpart p (j + 1)))) := by
        have := hS.set (j / 4) (.int .u32 (q : Int))
        rw [wl_set] at this
        rw [wpart_next p j hlt, ← ha, ← hy, ← hq]
        exact this
      have hON := (Only.refl (fun k => k = G) wr).setCell (p := ⟨G, j / 4, none⟩) (fun _ => rfl) (.int .u32 (q : Int))
      have N2 := hideIt (hR.keep hON HG.out.2.2)
      have N3 := hideIt (hO.trans hON (fun i hi e => by have := HG.out.1; omega))
      clear ha hy hS hR hO hON hq
      go_wp2
      go_roundw
      case rel => exact ⟨j + 1, by omega, by go_num, N1.out, N2.out, N3.out⟩
      case measure => simp [intOf]; omega
    · obtain rfl : j = 64 := by omega
      have S1 : Hid (Blk wr G 80 (wl (wv p 16 ++ List.replicate 48 0))) := by
        show _
        rw [wpart_all] at hS; exact hS
      have R1 := hideIt hR
      have O1 := hideIt hO
      obtain ⟨W1, hW1⟩ : ∃ W1, W1 = wr := ⟨_, rfl⟩
      subst hW1
      clear hS hR hO HX HSZ
      go_wp2
      go_loopw [6] (fun i wr => ∃ t : Nat, 16 ≤ t ∧ t ≤ 64 ∧ i = .int .i64 t ∧ Blk wr G 80 (wl (wv p t ++ List.replicate (64 - t) 0)) ∧ Blk wr R 80 Z ∧ Only (fun _ => False) w wr) (fun i _ => 64 - (intOf i).toNat)
      case atStart => exact ⟨16, by omega, by omega, rfl, S1.out, R1.out, O1.out⟩
      case round =>
        obtain ⟨t, ht, ht2, rfl, hS, hR, hO⟩ := hrel
        clear S1 R1 O1
        by_cases hlt : t < 64
        · have hvl := wv_len p t ht
          have hv32 : W32 (wv p t) := by
            have := wv_w32 p H8.out (t - 16)
            rwa [show 16 + (t - 16) = t by omega] at this
          have hcell : ∀ k, k < t → wr.cell? ⟨G, k, none⟩ = some (.int .u32 (((wv p t).getD k 0 : Nat) : Int)) := fun k hk => by
            rw [hS.cell, wl_at _ _ (by simp; omega), getD_left _ _ _ (by omega)]
          have hnx := nextw_eq (wv p t) t hvl
          obtain ⟨a2, e2⟩ : ∃ a, a = (wv p t).getD (t - 2) 0 := ⟨_, rfl⟩
          obtain ⟨a7, e7⟩ : ∃ a, a = (wv p t).getD (t - 7) 0 := ⟨_, rfl⟩
          obtain ⟨a15, e15⟩ : ∃ a, a = (wv p t).getD (t - 15) 0 := ⟨_, rfl⟩
          obtain ⟨a16, e16⟩ : ∃ a, a = (wv p t).getD (t - 16) 0 := ⟨_, rfl⟩
          have c2 := hcell (t - 2) (by omega)
          have c7 := hcell (t - 7) (by omega)
          have c15 := hcell (t - 15) (by omega)
          have c16 := hcell (t - 16) (by omega)
          have b2 := hv32.at (t - 2)
          have b15 := hv32.at (t - 15)
          rw [← e2] at c2 b2
          rw [← e7] at c7
          rw [← e15] at c15 b15
          rw [← e16] at c16
          rw [← e2, ← e7, ← e15, ← e16] at hnx
          have hfr : wr.frozen? ⟨G, t, none⟩ = false := hS.froz _
          have hct : ∃ v, wr.cell? ⟨G, t, none⟩ = some v := by
            rw [hS.cell]
            exact ⟨_, List.getElem?_eq_getElem (by rw [wl_len]; simp; omega)⟩
          obtain ⟨vt, hct⟩ := hct
          have i2 : (0 : Int) ≤ (t : Int) - 16 := by omega
          have i3 : (t : Int) < 64 := by omega
          have b1 := hideIt b2
          have b3 := hideIt b15
          have HNX := hideIt hnx
          obtain ⟨V, hV⟩ : ∃ V, V = IntKind.u32.wrap (IntKind.u32.wrap (IntKind.u32.wrap (((sg1 a2 : Nat) : Int) + a7) + ((sg0 a15 : Nat) : Int)) + a16) := ⟨_, rfl⟩
          have HV : V = ((nextw (wv p t) : Nat) : Int) := by rw [hV, sum4, hnx]
          have N1 : Hid (Blk (wr.setCell ⟨G, t, none⟩ (.int .u32 V)).drew G 80 (wl (wv p (t + 1) ++ List.replicate (64 - (t + 1)) 0))) := by
            have := hS.set t (.int .u32 V)
            rw [HV, wl_set, set_next _ t _ hvl hlt, ← wv_next p t ht, ← HV] at this
            exact this.drew
          have hON := (Only.refl (fun k => k = G) wr).setCell (p := ⟨G, t, none⟩) (fun _ => rfl) (.int .u32 V)
          have N2 := hideIt (hR.keep hON.drew HG.out.2.2)
          have N3 := hideIt (hO.trans hON.drew (fun i hi e => by have := HG.out.1; omega))
          rw [hV] at N1 N2 N3
          clear HV hON hV HNX V
          clear e2 e7 e15 e16 hcell hvl hv32 hnx hS hR hO b2 b15
          obtain ⟨k2, f2⟩ : ∃ k, k = t - 2 := ⟨_, rfl⟩
          obtain ⟨k7, f7⟩ : ∃ k, k = t - 7 := ⟨_, rfl⟩
          obtain ⟨k15, f15⟩ : ∃ k, k = t - 15 := ⟨_, rfl⟩
          obtain ⟨k16, f16⟩ : ∃ k, k = t - 16 := ⟨_, rfl⟩
          rw [← f2] at c2
          rw [← f7] at c7
          rw [← f15] at c15
          rw [← f16] at c16
          have m2 : (k2 : Int) < 64 := by omega
          have n2 : ¬ t = k2 := by omega
          have o2 : ¬ k2 = t := by omega
          have m7 : (k7 : Int) < 64 := by omega
          have n7 : ¬ t = k7 := by omega
          have o7 : ¬ k7 = t := by omega
          have m15 : (k15 : Int) < 64 := by omega
          have n15 : ¬ t = k15 := by omega
          have o15 : ¬ k15 = t := by omega
          have m16 : (k16 : Int) < 64 := by omega
          have n16 : ¬ t = k16 := by omega
          have o16 : ¬ k16 = t := by omega
          have g2 : (t : Int) - 2 = (k2 : Int) := by omega
          have g7 : (t : Int) - 7 = (k7 : Int) := by omega
          have g15 : (t : Int) - 15 = (k15 : Int) := by omega
          have g16 : (t : Int) - 16 = (k16 : Int) := by omega
          have r2 : IntKind.i64.wrap (k2 : Int) = (k2 : Int) := by rw [IntKind.wrap_i64]; omega
          have r7 : IntKind.i64.wrap (k7 : Int) = (k7 : Int) := by rw [IntKind.wrap_i64]; omega
          have r15 : IntKind.i64.wrap (k15 : Int) = (k15 : Int) := by rw [IntKind.wrap_i64]; omega
          have r16 : IntKind.i64.wrap (k16 : Int) = (k16 : Int) := by rw [IntKind.wrap_i64]; omega
          clear f2 f7 f15 f16 i2
          go_wp2
          go_region_held3 (fun W => W.cell? ⟨G, k2, none⟩ = some (Value.int .u32 a2) ∧ W.cell? ⟨G, k7, none⟩ = some (Value.int .u32 a7) ∧ W.cell? ⟨G, k15, none⟩ = some (Value.int .u32 a15) ∧ W.cell? ⟨G, k16, none⟩ = some (Value.int .u32 a16)) (simp [*, cell_off]) (first | (go_at_call 73; refine (sg1_any a2 _ b1.out).mono ?_; rintro e w2 ⟨rfl, rfl⟩) | (go_at_call 74; refine (sg0_any a15 _ b3.out).mono ?_; rintro e w2 ⟨rfl, rfl⟩))
          go_wp2
          go_roundw
          case rel => ((repeat apply Exists.intro); exact ⟨⟨t + 1, by omega, by omega, by go_num, N1.out, N2.out, N3.out⟩, rfl⟩)
          case measure => simp [intOf]; omega
        · obtain rfl : t = 64 := by omega
          have S2 : Hid (Blk wr G 80 (wl (wds p))) := by
            show _
            rw [wv_all, Nat.sub_self, List.replicate_zero, List.append_nil] at hS; exact hS
          have R2 := hideIt hR
          have O2 := hideIt hO
          rw [HD.out] at S2
          clear hS hR hO
          go_wp2_with (first | (refine wpList_load_row rfl 80 (.tmp 3) rfl G rfl 80 D.toArray (0, 0) _ S2.out Try.underlying80 rfl HZ1.out ?_) | (refine wpList_store_row rfl 80 (.tmp 2) (.tmp 51) rfl R D.toArray rfl rfl 80 Z.toArray R2.out HZ1.out HZ2.out HA.out ?_))
          refine bodyPost_ret (v := .agg D.toArray) (results_cell_row rfl _ _ R 80 D.toArray (0, 0) _ rfl (R2.out.row D) Try.underlying80 rfl HZ1.out) rfl ⟨rfl, ?_⟩
          exact O2.out.setRow (fun h => absurd h (by have := HG.out.2.1; omega)) _
end Go.Proofs.Ytnifflnhbpfmnaa
