/- Bytes as words; the sixteen words at first. -/
import Derived.Test.YtjiippbjflpkkaaTu
namespace Go.Proofs.Ytjiippbjflpkkaa
open Go.RowKit

/-- the first m bytes, the lowest first -/
def lacc (b : List Int) : Nat → Nat
  | 0 => 0
  | m + 1 => lacc b m + (b.getD m 0).toNat * 256 ^ m
theorem lacc_lt (b : List Int) (h : U8 b) : ∀ m, lacc b m < 256 ^ m := by
  intro m
  induction m with
  | zero => exact Nat.zero_lt_one
  | succ m ih =>
    have := h.at m
    have e : 256 ^ (m + 1) = 256 ^ m * 256 := Nat.pow_succ ..
    show lacc b m + (b.getD m 0).toNat * 256 ^ m < _
    have hm : (b.getD m 0).toNat * 256 ^ m ≤ 255 * 256 ^ m := Nat.mul_le_mul_right _ (by omega)
    omega
theorem lacc_four (b : List Int) : lacc b 4 = ld4 b 0 := by
  simp [lacc, ld4]
theorem or_high (a y m : Nat) (ha : a < 2 ^ m) : a ||| y * 2 ^ m = a + y * 2 ^ m := by
  have := Nat.two_pow_add_eq_or_of_lt ha y
  rw [Nat.or_comm, Nat.mul_comm y, ← this, Nat.add_comm]
theorem lacc_or (b : List Int) (h : U8 b) (m : Nat) (hm : m < 4) : bits .or .u32 ((lacc b m : Nat) : Int) (b.getD m 0 * 256 ^ m) = ((lacc b (m + 1) : Nat) : Int) := by
  have h0 := h.at m
  obtain ⟨y, hy⟩ := Int.eq_ofNat_of_zero_le h0.1
  have hl := lacc_lt b h m
  have hl2 := lacc_lt b h (m + 1)
  have e : (256 : Nat) ^ m = 2 ^ (8 * m) := by rw [Nat.pow_mul]
  have h4 : (256 : Nat) ^ (m + 1) ≤ 256 ^ 4 := Nat.pow_le_pow_right (by decide) (by omega)
  have h5 : (256 : Nat) ^ 4 = 4294967296 := by decide
  have hle : lacc b m ≤ lacc b (m + 1) := Nat.le_add_right _ _
  have hs : lacc b (m + 1) = lacc b m + y * 256 ^ m := by
    show lacc b m + (b.getD m 0).toNat * 256 ^ m = _
    rw [hy]; rfl
  rw [hy, show ((y : Int) * 256 ^ m) = ((y * 256 ^ m : Nat) : Int) by simp, u32_or_nat _ _ (by omega) (by omega), hs]
  congr 1
  rw [e]
  exact or_high _ _ _ (by rw [← e]; exact hl)
theorem lacc_or0 (b : List Int) (h : U8 b) : bits .or .u32 ((lacc b 0 : Nat) : Int) (b.getD 0 0) = ((lacc b 1 : Nat) : Int) := by
  have := lacc_or b h 0 (by decide)
  rwa [Int.pow_zero, Int.mul_one] at this
theorem shl_small (y : Int) (hy : 0 ≤ y ∧ y ≤ 255) : y * 256 % 4294967296 = y * 256 ∧ y * 65536 % 4294967296 = y * 65536 ∧ y * 16777216 % 4294967296 = y * 16777216 := by omega

set_option maxHeartbeats 400000 in
set_option maxRecDepth 100000 in
theorem wordOf_bs (v : Value) (xs : List Int) (h8 : U8 xs) (hl : 4 ≤ xs.length) (w : World) (hb : Bs .u8 w v xs) :
    Calls Try.prog 57 #[v] w fun e w' => e = .returned (.int .u32 (ld4 xs 0 : Nat)) ∧ w = w' := by
  obtain ⟨b, off, cap, rfl, _⟩ := hb.at 0 (by omega)
  have HB : Hid (∀ j, j < 4 → w.cell? ⟨b, off + j, none⟩ = some (.int .u8 (xs.getD j 0))) := fun j hj => by
    obtain ⟨b', off', cap', e, hc⟩ := hb.at j (by omega)
    simp at e
    obtain ⟨⟨rfl, rfl⟩, _⟩ := e
    exact hc
  have HF := hideIt (lacc_four xs)
  have H8 := hideIt h8
  obtain ⟨n, hn⟩ : ∃ n, n = xs.length := ⟨_, rfl⟩
  rw [← hn] at hl ⊢
  clear hb hn h8
  go_enter Try.func57, Try.ntmps57
  go_wp2
  go_loopw [3, 5] (fun o i wr => ∃ j : Nat, j ≤ 4 ∧ i = .int .i64 j ∧ o = .int .u32 (lacc xs j : Nat) ∧ w = wr) (fun _ i _ => 4 - (intOf i).toNat)
  case atStart => exact ⟨0, by omega, rfl, rfl, rfl⟩
  case round =>
    obtain ⟨j, hj, rfl, rfl, rfl⟩ := hrel
    by_cases hlt : j < 4
    · have hc := HB.out j hlt
      have hy := H8.out.at j
      have hs := shl_small _ hy
      have ho := lacc_or xs H8.out j hlt
      have ho0 := lacc_or0 xs H8.out
      obtain ⟨y, hyy⟩ : ∃ y, y = xs.getD j 0 := ⟨_, rfl⟩
      obtain ⟨q, hq⟩ : ∃ q : Nat, q = lacc xs (j + 1) := ⟨_, rfl⟩
      obtain ⟨A, hA⟩ : ∃ A : Nat, A = lacc xs j := ⟨_, rfl⟩
      have i1 : (j : Int) < 4 := by omega
      have i2 : (j : Int) < n := by omega
      rw [← hyy] at hc hy hs ho
      rw [← hq, ← hA] at ho
      rw [← hA]
      obtain ⟨y0, y1⟩ := hy
      obtain ⟨t1, t2, t3⟩ := hs
      have HQ := hideIt hq
      clear hyy hq hA ho0 HB H8
      have h4 : j = 0 ∨ j = 1 ∨ j = 2 ∨ j = 3 := by omega
      rcases h4 with rfl | rfl | rfl | rfl
      · simp only [Nat.add_zero] at hc
        simp at ho
        go_wp2
        go_roundw
        case rel => exact ⟨1, by omega, by go_num, by rw [HQ.out], trivial⟩
        case measure => simp [intOf]
      · simp at ho
        go_wp2
        go_roundw
        case rel => exact ⟨2, by omega, by go_num, by rw [HQ.out], trivial⟩
        case measure => simp [intOf]
      · simp at ho
        go_wp2
        go_roundw
        case rel => exact ⟨3, by omega, by go_num, by rw [HQ.out], trivial⟩
        case measure => simp [intOf]
      · simp at ho
        go_wp2
        go_roundw
        case rel => exact ⟨4, by omega, by go_num, by rw [HQ.out], trivial⟩
        case measure => simp [intOf]
    · obtain rfl : j = 4 := by omega
      rw [HF.out]
      go_wp2
      go_ret
      exact ⟨rfl, rfl⟩

theorem ldW_next (xs : List Int) (j : Nat) : ldW xs (j + 1) = ldW xs j ++ [ld4 xs j] := by
  simp [ldW, List.range_succ]
theorem ld4_drop (xs : List Int) (j : Nat) : ld4 (xs.drop (j * 4)) 0 = ld4 xs j := by
  rw [Nat.mul_comm j 4]
  simp only [ld4, List.getD_eq_getElem?_getD, List.getElem?_drop, Nat.mul_zero, Nat.zero_add, Nat.add_zero]
theorem lay_next (A M C : List Nat) (xs : List Int) (j : Nat) (hj : j < M.length) :
    (A ++ (ldW xs j ++ M.drop j) ++ C).set (A.length + j) (ld4 xs j) = A ++ (ldW xs (j + 1) ++ M.drop (j + 1)) ++ C := by
  have e : M.drop j = M[j] :: M.drop (j + 1) := List.drop_eq_getElem_cons hj
  rw [List.append_assoc, List.set_append_right _ _ (by omega), Nat.add_sub_cancel_left, List.append_assoc, List.set_append_right _ _ (by rw [ldW_len]; omega), ldW_len, Nat.sub_self, e, List.cons_append, List.set_cons_zero, ldW_next]
  simp
set_option maxHeartbeats 800000 in
set_option maxRecDepth 100000 in
theorem layWords_any (g off n cap : Nat) (A M C : List Nat) (v : Value) (xs : List Int) (hA : A.length = off) (hM : M.length = n) (hx : xs.length = 4 * n) (hn : n ≤ 16) (h8 : U8 xs) (w : World) (hb : Bs .u8 w v xs)
    (hv : ∀ k, v.ownBlock = some k → ¬ k = g) (hB : Blk w g 41 (wl (A ++ M ++ C))) :
    Calls Try.prog 49 #[.slice (some ⟨g, off, none⟩) n cap, v] w fun e w' => e = .returned (.tuple #[]) ∧ Blk w' g 41 (wl (A ++ ldW xs n ++ C)) ∧ Only (fun k => k = g) w w' := by
  obtain ⟨ao, vc, rfl⟩ := hb.len
  have hcap : xs.length ≤ vc := by obtain ⟨_, _, e, h, _⟩ := hb; cases e; exact h
  have HB := hideIt hb
  have HV := hideIt hv
  have H0 := hideIt hB
  have H8 := hideIt h8
  have HM := hideIt (And.intro hA hM)
  obtain ⟨m, hm⟩ : ∃ m, m = xs.length := ⟨_, rfl⟩
  have HXM := hideIt hm
  rw [← hm] at hx hcap ⊢
  clear hb hv hB hA hM h8 hm
  go_enter Try.func49, Try.ntmps49
  go_wp2
  go_loopw [7] (fun i wr => ∃ j : Nat, j ≤ n ∧ i = .int .i64 j ∧ Blk wr g 41 (wl (A ++ (ldW xs j ++ M.drop j) ++ C)) ∧ Only (fun k => k = g) w wr) (fun i _ => n - (intOf i).toNat)
  case atStart => exact ⟨0, by omega, rfl, H0.out, Only.refl _ _⟩
  case round =>
    obtain ⟨j, hj, rfl, hS, hO⟩ := hrel
    by_cases hlt : j < n
    · have hbr : Bs .u8 wr (.slice ao m vc) xs := by
        have := HB.out.keep hO (fun k hk e => HV.out k hk e)
        rw [← HXM.out] at this
        exact this
      have hcu := hbr.cut (n := j * 4) (by omega)
      have A30 := hideIt (wordOf_bs _ _ (H8.out.drop (j * 4)) (by rw [List.length_drop, ← HXM.out]; omega) wr hcu)
      rw [ld4_drop] at A30
      have hlen : off + j < (A ++ (ldW xs j ++ M.drop j) ++ C).length := by
        have h1 := HM.out.1
        have h2 := HM.out.2
        rw [List.length_append, List.length_append, List.length_append, ldW_len, List.length_drop]; omega
      have hc : wr.cell? ⟨g, off + j, none⟩ = some (.int .u32 (((A ++ (ldW xs j ++ M.drop j) ++ C).getD (off + j) 0 : Nat) : Int)) := by rw [hS.cell, wl_at _ _ hlen]
      obtain ⟨z, hz⟩ : ∃ z, z = (A ++ (ldW xs j ++ M.drop j) ++ C).getD (off + j) 0 := ⟨_, rfl⟩
      rw [← hz] at hc
      have hf := hS.froz (off + j)
      obtain ⟨x, hxx⟩ : ∃ x, x = ld4 xs j := ⟨_, rfl⟩
      rw [← hxx] at A30
      have N1 : Hid (Blk (wr.setCell ⟨g, off + j, none⟩ (.int .u32 (x : Int))) g 41 (wl (A ++ (ldW xs (j + 1) ++ M.drop (j + 1)) ++ C))) := by
        have := hS.set (off + j) (.int .u32 (x : Int))
        rw [wl_set, hxx, ← HM.out.1, lay_next A M C xs j (by rw [HM.out.2]; exact hlt)] at this
        rw [hxx, ← HM.out.1]
        exact this
      have N2 := hideIt (hO.setCell (p := ⟨g, off + j, none⟩) (fun _ => rfl) (.int .u32 (x : Int)))
      have i1 : (j : Int) < n := by omega
      have i2 : (0 : Int) ≤ (j : Int) * 4 := by omega
      have i3 : (j : Int) * 4 ≤ m := by omega
      have i4 : (m : Int) ≤ vc := by omega
      have i5 : ¬ vc = j * 4 := by omega
      have hw1 : IntKind.i64.wrap ((j : Int) * 4) = (j : Int) * 4 := by rw [IntKind.wrap_i64]; omega
      clear hS hO hbr hcu hlen hz hxx hx
      go_wp2_with fail
      refine A30.out.mono ?_
      rintro e w1 ⟨rfl, rfl⟩
      go_wp2
      go_roundw
      case rel => exact ⟨j + 1, by omega, by go_num, N1.out, N2.out⟩
      case measure => simp [intOf]; omega
    · obtain rfl : j = n := by omega
      have F1 : Hid (Blk wr g 41 (wl (A ++ ldW xs j ++ C))) := by
        have := hS
        rw [List.drop_of_length_le (by rw [HM.out.2]; exact Nat.le_refl _), List.append_nil] at this
        exact this
      have F2 := hideIt hO
      clear hS hO
      go_wp2
      go_end0
      exact ⟨rfl, F1.out, F2.out⟩

theorem Bs.blk_lt {k : IntKind} {w : World} {v : Value} {xs : List Int} (h : Bs k w v xs) (hx : xs ≠ []) : ∀ j, v.ownBlock = some j → j < w.heap.size := by
  obtain ⟨ao, cap, rfl, hc, hr⟩ := h
  obtain ⟨b, off, rfl, hcell⟩ := hr hx
  intro j hj
  simp [Value.ownBlock] at hj
  subst hj
  exact World.block_lt_of_cell? w _ (hcell 0 (List.length_pos_iff.2 hx))
theorem ne_of_len {xs : List Int} {n : Nat} (h : xs.length = n + 1) : xs ≠ [] := fun e => by subst e; simp at h
theorem ctr_laid (X : List Nat) (hX : X.length = 12) (c : Nat) : (X ++ List.replicate 4 0).set 12 c = X ++ [c] ++ List.replicate 3 0 := by
  rw [← hX, List.set_append_right _ _ (Nat.le_refl _), Nat.sub_self, show List.replicate 4 0 = 0 :: List.replicate 3 0 from rfl, List.set_cons_zero]
  simp
set_option maxHeartbeats 800000 in
set_option maxRecDepth 100000 in
theorem firstWords_any (vk vn : Value) (key nonce : List Int) (ctr : Nat) (hk : key.length = 32) (hn : nonce.length = 12) (k8 : U8 key) (n8 : U8 nonce) (w : World) (bk : Bs .u8 w vk key) (bn : Bs .u8 w vn nonce) :
    Calls Try.prog 30 #[vk, .int .u32 ctr, vn] w fun e w' => e = .returned (.agg (wl (ccF key ctr nonce)).toArray) ∧ Only (fun _ => False) w w' := by
  have hzv := (zero_of_info (P := Try.prog) Try.zero44).1
  obtain ⟨Z, hZ⟩ : ∃ Z, Z = zW := ⟨_, rfl⟩
  rw [← hZ] at hzv
  have HZ := hideIt hZ
  clear hZ
  obtain ⟨D, hD'⟩ : ∃ D, D = wl (ccF key ctr nonce) := ⟨_, rfl⟩
  rw [← hD']
  have HD := hideIt hD'
  clear hD'
  go_enter Try.func30, Try.ntmps30
  go_wp2_with (first | (refine wpList_build_as rfl 41 _ rfl (wl (ccW ++ List.replicate 12 0)).toArray (by kernel_rfl) ?_) | (refine wpList_store_row rfl 41 (.tmp 7) (.tmp 8) rfl (w.heap.size + 1) (wl (ccW ++ List.replicate 12 0)).toArray rfl rfl 41 Z.toArray (heap_alloc2_new w _ _) Try.size44 (by rw [HZ.out]; rfl) (wl_all _) ?_))
  have B1 : Hid (Blk (((w.alloc (.cells Z.toArray 41)).alloc (.cells Z.toArray 41)).setRow (w.heap.size + 1) (wl (ccW ++ [0, 0, 0, 0, 0, 0, 0, 0, 0, 0, 0, 0])).toArray) (w.heap.size + 1) 41 (wl (ccW ++ List.replicate 8 0 ++ List.replicate 4 0))) := by
    have h := Blk.new (w.alloc (.cells Z.toArray 41)) 41 Z
    rw [size_alloc] at h
    exact h.row (wl (ccW ++ [0, 0, 0, 0, 0, 0, 0, 0, 0, 0, 0, 0]))
  have O1 : Hid (Only (fun _ => False) w (((w.alloc (.cells Z.toArray 41)).alloc (.cells Z.toArray 41)).setRow (w.heap.size + 1) (wl (ccW ++ [0, 0, 0, 0, 0, 0, 0, 0, 0, 0, 0, 0])).toArray)) :=
    (((Only.refl _ _).alloc _).alloc _).setRow (fun h => absurd h (by omega)) _
  have R1 : Hid (Blk (((w.alloc (.cells Z.toArray 41)).alloc (.cells Z.toArray 41)).setRow (w.heap.size + 1) (wl (ccW ++ [0, 0, 0, 0, 0, 0, 0, 0, 0, 0, 0, 0])).toArray) w.heap.size 41 Z) := by
    have h := (Blk.new w 41 Z).alloc (.cells Z.toArray 41)
    exact h.keep ((Only.refl (fun k => k = w.heap.size + 1) _).setRow (fun _ => rfl) _) (by omega)
  obtain ⟨G, hG⟩ : ∃ G, G = w.heap.size + 1 := ⟨_, rfl⟩
  obtain ⟨R, hR⟩ : ∃ R, R = w.heap.size := ⟨_, rfl⟩
  have HG : Hid (w.heap.size ≤ G ∧ w.heap.size ≤ R ∧ R ≠ G) := ⟨by omega, by omega, by omega⟩
  rw [← hG] at B1 O1 R1 ⊢
  rw [← hR] at R1 ⊢
  obtain ⟨Y, hY⟩ : ∃ Y, Y = wl (ccW ++ [0, 0, 0, 0, 0, 0, 0, 0, 0, 0, 0, 0]) := ⟨_, rfl⟩
  rw [← hY] at B1 O1 R1 ⊢
  obtain ⟨W1, hW1⟩ : ∃ W1, W1 = ((w.alloc (.cells Z.toArray 41)).alloc (.cells Z.toArray 41)).setRow G Y.toArray := ⟨_, rfl⟩
  rw [← hW1] at B1 O1 R1 ⊢
  clear hW1 hY hG hR hzv
  refine (layWords_any G 4 8 12 ccW (List.replicate 8 0) (List.replicate 4 0) vk key rfl rfl hk (by decide) k8 W1 (bk.past O1.out) (fun k hk2 e => by have := bk.blk_lt (ne_of_len hk) k hk2; have := HG.out.1; omega) B1.out).mono ?_
  rintro e w2 ⟨rfl, b2, o2⟩
  have hc : w2.cell? ⟨G, 12, none⟩ = some (.int .u32 (((ccW ++ ldW key 8 ++ List.replicate 4 0).getD 12 0 : Nat) : Int)) := by rw [b2.cell, wl_at _ _ (by simp [ccW, ldW_len])]
  obtain ⟨z, hz⟩ : ∃ z, z = (ccW ++ ldW key 8 ++ List.replicate 4 0).getD 12 0 := ⟨_, rfl⟩
  rw [← hz] at hc
  have hf := b2.froz 12
  have B2 : Hid (Blk (w2.setCell ⟨G, 12, none⟩ (.int .u32 (ctr : Int))) G 41 (wl ((ccW ++ ldW key 8 ++ [ctr]) ++ List.replicate 3 0 ++ []))) := by
    have h := b2.set 12 (.int .u32 (ctr : Int))
    rw [wl_set, ctr_laid _ (by simp [ccW, ldW_len])] at h
    rw [List.append_nil]
    exact h
  have oc := (Only.refl (fun k => k = G) w2).setCell (p := ⟨G, 12, none⟩) (fun _ => rfl) (.int .u32 (ctr : Int))
  have R2 := hideIt ((R1.out.keep o2 HG.out.2.2).keep oc HG.out.2.2)
  have O2 := hideIt ((O1.out.trans o2 (fun i hi e => by have := HG.out.1; omega)).trans oc (fun i hi e => by have := HG.out.1; omega))
  clear hz b2 o2 oc B1 O1 R1
  go_wp2_with fail
  obtain ⟨W2, hW2⟩ : ∃ W2, W2 = w2.setCell ⟨G, 12, none⟩ (.int .u32 (ctr : Int)) := ⟨_, rfl⟩
  rw [← hW2] at B2 R2 O2 ⊢
  clear hW2 hc hf
  refine (layWords_any G 13 3 3 (ccW ++ ldW key 8 ++ [ctr]) (List.replicate 3 0) [] vn nonce (by simp [ccW, ldW_len]) rfl hn (by decide) n8 W2 (bn.past O2.out) (fun k hk2 e => by have := bn.blk_lt (ne_of_len hn) k hk2; have := HG.out.1; omega) B2.out).mono ?_
  rintro e w3 ⟨rfl, b3, o3⟩
  rw [List.append_nil] at b3
  have hD := HD.out
  have B3 : Hid (Blk w3 G 41 D) := by
    show Blk _ _ _ _
    rw [hD]; exact b3
  have R3 := hideIt (R2.out.keep o3 HG.out.2.2)
  have O3 := hideIt (O2.out.trans o3 (fun i hi e => by have := HG.out.1; omega))
  have HZ1 : Hid ((Try.prog.info? 41).map (·.size) = some D.toArray.size) := by
    show _ = _
    rw [hD]; simp [wl_len, ccF_len, Try.size44]
  have HZ2 : Hid (Z.toArray.size = D.toArray.size) := by
    show _ = _
    rw [hD, HZ.out]; simp [wl_len, ccF_len, zW_len]
  have HA : Hid (D.toArray.all (·.oneCell') = true) := by
    show _ = _
    rw [hD]; exact wl_all _
  clear hD b3 o3 B2 R2 O2
  go_wp2_with (first | (refine wpList_load_row rfl 41 (.tmp 7) rfl G rfl 41 D.toArray (0, 0) _ B3.out Try.underlying41 rfl HZ1.out ?_) | (refine wpList_store_row rfl 41 (.tmp 6) (.tmp 17) rfl R D.toArray rfl rfl 41 Z.toArray R3.out HZ1.out HZ2.out HA.out ?_))
  refine bodyPost_ret (v := .agg D.toArray) (results_cell_row rfl _ _ R 41 D.toArray (0, 0) _ rfl (R3.out.row D) Try.underlying41 rfl HZ1.out) rfl ⟨rfl, ?_⟩
  exact O3.out.setRow (fun h => absurd h (by have := HG.out.2.1; omega)) _
end Go.Proofs.Ytjiippbjflpkkaa
