/- multiplier: r, which lacks some bits. -/
import Derived.Test.YtjiippbjflpkkaaNu
import Derived.Laws.CopyOwn
namespace Go.Proofs.Ytjiippbjflpkkaa
open Go.RowKit

theorem getD_setI (s : List Int) (i j : Nat) (x : Int) : (s.set i x).getD j 0 = if i = j ∧ i < s.length then x else s.getD j 0 := by
  simp only [List.getD_eq_getElem?_getD, List.getElem?_set]
  by_cases h : i = j
  · subst h
    by_cases h2 : i < s.length
    · simp [h2]
    · simp [h2]
  · simp [h]
/-- four bits at the top taken away, j times -/
def c1 (xs : List Int) : Nat → List Int
  | 0 => xs
  | j + 1 => (c1 xs j).set (4 * j + 3) ((c1 xs j).getD (4 * j + 3) 0 % 16)
/-- then two bits at the bottom -/
def c2 (xs : List Int) : Nat → List Int
  | 0 => c1 xs 4
  | j + 1 => (c2 xs j).set (4 * j + 4) ((c2 xs j).getD (4 * j + 4) 0 - (c2 xs j).getD (4 * j + 4) 0 % 4)
theorem c1_len (xs : List Int) (j : Nat) : (c1 xs j).length = xs.length := by
  induction j with
  | zero => rfl
  | succ j ih => rw [c1, List.length_set, ih]
theorem c2_len (xs : List Int) (j : Nat) : (c2 xs j).length = xs.length := by
  induction j with
  | zero => exact c1_len xs 4
  | succ j ih => rw [c2, List.length_set, ih]
theorem c1_u8 (xs : List Int) (h : U8 xs) (j : Nat) : U8 (c1 xs j) := by
  induction j with
  | zero => exact h
  | succ j ih => exact ih.set _ _ (by have := ih.at (4 * j + 3); omega)
theorem c2_u8 (xs : List Int) (h : U8 xs) (j : Nat) : U8 (c2 xs j) := by
  induction j with
  | zero => exact c1_u8 xs h 4
  | succ j ih => exact ih.set _ _ (by have := ih.at (4 * j + 4); omega)
theorem c1_at (xs : List Int) (hl : xs.length = 16) (j : Nat) (hj : j ≤ 4) (i : Nat) : (c1 xs j).getD i 0 = if i % 4 = 3 ∧ i / 4 < j then xs.getD i 0 % 16 else xs.getD i 0 := by
  induction j with
  | zero => simp [c1]
  | succ j ih =>
    rw [c1, getD_setI, c1_len, hl]
    by_cases h : 4 * j + 3 = i
    · subst h
      rw [if_pos ⟨rfl, by omega⟩, ih (by omega), if_neg (by omega), if_pos (by omega)]
    · rw [if_neg (fun e => h e.1), ih (by omega)]
      by_cases h2 : i % 4 = 3 ∧ i / 4 < j
      · rw [if_pos h2, if_pos (by omega)]
      · rw [if_neg h2, if_neg (by omega)]
theorem c2_at (xs : List Int) (hl : xs.length = 16) (j : Nat) (hj : j ≤ 3) (i : Nat) (hi : i < 16) : (c2 xs j).getD i 0 = if i % 4 = 3 then xs.getD i 0 % 16 else if i % 4 = 0 ∧ 0 < i ∧ i / 4 ≤ j then xs.getD i 0 - xs.getD i 0 % 4 else xs.getD i 0 := by
  induction j with
  | zero =>
    rw [c2, c1_at xs hl 4 (by decide)]
    by_cases h : i % 4 = 3
    · rw [if_pos (by omega), if_pos h]
    · rw [if_neg (by omega), if_neg h, if_neg (by omega)]
  | succ j ih =>
    rw [c2, getD_setI, c2_len, hl]
    have h1 := ih (by omega)
    by_cases h : 4 * j + 4 = i
    · subst h
      rw [if_pos ⟨rfl, by omega⟩, h1, if_neg (by omega), if_neg (by omega), if_neg (by omega), if_pos (by omega)]
    · rw [if_neg (fun e => h e.1), h1]
      by_cases h2 : i % 4 = 3
      · rw [if_pos h2, if_pos h2]
      · rw [if_neg h2, if_neg h2]
        by_cases h3 : i % 4 = 0 ∧ 0 < i ∧ i / 4 ≤ j
        · rw [if_pos h3, if_pos (by omega)]
        · rw [if_neg h3, if_neg (by omega)]
theorem c2_clamp (key : List Int) (hk : 16 ≤ key.length) : c2 (key.take 16) 3 = clampD key := by
  have hl : (key.take 16).length = 16 := by rw [List.length_take]; omega
  apply List.ext_getElem
  · rw [c2_len, hl, clampD_len]
  · intro i h1 h2
    have hi : i < 16 := by rw [clampD_len] at h2; exact h2
    have e1 := c2_at (key.take 16) hl 3 (by decide) i hi
    rw [List.getD_eq_getElem?_getD, List.getElem?_eq_getElem h1] at e1
    have e2 : (key.take 16).getD i 0 = key.getD i 0 := by simp [List.getD_eq_getElem?_getD, hi]
    rw [e2] at e1
    refine Eq.trans e1 ?_
    simp only [clampD, List.getElem_map, List.getElem_range]
    by_cases h3 : i % 4 = 3
    · rw [if_pos h3, if_pos h3]
    · rw [if_neg h3, if_neg h3]
      by_cases h4 : i % 4 = 0 ∧ 0 < i
      · rw [if_pos (by omega), if_pos h4]
      · rw [if_neg (by omega), if_neg h4]
theorem and15_all : ∀ x : Fin 256, x.val &&& 15 = x.val % 16 := by decide +kernel
theorem and252_all : ∀ x : Fin 256, x.val &&& 252 = x.val - x.val % 4 := by decide +kernel
theorem and15 (x : Int) (h : 0 ≤ x ∧ x ≤ 255) : bits .and .u8 x 15 = x % 16 := by
  obtain ⟨n, rfl⟩ := Int.eq_ofNat_of_zero_le h.1
  rw [show (15 : Int) = ((15 : Nat) : Int) from rfl, u8_and_nat _ _ (by omega) (by decide), and15_all ⟨n, by omega⟩]; simp
theorem and252 (x : Int) (h : 0 ≤ x ∧ x ≤ 255) : bits .and .u8 x 252 = x - x % 4 := by
  obtain ⟨n, rfl⟩ := Int.eq_ofNat_of_zero_le h.1
  rw [show (252 : Int) = ((252 : Nat) : Int) from rfl, u8_and_nat _ _ (by omega) (by decide), and252_all ⟨n, by omega⟩]; show ((n - n % 4 : Nat) : Int) = _; omega
def z16 : List Value := bl (List.replicate 16 0)
theorem Try.zero46 : (Try.prog.info? 67).map (fun i => (i.zero, i.size)) = some (some (.agg z16.toArray), 16) := by kernel_rfl
/-- bytes copied into the head of a block of noughts -/
theorem copy_head (t : TypeId) (N cap : Nat) (v : Value) (xs : List Int) (W : World) (G L k : Nat) (hN : Blk W G t (bl (List.replicate N 0))) (hb : Bs .u8 W v xs) (hk : k = min L xs.length) (hL : L ≤ N) :
    ∃ w3, (Builtin.copy_ #[22, 22] 3 #[.slice (some ⟨G, 0, none⟩) L cap, v]).run Try.prog W = .ok (.int .i64 (k : Int)) w3 ∧ Blk w3 G t (bl (xs.take k ++ List.replicate (N - k) 0)) ∧ Only (fun k => k = G) W w3 := by
  have hb0 := hb
  obtain ⟨ao, vc, rfl, hc, hr⟩ := hb
  by_cases h0 : xs = []
  · subst h0
    simp only [List.length_nil] at hk
    obtain rfl : k = 0 := by omega
    refine ⟨W, run_copy_none (P := Try.prog) W 22 22 3 5 _ _ L cap 0 vc Try.underlying22 Try.one5 (Nat.zero_min _), ?_, Only.refl _ _⟩
    simpa using hN
  · obtain ⟨b, off, rfl, hcell⟩ := hr h0
    have hkl : (bl (xs.take k)).length = k := by rw [bl_len, List.length_take]; omega
    have hrun := run_copy_row (P := Try.prog) W 22 22 3 5 G 0 L cap ⟨b, off, none⟩ xs.length vc (bl (List.replicate N 0)).toArray t (bl (xs.take k)) Try.underlying22 Try.one5 hN
      (by rw [hkl]; exact hk.trans (Nat.min_comm _ _)) (fun j u hu => by
        have hj : j < k := by have := (List.getElem?_eq_some_iff.1 hu).1; rwa [hkl] at this
        refine hb0.news j u ?_
        rw [← hu]
        simp only [bl, List.getElem?_map, List.getElem?_take, if_pos hj]) (by rw [hkl]; simp [bl_len]; omega) (bl_one _)
    rw [show goInt ((bl (xs.take k)).length : Int) = .int .i64 (k : Int) by rw [hkl]; rfl] at hrun
    refine ⟨_, hrun, ?_, (Only.refl (fun k => k = G) W).setRow (fun _ => rfl) _⟩
    have e : bl (xs.take k ++ List.replicate (N - k) 0) = (bl (List.replicate N 0)).toArray.toList.take 0 ++ bl (xs.take k) ++ (bl (List.replicate N 0)).toArray.toList.drop (0 + (bl (xs.take k)).length) := by
      show _ = List.take 0 (bl (List.replicate N 0)) ++ bl (xs.take k) ++ List.drop (0 + (bl (xs.take k)).length) (bl (List.replicate N 0))
      rw [hkl, Nat.zero_add, List.take_zero, List.nil_append]
      unfold bl
      rw [List.map_append, List.map_replicate, List.map_replicate, List.drop_replicate]
    rw [e]
    exact hN.row _
def i4 : List Value := [.int .i64 3, .int .i64 7, .int .i64 11, .int .i64 15]
def i3 : List Value := [.int .i64 4, .int .i64 8, .int .i64 12]
theorem Try.agg3 (w : World) : (isAgg 3).run Try.prog w = .ok false w := by kernel_rfl
theorem Try.one3 : (Try.prog.info? 3).map (·.size) = some 1 := by kernel_rfl
theorem ix_i4 (j : Nat) (hj : j < 4) (w : World) : (Instr.index 68 (.agg i4.toArray) (.int .i64 j)).run Try.prog w = .ok (.int .i64 ((4 * j + 3 : Nat) : Int)) w :=
  run_index_cell 68 3 4 i4 j _ Try.underlying68 Try.agg3 Try.one3 hj (by have : j = 0 ∨ j = 1 ∨ j = 2 ∨ j = 3 := by omega
                                                                         rcases this with rfl | rfl | rfl | rfl <;> rfl) w
theorem ix_i3 (j : Nat) (hj : j < 3) (w : World) : (Instr.index 69 (.agg i3.toArray) (.int .i64 j)).run Try.prog w = .ok (.int .i64 ((4 * j + 4 : Nat) : Int)) w :=
  run_index_cell 69 3 3 i3 j _ Try.underlying69 Try.agg3 Try.one3 hj (by have : j = 0 ∨ j = 1 ∨ j = 2 := by omega
                                                                         rcases this with rfl | rfl | rfl <;> rfl) w
theorem Bs.of_bytes {w : World} {g : Nat} {E : TypeId} {s : List Int} (h : Blk w g E (bl s)) (n : Nat) (hn : s.length = n) : Bs .u8 w (.slice (some ⟨g, 0, none⟩) n n) s := by
  refine ⟨_, n, by rw [hn], by rw [hn]; exact Nat.le_refl _, fun _ => ⟨g, 0, rfl, fun j hj => ?_⟩⟩
  rw [Nat.zero_add, h.cell, bl_at s j hj]
set_option maxHeartbeats 1600000 in
set_option maxRecDepth 100000 in
theorem multiplier_any (v : Value) (xs : List Int) (hl : xs.length = 16) (h8 : U8 xs) (w : World) (hb : Bs .u8 w v xs) :
    Calls Try.prog 33 #[v] w fun e w' => e = .returned (.agg (ul (nmb (c2 xs 3))).toArray) ∧ Only (fun _ => False) w w' := by
  have hzv := (zero_of_info (P := Try.prog) Try.zero34).1
  have hzw := (zero_of_info (P := Try.prog) Try.zero46).1
  obtain ⟨Z, hZ⟩ : ∃ Z, Z = z5 := ⟨_, rfl⟩
  rw [← hZ] at hzv
  obtain ⟨Y, hY⟩ : ∃ Y, Y = z16 := ⟨_, rfl⟩
  rw [← hY] at hzw
  obtain ⟨D, hD⟩ : ∃ D, D = ul (nmb (c2 xs 3)) := ⟨_, rfl⟩
  have HZ1 : Hid ((Try.prog.info? 47).map (·.size) = some D.toArray.size ∧ Z.toArray.size = D.toArray.size ∧ D.toArray.all (·.oneCell') = true) := by
    rw [hD, hZ]
    exact ⟨ul_size _ (nmb_len _), by simp [ul_len, nmb_len, z5_len], ul_all _⟩
  rw [← hD]
  have HD := hideIt hD
  obtain ⟨W1, hW1⟩ : ∃ W1, W1 = (w.alloc (.cells Z.toArray 47)).alloc (.cells Y.toArray 67) := ⟨_, rfl⟩
  have hB1 : Blk W1 w.heap.size 47 Z := by rw [hW1]; exact (Blk.new w 47 Z).alloc _
  have hB2 : Blk W1 (w.heap.size + 1) 67 (bl (List.replicate 16 0)) := by
    have := Blk.new (w.alloc (.cells Z.toArray 47)) 67 Y
    rw [size_alloc] at this; rw [hW1]; rw [hY] at this ⊢; exact this
  have hO1 : Only (fun _ => False) w W1 := by rw [hW1]; exact ((Only.refl _ _).alloc _).alloc _
  obtain ⟨w3, hcp, hB3, hO3⟩ := copy_head 67 16 16 v xs W1 (w.heap.size + 1) 16 16 hB2 (hb.past hO1) (by rw [hl]; rfl) (Nat.le_refl _)
  obtain ⟨ao, cap, rfl⟩ := hb.len
  rw [hl] at hcp ⊢
  have K0 : Hid (Blk w3 w.heap.size 47 Z ∧ Blk w3 (w.heap.size + 1) 67 (bl (c1 xs 0)) ∧ Only (fun _ => False) w w3) := by
    refine ⟨hB1.keep hO3 (by omega), ?_, hO1.trans hO3 (fun k hk e => by omega)⟩
    have h := hB3
    rw [List.take_of_length_le (by omega), Nat.sub_self, List.replicate_zero, List.append_nil] at h
    exact h
  have H8 := hideIt (And.intro h8 hl)
  rw [hW1] at hcp
  clear hZ hY hD hW1 hB1 hB2 hO1 hB3 hO3 hb h8 hl
  go_enter Try.func33, Try.ntmps33
  go_wp2_with (first | (refine wpList_build_as rfl 68 _ rfl i4.toArray (by kernel_rfl) ?_))
  obtain ⟨G, hG⟩ : ∃ G, G = w.heap.size + 1 := ⟨_, rfl⟩
  rw [← hG] at K0 ⊢
  obtain ⟨R, hR⟩ : ∃ R, R = w.heap.size := ⟨_, rfl⟩
  have HG : Hid (w.heap.size ≤ G ∧ w.heap.size ≤ R ∧ R ≠ G) := ⟨by omega, by omega, by omega⟩
  rw [← hR] at K0 ⊢
  have X4 := hideIt ix_i4
  have X3 := hideIt ix_i3
  obtain ⟨I4, hI4⟩ : ∃ I4, I4 = i4 := ⟨_, rfl⟩
  rw [← hI4] at X4 ⊢
  clear hG hR hzv hzw hI4 hcp
  go_loopw [12] (fun i wr => ∃ n : Nat, n ≤ 4 ∧ i = .int .i64 n ∧ Blk wr R 47 Z ∧ Blk wr G 67 (bl (c1 xs n)) ∧ Only (fun _ => False) w wr) (fun i _ => 4 - (intOf i).toNat)
  case atStart => exact ⟨0, by omega, rfl, K0.out⟩
  case round =>
    obtain ⟨n, hn, rfl, k1, k2, k3⟩ := hrel
    clear K0
    by_cases hlt : n < 4
    · have hix := X4.out n hlt
      have hu := c1_u8 xs H8.out.1 n
      have hc : wr.cell? ⟨G, 4 * n + 3, none⟩ = some (.int .u8 ((c1 xs n).getD (4 * n + 3) 0)) := by
        rw [k2.cell, bl_at _ _ (by rw [c1_len, H8.out.2]; omega)]
      have hf := k2.froz (4 * n + 3)
      have hand := and15 _ (hu.at (4 * n + 3))
      have hsn : (c1 xs n).set (4 * n + 3) ((c1 xs n).getD (4 * n + 3) 0 % 16) = c1 xs (n + 1) := rfl
      obtain ⟨x, hx⟩ : ∃ x, x = (c1 xs n).getD (4 * n + 3) 0 := ⟨_, rfl⟩
      rw [← hx] at hc hand hsn
      obtain ⟨y, hy⟩ : ∃ y, y = x % 16 := ⟨_, rfl⟩
      rw [← hy] at hand hsn
      obtain ⟨p, hp⟩ : ∃ p, p = 4 * n + 3 := ⟨_, rfl⟩
      rw [← hp] at hix hc hf hsn
      have N1 : Hid (Blk (wr.setCell ⟨G, p, none⟩ (.int .u8 y)) R 47 Z ∧ Blk (wr.setCell ⟨G, p, none⟩ (.int .u8 y)) G 67 (bl (c1 xs (n + 1))) ∧ Only (fun _ => False) w (wr.setCell ⟨G, p, none⟩ (.int .u8 y))) := by
        have oc := (Only.refl (fun k => k = G) wr).setCell (p := ⟨G, p, none⟩) (fun _ => rfl) (.int .u8 y)
        refine ⟨k1.keep oc HG.out.2.2, ?_, k3.trans oc (fun i hi e => by have := HG.out.1; omega)⟩
        have h := k2.set p (.int .u8 y)
        rw [bl_set1, hsn] at h
        exact h
      have i1 : (n : Int) < 4 := by omega
      have i2 : (p : Int) < 16 := by omega
      clear k1 k2 k3 hu hsn hx hy hp
      go_wp2
      go_roundw
      case rel => exact ⟨n + 1, by omega, by go_num, N1.out⟩
      case measure => simp [intOf]; omega
    · obtain rfl : n = 4 := by omega
      have K1 : Hid (Blk wr R 47 Z ∧ Blk wr G 67 (bl (c2 xs 0)) ∧ Only (fun _ => False) w wr) := ⟨k1, k2, k3⟩
      clear k1 k2 k3
      go_wp2_with (first | (refine wpList_build_as rfl 69 _ rfl i3.toArray (by kernel_rfl) ?_))
      obtain ⟨I3, hI3⟩ : ∃ I3, I3 = i3 := ⟨_, rfl⟩
      rw [← hI3] at X3 ⊢
      clear hI3 X4
      go_loopw [22] (fun i wr => ∃ n : Nat, n ≤ 3 ∧ i = .int .i64 n ∧ Blk wr R 47 Z ∧ Blk wr G 67 (bl (c2 xs n)) ∧ Only (fun _ => False) w wr) (fun i _ => 3 - (intOf i).toNat)
      case atStart => exact ⟨0, by omega, rfl, K1.out⟩
      case round =>
        obtain ⟨n, hn, rfl, k1, k2, k3⟩ := hrel
        clear K1
        by_cases hlt : n < 3
        · have hix := X3.out n hlt
          have hu := c2_u8 xs H8.out.1 n
          have hc : wr.cell? ⟨G, 4 * n + 4, none⟩ = some (.int .u8 ((c2 xs n).getD (4 * n + 4) 0)) := by
            rw [k2.cell, bl_at _ _ (by rw [c2_len, H8.out.2]; omega)]
          have hf := k2.froz (4 * n + 4)
          have hand := and252 _ (hu.at (4 * n + 4))
          have hsn : (c2 xs n).set (4 * n + 4) ((c2 xs n).getD (4 * n + 4) 0 - (c2 xs n).getD (4 * n + 4) 0 % 4) = c2 xs (n + 1) := rfl
          obtain ⟨x, hx⟩ : ∃ x, x = (c2 xs n).getD (4 * n + 4) 0 := ⟨_, rfl⟩
          rw [← hx] at hc hand hsn
          obtain ⟨y, hy⟩ : ∃ y, y = x - x % 4 := ⟨_, rfl⟩
          rw [← hy] at hand hsn
          obtain ⟨p, hp⟩ : ∃ p, p = 4 * n + 4 := ⟨_, rfl⟩
          rw [← hp] at hix hc hf hsn
          have N1 : Hid (Blk (wr.setCell ⟨G, p, none⟩ (.int .u8 y)) R 47 Z ∧ Blk (wr.setCell ⟨G, p, none⟩ (.int .u8 y)) G 67 (bl (c2 xs (n + 1))) ∧ Only (fun _ => False) w (wr.setCell ⟨G, p, none⟩ (.int .u8 y))) := by
            have oc := (Only.refl (fun k => k = G) wr).setCell (p := ⟨G, p, none⟩) (fun _ => rfl) (.int .u8 y)
            refine ⟨k1.keep oc HG.out.2.2, ?_, k3.trans oc (fun i hi e => by have := HG.out.1; omega)⟩
            have h := k2.set p (.int .u8 y)
            rw [bl_set1, hsn] at h
            exact h
          have i1 : (n : Int) < 3 := by omega
          have i2 : (p : Int) < 16 := by omega
          clear k1 k2 k3 hu hsn hx hy hp
          go_wp2
          go_roundw
          case rel => exact ⟨n + 1, by omega, by go_num, N1.out⟩
          case measure => simp [intOf]; omega
        · obtain rfl : n = 3 := by omega
          have A := hideIt (numberOf_any _ (c2 xs 3) (by rw [c2_len, H8.out.2]; decide) (c2_u8 xs H8.out.1 3) wr (Bs.of_bytes k2 16 (by rw [c2_len, H8.out.2])))
          rw [← HD.out] at A
          have R1 := hideIt k1
          have O1 := hideIt k3
          clear k1 k2 k3
          go_wp2_with fail
          refine A.out.mono ?_
          rintro e w1 ⟨rfl, o1⟩
          have R2 := hideIt (R1.out.past o1)
          have O2 := hideIt (O1.out.same o1)
          clear o1 R1 O1 A
          go_wp2_with (first | (refine wpList_store_row rfl 47 (.tmp 2) (.tmp 32) rfl R D.toArray rfl rfl 47 Z.toArray R2.out HZ1.out.1 HZ1.out.2.1 HZ1.out.2.2 ?_))
          refine bodyPost_ret (v := .agg D.toArray) (results_cell_row rfl _ _ R 47 D.toArray (0, 0) _ rfl (R2.out.row D) Try.underlying47 rfl HZ1.out.1) rfl ⟨rfl, ?_⟩
          exact O2.out.setRow (fun h => absurd h (by have := HG.out.2.1; omega)) _
end Go.Proofs.Ytjiippbjflpkkaa
