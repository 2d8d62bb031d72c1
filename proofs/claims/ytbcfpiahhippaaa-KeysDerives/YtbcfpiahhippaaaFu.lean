/- What a key is filled up to, in memory. -/
import Derived.Test.YtbcfpiahhippaaaSu
import Derived.Test.YtbcfpiahhippaaaHm
namespace Go.Proofs.Ytbcfpiahhippaaa
open Go.RowKit


def z64 : List Value := bl (List.replicate 64 0)
theorem Try.zero42h : (Try.prog.info? 50).map (fun i => (i.zero, i.size)) = some (some (.agg z64.toArray), 64) := by kernel_rfl
/-- bytes copied into a block of 64 -/
theorem copy_into (v : Value) (xs : List Int) (W : World) (G : Nat) (hN : Blk W G 50 z64) (hb : Bs .u8 W v xs) (hl : xs.length ≤ 64) :
    ∃ w3, (Builtin.copy_ #[22, 22] 3 #[.slice (some ⟨G, 0, none⟩) 64 64, v]).run Try.prog W = .ok (.int .i64 (xs.length : Int)) w3 ∧ Blk w3 G 50 (bl (xs ++ List.replicate (64 - xs.length) 0)) ∧ Only (fun k => k = G) W w3 := by
  have hb0 := hb
  obtain ⟨ao, cap, rfl, hc, hr⟩ := hb
  by_cases h0 : xs = []
  · subst h0
    exact ⟨W, run_copy_none (P := Try.prog) W 22 22 3 5 _ _ 64 64 0 cap Try.underlying22 Try.one5 rfl, hN, Only.refl _ _⟩
  · obtain ⟨b, off, rfl, hcell⟩ := hr h0
    have hrun := run_copy_row (P := Try.prog) W 22 22 3 5 G 0 64 64 ⟨b, off, none⟩ xs.length cap z64.toArray 50 (bl xs) Try.underlying22 Try.one5 hN
      (by rw [bl_len]; exact (Nat.min_eq_left hl).symm) hb0.news (by rw [bl_len]; simp [z64, bl_len]; omega) (bl_one _)
    rw [show goInt ((bl xs).length : Int) = .int .i64 (xs.length : Int) by rw [bl_len]; rfl] at hrun
    refine ⟨_, hrun, ?_, (Only.refl (fun k => k = G) W).setRow (fun _ => rfl) _⟩
    have e : bl (xs ++ List.replicate (64 - xs.length) 0) = z64.toArray.toList.take 0 ++ bl xs ++ z64.toArray.toList.drop (0 + (bl xs).length) := by
      show _ = List.take 0 z64 ++ bl xs ++ List.drop (0 + (bl xs).length) z64
      rw [bl_len, Nat.zero_add, List.take_zero, List.nil_append]
      unfold z64 bl
      rw [List.map_append, List.map_replicate, List.map_replicate, List.drop_replicate]
    rw [e]
    exact hN.row _
/-- the cells of a key that is filled up -/
theorem pad64_cells (xs : List Int) : bl (keyS xs ++ List.replicate (64 - (keyS xs).length) 0) = bl (pad64 xs) := rfl

set_option maxHeartbeats 800000 in
set_option maxRecDepth 100000 in
theorem filled_short (v : Value) (xs : List Int) (w : World) (hb : Bs .u8 w v xs) (hl : xs.length ≤ 64) :
    Calls Try.prog 37 #[v] w fun e w' => e = .returned (.agg (bl (pad64 xs)).toArray) ∧ Only (fun _ => False) w w' := by
  have hk : keyS xs = xs := if_neg (by omega)
  have hzv := (zero_of_info (P := Try.prog) Try.zero42h).1
  obtain ⟨Z, hZ⟩ : ∃ Z, Z = z64 := ⟨_, rfl⟩
  rw [← hZ] at hzv
  obtain ⟨W1, hW1⟩ : ∃ W1, W1 = (w.alloc (.cells Z.toArray 50)).alloc (.cells Z.toArray 50) := ⟨_, rfl⟩
  have hN1 : Blk W1 w.heap.size 50 Z := by rw [hW1]; exact (Blk.new w 50 Z).alloc _
  have hN2 : Blk W1 (w.heap.size + 1) 50 Z := by
    have := Blk.new (w.alloc (.cells Z.toArray 50)) 50 Z
    rw [size_alloc] at this; rw [hW1]; exact this
  have hO1 : Only (fun _ => False) w W1 := by rw [hW1]; exact ((Only.refl _ _).alloc _).alloc _
  obtain ⟨w3, hcp, hB3, hO3⟩ := copy_into v xs W1 (w.heap.size + 1) (by rw [← hZ]; exact hN2) (hb.past hO1) hl
  have hp : bl (xs ++ List.replicate (64 - xs.length) 0) = bl (pad64 xs) := by unfold pad64; rw [hk]
  rw [hp] at hB3
  obtain ⟨C, hC⟩ : ∃ C, C = bl (pad64 xs) := ⟨_, rfl⟩
  have hCl : C.length = 64 := by rw [hC, bl_len, pad64_len]
  rw [← hC] at hB3 ⊢
  have H3 := hideIt hB3
  have H2 := hideIt (hN1.keep hO3 (by omega))
  have HO := hideIt (hO1.trans hO3 (fun k hk e => by omega))
  have HSZ : Hid ((Try.prog.info? 50).map (·.size) = some C.toArray.size) := by
    show _ = _
    rw [List.size_toArray, hCl]; exact Try.size31
  have HZ2 : Hid (Z.toArray.size = C.toArray.size) := by
    show _ = _
    rw [List.size_toArray, List.size_toArray, hCl, hZ]; simp [z64, bl_len]
  have HA : Hid (C.toArray.all (·.oneCell') = true) := by
    show _ = _
    rw [hC]; exact all_oneCell_toArray (bl_one _)
  obtain ⟨ao, cap, rfl⟩ := hb.len
  obtain ⟨m, hm⟩ : ∃ m, m = xs.length := ⟨_, rfl⟩
  rw [← hm] at hcp ⊢
  have d1 : decide ((64 : Int) < (m : Int)) = false := decide_eq_false (by omega)
  have d1' : decide (64 < m) = false := decide_eq_false (by omega)
  rw [hW1] at hcp
  clear hZ hW1 hN1 hN2 hO1 hB3 hO3 hp hC hCl hm hb hk hl
  go_enter Try.func37, Try.ntmps37
  go_wp2_with (first | (refine wpList_load_row rfl 50 (.tmp 3) rfl (w.heap.size + 1) rfl 50 C.toArray (0, 0) _ H3.out Try.underlying50 rfl HSZ.out ?_) | (refine wpList_store_row rfl 50 (.tmp 2) (.tmp 12) rfl w.heap.size C.toArray rfl rfl 50 Z.toArray H2.out HSZ.out HZ2.out HA.out ?_))
  refine bodyPost_ret (v := .agg C.toArray) (results_cell_row rfl _ _ w.heap.size 50 C.toArray (0, 0) _ rfl (setRow_heap _ _ _ _ 50 _ H2.out) Try.underlying50 rfl HSZ.out) rfl ⟨rfl, ?_⟩
  exact HO.out.setRow (fun h => absurd h (Nat.lt_irrefl _)) _

set_option maxHeartbeats 800000 in
set_option maxRecDepth 100000 in
theorem filled_long (v : Value) (xs : List Int) (w : World) (hb : Bs .u8 w v xs) (h8 : U8 xs) (hl : 64 < xs.length) (hl2 : xs.length ≤ 100000000000) :
    Calls Try.prog 37 #[v] w fun e w' => e = .returned (.agg (bl (pad64 xs)).toArray) ∧ Only (fun _ => False) w w' := by
  have hk : keyS xs = SHA xs := if_pos hl
  have hzv := (zero_of_info (P := Try.prog) Try.zero42h).1
  obtain ⟨Z, hZ⟩ : ∃ Z, Z = z64 := ⟨_, rfl⟩
  rw [← hZ] at hzv
  obtain ⟨C, hC⟩ : ∃ C, C = bl (pad64 xs) := ⟨_, rfl⟩
  have hCl : C.length = 64 := by rw [hC, bl_len, pad64_len]
  have hp : bl (SHA xs ++ List.replicate (64 - (SHA xs).length) 0) = C := by rw [hC]; unfold pad64; rw [hk]
  have HP := hideIt hp
  rw [← hC]
  have HSZ : Hid ((Try.prog.info? 50).map (·.size) = some C.toArray.size) := by
    show _ = _
    rw [List.size_toArray, hCl]; exact Try.size31
  have HZ2 : Hid (Z.toArray.size = C.toArray.size) := by
    show _ = _
    rw [List.size_toArray, List.size_toArray, hCl, hZ]; simp [z64, bl_len]
  have HA : Hid (C.toArray.all (·.oneCell') = true) := by
    show _ = _
    rw [hC]; exact all_oneCell_toArray (bl_one _)
  have hO1 : Only (fun _ => False) w (w.alloc (.cells Z.toArray 50)) := (Only.refl _ _).alloc _
  have SU := hideIt (ssum_bs v xs (w.alloc (.cells Z.toArray 50)) (hb.past hO1) h8 hl2)
  have HN1 := hideIt (Blk.new w 50 Z)
  have HO1 := hideIt hO1
  have HZ := hideIt hZ
  obtain ⟨ao, cap, rfl⟩ := hb.len
  obtain ⟨m, hm⟩ : ∃ m, m = xs.length := ⟨_, rfl⟩
  rw [← hm] at SU ⊢
  have d1 : decide ((64 : Int) < (m : Int)) = true := decide_eq_true (by omega)
  have d1' : decide (64 < m) = true := decide_eq_true (by omega)
  clear hZ hO1 hp hC hCl hm hb hk hl h8 hl2
  go_enter Try.func37, Try.ntmps37
  go_wp2_with fail
  refine SU.out.mono ?_
  rintro e w2 ⟨v2, rfl, own2, on2⟩
  have b2 : Bs .u8 w2 v2 (SHA xs) := Bs.of_own (by rw [SHA_len]; exact own2)
  obtain ⟨G, hG⟩ : ∃ G, G = w2.heap.size := ⟨_, rfl⟩
  have hN2 : Blk (w2.alloc (.cells Z.toArray 50)) G 50 Z := by rw [hG]; exact Blk.new w2 50 Z
  obtain ⟨w3, hcp, hB3, hO3⟩ := copy_into v2 (SHA xs) (w2.alloc (.cells Z.toArray 50)) G (by rw [← HZ.out]; exact hN2) (b2.past ((Only.refl _ _).alloc _)) (by rw [SHA_len]; decide)
  rw [HP.out] at hB3
  have hlt := HN1.out.lt
  have hs2 := on2.size
  have H3 := hideIt hB3
  have H2 := hideIt (((HN1.out.past on2).alloc (.cells Z.toArray 50)).keep hO3 (by omega))
  have HO := hideIt (((HO1.out.same on2).alloc (.cells Z.toArray 50)).trans hO3 (fun k hk e => by have := HO1.out.size; omega))
  obtain ⟨ao2, cap2, e2⟩ := b2.len
  subst e2
  rw [hG] at hcp H3
  clear hB3 hO3 hN2 own2 on2 b2 SU hG hlt hs2 HN1 HO1 HZ
  go_wp2_with (first | (refine wpList_load_row rfl 50 (.tmp 3) rfl w2.heap.size rfl 50 C.toArray (0, 0) _ H3.out Try.underlying50 rfl HSZ.out ?_) | (refine wpList_store_row rfl 50 (.tmp 2) (.tmp 12) rfl w.heap.size C.toArray rfl rfl 50 Z.toArray H2.out HSZ.out HZ2.out HA.out ?_))
  refine bodyPost_ret (v := .agg C.toArray) (results_cell_row rfl _ _ w.heap.size 50 C.toArray (0, 0) _ rfl (setRow_heap _ _ _ _ 50 _ H2.out) Try.underlying50 rfl HSZ.out) rfl ⟨rfl, ?_⟩
  exact HO.out.setRow (fun h => absurd h (Nat.lt_irrefl _)) _
theorem filled_any (v : Value) (xs : List Int) (w : World) (hb : Bs .u8 w v xs) (h8 : U8 xs) (hl2 : xs.length ≤ 100000000000) :
    Calls Try.prog 37 #[v] w fun e w' => e = .returned (.agg (bl (pad64 xs)).toArray) ∧ Only (fun _ => False) w w' := by
  by_cases h : 64 < xs.length
  · exact filled_long v xs w hb h8 h hl2
  · exact filled_short v xs w hb (by omega)
end Go.Proofs.Ytbcfpiahhippaaa
