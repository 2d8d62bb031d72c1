/- A state's words as bytes. -/
import Derived.Test.YtnifflnhbpfmnaaAr
namespace Go.Proofs.Ytnifflnhbpfmnaa
open Go.RowKit

theorem ix_w8 (s : List Nat) (hs : s.length = 8) (j : Nat) (hj : j < 8) (w : World) : (Instr.index 58 (.agg (wl s).toArray) (.int .i64 j)).run Try.prog w = .ok (.int .u32 ((s.getD j 0 : Nat) : Int)) w :=
  run_index_cell 58 57 8 (wl s) j _ Try.underlying58 Try.agg29 Try.one29 hj (wl_at s j (by omega)) w
theorem ix_w64 (s : List Nat) (hs : s.length = 64) (j : Nat) (hj : j < 64) (w : World) : (Instr.index 80 (.agg (wl s).toArray) (.int .i64 j)).run Try.prog w = .ok (.int .u32 ((s.getD j 0 : Nat) : Int)) w :=
  run_index_cell 80 57 64 (wl s) j _ Try.underlying80 Try.agg29 Try.one29 hj (wl_at s j (by omega)) w
theorem ix_b64 (s : List Int) (hs : s.length = 64) (j : Nat) (hj : j < 64) (w : World) : (Instr.index 59 (.agg (bl s).toArray) (.int .i64 j)).run Try.prog w = .ok (.int .u8 (s.getD j 0)) w :=
  run_index_cell 59 5 64 (bl s) j _ Try.underlying59 Try.agg5 Try.one5 hj (bl_at s j (by omega)) w
theorem flat_next (s : List Nat) (j : Nat) (h : j < s.length) : (s.take (j + 1)).flatMap be4 = (s.take j).flatMap be4 ++ be4 (s.getD j 0) := by
  rw [take_nextN s j h, List.flatMap_append]; simp
theorem be4_bytes (x : Nat) : be4 x = [((x / 16777216 % 256 : Nat) : Int), ((x / 65536 % 256 : Nat) : Int), ((x / 256 % 256 : Nat) : Int), ((x % 256 : Nat) : Int)] := by
  have : List.range 4 = [0, 1, 2, 3] := rfl
  unfold be4
  rw [this]
  simp
def z32 : List Value := bl (List.replicate 32 0)
theorem mk32 (w : World) : (Instr.makeSlice 22 (.int .i64 0) (.int .i64 32)).run Try.prog w = .ok (.slice (some ⟨w.heap.size, 0, none⟩) 0 32) (w.alloc (.cells z32.toArray 5)) := by kernel_rfl

set_option maxHeartbeats 800000 in
set_option maxRecDepth 100000 in
theorem bytesOf_any (s : List Nat) (hs : s.length = 8) (w : World) : Calls Try.prog 62 #[.agg (wl s).toArray] w fun e w' => ∃ v, e = .returned v ∧ w'.ownsRow w.heap.size 5 1 v 32 ((s.flatMap be4).map (Value.int .u8)) ∧ Only (fun _ => False) w w' := by
  obtain ⟨i0, hi, hz0, hz1, hz2⟩ := info_parts Try.infoU8
  have HX := hideIt (ix_w8 s hs)
  have FX := hideIt (flat_next s)
  have HF : Hid ((s.take 8).flatMap be4 = s.flatMap be4) := by rw [List.take_of_length_le (by omega)]; rfl
  have HL := hideIt hs
  have hmk := mk32
  generalize hC : (wl s).toArray = C at *
  have hsz : (Try.prog.info? 58).map (·.size) = some C.size := by rw [← hC]; simp [wl_len, hs, Try.size30]
  have HSZ := hideIt hsz
  clear hC hs hsz
  go_enter Try.func62, Try.ntmps62
  go_wp2_with (refine wpList_load_row rfl 58 _ rfl w.heap.size rfl 58 C (0, 0) _ (heap_alloc2_old w _ _) Try.underlying58 rfl HSZ.out ?_)
  obtain ⟨F, hF⟩ : ∃ F : Nat → List Value, F = fun j => ((s.take j).flatMap be4).map (Value.int .u8) := ⟨_, rfl⟩
  have F0 : Hid (F 0 = []) := by rw [hF]; rfl
  have F8 : Hid (F 8 = (s.flatMap be4).map (Value.int .u8)) := by rw [hF, ← HF.out]; rfl
  have FN : Hid (∀ j, j < 8 → F (j + 1) = F j ++ (be4 (s.getD j 0)).map (Value.int .u8)) := fun j hj => by
    rw [hF]; simp only; rw [FX.out j (by rw [HL.out]; exact hj), List.map_append]
  clear hF FX HF
  go_loopw [3, 8] (fun o i wr => ∃ j : Nat, j ≤ 8 ∧ i = .int .i64 j ∧ wr.ownsRow w.heap.size 5 1 o (4 * j) (F j) ∧ Only (fun _ => False) w wr) (fun _ i _ => 8 - (intOf i).toNat)
  case atStart =>
    refine ⟨0, by omega, rfl, ?_, ((Only.refl _ _).alloc _).alloc _⟩
    rw [F0.out]
    have := World.ownsRow_made (base := w.heap.size) (e := 5) (size := 1) (w.alloc (.cells C 58)) z32.toArray 32 ((Only.refl (fun _ => False) w).alloc _).size (by decide) rfl
    rw [size_alloc] at this
    exact this
  case round =>
    obtain ⟨j, hj, rfl, hown, hon⟩ := hrel
    have hsz := hon.size
    have HON := hideIt hon
    have HOWN := hideIt hown
    clear hon hown
    by_cases hlt : j < 8
    · obtain ⟨x, hx⟩ : ∃ x, x = s.getD j 0 := ⟨_, rfl⟩
      have hix := HX.out j hlt
      have hfn := FN.out j hlt
      rw [← hx] at hix hfn
      have HFN := hideIt hfn
      have i1 : (j : Int) < 8 := by omega
      clear hx hfn
      have BL := hideIt (Bs.litN .u8 wr 5 [(x : Int) / 16777216 % 256, (x : Int) / 65536 % 256, (x : Int) / 256 % 256, (x : Int) % 256] _ _ rfl rfl)
      go_wp2_with (at_builtin; refine wpList_append_bs _ rfl _ _ 22 rfl w.heap.size 5 i0 (.int .u8 0) 1 Try.underlying22 hi hz0 hz1 hz2 rfl _ (4 * j) (F j) rfl (HOWN.out.alloc _) .u8 _ [(x : Int) / 16777216 % 256, (x : Int) / 65536 % 256, (x : Int) / 256 % 256, (x : Int) % 256] rfl BL.out (NoCap.some _ _ _) (by simp [maxLen]; omega) (by simp; omega) (by simp; omega) ?_; intro v' w2 hown' hgrow2 hnil2 hob2)
      have N1 : Hid (w2.ownsRow w.heap.size 5 1 v' (4 * (j + 1)) (F (j + 1))) := by
        rw [HFN.out, be4_bytes]; exact hown'
      have N2 : Hid (Only (fun _ => False) w w2) := (HON.out.alloc _).grown hgrow2 (fun k hk e => by have := HOWN.out.lt k e; omega)
      clear hown' hgrow2 hnil2 hob2 HOWN HON BL HFN
      go_wp2
      go_roundw
      case rel => exact ⟨j + 1, by omega, by go_num, N1.out, N2.out⟩
      case measure => simp [intOf]; omega
    · go_wp2
      go_ret
      obtain rfl : j = 8 := by omega
      rw [F8.out] at HOWN
      exact ⟨_, rfl, HOWN.out, HON.out⟩
end Go.Proofs.Ytnifflnhbpfmnaa
