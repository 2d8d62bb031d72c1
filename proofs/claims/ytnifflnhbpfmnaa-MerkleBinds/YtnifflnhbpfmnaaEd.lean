/- What stands behind so many bytes. -/
import Derived.Test.YtnifflnhbpfmnaaBo
namespace Go.Proofs.Ytnifflnhbpfmnaa
open Go.RowKit

/-- what stands behind n bytes -/
def endS (n : Nat) : List Int := 128 :: (List.replicate (zpad n) 0 ++ be8 (8 * n))
theorem endS_len (n : Nat) : (endS n).length = 9 + zpad n := by simp [endS, be8_len]; omega
theorem padS_end (b : List Int) : padS b = b ++ endS b.length := rfl
theorem endS_mod (n : Nat) : (n + (endS n).length) % 64 = 0 := by rw [endS_len]; unfold zpad; omega
theorem zpad_eq (n : Nat) : (64 - ((n : Int) + 1 + 8) % 64) % 64 = (zpad n : Int) := by unfold zpad; omega
theorem zpad_lt (n : Nat) : zpad n < 64 := Nat.mod_lt _ (by decide)
theorem be8_take (v j : Nat) (h : j < 8) : (be8 v).take (j + 1) = (be8 v).take j ++ [((v / 256 ^ (7 - j) % 256 : Nat) : Int)] := by
  have hl := be8_len v
  rw [List.take_add_one, List.getElem?_eq_getElem (by omega)]
  simp [be8]
theorem be8_range (v : Nat) : ∀ y ∈ be8 v, 0 ≤ y ∧ y ≤ 255 := by
  intro y hy
  simp only [be8, List.mem_map] at hy
  obtain ⟨i, _, rfl⟩ := hy
  have : v / 256 ^ (7 - i) % 256 < 256 := Nat.mod_lt _ (by decide)
  omega
theorem endS_range (n : Nat) : ∀ y ∈ endS n, 0 ≤ y ∧ y ≤ 255 := by
  intro y hy
  simp only [endS, List.mem_cons, List.mem_append, List.mem_replicate] at hy
  rcases hy with rfl | ⟨_, rfl⟩ | h
  · omega
  · omega
  · exact be8_range _ y h
theorem byte8 (n k : Nat) : (n : Int) * 8 / 2 ^ (k * 8) % 256 = ((8 * n / 256 ^ k % 256 : Nat) : Int) := by
  have e : (256 : Nat) ^ k = 2 ^ (k * 8) := by rw [Nat.mul_comm, Nat.pow_mul]
  rw [e, Nat.mul_comm 8 n]
  simp
theorem set_zero (z : Nat) : ((bl (List.replicate (9 + z) 0)).set 0 (.int .u8 128)).take (1 + z) = (128 :: (List.replicate z 0 ++ (be8 0).take 0)).map (Value.int .u8) := by
  rw [show 9 + z = (z + 8) + 1 by omega, List.replicate_succ, show 1 + z = z + 1 by omega]
  unfold bl
  rw [List.map_cons, List.set_cons_zero, List.take_succ_cons, ← List.map_take, List.take_replicate, show min z (z + 8) = z by omega]
  simp
theorem own_of_blkc {w : World} {base g : Nat} {E : TypeId} {cs : List Value} {n cap : Nat} (h : Blk w g E cs) (hb : base ≤ g) (hn : n ≤ cap) (hm : cap ≤ maxLen) (hc : cs.length = cap) :
    w.ownsRow base E 1 (.slice (some ⟨g, 0, none⟩) n cap) n (cs.take n) :=
  ⟨by simp; omega, .inr ⟨g, cap, cs.toArray, rfl, hb, h, hn, hm, by simpa using hc, by simp⟩⟩

theorem mk_some (w : World) (l c : Nat) (hl : l ≤ c) (hc : c ≤ 1000) :
    ∃ w1, (Instr.makeSlice 22 (.int .i64 (l : Int)) (.int .i64 (c : Int))).run Try.prog w = .ok (.slice (some ⟨w.heap.size, 0, none⟩) l c) w1 ∧ Blk w1 w.heap.size 5 (bl (List.replicate c 0)) ∧ Only (fun _ => False) w w1 := by
  obtain ⟨i0, hi, hz0, hz1, hz2⟩ := info_parts Try.infoU8
  have := run_make (P := Try.prog) w 22 5 i0 (.int .u8 0) Try.underlying22 hi hz0 .i64 .i64 l c (by omega) (by omega) (by rw [hz2]; omega) (by omega)
  refine ⟨_, this, ?_, (Only.refl _ _).alloc _⟩
  have e : madeCells (Value.int .u8 0).cells ((c : Int).toNat * i0.size) = (bl (List.replicate c 0)).toArray := by
    apply Array.toList_inj.1
    rw [show (Value.int .u8 0).cells = #[.int .u8 0] from rfl, toList_madeCells_one]
    simp [bl, hz1]
  rw [e]
  exact Blk.new _ _ _

set_option maxHeartbeats 800000 in
set_option maxRecDepth 100000 in
theorem ending_any (n : Nat) (hn : n ≤ 1000000000000) (w : World) : Calls Try.prog 61 #[.int .i64 n] w fun e w' => ∃ v, e = .returned v ∧ w'.ownsRow w.heap.size 5 1 v (9 + zpad n) ((endS n).map (Value.int .u8)) ∧ Only (fun _ => False) w w' := by
  obtain ⟨i0, hi, hz0, hz1, hz2⟩ := info_parts Try.infoU8
  obtain ⟨z, hz⟩ : ∃ z, z = zpad n := ⟨_, rfl⟩
  have hzp := zpad_eq n
  have hzl := zpad_lt n
  rw [← hz] at hzp hzl
  obtain ⟨w1, hmk, hb, ho⟩ := mk_some w (1 + z) (9 + z) (by omega) (by omega)
  have e1 : ((1 + z : Nat) : Int) = 1 + (z : Int) := by omega
  have e2 : ((9 + z : Nat) : Int) = 1 + (z : Int) + 8 := by omega
  rw [e1, e2] at hmk
  have hc0 : w1.cell? ⟨w.heap.size, 0, none⟩ = some (.int .u8 0) := by
    rw [hb.cell, bl_at _ _ (by rw [List.length_replicate]; omega), show 9 + z = (8 + z) + 1 by omega]; rfl
  have hf0 : w1.frozen? ⟨w.heap.size, 0, none⟩ = false := hb.froz 0
  have HB := hideIt (hb.set 0 (.int .u8 128))
  have HO := hideIt (ho.setCell (p := ⟨w.heap.size, 0, none⟩) (fun f => absurd f (Nat.lt_irrefl _)) (.int .u8 128))
  have HZ := hideIt hz
  clear hb ho hz
  go_enter Try.func61, Try.ntmps61
  go_wp2
  obtain ⟨F, hF⟩ : ∃ F : Nat → List Value, F = fun j => (128 :: (List.replicate z 0 ++ (be8 (8 * n)).take j)).map (Value.int .u8) := ⟨_, rfl⟩
  have F0 : Hid (((bl (List.replicate (9 + z) 0)).set 0 (.int .u8 128)).take (1 + z) = F 0) := by
    show _ = _
    rw [hF, set_zero]; rfl
  have F8 : Hid (F 8 = (endS n).map (Value.int .u8)) := by
    show _ = _
    rw [hF, endS, ← HZ.out]; simp only; rw [List.take_of_length_le (Nat.le_of_eq (be8_len _))]
  have FN : Hid (∀ j, j < 8 → F (j + 1) = F j ++ [Value.int .u8 ((8 * n / 256 ^ (7 - j) % 256 : Nat) : Int)]) := fun j hj => by
    rw [hF]; simp only; rw [be8_take _ _ hj]; simp
  clear hF hzp
  generalize ((64 - ((n : Int) + 1 + 8) % 64) % 64) = z4
  go_loopw [5, 26] (fun o i wr => ∃ j : Nat, j ≤ 8 ∧ i = .int .i64 j ∧ wr.ownsRow w.heap.size 5 1 o (1 + z + j) (F j) ∧ Only (fun _ => False) w wr) (fun _ i _ => 8 - (intOf i).toNat)
  case atStart =>
    refine ⟨0, by omega, rfl, ?_, HO.out⟩
    rw [← F0.out]
    exact own_of_blkc HB.out (Nat.le_refl _) (by omega) (by unfold maxLen; omega) (by simp [bl])
  case round =>
    obtain ⟨j, hj, rfl, hown, hon⟩ := hrel
    have hsz := hon.size
    have HON := hideIt hon
    have HOWN := hideIt hown
    clear hon hown HB HO hc0 hf0 hmk e1 e2
    by_cases hlt : j < 8
    · have HFN := hideIt (FN.out j hlt)
      have i1 : (j : Int) < 8 := by omega
      have s0 : 0 ≤ (7 - (j : Int)) * 8 := by omega
      have s1 : (7 - (j : Int)) * 8 ≤ 64 := by omega
      have BL := hideIt (Bs.litN .u8 wr 5 [(n : Int) * 8 / 2 ^ ((7 - j) * 8) % 256] _ _ rfl rfl)
      go_wp2_with (at_builtin; refine wpList_append_bs _ rfl _ _ 22 rfl w.heap.size 5 i0 (.int .u8 0) 1 Try.underlying22 hi hz0 hz1 hz2 rfl _ (1 + z + j) (F j) rfl (HOWN.out.alloc _) .u8 _ [(n : Int) * 8 / 2 ^ ((7 - j) * 8) % 256] rfl BL.out (NoCap.some _ _ _) (by simp [maxLen]; omega) (by simp; omega) (by simp; omega) ?_; intro v' w2 hown' hgrow2 hnil2 hob2)
      have N1 : Hid (w2.ownsRow w.heap.size 5 1 v' (1 + z + (j + 1)) (F (j + 1))) := by
        rw [HFN.out, ← byte8]; exact hown'
      have N2 : Hid (Only (fun _ => False) w w2) := (HON.out.alloc _).grown hgrow2 (fun k hk e => by have := HOWN.out.lt k e; omega)
      clear hown' hgrow2 hnil2 hob2 HOWN HON BL HFN
      go_wp2
      go_roundw
      case rel => exact ⟨j + 1, by omega, by go_num, N1.out, N2.out⟩
      case measure => simp [intOf]; omega
    · go_wp2
      go_ret
      obtain rfl : j = 8 := by omega
      rw [F8.out, show 1 + z + 8 = 9 + zpad n by rw [← HZ.out]; omega] at HOWN
      exact ⟨_, rfl, HOWN.out, HON.out⟩
end Go.Proofs.Ytnifflnhbpfmnaa
