/- As many of one byte as one likes: the walk. -/
import Derived.Test.YtmkfgfcncklchaaSumsW
namespace Go.Proofs.Ytmkfgfcncklchaa
open Go.RowKit

theorem Bs.of_bl {w : World} {g : Nat} {E : TypeId} {s : List Int} (h : Blk w g E (bl s)) (n : Nat) (hn : s.length = n) : Bs .u8 w (.slice (some ⟨g, 0, none⟩) n n) s := by
  refine ⟨_, n, by rw [hn], by rw [hn]; exact Nat.le_refl _, fun _ => ⟨g, 0, rfl, fun j hj => ?_⟩⟩
  rw [Nat.zero_add, h.cell, bl_at s j hj]
theorem fill_next (n k : Nat) (x : Int) (h : k < n) : (bl (List.replicate k x ++ List.replicate (n - k) 0)).set k (.int .u8 x) = bl (List.replicate (k + 1) x ++ List.replicate (n - (k + 1)) 0) := by
  unfold bl
  rw [← List.map_set, List.set_append_right _ _ (by simp), List.length_replicate, Nat.sub_self, show n - k = (n - (k + 1)) + 1 by omega, List.replicate_succ, List.set_cons_zero, List.replicate_succ']
  simp
theorem fill_cell (n k : Nat) (x : Int) (h : k < n) : (bl (List.replicate k x ++ List.replicate (n - k) 0))[k]? = some (.int .u8 0) := by
  unfold bl
  rw [List.getElem?_map, List.getElem?_append_right (by simp), List.length_replicate, Nat.sub_self, show n - k = (n - (k + 1)) + 1 by omega, List.replicate_succ]
  rfl
set_option maxHeartbeats 800000 in
set_option maxRecDepth 100000 in
theorem long_walk (x c : Int) (w : World) (x0 : 0 ≤ x) (x1 : x ≤ 255) :
    Calls Try.prog 6 #[.int .u8 x, .int .i64 c] w fun e w' => e = .returned (.bool true) ∧ Below w.heap.size w w' := by
  have A := hideIt (awake_any w)
  have hlow := i64_low c 9 (by decide)
  simp only [Nat.reducePow, Nat.reduceSub] at hlow
  obtain ⟨n, hcc⟩ : ∃ n : Nat, c % 512 = (n : Int) := ⟨(c % 512).toNat, by omega⟩
  have hbit : bits .and .i64 c 511 = (n : Int) := by rw [← hcc]; exact hlow
  have hn : n ≤ 511 := by omega
  have MK := hideIt (fun w1 => mk_some w1 n n (Nat.le_refl _) (by omega))
  clear hlow hcc
  go_enter Try.func6, Try.ntmps6
  go_wp2_with fail
  refine A.out.mono ?_
  rintro e w1 ⟨rfl, o1⟩
  obtain ⟨w2, hmk, hb2, o2⟩ := MK.out w1
  have O2 := hideIt (o1.same o2)
  have HB2 := hideIt hb2
  obtain ⟨N, hN⟩ : ∃ N, N = w1.heap.size := ⟨_, rfl⟩
  have HN : Hid (w.heap.size ≤ N) := by have := o1.size; show _ ≤ _; omega
  rw [← hN] at hmk HB2
  clear o1 A MK hb2 o2 hN
  go_wp2
  go_loopw [7] (fun i wr => ∃ k : Nat, k ≤ n ∧ i = .int .i64 k ∧ Blk wr N 5 (bl (List.replicate k x ++ List.replicate (n - k) 0)) ∧ Only (fun _ => False) w wr) (fun i _ => n - (intOf i).toNat)
  case atStart => exact ⟨0, Nat.zero_le _, rfl, HB2.out, O2.out⟩
  case round =>
    obtain ⟨k, hk, rfl, hblk, hon⟩ := hrel
    clear hmk HB2 O2
    by_cases hlt : k < n
    · have hc : wr.cell? ⟨N, k, none⟩ = some (.int .u8 0) := by rw [hblk.cell, fill_cell n k x hlt]
      have hf : wr.frozen? ⟨N, k, none⟩ = false := hblk.froz _
      have N1 : Hid (Blk (wr.setCell ⟨N, k, none⟩ (.int .u8 x)) N 5 (bl (List.replicate (k + 1) x ++ List.replicate (n - (k + 1)) 0))) := by
        have := hblk.set k (.int .u8 x)
        rw [fill_next n k x hlt] at this
        exact this
      have N2 : Hid (Only (fun _ => False) w (wr.setCell ⟨N, k, none⟩ (.int .u8 x))) := hon.setCell (p := ⟨N, k, none⟩) (fun h => absurd h (by have := HN.out; show ¬ N < _; omega)) _
      have i0 : (0 : Int) ≤ (k : Int) := by omega
      have i1 : (k : Int) < (n : Int) := by omega
      clear hblk hon
      go_wp2
      go_roundw
      case rel => exact ⟨k + 1, by omega, by go_num, N1.out, N2.out⟩
      case measure => simp [intOf]; omega
    · obtain rfl : k = n := by omega
      rw [Nat.sub_self, List.replicate_zero, List.append_nil] at hblk
      obtain ⟨xs, hxs⟩ : ∃ xs, xs = List.replicate k x := ⟨_, rfl⟩
      rw [← hxs] at hblk
      have hxl : xs.length = k := by rw [hxs, List.length_replicate]
      have h8 : U8 xs := fun y hy => by rw [hxs, List.mem_replicate] at hy; omega
      have HB := hideIt (And.intro (Bs.of_bl hblk k hxl) h8)
      have HL : Hid (xs.length ≤ 511) := by rw [hxl]; exact hn
      have O1 := hideIt hon
      have S1 := hideIt (sum_bs (.slice (some ⟨N, 0, none⟩) k k) xs wr HB.out.1 HB.out.2 (Nat.le_trans HL.out (by decide)))
      clear hblk hxs hxl h8 hon
      go_wp2_with fail
      refine S1.out.mono ?_
      rintro e w5 ⟨v5, rfl, own5, o5⟩
      obtain ⟨b5, g5, c5, rfl, _⟩ := sum_form own5
      have O5 := hideIt (O1.out.same o5)
      have B5 := hideIt b5
      have S2 := hideIt (rsum_bs (.slice (some ⟨N, 0, none⟩) k k) xs w5 (HB.out.1.past o5) (NoCap.some _ _ _) HB.out.2 (Nat.le_trans HL.out (by decide)))
      clear o5 own5 b5 S1
      go_wp2_with fail
      refine S2.out.mono ?_
      rintro e w6 ⟨v6, rfl, own6, o6⟩
      obtain ⟨b6, g6, c6, rfl, _⟩ := sum_form own6
      have O6 := hideIt (O5.out.same o6)
      have S3 := hideIt (lsame_eq _ _ (SHA xs) w6 (B5.out.past o6) b6 (sha32 _))
      clear o6 own6 b6 S2 B5
      go_wp2_with fail
      refine S3.out.mono ?_
      rintro e w7 ⟨rfl, o7⟩
      have O7 := hideIt (O6.out.same o7)
      clear o7 S3
      go_wp2
      go_ret
      exact ⟨rfl, O7.out.low (Nat.le_refl _)⟩
end Go.Proofs.Ytmkfgfcncklchaa
