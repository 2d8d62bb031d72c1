/- slices.Concat of so many slices of bytes. -/
import Derived.Test.YtfokchgihookgaaVr2
namespace Go.Proofs.Ytfokchgihookgaa
open Go.RowKit

def cat (ls : Nat → List Int) (k : Nat) : List Int := (List.range k).flatMap ls
theorem cat_zero (ls : Nat → List Int) : cat ls 0 = [] := rfl
theorem cat_succ (ls : Nat → List Int) (k : Nat) : cat ls (k + 1) = cat ls k ++ ls k := by simp [cat, List.range_succ]
theorem cat_mono (ls : Nat → List Int) {k m : Nat} (h : k ≤ m) : (cat ls k).length ≤ (cat ls m).length := by
  induction m with
  | zero => rw [Nat.le_zero.1 h]; exact Nat.le_refl _
  | succ m ih =>
    rcases Nat.lt_or_ge k (m + 1) with h' | h'
    · have := ih (by omega); rw [cat_succ, List.length_append]; omega
    · rw [show k = m + 1 by omega]; exact Nat.le_refl _

set_option maxHeartbeats 1600000 in
set_option maxRecDepth 100000 in
/-- SO MANY SLICES OF BYTES, one behind the other: new memory. -/
theorem concat_n (B m : Nat) (vs : Nat → Value) (ls : Nat → List Int) (w : World) (hm : m ≤ 1000) (hm0 : 0 < m) (hc : ∀ i, i < m → w.cell? ⟨B, i, none⟩ = some (vs i)) (hb : ∀ i, i < m → Bs .u8 w (vs i) (ls i)) (nc : ∀ i, i < m → NoCap (vs i))
    (hp : 0 < (cat ls m).length) (hl : (cat ls m).length ≤ 140737488355328) :
    Calls Try.prog 20 #[.slice (some ⟨B, 0, none⟩) m m] w fun e w' => ∃ v', e = .returned v' ∧ w'.ownsRow w.heap.size 5 1 v' (cat ls m).length ((cat ls m).map (Value.int .u8)) ∧ Only (fun _ => False) w w' := by
  obtain ⟨i0, hi, hz0, hz1, hz2⟩ := info_parts Try.infoU8
  have HC := hideIt hc
  have HB := hideIt hb
  have NC := hideIt nc
  have HP := hideIt hp
  have HL := hideIt hl
  have hBw : B < w.heap.size := World.block_lt_of_cell? w _ (hc 0 hm0)
  clear hc hb nc hp hl
  go_enter Try.func20, Try.ntmps20
  go_wp2
  go_loop [3, 11] (fun s i => ∃ k : Nat, k ≤ m ∧ i = .int .i64 k ∧ s = .int .i64 (cat ls k).length) (fun _ i => m - (intOf i).toNat)
  case atStart => exact ⟨0, Nat.zero_le _, rfl, rfl⟩
  case round =>
    obtain ⟨k, hk, rfl, rfl⟩ := hrel
    by_cases hlt : k < m
    · obtain ⟨ao, cap, e1⟩ := (HB.out k hlt).len
      have c0 := HC.out k hlt
      rw [e1] at c0
      have hnext : Hid ((cat ls (k + 1)).length = (cat ls k).length + (ls k).length) := by simp only [Hid]; rw [cat_succ, List.length_append]
      have hle := cat_mono ls (show k + 1 ≤ m by omega)
      rw [hnext.out] at hle
      have HX := HL.out
      obtain ⟨s, hs⟩ : ∃ s, s = (cat ls k).length := ⟨_, rfl⟩
      obtain ⟨n, hn⟩ : ∃ n, n = (ls k).length := ⟨_, rfl⟩
      rw [← hs, ← hn] at hle hnext
      rw [← hn] at c0
      rw [← hs]
      have hb2 : s + n ≤ 140737488355328 := by omega
      have dlt : decide ((k : Int) < (m : Int)) = true := by simp; omega
      have d0 : decide ((s : Int) + n < 0) = false := by simp; omega
      clear e1 hs hn hle HX
      go_wp2
      go_round
      case rel => exact ⟨k + 1, by omega, by simp, by rw [hnext.out]; simp⟩
      case measure => simp [intOf]; omega
    · obtain rfl : k = m := by omega
      have dlt : decide ((k : Int) < (k : Int)) = false := by simp
      obtain ⟨s, hs⟩ : ∃ s, s = (cat ls k).length := ⟨_, rfl⟩
      have HS := hideIt hs
      rw [← hs]
      have hs0 : 0 < s := by rw [hs]; exact HP.out
      have hs1 : s ≤ 140737488355328 := by rw [hs]; exact HL.out
      have GN := hideIt (grow_nil s w hs0 hs1)
      clear hs
      go_wp2_with fail
      refine GN.out.mono ?_
      rintro e w2 ⟨G, rfl, hown, hon⟩
      have hbel : Below w.heap.size w w2 := hon.low (Nat.le_refl _)
      clear GN hon
      go_wp2
      go_loopw [6, 27] (fun o i wr => Below w.heap.size w wr ∧ ∃ j : Nat, j ≤ k ∧ i = .int .i64 j ∧ wr.ownsRow w.heap.size 5 1 o (cat ls j).length ((cat ls j).map (Value.int .u8))) (fun _ i _ => k - (intOf i).toNat)
      case atStart => exact ⟨hbel, 0, Nat.zero_le _, rfl, hown⟩
      case round =>
        obtain ⟨hbw, j, hj, rfl, hown1⟩ := hrel
        clear hbel hown
        have hsz := hbw.size
        by_cases hlt : j < k
        · obtain ⟨ao, cap, e1⟩ := (HB.out j hlt).len
          have c0 := (hbw.cell (p := ⟨B, j, none⟩) hBw).trans (HC.out j hlt)
          have HBJ := hideIt ((HB.out j hlt).later hbw)
          have NCJ := hideIt (NC.out j hlt)
          rw [e1] at c0 HBJ NCJ
          have hnext : Hid (cat ls (j + 1) = cat ls j ++ ls j) := cat_succ ls j
          have hle := cat_mono ls (show j + 1 ≤ k by omega)
          rw [hnext.out, List.length_append] at hle
          have HX := HL.out
          obtain ⟨n, hn⟩ : ∃ n, n = (ls j).length := ⟨_, rfl⟩
          rw [← hn] at c0 HBJ NCJ
          have dlt2 : decide ((j : Int) < (k : Int)) = true := by simp; omega
          clear e1 hn
          have hle2 := hideIt hle
          clear hle HX
          go_wp2_with (at_builtin; refine wpList_append_bs _ rfl _ _ _ rfl w.heap.size 5 i0 (.int .u8 0) 1 Try.underlying24 hi hz0 hz1 hz2 rfl _ _ _ rfl hown1 .u8 _ (ls j) rfl HBJ.out NCJ.out ?c3 ?c4 hsz ?_)
          case c3 => have := hle2.out; have := HL.out; unfold maxLen; omega
          case c4 => have := hle2.out; have := HL.out; omega
          intro v' w3 hown2 hgrow _ _
          have hb3 : Below w.heap.size w w3 := hbw.grown hgrow hsz (fun q hq => (hown1.lt q hq).1)
          rw [← List.map_append, ← List.length_append, ← hnext.out] at hown2
          clear hown1 hgrow
          go_wp2
          go_roundw
          case rel => exact ⟨hb3, j + 1, by omega, by simp, hown2⟩
          case measure => simp [intOf]; omega
        · obtain rfl : j = k := by omega
          have dlt2 : decide ((j : Int) < (j : Int)) = false := by simp
          go_wp2
          go_ret
          exact ⟨_, rfl, hown1, only_of_below hbw⟩
end Go.Proofs.Ytfokchgihookgaa
