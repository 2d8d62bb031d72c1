/- The reference for simple: Width, Room, fits. -/
import Derived.Test.YtgbimghhdbmjiaaGreatG1
import Derived.Test.YtgbimghhdbmjiaaGreatG8
namespace Go.Proofs.YtgbimghhdbmjiaaGreat
open Go.RowKit

/-- so many bits or more -/
theorem wid_gt {x : Int} {q : Nat} (h0 : 0 ≤ x) : decide ((q : Int) < (wid x.toNat : Int)) = !decide (x < 2 ^ q) := by
  have h := wid_le_iff x.toNat q
  have e : x.toNat < 2 ^ q ↔ x < 2 ^ q := by
    rw [← cast_pow]; omega
  rw [e] at h
  by_cases hx : x < 2 ^ q
  · have := h.2 hx
    rw [decide_eq_true hx, decide_eq_false (by omega)]; rfl
  · rw [decide_eq_false hx, decide_eq_true]; · rfl
    have := fun h' => hx (h.1 h')
    omega

set_option maxHeartbeats 400000 in
set_option maxRecDepth 100000 in
theorem rroom_no (s : Int) (w : World) (h : s < 0 ∨ 15 < s) : Calls Tryz.prog 62 #[.int .i64 s] w fun e w' => e = .returned (.tuple #[.int .i64 0, .int .i64 0]) ∧ Only (fun _ => False) w w' := by
  by_cases h0 : s < 0
  · have d0 : decide (s < 0) = true := decide_eq_true h0
    clear h
    go_enter Tryz.func62, Tryz.ntmps62
    go_wp2
    go_ret2
    exact ⟨rfl, ((Only.refl _ _).alloc _).alloc _⟩
  · have d0 : decide (s < 0) = false := decide_eq_false h0
    have d1 : decide (15 < s) = true := decide_eq_true (by omega)
    clear h
    go_enter Tryz.func62, Tryz.ntmps62
    go_wp2
    go_ret2
    exact ⟨rfl, ((Only.refl _ _).alloc _).alloc _⟩

def cntCells : Array Value := #[.int .i64 240, .int .i64 120, .int .i64 60, .int .i64 30, .int .i64 20, .int .i64 15, .int .i64 12, .int .i64 10, .int .i64 8, .int .i64 7, .int .i64 6, .int .i64 5, .int .i64 4, .int .i64 3, .int .i64 2, .int .i64 1]
def widCells : Array Value := #[.int .i64 0, .int .i64 0, .int .i64 1, .int .i64 2, .int .i64 3, .int .i64 4, .int .i64 5, .int .i64 6, .int .i64 7, .int .i64 8, .int .i64 10, .int .i64 12, .int .i64 15, .int .i64 20, .int .i64 30, .int .i64 60]
theorem tab_cells {s : Nat} (h : s < 16) : cntCells[s]? = some (.int .i64 (cn s)) ∧ widCells[s]? = some (.int .i64 (wi s)) := by
  obtain rfl | rfl | rfl | rfl | rfl | rfl | rfl | rfl | rfl | rfl | rfl | rfl | rfl | rfl | rfl | rfl : s = 0 ∨ s = 1 ∨ s = 2 ∨ s = 3 ∨ s = 4 ∨ s = 5 ∨ s = 6 ∨ s = 7 ∨ s = 8 ∨ s = 9 ∨ s = 10 ∨ s = 11 ∨ s = 12 ∨ s = 13 ∨ s = 14 ∨ s = 15 := by omega
  all_goals exact ⟨by kernel_rfl, by kernel_rfl⟩

set_option maxHeartbeats 400000 in
set_option maxRecDepth 100000 in
theorem rroom_at (s : Nat) (w : World) (h : s < 16) : Calls Tryz.prog 62 #[.int .i64 s] w fun e w' => e = .returned (.tuple #[.int .i64 (cn s), .int .i64 (wi s)]) ∧ Only (fun _ => False) w w' := by
  have d0 : decide ((s : Int) < 0) = false := by simp
  have d1 : decide (15 < (s : Int)) = false := by simp; omega
  have s0 : (0 : Int) ≤ (s : Int) := by omega
  have s1 : (s : Int) < 16 := by omega
  obtain ⟨t1, t2⟩ := tab_cells h
  obtain ⟨W, hW⟩ : ∃ W, W = (w.alloc (.cells cntCells 3)).alloc (.cells widCells 3) := ⟨_, rfl⟩
  obtain ⟨N, hN⟩ : ∃ N, N = w.heap.size := ⟨_, rfl⟩
  have HO : Hid (Only (fun _ => False) w W) := by rw [hW]; exact ((Only.refl _ _).alloc _).alloc _
  have c0 : W.cell? ⟨N, s, none⟩ = some (.int .i64 (cn s)) := by
    rw [hW, hN, cell_of_row _ _ s cntCells 3 (0, 0) (by rw [Below.heap_alloc _ _ _ (by simp)]; exact heap_alloc_last w _), t1]
  have c1 : W.cell? ⟨N + 1, s, none⟩ = some (.int .i64 (wi s)) := by
    have := heap_alloc_last (w.alloc (.cells cntCells 3)) (.cells widCells 3)
    rw [show (w.alloc (.cells cntCells 3)).heap.size = N + 1 by rw [hN]; simp, ← hW] at this
    rw [cell_of_row _ _ s widCells 3 (0, 0) this, t2]
  have HW := hideIt hW
  have HN := hideIt hN
  clear t1 t2 hW hN
  unfold cntCells widCells at HW
  go_enter Tryz.func62, Tryz.ntmps62
  go_wp2
  rw [← HW.out, ← HN.out]
  clear HW HN
  go_quiet (fail)
  go_wp2
  go_ret2
  exact ⟨rfl, HO.out.drewN nq⟩

set_option maxHeartbeats 400000 in
set_option maxRecDepth 100000 in
theorem rfits_bs (v : Value) (xs : List Int) (s : Nat) (w : World) (h : Bs .u64 w v xs) (hu : ∀ x ∈ xs, 0 ≤ x ∧ x ≤ 18446744073709551615) (hs : s < 16) (hl : xs.length ≤ 140737488355328) :
    Calls Tryz.prog 88 #[v, .int .i64 s] w fun e w' => e = .returned (.bool (fitB xs s)) ∧ Only (fun _ => False) w w' := by
  have RM := hideIt (rroom_at s w hs)
  obtain ⟨ao, cap, rfl⟩ := h.len
  have HB := hideIt h
  have HU := hideIt hu
  have h4 := sort_at s hs
  have HF : Hid (fitB xs s = (decide (cn s ≤ xs.length) && small (wi s) (xs.take (cn s)))) := rfl
  obtain ⟨m, hm⟩ : ∃ m, m = xs.length := ⟨_, rfl⟩
  rw [← hm] at HB hl HF ⊢
  have HM := hideIt hm
  clear h hu hm
  generalize cn s = c at *
  generalize wi s = q at *
  by_cases hc : m < c
  · have dc : decide ((m : Int) < (c : Int)) = true := by simp; omega
    have dn : decide (m < c) = true := decide_eq_true hc
    rw [decide_eq_false (by omega)] at HF
    go_enter Tryz.func88, Tryz.ntmps88
    go_wp2_with fail
    refine RM.out.mono ?_
    rintro e w1 ⟨rfl, o1⟩
    have O1 := hideIt o1
    clear o1 RM
    go_wp2
    go_ret
    exact ⟨by rw [HF.out]; rfl, O1.out⟩
  · have dc : decide ((m : Int) < (c : Int)) = false := by simp; omega
    have dn : decide (m < c) = false := decide_eq_false hc
    rw [decide_eq_true (by omega), Bool.true_and] at HF
    go_enter Tryz.func88, Tryz.ntmps88
    go_wp2_with fail
    refine RM.out.mono ?_
    rintro e w1 ⟨rfl, o1⟩
    have O1 := hideIt o1
    have HB1 := hideIt (HB.out.keep o1 (fun _ _ f => f))
    clear o1 RM HB
    go_wp2
    go_loop [7] (fun i => ∃ k : Nat, k ≤ c ∧ i = .int .i64 k ∧ small q (xs.take k) = true) (fun i => c - (intOf i).toNat)
    case atStart => exact ⟨0, Nat.zero_le _, rfl, by simp [small]⟩
    case round =>
      obtain ⟨k, hk, rfl, hsm⟩ := hrel
      have HS := hideIt hsm
      clear hsm
      by_cases hlt : k < c
      · have hkx : k < xs.length := by rw [← HM.out]; omega
        obtain ⟨b, off, cap', e1, c0⟩ := (HB1.out).at k hkx
        simp only [Value.slice.injEq] at e1
        obtain ⟨rfl, e2, rfl⟩ := e1
        clear e2
        obtain ⟨x0, x1⟩ := HU.out _ (getD_mem xs k hkx)
        have hsn : Hid (small q (xs.take (k + 1)) = (small q (xs.take k) && decide (xs.getD k 0 < 2 ^ q))) := by
          simp only [Hid]; rw [take_snoc xs k hkx, small_snoc]
        have hno : Hid (¬ xs.getD k 0 < 2 ^ q → small q (xs.take c) = false) := fun hx =>
          small_no (k := k) (by rw [List.length_take]; omega) (by
            rw [List.getD_eq_getElem?_getD, List.getElem?_take, if_pos hlt, ← List.getD_eq_getElem?_getD]; exact hx)
        have WA := hideIt (rwidth_any (xs.getD k 0) w1 x0 x1)
        have dw := wid_gt (q := q) x0
        have h64 := wid_le64 (xs.getD k 0).toNat (by omega)
        obtain ⟨x, hx⟩ : ∃ x, x = xs.getD k 0 := ⟨_, rfl⟩
        rw [← hx] at c0 x0 x1 hsn hno WA dw h64
        have i0 : (0 : Int) ≤ (k : Int) := by omega
        have i1 : (k : Int) < (m : Int) := by omega
        clear hx hkx
        generalize wid x.toNat = y at WA dw h64
        by_cases hf : x < 2 ^ q
        · rw [decide_eq_true hf] at dw
          have dy : decide (q < y) = false := by have : ¬ ((q : Int) < (y : Int)) := of_decide_eq_false dw; exact decide_eq_false (by omega)
          have HFX := hideIt hf
          clear hf hno
          go_wp2_with fail
          refine WA.out.mono ?_
          rintro e w2 ⟨rfl, rfl⟩
          go_wp2
          go_round
          case rel => exact ⟨k + 1, by omega, by go_num, by rw [hsn.out, HS.out]; simpa using HFX.out⟩
          case measure => simp [intOf]; omega
        · have HN := hideIt (hno.out hf)
          rw [decide_eq_false hf] at dw
          have dy : decide (q < y) = true := by have : ((q : Int) < (y : Int)) := of_decide_eq_true dw; exact decide_eq_true (by omega)
          clear hf hno hsn
          go_wp2_with fail
          refine WA.out.mono ?_
          rintro e w2 ⟨rfl, rfl⟩
          go_wp2
          go_ret
          exact ⟨by rw [HF.out, HN.out]; rfl, O1.out⟩
      · have hkm : k = c := by omega
        subst hkm
        go_wp2
        go_ret
        exact ⟨by rw [HF.out, HS.out]; rfl, O1.out⟩
end Go.Proofs.YtgbimghhdbmjiaaGreat
