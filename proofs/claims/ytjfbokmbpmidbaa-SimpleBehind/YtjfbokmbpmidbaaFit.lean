/- Package simple: do numbers fit a width, the least sort that fits, and the word of a sort. -/
import Derived.Test.YtjfbokmbpmidbaaRoom
import Derived.Test.YtjfbokmbpmidbaaCRef
import Derived.ScopeJumps
import Derived.WalkMore
namespace Go.Proofs.Ytjfbokmbpmidbaa
open Go.RowKit

set_option maxHeartbeats 400000 in
set_option maxRecDepth 100000 in
theorem allFit_bs (v : Value) (xs : List Int) (q : Nat) (w : World) (h : Bs .u64 w v xs) (hu : ∀ x ∈ xs, 0 ≤ x ∧ x ≤ 18446744073709551615) (hq : q ≤ 60) (hl : xs.length ≤ 140737488355328) :
    Calls Try.prog 18 #[v, .int .i64 q] w fun e w' => e = .returned (.bool (small q xs)) ∧ w = w' := by
  obtain ⟨ao, cap, rfl⟩ := h.len
  have HB := hideIt h
  have HU := hideIt hu
  obtain ⟨m, hm⟩ : ∃ m, m = xs.length := ⟨_, rfl⟩
  rw [← hm] at HB hl ⊢
  have HM := hideIt hm
  clear h hu hm
  have hq2 : (q : Int) ≤ 60 := by omega
  go_enter Try.func18, Try.ntmps18
  go_wp2
  go_loop [9] (fun i => ∃ k : Nat, k ≤ m ∧ i = .int .i64 k ∧ small q (xs.take k) = true) (fun i => m - (intOf i).toNat)
  case atStart => exact ⟨0, Nat.zero_le _, rfl, by simp [small]⟩
  case round =>
    obtain ⟨k, hk, rfl, hs⟩ := hrel
    have HS := hideIt hs
    clear hs
    by_cases hlt : k < m
    · have hkx : k < xs.length := by rw [← HM.out]; exact hlt
      obtain ⟨b, off, cap', e1, c0⟩ := (HB.out).at k hkx
      simp only [Value.slice.injEq] at e1
      obtain ⟨rfl, e2, rfl⟩ := e1
      clear e2
      obtain ⟨x0, x1⟩ := HU.out _ (getD_mem xs k hkx)
      have hsn : Hid (small q (xs.take (k + 1)) = (small q (xs.take k) && decide (xs.getD k 0 < 2 ^ q))) := by
        simp only [Hid]; rw [take_snoc xs k hkx, small_snoc]
      have hno : Hid (¬ xs.getD k 0 < 2 ^ q → small q xs = false) := small_no hkx
      obtain ⟨x, hx⟩ : ∃ x, x = xs.getD k 0 := ⟨_, rfl⟩
      rw [← hx] at c0 x0 x1 hsn hno
      clear hx hkx
      have i0 : (0 : Int) ≤ (k : Int) := by omega
      have i1 : (k : Int) < (m : Int) := by omega
      by_cases hf : x < 2 ^ q
      · have hdv : x / 2 ^ q = 0 := Int.ediv_eq_zero_of_lt x0 hf
        have d1 : (x / 2 ^ q != 0) = false := by rw [hdv]; rfl
        have HF := hideIt hf
        clear hf hdv
        go_wp2
        go_round
        case rel => exact ⟨k + 1, by omega, by go_num, by rw [hsn.out, HS.out]; simpa using HF.out⟩
        case measure => simp [intOf]; omega
      · have hdv : x / 2 ^ q ≠ 0 := by
          intro h0
          apply hf
          have := Int.lt_ediv_add_one_mul_self x (show (0 : Int) < 2 ^ q by have := pow_mono (Nat.zero_le q); omega)
          rw [h0] at this
          simpa using this
        have d1 : (x / 2 ^ q != 0) = true := by simpa using hdv
        have HF := hideIt (hno.out hf)
        clear hf hdv
        go_wp2
        go_ret
        exact ⟨by rw [HF.out]; rfl, rfl⟩
    · have hkm : k = m := by omega
      subst hkm
      go_wp2
      go_ret
      have := HS.out
      rw [HM.out, List.take_length] at this
      exact ⟨by rw [this]; rfl, rfl⟩

theorem Bs.cap_le {k : IntKind} {w : World} {ao : Option Addr} {m cap : Nat} {xs : List Int} (h : Bs k w (.slice ao m cap) xs) : m ≤ cap := by
  obtain ⟨ao', cap', e, hc, _⟩ := h
  simp at e
  omega
theorem sort_cell {w : World} {N s : Nat} (h : w.heap[N]? = some (.cells sortCells 45 (0, 0))) (hs : s < 16) : w.cell? ⟨N, s * 2, none⟩ = some (.int .i64 (cn s)) ∧ w.cell? ⟨N, s * 2 + 1, none⟩ = some (.int .i64 (wi s)) := by
  simp only [World.cell?, h]
  obtain rfl | rfl | rfl | rfl | rfl | rfl | rfl | rfl | rfl | rfl | rfl | rfl | rfl | rfl | rfl | rfl : s = 0 ∨ s = 1 ∨ s = 2 ∨ s = 3 ∨ s = 4 ∨ s = 5 ∨ s = 6 ∨ s = 7 ∨ s = 8 ∨ s = 9 ∨ s = 10 ∨ s = 11 ∨ s = 12 ∨ s = 13 ∨ s = 14 ∨ s = 15 := by omega
  all_goals exact ⟨by kernel_rfl, by kernel_rfl⟩
/-- what holds where leastSort jumps back -/
def LsJ (w : World) (N : Nat) (v : Value) (xs : List Int) (a' : Act) (w' : World) : Prop :=
  Only (fun _ => False) w w' ∧ w'.heap[N]? = some (.cells sortCells 45 (0, 0)) ∧ ∃ (s : Nat) (u5 u6 u8 u9 u10 u11 u12 u13 u14 u15 u16 u17 u18 u19 u20 u21 u22 u23 u24 u25 u26 u27 u28 u29 u30 : Value),
      a' = { tmps := #[v, undef, .int .i64 0, .pointer (some ⟨N, 0, none⟩), .int .i64 s, u5, u6, .agg sortCells, u8, u9, u10, u11, u12, u13, u14, u15, u16, u17, u18, u19, u20, u21, u22, u23, u24, u25, u26, u27, u28, u29, u30], defers := [] } ∧ s ≤ 15 ∧ leastF (15 - s) s xs = least xs
def lsMu (a' : Act) (_ : World) : Nat := (15 - intOf (a'.tmps.getD 4 undef)).toNat
theorem ls_next {w w' : World} {N : Nat} {v : Value} {xs : List Int} {s : Nat} (on : Only (fun _ => False) w w') (hN : w'.heap[N]? = some (.cells sortCells 45 (0, 0))) (hs : s ≤ 15) (hl : leastF (15 - s) s xs = least xs) (hf : fitB xs s = false) (f15 : fitB xs 15 = true) (nq : Nat) (u5 u6 u8 u9 u10 u11 u12 u13 u14 u15 u16 u17 u18 u19 u20 u21 u22 u23 u24 u25 u26 u27 u28 u29 u30 : Value) :
    LsJ w N v xs { tmps := #[v, undef, .int .i64 0, .pointer (some ⟨N, 0, none⟩), .int .i64 ((s : Int) + 1), u5, u6, .agg sortCells, u8, u9, u10, u11, u12, u13, u14, u15, u16, u17, u18, u19, u20, u21, u22, u23, u24, u25, u26, u27, u28, u29, u30], defers := [] } (w'.drewN nq) := by
  have h15 : s < 15 := by
    rcases Nat.lt_or_ge s 15 with h | h
    · exact h
    · rw [show s = 15 by omega, f15] at hf; cases hf
  refine ⟨on.drewN nq, hN, s + 1, u5, u6, u8, u9, u10, u11, u12, u13, u14, u15, u16, u17, u18, u19, u20, u21, u22, u23, u24, u25, u26, u27, u28, u29, u30, ?_, by omega, ?_⟩
  · rw [Int.natCast_add]; rfl
  · rw [← hl, leastF_miss hf h15]

theorem ls_less {s : Nat} {xs : List Int} (hs : s ≤ 15) (hf : fitB xs s = false) (f15 : fitB xs 15 = true) : (15 - ((s : Int) + 1)).toNat < (15 - (s : Int)).toNat := by
  have h15 : s < 15 := by
    rcases Nat.lt_or_ge s 15 with h | h
    · exact h
    · rw [show s = 15 by omega, f15] at hf; cases hf
  omega

set_option maxHeartbeats 800000 in
set_option maxRecDepth 100000 in
theorem leastSort_bs (v : Value) (xs : List Int) (w : World) (h : Bs .u64 w v xs) (hu : Up 60 xs) (hne : xs ≠ []) (hl : xs.length ≤ 65536) :
    Calls Try.prog 19 #[v] w fun e w' => e = .returned (.int .i64 (least xs)) ∧ Only (fun _ => False) w w' := by
  obtain ⟨ao, cap, rfl⟩ := h.len
  have HB := hideIt h
  have HU := hideIt hu
  have hcap := h.cap_le
  have F15 := hideIt (fit15 hne hu)
  obtain ⟨m, hm⟩ : ∃ m, m = xs.length := ⟨_, rfl⟩
  rw [← hm] at HB hl hcap ⊢
  have HM := hideIt hm
  clear h hu hm hne
  have A := hideIt (sorts_any w)
  obtain ⟨N, hN⟩ : ∃ N, N = w.heap.size + 1 := ⟨_, rfl⟩
  have HN := hideIt hN
  clear hN
  go_enter Try.func19, Try.ntmps19
  go_wp2
  refine wp_scope_jumps 0 (LsJ w N (.slice ao m cap) xs) lsMu rfl ?_ ?_
  · go_wp2_with fail
    refine A.out.mono ?_
    rintro e w1 ⟨rfl, hw1⟩
    have O1 : Hid (Only (fun _ => False) w w1 ∧ w1.heap.size = N) := by rw [hw1]; exact ⟨(Only.refl _ _).alloc _, by rw [HN.out]; simp⟩
    clear hw1 A
    go_wp2_with (refine wpList_store_row rfl 45 (.tmp 3) (.tmp 7) rfl w1.heap.size sortCells rfl rfl 45 zeroCells (heap_alloc_last w1 _) Try.size45 zero_sort one_sort ?_)
    rw [World.setRow_alloc_new]
    obtain ⟨w2, hw2⟩ : ∃ w2, w2 = w1.alloc (.cells sortCells 45) := ⟨_, rfl⟩
    rw [← hw2, O1.out.2]
    have HON : Hid (Only (fun _ => False) w w2 ∧ w2.heap[N]? = some (.cells sortCells 45 (0, 0))) := by
      rw [hw2, ← O1.out.2]; exact ⟨O1.out.1.alloc _, heap_alloc_last w1 _⟩
    clear hw2 O1
    have c0 : w2.cell? ⟨N, 0, none⟩ = some (.int .i64 240) := (sort_cell HON.out.2 (s := 0) (by omega)).1
    have c1 : w2.cell? ⟨N, 1, none⟩ = some (.int .i64 0) := (sort_cell HON.out.2 (s := 0) (by omega)).2
    go_step3
    have AF := hideIt (fun (hx : 240 ≤ m) (nq : Nat) => allFit_bs (.slice ao (240) cap) (xs.take (240)) (wi 0) (w2.drewN nq) (((HB.out.head (n := 240) hx).keep HON.out.1 (fun _ _ f => f)).keep ((Only.refl (fun _ => False) _).drewN nq) (fun _ _ f => f)) (fun x hx => ⟨(HU.out x (List.mem_of_mem_take hx)).1, by have := (HU.out x (List.mem_of_mem_take hx)).2; omega⟩) (sort_at 0 (by omega)).2.2.1 (by rw [List.length_take, ← HM.out]; omega))
    rw [show wi 0 = 0 from rfl] at AF
    by_cases hc : m < 240
    · have dc : decide ((m : Int) < 240) = true := by simp; omega
      have HF : Hid (fitB xs 0 = false) := by simp only [Hid, fitB]; rw [decide_eq_false (by rw [← HM.out]; show ¬ 240 ≤ m; omega)]; rfl
      clear AF
      go_wp2
      go_quiet (fail)
      go_wp2
      go_step3
      exact @And.intro (0 = 0) (LsJ w N (.slice ao m cap) xs _ _) rfl (ls_next (s := 0) HON.out.1 HON.out.2 (by omega) rfl HF.out F15.out _ _ _ _ _ _ _ _ _ _ _ _ _ _ _ _ _ _ _ _ _ _ _ _ _ _)
    · have dc : decide ((m : Int) < 240) = false := by simp; omega
      have j0 : (0 : Int) ≤ 240 := by omega
      have j1 : 240 ≤ (m : Int) := by omega
      have j2 : 240 ≤ (cap : Int) := by omega
      have AG := hideIt (AF.out (by omega))
      have HFE : Hid (fitB xs 0 = small (wi 0) (xs.take (cn 0))) := by simp only [Hid, fitB]; rw [decide_eq_true (by rw [← HM.out]; show 240 ≤ m; omega)]; rfl
      rw [show wi 0 = 0 from rfl, show cn 0 = 240 from rfl] at HFE
      clear AF
      cases hsm : small 0 (xs.take 240)
      · rw [hsm] at AG HFE
        clear hsm
        go_wp2
        go_quiet (fail)
        go_wp2_with fail
        refine (AG.out nq).mono ?_
        rintro e w3 ⟨rfl, rfl⟩
        go_wp2
        go_step3
        exact @And.intro (0 = 0) (LsJ w N (.slice ao m cap) xs _ _) rfl (ls_next (s := 0) HON.out.1 HON.out.2 (by omega) rfl HFE.out F15.out _ _ _ _ _ _ _ _ _ _ _ _ _ _ _ _ _ _ _ _ _ _ _ _ _ _)
      · rw [hsm] at AG HFE
        clear hsm
        go_wp2
        go_quiet (fail)
        go_wp2_with fail
        refine (AG.out nq).mono ?_
        rintro e w3 ⟨rfl, rfl⟩
        go_wp2
        simp only [Exit.jump]
        go_ret
        refine ⟨ret_int ?_, HON.out.1.drewN nq⟩
        rw [show least xs = 0 from leastF_hit HFE.out 15]; rfl
  · rintro a' w' ⟨on, hN, s, u5, u6, u8, u9, u10, u11, u12, u13, u14, u15, u16, u17, u18, u19, u20, u21, u22, u23, u24, u25, u26, u27, u28, u29, u30, rfl, hs, hleast⟩
    have c0 := (sort_cell hN (s := s) (by omega)).1
    have c1 := (sort_cell hN (s := s) (by omega)).2
    have HON := hideIt (And.intro on hN)
    have HL := hideIt hleast
    have s0 : (0 : Int) ≤ (s : Int) := by omega
    have s1 : (s : Int) < 16 := by omega
    clear on hN hleast
    have AF := hideIt (fun (hx : cn s ≤ m) (nq : Nat) => allFit_bs (.slice ao (cn s) cap) (xs.take (cn s)) (wi s) (w'.drewN nq) (((HB.out.head (n := cn s) hx).keep HON.out.1 (fun _ _ f => f)).keep ((Only.refl (fun _ => False) _).drewN nq) (fun _ _ f => f)) (fun x hx => ⟨(HU.out x (List.mem_of_mem_take hx)).1, by have := (HU.out x (List.mem_of_mem_take hx)).2; omega⟩) (sort_at s (by omega)).2.2.1 (by rw [List.length_take, ← HM.out]; omega))
    by_cases hc : m < cn s
    · have dc : decide ((m : Int) < ((cn s : Nat) : Int)) = true := by simp; omega
      have dn : decide (m < cn s) = true := decide_eq_true hc
      have HF : Hid (fitB xs s = false) := by simp only [Hid, fitB]; rw [decide_eq_false (by rw [← HM.out]; omega)]; rfl
      clear AF
      go_wp2
      go_quiet (fail)
      go_wp2
      go_step3
      exact @And.intro (0 = 0) (LsJ w N (.slice ao m cap) xs _ _ ∧ _) rfl ⟨ls_next HON.out.1 HON.out.2 hs HL.out HF.out F15.out _ _ _ _ _ _ _ _ _ _ _ _ _ _ _ _ _ _ _ _ _ _ _ _ _ _, ls_less hs HF.out F15.out⟩
    · have dc : decide ((m : Int) < ((cn s : Nat) : Int)) = false := by simp; omega
      have dn : decide (m < cn s) = false := decide_eq_false hc
      have j0 : (0 : Int) ≤ ((cn s : Nat) : Int) := by omega
      have j1 : ((cn s : Nat) : Int) ≤ (m : Int) := by omega
      have j2 : ((cn s : Nat) : Int) ≤ (cap : Int) := by omega
      have AG := hideIt (AF.out (by omega))
      have HFE : Hid (fitB xs s = small (wi s) (xs.take (cn s))) := by simp only [Hid, fitB]; rw [decide_eq_true (by rw [← HM.out]; omega)]; rfl
      clear AF
      cases hsm : small (wi s) (xs.take (cn s))
      · rw [hsm] at AG HFE
        clear hsm
        go_wp2
        go_quiet (fail)
        go_wp2_with fail
        refine (AG.out nq).mono ?_
        rintro e w3 ⟨rfl, rfl⟩
        go_wp2
        go_step3
        exact @And.intro (0 = 0) (LsJ w N (.slice ao m cap) xs _ _ ∧ _) rfl ⟨ls_next HON.out.1 HON.out.2 hs HL.out HFE.out F15.out _ _ _ _ _ _ _ _ _ _ _ _ _ _ _ _ _ _ _ _ _ _ _ _ _ _, ls_less hs HFE.out F15.out⟩
      · rw [hsm] at AG HFE
        clear hsm
        go_wp2
        go_quiet (fail)
        go_wp2_with fail
        refine (AG.out nq).mono ?_
        rintro e w3 ⟨rfl, rfl⟩
        go_wp2
        simp only [Exit.jump]
        go_ret
        refine ⟨ret_int ?_, HON.out.1.drewN nq⟩
        rw [← HL.out, leastF_hit HFE.out]
end Go.Proofs.Ytjfbokmbpmidbaa
