/- The document's answer for patterns by their places: place, width. -/
import Derived.Test.YtgnaeajfajineaaDn
import Derived.Test.YtgnaeajfajineaaRWid
namespace Go.Proofs.Ytgnaeajfajineaa
open Go.RowKit

theorem plc_first {d : List Int} {k : Nat} (hk : k < d.length) (hn : d.getD k 0 ∉ d.take k) : plc d (d.getD k 0) = k := by
  have e1 : d.getD k 0 = d[k] := by rw [List.getD_eq_getElem?_getD, List.getElem?_eq_getElem hk]; rfl
  have e2 : d = d.take k ++ d[k] :: d.drop (k + 1) := by rw [← List.drop_eq_getElem_cons hk, List.take_append_drop]
  rw [e1] at hn ⊢
  unfold plc
  generalize d[k] = y at *
  rw [e2, List.idxOf_append, if_neg hn, List.idxOf_cons_self, List.length_take]
  omega
theorem not_take_succ {d : List Int} {k : Nat} {y : Int} (hk : k < d.length) (hn : y ∉ d.take k) (hy : d.getD k 0 ≠ y) : y ∉ d.take (k + 1) := by
  rw [take_snoc d k hk]
  intro h
  rcases List.mem_append.1 h with h | h
  · exact hn h
  · simp at h; exact hy h.symm

def plI (d : List Int) (y : Int) : Int := if y ∈ d then (plc d y : Int) else -1
set_option maxHeartbeats 400000 in
set_option maxRecDepth 100000 in
theorem rplace_any (vd : Value) (d : List Int) (y : Int) (w : World) (h : Bs .u64 w vd d) (hl : d.length ≤ 65536) :
    Calls Try.prog 21 #[vd, .int .u64 y] w fun e w' => e = .returned (.int .i64 (plI d y)) ∧ w = w' := by
  obtain ⟨ao, cap, rfl⟩ := h.len
  have HB := hideIt h
  obtain ⟨n, hn⟩ : ∃ n, n = d.length := ⟨_, rfl⟩
  rw [← hn] at HB hl
  rw [← hn]
  have HN := hideIt hn
  obtain ⟨P, hP⟩ : ∃ P, P = plI d y := ⟨_, rfl⟩
  rw [← hP]
  have HP := hideIt hP
  clear h hn hP
  go_enter Try.func21, Try.ntmps21
  go_wp2
  go_loopw [5] (fun i wr => ∃ k : Nat, k ≤ n ∧ i = .int .i64 k ∧ Hid (y ∉ d.take k) ∧ w = wr) (fun i _ => n - (intOf i).toNat)
  case atStart => exact ⟨0, Nat.zero_le _, rfl, by simp [Hid], rfl⟩
  case round =>
    obtain ⟨k, hk, rfl, HT, rfl⟩ := hrel
    by_cases hlt : k < n
    · have dlt : decide ((k : Int) < (n : Int)) = true := by simp; omega
      have hkd : k < d.length := by rw [← HN.out]; exact hlt
      obtain ⟨b, off, cap', e1, hc0⟩ := HB.out.at k hkd
      have ea : ao = some ⟨b, off, none⟩ := by simp at e1; exact e1.1
      subst ea
      have ik : (k : Int) < (n : Int) := by omega
      clear e1
      by_cases hy : d.getD k 0 = y
      · have HP2 : Hid ((k : Int) = P) := by
          have h1 := plc_first (d := d) (k := k) hkd (by rw [hy]; exact HT.out)
          rw [hy] at h1
          have h2 : y ∈ d := by rw [← hy]; exact getD_in hkd
          simp only [Hid]; rw [HP.out]; unfold plI; rw [if_pos h2, h1]
        have dq : (d.getD k 0 == y) = true := by simpa using hy
        generalize d.getD k 0 = x at *
        clear hy hkd HB
        go_wp2
        go_ret
        exact ⟨ret_int HP2.out, rfl⟩
      · have HT2 := hideIt (not_take_succ hkd HT.out hy)
        have dq : (d.getD k 0 == y) = false := by simpa using hy
        generalize d.getD k 0 = x at *
        clear hy hkd HB
        go_wp2
        go_roundw
        case rel => exact ⟨k + 1, by omega, by go_num, HT2, by trivial⟩
        case measure => simp [intOf]; omega
    · obtain rfl : k = n := by omega
      have dlt : decide ((k : Int) < (k : Int)) = false := by simp
      have HP2 : Hid (-1 = P) := by
        have h2 := HT.out
        rw [HN.out, List.take_length] at h2
        simp only [Hid]; rw [HP.out]; unfold plI; rw [if_neg h2]
      go_wp2
      go_ret
      exact ⟨ret_int HP2.out, rfl⟩

theorem rwid10_any (k : Nat) (w : World) (h : k ≤ 65536) :
    Calls Try.prog 24 #[.int .i64 k] w fun e w' => e = .returned (.int .i64 (wP k)) ∧ w = w' := by
  by_cases h0 : k = 0
  · subst h0
    go_enter Try.func24, Try.ntmps24
    go_wp2
    go_ret
    exact ⟨rfl, rfl⟩
  · obtain ⟨j, rfl⟩ : ∃ j, k = j + 1 := ⟨k - 1, by omega⟩
    have WA := hideIt (rwidth_any ((j : Nat) : Int) w (by omega) (by omega))
    have e1 : wP (j + 1) = wid j := by unfold wP; rw [if_neg (by omega)]; rfl
    rw [e1]
    have d0 : (((j + 1 : Nat) : Int) == 0) = false := by rw [beq_eq_false_iff_ne]; omega
    have e2 : ((j + 1 : Nat) : Int) - 1 = (j : Int) := by omega
    obtain ⟨K, hK⟩ : ∃ K : Int, K = ((j + 1 : Nat) : Int) := ⟨_, rfl⟩
    rw [← hK] at d0 e2 ⊢
    have k1 : K ≤ 65536 := by omega
    have k0 : 1 ≤ K := by omega
    clear hK h0 e1 h
    go_enter Try.func24, Try.ntmps24
    go_wp2_with fail
    refine WA.out.mono ?_
    rintro e w' ⟨rfl, rfl⟩
    clear WA
    go_wp2
    go_ret
    exact ⟨rfl, rfl⟩
end Go.Proofs.Ytgnaeajfajineaa
