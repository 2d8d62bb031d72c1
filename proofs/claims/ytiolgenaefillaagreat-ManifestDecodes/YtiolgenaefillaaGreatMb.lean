/- Package manifest: what an entry must be: is its bucket one, is its tenant too long; has a slice of entries one that is so? -/
import Derived.Test.YtiolgenaefillaaGreatG8
import Derived.Test.YtiolgenaefillaaGreatG9
namespace Go.Proofs.YtiolgenaefillaaGreat
open Go.RowKit

/-- is it one of the nine buckets? -/
def okB (k : Int) : Bool := decide (0 ≤ k ∧ k ≤ 8)
theorem szv_pos (k : Int) : decide (0 < SZV k) = okB k := by
  unfold SZV okB
  by_cases h : 0 ≤ k ∧ k ≤ 8
  · rw [if_pos h, decide_eq_true h]
    have : ∀ n : Nat, n < 9 → 0 < PSZ n := by decide
    have := this k.toNat (by omega)
    simp; omega
  · rw [if_neg h, decide_eq_false h]; rfl
theorem isBucket_any (k : Int) (w : World) : Calls Tryz.prog 48 #[.int .i64 k] w fun e w' => e = .returned (.bool (okB k)) ∧ Only (fun _ => False) w w' := by
  have A := hideIt (psize_any k w)
  rw [← szv_pos k]
  generalize SZV k = z at *
  go_enter Tryz.func48, Tryz.ntmps48
  go_wp2_with fail
  refine A.out.mono ?_
  rintro e w1 ⟨rfl, o1⟩
  have O := hideIt o1
  clear A o1
  go_wp2
  go_ret
  exact ⟨rfl, O.out⟩
theorem hasNoBucket_any (t : ByteArray) (k : Int) (w : World) : Calls Tryz.prog 19 #[.agg #[.string t, .int .i64 k]] w fun e w' => e = .returned (.bool (!okB k)) ∧ Only (fun _ => False) w w' := by
  have A := hideIt (isBucket_any k)
  generalize okB k = z at *
  go_enter Tryz.func19, Tryz.ntmps19
  go_wp2_with fail
  refine (A.out _).mono ?_
  rintro e w1 ⟨rfl, o1⟩
  have O := hideIt (Only.same ((Only.refl _ w).alloc _) o1)
  clear A o1
  go_wp2
  go_ret
  exact ⟨rfl, O.out⟩
theorem hasLongTenant_any (t : ByteArray) (k : Int) (w : World) : Calls Tryz.prog 20 #[.agg #[.string t, .int .i64 k]] w fun e w' => e = .returned (.bool (decide (64 < t.size))) ∧ Only (fun _ => False) w w' := by
  have O : Hid (∀ o, Only (fun _ => False) w (w.alloc o)) := fun o => (Only.refl _ w).alloc o
  have e1 : decide (64 < t.size) = decide ((64 : Int) < (t.size : Int)) := by simp only [decide_eq_decide]; omega
  rw [e1]
  clear e1
  go_enter Tryz.func20, Tryz.ntmps20
  go_wp2
  go_ret
  exact ⟨rfl, O.out _⟩
theorem any_no {α : Type} {s : List α} {p : α → Bool} {d : α} (h : ∀ j, j < s.length → p (s.getD j d) = false) : s.any p = false := by
  rw [List.any_eq_false]
  intro x hx
  obtain ⟨j, hj, rfl⟩ := List.getElem_of_mem hx
  have := h j hj
  rw [List.getD_eq_getElem?_getD, List.getElem?_eq_getElem hj] at this
  simpa using this
theorem eget_mem {α : Type} {s : List α} {k : Nat} {d : α} (h : k < s.length) : s.getD k d ∈ s := by
  rw [List.getD_eq_getElem?_getD, List.getElem?_eq_getElem h]; exact List.getElem_mem h
set_option maxHeartbeats 1000000 in
set_option maxRecDepth 100000 in
theorem indexFunc24_any (v : Value) (s : List (List Int × Int)) (w : World) (h : Ens w v s) (hl : s.length ≤ 9223372036854775806) :
    Calls Tryz.prog 47 #[v, .func (.func 19) #[] #[]] w fun e w' => (∃ i : Int, e = .returned (.int .i64 i) ∧ decide (0 ≤ i) = s.any (fun e : List Int × Int => !okB e.2)) ∧ Only (fun _ => False) w w' := by
  obtain ⟨ao, cap, rfl⟩ := h.len
  have HB := hideIt h
  have HG : Hid (∀ e ∈ s, ∀ W, Calls Tryz.prog 19 #[.agg #[.string (strOfNums e.1), .int .i64 e.2]] W fun r W' => r = .returned (.bool ((fun e : List Int × Int => !okB e.2) e)) ∧ Only (fun _ => False) W W') := by
    intro e he W
    exact hasNoBucket_any _ _ W
  obtain ⟨m, hm⟩ : ∃ m, m = s.length := ⟨_, rfl⟩
  rw [← hm] at HB hl
  rw [← hm]
  have HM := hideIt hm
  have R0 := hideIt (Only.refl (fun _ => False) w)
  clear h hm
  generalize (fun e : List Int × Int => !okB e.2) = p at *
  go_enter Tryz.func47, Tryz.ntmps47
  go_wp2
  go_loopw [8] (fun i wr => ∃ k : Nat, k ≤ m ∧ i = .int .i64 k ∧ (∀ j, j < k → p (s.getD j ([], 0)) = false) ∧ Only (fun _ => False) w wr) (fun i _ => m - (intOf i).toNat)
  case atStart => exact ⟨0, Nat.zero_le _, rfl, fun j hj => by omega, R0.out⟩
  case round =>
    clear R0
    obtain ⟨k, hk, rfl, hno, ho⟩ := hrel
    have HN := hideIt hno
    have HO := hideIt ho
    clear hno ho
    by_cases hlt : k < m
    · obtain ⟨b, off, cap', e, hc0, hc1⟩ := (HB.out.past HO.out).at k (by rw [← HM.out]; exact hlt)
      simp only [Value.slice.injEq] at e
      obtain ⟨rfl, hmx, rfl⟩ := e
      clear hmx
      have hmem : s.getD k ([], 0) ∈ s := eget_mem (by rw [← HM.out]; exact hlt)
      have C := hideIt (HG.out _ hmem wr)
      obtain ⟨x, hx⟩ : ∃ x, x = s.getD k ([], 0) := ⟨_, rfl⟩
      have HX := hideIt hx
      rw [← hx] at C hc0 hc1 hmem
      have i1 : (k : Int) < (m : Int) := by omega
      have HM2 := hideIt hmem
      clear hx hmem
      cases hp : p x with
      | true =>
        rw [hp] at C
        go_wp2_with fail
        refine C.out.mono ?_
        rintro e w1 ⟨rfl, o1⟩
        have O1 := hideIt (HO.out.same o1)
        clear C o1 HB HG
        go_wp2
        go_ret
        exact ⟨⟨_, rfl, by rw [decide_eq_true (by omega : (0 : Int) ≤ (k : Int))]; exact (List.any_eq_true.2 ⟨x, HM2.out, hp⟩).symm⟩, O1.out⟩
      | false =>
        rw [hp] at C
        go_wp2_with fail
        refine C.out.mono ?_
        rintro e w1 ⟨rfl, o1⟩
        have O1 := hideIt (HO.out.same o1)
        clear C o1
        go_wp2
        go_roundw
        case rel =>
          refine ⟨k + 1, by omega, by go_num, fun j hj => ?_, O1.out⟩
          rcases Nat.lt_succ_iff_lt_or_eq.1 hj with h1 | rfl
          · exact HN.out j h1
          · rw [← HX.out]; exact hp
        case measure => simp [intOf]; omega
    · obtain rfl : k = m := by omega
      have HA := hideIt (any_no (p := p) (s := s) (d := ([], 0)) (fun j hj => HN.out j (by rw [HM.out]; exact hj)))
      clear HB HG HN
      go_wp2
      go_ret
      exact ⟨⟨_, rfl, by rw [HA.out]; rfl⟩, HO.out⟩
set_option maxHeartbeats 400000 in
theorem containsFunc24_any (v : Value) (s : List (List Int × Int)) (w : World) (h : Ens w v s) (hl : s.length ≤ 9223372036854775806) :
    Calls Tryz.prog 18 #[v, .func (.func 19) #[] #[]] w fun e w' => e = .returned (.bool (s.any (fun e : List Int × Int => !okB e.2))) ∧ Only (fun _ => False) w w' := by
  have A := hideIt (indexFunc24_any v s w h hl)
  generalize s.any (fun e : List Int × Int => !okB e.2) = z at *
  clear h hl
  go_enter Tryz.func18, Tryz.ntmps18
  go_wp2_with fail
  refine A.out.mono ?_
  rintro e w1 ⟨⟨i, rfl, hi⟩, o1⟩
  have O := hideIt o1
  have HI := hideIt hi
  clear A o1 hi
  go_wp2
  go_ret
  exact ⟨by rw [← HI.out]; rfl, O.out⟩
set_option maxHeartbeats 1000000 in
set_option maxRecDepth 100000 in
theorem indexFunc25_any (v : Value) (s : List (List Int × Int)) (w : World) (h : Ens w v s) (hl : s.length ≤ 9223372036854775806) (hu : EU8 s) :
    Calls Tryz.prog 47 #[v, .func (.func 20) #[] #[]] w fun e w' => (∃ i : Int, e = .returned (.int .i64 i) ∧ decide (0 ≤ i) = s.any (fun e : List Int × Int => decide (64 < e.1.length))) ∧ Only (fun _ => False) w w' := by
  obtain ⟨ao, cap, rfl⟩ := h.len
  have HB := hideIt h
  have HG : Hid (∀ e ∈ s, ∀ W, Calls Tryz.prog 20 #[.agg #[.string (strOfNums e.1), .int .i64 e.2]] W fun r W' => r = .returned (.bool ((fun e : List Int × Int => decide (64 < e.1.length)) e)) ∧ Only (fun _ => False) W W') := by
    intro e he W
    refine (hasLongTenant_any _ _ W).mono ?_
    rintro r W' ⟨rfl, o⟩
    refine ⟨?_, o⟩
    have e1 : (strOfNums e.1).size = e.1.length := by rw [← sb_len, sb_of (hu e he)]
    rw [e1]
  obtain ⟨m, hm⟩ : ∃ m, m = s.length := ⟨_, rfl⟩
  rw [← hm] at HB hl
  rw [← hm]
  have HM := hideIt hm
  have R0 := hideIt (Only.refl (fun _ => False) w)
  clear h hm hu
  generalize (fun e : List Int × Int => decide (64 < e.1.length)) = p at *
  go_enter Tryz.func47, Tryz.ntmps47
  go_wp2
  go_loopw [8] (fun i wr => ∃ k : Nat, k ≤ m ∧ i = .int .i64 k ∧ (∀ j, j < k → p (s.getD j ([], 0)) = false) ∧ Only (fun _ => False) w wr) (fun i _ => m - (intOf i).toNat)
  case atStart => exact ⟨0, Nat.zero_le _, rfl, fun j hj => by omega, R0.out⟩
  case round =>
    clear R0
    obtain ⟨k, hk, rfl, hno, ho⟩ := hrel
    have HN := hideIt hno
    have HO := hideIt ho
    clear hno ho
    by_cases hlt : k < m
    · obtain ⟨b, off, cap', e, hc0, hc1⟩ := (HB.out.past HO.out).at k (by rw [← HM.out]; exact hlt)
      simp only [Value.slice.injEq] at e
      obtain ⟨rfl, hmx, rfl⟩ := e
      clear hmx
      have hmem : s.getD k ([], 0) ∈ s := eget_mem (by rw [← HM.out]; exact hlt)
      have C := hideIt (HG.out _ hmem wr)
      obtain ⟨x, hx⟩ : ∃ x, x = s.getD k ([], 0) := ⟨_, rfl⟩
      have HX := hideIt hx
      rw [← hx] at C hc0 hc1 hmem
      have i1 : (k : Int) < (m : Int) := by omega
      have HM2 := hideIt hmem
      clear hx hmem
      cases hp : p x with
      | true =>
        rw [hp] at C
        go_wp2_with fail
        refine C.out.mono ?_
        rintro e w1 ⟨rfl, o1⟩
        have O1 := hideIt (HO.out.same o1)
        clear C o1 HB HG
        go_wp2
        go_ret
        exact ⟨⟨_, rfl, by rw [decide_eq_true (by omega : (0 : Int) ≤ (k : Int))]; exact (List.any_eq_true.2 ⟨x, HM2.out, hp⟩).symm⟩, O1.out⟩
      | false =>
        rw [hp] at C
        go_wp2_with fail
        refine C.out.mono ?_
        rintro e w1 ⟨rfl, o1⟩
        have O1 := hideIt (HO.out.same o1)
        clear C o1
        go_wp2
        go_roundw
        case rel =>
          refine ⟨k + 1, by omega, by go_num, fun j hj => ?_, O1.out⟩
          rcases Nat.lt_succ_iff_lt_or_eq.1 hj with h1 | rfl
          · exact HN.out j h1
          · rw [← HX.out]; exact hp
        case measure => simp [intOf]; omega
    · obtain rfl : k = m := by omega
      have HA := hideIt (any_no (p := p) (s := s) (d := ([], 0)) (fun j hj => HN.out j (by rw [HM.out]; exact hj)))
      clear HB HG HN
      go_wp2
      go_ret
      exact ⟨⟨_, rfl, by rw [HA.out]; rfl⟩, HO.out⟩
set_option maxHeartbeats 400000 in
theorem containsFunc25_any (v : Value) (s : List (List Int × Int)) (w : World) (h : Ens w v s) (hl : s.length ≤ 9223372036854775806) (hu : EU8 s) :
    Calls Tryz.prog 18 #[v, .func (.func 20) #[] #[]] w fun e w' => e = .returned (.bool (s.any (fun e : List Int × Int => decide (64 < e.1.length)))) ∧ Only (fun _ => False) w w' := by
  have A := hideIt (indexFunc25_any v s w h hl hu)
  generalize s.any (fun e : List Int × Int => decide (64 < e.1.length)) = z at *
  clear h hl hu
  go_enter Tryz.func18, Tryz.ntmps18
  go_wp2_with fail
  refine A.out.mono ?_
  rintro e w1 ⟨⟨i, rfl, hi⟩, o1⟩
  have O := hideIt o1
  have HI := hideIt hi
  clear A o1 hi
  go_wp2
  go_ret
  exact ⟨by rw [← HI.out]; rfl, O.out⟩
end Go.Proofs.YtiolgenaefillaaGreat
