/- Lengths of one bucket: the walk. -/
import Derived.Test.YtfoghkjlpdjmiaaAw19
namespace Go.Proofs.Ytfoghkjlpdjmiaa
open Go.RowKit

theorem made_pad (a : Nat) (ha : a < 4096) (W : World) : ∃ wm, (Instr.makeSlice 28 (.int .i64 (a : Int)) (.int .i64 (a : Int))).run Try.prog W = .ok (.slice (some ⟨W.heap.size, 0, none⟩) a a) wm ∧ Only (fun _ => False) W wm ∧
    Calls Try.prog 14 #[.slice (some ⟨W.heap.size, 0, none⟩) a a] wm fun e w' => ∃ r, e = .returned (.tuple #[r, .int .i64 0]) ∧ (∃ ao c, r = .slice ao (PLN a) c) ∧ Only (fun _ => False) W w' := by
  obtain ⟨wm, h1, h2, h3⟩ := mk_blk0 W a (by omega)
  refine ⟨wm, h1, h3, ?_⟩
  have hl : (List.replicate a (0 : Int)).length = a := List.length_replicate ..
  have b : Bs .u8 wm (.slice (some ⟨W.heap.size, 0, none⟩) a a) (List.replicate a 0) := by
    have := own_of_blk (base := W.heap.size) h2 (Nat.le_refl _) (n := a) (by unfold maxLen; omega) (by rw [bl_len, hl])
    exact Bs.of_own (k := .u8) (E := 5) (lo := W.heap.size) (by rw [hl]; exact this)
  refine (pad_own _ _ wm b (by rw [hl]; omega)).mono ?_
  rintro e w' ⟨r, rfl, own, o⟩
  refine ⟨r, rfl, ?_, h3.same o⟩
  rw [PADL_len _ (by rw [hl]; omega), hl] at own
  exact own_form own
set_option maxHeartbeats 1600000 in
set_option maxRecDepth 100000 in
theorem lengths_walk (n m : Int) (w : World) : Calls Try.prog 7 #[.int .i64 n, .int .i64 m] w fun e w' => e = .returned (.bool true) ∧ Below w.heap.size w w' := by
  have A := hideIt (awake_any w)
  have hand1 := i64_low n 12 (by decide)
  have hand2 := i64_low m 12 (by decide)
  rw [show ((2 ^ 12 - 1 : Nat) : Int) = 4095 from rfl, show ((2 ^ 12 : Nat) : Int) = 4096 from rfl] at hand1 hand2
  obtain ⟨a, ha⟩ : ∃ a : Nat, n % 4096 = (a : Int) := ⟨(n % 4096).toNat, by omega⟩
  obtain ⟨b, hb⟩ : ∃ b : Nat, m % 4096 = (b : Int) := ⟨(m % 4096).toNat, by omega⟩
  rw [ha] at hand1
  rw [hb] at hand2
  have ha4 : a < 4096 := by omega
  have hb4 : b < 4096 := by omega
  have MA := hideIt (made_pad a ha4)
  have MB := hideIt (made_pad b hb4)
  have BA := hideIt (fun (W : World) => bucket_any (a : Int) W)
  have BB := hideIt (fun (W : World) => bucket_any (b : Int) W)
  have e1 := BKV_nat (n := a) (by omega)
  have e2 := BKV_nat (n := b) (by omega)
  simp only [e1.1, e1.2] at BA
  simp only [e2.1, e2.2] at BB
  have S := hideIt (fun (W : World) => size_any (PBK a : Int) W)
  simp only [SZV_bk] at S
  have K1 : (((PLN a : Nat) : Int) == ((PLN b : Nat) : Int)) = true ∧ (((PBK a : Nat) : Int) == ((PBK b : Nat) : Int)) = true ∨ (((PLN a : Nat) : Int) == ((PLN b : Nat) : Int)) = false ∧ (((PBK a : Nat) : Int) == ((PBK b : Nat) : Int)) = false := by
    by_cases h : PBK a = PBK b
    · refine .inl ⟨?_, ?_⟩
      · unfold PLN; rw [h, beq_iff_eq]
      · rw [h, beq_iff_eq]
    · refine .inr ⟨?_, ?_⟩
      · rw [beq_eq_false_iff_ne]
        intro e
        exact h (PSZ_inj (show PSZ (PBK a) = PSZ (PBK b) from by unfold PLN at e; omega))
      · rw [beq_eq_false_iff_ne]; omega
  have K2 : Hid (a ≤ b → PBK a ≤ PBK b) := fun h => PBK_mono h
  have HA8 := PBK_le a
  have HB8 := PBK_le b
  generalize PLN a = p at *
  generalize PLN b = q at *
  generalize PBK a = i at *
  generalize PBK b = j at *
  have HK1 := hideIt K1
  clear ha hb e1 e2 K1
  go_enter Try.func7, Try.ntmps7
  go_wp2_with fail
  refine A.out.mono ?_
  rintro e w1 ⟨rfl, o1⟩
  have O1 := hideIt o1
  obtain ⟨wm, hmk, om, CA⟩ := MA.out w1
  have CA := hideIt CA
  clear o1 A om
  go_wp2_with fail
  refine CA.out.mono ?_
  rintro e w2 ⟨r2, rfl, ⟨ao2, c2, e2⟩, o2⟩
  subst e2
  have O2 := hideIt (O1.out.same o2)
  obtain ⟨wn, hmn, on, CB⟩ := MB.out w2
  have CB := hideIt CB
  clear o2 O1 CA hmk on
  go_wp2_with fail
  refine CB.out.mono ?_
  rintro e w3 ⟨r3, rfl, ⟨ao3, c3, e3⟩, o3⟩
  subst e3
  have O3 := hideIt (O2.out.same o3)
  clear o3 O2 CB hmn
  go_wp2_with fail
  refine (BA.out w3).mono ?_
  rintro e w4 ⟨rfl, o4⟩
  have O4 := hideIt (O3.out.same o4)
  clear o4 O3 BA
  go_wp2_with fail
  refine (BB.out w4).mono ?_
  rintro e w5 ⟨rfl, o5⟩
  have O5 := hideIt (O4.out.same o5)
  clear o5 O4 BB
  have TEST : decide (b < a) = true ∨ decide (b < a) = false ∧ decide (i ≤ j) = true := by
    rcases Nat.lt_or_ge b a with h | h
    · exact .inl (decide_eq_true h)
    · exact .inr ⟨decide_eq_false (by omega), decide_eq_true (K2.out h)⟩
  have hk1 := HK1.out
  clear HK1 K2
  rcases hk1 with ⟨t1, t2⟩ | ⟨t1, t2⟩ <;> rcases TEST with h1 | ⟨h1, h2⟩
  all_goals
    go_wp2_with fail
    refine (S.out w5).mono ?_
    rintro e w6 ⟨rfl, o6⟩
    have O6 := hideIt (O5.out.same o6)
    clear o6 O5 S
    go_wp2
    go_ret
    exact ⟨rfl, O6.out.low (Nat.le_refl _)⟩
end Go.Proofs.Ytfoghkjlpdjmiaa
