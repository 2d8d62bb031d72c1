/- Cut in two anywhere: the walk. -/
import Derived.Test.YtmkfgfcncklchaaAw
namespace Go.Proofs.Ytmkfgfcncklchaa
open Go.RowKit

theorem sha32c (b : List Int) : (SHA b).length ≤ 140737488355328 := by rw [SHA_len]; decide
set_option maxHeartbeats 800000 in
set_option maxRecDepth 100000 in
theorem cut_walk (v : Value) (xs : List Int) (c : Int) (w : World) (hb : Bs .u8 w v xs) (h8 : U8 xs) :
    Calls Try.prog 5 #[v, .int .i64 c] w fun e w' => e = .returned (.bool true) ∧ Below w.heap.size w w' := by
  obtain ⟨ao, cap, rfl⟩ := hb.len
  have A := hideIt (awake_any w)
  by_cases hl : 2000 < xs.length
  · have d0 : decide ((2000 : Int) < (xs.length : Int)) = true := decide_eq_true (by omega)
    clear hb h8
    generalize xs.length = n at *
    go_enter Try.func5, Try.ntmps5
    go_wp2_with fail
    refine A.out.mono ?_
    rintro e w1 ⟨rfl, o1⟩
    have O1 := hideIt o1
    clear o1 A
    go_wp2
    go_ret
    exact ⟨rfl, O1.out.low (Nat.le_refl _)⟩
  · have d0 : decide ((2000 : Int) < (xs.length : Int)) = false := decide_eq_false (by omega)
    have hlow := i64_low c 11 (by decide)
    simp only [Nat.reducePow, Nat.reduceSub] at hlow
    obtain ⟨cc, hcc⟩ : ∃ cc : Nat, c % 2048 = (cc : Int) := ⟨(c % 2048).toNat, by omega⟩
    have hbit : bits .and .i64 c 2047 = (cc : Int) := by rw [← hcc]; exact hlow
    obtain ⟨n, hn⟩ : ∃ n, n = xs.length := ⟨_, rfl⟩
    rw [← hn] at d0 hb ⊢
    have hn2 : n ≤ 2000 := by omega
    have hcap : n ≤ cap := by obtain ⟨_, _, e, h, _⟩ := hb; simp at e; obtain ⟨_, e, rfl⟩ := e; omega
    have hzv := (zero_of_info (P := Try.prog) Try.zero33).1
    obtain ⟨Z, hZ⟩ : ∃ Z, Z = zH := ⟨_, rfl⟩
    rw [← hZ] at hzv
    have HZ := hideIt hZ
    have HB := hideIt (And.intro hb (And.intro h8 hn))
    clear hb h8 hl hlow hn hZ
    by_cases hnc : n < cc
    · have d1 : decide ((n : Int) < (cc : Int)) = true := decide_eq_true (by omega)
      have hkn : n ≤ n := by omega
      have hk2 : (n : Int) ≤ (n : Int) := by omega
      have HX := hideIt hcc
      clear hcc
      go_enter Try.func5, Try.ntmps5
      go_wp2_with fail
      refine A.out.mono ?_
      rintro e w1 ⟨rfl, o1⟩
      have O1 := hideIt o1
      clear o1 A
      obtain ⟨X, hX⟩ : ∃ X, X = (w1.alloc (.cells Z.toArray 33)) := ⟨_, rfl⟩
      have oX : Only (fun _ => False) w1 X := by rw [hX]; exact (Only.refl _ _).alloc _
      have hN : Hs X w1.heap.size [] := by rw [hX]; exact Hs.zero (by rw [← HZ.out]; exact Blk.new w1 33 Z)
      have bX := HB.out.1.past (O1.out.same oX)
      have ne : ∀ (ys : List Int) (u : Value), Bs .u8 w1 u ys → ys ≠ [] → ∀ j, u.ownBlock = some j → j ≠ w1.heap.size := fun ys u hu hne j hj e => by
        have := hu.blk_lt hne j hj; omega
      have bW := HB.out.1.past O1.out
      have W1 := hideIt (write_hs w1.heap.size [] (xs.take n) (.slice ao n cap) X hN (bX.head hkn) (HB.out.2.1.take _) (ne _ _ (bW.head hkn)) (by rw [List.length_take]; have := HB.out.2.2; simp; omega))
      obtain ⟨A2, hA2, hBA⟩ : ∃ A2, (if cap = n then ao else ao.map (fun x => x.add n)) = A2 ∧ Bs .u8 w1 (.slice A2 0 (cap - n)) (xs.drop n) := by
        by_cases hck : cap = n
        · refine ⟨_, if_pos hck, ?_⟩
          have b0 := bW
          rw [hck] at b0
          have h0 := b0.cut0 hkn
          rw [hck]
          simp only [Nat.sub_self] at h0 ⊢
          exact h0
        · refine ⟨_, if_neg hck, ?_⟩
          have h0 := bW.cut hkn
          rw [Nat.sub_self] at h0
          exact h0
      have NE := hideIt (ne _ _ hBA)
      have HBA := hideIt hBA
      rw [hX] at W1 oX
      have OX := hideIt oX
      clear hX oX hN bX ne bW hBA
      go_wp2_with fail
      refine W1.out.mono ?_
      rintro e w3 ⟨rfl, hs3, on3⟩
      rw [List.nil_append] at hs3
      have o3 : Only (fun k => k = w1.heap.size) w1 w3 := (OX.out.mono (fun _ _ f => f.elim)).trans on3 (fun _ _ e => e)
      have O3 := hideIt (O1.out.trans o3 (fun i hi e => by have := O1.out.size; omega))
      have W2 := hideIt (write_hs w1.heap.size (xs.take n) (xs.drop n) (.slice A2 0 (cap - n)) w3 (.inl hs3) (HBA.out.keepN o3 (fun hne j hj e => NE.out hne j hj e)) (HB.out.2.1.drop _) NE.out (by rw [List.length_take, List.length_drop]; have := HB.out.2.2; omega))
      rw [List.take_append_drop] at W2
      have LX : Hid (xs.length ≤ 2000) := by rw [← HB.out.2.2]; exact hn2
      clear W1 hs3 on3 o3 NE HBA OX
      go_wp2_with fail
      refine W2.out.mono ?_
      rintro e w4 ⟨rfl, hs4, on4⟩
      have O4 := hideIt (O3.out.trans on4 (fun i hi e => by have := O1.out.size; omega))
      have S1 := hideIt (hsum_hs w1.heap.size xs w4 (.inl hs4) (Nat.le_trans LX.out (by decide)))
      clear W2 hs4 on4 O3 hA2
      go_wp2_with fail
      refine S1.out.mono ?_
      rintro e w5 ⟨v5, rfl, own5, o5⟩
      obtain ⟨b5, g5, c5, rfl, _⟩ := sum_form own5
      have O5 := hideIt (O4.out.same o5)
      have B5 := hideIt b5
      have S2 := hideIt (sum_bs _ xs w5 (HB.out.1.past O5.out) HB.out.2.1 (Nat.le_trans LX.out (by decide)))
      clear o5 own5 b5 S1
      go_wp2_with fail
      refine S2.out.mono ?_
      rintro e w6 ⟨v6, rfl, own6, o6⟩
      obtain ⟨b6, g6, c6, rfl, _⟩ := sum_form own6
      have O6 := hideIt (O5.out.same o6)
      have S3 := hideIt (lsame_eq _ _ (SHA xs) w6 (B5.out.past o6) b6 (sha32c _))
      clear o6 own6 b6 S2 B5
      go_wp2_with fail
      refine S3.out.mono ?_
      rintro e w7 ⟨rfl, o7⟩
      have O7 := hideIt (O6.out.same o7)
      clear o7 S3
      go_wp2
      go_ret
      exact ⟨rfl, O7.out.low (Nat.le_refl _)⟩
    · have d1 : decide ((n : Int) < (cc : Int)) = false := decide_eq_false (by omega)
      have hkn : cc ≤ n := by omega
      have hk2 : (cc : Int) ≤ (n : Int) := by omega
      have HX := hideIt hcc
      clear hcc
      go_enter Try.func5, Try.ntmps5
      go_wp2_with fail
      refine A.out.mono ?_
      rintro e w1 ⟨rfl, o1⟩
      have O1 := hideIt o1
      clear o1 A
      obtain ⟨X, hX⟩ : ∃ X, X = (w1.alloc (.cells Z.toArray 33)) := ⟨_, rfl⟩
      have oX : Only (fun _ => False) w1 X := by rw [hX]; exact (Only.refl _ _).alloc _
      have hN : Hs X w1.heap.size [] := by rw [hX]; exact Hs.zero (by rw [← HZ.out]; exact Blk.new w1 33 Z)
      have bX := HB.out.1.past (O1.out.same oX)
      have ne : ∀ (ys : List Int) (u : Value), Bs .u8 w1 u ys → ys ≠ [] → ∀ j, u.ownBlock = some j → j ≠ w1.heap.size := fun ys u hu hne j hj e => by
        have := hu.blk_lt hne j hj; omega
      have bW := HB.out.1.past O1.out
      have W1 := hideIt (write_hs w1.heap.size [] (xs.take cc) (.slice ao cc cap) X hN (bX.head hkn) (HB.out.2.1.take _) (ne _ _ (bW.head hkn)) (by rw [List.length_take]; have := HB.out.2.2; simp; omega))
      obtain ⟨A2, hA2, hBA⟩ : ∃ A2, (if cap = cc then ao else ao.map (fun x => x.add cc)) = A2 ∧ Bs .u8 w1 (.slice A2 (n - cc) (cap - cc)) (xs.drop cc) := by
        by_cases hck : cap = cc
        · refine ⟨_, if_pos hck, ?_⟩
          have b0 := bW
          rw [hck] at b0
          have h0 := b0.cut0 hkn
          rw [hck]
          rw [Nat.sub_self]
          exact h0
        · refine ⟨_, if_neg hck, ?_⟩
          have h0 := bW.cut hkn
          exact h0
      have NE := hideIt (ne _ _ hBA)
      have HBA := hideIt hBA
      rw [hX] at W1 oX
      have OX := hideIt oX
      clear hX oX hN bX ne bW hBA
      go_wp2_with fail
      refine W1.out.mono ?_
      rintro e w3 ⟨rfl, hs3, on3⟩
      rw [List.nil_append] at hs3
      have o3 : Only (fun k => k = w1.heap.size) w1 w3 := (OX.out.mono (fun _ _ f => f.elim)).trans on3 (fun _ _ e => e)
      have O3 := hideIt (O1.out.trans o3 (fun i hi e => by have := O1.out.size; omega))
      have W2 := hideIt (write_hs w1.heap.size (xs.take cc) (xs.drop cc) (.slice A2 (n - cc) (cap - cc)) w3 (.inl hs3) (HBA.out.keepN o3 (fun hne j hj e => NE.out hne j hj e)) (HB.out.2.1.drop _) NE.out (by rw [List.length_take, List.length_drop]; have := HB.out.2.2; omega))
      rw [List.take_append_drop] at W2
      have LX : Hid (xs.length ≤ 2000) := by rw [← HB.out.2.2]; exact hn2
      clear W1 hs3 on3 o3 NE HBA OX
      go_wp2_with fail
      refine W2.out.mono ?_
      rintro e w4 ⟨rfl, hs4, on4⟩
      have O4 := hideIt (O3.out.trans on4 (fun i hi e => by have := O1.out.size; omega))
      have S1 := hideIt (hsum_hs w1.heap.size xs w4 (.inl hs4) (Nat.le_trans LX.out (by decide)))
      clear W2 hs4 on4 O3 hA2
      go_wp2_with fail
      refine S1.out.mono ?_
      rintro e w5 ⟨v5, rfl, own5, o5⟩
      obtain ⟨b5, g5, c5, rfl, _⟩ := sum_form own5
      have O5 := hideIt (O4.out.same o5)
      have B5 := hideIt b5
      have S2 := hideIt (sum_bs _ xs w5 (HB.out.1.past O5.out) HB.out.2.1 (Nat.le_trans LX.out (by decide)))
      clear o5 own5 b5 S1
      go_wp2_with fail
      refine S2.out.mono ?_
      rintro e w6 ⟨v6, rfl, own6, o6⟩
      obtain ⟨b6, g6, c6, rfl, _⟩ := sum_form own6
      have O6 := hideIt (O5.out.same o6)
      have S3 := hideIt (lsame_eq _ _ (SHA xs) w6 (B5.out.past o6) b6 (sha32c _))
      clear o6 own6 b6 S2 B5
      go_wp2_with fail
      refine S3.out.mono ?_
      rintro e w7 ⟨rfl, o7⟩
      have O7 := hideIt (O6.out.same o7)
      clear o7 S3
      go_wp2
      go_ret
      exact ⟨rfl, O7.out.low (Nat.le_refl _)⟩
end Go.Proofs.Ytmkfgfcncklchaa
