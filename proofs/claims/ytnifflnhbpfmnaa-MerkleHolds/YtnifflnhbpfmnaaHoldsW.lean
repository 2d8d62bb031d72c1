/- The walk of MerkleHolds. -/
import Derived.Test.YtnifflnhbpfmnaaProvesW
namespace Go.Proofs.Ytnifflnhbpfmnaa
open Go.RowKit
set_option linter.unusedVariables false

theorem NBT_wid (n : Nat) : NBT n = wid n := rfl
set_option maxHeartbeats 400000 in
set_option maxRecDepth 100000 in
theorem lbits_any (n : Nat) (hn : n ≤ 1000000000) (w : World) : Calls Try.prog 25 #[.int .i64 n] w fun e w' => e = .returned (.int .i64 (wid n)) ∧ w = w' := by
  have h30 : wid n ≤ 30 := (wid_le_iff n 30).2 (by omega)
  obtain ⟨y, hy⟩ : ∃ y, y = wid n := ⟨_, rfl⟩
  rw [← hy] at h30 ⊢
  have HY := hideIt hy
  clear hy
  go_enter Try.func25, Try.ntmps25
  go_wp2
  go_loop [0, 3] (fun x z => ∃ m k : Nat, x = .int .i64 (m : Int) ∧ z = .int .i64 (k : Int) ∧ m ≤ 1000000000 ∧ Hid (y = k + wid m)) (fun x _ => (intOf x).toNat)
  case atStart => exact ⟨n, 0, rfl, rfl, hn, by show _ = _; rw [Nat.zero_add]; exact HY.out⟩
  case round =>
    obtain ⟨m, k, rfl, rfl, hm, hk⟩ := hrel
    by_cases h0 : m = 0
    · subst h0
      have e : Hid (y = k) := by
        have := hk.out
        show y = k
        rw [this]; rfl
      clear hk HY
      go_wp2
      go_ret
      exact ⟨by rw [e.out]; rfl, rfl⟩
    · have d1 : decide ((0 : Int) < (m : Int)) = true := decide_eq_true (by omega)
      have d2 : decide (0 < m) = true := decide_eq_true (by omega)
      have hb : k ≤ 30 := by have := hk.out; omega
      have N1 : Hid (y = k + 1 + wid (m / 2)) := by
        have := hk.out
        rw [wid_half m (by omega)] at this
        show _ = _
        omega
      clear hk
      go_wp2
      go_round
      case rel => exact ⟨m / 2, k + 1, by go_num, by go_num, by omega, N1⟩
      case measure => simp [intOf]; omega

theorem holds_true {l : List (List Int)} {i j : Nat} (hl : l.length ≤ 1000000) (hij : i ≤ j) (hj : j < l.length) : VRF (TOP l) (l.length : Int) (i : Int) (PRT l i (j + 1)) (WALKL l i j) = true := by
  have hp := PRT_len l i (j + 1) (by omega)
  have h : RBA (l.length : Int) (i : Int) (PRT l i (j + 1)) := ⟨by omega, by omega, by omega, by omega, by omega⟩
  have hz : (WALKL l i j).length = MANY ((l.length : Int).toNat) ((i : Int).toNat) ((i : Int).toNat + (PRT l i (j + 1)).length - 1) := by
    rw [WALKL_len, Int.toNat_natCast, Int.toNat_natCast, hp, show i + (j + 1 - i) - 1 = j by omega]
  obtain ⟨e1, e2⟩ := RBE_ok (p := WALKL l i j) h hz
  unfold VRF
  rw [e1, e2, Int.toNat_natCast, Int.toNat_natCast, MADE_walk l i j hij hj]
  simp

set_option maxHeartbeats 1600000 in
set_option maxRecDepth 100000 in
theorem holds_walk (vl : Value) (l : List (List Int)) (i j : Int) (w : World) (rl : RL w vl l) (l8 : ∀ x ∈ l, U8 x) :
    Calls Try.prog 6 #[vl, .int .i64 i, .int .i64 j] w fun e w' => e = .returned (.bool true) ∧ Below w.heap.size w w' := by
  have A := hideIt (awake_any w)
  have FL := hideIt (fun (W : World) (o : Only (fun _ => False) w W) => few_any vl l 100 (by decide) W (rl.past o))
  rw [show ((100 : Nat) : Int) = 100 from rfl] at FL
  obtain ⟨D, hD⟩ : ∃ D, D = FEW l 100 := ⟨_, rfl⟩
  rw [← hD] at FL
  obtain ⟨n, hn⟩ : ∃ n, l.length = n := ⟨_, rfl⟩
  cases D with
  | false =>
    obtain ⟨aol, cl, evl, _⟩ := rl.len
    subst evl
    rw [hn] at FL ⊢
    clear rl l8 hD hn
    go_enter Try.func6, Try.ntmps6
    go_wp2_with fail
    refine A.out.mono ?_
    rintro e w1 ⟨rfl, o1⟩
    have F := hideIt (o1.low (Nat.le_refl _))
    have G := hideIt (FL.out w1 o1)
    clear o1 A FL
    go_wp2_with fail
    refine G.out.mono ?_
    rintro e w2 ⟨rfl, rfl⟩
    clear G
    go_wp2
    go_ret
    exact ⟨rfl, F.out⟩
  | true =>
    obtain ⟨l100, l5, _⟩ := FEW_r5 hD.symm l8
    have P := hideIt (fun (W : World) (o : Only (fun _ => False) w W) => prove_any vl l i j l5.r8 (by omega) W (rl.past o))
    by_cases h : PRA l i j
    · have e1 : PRE l i j = 0 := if_pos h
      have e2 : PRF l i j = WALKL l i.toNat j.toNat := if_pos h
      have P5 := PRF_r5 l5 i j
      have Pl := PRF_len l i j
      rw [e1, e2] at P
      rw [e2] at P5 Pl
      obtain ⟨i, rfl⟩ := Int.eq_ofNat_of_zero_le h.1
      obtain ⟨j, rfl⟩ := Int.eq_ofNat_of_zero_le (show 0 ≤ j by have := h.1; have := h.2.1; omega)
      have hij : i ≤ j := by have := h.2.1; omega
      have hj : j < n := by have := h.2.2; omega
      rw [Int.toNat_natCast, Int.toNat_natCast] at P P5 Pl
      obtain ⟨b, off, cap, evl, hcap⟩ := rl.form hn (by omega)
      have TF := hideIt (fun (W : World) (o : Only (fun _ => False) w W) => root_any l vl W (by omega) l5.r8 (rl.past o))
      have hpl := PRT_len l i (j + 1) (by omega)
      have X5 : R5 (PRT l i (j + 1)) := fun x hx => l5 x (List.mem_of_mem_drop (List.mem_of_mem_take hx))
      have V := hideIt (fun (W : World) (vr vp : Value) (o : Only (fun _ => False) w W) (hr : Bs .u8 W vr (TOP l)) (rp : RL W vp (WALKL l i j)) => verify_any vr (TOP l) (l.length : Int) (i : Int) (.slice (some ⟨b, off + i, none⟩) (j + 1 - i) (cap - i)) vp (PRT l i (j + 1)) (WALKL l i j) (TOP_r5 l5).1 X5.r8 P5.r8 (by omega) (by omega) W hr (by
        rw [evl] at rl
        exact (rl.past o).part i (j + 1) (by omega) (by omega)) rp)
      rw [holds_true (by omega) hij (by omega)] at V
      have BT := hideIt (lbits_any n (by omega))
      have ml : (WALKL l i j).length ≤ 2 * wid n := by
        rw [WALKL_len, ← NBT_wid, hn]
        exact MANY_le hij hj
      have w30 : wid n ≤ 30 := (wid_le_iff n 30).2 (by omega)
      subst evl
      rw [hn] at V
      obtain ⟨y, hy⟩ : ∃ y, y = (WALKL l i j).length := ⟨_, rfl⟩
      obtain ⟨Y, hY⟩ : ∃ Y, Y = TOP l := ⟨_, rfl⟩
      obtain ⟨Z, hZ⟩ : ∃ Z, Z = WALKL l i j := ⟨_, rfl⟩
      obtain ⟨z, hz⟩ : ∃ z, z = wid n := ⟨_, rfl⟩
      obtain ⟨j1, hj1⟩ : ∃ j1, j1 = j + 1 := ⟨_, rfl⟩
      obtain ⟨t, ht⟩ : ∃ t, t = j1 - i := ⟨_, rfl⟩
      rw [← hz] at BT w30 ml
      rw [← hy] at ml
      rw [← hY] at TF
      rw [← hj1, ← ht, ← hY, ← hZ] at V
      rw [← hZ] at P
      rw [← hZ] at hy
      have HY := hideIt hy
      have d1 : decide ((i : Int) < 0) = false := decide_eq_false (by omega)
      have d2 : decide ((j : Int) < (i : Int)) = false := decide_eq_false (by omega)
      have d2' : decide (j < i) = false := decide_eq_false (by omega)
      have d3 : decide ((n : Int) ≤ (j : Int)) = false := decide_eq_false (by omega)
      have d3' : decide (n ≤ j) = false := decide_eq_false (by omega)
      have g1 : (j : Int) + 1 = (j1 : Int) := by omega
      have g1w : IntKind.i64.wrap (j1 : Int) = (j1 : Int) := by rw [IntKind.wrap_i64]; omega
      have g2 : (0 : Int) ≤ (i : Int) := by omega
      have g3 : (i : Int) ≤ (j1 : Int) := by omega
      have g4 : (j1 : Int) ≤ (cap : Int) := by omega
      have g5 : ¬ cap = i := by omega
      have g6 : j1 - i = t := ht.symm
      obtain ⟨z2, hz2⟩ : ∃ z2, z2 = 2 * z := ⟨_, rfl⟩
      have g7 : (2 : Int) * (z : Int) = (z2 : Int) := by omega
      have g7w : IntKind.i64.wrap (z2 : Int) = (z2 : Int) := by rw [IntKind.wrap_i64]; omega
      have g8 : decide ((y : Int) ≤ (z2 : Int)) = true := decide_eq_true (by omega)
      have g8' : decide (y ≤ z2) = true := decide_eq_true (by omega)
      have jb : (j1 : Int) ≤ 1000000 := by omega
      clear rl l8 hD hn l100 l5 e1 e2 P5 Pl hij hj hcap hpl X5 ml w30 hy hY hZ hz hj1 ht h hz2
      go_enter Try.func6, Try.ntmps6
      go_wp2_with fail
      refine A.out.mono ?_
      rintro e w1 ⟨rfl, o1⟩
      have O1 := hideIt o1
      have G := hideIt (FL.out w1 o1)
      clear o1 A FL
      go_wp2_with fail
      refine G.out.mono ?_
      rintro e w2 ⟨rfl, rfl⟩
      have G2 := hideIt (P.out w1 O1.out)
      clear G P
      go_wp2_with fail
      refine G2.out.mono ?_
      rintro e w2 ⟨v2, rfl, r2, n2, o2⟩
      have O2 := hideIt (O1.out.same o2)
      have R2 := hideIt r2
      obtain ⟨ao2, cap2, e2, _⟩ := r2.len
      subst e2
      rw [← HY.out] at R2 ⊢
      clear G2 r2 n2 o2 O1
      go_wp2_with fail
      go_region_held (fun _ => True) (trivial) (first | (go_at_call 16; refine (TF.out _ (O2.out.drew)).mono ?_; rintro e w3 ⟨v3, rfl, own3, o3⟩; have O3 := hideIt ((O2.out.drew).same o3); have B3 := hideIt (And.intro (own_bs own3) (R2.out.past (((Only.refl (fun _ => False) w2).drew).same o3))); clear own3 o3 TF) | (go_at_call 23; refine (V.out _ _ _ O3.out B3.out.1 B3.out.2).mono ?_; rintro e w4 ⟨rfl, o4⟩; have O4 := hideIt (O3.out.same o4); clear o4 V) | (go_at_call 25; refine (BT.out _).mono ?_; rintro e w5 ⟨rfl, rfl⟩; clear BT))
      go_wp2
      go_ret
      exact ⟨by simp, O4.out.low (Nat.le_refl _)⟩
    · have e1 : PRE l i j = 1 := if_neg h
      have e2 : PRF l i j = [] := if_neg h
      rw [e1, e2] at P
      obtain ⟨aol, cl, evl, _⟩ := rl.len
      subst evl
      rw [hn] at FL P ⊢
      have hq : i < 0 ∨ (¬ i < 0 ∧ j < i) ∨ (¬ i < 0 ∧ ¬ j < i ∧ (n : Int) ≤ j) := by unfold PRA at h; omega
      clear rl l8 hD l100 l5 e1 e2 h hn
      rcases hq with h1 | ⟨h1, h2⟩ | ⟨h1, h2, h3⟩
      · have d1 : decide (i < 0) = true := decide_eq_true h1
        go_enter Try.func6, Try.ntmps6
        go_wp2_with fail
        refine A.out.mono ?_
        rintro e w1 ⟨rfl, o1⟩
        have O1 := hideIt o1
        have G := hideIt (FL.out w1 o1)
        clear o1 A FL
        go_wp2_with fail
        refine G.out.mono ?_
        rintro e w2 ⟨rfl, rfl⟩
        have G2 := hideIt (P.out w1 O1.out)
        clear G P
        go_wp2_with fail
        refine G2.out.mono ?_
        rintro e w2 ⟨v2, rfl, r2, n2, o2⟩
        have F := hideIt ((O1.out.same o2).low (Nat.le_refl _))
        obtain ⟨ao2, cap2, e2, _⟩ := r2.len
        subst e2
        rw [show ([] : List (List Int)).length = 0 from rfl]
        clear G2 r2 n2 o2 O1
        go_wp2
        go_ret
        exact ⟨rfl, F.out⟩
      · have d1 : decide (i < 0) = false := decide_eq_false h1
        have d2 : decide (j < i) = true := decide_eq_true h2
        go_enter Try.func6, Try.ntmps6
        go_wp2_with fail
        refine A.out.mono ?_
        rintro e w1 ⟨rfl, o1⟩
        have O1 := hideIt o1
        have G := hideIt (FL.out w1 o1)
        clear o1 A FL
        go_wp2_with fail
        refine G.out.mono ?_
        rintro e w2 ⟨rfl, rfl⟩
        have G2 := hideIt (P.out w1 O1.out)
        clear G P
        go_wp2_with fail
        refine G2.out.mono ?_
        rintro e w2 ⟨v2, rfl, r2, n2, o2⟩
        have F := hideIt ((O1.out.same o2).low (Nat.le_refl _))
        obtain ⟨ao2, cap2, e2, _⟩ := r2.len
        subst e2
        rw [show ([] : List (List Int)).length = 0 from rfl]
        clear G2 r2 n2 o2 O1
        go_wp2
        go_ret
        exact ⟨rfl, F.out⟩
      · have d1 : decide (i < 0) = false := decide_eq_false h1
        have d2 : decide (j < i) = false := decide_eq_false h2
        have d3 : decide ((n : Int) ≤ j) = true := decide_eq_true h3
        go_enter Try.func6, Try.ntmps6
        go_wp2_with fail
        refine A.out.mono ?_
        rintro e w1 ⟨rfl, o1⟩
        have O1 := hideIt o1
        have G := hideIt (FL.out w1 o1)
        clear o1 A FL
        go_wp2_with fail
        refine G.out.mono ?_
        rintro e w2 ⟨rfl, rfl⟩
        have G2 := hideIt (P.out w1 O1.out)
        clear G P
        go_wp2_with fail
        refine G2.out.mono ?_
        rintro e w2 ⟨v2, rfl, r2, n2, o2⟩
        have F := hideIt ((O1.out.same o2).low (Nat.le_refl _))
        obtain ⟨ao2, cap2, e2, _⟩ := r2.len
        subst e2
        rw [show ([] : List (List Int)).length = 0 from rfl]
        clear G2 r2 n2 o2 O1
        go_wp2
        go_ret
        exact ⟨rfl, F.out⟩
end Go.Proofs.Ytnifflnhbpfmnaa
