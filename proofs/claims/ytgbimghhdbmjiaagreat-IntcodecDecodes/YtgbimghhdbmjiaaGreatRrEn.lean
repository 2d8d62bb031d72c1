/- The reference's Encode of numbers as runs. -/
import Derived.Test.YtgbimghhdbmjiaaGreatG10
import Derived.Test.YtgbimghhdbmjiaaGreatG7
namespace Go.Proofs.YtgbimghhdbmjiaaGreat
open Go.RowKit

set_option maxHeartbeats 400000 in
set_option maxRecDepth 100000 in
theorem run_rencode_long (v : Value) (xs : List Int) (w : World) (h : Bs .u64 w v xs) (hl : 65536 < xs.length) :
    Calls Tryz.prog 90 #[v] w fun e w' => e = .returned (.tuple #[.slice none 0 0, .int .i64 4]) ∧ w = w' := by
  obtain ⟨ao, cap, rfl⟩ := h.len
  have d0 : decide ((65536 : Int) < xs.length) = true := decide_eq_true (by omega)
  clear h hl
  generalize xs.length = m at *
  go_enter Tryz.func90, Tryz.ntmps90
  go_wp2
  go_ret2
  exact ⟨rfl, rfl⟩
theorem getD_drop0 (xs : List Int) (i j : Nat) : (xs.drop i).getD j 0 = xs.getD (i + j) 0 := by
  rw [List.getD_eq_getElem?_getD, List.getD_eq_getElem?_getD, List.getElem?_drop]

set_option maxHeartbeats 1600000 in
set_option maxRecDepth 100000 in
theorem run_rencode_bs (v : Value) (xs : List Int) (w : World) (h : Bs .u64 w v xs) (hu : U64 xs) (hl : xs.length ≤ 65536) :
    Calls Tryz.prog 90 #[v] w fun e w' => ∃ v', e = .returned (.tuple #[v', .int .i64 0]) ∧ w'.ownsRow w.heap.size 5 1 v' (runE xs).length ((runE xs).map (Value.int .u8)) ∧ Only (fun _ => False) w w' := by
  have HB := hideIt h
  have HU := hideIt hu
  have HEL := hideIt (runE_len xs hu (by omega))
  obtain ⟨ao, cap, rfl⟩ := h.len
  obtain ⟨n, hn⟩ : ∃ n, n = xs.length := ⟨_, rfl⟩
  rw [← hn] at hl HB HEL
  rw [← hn]
  have HN := hideIt hn
  have d0 : decide ((65536 : Int) < n) = false := decide_eq_false (by omega)
  clear h hu hn
  go_enter Tryz.func90, Tryz.ntmps90
  go_wp2
  go_loopg [4, 5] n (fun g s4 s5 wx => ∃ (i : Nat) (o : List Int), i + g = n ∧ s5 = .int .i64 i ∧ Hid (o ++ runE (xs.drop i) = runE xs) ∧ wx.ownsRow w.heap.size 5 1 s4 o.length (o.map (Value.int .u8)) ∧ Only (fun _ => False) w wx)
  case atStart => exact ⟨0, [], by omega, rfl, rfl, World.ownsRow_nil _ _ _ _, Only.refl _ _⟩
  case round =>
    obtain ⟨i, o, hig, rfl, HO, hown, hon⟩ := hrel
    obtain ⟨W, hW⟩ : ∃ W, W = wr := ⟨_, rfl⟩
    subst hW
    obtain ⟨G, hG⟩ : ∃ G, G = gk := ⟨_, rfl⟩
    subst hG
    obtain ⟨O4, hO4⟩ : ∃ O4, O4 = u4 := ⟨_, rfl⟩
    subst hO4
    have HOWN := hideIt hown
    have HON := hideIt hon
    have HOL : Hid (o.length ≤ 2000000) := by
      have := congrArg List.length HO.out
      have := HEL.out
      rw [List.length_append] at *
      simp only [Hid]
      omega
    clear hown hon
    by_cases hg0 : G = 0
    · obtain rfl : i = n := by omega
      have F : Hid (W.ownsRow w.heap.size 5 1 O4 (runE xs).length ((runE xs).map (Value.int .u8))) := by
        have := HO.out
        rw [List.drop_of_length_le (by rw [← HN.out]; omega), runE, List.append_nil] at this
        simp only [Hid]
        rw [← this]; exact HOWN.out
      have d1 : decide ((i : Int) < (i : Int)) = false := by simp
      go_wp2
      go_ret2
      exact ⟨_, rfl, F.out, HON.out⟩
    · have d1 : decide ((i : Int) < (n : Int)) = true := decide_eq_true (by omega)
      have iN : i < n := by omega
      obtain ⟨b, off, cap', e1, hc0⟩ := (HB.out.past HON.out).at i (by rw [← HN.out]; exact iN)
      have ea : ao = some ⟨b, off, none⟩ := by simp at e1; exact e1.1
      subst ea
      clear e1
      have hx0 := HU.out (xs.getD i 0) (getD_mem0 xs i (by rw [← HN.out]; exact iN))
      obtain ⟨x0, hx⟩ : ∃ x0, x0 = xs.getD i 0 := ⟨_, rfl⟩
      rw [← hx] at hc0 hx0
      have HX := hideIt hx
      clear hx
      have i0' : (0 : Int) ≤ (i : Int) := by omega
      have i1' : (i : Int) < (n : Int) := by omega
      go_wp2
      go_loopg [6] G (fun g2 s6 wy => ∃ k : Nat, i ≤ k ∧ k + g2 = n ∧ s6 = .int .i64 k ∧ Hid (∀ p, i ≤ p → p < k → xs.getD p 0 = x0) ∧ Only (fun _ => False) W wy)
      case atStart => exact ⟨i, Nat.le_refl _, by omega, rfl, (fun p h1 hp => by omega), Only.refl _ _⟩
      case round =>
        obtain ⟨k, hik, hk, rfl, HJ, hoy⟩ := hrel
        have HOY := hideIt hoy
        have HONy := hideIt (HON.out.same hoy)
        have hc0 := (hoy.low (Nat.le_refl _)).cell (p := ⟨b, off + i, none⟩) (World.block_lt_of_cell? W _ hc0) |>.trans hc0
        clear hoy
        have hkk : (k < n ∧ xs.getD k 0 = x0) ∨ (k < n ∧ xs.getD k 0 ≠ x0) ∨ k = n := by
          rcases Nat.lt_or_ge k n with h | h
          · by_cases h2 : xs.getD k 0 = x0
            · exact .inl ⟨h, h2⟩
            · exact .inr (.inl ⟨h, h2⟩)
          · exact .inr (.inr (by omega))
        have HP : Hid (∀ p, p < k - i → (xs.drop i).getD p 0 = x0) := fun p hp => by rw [getD_drop0]; exact HJ.out _ (by omega) (by omega)
        have H00 : Hid ((xs.drop i).getD 0 0 = x0) := by simp only [Hid]; rw [getD_drop0, Nat.add_zero]; exact HX.out.symm
        rcases hkk with ⟨h1, h2⟩ | hst
        · have dk : decide ((k : Int) < (n : Int)) = true := decide_eq_true (by omega)
          obtain ⟨b', off', cap'', e1, hcj⟩ := (HB.out.past HONy.out).at k (by rw [← HN.out]; exact h1)
          have e2 : b = b' ∧ off = off' := by simp at e1; exact ⟨e1.1.1, e1.1.2⟩
          obtain ⟨rfl, rfl⟩ := e2
          clear e1
          rw [h2] at hcj
          have k0 : (0 : Int) ≤ (k : Int) := by omega
          have k1 : (k : Int) < (n : Int) := by omega
          have zz : (x0 == x0) = true := by simp
          have H2 := hideIt h2
          clear h2
          go_wp2
          go_quiet (fail)
          go_wp2
          go_roundg (gk - 1)
          case rel => exact ⟨k + 1, by omega, by omega, by go_num, (fun p hp hp2 => by
            rcases Nat.lt_or_ge p k with h | h
            · exact HJ.out p hp h
            · obtain rfl : p = k := by omega
              exact H2.out), HOY.out.drewN nq⟩
          case measure => omega
        · have hik2 : i < k := by
            rcases hst with ⟨h1, h2⟩ | h
            · rcases Nat.lt_or_ge i k with h3 | h3
              · exact h3
              · obtain rfl : k = i := by omega
                exact absurd HX.out.symm h2
            · omega
          have HE : Hid (runE (xs.drop i) = gs x0.toNat ++ gs (k - i - 1) ++ runE (xs.drop k)) := by
            simp only [Hid]
            rcases hst with ⟨h1, h2⟩ | h
            · have := runE_step (l := xs.drop i) (i := k - i) (by omega) (by rw [List.length_drop, ← HN.out]; omega) (fun j hj => by rw [H00.out]; exact HP.out j hj) (by rw [H00.out, getD_drop0, show i + (k - i) = k by omega]; exact h2)
              rw [H00.out, List.drop_drop, show i + (k - i) = k by omega] at this
              exact this
            · have hl2 : (xs.drop i).length = k - i := by rw [List.length_drop, ← HN.out]; omega
              have := runE_all (l := xs.drop i) (by omega) (fun j hj => by rw [H00.out]; exact HP.out j (by omega))
              rw [H00.out, hl2] at this
              rw [this, List.drop_of_length_le (by rw [← HN.out]; omega), runE, List.append_nil]
          have hd : (decide ((k : Int) < (n : Int)) = false ∧ decide (k < n) = false) ∨ (decide ((k : Int) < (n : Int)) = true ∧ decide (k < n) = true ∧ ∃ x, wr.cell? ⟨b, off + k, none⟩ = some (.int .u64 x) ∧ (x == x0) = false) := by
            rcases hst with ⟨h1, h2⟩ | h
            · obtain ⟨b', off', cap'', e1, hcj⟩ := (HB.out.past HONy.out).at k (by rw [← HN.out]; exact h1)
              have e2 : b = b' ∧ off = off' := by simp at e1; exact ⟨e1.1.1, e1.1.2⟩
              obtain ⟨rfl, rfl⟩ := e2
              exact .inr ⟨decide_eq_true (by omega), decide_eq_true (by omega), _, hcj, by simpa using h2⟩
            · exact .inl ⟨decide_eq_false (by omega), decide_eq_false (by omega)⟩
          have k0 : (0 : Int) ≤ (k : Int) := by omega
          have KI := hideIt (And.intro hik2 hk)
          clear hst HP H00 HJ
          rcases hd with ⟨dk, dk2⟩ | ⟨dk, dk2, x, hcj, zz⟩
          all_goals
            try have k1 : (k : Int) < (n : Int) := by simpa using dk
            go_wp2
            go_quiet (fail)
            have OW1 := hideIt (HOY.out.drewN nq)
            have OWN1 := hideIt (OW1.out.own HOWN.out (fun _ _ f => f))
            have ON1 := hideIt (HON.out.same OW1.out)
            have RA := hideIt (rappend_any O4 o x0 (wr.drewN nq) (Bs.of_own OWN1.out) (NoCap.of_own OWN1.out) (by have := HOL.out; omega) hx0.1 hx0.2)
            have HRL : Hid ((o ++ gs x0.toNat).length ≤ 3000000) := by
              have := HOL.out
              have := gs_le10 (v := x0.toNat) (by omega)
              simp only [Hid, List.length_append]
              omega
            go_wp2_with fail
            refine RA.out.mono ?_
            rintro e w2 ⟨v2, rfl, own2, o2⟩
            have RB := rappend_any v2 (o ++ gs x0.toNat) ((k : Int) - i - 1) w2 (Bs.of_own own2) (NoCap.of_own own2) (by have := HRL.out; omega) (by omega) (by omega)
            rw [show ((k : Int) - i - 1).toNat = k - i - 1 by omega] at RB
            have RB := hideIt RB
            have ON2 := hideIt (ON1.out.same o2)
            clear own2 o2 RA
            go_wp2_with fail
            refine RB.out.mono ?_
            rintro e w3 ⟨v3, rfl, own3, o3⟩
            have F := hideIt (And.intro (own_low own3 ON2.out.size) (ON2.out.same o3))
            have HOO : Hid (o ++ gs x0.toNat ++ gs (k - i - 1) ++ runE (xs.drop k) = runE xs) := by
              simp only [Hid]
              rw [← HO.out, HE.out]
              simp
            clear own3 o3 RB
            go_wp2
            go_roundg (n - k)
            case rel => exact ⟨k, _, by omega, rfl, HOO.out, F.out⟩
            case measure => omega
end Go.Proofs.YtgbimghhdbmjiaaGreat
