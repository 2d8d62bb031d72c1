/- The document's manifest: place, wrong. -/
import Derived.Test.YtiolgenaefillaaGreatG9
import Derived.Test.YtiolgenaefillaaGreatMb
import Derived.Test.YtiolgenaefillaaGreatMi0
import Derived.Test.YtiolgenaefillaaGreatJd
namespace Go.Proofs.YtiolgenaefillaaGreat
open Go.RowKit

theorem eq_nums {x y : List Int} (hx : U8 x) (hy : U8 y) : ((strOfNums x).toList == (strOfNums y).toList) = decide (x = y) := by rw [eq_sb, sb_of hx, sb_of hy]
set_option maxHeartbeats 1000000 in
set_option maxRecDepth 100000 in
theorem rplace21_any (v : Value) (T : List (List Int)) (x : List Int) (w : World) (h : Sts w v T) (hr : RIS T) (hU : ∀ y ∈ T, U8 y) (hx : x ∈ T) (hl : T.length ≤ 1048576) :
    Calls Tryz.prog 31 #[v, .string (strOfNums x)] w fun e w' => e = .returned (.int .i64 (PLC T x : Nat)) ∧ w = w' := by
  obtain ⟨ao, cap, rfl⟩ := h.len
  have HB := hideIt h
  have HR := hideIt hr
  have HU := hideIt hU
  have HX := hideIt hx
  obtain ⟨P, hP⟩ : ∃ P, P = PLC T x := ⟨_, rfl⟩
  have HP := hideIt hP
  rw [← hP]
  obtain ⟨n, hn⟩ : ∃ n, n = T.length := ⟨_, rfl⟩
  have HN := hideIt hn
  rw [← hn] at HB hl
  rw [← hn]
  clear h hr hU hx hP hn
  go_enter Tryz.func31, Tryz.ntmps31
  go_wp2
  go_loop [5] (fun i => ∃ k : Nat, k ≤ n ∧ i = .int .i64 k ∧ ∀ j, j < k → T.getD j [] ≠ x) (fun i => n - (intOf i).toNat)
  case atStart => exact ⟨0, Nat.zero_le _, rfl, fun j hj => by omega⟩
  case round =>
    obtain ⟨k, hk, rfl, hno⟩ := hrel
    have HNO := hideIt hno
    by_cases hlt : k < n
    · have hlt' : k < T.length := by rw [← HN.out]; exact hlt
      obtain ⟨b, off, cap', e, hc0⟩ := HB.out.at k hlt'
      simp only [Value.slice.injEq] at e
      obtain ⟨rfl, hmx, rfl⟩ := e
      clear hmx
      have hq := eq_nums (HU.out _ (eget_mem (d := []) hlt')) (HU.out x HX.out)
      have hpo := hideIt (PLC_of HR.out hlt')
      obtain ⟨y, hy⟩ : ∃ y, y = T.getD k [] := ⟨_, rfl⟩
      have HY := hideIt hy
      rw [← hy] at hc0 hq hpo
      have i0 : (0 : Int) ≤ (k : Int) := by omega
      have i1 : (k : Int) < (n : Int) := by omega
      clear hy hlt' hno
      by_cases hxy : y = x
      · rw [decide_eq_true hxy] at hq
        have HF : Hid (P = k) := by simp only [Hid]; rw [HP.out, ← hxy]; exact hpo.out
        clear hxy hpo
        go_wp2
        go_ret
        exact ⟨by rw [HF.out]; rfl, rfl⟩
      · rw [decide_eq_false hxy] at hq
        have HF := hideIt hxy
        clear hxy hpo
        go_wp2
        go_round
        case rel =>
          refine ⟨k + 1, by omega, by go_num, fun j hj => ?_⟩
          rcases Nat.lt_succ_iff_lt_or_eq.1 hj with q | rfl
          · exact HNO.out j q
          · rw [← HY.out]; exact HF.out
        case measure => simp [intOf]; omega
    · exfalso
      obtain rfl : k = n := by omega
      exact hno (PLC T x) (by rw [HN.out]; exact PLC_lt HX.out) (PLC_at HX.out)
set_option maxHeartbeats 2000000 in
set_option maxRecDepth 100000 in
theorem wrong_any (x vp ve vr : Value) (m : MAN) (w : World) (h : Mf w x m vp ve vr) (hk : Mok m) (hl : m.es.length ≤ 100) :
    Calls Tryz.prog 26 #[x] w fun e w' => e = .returned (.int .i64 (MEr m)) ∧ Only (fun _ => False) w w' := by
  have hf := h.form
  obtain ⟨ap, pc, ep⟩ := h.prev.len
  obtain ⟨ae, ec, ee⟩ := h.es.len
  obtain ⟨ar, rc, er⟩ := h.root.len
  subst ep ee er hf
  have oa : Only (fun _ => False) w (w.alloc (.cells #[.int .u64 m.ver, .slice ap m.prev.length pc, .slice ae m.es.length ec, .slice ar m.root.length rc] 26)) := (Only.refl _ _).alloc _
  have OA := hideIt oa
  by_cases h1 : m.ver = 18446744073709551615 ∨ m.prev.length ≠ 32 ∨ m.root.length ≠ 32
  · have e1 : MEr m = 1 := by unfold MEr; rw [if_pos h1]
    rw [e1]
    clear h e1 oa
    by_cases q1 : m.ver = 18446744073709551615
    · have d1 : ((m.ver : Int) == 18446744073709551615) = true := by simp; omega
      clear h1 q1
      generalize m.ver = ver at *
      go_enter Tryz.func26, Tryz.ntmps26
      go_wp2
      go_ret
      exact ⟨rfl, OA.out⟩
    · have d1 : ((m.ver : Int) == 18446744073709551615) = false := by rw [beq_eq_false_iff_ne]; omega
      by_cases q2 : m.prev.length = 32
      · have q3 : m.root.length ≠ 32 := by omega
        have d3 : ((m.root.length : Int) != 32) = true := by simp; omega
        have d2 : ((m.prev.length : Int) != 32) = false := by rw [q2]; rfl
        clear h1 q1 q2 q3
        generalize m.prev.length = pl at *
        generalize m.root.length = rl at *
        go_enter Tryz.func26, Tryz.ntmps26
        go_wp2
        go_ret
        exact ⟨rfl, OA.out⟩
      · have d2 : ((m.prev.length : Int) != 32) = true := by simp; omega
        clear h1 q1 q2
        generalize m.prev.length = pl at *
        go_enter Tryz.func26, Tryz.ntmps26
        go_wp2
        go_ret
        exact ⟨rfl, OA.out⟩
  have d1 : ((m.ver : Int) == 18446744073709551615) = false := by rw [beq_eq_false_iff_ne]; omega
  have l1 : m.prev.length = 32 := by omega
  have l2 : m.root.length = 32 := by omega
  have HE : Hid (MEr m = if m.es.any (fun e => !okB e.2) = true then 1 else if m.es.any (fun e => decide (64 < e.1.length)) = true then 4 else 0) := by
    simp only [Hid]
    unfold MEr
    rw [if_neg h1]
    by_cases q : m.es.any (fun e => !okB e.2) = true
    · rw [if_pos q, if_pos q]
    · rw [if_neg q, if_neg q]
      by_cases q4 : m.es.any (fun e => decide (64 < e.1.length)) = true
      · rw [if_pos q4, if_pos (.inr q4)]
      · rw [if_neg q4, if_neg (fun z => z.elim (fun z => by omega) q4)]
  obtain ⟨R, hR⟩ : ∃ R, R = MEr m := ⟨_, rfl⟩
  rw [← hR] at HE
  rw [← hR]
  have KA := hideIt (heap_alloc_new w (.cells #[.int .u64 m.ver, .slice ap m.prev.length pc, .slice ae m.es.length ec, .slice ar m.root.length rc] 26))
  have EA := hideIt (h.es.past oa)
  rw [l1, l2]
  rw [l1, l2] at KA EA OA
  generalize m.ver = ver at *
  obtain ⟨E, hE⟩ : ∃ E, E = m.es := ⟨_, rfl⟩
  have HU : Hid (EU8 E) := by rw [hE]; exact hk.es
  rw [← hE] at EA KA OA hl HE
  rw [← hE]
  obtain ⟨n, hn⟩ : ∃ n, n = E.length := ⟨_, rfl⟩
  have HN := hideIt hn
  rw [← hn] at EA KA OA hl
  rw [← hn]
  obtain ⟨A1, hA1⟩ : ∃ A1, A1 = E.any (fun e => !okB e.2) := ⟨_, rfl⟩
  obtain ⟨A2, hA2⟩ : ∃ A2, A2 = E.any (fun e => decide (64 < e.1.length)) := ⟨_, rfl⟩
  have HA1 := hideIt hA1
  have HA2 := hideIt hA2
  rw [← hA1, ← hA2] at HE
  clear h oa hn hE hA1 hA2 h1 l1 l2 hR
  have e32 : ((32 : Nat) : Int) = 32 := rfl
  have d4 : decide ((1048576 : Int) < (n : Int)) = false := by simp; omega
  have d5 : decide (1048576 < n) = false := by simp; omega
  obtain ⟨W, hW⟩ : ∃ W, W = w.alloc (.cells #[.int .u64 ver, .slice ap 32 pc, .slice ae n ec, .slice ar 32 rc] 26) := ⟨_, rfl⟩
  rw [← hW] at EA KA OA
  have HW := hideIt hW
  have R0 := hideIt (Only.refl (fun _ => False) W)
  clear hW
  go_enter Tryz.func26, Tryz.ntmps26
  go_wp2
  rw [← HW.out]
  go_loopw [3] (fun i wr => ∃ k : Nat, k ≤ n ∧ i = .int .i64 k ∧ (∀ j, j < k → okB (E.getD j ([], 0)).2 = true) ∧ Only (fun _ => False) W wr) (fun i _ => n - (intOf i).toNat)
  case atStart => exact ⟨0, Nat.zero_le _, rfl, fun j hj => by omega, R0.out⟩
  case round =>
    clear R0
    obtain ⟨k, hk', rfl, hall, ho⟩ := hrel
    obtain ⟨a0, a1, a2, a3⟩ := heap4 (ho.heap KA.out (fun f => f))
    have HO := hideIt ho
    have HALL := hideIt hall
    by_cases hlt : k < n
    · have hlt' : k < E.length := by rw [← HN.out]; exact hlt
      obtain ⟨b, off, cap, e, hc0, hc1⟩ := (EA.out.past ho).at k hlt'
      simp only [Value.slice.injEq] at e
      obtain ⟨rfl, hmx, rfl⟩ := e
      clear hmx
      have hmem : E.getD k ([], 0) ∈ E := eget_mem hlt'
      obtain ⟨z, hz⟩ : ∃ z, z = E.getD k ([], 0) := ⟨_, rfl⟩
      rw [← hz] at hc0 hc1 hmem
      have HZ := hideIt hz
      have HME := hideIt hmem
      have i0 : (0 : Int) ≤ (k : Int) := by omega
      have i1 : (k : Int) < (n : Int) := by omega
      clear ho hall hlt' hmem hz
      by_cases hb : 0 ≤ z.2 ∧ z.2 ≤ 8
      · have f1 : decide (z.2 < 0) = false := by rw [decide_eq_false_iff_not]; omega
        have f2 : decide (8 < z.2) = false := by rw [decide_eq_false_iff_not]; omega
        have f3 : ¬ z.2 < 0 := by omega
        have f4 : ¬ 8 < z.2 := by omega
        have HBB := hideIt hb
        clear hb
        go_wp2
        go_roundw
        case rel =>
          refine ⟨k + 1, by omega, by go_num, fun j hj => ?_, HO.out⟩
          rcases Nat.lt_succ_iff_lt_or_eq.1 hj with q | rfl
          · exact HALL.out j q
          · rw [← HZ.out]; exact decide_eq_true HBB.out
        case measure => simp [intOf]; omega
      · have HF : Hid (A1 = true) := by
          simp only [Hid]
          rw [HA1.out, List.any_eq_true]
          exact ⟨z, HME.out, by rw [okB, decide_eq_false hb]; rfl⟩
        by_cases hb1 : z.2 < 0
        · have f1 : decide (z.2 < 0) = true := decide_eq_true hb1
          clear hb
          go_wp2
          go_ret
          exact ⟨by rw [HE.out, HF.out]; rfl, OA.out.same HO.out⟩
        · have f1 : decide (z.2 < 0) = false := decide_eq_false hb1
          have f2 : decide (8 < z.2) = true := by rw [decide_eq_true_eq]; omega
          have f4 : 8 < z.2 := by omega
          clear hb
          go_wp2
          go_ret
          exact ⟨by rw [HE.out, HF.out]; rfl, OA.out.same HO.out⟩
    · obtain rfl : k = n := by omega
      have HF1 : Hid (A1 = false) := by
        simp only [Hid]
        rw [HA1.out]
        refine any_no (d := ([], 0)) (fun j hj => ?_)
        rw [hall j (by rw [HN.out]; exact hj)]; rfl
      have O1 := hideIt (Only.refl (fun _ => False) wr)
      clear ho hall
      go_wp2
      clear a0 a1 a2 a3
      go_loopw [4] (fun i w3 => ∃ j : Nat, j ≤ k ∧ i = .int .i64 j ∧ (∀ q, q < j → (E.getD q ([], 0)).1.length ≤ 64) ∧ Only (fun _ => False) wr w3) (fun i _ => k - (intOf i).toNat)
      case atStart => exact ⟨0, Nat.zero_le _, rfl, fun j hj => by omega, O1.out⟩
      case round =>
        clear O1
        obtain ⟨j, hj, rfl, hall, ho⟩ := hrel
        obtain ⟨a0, a1, a2, a3⟩ := heap4 ((HO.out.same ho).heap KA.out (fun f => f))
        have HO3 := hideIt (HO.out.same ho)
        have HP3 := hideIt ho
        have HALL3 := hideIt hall
        by_cases hlt3 : j < k
        · have hlt' : j < E.length := by rw [← HN.out]; exact hlt3
          obtain ⟨b, off, cap, e, hc0, hc1⟩ := (EA.out.past HO3.out).at j hlt'
          simp only [Value.slice.injEq] at e
          obtain ⟨rfl, hmx, rfl⟩ := e
          clear hmx
          have hmem : E.getD j ([], 0) ∈ E := eget_mem hlt'
          obtain ⟨z, hz⟩ : ∃ z, z = E.getD j ([], 0) := ⟨_, rfl⟩
          rw [← hz] at hc0 hc1 hmem
          have HZ := hideIt hz
          have HME := hideIt hmem
          have hsz := strOfNums_size z.1
          have i0 : (0 : Int) ≤ (j : Int) := by omega
          have i1 : (j : Int) < (k : Int) := by omega
          clear ho hall hlt' hmem hz hc1
          by_cases hb : 64 < z.1.length
          · have f1 : decide ((64 : Int) < ((strOfNums z.1).size : Int)) = true := by rw [hsz]; simp; omega
            have f2 : decide (64 < (strOfNums z.1).size) = true := by rw [hsz]; simp; omega
            have HF : Hid (A2 = true) := by
              simp only [Hid]
              rw [HA2.out, List.any_eq_true]
              exact ⟨z, HME.out, decide_eq_true hb⟩
            clear hsz hb
            go_wp2
            go_ret
            exact ⟨by rw [HE.out, HF1.out, HF.out]; rfl, OA.out.same HO3.out⟩
          · have f1 : decide ((64 : Int) < ((strOfNums z.1).size : Int)) = false := by rw [hsz]; simp; omega
            have f2 : decide (64 < (strOfNums z.1).size) = false := by rw [hsz]; simp; omega
            clear hsz
            go_wp2
            go_roundw
            case rel =>
              refine ⟨j + 1, by omega, by go_num, fun q hq => ?_, HP3.out⟩
              rcases Nat.lt_succ_iff_lt_or_eq.1 hq with q' | rfl
              · exact HALL3.out q q'
              · rw [← HZ.out]; omega
            case measure => simp [intOf]; omega
        · obtain rfl : j = k := by omega
          have HF2 : Hid (A2 = false) := by
            simp only [Hid]
            rw [HA2.out]
            refine any_no (d := ([], 0)) (fun q hq => ?_)
            have := hall q (by rw [HN.out]; exact hq)
            rw [decide_eq_false_iff_not]; omega
          clear ho hall
          go_wp2
          go_ret
          exact ⟨by rw [HE.out, HF1.out, HF2.out]; rfl, OA.out.same HO3.out⟩
end Go.Proofs.YtiolgenaefillaaGreat
