/- Contract of the document's own Sum. -/
import Derived.Test.YtgbimghhdbmjiaaGreatDRef
namespace Go.Proofs.YtgbimghhdbmjiaaGreat
open Go.RowKit

theorem sum_begin (ys : List Int) (j : Nat) (hj : 1 ≤ j) (hg : ∀ x ∈ ys, G64 x) : ys.take j ++ sm (ys.getD (j - 1) 0) (ys.drop j) = bh (sm 0) (j - 1) ys := by
  unfold bh
  by_cases h : j - 1 < ys.length
  · obtain ⟨p, rfl⟩ : ∃ p, j = p + 1 := ⟨j - 1, by omega⟩
    simp only [Nat.add_sub_cancel] at h ⊢
    have e1 : ys.drop p = ys.getD p 0 :: ys.drop (p + 1) := by
      rw [List.getD_eq_getElem?_getD, List.getElem?_eq_getElem h]
      exact List.drop_eq_getElem_cons h
    have gx : G64 (ys.getD p 0) := by
      rw [List.getD_eq_getElem?_getD, List.getElem?_eq_getElem h]
      exact hg _ (List.getElem_mem h)
    rw [e1, take_next ys p h]
    simp only [sm, Int.zero_add, w64_id gx, List.append_assoc, List.singleton_append]
  · rw [List.drop_of_length_le (by omega), List.drop_of_length_le (by omega), List.take_of_length_le (by omega), List.take_of_length_le (by omega)]
    rfl
theorem sum_round (zs : List Int) (i : Nat) (hi : i < zs.length) : (zs.set i (wrap64 (zs.getD i 0 + zs.getD (i - 1) 0))).take (i + 1) ++ sm ((zs.set i (wrap64 (zs.getD i 0 + zs.getD (i - 1) 0))).getD i 0) ((zs.set i (wrap64 (zs.getD i 0 + zs.getD (i - 1) 0))).drop (i + 1)) = zs.take i ++ sm (zs.getD (i - 1) 0) (zs.drop i) := by
  have h := dif_round (f := sm) (st := fun a x => (wrap64 (a + x), wrap64 (a + x))) (fun _ _ _ => rfl) zs i (zs.getD (i - 1) 0) hi
  simp only at h
  rw [Int.add_comm (zs.getD i 0), ← h]
  congr 2
  rw [List.getD_eq_getElem?_getD, List.getElem?_set_self hi]; rfl

set_option maxHeartbeats 800000 in
set_option maxRecDepth 100000 in
/-- SUM BY DEFINITION -/
theorem rsum_in (v : Value) (xs : List Int) (k : Nat) (w : World) (hb : Bs .i64 w v xs) (nc : NoCap v) (hl : xs.length ≤ 1000000) (hg : ∀ x ∈ xs, G64 x) (hk : k ≤ 3) :
    Calls Tryz.prog 17 #[v, .int .i64 k] w fun e w' => ∃ v', e = .returned (.tuple #[v', .int .i64 0]) ∧ w'.ownsRow w.heap.size 3 1 v' xs.length ((S k xs).map (Value.int .i64)) ∧ Only (fun _ => False) w w' := by
  obtain ⟨i0, hi, hz0, hz1, hz2⟩ := info_parts Tryz.infoI64
  have t0 : decide ((k : Int) < 0) = false := decide_eq_false (by omega)
  have t1 : decide ((3 : Int) < (k : Int)) = false := decide_eq_false (by omega)
  have ho := World.ownsRow_made (base := w.heap.size) (e := 3) (size := 1) w #[] 0 (Nat.le_refl _) (by unfold maxLen; omega) rfl
  have HB := hideIt (And.intro (hb.keep ((Only.refl (fun _ => False) w).alloc (.cells #[] 3)) (fun _ _ f => f)) nc)
  have HG := hideIt hg
  clear hb nc hg
  obtain ⟨fin, hfin⟩ : ∃ fin, fin = S k xs := ⟨_, rfl⟩
  rw [← hfin]
  have HF := hideIt hfin
  clear hfin
  go_enter Tryz.func17, Tryz.ntmps17
  go_wp2_with (at_builtin; refine wpList_append_bs _ rfl _ _ _ rfl w.heap.size 3 i0 (.int .i64 0) 8 Tryz.underlying24 hi hz0 hz1 hz2 rfl (.slice (some ⟨w.heap.size, 0, none⟩) 0 0) 0 [] rfl ho .i64 v xs rfl HB.out.1 HB.out.2 (by unfold maxLen; omega) (by omega) (by simp) ?_)
  intro v' w1 hown1 hgrow hnn _
  have hv' : v' ≠ .slice none 0 0 := hnn
  have FIN : w1.ownsRow w.heap.size 3 1 v' xs.length (xs.map (Value.int .i64)) ∧ Only (fun _ => False) w w1 := by
    refine ⟨by simpa using hown1, ((Only.refl _ _).alloc _).grown hgrow (fun k hk e => ?_)⟩
    simp [Value.ownBlock] at e
    omega
  obtain ⟨g, cap, hgv, hgN⟩ : ∃ g cap, v' = .slice (some ⟨g, 0, none⟩) xs.length cap ∧ w.heap.size ≤ g := by
    rcases FIN.1.2 with ⟨h, _⟩ | ⟨g, cap, cur, h, h2, _⟩
    · exact absurd h hv'
    · exact ⟨g, cap, h, h2⟩
  subst hgv
  have HFI := hideIt FIN
  clear hown1 hgrow ho HB hnn hv' FIN
  obtain ⟨n, hn⟩ : ∃ n, n = xs.length := ⟨_, rfl⟩
  have HN := hideIt hn
  rw [← hn] at hl HFI ⊢
  clear hn
  obtain ⟨N, hN⟩ : ∃ N, N = w.heap.size := ⟨_, rfl⟩
  rw [← hN] at HFI hgN ⊢
  have HNN := hideIt hN
  clear hN
  go_wp2
  go_loopw [7] (fun i wr => ∃ (j : Nat) (ys : List Int), j ≤ 3 ∧ i = .int .i64 j ∧ ys.length = n ∧ fin = S j ys ∧ (∀ x ∈ ys, G64 x) ∧ wr.ownsRow N 3 1 (.slice (some ⟨g, 0, none⟩) n cap) n (ys.map (Value.int .i64)) ∧ Only (fun _ => False) w wr) (fun i _ => (intOf i).toNat)
  case atStart => exact ⟨k, xs, hk, rfl, HN.out.symm, HF.out, HG.out, HFI.out.1, HFI.out.2⟩
  case round =>
    obtain ⟨j, ys, hj3, rfl, hyl, hfy, hyg, hown, hon⟩ := hrel
    clear HFI HF HG t0 t1
    by_cases hj1 : 1 ≤ j
    · have tj : decide ((1 : Int) ≤ (j : Int)) = true := decide_eq_true (by omega)
      have HBG := hideIt (sum_begin ys j hj1 hyg)
      have HYG := hideIt hyg
      have HFY := hideIt hfy
      have START := hideIt (And.intro hyl (And.intro hown hon))
      clear hyl hown hon hyg hfy
      go_wp2
      go_loopw [8] (fun i wx => ∃ (q : Nat) (zs : List Int), 1 ≤ q ∧ q ≤ 1000003 ∧ i = .int .i64 q ∧ zs.length = n ∧ zs.take q ++ sm (zs.getD (q - 1) 0) (zs.drop q) = bh (sm 0) (j - 1) ys ∧ wx.ownsRow N 3 1 (.slice (some ⟨g, 0, none⟩) n cap) n (zs.map (Value.int .i64)) ∧ Only (fun _ => False) w wx) (fun i _ => n - (intOf i).toNat)
      case atStart => exact ⟨j, ys, hj1, by omega, rfl, START.out.1, HBG.out, START.out.2.1, START.out.2.2⟩
      case round =>
        obtain ⟨q, zs, hq1, hq2, rfl, hzl, hze, hown, hon⟩ := hrel
        clear START HBG
        by_cases hlt : q < n
        · have hcell : wr.cell? ⟨g, q, none⟩ = some (.int .i64 (zs.getD q 0)) := by
            rw [hown.cellAt q (by omega), List.getElem?_map, getD_in zs q (by omega)]; rfl
          have hcell1 : wr.cell? ⟨g, q - 1, none⟩ = some (.int .i64 (zs.getD (q - 1) 0)) := by
            rw [hown.cellAt (q - 1) (by omega), List.getElem?_map, getD_in zs (q - 1) (by omega)]; rfl
          have hfr : wr.frozen? ⟨g, q, none⟩ = false := hown.frozenAt _
          have hrnd := sum_round zs q (by omega)
          rw [hze] at hrnd
          obtain ⟨x, hx⟩ : ∃ x, x = zs.getD q 0 := ⟨_, rfl⟩
          obtain ⟨y, hy⟩ : ∃ y, y = zs.getD (q - 1) 0 := ⟨_, rfl⟩
          obtain ⟨p, hp⟩ : ∃ p : Nat, p = q - 1 := ⟨_, rfl⟩
          rw [← hx] at hcell hrnd
          rw [← hy] at hcell1 hrnd
          rw [← hp] at hcell1
          have hw1 : IntKind.i64.wrap ((q : Int) - 1) = (p : Int) := by rw [IntKind.wrap_i64]; omega
          have i0' : (0 : Int) ≤ (q : Int) := by omega
          have i1' : (q : Int) < (n : Int) := by omega
          have i2 : (0 : Int) ≤ (p : Int) := by omega
          have i3 : (p : Int) < (n : Int) := by omega
          have H := hideIt (And.intro hown (And.intro hon (And.intro hzl hrnd)))
          clear hown hon hzl hrnd hze hx hy hp
          go_wp2
          go_region
          all_goals go_wp2
          all_goals go_roundw
          all_goals first
            | (refine ⟨q + 1, zs.set q (wrap64 (x + y)), by omega, by omega, by go_num, by rw [List.length_set]; exact H.out.2.2.1, by rw [Nat.add_sub_cancel]; exact H.out.2.2.2, ?_, ?_⟩
               · have h1 := (H.out.1.stored q (.int .i64 (wrap64 (x + y)))).1
                 rw [← List.map_set] at h1
                 exact h1.drew
               · exact (H.out.2.1.setCell (fun hb => by have := HNN.out; simp only at hb; omega) _).drew)
            | (simp [intOf]; omega)
        · have e1 : zs = bh (sm 0) (j - 1) ys := by
            rw [← hze, List.drop_of_length_le (by omega), List.take_of_length_le (by omega)]; simp [sm]
          have hfy : fin = S (j - 1) zs := by
            rw [HFY.out, e1]
            obtain ⟨p, rfl⟩ : ∃ p, j = p + 1 := ⟨j - 1, by omega⟩
            rfl
          have hzg : ∀ x ∈ zs, G64 x := by rw [e1]; exact bh_g (sm_g 0) _ _ HYG.out
          have H := hideIt (And.intro hzl (And.intro hfy (And.intro hzg (And.intro hown hon))))
          clear hzl hfy hzg hown hon e1 hze
          go_wp2
          go_roundw
          case rel => exact ⟨j - 1, zs, by omega, by go_num, H.out⟩
          case measure => simp [intOf]; omega
    · have tj : decide ((1 : Int) ≤ (j : Int)) = false := decide_eq_false (by omega)
      have e1 : fin = ys := by
        rw [hfy, show j = 0 by omega]; rfl
      subst e1
      have H := hideIt (And.intro hown hon)
      clear hown hon hyl hyg hfy
      go_wp2
      go_ret2
      refine ⟨_, rfl, ?_, H.out.2⟩
      have h1 := H.out.1
      rw [HNN.out] at h1
      rw [← HN.out]
      exact h1
set_option maxHeartbeats 400000 in
set_option maxRecDepth 100000 in
theorem rsum_out (v : Value) (k : Int) (w : World) (hk : k < 0 ∨ 3 < k) : Calls Tryz.prog 17 #[v, .int .i64 k] w fun e w' => e = .returned (.tuple #[.slice none 0 0, .int .i64 1]) ∧ w = w' := by
  by_cases h0 : k < 0
  · have h1 : decide (k < 0) = true := decide_eq_true h0
    clear hk
    go_enter Tryz.func17, Tryz.ntmps17
    go_wp2
    go_ret2
    exact ⟨rfl, rfl⟩
  · have h1 : decide (k < 0) = false := decide_eq_false h0
    have h2 : decide (3 < k) = true := decide_eq_true (by omega)
    clear hk
    go_enter Tryz.func17, Tryz.ntmps17
    go_wp2
    go_ret2
    exact ⟨rfl, rfl⟩
end Go.Proofs.YtgbimghhdbmjiaaGreat
