/- The document's example. -/
import Derived.Test.YtnifflnhbpfmnaaRv20
namespace Go.Proofs.Ytnifflnhbpfmnaa
open Go.RowKit
set_option linter.unusedVariables false

theorem HALF_2 : HALF 2 = 1 := HALF_at (m := 0) rfl (by omega) (by omega)
theorem HALF_3 : HALF 3 = 2 := HALF_at (m := 1) rfl (by omega) (by omega)
def exL : List (List Int) := [[1], [2], [3]]
theorem ex_top : TOP exL = NODE (NODE [1] [2]) [3] := by
  rw [TOP_two (show 2 ≤ exL.length by decide)]
  rw [show exL.length = 3 from rfl, HALF_3]
  rw [TOP_two (show 2 ≤ (exL.take 2).length by decide)]
  rw [show (exL.take 2).length = 2 from rfl, HALF_2]
  rw [TOP_one (show ((exL.take 2).take 1).length = 1 from rfl), TOP_one (show ((exL.take 2).drop 1).length = 1 from rfl), TOP_one (show (exL.drop 2).length = 1 from rfl)]
  rfl
theorem ex_walk1 : PRF exL 1 1 = [[1], [3]] := by
  have h : PRA exL 1 1 := ⟨by decide, by decide, by decide⟩
  unfold PRF
  rw [if_pos h]
  show WLK 4 exL 0 3 1 1 = _
  rw [WLK, if_neg (by decide), if_neg (by decide), show HALF (3 - 0) = 2 from HALF_3]
  rw [WLK, if_neg (by decide), if_neg (by decide), show HALF (0 + 2 - 0) = 1 from HALF_2]
  rw [WLK, if_neg (by decide), if_pos (by decide), WLK, if_pos (by decide), WLK, if_neg (by decide), if_pos (by decide)]
  rw [TOP_one (show (PRT exL 0 (0 + 1)).length = 1 from rfl), TOP_one (show (PRT exL (0 + 2) 3).length = 1 from rfl)]
  rfl
theorem ex_walk2 : PRF exL 0 2 = [] := by
  have h : PRA exL 0 2 := ⟨by decide, by decide, by decide⟩
  unfold PRF
  rw [if_pos h]
  show WLK 4 exL 0 3 0 2 = _
  rw [WLK, if_pos (by decide)]
theorem ex_e1 : PRE exL 1 1 = 0 := if_pos ⟨by decide, by decide, by decide⟩
theorem ex_e2 : PRE exL 0 2 = 0 := if_pos ⟨by decide, by decide, by decide⟩
theorem ex_r5 : R5 exL := fun l hl => by
  simp only [exL, List.mem_cons, List.not_mem_nil, or_false] at hl
  rcases hl with rfl | rfl | rfl <;> exact ⟨fun y hy => by simp at hy; subst hy; decide, by decide⟩
theorem one_r8 (a : Int) (h : 0 ≤ a ∧ a ≤ 255) : U8 [a] := fun y hy => by simp at hy; subst hy; exact h
/-- one byte in a cell -/
theorem Bs.oneCell {w : World} {g : Nat} {a : Int} (h : w.cell? ⟨g, 0, none⟩ = some (.int .u8 a)) : Bs .u8 w (.slice (some ⟨g, 0, none⟩) 1 1) [a] :=
  ⟨_, 1, rfl, Nat.le_refl _, fun _ => ⟨g, 0, rfl, fun j hj => by
    have : j = 0 := by simp at hj; exact hj
    subst this; exact h⟩⟩
theorem RL.two {w : World} {c g h : Nat} {a b : Int} (h0 : w.cell? ⟨c, 0, none⟩ = some (.slice (some ⟨g, 0, none⟩) 1 1)) (h1 : w.cell? ⟨c, 1, none⟩ = some (.slice (some ⟨h, 0, none⟩) 1 1)) (ha : w.cell? ⟨g, 0, none⟩ = some (.int .u8 a)) (hb : w.cell? ⟨h, 0, none⟩ = some (.int .u8 b)) :
    RL w (.slice (some ⟨c, 0, none⟩) 2 2) [[a], [b]] :=
  ⟨_, 2, rfl, Nat.le_refl _, fun _ => ⟨c, 0, rfl, fun j hj => by
    rcases (show j = 0 ∨ j = 1 by simp at hj; omega) with rfl | rfl
    · exact ⟨_, h0, Bs.oneCell ha, NoCap.some _ _ _⟩
    · exact ⟨_, h1, Bs.oneCell hb, NoCap.some _ _ _⟩⟩⟩
theorem lit2 (w : World) (a b : Int) : RL (((w.alloc (.cells #[.int .u8 a] 5)).alloc (.cells #[.int .u8 b] 5)).alloc (.cells #[.slice (some ⟨w.heap.size, 0, none⟩) 1 1, .slice (some ⟨w.heap.size + 1, 0, none⟩) 1 1] 22)) (.slice (some ⟨w.heap.size + 1 + 1, 0, none⟩) 2 2) [[a], [b]] :=
  have b3 := Blk.newAt (w := (w.alloc (.cells #[.int .u8 a] 5)).alloc (.cells #[.int .u8 b] 5)) (G := w.heap.size + 1 + 1) (by rw [size_alloc, size_alloc]) 22 [.slice (some ⟨w.heap.size, 0, none⟩) 1 1, .slice (some ⟨w.heap.size + 1, 0, none⟩) 1 1]
  RL.two (b3.cell 0) (b3.cell 1) ((((Blk.new w 5 [.int .u8 a]).alloc _).alloc _).cell 0) (((Blk.newAt (w := w.alloc (.cells #[.int .u8 a] 5)) (size_alloc _ _) 5 [.int .u8 b]).alloc _).cell 0)
theorem lit2' (w : World) (a b : Int) : RL (((w.alloc (.cells #[.int .u8 b] 5)).alloc (.cells #[.int .u8 a] 5)).alloc (.cells #[.slice (some ⟨w.heap.size + 1, 0, none⟩) 1 1, .slice (some ⟨w.heap.size, 0, none⟩) 1 1] 22)) (.slice (some ⟨w.heap.size + 1 + 1, 0, none⟩) 2 2) [[a], [b]] :=
  have b3 := Blk.newAt (w := (w.alloc (.cells #[.int .u8 b] 5)).alloc (.cells #[.int .u8 a] 5)) (G := w.heap.size + 1 + 1) (by rw [size_alloc, size_alloc]) 22 [.slice (some ⟨w.heap.size + 1, 0, none⟩) 1 1, .slice (some ⟨w.heap.size, 0, none⟩) 1 1]
  RL.two (b3.cell 0) (b3.cell 1) (((Blk.newAt (w := w.alloc (.cells #[.int .u8 b] 5)) (size_alloc _ _) 5 [.int .u8 a]).alloc _).cell 0) ((((Blk.new w 5 [.int .u8 b]).alloc _).alloc _).cell 0)
theorem exL_made (w : World) :
    RL ((((w.alloc (.cells #[.int .u8 1] 5)).alloc (.cells #[.int .u8 2] 5)).alloc (.cells #[.int .u8 3] 5)).alloc (.cells #[.slice (some ⟨w.heap.size, 0, none⟩) 1 1, .slice (some ⟨w.heap.size + 1, 0, none⟩) 1 1, .slice (some ⟨w.heap.size + 1 + 1, 0, none⟩) 1 1] 22)) (.slice (some ⟨w.heap.size + 1 + 1 + 1, 0, none⟩) 3 3) exL
    ∧ Only (fun _ => False) w ((((w.alloc (.cells #[.int .u8 1] 5)).alloc (.cells #[.int .u8 2] 5)).alloc (.cells #[.int .u8 3] 5)).alloc (.cells #[.slice (some ⟨w.heap.size, 0, none⟩) 1 1, .slice (some ⟨w.heap.size + 1, 0, none⟩) 1 1, .slice (some ⟨w.heap.size + 1 + 1, 0, none⟩) 1 1] 22)) := by
  have b1 : Blk ((((w.alloc (.cells #[.int .u8 1] 5)).alloc (.cells #[.int .u8 2] 5)).alloc (.cells #[.int .u8 3] 5)).alloc (.cells #[.slice (some ⟨w.heap.size, 0, none⟩) 1 1, .slice (some ⟨w.heap.size + 1, 0, none⟩) 1 1, .slice (some ⟨w.heap.size + 1 + 1, 0, none⟩) 1 1] 22)) w.heap.size 5 [.int .u8 1] := (((Blk.new w 5 [.int .u8 1]).alloc _).alloc _).alloc _
  have b2 : Blk ((((w.alloc (.cells #[.int .u8 1] 5)).alloc (.cells #[.int .u8 2] 5)).alloc (.cells #[.int .u8 3] 5)).alloc (.cells #[.slice (some ⟨w.heap.size, 0, none⟩) 1 1, .slice (some ⟨w.heap.size + 1, 0, none⟩) 1 1, .slice (some ⟨w.heap.size + 1 + 1, 0, none⟩) 1 1] 22)) (w.heap.size + 1) 5 [.int .u8 2] := ((Blk.newAt (size_alloc _ _) 5 [.int .u8 2]).alloc _).alloc _
  have b3 : Blk ((((w.alloc (.cells #[.int .u8 1] 5)).alloc (.cells #[.int .u8 2] 5)).alloc (.cells #[.int .u8 3] 5)).alloc (.cells #[.slice (some ⟨w.heap.size, 0, none⟩) 1 1, .slice (some ⟨w.heap.size + 1, 0, none⟩) 1 1, .slice (some ⟨w.heap.size + 1 + 1, 0, none⟩) 1 1] 22)) (w.heap.size + 1 + 1) 5 [.int .u8 3] := (Blk.newAt (by rw [size_alloc, size_alloc]) 5 [.int .u8 3]).alloc _
  have b4 : Blk ((((w.alloc (.cells #[.int .u8 1] 5)).alloc (.cells #[.int .u8 2] 5)).alloc (.cells #[.int .u8 3] 5)).alloc (.cells #[.slice (some ⟨w.heap.size, 0, none⟩) 1 1, .slice (some ⟨w.heap.size + 1, 0, none⟩) 1 1, .slice (some ⟨w.heap.size + 1 + 1, 0, none⟩) 1 1] 22)) (w.heap.size + 1 + 1 + 1) 22 [.slice (some ⟨w.heap.size, 0, none⟩) 1 1, .slice (some ⟨w.heap.size + 1, 0, none⟩) 1 1, .slice (some ⟨w.heap.size + 1 + 1, 0, none⟩) 1 1] := Blk.newAt (by rw [size_alloc, size_alloc, size_alloc]) 22 [_, _, _]
  refine ⟨⟨_, 3, rfl, Nat.le_refl _, fun _ => ⟨w.heap.size + 1 + 1 + 1, 0, rfl, fun j hj => ?_⟩⟩, ((((Only.refl _ _).alloc _).alloc _).alloc _).alloc _⟩
  rcases (show j = 0 ∨ j = 1 ∨ j = 2 by simp [exL] at hj; omega) with rfl | rfl | rfl
  · exact ⟨_, b4.cell 0, Bs.oneCell (b1.cell 0), NoCap.some _ _ _⟩
  · exact ⟨_, b4.cell 1, Bs.oneCell (b2.cell 0), NoCap.some _ _ _⟩
  · exact ⟨_, b4.cell 2, Bs.oneCell (b3.cell 0), NoCap.some _ _ _⟩

set_option maxHeartbeats 3200000 in
set_option maxRecDepth 100000 in
theorem awake_any (w : World) : Calls Try.prog 9 #[] w fun e w' => e = .returned (.bool true) ∧ Only (fun _ => False) w w' := by
  obtain ⟨rl, ol⟩ := exL_made w
  obtain ⟨W0, hW0⟩ : ∃ W0, W0 = ((((w.alloc (.cells #[.int .u8 1] 5)).alloc (.cells #[.int .u8 2] 5)).alloc (.cells #[.int .u8 3] 5)).alloc (.cells #[.slice (some ⟨w.heap.size, 0, none⟩) 1 1, .slice (some ⟨w.heap.size + 1, 0, none⟩) 1 1, .slice (some ⟨w.heap.size + 1 + 1, 0, none⟩) 1 1] 22)) := ⟨_, rfl⟩
  rw [← hW0] at rl ol
  obtain ⟨G, hG⟩ : ∃ G, G = w.heap.size + 1 + 1 + 1 := ⟨_, rfl⟩
  rw [← hG] at rl
  have HG := hideIt hG
  have HW0 := hideIt hW0
  have HRL := hideIt rl
  have HOL := hideIt ol
  have R := hideIt (root_any exL _ W0 (by decide) ex_r5.r8 rl)
  rw [ex_top, NODE_len] at R
  clear hG hW0 rl ol
  go_enter Try.func9, Try.ntmps9
  go_wp2_with fail
  rw [← HW0.out, ← HG.out]
  refine R.out.mono ?_
  rintro e w1 ⟨v1, rfl, own1, o1⟩
  have O1 := hideIt o1
  have R1 := hideIt own1
  have P1 := hideIt (prove_any _ exL 1 1 ex_r5.r8 (by decide) w1 (HRL.out.past o1))
  rw [ex_e1, ex_walk1] at P1
  obtain ⟨ao1, cap1, e1⟩ := own_form own1
  subst e1
  clear own1 o1 R HW0
  go_wp2_with fail
  refine P1.out.mono ?_
  rintro e w2 ⟨v2, rfl, rl2, nc2, o2⟩
  have O2 := hideIt (O1.out.same o2)
  have R2 := hideIt (And.intro (o2.own R1.out (fun _ _ f => f)) rl2)
  have P2 := hideIt (prove_any _ exL 0 2 ex_r5.r8 (by decide) w2 (HRL.out.past O2.out))
  rw [ex_e2, ex_walk2] at P2
  obtain ⟨ao2, cap2, e2, _⟩ := rl2.len
  subst e2
  rw [show ([[1], [3]] : List (List Int)).length = 2 from rfl] at R2 ⊢
  clear P1 rl2 nc2 o2 R1 O1
  go_wp2_with fail
  refine P2.out.mono ?_
  rintro e w3 ⟨v3, rfl, rl3, nc3, o3⟩
  have O3 := hideIt (O2.out.same o3)
  have R3 := hideIt (And.intro (own_bs (o3.own R2.out.1 (fun _ _ f => f))) (R2.out.2.past o3))
  obtain ⟨ao3, cap3, e3, _⟩ := rl3.len
  subst e3
  rw [show ([] : List (List Int)).length = 0 from rfl]
  have RL3 := HRL.out.past O3.out
  obtain ⟨u0, c0, b0, _⟩ := RL3.at 0 (by decide)
  obtain ⟨u1, c1, b1, _⟩ := RL3.at 1 (by decide)
  obtain ⟨u2, c2, b2, _⟩ := RL3.at 2 (by decide)
  have B0 := hideIt b0
  have B1 := hideIt b1
  have B2 := hideIt b2
  clear P2 rl3 nc3 o3 R2 O2 b0 b1 b2 RL3
  rw [Nat.zero_add] at c0 c1 c2
  have N1 := hideIt (fun (W : World) (o : Only (fun _ => False) w3 W) => node_any u0 u1 [1] [2] W (B0.out.past o) (B1.out.past o) (one_r8 1 (by decide)) (one_r8 2 (by decide)) (by decide) (by decide))
  have N2 := hideIt (fun (W : World) (v : Value) (hv : Bs .u8 W v (NODE [1] [2])) (o : Only (fun _ => False) w3 W) => node_any v u2 (NODE [1] [2]) [3] W hv (B2.out.past o) (SHA_u8 _) (one_r8 3 (by decide)) (by rw [NODE_len]; decide) (by decide))
  have S1 := hideIt (fun (W : World) (v : Value) (hv : Bs .u8 W v (NODE (NODE [1] [2]) [3])) (o : Only (fun _ => False) w3 W) => lsame20_any _ v _ _ W (R3.out.1.past o) hv (by rw [NODE_len]; decide))
  rw [decide_eq_true rfl] at S1
  have S2 := hideIt (fun (W : World) (v : Value) (hv : RL W v [[1], [3]]) (o : Only (fun _ => False) w3 W) => rsame_any _ v _ _ W (R3.out.2.past o) hv (fun l hl => by simp only [List.mem_cons, List.not_mem_nil, or_false] at hl; rcases hl with rfl | rfl <;> exact ⟨fun y hy => by simp at hy; subst hy; decide, by decide⟩) (by decide))
  rw [decide_eq_true rfl] at S2
  have F0 := hideIt (HOL.out.same O3.out)
  clear R3 HRL HOL O3 B0 B1 B2
  go_wp2_with fail
  go_region_held (fun W => W.cell? ⟨G, 0, none⟩ = some u0 ∧ W.cell? ⟨G, 1, none⟩ = some u1 ∧ W.cell? ⟨G, 2, none⟩ = some u2) (go_keep) (first | (go_at_call 14; refine (N1.out _ ((Only.refl _ _).drew)).mono ?_; rintro e w4 ⟨v4, rfl, own4, o4⟩; have O4 := hideIt (((Only.refl (fun _ => False) w3).drew).same o4); have D4 := hideIt (own_bs own4); have k0 := cell_past c0 O4.out; have k1 := cell_past c1 O4.out; have k2 := cell_past c2 O4.out; clear own4 o4 N1) | (go_at_call 14; refine (N2.out _ _ D4.out O4.out).mono ?_; rintro e w5 ⟨v5, rfl, own5, o5⟩; have O5 := hideIt (O4.out.same o5); have D5 := hideIt (own_bs own5); have k3 := cell_past c0 O5.out; have k4 := cell_past c1 O5.out; have k5 := cell_past c2 O5.out; clear own5 o5 N2) | (go_at_call 11; refine (S1.out _ _ D5.out O5.out).mono ?_; rintro e w6 ⟨rfl, o6⟩; have O6 := hideIt (O5.out.same o6); have k6 := cell_past c0 O6.out; have k7 := cell_past c1 O6.out; have k8 := cell_past c2 O6.out; clear o6 S1) | (go_at_call 20; (first | (refine (S2.out _ _ (lit2 w6 1 3) (((O6.out.alloc _).alloc _).alloc _)).mono ?_) | (refine (S2.out _ _ (lit2' w6 1 3) (((O6.out.alloc _).alloc _).alloc _)).mono ?_)); rintro e w7 ⟨rfl, o7⟩; have O7 := hideIt ((((O6.out.alloc _).alloc _).alloc _).same o7); have k9 := cell_past c0 O7.out; have k10 := cell_past c1 O7.out; have k11 := cell_past c2 O7.out; clear o7 S2))
  all_goals go_wp2
  all_goals go_ret
  all_goals exact ⟨rfl, F0.out.same O7.out⟩
end Go.Proofs.Ytnifflnhbpfmnaa
