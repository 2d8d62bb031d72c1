/- The document's example, and the statements' 'same'. -/
import Derived.Test.YtmkfgfcncklchaaSu
import Derived.Test.YtmkfgfcncklchaaSame2
import Derived.Test.YtmkfgfcncklchaaSameB
import Derived.Lib.SlBytesConst
namespace Go.Proofs.Ytmkfgfcncklchaa
open Go.RowKit

set_option maxHeartbeats 400000 in
set_option maxRecDepth 100000 in
theorem lsame_q (va vb : Value) (xs : List Int) (w : World) (ha : Bs .u8 w va xs) (hb : Bs .u8 w vb xs) (hl : xs.length ≤ 140737488355328) :
    Calls Try.prog 10 #[va, vb] w fun e w' => e = .returned (.bool true) ∧ ∃ m, w' = w.drewN m := by
  have A := hideIt (bsame_q va vb xs w ha hb hl)
  clear ha hb
  go_enter Try.func10, Try.ntmps10
  go_wp2_with fail
  refine A.out.mono ?_
  rintro e w1 ⟨rfl, m, hm⟩
  have H := hideIt hm
  clear hm A
  go_wp2
  go_ret
  exact ⟨rfl, m, H.out⟩
theorem lsame_eq (va vb : Value) (xs : List Int) (w : World) (ha : Bs .u8 w va xs) (hb : Bs .u8 w vb xs) (hl : xs.length ≤ 140737488355328) :
    Calls Try.prog 10 #[va, vb] w fun e w' => e = .returned (.bool true) ∧ Only (fun _ => False) w w' := by
  refine (lsame_q va vb xs w ha hb hl).mono ?_
  rintro e w' ⟨rfl, m, rfl⟩
  exact ⟨rfl, (Only.refl _ _).drewN m⟩
set_option maxHeartbeats 400000 in
set_option maxRecDepth 100000 in
theorem lsame_any (va vb : Value) (xs ys : List Int) (w : World) (ha : Bs .u8 w va xs) (hb : Bs .u8 w vb ys) (hl : xs.length ≤ 140737488355328) :
    Calls Try.prog 10 #[va, vb] w fun e w' => e = .returned (.bool (decide (xs = ys))) ∧ Only (fun _ => False) w w' := by
  have A := hideIt (same_any va vb xs ys w ha hb hl)
  obtain ⟨d, hd⟩ : ∃ d, d = decide (xs = ys) := ⟨_, rfl⟩
  rw [← hd] at A ⊢
  clear ha hb hd
  go_enter Try.func10, Try.ntmps10
  go_wp2_with fail
  refine A.out.mono ?_
  rintro e w1 ⟨rfl, o1⟩
  have H := hideIt o1
  clear o1 A
  go_wp2
  go_ret
  exact ⟨rfl, H.out⟩
/-- a sum as a slice -/
theorem sum_form {w : World} {lo : Nat} {v : Value} {b : List Int} (h : w.ownsRow lo 5 1 v 32 ((SHA b).map (Value.int .u8))) : Bs .u8 w v (SHA b) ∧ ∃ g cap, v = .slice (some ⟨g, 0, none⟩) 32 cap ∧ lo ≤ g := by
  refine ⟨Bs.of_own (by rw [SHA_len]; exact h), ?_⟩
  rcases h.2 with ⟨_, h0⟩ | ⟨g, cap, cur, hv, hb, _⟩
  · cases h0
  · exact ⟨g, cap, hv, hb⟩
theorem sum_at {w : World} {g cap : Nat} {b : List Int} (h : Bs .u8 w (.slice (some ⟨g, 0, none⟩) 32 cap) (SHA b)) (j : Nat) (hj : j < 32) : w.cell? ⟨g, j, none⟩ = some (.int .u8 ((SHA b).getD j 0)) := by
  obtain ⟨b', off', cap', e, hc⟩ := h.at j (by rw [SHA_len]; exact hj)
  simp at e
  obtain ⟨⟨rfl, rfl⟩, _, rfl⟩ := e
  rwa [Nat.zero_add] at hc

theorem Bs.litF (k : IntKind) (w : World) (E : TypeId) (fr : Nat × Nat) (xs : List Int) (N n : Nat) (hN : w.heap.size = N) (hn : xs.length = n) : Bs k (w.alloc (.cells (xs.map (Value.int k)).toArray E fr)) (.slice (some ⟨N, 0, none⟩) n n) xs := by
  subst hN hn
  refine ⟨_, _, rfl, Nat.le_refl _, fun _ => ⟨w.heap.size, 0, rfl, fun j hj => ?_⟩⟩
  unfold World.cell?
  simp only [heap_alloc_new]
  simp [List.getElem?_eq_getElem hj]
set_option maxHeartbeats 800000 in
set_option maxRecDepth 100000 in
theorem awake_any (w : World) : Calls Try.prog 9 #[] w fun e w' => e = .returned (.bool true) ∧ Only (fun _ => False) w w' := by
  have kc := fun (w : World) (C : Array Value) (n c : Nat) => Lib.run_convert_bytes_const (P := Try.prog) w 22 5 C n c Try.underlying22 Try.underlying5
  have A := hideIt (sum_bs (.slice (some ⟨w.heap.size, 0, none⟩) 3 3) [97, 98, 99] (w.alloc (.cells #[.int .u8 97, .int .u8 98, .int .u8 99] 5 (3, 4))) (Bs.litF .u8 w 5 (3, 4) [97, 98, 99] _ _ rfl rfl) (by intro y hy; simp at hy; omega) (by decide))
  go_enter Try.func9, Try.ntmps9
  go_wp2_with fail
  refine A.out.mono ?_
  rintro e w1 ⟨v1, rfl, own1, on1⟩
  have O1 : Only (fun _ => False) w w1 := ((Only.refl _ _).alloc _).same on1
  obtain ⟨b1, g1, c1, rfl, _⟩ := sum_form own1
  have B := hideIt (sum_bs (.slice none 0 0) [] w1 (Bs.nil _ _) (by intro y hy; cases hy) (by decide))
  have HB1 := hideIt b1
  have HO1 := hideIt O1
  clear A own1 on1 O1 b1 kc
  go_wp2_with fail
  refine B.out.mono ?_
  rintro e w2 ⟨v2, rfl, own2, on2⟩
  obtain ⟨b2, g2, c2, rfl, _⟩ := sum_form own2
  have b3 := HB1.out.past on2
  have d0 := sum_at b3 0 (by decide)
  have d1 := sum_at b3 1 (by decide)
  have d2 := sum_at b3 2 (by decide)
  have e0 := sum_at b2 0 (by decide)
  have e1 := sum_at b2 1 (by decide)
  rw [SHA_abc] at d0 d1 d2
  rw [SHA_none] at e0 e1
  simp only [List.getD_cons_zero, List.getD_cons_succ] at d0 d1 d2 e0 e1
  have hc1 : 32 ≤ c1 := by obtain ⟨_, _, e, h, _⟩ := b3; simp at e; obtain ⟨_, _, rfl⟩ := e; rw [SHA_len] at h; exact h
  have hc2 : 32 ≤ c2 := by obtain ⟨_, _, e, h, _⟩ := b2; simp at e; obtain ⟨_, _, rfl⟩ := e; rw [SHA_len] at h; exact h
  have HO2 := hideIt (HO1.out.same on2)
  clear B own2 on2 b2 b3 HB1 HO1
  go_wp2
  go_ret
  exact ⟨rfl, HO2.out⟩
end Go.Proofs.Ytmkfgfcncklchaa
