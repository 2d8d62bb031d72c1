/- The statements' own: same; bytes in their bucket. -/
import Derived.Test.YtfoghkjlpdjmiaaUn19
import Derived.Test.YtfoghkjlpdjmiaaSame2
import Derived.Test.YtfoghkjlpdjmiaaSameB
namespace Go.Proofs.Ytfoghkjlpdjmiaa
open Go.RowKit

set_option maxHeartbeats 400000 in
set_option maxRecDepth 100000 in
theorem lsame_eq (va vb : Value) (xs : List Int) (w : World) (ha : Bs .u8 w va xs) (hb : Bs .u8 w vb xs) (hl : xs.length ≤ 140737488355328) :
    Calls Try.prog 18 #[va, vb] w fun e w' => e = .returned (.bool true) ∧ Only (fun _ => False) w w' := by
  have A := hideIt (bsame_eq va vb xs w ha hb hl)
  clear ha hb
  go_enter Try.func18, Try.ntmps18
  go_wp2_with fail
  refine A.out.mono ?_
  rintro e w1 ⟨rfl, o1⟩
  have H := hideIt o1
  clear o1 A
  go_wp2
  go_ret
  exact ⟨rfl, H.out⟩
set_option maxHeartbeats 400000 in
set_option maxRecDepth 100000 in
theorem lsame_any (va vb : Value) (xs ys : List Int) (w : World) (ha : Bs .u8 w va xs) (hb : Bs .u8 w vb ys) (hl : xs.length ≤ 140737488355328) :
    Calls Try.prog 18 #[va, vb] w fun e w' => e = .returned (.bool (decide (xs = ys))) ∧ Only (fun _ => False) w w' := by
  have A := hideIt (same_any va vb xs ys w ha hb hl)
  obtain ⟨d, hd⟩ : ∃ d, d = decide (xs = ys) := ⟨_, rfl⟩
  rw [← hd] at A ⊢
  clear ha hb hd
  go_enter Try.func18, Try.ntmps18
  go_wp2_with fail
  refine A.out.mono ?_
  rintro e w1 ⟨rfl, o1⟩
  have H := hideIt o1
  clear o1 A
  go_wp2
  go_ret
  exact ⟨rfl, H.out⟩
theorem p78 : (PADL [7, 8]).length = 64 ∧ (PADL [7, 8]).getD 3 0 = 2 ∧ (PADL [7, 8]).getD 4 0 = 7 ∧ (PADL [7, 8]).getD 5 0 = 8 ∧ (PADL [7, 8]).getD 63 0 = 0 := by decide +kernel
set_option maxHeartbeats 1600000 in
set_option maxRecDepth 100000 in
theorem awake_any (w : World) : Calls Try.prog 9 #[] w fun e w' => e = .returned (.bool true) ∧ Only (fun _ => False) w w' := by
  have bl0 : Bs .u8 (w.alloc (.cells #[.int .u8 7, .int .u8 8] 5)) (.slice (some ⟨w.heap.size, 0, none⟩) 2 2) [7, 8] := Bs.litN .u8 w 5 [7, 8] _ _ rfl rfl
  have P := hideIt (pad_own _ [7, 8] _ bl0 (by decide))
  have o0 : Only (fun _ => False) w (w.alloc (.cells #[.int .u8 7, .int .u8 8] 5)) := (Only.refl _ _).alloc _
  have O0 := hideIt o0
  obtain ⟨h1, h2, h3, h4, h5⟩ := p78
  obtain ⟨A, hA⟩ : ∃ A, A = PADL [7, 8] := ⟨_, rfl⟩
  rw [← hA] at P h1 h2 h3 h4 h5
  rw [h1] at P
  have HA := hideIt (And.intro h1 (And.intro h2 (And.intro h3 (And.intro h4 h5))))
  clear bl0 o0 h1 h2 h3 h4 h5 hA
  go_enter Try.func9, Try.ntmps9
  go_wp2_with fail
  refine P.out.mono ?_
  rintro e w1 ⟨v1, rfl, own1, o1⟩
  have b1 : Bs .u8 w1 v1 A := Bs.of_own (k := .u8) (E := 5) (by rw [HA.out.1]; exact own1)
  have O1 := hideIt (O0.out.same o1)
  have B := hideIt (bucket_any 61 w1)
  rw [show BKV 61 = 1 from rfl, show BKE 61 = 0 from rfl] at B
  obtain ⟨g, c, e1⟩ := ownsRow_succ (k := 63) own1
  subst e1
  have HB1 := hideIt b1
  clear own1 o1 b1 P O0
  go_wp2_with fail
  refine B.out.mono ?_
  rintro e w2 ⟨rfl, o2⟩
  have b2 := HB1.out.past o2
  have hc : ∀ j, j < 64 → w2.cell? ⟨g, j, none⟩ = some (.int .u8 (A.getD j 0)) := fun j hj => by
    obtain ⟨b, off, cap, e, h⟩ := b2.at j (by rw [HA.out.1]; exact hj)
    simp at e
    obtain ⟨⟨rfl, rfl⟩, _⟩ := e
    rw [Nat.zero_add] at h; exact h
  have c3 := hc 3 (by decide)
  have c4 := hc 4 (by decide)
  have c5 := hc 5 (by decide)
  have c63 := hc 63 (by decide)
  rw [HA.out.2.1] at c3
  rw [HA.out.2.2.1] at c4
  rw [HA.out.2.2.2.1] at c5
  rw [HA.out.2.2.2.2] at c63
  have C := hideIt (size_any 1 w2)
  rw [show SZV 1 = 256 from rfl] at C
  have O2 := hideIt (O1.out.same o2)
  clear b2 hc B o2 O1 HB1
  go_wp2_with fail
  refine C.out.mono ?_
  rintro e w3 ⟨rfl, o3⟩
  have O3 := hideIt (O2.out.same o3)
  clear o3 C O2
  go_wp2
  go_ret
  exact ⟨rfl, O3.out⟩
end Go.Proofs.Ytfoghkjlpdjmiaa
