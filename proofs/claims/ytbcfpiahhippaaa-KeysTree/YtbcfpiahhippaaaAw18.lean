/- The statements' own: same; the document's example. -/
import Derived.Test.YtbcfpiahhippaaaKd18
import Derived.Test.YtbcfpiahhippaaaG1
namespace Go.Proofs.Ytbcfpiahhippaaa
open Go.RowKit

set_option maxHeartbeats 400000 in
set_option maxRecDepth 100000 in
theorem lsame_eq (va vb : Value) (xs : List Int) (w : World) (ha : Bs .u8 w va xs) (hb : Bs .u8 w vb xs) (hl : xs.length ≤ 140737488355328) :
    Calls Try.prog 10 #[va, vb] w fun e w' => e = .returned (.bool true) ∧ Only (fun _ => False) w w' := by
  have A := hideIt (bsame_eq va vb xs w ha hb hl)
  clear ha hb
  go_enter Try.func10, Try.ntmps10
  go_wp2_with fail
  refine A.out.mono ?_
  rintro e w1 ⟨rfl, o1⟩
  have H := hideIt o1
  clear o1 A
  go_wp2
  go_ret
  exact ⟨rfl, H.out⟩
set_option maxHeartbeats 400000 in
set_option maxRecDepth 100000 in
theorem lsame_any (va vb : Value) (xs ys : List Int) (w : World) (ha : Bs .u8 w va xs) (hb : Bs .u8 w vb ys) (hl : xs.length ≤ 140737488355328) :
    Calls Try.prog 10 #[va, vb] w fun e w' => e = .returned (.bool (decide (xs = ys))) ∧ Only (fun _ => False) w w' := by
  have A := hideIt (same_any va vb xs ys w ha hb hl)
  obtain ⟨d, hd⟩ : ∃ d, d = decide (xs = ys) := ⟨_, rfl⟩
  rw [← hd] at A ⊢
  clear ha hb hd
  go_enter Try.func10, Try.ntmps10
  go_wp2_with fail
  refine A.out.mono ?_
  rintro e w1 ⟨rfl, o1⟩
  have H := hideIt o1
  clear o1 A
  go_wp2
  go_ret
  exact ⟨rfl, H.out⟩
def Y32 : List Value := bl (List.replicate 32 0)
def Y31 : List Value := bl (List.replicate 31 0)
theorem mk32f (w : World) : (Instr.makeSlice 22 (.int .i64 32) (.int .i64 32)).run Try.prog w = .ok (.slice (some ⟨w.heap.size, 0, none⟩) 32 32) (w.alloc (.cells Y32.toArray 5)) := by kernel_rfl
theorem mk31f (w : World) : (Instr.makeSlice 22 (.int .i64 31) (.int .i64 31)).run Try.prog w = .ok (.slice (some ⟨w.heap.size, 0, none⟩) 31 31) (w.alloc (.cells Y31.toArray 5)) := by kernel_rfl
def K0 : List Int := List.replicate 32 0
theorem K0_8 : U8 K0 := by intro y hy; have := List.eq_of_mem_replicate hy; omega
theorem K0_bs (w : World) : Bs .u8 (w.alloc (.cells Y32.toArray 5)) (.slice (some ⟨w.heap.size, 0, none⟩) 32 32) K0 :=
  Bs.of_own (k := .u8) (E := 5) (lo := w.heap.size) (xs := K0) (own_of_blk (n := 32) (Blk.new w 5 Y32) (Nat.le_refl _) (by unfold maxLen; omega) rfl)
set_option maxHeartbeats 1600000 in
set_option maxRecDepth 100000 in
theorem awake_any (w : World) : Calls Try.prog 7 #[] w fun e w' => e = .returned (.bool true) ∧ Only (fun _ => False) w w' := by
  have hmk := mk32f
  have hmk1 := mk31f
  have HB := hideIt K0_bs
  obtain ⟨Y, hY⟩ : ∃ Y, Y = Y32 := ⟨_, rfl⟩
  obtain ⟨Z, hZ⟩ : ∃ Z, Z = Y31 := ⟨_, rfl⟩
  rw [← hY] at hmk HB
  rw [← hZ] at hmk1
  have HO : Hid (∀ (X : List Value) (W : World), Only (fun _ => False) W (W.alloc (.cells X.toArray 5))) := fun X W => (Only.refl _ _).alloc _
  have D := hideIt (derive_ok (.slice (some ⟨w.heap.size, 0, none⟩) 32 32) K0 1 ⟨#[97]⟩ rfl K0_8 (by decide) (by decide) _ (HB.out w))
  clear hY hZ
  go_enter Try.func7, Try.ntmps7
  go_wp2_with fail
  refine D.out.mono ?_
  rintro e w1 ⟨v1, rfl, own1, o1⟩
  obtain ⟨a1, c1, rfl⟩ := own_form own1
  have O1 := hideIt ((HO.out Y w).same o1)
  have D2 := hideIt (derive_key (some ⟨w1.heap.size, 0, none⟩) 31 31 (.int .u8 1) ⟨#[97]⟩ (by decide) (w1.alloc (.cells Z.toArray 5)))
  clear own1 o1 D
  go_wp2_with fail
  refine D2.out.mono ?_
  rintro e w2 ⟨rfl, o2⟩
  have O2 := hideIt (O1.out.same ((HO.out Z w1).same o2))
  have D3 := hideIt (nonce_any (.slice (some ⟨w2.heap.size, 0, none⟩) 32 32) K0 1 1048576 K0_8 _ (HB.out w2) (by decide))
  rw [show KNe K0 1048576 = 1 from rfl] at D3
  clear o2 D2 O1
  go_wp2_with fail
  refine D3.out.mono ?_
  rintro e w3 ⟨v3, rfl, own3, o3⟩
  have O3 := hideIt (O2.out.same ((HO.out Y w2).same o3))
  have D4 := hideIt (nonce_any (.slice (some ⟨w3.heap.size, 0, none⟩) 32 32) K0 1 1 K0_8 _ (HB.out w3) (by decide))
  rw [show KNe K0 1 = 0 from rfl, show KNt K0 1 1 = KNC K0 1 1 from rfl, KNC_len] at D4
  clear own3 o3 D3 O2
  go_wp2_with fail
  refine D4.out.mono ?_
  rintro e w4 ⟨v4, rfl, own4, o4⟩
  obtain ⟨a4, c4, rfl⟩ := own_form own4
  have O4 := hideIt (O3.out.same ((HO.out Y w3).same o4))
  clear own4 o4 D4 O3 HB HO hmk hmk1
  go_wp2
  go_ret
  exact ⟨rfl, O4.out⟩
end Go.Proofs.Ytbcfpiahhippaaa
