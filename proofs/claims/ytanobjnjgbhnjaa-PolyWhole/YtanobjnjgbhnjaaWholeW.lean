/- The statement PolyWhole: the walk. -/
import Derived.Test.YtanobjnjgbhnjaaZo
namespace Go.Proofs.Ytanobjnjgbhnjaa
open Go.RowKit

set_option maxHeartbeats 1600000 in
set_option maxRecDepth 100000 in
theorem whole_walk (vb : Value) (xs : List Int) (x8 : U8 xs) (w : World) (bb : Bs .u8 w vb xs) (nb : NoCap vb) :
    Calls Try.prog 7 #[vb] w fun e w' => e = .returned (.bool true) ∧ Below w.heap.size w w' := by
  have A := hideIt (awake_any w)
  obtain ⟨bo, bc, rfl⟩ := bb.len
  by_cases hl : xs.length = 16
  · rw [hl] at bb nb ⊢
    obtain ⟨j0, hj, y0, y1, y2⟩ := info_parts Try.infoU8
    have hmk := mk32
    obtain ⟨Y, hY⟩ : ∃ Y, Y = Y32 := ⟨_, rfl⟩
    have hY0 : Y[0]? = some (.int .u8 0) := by rw [hY]; rfl
    rw [← hY] at hmk
    have HY := hideIt hY
    have HB := hideIt (And.intro bb (And.intro nb (And.intro x8 hl)))
    clear hY bb nb x8 hl
    go_enter Try.func7, Try.ntmps7
    go_wp2_with fail
    refine A.out.mono ?_
    rintro e w0 ⟨rfl, o0⟩
    have KM := hideIt (key_made w0 Y HY.out)
    have O0 := hideIt o0
    have P1 := hideIt (mac_any (.slice (some ⟨w0.heap.size, 0, none⟩) 32 32) (.slice bo 16 bc) K1 xs K1_u8 HB.out.2.2.1 (by rw [HB.out.2.2.2]; decide) _ KM.out.1 ((HB.out.1.past o0).past KM.out.2))
    rw [show ME K1 = 0 from rfl, show MT K1 xs = TAG K1 xs from rfl, whole_tag xs HB.out.2.2.1 HB.out.2.2.2] at P1
    have hf0 : (w0.alloc (.cells Y.toArray 5)).frozen? ⟨w0.heap.size, 0, none⟩ = false := (Blk.new w0 5 Y).froz 0
    have hc0 : (w0.alloc (.cells Y.toArray 5)).cell? ⟨w0.heap.size, 0, none⟩ = some (.int .u8 0) := by rw [(Blk.new w0 5 Y).cell, hY0]
    clear o0 A
    go_wp2_with fail
    refine P1.out.mono ?_
    rintro e w1 ⟨v1, rfl, b1, nc1, o1⟩
    have B1 := hideIt b1
    have K1' := hideIt (KM.out.1.past o1)
    have O1 := hideIt (O0.out.same (KM.out.2.same o1))
    have BX := hideIt (fun (W : World) (o : Only (fun _ => False) w1 W) => HB.out.1.past (O1.out.same o))
    obtain ⟨G, hG⟩ : ∃ G, G = w0.heap.size := ⟨_, rfl⟩
    rw [← hG] at K1' ⊢
    clear b1 nc1 o1 P1 hf0 hc0 hmk hY0 KM O0 hG
    go_wp2_with (first | (at_builtin; refine wpList_append_bs _ rfl _ _ 22 rfl w1.heap.size 5 j0 (.int .u8 0) 1 Try.underlying22 hj y0 y1 y2 rfl (.slice (some ⟨w1.heap.size, 0, none⟩) 0 0) 0 (bl []) rfl (made0 w1) .u8 (.slice bo 16 bc) xs rfl (BX.out _ ((Only.refl _ _).alloc _)) HB.out.2.1 (by rw [HB.out.2.2.2]; unfold maxLen; omega) (by rw [HB.out.2.2.2]; omega) (by rw [size_alloc]; omega) ?_; intro v2 w2 own2 gr2 hnilx hobx; clear hnilx hobx) | (at_builtin; (have own2' := own_two (a := []) rfl HB.out.2.2.2 (by have h := own2; rw [HB.out.2.2.2] at h; exact h)); (obtain ⟨g2, c2, rfl, _⟩ := own_someB own2'.1 (by decide)); (obtain ⟨v3, w3, hrun, own3, gr3⟩ := zeros_own w2 w1.heap.size g2 16 c2 xs own2'.1 (by decide) (grown_only gr2).size); refine wpList_append_run _ rfl _ _ 22 3 rfl _ _ rfl rfl v3 w3 hrun ?_))
    have O3 : Only (fun _ => False) w1 w3 := grown_own (grown_only gr2) own2'.1 (Nat.le_refl _) gr3
    have B3 : Bs .u8 w3 v3 (xs ++ List.replicate 16 0) := Bs.of_own (k := .u8) (E := 5) (lo := w1.heap.size) (by rw [List.length_append, HB.out.2.2.2, List.length_replicate]; exact own3)
    have P2 := hideIt (mac_any (.slice (some ⟨G, 0, none⟩) 32 32) v3 K1 (xs ++ List.replicate 16 0) K1_u8 (HB.out.2.2.1.app (zeros_u8 16)) (by rw [List.length_append, HB.out.2.2.2]; decide) w3 (K1'.out.past O3) B3)
    rw [show ME K1 = 0 from rfl, show MT K1 (xs ++ List.replicate 16 0) = TAG K1 (xs ++ List.replicate 16 0) from rfl, whole_tag2 xs HB.out.2.2.1 HB.out.2.2.2] at P2
    have O4 := hideIt (O1.out.same O3)
    have B4 := hideIt (B1.out.past O3)
    clear O3 B3 own2 gr2 own2' hrun own3 gr3 B1
    refine P2.out.mono ?_
    rintro e w5 ⟨v5, rfl, b5, nc5, o5⟩
    have O5 := hideIt (O4.out.same o5)
    have S1 := hideIt (lsame_eq v1 (.slice bo 16 bc) xs w5 (B4.out.past o5) (HB.out.1.past O5.out) (by rw [HB.out.2.2.2]; decide))
    have B5 := hideIt b5
    clear b5 nc5 o5 P2 B4
    go_wp2_with fail
    refine S1.out.mono ?_
    rintro e w6 ⟨rfl, o6⟩
    have O6 := hideIt (O5.out.same o6)
    have S2 := hideIt (lsame_eq v5 (.slice bo 16 bc) xs w6 (B5.out.past o6) (HB.out.1.past O6.out) (by rw [HB.out.2.2.2]; decide))
    clear o6 S1
    go_wp2_with fail
    refine S2.out.mono ?_
    rintro e w7 ⟨rfl, o7⟩
    have O7 := hideIt (O6.out.same o7)
    clear o7 S2
    go_wp2
    go_ret
    exact ⟨rfl, O7.out.low (Nat.le_refl _)⟩
  · obtain ⟨n, hn⟩ : ∃ n, n = xs.length := ⟨_, rfl⟩
    rw [← hn] at hl ⊢
    have d1 : ((n : Int) != 16) = true := by simp; omega
    clear bb nb x8 hn
    go_enter Try.func7, Try.ntmps7
    go_wp2_with fail
    refine A.out.mono ?_
    rintro e w1 ⟨rfl, o1⟩
    have O1 := hideIt o1
    clear o1 A
    go_wp2
    go_ret
    exact ⟨rfl, O1.out.low (Nat.le_refl _)⟩
end Go.Proofs.Ytanobjnjgbhnjaa
