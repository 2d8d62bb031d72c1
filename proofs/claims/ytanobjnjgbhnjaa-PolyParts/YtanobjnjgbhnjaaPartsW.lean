/- The statement PolyParts: the walk. -/
import Derived.Test.YtanobjnjgbhnjaaZo
namespace Go.Proofs.Ytanobjnjgbhnjaa
open Go.RowKit

set_option maxHeartbeats 3200000 in
set_option maxRecDepth 100000 in
theorem parts_walk (vr vs vb : Value) (r s xs : List Int) (r8 : U8 r) (s8 : U8 s) (x8 : U8 xs) (w : World) (br : Bs .u8 w vr r) (bs : Bs .u8 w vs s) (bb : Bs .u8 w vb xs) (nr : NoCap vr) (ns : NoCap vs) :
    Calls Try.prog 4 #[vr, vs, vb] w fun e w' => e = .returned (.bool true) ∧ Below w.heap.size w w' := by
  have A := hideIt (awake_any w)
  obtain ⟨ro, rc, rfl⟩ := br.len
  obtain ⟨so, sc, rfl⟩ := bs.len
  obtain ⟨bo, bc, rfl⟩ := bb.len
  obtain ⟨p, hp⟩ : ∃ p, p = r.length := ⟨_, rfl⟩
  obtain ⟨q, hq⟩ : ∃ q, q = s.length := ⟨_, rfl⟩
  obtain ⟨n, hn⟩ : ∃ n, n = xs.length := ⟨_, rfl⟩
  rw [← hp] at br nr ⊢
  rw [← hq] at bs ns ⊢
  rw [← hn] at bb ⊢
  by_cases h1 : p = 16
  · by_cases h2 : q = 16
    · by_cases h3 : 600 < n
      · have d1 : ((p : Int) != 16) = false := by simp; omega
        have d2 : ((q : Int) != 16) = false := by simp; omega
        have d3 : (600 : Int) < (n : Int) := by omega
        clear br bs bb nr ns r8 s8 x8 hp hq hn
        go_enter Try.func4, Try.ntmps4
        go_wp2_with fail
        refine A.out.mono ?_
        rintro e w1 ⟨rfl, o1⟩
        have O1 := hideIt o1
        clear o1 A
        go_wp2
        go_ret
        exact ⟨rfl, O1.out.low (Nat.le_refl _)⟩
      · subst h1
        subst h2
        have HR := hideIt (And.intro br (And.intro nr (And.intro r8 hp.symm)))
        have HS := hideIt (And.intro bs (And.intro ns (And.intro s8 hq.symm)))
        have HX := hideIt (And.intro bb (And.intro x8 (And.intro hn (show n ≤ 600 by omega))))
        obtain ⟨j0, hj, y0, y1, y2⟩ := info_parts Try.infoU8
        have d3 : ¬ (600 : Int) < (n : Int) := by omega
        have hmk16 := mk16
        obtain ⟨Z, hZ⟩ : ∃ Z, Z = Y16 := ⟨_, rfl⟩
        rw [← hZ] at hmk16
        have HZ := hideIt hZ
        have TT : Hid (leB 16 (nv (TAG (r ++ List.replicate 16 0) xs) + nv s) = TAG (r ++ s) xs ∧ TAG (List.replicate 16 0 ++ s) xs = s ∧ TAG (r ++ s) [] = s) := ⟨parts_plus r s xs hp.symm, parts_rzero s xs s8 hq.symm, parts_nil r s r8 s8 hp.symm hq.symm⟩
        have MO : Hid (ME (r ++ s) = 0 ∧ ME (r ++ List.replicate 16 0) = 0 ∧ ME (List.replicate 16 0 ++ s) = 0 ∧ (∀ m, MT (r ++ s) m = TAG (r ++ s) m) ∧ (∀ m, MT (r ++ List.replicate 16 0) m = TAG (r ++ List.replicate 16 0) m) ∧ (∀ m, MT (List.replicate 16 0 ++ s) m = TAG (List.replicate 16 0 ++ s) m)) := by
          have l1 : (r ++ s).length = 32 := by rw [List.length_append, ← hp, ← hq]
          have l2 : (r ++ List.replicate 16 (0 : Int)).length = 32 := by rw [List.length_append, ← hp, List.length_replicate]
          have l3 : (List.replicate 16 (0 : Int) ++ s).length = 32 := by rw [List.length_append, ← hq, List.length_replicate]
          exact ⟨if_pos l1, if_pos l2, if_pos l3, fun _ => if_pos l1, fun _ => if_pos l2, fun _ => if_pos l3⟩
        clear br bs bb nr ns r8 s8 x8 hp hq hn hZ
        go_enter Try.func4, Try.ntmps4
        go_wp2_with fail
        refine A.out.mono ?_
        rintro e w0 ⟨rfl, o0⟩
        have O0 := hideIt o0
        have BR0 := hideIt (fun (W : World) (o : Only (fun _ => False) w0 W) => HR.out.1.past (O0.out.same o))
        have BS0 := hideIt (fun (W : World) (o : Only (fun _ => False) w0 W) => HS.out.1.past (O0.out.same o))
        clear o0 A
        go_wp2_with (first | (at_builtin; refine wpList_append_bs _ rfl _ _ 22 rfl w0.heap.size 5 j0 (.int .u8 0) 1 Try.underlying22 hj y0 y1 y2 rfl (.slice (some ⟨w0.heap.size, 0, none⟩) 0 0) 0 (bl []) rfl (made0 w0) .u8 (.slice ro 16 rc) r rfl (BR0.out _ ((Only.refl _ _).alloc _)) HR.out.2.1 (by rw [HR.out.2.2.2]; unfold maxLen; omega) (by rw [HR.out.2.2.2]; omega) (by rw [size_alloc]; omega) ?_; intro v1a w1a own1a gr1a hnilx hobx; clear hnilx hobx) | (at_builtin; (have own1b := own_two (a := []) rfl HR.out.2.2.2 (by have h := own1a; rw [HR.out.2.2.2] at h; exact h)); refine wpList_append_bs _ rfl _ _ 22 rfl w0.heap.size 5 j0 (.int .u8 0) 1 Try.underlying22 hj y0 y1 y2 rfl v1a 16 (bl r) rfl own1b.1 .u8 (.slice so 16 sc) s rfl (BS0.out _ (grown_only gr1a)) HS.out.2.1 (by rw [HS.out.2.2.2]; unfold maxLen; omega) (by rw [HS.out.2.2.2]; omega) (grown_only gr1a).size ?_; intro v1 w1 own1 gr1 hnilx hobx; clear hnilx hobx))
        have own1c := own_two (a := r) (b := s) HR.out.2.2.2 HS.out.2.2.2 (by have h := own1; rw [HS.out.2.2.2] at h; exact h)
        have o1 : Only (fun _ => False) w0 w1 := grown_own (grown_only gr1a) own1b.1 (Nat.le_refl _) gr1
        have P1 := hideIt (mac_any v1 (.slice bo n bc) (r ++ s) xs (HR.out.2.2.1.app HS.out.2.2.1) HX.out.2.1 (by have := HX.out.2.2; omega) w1 own1c.2 (HX.out.1.past (O0.out.same o1)))
        rw [MO.out.1, MO.out.2.2.2.1] at P1
        have O1 := hideIt (O0.out.same o1)
        clear own1a gr1a own1b own1 gr1 own1c o1 BR0 BS0
        refine P1.out.mono ?_
        rintro e w2 ⟨v2, rfl, b2, nc2, o2⟩
        obtain ⟨to, tc, e2⟩ := b2.len
        rw [TAG_len] at e2
        subst e2
        have B2 := hideIt b2
        have O2 := hideIt (O1.out.same o2)
        have BR2 := hideIt (fun (W : World) (o : Only (fun _ => False) w2 W) => HR.out.1.past (O2.out.same o))
        clear b2 nc2 o2 P1 O0 O1
        go_wp2_with (first | (at_builtin; refine wpList_append_bs _ rfl _ _ 22 rfl w2.heap.size 5 j0 (.int .u8 0) 1 Try.underlying22 hj y0 y1 y2 rfl (.slice (some ⟨w2.heap.size, 0, none⟩) 0 0) 0 (bl []) rfl (made0 w2) .u8 (.slice ro 16 rc) r rfl (BR2.out _ ((Only.refl _ _).alloc _)) HR.out.2.1 (by rw [HR.out.2.2.2]; unfold maxLen; omega) (by rw [HR.out.2.2.2]; omega) (by rw [size_alloc]; omega) ?_; intro v3a w3a own3a gr3a hnilx hobx; clear hnilx hobx) | (at_builtin; (have own3b := own_two (a := []) rfl HR.out.2.2.2 (by have h := own3a; rw [HR.out.2.2.2] at h; exact h)); (obtain ⟨g3, c3, rfl, _⟩ := own_someB own3b.1 (by decide)); (obtain ⟨v3, w3, hrun, own3, gr3⟩ := zeros_own w3a w2.heap.size g3 16 c3 r own3b.1 (by decide) (grown_only gr3a).size); refine wpList_append_run _ rfl _ _ 22 3 rfl _ _ rfl rfl v3 w3 hrun ?_))
        have o3 : Only (fun _ => False) w2 w3 := grown_own (grown_only gr3a) own3b.1 (Nat.le_refl _) gr3
        have b3 : Bs .u8 w3 v3 (r ++ List.replicate 16 0) := Bs.of_own (k := .u8) (E := 5) (lo := w2.heap.size) (by rw [List.length_append, HR.out.2.2.2, List.length_replicate]; exact own3)
        have P2 := hideIt (mac_any v3 (.slice bo n bc) (r ++ List.replicate 16 0) xs (HR.out.2.2.1.app (zeros_u8 16)) HX.out.2.1 (by have := HX.out.2.2; omega) w3 b3 (HX.out.1.past (O2.out.same o3)))
        rw [MO.out.2.1, MO.out.2.2.2.2.1] at P2
        have O3 := hideIt (O2.out.same o3)
        have B3 := hideIt (B2.out.past o3)
        clear own3a gr3a own3b hrun own3 gr3 b3 o3 BR2 B2 O2
        refine P2.out.mono ?_
        rintro e w4 ⟨v4, rfl, b4, nc4, o4⟩
        obtain ⟨xo, xc, e4⟩ := b4.len
        rw [TAG_len] at e4
        subst e4
        have O4 := hideIt (O3.out.same o4)
        have B4 := hideIt (And.intro (B3.out.past o4) b4)
        have BS4 := hideIt (fun (W : World) (o : Only (fun _ => False) w4 W) => HS.out.1.past (O4.out.same o))
        have M16 := hideIt (made16 w4)
        rw [← HZ.out] at M16
        clear b4 nc4 o4 P2 B3 O3
        go_wp2_with (first | (at_builtin; refine wpList_append_bs _ rfl _ _ 22 rfl w4.heap.size 5 j0 (.int .u8 0) 1 Try.underlying22 hj y0 y1 y2 rfl (.slice (some ⟨w4.heap.size, 0, none⟩) 16 16) 16 (bl (List.replicate 16 0)) rfl M16.out .u8 (.slice so 16 sc) s rfl (BS4.out _ ((Only.refl _ _).alloc _)) HS.out.2.1 (by rw [HS.out.2.2.2]; unfold maxLen; omega) (by rw [HS.out.2.2.2]; omega) (by rw [size_alloc]; omega) ?_; intro v5 w5 own5 gr5 hnilx hobx; clear hnilx hobx))
        have own5c := own_two (a := List.replicate 16 0) (b := s) (n := 16) (m := 16) (by simp) HS.out.2.2.2 (by have h := own5; rw [HS.out.2.2.2] at h; exact h)
        have o5 : Only (fun _ => False) w4 w5 := grown_only gr5
        have P3 := hideIt (mac_any v5 (.slice bo n bc) (List.replicate 16 0 ++ s) xs ((zeros_u8 16).app HS.out.2.2.1) HX.out.2.1 (by have := HX.out.2.2; omega) w5 own5c.2 (HX.out.1.past (O4.out.same o5)))
        rw [MO.out.2.2.1, MO.out.2.2.2.2.2, TT.out.2.1] at P3
        have O5 := hideIt (O4.out.same o5)
        have B5 := hideIt (And.intro (B4.out.1.past o5) (B4.out.2.past o5))
        clear own5 gr5 own5c o5 BS4 M16 B4 O4 hmk16
        refine P3.out.mono ?_
        rintro e w6 ⟨v6, rfl, b6, nc6, o6⟩
        have O6 := hideIt (O5.out.same o6)
        have B6 := hideIt (And.intro (B5.out.1.past o6) (And.intro (B5.out.2.past o6) b6))
        have BR6 := hideIt (fun (W : World) (o : Only (fun _ => False) w6 W) => HR.out.1.past (O6.out.same o))
        have BS6 := hideIt (fun (W : World) (o : Only (fun _ => False) w6 W) => HS.out.1.past (O6.out.same o))
        clear b6 nc6 o6 P3 B5 O5
        go_wp2_with (first | (at_builtin; refine wpList_append_bs _ rfl _ _ 22 rfl w6.heap.size 5 j0 (.int .u8 0) 1 Try.underlying22 hj y0 y1 y2 rfl (.slice (some ⟨w6.heap.size, 0, none⟩) 0 0) 0 (bl []) rfl (made0 w6) .u8 (.slice ro 16 rc) r rfl (BR6.out _ ((Only.refl _ _).alloc _)) HR.out.2.1 (by rw [HR.out.2.2.2]; unfold maxLen; omega) (by rw [HR.out.2.2.2]; omega) (by rw [size_alloc]; omega) ?_; intro v7a w7a own7a gr7a hnilx hobx; clear hnilx hobx) | (at_builtin; (have own7b := own_two (a := []) rfl HR.out.2.2.2 (by have h := own7a; rw [HR.out.2.2.2] at h; exact h)); refine wpList_append_bs _ rfl _ _ 22 rfl w6.heap.size 5 j0 (.int .u8 0) 1 Try.underlying22 hj y0 y1 y2 rfl v7a 16 (bl r) rfl own7b.1 .u8 (.slice so 16 sc) s rfl (BS6.out _ (grown_only gr7a)) HS.out.2.1 (by rw [HS.out.2.2.2]; unfold maxLen; omega) (by rw [HS.out.2.2.2]; omega) (grown_only gr7a).size ?_; intro v7 w7 own7 gr7 hnilx hobx; clear hnilx hobx))
        have own7c := own_two (a := r) (b := s) HR.out.2.2.2 HS.out.2.2.2 (by have h := own7; rw [HS.out.2.2.2] at h; exact h)
        have o7 : Only (fun _ => False) w6 w7 := grown_own (grown_only gr7a) own7b.1 (Nat.le_refl _) gr7
        have P4 := hideIt (mac_any v7 (.slice none 0 0) (r ++ s) [] (HR.out.2.2.1.app HS.out.2.2.1) (by intro y hy; cases hy) (by decide) w7 own7c.2 (Bs.nil _ _))
        rw [MO.out.1, MO.out.2.2.2.1, TT.out.2.2] at P4
        have O7 := hideIt (O6.out.same o7)
        have B7 := hideIt (And.intro (B6.out.1.past o7) (And.intro (B6.out.2.1.past o7) (B6.out.2.2.past o7)))
        clear own7a gr7a own7b own7 gr7 own7c o7 BR6 BS6 B6 O6
        refine P4.out.mono ?_
        rintro e w8 ⟨v8, rfl, b8, nc8, o8⟩
        have O8 := hideIt (O7.out.same o8)
        have B8 := hideIt (And.intro (B7.out.1.past o8) (And.intro (B7.out.2.1.past o8) (And.intro (B7.out.2.2.past o8) b8)))
        have PL := hideIt (lplus_any (.slice xo 16 xc) (.slice so 16 sc) (TAG (r ++ List.replicate 16 0) xs) s (TAG_len _ _) HS.out.2.2.2 (TAG_u8 _ _) HS.out.2.2.1 w8 B8.out.2.1 (HS.out.1.past O8.out))
        rw [TT.out.1] at PL
        clear b8 nc8 o8 P4 B7 O7
        go_wp2_with fail
        refine PL.out.mono ?_
        rintro e w9 ⟨v9, rfl, b9, o9⟩
        have S1 := hideIt (lsame_eq (.slice to 16 tc) v9 (TAG (r ++ s) xs) w9 (B8.out.1.past o9) b9 (by rw [TAG_len]; decide))
        have O9 := hideIt (O8.out.same o9)
        have B9 := hideIt (And.intro (B8.out.2.2.1.past o9) (B8.out.2.2.2.past o9))
        clear b9 o9 PL B8 O8
        go_wp2_with fail
        refine S1.out.mono ?_
        rintro e w10 ⟨rfl, o10⟩
        have O10 := hideIt (O9.out.same o10)
        have S2 := hideIt (lsame_eq v6 (.slice so 16 sc) s w10 (B9.out.1.past o10) (HS.out.1.past O10.out) (by rw [HS.out.2.2.2]; decide))
        have B10 := hideIt (B9.out.2.past o10)
        clear o10 S1 B9 O9
        go_wp2_with fail
        refine S2.out.mono ?_
        rintro e w11 ⟨rfl, o11⟩
        have O11 := hideIt (O10.out.same o11)
        have S3 := hideIt (lsame_eq v8 (.slice so 16 sc) s w11 (B10.out.past o11) (HS.out.1.past O11.out) (by rw [HS.out.2.2.2]; decide))
        clear o11 S2 B10 O10
        go_wp2_with fail
        refine S3.out.mono ?_
        rintro e w12 ⟨rfl, o12⟩
        have O12 := hideIt (O11.out.same o12)
        clear o12 S3
        go_wp2
        go_ret
        exact ⟨rfl, O12.out.low (Nat.le_refl _)⟩
    · have d1 : ((p : Int) != 16) = false := by simp; omega
      have d2 : ((q : Int) != 16) = true := by simp; omega
      clear br bs bb nr ns r8 s8 x8 hp hq hn
      go_enter Try.func4, Try.ntmps4
      go_wp2_with fail
      refine A.out.mono ?_
      rintro e w1 ⟨rfl, o1⟩
      have O1 := hideIt o1
      clear o1 A
      go_wp2
      go_ret
      exact ⟨rfl, O1.out.low (Nat.le_refl _)⟩
  · have d1 : ((p : Int) != 16) = true := by simp; omega
    clear br bs bb nr ns r8 s8 x8 hp hq hn
    go_enter Try.func4, Try.ntmps4
    go_wp2_with fail
    refine A.out.mono ?_
    rintro e w1 ⟨rfl, o1⟩
    have O1 := hideIt o1
    clear o1 A
    go_wp2
    go_ret
    exact ⟨rfl, O1.out.low (Nat.le_refl _)⟩
end Go.Proofs.Ytanobjnjgbhnjaa
