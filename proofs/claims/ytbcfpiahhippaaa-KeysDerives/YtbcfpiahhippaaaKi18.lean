/- The text that goes into a key; version and index. -/
import Derived.Test.YtbcfpiahhippaaaKm
import Derived.Test.YtbcfpiahhippaaaVr2
import Derived.Test.YtbcfpiahhippaaaG2
import Derived.Test.YtbcfpiahhippaaaAp0
namespace Go.Proofs.Ytbcfpiahhippaaa
open Go.RowKit

set_option maxHeartbeats 1600000 in
set_option maxRecDepth 100000 in
theorem info_any (p : Int) (t : ByteArray) (ht : t.size ≤ 1000) (w : World) :
    Calls Try.prog 21 #[.int .u8 p, .string t] w fun e w' => ∃ v, e = .returned v ∧ w'.ownsRow w.heap.size 5 1 v (KTX p (sb t)).length (bl (KTX p (sb t))) ∧ Only (fun _ => False) w w' := by
  have hcv := conv_bytes t
  have hge := grownCap_ge (w.alloc (.cells #[.int .u8 p] 5)) t.size 0 5
  obtain ⟨c, hc⟩ : ∃ c, c = grownCap (w.alloc (.cells #[.int .u8 p] 5)) t.size 0 5 := ⟨_, rfl⟩
  rw [← hc] at hge
  have o1 : Only (fun _ => False) w (w.alloc (.cells #[.int .u8 p] 5)) := (Only.refl _ _).alloc _
  have b0 : Bs .u8 (w.alloc (.cells #[.int .u8 p] 5)) (.slice (some ⟨w.heap.size, 0, none⟩) 1 1) [p] := Bs.lit .u8 w 5 [p]
  have o2 : Only (fun _ => False) (w.alloc (.cells #[.int .u8 p] 5)) ((w.alloc (.cells #[.int .u8 p] 5)).alloc (bytesObj t c)).drew := ((Only.refl _ _).alloc _).drew
  have A := hideIt (blk_any (.slice (some ⟨w.heap.size + 1, 0, none⟩) t.size c) (sb t) ((w.alloc (.cells #[.int .u8 p] 5)).alloc (bytesObj t c)).drew (bytesObj_bs (heap_drew_at (heap_at_new (by simp))) (by omega)) (NoCap.some _ _ _) (by rw [sb_len]; omega))
  have HL : Hid ((blk (sb t)).length ≤ 2000) := by
    have := blk_len (sb t) (by rw [sb_len]; omega)
    rw [sb_len] at this
    show _ ≤ _
    omega
  have P0 := hideIt (And.intro (b0.past o2) (o1.same o2))
  have HX : Hid ([p] ++ blk (sb t) = KTX p (sb t)) := rfl
  obtain ⟨X, hX⟩ : ∃ X, X = blk (sb t) := ⟨_, rfl⟩
  rw [← hX] at A HL HX
  clear o1 b0 o2 hge hX
  go_enter Try.func21, Try.ntmps21
  go_wp2_with fail
  rw [← hc]
  refine A.out.mono ?_
  rintro e w1 ⟨v1, rfl, own1, o1⟩
  obtain ⟨a1, c1, rfl⟩ := own_form own1
  have oa : Only (fun _ => False) w1 (w1.alloc (.cells #[.slice (some ⟨w.heap.size, 0, none⟩) 1 1, .slice a1 X.length c1] 22)) := (Only.refl _ _).alloc _
  have C := hideIt (concat_two w1.heap.size (.slice (some ⟨w.heap.size, 0, none⟩) 1 1) (.slice a1 X.length c1) [p] X (w1.alloc (.cells #[.slice (some ⟨w.heap.size, 0, none⟩) 1 1, .slice a1 X.length c1] 22)) (by go_cell) (by go_cell) (P0.out.1.past (o1.same oa)) ((Bs.of_own (k := .u8) own1).past oa) (NoCap.some _ _ _) (NoCap.of_own own1) (by simp only [List.length_cons]; omega) (by have := HL.out; simp only [List.length_cons, List.length_nil]; omega))
  rw [HX.out] at C
  have O1 := hideIt (P0.out.2.same (o1.same oa))
  obtain ⟨m, hm⟩ : ∃ m, m = X.length := ⟨_, rfl⟩
  rw [← hm] at C O1 ⊢
  clear own1 o1 oa A P0 hm hcv hc
  go_wp2_with fail
  refine C.out.mono ?_
  rintro e w2 ⟨v2, rfl, own2, o2⟩
  have F := hideIt (And.intro (own_low own2 O1.out.size) (O1.out.same o2))
  clear own2 o2 C O1
  go_wp2
  go_ret
  exact ⟨_, rfl, F.out⟩
set_option maxHeartbeats 1600000 in
set_option maxRecDepth 100000 in
theorem place_any (v i : Int) (hi : 0 ≤ i ∧ i ≤ 9223372036854775807) (w : World) :
    Calls Try.prog 25 #[.int .u64 v, .int .i64 i] w fun e w' => ∃ u, e = .returned u ∧ w'.ownsRow w.heap.size 5 1 u 12 (bl (NTX v i)) ∧ Only (fun _ => False) w w' := by
  have hw : IntKind.u64.wrap i = i := by rw [IntKind.wrap_u64]; omega
  have A := hideIt (fix_any v 8 w (by decide))
  have B := hideIt (fun W => fix_any i 4 W (by decide))
  rw [show ((8 : Nat) : Int) = 8 from rfl, fixL_len] at A
  rw [show ((4 : Nat) : Int) = 4 from rfl, fixL_len] at B
  have HX : Hid (fixL v 8 ++ fixL i 4 = NTX v i ∧ (fixL v 8 ++ fixL i 4).length = 12 ∧ (fixL v 8).length = 8 ∧ (fixL i 4).length = 4) := ⟨rfl, NTX_len v i, fixL_len _ _, fixL_len _ _⟩
  obtain ⟨X, hX⟩ : ∃ X, X = fixL v 8 := ⟨_, rfl⟩
  obtain ⟨Y, hY⟩ : ∃ Y, Y = fixL i 4 := ⟨_, rfl⟩
  rw [← hX] at A HX
  rw [← hY] at B HX
  clear hX hY hi
  go_enter Try.func25, Try.ntmps25
  go_wp2_with fail
  refine A.out.mono ?_
  rintro e w1 ⟨v1, rfl, own1, o1⟩
  obtain ⟨a1, c1, rfl⟩ := own_form own1
  have B1 := hideIt (B.out w1)
  have OW1 := hideIt own1
  have O1 := hideIt o1
  clear own1 o1 A B
  go_wp2_with fail
  refine B1.out.mono ?_
  rintro e w2 ⟨v2, rfl, own2, o2⟩
  obtain ⟨a2, c2, rfl⟩ := own_form own2
  have oa : Only (fun _ => False) w2 (w2.alloc (.cells #[.slice a1 8 c1, .slice a2 4 c2] 22)) := (Only.refl _ _).alloc _
  have C := hideIt (concat_two w2.heap.size (.slice a1 8 c1) (.slice a2 4 c2) X Y (w2.alloc (.cells #[.slice a1 8 c1, .slice a2 4 c2] 22)) (by go_cell) (by go_cell) ((Bs.of_own (k := .u8) (E := 5) (lo := w.heap.size) (by rw [HX.out.2.2.1]; exact OW1.out)).past (o2.same oa)) ((Bs.of_own (k := .u8) (E := 5) (lo := w1.heap.size) (by rw [HX.out.2.2.2]; exact own2)).past oa) (NoCap.of_own OW1.out) (NoCap.of_own own2) (by have := HX.out.2.2.1; omega) (by have := HX.out.2.2.1; have := HX.out.2.2.2; omega))
  rw [HX.out.2.1, HX.out.1] at C
  have O2 := hideIt (O1.out.same (o2.same oa))
  clear own2 o2 oa B1 OW1 O1
  go_wp2_with fail
  refine C.out.mono ?_
  rintro e w3 ⟨v3, rfl, own3, o3⟩
  have F := hideIt (And.intro (own_low own3 O2.out.size) (O2.out.same o3))
  clear own3 o3 C O2
  go_wp2
  go_ret
  exact ⟨_, rfl, F.out⟩
end Go.Proofs.Ytbcfpiahhippaaa
