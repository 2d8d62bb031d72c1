/- ManifestEncodes: the walk. -/
import Derived.Test.YtiolgenaefillaaGreatRz21
import Derived.Test.YtiolgenaefillaaGreatAw21
import Derived.Test.YtiolgenaefillaaGreatMw
import Derived.Test.YtiolgenaefillaaGreatJf
namespace Go.Proofs.YtiolgenaefillaaGreat
open Go.RowKit

set_option maxHeartbeats 4000000 in
set_option maxRecDepth 100000 in
theorem encodes_walk (x vp ve vr : Value) (m : MAN) (w : World) (h : Mf w x m vp ve vr) (hk : Mok m) (np : NoCap vp) (nr : NoCap vr) :
    Calls Tryz.prog 3 #[x] w fun e w' => e = .returned (.bool true) ∧ Only (fun _ => False) w w' := by
  have hf := h.form
  obtain ⟨ap, pc, ep⟩ := h.prev.len
  obtain ⟨ae, ec, ee⟩ := h.es.len
  obtain ⟨ar, rc, er⟩ := h.root.len
  subst ep ee er hf
  have oa : Only (fun _ => False) w (w.alloc (.cells #[.int .u64 m.ver, .slice ap m.prev.length pc, .slice ae m.es.length ec, .slice ar m.root.length rc] 26)) := (Only.refl _ _).alloc _
  have K0 := hideIt (heap_alloc_new w (.cells #[.int .u64 m.ver, .slice ap m.prev.length pc, .slice ae m.es.length ec, .slice ar m.root.length rc] 26))
  have A := hideIt (awake_any (w.alloc (.cells #[.int .u64 m.ver, .slice ap m.prev.length pc, .slice ae m.es.length ec, .slice ar m.root.length rc] 26)))
  have OA := hideIt oa
  have FW := hideIt (fun W (o : Only (fun _ => False) w W) => few_any _ _ _ _ m W (h.past o))
  cases hfew : FEWM m with
  | false =>
    rw [hfew] at FW
    clear h hk np nr oa
    go_enter Tryz.func3, Tryz.ntmps3
    go_wp2_with fail
    refine A.out.mono ?_
    rintro e w1 ⟨rfl, o1⟩
    obtain ⟨k0, k1, k2, k3⟩ := box_cells (o1.heap K0.out (fun f => f))
    have O1 := hideIt (OA.out.same o1)
    clear A o1 K0 OA
    go_wp2_with fail
    refine (FW.out w1 O1.out).mono ?_
    rintro e w2 ⟨rfl, o2⟩
    have O2 := hideIt (O1.out.same o2)
    clear FW o2 O1 k0 k1 k2 k3
    go_wp2
    go_ret
    exact ⟨rfl, O2.out⟩
  | true =>
    rw [hfew] at FW
    obtain ⟨f1, f2, f3, f4⟩ := few_of hfew
    have E1 := hideIt (fun W (o : Only (fun _ => False) w W) => encode_any _ _ _ _ m W (h.past o) hk np nr (by omega))
    have E2 := hideIt (fun W (o : Only (fun _ => False) w W) => rencode21_any _ _ _ _ m W (h.past o) hk np nr f1)
    have HL : Hid ((MEt m).length ≤ 1000000000) := by
      simp only [Hid]
      unfold MEt
      split
      · next he =>
        exact MENC_le ((MEr_ok hk).1 he)
      · simp
    obtain ⟨L, hL⟩ : ∃ L, L = MEt m := ⟨_, rfl⟩
    obtain ⟨c, hc⟩ : ∃ c, c = MEr m := ⟨_, rfl⟩
    rw [← hL, ← hc] at E1 E2
    rw [← hL] at HL
    have d1 : (c == c) = true := by simp
    clear h hk np nr oa f1 f2 f3 f4 hL hc
    go_enter Tryz.func3, Tryz.ntmps3
    go_wp2_with fail
    refine A.out.mono ?_
    rintro e w1 ⟨rfl, o1⟩
    have K1 := hideIt (o1.heap K0.out (fun f => f))
    obtain ⟨k0, k1, k2, k3⟩ := box_cells K1.out
    have O1 := hideIt (OA.out.same o1)
    clear A o1 K0 OA
    go_wp2_with fail
    refine (FW.out w1 O1.out).mono ?_
    rintro e w2 ⟨rfl, o2⟩
    have K2 := hideIt (o2.heap K1.out (fun f => f))
    clear k0 k1 k2 k3
    obtain ⟨k0, k1, k2, k3⟩ := box_cells K2.out
    have O2 := hideIt (O1.out.same o2)
    clear FW o2 O1 K1
    go_wp2_with fail
    refine (E1.out w2 O2.out).mono ?_
    rintro e w3 ⟨u3, rfl, own3, o3⟩
    have K3 := hideIt (o3.heap K2.out (fun f => f))
    clear k0 k1 k2 k3
    obtain ⟨k0, k1, k2, k3⟩ := box_cells K3.out
    have O3 := hideIt (O2.out.same o3)
    have B3 := hideIt (Bs.of_own (k := .u8) own3)
    clear E1 o3 O2 K2 own3
    go_wp2_with fail
    refine (E2.out w3 O3.out).mono ?_
    rintro e w4 ⟨u4, rfl, own4, o4⟩
    have S := hideIt (same_any u3 u4 L L w4 (B3.out.past o4) (Bs.of_own (k := .u8) own4) (by have := HL.out; omega))
    rw [decide_eq_true rfl] at S
    have O4 := hideIt (O3.out.same o4)
    clear E2 o4 O3 K3 own4 k0 k1 k2 k3 B3
    go_wp2_with (first
      | (go_at_call 10; refine S.out.mono ?_; rintro e w5 ⟨rfl, o5⟩)
      | fail)
    go_ret
    exact ⟨rfl, O4.out.same o5⟩
end Go.Proofs.YtiolgenaefillaaGreat
