/- ManifestOnly: the walk. -/
import Derived.Test.YtbjmhhjdfmfkaaaGreatAw21
import Derived.Test.YtbjmhhjdfmfkaaaGreatNz
namespace Go.Proofs.YtbjmhhjdfmfkaaaGreat
open Go.RowKit

theorem MD_cases (ys : List Int) (h8 : U8 ys) : (MDe ys = 0 ∧ MGD (MDv ys) ∧ MENC (MDv ys) = ys) ∨ (MDv ys = ⟨0, [], [], []⟩ ∧ ∃ c, MDEC ys = .error c ∧ MDe ys = c) := by
  cases h : MDEC ys with
  | ok m =>
    obtain ⟨e1, e2⟩ := MD_ok h
    rw [e1]
    exact .inl ⟨e2, MDEC_only h8 h⟩
  | error c =>
    obtain ⟨e1, e2⟩ := MD_err h
    exact .inr ⟨e1, c, rfl, e2⟩
theorem MGD.ok {m : MAN} (h : MGD m) : Mok m := ⟨by have := h.1; omega, h.2.1.2, h.2.2.1.2, fun e he => (h.2.2.2.2 e he).1.2⟩
set_option maxHeartbeats 2000000 in
set_option maxRecDepth 100000 in
theorem only_walk (v : Value) (ys : List Int) (w : World) (h : Bs .u8 w v ys) (h8 : U8 ys) :
    Calls Tryz.prog 7 #[v] w fun e w' => e = .returned (.bool true) ∧ Only (fun _ => False) w w' := by
  obtain ⟨ao, n, cap, hv, hn⟩ : ∃ ao n cap, v = .slice ao n cap ∧ n = ys.length := by
    obtain ⟨ao, cap, e⟩ := h.len
    exact ⟨ao, ys.length, cap, e, rfl⟩
  subst hv
  have A := hideIt (awake_any w)
  by_cases hl : 1000 < n
  · have d1 : decide ((1000 : Int) < (n : Int)) = true := by simp; omega
    have d2 : decide (1000 < n) = true := by simp; omega
    clear h hn
    go_enter Tryz.func7, Tryz.ntmps7
    go_wp2_with fail
    refine A.out.mono ?_
    rintro e w1 ⟨rfl, o1⟩
    have O1 := hideIt o1
    clear A o1
    go_wp2
    go_ret
    exact ⟨rfl, O1.out⟩
  have d1 : decide ((1000 : Int) < (n : Int)) = false := by simp; omega
  have d2 : decide (1000 < n) = false := by simp; omega
  have B := hideIt (fun W (o : Only (fun _ => False) w W) => decode_any _ ys W (h.past o) h8 (by omega))
  have HB := hideIt h
  rcases MD_cases ys h8 with ⟨he, hG, hE⟩ | ⟨hz, c, hc, he⟩
  · rw [he] at B
    have HN := hideIt hn
    have HE := hideIt hE
    have HG := hideIt hG
    obtain ⟨m, hm⟩ : ∃ m, m = MDv ys := ⟨_, rfl⟩
    rw [← hm] at B HE HG
    clear h hn he hG hE hm
    go_enter Tryz.func7, Tryz.ntmps7
    go_wp2_with fail
    refine A.out.mono ?_
    rintro e w1 ⟨rfl, o1⟩
    have C := hideIt (B.out w1 o1)
    have O1 := hideIt o1
    clear A o1 B
    go_wp2_with fail
    refine C.out.mono ?_
    rintro e w2 ⟨x, vp, ve, vr, rfl, mn, o2⟩
    have hx := mn.mf.form
    obtain ⟨ap, pc, ep⟩ := mn.mf.prev.len
    obtain ⟨ae, ec, ee⟩ := mn.mf.es.len
    obtain ⟨ar, rc, er⟩ := mn.mf.root.len
    subst ep ee er hx
    have oa : Only (fun _ => False) w2 (w2.alloc (.cells #[.int .u64 m.ver, .slice ap m.prev.length pc, .slice ae m.es.length ec, .slice ar m.root.length rc] 26)) := (Only.refl _ _).alloc _
    have K := heap_alloc_new w2 (.cells #[.int .u64 m.ver, .slice ap m.prev.length pc, .slice ae m.es.length ec, .slice ar m.root.length rc] 26)
    obtain ⟨k0, k1, k2, k3⟩ := (cells4 K).1
    have hle := HG.out.2.2.2.1
    have D := hideIt (encode_any _ _ _ _ m _ (mn.mf.past oa) HG.out.ok mn.np mn.nr (by omega))
    have er0 := (MEr_ok HG.out.ok).2 HG.out
    rw [er0, show MEt m = ys by unfold MEt; rw [if_pos er0]; exact HE.out] at D
    have O2 := hideIt (O1.out.same (o2.same oa))
    clear C mn o2 oa K hle er0
    go_wp2_with fail
    refine D.out.mono ?_
    rintro e w3 ⟨u, rfl, own3, o3⟩
    have S := hideIt (same_any u _ ys ys w3 (Bs.of_own own3) (HB.out.past (O2.out.same o3)) (by rw [← HN.out]; omega))
    rw [decide_eq_true rfl] at S
    have O3 := hideIt (O2.out.same o3)
    clear D own3 o3 k0 k1 k2 k3
    go_wp2_with (first
      | (go_at_call 13; refine S.out.mono ?_; rintro e w4 ⟨rfl, o4⟩)
      | fail)
    go_ret
    exact ⟨rfl, O3.out.same o4⟩
  · rw [hz, he] at B
    have hc0 : c ≠ 0 := by
      intro e
      exact MDEC_nz h8 (by rw [hc, e])
    have hcb : (c != 0) = true := by simpa using hc0
    clear h hn he hz hc hc0 HB
    go_enter Tryz.func7, Tryz.ntmps7
    go_wp2_with fail
    refine A.out.mono ?_
    rintro e w1 ⟨rfl, o1⟩
    have C := hideIt (B.out w1 o1)
    have O1 := hideIt o1
    clear A o1 B
    go_wp2_with fail
    refine C.out.mono ?_
    rintro e w2 ⟨x, vp, ve, vr, rfl, mn, o2⟩
    have hx := mn.mf.form
    obtain ⟨ap, pc, ep⟩ := mn.mf.prev.len
    obtain ⟨ae, ec, ee⟩ := mn.mf.es.len
    obtain ⟨ar, rc, er⟩ := mn.mf.root.len
    simp only [List.length_nil] at ep ee er
    subst ep ee er hx
    have O2 := hideIt (O1.out.same o2)
    clear C mn o2
    go_wp2
    go_ret
    exact ⟨rfl, O2.out.alloc _⟩
end Go.Proofs.YtbjmhhjdfmfkaaaGreat
