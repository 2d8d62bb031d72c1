/- ManifestDecodes: the walk. -/
import Derived.Test.YtiolgenaefillaaGreatRw21
import Derived.Test.YtiolgenaefillaaGreatAw21
import Derived.Test.YtiolgenaefillaaGreatMw
namespace Go.Proofs.YtiolgenaefillaaGreat
open Go.RowKit

theorem MDv_small (ys : List Int) (h8 : U8 ys) : (MDv ys).es.length ≤ 1048576 ∧ (MDv ys).prev.length ≤ 32 ∧ (MDv ys).root.length ≤ 32 := by
  rcases MD_cases ys h8 with ⟨_, g, _⟩ | ⟨e, _⟩
  · exact ⟨g.2.2.2.1, Nat.le_of_eq g.2.1.1, Nat.le_of_eq g.2.2.1.1⟩
  · rw [e]; exact ⟨Nat.zero_le _, Nat.zero_le _, Nat.zero_le _⟩
set_option maxHeartbeats 2000000 in
set_option maxRecDepth 100000 in
theorem decodes_walk (v : Value) (ys : List Int) (w : World) (h : Bs .u8 w v ys) (nc : NoCap v) (h8 : U8 ys) :
    Calls Tryz.prog 4 #[v] w fun e w' => e = .returned (.bool true) ∧ Only (fun _ => False) w w' := by
  obtain ⟨ao, n, cap, hv, hn⟩ : ∃ ao n cap, v = .slice ao n cap ∧ n = ys.length := by
    obtain ⟨ao, cap, e⟩ := h.len
    exact ⟨ao, ys.length, cap, e, rfl⟩
  subst hv
  have A := hideIt (awake_any w)
  by_cases hl : 1000 < n
  · have d1 : decide ((1000 : Int) < (n : Int)) = true := by simp; omega
    have d2 : decide (1000 < n) = true := by simp; omega
    clear h hn nc
    go_enter Tryz.func4, Tryz.ntmps4
    go_wp2_with fail
    refine A.out.mono ?_
    rintro e w1 ⟨rfl, o1⟩
    have O1 := hideIt o1
    clear A o1
    go_wp2
    go_ret
    exact ⟨rfl, O1.out⟩
  have d1 : decide ((1000 : Int) < (n : Int)) = false := by simp; omega
  have d2 : decide (1000 < n) = false := by simp; omega
  have B := hideIt (fun W (o : Only (fun _ => False) w W) => decode_any _ ys W (h.past o) h8 (by omega))
  have C := hideIt (fun W (o : Only (fun _ => False) w W) => rdecode21_any _ ys W (h.past o) nc h8 (by omega))
  obtain ⟨q1, q2, q3⟩ := MDv_small ys h8
  obtain ⟨m, hm⟩ : ∃ m, m = MDv ys := ⟨_, rfl⟩
  obtain ⟨c, hc⟩ : ∃ c, c = MDe ys := ⟨_, rfl⟩
  rw [← hm, ← hc] at B C
  rw [← hm] at q1 q2 q3
  have QQ := hideIt (And.intro q1 (And.intro q2 q3))
  have dcc : (c == c) = true := by simp
  clear h hn hm hc nc q1 q2 q3
  go_enter Tryz.func4, Tryz.ntmps4
  go_wp2_with fail
  refine A.out.mono ?_
  rintro e w1 ⟨rfl, o1⟩
  have B1 := hideIt (B.out w1 o1)
  have O1 := hideIt o1
  clear A o1 B
  go_wp2_with fail
  refine B1.out.mono ?_
  rintro e w2 ⟨x, vp, ve, vr, rfl, mn, o2⟩
  have hx := mn.mf.form
  obtain ⟨ap, pc, ep⟩ := mn.mf.prev.len
  obtain ⟨ae, ec, ee⟩ := mn.mf.es.len
  obtain ⟨ar, rc, er⟩ := mn.mf.root.len
  subst ep ee er hx
  have oa : Only (fun _ => False) w2 (w2.alloc (.cells #[.int .u64 m.ver, .slice ap m.prev.length pc, .slice ae m.es.length ec, .slice ar m.root.length rc] 26)) := (Only.refl _ _).alloc _
  have K2 := hideIt (heap_alloc_new w2 (.cells #[.int .u64 m.ver, .slice ap m.prev.length pc, .slice ae m.es.length ec, .slice ar m.root.length rc] 26))
  have M2 := hideIt (mn.mf.past oa)
  have O2 := hideIt (O1.out.same (o2.same oa))
  have C2 := hideIt (C.out _ O2.out)
  have G2 : Hid (∃ g2, g2 = w2.heap.size) := ⟨_, rfl⟩
  clear B1 mn o2 oa C O1
  go_wp2_with fail
  refine C2.out.mono ?_
  rintro e w3 ⟨x', vp', ve', vr', rfl, mf', o3⟩
  have hx' := mf'.form
  obtain ⟨ap', pc', ep'⟩ := mf'.prev.len
  obtain ⟨ae', ec', ee'⟩ := mf'.es.len
  obtain ⟨ar', rc', er'⟩ := mf'.root.len
  subst ep' ee' er' hx'
  have oa' : Only (fun _ => False) w3 (w3.alloc (.cells #[.int .u64 m.ver, .slice ap' m.prev.length pc', .slice ae' m.es.length ec', .slice ar' m.root.length rc'] 26)) := (Only.refl _ _).alloc _
  have K3 := heap_alloc_new w3 (.cells #[.int .u64 m.ver, .slice ap' m.prev.length pc', .slice ae' m.es.length ec', .slice ar' m.root.length rc'] 26)
  obtain ⟨k0, k1, k2, k3⟩ := (cells4 ((o3.same oa').heap K2.out (fun f => f))).1
  obtain ⟨l0, l1, l2, l3⟩ := (cells4 K3).1
  have S := hideIt (lsame21_eq _ _ _ _ _ _ _ _ m _ (M2.out.past (o3.same oa')) (mf'.past oa') (by have := QQ.out.1; omega) (by have := QQ.out.2.1; omega) (by have := QQ.out.2.2; omega))
  have O3 := hideIt (O2.out.same (o3.same oa'))
  clear C2 mf' o3 oa' K3 M2 K2 O2 G2
  go_wp2_with (first
    | (go_at_call 13; refine S.out.mono ?_; rintro e w4 ⟨rfl, o4⟩)
    | fail)
  go_ret
  exact ⟨rfl, O3.out.same o4⟩
end Go.Proofs.YtiolgenaefillaaGreat
