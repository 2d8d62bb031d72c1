/- The document's manifest: Encode, whole. -/
import Derived.Test.YtiolgenaefillaaGreatRt21
namespace Go.Proofs.YtiolgenaefillaaGreat
open Go.RowKit

set_option maxHeartbeats 2000000 in
set_option maxRecDepth 100000 in
theorem rencode21_bad (x vp ve vr : Value) (m : MAN) (w : World) (h : Mf w x m vp ve vr) (hk : Mok m) (hl : m.es.length ≤ 100) (her : MEr m ≠ 0) :
    Calls Tryz.prog 9 #[x] w fun e w' => ∃ u, e = .returned (.tuple #[u, .int .i64 (MEr m)]) ∧ w'.ownsRow w.heap.size 5 1 u (MEt m).length ((MEt m).map (Value.int .u8)) ∧ Only (fun _ => False) w w' := by
  have hf := h.form
  obtain ⟨ap, pc, ep⟩ := h.prev.len
  obtain ⟨ae, ec, ee⟩ := h.es.len
  obtain ⟨ar, rc, er⟩ := h.root.len
  subst ep ee er hf
  have oa : Only (fun _ => False) w (w.alloc (.cells #[.int .u64 m.ver, .slice ap m.prev.length pc, .slice ae m.es.length ec, .slice ar m.root.length rc] 26)) := (Only.refl _ _).alloc _
  have A := hideIt (wrong_any _ _ _ _ m _ (h.past oa) hk hl)
  have e0 : MEt m = [] := by unfold MEt; rw [if_neg her]
  have d1 : (MEr m != 0) = true := by simpa using her
  rw [e0]
  generalize MEr m = E at *
  have OA := hideIt oa
  clear h hk her e0 oa
  go_enter Tryz.func9, Tryz.ntmps9
  go_wp2_with fail
  refine A.out.mono ?_
  rintro e w1 ⟨rfl, o1⟩
  have O1 := hideIt (OA.out.same o1)
  clear A o1 OA
  go_wp2
  go_ret2
  exact ⟨_, rfl, World.ownsRow_nil .., O1.out⟩
/-- the document's Encode of any manifest of few entries -/
theorem rencode21_any (x vp ve vr : Value) (m : MAN) (w : World) (h : Mf w x m vp ve vr) (hk : Mok m) (np : NoCap vp) (nr : NoCap vr) (hl : m.es.length ≤ 100) :
    Calls Tryz.prog 9 #[x] w fun e w' => ∃ u, e = .returned (.tuple #[u, .int .i64 (MEr m)]) ∧ w'.ownsRow w.heap.size 5 1 u (MEt m).length ((MEt m).map (Value.int .u8)) ∧ Only (fun _ => False) w w' := by
  by_cases e1 : MEr m = 0
  · have e2 : MEt m = MENC m := by unfold MEt; rw [if_pos e1]
    rw [e1, e2]
    exact rencode21_ok x vp ve vr m w h hk np nr hl e1 (fun W o => rtenants_any ve m.es W (h.es.past o) hk.es hl)
  · exact rencode21_bad x vp ve vr m w h hk hl e1
end Go.Proofs.YtiolgenaefillaaGreat
