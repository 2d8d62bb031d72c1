/- Package manifest: Sign and Check. -/
import Derived.Test.YtbjmhhjdfmfkaabGreatJe
import Derived.Test.YtbjmhhjdfmfkaabGreatMi
import Derived.Test.YtbjmhhjdfmfkaabGreatG7
import Derived.Test.YtbjmhhjdfmfkaabGreatG6
import Derived.BigQuiet
namespace Go.Proofs.YtbjmhhjdfmfkaabGreat
open Go.RowKit

/-- the key of manifests -/
def MKY (k : List Int) : List Int := KDt k 4 []
theorem MKY_len {k : List Int} (h : k.length = 32) : (MKY k).length = 32 := by unfold MKY KDt; rw [if_pos h, if_pos (by simp), KDV_len]
theorem MKY_u8 (k : List Int) : U8 (MKY k) := by
  unfold MKY KDt
  by_cases h : k.length = 32
  · rw [if_pos h, if_pos (by simp)]; exact KDV_u8 _ _ _
  · rw [if_neg h]; intro y hy; cases hy
theorem KDe_ok {k : List Int} (h : k.length = 32) : KDe k [] = 0 := by unfold KDe; rw [if_pos h]; rfl
theorem KDe_no {k : List Int} (h : k.length ≠ 32) : KDe k [] = 1 := by unfold KDe; rw [if_neg h]
def MSe (k : List Int) (m : MAN) : Int := if k.length = 32 then MEr m else 1
def MSt (k : List Int) (m : MAN) : List Int := if MSe k m = 0 then MENC m ++ MACL (MKY k) (MENC m) else []
/-- what signed bytes are -/
def MCe (k b : List Int) : Int := if k.length = 32 then (if b.length < 32 then 2 else if MACL (MKY k) (b.take (b.length - 32)) = b.drop (b.length - 32) then MDe (b.take (b.length - 32)) else 5) else 1
def MCv (k b : List Int) : MAN := if k.length = 32 then (if b.length < 32 then ⟨0, [], [], []⟩ else if MACL (MKY k) (b.take (b.length - 32)) = b.drop (b.length - 32) then MDv (b.take (b.length - 32)) else ⟨0, [], [], []⟩) else ⟨0, [], [], []⟩
theorem MENC_le {m : MAN} (h : MGD m) : (MENC m).length ≤ 1000000000 := by
  obtain ⟨g1, g2, g3, g4, g5⟩ := h
  have hTl : (MTN m).length ≤ 1048576 := Nat.le_trans (MTN_len m) g4
  have q1 := TBS_le (MTN m) _ (Nat.le_refl _) hTl (fun x hx => by
    obtain ⟨e, he', rfl⟩ := List.mem_map.1 ((mem_TEN _ _).1 hx)
    exact (g5 e he').1.1)
  have q2 := EBS_le (MTN m) m.es _ (Nat.le_refl _) g4 (fun e he' => MTN_mem he') hTl
  rw [TBS_all] at q1
  rw [EBS_all] at q2
  unfold MENC
  simp only [List.length_append, fixL_len, g2.1, g3.1, MHD, List.length_cons, List.length_nil] at q1 q2 ⊢
  omega
set_option maxHeartbeats 1600000 in
set_option maxRecDepth 100000 in
theorem sign_any (vk x vp ve vr : Value) (k : List Int) (m : MAN) (w : World) (hb : Bs .u8 w vk k) (hk8 : U8 k) (h : Mf w x m vp ve vr) (hk : Mok m) (np : NoCap vp) (nr : NoCap vr) (hm63 : m.es.length ≤ 9223372036854775806) :
    Calls Tryz.prog 9 #[vk, x] w fun e w' => ∃ u, e = .returned (.tuple #[u, .int .i64 (MSe k m)]) ∧ w'.ownsRow w.heap.size 5 1 u (MSt k m).length ((MSt k m).map (Value.int .u8)) ∧ Only (fun _ => False) w w' := by
  have hf := h.form
  obtain ⟨ap, pc, ep⟩ := h.prev.len
  obtain ⟨ae, ec, ee⟩ := h.es.len
  obtain ⟨ar, rc, er⟩ := h.root.len
  obtain ⟨ak, kc, ek⟩ := hb.len
  subst ep ee er hf ek
  have oa : Only (fun _ => False) w (w.alloc (.cells #[.int .u64 m.ver, .slice ap m.prev.length pc, .slice ae m.es.length ec, .slice ar m.root.length rc] 26)) := (Only.refl _ _).alloc _
  have G0 := hideIt (heap_alloc_new w (.cells #[.int .u64 m.ver, .slice ap m.prev.length pc, .slice ae m.es.length ec, .slice ar m.root.length rc] 26))
  have A := hideIt (kmanifest_any _ k hk8 _ (hb.past oa))
  have OA := hideIt oa
  by_cases h32 : k.length = 32
  · rw [KDe_ok h32] at A
    have e1 : MSe k m = MEr m := by unfold MSe; rw [if_pos h32]
    have HKL := hideIt (MKY_len h32)
    have HK8 := hideIt (MKY_u8 k)
    by_cases he : MEr m = 0
    · have EN : Hid (∀ W, Only (fun _ => False) w W → Calls Tryz.prog 6 #[.agg #[.int .u64 m.ver, .slice ap m.prev.length pc, .slice ae m.es.length ec, .slice ar m.root.length rc]] W fun e w' => ∃ u, e = .returned (.tuple #[u, .int .i64 0]) ∧ w'.ownsRow W.heap.size 5 1 u (MENC m).length ((MENC m).map (Value.int .u8)) ∧ Only (fun _ => False) W w') := by
        intro W o
        have := encode_any _ _ _ _ m W (h.past o) hk np nr hm63
        rw [he, show MEt m = MENC m by unfold MEt; rw [if_pos he]] at this
        exact this
      have hG := (MEr_ok hk).1 he
      have hle := MENC_le hG
      have h8 := MENC_u8 hG
      have e2 : MSt k m = MENC m ++ MACL (MKY k) (MENC m) := by unfold MSt; rw [e1, if_pos he]
      rw [e1, he, e2]
      obtain ⟨E, hE⟩ : ∃ E, E = MENC m := ⟨_, rfl⟩
      rw [← hE] at EN hle h8
      rw [← hE]
      clear h hb hk np nr hm63 oa e1 e2 h32 he hG hE
      go_enter Tryz.func9, Tryz.ntmps9
      go_wp2_with fail
      refine A.out.mono ?_
      rintro e w1 ⟨v1, rfl, own1, o1⟩
      have G1 := o1.heap G0.out (fun f => f)
      have hld := load_man G1
      obtain ⟨⟨c0, c1, c2, c3⟩, _⟩ := cells4 G1
      have B := hideIt (EN.out w1 (OA.out.same o1))
      have O1 := hideIt (OA.out.same o1)
      have BK := hideIt (show Bs .u8 w1 v1 (MKY k) from Bs.of_own own1)
      clear A own1 o1 EN G0 OA G1
      go_wp2_with fail
      refine B.out.mono ?_
      rintro e w2 ⟨u, rfl, own2, o2⟩
      have O2 := hideIt (O1.out.same o2)
      have D := hideIt (mac_bs v1 u (MKY k) E w2 (BK.out.past o2) HK8.out (by rw [HKL.out]; decide) (Bs.of_own own2) h8 (by omega))
      obtain ⟨au, cu, eu⟩ := (Bs.of_own own2).len
      have OW2 := hideIt own2
      clear B o2 O1 own2 BK c0 c1 c2 c3 hld
      subst eu
      go_wp2_with fail
      refine D.out.mono ?_
      rintro e w3 ⟨r, rfl, own3, o3⟩
      obtain ⟨br, gr, cr, er, _⟩ := mac_form own3
      subst er
      have oz : Only (fun _ => False) w3 (w3.alloc (.cells #[.slice au E.length cu, .slice (some ⟨gr, 0, none⟩) 32 cr] 23)) := (Only.refl _ _).alloc _
      have hml := MACL_len (MKY k) E
      have C := hideIt (concat_two w3.heap.size (.slice au E.length cu) (.slice (some ⟨gr, 0, none⟩) 32 cr) E (MACL (MKY k) E) _ (by go_cell) (by go_cell) ((Bs.of_own (k := .u8) OW2.out).past (o3.same oz)) (br.past oz) (NoCap.of_own OW2.out) (NoCap.some _ _ _) (by omega) (by omega))
      have O3 := hideIt (O2.out.same (o3.same oz))
      clear D own3 o3 oz br hml OW2
      go_wp2_with fail
      refine C.out.mono ?_
      rintro e w4 ⟨v4, rfl, own4, o4⟩
      have F := hideIt (And.intro (own_low own4 O3.out.size) (O3.out.same o4))
      clear C own4 o4
      go_wp2
      go_ret2
      exact ⟨_, rfl, F.out⟩
    · have EN : Hid (∀ W, Only (fun _ => False) w W → Calls Tryz.prog 6 #[.agg #[.int .u64 m.ver, .slice ap m.prev.length pc, .slice ae m.es.length ec, .slice ar m.root.length rc]] W fun e w' => ∃ u, e = .returned (.tuple #[u, .int .i64 (MEr m)]) ∧ w'.ownsRow W.heap.size 5 1 u (MEt m).length ((MEt m).map (Value.int .u8)) ∧ Only (fun _ => False) W w') :=
        fun W o => encode_any _ _ _ _ m W (h.past o) hk np nr hm63
      have e2 : MSt k m = [] := by unfold MSt; rw [e1, if_neg he]
      rw [e1, e2]
      obtain ⟨c, hc⟩ : ∃ c, c = MEr m := ⟨_, rfl⟩
      rw [← hc] at EN he
      rw [← hc]
      have hne : (c != 0) = true := by simpa using he
      clear h hb hk np nr hm63 oa e1 e2 h32 hc
      go_enter Tryz.func9, Tryz.ntmps9
      go_wp2_with fail
      refine A.out.mono ?_
      rintro e w1 ⟨v1, rfl, own1, o1⟩
      have G1 := o1.heap G0.out (fun f => f)
      have hld := load_man G1
      obtain ⟨⟨c0, c1, c2, c3⟩, _⟩ := cells4 G1
      have B := hideIt (EN.out w1 (OA.out.same o1))
      have O1 := hideIt (OA.out.same o1)
      clear A own1 o1 EN G0 OA G1
      go_wp2_with fail
      refine B.out.mono ?_
      rintro e w2 ⟨u, rfl, own2, o2⟩
      have O2 := hideIt (O1.out.same o2)
      clear B own2 o2
      go_wp2
      go_ret2
      exact ⟨_, rfl, World.ownsRow_nil _ _ _ _, O2.out⟩
  · rw [KDe_no h32] at A
    have e1 : MSe k m = 1 := by unfold MSe; rw [if_neg h32]
    have e2 : MSt k m = [] := by unfold MSt; rw [e1]; rfl
    rw [e1, e2]
    clear h hb hk np nr hm63 oa e1 e2
    go_enter Tryz.func9, Tryz.ntmps9
    go_wp2_with fail
    refine A.out.mono ?_
    rintro e w1 ⟨v1, rfl, own1, o1⟩
    have O1 := hideIt (OA.out.same o1)
    clear A own1 o1
    go_wp2
    go_ret2
    exact ⟨_, rfl, World.ownsRow_nil _ _ _ _, O1.out⟩
/-- the zero manifest handed back -/
theorem zero_back {W w : World} {B : Nat} (hB : w.heap.size ≤ B) (o : Only (fun _ => False) w W) (g : W.heap[B]? = some (.cells #[.int .u64 0, .slice none 0 0, .slice none 0 0, .slice none 0 0] 26 (0, 0))) :
    (loadVar 26 ⟨B, 0, none⟩).run Tryz.prog ((((W.setCell ⟨B, 0, none⟩ (.int .u64 0)).setCell ⟨B, 1, none⟩ (.slice none 0 0)).setCell ⟨B, 2, none⟩ (.slice none 0 0)).setCell ⟨B, 3, none⟩ (.slice none 0 0)) = .ok mfNone ((((W.setCell ⟨B, 0, none⟩ (.int .u64 0)).setCell ⟨B, 1, none⟩ (.slice none 0 0)).setCell ⟨B, 2, none⟩ (.slice none 0 0)).setCell ⟨B, 3, none⟩ (.slice none 0 0)) ∧
    Only (fun _ => False) w ((((W.setCell ⟨B, 0, none⟩ (.int .u64 0)).setCell ⟨B, 1, none⟩ (.slice none 0 0)).setCell ⟨B, 2, none⟩ (.slice none 0 0)).setCell ⟨B, 3, none⟩ (.slice none 0 0)) := by
  obtain ⟨g', og⟩ := put4 g (.int .u64 0) (.slice none 0 0) (.slice none 0 0) (.slice none 0 0)
  exact ⟨load_man g', o.trans og (fun i hi e => by omega)⟩
end Go.Proofs.YtbjmhhjdfmfkaabGreat
