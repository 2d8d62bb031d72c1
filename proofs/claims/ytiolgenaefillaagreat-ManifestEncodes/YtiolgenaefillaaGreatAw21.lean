/- The document's example, awake. -/
import Derived.Test.YtiolgenaefillaaGreatJf
import Derived.Test.YtiolgenaefillaaGreatSa
import Derived.Deep.Cut
import Derived.Deep.RegionHeld3
namespace Go.Proofs.YtiolgenaefillaaGreat
open Go.RowKit

def Z32 : List Int := List.replicate 32 0
/-- the example -/
def M0 : MAN := ⟨1, Z32, [], Z32⟩
theorem M0_ok : Mok M0 := ⟨by decide, by unfold U8; decide, by unfold U8; decide, by intro e he; cases he⟩
theorem M0_good : MGD M0 := ⟨by decide, ⟨by decide, by unfold U8; decide⟩, ⟨by decide, by unfold U8; decide⟩, by decide, by intro e he; cases he⟩
theorem M0_enc : MENC M0 = [67, 83, 75, 49, 0, 0, 0, 0, 0, 0, 0, 1] ++ (Z32 ++ ([0] ++ ([0] ++ Z32))) := by
  unfold MENC
  have h1 : MTN M0 = [] := rfl
  have h2 : gs 0 = [0] := by rw [gs_small (by decide)]; rfl
  have h3 : fixL ((M0.ver : Nat) : Int) 8 = [0, 0, 0, 0, 0, 0, 0, 1] := by decide
  have h4 : M0.es = [] := rfl
  have h5 : M0.prev = Z32 := rfl
  have h6 : M0.root = Z32 := rfl
  rw [h1, h3, h4, h5, h6]
  simp only [List.length_nil, h2, List.map_nil, List.flatten_nil, List.append_nil, MHD]
  rfl
theorem M0_len : (MENC M0).length = 78 := by rw [M0_enc]; rfl
theorem M0_at : (MENC M0).getD 0 0 = 67 ∧ (MENC M0).getD 11 0 = 1 := by rw [M0_enc]; exact ⟨rfl, rfl⟩
theorem M0_er : MEr M0 = 0 := (MEr_ok M0_ok).2 M0_good
theorem M0_et : MEt M0 = MENC M0 := by unfold MEt; rw [if_pos M0_er]
theorem M0_dec : MDv (MENC M0) = M0 ∧ MDe (MENC M0) = 0 := MD_ok (MDEC_back M0_good)
theorem Z32_len : Z32.length = 32 := rfl
theorem M0_sg : MSe Z32 M0 = 0 ∧ (MSt Z32 M0).length = 110 := by
  have e : MSe Z32 M0 = 0 := by unfold MSe; rw [if_pos Z32_len, M0_er]
  refine ⟨e, ?_⟩
  unfold MSt
  rw [if_pos e, List.length_append, M0_len, MACL_len]
theorem Z32_u8 : U8 Z32 := M0_ok.prev
/-- the example in memory -/
structure EX (w W : World) (p : Value) (N : Nat) (vp vr : Value) : Prop where
  ptr : p = .pointer (some ⟨N, 0, none⟩)
  cell : W.heap[N]? = some (.cells #[.int .u64 1, vp, .slice none 0 0, vr] 26 (0, 0))
  prev : Bs .u8 W vp Z32
  root : Bs .u8 W vr Z32
  np : NoCap vp
  nr : NoCap vr
  on : Only (fun _ => False) w W
theorem EX.mf {w W : World} {p : Value} {N : Nat} {vp vr : Value} (h : EX w W p N vp vr) : Mf W (.agg #[.int .u64 1, vp, .slice none 0 0, vr]) M0 vp (.slice none 0 0) vr := ⟨rfl, h.prev, Ens.nil _, h.root⟩
theorem EX.past {w W W' : World} {p : Value} {N : Nat} {vp vr : Value} (h : EX w W p N vp vr) (o : Only (fun _ => False) W W') : EX w W' p N vp vr := ⟨h.ptr, o.heap h.cell (fun f => f), h.prev.past o, h.root.past o, h.np, h.nr, h.on.same o⟩
set_option maxHeartbeats 4000000 in
set_option maxRecDepth 100000 in
theorem Z_bs {W : World} {N : Nat} {ZC : Array Value} (hz : ZC = (Z32.map (Value.int .u8)).toArray) (h : W.heap[N]? = some (.cells ZC 5 (0, 0))) : Bs .u8 W (.slice (some ⟨N, 0, none⟩) 32 32) Z32 := by
  refine ⟨some _, 32, rfl, Nat.le_refl _, fun _ => ⟨N, 0, rfl, fun j hj => ?_⟩⟩
  have hj' : j < 32 := hj
  have hx : (Z32.map (Value.int .u8))[j]? = some (.int .u8 (Z32.getD j 0)) := by rw [List.getElem?_map, List.getElem?_eq_getElem (by exact hj), List.getD_eq_getElem?_getD, List.getElem?_eq_getElem (by exact hj)]; rfl
  simp only [World.cell?, h, hz, Nat.zero_add]
  rw [← hx]
  simp
theorem mkZ32 (W : World) : (Instr.makeSlice 23 (.int .i64 32) (.int .i64 32)).run Tryz.prog W = .ok (.slice (some ⟨W.heap.size, 0, none⟩) 32 32) (W.alloc (.cells (Z32.map (Value.int .u8)).toArray 5)) := by kernel_rfl
set_option maxHeartbeats 4000000 in
set_option maxRecDepth 100000 in
theorem awake_any (w : World) : Calls Tryz.prog 6 #[] w fun e w' => e = .returned (.bool true) ∧ Only (fun _ => False) w w' := by
  have hmk := mkZ32
  obtain ⟨ZC, hZC⟩ : ∃ ZC, ZC = (Z32.map (Value.int .u8)).toArray := ⟨_, rfl⟩
  rw [← hZC] at hmk
  have HZC := hideIt hZC
  clear hZC
  go_enter Tryz.func6, Tryz.ntmps6
  go_upto_region 1 with fail
  go_cut [1] from 2 (fun p W => ∃ N vp vr, EX w W p N vp vr)
  case first =>
    go_region
    all_goals
      go_wp2_with fail
      go_meet
      refine ⟨_, _, _, ⟨rfl, by (repeat (first | (with_reducible refine heap_at_new ?_; simp; done) | (with_reducible refine heap_drew_at ?_) | (with_reducible refine heap_alloc_old ?_))), Z_bs HZC.out (by (repeat (first | (with_reducible refine heap_at_new ?_; simp; done) | (with_reducible refine heap_drew_at ?_) | (with_reducible refine heap_alloc_old ?_)))), Z_bs HZC.out (by (repeat (first | (with_reducible refine heap_at_new ?_; simp; done) | (with_reducible refine heap_drew_at ?_) | (with_reducible refine heap_alloc_old ?_)))), NoCap.some _ _ _, NoCap.some _ _ _, ((((Only.refl _ _).alloc _).alloc _).alloc _).drew⟩⟩
  case rest =>
    obtain ⟨N, vp, vr, hx⟩ := hcut
    have hp := hx.ptr
    subst hp
    obtain ⟨ap, pc, ep⟩ := hx.prev.len
    obtain ⟨ar, rc, er⟩ := hx.root.len
    rw [Z32_len] at ep er
    subst ep er
    obtain ⟨k0, k1, k2, k3⟩ := (cells4 hx.cell).1
    have A := hideIt (encode_any _ _ _ _ M0 wc hx.mf M0_ok hx.np hx.nr (by decide))
    have hE := M0_len
    have hE0 := M0_at
    have DD := hideIt M0_dec
    have EG := hideIt M0_good
    rw [M0_er, M0_et] at A
    obtain ⟨E, hEE⟩ : ∃ E, E = MENC M0 := ⟨_, rfl⟩
    rw [← hEE] at A hE hE0 DD
    have E8 : U8 E := by rw [hEE]; exact MENC_u8 M0_good
    have HX := hideIt hx
    clear hx hEE
    go_wp2_with fail
    refine A.out.mono ?_
    rintro e w1 ⟨vb, rfl, own1, o1⟩
    have B := hideIt (decode_any vb E w1 (Bs.of_own own1) E8 (by omega))
    rw [DD.out.1, DD.out.2] at B
    have HB := hideIt (Bs.of_own (k := .u8) own1)
    have X1 := hideIt (HX.out.past o1)
    clear A own1 o1 HX k0 k1 k2 k3
    go_wp2_with fail
    refine B.out.mono ?_
    rintro e w2 ⟨xd, dp, de, dr, rfl, mn, o2⟩
    have hxd := mn.mf.form
    obtain ⟨bp, qp, ebp⟩ := mn.mf.prev.len
    obtain ⟨be, qe, ebe⟩ := mn.mf.es.len
    obtain ⟨br, qr, ebr⟩ := mn.mf.root.len
    subst ebp ebe ebr hxd
    have X2 := X1.out.past o2
    have oa : Only (fun _ => False) w2 (w2.alloc (.cells #[.int .u64 M0.ver, .slice bp M0.prev.length qp, .slice be M0.es.length qe, .slice br M0.root.length qr] 26)) := (Only.refl _ _).alloc _
    have X3 := hideIt (X2.past oa)
    have K3 := hideIt (heap_alloc_new w2 (.cells #[.int .u64 M0.ver, .slice bp M0.prev.length qp, .slice be M0.es.length qe, .slice br M0.root.length qr] 26))
    have M3 := hideIt (mn.mf.past oa)
    have HB3 := hideIt (HB.out.past (o2.same oa))
    clear B mn o2 X1 X2 oa HB
    obtain ⟨k0, k1, k2, k3⟩ := (cells4 X3.out.cell).1
    have SG := hideIt (fun (W : World) (v : Value) (o : Only (fun _ => False) (w2.alloc (.cells #[.int .u64 M0.ver, .slice bp M0.prev.length qp, .slice be M0.es.length qe, .slice br M0.root.length qr] 26)) W) (hv : Bs .u8 W v Z32) => sign_any v _ _ _ _ Z32 M0 W hv Z32_u8 (X3.out.past o).mf M0_ok X3.out.np X3.out.nr (by decide))
    rw [M0_sg.1] at SG
    have HSL := M0_sg.2
    obtain ⟨S, hS⟩ : ∃ S, S = MSt Z32 M0 := ⟨_, rfl⟩
    rw [← hS] at SG HSL
    obtain ⟨W4, hW4⟩ : ∃ W4, W4 = w2.alloc (.cells #[.int .u64 M0.ver, .slice bp M0.prev.length qp, .slice be M0.es.length qe, .slice br M0.root.length qr] 26) := ⟨_, rfl⟩
    rw [← hW4] at SG k0 k1 k2 k3 X3 M3 HB3 K3
    have HW4 := hideIt hW4
    clear hS hW4
    go_upto_region 4 with fail
    rw [← HW4.out]
    go_cut [6, 7] from 8 (fun s g W => ∃ a c, s = .slice a 110 c ∧ g = .int .i64 0 ∧ Only (fun _ => False) W4 W)
    case first =>
      have hS4 : Only (fun _ => False) W4 W4 ∧ W4.cell? ⟨N, 0, none⟩ = some (.int .u64 1) ∧ W4.cell? ⟨N, 1, none⟩ = some (.slice ap 32 pc) ∧ W4.cell? ⟨N, 2, none⟩ = some (.slice none 0 0) ∧ W4.cell? ⟨N, 3, none⟩ = some (.slice ar 32 rc) := ⟨Only.refl _ _, k0, k1, k2, k3⟩
      clear k0 k1 k2 k3
      go_region_held3 (fun W => Only (fun _ => False) W4 W ∧ W.cell? ⟨N, 0, none⟩ = some (.int .u64 1) ∧ W.cell? ⟨N, 1, none⟩ = some (.slice ap 32 pc) ∧ W.cell? ⟨N, 2, none⟩ = some (.slice none 0 0) ∧ W.cell? ⟨N, 3, none⟩ = some (.slice ar 32 rc)) ((refine keep4 hS4 ?_; (repeat (first | with_reducible exact Only.refl _ _ | assumption | (with_reducible refine Only.drew ?_) | (with_reducible refine Only.alloc ?_ _) | (with_reducible apply Only.same; case k => assumption)))))
        (first
          | (go_at_call 14; refine Calls.mono (SG.out _ _ (by (repeat (first | with_reducible exact Only.refl _ _ | assumption | (with_reducible refine Only.drew ?_) | (with_reducible refine Only.alloc ?_ _) | (with_reducible apply Only.same; case k => assumption)))) (Z_bs HZC.out (by (repeat (first | (with_reducible refine heap_at_new ?_; simp; done) | (with_reducible refine heap_drew_at ?_) | (with_reducible refine heap_alloc_old ?_)))))) ?_; rintro e w5 ⟨vs, rfl, own5, o5⟩)
          | fail)
      all_goals
        obtain ⟨az, cz, ez⟩ := (Bs.of_own (k := .u8) own5).len
        rw [HSL] at ez
        subst ez
        have OF : Hid (Only (fun _ => False) W4 w5) := Only.same (by (repeat (first | with_reducible exact Only.refl _ _ | (with_reducible refine Only.drew ?_) | (with_reducible refine Only.alloc ?_ _)))) o5
        clear own5 o5 SG
        go_wp2_with fail
        go_meet
        exact ⟨_, _, rfl, rfl, OF.out⟩
    case rest =>
      obtain ⟨az, cz, rfl, rfl, o6⟩ := hcut
      have B6 := HB3.out.past o6
      have X6 := X3.out.past o6
      have K6 := o6.heap K3.out (fun f => f)
      obtain ⟨k0, k1, k2, k3⟩ := (cells4 X6.cell).1
      obtain ⟨m0, m1, m2, m3⟩ := (cells4 K6).1
      obtain ⟨b, off, cap, evb, hc0⟩ := B6.at 0 (by omega)
      obtain ⟨b', off', cap', evb', hc11⟩ := B6.at 11 (by omega)
      rw [hE] at evb evb'
      subst evb
      simp only [Value.slice.injEq, Option.some.injEq, Addr.mk.injEq, and_true, true_and] at evb'
      obtain ⟨⟨rfl, rfl⟩, rfl⟩ := evb'
      rw [hE0.1] at hc0
      rw [hE0.2] at hc11
      rw [Nat.add_zero] at hc0
      have LS := hideIt (lsame21_eq _ _ _ _ _ _ _ _ M0 wc X6.mf (M3.out.past o6) (by decide) (by decide) (by decide))
      have OF := hideIt X6.on
      clear B6 X6 K6 o6 X3 M3 HB3 K3 SG HW4 DD EG
      go_wp2_with (first
        | (go_at_call 13; refine LS.out.mono ?_; rintro e w7 ⟨rfl, o7⟩)
        | fail)
      go_ret
      exact ⟨rfl, OF.out.same o7⟩
end Go.Proofs.YtiolgenaefillaaGreat
