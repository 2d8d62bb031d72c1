/- Several texts in one: Rg9. -/
import Derived.Test.YtifbdjhbeanfaaaDoorG12
import Derived.Test.YtifbdjhbeanfaaaDoorG10

/- The document's answer for patterns: the reader of bits. -/
namespace Go.Proofs.YtifbdjhbeanfaaaDoor
open Go.RowKit

/-- the reference's reader in memory: bits l are left, c is why it can't -/
structure RfAt (w : World) (R : Nat) (v : Value) (l : List Bool) (c : Int) : Prop where
  bs : Bs .i64 w v (bitsI l)
  cell : w.heap[R]? = some (.cells #[v, .int .i64 c] 109 (0, 0))
  ap : v.ownBlock ≠ some R
  len : l.length ≤ 1000000
theorem RfAt.keep {w w' : World} {R : Nat} {v : Value} {l : List Bool} {c : Int} (h : RfAt w R v l c) {S : Nat → Prop} (ho : Only S w w') (hR : ¬ S R) (hv : ∀ k, v.ownBlock = some k → ¬ S k) : RfAt w' R v l c :=
  ⟨h.bs.keep ho hv, ho.heap h.cell hR, h.ap, h.len⟩
theorem RfAt.set0 {w : World} {R : Nat} {v v2 : Value} {l2 : List Bool} {c : Int} (h : w.heap[R]? = some (.cells #[v, .int .i64 c] 109 (0, 0))) (hb : Bs .i64 w v2 (bitsI l2)) (ha : v2.ownBlock ≠ some R) (hl : l2.length ≤ 1000000) :
    RfAt (w.setCell ⟨R, 0, none⟩ v2) R v2 l2 c ∧ Only (fun k => k = R) w (w.setCell ⟨R, 0, none⟩ v2) := by
  have o : Only (fun k => k = R) w (w.setCell ⟨R, 0, none⟩ v2) := (Only.refl (fun k => k = R) w).setCell (p := ⟨R, 0, none⟩) (fun _ => rfl) v2
  exact ⟨⟨hb.keep o (fun k hk e => ha (by rw [hk, e])), (heap_two h v2).1, ha, hl⟩, o⟩
set_option maxHeartbeats 800000 in
theorem rget9_at {w : World} {R : Nat} {v : Value} {l : List Bool} {c : Int} (h : RfAt w R v l c) (n : Nat) (h1 : n ≤ 64) (hs : n ≤ l.length) :
    Calls Tryd.prog 83 #[.pointer (some ⟨R, 0, none⟩), .int .i64 n] w fun e w' => e = .returned (.int .u64 (bnum (l.take n) : Nat)) ∧
      (∃ v', RfAt w' R v' (l.drop n) c ∧ v'.ownBlock = v.ownBlock) ∧ Only (fun k => k = R) w w' := by
  have hl := h.len
  have G0 := rget_bs v l n w h.bs (by omega) (by omega) (by omega) (by omega)
  rw [Int.toNat_natCast] at G0
  have G := hideIt G0
  clear G0
  have H := hideIt h
  obtain ⟨ao, cap, hv⟩ := h.bs.len
  subst hv
  obtain ⟨c0, c1, f0, f1⟩ := two_cells h.cell
  clear h
  rw [bitsI_length] at G H c0 ⊢
  generalize hml : l.length = m at *
  have HML := hideIt hml
  clear hml
  go_enter Tryd.func83, Tryd.ntmps83
  go_wp2_with fail
  refine G.out.mono ?_
  rintro e w1 ⟨v1, rfl, b1, o1, e1⟩
  have g1 := o1.heap H.out.cell (fun f => f)
  obtain ⟨_, _, k0, k1⟩ := two_cells g1
  have ST := hideIt (RfAt.set0 g1 b1 (by rw [e1]; exact H.out.ap) (by have := HML.out; rw [List.length_drop]; omega))
  have O1 := hideIt o1
  have E1 := hideIt e1
  obtain ⟨f1', cp1, ev⟩ := b1.len
  subst ev
  clear G g1 b1 o1 e1 c0 c1 f0 f1
  go_wp2
  go_ret
  exact ⟨rfl, ⟨_, ST.out.1, E1.out⟩, (O1.out.mono (T := fun k => k = R) (fun _ _ f => f.elim)).trans ST.out.2 (fun _ _ e => e)⟩
set_option maxHeartbeats 800000 in
theorem rget9_cut {w : World} {R : Nat} {v : Value} {l : List Bool} (h : RfAt w R v l 0) (n : Nat) (h1 : n ≤ 64) (hs : l.length < n) :
    Calls Tryd.prog 83 #[.pointer (some ⟨R, 0, none⟩), .int .i64 n] w fun e w' => e = .returned (.int .u64 0) ∧ RfAt w' R v l 2 ∧ Only (fun k => k = R) w w' := by
  have H := hideIt h
  obtain ⟨ao, cap, hv⟩ := h.bs.len
  subst hv
  rw [bitsI_length] at H
  have G := hideIt (rget_short ao l.length cap n w (by omega) (by omega) (by omega))
  obtain ⟨c0, c1, f0, f1⟩ := two_cells H.out.cell
  clear h
  rw [bitsI_length]
  generalize hml : l.length = m at *
  have HML := hideIt hml
  clear hml
  go_enter Tryd.func83, Tryd.ntmps83
  go_wp2_with fail
  refine G.out.mono ?_
  rintro e w1 ⟨rfl, rfl⟩
  go_wp2
  go_ret
  have o2 : Only (fun k => k = R) w (w.setCell ⟨R, 1, none⟩ (.int .i64 2)) := (Only.refl (fun k => k = R) w).setCell (p := ⟨R, 1, none⟩) (fun _ => rfl) _
  have g2 := (heap_two H.out.cell (.int .i64 2)).2
  have ST := RfAt.set0 g2 (H.out.bs.keep o2 (fun k hk e => H.out.ap (by rw [hk, e]))) H.out.ap H.out.len
  exact ⟨rfl, ST.1, o2.trans ST.2 (fun _ _ e => e)⟩
set_option maxHeartbeats 800000 in
theorem rget9_cut2 {w : World} {R : Nat} {v : Value} {l : List Bool} (h : RfAt w R v l 2) (n : Nat) (h1 : n ≤ 64) (hs : l.length < n) :
    Calls Tryd.prog 83 #[.pointer (some ⟨R, 0, none⟩), .int .i64 n] w fun e w' => e = .returned (.int .u64 0) ∧ RfAt w' R v l 2 ∧ Only (fun k => k = R) w w' := by
  have H := hideIt h
  obtain ⟨ao, cap, hv⟩ := h.bs.len
  subst hv
  rw [bitsI_length] at H
  have G := hideIt (rget_short ao l.length cap n w (by omega) (by omega) (by omega))
  obtain ⟨c0, c1, f0, f1⟩ := two_cells H.out.cell
  clear h
  rw [bitsI_length]
  generalize hml : l.length = m at *
  have HML := hideIt hml
  clear hml
  go_enter Tryd.func83, Tryd.ntmps83
  go_wp2_with fail
  refine G.out.mono ?_
  rintro e w1 ⟨rfl, rfl⟩
  go_wp2
  go_ret
  have ST := RfAt.set0 H.out.cell H.out.bs H.out.ap H.out.len
  exact ⟨rfl, ST.1, ST.2⟩
end Go.Proofs.YtifbdjhbeanfaaaDoor
