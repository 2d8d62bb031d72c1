/- Package gorilla: readAll. -/
import Derived.Test.YthpcibofcgjcdaaDoorGd
import Derived.Test.YthpcibofcgjcdaaDoorInfo
namespace Go.Proofs.YthpcibofcgjcdaaDoor
open Go.RowKit

def lenV : Value → Nat | .slice _ n _ => n | _ => 0
theorem gDA_done {acc : List Int} {N : Nat} (h : N ≤ acc.length) (p : Nat) (wn : Option (Nat × Nat)) (l : List Bool) : gDA (N - acc.length) acc p wn l = (acc, 0) := by
  rw [show N - acc.length = 0 by omega, gDA]
theorem gDA_bad {acc : List Int} {N : Nat} (h : acc.length < N) (p : Nat) (wn : Option (Nat × Nat)) (l : List Bool) (hb : (gR wn l).2.2.2 ≠ 0) : gDA (N - acc.length) acc p wn l = ([], (gR wn l).2.2.2) := by
  rw [show N - acc.length = (N - acc.length - 1) + 1 by omega, gDA, if_pos hb]
theorem gDA_next {acc : List Int} {N : Nat} (h : acc.length < N) (p : Nat) (wn : Option (Nat × Nat)) (l : List Bool) (hb : (gR wn l).2.2.2 = 0) :
    gDA (N - acc.length) acc p wn l = gDA (N - (acc ++ [((p ^^^ (gR wn l).1 : Nat) : Int)]).length) (acc ++ [((p ^^^ (gR wn l).1 : Nat) : Int)]) (p ^^^ (gR wn l).1) (gR wn l).2.1 (gR wn l).2.2.1 := by
  rw [show N - acc.length = (N - acc.length - 1) + 1 by omega, gDA, if_neg (by simp [hb]), List.length_append, List.length_singleton, show N - acc.length - 1 = N - (acc.length + 1) by omega]
set_option maxHeartbeats 400000 in
theorem readAll_nil {w : World} (R : Nat) :
    Calls Tryd.prog 24 #[.pointer (some ⟨R, 0, none⟩), .int .i64 0] w fun e w' => e = .returned (.tuple #[.slice none 0 0, .int .i64 0]) ∧ w = w' := by
  go_enter Tryd.func24, Tryd.ntmps24
  go_wp2
  go_ret2
  exact ⟨rfl, rfl⟩
set_option maxHeartbeats 400000 in
theorem readAll_cut {w : World} {R : Nat} {v : Value} {ys : List Int} (h : RdAt 72 w R v ys 0) (N : Nat) (hN : 0 < N) (hs : (allBits ys).length < 64) :
    Calls Tryd.prog 24 #[.pointer (some ⟨R, 0, none⟩), .int .i64 N] w fun e w' => e = .returned (.tuple #[.slice none 0 0, .int .i64 2]) ∧ Only (fun k => k = R) w w' := by
  have G := hideIt (get_cut h 64 (by omega) _ rfl (by simpa using hs))
  have d0 : ((N : Int) == 0) = false := by rw [beq_eq_false_iff_ne]; omega
  clear h hs
  go_enter Tryd.func24, Tryd.ntmps24
  go_wp2_with fail
  refine G.out.mono ?_
  rintro e w1 ⟨rfl, o1⟩
  have O1 := hideIt (o1.mono (T := fun k => k = R) (fun _ _ f => f.elim))
  clear o1 G
  go_wp2
  go_ret2
  exact ⟨rfl, O1.out⟩
set_option maxHeartbeats 2000000 in
set_option maxRecDepth 100000 in
theorem readAll_any {w : World} {R : Nat} {v : Value} {ys : List Int} (h : RdAt 72 w R v ys 0) (hv : ∀ k, v.ownBlock = some k → k < w.heap.size) (N : Nat) (hN : 0 < N) (hN2 : N ≤ 65536) (hs : 64 ≤ (allBits ys).length) :
    Calls Tryd.prog 24 #[.pointer (some ⟨R, 0, none⟩), .int .i64 N] w fun e w' => ∃ u, e = .returned (.tuple #[u, .int .i64 (gRd (allBits ys) N).2]) ∧
      w'.ownsRow w.heap.size 35 1 u (gRd (allBits ys) N).1.length ((gRd (allBits ys) N).1.map (Value.int .u64)) ∧ Only (fun k => k = R) w w' := by
  obtain ⟨i0, hi, hz0, hz1, hz2⟩ := info_parts Tryd.infoU64
  have hR := heap_in h.cell
  have HV := hideIt hv
  have G := hideIt (get_at h 64 (by omega) (allBits ys) rfl (by simpa using hs))
  have d0 : ((N : Int) == 0) = false := by rw [beq_eq_false_iff_ne]; omega
  have hf : bnum ((allBits ys).take 64) < 18446744073709551616 := by
    have := bnum_take_lt (allBits ys) 64
    rwa [p64] at this
  have HG : Hid (gDA (N - [((bnum ((allBits ys).take 64) : Nat) : Int)].length) [((bnum ((allBits ys).take 64) : Nat) : Int)] (bnum ((allBits ys).take 64)) none ((allBits ys).drop 64) = gRd (allBits ys) N) := by
    simp only [Hid]; unfold gRd; rw [if_neg (by omega), if_neg (by omega)]; rfl
  obtain ⟨q, hq⟩ : ∃ q, q = gRd (allBits ys) N := ⟨_, rfl⟩
  rw [← hq] at HG
  rw [← hq]
  obtain ⟨f0, hf0⟩ : ∃ f0, f0 = bnum ((allBits ys).take 64) := ⟨_, rfl⟩
  rw [← hf0] at HG G hf
  clear h hs hv hq hf0
  go_enter Tryd.func24, Tryd.ntmps24
  go_wp2_with fail
  refine G.out.mono ?_
  rintro e w1 ⟨rfl, r1, q1, o1⟩
  have hrow : (w1.alloc (.cells #[.int .u64 f0] 35)).ownsRow w.heap.size 35 1 (.slice (some ⟨w1.heap.size, 0, none⟩) 1 1) 1 [.int .u64 f0] := World.ownsRow_lit w1 #[.int .u64 f0] 1 o1.size (by unfold maxLen; omega) rfl
  have oA : Only (fun _ => False) w1 ((w1.alloc (.cells #[.int .u64 f0] 35)).alloc (.cells #[.int .i64 0, .int .i64 0] 42)) := ((Only.refl _ w1).alloc _).alloc _
  have L1 : Hid (Rl w R (w1.heap.size + 1) v ys ((w1.alloc (.cells #[.int .u64 f0] 35)).alloc (.cells #[.int .i64 0, .int .i64 0] 42)) (.slice (some ⟨w1.heap.size, 0, none⟩) 1 1) [(f0 : Int)] (0 + 64) 0 0) := by
    refine ⟨r1.keep oA (fun f => f) (fun _ _ f => f), o1.trans oA (fun _ _ f => f.elim), hrow.alloc _, fun q hq => ?_, ?_, ?_⟩
    · simp only [Value.ownBlock, Option.some.injEq] at hq; omega
    · have := o1.size; omega
    · have := heap_alloc_last (w1.alloc (.cells #[.int .u64 f0] 35)) (.cells #[.int .i64 0, .int .i64 0] 42)
      rwa [show (w1.alloc (.cells #[.int .u64 f0] 35)).heap.size = w1.heap.size + 1 from Array.size_push ..] at this
  clear r1 q1 o1 hrow oA G
  go_wp2
  go_loopw [6, 8] (fun x l wr => ∃ (f : Nat) (acc : List Int) (wn : Option (Nat × Nat)) (p a d : Nat), x = .int .u64 f ∧ f < 18446744073709551616 ∧ Rl w R (w1.heap.size + 1) v ys wr l acc p a d ∧ W2 wn a d ∧ gDA (N - acc.length) acc f wn ((allBits ys).drop p) = q ∧ 0 < acc.length ∧ acc.length ≤ N) (fun _ l _ => N - lenV l)
  case atStart => exact ⟨f0, [(f0 : Int)], none, 0 + 64, 0, 0, rfl, hf, L1.out, W2.none, HG.out, by simp, by simp; omega⟩
  case round =>
    clear L1 HG hf
    obtain ⟨f, acc, wn, p, a, d, rfl, hf, hrl, hw, hg, ha0, haN⟩ := hrel
    obtain ⟨a6, c6, e6⟩ := (Bs.of_own hrl.own).len
    subst e6
    have L := hideIt hrl
    have HW := hideIt hw
    have hvr : ∀ k, v.ownBlock = some k → k < wr.heap.size := fun k hk => Nat.lt_of_lt_of_le (HV.out k hk) hrl.on.size
    by_cases hlt : acc.length < N
    · have dl : decide ((acc.length : Int) < (N : Int)) = true := by simp; omega
      have RD := hideIt (read_any hrl.rd hvr wn a d hw _ rfl)
      obtain ⟨c0, c1, b0, b1⟩ := two_cells hrl.box
      have hgk := hrl.gt
      by_cases hb : (gR wn ((allBits ys).drop p)).2.2.2 = 0
      · have hok := gR_ok hw.win _ hb
        have HNX := hideIt ((gDA_next hlt f wn _ hb).symm.trans hg)
        obtain ⟨g, hgr⟩ : ∃ g, g = gR wn ((allBits ys).drop p) := ⟨_, rfl⟩
        rw [← hgr] at RD HNX hok hb
        have HB := hideIt hb
        have hxx := bits_xor_u64_nat f g.1 hf hok.1
        have hxl := xor_lt hf hok.1
        obtain ⟨y, hy⟩ : ∃ y, y = f ^^^ g.1 := ⟨_, rfl⟩
        rw [← hy] at hxx hxl HNX
        obtain ⟨m, hm⟩ : ∃ m, m = acc.length := ⟨_, rfl⟩
        rw [← hm] at dl hlt ⊢
        have HM := hideIt hm
        clear hrl hw hg hgr hok hb hy hm
        go_wp2_with fail
        refine RD.out.mono ?_
        rintro e w2 (⟨hbad, _⟩ | ⟨_, a2, d2, hw2, rfl, ⟨p2, r2, q2⟩, o2⟩)
        · exact absurd HB.out hbad
        have L2 := hideIt (L.out.next hR HV.out r2 o2 a2 d2)
        have HW2 := hideIt hw2
        have Q2 := hideIt q2
        obtain ⟨_, _, _, _⟩ := two_cells (o2.heap L.out.box (fun e => by omega))
        have hsz := Nat.le_trans L.out.on.size o2.size
        clear c0 c1 b0 b1 L RD HW hvr r2 o2 hw2 q2
        obtain ⟨w3, h3⟩ : ∃ w3, w3 = (w2.setCell ⟨w1.heap.size + 1, 0, none⟩ (.int .i64 a2)).setCell ⟨w1.heap.size + 1, 1, none⟩ (.int .i64 d2) := ⟨_, rfl⟩
        have hown := L2.out.own
        rw [← HM.out] at hown
        have hsz2 := L2.out.on.size
        rw [← h3] at L2 hsz2 hown
        have H3 := hideIt h3
        clear h3
        have hm7 : m + 1 ≤ 65536 := by omega
        have hws : w3.heap.size = w2.heap.size := by rw [H3.out]; simp
        have hwa : (w3.alloc (.cells #[.int .u64 y] 35)).heap.size = w2.heap.size + 1 := by rw [← hws]; exact Array.size_push ..
        have hnew : ∀ j u, [Value.int .u64 y][j]? = some u → (w3.alloc (.cells #[.int .u64 y] 35)).cell? ((⟨w2.heap.size, 0, none⟩ : Addr).add j) = some u := by rw [← hws]; exact cell_one_new _ _ _
        have HWS := hideIt hws
        have HWA := hideIt hwa
        have HNEW := hideIt hnew
        have HOWN := hideIt (hown.alloc (.cells #[.int .u64 y] 35))
        have hba : w.heap.size ≤ w2.heap.size + 1 := by omega
        clear hws hwa hnew hown
        go_wp2_with (at_builtin; rw [← H3.out]; refine wpList_append_lies _ rfl _ _ _ rfl w.heap.size 35 i0 (.int .u64 0) 1 8 Tryd.underlying22 hi hz0 hz1 hz2 rfl (by omega) _ m _ rfl HOWN.out ⟨w2.heap.size, 0, none⟩ 1 1 [.int .u64 y] rfl rfl HNEW.out ?c2 (by omega) ?c3 ?c4 ?c5 (w2.heap.size + 1) HWA.out ?_)
        case c2 => intro u hu; simp at hu; subst hu; rfl
        case c3 => unfold maxLen; omega
        case c4 => omega
        case c5 => rw [HWA.out]; exact hba
        intro g2 cap1 w4 hown1 hgrow hat hg1
        have own4 : w4.ownsRow w.heap.size 35 1 (.slice (some ⟨g2, 0, none⟩) (m + 1) cap1) (acc ++ [(y : Int)]).length ((acc ++ [(y : Int)]).map (Value.int .u64)) := by
          rw [List.length_append, ← HM.out, List.map_append]; exact hown1
        have hgrow2 : (w3.alloc (.cells #[.int .u64 y] 35)).grownBy w4 (Value.slice a6 acc.length c6).ownBlock := by
          have : (Value.slice a6 acc.length c6).ownBlock = (Value.slice a6 m c6).ownBlock := by cases a6 <;> rfl
          rw [this]; exact hgrow
        have L4 := hideIt (L2.out.grow hR HV.out hgrow2 own4 (fun r hr => by
          simp only [Value.ownBlock, Option.some.injEq] at hr
          subst hr
          rcases hat with e | e
          · left
            have : (Value.slice a6 acc.length c6).ownBlock = (Value.slice a6 m c6).ownBlock := by cases a6 <;> rfl
            rw [this]; exact e
          · right; rw [HWS.out]; omega))
        have HLE : Hid ((acc ++ [(y : Int)]).length ≤ N ∧ 0 < (acc ++ [(y : Int)]).length) := by
          simp only [Hid]; rw [List.length_append, ← HM.out, List.length_singleton]; omega
        clear hown1 hgrow hat hg1 own4 hgrow2 L2 HOWN HNEW HWA HWS
        go_wp2
        go_roundw
        case rel => exact ⟨y, _, g.2.1, p2, a2, d2, rfl, hxl, L4.out, HW2.out, by rw [Q2.out]; exact HNX.out, HLE.out.2, HLE.out.1⟩
        case measure => simp only [lenV]; omega
      · have HBAD := hideIt ((gDA_bad hlt f wn _ hb).symm.trans hg)
        obtain ⟨g, hgr⟩ : ∃ g, g = gR wn ((allBits ys).drop p) := ⟨_, rfl⟩
        rw [← hgr] at RD HBAD hb
        have HB := hideIt hb
        have dc : (g.2.2.2 != 0) = true := by simpa using hb
        obtain ⟨c, hc⟩ : ∃ c, c = g.2.2.2 := ⟨_, rfl⟩
        rw [← hc] at RD HBAD HB dc
        obtain ⟨m, hm⟩ : ∃ m, m = acc.length := ⟨_, rfl⟩
        rw [← hm] at dl hlt ⊢
        clear hrl hw hg hgr hb hc hm
        go_wp2_with fail
        refine RD.out.mono ?_
        rintro e w2 (⟨_, x, a2, d2, rfl, o2⟩ | ⟨hgood, _⟩)
        case inr => exact absurd hgood HB.out
        obtain ⟨_, _, _, _⟩ := two_cells (o2.heap L.out.box (fun e => by omega))
        have O2 := hideIt (L.out.on.trans o2 (fun _ _ e => e))
        clear c0 c1 b0 b1 L RD HW hvr o2
        go_wp2
        go_ret2
        have hq := HBAD.out
        subst hq
        refine ⟨.slice none 0 0, rfl, World.ownsRow_nil _ _ _ _, ?_⟩
        exact (O2.out.setCell (p := ⟨w1.heap.size + 1, 0, none⟩) (fun (f : w1.heap.size + 1 < w.heap.size) => absurd f (by omega)) _).setCell (p := ⟨w1.heap.size + 1, 1, none⟩) (fun (f : w1.heap.size + 1 < w.heap.size) => absurd f (by omega)) _
    · have dl : decide ((acc.length : Int) < (N : Int)) = false := by simp; omega
      have HR : Hid (q = (acc, 0)) := by simp only [Hid]; rw [← hg, gDA_done (by omega)]
      clear hrl hw hg hvr
      obtain ⟨m, hm⟩ : ∃ m, m = acc.length := ⟨_, rfl⟩
      rw [← hm] at dl hlt ⊢
      have HM := hideIt hm
      clear hm
      go_wp2
      go_ret2
      rw [HR.out]
      exact ⟨_, rfl, by have := L.out.own; rw [HM.out]; exact this, L.out.on⟩
end Go.Proofs.YthpcibofcgjcdaaDoor
