/- The statements' own: the tag that is known, same, plus. -/
import Derived.Test.YtanobjnjgbhnjaaSame2
import Derived.Test.YtanobjnjgbhnjaaSameB
import Derived.Test.YtanobjnjgbhnjaaPf
import Derived.Test.YtanobjnjgbhnjaaRad
import Derived.Test.YtanobjnjgbhnjaaMc
import Derived.BigQuiet
namespace Go.Proofs.Ytanobjnjgbhnjaa
open Go.RowKit

set_option maxHeartbeats 400000 in
set_option maxRecDepth 100000 in
theorem lsame_eq (va vb : Value) (xs : List Int) (w : World) (ha : Bs .u8 w va xs) (hb : Bs .u8 w vb xs) (hl : xs.length ≤ 140737488355328) :
    Calls Try.prog 11 #[va, vb] w fun e w' => e = .returned (.bool true) ∧ Only (fun _ => False) w w' := by
  have A := hideIt (bsame_q va vb xs w ha hb hl)
  clear ha hb
  go_enter Try.func11, Try.ntmps11
  go_wp2_with fail
  refine A.out.mono ?_
  rintro e w1 ⟨rfl, m, hm⟩
  have H := hideIt hm
  clear hm A
  go_wp2
  go_ret
  refine ⟨rfl, ?_⟩
  rw [H.out]
  exact (Only.refl _ _).drewN m
/-- make([]byte, 32), make([]byte, 16) -/
def Y32 : List Value := bl (List.replicate 32 0)
def Y16 : List Value := bl (List.replicate 16 0)
theorem mk32 (w : World) : (Instr.makeSlice 22 (.int .i64 32) (.int .i64 32)).run Try.prog w = .ok (.slice (some ⟨w.heap.size, 0, none⟩) 32 32) (w.alloc (.cells Y32.toArray 5)) := by kernel_rfl
theorem mk16 (w : World) : (Instr.makeSlice 22 (.int .i64 16) (.int .i64 16)).run Try.prog w = .ok (.slice (some ⟨w.heap.size, 0, none⟩) 16 16) (w.alloc (.cells Y16.toArray 5)) := by kernel_rfl
/-- the key with r 1 and s 0, made -/
theorem key_made (w : World) (Y : List Value) (hY : Y = Y32) : Bs .u8 (w.alloc (.cells (Y.set 0 (.int .u8 1)).toArray 5)) (.slice (some ⟨w.heap.size, 0, none⟩) 32 32) K1 ∧ Only (fun _ => False) w (w.alloc (.cells (Y.set 0 (.int .u8 1)).toArray 5)) := by
  subst hY
  have h := Blk.new w 5 (Y32.set 0 (.int .u8 1))
  refine ⟨Bs.of_bl (s := K1) h 32 rfl, (Only.refl _ _).alloc _⟩
set_option maxHeartbeats 800000 in
set_option maxRecDepth 100000 in
theorem awake_any (w : World) : Calls Try.prog 8 #[] w fun e w' => e = .returned (.bool true) ∧ Only (fun _ => False) w w' := by
  have hmk := mk32
  obtain ⟨Y, hY⟩ : ∃ Y, Y = Y32 := ⟨_, rfl⟩
  have hY0 : Y[0]? = some (.int .u8 0) := by rw [hY]; rfl
  have K0 := hideIt (key_made w Y hY)
  rw [← hY] at hmk
  have L0 : Hid (Bs .u8 ((w.alloc (.cells (Y.set 0 (.int .u8 1)).toArray 5)).alloc (.cells #[.int .u8 0] 5)) (.slice (some ⟨w.heap.size + 1, 0, none⟩) 1 1) [0] ∧ Only (fun _ => False) w ((w.alloc (.cells (Y.set 0 (.int .u8 1)).toArray 5)).alloc (.cells #[.int .u8 0] 5))) := by
    refine ⟨Bs.litN .u8 _ 5 [0] _ 1 ?_ rfl, K0.out.2.alloc _⟩
    rw [size_alloc]
  have P1 := hideIt (mac_any (.slice (some ⟨w.heap.size, 0, none⟩) 32 32) _ K1 [0] K1_u8 (by intro y hy; simp at hy; omega) (by decide) _ (K0.out.1.past ((Only.refl (fun _ => False) _).alloc (.cells #[.int .u8 0] 5))) L0.out.1)
  rw [show ME K1 = 0 from rfl, show MT K1 [0] = TAG K1 [0] from rfl, TAG_ex] at P1
  have P2 := hideIt (fun (W : World) (o : Only (fun _ => False) (w.alloc (.cells (Y.set 0 (.int .u8 1)).toArray 5)) W) => mac_any (.slice (some ⟨w.heap.size, 0, none⟩) 31 32) (.slice none 0 0) (K1.take 31) [] (K1_u8.take 31) (by intro y hy; cases hy) (by decide) W ((K0.out.1.head (n := 31) (by decide)).past o) (Bs.nil _ _))
  rw [show ME (K1.take 31) = 1 from rfl] at P2
  have hf0 : (w.alloc (.cells Y.toArray 5)).frozen? ⟨w.heap.size, 0, none⟩ = false := (Blk.new w 5 Y).froz 0
  have hc0 : (w.alloc (.cells Y.toArray 5)).cell? ⟨w.heap.size, 0, none⟩ = some (.int .u8 0) := by rw [(Blk.new w 5 Y).cell, hY0]
  clear hY
  go_enter Try.func8, Try.ntmps8
  go_wp2_with fail
  refine P1.out.mono ?_
  rintro e w1 ⟨v1, rfl, b1, nc1, o1⟩
  have O1 := hideIt (L0.out.2.same o1)
  have Q2 := hideIt (P2.out w1 (((Only.refl (fun _ => False) _).alloc _).same o1))
  have B1 := hideIt b1
  clear b1 nc1 o1 P1 P2 L0 K0 hf0 hc0 hY0 hmk
  go_wp2_with fail
  refine Q2.out.mono ?_
  rintro e w2 ⟨v2, rfl, b2, nc2, o2⟩
  have B2 := B1.out.past o2
  have O2 := hideIt (O1.out.same o2)
  obtain ⟨g, off, cap, rfl, c0⟩ := B2.at 0 (by decide)
  obtain ⟨g', off', cap', e1, c1⟩ := B2.at 1 (by decide)
  obtain ⟨g'', off'', cap'', e2, c2⟩ := B2.at 2 (by decide)
  simp at e1 e2
  obtain ⟨⟨rfl, rfl⟩, rfl⟩ := e1
  obtain ⟨⟨rfl, rfl⟩, rfl⟩ := e2
  have c0' : w2.cell? ⟨g, off, none⟩ = some (.int .u8 0) := c0
  have c1' : w2.cell? ⟨g, off + 1, none⟩ = some (.int .u8 1) := c1
  have c2' : w2.cell? ⟨g, off + 2, none⟩ = some (.int .u8 0) := c2
  clear b2 nc2 o2 B1 B2 Q2 O1 c0 c1 c2
  go_wp2
  go_ret
  exact ⟨rfl, O2.out⟩
set_option maxHeartbeats 800000 in
set_option maxRecDepth 100000 in
theorem lplus_any (va vb : Value) (a b : List Int) (la : a.length = 16) (lb : b.length = 16) (a8 : U8 a) (b8 : U8 b) (w : World) (ba : Bs .u8 w va a) (bb : Bs .u8 w vb b) :
    Calls Try.prog 12 #[va, vb] w fun e w' => ∃ v, e = .returned v ∧ Bs .u8 w' v (leB 16 (nv a + nv b)) ∧ Only (fun _ => False) w w' := by
  obtain ⟨i0, hi, hz0, hz1, hz2⟩ := info_parts Try.infoU8
  obtain ⟨ag, aoff, ac, rfl, _⟩ := ba.at 0 (by omega)
  obtain ⟨bg, boff, bc, rfl, _⟩ := bb.at 0 (by omega)
  rw [la] at ba ⊢
  rw [lb] at bb ⊢
  have HA := hideIt (And.intro ba (And.intro bb (And.intro a8 (And.intro b8 (And.intro la lb)))))
  clear ba bb a8 b8 la lb
  go_enter Try.func12, Try.ntmps12
  go_wp2
  go_loopw [5, 6, 7] (fun o k i wr => ∃ (n c : Nat) (L : List Int), n ≤ 16 ∧ i = .int .i64 n ∧ k = .int .i64 c ∧ Ad a b n c L ∧ wr.ownsRow w.heap.size 5 1 o n (bl L) ∧ Only (fun _ => False) w wr) (fun _ _ i _ => 16 - (intOf i).toNat)
  case atStart => exact ⟨0, 0, [], by omega, rfl, rfl, ⟨rfl, (fun y hy => by cases hy), (by decide), rfl⟩, World.ownsRow_nil .., Only.refl _ _⟩
  case round =>
    obtain ⟨n, c, L, hn, rfl, rfl, had, hown, hon⟩ := hrel
    by_cases hlt : n < 16
    · have hc1 := had.c1
      have hsz := hon.size
      obtain ⟨g1, off1, cap1', e1, hca⟩ := (HA.out.1.past hon).at n (by rw [HA.out.2.2.2.2.1]; exact hlt)
      simp at e1
      obtain ⟨⟨rfl, rfl⟩, -, rfl⟩ := e1
      obtain ⟨g2, off2, cap2', e2, hcb⟩ := (HA.out.2.1.past hon).at n (by rw [HA.out.2.2.2.2.2]; exact hlt)
      simp at e2
      obtain ⟨⟨rfl, rfl⟩, -, rfl⟩ := e2
      obtain ⟨x, hx⟩ := Int.eq_ofNat_of_zero_le (HA.out.2.2.1.at n).1
      have x8 := (HA.out.2.2.1.at n).2
      obtain ⟨y, hy⟩ := Int.eq_ofNat_of_zero_le (HA.out.2.2.2.1.at n).1
      have y8 := (HA.out.2.2.2.1.at n).2
      rw [hx] at hca x8
      rw [hy] at hcb y8
      have NX := had.next x y hx hy (by omega) (by omega)
      obtain ⟨v1, hv1⟩ : ∃ v1, v1 = x + y := ⟨_, rfl⟩
      obtain ⟨v2, hv2⟩ : ∃ v2, v2 = v1 + c := ⟨_, rfl⟩
      rw [show c + x + y = v2 by omega] at NX
      obtain ⟨d, hd⟩ : ∃ d, d = v2 % 256 := ⟨_, rfl⟩
      obtain ⟨k, hk⟩ : ∃ k, k = v2 / 256 := ⟨_, rfl⟩
      rw [← hd, ← hk] at NX
      have e1 : (x : Int) + (y : Int) = (v1 : Int) := by omega
      have e2 : (v1 : Int) + (c : Int) = (v2 : Int) := by omega
      have e3 : (v2 : Int) % 256 = (d : Int) := by omega
      have e3w : IntKind.u8.wrap (v2 : Int) = (d : Int) := by rw [IntKind.wrap_u8']; omega
      have e4 : (v2 : Int).tdiv 256 = (k : Int) := by rw [Int.tdiv_eq_ediv_of_nonneg (by omega)]; omega
      have e5 : (v2 : Int) / 256 = (k : Int) := by omega
      have b1 : (v1 : Int) ≤ 510 := by omega
      have b2 : (v2 : Int) ≤ 511 := by omega
      have e1w : IntKind.i64.wrap ((x : Int) + (y : Int)) = (v1 : Int) := by rw [e1, IntKind.wrap_i64]; omega
      have e2w : IntKind.i64.wrap ((v1 : Int) + (c : Int)) = (v2 : Int) := by rw [e2, IntKind.wrap_i64]; omega
      have e6 : IntKind.i64.wrap (x : Int) = (x : Int) := by rw [IntKind.wrap_i64]; omega
      have e7 : IntKind.i64.wrap (y : Int) = (y : Int) := by rw [IntKind.wrap_i64]; omega
      have i1 : (n : Int) < 16 := by omega
      have HNX := hideIt NX
      clear NX hx hy hv1 hv2 hd hk had
      go_wp2
      go_quiet (fail)
      obtain ⟨W3, hW3⟩ : ∃ W3, W3 = wr.drewN nq := ⟨_, rfl⟩
      have hown3 : W3.ownsRow w.heap.size 5 1 u5 n (bl L) := by rw [hW3]; exact ((Only.refl (fun _ => False) wr).drewN nq).own hown (fun _ _ f => f)
      have hon3 : Only (fun _ => False) w W3 := by rw [hW3]; exact hon.drewN nq
      have hsz3 := hon3.size
      rw [← hW3]
      clear hW3 hown hon hca hcb hsz
      go_wp2_with (at_builtin; refine wpList_append_lies _ rfl _ _ _ rfl w.heap.size 5 i0 (.int .u8 0) 1 1 Try.underlying22 hi hz0 hz1 hz2 rfl (by omega) _ n (bl L) rfl (hown3.alloc _) ⟨W3.heap.size, 0, none⟩ 1 1 [.int .u8 (d : Int)] rfl rfl (cell_one_new _ _ _) (fun u hu => by simp at hu; subst hu; rfl) (by omega) (by unfold maxLen; omega) (by omega) (by simp; omega) (W3.heap.size + 1) (by simp) ?_)
      intro g cap1 w1 hown1 hgrow hat hg1
      have N1 : Hid (w1.ownsRow w.heap.size 5 1 (.slice (some ⟨g, 0, none⟩) (n + 1) cap1) (n + 1) (bl (L ++ [(d : Int)])) ∧ Only (fun _ => False) w w1) := by
        refine ⟨?_, (hon3.alloc _).grown hgrow (fun q hq e => by have := (hown3.lt q e).1; omega)⟩
        unfold bl
        rw [List.map_append]
        exact hown1
      clear hown3 hown1 hgrow hat hon3
      go_wp2
      go_roundw
      case rel => exact ⟨n + 1, k, _, by omega, by go_num, by go_num, HNX.out, N1.out⟩
      case measure => simp [intOf]; omega
    · obtain rfl : n = 16 := by omega
      have hL : L = leB 16 (nv a + nv b) := by
        refine nv_inj had.u8 (leB_u8 _ _) (by rw [had.len, leB_len]) ?_
        have h := had.sum
        rw [List.take_of_length_le (by rw [HA.out.2.2.2.2.1]; exact Nat.le_refl _), List.take_of_length_le (by rw [HA.out.2.2.2.2.2]; exact Nat.le_refl _)] at h
        have h2 := nv_lt L had.u8
        rw [had.len] at h2
        rw [nv_leB, ← h, Nat.add_mul_mod_self_left, Nat.mod_eq_of_lt h2]
      have F1 : Hid (Bs .u8 wr u5 (leB 16 (nv a + nv b)) ∧ Only (fun _ => False) w wr) := by
        rw [← hL]
        exact ⟨Bs.of_own (k := .u8) (E := 5) (lo := w.heap.size) (by rw [had.len]; exact hown), hon⟩
      clear hown hon had hL
      go_wp2
      go_ret
      exact ⟨_, rfl, F1.out⟩
end Go.Proofs.Ytanobjnjgbhnjaa
