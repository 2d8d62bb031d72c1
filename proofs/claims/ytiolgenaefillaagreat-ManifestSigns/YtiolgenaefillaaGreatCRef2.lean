/- Contracts of the reference for cursors: Fixed, Varint, Block, Fix, Blocked. -/
import Derived.Test.YtiolgenaefillaaGreatCRef
namespace Go.Proofs.YtiolgenaefillaaGreat
open Go.RowKit

theorem sVarint_rd (ys : List Int) (hr : ∀ y ∈ ys, 0 ≤ y ∧ y ≤ 255) {a : Int} {k : Nat} {c : Int} (hs : sVarint ys = (a, k, c)) : rd 0 0 ys = (a, (k : Int), c) ∧ k ≤ ys.length := by
  rcases rd_cases ys hr with ⟨c', h, hc⟩ | ⟨a', k', h, h1, h2, _, h4, _⟩
  · rw [sVarint, h] at hs
    simp only [Prod.mk.injEq] at hs
    obtain ⟨rfl, rfl, rfl⟩ := hs
    exact ⟨h, by simp⟩
  · rw [sVarint, h] at hs
    simp only [Prod.mk.injEq, Int.toNat_natCast] at hs
    obtain ⟨rfl, rfl, rfl⟩ := hs
    exact ⟨h, h2⟩
theorem num_add (zs : List Int) (k : Nat) (hr : ∀ y ∈ zs, 0 ≤ y ∧ y ≤ 255) (h8 : zs.length ≤ 8) (h : k < zs.length) :
    (num (zs.take k) : Int) < 72057594037927936 ∧ (num (zs.take k) : Int) * 256 + zs.getD k 0 = (num (zs.take (k + 1)) : Int) := by
  have hl := num_lt (zs.take k) (fun y hy => hr y (List.mem_of_mem_take hy))
  rw [List.length_take, Nat.min_eq_left (by omega)] at hl
  have hp := pow256 (k := k) (by omega)
  have hy := hr (zs.getD k 0) (getD_mem zs k h)
  rw [take_snoc zs k h, num_snoc]
  refine ⟨by omega, ?_⟩
  generalize zs.getD k 0 = y at hy
  omega

set_option maxHeartbeats 400000 in
set_option maxRecDepth 100000 in
theorem rvarint_bs (ao : Option Addr) (m cap : Nat) (ys : List Int) (w : World) (h : Bs .u8 w (.slice ao m cap) ys) (nc : NoCap (.slice ao m cap)) (hr : ∀ y ∈ ys, 0 ≤ y ∧ y ≤ 255) {a : Int} {k : Nat} {c : Int} (hs : sVarint ys = (a, k, c)) :
    Calls Tryz.prog 67 #[.slice ao m cap] w fun e w' => ∃ ao' m' cap', e = .returned (.tuple #[.int .u64 a, .slice ao' m' cap', .int .i64 c]) ∧ Bs .u8 w' (.slice ao' m' cap') (ys.drop k) ∧ NoCap (.slice ao' m' cap') ∧ Only (fun _ => False) w w' := by
  obtain ⟨hrd, hk⟩ := sVarint_rd ys hr hs
  have hl := h.length
  have A := hideIt (rread_as _ ys w hrd h hr)
  have hc : m ≤ cap := by
    obtain ⟨ao', cap', e, hcap, _⟩ := h
    simp at e
    omega
  have j0 : (0 : Int) ≤ (k : Int) := by omega
  have j1 : (k : Int) ≤ (m : Int) := by omega
  have j2 : (k : Int) ≤ (cap : Int) := by omega
  have HH := hideIt (And.intro h nc)
  clear h nc hrd hs hk hl
  by_cases hcn : cap = k
  · subst hcn
    have H := hideIt (And.intro (HH.out.1.cut0 (n := cap) (by omega)) (HH.out.2.rest (n := cap) (m' := m - cap)))
    rw [if_pos rfl, Nat.sub_self] at H
    clear HH hc
    go_enter Tryz.func67, Tryz.ntmps67
    go_wp2_with fail
    refine A.out.mono ?_
    rintro e w1 ⟨rfl, rfl⟩
    go_wp2
    go_quiet (fail)
    go_wp2
    go_ret3
    exact ⟨_, _, _, rfl, H.out.1.keep ((Only.refl _ _).drewN nq) (fun _ _ f => f), H.out.2, (Only.refl _ _).drewN nq⟩
  · have H := hideIt (And.intro (HH.out.1.cut (n := k) (by omega)) (HH.out.2.rest (n := k) (m' := m - k)))
    rw [if_neg hcn] at H
    clear HH
    go_enter Tryz.func67, Tryz.ntmps67
    go_wp2_with fail
    refine A.out.mono ?_
    rintro e w1 ⟨rfl, rfl⟩
    go_wp2
    go_quiet (fail)
    go_wp2
    go_ret3
    exact ⟨_, _, _, rfl, H.out.1.keep ((Only.refl _ _).drewN nq) (fun _ _ f => f), H.out.2, (Only.refl _ _).drewN nq⟩

set_option maxHeartbeats 1000000 in
set_option maxRecDepth 100000 in
theorem rblock_bs (ao : Option Addr) (m cap : Nat) (ys : List Int) (w : World) (h : Bs .u8 w (.slice ao m cap) ys) (nc : NoCap (.slice ao m cap)) (hr : ∀ y ∈ ys, 0 ≤ y ∧ y ≤ 255) (hm : m ≤ 1000000000000) (most : Int) (hmost : most ≤ 9223372036854775807) {a : List Int} {k : Nat} {c : Int} (hs : sBlock most ys = (a, k, c)) :
    Calls Tryz.prog 66 #[.slice ao m cap, .int .i64 most] w fun e w' => ∃ v1 ao' m' cap', e = .returned (.tuple #[v1, .slice ao' m' cap', .int .i64 c]) ∧ Bs .u8 w' v1 a ∧ Bs .u8 w' (.slice ao' m' cap') (ys.drop k) ∧ NoCap (.slice ao' m' cap') ∧ Only (fun _ => False) w w' := by
  have HL := hideIt h.length
  by_cases h0 : most < 0
  · have hs2 : sBlock most ys = ([], 0, 1) := if_pos h0
    rw [hs2] at hs
    simp only [Prod.mk.injEq] at hs
    obtain ⟨rfl, rfl, rfl⟩ := hs
    have H := hideIt (And.intro h nc)
    clear h nc
    go_enter Tryz.func66, Tryz.ntmps66
    go_wp2
    go_ret3
    exact ⟨.slice none 0 0, _, _, _, rfl, Bs.nil _ _, H.out.1, H.out.2, Only.refl _ _⟩
  have d0 : decide (most < 0) = false := decide_eq_false h0
  obtain ⟨x, q, g, hv⟩ : ∃ x q g, sVarint ys = (x, q, g) := ⟨_, _, _, rfl⟩
  have A := hideIt (rvarint_bs ao m cap ys w h nc hr hv)
  obtain ⟨hrd, hq⟩ := sVarint_rd ys hr hv
  have HC := rd_cases ys hr
  rw [hrd] at HC
  have H := hideIt (And.intro h nc)
  by_cases hg : g = 0
  · subst hg
    have hx : 0 ≤ x ∧ x < 18446744073709551616 := by
      rcases HC with ⟨c', e, hc⟩ | ⟨a', k', e, _, _, _, hlt, _⟩
      · simp only [Prod.mk.injEq] at e
        omega
      · simp only [Prod.mk.injEq] at e
        omega
    clear HC hrd
    by_cases h4 : most < x
    · have hs2 : sBlock most ys = ([], 0, 4) := by
        simp only [sBlock]
        rw [if_neg h0, hv, if_neg (by simp), if_pos h4]
      rw [hs2] at hs
      simp only [Prod.mk.injEq] at hs
      obtain ⟨rfl, rfl, rfl⟩ := hs
      have d4 : decide (most < x) = true := decide_eq_true h4
      clear h nc hv hs2
      go_enter Tryz.func66, Tryz.ntmps66
      go_wp2_with fail
      refine A.out.mono ?_
      rintro e w1 ⟨ao', m', cap', rfl, _, _, hon⟩
      have O1 := hideIt hon
      clear hon A
      go_wp2
      go_ret3
      exact ⟨.slice none 0 0, _, _, _, rfl, Bs.nil _ _, H.out.1.keep O1.out (fun _ _ f => f), H.out.2, O1.out⟩
    have d4 : decide (most < x) = false := decide_eq_false h4
    by_cases h2 : (ys.length : Int) - q < x
    · have hs2 : sBlock most ys = ([], 0, 2) := by
        simp only [sBlock]
        rw [if_neg h0, hv, if_neg (by simp), if_neg h4, if_pos h2]
      have hb : sBytes x (ys.drop q) = ([], 0, 2) := by
        simp only [sBytes]
        rw [if_neg (by omega), if_pos (by rw [List.length_drop]; omega)]
      rw [hs2] at hs
      simp only [Prod.mk.injEq] at hs
      obtain ⟨rfl, rfl, rfl⟩ := hs
      have HB := hideIt hb
      clear h nc hv hs2 h2 hb
      go_enter Tryz.func66, Tryz.ntmps66
      go_wp2_with fail
      refine A.out.mono ?_
      rintro e w1 ⟨ao', m', cap', rfl, hb1, hn1, hon⟩
      have hm' := hb1.length
      rw [List.length_drop] at hm'
      have B := hideIt (rbytes_bs ao' m' cap' (ys.drop q) w1 hb1 hn1 (by have := HL.out; omega) x HB.out)
      have O1 := hideIt hon
      clear hon A hb1 hn1 hm'
      go_wp2_with fail
      refine B.out.mono ?_
      rintro e w2 ⟨v2, ao2, m2, cap2, rfl, _, _, _, hon2⟩
      have O2 := hideIt (O1.out.trans hon2 (fun _ _ f => f))
      clear hon2 B O1
      go_wp2
      go_ret3
      exact ⟨.slice none 0 0, _, _, _, rfl, Bs.nil _ _, H.out.1.keep O2.out (fun _ _ f => f), H.out.2, O2.out⟩
    · have hs2 : sBlock most ys = ((ys.drop q).take x.toNat, q + x.toNat, 0) := by
        simp only [sBlock]
        rw [if_neg h0, hv, if_neg (by simp), if_neg h4, if_neg h2]
      have hb : sBytes x (ys.drop q) = ((ys.drop q).take x.toNat, x.toNat, 0) := by
        simp only [sBytes]
        rw [if_neg (by omega), if_neg (by rw [List.length_drop]; omega)]
      rw [hs2] at hs
      simp only [Prod.mk.injEq] at hs
      obtain ⟨rfl, rfl, rfl⟩ := hs
      have HB := hideIt hb
      clear h nc hv hs2 h2 hb
      go_enter Tryz.func66, Tryz.ntmps66
      go_wp2_with fail
      refine A.out.mono ?_
      rintro e w1 ⟨ao', m', cap', rfl, hb1, hn1, hon⟩
      have hm' := hb1.length
      rw [List.length_drop] at hm'
      have B := hideIt (rbytes_bs ao' m' cap' (ys.drop q) w1 hb1 hn1 (by have := HL.out; omega) x HB.out)
      rw [List.drop_drop] at B
      have O1 := hideIt hon
      clear hon A hb1 hn1 hm'
      go_wp2_with fail
      refine B.out.mono ?_
      rintro e w2 ⟨v2, ao2, m2, cap2, rfl, hb2, hc2, hn2, hon2⟩
      have F := hideIt (And.intro hb2 (And.intro hc2 (And.intro hn2 (O1.out.trans hon2 (fun _ _ f => f)))))
      clear hb2 hc2 hn2 hon2 B O1
      go_wp2
      go_ret3
      exact ⟨v2, _, _, _, rfl, F.out⟩
  · have hs2 : sBlock most ys = ([], 0, g) := by
      simp only [sBlock]
      rw [if_neg h0, hv, if_pos hg]
    rw [hs2] at hs
    simp only [Prod.mk.injEq] at hs
    obtain ⟨rfl, rfl, rfl⟩ := hs
    have dg : (g != 0) = true := by simpa using hg
    clear h nc hv hs2 HC hrd
    go_enter Tryz.func66, Tryz.ntmps66
    go_wp2_with fail
    refine A.out.mono ?_
    rintro e w1 ⟨ao', m', cap', rfl, _, _, hon⟩
    have O1 := hideIt hon
    clear hon A
    go_wp2
    go_ret3
    exact ⟨.slice none 0 0, _, _, _, rfl, Bs.nil _ _, H.out.1.keep O1.out (fun _ _ f => f), H.out.2, O1.out⟩

set_option maxHeartbeats 400000 in
set_option maxRecDepth 100000 in
theorem rfix_none (v n : Int) (w : World) (h : n < 0 ∨ 8 < n) : Calls Tryz.prog 27 #[.int .u64 v, .int .i64 n] w fun e w' => e = .returned (.slice none 0 0) ∧ w = w' := by
  by_cases h0 : n < 0
  · clear h
    go_enter Tryz.func27, Tryz.ntmps27
    go_wp2
    go_ret
    exact ⟨rfl, rfl⟩
  · have h8 : 8 < n := by omega
    have d0 : decide (n < 0) = false := decide_eq_false h0
    clear h
    go_enter Tryz.func27, Tryz.ntmps27
    go_wp2
    go_ret
    exact ⟨rfl, rfl⟩

theorem fixL_take (v : Int) (n k : Nat) (h : k < n) : (fixL v n).take (k + 1) = (fixL v n).take k ++ [fixB v (n - 1 - k)] := by
  rw [take_snoc (fixL v n) k (by rw [fixL_len]; exact h)]
  congr 2
  rw [List.getD_eq_getElem?_getD]
  simp [fixL, h]

set_option maxHeartbeats 400000 in
set_option maxRecDepth 100000 in
theorem rfix_any (v : Int) (n : Nat) (w : World) (h : n ≤ 8) :
    Calls Tryz.prog 27 #[.int .u64 v, .int .i64 n] w fun e w' => ∃ u, e = .returned u ∧ w'.ownsRow w.heap.size 5 1 u (fixL v n).length ((fixL v n).map (Value.int .u8)) ∧ Only (fun _ => False) w w' := by
  obtain ⟨i0, hi, hz0, hz1, hz2⟩ := info_parts Tryz.infoU8
  have d0 : decide ((n : Int) < 0) = false := by simp
  have d8 : decide (8 < (n : Int)) = false := decide_eq_false (by omega)
  go_enter Tryz.func27, Tryz.ntmps27
  go_wp2
  go_loopw [5, 6] (fun o i wr => ∃ k : Nat, k ≤ n ∧ i = .int .i64 ((n : Int) - 1 - k) ∧ wr.ownsRow w.heap.size 5 1 o k (((fixL v n).map (Value.int .u8)).take k) ∧ Below w.heap.size w wr) (fun _ i _ => (intOf i + 1).toNat)
  case atStart => exact ⟨0, Nat.zero_le _, by go_num, World.ownsRow_nil _ _ _ _, Below.refl _ _⟩
  case round =>
    obtain ⟨k, hk, rfl, hown, hbel⟩ := hrel
    have hsz := hbel.size
    by_cases hlt : k < n
    · have dk : decide (0 ≤ (n : Int) - 1 - (k : Int)) = true := decide_eq_true (by omega)
      obtain ⟨j, hj⟩ : ∃ j : Nat, j = n - 1 - k := ⟨_, rfl⟩
      have ej : ((n : Int) - 1 - k) = (j : Int) := by omega
      have HJ := hideIt hj
      rw [ej] at dk
      rw [ej]
      have hj7 : j ≤ 7 := by omega
      clear hj ej hk
      go_wp2_with (at_builtin; refine wpList_append_lies _ rfl _ _ _ rfl w.heap.size 5 i0 (.int .u8 0) 1 1 Tryz.underlying23 hi hz0 hz1 hz2 rfl (by omega) _ k (((fixL v n).map (Value.int .u8)).take k) rfl (hown.alloc _) ⟨wr.heap.size, 0, none⟩ 1 1 [.int .u8 (v / 2 ^ (8 * j) % 256)] rfl rfl ?c1 ?c2 (by omega) ?c3 ?c4 ?c5 (wr.heap.size + 1) (by simp) ?_)
      case c1 => exact cell_one_new _ _ _
      case c2 => intro u hu; simp at hu; subst hu; rfl
      case c3 => unfold maxLen; omega
      case c4 => omega
      case c5 => simp; omega
      intro g cap1 w1 hown1 hgrow hat hg1
      have hb1 : Below w.heap.size w w1 := (hbel.alloc hbel.size _).grown hgrow (by simp; omega) (fun q hq => (hown.lt q hq).1)
      have hown2 : w1.ownsRow w.heap.size 5 1 (.slice (some ⟨g, 0, none⟩) (k + 1) cap1) (k + 1) (((fixL v n).map (Value.int .u8)).take (k + 1)) := by
        rw [← List.map_take, fixL_take v n k hlt, ← HJ.out, List.map_append, List.map_take]; exact hown1
      clear hown hown1 hgrow hat hbel
      go_wp2
      go_roundw
      case rel => exact ⟨k + 1, by omega, by have := HJ.out; go_num, hown2, hb1⟩
      case measure => have := HJ.out; simp [intOf]
    · have hkn : k = n := by omega
      subst hkn
      have dk : decide (0 ≤ (k : Int) - 1 - (k : Int)) = false := decide_eq_false (by omega)
      have F : Hid (wr.ownsRow w.heap.size 5 1 u5 (fixL v k).length ((fixL v k).map (Value.int .u8)) ∧ Only (fun _ => False) w wr) := by
        rw [List.take_of_length_le (by rw [List.length_map, fixL_len]; omega)] at hown
        rw [fixL_len]
        exact ⟨hown, only_of_below hbel⟩
      clear hown hbel
      go_wp2
      go_ret
      exact ⟨_, rfl, F.out⟩

set_option maxHeartbeats 400000 in
set_option maxRecDepth 100000 in
theorem rblocked_any (vb : Value) (ys : List Int) (w : World) (hb : Bs .u8 w vb ys) (nb : NoCap vb) (hl : ys.length ≤ 1000000) :
    Calls Tryz.prog 30 #[vb] w fun e w' => ∃ v', e = .returned v' ∧ w'.ownsRow w.heap.size 5 1 v' (blk ys).length ((blk ys).map (Value.int .u8)) ∧ Only (fun _ => False) w w' := by
  obtain ⟨i0, hi, hz0, hz1, hz2⟩ := info_parts Tryz.infoU8
  have HB := hideIt hb
  have NB := hideIt nb
  have A := hideIt (rappend_any (.slice none 0 0) [] ys.length w (Bs.nil _ _) NoCap.nil (by simp) (by omega) (by omega))
  rw [List.nil_append, Int.toNat_natCast] at A
  have H10 := hideIt (gs_le10 (v := ys.length) (by omega))
  obtain ⟨ab, cb, rfl⟩ := hb.len
  clear hb nb
  go_enter Tryz.func30, Tryz.ntmps30
  go_wp2_with fail
  refine A.out.mono ?_
  rintro e w1 ⟨v1, rfl, hown1, hon1⟩
  have O1 := hideIt (And.intro hon1 (HB.out.later (hon1.low (Nat.le_refl _))))
  have hsz := hon1.size
  clear hon1 A
  go_wp2_with (at_builtin; refine wpList_append_bs _ rfl _ _ _ rfl w.heap.size 5 i0 (.int .u8 0) 1 Tryz.underlying23 hi hz0 hz1 hz2 rfl _ (gs ys.length).length ((gs ys.length).map (Value.int .u8)) rfl hown1 .u8 _ ys rfl O1.out.2 NB.out ?c3 ?c4 hsz ?_)
  case c3 => have := H10.out; unfold maxLen; omega
  case c4 => have := H10.out; omega
  intro v' w2 hown2 hgrow _ _
  have F : Hid (w2.ownsRow w.heap.size 5 1 v' (blk ys).length ((blk ys).map (Value.int .u8)) ∧ Only (fun _ => False) w w2) := by
    refine ⟨?_, O1.out.1.grown hgrow (fun k hk e => ?_)⟩
    · rw [blk, List.length_append, List.map_append]; exact hown2
    · have := (hown1.lt k e).1
      omega
  clear hown1 hown2 hgrow O1
  go_wp2
  go_ret
  exact ⟨_, rfl, F.out⟩
end Go.Proofs.YtiolgenaefillaaGreat
