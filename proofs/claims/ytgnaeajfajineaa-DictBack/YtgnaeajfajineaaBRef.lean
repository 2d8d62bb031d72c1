/- Contracts of the reference for bits: Of, Get, End. -/
import Derived.Test.YtgnaeajfajineaaBMath3
namespace Go.Proofs.Ytgnaeajfajineaa
open Go.RowKit


theorem Try.info3 : (Try.prog.info? 3).map (fun i => (i.zero, i.size, i.bytes)) = some (some (.int .i64 0), 1, 8) := by kernel_rfl

/-- bits as numbers 0 and 1 -/
def bitsI (l : List Bool) : List Int := l.map fun b => (b.toNat : Int)
theorem bitsI_length (l : List Bool) : (bitsI l).length = l.length := by simp [bitsI]
theorem bitsI_getD (l : List Bool) (j : Nat) : (bitsI l).getD j 0 = ((l.getD j false).toNat : Int) := by
  simp only [bitsI, List.getD_eq_getElem?_getD, List.getElem?_map]
  cases l[j]? <;> rfl

set_option maxHeartbeats 400000 in
set_option maxRecDepth 100000 in
theorem rget_width (v : Value) (width : Int) (w : World) (h : width < 0 ∨ 64 < width) :
    Calls Try.prog 33 #[v, .int .i64 width] w fun e w' => e = .returned (.tuple #[.int .u64 0, v, .int .i64 1]) ∧ w = w' := by
  rcases h with h | h
  · go_enter Try.func33, Try.ntmps33
    go_wp2
    go_ret3
    exact ⟨rfl, rfl⟩
  · have h0 : ¬ width < 0 := by omega
    go_enter Try.func33, Try.ntmps33
    go_wp2
    go_ret3
    exact ⟨rfl, rfl⟩

set_option maxHeartbeats 400000 in
set_option maxRecDepth 100000 in
theorem rget_short (ao : Option Addr) (m cap : Nat) (width : Int) (w : World) (h0 : 0 ≤ width) (h1 : width ≤ 64) (hs : (m : Int) < width) :
    Calls Try.prog 33 #[.slice ao m cap, .int .i64 width] w fun e w' => e = .returned (.tuple #[.int .u64 0, .slice ao m cap, .int .i64 2]) ∧ w = w' := by
  go_enter Try.func33, Try.ntmps33
  go_wp2
  go_ret3
  exact ⟨rfl, rfl⟩

theorem bitsI_drop (l : List Bool) (n : Nat) : bitsI (l.drop n) = (bitsI l).drop n := by simp [bitsI, List.map_drop]

theorem add_step (a : Nat) (b : Bool) (h : a ≤ 9223372036854775807) : 2 * a + b.toNat ≤ 18446744073709551615 := by
  have := bool_le b; omega

set_option maxHeartbeats 400000 in
set_option maxRecDepth 100000 in
theorem rget_bs (v : Value) (l : List Bool) (width : Int) (w : World) (h : Bs .i64 w v (bitsI l)) (hl : l.length ≤ 1000000000) (h0 : 0 ≤ width) (h1 : width ≤ 64) (hs : width ≤ (l.length : Int)) :
    Calls Try.prog 33 #[v, .int .i64 width] w fun e w' => ∃ v', e = .returned (.tuple #[.int .u64 (bnum (l.take width.toNat)), v', .int .i64 0]) ∧ Bs .i64 w' v' (bitsI (l.drop width.toNat)) ∧ Only (fun _ => False) w w' ∧ (v'.ownBlock = v.ownBlock) := by
  obtain ⟨n, rfl⟩ := Int.eq_ofNat_of_zero_le h0
  rw [Int.toNat_natCast]
  have H0 := hideIt h
  obtain ⟨ao, cap, hv, hcap, _⟩ := h
  rw [bitsI_length] at hv hcap
  subst hv
  obtain ⟨m, hm⟩ : ∃ m, m = l.length := ⟨_, rfl⟩
  have HM := hideIt hm
  rw [← hm] at H0 hl hs hcap ⊢
  clear hm
  have d1 : decide ((m : Int) < (n : Int)) = false := by simp; omega
  go_enter Try.func33, Try.ntmps33
  go_wp2
  go_loop [7, 8] (fun a i => ∃ k : Nat, k ≤ n ∧ i = .int .i64 k ∧ a = .int .u64 (bnum (l.take k))) (fun _ i => n - (intOf i).toNat)
  case atStart => exact ⟨0, Nat.zero_le _, rfl, rfl⟩
  case round =>
    obtain ⟨k, hk, rfl, rfl⟩ := hrel
    by_cases hlt : k < n
    · obtain ⟨b, off, cap', e1, hc⟩ := H0.out.at k (by rw [bitsI_length, ← HM.out]; omega)
      have ea : ao = some ⟨b, off, none⟩ := by simp at e1; exact e1.1
      subst ea
      rw [bitsI_getD] at hc
      have hb : (bnum (l.take k) : Int) ≤ 9223372036854775807 := by
        have := bnum_63 (l.take k) (by rw [List.length_take]; omega)
        omega
      have HS : Hid (bnum (l.take (k + 1)) = 2 * bnum (l.take k) + (l.getD k false).toNat) := by
        have hkl : k < l.length := by rw [← HM.out]; omega
        simp only [Hid]
        rw [List.take_succ_eq_append_getElem hkl, bnum_snoc, List.getD_eq_getElem?_getD, List.getElem?_eq_getElem hkl]; rfl
      have hb1 : ((l.getD k false).toNat : Int) ≤ 1 := by have := bool_le (l.getD k false); omega
      generalize (l.getD k false).toNat = z at hc HS hb1
      have i0 : (0 : Int) ≤ (k : Int) := by omega
      have i1 : (k : Int) < (m : Int) := by omega
      clear e1
      go_wp2
      go_round
      case rel => exact ⟨k + 1, by omega, by go_num, by rw [HS.out]; go_num⟩
      case measure => simp [intOf]; omega
    · have hkn : k = n := by omega
      subst hkn
      have i0 : (0 : Int) ≤ (k : Int) := by omega
      have i1 : (k : Int) ≤ (m : Int) := by omega
      have i2 : (m : Int) ≤ (cap : Int) := by omega
      go_wp2
      go_quiet (fail)
      go_wp2
      all_goals try go_wp2
      all_goals go_ret3
      · have hck : cap = k := by assumption
        have H9 := H0.out
        rw [hck] at H9
        exact ⟨.slice ao (m - k) 0, rfl, by rw [bitsI_drop]; exact (H9.keep ((Only.refl (fun _ => False) _).drewN _) (fun _ _ f => f)).cut0 (by omega), (Only.refl _ _).drewN _, by cases ao <;> rfl⟩
      · exact ⟨.slice (ao.map (fun x => x.add k)) (m - k) (cap - k), rfl, by rw [bitsI_drop]; exact (H0.out.keep ((Only.refl (fun _ => False) _).drewN _) (fun _ _ f => f)).cut (by omega), (Only.refl _ _).drewN _, own_cut _ _ _ _ _ _⟩

theorem of_step (ys : List Int) (k r : Nat) (hk : k < ys.length) (hr : r < 8) : (allBits ys).take (8 * k + r + 1) = (allBits ys).take (8 * k + r) ++ [(ys.getD k 0).toNat.testBit (7 - r)] := by
  have hl : 8 * k + r < (allBits ys).length := by rw [allBits_length]; omega
  rw [List.take_succ_eq_append_getElem hl]
  congr 2
  have h1 := getD_bits ys k r hk hr
  rw [List.getD_eq_getElem?_getD, List.getElem?_eq_getElem hl] at h1
  simpa using h1
theorem bitsI_vals_snoc (l : List Bool) (b : Bool) : (bitsI (l ++ [b])).map (Value.int .i64) = (bitsI l).map (Value.int .i64) ++ [.int .i64 (b.toNat : Int)] := by simp [bitsI]

set_option maxHeartbeats 800000 in
set_option maxRecDepth 100000 in
/-- THE BITS OF BYTES, as the reference lists them. -/
theorem of_bs (v : Value) (ys : List Int) (w : World) (h : Bs .u8 w v ys) (hr : ∀ y ∈ ys, 0 ≤ y ∧ y ≤ 255) (hl : ys.length ≤ 1000000) :
    Calls Try.prog 32 #[v] w fun e w' => ∃ v', e = .returned v' ∧ w'.ownsRow w.heap.size 3 1 v' (allBits ys).length ((bitsI (allBits ys)).map (Value.int .i64)) ∧ Only (fun _ => False) w w' := by
  obtain ⟨i0, hi, hz0, hz1, hz2⟩ := info_parts Try.info3
  have H0 := hideIt h
  have HY := hideIt hr
  obtain ⟨ao, cap, hv, _⟩ := h
  obtain ⟨m, hm⟩ : ∃ m, m = ys.length := ⟨_, rfl⟩
  have HM := hideIt hm
  rw [← hm] at hv hl
  subst hv
  clear hm hr
  go_enter Try.func32, Try.ntmps32
  go_wp2
  go_loopw [3, 4] (fun o i wr => ∃ k : Nat, k ≤ m ∧ i = .int .i64 k ∧ wr.ownsRow w.heap.size 3 1 o (8 * k) ((bitsI ((allBits ys).take (8 * k))).map (Value.int .i64)) ∧ Below w.heap.size w wr) (fun _ i _ => m - (intOf i).toNat)
  case atStart => exact ⟨0, Nat.zero_le _, rfl, World.ownsRow_nil _ _ _ _, Below.refl _ _⟩
  case round =>
    obtain ⟨k, hk, rfl, hown, hbel⟩ := hrel
    by_cases hlt : k < m
    · have hlt' : k < ys.length := by have := HM.out; omega
      obtain ⟨b, off, cap', e1, hc⟩ := H0.out.at k hlt'
      have hbw : b < w.heap.size := World.block_lt_of_cell? w _ hc
      have ea : ao = some ⟨b, off, none⟩ := by simp at e1; exact e1.1
      subst ea
      clear e1
      have hyb : 0 ≤ ys.getD k 0 ∧ ys.getD k 0 ≤ 255 := by
        refine HY.out _ ?_
        rw [List.getD_eq_getElem?_getD, List.getElem?_eq_getElem hlt']; simp
      have ST := hideIt (fun r hr => of_step ys k r hlt' hr)
      have HC := hideIt hc
      clear hc
      have START := hideIt (And.intro hown hbel)
      clear hown hbel
      go_wp2
      go_loopw [3, 5] (fun o i wx => ∃ r : Nat, r ≤ 8 ∧ i = .int .i64 (7 - (r : Int)) ∧ wx.ownsRow w.heap.size 3 1 o (8 * k + r) ((bitsI ((allBits ys).take (8 * k + r))).map (Value.int .i64)) ∧ Below w.heap.size w wx) (fun _ i _ => (1 + intOf i).toNat)
      case atStart => exact ⟨0, Nat.zero_le _, rfl, START.out.1, START.out.2⟩
      case round =>
        obtain ⟨r, hr8, rfl, hown, hbel⟩ := hrel
        by_cases hr : r < 8
        · have hcx := (hbel.cell (p := ⟨b, off + k, none⟩) hbw).trans HC.out
          have SR := hideIt (ST.out r hr)
          have B8 := bit8_of (ys.getD k 0) (7 - r) hyb.1 hyb.2
          generalize ys.getD k 0 = y at hcx SR B8 hyb
          obtain ⟨c, hcc⟩ : ∃ c, c = y.toNat.testBit (7 - r) := ⟨_, rfl⟩
          rw [← hcc] at SR B8
          obtain ⟨t, ht⟩ : ∃ t : Nat, t = c.toNat := ⟨_, rfl⟩
          have ht1 : (t : Int) ≤ 1 := by have := bool_le c; omega
          rw [← ht] at B8
          have HT := hideIt ht
          have i0' : (0 : Int) ≤ (k : Int) := by omega
          have i1' : (k : Int) < (m : Int) := by omega
          have hsz := hbel.size
          clear hcc ht
          go_wp2_with (at_builtin; refine wpList_append_lies _ rfl _ _ _ rfl w.heap.size 3 i0 (.int .i64 0) 1 8 Try.underlying48 hi hz0 hz1 hz2 rfl (by omega) _ (8 * k + r) ((bitsI ((allBits ys).take (8 * k + r))).map (Value.int .i64)) rfl (hown.alloc _) ⟨wr.heap.size, 0, none⟩ 1 1 [.int .i64 t] rfl rfl ?c1 ?c2 (by omega) ?c3 ?c4 ?c5 (wr.heap.size + 1) (by simp) ?_)
          case c1 => exact cell_one_new _ _ _
          case c2 => intro u hu; simp at hu; subst hu; rfl
          case c3 => unfold maxLen; omega
          case c4 => omega
          case c5 => simp; omega
          intro g cap1 w1 hown1 hgrow hat hg1
          have hb1 : Below w.heap.size w w1 := (hbel.alloc hbel.size _).grown hgrow (by simp; omega) (fun q hq => (hown.lt q hq).1)
          have hown2 : w1.ownsRow w.heap.size 3 1 (.slice (some ⟨g, 0, none⟩) (8 * k + (r + 1)) cap1) (8 * k + (r + 1)) ((bitsI ((allBits ys).take (8 * k + (r + 1)))).map (Value.int .i64)) := by
            rw [← Nat.add_assoc, SR.out, bitsI_vals_snoc, ← HT.out]; exact hown1
          clear hown hown1 hgrow hat hbel hcx
          go_wp2
          go_roundw
          case rel => exact ⟨r + 1, by omega, by go_num, hown2, hb1⟩
          case measure => simp [intOf]; omega
        · have hr' : r = 8 := by omega
          subst hr'
          go_wp2
          go_roundw
          case rel => exact ⟨k + 1, by omega, by go_num, by rw [show 8 * (k + 1) = 8 * k + 8 by omega]; exact hown, hbel⟩
          case measure => simp [intOf]; omega
    · have hkm : k = m := by omega
      subst hkm
      go_wp2
      go_ret
      refine ⟨_, rfl, ?_, only_of_below hbel⟩
      have e := hown
      rw [List.take_of_length_le (by rw [allBits_length]; have := HM.out; omega)] at e
      rw [allBits_length, ← HM.out]
      exact e
end Go.Proofs.Ytgnaeajfajineaa
