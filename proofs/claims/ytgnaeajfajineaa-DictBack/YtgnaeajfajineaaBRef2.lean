/- Contracts of the reference for bits: Width, Put. -/
import Derived.Test.YtgnaeajfajineaaRWid
import Derived.Test.YtgnaeajfajineaaBRef
import Derived.Test.YtgnaeajfajineaaBItems
namespace Go.Proofs.Ytgnaeajfajineaa
open Go.RowKit


theorem rwidth_q (v : Int) (w : World) (h0 : 0 ≤ v) (h1 : v ≤ 18446744073709551615) :
    Calls Try.prog 41 #[.int .u64 v] w fun e w' => e = .returned (.int .i64 (wid v.toNat)) ∧ w' = w :=
  (rwidth_any v w h0 h1).mono fun _ _ ⟨a, b⟩ => ⟨a, b.symm⟩

set_option maxHeartbeats 400000 in
set_option maxRecDepth 100000 in
theorem rput_width (v : Value) (x width : Int) (w : World) (h : width < 0 ∨ 64 < width) :
    Calls Try.prog 25 #[v, .int .u64 x, .int .i64 width] w fun e w' => e = .returned (.tuple #[v, .int .i64 1]) ∧ w = w' := by
  rcases h with h | h
  · have d1 : decide (width < 0) = true := by simpa using h
    go_enter Try.func25, Try.ntmps25
    go_wp2
    go_ret2
    exact ⟨rfl, rfl⟩
  · have d1 : decide (width < 0) = false := by simp; omega
    have d2 : decide (64 < width) = true := by simpa using h
    go_enter Try.func25, Try.ntmps25
    go_wp2
    go_ret2
    exact ⟨rfl, rfl⟩

set_option maxHeartbeats 400000 in
set_option maxRecDepth 100000 in
theorem rput_big (v : Value) (x width : Int) (w : World) (h0 : 0 ≤ width) (h1 : width ≤ 64) (x0 : 0 ≤ x) (x1 : x ≤ 18446744073709551615) (hw : width < (wid x.toNat : Int)) :
    Calls Try.prog 25 #[v, .int .u64 x, .int .i64 width] w fun e w' => e = .returned (.tuple #[v, .int .i64 1]) ∧ w = w' := by
  have d1 : decide (width < 0) = false := by simp; omega
  have d2 : decide (64 < width) = false := by simp; omega
  go_enter Try.func25, Try.ntmps25
  go_wp2_with (go_at_call 41; refine (rwidth_any _ _ x0 x1).mono ?_; rintro e w' ⟨rfl, rfl⟩)
  go_ret2
  exact ⟨rfl, rfl⟩

theorem bits64_of (x : Int) (j : Nat) (x0 : 0 ≤ x) (x1 : x ≤ 18446744073709551615) : bits .and .u64 (x / 2 ^ j) 1 = ((x.toNat.testBit j).toNat : Int) := by
  obtain ⟨m, rfl⟩ := Int.eq_ofNat_of_zero_le x0
  have e : ((m : Int) / 2 ^ j) = ((m / 2 ^ j : Nat) : Int) := by simp
  have h := Nat.div_le_self m (2 ^ j)
  rw [e, show (1 : Int) = ((1 : Nat) : Int) from rfl, u64_and_nat _ _ (by omega) (by omega), nat_mask1, Int.toNat_natCast, Nat.testBit_eq_decide_div_mod_eq]
  by_cases h1 : m / 2 ^ j % 2 = 1
  · simp [h1]
  · have : m / 2 ^ j % 2 = 0 := by omega
    simp [this]

theorem bs_news {w : World} {ad : Addr} {m cap : Nat} {l : List Bool} (h : Bs .i64 w (.slice (some ad) m cap) (bitsI l)) : ∀ j u, ((bitsI l).map (Value.int .i64))[j]? = some u → w.cell? (ad.add j) = some u := by
  intro j u hu
  have hj : j < (bitsI l).length := by
    have := (List.getElem?_eq_some_iff.1 hu).1
    simpa using this
  obtain ⟨b, off, cap', e1, hc⟩ := h.at j hj
  simp at e1
  obtain ⟨rfl, _, _⟩ := e1
  have hadd : (⟨b, off, none⟩ : Addr).add j = ⟨b, off + j, none⟩ := by unfold Addr.add; split <;> simp_all
  rw [hadd, hc, ← hu]
  simp [List.getElem?_eq_getElem hj]
theorem put_fin (l : List Bool) (v n : Nat) : (l ++ bitsOf v n) = l ++ (bitsOf v n).take n := by
  rw [List.take_of_length_le (by rw [bitsOf_length]; omega)]

set_option maxHeartbeats 800000 in
set_option maxRecDepth 100000 in
theorem rput_bs (v : Value) (l : List Bool) (x width : Int) (w : World) (h : Bs .i64 w v (bitsI l)) (hnc : NoCap v) (hl : l.length ≤ 1000000) (h0 : 0 ≤ width) (h1 : width ≤ 64) (x0 : 0 ≤ x) (x1 : x ≤ 18446744073709551615) (hw : (wid x.toNat : Int) ≤ width) :
    Calls Try.prog 25 #[v, .int .u64 x, .int .i64 width] w fun e w' => ∃ v', e = .returned (.tuple #[v', .int .i64 0]) ∧ Bs .i64 w' v' (bitsI (l ++ bitsOf x.toNat width.toNat)) ∧ Only (fun _ => False) w w' ∧ (∀ q, v'.ownBlock = some q → w.heap.size ≤ q ∧ q < w'.heap.size) ∧ NoCap v' := by
  obtain ⟨n, rfl⟩ := Int.eq_ofNat_of_zero_le h0
  rw [Int.toNat_natCast]
  obtain ⟨i0, hi, hz0, hz1, hz2⟩ := info_parts Try.info3
  have d1 : decide ((n : Int) < 0) = false := by simp
  have d2 : decide (64 < (n : Int)) = false := by simp; omega
  have d3 : decide (n < wid x.toNat) = false := by simp; omega
  have ho := World.ownsRow_made (base := w.heap.size) (e := 3) (size := 1) w #[] 0 (Nat.le_refl _) (by unfold maxLen; omega) rfl
  have H0 := hideIt h
  obtain ⟨ao, cap, hv⟩ := (show ∃ ao cap, v = .slice ao l.length cap by obtain ⟨ao, cap, rfl, _⟩ := h; exact ⟨ao, cap, by rw [bitsI_length]⟩)
  obtain ⟨m, hm⟩ : ∃ m, m = l.length := ⟨_, rfl⟩
  have HM := hideIt hm
  rw [← hm] at hv hl
  subst hv
  clear hm h
  cases ao with
  | none =>
    have hc0 : cap = 0 := hnc m cap rfl
    have hm0 : m = 0 := by
      obtain ⟨ao', cap', e, _, hr⟩ := H0.out
      simp at e
      rcases hb : bitsI l with _ | ⟨a, t⟩
      · rw [hb] at e; simpa using e.2.1
      · obtain ⟨b, off, e2, _⟩ := hr (by rw [hb]; simp)
        rw [← e.1] at e2; cases e2
    subst hc0 hm0
    have hl0 : l = [] := List.eq_nil_of_length_eq_zero HM.out.symm
    have START : Hid ((w.alloc (.cells #[] 3)).ownsRow w.heap.size 3 1 (.slice (some ⟨w.heap.size, 0, none⟩) 0 0) 0 ((bitsI l).map (Value.int .i64)) ∧ Below w.heap.size w (w.alloc (.cells #[] 3)) ∧ Value.slice (some ⟨w.heap.size, 0, none⟩) 0 0 ≠ .slice none 0 0) := by
      refine ⟨?_, (Below.refl _ _).alloc (Nat.le_refl _) _, by simp⟩
      rw [hl0]; exact ho
    clear ho hl0
    go_enter Try.func25, Try.ntmps25
    go_wp2_with fail
    refine (rwidth_any _ _ x0 x1).mono ?_
    rintro e w' ⟨rfl, rfl⟩
    go_wp2
    go_loopw [8, 9] (fun o i wr => ∃ k : Nat, k ≤ n ∧ i = .int .i64 ((n : Int) - 1 - (k : Int)) ∧ wr.ownsRow w.heap.size 3 1 o k ((bitsI (l ++ (bitsOf x.toNat n).take k)).map (Value.int .i64)) ∧ Below w.heap.size w wr ∧ o ≠ .slice none 0 0) (fun _ i _ => (1 + intOf i).toNat)
    case atStart => exact ⟨0, Nat.zero_le _, by go_num, by have := START.out.1; simpa using this, START.out.2.1, START.out.2.2⟩
    case round =>
      obtain ⟨k, hk, rfl, hown, hbel, hnn⟩ := hrel
      by_cases hlt : k < n
      · have B8 := bits64_of x (n - 1 - k) x0 x1
        have TK := hideIt (bitsOf_take x.toNat n k hlt)
        obtain ⟨c, hcc⟩ : ∃ c, c = x.toNat.testBit (n - 1 - k) := ⟨_, rfl⟩
        rw [← hcc] at TK B8
        obtain ⟨t, ht⟩ : ∃ t : Nat, t = c.toNat := ⟨_, rfl⟩
        have ht1 : (t : Int) ≤ 1 := by have := bool_le c; omega
        rw [← ht] at B8
        have HT := hideIt ht
        have hsz := hbel.size
        clear hcc ht
        go_wp2_with (at_builtin; refine wpList_append_lies _ rfl _ _ _ rfl w.heap.size 3 i0 (.int .i64 0) 1 8 Try.underlying48 hi hz0 hz1 hz2 rfl (by omega) _ k ((bitsI (l ++ (bitsOf x.toNat n).take k)).map (Value.int .i64)) rfl (hown.alloc _) ⟨wr.heap.size, 0, none⟩ 1 1 [.int .i64 t] rfl rfl ?c1 ?c2 (by omega) ?c3 ?c4 ?c5 (wr.heap.size + 1) (by simp) ?_)
        case c1 => exact cell_one_new _ _ _
        case c2 => intro u hu; simp at hu; subst hu; rfl
        case c3 => unfold maxLen; omega
        case c4 => omega
        case c5 => simp; omega
        intro g cap1 w1 hown1 hgrow hat hg1
        have hb1 : Below w.heap.size w w1 := (hbel.alloc hbel.size _).grown hgrow (by simp; omega) (fun q hq => (hown.lt q hq).1)
        have hown2 : w1.ownsRow w.heap.size 3 1 (.slice (some ⟨g, 0, none⟩) (k + 1) cap1) (k + 1) ((bitsI (l ++ (bitsOf x.toNat n).take (k + 1))).map (Value.int .i64)) := by
          rw [TK.out, ← List.append_assoc, bitsI_vals_snoc, ← HT.out]; exact hown1
        clear hown hown1 hgrow hat hbel
        go_wp2
        go_roundw
        case rel => exact ⟨k + 1, by omega, by go_num, hown2, hb1, by simp⟩
        case measure => simp [intOf]; omega
      · have hkn : k = n := by omega
        subst hkn
        go_wp2
        go_ret2
        refine ⟨_, rfl, ?_, only_of_below hbel, fun q hq => hown.lt q hq, ?_⟩
        · rw [put_fin]
          refine Bs.of_own (lo := w.heap.size) (E := 3) ?_
          have e : (bitsI (l ++ (bitsOf x.toNat k).take k)).length = k := by rw [bitsI_length, List.length_append, List.length_take, bitsOf_length, ← HM.out]; omega
          rw [e]; exact hown
        · intro m' c' e
          rcases hown.2 with ⟨e0, _⟩ | ⟨g, cc, cur, e0, _⟩
          · exact absurd e0 hnn
          · rw [e0] at e; cases e
  | some ad =>
    go_enter Try.func25, Try.ntmps25
    go_wp2_with fail
    refine (rwidth_any _ _ x0 x1).mono ?_
    rintro e w' ⟨rfl, rfl⟩
    go_wp2_with (at_builtin; refine wpList_append_own_at _ rfl _ _ _ rfl w.heap.size 3 i0 (.int .i64 0) 1 8 Try.underlying48 hi hz0 hz1 hz2 rfl (by omega) (.slice (some ⟨w.heap.size, 0, none⟩) 0 0) 0 [] rfl ho ad m cap ((bitsI l).map (Value.int .i64)) rfl ?c0 ?c1 ?c2 ?c3 ?c4 ?c5 ?_)
    case c0 => rw [List.length_map, bitsI_length, ← HM.out]; omega
    case c1 =>
      intro j u hu
      have h0 := bs_news H0.out j u hu
      rw [World.cell?_of_block (Below.heap_alloc w _ _ (World.block_lt_of_cell? w _ h0))]; exact h0
    case c2 => exact oneCell_ints _ _
    case c3 => unfold maxLen; omega
    case c4 => omega
    case c5 => simp
    intro v' w1 hown1 hgrow hnn hat
    have START : Hid (w1.ownsRow w.heap.size 3 1 v' m ((bitsI l).map (Value.int .i64)) ∧ Below w.heap.size w w1 ∧ v' ≠ .slice none 0 0) := by
      refine ⟨by simpa using hown1, ((Below.refl _ _).alloc (Nat.le_refl _) _).grown hgrow (by simp) (fun q hq => ?_), hnn⟩
      simp [Value.ownBlock] at hq
      omega
    clear hown1 hgrow hnn hat ho
    go_wp2
    go_loopw [8, 9] (fun o i wr => ∃ k : Nat, k ≤ n ∧ i = .int .i64 ((n : Int) - 1 - (k : Int)) ∧ wr.ownsRow w.heap.size 3 1 o (m + k) ((bitsI (l ++ (bitsOf x.toNat n).take k)).map (Value.int .i64)) ∧ Below w.heap.size w wr ∧ o ≠ .slice none 0 0) (fun _ i _ => (1 + intOf i).toNat)
    case atStart => exact ⟨0, Nat.zero_le _, by go_num, by have := START.out.1; simpa using this, START.out.2.1, START.out.2.2⟩
    case round =>
      obtain ⟨k, hk, rfl, hown, hbel, hnn⟩ := hrel
      by_cases hlt : k < n
      · have B8 := bits64_of x (n - 1 - k) x0 x1
        have TK := hideIt (bitsOf_take x.toNat n k hlt)
        obtain ⟨c, hcc⟩ : ∃ c, c = x.toNat.testBit (n - 1 - k) := ⟨_, rfl⟩
        rw [← hcc] at TK B8
        obtain ⟨t, ht⟩ : ∃ t : Nat, t = c.toNat := ⟨_, rfl⟩
        have ht1 : (t : Int) ≤ 1 := by have := bool_le c; omega
        rw [← ht] at B8
        have HT := hideIt ht
        have hsz := hbel.size
        clear hcc ht
        go_wp2_with (at_builtin; refine wpList_append_lies _ rfl _ _ _ rfl w.heap.size 3 i0 (.int .i64 0) 1 8 Try.underlying48 hi hz0 hz1 hz2 rfl (by omega) _ (m + k) ((bitsI (l ++ (bitsOf x.toNat n).take k)).map (Value.int .i64)) rfl (hown.alloc _) ⟨wr.heap.size, 0, none⟩ 1 1 [.int .i64 t] rfl rfl ?c1 ?c2 (by omega) ?c3 ?c4 ?c5 (wr.heap.size + 1) (by simp) ?_)
        case c1 => exact cell_one_new _ _ _
        case c2 => intro u hu; simp at hu; subst hu; rfl
        case c3 => unfold maxLen; omega
        case c4 => omega
        case c5 => simp; omega
        intro g cap1 w1 hown1 hgrow hat hg1
        have hb1 : Below w.heap.size w w1 := (hbel.alloc hbel.size _).grown hgrow (by simp; omega) (fun q hq => (hown.lt q hq).1)
        have hown2 : w1.ownsRow w.heap.size 3 1 (.slice (some ⟨g, 0, none⟩) (m + (k + 1)) cap1) (m + (k + 1)) ((bitsI (l ++ (bitsOf x.toNat n).take (k + 1))).map (Value.int .i64)) := by
          rw [← Nat.add_assoc, TK.out, ← List.append_assoc, bitsI_vals_snoc, ← HT.out]; exact hown1
        clear hown hown1 hgrow hat hbel
        go_wp2
        go_roundw
        case rel => exact ⟨k + 1, by omega, by go_num, hown2, hb1, by simp⟩
        case measure => simp [intOf]; omega
      · have hkn : k = n := by omega
        subst hkn
        go_wp2
        go_ret2
        refine ⟨_, rfl, ?_, only_of_below hbel, fun q hq => hown.lt q hq, ?_⟩
        · rw [put_fin]
          refine Bs.of_own (lo := w.heap.size) (E := 3) ?_
          have e : (bitsI (l ++ (bitsOf x.toNat k).take k)).length = m + k := by rw [bitsI_length, List.length_append, List.length_take, bitsOf_length, ← HM.out]; omega
          rw [e]; exact hown
        · intro m' c' e
          rcases hown.2 with ⟨e0, _⟩ | ⟨g, cc, cur, e0, _⟩
          · exact absurd e0 hnn
          · rw [e0] at e; cases e
end Go.Proofs.Ytgnaeajfajineaa
