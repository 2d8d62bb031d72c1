/- Several texts in one: BRef3, Rf, BRBytes, Re9. -/
import Derived.Test.YtifbdjhbeanfaaaDoorG2
import Derived.Test.YtifbdjhbeanfaaaDoorG8
import Derived.BigRegion
import Derived.Test.YtifbdjhbeanfaaaDoorG6

/- The document's answer for bits: Put, its row owned. -/
namespace Go.Proofs.YtifbdjhbeanfaaaDoor
open Go.RowKit

set_option maxHeartbeats 800000 in
set_option maxRecDepth 100000 in
theorem rput_own (v : Value) (l : List Bool) (x width : Int) (w : World) (h : Bs .i64 w v (bitsI l)) (hnc : NoCap v) (hl : l.length ≤ 1000000) (h0 : 0 ≤ width) (h1 : width ≤ 64) (x0 : 0 ≤ x) (x1 : x ≤ 18446744073709551615) (hw : (wid x.toNat : Int) ≤ width) :
    Calls Tryd.prog 44 #[v, .int .u64 x, .int .i64 width] w fun e w' => ∃ v', e = .returned (.tuple #[v', .int .i64 0]) ∧ w'.ownsRow w.heap.size 3 1 v' (l ++ bitsOf x.toNat width.toNat).length ((bitsI (l ++ bitsOf x.toNat width.toNat)).map (Value.int .i64)) ∧ Only (fun _ => False) w w' := by
  obtain ⟨n, rfl⟩ := Int.eq_ofNat_of_zero_le h0
  rw [Int.toNat_natCast]
  obtain ⟨i0, hi, hz0, hz1, hz2⟩ := info_parts Tryd.info3
  have d1 : decide ((n : Int) < 0) = false := by simp
  have d2 : decide (64 < (n : Int)) = false := by simp; omega
  have d3 : decide (n < wid x.toNat) = false := by simp; omega
  have ho := World.ownsRow_made (base := w.heap.size) (e := 3) (size := 1) w #[] 0 (Nat.le_refl _) (by unfold maxLen; omega) rfl
  have H0 := hideIt h
  obtain ⟨ao, cap, hv⟩ := (show ∃ ao cap, v = .slice ao l.length cap by obtain ⟨ao, cap, rfl, _⟩ := h; exact ⟨ao, cap, by rw [bitsI_length]⟩)
  obtain ⟨m, hm⟩ : ∃ m, m = l.length := ⟨_, rfl⟩
  have HM := hideIt hm
  rw [← hm] at hv hl
  subst hv
  clear hm h
  cases ao with
  | none =>
    have hc0 : cap = 0 := hnc m cap rfl
    have hm0 : m = 0 := by
      obtain ⟨ao', cap', e, _, hr⟩ := H0.out
      simp at e
      rcases hb : bitsI l with _ | ⟨a, t⟩
      · rw [hb] at e; simpa using e.2.1
      · obtain ⟨b, off, e2, _⟩ := hr (by rw [hb]; simp)
        rw [← e.1] at e2; cases e2
    subst hc0 hm0
    have hl0 : l = [] := List.eq_nil_of_length_eq_zero HM.out.symm
    have START : Hid ((w.alloc (.cells #[] 3)).ownsRow w.heap.size 3 1 (.slice (some ⟨w.heap.size, 0, none⟩) 0 0) 0 ((bitsI l).map (Value.int .i64)) ∧ Below w.heap.size w (w.alloc (.cells #[] 3)) ∧ Value.slice (some ⟨w.heap.size, 0, none⟩) 0 0 ≠ .slice none 0 0) := by
      refine ⟨?_, (Below.refl _ _).alloc (Nat.le_refl _) _, by simp⟩
      rw [hl0]; exact ho
    clear ho hl0
    go_enter Tryd.func44, Tryd.ntmps44
    go_wp2_with fail
    refine (rwidth_any _ _ x0 x1).mono ?_
    rintro e w' ⟨rfl, rfl⟩
    go_wp2
    go_loopw [8, 9] (fun o i wr => ∃ k : Nat, k ≤ n ∧ i = .int .i64 ((n : Int) - 1 - (k : Int)) ∧ wr.ownsRow w.heap.size 3 1 o k ((bitsI (l ++ (bitsOf x.toNat n).take k)).map (Value.int .i64)) ∧ Below w.heap.size w wr ∧ o ≠ .slice none 0 0) (fun _ i _ => (1 + intOf i).toNat)
    case atStart => exact ⟨0, Nat.zero_le _, by go_num, by have := START.out.1; simpa using this, START.out.2.1, START.out.2.2⟩
    case round =>
      obtain ⟨k, hk, rfl, hown, hbel, hnn⟩ := hrel
      by_cases hlt : k < n
      · have B8 := bits64_of x (n - 1 - k) x0 x1
        have TK := hideIt (bitsOf_take x.toNat n k hlt)
        obtain ⟨c, hcc⟩ : ∃ c, c = x.toNat.testBit (n - 1 - k) := ⟨_, rfl⟩
        rw [← hcc] at TK B8
        obtain ⟨t, ht⟩ : ∃ t : Nat, t = c.toNat := ⟨_, rfl⟩
        have ht1 : (t : Int) ≤ 1 := by have := bool_le c; omega
        rw [← ht] at B8
        have HT := hideIt ht
        have hsz := hbel.size
        clear hcc ht
        go_wp2_with (at_builtin; refine wpList_append_lies _ rfl _ _ _ rfl w.heap.size 3 i0 (.int .i64 0) 1 8 Tryd.underlying68 hi hz0 hz1 hz2 rfl (by omega) _ k ((bitsI (l ++ (bitsOf x.toNat n).take k)).map (Value.int .i64)) rfl (hown.alloc _) ⟨wr.heap.size, 0, none⟩ 1 1 [.int .i64 t] rfl rfl ?c1 ?c2 (by omega) ?c3 ?c4 ?c5 (wr.heap.size + 1) (by simp) ?_)
        case c1 => exact cell_one_new _ _ _
        case c2 => intro u hu; simp at hu; subst hu; rfl
        case c3 => unfold maxLen; omega
        case c4 => omega
        case c5 => simp; omega
        intro g cap1 w1 hown1 hgrow hat hg1
        have hb1 : Below w.heap.size w w1 := (hbel.alloc hbel.size _).grown hgrow (by simp; omega) (fun q hq => (hown.lt q hq).1)
        have hown2 : w1.ownsRow w.heap.size 3 1 (.slice (some ⟨g, 0, none⟩) (k + 1) cap1) (k + 1) ((bitsI (l ++ (bitsOf x.toNat n).take (k + 1))).map (Value.int .i64)) := by
          rw [TK.out, ← List.append_assoc, bitsI_vals_snoc, ← HT.out]; exact hown1
        clear hown hown1 hgrow hat hbel
        go_wp2
        go_roundw
        case rel => exact ⟨k + 1, by omega, by go_num, hown2, hb1, by simp⟩
        case measure => simp [intOf]; omega
      · have hkn : k = n := by omega
        subst hkn
        go_wp2
        go_ret2
        refine ⟨_, rfl, ?_, only_of_below hbel⟩
        rw [put_fin]
        have e : (l ++ (bitsOf x.toNat k).take k).length = k := by rw [List.length_append, List.length_take, bitsOf_length, ← HM.out]; omega
        rw [e]; exact hown
  | some ad =>
    go_enter Tryd.func44, Tryd.ntmps44
    go_wp2_with fail
    refine (rwidth_any _ _ x0 x1).mono ?_
    rintro e w' ⟨rfl, rfl⟩
    go_wp2_with (at_builtin; refine wpList_append_own_at _ rfl _ _ _ rfl w.heap.size 3 i0 (.int .i64 0) 1 8 Tryd.underlying68 hi hz0 hz1 hz2 rfl (by omega) (.slice (some ⟨w.heap.size, 0, none⟩) 0 0) 0 [] rfl ho ad m cap ((bitsI l).map (Value.int .i64)) rfl ?c0 ?c1 ?c2 ?c3 ?c4 ?c5 ?_)
    case c0 => rw [List.length_map, bitsI_length, ← HM.out]; omega
    case c1 =>
      intro j u hu
      have h0 := bs_news H0.out j u hu
      rw [World.cell?_of_block (Below.heap_alloc w _ _ (World.block_lt_of_cell? w _ h0))]; exact h0
    case c2 => exact oneCell_ints _ _
    case c3 => unfold maxLen; omega
    case c4 => omega
    case c5 => simp
    intro v' w1 hown1 hgrow hnn hat
    have START : Hid (w1.ownsRow w.heap.size 3 1 v' m ((bitsI l).map (Value.int .i64)) ∧ Below w.heap.size w w1 ∧ v' ≠ .slice none 0 0) := by
      refine ⟨by simpa using hown1, ((Below.refl _ _).alloc (Nat.le_refl _) _).grown hgrow (by simp) (fun q hq => ?_), hnn⟩
      simp [Value.ownBlock] at hq
      omega
    clear hown1 hgrow hnn hat ho
    go_wp2
    go_loopw [8, 9] (fun o i wr => ∃ k : Nat, k ≤ n ∧ i = .int .i64 ((n : Int) - 1 - (k : Int)) ∧ wr.ownsRow w.heap.size 3 1 o (m + k) ((bitsI (l ++ (bitsOf x.toNat n).take k)).map (Value.int .i64)) ∧ Below w.heap.size w wr ∧ o ≠ .slice none 0 0) (fun _ i _ => (1 + intOf i).toNat)
    case atStart => exact ⟨0, Nat.zero_le _, by go_num, by have := START.out.1; simpa using this, START.out.2.1, START.out.2.2⟩
    case round =>
      obtain ⟨k, hk, rfl, hown, hbel, hnn⟩ := hrel
      by_cases hlt : k < n
      · have B8 := bits64_of x (n - 1 - k) x0 x1
        have TK := hideIt (bitsOf_take x.toNat n k hlt)
        obtain ⟨c, hcc⟩ : ∃ c, c = x.toNat.testBit (n - 1 - k) := ⟨_, rfl⟩
        rw [← hcc] at TK B8
        obtain ⟨t, ht⟩ : ∃ t : Nat, t = c.toNat := ⟨_, rfl⟩
        have ht1 : (t : Int) ≤ 1 := by have := bool_le c; omega
        rw [← ht] at B8
        have HT := hideIt ht
        have hsz := hbel.size
        clear hcc ht
        go_wp2_with (at_builtin; refine wpList_append_lies _ rfl _ _ _ rfl w.heap.size 3 i0 (.int .i64 0) 1 8 Tryd.underlying68 hi hz0 hz1 hz2 rfl (by omega) _ (m + k) ((bitsI (l ++ (bitsOf x.toNat n).take k)).map (Value.int .i64)) rfl (hown.alloc _) ⟨wr.heap.size, 0, none⟩ 1 1 [.int .i64 t] rfl rfl ?c1 ?c2 (by omega) ?c3 ?c4 ?c5 (wr.heap.size + 1) (by simp) ?_)
        case c1 => exact cell_one_new _ _ _
        case c2 => intro u hu; simp at hu; subst hu; rfl
        case c3 => unfold maxLen; omega
        case c4 => omega
        case c5 => simp; omega
        intro g cap1 w1 hown1 hgrow hat hg1
        have hb1 : Below w.heap.size w w1 := (hbel.alloc hbel.size _).grown hgrow (by simp; omega) (fun q hq => (hown.lt q hq).1)
        have hown2 : w1.ownsRow w.heap.size 3 1 (.slice (some ⟨g, 0, none⟩) (m + (k + 1)) cap1) (m + (k + 1)) ((bitsI (l ++ (bitsOf x.toNat n).take (k + 1))).map (Value.int .i64)) := by
          rw [← Nat.add_assoc, TK.out, ← List.append_assoc, bitsI_vals_snoc, ← HT.out]; exact hown1
        clear hown hown1 hgrow hat hbel
        go_wp2
        go_roundw
        case rel => exact ⟨k + 1, by omega, by go_num, hown2, hb1, by simp⟩
        case measure => simp [intOf]; omega
      · have hkn : k = n := by omega
        subst hkn
        go_wp2
        go_ret2
        refine ⟨_, rfl, ?_, only_of_below hbel⟩
        rw [put_fin]
        have e : (l ++ (bitsOf x.toNat k).take k).length = m + k := by rw [List.length_append, List.length_take, bitsOf_length, ← HM.out]; omega
        rw [e]; exact hown
end Go.Proofs.YtifbdjhbeanfaaaDoor

/- The document's answer for patterns: lead, trail, put. -/
namespace Go.Proofs.YtifbdjhbeanfaaaDoor
open Go.RowKit

set_option maxHeartbeats 400000 in
theorem rlead_any (x : Nat) (w : World) (hx : x < 18446744073709551616) :
    Calls Tryd.prog 49 #[.int .u64 x] w fun e w' => e = .returned (.int .i64 (ldz x : Nat)) ∧ w = w' := by
  have W := hideIt (rwidth_any (x : Int) w (by omega) (by omega))
  rw [Int.toNat_natCast] at W
  have hw := wid_le64 x hx
  have hld : Hid (ldz x = min (64 - wid x) 31) := rfl
  generalize wid x = q at *
  generalize ldz x = a at *
  go_enter Tryd.func49, Tryd.ntmps49
  go_wp2_with fail
  refine W.out.mono ?_
  rintro e w1 ⟨rfl, rfl⟩
  go_wp2
  all_goals go_ret
  all_goals
    refine ⟨?_, rfl⟩
    have := hld.out
    exact ret_int (by omega)
theorem tz_half {x : Nat} (h0 : 0 < x) (hx : x < 18446744073709551616) (he : x % 2 = 0) : tz x = tz (x / 2) + 1 := by
  have h1 : tz x = tzF 63 (x / 2) + 1 := by unfold tz; rw [tzF, if_pos he]
  have h2 : tzF 63 (x / 2) = tz (x / 2) := by
    have hc : ∀ (f y : Nat), 0 < y → y < 2 ^ f → tzF f y = tzF (f + 1) y := by
      intro f
      induction f with
      | zero => intro y h1 h2; simp at h2; omega
      | succ f ih =>
        intro y h1 h2
        rw [tzF, tzF]
        by_cases h : y % 2 = 0
        · rw [if_pos h, if_pos h, ih (y / 2) (by omega) (by rw [Nat.pow_succ] at h2; omega)]
        · rw [if_neg h, if_neg h]
    exact hc 63 (x / 2) (by omega) (by have : (2 : Nat) ^ 63 = 9223372036854775808 := by decide
                                       omega)
  rw [h1, h2]
theorem tz_odd {x : Nat} (he : x % 2 ≠ 0) : tz x = 0 := by unfold tz; rw [tzF, if_neg he]
theorem tz_lt {x : Nat} (h0 : 0 < x) (hx : x < 18446744073709551616) : tz x < 64 := tzF_lt 64 x h0 (by rw [p64]; exact hx)
set_option maxHeartbeats 400000 in
theorem rtrail_any (x : Nat) (w : World) (h0 : 0 < x) (hx : x < 18446744073709551616) :
    Calls Tryd.prog 48 #[.int .u64 x] w fun e w' => e = .returned (.int .i64 (tz x : Nat)) ∧ w = w' := by
  obtain ⟨t, ht⟩ : ∃ t, t = tz x := ⟨_, rfl⟩
  have htl := tz_lt h0 hx
  rw [← ht] at htl ⊢
  have HT := hideIt ht
  clear ht
  go_enter Tryd.func48, Tryd.ntmps48
  go_wp2
  go_loop [0, 3] (fun a i => ∃ y n : Nat, a = .int .u64 y ∧ i = .int .i64 n ∧ 0 < y ∧ y < 18446744073709551616 ∧ n + tz y = t) (fun a _ => (intOf a).toNat)
  case atStart => exact ⟨x, 0, rfl, rfl, h0, hx, by rw [HT.out]; omega⟩
  case round =>
    clear HT
    obtain ⟨y, n, rfl, rfl, y0, y1, hn⟩ := hrel
    have HN := hideIt hn
    have hnt : n ≤ t := by omega
    clear hn
    by_cases he : y % 2 = 0
    · have de : ((y : Int) % 2 == 0) = true := by simp; omega
      have hz : Hid (n + 1 + tz (y / 2) = t) := by have := tz_half y0 y1 he; have := HN.out; simp only [Hid]; omega
      clear HN
      go_wp2
      go_round
      case rel => exact ⟨y / 2, n + 1, by congr 1, by congr 1, by omega, by omega, hz.out⟩
      case measure => simp [intOf]; omega
    · have de : ((y : Int) % 2 == 0) = false := by rw [beq_eq_false_iff_ne]; omega
      have hz : n = t := by have := tz_odd he; have := HN.out; omega
      clear HN
      subst hz
      go_wp2
      go_ret
      exact ⟨rfl, rfl⟩
/-- bits behind others -/
theorem rput9 (v : Value) (l : List Bool) (x : Int) (n q : Nat) (w : World) (h : Bs .i64 w v (bitsI l)) (hnc : NoCap v) (hl : l.length ≤ 1000000) (e : x = (n : Int)) (hn : n < 18446744073709551616) (hq : q ≤ 64) (hw : wid n ≤ q) :
    Calls Tryd.prog 46 #[v, .int .u64 x, .int .i64 q] w fun e w' => ∃ v', e = .returned v' ∧ w'.ownsRow w.heap.size 3 1 v' (l ++ bitsOf n q).length ((bitsI (l ++ bitsOf n q)).map (Value.int .i64)) ∧ Only (fun _ => False) w w' := by
  subst e
  have P := rput_own v l n q w h hnc hl (by omega) (by omega) (by omega) (by omega) (by simpa using hw)
  simp only [Int.toNat_natCast] at P
  have P := hideIt P
  clear h hnc
  obtain ⟨L, hL⟩ : ∃ L, L = l ++ bitsOf n q := ⟨_, rfl⟩
  rw [← hL] at P ⊢
  clear hL
  go_enter Tryd.func46, Tryd.ntmps46
  go_wp2_with fail
  refine P.out.mono ?_
  rintro e w1 ⟨v1, rfl, own, on⟩
  have OW := hideIt own
  have ON := hideIt on
  clear own on P
  go_wp2
  go_ret
  exact ⟨v1, rfl, OW.out, ON.out⟩
theorem bs_bits {w : World} {lo : Nat} {E : TypeId} {v : Value} {l : List Bool} (h : w.ownsRow lo E 1 v l.length ((bitsI l).map (Value.int .i64))) : Bs .i64 w v (bitsI l) := Bs.of_own (lo := lo) (E := E) (by rw [bitsI_length]; exact h)
end Go.Proofs.YtifbdjhbeanfaaaDoor

/- Contract of the reference for bits: Bytes. -/
namespace Go.Proofs.YtifbdjhbeanfaaaDoor
open Go.RowKit


theorem pb8_next (l : List Bool) (k : Nat) (hk : k < l.length) : pb8 (l.take (k + 1)) = ((if k % 8 = 0 then pb8 (l.take k) ++ [0] else pb8 (l.take k))).set (k / 8) ((lastB (l.take k) : Int) * 2 + ((l.getD k false).toNat : Int)) := by
  have hl : (l.take k).length = k := by rw [List.length_take]; omega
  have h := pb8_set (l.take k) (l.getD k false)
  rw [hl] at h
  rw [List.take_succ_eq_append_getElem hk, h, List.getD_eq_getElem?_getD, List.getElem?_eq_getElem hk]; rfl
theorem nb_next (l : List Bool) (k : Nat) (hk : k < l.length) : nb (l.take (k + 1)) = if k % 8 = 0 then nb (l.take k) + 1 else nb (l.take k) := by
  unfold nb
  rw [List.length_take, List.length_take]
  split <;> omega
theorem nb_take (l : List Bool) (k : Nat) (hk : k ≤ l.length) : nb (l.take k) = (k + 7) / 8 := by
  unfold nb; rw [List.length_take]; congr 2; omega

theorem pb8_zero (l : List Bool) (t : Nat) (h : (l.length + t) % 8 ≠ 0) : pb8 (l ++ List.replicate (t + 1) false) = (pb8 (l ++ List.replicate t false)).set ((l.length + t) / 8) ((lastB (l ++ List.replicate t false) : Int) * 2) := by
  have hl : (l ++ List.replicate t false).length = l.length + t := by simp
  have h1 := pb8_set (l ++ List.replicate t false) false
  rw [hl, if_neg h] at h1
  rw [List.replicate_succ', ← List.append_assoc, ← h1]
  simp
theorem set_vals (xs : List Int) (j : Nat) (a : Int) : (xs.set j a).map (Value.int .u8) = (xs.map (Value.int .u8)).set j (.int .u8 a) := by simp [List.map_set]

set_option maxHeartbeats 1600000 in
set_option maxRecDepth 100000 in
theorem brbytes_bs (v : Value) (l : List Bool) (w : World) (h : Bs .i64 w v (bitsI l)) (hl : l.length ≤ 1000000) :
    Calls Tryd.prog 45 #[v] w fun e w' => ∃ v', e = .returned v' ∧ w'.ownsRow w.heap.size 5 1 v' (bytesI l).length ((bytesI l).map (Value.int .u8)) ∧ Only (fun _ => False) w w' := by
  obtain ⟨i0, hi, hz0, hz1, hz2⟩ := info_parts Tryd.info5
  have H0 := hideIt h
  obtain ⟨ao, cap, hv⟩ := (show ∃ ao cap, v = .slice ao l.length cap by obtain ⟨ao, cap, rfl, _⟩ := h; exact ⟨ao, cap, by rw [bitsI_length]⟩)
  obtain ⟨m, hm⟩ : ∃ m, m = l.length := ⟨_, rfl⟩
  have HM := hideIt hm
  rw [← hm] at hv hl
  subst hv
  clear hm h
  go_enter Tryd.func45, Tryd.ntmps45
  go_wp2
  go_loopw [3, 4] (fun o i wr => ∃ k : Nat, k ≤ m ∧ i = .int .i64 k ∧ wr.ownsRow w.heap.size 5 1 o ((k + 7) / 8) ((pb8 (l.take k)).map (Value.int .u8)) ∧ Below w.heap.size w wr) (fun _ i _ => m - (intOf i).toNat)
  case atStart => exact ⟨0, Nat.zero_le _, rfl, by simpa [pb8, nb] using World.ownsRow_nil w w.heap.size 5 1, Below.refl _ _⟩
  case round =>
    obtain ⟨k, hk, rfl, hown, hbel⟩ := hrel
    by_cases hlt : k < m
    · have hlt' : k < l.length := by have := HM.out; omega
      obtain ⟨b, off, cap', e1, hc⟩ := H0.out.at k (by rw [bitsI_length]; exact hlt')
      have hbw : b < w.heap.size := World.block_lt_of_cell? w _ hc
      have ea : ao = some ⟨b, off, none⟩ := by simp at e1; exact e1.1
      subst ea
      clear e1
      rw [bitsI_getD] at hc
      have PN := hideIt (pb8_next l k hlt')
      obtain ⟨t, ht⟩ : ∃ t : Nat, t = (l.getD k false).toNat := ⟨_, rfl⟩
      have ht1 : (t : Int) ≤ 1 := by have := bool_le (l.getD k false); omega
      rw [← ht] at hc PN
      obtain ⟨q, hq⟩ : ∃ q : Nat, q = lastB (l.take k) := ⟨_, rfl⟩
      have hq1 : (q : Int) ≤ 127 := by have := lastB_lt (l.take k); omega
      rw [← hq] at PN
      have HQ := hideIt hq
      have HC := hideIt hc
      have hsz := hbel.size
      have hlk : (l.take k).length = k := by rw [List.length_take]; omega
      have HLK := hideIt hlk
      clear ht hq hc hlk
      by_cases h8 : k % 8 = 0
      · have hr : ((k : Int) % 8 == 0) = true := by rw [beq_iff_eq]; omega
        have hq0 : Hid (q = 0) := by simp only [Hid]; rw [HQ.out]; exact lastB_new _ (by rw [HLK.out]; exact h8)
        go_wp2_with (at_builtin; refine wpList_append_lies _ rfl _ _ _ rfl w.heap.size 5 i0 (.int .u8 0) 1 1 Tryd.underlying24 hi hz0 hz1 hz2 rfl (by omega) _ ((k + 7) / 8) ((pb8 (l.take k)).map (Value.int .u8)) rfl (hown.alloc _) ⟨wr.heap.size, 0, none⟩ 1 1 [.int .u8 0] rfl rfl ?c1 ?c2 (by omega) ?c3 ?c4 ?c5 (wr.heap.size + 1) (by simp) ?_)
        case c1 => exact cell_one_new _ _ _
        case c2 => intro u hu; simp at hu; subst hu; rfl
        case c3 => unfold maxLen; omega
        case c4 => omega
        case c5 => simp; omega
        intro g cap1 w1 hown1 hgrow hat hg1
        have hb1 : Below w.heap.size w w1 := (hbel.alloc hbel.size _).grown hgrow (by simp; omega) (fun q hq => (hown.lt q hq).1)
        have hcx := (hb1.cell (p := ⟨b, off + k, none⟩) hbw).trans HC.out
        have hg0 : w.heap.size ≤ g := (hown1.lt g rfl).1
        have hne : b ≠ g := by omega
        have hrow : w1.cell? ⟨g, k / 8, none⟩ = some (.int .u8 0) := by
          rw [hown1.cellAt (k / 8) (by omega)]
          have : (List.map (Value.int IntKind.u8) (pb8 (l.take k))).length = k / 8 := by rw [List.length_map, pb8_length, nb_take l k (by omega)]; omega
          rw [List.getElem?_append_right (by omega)]; simp [this]
        have hfr : w1.frozen? ⟨g, k / 8, none⟩ = false := hown1.frozenAt _
        have hi0 : (0 : Int) ≤ (k : Int) / 8 := by omega
        have hi1 : (k : Int) / 8 < (((k + 7) / 8 + 1 : Nat) : Int) := by omega
        have i0' : (0 : Int) ≤ (k : Int) := by omega
        have i1' : (k : Int) < (m : Int) := by omega
        have FIN := hideIt (And.intro hown1 hb1)
        clear hown hown1 hgrow hat hbel hb1
        go_wp2
        go_region
        all_goals go_wp2
        all_goals go_roundw
        case rel =>
          refine ⟨k + 1, by omega, by go_num, ?_, (FIN.out.2.setCell (p := ⟨g, k / 8, none⟩) hg0 _).drew⟩
          have o2 := (FIN.out.1.stored (k / 8) (.int .u8 (t : Int))).1.drew
          rw [show (k + 1 + 7) / 8 = (k + 7) / 8 + 1 by omega, PN.out, if_pos h8, hq0.out, set_vals]
          simpa using o2
        case measure => simp [intOf]; omega
      · have hr : ((k : Int) % 8 == 0) = false := by rw [beq_eq_false_iff_ne]; omega
        obtain ⟨g, cap1, ho, hg0, hg1⟩ := hown.form (by omega)
        subst ho
        have hcx := (hbel.cell (p := ⟨b, off + k, none⟩) hbw).trans HC.out
        have hne : b ≠ g := by omega
        have hrow : wr.cell? ⟨g, k / 8, none⟩ = some (.int .u8 q) := by
          rw [hown.cellAt (k / 8) (by omega), List.getElem?_map]
          have := pb8_at (l.take k) (by rw [HLK.out]; exact h8)
          rw [HLK.out] at this
          rw [this, ← HQ.out]; rfl
        have hfr : wr.frozen? ⟨g, k / 8, none⟩ = false := hown.frozenAt _
        have hi0 : (0 : Int) ≤ (k : Int) / 8 := by omega
        have hi1 : (k : Int) / 8 < (((k + 7) / 8 : Nat) : Int) := by omega
        have i0' : (0 : Int) ≤ (k : Int) := by omega
        have i1' : (k : Int) < (m : Int) := by omega
        have FIN := hideIt (And.intro hown hbel)
        clear hown hbel
        go_wp2
        go_region
        all_goals go_wp2
        all_goals go_roundw
        case rel =>
          refine ⟨k + 1, by omega, by go_num, ?_, (FIN.out.2.setCell (p := ⟨g, k / 8, none⟩) hg0 _).drew⟩
          have o2 := (FIN.out.1.stored (k / 8) (.int .u8 ((q : Int) * 2 + t))).1.drew
          rw [show (k + 1 + 7) / 8 = (k + 7) / 8 by omega, PN.out, if_neg h8, set_vals]
          exact o2
        case measure => simp [intOf]; omega
    · have hkm : k = m := by omega
      subst hkm
      have START := hideIt (And.intro hown hbel)
      clear hown hbel hk hlt
      go_wp2
      go_loopw [5] (fun i wx => ∃ t : Nat, i = .int .i64 ((k : Int) + t) ∧ (k + t + 7) / 8 = (k + 7) / 8 ∧ wx.ownsRow w.heap.size 5 1 u3 ((k + 7) / 8) ((pb8 (l ++ List.replicate t false)).map (Value.int .u8)) ∧ Below w.heap.size w wx) (fun i _ => 8 * ((k + 7) / 8) - (intOf i).toNat)
      case atStart =>
        refine ⟨0, by go_num, rfl, ?_, START.out.2⟩
        have e := START.out.1
        rw [List.take_of_length_le (by have := HM.out; omega)] at e
        rw [List.replicate_zero, List.append_nil]; exact e
      case round =>
        obtain ⟨t, rfl, hnb, hown, hbel⟩ := hrel
        clear START
        have HNB := hideIt hnb
        have htb : t ≤ 7 := by omega
        clear hnb
        by_cases h8 : (k + t) % 8 = 0
        · have hr : (((k : Int) + t) % 8 != 0) = false := by rw [bne_eq_false_iff_eq]; omega
          go_wp2
          go_ret
          have hlt : (l ++ List.replicate t false).length % 8 = 0 := by rw [List.length_append, List.length_replicate, ← HM.out]; exact h8
          have hn2 : nb (l ++ List.replicate t false) = nb l := by
            unfold nb; rw [List.length_append, List.length_replicate, ← HM.out]; exact HNB.out
          refine ⟨_, rfl, ?_, only_of_below hbel⟩
          rw [pb8_full _ hlt, bytesI_pad l t hn2] at hown
          rw [bytesI_length]
          have e : nb l = (k + 7) / 8 := by unfold nb; rw [← HM.out]
          rw [e]; exact hown
        · have hr : (((k : Int) + t) % 8 != 0) = true := by rw [bne_iff_ne]; omega
          obtain ⟨g, cap1, ho, hg0, hg1⟩ := hown.form (by have := HNB.out; omega)
          subst ho
          have hidx : (k + t) / 8 + 1 = (k + 7) / 8 := by have := HNB.out; omega
          have HID := hideIt hidx
          obtain ⟨n, hn⟩ : ∃ n, n = (k + 7) / 8 := ⟨_, rfl⟩
          have HN := hideIt hn
          have hn1 : 1 ≤ n := by omega
          have hn2 : (n : Int) ≤ 1000000 := by omega
          rw [← hn] at hown ⊢
          have ZE := hideIt (pb8_zero l t (by rw [← HM.out]; exact h8))
          obtain ⟨q, hq⟩ : ∃ q : Nat, q = lastB (l ++ List.replicate t false) := ⟨_, rfl⟩
          have hq1 : (q : Int) ≤ 127 := by have := lastB_lt (l ++ List.replicate t false); omega
          have hll : (l ++ List.replicate t false).length = k + t := by rw [List.length_append, List.length_replicate, ← HM.out]
          have hrow : wr.cell? ⟨g, n - 1, none⟩ = some (.int .u8 q) := by
            rw [hown.cellAt (n - 1) (by omega), List.getElem?_map]
            have := pb8_at (l ++ List.replicate t false) (by rw [hll]; exact h8)
            rw [hll] at this
            rw [show n - 1 = (k + t) / 8 by omega, this, ← hq]; rfl
          have hfr : wr.frozen? ⟨g, n - 1, none⟩ = false := hown.frozenAt _
          rw [← hq] at ZE
          have FIN := hideIt (And.intro hown hbel)
          clear hown hbel hq hll hidx hn
          go_wp2
          go_roundw
          case rel =>
            have hid := HID.out
            have hnn := HN.out
            refine ⟨t + 1, by go_num, by omega, ?_, FIN.out.2.setCell (p := ⟨g, n - 1, none⟩) hg0 _⟩
            have o2 := (FIN.out.1.stored (n - 1) (.int .u8 ((q : Int) * 2))).1
            have ei : (l.length + t) / 8 = n - 1 := by have := HM.out; omega
            rw [ZE.out, ei, set_vals]
            exact o2
          case measure =>
            have hid := HID.out
            have hnn := HN.out
            simp [intOf]; omega
end Go.Proofs.YtifbdjhbeanfaaaDoor

/- The document's answer for patterns: Encode. -/
namespace Go.Proofs.YtifbdjhbeanfaaaDoor
open Go.RowKit

/-- the reference's window -/
def W3 (wn : Option (Nat × Nat)) (a z : Int) : Prop := (wn = none ∧ a = -1 ∧ z = -1) ∨ ∃ a' z' : Nat, wn = some (a', z') ∧ a = (a' : Int) ∧ z = (z' : Int) ∧ a' ≤ 31 ∧ a' + z' ≤ 63
theorem bits_lit2 (w : World) (b : Bool) : Bs .i64 (w.alloc (.cells #[.int .i64 1, .int .i64 (b.toNat : Nat)] 3)) (.slice (some ⟨w.heap.size, 0, none⟩) 2 2) (bitsI [true, b]) :=
  Bs.litN .i64 w 3 [1, (b.toNat : Int)] _ _ rfl rfl
set_option maxHeartbeats 400000 in
theorem rencode9_long (v : Value) (xs : List Int) (w : World) (h : Bs .u64 w v xs) (hl : 65536 < xs.length) :
    Calls Tryd.prog 25 #[v] w fun e w' => e = .returned (.tuple #[.slice none 0 0, .int .i64 4]) ∧ w = w' := by
  obtain ⟨ao, cap, rfl⟩ := h.len
  clear h
  have d0 : decide (65536 < (xs.length : Int)) = true := by simp; omega
  generalize xs.length = m at *
  clear hl
  go_enter Tryd.func25, Tryd.ntmps25
  go_wp2
  go_ret2
  exact ⟨rfl, rfl⟩
set_option maxHeartbeats 400000 in
theorem rencode9_nil (v : Value) (w : World) (h : Bs .u64 w v []) :
    Calls Tryd.prog 25 #[v] w fun e w' => ∃ v', e = .returned (.tuple #[v', .int .i64 0]) ∧ w'.ownsRow w.heap.size 5 1 v' 0 [] ∧ Only (fun _ => False) w w' := by
  obtain ⟨ao, cap, rfl⟩ := h.len
  clear h
  have B := brbytes_bs (.slice none 0 0) [] w (Bs.nil _ _) (by simp)
  rw [show bytesI ([] : List Bool) = [] from rfl] at B
  simp only [List.length_nil, List.map_nil] at B
  have B := hideIt B
  go_enter Tryd.func25, Tryd.ntmps25
  go_wp2
  go_loop [4, 7] (fun k i => k = .slice none 0 0 ∧ i = .int .i64 0) (fun _ _ => 0)
  case atStart => exact ⟨rfl, rfl⟩
  case round =>
    obtain ⟨rfl, rfl⟩ := hrel
    go_wp2_with fail
    refine B.out.mono ?_
    rintro e w1 h1
    obtain ⟨v1, he, own, on⟩ := h1
    subst he
    have OW := hideIt own
    have ON := hideIt on
    clear own on B
    go_wp2
    go_ret2
    exact ⟨v1, rfl, OW.out, ON.out⟩
set_option maxHeartbeats 8000000 in
set_option maxRecDepth 100000 in
theorem rencode9_cons (v : Value) (x0 : Int) (t : List Int) (w : World) (h : Bs .u64 w v (x0 :: t)) (hu : U64 (x0 :: t)) (hl : (x0 :: t).length ≤ 10000) :
    Calls Tryd.prog 25 #[v] w fun e w' => ∃ v', e = .returned (.tuple #[v', .int .i64 0]) ∧ w'.ownsRow w.heap.size 5 1 v' (bytesI (GB (x0 :: t))).length ((bytesI (GB (x0 :: t))).map (Value.int .u8)) ∧ Only (fun _ => False) w w' := by
  obtain ⟨i0, hi, hz0, hz1, hz2⟩ := info_parts Tryd.infoI64
  obtain ⟨b, off, cap, rfl, c0⟩ := h.at 0 (by simp)
  have HU := hideIt hu
  obtain ⟨u0, u1⟩ := hu x0 List.mem_cons_self
  simp only [List.getD_cons_zero, Nat.add_zero] at c0
  have hbw := cell_in c0
  have HC : Hid (∀ j, j < (x0 :: t).length → w.cell? ⟨b, off + j, none⟩ = some (.int .u64 ((x0 :: t).getD j 0))) := by
    intro j hj
    obtain ⟨b', off', cap', e, hc⟩ := h.at j hj
    simp only [Value.slice.injEq, Option.some.injEq, Addr.mk.injEq, and_true] at e
    obtain ⟨⟨rfl, rfl⟩, _, rfl⟩ := e
    exact hc
  have hmem : Hid (∀ j, j < (x0 :: t).length → 0 ≤ (x0 :: t).getD j 0 ∧ (x0 :: t).getD j 0 ≤ 18446744073709551615) := fun j hj => hu _ (by rw [List.getD_eq_getElem?_getD, List.getElem?_eq_getElem hj]; simp)
  obtain ⟨m, hm⟩ : ∃ m, m = t.length := ⟨_, rfl⟩
  have HM := hideIt hm
  have hlen : (x0 :: t).length = m + 1 := by rw [hm]; rfl
  rw [hlen] at hl HC hmem
  rw [hlen]
  obtain ⟨n, hn⟩ : ∃ n, n = m + 1 := ⟨_, rfl⟩
  rw [← hn] at hl HC hmem
  rw [← hn]
  have n0 : 0 < n := by omega
  have HN := hideIt hn
  obtain ⟨G, hG⟩ : ∃ G, G = bytesI (GB (x0 :: t)) := ⟨_, rfl⟩
  rw [← hG]
  have HG := hideIt hG
  have d0 : decide (65536 < (n : Int)) = false := by simp; omega
  have x64 : wid x0.toNat ≤ 64 := wid_le64 x0.toNat (by omega)
  clear h hu hm hlen hG hn
  go_enter Tryd.func25, Tryd.ntmps25
  go_wp2
  go_loopw [4, 5, 6, 7] (fun kv av zv iv wr => (kv = .slice none 0 0 ∧ av = .int .i64 (-1) ∧ zv = .int .i64 (-1) ∧ iv = .int .i64 0 ∧ wr = w) ∨
    ∃ k : Nat, k ≤ m ∧ iv = .int .i64 ((k : Int) + 1) ∧ wr.ownsRow w.heap.size 3 1 kv (bitsOf x0.toNat 64 ++ gE x0.toNat none (t.take k)).length ((bitsI (bitsOf x0.toNat 64 ++ gE x0.toNat none (t.take k))).map (Value.int .i64)) ∧
      (∃ a z : Int, av = .int .i64 a ∧ zv = .int .i64 z ∧ W3 (gW x0.toNat none (t.take k)) a z) ∧ Below w.heap.size w wr) (fun _ _ _ i _ => n - (intOf i).toNat)
  case atStart => exact .inl ⟨rfl, rfl, rfl, rfl, rfl⟩
  case round =>
    rcases hrel with ⟨rfl, rfl, rfl, rfl, rfl⟩ | ⟨k, hk, rfl, hown, ⟨a, z, rfl, rfl, hw3⟩, hbel⟩
    · have dlt : decide ((0 : Int) < (n : Int)) = true := by simp; omega
      have P0 := hideIt (rput9 (.slice none 0 0) [] x0 x0.toNat 64 wr (Bs.nil _ _) NoCap.nil (by simp) (by omega) (by omega) (by omega) x64)
      go_wp2_with fail
      refine P0.out.mono ?_
      rintro e w1 ⟨v1, rfl, own1, on1⟩
      have OW1 : Hid (w1.ownsRow wr.heap.size 3 1 v1 (bitsOf x0.toNat 64 ++ gE x0.toNat none (t.take 0)).length ((bitsI (bitsOf x0.toNat 64 ++ gE x0.toNat none (t.take 0))).map (Value.int .i64))) := by
        have e : bitsOf x0.toNat 64 ++ gE x0.toNat none (t.take 0) = [] ++ bitsOf x0.toNat 64 := by simp [gE]
        simp only [Hid]; rw [e]; exact own1
      have B1 := hideIt (on1.low (Nat.le_refl _))
      clear own1 on1 P0
      go_wp2
      go_roundw
      case rel => exact .inr ⟨0, Nat.zero_le _, rfl, OW1.out, ⟨_, _, rfl, rfl, .inl ⟨rfl, rfl, rfl⟩⟩, B1.out⟩
      case measure => simp [intOf]; omega
    by_cases hlt : k < m
    case neg =>
      obtain rfl : k = m := by omega
      have dlt : decide ((k : Int) + 1 < (n : Int)) = false := by have := HN.out; simp; omega
      have hlq : (bitsOf x0.toNat 64 ++ gE x0.toNat none (t.take k)).length ≤ 1000000 := by
        have := (gE_len (t.take k) x0.toNat none).1
        have := HN.out
        rw [List.length_append, bitsOf_length]
        rw [List.length_take] at *
        omega
      have BY := hideIt (brbytes_bs _ _ wr (bs_bits hown) hlq)
      have hbits : Hid (bytesI (bitsOf x0.toNat 64 ++ gE x0.toNat none (t.take k)) = G) := by
        simp only [Hid]; rw [HG.out, HM.out, List.take_length]; rfl
      rw [hbits.out] at BY
      have HBEL := hideIt hbel
      clear hown hlq hw3 hbel
      go_wp2_with fail
      refine BY.out.mono ?_
      rintro e w4 ⟨v4, rfl, own4, on4⟩
      have OW := hideIt (own_low own4 HBEL.out.size)
      have ON := hideIt ((only_of_below HBEL.out).same on4)
      clear BY own4 on4
      go_wp2
      go_ret2
      exact ⟨v4, rfl, OW.out, ON.out⟩
    have hn1 := HN.out
    have dlt : decide ((k : Int) + 1 < (n : Int)) = true := by simp; omega
    have c1 := (hbel.cell (p := ⟨b, off + (k + 1), none⟩) hbw).trans (HC.out (k + 1) (by omega))
    have c2 := (hbel.cell (p := ⟨b, off + k, none⟩) hbw).trans (HC.out k (by omega))
    rw [List.getD_cons_succ] at c1
    obtain ⟨s1, s2⟩ := gE_step x0 t k (by rw [← HM.out]; exact hlt)
    have G1 := hideIt s1
    have G2 := hideIt s2
    obtain ⟨p0, p1⟩ := hmem.out k (by omega)
    obtain ⟨y0, y1⟩ := hmem.out (k + 1) (by omega)
    rw [List.getD_cons_succ] at y0 y1
    have HLEN : Hid ((bitsOf x0.toNat 64 ++ gE x0.toNat none (t.take k)).length ≤ 900000) := by
      have := (gE_len (t.take k) x0.toNat none).1
      simp only [Hid]
      rw [List.length_append, bitsOf_length]
      rw [List.length_take] at this
      omega
    have hxx := xor_i p0 p1 y0 y1
    have hxl := xor_lt (a := ((x0 :: t).getD k 0).toNat) (b := (t.getD k 0).toNat) (by omega) (by omega)
    generalize (x0 :: t).getD k 0 = pp at *
    generalize t.getD k 0 = yy at *
    generalize pp.toNat ^^^ yy.toNat = X at *
    obtain ⟨L, hL⟩ : ∃ L, L = bitsOf x0.toNat 64 ++ gE x0.toNat none (t.take k) := ⟨_, rfl⟩
    rw [← hL] at hown HLEN
    have HL := hideIt hL
    obtain ⟨q, hq⟩ : ∃ q, q = L.length := ⟨_, rfl⟩
    rw [← hq] at hown HLEN
    have HQ := hideIt hq
    have hown := hideIt hown
    have HBEL := hideIt hbel
    obtain ⟨wn, hwn⟩ : ∃ wn, wn = gW x0.toNat none (t.take k) := ⟨_, rfl⟩
    rw [← hwn] at hw3 G1 G2
    have HC3 := hideIt hw3
    clear s1 s2 hL hq hbel hwn hw3
    have ik : (k : Int) + 1 < (n : Int) := by omega
    have hnb : n ≤ 10000 := hl
    have hkn : k + 1 < n := by omega
    clear hn1
    have ON0 : Hid (Only (fun _ => False) wr wr.drew) := (Only.refl _ _).drew
    by_cases hX : X = 0
    · subst hX
      go_wp2
      go_region
      have eg : gx 0 wn = ([false], wn) := by unfold gx; rw [if_pos rfl]
      rw [eg] at G1 G2
      have OWK := hideIt ((ON0.out.own hown.out (fun _ _ f => f)).alloc (.cells #[.int .i64 0] 3))
      have hsz : w.heap.size ≤ wr.drew.heap.size := HBEL.out.size
      have hL6 := HLEN.out
      go_wp2_with (at_builtin; go_loud (refine wpList_append_lies _ rfl _ _ _ rfl w.heap.size 3 i0 (.int .i64 0) 1 8 Tryd.underlying68 hi hz0 hz1 hz2 rfl (by omega) _ q ((bitsI L).map (Value.int .i64)) rfl OWK.out ⟨wr.heap.size, 0, none⟩ 1 1 [.int .i64 0] rfl rfl ?c1 ?c2 (by omega) ?c3 ?c4 ?c5 (wr.heap.size + 1) (by simp) ?_))
      case c2 => first | rfl | trivial | (intro u hu; simp at hu; subst hu; rfl)
      case c3 => unfold maxLen; omega
      case c4 => omega
      case c5 => exact Nat.le_trans hsz (by simp)
      intro g cap1 w8 hown1 hgrow hat hg1
      have HB8 : Hid (Below w.heap.size w w8) := (HBEL.out.drew.alloc HBEL.out.size _).grown hgrow (Nat.le_trans hsz (by simp)) (fun r hr => (hown.out.lt r hr).1)
      have OW8 : Hid (w8.ownsRow w.heap.size 3 1 (.slice (some ⟨g, 0, none⟩) (q + 1) cap1) (bitsOf x0.toNat 64 ++ gE x0.toNat none (t.take (k + 1))).length ((bitsI (bitsOf x0.toNat 64 ++ gE x0.toNat none (t.take (k + 1)))).map (Value.int .i64))) := by
        have e : bitsOf x0.toNat 64 ++ gE x0.toNat none (t.take (k + 1)) = L ++ [false] := by rw [G1.out, ← List.append_assoc, ← HL.out]
        simp only [Hid]
        rw [e, List.length_append, ← HQ.out, bitsI, List.map_append, List.map_append]
        exact hown1
      clear hown1 hgrow hat hg1 OWK
      go_wp2
      go_roundw
      case rel => exact .inr ⟨k + 1, by omega, by simp, OW8.out, ⟨_, _, rfl, rfl, by rw [G2.out]; exact HC3.out⟩, HB8.out⟩
      case measure => simp [intOf]; omega
    obtain ⟨n1, n2, n3⟩ := win_new (Nat.pos_of_ne_zero hX) hxl
    have hw64 := wid_le64 X hxl
    have dX : ((X : Int) == 0) = false := by rw [beq_eq_false_iff_ne]; omega
    have RWI := fun w => hideIt (rwidth_any (X : Int) w (by omega) (by omega))
    simp only [Int.toNat_natCast] at RWI
    have RTR := fun w => hideIt (rtrail_any X w (Nat.pos_of_ne_zero hX) hxl)
    have RLE := fun w => hideIt (rlead_any X w hxl)
    obtain ⟨ww, hww⟩ : ∃ ww, ww = wid X := ⟨_, rfl⟩
    obtain ⟨tt, htt⟩ : ∃ tt, tt = tz X := ⟨_, rfl⟩
    obtain ⟨aa, haa⟩ : ∃ aa, aa = ldz X := ⟨_, rfl⟩
    rw [← hww] at RWI hw64 n2
    rw [← htt] at RTR n3
    rw [← haa] at RLE n1 n2 n3
    rcases HC3.out with ⟨rfl, rfl, rfl⟩ | ⟨a', z', rfl, rfl, rfl, h5, h6⟩
    · obtain ⟨d, hd⟩ : ∃ d, d = 64 - aa - tt := ⟨_, rfl⟩
      obtain ⟨d1, hd1⟩ : ∃ d1, d1 = 63 - aa - tt := ⟨_, rfl⟩
      have eg : gx X none = (newW X, some (ldz X, tz X)) := by unfold gx; rw [if_neg hX]
      have HGX : newW X = [true, true] ++ bitsOf aa 5 ++ bitsOf d1 6 ++ bitsOf (X / 2 ^ tt) d := by rw [hd1, hd]; unfold newW; rw [← haa, ← htt]; simp
      have W9 : Hid (W3 (some (aa, tt)) (aa : Int) (tt : Int)) := .inr ⟨aa, tt, rfl, rfl, rfl, n1, n3⟩
      rw [eg] at G1 G2
      simp only at G1 G2
      rw [HGX] at G1
      rw [← haa, ← htt] at G2
      have y2 : wid (X / 2 ^ tt) ≤ d := by rw [hd]; exact (wid_le_iff _ _).2 (fits_lt hxl (by omega) n3)
      have y1 : X / 2 ^ tt ≤ X := Nat.div_le_self _ _
      have e3 : (X : Int) / 2 ^ tt = ((X / 2 ^ tt : Nat) : Int) := by push_cast; rfl
      have hdi : (64 : Int) - (aa : Int) - (tt : Int) = (d : Int) := by omega
      have hdj : (63 : Int) - (aa : Int) - (tt : Int) = (d1 : Int) := by omega
      have d64 : d ≤ 64 := by omega
      have z64 : (tt : Int) < 64 := by omega
      clear hww htt haa hd hd1 eg HC3
      go_wp2
      go_region
      generalize hyy : X / 2 ^ tt = y at *
      have P1 := hideIt (rput9 _ _ (aa : Int) aa 5 _ (bits_lit2 wr.drew true) (NoCap.some _ _ _) (by simp) rfl (by omega) (by omega) (wid_5 n1))
      clear hyy
      go_wp2_with fail
      refine (RLE wr.drew).out.mono ?_
      rintro e wq ⟨rfl, rfl⟩
      go_wp2_with fail
      refine (RTR wr.drew).out.mono ?_
      rintro e wq ⟨rfl, rfl⟩
      go_wp2_with fail
      refine P1.out.mono ?_
      rintro e w5 ⟨v5, rfl, own5, on5⟩
      have P2 := hideIt (rput9 v5 _ ((d1 : Nat) : Int) d1 6 w5 (bs_bits own5) (NoCap.of_own own5) (by simp [bitsOf_length]) rfl (by omega) (by omega) (wid_6 (by omega)))
      have ON5 := hideIt ((ON0.out.alloc (.cells #[.int .i64 1, .int .i64 1] 3)).same on5)
      obtain ⟨f5, c5, e5⟩ := (bs_bits own5).len
      subst e5
      clear own5 on5 P1
      go_wp2_with fail
      refine P2.out.mono ?_
      rintro e w6 ⟨v6, rfl, own6, on6⟩
      have P3 := hideIt (rput9 v6 _ (y : Int) y d w6 (bs_bits own6) (NoCap.of_own own6) (by simp [bitsOf_length]) rfl (by omega) d64 y2)
      have ON6 := hideIt (ON5.out.same on6)
      obtain ⟨f6, c6, e6⟩ := (bs_bits own6).len
      subst e6
      clear own6 on6 P2 ON5
      go_wp2_with fail
      refine P3.out.mono ?_
      rintro e w7 ⟨v7, rfl, own7, on7⟩
      have OWO := hideIt own7
      have ONK := hideIt (ON6.out.same on7)
      clear own7 on7 P3 ON6
      have HOL : Hid (([true, true] ++ bitsOf aa 5 ++ bitsOf d1 6 ++ bitsOf y d).length ≤ 100) := by simp only [Hid, List.length_append, List.length_cons, List.length_nil, bitsOf_length]; omega
      obtain ⟨LO, hLO⟩ : ∃ LO, LO = [true, true] ++ bitsOf aa 5 ++ bitsOf d1 6 ++ bitsOf y d := ⟨_, rfl⟩
      rw [← hLO] at OWO HOL
      have HLO := hideIt hLO
      clear hLO
      have hpos : 0 < LO.length := by rw [HLO.out]; simp
      obtain ⟨go, co, rfl, _, _⟩ := World.ownsRow.form OWO.out hpos
      obtain ⟨no, hno⟩ : ∃ no, no = LO.length := ⟨_, rfl⟩
      have BN := hideIt ((bs_bits OWO.out).news)
      have OWK := hideIt (ONK.out.own hown.out (fun _ _ f => f))
      have HSZ := Nat.le_trans HBEL.out.size ONK.out.size
      have BLK := hideIt (HBEL.out.trans (ONK.out.low HBEL.out.size))
      rw [← hno] at HOL hpos
      have hnl : no = LO.length := hno
      rw [← hno]
      have HNO := hideIt hno
      clear hno hnl OWO
      have hL6 := HLEN.out
      have hO6 := HOL.out
      go_wp2_with (at_builtin; go_loud (refine wpList_append_lies _ rfl _ _ _ rfl w.heap.size 3 i0 (.int .i64 0) 1 8 Tryd.underlying68 hi hz0 hz1 hz2 rfl (by omega) _ q ((bitsI L).map (Value.int .i64)) rfl OWK.out ⟨go, 0, none⟩ no co ((bitsI LO).map (Value.int .i64)) rfl ?c0 BN.out ?c2 hpos ?c3 ?c4 HSZ _ rfl ?_))
      case c0 => rw [List.length_map, bitsI_length, ← HNO.out]; omega
      case c2 => exact oneCell_ints _ _
      case c3 => unfold maxLen; omega
      case c4 => omega
      intro g cap1 w8 hown1 hgrow hat hg1
      have HB8 := hideIt (BLK.out.grown hgrow HSZ (fun r hr => (OWK.out.lt r hr).1))
      have OW8 : Hid (w8.ownsRow w.heap.size 3 1 (.slice (some ⟨g, 0, none⟩) (q + no) cap1) (bitsOf x0.toNat 64 ++ gE x0.toNat none (t.take (k + 1))).length ((bitsI (bitsOf x0.toNat 64 ++ gE x0.toNat none (t.take (k + 1)))).map (Value.int .i64))) := by
        have e : bitsOf x0.toNat 64 ++ gE x0.toNat none (t.take (k + 1)) = L ++ LO := by rw [G1.out, ← List.append_assoc, ← HL.out, HLO.out]
        simp only [Hid]
        rw [e, List.length_append, ← HQ.out, ← HNO.out, bitsI, List.map_append, List.map_append]
        exact hown1
      clear hown1 hgrow hat hg1 OWK BN BLK HLO
      go_wp2
      go_roundw
      case rel => exact .inr ⟨k + 1, by omega, by simp, OW8.out, ⟨_, _, rfl, rfl, by rw [G2.out]; exact W9.out⟩, HB8.out⟩
      case measure => simp [intOf]; omega
    by_cases hf : fitsW X a' z'
    · have eg : gx X (some (a', z')) = (true :: false :: bitsOf (X / 2 ^ z') (64 - a' - z'), some (a', z')) := by unfold gx; rw [if_neg hX]; simp only; rw [if_pos hf]
      rw [eg] at G1 G2
      have HGX : true :: false :: bitsOf (X / 2 ^ z') (64 - a' - z') = [true, false] ++ bitsOf (X / 2 ^ z') (64 - a' - z') := rfl
      obtain ⟨d, hd⟩ : ∃ d, d = 64 - a' - z' := ⟨_, rfl⟩
      have y2 : wid (X / 2 ^ z') ≤ d := by rw [hd]; exact (wid_le_iff _ _).2 (fits_lt hxl hf.1 h6)
      rw [← hd] at HGX G1
      have y1 : X / 2 ^ z' ≤ X := Nat.div_le_self _ _
      have e3 : (X : Int) / 2 ^ z' = ((X / 2 ^ z' : Nat) : Int) := by push_cast; rfl
      generalize X / 2 ^ z' = y at *
      simp only at G1 G2
      rw [HGX] at G1
      have hdi : (64 : Int) - (a' : Int) - (z' : Int) = (d : Int) := by omega
      have d64 : d ≤ 64 := by omega
      have z64 : (z' : Int) < 64 := by omega
      have t2 : decide ((a' : Int) ≤ 64 - (ww : Int)) = true := decide_eq_true (by have := hf.1; rw [← hww] at this; omega)
      have t3 : decide ((z' : Int) ≤ (tt : Int)) = true := decide_eq_true (by have := hf.2; rw [← htt] at this; omega)
      have t3n : decide (z' ≤ tt) = true := decide_eq_true (by have := hf.2; rw [← htt] at this; omega)
      have P1 := hideIt (rput9 _ _ (y : Int) y d _ (bits_lit2 wr.drew false) (NoCap.some _ _ _) (by simp) rfl (by omega) d64 y2)
      have W9 : Hid (W3 (some (a', z')) (a' : Int) (z' : Int)) := .inr ⟨a', z', rfl, rfl, rfl, h5, h6⟩
      clear hf hd eg hww htt haa HC3
      go_wp2_with fail
      go_region
      go_wp2_with fail
      refine (RWI wr.drew).out.mono ?_
      rintro e wq ⟨rfl, rfl⟩
      go_wp2_with fail
      refine (RTR wr.drew).out.mono ?_
      rintro e wq ⟨rfl, rfl⟩
      go_wp2_with fail
      refine P1.out.mono ?_
      rintro e w5 ⟨v5, rfl, own5, on5⟩
      have OWO := hideIt own5
      have ONK := hideIt ((ON0.out.alloc (.cells #[.int .i64 1, .int .i64 0] 3)).same on5)
      clear own5 on5 P1
      have HOL : Hid (([true, false] ++ bitsOf y d).length ≤ 100) := by simp only [Hid, List.length_append, List.length_cons, List.length_nil, bitsOf_length]; omega
      obtain ⟨LO, hLO⟩ : ∃ LO, LO = [true, false] ++ bitsOf y d := ⟨_, rfl⟩
      rw [← hLO] at OWO HOL
      have HLO := hideIt hLO
      clear hLO
      have hpos : 0 < LO.length := by rw [HLO.out]; simp
      obtain ⟨go, co, rfl, _, _⟩ := World.ownsRow.form OWO.out hpos
      obtain ⟨no, hno⟩ : ∃ no, no = LO.length := ⟨_, rfl⟩
      have BN := hideIt ((bs_bits OWO.out).news)
      have OWK := hideIt (ONK.out.own hown.out (fun _ _ f => f))
      have HSZ := Nat.le_trans HBEL.out.size ONK.out.size
      have BLK := hideIt (HBEL.out.trans (ONK.out.low HBEL.out.size))
      rw [← hno] at HOL hpos
      have hnl : no = LO.length := hno
      rw [← hno]
      have HNO := hideIt hno
      clear hno hnl OWO
      have hL6 := HLEN.out
      have hO6 := HOL.out
      go_wp2_with (at_builtin; go_loud (refine wpList_append_lies _ rfl _ _ _ rfl w.heap.size 3 i0 (.int .i64 0) 1 8 Tryd.underlying68 hi hz0 hz1 hz2 rfl (by omega) _ q ((bitsI L).map (Value.int .i64)) rfl OWK.out ⟨go, 0, none⟩ no co ((bitsI LO).map (Value.int .i64)) rfl ?c0 BN.out ?c2 hpos ?c3 ?c4 HSZ _ rfl ?_))
      case c0 => rw [List.length_map, bitsI_length, ← HNO.out]; omega
      case c2 => exact oneCell_ints _ _
      case c3 => unfold maxLen; omega
      case c4 => omega
      intro g cap1 w8 hown1 hgrow hat hg1
      have HB8 := hideIt (BLK.out.grown hgrow HSZ (fun r hr => (OWK.out.lt r hr).1))
      have OW8 : Hid (w8.ownsRow w.heap.size 3 1 (.slice (some ⟨g, 0, none⟩) (q + no) cap1) (bitsOf x0.toNat 64 ++ gE x0.toNat none (t.take (k + 1))).length ((bitsI (bitsOf x0.toNat 64 ++ gE x0.toNat none (t.take (k + 1)))).map (Value.int .i64))) := by
        have e : bitsOf x0.toNat 64 ++ gE x0.toNat none (t.take (k + 1)) = L ++ LO := by rw [G1.out, ← List.append_assoc, ← HL.out, HLO.out]
        simp only [Hid]
        rw [e, List.length_append, ← HQ.out, ← HNO.out, bitsI, List.map_append, List.map_append]
        exact hown1
      clear hown1 hgrow hat hg1 OWK BN BLK HLO
      go_wp2
      go_roundw
      case rel => exact .inr ⟨k + 1, by omega, by simp, OW8.out, ⟨_, _, rfl, rfl, by rw [G2.out]; exact W9.out⟩, HB8.out⟩
      case measure => simp [intOf]; omega
    · obtain ⟨d, hd⟩ : ∃ d, d = 64 - aa - tt := ⟨_, rfl⟩
      obtain ⟨d1, hd1⟩ : ∃ d1, d1 = 63 - aa - tt := ⟨_, rfl⟩
      have eg : gx X (some (a', z')) = (newW X, some (ldz X, tz X)) := by unfold gx; rw [if_neg hX]; simp only; rw [if_neg hf]
      have HGX : newW X = [true, true] ++ bitsOf aa 5 ++ bitsOf d1 6 ++ bitsOf (X / 2 ^ tt) d := by rw [hd1, hd]; unfold newW; rw [← haa, ← htt]; simp
      have W9 : Hid (W3 (some (aa, tt)) (aa : Int) (tt : Int)) := .inr ⟨aa, tt, rfl, rfl, rfl, n1, n3⟩
      rw [eg] at G1 G2
      simp only at G1 G2
      rw [HGX] at G1
      rw [← haa, ← htt] at G2
      have y2 : wid (X / 2 ^ tt) ≤ d := by rw [hd]; exact (wid_le_iff _ _).2 (fits_lt hxl (by omega) n3)
      have y1 : X / 2 ^ tt ≤ X := Nat.div_le_self _ _
      have e3 : (X : Int) / 2 ^ tt = ((X / 2 ^ tt : Nat) : Int) := by push_cast; rfl
      have hdi : (64 : Int) - (aa : Int) - (tt : Int) = (d : Int) := by omega
      have hdj : (63 : Int) - (aa : Int) - (tt : Int) = (d1 : Int) := by omega
      have d64 : d ≤ 64 := by omega
      have z64 : (tt : Int) < 64 := by omega
      by_cases ht : a' ≤ 64 - ww
      · have t2 : decide ((a' : Int) ≤ 64 - (ww : Int)) = true := decide_eq_true (by omega)
        have hzt : tt < z' := by
          rcases Nat.lt_or_ge tt z' with h | h
          · exact h
          · exact absurd ⟨by rw [← hww]; exact ht, by rw [← htt]; exact h⟩ hf
        have t3 : decide ((z' : Int) ≤ (tt : Int)) = false := decide_eq_false (by omega)
        have t3n : decide (z' ≤ tt) = false := decide_eq_false (by omega)
        clear hww htt haa hd hd1 eg HC3 hf
        go_wp2_with fail
        go_region
        generalize hyy : X / 2 ^ tt = y at *
        have P1 := hideIt (rput9 _ _ (aa : Int) aa 5 _ (bits_lit2 wr.drew true) (NoCap.some _ _ _) (by simp) rfl (by omega) (by omega) (wid_5 n1))
        clear hyy
        go_wp2_with fail
        refine (RWI wr.drew).out.mono ?_
        rintro e wq ⟨rfl, rfl⟩
        go_wp2_with fail
        refine (RTR wr.drew).out.mono ?_
        rintro e wq ⟨rfl, rfl⟩
        go_wp2_with fail
        refine (RLE wr.drew).out.mono ?_
        rintro e wq ⟨rfl, rfl⟩
        go_wp2_with fail
        refine (RTR wr.drew).out.mono ?_
        rintro e wq ⟨rfl, rfl⟩
        go_wp2_with fail
        refine P1.out.mono ?_
        rintro e w5 ⟨v5, rfl, own5, on5⟩
        have P2 := hideIt (rput9 v5 _ ((d1 : Nat) : Int) d1 6 w5 (bs_bits own5) (NoCap.of_own own5) (by simp [bitsOf_length]) rfl (by omega) (by omega) (wid_6 (by omega)))
        have ON5 := hideIt ((ON0.out.alloc (.cells #[.int .i64 1, .int .i64 1] 3)).same on5)
        obtain ⟨f5, c5, e5⟩ := (bs_bits own5).len
        subst e5
        clear own5 on5 P1
        go_wp2_with fail
        refine P2.out.mono ?_
        rintro e w6 ⟨v6, rfl, own6, on6⟩
        have P3 := hideIt (rput9 v6 _ (y : Int) y d w6 (bs_bits own6) (NoCap.of_own own6) (by simp [bitsOf_length]) rfl (by omega) d64 y2)
        have ON6 := hideIt (ON5.out.same on6)
        obtain ⟨f6, c6, e6⟩ := (bs_bits own6).len
        subst e6
        clear own6 on6 P2 ON5
        go_wp2_with fail
        refine P3.out.mono ?_
        rintro e w7 ⟨v7, rfl, own7, on7⟩
        have OWO := hideIt own7
        have ONK := hideIt (ON6.out.same on7)
        clear own7 on7 P3 ON6
        have HOL : Hid (([true, true] ++ bitsOf aa 5 ++ bitsOf d1 6 ++ bitsOf y d).length ≤ 100) := by simp only [Hid, List.length_append, List.length_cons, List.length_nil, bitsOf_length]; omega
        obtain ⟨LO, hLO⟩ : ∃ LO, LO = [true, true] ++ bitsOf aa 5 ++ bitsOf d1 6 ++ bitsOf y d := ⟨_, rfl⟩
        rw [← hLO] at OWO HOL
        have HLO := hideIt hLO
        clear hLO
        have hpos : 0 < LO.length := by rw [HLO.out]; simp
        obtain ⟨go, co, rfl, _, _⟩ := World.ownsRow.form OWO.out hpos
        obtain ⟨no, hno⟩ : ∃ no, no = LO.length := ⟨_, rfl⟩
        have BN := hideIt ((bs_bits OWO.out).news)
        have OWK := hideIt (ONK.out.own hown.out (fun _ _ f => f))
        have HSZ := Nat.le_trans HBEL.out.size ONK.out.size
        have BLK := hideIt (HBEL.out.trans (ONK.out.low HBEL.out.size))
        rw [← hno] at HOL hpos
        have hnl : no = LO.length := hno
        rw [← hno]
        have HNO := hideIt hno
        clear hno hnl OWO
        have hL6 := HLEN.out
        have hO6 := HOL.out
        go_wp2_with (at_builtin; go_loud (refine wpList_append_lies _ rfl _ _ _ rfl w.heap.size 3 i0 (.int .i64 0) 1 8 Tryd.underlying68 hi hz0 hz1 hz2 rfl (by omega) _ q ((bitsI L).map (Value.int .i64)) rfl OWK.out ⟨go, 0, none⟩ no co ((bitsI LO).map (Value.int .i64)) rfl ?c0 BN.out ?c2 hpos ?c3 ?c4 HSZ _ rfl ?_))
        case c0 => rw [List.length_map, bitsI_length, ← HNO.out]; omega
        case c2 => exact oneCell_ints _ _
        case c3 => unfold maxLen; omega
        case c4 => omega
        intro g cap1 w8 hown1 hgrow hat hg1
        have HB8 := hideIt (BLK.out.grown hgrow HSZ (fun r hr => (OWK.out.lt r hr).1))
        have OW8 : Hid (w8.ownsRow w.heap.size 3 1 (.slice (some ⟨g, 0, none⟩) (q + no) cap1) (bitsOf x0.toNat 64 ++ gE x0.toNat none (t.take (k + 1))).length ((bitsI (bitsOf x0.toNat 64 ++ gE x0.toNat none (t.take (k + 1)))).map (Value.int .i64))) := by
          have e : bitsOf x0.toNat 64 ++ gE x0.toNat none (t.take (k + 1)) = L ++ LO := by rw [G1.out, ← List.append_assoc, ← HL.out, HLO.out]
          simp only [Hid]
          rw [e, List.length_append, ← HQ.out, ← HNO.out, bitsI, List.map_append, List.map_append]
          exact hown1
        clear hown1 hgrow hat hg1 OWK BN BLK HLO
        go_wp2
        go_roundw
        case rel => exact .inr ⟨k + 1, by omega, by simp, OW8.out, ⟨_, _, rfl, rfl, by rw [G2.out]; exact W9.out⟩, HB8.out⟩
        case measure => simp [intOf]; omega
      · have t2 : decide ((a' : Int) ≤ 64 - (ww : Int)) = false := decide_eq_false (by omega)
        clear hww htt haa hd hd1 eg HC3 hf
        go_wp2_with fail
        go_region
        generalize hyy : X / 2 ^ tt = y at *
        have P1 := hideIt (rput9 _ _ (aa : Int) aa 5 _ (bits_lit2 wr.drew true) (NoCap.some _ _ _) (by simp) rfl (by omega) (by omega) (wid_5 n1))
        clear hyy
        go_wp2_with fail
        refine (RWI wr.drew).out.mono ?_
        rintro e wq ⟨rfl, rfl⟩
        go_wp2_with fail
        refine (RLE wr.drew).out.mono ?_
        rintro e wq ⟨rfl, rfl⟩
        go_wp2_with fail
        refine (RTR wr.drew).out.mono ?_
        rintro e wq ⟨rfl, rfl⟩
        go_wp2_with fail
        refine P1.out.mono ?_
        rintro e w5 ⟨v5, rfl, own5, on5⟩
        have P2 := hideIt (rput9 v5 _ ((d1 : Nat) : Int) d1 6 w5 (bs_bits own5) (NoCap.of_own own5) (by simp [bitsOf_length]) rfl (by omega) (by omega) (wid_6 (by omega)))
        have ON5 := hideIt ((ON0.out.alloc (.cells #[.int .i64 1, .int .i64 1] 3)).same on5)
        obtain ⟨f5, c5, e5⟩ := (bs_bits own5).len
        subst e5
        clear own5 on5 P1
        go_wp2_with fail
        refine P2.out.mono ?_
        rintro e w6 ⟨v6, rfl, own6, on6⟩
        have P3 := hideIt (rput9 v6 _ (y : Int) y d w6 (bs_bits own6) (NoCap.of_own own6) (by simp [bitsOf_length]) rfl (by omega) d64 y2)
        have ON6 := hideIt (ON5.out.same on6)
        obtain ⟨f6, c6, e6⟩ := (bs_bits own6).len
        subst e6
        clear own6 on6 P2 ON5
        go_wp2_with fail
        refine P3.out.mono ?_
        rintro e w7 ⟨v7, rfl, own7, on7⟩
        have OWO := hideIt own7
        have ONK := hideIt (ON6.out.same on7)
        clear own7 on7 P3 ON6
        have HOL : Hid (([true, true] ++ bitsOf aa 5 ++ bitsOf d1 6 ++ bitsOf y d).length ≤ 100) := by simp only [Hid, List.length_append, List.length_cons, List.length_nil, bitsOf_length]; omega
        obtain ⟨LO, hLO⟩ : ∃ LO, LO = [true, true] ++ bitsOf aa 5 ++ bitsOf d1 6 ++ bitsOf y d := ⟨_, rfl⟩
        rw [← hLO] at OWO HOL
        have HLO := hideIt hLO
        clear hLO
        have hpos : 0 < LO.length := by rw [HLO.out]; simp
        obtain ⟨go, co, rfl, _, _⟩ := World.ownsRow.form OWO.out hpos
        obtain ⟨no, hno⟩ : ∃ no, no = LO.length := ⟨_, rfl⟩
        have BN := hideIt ((bs_bits OWO.out).news)
        have OWK := hideIt (ONK.out.own hown.out (fun _ _ f => f))
        have HSZ := Nat.le_trans HBEL.out.size ONK.out.size
        have BLK := hideIt (HBEL.out.trans (ONK.out.low HBEL.out.size))
        rw [← hno] at HOL hpos
        have hnl : no = LO.length := hno
        rw [← hno]
        have HNO := hideIt hno
        clear hno hnl OWO
        have hL6 := HLEN.out
        have hO6 := HOL.out
        go_wp2_with (at_builtin; go_loud (refine wpList_append_lies _ rfl _ _ _ rfl w.heap.size 3 i0 (.int .i64 0) 1 8 Tryd.underlying68 hi hz0 hz1 hz2 rfl (by omega) _ q ((bitsI L).map (Value.int .i64)) rfl OWK.out ⟨go, 0, none⟩ no co ((bitsI LO).map (Value.int .i64)) rfl ?c0 BN.out ?c2 hpos ?c3 ?c4 HSZ _ rfl ?_))
        case c0 => rw [List.length_map, bitsI_length, ← HNO.out]; omega
        case c2 => exact oneCell_ints _ _
        case c3 => unfold maxLen; omega
        case c4 => omega
        intro g cap1 w8 hown1 hgrow hat hg1
        have HB8 := hideIt (BLK.out.grown hgrow HSZ (fun r hr => (OWK.out.lt r hr).1))
        have OW8 : Hid (w8.ownsRow w.heap.size 3 1 (.slice (some ⟨g, 0, none⟩) (q + no) cap1) (bitsOf x0.toNat 64 ++ gE x0.toNat none (t.take (k + 1))).length ((bitsI (bitsOf x0.toNat 64 ++ gE x0.toNat none (t.take (k + 1)))).map (Value.int .i64))) := by
          have e : bitsOf x0.toNat 64 ++ gE x0.toNat none (t.take (k + 1)) = L ++ LO := by rw [G1.out, ← List.append_assoc, ← HL.out, HLO.out]
          simp only [Hid]
          rw [e, List.length_append, ← HQ.out, ← HNO.out, bitsI, List.map_append, List.map_append]
          exact hown1
        clear hown1 hgrow hat hg1 OWK BN BLK HLO
        go_wp2
        go_roundw
        case rel => exact .inr ⟨k + 1, by omega, by simp, OW8.out, ⟨_, _, rfl, rfl, by rw [G2.out]; exact W9.out⟩, HB8.out⟩
        case measure => simp [intOf]; omega
/-- the document's Encode of any list -/
theorem rencode9_all (v : Value) (xs : List Int) (w : World) (h : Bs .u64 w v xs) (hu : U64 xs) (hl : xs.length ≤ 10000 ∨ 65536 < xs.length) :
    Calls Tryd.prog 25 #[v] w fun e w' => ∃ v', e = .returned (.tuple #[v', .int .i64 (ENC9 xs).2]) ∧ w'.ownsRow w.heap.size 5 1 v' (ENC9 xs).1.length ((ENC9 xs).1.map (Value.int .u8)) ∧ Only (fun _ => False) w w' := by
  by_cases h6 : 65536 < xs.length
  · have e : ENC9 xs = ([], 4) := if_pos h6
    rw [e]
    refine (rencode9_long v xs w h h6).mono ?_
    rintro e w' ⟨rfl, rfl⟩
    exact ⟨_, rfl, World.ownsRow_nil _ _ _ _, Only.refl _ _⟩
  · rw [ENC9_of (by omega)]
    cases xs with
    | nil => exact rencode9_nil v w h
    | cons x0 t => exact rencode9_cons v x0 t w h hu (by omega)
end Go.Proofs.YtifbdjhbeanfaaaDoor
