/- Several texts in one: Iw3, Ir, Ir2, SameI, Aw8. -/
import Derived.Test.YtgbimghhdbmjiabG11
import Derived.Test.YtgbimghhdbmjiabG6
import Derived.Test.YtgbimghhdbmjiabProg
import Derived.Test.YtgbimghhdbmjiabG1
import Derived.Test.YtgbimghhdbmjiabG8

/- Package intcodec: Way of whatever comes in; Encode. -/
namespace Go.Proofs.Ytgbimghhdbmjiab
open Go.RowKit

theorem way8_any (v : Value) (l : List Int) (tag : Int) (w : World) (h : Bs .i64 w v l) (hg : I64s l) :
    Calls Try.prog 9 #[v, .int .i64 tag] w fun e w' => ∃ u, e = .returned (.tuple #[u, .int .i64 (WAY8 l tag).2]) ∧ w'.ownsRow w.heap.size 5 1 u (WAY8 l tag).1.length ((WAY8 l tag).1.map (Value.int .u8)) ∧ Only (fun _ => False) w w' := by
  unfold WAY8
  by_cases ht : tag < 0 ∨ 4 < tag
  · rw [if_pos ht]
    refine (way_arg v tag w ht).mono ?_
    rintro e w' ⟨rfl, rfl⟩
    exact ⟨_, rfl, World.ownsRow_nil _ _ _ _, Only.refl _ _⟩
  · rw [if_neg ht]
    obtain ⟨t, rfl⟩ := Int.eq_ofNat_of_zero_le (show 0 ≤ tag by omega)
    by_cases hl : 65536 < l.length
    · rw [if_pos hl]
      refine (way_long v l t w h hl (by omega)).mono ?_
      rintro e w' ⟨rfl, rfl⟩
      exact ⟨_, rfl, World.ownsRow_nil _ _ _ _, Only.refl _ _⟩
    · rw [if_neg hl, Int.toNat_natCast]
      by_cases hne : l = []
      · subst hne
        rw [WAY_nil]
        refine (way_nil v t w h (by omega)).mono ?_
        rintro e w' ⟨rfl, rfl⟩
        exact ⟨_, rfl, World.ownsRow_nil _ _ _ _, Only.refl _ _⟩
      · have hp : 0 < l.length := List.length_pos_iff.2 hne
        by_cases h0 : t = 0
        · subst h0
          rw [WAY_zero]
          exact way_zero v l w h (by omega) hp
        · exact way_other v l t w h hg (by omega) hp (by omega) (by omega)
theorem way8_nat (v : Value) (l : List Int) (t : Nat) (w : World) (h : Bs .i64 w v l) (hg : I64s l) (hl : l.length ≤ 65536) (ht : t ≤ 4) :
    Calls Try.prog 9 #[v, .int .i64 t] w fun e w' => ∃ u, e = .returned (.tuple #[u, .int .i64 (WAY l t).2]) ∧ w'.ownsRow w.heap.size 5 1 u (WAY l t).1.length ((WAY l t).1.map (Value.int .u8)) ∧ Only (fun _ => False) w w' := by
  have := way8_any v l t w h hg
  rw [WAY8_nat hl t ht] at this
  exact this
theorem pick_len (l : List Int) (t : Nat) : (pick l t).2.length ≤ 8 * l.length := by
  have h := (pick_spec l t).2.2 0 (by omega) (by rw [WAY_zero])
  rw [WAY_zero] at h
  simp only [fx_length] at h
  exact h

set_option maxHeartbeats 400000 in
set_option maxRecDepth 100000 in
theorem encode8_long (v : Value) (l : List Int) (w : World) (h : Bs .i64 w v l) (hl : 65536 < l.length) :
    Calls Try.prog 5 #[v] w fun e w' => e = .returned (.tuple #[.slice none 0 0, .int .i64 4]) ∧ w = w' := by
  have A := hideIt (way_long v l 0 w h hl (by omega))
  obtain ⟨ao, cap, rfl⟩ := h.len
  clear h hl
  go_enter Try.func5, Try.ntmps5
  go_wp2_with fail
  refine A.out.mono ?_
  rintro e w1 ⟨rfl, rfl⟩
  go_wp2
  try rw [Exit.noGoto_ret]
  go_ret2
  exact ⟨rfl, rfl⟩

set_option maxHeartbeats 1600000 in
set_option maxRecDepth 100000 in
/-- THE SHORTEST WAY, and its tag ahead. -/
theorem encode8_bs (v : Value) (l : List Int) (w : World) (h : Bs .i64 w v l) (hg : I64s l) (hl : l.length ≤ 65536) :
    Calls Try.prog 5 #[v] w fun e w' => ∃ u, e = .returned (.tuple #[u, .int .i64 0]) ∧ w'.ownsRow w.heap.size 5 1 u (((pick l 4).1 : Int) :: (pick l 4).2).length ((((pick l 4).1 : Int) :: (pick l 4).2).map (Value.int .u8)) ∧ Only (fun _ => False) w w' := by
  have A := way8_nat v l 0 w h hg hl (by omega)
  rw [WAY_zero] at A
  have A := hideIt A
  have WY : Hid (∀ (t : Nat) (w1 : World), t ≤ 4 → Only (fun _ => False) w w1 → Calls Try.prog 9 #[v, .int .i64 t] w1 fun e w' => ∃ u, e = .returned (.tuple #[u, .int .i64 (WAY l t).2]) ∧ w'.ownsRow w1.heap.size 5 1 u (WAY l t).1.length ((WAY l t).1.map (Value.int .u8)) ∧ Only (fun _ => False) w1 w') :=
    fun t w1 ht o => way8_nat v l t w1 (h.past o) hg hl ht
  have HP : Hid (∀ t, (pick l t).1 ≤ t ∧ (pick l t).2.length ≤ 8 * l.length) := fun t => ⟨(pick_spec l t).1, pick_len l t⟩
  have HPS : Hid (∀ t, pick l (t + 1) = if (WAY l (t + 1)).2 = 0 ∧ (WAY l (t + 1)).1.length < (pick l t).2.length then (t + 1, (WAY l (t + 1)).1) else pick l t) := fun t => rfl
  have HP0 : Hid (pick l 0 = (0, fx l)) := by simp only [Hid]; rw [pick, WAY_zero]
  obtain ⟨pp, hpp⟩ : ∃ pp, pp = ((pick l 4).1 : Int) :: (pick l 4).2 := ⟨_, rfl⟩
  rw [← hpp]
  have HPP := hideIt hpp
  clear hpp
  obtain ⟨ao, cap, rfl⟩ := h.len
  clear h hg
  go_enter Try.func5, Try.ntmps5
  go_wp2_with fail
  refine A.out.mono ?_
  rintro e w1 ⟨v1, rfl, own1, o1⟩
  clear A
  have START := hideIt (And.intro own1 o1)
  obtain ⟨f1, c1, e1⟩ := (Bs.of_own own1).len
  subst e1
  generalize hF : fx l = F0 at *
  clear own1 o1
  go_wp2
  go_loopw [4, 5, 7] (fun s4 s5 s7 wr => ∃ t : Nat, t ≤ 4 ∧ s7 = .int .i64 ((t : Int) + 1) ∧ s4 = .int .i64 ((pick l t).1 : Nat) ∧ wr.ownsRow w.heap.size 5 1 s5 (pick l t).2.length ((pick l t).2.map (Value.int .u8)) ∧ Only (fun _ => False) w wr) (fun _ _ s7 _ => 5 - (intOf s7).toNat)
  case atStart =>
    have e := HP0.out
    refine ⟨0, by omega, rfl, by rw [e]; rfl, ?_, START.out.2⟩
    rw [e]
    exact START.out.1
  case round =>
    obtain ⟨t, ht, rfl, rfl, hown, hon⟩ := hrel
    have HOWN := hideIt hown
    have HON := hideIt hon
    obtain ⟨f2, c2, e2⟩ := (Bs.of_own hown).len
    subst e2
    clear START hown hon
    have hp1 := (HP.out t).1
    have HPL := hideIt (HP.out t).2
    have HST := hideIt (HPS.out t)
    by_cases hlt : t < 4
    · have dlt : decide ((t : Int) + 1 < 5) = true := decide_eq_true (by omega)
      have WT := WY.out (t + 1) wr (by omega) HON.out
      rw [Int.natCast_succ] at WT
      have WT := hideIt WT
      generalize WAY l (t + 1) = W at *
      obtain ⟨W1, c⟩ := W
      simp only at WT HST
      obtain ⟨pn, hpn⟩ : ∃ pn, pn = pick l (t + 1) := ⟨_, rfl⟩
      rw [← hpn] at HST
      have HPN := hideIt hpn
      generalize pick l t = p at *
      obtain ⟨p1, p2⟩ := p
      simp only at HOWN HST hp1 HPL
      clear hpn WY HPS HP HP0
      go_wp2_with fail
      refine WT.out.mono ?_
      rintro e w3 ⟨v3, rfl, own3, o3⟩
      clear WT
      have OW3 := hideIt (own_low own3 HON.out.size)
      have OWP := hideIt (o3.own HOWN.out (fun _ _ f => f))
      have O3 := hideIt (HON.out.same o3)
      obtain ⟨f3, c3, e3⟩ := (Bs.of_own own3).len
      subst e3
      clear own3 o3
      by_cases hc : c = 0
      · subst hc
        by_cases hlen : W1.length < p2.length
        · have dl : decide ((W1.length : Int) < (p2.length : Int)) = true := decide_eq_true (by omega)
          rw [if_pos ⟨rfl, hlen⟩] at HST
          generalize hn1 : W1.length = n1 at *
          generalize hn2 : p2.length = n2 at *
          go_wp2
          go_roundw
          case rel =>
            refine ⟨t + 1, by omega, by simp, ?_, ?_, O3.out⟩
            · rw [← HPN.out, HST.out]; simp
            · rw [← HPN.out, HST.out]
              simp only [hn1]
              exact OW3.out
          case measure => simp [intOf]; omega
        · have dl : decide ((W1.length : Int) < (p2.length : Int)) = false := decide_eq_false (by omega)
          rw [if_neg (fun hh => hlen hh.2)] at HST
          generalize hn1 : W1.length = n1 at *
          generalize hn2 : p2.length = n2 at *
          go_wp2
          go_roundw
          case rel =>
            refine ⟨t + 1, by omega, by simp, ?_, ?_, O3.out⟩
            · rw [← HPN.out, HST.out]
            · rw [← HPN.out, HST.out]
              simp only [hn2]
              exact OWP.out
          case measure => simp [intOf]; omega
      · have dc : (c == 0) = false := by rw [beq_eq_false_iff_ne]; exact hc
        rw [if_neg (fun hh => hc hh.1)] at HST
        generalize hn2 : p2.length = n2 at *
        go_wp2
        go_roundw
        case rel =>
          refine ⟨t + 1, by omega, by simp, ?_, ?_, O3.out⟩
          · rw [← HPN.out, HST.out]
          · rw [← HPN.out, HST.out]
            simp only [hn2]
            exact OWP.out
        case measure => simp [intOf]; omega
    · obtain rfl : t = 4 := by omega
      clear HST HPS HP HP0 WY
      generalize pick l 4 = p at *
      obtain ⟨p1, p2⟩ := p
      simp only at HOWN hp1 HPL HPP
      have hq256 : (p1 : Int) < 256 := by omega
      have oA : Only (fun _ => False) wr (wr.alloc (.cells #[.int .u8 p1] 5)) := (Only.refl _ _).alloc _
      have oB : Only (fun _ => False) wr ((wr.alloc (.cells #[.int .u8 p1] 5)).alloc (.cells #[.slice (some ⟨wr.heap.size, 0, none⟩) 1 1, .slice f2 p2.length c2] 24)) := oA.alloc _
      have b1 : Bs .u8 (wr.alloc (.cells #[.int .u8 p1] 5)) (.slice (some ⟨wr.heap.size, 0, none⟩) 1 1) [(p1 : Int)] := Bs.litN .u8 wr 5 [(p1 : Int)] _ _ rfl rfl
      have CC := hideIt (concat_two (wr.heap.size + 1) (.slice (some ⟨wr.heap.size, 0, none⟩) 1 1) (.slice f2 p2.length c2) [(p1 : Int)] p2 ((wr.alloc (.cells #[.int .u8 p1] 5)).alloc (.cells #[.slice (some ⟨wr.heap.size, 0, none⟩) 1 1, .slice f2 p2.length c2] 24)) (by go_cell) (by go_cell) (b1.later ((Below.refl _ _).alloc (Nat.le_refl _) _)) ((Bs.of_own HOWN.out).past oB) (NoCap.some _ _ _) (NoCap.of_own HOWN.out) (by simp; omega) (by have := HPL.out; simp; omega))
      rw [List.singleton_append] at CC
      have O4 := hideIt (HON.out.same oB)
      rw [← HPP.out] at CC
      clear oA oB b1 HOWN HON HPP
      generalize p2.length = n2 at *
      go_wp2_with fail
      refine CC.out.mono ?_
      rintro e w5 ⟨v5, rfl, own5, o5⟩
      clear CC
      have F := hideIt (And.intro (own_low own5 O4.out.size) (O4.out.same o5))
      obtain ⟨f5, c5, e5⟩ := (Bs.of_own own5).len
      subst e5
      clear own5 o5
      go_wp2
      try rw [Exit.noGoto_ret]
      go_ret2
      exact ⟨_, rfl, F.out.1, F.out.2⟩
theorem encode8_all (v : Value) (l : List Int) (w : World) (h : Bs .i64 w v l) (hg : I64s l) :
    Calls Try.prog 5 #[v] w fun e w' => ∃ u, e = .returned (.tuple #[u, .int .i64 (ENC8 l).2]) ∧ w'.ownsRow w.heap.size 5 1 u (ENC8 l).1.length ((ENC8 l).1.map (Value.int .u8)) ∧ Only (fun _ => False) w w' := by
  unfold ENC8
  by_cases hl : 65536 < l.length
  · rw [if_pos hl]
    refine (encode8_long v l w h hl).mono ?_
    rintro e w' ⟨rfl, rfl⟩
    exact ⟨_, rfl, World.ownsRow_nil _ _ _ _, Only.refl _ _⟩
  · rw [if_neg hl]
    exact encode8_bs v l w h hg (by omega)
end Go.Proofs.Ytgbimghhdbmjiab

/- Package intcodec: what is read of a cursor, way by way. -/
namespace Go.Proofs.Ytgbimghhdbmjiab
open Go.RowKit

theorem map_s64_snoc (ys : List Int) (k : Nat) : ((fxN ys (k + 1)).map s64).map (Value.int .i64) = ((fxN ys k).map s64).map (Value.int .i64) ++ [.int .i64 (s64 (num ((ys.drop (8 * k)).take 8) : Int))] := by
  rw [fxN_succ, List.map_append, List.map_append]; rfl

set_option maxHeartbeats 800000 in
set_option maxRecDepth 100000 in
/-- SO MANY OF EIGHT BYTES EACH. -/
theorem readFixed_cur {w : World} {R : Nat} {v : Value} {ys : List Int} (h : CurAt 56 w R v ys) (hvb : ∀ k, v.ownBlock = some k → k < w.heap.size) (n : Nat) (hn : n ≤ 65536) :
    Calls Try.prog 26 #[.pointer (some ⟨R, 0, none⟩), .int .i64 n] w fun e w' => ∃ u, e = .returned (.tuple #[u, .int .i64 (rFx ys n).2]) ∧ w'.ownsRow w.heap.size 3 1 u ((rFx ys n).1.map s64).length (((rFx ys n).1.map s64).map (Value.int .i64)) ∧ Only (fun k => k = R) w w' := by
  obtain ⟨i0, hi, hz0, hz1, hz2⟩ := info_parts Try.infoI64
  have hR : R < w.heap.size := (Array.getElem?_eq_some_iff.1 h.cell).1
  have HC := hideIt h
  have HVB := hideIt hvb
  clear h hvb
  go_enter Try.func26, Try.ntmps26
  go_wp2
  go_loopw [6, 10] (fun s i wr => ∃ (k : Nat) (v' : Value), k ≤ n ∧ i = .int .i64 k ∧ wr.ownsRow w.heap.size 3 1 s k (((fxN ys k).map s64).map (Value.int .i64)) ∧ CurAt 56 wr R v' (ys.drop (8 * k)) ∧ v'.ownBlock = v.ownBlock ∧ 8 * k ≤ ys.length ∧ Only (fun k => k = R) w wr) (fun _ i _ => n - (intOf i).toNat)
  case atStart => exact ⟨0, v, Nat.zero_le _, rfl, World.ownsRow_nil _ _ _ _, HC.out, rfl, by omega, Only.refl _ _⟩
  case round =>
    obtain ⟨k, v', hk, rfl, hown, hcur, hob, h8, hon⟩ := hrel
    have HOWN := hideIt hown
    have HON := hideIt hon
    have HOB := hideIt hob
    by_cases hlt : k < n
    · have dlt : decide ((k : Int) < (n : Int)) = true := by simp; omega
      have FX := hideIt (fixed_cur hcur 8)
      by_cases hs : (ys.drop (8 * k)).length < 8
      · rw [sFixed8_short hs] at FX
        have HR : Hid (rFx ys n = ([], 2)) := by
          simp only [Hid]; unfold rFx
          rw [List.length_drop] at hs
          rw [if_pos (by omega)]
        clear hown hcur hob hon hs HC
        go_wp2_with fail
        refine FX.out.mono ?_
        rintro e w2 ⟨rfl, v2, _, _, o2⟩
        have O2 := hideIt (HON.out.trans o2 (fun _ _ e => e))
        clear FX o2 HOWN
        go_wp2
        go_ret2
        rw [HR.out]
        exact ⟨_, rfl, World.ownsRow_nil _ _ _ _, O2.out⟩
      · rw [sFixed8_ok (by omega)] at FX
        have h9 : 8 * (k + 1) ≤ ys.length := by rw [List.length_drop] at hs; omega
        have HST := hideIt (map_s64_snoc ys k)
        have HDR : Hid ((ys.drop (8 * k)).drop 8 = ys.drop (8 * (k + 1))) := by
          simp only [Hid]; rw [List.drop_drop, Nat.mul_add]
        rw [HDR.out] at FX
        have HX : Hid (∀ x : Int, IntKind.i64.wrap x = s64 x) := fun x => by unfold s64 wrap64; exact IntKind.wrap_i64 x
        generalize (num ((ys.drop (8 * k)).take 8) : Int) = x at *
        clear hown hcur hob hon hs HC HDR
        go_wp2_with fail
        refine FX.out.mono ?_
        rintro e w2 ⟨rfl, v2, cur2, ob2, o2⟩
        have O2 := hideIt (HON.out.trans o2 (fun _ _ e => e))
        have own2 := o2.own HOWN.out (fun q hq e => by have := (HOWN.out.lt q hq).1; omega)
        have CUR2 := hideIt cur2
        have OB2 := hideIt (ob2.trans HOB.out)
        have hsz := O2.out.size
        clear FX o2 HOWN HON HOB cur2 ob2
        go_wp2_with (at_builtin; refine wpList_append_lies _ rfl _ _ _ rfl w.heap.size 3 i0 (.int .i64 0) 1 8 Try.underlying22 hi hz0 hz1 hz2 rfl (by omega) _ k _ rfl (own2.alloc _) ⟨w2.heap.size, 0, none⟩ 1 1 [.int .i64 (s64 x)] rfl rfl ?c1 ?c2 (by omega) ?c3 ?c4 ?c5 (w2.heap.size + 1) (by simp) ?_)
        case c1 => first | exact cell_one_new _ _ _ | (rw [← HX.out x]; exact cell_one_new _ _ _)
        case c2 => intro u hu; simp at hu; subst hu; rfl
        case c3 => unfold maxLen; omega
        case c4 => omega
        case c5 => simp; omega
        intro gg cap1 w3 hown1 hgrow hat hg1
        have o3 := hideIt (((Only.refl (fun q => w.heap.size ≤ q) w2).alloc _).grown hgrow (fun p _ hp => (own2.lt p hp).1))
        have own3 : Hid (w3.ownsRow w.heap.size 3 1 (.slice (some ⟨gg, 0, none⟩) (k + 1) cap1) (k + 1) (((fxN ys (k + 1)).map s64).map (Value.int .i64))) := by
          simp only [Hid]
          rw [HST.out, List.map_map]; exact hown1
        clear own2 hown1 hgrow hat
        go_wp2
        go_roundw
        case rel =>
          refine ⟨k + 1, v2, by omega, by go_num, own3.out, CUR2.out.keep o3.out (by omega) (fun q hq e => ?_), OB2.out, h9, O2.out.trans o3.out (fun q hq e => absurd e (by omega))⟩
          rw [OB2.out] at hq
          have := HVB.out q hq
          omega
        case measure => simp [intOf]; omega
    · obtain rfl : k = n := by omega
      have dlt : decide ((k : Int) < (k : Int)) = false := by simp
      have HR : Hid (rFx ys k = (fxN ys k, 0)) := by
        simp only [Hid]; unfold rFx
        rw [if_neg (by omega)]
      clear hown hcur hob hon HC
      go_wp2
      go_ret2
      rw [HR.out]
      refine ⟨_, rfl, ?_, HON.out⟩
      rw [List.length_map, fxN_length]
      exact HOWN.out

theorem rVs_stop {n : Nat} {acc ys : List Int} {a : Int} {k : Nat} {c : Int} (hs : sVarint ys = (a, k, c)) (hc : c ≠ 0) : rVs (n + 1) acc ys = ([], ys, c) := by
  rw [rVs, hs]; simp only [ne_eq]; rw [if_pos hc]
theorem rVs_go {n : Nat} {acc ys : List Int} {a : Int} {k : Nat} (hs : sVarint ys = (a, k, 0)) : rVs (n + 1) acc ys = rVs n (acc ++ [a]) (ys.drop k) := by
  rw [rVs, hs]; simp

set_option maxHeartbeats 800000 in
set_option maxRecDepth 100000 in
/-- SO MANY VARINTS. -/
theorem readVarints_cur {w : World} {R : Nat} {v : Value} {ys : List Int} (h : CurAt 56 w R v ys) (hvb : ∀ k, v.ownBlock = some k → k < w.heap.size) (n : Nat) (hn : n ≤ 65536) :
    Calls Try.prog 50 #[.pointer (some ⟨R, 0, none⟩), .int .i64 n] w fun e w' => ∃ u, e = .returned (.tuple #[u, .int .i64 (rVs n [] ys).2.2]) ∧ w'.ownsRow w.heap.size 48 1 u (rVs n [] ys).1.length ((rVs n [] ys).1.map (Value.int .u64)) ∧ Only (fun k => k = R) w w' := by
  obtain ⟨i0, hi, hz0, hz1, hz2⟩ := info_parts Try.infoU64
  have hR : R < w.heap.size := (Array.getElem?_eq_some_iff.1 h.cell).1
  have HC := hideIt h
  have HVB := hideIt hvb
  clear h hvb
  go_enter Try.func50, Try.ntmps50
  go_wp2
  go_loopw [6, 10] (fun s i wr => ∃ (k g : Nat) (acc ys' : List Int) (v' : Value), k + g = n ∧ i = .int .i64 k ∧ acc.length = k ∧ wr.ownsRow w.heap.size 48 1 s k (acc.map (Value.int .u64)) ∧ CurAt 56 wr R v' ys' ∧ v'.ownBlock = v.ownBlock ∧ Hid (rVs g acc ys' = rVs n [] ys) ∧ Only (fun k => k = R) w wr) (fun _ i _ => n - (intOf i).toNat)
  case atStart => exact ⟨0, n, [], ys, v, by omega, rfl, rfl, World.ownsRow_nil _ _ _ _, HC.out, rfl, rfl, Only.refl _ _⟩
  case round =>
    obtain ⟨k, g, acc, ys', v', hk, rfl, hal, hown, hcur, hob, HRV, hon⟩ := hrel
    have HOWN := hideIt hown
    have HON := hideIt hon
    have HOB := hideIt hob
    have HAL := hideIt hal
    cases g with
    | succ g =>
      have dlt : decide ((k : Int) < (n : Int)) = true := by simp; omega
      have FX := varint_cur hcur
      rcases sVarint_cases hcur.rng with ⟨c, hs, hc⟩ | ⟨a, q, hs, _, _, ha, _⟩
      · rw [hs] at FX
        have FX := hideIt FX
        have HR := HRV.out
        rw [rVs_stop hs (by omega)] at HR
        have HR := hideIt HR
        have dc : (c != 0) = true := by simp; omega
        clear hown hcur hob hon hs HC hal HRV hc
        go_wp2_with fail
        refine FX.out.mono ?_
        rintro e w2 ⟨rfl, v2, _, _, o2⟩
        have O2 := hideIt (HON.out.trans o2 (fun _ _ e => e))
        clear FX o2 HOWN
        go_wp2
        go_ret2
        rw [← HR.out]
        exact ⟨_, rfl, World.ownsRow_nil _ _ _ _, O2.out⟩
      · rw [hs] at FX
        have FX := hideIt FX
        have HR := HRV.out
        rw [rVs_go hs] at HR
        have HR := hideIt HR
        clear hown hcur hob hon hs HC hal HRV
        go_wp2_with fail
        refine FX.out.mono ?_
        rintro e w2 ⟨rfl, v2, cur2, ob2, o2⟩
        have O2 := hideIt (HON.out.trans o2 (fun _ _ e => e))
        have own2 := o2.own HOWN.out (fun q hq e => by have := (HOWN.out.lt q hq).1; omega)
        have CUR2 := hideIt cur2
        have OB2 := hideIt (ob2.trans HOB.out)
        have hsz := O2.out.size
        clear FX o2 HOWN HON HOB cur2 ob2
        go_wp2_with (at_builtin; refine wpList_append_lies _ rfl _ _ _ rfl w.heap.size 48 i0 (.int .u64 0) 1 8 Try.underlying45 hi hz0 hz1 hz2 rfl (by omega) _ k _ rfl (own2.alloc _) ⟨w2.heap.size, 0, none⟩ 1 1 [.int .u64 (a : Int)] rfl rfl ?c1 ?c2 (by omega) ?c3 ?c4 ?c5 (w2.heap.size + 1) (by simp) ?_)
        case c1 => exact cell_one_new _ _ _
        case c2 => intro u hu; simp at hu; subst hu; rfl
        case c3 => unfold maxLen; omega
        case c4 => omega
        case c5 => simp; omega
        intro gg cap1 w3 hown1 hgrow hat hg1
        have o3 := hideIt (((Only.refl (fun q => w.heap.size ≤ q) w2).alloc _).grown hgrow (fun p _ hp => (own2.lt p hp).1))
        have own3 : Hid (w3.ownsRow w.heap.size 48 1 (.slice (some ⟨gg, 0, none⟩) (k + 1) cap1) (k + 1) ((acc ++ [(a : Int)]).map (Value.int .u64))) := by
          simp only [Hid]
          rw [List.map_append]; exact hown1
        clear own2 hown1 hgrow hat
        go_wp2
        go_roundw
        case rel =>
          refine ⟨k + 1, g, acc ++ [(a : Int)], _, v2, by omega, by go_num, by simp [HAL.out], own3.out, CUR2.out.keep o3.out (by omega) (fun q hq e => ?_), OB2.out, HR.out, O2.out.trans o3.out (fun q hq e => absurd e (by omega))⟩
          rw [OB2.out] at hq
          have := HVB.out q hq
          omega
        case measure => simp [intOf]; omega
    | zero =>
      obtain rfl : k = n := by omega
      have dlt : decide ((k : Int) < (k : Int)) = false := by simp
      have HR : Hid (rVs k [] ys = (acc, ys', 0)) := HRV.out.symm
      clear hown hcur hob hon HC hal HRV
      go_wp2
      go_ret2
      rw [HR.out]
      refine ⟨_, rfl, ?_, HON.out⟩
      simp only [HAL.out]
      exact HOWN.out

set_option maxHeartbeats 800000 in
set_option maxRecDepth 100000 in
/-- ZAGS: of a first one and of others. -/
theorem zags_any (x : Int) (v : Value) (l : List Int) (w : World) (h : Bs .u64 w v l) (hu : U64 l) (hl : l.length ≤ 65536) (x0 : 0 ≤ x) (x1 : x ≤ 18446744073709551615) :
    Calls Try.prog 30 #[.int .u64 x, v] w fun e w' => ∃ u, e = .returned u ∧ w'.ownsRow w.heap.size 3 1 u (l.length + 1) ((zag x :: zgn l).map (Value.int .i64)) ∧ Only (fun _ => False) w w' := by
  obtain ⟨i0, hi, hz0, hz1, hz2⟩ := info_parts Try.infoI64
  have ZX := hideIt (zag_any x w x0 x1)
  have HB := hideIt h
  have HU := hideIt hu
  obtain ⟨ao, cap, rfl⟩ := h.len
  obtain ⟨n, hn⟩ : ∃ n, n = l.length := ⟨_, rfl⟩
  rw [← hn] at hl HB
  rw [← hn]
  have HN := hideIt hn
  have START := hideIt (World.ownsRow_lit (base := w.heap.size) (e := 3) (size := 1) w #[.int .i64 (zag x)] 1 (Nat.le_refl _) (by unfold maxLen; omega) rfl)
  obtain ⟨y, hy⟩ : ∃ y, y = zag x := ⟨_, rfl⟩
  rw [← hy] at ZX START ⊢
  clear h hn hu x0 x1 hy
  go_enter Try.func30, Try.ntmps30
  go_wp2_with fail
  refine ZX.out.mono ?_
  rintro e w1 ⟨rfl, rfl⟩
  clear ZX
  go_wp2
  go_loopw [5, 13] (fun s i wr => ∃ k : Nat, k ≤ n ∧ i = .int .i64 k ∧ wr.ownsRow w.heap.size 3 1 s (k + 1) ((y :: zgn (l.take k)).map (Value.int .i64)) ∧ Only (fun _ => False) w wr) (fun _ i _ => n - (intOf i).toNat)
  case atStart => exact ⟨0, Nat.zero_le _, rfl, START.out, (Only.refl _ _).alloc _⟩
  case round =>
    obtain ⟨k, hk, rfl, hown, hon⟩ := hrel
    have HOWN := hideIt hown
    have HON := hideIt hon
    clear START
    by_cases hlt : k < n
    · have dlt : decide ((k : Int) < (n : Int)) = true := by simp; omega
      have hkl : k < l.length := by rw [← HN.out]; exact hlt
      obtain ⟨b, off, cap', e1, hc0⟩ := (HB.out.past hon).at k hkl
      have ea : ao = some ⟨b, off, none⟩ := by simp at e1; exact e1.1
      subst ea
      clear e1
      have hx := HU.out (l.getD k 0) (getD_mem0 l k hkl)
      have HST : Hid ((y :: zgn (l.take (k + 1))).map (Value.int .i64) = (y :: zgn (l.take k)).map (Value.int .i64) ++ [.int .i64 (zag (l.getD k 0))]) := by
        simp only [Hid]; rw [take_snoc l k hkl]; simp [zgn]
      have ZK := hideIt (zag_any (l.getD k 0) wr hx.1 hx.2)
      generalize l.getD k 0 = z at *
      have own2 := HOWN.out
      have hsz := HON.out.size
      clear hown hon HB HU hkl hx
      go_wp2_with fail
      refine ZK.out.mono ?_
      rintro e w2 ⟨rfl, rfl⟩
      clear ZK
      generalize zag z = q at *
      go_wp2_with (at_builtin; refine wpList_append_lies _ rfl _ _ _ rfl w.heap.size 3 i0 (.int .i64 0) 1 8 Try.underlying22 hi hz0 hz1 hz2 rfl (by omega) _ (k + 1) _ rfl (own2.alloc _) ⟨wr.heap.size, 0, none⟩ 1 1 [.int .i64 q] rfl rfl ?c1 ?c2 (by omega) ?c3 ?c4 ?c5 (wr.heap.size + 1) (by simp) ?_)
      case c1 => exact cell_one_new _ _ _
      case c2 => intro u hu; simp at hu; subst hu; rfl
      case c3 => unfold maxLen; omega
      case c4 => omega
      case c5 => simp; omega
      intro gg cap1 w3 hown1 hgrow hat hg1
      have o3 := hideIt ((HON.out.alloc _).grown hgrow (fun p hp0 hp => absurd (own2.lt p hp).1 (by omega)))
      have own3 : Hid (w3.ownsRow w.heap.size 3 1 (.slice (some ⟨gg, 0, none⟩) (k + 1 + 1) cap1) (k + 1 + 1) ((y :: zgn (l.take (k + 1))).map (Value.int .i64))) := by
        simp only [Hid]
        rw [HST.out]; exact hown1
      clear own2 hown1 hgrow hat
      go_wp2
      go_roundw
      case rel => exact ⟨k + 1, by omega, by go_num, own3.out, o3.out⟩
      case measure => simp [intOf]; omega
    · obtain rfl : k = n := by omega
      have dlt : decide ((k : Int) < (k : Int)) = false := by simp
      have F : Hid (wr.ownsRow w.heap.size 3 1 u5 (k + 1) ((y :: zgn l).map (Value.int .i64))) := by
        have h1 := HOWN.out
        rw [HN.out, List.take_length] at h1
        simp only [Hid]
        rw [HN.out]; exact h1
      clear hown hon
      go_wp2
      go_ret
      exact ⟨_, rfl, F.out, HON.out⟩

theorem sBytes_len (ys : List Int) : sBytes ys.length ys = (ys, ys.length, 0) := by
  unfold sBytes
  rw [if_neg (by omega), if_neg (by omega)]
  simp
set_option maxHeartbeats 400000 in
set_option maxRecDepth 100000 in
/-- WHAT IS LEFT. -/
theorem rest_cur {w : World} {R : Nat} {v : Value} {ys : List Int} (h : CurAt 56 w R v ys) :
    Calls Try.prog 47 #[.pointer (some ⟨R, 0, none⟩)] w fun e w' => ∃ u, e = .returned u ∧ Bs .u8 w' u ys ∧ Only (fun k => k = R) w w' := by
  have L := hideIt (Left_cur h)
  have B := bytes_cur h ys.length
  rw [sBytes_len] at B
  have B := hideIt B
  clear h
  go_enter Try.func47, Try.ntmps47
  go_wp2_with fail
  refine L.out.mono ?_
  rintro e w1 ⟨rfl, rfl⟩
  clear L
  go_wp2_with fail
  refine B.out.mono ?_
  rintro e w2 ⟨u, rfl, bs, _, _, v2, _, _, o2⟩
  have F := hideIt (And.intro bs o2)
  obtain ⟨f1, c1, e1⟩ := bs.len
  subst e1
  clear B bs o2
  go_wp2
  go_ret
  exact ⟨_, rfl, F.out⟩
end Go.Proofs.Ytgbimghhdbmjiab

/- Package intcodec: reading a way; Decode. -/
namespace Go.Proofs.Ytgbimghhdbmjiab
open Go.RowKit

set_option maxHeartbeats 400000 in
set_option maxRecDepth 100000 in
theorem oth_two {w : World} {R : Nat} {v : Value} {ys : List Int} (h : CurAt 56 w R v ys) (m : Nat) :
    Calls Try.prog 28 #[.pointer (some ⟨R, 0, none⟩), .int .i64 m, .int .i64 2] w fun e w' => ∃ u, e = .returned (.tuple #[u, .int .i64 (OTH ys m 2).2]) ∧ w'.ownsRow w.heap.size 48 1 u (OTH ys m 2).1.length ((OTH ys m 2).1.map (Value.int .u64)) ∧ Only (fun k => k = R) w w' := by
  have RC := hideIt (rest_cur h)
  have HRG := hideIt h.rng
  have HL := hideIt h.len
  clear h
  go_enter Try.func28, Try.ntmps28
  go_wp2_with fail
  refine RC.out.mono ?_
  rintro e w1 ⟨u, rfl, bs, o1⟩
  have B := hideIt (unpack_bs u ys m w1 bs HRG.out HL.out)
  have O1 := hideIt o1
  obtain ⟨f1, c1, e1⟩ := bs.len
  subst e1
  clear RC bs o1
  go_wp2_with fail
  refine B.out.mono ?_
  rintro e w2 ⟨u2, rfl, own2, o2⟩
  have F := hideIt (And.intro (own_low own2 O1.out.size) (O1.out.trans o2 (fun _ _ f => f.elim)))
  obtain ⟨f2, c2, e2⟩ := (Bs.of_own own2).len
  subst e2
  clear B own2 o2
  go_wp2
  try rw [Exit.noGoto_ret]
  go_ret2
  exact ⟨_, rfl, F.out.1, F.out.2⟩
set_option maxHeartbeats 400000 in
set_option maxRecDepth 100000 in
theorem oth_three {w : World} {R : Nat} {v : Value} {ys : List Int} (h : CurAt 56 w R v ys) (m : Nat) :
    Calls Try.prog 28 #[.pointer (some ⟨R, 0, none⟩), .int .i64 m, .int .i64 3] w fun e w' => ∃ u, e = .returned (.tuple #[u, .int .i64 (OTH ys m 3).2]) ∧ w'.ownsRow w.heap.size 48 1 u (OTH ys m 3).1.length ((OTH ys m 3).1.map (Value.int .u64)) ∧ Only (fun k => k = R) w w' := by
  have RC := hideIt (rest_cur h)
  have HRG := hideIt h.rng
  have HL := hideIt h.len
  clear h
  go_enter Try.func28, Try.ntmps28
  go_wp2_with fail
  refine RC.out.mono ?_
  rintro e w1 ⟨u, rfl, bs, o1⟩
  have B := hideIt (decode_all u ys m w1 bs HRG.out HL.out)
  have O1 := hideIt o1
  obtain ⟨f1, c1, e1⟩ := bs.len
  subst e1
  clear RC bs o1
  go_wp2_with fail
  refine B.out.mono ?_
  rintro e w2 ⟨u2, rfl, own2, o2⟩
  have F := hideIt (And.intro (own_low own2 O1.out.size) (O1.out.trans o2 (fun _ _ f => f.elim)))
  obtain ⟨f2, c2, e2⟩ := (Bs.of_own own2).len
  subst e2
  clear B own2 o2
  go_wp2
  try rw [Exit.noGoto_ret]
  go_ret2
  exact ⟨_, rfl, F.out.1, F.out.2⟩
set_option maxHeartbeats 400000 in
set_option maxRecDepth 100000 in
theorem oth_four {w : World} {R : Nat} {v : Value} {ys : List Int} (h : CurAt 56 w R v ys) (m : Nat) :
    Calls Try.prog 28 #[.pointer (some ⟨R, 0, none⟩), .int .i64 m, .int .i64 4] w fun e w' => ∃ u, e = .returned (.tuple #[u, .int .i64 (OTH ys m 4).2]) ∧ w'.ownsRow w.heap.size 48 1 u (OTH ys m 4).1.length ((OTH ys m 4).1.map (Value.int .u64)) ∧ Only (fun k => k = R) w w' := by
  have RC := hideIt (rest_cur h)
  have HRG := hideIt h.rng
  have HL := hideIt h.len
  clear h
  go_enter Try.func28, Try.ntmps28
  go_wp2_with fail
  refine RC.out.mono ?_
  rintro e w1 ⟨u, rfl, bs, o1⟩
  have B := hideIt (run_decode_all u ys m w1 bs HRG.out HL.out)
  have O1 := hideIt o1
  obtain ⟨f1, c1, e1⟩ := bs.len
  subst e1
  clear RC bs o1
  go_wp2_with fail
  refine B.out.mono ?_
  rintro e w2 ⟨u2, rfl, own2, o2⟩
  have F := hideIt (And.intro (own_low own2 O1.out.size) (O1.out.trans o2 (fun _ _ f => f.elim)))
  obtain ⟨f2, c2, e2⟩ := (Bs.of_own own2).len
  subst e2
  clear B own2 o2
  go_wp2
  try rw [Exit.noGoto_ret]
  go_ret2
  exact ⟨_, rfl, F.out.1, F.out.2⟩
set_option maxHeartbeats 400000 in
set_option maxRecDepth 100000 in
theorem oth_one {w : World} {R : Nat} {v : Value} {ys : List Int} (h : CurAt 56 w R v ys) (hvb : ∀ k, v.ownBlock = some k → k < w.heap.size) (m : Nat) (hm : m ≤ 65536) :
    Calls Try.prog 28 #[.pointer (some ⟨R, 0, none⟩), .int .i64 m, .int .i64 1] w fun e w' => ∃ u, e = .returned (.tuple #[u, .int .i64 (rVs m [] ys).2.2]) ∧ w'.ownsRow w.heap.size 48 1 u (rVs m [] ys).1.length ((rVs m [] ys).1.map (Value.int .u64)) ∧ Only (fun k => k = R) w w' := by
  have B := hideIt (readVarints_cur h hvb m hm)
  clear h hvb hm
  go_enter Try.func28, Try.ntmps28
  go_wp2_with fail
  refine B.out.mono ?_
  rintro e w2 ⟨u2, rfl, own2, o2⟩
  have F := hideIt (And.intro own2 o2)
  obtain ⟨f2, c2, e2⟩ := (Bs.of_own own2).len
  subst e2
  clear B own2 o2
  go_wp2
  try rw [Exit.noGoto_ret]
  go_ret2
  exact ⟨_, rfl, F.out.1, F.out.2⟩
theorem oth_any {w : World} {R : Nat} {v : Value} {ys : List Int} (h : CurAt 56 w R v ys) (hvb : ∀ k, v.ownBlock = some k → k < w.heap.size) (m t : Nat) (hm : m ≤ 65536) (h1 : 1 ≤ t) (h4 : t ≤ 4) :
    Calls Try.prog 28 #[.pointer (some ⟨R, 0, none⟩), .int .i64 m, .int .i64 t] w fun e w' => ∃ u, e = .returned (.tuple #[u, .int .i64 (OTH ys m t).2]) ∧ w'.ownsRow w.heap.size 48 1 u (OTH ys m t).1.length ((OTH ys m t).1.map (Value.int .u64)) ∧ Only (fun k => k = R) w w' := by
  rcases t with _ | _ | _ | _ | _ | t
  · omega
  · exact oth_one h hvb m hm
  · exact oth_two h m
  · exact oth_three h m
  · exact oth_four h m
  · omega

set_option maxHeartbeats 400000 in
set_option maxRecDepth 100000 in
theorem read_nil (R t : Nat) (w : World) :
    Calls Try.prog 14 #[.pointer (some ⟨R, 0, none⟩), .int .i64 0, .int .i64 t] w fun e w' => e = .returned (.tuple #[.slice none 0 0, .int .i64 0]) ∧ w = w' := by
  go_enter Try.func14, Try.ntmps14
  go_wp2
  try rw [Exit.noGoto_ret]
  go_ret2
  exact ⟨rfl, rfl⟩
set_option maxHeartbeats 400000 in
set_option maxRecDepth 100000 in
theorem read_zero {w : World} {R : Nat} {v : Value} {ys : List Int} (h : CurAt 56 w R v ys) (hvb : ∀ k, v.ownBlock = some k → k < w.heap.size) (n : Nat) (hn : n ≤ 65536) (hp : 0 < n) :
    Calls Try.prog 14 #[.pointer (some ⟨R, 0, none⟩), .int .i64 n, .int .i64 0] w fun e w' => ∃ u, e = .returned (.tuple #[u, .int .i64 (rFx ys n).2]) ∧ w'.ownsRow w.heap.size 3 1 u ((rFx ys n).1.map s64).length (((rFx ys n).1.map s64).map (Value.int .i64)) ∧ Only (fun k => k = R) w w' := by
  have B := hideIt (readFixed_cur h hvb n hn)
  have d0 : ((n : Int) == 0) = false := by rw [beq_eq_false_iff_ne]; omega
  generalize (rFx ys n).1.map s64 = z at *
  clear h hvb hn hp
  go_enter Try.func14, Try.ntmps14
  go_wp2_with fail
  refine B.out.mono ?_
  rintro e w2 ⟨u2, rfl, own2, o2⟩
  have F := hideIt (And.intro own2 o2)
  obtain ⟨f2, c2, e2⟩ := (Bs.of_own own2).len
  subst e2
  clear B own2 o2
  go_wp2
  try rw [Exit.noGoto_ret]
  go_ret2
  exact ⟨_, rfl, F.out.1, F.out.2⟩

set_option maxHeartbeats 1600000 in
set_option maxRecDepth 100000 in
/-- A WAY of the other four IS READ. -/
theorem read_other {w : World} {R : Nat} {v : Value} {ys : List Int} (h : CurAt 56 w R v ys) (hvb : ∀ k, v.ownBlock = some k → k < w.heap.size) (m t : Nat) (hm : m < 65536) (h1 : 1 ≤ t) (h4 : t ≤ 4) :
    Calls Try.prog 14 #[.pointer (some ⟨R, 0, none⟩), .int .i64 (m + 1 : Nat), .int .i64 t] w fun e w' => ∃ u, e = .returned (.tuple #[u, .int .i64 (READ ys (m + 1) t).2]) ∧ w'.ownsRow w.heap.size 3 1 u (READ ys (m + 1) t).1.length ((READ ys (m + 1) t).1.map (Value.int .i64)) ∧ Only (fun k => k = R) w w' := by
  have hR : R < w.heap.size := (Array.getElem?_eq_some_iff.1 h.cell).1
  have V := varint_cur h
  have d0 : (((m + 1 : Nat) : Int) == 0) = false := by rw [beq_eq_false_iff_ne]; omega
  have d1 : ((t : Int) == 0) = false := by rw [beq_eq_false_iff_ne]; omega
  have em : ((m + 1 : Nat) : Int) - 1 = (m : Int) := by omega
  have HVB := hideIt hvb
  have hRD : READ ys (m + 1) t = if (sVarint ys).2.2 ≠ 0 then ([], (sVarint ys).2.2) else
      if (OTH (ys.drop (sVarint ys).2.1) m t).2 ≠ 0 then ([], (OTH (ys.drop (sVarint ys).2.1) m t).2) else
      (S (tms t) (zag (sVarint ys).1 :: zgn (OTH (ys.drop (sVarint ys).2.1) m t).1), 0) := by
    unfold READ
    rw [if_neg (by omega), if_neg (by omega), Nat.add_sub_cancel]
  rcases sVarint_cases h.rng with ⟨c, hs, hc⟩ | ⟨a, q, hs, _, _, ha, _⟩
  · rw [hs] at V hRD
    simp only at hRD
    rw [if_pos (by omega)] at hRD
    rw [hRD]
    have V := hideIt V
    have dc : (c != 0) = true := by simp; omega
    clear h hvb hs hRD hc
    go_enter Try.func14, Try.ntmps14
    go_wp2_with fail
    refine V.out.mono ?_
    rintro e w2 ⟨rfl, v2, _, _, o2⟩
    have O2 := hideIt o2
    clear V o2
    go_wp2
    try rw [Exit.noGoto_ret]
    go_ret2
    exact ⟨_, rfl, World.ownsRow_nil _ _ _ _, O2.out⟩
  · rw [hs] at V hRD
    simp only [ne_eq, not_true_eq_false, if_false] at hRD
    have V := hideIt V
    have HYB : Hid (Byt (ys.drop q)) := fun y hy => h.rng y (List.mem_of_mem_drop hy)
    have HOT : Hid (∀ (v2 : Value) (w2 : World), CurAt 56 w2 R v2 (ys.drop q) → v2.ownBlock = v.ownBlock → w.heap.size ≤ w2.heap.size → Calls Try.prog 28 #[.pointer (some ⟨R, 0, none⟩), .int .i64 m, .int .i64 t] w2 fun e w' => ∃ u, e = .returned (.tuple #[u, .int .i64 (OTH (ys.drop q) m t).2]) ∧ w'.ownsRow w2.heap.size 48 1 u (OTH (ys.drop q) m t).1.length ((OTH (ys.drop q) m t).1.map (Value.int .u64)) ∧ Only (fun k => k = R) w2 w') :=
      fun v2 w2 hc ho hz => oth_any hc (fun k hk => by rw [ho] at hk; have := hvb k hk; omega) m t (by omega) h1 h4
    have HTM : Hid (∀ w2, Calls Try.prog 18 #[.int .i64 t] w2 fun e w' => e = .returned (.int .i64 (tms t)) ∧ w2 = w') := fun w2 => times_any t w2 h1 h4
    have HT3 := hideIt (tms_le t)
    by_cases ho : (OTH (ys.drop q) m t).2 = 0
    · have HON := hideIt (OTH_only HYB.out ho)
      rw [if_neg (by simpa using ho)] at hRD
      rw [hRD]
      simp only [S_length, List.length_cons, zgn_length, HON.out.2]
      generalize hW : OTH (ys.drop q) m t = W at *
      obtain ⟨o, c⟩ := W
      simp only at ho HON HOT ⊢
      subst ho
      clear h hvb hs hRD hW
      generalize tms t = k at *
      have ha1 : (a : Int) ≤ 18446744073709551615 := by omega
      obtain ⟨zz, hzz⟩ : ∃ zz, zz = zag a :: zgn o := ⟨_, rfl⟩
      rw [← hzz]
      have HZZ := hideIt hzz
      clear hzz
      go_enter Try.func14, Try.ntmps14
      go_wp2_with fail
      refine V.out.mono ?_
      rintro e w2 ⟨rfl, v2, cur2, ob2, o2⟩
      have OC := hideIt (HOT.out v2 w2 cur2 ob2 o2.size)
      have O2 := hideIt o2
      clear V o2 HOT cur2 ob2
      go_wp2_with fail
      refine OC.out.mono ?_
      rintro e w3 ⟨u3, rfl, own3, o3⟩
      have O3 := hideIt (O2.out.trans o3 (fun _ _ e => e))
      have ZG := hideIt (zags_any a u3 o w3 (Bs.of_own own3) HON.out.1 (by rw [HON.out.2]; omega) (by omega) ha1)
      obtain ⟨f3, c3, e3⟩ := (Bs.of_own own3).len
      rw [HON.out.2] at e3 ZG
      subst e3
      clear OC own3 o3 O2
      go_wp2_with fail
      refine ZG.out.mono ?_
      rintro e w4 ⟨u4, rfl, own4, o4⟩
      have hzl : zz.length = m + 1 := by rw [HZZ.out, List.length_cons, zgn_length, HON.out.2]
      have hbz : Bs .i64 w4 u4 zz := Bs.of_own (by rw [hzl, HZZ.out]; exact own4)
      have SU := hideIt (sum_in u4 zz k w4 hbz (by rw [hzl]; omega) HT3.out)
      have O4 := hideIt (O3.out.trans o4 (fun _ _ f => f.elim))
      obtain ⟨f4, c4, e4⟩ := hbz.len
      rw [hzl] at e4 SU
      subst e4
      clear ZG own4 o4 O3 hbz hzl
      go_wp2_with fail
      refine (HTM.out w4).mono ?_
      rintro e w5 ⟨rfl, rfl⟩
      clear HTM
      go_wp2_with fail
      refine SU.out.mono ?_
      rintro e w6 ⟨u6, rfl, own6, o6⟩
      have F := hideIt (And.intro (own_low own6 O4.out.size) (O4.out.trans o6 (fun _ _ f => f.elim)))
      clear SU o6
      obtain ⟨f6, c6, e6, _, _⟩ := own6.form (by omega)
      subst e6
      clear own6
      go_wp2
      try rw [Exit.noGoto_ret]
      go_ret2
      exact ⟨_, rfl, F.out.1, F.out.2⟩
    · rw [if_pos ho] at hRD
      rw [hRD]
      have HE := hideIt (OTH_err HYB.out ho)
      generalize hW : OTH (ys.drop q) m t = W at *
      obtain ⟨o, c⟩ := W
      simp only at ho HE HOT ⊢
      have dc : (c != 0) = true := by simp; exact ho
      clear h hvb hs hRD hW
      go_enter Try.func14, Try.ntmps14
      go_wp2_with fail
      refine V.out.mono ?_
      rintro e w2 ⟨rfl, v2, cur2, ob2, o2⟩
      have OC := hideIt (HOT.out v2 w2 cur2 ob2 o2.size)
      have O2 := hideIt o2
      clear V o2 HOT cur2 ob2
      go_wp2_with fail
      refine OC.out.mono ?_
      rintro e w3 ⟨u3, rfl, own3, o3⟩
      have O3 := hideIt (O2.out.trans o3 (fun _ _ e => e))
      obtain ⟨f3, c3, e3⟩ := (Bs.of_own own3).len
      subst e3
      clear OC own3 o3 O2
      go_wp2
      try rw [Exit.noGoto_ret]
      go_ret2
      exact ⟨_, rfl, World.ownsRow_nil _ _ _ _, O3.out⟩
theorem read_any {w : World} {R : Nat} {v : Value} {ys : List Int} (h : CurAt 56 w R v ys) (hvb : ∀ k, v.ownBlock = some k → k < w.heap.size) (n t : Nat) (hn : n ≤ 65536) (h4 : t ≤ 4) :
    Calls Try.prog 14 #[.pointer (some ⟨R, 0, none⟩), .int .i64 n, .int .i64 t] w fun e w' => ∃ u, e = .returned (.tuple #[u, .int .i64 (READ ys n t).2]) ∧ w'.ownsRow w.heap.size 3 1 u (READ ys n t).1.length ((READ ys n t).1.map (Value.int .i64)) ∧ Only (fun k => k = R) w w' := by
  by_cases h0 : n = 0
  · subst h0
    refine (read_nil R t w).mono ?_
    rintro e w' ⟨rfl, rfl⟩
    exact ⟨_, rfl, World.ownsRow_nil _ _ _ _, Only.refl _ _⟩
  · by_cases ht : t = 0
    · subst ht
      have e : READ ys n 0 = ((rFx ys n).1.map s64, (rFx ys n).2) := by
        unfold READ
        rw [if_neg h0, if_pos rfl]
      rw [e]
      exact read_zero h hvb n hn (by omega)
    · obtain ⟨m, rfl⟩ : ∃ m, n = m + 1 := ⟨n - 1, by omega⟩
      exact read_other h hvb m t (by omega) (by omega) h4

set_option maxHeartbeats 400000 in
set_option maxRecDepth 100000 in
theorem decode8_arg (v : Value) (n : Int) (w : World) (h : n < 0 ∨ 65536 < n) :
    Calls Try.prog 6 #[v, .int .i64 n] w fun e w' => e = .returned (.tuple #[.slice none 0 0, .int .i64 1]) ∧ w = w' := by
  by_cases h0 : n < 0
  · have d0 : decide (n < 0) = true := decide_eq_true h0
    clear h h0
    go_enter Try.func6, Try.ntmps6
    go_wp2
    try rw [Exit.noGoto_ret]
    go_ret2
    exact ⟨rfl, rfl⟩
  · have d0 : decide (n < 0) = false := decide_eq_false h0
    have d1 : decide (65536 < n) = true := decide_eq_true (by omega)
    clear h h0
    go_enter Try.func6, Try.ntmps6
    go_wp2
    try rw [Exit.noGoto_ret]
    go_ret2
    exact ⟨rfl, rfl⟩
theorem sByte_nil : sByte [] = (0, 0, 2) := rfl
theorem sByte_at (y : Int) (r : List Int) : sByte (y :: r) = (y, 1, 0) := by simp [sByte]
set_option maxHeartbeats 800000 in
set_option maxRecDepth 100000 in
/-- THE INTS OF BYTES. -/
theorem decode8_bs (v : Value) (ys : List Int) (n : Nat) (w : World) (h : Bs .u8 w v ys) (hr : Byt ys) (hl : ys.length ≤ 1000000000000) (hn : n ≤ 65536) :
    Calls Try.prog 6 #[v, .int .i64 n] w fun e w' => ∃ u, e = .returned (.tuple #[u, .int .i64 (DEC8 ys n).2]) ∧ w'.ownsRow w.heap.size 3 1 u (DEC8 ys n).1.length ((DEC8 ys n).1.map (Value.int .i64)) ∧ Only (fun _ => False) w w' := by
  have NW := hideIt (new_bs v ys w h hr hl)
  have HB := hideIt h
  have d0 : decide ((n : Int) < 0) = false := by simp
  have d1 : decide ((65536 : Int) < (n : Int)) = false := decide_eq_false (by omega)
  have eD : DEC8 ys n = if ys = [] then ([], 2) else if 4 < ys.getD 0 0 then ([], 3) else
      if (READ (ys.drop 1) n (ys.getD 0 0).toNat).2 ≠ 0 then ([], (READ (ys.drop 1) n (ys.getD 0 0).toNat).2) else
      if (ENC8 (READ (ys.drop 1) n (ys.getD 0 0).toNat).1).1 = ys then ((READ (ys.drop 1) n (ys.getD 0 0).toNat).1, 0) else ([], 3) := by
    unfold DEC8
    rw [if_neg (by omega)]
    rfl
  have HRG := hideIt hr
  obtain ⟨ao, cap, rfl⟩ := h.len
  clear h hl
  cases ys with
  | nil =>
    rw [eD, if_pos rfl]
    clear eD hr
    go_enter Try.func6, Try.ntmps6
    go_wp2_with fail
    refine NW.out.mono ?_
    rintro e w1 ⟨R, v1, rfl, cur1, o1, hR0, hR1, hV1⟩
    have BY := byte_cur cur1
    rw [sByte_nil] at BY
    have BY := hideIt BY
    have O1 := hideIt o1
    clear NW cur1 o1 hV1
    go_wp2_with fail
    refine BY.out.mono ?_
    rintro e w2 ⟨rfl, v2, _, _, o2⟩
    have O2 := hideIt (O1.out.trans o2 (fun k hk e => by omega))
    clear BY o2
    go_wp2
    try rw [Exit.noGoto_ret]
    go_ret2
    exact ⟨_, rfl, World.ownsRow_nil _ _ _ _, O2.out⟩
  | cons y r =>
    have hy := hr y List.mem_cons_self
    rw [if_neg (by simp), List.getD_cons_zero, List.drop_succ_cons, List.drop_zero] at eD
    obtain ⟨t, rfl⟩ : ∃ t : Nat, y = t := ⟨y.toNat, by omega⟩
    rw [Int.toNat_natCast] at eD
    have t255 : (t : Int) ≤ 255 := hy.2
    by_cases ht : 4 < t
    · rw [if_pos (by omega)] at eD
      rw [eD]
      have IT := hideIt (fun w2 => istag_no (t : Int) w2 (.inr (by omega)))
      obtain ⟨N, hN⟩ : ∃ N, N = ((t : Int) :: r).length := ⟨_, rfl⟩
      rw [← hN] at NW HB ⊢
      clear eD hr hy hN
      go_enter Try.func6, Try.ntmps6
      go_wp2_with fail
      refine NW.out.mono ?_
      rintro e w1 ⟨R, v1, rfl, cur1, o1, hR0, hR1, hV1⟩
      have BY := byte_cur cur1
      rw [sByte_at] at BY
      have BY := hideIt BY
      have O1 := hideIt o1
      clear NW cur1 o1 hV1
      go_wp2_with fail
      refine BY.out.mono ?_
      rintro e w2 ⟨rfl, v2, _, _, o2⟩
      have O2 := hideIt (O1.out.trans o2 (fun k hk e => by omega))
      clear BY o2
      go_wp2_with fail
      refine (IT.out w2).mono ?_
      rintro e w3 ⟨rfl, rfl⟩
      clear IT
      go_wp2
      try rw [Exit.noGoto_ret]
      go_ret2
      exact ⟨_, rfl, World.ownsRow_nil _ _ _ _, O2.out⟩
    · rw [if_neg (by omega)] at eD
      have IT := hideIt (fun w2 => istag_yes (t : Int) w2 (by omega) (by omega))
      have RD : Hid (∀ (R : Nat) (v2 : Value) (w2 : World), CurAt 56 w2 R v2 r → (∀ k, v2.ownBlock = some k → k < w2.heap.size) → Calls Try.prog 14 #[.pointer (some ⟨R, 0, none⟩), .int .i64 n, .int .i64 t] w2 fun e w' => ∃ u, e = .returned (.tuple #[u, .int .i64 (READ r n t).2]) ∧ w'.ownsRow w2.heap.size 3 1 u (READ r n t).1.length ((READ r n t).1.map (Value.int .i64)) ∧ Only (fun k => k = R) w2 w') :=
        fun R v2 w2 hc hv => read_any hc hv n t hn (by omega)
      have HOK : Hid ((READ r n t).2 = 0 → I64s (READ r n t).1 ∧ (READ r n t).1.length = n) := fun h0 => READ_ok (fun z hz => hr z (List.mem_cons_of_mem _ hz)) h0
      have HER : Hid ((READ r n t).2 ≠ 0 → (READ r n t).1 = []) := fun h0 => READ_err h0
      obtain ⟨zs, hzs⟩ : ∃ zs, zs = ((t : Int) :: r) := ⟨_, rfl⟩
      obtain ⟨N, hN⟩ : ∃ N, N = ((t : Int) :: r).length := ⟨_, rfl⟩
      rw [← hzs] at eD HRG
      rw [← hN] at NW HB ⊢
      have HN : Hid (N = zs.length) := by simp only [Hid]; rw [hzs]; exact hN
      have NW2 : Hid (Calls Try.prog 11 #[Value.slice ao N cap] w fun e w' => ∃ R v', e = .returned (.pointer (some ⟨R, 0, none⟩)) ∧ CurAt 56 w' R v' ((t : Int) :: r) ∧ Only (fun _ => False) w w' ∧ w.heap.size ≤ R ∧ R < w'.heap.size ∧ (∀ k, v'.ownBlock = some k → w.heap.size ≤ k ∧ k < w'.heap.size)) := NW
      have HBZ : Hid (Bs .u8 w (.slice ao N cap) zs) := by simp only [Hid]; rw [hzs]; exact HB.out
      rw [← hzs]
      generalize DEC8 zs n = DD at *
      generalize READ r n t = RR at *
      obtain ⟨l, c⟩ := RR
      simp only at RD HOK HER eD
      clear hr hy hN hzs NW HB
      go_enter Try.func6, Try.ntmps6
      go_wp2_with fail
      refine NW2.out.mono ?_
      rintro e w1 ⟨R, v1, rfl, cur1, o1, hR0, hR1, hV1⟩
      have BY := byte_cur cur1
      rw [sByte_at] at BY
      have BY := hideIt BY
      have O1 := hideIt o1
      have HV1 := hideIt hV1
      clear NW2 cur1 o1 hV1
      go_wp2_with fail
      refine BY.out.mono ?_
      rintro e w2 ⟨rfl, v2, cur2, ob2, o2⟩
      have O2 := hideIt (O1.out.trans o2 (fun k hk e => by omega))
      have RA := hideIt (RD.out R v2 w2 cur2 (fun k hk => by rw [ob2] at hk; have := (HV1.out k hk).2; have := o2.size; omega))
      clear BY o2 cur2 ob2 RD
      go_wp2_with fail
      refine (IT.out w2).mono ?_
      rintro e w3 ⟨rfl, rfl⟩
      clear IT
      go_wp2_with fail
      refine RA.out.mono ?_
      rintro e w3 ⟨u3, rfl, own3, o3⟩
      have O3 := hideIt (O2.out.trans o3 (fun k hk e => by omega))
      have OWN3 := hideIt (own_low own3 O2.out.size)
      obtain ⟨f3, c3, e3⟩ := (Bs.of_own own3).len
      subst e3
      clear RA own3 o3
      by_cases hc : c = 0
      · subst hc
        obtain ⟨hg, hlen⟩ := HOK.out rfl
        rw [if_neg (by simp)] at eD
        have EN := encode8_all _ l w3 (Bs.of_own OWN3.out) hg
        have HEB := hideIt (ENC8_byt hg)
        have EN := hideIt EN
        obtain ⟨m, hm⟩ : ∃ m, m = l.length := ⟨_, rfl⟩
        rw [← hm] at EN OWN3 ⊢
        have HM := hideIt hm
        generalize ENC8 l = E at *
        obtain ⟨E1, Ec⟩ := E
        simp only at EN HEB eD
        have HED := hideIt eD
        clear hg hlen HOK HER eD hm
        go_wp2_with fail
        refine EN.out.mono ?_
        rintro e w4 ⟨u4, rfl, own4, o4⟩
        have O4 := hideIt (O3.out.same o4)
        have OWN4 := hideIt (o4.own OWN3.out (fun _ _ f => f))
        have EQ := hideIt (equal_bs u4 (.slice ao N cap) E1 zs w4 (Bs.of_own own4) (HBZ.out.past O4.out) HEB.out HRG.out)
        obtain ⟨f4, c4, e4⟩ := (Bs.of_own own4).len
        subst e4
        clear EN own4 o4
        by_cases heq : E1 = zs
        · have de : decide (E1 = zs) = true := decide_eq_true heq
          rw [de] at EQ
          rw [if_pos heq] at HED
          have eE := HED.out
          subst eE
          clear heq de HED
          generalize E1.length = e1 at *
          go_wp2_with fail
          refine EQ.out.mono ?_
          rintro e w5 ⟨rfl, rfl⟩
          clear EQ
          go_wp2
          try rw [Exit.noGoto_ret]
          go_ret2
          refine ⟨_, rfl, ?_, O4.out⟩
          simp only [← HM.out]
          exact OWN4.out
        · have de : decide (E1 = zs) = false := decide_eq_false heq
          rw [de] at EQ
          rw [if_neg heq] at HED
          have eE := HED.out
          subst eE
          clear heq de HED
          generalize E1.length = e1 at *
          go_wp2_with fail
          refine EQ.out.mono ?_
          rintro e w5 ⟨rfl, rfl⟩
          clear EQ
          go_wp2
          try rw [Exit.noGoto_ret]
          go_ret2
          exact ⟨_, rfl, World.ownsRow_nil _ _ _ _, O4.out⟩
      · have dc : (c != 0) = true := by simp; exact hc
        rw [if_pos hc] at eD
        subst eD
        clear HOK HER OWN3
        generalize l.length = m at *
        go_wp2
        try rw [Exit.noGoto_ret]
        go_ret2
        exact ⟨_, rfl, World.ownsRow_nil _ _ _ _, O3.out⟩
theorem decode8_all (v : Value) (ys : List Int) (n : Int) (w : World) (h : Bs .u8 w v ys) (hr : Byt ys) (hl : ys.length ≤ 1000000000000) :
    Calls Try.prog 6 #[v, .int .i64 n] w fun e w' => ∃ u, e = .returned (.tuple #[u, .int .i64 (DEC8 ys n).2]) ∧ w'.ownsRow w.heap.size 3 1 u (DEC8 ys n).1.length ((DEC8 ys n).1.map (Value.int .i64)) ∧ Only (fun _ => False) w w' := by
  by_cases hn : n < 0 ∨ 65536 < n
  · have e : DEC8 ys n = ([], 1) := by unfold DEC8; rw [if_pos hn]
    rw [e]
    refine (decode8_arg v n w hn).mono ?_
    rintro e w' ⟨rfl, rfl⟩
    exact ⟨_, rfl, World.ownsRow_nil _ _ _ _, Only.refl _ _⟩
  · obtain ⟨m, rfl⟩ := Int.eq_ofNat_of_zero_le (show 0 ≤ n by omega)
    exact decode8_bs v ys m w h hr hl (by omega)
end Go.Proofs.Ytgbimghhdbmjiab

/- Contract of the reference's Same: equal ints are the same. -/
namespace Go.Proofs.Ytgbimghhdbmjiab
open Go.RowKit

set_option maxHeartbeats 400000 in
set_option maxRecDepth 100000 in
/-- EQUAL INTS ARE THE SAME: nothing is written. -/
theorem isame_q (va vb : Value) (xs : List Int) (w : World) (ha : Bs .i64 w va xs) (hb : Bs .i64 w vb xs) (hl : xs.length ≤ 140737488355328) :
    Calls Try.prog 8 #[va, vb] w fun e w' => e = .returned (.bool true) ∧ ∃ m, w' = w.drewN m := by
  obtain ⟨aoa, ca, rfl, hca, hra⟩ := ha
  obtain ⟨aob, cb, rfl, hcb, hrb⟩ := hb
  have hbn : ((xs.length : Int) != (xs.length : Int)) = false := by simp
  by_cases hx : xs = []
  · subst hx
    clear hra hrb
    simp only [List.length_nil]
    go_enter Try.func8, Try.ntmps8
    go_wp2
    go_loop [5] (fun i => i = .int .i64 0) (fun _ => 0)
    case atStart => rfl
    case round =>
      subst hrel
      go_wp2
      go_ret
      exact ⟨rfl, 0, rfl⟩
  · obtain ⟨ba, oa, rfl, hcella⟩ := hra hx
    obtain ⟨bb, ob, rfl, hcellb⟩ := hrb hx
    clear hra hrb hx
    obtain ⟨n, hn⟩ : ∃ n, n = xs.length := ⟨_, rfl⟩
    rw [← hn] at hbn hca hcb hcella hcellb hl ⊢
    have HA : Hid (∀ j, j < n → w.cell? ⟨ba, oa + j, none⟩ = some (.int .i64 (xs.getD j 0))) := hcella
    have HB : Hid (∀ j, j < n → w.cell? ⟨bb, ob + j, none⟩ = some (.int .i64 (xs.getD j 0))) := hcellb
    clear hcella hcellb hn
    go_enter Try.func8, Try.ntmps8
    go_wp2
    go_loopw [5] (fun i wr => ∃ k : Nat, k ≤ n ∧ i = .int .i64 k ∧ ∃ m, wr = w.drewN m) (fun i _ => n - (intOf i).toNat)
    case atStart => exact ⟨0, Nat.zero_le _, rfl, 0, rfl⟩
    case round =>
      obtain ⟨k, hk, rfl, md, hmd⟩ := hrel
      have hon : Only (fun _ => False) w wr := by rw [hmd]; exact (Only.refl _ _).drewN md
      have HMD := hideIt hmd
      clear hmd
      by_cases hlt : k < n
      · obtain ⟨y, hy⟩ : ∃ y, y = xs.getD k 0 := ⟨_, rfl⟩
        have h1 : wr.cell? ⟨ba, oa + k, none⟩ = some (.int .i64 y) := by
          have := HA.out k hlt
          rw [World.cell?_of_block (hon.block ba (World.block_lt_of_cell? w _ this) (fun f => f)), hy]; exact this
        have h2 : wr.cell? ⟨bb, ob + k, none⟩ = some (.int .i64 y) := by
          have := HB.out k hlt
          rw [World.cell?_of_block (hon.block bb (World.block_lt_of_cell? w _ this) (fun f => f)), hy]; exact this
        have i0 : (0 : Int) ≤ (k : Int) := by omega
        have i1 : (k : Int) < (n : Int) := by omega
        have hy1 : (y != y) = false := by simp
        clear hy
        go_wp2
        go_quiet (fail)
        go_wp2
        go_roundw
        case rel => exact ⟨k + 1, by omega, by go_num, md + nq, by rw [HMD.out, World.drewN_drewN]⟩
        case measure => simp [intOf]; omega
      · go_wp2
        go_ret
        exact ⟨rfl, md, HMD.out⟩
theorem isame_eq (va vb : Value) (xs : List Int) (w : World) (ha : Bs .i64 w va xs) (hb : Bs .i64 w vb xs) (hl : xs.length ≤ 140737488355328) :
    Calls Try.prog 8 #[va, vb] w fun e w' => e = .returned (.bool true) ∧ Only (fun _ => False) w w' := by
  refine (isame_q va vb xs w ha hb hl).mono ?_
  rintro e w' ⟨rfl, m, rfl⟩
  exact ⟨rfl, (Only.refl _ _).drewN m⟩

end Go.Proofs.Ytgbimghhdbmjiab

/- The head of each statement on a list of ints: the document's example holds. -/
namespace Go.Proofs.Ytgbimghhdbmjiab
open Go.RowKit

theorem WAY8_len {l : List Int} (hg : I64s l) (tag : Int) : (WAY8 l tag).1.length ≤ 20000000 := by
  unfold WAY8
  by_cases ht : tag < 0 ∨ 4 < tag
  · rw [if_pos ht]; decide
  · rw [if_neg ht]
    by_cases hl : 65536 < l.length
    · rw [if_pos hl]; decide
    · rw [if_neg hl]
      by_cases hne : l = []
      · subst hne; rw [WAY_nil]; decide
      · by_cases h0 : tag.toNat = 0
        · rw [h0, WAY_zero]
          simp only [fx_length]; omega
        · by_cases hw : (WAY l tag.toNat).2 = 0
          · obtain ⟨_, e⟩ := WAY_ok hne h0 hw
            rw [e]
            have hp : 0 < l.length := List.length_pos_iff.2 hne
            have hz := zD_u64 hg (tms tag.toNat)
            have h1 := WOTH_len (hz.drop 1) (by rw [List.length_drop, zD_length]; omega) tag.toNat
            have h2 := getD_u64 hz (by rw [zD_length]; exact hp)
            have h3 := gs_le10 (v := ((zsn (D (tms tag.toNat) l)).getD 0 0).toNat) (by omega)
            simp only [List.length_append]; omega
          · rw [WAY_err (by omega) hw]; decide

set_option maxHeartbeats 800000 in
set_option maxRecDepth 100000 in
theorem awake_any (w : World) :
    Calls Try.prog 4 #[] w fun e w' => e = .returned (.bool true) ∧ Only (fun _ => False) w w' := by
  have A := encode8_all (.slice (some ⟨w.heap.size, 0, none⟩) 4 4) [10, 20, 30, 40] (w.alloc (.cells #[.int .i64 10, .int .i64 20, .int .i64 30, .int .i64 40] 3)) (Bs.litN .i64 w 3 [10, 20, 30, 40] _ _ rfl rfl) i64_ex
  rw [ENC8_ex] at A
  have A := hideIt A
  go_enter Try.func4, Try.ntmps4
  go_wp2_with fail
  refine A.out.mono ?_
  rintro e w1 ⟨v1, rfl, own1, o1⟩
  have O1 := hideIt (((Only.refl (fun _ => False) w).alloc (.cells #[.int .i64 10, .int .i64 20, .int .i64 30, .int .i64 40] 3)).same o1)
  have B1 := hideIt (Bs.of_own own1)
  have B := decode8_all (.slice (some ⟨w1.heap.size, 0, none⟩) 4 4) [2, 20, 20, 0] 4 (w1.alloc (.cells #[.int .u8 2, .int .u8 20, .int .u8 20, .int .u8 0] 5)) (Bs.litN .u8 w1 5 [2, 20, 20, 0] _ _ rfl rfl) (by intro x hx; simp at hx; omega) (by decide)
  rw [DEC8_ex] at B
  have B := hideIt B
  obtain ⟨f1, c1, e1⟩ := B1.out.len
  subst e1
  clear A own1 o1
  go_wp2_with fail
  refine B.out.mono ?_
  rintro e w2 ⟨v2, rfl, own2, o2⟩
  have O2 := hideIt ((O1.out.alloc (.cells #[.int .u8 2, .int .u8 20, .int .u8 20, .int .u8 0] 5)).same o2)
  have B2 := hideIt (Bs.of_own own2)
  have on12 : Only (fun _ => False) w1 w2 := ((Only.refl (fun _ => False) w1).alloc (.cells #[.int .u8 2, .int .u8 20, .int .u8 20, .int .u8 0] 5)).same o2
  have SM := hideIt (same_eq _ (.slice (some ⟨w2.heap.size, 0, none⟩) 4 4) [2, 20, 20, 0] (w2.alloc (.cells #[.int .u8 2, .int .u8 20, .int .u8 20, .int .u8 0] 5)) ((B1.out.past on12).later ((Below.refl _ _).alloc (Nat.le_refl _) _)) (Bs.litN .u8 w2 5 [2, 20, 20, 0] _ _ rfl rfl) (by decide))
  obtain ⟨f2, c2, e2⟩ := B2.out.len
  subst e2
  clear B own2 o2 on12
  go_wp2_with fail
  refine SM.out.mono ?_
  rintro e w3 ⟨rfl, o3⟩
  have O3 := hideIt ((O2.out.alloc (.cells #[.int .u8 2, .int .u8 20, .int .u8 20, .int .u8 0] 5)).same o3)
  have on23 : Only (fun _ => False) w2 w3 := ((Only.refl (fun _ => False) w2).alloc (.cells #[.int .u8 2, .int .u8 20, .int .u8 20, .int .u8 0] 5)).same o3
  have SU := hideIt (isame_eq _ (.slice (some ⟨w3.heap.size, 0, none⟩) 4 4) [10, 20, 30, 40] (w3.alloc (.cells #[.int .i64 10, .int .i64 20, .int .i64 30, .int .i64 40] 3)) ((B2.out.past on23).later ((Below.refl _ _).alloc (Nat.le_refl _) _)) (Bs.litN .i64 w3 3 [10, 20, 30, 40] _ _ rfl rfl) (by decide))
  clear SM o3 on23
  go_wp2_with fail
  refine SU.out.mono ?_
  rintro e w4 ⟨rfl, o4⟩
  have O4 := hideIt ((O3.out.alloc (.cells #[.int .i64 10, .int .i64 20, .int .i64 30, .int .i64 40] 3)).same o4)
  clear SU o4
  go_wp2
  go_ret
  exact ⟨rfl, O4.out⟩
end Go.Proofs.Ytgbimghhdbmjiab
