/- The reference for a list of ints: Encode. -/
import Derived.Test.YtgbimghhdbmjiaaGreatRw8
namespace Go.Proofs.YtgbimghhdbmjiaaGreat
open Go.RowKit

set_option maxHeartbeats 400000 in
set_option maxRecDepth 100000 in
theorem rencode8_long (v : Value) (l : List Int) (w : World) (h : Bs .i64 w v l) (hl : 65536 < l.length) :
    Calls Tryz.prog 18 #[v] w fun e w' => e = .returned (.tuple #[.slice none 0 0, .int .i64 4]) ∧ w = w' := by
  obtain ⟨ao, cap, rfl⟩ := h.len
  have d0 : decide ((65536 : Int) < l.length) = true := decide_eq_true (by omega)
  clear h hl
  generalize l.length = n at *
  go_enter Tryz.func18, Tryz.ntmps18
  go_wp2
  try rw [Exit.noGoto_ret]
  go_ret2
  exact ⟨rfl, rfl⟩

set_option maxHeartbeats 1600000 in
set_option maxRecDepth 100000 in
theorem rencode8_bs (v : Value) (l : List Int) (w : World) (h : Bs .i64 w v l) (nc : NoCap v) (hg : I64s l) (hl : l.length ≤ 700) :
    Calls Tryz.prog 18 #[v] w fun e w' => ∃ u, e = .returned (.tuple #[u, .int .i64 0]) ∧ w'.ownsRow w.heap.size 5 1 u (((pick l 4).1 : Int) :: (pick l 4).2).length ((((pick l 4).1 : Int) :: (pick l 4).2).map (Value.int .u8)) ∧ Only (fun _ => False) w w' := by
  obtain ⟨i0, hi, hz0, hz1, hz2⟩ := info_parts Tryz.infoU8
  have WY : Hid (∀ (t : Nat) (w1 : World), t ≤ 4 → Only (fun _ => False) w w1 → Calls Tryz.prog 34 #[v, .int .i64 t] w1 fun e w' => ∃ u, e = .returned (.tuple #[u, .int .i64 (WAY l t).2]) ∧ w'.ownsRow w1.heap.size 5 1 u (WAY l t).1.length ((WAY l t).1.map (Value.int .u8)) ∧ Only (fun _ => False) w1 w') :=
    fun t w1 ht o => by
      have := rway_any v l t w1 (h.past o) nc hg (.inl hl)
      rw [WAY8_nat (by omega) t ht] at this
      exact this
  have HP : Hid (∀ t, (pick l t).1 ≤ t ∧ (pick l t).2.length ≤ 8 * l.length) := fun t => ⟨(pick_spec l t).1, pick_len l t⟩
  have HPS : Hid (∀ t, pick l (t + 1) = if (WAY l (t + 1)).2 = 0 ∧ (WAY l (t + 1)).1.length < (pick l t).2.length then (t + 1, (WAY l (t + 1)).1) else pick l t) := fun t => rfl
  have HP0 : Hid (pick l 0 = (0, (WAY l 0).1) ∧ (WAY l 0).2 = 0) := ⟨rfl, by rw [WAY_zero]⟩
  obtain ⟨pp, hpp⟩ : ∃ pp, pp = ((pick l 4).1 : Int) :: (pick l 4).2 := ⟨_, rfl⟩
  rw [← hpp]
  have HPP := hideIt hpp
  obtain ⟨ao, cap, rfl⟩ := h.len
  have d0 : decide ((65536 : Int) < l.length) = false := decide_eq_false (by omega)
  clear h hg hpp nc
  go_enter Tryz.func18, Tryz.ntmps18
  go_wp2
  go_loopw [4, 5, 6] (fun s4 s5 s6 wr => ∃ t : Nat, t ≤ 5 ∧ s6 = .int .i64 t ∧ Only (fun _ => False) w wr ∧ ((t = 0 ∧ s4 = .int .i64 (-1) ∧ s5 = .slice none 0 0) ∨ (∃ t', t = t' + 1 ∧ s4 = .int .i64 ((pick l t').1 : Nat) ∧ wr.ownsRow w.heap.size 5 1 s5 (pick l t').2.length ((pick l t').2.map (Value.int .u8))))) (fun _ _ s6 _ => 5 - (intOf s6).toNat)
  case atStart => exact ⟨0, by omega, rfl, Only.refl _ _, .inl ⟨rfl, rfl, rfl⟩⟩
  case round =>
    obtain ⟨t, ht, rfl, hon, hcase⟩ := hrel
    have HON := hideIt hon
    clear hon
    rcases hcase with ⟨rfl, rfl, rfl⟩ | ⟨t', rfl, rfl, hown⟩
    · have WT := WY.out 0 wr (by omega) HON.out
      have hp0 := HP0.out
      rw [hp0.2] at WT
      have WT := hideIt WT
      have HQ := hideIt hp0.1
      generalize (WAY l 0).1 = W1 at *
      clear hp0 WY HPS HP HP0
      go_wp2_with fail
      refine WT.out.mono ?_
      rintro e w3 ⟨v3, rfl, own3, o3⟩
      clear WT
      have OW3 := hideIt (own_low own3 HON.out.size)
      have O3 := hideIt (HON.out.same o3)
      obtain ⟨f3, c3, e3⟩ := (Bs.of_own own3).len
      subst e3
      clear own3 o3
      generalize hn1 : W1.length = n1 at *
      go_wp2
      go_roundw
      case rel =>
        refine ⟨1, by omega, by simp, O3.out, .inr ⟨0, rfl, ?_, ?_⟩⟩
        · rw [HQ.out]; rfl
        · rw [HQ.out]
          simp only [hn1]
          exact OW3.out
      case measure => simp [intOf]
    · have HOWN := hideIt hown
      obtain ⟨f2, c2, e2⟩ := (Bs.of_own hown).len
      subst e2
      clear hown
      have hp1 := (HP.out t').1
      have HPL := hideIt (HP.out t').2
      have HST := hideIt (HPS.out t')
      have dm : decide (((pick l t').1 : Int) < 0) = false := decide_eq_false (by omega)
      by_cases hlt : t' < 4
      · have dlt : decide (((t' + 1 : Nat) : Int) ≤ 4) = true := decide_eq_true (by omega)
        have WT := hideIt (WY.out (t' + 1) wr (by omega) HON.out)
        generalize WAY l (t' + 1) = W at *
        obtain ⟨W1, c⟩ := W
        simp only at WT HST
        obtain ⟨pn, hpn⟩ : ∃ pn, pn = pick l (t' + 1) := ⟨_, rfl⟩
        rw [← hpn] at HST
        have HPN := hideIt hpn
        generalize pick l t' = p at *
        obtain ⟨p1, p2⟩ := p
        simp only at HOWN HST hp1 HPL dm
        clear hpn WY HPS HP HP0
        go_wp2_with fail
        refine WT.out.mono ?_
        rintro e w3 ⟨v3, rfl, own3, o3⟩
        clear WT
        have OW3 := hideIt (own_low own3 HON.out.size)
        have OWP := hideIt (o3.own HOWN.out (fun _ _ f => f))
        have O3 := hideIt (HON.out.same o3)
        obtain ⟨f3, c3, e3⟩ := (Bs.of_own own3).len
        subst e3
        clear own3 o3
        by_cases hc : c = 0
        · subst hc
          by_cases hlen : W1.length < p2.length
          · have dl : decide ((W1.length : Int) < (p2.length : Int)) = true := decide_eq_true (by omega)
            rw [if_pos ⟨rfl, hlen⟩] at HST
            generalize hn1 : W1.length = n1 at *
            generalize hn2 : p2.length = n2 at *
            go_wp2
            go_roundw
            case rel =>
              refine ⟨t' + 2, by omega, by simp; omega, O3.out, .inr ⟨t' + 1, rfl, ?_, ?_⟩⟩
              · rw [← HPN.out, HST.out]; simp
              · rw [← HPN.out, HST.out]
                simp only [hn1]
                exact OW3.out
            case measure => simp [intOf]; omega
          · have dl : decide ((W1.length : Int) < (p2.length : Int)) = false := decide_eq_false (by omega)
            rw [if_neg (fun hh => hlen hh.2)] at HST
            generalize hn1 : W1.length = n1 at *
            generalize hn2 : p2.length = n2 at *
            go_wp2
            go_roundw
            case rel =>
              refine ⟨t' + 2, by omega, by simp; omega, O3.out, .inr ⟨t' + 1, rfl, ?_, ?_⟩⟩
              · rw [← HPN.out, HST.out]
              · rw [← HPN.out, HST.out]
                simp only [hn2]
                exact OWP.out
            case measure => simp [intOf]; omega
        · have dc : (c == 0) = false := by rw [beq_eq_false_iff_ne]; exact hc
          rw [if_neg (fun hh => hc hh.1)] at HST
          generalize hn2 : p2.length = n2 at *
          go_wp2
          go_roundw
          case rel =>
            refine ⟨t' + 2, by omega, by simp; omega, O3.out, .inr ⟨t' + 1, rfl, ?_, ?_⟩⟩
            · rw [← HPN.out, HST.out]
            · rw [← HPN.out, HST.out]
              simp only [hn2]
              exact OWP.out
          case measure => simp [intOf]; omega
      · obtain rfl : t' = 4 := by omega
        clear HST HPS HP HP0 WY
        generalize pick l 4 = p at *
        obtain ⟨p1, p2⟩ := p
        simp only at HOWN hp1 HPL HPP dm
        have hq256 : (p1 : Int) < 256 := by omega
        have oA : Only (fun _ => False) wr (wr.alloc (.cells #[.int .u8 p1] 5)) := (Only.refl _ _).alloc _
        have ow := World.ownsRow_lit (base := w.heap.size) (e := 5) (size := 1) wr #[.int .u8 p1] 1 HON.out.size (by unfold maxLen; omega) rfl
        have HB4 := hideIt ((Bs.of_own HOWN.out).past oA)
        have NC4 := hideIt (NoCap.of_own HOWN.out)
        have O4 := hideIt (HON.out.same oA)
        have hs4 : w.heap.size ≤ (wr.alloc (.cells #[.int .u8 p1] 5)).heap.size := O4.out.size
        clear oA HOWN
        go_wp2_with (at_builtin; refine wpList_append_bs _ rfl _ _ _ rfl w.heap.size 5 i0 (.int .u8 0) 1 Tryz.underlying22 hi hz0 hz1 hz2 rfl _ _ _ rfl ow .u8 _ p2 rfl HB4.out NC4.out ?c3 ?c4 hs4 ?_)
        case c3 => have := HPL.out; unfold maxLen; omega
        case c4 => have := HPL.out; omega
        intro v6 w6 own6 hgrow6 _ _
        have OWN6 : Hid (w6.ownsRow w.heap.size 5 1 v6 pp.length (pp.map (Value.int .u8))) := by
          simp only [Hid]; rw [HPP.out, List.length_cons, List.map_cons, Nat.add_comm]; exact own6
        have O6 := hideIt (O4.out.grown hgrow6 (fun k hk e => absurd (ow.lt k e).1 (by omega)))
        obtain ⟨f6, c6, e6⟩ := (Bs.of_own OWN6.out).len
        subst e6
        clear ow own6 hgrow6
        go_wp2
        try rw [Exit.noGoto_ret]
        go_ret2
        exact ⟨_, rfl, OWN6.out, O6.out⟩
theorem rencode8_all (v : Value) (l : List Int) (w : World) (h : Bs .i64 w v l) (nc : NoCap v) (hg : I64s l) (hl : l.length ≤ 700 ∨ 65536 < l.length) :
    Calls Tryz.prog 18 #[v] w fun e w' => ∃ u, e = .returned (.tuple #[u, .int .i64 (ENC8 l).2]) ∧ w'.ownsRow w.heap.size 5 1 u (ENC8 l).1.length ((ENC8 l).1.map (Value.int .u8)) ∧ Only (fun _ => False) w w' := by
  unfold ENC8
  by_cases hl2 : 65536 < l.length
  · rw [if_pos hl2]
    refine (rencode8_long v l w h hl2).mono ?_
    rintro e w' ⟨rfl, rfl⟩
    exact ⟨_, rfl, World.ownsRow_nil _ _ _ _, Only.refl _ _⟩
  · rw [if_neg hl2]
    exact rencode8_bs v l w h nc hg (by omega)
end Go.Proofs.YtgbimghhdbmjiaaGreat
