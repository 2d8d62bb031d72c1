/- The walk of BitsWrites: it answers true, and nothing that was there is turned. -/
import Derived.Test.YtngikldljpildaaRBytes
import Derived.Deep.RegionWith
import Derived.Deep.RegionHeld3
namespace Go.Proofs.Ytngikldljpildaa
open Go.RowKit

theorem bs_len {w : World} {v : Value} {l : List Bool} (h : Bs .i64 w v (bitsI l)) : ∃ ao cap, v = .slice ao l.length cap := by
  obtain ⟨ao, cap, rfl, _⟩ := h
  exact ⟨ao, cap, by rw [bitsI_length]⟩
/-- PUT with its answer named. -/
theorem put_z {w : World} {lo B : Nat} {v : Value} {l : List Bool} (h : WrAt 27 5 w lo B v l) (x width z : Int) (x0 : 0 ≤ x) (x1 : x ≤ 18446744073709551615) (hl : l.length ≤ 1000000000) (hz : Hid (z = if 0 ≤ width ∧ width ≤ 64 ∧ (wid x.toNat : Int) ≤ width then 0 else 1)) :
    Calls Try.prog 11 #[.pointer (some ⟨B, 0, none⟩), .int .u64 x, .int .i64 width] w fun e w' => e = .returned (.int .i64 z) ∧
      ∃ v', WrAt 27 5 w' lo B v' (l ++ pb (x, width)) ∧ Only (Foot B v) w w' ∧ Stays w v v' := by
  refine (put_any h x width x0 x1 hl).mono ?_
  rintro e w' ⟨z', rfl, hz', r⟩
  exact ⟨by rw [hz'.out, ← hz.out], r⟩

/-- THE REFERENCE's PUT, whatever the number and the width. -/
theorem rput_any (v : Value) (l : List Bool) (x width : Int) (w : World) (h : Bs .i64 w v (bitsI l)) (hnc : NoCap v) (hl : l.length ≤ 1000000) (x0 : 0 ≤ x) (x1 : x ≤ 18446744073709551615) :
    Calls Try.prog 10 #[v, .int .u64 x, .int .i64 width] w fun e w' => ∃ v' z, e = .returned (.tuple #[v', .int .i64 z]) ∧ Hid (z = if 0 ≤ width ∧ width ≤ 64 ∧ (wid x.toNat : Int) ≤ width then 0 else 1) ∧
      Bs .i64 w' v' (bitsI (l ++ pb (x, width))) ∧ Only (fun _ => False) w w' ∧ (v'.ownBlock = v.ownBlock ∨ ∀ q, v'.ownBlock = some q → w.heap.size ≤ q ∧ q < w'.heap.size) ∧ NoCap v' := by
  by_cases hf : 0 ≤ width ∧ width ≤ 64 ∧ (wid x.toNat : Int) ≤ width
  · refine (rput_bs v l x width w h hnc hl hf.1 hf.2.1 x0 x1 hf.2.2).mono ?_
    rintro e w' ⟨v', rfl, h1, h2, h3, h4⟩
    have e : pb (x, width) = bitsOf x.toNat width.toNat := by unfold pb; rw [if_pos hf]
    exact ⟨v', 0, rfl, by simp only [Hid]; rw [if_pos hf], by rw [e]; exact h1, h2, .inr h3, h4⟩
  · have e : pb (x, width) = [] := by unfold pb; rw [if_neg hf]
    by_cases hw : width < 0 ∨ 64 < width
    · refine (rput_width v x width w hw).mono ?_
      rintro e' w' ⟨rfl, rfl⟩
      exact ⟨v, 1, rfl, by simp only [Hid]; rw [if_neg hf], by rw [e, List.append_nil]; exact h, Only.refl _ _, .inl rfl, hnc⟩
    · refine (rput_big v x width w (by omega) (by omega) x0 x1 (by omega)).mono ?_
      rintro e' w' ⟨rfl, rfl⟩
      exact ⟨v, 1, rfl, by simp only [Hid]; rw [if_neg hf], by rw [e, List.append_nil]; exact h, Only.refl _ _, .inl rfl, hnc⟩

set_option maxHeartbeats 3200000 in
set_option maxRecDepth 100000 in
theorem writes_walk (v0 : Value) (its : List (Int × Int)) (w : World) (h0 : Its w v0 its) (hys : ∀ x ∈ its, 0 ≤ x.1 ∧ x.1 ≤ 18446744073709551615) :
    Calls Try.prog 3 #[v0] w fun e w' => e = .returned (.bool true) ∧ Below w.heap.size w w' := by
  have H0 := hideIt h0
  have HY := hideIt hys
  clear hys
  obtain ⟨ao, cap, hv0, _⟩ := h0
  by_cases h200 : (its.length : Int) ≤ 200
  case neg =>
    subst hv0
    go_enter Try.func3, Try.ntmps3
    go_wp2_with fail
    refine (awake_any _).mono ?_
    rintro e w0 ⟨rfl, ho0⟩
    go_wp2
    go_ret
    exact ⟨rfl, ho0.low (Nat.le_refl _)⟩
  obtain ⟨m, hm⟩ : ∃ m, m = its.length := ⟨_, rfl⟩
  have HM := hideIt hm
  rw [← hm] at h200 hv0
  subst hv0
  have hle : decide (200 < (m : Int)) = false := by simp; omega
  clear hm
  go_enter Try.func3, Try.ntmps3
  go_wp2_with fail
  refine (awake_any _).mono ?_
  rintro e w0 ⟨rfl, ho0⟩
  have b0 : Below w.heap.size w w0 := ho0.low (Nat.le_refl _)
  go_wp2
  go_loopw [5, 6] (fun o i wr => ∃ (k : Nat) (vw : Value), k ≤ m ∧ i = .int .i64 k ∧ WrAt 27 5 wr (w0.heap.size + 1) w0.heap.size vw (allP (its.take k)) ∧ Bs .i64 wr o (bitsI (allP (its.take k))) ∧ NoCap o ∧ (∀ q, o.ownBlock = some q → q < wr.heap.size ∧ ¬ Foot w0.heap.size vw q) ∧ Below w.heap.size w wr)
    (fun _ i _ => m - (intOf i).toNat)
  case atStart =>
    exact ⟨0, .slice none 0 0, Nat.zero_le _, rfl, by simpa [allP] using WrAt.new (T := 27) (E := 5) w0, ⟨none, 0, rfl, Nat.le_refl _, fun h => absurd rfl h⟩, fun m c e => by simp at e; exact e.2.symm, fun q hq => by simp [Value.ownBlock] at hq, b0.alloc b0.size _⟩
  case round =>
    obtain ⟨k, vw, hk, rfl, hwr, hbs, hnc, hfo, hbel⟩ := hrel
    have hll : (allP (its.take k)).length ≤ 64 * k := by
      have := allP_length (its.take k)
      rw [List.length_take] at this; omega
    by_cases hlt : k < m
    · have hlt' : k < its.length := by have := HM.out; omega
      obtain ⟨b, off, cap', e1, hbw, hc0, hc1⟩ := H0.out.at k hlt'
      have ea : ao = some ⟨b, off, none⟩ := by simp at e1; exact e1.1
      subst ea
      clear e1
      have hd0 := (hbel.cell (p := ⟨b, off + k * 2, none⟩) hbw).trans hc0
      have hd1 := (hbel.cell (p := ⟨b, off + k * 2 + 1, none⟩) hbw).trans hc1
      obtain ⟨x, hx⟩ : ∃ x, x = (its.getD k (0, 0)).1 := ⟨_, rfl⟩
      obtain ⟨y, hy⟩ : ∃ y, y = (its.getD k (0, 0)).2 := ⟨_, rfl⟩
      have hxb : 0 ≤ x ∧ x ≤ 18446744073709551615 := by
        rw [hx]; refine HY.out _ ?_
        rw [List.getD_eq_getElem?_getD, List.getElem?_eq_getElem hlt']; simp
      have hxy : its.getD k (0, 0) = (x, y) := by rw [hx, hy]
      have AT := hideIt (allP_take its k hlt')
      rw [hxy] at AT
      rw [← hx] at hd0 hc0
      rw [← hy] at hd1 hc1
      have i0 : (0 : Int) ≤ (k : Int) := by omega
      have i1 : (k : Int) < (m : Int) := by omega
      have C0 := hideIt hc0
      have C1 := hideIt hc1
      clear hc0 hc1 hx hy hxy
      have WR := hideIt (hwr.keep ((Only.refl (fun _ => False) wr).drew) (fun f => f) (fun _ _ f => f))
      have BSd := hideIt (hbs.keep ((Only.refl (fun _ => False) wr).drew) (fun _ _ f => f))
      have BL := hideIt hbel.drew
      have FO := hideIt hfo
      have NC := hideIt hnc
      have hl1 : (allP (its.take k)).length ≤ 1000000 := by omega
      clear hwr hbs hbel hfo hnc hll
      go_wp2
      go_region_held3 (fun w' => w'.cell? ⟨b, off + k * 2, none⟩ = some (.int .u64 x) ∧ w'.cell? ⟨b, off + k * 2 + 1, none⟩ = some (.int .i64 y)) (go_keep) ((go_at_call 10; refine (rput_any _ _ x y _ BSd.out NC.out hl1 hxb.1 hxb.2).mono ?_; rintro e w2 ⟨v2, z, rfl, hz, hbs2, ho2, how2, hnc2⟩; have hbx := BL.out.trans (ho2.low BL.out.size); have hq0 := (hbx.cell (p := ⟨b, off + k * 2, none⟩) hbw).trans C0.out; have hq1 := (hbx.cell (p := ⟨b, off + k * 2 + 1, none⟩) hbw).trans C1.out))
      have WR2 := hideIt ((WR.out.keep ho2 (fun f => f) (fun _ _ f => f)))
      have BL2 := hideIt (BL.out.trans (ho2.low BL.out.size))
      have FO2 : Hid (∀ q, v2.ownBlock = some q → q < w2.heap.size ∧ ¬ Foot w0.heap.size vw q) := by
        intro q hq
        rcases how2 with e | e
        · rw [e] at hq
          have := FO.out q hq
          exact ⟨Nat.lt_of_lt_of_le this.1 ho2.size, this.2⟩
        · have := e q hq
          refine ⟨this.2, fun hf => ?_⟩
          rcases hf with hf | hf
          · have := WR.out.le; omega
          · have := (WR.out.own.lt q hf).2; omega
      obtain ⟨ao2, cap2, hv2⟩ := bs_len hbs2
      obtain ⟨n2, hn2⟩ : ∃ n2, n2 = (allP (its.take k) ++ pb (x, y)).length := ⟨_, rfl⟩
      rw [← hn2] at hv2
      have HN2 := hideIt hn2
      clear hn2
      have BS2 := hideIt hbs2
      have NC2 := hideIt hnc2
      have hzz : (z != z) = false := by simp
      have WR2d := hideIt (WR2.out.keep ((Only.refl (fun _ => False) w2).drew) (fun f => f) (fun _ _ f => f))
      clear WR BSd BL FO NC hbs2 ho2 how2 hnc2 hd0 hd1 hbx
      subst hv2
      go_wp2
      have hl2 : (allP (its.take k)).length ≤ 1000000000 := by omega
      go_region_held3 (fun w' => w'.cell? ⟨b, off + k * 2, none⟩ = some (.int .u64 x) ∧ w'.cell? ⟨b, off + k * 2 + 1, none⟩ = some (.int .i64 y)) (go_keep) (first | (go_at_call 11; refine (put_z WR2d.out x y z hxb.1 hxb.2 hl2 hz).mono ?_; rintro e w3 ⟨rfl, v3, hwr3, ho3, hs3⟩; have b3 := BL2.out.drew.trans (Only.below (a := w2.drew) ho3 BL2.out.size (WR2d.out.foot_ge b0.size)); have hd0'' := (b3.cell (p := ⟨b, off + k * 2, none⟩) hbw).trans C0.out; have hd1'' := (b3.cell (p := ⟨b, off + k * 2 + 1, none⟩) hbw).trans C1.out) | (go_at_call 12; refine (width_any _ _ hxb.1 hxb.2).mono ?_; rintro e wz ⟨rfl, rfl⟩) | (go_at_call 13; refine (rwidth_any _ _ hxb.1 hxb.2).mono ?_; rintro e wz ⟨rfl, rfl⟩))
      have HW3 := hideIt hwr3
      have HO3 := hideIt ho3
      have BS3 := hideIt (BS2.out.keep (w' := w3) ((Only.refl (Foot w0.heap.size vw) w2).drew.trans ho3 (fun _ _ h => h)) (fun q hq => (FO2.out q hq).2))
      have FO3 : Hid (∀ q, (Value.slice ao2 n2 cap2).ownBlock = some q → q < w3.heap.size ∧ ¬ Foot w0.heap.size v3 q) := by
        intro q hq
        have h1 := FO2.out q hq
        refine ⟨Nat.lt_of_lt_of_le h1.1 ho3.size, fun hf => h1.2 (foot_stays (w := w2.drew) hs3 q h1.1 hf)⟩
      have B3 := hideIt b3
      have hne2 : ((n2 : Int) != (n2 : Int)) = false := by simp
      clear hwr3 ho3 hs3 b3 WR2 BL2 WR2d BS2 FO2 hz
      go_wp2_with fail
      refine (len_wr HW3.out).mono ?_
      rw [← HN2.out]
      rintro e wz ⟨rfl, rfl⟩
      go_wp2
      go_roundw
      case rel => exact ⟨k + 1, v3, by omega, by go_num, by rw [AT.out]; exact HW3.out, by rw [AT.out]; exact BS3.out, NC2.out, FO3.out, B3.out⟩
      case measure => simp [intOf]; omega
    · have hkm : k = m := by omega
      subst hkm
      rw [List.take_of_length_le (by have := HM.out; omega)] at hwr hbs hll
      go_wp2_with fail
      refine (bytes_wr hwr (by omega)).mono ?_
      rintro e w2 ⟨v2, rfl, hown2, ho2⟩
      have bs2 := hbs.keep ho2 (fun _ _ f => f)
      have b2 := hbel.trans (ho2.low hbel.size)
      have s2 := Bs.of_own hown2
      clear hown2 hwr hbs hbel hfo
      go_wp2_with fail
      refine (rbytes_bs _ _ _ bs2 (by omega)).mono ?_
      rintro e w3 ⟨v3, rfl, hown3, ho3⟩
      have S3 := hideIt (Bs.of_own hown3)
      have S2 := hideIt (s2.keep ho3 (fun _ _ f => f))
      have B3 := hideIt (b2.trans (ho3.low b2.size))
      clear hown3 ho3 b2 s2 bs2 ho2
      go_wp2_with fail
      refine (same_eq _ _ _ _ S2.out S3.out (by rw [bytesI_length]; unfold nb; omega)).mono ?_
      rintro e w4 ⟨rfl, ho4⟩
      go_wp2
      go_ret
      exact ⟨rfl, B3.out.trans (ho4.low B3.out.size)⟩
end Go.Proofs.Ytngikldljpildaa
