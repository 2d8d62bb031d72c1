/- The document's own answer: the words of 64 bytes. -/
import Derived.Test.YtiolgenaefillaaGreatG3
import Derived.Test.YtiolgenaefillaaGreatG7
import Derived.Test.YtiolgenaefillaaGreatG4
import Derived.Deep.RegionHeld3
import Derived.Deep.RegionLaw
namespace Go.Proofs.YtiolgenaefillaaGreat
open Go.RowKit

theorem or4 (a b c d : Nat) (ha : a < 256) (hb : b < 256) (hc : c < 256) (hd : d < 256) :
    bits .or .u32 (bits .or .u32 (bits .or .u32 (IntKind.u32.wrap ((a : Int) * 16777216)) (IntKind.u32.wrap ((b : Int) * 65536))) (IntKind.u32.wrap ((c : Int) * 256))) (d : Int) = ((a * 16777216 + b * 65536 + c * 256 + d : Nat) : Int) := by
  rw [IntKind.wrap_u32', IntKind.wrap_u32', IntKind.wrap_u32', show (a : Int) * 16777216 % 4294967296 = ((a * 16777216 : Nat) : Int) by omega, show (b : Int) * 65536 % 4294967296 = ((b * 65536 : Nat) : Int) by omega, show (c : Int) * 256 % 4294967296 = ((c * 256 : Nat) : Int) by omega]
  have e1 : a * 16777216 ||| b * 65536 = a * 16777216 + b * 65536 := by
    have := Nat.two_pow_add_eq_or_of_lt (i := 24) (b := b * 65536) (by omega) a
    rw [Nat.mul_comm a]; exact this.symm
  have e2 : (a * 16777216 + b * 65536) ||| c * 256 = a * 16777216 + b * 65536 + c * 256 := by
    have := Nat.two_pow_add_eq_or_of_lt (i := 16) (b := c * 256) (by omega) (a * 256 + b)
    rw [show a * 16777216 + b * 65536 = 2 ^ 16 * (a * 256 + b) by omega]; exact this.symm
  have e3 : (a * 16777216 + b * 65536 + c * 256) ||| d = a * 16777216 + b * 65536 + c * 256 + d := by
    have := Nat.two_pow_add_eq_or_of_lt (i := 8) (b := d) (by omega) (a * 65536 + b * 256 + c)
    rw [show a * 16777216 + b * 65536 + c * 256 = 2 ^ 8 * (a * 65536 + b * 256 + c) by omega]; exact this.symm
  rw [u32_or_nat _ _ (by omega) (by omega), e1, u32_or_nat _ _ (by omega) (by omega), e2, u32_or_nat _ _ (by omega) (by omega), e3]
set_option maxHeartbeats 1600000 in
set_option maxRecDepth 100000 in
theorem rwords_any (v : Value) (p : List Int) (w : World) (hb : Bs .u8 w v p) (hp : p.length = 64) (h8 : U8 p) (hv : ∀ k, v.ownBlock = some k → k < w.heap.size) :
    Calls Tryz.prog 107 #[v] w fun e w' => ∃ v', e = .returned v' ∧ w'.ownsRow w.heap.size 124 1 v' 64 (wl (wds p)) ∧ Only (fun _ => False) w w' := by
  obtain ⟨i0, hi, hz0, hz1, hz2⟩ := info_parts Tryz.infoU32
  obtain ⟨ao, cap, e0, hcap, hr⟩ := hb
  obtain ⟨bb, off, rfl, hcell⟩ := hr (by intro h; rw [h] at hp; cases hp)
  rw [hp] at e0 hcell
  subst e0
  have hbb : bb < w.heap.size := hv bb rfl
  have HC := hideIt hcell
  have H8 := hideIt h8
  have hcap' : 64 ≤ cap := by omega
  clear hcell h8 hv hr
  obtain ⟨F, hF⟩ : ∃ F : Nat → List Value, F = fun t => wl ((List.range t).map (wd4 p)) := ⟨_, rfl⟩
  have F0 : Hid (F 0 = []) := by rw [hF]; exact rfl
  have FN : Hid (∀ t, F (t + 1) = F t ++ [((wd4 p t : Nat) : Int)].map (Value.int .u32)) := fun t => by
    rw [hF]; simp only; rw [range_next, wl_app]; rfl
  have F16 : Hid (F 16 = wl (wv p 16)) := by rw [hF]; exact rfl
  obtain ⟨D, hD⟩ : ∃ D, D = wl (wds p) := ⟨_, rfl⟩
  rw [← hD]
  have HD := hideIt hD
  clear hF hD hp
  go_enter Tryz.func107, Tryz.ntmps107
  go_wp2
  go_loopw [3, 4] (fun o i wr => ∃ t : Nat, t ≤ 16 ∧ i = .int .i64 t ∧ wr.ownsRow w.heap.size 124 1 o t (F t) ∧ Only (fun _ => False) w wr) (fun _ i _ => 16 - (intOf i).toNat)
  case atStart => exact ⟨0, by omega, rfl, by rw [F0.out]; exact World.ownsRow_nil _ _ _ _, Only.refl _ _⟩
  case round =>
    obtain ⟨t, ht, rfl, hown, hon⟩ := hrel
    obtain ⟨ao1, cap1, rfl⟩ := own_form hown
    have hsz := hon.size
    by_cases hlt : t < 16
    · have hcw : ∀ j, j < 64 → wr.cell? ⟨bb, off + j, none⟩ = some (.int .u8 (p.getD j 0)) := fun j hj => by
        have := HC.out j hj
        rw [World.cell?_of_block (hon.block bb hbb (fun f => f))]; exact this
      obtain ⟨a, ea, la⟩ := u8_nat H8.out (4 * t)
      obtain ⟨b, eb, lb⟩ := u8_nat H8.out (4 * t + 1)
      obtain ⟨c, ec, lc⟩ := u8_nat H8.out (4 * t + 2)
      obtain ⟨d, ed, ld⟩ := u8_nat H8.out (4 * t + 3)
      have c0 := hcw (4 * t) (by omega)
      have c1 := hcw (4 * t + 1) (by omega)
      have c2 := hcw (4 * t + 2) (by omega)
      have c3 := hcw (4 * t + 3) (by omega)
      rw [ea] at c0
      rw [eb] at c1
      rw [ec] at c2
      rw [ed] at c3
      have hwd : wd4 p t = a * 16777216 + b * 65536 + c * 256 + d := by unfold wd4; rw [ea, eb, ec, ed]; rfl
      have HOR := hideIt (or4 a b c d la lb lc ld)
      rw [← hwd] at HOR
      have HFN := hideIt (FN.out t)
      obtain ⟨k0, f0⟩ : ∃ k, k = 4 * t := ⟨_, rfl⟩
      obtain ⟨k1, f1⟩ : ∃ k, k = 4 * t + 1 := ⟨_, rfl⟩
      obtain ⟨k2, f2⟩ : ∃ k, k = 4 * t + 2 := ⟨_, rfl⟩
      obtain ⟨k3, f3⟩ : ∃ k, k = 4 * t + 3 := ⟨_, rfl⟩
      rw [← f0] at c0
      rw [← f1] at c1
      rw [← f2] at c2
      rw [← f3] at c3
      have g0 : 4 * (t : Int) = (k0 : Int) := by omega
      have g1 : (k0 : Int) + 1 = (k1 : Int) := by omega
      have g2 : (k0 : Int) + 2 = (k2 : Int) := by omega
      have g3 : (k0 : Int) + 3 = (k3 : Int) := by omega
      have m0 : (k0 : Int) < 64 := by omega
      have m1 : (k1 : Int) < 64 := by omega
      have m2 : (k2 : Int) < 64 := by omega
      have m3 : (k3 : Int) < 64 := by omega
      have r0 : IntKind.i64.wrap (k0 : Int) = (k0 : Int) := by rw [IntKind.wrap_i64]; omega
      have r1 : IntKind.i64.wrap (k1 : Int) = (k1 : Int) := by rw [IntKind.wrap_i64]; omega
      have r2 : IntKind.i64.wrap (k2 : Int) = (k2 : Int) := by rw [IntKind.wrap_i64]; omega
      have r3 : IntKind.i64.wrap (k3 : Int) = (k3 : Int) := by rw [IntKind.wrap_i64]; omega
      have u0 : IntKind.u32.wrap (a : Int) = (a : Int) := by rw [IntKind.wrap_u32']; omega
      have u1 : IntKind.u32.wrap (b : Int) = (b : Int) := by rw [IntKind.wrap_u32']; omega
      have u2 : IntKind.u32.wrap (c : Int) = (c : Int) := by rw [IntKind.wrap_u32']; omega
      have u3 : IntKind.u32.wrap (d : Int) = (d : Int) := by rw [IntKind.wrap_u32']; omega
      have NB : (Value.slice ao1 t cap1).ownBlock ≠ some bb := fun e => by have := hown.lt bb e; omega
      have KA : Hid (∀ W W4 : World, (W.cell? ⟨bb, off + k0, none⟩ = some (Value.int .u8 a) ∧ W.cell? ⟨bb, off + k1, none⟩ = some (Value.int .u8 b) ∧ W.cell? ⟨bb, off + k2, none⟩ = some (Value.int .u8 c) ∧ W.cell? ⟨bb, off + k3, none⟩ = some (Value.int .u8 d)) → W.grownBy W4 (Value.slice ao1 t cap1).ownBlock → (W4.cell? ⟨bb, off + k0, none⟩ = some (Value.int .u8 a) ∧ W4.cell? ⟨bb, off + k1, none⟩ = some (Value.int .u8 b) ∧ W4.cell? ⟨bb, off + k2, none⟩ = some (Value.int .u8 c) ∧ W4.cell? ⟨bb, off + k3, none⟩ = some (Value.int .u8 d))) := fun W W4 ⟨q0, q1, q2, q3⟩ hg => ⟨grown_cell hg NB q0, grown_cell hg NB q1, grown_cell hg NB q2, grown_cell hg NB q3⟩
      have HON := hideIt hon
      have HOWN := hideIt hown
      clear NB ea eb ec ed hwd f0 f1 f2 f3 hcw hon hown la lb lc ld
      obtain ⟨X, hX⟩ : ∃ X, X = bits .or .u32 (bits .or .u32 (bits .or .u32 (IntKind.u32.wrap ((a : Int) * 16777216)) (IntKind.u32.wrap ((b : Int) * 65536))) (IntKind.u32.wrap ((c : Int) * 256))) (d : Int) := ⟨_, rfl⟩
      rw [← hX] at HOR
      have hX' := hX.symm
      have BL := hideIt (Bs.litN .u32 wr 124 [X] _ _ rfl rfl)
      have OWA := hideIt (HOWN.out.alloc (.cells #[.int .u32 X] 124))
      clear hX
      go_wp2
      go_region_held3 (fun W => W.cell? ⟨bb, off + k0, none⟩ = some (Value.int .u8 a) ∧ W.cell? ⟨bb, off + k1, none⟩ = some (Value.int .u8 b) ∧ W.cell? ⟨bb, off + k2, none⟩ = some (Value.int .u8 c) ∧ W.cell? ⟨bb, off + k3, none⟩ = some (Value.int .u8 d)) (first | go_keep | exact KA.out _ _ (by assumption) hgrow') (first | (refine step_append_bs rfl (.tmp 14) (.tmp 48) 120 rfl w.heap.size 124 i0 (.int .u32 0) 4 Tryz.underlying120 hi hz0 hz1 hz2 rfl _ t (F t) rfl OWA.out .u32 _ [X] rfl BL.out (NoCap.some _ _ _) (by simp [maxLen]; omega) (by simp; omega) (by simp; omega) ?_; intro v' w4 hown' hgrow'))
      have N1 : Hid (w4.ownsRow w.heap.size 124 1 v' (t + 1) (F (t + 1))) := by
        show _
        rw [HFN.out, ← HOR.out]; exact hown'
      have N2 : Hid (Only (fun _ => False) w w4) := ((HON.out.alloc _).drew).grown hgrow' (fun k hk e => by have := HOWN.out.lt k e; omega)
      clear hown' hgrow' KA BL OWA HOR hX' HOWN HON HFN
      go_simp
      go_wp2
      go_roundw
      case rel => exact ⟨t + 1, by omega, by go_num, N1.out, N2.out⟩
      case measure => simp [intOf]; omega
    · obtain rfl : t = 16 := by omega
      rw [F16.out] at hown
      have HON := hideIt hon
      have HOWN := hideIt hown
      obtain ⟨W2, hW2⟩ : ∃ W2, W2 = wr := ⟨_, rfl⟩
      subst hW2
      clear hon hown F0 FN F16 HC
      go_wp2
      go_loopw [3, 5] (fun o i wr => ∃ t : Nat, 16 ≤ t ∧ t ≤ 64 ∧ i = .int .i64 t ∧ wr.ownsRow w.heap.size 124 1 o t (wl (wv p t)) ∧ Only (fun _ => False) w wr) (fun _ i _ => 64 - (intOf i).toNat)
      case atStart => exact ⟨16, by omega, by omega, rfl, HOWN.out, HON.out⟩
      case round =>
        obtain ⟨t, ht1, ht2, rfl, hown, hon⟩ := hrel
        clear HOWN HON
        obtain ⟨g, cap2, rfl⟩ : ∃ g cap2, u3 = .slice (some ⟨g, 0, none⟩) t cap2 := by
          rcases hown.2 with ⟨_, h0⟩ | ⟨g, cap, cur, h, _⟩
          · omega
          · exact ⟨g, cap, h⟩
        have hsz3 := hon.size
        by_cases hlt : t < 64
        · have hvl := wv_len p t ht1
          have hv32 : W32 (wv p t) := by
            have := wv_w32 p H8.out (t - 16)
            rwa [show 16 + (t - 16) = t by omega] at this
          have hbs : Bs .u32 wr (.slice (some ⟨g, 0, none⟩) t cap2) (wi (wv p t)) := Bs.of_own (by rw [wi_len, hvl, wi_map]; exact hown)
          have hcell : ∀ k, k < t → wr.cell? ⟨g, k, none⟩ = some (.int .u32 (((wv p t).getD k 0 : Nat) : Int)) := fun k hk => by
            have := ws_cell hbs k (by omega)
            rwa [Nat.zero_add] at this
          have hnx := nextw_eq (wv p t) t hvl
          obtain ⟨a2, e2⟩ : ∃ a, a = (wv p t).getD (t - 2) 0 := ⟨_, rfl⟩
          obtain ⟨a7, e7⟩ : ∃ a, a = (wv p t).getD (t - 7) 0 := ⟨_, rfl⟩
          obtain ⟨a15, e15⟩ : ∃ a, a = (wv p t).getD (t - 15) 0 := ⟨_, rfl⟩
          obtain ⟨a16, e16⟩ : ∃ a, a = (wv p t).getD (t - 16) 0 := ⟨_, rfl⟩
          have c2 := hcell (t - 2) (by omega)
          have c7 := hcell (t - 7) (by omega)
          have c15 := hcell (t - 15) (by omega)
          have c16 := hcell (t - 16) (by omega)
          have b2 := hv32.at (t - 2)
          have b15 := hv32.at (t - 15)
          rw [← e2] at c2 b2
          rw [← e7] at c7
          rw [← e15] at c15 b15
          rw [← e16] at c16
          rw [← e2, ← e7, ← e15, ← e16] at hnx
          obtain ⟨k2, f2⟩ : ∃ k, k = t - 2 := ⟨_, rfl⟩
          obtain ⟨k7, f7⟩ : ∃ k, k = t - 7 := ⟨_, rfl⟩
          obtain ⟨k15, f15⟩ : ∃ k, k = t - 15 := ⟨_, rfl⟩
          obtain ⟨k16, f16⟩ : ∃ k, k = t - 16 := ⟨_, rfl⟩
          rw [← f2] at c2
          rw [← f7] at c7
          rw [← f15] at c15
          rw [← f16] at c16
          have m2 : (k2 : Int) < (t : Int) := by omega
          have m7 : (k7 : Int) < (t : Int) := by omega
          have m15 : (k15 : Int) < (t : Int) := by omega
          have m16 : (k16 : Int) < (t : Int) := by omega
          have l2 : k2 < t := by omega
          have l7 : k7 < t := by omega
          have l15 : k15 < t := by omega
          have l16 : k16 < t := by omega
          have g2 : (t : Int) - 2 = (k2 : Int) := by omega
          have g7 : (t : Int) - 7 = (k7 : Int) := by omega
          have g15 : (t : Int) - 15 = (k15 : Int) := by omega
          have g16 : (t : Int) - 16 = (k16 : Int) := by omega
          have r7 : IntKind.i64.wrap (k7 : Int) = (k7 : Int) := by rw [IntKind.wrap_i64]; omega
          have r16 : IntKind.i64.wrap (k16 : Int) = (k16 : Int) := by rw [IntKind.wrap_i64]; omega
          have t3 : (t : Int) < 64 := by omega
          have A1 := hideIt (rrot_any a2 17 · b2 (by decide) (by decide))
          have A2 := hideIt (rrot_any a2 19 · b2 (by decide) (by decide))
          have A3 := hideIt (rrot_any a15 7 · b15 (by decide) (by decide))
          have A4 := hideIt (rrot_any a15 18 · b15 (by decide) (by decide))
          obtain ⟨s1, hs1⟩ : ∃ s1, s1 = sg1 a2 := ⟨_, rfl⟩
          obtain ⟨s0, hs0⟩ : ∃ s0, s0 = sg0 a15 := ⟨_, rfl⟩
          have p1 := sg1_int a2 b2
          have p0 := sg0_int a15 b15
          rw [← hs1] at p1 hnx
          rw [← hs0] at p0 hnx
          obtain ⟨X, hX⟩ : ∃ X, X = IntKind.u32.wrap (IntKind.u32.wrap (IntKind.u32.wrap ((s1 : Int) + a7) + s0) + a16) := ⟨_, rfl⟩
          have HNX : Hid (wl (wv p (t + 1)) = wl (wv p t) ++ [X].map (Value.int .u32)) := by
            show _ = _
            rw [wv_next p t ht1, wl_app, hX, sum4, hnx]; rfl
          have BL := hideIt (Bs.litN .u32 wr 124 [X] _ _ rfl rfl)
          have OWA := hideIt (hown.alloc (.cells #[.int .u32 X] 124))
          have hX' := hX.symm
          have HON3 := hideIt hon
          have HOWN3 := hideIt hown
          have hcp : t ≤ cap2 := by
            rcases hown.2 with ⟨h, _⟩ | ⟨g', cap', cur', h, _, _, h2, _⟩
            · cases h
            · cases h; exact h2
          clear e2 e7 e15 e16 f2 f7 f15 f16 hcell hvl hv32 hbs hnx hs1 hs0 hX hon hown b2 b15
          obtain ⟨VT, hVT⟩ : ∃ VT, VT = wl (wv p t) := ⟨_, rfl⟩
          rw [← hVT] at HNX OWA HOWN3
          clear hVT
          go_wp2_with fail
          refine (A1.out _).mono ?_
          rintro e w1 ⟨rfl, rfl⟩
          go_wp2_with fail
          refine (A2.out _).mono ?_
          rintro e w1 ⟨rfl, rfl⟩
          go_wp2_with fail
          refine (A3.out _).mono ?_
          rintro e w1 ⟨rfl, rfl⟩
          go_wp2_with fail
          refine (A4.out _).mono ?_
          rintro e w1 ⟨rfl, rfl⟩
          clear A1 A2 A3 A4
          go_wp2
          go_region_law (refine step_append_bs rfl (.tmp 80) (.tmp 96) 120 rfl w.heap.size 124 i0 (.int .u32 0) 4 Tryz.underlying120 hi hz0 hz1 hz2 rfl (.slice (some ⟨g, 0, none⟩) t cap2) t VT rfl OWA.out .u32 _ [X] rfl BL.out (NoCap.some _ _ _) (by simp [maxLen]; omega) (by simp; omega) (by simp; omega) ?_; intro v' w4 hown' hgrow')
          all_goals
            have N1 : Hid (w4.ownsRow w.heap.size 124 1 v' (t + 1) (wl (wv p (t + 1)))) := by
              show _
              rw [HNX.out]; exact hown'
            have N2 : Hid (Only (fun _ => False) w w4) := ((HON3.out.alloc _).drew).grown hgrow' (fun k hk e => by have := HOWN3.out.lt k e; omega)
            clear hown' hgrow' BL OWA hX' HOWN3 HON3 HNX
            go_simp
            go_wp2
            go_roundw
            case rel => ((repeat apply Exists.intro); exact ⟨⟨t + 1, by omega, by omega, by go_num, N1.out, N2.out⟩, rfl⟩)
            case measure => simp [intOf]; omega
        · obtain rfl : t = 64 := by omega
          have E1 : Hid (wr.ownsRow w.heap.size 124 1 (.slice (some ⟨g, 0, none⟩) 64 cap2) 64 D) := by
            show _
            rw [HD.out, ← wv_all]; exact hown
          have E2 := hideIt hon
          clear hown hon
          go_wp2
          go_ret
          exact ⟨_, rfl, E1.out, E2.out⟩
end Go.Proofs.YtiolgenaefillaaGreat
