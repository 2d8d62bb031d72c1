/- The document's own answer: the sum. -/
import Derived.Test.YtiolgenaefillaaGreatRd
namespace Go.Proofs.YtiolgenaefillaaGreat
open Go.RowKit

theorem thrus_w {b : List Int} (j : Nat) : W32 (thrus shH b j) ∧ (thrus shH b j).length = 8 := ⟨thrus_w32 b j, thrus_len b j⟩
theorem padS_u8 {b : List Int} (h : U8 b) : U8 (padS b) := h.app (endS_range _)

set_option maxHeartbeats 3200000 in
set_option maxRecDepth 100000 in
theorem rsum_bs (v : Value) (xs : List Int) (w : World) (hb : Bs .u8 w v xs) (nc : NoCap v) (h8 : U8 xs) (hl : xs.length ≤ 1000000) :
    Calls Tryz.prog 71 #[v] w fun e w' => ∃ v', e = .returned v' ∧ w'.ownsRow w.heap.size 5 1 v' 32 ((SHA xs).map (Value.int .u8)) ∧ Only (fun _ => False) w w' := by
  obtain ⟨i0, hi, hz0, hz1, hz2⟩ := info_parts Tryz.infoU8
  have A := hideIt (rconst_any w)
  have P8 := padS_u8 h8
  have hmod := padS_mod xs
  have hplen := padS_len xs
  have hzl := zpad_lt xs.length
  obtain ⟨P, hP⟩ : ∃ P, P = padS xs := ⟨_, rfl⟩
  obtain ⟨q, hq⟩ : ∃ q, q = P.length / 64 := ⟨_, rfl⟩
  have hSH : SHA xs = (thrus shH P q).flatMap be4 := by rw [hq, hP]; rfl
  rw [← hP] at P8 hmod hplen
  have hPl : P.length = 64 * q := by omega
  have hq1 : q ≤ 1000000 := by omega
  have B := hideIt (fun w1 (o : Only (fun _ => False) w w1) => padded_any v xs w1 (hb.past o) nc (by omega))
  rw [← hP] at B
  obtain ⟨ao, cap, hv⟩ := hb.len
  subst hv
  rw [hSH]
  have HP := hideIt (And.intro P8 hPl)
  rw [hPl] at B
  clear hP hq hmod hplen hzl hb nc h8 hSH P8 hPl
  go_enter Tryz.func71, Tryz.ntmps71
  go_wp2_with fail
  refine A.out.mono ?_
  rintro e w1 ⟨rfl, bk, bh, on1⟩
  have C := hideIt (B.out w1 on1)
  have H1 := hideIt (And.intro bk (And.intro bh on1))
  clear A bk bh on1 B
  go_wp2_with fail
  refine C.out.mono ?_
  rintro e w2 ⟨vp, rfl, own2, on2⟩
  have hst : Bs .u8 w2 vp P ∧ Bs .u32 w2 (.slice (some ⟨w.heap.size, 0, none⟩) 64 64) (wi shK) ∧ Bs .u32 w2 (.slice (some ⟨w.heap.size + 1, 0, none⟩) 8 8) (wi shH) ∧ Only (fun _ => False) w w2 :=
    ⟨Bs.of_own (by rw [HP.out.2]; exact own2), Bs.of_wl (H1.out.1.past on2) 64 rfl, Bs.of_wl (H1.out.2.1.past on2) 8 rfl, H1.out.2.2.same on2⟩
  obtain ⟨aop, cp, hvp⟩ := own_form own2
  subst hvp
  have hcp : 64 * q ≤ cp := by
    obtain ⟨_, _, e, h, _⟩ := hst.1
    simp at e; obtain ⟨_, _, rfl⟩ := e; rw [HP.out.2] at h; exact h
  have hlow : ∀ k, (Value.slice aop (64 * q) cp).ownBlock = some k → k < w2.heap.size := fun k hk => (own2.lt k hk).2
  have HST := hideIt hst
  have HLOW := hideIt hlow
  clear C H1 hst own2 on2 hlow
  obtain ⟨N, hN⟩ : ∃ N, N = w.heap.size := ⟨_, rfl⟩
  rw [← hN] at HST ⊢
  have HN := hideIt hN
  clear hN
  obtain ⟨PL, hPL⟩ : ∃ PL, PL = 64 * q := ⟨_, rfl⟩
  rw [← hPL] at HST HLOW hcp ⊢
  have HPL := hideIt hPL
  have hPLb : PL ≤ 64000000 := by omega
  clear hPL
  go_wp2
  go_loopw [4, 6] (fun o i wr => ∃ (j g off cap : Nat), j ≤ q ∧ i = .int .i64 ((64 * j : Nat) : Int) ∧ o = .slice (some ⟨g, off, none⟩) 8 cap ∧ 8 ≤ cap ∧ Bs .u32 wr (.slice (some ⟨g, off, none⟩) 8 cap) (wi (thrus shH P j)) ∧ Only (fun _ => False) w2 wr) (fun _ i _ => PL - (intOf i).toNat)
  case atStart => exact ⟨0, N + 1, 0, 8, Nat.zero_le _, rfl, rfl, Nat.le_refl _, HST.out.2.2.1, Only.refl _ _⟩
  case round =>
    obtain ⟨j, g, off, cap4, hj, rfl, rfl, hcap4, hbt, hon⟩ := hrel
    obtain ⟨m, hm⟩ : ∃ m, m = 64 * j := ⟨_, rfl⟩
    rw [← hm]
    by_cases hlt : j < q
    · have hmP : m + 64 ≤ PL := by rw [HPL.out]; omega
      have bP := HST.out.1.past hon
      obtain ⟨bp, op', rfl, _⟩ : ∃ b o, aop = some ⟨b, o, none⟩ ∧ True := by
        obtain ⟨_, _, e, _, hr⟩ := bP
        simp at e
        obtain ⟨rfl, _, _⟩ := e
        obtain ⟨b, o, h, _⟩ := hr (by intro h; have h2 := HP.out.2; rw [h] at h2; simp at h2; omega)
        exact ⟨b, o, h, trivial⟩
      have bC : Bs .u8 wr (.slice (some ⟨bp, op' + m, none⟩) 64 (cp - m)) ((P.drop m).take 64) := by
        have := (bP.cut (n := m) (by omega)).head (n := 64) (by omega)
        rw [Option.map_some, Addr.add_mid] at this
        exact this
      have hdl : ((P.drop m).take 64).length = 64 := by rw [List.length_take, List.length_drop, HP.out.2]; have := HPL.out; omega
      have hlo : ∀ k, (Value.slice (some ⟨bp, op' + m, none⟩) 64 (cp - m)).ownBlock = some k → k < wr.heap.size := fun k hk => by
        have := HLOW.out k (by simpa [Value.ownBlock] using hk)
        have := hon.size
        omega
      have tw := thrus_w (b := P) j
      have TC := hideIt (rthrough_any g off cap4 (.slice (some ⟨bp, op' + m, none⟩) 64 (cp - m)) N 0 64 (thrus shH P j) ((P.drop m).take 64) wr hbt tw.2 tw.1 bC hdl ((HP.out.1.drop _).take _) hlo (HST.out.2.1.past hon))
      rw [hm, ← thrus_succ, ← hm] at TC
      have HON := hideIt hon
      have HM : Hid (m = 64 * j ∧ j < q) := ⟨hm, hlt⟩
      have e1 : (m : Int) + 64 ≤ (cp : Int) := by omega
      have e2 : ¬ cp = m := by omega
      have e3 : (m : Int) < (PL : Int) := by omega
      clear hbt hon bP bC hdl hlo tw hm hlt hj
      go_wp2_with fail
      refine TC.out.mono ?_
      rintro e w3 ⟨v3, rfl, own3, on3⟩
      obtain ⟨g3, c3, rfl⟩ : ∃ g cap, v3 = .slice (some ⟨g, 0, none⟩) 8 cap := by
        rcases own3.2 with ⟨_, h0⟩ | ⟨g, cap, cur, h, _⟩
        · omega
        · exact ⟨g, cap, h⟩
      have b3 : Bs .u32 w3 (.slice (some ⟨g3, 0, none⟩) 8 c3) (wi (thrus shH P (j + 1))) := Bs.of_own (by rw [wi_len, thrus_len, wi_map]; exact own3)
      have hc3 : 8 ≤ c3 := by
        obtain ⟨_, _, e, h, _⟩ := b3
        simp at e; obtain ⟨_, _, rfl⟩ := e; rw [wi_len, thrus_len] at h; exact h
      have R1 := hideIt b3
      have R2 := hideIt (HON.out.same on3)
      clear TC own3 on3 b3 HON
      go_wp2
      go_roundw
      case rel => exact ⟨j + 1, g3, 0, c3, HM.out.2, by have := HM.out.1; congr 1; omega, rfl, hc3, R1.out, R2.out⟩
      case measure =>
        have := HM.out.1
        simp [intOf]
        try omega
    · obtain rfl : j = q := by omega
      obtain rfl : m = PL := by rw [hm, HPL.out]
      obtain ⟨s, hs⟩ : ∃ s, s = thrus shH P j := ⟨_, rfl⟩
      have hsl : s.length = 8 := by rw [hs]; exact thrus_len _ _
      rw [← hs] at hbt
      obtain ⟨F, hF⟩ : ∃ F : Nat → List Value, F = fun k => ((s.take k).flatMap be4).map (Value.int .u8) := ⟨_, rfl⟩
      have F0 : Hid (F 0 = []) := by rw [hF]; exact rfl
      have F8 : Hid (F 8 = ((thrus shH P j).flatMap be4).map (Value.int .u8)) := by
        show _ = _
        rw [hF, ← hs]; simp only; rw [List.take_of_length_le (Nat.le_of_eq hsl)]
      have FN : Hid (∀ k, k < 8 → F (k + 1) = F k ++ (be4 (s.getD k 0)).map (Value.int .u8)) := fun k hk => by
        rw [hF]; simp only; rw [flat_next s k (by omega), List.map_append]
      have e3 : ¬ (m : Int) < (m : Int) := by omega
      have KP := hideIt (And.intro hbt (And.intro hsl (HST.out.2.2.2.same hon)))
      obtain ⟨W5, hW5⟩ : ∃ W5, W5 = wr := ⟨_, rfl⟩
      subst hW5
      have hgl : g < W5.heap.size := by
        have := ws_cell hbt 0 (by omega)
        exact World.block_lt_of_cell? _ _ this
      have hsz0 : N ≤ W5.heap.size := by have := (HST.out.2.2.2.same hon).size; have := HN.out; omega
      clear hs hsl hF hbt hon hj HST HLOW
      go_wp2
      go_loopw [7, 8] (fun o i wr => ∃ k : Nat, k ≤ 8 ∧ i = .int .i64 k ∧ wr.ownsRow W5.heap.size 5 1 o (4 * k) (F k) ∧ Only (fun _ => False) W5 wr) (fun _ i _ => 8 - (intOf i).toNat)
      case atStart => exact ⟨0, by omega, rfl, by rw [F0.out]; exact World.ownsRow_nil _ _ _ _, Only.refl _ _⟩
      case round =>
        obtain ⟨k, hk, rfl, hown, hon⟩ := hrel
        obtain ⟨ao1, cap1, rfl⟩ := own_form hown
        have hsz := hon.size
        by_cases hlt2 : k < 8
        · obtain ⟨x, hx⟩ : ∃ x, x = s.getD k 0 := ⟨_, rfl⟩
          have cx : wr.cell? ⟨g, off + k, none⟩ = some (.int .u32 (x : Int)) := by
            have := ws_cell (KP.out.1.past hon) k (by rw [KP.out.2.1]; exact hlt2)
            rw [← hx] at this; exact this
          have HFN : Hid (F (k + 1) = F k ++ [(x : Int) / 16777216 % 256, (x : Int) / 65536 % 256, (x : Int) / 256 % 256, (x : Int) % 256].map (Value.int .u8)) := by
            show _ = _
            rw [FN.out k hlt2, ← hx, be4_bytes]; rfl
          have w0 : IntKind.u8.wrap ((x : Int) / 16777216) = (x : Int) / 16777216 % 256 := by simp [IntKind.wrap, IntKind.bits, IntKind.signed]
          have w1 : IntKind.u8.wrap ((x : Int) / 65536) = (x : Int) / 65536 % 256 := by simp [IntKind.wrap, IntKind.bits, IntKind.signed]
          have w2' : IntKind.u8.wrap ((x : Int) / 256) = (x : Int) / 256 % 256 := by simp [IntKind.wrap, IntKind.bits, IntKind.signed]
          have w3 : IntKind.u8.wrap (x : Int) = (x : Int) % 256 := by simp [IntKind.wrap, IntKind.bits, IntKind.signed]
          have BL := hideIt (Bs.litN .u8 wr 5 [(x : Int) / 16777216 % 256, (x : Int) / 65536 % 256, (x : Int) / 256 % 256, (x : Int) % 256] _ _ rfl rfl)
          have OWA := hideIt (hown.alloc (.cells #[.int .u8 ((x : Int) / 16777216 % 256), .int .u8 ((x : Int) / 65536 % 256), .int .u8 ((x : Int) / 256 % 256), .int .u8 ((x : Int) % 256)] 5))
          have NB : (Value.slice ao1 (4 * k) cap1).ownBlock ≠ some g := fun e => by have := hown.lt g e; omega
          have KA : Hid (∀ W W4 : World, W.cell? ⟨g, off + k, none⟩ = some (Value.int .u32 x) → W.grownBy W4 (Value.slice ao1 (4 * k) cap1).ownBlock → W4.cell? ⟨g, off + k, none⟩ = some (Value.int .u32 x)) := fun W W4 q hg => grown_cell hg NB q
          have HON := hideIt hon
          have HOWN := hideIt hown
          have k0 : (0 : Int) ≤ (k : Int) := by omega
          have k1 : (k : Int) < 8 := by omega
          clear NB hx hon hown
          go_wp2
          go_region_held3 (fun W => W.cell? ⟨g, off + k, none⟩ = some (Value.int .u32 x)) (first | go_keep | exact KA.out _ _ (by assumption) hgrow') (first | (refine step_append_bs rfl (.tmp 33) (.tmp 57) 23 rfl W5.heap.size 5 i0 (.int .u8 0) 1 Tryz.underlying23 hi hz0 hz1 hz2 rfl (.slice ao1 (4 * k) cap1) (4 * k) (F k) rfl OWA.out .u8 _ [(x : Int) / 16777216 % 256, (x : Int) / 65536 % 256, (x : Int) / 256 % 256, (x : Int) % 256] rfl BL.out (NoCap.some _ _ _) (by simp [maxLen]; omega) (by simp; omega) (by simp; omega) ?_; intro v' w4 hown' hgrow'))
          have N1 : Hid (w4.ownsRow W5.heap.size 5 1 v' (4 * (k + 1)) (F (k + 1))) := by
            show _
            rw [HFN.out]; exact hown'
          have N2 : Hid (Only (fun _ => False) W5 w4) := ((HON.out.alloc _).drew).grown hgrow' (fun k hk e => by have := HOWN.out.lt k e; omega)
          clear hown' hgrow' BL OWA HOWN HON HFN KA w0 w1 w2' w3
          go_simp
          go_wp2
          go_roundw
          case rel => exact ⟨k + 1, by omega, by go_num, N1.out, N2.out⟩
          case measure => simp [intOf]; omega
        · obtain rfl : k = 8 := by omega
          rw [F8.out] at hown
          have e1 := own_low hown hsz0
          rw [HN.out] at e1
          have E1 := hideIt e1
          have E2 := hideIt (KP.out.2.2.same hon)
          clear hown hon e1
          go_wp2
          go_ret
          exact ⟨_, rfl, E1.out, E2.out⟩
end Go.Proofs.YtiolgenaefillaaGreat
