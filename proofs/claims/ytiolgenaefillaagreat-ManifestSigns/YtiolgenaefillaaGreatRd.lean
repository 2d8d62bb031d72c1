/- The document's own answer: a state goes through 64 bytes. -/
import Derived.Test.YtiolgenaefillaaGreatRc
import Derived.Test.YtiolgenaefillaaGreatG4
import Derived.Deep.RegionWith
namespace Go.Proofs.YtiolgenaefillaaGreat
open Go.RowKit

theorem rrot_q (x n : Nat) (w : World) (hx : x < 4294967296) (h1 : 1 ≤ n) (h2 : n ≤ 31) : Calls Tryz.prog 108 #[.int .u32 x, .int .u64 n] w fun e w' => e = .returned (.int .u32 (rotw x n : Nat)) ∧ w' = w := (rrot_any x n w hx h1 h2).mono fun _ _ ⟨h1, h2⟩ => ⟨h1, h2.symm⟩
theorem thru_range (s : List Nat) (b : List Int) : thru s b = (List.range 8).map fun i => (s.getD i 0 + (rnds s (wds b) 64).getD i 0) % 4294967296 := rfl
theorem ws_form {w : World} {v : Value} {s : List Nat} (h : Bs .u32 w v (wi s)) (hs : 0 < s.length) : ∃ g off cap, v = .slice (some ⟨g, off, none⟩) s.length cap ∧ s.length ≤ cap := by
  obtain ⟨ao, cap, rfl, hc, hr⟩ := h
  obtain ⟨b, off, rfl, _⟩ := hr (by intro h; have := congrArg List.length h; rw [wi_len] at this; simp at this; rw [this] at hs; simp at hs)
  exact ⟨b, off, cap, by rw [wi_len], by rw [← wi_len]; exact hc⟩

set_option maxHeartbeats 3200000 in
set_option maxRecDepth 100000 in
theorem rthrough_any (gs os cs : Nat) (vb : Value) (gk ok ck : Nat) (s : List Nat) (p : List Int) (w : World) (hbs : Bs .u32 w (.slice (some ⟨gs, os, none⟩) 8 cs) (wi s)) (hs : s.length = 8) (hw : W32 s)
    (hb : Bs .u8 w vb p) (hp : p.length = 64) (h8 : U8 p) (hv : ∀ k, vb.ownBlock = some k → k < w.heap.size) (hbk : Bs .u32 w (.slice (some ⟨gk, ok, none⟩) 64 ck) (wi shK)) :
    Calls Tryz.prog 96 #[.slice (some ⟨gs, os, none⟩) 8 cs, vb, .slice (some ⟨gk, ok, none⟩) 64 ck] w fun e w' => ∃ v', e = .returned v' ∧ w'.ownsRow w.heap.size 124 1 v' 8 (wl (thru s p)) ∧ Only (fun _ => False) w w' := by
  obtain ⟨i0, hi, hz0, hz1, hz2⟩ := info_parts Tryz.infoU32
  have RW := hideIt (rwords_any vb p w hb hp h8 hv)
  obtain ⟨aob, cb, eb⟩ := hb.len
  rw [hp] at eb
  subst eb
  obtain ⟨W, hW⟩ : ∃ W, W = wds p := ⟨_, rfl⟩
  have hWl : W.length = 64 := by rw [hW]; exact wds_len p
  have hTR := thru_range s p
  obtain ⟨T, hT⟩ : ∃ T, T = thru s p := ⟨_, rfl⟩
  rw [← hW] at RW hTR
  rw [← hT] at hTR ⊢
  have HS := hideIt (And.intro hs (And.intro hw (And.intro hWl hTR)))
  have HB := hideIt (And.intro hbs hbk)
  have hsc : 8 ≤ cs := by obtain ⟨_, _, e, h, _⟩ := hbs; simp at e; obtain ⟨_, _, rfl⟩ := e; rw [wi_len, hs] at h; exact h
  have hkc : 64 ≤ ck := by obtain ⟨_, _, e, h, _⟩ := hbk; simp at e; obtain ⟨_, _, rfl⟩ := e; rw [wi_len] at h; exact h
  clear hbs hs hw hb hp h8 hv hbk hW hWl hTR hT
  go_enter Tryz.func96, Tryz.ntmps96
  go_wp2_with fail
  refine RW.out.mono ?_
  rintro e w1 ⟨vw, rfl, own1, on1⟩
  obtain ⟨gw, cw, hgw⟩ : ∃ g cap, vw = .slice (some ⟨g, 0, none⟩) 64 cap := by
    rcases own1.2 with ⟨_, h0⟩ | ⟨g, cap, cur, h, _⟩
    · omega
    · exact ⟨g, cap, h⟩
  subst hgw
  have bw1 : Bs .u32 w1 (.slice (some ⟨gw, 0, none⟩) 64 cw) (wi W) := Bs.of_own (by rw [wi_len, HS.out.2.2.1, wi_map]; exact own1)
  have hcw : 64 ≤ cw := by obtain ⟨_, _, e, h, _⟩ := bw1; simp at e; obtain ⟨_, _, rfl⟩ := e; rw [wi_len, HS.out.2.2.1] at h; exact h
  have ho := World.ownsRow_made (base := w1.heap.size) (e := 124) (size := 1) w1 #[] 0 (Nat.le_refl _) (by unfold maxLen; omega) rfl
  have HBS := hideIt (HB.out.1.past (on1.alloc (.cells #[] 124)))
  have SL : Hid ((wi s).length = 8) := by rw [wi_len]; exact HS.out.1
  have B1 := hideIt (And.intro bw1 on1)
  clear own1 on1 bw1 RW
  go_wp2_with (at_builtin; refine wpList_append_bs _ rfl _ _ 120 rfl w1.heap.size 124 i0 (.int .u32 0) 4 Tryz.underlying120 hi hz0 hz1 hz2 rfl (.slice (some ⟨w1.heap.size, 0, none⟩) 0 0) 0 [] rfl ho .u32 (.slice (some ⟨gs, os, none⟩) 8 cs) (wi s) rfl HBS.out (NoCap.some _ _ _) (by rw [SL.out]; unfold maxLen; omega) (by rw [SL.out]; omega) (by simp) ?_; intro v2 w2 hown2 hgrow2 hnil2 hob2)
  have on2 : Only (fun _ => False) w1 w2 := ((Only.refl _ _).alloc _).grown hgrow2 (fun k hk e => by simp [Value.ownBlock] at e; omega)
  have b2 : Bs .u32 w2 v2 (wi s) := Bs.of_own (by have := hown2; rw [Nat.zero_add, List.nil_append] at this; exact this)
  obtain ⟨g2, o2, c2, e2, hc2⟩ := ws_form b2 (by rw [HS.out.1]; decide)
  rw [HS.out.1] at e2 hc2
  subst e2
  have ST := hideIt (And.intro b2 (And.intro (B1.out.1.past on2) (B1.out.2.same on2)))
  have XX := hideIt (getD8 s HS.out.1)
  clear hown2 hgrow2 hnil2 hob2 on2 b2 B1 HBS ho SL
  go_wp2
  go_loopw [8, 9] (fun o i wr => ∃ (t g off cap y0 y1 y2 y3 y4 y5 y6 y7 : Nat), t ≤ 64 ∧ i = .int .i64 t ∧ o = .slice (some ⟨g, off, none⟩) 8 cap ∧ 8 ≤ cap ∧ [y0, y1, y2, y3, y4, y5, y6, y7] = rnds s W t ∧ Bs .u32 wr (.slice (some ⟨g, off, none⟩) 8 cap) (wi [y0, y1, y2, y3, y4, y5, y6, y7]) ∧ Bs .u32 wr (.slice (some ⟨gw, 0, none⟩) 64 cw) (wi W) ∧ Only (fun _ => False) w wr) (fun _ i _ => 64 - (intOf i).toNat)
  case atStart => exact ⟨0, g2, o2, c2, _, _, _, _, _, _, _, _, by omega, rfl, rfl, hc2, XX.out.symm, by have := ST.out.1; rw [XX.out] at this; exact this, ST.out.2.1, ST.out.2.2⟩
  case round =>
    obtain ⟨t, g, off, cap, y0, y1, y2, y3, y4, y5, y6, y7, ht, rfl, rfl, hcap, hr, hby, hbw, hon⟩ := hrel
    have HR := hideIt hr
    clear hr ST XX
    by_cases hlt : t < 64
    · have hw32 : W32 [y0, y1, y2, y3, y4, y5, y6, y7] := by rw [HR.out]; exact rnds_w32 _ _ HS.out.2.1 _
      have b0 := hw32.at 0
      have b1 := hw32.at 1
      have b2 := hw32.at 2
      have b4 := hw32.at 4
      have b5 := hw32.at 5
      have b6 := hw32.at 6
      change y0 < _ at b0
      change y1 < _ at b1
      change y2 < _ at b2
      change y4 < _ at b4
      change y5 < _ at b5
      change y6 < _ at b6
      obtain ⟨k, hk⟩ : ∃ k, k = shK.getD t 0 := ⟨_, rfl⟩
      obtain ⟨x, hx⟩ : ∃ x, x = W.getD t 0 := ⟨_, rfl⟩
      have hcx : wr.cell? ⟨gw, t, none⟩ = some (.int .u32 (x : Int)) := by
        have := ws_cell hbw t (by rw [HS.out.2.2.1]; exact hlt)
        rw [Nat.zero_add, ← hx] at this; exact this
      have hck' : wr.cell? ⟨gk, ok + t, none⟩ = some (.int .u32 (k : Int)) := by
        have := ws_cell (HB.out.2.past hon) t hlt
        rw [← hk] at this; exact this
      have d0 : wr.cell? ⟨g, off, none⟩ = some (.int .u32 (y0 : Int)) := ws_cell hby 0 (Nat.zero_lt_succ _)
      have d1 : wr.cell? ⟨g, off + 1, none⟩ = some (.int .u32 (y1 : Int)) := ws_cell hby 1 (by show 1 < 8; decide)
      have d2 : wr.cell? ⟨g, off + 2, none⟩ = some (.int .u32 (y2 : Int)) := ws_cell hby 2 (by show 2 < 8; decide)
      have d3 : wr.cell? ⟨g, off + 3, none⟩ = some (.int .u32 (y3 : Int)) := ws_cell hby 3 (by show 3 < 8; decide)
      have d4 : wr.cell? ⟨g, off + 4, none⟩ = some (.int .u32 (y4 : Int)) := ws_cell hby 4 (by show 4 < 8; decide)
      have d5 : wr.cell? ⟨g, off + 5, none⟩ = some (.int .u32 (y5 : Int)) := ws_cell hby 5 (by show 5 < 8; decide)
      have d6 : wr.cell? ⟨g, off + 6, none⟩ = some (.int .u32 (y6 : Int)) := ws_cell hby 6 (by show 6 < 8; decide)
      have d7 : wr.cell? ⟨g, off + 7, none⟩ = some (.int .u32 (y7 : Int)) := ws_cell hby 7 (by show 7 < 8; decide)
      have hnx : rnds s W (t + 1) = rnd [y0, y1, y2, y3, y4, y5, y6, y7] k x := by rw [rnds_succ, ← HR.out, ← hk, ← hx]
      rw [rnd_t] at hnx
      obtain ⟨ny, hny⟩ : ∃ ny, ny = 4294967295 - y4 := ⟨_, rfl⟩
      have hs1 : IntKind.u32.signed = false := rfl
      have hs2 : IntKind.u32.max = 4294967295 := rfl
      have hs3 : bits .xor .u32 4294967295 (y4 : Int) = (ny : Int) := by rw [not_int' y4 b4, hny]
      obtain ⟨ch, hch⟩ : ∃ ch, ch = chw y4 y5 y6 := ⟨_, rfl⟩
      obtain ⟨mj, hmj⟩ : ∃ mj, mj = majw y0 y1 y2 := ⟨_, rfl⟩
      obtain ⟨g1, hg1⟩ : ∃ g1, g1 = Sg1 y4 := ⟨_, rfl⟩
      obtain ⟨g0, hg0⟩ : ∃ g0, g0 = Sg0 y0 := ⟨_, rfl⟩
      obtain ⟨T1, hT1⟩ : ∃ T1, T1 = (y7 + g1 + ch + k + x) % 4294967296 := ⟨_, rfl⟩
      obtain ⟨T2, hT2⟩ : ∃ T2, T2 = (g0 + mj) % 4294967296 := ⟨_, rfl⟩
      obtain ⟨n0, hn0⟩ : ∃ n0, n0 = (T1 + T2) % 4294967296 := ⟨_, rfl⟩
      obtain ⟨n4, hn4⟩ : ∃ n4, n4 = (y3 + T1) % 4294967296 := ⟨_, rfl⟩
      have NX : Hid (rnds s W (t + 1) = [n0, y0, y1, y2, n4, y4, y5, y6]) := by
        show _ = _
        rw [hnx]
        simp only [t1w, t2w, List.getD_cons_zero, List.getD_cons_succ]
        rw [← hch, ← hmj, ← hg1, ← hg0, ← hT1, ← hT2, ← hn0, ← hn4]
      have q1 := Sg1_int y4 b4
      have q0 := Sg0_int y0 b0
      rw [← hg1] at q1
      rw [← hg0] at q0
      have p1 : bits .xor .u32 (bits .and .u32 (y4 : Int) (y5 : Int)) (bits .and .u32 (ny : Int) (y6 : Int)) = (ch : Int) := by rw [hny, hch, ch_int y4 y5 y6 b4 b5 b6]
      have p2 : bits .xor .u32 (bits .xor .u32 (bits .and .u32 (y0 : Int) (y1 : Int)) (bits .and .u32 (y0 : Int) (y2 : Int))) (bits .and .u32 (y1 : Int) (y2 : Int)) = (mj : Int) := by rw [hmj, maj_int y0 y1 y2 b0 b1 b2]
      have p3 : IntKind.u32.wrap (IntKind.u32.wrap (IntKind.u32.wrap (IntKind.u32.wrap ((y7 : Int) + g1) + ch) + k) + x) = (T1 : Int) := by rw [sum5, hT1]
      have p4 : IntKind.u32.wrap ((g0 : Int) + mj) = (T2 : Int) := by rw [sum2, hT2]
      have p5 : IntKind.u32.wrap ((T1 : Int) + T2) = (n0 : Int) := by rw [sum2, hn0]
      have p6 : IntKind.u32.wrap ((y3 : Int) + T1) = (n4 : Int) := by rw [sum2, hn4]
      have p7 : ((g0 : Int) + mj) % 4294967296 = (T2 : Int) := by rw [hT2]; omega
      have p8 : (((y7 : Int) + g1 + ch + k) % 4294967296 + x) % 4294967296 = (T1 : Int) := by rw [hT1]; omega
      have j0 : (0 : Int) ≤ (t : Int) := by omega
      have j1 : (t : Int) < 64 := by omega
      have BB4 := hideIt b4
      have BB0 := hideIt b0
      have KP := hideIt (And.intro hby (And.intro hbw hon))
      clear hny hch hmj hg1 hg0 hT1 hT2 hn0 hn4 hk hx hw32 hnx b0 b1 b2 b4 b5 b6 hby hbw hon
      go_wp2_with fail
      go_quiet (first | ((go_at_call_of 108 (6 : Int); exact Calls.quiet_of_same (rrot_q y4 6 _ BB4.out (by decide) (by decide)))) | ((go_at_call_of 108 (11 : Int); exact Calls.quiet_of_same (rrot_q y4 11 _ BB4.out (by decide) (by decide)))) | ((go_at_call_of 108 (25 : Int); exact Calls.quiet_of_same (rrot_q y4 25 _ BB4.out (by decide) (by decide)))))
      obtain ⟨W3, hW3⟩ : ∃ W3, W3 = wr.drewN nq := ⟨_, rfl⟩
      have f0 : W3.cell? ⟨g, off, none⟩ = some (.int .u32 (y0 : Int)) := by rw [hW3]; exact d0
      have f1 : W3.cell? ⟨g, off + 1, none⟩ = some (.int .u32 (y1 : Int)) := by rw [hW3]; exact d1
      have f2 : W3.cell? ⟨g, off + 2, none⟩ = some (.int .u32 (y2 : Int)) := by rw [hW3]; exact d2
      have f3 : W3.cell? ⟨g, off + 3, none⟩ = some (.int .u32 (y3 : Int)) := by rw [hW3]; exact d3
      have f4 : W3.cell? ⟨g, off + 4, none⟩ = some (.int .u32 (y4 : Int)) := by rw [hW3]; exact d4
      have f5 : W3.cell? ⟨g, off + 5, none⟩ = some (.int .u32 (y5 : Int)) := by rw [hW3]; exact d5
      have f6 : W3.cell? ⟨g, off + 6, none⟩ = some (.int .u32 (y6 : Int)) := by rw [hW3]; exact d6
      have f7 : W3.cell? ⟨g, off + 7, none⟩ = some (.int .u32 (y7 : Int)) := by rw [hW3]; exact d7
      rw [← hW3]
      have O3 : Hid (Only (fun _ => False) wr W3) := by rw [hW3]; exact (Only.refl _ _).drewN nq
      clear d0 d1 d2 d3 d4 d5 d6 d7 hcx hck' hW3
      go_wp2
      go_quiet (first | ((go_at_call_of 108 (2 : Int); exact Calls.quiet_of_same (rrot_q y0 2 _ BB0.out (by decide) (by decide)))) | ((go_at_call_of 108 (13 : Int); exact Calls.quiet_of_same (rrot_q y0 13 _ BB0.out (by decide) (by decide)))) | ((go_at_call_of 108 (22 : Int); exact Calls.quiet_of_same (rrot_q y0 22 _ BB0.out (by decide) (by decide)))))
      obtain ⟨W4, hW4⟩ : ∃ W4, W4 = W3.drewN nq := ⟨_, rfl⟩
      have z0 : W4.cell? ⟨g, off, none⟩ = some (.int .u32 (y0 : Int)) := by rw [hW4]; exact f0
      have i1 : W4.cell? ⟨g, off + 1, none⟩ = some (.int .u32 (y1 : Int)) := by rw [hW4]; exact f1
      have i2 : W4.cell? ⟨g, off + 2, none⟩ = some (.int .u32 (y2 : Int)) := by rw [hW4]; exact f2
      have i3 : W4.cell? ⟨g, off + 3, none⟩ = some (.int .u32 (y3 : Int)) := by rw [hW4]; exact f3
      have i4 : W4.cell? ⟨g, off + 4, none⟩ = some (.int .u32 (y4 : Int)) := by rw [hW4]; exact f4
      have i5 : W4.cell? ⟨g, off + 5, none⟩ = some (.int .u32 (y5 : Int)) := by rw [hW4]; exact f5
      have i6 : W4.cell? ⟨g, off + 6, none⟩ = some (.int .u32 (y6 : Int)) := by rw [hW4]; exact f6
      have i7 : W4.cell? ⟨g, off + 7, none⟩ = some (.int .u32 (y7 : Int)) := by rw [hW4]; exact f7
      rw [← hW4]
      have O4 : Hid (Only (fun _ => False) wr W4) := by rw [hW4]; exact O3.out.drewN _
      clear f0 f1 f2 f3 f4 f5 f6 f7 hW4
      have KB := hideIt (Bs.litN .u32 W4 124 (wi [n0, y0, y1, y2, n4, y4, y5, y6]) _ 8 rfl rfl)
      go_wp2
      go_region_held3 (fun W => W.cell? ⟨g, off, none⟩ = some (Value.int .u32 y0) ∧ W.cell? ⟨g, off + 1, none⟩ = some (Value.int .u32 y1) ∧ W.cell? ⟨g, off + 2, none⟩ = some (Value.int .u32 y2) ∧ W.cell? ⟨g, off + 3, none⟩ = some (Value.int .u32 y3) ∧ W.cell? ⟨g, off + 4, none⟩ = some (Value.int .u32 y4) ∧ W.cell? ⟨g, off + 5, none⟩ = some (Value.int .u32 y5) ∧ W.cell? ⟨g, off + 6, none⟩ = some (Value.int .u32 y6)) (go_keep) (fail)
      have KO : Hid (Only (fun _ => False) wr (W4.alloc (.cells #[.int .u32 n0, .int .u32 y0, .int .u32 y1, .int .u32 y2, .int .u32 n4, .int .u32 y4, .int .u32 y5, .int .u32 y6] 124)).drew) := (O4.out.alloc _).drew
      go_simp
      go_wp2
      go_roundw
      case rel => exact ⟨t + 1, W4.heap.size, 0, 8, n0, y0, y1, y2, n4, y4, y5, y6, by omega, by go_num, rfl, Nat.le_refl _, NX.out.symm, KB.out.past (Only.refl _ _).drew, KP.out.2.1.past KO.out, KP.out.2.2.same KO.out⟩
      case measure => simp [intOf]; omega
    · obtain rfl : t = 64 := by omega
      obtain ⟨r, hr⟩ : ∃ r, r = [y0, y1, y2, y3, y4, y5, y6, y7] := ⟨_, rfl⟩
      have hrl : r.length = 8 := by rw [hr]; rfl
      rw [← hr] at HR hby
      obtain ⟨F, hF⟩ : ∃ F : Nat → List Value, F = fun j => wl ((List.range j).map fun i => (s.getD i 0 + r.getD i 0) % 4294967296) := ⟨_, rfl⟩
      have F0 : Hid (F 0 = []) := by rw [hF]; exact rfl
      have FN : Hid (∀ j, F (j + 1) = F j ++ [(((s.getD j 0 + r.getD j 0) % 4294967296 : Nat) : Int)].map (Value.int .u32)) := fun j => by
        rw [hF]; simp only; rw [range_next, wl_app]; rfl
      have F8 : Hid (F 8 = wl T) := by
        show _ = _
        rw [hF, HS.out.2.2.2, HR.out]
      have KP := hideIt (And.intro (HB.out.1.past hon) (And.intro hby hon))
      obtain ⟨W5, hW5⟩ : ∃ W5, W5 = wr := ⟨_, rfl⟩
      subst hW5
      have hsz0 := hon.size
      clear hr hF hby hbw hon HR HB
      go_wp2
      go_loopw [14, 15] (fun o i wr => ∃ j : Nat, j ≤ 8 ∧ i = .int .i64 j ∧ wr.ownsRow W5.heap.size 124 1 o j (F j) ∧ Only (fun _ => False) W5 wr) (fun _ i _ => 8 - (intOf i).toNat)
      case atStart => exact ⟨0, by omega, rfl, by rw [F0.out]; exact World.ownsRow_nil _ _ _ _, Only.refl _ _⟩
      case round =>
        obtain ⟨j, hj, rfl, hown, hon⟩ := hrel
        obtain ⟨ao1, cap1, rfl⟩ := own_form hown
        have hsz := hon.size
        by_cases hlt : j < 8
        · obtain ⟨a, ha⟩ : ∃ a, a = s.getD j 0 := ⟨_, rfl⟩
          obtain ⟨b, hb⟩ : ∃ b, b = r.getD j 0 := ⟨_, rfl⟩
          have ca : wr.cell? ⟨gs, os + j, none⟩ = some (.int .u32 (a : Int)) := by
            have := ws_cell (KP.out.1.past hon) j (by rw [HS.out.1]; exact hlt)
            rw [← ha] at this; exact this
          have cbb : wr.cell? ⟨g, off + j, none⟩ = some (.int .u32 (b : Int)) := by
            have := ws_cell (KP.out.2.1.past hon) j (by rw [hrl]; exact hlt)
            rw [← hb] at this; exact this
          obtain ⟨X, hX⟩ : ∃ X, X = IntKind.u32.wrap ((a : Int) + b) := ⟨_, rfl⟩
          have HFN : Hid (F (j + 1) = F j ++ [X].map (Value.int .u32)) := by
            show _ = _
            rw [FN.out j, hX, sum2, ← ha, ← hb]
          have BL := hideIt (Bs.litN .u32 wr 124 [X] _ _ rfl rfl)
          have OWA := hideIt (hown.alloc (.cells #[.int .u32 X] 124))
          have hX' := hX.symm
          have HON := hideIt hon
          have HOWN := hideIt hown
          have j0 : (0 : Int) ≤ (j : Int) := by omega
          have j1 : (j : Int) < 8 := by omega
          clear ha hb hX hon hown
          go_wp2
          go_region_law (refine step_append_bs rfl (.tmp 125) (.tmp 135) 120 rfl W5.heap.size 124 i0 (.int .u32 0) 4 Tryz.underlying120 hi hz0 hz1 hz2 rfl (.slice ao1 j cap1) j (F j) rfl OWA.out .u32 _ [X] rfl BL.out (NoCap.some _ _ _) (by simp [maxLen]; omega) (by simp; omega) (by simp; omega) ?_; intro v' w4 hown' hgrow')
          all_goals
            have N1 : Hid (w4.ownsRow W5.heap.size 124 1 v' (j + 1) (F (j + 1))) := by
              show _
              rw [HFN.out]; exact hown'
            have N2 : Hid (Only (fun _ => False) W5 w4) := ((HON.out.alloc _).drew).grown hgrow' (fun k hk e => by have := HOWN.out.lt k e; omega)
            clear hown' hgrow' BL OWA hX' HOWN HON HFN
            go_simp
            go_wp2
            go_roundw
            case rel => ((repeat apply Exists.intro); exact ⟨⟨j + 1, by omega, by go_num, N1.out, N2.out⟩, rfl⟩)
            case measure => simp [intOf]; omega
        · obtain rfl : j = 8 := by omega
          rw [F8.out] at hown
          have E1 := hideIt (own_low hown hsz0)
          have E2 := hideIt (KP.out.2.2.same hon)
          clear hown hon
          go_wp2
          go_ret
          exact ⟨_, rfl, E1.out, E2.out⟩
end Go.Proofs.YtiolgenaefillaaGreat
