/- A state goes through a piece. -/
import Derived.Test.YtnifflnhbpfmnaaRw
import Derived.Test.YtnifflnhbpfmnaaSr
namespace Go.Proofs.Ytnifflnhbpfmnaa
open Go.RowKit

def z8 : List Value := wl (List.replicate 8 0)
theorem Try.zero30 : (Try.prog.info? 58).map (fun i => (i.zero, i.size)) = some (some (.agg z8.toArray), 8) := by kernel_rfl
/-- the blocks of a piece under way -/
structure Tw (w : World) (N M R : Nat) (s W : List Nat) (wr : World) : Prop where
  st : Blk wr N 58 (wl s)
  ws : Blk wr M 80 (wl W)
  rs : Blk wr R 58 z8
  on : Only (fun _ => False) w wr
theorem Tw.past {w : World} {N M R : Nat} {s W : List Nat} {wr wr' : World} (h : Tw w N M R s W wr) (o : Only (fun _ => False) wr wr') : Tw w N M R s W wr' :=
  ⟨h.st.past o, h.ws.past o, h.rs.past o, h.on.same o⟩

theorem not_int' (e : Nat) (he : e < 4294967296) : bits .xor .u32 4294967295 (e : Int) = ((4294967295 - e : Nat) : Int) := by
  have := u32_xor_nat 4294967295 e (by decide) he
  rw [show ((4294967295 : Nat) : Int) = 4294967295 from rfl] at this
  rw [this]
  congr 1
  apply Nat.eq_of_testBit_eq
  intro i
  rw [show 4294967295 - e = 2 ^ 32 - (e + 1) by omega, Nat.testBit_two_pow_sub_succ he, Nat.testBit_xor, show 4294967295 = 2 ^ 32 - 1 from rfl, Nat.testBit_two_pow_sub_one]
  by_cases hi : i < 32
  · simp [hi]
  · have : e.testBit i = false := Nat.testBit_lt_two_pow (Nat.lt_of_lt_of_le he (show 2 ^ 32 ≤ 2 ^ i from Nat.pow_le_pow_right (by decide) (by omega)))
    simp [hi, this]
theorem Sg1_q (x : Nat) (w : World) (hx : x < 4294967296) : Calls Try.prog 69 #[.int .u32 x] w fun e w' => e = .returned (.int .u32 (Sg1 x : Nat)) ∧ w' = w := (Sg1_any x w hx).mono fun _ _ ⟨h1, h2⟩ => ⟨h1, h2.symm⟩
set_option maxHeartbeats 1600000 in
set_option maxRecDepth 100000 in
theorem through_any (s : List Nat) (p : List Int) (hs : s.length = 8) (hw : W32 s) (hp : p.length = 64) (h8 : U8 p) (w : World) :
    Calls Try.prog 60 #[.agg (wl s).toArray, .agg (bl p).toArray] w fun e w' => e = .returned (.agg (wl (thru s p)).toArray) ∧ Only (fun _ => False) w w' := by
  have hsz : (Try.prog.info? 59).map (·.size) = some (bl p).toArray.size := by simp [bl_len, hp, Try.size31]
  have HSZ := hideIt hsz
  have RW := hideIt (roundWords_any p hp h8)
  have HWL := hideIt (wds_len p)
  have HW := hideIt (wds_w32 p h8)
  have HS := hideIt (And.intro hs hw)
  have hzv := (zero_of_info (P := Try.prog) Try.zero30).1
  have hzk := (zero_of_info (P := Try.prog) Try.zero52).1
  obtain ⟨B, hB⟩ : ∃ B, B = bl p := ⟨_, rfl⟩
  obtain ⟨Z, hZ⟩ : ∃ Z, Z = zK := ⟨_, rfl⟩
  obtain ⟨Y, hY⟩ : ∃ Y, Y = z8 := ⟨_, rfl⟩
  obtain ⟨D, hD⟩ : ∃ D, D = wl (wds p) := ⟨_, rfl⟩
  obtain ⟨S, hS⟩ : ∃ S, S = wl s := ⟨_, rfl⟩
  obtain ⟨T, hT⟩ : ∃ T, T = wl (thru s p) := ⟨_, rfl⟩
  have hz1 : (Try.prog.info? 80).map (·.size) = some (wl (wds p)).toArray.size := by simp [wl_len, wds_len, Try.size52]
  have hz2 : zK.toArray.size = (wl (wds p)).toArray.size := by simp [wl_len, wds_len, zK]
  have HA := hideIt (wl_all (wds p))
  have HZ1 := hideIt hz1
  have HZ2 := hideIt hz2
  rw [← hZ] at hzk HZ2
  rw [← hY] at hzv
  rw [← hB] at HSZ RW ⊢
  rw [← hD] at HZ1 HZ2 HA RW
  rw [← hS, ← hT]
  have HD := hideIt hD
  have HY := hideIt hY
  have HSS := hideIt hS
  have HTT := hideIt hT
  clear hsz hz1 hz2 hB hZ hY hD hS hT hs hw hp h8
  go_enter Try.func60, Try.ntmps60
  go_wp2_with (first | (refine wpList_load_row rfl 59 (.tmp 3) rfl (w.heap.size + 1) rfl 59 B.toArray (0, 0) _ (Blk.alloc (by have := Blk.new (w.alloc (.cells S.toArray 58)) 59 B; rw [size_alloc] at this; exact this) _) Try.underlying59 rfl HSZ.out ?_) | fail)
  refine (RW.out _).mono ?_
  rintro e w1 ⟨rfl, on1⟩
  have q1 : Blk w1 w.heap.size 58 S := (((Blk.new w 58 S).alloc (.cells B.toArray 59)).alloc (.cells Y.toArray 58)).past on1
  have q2 : Blk w1 (w.heap.size + 1 + 1) 58 Y := by
    have := Blk.new ((w.alloc (.cells S.toArray 58)).alloc (.cells B.toArray 59)) 58 Y
    rw [size_alloc, size_alloc] at this
    exact this.past on1
  have q3 : Only (fun _ => False) w w1 := ((((Only.refl _ _).alloc _).alloc _).alloc _).same on1
  have q4 : w.heap.size + 1 + 1 < w1.heap.size := q2.lt
  have q5 : Only (fun _ => False) w1 ((w1.alloc (.cells Z.toArray 80)).setRow w1.heap.size D.toArray) := ((Only.refl _ _).alloc _).setRow (fun h => absurd h (Nat.lt_irrefl _)) _
  have TW : Hid (Tw w w.heap.size w1.heap.size (w.heap.size + 1 + 1) s (wds p) ((w1.alloc (.cells Z.toArray 80)).setRow w1.heap.size D.toArray)) := by
    refine ⟨?_, ?_, ?_, q3.same q5⟩
    · rw [← HSS.out]; exact q1.past q5
    · rw [← HD.out]; exact (Blk.new w1 80 Z).row D
    · rw [← HY.out]; exact q2.past q5
  have HLT : Hid (w.heap.size ≠ w1.heap.size ∧ w.heap.size ≠ w.heap.size + 1 + 1 ∧ w.heap.size + 1 + 1 ≠ w1.heap.size ∧ w.heap.size ≤ w.heap.size + 1 + 1) := ⟨by omega, by omega, by omega, by omega⟩
  clear on1 q1 q2 q3 q4 q5 RW hzv HSZ
  go_wp2_with (refine wpList_store_row rfl 80 (.tmp 5) (.tmp 21) rfl w1.heap.size D.toArray rfl rfl 80 Z.toArray (Blk.new w1 80 Z) HZ1.out HZ2.out HA.out ?_)
  obtain ⟨M, hM⟩ : ∃ M, M = w1.heap.size := ⟨_, rfl⟩
  obtain ⟨R, hR⟩ : ∃ R, R = w.heap.size + 1 + 1 := ⟨_, rfl⟩
  obtain ⟨N, hN⟩ : ∃ N, N = w.heap.size := ⟨_, rfl⟩
  obtain ⟨W2, hW2⟩ : ∃ W2, W2 = ((w1.alloc (.cells Z.toArray 80)).setRow w1.heap.size D.toArray) := ⟨_, rfl⟩
  rw [← hW2, ← hM, ← hR] at TW
  rw [← hM, ← hR] at HLT
  rw [← hN] at TW HLT
  rw [← hW2, ← hM, ← hR, ← hN]
  have HN := hideIt hN
  clear hM hR hN hW2 hzk HA HZ1 HZ2
  obtain ⟨x0, hx0⟩ : ∃ x, x = s.getD 0 0 := ⟨_, rfl⟩
  have c0 : W2.cell? ⟨N, 0, none⟩ = some (.int .u32 (x0 : Int)) := by
    rw [TW.out.st.cell, wl_at _ _ (by rw [HS.out.1]; decide), ← hx0]
  have HX0 := hideIt hx0
  clear hx0
  obtain ⟨x1, hx1⟩ : ∃ x, x = s.getD 1 0 := ⟨_, rfl⟩
  have c1 : W2.cell? ⟨N, 1, none⟩ = some (.int .u32 (x1 : Int)) := by
    rw [TW.out.st.cell, wl_at _ _ (by rw [HS.out.1]; decide), ← hx1]
  have HX1 := hideIt hx1
  clear hx1
  obtain ⟨x2, hx2⟩ : ∃ x, x = s.getD 2 0 := ⟨_, rfl⟩
  have c2 : W2.cell? ⟨N, 2, none⟩ = some (.int .u32 (x2 : Int)) := by
    rw [TW.out.st.cell, wl_at _ _ (by rw [HS.out.1]; decide), ← hx2]
  have HX2 := hideIt hx2
  clear hx2
  obtain ⟨x3, hx3⟩ : ∃ x, x = s.getD 3 0 := ⟨_, rfl⟩
  have c3 : W2.cell? ⟨N, 3, none⟩ = some (.int .u32 (x3 : Int)) := by
    rw [TW.out.st.cell, wl_at _ _ (by rw [HS.out.1]; decide), ← hx3]
  have HX3 := hideIt hx3
  clear hx3
  obtain ⟨x4, hx4⟩ : ∃ x, x = s.getD 4 0 := ⟨_, rfl⟩
  have c4 : W2.cell? ⟨N, 4, none⟩ = some (.int .u32 (x4 : Int)) := by
    rw [TW.out.st.cell, wl_at _ _ (by rw [HS.out.1]; decide), ← hx4]
  have HX4 := hideIt hx4
  clear hx4
  obtain ⟨x5, hx5⟩ : ∃ x, x = s.getD 5 0 := ⟨_, rfl⟩
  have c5 : W2.cell? ⟨N, 5, none⟩ = some (.int .u32 (x5 : Int)) := by
    rw [TW.out.st.cell, wl_at _ _ (by rw [HS.out.1]; decide), ← hx5]
  have HX5 := hideIt hx5
  clear hx5
  obtain ⟨x6, hx6⟩ : ∃ x, x = s.getD 6 0 := ⟨_, rfl⟩
  have c6 : W2.cell? ⟨N, 6, none⟩ = some (.int .u32 (x6 : Int)) := by
    rw [TW.out.st.cell, wl_at _ _ (by rw [HS.out.1]; decide), ← hx6]
  have HX6 := hideIt hx6
  clear hx6
  obtain ⟨x7, hx7⟩ : ∃ x, x = s.getD 7 0 := ⟨_, rfl⟩
  have c7 : W2.cell? ⟨N, 7, none⟩ = some (.int .u32 (x7 : Int)) := by
    rw [TW.out.st.cell, wl_at _ _ (by rw [HS.out.1]; decide), ← hx7]
  have HX7 := hideIt hx7
  clear hx7
  go_quiet (fail)
  go_wp2
  go_quiet (fail)
  go_wp2_with fail
  refine (constants_any _).mono ?_
  rintro e w3 ⟨rfl, on3⟩
  have TW3 := hideIt (TW.out.past (((Only.refl (fun _ => False) W2).drewN _).same on3))
  clear on3 TW c0 c1 c2 c3 c4 c5 c6 c7
  have IXK := hideIt (ix_w64 shK rfl)
  obtain ⟨KK, hKK⟩ : ∃ KK, KK = wl shK := ⟨_, rfl⟩
  rw [← hKK] at IXK ⊢
  clear hKK
  go_wp2
  have HXX : Hid ([x0, x1, x2, x3, x4, x5, x6, x7] = s) := by
    show _ = _
    rw [HX0.out, HX1.out, HX2.out, HX3.out, HX4.out, HX5.out, HX6.out, HX7.out]
    exact (getD8 s HS.out.1).symm
  clear HX0 HX1 HX2 HX3 HX4 HX5 HX6 HX7
  go_loopw [39, 6, 7, 8, 9, 10, 11, 12, 13] (fun i a b c d e f g h wr => ∃ (t y0 y1 y2 y3 y4 y5 y6 y7 : Nat), t ≤ 64 ∧ [y0, y1, y2, y3, y4, y5, y6, y7] = rnds s (wds p) t ∧ i = .int .i64 t ∧ a = .int .u32 y0 ∧ b = .int .u32 y1 ∧ c = .int .u32 y2 ∧ d = .int .u32 y3 ∧ e = .int .u32 y4 ∧ f = .int .u32 y5 ∧ g = .int .u32 y6 ∧ h = .int .u32 y7 ∧ Tw w N M R s (wds p) wr) (fun i _ _ _ _ _ _ _ _ _ => 64 - (intOf i).toNat)
  case atStart =>
    exact ⟨0, x0, x1, x2, x3, x4, x5, x6, x7, by omega, HXX.out, rfl, rfl, rfl, rfl, rfl, rfl, rfl, rfl, rfl, TW3.out⟩
  case round =>
    obtain ⟨t, y0, y1, y2, y3, y4, y5, y6, y7, ht, hr, rfl, rfl, rfl, rfl, rfl, rfl, rfl, rfl, rfl, twr⟩ := hrel
    have HR := hideIt hr
    clear hr TW3 HXX
    by_cases hlt : t < 64
    · have hw32 : W32 [y0, y1, y2, y3, y4, y5, y6, y7] := by rw [HR.out]; exact rnds_w32 _ _ HS.out.2 _
      have b0 := hw32.at 0
      have b1 := hw32.at 1
      have b2 := hw32.at 2
      have b4 := hw32.at 4
      have b5 := hw32.at 5
      have b6 := hw32.at 6
      change y0 < _ at b0
      change y1 < _ at b1
      change y2 < _ at b2
      change y4 < _ at b4
      change y5 < _ at b5
      change y6 < _ at b6
      obtain ⟨k, hk⟩ : ∃ k, k = shK.getD t 0 := ⟨_, rfl⟩
      obtain ⟨x, hx⟩ : ∃ x, x = (wds p).getD t 0 := ⟨_, rfl⟩
      have hix := IXK.out t hlt
      have hcx : wr.cell? ⟨M, t, none⟩ = some (.int .u32 (x : Int)) := by
        rw [twr.ws.cell, wl_at _ _ (by rw [HWL.out]; exact hlt), ← hx]
      rw [← hk] at hix
      have i0 : (0 : Int) ≤ (t : Int) := by omega
      have i1 : (t : Int) < 64 := by omega
      have hnx : rnds s (wds p) (t + 1) = rnd [y0, y1, y2, y3, y4, y5, y6, y7] k x := by rw [rnds_succ, ← HR.out, ← hk, ← hx]
      rw [rnd_t] at hnx
      have TWR := hideIt twr
      obtain ⟨ny, hny⟩ : ∃ ny, ny = 4294967295 - y4 := ⟨_, rfl⟩
      have hs1 : IntKind.u32.signed = false := rfl
      have hs2 : IntKind.u32.max = 4294967295 := rfl
      have hs3 : bits .xor .u32 4294967295 (y4 : Int) = (ny : Int) := by rw [not_int' y4 b4, hny]
      obtain ⟨ch, hch⟩ : ∃ ch, ch = chw y4 y5 y6 := ⟨_, rfl⟩
      obtain ⟨mj, hmj⟩ : ∃ mj, mj = majw y0 y1 y2 := ⟨_, rfl⟩
      obtain ⟨g1, hg1⟩ : ∃ g1, g1 = Sg1 y4 := ⟨_, rfl⟩
      obtain ⟨g0, hg0⟩ : ∃ g0, g0 = Sg0 y0 := ⟨_, rfl⟩
      obtain ⟨T1, hT1⟩ : ∃ T1, T1 = (y7 + g1 + ch + k + x) % 4294967296 := ⟨_, rfl⟩
      obtain ⟨T2, hT2⟩ : ∃ T2, T2 = (g0 + mj) % 4294967296 := ⟨_, rfl⟩
      obtain ⟨n0, hn0⟩ : ∃ n0, n0 = (T1 + T2) % 4294967296 := ⟨_, rfl⟩
      obtain ⟨n4, hn4⟩ : ∃ n4, n4 = (y3 + T1) % 4294967296 := ⟨_, rfl⟩
      have NX : Hid (rnds s (wds p) (t + 1) = [n0, y0, y1, y2, n4, y4, y5, y6]) := by
        show _ = _
        rw [hnx]
        simp only [t1w, t2w, List.getD_cons_zero, List.getD_cons_succ]
        rw [← hch, ← hmj, ← hg1, ← hg0, ← hT1, ← hT2, ← hn0, ← hn4]
      have S1 := hideIt (Sg1_any y4 · b4)
      have S0 := hideIt (Sg0_any y0 · b0)
      rw [← hg1] at S1
      rw [← hg0] at S0
      have p1 : bits .xor .u32 (bits .and .u32 (y4 : Int) (y5 : Int)) (bits .and .u32 (ny : Int) (y6 : Int)) = (ch : Int) := by rw [hny, hch, ch_int y4 y5 y6 b4 b5 b6]
      have p2 : bits .xor .u32 (bits .xor .u32 (bits .and .u32 (y0 : Int) (y1 : Int)) (bits .and .u32 (y0 : Int) (y2 : Int))) (bits .and .u32 (y1 : Int) (y2 : Int)) = (mj : Int) := by rw [hmj, maj_int y0 y1 y2 b0 b1 b2]
      have p3 : IntKind.u32.wrap (IntKind.u32.wrap (IntKind.u32.wrap (IntKind.u32.wrap ((y7 : Int) + g1) + ch) + k) + x) = (T1 : Int) := by rw [sum5, hT1]
      have p4 : IntKind.u32.wrap ((g0 : Int) + mj) = (T2 : Int) := by rw [sum2, hT2]
      have p5 : IntKind.u32.wrap ((T1 : Int) + T2) = (n0 : Int) := by rw [sum2, hn0]
      have p6 : IntKind.u32.wrap ((y3 : Int) + T1) = (n4 : Int) := by rw [sum2, hn4]
      have p7 : ((g0 : Int) + mj) % 4294967296 = (T2 : Int) := by rw [hT2]; omega
      have p8 : ((T1 : Int) + T2) % 4294967296 = (n0 : Int) := by rw [hn0]; omega
      have p9 : ((y3 : Int) + T1) % 4294967296 = (n4 : Int) := by rw [hn4]; omega
      have TWR := hideIt twr
      clear hny hch hmj hg1 hg0 hT1 hT2 hn0 hn4 hk hx hw32 hnx b0 b1 b2 b4 b5 b6 twr
      go_wp2
      go_region_held3 (fun W => W.cell? ⟨M, t, none⟩ = some (Value.int .u32 x)) (go_keep) (first | (go_at_call 69; refine (S1.out _).mono ?_; rintro e w2 ⟨rfl, rfl⟩))
      go_wp2_with fail
      refine (S0.out _).mono ?_
      rintro e w2 ⟨rfl, rfl⟩
      go_wp2
      go_roundw
      case rel => exact ⟨t + 1, n0, y0, y1, y2, n4, y4, y5, y6, by omega, NX.out.symm, by go_num, rfl, rfl, rfl, rfl, rfl, rfl, rfl, rfl, TWR.out.past (Only.refl _ _).drew⟩
      case measure => simp [intOf]; omega
    · obtain rfl : t = 64 := by omega
      have HB : Hid (Try.prog.built 58 [(0, .int .u32 (y0 : Int)), (1, .int .u32 (y1 : Int)), (2, .int .u32 (y2 : Int)), (3, .int .u32 (y3 : Int)), (4, .int .u32 (y4 : Int)), (5, .int .u32 (y5 : Int)), (6, .int .u32 (y6 : Int)), (7, .int .u32 (y7 : Int))] = some (wl [y0, y1, y2, y3, y4, y5, y6, y7]).toArray) := by
        show _ = _
        kernel_rfl
      have IX8 := hideIt (ix_w8 [y0, y1, y2, y3, y4, y5, y6, y7] rfl)
      obtain ⟨r, hr⟩ : ∃ r, r = [y0, y1, y2, y3, y4, y5, y6, y7] := ⟨_, rfl⟩
      rw [← hr] at HB IX8 HR
      obtain ⟨C, hC⟩ : ∃ C, C = (wl r).toArray := ⟨_, rfl⟩
      rw [← hC] at HB IX8
      have TW0 : Hid (Tw w N M R (addp s r 0) (wds p) wr) := by
        show _
        rw [addp_zero s r HS.out.1]; exact twr
      obtain ⟨W4, hW4⟩ : ∃ W4, W4 = wr := ⟨_, rfl⟩
      subst hW4
      clear hr hC twr IXK
      go_wp2_with (refine wpList_build_as rfl 58 _ rfl C (Eq.trans (congrArg (Try.prog.built 58) (by kernel_rfl)) HB.out) ?_)
      go_loopw [98] (fun i wr => ∃ j : Nat, j ≤ 8 ∧ i = .int .i64 j ∧ Tw w N M R (addp s r j) (wds p) wr) (fun i _ => 8 - (intOf i).toNat)
      case atStart => exact ⟨0, by omega, rfl, TW0.out⟩
      case round =>
        obtain ⟨j, hj, rfl, twr⟩ := hrel
        clear TW0
        by_cases hlt : j < 8
        · obtain ⟨a, ha⟩ : ∃ a, a = s.getD j 0 := ⟨_, rfl⟩
          obtain ⟨b, hb⟩ : ∃ b, b = r.getD j 0 := ⟨_, rfl⟩
          have hix := IX8.out j hlt
          rw [← hb] at hix
          have hc : wr.cell? ⟨N, j, none⟩ = some (.int .u32 (a : Int)) := by
            rw [twr.st.cell, wl_at _ _ (by rw [addp_len]; exact hlt), addp_at _ _ _ hlt, ← ha]
          have hf : wr.frozen? ⟨N, j, none⟩ = false := twr.st.froz _
          obtain ⟨q, hq⟩ : ∃ q, q = (a + b) % 4294967296 := ⟨_, rfl⟩
          have p1 : IntKind.u32.wrap ((a : Int) + b) = (q : Int) := by rw [sum2, hq]
          have p2 : ((a : Int) + b) % 4294967296 = (q : Int) := by rw [hq]; omega
          have hON := (Only.refl (fun k => k = N) wr).setCell (p := ⟨N, j, none⟩) (fun _ => rfl) (.int .u32 (q : Int))
          have TN : Hid (Tw w N M R (addp s r (j + 1)) (wds p) (wr.setCell ⟨N, j, none⟩ (.int .u32 (q : Int)))) := by
            refine ⟨?_, twr.ws.keep hON (fun e => HLT.out.1 e.symm), twr.rs.keep hON (fun e => HLT.out.2.1 e.symm), twr.on.trans hON (fun i hi e => by have := HN.out; omega)⟩
            have := twr.st.set j (.int .u32 (q : Int))
            rw [wl_set] at this
            rw [addp_next _ _ _ hlt, ← ha, ← hb, ← hq]
            exact this
          have i0 : (0 : Int) ≤ (j : Int) := by omega
          have i1 : (j : Int) < 8 := by omega
          clear ha hb hq twr hON
          go_wp2
          go_roundw
          case rel => exact ⟨j + 1, by omega, by go_num, TN.out⟩
          case measure => simp [intOf]; omega
        · obtain rfl : j = 8 := by omega
          have S2 : Hid (Blk wr N 58 T) := by
            show _
            have := twr.st
            rw [HR.out, addp_all, ← HTT.out] at this
            exact this
          have R2 := hideIt twr.rs
          have O2 := hideIt twr.on
          have HZ1 : Hid ((Try.prog.info? 58).map (·.size) = some T.toArray.size) := by
            show _ = _
            rw [HTT.out, Try.size30]; simp [wl_len, thru_len]
          have HZ2 : Hid (z8.toArray.size = T.toArray.size) := by
            show _ = _
            rw [HTT.out]; simp [wl_len, thru_len, z8]
          have HA : Hid (T.toArray.all (·.oneCell') = true) := by
            show _ = _
            rw [HTT.out]; exact wl_all _
          clear twr
          go_wp2_with (first | (refine wpList_load_row rfl 58 (.tmp 2) rfl N rfl 58 T.toArray (0, 0) _ S2.out Try.underlying58 rfl HZ1.out ?_) | (refine wpList_store_row rfl 58 (.tmp 4) (.tmp 109) rfl R T.toArray rfl rfl 58 z8.toArray R2.out HZ1.out HZ2.out HA.out ?_))
          refine bodyPost_ret (v := .agg T.toArray) (results_cell_row rfl _ _ R 58 T.toArray (0, 0) _ rfl (R2.out.row T) Try.underlying58 rfl HZ1.out) rfl ⟨rfl, ?_⟩
          exact O2.out.setRow (fun h => absurd h (by have := HLT.out.2.2.2; have := HN.out; omega)) _
end Go.Proofs.Ytnifflnhbpfmnaa
