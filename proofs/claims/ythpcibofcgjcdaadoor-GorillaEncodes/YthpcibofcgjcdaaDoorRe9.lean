/- The document's answer for patterns: Encode. -/
import Derived.Test.YthpcibofcgjcdaaDoorRf
import Derived.Test.YthpcibofcgjcdaaDoorBRBytes
import Derived.Test.YthpcibofcgjcdaaDoorInfo
namespace Go.Proofs.YthpcibofcgjcdaaDoor
open Go.RowKit

/-- the reference's window -/
def W3 (wn : Option (Nat × Nat)) (a z : Int) : Prop := (wn = none ∧ a = -1 ∧ z = -1) ∨ ∃ a' z' : Nat, wn = some (a', z') ∧ a = (a' : Int) ∧ z = (z' : Int) ∧ a' ≤ 31 ∧ a' + z' ≤ 63
theorem bits_lit2 (w : World) (b : Bool) : Bs .i64 (w.alloc (.cells #[.int .i64 1, .int .i64 (b.toNat : Nat)] 3)) (.slice (some ⟨w.heap.size, 0, none⟩) 2 2) (bitsI [true, b]) :=
  Bs.litN .i64 w 3 [1, (b.toNat : Int)] _ _ rfl rfl
set_option maxHeartbeats 400000 in
theorem rencode9_long (v : Value) (xs : List Int) (w : World) (h : Bs .u64 w v xs) (hl : 65536 < xs.length) :
    Calls Tryd.prog 11 #[v] w fun e w' => e = .returned (.tuple #[.slice none 0 0, .int .i64 4]) ∧ w = w' := by
  obtain ⟨ao, cap, rfl⟩ := h.len
  clear h
  have d0 : decide (65536 < (xs.length : Int)) = true := by simp; omega
  generalize xs.length = m at *
  clear hl
  go_enter Tryd.func11, Tryd.ntmps11
  go_wp2
  go_ret2
  exact ⟨rfl, rfl⟩
set_option maxHeartbeats 400000 in
theorem rencode9_nil (v : Value) (w : World) (h : Bs .u64 w v []) :
    Calls Tryd.prog 11 #[v] w fun e w' => ∃ v', e = .returned (.tuple #[v', .int .i64 0]) ∧ w'.ownsRow w.heap.size 5 1 v' 0 [] ∧ Only (fun _ => False) w w' := by
  obtain ⟨ao, cap, rfl⟩ := h.len
  clear h
  have B := brbytes_bs (.slice none 0 0) [] w (Bs.nil _ _) (by simp)
  rw [show bytesI ([] : List Bool) = [] from rfl] at B
  simp only [List.length_nil, List.map_nil] at B
  have B := hideIt B
  go_enter Tryd.func11, Tryd.ntmps11
  go_wp2
  go_loop [4, 7] (fun k i => k = .slice none 0 0 ∧ i = .int .i64 0) (fun _ _ => 0)
  case atStart => exact ⟨rfl, rfl⟩
  case round =>
    obtain ⟨rfl, rfl⟩ := hrel
    go_wp2_with fail
    refine B.out.mono ?_
    rintro e w1 h1
    obtain ⟨v1, he, own, on⟩ := h1
    subst he
    have OW := hideIt own
    have ON := hideIt on
    clear own on B
    go_wp2
    go_ret2
    exact ⟨v1, rfl, OW.out, ON.out⟩
set_option maxHeartbeats 8000000 in
set_option maxRecDepth 100000 in
theorem rencode9_cons (v : Value) (x0 : Int) (t : List Int) (w : World) (h : Bs .u64 w v (x0 :: t)) (hu : U64 (x0 :: t)) (hl : (x0 :: t).length ≤ 10000) :
    Calls Tryd.prog 11 #[v] w fun e w' => ∃ v', e = .returned (.tuple #[v', .int .i64 0]) ∧ w'.ownsRow w.heap.size 5 1 v' (bytesI (GB (x0 :: t))).length ((bytesI (GB (x0 :: t))).map (Value.int .u8)) ∧ Only (fun _ => False) w w' := by
  obtain ⟨i0, hi, hz0, hz1, hz2⟩ := info_parts Tryd.infoI64
  obtain ⟨b, off, cap, rfl, c0⟩ := h.at 0 (by simp)
  have HU := hideIt hu
  obtain ⟨u0, u1⟩ := hu x0 List.mem_cons_self
  simp only [List.getD_cons_zero, Nat.add_zero] at c0
  have hbw := cell_in c0
  have HC : Hid (∀ j, j < (x0 :: t).length → w.cell? ⟨b, off + j, none⟩ = some (.int .u64 ((x0 :: t).getD j 0))) := by
    intro j hj
    obtain ⟨b', off', cap', e, hc⟩ := h.at j hj
    simp only [Value.slice.injEq, Option.some.injEq, Addr.mk.injEq, and_true] at e
    obtain ⟨⟨rfl, rfl⟩, _, rfl⟩ := e
    exact hc
  have hmem : Hid (∀ j, j < (x0 :: t).length → 0 ≤ (x0 :: t).getD j 0 ∧ (x0 :: t).getD j 0 ≤ 18446744073709551615) := fun j hj => hu _ (by rw [List.getD_eq_getElem?_getD, List.getElem?_eq_getElem hj]; simp)
  obtain ⟨m, hm⟩ : ∃ m, m = t.length := ⟨_, rfl⟩
  have HM := hideIt hm
  have hlen : (x0 :: t).length = m + 1 := by rw [hm]; rfl
  rw [hlen] at hl HC hmem
  rw [hlen]
  obtain ⟨n, hn⟩ : ∃ n, n = m + 1 := ⟨_, rfl⟩
  rw [← hn] at hl HC hmem
  rw [← hn]
  have n0 : 0 < n := by omega
  have HN := hideIt hn
  obtain ⟨G, hG⟩ : ∃ G, G = bytesI (GB (x0 :: t)) := ⟨_, rfl⟩
  rw [← hG]
  have HG := hideIt hG
  have d0 : decide (65536 < (n : Int)) = false := by simp; omega
  have x64 : wid x0.toNat ≤ 64 := wid_le64 x0.toNat (by omega)
  clear h hu hm hlen hG hn
  go_enter Tryd.func11, Tryd.ntmps11
  go_wp2
  go_loopw [4, 5, 6, 7] (fun kv av zv iv wr => (kv = .slice none 0 0 ∧ av = .int .i64 (-1) ∧ zv = .int .i64 (-1) ∧ iv = .int .i64 0 ∧ wr = w) ∨
    ∃ k : Nat, k ≤ m ∧ iv = .int .i64 ((k : Int) + 1) ∧ wr.ownsRow w.heap.size 3 1 kv (bitsOf x0.toNat 64 ++ gE x0.toNat none (t.take k)).length ((bitsI (bitsOf x0.toNat 64 ++ gE x0.toNat none (t.take k))).map (Value.int .i64)) ∧
      (∃ a z : Int, av = .int .i64 a ∧ zv = .int .i64 z ∧ W3 (gW x0.toNat none (t.take k)) a z) ∧ Below w.heap.size w wr) (fun _ _ _ i _ => n - (intOf i).toNat)
  case atStart => exact .inl ⟨rfl, rfl, rfl, rfl, rfl⟩
  case round =>
    rcases hrel with ⟨rfl, rfl, rfl, rfl, rfl⟩ | ⟨k, hk, rfl, hown, ⟨a, z, rfl, rfl, hw3⟩, hbel⟩
    · have dlt : decide ((0 : Int) < (n : Int)) = true := by simp; omega
      have P0 := hideIt (rput9 (.slice none 0 0) [] x0 x0.toNat 64 wr (Bs.nil _ _) NoCap.nil (by simp) (by omega) (by omega) (by omega) x64)
      go_wp2_with fail
      refine P0.out.mono ?_
      rintro e w1 ⟨v1, rfl, own1, on1⟩
      have OW1 : Hid (w1.ownsRow wr.heap.size 3 1 v1 (bitsOf x0.toNat 64 ++ gE x0.toNat none (t.take 0)).length ((bitsI (bitsOf x0.toNat 64 ++ gE x0.toNat none (t.take 0))).map (Value.int .i64))) := by
        have e : bitsOf x0.toNat 64 ++ gE x0.toNat none (t.take 0) = [] ++ bitsOf x0.toNat 64 := by simp [gE]
        simp only [Hid]; rw [e]; exact own1
      have B1 := hideIt (on1.low (Nat.le_refl _))
      clear own1 on1 P0
      go_wp2
      go_roundw
      case rel => exact .inr ⟨0, Nat.zero_le _, rfl, OW1.out, ⟨_, _, rfl, rfl, .inl ⟨rfl, rfl, rfl⟩⟩, B1.out⟩
      case measure => simp [intOf]; omega
    by_cases hlt : k < m
    case neg =>
      obtain rfl : k = m := by omega
      have dlt : decide ((k : Int) + 1 < (n : Int)) = false := by have := HN.out; simp; omega
      have hlq : (bitsOf x0.toNat 64 ++ gE x0.toNat none (t.take k)).length ≤ 1000000 := by
        have := (gE_len (t.take k) x0.toNat none).1
        have := HN.out
        rw [List.length_append, bitsOf_length]
        rw [List.length_take] at *
        omega
      have BY := hideIt (brbytes_bs _ _ wr (bs_bits hown) hlq)
      have hbits : Hid (bytesI (bitsOf x0.toNat 64 ++ gE x0.toNat none (t.take k)) = G) := by
        simp only [Hid]; rw [HG.out, HM.out, List.take_length]; rfl
      rw [hbits.out] at BY
      have HBEL := hideIt hbel
      clear hown hlq hw3 hbel
      go_wp2_with fail
      refine BY.out.mono ?_
      rintro e w4 ⟨v4, rfl, own4, on4⟩
      have OW := hideIt (own_low own4 HBEL.out.size)
      have ON := hideIt ((only_of_below HBEL.out).same on4)
      clear BY own4 on4
      go_wp2
      go_ret2
      exact ⟨v4, rfl, OW.out, ON.out⟩
    have hn1 := HN.out
    have dlt : decide ((k : Int) + 1 < (n : Int)) = true := by simp; omega
    have c1 := (hbel.cell (p := ⟨b, off + (k + 1), none⟩) hbw).trans (HC.out (k + 1) (by omega))
    have c2 := (hbel.cell (p := ⟨b, off + k, none⟩) hbw).trans (HC.out k (by omega))
    rw [List.getD_cons_succ] at c1
    obtain ⟨s1, s2⟩ := gE_step x0 t k (by rw [← HM.out]; exact hlt)
    have G1 := hideIt s1
    have G2 := hideIt s2
    obtain ⟨p0, p1⟩ := hmem.out k (by omega)
    obtain ⟨y0, y1⟩ := hmem.out (k + 1) (by omega)
    rw [List.getD_cons_succ] at y0 y1
    have HLEN : Hid ((bitsOf x0.toNat 64 ++ gE x0.toNat none (t.take k)).length ≤ 900000) := by
      have := (gE_len (t.take k) x0.toNat none).1
      simp only [Hid]
      rw [List.length_append, bitsOf_length]
      rw [List.length_take] at this
      omega
    have hxx := xor_i p0 p1 y0 y1
    have hxl := xor_lt (a := ((x0 :: t).getD k 0).toNat) (b := (t.getD k 0).toNat) (by omega) (by omega)
    generalize (x0 :: t).getD k 0 = pp at *
    generalize t.getD k 0 = yy at *
    generalize pp.toNat ^^^ yy.toNat = X at *
    obtain ⟨L, hL⟩ : ∃ L, L = bitsOf x0.toNat 64 ++ gE x0.toNat none (t.take k) := ⟨_, rfl⟩
    rw [← hL] at hown HLEN
    have HL := hideIt hL
    obtain ⟨q, hq⟩ : ∃ q, q = L.length := ⟨_, rfl⟩
    rw [← hq] at hown HLEN
    have HQ := hideIt hq
    have hown := hideIt hown
    have HBEL := hideIt hbel
    obtain ⟨wn, hwn⟩ : ∃ wn, wn = gW x0.toNat none (t.take k) := ⟨_, rfl⟩
    rw [← hwn] at hw3 G1 G2
    have HC3 := hideIt hw3
    clear s1 s2 hL hq hbel hwn hw3
    have ik : (k : Int) + 1 < (n : Int) := by omega
    have hnb : n ≤ 10000 := hl
    have hkn : k + 1 < n := by omega
    clear hn1
    have ON0 : Hid (Only (fun _ => False) wr wr.drew) := (Only.refl _ _).drew
    by_cases hX : X = 0
    · subst hX
      go_wp2
      go_region
      have eg : gx 0 wn = ([false], wn) := by unfold gx; rw [if_pos rfl]
      rw [eg] at G1 G2
      have OWK := hideIt ((ON0.out.own hown.out (fun _ _ f => f)).alloc (.cells #[.int .i64 0] 3))
      have hsz : w.heap.size ≤ wr.drew.heap.size := HBEL.out.size
      have hL6 := HLEN.out
      go_wp2_with (at_builtin; go_loud (refine wpList_append_lies _ rfl _ _ _ rfl w.heap.size 3 i0 (.int .i64 0) 1 8 Tryd.underlying46 hi hz0 hz1 hz2 rfl (by omega) _ q ((bitsI L).map (Value.int .i64)) rfl OWK.out ⟨wr.heap.size, 0, none⟩ 1 1 [.int .i64 0] rfl rfl ?c1 ?c2 (by omega) ?c3 ?c4 ?c5 (wr.heap.size + 1) (by simp) ?_))
      case c2 => first | rfl | trivial | (intro u hu; simp at hu; subst hu; rfl)
      case c3 => unfold maxLen; omega
      case c4 => omega
      case c5 => exact Nat.le_trans hsz (by simp)
      intro g cap1 w8 hown1 hgrow hat hg1
      have HB8 : Hid (Below w.heap.size w w8) := (HBEL.out.drew.alloc HBEL.out.size _).grown hgrow (Nat.le_trans hsz (by simp)) (fun r hr => (hown.out.lt r hr).1)
      have OW8 : Hid (w8.ownsRow w.heap.size 3 1 (.slice (some ⟨g, 0, none⟩) (q + 1) cap1) (bitsOf x0.toNat 64 ++ gE x0.toNat none (t.take (k + 1))).length ((bitsI (bitsOf x0.toNat 64 ++ gE x0.toNat none (t.take (k + 1)))).map (Value.int .i64))) := by
        have e : bitsOf x0.toNat 64 ++ gE x0.toNat none (t.take (k + 1)) = L ++ [false] := by rw [G1.out, ← List.append_assoc, ← HL.out]
        simp only [Hid]
        rw [e, List.length_append, ← HQ.out, bitsI, List.map_append, List.map_append]
        exact hown1
      clear hown1 hgrow hat hg1 OWK
      go_wp2
      go_roundw
      case rel => exact .inr ⟨k + 1, by omega, by simp, OW8.out, ⟨_, _, rfl, rfl, by rw [G2.out]; exact HC3.out⟩, HB8.out⟩
      case measure => simp [intOf]; omega
    obtain ⟨n1, n2, n3⟩ := win_new (Nat.pos_of_ne_zero hX) hxl
    have hw64 := wid_le64 X hxl
    have dX : ((X : Int) == 0) = false := by rw [beq_eq_false_iff_ne]; omega
    have RWI := fun w => hideIt (rwidth_any (X : Int) w (by omega) (by omega))
    simp only [Int.toNat_natCast] at RWI
    have RTR := fun w => hideIt (rtrail_any X w (Nat.pos_of_ne_zero hX) hxl)
    have RLE := fun w => hideIt (rlead_any X w hxl)
    obtain ⟨ww, hww⟩ : ∃ ww, ww = wid X := ⟨_, rfl⟩
    obtain ⟨tt, htt⟩ : ∃ tt, tt = tz X := ⟨_, rfl⟩
    obtain ⟨aa, haa⟩ : ∃ aa, aa = ldz X := ⟨_, rfl⟩
    rw [← hww] at RWI hw64 n2
    rw [← htt] at RTR n3
    rw [← haa] at RLE n1 n2 n3
    rcases HC3.out with ⟨rfl, rfl, rfl⟩ | ⟨a', z', rfl, rfl, rfl, h5, h6⟩
    · obtain ⟨d, hd⟩ : ∃ d, d = 64 - aa - tt := ⟨_, rfl⟩
      obtain ⟨d1, hd1⟩ : ∃ d1, d1 = 63 - aa - tt := ⟨_, rfl⟩
      have eg : gx X none = (newW X, some (ldz X, tz X)) := by unfold gx; rw [if_neg hX]
      have HGX : newW X = [true, true] ++ bitsOf aa 5 ++ bitsOf d1 6 ++ bitsOf (X / 2 ^ tt) d := by rw [hd1, hd]; unfold newW; rw [← haa, ← htt]; simp
      have W9 : Hid (W3 (some (aa, tt)) (aa : Int) (tt : Int)) := .inr ⟨aa, tt, rfl, rfl, rfl, n1, n3⟩
      rw [eg] at G1 G2
      simp only at G1 G2
      rw [HGX] at G1
      rw [← haa, ← htt] at G2
      have y2 : wid (X / 2 ^ tt) ≤ d := by rw [hd]; exact (wid_le_iff _ _).2 (fits_lt hxl (by omega) n3)
      have y1 : X / 2 ^ tt ≤ X := Nat.div_le_self _ _
      have e3 : (X : Int) / 2 ^ tt = ((X / 2 ^ tt : Nat) : Int) := by push_cast; rfl
      have hdi : (64 : Int) - (aa : Int) - (tt : Int) = (d : Int) := by omega
      have hdj : (63 : Int) - (aa : Int) - (tt : Int) = (d1 : Int) := by omega
      have d64 : d ≤ 64 := by omega
      have z64 : (tt : Int) < 64 := by omega
      clear hww htt haa hd hd1 eg HC3
      go_wp2
      go_region
      generalize hyy : X / 2 ^ tt = y at *
      have P1 := hideIt (rput9 _ _ (aa : Int) aa 5 _ (bits_lit2 wr.drew true) (NoCap.some _ _ _) (by simp) rfl (by omega) (by omega) (wid_5 n1))
      clear hyy
      go_wp2_with fail
      refine (RLE wr.drew).out.mono ?_
      rintro e wq ⟨rfl, rfl⟩
      go_wp2_with fail
      refine (RTR wr.drew).out.mono ?_
      rintro e wq ⟨rfl, rfl⟩
      go_wp2_with fail
      refine P1.out.mono ?_
      rintro e w5 ⟨v5, rfl, own5, on5⟩
      have P2 := hideIt (rput9 v5 _ ((d1 : Nat) : Int) d1 6 w5 (bs_bits own5) (NoCap.of_own own5) (by simp [bitsOf_length]) rfl (by omega) (by omega) (wid_6 (by omega)))
      have ON5 := hideIt ((ON0.out.alloc (.cells #[.int .i64 1, .int .i64 1] 3)).same on5)
      obtain ⟨f5, c5, e5⟩ := (bs_bits own5).len
      subst e5
      clear own5 on5 P1
      go_wp2_with fail
      refine P2.out.mono ?_
      rintro e w6 ⟨v6, rfl, own6, on6⟩
      have P3 := hideIt (rput9 v6 _ (y : Int) y d w6 (bs_bits own6) (NoCap.of_own own6) (by simp [bitsOf_length]) rfl (by omega) d64 y2)
      have ON6 := hideIt (ON5.out.same on6)
      obtain ⟨f6, c6, e6⟩ := (bs_bits own6).len
      subst e6
      clear own6 on6 P2 ON5
      go_wp2_with fail
      refine P3.out.mono ?_
      rintro e w7 ⟨v7, rfl, own7, on7⟩
      have OWO := hideIt own7
      have ONK := hideIt (ON6.out.same on7)
      clear own7 on7 P3 ON6
      have HOL : Hid (([true, true] ++ bitsOf aa 5 ++ bitsOf d1 6 ++ bitsOf y d).length ≤ 100) := by simp only [Hid, List.length_append, List.length_cons, List.length_nil, bitsOf_length]; omega
      obtain ⟨LO, hLO⟩ : ∃ LO, LO = [true, true] ++ bitsOf aa 5 ++ bitsOf d1 6 ++ bitsOf y d := ⟨_, rfl⟩
      rw [← hLO] at OWO HOL
      have HLO := hideIt hLO
      clear hLO
      have hpos : 0 < LO.length := by rw [HLO.out]; simp
      obtain ⟨go, co, rfl, _, _⟩ := World.ownsRow.form OWO.out hpos
      obtain ⟨no, hno⟩ : ∃ no, no = LO.length := ⟨_, rfl⟩
      have BN := hideIt ((bs_bits OWO.out).news)
      have OWK := hideIt (ONK.out.own hown.out (fun _ _ f => f))
      have HSZ := Nat.le_trans HBEL.out.size ONK.out.size
      have BLK := hideIt (HBEL.out.trans (ONK.out.low HBEL.out.size))
      rw [← hno] at HOL hpos
      have hnl : no = LO.length := hno
      rw [← hno]
      have HNO := hideIt hno
      clear hno hnl OWO
      have hL6 := HLEN.out
      have hO6 := HOL.out
      go_wp2_with (at_builtin; go_loud (refine wpList_append_lies _ rfl _ _ _ rfl w.heap.size 3 i0 (.int .i64 0) 1 8 Tryd.underlying46 hi hz0 hz1 hz2 rfl (by omega) _ q ((bitsI L).map (Value.int .i64)) rfl OWK.out ⟨go, 0, none⟩ no co ((bitsI LO).map (Value.int .i64)) rfl ?c0 BN.out ?c2 hpos ?c3 ?c4 HSZ _ rfl ?_))
      case c0 => rw [List.length_map, bitsI_length, ← HNO.out]; omega
      case c2 => exact oneCell_ints _ _
      case c3 => unfold maxLen; omega
      case c4 => omega
      intro g cap1 w8 hown1 hgrow hat hg1
      have HB8 := hideIt (BLK.out.grown hgrow HSZ (fun r hr => (OWK.out.lt r hr).1))
      have OW8 : Hid (w8.ownsRow w.heap.size 3 1 (.slice (some ⟨g, 0, none⟩) (q + no) cap1) (bitsOf x0.toNat 64 ++ gE x0.toNat none (t.take (k + 1))).length ((bitsI (bitsOf x0.toNat 64 ++ gE x0.toNat none (t.take (k + 1)))).map (Value.int .i64))) := by
        have e : bitsOf x0.toNat 64 ++ gE x0.toNat none (t.take (k + 1)) = L ++ LO := by rw [G1.out, ← List.append_assoc, ← HL.out, HLO.out]
        simp only [Hid]
        rw [e, List.length_append, ← HQ.out, ← HNO.out, bitsI, List.map_append, List.map_append]
        exact hown1
      clear hown1 hgrow hat hg1 OWK BN BLK HLO
      go_wp2
      go_roundw
      case rel => exact .inr ⟨k + 1, by omega, by simp, OW8.out, ⟨_, _, rfl, rfl, by rw [G2.out]; exact W9.out⟩, HB8.out⟩
      case measure => simp [intOf]; omega
    by_cases hf : fitsW X a' z'
    · have eg : gx X (some (a', z')) = (true :: false :: bitsOf (X / 2 ^ z') (64 - a' - z'), some (a', z')) := by unfold gx; rw [if_neg hX]; simp only; rw [if_pos hf]
      rw [eg] at G1 G2
      have HGX : true :: false :: bitsOf (X / 2 ^ z') (64 - a' - z') = [true, false] ++ bitsOf (X / 2 ^ z') (64 - a' - z') := rfl
      obtain ⟨d, hd⟩ : ∃ d, d = 64 - a' - z' := ⟨_, rfl⟩
      have y2 : wid (X / 2 ^ z') ≤ d := by rw [hd]; exact (wid_le_iff _ _).2 (fits_lt hxl hf.1 h6)
      rw [← hd] at HGX G1
      have y1 : X / 2 ^ z' ≤ X := Nat.div_le_self _ _
      have e3 : (X : Int) / 2 ^ z' = ((X / 2 ^ z' : Nat) : Int) := by push_cast; rfl
      generalize X / 2 ^ z' = y at *
      simp only at G1 G2
      rw [HGX] at G1
      have hdi : (64 : Int) - (a' : Int) - (z' : Int) = (d : Int) := by omega
      have d64 : d ≤ 64 := by omega
      have z64 : (z' : Int) < 64 := by omega
      have t2 : decide ((a' : Int) ≤ 64 - (ww : Int)) = true := decide_eq_true (by have := hf.1; rw [← hww] at this; omega)
      have t3 : decide ((z' : Int) ≤ (tt : Int)) = true := decide_eq_true (by have := hf.2; rw [← htt] at this; omega)
      have t3n : decide (z' ≤ tt) = true := decide_eq_true (by have := hf.2; rw [← htt] at this; omega)
      have P1 := hideIt (rput9 _ _ (y : Int) y d _ (bits_lit2 wr.drew false) (NoCap.some _ _ _) (by simp) rfl (by omega) d64 y2)
      have W9 : Hid (W3 (some (a', z')) (a' : Int) (z' : Int)) := .inr ⟨a', z', rfl, rfl, rfl, h5, h6⟩
      clear hf hd eg hww htt haa HC3
      go_wp2_with fail
      go_region
      go_wp2_with fail
      refine (RWI wr.drew).out.mono ?_
      rintro e wq ⟨rfl, rfl⟩
      go_wp2_with fail
      refine (RTR wr.drew).out.mono ?_
      rintro e wq ⟨rfl, rfl⟩
      go_wp2_with fail
      refine P1.out.mono ?_
      rintro e w5 ⟨v5, rfl, own5, on5⟩
      have OWO := hideIt own5
      have ONK := hideIt ((ON0.out.alloc (.cells #[.int .i64 1, .int .i64 0] 3)).same on5)
      clear own5 on5 P1
      have HOL : Hid (([true, false] ++ bitsOf y d).length ≤ 100) := by simp only [Hid, List.length_append, List.length_cons, List.length_nil, bitsOf_length]; omega
      obtain ⟨LO, hLO⟩ : ∃ LO, LO = [true, false] ++ bitsOf y d := ⟨_, rfl⟩
      rw [← hLO] at OWO HOL
      have HLO := hideIt hLO
      clear hLO
      have hpos : 0 < LO.length := by rw [HLO.out]; simp
      obtain ⟨go, co, rfl, _, _⟩ := World.ownsRow.form OWO.out hpos
      obtain ⟨no, hno⟩ : ∃ no, no = LO.length := ⟨_, rfl⟩
      have BN := hideIt ((bs_bits OWO.out).news)
      have OWK := hideIt (ONK.out.own hown.out (fun _ _ f => f))
      have HSZ := Nat.le_trans HBEL.out.size ONK.out.size
      have BLK := hideIt (HBEL.out.trans (ONK.out.low HBEL.out.size))
      rw [← hno] at HOL hpos
      have hnl : no = LO.length := hno
      rw [← hno]
      have HNO := hideIt hno
      clear hno hnl OWO
      have hL6 := HLEN.out
      have hO6 := HOL.out
      go_wp2_with (at_builtin; go_loud (refine wpList_append_lies _ rfl _ _ _ rfl w.heap.size 3 i0 (.int .i64 0) 1 8 Tryd.underlying46 hi hz0 hz1 hz2 rfl (by omega) _ q ((bitsI L).map (Value.int .i64)) rfl OWK.out ⟨go, 0, none⟩ no co ((bitsI LO).map (Value.int .i64)) rfl ?c0 BN.out ?c2 hpos ?c3 ?c4 HSZ _ rfl ?_))
      case c0 => rw [List.length_map, bitsI_length, ← HNO.out]; omega
      case c2 => exact oneCell_ints _ _
      case c3 => unfold maxLen; omega
      case c4 => omega
      intro g cap1 w8 hown1 hgrow hat hg1
      have HB8 := hideIt (BLK.out.grown hgrow HSZ (fun r hr => (OWK.out.lt r hr).1))
      have OW8 : Hid (w8.ownsRow w.heap.size 3 1 (.slice (some ⟨g, 0, none⟩) (q + no) cap1) (bitsOf x0.toNat 64 ++ gE x0.toNat none (t.take (k + 1))).length ((bitsI (bitsOf x0.toNat 64 ++ gE x0.toNat none (t.take (k + 1)))).map (Value.int .i64))) := by
        have e : bitsOf x0.toNat 64 ++ gE x0.toNat none (t.take (k + 1)) = L ++ LO := by rw [G1.out, ← List.append_assoc, ← HL.out, HLO.out]
        simp only [Hid]
        rw [e, List.length_append, ← HQ.out, ← HNO.out, bitsI, List.map_append, List.map_append]
        exact hown1
      clear hown1 hgrow hat hg1 OWK BN BLK HLO
      go_wp2
      go_roundw
      case rel => exact .inr ⟨k + 1, by omega, by simp, OW8.out, ⟨_, _, rfl, rfl, by rw [G2.out]; exact W9.out⟩, HB8.out⟩
      case measure => simp [intOf]; omega
    · obtain ⟨d, hd⟩ : ∃ d, d = 64 - aa - tt := ⟨_, rfl⟩
      obtain ⟨d1, hd1⟩ : ∃ d1, d1 = 63 - aa - tt := ⟨_, rfl⟩
      have eg : gx X (some (a', z')) = (newW X, some (ldz X, tz X)) := by unfold gx; rw [if_neg hX]; simp only; rw [if_neg hf]
      have HGX : newW X = [true, true] ++ bitsOf aa 5 ++ bitsOf d1 6 ++ bitsOf (X / 2 ^ tt) d := by rw [hd1, hd]; unfold newW; rw [← haa, ← htt]; simp
      have W9 : Hid (W3 (some (aa, tt)) (aa : Int) (tt : Int)) := .inr ⟨aa, tt, rfl, rfl, rfl, n1, n3⟩
      rw [eg] at G1 G2
      simp only at G1 G2
      rw [HGX] at G1
      rw [← haa, ← htt] at G2
      have y2 : wid (X / 2 ^ tt) ≤ d := by rw [hd]; exact (wid_le_iff _ _).2 (fits_lt hxl (by omega) n3)
      have y1 : X / 2 ^ tt ≤ X := Nat.div_le_self _ _
      have e3 : (X : Int) / 2 ^ tt = ((X / 2 ^ tt : Nat) : Int) := by push_cast; rfl
      have hdi : (64 : Int) - (aa : Int) - (tt : Int) = (d : Int) := by omega
      have hdj : (63 : Int) - (aa : Int) - (tt : Int) = (d1 : Int) := by omega
      have d64 : d ≤ 64 := by omega
      have z64 : (tt : Int) < 64 := by omega
      by_cases ht : a' ≤ 64 - ww
      · have t2 : decide ((a' : Int) ≤ 64 - (ww : Int)) = true := decide_eq_true (by omega)
        have hzt : tt < z' := by
          rcases Nat.lt_or_ge tt z' with h | h
          · exact h
          · exact absurd ⟨by rw [← hww]; exact ht, by rw [← htt]; exact h⟩ hf
        have t3 : decide ((z' : Int) ≤ (tt : Int)) = false := decide_eq_false (by omega)
        have t3n : decide (z' ≤ tt) = false := decide_eq_false (by omega)
        clear hww htt haa hd hd1 eg HC3 hf
        go_wp2_with fail
        go_region
        generalize hyy : X / 2 ^ tt = y at *
        have P1 := hideIt (rput9 _ _ (aa : Int) aa 5 _ (bits_lit2 wr.drew true) (NoCap.some _ _ _) (by simp) rfl (by omega) (by omega) (wid_5 n1))
        clear hyy
        go_wp2_with fail
        refine (RWI wr.drew).out.mono ?_
        rintro e wq ⟨rfl, rfl⟩
        go_wp2_with fail
        refine (RTR wr.drew).out.mono ?_
        rintro e wq ⟨rfl, rfl⟩
        go_wp2_with fail
        refine (RLE wr.drew).out.mono ?_
        rintro e wq ⟨rfl, rfl⟩
        go_wp2_with fail
        refine (RTR wr.drew).out.mono ?_
        rintro e wq ⟨rfl, rfl⟩
        go_wp2_with fail
        refine P1.out.mono ?_
        rintro e w5 ⟨v5, rfl, own5, on5⟩
        have P2 := hideIt (rput9 v5 _ ((d1 : Nat) : Int) d1 6 w5 (bs_bits own5) (NoCap.of_own own5) (by simp [bitsOf_length]) rfl (by omega) (by omega) (wid_6 (by omega)))
        have ON5 := hideIt ((ON0.out.alloc (.cells #[.int .i64 1, .int .i64 1] 3)).same on5)
        obtain ⟨f5, c5, e5⟩ := (bs_bits own5).len
        subst e5
        clear own5 on5 P1
        go_wp2_with fail
        refine P2.out.mono ?_
        rintro e w6 ⟨v6, rfl, own6, on6⟩
        have P3 := hideIt (rput9 v6 _ (y : Int) y d w6 (bs_bits own6) (NoCap.of_own own6) (by simp [bitsOf_length]) rfl (by omega) d64 y2)
        have ON6 := hideIt (ON5.out.same on6)
        obtain ⟨f6, c6, e6⟩ := (bs_bits own6).len
        subst e6
        clear own6 on6 P2 ON5
        go_wp2_with fail
        refine P3.out.mono ?_
        rintro e w7 ⟨v7, rfl, own7, on7⟩
        have OWO := hideIt own7
        have ONK := hideIt (ON6.out.same on7)
        clear own7 on7 P3 ON6
        have HOL : Hid (([true, true] ++ bitsOf aa 5 ++ bitsOf d1 6 ++ bitsOf y d).length ≤ 100) := by simp only [Hid, List.length_append, List.length_cons, List.length_nil, bitsOf_length]; omega
        obtain ⟨LO, hLO⟩ : ∃ LO, LO = [true, true] ++ bitsOf aa 5 ++ bitsOf d1 6 ++ bitsOf y d := ⟨_, rfl⟩
        rw [← hLO] at OWO HOL
        have HLO := hideIt hLO
        clear hLO
        have hpos : 0 < LO.length := by rw [HLO.out]; simp
        obtain ⟨go, co, rfl, _, _⟩ := World.ownsRow.form OWO.out hpos
        obtain ⟨no, hno⟩ : ∃ no, no = LO.length := ⟨_, rfl⟩
        have BN := hideIt ((bs_bits OWO.out).news)
        have OWK := hideIt (ONK.out.own hown.out (fun _ _ f => f))
        have HSZ := Nat.le_trans HBEL.out.size ONK.out.size
        have BLK := hideIt (HBEL.out.trans (ONK.out.low HBEL.out.size))
        rw [← hno] at HOL hpos
        have hnl : no = LO.length := hno
        rw [← hno]
        have HNO := hideIt hno
        clear hno hnl OWO
        have hL6 := HLEN.out
        have hO6 := HOL.out
        go_wp2_with (at_builtin; go_loud (refine wpList_append_lies _ rfl _ _ _ rfl w.heap.size 3 i0 (.int .i64 0) 1 8 Tryd.underlying46 hi hz0 hz1 hz2 rfl (by omega) _ q ((bitsI L).map (Value.int .i64)) rfl OWK.out ⟨go, 0, none⟩ no co ((bitsI LO).map (Value.int .i64)) rfl ?c0 BN.out ?c2 hpos ?c3 ?c4 HSZ _ rfl ?_))
        case c0 => rw [List.length_map, bitsI_length, ← HNO.out]; omega
        case c2 => exact oneCell_ints _ _
        case c3 => unfold maxLen; omega
        case c4 => omega
        intro g cap1 w8 hown1 hgrow hat hg1
        have HB8 := hideIt (BLK.out.grown hgrow HSZ (fun r hr => (OWK.out.lt r hr).1))
        have OW8 : Hid (w8.ownsRow w.heap.size 3 1 (.slice (some ⟨g, 0, none⟩) (q + no) cap1) (bitsOf x0.toNat 64 ++ gE x0.toNat none (t.take (k + 1))).length ((bitsI (bitsOf x0.toNat 64 ++ gE x0.toNat none (t.take (k + 1)))).map (Value.int .i64))) := by
          have e : bitsOf x0.toNat 64 ++ gE x0.toNat none (t.take (k + 1)) = L ++ LO := by rw [G1.out, ← List.append_assoc, ← HL.out, HLO.out]
          simp only [Hid]
          rw [e, List.length_append, ← HQ.out, ← HNO.out, bitsI, List.map_append, List.map_append]
          exact hown1
        clear hown1 hgrow hat hg1 OWK BN BLK HLO
        go_wp2
        go_roundw
        case rel => exact .inr ⟨k + 1, by omega, by simp, OW8.out, ⟨_, _, rfl, rfl, by rw [G2.out]; exact W9.out⟩, HB8.out⟩
        case measure => simp [intOf]; omega
      · have t2 : decide ((a' : Int) ≤ 64 - (ww : Int)) = false := decide_eq_false (by omega)
        clear hww htt haa hd hd1 eg HC3 hf
        go_wp2_with fail
        go_region
        generalize hyy : X / 2 ^ tt = y at *
        have P1 := hideIt (rput9 _ _ (aa : Int) aa 5 _ (bits_lit2 wr.drew true) (NoCap.some _ _ _) (by simp) rfl (by omega) (by omega) (wid_5 n1))
        clear hyy
        go_wp2_with fail
        refine (RWI wr.drew).out.mono ?_
        rintro e wq ⟨rfl, rfl⟩
        go_wp2_with fail
        refine (RLE wr.drew).out.mono ?_
        rintro e wq ⟨rfl, rfl⟩
        go_wp2_with fail
        refine (RTR wr.drew).out.mono ?_
        rintro e wq ⟨rfl, rfl⟩
        go_wp2_with fail
        refine P1.out.mono ?_
        rintro e w5 ⟨v5, rfl, own5, on5⟩
        have P2 := hideIt (rput9 v5 _ ((d1 : Nat) : Int) d1 6 w5 (bs_bits own5) (NoCap.of_own own5) (by simp [bitsOf_length]) rfl (by omega) (by omega) (wid_6 (by omega)))
        have ON5 := hideIt ((ON0.out.alloc (.cells #[.int .i64 1, .int .i64 1] 3)).same on5)
        obtain ⟨f5, c5, e5⟩ := (bs_bits own5).len
        subst e5
        clear own5 on5 P1
        go_wp2_with fail
        refine P2.out.mono ?_
        rintro e w6 ⟨v6, rfl, own6, on6⟩
        have P3 := hideIt (rput9 v6 _ (y : Int) y d w6 (bs_bits own6) (NoCap.of_own own6) (by simp [bitsOf_length]) rfl (by omega) d64 y2)
        have ON6 := hideIt (ON5.out.same on6)
        obtain ⟨f6, c6, e6⟩ := (bs_bits own6).len
        subst e6
        clear own6 on6 P2 ON5
        go_wp2_with fail
        refine P3.out.mono ?_
        rintro e w7 ⟨v7, rfl, own7, on7⟩
        have OWO := hideIt own7
        have ONK := hideIt (ON6.out.same on7)
        clear own7 on7 P3 ON6
        have HOL : Hid (([true, true] ++ bitsOf aa 5 ++ bitsOf d1 6 ++ bitsOf y d).length ≤ 100) := by simp only [Hid, List.length_append, List.length_cons, List.length_nil, bitsOf_length]; omega
        obtain ⟨LO, hLO⟩ : ∃ LO, LO = [true, true] ++ bitsOf aa 5 ++ bitsOf d1 6 ++ bitsOf y d := ⟨_, rfl⟩
        rw [← hLO] at OWO HOL
        have HLO := hideIt hLO
        clear hLO
        have hpos : 0 < LO.length := by rw [HLO.out]; simp
        obtain ⟨go, co, rfl, _, _⟩ := World.ownsRow.form OWO.out hpos
        obtain ⟨no, hno⟩ : ∃ no, no = LO.length := ⟨_, rfl⟩
        have BN := hideIt ((bs_bits OWO.out).news)
        have OWK := hideIt (ONK.out.own hown.out (fun _ _ f => f))
        have HSZ := Nat.le_trans HBEL.out.size ONK.out.size
        have BLK := hideIt (HBEL.out.trans (ONK.out.low HBEL.out.size))
        rw [← hno] at HOL hpos
        have hnl : no = LO.length := hno
        rw [← hno]
        have HNO := hideIt hno
        clear hno hnl OWO
        have hL6 := HLEN.out
        have hO6 := HOL.out
        go_wp2_with (at_builtin; go_loud (refine wpList_append_lies _ rfl _ _ _ rfl w.heap.size 3 i0 (.int .i64 0) 1 8 Tryd.underlying46 hi hz0 hz1 hz2 rfl (by omega) _ q ((bitsI L).map (Value.int .i64)) rfl OWK.out ⟨go, 0, none⟩ no co ((bitsI LO).map (Value.int .i64)) rfl ?c0 BN.out ?c2 hpos ?c3 ?c4 HSZ _ rfl ?_))
        case c0 => rw [List.length_map, bitsI_length, ← HNO.out]; omega
        case c2 => exact oneCell_ints _ _
        case c3 => unfold maxLen; omega
        case c4 => omega
        intro g cap1 w8 hown1 hgrow hat hg1
        have HB8 := hideIt (BLK.out.grown hgrow HSZ (fun r hr => (OWK.out.lt r hr).1))
        have OW8 : Hid (w8.ownsRow w.heap.size 3 1 (.slice (some ⟨g, 0, none⟩) (q + no) cap1) (bitsOf x0.toNat 64 ++ gE x0.toNat none (t.take (k + 1))).length ((bitsI (bitsOf x0.toNat 64 ++ gE x0.toNat none (t.take (k + 1)))).map (Value.int .i64))) := by
          have e : bitsOf x0.toNat 64 ++ gE x0.toNat none (t.take (k + 1)) = L ++ LO := by rw [G1.out, ← List.append_assoc, ← HL.out, HLO.out]
          simp only [Hid]
          rw [e, List.length_append, ← HQ.out, ← HNO.out, bitsI, List.map_append, List.map_append]
          exact hown1
        clear hown1 hgrow hat hg1 OWK BN BLK HLO
        go_wp2
        go_roundw
        case rel => exact .inr ⟨k + 1, by omega, by simp, OW8.out, ⟨_, _, rfl, rfl, by rw [G2.out]; exact W9.out⟩, HB8.out⟩
        case measure => simp [intOf]; omega
/-- the document's Encode of any list -/
theorem rencode9_all (v : Value) (xs : List Int) (w : World) (h : Bs .u64 w v xs) (hu : U64 xs) (hl : xs.length ≤ 10000 ∨ 65536 < xs.length) :
    Calls Tryd.prog 11 #[v] w fun e w' => ∃ v', e = .returned (.tuple #[v', .int .i64 (ENC9 xs).2]) ∧ w'.ownsRow w.heap.size 5 1 v' (ENC9 xs).1.length ((ENC9 xs).1.map (Value.int .u8)) ∧ Only (fun _ => False) w w' := by
  by_cases h6 : 65536 < xs.length
  · have e : ENC9 xs = ([], 4) := if_pos h6
    rw [e]
    refine (rencode9_long v xs w h h6).mono ?_
    rintro e w' ⟨rfl, rfl⟩
    exact ⟨_, rfl, World.ownsRow_nil _ _ _ _, Only.refl _ _⟩
  · rw [ENC9_of (by omega)]
    cases xs with
    | nil => exact rencode9_nil v w h
    | cons x0 t => exact rencode9_cons v x0 t w h hu (by omega)
end Go.Proofs.YthpcibofcgjcdaaDoor
