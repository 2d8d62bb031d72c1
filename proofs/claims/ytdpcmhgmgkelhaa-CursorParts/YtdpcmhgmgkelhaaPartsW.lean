/- The walk of CursorParts: bytes in two parts are as many at once; as a number, too. -/
import Derived.Test.YtdpcmhgmgkelhaaCSt
import Derived.Test.YtdpcmhgmgkelhaaCRef2
namespace Go.Proofs.Ytdpcmhgmgkelhaa
open Go.RowKit

/-- a cursor whose memory lies in the blocks from N on, ahead of M -/
def Cr (N M : Nat) (w : World) (R : Nat) (ys : List Int) : Prop := ∃ v, CurAt 59 w R v ys ∧ (∀ k, v.ownBlock = some k → N ≤ k ∧ k < M) ∧ N ≤ R ∧ R < M
theorem Cr.keep {N M : Nat} {w w' : World} {R : Nat} {ys : List Int} (h : Cr N M w R ys) {S : Nat → Prop} (ho : Only S w w') (hS : ∀ k, N ≤ k → k < M → ¬ S k) : Cr N M w' R ys := by
  obtain ⟨v, hc, hv, h1, h2⟩ := h
  exact ⟨v, hc.keep ho (hS R h1 h2) (fun k hk => hS k (hv k hk).1 (hv k hk).2), hv, h1, h2⟩
theorem new_cr (w : World) (v : Value) (ys : List Int) (h : Bs .u8 w v ys) (hr : ∀ y ∈ ys, 0 ≤ y ∧ y ≤ 255) (hl : ys.length ≤ 1000000000000) :
    Calls Try.prog 10 #[v] w fun e w' => ∃ R, e = .returned (.pointer (some ⟨R, 0, none⟩)) ∧ Cr w.heap.size w'.heap.size w' R ys ∧ Only (fun _ => False) w w' ∧ w.heap.size ≤ R ∧ R < w'.heap.size := by
  refine (new_bs v ys w h hr hl).mono ?_
  rintro e w' ⟨R, v', rfl, hc, ho, h1, h2, h3⟩
  exact ⟨R, rfl, ⟨v', hc, h3, h1, h2⟩, ho, h1, h2⟩
theorem left_cr {N M : Nat} {w : World} {R : Nat} {ys : List Int} (h : Cr N M w R ys) : Calls Try.prog 22 #[.pointer (some ⟨R, 0, none⟩)] w fun e w' => e = .returned (.int .i64 ys.length) ∧ w = w' := by
  obtain ⟨v, hc, _⟩ := h
  exact Left_cur hc
theorem bytes_cr {N M : Nat} {w : World} {R : Nat} {ys : List Int} (h : Cr N M w R ys) (n : Int) {a : List Int} {k : Nat} {c : Int} (hs : sBytes n ys = (a, k, c)) :
    Calls Try.prog 17 #[.pointer (some ⟨R, 0, none⟩), .int .i64 n] w fun e w' => ∃ v1, e = .returned (.tuple #[v1, .int .i64 c]) ∧ Bs .u8 w' v1 a ∧ NoCap v1 ∧ (∀ k, v1.ownBlock = some k → w.heap.size ≤ k) ∧ Cr N M w' R (ys.drop k) ∧ Only (fun k => k = R) w w' := by
  obtain ⟨v, hc, hv, h1, h2⟩ := h
  have A := bytes_cur hc n
  rw [hs] at A
  refine A.mono ?_
  rintro e w' ⟨v1, rfl, b1, b2, b3, v2, c1, c2, c3⟩
  exact ⟨v1, rfl, b1, b2, b3, ⟨v2, c1, by rw [c2]; exact hv, h1, h2⟩, c3⟩
theorem fixed_cr {N M : Nat} {w : World} {R : Nat} {ys : List Int} (h : Cr N M w R ys) (n : Int) {a : Int} {k : Nat} {c : Int} (hs : sFixed n ys = (a, k, c)) :
    Calls Try.prog 13 #[.pointer (some ⟨R, 0, none⟩), .int .i64 n] w fun e w' => e = .returned (.tuple #[.int .u64 a, .int .i64 c]) ∧ Only (fun k => k = R) w w' := by
  obtain ⟨v, hc, hv, h1, h2⟩ := h
  have A := fixed_cur hc n
  rw [hs] at A
  refine A.mono ?_
  rintro e w' ⟨rfl, v2, c1, c2, c3⟩
  exact ⟨rfl, c3⟩

/-- what the first lines of CursorParts leave -/
structure Two (w w' : World) (R1 R2 : Nat) (vx vy vz : Value) (xs ys zs ls ms : List Int) : Prop where
  below : Below w.heap.size w w'
  x : Bs .u8 w' vx xs
  y : Bs .u8 w' vy ys
  z : Bs .u8 w' vz zs
  nx : NoCap vx
  ny : NoCap vy
  c : ∃ N M, Cr N M w' R1 ls
  d : ∃ N M, Cr N M w' R2 ms

set_option maxHeartbeats 1000000 in
set_option maxRecDepth 100000 in
/-- CursorParts ANSWERS TRUE. -/
theorem parts_walk (vb : Value) (bs : List Int) (n m : Int) (w : World) (hb : Bs .u8 w vb bs) (hr : ∀ y ∈ bs, 0 ≤ y ∧ y ≤ 255) : Calls Try.prog 8 #[vb, .int .i64 n, .int .i64 m] w fun e w' => e = .returned (.bool true) ∧ Below w.heap.size w w' := by
  have A := hideIt (awake_any w)
  have HB := hideIt hb
  have HR := hideIt hr
  obtain ⟨ab, cb, rfl⟩ := hb.len
  obtain ⟨L, hL⟩ : ∃ L, L = bs.length := ⟨_, rfl⟩
  rw [← hL] at HB
  rw [← hL]
  have HL := hideIt hL
  clear hb hr hL
  by_cases hl : 300 < (L : Int)
  · go_enter Try.func8, Try.ntmps8
    go_wp2_with fail
    refine A.out.mono ?_
    rintro e w1 ⟨rfl, ho⟩
    have O := hideIt (ho.low (Nat.le_refl _))
    clear ho
    go_wp2
    go_ret
    exact ⟨rfl, O.out⟩
  have dl : decide (300 < (L : Int)) = false := decide_eq_false hl
  have B1 : bits .and .i64 n 63 = n % 64 := i64_low n 6 (by omega)
  have B2 : bits .and .i64 m 63 = m % 64 := i64_low m 6 (by omega)
  obtain ⟨i, hi⟩ : ∃ i : Nat, n % 64 = (i : Int) := ⟨(n % 64).toNat, by omega⟩
  obtain ⟨j, hj⟩ : ∃ j : Nat, m % 64 = (j : Int) := ⟨(m % 64).toNat, by omega⟩
  have hi1 : i ≤ 63 := by omega
  have hj1 : j ≤ 63 := by omega
  rw [hi] at B1
  rw [hj] at B2
  clear hi hj
  obtain ⟨xs, kx, cx, hsx⟩ : ∃ xs kx cx, sBytes i bs = (xs, kx, cx) := ⟨_, _, _, rfl⟩
  obtain ⟨ys, ky, cy, hsy⟩ : ∃ ys ky cy, sBytes j (bs.drop kx) = (ys, ky, cy) := ⟨_, _, _, rfl⟩
  obtain ⟨zs, kz, cz, hsz⟩ : ∃ zs kz cz, sBytes ((i : Int) + j) bs = (zs, kz, cz) := ⟨_, _, _, rfl⟩
  have HS := hideIt (And.intro hsx (And.intro hsy hsz))
  clear hsx hsy hsz
  go_enter Try.func8, Try.ntmps8
  go_wp2_with fail
  refine A.out.mono ?_
  rintro e w1 ⟨rfl, ho1⟩
  have C1 := hideIt (new_cr w1 _ bs (HB.out.keep ho1 (fun _ _ f => f)) HR.out (by have := HL.out; omega))
  have O1 := hideIt ho1
  clear ho1 A
  go_wp2_with fail
  refine C1.out.mono ?_
  rintro e w2 ⟨R1, rfl, hc2, ho2, hR1, hR1'⟩
  have O2 := hideIt (O1.out.trans ho2 (fun _ _ f => f))
  have C2 := hideIt (new_cr w2 _ bs (HB.out.keep O2.out (fun _ _ f => f)) HR.out (by have := HL.out; omega))
  have HC := hideIt hc2
  clear hc2 ho2 C1
  go_wp2_with fail
  refine C2.out.mono ?_
  rintro e w3 ⟨R2, rfl, hd3, ho3, hR2, hR2'⟩
  have O3 := hideIt (O2.out.trans ho3 (fun _ _ f => f))
  have hc3 := HC.out.keep ho3 (fun _ _ _ f => f)
  have X := hideIt (bytes_cr hc3 i HS.out.1)
  have HD := hideIt hd3
  clear hd3 ho3 hc3 HC C2
  go_wp2_with fail
  refine X.out.mono ?_
  rintro e w4 ⟨vx, rfl, hx, nx, ox, hc4, ho4⟩
  have hd4 := HD.out.keep ho4 (fun k h1 h2 e => by omega)
  have Y := hideIt (bytes_cr hc4 j HS.out.2.1)
  have HX := hideIt (And.intro hx (And.intro nx ox))
  have HO4 := hideIt ho4
  have HD4 := hideIt hd4
  clear hx nx ox hc4 ho4 hd4 HD X
  go_wp2_with fail
  refine Y.out.mono ?_
  rintro e w5 ⟨vy, rfl, hy, ny, oy, hc5, ho5⟩
  have hd5 := HD4.out.keep ho5 (fun k h1 h2 e => by omega)
  have Z := hideIt (bytes_cr hd5 ((i : Int) + j) HS.out.2.2)
  have HY := hideIt (And.intro hy (And.intro ny (And.intro oy (And.intro hc5 ho5))))
  clear hy ny oy hc5 ho5 hd5 HD4 Y
  go_wp2_with fail
  refine Z.out.mono ?_
  rintro e w6 ⟨vz, rfl, hz, nz, oz, hd6, ho6⟩
  have T : Hid (Two w w6 R1 R2 vx vy vz xs ys zs ((bs.drop kx).drop ky) (bs.drop kz)) := by
    obtain ⟨hx, nx, ox⟩ := HX.out
    obtain ⟨hy, ny, oy, hc5, ho5⟩ := HY.out
    have ho4 := HO4.out
    have s3 := O3.out.size
    have s2 := O2.out.size
    have s4 := ho4.size
    have s5 := ho5.size
    have b3 := O3.out.low (Nat.le_refl _)
    have b4 := b3.trans (ho4.below b3.size (fun k e => by have := O1.out.size; omega))
    have b5 := b4.trans (ho5.below b4.size (fun k e => by have := O1.out.size; omega))
    have b6 := b5.trans (ho6.below b5.size (fun k e => by omega))
    refine ⟨b6, (hx.past ho5 (fun k hk => by have := ox k hk; omega)).past ho6 (fun k hk => by have := ox k hk; omega), hy.past ho6 (fun k hk => by have := oy k hk; omega), hz, nx, ny, ⟨_, _, hc5.keep ho6 (fun k h1 h2 e => by omega)⟩, ⟨_, _, hd6⟩⟩
  clear HX HY HO4 hz nz oz hd6 ho6 Z O3 O2 O1
  have HLL := HL.out
  by_cases hs : (L : Int) < (i : Int) + j
  · have ds : decide ((L : Int) < (i : Int) + j) = true := decide_eq_true hs
    have ez : sBytes ((i : Int) + j) bs = ([], 0, 2) := by
      simp only [sBytes]
      rw [if_neg (by omega), if_pos (by omega)]
    have e2 := HS.out.2.2
    rw [ez] at e2
    simp only [Prod.mk.injEq] at e2
    obtain ⟨rfl, rfl, rfl⟩ := e2
    obtain ⟨N, M, hd⟩ := T.out.d
    have LD := left_cr hd
    rw [show (bs.drop 0).length = L from HL.out.symm] at LD
    have LD' := hideIt LD
    have OB := hideIt T.out.below
    have dL : ((L : Int) == (L : Int)) = true := by simp
    clear hd LD T
    by_cases hi2 : (L : Int) < (i : Int)
    · have ex : sBytes (i : Int) bs = ([], 0, 2) := by
        simp only [sBytes]
        rw [if_neg (by omega), if_pos (by omega)]
      have e3 := HS.out.1
      rw [ex] at e3
      simp only [Prod.mk.injEq] at e3
      obtain ⟨rfl, rfl, rfl⟩ := e3
      clear HLL
      go_wp2_with fail
      refine LD'.out.mono ?_
      rintro e w7 ⟨rfl, rfl⟩
      go_wp2
      go_ret
      exact ⟨rfl, OB.out⟩
    · have ex : sBytes (i : Int) bs = (bs.take i, i, 0) := by
        simp only [sBytes]
        rw [if_neg (by omega), if_neg (by omega)]
        rfl
      have e3 := HS.out.1
      rw [ex] at e3
      simp only [Prod.mk.injEq] at e3
      obtain ⟨rfl, rfl, rfl⟩ := e3
      have ey : sBytes (j : Int) (bs.drop i) = ([], 0, 2) := by
        simp only [sBytes]
        rw [if_neg (by omega), if_pos (by rw [List.length_drop]; omega)]
      have e4 := HS.out.2.1
      rw [ey] at e4
      simp only [Prod.mk.injEq] at e4
      obtain ⟨rfl, rfl, rfl⟩ := e4
      clear HLL
      go_wp2_with fail
      refine LD'.out.mono ?_
      rintro e w7 ⟨rfl, rfl⟩
      go_wp2
      go_ret
      exact ⟨rfl, OB.out⟩
  · have ds : decide ((L : Int) < (i : Int) + j) = false := decide_eq_false hs
    have ez : sBytes ((i : Int) + j) bs = (bs.take (i + j), i + j, 0) := by
      simp only [sBytes]
      rw [if_neg (by omega), if_neg (by omega), show ((i : Int) + j).toNat = i + j by omega]
    have e2 := HS.out.2.2
    rw [ez] at e2
    simp only [Prod.mk.injEq] at e2
    obtain ⟨rfl, rfl, rfl⟩ := e2
    have ex : sBytes (i : Int) bs = (bs.take i, i, 0) := by
      simp only [sBytes]
      rw [if_neg (by omega), if_neg (by omega)]
      rfl
    have e3 := HS.out.1
    rw [ex] at e3
    simp only [Prod.mk.injEq] at e3
    obtain ⟨rfl, rfl, rfl⟩ := e3
    have ey : sBytes (j : Int) (bs.drop i) = ((bs.drop i).take j, j, 0) := by
      simp only [sBytes]
      rw [if_neg (by omega), if_neg (by rw [List.length_drop]; omega)]
      rfl
    have e4 := HS.out.2.1
    rw [ey] at e4
    simp only [Prod.mk.injEq] at e4
    obtain ⟨rfl, rfl, rfl⟩ := e4
    obtain ⟨N, M, hd⟩ := T.out.d
    obtain ⟨N', M', hc⟩ := T.out.c
    have LD := left_cr hd
    have LC := left_cr hc
    rw [List.drop_drop] at LC
    have LD' := hideIt LD
    have LC' := hideIt LC
    obtain ⟨r, hrr⟩ : ∃ r : Nat, r = i % 8 := ⟨_, rfl⟩
    have B3 : bits .and .i64 (i : Int) 7 = (r : Int) := (i64_low i 3 (by omega)).trans (by omega)
    have hr7 : r ≤ 7 := by omega
    obtain ⟨K, hK⟩ : ∃ K : Nat, K = r % 5 := ⟨_, rfl⟩
    have hrL : (r : Int) % 5 ≤ (L : Int) := by omega
    have hK4 : K ≤ 4 := by omega
    have hKL : K ≤ L := by omega
    have HK := hideIt hK
    generalize hq : (bs.drop (i + j)).length = q at LC' LD'
    have dq : ((q : Int) != (q : Int)) = false := by simp
    have hq3 : q ≤ 300 := by rw [← hq, List.length_drop]; omega
    have C3 := hideIt (new_cr w6 _ bs (HB.out.later T.out.below) HR.out (by omega))
    have eF : sFixed (K : Int) bs = ((num (bs.take K) : Int), K, 0) := by
      simp only [sFixed]
      rw [if_neg (by omega), if_neg (by omega)]
      rfl
    have HF := hideIt eF
    have HZ : Hid (bs.take i ++ (bs.drop i).take j = bs.take (i + j) ∧ (bs.take i).length = i ∧ ((bs.drop i).take j).length = j) := by
      refine ⟨List.take_add.symm, ?_, ?_⟩
      · rw [List.length_take]; omega
      · rw [List.length_take, List.length_drop]; omega
    have HKB : Hid (∀ p, p < K → num (bs.take p) < 72057594037927936 ∧ (num (bs.take p) : Int) * 256 + bs.getD p 0 = (num (bs.take (p + 1)) : Int)) := by
      intro p hp
      have hb4 : ∀ y ∈ bs.take K, 0 ≤ y ∧ y ≤ 255 := fun y hy => HR.out y (List.mem_of_mem_take hy)
      have hl4 : (bs.take K).length = K := by rw [List.length_take]; omega
      obtain ⟨h1, h2⟩ := num_add (bs.take K) p hb4 (by omega) (by omega)
      rw [List.take_take, List.take_take, Nat.min_eq_left (by omega), Nat.min_eq_left (by omega)] at h2
      rw [List.take_take, Nat.min_eq_left (by omega)] at h1
      have e : (bs.take K).getD p 0 = bs.getD p 0 := by
        rw [List.getD_eq_getElem?_getD, List.getD_eq_getElem?_getD, List.getElem?_take, if_pos hp]
      rw [e] at h2
      exact ⟨by omega, h2⟩
    clear hd hc LD LC HLL hq eF hK hrr
    go_wp2_with fail
    refine LC'.out.mono ?_
    rintro e w7 ⟨rfl, rfl⟩
    go_wp2_with fail
    refine LD'.out.mono ?_
    rintro e w7 ⟨rfl, rfl⟩
    go_wp2_with fail
    refine C3.out.mono ?_
    rintro e w7 ⟨R3, rfl, hc7, ho7, hR3, _⟩
    have FX := hideIt (fixed_cr hc7 (K : Int) HF.out)
    have HO7 := hideIt (And.intro ho7 hR3)
    clear hc7 ho7 C3 LC' LD'
    go_wp2_with fail
    rw [show ((r : Int) % 5) = (K : Int) by have := HK.out; omega]
    refine FX.out.mono ?_
    rintro e w8 ⟨rfl, ho8⟩
    have T8 : Hid (Below w.heap.size w w8 ∧ Bs .u8 w8 vx (bs.take i) ∧ Bs .u8 w8 vy ((bs.drop i).take j) ∧ Bs .u8 w8 vz (bs.take (i + j)) ∧ NoCap vx ∧ NoCap vy) := by
      obtain ⟨o7, r7⟩ := HO7.out
      have b6 := T.out.below
      have o78 : Only (fun k => k = R3) w6 w8 := (o7.mono (T := fun k => k = R3) (fun _ _ f => f.elim)).trans ho8 (fun _ _ h => h)
      have hlt : ∀ {v : Value} {l : List Int}, Bs .u8 w6 v l → Bs .u8 w8 v l := by
        intro v l hv
        obtain ⟨ao, cap, rfl, hc, hr⟩ := hv
        refine ⟨ao, cap, rfl, hc, fun hx => ?_⟩
        obtain ⟨b, off, rfl, hcell⟩ := hr hx
        refine ⟨b, off, rfl, fun t ht => ?_⟩
        have h0 := hcell t ht
        have hb := World.block_lt_of_cell? w6 _ h0
        rw [← h0]
        exact World.cell?_of_block (o78.block b hb (fun e => by simp only at hb; omega))
      exact ⟨b6.trans (o78.below b6.size (fun k e => by have := b6.size; omega)), hlt T.out.x, hlt T.out.y, hlt T.out.z, T.out.nx, T.out.ny⟩
    clear ho8 HO7 FX T HS ex ey ez
    generalize bs.take i = X at T8 HZ
    generalize (bs.drop i).take j = Y at T8 HZ
    generalize bs.take (i + j) = Z at T8 HZ
    go_wp2
    go_loop [21, 22] (fun a p => ∃ t : Nat, t ≤ K ∧ p = .int .i64 t ∧ a = .int .u64 (num (bs.take t))) (fun _ p => K - (intOf p).toNat)
    case atStart => exact ⟨0, Nat.zero_le _, rfl, rfl⟩
    case round =>
      obtain ⟨t, ht, rfl, rfl⟩ := hrel
      have hmin : min (K : Int) (L : Int) = (K : Int) := by omega
      by_cases hlt : t < K
      · obtain ⟨b, off, cap', e1, hx⟩ := (HB.out.later T8.out.1).at t (by rw [← HL.out]; omega)
        have ea : ab = some ⟨b, off, none⟩ := by simp at e1; exact e1.1
        subst ea
        clear e1
        obtain ⟨ha, hst⟩ := HKB.out t hlt
        have hy := HR.out (bs.getD t 0) (getD_mem bs t (by rw [← HL.out]; omega))
        generalize bs.getD t 0 = y at hx hst hy
        have i0 : (0 : Int) ≤ (t : Int) := by omega
        have i1 : (t : Int) < (L : Int) := by omega
        have i2 : (t : Int) < (K : Int) := by omega
        have HST := hideIt hst
        generalize num (bs.take t) = a at HST ha
        clear hst
        go_wp2
        go_round
        case rel => exact ⟨t + 1, by omega, by go_num, by rw [← HST.out]⟩
        case measure => simp [intOf]; omega
      · have htK : t = K := by omega
        subst htK
        obtain ⟨i0, hi, hz0, hz1, hz2⟩ := info_parts Try.infoU8
        obtain ⟨q0, hq0⟩ : ∃ q0 : Int, q0 = (num (bs.take t) : Int) := ⟨_, rfl⟩
        rw [← hq0]
        have dn : (q0 == q0) = true := by simp
        have hsz8 := T8.out.1.size
        clear hq0
        go_wp2_with (at_builtin; refine wpList_append_bsW _ rfl _ _ _ rfl w8.heap.size 5 i0 (.int .u8 0) 1 Try.underlying22 hi hz0 hz1 hz2 rfl (.slice (some ⟨w8.heap.size, 0, none⟩) 0 0) 0 [] rfl ?c2 .u8 _ X rfl ?c0 ?c1 ?c3 ?c4 ?c5 ?_)
        case c2 => exact World.ownsRow_made (base := w8.heap.size) (e := 5) (size := 1) w8 #[] 0 (Nat.le_refl _) (by unfold maxLen; omega) rfl
        case c0 => exact T8.out.2.1.later ((Below.refl _ _).alloc (Nat.le_refl _) _)
        case c1 => exact T8.out.2.2.2.2.1
        case c3 => rw [HZ.out.2.1]; unfold maxLen; omega
        case c4 => rw [HZ.out.2.1]; omega
        intro v9 w9 hown9 hgrow9
        have B9 : Hid (Below w8.heap.size w8 w9) := ((Below.refl _ _).alloc (Nat.le_refl _) _).grown hgrow9 (by simp) (fun q hq => by simp [Value.ownBlock] at hq; omega)
        rw [HZ.out.2.1] at hown9
        have hsz9 : w8.heap.size ≤ w9.heap.size := B9.out.size
        clear hgrow9
        go_wp2_with (at_builtin; refine wpList_append_bsW _ rfl _ _ _ rfl w8.heap.size 5 i0 (.int .u8 0) 1 Try.underlying22 hi hz0 hz1 hz2 rfl _ i (X.map (Value.int .u8)) rfl hown9 .u8 _ Y rfl ?c0 ?c1 ?c3 ?c4 hsz9 ?_)
        case c0 => exact T8.out.2.2.1.later B9.out
        case c1 => exact T8.out.2.2.2.2.2
        case c3 => rw [HZ.out.2.2]; unfold maxLen; omega
        case c4 => rw [HZ.out.2.2]; omega
        intro v10 w10 hown10 hgrow10
        have C10 : Hid (Below w8.heap.size w8 w10) := B9.out.grown hgrow10 hsz9 (fun q hq => (hown9.lt q hq).1)
        have B10 : Hid (Below w.heap.size w w10) := T8.out.1.trans (C10.out.mono hsz8)
        have VZ : Hid (Bs .u8 w10 vz Z) := T8.out.2.2.2.1.later C10.out
        have V10 : Hid (Bs .u8 w10 v10 Z) := by
          rw [← List.map_append, HZ.out.1, show i + Y.length = Z.length by rw [← HZ.out.1, List.length_append, HZ.out.2.1]] at hown10
          exact Bs.of_own hown10
        have SM := hideIt (lsame_eq v10 vz Z w10 V10.out VZ.out (by rw [← HZ.out.1, List.length_append, HZ.out.2.1, HZ.out.2.2]; omega))
        clear hown9 hown10 hgrow10
        go_wp2_with fail
        refine SM.out.mono ?_
        rintro e w11 ⟨rfl, ho11⟩
        have F := hideIt (B10.out.trans (ho11.low B10.out.size))
        clear ho11 SM
        go_wp2
        go_ret
        exact ⟨rfl, F.out⟩
end Go.Proofs.Ytdpcmhgmgkelhaa
