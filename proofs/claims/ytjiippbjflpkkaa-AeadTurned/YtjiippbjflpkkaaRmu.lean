/- The document's own answer: products of digits. -/
import Derived.Test.YtjiippbjflpkkaaRad
namespace Go.Proofs.Ytjiippbjflpkkaa
open Go.RowKit

theorem mk_ints (w : World) (n : Nat) (hn : n ≤ 1000000) : ∃ w1, (Instr.makeSlice 61 (.int .i64 (n : Int)) (.int .i64 (n : Int))).run Try.prog w = .ok (.slice (some ⟨w.heap.size, 0, none⟩) n n) w1 ∧ Blk w1 w.heap.size 3 (il (List.replicate n 0)) ∧ Only (fun _ => False) w w1 := by
  obtain ⟨i0, hi, hz0, hz1, hz2⟩ := info_parts Try.infoI
  obtain ⟨wm, hmk, hown, hgr⟩ := run_make_full (P := Try.prog) w w.heap.size 61 3 i0 (.int .i64 0) 1 Try.underlying61 hi hz0 hz1 .i64 .i64 n (by rw [hz2]; omega) (by unfold maxLen; omega) (Nat.le_refl _)
  refine ⟨wm, hmk, ?_, (Only.refl _ _).grown hgr (fun k _ e => by cases e)⟩
  rcases hown.2 with ⟨h', _⟩ | ⟨g', cap', cur, h', _, hg, _, _, hcs, ht⟩
  · simp at h'
  · simp only [Value.slice.injEq, Option.some.injEq, Addr.mk.injEq, and_true, true_and] at h'
    obtain ⟨rfl, rfl⟩ := h'
    have e1 : cur = (il (List.replicate n 0)).toArray := by
      apply Array.toList_inj.1
      rw [List.take_of_length_le (by simp; omega)] at ht
      rw [ht, Nat.mul_one, show (Value.int .i64 0).cells = #[.int .i64 0] from rfl, toList_madeCells_one]
      simp [il]
    rw [e1] at hg
    exact hg
theorem own_blk {w : World} {base g : Nat} {E : TypeId} {cs : List Value} {n : Nat} (h : Blk w g E cs) (hb : base ≤ g) (hm : n ≤ maxLen) (hc : cs.length = n) :
    w.ownsRow base E 1 (.slice (some ⟨g, 0, none⟩) n n) n cs :=
  ⟨by omega, .inr ⟨g, n, cs.toArray, rfl, hb, h, Nat.le_refl _, hm, by simpa using hc, by simp [← hc]⟩⟩
theorem il_at (s : List Int) (j : Nat) (h : j < s.length) : (il s)[j]? = some (.int .i64 (s.getD j 0)) := by
  simp [il, List.getD_eq_getElem?_getD, List.getElem?_eq_getElem h]
theorem il_set (s : List Int) (i : Nat) (x : Int) : (il s).set i (.int .i64 x) = il (s.set i x) := by simp [il, List.map_set]
/-- what is under way: row i, j digits of it, and what is carried -/
structure Mp (a b : List Int) (i j c : Nat) (X : List Int) : Prop where
  len : X.length = a.length + b.length + 1
  u8 : U8 X
  c8 : c ≤ 255
  il : i < a.length
  jl : j ≤ b.length + 1
  sum : nv X + 256 ^ (i + j) * c = nv (a.take i) * nv b + 256 ^ i * (a.getD i 0).toNat * nv (b.take j)
/-- nothing is carried too far -/
theorem Mp.end_ {a b : List Int} {i j c : Nat} {X : List Int} (h : Mp a b i j c X) (a8 : U8 a) (b8 : U8 b) (hj : b.length < j) : c = 0 := by
  have h1 := h.sum
  rw [List.take_of_length_le (by omega : b.length ≤ j), ← Nat.add_mul, ← nv_next] at h1
  have h2 := nv_lt (a.take (i + 1)) (a8.take _)
  have h3 := nv_lt b b8
  rw [List.length_take, Nat.min_eq_left (by have := h.il; omega)] at h2
  rcases Nat.eq_zero_or_pos c with h0 | h0
  · exact h0
  · exfalso
    have h4 : nv (a.take (i + 1)) * nv b < 256 ^ (i + 1) * 256 ^ b.length :=
      Nat.mul_lt_mul_of_lt_of_le h2 (Nat.le_of_lt h3) (Nat.pow_pos (by decide))
    rw [← Nat.pow_add] at h4
    have h5 : 256 ^ (i + 1 + b.length) ≤ 256 ^ (i + j) := Nat.pow_le_pow_right (by decide) (by omega)
    have h6 : 256 ^ (i + j) ≤ 256 ^ (i + j) * c := Nat.le_mul_of_pos_right _ h0
    omega
theorem Mp.next {a b : List Int} {i j c : Nat} {X : List Int} (h : Mp a b i j c X) (a8 : U8 a) (b8 : U8 b) (hj : j ≤ b.length) (z x y : Nat) (hz : X.getD (i + j) 0 = (z : Int)) (hx : a.getD i 0 = (x : Int)) (hy : b.getD j 0 = (y : Int)) :
    Mp a b i (j + 1) ((z + c + x * y) / 256) (X.set (i + j) (((z + c + x * y) % 256 : Nat) : Int)) := by
  have hc := h.c8
  have hil := h.il
  have hl := h.len
  have z8 := h.u8.at (i + j)
  have x8 := a8.at i
  have y8 := b8.at j
  rw [hz] at z8
  rw [hx] at x8
  rw [hy] at y8
  have hxy : x * y ≤ 255 * 255 := Nat.mul_le_mul (by omega) (by omega)
  refine ⟨by rw [List.length_set, h.len], h.u8.set _ _ (by omega), by omega, h.il, by omega, ?_⟩
  have h1 := h.sum
  have h2 := nv_set X (i + j) (((z + c + x * y) % 256 : Nat) : Int) (by omega) (by omega) h.u8
  rw [hz] at h2
  rw [nv_next, hx, hy, Int.toNat_natCast, Int.toNat_natCast]
  rw [hx, Int.toNat_natCast] at h1
  rw [show i + (j + 1) = i + j + 1 by omega, Nat.pow_succ]
  have e1 : 256 ^ i * x * (nv (b.take j) + 256 ^ j * y) = 256 ^ i * x * nv (b.take j) + 256 ^ (i + j) * (x * y) := by
    rw [Nat.mul_add, Nat.pow_add]
    congr 1
    rw [Nat.mul_assoc, Nat.mul_assoc, Nat.mul_left_comm x]
  rw [e1]
  obtain ⟨P, hP⟩ : ∃ P : Nat, P = 256 ^ (i + j) := ⟨_, rfl⟩
  rw [← hP] at h1 ⊢
  rw [show (256 : Int) ^ (i + j) = ((P : Nat) : Int) by rw [hP]; simp] at h2
  obtain ⟨t, ht⟩ : ∃ t, t = x * y := ⟨_, rfl⟩
  rw [← ht] at h2 ⊢
  obtain ⟨d, hd⟩ : ∃ d, d = (z + c + t) % 256 := ⟨_, rfl⟩
  obtain ⟨k, hk⟩ : ∃ k, k = (z + c + t) / 256 := ⟨_, rfl⟩
  rw [← hd] at h2 ⊢
  rw [← hk]
  have e2 : z + c + t = d + 256 * k := by omega
  have e3 : P * z + P * c + P * t = P * d + P * 256 * k := by
    rw [← Nat.mul_add, ← Nat.mul_add, e2, Nat.mul_add, Nat.mul_assoc]
  have e4 : ((P : Nat) : Int) * ((d : Int) - (z : Int)) = ((P * d : Nat) : Int) - ((P * z : Nat) : Int) := by
    rw [Int.mul_sub]; simp
  rw [e4] at h2
  omega
theorem Mp.row {a b : List Int} {i j : Nat} {X : List Int} (h : Mp a b i j 0 X) (hj : b.length ≤ j) : nv X = nv (a.take (i + 1)) * nv b := by
  have h1 := h.sum
  rw [List.take_of_length_le hj, ← Nat.add_mul, ← nv_next] at h1
  omega
set_option maxHeartbeats 1600000 in
set_option maxRecDepth 100000 in
theorem rmul_any (va vb : Value) (a b : List Int) (la : a.length ≤ 1000) (lb : b.length ≤ 1000) (a8 : U8 a) (b8 : U8 b) (w : World) (ba : Bs .i64 w va a) (bb : Bs .i64 w vb b) :
    Calls Try.prog 47 #[va, vb] w fun e w' => ∃ v, e = .returned v ∧ ∃ L, w'.ownsRow w.heap.size 3 1 v L.length (il L) ∧ U8 L ∧ nv L = nv a * nv b ∧ L.length = a.length + b.length + 1 ∧ Only (fun _ => False) w w' := by
  have HA := hideIt (And.intro ba bb)
  obtain ⟨aao, ac, rfl⟩ := ba.len
  obtain ⟨bao, bc, rfl⟩ := bb.len
  have H8 := hideIt (And.intro a8 b8)
  obtain ⟨p, hp⟩ : ∃ p, p = a.length := ⟨_, rfl⟩
  obtain ⟨q, hq⟩ : ∃ q, q = b.length := ⟨_, rfl⟩
  have HM := hideIt (And.intro hp hq)
  rw [← hp, ← hq] at HA ⊢
  rw [← hp] at la
  rw [← hq] at lb
  clear ba bb a8 b8 hp hq
  obtain ⟨N, hN⟩ : ∃ N, N = p + q + 1 := ⟨_, rfl⟩
  obtain ⟨W0, hmk, hB0, hO0⟩ := mk_ints w N (by omega)
  have K0 : Hid (Blk W0 w.heap.size 3 (il (List.replicate N 0)) ∧ Only (fun _ => False) w W0) := ⟨hB0, hO0⟩
  obtain ⟨s1, hs1⟩ : ∃ s1, s1 = p + q := ⟨_, rfl⟩
  have e1 : (p : Int) + (q : Int) = (s1 : Int) := by omega
  have e2 : (s1 : Int) + 1 = (N : Int) := by omega
  have b1 : (s1 : Int) ≤ 2000 := by omega
  have b2 : (N : Int) ≤ 2001 := by omega
  have HN := hideIt hN
  clear hB0 hO0 hs1 hN
  go_enter Try.func47, Try.ntmps47
  go_wp2
  obtain ⟨G, hG⟩ : ∃ G, G = w.heap.size := ⟨_, rfl⟩
  have HG : Hid (w.heap.size ≤ G ∧ G = w.heap.size) := ⟨by omega, hG⟩
  rw [← hG] at K0 ⊢
  clear hG hmk e1 e2
  go_loopw [6] (fun i wr => ∃ (n : Nat) (X : List Int), n ≤ p ∧ i = .int .i64 n ∧ X.length = N ∧ U8 X ∧ nv X = nv (a.take n) * nv b ∧ Blk wr G 3 (il X) ∧ Only (fun _ => False) w wr) (fun i _ => p - (intOf i).toNat)
  case atStart => exact ⟨0, List.replicate N 0, by omega, rfl, by simp, (fun y hy => by have := List.eq_of_mem_replicate hy; omega), by rw [nv_zeros, List.take_zero]; simp [nv], K0.out⟩
  case round =>
    obtain ⟨n, X, hn, rfl, hX, x8, hnv, k1, k2⟩ := hrel
    clear K0
    by_cases hlt : n < p
    · have M0 : Hid (Mp a b n 0 0 X ∧ Blk wr G 3 (il X) ∧ Only (fun _ => False) w wr) := by
        refine ⟨⟨by rw [hX, HN.out, HM.out.1, HM.out.2], x8, by decide, by have := HM.out.1; omega, by omega, ?_⟩, k1, k2⟩
        rw [hnv, List.take_zero]; simp [nv]
      have i1 : (n : Int) < p := by omega
      clear hX x8 hnv k1 k2
      go_wp2
      go_loopw [7, 8] (fun k i wr => ∃ (j c : Nat) (X : List Int), i = .int .i64 j ∧ k = .int .i64 c ∧ Mp a b n j c X ∧ Blk wr G 3 (il X) ∧ Only (fun _ => False) w wr) (fun _ i _ => q + 1 - (intOf i).toNat)
      case atStart => exact ⟨0, 0, _, rfl, rfl, M0.out⟩
      case round =>
        obtain ⟨j, c, X, rfl, rfl, hmp, k1, k2⟩ := hrel
        clear M0
        have HMP := hideIt hmp
        have hc8 := hmp.c8
        have hjl := hmp.jl
        rw [← HM.out.2] at hjl
        have hXl := hmp.len
        rw [← HM.out.1, ← HM.out.2, ← HN.out] at hXl
        have hNN := HN.out
        have hend := hmp.end_ H8.out.1 H8.out.2
        rw [← HM.out.2] at hend
        clear hmp
        by_cases hjq : j < q
        · have hcz : wr.cell? ⟨G, n + j, none⟩ = some (.int .i64 (X.getD (n + j) 0)) := by
            rw [k1.cell, il_at _ _ (by omega)]
          have hfz := k1.froz (n + j)
          obtain ⟨ab, aoff, acap, ea, hca⟩ := (HA.out.1.past k2).at n (by have := HM.out.1; omega)
          simp at ea
          obtain ⟨rfl, -, rfl⟩ := ea
          obtain ⟨bb, boff, bcap, eb, hcb⟩ := (HA.out.2.past k2).at j (by have := HM.out.2; omega)
          simp at eb
          obtain ⟨rfl, -, rfl⟩ := eb
          obtain ⟨x, hx⟩ := Int.eq_ofNat_of_zero_le (H8.out.1.at n).1
          have x8 := (H8.out.1.at n).2
          obtain ⟨y, hy⟩ := Int.eq_ofNat_of_zero_le (H8.out.2.at j).1
          have y8 := (H8.out.2.at j).2
          obtain ⟨z, hz⟩ := Int.eq_ofNat_of_zero_le (HMP.out.u8.at (n + j)).1
          have z8 := (HMP.out.u8.at (n + j)).2
          rw [hx] at hca x8
          rw [hy] at hcb y8
          rw [hz] at hcz z8
          have NX := HMP.out.next H8.out.1 H8.out.2 (by have := HM.out.2; omega) z x y hz hx hy
          have hxy : x * y ≤ 255 * 255 := Nat.mul_le_mul (by omega) (by omega)
          obtain ⟨v1, hv1⟩ : ∃ v1, v1 = z + c := ⟨_, rfl⟩
          obtain ⟨t, ht⟩ : ∃ t, t = x * y := ⟨_, rfl⟩
          obtain ⟨v2, hv2⟩ : ∃ v2, v2 = v1 + t := ⟨_, rfl⟩
          rw [← hv1, ← ht, ← hv2] at NX
          rw [← ht] at hxy
          obtain ⟨d, hd⟩ : ∃ d, d = v2 % 256 := ⟨_, rfl⟩
          obtain ⟨k, hk⟩ : ∃ k, k = v2 / 256 := ⟨_, rfl⟩
          rw [← hd, ← hk] at NX
          have e1 : (z : Int) + (c : Int) = (v1 : Int) := by omega
          have e2 : (x : Int) * (y : Int) = (t : Int) := by rw [ht]; simp
          have e2w : IntKind.i64.wrap ((x : Int) * (y : Int)) = (t : Int) := by rw [e2, IntKind.wrap_i64]; omega
          have e3 : (v1 : Int) + (t : Int) = (v2 : Int) := by omega
          have e3w : IntKind.i64.wrap ((v1 : Int) + (t : Int)) = (v2 : Int) := by rw [e3, IntKind.wrap_i64]; omega
          have e4 : (v2 : Int).tmod 256 = (d : Int) := by rw [Int.tmod_eq_emod_of_nonneg (by omega)]; omega
          have e5 : (v2 : Int) % 256 = (d : Int) := by omega
          have e6 : (v2 : Int).tdiv 256 = (k : Int) := by rw [Int.tdiv_eq_ediv_of_nonneg (by omega)]; omega
          have e7 : (v2 : Int) / 256 = (k : Int) := by omega
          have j1 : (j : Int) < q := by omega
          have j2 : ((n + j : Nat) : Int) < (N : Int) := by omega
          have e8 : IntKind.i64.wrap ((n : Int) + (j : Int)) = ((n + j : Nat) : Int) := by rw [IntKind.wrap_i64]; omega
          have q1 : (v1 : Int) ≤ 100000 := by omega
          have q2 : (v2 : Int) ≤ 100000 := by omega
          have N1 : Hid (∀ nq, Blk ((wr.drewN nq).setCell ⟨G, n + j, none⟩ (.int .i64 (d : Int))) G 3 (il (X.set (n + j) (d : Int))) ∧ Only (fun _ => False) w ((wr.drewN nq).setCell ⟨G, n + j, none⟩ (.int .i64 (d : Int)))) := fun nq => by
            refine ⟨?_, (k2.drewN nq).setCell (p := ⟨G, n + j, none⟩) (fun hlt => absurd hlt (by have := HG.out.2; simp; omega)) _⟩
            have h := (show Blk (wr.drewN nq) G 3 (il X) from k1).set (n + j) (.int .i64 (d : Int))
            rw [il_set] at h
            exact h
          have HNX := hideIt NX
          have hnp : n + j < N := by omega
          clear k1 k2 hXl hend hx hy hz NX hxy hv1 ht hv2 hd hk hNN
          go_wp2
          go_quiet (fail)
          go_wp2
          go_roundw
          case rel => exact ⟨j + 1, k, _, by go_num, by go_num, HNX.out, N1.out nq⟩
          case measure => simp [intOf]; omega
        · by_cases hc0 : 0 < c
          · have hjj : j = q := by
              rcases Nat.lt_or_ge q j with h | h
              · have := hend h; omega
              · omega
            have hcz : wr.cell? ⟨G, n + j, none⟩ = some (.int .i64 (X.getD (n + j) 0)) := by
              rw [k1.cell, il_at _ _ (by omega)]
            have hfz := k1.froz (n + j)
            obtain ⟨x, hx⟩ := Int.eq_ofNat_of_zero_le (H8.out.1.at n).1
            have hy : b.getD j 0 = ((0 : Nat) : Int) := by rw [getD_none b j (by have := HM.out.2; omega)]; rfl
            obtain ⟨z, hz⟩ := Int.eq_ofNat_of_zero_le (HMP.out.u8.at (n + j)).1
            have z8 := (HMP.out.u8.at (n + j)).2
            rw [hz] at hcz z8
            have NX := HMP.out.next H8.out.1 H8.out.2 (by have := HM.out.2; omega) z x 0 hz hx hy
            simp only [Nat.mul_zero, Nat.add_zero] at NX
            obtain ⟨v1, hv1⟩ : ∃ v1, v1 = z + c := ⟨_, rfl⟩
            rw [← hv1] at NX
            obtain ⟨d, hd⟩ : ∃ d, d = v1 % 256 := ⟨_, rfl⟩
            obtain ⟨k, hk⟩ : ∃ k, k = v1 / 256 := ⟨_, rfl⟩
            rw [← hd, ← hk] at NX
            have e1 : (z : Int) + (c : Int) = (v1 : Int) := by omega
            have e4 : (v1 : Int).tmod 256 = (d : Int) := by rw [Int.tmod_eq_emod_of_nonneg (by omega)]; omega
            have e5 : (v1 : Int) % 256 = (d : Int) := by omega
            have e6 : (v1 : Int).tdiv 256 = (k : Int) := by rw [Int.tdiv_eq_ediv_of_nonneg (by omega)]; omega
            have e7 : (v1 : Int) / 256 = (k : Int) := by omega
            have j1 : ¬ (j : Int) < q := by omega
            have j2 : ((n + j : Nat) : Int) < (N : Int) := by omega
            have j3 : (0 : Int) < (c : Int) := by omega
            have e8 : IntKind.i64.wrap ((n : Int) + (j : Int)) = ((n + j : Nat) : Int) := by rw [IntKind.wrap_i64]; omega
            have q1 : (v1 : Int) ≤ 100000 := by omega
            have N1 : Hid (Blk (wr.setCell ⟨G, n + j, none⟩ (.int .i64 (d : Int))) G 3 (il (X.set (n + j) (d : Int))) ∧ Only (fun _ => False) w (wr.setCell ⟨G, n + j, none⟩ (.int .i64 (d : Int)))) := by
              refine ⟨?_, k2.setCell (p := ⟨G, n + j, none⟩) (fun hlt => absurd hlt (by have := HG.out.2; simp; omega)) _⟩
              have h := k1.set (n + j) (.int .i64 (d : Int))
              rw [il_set] at h
              exact h
            have HNX := hideIt NX
            have hnp : n + j < N := by omega
            have HJ := hideIt hjj
            clear k1 k2 hXl hend hx hy hz NX hv1 hd hk hNN hjj
            go_wp2
            go_roundw
            case rel => exact ⟨j + 1, k, _, by go_num, by go_num, HNX.out, N1.out⟩
            case measure => have := HJ.out; simp [intOf]; omega
          · obtain rfl : c = 0 := by omega
            have N2 : Hid (X.length = N ∧ U8 X ∧ nv X = nv (a.take (n + 1)) * nv b ∧ Blk wr G 3 (il X) ∧ Only (fun _ => False) w wr) :=
              ⟨hXl, HMP.out.u8, HMP.out.row (by have := HM.out.2; omega), k1, k2⟩
            have j1 : ¬ (j : Int) < q := by omega
            clear k1 k2 hXl hend hNN
            go_wp2
            go_roundw
            case rel => exact ⟨n + 1, X, by omega, by go_num, N2.out⟩
            case measure => simp [intOf]; omega
    · obtain rfl : n = p := by omega
      have F1 : Hid (wr.ownsRow w.heap.size 3 1 (.slice (some ⟨G, 0, none⟩) N N) X.length (il X) ∧ U8 X ∧ nv X = nv a * nv b ∧ X.length = n + q + 1 ∧ Only (fun _ => False) w wr) := by
        refine ⟨?_, x8, ?_, by rw [hX, HN.out], k2⟩
        · rw [hX]
          exact own_blk k1 HG.out.1 (by unfold maxLen; omega) (by rw [il_len, hX])
        · rw [hnv, List.take_of_length_le (by rw [HM.out.1]; exact Nat.le_refl _)]
      clear hX x8 hnv k1 k2
      go_wp2
      go_ret
      exact ⟨_, rfl, X, F1.out⟩
end Go.Proofs.Ytjiippbjflpkkaa
