/- The reference's Pack of layer 5. -/
import Derived.Test.YtgbimghhdbmjiaaGreatG1
import Derived.Test.YtgbimghhdbmjiaaGreatG4
import Derived.Test.YtgbimghhdbmjiaaGreatBRBytes
import Derived.Test.YtgbimghhdbmjiaaGreatG7
namespace Go.Proofs.YtgbimghhdbmjiaaGreat
open Go.RowKit

theorem lo_step (xs : List Int) (k : Nat) (h0 : 0 < k) (hk : k < xs.length) : lo (xs.take (k + 1)) = (if xs.getD k 0 < lo (xs.take k) then xs.getD k 0 else lo (xs.take k)) ∧ hi (xs.take (k + 1)) = (if hi (xs.take k) < xs.getD k 0 then xs.getD k 0 else hi (xs.take k)) := by
  rw [take_snoc xs k hk]
  cases xs with
  | nil => simp at hk
  | cons a t =>
    obtain ⟨j, rfl⟩ : ∃ j, k = j + 1 := ⟨k - 1, by omega⟩
    have e : (a :: t).take (j + 1) = a :: t.take j := rfl
    rw [e, List.cons_append, lo_cons, hi_cons, lo_cons, hi_cons, loF_snoc, hiF_snoc]
    constructor
    · split <;> omega
    · split <;> omega
theorem lo_first (xs : List Int) (h : 0 < xs.length) : lo (xs.take 1) = xs.getD 0 0 ∧ hi (xs.take 1) = xs.getD 0 0 := by
  cases xs with
  | nil => simp at h
  | cons a t => exact ⟨rfl, rfl⟩

set_option maxHeartbeats 400000 in
set_option maxRecDepth 100000 in
theorem rpack_long (v : Value) (xs : List Int) (w : World) (h : Bs .u64 w v xs) (hl : 65536 < xs.length) :
    Calls Tryz.prog 61 #[v] w fun e w' => e = .returned (.tuple #[.slice none 0 0, .int .i64 4]) ∧ w = w' := by
  obtain ⟨ao, cap, rfl⟩ := h.len
  clear h
  have d0 : decide (65536 < (xs.length : Int)) = true := by simp; omega
  generalize xs.length = m at *
  clear hl
  go_enter Tryz.func61, Tryz.ntmps61
  go_wp2
  go_ret2
  exact ⟨rfl, rfl⟩

set_option maxHeartbeats 1600000 in
set_option maxRecDepth 100000 in
theorem rpack_bs (v : Value) (xs : List Int) (w : World) (h : Bs .u64 w v xs) (hu : U64 xs) (hl : xs.length ≤ 700) :
    Calls Tryz.prog 61 #[v] w fun e w' => ∃ v', e = .returned (.tuple #[v', .int .i64 0]) ∧ w'.ownsRow w.heap.size 5 1 v' (PK xs).length ((PK xs).map (Value.int .u8)) ∧ Only (fun _ => False) w w' := by
  have HBS := hideIt h
  have HU := hideIt hu
  have HL := hideIt (lohi hu)
  have HW := hideIt (wd_le hu)
  obtain ⟨ao, cap, rfl⟩ := h.len
  have d0 : decide (65536 < (xs.length : Int)) = false := by simp; omega
  obtain ⟨m, hm⟩ : ∃ m, m = xs.length := ⟨_, rfl⟩
  rw [← hm] at HBS hl d0 ⊢
  have HM := hideIt hm
  clear h hu hm
  go_enter Tryz.func61, Tryz.ntmps61
  go_wp2
  go_loop [4, 5, 6] (fun a c i => ∃ k : Nat, k ≤ m ∧ i = .int .i64 k ∧ a = .int .u64 (lo (xs.take k)) ∧ c = .int .u64 (hi (xs.take k))) (fun _ _ i => m - (intOf i).toNat)
  case atStart => exact ⟨0, Nat.zero_le _, rfl, rfl, rfl⟩
  case round =>
    obtain ⟨k, hk, rfl, rfl, rfl⟩ := hrel
    by_cases hlt : k < m
    · have hkx : k < xs.length := by rw [← HM.out]; exact hlt
      obtain ⟨b, off, cap', e1, c0⟩ := HBS.out.at k hkx
      simp only [Value.slice.injEq] at e1
      obtain ⟨rfl, e2, rfl⟩ := e1
      clear e2
      have dlt : decide ((k : Int) < (m : Int)) = true := by simp; omega
      obtain ⟨x, hx⟩ : ∃ x, x = xs.getD k 0 := ⟨_, rfl⟩
      rw [← hx] at c0
      by_cases hk0 : k = 0
      · subst hk0
        have hf := lo_first xs hkx
        rw [← hx] at hf
        have HF := hideIt hf
        have z0 : (((0 : Nat) : Int) == 0) = true := by simp
        rw [Nat.add_zero] at c0
        clear hf hx hkx
        go_wp2
        go_round
        case rel => exact ⟨1, by omega, by simp, by rw [HF.out.1], by rw [HF.out.2]⟩
        case measure => simp [intOf]; omega
      · have hs := lo_step xs k (by omega) hkx
        rw [← hx] at hs
        have HS := hideIt hs
        have z0 : ((k : Int) == 0) = false := by simp; omega
        obtain ⟨a, ha⟩ : ∃ a, a = lo (xs.take k) := ⟨_, rfl⟩
        obtain ⟨c, hc⟩ : ∃ c, c = hi (xs.take k) := ⟨_, rfl⟩
        rw [← ha, ← hc] at HS
        rw [← ha, ← hc]
        clear hs hx hkx ha hc
        by_cases p1 : x < a
        · by_cases p2 : c < x
          · have q1 : decide (x < a) = true := decide_eq_true p1
            have q2 : decide (c < x) = true := decide_eq_true p2
            rw [if_pos p1, if_pos p2] at HS
            clear p1 p2
            go_wp2
            go_round
            case rel => exact ⟨k + 1, by omega, by simp, by rw [HS.out.1], by rw [HS.out.2]⟩
            case measure => simp [intOf]; omega
          · have q1 : decide (x < a) = true := decide_eq_true p1
            have q2 : decide (c < x) = false := decide_eq_false p2
            rw [if_pos p1, if_neg p2] at HS
            clear p1 p2
            go_wp2
            go_round
            case rel => exact ⟨k + 1, by omega, by simp, by rw [HS.out.1], by rw [HS.out.2]⟩
            case measure => simp [intOf]; omega
        · by_cases p2 : c < x
          · have q1 : decide (x < a) = false := decide_eq_false p1
            have q2 : decide (c < x) = true := decide_eq_true p2
            rw [if_neg p1, if_pos p2] at HS
            clear p1 p2
            go_wp2
            go_round
            case rel => exact ⟨k + 1, by omega, by simp, by rw [HS.out.1], by rw [HS.out.2]⟩
            case measure => simp [intOf]; omega
          · have q1 : decide (x < a) = false := decide_eq_false p1
            have q2 : decide (c < x) = false := decide_eq_false p2
            rw [if_neg p1, if_neg p2] at HS
            clear p1 p2
            go_wp2
            go_round
            case rel => exact ⟨k + 1, by omega, by simp, by rw [HS.out.1], by rw [HS.out.2]⟩
            case measure => simp [intOf]; omega
    · obtain rfl : k = m := by omega
      have dlt : decide ((k : Int) < (k : Int)) = false := by simp
      have ht : xs.take k = xs := by rw [HM.out, List.take_length]
      rw [ht]
      obtain ⟨l1, l2, l3⟩ := HL.out
      have hwd : Hid (wd xs = wid (hi xs - lo xs).toNat) := rfl
      obtain ⟨a, ha⟩ : ∃ a, a = lo xs := ⟨_, rfl⟩
      obtain ⟨c, hc⟩ : ∃ c, c = hi xs := ⟨_, rfl⟩
      rw [← ha, ← hc] at hwd l2
      rw [← ha] at l1
      rw [← hc] at l3
      rw [← ha, ← hc]
      have HA := hideIt ha
      have BW := hideIt (rwidth_any (c - a) w (by omega) (by omega))
      clear ha hc HL ht
      go_wp2_with fail
      refine BW.out.mono ?_
      rintro e w1' ⟨rfl, rfl⟩
      clear BW
      rw [← hwd.out]
      have hq := HW.out
      obtain ⟨q, hqd⟩ : ∃ q, q = wd xs := ⟨_, rfl⟩
      rw [← hqd] at hq ⊢
      have HQ := hideIt hqd
      clear hqd hwd HW
      have hq2 : (q : Int) ≤ 64 := by omega
      obtain ⟨i0, hi, hz0, hz1, hz2⟩ := info_parts Tryz.infoI64
      obtain ⟨j0, hj, hy0, hy1, hy2⟩ := info_parts Tryz.info5
      go_wp2
      go_loopw [8, 9] (fun o i wr => ∃ t : Nat, t ≤ k ∧ i = .int .i64 t ∧ wr.ownsRow w.heap.size 3 1 o (ups a q (xs.take t)).length ((bitsI (ups a q (xs.take t))).map (Value.int .i64)) ∧ Below w.heap.size w wr) (fun _ i _ => k - (intOf i).toNat)
      case atStart => exact ⟨0, Nat.zero_le _, rfl, World.ownsRow_nil _ _ _ _, Below.refl _ _⟩
      case round =>
        obtain ⟨t, htk, rfl, hown, hbel⟩ := hrel
        have HOWN := hideIt hown
        have HBEL := hideIt hbel
        by_cases hlt2 : t < k
        · have hkx : t < xs.length := by rw [← HM.out]; exact hlt2
          obtain ⟨b, off, cap', e1, c0⟩ := (HBS.out).at t hkx
          simp only [Value.slice.injEq] at e1
          obtain ⟨rfl, e2, rfl⟩ := e1
          clear e2
          have hxm : xs.getD t 0 ∈ xs := by rw [List.getD_eq_getElem?_getD, List.getElem?_eq_getElem hkx]; simp
          obtain ⟨x0, x1⟩ := HU.out _ hxm
          have x2 := lo_le xs _ hxm
          rw [← HA.out] at x2
          have hnx : Hid (ups a q (xs.take (t + 1)) = ups a q (xs.take t) ++ bitsOf (xs.getD t 0 - a).toNat q) := by
            simp only [Hid]; rw [take_snoc xs t hkx, ups_snoc]
          have hln : Hid ((ups a q (xs.take t)).length ≤ 44800) := by
            simp only [Hid]
            rw [ups_length, List.length_take]
            have : min t xs.length * q ≤ 700 * 64 := Nat.mul_le_mul (by omega) hq
            omega
          obtain ⟨x, hx⟩ : ∃ x, x = xs.getD t 0 := ⟨_, rfl⟩
          rw [← hx] at c0 x0 x1 x2 hnx
          obtain ⟨u, hu⟩ : ∃ u, u = ups a q (xs.take t) := ⟨_, rfl⟩
          rw [← hu] at HOWN hnx hln
          have HC0 := hideIt c0
          have dlt2 : decide ((t : Int) < (k : Int)) = true := by simp; omega
          clear hx hxm hkx hown hbel hu c0
          go_wp2
          go_loopw [8, 10] (fun o i wr2 => ∃ j : Nat, j ≤ q ∧ i = .int .i64 ((q : Int) - 1 - (j : Int)) ∧ wr2.ownsRow w.heap.size 3 1 o (u ++ (bitsOf (x - a).toNat q).take j).length ((bitsI (u ++ (bitsOf (x - a).toNat q).take j)).map (Value.int .i64)) ∧ Below w.heap.size w wr2) (fun _ i _ => (1 + intOf i).toNat)
          case atStart => exact ⟨0, Nat.zero_le _, by go_num, by simpa using HOWN.out, HBEL.out⟩
          case round =>
            obtain ⟨j, hjq, rfl, hown, hbel⟩ := hrel
            clear HBEL HOWN
            by_cases hlt3 : j < q
            · have c0 := (hbel.cell (p := ⟨b, off + t, none⟩) (World.block_lt_of_cell? w _ HC0.out)).trans HC0.out
              have B8 := bits64_of (x - a) (q - 1 - j) (by omega) (by omega)
              have TK := hideIt (bitsOf_take (x - a).toNat q j hlt3)
              obtain ⟨cb, hcc⟩ : ∃ cb, cb = (x - a).toNat.testBit (q - 1 - j) := ⟨_, rfl⟩
              rw [← hcc] at TK B8
              obtain ⟨bt, hbt⟩ : ∃ bt : Nat, bt = cb.toNat := ⟨_, rfl⟩
              have ht1 : (bt : Int) ≤ 1 := by have := bool_le cb; omega
              rw [← hbt] at B8
              have HT := hideIt hbt
              have hsz := hbel.size
              have hll : Hid ((u ++ (bitsOf (x - a).toNat q).take j).length ≤ 44864) := by
                simp only [Hid]
                have := hln.out
                rw [List.length_append, List.length_take]; omega
              obtain ⟨z, hz⟩ : ∃ z, z = u ++ (bitsOf (x - a).toNat q).take j := ⟨_, rfl⟩
              have HZ : Hid (u ++ (bitsOf (x - a).toNat q).take (j + 1) = z ++ [cb]) := by
                simp only [Hid]; rw [TK.out, ← List.append_assoc, ← hz]
              rw [← hz] at hown hll
              obtain ⟨zl, hzl⟩ : ∃ zl, zl = z.length := ⟨_, rfl⟩
              rw [← hzl] at hown hll
              have HZL := hideIt hzl
              clear hcc hbt hz TK hzl
              go_wp2_with (at_builtin; refine wpList_append_lies _ rfl _ _ _ rfl w.heap.size 3 i0 (.int .i64 0) 1 8 Tryz.underlying24 hi hz0 hz1 hz2 rfl (by omega) _ zl ((bitsI z).map (Value.int .i64)) rfl (hown.alloc _) ⟨wr.heap.size, 0, none⟩ 1 1 [.int .i64 bt] rfl rfl ?c1 ?c2 (by omega) ?c3 ?c4 ?c5 (wr.heap.size + 1) (by simp) ?_)
              case c1 => exact cell_one_new _ _ _
              case c2 => intro u hu; simp at hu; subst hu; rfl
              case c3 => have := hll.out; unfold maxLen; omega
              case c4 => have := hll.out; omega
              case c5 => simp; omega
              intro g cap1 w1 hown1 hgrow hat hg1
              have hb1 : Below w.heap.size w w1 := (hbel.alloc hbel.size _).grown hgrow (by simp; omega) (fun q hq => (hown.lt q hq).1)
              have hown2 : Hid (w1.ownsRow w.heap.size 3 1 (.slice (some ⟨g, 0, none⟩) (zl + 1) cap1) (u ++ (bitsOf (x - a).toNat q).take (j + 1)).length ((bitsI (u ++ (bitsOf (x - a).toNat q).take (j + 1))).map (Value.int .i64))) := by
                simp only [Hid]
                rw [HZ.out, bitsI_vals_snoc, ← HT.out, List.length_append, ← HZL.out]; exact hown1
              have HB1 := hideIt hb1
              clear hown hown1 hgrow hat hbel hb1
              go_wp2
              go_roundw
              case rel => exact ⟨j + 1, by omega, by go_num, hown2.out, HB1.out⟩
              case measure => simp [intOf]; omega
            · have hjn : j = q := by omega
              subst hjn
              have hown3 : Hid (wr.ownsRow w.heap.size 3 1 u8 (ups a j (xs.take (t + 1))).length ((bitsI (ups a j (xs.take (t + 1)))).map (Value.int .i64))) := by
                simp only [Hid]
                rw [hnx.out, put_fin]; exact hown
              have HB1 := hideIt hbel
              clear hown hbel
              go_wp2
              go_roundw
              case rel => exact ⟨t + 1, by omega, by simp, hown3.out, HB1.out⟩
              case measure => simp [intOf]; omega
        · obtain rfl : t = k := by omega
          have dlt2 : decide ((t : Int) < (t : Int)) = false := by simp
          have hup : ups a q (xs.take t) = up xs := by
            rw [HM.out, List.take_length, up, ← HA.out, ← HQ.out]
          rw [hup] at HOWN
          have hlen : (up xs).length ≤ 44800 := by
            rw [up_length, ← HQ.out, ← HM.out]
            have : t * q ≤ 700 * 64 := Nat.mul_le_mul hl hq
            omega
          have HLEN := hideIt hlen
          have AP := hideIt (rappend_any (.slice none 0 0) [] a wr (Bs.nil _ _) NoCap.nil (by simp) l1 (by omega))
          have HG10 := hideIt (gs_le10 (v := a.toNat) (by omega))
          have hq256 : (q : Int) < 256 := by omega
          have hsr := hbel.size
          obtain ⟨f8, cp8, e8⟩ := (Bs.of_own (k := .i64) (xs := bitsI (up xs)) (by rw [bitsI_length]; exact HOWN.out)).len
          rw [bitsI_length] at e8
          subst e8
          obtain ⟨ul, hul⟩ : ∃ ul, ul = (up xs).length := ⟨_, rfl⟩
          rw [← hul] at HOWN
          have HUL := hideIt hul
          rw [← hul]
          clear hown hbel hup hlen hul
          go_wp2_with fail
          refine AP.out.mono ?_
          rintro e w3 ⟨v3, rfl, own3, on3⟩
          rw [List.nil_append] at own3
          have hs3 := on3.size
          have B3 := hideIt (on3.low (Nat.le_refl _))
          clear AP on3
          go_wp2_with (at_builtin; refine wpList_append_lies _ rfl _ _ _ rfl wr.heap.size 5 j0 (.int .u8 0) 1 1 Tryz.underlying22 hj hy0 hy1 hy2 rfl (by omega) _ (gs a.toNat).length ((gs a.toNat).map (Value.int .u8)) rfl (own3.alloc _) ⟨w3.heap.size, 0, none⟩ 1 1 [.int .u8 q] rfl rfl ?c1 ?c2 (by omega) ?c3 ?c4 ?c5 (w3.heap.size + 1) (by simp) ?_)
          case c1 => exact cell_one_new _ _ _
          case c2 => intro u hu; simp at hu; subst hu; rfl
          case c3 => have := HG10.out; unfold maxLen; omega
          case c4 => have := HG10.out; omega
          case c5 => simp; omega
          intro g cap1 w4 own4 hgrow hat hg1
          have b4 : Below wr.heap.size wr w4 := (B3.out.alloc (by omega) _).grown hgrow (by simp; omega) (fun p hp => (own3.lt p hp).1)
          have bs4 : Bs .i64 w4 (.slice f8 ul cp8) (bitsI (up xs)) := (Bs.of_own (k := .i64) (xs := bitsI (up xs)) (by rw [bitsI_length, ← HUL.out]; exact HOWN.out)).later b4
          have RB := hideIt (brbytes_bs (.slice f8 ul cp8) (up xs) w4 bs4 (by have := HLEN.out; omega))
          have OWN4 := hideIt own4
          have B4 := hideIt b4
          clear own3 own4 hgrow hat b4 bs4 B3
          go_wp2_with fail
          refine RB.out.mono ?_
          rintro e w5 ⟨v5, rfl, own5, on5⟩
          have own4 := on5.own OWN4.out (fun _ _ f => f)
          have HB5 := hideIt (Bs.of_own own5)
          have NC5 := hideIt (NoCap.of_own own5)
          have hs5 : wr.heap.size ≤ w5.heap.size := Nat.le_trans B4.out.size on5.size
          have B5 := hideIt (B4.out.trans (on5.low B4.out.size))
          have HBY : Hid ((bytesI (up xs)).length ≤ 5700) := by
            simp only [Hid]; rw [bytesI_length, nb]; have := HLEN.out; omega
          obtain ⟨a5, c5, e5⟩ := HB5.out.len
          subst e5
          obtain ⟨bl, hbl⟩ : ∃ bl, bl = (bytesI (up xs)).length := ⟨_, rfl⟩
          rw [← hbl] at HB5 NC5 ⊢
          have HBL := hideIt hbl
          clear RB OWN4 own5 on5 hbl
          go_wp2_with (at_builtin; refine wpList_append_bs _ rfl _ _ _ rfl wr.heap.size 5 j0 (.int .u8 0) 1 Tryz.underlying22 hj hy0 hy1 hy2 rfl _ _ _ rfl own4 .u8 _ (bytesI (up xs)) rfl HB5.out NC5.out ?c3 ?c4 hs5 ?_)
          case c3 => have := HBY.out; have := HG10.out; unfold maxLen; omega
          case c4 => have := HBY.out; have := HG10.out; omega
          intro v6 w6 own6 hgrow6 _ _
          have hpk : (gs a.toNat).map (Value.int .u8) ++ Value.int .u8 q :: (bytesI (up xs)).map (Value.int .u8) = (PK xs).map (Value.int .u8) := by unfold PK; rw [← HA.out, ← HQ.out]; simp
          have hpl : (gs a.toNat).length + 1 + (bytesI (up xs)).length = (PK xs).length := by unfold PK; rw [← HA.out]; simp; omega
          rw [hpk, hpl] at own6
          have OWN6 := hideIt (own_low own6 hsr)
          have B6 := hideIt (HBEL.out.trans ((B5.out.grown hgrow6 hs5 (fun p hp => (own4.lt p hp).1)).mono hsr))
          obtain ⟨a6, c6, e6⟩ := (Bs.of_own own6).len
          subst e6
          clear own4 own6 hgrow6 hpk hpl
          go_wp2
          go_ret2
          exact ⟨_, rfl, OWN6.out, only_of_below B6.out⟩
end Go.Proofs.YtgbimghhdbmjiaaGreat
