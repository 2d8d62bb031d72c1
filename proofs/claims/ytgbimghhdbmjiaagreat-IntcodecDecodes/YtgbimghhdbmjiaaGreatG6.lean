/- Several texts in one: En2, Cat, Pa, Re, Eq, Un, Cu3. -/
import Derived.Test.YtgbimghhdbmjiaaGreatG5
import Derived.Test.YtgbimghhdbmjiaaGreatG3
import Derived.Test.YtgbimghhdbmjiaaGreatG4
import Derived.Deep.RegionHeld3
import Derived.Test.YtgbimghhdbmjiaaGreatG1
import Derived.Test.YtgbimghhdbmjiaaGreatProg
import Derived.Shelf.Bytes.SlSmallAll

/- Package forpack's ends, as a plain contract. -/
namespace Go.Proofs.YtgbimghhdbmjiaaGreat
open Go.RowKit Go.Shelf
attribute [local go_sem] Oper.semAt_some

set_option maxRecDepth 100000 in
set_option maxHeartbeats 1000000 in
theorem ends_nil_in (F : Fence) (n : Nat) (h3 : F.fn 92) (hro : F.round = none) (ao : Option Addr) (cap : Nat) (w : World) :
    CallsIn F n Tryz.prog 92 #[.slice ao 0 cap] w fun e W' => e = .returned (.tuple #[.int .u64 0, .int .u64 0]) ∧ Below w.heap.size w W' := by
  refine callsIn_of_wp_marks Tryz.func92 rfl h3 ?_ hro
  simp only [Tryz.ntmps92, List.size_toArray, List.length_cons, List.length_nil, Nat.reduceAdd, Nat.reduceSub, Array.replicate_succ, Array.replicate_zero, List.push_toArray, List.append_toArray, List.nil_append, List.cons_append]
  gi_wp2
  have bA := (Boxed.new w 42 (.int .u64 0)).alloc (.cells #[.int .u64 0] 42)
  have bC := Boxed.new (w.alloc (.cells #[.int .u64 0] 42)) 42 (.int .u64 0)
  rw [World.size_alloc] at bC
  have r1 := bA.cell
  have r3 := bC.cell
  refine ⟨.tuple #[.int .u64 0, .int .u64 0], ?_, rfl, ((Below.refl _ w).alloc (Nat.le_refl _) _).alloc (by simp) _⟩
  simp [results, Tryz.f92, go_sem, r1, r3]

theorem ends_bs (v : Value) (xs : List Int) (w : World) (h : Bs .u64 w v xs) (hl : xs.length ≤ 1000000000) :
    Calls Tryz.prog 92 #[v] w fun e w' => e = .returned (.tuple #[.int .u64 (lo xs), .int .u64 (hi xs)]) ∧ Only (fun _ => False) w w' := by
  obtain ⟨ao, cap, rfl, hc, hr⟩ := h
  refine ((callsIn_wide (n := 3)).1 ?_ : Calls Tryz.prog 92 #[.slice ao xs.length cap] w fun e w' => e = .returned (.tuple #[.int .u64 (lo xs), .int .u64 (hi xs)]) ∧ Below w.heap.size w w').mono fun e w' h => ⟨h.1, only_of_below h.2⟩
  cases xs with
  | nil => exact ends_nil_in _ _ trivial rfl ao cap w
  | cons x0 zs =>
    obtain ⟨b, off, rfl, hcell⟩ := hr (by simp)
    have c0 : w.cell? ⟨b, off, none⟩ = some (.int .u64 x0) := hcell 0 (by simp)
    by_cases h1 : cap = 1
    · subst h1
      have h0 : zs = [] := List.eq_nil_of_length_eq_zero (by rw [List.length_cons] at hc; omega)
      subst h0
      exact ends_one_in _ _ trivial trivial trivial rfl (by omega) b off x0 w c0
    · refine ends_in _ _ trivial trivial trivial rfl (by omega) b off cap zs x0 w c0 (by rw [List.length_cons] at hl; omega) (by rw [List.length_cons] at hc; omega) h1 ?_
      refine ⟨_, _, rfl, fun _ => ⟨b, off + 1, rfl, World.block_lt_of_cell? w _ c0, fun j hj => ?_⟩⟩
      have := hcell (j + 1) (by rw [List.length_cons]; omega)
      rw [show off + 1 + j = off + (j + 1) by omega, this]
      simp [List.getD_eq_getElem?_getD]
end Go.Proofs.YtgbimghhdbmjiaaGreat

/- slices.Concat of so many slices of bytes. -/
namespace Go.Proofs.YtgbimghhdbmjiaaGreat
open Go.RowKit

def cat (ls : Nat → List Int) (k : Nat) : List Int := (List.range k).flatMap ls
theorem cat_zero (ls : Nat → List Int) : cat ls 0 = [] := rfl
theorem cat_succ (ls : Nat → List Int) (k : Nat) : cat ls (k + 1) = cat ls k ++ ls k := by simp [cat, List.range_succ]
theorem cat_mono (ls : Nat → List Int) {k m : Nat} (h : k ≤ m) : (cat ls k).length ≤ (cat ls m).length := by
  induction m with
  | zero => rw [Nat.le_zero.1 h]; exact Nat.le_refl _
  | succ m ih =>
    rcases Nat.lt_or_ge k (m + 1) with h' | h'
    · have := ih (by omega); rw [cat_succ, List.length_append]; omega
    · rw [show k = m + 1 by omega]; exact Nat.le_refl _

set_option maxHeartbeats 1600000 in
set_option maxRecDepth 100000 in
/-- SO MANY SLICES OF BYTES, one behind the other: new memory. -/
theorem concat_n (B m : Nat) (vs : Nat → Value) (ls : Nat → List Int) (w : World) (hm : m ≤ 1000) (hm0 : 0 < m) (hc : ∀ i, i < m → w.cell? ⟨B, i, none⟩ = some (vs i)) (hb : ∀ i, i < m → Bs .u8 w (vs i) (ls i)) (nc : ∀ i, i < m → NoCap (vs i))
    (hp : 0 < (cat ls m).length) (hl : (cat ls m).length ≤ 140737488355328) :
    Calls Tryz.prog 20 #[.slice (some ⟨B, 0, none⟩) m m] w fun e w' => ∃ v', e = .returned v' ∧ w'.ownsRow w.heap.size 5 1 v' (cat ls m).length ((cat ls m).map (Value.int .u8)) ∧ Only (fun _ => False) w w' := by
  obtain ⟨i0, hi, hz0, hz1, hz2⟩ := info_parts Tryz.infoU8
  have HC := hideIt hc
  have HB := hideIt hb
  have NC := hideIt nc
  have HP := hideIt hp
  have HL := hideIt hl
  have hBw : B < w.heap.size := World.block_lt_of_cell? w _ (hc 0 hm0)
  clear hc hb nc hp hl
  go_enter Tryz.func20, Tryz.ntmps20
  go_wp2
  go_loop [3, 11] (fun s i => ∃ k : Nat, k ≤ m ∧ i = .int .i64 k ∧ s = .int .i64 (cat ls k).length) (fun _ i => m - (intOf i).toNat)
  case atStart => exact ⟨0, Nat.zero_le _, rfl, rfl⟩
  case round =>
    obtain ⟨k, hk, rfl, rfl⟩ := hrel
    by_cases hlt : k < m
    · obtain ⟨ao, cap, e1⟩ := (HB.out k hlt).len
      have c0 := HC.out k hlt
      rw [e1] at c0
      have hnext : Hid ((cat ls (k + 1)).length = (cat ls k).length + (ls k).length) := by simp only [Hid]; rw [cat_succ, List.length_append]
      have hle := cat_mono ls (show k + 1 ≤ m by omega)
      rw [hnext.out] at hle
      have HX := HL.out
      obtain ⟨s, hs⟩ : ∃ s, s = (cat ls k).length := ⟨_, rfl⟩
      obtain ⟨n, hn⟩ : ∃ n, n = (ls k).length := ⟨_, rfl⟩
      rw [← hs, ← hn] at hle hnext
      rw [← hn] at c0
      rw [← hs]
      have hb2 : s + n ≤ 140737488355328 := by omega
      have dlt : decide ((k : Int) < (m : Int)) = true := by simp; omega
      have d0 : decide ((s : Int) + n < 0) = false := by simp; omega
      clear e1 hs hn hle HX
      go_wp2
      go_round
      case rel => exact ⟨k + 1, by omega, by simp, by rw [hnext.out]; simp⟩
      case measure => simp [intOf]; omega
    · obtain rfl : k = m := by omega
      have dlt : decide ((k : Int) < (k : Int)) = false := by simp
      obtain ⟨s, hs⟩ : ∃ s, s = (cat ls k).length := ⟨_, rfl⟩
      have HS := hideIt hs
      rw [← hs]
      have hs0 : 0 < s := by rw [hs]; exact HP.out
      have hs1 : s ≤ 140737488355328 := by rw [hs]; exact HL.out
      have GN := hideIt (grow_nil s w hs0 hs1)
      clear hs
      go_wp2_with fail
      refine GN.out.mono ?_
      rintro e w2 ⟨G, rfl, hown, hon⟩
      have hbel : Below w.heap.size w w2 := hon.low (Nat.le_refl _)
      clear GN hon
      go_wp2
      go_loopw [6, 27] (fun o i wr => Below w.heap.size w wr ∧ ∃ j : Nat, j ≤ k ∧ i = .int .i64 j ∧ wr.ownsRow w.heap.size 5 1 o (cat ls j).length ((cat ls j).map (Value.int .u8))) (fun _ i _ => k - (intOf i).toNat)
      case atStart => exact ⟨hbel, 0, Nat.zero_le _, rfl, hown⟩
      case round =>
        obtain ⟨hbw, j, hj, rfl, hown1⟩ := hrel
        clear hbel hown
        have hsz := hbw.size
        by_cases hlt : j < k
        · obtain ⟨ao, cap, e1⟩ := (HB.out j hlt).len
          have c0 := (hbw.cell (p := ⟨B, j, none⟩) hBw).trans (HC.out j hlt)
          have HBJ := hideIt ((HB.out j hlt).later hbw)
          have NCJ := hideIt (NC.out j hlt)
          rw [e1] at c0 HBJ NCJ
          have hnext : Hid (cat ls (j + 1) = cat ls j ++ ls j) := cat_succ ls j
          have hle := cat_mono ls (show j + 1 ≤ k by omega)
          rw [hnext.out, List.length_append] at hle
          have HX := HL.out
          obtain ⟨n, hn⟩ : ∃ n, n = (ls j).length := ⟨_, rfl⟩
          rw [← hn] at c0 HBJ NCJ
          have dlt2 : decide ((j : Int) < (k : Int)) = true := by simp; omega
          clear e1 hn
          have hle2 := hideIt hle
          clear hle HX
          go_wp2_with (at_builtin; refine wpList_append_bs _ rfl _ _ _ rfl w.heap.size 5 i0 (.int .u8 0) 1 Tryz.underlying22 hi hz0 hz1 hz2 rfl _ _ _ rfl hown1 .u8 _ (ls j) rfl HBJ.out NCJ.out ?c3 ?c4 hsz ?_)
          case c3 => have := hle2.out; have := HL.out; unfold maxLen; omega
          case c4 => have := hle2.out; have := HL.out; omega
          intro v' w3 hown2 hgrow _ _
          have hb3 : Below w.heap.size w w3 := hbw.grown hgrow hsz (fun q hq => (hown1.lt q hq).1)
          rw [← List.map_append, ← List.length_append, ← hnext.out] at hown2
          clear hown1 hgrow
          go_wp2
          go_roundw
          case rel => exact ⟨hb3, j + 1, by omega, by simp, hown2⟩
          case measure => simp [intOf]; omega
        · obtain rfl : j = k := by omega
          have dlt2 : decide ((j : Int) < (j : Int)) = false := by simp
          go_wp2
          go_ret
          exact ⟨_, rfl, hown1, only_of_below hbw⟩
end Go.Proofs.YtgbimghhdbmjiaaGreat

/- Package forpack's Pack. -/
namespace Go.Proofs.YtgbimghhdbmjiaaGreat
open Go.RowKit

set_option maxHeartbeats 400000 in
set_option maxRecDepth 100000 in
theorem pack_long (v : Value) (xs : List Int) (w : World) (h : Bs .u64 w v xs) (hl : 65536 < xs.length) :
    Calls Tryz.prog 71 #[v] w fun e w' => e = .returned (.tuple #[.slice none 0 0, .int .i64 4]) ∧ w = w' := by
  obtain ⟨ao, cap, rfl⟩ := h.len
  clear h
  have d0 : decide (65536 < (xs.length : Int)) = true := by simp; omega
  generalize xs.length = m at *
  clear hl
  go_enter Tryz.func71, Tryz.ntmps71
  go_wp2
  go_ret2
  exact ⟨rfl, rfl⟩

theorem cat_three (x y z : List Int) : cat (fun i => if i = 0 then x else if i = 1 then y else z) 3 = x ++ y ++ z := by
  rw [cat_succ, cat_succ, cat_succ, cat_zero]; simp

set_option maxHeartbeats 1600000 in
set_option maxRecDepth 100000 in
theorem pack_bs (v : Value) (xs : List Int) (w : World) (h : Bs .u64 w v xs) (hu : U64 xs) (hl : xs.length ≤ 65536) :
    Calls Tryz.prog 71 #[v] w fun e w' => ∃ v', e = .returned (.tuple #[v', .int .i64 0]) ∧ w'.ownsRow w.heap.size 5 1 v' (PK xs).length ((PK xs).map (Value.int .u8)) ∧ Only (fun _ => False) w w' := by
  have A := hideIt (ends_bs v xs w h (by omega))
  have HBS := hideIt h
  have HU := hideIt hu
  obtain ⟨l1, l2, l3⟩ := lohi hu
  have HW := hideIt (wd_le hu)
  have hwd : Hid (wd xs = wid (hi xs - lo xs).toNat) := rfl
  obtain ⟨ao, cap, rfl⟩ := h.len
  have d0 : decide (65536 < (xs.length : Int)) = false := by simp; omega
  obtain ⟨m, hm⟩ : ∃ m, m = xs.length := ⟨_, rfl⟩
  rw [← hm] at A HBS hl d0 ⊢
  have HM := hideIt hm
  clear h hu hm
  obtain ⟨a, ha⟩ : ∃ a, a = lo xs := ⟨_, rfl⟩
  obtain ⟨c, hc⟩ : ∃ c, c = hi xs := ⟨_, rfl⟩
  rw [← ha, ← hc] at A hwd l2
  rw [← ha] at l1
  rw [← hc] at l3
  have HA := hideIt ha
  have HCC := hideIt hc
  clear ha hc
  go_enter Tryz.func71, Tryz.ntmps71
  go_wp2_with fail
  refine A.out.mono ?_
  rintro e w1 ⟨rfl, o1⟩
  clear A
  have HO := hideIt o1
  have BW := hideIt (width_any (c - a) w1 (by omega) (by omega))
  clear o1
  go_wp2_with fail
  refine BW.out.mono ?_
  rintro e w1' ⟨rfl, rfl⟩
  clear BW
  rw [← hwd.out]
  have hq := HW.out
  obtain ⟨q, hqd⟩ : ∃ q, q = wd xs := ⟨_, rfl⟩
  rw [← hqd] at hq ⊢
  have HQ := hideIt hqd
  clear hqd hwd HW
  have hq2 : (q : Int) ≤ 64 := by omega
  have W0 := hideIt (WrAt.new (T := 103) (E := 5) w1)
  have HB0 : Hid (Below w1.heap.size w1 (w1.alloc (.cells #[.slice none 0 0, .int .i64 0] 103))) := (Below.refl _ _).alloc (Nat.le_refl _) _
  have HSZ := HO.out.size
  go_wp2
  go_loopw [24] (fun i wr => ∃ k : Nat, k ≤ m ∧ i = .int .i64 k ∧ Below w1.heap.size w1 wr ∧ ∃ vw, WrAt 103 5 wr (w1.heap.size + 1) w1.heap.size vw (ups a q (xs.take k))) (fun i _ => m - (intOf i).toNat)
  case atStart => exact ⟨0, Nat.zero_le _, rfl, HB0.out, _, W0.out⟩
  case round =>
    obtain ⟨k, hk, rfl, hbw, vw, hwr⟩ := hrel
    clear W0 HB0
    have HBW := hideIt hbw
    have HWR := hideIt hwr
    by_cases hlt : k < m
    · have hkx : k < xs.length := by rw [← HM.out]; exact hlt
      have hb1 := (HBS.out.keep HO.out (fun _ _ f => f)).later hbw
      obtain ⟨b, off, cap', e1, c0⟩ := hb1.at k hkx
      simp only [Value.slice.injEq] at e1
      obtain ⟨rfl, e2, rfl⟩ := e1
      clear e2
      have hxm : xs.getD k 0 ∈ xs := by rw [List.getD_eq_getElem?_getD, List.getElem?_eq_getElem hkx]; simp
      obtain ⟨x0, x1⟩ := HU.out _ hxm
      have x2 := lo_le xs _ hxm
      rw [← HA.out] at x2
      have x3 := wd_fits xs _ hxm
      rw [← HA.out, ← HQ.out] at x3
      have htk : Hid (ups a q (xs.take (k + 1)) = ups a q (xs.take k) ++ bitsOf (xs.getD k 0 - a).toNat q) := by
        simp only [Hid]; rw [take_snoc xs k hkx, ups_snoc]
      have hln : (ups a q (xs.take k)).length ≤ 1000000000 := by
        rw [ups_length, List.length_take]
        have : min k xs.length * q ≤ 65536 * 64 := Nat.mul_le_mul (by omega) hq
        omega
      obtain ⟨x, hx⟩ : ∃ x, x = xs.getD k 0 := ⟨_, rfl⟩
      rw [← hx] at c0 x0 x1 x2 x3 htk
      have PU := hideIt (put_wr hwr (x - a) q (by omega) hq2 (by omega) (by omega) (by omega) hln)
      have dlt : decide ((k : Int) < (m : Int)) = true := by simp; omega
      clear hb1 hx hxm x3 hln hwr hbw hkx
      go_wp2_with fail
      refine PU.out.mono ?_
      rintro e w2 ⟨rfl, vw2, hw2, on2, st2⟩
      have HB2 := hideIt (HBW.out.trans (on2.below (B := w1.heap.size) HBW.out.size (HWR.out.foot_ge (Nat.le_refl _))))
      have HW2 := hideIt hw2
      clear PU hw2 on2 st2
      go_wp2
      go_roundw
      case rel => exact ⟨k + 1, by omega, by simp, HB2.out, vw2, by rw [htk.out]; simpa using HW2.out⟩
      case measure => simp [intOf]; omega
    · obtain rfl : k = m := by omega
      have dlt : decide ((k : Int) < (k : Int)) = false := by simp
      have AP := hideIt (append_any (.slice none 0 0) [] a wr (Bs.nil _ _) NoCap.nil (by simp) l1 (by omega))
      clear hwr hbw
      go_wp2_with fail
      refine AP.out.mono ?_
      rintro e w3 ⟨v3, rfl, own3, on3⟩
      clear AP
      rw [List.nil_append] at own3
      have hq256 : (q : Int) < 256 := by omega
      have HG10 := hideIt (gs_le10 (v := a.toNat) (by omega))
      have W3 := HWR.out.keep ((on3.trans ((Only.refl (fun _ => False) w3).alloc (.cells #[.int .u8 q] 5)) (fun _ _ f => f))) (fun f => f) (fun _ _ f => f)
      have hup : Hid (ups a q (xs.take k) = up xs) := by
        simp only [Hid]; rw [HM.out, List.take_length, up, ← HA.out, ← HQ.out]
      rw [hup.out] at W3
      have hlen : (up xs).length ≤ 65536 * 64 := by rw [up_length, ← HQ.out, ← HM.out]; exact Nat.mul_le_mul hl hq
      have BY := hideIt (bytes_wr W3 (by omega))
      have O3 := hideIt on3
      have W3' := hideIt own3
      have HLEN := hideIt hlen
      clear on3 own3 W3 hlen
      go_wp2_with fail
      refine BY.out.mono ?_
      rintro e w4 ⟨v4, rfl, own4, on4⟩
      have own3 := on4.own (((Only.refl (fun _ => False) w3).alloc (.cells #[.int .u8 q] 5)).own W3'.out (fun _ _ f => f)) (fun _ _ f => f)
      clear BY
      have b1 : Bs .u8 w4 (.slice (some ⟨w3.heap.size, 0, none⟩) 1 1) [(q : Int)] := (Bs.lit .u8 w3 5 [(q : Int)]).keep on4 (fun _ _ f => f)
      have hbl : Below w4.heap.size w4 (w4.alloc (.cells #[v3, .slice (some ⟨w3.heap.size, 0, none⟩) 1 1, v4] 22)) := (Below.refl _ _).alloc (Nat.le_refl _) _
      have CC := hideIt (concat_n w4.heap.size 3 (fun i => if i = 0 then v3 else if i = 1 then .slice (some ⟨w3.heap.size, 0, none⟩) 1 1 else v4) (fun i => if i = 0 then gs a.toNat else if i = 1 then [(q : Int)] else bytesI (up xs)) (w4.alloc (.cells #[v3, .slice (some ⟨w3.heap.size, 0, none⟩) 1 1, v4] 22)) (by omega) (by omega)
        (by intro i hi
            have : i = 0 ∨ i = 1 ∨ i = 2 := by omega
            rcases this with rfl | rfl | rfl <;> go_cell)
        (by intro i hi
            have : i = 0 ∨ i = 1 ∨ i = 2 := by omega
            rcases this with rfl | rfl | rfl
            · exact (Bs.of_own own3).later hbl
            · exact b1.later hbl
            · exact (Bs.of_own own4).later hbl)
        (by intro i hi
            have : i = 0 ∨ i = 1 ∨ i = 2 := by omega
            rcases this with rfl | rfl | rfl
            · exact NoCap.of_own own3
            · exact NoCap.some _ _ _
            · exact NoCap.of_own own4)
        (by rw [cat_three]; simp; omega)
        (by rw [cat_three, List.length_append, List.length_append, bytesI_length, nb]
            have := HLEN.out; have := HG10.out; simp; omega))
      rw [cat_three] at CC
      have O4 := hideIt on4
      obtain ⟨f3, cp3, hv3⟩ := (Bs.of_own own3).len
      obtain ⟨f4, cp4, hv4⟩ := (Bs.of_own own4).len
      subst hv3 hv4
      clear own3 own4 on4 b1 hbl
      go_wp2_with fail
      refine CC.out.mono ?_
      rintro e w5 ⟨v5, rfl, own5, on5⟩
      have hpk : gs a.toNat ++ [(q : Int)] ++ bytesI (up xs) = PK xs := by unfold PK; rw [← HA.out, ← HQ.out]; simp
      rw [hpk] at own5
      have s4 := O4.out.size
      have s3 := O3.out.size
      have sr := HBW.out.size
      simp only [World.size_alloc] at own5 s4
      have own6 := hideIt (own_low own5 (show w.heap.size ≤ w4.heap.size + 1 by omega))
      have bl : Hid (Below w.heap.size w w5) := ((((HO.out.low (Nat.le_refl _)).trans (HBW.out.mono HSZ)).trans (O3.out.low (by omega))).trans ((((Below.refl _ w3).alloc (by omega) _)).trans (O4.out.low (by simp; omega)))).trans (((Below.refl _ w4).alloc (by omega) _).trans (on5.low (by simp; omega)))
      clear own5 on5 CC hpk
      obtain ⟨f5, cp5, hv5⟩ := (Bs.of_own own6.out).len
      subst hv5
      go_wp2
      go_ret2
      exact ⟨_, rfl, own6.out, only_of_below bl.out⟩
end Go.Proofs.YtgbimghhdbmjiaaGreat

/- Package forpack's read: the numbers as they come. -/
namespace Go.Proofs.YtgbimghhdbmjiaaGreat
open Go.RowKit

theorem sByte_cons (y : Int) (r : List Int) : sByte (y :: r) = (y, 1, 0) := by simp [sByte]
theorem sBytes_all (r : List Int) : sBytes r.length r = (r, r.length, 0) := by
  unfold sBytes
  rw [if_neg (by omega), if_neg (by omega)]
  simp
/-- k numbers are read, the others are 0 -/
def part (a q : Nat) (l : List Bool) (n k : Nat) : List Int := nums a q l k ++ List.replicate (n - k) 0
theorem part_len (a q : Nat) (l : List Bool) (n k : Nat) (h : k ≤ n) : (part a q l n k).length = n := by simp [part, nums_length]; omega
theorem part_zero (a q : Nat) (l : List Bool) (n : Nat) : (part a q l n 0).map (Value.int .u64) = (madeCells #[Value.int .u64 0] (n * 1)).toList := by
  apply List.ext_getElem
  · simp [part, madeCells, nums]
  · intro i h1 h2
    simp [part, madeCells, nums, Nat.mod_one]
theorem part_step (a q : Nat) (l : List Bool) (n k : Nat) (h : k < n) : (part a q l n k).set k (((a + bnum ((l.drop (k * q)).take q)) % 18446744073709551616 : Nat) : Int) = part a q l n (k + 1) := by
  unfold part
  have e : List.replicate (n - k) (0 : Int) = 0 :: List.replicate (n - (k + 1)) 0 := by rw [← List.replicate_succ]; congr 1; omega
  rw [nums_succ, List.set_append, if_neg (by rw [nums_length]; omega), nums_length, Nat.sub_self, e, List.set_cons_zero, List.append_assoc]
  rfl
theorem part_all (a q : Nat) (l : List Bool) (n : Nat) : part a q l n n = nums a q l n := by simp [part]

set_option maxHeartbeats 400000 in
set_option maxRecDepth 100000 in
theorem read_err {w : World} {R : Nat} {v : Value} {ys : List Int} (h : CurAt 51 w R v ys) (n : Nat) {c : Int} (hr : rd 0 0 ys = (0, 0, c)) (hc : c = 2 ∨ c = 3) :
    Calls Tryz.prog 77 #[.pointer (some ⟨R, 0, none⟩), .int .i64 n] w fun e w' => e = .returned (.tuple #[.slice none 0 0, .int .i64 c]) ∧ Only (fun k => k = R) w w' := by
  have A := hideIt (varint_cur h)
  have e1 : sVarint ys = (0, 0, c) := by unfold sVarint; rw [hr]; rfl
  rw [e1] at A
  have d0 : (c != 0) = true := by simp; omega
  clear h hr hc e1
  go_enter Tryz.func77, Tryz.ntmps77
  go_wp2_with fail
  refine A.out.mono ?_
  rintro e w1 ⟨rfl, v1, _, _, o1⟩
  have O1 := hideIt o1
  clear A o1
  go_wp2
  go_ret2
  exact ⟨rfl, O1.out⟩

set_option maxHeartbeats 400000 in
set_option maxRecDepth 100000 in
theorem read_none {w : World} {R : Nat} {v : Value} {a : Nat} (h : CurAt 51 w R v (gs a)) (n : Nat) (ha : a < 18446744073709551616) :
    Calls Tryz.prog 77 #[.pointer (some ⟨R, 0, none⟩), .int .i64 n] w fun e w' => e = .returned (.tuple #[.slice none 0 0, .int .i64 2]) ∧ Only (fun k => k = R) w w' := by
  have A := hideIt (varint_cur h)
  have e1 : sVarint (gs a) = ((a : Int), (gs a).length, 0) := by have := sVarint_gs a [] ha; rwa [List.append_nil] at this
  rw [e1, List.drop_length] at A
  clear h e1
  go_enter Tryz.func77, Tryz.ntmps77
  go_wp2_with fail
  refine A.out.mono ?_
  rintro e w1 ⟨rfl, v1, h1, _, o1⟩
  have B := hideIt (byte_cur h1)
  rw [show sByte [] = (0, 0, 2) from rfl] at B
  have O1 := hideIt o1
  clear A o1 h1
  go_wp2_with fail
  refine B.out.mono ?_
  rintro e w2 ⟨rfl, v2, _, _, o2⟩
  have O2 := hideIt (O1.out.trans o2 (fun _ _ e => e))
  clear B o2
  go_wp2
  go_ret2
  exact ⟨rfl, O2.out⟩

set_option maxHeartbeats 1600000 in
set_option maxRecDepth 100000 in
theorem read_at {w : World} {R : Nat} {v : Value} {a n : Nat} {y : Int} {r : List Int} (h : CurAt 51 w R v (gs a ++ y :: r)) (ha : a < 18446744073709551616) (hn : n ≤ 65536) :
    Calls Tryz.prog 77 #[.pointer (some ⟨R, 0, none⟩), .int .i64 n] w fun e w' => ∃ v', e = .returned (.tuple #[v', .int .i64 (rdl (gs a ++ y :: r) n).1]) ∧ w'.ownsRow w.heap.size 42 1 v' (rdl (gs a ++ y :: r) n).2.length ((rdl (gs a ++ y :: r) n).2.map (Value.int .u64)) ∧ Only (fun k => k = R) w w' := by
  obtain ⟨y0, y1⟩ := h.rng y (by simp)
  have hrng : ∀ z ∈ r, 0 ≤ z ∧ z ≤ 255 := fun z hz => h.rng z (by simp [hz])
  have hlen : r.length ≤ 1000000000000 := by have := h.len; simp at this; omega
  have HRNG := hideIt hrng
  have HLEN := hideIt hlen
  have A := hideIt (varint_cur h)
  have hd : (gs a ++ y :: r).drop (gs a).length = y :: r := by simp
  rw [sVarint_gs a _ ha] at A
  simp only [hd] at A
  rw [rdl_at a n y r ha]
  clear h hd hrng
  by_cases hy : 64 < y
  · have d1 : decide (64 < y) = true := by simp; exact hy
    rw [if_pos hy]
    go_enter Tryz.func77, Tryz.ntmps77
    go_wp2_with fail
    refine A.out.mono ?_
    rintro e w1 ⟨rfl, v1, h1, _, o1⟩
    have B := hideIt (byte_cur h1)
    rw [sByte_cons] at B
    have O1 := hideIt o1
    clear A o1 h1
    go_wp2_with fail
    refine B.out.mono ?_
    rintro e w2 ⟨rfl, v2, _, _, o2⟩
    have O2 := hideIt (O1.out.trans o2 (fun _ _ e => e))
    clear B o2
    go_wp2
    go_ret2
    exact ⟨_, rfl, World.ownsRow_nil _ _ _ _, O2.out⟩
  · obtain ⟨q, rfl⟩ := Int.eq_ofNat_of_zero_le y0
    rw [if_neg hy, Int.toNat_natCast]
    have d1 : decide (64 < (q : Int)) = false := decide_eq_false hy
    have hq : q ≤ 64 := by omega
    have hnq : n * q ≤ 65536 * 64 := Nat.mul_le_mul hn hq
    have hnqI : Hid (((n : Int) * (q : Int)) = ((n * q : Nat) : Int)) := by simp only [Hid]; simp
    have m0 : 0 ≤ (n : Int) * (q : Int) := by rw [hnqI.out]; omega
    have m1 : (n : Int) * (q : Int) ≤ 4194304 := by rw [hnqI.out]; omega
    have HNQ := hideIt hnq
    clear hnq
    by_cases hs : 8 * r.length < n * q
    · rw [if_pos hs]
      go_enter Tryz.func77, Tryz.ntmps77
      go_wp2_with fail
      refine A.out.mono ?_
      rintro e w1 ⟨rfl, v1, h1, _, o1⟩
      have B := hideIt (byte_cur h1)
      rw [sByte_cons] at B
      have O1 := hideIt o1
      clear A o1 h1
      go_wp2_with fail
      refine B.out.mono ?_
      rintro e w2 ⟨rfl, v2, h2, ow2, o2⟩
      simp only [List.drop_succ_cons, List.drop_zero] at h2
      have C := hideIt (Left_cur h2)
      have D := hideIt (bytes_cur h2 r.length)
      rw [sBytes_all] at D
      have O2 := hideIt (O1.out.trans o2 (fun _ _ e => e))
      clear B o2 h2 ow2
      go_wp2_with fail
      refine C.out.mono ?_
      rintro e w2' ⟨rfl, rfl⟩
      clear C
      go_wp2_with fail
      refine D.out.mono ?_
      rintro e w3 ⟨v3, rfl, b3, _, _, v4, _, _, o3⟩
      have E := hideIt (newReader_bs v3 r w3 b3 HRNG.out HLEN.out)
      have O3 := hideIt (O2.out.trans o3 (fun _ _ e => e))
      obtain ⟨a3, c3, e3⟩ := b3.len
      subst e3
      clear D o3 b3
      go_wp2_with fail
      refine E.out.mono ?_
      rintro e w4 ⟨R4, v5, rfl, r4, o4, g1, g2, g3⟩
      have F := hideIt (left_rd r4)
      have O4 := hideIt (O3.out.trans o4 (fun _ _ f => f.elim))
      have R4' := hideIt r4
      have G := hideIt (And.intro g1 (And.intro g2 g3))
      clear E o4 r4 g1 g2 g3
      go_wp2_with fail
      refine F.out.mono ?_
      rintro e w5 ⟨rfl, o5⟩
      have O5 := hideIt (O4.out.trans o5 (fun _ _ f => f.elim))
      have R5 := hideIt (R4'.out.keep o5 (fun f => f) (fun _ _ f => f))
      have S5 := hideIt o5.size
      clear F o5
      have d2 : decide (8 * (r.length : Int) < (n : Int) * (q : Int)) = true := by rw [hnqI.out]; simp only [decide_eq_true_eq]; omega
      clear hs
      go_wp2
      go_ret2
      exact ⟨_, rfl, World.ownsRow_nil _ _ _ _, O5.out⟩
    · rw [if_neg hs]
      go_enter Tryz.func77, Tryz.ntmps77
      go_wp2_with fail
      refine A.out.mono ?_
      rintro e w1 ⟨rfl, v1, h1, _, o1⟩
      have B := hideIt (byte_cur h1)
      rw [sByte_cons] at B
      have O1 := hideIt o1
      clear A o1 h1
      go_wp2_with fail
      refine B.out.mono ?_
      rintro e w2 ⟨rfl, v2, h2, ow2, o2⟩
      simp only [List.drop_succ_cons, List.drop_zero] at h2
      have C := hideIt (Left_cur h2)
      have D := hideIt (bytes_cur h2 r.length)
      rw [sBytes_all] at D
      have O2 := hideIt (O1.out.trans o2 (fun _ _ e => e))
      clear B o2 h2 ow2
      go_wp2_with fail
      refine C.out.mono ?_
      rintro e w2' ⟨rfl, rfl⟩
      clear C
      go_wp2_with fail
      refine D.out.mono ?_
      rintro e w3 ⟨v3, rfl, b3, _, _, v4, _, _, o3⟩
      have E := hideIt (newReader_bs v3 r w3 b3 HRNG.out HLEN.out)
      have O3 := hideIt (O2.out.trans o3 (fun _ _ e => e))
      obtain ⟨a3, c3, e3⟩ := b3.len
      subst e3
      clear D o3 b3
      go_wp2_with fail
      refine E.out.mono ?_
      rintro e w4 ⟨R4, v5, rfl, r4, o4, g1, g2, g3⟩
      have F := hideIt (left_rd r4)
      have O4 := hideIt (O3.out.trans o4 (fun _ _ f => f.elim))
      have R4' := hideIt r4
      have G := hideIt (And.intro g1 (And.intro g2 g3))
      clear E o4 r4 g1 g2 g3
      go_wp2_with fail
      refine F.out.mono ?_
      rintro e w5 ⟨rfl, o5⟩
      have O5 := hideIt (O4.out.trans o5 (fun _ _ f => f.elim))
      have R5 := hideIt (R4'.out.keep o5 (fun f => f) (fun _ _ f => f))
      have S5 := hideIt o5.size
      clear F o5
      have d2 : decide (8 * (r.length : Int) < (n : Int) * (q : Int)) = false := by rw [hnqI.out]; simp only [decide_eq_false_iff_not]; omega
      have HS := hideIt hs
      obtain ⟨i0, hi, hz0, hz1, hz2⟩ := info_parts Tryz.infoU64
      obtain ⟨wm, hmk, hown0, hgr⟩ := run_make_full (P := Tryz.prog) w5 w5.heap.size 39 42 i0 (.int .u64 0) 1 Tryz.underlying39 hi hz0 hz1 .i64 .i64 n (by rw [hz2]; omega) (by unfold maxLen; omega) (Nat.le_refl _)
      rw [show (Value.int .u64 0).cells = #[Value.int .u64 0] from rfl, ← part_zero a q (allBits r) n] at hown0
      have om : Only (fun _ => False) w5 wm := (Only.refl _ _).grown hgr (fun _ _ e => by cases e)
      have START : Hid (RdAt 120 wm R4 v5 r 0 ∧ wm.ownsRow w5.heap.size 42 1 (.slice (some ⟨w5.heap.size, 0, none⟩) n n) n ((part a q (allBits r) n 0).map (Value.int .u64)) ∧ Only (fun j => j = R) w wm) :=
        ⟨R5.out.keep om (fun f => f) (fun _ _ f => f), hown0, O5.out.trans om (fun _ _ f => f.elim)⟩
      have G2 : Hid (R4 < w5.heap.size ∧ (∀ k, v5.ownBlock = some k → k < w5.heap.size) ∧ w.heap.size ≤ w5.heap.size ∧ w.heap.size ≤ R4) := by
        have g := G.out
        have s5 := S5.out
        exact ⟨by omega, fun k hk => by have := (g.2.2 k hk).2; omega, O5.out.size, by have := O3.out.size; omega⟩
      obtain ⟨N, hN⟩ : ∃ N, N = w5.heap.size := ⟨_, rfl⟩
      rw [← hN] at hmk START G2
      clear hs hown0 hgr om R5 R4' G S5 O4 O3 O2 O1 hN
      go_wp2
      go_loopw [54] (fun i wr => ∃ k : Nat, k ≤ n ∧ i = .int .i64 k ∧ RdAt 120 wr R4 v5 r (k * q) ∧ wr.ownsRow N 42 1 (.slice (some ⟨N, 0, none⟩) n n) n ((part a q (allBits r) n k).map (Value.int .u64)) ∧ Only (fun j => j = R) w wr) (fun i _ => n - (intOf i).toNat)
      case atStart => exact ⟨0, Nat.zero_le _, rfl, by rw [Nat.zero_mul]; exact START.out.1, START.out.2.1, START.out.2.2⟩
      case round =>
        obtain ⟨k, hk, rfl, hrd, hown, hon⟩ := hrel
        clear START hmk
        have HOWN := hideIt hown
        have HON := hideIt hon
        by_cases hlt : k < n
        · have hkq : k * q + q ≤ 8 * r.length := by
            have h1 : (k + 1) * q ≤ n * q := Nat.mul_le_mul_right q (by omega)
            rw [Nat.add_mul, Nat.one_mul] at h1
            have := HS.out
            omega
          have GT := get_rd hrd (q : Int) (by omega) (by omega) (by omega)
          rw [Int.toNat_natCast] at GT
          have GT := hideIt GT
          have hx : Hid (bnum (((allBits r).drop (k * q)).take q) < 18446744073709551616) := by
            have h1 := bnum_lt (((allBits r).drop (k * q)).take q)
            have h2 : 2 ^ (((allBits r).drop (k * q)).take q).length ≤ 2 ^ 64 := Nat.pow_le_pow_right (by omega) (by rw [List.length_take]; omega)
            have h3 : (2 : Nat) ^ 64 = 18446744073709551616 := by decide
            simp only [Hid]; omega
          have dlt : decide ((k : Int) < (n : Int)) = true := by simp; omega
          clear hrd hkq hown hon
          go_wp2_with fail
          refine GT.out.mono ?_
          rintro e w6 ⟨rfl, r6, o6⟩
          have own6 := o6.own HOWN.out (fun j hj => by
            have e1 : j = N := by simp [Value.ownBlock] at hj; exact hj.symm
            have := G2.out.1
            omega)
          have ck : w6.cell? ⟨N, k, none⟩ = some (.int .u64 ((part a q (allBits r) n k).getD k 0)) := by
            rw [own6.cellAt k (by omega), List.getElem?_map, List.getElem?_eq_getElem (by rw [part_len _ _ _ _ _ hk]; exact hlt), List.getD_eq_getElem?_getD, List.getElem?_eq_getElem (by rw [part_len _ _ _ _ _ hk]; exact hlt)]
            rfl
          have fk : w6.frozen? ⟨N, k, none⟩ = false := own6.frozenAt _
          have hstep : Hid (((part a q (allBits r) n k).map (Value.int .u64)).set k (.int .u64 (((a + bnum (((allBits r).drop (k * q)).take q)) % 18446744073709551616 : Nat) : Int)) = (part a q (allBits r) n (k + 1)).map (Value.int .u64)) := by
            simp only [Hid]; rw [← List.map_set, part_step a q (allBits r) n k hlt]
          have OWN6 := hideIt own6
          have R6 := hideIt r6
          have O6 := hideIt o6
          obtain ⟨x, hx2⟩ : ∃ x, x = bnum (((allBits r).drop (k * q)).take q) := ⟨_, rfl⟩
          rw [← hx2] at hx hstep ⊢
          have hxx := hx.out
          obtain ⟨z, hz⟩ : ∃ z, z = (part a q (allBits r) n k).getD k 0 := ⟨_, rfl⟩
          rw [← hz] at ck
          clear GT own6 r6 o6 hx2 hz hx
          go_wp2
          go_roundw
          case rel =>
            have hv : IntKind.u64.wrap ((a : Int) + (x : Int)) = (((a + x) % 18446744073709551616 : Nat) : Int) := by rw [IntKind.wrap_u64]; omega
            rw [hv]
            have g := G2.out
            have oN : Only (fun j => j = N) w6 (w6.setCell ⟨N, k, none⟩ (.int .u64 (((a + x) % 18446744073709551616 : Nat) : Int))) := (Only.refl (fun j => j = N) w6).setCell (fun _ => rfl) _
            refine ⟨k + 1, by omega, by simp, ?_, ?_, ?_⟩
            · rw [Nat.add_mul, Nat.one_mul]
              exact R6.out.keep oN (by omega) (fun j hj => by have := g.2.1 j hj; omega)
            · have h1 := (OWN6.out.stored k (.int .u64 (((a + x) % 18446744073709551616 : Nat) : Int))).1
              rw [hstep.out] at h1
              exact h1
            · exact (HON.out.trans O6.out (fun i hi e => by omega)).setCell (fun hb => by simp only at hb; omega) _
          case measure => simp [intOf]; omega
        · obtain rfl : k = n := by omega
          have dlt : decide ((k : Int) < (k : Int)) = false := by simp
          clear hown hon hrd
          go_wp2
          go_ret2
          refine ⟨_, rfl, ?_, HON.out⟩
          have h1 := own_low HOWN.out G2.out.2.2.1
          rw [part_all] at h1
          rw [nums_length]
          exact h1
end Go.Proofs.YtgbimghhdbmjiaaGreat

/- bytes.Equal: are two slices of bytes the same? -/
namespace Go.Proofs.YtgbimghhdbmjiaaGreat
open Go.RowKit

theorem nums_inj : ∀ (xs ys : List Int), (∀ x ∈ xs, 0 ≤ x ∧ x ≤ 255) → (∀ y ∈ ys, 0 ≤ y ∧ y ≤ 255) → (xs.map fun n => UInt8.ofNat n.toNat) = (ys.map fun n => UInt8.ofNat n.toNat) → xs = ys
  | [], [], _, _, _ => rfl
  | [], y :: ys, _, _, h => by simp at h
  | x :: xs, [], _, _, h => by simp at h
  | x :: xs, y :: ys, hx, hy, h => by
    simp only [List.map_cons, List.cons.injEq] at h
    have h1 := hx x List.mem_cons_self
    have h2 := hy y List.mem_cons_self
    have e : x.toNat % 256 = y.toNat % 256 := by
      have := congrArg UInt8.toNat h.1
      simpa using this
    have e2 : x = y := by omega
    rw [e2, nums_inj xs ys (fun a ha => hx a (List.mem_cons_of_mem _ ha)) (fun a ha => hy a (List.mem_cons_of_mem _ ha)) h.2]
theorem str_same (xs ys : List Int) (hx : ∀ x ∈ xs, 0 ≤ x ∧ x ≤ 255) (hy : ∀ y ∈ ys, 0 ≤ y ∧ y ≤ 255) : ((strOfNums xs).toList == (strOfNums ys).toList) = decide (xs = ys) := by
  rw [Lib.strOfNums_toList, Lib.strOfNums_toList]
  by_cases h : xs = ys
  · subst h; simp
  · rw [decide_eq_false h]
    have : Lib.bytesOf xs ≠ Lib.bytesOf ys := fun e => h (nums_inj xs ys hx hy e)
    simp [this]
theorem str_of (src dst e : TypeId) (va : Value) (xs : List Int) (w : World) (h : Bs .u8 w va xs) (hs : Tryz.prog.underlying src = some (.slice e)) (he : Tryz.prog.underlying e = some (.int .u8)) (hd : Tryz.prog.underlying dst = some .string) :
    (convert src dst va).run Tryz.prog w = .ok (.string (strOfNums xs)) w := by
  obtain ⟨ao, cap, rfl, hc, hr⟩ := h
  by_cases h0 : xs = []
  · subst h0
    exact run_convert_bytes_zero w src e hs he ao cap dst hd
  · obtain ⟨b, off, rfl, hcell⟩ := hr h0
    exact run_convert_bytes_arg (P := Tryz.prog) w src e hs he b off _ cap xs rfl hcell dst hd

set_option maxHeartbeats 400000 in
set_option maxRecDepth 100000 in
theorem equal_bs (va vb : Value) (xs ys : List Int) (w : World) (ha : Bs .u8 w va xs) (hb : Bs .u8 w vb ys) (hx : ∀ x ∈ xs, 0 ≤ x ∧ x ≤ 255) (hy : ∀ y ∈ ys, 0 ≤ y ∧ y ≤ 255) :
    Calls Tryz.prog 14 #[va, vb] w fun e w' => e = .returned (.bool (decide (xs = ys))) ∧ w = w' := by
  have h1 := str_of 22 9 5 va xs w ha Tryz.underlying22 Tryz.underlying5 Tryz.underlying9
  have h2 := str_of 22 9 5 vb ys w hb Tryz.underlying22 Tryz.underlying5 Tryz.underlying9
  rw [← str_same xs ys hx hy]
  clear ha hb hx hy
  go_enter Tryz.func14, Tryz.ntmps14
  go_wp2
  go_ret
  exact ⟨rfl, rfl⟩
end Go.Proofs.YtgbimghhdbmjiaaGreat

/- Package forpack's Unpack. -/
namespace Go.Proofs.YtgbimghhdbmjiaaGreat
open Go.RowKit

theorem freads_bs {w : World} {R : Nat} {v : Value} {ys : List Int} (h : CurAt 51 w R v ys) (n : Nat) (hn : n ≤ 65536) :
    Calls Tryz.prog 77 #[.pointer (some ⟨R, 0, none⟩), .int .i64 n] w fun e w' => ∃ v', e = .returned (.tuple #[v', .int .i64 (rdl ys n).1]) ∧ w'.ownsRow w.heap.size 42 1 v' (rdl ys n).2.length ((rdl ys n).2.map (Value.int .u64)) ∧ Only (fun k => k = R) w w' := by
  rcases parse ys h.rng with ⟨c, hr, hc⟩ | ⟨a, ha, rfl⟩ | ⟨a, y, r, ha, rfl⟩
  · rw [rdl_err n hr (by omega)]
    exact (read_err h n hr hc).mono fun e w' ⟨h1, h2⟩ => ⟨_, h1, World.ownsRow_nil _ _ _ _, h2⟩
  · rw [rdl_none a n ha]
    exact (read_none h n ha).mono fun e w' ⟨h1, h2⟩ => ⟨_, h1, World.ownsRow_nil _ _ _ _, h2⟩
  · exact read_at h ha hn

set_option maxHeartbeats 400000 in
set_option maxRecDepth 100000 in
theorem unpack_arg (v : Value) (n : Int) (w : World) (h : n < 0 ∨ 65536 < n) :
    Calls Tryz.prog 46 #[v, .int .i64 n] w fun e w' => e = .returned (.tuple #[.slice none 0 0, .int .i64 1]) ∧ w = w' := by
  by_cases h0 : n < 0
  · have d0 : decide (n < 0) = true := decide_eq_true h0
    clear h
    go_enter Tryz.func46, Tryz.ntmps46
    go_wp2
    go_ret2
    exact ⟨rfl, rfl⟩
  · have h8 : 65536 < n := by omega
    have d0 : decide (n < 0) = false := decide_eq_false h0
    have d1 : decide (65536 < n) = true := decide_eq_true h8
    clear h
    go_enter Tryz.func46, Tryz.ntmps46
    go_wp2
    go_ret2
    exact ⟨rfl, rfl⟩

set_option maxHeartbeats 1000000 in
set_option maxRecDepth 100000 in
theorem unpack_nat (v : Value) (ys : List Int) (n : Nat) (w : World) (h : Bs .u8 w v ys) (hr : ∀ y ∈ ys, 0 ≤ y ∧ y ≤ 255) (hl : ys.length ≤ 1000000000000) (hn : n ≤ 65536) :
    Calls Tryz.prog 46 #[v, .int .i64 n] w fun e w' => ∃ v', e = .returned (.tuple #[v', .int .i64 (UN ys n).1]) ∧ w'.ownsRow w.heap.size 42 1 v' (UN ys n).2.length ((UN ys n).2.map (Value.int .u64)) ∧ Only (fun _ => False) w w' := by
  have A := hideIt (new_bs v ys w h hr hl)
  have HB := hideIt h
  have HR := hideIt hr
  obtain ⟨ao, cap, rfl⟩ := h.len
  have d0 : decide ((n : Int) < 0) = false := by simp
  have d1 : decide (65536 < (n : Int)) = false := decide_eq_false (by omega)
  obtain ⟨m, hm⟩ : ∃ m, m = ys.length := ⟨_, rfl⟩
  rw [← hm] at A HB ⊢
  clear h hr hl hm
  have hun : UN ys n = if (rdl ys n).1 ≠ 0 then ((rdl ys n).1, []) else if PK (rdl ys n).2 = ys then (0, (rdl ys n).2) else (3, []) := by
    unfold UN; rw [if_neg (by omega), Int.toNat_natCast]
  have HRU := rdl_u64 ys n
  have HRL : (rdl ys n).1 = 0 → (rdl ys n).2.length = n := fun h0 => rdl_len (b := ys) (n := n) (l := (rdl ys n).2) (by rw [← h0])
  have FR : Hid (∀ (w : World) (R : Nat) (v : Value), CurAt 51 w R v ys → Calls Tryz.prog 77 #[.pointer (some ⟨R, 0, none⟩), .int .i64 n] w fun e w' => ∃ v', e = .returned (.tuple #[v', .int .i64 (rdl ys n).1]) ∧ w'.ownsRow w.heap.size 42 1 v' (rdl ys n).2.length ((rdl ys n).2.map (Value.int .u64)) ∧ Only (fun k => k = R) w w') :=
    fun w R v h => freads_bs h n hn
  rw [hun]
  clear hun
  generalize rdl ys n = p at *
  obtain ⟨c, l⟩ := p
  simp only at HRU HRL FR ⊢
  by_cases he : c ≠ 0
  · rw [if_pos he]
    have d2 : (c != 0) = true := by simpa using he
    clear HRL he
    go_enter Tryz.func46, Tryz.ntmps46
    go_wp2_with fail
    refine A.out.mono ?_
    rintro e w1 ⟨R, v1, rfl, c1, o1, g1, g2, g3⟩
    have B := hideIt (FR.out w1 R v1 c1)
    have O1 := hideIt o1
    have G1 := hideIt g1
    clear A c1 o1 g1 g2 g3
    go_wp2_with fail
    refine B.out.mono ?_
    rintro e w2 ⟨v2, rfl, own2, o2⟩
    have O2 := hideIt (O1.out.trans o2 (fun i hi e => by have := G1.out; omega))
    obtain ⟨a2, c2, e2⟩ := (Bs.of_own own2).len
    subst e2
    clear B own2 o2
    go_wp2
    go_ret2
    exact ⟨_, rfl, World.ownsRow_nil _ _ _ _, O2.out⟩
  · obtain rfl : c = 0 := Decidable.of_not_not he
    rw [if_neg he]
    have hlen := hideIt (HRL rfl)
    clear he HRL
    by_cases hs : PK l = ys
    · rw [if_pos hs]
      have HS := hideIt hs
      clear hs
      go_enter Tryz.func46, Tryz.ntmps46
      go_wp2_with fail
      refine A.out.mono ?_
      rintro e w1 ⟨R, v1, rfl, c1, o1, g1, g2, g3⟩
      have B := hideIt (FR.out w1 R v1 c1)
      have O1 := hideIt o1
      have G1 := hideIt g1
      clear A c1 o1 g1 g2 g3
      go_wp2_with fail
      refine B.out.mono ?_
      rintro e w2 ⟨v2, rfl, own2, o2⟩
      have O2 := hideIt (O1.out.trans o2 (fun i hi e => by have := G1.out; omega))
      have C := hideIt (pack_bs v2 l w2 (Bs.of_own own2) HRU (by have := hlen.out; omega))
      have OWN2 := hideIt own2
      have S1 := hideIt O1.out.size
      obtain ⟨a2, c2, e2⟩ := (Bs.of_own own2).len
      subst e2
      clear B own2 o2
      go_wp2_with fail
      refine C.out.mono ?_
      rintro e w3 ⟨v3, rfl, own3, o3⟩
      have O3 := hideIt (O2.out.trans o3 (fun _ _ f => f))
      have D := equal_bs v3 (.slice ao m cap) (PK l) ys w3 (Bs.of_own own3) (HB.out.keep O3.out (fun _ _ f => f)) (PK_rng HRU) HR.out
      rw [decide_eq_true HS.out] at D
      have D := hideIt D
      have OWN3 := hideIt (o3.own OWN2.out (fun _ _ f => f))
      obtain ⟨a3, c3, e3⟩ := (Bs.of_own own3).len
      subst e3
      clear C own3 o3
      go_wp2_with fail
      refine D.out.mono ?_
      rintro e w4 ⟨rfl, rfl⟩
      clear D
      go_wp2
      go_ret2
      exact ⟨_, rfl, own_low OWN3.out S1.out, O3.out⟩
    · rw [if_neg hs]
      have HS := hideIt hs
      clear hs
      go_enter Tryz.func46, Tryz.ntmps46
      go_wp2_with fail
      refine A.out.mono ?_
      rintro e w1 ⟨R, v1, rfl, c1, o1, g1, g2, g3⟩
      have B := hideIt (FR.out w1 R v1 c1)
      have O1 := hideIt o1
      have G1 := hideIt g1
      clear A c1 o1 g1 g2 g3
      go_wp2_with fail
      refine B.out.mono ?_
      rintro e w2 ⟨v2, rfl, own2, o2⟩
      have O2 := hideIt (O1.out.trans o2 (fun i hi e => by have := G1.out; omega))
      have C := hideIt (pack_bs v2 l w2 (Bs.of_own own2) HRU (by have := hlen.out; omega))
      have OWN2 := hideIt own2
      have S1 := hideIt O1.out.size
      obtain ⟨a2, c2, e2⟩ := (Bs.of_own own2).len
      subst e2
      clear B own2 o2
      go_wp2_with fail
      refine C.out.mono ?_
      rintro e w3 ⟨v3, rfl, own3, o3⟩
      have O3 := hideIt (O2.out.trans o3 (fun _ _ f => f))
      have D := equal_bs v3 (.slice ao m cap) (PK l) ys w3 (Bs.of_own own3) (HB.out.keep O3.out (fun _ _ f => f)) (PK_rng HRU) HR.out
      rw [decide_eq_false HS.out] at D
      have D := hideIt D
      have OWN3 := hideIt (o3.own OWN2.out (fun _ _ f => f))
      obtain ⟨a3, c3, e3⟩ := (Bs.of_own own3).len
      subst e3
      clear C own3 o3
      go_wp2_with fail
      refine D.out.mono ?_
      rintro e w4 ⟨rfl, rfl⟩
      clear D
      go_wp2
      go_ret2
      exact ⟨_, rfl, World.ownsRow_nil _ _ _ _, O3.out⟩

theorem unpack_bs (v : Value) (ys : List Int) (n : Int) (w : World) (h : Bs .u8 w v ys) (hr : ∀ y ∈ ys, 0 ≤ y ∧ y ≤ 255) (hl : ys.length ≤ 1000000000000) :
    Calls Tryz.prog 46 #[v, .int .i64 n] w fun e w' => ∃ v', e = .returned (.tuple #[v', .int .i64 (UN ys n).1]) ∧ w'.ownsRow w.heap.size 42 1 v' (UN ys n).2.length ((UN ys n).2.map (Value.int .u64)) ∧ Only (fun _ => False) w w' := by
  by_cases hn : n < 0 ∨ 65536 < n
  · have e : UN ys n = (1, []) := by unfold UN; rw [if_pos hn]
    rw [e]
    exact (unpack_arg v n w hn).mono fun e w' ⟨h1, h2⟩ => ⟨_, h1, World.ownsRow_nil _ _ _ _, by rw [← h2]; exact Only.refl _ _⟩
  · obtain ⟨m, rfl⟩ := Int.eq_ofNat_of_zero_le (show 0 ≤ n by omega)
    exact unpack_nat v ys m w h hr hl (by omega)
end Go.Proofs.YtgbimghhdbmjiaaGreat

/- Contracts of package cursor: Fix, and Block of bytes. -/
namespace Go.Proofs.YtgbimghhdbmjiaaGreat
open Go.RowKit

/-- byte i of a number, the lowest one being 0 -/
def fixB (v : Int) (i : Nat) : Int := v / 2 ^ (8 * i) % 256
/-- n bytes, of which the k last are written -/
def fixAt (v : Int) (n k : Nat) : List Int := (List.range n).map fun j => if n ≤ j + k then fixB v (n - 1 - j) else 0
def fixL (v : Int) (n : Nat) : List Int := (List.range n).map fun j => fixB v (n - 1 - j)
theorem fixAt_len (v : Int) (n k : Nat) : (fixAt v n k).length = n := by simp [fixAt]
theorem fixL_len (v : Int) (n : Nat) : (fixL v n).length = n := by simp [fixL]
theorem fixAt_zero (v : Int) (n : Nat) : (fixAt v n 0).map (Value.int .u8) = (madeCells #[Value.int .u8 0] (n * 1)).toList := by
  apply List.ext_getElem?
  intro i
  by_cases h : i < n
  · simp [fixAt, madeCells, h, Nat.mod_one]
    omega
  · simp [fixAt, madeCells, h]
theorem fixAt_all (v : Int) (n : Nat) : fixAt v n n = fixL v n := by
  unfold fixAt fixL
  apply List.map_congr_left
  intro j _
  rw [if_pos (by omega)]
theorem fixAt_step (v : Int) (n k : Nat) (h : k < n) : (fixAt v n k).set (n - 1 - k) (fixB v k) = fixAt v n (k + 1) := by
  apply List.ext_getElem?
  intro i
  rw [List.getElem?_set, fixAt_len]
  by_cases hi : i < n
  · by_cases he : n - 1 - k = i
    · subst he
      rw [if_pos rfl, if_pos hi]
      simp only [fixAt, List.getElem?_map, List.getElem?_range hi, Option.map_some]
      rw [if_pos (by omega), show n - 1 - (n - 1 - k) = k by omega]
    · rw [if_neg he]
      simp only [fixAt, List.getElem?_map, List.getElem?_range hi, Option.map_some]
      by_cases h1 : n ≤ i + k
      · rw [if_pos h1, if_pos (by omega)]
      · rw [if_neg h1, if_neg (by omega)]
  · rw [if_neg (by omega), List.getElem?_eq_none (by rw [fixAt_len]; omega), List.getElem?_eq_none (by rw [fixAt_len]; omega)]
theorem fixB_range (v : Int) (i : Nat) : 0 ≤ fixB v i ∧ fixB v i ≤ 255 := by unfold fixB; omega
theorem fixL_range (v : Int) (n : Nat) : ∀ y ∈ fixL v n, 0 ≤ y ∧ y ≤ 255 := by
  intro y hy
  simp only [fixL, List.mem_map] at hy
  obtain ⟨j, _, rfl⟩ := hy
  exact fixB_range _ _

set_option maxHeartbeats 400000 in
set_option maxRecDepth 100000 in
theorem fix_none (v n : Int) (w : World) (h : n < 0 ∨ 8 < n) : Calls Tryz.prog 69 #[.int .u64 v, .int .i64 n] w fun e w' => e = .returned (.slice none 0 0) ∧ w = w' := by
  by_cases h0 : n < 0
  · clear h
    go_enter Tryz.func69, Tryz.ntmps69
    go_wp2
    go_ret
    exact ⟨rfl, rfl⟩
  · have h8 : 8 < n := by omega
    have d0 : decide (n < 0) = false := decide_eq_false h0
    clear h
    go_enter Tryz.func69, Tryz.ntmps69
    go_wp2
    go_ret
    exact ⟨rfl, rfl⟩

set_option maxHeartbeats 400000 in
set_option maxRecDepth 100000 in
/-- A NUMBER in so many bytes: new memory. -/
theorem fix_any (v : Int) (n : Nat) (w : World) (h : n ≤ 8) :
    Calls Tryz.prog 69 #[.int .u64 v, .int .i64 n] w fun e w' => ∃ u, e = .returned u ∧ w'.ownsRow w.heap.size 5 1 u (fixL v n).length ((fixL v n).map (Value.int .u8)) ∧ Only (fun _ => False) w w' := by
  obtain ⟨i0, hi, hz0, hz1, hz2⟩ := info_parts Tryz.infoU8
  obtain ⟨wm, hmk, hown0, hgr⟩ := run_make_full (P := Tryz.prog) w w.heap.size 22 5 i0 (.int .u8 0) 1 Tryz.underlying22 hi hz0 hz1 .i64 .i64 n (by rw [hz2]; omega) (by unfold maxLen; omega) (Nat.le_refl _)
  have START : Hid (wm.ownsRow w.heap.size 5 1 (.slice (some ⟨w.heap.size, 0, none⟩) n n) n ((fixAt v n 0).map (Value.int .u8)) ∧ Only (fun _ => False) w wm) := by
    rw [show (Value.int .u8 0).cells = #[Value.int .u8 0] from rfl] at hown0
    rw [fixAt_zero]
    exact ⟨hown0, (Only.refl _ _).grown hgr (fun _ _ e => by cases e)⟩
  clear hown0 hgr
  have d0 : decide ((n : Int) < 0) = false := by simp
  have d8 : decide (8 < (n : Int)) = false := decide_eq_false (by omega)
  obtain ⟨N, hN⟩ : ∃ N, N = w.heap.size := ⟨_, rfl⟩
  rw [← hN] at hmk START
  rw [← hN]
  have HN := hideIt hN
  clear hN
  go_enter Tryz.func69, Tryz.ntmps69
  go_wp2
  go_loopw [17] (fun i wr => ∃ k : Nat, k ≤ n ∧ i = .int .i64 k ∧ wr.ownsRow N 5 1 (.slice (some ⟨N, 0, none⟩) n n) n ((fixAt v n k).map (Value.int .u8)) ∧ Only (fun _ => False) w wr) (fun i _ => n - (intOf i).toNat)
  case atStart => exact ⟨0, Nat.zero_le _, rfl, START.out.1, START.out.2⟩
  case round =>
    obtain ⟨k, hk, rfl, hown, hon⟩ := hrel
    clear START hmk
    by_cases hlt : k < n
    · have hcell : ∃ y, wr.cell? ⟨N, n - 1 - k, none⟩ = some (.int .u8 y) := by
        refine ⟨(fixAt v n k).getD (n - 1 - k) 0, ?_⟩
        rw [hown.cellAt (n - 1 - k) (by omega), List.getElem?_map, List.getElem?_eq_getElem (by rw [fixAt_len]; omega), List.getD_eq_getElem?_getD, List.getElem?_eq_getElem (by rw [fixAt_len]; omega)]
        rfl
      obtain ⟨y, hy⟩ := hcell
      have hfr : wr.frozen? ⟨N, n - 1 - k, none⟩ = false := hown.frozenAt _
      have i0 : (0 : Int) ≤ (n : Int) - 1 - k := by omega
      have i1 : (n : Int) - 1 - k < (n : Int) := by omega
      have it : ((n : Int) - 1 - k).toNat = n - 1 - k := by omega
      have H := hideIt (And.intro hown hon)
      clear hown hon
      go_wp2
      go_roundw
      case rel =>
        refine ⟨k + 1, by omega, by go_num, ?_, ?_⟩
        · have h1 := (H.out.1.stored (n - 1 - k) (.int .u8 (fixB v k))).1
          rw [← List.map_set, fixAt_step v n k hlt] at h1
          exact h1
        · refine H.out.2.setCell (fun hb => ?_) _
          have := HN.out
          simp only at hb
          omega
      case measure => simp [intOf]; omega
    · have hkn : k = n := by omega
      subst hkn
      have H := hideIt (And.intro hown hon)
      clear hown hon
      go_wp2
      go_ret
      rw [fixL_len, ← fixAt_all]
      exact ⟨_, rfl, H.out⟩

/-- bytes behind their number -/
def blk (b : List Int) : List Int := gs b.length ++ b
theorem blk_len (b : List Int) (h : b.length ≤ 1000000) : (blk b).length ≤ b.length + 10 := by
  have := gs_le10 (v := b.length) (by omega)
  simp only [blk, List.length_append]
  omega
theorem blk_range (b : List Int) (hr : ∀ y ∈ b, 0 ≤ y ∧ y ≤ 255) : ∀ y ∈ blk b, 0 ≤ y ∧ y ≤ 255 := by
  intro y hy
  simp only [blk, List.mem_append] at hy
  rcases hy with hy | hy
  · exact gs_range _ y hy
  · exact hr y hy

end Go.Proofs.YtgbimghhdbmjiaaGreat
