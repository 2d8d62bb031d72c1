/- The reference for a list of ints: zigs, other, Way. -/
import Derived.Test.YtgbimghhdbmjiaaGreatG12
import Derived.Test.YtgbimghhdbmjiaaGreatRPa
import Derived.Test.YtgbimghhdbmjiaaGreatREnc2
import Derived.Test.YtgbimghhdbmjiaaGreatRrEn
import Derived.Test.YtgbimghhdbmjiaaGreatDRef
import Derived.Test.YtgbimghhdbmjiaaGreatCRef2
namespace Go.Proofs.YtgbimghhdbmjiaaGreat
open Go.RowKit

set_option maxHeartbeats 800000 in
set_option maxRecDepth 100000 in
theorem rzigs_any (v : Value) (l : List Int) (w : World) (h : Bs .i64 w v l) (hg : I64s l) (hl : l.length ≤ 65536) :
    Calls Tryz.prog 66 #[v] w fun e w' => ∃ u, e = .returned u ∧ w'.ownsRow w.heap.size 42 1 u (zsn l).length ((zsn l).map (Value.int .u64)) ∧ Only (fun _ => False) w w' := by
  obtain ⟨i0, hi, hz0, hz1, hz2⟩ := info_parts Tryz.infoU64
  have HB := hideIt h
  have HG := hideIt hg
  obtain ⟨ao, cap, rfl⟩ := h.len
  obtain ⟨n, hn⟩ : ∃ n, n = l.length := ⟨_, rfl⟩
  rw [← hn] at hl HB
  rw [← hn]
  have HN := hideIt hn
  clear h hn hg
  go_enter Tryz.func66, Tryz.ntmps66
  go_wp2
  go_loopw [3, 4] (fun s i wr => ∃ k : Nat, k ≤ n ∧ i = .int .i64 k ∧ wr.ownsRow w.heap.size 42 1 s k ((zsn (l.take k)).map (Value.int .u64)) ∧ Only (fun _ => False) w wr) (fun _ i _ => n - (intOf i).toNat)
  case atStart => exact ⟨0, Nat.zero_le _, rfl, World.ownsRow_nil _ _ _ _, Only.refl _ _⟩
  case round =>
    obtain ⟨k, hk, rfl, hown, hon⟩ := hrel
    have HOWN := hideIt hown
    have HON := hideIt hon
    by_cases hlt : k < n
    · have dlt : decide ((k : Int) < (n : Int)) = true := by simp; omega
      have hkl : k < l.length := by rw [← HN.out]; exact hlt
      obtain ⟨b, off, cap', e1, hc0⟩ := (HB.out.past hon).at k hkl
      have ea : ao = some ⟨b, off, none⟩ := by simp at e1; exact e1.1
      subst ea
      clear e1
      have hx := HG.out (l.getD k 0) (getD_mem0 l k hkl)
      have HST : Hid ((zsn (l.take (k + 1))).map (Value.int .u64) = (zsn (l.take k)).map (Value.int .u64) ++ [.int .u64 (zig (l.getD k 0))]) := by
        simp only [Hid]; rw [take_snoc l k hkl]; simp [zsn]
      have ZK := hideIt (rzig_any (l.getD k 0) wr hx.1 hx.2)
      generalize l.getD k 0 = z at *
      have own2 := HOWN.out
      have hsz := HON.out.size
      clear hown hon HB HG hkl hx
      go_wp2_with fail
      refine ZK.out.mono ?_
      rintro e w2 ⟨rfl, rfl⟩
      clear ZK
      generalize zig z = q at *
      go_wp2_with (at_builtin; refine wpList_append_lies _ rfl _ _ _ rfl w.heap.size 42 i0 (.int .u64 0) 1 8 Tryz.underlying39 hi hz0 hz1 hz2 rfl (by omega) _ k _ rfl (own2.alloc _) ⟨wr.heap.size, 0, none⟩ 1 1 [.int .u64 q] rfl rfl ?c1 ?c2 (by omega) ?c3 ?c4 ?c5 (wr.heap.size + 1) (by simp) ?_)
      case c1 => exact cell_one_new _ _ _
      case c2 => intro u hu; simp at hu; subst hu; rfl
      case c3 => unfold maxLen; omega
      case c4 => omega
      case c5 => simp; omega
      intro gg cap1 w3 hown1 hgrow hat hg1
      have o3 := hideIt ((HON.out.alloc _).grown hgrow (fun p hp0 hp => absurd (own2.lt p hp).1 (by omega)))
      have own3 : Hid (w3.ownsRow w.heap.size 42 1 (.slice (some ⟨gg, 0, none⟩) (k + 1) cap1) (k + 1) ((zsn (l.take (k + 1))).map (Value.int .u64))) := by
        simp only [Hid]
        rw [HST.out]; exact hown1
      clear own2 hown1 hgrow hat
      go_wp2
      go_roundw
      case rel => exact ⟨k + 1, by omega, by go_num, own3.out, o3.out⟩
      case measure => simp [intOf]; omega
    · obtain rfl : k = n := by omega
      have dlt : decide ((k : Int) < (k : Int)) = false := by simp
      have F : Hid (wr.ownsRow w.heap.size 42 1 u3 (zsn l).length ((zsn l).map (Value.int .u64))) := by
        have h1 := HOWN.out
        rw [HN.out, List.take_length] at h1
        simp only [Hid]
        rw [zsn_length]; exact h1
      clear hown hon
      go_wp2
      go_ret
      exact ⟨_, rfl, F.out, HON.out⟩

theorem rencode_all6 (v : Value) (xs : List Int) (w : World) (h : Bs .u64 w v xs) (hu : U64 xs) (hl : xs.length ≤ 65536) :
    Calls Tryz.prog 63 #[v] w fun e w' => ∃ v', e = .returned (.tuple #[v', .int .i64 (ENC xs).2]) ∧ w'.ownsRow w.heap.size 5 1 v' (ENC xs).1.length ((ENC xs).1.map (Value.int .u8)) ∧ Only (fun _ => False) w w' := by
  unfold ENC
  rw [if_neg (by omega)]
  by_cases hs : small 60 xs = true
  · rw [if_pos hs]
    exact rencode_bs v xs w h (small_up hs (fun x hx => (hu x hx).1)) hl
  · rw [if_neg hs]
    refine (rencode_arg v xs w h hu hl (by simpa using hs)).mono ?_
    rintro e w' ⟨rfl, rfl⟩
    exact ⟨_, rfl, World.ownsRow_nil _ _ _ _, Only.refl _ _⟩
set_option maxHeartbeats 400000 in
set_option maxRecDepth 100000 in
theorem roth_two (v : Value) (z : List Int) (w : World) (h : Bs .u64 w v z) (hu : U64 z) (hl : z.length ≤ 700) :
    Calls Tryz.prog 68 #[v, .int .i64 2] w fun e w' => ∃ u, e = .returned (.tuple #[u, .int .i64 (WOTH z 2).2]) ∧ w'.ownsRow w.heap.size 5 1 u (WOTH z 2).1.length ((WOTH z 2).1.map (Value.int .u8)) ∧ Only (fun _ => False) w w' := by
  have A := hideIt (rpack_bs v z w h hu hl)
  obtain ⟨ao, cap, rfl⟩ := h.len
  clear h hu hl
  go_enter Tryz.func68, Tryz.ntmps68
  go_wp2_with fail
  refine A.out.mono ?_
  rintro e w1 ⟨u, rfl, own1, o1⟩
  have F := hideIt (And.intro own1 o1)
  obtain ⟨f1, c1, e1⟩ := (Bs.of_own own1).len
  subst e1
  clear A own1 o1
  go_wp2
  try rw [Exit.noGoto_ret]
  go_ret2
  exact ⟨_, rfl, F.out.1, F.out.2⟩
set_option maxHeartbeats 400000 in
set_option maxRecDepth 100000 in
theorem roth_three (v : Value) (z : List Int) (w : World) (h : Bs .u64 w v z) (hu : U64 z) (hl : z.length ≤ 700) :
    Calls Tryz.prog 68 #[v, .int .i64 3] w fun e w' => ∃ u, e = .returned (.tuple #[u, .int .i64 (WOTH z 3).2]) ∧ w'.ownsRow w.heap.size 5 1 u (WOTH z 3).1.length ((WOTH z 3).1.map (Value.int .u8)) ∧ Only (fun _ => False) w w' := by
  have A := hideIt (rencode_all6 v z w h hu (by omega))
  obtain ⟨ao, cap, rfl⟩ := h.len
  clear h hu hl
  go_enter Tryz.func68, Tryz.ntmps68
  go_wp2_with fail
  refine A.out.mono ?_
  rintro e w1 ⟨u, rfl, own1, o1⟩
  have F := hideIt (And.intro own1 o1)
  obtain ⟨f1, c1, e1⟩ := (Bs.of_own own1).len
  subst e1
  clear A own1 o1
  go_wp2
  try rw [Exit.noGoto_ret]
  go_ret2
  exact ⟨_, rfl, F.out.1, F.out.2⟩
set_option maxHeartbeats 400000 in
set_option maxRecDepth 100000 in
theorem roth_four (v : Value) (z : List Int) (w : World) (h : Bs .u64 w v z) (hu : U64 z) (hl : z.length ≤ 700) :
    Calls Tryz.prog 68 #[v, .int .i64 4] w fun e w' => ∃ u, e = .returned (.tuple #[u, .int .i64 (WOTH z 4).2]) ∧ w'.ownsRow w.heap.size 5 1 u (WOTH z 4).1.length ((WOTH z 4).1.map (Value.int .u8)) ∧ Only (fun _ => False) w w' := by
  have A := hideIt (run_rencode_bs v z w h hu (by omega))
  obtain ⟨ao, cap, rfl⟩ := h.len
  clear h hu hl
  go_enter Tryz.func68, Tryz.ntmps68
  go_wp2_with fail
  refine A.out.mono ?_
  rintro e w1 ⟨u, rfl, own1, o1⟩
  have F := hideIt (And.intro own1 o1)
  obtain ⟨f1, c1, e1⟩ := (Bs.of_own own1).len
  subst e1
  clear A own1 o1
  go_wp2
  try rw [Exit.noGoto_ret]
  go_ret2
  exact ⟨_, rfl, F.out.1, F.out.2⟩

set_option maxHeartbeats 400000 in
set_option maxRecDepth 100000 in
theorem rway_arg (v : Value) (tag : Int) (w : World) (ht : tag < 0 ∨ 4 < tag) :
    Calls Tryz.prog 34 #[v, .int .i64 tag] w fun e w' => e = .returned (.tuple #[.slice none 0 0, .int .i64 1]) ∧ w = w' := by
  by_cases h0 : tag < 0
  · have d0 : decide (tag < 0) = true := decide_eq_true h0
    clear ht h0
    go_enter Tryz.func34, Tryz.ntmps34
    go_wp2
    try rw [Exit.noGoto_ret]
    go_ret2
    exact ⟨rfl, rfl⟩
  · have d0 : decide (tag < 0) = false := decide_eq_false h0
    have d1 : decide (4 < tag) = true := decide_eq_true (by omega)
    clear ht h0
    go_enter Tryz.func34, Tryz.ntmps34
    go_wp2
    try rw [Exit.noGoto_ret]
    go_ret2
    exact ⟨rfl, rfl⟩
set_option maxHeartbeats 400000 in
set_option maxRecDepth 100000 in
theorem rway_long (v : Value) (l : List Int) (t : Nat) (w : World) (h : Bs .i64 w v l) (hl : 65536 < l.length) (ht : t ≤ 4) :
    Calls Tryz.prog 34 #[v, .int .i64 t] w fun e w' => e = .returned (.tuple #[.slice none 0 0, .int .i64 4]) ∧ w = w' := by
  obtain ⟨ao, cap, rfl⟩ := h.len
  have d0 : decide ((65536 : Int) < l.length) = true := decide_eq_true (by omega)
  have d1 : decide ((t : Int) < 0) = false := decide_eq_false (by omega)
  have d2 : decide (4 < (t : Int)) = false := decide_eq_false (by omega)
  clear h hl ht
  generalize l.length = n at *
  go_enter Tryz.func34, Tryz.ntmps34
  go_wp2
  try rw [Exit.noGoto_ret]
  go_ret2
  exact ⟨rfl, rfl⟩
set_option maxHeartbeats 400000 in
set_option maxRecDepth 100000 in
theorem rway_nil (v : Value) (t : Nat) (w : World) (h : Bs .i64 w v []) (ht : t ≤ 4) :
    Calls Tryz.prog 34 #[v, .int .i64 t] w fun e w' => e = .returned (.tuple #[.slice none 0 0, .int .i64 0]) ∧ w = w' := by
  obtain ⟨ao, cap, e0⟩ := h.len
  rw [List.length_nil] at e0
  subst e0
  have d1 : decide ((t : Int) < 0) = false := decide_eq_false (by omega)
  have d2 : decide (4 < (t : Int)) = false := decide_eq_false (by omega)
  clear h ht
  go_enter Tryz.func34, Tryz.ntmps34
  go_wp2
  try rw [Exit.noGoto_ret]
  go_ret2
  exact ⟨rfl, rfl⟩

set_option maxHeartbeats 800000 in
set_option maxRecDepth 100000 in
theorem rway_zero (v : Value) (l : List Int) (w : World) (h : Bs .i64 w v l) (hl : l.length ≤ 65536) (hp : 0 < l.length) :
    Calls Tryz.prog 34 #[v, .int .i64 0] w fun e w' => ∃ u, e = .returned (.tuple #[u, .int .i64 0]) ∧ w'.ownsRow w.heap.size 5 1 u (fx l).length ((fx l).map (Value.int .u8)) ∧ Only (fun _ => False) w w' := by
  obtain ⟨i0, hi, hz0, hz1, hz2⟩ := info_parts Tryz.infoU8
  have HB := hideIt h
  obtain ⟨ao, cap, rfl⟩ := h.len
  obtain ⟨n, hn⟩ : ∃ n, n = l.length := ⟨_, rfl⟩
  rw [← hn] at hl HB hp
  rw [← hn]
  have HN := hideIt hn
  have d0 : decide ((65536 : Int) < n) = false := decide_eq_false (by omega)
  have d1 : ((n : Int) == 0) = false := by rw [beq_eq_false_iff_ne]; omega
  clear h hn
  go_enter Tryz.func34, Tryz.ntmps34
  go_wp2
  go_loopw [6, 7] (fun s i wr => ∃ k : Nat, k ≤ n ∧ i = .int .i64 k ∧ wr.ownsRow w.heap.size 5 1 s (fx (l.take k)).length ((fx (l.take k)).map (Value.int .u8)) ∧ Only (fun _ => False) w wr) (fun _ i _ => n - (intOf i).toNat)
  case atStart => exact ⟨0, Nat.zero_le _, rfl, World.ownsRow_nil _ _ _ _, Only.refl _ _⟩
  case round =>
    obtain ⟨k, hk, rfl, hown, hon⟩ := hrel
    have HOWN := hideIt hown
    have HON := hideIt hon
    by_cases hlt : k < n
    · have dlt : decide ((k : Int) < (n : Int)) = true := by simp; omega
      have hkl : k < l.length := by rw [← HN.out]; exact hlt
      obtain ⟨b, off, cap', e1, hc0⟩ := (HB.out.past hon).at k hkl
      have ea : ao = some ⟨b, off, none⟩ := by simp at e1; exact e1.1
      subst ea
      clear e1
      have HST := hideIt (fx_take l k hkl)
      have HFL : Hid ((fx (l.take k)).length ≤ 8 * n) := by
        simp only [Hid]; rw [fx_length, List.length_take]; omega
      obtain ⟨f1, hf1⟩ : ∃ f1, f1 = fx (l.take (k + 1)) := ⟨_, rfl⟩
      rw [← hf1] at HST
      have HF1 := hideIt hf1
      clear hf1
      generalize fx (l.take k) = f0 at *
      generalize l.getD k 0 = x at *
      clear hown hon HB hkl
      go_wp2_with fail
      refine (rfix_any _ 8 wr (by omega)).mono ?_
      rintro e w4 ⟨u, rfl, own4, o4⟩
      rw [IntKind.wrap_u64] at own4
      have ow := o4.own HOWN.out (fun _ _ f => f)
      have hb4 := Bs.of_own own4
      have NC4 := hideIt (NoCap.of_own own4)
      have HB4 := hideIt hb4
      have hs4 : w.heap.size ≤ w4.heap.size := Nat.le_trans HON.out.size o4.size
      have O4 := hideIt (HON.out.trans o4 (fun _ _ f => f))
      obtain ⟨a4, c4, e4⟩ := hb4.len
      subst e4
      clear o4 own4 HON HOWN hb4
      rw [fixL_len] at HB4 NC4
      go_wp2_with (at_builtin; refine wpList_append_bs _ rfl _ _ _ rfl w.heap.size 5 i0 (.int .u8 0) 1 Tryz.underlying22 hi hz0 hz1 hz2 rfl _ _ _ rfl ow .u8 _ (fixL (x % 18446744073709551616) 8) rfl HB4.out NC4.out ?c3 ?c4 hs4 ?_)
      case c3 => have := HFL.out; rw [fixL_len]; unfold maxLen; omega
      case c4 => have := HFL.out; rw [fixL_len]; omega
      intro v6 w6 own6 hgrow6 _ _
      have OWN6 : Hid (w6.ownsRow w.heap.size 5 1 v6 f1.length (f1.map (Value.int .u8))) := by
        simp only [Hid]; rw [HST.out, List.length_append, List.map_append]; exact own6
      have O6 := hideIt (O4.out.grown hgrow6 (fun k hk e => absurd (ow.lt k e).1 (by omega)))
      clear ow own6 hgrow6
      go_wp2
      go_roundw
      case rel => exact ⟨k + 1, by omega, by go_num, by rw [← HF1.out]; exact OWN6.out, O6.out⟩
      case measure => simp [intOf]; omega
    · obtain rfl : k = n := by omega
      have dlt : decide ((k : Int) < (k : Int)) = false := by simp
      rw [HN.out, List.take_length] at HOWN
      clear hown hon
      go_wp2
      try rw [Exit.noGoto_ret]
      go_ret2
      exact ⟨_, rfl, HOWN.out, HON.out⟩

set_option maxHeartbeats 800000 in
set_option maxRecDepth 100000 in
theorem rway_one (v : Value) (l : List Int) (w : World) (h : Bs .i64 w v l) (nc : NoCap v) (hg : I64s l) (hl : l.length ≤ 65536) (hp : 0 < l.length) :
    Calls Tryz.prog 34 #[v, .int .i64 1] w fun e w' => ∃ u, e = .returned (.tuple #[u, .int .i64 0]) ∧ w'.ownsRow w.heap.size 5 1 u (allG (zsn (D 1 l))).length ((allG (zsn (D 1 l))).map (Value.int .u8)) ∧ Only (fun _ => False) w w' := by
  have DF := hideIt (rdiff_in v l 1 w h nc (by omega) hg (by omega))
  have HDL := hideIt (D_length 1 l)
  have HDG := hideIt (D_i64 hg 1)
  have HZU := hideIt (zD_u64 hg 1)
  obtain ⟨ao, cap, rfl⟩ := h.len
  obtain ⟨n, hn⟩ : ∃ n, n = l.length := ⟨_, rfl⟩
  rw [← hn] at hl hp DF HDL
  rw [← hn]
  have d0 : decide ((65536 : Int) < n) = false := decide_eq_false (by omega)
  have d1 : ((n : Int) == 0) = false := by rw [beq_eq_false_iff_ne]; omega
  clear h hn hg nc
  generalize D 1 l = d at *
  have HZL : Hid ((zsn d).length = n) := by simp only [Hid]; rw [zsn_length]; exact HDL.out
  obtain ⟨z, hz⟩ : ∃ z, z = zsn d := ⟨_, rfl⟩
  rw [← hz] at HZU HZL
  rw [← hz]
  have HZD := hideIt hz
  clear hz
  go_enter Tryz.func34, Tryz.ntmps34
  go_wp2_with fail
  refine DF.out.mono ?_
  rintro e w1 ⟨v1, rfl, own1, o1⟩
  clear DF
  have hb1 : Bs .i64 w1 v1 d := Bs.of_own (by rw [HDL.out]; exact own1)
  have ZG := hideIt (rzigs_any v1 d w1 hb1 HDG.out (by rw [HDL.out]; omega))
  rw [← HZD.out] at ZG
  obtain ⟨a1, cap1, e1⟩ := hb1.len
  rw [HDL.out] at e1
  subst e1
  have HO1 := hideIt o1
  clear own1 o1 hb1
  go_wp2_with fail
  refine ZG.out.mono ?_
  rintro e w2 ⟨v2, rfl, own2, o2⟩
  clear ZG
  have HO2 := hideIt (HO1.out.same o2)
  have HB2 := hideIt (Bs.of_own own2)
  obtain ⟨a2, c2, e2⟩ := HB2.out.len
  rw [HZL.out] at e2
  subst e2
  clear own2 o2
  go_wp2
  go_loopw [6, 12] (fun s i wr => ∃ k : Nat, k ≤ n ∧ i = .int .i64 k ∧ wr.ownsRow w.heap.size 5 1 s (allG (z.take k)).length ((allG (z.take k)).map (Value.int .u8)) ∧ Only (fun _ => False) w2 wr) (fun _ i _ => n - (intOf i).toNat)
  case atStart => exact ⟨0, Nat.zero_le _, rfl, World.ownsRow_nil _ _ _ _, Only.refl _ _⟩
  case round =>
    obtain ⟨k, hk, rfl, hown, hon⟩ := hrel
    have HOWN := hideIt hown
    have HON := hideIt hon
    by_cases hlt : k < n
    · have dlt : decide ((k : Int) < (n : Int)) = true := by simp; omega
      have hkl : k < z.length := by rw [HZL.out]; exact hlt
      obtain ⟨b, off, cap', e1, hc0⟩ := (HB2.out.past hon).at k hkl
      have ea : a2 = some ⟨b, off, none⟩ := by simp at e1; exact e1.1
      subst ea
      clear e1
      have hx := HZU.out (z.getD k 0) (getD_mem0 z k hkl)
      have HST := hideIt (allG_take z k hkl)
      have HFL : Hid ((allG (z.take k)).length ≤ 10 * n) := by
        simp only [Hid]
        have := allG_le z k HZU.out
        rw [HZL.out] at this
        exact this
      have AP := hideIt (rappend_any u6 (allG (z.take k)) (z.getD k 0) wr (Bs.of_own hown) (NoCap.of_own hown) (by have := HFL.out; omega) hx.1 hx.2)
      obtain ⟨a6, c6, e6⟩ := (Bs.of_own hown).len
      subst e6
      obtain ⟨f1, hf1⟩ : ∃ f1, f1 = allG (z.take (k + 1)) := ⟨_, rfl⟩
      rw [← hf1] at HST
      have HF1 := hideIt hf1
      rw [← HST.out] at AP
      clear hf1 HST
      generalize allG (z.take k) = f0 at *
      generalize z.getD k 0 = x at *
      clear hown hon HB2 hkl hx HOWN
      go_wp2_with fail
      refine AP.out.mono ?_
      rintro e w4 ⟨u, rfl, own4, o4⟩
      have OWN4 := hideIt (own_low own4 (Nat.le_trans HO2.out.size HON.out.size))
      have O4 := hideIt (HON.out.same o4)
      clear o4 own4 AP
      go_wp2
      go_roundw
      case rel => exact ⟨k + 1, by omega, by go_num, by rw [← HF1.out]; exact OWN4.out, O4.out⟩
      case measure => simp [intOf]; omega
    · obtain rfl : k = n := by omega
      have dlt : decide ((k : Int) < (k : Int)) = false := by simp
      have F : Hid (wr.ownsRow w.heap.size 5 1 u6 (allG z).length ((allG z).map (Value.int .u8))) := by
        have h1 := HOWN.out
        rw [← HZL.out, List.take_length] at h1
        exact h1
      clear hown hon
      go_wp2
      try rw [Exit.noGoto_ret]
      go_ret2
      exact ⟨_, rfl, F.out, HO2.out.same HON.out⟩

set_option maxHeartbeats 1600000 in
set_option maxRecDepth 100000 in
theorem rway_two (v : Value) (l : List Int) (w : World) (h : Bs .i64 w v l) (nc : NoCap v) (hg : I64s l) (hl : l.length ≤ 700) (hp : 0 < l.length) :
    Calls Tryz.prog 34 #[v, .int .i64 2] w fun e w' => ∃ u, e = .returned (.tuple #[u, .int .i64 (WAY l 2).2]) ∧ w'.ownsRow w.heap.size 5 1 u (WAY l 2).1.length ((WAY l 2).1.map (Value.int .u8)) ∧ Only (fun _ => False) w w' := by
  obtain ⟨i0, hi, hz0, hz1, hz2⟩ := info_parts Tryz.infoU8
  have DF := hideIt (rdiff_in v l 1 w h nc (by omega) hg (by omega))
  have HDL := hideIt (D_length 1 l)
  have HDG := hideIt (D_i64 hg 1)
  have HZU := hideIt (zD_u64 hg 1)
  have WO : Hid (∀ (u : Value) (w2 : World), Bs .u64 w2 u ((zsn (D 1 l)).drop 1) → Calls Tryz.prog 68 #[u, .int .i64 2] w2 fun e w' => ∃ u', e = .returned (.tuple #[u', .int .i64 (WOTH ((zsn (D 1 l)).drop 1) 2).2]) ∧ w'.ownsRow w2.heap.size 5 1 u' (WOTH ((zsn (D 1 l)).drop 1) 2).1.length ((WOTH ((zsn (D 1 l)).drop 1) 2).1.map (Value.int .u8)) ∧ Only (fun _ => False) w2 w') :=
    fun u w2 hb => roth_two u _ w2 hb ((zD_u64 hg _).drop 1) (by rw [List.length_drop, zD_length]; omega)
  have HWL := hideIt (WOTH_len (z := (zsn (D 1 l)).drop 1) ((zD_u64 hg _).drop 1) (by rw [List.length_drop, zD_length]; omega) 2)
  have HWAY : Hid (WAY l 2 = if (WOTH ((zsn (D 1 l)).drop 1) 2).2 ≠ 0 then ([], (WOTH ((zsn (D 1 l)).drop 1) 2).2) else (gs ((zsn (D 1 l)).getD 0 0).toNat ++ (WOTH ((zsn (D 1 l)).drop 1) 2).1, 0)) := by
    simp only [Hid]
    unfold WAY
    rw [if_neg (List.length_pos_iff.1 hp), if_neg (by omega)]
    rfl
  obtain ⟨ao, cap, rfl⟩ := h.len
  obtain ⟨n, hn⟩ : ∃ n, n = l.length := ⟨_, rfl⟩
  rw [← hn] at hl hp DF HDL
  rw [← hn]
  have d0 : decide ((65536 : Int) < n) = false := decide_eq_false (by omega)
  have d1 : ((n : Int) == 0) = false := by rw [beq_eq_false_iff_ne]; omega
  clear h hn hg nc
  generalize WAY l 2 = Wl at *
  generalize D 1 l = d at *
  have HZL : Hid ((zsn d).length = n) := by simp only [Hid]; rw [zsn_length]; exact HDL.out
  generalize hWO : WOTH ((zsn d).drop 1) 2 = W at *
  clear hWO
  obtain ⟨W1, c⟩ := W
  simp only at WO HWL HWAY
  go_enter Tryz.func34, Tryz.ntmps34
  go_wp2_with fail
  refine DF.out.mono ?_
  rintro e w1 ⟨v1, rfl, own1, o1⟩
  clear DF
  have hb1 : Bs .i64 w1 v1 d := Bs.of_own (by rw [HDL.out]; exact own1)
  have ZG := hideIt (rzigs_any v1 d w1 hb1 HDG.out (by rw [HDL.out]; omega))
  obtain ⟨a1, cap1, e1⟩ := hb1.len
  rw [HDL.out] at e1
  subst e1
  have HO1 := hideIt o1
  clear own1 o1 hb1
  go_wp2_with fail
  refine ZG.out.mono ?_
  rintro e w2 ⟨v2, rfl, own2, o2⟩
  clear ZG
  have HO2 := hideIt (HO1.out.same o2)
  have hb2 := Bs.of_own own2
  have HB2 := hideIt hb2
  obtain ⟨a2, c2, e2⟩ := hb2.len
  rw [HZL.out] at e2
  subst e2
  generalize zsn d = z at *
  have hc2 : n ≤ c2 := by
    obtain ⟨ao', cap', e2, hc, _⟩ := hb2
    rw [HZL.out] at hc
    simp at e2
    omega
  have hx := HZU.out (z.getD 0 0) (getD_mem0 z 0 (by rw [HZL.out]; omega))
  obtain ⟨b, off, cap', e4, cell0⟩ := hb2.at 0 (by rw [HZL.out]; omega)
  have ea : a2 = some ⟨b, off, none⟩ := by simp at e4; exact e4.1
  subst ea
  clear e4
  rw [Nat.add_zero] at cell0
  have AP := hideIt (rappend_any (.slice none 0 0) [] (z.getD 0 0) w2 (Bs.nil _ _) NoCap.nil (by simp) hx.1 hx.2)
  have HG10 := hideIt (gs_le10 (v := (z.getD 0 0).toNat) (by omega))
  rw [List.nil_append] at AP
  generalize z.getD 0 0 = x at *
  generalize gs x.toNat = g at *
  clear own2 o2 hb2 hx
  go_wp2_with fail
  refine AP.out.mono ?_
  rintro e w3 ⟨v3, rfl, own3, o3⟩
  clear AP
  have OW3 := hideIt (own_low own3 HO2.out.size)
  have HO3 := hideIt (HO2.out.same o3)
  have HB3 := hideIt (HB2.out.past o3)
  obtain ⟨f3, c3, e3⟩ := (Bs.of_own own3).len
  subst e3
  clear own3 o3 HB2
  have j0 : (1 : Int) ≤ (n : Int) := by omega
  have j1 : (1 : Int) ≤ (c2 : Int) := by omega
  by_cases hcc : c2 = 1
  · subst hcc
    obtain rfl : n = 1 := by omega
    have hb3 : Bs .u64 w3 (.slice (some ⟨b, off, none⟩) 0 0) (z.drop 1) := by have := HB3.out.cut0 (n := 1) (by omega); simpa using this
    have W2 := hideIt (WO.out _ w3 hb3)
    clear hb3
    go_wp2_with fail
    refine W2.out.mono ?_
    rintro e w4 ⟨v4, rfl, own4, o4⟩
    clear W2
    have HO4 := hideIt (HO3.out.same o4)
    have OW4 := hideIt (o4.own OW3.out (fun _ _ f => f))
    have HB4 := hideIt (Bs.of_own own4)
    have NC4 := hideIt (NoCap.of_own own4)
    obtain ⟨f4, c4, e4⟩ := (Bs.of_own own4).len
    subst e4
    have hs4 : w.heap.size ≤ w4.heap.size := HO4.out.size
    clear own4 o4
    by_cases hc : c = 0
    · subst hc
      have ow := OW4.out
      rw [if_neg (by simp)] at HWAY
      obtain ⟨gw, hgw⟩ : ∃ gw, gw = g ++ W1 := ⟨_, rfl⟩
      rw [← hgw] at HWAY
      have HGW := hideIt hgw
      have eW := HWAY.out
      subst eW
      clear hgw HWAY OW4
      go_wp2_with (at_builtin; refine wpList_append_bs _ rfl _ _ _ rfl w.heap.size 5 i0 (.int .u8 0) 1 Tryz.underlying22 hi hz0 hz1 hz2 rfl _ _ _ rfl ow .u8 _ W1 rfl HB4.out NC4.out ?c3 ?c4 hs4 ?_)
      case c3 => have := HWL.out; have := HG10.out; unfold maxLen; omega
      case c4 => have := HWL.out; have := HG10.out; omega
      intro v6 w6 own6 hgrow6 _ _
      have OWN6 : Hid (w6.ownsRow w.heap.size 5 1 v6 gw.length (gw.map (Value.int .u8))) := by
        simp only [Hid]; rw [HGW.out, List.length_append, List.map_append]; exact own6
      have O6 := hideIt (HO4.out.grown hgrow6 (fun k hk e => absurd (ow.lt k e).1 (by omega)))
      obtain ⟨f6, c6, e6⟩ := (Bs.of_own OWN6.out).len
      subst e6
      clear ow own6 hgrow6
      go_wp2
      try rw [Exit.noGoto_ret]
      go_ret2
      exact ⟨_, rfl, OWN6.out, O6.out⟩
    · have dc : (c != 0) = true := by simp; exact hc
      rw [if_pos hc] at HWAY
      have eW := HWAY.out
      subst eW
      clear HWAY
      go_wp2
      try rw [Exit.noGoto_ret]
      go_ret2
      exact ⟨_, rfl, World.ownsRow_nil _ _ _ _, HO4.out⟩
  · have hcx : ¬ ((c2 : Int) - 1 = 0) := by omega
    have hb3 : Bs .u64 w3 (.slice (some ((⟨b, off, none⟩ : Addr).add 1)) (n - 1) (c2 - 1)) (z.drop 1) := by have := HB3.out.cut (n := 1) (by omega); simpa using this
    have W2 := hideIt (WO.out _ w3 hb3)
    clear hb3
    go_wp2_with fail
    refine W2.out.mono ?_
    rintro e w4 ⟨v4, rfl, own4, o4⟩
    clear W2
    have HO4 := hideIt (HO3.out.same o4)
    have OW4 := hideIt (o4.own OW3.out (fun _ _ f => f))
    have HB4 := hideIt (Bs.of_own own4)
    have NC4 := hideIt (NoCap.of_own own4)
    obtain ⟨f4, c4, e4⟩ := (Bs.of_own own4).len
    subst e4
    have hs4 : w.heap.size ≤ w4.heap.size := HO4.out.size
    clear own4 o4
    by_cases hc : c = 0
    · subst hc
      have ow := OW4.out
      rw [if_neg (by simp)] at HWAY
      obtain ⟨gw, hgw⟩ : ∃ gw, gw = g ++ W1 := ⟨_, rfl⟩
      rw [← hgw] at HWAY
      have HGW := hideIt hgw
      have eW := HWAY.out
      subst eW
      clear hgw HWAY OW4
      go_wp2_with (at_builtin; refine wpList_append_bs _ rfl _ _ _ rfl w.heap.size 5 i0 (.int .u8 0) 1 Tryz.underlying22 hi hz0 hz1 hz2 rfl _ _ _ rfl ow .u8 _ W1 rfl HB4.out NC4.out ?c3 ?c4 hs4 ?_)
      case c3 => have := HWL.out; have := HG10.out; unfold maxLen; omega
      case c4 => have := HWL.out; have := HG10.out; omega
      intro v6 w6 own6 hgrow6 _ _
      have OWN6 : Hid (w6.ownsRow w.heap.size 5 1 v6 gw.length (gw.map (Value.int .u8))) := by
        simp only [Hid]; rw [HGW.out, List.length_append, List.map_append]; exact own6
      have O6 := hideIt (HO4.out.grown hgrow6 (fun k hk e => absurd (ow.lt k e).1 (by omega)))
      obtain ⟨f6, c6, e6⟩ := (Bs.of_own OWN6.out).len
      subst e6
      clear ow own6 hgrow6
      go_wp2
      try rw [Exit.noGoto_ret]
      go_ret2
      exact ⟨_, rfl, OWN6.out, O6.out⟩
    · have dc : (c != 0) = true := by simp; exact hc
      rw [if_pos hc] at HWAY
      have eW := HWAY.out
      subst eW
      clear HWAY
      go_wp2
      try rw [Exit.noGoto_ret]
      go_ret2
      exact ⟨_, rfl, World.ownsRow_nil _ _ _ _, HO4.out⟩

set_option maxHeartbeats 1600000 in
set_option maxRecDepth 100000 in
theorem rway_three (v : Value) (l : List Int) (w : World) (h : Bs .i64 w v l) (nc : NoCap v) (hg : I64s l) (hl : l.length ≤ 700) (hp : 0 < l.length) :
    Calls Tryz.prog 34 #[v, .int .i64 3] w fun e w' => ∃ u, e = .returned (.tuple #[u, .int .i64 (WAY l 3).2]) ∧ w'.ownsRow w.heap.size 5 1 u (WAY l 3).1.length ((WAY l 3).1.map (Value.int .u8)) ∧ Only (fun _ => False) w w' := by
  obtain ⟨i0, hi, hz0, hz1, hz2⟩ := info_parts Tryz.infoU8
  have DF := hideIt (rdiff_in v l 2 w h nc (by omega) hg (by omega))
  have HDL := hideIt (D_length 2 l)
  have HDG := hideIt (D_i64 hg 2)
  have HZU := hideIt (zD_u64 hg 2)
  have WO : Hid (∀ (u : Value) (w2 : World), Bs .u64 w2 u ((zsn (D 2 l)).drop 1) → Calls Tryz.prog 68 #[u, .int .i64 3] w2 fun e w' => ∃ u', e = .returned (.tuple #[u', .int .i64 (WOTH ((zsn (D 2 l)).drop 1) 3).2]) ∧ w'.ownsRow w2.heap.size 5 1 u' (WOTH ((zsn (D 2 l)).drop 1) 3).1.length ((WOTH ((zsn (D 2 l)).drop 1) 3).1.map (Value.int .u8)) ∧ Only (fun _ => False) w2 w') :=
    fun u w2 hb => roth_three u _ w2 hb ((zD_u64 hg _).drop 1) (by rw [List.length_drop, zD_length]; omega)
  have HWL := hideIt (WOTH_len (z := (zsn (D 2 l)).drop 1) ((zD_u64 hg _).drop 1) (by rw [List.length_drop, zD_length]; omega) 3)
  have HWAY : Hid (WAY l 3 = if (WOTH ((zsn (D 2 l)).drop 1) 3).2 ≠ 0 then ([], (WOTH ((zsn (D 2 l)).drop 1) 3).2) else (gs ((zsn (D 2 l)).getD 0 0).toNat ++ (WOTH ((zsn (D 2 l)).drop 1) 3).1, 0)) := by
    simp only [Hid]
    unfold WAY
    rw [if_neg (List.length_pos_iff.1 hp), if_neg (by omega)]
    rfl
  obtain ⟨ao, cap, rfl⟩ := h.len
  obtain ⟨n, hn⟩ : ∃ n, n = l.length := ⟨_, rfl⟩
  rw [← hn] at hl hp DF HDL
  rw [← hn]
  have d0 : decide ((65536 : Int) < n) = false := decide_eq_false (by omega)
  have d1 : ((n : Int) == 0) = false := by rw [beq_eq_false_iff_ne]; omega
  clear h hn hg nc
  generalize WAY l 3 = Wl at *
  generalize D 2 l = d at *
  have HZL : Hid ((zsn d).length = n) := by simp only [Hid]; rw [zsn_length]; exact HDL.out
  generalize hWO : WOTH ((zsn d).drop 1) 3 = W at *
  clear hWO
  obtain ⟨W1, c⟩ := W
  simp only at WO HWL HWAY
  go_enter Tryz.func34, Tryz.ntmps34
  go_wp2_with fail
  refine DF.out.mono ?_
  rintro e w1 ⟨v1, rfl, own1, o1⟩
  clear DF
  have hb1 : Bs .i64 w1 v1 d := Bs.of_own (by rw [HDL.out]; exact own1)
  have ZG := hideIt (rzigs_any v1 d w1 hb1 HDG.out (by rw [HDL.out]; omega))
  obtain ⟨a1, cap1, e1⟩ := hb1.len
  rw [HDL.out] at e1
  subst e1
  have HO1 := hideIt o1
  clear own1 o1 hb1
  go_wp2_with fail
  refine ZG.out.mono ?_
  rintro e w2 ⟨v2, rfl, own2, o2⟩
  clear ZG
  have HO2 := hideIt (HO1.out.same o2)
  have hb2 := Bs.of_own own2
  have HB2 := hideIt hb2
  obtain ⟨a2, c2, e2⟩ := hb2.len
  rw [HZL.out] at e2
  subst e2
  generalize zsn d = z at *
  have hc2 : n ≤ c2 := by
    obtain ⟨ao', cap', e2, hc, _⟩ := hb2
    rw [HZL.out] at hc
    simp at e2
    omega
  have hx := HZU.out (z.getD 0 0) (getD_mem0 z 0 (by rw [HZL.out]; omega))
  obtain ⟨b, off, cap', e4, cell0⟩ := hb2.at 0 (by rw [HZL.out]; omega)
  have ea : a2 = some ⟨b, off, none⟩ := by simp at e4; exact e4.1
  subst ea
  clear e4
  rw [Nat.add_zero] at cell0
  have AP := hideIt (rappend_any (.slice none 0 0) [] (z.getD 0 0) w2 (Bs.nil _ _) NoCap.nil (by simp) hx.1 hx.2)
  have HG10 := hideIt (gs_le10 (v := (z.getD 0 0).toNat) (by omega))
  rw [List.nil_append] at AP
  generalize z.getD 0 0 = x at *
  generalize gs x.toNat = g at *
  clear own2 o2 hb2 hx
  go_wp2_with fail
  refine AP.out.mono ?_
  rintro e w3 ⟨v3, rfl, own3, o3⟩
  clear AP
  have OW3 := hideIt (own_low own3 HO2.out.size)
  have HO3 := hideIt (HO2.out.same o3)
  have HB3 := hideIt (HB2.out.past o3)
  obtain ⟨f3, c3, e3⟩ := (Bs.of_own own3).len
  subst e3
  clear own3 o3 HB2
  have j0 : (1 : Int) ≤ (n : Int) := by omega
  have j1 : (1 : Int) ≤ (c2 : Int) := by omega
  by_cases hcc : c2 = 1
  · subst hcc
    obtain rfl : n = 1 := by omega
    have hb3 : Bs .u64 w3 (.slice (some ⟨b, off, none⟩) 0 0) (z.drop 1) := by have := HB3.out.cut0 (n := 1) (by omega); simpa using this
    have W2 := hideIt (WO.out _ w3 hb3)
    clear hb3
    go_wp2_with fail
    refine W2.out.mono ?_
    rintro e w4 ⟨v4, rfl, own4, o4⟩
    clear W2
    have HO4 := hideIt (HO3.out.same o4)
    have OW4 := hideIt (o4.own OW3.out (fun _ _ f => f))
    have HB4 := hideIt (Bs.of_own own4)
    have NC4 := hideIt (NoCap.of_own own4)
    obtain ⟨f4, c4, e4⟩ := (Bs.of_own own4).len
    subst e4
    have hs4 : w.heap.size ≤ w4.heap.size := HO4.out.size
    clear own4 o4
    by_cases hc : c = 0
    · subst hc
      have ow := OW4.out
      rw [if_neg (by simp)] at HWAY
      obtain ⟨gw, hgw⟩ : ∃ gw, gw = g ++ W1 := ⟨_, rfl⟩
      rw [← hgw] at HWAY
      have HGW := hideIt hgw
      have eW := HWAY.out
      subst eW
      clear hgw HWAY OW4
      go_wp2_with (at_builtin; refine wpList_append_bs _ rfl _ _ _ rfl w.heap.size 5 i0 (.int .u8 0) 1 Tryz.underlying22 hi hz0 hz1 hz2 rfl _ _ _ rfl ow .u8 _ W1 rfl HB4.out NC4.out ?c3 ?c4 hs4 ?_)
      case c3 => have := HWL.out; have := HG10.out; unfold maxLen; omega
      case c4 => have := HWL.out; have := HG10.out; omega
      intro v6 w6 own6 hgrow6 _ _
      have OWN6 : Hid (w6.ownsRow w.heap.size 5 1 v6 gw.length (gw.map (Value.int .u8))) := by
        simp only [Hid]; rw [HGW.out, List.length_append, List.map_append]; exact own6
      have O6 := hideIt (HO4.out.grown hgrow6 (fun k hk e => absurd (ow.lt k e).1 (by omega)))
      obtain ⟨f6, c6, e6⟩ := (Bs.of_own OWN6.out).len
      subst e6
      clear ow own6 hgrow6
      go_wp2
      try rw [Exit.noGoto_ret]
      go_ret2
      exact ⟨_, rfl, OWN6.out, O6.out⟩
    · have dc : (c != 0) = true := by simp; exact hc
      rw [if_pos hc] at HWAY
      have eW := HWAY.out
      subst eW
      clear HWAY
      go_wp2
      try rw [Exit.noGoto_ret]
      go_ret2
      exact ⟨_, rfl, World.ownsRow_nil _ _ _ _, HO4.out⟩
  · have hcx : ¬ ((c2 : Int) - 1 = 0) := by omega
    have hb3 : Bs .u64 w3 (.slice (some ((⟨b, off, none⟩ : Addr).add 1)) (n - 1) (c2 - 1)) (z.drop 1) := by have := HB3.out.cut (n := 1) (by omega); simpa using this
    have W2 := hideIt (WO.out _ w3 hb3)
    clear hb3
    go_wp2_with fail
    refine W2.out.mono ?_
    rintro e w4 ⟨v4, rfl, own4, o4⟩
    clear W2
    have HO4 := hideIt (HO3.out.same o4)
    have OW4 := hideIt (o4.own OW3.out (fun _ _ f => f))
    have HB4 := hideIt (Bs.of_own own4)
    have NC4 := hideIt (NoCap.of_own own4)
    obtain ⟨f4, c4, e4⟩ := (Bs.of_own own4).len
    subst e4
    have hs4 : w.heap.size ≤ w4.heap.size := HO4.out.size
    clear own4 o4
    by_cases hc : c = 0
    · subst hc
      have ow := OW4.out
      rw [if_neg (by simp)] at HWAY
      obtain ⟨gw, hgw⟩ : ∃ gw, gw = g ++ W1 := ⟨_, rfl⟩
      rw [← hgw] at HWAY
      have HGW := hideIt hgw
      have eW := HWAY.out
      subst eW
      clear hgw HWAY OW4
      go_wp2_with (at_builtin; refine wpList_append_bs _ rfl _ _ _ rfl w.heap.size 5 i0 (.int .u8 0) 1 Tryz.underlying22 hi hz0 hz1 hz2 rfl _ _ _ rfl ow .u8 _ W1 rfl HB4.out NC4.out ?c3 ?c4 hs4 ?_)
      case c3 => have := HWL.out; have := HG10.out; unfold maxLen; omega
      case c4 => have := HWL.out; have := HG10.out; omega
      intro v6 w6 own6 hgrow6 _ _
      have OWN6 : Hid (w6.ownsRow w.heap.size 5 1 v6 gw.length (gw.map (Value.int .u8))) := by
        simp only [Hid]; rw [HGW.out, List.length_append, List.map_append]; exact own6
      have O6 := hideIt (HO4.out.grown hgrow6 (fun k hk e => absurd (ow.lt k e).1 (by omega)))
      obtain ⟨f6, c6, e6⟩ := (Bs.of_own OWN6.out).len
      subst e6
      clear ow own6 hgrow6
      go_wp2
      try rw [Exit.noGoto_ret]
      go_ret2
      exact ⟨_, rfl, OWN6.out, O6.out⟩
    · have dc : (c != 0) = true := by simp; exact hc
      rw [if_pos hc] at HWAY
      have eW := HWAY.out
      subst eW
      clear HWAY
      go_wp2
      try rw [Exit.noGoto_ret]
      go_ret2
      exact ⟨_, rfl, World.ownsRow_nil _ _ _ _, HO4.out⟩

set_option maxHeartbeats 1600000 in
set_option maxRecDepth 100000 in
theorem rway_four (v : Value) (l : List Int) (w : World) (h : Bs .i64 w v l) (nc : NoCap v) (hg : I64s l) (hl : l.length ≤ 700) (hp : 0 < l.length) :
    Calls Tryz.prog 34 #[v, .int .i64 4] w fun e w' => ∃ u, e = .returned (.tuple #[u, .int .i64 (WAY l 4).2]) ∧ w'.ownsRow w.heap.size 5 1 u (WAY l 4).1.length ((WAY l 4).1.map (Value.int .u8)) ∧ Only (fun _ => False) w w' := by
  obtain ⟨i0, hi, hz0, hz1, hz2⟩ := info_parts Tryz.infoU8
  have DF := hideIt (rdiff_in v l 2 w h nc (by omega) hg (by omega))
  have HDL := hideIt (D_length 2 l)
  have HDG := hideIt (D_i64 hg 2)
  have HZU := hideIt (zD_u64 hg 2)
  have WO : Hid (∀ (u : Value) (w2 : World), Bs .u64 w2 u ((zsn (D 2 l)).drop 1) → Calls Tryz.prog 68 #[u, .int .i64 4] w2 fun e w' => ∃ u', e = .returned (.tuple #[u', .int .i64 (WOTH ((zsn (D 2 l)).drop 1) 4).2]) ∧ w'.ownsRow w2.heap.size 5 1 u' (WOTH ((zsn (D 2 l)).drop 1) 4).1.length ((WOTH ((zsn (D 2 l)).drop 1) 4).1.map (Value.int .u8)) ∧ Only (fun _ => False) w2 w') :=
    fun u w2 hb => roth_four u _ w2 hb ((zD_u64 hg _).drop 1) (by rw [List.length_drop, zD_length]; omega)
  have HWL := hideIt (WOTH_len (z := (zsn (D 2 l)).drop 1) ((zD_u64 hg _).drop 1) (by rw [List.length_drop, zD_length]; omega) 4)
  have HWAY : Hid (WAY l 4 = if (WOTH ((zsn (D 2 l)).drop 1) 4).2 ≠ 0 then ([], (WOTH ((zsn (D 2 l)).drop 1) 4).2) else (gs ((zsn (D 2 l)).getD 0 0).toNat ++ (WOTH ((zsn (D 2 l)).drop 1) 4).1, 0)) := by
    simp only [Hid]
    unfold WAY
    rw [if_neg (List.length_pos_iff.1 hp), if_neg (by omega)]
    rfl
  obtain ⟨ao, cap, rfl⟩ := h.len
  obtain ⟨n, hn⟩ : ∃ n, n = l.length := ⟨_, rfl⟩
  rw [← hn] at hl hp DF HDL
  rw [← hn]
  have d0 : decide ((65536 : Int) < n) = false := decide_eq_false (by omega)
  have d1 : ((n : Int) == 0) = false := by rw [beq_eq_false_iff_ne]; omega
  clear h hn hg nc
  generalize WAY l 4 = Wl at *
  generalize D 2 l = d at *
  have HZL : Hid ((zsn d).length = n) := by simp only [Hid]; rw [zsn_length]; exact HDL.out
  generalize hWO : WOTH ((zsn d).drop 1) 4 = W at *
  clear hWO
  obtain ⟨W1, c⟩ := W
  simp only at WO HWL HWAY
  go_enter Tryz.func34, Tryz.ntmps34
  go_wp2_with fail
  refine DF.out.mono ?_
  rintro e w1 ⟨v1, rfl, own1, o1⟩
  clear DF
  have hb1 : Bs .i64 w1 v1 d := Bs.of_own (by rw [HDL.out]; exact own1)
  have ZG := hideIt (rzigs_any v1 d w1 hb1 HDG.out (by rw [HDL.out]; omega))
  obtain ⟨a1, cap1, e1⟩ := hb1.len
  rw [HDL.out] at e1
  subst e1
  have HO1 := hideIt o1
  clear own1 o1 hb1
  go_wp2_with fail
  refine ZG.out.mono ?_
  rintro e w2 ⟨v2, rfl, own2, o2⟩
  clear ZG
  have HO2 := hideIt (HO1.out.same o2)
  have hb2 := Bs.of_own own2
  have HB2 := hideIt hb2
  obtain ⟨a2, c2, e2⟩ := hb2.len
  rw [HZL.out] at e2
  subst e2
  generalize zsn d = z at *
  have hc2 : n ≤ c2 := by
    obtain ⟨ao', cap', e2, hc, _⟩ := hb2
    rw [HZL.out] at hc
    simp at e2
    omega
  have hx := HZU.out (z.getD 0 0) (getD_mem0 z 0 (by rw [HZL.out]; omega))
  obtain ⟨b, off, cap', e4, cell0⟩ := hb2.at 0 (by rw [HZL.out]; omega)
  have ea : a2 = some ⟨b, off, none⟩ := by simp at e4; exact e4.1
  subst ea
  clear e4
  rw [Nat.add_zero] at cell0
  have AP := hideIt (rappend_any (.slice none 0 0) [] (z.getD 0 0) w2 (Bs.nil _ _) NoCap.nil (by simp) hx.1 hx.2)
  have HG10 := hideIt (gs_le10 (v := (z.getD 0 0).toNat) (by omega))
  rw [List.nil_append] at AP
  generalize z.getD 0 0 = x at *
  generalize gs x.toNat = g at *
  clear own2 o2 hb2 hx
  go_wp2_with fail
  refine AP.out.mono ?_
  rintro e w3 ⟨v3, rfl, own3, o3⟩
  clear AP
  have OW3 := hideIt (own_low own3 HO2.out.size)
  have HO3 := hideIt (HO2.out.same o3)
  have HB3 := hideIt (HB2.out.past o3)
  obtain ⟨f3, c3, e3⟩ := (Bs.of_own own3).len
  subst e3
  clear own3 o3 HB2
  have j0 : (1 : Int) ≤ (n : Int) := by omega
  have j1 : (1 : Int) ≤ (c2 : Int) := by omega
  by_cases hcc : c2 = 1
  · subst hcc
    obtain rfl : n = 1 := by omega
    have hb3 : Bs .u64 w3 (.slice (some ⟨b, off, none⟩) 0 0) (z.drop 1) := by have := HB3.out.cut0 (n := 1) (by omega); simpa using this
    have W2 := hideIt (WO.out _ w3 hb3)
    clear hb3
    go_wp2_with fail
    refine W2.out.mono ?_
    rintro e w4 ⟨v4, rfl, own4, o4⟩
    clear W2
    have HO4 := hideIt (HO3.out.same o4)
    have OW4 := hideIt (o4.own OW3.out (fun _ _ f => f))
    have HB4 := hideIt (Bs.of_own own4)
    have NC4 := hideIt (NoCap.of_own own4)
    obtain ⟨f4, c4, e4⟩ := (Bs.of_own own4).len
    subst e4
    have hs4 : w.heap.size ≤ w4.heap.size := HO4.out.size
    clear own4 o4
    by_cases hc : c = 0
    · subst hc
      have ow := OW4.out
      rw [if_neg (by simp)] at HWAY
      obtain ⟨gw, hgw⟩ : ∃ gw, gw = g ++ W1 := ⟨_, rfl⟩
      rw [← hgw] at HWAY
      have HGW := hideIt hgw
      have eW := HWAY.out
      subst eW
      clear hgw HWAY OW4
      go_wp2_with (at_builtin; refine wpList_append_bs _ rfl _ _ _ rfl w.heap.size 5 i0 (.int .u8 0) 1 Tryz.underlying22 hi hz0 hz1 hz2 rfl _ _ _ rfl ow .u8 _ W1 rfl HB4.out NC4.out ?c3 ?c4 hs4 ?_)
      case c3 => have := HWL.out; have := HG10.out; unfold maxLen; omega
      case c4 => have := HWL.out; have := HG10.out; omega
      intro v6 w6 own6 hgrow6 _ _
      have OWN6 : Hid (w6.ownsRow w.heap.size 5 1 v6 gw.length (gw.map (Value.int .u8))) := by
        simp only [Hid]; rw [HGW.out, List.length_append, List.map_append]; exact own6
      have O6 := hideIt (HO4.out.grown hgrow6 (fun k hk e => absurd (ow.lt k e).1 (by omega)))
      obtain ⟨f6, c6, e6⟩ := (Bs.of_own OWN6.out).len
      subst e6
      clear ow own6 hgrow6
      go_wp2
      try rw [Exit.noGoto_ret]
      go_ret2
      exact ⟨_, rfl, OWN6.out, O6.out⟩
    · have dc : (c != 0) = true := by simp; exact hc
      rw [if_pos hc] at HWAY
      have eW := HWAY.out
      subst eW
      clear HWAY
      go_wp2
      try rw [Exit.noGoto_ret]
      go_ret2
      exact ⟨_, rfl, World.ownsRow_nil _ _ _ _, HO4.out⟩
  · have hcx : ¬ ((c2 : Int) - 1 = 0) := by omega
    have hb3 : Bs .u64 w3 (.slice (some ((⟨b, off, none⟩ : Addr).add 1)) (n - 1) (c2 - 1)) (z.drop 1) := by have := HB3.out.cut (n := 1) (by omega); simpa using this
    have W2 := hideIt (WO.out _ w3 hb3)
    clear hb3
    go_wp2_with fail
    refine W2.out.mono ?_
    rintro e w4 ⟨v4, rfl, own4, o4⟩
    clear W2
    have HO4 := hideIt (HO3.out.same o4)
    have OW4 := hideIt (o4.own OW3.out (fun _ _ f => f))
    have HB4 := hideIt (Bs.of_own own4)
    have NC4 := hideIt (NoCap.of_own own4)
    obtain ⟨f4, c4, e4⟩ := (Bs.of_own own4).len
    subst e4
    have hs4 : w.heap.size ≤ w4.heap.size := HO4.out.size
    clear own4 o4
    by_cases hc : c = 0
    · subst hc
      have ow := OW4.out
      rw [if_neg (by simp)] at HWAY
      obtain ⟨gw, hgw⟩ : ∃ gw, gw = g ++ W1 := ⟨_, rfl⟩
      rw [← hgw] at HWAY
      have HGW := hideIt hgw
      have eW := HWAY.out
      subst eW
      clear hgw HWAY OW4
      go_wp2_with (at_builtin; refine wpList_append_bs _ rfl _ _ _ rfl w.heap.size 5 i0 (.int .u8 0) 1 Tryz.underlying22 hi hz0 hz1 hz2 rfl _ _ _ rfl ow .u8 _ W1 rfl HB4.out NC4.out ?c3 ?c4 hs4 ?_)
      case c3 => have := HWL.out; have := HG10.out; unfold maxLen; omega
      case c4 => have := HWL.out; have := HG10.out; omega
      intro v6 w6 own6 hgrow6 _ _
      have OWN6 : Hid (w6.ownsRow w.heap.size 5 1 v6 gw.length (gw.map (Value.int .u8))) := by
        simp only [Hid]; rw [HGW.out, List.length_append, List.map_append]; exact own6
      have O6 := hideIt (HO4.out.grown hgrow6 (fun k hk e => absurd (ow.lt k e).1 (by omega)))
      obtain ⟨f6, c6, e6⟩ := (Bs.of_own OWN6.out).len
      subst e6
      clear ow own6 hgrow6
      go_wp2
      try rw [Exit.noGoto_ret]
      go_ret2
      exact ⟨_, rfl, OWN6.out, O6.out⟩
    · have dc : (c != 0) = true := by simp; exact hc
      rw [if_pos hc] at HWAY
      have eW := HWAY.out
      subst eW
      clear HWAY
      go_wp2
      try rw [Exit.noGoto_ret]
      go_ret2
      exact ⟨_, rfl, World.ownsRow_nil _ _ _ _, HO4.out⟩

theorem rway_any (v : Value) (l : List Int) (tag : Int) (w : World) (h : Bs .i64 w v l) (nc : NoCap v) (hg : I64s l) (hl : l.length ≤ 700 ∨ 65536 < l.length) :
    Calls Tryz.prog 34 #[v, .int .i64 tag] w fun e w' => ∃ u, e = .returned (.tuple #[u, .int .i64 (WAY8 l tag).2]) ∧ w'.ownsRow w.heap.size 5 1 u (WAY8 l tag).1.length ((WAY8 l tag).1.map (Value.int .u8)) ∧ Only (fun _ => False) w w' := by
  unfold WAY8
  by_cases ht : tag < 0 ∨ 4 < tag
  · rw [if_pos ht]
    refine (rway_arg v tag w ht).mono ?_
    rintro e w' ⟨rfl, rfl⟩
    exact ⟨_, rfl, World.ownsRow_nil _ _ _ _, Only.refl _ _⟩
  · rw [if_neg ht]
    obtain ⟨t, rfl⟩ := Int.eq_ofNat_of_zero_le (show 0 ≤ tag by omega)
    by_cases hl2 : 65536 < l.length
    · rw [if_pos hl2]
      refine (rway_long v l t w h hl2 (by omega)).mono ?_
      rintro e w' ⟨rfl, rfl⟩
      exact ⟨_, rfl, World.ownsRow_nil _ _ _ _, Only.refl _ _⟩
    · rw [if_neg hl2, Int.toNat_natCast]
      by_cases hne : l = []
      · subst hne
        rw [WAY_nil]
        refine (rway_nil v t w h (by omega)).mono ?_
        rintro e w' ⟨rfl, rfl⟩
        exact ⟨_, rfl, World.ownsRow_nil _ _ _ _, Only.refl _ _⟩
      · have hp : 0 < l.length := List.length_pos_iff.2 hne
        have t4 : t ≤ 4 := by omega
        rcases t with _ | _ | _ | _ | _ | t
        · rw [WAY_zero]
          exact rway_zero v l w h (by omega) hp
        · have e : WAY l 1 = (allG (zsn (D 1 l)), 0) := by
            have e1 : allG (zsn (D 1 l)) = gs ((zsn (D 1 l)).getD 0 0).toNat ++ allG ((zsn (D 1 l)).drop 1) := by
              have e5 := allG_drop (zsn (D 1 l)) 0 (by rw [zD_length]; exact hp)
              rw [List.drop_zero] at e5
              exact e5
            rw [e1]
            unfold WAY
            rw [if_neg hne, if_neg (by omega)]
            rfl
          rw [show (0 + 1 : Nat) = 1 from rfl, e]
          exact rway_one v l w h nc hg (by omega) hp
        · exact rway_two v l w h nc hg (by omega) hp
        · exact rway_three v l w h nc hg (by omega) hp
        · exact rway_four v l w h nc hg (by omega) hp
        · omega
end Go.Proofs.YtgbimghhdbmjiaaGreat
