/- The reference for a list of ints: plain, read. -/
import Derived.Test.YtgbimghhdbmjiaaGreatIm3
import Derived.Test.YtgbimghhdbmjiaaGreatG13
import Derived.Test.YtgbimghhdbmjiaaGreatRe8
import Derived.Test.YtgbimghhdbmjiaaGreatRUn
import Derived.Test.YtgbimghhdbmjiaaGreatRDec
import Derived.Test.YtgbimghhdbmjiaaGreatRrDe
import Derived.Test.YtgbimghhdbmjiaaGreatDRef2
namespace Go.Proofs.YtgbimghhdbmjiaaGreat
open Go.RowKit

/-- what reads so later, and lies in old blocks, read so before -/
theorem Bs.back {k : IntKind} {w w' : World} {v : Value} {xs : List Int} (h : Bs k w' v xs) (o : Only (fun _ => False) w w') (hb : xs ≠ [] → ∀ b, v.ownBlock = some b → b < w.heap.size) : Bs k w v xs := by
  obtain ⟨ao, cap, rfl, hc, hr⟩ := h
  refine ⟨ao, cap, rfl, hc, fun hx => ?_⟩
  obtain ⟨b, off, rfl, hcell⟩ := hr hx
  refine ⟨b, off, rfl, fun j hj => ?_⟩
  rw [← hcell j hj]
  exact World.cell?_of_block (o.block b (hb hx b rfl) (fun f => f)).symm
theorem Bs.old {k : IntKind} {w : World} {v : Value} {xs : List Int} (h : Bs k w v xs) (hx : xs ≠ []) : ∀ b, v.ownBlock = some b → b < w.heap.size := by
  obtain ⟨ao, cap, rfl, hc, hr⟩ := h
  obtain ⟨b, off, rfl, hcell⟩ := hr hx
  intro q hq
  have : b = q := by simpa [Value.ownBlock] using hq
  subst this
  exact World.block_lt_of_cell? w _ (hcell 0 (List.length_pos_iff.2 hx))
theorem rfixed_w (ao : Option Addr) (m cap : Nat) (ys : List Int) (w0 w : World) (h : Bs .u8 w0 (.slice ao m cap) ys) (o : Only (fun _ => False) w0 w) (nc : NoCap (.slice ao m cap)) (hr : Byt ys) (hm : m ≤ 1000000000000) {a : Int} {k : Nat} {c : Int} (hs : sFixed 8 ys = (a, k, c)) :
    Calls Tryz.prog 56 #[.slice ao m cap, .int .i64 8] w fun e w' => ∃ ao' m' cap', e = .returned (.tuple #[.int .u64 a, .slice ao' m' cap', .int .i64 c]) ∧ Bs .u8 w0 (.slice ao' m' cap') (ys.drop k) ∧ NoCap (.slice ao' m' cap') ∧ Only (fun _ => False) w w' := by
  refine (rfixed_at ao m cap ys w (h.past o) nc hr hm 8 hs).mono ?_
  rintro e w' ⟨ao', m', cap', rfl, hb, hn, o', ho⟩
  refine ⟨ao', m', cap', rfl, hb.back (o.same o') (fun hx b hb2 => ?_), hn, o'⟩
  rw [ho] at hb2
  exact h.old (fun e => hx (by rw [e]; simp)) b hb2

set_option maxHeartbeats 800000 in
set_option maxRecDepth 100000 in
/-- nothing is asked for -/
theorem rplain_none (v : Value) (ys : List Int) (tag : Int) (w : World) (h : Bs .u8 w v ys) :
    Calls Tryz.prog 29 #[v, .int .i64 0, .int .i64 tag] w fun e w' => ∃ u, e = .returned (.tuple #[u, .int .i64 (if 0 < ys.length then ([], 3) else (([] : List Int), (0 : Int))).2]) ∧ w'.ownsRow w.heap.size 42 1 u 0 [] ∧ Only (fun _ => False) w w' := by
  obtain ⟨ao, cap, rfl⟩ := h.len
  clear h
  by_cases hp : 0 < ys.length
  · rw [if_pos hp]
    have dp : decide ((0 : Int) < ys.length) = true := decide_eq_true (by omega)
    generalize ys.length = m at *
    go_enter Tryz.func29, Tryz.ntmps29
    go_wp2
    go_loopw [0, 8, 9] (fun s0 s8 s9 wr => s0 = .slice ao m cap ∧ s8 = .slice none 0 0 ∧ s9 = .int .i64 0 ∧ w = wr) (fun _ _ _ _ => 0)
    case atStart => exact ⟨rfl, rfl, rfl, rfl⟩
    case round =>
      obtain ⟨rfl, rfl, rfl, rfl⟩ := hrel
      go_wp2
      try rw [Exit.noGoto_ret]
      go_ret2
      exact ⟨_, rfl, World.ownsRow_nil _ _ _ _, Only.refl _ _⟩
  · rw [if_neg hp]
    obtain h0 : ys.length = 0 := by omega
    rw [h0]
    clear hp h0
    go_enter Tryz.func29, Tryz.ntmps29
    go_wp2
    go_loopw [0, 8, 9] (fun s0 s8 s9 wr => s0 = .slice ao 0 cap ∧ s8 = .slice none 0 0 ∧ s9 = .int .i64 0 ∧ w = wr) (fun _ _ _ _ => 0)
    case atStart => exact ⟨rfl, rfl, rfl, rfl⟩
    case round =>
      obtain ⟨rfl, rfl, rfl, rfl⟩ := hrel
      go_wp2
      try rw [Exit.noGoto_ret]
      go_ret2
      exact ⟨_, rfl, World.ownsRow_nil _ _ _ _, Only.refl _ _⟩

set_option maxHeartbeats 1600000 in
set_option maxRecDepth 100000 in
/-- SO MANY OF EIGHT BYTES EACH, and none left. -/
theorem rplain_zero (v : Value) (ys : List Int) (n : Nat) (w : World) (h : Bs .u8 w v ys) (nc : NoCap v) (hr : Byt ys) (hl : ys.length ≤ 1000000) (hn : n ≤ 65536) :
    Calls Tryz.prog 29 #[v, .int .i64 n, .int .i64 0] w fun e w' => ∃ u, e = .returned (.tuple #[u, .int .i64 (RR ys n 0).2]) ∧ w'.ownsRow w.heap.size 42 1 u (RR ys n 0).1.length ((RR ys n 0).1.map (Value.int .u64)) ∧ Only (fun _ => False) w w' := by
  obtain ⟨i0, hi, hz0, hz1, hz2⟩ := info_parts Tryz.infoU64
  have HB := hideIt h
  have NC := hideIt nc
  have HRG := hideIt hr
  have eR : RR ys n 0 = if ys.length < 8 * n then ([], 2) else if 8 * n < ys.length then ([], 3) else (fxN ys n, 0) := by unfold RR; rw [if_pos rfl]
  obtain ⟨E, hE⟩ : ∃ E, E = RR ys n 0 := ⟨_, rfl⟩
  rw [← hE] at eR ⊢
  have HE := hideIt eR
  obtain ⟨ao, cap, rfl⟩ := h.len
  clear h nc hr eR hE
  go_enter Tryz.func29, Tryz.ntmps29
  go_wp2
  go_loopw [0, 8, 9] (fun s0 s8 s9 wr => ∃ (k : Nat) (a1 : Option Addr) (m1 c1 : Nat), k ≤ n ∧ 8 * k ≤ ys.length ∧ s9 = .int .i64 k ∧ s0 = .slice a1 m1 c1 ∧ Bs .u8 w (.slice a1 m1 c1) (ys.drop (8 * k)) ∧ NoCap (.slice a1 m1 c1) ∧ wr.ownsRow w.heap.size 42 1 s8 k ((fxN ys k).map (Value.int .u64)) ∧ Only (fun _ => False) w wr) (fun _ _ s9 _ => n - (intOf s9).toNat)
  case atStart => exact ⟨0, ao, _, cap, Nat.zero_le _, Nat.zero_le _, rfl, rfl, HB.out, NC.out, World.ownsRow_nil _ _ _ _, Only.refl _ _⟩
  case round =>
    obtain ⟨k, a1, m1, c1, hk, h8, rfl, rfl, hbs, hnc, hown, hon⟩ := hrel
    have hm1 : m1 = ys.length - 8 * k := by have := hbs.length; rw [List.length_drop] at this; exact this
    have HBS := hideIt hbs
    have HNC := hideIt hnc
    have HOWN := hideIt hown
    have HON := hideIt hon
    have hrd : Byt (ys.drop (8 * k)) := fun y hy => HRG.out y (List.mem_of_mem_drop hy)
    by_cases hlt : k < n
    · have dlt : decide ((k : Int) < (n : Int)) = true := by simp; omega
      by_cases hs : (ys.drop (8 * k)).length < 8
      · have FX := hideIt (rfixed_w a1 m1 c1 _ w wr hbs hon hnc hrd (by omega) (sFixed8_short hs))
        have HR : ys.length < 8 * n := by rw [List.length_drop] at hs; omega
        have eE := HE.out
        rw [if_pos HR] at eE
        subst eE
        clear hown hbs hnc hon hs hrd HB NC HE hm1
        go_wp2_with fail
        refine FX.out.mono ?_
        rintro e w2 ⟨a2, m2, c2, rfl, _, _, o2⟩
        have O2 := hideIt (HON.out.same o2)
        clear FX o2 HOWN
        go_wp2
        try rw [Exit.noGoto_ret]
        go_ret2
        exact ⟨_, rfl, World.ownsRow_nil _ _ _ _, O2.out⟩
      · have FX := rfixed_w a1 m1 c1 _ w wr hbs hon hnc hrd (by omega) (sFixed8_ok (by omega))
        have h9 : 8 * (k + 1) ≤ ys.length := by rw [List.length_drop] at hs; omega
        have HST := hideIt (fxN_succ ys k)
        rw [List.drop_drop, show 8 * k + 8 = 8 * (k + 1) by omega] at FX
        have FX := hideIt FX
        generalize (num ((ys.drop (8 * k)).take 8) : Int) = x at *
        clear hown hbs hnc hon hs hrd HB NC hm1
        go_wp2_with fail
        refine FX.out.mono ?_
        rintro e w2 ⟨a2, m2, c2, rfl, b2, n2, o2⟩
        have O2 := hideIt (HON.out.same o2)
        have own2 := o2.own HOWN.out (fun _ _ f => f)
        have B2 := hideIt (And.intro b2 n2)
        have hsz := O2.out.size
        clear FX o2 HOWN HON b2 n2 HBS HNC
        go_wp2_with (at_builtin; refine wpList_append_lies _ rfl _ _ _ rfl w.heap.size 42 i0 (.int .u64 0) 1 8 Tryz.underlying39 hi hz0 hz1 hz2 rfl (by omega) _ k _ rfl (own2.alloc _) ⟨w2.heap.size, 0, none⟩ 1 1 [.int .u64 x] rfl rfl ?c1 ?c2 (by omega) ?c3 ?c4 ?c5 (w2.heap.size + 1) (by simp) ?_)
        case c1 => exact cell_one_new _ _ _
        case c2 => intro u hu; simp at hu; subst hu; rfl
        case c3 => unfold maxLen; omega
        case c4 => omega
        case c5 => simp; omega
        intro gg cap1 w3 hown1 hgrow hat hg1
        have o3 := hideIt ((O2.out.alloc _).grown hgrow (fun p hp0 hp => absurd (own2.lt p hp).1 (by omega)))
        have own3 : Hid (w3.ownsRow w.heap.size 42 1 (.slice (some ⟨gg, 0, none⟩) (k + 1) cap1) (k + 1) ((fxN ys (k + 1)).map (Value.int .u64))) := by
          simp only [Hid]
          rw [HST.out, List.map_append]; exact hown1
        clear own2 hown1 hgrow hat
        go_wp2
        go_roundw
        case rel => exact ⟨k + 1, a2, m2, c2, by omega, h9, by go_num, rfl, B2.out.1, B2.out.2, own3.out, o3.out⟩
        case measure => simp [intOf]; omega
    · obtain rfl : k = n := by omega
      have dlt : decide ((k : Int) < (k : Int)) = false := by simp
      clear hown hbs hnc hon hrd HB NC
      by_cases h9 : 8 * k < ys.length
      · have eE := HE.out
        rw [if_neg (by omega), if_pos h9] at eE
        subst eE
        clear HE
        have dp : decide ((0 : Int) < m1) = true := decide_eq_true (by omega)
        have dpn : decide (0 < m1) = true := decide_eq_true (by omega)
        have hpos : 0 < m1 := by omega
        clear hm1
        go_wp2
        try rw [Exit.noGoto_ret]
        go_ret2
        exact ⟨_, rfl, World.ownsRow_nil _ _ _ _, HON.out⟩
      · have eE := HE.out
        rw [if_neg (by omega), if_neg h9] at eE
        subst eE
        clear HE
        obtain rfl : m1 = 0 := by omega
        obtain ⟨a8, c8, e8⟩ := (Bs.of_own (k := .u64) (xs := fxN ys k) (by rw [fxN_length]; exact HOWN.out)).len
        rw [fxN_length] at e8
        subst e8
        clear hm1
        go_wp2
        try rw [Exit.noGoto_ret]
        go_ret2
        refine ⟨_, rfl, ?_, HON.out⟩
        simp only [fxN_length]
        exact HOWN.out

set_option maxHeartbeats 1600000 in
set_option maxRecDepth 100000 in
/-- SO MANY VARINTS, and none left. -/
theorem rplain_one (v : Value) (ys : List Int) (n : Nat) (w : World) (h : Bs .u8 w v ys) (nc : NoCap v) (hr : Byt ys) (hl : ys.length ≤ 1000000) (hn : n ≤ 65536) :
    Calls Tryz.prog 29 #[v, .int .i64 n, .int .i64 1] w fun e w' => ∃ u, e = .returned (.tuple #[u, .int .i64 (RR ys n 1).2]) ∧ w'.ownsRow w.heap.size 42 1 u (RR ys n 1).1.length ((RR ys n 1).1.map (Value.int .u64)) ∧ Only (fun _ => False) w w' := by
  obtain ⟨i0, hi, hz0, hz1, hz2⟩ := info_parts Tryz.infoU64
  have HB := hideIt h
  have NC := hideIt nc
  have HRG := hideIt hr
  have eR : RR ys n 1 = if (rVs n [] ys).2.2 ≠ 0 then ([], (rVs n [] ys).2.2) else if 0 < (rVs n [] ys).2.1.length then ([], 3) else ((rVs n [] ys).1, 0) := by unfold RR; rw [if_neg (by decide), if_pos rfl]
  obtain ⟨E, hE⟩ : ∃ E, E = RR ys n 1 := ⟨_, rfl⟩
  rw [← hE] at eR ⊢
  obtain ⟨V, hV⟩ : ∃ V, V = rVs n [] ys := ⟨_, rfl⟩
  rw [← hV] at eR
  have HE := hideIt eR
  have HV := hideIt hV
  have HL := hideIt hl
  obtain ⟨ao, cap, rfl⟩ := h.len
  clear h nc hr eR hV hl hE
  go_enter Tryz.func29, Tryz.ntmps29
  go_wp2
  go_loopw [0, 8, 9] (fun s0 s8 s9 wr => ∃ (k g : Nat) (acc ys' : List Int) (a1 : Option Addr) (m1 c1 : Nat), k + g = n ∧ s9 = .int .i64 k ∧ s0 = .slice a1 m1 c1 ∧ acc.length = k ∧ ys'.length ≤ ys.length ∧ Byt ys' ∧ Bs .u8 w (.slice a1 m1 c1) ys' ∧ NoCap (.slice a1 m1 c1) ∧ Hid (rVs g acc ys' = V) ∧ wr.ownsRow w.heap.size 42 1 s8 k (acc.map (Value.int .u64)) ∧ Only (fun _ => False) w wr) (fun _ _ s9 _ => n - (intOf s9).toNat)
  case atStart => exact ⟨0, n, [], ys, ao, _, cap, by omega, rfl, rfl, rfl, Nat.le_refl _, HRG.out, HB.out, NC.out, HV.out.symm, World.ownsRow_nil _ _ _ _, Only.refl _ _⟩
  case round =>
    obtain ⟨k, g, acc, ys', a1, m1, c1, hk, rfl, rfl, hal, hyl, hrd, hbs, hnc, HRV, hown, hon⟩ := hrel
    have hm1 := hbs.length
    have HBS := hideIt hbs
    have HNC := hideIt hnc
    have HOWN := hideIt hown
    have HON := hideIt hon
    have HAL := hideIt hal
    have HRD := hideIt hrd
    have HYL := hideIt hyl
    have hmb : m1 ≤ 1000000000000 := by have := HL.out; omega
    obtain ⟨⟨fa, fk, fc⟩, hfx⟩ : ∃ p, sFixed 8 ys' = p := ⟨_, rfl⟩
    cases g with
    | succ g =>
      have dlt : decide ((k : Int) < (n : Int)) = true := by simp; omega
      have FX := hideIt (rfixed_w a1 m1 c1 _ w wr hbs hon hnc hrd hmb hfx)
      have VX : Hid (∀ (w2 : World) (a : Int) (q : Nat) (c : Int), sVarint ys' = (a, q, c) → Only (fun _ => False) wr w2 → Calls Tryz.prog 30 #[.slice a1 m1 c1] w2 fun e w' => ∃ ao' m' cap', e = .returned (.tuple #[.int .u64 a, .slice ao' m' cap', .int .i64 c]) ∧ Bs .u8 w (.slice ao' m' cap') (ys'.drop q) ∧ NoCap (.slice ao' m' cap') ∧ Only (fun _ => False) w2 w') := fun w2 a q c hs o2 =>
        (rvarint_at a1 m1 c1 ys' w2 ((HBS.out.past HON.out).past o2) HNC.out HRD.out hs).mono fun e w' ⟨ao', m', cap', e1, hb, hn, o⟩ => ⟨ao', m', cap', e1, hb w HBS.out, hn, o⟩
      rcases sVarint_cases hrd with ⟨c, hs, hc⟩ | ⟨a, q, hs, _, _, ha, _⟩
      · have HR := HRV.out
        rw [rVs_stop hs (by omega)] at HR
        have dc : (c != 0) = true := by simp; omega
        have HS := hideIt hs
        have eE := HE.out
        rw [← HR] at eE
        simp only [ne_eq] at eE
        rw [if_pos (by omega)] at eE
        subst eE
        clear hown hon hs HB NC hal HRV hc hbs hnc hrd hfx hyl hm1 HR HE
        go_wp2_with fail
        refine FX.out.mono ?_
        rintro e w2 ⟨a2, m2, c2, rfl, _, _, o2⟩
        have V2 := hideIt (VX.out w2 _ _ _ HS.out o2)
        have O2 := hideIt (HON.out.same o2)
        clear FX o2 HOWN VX
        go_wp2_with fail
        refine V2.out.mono ?_
        rintro e w3 ⟨a3, m3, c3, rfl, _, _, o3⟩
        have O3 := hideIt (O2.out.same o3)
        clear V2 o3
        go_wp2
        try rw [Exit.noGoto_ret]
        go_ret2
        exact ⟨_, rfl, World.ownsRow_nil _ _ _ _, O3.out⟩
      · have HR := HRV.out
        rw [rVs_go hs] at HR
        have HR := hideIt HR
        have HS := hideIt hs
        clear hown hon hs HB NC hal HRV hbs hnc hrd hfx hyl hm1
        go_wp2_with fail
        refine FX.out.mono ?_
        rintro e w2 ⟨a2, m2, c2, rfl, _, _, o2⟩
        have V2 := hideIt (VX.out w2 _ _ _ HS.out o2)
        have O2 := hideIt (HON.out.same o2)
        have OW2 := hideIt (o2.own HOWN.out (fun _ _ f => f))
        clear FX o2 HOWN VX
        go_wp2_with fail
        refine V2.out.mono ?_
        rintro e w3 ⟨a3, m3, c3, rfl, b3, n3, o3⟩
        have O3 := hideIt (O2.out.same o3)
        have own3 := o3.own OW2.out (fun _ _ f => f)
        have B3 := hideIt (And.intro b3 n3)
        have hsz := O3.out.size
        clear V2 o3 OW2 b3 n3 HBS HNC
        go_wp2_with (at_builtin; refine wpList_append_lies _ rfl _ _ _ rfl w.heap.size 42 i0 (.int .u64 0) 1 8 Tryz.underlying39 hi hz0 hz1 hz2 rfl (by omega) _ k _ rfl (own3.alloc _) ⟨w3.heap.size, 0, none⟩ 1 1 [.int .u64 (a : Int)] rfl rfl ?c1 ?c2 (by omega) ?c3 ?c4 ?c5 (w3.heap.size + 1) (by simp) ?_)
        case c1 => exact cell_one_new _ _ _
        case c2 => intro u hu; simp at hu; subst hu; rfl
        case c3 => unfold maxLen; omega
        case c4 => omega
        case c5 => simp; omega
        intro gg cap1 w4 hown1 hgrow hat hg1
        have o4 := hideIt ((O3.out.alloc _).grown hgrow (fun p hp0 hp => absurd (own3.lt p hp).1 (by omega)))
        have own4 : Hid (w4.ownsRow w.heap.size 42 1 (.slice (some ⟨gg, 0, none⟩) (k + 1) cap1) (k + 1) ((acc ++ [(a : Int)]).map (Value.int .u64))) := by
          simp only [Hid]
          rw [List.map_append]; exact hown1
        clear own3 hown1 hgrow hat
        go_wp2
        go_roundw
        case rel => exact ⟨k + 1, g, acc ++ [(a : Int)], ys'.drop q, a3, m3, c3, by omega, by go_num, rfl, by simp [HAL.out], by have := HYL.out; rw [List.length_drop]; omega, fun y hy => HRD.out y (List.mem_of_mem_drop hy), B3.out.1, B3.out.2, HR.out, own4.out, o4.out⟩
        case measure => simp [intOf]; omega
    | zero =>
      obtain rfl : k = n := by omega
      have dlt : decide ((k : Int) < (k : Int)) = false := by simp
      have HR : V = (acc, ys', 0) := HRV.out.symm
      have eE := HE.out
      rw [HR] at eE
      simp only [ne_eq, not_true_eq_false, if_false] at eE
      clear hown hon HB NC hal HRV hbs hnc hrd hfx hyl HR HE HV
      by_cases h9 : 0 < ys'.length
      · rw [if_pos h9] at eE
        subst eE
        have dp : decide ((0 : Int) < m1) = true := decide_eq_true (by omega)
        have dpn : decide (0 < m1) = true := decide_eq_true (by omega)
        have hpos : 0 < m1 := by omega
        clear hm1
        go_wp2
        try rw [Exit.noGoto_ret]
        go_ret2
        exact ⟨_, rfl, World.ownsRow_nil _ _ _ _, HON.out⟩
      · rw [if_neg h9] at eE
        subst eE
        obtain rfl : m1 = 0 := by omega
        obtain ⟨a8, c8, e8⟩ := (Bs.of_own (k := .u64) (xs := acc) (by rw [HAL.out]; exact HOWN.out)).len
        rw [HAL.out] at e8
        subst e8
        clear hm1
        go_wp2
        try rw [Exit.noGoto_ret]
        go_ret2
        refine ⟨_, rfl, ?_, HON.out⟩
        simp only [HAL.out]
        exact HOWN.out
end Go.Proofs.YtgbimghhdbmjiaaGreat
