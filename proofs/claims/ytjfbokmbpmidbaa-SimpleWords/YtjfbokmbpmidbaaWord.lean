/- Package simple: the word of a sort. -/
import Derived.Test.YtjfbokmbpmidbaaFit
import Derived.Test.YtjfbokmbpmidbaaSm2
namespace Go.Proofs.Ytjfbokmbpmidbaa
open Go.RowKit

theorem cast_pow (q : Nat) : ((2 ^ q : Nat) : Int) = (2 : Int) ^ q := by simp
theorem wrapU {x : Int} (h0 : 0 ≤ x) (h1 : x ≤ 18446744073709551615) : IntKind.u64.wrap x = x := by
  rw [IntKind.wrap_u64]; omega
/-- a partial word leaves room for the rest -/
theorem wacc_lt {s q : Nat} {zs : List Int} (hs : s < 16) (h : Up q zs) (k : Nat) (hk : k ≤ zs.length) : wacc s q (zs.take k) < 2 ^ (4 + k * q) := by
  obtain ⟨r, h1, h2⟩ := wacc_split q (zs.take k) s (h.take k)
  have hl : (zs.take k).length = k := by rw [List.length_take]; omega
  rw [hl] at h1 h2
  have : (s + 1) * 2 ^ (k * q) ≤ 16 * 2 ^ (k * q) := Nat.mul_le_mul_right _ (by omega)
  rw [Nat.add_mul, Nat.one_mul] at this
  rw [Nat.pow_add, show (2 : Nat) ^ 4 = 16 from rfl]
  omega
theorem word_step {s q : Nat} {zs : List Int} (hs : s < 16) (h : Up q zs) (hw : zs.length * q ≤ 60) (k : Nat) (hk : k < zs.length) :
    (wacc s q (zs.take k) : Int) * 2 ^ q ≤ 18446744073709551615 ∧ bits .or .u64 ((wacc s q (zs.take k) : Int) * 2 ^ q) (zs.getD k 0) = (wacc s q (zs.take (k + 1)) : Int) := by
  have h1 := wacc_lt hs h k (by omega)
  have hz := h _ (getD_mem zs k hk)
  have hn := toNat_up hz
  have hkq : (k + 1) * q ≤ 60 := Nat.le_trans (Nat.mul_le_mul_right q (by omega)) hw
  have h2 : wacc s q (zs.take k) * 2 ^ q < 2 ^ 64 := by
    have := Nat.mul_lt_mul_of_pos_right h1 (Nat.two_pow_pos q)
    rw [← Nat.pow_add] at this
    exact Nat.lt_of_lt_of_le this (Nat.pow_le_pow_right (by omega) (by rw [Nat.add_mul] at hkq; omega))
  have e64 : (2 : Nat) ^ 64 = 18446744073709551616 := by decide
  have hq : 2 ^ q ≤ 2 ^ 60 := Nat.pow_le_pow_right (by omega) (by
    have : 1 * q ≤ (k + 1) * q := Nat.mul_le_mul_right q (by omega)
    omega)
  have e60 : (2 : Nat) ^ 60 = 1152921504606846976 := by decide
  rw [take_snoc zs k hk, wacc_snoc]
  generalize zs.getD k 0 = z at *
  generalize wacc s q (zs.take k) = a at *
  obtain ⟨m, rfl⟩ := Int.eq_ofNat_of_zero_le hz.1
  rw [Int.toNat_natCast] at hn ⊢
  have e2 : ((a : Int) * 2 ^ q) = ((a * 2 ^ q : Nat) : Int) := by simp
  rw [e2]
  refine ⟨by omega, ?_⟩
  rw [u64_or_nat _ _ (by omega) (by omega), nat_join q _ _ (Nat.mul_mod_left _ _) hn]

set_option maxHeartbeats 400000 in
set_option maxRecDepth 100000 in
theorem word_bs (s q : Nat) (v : Value) (zs : List Int) (w : World) (h : Bs .u64 w v zs) (hs : s < 16) (hu : Up q zs) (hw : zs.length * q ≤ 60) (hq : q ≤ 60) (hl : zs.length ≤ 240) :
    Calls Try.prog 21 #[.int .i64 s, v, .int .i64 q] w fun e w' => e = .returned (.int .u64 (wordN s q zs)) ∧ w = w' := by
  obtain ⟨ao, cap, rfl⟩ := h.len
  have HB := hideIt h
  have HU := hideIt hu
  have HW := hideIt hw
  have FIN : Hid ((wacc s q zs : Int) * 2 ^ (60 - zs.length * q) = (wordN s q zs : Int)) := by simp only [Hid, wordN]; simp
  have FLT : Hid (wordN s q zs < 18446744073709551616) := wordN_lt hs hu hw
  obtain ⟨m, hm⟩ : ∃ m, m = zs.length := ⟨_, rfl⟩
  rw [← hm] at HB hl FIN ⊢
  have HM := hideIt hm
  have p0 : (0 : Int) ≤ (m : Int) * (q : Int) := by rw [← Int.natCast_mul]; omega
  have p1 : (m : Int) * (q : Int) ≤ 60 := by rw [← Int.natCast_mul, hm]; omega
  clear h hu hm hw
  have hq2 : (q : Int) ≤ 60 := by omega
  have hs2 : (s : Int) ≤ 15 := by omega
  go_enter Try.func21, Try.ntmps21
  go_wp2
  go_loop [7, 14] (fun a i => ∃ k : Nat, k ≤ m ∧ i = .int .i64 k ∧ a = .int .u64 (wacc s q (zs.take k))) (fun _ i => m - (intOf i).toNat)
  case atStart => exact ⟨0, Nat.zero_le _, rfl, rfl⟩
  case round =>
    obtain ⟨k, hk, rfl, rfl⟩ := hrel
    by_cases hlt : k < m
    · have hkx : k < zs.length := by rw [← HM.out]; exact hlt
      obtain ⟨b, off, cap', e1, c0⟩ := (HB.out).at k hkx
      simp only [Value.slice.injEq] at e1
      obtain ⟨rfl, e2, rfl⟩ := e1
      clear e2
      obtain ⟨hsh, hst⟩ := word_step hs HU.out HW.out k hkx
      have hz := HU.out _ (getD_mem zs k hkx)
      have HST := hideIt hst
      generalize zs.getD k 0 = x at c0 HST hz
      generalize wacc s q (zs.take k) = a at hsh HST
      have i0 : (0 : Int) ≤ (k : Int) := by omega
      have i1 : (k : Int) < (m : Int) := by omega
      have hz0 := hz.1
      clear hst hkx hz
      have h00 : 0 ≤ (a : Int) * 2 ^ q := by rw [← cast_pow, ← Int.natCast_mul]; omega
      go_wp2
      go_round
      case rel => exact ⟨k + 1, by omega, by go_num, by rw [HST.out]⟩
      case measure => simp [intOf]; omega
    · have hkm : k = m := by omega
      subst hkm
      rw [HM.out, List.take_length, ← HM.out]
      generalize wacc s q zs = a at FIN
      go_wp2
      go_ret
      refine ⟨ret_int ?_, rfl⟩
      rw [FIN.out, wrapU (by omega) (by have := FLT.out; omega)]

set_option maxHeartbeats 400000 in
set_option maxRecDepth 100000 in
theorem encode_long (v : Value) (xs : List Int) (w : World) (h : Bs .u64 w v xs) (hl : 65536 < xs.length) :
    Calls Try.prog 10 #[v] w fun e w' => e = .returned (.tuple #[.slice none 0 0, .int .i64 4]) ∧ w = w' := by
  obtain ⟨ao, cap, rfl⟩ := h.len
  have d : decide (65536 < (xs.length : Int)) = true := by simp; omega
  generalize xs.length = n at *
  clear h
  go_enter Try.func10, Try.ntmps10
  go_wp2
  go_ret2
  exact ⟨rfl, rfl⟩

set_option maxHeartbeats 400000 in
set_option maxRecDepth 100000 in
theorem encode_arg (v : Value) (xs : List Int) (w : World) (h : Bs .u64 w v xs) (hu : ∀ x ∈ xs, 0 ≤ x ∧ x ≤ 18446744073709551615) (hl : xs.length ≤ 65536) (hs : small 60 xs = false) :
    Calls Try.prog 10 #[v] w fun e w' => e = .returned (.tuple #[.slice none 0 0, .int .i64 1]) ∧ w = w' := by
  have A := hideIt (allFit_bs v xs 60 w h hu (by omega) (by omega))
  rw [hs] at A
  obtain ⟨ao, cap, rfl⟩ := h.len
  have d : decide (65536 < (xs.length : Int)) = false := by simp; omega
  generalize xs.length = n at *
  clear h
  go_enter Try.func10, Try.ntmps10
  go_wp2_with fail
  refine A.out.mono ?_
  rintro e w1 ⟨rfl, rfl⟩
  go_wp2
  go_ret2
  exact ⟨rfl, rfl⟩

set_option maxHeartbeats 800000 in
set_option maxRecDepth 100000 in
theorem encode_bs (v : Value) (xs : List Int) (w : World) (h : Bs .u64 w v xs) (hu : Up 60 xs) (hl : xs.length ≤ 65536) :
    Calls Try.prog 10 #[v] w fun e w' => ∃ v', e = .returned (.tuple #[v', .int .i64 0]) ∧ w'.ownsRow w.heap.size 5 1 v' (enc xs).length ((enc xs).map (Value.int .u8)) ∧ Only (fun _ => False) w w' := by
  obtain ⟨i0, hi, hz0, hz1, hz2⟩ := info_parts Try.infoU8
  have A := hideIt (allFit_bs v xs 60 w h (fun x hx => ⟨(hu x hx).1, by have := (hu x hx).2; omega⟩) (by omega) (by omega))
  rw [up_small hu] at A
  have HEL := hideIt (enc_len xs.length xs rfl hu).2.1
  obtain ⟨ao, cap, rfl⟩ := h.len
  have HB := hideIt h
  have HU := hideIt hu
  have d : decide (65536 < (xs.length : Int)) = false := by simp; omega
  obtain ⟨m, hm⟩ : ∃ m, m = xs.length := ⟨_, rfl⟩
  rw [← hm] at HB hl d A HEL ⊢
  have HM := hideIt hm
  clear h hu hm
  go_enter Try.func10, Try.ntmps10
  go_wp2_with fail
  refine A.out.mono ?_
  rintro e w1 ⟨rfl, rfl⟩
  clear A
  go_wp2
  go_loopw [0, 4] (fun l o wr => ∃ (zs done : List Int) (ao : Option Addr) (cap : Nat), done ++ enc zs = enc xs ∧ Up 60 zs ∧ l = .slice ao zs.length cap ∧ zs.length ≤ m ∧ Bs .u64 w (.slice ao zs.length cap) zs ∧ wr.ownsRow w.heap.size 5 1 o done.length (done.map (Value.int .u8)) ∧ Only (fun _ => False) w wr) (fun l _ _ => (match l with | .slice _ n _ => n | _ => 0))
  case atStart => exact ⟨xs, [], ao, cap, rfl, HU.out, by rw [HM.out], by rw [← HM.out]; omega, by rw [← HM.out]; exact HB.out, World.ownsRow_nil _ _ _ _, Only.refl _ _⟩
  case round =>
    obtain ⟨zs, done, ao, cap, hdone, hup, rfl, hzm, hbs, hown, hon⟩ := hrel
    clear HB HU
    by_cases hz : zs = []
    · subst hz
      have d0 : decide (0 < (([] : List Int).length : Int)) = false := by simp
      rw [enc_nil, List.append_nil] at hdone
      rw [hdone] at hown
      obtain ⟨a6, c6, e6⟩ := (Bs.of_own hown).len
      subst e6
      have H := hideIt (And.intro hown hon)
      clear hown hon hdone hbs
      simp only [List.length_nil]
      go_wp2
      go_ret2
      exact ⟨_, rfl, H.out⟩
    · have hpos : 0 < zs.length := List.length_pos_iff.2 hz
      obtain ⟨f1, f2, f3⟩ := least_fits hz hup
      obtain ⟨g1, g2, g3, g4, _⟩ := sort_at _ f1
      have LS := hideIt (leastSort_bs _ zs wr (hbs.keep hon (fun _ _ f => f)) hup hz (by omega))
      have htl : (zs.take (cn (least zs))).length = cn (least zs) := by rw [List.length_take]; omega
      have WF : Hid (∀ w2, Only (fun _ => False) w w2 → Calls Try.prog 21 #[.int .i64 (least zs), .slice ao (cn (least zs)) cap, .int .i64 (wi (least zs))] w2 fun e w' => e = .returned (.int .u64 (wd0 zs)) ∧ w2 = w') :=
        fun w2 o2 => word_bs (least zs) (wi (least zs)) _ (zs.take (cn (least zs))) w2 ((hbs.head (n := cn (least zs)) f2).keep o2 (fun _ _ f => f)) f1 f3 (by rw [htl]; exact g4) g3 (by rw [htl]; omega)
      have RM : Hid (∀ w2, Calls Try.prog 12 #[.int .i64 (least zs)] w2 fun e w' => e = .returned (.tuple #[.int .i64 (cn (least zs)), .int .i64 (wi (least zs))]) ∧ Only (fun _ => False) w2 w') := fun w2 => room_at (least zs) w2 f1
      have ES : Hid (done ++ fixL (wd0 zs) 8 ++ enc (zs.drop (cn (least zs))) = enc xs) := by simp only [Hid]; rw [← hdone, enc_step hz hup, List.append_assoc]
      have HUD : Hid (Up 60 (zs.drop (cn (least zs)))) := hup.drop _
      have HDL : Hid (done.length ≤ 8 * m) := by
        have h1 := congrArg List.length hdone
        rw [List.length_append] at h1
        have := HEL.out
        simp only [Hid]; omega
      have hcap := hbs.cap_le
      have HBS := hideIt hbs
      have HOWN := hideIt hown
      have HON := hideIt hon
      obtain ⟨n, hn⟩ : ∃ n, n = zs.length := ⟨_, rfl⟩
      have HNL := hideIt hn
      rw [← hn] at LS hcap HBS hpos hzm f2 ⊢
      generalize cn (least zs) = c at *
      generalize wi (least zs) = q at *
      generalize least zs = s at *
      generalize wd0 zs = x at *
      have d0 : decide (0 < (n : Int)) = true := by simp; omega
      have j0 : (0 : Int) ≤ (c : Int) := by omega
      have j1 : (c : Int) ≤ (n : Int) := by omega
      have j2 : (c : Int) ≤ (cap : Int) := by omega
      clear hbs hown hon hdone hup hn hz f1 f3 g4 htl
      by_cases hcc : cap = c
      · subst hcc
        go_wp2_with fail
        refine LS.out.mono ?_
        rintro e w2 ⟨rfl, o2⟩
        have O2 := hideIt (HON.out.trans o2 (fun _ _ f => f))
        have OW2 := hideIt (o2.own HOWN.out (fun _ _ f => f))
        clear o2 LS HON HOWN
        go_wp2_with fail
        refine (RM.out w2).mono ?_
        rintro e w3 ⟨rfl, o3⟩
        have O3 := hideIt (O2.out.trans o3 (fun _ _ f => f))
        have OW3 := hideIt (o3.own OW2.out (fun _ _ f => f))
        clear o3 O2 OW2 RM
        go_wp2_with fail
        refine (WF.out w3 O3.out).mono ?_
        rintro e w3' ⟨rfl, rfl⟩
        clear WF
        go_wp2_with fail
        refine (fix_any x 8 w3 (by omega)).mono ?_
        rintro e w4 ⟨u, rfl, own4, o4⟩
        have ow := o4.own OW3.out (fun _ _ f => f)
        have hb4 := Bs.of_own own4
        have NC4 := hideIt (NoCap.of_own own4)
        have HB4 := hideIt hb4
        have hs4 : w.heap.size ≤ w4.heap.size := Nat.le_trans O3.out.size o4.size
        have O4 := hideIt (O3.out.trans o4 (fun _ _ f => f))
        obtain ⟨a4, c4, e4⟩ := hb4.len
        subst e4
        clear o4 own4 O3 OW3 hb4
        rw [fixL_len] at HB4 NC4
        go_wp2_with (at_builtin; refine wpList_append_bs _ rfl _ _ _ rfl w.heap.size 5 i0 (.int .u8 0) 1 Try.underlying24 hi hz0 hz1 hz2 rfl _ _ _ rfl ow .u8 _ (fixL x 8) rfl HB4.out NC4.out ?c3 ?c4 hs4 ?_)
        case c3 => have := HDL.out; rw [fixL_len]; unfold maxLen; omega
        case c4 => have := HDL.out; rw [fixL_len]; omega
        intro v6 w6 own6 hgrow6 _ _
        have OWN6 : Hid (w6.ownsRow w.heap.size 5 1 v6 (done ++ fixL x 8).length ((done ++ fixL x 8).map (Value.int .u8))) := by
          simp only [Hid]; rw [List.length_append, List.map_append]; exact own6
        have O6 := hideIt (O4.out.grown hgrow6 (fun k hk e => absurd (ow.lt k e).1 (by omega)))
        clear ow own6 hgrow6
        go_wp2
        go_roundw
        case rel =>
          refine ⟨zs.drop cap, done ++ fixL x 8, ao, 0, ES.out, HUD.out, ?_, by rw [List.length_drop, ← HNL.out]; omega, ?_, OWN6.out, O6.out⟩
          · rw [List.length_drop, ← HNL.out, show n - cap = 0 by omega]
          · rw [List.length_drop, ← HNL.out]
            exact (Nat.sub_self cap ▸ HBS.out.cut0 f2)
        case measure =>
          simp only []
          omega
      · go_wp2_with fail
        refine LS.out.mono ?_
        rintro e w2 ⟨rfl, o2⟩
        have O2 := hideIt (HON.out.trans o2 (fun _ _ f => f))
        have OW2 := hideIt (o2.own HOWN.out (fun _ _ f => f))
        clear o2 LS HON HOWN
        go_wp2_with fail
        refine (RM.out w2).mono ?_
        rintro e w3 ⟨rfl, o3⟩
        have O3 := hideIt (O2.out.trans o3 (fun _ _ f => f))
        have OW3 := hideIt (o3.own OW2.out (fun _ _ f => f))
        clear o3 O2 OW2 RM
        go_wp2_with fail
        refine (WF.out w3 O3.out).mono ?_
        rintro e w3' ⟨rfl, rfl⟩
        clear WF
        go_wp2_with fail
        refine (fix_any x 8 w3 (by omega)).mono ?_
        rintro e w4 ⟨u, rfl, own4, o4⟩
        have ow := o4.own OW3.out (fun _ _ f => f)
        have hb4 := Bs.of_own own4
        have NC4 := hideIt (NoCap.of_own own4)
        have HB4 := hideIt hb4
        have hs4 : w.heap.size ≤ w4.heap.size := Nat.le_trans O3.out.size o4.size
        have O4 := hideIt (O3.out.trans o4 (fun _ _ f => f))
        obtain ⟨a4, c4, e4⟩ := hb4.len
        subst e4
        clear o4 own4 O3 OW3 hb4
        rw [fixL_len] at HB4 NC4
        go_wp2_with (at_builtin; refine wpList_append_bs _ rfl _ _ _ rfl w.heap.size 5 i0 (.int .u8 0) 1 Try.underlying24 hi hz0 hz1 hz2 rfl _ _ _ rfl ow .u8 _ (fixL x 8) rfl HB4.out NC4.out ?c3 ?c4 hs4 ?_)
        case c3 => have := HDL.out; rw [fixL_len]; unfold maxLen; omega
        case c4 => have := HDL.out; rw [fixL_len]; omega
        intro v6 w6 own6 hgrow6 _ _
        have OWN6 : Hid (w6.ownsRow w.heap.size 5 1 v6 (done ++ fixL x 8).length ((done ++ fixL x 8).map (Value.int .u8))) := by
          simp only [Hid]; rw [List.length_append, List.map_append]; exact own6
        have O6 := hideIt (O4.out.grown hgrow6 (fun k hk e => absurd (ow.lt k e).1 (by omega)))
        clear ow own6 hgrow6
        go_wp2
        go_roundw
        case rel =>
          refine ⟨zs.drop c, done ++ fixL x 8, ao.map (fun x => x.add c), cap - c, ES.out, HUD.out, ?_, by rw [List.length_drop, ← HNL.out]; omega, ?_, OWN6.out, O6.out⟩
          · rw [List.length_drop, ← HNL.out]
          · rw [List.length_drop, ← HNL.out]
            exact HBS.out.cut f2
        case measure =>
          simp only []
          omega
end Go.Proofs.Ytjfbokmbpmidbaa
