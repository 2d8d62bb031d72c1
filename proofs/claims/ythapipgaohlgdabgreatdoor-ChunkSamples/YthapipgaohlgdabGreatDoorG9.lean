/- Several texts in one: Word, Eq, Rd6, Same, Same2, SameU, Tot6, Ren. -/
import Derived.Test.YthapipgaohlgdabGreatDoorG8
import Derived.Test.YthapipgaohlgdabGreatDoorProg
import Derived.Test.YthapipgaohlgdabGreatDoorG1
import Derived.Shelf.Bytes.SlSmallAll
import Derived.Test.YthapipgaohlgdabGreatDoorG7
import Derived.Deep.LoopGhost
import Derived.WalkMore

/- Package simple: the word of a sort. -/
namespace Go.Proofs.YthapipgaohlgdabGreatDoor
open Go.RowKit

theorem cast_pow (q : Nat) : ((2 ^ q : Nat) : Int) = (2 : Int) ^ q := by simp
theorem wrapU {x : Int} (h0 : 0 ≤ x) (h1 : x ≤ 18446744073709551615) : IntKind.u64.wrap x = x := by
  rw [IntKind.wrap_u64]; omega
/-- a word that is not full leaves room for the rest -/
theorem wacc_lt {s q : Nat} {zs : List Int} (hs : s < 16) (h : Up q zs) (k : Nat) (hk : k ≤ zs.length) : wacc s q (zs.take k) < 2 ^ (4 + k * q) := by
  obtain ⟨r, h1, h2⟩ := wacc_split q (zs.take k) s (h.take k)
  have hl : (zs.take k).length = k := by rw [List.length_take]; omega
  rw [hl] at h1 h2
  have : (s + 1) * 2 ^ (k * q) ≤ 16 * 2 ^ (k * q) := Nat.mul_le_mul_right _ (by omega)
  rw [Nat.add_mul, Nat.one_mul] at this
  rw [Nat.pow_add, show (2 : Nat) ^ 4 = 16 from rfl]
  omega
theorem word_step {s q : Nat} {zs : List Int} (hs : s < 16) (h : Up q zs) (hw : zs.length * q ≤ 60) (k : Nat) (hk : k < zs.length) :
    (wacc s q (zs.take k) : Int) * 2 ^ q ≤ 18446744073709551615 ∧ bits .or .u64 ((wacc s q (zs.take k) : Int) * 2 ^ q) (zs.getD k 0) = (wacc s q (zs.take (k + 1)) : Int) := by
  have h1 := wacc_lt hs h k (by omega)
  have hz := h _ (getD_mem zs k hk)
  have hn := toNat_up hz
  have hkq : (k + 1) * q ≤ 60 := Nat.le_trans (Nat.mul_le_mul_right q (by omega)) hw
  have h2 : wacc s q (zs.take k) * 2 ^ q < 2 ^ 64 := by
    have := Nat.mul_lt_mul_of_pos_right h1 (Nat.two_pow_pos q)
    rw [← Nat.pow_add] at this
    exact Nat.lt_of_lt_of_le this (Nat.pow_le_pow_right (by omega) (by rw [Nat.add_mul] at hkq; omega))
  have e64 : (2 : Nat) ^ 64 = 18446744073709551616 := by decide
  have hq : 2 ^ q ≤ 2 ^ 60 := Nat.pow_le_pow_right (by omega) (by
    have : 1 * q ≤ (k + 1) * q := Nat.mul_le_mul_right q (by omega)
    omega)
  have e60 : (2 : Nat) ^ 60 = 1152921504606846976 := by decide
  rw [take_snoc zs k hk, wacc_snoc]
  generalize zs.getD k 0 = z at *
  generalize wacc s q (zs.take k) = a at *
  obtain ⟨m, rfl⟩ := Int.eq_ofNat_of_zero_le hz.1
  rw [Int.toNat_natCast] at hn ⊢
  have e2 : ((a : Int) * 2 ^ q) = ((a * 2 ^ q : Nat) : Int) := by simp
  rw [e2]
  refine ⟨by omega, ?_⟩
  rw [u64_or_nat _ _ (by omega) (by omega), nat_join q _ _ (Nat.mul_mod_left _ _) hn]

set_option maxHeartbeats 400000 in
set_option maxRecDepth 100000 in
theorem word_bs (s q : Nat) (v : Value) (zs : List Int) (w : World) (h : Bs .u64 w v zs) (hs : s < 16) (hu : Up q zs) (hw : zs.length * q ≤ 60) (hq : q ≤ 60) (hl : zs.length ≤ 240) :
    Calls Tryz.prog 88 #[.int .i64 s, v, .int .i64 q] w fun e w' => e = .returned (.int .u64 (wordN s q zs)) ∧ w = w' := by
  obtain ⟨ao, cap, rfl⟩ := h.len
  have HB := hideIt h
  have HU := hideIt hu
  have HW := hideIt hw
  have FIN : Hid ((wacc s q zs : Int) * 2 ^ (60 - zs.length * q) = (wordN s q zs : Int)) := by simp only [Hid, wordN]; simp
  have FLT : Hid (wordN s q zs < 18446744073709551616) := wordN_lt hs hu hw
  obtain ⟨m, hm⟩ : ∃ m, m = zs.length := ⟨_, rfl⟩
  rw [← hm] at HB hl FIN ⊢
  have HM := hideIt hm
  have p0 : (0 : Int) ≤ (m : Int) * (q : Int) := by rw [← Int.natCast_mul]; omega
  have p1 : (m : Int) * (q : Int) ≤ 60 := by rw [← Int.natCast_mul, hm]; omega
  clear h hu hm hw
  have hq2 : (q : Int) ≤ 60 := by omega
  have hs2 : (s : Int) ≤ 15 := by omega
  go_enter Tryz.func88, Tryz.ntmps88
  go_wp2
  go_loop [7, 14] (fun a i => ∃ k : Nat, k ≤ m ∧ i = .int .i64 k ∧ a = .int .u64 (wacc s q (zs.take k))) (fun _ i => m - (intOf i).toNat)
  case atStart => exact ⟨0, Nat.zero_le _, rfl, rfl⟩
  case round =>
    obtain ⟨k, hk, rfl, rfl⟩ := hrel
    by_cases hlt : k < m
    · have hkx : k < zs.length := by rw [← HM.out]; exact hlt
      obtain ⟨b, off, cap', e1, c0⟩ := (HB.out).at k hkx
      simp only [Value.slice.injEq] at e1
      obtain ⟨rfl, e2, rfl⟩ := e1
      clear e2
      obtain ⟨hsh, hst⟩ := word_step hs HU.out HW.out k hkx
      have hz := HU.out _ (getD_mem zs k hkx)
      have HST := hideIt hst
      generalize zs.getD k 0 = x at c0 HST hz
      generalize wacc s q (zs.take k) = a at hsh HST
      have i0 : (0 : Int) ≤ (k : Int) := by omega
      have i1 : (k : Int) < (m : Int) := by omega
      have hz0 := hz.1
      clear hst hkx hz
      have h00 : 0 ≤ (a : Int) * 2 ^ q := by rw [← cast_pow, ← Int.natCast_mul]; omega
      go_wp2
      go_round
      case rel => exact ⟨k + 1, by omega, by go_num, by rw [HST.out]⟩
      case measure => simp [intOf]; omega
    · have hkm : k = m := by omega
      subst hkm
      rw [HM.out, List.take_length, ← HM.out]
      generalize wacc s q zs = a at FIN
      go_wp2
      go_ret
      refine ⟨ret_int ?_, rfl⟩
      rw [FIN.out, wrapU (by omega) (by have := FLT.out; omega)]

set_option maxHeartbeats 400000 in
set_option maxRecDepth 100000 in
theorem encode_long (v : Value) (xs : List Int) (w : World) (h : Bs .u64 w v xs) (hl : 65536 < xs.length) :
    Calls Tryz.prog 63 #[v] w fun e w' => e = .returned (.tuple #[.slice none 0 0, .int .i64 4]) ∧ w = w' := by
  obtain ⟨ao, cap, rfl⟩ := h.len
  have d : decide (65536 < (xs.length : Int)) = true := by simp; omega
  generalize xs.length = n at *
  clear h
  go_enter Tryz.func63, Tryz.ntmps63
  go_wp2
  go_ret2
  exact ⟨rfl, rfl⟩

set_option maxHeartbeats 400000 in
set_option maxRecDepth 100000 in
theorem encode_arg (v : Value) (xs : List Int) (w : World) (h : Bs .u64 w v xs) (hu : ∀ x ∈ xs, 0 ≤ x ∧ x ≤ 18446744073709551615) (hl : xs.length ≤ 65536) (hs : small 60 xs = false) :
    Calls Tryz.prog 63 #[v] w fun e w' => e = .returned (.tuple #[.slice none 0 0, .int .i64 1]) ∧ w = w' := by
  have A := hideIt (allFit_bs v xs 60 w h hu (by omega) (by omega))
  rw [hs] at A
  obtain ⟨ao, cap, rfl⟩ := h.len
  have d : decide (65536 < (xs.length : Int)) = false := by simp; omega
  generalize xs.length = n at *
  clear h
  go_enter Tryz.func63, Tryz.ntmps63
  go_wp2_with fail
  refine A.out.mono ?_
  rintro e w1 ⟨rfl, rfl⟩
  go_wp2
  go_ret2
  exact ⟨rfl, rfl⟩

set_option maxHeartbeats 800000 in
set_option maxRecDepth 100000 in
theorem encode_bs (v : Value) (xs : List Int) (w : World) (h : Bs .u64 w v xs) (hu : Up 60 xs) (hl : xs.length ≤ 65536) :
    Calls Tryz.prog 63 #[v] w fun e w' => ∃ v', e = .returned (.tuple #[v', .int .i64 0]) ∧ w'.ownsRow w.heap.size 5 1 v' (enc xs).length ((enc xs).map (Value.int .u8)) ∧ Only (fun _ => False) w w' := by
  obtain ⟨i0, hi, hz0, hz1, hz2⟩ := info_parts Tryz.infoU8
  have A := hideIt (allFit_bs v xs 60 w h (fun x hx => ⟨(hu x hx).1, by have := (hu x hx).2; omega⟩) (by omega) (by omega))
  rw [up_small hu] at A
  have HEL := hideIt (enc_len xs.length xs rfl hu).2.1
  obtain ⟨ao, cap, rfl⟩ := h.len
  have HB := hideIt h
  have HU := hideIt hu
  have d : decide (65536 < (xs.length : Int)) = false := by simp; omega
  obtain ⟨m, hm⟩ : ∃ m, m = xs.length := ⟨_, rfl⟩
  rw [← hm] at HB hl d A HEL ⊢
  have HM := hideIt hm
  clear h hu hm
  go_enter Tryz.func63, Tryz.ntmps63
  go_wp2_with fail
  refine A.out.mono ?_
  rintro e w1 ⟨rfl, rfl⟩
  clear A
  go_wp2
  go_loopw [0, 4] (fun l o wr => ∃ (zs done : List Int) (ao : Option Addr) (cap : Nat), done ++ enc zs = enc xs ∧ Up 60 zs ∧ l = .slice ao zs.length cap ∧ zs.length ≤ m ∧ Bs .u64 w (.slice ao zs.length cap) zs ∧ wr.ownsRow w.heap.size 5 1 o done.length (done.map (Value.int .u8)) ∧ Only (fun _ => False) w wr) (fun l _ _ => (match l with | .slice _ n _ => n | _ => 0))
  case atStart => exact ⟨xs, [], ao, cap, rfl, HU.out, by rw [HM.out], by rw [← HM.out]; omega, by rw [← HM.out]; exact HB.out, World.ownsRow_nil _ _ _ _, Only.refl _ _⟩
  case round =>
    obtain ⟨zs, done, ao, cap, hdone, hup, rfl, hzm, hbs, hown, hon⟩ := hrel
    clear HB HU
    by_cases hz : zs = []
    · subst hz
      have d0 : decide (0 < (([] : List Int).length : Int)) = false := by simp
      rw [enc_nil, List.append_nil] at hdone
      rw [hdone] at hown
      obtain ⟨a6, c6, e6⟩ := (Bs.of_own hown).len
      subst e6
      have H := hideIt (And.intro hown hon)
      clear hown hon hdone hbs
      simp only [List.length_nil]
      go_wp2
      go_ret2
      exact ⟨_, rfl, H.out⟩
    · have hpos : 0 < zs.length := List.length_pos_iff.2 hz
      obtain ⟨f1, f2, f3⟩ := least_fits hz hup
      obtain ⟨g1, g2, g3, g4, _⟩ := sort_at _ f1
      have LS := hideIt (leastSort_bs _ zs wr (hbs.keep hon (fun _ _ f => f)) hup hz (by omega))
      have htl : (zs.take (cn (least zs))).length = cn (least zs) := by rw [List.length_take]; omega
      have WF : Hid (∀ w2, Only (fun _ => False) w w2 → Calls Tryz.prog 88 #[.int .i64 (least zs), .slice ao (cn (least zs)) cap, .int .i64 (wi (least zs))] w2 fun e w' => e = .returned (.int .u64 (wd0 zs)) ∧ w2 = w') :=
        fun w2 o2 => word_bs (least zs) (wi (least zs)) _ (zs.take (cn (least zs))) w2 ((hbs.head (n := cn (least zs)) f2).keep o2 (fun _ _ f => f)) f1 f3 (by rw [htl]; exact g4) g3 (by rw [htl]; omega)
      have RM : Hid (∀ w2, Calls Tryz.prog 87 #[.int .i64 (least zs)] w2 fun e w' => e = .returned (.tuple #[.int .i64 (cn (least zs)), .int .i64 (wi (least zs))]) ∧ Only (fun _ => False) w2 w') := fun w2 => room_at (least zs) w2 f1
      have ES : Hid (done ++ fixL (wd0 zs) 8 ++ enc (zs.drop (cn (least zs))) = enc xs) := by simp only [Hid]; rw [← hdone, enc_step hz hup, List.append_assoc]
      have HUD : Hid (Up 60 (zs.drop (cn (least zs)))) := hup.drop _
      have HDL : Hid (done.length ≤ 8 * m) := by
        have h1 := congrArg List.length hdone
        rw [List.length_append] at h1
        have := HEL.out
        simp only [Hid]; omega
      have hcap := hbs.cap_le
      have HBS := hideIt hbs
      have HOWN := hideIt hown
      have HON := hideIt hon
      obtain ⟨n, hn⟩ : ∃ n, n = zs.length := ⟨_, rfl⟩
      have HNL := hideIt hn
      rw [← hn] at LS hcap HBS hpos hzm f2 ⊢
      generalize cn (least zs) = c at *
      generalize wi (least zs) = q at *
      generalize least zs = s at *
      generalize wd0 zs = x at *
      have d0 : decide (0 < (n : Int)) = true := by simp; omega
      have j0 : (0 : Int) ≤ (c : Int) := by omega
      have j1 : (c : Int) ≤ (n : Int) := by omega
      have j2 : (c : Int) ≤ (cap : Int) := by omega
      clear hbs hown hon hdone hup hn hz f1 f3 g4 htl
      by_cases hcc : cap = c
      · subst hcc
        go_wp2_with fail
        refine LS.out.mono ?_
        rintro e w2 ⟨rfl, o2⟩
        have O2 := hideIt (HON.out.trans o2 (fun _ _ f => f))
        have OW2 := hideIt (o2.own HOWN.out (fun _ _ f => f))
        clear o2 LS HON HOWN
        go_wp2_with fail
        refine (RM.out w2).mono ?_
        rintro e w3 ⟨rfl, o3⟩
        have O3 := hideIt (O2.out.trans o3 (fun _ _ f => f))
        have OW3 := hideIt (o3.own OW2.out (fun _ _ f => f))
        clear o3 O2 OW2 RM
        go_wp2_with fail
        refine (WF.out w3 O3.out).mono ?_
        rintro e w3' ⟨rfl, rfl⟩
        clear WF
        go_wp2_with fail
        refine (fix_any x 8 w3 (by omega)).mono ?_
        rintro e w4 ⟨u, rfl, own4, o4⟩
        have ow := o4.own OW3.out (fun _ _ f => f)
        have hb4 := Bs.of_own own4
        have NC4 := hideIt (NoCap.of_own own4)
        have HB4 := hideIt hb4
        have hs4 : w.heap.size ≤ w4.heap.size := Nat.le_trans O3.out.size o4.size
        have O4 := hideIt (O3.out.trans o4 (fun _ _ f => f))
        obtain ⟨a4, c4, e4⟩ := hb4.len
        subst e4
        clear o4 own4 O3 OW3 hb4
        rw [fixL_len] at HB4 NC4
        go_wp2_with (at_builtin; refine wpList_append_bs _ rfl _ _ _ rfl w.heap.size 5 i0 (.int .u8 0) 1 Tryz.underlying29 hi hz0 hz1 hz2 rfl _ _ _ rfl ow .u8 _ (fixL x 8) rfl HB4.out NC4.out ?c3 ?c4 hs4 ?_)
        case c3 => have := HDL.out; rw [fixL_len]; unfold maxLen; omega
        case c4 => have := HDL.out; rw [fixL_len]; omega
        intro v6 w6 own6 hgrow6 _ _
        have OWN6 : Hid (w6.ownsRow w.heap.size 5 1 v6 (done ++ fixL x 8).length ((done ++ fixL x 8).map (Value.int .u8))) := by
          simp only [Hid]; rw [List.length_append, List.map_append]; exact own6
        have O6 := hideIt (O4.out.grown hgrow6 (fun k hk e => absurd (ow.lt k e).1 (by omega)))
        clear ow own6 hgrow6
        go_wp2
        go_roundw
        case rel =>
          refine ⟨zs.drop cap, done ++ fixL x 8, ao, 0, ES.out, HUD.out, ?_, by rw [List.length_drop, ← HNL.out]; omega, ?_, OWN6.out, O6.out⟩
          · rw [List.length_drop, ← HNL.out, show n - cap = 0 by omega]
          · rw [List.length_drop, ← HNL.out]
            exact (Nat.sub_self cap ▸ HBS.out.cut0 f2)
        case measure =>
          simp only []
          omega
      · go_wp2_with fail
        refine LS.out.mono ?_
        rintro e w2 ⟨rfl, o2⟩
        have O2 := hideIt (HON.out.trans o2 (fun _ _ f => f))
        have OW2 := hideIt (o2.own HOWN.out (fun _ _ f => f))
        clear o2 LS HON HOWN
        go_wp2_with fail
        refine (RM.out w2).mono ?_
        rintro e w3 ⟨rfl, o3⟩
        have O3 := hideIt (O2.out.trans o3 (fun _ _ f => f))
        have OW3 := hideIt (o3.own OW2.out (fun _ _ f => f))
        clear o3 O2 OW2 RM
        go_wp2_with fail
        refine (WF.out w3 O3.out).mono ?_
        rintro e w3' ⟨rfl, rfl⟩
        clear WF
        go_wp2_with fail
        refine (fix_any x 8 w3 (by omega)).mono ?_
        rintro e w4 ⟨u, rfl, own4, o4⟩
        have ow := o4.own OW3.out (fun _ _ f => f)
        have hb4 := Bs.of_own own4
        have NC4 := hideIt (NoCap.of_own own4)
        have HB4 := hideIt hb4
        have hs4 : w.heap.size ≤ w4.heap.size := Nat.le_trans O3.out.size o4.size
        have O4 := hideIt (O3.out.trans o4 (fun _ _ f => f))
        obtain ⟨a4, c4, e4⟩ := hb4.len
        subst e4
        clear o4 own4 O3 OW3 hb4
        rw [fixL_len] at HB4 NC4
        go_wp2_with (at_builtin; refine wpList_append_bs _ rfl _ _ _ rfl w.heap.size 5 i0 (.int .u8 0) 1 Tryz.underlying29 hi hz0 hz1 hz2 rfl _ _ _ rfl ow .u8 _ (fixL x 8) rfl HB4.out NC4.out ?c3 ?c4 hs4 ?_)
        case c3 => have := HDL.out; rw [fixL_len]; unfold maxLen; omega
        case c4 => have := HDL.out; rw [fixL_len]; omega
        intro v6 w6 own6 hgrow6 _ _
        have OWN6 : Hid (w6.ownsRow w.heap.size 5 1 v6 (done ++ fixL x 8).length ((done ++ fixL x 8).map (Value.int .u8))) := by
          simp only [Hid]; rw [List.length_append, List.map_append]; exact own6
        have O6 := hideIt (O4.out.grown hgrow6 (fun k hk e => absurd (ow.lt k e).1 (by omega)))
        clear ow own6 hgrow6
        go_wp2
        go_roundw
        case rel =>
          refine ⟨zs.drop c, done ++ fixL x 8, ao.map (fun x => x.add c), cap - c, ES.out, HUD.out, ?_, by rw [List.length_drop, ← HNL.out]; omega, ?_, OWN6.out, O6.out⟩
          · rw [List.length_drop, ← HNL.out]
          · rw [List.length_drop, ← HNL.out]
            exact HBS.out.cut f2
        case measure =>
          simp only []
          omega
end Go.Proofs.YthapipgaohlgdabGreatDoor

/- bytes.Equal: are two slices of bytes the same? -/
namespace Go.Proofs.YthapipgaohlgdabGreatDoor
open Go.RowKit

theorem nums_inj : ∀ (xs ys : List Int), (∀ x ∈ xs, 0 ≤ x ∧ x ≤ 255) → (∀ y ∈ ys, 0 ≤ y ∧ y ≤ 255) → (xs.map fun n => UInt8.ofNat n.toNat) = (ys.map fun n => UInt8.ofNat n.toNat) → xs = ys
  | [], [], _, _, _ => rfl
  | [], y :: ys, _, _, h => by simp at h
  | x :: xs, [], _, _, h => by simp at h
  | x :: xs, y :: ys, hx, hy, h => by
    simp only [List.map_cons, List.cons.injEq] at h
    have h1 := hx x List.mem_cons_self
    have h2 := hy y List.mem_cons_self
    have e : x.toNat % 256 = y.toNat % 256 := by
      have := congrArg UInt8.toNat h.1
      simpa using this
    have e2 : x = y := by omega
    rw [e2, nums_inj xs ys (fun a ha => hx a (List.mem_cons_of_mem _ ha)) (fun a ha => hy a (List.mem_cons_of_mem _ ha)) h.2]
theorem str_same (xs ys : List Int) (hx : ∀ x ∈ xs, 0 ≤ x ∧ x ≤ 255) (hy : ∀ y ∈ ys, 0 ≤ y ∧ y ≤ 255) : ((strOfNums xs).toList == (strOfNums ys).toList) = decide (xs = ys) := by
  rw [Lib.strOfNums_toList, Lib.strOfNums_toList]
  by_cases h : xs = ys
  · subst h; simp
  · rw [decide_eq_false h]
    have : Lib.bytesOf xs ≠ Lib.bytesOf ys := fun e => h (nums_inj xs ys hx hy e)
    simp [this]
theorem str_of (src dst e : TypeId) (va : Value) (xs : List Int) (w : World) (h : Bs .u8 w va xs) (hs : Tryz.prog.underlying src = some (.slice e)) (he : Tryz.prog.underlying e = some (.int .u8)) (hd : Tryz.prog.underlying dst = some .string) :
    (convert src dst va).run Tryz.prog w = .ok (.string (strOfNums xs)) w := by
  obtain ⟨ao, cap, rfl, hc, hr⟩ := h
  by_cases h0 : xs = []
  · subst h0
    exact run_convert_bytes_zero w src e hs he ao cap dst hd
  · obtain ⟨b, off, rfl, hcell⟩ := hr h0
    exact run_convert_bytes_arg (P := Tryz.prog) w src e hs he b off _ cap xs rfl hcell dst hd

set_option maxHeartbeats 400000 in
set_option maxRecDepth 100000 in
theorem equal_bs (va vb : Value) (xs ys : List Int) (w : World) (ha : Bs .u8 w va xs) (hb : Bs .u8 w vb ys) (hx : ∀ x ∈ xs, 0 ≤ x ∧ x ≤ 255) (hy : ∀ y ∈ ys, 0 ≤ y ∧ y ≤ 255) :
    Calls Tryz.prog 54 #[va, vb] w fun e w' => e = .returned (.bool (decide (xs = ys))) ∧ w = w' := by
  have h1 := str_of 29 9 5 va xs w ha Tryz.underlying29 Tryz.underlying5 Tryz.underlying9
  have h2 := str_of 29 9 5 vb ys w hb Tryz.underlying29 Tryz.underlying5 Tryz.underlying9
  rw [← str_same xs ys hx hy]
  clear ha hb hx hy
  go_enter Tryz.func54, Tryz.ntmps54
  go_wp2
  go_ret
  exact ⟨rfl, rfl⟩
end Go.Proofs.YthapipgaohlgdabGreatDoor

/- Package simple: words are read, and bytes decoded. -/
namespace Go.Proofs.YthapipgaohlgdabGreatDoor
open Go.RowKit

theorem nms_snoc (v k : Nat) : ((List.range (k + 1)).map fun i => (numAt v (wi (v / 2 ^ 60)) i : Int)) = ((List.range k).map fun i => (numAt v (wi (v / 2 ^ 60)) i : Int)) ++ [(numAt v (wi (v / 2 ^ 60)) k : Int)] := by
  rw [List.range_succ, List.map_append]; rfl
theorem numAt_and (v q k : Nat) (hv : v < 18446744073709551616) (hq : q ≤ 60) : bits .and .u64 ((v : Int) / 2 ^ (60 - (k + 1) * q)) (2 ^ q - 1) = (numAt v q k : Int) := by
  have e1 : ((v : Int) / 2 ^ (60 - (k + 1) * q)) = ((v / 2 ^ (60 - (k + 1) * q) : Nat) : Int) := by simp
  have hp := Nat.two_pow_pos q
  have e2 : ((2 : Int) ^ q - 1) = ((2 ^ q - 1 : Nat) : Int) := by
    rw [← cast_pow]; omega
  have h60 : 2 ^ q ≤ 2 ^ 60 := Nat.pow_le_pow_right (by omega) hq
  have e60 : (2 : Nat) ^ 60 = 1152921504606846976 := by decide
  have hd := Nat.div_le_self v (2 ^ (60 - (k + 1) * q))
  rw [e1, e2, u64_and_nat _ _ (by omega) (by omega), Nat.and_two_pow_sub_one_eq_mod]
  rfl

set_option maxHeartbeats 800000 in
set_option maxRecDepth 100000 in
/-- THE NUMBERS OF A WORD behind those that are there. -/
theorem appendNumbers_own (lo : Nat) (u : Value) (acc : List Int) (v : Nat) (w : World) (hown : w.ownsRow lo 26 1 u acc.length (acc.map (Value.int .u64))) (hlo : lo ≤ w.heap.size) (hv : v < 18446744073709551616) (ha : acc.length ≤ 70000) :
    Calls Tryz.prog 128 #[u, .int .u64 v] w fun e w' => ∃ u', e = .returned u' ∧ w'.ownsRow lo 26 1 u' (acc ++ nms v).length ((acc ++ nms v).map (Value.int .u64)) ∧ Only (fun k => lo ≤ k) w w' := by
  obtain ⟨i0, hi, hz0, hz1, hz2⟩ := info_parts Tryz.infoU64
  have hs := sort_lt hv
  obtain ⟨g1, g2, g3, g4, _⟩ := sort_at _ hs
  have e60 : (2 : Int) ^ 60 = 1152921504606846976 := by decide
  have RM : Hid (Calls Tryz.prog 87 #[.int .i64 ((v : Int) / 1152921504606846976)] w fun e w' => e = .returned (.tuple #[.int .i64 (cn (v / 2 ^ 60)), .int .i64 (wi (v / 2 ^ 60))]) ∧ Only (fun _ => False) w w') := by
    have := room_at (v / 2 ^ 60) w hs
    have e : ((v / 2 ^ 60 : Nat) : Int) = (v : Int) / 1152921504606846976 := by rw [← e60]; simp
    rw [e] at this
    exact this
  have NU : Hid (nms v = ((List.range (cn (v / 2 ^ 60))).map fun i => (numAt v (wi (v / 2 ^ 60)) i : Int))) := rfl
  have SN : Hid (∀ k, ((List.range (k + 1)).map fun i => (numAt v (wi (v / 2 ^ 60)) i : Int)) = ((List.range k).map fun i => (numAt v (wi (v / 2 ^ 60)) i : Int)) ++ [(numAt v (wi (v / 2 ^ 60)) k : Int)]) := nms_snoc v
  generalize wi (v / 2 ^ 60) = q at *
  generalize cn (v / 2 ^ 60) = c at *
  have AN : Hid (∀ k, bits .and .u64 ((v : Int) / 2 ^ (60 - (k + 1) * q)) (2 ^ q - 1) = (numAt v q k : Int)) := fun k => numAt_and v q k hv g3
  have v0 : (0 : Int) ≤ (v : Int) := by omega
  have v1 : (v : Int) ≤ 18446744073709551615 := by omega
  have q1 : (q : Int) ≤ 60 := by omega
  have HOWN := hideIt hown
  have t0 : (1 : Int) ≤ 2 ^ q := pow_mono (Nat.zero_le q)
  have t1 : (2 : Int) ^ q ≤ 1152921504606846976 := by rw [← e60]; exact pow_mono g3
  clear hown hs e60
  go_enter Tryz.func128, Tryz.ntmps128
  go_wp2_with fail
  refine RM.out.mono ?_
  rintro e w1 ⟨rfl, o1⟩
  have O1 := hideIt o1
  have OW1 := hideIt (o1.own HOWN.out (fun _ _ f => f))
  clear o1 RM HOWN
  go_wp2
  go_loopw [0, 20] (fun o i wr => ∃ k : Nat, k ≤ c ∧ i = .int .i64 k ∧ wr.ownsRow lo 26 1 o (acc.length + k) ((acc ++ (List.range k).map fun i => (numAt v q i : Int)).map (Value.int .u64)) ∧ Only (fun k => lo ≤ k) w wr) (fun _ i _ => c - (intOf i).toNat)
  case atStart => exact ⟨0, Nat.zero_le _, rfl, by simpa using OW1.out, O1.out.mono (fun _ _ f => f.elim)⟩
  case round =>
    obtain ⟨k, hk, rfl, hown, hon⟩ := hrel
    clear OW1 O1
    by_cases hlt : k < c
    · have pk : (k + 1) * q ≤ 60 := Nat.le_trans (Nat.mul_le_mul_right q (by omega)) g4
      have p0 : (0 : Int) ≤ ((k : Int) + 1) * (q : Int) := by rw [show ((k : Int) + 1) = ((k + 1 : Nat) : Int) by simp, ← Int.natCast_mul]; omega
      have p1 : ((k : Int) + 1) * (q : Int) ≤ 60 := by rw [show ((k : Int) + 1) = ((k + 1 : Nat) : Int) by simp, ← Int.natCast_mul]; omega
      have A1 := AN.out k
      have S1 := hideIt (SN.out k)
      have hsz := hon.size
      have hN := hideIt hon
      generalize numAt v q k = x at A1 S1
      clear hk hon
      go_wp2_with (at_builtin; refine wpList_append_lies _ rfl _ _ _ rfl lo 26 i0 (.int .u64 0) 1 8 Tryz.underlying39 hi hz0 hz1 hz2 rfl (by omega) _ (acc.length + k) _ rfl (hown.alloc _) ⟨wr.heap.size, 0, none⟩ 1 1 [.int .u64 x] rfl rfl ?c1 ?c2 (by omega) ?c3 ?c4 ?c5 (wr.heap.size + 1) (by simp) ?_)
      case c1 => exact cell_one_new _ _ _
      case c2 => intro u hu; simp at hu; subst hu; rfl
      case c3 => unfold maxLen; omega
      case c4 => omega
      case c5 => simp; omega
      intro g cap1 w3 hown1 hgrow hat hg1
      have o3 := hideIt ((hN.out.alloc _).grown hgrow (fun p _ hp => (hown.lt p hp).1))
      have own3 : Hid (w3.ownsRow lo 26 1 (.slice (some ⟨g, 0, none⟩) (acc.length + k + 1) cap1) (acc.length + (k + 1)) ((acc ++ (List.range (k + 1)).map fun i => (numAt v q i : Int)).map (Value.int .u64))) := by
        simp only [Hid]
        rw [S1.out, ← Nat.add_assoc]; simpa using hown1
      clear hown hown1 hgrow hat hN
      go_wp2
      go_roundw
      case rel => exact ⟨k + 1, by omega, by go_num, own3.out, o3.out⟩
      case measure => simp [intOf]; omega
    · have hkc : k = c := by omega
      subst hkc
      have F : Hid (wr.ownsRow lo 26 1 u0 (acc ++ nms v).length ((acc ++ nms v).map (Value.int .u64)) ∧ Only (fun k => lo ≤ k) w wr) := by
        simp only [Hid]
        rw [NU.out]
        exact ⟨by simpa using hown, hon⟩
      clear hown hon
      go_wp2
      go_ret
      exact ⟨_, rfl, F.out⟩

theorem sFixed8_short {ys : List Int} (h : ys.length < 8) : sFixed 8 ys = (0, 0, 2) := by
  unfold sFixed
  rw [if_neg (by omega), if_pos (by omega)]
theorem sFixed8_ok {ys : List Int} (h : 8 ≤ ys.length) : sFixed 8 ys = ((num (ys.take 8) : Int), 8, 0) := by
  unfold sFixed
  rw [if_neg (by omega), if_neg (by omega)]
  rfl
/-- how many a slice has -/
def lenS : Value → Nat | .slice _ n _ => n | _ => 0

set_option maxHeartbeats 800000 in
set_option maxRecDepth 100000 in
theorem read_cur {w : World} {R : Nat} {v : Value} {ys : List Int} (h : CurAt 77 w R v ys) (hvb : ∀ k, v.ownBlock = some k → k < w.heap.size) (n : Nat) (hn : n ≤ 65536) :
    Calls Tryz.prog 116 #[.pointer (some ⟨R, 0, none⟩), .int .i64 n] w fun e w' => ∃ u, e = .returned (.tuple #[u, .int .i64 (rdA n ys).2.2]) ∧ w'.ownsRow w.heap.size 26 1 u (rdA n ys).1.length ((rdA n ys).1.map (Value.int .u64)) ∧ Only (fun k => k = R) w w' := by
  have hR : R < w.heap.size := (Array.getElem?_eq_some_iff.1 h.cell).1
  have HC := hideIt h
  have HVB := hideIt hvb
  clear h hvb
  go_enter Tryz.func116, Tryz.ntmps116
  go_wp2
  go_loopw [6] (fun l wr => ∃ (f : Nat) (acc ys' : List Int) (v' : Value), wr.ownsRow w.heap.size 26 1 l acc.length (acc.map (Value.int .u64)) ∧ CurAt 77 wr R v' ys' ∧ v'.ownBlock = v.ownBlock ∧ ys'.length < f ∧ rdF f n acc ys' = rdA n ys ∧ acc.length < n + 240 ∧ Only (fun k => k = R) w wr) (fun l _ => n - lenS l)
  case atStart => exact ⟨ys.length + 1, [], ys, v, World.ownsRow_nil _ _ _ _, HC.out, rfl, by omega, rfl, by simp, Only.refl _ _⟩
  case round =>
    obtain ⟨f, acc, ys', v', hown, hcur, hob, hf, hrd, hacc, hon⟩ := hrel
    clear HC
    obtain ⟨a6, c6, e6⟩ := (Bs.of_own hown).len
    subst e6
    have HOWN := hideIt hown
    have HON := hideIt hon
    have HOB := hideIt hob
    by_cases hlt : acc.length < n
    · have d0 : decide ((acc.length : Int) < (n : Int)) = true := by simp; omega
      have FX := hideIt (fixed_cur hcur 8)
      by_cases hs : ys'.length < 8
      · rw [sFixed8_short hs] at FX
        have HR : Hid (rdA n ys = ([], ys', 2)) := by simp only [Hid]; rw [← hrd, rdF_short hlt hs (by omega)]
        clear hown hcur hob hrd hon
        generalize acc.length = m at *
        go_wp2_with fail
        refine FX.out.mono ?_
        rintro e w2 ⟨rfl, v2, _, _, o2⟩
        have O2 := hideIt (HON.out.trans o2 (fun _ _ e => e))
        clear FX o2 HOWN
        go_wp2
        go_ret2
        rw [HR.out]
        exact ⟨_, rfl, World.ownsRow_nil _ _ _ _, O2.out⟩
      · rw [sFixed8_ok (by omega)] at FX
        have hv := num8_lt hcur.rng
        have hstep := rdF_step hlt (by omega) hf
        have HRD : Hid (rdF (f - 1) n (acc ++ nms (num (ys'.take 8))) (ys'.drop 8) = rdA n ys ∧ (ys'.drop 8).length < f - 1) := ⟨by rw [← hrd, hstep.1], hstep.2⟩
        have HNL : Hid ((acc ++ nms (num (ys'.take 8))).length < n + 240 ∧ acc.length < (acc ++ nms (num (ys'.take 8))).length) := by
          have h4 := sort_at _ (sort_lt hv)
          simp only [Hid]
          rw [List.length_append, nms_length]; omega
        have HV := hideIt hv
        obtain ⟨x, hx⟩ : ∃ x, x = num (ys'.take 8) := ⟨_, rfl⟩
        rw [← hx] at FX HRD HNL HV
        obtain ⟨m, hm⟩ : ∃ m, m = acc.length := ⟨_, rfl⟩
        rw [← hm] at HOWN d0 HNL hlt ⊢
        have HM := hideIt hm
        obtain ⟨z, hz⟩ : ∃ z, z = acc ++ nms x := ⟨_, rfl⟩
        rw [← hz] at HRD HNL
        have HZ := hideIt hz
        clear hz
        clear hown hcur hob hrd hon hstep hx hv hm
        go_wp2_with fail
        refine FX.out.mono ?_
        rintro e w2 ⟨rfl, v2, cur2, ob2, o2⟩
        have O2 := hideIt (HON.out.trans o2 (fun _ _ e => e))
        have OW2 : Hid (w2.ownsRow w.heap.size 26 1 (.slice a6 acc.length c6) acc.length (acc.map (Value.int .u64))) := by
          simp only [Hid]; rw [← HM.out]
          exact o2.own HOWN.out (fun k hk e => by have := (HOWN.out.lt k hk).1; omega)
        have CUR2 := hideIt cur2
        have OB2 := hideIt (ob2.trans HOB.out)
        have AP := hideIt (appendNumbers_own w.heap.size _ acc x w2 OW2.out O2.out.size HV.out (by omega))
        rw [← HM.out, ← HZ.out] at AP
        clear FX o2 HOWN HON HOB cur2 ob2 OW2
        go_wp2_with fail
        refine AP.out.mono ?_
        rintro e w3 ⟨u3, rfl, own3, o3⟩
        have F : Hid (CurAt 77 w3 R v2 (ys'.drop 8) ∧ v2.ownBlock = v.ownBlock ∧ Only (fun k => k = R) w w3) :=
          ⟨CUR2.out.keep o3 (by omega) (fun k hk e => by have := HVB.out k (by rw [← OB2.out]; exact hk); omega), OB2.out, O2.out.trans o3 (fun k hk e => by omega)⟩
        have OWN3 := hideIt own3
        obtain ⟨a7, c7, e7⟩ := (Bs.of_own own3).len
        subst e7
        clear AP own3 o3 O2 CUR2 OB2
        go_wp2
        go_roundw
        case rel => exact ⟨f - 1, _, ys'.drop 8, v2, OWN3.out, F.out.1, F.out.2.1, HRD.out.2, HRD.out.1, HNL.out.1, F.out.2.2⟩
        case measure => have := HNL.out; simp only [lenS]; omega
    · have d0 : decide ((acc.length : Int) < (n : Int)) = false := decide_eq_false (by omega)
      have HR : Hid (rdA n ys = (acc, ys', 0)) := by simp only [Hid]; rw [← hrd, rdF_done (by omega)]
      clear hown hcur hob hrd hon
      obtain ⟨m, hm⟩ : ∃ m, m = acc.length := ⟨_, rfl⟩
      rw [← hm] at HOWN d0 hlt ⊢
      have HM := hideIt hm
      clear hm
      go_wp2
      go_ret2
      rw [HR.out]
      exact ⟨_, rfl, by rw [← HM.out]; exact HOWN.out, HON.out⟩

set_option maxHeartbeats 400000 in
set_option maxRecDepth 100000 in
theorem decode_arg (v : Value) (n : Int) (w : World) (h : n < 0 ∨ 65536 < n) :
    Calls Tryz.prog 95 #[v, .int .i64 n] w fun e w' => e = .returned (.tuple #[.slice none 0 0, .int .i64 1]) ∧ w = w' := by
  by_cases h0 : n < 0
  · have d0 : decide (n < 0) = true := decide_eq_true h0
    clear h
    go_enter Tryz.func95, Tryz.ntmps95
    go_wp2
    go_ret2
    exact ⟨rfl, rfl⟩
  · have d0 : decide (n < 0) = false := decide_eq_false h0
    have d1 : decide (65536 < n) = true := decide_eq_true (by omega)
    clear h
    go_enter Tryz.func95, Tryz.ntmps95
    go_wp2
    go_ret2
    exact ⟨rfl, rfl⟩

set_option maxHeartbeats 800000 in
set_option maxRecDepth 100000 in
/-- BYTES ARE DECODED: new memory. -/
theorem decode_bs (v : Value) (ys : List Int) (n : Nat) (w : World) (h : Bs .u8 w v ys) (hr : ∀ y ∈ ys, 0 ≤ y ∧ y ≤ 255) (hl : ys.length ≤ 1000000000000) (hn : n ≤ 65536) :
    Calls Tryz.prog 95 #[v, .int .i64 n] w fun e w' => ∃ u, e = .returned (.tuple #[u, .int .i64 (dec ys n).2]) ∧ w'.ownsRow w.heap.size 26 1 u (dec ys n).1.length ((dec ys n).1.map (Value.int .u64)) ∧ Only (fun _ => False) w w' := by
  have d0 : decide ((n : Int) < 0) = false := by simp
  have d1 : decide (65536 < (n : Int)) = false := by simp; omega
  have NW := hideIt (new_bs v ys w h hr hl)
  have HB := hideIt h
  have HR := hideIt hr
  have RF := hideIt (rdA_facts (n := n) hr)
  clear h hr
  go_enter Tryz.func95, Tryz.ntmps95
  go_wp2_with fail
  refine NW.out.mono ?_
  rintro e w1 ⟨R, v1, rfl, cur, o1, r0, r1, hv1⟩
  have RD := hideIt (read_cur cur (fun k hk => (hv1 k hk).2) n hn)
  have HR0 := hideIt (And.intro r0 o1.size)
  have O1 := hideIt o1
  clear NW cur o1 hv1 r0 r1
  go_wp2_with fail
  refine RD.out.mono ?_
  rintro e w2 ⟨u, rfl, own2, o2⟩
  have O2 := hideIt (O1.out.trans o2 (fun k hk e => absurd HR0.out.1 (by omega)))
  have OW2 := hideIt (own_low own2 HR0.out.2)
  clear RD own2 o2 O1
  rcases RF.out with ⟨f1, f2⟩ | ⟨f1, f2, f3, f4⟩
  · have HD : Hid (dec ys n = ([], 2)) := by simp only [Hid, dec]; rw [if_pos (by rw [f1]; decide)]
    rw [f1]
    clear f1 f2 OW2 RF HR0
    obtain ⟨x2, h2⟩ : ∃ x2 : Int, x2 = 2 := ⟨_, rfl⟩
    go_wp2
    go_ret2
    rw [HD.out]
    exact ⟨_, rfl, World.ownsRow_nil _ _ _ _, O2.out⟩
  · have HF0 := hideIt f1
    rw [f1]
    obtain ⟨l, hl2⟩ : ∃ l, l = (rdA n ys).1 := ⟨_, rfl⟩
    rw [← hl2] at OW2 f2 f3 f4
    have HL2 := hideIt hl2
    have hb2 := Bs.of_own OW2.out
    obtain ⟨a2, c2, e2⟩ := hb2.len
    subst e2
    by_cases hgt : n < l.length
    · have HD : Hid (dec ys n = ([], 3)) := by simp only [Hid, dec]; rw [if_neg (by rw [f1]; decide), ← hl2, if_pos hgt]
      clear f1 f2 RF HR0 hb2 hl2 OW2
      generalize l.length = m at *
      have dm : decide (n < m) = true := decide_eq_true hgt
      go_wp2
      go_ret2
      rw [HD.out]
      exact ⟨_, rfl, World.ownsRow_nil _ _ _ _, O2.out⟩
    · have hln : l.length = n := by omega
      have EN := hideIt (encode_bs _ l w2 hb2 f2 (by omega))
      have HER := hideIt (enc_range l.length l rfl f2)
      have HB2 := hideIt (HB.out.keep O2.out (fun _ _ f => f))
      have HDY : Hid (dec ys n = if enc l = ys then (l, 0) else ([], 3)) := by simp only [Hid, dec]; rw [if_neg (by rw [f1]; decide), ← hl2, if_neg hgt]
      have HSZ := hideIt O2.out.size
      rw [hln] at EN OW2 ⊢
      have HLN := hideIt hln
      have dn : decide (n < n) = false := by simp
      clear f1 f2 f3 f4 RF HR0 hb2 hl2 hgt hln
      go_wp2_with fail
      refine EN.out.mono ?_
      rintro e w3 ⟨u3, rfl, own3, o3⟩
      have EQ := hideIt (equal_bs u3 v (enc l) ys w3 (Bs.of_own own3) (HB2.out.keep o3 (fun _ _ f => f)) HER.out HR.out)
      have O3 := hideIt (O2.out.trans o3 (fun _ _ f => f))
      have OW3 := hideIt (o3.own OW2.out (fun _ _ f => f))
      obtain ⟨a3, c3, e3⟩ := (Bs.of_own own3).len
      subst e3
      obtain ⟨m3, hm3⟩ : ∃ m3, m3 = (enc l).length := ⟨_, rfl⟩
      rw [← hm3] at EQ ⊢
      clear EN own3 o3 OW2 O2 hm3
      by_cases he : enc l = ys
      · rw [if_pos he] at HDY
        rw [decide_eq_true he] at EQ
        clear he
        go_wp2_with fail
        refine EQ.out.mono ?_
        rintro e w4 ⟨rfl, rfl⟩
        clear EQ
        go_wp2
        go_ret2
        rw [HDY.out]
        exact ⟨_, rfl, by rw [HLN.out]; exact OW3.out, O3.out⟩
      · rw [if_neg he] at HDY
        rw [decide_eq_false he] at EQ
        clear he
        go_wp2_with fail
        refine EQ.out.mono ?_
        rintro e w4 ⟨rfl, rfl⟩
        clear EQ
        go_wp2
        go_ret2
        rw [HDY.out]
        exact ⟨_, rfl, World.ownsRow_nil _ _ _ _, O3.out⟩
end Go.Proofs.YthapipgaohlgdabGreatDoor

/- Contract of the reference's Same: equal bytes are the same. -/
namespace Go.Proofs.YthapipgaohlgdabGreatDoor
open Go.RowKit

set_option maxHeartbeats 400000 in
set_option maxRecDepth 100000 in
/-- EQUAL BYTES ARE THE SAME. -/
theorem same_eq (va vb : Value) (xs : List Int) (w : World) (ha : Bs .u8 w va xs) (hb : Bs .u8 w vb xs) (hl : xs.length ≤ 140737488355328) :
    Calls Tryz.prog 8 #[va, vb] w fun e w' => e = .returned (.bool true) ∧ Only (fun _ => False) w w' := by
  obtain ⟨aoa, ca, rfl, hca, hra⟩ := ha
  obtain ⟨aob, cb, rfl, hcb, hrb⟩ := hb
  have hbn : ((xs.length : Int) != (xs.length : Int)) = false := by simp
  by_cases hx : xs = []
  · subst hx
    clear hra hrb
    simp only [List.length_nil]
    go_enter Tryz.func8, Tryz.ntmps8
    go_wp2
    go_loop [5] (fun i => i = .int .i64 0) (fun _ => 0)
    case atStart => rfl
    case round =>
      subst hrel
      go_wp2
      go_ret
      exact ⟨rfl, Only.refl _ _⟩
  · obtain ⟨ba, oa, rfl, hcella⟩ := hra hx
    obtain ⟨bb, ob, rfl, hcellb⟩ := hrb hx
    clear hra hrb hx
    obtain ⟨n, hn⟩ : ∃ n, n = xs.length := ⟨_, rfl⟩
    rw [← hn] at hbn hca hcb hcella hcellb hl ⊢
    have HA : Hid (∀ j, j < n → w.cell? ⟨ba, oa + j, none⟩ = some (.int .u8 (xs.getD j 0))) := hcella
    have HB : Hid (∀ j, j < n → w.cell? ⟨bb, ob + j, none⟩ = some (.int .u8 (xs.getD j 0))) := hcellb
    clear hcella hcellb hn
    go_enter Tryz.func8, Tryz.ntmps8
    go_wp2
    go_loopw [5] (fun i wr => ∃ k : Nat, k ≤ n ∧ i = .int .i64 k ∧ Only (fun _ => False) w wr) (fun i _ => n - (intOf i).toNat)
    case atStart => exact ⟨0, Nat.zero_le _, rfl, Only.refl _ _⟩
    case round =>
      obtain ⟨k, hk, rfl, hon⟩ := hrel
      by_cases hlt : k < n
      · obtain ⟨y, hy⟩ : ∃ y, y = xs.getD k 0 := ⟨_, rfl⟩
        have h1 : wr.cell? ⟨ba, oa + k, none⟩ = some (.int .u8 y) := by
          have := HA.out k hlt
          rw [World.cell?_of_block (hon.block ba (World.block_lt_of_cell? w _ this) (fun f => f)), hy]; exact this
        have h2 : wr.cell? ⟨bb, ob + k, none⟩ = some (.int .u8 y) := by
          have := HB.out k hlt
          rw [World.cell?_of_block (hon.block bb (World.block_lt_of_cell? w _ this) (fun f => f)), hy]; exact this
        have i0 : (0 : Int) ≤ (k : Int) := by omega
        have i1 : (k : Int) < (n : Int) := by omega
        have hy1 : (y != y) = false := by simp
        clear hy
        go_wp2
        go_quiet (fail)
        go_wp2
        go_roundw
        case rel => exact ⟨k + 1, by omega, by go_num, hon.drewN nq⟩
        case measure => simp [intOf]; omega
      · go_wp2
        go_ret
        exact ⟨rfl, hon⟩
end Go.Proofs.YthapipgaohlgdabGreatDoor

/- The reference's Same of any two slices of bytes: whether they are the same; nothing is written. -/
namespace Go.Proofs.YthapipgaohlgdabGreatDoor
open Go.RowKit

set_option maxHeartbeats 400000 in
set_option maxRecDepth 100000 in
theorem same_len (va vb : Value) (xs ys : List Int) (w : World) (ha : Bs .u8 w va xs) (hb : Bs .u8 w vb ys) (h : xs.length ≠ ys.length) :
    Calls Tryz.prog 8 #[va, vb] w fun e w' => e = .returned (.bool false) ∧ Only (fun _ => False) w w' := by
  obtain ⟨aoa, ca, rfl⟩ := ha.len
  obtain ⟨aob, cb, rfl⟩ := hb.len
  have hbn : ((xs.length : Int) != (ys.length : Int)) = true := by simp; omega
  clear ha hb h
  generalize xs.length = n at *
  generalize ys.length = m at *
  go_enter Tryz.func8, Tryz.ntmps8
  go_wp2
  go_ret
  exact ⟨rfl, Only.refl _ _⟩

set_option maxHeartbeats 400000 in
set_option maxRecDepth 100000 in
/-- as many, and one differs -/
theorem same_ne (va vb : Value) (xs ys : List Int) (w : World) (ha : Bs .u8 w va xs) (hb : Bs .u8 w vb ys) (hlen : ys.length = xs.length) (hl : xs.length ≤ 140737488355328) (hne : xs ≠ ys) :
    Calls Tryz.prog 8 #[va, vb] w fun e w' => e = .returned (.bool false) ∧ Only (fun _ => False) w w' := by
  obtain ⟨aoa, ca, rfl, hca, hra⟩ := ha
  obtain ⟨aob, cb, rfl, hcb, hrb⟩ := hb
  have hx : xs ≠ [] := by
    intro h0; subst h0
    exact hne (List.eq_nil_of_length_eq_zero hlen).symm
  have hy : ys ≠ [] := by
    intro h0; subst h0
    exact hx (List.eq_nil_of_length_eq_zero hlen.symm)
  obtain ⟨ba, oa, rfl, hcella⟩ := hra hx
  obtain ⟨bb, ob, rfl, hcellb⟩ := hrb hy
  have HD : Hid (¬ ∀ j, j < xs.length → xs.getD j 0 = ys.getD j 0) := by
    intro h
    apply hne
    apply List.ext_getElem hlen.symm
    intro i h1 h2
    have := h i h1
    rw [List.getD_eq_getElem?_getD, List.getD_eq_getElem?_getD, List.getElem?_eq_getElem h1, List.getElem?_eq_getElem h2] at this
    exact this
  rw [hlen] at hcb hcellb ⊢
  have hbn : ((xs.length : Int) != (xs.length : Int)) = false := by simp
  clear hra hrb hx hy hne hlen
  obtain ⟨n, hn⟩ : ∃ n, n = xs.length := ⟨_, rfl⟩
  rw [← hn] at hbn hca hcb hcella hcellb hl HD ⊢
  have HA : Hid (∀ j, j < n → w.cell? ⟨ba, oa + j, none⟩ = some (.int .u8 (xs.getD j 0))) := hcella
  have HB : Hid (∀ j, j < n → w.cell? ⟨bb, ob + j, none⟩ = some (.int .u8 (ys.getD j 0))) := hcellb
  clear hcella hcellb hn
  go_enter Tryz.func8, Tryz.ntmps8
  go_wp2
  go_loopw [5] (fun i wr => ∃ k : Nat, k ≤ n ∧ i = .int .i64 k ∧ Only (fun _ => False) w wr ∧ ∀ j, j < k → xs.getD j 0 = ys.getD j 0) (fun i _ => n - (intOf i).toNat)
  case atStart => exact ⟨0, Nat.zero_le _, rfl, Only.refl _ _, fun j hj => absurd hj (by omega)⟩
  case round =>
    obtain ⟨k, hk, rfl, hon, hall⟩ := hrel
    have HALL := hideIt hall
    clear hall
    by_cases hlt : k < n
    · obtain ⟨y, hy⟩ : ∃ y, y = xs.getD k 0 := ⟨_, rfl⟩
      obtain ⟨z, hz⟩ : ∃ z, z = ys.getD k 0 := ⟨_, rfl⟩
      have h1 : wr.cell? ⟨ba, oa + k, none⟩ = some (.int .u8 y) := by
        have := HA.out k hlt
        rw [World.cell?_of_block (hon.block ba (World.block_lt_of_cell? w _ this) (fun f => f)), hy]; exact this
      have h2 : wr.cell? ⟨bb, ob + k, none⟩ = some (.int .u8 z) := by
        have := HB.out k hlt
        rw [World.cell?_of_block (hon.block bb (World.block_lt_of_cell? w _ this) (fun f => f)), hz]; exact this
      have i0 : (0 : Int) ≤ (k : Int) := by omega
      have i1 : (k : Int) < (n : Int) := by omega
      by_cases hyz : y = z
      · have HE := hideIt (show xs.getD k 0 = ys.getD k 0 by rw [← hy, ← hz]; exact hyz)
        subst hyz
        have hy1 : (y != y) = false := by simp
        clear hy hz
        go_wp2
        go_quiet (fail)
        go_wp2
        go_roundw
        case rel => exact ⟨k + 1, by omega, by go_num, hon.drewN nq, fun j hj => by
          rcases Nat.lt_or_ge j k with h | h
          · exact HALL.out j h
          · rw [show j = k by omega]; exact HE.out⟩
        case measure => simp [intOf]; omega
      · have hy1 : (y != z) = true := by simpa using hyz
        clear hy hz hyz
        go_wp2
        go_quiet (fail)
        go_wp2
        go_ret
        exact ⟨rfl, hon.drewN nq⟩
    · exact absurd (fun j hj => HALL.out j (by omega)) HD.out

theorem same_any (va vb : Value) (xs ys : List Int) (w : World) (ha : Bs .u8 w va xs) (hb : Bs .u8 w vb ys) (hl : xs.length ≤ 140737488355328) :
    Calls Tryz.prog 8 #[va, vb] w fun e w' => e = .returned (.bool (decide (xs = ys))) ∧ Only (fun _ => False) w w' := by
  by_cases h : xs = ys
  · subst h
    rw [decide_eq_true rfl]
    exact same_eq va vb xs w ha hb hl
  · rw [decide_eq_false h]
    by_cases hlen : ys.length = xs.length
    · exact same_ne va vb xs ys w ha hb hlen hl h
    · exact same_len va vb xs ys w ha hb (fun e => hlen e.symm)
end Go.Proofs.YthapipgaohlgdabGreatDoor

/- Contract of the reference's Same: equal lists of numbers are the same. -/
namespace Go.Proofs.YthapipgaohlgdabGreatDoor
open Go.RowKit

end Go.Proofs.YthapipgaohlgdabGreatDoor

/- Package simple and its reference, whatever comes in; and the head of each statement: the document's example holds. -/
namespace Go.Proofs.YthapipgaohlgdabGreatDoor
open Go.RowKit

/-- what any numbers are encoded to, and the error -/
def ENC (xs : List Int) : List Int × Int := if 65536 < xs.length then ([], 4) else if small 60 xs = true then (enc xs, 0) else ([], 1)
/-- what any bytes are decoded to, and the error -/
def DEC (ys : List Int) (n : Int) : List Int × Int := if n < 0 ∨ 65536 < n then ([], 1) else dec ys n.toNat
/-- a sort's room -/
def ROOM (s : Int) : Int × Int := if s < 0 ∨ 15 < s then (0, 0) else ((cn s.toNat : Int), (wi s.toNat : Int))

theorem encode_all (v : Value) (xs : List Int) (w : World) (h : Bs .u64 w v xs) (hu : U64 xs) :
    Calls Tryz.prog 63 #[v] w fun e w' => ∃ v', e = .returned (.tuple #[v', .int .i64 (ENC xs).2]) ∧ w'.ownsRow w.heap.size 5 1 v' (ENC xs).1.length ((ENC xs).1.map (Value.int .u8)) ∧ Only (fun _ => False) w w' := by
  unfold ENC
  by_cases hl : 65536 < xs.length
  · rw [if_pos hl]
    refine (encode_long v xs w h hl).mono ?_
    rintro e w' ⟨rfl, rfl⟩
    exact ⟨_, rfl, World.ownsRow_nil _ _ _ _, Only.refl _ _⟩
  · rw [if_neg hl]
    by_cases hs : small 60 xs = true
    · rw [if_pos hs]
      exact encode_bs v xs w h (small_up hs (fun x hx => (hu x hx).1)) (by omega)
    · rw [if_neg hs]
      refine (encode_arg v xs w h hu (by omega) (by simpa using hs)).mono ?_
      rintro e w' ⟨rfl, rfl⟩
      exact ⟨_, rfl, World.ownsRow_nil _ _ _ _, Only.refl _ _⟩
theorem decode_all (v : Value) (ys : List Int) (n : Int) (w : World) (h : Bs .u8 w v ys) (hr : ∀ y ∈ ys, 0 ≤ y ∧ y ≤ 255) (hl : ys.length ≤ 1000000000000) :
    Calls Tryz.prog 95 #[v, .int .i64 n] w fun e w' => ∃ u, e = .returned (.tuple #[u, .int .i64 (DEC ys n).2]) ∧ w'.ownsRow w.heap.size 26 1 u (DEC ys n).1.length ((DEC ys n).1.map (Value.int .u64)) ∧ Only (fun _ => False) w w' := by
  unfold DEC
  by_cases hn : n < 0 ∨ 65536 < n
  · rw [if_pos hn]
    refine (decode_arg v n w hn).mono ?_
    rintro e w' ⟨rfl, rfl⟩
    exact ⟨_, rfl, World.ownsRow_nil _ _ _ _, Only.refl _ _⟩
  · rw [if_neg hn]
    obtain ⟨m, rfl⟩ := Int.eq_ofNat_of_zero_le (show 0 ≤ n by omega)
    exact decode_bs v ys m w h hr hl (by omega)
theorem room_all (s : Int) (w : World) : Calls Tryz.prog 87 #[.int .i64 s] w fun e w' => e = .returned (.tuple #[.int .i64 (ROOM s).1, .int .i64 (ROOM s).2]) ∧ Only (fun _ => False) w w' := by
  unfold ROOM
  by_cases hs : s < 0 ∨ 15 < s
  · rw [if_pos hs]
    refine (room_no s w hs).mono ?_
    rintro e w' ⟨rfl, rfl⟩
    exact ⟨rfl, Only.refl _ _⟩
  · rw [if_neg hs]
    obtain ⟨m, rfl⟩ := Int.eq_ofNat_of_zero_le (show 0 ≤ s by omega)
    exact room_at m w (by omega)
theorem ENC_ok {xs : List Int} (h0 : ∀ x ∈ xs, 0 ≤ x) (h : (ENC xs).2 = 0) : ENC xs = (enc xs, 0) ∧ Up 60 xs ∧ xs.length ≤ 65536 := by
  unfold ENC at *
  by_cases hl : 65536 < xs.length
  · rw [if_pos hl] at h; cases h
  · rw [if_neg hl] at h ⊢
    by_cases hs : small 60 xs = true
    · rw [if_pos hs]; exact ⟨rfl, small_up hs h0, by omega⟩
    · rw [if_neg hs] at h; cases h
theorem ENC_of {xs : List Int} (hu : Up 60 xs) (hl : xs.length ≤ 65536) : ENC xs = (enc xs, 0) := by
  unfold ENC
  rw [if_neg (by omega), if_pos (up_small hu)]
theorem ENC_no {xs : List Int} (hl : xs.length ≤ 65536) (h : (ENC xs).2 ≠ 0) : ENC xs = ([], 1) := by
  unfold ENC at *
  rw [if_neg (by omega)] at h ⊢
  by_cases hs : small 60 xs = true
  · rw [if_pos hs] at h; exact absurd rfl h
  · rw [if_neg hs]
theorem ENC_len {xs : List Int} (h0 : ∀ x ∈ xs, 0 ≤ x) : (ENC xs).1.length ≤ 600000 := by
  by_cases h : (ENC xs).2 = 0
  · obtain ⟨e, hu, hl⟩ := ENC_ok h0 h
    rw [e]
    have := (enc_len xs.length xs rfl hu).2.1
    simp only; omega
  · unfold ENC at *
    by_cases hl : 65536 < xs.length
    · rw [if_pos hl]; decide
    · rw [if_neg hl] at h ⊢
      by_cases hs : small 60 xs = true
      · rw [if_pos hs] at h; exact absurd rfl h
      · rw [if_neg hs]; decide
theorem DEC_facts {ys : List Int} {n : Int} (hr : ∀ y ∈ ys, 0 ≤ y ∧ y ≤ 255) :
    (∃ c, DEC ys n = ([], c) ∧ c ≠ 0) ∨ (∃ l, DEC ys n = (l, 0) ∧ Up 60 l ∧ (l.length : Int) = n ∧ l.length ≤ 65536 ∧ enc l = ys) := by
  unfold DEC
  by_cases hn : n < 0 ∨ 65536 < n
  · rw [if_pos hn]; exact .inl ⟨1, rfl, by decide⟩
  · rw [if_neg hn]
    rcases dec_only (n := n.toNat) hr with ⟨c, h1, h2⟩ | ⟨l, h1, h2, h3, h4⟩
    · exact .inl ⟨c, h1, by omega⟩
    · exact .inr ⟨l, h1, h2, by omega, by omega, h4⟩
theorem DEC_nat (ys : List Int) (n : Nat) (h : n ≤ 65536) : DEC ys n = dec ys n := by
  unfold DEC
  rw [if_neg (by omega)]
  rfl

theorem enc_ex : enc [1, 2, 3] = [208, 0, 1, 0, 0, 32, 0, 3] := by decide +kernel
theorem up_ex : Up 60 [1, 2, 3] := by
  intro x hx; simp at hx; omega
theorem ENC_ex : ENC [1, 2, 3] = ([208, 0, 1, 0, 0, 32, 0, 3], 0) := by rw [ENC_of up_ex (by decide), enc_ex]
theorem DEC_ex : DEC [208, 0, 1, 0, 0, 32, 0, 3] 3 = ([1, 2, 3], 0) := by
  have := dec_enc up_ex
  rw [enc_ex] at this
  exact this

end Go.Proofs.YthapipgaohlgdabGreatDoor

/- Package runs: a run's bytes, and numbers as runs. -/
namespace Go.Proofs.YthapipgaohlgdabGreatDoor
open Go.RowKit

theorem getD_mem0 (l : List Int) (k : Nat) (h : k < l.length) : l.getD k 0 ∈ l := by
  rw [List.getD_eq_getElem?_getD, List.getElem?_eq_getElem h]; simp

set_option maxHeartbeats 400000 in
set_option maxRecDepth 100000 in
/-- A RUN: its number, and how many more of it there are. -/
theorem run_any (v : Int) (c : Nat) (w : World) (h0 : 0 ≤ v) (h1 : v ≤ 18446744073709551615) (c0 : 1 ≤ c) (c1 : c ≤ 65536) :
    Calls Tryz.prog 89 #[.int .u64 v, .int .i64 c] w fun e w' => ∃ v', e = .returned v' ∧ w'.ownsRow w.heap.size 5 1 v' (gs v.toNat ++ gs (c - 1)).length ((gs v.toNat ++ gs (c - 1)).map (Value.int .u8)) ∧ Only (fun _ => False) w w' := by
  have A := hideIt (append_any (.slice none 0 0) [] v w (Bs.nil _ _) NoCap.nil (by simp) h0 h1)
  have H10 := hideIt (gs_le10 (v := v.toNat) (by omega))
  obtain ⟨m, rfl⟩ : ∃ m, c = m + 1 := ⟨c - 1, by omega⟩
  rw [Nat.add_sub_cancel]
  have em : ((m + 1 : Nat) : Int) - 1 = (m : Int) := by omega
  go_enter Tryz.func89, Tryz.ntmps89
  go_wp2_with fail
  refine A.out.mono ?_
  rintro e w1 ⟨v1, rfl, own1, o1⟩
  rw [List.nil_append] at own1
  have B := hideIt (append_any v1 (gs v.toNat) m w1 (Bs.of_own own1) (NoCap.of_own own1) (by have := H10.out; omega) (by omega) (by omega))
  have O1 := hideIt o1
  clear A own1 o1
  go_wp2_with fail
  refine B.out.mono ?_
  rintro e w2 ⟨v2, rfl, own2, o2⟩
  rw [Int.toNat_natCast] at own2
  have F := hideIt (And.intro (own_low own2 O1.out.size) (O1.out.trans o2 (fun _ _ f => f)))
  clear B own2 o2
  go_wp2
  go_ret
  exact ⟨_, rfl, F.out⟩

set_option maxHeartbeats 400000 in
set_option maxRecDepth 100000 in
theorem run_encode_long (v : Value) (xs : List Int) (w : World) (h : Bs .u64 w v xs) (hl : 65536 < xs.length) :
    Calls Tryz.prog 64 #[v] w fun e w' => e = .returned (.tuple #[.slice none 0 0, .int .i64 4]) ∧ w = w' := by
  obtain ⟨ao, cap, rfl⟩ := h.len
  have d0 : decide ((65536 : Int) < xs.length) = true := decide_eq_true (by omega)
  clear h hl
  generalize xs.length = m at *
  go_enter Tryz.func64, Tryz.ntmps64
  go_wp2
  go_step3
  go_wp2
  try rw [Exit.noGoto_ret]
  go_ret2
  exact ⟨rfl, rfl⟩

set_option maxHeartbeats 1600000 in
set_option maxRecDepth 100000 in
/-- NUMBERS ARE ENCODED: new memory. -/
theorem run_encode_bs (v : Value) (xs : List Int) (w : World) (h : Bs .u64 w v xs) (hu : U64 xs) (hl : xs.length ≤ 65536) :
    Calls Tryz.prog 64 #[v] w fun e w' => ∃ v', e = .returned (.tuple #[v', .int .i64 0]) ∧ w'.ownsRow w.heap.size 5 1 v' (runE xs).length ((runE xs).map (Value.int .u8)) ∧ Only (fun _ => False) w w' := by
  obtain ⟨i0, hi, hz0, hz1, hz2⟩ := info_parts Tryz.infoU8
  have HB := hideIt h
  have HU := hideIt hu
  have HEL := hideIt (runE_len xs hu (by omega))
  obtain ⟨ao, cap, rfl⟩ := h.len
  obtain ⟨n, hn⟩ : ∃ n, n = xs.length := ⟨_, rfl⟩
  rw [← hn] at hl HB HEL
  rw [← hn]
  have HN := hideIt hn
  have d0 : decide ((65536 : Int) < n) = false := decide_eq_false (by omega)
  clear h hu hn
  go_enter Tryz.func64, Tryz.ntmps64
  go_wp2
  go_step3
  go_wp2
  go_step3
  go_wp2
  go_loopg [0, 4] n (fun g s0 s4 wx => ∃ (ls o : List Int), Hid (ls.length = g) ∧ g ≤ n ∧ Bs .u64 w s0 ls ∧ Hid (o ++ runE ls = runE xs) ∧ U64 ls ∧ wx.ownsRow w.heap.size 5 1 s4 o.length (o.map (Value.int .u8)) ∧ Only (fun _ => False) w wx)
  case atStart => exact ⟨xs, [], HN.out.symm, Nat.le_refl _, HB.out, rfl, HU.out, World.ownsRow_nil _ _ _ _, Only.refl _ _⟩
  case round =>
    obtain ⟨ls, o, HL, hgn, hbs, HO, hul, hown, hon⟩ := hrel
    obtain ⟨W, hW⟩ : ∃ W, W = wr := ⟨_, rfl⟩
    subst hW
    have HBS := hideIt hbs
    obtain ⟨al, cl, el⟩ := hbs.len
    rw [HL.out] at el
    subst el
    have HUL := hideIt hul
    have HOWN := hideIt hown
    have HON := hideIt hon
    have HOL : Hid (o.length ≤ 2000000) := by
      have := congrArg List.length HO.out
      have := HEL.out
      rw [List.length_append] at *
      simp only [Hid]
      omega
    clear hbs hul hown hon HB HU
    obtain ⟨G, hG⟩ : ∃ G, G = gk := ⟨_, rfl⟩
    subst hG
    by_cases hg0 : G = 0
    · subst hg0
      have d1 : decide ((0 : Int) < ((0 : Nat) : Int)) = false := by simp
      have F : Hid (W.ownsRow w.heap.size 5 1 u4 (runE xs).length ((runE xs).map (Value.int .u8))) := by
        have e : ls = [] := List.eq_nil_of_length_eq_zero HL.out
        have := HO.out
        rw [e, runE, List.append_nil] at this
        simp only [Hid]
        rw [← this]; exact HOWN.out
      go_wp2
      try rw [Exit.noGoto_ret]
      go_ret2
      exact ⟨_, rfl, F.out, HON.out⟩
    · have d1 : decide ((0 : Int) < (G : Int)) = true := decide_eq_true (by omega)
      obtain ⟨b, off, cap', e1, hc0⟩ := (HBS.out.past HON.out).at 0 (by rw [HL.out]; omega)
      have ea : al = some ⟨b, off, none⟩ := by simp at e1; exact e1.1
      subst ea
      clear e1
      rw [Nat.add_zero] at hc0
      have hx0 := HUL.out (ls.getD 0 0) (getD_mem0 ls 0 (by rw [HL.out]; omega))
      obtain ⟨x0, hx⟩ : ∃ x0, x0 = ls.getD 0 0 := ⟨_, rfl⟩
      rw [← hx] at hc0 hx0
      have HX := hideIt hx
      clear hx
      go_wp2
      obtain ⟨O4, hO4⟩ : ∃ O4, O4 = u4 := ⟨_, rfl⟩
      subst hO4
      go_loopg [0, 4, 15] G (fun g2 s0 s4 s15 wy => ∃ j : Nat, j + g2 = G ∧ s0 = .slice (some ⟨b, off, none⟩) G cl ∧ s4 = O4 ∧ s15 = .int .i64 j ∧ Hid (∀ i, i < j → ls.getD i 0 = x0) ∧ W = wy)
      case atStart => exact ⟨0, by omega, rfl, rfl, rfl, (fun i hi => by omega), rfl⟩
      case round =>
        obtain ⟨j, hj, rfl, rfl, rfl, HJ, hw⟩ := hrel
        subst hw
        cases gk with
        | zero =>
          obtain rfl : j = G := by omega
          have R := hideIt (run_any x0 j W hx0.1 hx0.2 (by omega) (by omega))
          have HE : Hid (runE ls = gs x0.toNat ++ gs (j - 1)) := by
            simp only [Hid]
            rw [HX.out, ← HL.out]
            exact runE_all (by rw [HL.out]; omega) (fun i hi => by rw [← HX.out]; exact HJ.out i (by rw [← HL.out]; exact hi))
          go_wp2_with fail
          refine R.out.mono ?_
          rintro e w2 ⟨v2, rfl, own2, o2⟩
          have B2 := hideIt (Bs.of_own own2)
          have N2 := hideIt (NoCap.of_own own2)
          have O2 := hideIt (HON.out.same o2)
          have OWN2 := hideIt (o2.own HOWN.out (fun _ _ f => f))
          rw [← HE.out] at B2
          have HRL : Hid ((runE ls).length ≤ 2000000) := by
            have := congrArg List.length HO.out
            have := HEL.out
            rw [List.length_append] at *
            simp only [Hid]
            omega
          have hsz := O2.out.size
          clear R own2 o2
          go_wp2_with (at_builtin; refine wpList_append_bs _ rfl _ _ _ rfl w.heap.size 5 i0 (.int .u8 0) 1 Tryz.underlying29 hi hz0 hz1 hz2 rfl _ o.length (o.map (Value.int .u8)) rfl OWN2.out .u8 _ (runE ls) rfl B2.out N2.out ?c3 ?c4 hsz ?_)
          case c3 => have := HRL.out; have := HOL.out; unfold maxLen; omega
          case c4 => have := HRL.out; have := HOL.out; omega
          intro v' w3 own3 hgrow _ _
          have F : Hid (w3.ownsRow w.heap.size 5 1 v' (runE xs).length ((runE xs).map (Value.int .u8)) ∧ Only (fun _ => False) w w3) := by
            refine ⟨?_, O2.out.grown hgrow (fun k hk hq => by have := (OWN2.out.lt k hq).1; omega)⟩
            rw [← HO.out, List.length_append, List.map_append]; exact own3
          clear own3 hgrow
          go_wp2
          try rw [Exit.noGoto_ret]
          go_ret2
          exact ⟨_, rfl, F.out⟩
        | succ g =>
          have jl : j < G := by omega
          obtain ⟨b', off', cap'', e1, hcj⟩ := (HBS.out.past HON.out).at j (by rw [HL.out]; exact jl)
          have e2 : b = b' ∧ off = off' := by simp at e1; exact ⟨e1.1.1, e1.1.2⟩
          obtain ⟨rfl, rfl⟩ := e2
          clear e1
          have i0' : (0 : Int) ≤ (j : Int) := by omega
          have i1 : (j : Int) < (G : Int) := by omega
          obtain ⟨x, hx⟩ : ∃ x, x = ls.getD j 0 := ⟨_, rfl⟩
          rw [← hx] at hcj
          have HXJ := hideIt hx
          clear hx
          by_cases hxx : x = x0
          · subst hxx
            have z0 : (x != x) = false := by simp
            go_wp2
            go_roundg g
            case rel => exact ⟨j + 1, by omega, rfl, rfl, by go_num, (fun i hi => by
              rcases Nat.lt_or_ge i j with h | h
              · exact HJ.out i h
              · obtain rfl : i = j := by omega
                exact HXJ.out.symm), rfl⟩
            case measure => omega
          · have z0 : (x != x0) = true := by simpa using hxx
            have j0 : 0 < j := by
              rcases Nat.eq_zero_or_pos j with h | h
              · subst h
                exact absurd (HXJ.out.trans HX.out.symm) hxx
              · exact h
            have HE : Hid (runE ls = gs x0.toNat ++ gs (j - 1) ++ runE (ls.drop j)) := by
              simp only [Hid]
              rw [HX.out]
              exact runE_step j0 (by rw [HL.out]; exact jl) (fun i hi => by rw [← HX.out]; exact HJ.out i hi) (by rw [← HX.out, ← HXJ.out]; exact hxx)
            have R := hideIt (run_any x0 j W hx0.1 hx0.2 (by omega) (by omega))
            have hcap : G ≤ cl := by
              obtain ⟨_, _, e, h2, _⟩ := HBS.out
              simp at e
              have := HL.out
              omega
            have CUT := HBS.out.cut (n := j) (by omega)
            have hadd : (⟨b, off, none⟩ : Addr).add j = ⟨b, off + j, none⟩ := by unfold Addr.add; split <;> simp_all
            rw [Option.map_some, hadd] at CUT
            have CUT := hideIt CUT
            have k1 : (j : Int) ≤ (G : Int) := by omega
            have k2 : (j : Int) ≤ (cl : Int) := by omega
            have k3 : cl ≠ j := by omega
            go_wp2_with fail
            refine R.out.mono ?_
            rintro e w2 ⟨v2, rfl, own2, o2⟩
            have B2 := hideIt (Bs.of_own own2)
            have N2 := hideIt (NoCap.of_own own2)
            have O2 := hideIt (HON.out.same o2)
            have OWN2 := hideIt (o2.own HOWN.out (fun _ _ f => f))
            have HRL : Hid ((gs x0.toNat ++ gs (j - 1)).length ≤ 2000000) := by
              have h1 := congrArg List.length HO.out
              have h2 := HEL.out
              rw [HE.out] at h1
              simp only [List.length_append] at h1
              simp only [Hid, List.length_append]
              omega
            have hsz := O2.out.size
            obtain ⟨q, hq⟩ : ∃ q, q = gs x0.toNat ++ gs (j - 1) := ⟨_, rfl⟩
            rw [← hq] at B2 HRL HE
            clear R own2 o2 hq
            go_wp2_with (at_builtin; refine wpList_append_bs _ rfl _ _ _ rfl w.heap.size 5 i0 (.int .u8 0) 1 Tryz.underlying29 hi hz0 hz1 hz2 rfl _ o.length (o.map (Value.int .u8)) rfl OWN2.out .u8 _ q rfl B2.out N2.out ?c3 ?c4 hsz ?_)
            case c3 => have := HRL.out; have := HOL.out; unfold maxLen; omega
            case c4 => have := HRL.out; have := HOL.out; omega
            intro v' w3 own3 hgrow _ _
            have F : Hid (w3.ownsRow w.heap.size 5 1 v' (o ++ q).length ((o ++ q).map (Value.int .u8)) ∧ Only (fun _ => False) w w3) := by
              refine ⟨?_, O2.out.grown hgrow (fun k hk hq => by have := (OWN2.out.lt k hq).1; omega)⟩
              rw [List.length_append, List.map_append]; exact own3
            clear own3 hgrow OWN2 O2 B2 N2
            go_wp2
            go_roundg (G - j)
            case rel => exact ⟨ls.drop j, o ++ q, (by simp only [Hid]; rw [List.length_drop, HL.out]), by omega, CUT.out, (by simp only [Hid]; rw [List.append_assoc, ← HE.out]; exact HO.out), (fun y hy => HUL.out y (List.mem_of_mem_drop hy)), F.out⟩
            case measure => omega
end Go.Proofs.YthapipgaohlgdabGreatDoor
