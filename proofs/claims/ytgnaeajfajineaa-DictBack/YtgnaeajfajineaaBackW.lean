/- The walk of the statement 'there and back; cut off it is too short; with a byte more it is refused'. -/
import Derived.Test.YtgnaeajfajineaaAw10
namespace Go.Proofs.Ytgnaeajfajineaa
open Go.RowKit

theorem Try.infoU8b : (Try.prog.info? 5).map (fun i => (i.zero, i.size, i.bytes)) = some (some (.int .u8 0), 1, 1) := by kernel_rfl
set_option maxHeartbeats 1600000 in
set_option maxRecDepth 100000 in
theorem back_any (v : Value) (xs : List Int) (cut more : Int) (w : World) (hb : Bs .u64 w v xs) (hu : U64 xs) (hmo : 0 ≤ more ∧ more ≤ 255) :
    Calls Try.prog 5 #[v, .int .i64 cut, .int .u8 more] w fun e w' => e = .returned (.bool true) ∧ Only (fun _ => False) w w' := by
  have AW := hideIt (awake_any w)
  have HB := hideIt hb
  obtain ⟨ao, cap, rfl⟩ := hb.len
  by_cases h1 : 300 < xs.length
  · have d1 : decide ((300 : Int) < xs.length) = true := decide_eq_true (by omega)
    clear HB hb hu
    generalize xs.length = m at *
    clear h1
    go_enter Try.func5, Try.ntmps5
    go_wp2_with fail
    refine AW.out.mono ?_
    rintro e w1 ⟨rfl, on1⟩
    have O1 := hideIt on1
    clear on1 AW
    go_wp2
    go_ret
    exact ⟨rfl, O1.out⟩
  have d1 : decide ((300 : Int) < xs.length) = false := decide_eq_false (by omega)
  have PA := fun (w1 : World) (o : Only (fun _ => False) w w1) => encode10_all (.slice ao xs.length cap) xs w1 (HB.out.past o) hu
  have hE0 : (ENC10 xs).2 = 0 := by rw [ENC10_of (by omega)]
  rw [hE0] at PA
  obtain ⟨j0, hj, hy0, hy1, hy2⟩ := info_parts Try.infoU8b
  have HPL : Hid ((ENC10 xs).1.length ≤ 5000) := by
    have h1 := gs_le10 (dic_lt (l := xs) (by omega))
    have h2 := dic_len xs
    have h3 := wP_le (k := (dic xs).length) (by omega)
    have h4 : (tail10 (dic xs) xs).length ≤ 300 * 16 := by rw [tail10_len]; exact Nat.mul_le_mul (by omega) h3
    simp only [Hid]; rw [ENC10_of (by omega)]; simp only [List.length_append, fx8_len, bytesI_length]; unfold nb; omega
  have hlow := i64_low cut 12 (by omega)
  rw [show ((2 ^ 12 - 1 : Nat) : Int) = 4095 from rfl, show ((2 ^ 12 : Nat) : Int) = 4096 from rfl] at hlow
  obtain ⟨k, hk⟩ : ∃ k : Nat, (k : Int) = cut % 4096 := ⟨(cut % 4096).toNat, by omega⟩
  rw [← hk] at hlow
  have UC : Hid (k < (ENC10 xs).1.length → DEC10 ((ENC10 xs).1.take k) xs.length = ([], 2)) := fun h => DEC10_cut (by omega) h
  have UM : Hid (DEC10 ((ENC10 xs).1 ++ [more]) xs.length = ([], 3)) := DEC10_more hu (by omega) (List.cons_ne_nil _ _)
  have UB : Hid (DEC10 (ENC10 xs).1 xs.length = (xs, 0)) := DEC10_ENC10 hu (by omega)
  have HRE := hideIt (ENC10_rng xs)
  have HRM : Hid (∀ y ∈ (ENC10 xs).1 ++ [more], 0 ≤ y ∧ y ≤ 255) := fun y hy => by
    rcases List.mem_append.1 hy with h | h
    · exact ENC10_rng xs y h
    · simp at h; omega
  have PA := hideIt PA
  clear hE0
  generalize (ENC10 xs).1 = E at *
  have hk10 : k < 4096 := by omega
  obtain ⟨m, hm⟩ : ∃ m, m = xs.length := ⟨_, rfl⟩
  rw [← hm] at HB PA d1 UC ⊢
  have HN : Hid (m = xs.length) := hm
  have HM4 : Hid (m ≤ 300) := by have := HN.out; simp only [Hid]; omega
  clear h1 hm hk hb hu
  go_enter Try.func5, Try.ntmps5
  go_wp2_with fail
  refine AW.out.mono ?_
  rintro e w1 ⟨rfl, on1⟩
  have O1 := hideIt on1
  have A := hideIt (PA.out w1 on1)
  clear on1 AW PA
  go_wp2_with fail
  refine A.out.mono ?_
  rintro e w2 ⟨v1, rfl, own2, on2⟩
  have O2 := hideIt (O1.out.same on2)
  have B1 := hideIt (Bs.of_own own2)
  have NC1 := hideIt (NoCap.of_own own2)
  have U1 := decode10_all v1 E xs.length w2 B1.out HRE.out (by have := HPL.out; omega)
  rw [UB.out, ← HN.out] at U1
  have U1 := hideIt U1
  obtain ⟨f1, cp1, e1⟩ := B1.out.len
  subst e1
  have hcp : Hid (E.length ≤ cp1) := by
    obtain ⟨ao', cap', e1, hc, _⟩ := B1.out
    simp only [Value.slice.injEq] at e1
    simp only [Hid]; omega
  clear A own2 on2 UB
  go_wp2_with fail
  refine U1.out.mono ?_
  rintro e w3 ⟨v3, rfl, own3, on3⟩
  have O3 := hideIt (O2.out.same on3)
  have on13 := hideIt on3
  have SM := hideIt (lsame10 v3 (.slice ao m cap) xs w3 (Bs.of_own (by rw [← HN.out]; exact own3)) (HB.out.past O3.out) (by have := HN.out; have := HM4.out; omega))
  obtain ⟨f3, c3, e3⟩ := (Bs.of_own (k := .u64) (xs := xs) (by rw [← HN.out]; exact own3)).len
  rw [← HN.out] at e3
  subst e3
  clear U1 own3 on3
  go_wp2_with fail
  refine SM.out.mono ?_
  rintro e w4 ⟨rfl, on4⟩
  have O4 := hideIt (O3.out.same on4)
  have on14 := hideIt (on13.out.same on4)
  clear SM on4 on13
  obtain ⟨p, hp⟩ : ∃ p, p = E.length := ⟨_, rfl⟩
  rw [← hp] at B1 NC1 hcp UC
  rw [← hp]
  have HP := hideIt hp
  clear hp
  by_cases hkp : k < p
  · have d2 : decide ((k : Int) < (p : Int)) = true := decide_eq_true (by omega)
    have d2n : decide (k < p) = true := decide_eq_true (by omega)
    have hcc := hcp.out
    have i0 : (0 : Int) ≤ (k : Int) := by omega
    have i2 : (k : Int) ≤ (cp1 : Int) := by omega
    have i3 : (k : Int) ≤ (p : Int) := by omega
    have b4 : Bs .u8 w4 (.slice f1 k cp1) (E.take k) := (B1.out.past on14.out).head (by omega)
    have UU := decode10_all (.slice f1 k cp1) (E.take k) m w4 b4 (fun y hy => HRE.out y (List.mem_of_mem_take hy)) (by have := HPL.out; rw [List.length_take]; omega)
    rw [UC.out hkp] at UU
    have UU := hideIt UU
    clear b4
    go_wp2_with fail
    refine UU.out.mono ?_
    rintro e w5 ⟨v5, rfl, own5, on5⟩
    have O5 := hideIt (O4.out.same on5)
    have on15 := hideIt (on14.out.same on5)
    obtain ⟨f5, c5, e5⟩ := (Bs.of_own (k := .u64) (xs := []) own5).len
    subst e5
    clear UU own5 on5
    have hoX := World.ownsRow_made (base := w5.heap.size) (e := 5) (size := 1) w5 #[] 0 (Nat.le_refl _) (by unfold maxLen; omega) rfl
    have BX := hideIt ((B1.out.past on15.out).later ((Below.refl _ w5).alloc (Nat.le_refl _) (.cells #[] 5)))
    have hszX : w5.heap.size ≤ (w5.alloc (.cells #[] 5)).heap.size := by simp
    go_wp2_with (at_builtin; refine wpList_append_bs _ rfl _ _ _ rfl w5.heap.size 5 j0 (.int .u8 0) 1 Try.underlying24 hj hy0 hy1 hy2 rfl _ 0 [] rfl hoX .u8 _ E rfl BX.out NC1.out ?c3 ?c4 hszX ?_)
    case c3 => have := HPL.out; unfold maxLen; omega
    case c4 => have := HPL.out; omega
    intro v7 w7 own7 hgrow7 _ _
    have bl7 : Below w5.heap.size w5 w7 := ((Below.refl _ w5).alloc (Nat.le_refl _) _).grown hgrow7 (by simp) (fun q hq => by simp [Value.ownBlock] at hq; omega)
    have hs7 := bl7.size
    obtain ⟨p7, hp7⟩ : ∃ p7, p7 = E.length := ⟨_, rfl⟩
    have HP7 := hideIt hp7
    rw [← hp7] at own7
    clear hoX hgrow7 BX hszX hp7
    go_wp2_with (at_builtin; refine wpList_append_lies _ rfl _ _ _ rfl w5.heap.size 5 j0 (.int .u8 0) 1 1 Try.underlying24 hj hy0 hy1 hy2 rfl (by omega) _ p7 (E.map (Value.int .u8)) rfl (own7.alloc _) ⟨w7.heap.size, 0, none⟩ 1 1 [.int .u8 more] rfl rfl ?c1 ?c2 (by omega) ?c3 ?c4 ?c5 (w7.heap.size + 1) (by simp) ?_)
    case c1 => exact cell_one_new _ _ _
    case c2 => intro u hu; simp at hu; subst hu; rfl
    case c3 => have := HPL.out; have := HP7.out; unfold maxLen; omega
    case c4 => have := HPL.out; have := HP7.out; omega
    case c5 => simp; omega
    intro g8 cap8 w8 own8 hgrow8 hat8 hg8
    have bl8 : Below w5.heap.size w5 w8 := (bl7.alloc (by omega) _).grown hgrow8 (by simp; omega) (fun q hq => (own7.lt q hq).1)
    have b8 : Bs .u8 w8 (.slice (some ⟨g8, 0, none⟩) (p7 + 1) cap8) (E ++ [more]) := Bs.of_own (lo := w5.heap.size) (E := 5) (by rw [List.map_append, List.length_append, ← HP7.out]; exact own8)
    have O8 := hideIt (O5.out.same (only_of_below bl8))
    have UL := decode10_all (.slice (some ⟨g8, 0, none⟩) (p7 + 1) cap8) (E ++ [more]) xs.length w8 b8 HRM.out (by have := HPL.out; rw [List.length_append]; simp; omega)
    rw [UM.out, ← HN.out] at UL
    have UL := hideIt UL
    clear own7 own8 hgrow8 hat8 b8 bl7 bl8
    go_wp2_with fail
    refine UL.out.mono ?_
    rintro e w9 ⟨v9, rfl, own9, on9⟩
    have O9 := hideIt (O8.out.same on9)
    obtain ⟨f9, c9, e9⟩ := (Bs.of_own (k := .u64) (xs := []) own9).len
    subst e9
    clear UL own9 on9
    go_wp2
    go_ret
    exact ⟨rfl, O9.out⟩
  · have d2 : decide ((k : Int) < (p : Int)) = false := decide_eq_false (by omega)
    have d2n : decide (k < p) = false := decide_eq_false (by omega)
    have hoX := World.ownsRow_made (base := w4.heap.size) (e := 5) (size := 1) w4 #[] 0 (Nat.le_refl _) (by unfold maxLen; omega) rfl
    have BX := hideIt ((B1.out.past on14.out).later ((Below.refl _ w4).alloc (Nat.le_refl _) (.cells #[] 5)))
    have hszX : w4.heap.size ≤ (w4.alloc (.cells #[] 5)).heap.size := by simp
    go_wp2_with (at_builtin; refine wpList_append_bs _ rfl _ _ _ rfl w4.heap.size 5 j0 (.int .u8 0) 1 Try.underlying24 hj hy0 hy1 hy2 rfl _ 0 [] rfl hoX .u8 _ E rfl BX.out NC1.out ?c3 ?c4 hszX ?_)
    case c3 => have := HPL.out; unfold maxLen; omega
    case c4 => have := HPL.out; omega
    intro v7 w7 own7 hgrow7 _ _
    have bl7 : Below w4.heap.size w4 w7 := ((Below.refl _ w4).alloc (Nat.le_refl _) _).grown hgrow7 (by simp) (fun q hq => by simp [Value.ownBlock] at hq; omega)
    have hs7 := bl7.size
    obtain ⟨p7, hp7⟩ : ∃ p7, p7 = E.length := ⟨_, rfl⟩
    have HP7 := hideIt hp7
    rw [← hp7] at own7
    clear hoX hgrow7 BX hszX hp7
    go_wp2_with (at_builtin; refine wpList_append_lies _ rfl _ _ _ rfl w4.heap.size 5 j0 (.int .u8 0) 1 1 Try.underlying24 hj hy0 hy1 hy2 rfl (by omega) _ p7 (E.map (Value.int .u8)) rfl (own7.alloc _) ⟨w7.heap.size, 0, none⟩ 1 1 [.int .u8 more] rfl rfl ?c1 ?c2 (by omega) ?c3 ?c4 ?c5 (w7.heap.size + 1) (by simp) ?_)
    case c1 => exact cell_one_new _ _ _
    case c2 => intro u hu; simp at hu; subst hu; rfl
    case c3 => have := HPL.out; have := HP7.out; unfold maxLen; omega
    case c4 => have := HPL.out; have := HP7.out; omega
    case c5 => simp; omega
    intro g8 cap8 w8 own8 hgrow8 hat8 hg8
    have bl8 : Below w4.heap.size w4 w8 := (bl7.alloc (by omega) _).grown hgrow8 (by simp; omega) (fun q hq => (own7.lt q hq).1)
    have b8 : Bs .u8 w8 (.slice (some ⟨g8, 0, none⟩) (p7 + 1) cap8) (E ++ [more]) := Bs.of_own (lo := w4.heap.size) (E := 5) (by rw [List.map_append, List.length_append, ← HP7.out]; exact own8)
    have O8 := hideIt (O4.out.same (only_of_below bl8))
    have UL := decode10_all (.slice (some ⟨g8, 0, none⟩) (p7 + 1) cap8) (E ++ [more]) xs.length w8 b8 HRM.out (by have := HPL.out; rw [List.length_append]; simp; omega)
    rw [UM.out, ← HN.out] at UL
    have UL := hideIt UL
    clear own7 own8 hgrow8 hat8 b8 bl7 bl8
    go_wp2_with fail
    refine UL.out.mono ?_
    rintro e w9 ⟨v9, rfl, own9, on9⟩
    have O9 := hideIt (O8.out.same on9)
    obtain ⟨f9, c9, e9⟩ := (Bs.of_own (k := .u64) (xs := []) own9).len
    subst e9
    clear UL own9 on9
    go_wp2
    go_ret
    exact ⟨rfl, O9.out⟩
end Go.Proofs.Ytgnaeajfajineaa
