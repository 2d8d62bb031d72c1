/- The walk of the statement 'there and back; cut off it is too short; with a byte more, or as fewer numbers, it is refused'. -/
import Derived.Test.YtpohcimjfilfoaaTot
namespace Go.Proofs.Ytpohcimjfilfoaa
open Go.RowKit

set_option maxHeartbeats 1600000 in
set_option maxRecDepth 100000 in
theorem back_any (v : Value) (xs : List Int) (cut less : Int) (w : World) (hb : Bs .u64 w v xs) (hu : U64 xs) :
    Calls Try.prog 5 #[v, .int .i64 cut, .int .i64 less] w fun e w' => e = .returned (.bool true) ∧ Only (fun _ => False) w w' := by
  have AW := hideIt (awake_any w)
  have HB := hideIt hb
  obtain ⟨ao, cap, rfl⟩ := hb.len
  by_cases h1 : 600 < xs.length
  · have d1 : decide ((600 : Int) < xs.length) = true := decide_eq_true (by omega)
    clear HB hb hu
    generalize xs.length = m at *
    clear h1
    go_enter Try.func5, Try.ntmps5
    go_wp2_with fail
    refine AW.out.mono ?_
    rintro e w1 ⟨rfl, on1⟩
    have O1 := hideIt on1
    clear on1 AW
    go_wp2
    go_ret
    exact ⟨rfl, O1.out⟩
  have d1 : decide ((600 : Int) < xs.length) = false := decide_eq_false (by omega)
  have PA := hideIt (fun (w1 : World) (o : Only (fun _ => False) w w1) => run_encode_bs (.slice ao xs.length cap) xs w1 (HB.out.past o) hu (by omega))
  have HU := hideIt hu
  obtain ⟨j0, hj, hy0, hy1, hy2⟩ := info_parts Try.infoU8
  have HPL : Hid ((runE xs).length ≤ 12000) := by
    have := runE_len xs hu (by omega)
    simp only [Hid]; omega
  have hlow := i64_low cut 10 (by omega)
  rw [show ((2 ^ 10 - 1 : Nat) : Int) = 1023 from rfl, show ((2 ^ 10 : Nat) : Int) = 1024 from rfl] at hlow
  obtain ⟨k, hk⟩ : ∃ k : Nat, (k : Int) = cut % 1024 := ⟨(cut % 1024).toNat, by omega⟩
  rw [← hk] at hlow
  have hlow2 := i64_low less 10 (by omega)
  rw [show ((2 ^ 10 - 1 : Nat) : Int) = 1023 from rfl, show ((2 ^ 10 : Nat) : Int) = 1024 from rfl] at hlow2
  obtain ⟨t, ht⟩ : ∃ t : Nat, (t : Int) = less % 1024 := ⟨(less % 1024).toNat, by omega⟩
  rw [← ht] at hlow2
  have UC : Hid (k < (runE xs).length → runDec ((runE xs).take k) xs.length = ([], 2)) := fun h => runDec_cut hu (by omega) k h
  have UT : Hid (t < xs.length → runDec (runE xs) t = ([], 3)) := fun h => runDec_less hu (by omega) t h
  have hk10 : k < 1024 := by omega
  have ht10 : t < 1024 := by omega
  obtain ⟨m, hm⟩ : ∃ m, m = xs.length := ⟨_, rfl⟩
  rw [← hm] at HB PA d1 UC UT ⊢
  have HN : Hid (m = xs.length) := hm
  have HM4 : Hid (m ≤ 600) := by have := HN.out; simp only [Hid]; omega
  clear h1 hm hk ht hb hu
  go_enter Try.func5, Try.ntmps5
  go_wp2_with fail
  refine AW.out.mono ?_
  rintro e w1 ⟨rfl, on1⟩
  have O1 := hideIt on1
  have A := hideIt (PA.out w1 on1)
  clear on1 AW PA
  go_wp2_with fail
  refine A.out.mono ?_
  rintro e w2 ⟨v1, rfl, own2, on2⟩
  have O2 := hideIt (O1.out.same on2)
  have B1 := hideIt (Bs.of_own own2)
  have NC1 := hideIt (NoCap.of_own own2)
  have U1 := run_decode_bs v1 (runE xs) xs.length w2 B1.out (runE_range xs) (by have := HPL.out; omega) (by have := HN.out; have := HM4.out; omega)
  have ED := runDec_enc HU.out (by have := HN.out; have := HM4.out; omega) []
  rw [List.append_nil, if_neg (by simp)] at ED
  rw [ED, ← HN.out] at U1
  have U1 := hideIt U1
  obtain ⟨f1, cp1, e1⟩ := B1.out.len
  subst e1
  have hcp : Hid ((runE xs).length ≤ cp1) := by
    obtain ⟨ao', cap', e1, hc, _⟩ := B1.out
    simp only [Value.slice.injEq] at e1
    simp only [Hid]; omega
  clear A own2 on2 ED
  go_wp2_with fail
  refine U1.out.mono ?_
  rintro e w3 ⟨v3, rfl, own3, on3⟩
  have O3 := hideIt (O2.out.same on3)
  have on13 := hideIt on3
  have SM := hideIt (lsame7 v3 (.slice ao m cap) xs w3 (Bs.of_own (by rw [← HN.out]; exact own3)) (HB.out.past O3.out) (by have := HN.out; have := HM4.out; omega))
  obtain ⟨f3, c3, e3⟩ := (Bs.of_own (k := .u64) (xs := xs) (by rw [← HN.out]; exact own3)).len
  rw [← HN.out] at e3
  subst e3
  clear U1 own3 on3
  go_wp2_with fail
  refine SM.out.mono ?_
  rintro e w4 ⟨rfl, on4⟩
  have O4 := hideIt (O3.out.same on4)
  have on14 := hideIt (on13.out.same on4)
  clear SM on4 on13
  obtain ⟨p, hp⟩ : ∃ p, p = (runE xs).length := ⟨_, rfl⟩
  rw [← hp] at B1 NC1 hcp UC
  rw [← hp]
  have HP := hideIt hp
  clear hp
  by_cases hkp : k < p
  · have d2 : decide ((k : Int) < (p : Int)) = true := decide_eq_true (by omega)
    have d2n : decide (k < p) = true := decide_eq_true (by omega)
    have hcc := hcp.out
    have i0 : (0 : Int) ≤ (k : Int) := by omega
    have i2 : (k : Int) ≤ (cp1 : Int) := by omega
    have i3 : (k : Int) ≤ (p : Int) := by omega
    have b4 : Bs .u8 w4 (.slice f1 k cp1) ((runE xs).take k) := (B1.out.past on14.out).head (by omega)
    have UU := run_decode_bs (.slice f1 k cp1) ((runE xs).take k) m w4 b4 (fun y hy => runE_range xs y (List.mem_of_mem_take hy)) (by rw [List.length_take]; omega) (by have := HM4.out; omega)
    rw [UC.out hkp] at UU
    have UU := hideIt UU
    clear b4
    go_wp2_with fail
    refine UU.out.mono ?_
    rintro e w5 ⟨v5, rfl, own5, on5⟩
    have O5 := hideIt (O4.out.same on5)
    have on15 := hideIt (on14.out.same on5)
    obtain ⟨f5, c5, e5⟩ := (Bs.of_own (k := .u64) (xs := []) own5).len
    subst e5
    clear UU own5 on5
    by_cases htm : t < m
    · have d4 : decide ((t : Int) < (m : Int)) = true := decide_eq_true (by omega)
      have d4n : decide (t < m) = true := decide_eq_true (by omega)
      have UV := run_decode_bs (.slice f1 p cp1) (runE xs) t w5 (B1.out.past on15.out) (runE_range xs) (by have := HPL.out; omega) (by have := HM4.out; omega)
      rw [UT.out htm] at UV
      have UV := hideIt UV
      go_wp2_with fail
      refine UV.out.mono ?_
      rintro e w6 ⟨v6, rfl, own6, on6⟩
      have O6 := hideIt (O5.out.same on6)
      have on16 := hideIt (on15.out.same on6)
      obtain ⟨f6, c6, e6⟩ := (Bs.of_own (k := .u64) (xs := []) own6).len
      subst e6
      clear UV own6 on6
      have hoX := World.ownsRow_made (base := w6.heap.size) (e := 5) (size := 1) w6 #[] 0 (Nat.le_refl _) (by unfold maxLen; omega) rfl
      have BX := hideIt ((B1.out.past on16.out).later ((Below.refl _ w6).alloc (Nat.le_refl _) (.cells #[] 5)))
      have hszX : w6.heap.size ≤ (w6.alloc (.cells #[] 5)).heap.size := by simp
      go_wp2_with (at_builtin; refine wpList_append_bs _ rfl _ _ _ rfl w6.heap.size 5 j0 (.int .u8 0) 1 Try.underlying24 hj hy0 hy1 hy2 rfl _ 0 [] rfl hoX .u8 _ (runE xs) rfl BX.out NC1.out ?c3 ?c4 hszX ?_)
      case c3 => have := HPL.out; unfold maxLen; omega
      case c4 => have := HPL.out; omega
      intro v7 w7 own7 hgrow7 _ _
      have bl7 : Below w6.heap.size w6 w7 := ((Below.refl _ w6).alloc (Nat.le_refl _) _).grown hgrow7 (by simp) (fun q hq => by simp [Value.ownBlock] at hq; omega)
      have hs7 := bl7.size
      obtain ⟨p7, hp7⟩ : ∃ p7, p7 = (runE xs).length := ⟨_, rfl⟩
      have HP7 := hideIt hp7
      rw [← hp7] at own7
      clear hoX hgrow7 BX hszX hp7
      go_wp2_with (at_builtin; refine wpList_append_lies _ rfl _ _ _ rfl w6.heap.size 5 j0 (.int .u8 0) 1 1 Try.underlying24 hj hy0 hy1 hy2 rfl (by omega) _ p7 ((runE xs).map (Value.int .u8)) rfl (own7.alloc _) ⟨w7.heap.size, 0, none⟩ 1 1 [.int .u8 0] rfl rfl ?c1 ?c2 (by omega) ?c3 ?c4 ?c5 (w7.heap.size + 1) (by simp) ?_)
      case c1 => exact cell_one_new _ _ _
      case c2 => intro u hu; simp at hu; subst hu; rfl
      case c3 => have := HPL.out; have := HP7.out; unfold maxLen; omega
      case c4 => have := HPL.out; have := HP7.out; omega
      case c5 => simp; omega
      intro g8 cap8 w8 own8 hgrow8 hat8 hg8
      have bl8 : Below w6.heap.size w6 w8 := (bl7.alloc (by omega) _).grown hgrow8 (by simp; omega) (fun q hq => (own7.lt q hq).1)
      have b8 : Bs .u8 w8 (.slice (some ⟨g8, 0, none⟩) (p7 + 1) cap8) (runE xs ++ [0]) := Bs.of_own (lo := w6.heap.size) (E := 5) (by rw [List.map_append, List.length_append, ← HP7.out]; exact own8)
      have UL := run_decode_bs (.slice (some ⟨g8, 0, none⟩) (p7 + 1) cap8) (runE xs ++ [0]) xs.length w8 b8 (fun y hy => by
        rcases List.mem_append.1 hy with h | h
        · exact runE_range xs y h
        · simp at h; omega) (by have := HPL.out; rw [List.length_append]; simp; omega) (by have := HN.out; have := HM4.out; omega)
      rw [runDec_enc HU.out (by have := HN.out; have := HM4.out; omega), if_pos (by simp), ← HN.out] at UL
      have UL := hideIt UL
      have O8 := hideIt (O6.out.same (only_of_below bl8))
      clear own7 own8 hgrow8 hat8 b8 bl7 bl8
      go_wp2_with fail
      refine UL.out.mono ?_
      rintro e w9 ⟨v9, rfl, own9, on9⟩
      have O9 := hideIt (O8.out.same on9)
      obtain ⟨f9, c9, e9⟩ := (Bs.of_own (k := .u64) (xs := []) own9).len
      subst e9
      clear UL own9 on9
      go_wp2
      go_ret
      exact ⟨rfl, O9.out⟩
    · have d4 : decide ((t : Int) < (m : Int)) = false := decide_eq_false (by omega)
      have d4n : decide (t < m) = false := decide_eq_false (by omega)
      have hoX := World.ownsRow_made (base := w5.heap.size) (e := 5) (size := 1) w5 #[] 0 (Nat.le_refl _) (by unfold maxLen; omega) rfl
      have BX := hideIt ((B1.out.past on15.out).later ((Below.refl _ w5).alloc (Nat.le_refl _) (.cells #[] 5)))
      have hszX : w5.heap.size ≤ (w5.alloc (.cells #[] 5)).heap.size := by simp
      go_wp2_with (at_builtin; refine wpList_append_bs _ rfl _ _ _ rfl w5.heap.size 5 j0 (.int .u8 0) 1 Try.underlying24 hj hy0 hy1 hy2 rfl _ 0 [] rfl hoX .u8 _ (runE xs) rfl BX.out NC1.out ?c3 ?c4 hszX ?_)
      case c3 => have := HPL.out; unfold maxLen; omega
      case c4 => have := HPL.out; omega
      intro v7 w7 own7 hgrow7 _ _
      have bl7 : Below w5.heap.size w5 w7 := ((Below.refl _ w5).alloc (Nat.le_refl _) _).grown hgrow7 (by simp) (fun q hq => by simp [Value.ownBlock] at hq; omega)
      have hs7 := bl7.size
      obtain ⟨p7, hp7⟩ : ∃ p7, p7 = (runE xs).length := ⟨_, rfl⟩
      have HP7 := hideIt hp7
      rw [← hp7] at own7
      clear hoX hgrow7 BX hszX hp7
      go_wp2_with (at_builtin; refine wpList_append_lies _ rfl _ _ _ rfl w5.heap.size 5 j0 (.int .u8 0) 1 1 Try.underlying24 hj hy0 hy1 hy2 rfl (by omega) _ p7 ((runE xs).map (Value.int .u8)) rfl (own7.alloc _) ⟨w7.heap.size, 0, none⟩ 1 1 [.int .u8 0] rfl rfl ?c1 ?c2 (by omega) ?c3 ?c4 ?c5 (w7.heap.size + 1) (by simp) ?_)
      case c1 => exact cell_one_new _ _ _
      case c2 => intro u hu; simp at hu; subst hu; rfl
      case c3 => have := HPL.out; have := HP7.out; unfold maxLen; omega
      case c4 => have := HPL.out; have := HP7.out; omega
      case c5 => simp; omega
      intro g8 cap8 w8 own8 hgrow8 hat8 hg8
      have bl8 : Below w5.heap.size w5 w8 := (bl7.alloc (by omega) _).grown hgrow8 (by simp; omega) (fun q hq => (own7.lt q hq).1)
      have b8 : Bs .u8 w8 (.slice (some ⟨g8, 0, none⟩) (p7 + 1) cap8) (runE xs ++ [0]) := Bs.of_own (lo := w5.heap.size) (E := 5) (by rw [List.map_append, List.length_append, ← HP7.out]; exact own8)
      have UL := run_decode_bs (.slice (some ⟨g8, 0, none⟩) (p7 + 1) cap8) (runE xs ++ [0]) xs.length w8 b8 (fun y hy => by
        rcases List.mem_append.1 hy with h | h
        · exact runE_range xs y h
        · simp at h; omega) (by have := HPL.out; rw [List.length_append]; simp; omega) (by have := HN.out; have := HM4.out; omega)
      rw [runDec_enc HU.out (by have := HN.out; have := HM4.out; omega), if_pos (by simp), ← HN.out] at UL
      have UL := hideIt UL
      have O8 := hideIt (O5.out.same (only_of_below bl8))
      clear own7 own8 hgrow8 hat8 b8 bl7 bl8
      go_wp2_with fail
      refine UL.out.mono ?_
      rintro e w9 ⟨v9, rfl, own9, on9⟩
      have O9 := hideIt (O8.out.same on9)
      obtain ⟨f9, c9, e9⟩ := (Bs.of_own (k := .u64) (xs := []) own9).len
      subst e9
      clear UL own9 on9
      go_wp2
      go_ret
      exact ⟨rfl, O9.out⟩
  · have d2 : decide ((k : Int) < (p : Int)) = false := decide_eq_false (by omega)
    have d2n : decide (k < p) = false := decide_eq_false (by omega)
    by_cases htm : t < m
    · have d4 : decide ((t : Int) < (m : Int)) = true := decide_eq_true (by omega)
      have d4n : decide (t < m) = true := decide_eq_true (by omega)
      have UV := run_decode_bs (.slice f1 p cp1) (runE xs) t w4 (B1.out.past on14.out) (runE_range xs) (by have := HPL.out; omega) (by have := HM4.out; omega)
      rw [UT.out htm] at UV
      have UV := hideIt UV
      go_wp2_with fail
      refine UV.out.mono ?_
      rintro e w6 ⟨v6, rfl, own6, on6⟩
      have O6 := hideIt (O4.out.same on6)
      have on16 := hideIt (on14.out.same on6)
      obtain ⟨f6, c6, e6⟩ := (Bs.of_own (k := .u64) (xs := []) own6).len
      subst e6
      clear UV own6 on6
      have hoX := World.ownsRow_made (base := w6.heap.size) (e := 5) (size := 1) w6 #[] 0 (Nat.le_refl _) (by unfold maxLen; omega) rfl
      have BX := hideIt ((B1.out.past on16.out).later ((Below.refl _ w6).alloc (Nat.le_refl _) (.cells #[] 5)))
      have hszX : w6.heap.size ≤ (w6.alloc (.cells #[] 5)).heap.size := by simp
      go_wp2_with (at_builtin; refine wpList_append_bs _ rfl _ _ _ rfl w6.heap.size 5 j0 (.int .u8 0) 1 Try.underlying24 hj hy0 hy1 hy2 rfl _ 0 [] rfl hoX .u8 _ (runE xs) rfl BX.out NC1.out ?c3 ?c4 hszX ?_)
      case c3 => have := HPL.out; unfold maxLen; omega
      case c4 => have := HPL.out; omega
      intro v7 w7 own7 hgrow7 _ _
      have bl7 : Below w6.heap.size w6 w7 := ((Below.refl _ w6).alloc (Nat.le_refl _) _).grown hgrow7 (by simp) (fun q hq => by simp [Value.ownBlock] at hq; omega)
      have hs7 := bl7.size
      obtain ⟨p7, hp7⟩ : ∃ p7, p7 = (runE xs).length := ⟨_, rfl⟩
      have HP7 := hideIt hp7
      rw [← hp7] at own7
      clear hoX hgrow7 BX hszX hp7
      go_wp2_with (at_builtin; refine wpList_append_lies _ rfl _ _ _ rfl w6.heap.size 5 j0 (.int .u8 0) 1 1 Try.underlying24 hj hy0 hy1 hy2 rfl (by omega) _ p7 ((runE xs).map (Value.int .u8)) rfl (own7.alloc _) ⟨w7.heap.size, 0, none⟩ 1 1 [.int .u8 0] rfl rfl ?c1 ?c2 (by omega) ?c3 ?c4 ?c5 (w7.heap.size + 1) (by simp) ?_)
      case c1 => exact cell_one_new _ _ _
      case c2 => intro u hu; simp at hu; subst hu; rfl
      case c3 => have := HPL.out; have := HP7.out; unfold maxLen; omega
      case c4 => have := HPL.out; have := HP7.out; omega
      case c5 => simp; omega
      intro g8 cap8 w8 own8 hgrow8 hat8 hg8
      have bl8 : Below w6.heap.size w6 w8 := (bl7.alloc (by omega) _).grown hgrow8 (by simp; omega) (fun q hq => (own7.lt q hq).1)
      have b8 : Bs .u8 w8 (.slice (some ⟨g8, 0, none⟩) (p7 + 1) cap8) (runE xs ++ [0]) := Bs.of_own (lo := w6.heap.size) (E := 5) (by rw [List.map_append, List.length_append, ← HP7.out]; exact own8)
      have UL := run_decode_bs (.slice (some ⟨g8, 0, none⟩) (p7 + 1) cap8) (runE xs ++ [0]) xs.length w8 b8 (fun y hy => by
        rcases List.mem_append.1 hy with h | h
        · exact runE_range xs y h
        · simp at h; omega) (by have := HPL.out; rw [List.length_append]; simp; omega) (by have := HN.out; have := HM4.out; omega)
      rw [runDec_enc HU.out (by have := HN.out; have := HM4.out; omega), if_pos (by simp), ← HN.out] at UL
      have UL := hideIt UL
      have O8 := hideIt (O6.out.same (only_of_below bl8))
      clear own7 own8 hgrow8 hat8 b8 bl7 bl8
      go_wp2_with fail
      refine UL.out.mono ?_
      rintro e w9 ⟨v9, rfl, own9, on9⟩
      have O9 := hideIt (O8.out.same on9)
      obtain ⟨f9, c9, e9⟩ := (Bs.of_own (k := .u64) (xs := []) own9).len
      subst e9
      clear UL own9 on9
      go_wp2
      go_ret
      exact ⟨rfl, O9.out⟩
    · have d4 : decide ((t : Int) < (m : Int)) = false := decide_eq_false (by omega)
      have d4n : decide (t < m) = false := decide_eq_false (by omega)
      have hoX := World.ownsRow_made (base := w4.heap.size) (e := 5) (size := 1) w4 #[] 0 (Nat.le_refl _) (by unfold maxLen; omega) rfl
      have BX := hideIt ((B1.out.past on14.out).later ((Below.refl _ w4).alloc (Nat.le_refl _) (.cells #[] 5)))
      have hszX : w4.heap.size ≤ (w4.alloc (.cells #[] 5)).heap.size := by simp
      go_wp2_with (at_builtin; refine wpList_append_bs _ rfl _ _ _ rfl w4.heap.size 5 j0 (.int .u8 0) 1 Try.underlying24 hj hy0 hy1 hy2 rfl _ 0 [] rfl hoX .u8 _ (runE xs) rfl BX.out NC1.out ?c3 ?c4 hszX ?_)
      case c3 => have := HPL.out; unfold maxLen; omega
      case c4 => have := HPL.out; omega
      intro v7 w7 own7 hgrow7 _ _
      have bl7 : Below w4.heap.size w4 w7 := ((Below.refl _ w4).alloc (Nat.le_refl _) _).grown hgrow7 (by simp) (fun q hq => by simp [Value.ownBlock] at hq; omega)
      have hs7 := bl7.size
      obtain ⟨p7, hp7⟩ : ∃ p7, p7 = (runE xs).length := ⟨_, rfl⟩
      have HP7 := hideIt hp7
      rw [← hp7] at own7
      clear hoX hgrow7 BX hszX hp7
      go_wp2_with (at_builtin; refine wpList_append_lies _ rfl _ _ _ rfl w4.heap.size 5 j0 (.int .u8 0) 1 1 Try.underlying24 hj hy0 hy1 hy2 rfl (by omega) _ p7 ((runE xs).map (Value.int .u8)) rfl (own7.alloc _) ⟨w7.heap.size, 0, none⟩ 1 1 [.int .u8 0] rfl rfl ?c1 ?c2 (by omega) ?c3 ?c4 ?c5 (w7.heap.size + 1) (by simp) ?_)
      case c1 => exact cell_one_new _ _ _
      case c2 => intro u hu; simp at hu; subst hu; rfl
      case c3 => have := HPL.out; have := HP7.out; unfold maxLen; omega
      case c4 => have := HPL.out; have := HP7.out; omega
      case c5 => simp; omega
      intro g8 cap8 w8 own8 hgrow8 hat8 hg8
      have bl8 : Below w4.heap.size w4 w8 := (bl7.alloc (by omega) _).grown hgrow8 (by simp; omega) (fun q hq => (own7.lt q hq).1)
      have b8 : Bs .u8 w8 (.slice (some ⟨g8, 0, none⟩) (p7 + 1) cap8) (runE xs ++ [0]) := Bs.of_own (lo := w4.heap.size) (E := 5) (by rw [List.map_append, List.length_append, ← HP7.out]; exact own8)
      have UL := run_decode_bs (.slice (some ⟨g8, 0, none⟩) (p7 + 1) cap8) (runE xs ++ [0]) xs.length w8 b8 (fun y hy => by
        rcases List.mem_append.1 hy with h | h
        · exact runE_range xs y h
        · simp at h; omega) (by have := HPL.out; rw [List.length_append]; simp; omega) (by have := HN.out; have := HM4.out; omega)
      rw [runDec_enc HU.out (by have := HN.out; have := HM4.out; omega), if_pos (by simp), ← HN.out] at UL
      have UL := hideIt UL
      have O8 := hideIt (O4.out.same (only_of_below bl8))
      clear own7 own8 hgrow8 hat8 b8 bl7 bl8
      go_wp2_with fail
      refine UL.out.mono ?_
      rintro e w9 ⟨v9, rfl, own9, on9⟩
      have O9 := hideIt (O8.out.same on9)
      obtain ⟨f9, c9, e9⟩ := (Bs.of_own (k := .u64) (xs := []) own9).len
      subst e9
      clear UL own9 on9
      go_wp2
      go_ret
      exact ⟨rfl, O9.out⟩
end Go.Proofs.Ytpohcimjfilfoaa
