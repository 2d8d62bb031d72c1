/- The walk of the statement 'there and back; cut off it is too short; with a word more it is refused'. -/
import Derived.Test.YtjfbokmbpmidbaaTot
import Derived.Test.YtjfbokmbpmidbaaZr
namespace Go.Proofs.Ytjfbokmbpmidbaa
open Go.RowKit

set_option maxHeartbeats 1600000 in
set_option maxRecDepth 100000 in
theorem back_any (v : Value) (xs : List Int) (cut : Int) (w : World) (hb : Bs .u64 w v xs) (hu : U64 xs) :
    Calls Try.prog 5 #[v, .int .i64 cut] w fun e w' => e = .returned (.bool true) ∧ Only (fun _ => False) w w' := by
  have AW := hideIt (awake_any w)
  have HB := hideIt hb
  obtain ⟨ao, cap, rfl⟩ := hb.len
  by_cases h1 : 600 < xs.length
  · have d1 : decide ((600 : Int) < xs.length) = true := decide_eq_true (by omega)
    clear HB hb hu
    generalize xs.length = m at *
    clear h1
    go_enter Try.func5, Try.ntmps5
    go_wp2_with fail
    refine AW.out.mono ?_
    rintro e w1 ⟨rfl, on1⟩
    have O1 := hideIt on1
    clear on1 AW
    go_wp2
    go_ret
    exact ⟨rfl, O1.out⟩
  have d1 : decide ((600 : Int) < xs.length) = false := decide_eq_false (by omega)
  have PA := fun (w1 : World) (o : Only (fun _ => False) w w1) => encode_all (.slice ao xs.length cap) xs w1 (HB.out.past o) hu
  by_cases hE : (ENC xs).2 = 0
  · obtain ⟨eE, hup, _⟩ := ENC_ok (fun x hx => (hu x hx).1) hE
    rw [eE] at PA
    simp only at PA
    have PA := hideIt PA
    have HU := hideIt hup
    have HER := hideIt (enc_range xs.length xs rfl hup)
    obtain ⟨j0, hj, hy0, hy1, hy2⟩ := info_parts Try.infoU8
    have HPL : Hid ((enc xs).length ≤ 4800) := by
      have := (enc_len xs.length xs rfl hup).2.1
      simp only [Hid]; omega
    have hlow := i64_low cut 10 (by omega)
    rw [show ((2 ^ 10 - 1 : Nat) : Int) = 1023 from rfl, show ((2 ^ 10 : Nat) : Int) = 1024 from rfl] at hlow
    obtain ⟨k, hk⟩ : ∃ k : Nat, (k : Int) = cut % 1024 := ⟨(cut % 1024).toNat, by omega⟩
    rw [← hk] at hlow
    have UC : Hid (k < (enc xs).length → dec ((enc xs).take k) xs.length = ([], 2)) := fun h => dec_cut hup h
    have hk10 : k < 1024 := by omega
    obtain ⟨m, hm⟩ : ∃ m, m = xs.length := ⟨_, rfl⟩
    rw [← hm] at HB PA d1 UC ⊢
    have HN : Hid (m = xs.length) := hm
    have HM4 : Hid (m ≤ 600) := by have := HN.out; simp only [Hid]; omega
    clear h1 hm hk hb hu hE eE hup
    go_enter Try.func5, Try.ntmps5
    go_wp2_with fail
    refine AW.out.mono ?_
    rintro e w1 ⟨rfl, on1⟩
    have O1 := hideIt on1
    have A := hideIt (PA.out w1 on1)
    clear on1 AW PA
    go_wp2_with fail
    refine A.out.mono ?_
    rintro e w2 ⟨v1, rfl, own2, on2⟩
    have O2 := hideIt (O1.out.same on2)
    have B1 := hideIt (Bs.of_own own2)
    have NC1 := hideIt (NoCap.of_own own2)
    have U1 := decode_all v1 (enc xs) xs.length w2 B1.out HER.out (by have := HPL.out; omega)
    rw [DEC_nat _ _ (by have := HN.out; have := HM4.out; omega), dec_enc HU.out, ← HN.out] at U1
    have U1 := hideIt U1
    obtain ⟨f1, cp1, e1⟩ := B1.out.len
    subst e1
    have hcp := hideIt B1.out.cap_le
    clear A own2 on2
    go_wp2_with fail
    refine U1.out.mono ?_
    rintro e w3 ⟨v3, rfl, own3, on3⟩
    have O3 := hideIt (O2.out.same on3)
    have on13 := hideIt on3
    have SM := hideIt (lsame6 v3 (.slice ao m cap) xs w3 (Bs.of_own (by rw [← HN.out]; exact own3)) (HB.out.past O3.out) (by have := HN.out; have := HM4.out; omega))
    obtain ⟨f3, c3, e3⟩ := (Bs.of_own (k := .u64) (xs := xs) (by rw [← HN.out]; exact own3)).len
    rw [← HN.out] at e3
    subst e3
    clear U1 own3 on3
    go_wp2_with fail
    refine SM.out.mono ?_
    rintro e w4 ⟨rfl, on4⟩
    have O4 := hideIt (O3.out.same on4)
    have on14 := hideIt (on13.out.same on4)
    clear SM on4 on13
    obtain ⟨p, hp⟩ : ∃ p, p = (enc xs).length := ⟨_, rfl⟩
    rw [← hp] at B1 NC1 hcp UC
    rw [← hp]
    have HP := hideIt hp
    clear hp
    by_cases hkp : k < p
    · have d2 : decide ((k : Int) < (p : Int)) = true := decide_eq_true (by omega)
      have d2n : decide (k < p) = true := decide_eq_true hkp
      have hcc := hcp.out
      have i0 : (0 : Int) ≤ (k : Int) := by omega
      have i2 : (k : Int) ≤ (cp1 : Int) := by omega
      have i3 : (k : Int) ≤ (p : Int) := by omega
      have b4 : Bs .u8 w4 (.slice f1 k cp1) ((enc xs).take k) := (B1.out.past on14.out).head (by omega)
      have UU := decode_all (.slice f1 k cp1) ((enc xs).take k) m w4 b4 (fun y hy => HER.out y (List.mem_of_mem_take hy)) (by rw [List.length_take]; omega)
      rw [DEC_nat _ _ (by have := HM4.out; omega), UC.out hkp] at UU
      have UU := hideIt UU
      clear b4 UC
      go_wp2_with fail
      refine UU.out.mono ?_
      rintro e w5 ⟨v5, rfl, own5, on5⟩
      have O5 := hideIt (O4.out.same on5)
      have on15 := hideIt (on14.out.same on5)
      obtain ⟨f5, c5, e5⟩ := (Bs.of_own (k := .u64) (xs := []) own5).len
      subst e5
      clear UU own5 on5 on14
      have hoX := World.ownsRow_made (base := w5.heap.size) (e := 5) (size := 1) w5 #[] 0 (Nat.le_refl _) (by unfold maxLen; omega) rfl
      have BX := hideIt ((B1.out.past (on15.out)).later ((Below.refl _ w5).alloc (Nat.le_refl _) (.cells #[] 5)))
      have hszX : w5.heap.size ≤ (w5.alloc (.cells #[] 5)).heap.size := by simp
      clear on15
      go_wp2_with (at_builtin; refine wpList_append_bs _ rfl _ _ _ rfl w5.heap.size 5 j0 (.int .u8 0) 1 Try.underlying24 hj hy0 hy1 hy2 rfl _ 0 [] rfl hoX .u8 _ (enc xs) rfl BX.out NC1.out ?c3 ?c4 hszX ?_)
      case c3 => have := HPL.out; unfold maxLen; omega
      case c4 => have := HPL.out; omega
      intro v7 w7 own7 hgrow7 hnil7 _
      have bl7 : Below w5.heap.size w5 w7 := ((Below.refl _ w5).alloc (Nat.le_refl _) _).grown hgrow7 (by simp) (fun q hq => by simp [Value.ownBlock] at hq; omega)
      have hs7 := bl7.size
      obtain ⟨p7, hp7⟩ : ∃ p7, p7 = (enc xs).length := ⟨_, rfl⟩
      have HP7 := hideIt hp7
      rw [← hp7] at own7
      obtain ⟨g7, cap7, e7⟩ : ∃ g7 cap7, v7 = .slice (some ⟨g7, 0, none⟩) p7 cap7 := by
        rcases own7.2 with ⟨h1, _⟩ | ⟨g, cap, cur, h1, _⟩
        · exact absurd h1 hnil7
        · exact ⟨g, cap, h1⟩
      subst e7
      obtain ⟨v8, w8, hr8, own8, hgrow8⟩ := run_append_zeros_own (P := Try.prog) w7 w5.heap.size 24 3 24 5 j0 (.int .u8 0) .i64 .i64 1 Try.underlying24 Try.underlying3 hj hy0 hy1 hy2 rfl rfl g7 p7 cap7 _ own7 8 (by omega) (by have := HPL.out; have := HP7.out; unfold maxLen; omega) (by have := HPL.out; have := HP7.out; omega) hs7
      have bl8 : Below w5.heap.size w5 w8 := bl7.grown hgrow8 hs7 (fun q hq => (own7.lt q hq).1)
      have b8 : Bs .u8 w8 v8 (enc xs ++ List.replicate 8 0) := Bs.of_own (lo := w5.heap.size) (E := 5) (by rw [List.map_append, List.length_append, ← HP7.out, List.map_replicate, List.length_replicate]; exact own8)
      have UL := decode_all v8 (enc xs ++ List.replicate 8 0) xs.length w8 b8 (fun y hy => by
        rcases List.mem_append.1 hy with h | h
        · exact HER.out y h
        · rw [List.eq_of_mem_replicate h]; omega) (by have := HPL.out; rw [List.length_append, List.length_replicate]; omega)
      rw [DEC_nat _ _ (by have := HN.out; have := HM4.out; omega), dec_more HU.out (by simp), ← HN.out] at UL
      have UL := hideIt UL
      have O8 := hideIt ((O5.out).same (only_of_below bl8))
      have HR8 := hideIt hr8
      obtain ⟨f8, c8, e8⟩ := b8.len
      subst e8
      obtain ⟨p8, hp8⟩ : ∃ p8, p8 = (enc xs ++ List.replicate 8 (0 : Int)).length := ⟨_, rfl⟩
      rw [← hp8] at HR8 UL
      clear own7 own8 hgrow8 hgrow7 b8 bl7 bl8 hr8 hoX BX hszX hp7 hnil7 hp8
      go_wp2_with (at_builtin; refine Lib.wpList_append_run _ rfl _ _ _ _ rfl _ _ rfl rfl _ _ HR8.out ?_)
      clear HR8
      go_wp2_with fail
      refine UL.out.mono ?_
      rintro e w9 ⟨v9, rfl, own9, on9⟩
      have O9 := hideIt (O8.out.same on9)
      obtain ⟨f9, c9, e9⟩ := (Bs.of_own (k := .u64) (xs := []) own9).len
      subst e9
      clear UL own9 on9
      go_wp2
      go_ret
      exact ⟨rfl, O9.out⟩
    · have d2 : decide ((k : Int) < (p : Int)) = false := decide_eq_false (by omega)
      have d2n : decide (k < p) = false := decide_eq_false hkp
      have hoX := World.ownsRow_made (base := w4.heap.size) (e := 5) (size := 1) w4 #[] 0 (Nat.le_refl _) (by unfold maxLen; omega) rfl
      have BX := hideIt ((B1.out.past (on14.out)).later ((Below.refl _ w4).alloc (Nat.le_refl _) (.cells #[] 5)))
      have hszX : w4.heap.size ≤ (w4.alloc (.cells #[] 5)).heap.size := by simp
      clear on14
      go_wp2_with (at_builtin; refine wpList_append_bs _ rfl _ _ _ rfl w4.heap.size 5 j0 (.int .u8 0) 1 Try.underlying24 hj hy0 hy1 hy2 rfl _ 0 [] rfl hoX .u8 _ (enc xs) rfl BX.out NC1.out ?c3 ?c4 hszX ?_)
      case c3 => have := HPL.out; unfold maxLen; omega
      case c4 => have := HPL.out; omega
      intro v7 w7 own7 hgrow7 hnil7 _
      have bl7 : Below w4.heap.size w4 w7 := ((Below.refl _ w4).alloc (Nat.le_refl _) _).grown hgrow7 (by simp) (fun q hq => by simp [Value.ownBlock] at hq; omega)
      have hs7 := bl7.size
      obtain ⟨p7, hp7⟩ : ∃ p7, p7 = (enc xs).length := ⟨_, rfl⟩
      have HP7 := hideIt hp7
      rw [← hp7] at own7
      obtain ⟨g7, cap7, e7⟩ : ∃ g7 cap7, v7 = .slice (some ⟨g7, 0, none⟩) p7 cap7 := by
        rcases own7.2 with ⟨h1, _⟩ | ⟨g, cap, cur, h1, _⟩
        · exact absurd h1 hnil7
        · exact ⟨g, cap, h1⟩
      subst e7
      obtain ⟨v8, w8, hr8, own8, hgrow8⟩ := run_append_zeros_own (P := Try.prog) w7 w4.heap.size 24 3 24 5 j0 (.int .u8 0) .i64 .i64 1 Try.underlying24 Try.underlying3 hj hy0 hy1 hy2 rfl rfl g7 p7 cap7 _ own7 8 (by omega) (by have := HPL.out; have := HP7.out; unfold maxLen; omega) (by have := HPL.out; have := HP7.out; omega) hs7
      have bl8 : Below w4.heap.size w4 w8 := bl7.grown hgrow8 hs7 (fun q hq => (own7.lt q hq).1)
      have b8 : Bs .u8 w8 v8 (enc xs ++ List.replicate 8 0) := Bs.of_own (lo := w4.heap.size) (E := 5) (by rw [List.map_append, List.length_append, ← HP7.out, List.map_replicate, List.length_replicate]; exact own8)
      have UL := decode_all v8 (enc xs ++ List.replicate 8 0) xs.length w8 b8 (fun y hy => by
        rcases List.mem_append.1 hy with h | h
        · exact HER.out y h
        · rw [List.eq_of_mem_replicate h]; omega) (by have := HPL.out; rw [List.length_append, List.length_replicate]; omega)
      rw [DEC_nat _ _ (by have := HN.out; have := HM4.out; omega), dec_more HU.out (by simp), ← HN.out] at UL
      have UL := hideIt UL
      have O8 := hideIt ((O4.out).same (only_of_below bl8))
      have HR8 := hideIt hr8
      obtain ⟨f8, c8, e8⟩ := b8.len
      subst e8
      obtain ⟨p8, hp8⟩ : ∃ p8, p8 = (enc xs ++ List.replicate 8 (0 : Int)).length := ⟨_, rfl⟩
      rw [← hp8] at HR8 UL
      clear own7 own8 hgrow8 hgrow7 b8 bl7 bl8 hr8 hoX BX hszX hp7 hnil7 hp8
      go_wp2_with (at_builtin; refine Lib.wpList_append_run _ rfl _ _ _ _ rfl _ _ rfl rfl _ _ HR8.out ?_)
      clear HR8
      go_wp2_with fail
      refine UL.out.mono ?_
      rintro e w9 ⟨v9, rfl, own9, on9⟩
      have O9 := hideIt (O8.out.same on9)
      obtain ⟨f9, c9, e9⟩ := (Bs.of_own (k := .u64) (xs := []) own9).len
      subst e9
      clear UL own9 on9
      go_wp2
      go_ret
      exact ⟨rfl, O9.out⟩
  · have eE := ENC_no (by omega) hE
    rw [eE] at PA
    simp only at PA
    have PA := hideIt PA
    obtain ⟨m, hm⟩ : ∃ m, m = xs.length := ⟨_, rfl⟩
    rw [← hm] at PA d1 ⊢
    clear h1 hm hb hu hE eE HB
    go_enter Try.func5, Try.ntmps5
    go_wp2_with fail
    refine AW.out.mono ?_
    rintro e w1 ⟨rfl, on1⟩
    have O1 := hideIt on1
    have A := hideIt (PA.out w1 on1)
    clear on1 AW PA
    go_wp2_with fail
    refine A.out.mono ?_
    rintro e w2 ⟨v1, rfl, own2, on2⟩
    have O2 := hideIt (O1.out.same on2)
    obtain ⟨f1, c1, e1⟩ := (Bs.of_own (k := .u8) (xs := []) own2).len
    subst e1
    clear A own2 on2
    go_wp2
    go_ret
    exact ⟨rfl, O2.out⟩
end Go.Proofs.Ytjfbokmbpmidbaa
