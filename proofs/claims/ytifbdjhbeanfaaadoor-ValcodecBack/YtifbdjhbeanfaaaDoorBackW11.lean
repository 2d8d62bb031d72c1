/- The walk of the statement 'there and back; cut off, or with a byte more, it is refused' on a list of patterns. -/
import Derived.Test.YtifbdjhbeanfaaaDoorG11
namespace Go.Proofs.YtifbdjhbeanfaaaDoor
open Go.RowKit

theorem decode11_no (v : Value) (ys : List Int) (n : Int) (w : World) (h : Bs .u8 w v ys) (hr : ∀ y ∈ ys, 0 ≤ y ∧ y ≤ 255) (hl : ys.length ≤ 1000000000) (hT : Tab w) (hne : (DEC11 ys n).2 ≠ 0) :
    Calls Tryd.prog 15 #[v, .int .i64 n] w fun e w' => ∃ f cap c, e = .returned (.tuple #[.slice f 0 cap, .int .i64 c]) ∧ c ≠ 0 ∧ Only (fun _ => False) w w' := by
  refine (decode11_all v ys n w h hr hl hT).mono ?_
  rintro e w' ⟨u, rfl, own, o⟩
  rw [DEC11_err hne] at own
  obtain ⟨f, cap, e⟩ := (Bs.of_own (k := .u64) (xs := []) own).len
  exact ⟨f, cap, _, by rw [e]; rfl, hne, o⟩

set_option maxHeartbeats 1600000 in
set_option maxRecDepth 100000 in
theorem back_any (v : Value) (xs : List Int) (cut more : Int) (w : World) (hb : Bs .u64 w v xs) (hg : U64 xs) (m0 : 0 ≤ more) (m1 : more ≤ 255) (hT : Tab w) :
    Calls Tryd.prog 6 #[v, .int .i64 cut, .int .u8 more] w fun e w' => e = .returned (.bool true) ∧ Only (fun _ => False) w w' := by
  have AW := hideIt (awake_any w hT)
  have HB := hideIt hb
  obtain ⟨ao, cap, rfl⟩ := hb.len
  by_cases h1 : 300 < xs.length
  · have d1 : decide ((300 : Int) < xs.length) = true := decide_eq_true (by omega)
    clear HB hb hg
    generalize xs.length = m at *
    clear h1
    go_enter Tryd.func6, Tryd.ntmps6
    go_wp2_with fail
    refine AW.out.mono ?_
    rintro e w1 ⟨rfl, on1⟩
    have O1 := hideIt on1
    clear on1 AW
    go_wp2
    go_ret
    exact ⟨rfl, O1.out⟩
  have d1 : decide ((300 : Int) < xs.length) = false := decide_eq_false (by omega)
  have hl6 : xs.length ≤ 65536 := by omega
  have hE := ENC11_of hl6
  have PA := fun (w1 : World) (o : Only (fun _ => False) w w1) => encode11_all (.slice ao xs.length cap) xs w1 (HB.out.past o) hg (hT.past o)
  have hE0 : (ENC11 xs).2 = 0 := by rw [hE]
  rw [hE0] at PA
  have PA := hideIt PA
  obtain ⟨j0, hj, hy0, hy1, hy2⟩ := info_parts Tryd.infoU8
  have HPL : Hid ((ENC11 xs).1.length ≤ 3000) := by
    have := (ENC11_len hl6).1
    simp only [Hid]; omega
  have hlow := i64_low cut 12 (by omega)
  rw [show ((2 ^ 12 - 1 : Nat) : Int) = 4095 from rfl, show ((2 ^ 12 : Nat) : Int) = 4096 from rfl] at hlow
  obtain ⟨k, hk⟩ : ∃ k : Nat, (k : Int) = cut % 4096 := ⟨(cut % 4096).toNat, by omega⟩
  rw [← hk] at hlow
  have UC : Hid (k < (ENC11 xs).1.length → ∀ (v1 : Value) (w1 : World), Only (fun _ => False) w w1 → Bs .u8 w1 v1 ((ENC11 xs).1.take k) → Calls Tryd.prog 15 #[v1, .int .i64 xs.length] w1 fun e w' => ∃ f cap c, e = .returned (.tuple #[.slice f 0 cap, .int .i64 c]) ∧ c ≠ 0 ∧ Only (fun _ => False) w1 w') :=
    fun h v1 w1 o b => decode11_no v1 _ _ w1 b (fun y hy => ENC11_rng xs y (List.mem_of_mem_take hy)) (by have := HPL.out; rw [List.length_take]; omega) (hT.past o) (DEC11_cut hg hl6 h)
  have HRM : Hid (∀ y ∈ (ENC11 xs).1 ++ [more], 0 ≤ y ∧ y ≤ 255) := fun y hy => by
    rcases List.mem_append.1 hy with h | h
    · exact ENC11_rng xs y h
    · simp at h; omega
  have UM : Hid (∀ (v1 : Value) (w1 : World), Only (fun _ => False) w w1 → Bs .u8 w1 v1 ((ENC11 xs).1 ++ [more]) → Calls Tryd.prog 15 #[v1, .int .i64 xs.length] w1 fun e w' => ∃ f cap c, e = .returned (.tuple #[.slice f 0 cap, .int .i64 c]) ∧ c ≠ 0 ∧ Only (fun _ => False) w1 w') :=
    fun v1 w1 o b => decode11_no v1 _ _ w1 b HRM.out (by have := HPL.out; rw [List.length_append]; simp; omega) (hT.past o) (DEC11_more hg hl6 (by simp))
  have UD : Hid (∀ (v1 : Value) (w1 : World), Only (fun _ => False) w w1 → Bs .u8 w1 v1 (ENC11 xs).1 → Calls Tryd.prog 15 #[v1, .int .i64 xs.length] w1 fun e w' => ∃ u, e = .returned (.tuple #[u, .int .i64 0]) ∧ w'.ownsRow w1.heap.size 38 1 u xs.length (xs.map (Value.int .u64)) ∧ Only (fun _ => False) w1 w') := fun v1 w1 o b => by
    have := decode11_all v1 (ENC11 xs).1 xs.length w1 b (ENC11_rng xs) (by have := HPL.out; omega) (hT.past o)
    rw [DEC11_ENC11 hg hl6] at this
    exact this
  have hk10 : k < 4096 := by omega
  obtain ⟨m, hm⟩ : ∃ m, m = xs.length := ⟨_, rfl⟩
  rw [← hm] at HB PA d1 UC UM UD ⊢
  have HN : Hid (m = xs.length) := hm
  have HM4 : Hid (m ≤ 300) := by have := HN.out; simp only [Hid]; omega
  clear HRM
  generalize (ENC11 xs).1 = eb at *
  clear h1 hm hk hb hg hE hE0 hl6
  go_enter Tryd.func6, Tryd.ntmps6
  go_wp2_with fail
  refine AW.out.mono ?_
  rintro e w1 ⟨rfl, on1⟩
  have O1 := hideIt on1
  have A := hideIt (PA.out w1 on1)
  clear on1 AW PA
  go_wp2_with fail
  refine A.out.mono ?_
  rintro e w2 ⟨v1, rfl, own2, on2⟩
  have O2 := hideIt (O1.out.same on2)
  have B1 := hideIt (Bs.of_own own2)
  have NC1 := hideIt (NoCap.of_own own2)
  have U1 := hideIt (UD.out v1 w2 O2.out B1.out)
  obtain ⟨f1, cp1, e1⟩ := B1.out.len
  subst e1
  have hcp : Hid (eb.length ≤ cp1) := by
    obtain ⟨ao', cap', e1, hc, _⟩ := B1.out
    simp only [Value.slice.injEq] at e1
    simp only [Hid]; omega
  clear A own2 on2 UD
  go_wp2_with fail
  refine U1.out.mono ?_
  rintro e w3 ⟨v3, rfl, own3, on3⟩
  have O3 := hideIt (O2.out.same on3)
  have on13 := hideIt on3
  have SM := hideIt (lsame11 v3 (.slice ao m cap) xs w3 (Bs.of_own (by rw [← HN.out]; exact own3)) (HB.out.past O3.out) (by have := HN.out; have := HM4.out; omega))
  obtain ⟨f3, c3, e3⟩ := (Bs.of_own (k := .u64) (xs := xs) (by rw [← HN.out]; exact own3)).len
  rw [← HN.out] at e3
  subst e3
  clear U1 own3 on3
  go_wp2_with fail
  refine SM.out.mono ?_
  rintro e w4 ⟨rfl, on4⟩
  have O4 := hideIt (O3.out.same on4)
  have on14 := hideIt (on13.out.same on4)
  clear SM on4 on13
  obtain ⟨p, hp⟩ : ∃ p, p = eb.length := ⟨_, rfl⟩
  rw [← hp] at B1 NC1 hcp UC
  rw [← hp]
  have HP := hideIt hp
  clear hp
  by_cases hkp : k < p
  · have d2 : decide ((k : Int) < (p : Int)) = true := decide_eq_true (by omega)
    have d2n : decide (k < p) = true := decide_eq_true (by omega)
    have hcc := hcp.out
    have i0 : (0 : Int) ≤ (k : Int) := by omega
    have i2 : (k : Int) ≤ (cp1 : Int) := by omega
    have i3 : (k : Int) ≤ (p : Int) := by omega
    have b4 : Bs .u8 w4 (.slice f1 k cp1) (eb.take k) := (B1.out.past on14.out).head (by omega)
    have UU := hideIt (UC.out hkp (.slice f1 k cp1) w4 O4.out b4)
    clear b4
    go_wp2_with fail
    refine UU.out.mono ?_
    rintro e w5 ⟨f5, c5, x5, rfl, hx5, on5⟩
    have O5 := hideIt (O4.out.same on5)
    have on15 := hideIt (on14.out.same on5)
    have z5 : (x5 == 0) = false := by rw [beq_eq_false_iff_ne]; exact hx5
    clear UU on5 hx5
    have hoX := World.ownsRow_made (base := w5.heap.size) (e := 5) (size := 1) w5 #[] 0 (Nat.le_refl _) (by unfold maxLen; omega) rfl
    have BX := hideIt ((B1.out.past on15.out).later ((Below.refl _ w5).alloc (Nat.le_refl _) (.cells #[] 5)))
    have hszX : w5.heap.size ≤ (w5.alloc (.cells #[] 5)).heap.size := by simp
    go_wp2_with (at_builtin; refine wpList_append_bs _ rfl _ _ _ rfl w5.heap.size 5 j0 (.int .u8 0) 1 Tryd.underlying24 hj hy0 hy1 hy2 rfl _ 0 [] rfl hoX .u8 _ eb rfl BX.out NC1.out ?c3 ?c4 hszX ?_)
    case c3 => have := HPL.out; unfold maxLen; omega
    case c4 => have := HPL.out; omega
    intro v7 w7 own7 hgrow7 _ _
    have bl7 : Below w5.heap.size w5 w7 := ((Below.refl _ w5).alloc (Nat.le_refl _) _).grown hgrow7 (by simp) (fun q hq => by simp [Value.ownBlock] at hq; omega)
    have hs7 := bl7.size
    obtain ⟨p7, hp7⟩ : ∃ p7, p7 = eb.length := ⟨_, rfl⟩
    have HP7 := hideIt hp7
    rw [← hp7] at own7
    clear hoX hgrow7 BX hszX hp7
    go_wp2_with (at_builtin; refine wpList_append_lies _ rfl _ _ _ rfl w5.heap.size 5 j0 (.int .u8 0) 1 1 Tryd.underlying24 hj hy0 hy1 hy2 rfl (by omega) _ p7 (eb.map (Value.int .u8)) rfl (own7.alloc _) ⟨w7.heap.size, 0, none⟩ 1 1 [.int .u8 more] rfl rfl ?c1 ?c2 (by omega) ?c3 ?c4 ?c5 (w7.heap.size + 1) (by simp) ?_)
    case c1 => exact cell_one_new _ _ _
    case c2 => intro u hu; simp at hu; subst hu; rfl
    case c3 => have := HPL.out; have := HP7.out; unfold maxLen; omega
    case c4 => have := HPL.out; have := HP7.out; omega
    case c5 => simp; omega
    intro g8 cap8 w8 own8 hgrow8 hat8 hg8
    have bl8 : Below w5.heap.size w5 w8 := (bl7.alloc (by omega) _).grown hgrow8 (by simp; omega) (fun q hq => (own7.lt q hq).1)
    have b8 : Bs .u8 w8 (.slice (some ⟨g8, 0, none⟩) (p7 + 1) cap8) (eb ++ [more]) := Bs.of_own (lo := w5.heap.size) (E := 5) (by rw [List.map_append, List.length_append, ← HP7.out]; exact own8)
    have O8 := hideIt (O5.out.same (only_of_below bl8))
    have UL := hideIt (UM.out (.slice (some ⟨g8, 0, none⟩) (p7 + 1) cap8) w8 O8.out b8)
    clear own7 own8 hgrow8 hat8 b8 bl7 bl8
    go_wp2_with fail
    refine UL.out.mono ?_
    rintro e w9 ⟨f9, c9, x9, rfl, hx9, on9⟩
    have O9 := hideIt (O8.out.same on9)
    have z9 : (x9 != 0) = true := by simp; exact hx9
    clear UL on9 hx9
    go_wp2
    go_ret
    exact ⟨rfl, O9.out⟩
  · have d2 : decide ((k : Int) < (p : Int)) = false := decide_eq_false (by omega)
    have d2n : decide (k < p) = false := decide_eq_false (by omega)
    have hoX := World.ownsRow_made (base := w4.heap.size) (e := 5) (size := 1) w4 #[] 0 (Nat.le_refl _) (by unfold maxLen; omega) rfl
    have BX := hideIt ((B1.out.past on14.out).later ((Below.refl _ w4).alloc (Nat.le_refl _) (.cells #[] 5)))
    have hszX : w4.heap.size ≤ (w4.alloc (.cells #[] 5)).heap.size := by simp
    go_wp2_with (at_builtin; refine wpList_append_bs _ rfl _ _ _ rfl w4.heap.size 5 j0 (.int .u8 0) 1 Tryd.underlying24 hj hy0 hy1 hy2 rfl _ 0 [] rfl hoX .u8 _ eb rfl BX.out NC1.out ?c3 ?c4 hszX ?_)
    case c3 => have := HPL.out; unfold maxLen; omega
    case c4 => have := HPL.out; omega
    intro v7 w7 own7 hgrow7 _ _
    have bl7 : Below w4.heap.size w4 w7 := ((Below.refl _ w4).alloc (Nat.le_refl _) _).grown hgrow7 (by simp) (fun q hq => by simp [Value.ownBlock] at hq; omega)
    have hs7 := bl7.size
    obtain ⟨p7, hp7⟩ : ∃ p7, p7 = eb.length := ⟨_, rfl⟩
    have HP7 := hideIt hp7
    rw [← hp7] at own7
    clear hoX hgrow7 BX hszX hp7
    go_wp2_with (at_builtin; refine wpList_append_lies _ rfl _ _ _ rfl w4.heap.size 5 j0 (.int .u8 0) 1 1 Tryd.underlying24 hj hy0 hy1 hy2 rfl (by omega) _ p7 (eb.map (Value.int .u8)) rfl (own7.alloc _) ⟨w7.heap.size, 0, none⟩ 1 1 [.int .u8 more] rfl rfl ?c1 ?c2 (by omega) ?c3 ?c4 ?c5 (w7.heap.size + 1) (by simp) ?_)
    case c1 => exact cell_one_new _ _ _
    case c2 => intro u hu; simp at hu; subst hu; rfl
    case c3 => have := HPL.out; have := HP7.out; unfold maxLen; omega
    case c4 => have := HPL.out; have := HP7.out; omega
    case c5 => simp; omega
    intro g8 cap8 w8 own8 hgrow8 hat8 hg8
    have bl8 : Below w4.heap.size w4 w8 := (bl7.alloc (by omega) _).grown hgrow8 (by simp; omega) (fun q hq => (own7.lt q hq).1)
    have b8 : Bs .u8 w8 (.slice (some ⟨g8, 0, none⟩) (p7 + 1) cap8) (eb ++ [more]) := Bs.of_own (lo := w4.heap.size) (E := 5) (by rw [List.map_append, List.length_append, ← HP7.out]; exact own8)
    have O8 := hideIt (O4.out.same (only_of_below bl8))
    have UL := hideIt (UM.out (.slice (some ⟨g8, 0, none⟩) (p7 + 1) cap8) w8 O8.out b8)
    clear own7 own8 hgrow8 hat8 b8 bl7 bl8
    go_wp2_with fail
    refine UL.out.mono ?_
    rintro e w9 ⟨f9, c9, x9, rfl, hx9, on9⟩
    have O9 := hideIt (O8.out.same on9)
    have z9 : (x9 != 0) = true := by simp; exact hx9
    clear UL on9 hx9
    go_wp2
    go_ret
    exact ⟨rfl, O9.out⟩
end Go.Proofs.YtifbdjhbeanfaaaDoor
