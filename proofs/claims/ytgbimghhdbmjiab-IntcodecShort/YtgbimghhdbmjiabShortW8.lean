/- The walk of the statement on how long a list of ints gets, and on one int more. -/
import Derived.Test.YtgbimghhdbmjiabG12
namespace Go.Proofs.Ytgbimghhdbmjiab
open Go.RowKit

set_option maxHeartbeats 1600000 in
set_option maxRecDepth 100000 in
theorem short_any (v : Value) (xs : List Int) (x : Int) (w : World) (hb : Bs .i64 w v xs) (nc : NoCap v) (hg : I64s xs) (hx : G64 x) :
    Calls Try.prog 3 #[v, .int .i64 x] w fun e w' => e = .returned (.bool true) ∧ Only (fun _ => False) w w' := by
  have AW := hideIt (awake_any w)
  have HB := hideIt hb
  have NC := hideIt nc
  obtain ⟨ao, cap, rfl⟩ := hb.len
  by_cases h1 : 300 < xs.length
  · have d1 : decide ((300 : Int) < xs.length) = true := decide_eq_true (by omega)
    clear HB hb hg NC nc
    generalize xs.length = m at *
    clear h1
    go_enter Try.func3, Try.ntmps3
    go_wp2_with fail
    refine AW.out.mono ?_
    rintro e w1 ⟨rfl, on1⟩
    have O1 := hideIt on1
    clear on1 AW
    go_wp2
    go_ret
    exact ⟨rfl, O1.out⟩
  have d1 : decide ((300 : Int) < xs.length) = false := decide_eq_false (by omega)
  have hl6 : xs.length ≤ 65536 := by omega
  have hg2 : I64s (xs ++ [x]) := fun y hy => by
    rcases List.mem_append.1 hy with h | h
    · exact hg y h
    · simp at h; subst h; exact hx
  have hl7 : (xs ++ [x]).length ≤ 65536 := by rw [List.length_append]; simp; omega
  have PA := fun (w1 : World) (o : Only (fun _ => False) w w1) => encode8_all (.slice ao xs.length cap) xs w1 (HB.out.past o) hg
  have hE0 : (ENC8 xs).2 = 0 := by rw [ENC8_of hl6]
  rw [hE0] at PA
  have PA := hideIt PA
  have PB := fun (v1 : Value) (w1 : World) (b : Bs .i64 w1 v1 (xs ++ [x])) => encode8_all v1 (xs ++ [x]) w1 b hg2
  have hE1 : (ENC8 (xs ++ [x])).2 = 0 := by rw [ENC8_of hl7]
  rw [hE1] at PB
  have PB := hideIt PB
  obtain ⟨j0, hj, hy0, hy1, hy2⟩ := info_parts Try.infoI64
  have hlen := (ENC8_len hl6).1
  have HPL : Hid ((ENC8 (xs ++ [x])).1.length ≤ 12000) := by
    have := (ENC8_len hl7).1
    rw [List.length_append] at this
    simp only [List.length_cons, List.length_nil] at this
    simp only [Hid]; omega
  have UD : Hid (∀ (v1 : Value) (w1 : World), Bs .u8 w1 v1 (ENC8 (xs ++ [x])).1 → Calls Try.prog 6 #[v1, .int .i64 ((xs.length : Int) + 1)] w1 fun e w' => ∃ u, e = .returned (.tuple #[u, .int .i64 0]) ∧ w'.ownsRow w1.heap.size 3 1 u (xs ++ [x]).length ((xs ++ [x]).map (Value.int .i64)) ∧ Only (fun _ => False) w1 w') := fun v1 w1 b => by
    have h := decode8_all v1 (ENC8 (xs ++ [x])).1 (xs ++ [x]).length w1 b (ENC8_byt hg2) (by have := HPL.out; omega)
    rw [DEC8_ENC8 hg2 hl7] at h
    rw [show ((xs.length : Int) + 1) = ((xs ++ [x]).length : Int) by rw [List.length_append]; simp]
    exact h
  obtain ⟨m, hm⟩ : ∃ m, m = xs.length := ⟨_, rfl⟩
  have d3 : decide (((ENC8 xs).1.length : Int) ≤ 1 + 8 * (m : Int)) = true := decide_eq_true (by omega)
  rw [← hm] at HB PA d1 UD NC hlen ⊢
  have HN : Hid (m = xs.length) := hm
  have HM4 : m ≤ 300 := by omega
  have HZL : Hid ((xs ++ [x]).length = m + 1) := by simp only [Hid]; rw [List.length_append, ← hm]; rfl
  have HZX : Hid ((xs ++ [x]).getD m 0 = x) := by
    simp only [Hid]; rw [hm]; simp [List.getD_eq_getElem?_getD]
  have HZ : Hid (xs ++ [x] = xs ++ [x]) := rfl
  obtain ⟨zs, hzs⟩ : ∃ zs, zs = xs ++ [x] := ⟨_, rfl⟩
  have HZS := hideIt hzs
  rw [← hzs] at PB UD HPL HZL HZX
  generalize (ENC8 xs).1 = eb at *
  generalize (ENC8 zs).1 = ec at *
  clear h1 hm hb hg hE0 hE1 hl6 hl7 hg2 hx HZ hzs nc
  go_enter Try.func3, Try.ntmps3
  go_wp2_with fail
  refine AW.out.mono ?_
  rintro e w1 ⟨rfl, on1⟩
  have O1 := hideIt on1
  have A := hideIt (PA.out w1 on1)
  clear on1 AW PA
  go_wp2_with fail
  refine A.out.mono ?_
  rintro e w2 ⟨v1, rfl, own2, on2⟩
  have O2 := hideIt (O1.out.same on2)
  obtain ⟨f1, cp1, e1⟩ := (Bs.of_own own2).len
  subst e1
  clear A own2 on2
  have hoX := World.ownsRow_made (base := w2.heap.size) (e := 3) (size := 1) w2 #[] 0 (Nat.le_refl _) (by unfold maxLen; omega) rfl
  have BX := hideIt ((HB.out.past O2.out).later ((Below.refl _ w2).alloc (Nat.le_refl _) (.cells #[] 3)))
  have hszX : w2.heap.size ≤ (w2.alloc (.cells #[] 3)).heap.size := by simp
  go_wp2_with (at_builtin; refine wpList_append_bs _ rfl _ _ _ rfl w2.heap.size 3 j0 (.int .i64 0) 8 Try.underlying22 hj hy0 hy1 hy2 rfl _ 0 [] rfl hoX .i64 _ xs rfl BX.out NC.out ?c3 ?c4 hszX ?_)
  case c3 => rw [← HN.out]; unfold maxLen; omega
  case c4 => rw [← HN.out]; omega
  intro v7 w7 own7 hgrow7 _ _
  have bl7 : Below w2.heap.size w2 w7 := ((Below.refl _ w2).alloc (Nat.le_refl _) _).grown hgrow7 (by simp) (fun q hq => by simp [Value.ownBlock] at hq; omega)
  have hs7 := bl7.size
  rw [← HN.out] at own7
  clear hoX hgrow7 BX hszX
  go_wp2_with (at_builtin; refine wpList_append_lies _ rfl _ _ _ rfl w2.heap.size 3 j0 (.int .i64 0) 1 8 Try.underlying22 hj hy0 hy1 hy2 rfl (by omega) _ m (xs.map (Value.int .i64)) rfl (own7.alloc _) ⟨w7.heap.size, 0, none⟩ 1 1 [.int .i64 x] rfl rfl ?c1 ?c2 (by omega) ?c3 ?c4 ?c5 (w7.heap.size + 1) (by simp) ?_)
  case c1 => exact cell_one_new _ _ _
  case c2 => intro u hu; simp at hu; subst hu; rfl
  case c3 => unfold maxLen; omega
  case c4 => omega
  case c5 => simp; omega
  intro g8 cap8 w8 own8 hgrow8 hat8 hg8
  have bl8 : Below w2.heap.size w2 w8 := (bl7.alloc (by omega) _).grown hgrow8 (by simp; omega) (fun q hq => (own7.lt q hq).1)
  have b8 : Bs .i64 w8 (.slice (some ⟨g8, 0, none⟩) (m + 1) cap8) zs := Bs.of_own (lo := w2.heap.size) (E := 3) (by rw [HZL.out, HZS.out, List.map_append]; exact own8)
  have UL := hideIt (PB.out (.slice (some ⟨g8, 0, none⟩) (m + 1) cap8) w8 b8)
  have O8 := hideIt (O2.out.same (only_of_below bl8))
  clear own7 own8 hgrow8 hat8 b8 bl7 bl8 PB
  go_wp2_with fail
  refine UL.out.mono ?_
  rintro e w9 ⟨v9, rfl, own9, on9⟩
  have O9 := hideIt (O8.out.same on9)
  have UE := hideIt (UD.out v9 w9 (Bs.of_own own9))
  obtain ⟨f9, c9, e9⟩ := (Bs.of_own own9).len
  subst e9
  clear UL own9 on9 UD
  generalize ec.length = nc9 at *
  go_wp2_with fail
  refine UE.out.mono ?_
  rintro e wA ⟨vA, rfl, ownA, onA⟩
  have OA := hideIt (O9.out.same onA)
  obtain ⟨b, off, capA, eA, cellA⟩ := (Bs.of_own ownA).at m (by rw [HZL.out]; omega)
  rw [HZL.out] at eA
  rw [HZX.out] at cellA
  subst eA
  have zx : (x == x) = true := by simp
  have zl : (((m : Int) + 1) != ((m : Int) + 1)) = false := by simp
  have hebl : (eb.length : Int) ≤ 1 + 8 * (m : Int) := by omega
  generalize eb.length = nb at *
  clear UE ownA onA
  go_wp2
  go_ret
  exact ⟨rfl, OA.out⟩
end Go.Proofs.Ytgbimghhdbmjiab
