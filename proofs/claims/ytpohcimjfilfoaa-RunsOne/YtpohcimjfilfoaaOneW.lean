/- The walk of the statement 'as many of one number; two lists one behind the other'. -/
import Derived.Test.YtpohcimjfilfoaaTot
import Derived.Test.YtpohcimjfilfoaaCRef
namespace Go.Proofs.Ytpohcimjfilfoaa
open Go.RowKit

theorem gs_le3 {v : Nat} (h : v < 65536) : (gs v).length ≤ 3 := by
  have : wid v ≤ 16 := (wid_le_iff v 16).2 (by simpa using h)
  rw [gs_len]
  omega

set_option maxHeartbeats 1600000 in
set_option maxRecDepth 100000 in
theorem one_any (x n : Int) (va vb : Value) (xa xb : List Int) (w : World) (hx0 : 0 ≤ x) (hx1 : x ≤ 18446744073709551615) (ha : Bs .u64 w va xa) (na : NoCap va) (ua : U64 xa) (hb : Bs .u64 w vb xb) (nb : NoCap vb) (ub : U64 xb) :
    Calls Try.prog 7 #[.int .u64 x, .int .i64 n, va, vb] w fun e w' => e = .returned (.bool true) ∧ Only (fun _ => False) w w' := by
  have AW := hideIt (awake_any w)
  obtain ⟨i0, hi, hz0, hz1, hz2⟩ := info_parts Try.infoU64
  obtain ⟨j0, hj, hy0, hy1, hy2⟩ := info_parts Try.infoU8
  have hlow := i64_low n 16 (by omega)
  rw [show ((2 ^ 16 - 1 : Nat) : Int) = 65535 from rfl, show ((2 ^ 16 : Nat) : Int) = 65536 from rfl] at hlow
  obtain ⟨q, hq⟩ : ∃ q : Nat, (q : Int) = n % 65536 := ⟨(n % 65536).toNat, by omega⟩
  rw [← hq] at hlow
  have hq16 : q < 65536 := by omega
  have HA := hideIt (And.intro ha (And.intro na ua))
  have HB := hideIt (And.intro hb (And.intro nb ub))
  obtain ⟨aa, ca, ea⟩ := ha.len
  obtain ⟨ab, cb, eb⟩ := hb.len
  obtain ⟨la, hla⟩ : ∃ la, la = xa.length := ⟨_, rfl⟩
  obtain ⟨lb, hlb⟩ : ∃ lb, lb = xb.length := ⟨_, rfl⟩
  rw [← hla] at ea
  rw [← hlb] at eb
  have HLA := hideIt hla
  have HLB := hideIt hlb
  subst ea eb
  clear hq ha na ua hb nb ub hla hlb
  go_enter Try.func7, Try.ntmps7
  go_wp2_with fail
  refine AW.out.mono ?_
  rintro e w1 ⟨rfl, on1⟩
  have O1 := hideIt on1
  clear on1 AW
  go_wp2
  go_loopg [11, 12] (q + 1) (fun g s11 s12 wy => ∃ i : Nat, i + g = q + 1 ∧ s12 = .int .i64 i ∧ wy.ownsRow w.heap.size 35 1 s11 i ((List.replicate i x).map (Value.int .u64)) ∧ Only (fun _ => False) w wy)
  case atStart => exact ⟨0, by omega, rfl, World.ownsRow_nil _ _ _ _, O1.out⟩
  case round =>
    obtain ⟨i, hig, rfl, hown, hon⟩ := hrel
    have HX := hideIt hon
    have hsz : w.heap.size ≤ wr.heap.size := hon.size
    clear hon
    cases gk with
    | succ g =>
      have d5 : decide ((i : Int) < 1 + (q : Int)) = true := decide_eq_true (by omega)
      have d6 : decide ((i : Int) < (q : Int) + 1) = true := decide_eq_true (by omega)
      go_wp2_with (at_builtin; refine wpList_append_lies _ rfl _ _ _ rfl w.heap.size 35 i0 (.int .u64 0) 1 8 Try.underlying22 hi hz0 hz1 hz2 rfl (by omega) _ i _ rfl (hown.alloc _) ⟨wr.heap.size, 0, none⟩ 1 1 [.int .u64 x] rfl rfl ?c1 ?c2 (by omega) ?c3 ?c4 ?c5 (wr.heap.size + 1) (by simp) ?_)
      case c1 => exact cell_one_new _ _ _
      case c2 => intro u hu; simp at hu; subst hu; rfl
      case c3 => unfold maxLen; omega
      case c4 => omega
      case c5 => simp; omega
      intro gg cap1 w4 hown1 hgrow hat hg1
      have o3 := hideIt ((HX.out.alloc _).grown hgrow (fun p hp hq => by have := (hown.lt p hq).1; omega))
      have own3 : Hid (w4.ownsRow w.heap.size 35 1 (.slice (some ⟨gg, 0, none⟩) (i + 1) cap1) (i + 1) ((List.replicate (i + 1) x).map (Value.int .u64))) := by
        simp only [Hid]
        rw [List.replicate_succ']; simpa using hown1
      clear hown hown1 hgrow hat HX
      go_wp2
      go_roundg g
      case rel => exact ⟨i + 1, by omega, by go_num, own3.out, o3.out⟩
      case measure => omega
    | zero =>
      obtain rfl : i = q + 1 := by omega
      have EN := run_encode_bs u11 (List.replicate (q + 1) x) wr (Bs.of_own (by rw [List.length_replicate]; exact hown)) (fun y hy => by rw [List.eq_of_mem_replicate hy]; exact ⟨hx0, hx1⟩) (by rw [List.length_replicate]; omega)
      rw [runE_rep] at EN
      have EN := hideIt EN
      have h13 : (gs x.toNat ++ gs q).length ≤ 13 := by
        have h1 := gs_le10 (v := x.toNat) (by omega)
        have h2 := gs_le3 hq16
        rw [List.length_append]; omega
      obtain ⟨l13, hl13⟩ : ∃ l13, l13 = (gs x.toNat ++ gs q).length := ⟨_, rfl⟩
      have HL13 := hideIt hl13
      rw [← hl13] at h13
      have d5 : decide (((q : Int) + 1) < 1 + (q : Int)) = false := decide_eq_false (by omega)
      have d7 : decide ((13 : Int) < (l13 : Int)) = false := decide_eq_false (by omega)
      clear hl13
      obtain ⟨a11, c11, e11⟩ := (Bs.of_own (k := .u64) (xs := List.replicate (q + 1) x) (by rw [List.length_replicate]; exact hown)).len
      rw [List.length_replicate] at e11
      subst e11
      clear hown
      go_wp2_with fail
      refine EN.out.mono ?_
      rintro e w2 ⟨v2, rfl, own2, on2⟩
      have O2 := hideIt (HX.out.same on2)
      obtain ⟨f2, c2, e2⟩ := (Bs.of_own own2).len
      rw [← HL13.out] at e2
      subst e2
      clear EN own2 on2
      go_wp2
      by_cases hA : la = 0
      · subst hA
        go_quiet (fail)
        go_wp2
        go_ret
        exact ⟨rfl, O2.out.drewN nq⟩
      have zA : ((la : Int) == 0) = false := by simp; omega
      have zA2 : decide (la = 0) = false := decide_eq_false hA
      by_cases hB : lb = 0
      · subst hB
        go_quiet (fail)
        go_wp2
        go_ret
        exact ⟨rfl, O2.out.drewN nq⟩
      have zB : ((lb : Int) == 0) = false := by simp; omega
      have zB2 : decide (lb = 0) = false := decide_eq_false hB
      by_cases hC : 300 < la
      · have zC : decide ((300 : Int) < (la : Int)) = true := decide_eq_true (by omega)
        go_quiet (fail)
        go_wp2
        go_ret
        exact ⟨rfl, O2.out.drewN nq⟩
      have zC : decide ((300 : Int) < (la : Int)) = false := decide_eq_false (by omega)
      by_cases hD : 300 < lb
      · have zD : decide ((300 : Int) < (lb : Int)) = true := decide_eq_true (by omega)
        go_quiet (fail)
        go_wp2
        go_ret
        exact ⟨rfl, O2.out.drewN nq⟩
      have zD : decide ((300 : Int) < (lb : Int)) = false := decide_eq_false (by omega)
      obtain ⟨p, rfl⟩ : ∃ p, la = p + 1 := ⟨la - 1, by omega⟩
      obtain ⟨ba, oa, cap1, e1, hca⟩ := (HA.out.1.past O2.out).at p (by rw [← HLA.out]; omega)
      have ea : aa = some ⟨ba, oa, none⟩ := by simp at e1; exact e1.1
      subst ea
      obtain ⟨bb, ob, cap2, e2, hcb⟩ := (HB.out.1.past O2.out).at 0 (by rw [← HLB.out]; omega)
      have eb : ab = some ⟨bb, ob, none⟩ := by simp at e2; exact e2.1
      subst eb
      rw [Nat.add_zero] at hcb
      clear e1 e2
      have HNE : Hid (xa.getD p 0 ≠ xb.getD 0 0 → runE (xa ++ xb) = runE xa ++ runE xb) := fun h =>
        runE_app (by intro h0; have := HLB.out; rw [h0] at this; exact hB this) xa (by intro h0; have := HLA.out; rw [h0] at this; simp at this) (by rw [← HLA.out, Nat.add_sub_cancel]; exact h)
      generalize xa.getD p 0 = y at hca HNE
      generalize xb.getD 0 0 = z at hcb HNE
      have zP : ((p : Int) + 1 == 0) = false := by simp; omega
      have zQ : decide ((300 : Int) < (p : Int) + 1) = false := decide_eq_false (by omega)
      have b0 : (0 : Int) < (lb : Int) := by omega
      cases hyz : (y == z) with
      | true =>
        go_quiet (fail)
        go_wp2
        go_ret
        exact ⟨rfl, O2.out.drewN nq⟩
      | false =>
        have HE := hideIt (HNE.out (by simpa using hyz))
        clear HNE
        go_quiet (fail)
        have EA := hideIt (fun (wz : World) (o : Only (fun _ => False) w wz) => run_encode_bs _ xa wz (HA.out.1.past o) HA.out.2.2 (by rw [← HLA.out]; omega))
        have EB := hideIt (fun (wz : World) (o : Only (fun _ => False) w wz) => run_encode_bs _ xb wz (HB.out.1.past o) HB.out.2.2 (by rw [← HLB.out]; omega))
        have O3 := hideIt (O2.out.drewN nq)
        go_wp2_with fail
        refine (EA.out _ O3.out).mono ?_
        rintro e w4 ⟨v4, rfl, own4, on4⟩
        have O4 := hideIt (O3.out.same on4)
        have B4 := hideIt (Bs.of_own own4)
        have N4 := hideIt (NoCap.of_own own4)
        clear own4 on4 EA
        go_wp2_with fail
        refine (EB.out _ O4.out).mono ?_
        rintro e w5 ⟨v5, rfl, own5, on5⟩
        have O5 := hideIt (O4.out.same on5)
        have B4' := hideIt (B4.out.past on5)
        have B5 := hideIt (Bs.of_own own5)
        have N5 := hideIt (NoCap.of_own own5)
        clear own5 on5 EB B4
        have HPA : Hid ((runE xa).length ≤ 6000 ∧ (runE xb).length ≤ 6000) := by
          have h1 := runE_len xa HA.out.2.2 (by rw [← HLA.out]; omega)
          have h2 := runE_len xb HB.out.2.2 (by rw [← HLB.out]; omega)
          have := HLA.out
          have := HLB.out
          simp only [Hid]; omega
        have hoX := World.ownsRow_made (base := w5.heap.size) (e := 35) (size := 1) w5 #[] 0 (Nat.le_refl _) (by unfold maxLen; omega) rfl
        have BX := hideIt ((HA.out.1.past O5.out).later ((Below.refl _ w5).alloc (Nat.le_refl _) (.cells #[] 35)))
        have hszX : w5.heap.size ≤ (w5.alloc (.cells #[] 35)).heap.size := by simp
        go_wp2_with (at_builtin; refine wpList_append_bs _ rfl _ _ _ rfl w5.heap.size 35 i0 (.int .u64 0) 8 Try.underlying22 hi hz0 hz1 hz2 rfl _ 0 [] rfl hoX .u64 _ xa rfl BX.out HA.out.2.1 ?c3 ?c4 hszX ?_)
        case c3 => have := HLA.out; unfold maxLen; omega
        case c4 => have := HLA.out; omega
        intro v7 w7 own7 hgrow7 _ _
        have bl7 : Below w5.heap.size w5 w7 := ((Below.refl _ w5).alloc (Nat.le_refl _) _).grown hgrow7 (by simp) (fun q hq => by simp [Value.ownBlock] at hq; omega)
        have hs7 := bl7.size
        have BY := hideIt ((HB.out.1.past O5.out).later bl7)
        clear hoX hgrow7 BX hszX
        go_wp2_with (at_builtin; refine wpList_append_bs _ rfl _ _ _ rfl w5.heap.size 35 i0 (.int .u64 0) 8 Try.underlying22 hi hz0 hz1 hz2 rfl _ _ _ rfl own7 .u64 _ xb rfl BY.out HB.out.2.1 ?c3 ?c4 hs7 ?_)
        case c3 => have := HLA.out; have := HLB.out; unfold maxLen; omega
        case c4 => have := HLA.out; have := HLB.out; omega
        intro v8 w8 own8 hgrow8 _ _
        have bl8 : Below w5.heap.size w5 w8 := bl7.grown hgrow8 hs7 (fun q hq => (own7.lt q hq).1)
        have ER := run_encode_bs v8 (xa ++ xb) w8 (Bs.of_own (lo := w5.heap.size) (E := 35) (by rw [List.map_append, List.length_append]; simpa using own8)) (fun u hu => by
          rcases List.mem_append.1 hu with h | h
          · exact HA.out.2.2 u h
          · exact HB.out.2.2 u h) (by rw [List.length_append, ← HLA.out, ← HLB.out]; omega)
        rw [HE.out] at ER
        have ER := hideIt ER
        have O8 := hideIt (O5.out.same (only_of_below bl8))
        have on58 := hideIt (only_of_below bl8)
        obtain ⟨f8, c8, e8⟩ := (Bs.of_own (k := .u64) (xs := xa ++ xb) (w := w8) (v := v8) (lo := w5.heap.size) (E := 35) (by rw [List.map_append, List.length_append]; simpa using own8)).len
        clear own7 own8 hgrow8 BY bl7 bl8 e8
        go_wp2_with fail
        refine ER.out.mono ?_
        rintro e w9 ⟨v9, rfl, own9, on9⟩
        have O9 := hideIt (O8.out.same on9)
        have on59 := hideIt (on58.out.same on9)
        have B9 := hideIt (Bs.of_own own9)
        have B49 := hideIt (B4'.out.past on59.out)
        have B59 := hideIt (B5.out.past on59.out)
        clear ER own9 on9 on58
        have hoY := World.ownsRow_made (base := w9.heap.size) (e := 5) (size := 1) w9 #[] 0 (Nat.le_refl _) (by unfold maxLen; omega) rfl
        have BP := hideIt (B49.out.later ((Below.refl _ w9).alloc (Nat.le_refl _) (.cells #[] 5)))
        have hszY : w9.heap.size ≤ (w9.alloc (.cells #[] 5)).heap.size := by simp
        go_wp2_with (at_builtin; refine wpList_append_bsW _ rfl _ _ _ rfl w9.heap.size 5 j0 (.int .u8 0) 1 Try.underlying24 hj hy0 hy1 hy2 rfl _ 0 [] rfl hoY .u8 _ (runE xa) rfl BP.out N4.out ?c3 ?c4 hszY ?_)
        case c3 => have := HPA.out; unfold maxLen; omega
        case c4 => have := HPA.out; omega
        intro va w10 own10 hgrow10
        have bl10 : Below w9.heap.size w9 w10 := ((Below.refl _ w9).alloc (Nat.le_refl _) _).grown hgrow10 (by simp) (fun q hq => by simp [Value.ownBlock] at hq; omega)
        have hs10 := bl10.size
        have BQ := hideIt (B59.out.later bl10)
        clear hoY hgrow10 BP hszY
        go_wp2_with (at_builtin; refine wpList_append_bsW _ rfl _ _ _ rfl w9.heap.size 5 j0 (.int .u8 0) 1 Try.underlying24 hj hy0 hy1 hy2 rfl _ _ _ rfl own10 .u8 _ (runE xb) rfl BQ.out N5.out ?c3 ?c4 hs10 ?_)
        case c3 => have := HPA.out; unfold maxLen; omega
        case c4 => have := HPA.out; omega
        intro vb w11 own11 hgrow11
        have bl11 : Below w9.heap.size w9 w11 := bl10.grown hgrow11 hs10 (fun q hq => (own10.lt q hq).1)
        have SM := hideIt (same_eq v9 vb (runE xa ++ runE xb) w11 (B9.out.later bl11) (Bs.of_own (lo := w9.heap.size) (E := 5) (by rw [List.map_append, List.length_append]; simpa using own11)) (by have := HPA.out; rw [List.length_append]; omega))
        have O11 := hideIt (O9.out.same (only_of_below bl11))
        clear own10 own11 hgrow11 BQ bl10 bl11
        go_wp2_with fail
        refine SM.out.mono ?_
        rintro e w12 ⟨rfl, on12⟩
        have O12 := hideIt (O11.out.same on12)
        clear SM on12
        go_wp2
        go_ret
        exact ⟨rfl, O12.out⟩
end Go.Proofs.Ytpohcimjfilfoaa
