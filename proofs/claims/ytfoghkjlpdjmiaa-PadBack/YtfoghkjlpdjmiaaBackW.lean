/- There and back, with a byte turned, with a byte more or less: the walk. -/
import Derived.Test.YtfoghkjlpdjmiaaAw19
import Derived.Test.YtfoghkjlpdjmiaaXb
namespace Go.Proofs.Ytfoghkjlpdjmiaa
open Go.RowKit

set_option maxHeartbeats 3200000 in
set_option maxRecDepth 100000 in
theorem back_walk (v : Value) (b : List Int) (at' by' : Int) (hby : 0 ≤ by' ∧ by' ≤ 255) (h8 : U8 b) (w : World) (h : Bs .u8 w v b) : Calls Try.prog 5 #[v, .int .i64 at', .int .u8 by'] w fun e w' => e = .returned (.bool true) ∧ Below w.heap.size w w' := by
  have A := hideIt (awake_any w)
  have HB := hideIt h
  obtain ⟨ao, cap, rfl⟩ := h.len
  obtain ⟨m, hm⟩ : ∃ m, m = b.length := ⟨_, rfl⟩
  rw [← hm] at HB ⊢
  by_cases hl : 5000 < m
  · have d1 : decide ((5000 : Int) < (m : Int)) = true := decide_eq_true (by omega)
    clear h h8 hm hl HB hby
    go_enter Try.func5, Try.ntmps5
    go_wp2_with fail
    refine A.out.mono ?_
    rintro e w1 ⟨rfl, o1⟩
    have O1 := hideIt o1
    clear o1 A
    go_wp2
    go_ret
    exact ⟨rfl, O1.out.low (Nat.le_refl _)⟩
  have d1 : decide ((5000 : Int) < (m : Int)) = false := decide_eq_false (by omega)
  have hbl : b.length ≤ 4194300 := by omega
  obtain ⟨i0, hi, hz0, hz1, hz2⟩ := info_parts Try.infoU8
  have P := hideIt (fun (W : World) (o : Only (fun _ => False) w W) => pad_own _ b W (HB.out.past o) hbl)
  obtain ⟨S, hS⟩ : ∃ S, S = PADL b := ⟨_, rfl⟩
  have hSl : S.length = PLN b.length := by rw [hS, PADL_len b hbl]
  have hq64 := PLN_pos b.length
  have hq4 := PLN_le b.length
  obtain ⟨q, hq⟩ : ∃ q, q = PLN b.length := ⟨_, rfl⟩
  rw [← hq] at hSl hq64 hq4
  have S8 : U8 S := by rw [hS]; exact PADL_u8 h8
  rw [← hS] at P
  rw [hSl] at P
  have U0 : Hid (PUe S = 0 ∧ PUt S = b) := by
    have hk : POK S := by rw [hS]; exact POK_pad b hbl
    refine ⟨if_pos hk, ?_⟩
    rw [show PUt S = PUN S from if_pos hk, hS, PADL_un b hbl]
  have UM : Hid (PUe (S ++ [0]) = 3 ∧ U8 (S ++ [0])) := by
    have hk : ¬ POK (S ++ [0]) := by rw [hS]; exact POK_more b hbl 0
    exact ⟨if_neg hk, S8.app (fun y hy => by simp at hy; omega)⟩
  have UL : Hid (PUe (S.take (q - 1)) = 3 ∧ U8 (S.take (q - 1))) := by
    have hk : ¬ POK (S.take (q - 1)) := by rw [← hSl, hS]; exact POK_less b hbl
    exact ⟨if_neg hk, S8.take _⟩
  have hand := i64_low at' 16 (by decide)
  rw [show ((2 ^ 16 - 1 : Nat) : Int) = 65535 from rfl, show ((2 ^ 16 : Nat) : Int) = 65536 from rfl] at hand
  obtain ⟨c, hc⟩ : ∃ c : Nat, at' % 65536 = (c : Int) := ⟨(at' % 65536).toNat, by omega⟩
  rw [hc] at hand
  have hc16 : c < 65536 := by omega
  have hqp : 0 < q := by omega
  obtain ⟨k, hk⟩ : ∃ k, k = c % q := ⟨_, rfl⟩
  have hkq : k < q := by rw [hk]; exact Nat.mod_lt _ hqp
  have hr1 : (c : Int) % (q : Int) = (k : Int) := by rw [hk]; exact (Int.natCast_emod c q).symm
  have hr2 : (c : Int).tmod (q : Int) = (k : Int) := by rw [Int.tmod_eq_emod_of_nonneg (by omega)]; exact hr1
  have hq0 : ¬ (q : Int) = 0 := by omega
  have hq1 : ((q : Int) == 0) = false := by rw [beq_eq_false_iff_ne]; omega
  have hxr := S8.at k
  have hxor := XB_bits hxr hby
  have T8 : U8 (XBL S k by') := XBL_u8 S8 k hby
  have Tl : (XBL S k by').length = q := by rw [XBL_len, hSl]
  obtain ⟨T, hT⟩ : ∃ T, T = XBL S k by' := ⟨_, rfl⟩
  have XT := hideIt (fun (W : World) (lo g cap : Nat) (own : W.ownsRow lo 5 1 (.slice (some ⟨g, 0, none⟩) q cap) q (bl S)) => xb_turn own hkq by')
  obtain ⟨x, hx⟩ : ∃ x, x = S.getD k 0 := ⟨_, rfl⟩
  rw [← hx] at hxr hxor
  simp only [← hx, ← hT] at XT
  rw [← hT] at T8 Tl
  obtain ⟨z, hz⟩ : ∃ z, z = XB x by' := ⟨_, rfl⟩
  rw [← hz] at hxor
  simp only [← hz] at XT
  -- what the turned bytes are
  have CASES : by' = 0 ∨ PUe T = 3 ∨ (¬ by' = 0 ∧ PUe T = 0 ∧ PUt T ≠ b) := by
    by_cases h0 : by' = 0
    · exact .inl h0
    by_cases hk : POK T
    · refine .inr (.inr ⟨h0, if_pos hk, ?_⟩)
      rw [show PUt T = PUN T from if_pos hk]
      refine PUN_other ?_ hk
      rw [hT, ← hS]
      exact XBL_ne S8 (by omega) hby.1 h0
    · exact .inr (.inl (if_neg hk))
  have HC := hideIt CASES
  have HH := hideIt (And.intro hSl (And.intro S8 (And.intro Tl (And.intro T8 (And.intro hq4 (And.intro hkq hbl))))))
  have PUL : Hid ((PUt T).length ≤ 140737488355328) := by
    have : (PUt T).length ≤ T.length := by
      by_cases hk : POK T
      · rw [show PUt T = PUN T from if_pos hk]
        unfold PUN
        rw [List.length_take, List.length_drop]; omega
      · rw [show PUt T = [] from if_neg hk]
        simp
    show _ ≤ _
    omega
  have kI : (k : Int) < (q : Int) := by omega
  have rI := hxr
  have HKQ := hideIt hkq
  clear CASES h h8 hm hS hSl hq S8 T8 Tl hT hx hz hxr hc hk hbl hby hqp
  go_enter Try.func5, Try.ntmps5
  go_wp2_with fail
  refine A.out.mono ?_
  rintro e w0 ⟨rfl, o0⟩
  have O0 := hideIt o0
  clear o0 A
  go_wp2_with fail
  refine (P.out w0 O0.out).mono ?_
  rintro e w1 ⟨v1, rfl, own1, o1⟩
  obtain ⟨g1, c1, rfl, _, hc1⟩ := xb_at own1 (by omega)
  have B1 : Hid (Bs .u8 w1 (.slice (some ⟨g1, 0, none⟩) q c1) S) := Bs.of_own (k := .u8) (E := 5) (lo := w0.heap.size) (by rw [HH.out.1]; exact own1)
  have O1 := hideIt (O0.out.same o1)
  have U1 := hideIt (unpad_any _ S w1 B1.out HH.out.2.1 (by have := HH.out.1; omega))
  rw [U0.out.1, U0.out.2] at U1
  clear own1 o1 P O0
  go_wp2_with fail
  refine U1.out.mono ?_
  rintro e w2 ⟨v2, rfl, b2, _, _, o2⟩
  have O2 := hideIt (O1.out.same o2)
  have B2 := hideIt (B1.out.past o2)
  have S2 := hideIt (lsame_eq v2 _ b w2 b2 (HB.out.past O2.out) (by have := HH.out.2.2.2.2.2.2; omega))
  clear b2 o2 O1 B1 U1
  go_wp2_with fail
  refine S2.out.mono ?_
  rintro e w3 ⟨rfl, o3⟩
  have O3 := hideIt (O2.out.same o3)
  have B3 := hideIt (B2.out.past o3)
  have ho3 := xb_made0 w3
  have HA3 := hideIt (B3.out.past ((Only.refl (fun _ => False) w3).alloc (.cells #[] 5)))
  clear o3 O2 B2 S2
  go_wp2_with (at_builtin; refine wpList_append_bs _ rfl _ _ 28 rfl w3.heap.size 5 i0 (.int .u8 0) 1 Try.underlying28 hi hz0 hz1 hz2 rfl (.slice (some ⟨w3.heap.size, 0, none⟩) 0 0) 0 (bl []) rfl ho3 .u8 (.slice (some ⟨g1, 0, none⟩) q c1) S rfl HA3.out (NoCap.some _ _ _) (by have := HH.out.1; have := HH.out.2.2.2.2.1; simp [maxLen]; omega) (by have := HH.out.1; have := HH.out.2.2.2.2.1; omega) (by simp) ?_)
  intro v4 w4 hown4 hgrow4 hnil4 hob4
  have q4 : Only (fun _ => False) w3 w4 := ((Only.refl _ _).alloc _).grown hgrow4 (fun k hk e => by simp [Value.ownBlock] at e; omega)
  have hown5 : w4.ownsRow w3.heap.size 5 1 v4 q (bl S) := by
    have h4 := hown4
    rw [HH.out.1] at h4
    exact h4
  obtain ⟨g4, c4, e4, hg4, hc4'⟩ := xb_at hown5 (by omega)
  subst e4
  obtain ⟨hcell4, hf4, b5, oc⟩ := XT.out w4 w3.heap.size g4 c4 hown5
  obtain ⟨w5, hw5⟩ : ∃ w5, w5 = w4.setCell ⟨g4, k, none⟩ (.int .u8 z) := ⟨_, rfl⟩
  rw [← hw5] at b5 oc
  have q5 : Only (fun _ => False) w3 w5 := q4.trans oc (fun i hi e => by omega)
  have O5 := hideIt (O3.out.same q5)
  have B5 := hideIt (B3.out.past q5)
  have U5 := hideIt (unpad_any _ T w5 b5 HH.out.2.2.2.1 (by have := HH.out.2.2.1; omega))
  have HW5 := hideIt hw5
  clear hown4 hgrow4 hnil4 hob4 q4 ho3 HA3 hown5 b5 oc hw5 hg4 q5 O3 B3 XT
  go_wp2_with fail
  rw [← HW5.out]
  refine U5.out.mono ?_
  rintro e w6 ⟨v6, rfl, b6, _, _, o6⟩
  have O6 := hideIt (O5.out.same o6)
  have B6 := hideIt (B5.out.past o6)
  have D6 := hideIt b6
  have ho6 := xb_made0 w6
  have HA6 := hideIt (B6.out.past ((Only.refl (fun _ => False) w6).alloc (.cells #[] 5)))
  clear b6 o6 O5 B5 U5 hcell4 hf4 HW5
  go_wp2_with (first
    | (at_builtin; refine wpList_append_bs _ rfl _ _ 28 rfl w6.heap.size 5 i0 (.int .u8 0) 1 Try.underlying28 hi hz0 hz1 hz2 rfl (.slice (some ⟨w6.heap.size, 0, none⟩) 0 0) 0 (bl []) rfl ho6 .u8 (.slice (some ⟨g1, 0, none⟩) q c1) S rfl HA6.out (NoCap.some _ _ _) (by have := HH.out.1; have := HH.out.2.2.2.2.1; simp [maxLen]; omega) (by have := HH.out.1; have := HH.out.2.2.2.2.1; omega) (by simp) ?_; intro v9 w9 hown9 hgrow9 hnil9 hob9)
    | (at_builtin; refine wpList_append_bs _ rfl _ _ 28 rfl w6.heap.size 5 i0 (.int .u8 0) 1 Try.underlying28 hi hz0 hz1 hz2 rfl v9 (0 + S.length) _ rfl (hown9.alloc _) .u8 _ [0] rfl (Bs.litN .u8 w9 5 [0] _ _ rfl rfl) (NoCap.some _ _ _) (by have := HH.out.1; have := HH.out.2.2.2.2.1; simp [maxLen]; omega) (by have := HH.out.1; have := HH.out.2.2.2.2.1; simp; omega) (by have := hgrow9.size; simp at this ⊢; omega) ?_; intro v10 w10 hown10 hgrow10 hnil10 hob10))
  have p9 : Only (fun _ => False) w6 w9 := ((Only.refl _ _).alloc _).grown hgrow9 (fun k hk e => by simp [Value.ownBlock] at e; omega)
  have p10 : Only (fun _ => False) w6 w10 := (p9.alloc _).grown hgrow10 (fun k hk e => by have := hown9.lt k e; omega)
  have b10 : Bs .u8 w10 v10 (S ++ [0]) := Bs.of_own (k := .u8) (E := 5) (lo := w6.heap.size) (by
    have h10 : w10.ownsRow w6.heap.size 5 1 v10 (0 + S.length + 1) (bl [] ++ S.map (Value.int .u8) ++ [0].map (Value.int .u8)) := hown10
    rw [Nat.zero_add] at h10
    rw [List.length_append, List.map_append]
    exact h10)
  have U10 := hideIt (unpad_any v10 (S ++ [0]) w10 b10 UM.out.2 (by have := HH.out.1; rw [List.length_append]; simp only [List.length_singleton]; omega))
  rw [UM.out.1] at U10
  have O10 := hideIt (O6.out.same p10)
  have B10 := hideIt (B6.out.past p10)
  have D10 := hideIt (D6.out.past p10)
  clear hown9 hgrow9 hnil9 hob9 hown10 hgrow10 hnil10 hob10 p9 p10 b10 ho6 HA6 O6 B6 D6
  refine U10.out.mono ?_
  rintro e w11 ⟨v11, rfl, _, _, _, o11⟩
  have O11 := hideIt (O10.out.same o11)
  have B11 := hideIt (B10.out.past o11)
  have D11 := hideIt (D10.out.past o11)
  obtain ⟨r, hr⟩ : ∃ r, r = q - 1 := ⟨_, rfl⟩
  have hqs : (q : Int) - 1 = (r : Int) := by omega
  have rc1 : (r : Int) ≤ (c1 : Int) := by omega
  have rq : (r : Int) ≤ (q : Int) := by omega
  have b12 := B11.out.head (n := r) (by omega)
  rw [← hr] at UL
  have U11 := hideIt (fun (W : World) (o : Only (fun _ => False) w11 W) => unpad_any _ (S.take r) W (b12.past o) UL.out.2 (by rw [List.length_take]; omega))
  simp only [UL.out.1] at U11
  clear o11 O10 B10 D10 U10 b12 hr
  go_wp2_with fail
  refine (U11.out w11 (Only.refl _ _)).mono ?_
  rintro e w12 ⟨v12, rfl, _, _, _, o12⟩
  have O12 := hideIt (O11.out.same o12)
  have S12 := hideIt (lsame_any v6 _ _ b w12 (D11.out.past o12) (HB.out.past O12.out) PUL.out)
  clear o12 O11 B11 D11 U11
  rcases HC.out with h0 | h3 | ⟨h0, h3, hne⟩
  · have db : (by' == 0) = true := by rw [beq_iff_eq]; exact h0
    clear HC S12 h0
    generalize PUe T = f at *
    go_wp2
    go_ret
    exact ⟨rfl, O12.out.low (Nat.le_refl _)⟩
  · rw [h3]
    clear HC S12
    by_cases h0 : by' = 0
    · have db : (by' == 0) = true := by rw [beq_iff_eq]; exact h0
      clear h0
      go_wp2
      go_ret
      exact ⟨rfl, O12.out.low (Nat.le_refl _)⟩
    · have db : (by' == 0) = false := by rw [beq_eq_false_iff_ne]; exact h0
      clear h0
      go_wp2
      go_ret
      exact ⟨rfl, O12.out.low (Nat.le_refl _)⟩
  · rw [h3]
    rw [decide_eq_false hne] at S12
    have db : (by' == 0) = false := by rw [beq_eq_false_iff_ne]; exact h0
    clear HC h0 h3 hne
    go_wp2_with fail
    refine S12.out.mono ?_
    rintro e w13 ⟨rfl, o13⟩
    have F := hideIt (O12.out.same o13)
    clear o13 S12 O12
    go_wp2
    go_ret
    exact ⟨rfl, F.out.low (Nat.le_refl _)⟩
end Go.Proofs.Ytfoghkjlpdjmiaa
