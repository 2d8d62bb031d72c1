/- Bytes that are turned are refused: the walk. -/
import Derived.Test.YtjiippbjflpkkaaAw17
import Derived.Test.YtjiippbjflpkkaaRo17
namespace Go.Proofs.Ytjiippbjflpkkaa
open Go.RowKit

theorem Bs.store {kd : IntKind} {w : World} {g n cap : Nat} {xs : List Int} (h : Bs kd w (.slice (some ⟨g, 0, none⟩) n cap) xs) (k : Nat) (hk : k < n) (z : Int) : Bs kd (w.setCell ⟨g, k, none⟩ (.int kd z)) (.slice (some ⟨g, 0, none⟩) n cap) (xs.set k z) := by
  have hn := h.length
  obtain ⟨ao, cap', e, hc, hr⟩ := h
  simp at e
  obtain ⟨rfl, rfl, rfl⟩ := e
  have hx : xs ≠ [] := fun e => by subst e; simp at hk
  obtain ⟨b, off, e2, hcell⟩ := hr hx
  simp at e2
  obtain ⟨rfl, rfl⟩ := e2
  refine ⟨_, _, by rw [List.length_set], by rw [List.length_set]; exact hc, fun _ => ⟨g, 0, rfl, fun j hj => ?_⟩⟩
  rw [List.length_set] at hj
  have hj2 := hcell j hj
  rw [Nat.zero_add] at hj2 ⊢
  by_cases e : k = j
  · subst e
    rw [World.cell?_setCell_same _ _ _ hj2, List.getD_eq_getElem?_getD, List.getElem?_set_self hj]; rfl
  · rw [World.cell?_setCell_other _ _ _ _ (fun e' => e (by cases e'; rfl)), hj2, List.getD_eq_getElem?_getD, List.getD_eq_getElem?_getD, List.getElem?_set_ne e]
theorem own_frozen {w : World} {lo : Nat} {E : TypeId} {g n cap : Nat} {xs : List Value} (h : w.ownsRow lo E 1 (.slice (some ⟨g, 0, none⟩) n cap) n xs) (j : Nat) : w.frozen? ⟨g, j, none⟩ = false := by
  rcases h.2 with ⟨e, _⟩ | ⟨g', cap', cur, e, _, hg, _⟩
  · cases e
  · cases e; exact frozen_of_row w g j _ E hg
theorem made0 (W : World) : (W.alloc (.cells #[] 5)).ownsRow W.heap.size 5 1 (.slice (some ⟨W.heap.size, 0, none⟩) 0 0) 0 (bl []) := World.ownsRow_made (base := W.heap.size) (e := 5) (size := 1) W #[] 0 (Nat.le_refl _) (by unfold maxLen; omega) rfl
theorem own_at {w : World} {lo n : Nat} {v : Value} {xs : List Value} (h : w.ownsRow lo 5 1 v n xs) (hn : 0 < n) : ∃ g cap, v = .slice (some ⟨g, 0, none⟩) n cap ∧ lo ≤ g ∧ n ≤ cap := by
  rcases h.2 with ⟨_, h0⟩ | ⟨g, cap, cur, rfl, hb, hg, hc, _⟩
  · omega
  · exact ⟨g, cap, rfl, hb, hc⟩
theorem OP_val {key nonce ad s : List Int} (h : KN key nonce) {n : Nat} (hn : s.length = n + 16) : OPe key nonce ad s = if ATG key nonce ad (s.take n) = s.drop n then 0 else 5 := by
  unfold OPe AOK
  rw [if_pos h, if_pos (by omega), hn, Nat.add_sub_cancel]
/-- what the two regions ask: the tag of what is ahead, held against what is behind -/
theorem part_head {w : World} {g q cap : Nat} {s : List Int} (b : Bs .u8 w (.slice (some ⟨g, 0, none⟩) q cap) s) {n : Nat} (hq : q = n + 16) : Bs .u8 w (.slice (some ⟨g, 0, none⟩) n cap) (s.take n) := b.head (by omega)
theorem part_tail {w : World} {g q cap : Nat} {s : List Int} (b : Bs .u8 w (.slice (some ⟨g, 0, none⟩) q cap) s) {n : Nat} (hq : q = n + 16) : Bs .u8 w (.slice (some ⟨g, n, none⟩) 16 (cap - n)) (s.drop n) := by
  have h := b.cut (n := n) (by omega)
  rw [show q - n = 16 by omega] at h
  simpa [Addr.add_lit] using h
set_option maxHeartbeats 3200000 in
set_option maxRecDepth 100000 in
theorem turned_walk (vk vn va vp : Value) (key nonce ad p : List Int) (at' by' : Int) (hby : 0 ≤ by' ∧ by' ≤ 255) (k8 : U8 key) (n8 : U8 nonce) (a8 : U8 ad) (p8 : U8 p) (w : World) (bk : Bs .u8 w vk key) (bn : Bs .u8 w vn nonce) (ba : Bs .u8 w va ad) (na : NoCap va) (bp : Bs .u8 w vp p) :
    Calls Try.prog 7 #[vk, vn, va, vp, .int .i64 at', .int .u8 by'] w fun e w' => e = .returned (.bool true) ∧ Below w.heap.size w w' := by
  have A := hideIt (awake_any w)
  obtain ⟨kl, hkl⟩ : ∃ n, key.length = n := ⟨_, rfl⟩
  obtain ⟨nl, hnl⟩ : ∃ n, nonce.length = n := ⟨_, rfl⟩
  obtain ⟨m, hm⟩ : ∃ n, ad.length = n := ⟨_, rfl⟩
  obtain ⟨n, hn⟩ : ∃ n, p.length = n := ⟨_, rfl⟩
  obtain ⟨ko, kc, rfl, _⟩ := bk.formN hkl
  obtain ⟨no, nc, rfl, _⟩ := bn.formN hnl
  obtain ⟨ao, ac, rfl, _⟩ := ba.formN hm
  obtain ⟨po, pc, rfl, _⟩ := bp.formN hn
  by_cases h1 : ¬ kl = 32
  · have d1 : ((kl : Int) != 32) = true := by simp; omega
    clear bk bn ba na bp k8 n8 a8 p8 hkl hnl hm hn
    go_enter Try.func7, Try.ntmps7
    go_wp2_with fail
    refine A.out.mono ?_
    rintro e w1 ⟨rfl, o1⟩
    have O1 := hideIt o1
    clear o1 A
    go_wp2
    go_ret
    exact ⟨rfl, O1.out.low (Nat.le_refl _)⟩
  obtain rfl : kl = 32 := by omega
  by_cases h2 : ¬ nl = 12
  · have d2 : ((nl : Int) != 12) = true := by simp; omega
    clear bk bn ba na bp k8 n8 a8 p8 hkl hnl hm hn
    go_enter Try.func7, Try.ntmps7
    go_wp2_with fail
    refine A.out.mono ?_
    rintro e w1 ⟨rfl, o1⟩
    have O1 := hideIt o1
    clear o1 A
    go_wp2
    go_ret
    exact ⟨rfl, O1.out.low (Nat.le_refl _)⟩
  obtain rfl : nl = 12 := by omega
  by_cases h3 : 300 < m
  · have d3 : decide ((300 : Int) < (m : Int)) = true := decide_eq_true (by omega)
    clear bk bn ba na bp k8 n8 a8 p8 hkl hnl hm hn
    go_enter Try.func7, Try.ntmps7
    go_wp2_with fail
    refine A.out.mono ?_
    rintro e w1 ⟨rfl, o1⟩
    have O1 := hideIt o1
    clear o1 A
    go_wp2
    go_ret
    exact ⟨rfl, O1.out.low (Nat.le_refl _)⟩
  have d3 : decide ((300 : Int) < (m : Int)) = false := decide_eq_false (by omega)
  by_cases h4 : 600 < n
  · have d4 : decide ((600 : Int) < (n : Int)) = true := decide_eq_true (by omega)
    clear bk bn ba na bp k8 n8 a8 p8 hkl hnl hm hn
    go_enter Try.func7, Try.ntmps7
    go_wp2_with fail
    refine A.out.mono ?_
    rintro e w1 ⟨rfl, o1⟩
    have O1 := hideIt o1
    clear o1 A
    go_wp2
    go_ret
    exact ⟨rfl, O1.out.low (Nat.le_refl _)⟩
  have d4 : decide ((600 : Int) < (n : Int)) = false := decide_eq_false (by omega)
  have h : KN key nonce := ⟨hkl, hnl⟩
  obtain ⟨i0, hi, hz0, hz1, hz2⟩ := info_parts Try.infoU8
  have P := hideIt (fun (W : World) (o : Only (fun _ => False) w W) => seal_ok _ _ _ _ key nonce ad p h k8 n8 a8 p8 (by omega) (by omega) W (bk.past o) (bn.past o) (ba.past o) na (bp.past o))
  have HS : (ASL key nonce ad p).length = n + 16 ∧ U8 (ASL key nonce ad p) := ⟨by rw [ASL_len, hn], ASL_u8 _ _ _ _ p8⟩
  obtain ⟨S, hS⟩ : ∃ S, S = ASL key nonce ad p := ⟨_, rfl⟩
  rw [← hS] at P HS
  rw [hn] at P
  obtain ⟨q, hq⟩ : ∃ q, q = n + 16 := ⟨_, rfl⟩
  rw [← hq] at P HS
  have hand := i64_low at' 16 (by decide)
  rw [show ((2 ^ 16 - 1 : Nat) : Int) = 65535 from rfl, show ((2 ^ 16 : Nat) : Int) = 65536 from rfl] at hand
  obtain ⟨c, hc⟩ : ∃ c : Nat, at' % 65536 = (c : Int) := ⟨(at' % 65536).toNat, by omega⟩
  rw [hc] at hand
  have hc16 : c < 65536 := by omega
  have hqp : 0 < q := by omega
  obtain ⟨k, hk⟩ : ∃ k, k = c % q := ⟨_, rfl⟩
  have hkq : k < q := by rw [hk]; exact Nat.mod_lt _ hqp
  have hr1 : (c : Int) % (q : Int) = (k : Int) := by rw [hk]; exact (Int.natCast_emod c q).symm
  have hr2 : (c : Int).tmod (q : Int) = (k : Int) := by rw [Int.tmod_eq_emod_of_nonneg (by omega)]; exact hr1
  have hq0 : ¬ (q : Int) = 0 := by omega
  have hq1 : ((q : Int) == 0) = false := by rw [beq_eq_false_iff_ne]; omega
  obtain ⟨x, hx⟩ : ∃ x, x = S.getD k 0 := ⟨_, rfl⟩
  have hxr := HS.2.at k
  rw [← hx] at hxr
  have hxor := xor_u8 x by' hxr hby
  obtain ⟨z, hz⟩ : ∃ z : Int, z = ((x.toNat ^^^ by'.toNat : Nat) : Int) := ⟨_, rfl⟩
  rw [← hz] at hxor
  have hzr : 0 ≤ z ∧ z ≤ 255 := by
    have := byte_xor_lt x by' hxr hby
    omega
  obtain ⟨T, hT⟩ : ∃ T, T = S.set k z := ⟨_, rfl⟩
  have HT : T.length = q ∧ U8 T := by
    refine ⟨by rw [hT, List.length_set]; exact HS.1, ?_⟩
    rw [hT]; exact HS.2.set k z hzr
  obtain ⟨B, hB⟩ : ∃ B, B = ad ++ [by'] := ⟨_, rfl⟩
  have HBD : B.length = m + 1 ∧ U8 B := by
    refine ⟨by rw [hB, List.length_append, hm]; rfl, ?_⟩
    rw [hB]; exact a8.snoc by' hby
  have OT := hideIt (fun (W : World) (o : Only (fun _ => False) w W) (v : Value) (b : Bs .u8 W v T) (nv : NoCap v) => open_any _ _ _ v key nonce ad T k8 n8 a8 HT.2 (by omega) (by omega) W (bk.past o) (bn.past o) (ba.past o) na b nv)
  have OB := hideIt (fun (W : World) (o : Only (fun _ => False) w W) (vb v : Value) (bb : Bs .u8 W vb B) (nb : NoCap vb) (b : Bs .u8 W v S) (nv : NoCap v) => open_any _ _ vb v key nonce B S k8 n8 HBD.2 HS.2 (by omega) (by omega) W (bk.past o) (bn.past o) bb nb b nv)
  rw [OP_val h (show T.length = n + 16 by omega)] at OT
  rw [OP_val h (show S.length = n + 16 by omega)] at OB
  have TT := hideIt (fun (W : World) (o : Only (fun _ => False) w W) (v : Value) (b : Bs .u8 W v (T.take n)) (nv : NoCap v) => rtag_own _ _ _ v key nonce ad (T.take n) h k8 n8 a8 (HT.2.take n) (by omega) (by rw [List.length_take]; omega) W (bk.past o) (bn.past o) (ba.past o) na b nv)
  have TB := hideIt (fun (W : World) (o : Only (fun _ => False) w W) (vb v : Value) (bb : Bs .u8 W vb B) (nb : NoCap vb) (b : Bs .u8 W v (S.take n)) (nv : NoCap v) => rtag_own _ _ vb v key nonce B (S.take n) h k8 n8 HBD.2 (HS.2.take n) (by omega) (by rw [List.length_take]; omega) W (bk.past o) (bn.past o) bb nb b nv)
  have LT : Hid (∀ (W : World) (v u : Value) (lo : Nat), W.ownsRow lo 5 1 v 16 (bl (ATG key nonce ad (T.take n))) → Bs .u8 W u (T.drop n) → Calls Try.prog 12 #[v, u] W fun e w' => e = .returned (.bool (decide (ATG key nonce ad (T.take n) = T.drop n))) ∧ Only (fun _ => False) W w') := fun W v u lo own b => lsame_any v u _ _ W (Bs.of_own (k := .u8) (E := 5) (lo := lo) (by rw [ATG_len]; exact own)) b (by rw [ATG_len]; decide)
  have LB : Hid (∀ (W : World) (v u : Value) (lo : Nat), W.ownsRow lo 5 1 v 16 (bl (ATG key nonce B (S.take n))) → Bs .u8 W u (S.drop n) → Calls Try.prog 12 #[v, u] W fun e w' => e = .returned (.bool (decide (ATG key nonce B (S.take n) = S.drop n))) ∧ Only (fun _ => False) W w') := fun W v u lo own b => lsame_any v u _ _ W (Bs.of_own (k := .u8) (E := 5) (lo := lo) (by rw [ATG_len]; exact own)) b (by rw [ATG_len]; decide)
  obtain ⟨D1, hD1⟩ : ∃ D, D = decide (ATG key nonce ad (T.take n) = T.drop n) := ⟨_, rfl⟩
  obtain ⟨D2, hD2⟩ : ∃ D, D = decide (ATG key nonce B (S.take n) = S.drop n) := ⟨_, rfl⟩
  obtain ⟨E1, hE1⟩ : ∃ E : Int, E = if ATG key nonce ad (T.take n) = T.drop n then 0 else 5 := ⟨_, rfl⟩
  obtain ⟨E2, hE2⟩ : ∃ E : Int, E = if ATG key nonce B (S.take n) = S.drop n then 0 else 5 := ⟨_, rfl⟩
  have HE : Hid ((D1 = true ∧ E1 = 0 ∨ D1 = false ∧ E1 = 5) ∧ (D2 = true ∧ E2 = 0 ∨ D2 = false ∧ E2 = 5)) := by
    refine ⟨?_, ?_⟩
    · by_cases e : ATG key nonce ad (T.take n) = T.drop n
      · exact .inl ⟨by rw [hD1]; exact decide_eq_true e, by rw [hE1, if_pos e]⟩
      · exact .inr ⟨by rw [hD1]; exact decide_eq_false e, by rw [hE1, if_neg e]⟩
    · by_cases e : ATG key nonce B (S.take n) = S.drop n
      · exact .inl ⟨by rw [hD2]; exact decide_eq_true e, by rw [hE2, if_pos e]⟩
      · exact .inr ⟨by rw [hD2]; exact decide_eq_false e, by rw [hE2, if_neg e]⟩
  rw [← hD1] at LT
  rw [← hD2] at LB
  rw [← hE1] at OT
  rw [← hE2] at OB
  have HH := hideIt (And.intro HS (And.intro HT (And.intro HBD (And.intro hq (And.intro hx (And.intro hT (And.intro hB hm)))))))
  have HA := hideIt (And.intro ba na)
  have hqs : (q : Int) - 16 = (n : Int) := by omega
  have hq16 : ¬ (q : Int) < 16 := by omega
  have kI : (k : Int) < (q : Int) := by omega
  have hnq : (n : Int) ≤ (q : Int) := by omega
  have hq6 : q ≤ 616 := by omega
  have hm3 : m ≤ 300 := by omega
  have hqn : q - n = 16 := by omega
  have rI := hxr
  clear bk bn ba na bp k8 n8 a8 p8 hkl hnl hn hm hS HS HT HBD hq hc hk hx hz hT hB hD1 hD2 hE1 hE2 h h1 h2 h3 h4 hc16 hzr hxr hqp
  go_enter Try.func7, Try.ntmps7
  go_wp2_with fail
  refine A.out.mono ?_
  rintro e w0 ⟨rfl, o0⟩
  have O0 := hideIt o0
  clear o0 A
  go_wp2_with fail
  refine (P.out w0 O0.out).mono ?_
  rintro e w1 ⟨v1, rfl, own1, o1⟩
  obtain ⟨g1, c1, rfl, _, hc1⟩ := own_at own1 (by have := HH.out.2.2.2.1; omega)
  have B1 : Hid (Bs .u8 w1 (.slice (some ⟨g1, 0, none⟩) q c1) S) := Bs.of_own (k := .u8) (E := 5) (lo := w0.heap.size) (by rw [HH.out.1.1]; exact own1)
  have O1 := hideIt (O0.out.same o1)
  have HA3 := hideIt (B1.out.past ((Only.refl (fun _ => False) w1).alloc (.cells #[] 5)))
  have ho3 := made0 w1
  clear own1 o1 P O0
  go_wp2_with (at_builtin; refine wpList_append_bs _ rfl _ _ 22 rfl w1.heap.size 5 i0 (.int .u8 0) 1 Try.underlying22 hi hz0 hz1 hz2 rfl (.slice (some ⟨w1.heap.size, 0, none⟩) 0 0) 0 (bl []) rfl ho3 .u8 (.slice (some ⟨g1, 0, none⟩) q c1) S rfl HA3.out (NoCap.some _ _ _) (by have := HH.out.1.1; simp [maxLen]; omega) (by have := HH.out.1.1; omega) (by simp) ?_)
  intro v4 w4 hown4 hgrow4 hnil4 hob4
  have q4 : Only (fun _ => False) w1 w4 := ((Only.refl _ _).alloc _).grown hgrow4 (fun k hk e => by simp [Value.ownBlock] at e; omega)
  have hown5 : w4.ownsRow w1.heap.size 5 1 v4 q (bl S) := by
    have h4 := hown4
    rw [HH.out.1.1] at h4
    exact h4
  obtain ⟨g4, c4, e4, hg4, hc4'⟩ := own_at hown5 (by have := HH.out.2.2.2.1; omega)
  subst e4
  have b4 : Bs .u8 w4 (.slice (some ⟨g4, 0, none⟩) q c4) S := Bs.of_own (k := .u8) (E := 5) (lo := w1.heap.size) (by rw [HH.out.1.1]; exact hown5)
  have hcell4 : w4.cell? ⟨g4, k, none⟩ = some (.int .u8 x) := by
    obtain ⟨b', off', cap', e, hc⟩ := b4.at k (by rw [HH.out.1.1]; exact hkq)
    simp at e
    obtain ⟨⟨rfl, rfl⟩, _, rfl⟩ := e
    rw [Nat.zero_add, ← HH.out.2.2.2.2.1] at hc; exact hc
  have hf4 : w4.frozen? ⟨g4, k, none⟩ = false := own_frozen hown5 k
  obtain ⟨w5, hw5⟩ : ∃ w5, w5 = w4.setCell ⟨g4, k, none⟩ (.int .u8 z) := ⟨_, rfl⟩
  have B5 : Hid (Bs .u8 w5 (.slice (some ⟨g4, 0, none⟩) q c4) T) := by
    show _
    rw [hw5, HH.out.2.2.2.2.2.1]; exact b4.store k hkq z
  have oc : Only (fun k => k = g4) w4 w5 := by rw [hw5]; exact (Only.refl (fun k => k = g4) w4).setCell (p := ⟨g4, k, none⟩) (fun _ => rfl) _
  have q5 : Hid (Only (fun _ => False) w1 w5) := q4.trans oc (fun i hi e => by omega)
  have O5 := hideIt (O1.out.same q5.out)
  have HW5 := hideIt hw5
  have cI4 : (q : Int) ≤ (c4 : Int) := by omega
  have cI1 : (q : Int) ≤ (c1 : Int) := by omega
  have nI4 : (n : Int) ≤ (c4 : Int) := by omega
  have nI1 : (n : Int) ≤ (c1 : Int) := by omega
  have n4 : ¬ c4 = n := by have := HH.out.2.2.2.1; omega
  have n1 : ¬ c1 = n := by have := HH.out.2.2.2.1; omega
  have T5 := hideIt (fun (W : World) (o : Only (fun _ => False) w5 W) => TT.out W (O5.out.same o) _ (part_head (B5.out.past o) HH.out.2.2.2.1) (NoCap.some _ _ _))
  have L5 := hideIt (fun (W : World) (o : Only (fun _ => False) w5 W) (v : Value) (lo : Nat) (own : W.ownsRow lo 5 1 v 16 (bl (ATG key nonce ad (T.take n)))) => LT.out W v _ lo own (part_tail (B5.out.past o) HH.out.2.2.2.1))
  have wn : IntKind.i64.wrap (n : Int) = (n : Int) := by rw [IntKind.wrap_i64]; omega
  clear hown4 hgrow4 hnil4 hob4 q4 ho3 HA3 hown5 b4 hg4 hw5 oc TT LT hc1 hc4'
  go_wp2_with fail
  rw [← HW5.out]
  go_region_held3 (fun _ => True) (trivial) (first | (go_at_call 15; refine (T5.out _ ((Only.refl _ _).drew)).mono ?_; rintro e w6 ⟨v6, rfl, own6, o6⟩; have P6 := hideIt (((Only.refl (fun _ => False) w5).drew).same o6); have S6 := hideIt (L5.out w6 P6.out v6 _ own6); clear own6 o6) | (go_at_call 12; refine S6.out.mono ?_; rintro e w7 ⟨rfl, o7⟩; have P7 := hideIt (P6.out.same o7); clear o7))
  have O7 := hideIt (O5.out.same P7.out)
  have OT7 := hideIt (OT.out w7 O7.out _ (B5.out.past P7.out) (NoCap.some _ _ _))
  have B7 := hideIt (B1.out.past (q5.out.same P7.out))
  clear T5 L5 P6 S6 OT hcell4 hf4 HW5 B5 q5 O5 B1
  go_wp2_with fail
  refine OT7.out.mono ?_
  rintro e w8 ⟨v8, rfl, own8, o8⟩
  have O8 := hideIt (O7.out.same o8)
  have B8 := hideIt (B7.out.past o8)
  have ho8 := made0 w8
  have HA8 := hideIt ((HA.out.1.past O8.out).past ((Only.refl (fun _ => False) w8).alloc (.cells #[] 5)))
  clear own8 o8 OT7 P7 O7 B7
  go_wp2_with (first
    | (at_builtin; refine wpList_append_bs _ rfl _ _ 22 rfl w8.heap.size 5 i0 (.int .u8 0) 1 Try.underlying22 hi hz0 hz1 hz2 rfl (.slice (some ⟨w8.heap.size, 0, none⟩) 0 0) 0 (bl []) rfl ho8 .u8 (.slice ao m ac) ad rfl HA8.out HA.out.2 (by have := HH.out.2.2.2.2.2.2.2; simp [maxLen]; omega) (by have := HH.out.2.2.2.2.2.2.2; omega) (by simp) ?_; intro v9 w9 hown9 hgrow9 hnil9 hob9)
    | (at_builtin; refine wpList_append_bs _ rfl _ _ 22 rfl w8.heap.size 5 i0 (.int .u8 0) 1 Try.underlying22 hi hz0 hz1 hz2 rfl v9 (0 + ad.length) _ rfl (hown9.alloc _) .u8 _ [by'] rfl (Bs.litN .u8 w9 5 [by'] _ _ rfl rfl) (NoCap.some _ _ _) (by have := HH.out.2.2.2.2.2.2.2; simp [maxLen]; omega) (by have := HH.out.2.2.2.2.2.2.2; simp; omega) (by have := hgrow9.size; simp at this ⊢; omega) ?_; intro v10 w10 hown10 hgrow10 hnil10 hob10))
  have p9 : Only (fun _ => False) w8 w9 := ((Only.refl _ _).alloc _).grown hgrow9 (fun k hk e => by simp [Value.ownBlock] at e; omega)
  have p10 : Only (fun _ => False) w8 w10 := (p9.alloc _).grown hgrow10 (fun k hk e => by have := hown9.lt k e; omega)
  have b10 : Bs .u8 w10 v10 B := Bs.of_own (k := .u8) (E := 5) (lo := w8.heap.size) (by
    have h10 := hown10
    rw [HH.out.2.2.2.2.2.2.2, Nat.zero_add] at h10
    rw [HH.out.2.2.1.1, HH.out.2.2.2.2.2.2.1, List.map_append]
    exact h10)
  have nc10 : NoCap v10 := NoCap.of_own hown10
  have O10 := hideIt (O8.out.same p10)
  have B10 := hideIt (And.intro b10 nc10)
  have S10 := hideIt (B8.out.past p10)
  have T10 := hideIt (fun (W : World) (o : Only (fun _ => False) w10 W) => TB.out W (O10.out.same o) v10 _ (B10.out.1.past o) B10.out.2 (part_head (S10.out.past o) HH.out.2.2.2.1) (NoCap.some _ _ _))
  have L10 := hideIt (fun (W : World) (o : Only (fun _ => False) w10 W) (v : Value) (lo : Nat) (own : W.ownsRow lo 5 1 v 16 (bl (ATG key nonce B (S.take n)))) => LB.out W v _ lo own (part_tail (S10.out.past o) HH.out.2.2.2.1))
  clear hown9 hgrow9 hnil9 hob9 hown10 hgrow10 hnil10 hob10 p9 p10 b10 nc10 ho8 HA8 TB LB O8 B8
  go_region_held3 (fun _ => True) (trivial) (first | (go_at_call 15; refine (T10.out _ ((Only.refl _ _).drew)).mono ?_; rintro e w11 ⟨v11, rfl, own11, o11⟩; have P11 := hideIt (((Only.refl (fun _ => False) w10).drew).same o11); have S11 := hideIt (L10.out w11 P11.out v11 _ own11); clear own11 o11) | (go_at_call 12; refine S11.out.mono ?_; rintro e w12 ⟨rfl, o12⟩; have P12 := hideIt (P11.out.same o12); clear o12))
  have O12 := hideIt (O10.out.same P12.out)
  have OB12 := hideIt (OB.out w12 O12.out v10 _ (B10.out.1.past P12.out) B10.out.2 (S10.out.past P12.out) (NoCap.some _ _ _))
  clear T10 L10 P11 S11 OB B10 S10 O10 P12
  go_wp2_with fail
  refine OB12.out.mono ?_
  rintro e w13 ⟨v13, rfl, own13, o13⟩
  have F := hideIt (O12.out.same o13)
  clear own13 o13 OB12 O12
  obtain ⟨hd1, hd2⟩ := HE.out
  clear HE
  rcases hd1 with ⟨rfl, rfl⟩ | ⟨rfl, rfl⟩ <;> rcases hd2 with ⟨rfl, rfl⟩ | ⟨rfl, rfl⟩
  all_goals
    go_wp2
    go_ret
    exact ⟨rfl, F.out.low (Nat.le_refl _)⟩
end Go.Proofs.Ytjiippbjflpkkaa
