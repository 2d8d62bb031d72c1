/- Several texts in one: Iw2, Iw3, Ir. -/
import Derived.Test.YtgbimghhdbmjiaaGreatG11
import Derived.Test.YtgbimghhdbmjiaaGreatG6

/- Package intcodec: Way, and Encode. -/
namespace Go.Proofs.YtgbimghhdbmjiaaGreat
open Go.RowKit

theorem zsn_drop (l : List Int) (k : Nat) : zsn (l.drop k) = (zsn l).drop k := by simp [zsn, List.map_drop]
theorem zsn_first {l : List Int} (h : 0 < l.length) : (zsn l).getD 0 0 = zig (l.getD 0 0) := by
  cases l with
  | nil => simp at h
  | cons a t => rfl
theorem WOTH_len {z : List Int} (hu : U64 z) (hl : z.length ≤ 65536) (t : Nat) : (WOTH z t).1.length ≤ 10000000 := by
  unfold WOTH
  by_cases h2 : t = 2
  · rw [if_pos h2]
    have h1 := PK_length z
    have h3 : z.length * wd z ≤ 65536 * 64 := Nat.mul_le_mul hl (wd_le hu)
    have h4 := gs_le10 (v := (lo z).toNat) (by have := lohi hu; omega)
    simp only; omega
  · rw [if_neg h2]
    by_cases h3 : t = 3
    · rw [if_pos h3]
      have := ENC_len (xs := z) (fun x hx => (hu x hx).1)
      omega
    · rw [if_neg h3]
      by_cases h4 : t = 4
      · rw [if_pos h4]
        have := runE_len z hu (by omega)
        simp only; omega
      · rw [if_neg h4]
        have := allG_len z hu
        simp only; omega

set_option maxHeartbeats 400000 in
set_option maxRecDepth 100000 in
theorem woth_two (v : Value) (z : List Int) (w : World) (h : Bs .u64 w v z) (hu : U64 z) (hl : z.length ≤ 65536) :
    Calls Tryz.prog 37 #[v, .int .i64 2] w fun e w' => ∃ u, e = .returned (.tuple #[u, .int .i64 (WOTH z 2).2]) ∧ w'.ownsRow w.heap.size 5 1 u (WOTH z 2).1.length ((WOTH z 2).1.map (Value.int .u8)) ∧ Only (fun _ => False) w w' := by
  have A := hideIt (pack_bs v z w h hu hl)
  obtain ⟨ao, cap, rfl⟩ := h.len
  clear h hu hl
  go_enter Tryz.func37, Tryz.ntmps37
  go_wp2_with fail
  refine A.out.mono ?_
  rintro e w1 ⟨u, rfl, own1, o1⟩
  have F := hideIt (And.intro own1 o1)
  obtain ⟨f1, c1, e1⟩ := (Bs.of_own own1).len
  subst e1
  clear A own1 o1
  go_wp2
  try rw [Exit.noGoto_ret]
  go_ret2
  exact ⟨_, rfl, F.out.1, F.out.2⟩
set_option maxHeartbeats 400000 in
set_option maxRecDepth 100000 in
theorem woth_three (v : Value) (z : List Int) (w : World) (h : Bs .u64 w v z) (hu : U64 z) (_hl : z.length ≤ 65536) :
    Calls Tryz.prog 37 #[v, .int .i64 3] w fun e w' => ∃ u, e = .returned (.tuple #[u, .int .i64 (WOTH z 3).2]) ∧ w'.ownsRow w.heap.size 5 1 u (WOTH z 3).1.length ((WOTH z 3).1.map (Value.int .u8)) ∧ Only (fun _ => False) w w' := by
  have A := hideIt (encode_all v z w h hu)
  obtain ⟨ao, cap, rfl⟩ := h.len
  clear h hu _hl
  go_enter Tryz.func37, Tryz.ntmps37
  go_wp2_with fail
  refine A.out.mono ?_
  rintro e w1 ⟨u, rfl, own1, o1⟩
  have F := hideIt (And.intro own1 o1)
  obtain ⟨f1, c1, e1⟩ := (Bs.of_own own1).len
  subst e1
  clear A own1 o1
  go_wp2
  try rw [Exit.noGoto_ret]
  go_ret2
  exact ⟨_, rfl, F.out.1, F.out.2⟩
set_option maxHeartbeats 400000 in
set_option maxRecDepth 100000 in
theorem woth_four (v : Value) (z : List Int) (w : World) (h : Bs .u64 w v z) (hu : U64 z) (hl : z.length ≤ 65536) :
    Calls Tryz.prog 37 #[v, .int .i64 4] w fun e w' => ∃ u, e = .returned (.tuple #[u, .int .i64 (WOTH z 4).2]) ∧ w'.ownsRow w.heap.size 5 1 u (WOTH z 4).1.length ((WOTH z 4).1.map (Value.int .u8)) ∧ Only (fun _ => False) w w' := by
  have A := hideIt (run_encode_bs v z w h hu hl)
  obtain ⟨ao, cap, rfl⟩ := h.len
  clear h hu hl
  go_enter Tryz.func37, Tryz.ntmps37
  go_wp2_with fail
  refine A.out.mono ?_
  rintro e w1 ⟨u, rfl, own1, o1⟩
  have F := hideIt (And.intro own1 o1)
  obtain ⟨f1, c1, e1⟩ := (Bs.of_own own1).len
  subst e1
  clear A own1 o1
  go_wp2
  try rw [Exit.noGoto_ret]
  go_ret2
  exact ⟨_, rfl, F.out.1, F.out.2⟩
set_option maxHeartbeats 400000 in
set_option maxRecDepth 100000 in
theorem woth_one (v : Value) (z : List Int) (w : World) (h : Bs .u64 w v z) (hu : U64 z) (hl : z.length ≤ 65536) :
    Calls Tryz.prog 37 #[v, .int .i64 1] w fun e w' => ∃ u, e = .returned (.tuple #[u, .int .i64 0]) ∧ w'.ownsRow w.heap.size 5 1 u (allG z).length ((allG z).map (Value.int .u8)) ∧ Only (fun _ => False) w w' := by
  have A := hideIt (varints_any v z w h hu hl)
  obtain ⟨ao, cap, rfl⟩ := h.len
  clear h hu hl
  go_enter Tryz.func37, Tryz.ntmps37
  go_wp2_with fail
  refine A.out.mono ?_
  rintro e w1 ⟨u, rfl, own1, o1⟩
  have F := hideIt (And.intro own1 o1)
  obtain ⟨f1, c1, e1⟩ := (Bs.of_own own1).len
  subst e1
  clear A own1 o1
  go_wp2
  try rw [Exit.noGoto_ret]
  go_ret2
  exact ⟨_, rfl, F.out.1, F.out.2⟩
theorem woth_any (v : Value) (z : List Int) (t : Nat) (w : World) (h : Bs .u64 w v z) (hu : U64 z) (hl : z.length ≤ 65536) (h1 : 1 ≤ t) (h4 : t ≤ 4) :
    Calls Tryz.prog 37 #[v, .int .i64 t] w fun e w' => ∃ u, e = .returned (.tuple #[u, .int .i64 (WOTH z t).2]) ∧ w'.ownsRow w.heap.size 5 1 u (WOTH z t).1.length ((WOTH z t).1.map (Value.int .u8)) ∧ Only (fun _ => False) w w' := by
  rcases t with _ | _ | _ | _ | _ | t
  · omega
  · exact woth_one v z w h hu hl
  · exact woth_two v z w h hu hl
  · exact woth_three v z w h hu hl
  · exact woth_four v z w h hu hl
  · omega

set_option maxHeartbeats 400000 in
set_option maxRecDepth 100000 in
theorem way_arg (v : Value) (tag : Int) (w : World) (ht : tag < 0 ∨ 4 < tag) :
    Calls Tryz.prog 19 #[v, .int .i64 tag] w fun e w' => e = .returned (.tuple #[.slice none 0 0, .int .i64 1]) ∧ w = w' := by
  have A := hideIt (istag_no tag w ht)
  clear ht
  go_enter Tryz.func19, Tryz.ntmps19
  go_wp2_with fail
  refine A.out.mono ?_
  rintro e w1 ⟨rfl, rfl⟩
  go_wp2
  try rw [Exit.noGoto_ret]
  go_ret2
  exact ⟨rfl, rfl⟩
set_option maxHeartbeats 400000 in
set_option maxRecDepth 100000 in
theorem way_long (v : Value) (l : List Int) (t : Nat) (w : World) (h : Bs .i64 w v l) (hl : 65536 < l.length) (ht : t ≤ 4) :
    Calls Tryz.prog 19 #[v, .int .i64 t] w fun e w' => e = .returned (.tuple #[.slice none 0 0, .int .i64 4]) ∧ w = w' := by
  have A := hideIt (istag_yes t w (by omega) (by omega))
  obtain ⟨ao, cap, rfl⟩ := h.len
  have d0 : decide ((65536 : Int) < l.length) = true := decide_eq_true (by omega)
  clear h hl ht
  generalize l.length = n at *
  go_enter Tryz.func19, Tryz.ntmps19
  go_wp2_with fail
  refine A.out.mono ?_
  rintro e w1 ⟨rfl, rfl⟩
  go_wp2
  try rw [Exit.noGoto_ret]
  go_ret2
  exact ⟨rfl, rfl⟩
set_option maxHeartbeats 400000 in
set_option maxRecDepth 100000 in
theorem way_nil (v : Value) (t : Nat) (w : World) (h : Bs .i64 w v []) (ht : t ≤ 4) :
    Calls Tryz.prog 19 #[v, .int .i64 t] w fun e w' => e = .returned (.tuple #[.slice none 0 0, .int .i64 0]) ∧ w = w' := by
  have A := hideIt (istag_yes t w (by omega) (by omega))
  obtain ⟨ao, cap, e0⟩ := h.len
  rw [List.length_nil] at e0
  subst e0
  clear h ht
  go_enter Tryz.func19, Tryz.ntmps19
  go_wp2_with fail
  refine A.out.mono ?_
  rintro e w1 ⟨rfl, rfl⟩
  go_wp2
  try rw [Exit.noGoto_ret]
  go_ret2
  exact ⟨rfl, rfl⟩
set_option maxHeartbeats 400000 in
set_option maxRecDepth 100000 in
theorem way_zero (v : Value) (l : List Int) (w : World) (h : Bs .i64 w v l) (hl : l.length ≤ 65536) (hp : 0 < l.length) :
    Calls Tryz.prog 19 #[v, .int .i64 0] w fun e w' => ∃ u, e = .returned (.tuple #[u, .int .i64 0]) ∧ w'.ownsRow w.heap.size 5 1 u (fx l).length ((fx l).map (Value.int .u8)) ∧ Only (fun _ => False) w w' := by
  have A := hideIt (istag_yes 0 w (by omega) (by omega))
  have B := hideIt (fixed_any v l w h hl)
  obtain ⟨ao, cap, rfl⟩ := h.len
  have d0 : decide ((65536 : Int) < l.length) = false := decide_eq_false (by omega)
  have d1 : ((l.length : Int) == 0) = false := by rw [beq_eq_false_iff_ne]; omega
  clear h hl hp
  generalize l.length = n at *
  go_enter Tryz.func19, Tryz.ntmps19
  go_wp2_with fail
  refine A.out.mono ?_
  rintro e w1 ⟨rfl, rfl⟩
  go_wp2_with fail
  refine B.out.mono ?_
  rintro e w1 ⟨u, rfl, own1, o1⟩
  have F := hideIt (And.intro own1 o1)
  obtain ⟨f1, c1, e1⟩ := (Bs.of_own own1).len
  subst e1
  clear A B own1 o1
  go_wp2
  try rw [Exit.noGoto_ret]
  go_ret2
  exact ⟨_, rfl, F.out.1, F.out.2⟩

set_option maxHeartbeats 1600000 in
set_option maxRecDepth 100000 in
/-- ONE WAY of the other four. -/
theorem way_other (v : Value) (l : List Int) (t : Nat) (w : World) (h : Bs .i64 w v l) (hg : I64s l) (hl : l.length ≤ 65536) (hp : 0 < l.length) (h1 : 1 ≤ t) (h4 : t ≤ 4) :
    Calls Tryz.prog 19 #[v, .int .i64 t] w fun e w' => ∃ u, e = .returned (.tuple #[u, .int .i64 (WAY l t).2]) ∧ w'.ownsRow w.heap.size 5 1 u (WAY l t).1.length ((WAY l t).1.map (Value.int .u8)) ∧ Only (fun _ => False) w w' := by
  have A := hideIt (istag_yes t w (by omega) (by omega))
  have TM := hideIt (times_any t w h1 h4)
  have DF := hideIt (diff_in v l (tms t) w h (by omega) (tms_le t))
  have HDL := hideIt (D_length (tms t) l)
  have HDG := hideIt (D_i64 hg (tms t))
  have WO : Hid (∀ (u : Value) (w2 : World), Bs .u64 w2 u ((zsn (D (tms t) l)).drop 1) → Calls Tryz.prog 37 #[u, .int .i64 t] w2 fun e w' => ∃ u', e = .returned (.tuple #[u', .int .i64 (WOTH ((zsn (D (tms t) l)).drop 1) t).2]) ∧ w'.ownsRow w2.heap.size 5 1 u' (WOTH ((zsn (D (tms t) l)).drop 1) t).1.length ((WOTH ((zsn (D (tms t) l)).drop 1) t).1.map (Value.int .u8)) ∧ Only (fun _ => False) w2 w') :=
    fun u w2 hb => woth_any u _ t w2 hb ((zD_u64 hg _).drop 1) (by rw [List.length_drop, zD_length]; omega) h1 h4
  have HWL := hideIt (WOTH_len (z := (zsn (D (tms t) l)).drop 1) ((zD_u64 hg _).drop 1) (by rw [List.length_drop, zD_length]; omega) t)
  have HWAY : Hid (WAY l t = if (WOTH ((zsn (D (tms t) l)).drop 1) t).2 ≠ 0 then ([], (WOTH ((zsn (D (tms t) l)).drop 1) t).2) else (gs (zig ((D (tms t) l).getD 0 0)).toNat ++ (WOTH ((zsn (D (tms t) l)).drop 1) t).1, 0)) := by
    simp only [Hid]
    unfold WAY
    rw [if_neg (List.length_pos_iff.1 hp), if_neg (by omega), zsn_first (by rw [D_length]; exact hp)]
  obtain ⟨ao, cap, rfl⟩ := h.len
  have d0 : decide ((65536 : Int) < l.length) = false := decide_eq_false (by omega)
  have d1 : ((l.length : Int) == 0) = false := by rw [beq_eq_false_iff_ne]; omega
  have d2 : ((t : Int) == 0) = false := by rw [beq_eq_false_iff_ne]; omega
  obtain ⟨n, hn⟩ : ∃ n, n = l.length := ⟨_, rfl⟩
  rw [← hn] at hl hp d0 d1 DF HDL
  rw [← hn]
  clear h hg hn
  obtain ⟨z1, hz1⟩ : ∃ z1, z1 = (zsn (D (tms t) l)).drop 1 := ⟨_, rfl⟩
  rw [← hz1] at WO HWL HWAY
  have HZ1 := hideIt hz1
  clear hz1
  generalize hWO : WOTH z1 t = W at *
  clear hWO
  obtain ⟨W1, c⟩ := W
  simp only at WO HWL HWAY
  generalize WAY l t = Wl at *
  generalize hDD : D (tms t) l = d at *
  clear hDD
  generalize tms t = k at *
  go_enter Tryz.func19, Tryz.ntmps19
  go_wp2_with fail
  refine A.out.mono ?_
  rintro e w1 ⟨rfl, rfl⟩
  clear A
  go_wp2_with fail
  refine TM.out.mono ?_
  rintro e w1 ⟨rfl, rfl⟩
  clear TM
  go_wp2_with fail
  refine DF.out.mono ?_
  rintro e w1 ⟨v1, rfl, own1, o1⟩
  clear DF
  have OWN1 := hideIt own1
  have hb1 : Bs .i64 w1 v1 d := Bs.of_own (by rw [HDL.out]; exact own1)
  have HB1 := hideIt hb1
  obtain ⟨a1, cap1, e1⟩ := hb1.len
  rw [HDL.out] at e1
  subst e1
  have hc1 : n ≤ cap1 := by
    obtain ⟨ao', cap', e2, hc, _⟩ := hb1
    rw [HDL.out] at hc
    simp at e2
    omega
  have HO1 := hideIt o1
  clear own1 o1 hb1
  have j0 : (1 : Int) ≤ (n : Int) := by omega
  have j1 : (1 : Int) ≤ (cap1 : Int) := by omega
  by_cases hcc : cap1 = 1
  · subst hcc
    obtain rfl : n = 1 := by omega
    have hb2 : Bs .i64 w1 (.slice a1 0 0) (d.drop 1) := by have := HB1.out.cut0 (n := 1) (by omega); simpa using this
    have ZG := hideIt (zigs_any _ (d.drop 1) w1 hb2 (fun x hx => HDG.out x (List.mem_of_mem_drop hx)) (by rw [List.length_drop, HDL.out]; omega))
    rw [zsn_drop, ← HZ1.out] at ZG
    clear hb2
    go_wp2_with fail
    refine ZG.out.mono ?_
    rintro e w2 ⟨v2, rfl, own2, o2⟩
    clear ZG
    have W2 := hideIt (WO.out v2 w2 (Bs.of_own own2))
    have O12 := hideIt o2
    have OWN2 := hideIt (o2.own OWN1.out (fun _ _ f => f))
    obtain ⟨f2, c2, e2⟩ := (Bs.of_own own2).len
    subst e2
    clear own2 o2
    go_wp2_with fail
    refine W2.out.mono ?_
    rintro e w3 ⟨v3, rfl, own3, o3⟩
    clear W2
    have O13 := hideIt (O12.out.same o3)
    have HO3 := hideIt (HO1.out.same O13.out)
    have OWN3 := hideIt (o3.own OWN2.out (fun _ _ f => f))
    have HB3 := hideIt (Bs.of_own own3)
    have NC3 := hideIt (NoCap.of_own own3)
    obtain ⟨f3, c3, e3⟩ := (Bs.of_own own3).len
    subst e3
    clear own3 o3
    by_cases hc : c = 0
    · subst hc
      have hx := HDG.out (d.getD 0 0) (getD_mem0 d 0 (by rw [HDL.out]; omega))
      have hx2 := zig_bounds _ hx.1 hx.2
      obtain ⟨b, off, cap', e4, cell0⟩ := (HB1.out.past O13.out).at 0 (by rw [HDL.out]; omega)
      have ea : a1 = some ⟨b, off, none⟩ := by simp at e4; exact e4.1
      subst ea
      clear e4
      rw [Nat.add_zero] at cell0
      rw [if_neg (by simp)] at HWAY
      obtain ⟨x, hxd⟩ : ∃ x, x = d.getD 0 0 := ⟨_, rfl⟩
      rw [← hxd] at cell0 hx hx2 HWAY
      have ZA := hideIt (zig_any x w3 hx.1 hx.2)
      have AA := hideIt (append_any (.slice none 0 0) [] (zig x) w3 (Bs.nil _ _) NoCap.nil (by simp) hx2.1 hx2.2)
      have H10 := hideIt (gs_le10 (v := (zig x).toNat) (by omega))
      have HGP := hideIt (gs_pos (zig x).toNat)
      clear hxd hx hx2
      go_wp2_with fail
      refine ZA.out.mono ?_
      rintro e w3' ⟨rfl, rfl⟩
      clear ZA
      go_wp2_with fail
      refine AA.out.mono ?_
      rintro e w4 ⟨v4, rfl, own4, o4⟩
      clear AA
      rw [List.nil_append] at own4
      have hbl : Below w4.heap.size w4 (w4.alloc (.cells #[v4, .slice f3 W1.length c3] 22)) := (Below.refl _ _).alloc (Nat.le_refl _) _
      have CC := hideIt (concat_two w4.heap.size v4 _ (gs (zig x).toNat) W1 (w4.alloc (.cells #[v4, .slice f3 W1.length c3] 22)) (by go_cell) (by go_cell) ((Bs.of_own own4).later hbl) ((HB3.out.past o4).later hbl) (NoCap.of_own own4) NC3.out (by have := HGP.out; omega) (by have := H10.out; have := HWL.out; omega))
      have O4 := hideIt ((HO3.out.same o4).alloc (.cells #[v4, .slice f3 W1.length c3] 22))
      obtain ⟨f4, c4, e4⟩ := (Bs.of_own own4).len
      subst e4
      clear own4 o4 hbl
      generalize gs (zig x).toNat = g at *
      go_wp2_with fail
      refine CC.out.mono ?_
      rintro e w5 ⟨v5, rfl, own5, o5⟩
      clear CC
      obtain ⟨gw, hgw⟩ : ∃ gw, gw = g ++ W1 := ⟨_, rfl⟩
      rw [← hgw] at own5 HWAY
      have eW := HWAY.out
      subst eW
      have F := hideIt (And.intro (own_low own5 O4.out.size) (O4.out.same o5))
      clear hgw HWAY
      obtain ⟨f5, c5, e5⟩ := (Bs.of_own own5).len
      subst e5
      clear own5 o5
      go_wp2
      try rw [Exit.noGoto_ret]
      go_ret2
      exact ⟨_, rfl, F.out.1, F.out.2⟩
    · have dc : (c != 0) = true := by simp; exact hc
      rw [if_pos hc] at HWAY
      have eW := HWAY.out
      subst eW
      clear HWAY
      go_wp2
      try rw [Exit.noGoto_ret]
      go_ret2
      exact ⟨_, rfl, World.ownsRow_nil _ _ _ _, HO3.out⟩
  · have hcx : ¬ ((cap1 : Int) - 1 = 0) := by omega
    have hb2 : Bs .i64 w1 (.slice (a1.map (fun x => x.add 1)) (n - 1) (cap1 - 1)) (d.drop 1) := by have := HB1.out.cut (n := 1) (by omega); simpa using this
    have ZG := hideIt (zigs_any _ (d.drop 1) w1 hb2 (fun x hx => HDG.out x (List.mem_of_mem_drop hx)) (by rw [List.length_drop, HDL.out]; omega))
    rw [zsn_drop, ← HZ1.out] at ZG
    clear hb2
    go_wp2_with fail
    refine ZG.out.mono ?_
    rintro e w2 ⟨v2, rfl, own2, o2⟩
    clear ZG
    have W2 := hideIt (WO.out v2 w2 (Bs.of_own own2))
    have O12 := hideIt o2
    have OWN2 := hideIt (o2.own OWN1.out (fun _ _ f => f))
    obtain ⟨f2, c2, e2⟩ := (Bs.of_own own2).len
    subst e2
    clear own2 o2
    go_wp2_with fail
    refine W2.out.mono ?_
    rintro e w3 ⟨v3, rfl, own3, o3⟩
    clear W2
    have O13 := hideIt (O12.out.same o3)
    have HO3 := hideIt (HO1.out.same O13.out)
    have OWN3 := hideIt (o3.own OWN2.out (fun _ _ f => f))
    have HB3 := hideIt (Bs.of_own own3)
    have NC3 := hideIt (NoCap.of_own own3)
    obtain ⟨f3, c3, e3⟩ := (Bs.of_own own3).len
    subst e3
    clear own3 o3
    by_cases hc : c = 0
    · subst hc
      have hx := HDG.out (d.getD 0 0) (getD_mem0 d 0 (by rw [HDL.out]; omega))
      have hx2 := zig_bounds _ hx.1 hx.2
      obtain ⟨b, off, cap', e4, cell0⟩ := (HB1.out.past O13.out).at 0 (by rw [HDL.out]; omega)
      have ea : a1 = some ⟨b, off, none⟩ := by simp at e4; exact e4.1
      subst ea
      clear e4
      rw [Nat.add_zero] at cell0
      rw [if_neg (by simp)] at HWAY
      obtain ⟨x, hxd⟩ : ∃ x, x = d.getD 0 0 := ⟨_, rfl⟩
      rw [← hxd] at cell0 hx hx2 HWAY
      have ZA := hideIt (zig_any x w3 hx.1 hx.2)
      have AA := hideIt (append_any (.slice none 0 0) [] (zig x) w3 (Bs.nil _ _) NoCap.nil (by simp) hx2.1 hx2.2)
      have H10 := hideIt (gs_le10 (v := (zig x).toNat) (by omega))
      have HGP := hideIt (gs_pos (zig x).toNat)
      clear hxd hx hx2
      go_wp2_with fail
      refine ZA.out.mono ?_
      rintro e w3' ⟨rfl, rfl⟩
      clear ZA
      go_wp2_with fail
      refine AA.out.mono ?_
      rintro e w4 ⟨v4, rfl, own4, o4⟩
      clear AA
      rw [List.nil_append] at own4
      have hbl : Below w4.heap.size w4 (w4.alloc (.cells #[v4, .slice f3 W1.length c3] 22)) := (Below.refl _ _).alloc (Nat.le_refl _) _
      have CC := hideIt (concat_two w4.heap.size v4 _ (gs (zig x).toNat) W1 (w4.alloc (.cells #[v4, .slice f3 W1.length c3] 22)) (by go_cell) (by go_cell) ((Bs.of_own own4).later hbl) ((HB3.out.past o4).later hbl) (NoCap.of_own own4) NC3.out (by have := HGP.out; omega) (by have := H10.out; have := HWL.out; omega))
      have O4 := hideIt ((HO3.out.same o4).alloc (.cells #[v4, .slice f3 W1.length c3] 22))
      obtain ⟨f4, c4, e4⟩ := (Bs.of_own own4).len
      subst e4
      clear own4 o4 hbl
      generalize gs (zig x).toNat = g at *
      go_wp2_with fail
      refine CC.out.mono ?_
      rintro e w5 ⟨v5, rfl, own5, o5⟩
      clear CC
      obtain ⟨gw, hgw⟩ : ∃ gw, gw = g ++ W1 := ⟨_, rfl⟩
      rw [← hgw] at own5 HWAY
      have eW := HWAY.out
      subst eW
      have F := hideIt (And.intro (own_low own5 O4.out.size) (O4.out.same o5))
      clear hgw HWAY
      obtain ⟨f5, c5, e5⟩ := (Bs.of_own own5).len
      subst e5
      clear own5 o5
      go_wp2
      try rw [Exit.noGoto_ret]
      go_ret2
      exact ⟨_, rfl, F.out.1, F.out.2⟩
    · have dc : (c != 0) = true := by simp; exact hc
      rw [if_pos hc] at HWAY
      have eW := HWAY.out
      subst eW
      clear HWAY
      go_wp2
      try rw [Exit.noGoto_ret]
      go_ret2
      exact ⟨_, rfl, World.ownsRow_nil _ _ _ _, HO3.out⟩
end Go.Proofs.YtgbimghhdbmjiaaGreat

/- Package intcodec: Way of whatever comes in; Encode. -/
namespace Go.Proofs.YtgbimghhdbmjiaaGreat
open Go.RowKit

theorem way8_any (v : Value) (l : List Int) (tag : Int) (w : World) (h : Bs .i64 w v l) (hg : I64s l) :
    Calls Tryz.prog 19 #[v, .int .i64 tag] w fun e w' => ∃ u, e = .returned (.tuple #[u, .int .i64 (WAY8 l tag).2]) ∧ w'.ownsRow w.heap.size 5 1 u (WAY8 l tag).1.length ((WAY8 l tag).1.map (Value.int .u8)) ∧ Only (fun _ => False) w w' := by
  unfold WAY8
  by_cases ht : tag < 0 ∨ 4 < tag
  · rw [if_pos ht]
    refine (way_arg v tag w ht).mono ?_
    rintro e w' ⟨rfl, rfl⟩
    exact ⟨_, rfl, World.ownsRow_nil _ _ _ _, Only.refl _ _⟩
  · rw [if_neg ht]
    obtain ⟨t, rfl⟩ := Int.eq_ofNat_of_zero_le (show 0 ≤ tag by omega)
    by_cases hl : 65536 < l.length
    · rw [if_pos hl]
      refine (way_long v l t w h hl (by omega)).mono ?_
      rintro e w' ⟨rfl, rfl⟩
      exact ⟨_, rfl, World.ownsRow_nil _ _ _ _, Only.refl _ _⟩
    · rw [if_neg hl, Int.toNat_natCast]
      by_cases hne : l = []
      · subst hne
        rw [WAY_nil]
        refine (way_nil v t w h (by omega)).mono ?_
        rintro e w' ⟨rfl, rfl⟩
        exact ⟨_, rfl, World.ownsRow_nil _ _ _ _, Only.refl _ _⟩
      · have hp : 0 < l.length := List.length_pos_iff.2 hne
        by_cases h0 : t = 0
        · subst h0
          rw [WAY_zero]
          exact way_zero v l w h (by omega) hp
        · exact way_other v l t w h hg (by omega) hp (by omega) (by omega)
theorem way8_nat (v : Value) (l : List Int) (t : Nat) (w : World) (h : Bs .i64 w v l) (hg : I64s l) (hl : l.length ≤ 65536) (ht : t ≤ 4) :
    Calls Tryz.prog 19 #[v, .int .i64 t] w fun e w' => ∃ u, e = .returned (.tuple #[u, .int .i64 (WAY l t).2]) ∧ w'.ownsRow w.heap.size 5 1 u (WAY l t).1.length ((WAY l t).1.map (Value.int .u8)) ∧ Only (fun _ => False) w w' := by
  have := way8_any v l t w h hg
  rw [WAY8_nat hl t ht] at this
  exact this
theorem pick_len (l : List Int) (t : Nat) : (pick l t).2.length ≤ 8 * l.length := by
  have h := (pick_spec l t).2.2 0 (by omega) (by rw [WAY_zero])
  rw [WAY_zero] at h
  simp only [fx_length] at h
  exact h

set_option maxHeartbeats 400000 in
set_option maxRecDepth 100000 in
theorem encode8_long (v : Value) (l : List Int) (w : World) (h : Bs .i64 w v l) (hl : 65536 < l.length) :
    Calls Tryz.prog 8 #[v] w fun e w' => e = .returned (.tuple #[.slice none 0 0, .int .i64 4]) ∧ w = w' := by
  have A := hideIt (way_long v l 0 w h hl (by omega))
  obtain ⟨ao, cap, rfl⟩ := h.len
  clear h hl
  go_enter Tryz.func8, Tryz.ntmps8
  go_wp2_with fail
  refine A.out.mono ?_
  rintro e w1 ⟨rfl, rfl⟩
  go_wp2
  try rw [Exit.noGoto_ret]
  go_ret2
  exact ⟨rfl, rfl⟩

set_option maxHeartbeats 1600000 in
set_option maxRecDepth 100000 in
/-- THE SHORTEST WAY, and its tag ahead. -/
theorem encode8_bs (v : Value) (l : List Int) (w : World) (h : Bs .i64 w v l) (hg : I64s l) (hl : l.length ≤ 65536) :
    Calls Tryz.prog 8 #[v] w fun e w' => ∃ u, e = .returned (.tuple #[u, .int .i64 0]) ∧ w'.ownsRow w.heap.size 5 1 u (((pick l 4).1 : Int) :: (pick l 4).2).length ((((pick l 4).1 : Int) :: (pick l 4).2).map (Value.int .u8)) ∧ Only (fun _ => False) w w' := by
  have A := way8_nat v l 0 w h hg hl (by omega)
  rw [WAY_zero] at A
  have A := hideIt A
  have WY : Hid (∀ (t : Nat) (w1 : World), t ≤ 4 → Only (fun _ => False) w w1 → Calls Tryz.prog 19 #[v, .int .i64 t] w1 fun e w' => ∃ u, e = .returned (.tuple #[u, .int .i64 (WAY l t).2]) ∧ w'.ownsRow w1.heap.size 5 1 u (WAY l t).1.length ((WAY l t).1.map (Value.int .u8)) ∧ Only (fun _ => False) w1 w') :=
    fun t w1 ht o => way8_nat v l t w1 (h.past o) hg hl ht
  have HP : Hid (∀ t, (pick l t).1 ≤ t ∧ (pick l t).2.length ≤ 8 * l.length) := fun t => ⟨(pick_spec l t).1, pick_len l t⟩
  have HPS : Hid (∀ t, pick l (t + 1) = if (WAY l (t + 1)).2 = 0 ∧ (WAY l (t + 1)).1.length < (pick l t).2.length then (t + 1, (WAY l (t + 1)).1) else pick l t) := fun t => rfl
  have HP0 : Hid (pick l 0 = (0, fx l)) := by simp only [Hid]; rw [pick, WAY_zero]
  obtain ⟨pp, hpp⟩ : ∃ pp, pp = ((pick l 4).1 : Int) :: (pick l 4).2 := ⟨_, rfl⟩
  rw [← hpp]
  have HPP := hideIt hpp
  clear hpp
  obtain ⟨ao, cap, rfl⟩ := h.len
  clear h hg
  go_enter Tryz.func8, Tryz.ntmps8
  go_wp2_with fail
  refine A.out.mono ?_
  rintro e w1 ⟨v1, rfl, own1, o1⟩
  clear A
  have START := hideIt (And.intro own1 o1)
  obtain ⟨f1, c1, e1⟩ := (Bs.of_own own1).len
  subst e1
  generalize hF : fx l = F0 at *
  clear own1 o1
  go_wp2
  go_loopw [4, 5, 7] (fun s4 s5 s7 wr => ∃ t : Nat, t ≤ 4 ∧ s7 = .int .i64 ((t : Int) + 1) ∧ s4 = .int .i64 ((pick l t).1 : Nat) ∧ wr.ownsRow w.heap.size 5 1 s5 (pick l t).2.length ((pick l t).2.map (Value.int .u8)) ∧ Only (fun _ => False) w wr) (fun _ _ s7 _ => 5 - (intOf s7).toNat)
  case atStart =>
    have e := HP0.out
    refine ⟨0, by omega, rfl, by rw [e]; rfl, ?_, START.out.2⟩
    rw [e]
    exact START.out.1
  case round =>
    obtain ⟨t, ht, rfl, rfl, hown, hon⟩ := hrel
    have HOWN := hideIt hown
    have HON := hideIt hon
    obtain ⟨f2, c2, e2⟩ := (Bs.of_own hown).len
    subst e2
    clear START hown hon
    have hp1 := (HP.out t).1
    have HPL := hideIt (HP.out t).2
    have HST := hideIt (HPS.out t)
    by_cases hlt : t < 4
    · have dlt : decide ((t : Int) + 1 < 5) = true := decide_eq_true (by omega)
      have WT := WY.out (t + 1) wr (by omega) HON.out
      rw [Int.natCast_succ] at WT
      have WT := hideIt WT
      generalize WAY l (t + 1) = W at *
      obtain ⟨W1, c⟩ := W
      simp only at WT HST
      obtain ⟨pn, hpn⟩ : ∃ pn, pn = pick l (t + 1) := ⟨_, rfl⟩
      rw [← hpn] at HST
      have HPN := hideIt hpn
      generalize pick l t = p at *
      obtain ⟨p1, p2⟩ := p
      simp only at HOWN HST hp1 HPL
      clear hpn WY HPS HP HP0
      go_wp2_with fail
      refine WT.out.mono ?_
      rintro e w3 ⟨v3, rfl, own3, o3⟩
      clear WT
      have OW3 := hideIt (own_low own3 HON.out.size)
      have OWP := hideIt (o3.own HOWN.out (fun _ _ f => f))
      have O3 := hideIt (HON.out.same o3)
      obtain ⟨f3, c3, e3⟩ := (Bs.of_own own3).len
      subst e3
      clear own3 o3
      by_cases hc : c = 0
      · subst hc
        by_cases hlen : W1.length < p2.length
        · have dl : decide ((W1.length : Int) < (p2.length : Int)) = true := decide_eq_true (by omega)
          rw [if_pos ⟨rfl, hlen⟩] at HST
          generalize hn1 : W1.length = n1 at *
          generalize hn2 : p2.length = n2 at *
          go_wp2
          go_roundw
          case rel =>
            refine ⟨t + 1, by omega, by simp, ?_, ?_, O3.out⟩
            · rw [← HPN.out, HST.out]; simp
            · rw [← HPN.out, HST.out]
              simp only [hn1]
              exact OW3.out
          case measure => simp [intOf]; omega
        · have dl : decide ((W1.length : Int) < (p2.length : Int)) = false := decide_eq_false (by omega)
          rw [if_neg (fun hh => hlen hh.2)] at HST
          generalize hn1 : W1.length = n1 at *
          generalize hn2 : p2.length = n2 at *
          go_wp2
          go_roundw
          case rel =>
            refine ⟨t + 1, by omega, by simp, ?_, ?_, O3.out⟩
            · rw [← HPN.out, HST.out]
            · rw [← HPN.out, HST.out]
              simp only [hn2]
              exact OWP.out
          case measure => simp [intOf]; omega
      · have dc : (c == 0) = false := by rw [beq_eq_false_iff_ne]; exact hc
        rw [if_neg (fun hh => hc hh.1)] at HST
        generalize hn2 : p2.length = n2 at *
        go_wp2
        go_roundw
        case rel =>
          refine ⟨t + 1, by omega, by simp, ?_, ?_, O3.out⟩
          · rw [← HPN.out, HST.out]
          · rw [← HPN.out, HST.out]
            simp only [hn2]
            exact OWP.out
        case measure => simp [intOf]; omega
    · obtain rfl : t = 4 := by omega
      clear HST HPS HP HP0 WY
      generalize pick l 4 = p at *
      obtain ⟨p1, p2⟩ := p
      simp only at HOWN hp1 HPL HPP
      have hq256 : (p1 : Int) < 256 := by omega
      have oA : Only (fun _ => False) wr (wr.alloc (.cells #[.int .u8 p1] 5)) := (Only.refl _ _).alloc _
      have oB : Only (fun _ => False) wr ((wr.alloc (.cells #[.int .u8 p1] 5)).alloc (.cells #[.slice (some ⟨wr.heap.size, 0, none⟩) 1 1, .slice f2 p2.length c2] 22)) := oA.alloc _
      have b1 : Bs .u8 (wr.alloc (.cells #[.int .u8 p1] 5)) (.slice (some ⟨wr.heap.size, 0, none⟩) 1 1) [(p1 : Int)] := Bs.litN .u8 wr 5 [(p1 : Int)] _ _ rfl rfl
      have CC := hideIt (concat_two (wr.heap.size + 1) (.slice (some ⟨wr.heap.size, 0, none⟩) 1 1) (.slice f2 p2.length c2) [(p1 : Int)] p2 ((wr.alloc (.cells #[.int .u8 p1] 5)).alloc (.cells #[.slice (some ⟨wr.heap.size, 0, none⟩) 1 1, .slice f2 p2.length c2] 22)) (by go_cell) (by go_cell) (b1.later ((Below.refl _ _).alloc (Nat.le_refl _) _)) ((Bs.of_own HOWN.out).past oB) (NoCap.some _ _ _) (NoCap.of_own HOWN.out) (by simp; omega) (by have := HPL.out; simp; omega))
      rw [List.singleton_append] at CC
      have O4 := hideIt (HON.out.same oB)
      rw [← HPP.out] at CC
      clear oA oB b1 HOWN HON HPP
      generalize p2.length = n2 at *
      go_wp2_with fail
      refine CC.out.mono ?_
      rintro e w5 ⟨v5, rfl, own5, o5⟩
      clear CC
      have F := hideIt (And.intro (own_low own5 O4.out.size) (O4.out.same o5))
      obtain ⟨f5, c5, e5⟩ := (Bs.of_own own5).len
      subst e5
      clear own5 o5
      go_wp2
      try rw [Exit.noGoto_ret]
      go_ret2
      exact ⟨_, rfl, F.out.1, F.out.2⟩
theorem encode8_all (v : Value) (l : List Int) (w : World) (h : Bs .i64 w v l) (hg : I64s l) :
    Calls Tryz.prog 8 #[v] w fun e w' => ∃ u, e = .returned (.tuple #[u, .int .i64 (ENC8 l).2]) ∧ w'.ownsRow w.heap.size 5 1 u (ENC8 l).1.length ((ENC8 l).1.map (Value.int .u8)) ∧ Only (fun _ => False) w w' := by
  unfold ENC8
  by_cases hl : 65536 < l.length
  · rw [if_pos hl]
    refine (encode8_long v l w h hl).mono ?_
    rintro e w' ⟨rfl, rfl⟩
    exact ⟨_, rfl, World.ownsRow_nil _ _ _ _, Only.refl _ _⟩
  · rw [if_neg hl]
    exact encode8_bs v l w h hg (by omega)
end Go.Proofs.YtgbimghhdbmjiaaGreat

/- Package intcodec: what is read of a cursor, way by way. -/
namespace Go.Proofs.YtgbimghhdbmjiaaGreat
open Go.RowKit

theorem map_s64_snoc (ys : List Int) (k : Nat) : ((fxN ys (k + 1)).map s64).map (Value.int .i64) = ((fxN ys k).map s64).map (Value.int .i64) ++ [.int .i64 (s64 (num ((ys.drop (8 * k)).take 8) : Int))] := by
  rw [fxN_succ, List.map_append, List.map_append]; rfl

set_option maxHeartbeats 800000 in
set_option maxRecDepth 100000 in
/-- SO MANY OF EIGHT BYTES EACH. -/
theorem readFixed_cur {w : World} {R : Nat} {v : Value} {ys : List Int} (h : CurAt 51 w R v ys) (hvb : ∀ k, v.ownBlock = some k → k < w.heap.size) (n : Nat) (hn : n ≤ 65536) :
    Calls Tryz.prog 23 #[.pointer (some ⟨R, 0, none⟩), .int .i64 n] w fun e w' => ∃ u, e = .returned (.tuple #[u, .int .i64 (rFx ys n).2]) ∧ w'.ownsRow w.heap.size 3 1 u ((rFx ys n).1.map s64).length (((rFx ys n).1.map s64).map (Value.int .i64)) ∧ Only (fun k => k = R) w w' := by
  obtain ⟨i0, hi, hz0, hz1, hz2⟩ := info_parts Tryz.infoI64
  have hR : R < w.heap.size := (Array.getElem?_eq_some_iff.1 h.cell).1
  have HC := hideIt h
  have HVB := hideIt hvb
  clear h hvb
  go_enter Tryz.func23, Tryz.ntmps23
  go_wp2
  go_loopw [6, 10] (fun s i wr => ∃ (k : Nat) (v' : Value), k ≤ n ∧ i = .int .i64 k ∧ wr.ownsRow w.heap.size 3 1 s k (((fxN ys k).map s64).map (Value.int .i64)) ∧ CurAt 51 wr R v' (ys.drop (8 * k)) ∧ v'.ownBlock = v.ownBlock ∧ 8 * k ≤ ys.length ∧ Only (fun k => k = R) w wr) (fun _ i _ => n - (intOf i).toNat)
  case atStart => exact ⟨0, v, Nat.zero_le _, rfl, World.ownsRow_nil _ _ _ _, HC.out, rfl, by omega, Only.refl _ _⟩
  case round =>
    obtain ⟨k, v', hk, rfl, hown, hcur, hob, h8, hon⟩ := hrel
    have HOWN := hideIt hown
    have HON := hideIt hon
    have HOB := hideIt hob
    by_cases hlt : k < n
    · have dlt : decide ((k : Int) < (n : Int)) = true := by simp; omega
      have FX := hideIt (fixed_cur hcur 8)
      by_cases hs : (ys.drop (8 * k)).length < 8
      · rw [sFixed8_short hs] at FX
        have HR : Hid (rFx ys n = ([], 2)) := by
          simp only [Hid]; unfold rFx
          rw [List.length_drop] at hs
          rw [if_pos (by omega)]
        clear hown hcur hob hon hs HC
        go_wp2_with fail
        refine FX.out.mono ?_
        rintro e w2 ⟨rfl, v2, _, _, o2⟩
        have O2 := hideIt (HON.out.trans o2 (fun _ _ e => e))
        clear FX o2 HOWN
        go_wp2
        go_ret2
        rw [HR.out]
        exact ⟨_, rfl, World.ownsRow_nil _ _ _ _, O2.out⟩
      · rw [sFixed8_ok (by omega)] at FX
        have h9 : 8 * (k + 1) ≤ ys.length := by rw [List.length_drop] at hs; omega
        have HST := hideIt (map_s64_snoc ys k)
        have HDR : Hid ((ys.drop (8 * k)).drop 8 = ys.drop (8 * (k + 1))) := by
          simp only [Hid]; rw [List.drop_drop, Nat.mul_add]
        rw [HDR.out] at FX
        have HX : Hid (∀ x : Int, IntKind.i64.wrap x = s64 x) := fun x => by unfold s64 wrap64; exact IntKind.wrap_i64 x
        generalize (num ((ys.drop (8 * k)).take 8) : Int) = x at *
        clear hown hcur hob hon hs HC HDR
        go_wp2_with fail
        refine FX.out.mono ?_
        rintro e w2 ⟨rfl, v2, cur2, ob2, o2⟩
        have O2 := hideIt (HON.out.trans o2 (fun _ _ e => e))
        have own2 := o2.own HOWN.out (fun q hq e => by have := (HOWN.out.lt q hq).1; omega)
        have CUR2 := hideIt cur2
        have OB2 := hideIt (ob2.trans HOB.out)
        have hsz := O2.out.size
        clear FX o2 HOWN HON HOB cur2 ob2
        go_wp2_with (at_builtin; refine wpList_append_lies _ rfl _ _ _ rfl w.heap.size 3 i0 (.int .i64 0) 1 8 Tryz.underlying24 hi hz0 hz1 hz2 rfl (by omega) _ k _ rfl (own2.alloc _) ⟨w2.heap.size, 0, none⟩ 1 1 [.int .i64 (s64 x)] rfl rfl ?c1 ?c2 (by omega) ?c3 ?c4 ?c5 (w2.heap.size + 1) (by simp) ?_)
        case c1 => first | exact cell_one_new _ _ _ | (rw [← HX.out x]; exact cell_one_new _ _ _)
        case c2 => intro u hu; simp at hu; subst hu; rfl
        case c3 => unfold maxLen; omega
        case c4 => omega
        case c5 => simp; omega
        intro gg cap1 w3 hown1 hgrow hat hg1
        have o3 := hideIt (((Only.refl (fun q => w.heap.size ≤ q) w2).alloc _).grown hgrow (fun p _ hp => (own2.lt p hp).1))
        have own3 : Hid (w3.ownsRow w.heap.size 3 1 (.slice (some ⟨gg, 0, none⟩) (k + 1) cap1) (k + 1) (((fxN ys (k + 1)).map s64).map (Value.int .i64))) := by
          simp only [Hid]
          rw [HST.out, List.map_map]; exact hown1
        clear own2 hown1 hgrow hat
        go_wp2
        go_roundw
        case rel =>
          refine ⟨k + 1, v2, by omega, by go_num, own3.out, CUR2.out.keep o3.out (by omega) (fun q hq e => ?_), OB2.out, h9, O2.out.trans o3.out (fun q hq e => absurd e (by omega))⟩
          rw [OB2.out] at hq
          have := HVB.out q hq
          omega
        case measure => simp [intOf]; omega
    · obtain rfl : k = n := by omega
      have dlt : decide ((k : Int) < (k : Int)) = false := by simp
      have HR : Hid (rFx ys k = (fxN ys k, 0)) := by
        simp only [Hid]; unfold rFx
        rw [if_neg (by omega)]
      clear hown hcur hob hon HC
      go_wp2
      go_ret2
      rw [HR.out]
      refine ⟨_, rfl, ?_, HON.out⟩
      rw [List.length_map, fxN_length]
      exact HOWN.out

theorem rVs_stop {n : Nat} {acc ys : List Int} {a : Int} {k : Nat} {c : Int} (hs : sVarint ys = (a, k, c)) (hc : c ≠ 0) : rVs (n + 1) acc ys = ([], ys, c) := by
  rw [rVs, hs]; simp only [ne_eq]; rw [if_pos hc]
theorem rVs_go {n : Nat} {acc ys : List Int} {a : Int} {k : Nat} (hs : sVarint ys = (a, k, 0)) : rVs (n + 1) acc ys = rVs n (acc ++ [a]) (ys.drop k) := by
  rw [rVs, hs]; simp

set_option maxHeartbeats 800000 in
set_option maxRecDepth 100000 in
/-- SO MANY VARINTS. -/
theorem readVarints_cur {w : World} {R : Nat} {v : Value} {ys : List Int} (h : CurAt 51 w R v ys) (hvb : ∀ k, v.ownBlock = some k → k < w.heap.size) (n : Nat) (hn : n ≤ 65536) :
    Calls Tryz.prog 50 #[.pointer (some ⟨R, 0, none⟩), .int .i64 n] w fun e w' => ∃ u, e = .returned (.tuple #[u, .int .i64 (rVs n [] ys).2.2]) ∧ w'.ownsRow w.heap.size 42 1 u (rVs n [] ys).1.length ((rVs n [] ys).1.map (Value.int .u64)) ∧ Only (fun k => k = R) w w' := by
  obtain ⟨i0, hi, hz0, hz1, hz2⟩ := info_parts Tryz.infoU64
  have hR : R < w.heap.size := (Array.getElem?_eq_some_iff.1 h.cell).1
  have HC := hideIt h
  have HVB := hideIt hvb
  clear h hvb
  go_enter Tryz.func50, Tryz.ntmps50
  go_wp2
  go_loopw [6, 10] (fun s i wr => ∃ (k g : Nat) (acc ys' : List Int) (v' : Value), k + g = n ∧ i = .int .i64 k ∧ acc.length = k ∧ wr.ownsRow w.heap.size 42 1 s k (acc.map (Value.int .u64)) ∧ CurAt 51 wr R v' ys' ∧ v'.ownBlock = v.ownBlock ∧ Hid (rVs g acc ys' = rVs n [] ys) ∧ Only (fun k => k = R) w wr) (fun _ i _ => n - (intOf i).toNat)
  case atStart => exact ⟨0, n, [], ys, v, by omega, rfl, rfl, World.ownsRow_nil _ _ _ _, HC.out, rfl, rfl, Only.refl _ _⟩
  case round =>
    obtain ⟨k, g, acc, ys', v', hk, rfl, hal, hown, hcur, hob, HRV, hon⟩ := hrel
    have HOWN := hideIt hown
    have HON := hideIt hon
    have HOB := hideIt hob
    have HAL := hideIt hal
    cases g with
    | succ g =>
      have dlt : decide ((k : Int) < (n : Int)) = true := by simp; omega
      have FX := varint_cur hcur
      rcases sVarint_cases hcur.rng with ⟨c, hs, hc⟩ | ⟨a, q, hs, _, _, ha, _⟩
      · rw [hs] at FX
        have FX := hideIt FX
        have HR := HRV.out
        rw [rVs_stop hs (by omega)] at HR
        have HR := hideIt HR
        have dc : (c != 0) = true := by simp; omega
        clear hown hcur hob hon hs HC hal HRV hc
        go_wp2_with fail
        refine FX.out.mono ?_
        rintro e w2 ⟨rfl, v2, _, _, o2⟩
        have O2 := hideIt (HON.out.trans o2 (fun _ _ e => e))
        clear FX o2 HOWN
        go_wp2
        go_ret2
        rw [← HR.out]
        exact ⟨_, rfl, World.ownsRow_nil _ _ _ _, O2.out⟩
      · rw [hs] at FX
        have FX := hideIt FX
        have HR := HRV.out
        rw [rVs_go hs] at HR
        have HR := hideIt HR
        clear hown hcur hob hon hs HC hal HRV
        go_wp2_with fail
        refine FX.out.mono ?_
        rintro e w2 ⟨rfl, v2, cur2, ob2, o2⟩
        have O2 := hideIt (HON.out.trans o2 (fun _ _ e => e))
        have own2 := o2.own HOWN.out (fun q hq e => by have := (HOWN.out.lt q hq).1; omega)
        have CUR2 := hideIt cur2
        have OB2 := hideIt (ob2.trans HOB.out)
        have hsz := O2.out.size
        clear FX o2 HOWN HON HOB cur2 ob2
        go_wp2_with (at_builtin; refine wpList_append_lies _ rfl _ _ _ rfl w.heap.size 42 i0 (.int .u64 0) 1 8 Tryz.underlying39 hi hz0 hz1 hz2 rfl (by omega) _ k _ rfl (own2.alloc _) ⟨w2.heap.size, 0, none⟩ 1 1 [.int .u64 (a : Int)] rfl rfl ?c1 ?c2 (by omega) ?c3 ?c4 ?c5 (w2.heap.size + 1) (by simp) ?_)
        case c1 => exact cell_one_new _ _ _
        case c2 => intro u hu; simp at hu; subst hu; rfl
        case c3 => unfold maxLen; omega
        case c4 => omega
        case c5 => simp; omega
        intro gg cap1 w3 hown1 hgrow hat hg1
        have o3 := hideIt (((Only.refl (fun q => w.heap.size ≤ q) w2).alloc _).grown hgrow (fun p _ hp => (own2.lt p hp).1))
        have own3 : Hid (w3.ownsRow w.heap.size 42 1 (.slice (some ⟨gg, 0, none⟩) (k + 1) cap1) (k + 1) ((acc ++ [(a : Int)]).map (Value.int .u64))) := by
          simp only [Hid]
          rw [List.map_append]; exact hown1
        clear own2 hown1 hgrow hat
        go_wp2
        go_roundw
        case rel =>
          refine ⟨k + 1, g, acc ++ [(a : Int)], _, v2, by omega, by go_num, by simp [HAL.out], own3.out, CUR2.out.keep o3.out (by omega) (fun q hq e => ?_), OB2.out, HR.out, O2.out.trans o3.out (fun q hq e => absurd e (by omega))⟩
          rw [OB2.out] at hq
          have := HVB.out q hq
          omega
        case measure => simp [intOf]; omega
    | zero =>
      obtain rfl : k = n := by omega
      have dlt : decide ((k : Int) < (k : Int)) = false := by simp
      have HR : Hid (rVs k [] ys = (acc, ys', 0)) := HRV.out.symm
      clear hown hcur hob hon HC hal HRV
      go_wp2
      go_ret2
      rw [HR.out]
      refine ⟨_, rfl, ?_, HON.out⟩
      simp only [HAL.out]
      exact HOWN.out

set_option maxHeartbeats 800000 in
set_option maxRecDepth 100000 in
/-- ZAGS: of a first one and of others. -/
theorem zags_any (x : Int) (v : Value) (l : List Int) (w : World) (h : Bs .u64 w v l) (hu : U64 l) (hl : l.length ≤ 65536) (x0 : 0 ≤ x) (x1 : x ≤ 18446744073709551615) :
    Calls Tryz.prog 27 #[.int .u64 x, v] w fun e w' => ∃ u, e = .returned u ∧ w'.ownsRow w.heap.size 3 1 u (l.length + 1) ((zag x :: zgn l).map (Value.int .i64)) ∧ Only (fun _ => False) w w' := by
  obtain ⟨i0, hi, hz0, hz1, hz2⟩ := info_parts Tryz.infoI64
  have ZX := hideIt (zag_any x w x0 x1)
  have HB := hideIt h
  have HU := hideIt hu
  obtain ⟨ao, cap, rfl⟩ := h.len
  obtain ⟨n, hn⟩ : ∃ n, n = l.length := ⟨_, rfl⟩
  rw [← hn] at hl HB
  rw [← hn]
  have HN := hideIt hn
  have START := hideIt (World.ownsRow_lit (base := w.heap.size) (e := 3) (size := 1) w #[.int .i64 (zag x)] 1 (Nat.le_refl _) (by unfold maxLen; omega) rfl)
  obtain ⟨y, hy⟩ : ∃ y, y = zag x := ⟨_, rfl⟩
  rw [← hy] at ZX START ⊢
  clear h hn hu x0 x1 hy
  go_enter Tryz.func27, Tryz.ntmps27
  go_wp2_with fail
  refine ZX.out.mono ?_
  rintro e w1 ⟨rfl, rfl⟩
  clear ZX
  go_wp2
  go_loopw [5, 13] (fun s i wr => ∃ k : Nat, k ≤ n ∧ i = .int .i64 k ∧ wr.ownsRow w.heap.size 3 1 s (k + 1) ((y :: zgn (l.take k)).map (Value.int .i64)) ∧ Only (fun _ => False) w wr) (fun _ i _ => n - (intOf i).toNat)
  case atStart => exact ⟨0, Nat.zero_le _, rfl, START.out, (Only.refl _ _).alloc _⟩
  case round =>
    obtain ⟨k, hk, rfl, hown, hon⟩ := hrel
    have HOWN := hideIt hown
    have HON := hideIt hon
    clear START
    by_cases hlt : k < n
    · have dlt : decide ((k : Int) < (n : Int)) = true := by simp; omega
      have hkl : k < l.length := by rw [← HN.out]; exact hlt
      obtain ⟨b, off, cap', e1, hc0⟩ := (HB.out.past hon).at k hkl
      have ea : ao = some ⟨b, off, none⟩ := by simp at e1; exact e1.1
      subst ea
      clear e1
      have hx := HU.out (l.getD k 0) (getD_mem0 l k hkl)
      have HST : Hid ((y :: zgn (l.take (k + 1))).map (Value.int .i64) = (y :: zgn (l.take k)).map (Value.int .i64) ++ [.int .i64 (zag (l.getD k 0))]) := by
        simp only [Hid]; rw [take_snoc l k hkl]; simp [zgn]
      have ZK := hideIt (zag_any (l.getD k 0) wr hx.1 hx.2)
      generalize l.getD k 0 = z at *
      have own2 := HOWN.out
      have hsz := HON.out.size
      clear hown hon HB HU hkl hx
      go_wp2_with fail
      refine ZK.out.mono ?_
      rintro e w2 ⟨rfl, rfl⟩
      clear ZK
      generalize zag z = q at *
      go_wp2_with (at_builtin; refine wpList_append_lies _ rfl _ _ _ rfl w.heap.size 3 i0 (.int .i64 0) 1 8 Tryz.underlying24 hi hz0 hz1 hz2 rfl (by omega) _ (k + 1) _ rfl (own2.alloc _) ⟨wr.heap.size, 0, none⟩ 1 1 [.int .i64 q] rfl rfl ?c1 ?c2 (by omega) ?c3 ?c4 ?c5 (wr.heap.size + 1) (by simp) ?_)
      case c1 => exact cell_one_new _ _ _
      case c2 => intro u hu; simp at hu; subst hu; rfl
      case c3 => unfold maxLen; omega
      case c4 => omega
      case c5 => simp; omega
      intro gg cap1 w3 hown1 hgrow hat hg1
      have o3 := hideIt ((HON.out.alloc _).grown hgrow (fun p hp0 hp => absurd (own2.lt p hp).1 (by omega)))
      have own3 : Hid (w3.ownsRow w.heap.size 3 1 (.slice (some ⟨gg, 0, none⟩) (k + 1 + 1) cap1) (k + 1 + 1) ((y :: zgn (l.take (k + 1))).map (Value.int .i64))) := by
        simp only [Hid]
        rw [HST.out]; exact hown1
      clear own2 hown1 hgrow hat
      go_wp2
      go_roundw
      case rel => exact ⟨k + 1, by omega, by go_num, own3.out, o3.out⟩
      case measure => simp [intOf]; omega
    · obtain rfl : k = n := by omega
      have dlt : decide ((k : Int) < (k : Int)) = false := by simp
      have F : Hid (wr.ownsRow w.heap.size 3 1 u5 (k + 1) ((y :: zgn l).map (Value.int .i64))) := by
        have h1 := HOWN.out
        rw [HN.out, List.take_length] at h1
        simp only [Hid]
        rw [HN.out]; exact h1
      clear hown hon
      go_wp2
      go_ret
      exact ⟨_, rfl, F.out, HON.out⟩

theorem sBytes_len (ys : List Int) : sBytes ys.length ys = (ys, ys.length, 0) := by
  unfold sBytes
  rw [if_neg (by omega), if_neg (by omega)]
  simp
set_option maxHeartbeats 400000 in
set_option maxRecDepth 100000 in
/-- WHAT IS LEFT. -/
theorem rest_cur {w : World} {R : Nat} {v : Value} {ys : List Int} (h : CurAt 51 w R v ys) :
    Calls Tryz.prog 47 #[.pointer (some ⟨R, 0, none⟩)] w fun e w' => ∃ u, e = .returned u ∧ Bs .u8 w' u ys ∧ Only (fun k => k = R) w w' := by
  have L := hideIt (Left_cur h)
  have B := bytes_cur h ys.length
  rw [sBytes_len] at B
  have B := hideIt B
  clear h
  go_enter Tryz.func47, Tryz.ntmps47
  go_wp2_with fail
  refine L.out.mono ?_
  rintro e w1 ⟨rfl, rfl⟩
  clear L
  go_wp2_with fail
  refine B.out.mono ?_
  rintro e w2 ⟨u, rfl, bs, _, _, v2, _, _, o2⟩
  have F := hideIt (And.intro bs o2)
  obtain ⟨f1, c1, e1⟩ := bs.len
  subst e1
  clear B bs o2
  go_wp2
  go_ret
  exact ⟨_, rfl, F.out⟩
end Go.Proofs.YtgbimghhdbmjiaaGreat
