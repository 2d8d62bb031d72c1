/- Several texts in one: Im2, Iw, Iw2. -/
import Derived.Test.YtgbimghhdbmjiabG10
import Derived.Test.YtgbimghhdbmjiabG6
import Derived.Test.YtgbimghhdbmjiabG1

/- The shortest way and what is read of it: there and back, one way alone, how long it gets. -/
namespace Go.Proofs.Ytgbimghhdbmjiab
open Go.RowKit

theorem D_i64 {l : List Int} (h : I64s l) (k : Nat) : I64s (D k l) := D_g k l h
theorem zD_u64 {l : List Int} (h : I64s l) (k : Nat) : U64 (zsn (D k l)) := zsn_u64 (D_i64 h k)
theorem zD_length (l : List Int) (k : Nat) : (zsn (D k l)).length = l.length := by rw [zsn_length, D_length]
theorem getD_u64 {l : List Int} (h : U64 l) (hp : 0 < l.length) : 0 ≤ l.getD 0 0 ∧ l.getD 0 0 ≤ 18446744073709551615 := by
  cases l with
  | nil => simp at hp
  | cons a t => exact h a List.mem_cons_self
theorem cons_drop {l : List Int} (hp : 0 < l.length) : l.getD 0 0 :: l.drop 1 = l := by
  cases l with
  | nil => simp at hp
  | cons a t => rfl
theorem tms_le (tag : Nat) : tms tag ≤ 3 := by unfold tms; split <;> omega

theorem WAY_nil (tag : Nat) : WAY [] tag = ([], 0) := by unfold WAY; simp
theorem WAY_zero {l : List Int} : WAY l 0 = (fx l, 0) := by
  unfold WAY
  by_cases h : l = []
  · rw [if_pos h, h]; rfl
  · rw [if_neg h]; rfl
theorem WAY_ok {l : List Int} {tag : Nat} (hne : l ≠ []) (ht : tag ≠ 0) (h : (WAY l tag).2 = 0) :
    (WOTH ((zsn (D (tms tag) l)).drop 1) tag).2 = 0 ∧ WAY l tag = (gs ((zsn (D (tms tag) l)).getD 0 0).toNat ++ (WOTH ((zsn (D (tms tag) l)).drop 1) tag).1, 0) := by
  unfold WAY at *
  rw [if_neg hne, if_neg ht] at h ⊢
  by_cases hw : (WOTH ((zsn (D (tms tag) l)).drop 1) tag).2 ≠ 0
  · rw [if_pos hw] at h; exact absurd h hw
  · rw [if_neg hw]; exact ⟨by simpa using hw, rfl⟩
theorem WAY_err {l : List Int} {tag : Nat} (hl : l.length ≤ 65536) (h : (WAY l tag).2 ≠ 0) : WAY l tag = ([], 1) := by
  unfold WAY at *
  by_cases hne : l = []
  · rw [if_pos hne] at h; exact absurd rfl h
  · rw [if_neg hne] at h ⊢
    by_cases ht : tag = 0
    · rw [if_pos ht] at h; exact absurd rfl h
    · rw [if_neg ht] at h ⊢
      by_cases hw : (WOTH ((zsn (D (tms tag) l)).drop 1) tag).2 ≠ 0
      · rw [if_pos hw]
        rw [WOTH_nil_err (by rw [List.length_drop, zD_length]; omega) hw]
      · rw [if_neg hw] at h; exact absurd rfl h
theorem WAY_byt {l : List Int} (hg : I64s l) (tag : Nat) : Byt (WAY l tag).1 := by
  unfold WAY
  by_cases hne : l = []
  · rw [if_pos hne]; intro y hy; simp at hy
  · rw [if_neg hne]
    by_cases ht : tag = 0
    · rw [if_pos ht]; exact fx_byt l
    · rw [if_neg ht]
      by_cases hw : (WOTH ((zsn (D (tms tag) l)).drop 1) tag).2 ≠ 0
      · rw [if_pos hw]; intro y hy; simp at hy
      · rw [if_neg hw]
        exact byt_app (gs_range _) (WOTH_byt ((zD_u64 hg _).drop 1))
theorem READ_WAY {l : List Int} {tag : Nat} (hg : I64s l) (hl : l.length ≤ 65536) (h : (WAY l tag).2 = 0) : READ (WAY l tag).1 l.length tag = (l, 0) := by
  by_cases hne : l = []
  · subst hne; rfl
  have hp : 0 < l.length := List.length_pos_iff.2 hne
  by_cases ht : tag = 0
  · subst ht
    rw [WAY_zero]
    unfold READ rFx
    rw [if_neg (by omega), if_pos rfl, if_neg (by simp only [fx_length]; omega), fxN_fx hg]
  obtain ⟨hw, e⟩ := WAY_ok hne ht h
  rw [e]
  have hz := zD_u64 hg (tms tag)
  have hzl := zD_length l (tms tag)
  have h0 := getD_u64 hz (by omega)
  have hs := sVarint_gs ((zsn (D (tms tag) l)).getD 0 0).toNat (WOTH ((zsn (D (tms tag) l)).drop 1) tag).1 (by omega)
  have hb := OTH_back (hz.drop 1) (by rw [List.length_drop]; omega) hw
  rw [List.length_drop, hzl] at hb
  unfold READ
  rw [if_neg (by omega), if_neg ht]
  simp only [hs, ne_eq, not_true_eq_false, if_false, List.drop_left, hb]
  rw [Int.toNat_of_nonneg h0.1]
  have e2 : zag ((zsn (D (tms tag) l)).getD 0 0) :: zgn ((zsn (D (tms tag) l)).drop 1) = zgn ((zsn (D (tms tag) l)).getD 0 0 :: (zsn (D (tms tag) l)).drop 1) := rfl
  rw [e2, cons_drop (by omega), zgn_zsn, S_D _ _ hg]
theorem WAY_more {l m r : List Int} {tag : Nat} (hg : I64s l) (hg' : I64s m) (hl : l.length ≤ 65536) (hlen : m.length = l.length) (h : (WAY l tag).2 = 0) (h' : (WAY m tag).2 = 0) (e : (WAY m tag).1 = (WAY l tag).1 ++ r) : r = [] := by
  by_cases hne : l = []
  · subst hne
    have : m = [] := List.eq_nil_of_length_eq_zero hlen
    subst this
    rw [WAY_nil] at e
    simpa using e.symm
  have hp : 0 < l.length := List.length_pos_iff.2 hne
  have hne' : m ≠ [] := List.length_pos_iff.1 (by omega)
  by_cases ht : tag = 0
  · subst ht
    rw [WAY_zero, WAY_zero] at e
    have := congrArg List.length e
    rw [List.length_append, fx_length, fx_length] at this
    exact List.eq_nil_of_length_eq_zero (by omega)
  obtain ⟨hw, e1⟩ := WAY_ok hne ht h
  obtain ⟨hw', e1'⟩ := WAY_ok hne' ht h'
  have hz := zD_u64 hg (tms tag)
  have hz' := zD_u64 hg' (tms tag)
  have hzl := zD_length l (tms tag)
  have hzl' := zD_length m (tms tag)
  have h0 := getD_u64 hz (by omega)
  have h0' := getD_u64 hz' (by omega)
  rw [e1, e1'] at e
  simp only [List.append_assoc] at e
  have s1 := sVarint_gs ((zsn (D (tms tag) m)).getD 0 0).toNat (WOTH ((zsn (D (tms tag) m)).drop 1) tag).1 (by omega)
  rw [e, sVarint_gs _ _ (by omega)] at s1
  have s2 := congrArg (fun p => p.1) s1
  simp only at s2
  have s3 : ((zsn (D (tms tag) l)).getD 0 0).toNat = ((zsn (D (tms tag) m)).getD 0 0).toNat := by omega
  rw [s3] at e
  have e3 := List.append_cancel_left e
  exact WOTH_more (hz.drop 1) (hz'.drop 1) (by rw [List.length_drop]; omega) (by rw [List.length_drop, List.length_drop]; omega) hw hw' e3
theorem READ_ok {ys : List Int} {n tag : Nat} (hr : Byt ys) (h : (READ ys n tag).2 = 0) : I64s (READ ys n tag).1 ∧ (READ ys n tag).1.length = n := by
  unfold READ at *
  by_cases hn : n = 0
  · rw [if_pos hn]; exact ⟨fun x hx => by simp at hx, by simp [hn]⟩
  · rw [if_neg hn] at h ⊢
    by_cases ht : tag = 0
    · rw [if_pos ht] at h ⊢
      unfold rFx at *
      by_cases hl : ys.length < 8 * n
      · rw [if_pos hl] at h; cases h
      · rw [if_neg hl]
        refine ⟨fun x hx => ?_, by simp [fxN]⟩
        simp only [List.mem_map] at hx
        obtain ⟨y, _, rfl⟩ := hx
        exact s64_g y
    · rw [if_neg ht] at h ⊢
      by_cases hv : (sVarint ys).2.2 ≠ 0
      · rw [if_pos hv] at h; exact absurd h hv
      · rw [if_neg hv] at h ⊢
        by_cases ho : (OTH (ys.drop (sVarint ys).2.1) (n - 1) tag).2 ≠ 0
        · rw [if_pos ho] at h; exact absurd h ho
        · rw [if_neg ho]
          have ho' : (OTH (ys.drop (sVarint ys).2.1) (n - 1) tag).2 = 0 := by simpa using ho
          obtain ⟨hu, hlen⟩ := OTH_only (fun y hy => hr y (List.mem_of_mem_drop hy)) ho'
          refine ⟨S_g _ _ (fun x hx => ?_), ?_⟩
          · rcases List.mem_cons.1 hx with rfl | hx
            · rcases sVarint_cases hr with ⟨c, h1, hc⟩ | ⟨a, k, h1, _, _, h3, _⟩
              · rw [h1] at hv; exact absurd (by simp only; omega) hv
              · rw [h1]; exact zag_bounds a (by omega) (by omega)
            · exact zgn_i64 hu x hx
          · simp only [S_length, List.length_cons, zgn_length, hlen]; omega
theorem READ_err {ys : List Int} {n tag : Nat} (h : (READ ys n tag).2 ≠ 0) : (READ ys n tag).1 = [] := by
  unfold READ at *
  by_cases hn : n = 0
  · rw [if_pos hn]
  · rw [if_neg hn] at h ⊢
    by_cases ht : tag = 0
    · rw [if_pos ht] at h ⊢
      unfold rFx at *
      by_cases hl : ys.length < 8 * n
      · rw [if_pos hl]; rfl
      · rw [if_neg hl] at h; exact absurd rfl h
    · rw [if_neg ht] at h ⊢
      by_cases hv : (sVarint ys).2.2 ≠ 0
      · rw [if_pos hv]
      · rw [if_neg hv] at h ⊢
        by_cases ho : (OTH (ys.drop (sVarint ys).2.1) (n - 1) tag).2 ≠ 0
        · rw [if_pos ho]
        · rw [if_neg ho] at h; exact absurd rfl h

/-! the shortest way -/
theorem pick_spec (l : List Int) : ∀ t, (pick l t).1 ≤ t ∧ WAY l (pick l t).1 = ((pick l t).2, 0) ∧ ∀ s, s ≤ t → (WAY l s).2 = 0 → (pick l t).2.length ≤ (WAY l s).1.length
  | 0 => by
    refine ⟨Nat.le_refl _, ?_, fun s hs _ => ?_⟩
    · show WAY l 0 = ((WAY l 0).1, 0)
      rw [WAY_zero]
    · have : s = 0 := by omega
      subst this; exact Nat.le_refl _
  | t + 1 => by
    obtain ⟨h1, h2, h3⟩ := pick_spec l t
    rw [pick]
    by_cases hc : (WAY l (t + 1)).2 = 0 ∧ (WAY l (t + 1)).1.length < (pick l t).2.length
    · rw [if_pos hc]
      refine ⟨Nat.le_refl _, by rw [← hc.1], fun s hs h0 => ?_⟩
      rcases Nat.lt_or_ge s (t + 1) with h | h
      · have := h3 s (by omega) h0; simp only; omega
      · have : s = t + 1 := by omega
        subst this; exact Nat.le_refl _
    · rw [if_neg hc]
      refine ⟨by omega, h2, fun s hs h0 => ?_⟩
      rcases Nat.lt_or_ge s (t + 1) with h | h
      · exact h3 s (by omega) h0
      · have : s = t + 1 := by omega
        subst this
        rcases Nat.lt_or_ge (WAY l (t + 1)).1.length (pick l t).2.length with h4 | h4
        · exact absurd ⟨h0, h4⟩ hc
        · exact h4
theorem ENC8_of {l : List Int} (hl : l.length ≤ 65536) : ENC8 l = (((pick l 4).1 : Int) :: (pick l 4).2, 0) := if_neg (by omega)
theorem ENC8_len {l : List Int} (hl : l.length ≤ 65536) : (ENC8 l).1.length ≤ 1 + 8 * l.length ∧ 0 < (ENC8 l).1.length := by
  rw [ENC8_of hl]
  have h := (pick_spec l 4).2.2 0 (by omega) (by rw [WAY_zero])
  rw [WAY_zero] at h
  simp only [fx_length] at h
  simp only [List.length_cons]
  omega
theorem ENC8_byt {l : List Int} (hg : I64s l) : Byt (ENC8 l).1 := by
  unfold ENC8
  by_cases hl : 65536 < l.length
  · rw [if_pos hl]; intro y hy; simp at hy
  · rw [if_neg hl]
    obtain ⟨h1, h2, _⟩ := pick_spec l 4
    intro y hy
    rcases List.mem_cons.1 hy with rfl | hy
    · omega
    · have := WAY_byt hg (pick l 4).1
      rw [h2] at this
      exact this y hy
theorem WAY8_nat {l : List Int} (hl : l.length ≤ 65536) (t : Nat) (ht : t ≤ 4) : WAY8 l t = WAY l t := by
  unfold WAY8
  rw [if_neg (by omega), if_neg (by omega)]
  rfl
theorem ENC8_min {l : List Int} (hl : l.length ≤ 65536) {tag : Int} (h : (WAY8 l tag).2 = 0) : (ENC8 l).1.length ≤ (WAY8 l tag).1.length + 1 := by
  unfold WAY8 at *
  by_cases ht : tag < 0 ∨ 4 < tag
  · rw [if_pos ht] at h; cases h
  · rw [if_neg ht, if_neg (by omega)] at h ⊢
    rw [ENC8_of hl]
    have := (pick_spec l 4).2.2 tag.toNat (by omega) h
    simp only [List.length_cons]
    omega
theorem ENC8_more {l m r : List Int} (hg : I64s l) (hg' : I64s m) (hl : l.length ≤ 65536) (hlen : m.length = l.length) (e : (ENC8 m).1 = (ENC8 l).1 ++ r) : r = [] := by
  rw [ENC8_of hl, ENC8_of (by omega)] at e
  simp only [List.cons_append, List.cons.injEq] at e
  obtain ⟨e1, e2⟩ := e
  have e1' : (pick m 4).1 = (pick l 4).1 := by omega
  have h := (pick_spec l 4).2.1
  have h' := (pick_spec m 4).2.1
  rw [e1'] at h'
  exact WAY_more (tag := (pick l 4).1) hg hg' hl hlen (by rw [h]) (by rw [h']) (by rw [h, h', e2])
theorem DEC8_ENC8 {l : List Int} (hg : I64s l) (hl : l.length ≤ 65536) : DEC8 (ENC8 l).1 l.length = (l, 0) := by
  have he := ENC8_of hl
  obtain ⟨h1, h2, _⟩ := pick_spec l 4
  have hR := READ_WAY hg hl (tag := (pick l 4).1) (by rw [h2])
  rw [h2] at hR
  unfold DEC8
  rw [if_neg (by omega)]
  rw [he]
  simp only [List.drop_succ_cons, List.drop_zero, List.getD_cons_zero, Int.toNat_natCast, hR]
  rw [if_neg (by simp), if_neg (by omega), if_neg (by simp), if_pos (by rw [he])]
theorem DEC8_ok {b : List Int} {n : Int} (hr : Byt b) (h : (DEC8 b n).2 = 0) : 0 ≤ n ∧ n ≤ 65536 ∧ ((DEC8 b n).1.length : Int) = n ∧ I64s (DEC8 b n).1 ∧ (ENC8 (DEC8 b n).1) = (b, 0) := by
  unfold DEC8 at *
  by_cases hn : n < 0 ∨ 65536 < n
  · rw [if_pos hn] at h; cases h
  · rw [if_neg hn] at h ⊢
    by_cases hb : b = []
    · rw [if_pos hb] at h; cases h
    · rw [if_neg hb] at h ⊢
      by_cases h4 : 4 < b.getD 0 0
      · rw [if_pos h4] at h; cases h
      · rw [if_neg h4] at h ⊢
        by_cases hR : (READ (b.drop 1) n.toNat (b.getD 0 0).toNat).2 ≠ 0
        · rw [if_pos hR] at h; exact absurd h hR
        · rw [if_neg hR] at h ⊢
          by_cases hE : (ENC8 (READ (b.drop 1) n.toNat (b.getD 0 0).toNat).1).1 = b
          · rw [if_pos hE]
            obtain ⟨hg, hlen⟩ := READ_ok (fun y hy => hr y (List.mem_of_mem_drop hy)) (show (READ (b.drop 1) n.toNat (b.getD 0 0).toNat).2 = 0 by simpa using hR)
            refine ⟨by omega, by omega, by simp only [hlen]; omega, hg, ?_⟩
            have := ENC8_of (l := (READ (b.drop 1) n.toNat (b.getD 0 0).toNat).1) (by rw [hlen]; omega)
            rw [this] at hE ⊢
            simp only at hE
            simp only [hE]
          · rw [if_neg hE] at h; cases h
theorem DEC8_err {b : List Int} {n : Int} (h : (DEC8 b n).2 ≠ 0) : (DEC8 b n).1 = [] := by
  unfold DEC8 at *
  by_cases hn : n < 0 ∨ 65536 < n
  · rw [if_pos hn]
  · rw [if_neg hn] at h ⊢
    by_cases hb : b = []
    · rw [if_pos hb]
    · rw [if_neg hb] at h ⊢
      by_cases h4 : 4 < b.getD 0 0
      · rw [if_pos h4]
      · rw [if_neg h4] at h ⊢
        by_cases hR : (READ (b.drop 1) n.toNat (b.getD 0 0).toNat).2 ≠ 0
        · rw [if_pos hR]
        · rw [if_neg hR] at h ⊢
          by_cases hE : (ENC8 (READ (b.drop 1) n.toNat (b.getD 0 0).toNat).1).1 = b
          · rw [if_pos hE] at h; exact absurd rfl h
          · rw [if_neg hE]
theorem DEC8_more {l r : List Int} (hg : I64s l) (hl : l.length ≤ 65536) (hr : Byt r) (hne : r ≠ []) : (DEC8 ((ENC8 l).1 ++ r) l.length).2 ≠ 0 := by
  intro h
  obtain ⟨_, _, h1, h2, h3⟩ := DEC8_ok (byt_app (ENC8_byt hg) hr) h
  exact hne (ENC8_more hg h2 hl (by omega) (by rw [h3]))
theorem DEC8_cut {l : List Int} {k : Nat} (hg : I64s l) (hl : l.length ≤ 65536) (hk : k < (ENC8 l).1.length) : (DEC8 ((ENC8 l).1.take k) l.length).2 ≠ 0 := by
  intro h
  obtain ⟨_, _, h1, h2, h3⟩ := DEC8_ok (fun y hy => ENC8_byt hg y (List.mem_of_mem_take hy)) h
  have h4 : (ENC8 l).1 = (ENC8 (DEC8 ((ENC8 l).1.take k) l.length).1).1 ++ (ENC8 l).1.drop k := by rw [h3]; exact (List.take_append_drop k _).symm
  have h5 := ENC8_more h2 hg (by omega) (by omega) h4
  have := congrArg List.length h5
  rw [List.length_drop] at this
  simp at this
  omega
/-- ints that lie equally far apart -/
theorem ENC8_even (s x : Int) (n : Nat) (hs : G64 s) (hx : G64 x) (hn : n ≤ 65536) : (ENC8 (ap s x n)).1.length ≤ 27 := by
  have hl := ap_length s x n
  have hg := ap_g s x n hx
  rw [ENC8_of (by omega)]
  simp only [List.length_cons]
  rcases n with _ | _ | n
  · have h := (pick_spec (ap s x 0) 4).2.2 0 (by omega) (by rw [WAY_zero])
    rw [WAY_zero] at h
    simp only [fx_length, ap_length] at h
    omega
  · have h := (pick_spec (ap s x 1) 4).2.2 0 (by omega) (by rw [WAY_zero])
    rw [WAY_zero] at h
    simp only [fx_length, ap_length] at h
    simp only [Nat.zero_add] at *
    omega
  · have hD : D 1 (ap s x (n + 2)) = x :: List.replicate (n + 1) s := by
      show bh (dif 0) 0 (D 0 (ap s x (n + 2))) = _
      have e : ap s x (n + 2) = x :: ap s (wrap64 (x + s)) (n + 1) := rfl
      show ([] : List Int) ++ dif 0 (ap s x (n + 2)) = _
      rw [List.nil_append, e, dif, dif_ap s x (n + 1) hs, Int.sub_zero, w64_id hx]
    have hz : zsn (D (tms 2) (ap s x (n + 2))) = zig x :: List.replicate (n + 1) (zig s) := by
      show zsn (D 1 (ap s x (n + 2))) = _
      rw [hD]; simp [zsn]
    have hx' := zig_bounds x hx.1 hx.2
    have hs' := zig_bounds s hs.1 hs.2
    have hW : WAY (ap s x (n + 2)) 2 = (gs (zig x).toNat ++ (gs (zig s).toNat ++ [0]), 0) := by
      unfold WAY
      rw [if_neg (by intro h; simp [ap] at h), if_neg (by omega), hz]
      have e1 : WOTH ((zig x :: List.replicate (n + 1) (zig s)).drop 1) 2 = (gs (zig s).toNat ++ [0], 0) := by
        unfold WOTH
        rw [if_pos rfl]
        rw [List.drop_succ_cons, List.drop_zero, pk_rep]
      rw [e1]
      rfl
    have h := (pick_spec (ap s x (n + 2)) 4).2.2 2 (by omega) (by rw [hW])
    rw [hW] at h
    have g1 := gs_le10 (v := (zig x).toNat) (by omega)
    have g2 := gs_le10 (v := (zig s).toNat) (by omega)
    simp only [List.length_append, List.length_cons, List.length_nil] at h
    show (pick (ap s x (n + 2)) 4).2.length + 1 ≤ 27
    omega

theorem ENC8_ex : ENC8 [10, 20, 30, 40] = ([2, 20, 20, 0], 0) := by decide +kernel
theorem i64_ex : I64s [10, 20, 30, 40] := by intro x hx; simp at hx; unfold G64; omega
theorem DEC8_ex : DEC8 [2, 20, 20, 0] 4 = ([10, 20, 30, 40], 0) := by
  have := DEC8_ENC8 i64_ex (by decide)
  rw [ENC8_ex] at this
  exact this
end Go.Proofs.Ytgbimghhdbmjiab

/- Package intcodec: the parts of a way: tags, eight bytes each, Zigs, varints. -/
namespace Go.Proofs.Ytgbimghhdbmjiab
open Go.RowKit

set_option maxHeartbeats 400000 in
set_option maxRecDepth 100000 in
theorem istag_yes (t : Int) (w : World) (h0 : 0 ≤ t) (h1 : t ≤ 4) : Calls Try.prog 13 #[.int .i64 t] w fun e w' => e = .returned (.bool true) ∧ w = w' := by
  have d0 : decide (0 ≤ t) = true := decide_eq_true h0
  have d1 : decide (t < 5) = true := decide_eq_true (by omega)
  clear h0 h1
  go_enter Try.func13, Try.ntmps13
  go_wp2
  go_ret
  exact ⟨rfl, rfl⟩
set_option maxHeartbeats 400000 in
set_option maxRecDepth 100000 in
theorem istag_no (t : Int) (w : World) (h : t < 0 ∨ 4 < t) : Calls Try.prog 13 #[.int .i64 t] w fun e w' => e = .returned (.bool false) ∧ w = w' := by
  by_cases h0 : t < 0
  · have d0 : decide (0 ≤ t) = false := decide_eq_false (by omega)
    clear h0 h
    go_enter Try.func13, Try.ntmps13
    go_wp2
    go_ret
    exact ⟨rfl, rfl⟩
  · have d0 : decide (0 ≤ t) = true := decide_eq_true (by omega)
    have d1 : decide (t < 5) = false := decide_eq_false (by omega)
    clear h0 h
    go_enter Try.func13, Try.ntmps13
    go_wp2
    go_ret
    exact ⟨rfl, rfl⟩

set_option maxHeartbeats 400000 in
set_option maxRecDepth 100000 in
theorem times_one (w : World) : Calls Try.prog 18 #[.int .i64 1] w fun e w' => e = .returned (.int .i64 1) ∧ w = w' := by
  go_enter Try.func18, Try.ntmps18
  go_wp2
  go_ret
  exact ⟨rfl, rfl⟩
set_option maxHeartbeats 400000 in
set_option maxRecDepth 100000 in
theorem times_two (w : World) : Calls Try.prog 18 #[.int .i64 2] w fun e w' => e = .returned (.int .i64 1) ∧ w = w' := by
  go_enter Try.func18, Try.ntmps18
  go_wp2
  go_ret
  exact ⟨rfl, rfl⟩
set_option maxHeartbeats 400000 in
set_option maxRecDepth 100000 in
theorem times_three (w : World) : Calls Try.prog 18 #[.int .i64 3] w fun e w' => e = .returned (.int .i64 2) ∧ w = w' := by
  go_enter Try.func18, Try.ntmps18
  go_wp2
  go_ret
  exact ⟨rfl, rfl⟩
set_option maxHeartbeats 400000 in
set_option maxRecDepth 100000 in
theorem times_four (w : World) : Calls Try.prog 18 #[.int .i64 4] w fun e w' => e = .returned (.int .i64 2) ∧ w = w' := by
  go_enter Try.func18, Try.ntmps18
  go_wp2
  go_ret
  exact ⟨rfl, rfl⟩
theorem times_any (t : Nat) (w : World) (h0 : 1 ≤ t) (h1 : t ≤ 4) : Calls Try.prog 18 #[.int .i64 t] w fun e w' => e = .returned (.int .i64 (tms t)) ∧ w = w' := by
  rcases t with _ | _ | _ | _ | _ | t
  · omega
  · exact times_one w
  · exact times_two w
  · exact times_three w
  · exact times_four w
  · omega

theorem fx_take (l : List Int) (k : Nat) (h : k < l.length) : fx (l.take (k + 1)) = fx (l.take k) ++ fixL (u64o (l.getD k 0)) 8 := by
  rw [take_snoc l k h, fx_snoc]

set_option maxHeartbeats 400000 in
set_option maxRecDepth 100000 in
/-- INTS in eight bytes each: new memory. -/
theorem fixed_any (v : Value) (l : List Int) (w : World) (h : Bs .i64 w v l) (hl : l.length ≤ 65536) :
    Calls Try.prog 16 #[v] w fun e w' => ∃ u, e = .returned u ∧ w'.ownsRow w.heap.size 5 1 u (fx l).length ((fx l).map (Value.int .u8)) ∧ Only (fun _ => False) w w' := by
  obtain ⟨i0, hi, hz0, hz1, hz2⟩ := info_parts Try.infoU8
  have HB := hideIt h
  obtain ⟨ao, cap, rfl⟩ := h.len
  obtain ⟨n, hn⟩ : ∃ n, n = l.length := ⟨_, rfl⟩
  rw [← hn] at hl HB
  rw [← hn]
  have HN := hideIt hn
  clear h hn
  go_enter Try.func16, Try.ntmps16
  go_wp2
  go_loopw [3, 8] (fun s i wr => ∃ k : Nat, k ≤ n ∧ i = .int .i64 k ∧ wr.ownsRow w.heap.size 5 1 s (fx (l.take k)).length ((fx (l.take k)).map (Value.int .u8)) ∧ Only (fun _ => False) w wr) (fun _ i _ => n - (intOf i).toNat)
  case atStart => exact ⟨0, Nat.zero_le _, rfl, World.ownsRow_nil _ _ _ _, Only.refl _ _⟩
  case round =>
    obtain ⟨k, hk, rfl, hown, hon⟩ := hrel
    have HOWN := hideIt hown
    have HON := hideIt hon
    by_cases hlt : k < n
    · have dlt : decide ((k : Int) < (n : Int)) = true := by simp; omega
      obtain ⟨b, off, cap', e1, hc0⟩ := (HB.out.past hon).at k (by rw [← HN.out]; exact hlt)
      have ea : ao = some ⟨b, off, none⟩ := by simp at e1; exact e1.1
      subst ea
      clear e1
      have HST := hideIt (fx_take l k (by rw [← HN.out]; exact hlt))
      have HFL : Hid ((fx (l.take k)).length ≤ 8 * n) := by
        simp only [Hid]; rw [fx_length, List.length_take]; omega
      obtain ⟨f1, hf1⟩ : ∃ f1, f1 = fx (l.take (k + 1)) := ⟨_, rfl⟩
      rw [← hf1] at HST
      have HF1 := hideIt hf1
      clear hf1
      generalize fx (l.take k) = f0 at *
      generalize l.getD k 0 = x at *
      clear hown hon HB
      go_wp2_with fail
      refine (fix_any _ 8 wr (by omega)).mono ?_
      rintro e w4 ⟨u, rfl, own4, o4⟩
      rw [IntKind.wrap_u64] at own4
      have ow := o4.own HOWN.out (fun _ _ f => f)
      have hb4 := Bs.of_own own4
      have NC4 := hideIt (NoCap.of_own own4)
      have HB4 := hideIt hb4
      have hs4 : w.heap.size ≤ w4.heap.size := Nat.le_trans HON.out.size o4.size
      have O4 := hideIt (HON.out.trans o4 (fun _ _ f => f))
      obtain ⟨a4, c4, e4⟩ := hb4.len
      subst e4
      clear o4 own4 HON HOWN hb4
      rw [fixL_len] at HB4 NC4
      go_wp2_with (at_builtin; refine wpList_append_bs _ rfl _ _ _ rfl w.heap.size 5 i0 (.int .u8 0) 1 Try.underlying24 hi hz0 hz1 hz2 rfl _ _ _ rfl ow .u8 _ (fixL (x % 18446744073709551616) 8) rfl HB4.out NC4.out ?c3 ?c4 hs4 ?_)
      case c3 => have := HFL.out; rw [fixL_len]; unfold maxLen; omega
      case c4 => have := HFL.out; rw [fixL_len]; omega
      intro v6 w6 own6 hgrow6 _ _
      have OWN6 : Hid (w6.ownsRow w.heap.size 5 1 v6 f1.length (f1.map (Value.int .u8))) := by
        simp only [Hid]; rw [HST.out, List.length_append, List.map_append]; exact own6
      have O6 := hideIt (O4.out.grown hgrow6 (fun k hk e => absurd (ow.lt k e).1 (by omega)))
      clear ow own6 hgrow6
      go_wp2
      go_roundw
      case rel => exact ⟨k + 1, by omega, by go_num, by rw [← HF1.out]; exact OWN6.out, O6.out⟩
      case measure => simp [intOf]; omega
    · obtain rfl : k = n := by omega
      have dlt : decide ((k : Int) < (k : Int)) = false := by simp
      rw [HN.out, List.take_length] at HOWN
      clear hown hon
      go_wp2
      go_ret
      exact ⟨_, rfl, HOWN.out, HON.out⟩

/-- the first k Zigs, and 0 for the others -/
def zpart (l : List Int) (n k : Nat) : List Int := zsn (l.take k) ++ List.replicate (n - k) 0
theorem zpart_len (l : List Int) (k : Nat) (hk : k ≤ l.length) : (zpart l l.length k).length = l.length := by
  simp only [zpart, List.length_append, zsn_length, List.length_take, List.length_replicate]; omega
theorem zpart_zero (l : List Int) (n : Nat) : (zpart l n 0).map (Value.int .u64) = (madeCells #[Value.int .u64 0] (n * 1)).toList := by
  apply List.ext_getElem?
  intro i
  by_cases h : i < n
  · simp [zpart, zsn, madeCells, h, Nat.mod_one]
  · simp [zpart, zsn, madeCells, h]
theorem zpart_all (l : List Int) : zpart l l.length l.length = zsn l := by simp [zpart]
theorem zpart_step (l : List Int) (k : Nat) (h : k < l.length) : (zpart l l.length k).set k (zig (l.getD k 0)) = zpart l l.length (k + 1) := by
  unfold zpart
  have hlen : (zsn (l.take k)).length = k := by rw [zsn_length, List.length_take]; omega
  rw [show l.length - k = (l.length - (k + 1)) + 1 by omega, List.replicate_succ, List.set_append_right _ _ (by omega), hlen, Nat.sub_self, List.set_cons_zero, take_snoc l k h]
  simp [zsn]

set_option maxHeartbeats 400000 in
set_option maxRecDepth 100000 in
/-- ZIGS: new memory. -/
theorem zigs_any (v : Value) (l : List Int) (w : World) (h : Bs .i64 w v l) (hg : I64s l) (hl : l.length ≤ 65536) :
    Calls Try.prog 20 #[v] w fun e w' => ∃ u, e = .returned u ∧ w'.ownsRow w.heap.size 48 1 u (zsn l).length ((zsn l).map (Value.int .u64)) ∧ Only (fun _ => False) w w' := by
  obtain ⟨i0, hi, hz0, hz1, hz2⟩ := info_parts Try.infoU64
  have HB := hideIt h
  have HG := hideIt hg
  obtain ⟨ao, cap, rfl⟩ := h.len
  obtain ⟨n, hn⟩ : ∃ n, n = l.length := ⟨_, rfl⟩
  rw [← hn] at hl HB
  rw [← hn]
  have HN := hideIt hn
  obtain ⟨wm, hmk, hown0, hgr⟩ := run_make_full (P := Try.prog) w w.heap.size 45 48 i0 (.int .u64 0) 1 Try.underlying45 hi hz0 hz1 .i64 .i64 n (by rw [hz2]; omega) (by unfold maxLen; omega) (Nat.le_refl _)
  have START : Hid (wm.ownsRow w.heap.size 48 1 (.slice (some ⟨w.heap.size, 0, none⟩) n n) n ((zpart l n 0).map (Value.int .u64)) ∧ Only (fun _ => False) w wm) := by
    rw [show (Value.int .u64 0).cells = #[Value.int .u64 0] from rfl] at hown0
    rw [zpart_zero]
    exact ⟨hown0, (Only.refl _ _).grown hgr (fun _ _ e => by cases e)⟩
  clear hown0 hgr
  obtain ⟨N, hN⟩ : ∃ N, N = w.heap.size := ⟨_, rfl⟩
  rw [← hN] at hmk START
  rw [← hN]
  have HNN := hideIt hN
  clear h hn hN hg
  go_enter Try.func20, Try.ntmps20
  go_wp2
  go_loopw [11] (fun i wr => ∃ k : Nat, k ≤ n ∧ i = .int .i64 k ∧ wr.ownsRow N 48 1 (.slice (some ⟨N, 0, none⟩) n n) n ((zpart l n k).map (Value.int .u64)) ∧ Only (fun _ => False) w wr) (fun i _ => n - (intOf i).toNat)
  case atStart => exact ⟨0, Nat.zero_le _, rfl, START.out.1, START.out.2⟩
  case round =>
    obtain ⟨k, hk, rfl, hown, hon⟩ := hrel
    clear START hmk
    have HOWN := hideIt hown
    have HON := hideIt hon
    by_cases hlt : k < n
    · have dlt : decide ((k : Int) < (n : Int)) = true := by simp; omega
      have hkl : k < l.length := by rw [← HN.out]; exact hlt
      obtain ⟨b, off, cap', e1, hc0⟩ := (HB.out.past hon).at k hkl
      have ea : ao = some ⟨b, off, none⟩ := by simp at e1; exact e1.1
      subst ea
      clear e1
      have hx := HG.out (l.getD k 0) (getD_mem0 l k hkl)
      have hcell : ∃ y, wr.cell? ⟨N, k, none⟩ = some (.int .u64 y) := by
        have hz := zpart_len l k (by omega)
        rw [← HN.out] at hz
        refine ⟨(zpart l n k).getD k 0, ?_⟩
        rw [hown.cellAt k (by omega), List.getElem?_map, List.getElem?_eq_getElem (by rw [hz]; omega), List.getD_eq_getElem?_getD, List.getElem?_eq_getElem (by rw [hz]; omega)]
        rfl
      obtain ⟨y, hy⟩ := hcell
      have hfr : wr.frozen? ⟨N, k, none⟩ = false := hown.frozenAt _
      have hstep : Hid (((zpart l n k).map (Value.int .u64)).set k (.int .u64 (zig (l.getD k 0))) = (zpart l n (k + 1)).map (Value.int .u64)) := by
        simp only [Hid]; rw [← List.map_set, HN.out, zpart_step l k hkl]
      generalize l.getD k 0 = x at *
      clear hown hon HB HG hkl
      go_wp2_with fail
      refine (zig_any x wr hx.1 hx.2).mono ?_
      rintro e w1 ⟨rfl, rfl⟩
      go_wp2
      go_roundw
      case rel =>
        refine ⟨k + 1, by omega, by go_num, ?_, ?_⟩
        · have h1 := (HOWN.out.stored k (.int .u64 (zig x))).1
          rw [hstep.out] at h1
          exact h1
        · refine HON.out.setCell (fun hb => ?_) _
          have := HNN.out
          simp only at hb
          omega
      case measure => simp [intOf]; omega
    · obtain rfl : k = n := by omega
      have dlt : decide ((k : Int) < (k : Int)) = false := by simp
      have F : Hid (wr.ownsRow N 48 1 (.slice (some ⟨N, 0, none⟩) k k) (zsn l).length ((zsn l).map (Value.int .u64))) := by
        have h1 := HOWN.out
        have hk' := HN.out
        simp only [Hid]
        rw [zsn_length, ← hk']
        rw [show zpart l k k = zsn l by rw [hk']; exact zpart_all l] at h1
        exact h1
      clear hown hon
      go_wp2
      go_ret
      exact ⟨_, rfl, F.out, HON.out⟩

set_option maxHeartbeats 400000 in
set_option maxRecDepth 100000 in
/-- VARINTS, one behind the other: new memory. -/
theorem varints_any (v : Value) (l : List Int) (w : World) (h : Bs .u64 w v l) (hu : U64 l) (hl : l.length ≤ 65536) :
    Calls Try.prog 39 #[v] w fun e w' => ∃ u, e = .returned u ∧ w'.ownsRow w.heap.size 5 1 u (allG l).length ((allG l).map (Value.int .u8)) ∧ Only (fun _ => False) w w' := by
  obtain ⟨i0, hi, hz0, hz1, hz2⟩ := info_parts Try.infoU8
  have HB := hideIt h
  have HU := hideIt hu
  obtain ⟨ao, cap, rfl⟩ := h.len
  obtain ⟨n, hn⟩ : ∃ n, n = l.length := ⟨_, rfl⟩
  rw [← hn] at hl HB
  rw [← hn]
  have HN := hideIt hn
  clear h hn hu
  go_enter Try.func39, Try.ntmps39
  go_wp2
  go_loopw [3, 8] (fun s i wr => ∃ k : Nat, k ≤ n ∧ i = .int .i64 k ∧ wr.ownsRow w.heap.size 5 1 s (allG (l.take k)).length ((allG (l.take k)).map (Value.int .u8)) ∧ Only (fun _ => False) w wr) (fun _ i _ => n - (intOf i).toNat)
  case atStart => exact ⟨0, Nat.zero_le _, rfl, World.ownsRow_nil _ _ _ _, Only.refl _ _⟩
  case round =>
    obtain ⟨k, hk, rfl, hown, hon⟩ := hrel
    have HOWN := hideIt hown
    have HON := hideIt hon
    by_cases hlt : k < n
    · have dlt : decide ((k : Int) < (n : Int)) = true := by simp; omega
      have hkl : k < l.length := by rw [← HN.out]; exact hlt
      obtain ⟨b, off, cap', e1, hc0⟩ := (HB.out.past hon).at k hkl
      have ea : ao = some ⟨b, off, none⟩ := by simp at e1; exact e1.1
      subst ea
      clear e1
      have hx := HU.out (l.getD k 0) (getD_mem0 l k hkl)
      have HST := hideIt (allG_take l k hkl)
      have HFL : Hid ((allG (l.take k)).length ≤ 10 * n) := by
        simp only [Hid]; rw [HN.out]; exact allG_le l k HU.out
      have HG10 := hideIt (gs_le10 (v := (l.getD k 0).toNat) (by omega))
      obtain ⟨f1, hf1⟩ : ∃ f1, f1 = allG (l.take (k + 1)) := ⟨_, rfl⟩
      rw [← hf1] at HST
      have HF1 := hideIt hf1
      clear hf1
      generalize allG (l.take k) = f0 at *
      generalize l.getD k 0 = x at *
      clear hown hon HB hkl
      go_wp2_with fail
      refine (append_any (.slice none 0 0) [] x wr (Bs.nil _ _) NoCap.nil (by simp) hx.1 hx.2).mono ?_
      rintro e w4 ⟨u, rfl, own4, o4⟩
      rw [List.nil_append] at own4
      have ow := o4.own HOWN.out (fun _ _ f => f)
      have hb4 := Bs.of_own own4
      have NC4 := hideIt (NoCap.of_own own4)
      have HB4 := hideIt hb4
      have hs4 : w.heap.size ≤ w4.heap.size := Nat.le_trans HON.out.size o4.size
      have O4 := hideIt (HON.out.trans o4 (fun _ _ f => f))
      obtain ⟨a4, c4, e4⟩ := hb4.len
      subst e4
      clear o4 own4 HON HOWN hb4
      generalize gs x.toNat = g at *
      go_wp2_with (at_builtin; refine wpList_append_bs _ rfl _ _ _ rfl w.heap.size 5 i0 (.int .u8 0) 1 Try.underlying24 hi hz0 hz1 hz2 rfl _ _ _ rfl ow .u8 _ g rfl HB4.out NC4.out ?c3 ?c4 hs4 ?_)
      case c3 => have := HFL.out; have := HG10.out; unfold maxLen; omega
      case c4 => have := HFL.out; have := HG10.out; omega
      intro v6 w6 own6 hgrow6 _ _
      have OWN6 : Hid (w6.ownsRow w.heap.size 5 1 v6 f1.length (f1.map (Value.int .u8))) := by
        simp only [Hid]; rw [HST.out, List.length_append, List.map_append]; exact own6
      have O6 := hideIt (O4.out.grown hgrow6 (fun k hk e => absurd (ow.lt k e).1 (by omega)))
      clear ow own6 hgrow6
      go_wp2
      go_roundw
      case rel => exact ⟨k + 1, by omega, by go_num, by rw [← HF1.out]; exact OWN6.out, O6.out⟩
      case measure => simp [intOf]; omega
    · obtain rfl : k = n := by omega
      have dlt : decide ((k : Int) < (k : Int)) = false := by simp
      rw [HN.out, List.take_length] at HOWN
      clear hown hon
      go_wp2
      go_ret
      exact ⟨_, rfl, HOWN.out, HON.out⟩
end Go.Proofs.Ytgbimghhdbmjiab

/- Package intcodec: Way, and Encode. -/
namespace Go.Proofs.Ytgbimghhdbmjiab
open Go.RowKit

theorem zsn_drop (l : List Int) (k : Nat) : zsn (l.drop k) = (zsn l).drop k := by simp [zsn, List.map_drop]
theorem zsn_first {l : List Int} (h : 0 < l.length) : (zsn l).getD 0 0 = zig (l.getD 0 0) := by
  cases l with
  | nil => simp at h
  | cons a t => rfl
theorem WOTH_len {z : List Int} (hu : U64 z) (hl : z.length ≤ 65536) (t : Nat) : (WOTH z t).1.length ≤ 10000000 := by
  unfold WOTH
  by_cases h2 : t = 2
  · rw [if_pos h2]
    have h1 := PK_length z
    have h3 : z.length * wd z ≤ 65536 * 64 := Nat.mul_le_mul hl (wd_le hu)
    have h4 := gs_le10 (v := (lo z).toNat) (by have := lohi hu; omega)
    simp only; omega
  · rw [if_neg h2]
    by_cases h3 : t = 3
    · rw [if_pos h3]
      have := ENC_len (xs := z) (fun x hx => (hu x hx).1)
      omega
    · rw [if_neg h3]
      by_cases h4 : t = 4
      · rw [if_pos h4]
        have := runE_len z hu (by omega)
        simp only; omega
      · rw [if_neg h4]
        have := allG_len z hu
        simp only; omega

set_option maxHeartbeats 400000 in
set_option maxRecDepth 100000 in
theorem woth_two (v : Value) (z : List Int) (w : World) (h : Bs .u64 w v z) (hu : U64 z) (hl : z.length ≤ 65536) :
    Calls Try.prog 19 #[v, .int .i64 2] w fun e w' => ∃ u, e = .returned (.tuple #[u, .int .i64 (WOTH z 2).2]) ∧ w'.ownsRow w.heap.size 5 1 u (WOTH z 2).1.length ((WOTH z 2).1.map (Value.int .u8)) ∧ Only (fun _ => False) w w' := by
  have A := hideIt (pack_bs v z w h hu hl)
  obtain ⟨ao, cap, rfl⟩ := h.len
  clear h hu hl
  go_enter Try.func19, Try.ntmps19
  go_wp2_with fail
  refine A.out.mono ?_
  rintro e w1 ⟨u, rfl, own1, o1⟩
  have F := hideIt (And.intro own1 o1)
  obtain ⟨f1, c1, e1⟩ := (Bs.of_own own1).len
  subst e1
  clear A own1 o1
  go_wp2
  try rw [Exit.noGoto_ret]
  go_ret2
  exact ⟨_, rfl, F.out.1, F.out.2⟩
set_option maxHeartbeats 400000 in
set_option maxRecDepth 100000 in
theorem woth_three (v : Value) (z : List Int) (w : World) (h : Bs .u64 w v z) (hu : U64 z) (_hl : z.length ≤ 65536) :
    Calls Try.prog 19 #[v, .int .i64 3] w fun e w' => ∃ u, e = .returned (.tuple #[u, .int .i64 (WOTH z 3).2]) ∧ w'.ownsRow w.heap.size 5 1 u (WOTH z 3).1.length ((WOTH z 3).1.map (Value.int .u8)) ∧ Only (fun _ => False) w w' := by
  have A := hideIt (encode_all v z w h hu)
  obtain ⟨ao, cap, rfl⟩ := h.len
  clear h hu _hl
  go_enter Try.func19, Try.ntmps19
  go_wp2_with fail
  refine A.out.mono ?_
  rintro e w1 ⟨u, rfl, own1, o1⟩
  have F := hideIt (And.intro own1 o1)
  obtain ⟨f1, c1, e1⟩ := (Bs.of_own own1).len
  subst e1
  clear A own1 o1
  go_wp2
  try rw [Exit.noGoto_ret]
  go_ret2
  exact ⟨_, rfl, F.out.1, F.out.2⟩
set_option maxHeartbeats 400000 in
set_option maxRecDepth 100000 in
theorem woth_four (v : Value) (z : List Int) (w : World) (h : Bs .u64 w v z) (hu : U64 z) (hl : z.length ≤ 65536) :
    Calls Try.prog 19 #[v, .int .i64 4] w fun e w' => ∃ u, e = .returned (.tuple #[u, .int .i64 (WOTH z 4).2]) ∧ w'.ownsRow w.heap.size 5 1 u (WOTH z 4).1.length ((WOTH z 4).1.map (Value.int .u8)) ∧ Only (fun _ => False) w w' := by
  have A := hideIt (run_encode_bs v z w h hu hl)
  obtain ⟨ao, cap, rfl⟩ := h.len
  clear h hu hl
  go_enter Try.func19, Try.ntmps19
  go_wp2_with fail
  refine A.out.mono ?_
  rintro e w1 ⟨u, rfl, own1, o1⟩
  have F := hideIt (And.intro own1 o1)
  obtain ⟨f1, c1, e1⟩ := (Bs.of_own own1).len
  subst e1
  clear A own1 o1
  go_wp2
  try rw [Exit.noGoto_ret]
  go_ret2
  exact ⟨_, rfl, F.out.1, F.out.2⟩
set_option maxHeartbeats 400000 in
set_option maxRecDepth 100000 in
theorem woth_one (v : Value) (z : List Int) (w : World) (h : Bs .u64 w v z) (hu : U64 z) (hl : z.length ≤ 65536) :
    Calls Try.prog 19 #[v, .int .i64 1] w fun e w' => ∃ u, e = .returned (.tuple #[u, .int .i64 0]) ∧ w'.ownsRow w.heap.size 5 1 u (allG z).length ((allG z).map (Value.int .u8)) ∧ Only (fun _ => False) w w' := by
  have A := hideIt (varints_any v z w h hu hl)
  obtain ⟨ao, cap, rfl⟩ := h.len
  clear h hu hl
  go_enter Try.func19, Try.ntmps19
  go_wp2_with fail
  refine A.out.mono ?_
  rintro e w1 ⟨u, rfl, own1, o1⟩
  have F := hideIt (And.intro own1 o1)
  obtain ⟨f1, c1, e1⟩ := (Bs.of_own own1).len
  subst e1
  clear A own1 o1
  go_wp2
  try rw [Exit.noGoto_ret]
  go_ret2
  exact ⟨_, rfl, F.out.1, F.out.2⟩
theorem woth_any (v : Value) (z : List Int) (t : Nat) (w : World) (h : Bs .u64 w v z) (hu : U64 z) (hl : z.length ≤ 65536) (h1 : 1 ≤ t) (h4 : t ≤ 4) :
    Calls Try.prog 19 #[v, .int .i64 t] w fun e w' => ∃ u, e = .returned (.tuple #[u, .int .i64 (WOTH z t).2]) ∧ w'.ownsRow w.heap.size 5 1 u (WOTH z t).1.length ((WOTH z t).1.map (Value.int .u8)) ∧ Only (fun _ => False) w w' := by
  rcases t with _ | _ | _ | _ | _ | t
  · omega
  · exact woth_one v z w h hu hl
  · exact woth_two v z w h hu hl
  · exact woth_three v z w h hu hl
  · exact woth_four v z w h hu hl
  · omega

set_option maxHeartbeats 400000 in
set_option maxRecDepth 100000 in
theorem way_arg (v : Value) (tag : Int) (w : World) (ht : tag < 0 ∨ 4 < tag) :
    Calls Try.prog 9 #[v, .int .i64 tag] w fun e w' => e = .returned (.tuple #[.slice none 0 0, .int .i64 1]) ∧ w = w' := by
  have A := hideIt (istag_no tag w ht)
  clear ht
  go_enter Try.func9, Try.ntmps9
  go_wp2_with fail
  refine A.out.mono ?_
  rintro e w1 ⟨rfl, rfl⟩
  go_wp2
  try rw [Exit.noGoto_ret]
  go_ret2
  exact ⟨rfl, rfl⟩
set_option maxHeartbeats 400000 in
set_option maxRecDepth 100000 in
theorem way_long (v : Value) (l : List Int) (t : Nat) (w : World) (h : Bs .i64 w v l) (hl : 65536 < l.length) (ht : t ≤ 4) :
    Calls Try.prog 9 #[v, .int .i64 t] w fun e w' => e = .returned (.tuple #[.slice none 0 0, .int .i64 4]) ∧ w = w' := by
  have A := hideIt (istag_yes t w (by omega) (by omega))
  obtain ⟨ao, cap, rfl⟩ := h.len
  have d0 : decide ((65536 : Int) < l.length) = true := decide_eq_true (by omega)
  clear h hl ht
  generalize l.length = n at *
  go_enter Try.func9, Try.ntmps9
  go_wp2_with fail
  refine A.out.mono ?_
  rintro e w1 ⟨rfl, rfl⟩
  go_wp2
  try rw [Exit.noGoto_ret]
  go_ret2
  exact ⟨rfl, rfl⟩
set_option maxHeartbeats 400000 in
set_option maxRecDepth 100000 in
theorem way_nil (v : Value) (t : Nat) (w : World) (h : Bs .i64 w v []) (ht : t ≤ 4) :
    Calls Try.prog 9 #[v, .int .i64 t] w fun e w' => e = .returned (.tuple #[.slice none 0 0, .int .i64 0]) ∧ w = w' := by
  have A := hideIt (istag_yes t w (by omega) (by omega))
  obtain ⟨ao, cap, e0⟩ := h.len
  rw [List.length_nil] at e0
  subst e0
  clear h ht
  go_enter Try.func9, Try.ntmps9
  go_wp2_with fail
  refine A.out.mono ?_
  rintro e w1 ⟨rfl, rfl⟩
  go_wp2
  try rw [Exit.noGoto_ret]
  go_ret2
  exact ⟨rfl, rfl⟩
set_option maxHeartbeats 400000 in
set_option maxRecDepth 100000 in
theorem way_zero (v : Value) (l : List Int) (w : World) (h : Bs .i64 w v l) (hl : l.length ≤ 65536) (hp : 0 < l.length) :
    Calls Try.prog 9 #[v, .int .i64 0] w fun e w' => ∃ u, e = .returned (.tuple #[u, .int .i64 0]) ∧ w'.ownsRow w.heap.size 5 1 u (fx l).length ((fx l).map (Value.int .u8)) ∧ Only (fun _ => False) w w' := by
  have A := hideIt (istag_yes 0 w (by omega) (by omega))
  have B := hideIt (fixed_any v l w h hl)
  obtain ⟨ao, cap, rfl⟩ := h.len
  have d0 : decide ((65536 : Int) < l.length) = false := decide_eq_false (by omega)
  have d1 : ((l.length : Int) == 0) = false := by rw [beq_eq_false_iff_ne]; omega
  clear h hl hp
  generalize l.length = n at *
  go_enter Try.func9, Try.ntmps9
  go_wp2_with fail
  refine A.out.mono ?_
  rintro e w1 ⟨rfl, rfl⟩
  go_wp2_with fail
  refine B.out.mono ?_
  rintro e w1 ⟨u, rfl, own1, o1⟩
  have F := hideIt (And.intro own1 o1)
  obtain ⟨f1, c1, e1⟩ := (Bs.of_own own1).len
  subst e1
  clear A B own1 o1
  go_wp2
  try rw [Exit.noGoto_ret]
  go_ret2
  exact ⟨_, rfl, F.out.1, F.out.2⟩

set_option maxHeartbeats 1600000 in
set_option maxRecDepth 100000 in
/-- ONE WAY of the other four. -/
theorem way_other (v : Value) (l : List Int) (t : Nat) (w : World) (h : Bs .i64 w v l) (hg : I64s l) (hl : l.length ≤ 65536) (hp : 0 < l.length) (h1 : 1 ≤ t) (h4 : t ≤ 4) :
    Calls Try.prog 9 #[v, .int .i64 t] w fun e w' => ∃ u, e = .returned (.tuple #[u, .int .i64 (WAY l t).2]) ∧ w'.ownsRow w.heap.size 5 1 u (WAY l t).1.length ((WAY l t).1.map (Value.int .u8)) ∧ Only (fun _ => False) w w' := by
  have A := hideIt (istag_yes t w (by omega) (by omega))
  have TM := hideIt (times_any t w h1 h4)
  have DF := hideIt (diff_in v l (tms t) w h (by omega) (tms_le t))
  have HDL := hideIt (D_length (tms t) l)
  have HDG := hideIt (D_i64 hg (tms t))
  have WO : Hid (∀ (u : Value) (w2 : World), Bs .u64 w2 u ((zsn (D (tms t) l)).drop 1) → Calls Try.prog 19 #[u, .int .i64 t] w2 fun e w' => ∃ u', e = .returned (.tuple #[u', .int .i64 (WOTH ((zsn (D (tms t) l)).drop 1) t).2]) ∧ w'.ownsRow w2.heap.size 5 1 u' (WOTH ((zsn (D (tms t) l)).drop 1) t).1.length ((WOTH ((zsn (D (tms t) l)).drop 1) t).1.map (Value.int .u8)) ∧ Only (fun _ => False) w2 w') :=
    fun u w2 hb => woth_any u _ t w2 hb ((zD_u64 hg _).drop 1) (by rw [List.length_drop, zD_length]; omega) h1 h4
  have HWL := hideIt (WOTH_len (z := (zsn (D (tms t) l)).drop 1) ((zD_u64 hg _).drop 1) (by rw [List.length_drop, zD_length]; omega) t)
  have HWAY : Hid (WAY l t = if (WOTH ((zsn (D (tms t) l)).drop 1) t).2 ≠ 0 then ([], (WOTH ((zsn (D (tms t) l)).drop 1) t).2) else (gs (zig ((D (tms t) l).getD 0 0)).toNat ++ (WOTH ((zsn (D (tms t) l)).drop 1) t).1, 0)) := by
    simp only [Hid]
    unfold WAY
    rw [if_neg (List.length_pos_iff.1 hp), if_neg (by omega), zsn_first (by rw [D_length]; exact hp)]
  obtain ⟨ao, cap, rfl⟩ := h.len
  have d0 : decide ((65536 : Int) < l.length) = false := decide_eq_false (by omega)
  have d1 : ((l.length : Int) == 0) = false := by rw [beq_eq_false_iff_ne]; omega
  have d2 : ((t : Int) == 0) = false := by rw [beq_eq_false_iff_ne]; omega
  obtain ⟨n, hn⟩ : ∃ n, n = l.length := ⟨_, rfl⟩
  rw [← hn] at hl hp d0 d1 DF HDL
  rw [← hn]
  clear h hg hn
  obtain ⟨z1, hz1⟩ : ∃ z1, z1 = (zsn (D (tms t) l)).drop 1 := ⟨_, rfl⟩
  rw [← hz1] at WO HWL HWAY
  have HZ1 := hideIt hz1
  clear hz1
  generalize hWO : WOTH z1 t = W at *
  clear hWO
  obtain ⟨W1, c⟩ := W
  simp only at WO HWL HWAY
  generalize WAY l t = Wl at *
  generalize hDD : D (tms t) l = d at *
  clear hDD
  generalize tms t = k at *
  go_enter Try.func9, Try.ntmps9
  go_wp2_with fail
  refine A.out.mono ?_
  rintro e w1 ⟨rfl, rfl⟩
  clear A
  go_wp2_with fail
  refine TM.out.mono ?_
  rintro e w1 ⟨rfl, rfl⟩
  clear TM
  go_wp2_with fail
  refine DF.out.mono ?_
  rintro e w1 ⟨v1, rfl, own1, o1⟩
  clear DF
  have OWN1 := hideIt own1
  have hb1 : Bs .i64 w1 v1 d := Bs.of_own (by rw [HDL.out]; exact own1)
  have HB1 := hideIt hb1
  obtain ⟨a1, cap1, e1⟩ := hb1.len
  rw [HDL.out] at e1
  subst e1
  have hc1 : n ≤ cap1 := by
    obtain ⟨ao', cap', e2, hc, _⟩ := hb1
    rw [HDL.out] at hc
    simp at e2
    omega
  have HO1 := hideIt o1
  clear own1 o1 hb1
  have j0 : (1 : Int) ≤ (n : Int) := by omega
  have j1 : (1 : Int) ≤ (cap1 : Int) := by omega
  by_cases hcc : cap1 = 1
  · subst hcc
    obtain rfl : n = 1 := by omega
    have hb2 : Bs .i64 w1 (.slice a1 0 0) (d.drop 1) := by have := HB1.out.cut0 (n := 1) (by omega); simpa using this
    have ZG := hideIt (zigs_any _ (d.drop 1) w1 hb2 (fun x hx => HDG.out x (List.mem_of_mem_drop hx)) (by rw [List.length_drop, HDL.out]; omega))
    rw [zsn_drop, ← HZ1.out] at ZG
    clear hb2
    go_wp2_with fail
    refine ZG.out.mono ?_
    rintro e w2 ⟨v2, rfl, own2, o2⟩
    clear ZG
    have W2 := hideIt (WO.out v2 w2 (Bs.of_own own2))
    have O12 := hideIt o2
    have OWN2 := hideIt (o2.own OWN1.out (fun _ _ f => f))
    obtain ⟨f2, c2, e2⟩ := (Bs.of_own own2).len
    subst e2
    clear own2 o2
    go_wp2_with fail
    refine W2.out.mono ?_
    rintro e w3 ⟨v3, rfl, own3, o3⟩
    clear W2
    have O13 := hideIt (O12.out.same o3)
    have HO3 := hideIt (HO1.out.same O13.out)
    have OWN3 := hideIt (o3.own OWN2.out (fun _ _ f => f))
    have HB3 := hideIt (Bs.of_own own3)
    have NC3 := hideIt (NoCap.of_own own3)
    obtain ⟨f3, c3, e3⟩ := (Bs.of_own own3).len
    subst e3
    clear own3 o3
    by_cases hc : c = 0
    · subst hc
      have hx := HDG.out (d.getD 0 0) (getD_mem0 d 0 (by rw [HDL.out]; omega))
      have hx2 := zig_bounds _ hx.1 hx.2
      obtain ⟨b, off, cap', e4, cell0⟩ := (HB1.out.past O13.out).at 0 (by rw [HDL.out]; omega)
      have ea : a1 = some ⟨b, off, none⟩ := by simp at e4; exact e4.1
      subst ea
      clear e4
      rw [Nat.add_zero] at cell0
      rw [if_neg (by simp)] at HWAY
      obtain ⟨x, hxd⟩ : ∃ x, x = d.getD 0 0 := ⟨_, rfl⟩
      rw [← hxd] at cell0 hx hx2 HWAY
      have ZA := hideIt (zig_any x w3 hx.1 hx.2)
      have AA := hideIt (append_any (.slice none 0 0) [] (zig x) w3 (Bs.nil _ _) NoCap.nil (by simp) hx2.1 hx2.2)
      have H10 := hideIt (gs_le10 (v := (zig x).toNat) (by omega))
      have HGP := hideIt (gs_pos (zig x).toNat)
      clear hxd hx hx2
      go_wp2_with fail
      refine ZA.out.mono ?_
      rintro e w3' ⟨rfl, rfl⟩
      clear ZA
      go_wp2_with fail
      refine AA.out.mono ?_
      rintro e w4 ⟨v4, rfl, own4, o4⟩
      clear AA
      rw [List.nil_append] at own4
      have hbl : Below w4.heap.size w4 (w4.alloc (.cells #[v4, .slice f3 W1.length c3] 24)) := (Below.refl _ _).alloc (Nat.le_refl _) _
      have CC := hideIt (concat_two w4.heap.size v4 _ (gs (zig x).toNat) W1 (w4.alloc (.cells #[v4, .slice f3 W1.length c3] 24)) (by go_cell) (by go_cell) ((Bs.of_own own4).later hbl) ((HB3.out.past o4).later hbl) (NoCap.of_own own4) NC3.out (by have := HGP.out; omega) (by have := H10.out; have := HWL.out; omega))
      have O4 := hideIt ((HO3.out.same o4).alloc (.cells #[v4, .slice f3 W1.length c3] 24))
      obtain ⟨f4, c4, e4⟩ := (Bs.of_own own4).len
      subst e4
      clear own4 o4 hbl
      generalize gs (zig x).toNat = g at *
      go_wp2_with fail
      refine CC.out.mono ?_
      rintro e w5 ⟨v5, rfl, own5, o5⟩
      clear CC
      obtain ⟨gw, hgw⟩ : ∃ gw, gw = g ++ W1 := ⟨_, rfl⟩
      rw [← hgw] at own5 HWAY
      have eW := HWAY.out
      subst eW
      have F := hideIt (And.intro (own_low own5 O4.out.size) (O4.out.same o5))
      clear hgw HWAY
      obtain ⟨f5, c5, e5⟩ := (Bs.of_own own5).len
      subst e5
      clear own5 o5
      go_wp2
      try rw [Exit.noGoto_ret]
      go_ret2
      exact ⟨_, rfl, F.out.1, F.out.2⟩
    · have dc : (c != 0) = true := by simp; exact hc
      rw [if_pos hc] at HWAY
      have eW := HWAY.out
      subst eW
      clear HWAY
      go_wp2
      try rw [Exit.noGoto_ret]
      go_ret2
      exact ⟨_, rfl, World.ownsRow_nil _ _ _ _, HO3.out⟩
  · have hcx : ¬ ((cap1 : Int) - 1 = 0) := by omega
    have hb2 : Bs .i64 w1 (.slice (a1.map (fun x => x.add 1)) (n - 1) (cap1 - 1)) (d.drop 1) := by have := HB1.out.cut (n := 1) (by omega); simpa using this
    have ZG := hideIt (zigs_any _ (d.drop 1) w1 hb2 (fun x hx => HDG.out x (List.mem_of_mem_drop hx)) (by rw [List.length_drop, HDL.out]; omega))
    rw [zsn_drop, ← HZ1.out] at ZG
    clear hb2
    go_wp2_with fail
    refine ZG.out.mono ?_
    rintro e w2 ⟨v2, rfl, own2, o2⟩
    clear ZG
    have W2 := hideIt (WO.out v2 w2 (Bs.of_own own2))
    have O12 := hideIt o2
    have OWN2 := hideIt (o2.own OWN1.out (fun _ _ f => f))
    obtain ⟨f2, c2, e2⟩ := (Bs.of_own own2).len
    subst e2
    clear own2 o2
    go_wp2_with fail
    refine W2.out.mono ?_
    rintro e w3 ⟨v3, rfl, own3, o3⟩
    clear W2
    have O13 := hideIt (O12.out.same o3)
    have HO3 := hideIt (HO1.out.same O13.out)
    have OWN3 := hideIt (o3.own OWN2.out (fun _ _ f => f))
    have HB3 := hideIt (Bs.of_own own3)
    have NC3 := hideIt (NoCap.of_own own3)
    obtain ⟨f3, c3, e3⟩ := (Bs.of_own own3).len
    subst e3
    clear own3 o3
    by_cases hc : c = 0
    · subst hc
      have hx := HDG.out (d.getD 0 0) (getD_mem0 d 0 (by rw [HDL.out]; omega))
      have hx2 := zig_bounds _ hx.1 hx.2
      obtain ⟨b, off, cap', e4, cell0⟩ := (HB1.out.past O13.out).at 0 (by rw [HDL.out]; omega)
      have ea : a1 = some ⟨b, off, none⟩ := by simp at e4; exact e4.1
      subst ea
      clear e4
      rw [Nat.add_zero] at cell0
      rw [if_neg (by simp)] at HWAY
      obtain ⟨x, hxd⟩ : ∃ x, x = d.getD 0 0 := ⟨_, rfl⟩
      rw [← hxd] at cell0 hx hx2 HWAY
      have ZA := hideIt (zig_any x w3 hx.1 hx.2)
      have AA := hideIt (append_any (.slice none 0 0) [] (zig x) w3 (Bs.nil _ _) NoCap.nil (by simp) hx2.1 hx2.2)
      have H10 := hideIt (gs_le10 (v := (zig x).toNat) (by omega))
      have HGP := hideIt (gs_pos (zig x).toNat)
      clear hxd hx hx2
      go_wp2_with fail
      refine ZA.out.mono ?_
      rintro e w3' ⟨rfl, rfl⟩
      clear ZA
      go_wp2_with fail
      refine AA.out.mono ?_
      rintro e w4 ⟨v4, rfl, own4, o4⟩
      clear AA
      rw [List.nil_append] at own4
      have hbl : Below w4.heap.size w4 (w4.alloc (.cells #[v4, .slice f3 W1.length c3] 24)) := (Below.refl _ _).alloc (Nat.le_refl _) _
      have CC := hideIt (concat_two w4.heap.size v4 _ (gs (zig x).toNat) W1 (w4.alloc (.cells #[v4, .slice f3 W1.length c3] 24)) (by go_cell) (by go_cell) ((Bs.of_own own4).later hbl) ((HB3.out.past o4).later hbl) (NoCap.of_own own4) NC3.out (by have := HGP.out; omega) (by have := H10.out; have := HWL.out; omega))
      have O4 := hideIt ((HO3.out.same o4).alloc (.cells #[v4, .slice f3 W1.length c3] 24))
      obtain ⟨f4, c4, e4⟩ := (Bs.of_own own4).len
      subst e4
      clear own4 o4 hbl
      generalize gs (zig x).toNat = g at *
      go_wp2_with fail
      refine CC.out.mono ?_
      rintro e w5 ⟨v5, rfl, own5, o5⟩
      clear CC
      obtain ⟨gw, hgw⟩ : ∃ gw, gw = g ++ W1 := ⟨_, rfl⟩
      rw [← hgw] at own5 HWAY
      have eW := HWAY.out
      subst eW
      have F := hideIt (And.intro (own_low own5 O4.out.size) (O4.out.same o5))
      clear hgw HWAY
      obtain ⟨f5, c5, e5⟩ := (Bs.of_own own5).len
      subst e5
      clear own5 o5
      go_wp2
      try rw [Exit.noGoto_ret]
      go_ret2
      exact ⟨_, rfl, F.out.1, F.out.2⟩
    · have dc : (c != 0) = true := by simp; exact hc
      rw [if_pos hc] at HWAY
      have eW := HWAY.out
      subst eW
      clear HWAY
      go_wp2
      try rw [Exit.noGoto_ret]
      go_ret2
      exact ⟨_, rfl, World.ownsRow_nil _ _ _ _, HO3.out⟩
end Go.Proofs.Ytgbimghhdbmjiab
