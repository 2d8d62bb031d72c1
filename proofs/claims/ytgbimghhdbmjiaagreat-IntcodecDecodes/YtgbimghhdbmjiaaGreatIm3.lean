/- The reference's reading of a list of ints, as lists: the same as the program's. -/
import Derived.Test.YtgbimghhdbmjiaaGreatG11
namespace Go.Proofs.YtgbimghhdbmjiaaGreat
open Go.RowKit

/-- the numbers that the reference reads of a way -/
def RR (ys : List Int) (n tag : Nat) : List Int × Int :=
  if tag = 0 then (if ys.length < 8 * n then ([], 2) else if 8 * n < ys.length then ([], 3) else (fxN ys n, 0)) else
  if tag = 1 then (if (rVs n [] ys).2.2 ≠ 0 then ([], (rVs n [] ys).2.2) else if 0 < (rVs n [] ys).2.1.length then ([], 3) else ((rVs n [] ys).1, 0)) else
  if n = 0 then (if 0 < ys.length then ([], 3) else ([], 0)) else
  if (sVarint ys).2.2 ≠ 0 then ([], (sVarint ys).2.2) else
  if (OTH (ys.drop (sVarint ys).2.1) (n - 1) tag).2 ≠ 0 then ([], (OTH (ys.drop (sVarint ys).2.1) (n - 1) tag).2) else
  ((sVarint ys).1 :: (OTH (ys.drop (sVarint ys).2.1) (n - 1) tag).1, 0)
def RI (z : List Int) (tag : Nat) : List Int := if tag = 0 then z.map s64 else S (tms tag) (zgn z)
def RDEC8 (b : List Int) (n : Int) : List Int × Int :=
  if n < 0 ∨ 65536 < n then ([], 1) else if b = [] then ([], 2) else if 4 < b.getD 0 0 then ([], 3) else
  if (RR (b.drop 1) n.toNat (b.getD 0 0).toNat).2 ≠ 0 then ([], (RR (b.drop 1) n.toNat (b.getD 0 0).toNat).2) else
  if (ENC8 (RI (RR (b.drop 1) n.toNat (b.getD 0 0).toNat).1 (b.getD 0 0).toNat)).1 = b then (RI (RR (b.drop 1) n.toNat (b.getD 0 0).toNat).1 (b.getD 0 0).toNat, 0) else ([], 3)

theorem enc_tag {l ys : List Int} {t : Nat} (hl : l.length ≤ 65536) (h : (ENC8 l).1 = (t : Int) :: ys) : WAY l t = (ys, 0) := by
  rw [ENC8_of hl] at h
  simp only [List.cons.injEq] at h
  have h1 : (pick l 4).1 = t := by omega
  have := (pick_spec l 4).2.1
  rw [h1, h.2] at this
  exact this
theorem S_nil (k : Nat) : S k [] = [] := List.eq_nil_of_length_eq_zero (by rw [S_length]; rfl)
theorem enc_none {ys : List Int} {t : Nat} (h : (ENC8 []).1 = (t : Int) :: ys) : ys = [] := by
  have := enc_tag (by simp) h
  rw [WAY_nil] at this
  simpa using (congrArg Prod.fst this).symm
theorem RR_READ (ys : List Int) (m t : Nat) (hm : m ≤ 65536) (ht : t ≤ 4) (hr : Byt ys) :
    (if (RR ys m t).2 ≠ 0 then ([], (RR ys m t).2) else if (ENC8 (RI (RR ys m t).1 t)).1 = (t : Int) :: ys then (RI (RR ys m t).1 t, 0) else ([], 3)) =
    (if (READ ys m t).2 ≠ 0 then ([], (READ ys m t).2) else if (ENC8 (READ ys m t).1).1 = (t : Int) :: ys then ((READ ys m t).1, 0) else (([] : List Int), (3 : Int))) := by
  by_cases hm0 : m = 0
  · subst hm0
    have e0 : READ ys 0 t = ([], 0) := rfl
    have e1 : RR ys 0 t = if 0 < ys.length then ([], 3) else ([], 0) := by
      unfold RR
      by_cases h0 : t = 0
      · rw [if_pos h0, if_neg (by omega)]; rfl
      · rw [if_neg h0]
        by_cases h1 : t = 1
        · rw [if_pos h1]
          rfl
        · rw [if_neg h1, if_pos rfl]
    rw [e0, e1]
    by_cases hy : 0 < ys.length
    · rw [if_pos hy]
      simp only [ne_eq, not_true_eq_false, if_false]
      rw [if_pos (by decide)]
      by_cases hE : (ENC8 []).1 = (t : Int) :: ys
      · have := enc_none hE
        subst this; simp at hy
      · rw [if_neg hE]
    · rw [if_neg hy]
      have : RI [] t = [] := by
        unfold RI
        by_cases h0 : t = 0
        · rw [if_pos h0]; rfl
        · rw [if_neg h0]; exact S_nil _
      simp only [this]
  · by_cases h0 : t = 0
    · subst h0
      unfold RR READ rFx RI
      simp only [if_neg hm0, if_true]
      by_cases h8 : ys.length < 8 * m
      · simp only [if_pos h8]
      · simp only [if_neg h8]
        by_cases h9 : 8 * m < ys.length
        · simp only [if_pos h9]
          rw [if_pos (by decide), if_neg (by simp)]
          by_cases hE : (ENC8 ((fxN ys m).map s64)).1 = ((0 : Nat) : Int) :: ys
          · have hl : ((fxN ys m).map s64).length = m := by simp [fxN]
            have h1 := enc_tag (by omega) hE
            rw [WAY_zero] at h1
            have h2 := congrArg (fun p => p.1.length) h1
            simp only [fx_length, hl] at h2
            omega
          · rw [if_neg hE]
        · simp only [if_neg h9]
    · by_cases h1 : t = 1
      · subst h1
        obtain ⟨k, rfl⟩ : ∃ k, m = k + 1 := ⟨m - 1, by omega⟩
        have hO : OTH (ys.drop (sVarint ys).2.1) k 1 = ((rVs k [] (ys.drop (sVarint ys).2.1)).1, (rVs k [] (ys.drop (sVarint ys).2.1)).2.2) := rfl
        unfold RR READ
        rw [if_neg h0, if_pos rfl, if_neg hm0, if_neg h0, rVs, Nat.add_sub_cancel, hO]
        by_cases hs : (sVarint ys).2.2 ≠ 0
        · simp only [if_pos hs]
        · simp only [if_neg hs]
          have he := rVs_err k ([] ++ [(sVarint ys).1]) [] (ys.drop (sVarint ys).2.1)
          by_cases hv : (rVs k [] (ys.drop (sVarint ys).2.1)).2.2 ≠ 0
          · rw [← he] at hv
            simp only [if_pos hv]
            rw [he] at hv ⊢
            simp only [if_pos hv]
          · have hv0 : (rVs k [] (ys.drop (sVarint ys).2.1)).2.2 = 0 := by simpa using hv
            have hp := rVs_pre k [(sVarint ys).1] [] (ys.drop (sVarint ys).2.1) hv0
            rw [List.append_nil] at hp
            rw [List.nil_append, hp]
            simp only [if_neg hv]
            by_cases hl : 0 < (rVs k [] (ys.drop (sVarint ys).2.1)).2.1.length
            · simp only [if_pos hl]
              rw [if_pos (by decide), if_neg (by simp)]
              have ho := rVs_only (k + 1) [] ys hr
              rw [rVs, if_neg hs, List.nil_append, hp] at ho
              rcases ho with ⟨r, c, e, hc⟩ | ⟨q, r, e, h2, h3, h4⟩
              · have := congrArg (fun p => p.2.2) e
                simp only [hv0] at this
                omega
              · have e1 : q = (sVarint ys).1 :: (rVs k [] (ys.drop (sVarint ys).2.1)).1 := by
                  have := congrArg (fun p => p.1) e
                  simpa using this.symm
                have e2 : r = (rVs k [] (ys.drop (sVarint ys).2.1)).2.1 := by
                  have := congrArg (fun p => p.2.1) e
                  simpa using this.symm
                have hq : zag (sVarint ys).1 :: zgn (rVs k [] (ys.drop (sVarint ys).2.1)).1 = zgn q := by rw [e1]; rfl
                rw [hq]
                have hql : (S (tms 1) (zgn q)).length = k + 1 := by rw [S_length, zgn_length, h2]
                by_cases hE : (ENC8 (S (tms 1) (zgn q))).1 = ((1 : Nat) : Int) :: ys
                · exfalso
                  have hw := enc_tag (by omega) hE
                  have hw2 : (WAY (S (tms 1) (zgn q)) 1).2 = 0 := by rw [hw]
                  have hne : S (tms 1) (zgn q) ≠ [] := List.length_pos_iff.1 (by omega)
                  obtain ⟨_, hw3⟩ := WAY_ok hne (by decide) hw2
                  rw [hw3, D_S _ _ (zgn_i64 h3), zsn_zgn _ h3] at hw
                  have hw4 : gs (q.getD 0 0).toNat ++ allG (q.drop 1) = ys := congrArg Prod.fst hw
                  have hw5 : gs (q.getD 0 0).toNat ++ allG (q.drop 1) = allG q := by
                    have e5 := allG_drop q 0 (by omega)
                    rw [List.drop_zero] at e5
                    exact e5.symm
                  rw [hw5, h4] at hw4
                  have : r = [] := List.self_eq_append_right.1 hw4
                  rw [← e2, this] at hl
                  simp at hl
                · rw [if_neg hE]
            · simp only [if_neg hl]
              rfl
      · unfold RR READ
        rw [if_neg h0, if_neg h1, if_neg hm0, if_neg hm0, if_neg h0]
        by_cases hs : (sVarint ys).2.2 ≠ 0
        · simp only [if_pos hs]
        · simp only [if_neg hs]
          by_cases ho : (OTH (ys.drop (sVarint ys).2.1) (m - 1) t).2 ≠ 0
          · simp only [if_pos ho]
          · simp only [if_neg ho]
            have : RI ((sVarint ys).1 :: (OTH (ys.drop (sVarint ys).2.1) (m - 1) t).1) t = S (tms t) (zag (sVarint ys).1 :: zgn (OTH (ys.drop (sVarint ys).2.1) (m - 1) t).1) := by
              unfold RI
              rw [if_neg h0]; rfl
            rw [this]
theorem RDEC8_eq {b : List Int} {n : Int} (hr : Byt b) : RDEC8 b n = DEC8 b n := by
  unfold RDEC8 DEC8
  by_cases hn : n < 0 ∨ 65536 < n
  · rw [if_pos hn, if_pos hn]
  · rw [if_neg hn, if_neg hn]
    by_cases hb : b = []
    · rw [if_pos hb, if_pos hb]
    · rw [if_neg hb, if_neg hb]
      by_cases h4 : 4 < b.getD 0 0
      · rw [if_pos h4, if_pos h4]
      · rw [if_neg h4, if_neg h4]
        cases b with
        | nil => exact absurd rfl hb
        | cons y ys =>
          have hy := hr y List.mem_cons_self
          simp only [List.getD_cons_zero] at h4 ⊢
          simp only [List.drop_succ_cons, List.drop_zero]
          have := RR_READ ys n.toNat y.toNat (by omega) (by omega) (fun z hz => hr z (List.mem_cons_of_mem _ hz))
          rw [Int.toNat_of_nonneg hy.1] at this
          exact this
end Go.Proofs.YtgbimghhdbmjiaaGreat
