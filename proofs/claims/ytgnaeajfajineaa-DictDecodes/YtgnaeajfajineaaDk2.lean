/- Patterns by their place: there and back, cut off, a byte more; what patterns are says nothing but in the dictionary. -/
import Derived.Test.YtgnaeajfajineaaDk
namespace Go.Proofs.Ytgnaeajfajineaa
open Go.RowKit

theorem dic_lt {l : List Int} (hl : l.length ≤ 65536) : (dic l).length < 18446744073709551616 := by have := dic_len l; omega
/-- what stands behind the varint, and more behind that -/
theorem DECB_back {l : List Int} (hu : U64 l) (r b : List Int) :
    DECB (dic l).length l.length (fx8 (dic l) ++ (bytesI (tail10 (dic l) l) ++ r)) b = if (ENC10 l).1 = b then (l, 0) else ([], 3) := by
  have hf := fx8_len (dic l)
  have e1 : (fx8 (dic l) ++ (bytesI (tail10 (dic l) l) ++ r)).drop (8 * (dic l).length) = bytesI (tail10 (dic l) l) ++ r := List.drop_left' hf
  have e2 : allBits (bytesI (tail10 (dic l) l) ++ r) = tail10 (dic l) l ++ (List.replicate (8 * nb (tail10 (dic l) l) - (tail10 (dic l) l).length) false ++ allBits r) := by
    rw [allBits_append, bits_back, List.append_assoc]
  have e3 : rdP (wP (dic l).length) l.length (tail10 (dic l) l ++ (List.replicate (8 * nb (tail10 (dic l) l) - (tail10 (dic l) l).length) false ++ allBits r)) = l.map (plc (dic l)) := by
    have := rdP_bits (wP (dic l).length) (l.map (plc (dic l))) (List.replicate (8 * nb (tail10 (dic l) l) - (tail10 (dic l) l).length) false ++ allBits r) (fun p hp => wP_lt (plc_all p hp))
    rw [List.length_map] at this
    exact this
  have e4 : rd8 (dic l).length (fx8 (dic l) ++ (bytesI (tail10 (dic l) l) ++ r)) = dic l := rd8_fx (dic l) _ (dic_u64 hu)
  unfold DECB
  rw [e1, e2, e3, e4, back10]
  rw [if_neg (by rw [List.length_append]; omega), if_neg (by rw [List.length_append, tail10_len]; omega), if_neg (fun ⟨p, hp, h⟩ => by have := plc_all p hp; omega)]
theorem DEC10_head {l : List Int} (hl : l.length ≤ 65536) (r : List Int) : DEC10 (gs (dic l).length ++ r) l.length = DECB (dic l).length l.length r (gs (dic l).length ++ r) := by
  unfold DEC10
  rw [sVarint_gs _ _ (dic_lt hl)]
  have := dic_len l
  simp only [ne_eq, not_true_eq_false, if_false, Int.toNat_natCast, List.drop_left]
  rw [if_neg (by omega), if_neg (by omega)]
theorem DEC10_ENC10 {l : List Int} (hu : U64 l) (hl : l.length ≤ 65536) : DEC10 (ENC10 l).1 l.length = (l, 0) := by
  have e := DECB_back hu [] (ENC10 l).1
  rw [List.append_nil, if_pos rfl] at e
  rw [ENC10_of hl] at e ⊢
  rw [DEC10_head hl]
  exact e
theorem DEC10_more {l : List Int} (hu : U64 l) (hl : l.length ≤ 65536) {r : List Int} (hr : r ≠ []) : DEC10 ((ENC10 l).1 ++ r) l.length = ([], 3) := by
  have e := DECB_back hu r ((ENC10 l).1 ++ r)
  rw [if_neg (fun h => hr (List.self_eq_append_right.1 h))] at e
  rw [ENC10_of hl] at e ⊢
  simp only [List.append_assoc] at e ⊢
  rw [DEC10_head hl]
  exact e
theorem DEC10_cut {l : List Int} (hl : l.length ≤ 65536) {k : Nat} (hk : k < (ENC10 l).1.length) : DEC10 ((ENC10 l).1.take k) l.length = ([], 2) := by
  rw [ENC10_of hl] at hk ⊢
  simp only at hk ⊢
  by_cases h1 : k < (gs (dic l).length).length
  · rw [List.take_append_of_le_length (by omega)]
    unfold DEC10
    rw [sVarint_short _ k (dic_lt hl) h1]
    rw [if_neg (by omega)]
    simp
  · rw [List.take_append, List.take_of_length_le (by omega), DEC10_head hl]
    obtain ⟨j, rfl⟩ : ∃ j, k = (gs (dic l).length).length + j := ⟨k - (gs (dic l).length).length, by omega⟩
    rw [Nat.add_sub_cancel_left]
    rw [List.length_append, List.length_append, fx8_len, bytesI_length] at hk
    unfold DECB
    by_cases h2 : j < 8 * (dic l).length
    · rw [if_pos (by rw [List.length_take, List.length_append, fx8_len]; omega)]
    · rw [if_neg (by rw [List.length_take, List.length_append, fx8_len, bytesI_length]; omega)]
      rw [if_pos ?_]
      rw [List.drop_take, List.drop_left' (fx8_len _), allBits_length, List.length_take, bytesI_length]
      have h3 := tail10_len (dic l) l
      rw [← h3]
      unfold nb at *
      omega
theorem if_err {p : Prop} [Decidable p] {x y : List Int × Int} (hx : x.2 ≠ 0 → x.1 = []) (hy : y.2 ≠ 0 → y.1 = []) : (if p then x else y).2 ≠ 0 → (if p then x else y).1 = [] := by
  by_cases h : p
  · rw [if_pos h]; exact hx
  · rw [if_neg h]; exact hy
theorem DEC10_err {b : List Int} {n : Int} : (DEC10 b n).2 ≠ 0 → (DEC10 b n).1 = [] := by
  unfold DEC10 DECB
  exact if_err (fun _ => rfl) (if_err (fun _ => rfl) (if_err (fun _ => rfl) (if_err (fun _ => rfl) (if_err (fun _ => rfl) (if_err (fun _ => rfl) (if_err (fun h => absurd rfl h) (fun _ => rfl)))))))
theorem DEC10_ok {b : List Int} {n : Int} (hr : ∀ y ∈ b, 0 ≤ y ∧ y ≤ 255) (h : (DEC10 b n).2 = 0) : 0 ≤ n ∧ n ≤ 65536 ∧ ((DEC10 b n).1.length : Int) = n ∧ U64 (DEC10 b n).1 ∧ ENC10 (DEC10 b n).1 = (b, 0) := by
  have key : ∀ (many m : Nat) (rest : List Int), (∀ y ∈ rest, 0 ≤ y ∧ y ≤ 255) → m ≤ 65536 → (DECB many m rest b).2 = 0 → (DECB many m rest b).1.length = m ∧ U64 (DECB many m rest b).1 ∧ ENC10 (DECB many m rest b).1 = (b, 0) := by
    intro many m rest hrr hm h
    unfold DECB at *
    by_cases c1 : rest.length < 8 * many
    · rw [if_pos c1] at h; cases h
    · rw [if_neg c1] at h ⊢
      by_cases c2 : (allBits (rest.drop (8 * many))).length < m * wP many
      · rw [if_pos c2] at h; cases h
      · rw [if_neg c2] at h ⊢
        by_cases c3 : ∃ p ∈ rdP (wP many) m (allBits (rest.drop (8 * many))), many ≤ p
        · rw [if_pos c3] at h; cases h
        · rw [if_neg c3] at h ⊢
          by_cases c4 : (ENC10 ((rdP (wP many) m (allBits (rest.drop (8 * many)))).map fun p => (rd8 many rest).getD p 0)).1 = b
          · rw [if_pos c4]
            have hlen : ((rdP (wP many) m (allBits (rest.drop (8 * many)))).map fun p => (rd8 many rest).getD p 0).length = m := by rw [List.length_map, rdP_len]
            refine ⟨hlen, ?_, ?_⟩
            · intro x hx
              obtain ⟨p, hp, rfl⟩ := List.mem_map.1 hx
              have hpm : p < many := by
                rcases Nat.lt_or_ge p many with e | e
                · exact e
                · exact absurd ⟨p, hp, e⟩ c3
              have hp8 : p < (rd8 many rest).length := by rw [rd8_len]; exact hpm
              refine rd8_u64 many rest hrr _ ?_
              rw [List.getD_eq_getElem?_getD, List.getElem?_eq_getElem hp8]
              exact List.getElem_mem hp8
            · have e := ENC10_of (l := (rdP (wP many) m (allBits (rest.drop (8 * many)))).map fun p => (rd8 many rest).getD p 0) (by rw [hlen]; exact hm)
              rw [e] at c4 ⊢
              simp only at c4
              simp only [c4]
          · rw [if_neg c4] at h; cases h
  unfold DEC10 at *
  by_cases hn : n < 0 ∨ 65536 < n
  · rw [if_pos hn] at h; cases h
  · rw [if_neg hn] at h ⊢
    by_cases hv : (sVarint b).2.2 ≠ 0
    · rw [if_pos hv] at h; exact absurd h hv
    · rw [if_neg hv] at h ⊢
      by_cases hm : n < (sVarint b).1
      · rw [if_pos hm] at h; cases h
      · rw [if_neg hm] at h ⊢
        obtain ⟨k1, k2, k3⟩ := key _ n.toNat _ (fun y hy => hr y (List.mem_of_mem_drop hy)) (by omega) h
        exact ⟨by omega, by omega, by rw [k1]; omega, k2, k3⟩
theorem ENC10_rng (l : List Int) : ∀ y ∈ (ENC10 l).1, 0 ≤ y ∧ y ≤ 255 := by
  unfold ENC10
  by_cases h : 65536 < l.length
  · rw [if_pos h]; intro y hy; simp at hy
  · rw [if_neg h]
    intro y hy
    rcases List.mem_append.1 hy with h1 | h1
    · exact gs_range _ y h1
    · rcases List.mem_append.1 h1 with h2 | h2
      · obtain ⟨v, _, hv⟩ := List.mem_flatMap.1 h2
        unfold fixL at hv
        obtain ⟨j, _, rfl⟩ := List.mem_map.1 hv
        exact fixB_range v _
      · exact bytesI_rng _ y h2
theorem ENC10_ex : ENC10 [9, 9, 7] = ([2, 0, 0, 0, 0, 0, 0, 0, 9, 0, 0, 0, 0, 0, 0, 0, 7, 32], 0) := by decide +kernel
theorem u64_ex10 : U64 [9, 9, 7] := by intro x hx; simp at hx; omega
theorem DEC10_ex : DEC10 [2, 0, 0, 0, 0, 0, 0, 0, 9, 0, 0, 0, 0, 0, 0, 0, 7, 32] 3 = ([9, 9, 7], 0) := by
  have := DEC10_ENC10 u64_ex10 (by decide)
  rw [ENC10_ex] at this
  exact this
end Go.Proofs.Ytgnaeajfajineaa
