/- The rounds of a piece: plain facts. -/
import Derived.Test.YtnifflnhbpfmnaaSw
import Derived.Test.YtnifflnhbpfmnaaRt
namespace Go.Proofs.Ytnifflnhbpfmnaa

theorem rnd_w32 (s : List Nat) (k w : Nat) (h : W32 s) : W32 (rnd s k w) := by
  intro x hx
  simp only [rnd, List.mem_cons, List.not_mem_nil, or_false] at hx
  rcases hx with rfl | rfl | rfl | rfl | rfl | rfl | rfl | rfl
  · exact Nat.mod_lt _ (by decide)
  · exact h.at 0
  · exact h.at 1
  · exact h.at 2
  · exact Nat.mod_lt _ (by decide)
  · exact h.at 4
  · exact h.at 5
  · exact h.at 6
theorem rnds_w32 (s : List Nat) (w : List Nat) (h : W32 s) (t : Nat) : W32 (rnds s w t) := by
  induction t with
  | zero => exact h
  | succ t ih => rw [rnds_succ]; exact rnd_w32 _ _ _ ih
theorem rnds_len (s : List Nat) (w : List Nat) (h : s.length = 8) (t : Nat) : (rnds s w t).length = 8 := by
  cases t with
  | zero => exact h
  | succ t => rw [rnds_succ]; exact rnd_len _ _ _
theorem shH_w32 : W32 shH := by unfold W32 shH; decide
theorem shK_w32 : W32 shK := by unfold W32 shK; decide
theorem thru_w32 (s : List Nat) (b : List Int) : W32 (thru s b) := thru_lt s b
theorem thrus_w32 (p : List Int) (k : Nat) : W32 (thrus shH p k) := by
  cases k with
  | zero => exact shH_w32
  | succ k => rw [thrus_succ]; exact thru_w32 _ _
/-- all bits turned -/
theorem not_int (e : Nat) (he : e < 4294967296) : IntKind.u32.wrap (-1 - (e : Int)) = ((4294967295 - e : Nat) : Int) := by
  rw [IntKind.wrap_u32']; omega
theorem ch_int (e f g : Nat) (he : e < 4294967296) (hf : f < 4294967296) (hg : g < 4294967296) :
    bits .xor .u32 (bits .and .u32 (e : Int) (f : Int)) (bits .and .u32 ((4294967295 - e : Nat) : Int) (g : Int)) = ((chw e f g : Nat) : Int) := by
  rw [u32_and_nat _ _ he hf, u32_and_nat _ _ (by omega) hg, u32_xor_nat _ _ (and_lt' _ he) (and_lt' _ (by omega))]; rfl
theorem maj_int (a b c : Nat) (ha : a < 4294967296) (hb : b < 4294967296) (hc : c < 4294967296) :
    bits .xor .u32 (bits .xor .u32 (bits .and .u32 (a : Int) (b : Int)) (bits .and .u32 (a : Int) (c : Int))) (bits .and .u32 (b : Int) (c : Int)) = ((majw a b c : Nat) : Int) := by
  rw [u32_and_nat _ _ ha hb, u32_and_nat _ _ ha hc, u32_and_nat _ _ hb hc, u32_xor_nat _ _ (and_lt' _ ha) (and_lt' _ ha), u32_xor_nat _ _ (xor_lt (and_lt' _ ha) (and_lt' _ ha)) (and_lt' _ hb)]; rfl
/-- T1 -/
def t1w (s : List Nat) (k w : Nat) : Nat := (s.getD 7 0 + Sg1 (s.getD 4 0) + chw (s.getD 4 0) (s.getD 5 0) (s.getD 6 0) + k + w) % 4294967296
/-- T2 -/
def t2w (s : List Nat) : Nat := (Sg0 (s.getD 0 0) + majw (s.getD 0 0) (s.getD 1 0) (s.getD 2 0)) % 4294967296
theorem rnd_t (s : List Nat) (k w : Nat) : rnd s k w = [(t1w s k w + t2w s) % 4294967296, s.getD 0 0, s.getD 1 0, s.getD 2 0, (s.getD 3 0 + t1w s k w) % 4294967296, s.getD 4 0, s.getD 5 0, s.getD 6 0] := by
  unfold rnd t1w t2w
  congr 1
  · omega
  · congr 4
    omega
theorem sum5 (a b c d e : Nat) : IntKind.u32.wrap (IntKind.u32.wrap (IntKind.u32.wrap (IntKind.u32.wrap ((a : Int) + b) + c) + d) + e) = (((a + b + c + d + e) % 4294967296 : Nat) : Int) := by
  rw [IntKind.wrap_u32', IntKind.wrap_u32', IntKind.wrap_u32', IntKind.wrap_u32']; omega
theorem sum2 (a b : Nat) : IntKind.u32.wrap ((a : Int) + b) = (((a + b) % 4294967296 : Nat) : Int) := by
  rw [IntKind.wrap_u32']; omega
theorem getD8 (s : List Nat) (h : s.length = 8) : s = [s.getD 0 0, s.getD 1 0, s.getD 2 0, s.getD 3 0, s.getD 4 0, s.getD 5 0, s.getD 6 0, s.getD 7 0] := by
  match s, h with
  | [a, b, c, d, e, f, g, h], _ => rfl
/-- the state when the first i words are added to -/
def addp (s r : List Nat) (i : Nat) : List Nat := (List.range 8).map fun k => if k < i then (s.getD k 0 + r.getD k 0) % 4294967296 else s.getD k 0
theorem addp_len (s r : List Nat) (i : Nat) : (addp s r i).length = 8 := by simp [addp]
theorem addp_zero (s r : List Nat) (h : s.length = 8) : addp s r 0 = s := by
  have : List.range 8 = [0, 1, 2, 3, 4, 5, 6, 7] := rfl
  rw [getD8 s h]
  unfold addp
  rw [this]
  rfl
theorem addp_all (s : List Nat) (b : List Int) : addp s (rnds s (wds b) 64) 8 = thru s b := by
  unfold addp thru
  apply List.map_congr_left
  intro k hk
  rw [if_pos (List.mem_range.1 hk)]
theorem addp_at (s r : List Nat) (i : Nat) (hi : i < 8) : (addp s r i).getD i 0 = s.getD i 0 := by
  simp [addp, List.getD_eq_getElem?_getD, hi]
theorem addp_next (s r : List Nat) (i : Nat) (_hi : i < 8) : addp s r (i + 1) = (addp s r i).set i ((s.getD i 0 + r.getD i 0) % 4294967296) := by
  apply List.ext_getElem
  · simp [addp]
  · intro k h1 h2
    rw [List.getElem_set]
    by_cases e : i = k
    · subst e; simp [addp]
    · rw [if_neg e]
      simp only [addp, List.getElem_map, List.getElem_range]
      by_cases h : k < i
      · rw [if_pos h, if_pos (by omega)]
      · rw [if_neg h, if_neg (by omega)]
end Go.Proofs.Ytnifflnhbpfmnaa
