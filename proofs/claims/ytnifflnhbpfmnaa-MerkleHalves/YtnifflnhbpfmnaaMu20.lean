/- What leaves and a proof come to: further plain facts. -/
import Derived.Test.YtnifflnhbpfmnaaMo
namespace Go.Proofs.Ytnifflnhbpfmnaa

theorem rep_getD (i : Nat) (x : List (List Int)) (t : Nat) (h : i ≤ t) : (List.replicate i [] ++ x).getD t [] = x.getD (t - i) [] := by
  rw [List.getD_eq_getElem?_getD, List.getD_eq_getElem?_getD, List.getElem?_append_right (by rw [List.length_replicate]; exact h), List.length_replicate]
theorem rep_PRT (i : Nat) (x : List (List Int)) (lo hi : Nat) (h : i ≤ lo) : PRT (List.replicate i [] ++ x) lo hi = PRT x (lo - i) (hi - i) := by
  unfold PRT
  rw [List.drop_append, List.length_replicate, List.drop_of_length_le (by rw [List.length_replicate]; exact h), List.nil_append]
  congr 1; omega
/-- a part whose leaves are all there -/
theorem MAD_among {f lo hi i : Nat} {x p : List (List Int)} (hlt : lo < hi) (hf : hi - lo < f) (h1 : i ≤ lo) (h2 : hi ≤ i + x.length) : MAD f lo hi i x p = (TOP (PRT x (lo - i) (hi - i)), p) := by
  rw [MAD_whole f (List.replicate i [] ++ x) lo hi i x p hlt hf (by rw [List.length_append, List.length_replicate]; exact h2) h1 h2 (fun t a b => (rep_getD i x t a).symm), rep_PRT _ _ _ _ h1]
theorem MAD_used {f lo hi i : Nat} {x p : List (List Int)} (a : Nat) (h0 : 0 < x.length) (hlt : lo < hi) (hf : hi - lo < f) : (MAD f lo hi i x (p.drop a)).2 = p.drop (a + MNY f lo hi i (i + x.length - 1)) := by
  have h1 := CLS_tops f lo hi i x x p p a rfl
  have h2 := CLS_used f lo hi i x x p p a h0 hlt hf
  rw [← h1.2.2.1, h2]
theorem MAD_r8 : ∀ (f lo hi i : Nat) (x p : List (List Int)), R8 x → R8 p → U8 (MAD f lo hi i x p).1 ∧ (MAD f lo hi i x p).1.length ≤ 1000000000
  | 0, _, _, _, _, _, _, _ => ⟨fun y hy => by simp [MAD] at hy, by simp [MAD]⟩
  | f + 1, lo, hi, i, x, p, hx, hp => by
    unfold MAD
    split
    · simp only; rw [head_at]; exact hp.at 0
    · split
      · exact hx.at _
      · exact ⟨SHA_u8 _, by rw [NODE_len]; decide⟩
theorem drop_head (p : List (List Int)) (a : Nat) : (p.drop a).headD [] = p.getD a [] := by
  rw [List.headD_eq_head?_getD, List.head?_drop, List.getD_eq_getElem?_getD]
end Go.Proofs.Ytnifflnhbpfmnaa
