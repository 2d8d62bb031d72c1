/- A byte of a row of one's own turned: plain facts, and in memory. -/
import Derived.Test.YtbjmhhjdfmfkaaaGreatG3
import Derived.Test.YtbjmhhjdfmfkaaaGreatG1
namespace Go.Proofs.YtbjmhhjdfmfkaaaGreat
open Go.RowKit

/-- x with the bits of y turned -/
def XB (x y : Int) : Int := ((x.toNat ^^^ y.toNat : Nat) : Int)
theorem XB_range {x y : Int} (hx : 0 ≤ x ∧ x ≤ 255) (hy : 0 ≤ y ∧ y ≤ 255) : 0 ≤ XB x y ∧ XB x y ≤ 255 := by
  have : x.toNat ^^^ y.toNat < 256 := Nat.xor_lt_two_pow (n := 8) (by omega) (by omega)
  unfold XB
  omega
theorem XB_bits {x y : Int} (hx : 0 ≤ x ∧ x ≤ 255) (hy : 0 ≤ y ∧ y ≤ 255) : bits .xor .u8 x y = XB x y := by
  obtain ⟨a, rfl⟩ := Int.eq_ofNat_of_zero_le hx.1
  obtain ⟨b, rfl⟩ := Int.eq_ofNat_of_zero_le hy.1
  exact u8_xor_nat a b (by omega) (by omega)
theorem XB_self {x y : Int} (hx : 0 ≤ x) (hy : 0 ≤ y) (h : XB x y = x) : y = 0 := by
  unfold XB at h
  have e2 : x.toNat = x.toNat ^^^ y.toNat := by omega
  have e3 : x.toNat ^^^ (x.toNat ^^^ y.toNat) = 0 := by rw [← e2]; exact Nat.xor_self _
  rw [← Nat.xor_assoc, Nat.xor_self, Nat.zero_xor] at e3
  omega
/-- bytes with the one at k turned by y -/
def XBL (s : List Int) (k : Nat) (y : Int) : List Int := s.set k (XB (s.getD k 0) y)
theorem XBL_len (s : List Int) (k : Nat) (y : Int) : (XBL s k y).length = s.length := List.length_set ..
theorem XBL_u8 {s : List Int} (h : U8 s) (k : Nat) {y : Int} (hy : 0 ≤ y ∧ y ≤ 255) : U8 (XBL s k y) := fun z hz => by
  rcases List.mem_or_eq_of_mem_set hz with h1 | h1
  · exact h z h1
  · subst h1; exact XB_range (h.at k) hy
/-- turned they are others -/
theorem XBL_ne {s : List Int} (h : U8 s) {k : Nat} (hk : k < s.length) {y : Int} (hy : 0 ≤ y) (hne : y ≠ 0) : XBL s k y ≠ s := fun e => hne (by
  have h1 : (XBL s k y)[k]? = s[k]? := by rw [e]
  unfold XBL at h1
  rw [List.getElem?_set_self hk, List.getElem?_eq_getElem hk] at h1
  have h2 : s.getD k 0 = s[k] := by rw [List.getD_eq_getElem?_getD, List.getElem?_eq_getElem hk]; rfl
  rw [h2] at h1
  exact XB_self (by have := (h.at k).1; rw [h2] at this; exact this) hy (Option.some.inj h1))
theorem xb_at {w : World} {lo n : Nat} {v : Value} {xs : List Value} {E : TypeId} (h : w.ownsRow lo E 1 v n xs) (hn : 0 < n) : ∃ g cap, v = .slice (some ⟨g, 0, none⟩) n cap ∧ lo ≤ g ∧ n ≤ cap := by
  rcases h.2 with ⟨_, h0⟩ | ⟨g, cap, cur, rfl, hb, hg, hc, _⟩
  · omega
  · exact ⟨g, cap, rfl, hb, hc⟩
theorem xb_made0 (W : World) : (W.alloc (.cells #[] 5)).ownsRow W.heap.size 5 1 (.slice (some ⟨W.heap.size, 0, none⟩) 0 0) 0 (bl []) := World.ownsRow_made (base := W.heap.size) (e := 5) (size := 1) W #[] 0 (Nat.le_refl _) (by unfold maxLen; omega) rfl
/-- s[k] = s[k] ^ y: what is read, and what is there behind it -/
theorem xb_turn {w : World} {lo g n cap : Nat} {S : List Int} (h : w.ownsRow lo 5 1 (.slice (some ⟨g, 0, none⟩) n cap) n (bl S)) {k : Nat} (hk : k < n) (y : Int) :
    w.cell? ⟨g, k, none⟩ = some (.int .u8 (S.getD k 0)) ∧ w.frozen? ⟨g, k, none⟩ = false ∧ Bs .u8 (w.setCell ⟨g, k, none⟩ (.int .u8 (XB (S.getD k 0) y))) (.slice (some ⟨g, 0, none⟩) n cap) (XBL S k y) ∧ Only (fun j => j = g) w (w.setCell ⟨g, k, none⟩ (.int .u8 (XB (S.getD k 0) y))) := by
  have hl : S.length = n := by have := h.1; rw [bl_len] at this; omega
  have b : Bs .u8 w (.slice (some ⟨g, 0, none⟩) n cap) S := Bs.of_own (k := .u8) (E := 5) (lo := lo) (by rw [hl]; exact h)
  have hc : ∀ j, j < n → w.cell? ⟨g, j, none⟩ = some (.int .u8 (S.getD j 0)) := fun j hj => by
    obtain ⟨b', off, cap', e, hc⟩ := b.at j (by rw [hl]; exact hj)
    simp at e
    obtain ⟨⟨rfl, rfl⟩, _⟩ := e
    rw [Nat.zero_add] at hc; exact hc
  refine ⟨hc k hk, ?_, ⟨_, cap, by rw [XBL_len, hl], by rw [XBL_len, hl]; exact b.room, fun _ => ⟨g, 0, rfl, fun j hj => ?_⟩⟩, (Only.refl (fun j => j = g) w).setCell (p := ⟨g, k, none⟩) (fun _ => rfl) _⟩
  · rcases h.2 with ⟨e, _⟩ | ⟨g', cap', cur, e, _, hg, _⟩
    · cases e
    · cases e; exact frozen_of_row w g k _ 5 hg
  · rw [XBL_len, hl] at hj
    rw [Nat.zero_add]
    by_cases e : k = j
    · subst e
      rw [World.cell?_setCell_same _ _ _ (hc k hk)]
      unfold XBL
      rw [List.getD_eq_getElem?_getD (l := List.set ..), List.getElem?_set_self (by rw [hl]; exact hk)]; rfl
    · rw [World.cell?_setCell_other _ _ _ _ (fun e' => e (by cases e'; rfl)), hc j hj]
      unfold XBL
      rw [List.getD_eq_getElem?_getD (l := List.set ..), List.getElem?_set_ne e, List.getD_eq_getElem?_getD]
end Go.Proofs.YtbjmhhjdfmfkaaaGreat
