/- A byte of bytes turned: plain facts, and in memory. -/
import Derived.Test.YtjljpdniofiaaaaHsa
import Derived.Test.YtjljpdniofiaaaaHm
import Derived.Test.YtjljpdniofiaaaaTg
namespace Go.Proofs.Ytjljpdniofiaaaa
open Go.RowKit

theorem set_turned (l : List Int) (h8 : U8 l) (k : Nat) (hk : k < l.length) (x : Nat) : l = l.set k (((l.getD k 0).toNat ^^^ x : Nat) : Int) ↔ x = 0 := by
  have hr := h8.at k
  constructor
  · intro h
    have e : l.getD k 0 = (((l.getD k 0).toNat ^^^ x : Nat) : Int) := by
      have h2 : l[k]? = (l.set k (((l.getD k 0).toNat ^^^ x : Nat) : Int))[k]? := by rw [← h]
      rw [List.getElem?_set_self (by exact hk), List.getElem?_eq_getElem hk] at h2
      have h3 : l.getD k 0 = l[k] := by rw [List.getD_eq_getElem?_getD, List.getElem?_eq_getElem hk]; rfl
      rw [h3] at h2 ⊢
      exact Option.some.inj h2
    have e2 : (l.getD k 0).toNat = (l.getD k 0).toNat ^^^ x := by omega
    have e3 : (l.getD k 0).toNat ^^^ ((l.getD k 0).toNat ^^^ x) = 0 := by rw [← e2]; exact Nat.xor_self _
    rw [← Nat.xor_assoc, Nat.xor_self, Nat.zero_xor] at e3
    exact e3
  · rintro rfl
    rw [Nat.xor_zero]
    have h3 : ((l.getD k 0).toNat : Int) = l[k] := by
      have : l.getD k 0 = l[k] := by rw [List.getD_eq_getElem?_getD, List.getElem?_eq_getElem hk]; rfl
      rw [← this]; omega
    rw [h3, List.set_getElem_self]
theorem one_more (l : List Int) (y : Int) : ¬ l = l ++ [y] := fun h => by
  have := congrArg List.length h
  rw [List.length_append] at this
  simp only [List.length_singleton] at this
  omega
theorem Bs.store {kd : IntKind} {w : World} {g n cap : Nat} {xs : List Int} (h : Bs kd w (.slice (some ⟨g, 0, none⟩) n cap) xs) (k : Nat) (hk : k < n) (z : Int) : Bs kd (w.setCell ⟨g, k, none⟩ (.int kd z)) (.slice (some ⟨g, 0, none⟩) n cap) (xs.set k z) := by
  have hn := h.length
  obtain ⟨ao, cap', e, hc, hr⟩ := h
  simp at e
  obtain ⟨rfl, rfl, rfl⟩ := e
  have hx : xs ≠ [] := fun e => by subst e; simp at hk
  obtain ⟨b, off, e2, hcell⟩ := hr hx
  simp at e2
  obtain ⟨rfl, rfl⟩ := e2
  refine ⟨_, _, by rw [List.length_set], by rw [List.length_set]; exact hc, fun _ => ⟨g, 0, rfl, fun j hj => ?_⟩⟩
  rw [List.length_set] at hj
  have hj2 := hcell j hj
  rw [Nat.zero_add] at hj2 ⊢
  by_cases e : k = j
  · subst e
    rw [World.cell?_setCell_same _ _ _ hj2, List.getD_eq_getElem?_getD, List.getElem?_set_self hj]; rfl
  · rw [World.cell?_setCell_other _ _ _ _ (fun e' => e (by cases e'; rfl)), hj2, List.getD_eq_getElem?_getD, List.getD_eq_getElem?_getD, List.getElem?_set_ne e]
theorem own_frozen {w : World} {lo : Nat} {E : TypeId} {g n cap : Nat} {xs : List Value} (h : w.ownsRow lo E 1 (.slice (some ⟨g, 0, none⟩) n cap) n xs) (j : Nat) : w.frozen? ⟨g, j, none⟩ = false := by
  rcases h.2 with ⟨e, _⟩ | ⟨g', cap', cur, e, _, hg, _⟩
  · cases e
  · cases e; exact frozen_of_row w g j _ E hg
end Go.Proofs.Ytjljpdniofiaaaa
