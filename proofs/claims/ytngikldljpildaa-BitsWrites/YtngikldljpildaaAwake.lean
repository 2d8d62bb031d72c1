/- The head of each statement: the document's example holds. -/
import Derived.Test.YtngikldljpildaaBytes
namespace Go.Proofs.Ytngikldljpildaa
open Go.RowKit

theorem awake_bits : bytesI ([] ++ bitsOf (5 : Int).toNat (3 : Int).toNat ++ bitsOf (1 : Int).toNat (2 : Int).toNat) = [168] := by decide +kernel
theorem awake_len : (([] ++ bitsOf (5 : Int).toNat (3 : Int).toNat ++ bitsOf (1 : Int).toNat (2 : Int).toNat).length : Int) = 5 := by decide +kernel
theorem awake_w5 : (wid (5 : Int).toNat : Int) ≤ 3 := by decide +kernel
theorem awake_w1 : (wid (1 : Int).toNat : Int) ≤ 2 := by decide +kernel
theorem awake_w8 : (wid (8 : Int).toNat : Int) = 4 := by decide +kernel

theorem hideIt {p : Prop} (h : p) : Hid p := h
theorem WrAt.foot_ge {T E : TypeId} {w : World} {lo B : Nat} {v : Value} {l : List Bool} (h : WrAt T E w lo B v l) {N : Nat} (hB : N ≤ B) : ∀ k, Foot B v k → N ≤ k := by
  intro k hk
  rcases hk with rfl | hk
  · exact hB
  · have := (h.own.lt k hk).1; have := h.lt; omega
theorem only_of_below {w w' : World} (h : Below w.heap.size w w') : Only (fun _ => False) w w' := ⟨h.os, h.tape, h.output, h.size, fun k hk _ => h.block k hk⟩
theorem Only.low {w w' : World} (h : Only (fun _ => False) w w') {N : Nat} (hN : N ≤ w.heap.size) : Below N w w' := h.below hN (fun _ f => f.elim)

theorem own_one {w : World} {lo : Nat} {v : Value} {x : Int} (h : w.ownsRow lo 5 1 v 1 [.int .u8 x]) : ∃ g cap, v = .slice (some ⟨g, 0, none⟩) 1 cap ∧ lo ≤ g ∧ w.cell? ⟨g, 0, none⟩ = some (.int .u8 x) ∧ w.frozen? ⟨g, 0, none⟩ = false ∧ 1 ≤ cap := by
  obtain ⟨g, cap, rfl, hlo, _⟩ := h.form (by omega)
  refine ⟨g, cap, rfl, hlo, ?_, h.frozenAt 0, ?_⟩
  · rw [h.cellAt 0 (by omega)]; rfl
  · rcases h.2 with ⟨h', _⟩ | ⟨_, _, _, h', _, _, hc, _⟩
    · cases h'
    · cases h'; exact hc

set_option maxHeartbeats 800000 in
set_option maxRecDepth 100000 in
theorem awake_any (w : World) :
    Calls Try.prog 9 #[] w fun e w' => e = .returned (.bool true) ∧ Only (fun _ => False) w w' := by
  go_enter Try.func9, Try.ntmps9
  go_wp2_with fail
  refine (put_wr (WrAt.new w) 5 3 (by omega) (by omega) (by omega) (by omega) awake_w5 (by simp)).mono ?_
  rintro e w1 ⟨rfl, v1, hw1, ho1, hs1⟩
  go_wp2_with fail
  refine (put_wr hw1 1 2 (by omega) (by omega) (by omega) (by omega) awake_w1 (by simp [bitsOf_length])).mono ?_
  rintro e w2 ⟨rfl, v2, hw2, ho2, hs2⟩
  go_wp2_with fail
  refine (bytes_wr hw2 (by simp [bitsOf_length])).mono ?_
  rintro e w3 ⟨v3, rfl, hown3, ho3⟩
  rw [awake_bits] at hown3
  obtain ⟨g, cap, rfl, hg, hcell, _, hcap⟩ := own_one hown3
  have hw3 := hw2.keep ho3 (fun f => f) (fun _ _ f => f)
  have HL := len_wr hw3
  rw [awake_len] at HL
  have ON : Hid (Only (fun _ => False) w w3) := by
    have b0 : Below w.heap.size w (w.alloc (.cells #[.slice none 0 0, .int .i64 0] 27)) := (Below.refl _ _).alloc (Nat.le_refl _) _
    have b1 := b0.trans (ho1.below (by simp) ((WrAt.new (T := 27) (E := 5) w).foot_ge (Nat.le_refl _)))
    have b2 := b1.trans (ho2.below b1.size (hw1.foot_ge (Nat.le_refl _)))
    exact only_of_below (b2.trans (ho3.low b2.size))
  have HL' := hideIt HL
  clear HL hw1 ho1 hs1 hw2 ho2 hs2 hown3 ho3 hw3
  go_wp2_with fail
  refine HL'.out.mono ?_
  rintro e w4 ⟨rfl, rfl⟩
  go_wp2_with fail
  refine (width_any 8 _ (by omega) (by omega)).mono ?_
  rw [awake_w8]
  rintro e w4 ⟨rfl, rfl⟩
  go_wp2
  go_ret
  exact ⟨rfl, ON.out⟩
end Go.Proofs.Ytngikldljpildaa
