/- Contract of slices.Clone of bytes: new memory, the same bytes. -/
import Derived.Test.YtnifflnhbpfmnabProg
import Derived.Test.YtnifflnhbpfmnabBase
import Derived.WalkSpells
import Derived.BigRegion
namespace Go.Proofs.Ytnifflnhbpfmnab
open Go.RowKit

theorem Try.infoC8 : (Try.prog.info? 5).map (fun i => (i.zero, i.size, i.bytes)) = some (some (.int .u8 0), 1, 1) := by kernel_rfl
set_option maxHeartbeats 400000 in
set_option maxRecDepth 100000 in
theorem clone_nil (c : Nat) (w : World) : Calls Try.prog 32 #[.slice none 0 c] w fun e w' => e = .returned (.slice none 0 0) ∧ w = w' := by
  have hnil : ∀ W, (binOp .eql 25 (.slice none 0 c) (.slice none 0 0)).run Try.prog W = .ok (.bool true) W := fun W => by
    rw [Lib.run_eql_slice_nil W 25 5 none 0 c 0 0 Try.underlying25]; rfl
  go_enter Try.func32, Try.ntmps32
  go_wp2
  go_ret
  exact ⟨rfl, rfl⟩

set_option maxHeartbeats 400000 in
set_option maxRecDepth 100000 in
theorem clone_some (ad : Addr) (m c : Nat) (news : List Value) (w : World) (hl : news.length = m) (hnews : ∀ j u, news[j]? = some u → w.cell? (ad.add j) = some u) (h1 : ∀ u ∈ news, u.oneCell' = true) (hm : m ≤ 140737488355328) :
    Calls Try.prog 32 #[.slice (some ad) m c] w fun e w' => ∃ v', e = .returned v' ∧ w'.ownsRow w.heap.size 5 1 v' m news ∧ Only (fun _ => False) w w' ∧ v' ≠ .slice none 0 0 := by
  obtain ⟨i0, hi, hz0, hz1, hz2⟩ := info_parts Try.infoC8
  have hnil : ∀ W, (binOp .eql 25 (.slice (some ad) m c) (.slice none 0 0)).run Try.prog W = .ok (.bool false) W := fun W => by
    rw [Lib.run_eql_slice_nil W 25 5 (some ad) m c 0 0 Try.underlying25]; rfl
  have ho := World.ownsRow_made (base := w.heap.size) (e := 5) (size := 1) w #[] 0 (Nat.le_refl _) (by unfold maxLen; omega) rfl
  have HN : Hid (∀ j u, news[j]? = some u → w.cell? (ad.add j) = some u) := hnews
  clear hnews
  go_enter Try.func32, Try.ntmps32
  go_wp2_with (at_builtin; refine wpList_append_own_at _ rfl _ _ _ rfl w.heap.size 5 i0 (.int .u8 0) 1 1 Try.underlying25 hi hz0 hz1 hz2 rfl (by omega) (.slice (some ⟨w.heap.size, 0, none⟩) 0 0) 0 [] rfl ho ad m c news rfl ?c0 ?c1 h1 ?c3 ?c4 ?c5 ?_)
  case c0 => omega
  case c1 =>
    intro j u hu
    have h0 := HN.out j u hu
    rw [World.cell?_of_block (Below.heap_alloc w _ _ (World.block_lt_of_cell? w _ h0))]; exact h0
  case c3 => unfold maxLen; omega
  case c4 => omega
  case c5 => simp
  intro v' w1 hown1 hgrow hnn hat
  have FIN : Hid (w1.ownsRow w.heap.size 5 1 v' m news ∧ Only (fun _ => False) w w1 ∧ v' ≠ .slice none 0 0) := by
    refine ⟨by simpa using hown1, ((Only.refl _ _).alloc _).grown hgrow (fun k hk e => ?_), hnn⟩
    simp [Value.ownBlock] at e
    omega
  clear hown1 hgrow hnn hat ho
  go_wp2
  go_ret
  exact ⟨v', rfl, FIN.out⟩

/-- A COPY of a slice of bytes: new memory, the same bytes. -/
theorem clone_bs (v : Value) (xs : List Int) (w : World) (h : Bs .u8 w v xs) (hm : xs.length ≤ 140737488355328) :
    Calls Try.prog 32 #[v] w fun e w' => ∃ v', e = .returned v' ∧ w'.ownsRow w.heap.size 5 1 v' xs.length (xs.map (Value.int .u8)) ∧ Only (fun _ => False) w w' := by
  obtain ⟨ao, cap, rfl, hc, hr⟩ := h
  cases ao with
  | none =>
    have hx : xs = [] := by
      cases xs with
      | nil => rfl
      | cons a t => obtain ⟨b, off, h, _⟩ := hr (by simp); cases h
    subst hx
    refine (clone_nil cap w).mono ?_
    rintro e w' ⟨rfl, rfl⟩
    exact ⟨_, rfl, World.ownsRow_nil _ _ _ _, Only.refl _ _⟩
  | some ad =>
    refine (clone_some ad xs.length cap (xs.map (Value.int .u8)) w (by simp) ?_ (oneCell_ints _ _) hm).mono ?_
    · intro j u hu
      have hj : j < xs.length := by
        have := (List.getElem?_eq_some_iff.1 hu).1
        simpa using this
      obtain ⟨b, off, hb, hcell⟩ := hr (by intro h; subst h; simp at hj)
      cases hb
      have hadd : (⟨b, off, none⟩ : Addr).add j = ⟨b, off + j, none⟩ := by unfold Addr.add; split <;> simp_all
      rw [hadd, hcell j hj]
      rw [← hu]
      simp [List.getElem?_eq_getElem hj]
    · rintro e w' ⟨v', rfl, h1, h2, _⟩
      exact ⟨v', rfl, h1, h2⟩

end Go.Proofs.Ytnifflnhbpfmnab
