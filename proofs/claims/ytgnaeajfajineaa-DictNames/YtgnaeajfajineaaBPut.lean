/- Contracts of package bits: one bit is put. -/
import Derived.Test.YtgnaeajfajineaaBLeaf
import Derived.Test.YtgnaeajfajineaaBWorld
import Derived.WalkSpells
import Derived.BigRegion
namespace Go.Proofs.Ytgnaeajfajineaa
open Go.RowKit


theorem Try.info5 : (Try.prog.info? 5).map (fun i => (i.zero, i.size, i.bytes)) = some (some (.int .u8 0), 1, 1) := by kernel_rfl

theorem two_cells {w : World} {B : Nat} {a b : Value} {T : TypeId} (h : w.heap[B]? = some (.cells #[a, b] T (0, 0))) :
    w.cell? ⟨B, 0, none⟩ = some a ∧ w.cell? ⟨B, 1, none⟩ = some b ∧ w.frozen? ⟨B, 0, none⟩ = false ∧ w.frozen? ⟨B, 1, none⟩ = false :=
  ⟨by simp [World.cell?, h], by simp [World.cell?, h], by simp [World.frozen?, h], by simp [World.frozen?, h]⟩

set_option maxHeartbeats 400000 in
set_option maxRecDepth 100000 in
theorem putBit_mid (B g cap m n : Nat) (x bit : Int) (w : World) (hne : B ≠ g)
    (h0 : w.cell? ⟨B, 0, none⟩ = some (.slice (some ⟨g, 0, none⟩) m cap)) (h1 : w.cell? ⟨B, 1, none⟩ = some (.int .i64 n))
    (f1 : w.frozen? ⟨B, 1, none⟩ = false) (hx : w.cell? ⟨g, n / 8, none⟩ = some (.int .u8 x)) (fx : w.frozen? ⟨g, n / 8, none⟩ = false)
    (hn : n ≤ 1000000000000) (hm : n / 8 < m) (hr : ((n : Int) % 8 == 0) = false) :
    Calls Try.prog 39 #[.pointer (some ⟨B, 0, none⟩), .int .u8 bit] w fun e w' => e = .returned (.tuple #[]) ∧
      w' = ((w.setCell ⟨g, n / 8, none⟩ (.int .u8 (bits .or .u8 x (bit * 2 ^ (7 - n % 8) % 256)))).setCell ⟨B, 1, none⟩ (.int .i64 ((n : Int) + 1))).drew := by
  have hi0 : (0 : Int) ≤ (n : Int) / 8 := by omega
  have hi1 : (n : Int) / 8 < (m : Int) := by omega
  go_enter Try.func39, Try.ntmps39
  go_wp2
  go_region
  all_goals go_wp2
  all_goals go_end0
  all_goals exact ⟨rfl, rfl⟩

set_option maxHeartbeats 400000 in
set_option maxRecDepth 100000 in
theorem putBit_new (lo B n m : Nat) (v : Value) (xs : List Value) (bit : Int) (w : World) (hB : w.heap[B]? = some (.cells #[v, .int .i64 n] 43 (0, 0))) (hlt : B < lo) (hle : lo ≤ w.heap.size)
    (hown : w.ownsRow lo 5 1 v m xs) (hn : n ≤ 1000000000000) (hm : n = 8 * m) (hr : ((n : Int) % 8 == 0) = true) :
    Calls Try.prog 39 #[.pointer (some ⟨B, 0, none⟩), .int .u8 bit] w fun e w' => e = .returned (.tuple #[]) ∧
      ∃ g cap w1, w1.ownsRow lo 5 1 (.slice (some ⟨g, 0, none⟩) (m + 1) cap) (m + 1) (xs ++ [.int .u8 0]) ∧ (w.alloc (.cells #[.int .u8 0] 5)).grownBy w1 v.ownBlock ∧ (v.ownBlock = some g ∨ g = w.heap.size + 1) ∧
      w' = (((w1.setCell ⟨B, 0, none⟩ (.slice (some ⟨g, 0, none⟩) (m + 1) cap)).setCell ⟨g, n / 8, none⟩ (.int .u8 (bits .or .u8 0 (bit * 2 ^ (7 - n % 8) % 256)))).setCell ⟨B, 1, none⟩ (.int .i64 ((n : Int) + 1))).drew := by
  obtain ⟨i0, hi, hz0, hz1, hz2⟩ := info_parts Try.info5
  obtain ⟨c0, c1, f0, f1⟩ := two_cells hB
  have hBlt : B < w.heap.size := by omega
  have hBo : v.ownBlock ≠ some B := fun e => by have := (hown.lt B e).1; omega
  have HM : Hid (n = 8 * m) := hm
  clear hm
  go_enter Try.func39, Try.ntmps39
  go_wp2_with (at_builtin; refine wpList_append_lies _ rfl _ _ _ rfl lo 5 i0 (.int .u8 0) 1 1 Try.underlying24 hi hz0 hz1 hz2 rfl (by omega) v m xs rfl (hown.alloc _) ⟨w.heap.size, 0, none⟩ 1 1 [.int .u8 0] rfl rfl ?c1 ?c2 (by omega) ?c3 ?c4 ?c5 (w.heap.size + 1) (by simp) ?_)
  case c1 => exact cell_one_new _ _ _
  case c2 => intro u hu; simp at hu; subst hu; rfl
  case c3 => have := HM.out; unfold maxLen; omega
  case c4 => have := HM.out; omega
  case c5 => simp; omega
  intro g cap w1 hown1 hgrow hat hg1
  have hB1 : w1.heap[B]? = some (.cells #[v, .int .i64 n] 43 (0, 0)) := by
    rw [hgrow.block B (by simp; omega) (fun e => hBo e.symm), Below.heap_alloc w _ B hBlt]; exact hB
  obtain ⟨k0, k1, e0, e1⟩ := two_cells hB1
  have hne : B ≠ g := by have := (hown1.lt g rfl).1; omega
  have hrow : w1.cell? ⟨g, n / 8, none⟩ = some (.int .u8 0) := by
    rw [hown1.cellAt (n / 8) (by have := HM.out; omega)]
    have : xs.length = n / 8 := by have := hown.1; have := HM.out; omega
    rw [List.getElem?_append_right (by omega)]; simp [this]
  have hfr : w1.frozen? ⟨g, n / 8, none⟩ = false := hown1.frozenAt _
  have hi0 : (0 : Int) ≤ (n : Int) / 8 := by omega
  have hi1 : (n : Int) / 8 < ((m + 1 : Nat) : Int) := by have := HM.out; omega
  have hi2 : (n : Int) / 8 < (m : Int) + 1 := by have := HM.out; omega
  have FIN : Hid (w1.ownsRow lo 5 1 (.slice (some ⟨g, 0, none⟩) (m + 1) cap) (m + 1) (xs ++ [.int .u8 0]) ∧ (w.alloc (.cells #[.int .u8 0] 5)).grownBy w1 v.ownBlock ∧ (v.ownBlock = some g ∨ g = w.heap.size + 1)) := ⟨hown1, hgrow, hat⟩
  clear hown1 hgrow hat hown hB1
  go_wp2
  go_region
  all_goals go_wp2
  all_goals go_end0
  all_goals exact ⟨rfl, g, cap, w1, FIN.out.1, FIN.out.2.1, FIN.out.2.2, rfl⟩

theorem heap_two {w : World} {B : Nat} {a b : Value} {T : TypeId} (h : w.heap[B]? = some (.cells #[a, b] T (0, 0))) (c : Value) :
    (w.setCell ⟨B, 0, none⟩ c).heap[B]? = some (.cells #[c, b] T (0, 0)) ∧ (w.setCell ⟨B, 1, none⟩ c).heap[B]? = some (.cells #[a, c] T (0, 0)) := by
  have h0 := heap_setCell_same w B 0 #[a, b] T c h
  have h1 := heap_setCell_same w B 1 #[a, b] T c h
  exact ⟨by simpa using h0, by simpa using h1⟩

theorem len_succ (l : List Bool) (b : Bool) : ((l ++ [b]).length : Int) = (l.length : Int) + 1 := by simp

/-- A BIT: it stands behind the others. -/
theorem putBit_wr {w : World} {lo B : Nat} {v : Value} {l : List Bool} (h : WrAt 43 5 w lo B v l) (b : Bool) (bit : Int) (hb : bit = (b.toNat : Int)) (hl : l.length ≤ 1000000000000) :
    Calls Try.prog 39 #[.pointer (some ⟨B, 0, none⟩), .int .u8 bit] w fun e w' => e = .returned (.tuple #[]) ∧
      ∃ v', WrAt 43 5 w' lo B v' (l ++ [b]) ∧ Only (Foot B v) w w' ∧ Stays w v v' := by
  subst hb
  have hBlt : B < w.heap.size := Nat.lt_of_lt_of_le h.lt h.le
  by_cases hr : l.length % 8 = 0
  · have hm : l.length = 8 * nb l := by unfold nb; omega
    refine (putBit_new lo B l.length (nb l) v (byteVals l) b.toNat w h.cell h.lt h.le h.own hl hm (by rw [beq_iff_eq]; omega)).mono ?_
    rintro e w' ⟨rfl, g, cap, w1, hown1, hgrow, hat, rfl⟩
    refine ⟨rfl, .slice (some ⟨g, 0, none⟩) (nb l + 1) cap, ?_, ?_, ?_⟩
    · have hne : B ≠ g := by have := (hown1.lt g rfl).1; have := h.lt; omega
      have hBo : v.ownBlock ≠ some B := fun e => by have := (h.own.lt B e).1; have := h.lt; omega
      have hB1 : w1.heap[B]? = some (.cells #[v, .int .i64 l.length] 43 (0, 0)) := by
        rw [hgrow.block B (by simp; omega) (fun e => hBo e.symm), Below.heap_alloc w _ B hBlt]; exact h.cell
      have hz : byteAt l (l.length / 8) = 0 := by
        have := (byteAt_snoc_add l b (l.length / 8) 0 (by omega) (by omega)).2
        have := byteAt_lt l (l.length / 8)
        omega
      have hor := byte_or l b l.length rfl
      rw [hz] at hor
      rw [show ((0 : Nat) : Int) = 0 from rfl] at hor
      refine ⟨?_, ?_, h.lt, ?_⟩
      · have o1 := ownsRow_setCell_below hown1 (a := ⟨B, 0, none⟩) h.lt (.slice (some ⟨g, 0, none⟩) (nb l + 1) cap)
        have o2 := (o1.stored (l.length / 8) (.int .u8 (bits .or .u8 0 (b.toNat * 2 ^ (7 - l.length % 8) % 256)))).1
        have o3 := ownsRow_setCell_below o2 (a := ⟨B, 1, none⟩) h.lt (.int .i64 ((l.length : Int) + 1))
        have o4 := o3.drew
        rw [hor, byteVals_new l b hr] at o4
        have en : nb (l ++ [b]) = nb l + 1 := by rw [nb_snoc, if_pos hr]
        rw [hor, en]
        exact o4
      · have q1 := (heap_two hB1 (.slice (some ⟨g, 0, none⟩) (nb l + 1) cap)).1
        have q2 : ((w1.setCell ⟨B, 0, none⟩ (.slice (some ⟨g, 0, none⟩) (nb l + 1) cap)).setCell ⟨g, l.length / 8, none⟩ (.int .u8 (bits .or .u8 0 (b.toNat * 2 ^ (7 - l.length % 8) % 256)))).heap[B]? = some (.cells #[.slice (some ⟨g, 0, none⟩) (nb l + 1) cap, .int .i64 l.length] 43 (0, 0)) := by
          rw [Below.heap_setCell _ _ _ _ hne]; exact q1
        have q3 := (heap_two q2 (.int .i64 ((l.length : Int) + 1))).2
        rw [len_succ]
        exact q3
      · have := hgrow.size
        simp at this
        show lo ≤ (World.setCell _ _ _).heap.size
        simp [World.setCell]
        have := h.le
        omega
    · have a1 : Only (Foot B v) w w1 := ((Only.refl _ _).alloc _).grown hgrow (fun k _ e => .inr e)
      refine (((a1.setCell (fun _ => .inl rfl) _).setCell (fun hlt => ?_) _).setCell (fun _ => .inl rfl) _).drew
      rcases hat with hat | hat
      · exact .inr hat
      · subst hat; simp at hlt; omega
    · rcases hat with hat | hat
      · exact .inl hat.symm
      · exact .inr fun k hk => by simp [Value.ownBlock] at hk; omega
  · have hn0 : 0 < nb l := by unfold nb; omega
    obtain ⟨g, cap, rfl, hg0, hg1⟩ := h.own.form hn0
    obtain ⟨c0, c1, f0, f1⟩ := two_cells h.cell
    have hne : B ≠ g := by have := h.lt; omega
    have hrow : w.cell? ⟨g, l.length / 8, none⟩ = some (.int .u8 (byteAt l (l.length / 8))) := by
      rw [h.own.cellAt _ (by unfold nb; omega), byteVals_get, if_pos (by unfold nb; omega)]
    refine (putBit_mid B g cap (nb l) l.length (byteAt l (l.length / 8)) b.toNat w hne c0 c1 f1 hrow (h.own.frozenAt _) hl (by unfold nb; omega) (by rw [beq_eq_false_iff_ne]; omega)).mono ?_
    rintro e w' ⟨rfl, rfl⟩
    have hor := byte_or l b l.length rfl
    refine ⟨rfl, .slice (some ⟨g, 0, none⟩) (nb l) cap, ?_, ?_, .inl rfl⟩
    · refine ⟨?_, ?_, h.lt, ?_⟩
      · have o2 := (h.own.stored (l.length / 8) (.int .u8 (bits .or .u8 (byteAt l (l.length / 8)) (b.toNat * 2 ^ (7 - l.length % 8) % 256)))).1
        have o3 := ownsRow_setCell_below o2 (a := ⟨B, 1, none⟩) h.lt (.int .i64 ((l.length : Int) + 1))
        have o4 := o3.drew
        rw [hor, byteVals_mid l b hr] at o4
        have en : nb (l ++ [b]) = nb l := by rw [nb_snoc, if_neg hr]
        rw [hor, en]
        exact o4
      · have q2 : (w.setCell ⟨g, l.length / 8, none⟩ (.int .u8 (bits .or .u8 (byteAt l (l.length / 8)) (b.toNat * 2 ^ (7 - l.length % 8) % 256)))).heap[B]? = some (.cells #[.slice (some ⟨g, 0, none⟩) (nb l) cap, .int .i64 l.length] 43 (0, 0)) := by
          rw [Below.heap_setCell _ _ _ _ hne]; exact h.cell
        have q3 := (heap_two q2 (.int .i64 ((l.length : Int) + 1))).2
        rw [len_succ]
        exact q3
      · show lo ≤ (World.setCell _ _ _).heap.size
        simp [World.setCell]
        exact h.le
    · exact (((Only.refl _ _).setCell (fun _ => .inr rfl) _).setCell (fun _ => .inl rfl) _).drew
end Go.Proofs.Ytgnaeajfajineaa
