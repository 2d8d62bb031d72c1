/- append onto '[]byte(s)'. -/
import Derived.Test.YtbcfpiahhippaaaSbc
import Derived.Test.YtbcfpiahhippaaaAr0
import Derived.Test.YtbcfpiahhippaaaIu8
import Derived.ArgAppend
namespace Go.Proofs.Ytbcfpiahhippaaa
open Go.RowKit

theorem bytesRow_size (t : ByteArray) (c : Nat) (h : t.size ≤ c) : (bytesRow t c).size = c := by
  have : t.data.size = t.size := rfl
  simp [bytesRow, this]; omega
theorem bytesRow_at (t : ByteArray) (c j : Nat) (hj : j < t.size) : (bytesRow t c)[j]? = some (.int .u8 ((sb t).getD j 0)) := by
  simp [bytesRow, Array.getElem?_append, hj, sb, List.getD_eq_getElem?_getD]
/-- append([]byte(s), y): the same block where there is room, else a new one -/
theorem wpList_append_str (w : World) {ops : Array Oper} {rest : List Oper} {o : Oper} {a : Act} {Q : Exit → Act → World → Prop} (hgd : o.guard = none) (s x : Operand)
    (ho : o.op = .call { callee := .builtin .append, args := #[s, x], argTypes := #[22, 22] }) (t : ByteArray) (g c l : Nat) (y : Int)
    (hh : w.heap[g]? = some (bytesObj t c)) (hc : t.size ≤ c) (hs : a.eval s = .slice (some ⟨g, 0, none⟩) t.size c) (hl : w.cell? ⟨l, 0, none⟩ = some (.int .u8 y)) (hx : a.eval x = .slice (some ⟨l, 0, none⟩) 1 1) (ht : t.size ≤ 1000000)
    (h : ∀ v' w', Bs .u8 w' v' (sb t ++ [y]) → NoCap v' → Only (fun k => k = g) w w' → wpList Try.prog ops Q rest (a.put o.dst v') w') : wpList Try.prog ops Q (o :: rest) a w := by
  obtain ⟨i0, hi, hz0, hz1, hz2⟩ := info_parts Try.infoU8
  have hb := bytesRow_size t c hc
  have hcell : ∀ j, w.cell? ⟨g, j, none⟩ = (bytesRow t c)[j]? := fun j => by unfold World.cell?; simp only; rw [hh]; rfl
  refine wpList_append_arg w hgd s x 22 ho 5 i0 (.int .u8 0) 1 1 Try.underlying22 hi hz0 hz1 hz2 rfl (by decide) g 0 t.size c (bl (sb t)) hs (by rw [bl_len, sb_len, Nat.mul_one]) ?_ ⟨l, 0, none⟩ 1 1 [.int .u8 y] hx rfl ?_ (by intro u hu; simp at hu; subst hu; rfl) ?_ (by unfold maxLen; omega) (by omega) ?_ ?_
  · intro j u hu
    have hj : j < t.size := by
      have := (List.getElem?_eq_some_iff.1 hu).1
      simpa [bl_len, sb_len] using this
    rw [Nat.zero_add, hcell, bytesRow_at t c j hj, ← hu]
    have hj2 : j < (sb t).length := by rw [sb_len]; exact hj
    simp [bl, List.getElem?_eq_getElem hj2]
  · intro j u hu
    have hj : j = 0 := by
      have := (List.getElem?_eq_some_iff.1 hu).1
      simp at this; exact this
    subst hj
    simp at hu
    subst hu
    simpa [Addr.add] using hl
  · intro hr j hj
    have hj : j = 0 := by simp at hj; exact hj
    subst hj
    refine ⟨?_, ?_⟩
    · rw [hcell, Array.getElem?_eq_getElem (by rw [hb]; omega)]; rfl
    · unfold World.frozen?
      simp only
      rw [hh]
      simp only [bytesObj, hb]
      simp
      omega
  · intro hr
    refine h _ _ ?_ (NoCap.some _ _ _) ?_
    · have hin : ∀ j, j < [Value.int .u8 y].length → (w.cell? ⟨g, 0 + t.size * 1 + j, none⟩).isSome = true := fun j hj => by
        have hj : j = 0 := by simp at hj; exact hj
        subst hj
        rw [hcell, Array.getElem?_eq_getElem (by rw [hb]; omega)]; rfl
      refine ⟨_, c, by rw [List.length_append, sb_len]; rfl, by rw [List.length_append, sb_len]; simp; omega, fun _ => ⟨g, 0, rfl, fun j hj => ?_⟩⟩
      rw [List.length_append, sb_len] at hj
      simp only [List.length_cons, List.length_nil] at hj
      by_cases hjt : j < t.size
      · rw [World.cell?_setCells_out g _ _ _ _ (fun _ _ => .inl (by simp; omega)), Nat.zero_add, hcell, bytesRow_at t c j hjt]
        have hj2 : j < (sb t).length := by rw [sb_len]; exact hjt
        simp [List.getD_eq_getElem?_getD, List.getElem?_append, hj2]
      · have hj3 : j = t.size := by omega
        subst hj3
        have := World.cell?_setCells_in g [Value.int .u8 y] (0 + t.size * 1) w hin 0 (by simp)
        have e : (⟨g, 0 + t.size * 1 + 0, none⟩ : Addr) = ⟨g, 0 + t.size, none⟩ := by simp
        rw [e] at this
        rw [this]
        simp [List.getD_eq_getElem?_getD, sb_len]
    · show Only (fun k => k = g) w (w.setCell ⟨g, 0 + t.size * 1, none⟩ (.int .u8 y))
      exact Only.setCell (S := fun k => k = g) (Only.refl _ _) (p := ⟨g, 0 + t.size * 1, none⟩) (fun _ => rfl) _
  · intro hr v' w' hown hgrow
    refine h v' w' ?_ (NoCap.of_own hown) ?_
    · refine Bs.of_own (k := .u8) (E := 5) (lo := w.heap.size) ?_
      rw [List.length_append, sb_len, List.map_append]
      exact hown
    · exact (Only.refl _ _).grown hgrow (fun k hk e => by cases e)
end Go.Proofs.Ytbcfpiahhippaaa
