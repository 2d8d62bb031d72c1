/- Contracts of package cursor: what a cursor is in memory; New, left, skip, Left, End, next. -/
import Derived.Test.YtfoghkjlpdjmiaaVr3
import Derived.Test.YtfoghkjlpdjmiaaClone
namespace Go.Proofs.Ytfoghkjlpdjmiaa
open Go.RowKit

/-- a cursor in memory: the struct lies at block R, its slice is v, which reads as the bytes ys: what is left. -/
structure CurAt (T : TypeId) (w : World) (R : Nat) (v : Value) (ys : List Int) : Prop where
  bs : Bs .u8 w v ys
  rng : ∀ y ∈ ys, 0 ≤ y ∧ y ≤ 255
  cell : w.heap[R]? = some (.cells #[v] T (0, 0))
  ap : v.ownBlock ≠ some R
  len : ys.length ≤ 1000000000000
theorem CurAt.keep {T : TypeId} {w w' : World} {R : Nat} {v : Value} {ys : List Int} (h : CurAt T w R v ys) {S : Nat → Prop} (ho : Only S w w') (hR : ¬ S R) (hv : ∀ k, v.ownBlock = some k → ¬ S k) : CurAt T w' R v ys :=
  ⟨h.bs.keep ho hv, h.rng, ho.heap h.cell hR, h.ap, h.len⟩
theorem CurAt.form {T : TypeId} {w : World} {R : Nat} {v : Value} {ys : List Int} (h : CurAt T w R v ys) : ∃ ao cap, v = .slice ao ys.length cap := by
  obtain ⟨ao, cap, rfl, _⟩ := h.bs
  exact ⟨ao, cap, rfl⟩
theorem one_cell {w : World} {R : Nat} {v : Value} {T : TypeId} (h : w.heap[R]? = some (.cells #[v] T (0, 0))) : w.cell? ⟨R, 0, none⟩ = some v ∧ w.frozen? ⟨R, 0, none⟩ = false :=
  ⟨by simp [World.cell?, h], by simp [World.frozen?, h]⟩
theorem heap_one {w : World} {R : Nat} {v : Value} {T : TypeId} (h : w.heap[R]? = some (.cells #[v] T (0, 0))) (u : Value) : (w.setCell ⟨R, 0, none⟩ u).heap[R]? = some (.cells #[u] T (0, 0)) := by
  have h0 := heap_setCell_same w R 0 #[v] T u h
  simpa using h0

set_option maxHeartbeats 400000 in
set_option maxRecDepth 100000 in
/-- A NEW CURSOR: on a copy of the bytes. -/
theorem new_bs (v : Value) (ys : List Int) (w : World) (h : Bs .u8 w v ys) (hr : ∀ y ∈ ys, 0 ≤ y ∧ y ≤ 255) (hl : ys.length ≤ 1000000000000) :
    Calls Try.prog 23 #[v] w fun e w' => ∃ R v', e = .returned (.pointer (some ⟨R, 0, none⟩)) ∧ CurAt 53 w' R v' ys ∧ Only (fun _ => False) w w' ∧ w.heap.size ≤ R ∧ R < w'.heap.size ∧ (∀ k, v'.ownBlock = some k → w.heap.size ≤ k ∧ k < w'.heap.size) := by
  have HB := hideIt h
  have HR := hideIt hr
  clear h hr
  go_enter Try.func23, Try.ntmps23
  go_wp2_with fail
  refine (clone_bs v ys _ HB.out (by omega)).mono ?_
  rintro e w1 ⟨v', rfl, hown, ho⟩
  have hbs := Bs.of_own hown
  have hlt := hown.lt
  obtain ⟨ao, cap, rfl, _⟩ := id hbs
  have HBS := hideIt hbs
  have HLT := hideIt hlt
  have HO := hideIt ho
  clear hown ho hbs hlt
  go_wp2
  go_ret
  have oa : Only (fun _ => False) w1 (w1.alloc (.cells #[.slice ao ys.length cap] 53)) := (Only.refl _ _).alloc _
  refine ⟨w1.heap.size, .slice ao ys.length cap, rfl, ⟨HBS.out.keep oa (fun _ _ f => f), HR.out, heap_alloc_new w1 _, ?_, hl⟩, HO.out.trans oa (fun _ _ f => f), HO.out.size, by simp, ?_⟩
  · intro e
    have := (HLT.out _ e).2
    omega
  · intro k hk
    have := HLT.out k hk
    simp
    omega

set_option maxHeartbeats 400000 in
set_option maxRecDepth 100000 in
theorem left_any (R m cap : Nat) (ao : Option Addr) (w : World) (h0 : w.cell? ⟨R, 0, none⟩ = some (.slice ao m cap)) :
    Calls Try.prog 33 #[.pointer (some ⟨R, 0, none⟩)] w fun e w' => e = .returned (.int .i64 m) ∧ w = w' := by
  go_enter Try.func33, Try.ntmps33
  go_wp2
  go_ret
  exact ⟨rfl, rfl⟩

theorem own_any (ao : Option Addr) (m c m' c' : Nat) : (Value.slice ao m c).ownBlock = (Value.slice ao m' c').ownBlock := by cases ao <;> rfl
set_option maxHeartbeats 400000 in
set_option maxRecDepth 100000 in
theorem skip_any (R n m cap : Nat) (ao : Option Addr) (w : World) (h0 : w.cell? ⟨R, 0, none⟩ = some (.slice ao m cap)) (f0 : w.frozen? ⟨R, 0, none⟩ = false) (h1 : n ≤ m) (h2 : m ≤ cap) :
    Calls Try.prog 34 #[.pointer (some ⟨R, 0, none⟩), .int .i64 n] w fun e w' => e = .returned (.slice ao n cap) ∧ w' = w.setCell ⟨R, 0, none⟩ (.slice (if cap = n then ao else ao.map (fun x => x.add n)) (m - n) (cap - n)) := by
  have i0 : (0 : Int) ≤ (n : Int) := by omega
  have i1 : (n : Int) ≤ (m : Int) := by omega
  have i2 : (n : Int) ≤ (cap : Int) := by omega
  by_cases hc : cap = n
  · subst hc
    go_enter Try.func34, Try.ntmps34
    go_wp2
    go_ret
    simp
  · go_enter Try.func34, Try.ntmps34
    go_wp2
    go_ret
    simp

/-- A STEP over n bytes: what is stepped over is handed out. -/
theorem skip_cur {w : World} {R : Nat} {v : Value} {ys : List Int} (h : CurAt 53 w R v ys) (n : Nat) (hn : n ≤ ys.length) :
    Calls Try.prog 34 #[.pointer (some ⟨R, 0, none⟩), .int .i64 n] w fun e w' => ∃ ao cap v2, e = .returned (.slice ao n cap) ∧ Bs .u8 w' (.slice ao n cap) (ys.take n) ∧ (Value.slice ao n cap).ownBlock = v.ownBlock ∧ CurAt 53 w' R v2 (ys.drop n) ∧ v2.ownBlock = v.ownBlock ∧ Only (fun k => k = R) w w' := by
  obtain ⟨ao, cap, rfl, hcap, hr⟩ := id h.bs
  refine (skip_any R n ys.length cap ao w (one_cell h.cell).1 (one_cell h.cell).2 hn hcap).mono ?_
  rintro e w' ⟨rfl, rfl⟩
  have ho : Only (fun k => k = R) w (w.setCell ⟨R, 0, none⟩ (.slice (if cap = n then ao else ao.map (fun x => x.add n)) (ys.length - n) (cap - n))) := Only.setCell (S := fun k => k = R) (p := ⟨R, 0, none⟩) (Only.refl _ _) (fun _ => rfl) _
  have hb2 : (Value.slice (if cap = n then ao else ao.map (fun x => x.add n)) (ys.length - n) (cap - n)).ownBlock = (Value.slice ao ys.length cap).ownBlock := by
    split
    · exact own_any _ _ _ _ _
    · exact own_cut _ _ _ _ _ _
  have hne : ∀ k, (Value.slice ao ys.length cap).ownBlock = some k → ¬ k = R := fun k hk e => h.ap (by rw [← e]; exact hk)
  have hd : Bs .u8 w (.slice (if cap = n then ao else ao.map (fun x => x.add n)) (ys.length - n) (cap - n)) (ys.drop n) := by
    split
    · rename_i hc
      subst hc
      rw [Nat.sub_self]
      exact h.bs.cut0 hn
    · exact h.bs.cut hn
  refine ⟨ao, cap, _, rfl, (h.bs.head hn).keep ho (fun k hk => hne k (by rw [own_any ao ys.length cap n cap]; exact hk)), own_any _ _ _ _ _, ⟨hd.keep ho (fun k hk => hne k (by rw [← hb2]; exact hk)), fun y hy => h.rng y (List.mem_of_mem_drop hy), heap_one h.cell _, by rw [hb2]; exact h.ap, ?_⟩, hb2, ho⟩
  have := h.len
  rw [List.length_drop]; omega
/-- HOW MANY are left. -/
theorem left_cur {w : World} {R : Nat} {v : Value} {ys : List Int} (h : CurAt 53 w R v ys) :
    Calls Try.prog 33 #[.pointer (some ⟨R, 0, none⟩)] w fun e w' => e = .returned (.int .i64 ys.length) ∧ w = w' := by
  obtain ⟨ao, cap, rfl⟩ := h.form
  exact left_any R ys.length cap ao w (one_cell h.cell).1

/-- what End says of the bytes that are left -/
def endV (ys : List Int) : Int := if 0 < ys.length then 3 else 0
set_option maxHeartbeats 400000 in
set_option maxRecDepth 100000 in
theorem next_nil (n : Int) (w : World) : Calls Try.prog 32 #[.pointer none, .int .i64 n] w fun e w' => e = .returned (.tuple #[.slice none 0 0, .int .i64 1]) ∧ w = w' := by
  go_enter Try.func32, Try.ntmps32
  go_wp2
  go_ret2
  exact ⟨rfl, rfl⟩
set_option maxHeartbeats 400000 in
set_option maxRecDepth 100000 in
theorem next_neg (R : Nat) (n : Int) (w : World) (h : n < 0) : Calls Try.prog 32 #[.pointer (some ⟨R, 0, none⟩), .int .i64 n] w fun e w' => e = .returned (.tuple #[.slice none 0 0, .int .i64 1]) ∧ w = w' := by
  go_enter Try.func32, Try.ntmps32
  go_wp2
  go_ret2
  exact ⟨rfl, rfl⟩
set_option maxHeartbeats 400000 in
set_option maxRecDepth 100000 in
theorem next_short {w : World} {R : Nat} {v : Value} {ys : List Int} (h : CurAt 53 w R v ys) (n : Int) (h0 : 0 ≤ n) (h1 : (ys.length : Int) < n) :
    Calls Try.prog 32 #[.pointer (some ⟨R, 0, none⟩), .int .i64 n] w fun e w' => e = .returned (.tuple #[.slice none 0 0, .int .i64 2]) ∧ w = w' := by
  have A := hideIt (left_cur h)
  clear h
  have d0 : decide (n < 0) = false := by simp; omega
  go_enter Try.func32, Try.ntmps32
  go_wp2_with fail
  refine A.out.mono ?_
  rintro e w1 ⟨rfl, rfl⟩
  go_wp2
  go_ret2
  exact ⟨rfl, rfl⟩
set_option maxHeartbeats 400000 in
set_option maxRecDepth 100000 in
theorem next_ok {w : World} {R : Nat} {v : Value} {ys : List Int} (h : CurAt 53 w R v ys) (n : Nat) (h1 : n ≤ ys.length) :
    Calls Try.prog 32 #[.pointer (some ⟨R, 0, none⟩), .int .i64 n] w fun e w' => ∃ ao cap v2, e = .returned (.tuple #[.slice ao n cap, .int .i64 0]) ∧ Bs .u8 w' (.slice ao n cap) (ys.take n) ∧ (Value.slice ao n cap).ownBlock = v.ownBlock ∧ CurAt 53 w' R v2 (ys.drop n) ∧ v2.ownBlock = v.ownBlock ∧ Only (fun k => k = R) w w' := by
  have A := hideIt (left_cur h)
  have B := hideIt (skip_cur h n h1)
  clear h
  have d0 : decide ((n : Int) < 0) = false := by simp
  have d1 : decide ((ys.length : Int) < (n : Int)) = false := by simp; omega
  go_enter Try.func32, Try.ntmps32
  go_wp2_with fail
  refine A.out.mono ?_
  rintro e w1 ⟨rfl, rfl⟩
  go_wp2_with fail
  refine B.out.mono ?_
  rintro e w1 ⟨ao, cap, v2, rfl, hr⟩
  have HR := hideIt hr
  clear hr
  go_wp2
  go_ret2
  exact ⟨ao, cap, v2, rfl, HR.out⟩
end Go.Proofs.Ytfoghkjlpdjmiaa
