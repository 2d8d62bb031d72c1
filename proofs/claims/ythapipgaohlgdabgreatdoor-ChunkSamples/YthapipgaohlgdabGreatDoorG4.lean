/- Several texts in one: Cu, Cu2, Rm. -/
import Derived.Test.YthapipgaohlgdabGreatDoorG3
import Derived.Test.YthapipgaohlgdabGreatDoorG1

/- Contracts of package cursor: what a cursor is in memory; New, left, skip, Left, End, next. -/
namespace Go.Proofs.YthapipgaohlgdabGreatDoor
open Go.RowKit

/-- a cursor in memory: the struct lies at block R, its slice is v, which reads as the bytes ys: what is left. -/
structure CurAt (T : TypeId) (w : World) (R : Nat) (v : Value) (ys : List Int) : Prop where
  bs : Bs .u8 w v ys
  rng : ∀ y ∈ ys, 0 ≤ y ∧ y ≤ 255
  cell : w.heap[R]? = some (.cells #[v] T (0, 0))
  ap : v.ownBlock ≠ some R
  len : ys.length ≤ 1000000000000
theorem CurAt.keep {T : TypeId} {w w' : World} {R : Nat} {v : Value} {ys : List Int} (h : CurAt T w R v ys) {S : Nat → Prop} (ho : Only S w w') (hR : ¬ S R) (hv : ∀ k, v.ownBlock = some k → ¬ S k) : CurAt T w' R v ys :=
  ⟨h.bs.keep ho hv, h.rng, ho.heap h.cell hR, h.ap, h.len⟩
theorem CurAt.form {T : TypeId} {w : World} {R : Nat} {v : Value} {ys : List Int} (h : CurAt T w R v ys) : ∃ ao cap, v = .slice ao ys.length cap := by
  obtain ⟨ao, cap, rfl, _⟩ := h.bs
  exact ⟨ao, cap, rfl⟩
theorem one_cell {w : World} {R : Nat} {v : Value} {T : TypeId} (h : w.heap[R]? = some (.cells #[v] T (0, 0))) : w.cell? ⟨R, 0, none⟩ = some v ∧ w.frozen? ⟨R, 0, none⟩ = false :=
  ⟨by simp [World.cell?, h], by simp [World.frozen?, h]⟩
theorem heap_one {w : World} {R : Nat} {v : Value} {T : TypeId} (h : w.heap[R]? = some (.cells #[v] T (0, 0))) (u : Value) : (w.setCell ⟨R, 0, none⟩ u).heap[R]? = some (.cells #[u] T (0, 0)) := by
  have h0 := heap_setCell_same w R 0 #[v] T u h
  simpa using h0

set_option maxHeartbeats 400000 in
set_option maxRecDepth 100000 in
/-- A NEW CURSOR: on a copy of the bytes. -/
theorem new_bs (v : Value) (ys : List Int) (w : World) (h : Bs .u8 w v ys) (hr : ∀ y ∈ ys, 0 ≤ y ∧ y ≤ 255) (hl : ys.length ≤ 1000000000000) :
    Calls Tryz.prog 17 #[v] w fun e w' => ∃ R v', e = .returned (.pointer (some ⟨R, 0, none⟩)) ∧ CurAt 77 w' R v' ys ∧ Only (fun _ => False) w w' ∧ w.heap.size ≤ R ∧ R < w'.heap.size ∧ (∀ k, v'.ownBlock = some k → w.heap.size ≤ k ∧ k < w'.heap.size) := by
  have HB := hideIt h
  have HR := hideIt hr
  clear h hr
  go_enter Tryz.func17, Tryz.ntmps17
  go_wp2_with fail
  refine (clone_bs v ys _ HB.out (by omega)).mono ?_
  rintro e w1 ⟨v', rfl, hown, ho⟩
  have hbs := Bs.of_own hown
  have hlt := hown.lt
  obtain ⟨ao, cap, rfl, _⟩ := id hbs
  have HBS := hideIt hbs
  have HLT := hideIt hlt
  have HO := hideIt ho
  clear hown ho hbs hlt
  go_wp2
  go_ret
  have oa : Only (fun _ => False) w1 (w1.alloc (.cells #[.slice ao ys.length cap] 77)) := (Only.refl _ _).alloc _
  refine ⟨w1.heap.size, .slice ao ys.length cap, rfl, ⟨HBS.out.keep oa (fun _ _ f => f), HR.out, heap_alloc_new w1 _, ?_, hl⟩, HO.out.trans oa (fun _ _ f => f), HO.out.size, by simp, ?_⟩
  · intro e
    have := (HLT.out _ e).2
    omega
  · intro k hk
    have := HLT.out k hk
    simp
    omega

set_option maxHeartbeats 400000 in
set_option maxRecDepth 100000 in
theorem left_any (R m cap : Nat) (ao : Option Addr) (w : World) (h0 : w.cell? ⟨R, 0, none⟩ = some (.slice ao m cap)) :
    Calls Tryz.prog 49 #[.pointer (some ⟨R, 0, none⟩)] w fun e w' => e = .returned (.int .i64 m) ∧ w = w' := by
  go_enter Tryz.func49, Tryz.ntmps49
  go_wp2
  go_ret
  exact ⟨rfl, rfl⟩

theorem own_any (ao : Option Addr) (m c m' c' : Nat) : (Value.slice ao m c).ownBlock = (Value.slice ao m' c').ownBlock := by cases ao <;> rfl
set_option maxHeartbeats 400000 in
set_option maxRecDepth 100000 in
theorem skip_any (R n m cap : Nat) (ao : Option Addr) (w : World) (h0 : w.cell? ⟨R, 0, none⟩ = some (.slice ao m cap)) (f0 : w.frozen? ⟨R, 0, none⟩ = false) (h1 : n ≤ m) (h2 : m ≤ cap) :
    Calls Tryz.prog 50 #[.pointer (some ⟨R, 0, none⟩), .int .i64 n] w fun e w' => e = .returned (.slice ao n cap) ∧ w' = w.setCell ⟨R, 0, none⟩ (.slice (if cap = n then ao else ao.map (fun x => x.add n)) (m - n) (cap - n)) := by
  have i0 : (0 : Int) ≤ (n : Int) := by omega
  have i1 : (n : Int) ≤ (m : Int) := by omega
  have i2 : (n : Int) ≤ (cap : Int) := by omega
  by_cases hc : cap = n
  · subst hc
    go_enter Tryz.func50, Tryz.ntmps50
    go_wp2
    go_ret
    simp
  · go_enter Tryz.func50, Tryz.ntmps50
    go_wp2
    go_ret
    simp

/-- A STEP over n bytes: what is stepped over is handed out. -/
theorem skip_cur {w : World} {R : Nat} {v : Value} {ys : List Int} (h : CurAt 77 w R v ys) (n : Nat) (hn : n ≤ ys.length) :
    Calls Tryz.prog 50 #[.pointer (some ⟨R, 0, none⟩), .int .i64 n] w fun e w' => ∃ ao cap v2, e = .returned (.slice ao n cap) ∧ Bs .u8 w' (.slice ao n cap) (ys.take n) ∧ (Value.slice ao n cap).ownBlock = v.ownBlock ∧ CurAt 77 w' R v2 (ys.drop n) ∧ v2.ownBlock = v.ownBlock ∧ Only (fun k => k = R) w w' := by
  obtain ⟨ao, cap, rfl, hcap, hr⟩ := id h.bs
  refine (skip_any R n ys.length cap ao w (one_cell h.cell).1 (one_cell h.cell).2 hn hcap).mono ?_
  rintro e w' ⟨rfl, rfl⟩
  have ho : Only (fun k => k = R) w (w.setCell ⟨R, 0, none⟩ (.slice (if cap = n then ao else ao.map (fun x => x.add n)) (ys.length - n) (cap - n))) := Only.setCell (S := fun k => k = R) (p := ⟨R, 0, none⟩) (Only.refl _ _) (fun _ => rfl) _
  have hb2 : (Value.slice (if cap = n then ao else ao.map (fun x => x.add n)) (ys.length - n) (cap - n)).ownBlock = (Value.slice ao ys.length cap).ownBlock := by
    split
    · exact own_any _ _ _ _ _
    · exact own_cut _ _ _ _ _ _
  have hne : ∀ k, (Value.slice ao ys.length cap).ownBlock = some k → ¬ k = R := fun k hk e => h.ap (by rw [← e]; exact hk)
  have hd : Bs .u8 w (.slice (if cap = n then ao else ao.map (fun x => x.add n)) (ys.length - n) (cap - n)) (ys.drop n) := by
    split
    · rename_i hc
      subst hc
      rw [Nat.sub_self]
      exact h.bs.cut0 hn
    · exact h.bs.cut hn
  refine ⟨ao, cap, _, rfl, (h.bs.head hn).keep ho (fun k hk => hne k (by rw [own_any ao ys.length cap n cap]; exact hk)), own_any _ _ _ _ _, ⟨hd.keep ho (fun k hk => hne k (by rw [← hb2]; exact hk)), fun y hy => h.rng y (List.mem_of_mem_drop hy), heap_one h.cell _, by rw [hb2]; exact h.ap, ?_⟩, hb2, ho⟩
  have := h.len
  rw [List.length_drop]; omega
/-- HOW MANY are left. -/
theorem left_cur {w : World} {R : Nat} {v : Value} {ys : List Int} (h : CurAt 77 w R v ys) :
    Calls Tryz.prog 49 #[.pointer (some ⟨R, 0, none⟩)] w fun e w' => e = .returned (.int .i64 ys.length) ∧ w = w' := by
  obtain ⟨ao, cap, rfl⟩ := h.form
  exact left_any R ys.length cap ao w (one_cell h.cell).1

set_option maxHeartbeats 400000 in
set_option maxRecDepth 100000 in
theorem Left_cur {w : World} {R : Nat} {v : Value} {ys : List Int} (h : CurAt 77 w R v ys) :
    Calls Tryz.prog 103 #[.pointer (some ⟨R, 0, none⟩)] w fun e w' => e = .returned (.int .i64 ys.length) ∧ w = w' := by
  have A := hideIt (left_cur h)
  clear h
  go_enter Tryz.func103, Tryz.ntmps103
  go_wp2_with fail
  refine A.out.mono ?_
  rintro e w1 ⟨rfl, rfl⟩
  go_wp2
  go_ret
  exact ⟨rfl, rfl⟩

/-- what End says of the bytes that are left -/
def endV (ys : List Int) : Int := if 0 < ys.length then 3 else 0
set_option maxHeartbeats 400000 in
set_option maxRecDepth 100000 in
theorem end_cur {w : World} {R : Nat} {v : Value} {ys : List Int} (h : CurAt 77 w R v ys) :
    Calls Tryz.prog 31 #[.pointer (some ⟨R, 0, none⟩)] w fun e w' => e = .returned (.int .i64 (endV ys)) ∧ w = w' := by
  have A := hideIt (left_cur h)
  clear h
  by_cases h0 : 0 < ys.length
  · have d0 : decide (0 < (ys.length : Int)) = true := by simp; omega
    have HE : Hid (endV ys = 3) := if_pos h0
    go_enter Tryz.func31, Tryz.ntmps31
    go_wp2_with fail
    refine A.out.mono ?_
    rintro e w1 ⟨rfl, rfl⟩
    go_wp2
    go_ret
    exact ⟨by rw [HE.out]; rfl, rfl⟩
  · have d0 : decide (0 < (ys.length : Int)) = false := decide_eq_false (by omega)
    have HE : Hid (endV ys = 0) := if_neg h0
    go_enter Tryz.func31, Tryz.ntmps31
    go_wp2_with fail
    refine A.out.mono ?_
    rintro e w1 ⟨rfl, rfl⟩
    go_wp2
    go_ret
    exact ⟨by rw [HE.out]; rfl, rfl⟩

set_option maxHeartbeats 400000 in
set_option maxRecDepth 100000 in
theorem next_nil (n : Int) (w : World) : Calls Tryz.prog 47 #[.pointer none, .int .i64 n] w fun e w' => e = .returned (.tuple #[.slice none 0 0, .int .i64 1]) ∧ w = w' := by
  go_enter Tryz.func47, Tryz.ntmps47
  go_wp2
  go_ret2
  exact ⟨rfl, rfl⟩
set_option maxHeartbeats 400000 in
set_option maxRecDepth 100000 in
theorem next_neg (R : Nat) (n : Int) (w : World) (h : n < 0) : Calls Tryz.prog 47 #[.pointer (some ⟨R, 0, none⟩), .int .i64 n] w fun e w' => e = .returned (.tuple #[.slice none 0 0, .int .i64 1]) ∧ w = w' := by
  go_enter Tryz.func47, Tryz.ntmps47
  go_wp2
  go_ret2
  exact ⟨rfl, rfl⟩
set_option maxHeartbeats 400000 in
set_option maxRecDepth 100000 in
theorem next_short {w : World} {R : Nat} {v : Value} {ys : List Int} (h : CurAt 77 w R v ys) (n : Int) (h0 : 0 ≤ n) (h1 : (ys.length : Int) < n) :
    Calls Tryz.prog 47 #[.pointer (some ⟨R, 0, none⟩), .int .i64 n] w fun e w' => e = .returned (.tuple #[.slice none 0 0, .int .i64 2]) ∧ w = w' := by
  have A := hideIt (left_cur h)
  clear h
  have d0 : decide (n < 0) = false := by simp; omega
  go_enter Tryz.func47, Tryz.ntmps47
  go_wp2_with fail
  refine A.out.mono ?_
  rintro e w1 ⟨rfl, rfl⟩
  go_wp2
  go_ret2
  exact ⟨rfl, rfl⟩
set_option maxHeartbeats 400000 in
set_option maxRecDepth 100000 in
theorem next_ok {w : World} {R : Nat} {v : Value} {ys : List Int} (h : CurAt 77 w R v ys) (n : Nat) (h1 : n ≤ ys.length) :
    Calls Tryz.prog 47 #[.pointer (some ⟨R, 0, none⟩), .int .i64 n] w fun e w' => ∃ ao cap v2, e = .returned (.tuple #[.slice ao n cap, .int .i64 0]) ∧ Bs .u8 w' (.slice ao n cap) (ys.take n) ∧ (Value.slice ao n cap).ownBlock = v.ownBlock ∧ CurAt 77 w' R v2 (ys.drop n) ∧ v2.ownBlock = v.ownBlock ∧ Only (fun k => k = R) w w' := by
  have A := hideIt (left_cur h)
  have B := hideIt (skip_cur h n h1)
  clear h
  have d0 : decide ((n : Int) < 0) = false := by simp
  have d1 : decide ((ys.length : Int) < (n : Int)) = false := by simp; omega
  go_enter Tryz.func47, Tryz.ntmps47
  go_wp2_with fail
  refine A.out.mono ?_
  rintro e w1 ⟨rfl, rfl⟩
  go_wp2_with fail
  refine B.out.mono ?_
  rintro e w1 ⟨ao, cap, v2, rfl, hr⟩
  have HR := hideIt hr
  clear hr
  go_wp2
  go_ret2
  exact ⟨ao, cap, v2, rfl, HR.out⟩
end Go.Proofs.YthapipgaohlgdabGreatDoor

/- Contracts of package cursor: Byte, Fixed, Varint, Bytes, Block. -/
namespace Go.Proofs.YthapipgaohlgdabGreatDoor
open Go.RowKit

theorem own_nil (N : Nat) : ∀ k, (Value.slice none 0 0).ownBlock = some k → N ≤ k := fun k hk => by cases hk
/-- bytes as a number, the first one the highest -/
def num (l : List Int) : Nat := l.foldl (fun a y => 256 * a + y.toNat) 0
theorem num_snoc (l : List Int) (y : Int) : num (l ++ [y]) = 256 * num l + y.toNat := by simp [num]
theorem num_lt (l : List Int) (hr : ∀ y ∈ l, 0 ≤ y ∧ y ≤ 255) : num l < 256 ^ l.length := by
  induction h : l.length generalizing l with
  | zero => have : l = [] := List.eq_nil_of_length_eq_zero h
            subst this; simp [num]
  | succ n ih =>
    have hne : l ≠ [] := by intro h0; subst h0; simp at h
    obtain ⟨t, b, rfl⟩ : ∃ t b, l = t ++ [b] := ⟨l.dropLast, l.getLast hne, (List.dropLast_concat_getLast hne).symm⟩
    have := ih t (fun y hy => hr y (by simp [hy])) (by simp at h; omega)
    have hb := hr b (by simp)
    rw [num_snoc, Nat.pow_succ]
    omega
theorem take_snoc (l : List Int) (k : Nat) (h : k < l.length) : l.take (k + 1) = l.take k ++ [l.getD k 0] := by
  rw [List.take_succ_eq_append_getElem h, List.getD_eq_getElem?_getD, List.getElem?_eq_getElem h]; rfl
theorem pow256 {k : Nat} (h : k ≤ 7) : 256 ^ k ≤ 72057594037927936 := by
  have h1 : 256 ^ k ≤ 256 ^ 7 := Nat.pow_le_pow_right (by omega) h
  have h2 : (256 : Nat) ^ 7 = 72057594037927936 := by decide
  omega
theorem num_step (zs : List Int) (k : Nat) (hr : ∀ y ∈ zs, 0 ≤ y ∧ y ≤ 255) (h8 : zs.length ≤ 8) (h : k < zs.length) :
    num (zs.take k) < 72057594037927936 ∧ bits .or .u64 ((num (zs.take k) : Int) * 256) (zs.getD k 0) = (num (zs.take (k + 1)) : Int) := by
  have hl := num_lt (zs.take k) (fun y hy => hr y (List.mem_of_mem_take hy))
  rw [List.length_take, Nat.min_eq_left (by omega)] at hl
  have hp := pow256 (k := k) (by omega)
  have hy := hr (zs.getD k 0) (by rw [List.getD_eq_getElem?_getD, List.getElem?_eq_getElem h]; simp)
  rw [take_snoc zs k h, num_snoc]
  generalize zs.getD k 0 = y at hy
  generalize num (zs.take k) = a at hl
  obtain ⟨m, rfl⟩ := Int.eq_ofNat_of_zero_le hy.1
  have e2 : ((a : Int) * 256) = ((256 * a : Nat) : Int) := by omega
  refine ⟨by omega, ?_⟩
  rw [e2, u64_or_nat _ _ (by omega) (by omega), nat_join 8 _ _ (by omega) (by omega), Int.toNat_natCast]

/-- what each call tells: the value, how many bytes are read, the error -/
def sByte (ys : List Int) : Int × Nat × Int := if ys.length = 0 then (0, 0, 2) else (ys.getD 0 0, 1, 0)
def sBytes (n : Int) (ys : List Int) : List Int × Nat × Int := if n < 0 then ([], 0, 1) else if (ys.length : Int) < n then ([], 0, 2) else (ys.take n.toNat, n.toNat, 0)
def sFixed (n : Int) (ys : List Int) : Int × Nat × Int := if n < 0 ∨ 8 < n then (0, 0, 1) else if (ys.length : Int) < n then (0, 0, 2) else (num (ys.take n.toNat), n.toNat, 0)
def sVarint (ys : List Int) : Int × Nat × Int := ((rd 0 0 ys).1, (rd 0 0 ys).2.1.toNat, (rd 0 0 ys).2.2)
def sBlock (most : Int) (ys : List Int) : List Int × Nat × Int :=
  if most < 0 then ([], 0, 1) else if (sVarint ys).2.2 ≠ 0 then ([], 0, (sVarint ys).2.2) else if most < (sVarint ys).1 then ([], 0, 4)
  else if (ys.length : Int) - (sVarint ys).2.1 < (sVarint ys).1 then ([], 0, 2) else ((ys.drop (sVarint ys).2.1).take (sVarint ys).1.toNat, (sVarint ys).2.1 + (sVarint ys).1.toNat, 0)

/-- what rd tells: an error, and zeroes beside it; or a number, and how many bytes it has -/
theorem rd_cases (ys : List Int) (hr : ∀ y ∈ ys, 0 ≤ y ∧ y ≤ 255) : (∃ c, rd 0 0 ys = (0, 0, c) ∧ (c = 2 ∨ c = 3)) ∨ (∃ a k : Nat, rd 0 0 ys = ((a : Int), (k : Int), 0) ∧ 1 ≤ k ∧ k ≤ ys.length ∧ k ≤ 10 ∧ a < 18446744073709551616 ∧ gs a = ys.take k) := by
  obtain ⟨r, n, c, h⟩ : ∃ r n c, rd 0 0 ys = (r, n, c) := ⟨_, _, _, rfl⟩
  rcases rd_err ys 0 0 with h0 | ⟨h1, h2, h3⟩
  · right
    rw [h] at h0
    simp at h0
    subst h0
    obtain ⟨a, k, e1, e2, k1, k2, hg, _, hv⟩ := rd_ok ys 0 0 r n (by omega) hr h
    simp at e1 e2 hv
    subst e1; subst e2
    refine ⟨a, k, h, k1, k2, ?_, hv, hg⟩
    have h10 := gs_le10 (v := a) hv
    rw [hg, List.length_take] at h10
    omega
  · left
    rw [h] at h1 h2 h3
    simp at h1 h2 h3
    subst h1; subst h2
    exact ⟨c, h, h3⟩

set_option maxHeartbeats 400000 in
set_option maxRecDepth 100000 in
/-- THE NEXT BYTE. -/
theorem byte_cur {w : World} {R : Nat} {v : Value} {ys : List Int} (h : CurAt 77 w R v ys) :
    Calls Tryz.prog 25 #[.pointer (some ⟨R, 0, none⟩)] w fun e w' => e = .returned (.tuple #[.int .u8 (sByte ys).1, .int .i64 (sByte ys).2.2]) ∧
      ∃ v2, CurAt 77 w' R v2 (ys.drop (sByte ys).2.1) ∧ v2.ownBlock = v.ownBlock ∧ Only (fun k => k = R) w w' := by
  by_cases h0 : ys.length = 0
  · have HS : Hid (sByte ys = (0, 0, 2)) := if_pos h0
    have A := hideIt (next_short h 1 (by omega) (by omega))
    have HC := hideIt h
    clear h
    go_enter Tryz.func25, Tryz.ntmps25
    go_wp2_with fail
    refine A.out.mono ?_
    rintro e w1 ⟨rfl, rfl⟩
    go_wp2
    go_ret2
    rw [HS.out]
    exact ⟨rfl, v, HC.out, rfl, Only.refl _ _⟩
  · have HS : Hid (sByte ys = (ys.getD 0 0, 1, 0)) := if_neg h0
    have A := hideIt (next_ok h 1 (by omega))
    clear h
    go_enter Tryz.func25, Tryz.ntmps25
    go_wp2_with fail
    refine A.out.mono ?_
    rintro e w1 ⟨ao, cap, v2, rfl, hb, _, hc, ho, hon⟩
    obtain ⟨b, off, cap', e1, hx⟩ := hb.at 0 (by rw [List.length_take]; omega)
    have ea : ao = some ⟨b, off, none⟩ := by simp at e1; exact e1.1
    subst ea
    clear e1
    have hg : (ys.take 1).getD 0 0 = ys.getD 0 0 := by
      rw [List.getD_eq_getElem?_getD, List.getD_eq_getElem?_getD, List.getElem?_take, if_pos (by omega)]
    rw [hg, Nat.add_zero] at hx
    generalize ys.getD 0 0 = y at hx HS
    have HR := hideIt (And.intro hc (And.intro ho hon))
    clear hb hc ho hon A
    go_wp2
    go_ret2
    rw [HS.out]
    exact ⟨rfl, v2, HR.out⟩

set_option maxHeartbeats 400000 in
set_option maxRecDepth 100000 in
/-- A NUMBER of so many bytes. -/
theorem fixed_cur {w : World} {R : Nat} {v : Value} {ys : List Int} (h : CurAt 77 w R v ys) (n : Int) :
    Calls Tryz.prog 74 #[.pointer (some ⟨R, 0, none⟩), .int .i64 n] w fun e w' => e = .returned (.tuple #[.int .u64 (sFixed n ys).1, .int .i64 (sFixed n ys).2.2]) ∧
      ∃ v2, CurAt 77 w' R v2 (ys.drop (sFixed n ys).2.1) ∧ v2.ownBlock = v.ownBlock ∧ Only (fun k => k = R) w w' := by
  by_cases h8 : 8 < n
  · have HS : Hid (sFixed n ys = (0, 0, 1)) := if_pos (.inr h8)
    have HC := hideIt h
    clear h
    go_enter Tryz.func74, Tryz.ntmps74
    go_wp2
    go_ret2
    rw [HS.out]
    exact ⟨rfl, v, HC.out, rfl, Only.refl _ _⟩
  have d8 : decide (8 < n) = false := decide_eq_false h8
  by_cases h0 : n < 0
  · have HS : Hid (sFixed n ys = (0, 0, 1)) := if_pos (.inl h0)
    have A := hideIt (next_neg R n w h0)
    have HC := hideIt h
    clear h
    go_enter Tryz.func74, Tryz.ntmps74
    go_wp2_with fail
    refine A.out.mono ?_
    rintro e w1 ⟨rfl, rfl⟩
    go_wp2
    go_ret2
    rw [HS.out]
    exact ⟨rfl, v, HC.out, rfl, Only.refl _ _⟩
  obtain ⟨n, rfl⟩ := Int.eq_ofNat_of_zero_le (Int.not_lt.1 h0)
  by_cases hs : (ys.length : Int) < (n : Int)
  · have HS : Hid (sFixed n ys = (0, 0, 2)) := by
      simp only [Hid, sFixed]
      rw [if_neg (by omega), if_pos hs]
    have A := hideIt (next_short h n (by omega) hs)
    have HC := hideIt h
    clear h
    go_enter Tryz.func74, Tryz.ntmps74
    go_wp2_with fail
    refine A.out.mono ?_
    rintro e w1 ⟨rfl, rfl⟩
    go_wp2
    go_ret2
    rw [HS.out]
    exact ⟨rfl, v, HC.out, rfl, Only.refl _ _⟩
  · have HS : Hid (sFixed n ys = ((num (ys.take n) : Int), n, 0)) := by
      simp only [Hid, sFixed]
      rw [if_neg (by omega), if_neg hs]
      rfl
    have A := hideIt (next_ok h n (by omega))
    have HZR : Hid (∀ y ∈ ys.take n, 0 ≤ y ∧ y ≤ 255) := fun y hy => h.rng y (List.mem_of_mem_take hy)
    have HZL : Hid ((ys.take n).length = n) := by simp only [Hid, List.length_take]; omega
    clear h
    go_enter Tryz.func74, Tryz.ntmps74
    go_wp2_with fail
    refine A.out.mono ?_
    rintro e w1 ⟨ao, cap, v2, rfl, hb, _, hc, ho, hon⟩
    have HB := hideIt hb
    have HR := hideIt (And.intro hc (And.intro ho hon))
    clear hb hc ho hon A
    generalize ys.take n = zs at HB HZR HZL HS
    go_wp2
    go_loop [8, 24] (fun a i => ∃ k : Nat, k ≤ n ∧ i = .int .i64 k ∧ a = .int .u64 (num (zs.take k))) (fun _ i => n - (intOf i).toNat)
    case atStart => exact ⟨0, Nat.zero_le _, rfl, rfl⟩
    case round =>
      obtain ⟨k, hk, rfl, rfl⟩ := hrel
      by_cases hlt : k < n
      · obtain ⟨b, off, cap', e1, hx⟩ := HB.out.at k (by rw [HZL.out]; exact hlt)
        have ea : ao = some ⟨b, off, none⟩ := by simp at e1; exact e1.1
        subst ea
        clear e1
        obtain ⟨ha, hst⟩ := num_step zs k HZR.out (by rw [HZL.out]; omega) (by rw [HZL.out]; exact hlt)
        have hy := HZR.out (zs.getD k 0) (by rw [List.getD_eq_getElem?_getD, List.getElem?_eq_getElem (by rw [HZL.out]; exact hlt)]; simp)
        generalize zs.getD k 0 = y at hx hst hy
        have i0 : (0 : Int) ≤ (k : Int) := by omega
        have i1 : (k : Int) < (n : Int) := by omega
        have HST := hideIt hst
        have hsh : (num (zs.take k) : Int) * 256 ≤ 18446744073709551615 := by omega
        generalize num (zs.take k) = a at HST ha hsh
        clear hst
        go_wp2
        go_round
        case rel => exact ⟨k + 1, by omega, by go_num, by rw [HST.out]⟩
        case measure => simp [intOf]; omega
      · have hkn : k = n := by omega
        subst hkn
        go_wp2
        go_ret2
        rw [HS.out, List.take_of_length_le (by rw [HZL.out]; omega)]
        exact ⟨rfl, v2, HR.out⟩

set_option maxHeartbeats 400000 in
set_option maxRecDepth 100000 in
/-- A VARINT. -/
theorem varint_cur {w : World} {R : Nat} {v : Value} {ys : List Int} (h : CurAt 77 w R v ys) :
    Calls Tryz.prog 52 #[.pointer (some ⟨R, 0, none⟩)] w fun e w' => e = .returned (.tuple #[.int .u64 (sVarint ys).1, .int .i64 (sVarint ys).2.2]) ∧
      ∃ v2, CurAt 77 w' R v2 (ys.drop (sVarint ys).2.1) ∧ v2.ownBlock = v.ownBlock ∧ Only (fun k => k = R) w w' := by
  obtain ⟨ao, cap, rfl⟩ := h.form
  have c0 := (one_cell h.cell).1
  rcases rd_cases ys h.rng with ⟨c, hrd, hc⟩ | ⟨a, k, hrd, _, hk, _, _, _⟩
  · have HS : Hid (sVarint ys = (0, 0, c)) := by simp only [Hid, sVarint]; rw [hrd]; rfl
    have A := hideIt (read_as _ ys w hrd h.bs h.rng)
    have HC := hideIt h
    have dc : (c != 0) = true := by simp; omega
    clear h hrd
    go_enter Tryz.func52, Tryz.ntmps52
    go_wp2_with fail
    refine A.out.mono ?_
    rintro e w1 ⟨rfl, rfl⟩
    go_wp2
    go_ret2
    rw [HS.out]
    exact ⟨rfl, _, HC.out, rfl, Only.refl _ _⟩
  · have HS : Hid (sVarint ys = ((a : Int), k, 0)) := by simp only [Hid, sVarint]; rw [hrd]; rfl
    have A := hideIt (read_as _ ys w hrd h.bs h.rng)
    have B := hideIt (skip_cur h k hk)
    clear h hrd
    go_enter Tryz.func52, Tryz.ntmps52
    go_wp2_with fail
    refine A.out.mono ?_
    rintro e w1 ⟨rfl, rfl⟩
    go_wp2_with fail
    refine B.out.mono ?_
    rintro e w1 ⟨ao', cap', v2, rfl, _, _, hc, ho, hon⟩
    have HR := hideIt (And.intro hc (And.intro ho hon))
    clear hc ho hon A B c0
    go_wp2
    go_ret2
    rw [HS.out]
    exact ⟨rfl, v2, HR.out⟩

set_option maxHeartbeats 400000 in
set_option maxRecDepth 100000 in
/-- SO MANY BYTES: new memory. -/
theorem bytes_cur {w : World} {R : Nat} {v : Value} {ys : List Int} (h : CurAt 77 w R v ys) (n : Int) :
    Calls Tryz.prog 102 #[.pointer (some ⟨R, 0, none⟩), .int .i64 n] w fun e w' => ∃ v1, e = .returned (.tuple #[v1, .int .i64 (sBytes n ys).2.2]) ∧ Bs .u8 w' v1 (sBytes n ys).1 ∧ NoCap v1 ∧ (∀ k, v1.ownBlock = some k → w.heap.size ≤ k) ∧
      ∃ v2, CurAt 77 w' R v2 (ys.drop (sBytes n ys).2.1) ∧ v2.ownBlock = v.ownBlock ∧ Only (fun k => k = R) w w' := by
  by_cases h0 : n < 0
  · have HS : Hid (sBytes n ys = ([], 0, 1)) := if_pos h0
    have A := hideIt (next_neg R n w h0)
    have HC := hideIt h
    clear h
    go_enter Tryz.func102, Tryz.ntmps102
    go_wp2_with fail
    refine A.out.mono ?_
    rintro e w1 ⟨rfl, rfl⟩
    go_wp2
    go_ret2
    rw [HS.out]
    exact ⟨.slice none 0 0, rfl, Bs.nil _ _, NoCap.nil, own_nil _, v, HC.out, rfl, Only.refl _ _⟩
  obtain ⟨n, rfl⟩ := Int.eq_ofNat_of_zero_le (Int.not_lt.1 h0)
  by_cases hs : (ys.length : Int) < (n : Int)
  · have HS : Hid (sBytes n ys = ([], 0, 2)) := by
      simp only [Hid, sBytes]
      rw [if_neg h0, if_pos hs]
    have A := hideIt (next_short h n (by omega) hs)
    have HC := hideIt h
    clear h
    go_enter Tryz.func102, Tryz.ntmps102
    go_wp2_with fail
    refine A.out.mono ?_
    rintro e w1 ⟨rfl, rfl⟩
    go_wp2
    go_ret2
    rw [HS.out]
    exact ⟨.slice none 0 0, rfl, Bs.nil _ _, NoCap.nil, own_nil _, v, HC.out, rfl, Only.refl _ _⟩
  · have HS : Hid (sBytes n ys = (ys.take n, n, 0)) := by
      simp only [Hid, sBytes]
      rw [if_neg h0, if_neg hs]
      rfl
    have A := hideIt (next_ok h n (by omega))
    have hlen := h.len
    have hRw : R < w.heap.size := (Array.getElem?_eq_some_iff.1 h.cell).1
    clear h
    go_enter Tryz.func102, Tryz.ntmps102
    go_wp2_with fail
    refine A.out.mono ?_
    rintro e w1 ⟨ao, cap, v2, rfl, hb, _, hc, ho, hon⟩
    have B := hideIt (clone_bs _ _ w1 hb (by rw [List.length_take]; omega))
    have HR := hideIt (And.intro hc (And.intro ho hon))
    clear hb hc ho hon A
    go_wp2_with fail
    refine B.out.mono ?_
    rintro e w2 ⟨v1, rfl, hown, hon2⟩
    have F : Hid (Bs .u8 w2 v1 (ys.take n) ∧ NoCap v1 ∧ (∀ k, v1.ownBlock = some k → w.heap.size ≤ k) ∧ CurAt 77 w2 R v2 (ys.drop n) ∧ v2.ownBlock = v.ownBlock ∧ Only (fun k => k = R) w w2) := by
      obtain ⟨hc, ho, hon⟩ := HR.out
      exact ⟨Bs.of_own hown, NoCap.of_own hown, fun k hk => Nat.le_trans hon.size (hown.lt k hk).1, hc.keep hon2 (fun f => f) (fun _ _ f => f), ho, hon.trans hon2 (fun _ _ f => f.elim)⟩
    clear hown hon2 B HR
    go_wp2
    go_ret2
    rw [HS.out]
    obtain ⟨f1, f2, f3, f4⟩ := F.out
    exact ⟨v1, rfl, f1, f2, f3, v2, f4⟩

set_option maxHeartbeats 1000000 in
set_option maxRecDepth 100000 in
/-- BYTES BEHIND THEIR NUMBER: new memory. -/
theorem block_cur {w : World} {R : Nat} {v : Value} {ys : List Int} (h : CurAt 77 w R v ys) (most : Int) (hm : most ≤ 9223372036854775807) :
    Calls Tryz.prog 27 #[.pointer (some ⟨R, 0, none⟩), .int .i64 most] w fun e w' => ∃ v1, e = .returned (.tuple #[v1, .int .i64 (sBlock most ys).2.2]) ∧ Bs .u8 w' v1 (sBlock most ys).1 ∧ NoCap v1 ∧ (∀ k, v1.ownBlock = some k → w.heap.size ≤ k) ∧
      ∃ v2, CurAt 77 w' R v2 (ys.drop (sBlock most ys).2.1) ∧ v2.ownBlock = v.ownBlock ∧ Only (fun k => k = R) w w' := by
  by_cases h0 : most < 0
  · have HS : Hid (sBlock most ys = ([], 0, 1)) := if_pos h0
    have HC := hideIt h
    clear h
    go_enter Tryz.func27, Tryz.ntmps27
    go_wp2
    go_ret2
    rw [HS.out]
    exact ⟨.slice none 0 0, rfl, Bs.nil _ _, NoCap.nil, own_nil _, v, HC.out, rfl, Only.refl _ _⟩
  have d0 : decide (most < 0) = false := decide_eq_false h0
  obtain ⟨ao, cap, rfl⟩ := h.form
  have c0 := (one_cell h.cell).1
  have hlen := h.len
  rcases rd_cases ys h.rng with ⟨c, hrd, hc⟩ | ⟨a, k, hrd, hk1, hk, _, ha, _⟩
  · have HV : sVarint ys = (0, 0, c) := by simp only [sVarint]; rw [hrd]; rfl
    have HS : Hid (sBlock most ys = ([], 0, c)) := by
      simp only [Hid, sBlock]
      rw [if_neg h0, HV, if_pos (by simp; omega)]
    have A := hideIt (read_as _ ys w hrd h.bs h.rng)
    have HC := hideIt h
    have dc : (c != 0) = true := by simp; omega
    clear h hrd HV
    go_enter Tryz.func27, Tryz.ntmps27
    go_wp2_with fail
    refine A.out.mono ?_
    rintro e w1 ⟨rfl, rfl⟩
    go_wp2
    go_ret2
    rw [HS.out]
    exact ⟨.slice none 0 0, rfl, Bs.nil _ _, NoCap.nil, own_nil _, _, HC.out, rfl, Only.refl _ _⟩
  · have HV : sVarint ys = ((a : Int), k, 0) := by simp only [sVarint]; rw [hrd]; rfl
    have A := hideIt (read_as _ ys w hrd h.bs h.rng)
    by_cases h4 : most < (a : Int)
    · have HS : Hid (sBlock most ys = ([], 0, 4)) := by
        simp only [Hid, sBlock]
        rw [if_neg h0, HV, if_neg (by simp), if_pos h4]
      have HC := hideIt h
      clear h hrd HV
      have d4 : decide (most < (a : Int)) = true := decide_eq_true h4
      go_enter Tryz.func27, Tryz.ntmps27
      go_wp2_with fail
      refine A.out.mono ?_
      rintro e w1 ⟨rfl, rfl⟩
      go_wp2
      go_ret2
      rw [HS.out]
      exact ⟨.slice none 0 0, rfl, Bs.nil _ _, NoCap.nil, own_nil _, _, HC.out, rfl, Only.refl _ _⟩
    have d4 : decide (most < (a : Int)) = false := decide_eq_false h4
    have L := hideIt (left_cur h)
    by_cases h2 : (ys.length : Int) - k < (a : Int)
    · have HS : Hid (sBlock most ys = ([], 0, 2)) := by
        simp only [Hid, sBlock]
        rw [if_neg h0, HV, if_neg (by simp), if_neg h4, if_pos h2]
      have HC := hideIt h
      clear h hrd HV
      have d2 : decide ((ys.length : Int) - k < (a : Int)) = true := decide_eq_true h2
      go_enter Tryz.func27, Tryz.ntmps27
      go_wp2_with fail
      refine A.out.mono ?_
      rintro e w1 ⟨rfl, rfl⟩
      go_wp2_with fail
      refine L.out.mono ?_
      rintro e w1 ⟨rfl, rfl⟩
      go_wp2
      go_ret2
      rw [HS.out]
      exact ⟨.slice none 0 0, rfl, Bs.nil _ _, NoCap.nil, own_nil _, _, HC.out, rfl, Only.refl _ _⟩
    · have HS : Hid (sBlock most ys = ((ys.drop k).take a, k + a, 0)) := by
        simp only [Hid, sBlock]
        rw [if_neg h0, HV, if_neg (by simp), if_neg h4, if_neg h2]
        rfl
      have d2 : decide ((ys.length : Int) - k < (a : Int)) = false := decide_eq_false h2
      have B := hideIt (skip_cur h k hk)
      clear h hrd HV
      go_enter Tryz.func27, Tryz.ntmps27
      go_wp2_with fail
      refine A.out.mono ?_
      rintro e w1 ⟨rfl, rfl⟩
      go_wp2_with fail
      refine L.out.mono ?_
      rintro e w1 ⟨rfl, rfl⟩
      go_wp2_with fail
      refine B.out.mono ?_
      rintro e w1 ⟨ao', cap', v2, rfl, _, _, hc, ho, hon⟩
      have C := hideIt (skip_cur hc a (by rw [List.length_drop]; omega))
      have HR := hideIt (And.intro ho hon)
      clear hc ho hon A B L c0
      go_wp2_with fail
      refine C.out.mono ?_
      rintro e w2 ⟨ao3, cap3, v3, rfl, hb, _, hc, ho, hon⟩
      have D := hideIt (clone_bs _ _ w2 hb (by rw [List.length_take, List.length_drop]; omega))
      have HR2 := hideIt (And.intro hc (And.intro ho hon))
      clear hb hc ho hon C
      go_wp2_with fail
      refine D.out.mono ?_
      rintro e w3 ⟨v1, rfl, hown, hon3⟩
      have F : Hid (Bs .u8 w3 v1 ((ys.drop k).take a) ∧ NoCap v1 ∧ (∀ k, v1.ownBlock = some k → w.heap.size ≤ k) ∧ CurAt 77 w3 R v3 (ys.drop (k + a)) ∧ v3.ownBlock = (Value.slice ao ys.length cap).ownBlock ∧ Only (fun k => k = R) w w3) := by
        obtain ⟨ho, hon⟩ := HR.out
        obtain ⟨hc, ho2, hon2⟩ := HR2.out
        rw [List.drop_drop] at hc
        have hon12 := hon.trans hon2 (fun _ _ f => f)
        exact ⟨Bs.of_own hown, NoCap.of_own hown, fun k hk => Nat.le_trans hon12.size (hown.lt k hk).1, hc.keep hon3 (fun f => f) (fun _ _ f => f), ho2.trans ho, hon12.trans hon3 (fun _ _ f => f.elim)⟩
      clear hown hon3 D HR HR2
      go_wp2
      go_ret2
      rw [HS.out]
      obtain ⟨f1, f2, f3, f4⟩ := F.out
      exact ⟨v1, rfl, f1, f2, f3, v3, f4⟩
theorem sVarint_gs (v : Nat) (t : List Int) (h : v < 18446744073709551616) : sVarint (gs v ++ t) = ((v : Int), (gs v).length, 0) := by
  have := rd_gs t v 0 0 (by omega) (by simpa using h) (fun h => by omega)
  rw [sVarint, this]
  simp
end Go.Proofs.YthapipgaohlgdabGreatDoor

/- Numbers as runs, and runs as numbers: plain facts, no program is named here. -/
namespace Go.Proofs.YthapipgaohlgdabGreatDoor

/-- a run of v that has k + 1 so far, and what stands behind it -/
def runR : Int → Nat → List Int → List Int
  | v, k, [] => gs v.toNat ++ gs k
  | v, k, x :: t => if x = v then runR v (k + 1) t else gs v.toNat ++ gs k ++ runR x 0 t
/-- numbers as runs -/
def runE : List Int → List Int
  | [] => []
  | x :: t => runR x 0 t
/-- t does not open with v -/
def Apart1 (v : Int) (t : List Int) : Prop := ∀ x r, t = x :: r → x ≠ v
theorem apart_nil (v : Int) : Apart1 v [] := fun x r h => by cases h

theorem runR_rep (v : Int) (i : Nat) : ∀ (k : Nat) (r : List Int), runR v k (List.replicate i v ++ r) = runR v (k + i) r := by
  induction i with
  | zero => intro k r; rfl
  | succ i ih =>
    intro k r
    rw [List.replicate_succ, List.cons_append, runR, if_pos rfl, ih, Nat.add_assoc, Nat.add_comm 1 i]
theorem runR_end {v : Int} {t : List Int} (h : Apart1 v t) (k : Nat) : runR v k t = gs v.toNat ++ gs k ++ runE t := by
  cases t with
  | nil => simp [runR, runE]
  | cons x r => rw [runR, if_neg (h x r rfl), runE]
theorem runE_first {v : Int} {t : List Int} (h : Apart1 v t) (m : Nat) : runE (List.replicate (m + 1) v ++ t) = gs v.toNat ++ gs m ++ runE t := by
  rw [List.replicate_succ, List.cons_append, runE, runR_rep, Nat.zero_add, runR_end h]
theorem run_split : ∀ (l : List Int), l ≠ [] → ∃ v m t, l = List.replicate (m + 1) v ++ t ∧ Apart1 v t
  | [], h => absurd rfl h
  | [x], _ => ⟨x, 0, [], rfl, apart_nil x⟩
  | x :: y :: t, _ => by
    obtain ⟨v, m, t', e, ha⟩ := run_split (y :: t) (by simp)
    by_cases h : x = v
    · exact ⟨v, m + 1, t', by rw [h, e, List.replicate_succ (n := m + 1)]; rfl, ha⟩
    · refine ⟨x, 0, y :: t, rfl, fun a r e2 => ?_⟩
      have : y = v := by
        rw [List.replicate_succ] at e
        simp at e
        exact e.1
      simp at e2
      rw [← e2.1, this]
      exact fun h2 => h h2.symm
/-- run by run -/
theorem run_ind {P : List Int → Prop} (h0 : P []) (h1 : ∀ v m t, Apart1 v t → P t → P (List.replicate (m + 1) v ++ t)) (l : List Int) : P l := by
  induction hn : l.length using Nat.strongRecOn generalizing l with
  | _ n ih =>
    by_cases hl : l = []
    · subst hl; exact h0
    · obtain ⟨v, m, t, rfl, ha⟩ := run_split l hl
      refine h1 v m t ha (ih t.length ?_ t rfl)
      rw [← hn, List.length_append, List.length_replicate]
      omega
theorem U64.tail {v : Int} {m : Nat} {t : List Int} (h : U64 (List.replicate (m + 1) v ++ t)) : U64 t := fun x hx => h x (by simp [hx])
theorem U64.head {v : Int} {m : Nat} {t : List Int} (h : U64 (List.replicate (m + 1) v ++ t)) : 0 ≤ v ∧ v ≤ 18446744073709551615 := h v (by simp)
theorem runE_range (l : List Int) : ∀ y ∈ runE l, 0 ≤ y ∧ y ≤ 255 := by
  induction l using run_ind with
  | h0 => intro y hy; cases hy
  | h1 v m t ha ih =>
    rw [runE_first ha]
    intro y hy
    rcases List.mem_append.1 hy with hy | hy
    · rcases List.mem_append.1 hy with hy | hy
      · exact gs_range _ y hy
      · exact gs_range _ y hy
    · exact ih y hy
theorem runE_len (l : List Int) : U64 l → l.length < 18446744073709551616 → (runE l).length ≤ 20 * l.length := by
  induction l using run_ind with
  | h0 => intro _ _; simp [runE]
  | h1 v m t ha ih =>
    intro hu hl
    rw [List.length_append, List.length_replicate] at hl
    have hv := hu.head
    have h1 := gs_le10 (v := v.toNat) (by omega)
    have h2 := gs_le10 (v := m) (by omega)
    have h3 := ih hu.tail (by omega)
    rw [runE_first ha, List.length_append, List.length_append, List.length_append, List.length_replicate]
    omega
theorem Apart1.app {v : Int} {t b : List Int} (h : Apart1 v t) (ht : t ≠ []) : Apart1 v (t ++ b) := by
  intro x r e
  cases t with
  | nil => exact absurd rfl ht
  | cons y s =>
    simp at e
    exact h x s (by rw [e.1])
/-- TWO LISTS, one behind the other -/
theorem runE_app {b : List Int} (hb : b ≠ []) (a : List Int) : a ≠ [] → a.getD (a.length - 1) 0 ≠ b.getD 0 0 → runE (a ++ b) = runE a ++ runE b := by
  induction a using run_ind with
  | h0 => intro h; exact absurd rfl h
  | h1 v m t ha ih =>
    intro _ hne
    by_cases ht : t = []
    · subst ht
      have hv : Apart1 v b := by
        intro x r e
        subst e
        intro h
        subst h
        apply hne
        simp [List.getD_eq_getElem?_getD]
      rw [List.append_nil, runE_first hv]
      have := runE_first (apart_nil v) m
      rw [List.append_nil] at this
      rw [this]
      simp [runE]
    · rw [List.append_assoc, runE_first (ha.app ht), runE_first ha, ih ht ?_, List.append_assoc, List.append_assoc, List.append_assoc]
      have hl : 0 < t.length := by cases t with
        | nil => exact absurd rfl ht
        | cons _ _ => simp
      have e : (List.replicate (m + 1) v ++ t).getD ((List.replicate (m + 1) v ++ t).length - 1) 0 = t.getD (t.length - 1) 0 := by
        rw [List.getD_eq_getElem?_getD, List.getD_eq_getElem?_getD, List.length_append, List.length_replicate, List.getElem?_append_right (by rw [List.length_replicate]; omega), List.length_replicate]
        congr 2
        omega
      rw [← e]; exact hne
/-- as many of one number -/
theorem runE_rep (v : Int) (m : Nat) : runE (List.replicate (m + 1) v) = gs v.toNat ++ gs m := by
  have := runE_first (apart_nil v) m
  rw [List.append_nil] at this
  rw [this]
  simp [runE]
/-- the first run ends where a number is another one -/
theorem runE_step {l : List Int} {i : Nat} (h0 : 0 < i) (hi : i < l.length) (hs : ∀ j, j < i → l.getD j 0 = l.getD 0 0) (hd : l.getD i 0 ≠ l.getD 0 0) : runE l = gs (l.getD 0 0).toNat ++ gs (i - 1) ++ runE (l.drop i) := by
  have e : l = List.replicate (i - 1 + 1) (l.getD 0 0) ++ l.drop i := by
    have ht : l.take i = List.replicate (i - 1 + 1) (l.getD 0 0) := by
      apply List.ext_getElem
      · rw [List.length_take, List.length_replicate]; omega
      · intro j h1 h2
        rw [List.length_take] at h1
        have := hs j (by omega)
        rw [List.getElem_take, List.getElem_replicate, ← this, List.getD_eq_getElem?_getD, List.getElem?_eq_getElem (by omega)]
        rfl
    rw [← ht, List.take_append_drop]
  have ha : Apart1 (l.getD 0 0) (l.drop i) := by
    intro x r e2
    have := List.drop_eq_getElem_cons hi
    rw [this] at e2
    injection e2 with e3 _
    rw [← e3]
    rw [List.getD_eq_getElem?_getD, List.getElem?_eq_getElem hi] at hd
    exact hd
  have key := runE_first ha (i - 1)
  rw [← e] at key
  exact key
theorem runE_all {l : List Int} (h0 : 0 < l.length) (hs : ∀ j, j < l.length → l.getD j 0 = l.getD 0 0) : runE l = gs (l.getD 0 0).toNat ++ gs (l.length - 1) := by
  have e : l = List.replicate (l.length - 1 + 1) (l.getD 0 0) := by
    apply List.ext_getElem
    · rw [List.length_replicate]; omega
    · intro j h1 h2
      have := hs j h1
      rw [List.getElem_replicate, ← this, List.getD_eq_getElem?_getD, List.getElem?_eq_getElem h1]
      rfl
  have key := runE_rep (l.getD 0 0) (l.length - 1)
  rw [← e] at key
  exact key

/-! what a varint tells -/
theorem sVarint_cases {ys : List Int} (hr : ∀ y ∈ ys, 0 ≤ y ∧ y ≤ 255) : (∃ c, sVarint ys = (0, 0, c) ∧ (c = 2 ∨ c = 3)) ∨ (∃ a k : Nat, sVarint ys = ((a : Int), k, 0) ∧ 1 ≤ k ∧ k ≤ ys.length ∧ a < 18446744073709551616 ∧ ys = gs a ++ ys.drop k) := by
  rcases rd_cases ys hr with ⟨c, h, hc⟩ | ⟨a, k, h, h1, h2, _, h4, h5⟩
  · exact .inl ⟨c, by rw [sVarint, h]; rfl, hc⟩
  · exact .inr ⟨a, k, by rw [sVarint, h]; rfl, h1, h2, h4, by rw [h5, List.take_append_drop]⟩
theorem sVarint_short (v k : Nat) (h : v < 18446744073709551616) (hk : k < (gs v).length) : sVarint ((gs v).take k) = (0, 0, 2) := by
  have := rd_short v 0 k 0 (by omega) (by simpa using h) hk
  rw [sVarint, this]
  rfl

/-! the other way round -/
/-- is v the number that acc ends with? -/
def runOn (acc : List Int) (v : Int) : Bool := decide (0 < acc.length) && (acc.getD (acc.length - 1) 0 == v)
/-- acc is had; what the bytes ys add to it, until there are n -/
def runD : Nat → List Int → List Int → Nat → List Int × Int
  | 0, _, _, _ => ([], 3)
  | f + 1, acc, ys, n =>
    if acc.length < n then
      if (sVarint ys).2.2 ≠ 0 then ([], (sVarint ys).2.2)
      else if (sVarint (ys.drop (sVarint ys).2.1)).2.2 ≠ 0 then ([], (sVarint (ys.drop (sVarint ys).2.1)).2.2)
      else if n - acc.length ≤ (sVarint (ys.drop (sVarint ys).2.1)).1.toNat ∨ runOn acc (sVarint ys).1 = true then ([], 3)
      else runD f (acc ++ List.replicate ((sVarint (ys.drop (sVarint ys).2.1)).1.toNat + 1) (sVarint ys).1) ((ys.drop (sVarint ys).2.1).drop (sVarint (ys.drop (sVarint ys).2.1)).2.1) n
    else if 0 < ys.length then ([], 3) else (acc, 0)
def runDec (ys : List Int) (n : Nat) : List Int × Int := runD (n + 1) [] ys n

theorem runD_done {f : Nat} {acc ys : List Int} {n : Nat} (h : ¬ acc.length < n) (hf : 0 < f) : runD f acc ys n = if 0 < ys.length then ([], 3) else (acc, 0) := by
  obtain ⟨g, rfl⟩ : ∃ g, f = g + 1 := ⟨f - 1, by omega⟩
  rw [runD, if_neg h]
theorem runD_err1 {f : Nat} {acc ys : List Int} {n : Nat} {a : Int} {k : Nat} {c : Int} (h : acc.length < n) (hf : 0 < f) (hs : sVarint ys = (a, k, c)) (hc : c ≠ 0) : runD f acc ys n = ([], c) := by
  obtain ⟨g, rfl⟩ : ∃ g, f = g + 1 := ⟨f - 1, by omega⟩
  rw [runD, if_pos h, hs, if_pos hc]
theorem runD_err2 {f : Nat} {acc ys : List Int} {n : Nat} {a b : Int} {k j : Nat} {c : Int} (h : acc.length < n) (hf : 0 < f) (hs : sVarint ys = (a, k, 0)) (hs2 : sVarint (ys.drop k) = (b, j, c)) (hc : c ≠ 0) : runD f acc ys n = ([], c) := by
  obtain ⟨g, rfl⟩ : ∃ g, f = g + 1 := ⟨f - 1, by omega⟩
  rw [runD, if_pos h, hs]
  simp only
  rw [hs2, if_neg (by simp), if_pos hc]
theorem runD_err3 {f : Nat} {acc ys : List Int} {n : Nat} {a : Int} {m k j : Nat} (h : acc.length < n) (hf : 0 < f) (hs : sVarint ys = (a, k, 0)) (hs2 : sVarint (ys.drop k) = ((m : Int), j, 0)) (hm : n - acc.length ≤ m ∨ runOn acc a = true) : runD f acc ys n = ([], 3) := by
  obtain ⟨g, rfl⟩ : ∃ g, f = g + 1 := ⟨f - 1, by omega⟩
  rw [runD, if_pos h, hs]
  simp only
  rw [hs2, if_neg (by simp)]
  simp only
  rw [if_neg (by simp), if_pos (by simpa using hm)]
theorem runD_next {f : Nat} {acc ys : List Int} {n : Nat} {a : Int} {m k j : Nat} (h : acc.length < n) (hf : 0 < f) (hs : sVarint ys = (a, k, 0)) (hs2 : sVarint (ys.drop k) = ((m : Int), j, 0)) (hm : m < n - acc.length) (ho : runOn acc a = false) :
    runD f acc ys n = runD (f - 1) (acc ++ List.replicate (m + 1) a) ((ys.drop k).drop j) n := by
  obtain ⟨g, rfl⟩ : ∃ g, f = g + 1 := ⟨f - 1, by omega⟩
  rw [runD, if_pos h, hs]
  simp only
  rw [hs2, if_neg (by simp)]
  simp only
  rw [if_neg (by simp), if_neg (by rw [ho]; simp; omega)]
  simp
/-- t may stand behind acc: it opens with another number than acc ends with -/
def Joins (acc t : List Int) : Prop := ∀ x r, t = x :: r → runOn acc x = false
theorem runOn_rep (acc : List Int) (v x : Int) (m : Nat) : runOn (acc ++ List.replicate (m + 1) v) x = (v == x) := by
  unfold runOn
  rw [List.length_append, List.length_replicate, decide_eq_true (by omega), Bool.true_and, List.getD_eq_getElem?_getD, List.getElem?_append_right (by omega)]
  rw [List.getElem?_replicate, if_pos (by omega)]
  rfl
theorem joins_rep {acc : List Int} {v : Int} {m : Nat} {t : List Int} : Joins (acc ++ List.replicate (m + 1) v) t ↔ Apart1 v t := by
  constructor
  · intro h x r e
    have := h x r e
    rw [runOn_rep] at this
    simp at this
    exact fun e2 => this e2.symm
  · intro h x r e
    rw [runOn_rep]
    have := h x r e
    simp
    exact fun e2 => this e2.symm
theorem joins_nil (t : List Int) : Joins [] t := fun _ _ _ => rfl

/-- WHAT IS DECODED WAS ENCODED. -/
theorem runD_only (f : Nat) : ∀ (acc ys : List Int) (n : Nat), (∀ y ∈ ys, 0 ≤ y ∧ y ≤ 255) → n - acc.length < f → acc.length ≤ n →
    (∃ c, runD f acc ys n = ([], c) ∧ (c = 2 ∨ c = 3)) ∨ (∃ t, runD f acc ys n = (acc ++ t, 0) ∧ acc.length + t.length = n ∧ ys = runE t ∧ U64 t ∧ Joins acc t) := by
  induction f with
  | zero => intro acc ys n _ h; omega
  | succ f ih =>
    intro acc ys n hr hf hn
    by_cases h : acc.length < n
    · rcases sVarint_cases hr with ⟨c, hs, hc⟩ | ⟨a, k, hs, k1, k2, ha, e1⟩
      · exact .inl ⟨c, runD_err1 h (by omega) hs (by omega), hc⟩
      · have hr2 : ∀ y ∈ ys.drop k, 0 ≤ y ∧ y ≤ 255 := fun y hy => hr y (List.mem_of_mem_drop hy)
        rcases sVarint_cases hr2 with ⟨c, hs2, hc⟩ | ⟨m, j, hs2, j1, j2, hm, e2⟩
        · exact .inl ⟨c, runD_err2 h (by omega) hs hs2 (by omega), hc⟩
        · by_cases hb : n - acc.length ≤ m ∨ runOn acc (a : Int) = true
          · exact .inl ⟨3, runD_err3 h (by omega) hs hs2 hb, .inr rfl⟩
          · have ho : runOn acc (a : Int) = false := by
              cases h3 : runOn acc (a : Int) with
              | false => rfl
              | true => exact absurd (.inr h3) hb
            rw [runD_next h (by omega) hs hs2 (by omega) ho]
            have hl : (acc ++ List.replicate (m + 1) (a : Int)).length = acc.length + (m + 1) := by rw [List.length_append, List.length_replicate]
            rcases ih (acc ++ List.replicate (m + 1) (a : Int)) ((ys.drop k).drop j) n (fun y hy => hr2 y (List.mem_of_mem_drop hy)) (by rw [hl]; omega) (by rw [hl]; omega) with ⟨c, h1, h2⟩ | ⟨t, h1, h2, h3, h4, h5⟩
            · exact .inl ⟨c, by simpa using h1, h2⟩
            · refine .inr ⟨List.replicate (m + 1) (a : Int) ++ t, by rw [← List.append_assoc]; simpa using h1, by rw [List.length_append, List.length_replicate]; omega, ?_, ?_, ?_⟩
              · rw [runE_first (joins_rep.1 h5), Int.toNat_natCast, ← h3, List.append_assoc, ← e2, ← e1]
              · intro x hx
                rcases List.mem_append.1 hx with hx | hx
                · have := List.eq_of_mem_replicate hx
                  omega
                · exact h4 x hx
              · intro x r e
                rw [List.replicate_succ] at e
                simp at e
                rw [← e.1]
                exact ho
    · rw [runD_done h (by omega)]
      by_cases hy : 0 < ys.length
      · rw [if_pos hy]; exact .inl ⟨3, rfl, .inr rfl⟩
      · rw [if_neg hy]
        have : ys = [] := List.eq_nil_of_length_eq_zero (by omega)
        subst this
        exact .inr ⟨[], by rw [List.append_nil], by simp; omega, rfl, (fun x hx => by cases hx), (fun x r e => by cases e)⟩

/-- DECODED OF WHAT WAS ENCODED, whatever stands behind. -/
theorem runD_enc (t : List Int) : ∀ (f : Nat) (acc z : List Int) (n : Nat), U64 t → n < 18446744073709551616 → acc.length + t.length = n → t.length < f → Joins acc t →
    runD f acc (runE t ++ z) n = if 0 < z.length then ([], 3) else (acc ++ t, 0) := by
  induction t using run_ind with
  | h0 =>
    intro f acc z n _ _ hn hf _
    simp at hn
    rw [runE, List.nil_append, runD_done (by omega) (by simpa using hf), List.append_nil]
  | h1 v m t ha ih =>
    intro f acc z n hu h64 hn hf hj
    rw [List.length_append, List.length_replicate] at hn hf
    have hv := hu.head
    obtain ⟨a, rfl⟩ := Int.eq_ofNat_of_zero_le hv.1
    rw [runE_first ha, Int.toNat_natCast]
    have e1 : gs a ++ gs m ++ runE t ++ z = gs a ++ (gs m ++ (runE t ++ z)) := by simp
    rw [e1]
    have hs := sVarint_gs a (gs m ++ (runE t ++ z)) (by omega)
    have ed : (gs a ++ (gs m ++ (runE t ++ z))).drop (gs a).length = gs m ++ (runE t ++ z) := by simp
    have hs2 := sVarint_gs m (runE t ++ z) (by omega)
    rw [← ed] at hs2
    rw [runD_next (by omega) (by omega) hs hs2 (by omega) (hj a (List.replicate m (a : Int) ++ t) (by rw [List.replicate_succ]; rfl)), ed]
    have ed2 : (gs m ++ (runE t ++ z)).drop (gs m).length = runE t ++ z := by simp
    rw [ed2, ih (f - 1) (acc ++ List.replicate (m + 1) (a : Int)) z n hu.tail h64 (by rw [List.length_append, List.length_replicate]; omega) (by omega) (joins_rep.2 ha), List.append_assoc]
theorem take_app (a b : List Int) (k : Nat) (h : a.length ≤ k) : (a ++ b).take k = a ++ b.take (k - a.length) := by
  rw [List.take_append, List.take_of_length_le h]
/-- CUT OFF it is too short. -/
theorem runD_cut (t : List Int) : ∀ (f : Nat) (acc : List Int) (n k : Nat), U64 t → n < 18446744073709551616 → acc.length + t.length = n → t.length < f → Joins acc t → k < (runE t).length →
    runD f acc ((runE t).take k) n = ([], 2) := by
  induction t using run_ind with
  | h0 => intro f acc n k _ _ _ _ _ hk; simp [runE] at hk
  | h1 v m t ha ih =>
    intro f acc n k hu h64 hn hf hj hk
    rw [List.length_append, List.length_replicate] at hn hf
    have hv := hu.head
    obtain ⟨a, rfl⟩ := Int.eq_ofNat_of_zero_le hv.1
    rw [runE_first ha, Int.toNat_natCast] at hk ⊢
    rw [List.append_assoc] at hk ⊢
    rcases Nat.lt_or_ge k (gs a).length with h1 | h1
    · have e : (gs a ++ (gs m ++ runE t)).take k = (gs a).take k := by rw [List.take_append_of_le_length (by omega)]
      rw [e]
      exact runD_err1 (by omega) (by omega) (sVarint_short a k (by omega) h1) (by decide)
    · rw [take_app _ _ _ h1]
      have hs := sVarint_gs a ((gs m ++ runE t).take (k - (gs a).length)) (by omega)
      have ed : (gs a ++ (gs m ++ runE t).take (k - (gs a).length)).drop (gs a).length = (gs m ++ runE t).take (k - (gs a).length) := by simp
      rw [List.length_append, List.length_append] at hk
      rcases Nat.lt_or_ge (k - (gs a).length) (gs m).length with h2 | h2
      · have e : (gs m ++ runE t).take (k - (gs a).length) = (gs m).take (k - (gs a).length) := by rw [List.take_append_of_le_length (by omega)]
        refine runD_err2 (by omega) (by omega) hs (b := 0) (j := 0) (c := 2) ?_ (by decide)
        rw [ed, e]
        exact sVarint_short m _ (by omega) h2
      · have hs2 := sVarint_gs m ((runE t).take (k - (gs a).length - (gs m).length)) (by omega)
        rw [take_app _ _ _ h2] at hs ed ⊢
        rw [← ed] at hs2
        rw [runD_next (by omega) (by omega) hs hs2 (by omega) (hj a (List.replicate m (a : Int) ++ t) (by rw [List.replicate_succ]; rfl)), ed]
        have ed2 : (gs m ++ (runE t).take (k - (gs a).length - (gs m).length)).drop (gs m).length = (runE t).take (k - (gs a).length - (gs m).length) := by simp
        rw [ed2]
        exact ih (f - 1) (acc ++ List.replicate (m + 1) (a : Int)) n _ hu.tail h64 (by rw [List.length_append, List.length_replicate]; omega) (by omega) (joins_rep.2 ha) (by omega)
/-- AS FEWER NUMBERS it is refused. -/
theorem runD_less (t : List Int) : ∀ (f : Nat) (acc : List Int) (n : Nat), U64 t → t.length < 18446744073709551616 → acc.length ≤ n → n < acc.length + t.length → n - acc.length < f → Joins acc t →
    runD f acc (runE t) n = ([], 3) := by
  induction t using run_ind with
  | h0 => intro f acc n _ _ h1 h2; simp at h2; omega
  | h1 v m t ha ih =>
    intro f acc n hu h64 hn hl hf hj
    rw [List.length_append, List.length_replicate] at hl h64
    have hv := hu.head
    obtain ⟨a, rfl⟩ := Int.eq_ofNat_of_zero_le hv.1
    rw [runE_first ha, Int.toNat_natCast]
    by_cases h : acc.length < n
    · rw [List.append_assoc]
      have hs := sVarint_gs a (gs m ++ runE t) (by omega)
      have ed : (gs a ++ (gs m ++ runE t)).drop (gs a).length = gs m ++ runE t := by simp
      have hs2 := sVarint_gs m (runE t) (by omega)
      rw [← ed] at hs2
      by_cases hm : n - acc.length ≤ m
      · exact runD_err3 h (by omega) hs hs2 (.inl hm)
      · rw [runD_next h (by omega) hs hs2 (by omega) (hj a (List.replicate m (a : Int) ++ t) (by rw [List.replicate_succ]; rfl)), ed]
        have ed2 : (gs m ++ runE t).drop (gs m).length = runE t := by simp
        rw [ed2]
        exact ih (f - 1) (acc ++ List.replicate (m + 1) (a : Int)) n hu.tail (by omega) (by rw [List.length_append, List.length_replicate]; omega) (by rw [List.length_append, List.length_replicate]; omega) (by rw [List.length_append, List.length_replicate]; omega) (joins_rep.2 ha)
    · rw [runD_done h (by omega), if_pos]
      rw [List.length_append, List.length_append]
      have := gs_pos a
      omega

/-! how many runs, how many bytes that end a number -/
def ends (l : List Int) : Nat := l.countP fun y => decide (y < 128)
theorem ends_gs (v : Nat) : ends (gs v) = 1 := by
  induction v using Nat.strongRecOn with
  | _ v ih =>
    rcases Nat.lt_or_ge v 128 with h | h
    · rw [gs_small h]
      simp [ends]
      omega
    · rw [gs_big h]
      have := ih (v / 128) (by omega)
      unfold ends at *
      rw [List.countP_cons_of_neg (by simp; omega), this]
/-- how many runs open in t, behind the number v -/
def opens : Int → List Int → Nat
  | _, [] => 0
  | v, x :: t => (if x = v then 0 else 1) + opens x t
theorem ends_runR (t : List Int) : ∀ (v : Int) (k : Nat), ends (runR v k t) = 2 + 2 * opens v t := by
  induction t with
  | nil => intro v k; rw [runR, opens]; unfold ends; rw [List.countP_append]; have h1 := ends_gs v.toNat; have h2 := ends_gs k; unfold ends at h1 h2; omega
  | cons x t ih =>
    intro v k
    rw [runR, opens]
    by_cases h : x = v
    · rw [if_pos h, if_pos h, ih, h]; omega
    · rw [if_neg h, if_neg h]
      have h3 := ih x 0
      unfold ends at *
      rw [List.countP_append, List.countP_append, h3]
      have h1 := ends_gs v.toNat
      have h2 := ends_gs k
      unfold ends at h1 h2
      omega
theorem opens_drop (l : List Int) (k : Nat) (h : k < l.length) (v : Int) : opens v (l.drop k) = (if l.getD k 0 = v then 0 else 1) + opens (l.getD k 0) (l.drop (k + 1)) := by
  rw [List.drop_eq_getElem_cons h, opens, List.getD_eq_getElem?_getD, List.getElem?_eq_getElem h]
  rfl
theorem ends_drop (l : List Int) (k : Nat) (h : k < l.length) : ends (l.drop k) = (if l.getD k 0 < 128 then 1 else 0) + ends (l.drop (k + 1)) := by
  rw [List.drop_eq_getElem_cons h, List.getD_eq_getElem?_getD, List.getElem?_eq_getElem h]
  unfold ends
  rw [List.countP_cons]
  simp [Nat.add_comm]
theorem ends_le (l : List Int) : ends l ≤ l.length := List.countP_le_length
theorem opens_le (t : List Int) : ∀ v, opens v t ≤ t.length := by
  induction t with
  | nil => intro v; simp [opens]
  | cons x t ih =>
    intro v
    rw [opens, List.length_cons]
    have := ih x
    split <;> omega
end Go.Proofs.YthapipgaohlgdabGreatDoor
