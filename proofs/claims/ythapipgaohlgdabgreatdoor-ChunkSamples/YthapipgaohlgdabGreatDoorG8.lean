/- Several texts in one: Sm, Room, VRef, CRef, Fit, Sm2. -/
import Derived.Test.YthapipgaohlgdabGreatDoorG7
import Derived.Deep.WholeRow
import Derived.Test.YthapipgaohlgdabGreatDoorG3
import Derived.Deep.RegionLaw
import Derived.BigRegion
import Derived.ScopeJumps
import Derived.WalkMore

/- Package simple as plain mathematics: sorts, the least one that fits, words, what is written and what is read. -/
namespace Go.Proofs.YthapipgaohlgdabGreatDoor
open Go.RowKit

/-- the sorts: how many numbers, of how many bits -/
def tab : List (Nat × Nat) := [(240, 0), (120, 0), (60, 1), (30, 2), (20, 3), (15, 4), (12, 5), (10, 6), (8, 7), (7, 8), (6, 10), (5, 12), (4, 15), (3, 20), (2, 30), (1, 60)]
def cn (s : Nat) : Nat := (tab.getD s (0, 0)).1
def wi (s : Nat) : Nat := (tab.getD s (0, 0)).2
theorem sort_all : ∀ s : Fin 16, 1 ≤ cn s.val ∧ cn s.val ≤ 240 ∧ wi s.val ≤ 60 ∧ cn s.val * wi s.val ≤ 60 ∧ (s.val < 15 → wi s.val ≤ 30 ∧ 2 ≤ cn s.val) := by decide +kernel
theorem sort_at (s : Nat) (h : s < 16) : 1 ≤ cn s ∧ cn s ≤ 240 ∧ wi s ≤ 60 ∧ cn s * wi s ≤ 60 ∧ (s < 15 → wi s ≤ 30 ∧ 2 ≤ cn s) := sort_all ⟨s, h⟩

/-- numbers below 2^w -/
def Up (w : Nat) (xs : List Int) : Prop := ∀ x ∈ xs, 0 ≤ x ∧ x < 2 ^ w
theorem pow_mono {a b : Nat} (h : a ≤ b) : (2 : Int) ^ a ≤ 2 ^ b := by
  have : 2 ^ a ≤ 2 ^ b := Nat.pow_le_pow_right (by omega) h
  have e1 : ((2 ^ a : Nat) : Int) = 2 ^ a := by simp
  have e2 : ((2 ^ b : Nat) : Int) = 2 ^ b := by simp
  omega
theorem Up.mono {a b : Nat} {xs : List Int} (h : Up a xs) (hab : a ≤ b) : Up b xs := fun x hx => ⟨(h x hx).1, Int.lt_of_lt_of_le (h x hx).2 (pow_mono hab)⟩
theorem Up.take {a : Nat} {xs : List Int} (h : Up a xs) (n : Nat) : Up a (xs.take n) := fun x hx => h x (List.mem_of_mem_take hx)
theorem Up.drop {a : Nat} {xs : List Int} (h : Up a xs) (n : Nat) : Up a (xs.drop n) := fun x hx => h x (List.mem_of_mem_drop hx)
theorem Up.nil (a : Nat) : Up a [] := fun x hx => by cases hx
theorem Up.append {a : Nat} {xs ys : List Int} (h : Up a xs) (k : Up a ys) : Up a (xs ++ ys) := fun x hx => by
  rcases List.mem_append.1 hx with hx | hx
  · exact h x hx
  · exact k x hx

/-- are all below 2^w? -/
def small (w : Nat) (xs : List Int) : Bool := xs.all fun x => decide (x < 2 ^ w)
theorem small_up {w : Nat} {xs : List Int} (h : small w xs = true) (h0 : ∀ x ∈ xs, 0 ≤ x) : Up w xs := fun x hx => ⟨h0 x hx, by
  have := List.all_eq_true.1 h x hx
  simpa using this⟩
theorem up_small {w : Nat} {xs : List Int} (h : Up w xs) : small w xs = true := by
  unfold small
  rw [List.all_eq_true]
  intro x hx
  simpa using (h x hx).2
theorem small_snoc (w : Nat) (xs : List Int) (x : Int) : small w (xs ++ [x]) = (small w xs && decide (x < 2 ^ w)) := by simp [small]
theorem small_no {w : Nat} {xs : List Int} {k : Nat} (hk : k < xs.length) (h : ¬ xs.getD k 0 < 2 ^ w) : small w xs = false := by
  rw [Bool.eq_false_iff]
  intro hs
  have := List.all_eq_true.1 hs (xs.getD k 0) (by rw [List.getD_eq_getElem?_getD, List.getElem?_eq_getElem hk]; simp)
  simp only [decide_eq_true_eq] at this
  exact h this

/-- does what xs begins with fit the sort s? -/
def fitB (xs : List Int) (s : Nat) : Bool := decide (cn s ≤ xs.length) && small (wi s) (xs.take (cn s))
def leastF : Nat → Nat → List Int → Nat
  | 0, s, _ => s
  | f + 1, s, xs => if fitB xs s = true then s else leastF f (s + 1) xs
/-- the least sort that fits -/
def least (xs : List Int) : Nat := leastF 15 0 xs
theorem fit15 {xs : List Int} (h : xs ≠ []) (hu : Up 60 xs) : fitB xs 15 = true := by
  have : 0 < xs.length := List.length_pos_iff.2 h
  have e1 : cn 15 = 1 := rfl
  have e2 : wi 15 = 60 := rfl
  unfold fitB
  rw [e1, e2, up_small (hu.take 1)]
  simp; omega
theorem leastF_hit {xs : List Int} {s : Nat} (h : fitB xs s = true) (f : Nat) : leastF f s xs = s := by
  cases f with
  | zero => rfl
  | succ f => simp [leastF, h]
theorem leastF_miss {xs : List Int} {s : Nat} (h : fitB xs s = false) (hs : s < 15) : leastF (15 - s) s xs = leastF (15 - (s + 1)) (s + 1) xs := by
  obtain ⟨f, hf⟩ : ∃ f, 15 - s = f + 1 := ⟨14 - s, by omega⟩
  rw [hf, show 15 - (s + 1) = f by omega]
  simp [leastF, h]
theorem leastF_fits {xs : List Int} (h : fitB xs 15 = true) : ∀ f s, s + f = 15 → leastF f s xs < 16 ∧ fitB xs (leastF f s xs) = true
  | 0, s, e => by
    obtain rfl : s = 15 := by omega
    exact ⟨by simp [leastF], h⟩
  | f + 1, s, e => by
    by_cases hs : fitB xs s = true
    · rw [leastF_hit hs]
      exact ⟨by omega, hs⟩
    · have : leastF (f + 1) s xs = leastF f (s + 1) xs := by simp [leastF, hs]
      rw [this]
      exact leastF_fits h f (s + 1) (by omega)
theorem least_fits {xs : List Int} (h : xs ≠ []) (hu : Up 60 xs) : least xs < 16 ∧ cn (least xs) ≤ xs.length ∧ Up (wi (least xs)) (xs.take (cn (least xs))) := by
  obtain ⟨h1, h2⟩ := leastF_fits (fit15 h hu) 15 0 rfl
  unfold fitB at h2
  rw [Bool.and_eq_true, decide_eq_true_eq] at h2
  exact ⟨h1, h2.1, small_up h2.2 (fun x hx => (hu.take _ x hx).1)⟩
/-- a number of more than 30 bits stands alone -/
theorem least_great {x : Int} {t : List Int} (h : 2 ^ 30 ≤ x) : least (x :: t) = 15 := by
  have no : ∀ s, s < 15 → fitB (x :: t) s = false := by
    intro s hs
    obtain ⟨h1, _, _, _, h5⟩ := sort_at s (by omega)
    have h6 := (h5 hs).1
    unfold fitB
    rw [small_no (k := 0) (by simp; omega) (by
      rw [show ((x :: t).take (cn s)).getD 0 0 = x by
        obtain ⟨c, hc⟩ : ∃ c, cn s = c + 1 := ⟨cn s - 1, by omega⟩
        rw [hc]; simp]
      have := pow_mono h6
      omega)]
    simp
  unfold least
  simp [leastF, no 0, no 1, no 2, no 3, no 4, no 5, no 6, no 7, no 8, no 9, no 10, no 11, no 12, no 13, no 14]

/-- numbers behind one another, w bits each, behind a -/
def wacc (a w : Nat) (zs : List Int) : Nat := zs.foldl (fun a z => a * 2 ^ w + z.toNat) a
theorem wacc_snoc (a w : Nat) (zs : List Int) (z : Int) : wacc a w (zs ++ [z]) = wacc a w zs * 2 ^ w + z.toNat := by simp [wacc]
theorem wacc_cons (a w : Nat) (zs : List Int) (z : Int) : wacc a w (z :: zs) = wacc (a * 2 ^ w + z.toNat) w zs := rfl
theorem wacc_append (a w : Nat) (ys zs : List Int) : wacc a w (ys ++ zs) = wacc (wacc a w ys) w zs := by simp [wacc]
theorem toNat_up {w : Nat} {z : Int} (h : 0 ≤ z ∧ z < 2 ^ w) : z.toNat < 2 ^ w := by
  have e : ((2 ^ w : Nat) : Int) = 2 ^ w := by simp
  omega
theorem wacc_split (w : Nat) : ∀ (zs : List Int) (a : Nat), Up w zs → ∃ r, wacc a w zs = a * 2 ^ (zs.length * w) + r ∧ r < 2 ^ (zs.length * w)
  | [], a, _ => ⟨0, by simp [wacc], by simp⟩
  | z :: zs, a, h => by
    obtain ⟨r, h1, h2⟩ := wacc_split w zs (a * 2 ^ w + z.toNat) (fun x hx => h x (List.mem_cons_of_mem _ hx))
    have hz := toNat_up (h z List.mem_cons_self)
    refine ⟨z.toNat * 2 ^ (zs.length * w) + r, ?_, ?_⟩
    · rw [wacc_cons, h1, List.length_cons, Nat.add_mul, Nat.mul_assoc, ← Nat.pow_add, Nat.add_assoc]
      congr 3
      rw [Nat.add_mul]; omega
    · rw [List.length_cons, Nat.add_mul, Nat.one_mul, Nat.pow_add, Nat.mul_comm (2 ^ (zs.length * w)) (2 ^ w)]
      have h3 : (z.toNat + 1) * 2 ^ (zs.length * w) ≤ 2 ^ w * 2 ^ (zs.length * w) := Nat.mul_le_mul_right _ hz
      rw [Nat.add_mul, Nat.one_mul] at h3
      omega
/-- the word of a sort -/
def wordN (s w : Nat) (zs : List Int) : Nat := wacc s w zs * 2 ^ (60 - zs.length * w)
theorem wordN_lt {s w : Nat} {zs : List Int} (hs : s < 16) (h : Up w zs) (hw : zs.length * w ≤ 60) : wordN s w zs < 18446744073709551616 := by
  obtain ⟨r, h1, h2⟩ := wacc_split w zs s h
  have e : 2 ^ (zs.length * w) * 2 ^ (60 - zs.length * w) = 2 ^ 60 := by rw [← Nat.pow_add]; congr 1; omega
  have h3 : wacc s w zs < 16 * 2 ^ (zs.length * w) := by
    have : (s + 1) * 2 ^ (zs.length * w) ≤ 16 * 2 ^ (zs.length * w) := Nat.mul_le_mul_right _ (by omega)
    rw [Nat.add_mul, Nat.one_mul] at this
    omega
  have h4 := Nat.mul_lt_mul_of_pos_right h3 (Nat.two_pow_pos (60 - zs.length * w))
  rw [Nat.mul_assoc, e] at h4
  have e60 : (2 : Nat) ^ 60 = 1152921504606846976 := by decide
  unfold wordN
  omega
theorem wordN_sort {s w : Nat} {zs : List Int} (h : Up w zs) (hw : zs.length * w ≤ 60) : wordN s w zs / 2 ^ 60 = s := by
  obtain ⟨r, h1, h2⟩ := wacc_split w zs s h
  have e : (2 : Nat) ^ 60 = 2 ^ (60 - zs.length * w) * 2 ^ (zs.length * w) := by rw [← Nat.pow_add]; congr 1; omega
  unfold wordN
  rw [e, ← Nat.div_div_eq_div_mul, Nat.mul_div_cancel _ (Nat.two_pow_pos _), h1, Nat.add_comm, Nat.add_mul_div_right _ _ (Nat.two_pow_pos _), Nat.div_eq_of_lt h2, Nat.zero_add]

/-- number i of a word, w bits each -/
def numAt (v w i : Nat) : Nat := v / 2 ^ (60 - (i + 1) * w) % 2 ^ w
theorem numAt_word {s w : Nat} {zs : List Int} (h : Up w zs) (hw : zs.length * w ≤ 60) (i : Nat) (hi : i < zs.length) : (numAt (wordN s w zs) w i : Int) = zs.getD i 0 := by
  obtain ⟨a, z, b, rfl, rfl⟩ : ∃ a z b, zs = a ++ z :: b ∧ a.length = i := ⟨zs.take i, zs[i], zs.drop (i + 1), by rw [List.getElem_cons_drop, List.take_append_drop], by simp; omega⟩
  have hz := h z (by simp)
  have hn := toNat_up hz
  obtain ⟨r, h1, h2⟩ := wacc_split w b (wacc s w (a ++ [z])) (fun x hx => h x (by simp [hx]))
  have e0 : wacc s w (a ++ z :: b) = wacc s w (a ++ [z]) * 2 ^ (b.length * w) + r := by
    rw [← h1, ← wacc_append, List.append_assoc, List.singleton_append]
  have hl : (a ++ z :: b).length = a.length + 1 + b.length := by simp; omega
  rw [hl, Nat.add_mul] at hw
  have e1 : 60 - (a.length + 1) * w = (60 - (a ++ z :: b).length * w) + b.length * w := by rw [hl, Nat.add_mul (a.length + 1)]; omega
  unfold numAt wordN
  rw [e1, Nat.pow_add, ← Nat.div_div_eq_div_mul, Nat.mul_div_cancel _ (Nat.two_pow_pos _), e0, Nat.add_comm, Nat.add_mul_div_right _ _ (Nat.two_pow_pos _), Nat.div_eq_of_lt h2, Nat.zero_add, wacc_snoc,
    Nat.add_comm, Nat.add_mul_mod_self_right, Nat.mod_eq_of_lt hn]
  simp
  omega
/-- the numbers of a word -/
def nms (v : Nat) : List Int := (List.range (cn (v / 2 ^ 60))).map fun i => (numAt v (wi (v / 2 ^ 60)) i : Int)
theorem nms_length (v : Nat) : (nms v).length = cn (v / 2 ^ 60) := by simp [nms]
theorem nms_up (v : Nat) (hv : v < 18446744073709551616) : Up 60 (nms v) := by
  intro x hx
  simp only [nms, List.mem_map] at hx
  obtain ⟨i, _, rfl⟩ := hx
  have hs : v / 2 ^ 60 < 16 := by
    have e60 : (2 : Nat) ^ 60 = 1152921504606846976 := by decide
    rw [e60]; omega
  have h3 := (sort_at _ hs).2.2.1
  have h4 : numAt v (wi (v / 2 ^ 60)) i < 2 ^ wi (v / 2 ^ 60) := Nat.mod_lt _ (Nat.two_pow_pos _)
  have h5 : 2 ^ wi (v / 2 ^ 60) ≤ 2 ^ 60 := Nat.pow_le_pow_right (by omega) h3
  refine ⟨by omega, ?_⟩
  have : numAt v (wi (v / 2 ^ 60)) i < 2 ^ 60 := by omega
  exact_mod_cast this
theorem nms_word {s : Nat} {zs : List Int} (hs : s < 16) (hl : zs.length = cn s) (h : Up (wi s) zs) : nms (wordN s (wi s) zs) = zs := by
  have hw : zs.length * wi s ≤ 60 := by rw [hl]; exact (sort_at s hs).2.2.2.1
  have e := wordN_sort (s := s) h hw
  unfold nms
  rw [e, ← hl]
  apply List.ext_getElem
  · simp
  · intro i h1 h2
    rw [List.getElem_map, List.getElem_range, numAt_word h hw i h2, List.getD_eq_getElem?_getD, List.getElem?_eq_getElem h2]
    rfl
end Go.Proofs.YthapipgaohlgdabGreatDoor

/- Package simple: the sorts, and what room each has. -/
namespace Go.Proofs.YthapipgaohlgdabGreatDoor
open Go.RowKit

def sortCells : Array Value := #[.int .i64 240, .int .i64 0, .int .i64 120, .int .i64 0, .int .i64 60, .int .i64 1, .int .i64 30, .int .i64 2, .int .i64 20, .int .i64 3, .int .i64 15, .int .i64 4, .int .i64 12, .int .i64 5, .int .i64 10, .int .i64 6, .int .i64 8, .int .i64 7, .int .i64 7, .int .i64 8, .int .i64 6, .int .i64 10, .int .i64 5, .int .i64 12, .int .i64 4, .int .i64 15, .int .i64 3, .int .i64 20, .int .i64 2, .int .i64 30, .int .i64 1, .int .i64 60]
def zeroCells : Array Value := #[.int .i64 0, .int .i64 0, .int .i64 0, .int .i64 0, .int .i64 0, .int .i64 0, .int .i64 0, .int .i64 0, .int .i64 0, .int .i64 0, .int .i64 0, .int .i64 0, .int .i64 0, .int .i64 0, .int .i64 0, .int .i64 0, .int .i64 0, .int .i64 0, .int .i64 0, .int .i64 0, .int .i64 0, .int .i64 0, .int .i64 0, .int .i64 0, .int .i64 0, .int .i64 0, .int .i64 0, .int .i64 0, .int .i64 0, .int .i64 0, .int .i64 0, .int .i64 0]
theorem Tryz.size45 : (Tryz.prog.info? 137).map (·.size) = some sortCells.size := by kernel_rfl
theorem zero_sort : zeroCells.size = sortCells.size := by kernel_rfl
theorem one_sort : sortCells.all (·.oneCell') = true := by kernel_rfl
theorem results_cell {fn : Func} {p : Tmp} {ty : TypeId} (h : fn.results = #[.cell p ty]) (tmps : Array Value) (P : Program) (w : World) {a : Addr} {v : Value} (ha : tmps[p]?.getD undef = .pointer (some a)) (hl : (loadVar ty a).run P w = .ok v w) :
    (results fn tmps).run P w = .ok v w := by
  simp only [results, h]
  simp [ha, asAddr, hl]

set_option maxHeartbeats 800000 in
set_option maxRecDepth 100000 in
theorem sorts_any (w : World) : Calls Tryz.prog 110 #[] w fun e w' => e = .returned (.agg sortCells) ∧ w' = w.alloc (.cells sortCells 137) := by
  go_enter Tryz.func110, Tryz.ntmps110
  go_wp2_with (refine wpList_store_row rfl 137 (.tmp 0) (.tmp 17) rfl w.heap.size sortCells rfl rfl 137 zeroCells (heap_alloc_last w _) Tryz.size45 zero_sort one_sort ?_)
  rw [World.setRow_alloc_new]
  refine bodyPost_ret (v := .agg sortCells) (results_cell rfl _ _ _ rfl ?_) rfl ⟨rfl, rfl⟩
  exact run_loadVar_new w 137 sortCells 16 136 Tryz.underlying137 Tryz.size45

theorem room_ix (s : Nat) (h : s < 16) (w : World) : (Instr.index 137 (.agg sortCells) (.int .i64 s)).run Tryz.prog w = .ok (.agg #[.int .i64 (cn s), .int .i64 (wi s)]) w := by
  obtain rfl | rfl | rfl | rfl | rfl | rfl | rfl | rfl | rfl | rfl | rfl | rfl | rfl | rfl | rfl | rfl : s = 0 ∨ s = 1 ∨ s = 2 ∨ s = 3 ∨ s = 4 ∨ s = 5 ∨ s = 6 ∨ s = 7 ∨ s = 8 ∨ s = 9 ∨ s = 10 ∨ s = 11 ∨ s = 12 ∨ s = 13 ∨ s = 14 ∨ s = 15 := by omega
  all_goals kernel_rfl

set_option maxHeartbeats 800000 in
set_option maxRecDepth 100000 in
theorem room_no (s : Int) (w : World) (h : s < 0 ∨ 15 < s) : Calls Tryz.prog 87 #[.int .i64 s] w fun e w' => e = .returned (.tuple #[.int .i64 0, .int .i64 0]) ∧ w = w' := by
  by_cases h0 : s < 0
  · have d0 : decide (s < 0) = true := decide_eq_true h0
    clear h
    go_enter Tryz.func87, Tryz.ntmps87
    go_wp2
    go_ret2
    exact ⟨rfl, rfl⟩
  · have d0 : decide (s < 0) = false := decide_eq_false h0
    have d1 : decide (16 ≤ s) = true := decide_eq_true (by omega)
    clear h
    go_enter Tryz.func87, Tryz.ntmps87
    go_wp2
    go_ret2
    exact ⟨rfl, rfl⟩

set_option maxHeartbeats 800000 in
set_option maxRecDepth 100000 in
theorem room_at (s : Nat) (w : World) (h : s < 16) : Calls Tryz.prog 87 #[.int .i64 s] w fun e w' => e = .returned (.tuple #[.int .i64 (cn s), .int .i64 (wi s)]) ∧ Only (fun _ => False) w w' := by
  have d0 : decide ((s : Int) < 0) = false := by simp
  have d1 : decide (16 ≤ (s : Int)) = false := by simp; omega
  have A := hideIt (sorts_any w)
  have hix := room_ix s h
  go_enter Tryz.func87, Tryz.ntmps87
  go_wp2_with fail
  refine A.out.mono ?_
  rintro e w1 ⟨rfl, hw1⟩
  have O1 : Hid (Only (fun _ => False) w w1) := by rw [hw1]; exact (Only.refl _ _).alloc _
  clear hw1 A
  go_wp2
  go_quiet (fail)
  go_wp2
  go_ret2
  exact ⟨rfl, (O1.out.alloc _).drewN nq⟩
end Go.Proofs.YthapipgaohlgdabGreatDoor

/- Contracts of the reference for varints: Append, Size, Zig, Zag, Read. -/
namespace Go.Proofs.YthapipgaohlgdabGreatDoor
open Go.RowKit

theorem v_add_step (k acc : Nat) (c : Int) (hk : k ≤ 9) (hacc : acc < 128 ^ k) (c0 : 0 ≤ c) (c1 : c ≤ 255) (h9 : k = 9 → c ≤ 1) :
    IntKind.u64.wrap ((acc : Int) + IntKind.u64.wrap (c % 128 * 2 ^ (7 * k))) = ((acc + (c % 128).toNat * 128 ^ k : Nat) : Int) ∧ acc + (c % 128).toNat * 128 ^ k < 128 ^ (k + 1) := by
  obtain ⟨m, rfl⟩ := Int.eq_ofNat_of_zero_le c0
  have e : ((m : Int) % 128).toNat = m % 128 := by omega
  have e2 : ((m : Int) % 128) = ((m % 128 : Nat) : Int) := by omega
  rw [e, e2]
  have p1 : (2 : Nat) ^ (7 * k) = 128 ^ k := by rw [Nat.pow_mul]
  have w2 : ((m % 128 : Nat) : Int) * 2 ^ (7 * k) = ((m % 128 * 128 ^ k : Nat) : Int) := by
    rw [← p1]; simp
  have hlt : acc + m % 128 * 128 ^ k < 18446744073709551616 := by
    rcases Nat.lt_or_ge k 9 with h | h
    · have h1 : m % 128 * 128 ^ k ≤ 127 * 128 ^ k := Nat.mul_le_mul_right _ (by omega)
      have h2 : 128 ^ k ≤ 128 ^ 8 := Nat.pow_le_pow_right (by omega) (by omega)
      have h3 : (128 : Nat) ^ 8 = 72057594037927936 := by decide
      omega
    · have hk : k = 9 := by omega
      subst hk
      have := h9 rfl
      have h3 : (128 : Nat) ^ 9 = 9223372036854775808 := by decide
      have h1 : m % 128 * 128 ^ 9 ≤ 1 * 128 ^ 9 := Nat.mul_le_mul_right _ (by omega)
      omega
  have w3 : IntKind.u64.wrap ((m % 128 * 128 ^ k : Nat) : Int) = ((m % 128 * 128 ^ k : Nat) : Int) := by rw [IntKind.wrap_u64]; omega
  have w4 : IntKind.u64.wrap ((acc : Int) + ((m % 128 * 128 ^ k : Nat) : Int)) = ((acc + m % 128 * 128 ^ k : Nat) : Int) := by rw [IntKind.wrap_u64]; omega
  rw [w2, w3, w4]
  refine ⟨rfl, ?_⟩
  rw [Nat.pow_succ]
  have h1 : m % 128 * 128 ^ k ≤ 127 * 128 ^ k := Nat.mul_le_mul_right _ (by omega)
  omega

end Go.Proofs.YthapipgaohlgdabGreatDoor

/- Contracts of the reference for cursors: Byte, Bytes, Fixed, Varint, Block, Fix, Blocked. -/
namespace Go.Proofs.YthapipgaohlgdabGreatDoor
open Go.RowKit

theorem getD_mem (l : List Int) (k : Nat) (h : k < l.length) : l.getD k 0 ∈ l := by
  rw [List.getD_eq_getElem?_getD, List.getElem?_eq_getElem h]; simp
/-- a slice from n on, as the walk leaves it -/
theorem Bs.rest {k : IntKind} {w : World} {ao : Option Addr} {m cap n : Nat} {xs : List Int} (h : Bs k w (.slice ao m cap) xs) (hn : n ≤ m) : Bs k w (.slice (if cap = n then ao else ao.map (fun x => x.add n)) (m - n) (cap - n)) (xs.drop n) := by
  split
  · rename_i hc
    subst hc
    rw [Nat.sub_self]
    exact h.cut0 hn
  · exact h.cut hn
theorem NoCap.rest {ao : Option Addr} {m cap n m' : Nat} (h : NoCap (.slice ao m cap)) : NoCap (.slice (if cap = n then ao else ao.map (fun x => x.add n)) m' (cap - n)) := by
  cases ao with
  | none =>
    have := h m cap rfl
    subst this
    intro a b e
    simp at e
    omega
  | some x =>
    split
    · exact NoCap.some _ _ _
    · exact NoCap.some _ _ _

/-- append(s, x...): s a row of the call's own, x any slice of numbers, the nil one among them: as one step -/
theorem wp_append_bs {P : Program} {w : World} {o : Oper} {a : Act} {K : Act → World → Prop} {Q : Exit → Act → World → Prop} (s x : Operand) (t : TypeId)
    (ho : o.op = .call { callee := .builtin .append, args := #[s, x], argTypes := #[t, t] })
    (base : Nat) (e : TypeId) (i : TypeInfo) (z : Value) (bytes : Nat) (ht : P.underlying t = some (.slice e)) (hi : P.info? e = some i) (hz : i.zero = some z)
    (hsize : i.size = 1) (hby : i.bytes = bytes) (hzs : z.cells.size = 1)
    (v : Value) (n : Nat) (xs : List Value) (hs : a.eval s = v) (hown : w.ownsRow base e 1 v n xs)
    (k : IntKind) (u : Value) (ys : List Int) (hx : a.eval x = u) (hb : Bs k w u ys) (hnc : NoCap u)
    (h63 : n + ys.length ≤ maxLen) (hbytes : (n + ys.length) * bytes ≤ 140737488355328) (hbase : base ≤ w.heap.size)
    (h : ∀ v' w', w'.ownsRow base e 1 v' (n + ys.length) (xs ++ ys.map (Value.int k)) → w.grownBy w' v.ownBlock → K (a.put o.dst v') w') :
    Oper.wp P o a w K Q := by
  obtain ⟨ao, cap, rfl⟩ := hb.len
  cases ao with
  | none =>
    have h0 : ys = [] := by
      obtain ⟨ao', cap', e1, _, hr⟩ := hb
      rcases ys with _ | ⟨y, ys⟩
      · rfl
      · obtain ⟨b, off, e2, _⟩ := hr (by simp)
        simp at e1
        rw [← e1.1] at e2; cases e2
    subst h0
    have hc : cap = 0 := hnc _ _ rfl
    subst hc
    have hrun := run_append_owned_none (P := P) (w := w) base t o.type e i 1 ht hi v n xs hown
    have hK := h v w (by simpa using hown) (World.grownBy.refl _ _)
    unfold Oper.wp
    simp [execOp, ho, resolve, invoke, builtin, hs, hx, hrun, Result.andThen]
    exact hK
  | some ad =>
    obtain ⟨v', w', hrun, r1, r2, _⟩ := run_append_own_at (P := P) w base t o.type e i z 1 bytes ht hi hz hsize hby hzs (by omega) v n xs hown ad ys.length cap (ys.map (Value.int k)) (by simp) hb.news (oneCell_ints _ _) h63 hbytes hbase
    unfold Oper.wp
    simp [execOp, ho, resolve, invoke, builtin, hs, hx, hrun, Result.andThen]
    exact h v' w' r1 r2
/-- .. in a region that draws -/
theorem step_append_bs {P : Program} {w : World} {ops : Array Oper} {o : Oper} {a : Act} {K : Act → World → Prop} {Q : Exit → Act → World → Prop} {E : Prop} (hgd : o.guard = none) (s x : Operand) (t : TypeId)
    (ho : o.op = .call { callee := .builtin .append, args := #[s, x], argTypes := #[t, t] })
    (base : Nat) (e : TypeId) (i : TypeInfo) (z : Value) (bytes : Nat) (ht : P.underlying t = some (.slice e)) (hi : P.info? e = some i) (hz : i.zero = some z)
    (hsize : i.size = 1) (hby : i.bytes = bytes) (hzs : z.cells.size = 1)
    (v : Value) (n : Nat) (xs : List Value) (hs : a.eval s = v) (hown : w.ownsRow base e 1 v n xs)
    (k : IntKind) (u : Value) (ys : List Int) (hx : a.eval x = u) (hb : Bs k w u ys) (hnc : NoCap u)
    (h63 : n + ys.length ≤ maxLen) (hbytes : (n + ys.length) * bytes ≤ 140737488355328) (hbase : base ≤ w.heap.size)
    (h : ∀ v' w', w'.ownsRow base e 1 v' (n + ys.length) (xs ++ ys.map (Value.int k)) → w.grownBy w' v.ownBlock → K (a.put o.dst v') w') :
    if Region.wanted o (yielded ops a.tmps) = true then Oper.wp P o a w K Q else E := by
  have hw : Region.wanted o (yielded ops a.tmps) = true := by simp [Region.wanted, hgd]
  rw [if_pos hw]
  exact wp_append_bs s x t ho base e i z bytes ht hi hz hsize hby hzs v n xs hs hown k u ys hx hb hnc h63 hbytes hbase h
/-- .. where it is asked for behind an 'and' or an 'or' -/
theorem wpList_append_bsW {P : Program} (w : World) {ops : Array Oper} {rest : List Oper} {o : Oper} {a : Act} {Q : Exit → Act → World → Prop} (hw : Region.wanted o (yielded ops a.tmps) = true) (s x : Operand) (t : TypeId)
    (ho : o.op = .call { callee := .builtin .append, args := #[s, x], argTypes := #[t, t] })
    (base : Nat) (e : TypeId) (i : TypeInfo) (z : Value) (bytes : Nat) (ht : P.underlying t = some (.slice e)) (hi : P.info? e = some i) (hz : i.zero = some z)
    (hsize : i.size = 1) (hby : i.bytes = bytes) (hzs : z.cells.size = 1)
    (v : Value) (n : Nat) (xs : List Value) (hs : a.eval s = v) (hown : w.ownsRow base e 1 v n xs)
    (k : IntKind) (u : Value) (ys : List Int) (hx : a.eval x = u) (hb : Bs k w u ys) (hnc : NoCap u)
    (h63 : n + ys.length ≤ maxLen) (hbytes : (n + ys.length) * bytes ≤ 140737488355328) (hbase : base ≤ w.heap.size)
    (h : ∀ v' w', w'.ownsRow base e 1 v' (n + ys.length) (xs ++ ys.map (Value.int k)) → w.grownBy w' v.ownBlock → wpList P ops Q rest (a.put o.dst v') w') :
    wpList P ops Q (o :: rest) a w := by
  refine wpList_step fun K hK => ?_
  rw [if_pos hw]
  exact wp_append_bs s x t ho base e i z bytes ht hi hz hsize hby hzs v n xs hs hown k u ys hx hb hnc h63 hbytes hbase (fun v' w' h1 h2 => hK _ _ (h v' w' h1 h2))

end Go.Proofs.YthapipgaohlgdabGreatDoor

/- Package simple: do numbers fit a width, the least sort that fits, and the word of a sort. -/
namespace Go.Proofs.YthapipgaohlgdabGreatDoor
open Go.RowKit

set_option maxHeartbeats 400000 in
set_option maxRecDepth 100000 in
theorem allFit_bs (v : Value) (xs : List Int) (q : Nat) (w : World) (h : Bs .u64 w v xs) (hu : ∀ x ∈ xs, 0 ≤ x ∧ x ≤ 18446744073709551615) (hq : q ≤ 60) (hl : xs.length ≤ 140737488355328) :
    Calls Tryz.prog 85 #[v, .int .i64 q] w fun e w' => e = .returned (.bool (small q xs)) ∧ w = w' := by
  obtain ⟨ao, cap, rfl⟩ := h.len
  have HB := hideIt h
  have HU := hideIt hu
  obtain ⟨m, hm⟩ : ∃ m, m = xs.length := ⟨_, rfl⟩
  rw [← hm] at HB hl ⊢
  have HM := hideIt hm
  clear h hu hm
  have hq2 : (q : Int) ≤ 60 := by omega
  go_enter Tryz.func85, Tryz.ntmps85
  go_wp2
  go_loop [9] (fun i => ∃ k : Nat, k ≤ m ∧ i = .int .i64 k ∧ small q (xs.take k) = true) (fun i => m - (intOf i).toNat)
  case atStart => exact ⟨0, Nat.zero_le _, rfl, by simp [small]⟩
  case round =>
    obtain ⟨k, hk, rfl, hs⟩ := hrel
    have HS := hideIt hs
    clear hs
    by_cases hlt : k < m
    · have hkx : k < xs.length := by rw [← HM.out]; exact hlt
      obtain ⟨b, off, cap', e1, c0⟩ := (HB.out).at k hkx
      simp only [Value.slice.injEq] at e1
      obtain ⟨rfl, e2, rfl⟩ := e1
      clear e2
      obtain ⟨x0, x1⟩ := HU.out _ (getD_mem xs k hkx)
      have hsn : Hid (small q (xs.take (k + 1)) = (small q (xs.take k) && decide (xs.getD k 0 < 2 ^ q))) := by
        simp only [Hid]; rw [take_snoc xs k hkx, small_snoc]
      have hno : Hid (¬ xs.getD k 0 < 2 ^ q → small q xs = false) := small_no hkx
      obtain ⟨x, hx⟩ : ∃ x, x = xs.getD k 0 := ⟨_, rfl⟩
      rw [← hx] at c0 x0 x1 hsn hno
      clear hx hkx
      have i0 : (0 : Int) ≤ (k : Int) := by omega
      have i1 : (k : Int) < (m : Int) := by omega
      by_cases hf : x < 2 ^ q
      · have hdv : x / 2 ^ q = 0 := Int.ediv_eq_zero_of_lt x0 hf
        have d1 : (x / 2 ^ q != 0) = false := by rw [hdv]; rfl
        have HF := hideIt hf
        clear hf hdv
        go_wp2
        go_round
        case rel => exact ⟨k + 1, by omega, by go_num, by rw [hsn.out, HS.out]; simpa using HF.out⟩
        case measure => simp [intOf]; omega
      · have hdv : x / 2 ^ q ≠ 0 := by
          intro h0
          apply hf
          have := Int.lt_ediv_add_one_mul_self x (show (0 : Int) < 2 ^ q by have := pow_mono (Nat.zero_le q); omega)
          rw [h0] at this
          simpa using this
        have d1 : (x / 2 ^ q != 0) = true := by simpa using hdv
        have HF := hideIt (hno.out hf)
        clear hf hdv
        go_wp2
        go_ret
        exact ⟨by rw [HF.out]; rfl, rfl⟩
    · have hkm : k = m := by omega
      subst hkm
      go_wp2
      go_ret
      have := HS.out
      rw [HM.out, List.take_length] at this
      exact ⟨by rw [this]; rfl, rfl⟩

theorem Bs.cap_le {k : IntKind} {w : World} {ao : Option Addr} {m cap : Nat} {xs : List Int} (h : Bs k w (.slice ao m cap) xs) : m ≤ cap := by
  obtain ⟨ao', cap', e, hc, _⟩ := h
  simp at e
  omega
theorem sort_cell {w : World} {N s : Nat} (h : w.heap[N]? = some (.cells sortCells 137 (0, 0))) (hs : s < 16) : w.cell? ⟨N, s * 2, none⟩ = some (.int .i64 (cn s)) ∧ w.cell? ⟨N, s * 2 + 1, none⟩ = some (.int .i64 (wi s)) := by
  simp only [World.cell?, h]
  obtain rfl | rfl | rfl | rfl | rfl | rfl | rfl | rfl | rfl | rfl | rfl | rfl | rfl | rfl | rfl | rfl : s = 0 ∨ s = 1 ∨ s = 2 ∨ s = 3 ∨ s = 4 ∨ s = 5 ∨ s = 6 ∨ s = 7 ∨ s = 8 ∨ s = 9 ∨ s = 10 ∨ s = 11 ∨ s = 12 ∨ s = 13 ∨ s = 14 ∨ s = 15 := by omega
  all_goals exact ⟨by kernel_rfl, by kernel_rfl⟩
/-- what holds where leastSort jumps back -/
def LsJ (w : World) (N : Nat) (v : Value) (xs : List Int) (a' : Act) (w' : World) : Prop :=
  Only (fun _ => False) w w' ∧ w'.heap[N]? = some (.cells sortCells 137 (0, 0)) ∧ ∃ (s : Nat) (u5 u6 u8 u9 u10 u11 u12 u13 u14 u15 u16 u17 u18 u19 u20 u21 u22 u23 u24 u25 u26 u27 u28 u29 u30 : Value),
      a' = { tmps := #[v, undef, .int .i64 0, .pointer (some ⟨N, 0, none⟩), .int .i64 s, u5, u6, .agg sortCells, u8, u9, u10, u11, u12, u13, u14, u15, u16, u17, u18, u19, u20, u21, u22, u23, u24, u25, u26, u27, u28, u29, u30], defers := [] } ∧ s ≤ 15 ∧ leastF (15 - s) s xs = least xs
def lsMu (a' : Act) (_ : World) : Nat := (15 - intOf (a'.tmps.getD 4 undef)).toNat
theorem ls_next {w w' : World} {N : Nat} {v : Value} {xs : List Int} {s : Nat} (on : Only (fun _ => False) w w') (hN : w'.heap[N]? = some (.cells sortCells 137 (0, 0))) (hs : s ≤ 15) (hl : leastF (15 - s) s xs = least xs) (hf : fitB xs s = false) (f15 : fitB xs 15 = true) (nq : Nat) (u5 u6 u8 u9 u10 u11 u12 u13 u14 u15 u16 u17 u18 u19 u20 u21 u22 u23 u24 u25 u26 u27 u28 u29 u30 : Value) :
    LsJ w N v xs { tmps := #[v, undef, .int .i64 0, .pointer (some ⟨N, 0, none⟩), .int .i64 ((s : Int) + 1), u5, u6, .agg sortCells, u8, u9, u10, u11, u12, u13, u14, u15, u16, u17, u18, u19, u20, u21, u22, u23, u24, u25, u26, u27, u28, u29, u30], defers := [] } (w'.drewN nq) := by
  have h15 : s < 15 := by
    rcases Nat.lt_or_ge s 15 with h | h
    · exact h
    · rw [show s = 15 by omega, f15] at hf; cases hf
  refine ⟨on.drewN nq, hN, s + 1, u5, u6, u8, u9, u10, u11, u12, u13, u14, u15, u16, u17, u18, u19, u20, u21, u22, u23, u24, u25, u26, u27, u28, u29, u30, ?_, by omega, ?_⟩
  · rw [Int.natCast_add]; rfl
  · rw [← hl, leastF_miss hf h15]

theorem ls_less {s : Nat} {xs : List Int} (hs : s ≤ 15) (hf : fitB xs s = false) (f15 : fitB xs 15 = true) : (15 - ((s : Int) + 1)).toNat < (15 - (s : Int)).toNat := by
  have h15 : s < 15 := by
    rcases Nat.lt_or_ge s 15 with h | h
    · exact h
    · rw [show s = 15 by omega, f15] at hf; cases hf
  omega

set_option maxHeartbeats 800000 in
set_option maxRecDepth 100000 in
theorem leastSort_bs (v : Value) (xs : List Int) (w : World) (h : Bs .u64 w v xs) (hu : Up 60 xs) (hne : xs ≠ []) (hl : xs.length ≤ 65536) :
    Calls Tryz.prog 86 #[v] w fun e w' => e = .returned (.int .i64 (least xs)) ∧ Only (fun _ => False) w w' := by
  obtain ⟨ao, cap, rfl⟩ := h.len
  have HB := hideIt h
  have HU := hideIt hu
  have hcap := h.cap_le
  have F15 := hideIt (fit15 hne hu)
  obtain ⟨m, hm⟩ : ∃ m, m = xs.length := ⟨_, rfl⟩
  rw [← hm] at HB hl hcap ⊢
  have HM := hideIt hm
  clear h hu hm hne
  have A := hideIt (sorts_any w)
  obtain ⟨N, hN⟩ : ∃ N, N = w.heap.size + 1 := ⟨_, rfl⟩
  have HN := hideIt hN
  clear hN
  go_enter Tryz.func86, Tryz.ntmps86
  go_wp2
  refine wp_scope_jumps 0 (LsJ w N (.slice ao m cap) xs) lsMu rfl ?_ ?_
  · go_wp2_with fail
    refine A.out.mono ?_
    rintro e w1 ⟨rfl, hw1⟩
    have O1 : Hid (Only (fun _ => False) w w1 ∧ w1.heap.size = N) := by rw [hw1]; exact ⟨(Only.refl _ _).alloc _, by rw [HN.out]; simp⟩
    clear hw1 A
    go_wp2_with (refine wpList_store_row rfl 137 (.tmp 3) (.tmp 7) rfl w1.heap.size sortCells rfl rfl 137 zeroCells (heap_alloc_last w1 _) Tryz.size45 zero_sort one_sort ?_)
    rw [World.setRow_alloc_new]
    obtain ⟨w2, hw2⟩ : ∃ w2, w2 = w1.alloc (.cells sortCells 137) := ⟨_, rfl⟩
    rw [← hw2, O1.out.2]
    have HON : Hid (Only (fun _ => False) w w2 ∧ w2.heap[N]? = some (.cells sortCells 137 (0, 0))) := by
      rw [hw2, ← O1.out.2]; exact ⟨O1.out.1.alloc _, heap_alloc_last w1 _⟩
    clear hw2 O1
    have c0 : w2.cell? ⟨N, 0, none⟩ = some (.int .i64 240) := (sort_cell HON.out.2 (s := 0) (by omega)).1
    have c1 : w2.cell? ⟨N, 1, none⟩ = some (.int .i64 0) := (sort_cell HON.out.2 (s := 0) (by omega)).2
    go_step3
    have AF := hideIt (fun (hx : 240 ≤ m) (nq : Nat) => allFit_bs (.slice ao (240) cap) (xs.take (240)) (wi 0) (w2.drewN nq) (((HB.out.head (n := 240) hx).keep HON.out.1 (fun _ _ f => f)).keep ((Only.refl (fun _ => False) _).drewN nq) (fun _ _ f => f)) (fun x hx => ⟨(HU.out x (List.mem_of_mem_take hx)).1, by have := (HU.out x (List.mem_of_mem_take hx)).2; omega⟩) (sort_at 0 (by omega)).2.2.1 (by rw [List.length_take, ← HM.out]; omega))
    rw [show wi 0 = 0 from rfl] at AF
    by_cases hc : m < 240
    · have dc : decide ((m : Int) < 240) = true := by simp; omega
      have HF : Hid (fitB xs 0 = false) := by simp only [Hid, fitB]; rw [decide_eq_false (by rw [← HM.out]; show ¬ 240 ≤ m; omega)]; rfl
      clear AF
      go_wp2
      go_quiet (fail)
      go_wp2
      go_step3
      exact @And.intro (0 = 0) (LsJ w N (.slice ao m cap) xs _ _) rfl (ls_next (s := 0) HON.out.1 HON.out.2 (by omega) rfl HF.out F15.out _ _ _ _ _ _ _ _ _ _ _ _ _ _ _ _ _ _ _ _ _ _ _ _ _ _)
    · have dc : decide ((m : Int) < 240) = false := by simp; omega
      have j0 : (0 : Int) ≤ 240 := by omega
      have j1 : 240 ≤ (m : Int) := by omega
      have j2 : 240 ≤ (cap : Int) := by omega
      have AG := hideIt (AF.out (by omega))
      have HFE : Hid (fitB xs 0 = small (wi 0) (xs.take (cn 0))) := by simp only [Hid, fitB]; rw [decide_eq_true (by rw [← HM.out]; show 240 ≤ m; omega)]; rfl
      rw [show wi 0 = 0 from rfl, show cn 0 = 240 from rfl] at HFE
      clear AF
      cases hsm : small 0 (xs.take 240)
      · rw [hsm] at AG HFE
        clear hsm
        go_wp2
        go_quiet (fail)
        go_wp2_with fail
        refine (AG.out nq).mono ?_
        rintro e w3 ⟨rfl, rfl⟩
        go_wp2
        go_step3
        exact @And.intro (0 = 0) (LsJ w N (.slice ao m cap) xs _ _) rfl (ls_next (s := 0) HON.out.1 HON.out.2 (by omega) rfl HFE.out F15.out _ _ _ _ _ _ _ _ _ _ _ _ _ _ _ _ _ _ _ _ _ _ _ _ _ _)
      · rw [hsm] at AG HFE
        clear hsm
        go_wp2
        go_quiet (fail)
        go_wp2_with fail
        refine (AG.out nq).mono ?_
        rintro e w3 ⟨rfl, rfl⟩
        go_wp2
        simp only [Exit.jump]
        go_ret
        refine ⟨ret_int ?_, HON.out.1.drewN nq⟩
        rw [show least xs = 0 from leastF_hit HFE.out 15]; rfl
  · rintro a' w' ⟨on, hN, s, u5, u6, u8, u9, u10, u11, u12, u13, u14, u15, u16, u17, u18, u19, u20, u21, u22, u23, u24, u25, u26, u27, u28, u29, u30, rfl, hs, hleast⟩
    have c0 := (sort_cell hN (s := s) (by omega)).1
    have c1 := (sort_cell hN (s := s) (by omega)).2
    have HON := hideIt (And.intro on hN)
    have HL := hideIt hleast
    have s0 : (0 : Int) ≤ (s : Int) := by omega
    have s1 : (s : Int) < 16 := by omega
    clear on hN hleast
    have AF := hideIt (fun (hx : cn s ≤ m) (nq : Nat) => allFit_bs (.slice ao (cn s) cap) (xs.take (cn s)) (wi s) (w'.drewN nq) (((HB.out.head (n := cn s) hx).keep HON.out.1 (fun _ _ f => f)).keep ((Only.refl (fun _ => False) _).drewN nq) (fun _ _ f => f)) (fun x hx => ⟨(HU.out x (List.mem_of_mem_take hx)).1, by have := (HU.out x (List.mem_of_mem_take hx)).2; omega⟩) (sort_at s (by omega)).2.2.1 (by rw [List.length_take, ← HM.out]; omega))
    by_cases hc : m < cn s
    · have dc : decide ((m : Int) < ((cn s : Nat) : Int)) = true := by simp; omega
      have dn : decide (m < cn s) = true := decide_eq_true hc
      have HF : Hid (fitB xs s = false) := by simp only [Hid, fitB]; rw [decide_eq_false (by rw [← HM.out]; omega)]; rfl
      clear AF
      go_wp2
      go_quiet (fail)
      go_wp2
      go_step3
      exact @And.intro (0 = 0) (LsJ w N (.slice ao m cap) xs _ _ ∧ _) rfl ⟨ls_next HON.out.1 HON.out.2 hs HL.out HF.out F15.out _ _ _ _ _ _ _ _ _ _ _ _ _ _ _ _ _ _ _ _ _ _ _ _ _ _, ls_less hs HF.out F15.out⟩
    · have dc : decide ((m : Int) < ((cn s : Nat) : Int)) = false := by simp; omega
      have dn : decide (m < cn s) = false := decide_eq_false hc
      have j0 : (0 : Int) ≤ ((cn s : Nat) : Int) := by omega
      have j1 : ((cn s : Nat) : Int) ≤ (m : Int) := by omega
      have j2 : ((cn s : Nat) : Int) ≤ (cap : Int) := by omega
      have AG := hideIt (AF.out (by omega))
      have HFE : Hid (fitB xs s = small (wi s) (xs.take (cn s))) := by simp only [Hid, fitB]; rw [decide_eq_true (by rw [← HM.out]; omega)]; rfl
      clear AF
      cases hsm : small (wi s) (xs.take (cn s))
      · rw [hsm] at AG HFE
        clear hsm
        go_wp2
        go_quiet (fail)
        go_wp2_with fail
        refine (AG.out nq).mono ?_
        rintro e w3 ⟨rfl, rfl⟩
        go_wp2
        go_step3
        exact @And.intro (0 = 0) (LsJ w N (.slice ao m cap) xs _ _ ∧ _) rfl ⟨ls_next HON.out.1 HON.out.2 hs HL.out HFE.out F15.out _ _ _ _ _ _ _ _ _ _ _ _ _ _ _ _ _ _ _ _ _ _ _ _ _ _, ls_less hs HFE.out F15.out⟩
      · rw [hsm] at AG HFE
        clear hsm
        go_wp2
        go_quiet (fail)
        go_wp2_with fail
        refine (AG.out nq).mono ?_
        rintro e w3 ⟨rfl, rfl⟩
        go_wp2
        simp only [Exit.jump]
        go_ret
        refine ⟨ret_int ?_, HON.out.1.drewN nq⟩
        rw [← HL.out, leastF_hit HFE.out]
end Go.Proofs.YthapipgaohlgdabGreatDoor

/- Package simple as plain mathematics: lists of numbers in words, there and back. -/
namespace Go.Proofs.YthapipgaohlgdabGreatDoor
open Go.RowKit

theorem fixB_next (v : Int) (i : Nat) : fixB v (i + 1) = fixB (v / 256) i := by
  unfold fixB
  rw [show 8 * (i + 1) = 8 + 8 * i by omega, Int.pow_add, show (2 : Int) ^ 8 = 256 from rfl, Int.ediv_ediv_of_nonneg (by omega)]
theorem fixL_next (v : Int) (n : Nat) : fixL v (n + 1) = fixL (v / 256) n ++ [fixB v 0] := by
  unfold fixL
  rw [List.range_succ, List.map_append, List.map_singleton]
  congr 1
  · apply List.map_congr_left
    intro j hj
    rw [List.mem_range] at hj
    rw [← fixB_next]
    congr 1
    omega
  · simp
theorem num_fix (n : Nat) : ∀ v : Int, 0 ≤ v → (num (fixL v n) : Int) = v % ((256 ^ n : Nat) : Int) := by
  induction n with
  | zero => intro v _; simp [fixL, num]
  | succ n ih =>
    intro v hv
    have h0 := fixB_range v 0
    rw [fixL_next, num_snoc, Int.natCast_add, Int.natCast_mul, ih (v / 256) (by omega), Int.toNat_of_nonneg h0.1]
    obtain ⟨m, rfl⟩ := Int.eq_ofNat_of_zero_le hv
    have e1 : fixB (m : Int) 0 = ((m % 256 : Nat) : Int) := by simp [fixB]
    have e2 : ((m : Int) / 256) = ((m / 256 : Nat) : Int) := by omega
    rw [e1, e2, Nat.pow_succ, Nat.mul_comm (256 ^ n) 256, ← Int.natCast_emod, ← Int.natCast_emod, Nat.mod_mul]
    omega
theorem num_fix8 (v : Nat) (h : v < 18446744073709551616) : num (fixL v 8) = v := by
  have := num_fix 8 v (by omega)
  have e : ((256 ^ 8 : Nat) : Int) = 18446744073709551616 := by decide
  rw [e] at this
  omega

/-- the word that a list begins with -/
def wd0 (xs : List Int) : Nat := wordN (least xs) (wi (least xs)) (xs.take (cn (least xs)))
def encF : Nat → List Int → List Int
  | 0, _ => []
  | f + 1, xs => if xs = [] then [] else fixL (wd0 xs) 8 ++ encF f (xs.drop (cn (least xs)))
/-- what a list is written as -/
def enc (xs : List Int) : List Int := encF xs.length xs
theorem encF_nil (f : Nat) : encF f [] = [] := by cases f <;> simp [encF]
theorem encF_fuel : ∀ (f g : Nat) (xs : List Int), Up 60 xs → xs.length ≤ f → xs.length ≤ g → encF f xs = encF g xs
  | 0, g, xs, _, hf, _ => by
    have : xs = [] := List.eq_nil_of_length_eq_zero (by omega)
    rw [this, encF_nil, encF_nil]
  | f + 1, 0, xs, _, _, hg => by
    have : xs = [] := List.eq_nil_of_length_eq_zero (by omega)
    rw [this, encF_nil, encF_nil]
  | f + 1, g + 1, xs, hu, hf, hg => by
    by_cases h : xs = []
    · rw [h, encF_nil, encF_nil]
    · have h1 := (sort_at _ (least_fits h hu).1).1
      simp only [encF, h, if_false]
      rw [encF_fuel f g (xs.drop (cn (least xs))) (hu.drop _) (by rw [List.length_drop]; omega) (by rw [List.length_drop]; omega)]
theorem enc_nil : enc [] = [] := rfl
theorem enc_step {xs : List Int} (h : xs ≠ []) (hu : Up 60 xs) : enc xs = fixL (wd0 xs) 8 ++ enc (xs.drop (cn (least xs))) := by
  have hl : 0 < xs.length := List.length_pos_iff.2 h
  have h1 := (sort_at _ (least_fits h hu).1).1
  obtain ⟨f, hf⟩ : ∃ f, xs.length = f + 1 := ⟨xs.length - 1, by omega⟩
  unfold enc
  rw [hf]
  simp only [encF, h, if_false]
  rw [encF_fuel f (xs.drop (cn (least xs))).length _ (hu.drop _) (by rw [List.length_drop]; omega) (Nat.le_refl _)]
theorem wd0_facts {xs : List Int} (h : xs ≠ []) (hu : Up 60 xs) : wd0 xs < 18446744073709551616 ∧ nms (wd0 xs) = xs.take (cn (least xs)) := by
  obtain ⟨h1, h2, h3⟩ := least_fits h hu
  have hl : (xs.take (cn (least xs))).length = cn (least xs) := by rw [List.length_take]; omega
  exact ⟨wordN_lt h1 h3 (by rw [hl]; exact (sort_at _ h1).2.2.2.1), nms_word h1 hl h3⟩
theorem enc_len : ∀ (n : Nat) (xs : List Int), xs.length = n → Up 60 xs → (enc xs).length % 8 = 0 ∧ (enc xs).length ≤ 8 * xs.length ∧ xs.length ≤ 30 * (enc xs).length := by
  intro n
  induction n using Nat.strongRecOn with
  | _ n ih =>
    intro xs hn hu
    by_cases h : xs = []
    · subst h; simp [enc_nil]
    · obtain ⟨h1, h2, h3⟩ := least_fits h hu
      have h4 := sort_at _ h1
      obtain ⟨a, b, c⟩ := ih (xs.drop (cn (least xs))).length (by rw [List.length_drop]; omega) _ rfl (hu.drop _)
      rw [enc_step h hu, List.length_append, fixL_len]
      rw [List.length_drop] at b c
      omega
theorem enc_range : ∀ (n : Nat) (xs : List Int), xs.length = n → Up 60 xs → ∀ y ∈ enc xs, 0 ≤ y ∧ y ≤ 255 := by
  intro n
  induction n using Nat.strongRecOn with
  | _ n ih =>
    intro xs hn hu y hy
    by_cases h : xs = []
    · subst h; simp [enc_nil] at hy
    · obtain ⟨h1, h2, h3⟩ := least_fits h hu
      have h4 := sort_at _ h1
      rw [enc_step h hu, List.mem_append] at hy
      rcases hy with hy | hy
      · exact fixL_range _ _ y hy
      · exact ih (xs.drop (cn (least xs))).length (by rw [List.length_drop]; omega) _ rfl (hu.drop _) y hy

/-- words are read as long as fewer than n numbers are had: the numbers, what is left, the error -/
def rdF : Nat → Nat → List Int → List Int → List Int × List Int × Int
  | 0, _, acc, ys => (acc, ys, 0)
  | f + 1, n, acc, ys => if acc.length < n then (if ys.length < 8 then ([], ys, 2) else rdF f n (acc ++ nms (num (ys.take 8))) (ys.drop 8)) else (acc, ys, 0)
def rdA (n : Nat) (ys : List Int) : List Int × List Int × Int := rdF (ys.length + 1) n [] ys
theorem rdF_done {n : Nat} {acc ys : List Int} (h : n ≤ acc.length) (f : Nat) : rdF f n acc ys = (acc, ys, 0) := by
  cases f with
  | zero => rfl
  | succ f => simp only [rdF]; rw [if_neg (by omega)]
theorem rdF_short {n f : Nat} {acc ys : List Int} (h : acc.length < n) (hy : ys.length < 8) (hf : 0 < f) : rdF f n acc ys = ([], ys, 2) := by
  obtain ⟨g, rfl⟩ : ∃ g, f = g + 1 := ⟨f - 1, by omega⟩
  simp only [rdF]
  rw [if_pos h, if_pos hy]
theorem rdF_step {n f : Nat} {acc ys : List Int} (h : acc.length < n) (hy : 8 ≤ ys.length) (hf : ys.length < f) : rdF f n acc ys = rdF (f - 1) n (acc ++ nms (num (ys.take 8))) (ys.drop 8) ∧ (ys.drop 8).length < f - 1 := by
  obtain ⟨g, rfl⟩ : ∃ g, f = g + 1 := ⟨f - 1, by omega⟩
  simp only [rdF]
  rw [if_pos h, if_neg (by omega)]
  exact ⟨rfl, by rw [List.length_drop]; omega⟩
theorem num8_lt {ys : List Int} (hr : ∀ y ∈ ys, 0 ≤ y ∧ y ≤ 255) : num (ys.take 8) < 18446744073709551616 := by
  have h := num_lt (ys.take 8) (fun y hy => hr y (List.mem_of_mem_take hy))
  have h2 : 256 ^ (ys.take 8).length ≤ 256 ^ 8 := Nat.pow_le_pow_right (by omega) (by rw [List.length_take]; omega)
  have e : (256 : Nat) ^ 8 = 18446744073709551616 := by decide
  omega
theorem sort_lt {v : Nat} (h : v < 18446744073709551616) : v / 2 ^ 60 < 16 := by
  have e60 : (2 : Nat) ^ 60 = 1152921504606846976 := by decide
  rw [e60]; omega
/-- what is read: small numbers, n and at most 239 more; or too short -/
theorem rdF_facts : ∀ (f n : Nat) (acc ys : List Int), ys.length < f → (∀ y ∈ ys, 0 ≤ y ∧ y ≤ 255) → Up 60 acc → acc.length < n + 240 →
    (rdF f n acc ys).2.2 = 2 ∧ (rdF f n acc ys).1 = [] ∨ (rdF f n acc ys).2.2 = 0 ∧ Up 60 (rdF f n acc ys).1 ∧ n ≤ (rdF f n acc ys).1.length ∧ (rdF f n acc ys).1.length < n + 240
  | 0, n, acc, ys, h, _, _, _ => by omega
  | f + 1, n, acc, ys, h, hr, hu, hl => by
    by_cases ha : acc.length < n
    · by_cases hy : ys.length < 8
      · rw [rdF_short ha hy (by omega)]
        exact .inl ⟨rfl, rfl⟩
      · rw [(rdF_step ha (by omega) h).1]
        have hv := num8_lt hr
        have h4 := sort_at _ (sort_lt hv)
        exact rdF_facts f n _ _ (by rw [List.length_drop]; omega) (fun y hy => hr y (List.mem_of_mem_drop hy)) (hu.append (nms_up _ hv)) (by rw [List.length_append, nms_length]; omega)
    · rw [rdF_done (by omega)]
      exact .inr ⟨rfl, hu, by simpa using ha, hl⟩
/-- what is written is read -/
theorem rdF_enc : ∀ (n : Nat) (xs acc r : List Int) (f : Nat), xs.length = n → Up 60 xs → (enc xs ++ r).length < f → rdF f (acc.length + xs.length) acc (enc xs ++ r) = (acc ++ xs, r, 0) := by
  intro n
  induction n using Nat.strongRecOn with
  | _ n ih =>
    intro xs acc r f hn hu hf
    by_cases h : xs = []
    · subst h
      simp only [enc_nil, List.nil_append, List.append_nil]
      rw [rdF_done (by simp)]
    · obtain ⟨h1, h2, h3⟩ := least_fits h hu
      have h4 := sort_at _ h1
      obtain ⟨w1, w2⟩ := wd0_facts h hu
      have hx : 0 < xs.length := List.length_pos_iff.2 h
      have e : enc xs ++ r = fixL (wd0 xs) 8 ++ (enc (xs.drop (cn (least xs))) ++ r) := by rw [enc_step h hu, List.append_assoc]
      have l8 := fixL_len (wd0 xs) 8
      rw [e] at hf ⊢
      have s := rdF_step (f := f) (n := acc.length + xs.length) (acc := acc) (ys := fixL (wd0 xs) 8 ++ (enc (xs.drop (cn (least xs))) ++ r)) (by omega) (by rw [List.length_append]; omega) hf
      rw [List.take_left' l8, List.drop_left' l8, num_fix8 _ w1, w2] at s
      rw [s.1]
      have hl : (acc ++ xs.take (cn (least xs))).length + (xs.drop (cn (least xs))).length = acc.length + xs.length := by
        rw [List.length_append, List.length_take, List.length_drop]; omega
      rw [← hl, ih (xs.drop (cn (least xs))).length (by rw [List.length_drop]; omega) _ (acc ++ xs.take (cn (least xs))) r (f - 1) rfl (hu.drop _) s.2, List.append_assoc, List.take_append_drop]
/-- cut off it is too short -/
theorem rdF_cut : ∀ (n : Nat) (xs acc : List Int) (f k : Nat), xs.length = n → Up 60 xs → k < (enc xs).length → ((enc xs).take k).length < f → (rdF f (acc.length + xs.length) acc ((enc xs).take k)).2.2 = 2 := by
  intro n
  induction n using Nat.strongRecOn with
  | _ n ih =>
    intro xs acc f k hn hu hk hf
    by_cases h : xs = []
    · subst h; simp [enc_nil] at hk
    · obtain ⟨h1, h2, h3⟩ := least_fits h hu
      have h4 := sort_at _ h1
      obtain ⟨w1, w2⟩ := wd0_facts h hu
      have hx : 0 < xs.length := List.length_pos_iff.2 h
      have l8 := fixL_len (wd0 xs) 8
      by_cases h8 : k < 8
      · rw [rdF_short (by omega) (by rw [List.length_take]; omega) (by omega)]
      · have e : (enc xs).take k = fixL (wd0 xs) 8 ++ (enc (xs.drop (cn (least xs)))).take (k - 8) := by
          rw [enc_step h hu, List.take_append, List.take_of_length_le (by omega), l8]
        have el : (enc xs).length = 8 + (enc (xs.drop (cn (least xs)))).length := by rw [enc_step h hu, List.length_append, l8]
        rw [e] at hf ⊢
        have s := rdF_step (f := f) (n := acc.length + xs.length) (acc := acc) (ys := fixL (wd0 xs) 8 ++ (enc (xs.drop (cn (least xs)))).take (k - 8)) (by omega) (by rw [List.length_append]; omega) hf
        rw [List.take_left' l8, List.drop_left' l8, num_fix8 _ w1, w2] at s
        rw [s.1]
        have hl : (acc ++ xs.take (cn (least xs))).length + (xs.drop (cn (least xs))).length = acc.length + xs.length := by
          rw [List.length_append, List.length_take, List.length_drop]; omega
        rw [← hl]
        exact ih (xs.drop (cn (least xs))).length (by rw [List.length_drop]; omega) _ (acc ++ xs.take (cn (least xs))) (f - 1) (k - 8) rfl (hu.drop _) (by omega) s.2

/-- what bytes are decoded to -/
def dec (ys : List Int) (n : Nat) : List Int × Int :=
  if (rdA n ys).2.2 ≠ 0 then ([], 2) else if n < (rdA n ys).1.length then ([], 3) else if enc (rdA n ys).1 = ys then ((rdA n ys).1, 0) else ([], 3)
theorem rdA_facts {n : Nat} {ys : List Int} (hr : ∀ y ∈ ys, 0 ≤ y ∧ y ≤ 255) :
    (rdA n ys).2.2 = 2 ∧ (rdA n ys).1 = [] ∨ (rdA n ys).2.2 = 0 ∧ Up 60 (rdA n ys).1 ∧ n ≤ (rdA n ys).1.length ∧ (rdA n ys).1.length < n + 240 :=
  rdF_facts _ n [] ys (by omega) hr (Up.nil _) (by simp)
theorem rdA_enc {xs : List Int} (hu : Up 60 xs) (r : List Int) : rdA xs.length (enc xs ++ r) = (xs, r, 0) := by
  have := rdF_enc xs.length xs [] r ((enc xs ++ r).length + 1) rfl hu (by omega)
  simpa [rdA] using this
theorem dec_enc {xs : List Int} (hu : Up 60 xs) : dec (enc xs) xs.length = (xs, 0) := by
  have := rdA_enc hu []
  rw [List.append_nil] at this
  simp [dec, this]
theorem dec_more {xs r : List Int} (hu : Up 60 xs) (h : r ≠ []) : dec (enc xs ++ r) xs.length = ([], 3) := by
  have := rdA_enc hu r
  simp [dec, this, h]
theorem dec_cut {xs : List Int} (hu : Up 60 xs) {k : Nat} (hk : k < (enc xs).length) : dec ((enc xs).take k) xs.length = ([], 2) := by
  have := rdF_cut xs.length xs [] (((enc xs).take k).length + 1) k rfl hu hk (by omega)
  simp only [List.length_nil, Nat.zero_add] at this
  unfold dec rdA
  rw [if_pos (by rw [this]; decide)]
/-- where all are read and written so, nothing is left -/
theorem rdA_rest {n : Nat} {ys : List Int} (hr : ∀ y ∈ ys, 0 ≤ y ∧ y ≤ 255) (h0 : (rdA n ys).2.2 = 0) (hn : (rdA n ys).1.length = n) (he : enc (rdA n ys).1 = ys) : (rdA n ys).2.1 = [] := by
  rcases rdA_facts (n := n) hr with ⟨h, _⟩ | ⟨_, hu, _⟩
  · omega
  · have := rdA_enc hu []
    rw [List.append_nil, hn, he] at this
    rw [this]
/-- what is decoded is written so -/
theorem dec_only {n : Nat} {ys : List Int} (hr : ∀ y ∈ ys, 0 ≤ y ∧ y ≤ 255) :
    (∃ c, dec ys n = ([], c) ∧ (c = 2 ∨ c = 3)) ∨ (∃ l, dec ys n = (l, 0) ∧ Up 60 l ∧ l.length = n ∧ enc l = ys) := by
  unfold dec
  by_cases h0 : (rdA n ys).2.2 = 0
  · rw [if_neg (by simpa using h0)]
    rcases rdA_facts (n := n) hr with ⟨h, _⟩ | ⟨_, hu, h1, _⟩
    · omega
    · by_cases hn : n < (rdA n ys).1.length
      · rw [if_pos hn]; exact .inl ⟨3, rfl, .inr rfl⟩
      · rw [if_neg hn]
        by_cases he : enc (rdA n ys).1 = ys
        · rw [if_pos he]; exact .inr ⟨_, rfl, hu, by omega, he⟩
        · rw [if_neg he]; exact .inl ⟨3, rfl, .inr rfl⟩
  · rw [if_pos h0]; exact .inl ⟨2, rfl, .inl rfl⟩
/-- no word has more than 240 numbers -/
theorem enc_words : ∀ (n : Nat) (xs : List Int), xs.length = n → Up 60 xs → 8 * ((xs.length + 239) / 240) ≤ (enc xs).length := by
  intro n
  induction n using Nat.strongRecOn with
  | _ n ih =>
    intro xs hn hu
    by_cases h : xs = []
    · subst h; simp [enc_nil]
    · obtain ⟨h1, h2, h3⟩ := least_fits h hu
      have h4 := sort_at _ h1
      have a := ih (xs.drop (cn (least xs))).length (by rw [List.length_drop]; omega) _ rfl (hu.drop _)
      rw [enc_step h hu, List.length_append, fixL_len]
      rw [List.length_drop] at a
      omega
/-- a great number ahead takes a word of its own -/
theorem enc_great {x : Int} {t : List Int} (hu : Up 60 (x :: t)) (h : 2 ^ 30 ≤ x) : enc (x :: t) = fixL ((15 * 2 ^ 60 + x.toNat : Nat) : Int) 8 ++ enc t := by
  have e := least_great (t := t) h
  have e1 : cn 15 = 1 := rfl
  have e2 : wi 15 = 60 := rfl
  have ew : wd0 (x :: t) = 15 * 2 ^ 60 + x.toNat := by
    unfold wd0
    rw [e, e1, e2]
    simp [wordN, wacc]
  rw [enc_step (by simp) hu, e, e1, ew]
  rfl
theorem enc_greats : ∀ (t : List Int), Up 60 t → (∀ x ∈ t, 2 ^ 30 ≤ x) → (enc t).length = 8 * t.length
  | [], _, _ => by simp [enc_nil]
  | x :: t, hu, h => by
    rw [enc_great hu (h x List.mem_cons_self), List.length_append, fixL_len, enc_greats t (fun y hy => hu y (List.mem_cons_of_mem _ hy)) (fun y hy => h y (List.mem_cons_of_mem _ hy)), List.length_cons]
    omega
end Go.Proofs.YthapipgaohlgdabGreatDoor
