/- Several texts in one: BRd, BMath3, BRef, BItems, BRef2, BMath4, Gm. -/
import Derived.Test.YthapipgaohlgdabGreatDoorG1

/- Contracts of package bits: the reader. -/
namespace Go.Proofs.YthapipgaohlgdabGreatDoor
open Go.RowKit


/-- the bit at place i of bytes -/
def bitB (ys : List Int) (i : Nat) : Bool := ((ys.getD (i / 8) 0).toNat).testBit (7 - i % 8)
def allBits (ys : List Int) : List Bool := (List.range (8 * ys.length)).map (bitB ys)
def bnum (l : List Bool) : Nat := l.foldl (fun a b => 2 * a + b.toNat) 0
theorem bnum_snoc (l : List Bool) (b : Bool) : bnum (l ++ [b]) = 2 * bnum l + b.toNat := by simp [bnum]
theorem bnum_lt (l : List Bool) : bnum l < 2 ^ l.length := by
  induction h : l.length generalizing l with
  | zero => have : l = [] := List.eq_nil_of_length_eq_zero h
            subst this; simp [bnum]
  | succ n ih =>
    have hne : l ≠ [] := by intro h0; subst h0; simp at h
    obtain ⟨t, b, rfl⟩ : ∃ t b, l = t ++ [b] := ⟨l.dropLast, l.getLast hne, (List.dropLast_concat_getLast hne).symm⟩
    have := ih t (by simp at h; omega)
    rw [bnum_snoc, Nat.pow_succ]
    have := bool_le b
    omega
theorem allBits_length (ys : List Int) : (allBits ys).length = 8 * ys.length := by simp [allBits]
theorem allBits_get (ys : List Int) (i : Nat) (h : i < 8 * ys.length) : (allBits ys)[i]? = some (bitB ys i) := by simp [allBits, h]

/-- a bit reader in memory: the struct lies at block R, its slice is v, which reads as the bytes ys; p bits are read. -/
structure RdAt (T : TypeId) (w : World) (R : Nat) (v : Value) (ys : List Int) (p : Nat) : Prop where
  bs : Bs .u8 w v ys
  rng : ∀ y ∈ ys, 0 ≤ y ∧ y ≤ 255
  cell : w.heap[R]? = some (.cells #[v, .int .i64 p] T (0, 0))
  ap : v.ownBlock ≠ some R
  le : p ≤ 8 * ys.length
  len : ys.length ≤ 1000000000000
theorem RdAt.keep {T : TypeId} {w w' : World} {R : Nat} {v : Value} {ys : List Int} {p : Nat} (h : RdAt T w R v ys p) {S : Nat → Prop} (ho : Only S w w') (hR : ¬ S R) (hv : ∀ k, v.ownBlock = some k → ¬ S k) : RdAt T w' R v ys p :=
  ⟨h.bs.keep ho hv, h.rng, ho.heap h.cell hR, h.ap, h.le, h.len⟩
theorem RdAt.form {T : TypeId} {w : World} {R : Nat} {v : Value} {ys : List Int} {p : Nat} (h : RdAt T w R v ys p) : ∃ ao cap, v = .slice ao ys.length cap := by
  obtain ⟨ao, cap, rfl, _⟩ := h.bs
  exact ⟨ao, cap, rfl⟩

set_option maxHeartbeats 400000 in
set_option maxRecDepth 100000 in
theorem bitAt_any (R g off m cap : Nat) (y q : Int) (w : World) (hq : 0 ≤ q) (hq2 : q ≤ 1000000000000000)
    (h0 : w.cell? ⟨R, 0, none⟩ = some (.slice (some ⟨g, off, none⟩) m cap)) (hi : q / 8 < (m : Int)) (hx : w.cell? ⟨g, off + q.toNat / 8, none⟩ = some (.int .u8 y)) :
    Calls Tryz.prog 129 #[.pointer (some ⟨R, 0, none⟩), .int .i64 q] w fun e w' => e = .returned (.int .u8 (bits .and .u8 (y / 2 ^ (7 - q.toNat % 8)) 1)) ∧ w = w' := by
  obtain ⟨n, rfl⟩ := Int.eq_ofNat_of_zero_le hq
  simp only [Int.toNat_natCast] at hx
  have hi0 : (0 : Int) ≤ (n : Int) / 8 := by omega
  go_enter Tryz.func129, Tryz.ntmps129
  go_wp2
  go_ret
  exact ⟨rfl, rfl⟩

theorem bit8_of (y : Int) (j : Nat) (y0 : 0 ≤ y) (y1 : y ≤ 255) : bits .and .u8 (y / 2 ^ j) 1 = ((y.toNat.testBit j).toNat : Int) := by
  obtain ⟨m, rfl⟩ := Int.eq_ofNat_of_zero_le y0
  have e : ((m : Int) / 2 ^ j) = ((m / 2 ^ j : Nat) : Int) := by simp
  have h := Nat.div_le_self m (2 ^ j)
  rw [e, show (1 : Int) = ((1 : Nat) : Int) from rfl, u8_and_nat _ _ (by omega) (by omega), nat_mask1, Int.toNat_natCast, Nat.testBit_eq_decide_div_mod_eq]
  by_cases h1 : m / 2 ^ j % 2 = 1
  · simp [h1]
  · have : m / 2 ^ j % 2 = 0 := by omega
    simp [this]

/-- A BIT of the reader's bytes. -/
theorem bitAt_rd {w : World} {R : Nat} {v : Value} {ys : List Int} {p : Nat} (h : RdAt 152 w R v ys p) (q : Int) (q0 : 0 ≤ q) (q1 : q < 8 * (ys.length : Int)) :
    Calls Tryz.prog 129 #[.pointer (some ⟨R, 0, none⟩), .int .i64 q] w fun e w' => e = .returned (.int .u8 ((bitB ys q.toNat).toNat : Int)) ∧ w = w' := by
  have hne : ys ≠ [] := by intro h0; subst h0; simp at q1; omega
  obtain ⟨ao, cap, rfl, hcap, hr⟩ := h.bs
  obtain ⟨b, off, rfl, hcell⟩ := hr hne
  have hj : q.toNat / 8 < ys.length := by omega
  have hc := hcell (q.toNat / 8) hj
  have hy : 0 ≤ ys.getD (q.toNat / 8) 0 ∧ ys.getD (q.toNat / 8) 0 ≤ 255 := by
    refine h.rng _ ?_
    rw [List.getD_eq_getElem?_getD, List.getElem?_eq_getElem hj]; simp
  have hl := h.len
  refine (bitAt_any R b off ys.length cap (ys.getD (q.toNat / 8) 0) q w q0 (by omega) (two_cells h.cell).1 (by omega) hc).mono ?_
  rintro e w' ⟨rfl, rfl⟩
  refine ⟨ret_int ?_, rfl⟩
  rw [bit8_of _ _ hy.1 hy.2]; rfl

set_option maxHeartbeats 400000 in
set_option maxRecDepth 100000 in
theorem bleft_any (R m cap p : Nat) (ao : Option Addr) (w : World) (hm : m ≤ 140737488355328) (hp : p ≤ 8 * m)
    (h0 : w.cell? ⟨R, 0, none⟩ = some (.slice ao m cap)) (h1 : w.cell? ⟨R, 1, none⟩ = some (.int .i64 p)) :
    Calls Tryz.prog 123 #[.pointer (some ⟨R, 0, none⟩)] w fun e w' => e = .returned (.int .i64 (8 * (m : Int) - p)) ∧ Only (fun _ => False) w w' := by
  go_enter Tryz.func123, Tryz.ntmps123
  go_wp2
  go_quiet (fail)
  go_wp2
  go_ret
  exact ⟨rfl, (Only.refl _ _).drewN _⟩
theorem left_rd {w : World} {R : Nat} {v : Value} {ys : List Int} {p : Nat} (h : RdAt 152 w R v ys p) :
    Calls Tryz.prog 123 #[.pointer (some ⟨R, 0, none⟩)] w fun e w' => e = .returned (.int .i64 (8 * (ys.length : Int) - p)) ∧ Only (fun _ => False) w w' := by
  obtain ⟨ao, cap, rfl⟩ := h.form
  have hl := h.len
  exact bleft_any R ys.length cap p ao w (by omega) h.le (two_cells h.cell).1 (two_cells h.cell).2.1

set_option maxHeartbeats 400000 in
set_option maxRecDepth 100000 in
theorem get_width (R : Nat) (width : Int) (w : World) (h : width < 0 ∨ 64 < width) :
    Calls Tryz.prog 124 #[.pointer (some ⟨R, 0, none⟩), .int .i64 width] w fun e w' => e = .returned (.tuple #[.int .u64 0, .int .i64 1]) ∧ w = w' := by
  have H : Hid (width < 0 ∨ 64 < width) := h
  clear h
  go_enter Tryz.func124, Tryz.ntmps124
  go_wp2_with (go_at_call 108; refine (isWidth_no _ _ H.out).mono ?_; rintro e w' ⟨rfl, rfl⟩)
  go_ret2
  exact ⟨rfl, rfl⟩

set_option maxHeartbeats 400000 in
set_option maxRecDepth 100000 in
theorem get_short {w : World} {R : Nat} {v : Value} {ys : List Int} {p : Nat} (h : RdAt 152 w R v ys p) (width : Int) (h0 : 0 ≤ width) (h1 : width ≤ 64) (hs : 8 * (ys.length : Int) - p < width) :
    Calls Tryz.prog 124 #[.pointer (some ⟨R, 0, none⟩), .int .i64 width] w fun e w' => e = .returned (.tuple #[.int .u64 0, .int .i64 2]) ∧ Only (fun _ => False) w w' := by
  have HR := hideIt h
  clear h
  go_enter Tryz.func124, Tryz.ntmps124
  go_wp2_with fail
  refine (isWidth_yes _ _ h0 h1).mono ?_
  rintro e w' ⟨rfl, rfl⟩
  go_wp2_with fail
  refine (left_rd HR.out).mono ?_
  rintro e w1 ⟨rfl, ho⟩
  go_wp2
  go_ret2
  exact ⟨rfl, ho⟩

theorem or_step (a : Nat) (b : Bool) (h : a ≤ 9223372036854775807) : bits .or .u64 ((a : Int) * 2) (IntKind.u64.wrap (b.toNat : Int)) = ((2 * a + b.toNat : Nat) : Int) := by
  have hb := bool_le b
  have e1 : IntKind.u64.wrap (b.toNat : Int) = ((b.toNat : Nat) : Int) := by rw [IntKind.wrap_u64]; omega
  have e2 : ((a : Int) * 2) = ((2 * a : Nat) : Int) := by omega
  rw [e1, e2, u64_or_nat _ _ (by omega) (by omega), nat_join 1 _ _ (by omega) (by omega)]
theorem take_step (ys : List Int) (p k : Nat) (h : p + k < 8 * ys.length) : ((allBits ys).drop p).take (k + 1) = ((allBits ys).drop p).take k ++ [bitB ys (p + k)] := by
  have hl : k < ((allBits ys).drop p).length := by rw [List.length_drop, allBits_length]; omega
  rw [List.take_succ_eq_append_getElem hl]
  congr 2
  have := allBits_get ys (p + k) h
  rw [List.getElem_drop]
  exact (List.getElem?_eq_some_iff.1 this).2
theorem bnum_63 (l : List Bool) (h : l.length ≤ 63) : bnum l ≤ 9223372036854775807 := by
  have h1 := bnum_lt l
  have h2 : 2 ^ l.length ≤ 2 ^ 63 := Nat.pow_le_pow_right (by omega) h
  omega
theorem RdAt.moved {w w' : World} {T : TypeId} {R : Nat} {v : Value} {ys : List Int} {p : Nat} (h : RdAt T w R v ys p) (q : Nat) (hq : q ≤ 8 * ys.length) (z : Int) (hz : z = (q : Int)) (e : w' = w.setCell ⟨R, 1, none⟩ (.int .i64 z)) :
    RdAt T w' R v ys q ∧ Only (fun k => k = R) w w' := by
  subst e; subst hz
  have ho : Only (fun k => k = R) w (w.setCell ⟨R, 1, none⟩ (.int .i64 (q : Int))) := Only.setCell (S := fun k => k = R) (p := ⟨R, 1, none⟩) (Only.refl _ _) (fun _ => rfl) _
  exact ⟨⟨h.bs.keep ho (fun k hk e => h.ap (by rw [← e]; exact hk)), h.rng, (heap_two h.cell _).2, h.ap, hq, h.len⟩, ho⟩

set_option maxHeartbeats 400000 in
set_option maxRecDepth 100000 in
/-- THE NEXT BITS, as a number. -/
theorem get_rd {w : World} {R : Nat} {v : Value} {ys : List Int} {p : Nat} (h : RdAt 152 w R v ys p) (width : Int) (h0 : 0 ≤ width) (h1 : width ≤ 64) (hs : (p : Int) + width ≤ 8 * (ys.length : Int)) :
    Calls Tryz.prog 124 #[.pointer (some ⟨R, 0, none⟩), .int .i64 width] w fun e w' => e = .returned (.tuple #[.int .u64 (bnum (((allBits ys).drop p).take width.toNat)), .int .i64 0]) ∧
      RdAt 152 w' R v ys (p + width.toNat) ∧ Only (fun k => k = R) w w' := by
  obtain ⟨n, rfl⟩ := Int.eq_ofNat_of_zero_le h0
  rw [Int.toNat_natCast]
  have HR := hideIt h
  have hp := h.le
  have hlen := h.len
  clear h
  go_enter Tryz.func124, Tryz.ntmps124
  go_wp2_with fail
  refine (isWidth_yes _ _ h0 h1).mono ?_
  rintro e w' ⟨rfl, rfl⟩
  go_wp2_with fail
  refine (left_rd HR.out).mono ?_
  rintro e w1 ⟨rfl, ho⟩
  have HR1 := hideIt (HR.out.keep ho (fun f => f) (fun _ _ f => f))
  obtain ⟨c0, c1, f0, f1⟩ := two_cells HR1.out.cell
  have HO := hideIt ho
  clear HR ho
  have hd : decide (8 * (ys.length : Int) - (p : Int) < (n : Int)) = false := by simp; omega
  go_wp2
  go_loop [6, 20] (fun a i => ∃ k : Nat, k ≤ n ∧ i = .int .i64 k ∧ a = .int .u64 (bnum (((allBits ys).drop p).take k))) (fun _ i => n - (intOf i).toNat)
  case atStart => exact ⟨0, Nat.zero_le _, rfl, rfl⟩
  case round =>
    obtain ⟨k, hk, rfl, rfl⟩ := hrel
    by_cases hlt : k < n
    · have hb : (bnum (((allBits ys).drop p).take k) : Int) ≤ 9223372036854775807 := by
        have := bnum_63 (((allBits ys).drop p).take k) (by rw [List.length_take]; omega)
        omega
      have HS := hideIt (or_step (bnum (((allBits ys).drop p).take k)) (bitB ys (p + k)) (by omega))
      go_wp2_with fail
      refine (bitAt_rd HR1.out _ (by omega) (by omega)).mono ?_
      rintro e wz ⟨rfl, rfl⟩
      go_wp2
      go_round
      case rel =>
        refine ⟨k + 1, by omega, by go_num, ?_⟩
        rw [HS.out, take_step ys p k (by omega), bnum_snoc]
      case measure => simp [intOf]; omega
    · go_wp2
      go_ret2
      have hkn : k = n := by omega
      subst hkn
      obtain ⟨m1, m2⟩ := HR1.out.moved (p + k) (by omega) ((p : Int) + k) (by omega) rfl
      exact ⟨rfl, m1, (HO.out.mono (T := fun k => k = R) (fun _ _ f => f.elim)).trans m2 (fun _ _ h => h)⟩

/-- what End says of the bits that are left -/
def bendV (l : List Bool) : Int := if 8 ≤ l.length ∨ true ∈ l then 3 else 0

set_option maxHeartbeats 400000 in
set_option maxRecDepth 100000 in
/-- A NEW READER: on a copy of the bytes. -/
theorem newReader_bs (v : Value) (ys : List Int) (w : World) (h : Bs .u8 w v ys) (hr : ∀ y ∈ ys, 0 ≤ y ∧ y ≤ 255) (hl : ys.length ≤ 1000000000000) :
    Calls Tryz.prog 105 #[v] w fun e w' => ∃ R v', e = .returned (.pointer (some ⟨R, 0, none⟩)) ∧ RdAt 152 w' R v' ys 0 ∧ Only (fun _ => False) w w' ∧ w.heap.size ≤ R ∧ R < w'.heap.size ∧ (∀ k, v'.ownBlock = some k → w.heap.size ≤ k ∧ k < w'.heap.size) := by
  have HB := hideIt h
  have HR := hideIt hr
  clear h hr
  go_enter Tryz.func105, Tryz.ntmps105
  go_wp2_with fail
  refine (clone_bs v ys _ HB.out (by omega)).mono ?_
  rintro e w1 ⟨v', rfl, hown, ho⟩
  have hbs := Bs.of_own hown
  have hlt := hown.lt
  obtain ⟨ao, cap, rfl, _⟩ := id hbs
  have HBS := hideIt hbs
  have HLT := hideIt hlt
  have HO := hideIt ho
  clear hown ho hbs hlt
  go_wp2
  go_ret
  have oa : Only (fun _ => False) w1 (w1.alloc (.cells #[.slice ao ys.length cap, .int .i64 0] 152)) := (Only.refl _ _).alloc _
  refine ⟨w1.heap.size, .slice ao ys.length cap, rfl, ⟨HBS.out.keep oa (fun _ _ f => f), HR.out, heap_alloc_new w1 _, ?_, Nat.zero_le _, hl⟩, HO.out.trans oa (fun _ _ f => f), HO.out.size, by simp, ?_⟩
  · intro e
    have := (HLT.out _ e).2
    omega
  · intro k hk
    have := HLT.out k hk
    simp
    omega
end Go.Proofs.YthapipgaohlgdabGreatDoor

/- Plain facts on bits and bytes. -/
namespace Go.Proofs.YthapipgaohlgdabGreatDoor
open Go.RowKit


theorem num_append (a b : List Bool) : bnum (a ++ b) = bnum a * 2 ^ b.length + bnum b := by
  induction h : b.length generalizing b with
  | zero => have : b = [] := List.eq_nil_of_length_eq_zero h
            subst this; simp [bnum]
  | succ n ih =>
    have hne : b ≠ [] := by intro h0; subst h0; simp at h
    obtain ⟨t, c, rfl⟩ : ∃ t c, b = t ++ [c] := ⟨b.dropLast, b.getLast hne, (List.dropLast_concat_getLast hne).symm⟩
    have hi := ih t (by simp at h; omega)
    rw [← List.append_assoc, bnum_snoc, bnum_snoc, hi, Nat.pow_succ, Nat.mul_add]
    have : 2 * (bnum a * 2 ^ n) = bnum a * (2 ^ n * 2) := by rw [Nat.mul_comm (2 ^ n) 2, Nat.mul_left_comm]
    omega
theorem bitsOf_succ (v n : Nat) : bitsOf v (n + 1) = bitsOf (v / 2) n ++ [v.testBit 0] := by
  apply List.ext_getElem?
  intro i
  rw [List.getElem?_append]
  simp only [bitsOf, List.length_map, List.length_range, List.getElem?_map]
  by_cases hi : i < n
  · rw [if_pos hi, List.getElem?_range (by omega), List.getElem?_range hi]
    simp only [Option.map_some]
    rw [show n + 1 - 1 - i = (n - 1 - i) + 1 by omega, Nat.testBit_succ]
  · rw [if_neg hi]
    by_cases h2 : i = n
    · subst h2; rw [List.getElem?_range (by omega)]; simp
    · rw [List.getElem?_eq_none (by simp; omega), List.getElem?_eq_none (by simp; omega)]; rfl
theorem num_bitsOf (v n : Nat) : bnum (bitsOf v n) = v % 2 ^ n := by
  induction n generalizing v with
  | zero => simp [bitsOf, bnum, Nat.mod_one]
  | succ n ih =>
    rw [bitsOf_succ, bnum_snoc, ih, Nat.pow_succ, Nat.mul_comm (2 ^ n) 2, Nat.mod_mul, Nat.testBit_zero]
    have : (decide (v % 2 = 1)).toNat = v % 2 := by
      rcases Nat.mod_two_eq_zero_or_one v with h | h <;> simp [h]
    omega
theorem bits_byte (ys : List Int) (i : Nat) (h : i < ys.length) : ((allBits ys).drop (8 * i)).take 8 = bitsOf (ys.getD i 0).toNat 8 := by
  apply List.ext_getElem?
  intro j
  by_cases hj : j < 8
  · rw [List.getElem?_take, if_pos hj, List.getElem?_drop, allBits_get ys _ (by omega)]
    simp only [bitsOf, List.getElem?_map, List.getElem?_range hj, Option.map_some, bitB]
    congr 2
    · congr 2; omega
    · omega
  · rw [List.getElem?_eq_none (by rw [List.length_take]; omega), List.getElem?_eq_none (by rw [bitsOf_length]; omega)]
theorem num_byte (ys : List Int) (i : Nat) (h : i < ys.length) (hr : ∀ y ∈ ys, 0 ≤ y ∧ y ≤ 255) : (bnum (((allBits ys).drop (8 * i)).take 8) : Int) = ys.getD i 0 := by
  rw [bits_byte ys i h, num_bitsOf]
  have hy : 0 ≤ ys.getD i 0 ∧ ys.getD i 0 ≤ 255 := by
    refine hr _ ?_
    rw [List.getD_eq_getElem?_getD, List.getElem?_eq_getElem h]; simp
  omega
theorem allBits_take (ys : List Int) (k : Nat) (h : k < ys.length) : (allBits ys).take (8 * (k + 1)) = (allBits ys).take (8 * k) ++ bitsOf (ys.getD k 0).toNat 8 := by
  rw [← bits_byte ys k h, show 8 * (k + 1) = 8 * k + 8 by omega, List.take_add]
theorem sum_bits : ∀ y : Fin 256, (y.val.testBit 7).toNat * 128 + (y.val.testBit 6).toNat * 64 + (y.val.testBit 5).toNat * 32 + (y.val.testBit 4).toNat * 16 + (y.val.testBit 3).toNat * 8 + (y.val.testBit 2).toNat * 4 + (y.val.testBit 1).toNat * 2 + (y.val.testBit 0).toNat = y.val := by decide +kernel
theorem getD_bits (ys : List Int) (j r : Nat) (hj : j < ys.length) (hr : r < 8) : (allBits ys).getD (8 * j + r) false = (ys.getD j 0).toNat.testBit (7 - r) := by
  rw [List.getD_eq_getElem?_getD, allBits_get ys _ (by omega)]
  simp only [Option.getD_some, bitB]
  congr 1
  · congr 2; omega
  · omega
theorem byteAt_all (ys : List Int) (j : Nat) (hj : j < ys.length) (hr : ∀ y ∈ ys, 0 ≤ y ∧ y ≤ 255) : (byteAt (allBits ys) j : Int) = ys.getD j 0 := by
  have hy : 0 ≤ ys.getD j 0 ∧ ys.getD j 0 ≤ 255 := by
    refine hr _ ?_
    rw [List.getD_eq_getElem?_getD, List.getElem?_eq_getElem hj]; simp
  have h := sum_bits ⟨(ys.getD j 0).toNat, by omega⟩
  have g0 := getD_bits ys j 0 hj (by omega)
  rw [Nat.add_zero] at g0
  unfold byteAt
  rw [g0, getD_bits ys j 1 hj (by omega), getD_bits ys j 2 hj (by omega), getD_bits ys j 3 hj (by omega), getD_bits ys j 4 hj (by omega), getD_bits ys j 5 hj (by omega), getD_bits ys j 6 hj (by omega), getD_bits ys j 7 hj (by omega)]
  simp only at h
  simp only [Nat.sub_zero, Nat.reduceSub]
  omega
theorem bytes_all (ys : List Int) (hr : ∀ y ∈ ys, 0 ≤ y ∧ y ≤ 255) : bytesI (allBits ys) = ys := by
  have hn : nb (allBits ys) = ys.length := by unfold nb; rw [allBits_length]; omega
  apply List.ext_getElem?
  intro i
  simp only [bytesI, hn, List.getElem?_map]
  by_cases hi : i < ys.length
  · rw [List.getElem?_range hi]
    simp only [Option.map_some]
    rw [byteAt_all ys i hi hr, List.getD_eq_getElem?_getD, List.getElem?_eq_getElem hi]
    simp
  · rw [List.getElem?_eq_none (by simp; omega), List.getElem?_eq_none (by omega)]; rfl
/-- bits that are written, read again: they, and what fills the last byte -/
theorem bits_back (l : List Bool) : allBits (bytesI l) = l ++ List.replicate (8 * nb l - l.length) false := by
  have hn : l.length ≤ 8 * nb l := by unfold nb; omega
  apply List.ext_getElem?
  intro i
  by_cases hi : i < 8 * nb l
  · rw [allBits_get _ _ (by rw [bytesI_length]; exact hi)]
    have hj : i / 8 < nb l := by omega
    have e : (l ++ List.replicate (8 * nb l - l.length) false)[i]? = some (l.getD i false) := by
      rw [List.getElem?_append]
      by_cases h1 : i < l.length
      · rw [if_pos h1, List.getD_eq_getElem?_getD, List.getElem?_eq_getElem h1]; rfl
      · rw [if_neg h1, List.getElem?_replicate, if_pos (by omega), getD_out l i (by omega)]
    rw [e]
    congr 1
    unfold bitB
    have e2 : (bytesI l).getD (i / 8) 0 = (byteAt l (i / 8) : Int) := by
      rw [List.getD_eq_getElem?_getD]; simp [bytesI, hj]
    rw [e2, Int.toNat_natCast]
    have key : ∀ (b0 b1 b2 b3 b4 b5 b6 b7 : Bool) (r : Fin 8), (b0.toNat * 128 + b1.toNat * 64 + b2.toNat * 32 + b3.toNat * 16 + b4.toNat * 8 + b5.toNat * 4 + b6.toNat * 2 + b7.toNat).testBit (7 - r.val) = [b0, b1, b2, b3, b4, b5, b6, b7].getD r.val false := by decide +kernel
    have hk := key (l.getD (8 * (i / 8)) false) (l.getD (8 * (i / 8) + 1) false) (l.getD (8 * (i / 8) + 2) false) (l.getD (8 * (i / 8) + 3) false) (l.getD (8 * (i / 8) + 4) false) (l.getD (8 * (i / 8) + 5) false) (l.getD (8 * (i / 8) + 6) false) (l.getD (8 * (i / 8) + 7) false) ⟨i % 8, by omega⟩
    simp only at hk
    unfold byteAt
    rw [hk]
    have hr : i % 8 = 0 ∨ i % 8 = 1 ∨ i % 8 = 2 ∨ i % 8 = 3 ∨ i % 8 = 4 ∨ i % 8 = 5 ∨ i % 8 = 6 ∨ i % 8 = 7 := by omega
    rcases hr with h | h | h | h | h | h | h | h <;> rw [h] <;> simp only [List.getD_cons_zero, List.getD_cons_succ] <;> congr 1 <;> omega
  · rw [List.getElem?_eq_none (by rw [allBits_length, bytesI_length]; omega), List.getElem?_eq_none (by simp; omega)]
theorem bytesI_rng (l : List Bool) : ∀ y ∈ bytesI l, 0 ≤ y ∧ y ≤ 255 := by
  intro y hy
  simp only [bytesI, List.mem_map] at hy
  obtain ⟨j, _, rfl⟩ := hy
  have := byteAt_lt l j
  omega
theorem wid_8 (y : Int) (h0 : 0 ≤ y) (h1 : y ≤ 255) : (wid y.toNat : Int) ≤ 8 := by
  have := wid_256 y.toNat (by omega); omega
theorem num_56 (l : List Bool) (h : l.length ≤ 56) : (bnum l : Int) ≤ 72057594037927935 := by
  have h1 := bnum_lt l
  have h2 : 2 ^ l.length ≤ 2 ^ 56 := Nat.pow_le_pow_right (by omega) h
  omega
theorem bnum_step (ys : List Int) (k : Nat) (h : k < ys.length) (hr : ∀ y ∈ ys, 0 ≤ y ∧ y ≤ 255) : (bnum ((allBits ys).take (8 * (k + 1))) : Int) = bnum ((allBits ys).take (8 * k)) * 256 + ys.getD k 0 := by
  have hb := num_byte ys k h hr
  rw [bits_byte ys k h] at hb
  rw [allBits_take ys k h, num_append, bitsOf_length]
  omega

end Go.Proofs.YthapipgaohlgdabGreatDoor

/- Contracts of the reference for bits: Of, Get, End. -/
namespace Go.Proofs.YthapipgaohlgdabGreatDoor
open Go.RowKit


theorem Tryz.info3 : (Tryz.prog.info? 3).map (fun i => (i.zero, i.size, i.bytes)) = some (some (.int .i64 0), 1, 8) := by kernel_rfl

/-- bits as numbers 0 and 1 -/
def bitsI (l : List Bool) : List Int := l.map fun b => (b.toNat : Int)
theorem bitsI_length (l : List Bool) : (bitsI l).length = l.length := by simp [bitsI]
theorem bitsI_getD (l : List Bool) (j : Nat) : (bitsI l).getD j 0 = ((l.getD j false).toNat : Int) := by
  simp only [bitsI, List.getD_eq_getElem?_getD, List.getElem?_map]
  cases l[j]? <;> rfl

theorem bitsI_drop (l : List Bool) (n : Nat) : bitsI (l.drop n) = (bitsI l).drop n := by simp [bitsI, List.map_drop]

theorem add_step (a : Nat) (b : Bool) (h : a ≤ 9223372036854775807) : 2 * a + b.toNat ≤ 18446744073709551615 := by
  have := bool_le b; omega

theorem of_step (ys : List Int) (k r : Nat) (hk : k < ys.length) (hr : r < 8) : (allBits ys).take (8 * k + r + 1) = (allBits ys).take (8 * k + r) ++ [(ys.getD k 0).toNat.testBit (7 - r)] := by
  have hl : 8 * k + r < (allBits ys).length := by rw [allBits_length]; omega
  rw [List.take_succ_eq_append_getElem hl]
  congr 2
  have h1 := getD_bits ys k r hk hr
  rw [List.getD_eq_getElem?_getD, List.getElem?_eq_getElem hl] at h1
  simpa using h1
theorem bitsI_vals_snoc (l : List Bool) (b : Bool) : (bitsI (l ++ [b])).map (Value.int .i64) = (bitsI l).map (Value.int .i64) ++ [.int .i64 (b.toNat : Int)] := by simp [bitsI]

end Go.Proofs.YthapipgaohlgdabGreatDoor

/- A slice of numbers with widths, as the walks are told of it; what a script of them writes. -/
namespace Go.Proofs.YthapipgaohlgdabGreatDoor
open Go.RowKit


def Its (w : World) (v : Value) (its : List (Int × Int)) : Prop :=
  ∃ ao cap, v = .slice ao its.length cap ∧ its.length ≤ cap ∧ (its ≠ [] → ∃ b off, ao = some ⟨b, off, none⟩ ∧ ∀ j, j < its.length →
    w.cell? ⟨b, off + j * 2, none⟩ = some (.int .u64 (its.getD j (0, 0)).1) ∧ w.cell? ⟨b, off + j * 2 + 1, none⟩ = some (.int .i64 (its.getD j (0, 0)).2))
theorem Its.at {w : World} {v : Value} {its : List (Int × Int)} (h : Its w v its) (j : Nat) (hj : j < its.length) : ∃ b off cap, v = .slice (some ⟨b, off, none⟩) its.length cap ∧ b < w.heap.size ∧
    w.cell? ⟨b, off + j * 2, none⟩ = some (.int .u64 (its.getD j (0, 0)).1) ∧ w.cell? ⟨b, off + j * 2 + 1, none⟩ = some (.int .i64 (its.getD j (0, 0)).2) := by
  obtain ⟨ao, cap, rfl, hc, hr⟩ := h
  obtain ⟨b, off, rfl, hcell⟩ := hr (by intro h0; subst h0; simp at hj)
  exact ⟨b, off, cap, rfl, World.block_lt_of_cell? w _ (hcell j hj).1, hcell j hj⟩

/-- the bits of one number with its width; none where it is refused -/
def fits (x : Int × Int) : Prop := 0 ≤ x.2 ∧ x.2 ≤ 64 ∧ (wid x.1.toNat : Int) ≤ x.2
def pb (x : Int × Int) : List Bool := if 0 ≤ x.2 ∧ x.2 ≤ 64 ∧ (wid x.1.toNat : Int) ≤ x.2 then bitsOf x.1.toNat x.2.toNat else []
def allP (its : List (Int × Int)) : List Bool := its.flatMap pb
theorem allP_take (its : List (Int × Int)) (k : Nat) (h : k < its.length) : allP (its.take (k + 1)) = allP (its.take k) ++ pb (its.getD k (0, 0)) := by
  rw [List.take_succ_eq_append_getElem h, List.getD_eq_getElem?_getD, List.getElem?_eq_getElem h]
  unfold allP
  rw [List.flatMap_append, List.flatMap_singleton]; rfl
theorem pb_length (x : Int × Int) : (pb x).length ≤ 64 := by
  unfold pb
  split
  · rw [bitsOf_length]; omega
  · simp
theorem allP_length (its : List (Int × Int)) : (allP its).length ≤ 64 * its.length := by
  induction its with
  | nil => simp [allP]
  | cons a t ih =>
    have := pb_length a
    simp only [allP, List.flatMap_cons, List.length_append, List.length_cons] at ih ⊢
    omega

/-- PUT, whatever the number and the width: its bits, or nothing and ErrArg. -/
theorem put_any {w : World} {lo B : Nat} {v : Value} {l : List Bool} (h : WrAt 112 5 w lo B v l) (x width : Int) (x0 : 0 ≤ x) (x1 : x ≤ 18446744073709551615) (hl : l.length ≤ 1000000000) :
    Calls Tryz.prog 83 #[.pointer (some ⟨B, 0, none⟩), .int .u64 x, .int .i64 width] w fun e w' => ∃ z, e = .returned (.int .i64 z) ∧ Hid (z = if 0 ≤ width ∧ width ≤ 64 ∧ (wid x.toNat : Int) ≤ width then 0 else 1) ∧
      ∃ v', WrAt 112 5 w' lo B v' (l ++ pb (x, width)) ∧ Only (Foot B v) w w' ∧ Stays w v v' := by
  by_cases hf : 0 ≤ width ∧ width ≤ 64 ∧ (wid x.toNat : Int) ≤ width
  · refine (put_wr h x width hf.1 hf.2.1 x0 x1 hf.2.2 hl).mono ?_
    rintro e w' ⟨rfl, v', h1, h2, h3⟩
    refine ⟨0, rfl, by simp only [Hid]; rw [if_pos hf], v', ?_, h2, h3⟩
    have e : pb (x, width) = bitsOf x.toNat width.toNat := by unfold pb; rw [if_pos hf]
    rw [e]; exact h1
  · have e : pb (x, width) = [] := by unfold pb; rw [if_neg hf]
    rw [if_neg hf, e, List.append_nil]
    by_cases hw : width < 0 ∨ 64 < width
    · refine (put_width B x width w hw).mono ?_
      rintro e w' ⟨rfl, rfl⟩
      exact ⟨1, rfl, rfl, v, h, Only.refl _ _, Stays.refl _ _⟩
    · refine (put_big B x width w (by omega) (by omega) x0 x1 (by omega)).mono ?_
      rintro e w' ⟨rfl, rfl⟩
      exact ⟨1, rfl, rfl, v, h, Only.refl _ _, Stays.refl _ _⟩


theorem allP_split (its : List (Int × Int)) (k : Nat) : allP its = allP (its.take k) ++ allP (its.drop k) := by
  unfold allP
  rw [← List.flatMap_append, List.take_append_drop]
theorem back_split (its : List (Int × Int)) (j : Nat) (x y : Int) (hxy : allP (its.take (j + 1)) = allP (its.take j) ++ pb (x, y)) : allP its = allP (its.take j) ++ (pb (x, y) ++ allP (its.drop (j + 1))) := by
  rw [allP_split its (j + 1), hxy, List.append_assoc]
theorem back_num (its : List (Int × Int)) (j : Nat) (x y : Int) (hxy : allP (its.take (j + 1)) = allP (its.take j) ++ pb (x, y)) (hp : pb (x, y) = bitsOf x.toNat y.toNat) (x0 : 0 ≤ x) (hw : (wid x.toNat : Int) ≤ y) :
    (bnum (((allBits (bytesI (allP its))).drop (allP (its.take j)).length).take y.toNat) : Int) = x ∧ ((allP (its.take j)).length : Int) + y ≤ 8 * ((bytesI (allP its)).length : Int) := by
  have hs := back_split its j x y hxy
  have hl : (allP its).length ≤ 8 * nb (allP its) := by unfold nb; omega
  have hy : 0 ≤ y := by omega
  have hlen : (allP its).length = (allP (its.take j)).length + (y.toNat + (allP (its.drop (j + 1))).length) := by
    have e := congrArg List.length hs
    rw [List.length_append, List.length_append, hp, bitsOf_length] at e
    exact e
  refine ⟨?_, by rw [bytesI_length]; omega⟩
  have e : ((allBits (bytesI (allP its))).drop (allP (its.take j)).length).take y.toNat = bitsOf x.toNat y.toNat := by
    rw [bits_back]
    generalize List.replicate (8 * nb (allP its) - (allP its).length) false = z
    rw [hs, hp, List.append_assoc, List.drop_left, List.append_assoc, List.take_append_of_le_length (by rw [bitsOf_length]; omega), List.take_of_length_le (by rw [bitsOf_length]; omega)]
  rw [e, num_bitsOf, Nat.mod_eq_of_lt ((wid_le_iff _ _).1 (by omega))]
  omega
theorem back_end (l : List Bool) : bendV ((allBits (bytesI l)).drop l.length) = 0 := by
  rw [bits_back, List.drop_left]
  unfold bendV
  rw [if_neg]
  intro h
  rcases h with h | h
  · rw [List.length_replicate] at h; unfold nb at h; omega
  · have := List.eq_of_mem_replicate h; simp at this

theorem width_q (v : Int) (w : World) (h0 : 0 ≤ v) (h1 : v ≤ 18446744073709551615) :
    Calls Tryz.prog 82 #[.int .u64 v] w fun e w' => e = .returned (.int .i64 (wid v.toNat)) ∧ w' = w :=
  (width_any v w h0 h1).mono fun _ _ ⟨a, b⟩ => ⟨a, b.symm⟩
end Go.Proofs.YthapipgaohlgdabGreatDoor

/- Contracts of the reference for bits: Width, Put. -/
namespace Go.Proofs.YthapipgaohlgdabGreatDoor
open Go.RowKit


theorem bits64_of (x : Int) (j : Nat) (x0 : 0 ≤ x) (x1 : x ≤ 18446744073709551615) : bits .and .u64 (x / 2 ^ j) 1 = ((x.toNat.testBit j).toNat : Int) := by
  obtain ⟨m, rfl⟩ := Int.eq_ofNat_of_zero_le x0
  have e : ((m : Int) / 2 ^ j) = ((m / 2 ^ j : Nat) : Int) := by simp
  have h := Nat.div_le_self m (2 ^ j)
  rw [e, show (1 : Int) = ((1 : Nat) : Int) from rfl, u64_and_nat _ _ (by omega) (by omega), nat_mask1, Int.toNat_natCast, Nat.testBit_eq_decide_div_mod_eq]
  by_cases h1 : m / 2 ^ j % 2 = 1
  · simp [h1]
  · have : m / 2 ^ j % 2 = 0 := by omega
    simp [this]

theorem bs_news {w : World} {ad : Addr} {m cap : Nat} {l : List Bool} (h : Bs .i64 w (.slice (some ad) m cap) (bitsI l)) : ∀ j u, ((bitsI l).map (Value.int .i64))[j]? = some u → w.cell? (ad.add j) = some u := by
  intro j u hu
  have hj : j < (bitsI l).length := by
    have := (List.getElem?_eq_some_iff.1 hu).1
    simpa using this
  obtain ⟨b, off, cap', e1, hc⟩ := h.at j hj
  simp at e1
  obtain ⟨rfl, _, _⟩ := e1
  have hadd : (⟨b, off, none⟩ : Addr).add j = ⟨b, off + j, none⟩ := by unfold Addr.add; split <;> simp_all
  rw [hadd, hc, ← hu]
  simp [List.getElem?_eq_getElem hj]
theorem put_fin (l : List Bool) (v n : Nat) : (l ++ bitsOf v n) = l ++ (bitsOf v n).take n := by
  rw [List.take_of_length_le (by rw [bitsOf_length]; omega)]

end Go.Proofs.YthapipgaohlgdabGreatDoor

/- Plain facts on bytes that are filled bit by bit. -/
namespace Go.Proofs.YthapipgaohlgdabGreatDoor
open Go.RowKit


/-- bytes as the reference makes them: the last one holds what there is so far -/
def pb8 (l : List Bool) : List Int := (List.range (nb l)).map fun j => (bnum ((l.drop (8 * j)).take 8) : Int)
theorem pb8_length (l : List Bool) : (pb8 l).length = nb l := by simp [pb8]
theorem pb8_get (l : List Bool) (i : Nat) : (pb8 l)[i]? = if i < nb l then some (bnum ((l.drop (8 * i)).take 8) : Int) else none := by
  unfold pb8
  by_cases h : i < nb l
  · simp [h]
  · simp [h]
theorem part_other (l : List Bool) (b : Bool) (j : Nat) (h : j < l.length / 8) : ((l ++ [b]).drop (8 * j)).take 8 = (l.drop (8 * j)).take 8 := by
  rw [List.drop_append_of_le_length (by omega), List.take_append_of_le_length (by rw [List.length_drop]; omega)]
theorem part_last (l : List Bool) : (l.drop (8 * (l.length / 8))).take 8 = l.drop (8 * (l.length / 8)) := List.take_of_length_le (by rw [List.length_drop]; omega)
theorem part_snoc (l : List Bool) (b : Bool) : ((l ++ [b]).drop (8 * (l.length / 8))).take 8 = l.drop (8 * (l.length / 8)) ++ [b] := by
  rw [List.drop_append_of_le_length (by omega), List.take_of_length_le]
  rw [List.length_append, List.length_drop]; simp; omega
/-- the last byte so far -/
def lastB (l : List Bool) : Nat := bnum (l.drop (8 * (l.length / 8)))
theorem lastB_lt (l : List Bool) : lastB l ≤ 127 := by
  unfold lastB
  have h1 := bnum_lt (l.drop (8 * (l.length / 8)))
  have h2 : (l.drop (8 * (l.length / 8))).length ≤ 7 := by rw [List.length_drop]; omega
  have h3 : 2 ^ (l.drop (8 * (l.length / 8))).length ≤ 2 ^ 7 := Nat.pow_le_pow_right (by omega) h2
  omega
theorem lastB_new (l : List Bool) (h : l.length % 8 = 0) : lastB l = 0 := by
  unfold lastB
  rw [List.drop_of_length_le (by omega)]; rfl
theorem pb8_set (l : List Bool) (b : Bool) : ((if l.length % 8 = 0 then pb8 l ++ [0] else pb8 l)).set (l.length / 8) ((lastB l : Int) * 2 + (b.toNat : Int)) = pb8 (l ++ [b]) := by
  have hv : (bnum (((l ++ [b]).drop (8 * (l.length / 8))).take 8) : Int) = (lastB l : Int) * 2 + (b.toNat : Int) := by
    rw [part_snoc, bnum_snoc]; unfold lastB; omega
  apply List.ext_getElem?
  intro i
  by_cases hr : l.length % 8 = 0
  · have hn : nb (l ++ [b]) = nb l + 1 := by rw [nb_snoc, if_pos hr]
    have hj : l.length / 8 = nb l := by unfold nb; omega
    rw [if_pos hr, List.getElem?_set, List.length_append, pb8_length, List.getElem?_append, pb8_get, pb8_get, pb8_length, hn]
    by_cases hi : l.length / 8 = i
    · subst hi; rw [if_pos rfl, if_pos (by simp; omega), if_pos (by omega), hv]
    · rw [if_neg hi]
      by_cases h1 : i < nb l
      · rw [if_pos h1, if_pos h1, if_pos (by omega), part_other l b i (by omega)]
      · rw [if_neg h1, if_neg (by omega), List.getElem?_eq_none (by simp; omega)]
  · have hn : nb (l ++ [b]) = nb l := by rw [nb_snoc, if_neg hr]
    have hj : l.length / 8 + 1 = nb l := by unfold nb; omega
    rw [if_neg hr, List.getElem?_set, pb8_length, pb8_get, pb8_get, hn]
    by_cases hi : l.length / 8 = i
    · subst hi; rw [if_pos rfl, if_pos (by omega), if_pos (by omega), hv]
    · rw [if_neg hi]
      by_cases h1 : i < nb l
      · rw [if_pos h1, if_pos h1, part_other l b i (by omega)]
      · rw [if_neg h1, if_neg h1]
theorem pb8_at (l : List Bool) (h : l.length % 8 ≠ 0) : (pb8 l)[l.length / 8]? = some (lastB l : Int) := by
  rw [pb8_get, if_pos (by unfold nb; omega), part_last]; rfl
theorem eight (l : List Bool) (j : Nat) (h : 8 * j + 8 ≤ l.length) : (l.drop (8 * j)).take 8 = [l.getD (8 * j) false, l.getD (8 * j + 1) false, l.getD (8 * j + 2) false, l.getD (8 * j + 3) false, l.getD (8 * j + 4) false, l.getD (8 * j + 5) false, l.getD (8 * j + 6) false, l.getD (8 * j + 7) false] := by
  have hg : ∀ i, i < 8 → ((l.drop (8 * j)).take 8)[i]? = some (l.getD (8 * j + i) false) := fun i hi => by
    rw [List.getElem?_take, if_pos hi, List.getElem?_drop, List.getD_eq_getElem?_getD, List.getElem?_eq_getElem (show 8 * j + i < l.length by omega)]; rfl
  apply List.ext_getElem?
  intro i
  by_cases hi : i < 8
  · rw [hg i hi]
    have hr : i = 0 ∨ i = 1 ∨ i = 2 ∨ i = 3 ∨ i = 4 ∨ i = 5 ∨ i = 6 ∨ i = 7 := by omega
    rcases hr with rfl | rfl | rfl | rfl | rfl | rfl | rfl | rfl <;> rfl
  · rw [List.getElem?_eq_none (by rw [List.length_take]; omega), List.getElem?_eq_none (by simp; omega)]
theorem pb8_full (l : List Bool) (h : l.length % 8 = 0) : pb8 l = bytesI l := by
  apply List.ext_getElem?
  intro i
  rw [pb8_get]
  by_cases hi : i < nb l
  · have h8 : 8 * i + 8 ≤ l.length := by unfold nb at hi; omega
    rw [if_pos hi, eight l i h8]
    simp only [bytesI, List.getElem?_map, List.getElem?_range hi, Option.map_some]
    congr 2
    simp only [bnum, List.foldl, byteAt]
    omega
  · rw [if_neg hi, List.getElem?_eq_none (by rw [bytesI_length]; omega)]
theorem getD_pad (l : List Bool) (t i : Nat) : (l ++ List.replicate t false).getD i false = l.getD i false := by
  rw [List.getD_eq_getElem?_getD, List.getD_eq_getElem?_getD, List.getElem?_append]
  by_cases h : i < l.length
  · rw [if_pos h]
  · rw [if_neg h, List.getElem?_replicate, List.getElem?_eq_none (show l.length ≤ i by omega)]
    split <;> rfl
theorem bytesI_pad (l : List Bool) (t : Nat) (h : nb (l ++ List.replicate t false) = nb l) : bytesI (l ++ List.replicate t false) = bytesI l := by
  unfold bytesI
  rw [h]
  apply List.map_congr_left
  intro j _
  simp only [byteAt, getD_pad]
theorem allBits_append (a b : List Int) : allBits (a ++ b) = allBits a ++ allBits b := by
  apply List.ext_getElem?
  intro i
  rw [List.getElem?_append, allBits_length]
  by_cases h : i < 8 * a.length
  · rw [if_pos h, allBits_get _ _ (by rw [List.length_append]; omega), allBits_get _ _ h]
    congr 1
    unfold bitB
    congr 2
    rw [List.getD_eq_getElem?_getD, List.getD_eq_getElem?_getD, List.getElem?_append, if_pos (by omega)]
  · rw [if_neg h]
    by_cases h2 : i < 8 * (a ++ b).length
    · rw [allBits_get _ _ h2, allBits_get _ _ (by rw [List.length_append] at h2; omega)]
      congr 1
      unfold bitB
      rw [List.getD_eq_getElem?_getD, List.getD_eq_getElem?_getD, List.getElem?_append, if_neg (by omega), show (i - 8 * a.length) / 8 = i / 8 - a.length by omega, show (i - 8 * a.length) % 8 = i % 8 by omega]
    · rw [List.getElem?_eq_none (by rw [allBits_length]; omega), List.getElem?_eq_none (by rw [allBits_length]; rw [List.length_append] at h2; omega)]

end Go.Proofs.YthapipgaohlgdabGreatDoor

/- Patterns as what differs from the one ahead, as lists of bits: what is written, what is read back. -/
namespace Go.Proofs.YthapipgaohlgdabGreatDoor
open Go.RowKit

/-- how many of the lowest bits are 0 -/
def tzF : Nat → Nat → Nat
  | 0, _ => 0
  | f + 1, x => if x % 2 = 0 then tzF f (x / 2) + 1 else 0
def tz (x : Nat) : Nat := tzF 64 x
/-- how many of the highest bits are 0, at most 31 -/
def ldz (x : Nat) : Nat := min (64 - wid x) 31
abbrev fitsW (x a z : Nat) : Prop := a ≤ 64 - wid x ∧ z ≤ tz x
def newW (x : Nat) : List Bool := true :: true :: (bitsOf (ldz x) 5 ++ (bitsOf (63 - ldz x - tz x) 6 ++ bitsOf (x / 2 ^ tz x) (64 - ldz x - tz x)))
/-- what one pattern is written as, by what differs, and the window behind it -/
def gx (x : Nat) (wn : Option (Nat × Nat)) : List Bool × Option (Nat × Nat) :=
  if x = 0 then ([false], wn) else
  match wn with
  | none => (newW x, some (ldz x, tz x))
  | some (a, z) => if fitsW x a z then (true :: false :: bitsOf (x / 2 ^ z) (64 - a - z), some (a, z)) else (newW x, some (ldz x, tz x))
def gE : Nat → Option (Nat × Nat) → List Int → List Bool
  | _, _, [] => []
  | p, wn, y :: t => (gx (p ^^^ y.toNat) wn).1 ++ gE y.toNat (gx (p ^^^ y.toNat) wn).2 t
def GB : List Int → List Bool
  | [] => []
  | y :: t => bitsOf y.toNat 64 ++ gE y.toNat none t
/-- a window that there may be -/
def Win (wn : Option (Nat × Nat)) : Prop := ∀ a z, wn = some (a, z) → a ≤ 31 ∧ a + z ≤ 63

/-! plain facts on the lowest and the highest bits -/
theorem tzF_dvd : ∀ (f x : Nat), 2 ^ tzF f x ∣ x
  | 0, x => by simp [tzF]
  | f + 1, x => by
    rw [tzF]
    by_cases h : x % 2 = 0
    · rw [if_pos h]
      obtain ⟨k, hk⟩ := tzF_dvd f (x / 2)
      refine ⟨k, ?_⟩
      have e : x = 2 * (x / 2) := by omega
      rw [Nat.pow_succ, Nat.mul_comm (2 ^ tzF f (x / 2)) 2, Nat.mul_assoc, ← hk]
      exact e
    · rw [if_neg h]; simp
theorem tzF_odd : ∀ (f x : Nat), 0 < x → x < 2 ^ f → x / 2 ^ tzF f x % 2 = 1
  | 0, x, h0, h1 => by simp at h1; omega
  | f + 1, x, h0, h1 => by
    rw [tzF]
    by_cases h : x % 2 = 0
    · rw [if_pos h, Nat.pow_succ, Nat.mul_comm, ← Nat.div_div_eq_div_mul]
      exact tzF_odd f (x / 2) (by omega) (by rw [Nat.pow_succ] at h1; omega)
    · rw [if_neg h]; simp; omega
theorem tzF_lt : ∀ (f x : Nat), 0 < x → x < 2 ^ f → tzF f x < f
  | 0, x, h0, h1 => by simp at h1; omega
  | f + 1, x, h0, h1 => by
    rw [tzF]
    by_cases h : x % 2 = 0
    · rw [if_pos h]
      have := tzF_lt f (x / 2) (by omega) (by rw [Nat.pow_succ] at h1; omega)
      omega
    · rw [if_neg h]; omega
theorem p64 : (2 : Nat) ^ 64 = 18446744073709551616 := by decide
/-- the window's bits off, and on again -/
theorem tz_back {x z : Nat} (h : z ≤ tz x) : x / 2 ^ z * 2 ^ z = x := by
  have h1 : 2 ^ z ∣ x := Nat.dvd_trans (Nat.pow_dvd_pow 2 h) (tzF_dvd 64 x)
  exact Nat.div_mul_cancel h1
theorem fits_lt {x a z : Nat} (hx : x < 18446744073709551616) (ha : a ≤ 64 - wid x) (hz : a + z ≤ 63) : x / 2 ^ z < 2 ^ (64 - a - z) := by
  have hw := wid_le64 x hx
  have h1 : x < 2 ^ (64 - a) := (wid_le_iff x (64 - a)).1 (by omega)
  rw [Nat.div_lt_iff_lt_mul (Nat.two_pow_pos z), ← Nat.pow_add]
  rw [show 64 - a - z + z = 64 - a by omega]
  exact h1
theorem win_new {x : Nat} (h0 : 0 < x) (hx : x < 18446744073709551616) : ldz x ≤ 31 ∧ ldz x ≤ 64 - wid x ∧ ldz x + tz x ≤ 63 := by
  have h1 : tz x < 64 := tzF_lt 64 x h0 (by rw [p64]; exact hx)
  have h2 : tz x < wid x := by
    rcases Nat.lt_or_ge (tz x) (wid x) with h | h
    · exact h
    · have h3 : x < 2 ^ tz x := (wid_le_iff x (tz x)).1 h
      have h4 : x / 2 ^ tz x * 2 ^ tz x = x := tz_back (Nat.le_refl _)
      rw [Nat.div_eq_of_lt h3] at h4
      omega
  have hw := wid_le64 x hx
  unfold ldz
  omega
theorem Win.next {x : Nat} {wn : Option (Nat × Nat)} (hw : Win wn) (hx : x < 18446744073709551616) : Win (gx x wn).2 := by
  intro a z h
  unfold gx at h
  by_cases h0 : x = 0
  · rw [if_pos h0] at h; exact hw a z h
  · rw [if_neg h0] at h
    have hn := win_new (by omega) hx
    cases wn with
    | none =>
      simp only [Option.some.injEq, Prod.mk.injEq] at h
      obtain ⟨rfl, rfl⟩ := h
      exact ⟨hn.1, hn.2.2⟩
    | some p =>
      obtain ⟨a', z'⟩ := p
      simp only at h
      by_cases hf : fitsW x a' z'
      · rw [if_pos hf] at h; exact hw a z h
      · rw [if_neg hf] at h
        simp only [Option.some.injEq, Prod.mk.injEq] at h
        obtain ⟨rfl, rfl⟩ := h
        exact ⟨hn.1, hn.2.2⟩
theorem Win.none : Win none := fun a z h => by cases h

/-! reading -/
/-- what differs, the window behind it, what is left, the error -/
def gR (wn : Option (Nat × Nat)) : List Bool → Nat × Option (Nat × Nat) × List Bool × Int
  | [] => (0, wn, [], 2)
  | false :: r => (0, wn, r, 0)
  | [true] => (0, wn, [], 2)
  | true :: false :: r =>
    match wn with
    | none => (0, none, r, 3)
    | some (a, z) => if r.length < 64 - a - z then (0, wn, r, 2) else (bnum (r.take (64 - a - z)) * 2 ^ z, wn, r.drop (64 - a - z), 0)
  | true :: true :: r =>
    if r.length < 5 then (0, wn, r, 2) else
    if r.length < 11 then (0, wn, r, 2) else
    if 63 < bnum (r.take 5) + bnum ((r.drop 5).take 6) then (0, wn, r, 3) else
    if r.length < 12 + bnum ((r.drop 5).take 6) then (0, wn, r, 2) else
    (bnum ((r.drop 11).take (bnum ((r.drop 5).take 6) + 1)) * 2 ^ (63 - bnum (r.take 5) - bnum ((r.drop 5).take 6)), some (bnum (r.take 5), 63 - bnum (r.take 5) - bnum ((r.drop 5).take 6)), r.drop (12 + bnum ((r.drop 5).take 6)), 0)
/-- so many more: those read, the error -/
def gDA : Nat → List Int → Nat → Option (Nat × Nat) → List Bool → List Int × Int
  | 0, acc, _, _, _ => (acc, 0)
  | n + 1, acc, p, wn, l => if (gR wn l).2.2.2 ≠ 0 then ([], (gR wn l).2.2.2) else gDA n (acc ++ [((p ^^^ (gR wn l).1 : Nat) : Int)]) (p ^^^ (gR wn l).1) (gR wn l).2.1 (gR wn l).2.2.1
def gRd (l : List Bool) (n : Nat) : List Int × Int :=
  if n = 0 then ([], 0) else if l.length < 64 then ([], 2) else gDA (n - 1) [(bnum (l.take 64) : Int)] (bnum (l.take 64)) none (l.drop 64)

theorem bnum_of {v n : Nat} (h : v < 2 ^ n) : bnum (bitsOf v n) = v := by rw [num_bitsOf, Nat.mod_eq_of_lt h]
theorem gR_new {x : Nat} {wn : Option (Nat × Nat)} (h0 : 0 < x) (hx : x < 18446744073709551616) (r : List Bool) : gR wn (newW x ++ r) = (x, some (ldz x, tz x), r, 0) := by
  obtain ⟨h1, h2, h3⟩ := win_new h0 hx
  have l5 : (bitsOf (ldz x) 5).length = 5 := bitsOf_length _ _
  have l6 : (bitsOf (63 - ldz x - tz x) 6).length = 6 := bitsOf_length _ _
  have lm : (bitsOf (x / 2 ^ tz x) (64 - ldz x - tz x)).length = 64 - ldz x - tz x := bitsOf_length _ _
  have p5 : (2 : Nat) ^ 5 = 32 := by decide
  have p6 : (2 : Nat) ^ 6 = 64 := by decide
  have e5 : bnum (bitsOf (ldz x) 5) = ldz x := bnum_of (by omega)
  have e6 : bnum (bitsOf (63 - ldz x - tz x) 6) = 63 - ldz x - tz x := bnum_of (by omega)
  have em : bnum (bitsOf (x / 2 ^ tz x) (64 - ldz x - tz x)) = x / 2 ^ tz x := bnum_of (fits_lt hx h2 h3)
  have hb := tz_back (Nat.le_refl (tz x))
  generalize hA : bitsOf (ldz x) 5 = A at *
  generalize hB : bitsOf (63 - ldz x - tz x) 6 = B at *
  generalize hC : bitsOf (x / 2 ^ tz x) (64 - ldz x - tz x) = C at *
  have hn : newW x ++ r = true :: true :: (A ++ (B ++ (C ++ r))) := by
    unfold newW; rw [hA, hB, hC]; simp
  rw [hn]
  have t5 : (A ++ (B ++ (C ++ r))).take 5 = A := by rw [List.take_left' l5]
  have d5 : (A ++ (B ++ (C ++ r))).drop 5 = B ++ (C ++ r) := by rw [List.drop_left' l5]
  have t6 : (B ++ (C ++ r)).take 6 = B := by rw [List.take_left' l6]
  have d6 : (B ++ (C ++ r)).drop 6 = C ++ r := by rw [List.drop_left' l6]
  have d11 : (A ++ (B ++ (C ++ r))).drop 11 = C ++ r := by rw [show (11 : Nat) = 5 + 6 from rfl, ← List.drop_drop, d5, d6]
  have hlen : (A ++ (B ++ (C ++ r))).length = 11 + (64 - ldz x - tz x) + r.length := by
    simp only [List.length_append]; omega
  rw [gR]
  rw [t5, d5, t6, d11, e5, e6]
  rw [if_neg (by omega), if_neg (by omega), if_neg (by omega), if_neg (by omega)]
  have q1 : 63 - ldz x - tz x + 1 = 64 - ldz x - tz x := by omega
  have q2 : 63 - ldz x - (63 - ldz x - tz x) = tz x := by omega
  have d12 : (A ++ (B ++ (C ++ r))).drop (12 + (63 - ldz x - tz x)) = r := by
    rw [show 12 + (63 - ldz x - tz x) = 11 + (64 - ldz x - tz x) by omega, ← List.drop_drop, d11, List.drop_left' lm]
  rw [q1, q2, d12, List.take_left' lm, em, hb]
/-- one pattern is read back -/
theorem gR_gx {x : Nat} {wn : Option (Nat × Nat)} (hw : Win wn) (hx : x < 18446744073709551616) (r : List Bool) : gR wn ((gx x wn).1 ++ r) = (x, (gx x wn).2, r, 0) := by
  unfold gx
  by_cases h0 : x = 0
  · subst h0
    rw [if_pos rfl]; rfl
  · rw [if_neg h0]
    cases wn with
    | none => exact gR_new (by omega) hx r
    | some p =>
      obtain ⟨a, z⟩ := p
      simp only
      by_cases hf : fitsW x a z
      · rw [if_pos hf]
        obtain ⟨ha, hz⟩ := hf
        obtain ⟨w1, w2⟩ := hw a z rfl
        have lm : (bitsOf (x / 2 ^ z) (64 - a - z)).length = 64 - a - z := bitsOf_length _ _
        have em : bnum (bitsOf (x / 2 ^ z) (64 - a - z)) = x / 2 ^ z := bnum_of (fits_lt hx ha w2)
        have hb := tz_back hz
        generalize bitsOf (x / 2 ^ z) (64 - a - z) = C at *
        show gR (some (a, z)) (true :: false :: (C ++ r)) = _
        rw [gR]
        simp only
        rw [if_neg (by rw [List.length_append]; omega), List.take_left' lm, List.drop_left' lm, em, hb]
      · rw [if_neg hf]
        exact gR_new (by omega) hx r

theorem gR_newcut {x : Nat} {wn : Option (Nat × Nat)} (h0 : 0 < x) (hx : x < 18446744073709551616) (j : Nat) (hj : j < (newW x).length) : (gR wn ((newW x).take j)).2.2.2 = 2 := by
  obtain ⟨h1, h2, h3⟩ := win_new h0 hx
  have l5 : (bitsOf (ldz x) 5).length = 5 := bitsOf_length _ _
  have l6 : (bitsOf (63 - ldz x - tz x) 6).length = 6 := bitsOf_length _ _
  have lm : (bitsOf (x / 2 ^ tz x) (64 - ldz x - tz x)).length = 64 - ldz x - tz x := bitsOf_length _ _
  have p5 : (2 : Nat) ^ 5 = 32 := by decide
  have p6 : (2 : Nat) ^ 6 = 64 := by decide
  have e5 : bnum (bitsOf (ldz x) 5) = ldz x := bnum_of (by omega)
  have e6 : bnum (bitsOf (63 - ldz x - tz x) 6) = 63 - ldz x - tz x := bnum_of (by omega)
  unfold newW at hj ⊢
  generalize bitsOf (ldz x) 5 = A at *
  generalize bitsOf (63 - ldz x - tz x) 6 = B at *
  generalize bitsOf (x / 2 ^ tz x) (64 - ldz x - tz x) = C at *
  simp only [List.length_cons, List.length_append] at hj
  rcases j with _ | _ | i
  · rfl
  · rfl
  · show (gR wn (true :: true :: (A ++ (B ++ C)).take i)).2.2.2 = 2
    rw [gR]
    have hl : ((A ++ (B ++ C)).take i).length = i := by
      rw [List.length_take]; simp only [List.length_append]; omega
    by_cases i5 : i < 5
    · rw [if_pos (by omega)]
    · rw [if_neg (by omega)]
      by_cases i11 : i < 11
      · rw [if_pos (by omega)]
      · rw [if_neg (by omega)]
        have t5 : ((A ++ (B ++ C)).take i).take 5 = A := by
          rw [List.take_take, Nat.min_eq_left (by omega), List.take_left' l5]
        have t6 : (((A ++ (B ++ C)).take i).drop 5).take 6 = B := by
          rw [List.drop_take, List.take_take, Nat.min_eq_left (by omega), List.drop_left' l5, List.take_left' l6]
        rw [t5, t6, e5, e6, if_neg (by omega), if_pos (by omega)]
theorem gR_cut {x : Nat} {wn : Option (Nat × Nat)} (hw : Win wn) (hx : x < 18446744073709551616) (j : Nat) (hj : j < (gx x wn).1.length) : (gR wn ((gx x wn).1.take j)).2.2.2 = 2 := by
  unfold gx at hj ⊢
  by_cases h0 : x = 0
  · rw [if_pos h0] at hj ⊢
    obtain rfl : j = 0 := by simpa using hj
    rfl
  · rw [if_neg h0] at hj ⊢
    cases wn with
    | none => exact gR_newcut (by omega) hx j hj
    | some p =>
      obtain ⟨a, z⟩ := p
      simp only at hj ⊢
      by_cases hf : fitsW x a z
      · rw [if_pos hf] at hj ⊢
        have lm : (bitsOf (x / 2 ^ z) (64 - a - z)).length = 64 - a - z := bitsOf_length _ _
        generalize bitsOf (x / 2 ^ z) (64 - a - z) = C at *
        simp only [List.length_cons] at hj
        rcases j with _ | _ | i
        · rfl
        · rfl
        · show (gR (some (a, z)) (true :: false :: C.take i)).2.2.2 = 2
          rw [gR]
          rw [if_pos (by rw [List.length_take]; omega)]
      · rw [if_neg hf] at hj ⊢
        exact gR_newcut (by omega) hx j hj

/-! a list -/
theorem xor_lt {a b : Nat} (ha : a < 18446744073709551616) (hb : b < 18446744073709551616) : a ^^^ b < 18446744073709551616 := by
  rw [← p64] at *
  exact Nat.xor_lt_two_pow ha hb
theorem xor_twice (a b : Nat) : a ^^^ (a ^^^ b) = b := by rw [← Nat.xor_assoc, Nat.xor_self, Nat.zero_xor]
theorem gDA_gE (l : List Int) : ∀ (acc : List Int) (p : Nat) (wn : Option (Nat × Nat)) (r : List Bool), U64 l → p < 18446744073709551616 → Win wn → gDA l.length acc p wn (gE p wn l ++ r) = (acc ++ l, 0) := by
  induction l with
  | nil => intro acc p wn r _ _ _; simp [gDA]
  | cons y t ih =>
    intro acc p wn r hu hp hw
    have hy := hu y List.mem_cons_self
    have hx := xor_lt hp (show y.toNat < 18446744073709551616 by omega)
    have e : gE p wn (y :: t) ++ r = (gx (p ^^^ y.toNat) wn).1 ++ (gE y.toNat (gx (p ^^^ y.toNat) wn).2 t ++ r) := by rw [gE, List.append_assoc]
    rw [e, List.length_cons, gDA, gR_gx hw hx]
    simp only [ne_eq, not_true_eq_false, if_false, xor_twice]
    rw [ih _ _ _ _ (fun z hz => hu z (List.mem_cons_of_mem _ hz)) (by omega) (hw.next hx), Int.toNat_of_nonneg hy.1]
    simp
theorem gDA_cut (l : List Int) : ∀ (acc : List Int) (p : Nat) (wn : Option (Nat × Nat)) (j : Nat), U64 l → p < 18446744073709551616 → Win wn → j < (gE p wn l).length → gDA l.length acc p wn ((gE p wn l).take j) = ([], 2) := by
  induction l with
  | nil => intro acc p wn j _ _ _ hj; simp [gE] at hj
  | cons y t ih =>
    intro acc p wn j hu hp hw hj
    have hy := hu y List.mem_cons_self
    have hx := xor_lt hp (show y.toNat < 18446744073709551616 by omega)
    rw [gE] at hj ⊢
    rw [List.length_append] at hj
    by_cases h : j < (gx (p ^^^ y.toNat) wn).1.length
    · rw [List.take_append_of_le_length (by omega), List.length_cons, gDA, gR_cut hw hx j h]
      simp
    · have e : ((gx (p ^^^ y.toNat) wn).1 ++ gE y.toNat (gx (p ^^^ y.toNat) wn).2 t).take j = (gx (p ^^^ y.toNat) wn).1 ++ (gE y.toNat (gx (p ^^^ y.toNat) wn).2 t).take (j - (gx (p ^^^ y.toNat) wn).1.length) := by
        rw [List.take_append, List.take_of_length_le (by omega)]
      rw [e, List.length_cons, gDA, gR_gx hw hx]
      simp only [ne_eq, not_true_eq_false, if_false, xor_twice]
      exact ih _ _ _ _ (fun z hz => hu z (List.mem_cons_of_mem _ hz)) (by omega) (hw.next hx) (by omega)
theorem gRd_GB {l : List Int} (hu : U64 l) (r : List Bool) : gRd (GB l ++ r) l.length = (l, 0) := by
  cases l with
  | nil => rfl
  | cons y t =>
    have hy := hu y List.mem_cons_self
    have l64 : (bitsOf y.toNat 64).length = 64 := bitsOf_length _ _
    have e64 : bnum (bitsOf y.toNat 64) = y.toNat := bnum_of (by rw [p64]; omega)
    unfold gRd GB
    rw [if_neg (by simp), List.append_assoc, if_neg (by rw [List.length_append]; omega), List.take_left' l64, List.drop_left' l64, e64, List.length_cons, Nat.add_sub_cancel]
    rw [gDA_gE t _ _ _ _ (fun z hz => hu z (List.mem_cons_of_mem _ hz)) (by omega) Win.none, Int.toNat_of_nonneg hy.1]
    rfl
theorem gRd_cut {l : List Int} (hu : U64 l) (j : Nat) (hj : j < (GB l).length) : gRd ((GB l).take j) l.length = ([], 2) := by
  cases l with
  | nil => simp [GB] at hj
  | cons y t =>
    have hy := hu y List.mem_cons_self
    have l64 : (bitsOf y.toNat 64).length = 64 := bitsOf_length _ _
    have e64 : bnum (bitsOf y.toNat 64) = y.toNat := bnum_of (by rw [p64]; omega)
    unfold gRd
    unfold GB at hj ⊢
    rw [List.length_append] at hj
    rw [if_neg (by simp)]
    by_cases h : j < 64
    · rw [if_pos (by rw [List.length_take]; omega)]
    · have e : (bitsOf y.toNat 64 ++ gE y.toNat none t).take j = bitsOf y.toNat 64 ++ (gE y.toNat none t).take (j - 64) := by
        rw [List.take_append, List.take_of_length_le (by omega), l64]
      rw [e, if_neg (by rw [List.length_append]; omega), List.take_left' l64, List.drop_left' l64, e64, List.length_cons, Nat.add_sub_cancel]
      exact gDA_cut t _ _ _ _ (fun z hz => hu z (List.mem_cons_of_mem _ hz)) (by omega) Win.none (by omega)
/-- what is read are so many patterns of 64 bits -/
theorem gR_ok {wn : Option (Nat × Nat)} (hw : Win wn) (l : List Bool) (h : (gR wn l).2.2.2 = 0) : (gR wn l).1 < 18446744073709551616 ∧ Win (gR wn l).2.1 := by
  have key : ∀ (c : List Bool) (a z m : Nat), c.length ≤ m → m + z + a ≤ 64 → bnum c * 2 ^ z < 18446744073709551616 := by
    intro c a z m hc hm
    have h1 := bnum_lt c
    have h2 : 2 ^ c.length ≤ 2 ^ m := Nat.pow_le_pow_right (by omega) hc
    have h3 : bnum c * 2 ^ z < 2 ^ m * 2 ^ z := Nat.mul_lt_mul_of_pos_right (by omega) (Nat.two_pow_pos z)
    rw [← Nat.pow_add] at h3
    have h4 : 2 ^ (m + z) ≤ 2 ^ 64 := Nat.pow_le_pow_right (by omega) (by omega)
    rw [p64] at h4
    omega
  match l, h with
  | [], h => exact absurd h (by simp [gR])
  | false :: r, _ => exact ⟨by simp [gR], by simpa [gR] using hw⟩
  | [true], h => exact absurd h (by simp [gR])
  | true :: false :: r, h =>
    cases wn with
    | none => exact absurd h (by simp [gR])
    | some p =>
      obtain ⟨a, z⟩ := p
      obtain ⟨w1, w2⟩ := hw a z rfl
      rw [gR] at h ⊢
      by_cases hl : r.length < 64 - a - z
      · rw [if_pos hl] at h; cases h
      · rw [if_neg hl]
        exact ⟨key _ a z (64 - a - z) (by rw [List.length_take]; omega) (by omega), hw⟩
  | true :: true :: r, h =>
    rw [gR] at h ⊢
    by_cases c1 : r.length < 5
    · rw [if_pos c1] at h; cases h
    · rw [if_neg c1] at h ⊢
      by_cases c2 : r.length < 11
      · rw [if_pos c2] at h; cases h
      · rw [if_neg c2] at h ⊢
        by_cases c3 : 63 < bnum (r.take 5) + bnum ((r.drop 5).take 6)
        · rw [if_pos c3] at h; cases h
        · rw [if_neg c3] at h ⊢
          by_cases c4 : r.length < 12 + bnum ((r.drop 5).take 6)
          · rw [if_pos c4] at h; cases h
          · rw [if_neg c4]
            have hb := bnum_lt (r.take 5)
            have hb2 : (r.take 5).length = 5 := by rw [List.length_take]; omega
            rw [hb2] at hb
            refine ⟨key _ (bnum (r.take 5)) _ (bnum ((r.drop 5).take 6) + 1) (by rw [List.length_take]; omega) (by omega), ?_⟩
            intro a z e
            simp only [Option.some.injEq, Prod.mk.injEq] at e
            obtain ⟨rfl, rfl⟩ := e
            have : (2 : Nat) ^ 5 = 32 := by decide
            omega
theorem gDA_ok : ∀ (n : Nat) (acc : List Int) (p : Nat) (wn : Option (Nat × Nat)) (l : List Bool), U64 acc → p < 18446744073709551616 → Win wn → (gDA n acc p wn l).2 = 0 → U64 (gDA n acc p wn l).1 ∧ (gDA n acc p wn l).1.length = acc.length + n
  | 0, acc, _, _, _, hu, _, _, _ => ⟨hu, rfl⟩
  | n + 1, acc, p, wn, l, hu, hp, hw, h => by
    rw [gDA] at h ⊢
    by_cases hc : (gR wn l).2.2.2 ≠ 0
    · rw [if_pos hc] at h; exact absurd h hc
    · rw [if_neg hc] at h ⊢
      obtain ⟨h1, h2⟩ := gR_ok hw l (by simpa using hc)
      have hx := xor_lt hp h1
      obtain ⟨h3, h4⟩ := gDA_ok n _ _ _ _ (fun y hy => by
        rcases List.mem_append.1 hy with h | h
        · exact hu y h
        · simp at h; omega) hx h2 h
      exact ⟨h3, by rw [h4, List.length_append]; simp; omega⟩
theorem gDA_err : ∀ (n : Nat) (acc : List Int) (p : Nat) (wn : Option (Nat × Nat)) (l : List Bool), (gDA n acc p wn l).2 ≠ 0 → (gDA n acc p wn l).1 = []
  | 0, _, _, _, _, h => absurd rfl h
  | n + 1, acc, p, wn, l, h => by
    rw [gDA] at h ⊢
    by_cases hc : (gR wn l).2.2.2 ≠ 0
    · rw [if_pos hc]
    · rw [if_neg hc] at h ⊢
      exact gDA_err n _ _ _ _ h
theorem gRd_ok {l : List Bool} {n : Nat} (h : (gRd l n).2 = 0) : U64 (gRd l n).1 ∧ (gRd l n).1.length = n := by
  unfold gRd at *
  by_cases h0 : n = 0
  · rw [if_pos h0]; exact ⟨fun x hx => by simp at hx, by simp [h0]⟩
  · rw [if_neg h0] at h ⊢
    by_cases h1 : l.length < 64
    · rw [if_pos h1] at h; cases h
    · rw [if_neg h1] at h ⊢
      have hb := bnum_lt (l.take 64)
      have hl : (l.take 64).length = 64 := by rw [List.length_take]; omega
      rw [hl, p64] at hb
      obtain ⟨h2, h3⟩ := gDA_ok (n - 1) _ _ _ _ (fun y hy => by simp at hy; omega) hb Win.none h
      exact ⟨h2, by rw [h3]; simp; omega⟩
theorem gRd_err {l : List Bool} {n : Nat} (h : (gRd l n).2 ≠ 0) : (gRd l n).1 = [] := by
  unfold gRd at *
  by_cases h0 : n = 0
  · rw [if_pos h0]
  · rw [if_neg h0] at h ⊢
    by_cases h1 : l.length < 64
    · rw [if_pos h1]
    · rw [if_neg h1] at h ⊢
      exact gDA_err _ _ _ _ _ h
end Go.Proofs.YthapipgaohlgdabGreatDoor
