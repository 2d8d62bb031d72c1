/- Contracts of package bits: the reader. -/
import Derived.Test.YtgnaeajfajineaaBBytes
namespace Go.Proofs.Ytgnaeajfajineaa
open Go.RowKit


/-- the bit at place i of bytes -/
def bitB (ys : List Int) (i : Nat) : Bool := ((ys.getD (i / 8) 0).toNat).testBit (7 - i % 8)
def allBits (ys : List Int) : List Bool := (List.range (8 * ys.length)).map (bitB ys)
def bnum (l : List Bool) : Nat := l.foldl (fun a b => 2 * a + b.toNat) 0
theorem bnum_snoc (l : List Bool) (b : Bool) : bnum (l ++ [b]) = 2 * bnum l + b.toNat := by simp [bnum]
theorem bnum_lt (l : List Bool) : bnum l < 2 ^ l.length := by
  induction h : l.length generalizing l with
  | zero => have : l = [] := List.eq_nil_of_length_eq_zero h
            subst this; simp [bnum]
  | succ n ih =>
    have hne : l ≠ [] := by intro h0; subst h0; simp at h
    obtain ⟨t, b, rfl⟩ : ∃ t b, l = t ++ [b] := ⟨l.dropLast, l.getLast hne, (List.dropLast_concat_getLast hne).symm⟩
    have := ih t (by simp at h; omega)
    rw [bnum_snoc, Nat.pow_succ]
    have := bool_le b
    omega
theorem allBits_length (ys : List Int) : (allBits ys).length = 8 * ys.length := by simp [allBits]
theorem allBits_get (ys : List Int) (i : Nat) (h : i < 8 * ys.length) : (allBits ys)[i]? = some (bitB ys i) := by simp [allBits, h]

/-- a bit reader in memory: the struct lies at block R, its slice is v, which reads as the bytes ys; p bits are read. -/
structure RdAt (T : TypeId) (w : World) (R : Nat) (v : Value) (ys : List Int) (p : Nat) : Prop where
  bs : Bs .u8 w v ys
  rng : ∀ y ∈ ys, 0 ≤ y ∧ y ≤ 255
  cell : w.heap[R]? = some (.cells #[v, .int .i64 p] T (0, 0))
  ap : v.ownBlock ≠ some R
  le : p ≤ 8 * ys.length
  len : ys.length ≤ 1000000000000
theorem RdAt.keep {T : TypeId} {w w' : World} {R : Nat} {v : Value} {ys : List Int} {p : Nat} (h : RdAt T w R v ys p) {S : Nat → Prop} (ho : Only S w w') (hR : ¬ S R) (hv : ∀ k, v.ownBlock = some k → ¬ S k) : RdAt T w' R v ys p :=
  ⟨h.bs.keep ho hv, h.rng, ho.heap h.cell hR, h.ap, h.le, h.len⟩
theorem RdAt.form {T : TypeId} {w : World} {R : Nat} {v : Value} {ys : List Int} {p : Nat} (h : RdAt T w R v ys p) : ∃ ao cap, v = .slice ao ys.length cap := by
  obtain ⟨ao, cap, rfl, _⟩ := h.bs
  exact ⟨ao, cap, rfl⟩

set_option maxHeartbeats 400000 in
set_option maxRecDepth 100000 in
theorem bitAt_any (R g off m cap : Nat) (y q : Int) (w : World) (hq : 0 ≤ q) (hq2 : q ≤ 1000000000000000)
    (h0 : w.cell? ⟨R, 0, none⟩ = some (.slice (some ⟨g, off, none⟩) m cap)) (hi : q / 8 < (m : Int)) (hx : w.cell? ⟨g, off + q.toNat / 8, none⟩ = some (.int .u8 y)) :
    Calls Try.prog 56 #[.pointer (some ⟨R, 0, none⟩), .int .i64 q] w fun e w' => e = .returned (.int .u8 (bits .and .u8 (y / 2 ^ (7 - q.toNat % 8)) 1)) ∧ w = w' := by
  obtain ⟨n, rfl⟩ := Int.eq_ofNat_of_zero_le hq
  simp only [Int.toNat_natCast] at hx
  have hi0 : (0 : Int) ≤ (n : Int) / 8 := by omega
  go_enter Try.func56, Try.ntmps56
  go_wp2
  go_ret
  exact ⟨rfl, rfl⟩

theorem bit8_of (y : Int) (j : Nat) (y0 : 0 ≤ y) (y1 : y ≤ 255) : bits .and .u8 (y / 2 ^ j) 1 = ((y.toNat.testBit j).toNat : Int) := by
  obtain ⟨m, rfl⟩ := Int.eq_ofNat_of_zero_le y0
  have e : ((m : Int) / 2 ^ j) = ((m / 2 ^ j : Nat) : Int) := by simp
  have h := Nat.div_le_self m (2 ^ j)
  rw [e, show (1 : Int) = ((1 : Nat) : Int) from rfl, u8_and_nat _ _ (by omega) (by omega), nat_mask1, Int.toNat_natCast, Nat.testBit_eq_decide_div_mod_eq]
  by_cases h1 : m / 2 ^ j % 2 = 1
  · simp [h1]
  · have : m / 2 ^ j % 2 = 0 := by omega
    simp [this]

/-- A BIT of the reader's bytes. -/
theorem bitAt_rd {w : World} {R : Nat} {v : Value} {ys : List Int} {p : Nat} (h : RdAt 87 w R v ys p) (q : Int) (q0 : 0 ≤ q) (q1 : q < 8 * (ys.length : Int)) :
    Calls Try.prog 56 #[.pointer (some ⟨R, 0, none⟩), .int .i64 q] w fun e w' => e = .returned (.int .u8 ((bitB ys q.toNat).toNat : Int)) ∧ w = w' := by
  have hne : ys ≠ [] := by intro h0; subst h0; simp at q1; omega
  obtain ⟨ao, cap, rfl, hcap, hr⟩ := h.bs
  obtain ⟨b, off, rfl, hcell⟩ := hr hne
  have hj : q.toNat / 8 < ys.length := by omega
  have hc := hcell (q.toNat / 8) hj
  have hy : 0 ≤ ys.getD (q.toNat / 8) 0 ∧ ys.getD (q.toNat / 8) 0 ≤ 255 := by
    refine h.rng _ ?_
    rw [List.getD_eq_getElem?_getD, List.getElem?_eq_getElem hj]; simp
  have hl := h.len
  refine (bitAt_any R b off ys.length cap (ys.getD (q.toNat / 8) 0) q w q0 (by omega) (two_cells h.cell).1 (by omega) hc).mono ?_
  rintro e w' ⟨rfl, rfl⟩
  refine ⟨ret_int ?_, rfl⟩
  rw [bit8_of _ _ hy.1 hy.2]; rfl

set_option maxHeartbeats 400000 in
set_option maxRecDepth 100000 in
theorem bleft_any (R m cap p : Nat) (ao : Option Addr) (w : World) (hm : m ≤ 140737488355328) (hp : p ≤ 8 * m)
    (h0 : w.cell? ⟨R, 0, none⟩ = some (.slice ao m cap)) (h1 : w.cell? ⟨R, 1, none⟩ = some (.int .i64 p)) :
    Calls Try.prog 46 #[.pointer (some ⟨R, 0, none⟩)] w fun e w' => e = .returned (.int .i64 (8 * (m : Int) - p)) ∧ Only (fun _ => False) w w' := by
  go_enter Try.func46, Try.ntmps46
  go_wp2
  go_quiet (fail)
  go_wp2
  go_ret
  exact ⟨rfl, (Only.refl _ _).drewN _⟩
theorem left_rd {w : World} {R : Nat} {v : Value} {ys : List Int} {p : Nat} (h : RdAt 87 w R v ys p) :
    Calls Try.prog 46 #[.pointer (some ⟨R, 0, none⟩)] w fun e w' => e = .returned (.int .i64 (8 * (ys.length : Int) - p)) ∧ Only (fun _ => False) w w' := by
  obtain ⟨ao, cap, rfl⟩ := h.form
  have hl := h.len
  exact bleft_any R ys.length cap p ao w (by omega) h.le (two_cells h.cell).1 (two_cells h.cell).2.1

set_option maxHeartbeats 400000 in
set_option maxRecDepth 100000 in
theorem get_width (R : Nat) (width : Int) (w : World) (h : width < 0 ∨ 64 < width) :
    Calls Try.prog 47 #[.pointer (some ⟨R, 0, none⟩), .int .i64 width] w fun e w' => e = .returned (.tuple #[.int .u64 0, .int .i64 1]) ∧ w = w' := by
  have H : Hid (width < 0 ∨ 64 < width) := h
  clear h
  go_enter Try.func47, Try.ntmps47
  go_wp2_with (go_at_call 38; refine (isWidth_no _ _ H.out).mono ?_; rintro e w' ⟨rfl, rfl⟩)
  go_ret2
  exact ⟨rfl, rfl⟩

set_option maxHeartbeats 400000 in
set_option maxRecDepth 100000 in
theorem get_short {w : World} {R : Nat} {v : Value} {ys : List Int} {p : Nat} (h : RdAt 87 w R v ys p) (width : Int) (h0 : 0 ≤ width) (h1 : width ≤ 64) (hs : 8 * (ys.length : Int) - p < width) :
    Calls Try.prog 47 #[.pointer (some ⟨R, 0, none⟩), .int .i64 width] w fun e w' => e = .returned (.tuple #[.int .u64 0, .int .i64 2]) ∧ Only (fun _ => False) w w' := by
  have HR := hideIt h
  clear h
  go_enter Try.func47, Try.ntmps47
  go_wp2_with fail
  refine (isWidth_yes _ _ h0 h1).mono ?_
  rintro e w' ⟨rfl, rfl⟩
  go_wp2_with fail
  refine (left_rd HR.out).mono ?_
  rintro e w1 ⟨rfl, ho⟩
  go_wp2
  go_ret2
  exact ⟨rfl, ho⟩

theorem or_step (a : Nat) (b : Bool) (h : a ≤ 9223372036854775807) : bits .or .u64 ((a : Int) * 2) (IntKind.u64.wrap (b.toNat : Int)) = ((2 * a + b.toNat : Nat) : Int) := by
  have hb := bool_le b
  have e1 : IntKind.u64.wrap (b.toNat : Int) = ((b.toNat : Nat) : Int) := by rw [IntKind.wrap_u64]; omega
  have e2 : ((a : Int) * 2) = ((2 * a : Nat) : Int) := by omega
  rw [e1, e2, u64_or_nat _ _ (by omega) (by omega), nat_join 1 _ _ (by omega) (by omega)]
theorem take_step (ys : List Int) (p k : Nat) (h : p + k < 8 * ys.length) : ((allBits ys).drop p).take (k + 1) = ((allBits ys).drop p).take k ++ [bitB ys (p + k)] := by
  have hl : k < ((allBits ys).drop p).length := by rw [List.length_drop, allBits_length]; omega
  rw [List.take_succ_eq_append_getElem hl]
  congr 2
  have := allBits_get ys (p + k) h
  rw [List.getElem_drop]
  exact (List.getElem?_eq_some_iff.1 this).2
theorem bnum_63 (l : List Bool) (h : l.length ≤ 63) : bnum l ≤ 9223372036854775807 := by
  have h1 := bnum_lt l
  have h2 : 2 ^ l.length ≤ 2 ^ 63 := Nat.pow_le_pow_right (by omega) h
  omega
theorem RdAt.moved {w w' : World} {T : TypeId} {R : Nat} {v : Value} {ys : List Int} {p : Nat} (h : RdAt T w R v ys p) (q : Nat) (hq : q ≤ 8 * ys.length) (z : Int) (hz : z = (q : Int)) (e : w' = w.setCell ⟨R, 1, none⟩ (.int .i64 z)) :
    RdAt T w' R v ys q ∧ Only (fun k => k = R) w w' := by
  subst e; subst hz
  have ho : Only (fun k => k = R) w (w.setCell ⟨R, 1, none⟩ (.int .i64 (q : Int))) := Only.setCell (S := fun k => k = R) (p := ⟨R, 1, none⟩) (Only.refl _ _) (fun _ => rfl) _
  exact ⟨⟨h.bs.keep ho (fun k hk e => h.ap (by rw [← e]; exact hk)), h.rng, (heap_two h.cell _).2, h.ap, hq, h.len⟩, ho⟩

set_option maxHeartbeats 400000 in
set_option maxRecDepth 100000 in
/-- THE NEXT BITS, as a number. -/
theorem get_rd {w : World} {R : Nat} {v : Value} {ys : List Int} {p : Nat} (h : RdAt 87 w R v ys p) (width : Int) (h0 : 0 ≤ width) (h1 : width ≤ 64) (hs : (p : Int) + width ≤ 8 * (ys.length : Int)) :
    Calls Try.prog 47 #[.pointer (some ⟨R, 0, none⟩), .int .i64 width] w fun e w' => e = .returned (.tuple #[.int .u64 (bnum (((allBits ys).drop p).take width.toNat)), .int .i64 0]) ∧
      RdAt 87 w' R v ys (p + width.toNat) ∧ Only (fun k => k = R) w w' := by
  obtain ⟨n, rfl⟩ := Int.eq_ofNat_of_zero_le h0
  rw [Int.toNat_natCast]
  have HR := hideIt h
  have hp := h.le
  have hlen := h.len
  clear h
  go_enter Try.func47, Try.ntmps47
  go_wp2_with fail
  refine (isWidth_yes _ _ h0 h1).mono ?_
  rintro e w' ⟨rfl, rfl⟩
  go_wp2_with fail
  refine (left_rd HR.out).mono ?_
  rintro e w1 ⟨rfl, ho⟩
  have HR1 := hideIt (HR.out.keep ho (fun f => f) (fun _ _ f => f))
  obtain ⟨c0, c1, f0, f1⟩ := two_cells HR1.out.cell
  have HO := hideIt ho
  clear HR ho
  have hd : decide (8 * (ys.length : Int) - (p : Int) < (n : Int)) = false := by simp; omega
  go_wp2
  go_loop [6, 20] (fun a i => ∃ k : Nat, k ≤ n ∧ i = .int .i64 k ∧ a = .int .u64 (bnum (((allBits ys).drop p).take k))) (fun _ i => n - (intOf i).toNat)
  case atStart => exact ⟨0, Nat.zero_le _, rfl, rfl⟩
  case round =>
    obtain ⟨k, hk, rfl, rfl⟩ := hrel
    by_cases hlt : k < n
    · have hb : (bnum (((allBits ys).drop p).take k) : Int) ≤ 9223372036854775807 := by
        have := bnum_63 (((allBits ys).drop p).take k) (by rw [List.length_take]; omega)
        omega
      have HS := hideIt (or_step (bnum (((allBits ys).drop p).take k)) (bitB ys (p + k)) (by omega))
      go_wp2_with fail
      refine (bitAt_rd HR1.out _ (by omega) (by omega)).mono ?_
      rintro e wz ⟨rfl, rfl⟩
      go_wp2
      go_round
      case rel =>
        refine ⟨k + 1, by omega, by go_num, ?_⟩
        rw [HS.out, take_step ys p k (by omega), bnum_snoc]
      case measure => simp [intOf]; omega
    · go_wp2
      go_ret2
      have hkn : k = n := by omega
      subst hkn
      obtain ⟨m1, m2⟩ := HR1.out.moved (p + k) (by omega) ((p : Int) + k) (by omega) rfl
      exact ⟨rfl, m1, (HO.out.mono (T := fun k => k = R) (fun _ _ f => f.elim)).trans m2 (fun _ _ h => h)⟩

/-- what End says of the bits that are left -/
def bendV (l : List Bool) : Int := if 8 ≤ l.length ∨ true ∈ l then 3 else 0

set_option maxHeartbeats 400000 in
set_option maxRecDepth 100000 in
/-- A NEW READER: on a copy of the bytes. -/
theorem newReader_bs (v : Value) (ys : List Int) (w : World) (h : Bs .u8 w v ys) (hr : ∀ y ∈ ys, 0 ≤ y ∧ y ≤ 255) (hl : ys.length ≤ 1000000000000) :
    Calls Try.prog 45 #[v] w fun e w' => ∃ R v', e = .returned (.pointer (some ⟨R, 0, none⟩)) ∧ RdAt 87 w' R v' ys 0 ∧ Only (fun _ => False) w w' ∧ w.heap.size ≤ R ∧ R < w'.heap.size ∧ (∀ k, v'.ownBlock = some k → w.heap.size ≤ k ∧ k < w'.heap.size) := by
  have HB := hideIt h
  have HR := hideIt hr
  clear h hr
  go_enter Try.func45, Try.ntmps45
  go_wp2_with fail
  refine (clone_bs v ys _ HB.out (by omega)).mono ?_
  rintro e w1 ⟨v', rfl, hown, ho⟩
  have hbs := Bs.of_own hown
  have hlt := hown.lt
  obtain ⟨ao, cap, rfl, _⟩ := id hbs
  have HBS := hideIt hbs
  have HLT := hideIt hlt
  have HO := hideIt ho
  clear hown ho hbs hlt
  go_wp2
  go_ret
  have oa : Only (fun _ => False) w1 (w1.alloc (.cells #[.slice ao ys.length cap, .int .i64 0] 87)) := (Only.refl _ _).alloc _
  refine ⟨w1.heap.size, .slice ao ys.length cap, rfl, ⟨HBS.out.keep oa (fun _ _ f => f), HR.out, heap_alloc_new w1 _, ?_, Nat.zero_le _, hl⟩, HO.out.trans oa (fun _ _ f => f), HO.out.size, by simp, ?_⟩
  · intro e
    have := (HLT.out _ e).2
    omega
  · intro k hk
    have := HLT.out k hk
    simp
    omega
end Go.Proofs.Ytgnaeajfajineaa
