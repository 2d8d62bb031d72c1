/- Several texts in one: Clone, BBytes, BRd, BMath3, BRef, BItems, BRef2, BMath4, VMath. -/
import Derived.Test.YthapipgaohlgdabGreatDoorProg
import Derived.Test.YthapipgaohlgdabGreatDoorG1
import Derived.WalkSpells
import Derived.BigRegion

/- Contract of slices.Clone of bytes: new memory, the same bytes. -/
namespace Go.Proofs.YthapipgaohlgdabGreatDoor
open Go.RowKit

theorem Tryz.infoC8 : (Tryz.prog.info? 5).map (fun i => (i.zero, i.size, i.bytes)) = some (some (.int .u8 0), 1, 1) := by kernel_rfl
set_option maxHeartbeats 400000 in
set_option maxRecDepth 100000 in
theorem clone_nil (c : Nat) (w : World) : Calls Tryz.prog 37 #[.slice none 0 c] w fun e w' => e = .returned (.slice none 0 0) ∧ w = w' := by
  have hnil : ∀ W, (binOp .eql 29 (.slice none 0 c) (.slice none 0 0)).run Tryz.prog W = .ok (.bool true) W := fun W => by
    rw [Lib.run_eql_slice_nil W 29 5 none 0 c 0 0 Tryz.underlying29]; rfl
  go_enter Tryz.func37, Tryz.ntmps37
  go_wp2
  go_ret
  exact ⟨rfl, rfl⟩

set_option maxHeartbeats 400000 in
set_option maxRecDepth 100000 in
theorem clone_some (ad : Addr) (m c : Nat) (news : List Value) (w : World) (hl : news.length = m) (hnews : ∀ j u, news[j]? = some u → w.cell? (ad.add j) = some u) (h1 : ∀ u ∈ news, u.oneCell' = true) (hm : m ≤ 140737488355328) :
    Calls Tryz.prog 37 #[.slice (some ad) m c] w fun e w' => ∃ v', e = .returned v' ∧ w'.ownsRow w.heap.size 5 1 v' m news ∧ Only (fun _ => False) w w' ∧ v' ≠ .slice none 0 0 := by
  obtain ⟨i0, hi, hz0, hz1, hz2⟩ := info_parts Tryz.infoC8
  have hnil : ∀ W, (binOp .eql 29 (.slice (some ad) m c) (.slice none 0 0)).run Tryz.prog W = .ok (.bool false) W := fun W => by
    rw [Lib.run_eql_slice_nil W 29 5 (some ad) m c 0 0 Tryz.underlying29]; rfl
  have ho := World.ownsRow_made (base := w.heap.size) (e := 5) (size := 1) w #[] 0 (Nat.le_refl _) (by unfold maxLen; omega) rfl
  have HN : Hid (∀ j u, news[j]? = some u → w.cell? (ad.add j) = some u) := hnews
  clear hnews
  go_enter Tryz.func37, Tryz.ntmps37
  go_wp2_with (at_builtin; refine wpList_append_own_at _ rfl _ _ _ rfl w.heap.size 5 i0 (.int .u8 0) 1 1 Tryz.underlying29 hi hz0 hz1 hz2 rfl (by omega) (.slice (some ⟨w.heap.size, 0, none⟩) 0 0) 0 [] rfl ho ad m c news rfl ?c0 ?c1 h1 ?c3 ?c4 ?c5 ?_)
  case c0 => omega
  case c1 =>
    intro j u hu
    have h0 := HN.out j u hu
    rw [World.cell?_of_block (Below.heap_alloc w _ _ (World.block_lt_of_cell? w _ h0))]; exact h0
  case c3 => unfold maxLen; omega
  case c4 => omega
  case c5 => simp
  intro v' w1 hown1 hgrow hnn hat
  have FIN : Hid (w1.ownsRow w.heap.size 5 1 v' m news ∧ Only (fun _ => False) w w1 ∧ v' ≠ .slice none 0 0) := by
    refine ⟨by simpa using hown1, ((Only.refl _ _).alloc _).grown hgrow (fun k hk e => ?_), hnn⟩
    simp [Value.ownBlock] at e
    omega
  clear hown1 hgrow hnn hat ho
  go_wp2
  go_ret
  exact ⟨v', rfl, FIN.out⟩

/-- A COPY of a slice of bytes: new memory, the same bytes. -/
theorem clone_bs (v : Value) (xs : List Int) (w : World) (h : Bs .u8 w v xs) (hm : xs.length ≤ 140737488355328) :
    Calls Tryz.prog 37 #[v] w fun e w' => ∃ v', e = .returned v' ∧ w'.ownsRow w.heap.size 5 1 v' xs.length (xs.map (Value.int .u8)) ∧ Only (fun _ => False) w w' := by
  obtain ⟨ao, cap, rfl, hc, hr⟩ := h
  cases ao with
  | none =>
    have hx : xs = [] := by
      cases xs with
      | nil => rfl
      | cons a t => obtain ⟨b, off, h, _⟩ := hr (by simp); cases h
    subst hx
    refine (clone_nil cap w).mono ?_
    rintro e w' ⟨rfl, rfl⟩
    exact ⟨_, rfl, World.ownsRow_nil _ _ _ _, Only.refl _ _⟩
  | some ad =>
    refine (clone_some ad xs.length cap (xs.map (Value.int .u8)) w (by simp) ?_ (oneCell_ints _ _) hm).mono ?_
    · intro j u hu
      have hj : j < xs.length := by
        have := (List.getElem?_eq_some_iff.1 hu).1
        simpa using this
      obtain ⟨b, off, hb, hcell⟩ := hr (by intro h; subst h; simp at hj)
      cases hb
      have hadd : (⟨b, off, none⟩ : Addr).add j = ⟨b, off + j, none⟩ := by unfold Addr.add; split <;> simp_all
      rw [hadd, hcell j hj]
      rw [← hu]
      simp [List.getElem?_eq_getElem hj]
    · rintro e w' ⟨v', rfl, h1, h2, _⟩
      exact ⟨v', rfl, h1, h2⟩

end Go.Proofs.YthapipgaohlgdabGreatDoor

/- Contracts of package bits: Len and Bytes of a writer. -/
namespace Go.Proofs.YthapipgaohlgdabGreatDoor
open Go.RowKit

set_option maxHeartbeats 400000 in
set_option maxRecDepth 100000 in
theorem bytes_nil (w : World) : Calls Tryz.prog 84 #[.pointer none] w fun e w' => e = .returned (.slice none 0 0) ∧ w = w' := by
  go_enter Tryz.func84, Tryz.ntmps84
  go_wp2
  go_ret
  exact ⟨rfl, rfl⟩

def bytesI (l : List Bool) : List Int := (List.range (nb l)).map fun j => (byteAt l j : Int)
theorem bytesI_vals (l : List Bool) : (bytesI l).map (Value.int .u8) = byteVals l := by simp [bytesI, byteVals, List.map_map, Function.comp_def]
theorem bytesI_length (l : List Bool) : (bytesI l).length = nb l := by simp [bytesI]
theorem WrAt.bs {T E : TypeId} {w : World} {lo B : Nat} {v : Value} {l : List Bool} (h : WrAt T E w lo B v l) : Bs .u8 w v (bytesI l) :=
  Bs.of_own (by rw [bytesI_vals, bytesI_length]; exact h.own)

set_option maxHeartbeats 400000 in
set_option maxRecDepth 100000 in
/-- THE WRITER's BYTES: new memory; the writer stands. -/
theorem bytes_wr {w : World} {lo B : Nat} {v : Value} {l : List Bool} (h : WrAt 112 5 w lo B v l) (hl : l.length ≤ 1000000000000) :
    Calls Tryz.prog 84 #[.pointer (some ⟨B, 0, none⟩)] w fun e w' => ∃ v', e = .returned v' ∧ w'.ownsRow w.heap.size 5 1 v' (bytesI l).length ((bytesI l).map (Value.int .u8)) ∧ Only (fun _ => False) w w' := by
  obtain ⟨c0, c1, f0, f1⟩ := two_cells h.cell
  have HB : Hid (Bs .u8 w v (bytesI l)) := h.bs
  have hle : (bytesI l).length ≤ 140737488355328 := by rw [bytesI_length]; unfold nb; omega
  clear h
  go_enter Tryz.func84, Tryz.ntmps84
  go_wp2_with (go_at_call 37; refine (clone_bs v (bytesI l) _ HB.out hle).mono ?_; rintro e w' ⟨v', rfl, h1, h2⟩)
  go_ret
  exact ⟨v', rfl, h1, h2⟩

theorem WrAt.foot_ge {T E : TypeId} {w : World} {lo B : Nat} {v : Value} {l : List Bool} (h : WrAt T E w lo B v l) {N : Nat} (hB : N ≤ B) : ∀ k, Foot B v k → N ≤ k := by
  intro k hk
  rcases hk with rfl | hk
  · exact hB
  · have := (h.own.lt k hk).1; have := h.lt; omega
theorem own_one {w : World} {lo : Nat} {v : Value} {x : Int} (h : w.ownsRow lo 5 1 v 1 [.int .u8 x]) : ∃ g cap, v = .slice (some ⟨g, 0, none⟩) 1 cap ∧ lo ≤ g ∧ w.cell? ⟨g, 0, none⟩ = some (.int .u8 x) ∧ w.frozen? ⟨g, 0, none⟩ = false ∧ 1 ≤ cap := by
  obtain ⟨g, cap, rfl, hlo, _⟩ := h.form (by omega)
  refine ⟨g, cap, rfl, hlo, ?_, h.frozenAt 0, ?_⟩
  · rw [h.cellAt 0 (by omega)]; rfl
  · rcases h.2 with ⟨h', _⟩ | ⟨_, _, _, h', _, _, hc, _⟩
    · cases h'
    · cases h'; exact hc

end Go.Proofs.YthapipgaohlgdabGreatDoor

/- Contracts of package bits: the reader. -/
namespace Go.Proofs.YthapipgaohlgdabGreatDoor
open Go.RowKit


/-- the bit at place i of bytes -/
def bitB (ys : List Int) (i : Nat) : Bool := ((ys.getD (i / 8) 0).toNat).testBit (7 - i % 8)
def allBits (ys : List Int) : List Bool := (List.range (8 * ys.length)).map (bitB ys)
def bnum (l : List Bool) : Nat := l.foldl (fun a b => 2 * a + b.toNat) 0
theorem bnum_snoc (l : List Bool) (b : Bool) : bnum (l ++ [b]) = 2 * bnum l + b.toNat := by simp [bnum]
theorem bnum_lt (l : List Bool) : bnum l < 2 ^ l.length := by
  induction h : l.length generalizing l with
  | zero => have : l = [] := List.eq_nil_of_length_eq_zero h
            subst this; simp [bnum]
  | succ n ih =>
    have hne : l ≠ [] := by intro h0; subst h0; simp at h
    obtain ⟨t, b, rfl⟩ : ∃ t b, l = t ++ [b] := ⟨l.dropLast, l.getLast hne, (List.dropLast_concat_getLast hne).symm⟩
    have := ih t (by simp at h; omega)
    rw [bnum_snoc, Nat.pow_succ]
    have := bool_le b
    omega
theorem allBits_length (ys : List Int) : (allBits ys).length = 8 * ys.length := by simp [allBits]
theorem allBits_get (ys : List Int) (i : Nat) (h : i < 8 * ys.length) : (allBits ys)[i]? = some (bitB ys i) := by simp [allBits, h]

/-- a bit reader in memory: the struct lies at block R, its slice is v, which reads as the bytes ys; p bits are read. -/
structure RdAt (T : TypeId) (w : World) (R : Nat) (v : Value) (ys : List Int) (p : Nat) : Prop where
  bs : Bs .u8 w v ys
  rng : ∀ y ∈ ys, 0 ≤ y ∧ y ≤ 255
  cell : w.heap[R]? = some (.cells #[v, .int .i64 p] T (0, 0))
  ap : v.ownBlock ≠ some R
  le : p ≤ 8 * ys.length
  len : ys.length ≤ 1000000000000
theorem RdAt.keep {T : TypeId} {w w' : World} {R : Nat} {v : Value} {ys : List Int} {p : Nat} (h : RdAt T w R v ys p) {S : Nat → Prop} (ho : Only S w w') (hR : ¬ S R) (hv : ∀ k, v.ownBlock = some k → ¬ S k) : RdAt T w' R v ys p :=
  ⟨h.bs.keep ho hv, h.rng, ho.heap h.cell hR, h.ap, h.le, h.len⟩
theorem RdAt.form {T : TypeId} {w : World} {R : Nat} {v : Value} {ys : List Int} {p : Nat} (h : RdAt T w R v ys p) : ∃ ao cap, v = .slice ao ys.length cap := by
  obtain ⟨ao, cap, rfl, _⟩ := h.bs
  exact ⟨ao, cap, rfl⟩

set_option maxHeartbeats 400000 in
set_option maxRecDepth 100000 in
theorem bitAt_any (R g off m cap : Nat) (y q : Int) (w : World) (hq : 0 ≤ q) (hq2 : q ≤ 1000000000000000)
    (h0 : w.cell? ⟨R, 0, none⟩ = some (.slice (some ⟨g, off, none⟩) m cap)) (hi : q / 8 < (m : Int)) (hx : w.cell? ⟨g, off + q.toNat / 8, none⟩ = some (.int .u8 y)) :
    Calls Tryz.prog 129 #[.pointer (some ⟨R, 0, none⟩), .int .i64 q] w fun e w' => e = .returned (.int .u8 (bits .and .u8 (y / 2 ^ (7 - q.toNat % 8)) 1)) ∧ w = w' := by
  obtain ⟨n, rfl⟩ := Int.eq_ofNat_of_zero_le hq
  simp only [Int.toNat_natCast] at hx
  have hi0 : (0 : Int) ≤ (n : Int) / 8 := by omega
  go_enter Tryz.func129, Tryz.ntmps129
  go_wp2
  go_ret
  exact ⟨rfl, rfl⟩

theorem bit8_of (y : Int) (j : Nat) (y0 : 0 ≤ y) (y1 : y ≤ 255) : bits .and .u8 (y / 2 ^ j) 1 = ((y.toNat.testBit j).toNat : Int) := by
  obtain ⟨m, rfl⟩ := Int.eq_ofNat_of_zero_le y0
  have e : ((m : Int) / 2 ^ j) = ((m / 2 ^ j : Nat) : Int) := by simp
  have h := Nat.div_le_self m (2 ^ j)
  rw [e, show (1 : Int) = ((1 : Nat) : Int) from rfl, u8_and_nat _ _ (by omega) (by omega), nat_mask1, Int.toNat_natCast, Nat.testBit_eq_decide_div_mod_eq]
  by_cases h1 : m / 2 ^ j % 2 = 1
  · simp [h1]
  · have : m / 2 ^ j % 2 = 0 := by omega
    simp [this]

/-- A BIT of the reader's bytes. -/
theorem bitAt_rd {w : World} {R : Nat} {v : Value} {ys : List Int} {p : Nat} (h : RdAt 152 w R v ys p) (q : Int) (q0 : 0 ≤ q) (q1 : q < 8 * (ys.length : Int)) :
    Calls Tryz.prog 129 #[.pointer (some ⟨R, 0, none⟩), .int .i64 q] w fun e w' => e = .returned (.int .u8 ((bitB ys q.toNat).toNat : Int)) ∧ w = w' := by
  have hne : ys ≠ [] := by intro h0; subst h0; simp at q1; omega
  obtain ⟨ao, cap, rfl, hcap, hr⟩ := h.bs
  obtain ⟨b, off, rfl, hcell⟩ := hr hne
  have hj : q.toNat / 8 < ys.length := by omega
  have hc := hcell (q.toNat / 8) hj
  have hy : 0 ≤ ys.getD (q.toNat / 8) 0 ∧ ys.getD (q.toNat / 8) 0 ≤ 255 := by
    refine h.rng _ ?_
    rw [List.getD_eq_getElem?_getD, List.getElem?_eq_getElem hj]; simp
  have hl := h.len
  refine (bitAt_any R b off ys.length cap (ys.getD (q.toNat / 8) 0) q w q0 (by omega) (two_cells h.cell).1 (by omega) hc).mono ?_
  rintro e w' ⟨rfl, rfl⟩
  refine ⟨ret_int ?_, rfl⟩
  rw [bit8_of _ _ hy.1 hy.2]; rfl

set_option maxHeartbeats 400000 in
set_option maxRecDepth 100000 in
theorem bleft_any (R m cap p : Nat) (ao : Option Addr) (w : World) (hm : m ≤ 140737488355328) (hp : p ≤ 8 * m)
    (h0 : w.cell? ⟨R, 0, none⟩ = some (.slice ao m cap)) (h1 : w.cell? ⟨R, 1, none⟩ = some (.int .i64 p)) :
    Calls Tryz.prog 123 #[.pointer (some ⟨R, 0, none⟩)] w fun e w' => e = .returned (.int .i64 (8 * (m : Int) - p)) ∧ Only (fun _ => False) w w' := by
  go_enter Tryz.func123, Tryz.ntmps123
  go_wp2
  go_quiet (fail)
  go_wp2
  go_ret
  exact ⟨rfl, (Only.refl _ _).drewN _⟩
theorem left_rd {w : World} {R : Nat} {v : Value} {ys : List Int} {p : Nat} (h : RdAt 152 w R v ys p) :
    Calls Tryz.prog 123 #[.pointer (some ⟨R, 0, none⟩)] w fun e w' => e = .returned (.int .i64 (8 * (ys.length : Int) - p)) ∧ Only (fun _ => False) w w' := by
  obtain ⟨ao, cap, rfl⟩ := h.form
  have hl := h.len
  exact bleft_any R ys.length cap p ao w (by omega) h.le (two_cells h.cell).1 (two_cells h.cell).2.1

set_option maxHeartbeats 400000 in
set_option maxRecDepth 100000 in
theorem get_width (R : Nat) (width : Int) (w : World) (h : width < 0 ∨ 64 < width) :
    Calls Tryz.prog 124 #[.pointer (some ⟨R, 0, none⟩), .int .i64 width] w fun e w' => e = .returned (.tuple #[.int .u64 0, .int .i64 1]) ∧ w = w' := by
  have H : Hid (width < 0 ∨ 64 < width) := h
  clear h
  go_enter Tryz.func124, Tryz.ntmps124
  go_wp2_with (go_at_call 108; refine (isWidth_no _ _ H.out).mono ?_; rintro e w' ⟨rfl, rfl⟩)
  go_ret2
  exact ⟨rfl, rfl⟩

set_option maxHeartbeats 400000 in
set_option maxRecDepth 100000 in
theorem get_short {w : World} {R : Nat} {v : Value} {ys : List Int} {p : Nat} (h : RdAt 152 w R v ys p) (width : Int) (h0 : 0 ≤ width) (h1 : width ≤ 64) (hs : 8 * (ys.length : Int) - p < width) :
    Calls Tryz.prog 124 #[.pointer (some ⟨R, 0, none⟩), .int .i64 width] w fun e w' => e = .returned (.tuple #[.int .u64 0, .int .i64 2]) ∧ Only (fun _ => False) w w' := by
  have HR := hideIt h
  clear h
  go_enter Tryz.func124, Tryz.ntmps124
  go_wp2_with fail
  refine (isWidth_yes _ _ h0 h1).mono ?_
  rintro e w' ⟨rfl, rfl⟩
  go_wp2_with fail
  refine (left_rd HR.out).mono ?_
  rintro e w1 ⟨rfl, ho⟩
  go_wp2
  go_ret2
  exact ⟨rfl, ho⟩

theorem or_step (a : Nat) (b : Bool) (h : a ≤ 9223372036854775807) : bits .or .u64 ((a : Int) * 2) (IntKind.u64.wrap (b.toNat : Int)) = ((2 * a + b.toNat : Nat) : Int) := by
  have hb := bool_le b
  have e1 : IntKind.u64.wrap (b.toNat : Int) = ((b.toNat : Nat) : Int) := by rw [IntKind.wrap_u64]; omega
  have e2 : ((a : Int) * 2) = ((2 * a : Nat) : Int) := by omega
  rw [e1, e2, u64_or_nat _ _ (by omega) (by omega), nat_join 1 _ _ (by omega) (by omega)]
theorem take_step (ys : List Int) (p k : Nat) (h : p + k < 8 * ys.length) : ((allBits ys).drop p).take (k + 1) = ((allBits ys).drop p).take k ++ [bitB ys (p + k)] := by
  have hl : k < ((allBits ys).drop p).length := by rw [List.length_drop, allBits_length]; omega
  rw [List.take_succ_eq_append_getElem hl]
  congr 2
  have := allBits_get ys (p + k) h
  rw [List.getElem_drop]
  exact (List.getElem?_eq_some_iff.1 this).2
theorem bnum_63 (l : List Bool) (h : l.length ≤ 63) : bnum l ≤ 9223372036854775807 := by
  have h1 := bnum_lt l
  have h2 : 2 ^ l.length ≤ 2 ^ 63 := Nat.pow_le_pow_right (by omega) h
  omega
theorem RdAt.moved {w w' : World} {T : TypeId} {R : Nat} {v : Value} {ys : List Int} {p : Nat} (h : RdAt T w R v ys p) (q : Nat) (hq : q ≤ 8 * ys.length) (z : Int) (hz : z = (q : Int)) (e : w' = w.setCell ⟨R, 1, none⟩ (.int .i64 z)) :
    RdAt T w' R v ys q ∧ Only (fun k => k = R) w w' := by
  subst e; subst hz
  have ho : Only (fun k => k = R) w (w.setCell ⟨R, 1, none⟩ (.int .i64 (q : Int))) := Only.setCell (S := fun k => k = R) (p := ⟨R, 1, none⟩) (Only.refl _ _) (fun _ => rfl) _
  exact ⟨⟨h.bs.keep ho (fun k hk e => h.ap (by rw [← e]; exact hk)), h.rng, (heap_two h.cell _).2, h.ap, hq, h.len⟩, ho⟩

set_option maxHeartbeats 400000 in
set_option maxRecDepth 100000 in
/-- THE NEXT BITS, as a number. -/
theorem get_rd {w : World} {R : Nat} {v : Value} {ys : List Int} {p : Nat} (h : RdAt 152 w R v ys p) (width : Int) (h0 : 0 ≤ width) (h1 : width ≤ 64) (hs : (p : Int) + width ≤ 8 * (ys.length : Int)) :
    Calls Tryz.prog 124 #[.pointer (some ⟨R, 0, none⟩), .int .i64 width] w fun e w' => e = .returned (.tuple #[.int .u64 (bnum (((allBits ys).drop p).take width.toNat)), .int .i64 0]) ∧
      RdAt 152 w' R v ys (p + width.toNat) ∧ Only (fun k => k = R) w w' := by
  obtain ⟨n, rfl⟩ := Int.eq_ofNat_of_zero_le h0
  rw [Int.toNat_natCast]
  have HR := hideIt h
  have hp := h.le
  have hlen := h.len
  clear h
  go_enter Tryz.func124, Tryz.ntmps124
  go_wp2_with fail
  refine (isWidth_yes _ _ h0 h1).mono ?_
  rintro e w' ⟨rfl, rfl⟩
  go_wp2_with fail
  refine (left_rd HR.out).mono ?_
  rintro e w1 ⟨rfl, ho⟩
  have HR1 := hideIt (HR.out.keep ho (fun f => f) (fun _ _ f => f))
  obtain ⟨c0, c1, f0, f1⟩ := two_cells HR1.out.cell
  have HO := hideIt ho
  clear HR ho
  have hd : decide (8 * (ys.length : Int) - (p : Int) < (n : Int)) = false := by simp; omega
  go_wp2
  go_loop [6, 20] (fun a i => ∃ k : Nat, k ≤ n ∧ i = .int .i64 k ∧ a = .int .u64 (bnum (((allBits ys).drop p).take k))) (fun _ i => n - (intOf i).toNat)
  case atStart => exact ⟨0, Nat.zero_le _, rfl, rfl⟩
  case round =>
    obtain ⟨k, hk, rfl, rfl⟩ := hrel
    by_cases hlt : k < n
    · have hb : (bnum (((allBits ys).drop p).take k) : Int) ≤ 9223372036854775807 := by
        have := bnum_63 (((allBits ys).drop p).take k) (by rw [List.length_take]; omega)
        omega
      have HS := hideIt (or_step (bnum (((allBits ys).drop p).take k)) (bitB ys (p + k)) (by omega))
      go_wp2_with fail
      refine (bitAt_rd HR1.out _ (by omega) (by omega)).mono ?_
      rintro e wz ⟨rfl, rfl⟩
      go_wp2
      go_round
      case rel =>
        refine ⟨k + 1, by omega, by go_num, ?_⟩
        rw [HS.out, take_step ys p k (by omega), bnum_snoc]
      case measure => simp [intOf]; omega
    · go_wp2
      go_ret2
      have hkn : k = n := by omega
      subst hkn
      obtain ⟨m1, m2⟩ := HR1.out.moved (p + k) (by omega) ((p : Int) + k) (by omega) rfl
      exact ⟨rfl, m1, (HO.out.mono (T := fun k => k = R) (fun _ _ f => f.elim)).trans m2 (fun _ _ h => h)⟩

/-- what End says of the bits that are left -/
def bendV (l : List Bool) : Int := if 8 ≤ l.length ∨ true ∈ l then 3 else 0

set_option maxHeartbeats 400000 in
set_option maxRecDepth 100000 in
/-- A NEW READER: on a copy of the bytes. -/
theorem newReader_bs (v : Value) (ys : List Int) (w : World) (h : Bs .u8 w v ys) (hr : ∀ y ∈ ys, 0 ≤ y ∧ y ≤ 255) (hl : ys.length ≤ 1000000000000) :
    Calls Tryz.prog 105 #[v] w fun e w' => ∃ R v', e = .returned (.pointer (some ⟨R, 0, none⟩)) ∧ RdAt 152 w' R v' ys 0 ∧ Only (fun _ => False) w w' ∧ w.heap.size ≤ R ∧ R < w'.heap.size ∧ (∀ k, v'.ownBlock = some k → w.heap.size ≤ k ∧ k < w'.heap.size) := by
  have HB := hideIt h
  have HR := hideIt hr
  clear h hr
  go_enter Tryz.func105, Tryz.ntmps105
  go_wp2_with fail
  refine (clone_bs v ys _ HB.out (by omega)).mono ?_
  rintro e w1 ⟨v', rfl, hown, ho⟩
  have hbs := Bs.of_own hown
  have hlt := hown.lt
  obtain ⟨ao, cap, rfl, _⟩ := id hbs
  have HBS := hideIt hbs
  have HLT := hideIt hlt
  have HO := hideIt ho
  clear hown ho hbs hlt
  go_wp2
  go_ret
  have oa : Only (fun _ => False) w1 (w1.alloc (.cells #[.slice ao ys.length cap, .int .i64 0] 152)) := (Only.refl _ _).alloc _
  refine ⟨w1.heap.size, .slice ao ys.length cap, rfl, ⟨HBS.out.keep oa (fun _ _ f => f), HR.out, heap_alloc_new w1 _, ?_, Nat.zero_le _, hl⟩, HO.out.trans oa (fun _ _ f => f), HO.out.size, by simp, ?_⟩
  · intro e
    have := (HLT.out _ e).2
    omega
  · intro k hk
    have := HLT.out k hk
    simp
    omega
end Go.Proofs.YthapipgaohlgdabGreatDoor

/- Plain facts on bits and bytes. -/
namespace Go.Proofs.YthapipgaohlgdabGreatDoor
open Go.RowKit


theorem num_append (a b : List Bool) : bnum (a ++ b) = bnum a * 2 ^ b.length + bnum b := by
  induction h : b.length generalizing b with
  | zero => have : b = [] := List.eq_nil_of_length_eq_zero h
            subst this; simp [bnum]
  | succ n ih =>
    have hne : b ≠ [] := by intro h0; subst h0; simp at h
    obtain ⟨t, c, rfl⟩ : ∃ t c, b = t ++ [c] := ⟨b.dropLast, b.getLast hne, (List.dropLast_concat_getLast hne).symm⟩
    have hi := ih t (by simp at h; omega)
    rw [← List.append_assoc, bnum_snoc, bnum_snoc, hi, Nat.pow_succ, Nat.mul_add]
    have : 2 * (bnum a * 2 ^ n) = bnum a * (2 ^ n * 2) := by rw [Nat.mul_comm (2 ^ n) 2, Nat.mul_left_comm]
    omega
theorem bitsOf_succ (v n : Nat) : bitsOf v (n + 1) = bitsOf (v / 2) n ++ [v.testBit 0] := by
  apply List.ext_getElem?
  intro i
  rw [List.getElem?_append]
  simp only [bitsOf, List.length_map, List.length_range, List.getElem?_map]
  by_cases hi : i < n
  · rw [if_pos hi, List.getElem?_range (by omega), List.getElem?_range hi]
    simp only [Option.map_some]
    rw [show n + 1 - 1 - i = (n - 1 - i) + 1 by omega, Nat.testBit_succ]
  · rw [if_neg hi]
    by_cases h2 : i = n
    · subst h2; rw [List.getElem?_range (by omega)]; simp
    · rw [List.getElem?_eq_none (by simp; omega), List.getElem?_eq_none (by simp; omega)]; rfl
theorem num_bitsOf (v n : Nat) : bnum (bitsOf v n) = v % 2 ^ n := by
  induction n generalizing v with
  | zero => simp [bitsOf, bnum, Nat.mod_one]
  | succ n ih =>
    rw [bitsOf_succ, bnum_snoc, ih, Nat.pow_succ, Nat.mul_comm (2 ^ n) 2, Nat.mod_mul, Nat.testBit_zero]
    have : (decide (v % 2 = 1)).toNat = v % 2 := by
      rcases Nat.mod_two_eq_zero_or_one v with h | h <;> simp [h]
    omega
theorem bits_byte (ys : List Int) (i : Nat) (h : i < ys.length) : ((allBits ys).drop (8 * i)).take 8 = bitsOf (ys.getD i 0).toNat 8 := by
  apply List.ext_getElem?
  intro j
  by_cases hj : j < 8
  · rw [List.getElem?_take, if_pos hj, List.getElem?_drop, allBits_get ys _ (by omega)]
    simp only [bitsOf, List.getElem?_map, List.getElem?_range hj, Option.map_some, bitB]
    congr 2
    · congr 2; omega
    · omega
  · rw [List.getElem?_eq_none (by rw [List.length_take]; omega), List.getElem?_eq_none (by rw [bitsOf_length]; omega)]
theorem num_byte (ys : List Int) (i : Nat) (h : i < ys.length) (hr : ∀ y ∈ ys, 0 ≤ y ∧ y ≤ 255) : (bnum (((allBits ys).drop (8 * i)).take 8) : Int) = ys.getD i 0 := by
  rw [bits_byte ys i h, num_bitsOf]
  have hy : 0 ≤ ys.getD i 0 ∧ ys.getD i 0 ≤ 255 := by
    refine hr _ ?_
    rw [List.getD_eq_getElem?_getD, List.getElem?_eq_getElem h]; simp
  omega
theorem allBits_take (ys : List Int) (k : Nat) (h : k < ys.length) : (allBits ys).take (8 * (k + 1)) = (allBits ys).take (8 * k) ++ bitsOf (ys.getD k 0).toNat 8 := by
  rw [← bits_byte ys k h, show 8 * (k + 1) = 8 * k + 8 by omega, List.take_add]
theorem sum_bits : ∀ y : Fin 256, (y.val.testBit 7).toNat * 128 + (y.val.testBit 6).toNat * 64 + (y.val.testBit 5).toNat * 32 + (y.val.testBit 4).toNat * 16 + (y.val.testBit 3).toNat * 8 + (y.val.testBit 2).toNat * 4 + (y.val.testBit 1).toNat * 2 + (y.val.testBit 0).toNat = y.val := by decide +kernel
theorem getD_bits (ys : List Int) (j r : Nat) (hj : j < ys.length) (hr : r < 8) : (allBits ys).getD (8 * j + r) false = (ys.getD j 0).toNat.testBit (7 - r) := by
  rw [List.getD_eq_getElem?_getD, allBits_get ys _ (by omega)]
  simp only [Option.getD_some, bitB]
  congr 1
  · congr 2; omega
  · omega
theorem byteAt_all (ys : List Int) (j : Nat) (hj : j < ys.length) (hr : ∀ y ∈ ys, 0 ≤ y ∧ y ≤ 255) : (byteAt (allBits ys) j : Int) = ys.getD j 0 := by
  have hy : 0 ≤ ys.getD j 0 ∧ ys.getD j 0 ≤ 255 := by
    refine hr _ ?_
    rw [List.getD_eq_getElem?_getD, List.getElem?_eq_getElem hj]; simp
  have h := sum_bits ⟨(ys.getD j 0).toNat, by omega⟩
  have g0 := getD_bits ys j 0 hj (by omega)
  rw [Nat.add_zero] at g0
  unfold byteAt
  rw [g0, getD_bits ys j 1 hj (by omega), getD_bits ys j 2 hj (by omega), getD_bits ys j 3 hj (by omega), getD_bits ys j 4 hj (by omega), getD_bits ys j 5 hj (by omega), getD_bits ys j 6 hj (by omega), getD_bits ys j 7 hj (by omega)]
  simp only at h
  simp only [Nat.sub_zero, Nat.reduceSub]
  omega
theorem bytes_all (ys : List Int) (hr : ∀ y ∈ ys, 0 ≤ y ∧ y ≤ 255) : bytesI (allBits ys) = ys := by
  have hn : nb (allBits ys) = ys.length := by unfold nb; rw [allBits_length]; omega
  apply List.ext_getElem?
  intro i
  simp only [bytesI, hn, List.getElem?_map]
  by_cases hi : i < ys.length
  · rw [List.getElem?_range hi]
    simp only [Option.map_some]
    rw [byteAt_all ys i hi hr, List.getD_eq_getElem?_getD, List.getElem?_eq_getElem hi]
    simp
  · rw [List.getElem?_eq_none (by simp; omega), List.getElem?_eq_none (by omega)]; rfl
/-- bits that are written, read again: they, and what fills the last byte -/
theorem bits_back (l : List Bool) : allBits (bytesI l) = l ++ List.replicate (8 * nb l - l.length) false := by
  have hn : l.length ≤ 8 * nb l := by unfold nb; omega
  apply List.ext_getElem?
  intro i
  by_cases hi : i < 8 * nb l
  · rw [allBits_get _ _ (by rw [bytesI_length]; exact hi)]
    have hj : i / 8 < nb l := by omega
    have e : (l ++ List.replicate (8 * nb l - l.length) false)[i]? = some (l.getD i false) := by
      rw [List.getElem?_append]
      by_cases h1 : i < l.length
      · rw [if_pos h1, List.getD_eq_getElem?_getD, List.getElem?_eq_getElem h1]; rfl
      · rw [if_neg h1, List.getElem?_replicate, if_pos (by omega), getD_out l i (by omega)]
    rw [e]
    congr 1
    unfold bitB
    have e2 : (bytesI l).getD (i / 8) 0 = (byteAt l (i / 8) : Int) := by
      rw [List.getD_eq_getElem?_getD]; simp [bytesI, hj]
    rw [e2, Int.toNat_natCast]
    have key : ∀ (b0 b1 b2 b3 b4 b5 b6 b7 : Bool) (r : Fin 8), (b0.toNat * 128 + b1.toNat * 64 + b2.toNat * 32 + b3.toNat * 16 + b4.toNat * 8 + b5.toNat * 4 + b6.toNat * 2 + b7.toNat).testBit (7 - r.val) = [b0, b1, b2, b3, b4, b5, b6, b7].getD r.val false := by decide +kernel
    have hk := key (l.getD (8 * (i / 8)) false) (l.getD (8 * (i / 8) + 1) false) (l.getD (8 * (i / 8) + 2) false) (l.getD (8 * (i / 8) + 3) false) (l.getD (8 * (i / 8) + 4) false) (l.getD (8 * (i / 8) + 5) false) (l.getD (8 * (i / 8) + 6) false) (l.getD (8 * (i / 8) + 7) false) ⟨i % 8, by omega⟩
    simp only at hk
    unfold byteAt
    rw [hk]
    have hr : i % 8 = 0 ∨ i % 8 = 1 ∨ i % 8 = 2 ∨ i % 8 = 3 ∨ i % 8 = 4 ∨ i % 8 = 5 ∨ i % 8 = 6 ∨ i % 8 = 7 := by omega
    rcases hr with h | h | h | h | h | h | h | h <;> rw [h] <;> simp only [List.getD_cons_zero, List.getD_cons_succ] <;> congr 1 <;> omega
  · rw [List.getElem?_eq_none (by rw [allBits_length, bytesI_length]; omega), List.getElem?_eq_none (by simp; omega)]
theorem bytesI_rng (l : List Bool) : ∀ y ∈ bytesI l, 0 ≤ y ∧ y ≤ 255 := by
  intro y hy
  simp only [bytesI, List.mem_map] at hy
  obtain ⟨j, _, rfl⟩ := hy
  have := byteAt_lt l j
  omega
theorem wid_8 (y : Int) (h0 : 0 ≤ y) (h1 : y ≤ 255) : (wid y.toNat : Int) ≤ 8 := by
  have := wid_256 y.toNat (by omega); omega
theorem num_56 (l : List Bool) (h : l.length ≤ 56) : (bnum l : Int) ≤ 72057594037927935 := by
  have h1 := bnum_lt l
  have h2 : 2 ^ l.length ≤ 2 ^ 56 := Nat.pow_le_pow_right (by omega) h
  omega
theorem bnum_step (ys : List Int) (k : Nat) (h : k < ys.length) (hr : ∀ y ∈ ys, 0 ≤ y ∧ y ≤ 255) : (bnum ((allBits ys).take (8 * (k + 1))) : Int) = bnum ((allBits ys).take (8 * k)) * 256 + ys.getD k 0 := by
  have hb := num_byte ys k h hr
  rw [bits_byte ys k h] at hb
  rw [allBits_take ys k h, num_append, bitsOf_length]
  omega

end Go.Proofs.YthapipgaohlgdabGreatDoor

/- Contracts of the reference for bits: Of, Get, End. -/
namespace Go.Proofs.YthapipgaohlgdabGreatDoor
open Go.RowKit


theorem Tryz.info3 : (Tryz.prog.info? 3).map (fun i => (i.zero, i.size, i.bytes)) = some (some (.int .i64 0), 1, 8) := by kernel_rfl

/-- bits as numbers 0 and 1 -/
def bitsI (l : List Bool) : List Int := l.map fun b => (b.toNat : Int)
theorem bitsI_length (l : List Bool) : (bitsI l).length = l.length := by simp [bitsI]
theorem bitsI_getD (l : List Bool) (j : Nat) : (bitsI l).getD j 0 = ((l.getD j false).toNat : Int) := by
  simp only [bitsI, List.getD_eq_getElem?_getD, List.getElem?_map]
  cases l[j]? <;> rfl

theorem bitsI_drop (l : List Bool) (n : Nat) : bitsI (l.drop n) = (bitsI l).drop n := by simp [bitsI, List.map_drop]

theorem add_step (a : Nat) (b : Bool) (h : a ≤ 9223372036854775807) : 2 * a + b.toNat ≤ 18446744073709551615 := by
  have := bool_le b; omega

theorem of_step (ys : List Int) (k r : Nat) (hk : k < ys.length) (hr : r < 8) : (allBits ys).take (8 * k + r + 1) = (allBits ys).take (8 * k + r) ++ [(ys.getD k 0).toNat.testBit (7 - r)] := by
  have hl : 8 * k + r < (allBits ys).length := by rw [allBits_length]; omega
  rw [List.take_succ_eq_append_getElem hl]
  congr 2
  have h1 := getD_bits ys k r hk hr
  rw [List.getD_eq_getElem?_getD, List.getElem?_eq_getElem hl] at h1
  simpa using h1
theorem bitsI_vals_snoc (l : List Bool) (b : Bool) : (bitsI (l ++ [b])).map (Value.int .i64) = (bitsI l).map (Value.int .i64) ++ [.int .i64 (b.toNat : Int)] := by simp [bitsI]

end Go.Proofs.YthapipgaohlgdabGreatDoor

/- A slice of numbers with widths, as the walks are told of it; what a script of them writes. -/
namespace Go.Proofs.YthapipgaohlgdabGreatDoor
open Go.RowKit


def Its (w : World) (v : Value) (its : List (Int × Int)) : Prop :=
  ∃ ao cap, v = .slice ao its.length cap ∧ its.length ≤ cap ∧ (its ≠ [] → ∃ b off, ao = some ⟨b, off, none⟩ ∧ ∀ j, j < its.length →
    w.cell? ⟨b, off + j * 2, none⟩ = some (.int .u64 (its.getD j (0, 0)).1) ∧ w.cell? ⟨b, off + j * 2 + 1, none⟩ = some (.int .i64 (its.getD j (0, 0)).2))
theorem Its.at {w : World} {v : Value} {its : List (Int × Int)} (h : Its w v its) (j : Nat) (hj : j < its.length) : ∃ b off cap, v = .slice (some ⟨b, off, none⟩) its.length cap ∧ b < w.heap.size ∧
    w.cell? ⟨b, off + j * 2, none⟩ = some (.int .u64 (its.getD j (0, 0)).1) ∧ w.cell? ⟨b, off + j * 2 + 1, none⟩ = some (.int .i64 (its.getD j (0, 0)).2) := by
  obtain ⟨ao, cap, rfl, hc, hr⟩ := h
  obtain ⟨b, off, rfl, hcell⟩ := hr (by intro h0; subst h0; simp at hj)
  exact ⟨b, off, cap, rfl, World.block_lt_of_cell? w _ (hcell j hj).1, hcell j hj⟩

/-- the bits of one number with its width; none where it is refused -/
def fits (x : Int × Int) : Prop := 0 ≤ x.2 ∧ x.2 ≤ 64 ∧ (wid x.1.toNat : Int) ≤ x.2
def pb (x : Int × Int) : List Bool := if 0 ≤ x.2 ∧ x.2 ≤ 64 ∧ (wid x.1.toNat : Int) ≤ x.2 then bitsOf x.1.toNat x.2.toNat else []
def allP (its : List (Int × Int)) : List Bool := its.flatMap pb
theorem allP_take (its : List (Int × Int)) (k : Nat) (h : k < its.length) : allP (its.take (k + 1)) = allP (its.take k) ++ pb (its.getD k (0, 0)) := by
  rw [List.take_succ_eq_append_getElem h, List.getD_eq_getElem?_getD, List.getElem?_eq_getElem h]
  unfold allP
  rw [List.flatMap_append, List.flatMap_singleton]; rfl
theorem pb_length (x : Int × Int) : (pb x).length ≤ 64 := by
  unfold pb
  split
  · rw [bitsOf_length]; omega
  · simp
theorem allP_length (its : List (Int × Int)) : (allP its).length ≤ 64 * its.length := by
  induction its with
  | nil => simp [allP]
  | cons a t ih =>
    have := pb_length a
    simp only [allP, List.flatMap_cons, List.length_append, List.length_cons] at ih ⊢
    omega

/-- PUT, whatever the number and the width: its bits, or nothing and ErrArg. -/
theorem put_any {w : World} {lo B : Nat} {v : Value} {l : List Bool} (h : WrAt 112 5 w lo B v l) (x width : Int) (x0 : 0 ≤ x) (x1 : x ≤ 18446744073709551615) (hl : l.length ≤ 1000000000) :
    Calls Tryz.prog 83 #[.pointer (some ⟨B, 0, none⟩), .int .u64 x, .int .i64 width] w fun e w' => ∃ z, e = .returned (.int .i64 z) ∧ Hid (z = if 0 ≤ width ∧ width ≤ 64 ∧ (wid x.toNat : Int) ≤ width then 0 else 1) ∧
      ∃ v', WrAt 112 5 w' lo B v' (l ++ pb (x, width)) ∧ Only (Foot B v) w w' ∧ Stays w v v' := by
  by_cases hf : 0 ≤ width ∧ width ≤ 64 ∧ (wid x.toNat : Int) ≤ width
  · refine (put_wr h x width hf.1 hf.2.1 x0 x1 hf.2.2 hl).mono ?_
    rintro e w' ⟨rfl, v', h1, h2, h3⟩
    refine ⟨0, rfl, by simp only [Hid]; rw [if_pos hf], v', ?_, h2, h3⟩
    have e : pb (x, width) = bitsOf x.toNat width.toNat := by unfold pb; rw [if_pos hf]
    rw [e]; exact h1
  · have e : pb (x, width) = [] := by unfold pb; rw [if_neg hf]
    rw [if_neg hf, e, List.append_nil]
    by_cases hw : width < 0 ∨ 64 < width
    · refine (put_width B x width w hw).mono ?_
      rintro e w' ⟨rfl, rfl⟩
      exact ⟨1, rfl, rfl, v, h, Only.refl _ _, Stays.refl _ _⟩
    · refine (put_big B x width w (by omega) (by omega) x0 x1 (by omega)).mono ?_
      rintro e w' ⟨rfl, rfl⟩
      exact ⟨1, rfl, rfl, v, h, Only.refl _ _, Stays.refl _ _⟩


theorem allP_split (its : List (Int × Int)) (k : Nat) : allP its = allP (its.take k) ++ allP (its.drop k) := by
  unfold allP
  rw [← List.flatMap_append, List.take_append_drop]
theorem back_split (its : List (Int × Int)) (j : Nat) (x y : Int) (hxy : allP (its.take (j + 1)) = allP (its.take j) ++ pb (x, y)) : allP its = allP (its.take j) ++ (pb (x, y) ++ allP (its.drop (j + 1))) := by
  rw [allP_split its (j + 1), hxy, List.append_assoc]
theorem back_num (its : List (Int × Int)) (j : Nat) (x y : Int) (hxy : allP (its.take (j + 1)) = allP (its.take j) ++ pb (x, y)) (hp : pb (x, y) = bitsOf x.toNat y.toNat) (x0 : 0 ≤ x) (hw : (wid x.toNat : Int) ≤ y) :
    (bnum (((allBits (bytesI (allP its))).drop (allP (its.take j)).length).take y.toNat) : Int) = x ∧ ((allP (its.take j)).length : Int) + y ≤ 8 * ((bytesI (allP its)).length : Int) := by
  have hs := back_split its j x y hxy
  have hl : (allP its).length ≤ 8 * nb (allP its) := by unfold nb; omega
  have hy : 0 ≤ y := by omega
  have hlen : (allP its).length = (allP (its.take j)).length + (y.toNat + (allP (its.drop (j + 1))).length) := by
    have e := congrArg List.length hs
    rw [List.length_append, List.length_append, hp, bitsOf_length] at e
    exact e
  refine ⟨?_, by rw [bytesI_length]; omega⟩
  have e : ((allBits (bytesI (allP its))).drop (allP (its.take j)).length).take y.toNat = bitsOf x.toNat y.toNat := by
    rw [bits_back]
    generalize List.replicate (8 * nb (allP its) - (allP its).length) false = z
    rw [hs, hp, List.append_assoc, List.drop_left, List.append_assoc, List.take_append_of_le_length (by rw [bitsOf_length]; omega), List.take_of_length_le (by rw [bitsOf_length]; omega)]
  rw [e, num_bitsOf, Nat.mod_eq_of_lt ((wid_le_iff _ _).1 (by omega))]
  omega
theorem back_end (l : List Bool) : bendV ((allBits (bytesI l)).drop l.length) = 0 := by
  rw [bits_back, List.drop_left]
  unfold bendV
  rw [if_neg]
  intro h
  rcases h with h | h
  · rw [List.length_replicate] at h; unfold nb at h; omega
  · have := List.eq_of_mem_replicate h; simp at this

theorem width_q (v : Int) (w : World) (h0 : 0 ≤ v) (h1 : v ≤ 18446744073709551615) :
    Calls Tryz.prog 82 #[.int .u64 v] w fun e w' => e = .returned (.int .i64 (wid v.toNat)) ∧ w' = w :=
  (width_any v w h0 h1).mono fun _ _ ⟨a, b⟩ => ⟨a, b.symm⟩
end Go.Proofs.YthapipgaohlgdabGreatDoor

/- Contracts of the reference for bits: Width, Put. -/
namespace Go.Proofs.YthapipgaohlgdabGreatDoor
open Go.RowKit


theorem bits64_of (x : Int) (j : Nat) (x0 : 0 ≤ x) (x1 : x ≤ 18446744073709551615) : bits .and .u64 (x / 2 ^ j) 1 = ((x.toNat.testBit j).toNat : Int) := by
  obtain ⟨m, rfl⟩ := Int.eq_ofNat_of_zero_le x0
  have e : ((m : Int) / 2 ^ j) = ((m / 2 ^ j : Nat) : Int) := by simp
  have h := Nat.div_le_self m (2 ^ j)
  rw [e, show (1 : Int) = ((1 : Nat) : Int) from rfl, u64_and_nat _ _ (by omega) (by omega), nat_mask1, Int.toNat_natCast, Nat.testBit_eq_decide_div_mod_eq]
  by_cases h1 : m / 2 ^ j % 2 = 1
  · simp [h1]
  · have : m / 2 ^ j % 2 = 0 := by omega
    simp [this]

theorem bs_news {w : World} {ad : Addr} {m cap : Nat} {l : List Bool} (h : Bs .i64 w (.slice (some ad) m cap) (bitsI l)) : ∀ j u, ((bitsI l).map (Value.int .i64))[j]? = some u → w.cell? (ad.add j) = some u := by
  intro j u hu
  have hj : j < (bitsI l).length := by
    have := (List.getElem?_eq_some_iff.1 hu).1
    simpa using this
  obtain ⟨b, off, cap', e1, hc⟩ := h.at j hj
  simp at e1
  obtain ⟨rfl, _, _⟩ := e1
  have hadd : (⟨b, off, none⟩ : Addr).add j = ⟨b, off + j, none⟩ := by unfold Addr.add; split <;> simp_all
  rw [hadd, hc, ← hu]
  simp [List.getElem?_eq_getElem hj]
theorem put_fin (l : List Bool) (v n : Nat) : (l ++ bitsOf v n) = l ++ (bitsOf v n).take n := by
  rw [List.take_of_length_le (by rw [bitsOf_length]; omega)]

end Go.Proofs.YthapipgaohlgdabGreatDoor

/- Plain facts on bytes that are filled bit by bit. -/
namespace Go.Proofs.YthapipgaohlgdabGreatDoor
open Go.RowKit


/-- bytes as the reference makes them: the last one holds what there is so far -/
def pb8 (l : List Bool) : List Int := (List.range (nb l)).map fun j => (bnum ((l.drop (8 * j)).take 8) : Int)
theorem pb8_length (l : List Bool) : (pb8 l).length = nb l := by simp [pb8]
theorem pb8_get (l : List Bool) (i : Nat) : (pb8 l)[i]? = if i < nb l then some (bnum ((l.drop (8 * i)).take 8) : Int) else none := by
  unfold pb8
  by_cases h : i < nb l
  · simp [h]
  · simp [h]
theorem part_other (l : List Bool) (b : Bool) (j : Nat) (h : j < l.length / 8) : ((l ++ [b]).drop (8 * j)).take 8 = (l.drop (8 * j)).take 8 := by
  rw [List.drop_append_of_le_length (by omega), List.take_append_of_le_length (by rw [List.length_drop]; omega)]
theorem part_last (l : List Bool) : (l.drop (8 * (l.length / 8))).take 8 = l.drop (8 * (l.length / 8)) := List.take_of_length_le (by rw [List.length_drop]; omega)
theorem part_snoc (l : List Bool) (b : Bool) : ((l ++ [b]).drop (8 * (l.length / 8))).take 8 = l.drop (8 * (l.length / 8)) ++ [b] := by
  rw [List.drop_append_of_le_length (by omega), List.take_of_length_le]
  rw [List.length_append, List.length_drop]; simp; omega
/-- the last byte so far -/
def lastB (l : List Bool) : Nat := bnum (l.drop (8 * (l.length / 8)))
theorem lastB_lt (l : List Bool) : lastB l ≤ 127 := by
  unfold lastB
  have h1 := bnum_lt (l.drop (8 * (l.length / 8)))
  have h2 : (l.drop (8 * (l.length / 8))).length ≤ 7 := by rw [List.length_drop]; omega
  have h3 : 2 ^ (l.drop (8 * (l.length / 8))).length ≤ 2 ^ 7 := Nat.pow_le_pow_right (by omega) h2
  omega
theorem lastB_new (l : List Bool) (h : l.length % 8 = 0) : lastB l = 0 := by
  unfold lastB
  rw [List.drop_of_length_le (by omega)]; rfl
theorem pb8_set (l : List Bool) (b : Bool) : ((if l.length % 8 = 0 then pb8 l ++ [0] else pb8 l)).set (l.length / 8) ((lastB l : Int) * 2 + (b.toNat : Int)) = pb8 (l ++ [b]) := by
  have hv : (bnum (((l ++ [b]).drop (8 * (l.length / 8))).take 8) : Int) = (lastB l : Int) * 2 + (b.toNat : Int) := by
    rw [part_snoc, bnum_snoc]; unfold lastB; omega
  apply List.ext_getElem?
  intro i
  by_cases hr : l.length % 8 = 0
  · have hn : nb (l ++ [b]) = nb l + 1 := by rw [nb_snoc, if_pos hr]
    have hj : l.length / 8 = nb l := by unfold nb; omega
    rw [if_pos hr, List.getElem?_set, List.length_append, pb8_length, List.getElem?_append, pb8_get, pb8_get, pb8_length, hn]
    by_cases hi : l.length / 8 = i
    · subst hi; rw [if_pos rfl, if_pos (by simp; omega), if_pos (by omega), hv]
    · rw [if_neg hi]
      by_cases h1 : i < nb l
      · rw [if_pos h1, if_pos h1, if_pos (by omega), part_other l b i (by omega)]
      · rw [if_neg h1, if_neg (by omega), List.getElem?_eq_none (by simp; omega)]
  · have hn : nb (l ++ [b]) = nb l := by rw [nb_snoc, if_neg hr]
    have hj : l.length / 8 + 1 = nb l := by unfold nb; omega
    rw [if_neg hr, List.getElem?_set, pb8_length, pb8_get, pb8_get, hn]
    by_cases hi : l.length / 8 = i
    · subst hi; rw [if_pos rfl, if_pos (by omega), if_pos (by omega), hv]
    · rw [if_neg hi]
      by_cases h1 : i < nb l
      · rw [if_pos h1, if_pos h1, part_other l b i (by omega)]
      · rw [if_neg h1, if_neg h1]
theorem pb8_at (l : List Bool) (h : l.length % 8 ≠ 0) : (pb8 l)[l.length / 8]? = some (lastB l : Int) := by
  rw [pb8_get, if_pos (by unfold nb; omega), part_last]; rfl
theorem eight (l : List Bool) (j : Nat) (h : 8 * j + 8 ≤ l.length) : (l.drop (8 * j)).take 8 = [l.getD (8 * j) false, l.getD (8 * j + 1) false, l.getD (8 * j + 2) false, l.getD (8 * j + 3) false, l.getD (8 * j + 4) false, l.getD (8 * j + 5) false, l.getD (8 * j + 6) false, l.getD (8 * j + 7) false] := by
  have hg : ∀ i, i < 8 → ((l.drop (8 * j)).take 8)[i]? = some (l.getD (8 * j + i) false) := fun i hi => by
    rw [List.getElem?_take, if_pos hi, List.getElem?_drop, List.getD_eq_getElem?_getD, List.getElem?_eq_getElem (show 8 * j + i < l.length by omega)]; rfl
  apply List.ext_getElem?
  intro i
  by_cases hi : i < 8
  · rw [hg i hi]
    have hr : i = 0 ∨ i = 1 ∨ i = 2 ∨ i = 3 ∨ i = 4 ∨ i = 5 ∨ i = 6 ∨ i = 7 := by omega
    rcases hr with rfl | rfl | rfl | rfl | rfl | rfl | rfl | rfl <;> rfl
  · rw [List.getElem?_eq_none (by rw [List.length_take]; omega), List.getElem?_eq_none (by simp; omega)]
theorem pb8_full (l : List Bool) (h : l.length % 8 = 0) : pb8 l = bytesI l := by
  apply List.ext_getElem?
  intro i
  rw [pb8_get]
  by_cases hi : i < nb l
  · have h8 : 8 * i + 8 ≤ l.length := by unfold nb at hi; omega
    rw [if_pos hi, eight l i h8]
    simp only [bytesI, List.getElem?_map, List.getElem?_range hi, Option.map_some]
    congr 2
    simp only [bnum, List.foldl, byteAt]
    omega
  · rw [if_neg hi, List.getElem?_eq_none (by rw [bytesI_length]; omega)]
theorem getD_pad (l : List Bool) (t i : Nat) : (l ++ List.replicate t false).getD i false = l.getD i false := by
  rw [List.getD_eq_getElem?_getD, List.getD_eq_getElem?_getD, List.getElem?_append]
  by_cases h : i < l.length
  · rw [if_pos h]
  · rw [if_neg h, List.getElem?_replicate, List.getElem?_eq_none (show l.length ≤ i by omega)]
    split <;> rfl
theorem bytesI_pad (l : List Bool) (t : Nat) (h : nb (l ++ List.replicate t false) = nb l) : bytesI (l ++ List.replicate t false) = bytesI l := by
  unfold bytesI
  rw [h]
  apply List.map_congr_left
  intro j _
  simp only [byteAt, getD_pad]
theorem allBits_append (a b : List Int) : allBits (a ++ b) = allBits a ++ allBits b := by
  apply List.ext_getElem?
  intro i
  rw [List.getElem?_append, allBits_length]
  by_cases h : i < 8 * a.length
  · rw [if_pos h, allBits_get _ _ (by rw [List.length_append]; omega), allBits_get _ _ h]
    congr 1
    unfold bitB
    congr 2
    rw [List.getD_eq_getElem?_getD, List.getD_eq_getElem?_getD, List.getElem?_append, if_pos (by omega)]
  · rw [if_neg h]
    by_cases h2 : i < 8 * (a ++ b).length
    · rw [allBits_get _ _ h2, allBits_get _ _ (by rw [List.length_append] at h2; omega)]
      congr 1
      unfold bitB
      rw [List.getD_eq_getElem?_getD, List.getD_eq_getElem?_getD, List.getElem?_append, if_neg (by omega), show (i - 8 * a.length) / 8 = i / 8 - a.length by omega, show (i - 8 * a.length) % 8 = i % 8 by omega]
    · rw [List.getElem?_eq_none (by rw [allBits_length]; omega), List.getElem?_eq_none (by rw [allBits_length]; rw [List.length_append] at h2; omega)]

end Go.Proofs.YthapipgaohlgdabGreatDoor

/- Numbers in groups of seven bits, and what is read of bytes: plain facts, no program is named here. -/
namespace Go.Proofs.YthapipgaohlgdabGreatDoor

/-- v in groups of seven bits, the lowest first, at most f + 1 of them -/
def gsF : Nat → Nat → List Int
  | 0, v => [(v : Int)]
  | f + 1, v => if v < 128 then [(v : Int)] else ((v % 128 + 128 : Nat) : Int) :: gsF f (v / 128)
/-- v in groups of seven bits, the lowest first -/
def gs (v : Nat) : List Int := gsF v v
theorem gsF_more (f : Nat) : ∀ (g v : Nat), v ≤ f → v ≤ g → gsF f v = gsF g v := by
  induction f with
  | zero =>
    intro g v h _
    obtain rfl : v = 0 := by omega
    cases g with
    | zero => rfl
    | succ g => simp [gsF]
  | succ f ih =>
    intro g v h h2
    cases g with
    | zero =>
      obtain rfl : v = 0 := by omega
      simp [gsF]
    | succ g =>
      simp only [gsF]
      by_cases hv : v < 128
      · rw [if_pos hv, if_pos hv]
      · rw [if_neg hv, if_neg hv, ih g (v / 128) (by omega) (by omega)]
theorem gs_small {v : Nat} (h : v < 128) : gs v = [(v : Int)] := by
  unfold gs
  cases v with
  | zero => rfl
  | succ v => rw [gsF, if_pos h]
theorem gs_big {v : Nat} (h : 128 ≤ v) : gs v = ((v % 128 + 128 : Nat) : Int) :: gs (v / 128) := by
  unfold gs
  obtain ⟨u, rfl⟩ : ∃ u, v = u + 1 := ⟨v - 1, by omega⟩
  rw [gsF, if_neg (by omega), gsF_more u ((u + 1) / 128) ((u + 1) / 128) (by omega) (Nat.le_refl _)]
theorem gs_pos (v : Nat) : 0 < (gs v).length := by
  rcases Nat.lt_or_ge v 128 with h | h
  · rw [gs_small h]; simp
  · rw [gs_big h]; simp
theorem gs_ne (v : Nat) : gs v ≠ [] := by
  intro h
  have := gs_pos v
  rw [h] at this
  simp at this
theorem gs_len (v : Nat) : (gs v).length = (max (wid v) 1 + 6) / 7 := by
  induction v using Nat.strongRecOn with
  | _ v ih =>
    rcases Nat.lt_or_ge v 128 with h | h
    · rw [gs_small h]
      have : wid v ≤ 7 := (wid_le_iff v 7).2 (by simpa using h)
      simp
      omega
    · rw [gs_big h, List.length_cons, ih (v / 128) (by omega)]
      have h1 := wid_div v 7 (by simpa using h)
      rw [show (2 : Nat) ^ 7 = 128 from rfl] at h1
      have h2 : 0 < wid (v / 128) := by
        rcases Nat.eq_zero_or_pos (wid (v / 128)) with h0 | h0
        · have := (wid_le_iff (v / 128) 0).1 (by omega)
          simp at this
          omega
        · exact h0
      omega
theorem wid_mono {a b : Nat} (h : a ≤ b) : wid a ≤ wid b := (wid_le_iff a (wid b)).2 (Nat.lt_of_le_of_lt h ((wid_le_iff b (wid b)).1 (Nat.le_refl _)))
theorem gs_mono {a b : Nat} (h : a ≤ b) : (gs a).length ≤ (gs b).length := by
  have := wid_mono h
  rw [gs_len, gs_len]
  omega
theorem gs_le10 {v : Nat} (h : v < 18446744073709551616) : (gs v).length ≤ 10 := by
  have := wid_le64 v h
  rw [gs_len]
  omega
theorem gs_range (v : Nat) : ∀ x ∈ gs v, 0 ≤ x ∧ x ≤ 255 := by
  induction v using Nat.strongRecOn with
  | _ v ih =>
    rcases Nat.lt_or_ge v 128 with h | h
    · rw [gs_small h]
      intro x hx
      simp at hx
      omega
    · rw [gs_big h]
      intro x hx
      rcases List.mem_cons.1 hx with hx | hx
      · omega
      · exact ih (v / 128) (by omega) x hx

/-- what is read: the number, how many bytes, and the error -/
def rd (i : Nat) (acc : Int) : List Int → Int × Int × Int
  | [] => (0, 0, 2)
  | c :: t => if i = 9 ∧ 1 < c then (0, 0, 3) else if 128 ≤ c then rd (i + 1) (acc + c % 128 * 128 ^ i) t else if c = 0 ∧ 0 < i then (0, 0, 3) else (acc + c * 128 ^ i, (i : Int) + 1, 0)

theorem rd_nil (i : Nat) (acc : Int) : rd i acc [] = (0, 0, 2) := rfl
theorem rd_cons (i : Nat) (acc c : Int) (t : List Int) : rd i acc (c :: t) = if i = 9 ∧ 1 < c then (0, 0, 3) else if 128 ≤ c then rd (i + 1) (acc + c % 128 * 128 ^ i) t else if c = 0 ∧ 0 < i then (0, 0, 3) else (acc + c * 128 ^ i, (i : Int) + 1, 0) := rfl

theorem rd_take (xs : List Int) : ∀ (i n : Nat) (acc : Int), i ≤ 9 → 10 ≤ i + n → rd i acc (xs.take n) = rd i acc xs := by
  induction xs with
  | nil => intro i n acc _ _; simp
  | cons c t ih =>
    intro i n acc hi hn
    obtain ⟨m, rfl⟩ : ∃ m, n = m + 1 := ⟨n - 1, by omega⟩
    rw [List.take_succ_cons, rd_cons, rd_cons]
    by_cases h1 : i = 9 ∧ 1 < c
    · rw [if_pos h1, if_pos h1]
    · rw [if_neg h1, if_neg h1]
      by_cases h2 : 128 ≤ c
      · rw [if_pos h2, if_pos h2, ih (i + 1) m _ (by omega) (by omega)]
      · rw [if_neg h2, if_neg h2]

theorem pow_lt_of {i v : Nat} (hi : i ≤ 9) (hv : v < 2 ^ (64 - 7 * i)) (h : 128 ≤ v) : i ≤ 8 ∧ v / 128 < 2 ^ (64 - 7 * (i + 1)) := by
  have hi8 : i ≤ 8 := by
    rcases Nat.lt_or_ge i 9 with h9 | h9
    · omega
    · have : i = 9 := by omega
      subst this
      simp at hv
      omega
  refine ⟨hi8, ?_⟩
  have e : 2 ^ (64 - 7 * i) = 2 ^ (64 - 7 * (i + 1)) * 128 := by
    rw [show 64 - 7 * i = 64 - 7 * (i + 1) + 7 by omega, Nat.pow_add]
  omega

/-- READ OF WHAT WAS WRITTEN, whatever stands behind. -/
theorem rd_gs (t : List Int) (v : Nat) : ∀ (i : Nat) (acc : Int), i ≤ 9 → v < 2 ^ (64 - 7 * i) → (0 < i → 0 < v) → rd i acc (gs v ++ t) = (acc + v * 128 ^ i, (i : Int) + (gs v).length, 0) := by
  induction v using Nat.strongRecOn with
  | _ v ih =>
    intro i acc hi hv h0
    rcases Nat.lt_or_ge v 128 with h | h
    · rw [gs_small h, List.singleton_append, rd_cons, if_neg, if_neg (by omega), if_neg]
      · rfl
      · intro hc; have := h0 hc.2; omega
      · rintro ⟨rfl, hc⟩
        simp at hv
        omega
    · obtain ⟨hi8, hlt⟩ := pow_lt_of hi hv h
      rw [gs_big h, List.cons_append, rd_cons, if_neg (by omega), if_pos (by omega), ih (v / 128) (by omega) (i + 1) _ (by omega) hlt (by omega)]
      refine Prod.ext ?_ (Prod.ext ?_ rfl)
      · simp only
        rw [Int.pow_succ]
        have e : (((v % 128 + 128 : Nat) : Int)) % 128 = ((v % 128 : Nat) : Int) := by omega
        have e2 : (v : Int) = ((v % 128 : Nat) : Int) + 128 * ((v / 128 : Nat) : Int) := by omega
        rw [e]
        generalize (128 : Int) ^ i = p
        generalize ((v % 128 : Nat) : Int) = a at e2 ⊢
        generalize ((v / 128 : Nat) : Int) = b at e2 ⊢
        rw [e2, Int.add_mul, Int.mul_comm p 128, ← Int.mul_assoc, Int.mul_comm b 128, Int.add_assoc]
      · simp only [List.length_cons]
        omega

theorem rd_short (v : Nat) : ∀ (i k : Nat) (acc : Int), i ≤ 9 → v < 2 ^ (64 - 7 * i) → k < (gs v).length → rd i acc ((gs v).take k) = (0, 0, 2) := by
  induction v using Nat.strongRecOn with
  | _ v ih =>
    intro i k acc hi hv hk
    rcases Nat.lt_or_ge v 128 with h | h
    · rw [gs_small h] at hk ⊢
      simp at hk
      subst hk
      rfl
    · obtain ⟨hi8, hlt⟩ := pow_lt_of hi hv h
      rw [gs_big h] at hk ⊢
      cases k with
      | zero => rfl
      | succ k =>
        rw [List.take_succ_cons, rd_cons, if_neg (by omega), if_pos (by omega), ih (v / 128) (by omega) (i + 1) k _ (by omega) hlt (by simpa using hk)]

/-- WHAT IS READ WAS WRITTEN. -/
theorem rd_ok (xs : List Int) : ∀ (i : Nat) (acc r n : Int), i ≤ 9 → (∀ x ∈ xs, 0 ≤ x ∧ x ≤ 255) → rd i acc xs = (r, n, 0) →
    ∃ v k : Nat, r = acc + v * 128 ^ i ∧ n = (i : Int) + k ∧ 1 ≤ k ∧ k ≤ xs.length ∧ gs v = xs.take k ∧ (0 < i → 0 < v) ∧ v < 2 ^ (64 - 7 * i) := by
  induction xs with
  | nil => intro i acc r n _ _ h; simp [rd_nil] at h
  | cons c t ih =>
    intro i acc r n hi hx h
    have hc := hx c (by simp)
    rw [rd_cons] at h
    by_cases h1 : i = 9 ∧ 1 < c
    · rw [if_pos h1] at h; simp at h
    · rw [if_neg h1] at h
      by_cases h2 : 128 ≤ c
      · rw [if_pos h2] at h
        have hi8 : i + 1 ≤ 9 := by omega
        obtain ⟨v, k, hr, hn, hk1, hk2, hg, hv0, hv⟩ := ih (i + 1) _ r n hi8 (fun x hx' => hx x (by simp [hx'])) h
        have hvp := hv0 (by omega)
        refine ⟨c.toNat % 128 + 128 * v, k + 1, ?_, by omega, by omega, by simp; omega, ?_, fun _ => by omega, ?_⟩
        · rw [hr, Int.pow_succ]
          have e : ((c.toNat % 128 + 128 * v : Nat) : Int) = c % 128 + 128 * (v : Int) := by omega
          rw [e]
          generalize (128 : Int) ^ i = p
          rw [Int.add_mul, Int.mul_comm p 128, ← Int.mul_assoc, Int.mul_comm (v : Int) 128, Int.add_assoc]
        · rw [gs_big (by omega), List.take_succ_cons, ← hg]
          congr 1
          · omega
          · congr 1; omega
        · have e : 2 ^ (64 - 7 * i) = 2 ^ (64 - 7 * (i + 1)) * 128 := by
            rw [show 64 - 7 * i = 64 - 7 * (i + 1) + 7 by omega, Nat.pow_add]
          omega
      · rw [if_neg h2] at h
        by_cases h3 : c = 0 ∧ 0 < i
        · rw [if_pos h3] at h; simp at h
        · rw [if_neg h3] at h
          simp only [Prod.mk.injEq] at h
          refine ⟨c.toNat, 1, ?_, by omega, by omega, by simp, ?_, fun _ => by omega, ?_⟩
          · rw [← h.1, Int.toNat_of_nonneg hc.1]
          · rw [gs_small (by omega)]
            simp [Int.toNat_of_nonneg hc.1]
          · by_cases h9 : i = 9
            · subst h9; simp; omega
            · have : 2 ^ 7 ≤ 2 ^ (64 - 7 * i) := Nat.pow_le_pow_right (by omega) (by omega)
              have : (2 : Nat) ^ 7 = 128 := rfl
              omega

theorem rd_err (xs : List Int) : ∀ (i : Nat) (acc : Int), (rd i acc xs).2.2 = 0 ∨ ((rd i acc xs).1 = 0 ∧ (rd i acc xs).2.1 = 0 ∧ ((rd i acc xs).2.2 = 2 ∨ (rd i acc xs).2.2 = 3)) := by
  induction xs with
  | nil => intro i acc; right; simp [rd_nil]
  | cons c t ih =>
    intro i acc
    rw [rd_cons]
    by_cases h1 : i = 9 ∧ 1 < c
    · rw [if_pos h1]; right; simp
    · rw [if_neg h1]
      by_cases h2 : 128 ≤ c
      · rw [if_pos h2]; exact ih _ _
      · rw [if_neg h2]
        by_cases h3 : c = 0 ∧ 0 < i
        · rw [if_pos h3]; right; simp
        · rw [if_neg h3]; left; rfl

/-- how the numbers stand one behind the other -/
def allG (l : List Int) : List Int := l.flatMap fun x => gs x.toNat
theorem allG_take (l : List Int) (k : Nat) (h : k < l.length) : allG (l.take (k + 1)) = allG (l.take k) ++ gs (l.getD k 0).toNat := by
  rw [List.take_succ_eq_append_getElem h, List.getD_eq_getElem?_getD, List.getElem?_eq_getElem h]
  unfold allG
  rw [List.flatMap_append, List.flatMap_singleton]; rfl
theorem allG_drop (l : List Int) (k : Nat) (h : k < l.length) : allG (l.drop k) = gs (l.getD k 0).toNat ++ allG (l.drop (k + 1)) := by
  rw [List.drop_eq_getElem_cons h, List.getD_eq_getElem?_getD, List.getElem?_eq_getElem h]
  rfl
theorem allG_len (l : List Int) (h : ∀ x ∈ l, 0 ≤ x ∧ x ≤ 18446744073709551615) : (allG l).length ≤ 10 * l.length := by
  induction l with
  | nil => simp [allG]
  | cons a t ih =>
    have ha := h a (by simp)
    have h1 := gs_le10 (v := a.toNat) (by omega)
    have h2 := ih (fun x hx => h x (by simp [hx]))
    simp only [allG, List.flatMap_cons, List.length_append, List.length_cons] at h2 ⊢
    omega

/-! signs -/
def zig (n : Int) : Int := if 0 ≤ n then 2 * n else -2 * n - 1
def zag (v : Int) : Int := if v % 2 = 0 then v / 2 else -(v / 2) - 1
theorem zag_zig (n : Int) : zag (zig n) = n := by
  unfold zag zig
  split <;> split <;> omega
theorem zig_zag (v : Int) (h : 0 ≤ v) : zig (zag v) = v := by
  unfold zag zig
  split <;> split <;> omega
theorem zig_bounds (n : Int) (h0 : -9223372036854775808 ≤ n) (h1 : n ≤ 9223372036854775807) : 0 ≤ zig n ∧ zig n ≤ 18446744073709551615 := by
  unfold zig; split <;> omega
theorem zag_bounds (v : Int) (h0 : 0 ≤ v) (h1 : v ≤ 18446744073709551615) : -9223372036854775808 ≤ zag v ∧ zag v ≤ 9223372036854775807 := by
  unfold zag; split <;> omega

theorem allG_range (l : List Int) : ∀ x ∈ allG l, 0 ≤ x ∧ x ≤ 255 := by
  intro x hx
  simp only [allG, List.mem_flatMap] at hx
  obtain ⟨y, _, hy⟩ := hx
  exact gs_range _ x hy
theorem allG_le (l : List Int) (k : Nat) (h : ∀ x ∈ l, 0 ≤ x ∧ x ≤ 18446744073709551615) : (allG (l.take k)).length ≤ 10 * l.length := by
  have h1 := allG_len (l.take k) (fun x hx => h x (List.mem_of_mem_take hx))
  have h2 : (l.take k).length ≤ l.length := by rw [List.length_take]; omega
  omega

end Go.Proofs.YthapipgaohlgdabGreatDoor
