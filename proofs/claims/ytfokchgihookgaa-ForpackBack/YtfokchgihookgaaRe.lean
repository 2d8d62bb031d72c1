/- Package forpack's read: the numbers as they come. -/
import Derived.Test.YtfokchgihookgaaPa
namespace Go.Proofs.Ytfokchgihookgaa
open Go.RowKit

theorem Try.infoU64 : (Try.prog.info? 35).map (fun i => (i.zero, i.size, i.bytes)) = some (some (.int .u64 0), 1, 8) := by kernel_rfl
theorem sByte_cons (y : Int) (r : List Int) : sByte (y :: r) = (y, 1, 0) := by simp [sByte]
theorem sBytes_all (r : List Int) : sBytes r.length r = (r, r.length, 0) := by
  unfold sBytes
  rw [if_neg (by omega), if_neg (by omega)]
  simp
/-- k numbers are read, the others are 0 -/
def part (a q : Nat) (l : List Bool) (n k : Nat) : List Int := nums a q l k ++ List.replicate (n - k) 0
theorem part_len (a q : Nat) (l : List Bool) (n k : Nat) (h : k ≤ n) : (part a q l n k).length = n := by simp [part, nums_length]; omega
theorem part_zero (a q : Nat) (l : List Bool) (n : Nat) : (part a q l n 0).map (Value.int .u64) = (madeCells #[Value.int .u64 0] (n * 1)).toList := by
  apply List.ext_getElem
  · simp [part, madeCells, nums]
  · intro i h1 h2
    simp [part, madeCells, nums, Nat.mod_one]
theorem part_step (a q : Nat) (l : List Bool) (n k : Nat) (h : k < n) : (part a q l n k).set k (((a + bnum ((l.drop (k * q)).take q)) % 18446744073709551616 : Nat) : Int) = part a q l n (k + 1) := by
  unfold part
  have e : List.replicate (n - k) (0 : Int) = 0 :: List.replicate (n - (k + 1)) 0 := by rw [← List.replicate_succ]; congr 1; omega
  rw [nums_succ, List.set_append, if_neg (by rw [nums_length]; omega), nums_length, Nat.sub_self, e, List.set_cons_zero, List.append_assoc]
  rfl
theorem part_all (a q : Nat) (l : List Bool) (n : Nat) : part a q l n n = nums a q l n := by simp [part]

set_option maxHeartbeats 400000 in
set_option maxRecDepth 100000 in
theorem read_err {w : World} {R : Nat} {v : Value} {ys : List Int} (h : CurAt 82 w R v ys) (n : Nat) {c : Int} (hr : rd 0 0 ys = (0, 0, c)) (hc : c = 2 ∨ c = 3) :
    Calls Try.prog 26 #[.pointer (some ⟨R, 0, none⟩), .int .i64 n] w fun e w' => e = .returned (.tuple #[.slice none 0 0, .int .i64 c]) ∧ Only (fun k => k = R) w w' := by
  have A := hideIt (varint_cur h)
  have e1 : sVarint ys = (0, 0, c) := by unfold sVarint; rw [hr]; rfl
  rw [e1] at A
  have d0 : (c != 0) = true := by simp; omega
  clear h hr hc e1
  go_enter Try.func26, Try.ntmps26
  go_wp2_with fail
  refine A.out.mono ?_
  rintro e w1 ⟨rfl, v1, _, _, o1⟩
  have O1 := hideIt o1
  clear A o1
  go_wp2
  go_ret2
  exact ⟨rfl, O1.out⟩

set_option maxHeartbeats 400000 in
set_option maxRecDepth 100000 in
theorem read_none {w : World} {R : Nat} {v : Value} {a : Nat} (h : CurAt 82 w R v (gs a)) (n : Nat) (ha : a < 18446744073709551616) :
    Calls Try.prog 26 #[.pointer (some ⟨R, 0, none⟩), .int .i64 n] w fun e w' => e = .returned (.tuple #[.slice none 0 0, .int .i64 2]) ∧ Only (fun k => k = R) w w' := by
  have A := hideIt (varint_cur h)
  have e1 : sVarint (gs a) = ((a : Int), (gs a).length, 0) := by have := sVarint_gs a [] ha; rwa [List.append_nil] at this
  rw [e1, List.drop_length] at A
  clear h e1
  go_enter Try.func26, Try.ntmps26
  go_wp2_with fail
  refine A.out.mono ?_
  rintro e w1 ⟨rfl, v1, h1, _, o1⟩
  have B := hideIt (byte_cur h1)
  rw [show sByte [] = (0, 0, 2) from rfl] at B
  have O1 := hideIt o1
  clear A o1 h1
  go_wp2_with fail
  refine B.out.mono ?_
  rintro e w2 ⟨rfl, v2, _, _, o2⟩
  have O2 := hideIt (O1.out.trans o2 (fun _ _ e => e))
  clear B o2
  go_wp2
  go_ret2
  exact ⟨rfl, O2.out⟩

set_option maxHeartbeats 1600000 in
set_option maxRecDepth 100000 in
theorem read_at {w : World} {R : Nat} {v : Value} {a n : Nat} {y : Int} {r : List Int} (h : CurAt 82 w R v (gs a ++ y :: r)) (ha : a < 18446744073709551616) (hn : n ≤ 65536) :
    Calls Try.prog 26 #[.pointer (some ⟨R, 0, none⟩), .int .i64 n] w fun e w' => ∃ v', e = .returned (.tuple #[v', .int .i64 (rdl (gs a ++ y :: r) n).1]) ∧ w'.ownsRow w.heap.size 35 1 v' (rdl (gs a ++ y :: r) n).2.length ((rdl (gs a ++ y :: r) n).2.map (Value.int .u64)) ∧ Only (fun k => k = R) w w' := by
  obtain ⟨y0, y1⟩ := h.rng y (by simp)
  have hrng : ∀ z ∈ r, 0 ≤ z ∧ z ≤ 255 := fun z hz => h.rng z (by simp [hz])
  have hlen : r.length ≤ 1000000000000 := by have := h.len; simp at this; omega
  have HRNG := hideIt hrng
  have HLEN := hideIt hlen
  have A := hideIt (varint_cur h)
  have hd : (gs a ++ y :: r).drop (gs a).length = y :: r := by simp
  rw [sVarint_gs a _ ha] at A
  simp only [hd] at A
  rw [rdl_at a n y r ha]
  clear h hd hrng
  by_cases hy : 64 < y
  · have d1 : decide (64 < y) = true := by simp; exact hy
    rw [if_pos hy]
    go_enter Try.func26, Try.ntmps26
    go_wp2_with fail
    refine A.out.mono ?_
    rintro e w1 ⟨rfl, v1, h1, _, o1⟩
    have B := hideIt (byte_cur h1)
    rw [sByte_cons] at B
    have O1 := hideIt o1
    clear A o1 h1
    go_wp2_with fail
    refine B.out.mono ?_
    rintro e w2 ⟨rfl, v2, _, _, o2⟩
    have O2 := hideIt (O1.out.trans o2 (fun _ _ e => e))
    clear B o2
    go_wp2
    go_ret2
    exact ⟨_, rfl, World.ownsRow_nil _ _ _ _, O2.out⟩
  · obtain ⟨q, rfl⟩ := Int.eq_ofNat_of_zero_le y0
    rw [if_neg hy, Int.toNat_natCast]
    have d1 : decide (64 < (q : Int)) = false := decide_eq_false hy
    have hq : q ≤ 64 := by omega
    have hnq : n * q ≤ 65536 * 64 := Nat.mul_le_mul hn hq
    have hnqI : Hid (((n : Int) * (q : Int)) = ((n * q : Nat) : Int)) := by simp only [Hid]; simp
    have m0 : 0 ≤ (n : Int) * (q : Int) := by rw [hnqI.out]; omega
    have m1 : (n : Int) * (q : Int) ≤ 4194304 := by rw [hnqI.out]; omega
    have HNQ := hideIt hnq
    clear hnq
    by_cases hs : 8 * r.length < n * q
    · rw [if_pos hs]
      go_enter Try.func26, Try.ntmps26
      go_wp2_with fail
      refine A.out.mono ?_
      rintro e w1 ⟨rfl, v1, h1, _, o1⟩
      have B := hideIt (byte_cur h1)
      rw [sByte_cons] at B
      have O1 := hideIt o1
      clear A o1 h1
      go_wp2_with fail
      refine B.out.mono ?_
      rintro e w2 ⟨rfl, v2, h2, ow2, o2⟩
      simp only [List.drop_succ_cons, List.drop_zero] at h2
      have C := hideIt (Left_cur h2)
      have D := hideIt (bytes_cur h2 r.length)
      rw [sBytes_all] at D
      have O2 := hideIt (O1.out.trans o2 (fun _ _ e => e))
      clear B o2 h2 ow2
      go_wp2_with fail
      refine C.out.mono ?_
      rintro e w2' ⟨rfl, rfl⟩
      clear C
      go_wp2_with fail
      refine D.out.mono ?_
      rintro e w3 ⟨v3, rfl, b3, _, _, v4, _, _, o3⟩
      have E := hideIt (newReader_bs v3 r w3 b3 HRNG.out HLEN.out)
      have O3 := hideIt (O2.out.trans o3 (fun _ _ e => e))
      obtain ⟨a3, c3, e3⟩ := b3.len
      subst e3
      clear D o3 b3
      go_wp2_with fail
      refine E.out.mono ?_
      rintro e w4 ⟨R4, v5, rfl, r4, o4, g1, g2, g3⟩
      have F := hideIt (left_rd r4)
      have O4 := hideIt (O3.out.trans o4 (fun _ _ f => f.elim))
      have R4' := hideIt r4
      have G := hideIt (And.intro g1 (And.intro g2 g3))
      clear E o4 r4 g1 g2 g3
      go_wp2_with fail
      refine F.out.mono ?_
      rintro e w5 ⟨rfl, o5⟩
      have O5 := hideIt (O4.out.trans o5 (fun _ _ f => f.elim))
      have R5 := hideIt (R4'.out.keep o5 (fun f => f) (fun _ _ f => f))
      have S5 := hideIt o5.size
      clear F o5
      have d2 : decide (8 * (r.length : Int) < (n : Int) * (q : Int)) = true := by rw [hnqI.out]; simp only [decide_eq_true_eq]; omega
      clear hs
      go_wp2
      go_ret2
      exact ⟨_, rfl, World.ownsRow_nil _ _ _ _, O5.out⟩
    · rw [if_neg hs]
      go_enter Try.func26, Try.ntmps26
      go_wp2_with fail
      refine A.out.mono ?_
      rintro e w1 ⟨rfl, v1, h1, _, o1⟩
      have B := hideIt (byte_cur h1)
      rw [sByte_cons] at B
      have O1 := hideIt o1
      clear A o1 h1
      go_wp2_with fail
      refine B.out.mono ?_
      rintro e w2 ⟨rfl, v2, h2, ow2, o2⟩
      simp only [List.drop_succ_cons, List.drop_zero] at h2
      have C := hideIt (Left_cur h2)
      have D := hideIt (bytes_cur h2 r.length)
      rw [sBytes_all] at D
      have O2 := hideIt (O1.out.trans o2 (fun _ _ e => e))
      clear B o2 h2 ow2
      go_wp2_with fail
      refine C.out.mono ?_
      rintro e w2' ⟨rfl, rfl⟩
      clear C
      go_wp2_with fail
      refine D.out.mono ?_
      rintro e w3 ⟨v3, rfl, b3, _, _, v4, _, _, o3⟩
      have E := hideIt (newReader_bs v3 r w3 b3 HRNG.out HLEN.out)
      have O3 := hideIt (O2.out.trans o3 (fun _ _ e => e))
      obtain ⟨a3, c3, e3⟩ := b3.len
      subst e3
      clear D o3 b3
      go_wp2_with fail
      refine E.out.mono ?_
      rintro e w4 ⟨R4, v5, rfl, r4, o4, g1, g2, g3⟩
      have F := hideIt (left_rd r4)
      have O4 := hideIt (O3.out.trans o4 (fun _ _ f => f.elim))
      have R4' := hideIt r4
      have G := hideIt (And.intro g1 (And.intro g2 g3))
      clear E o4 r4 g1 g2 g3
      go_wp2_with fail
      refine F.out.mono ?_
      rintro e w5 ⟨rfl, o5⟩
      have O5 := hideIt (O4.out.trans o5 (fun _ _ f => f.elim))
      have R5 := hideIt (R4'.out.keep o5 (fun f => f) (fun _ _ f => f))
      have S5 := hideIt o5.size
      clear F o5
      have d2 : decide (8 * (r.length : Int) < (n : Int) * (q : Int)) = false := by rw [hnqI.out]; simp only [decide_eq_false_iff_not]; omega
      have HS := hideIt hs
      obtain ⟨i0, hi, hz0, hz1, hz2⟩ := info_parts Try.infoU64
      obtain ⟨wm, hmk, hown0, hgr⟩ := run_make_full (P := Try.prog) w5 w5.heap.size 22 35 i0 (.int .u64 0) 1 Try.underlying22 hi hz0 hz1 .i64 .i64 n (by rw [hz2]; omega) (by unfold maxLen; omega) (Nat.le_refl _)
      rw [show (Value.int .u64 0).cells = #[Value.int .u64 0] from rfl, ← part_zero a q (allBits r) n] at hown0
      have om : Only (fun _ => False) w5 wm := (Only.refl _ _).grown hgr (fun _ _ e => by cases e)
      have START : Hid (RdAt 86 wm R4 v5 r 0 ∧ wm.ownsRow w5.heap.size 35 1 (.slice (some ⟨w5.heap.size, 0, none⟩) n n) n ((part a q (allBits r) n 0).map (Value.int .u64)) ∧ Only (fun j => j = R) w wm) :=
        ⟨R5.out.keep om (fun f => f) (fun _ _ f => f), hown0, O5.out.trans om (fun _ _ f => f.elim)⟩
      have G2 : Hid (R4 < w5.heap.size ∧ (∀ k, v5.ownBlock = some k → k < w5.heap.size) ∧ w.heap.size ≤ w5.heap.size ∧ w.heap.size ≤ R4) := by
        have g := G.out
        have s5 := S5.out
        exact ⟨by omega, fun k hk => by have := (g.2.2 k hk).2; omega, O5.out.size, by have := O3.out.size; omega⟩
      obtain ⟨N, hN⟩ : ∃ N, N = w5.heap.size := ⟨_, rfl⟩
      rw [← hN] at hmk START G2
      clear hs hown0 hgr om R5 R4' G S5 O4 O3 O2 O1 hN
      go_wp2
      go_loopw [54] (fun i wr => ∃ k : Nat, k ≤ n ∧ i = .int .i64 k ∧ RdAt 86 wr R4 v5 r (k * q) ∧ wr.ownsRow N 35 1 (.slice (some ⟨N, 0, none⟩) n n) n ((part a q (allBits r) n k).map (Value.int .u64)) ∧ Only (fun j => j = R) w wr) (fun i _ => n - (intOf i).toNat)
      case atStart => exact ⟨0, Nat.zero_le _, rfl, by rw [Nat.zero_mul]; exact START.out.1, START.out.2.1, START.out.2.2⟩
      case round =>
        obtain ⟨k, hk, rfl, hrd, hown, hon⟩ := hrel
        clear START hmk
        have HOWN := hideIt hown
        have HON := hideIt hon
        by_cases hlt : k < n
        · have hkq : k * q + q ≤ 8 * r.length := by
            have h1 : (k + 1) * q ≤ n * q := Nat.mul_le_mul_right q (by omega)
            rw [Nat.add_mul, Nat.one_mul] at h1
            have := HS.out
            omega
          have GT := get_rd hrd (q : Int) (by omega) (by omega) (by omega)
          rw [Int.toNat_natCast] at GT
          have GT := hideIt GT
          have hx : Hid (bnum (((allBits r).drop (k * q)).take q) < 18446744073709551616) := by
            have h1 := bnum_lt (((allBits r).drop (k * q)).take q)
            have h2 : 2 ^ (((allBits r).drop (k * q)).take q).length ≤ 2 ^ 64 := Nat.pow_le_pow_right (by omega) (by rw [List.length_take]; omega)
            have h3 : (2 : Nat) ^ 64 = 18446744073709551616 := by decide
            simp only [Hid]; omega
          have dlt : decide ((k : Int) < (n : Int)) = true := by simp; omega
          clear hrd hkq hown hon
          go_wp2_with fail
          refine GT.out.mono ?_
          rintro e w6 ⟨rfl, r6, o6⟩
          have own6 := o6.own HOWN.out (fun j hj => by
            have e1 : j = N := by simp [Value.ownBlock] at hj; exact hj.symm
            have := G2.out.1
            omega)
          have ck : w6.cell? ⟨N, k, none⟩ = some (.int .u64 ((part a q (allBits r) n k).getD k 0)) := by
            rw [own6.cellAt k (by omega), List.getElem?_map, List.getElem?_eq_getElem (by rw [part_len _ _ _ _ _ hk]; exact hlt), List.getD_eq_getElem?_getD, List.getElem?_eq_getElem (by rw [part_len _ _ _ _ _ hk]; exact hlt)]
            rfl
          have fk : w6.frozen? ⟨N, k, none⟩ = false := own6.frozenAt _
          have hstep : Hid (((part a q (allBits r) n k).map (Value.int .u64)).set k (.int .u64 (((a + bnum (((allBits r).drop (k * q)).take q)) % 18446744073709551616 : Nat) : Int)) = (part a q (allBits r) n (k + 1)).map (Value.int .u64)) := by
            simp only [Hid]; rw [← List.map_set, part_step a q (allBits r) n k hlt]
          have OWN6 := hideIt own6
          have R6 := hideIt r6
          have O6 := hideIt o6
          obtain ⟨x, hx2⟩ : ∃ x, x = bnum (((allBits r).drop (k * q)).take q) := ⟨_, rfl⟩
          rw [← hx2] at hx hstep ⊢
          have hxx := hx.out
          obtain ⟨z, hz⟩ : ∃ z, z = (part a q (allBits r) n k).getD k 0 := ⟨_, rfl⟩
          rw [← hz] at ck
          clear GT own6 r6 o6 hx2 hz hx
          go_wp2
          go_roundw
          case rel =>
            have hv : IntKind.u64.wrap ((a : Int) + (x : Int)) = (((a + x) % 18446744073709551616 : Nat) : Int) := by rw [IntKind.wrap_u64]; omega
            rw [hv]
            have g := G2.out
            have oN : Only (fun j => j = N) w6 (w6.setCell ⟨N, k, none⟩ (.int .u64 (((a + x) % 18446744073709551616 : Nat) : Int))) := (Only.refl (fun j => j = N) w6).setCell (fun _ => rfl) _
            refine ⟨k + 1, by omega, by simp, ?_, ?_, ?_⟩
            · rw [Nat.add_mul, Nat.one_mul]
              exact R6.out.keep oN (by omega) (fun j hj => by have := g.2.1 j hj; omega)
            · have h1 := (OWN6.out.stored k (.int .u64 (((a + x) % 18446744073709551616 : Nat) : Int))).1
              rw [hstep.out] at h1
              exact h1
            · exact (HON.out.trans O6.out (fun i hi e => by omega)).setCell (fun hb => by simp only at hb; omega) _
          case measure => simp [intOf]; omega
        · obtain rfl : k = n := by omega
          have dlt : decide ((k : Int) < (k : Int)) = false := by simp
          clear hown hon hrd
          go_wp2
          go_ret2
          refine ⟨_, rfl, ?_, HON.out⟩
          have h1 := own_low HOWN.out G2.out.2.2.1
          rw [part_all] at h1
          rw [nums_length]
          exact h1
end Go.Proofs.Ytfokchgihookgaa
