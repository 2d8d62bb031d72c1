/- Several texts in one: Iw3, Re, Un, Ir. -/
import Derived.Test.YthapipgaohlgdabGreatDoorG13
import Derived.Test.YthapipgaohlgdabGreatDoorG7
import Derived.Test.YthapipgaohlgdabGreatDoorG12
import Derived.Test.YthapipgaohlgdabGreatDoorG9

/- Package intcodec: Way of whatever comes in; Encode. -/
namespace Go.Proofs.YthapipgaohlgdabGreatDoor
open Go.RowKit

theorem way8_any (v : Value) (l : List Int) (tag : Int) (w : World) (h : Bs .i64 w v l) (hg : I64s l) :
    Calls Tryz.prog 19 #[v, .int .i64 tag] w fun e w' => ∃ u, e = .returned (.tuple #[u, .int .i64 (WAY8 l tag).2]) ∧ w'.ownsRow w.heap.size 5 1 u (WAY8 l tag).1.length ((WAY8 l tag).1.map (Value.int .u8)) ∧ Only (fun _ => False) w w' := by
  unfold WAY8
  by_cases ht : tag < 0 ∨ 4 < tag
  · rw [if_pos ht]
    refine (way_arg v tag w ht).mono ?_
    rintro e w' ⟨rfl, rfl⟩
    exact ⟨_, rfl, World.ownsRow_nil _ _ _ _, Only.refl _ _⟩
  · rw [if_neg ht]
    obtain ⟨t, rfl⟩ := Int.eq_ofNat_of_zero_le (show 0 ≤ tag by omega)
    by_cases hl : 65536 < l.length
    · rw [if_pos hl]
      refine (way_long v l t w h hl (by omega)).mono ?_
      rintro e w' ⟨rfl, rfl⟩
      exact ⟨_, rfl, World.ownsRow_nil _ _ _ _, Only.refl _ _⟩
    · rw [if_neg hl, Int.toNat_natCast]
      by_cases hne : l = []
      · subst hne
        rw [WAY_nil]
        refine (way_nil v t w h (by omega)).mono ?_
        rintro e w' ⟨rfl, rfl⟩
        exact ⟨_, rfl, World.ownsRow_nil _ _ _ _, Only.refl _ _⟩
      · have hp : 0 < l.length := List.length_pos_iff.2 hne
        by_cases h0 : t = 0
        · subst h0
          rw [WAY_zero]
          exact way_zero v l w h (by omega) hp
        · exact way_other v l t w h hg (by omega) hp (by omega) (by omega)
theorem way8_nat (v : Value) (l : List Int) (t : Nat) (w : World) (h : Bs .i64 w v l) (hg : I64s l) (hl : l.length ≤ 65536) (ht : t ≤ 4) :
    Calls Tryz.prog 19 #[v, .int .i64 t] w fun e w' => ∃ u, e = .returned (.tuple #[u, .int .i64 (WAY l t).2]) ∧ w'.ownsRow w.heap.size 5 1 u (WAY l t).1.length ((WAY l t).1.map (Value.int .u8)) ∧ Only (fun _ => False) w w' := by
  have := way8_any v l t w h hg
  rw [WAY8_nat hl t ht] at this
  exact this
theorem pick_len (l : List Int) (t : Nat) : (pick l t).2.length ≤ 8 * l.length := by
  have h := (pick_spec l t).2.2 0 (by omega) (by rw [WAY_zero])
  rw [WAY_zero] at h
  simp only [fx_length] at h
  exact h

set_option maxHeartbeats 400000 in
set_option maxRecDepth 100000 in
theorem encode8_long (v : Value) (l : List Int) (w : World) (h : Bs .i64 w v l) (hl : 65536 < l.length) :
    Calls Tryz.prog 10 #[v] w fun e w' => e = .returned (.tuple #[.slice none 0 0, .int .i64 4]) ∧ w = w' := by
  have A := hideIt (way_long v l 0 w h hl (by omega))
  obtain ⟨ao, cap, rfl⟩ := h.len
  clear h hl
  go_enter Tryz.func10, Tryz.ntmps10
  go_wp2_with fail
  refine A.out.mono ?_
  rintro e w1 ⟨rfl, rfl⟩
  go_wp2
  try rw [Exit.noGoto_ret]
  go_ret2
  exact ⟨rfl, rfl⟩

set_option maxHeartbeats 1600000 in
set_option maxRecDepth 100000 in
/-- THE SHORTEST WAY, and its tag ahead. -/
theorem encode8_bs (v : Value) (l : List Int) (w : World) (h : Bs .i64 w v l) (hg : I64s l) (hl : l.length ≤ 65536) :
    Calls Tryz.prog 10 #[v] w fun e w' => ∃ u, e = .returned (.tuple #[u, .int .i64 0]) ∧ w'.ownsRow w.heap.size 5 1 u (((pick l 4).1 : Int) :: (pick l 4).2).length ((((pick l 4).1 : Int) :: (pick l 4).2).map (Value.int .u8)) ∧ Only (fun _ => False) w w' := by
  have A := way8_nat v l 0 w h hg hl (by omega)
  rw [WAY_zero] at A
  have A := hideIt A
  have WY : Hid (∀ (t : Nat) (w1 : World), t ≤ 4 → Only (fun _ => False) w w1 → Calls Tryz.prog 19 #[v, .int .i64 t] w1 fun e w' => ∃ u, e = .returned (.tuple #[u, .int .i64 (WAY l t).2]) ∧ w'.ownsRow w1.heap.size 5 1 u (WAY l t).1.length ((WAY l t).1.map (Value.int .u8)) ∧ Only (fun _ => False) w1 w') :=
    fun t w1 ht o => way8_nat v l t w1 (h.past o) hg hl ht
  have HP : Hid (∀ t, (pick l t).1 ≤ t ∧ (pick l t).2.length ≤ 8 * l.length) := fun t => ⟨(pick_spec l t).1, pick_len l t⟩
  have HPS : Hid (∀ t, pick l (t + 1) = if (WAY l (t + 1)).2 = 0 ∧ (WAY l (t + 1)).1.length < (pick l t).2.length then (t + 1, (WAY l (t + 1)).1) else pick l t) := fun t => rfl
  have HP0 : Hid (pick l 0 = (0, fx l)) := by simp only [Hid]; rw [pick, WAY_zero]
  obtain ⟨pp, hpp⟩ : ∃ pp, pp = ((pick l 4).1 : Int) :: (pick l 4).2 := ⟨_, rfl⟩
  rw [← hpp]
  have HPP := hideIt hpp
  clear hpp
  obtain ⟨ao, cap, rfl⟩ := h.len
  clear h hg
  go_enter Tryz.func10, Tryz.ntmps10
  go_wp2_with fail
  refine A.out.mono ?_
  rintro e w1 ⟨v1, rfl, own1, o1⟩
  clear A
  have START := hideIt (And.intro own1 o1)
  obtain ⟨f1, c1, e1⟩ := (Bs.of_own own1).len
  subst e1
  generalize hF : fx l = F0 at *
  clear own1 o1
  go_wp2
  go_loopw [4, 5, 7] (fun s4 s5 s7 wr => ∃ t : Nat, t ≤ 4 ∧ s7 = .int .i64 ((t : Int) + 1) ∧ s4 = .int .i64 ((pick l t).1 : Nat) ∧ wr.ownsRow w.heap.size 5 1 s5 (pick l t).2.length ((pick l t).2.map (Value.int .u8)) ∧ Only (fun _ => False) w wr) (fun _ _ s7 _ => 5 - (intOf s7).toNat)
  case atStart =>
    have e := HP0.out
    refine ⟨0, by omega, rfl, by rw [e]; rfl, ?_, START.out.2⟩
    rw [e]
    exact START.out.1
  case round =>
    obtain ⟨t, ht, rfl, rfl, hown, hon⟩ := hrel
    have HOWN := hideIt hown
    have HON := hideIt hon
    obtain ⟨f2, c2, e2⟩ := (Bs.of_own hown).len
    subst e2
    clear START hown hon
    have hp1 := (HP.out t).1
    have HPL := hideIt (HP.out t).2
    have HST := hideIt (HPS.out t)
    by_cases hlt : t < 4
    · have dlt : decide ((t : Int) + 1 < 5) = true := decide_eq_true (by omega)
      have WT := WY.out (t + 1) wr (by omega) HON.out
      rw [Int.natCast_succ] at WT
      have WT := hideIt WT
      generalize WAY l (t + 1) = W at *
      obtain ⟨W1, c⟩ := W
      simp only at WT HST
      obtain ⟨pn, hpn⟩ : ∃ pn, pn = pick l (t + 1) := ⟨_, rfl⟩
      rw [← hpn] at HST
      have HPN := hideIt hpn
      generalize pick l t = p at *
      obtain ⟨p1, p2⟩ := p
      simp only at HOWN HST hp1 HPL
      clear hpn WY HPS HP HP0
      go_wp2_with fail
      refine WT.out.mono ?_
      rintro e w3 ⟨v3, rfl, own3, o3⟩
      clear WT
      have OW3 := hideIt (own_low own3 HON.out.size)
      have OWP := hideIt (o3.own HOWN.out (fun _ _ f => f))
      have O3 := hideIt (HON.out.same o3)
      obtain ⟨f3, c3, e3⟩ := (Bs.of_own own3).len
      subst e3
      clear own3 o3
      by_cases hc : c = 0
      · subst hc
        by_cases hlen : W1.length < p2.length
        · have dl : decide ((W1.length : Int) < (p2.length : Int)) = true := decide_eq_true (by omega)
          rw [if_pos ⟨rfl, hlen⟩] at HST
          generalize hn1 : W1.length = n1 at *
          generalize hn2 : p2.length = n2 at *
          go_wp2
          go_roundw
          case rel =>
            refine ⟨t + 1, by omega, by simp, ?_, ?_, O3.out⟩
            · rw [← HPN.out, HST.out]; simp
            · rw [← HPN.out, HST.out]
              simp only [hn1]
              exact OW3.out
          case measure => simp [intOf]; omega
        · have dl : decide ((W1.length : Int) < (p2.length : Int)) = false := decide_eq_false (by omega)
          rw [if_neg (fun hh => hlen hh.2)] at HST
          generalize hn1 : W1.length = n1 at *
          generalize hn2 : p2.length = n2 at *
          go_wp2
          go_roundw
          case rel =>
            refine ⟨t + 1, by omega, by simp, ?_, ?_, O3.out⟩
            · rw [← HPN.out, HST.out]
            · rw [← HPN.out, HST.out]
              simp only [hn2]
              exact OWP.out
          case measure => simp [intOf]; omega
      · have dc : (c == 0) = false := by rw [beq_eq_false_iff_ne]; exact hc
        rw [if_neg (fun hh => hc hh.1)] at HST
        generalize hn2 : p2.length = n2 at *
        go_wp2
        go_roundw
        case rel =>
          refine ⟨t + 1, by omega, by simp, ?_, ?_, O3.out⟩
          · rw [← HPN.out, HST.out]
          · rw [← HPN.out, HST.out]
            simp only [hn2]
            exact OWP.out
        case measure => simp [intOf]; omega
    · obtain rfl : t = 4 := by omega
      clear HST HPS HP HP0 WY
      generalize pick l 4 = p at *
      obtain ⟨p1, p2⟩ := p
      simp only at HOWN hp1 HPL HPP
      have hq256 : (p1 : Int) < 256 := by omega
      have oA : Only (fun _ => False) wr (wr.alloc (.cells #[.int .u8 p1] 5)) := (Only.refl _ _).alloc _
      have oB : Only (fun _ => False) wr ((wr.alloc (.cells #[.int .u8 p1] 5)).alloc (.cells #[.slice (some ⟨wr.heap.size, 0, none⟩) 1 1, .slice f2 p2.length c2] 29)) := oA.alloc _
      have b1 : Bs .u8 (wr.alloc (.cells #[.int .u8 p1] 5)) (.slice (some ⟨wr.heap.size, 0, none⟩) 1 1) [(p1 : Int)] := Bs.litN .u8 wr 5 [(p1 : Int)] _ _ rfl rfl
      have CC := hideIt (concat_two (wr.heap.size + 1) (.slice (some ⟨wr.heap.size, 0, none⟩) 1 1) (.slice f2 p2.length c2) [(p1 : Int)] p2 ((wr.alloc (.cells #[.int .u8 p1] 5)).alloc (.cells #[.slice (some ⟨wr.heap.size, 0, none⟩) 1 1, .slice f2 p2.length c2] 29)) (by go_cell) (by go_cell) (b1.later ((Below.refl _ _).alloc (Nat.le_refl _) _)) ((Bs.of_own HOWN.out).past oB) (NoCap.some _ _ _) (NoCap.of_own HOWN.out) (by simp; omega) (by have := HPL.out; simp; omega))
      rw [List.singleton_append] at CC
      have O4 := hideIt (HON.out.same oB)
      rw [← HPP.out] at CC
      clear oA oB b1 HOWN HON HPP
      generalize p2.length = n2 at *
      go_wp2_with fail
      refine CC.out.mono ?_
      rintro e w5 ⟨v5, rfl, own5, o5⟩
      clear CC
      have F := hideIt (And.intro (own_low own5 O4.out.size) (O4.out.same o5))
      obtain ⟨f5, c5, e5⟩ := (Bs.of_own own5).len
      subst e5
      clear own5 o5
      go_wp2
      try rw [Exit.noGoto_ret]
      go_ret2
      exact ⟨_, rfl, F.out.1, F.out.2⟩
theorem encode8_all (v : Value) (l : List Int) (w : World) (h : Bs .i64 w v l) (hg : I64s l) :
    Calls Tryz.prog 10 #[v] w fun e w' => ∃ u, e = .returned (.tuple #[u, .int .i64 (ENC8 l).2]) ∧ w'.ownsRow w.heap.size 5 1 u (ENC8 l).1.length ((ENC8 l).1.map (Value.int .u8)) ∧ Only (fun _ => False) w w' := by
  unfold ENC8
  by_cases hl : 65536 < l.length
  · rw [if_pos hl]
    refine (encode8_long v l w h hl).mono ?_
    rintro e w' ⟨rfl, rfl⟩
    exact ⟨_, rfl, World.ownsRow_nil _ _ _ _, Only.refl _ _⟩
  · rw [if_neg hl]
    exact encode8_bs v l w h hg (by omega)
end Go.Proofs.YthapipgaohlgdabGreatDoor

/- Package forpack's read: the numbers as they come. -/
namespace Go.Proofs.YthapipgaohlgdabGreatDoor
open Go.RowKit

theorem sByte_cons (y : Int) (r : List Int) : sByte (y :: r) = (y, 1, 0) := by simp [sByte]
theorem sBytes_all (r : List Int) : sBytes r.length r = (r, r.length, 0) := by
  unfold sBytes
  rw [if_neg (by omega), if_neg (by omega)]
  simp
/-- k numbers are read, the others are 0 -/
def part (a q : Nat) (l : List Bool) (n k : Nat) : List Int := nums a q l k ++ List.replicate (n - k) 0
theorem part_len (a q : Nat) (l : List Bool) (n k : Nat) (h : k ≤ n) : (part a q l n k).length = n := by simp [part, nums_length]; omega
theorem part_zero (a q : Nat) (l : List Bool) (n : Nat) : (part a q l n 0).map (Value.int .u64) = (madeCells #[Value.int .u64 0] (n * 1)).toList := by
  apply List.ext_getElem
  · simp [part, madeCells, nums]
  · intro i h1 h2
    simp [part, madeCells, nums, Nat.mod_one]
theorem part_step (a q : Nat) (l : List Bool) (n k : Nat) (h : k < n) : (part a q l n k).set k (((a + bnum ((l.drop (k * q)).take q)) % 18446744073709551616 : Nat) : Int) = part a q l n (k + 1) := by
  unfold part
  have e : List.replicate (n - k) (0 : Int) = 0 :: List.replicate (n - (k + 1)) 0 := by rw [← List.replicate_succ]; congr 1; omega
  rw [nums_succ, List.set_append, if_neg (by rw [nums_length]; omega), nums_length, Nat.sub_self, e, List.set_cons_zero, List.append_assoc]
  rfl
theorem part_all (a q : Nat) (l : List Bool) (n : Nat) : part a q l n n = nums a q l n := by simp [part]

set_option maxHeartbeats 400000 in
set_option maxRecDepth 100000 in
theorem read_err {w : World} {R : Nat} {v : Value} {ys : List Int} (h : CurAt 77 w R v ys) (n : Nat) {c : Int} (hr : rd 0 0 ys = (0, 0, c)) (hc : c = 2 ∨ c = 3) :
    Calls Tryz.prog 115 #[.pointer (some ⟨R, 0, none⟩), .int .i64 n] w fun e w' => e = .returned (.tuple #[.slice none 0 0, .int .i64 c]) ∧ Only (fun k => k = R) w w' := by
  have A := hideIt (varint_cur h)
  have e1 : sVarint ys = (0, 0, c) := by unfold sVarint; rw [hr]; rfl
  rw [e1] at A
  have d0 : (c != 0) = true := by simp; omega
  clear h hr hc e1
  go_enter Tryz.func115, Tryz.ntmps115
  go_wp2_with fail
  refine A.out.mono ?_
  rintro e w1 ⟨rfl, v1, _, _, o1⟩
  have O1 := hideIt o1
  clear A o1
  go_wp2
  go_ret2
  exact ⟨rfl, O1.out⟩

set_option maxHeartbeats 400000 in
set_option maxRecDepth 100000 in
theorem read_none {w : World} {R : Nat} {v : Value} {a : Nat} (h : CurAt 77 w R v (gs a)) (n : Nat) (ha : a < 18446744073709551616) :
    Calls Tryz.prog 115 #[.pointer (some ⟨R, 0, none⟩), .int .i64 n] w fun e w' => e = .returned (.tuple #[.slice none 0 0, .int .i64 2]) ∧ Only (fun k => k = R) w w' := by
  have A := hideIt (varint_cur h)
  have e1 : sVarint (gs a) = ((a : Int), (gs a).length, 0) := by have := sVarint_gs a [] ha; rwa [List.append_nil] at this
  rw [e1, List.drop_length] at A
  clear h e1
  go_enter Tryz.func115, Tryz.ntmps115
  go_wp2_with fail
  refine A.out.mono ?_
  rintro e w1 ⟨rfl, v1, h1, _, o1⟩
  have B := hideIt (byte_cur h1)
  rw [show sByte [] = (0, 0, 2) from rfl] at B
  have O1 := hideIt o1
  clear A o1 h1
  go_wp2_with fail
  refine B.out.mono ?_
  rintro e w2 ⟨rfl, v2, _, _, o2⟩
  have O2 := hideIt (O1.out.trans o2 (fun _ _ e => e))
  clear B o2
  go_wp2
  go_ret2
  exact ⟨rfl, O2.out⟩

set_option maxHeartbeats 1600000 in
set_option maxRecDepth 100000 in
theorem read_at {w : World} {R : Nat} {v : Value} {a n : Nat} {y : Int} {r : List Int} (h : CurAt 77 w R v (gs a ++ y :: r)) (ha : a < 18446744073709551616) (hn : n ≤ 65536) :
    Calls Tryz.prog 115 #[.pointer (some ⟨R, 0, none⟩), .int .i64 n] w fun e w' => ∃ v', e = .returned (.tuple #[v', .int .i64 (rdl (gs a ++ y :: r) n).1]) ∧ w'.ownsRow w.heap.size 26 1 v' (rdl (gs a ++ y :: r) n).2.length ((rdl (gs a ++ y :: r) n).2.map (Value.int .u64)) ∧ Only (fun k => k = R) w w' := by
  obtain ⟨y0, y1⟩ := h.rng y (by simp)
  have hrng : ∀ z ∈ r, 0 ≤ z ∧ z ≤ 255 := fun z hz => h.rng z (by simp [hz])
  have hlen : r.length ≤ 1000000000000 := by have := h.len; simp at this; omega
  have HRNG := hideIt hrng
  have HLEN := hideIt hlen
  have A := hideIt (varint_cur h)
  have hd : (gs a ++ y :: r).drop (gs a).length = y :: r := by simp
  rw [sVarint_gs a _ ha] at A
  simp only [hd] at A
  rw [rdl_at a n y r ha]
  clear h hd hrng
  by_cases hy : 64 < y
  · have d1 : decide (64 < y) = true := by simp; exact hy
    rw [if_pos hy]
    go_enter Tryz.func115, Tryz.ntmps115
    go_wp2_with fail
    refine A.out.mono ?_
    rintro e w1 ⟨rfl, v1, h1, _, o1⟩
    have B := hideIt (byte_cur h1)
    rw [sByte_cons] at B
    have O1 := hideIt o1
    clear A o1 h1
    go_wp2_with fail
    refine B.out.mono ?_
    rintro e w2 ⟨rfl, v2, _, _, o2⟩
    have O2 := hideIt (O1.out.trans o2 (fun _ _ e => e))
    clear B o2
    go_wp2
    go_ret2
    exact ⟨_, rfl, World.ownsRow_nil _ _ _ _, O2.out⟩
  · obtain ⟨q, rfl⟩ := Int.eq_ofNat_of_zero_le y0
    rw [if_neg hy, Int.toNat_natCast]
    have d1 : decide (64 < (q : Int)) = false := decide_eq_false hy
    have hq : q ≤ 64 := by omega
    have hnq : n * q ≤ 65536 * 64 := Nat.mul_le_mul hn hq
    have hnqI : Hid (((n : Int) * (q : Int)) = ((n * q : Nat) : Int)) := by simp only [Hid]; simp
    have m0 : 0 ≤ (n : Int) * (q : Int) := by rw [hnqI.out]; omega
    have m1 : (n : Int) * (q : Int) ≤ 4194304 := by rw [hnqI.out]; omega
    have HNQ := hideIt hnq
    clear hnq
    by_cases hs : 8 * r.length < n * q
    · rw [if_pos hs]
      go_enter Tryz.func115, Tryz.ntmps115
      go_wp2_with fail
      refine A.out.mono ?_
      rintro e w1 ⟨rfl, v1, h1, _, o1⟩
      have B := hideIt (byte_cur h1)
      rw [sByte_cons] at B
      have O1 := hideIt o1
      clear A o1 h1
      go_wp2_with fail
      refine B.out.mono ?_
      rintro e w2 ⟨rfl, v2, h2, ow2, o2⟩
      simp only [List.drop_succ_cons, List.drop_zero] at h2
      have C := hideIt (Left_cur h2)
      have D := hideIt (bytes_cur h2 r.length)
      rw [sBytes_all] at D
      have O2 := hideIt (O1.out.trans o2 (fun _ _ e => e))
      clear B o2 h2 ow2
      go_wp2_with fail
      refine C.out.mono ?_
      rintro e w2' ⟨rfl, rfl⟩
      clear C
      go_wp2_with fail
      refine D.out.mono ?_
      rintro e w3 ⟨v3, rfl, b3, _, _, v4, _, _, o3⟩
      have E := hideIt (newReader_bs v3 r w3 b3 HRNG.out HLEN.out)
      have O3 := hideIt (O2.out.trans o3 (fun _ _ e => e))
      obtain ⟨a3, c3, e3⟩ := b3.len
      subst e3
      clear D o3 b3
      go_wp2_with fail
      refine E.out.mono ?_
      rintro e w4 ⟨R4, v5, rfl, r4, o4, g1, g2, g3⟩
      have F := hideIt (left_rd r4)
      have O4 := hideIt (O3.out.trans o4 (fun _ _ f => f.elim))
      have R4' := hideIt r4
      have G := hideIt (And.intro g1 (And.intro g2 g3))
      clear E o4 r4 g1 g2 g3
      go_wp2_with fail
      refine F.out.mono ?_
      rintro e w5 ⟨rfl, o5⟩
      have O5 := hideIt (O4.out.trans o5 (fun _ _ f => f.elim))
      have R5 := hideIt (R4'.out.keep o5 (fun f => f) (fun _ _ f => f))
      have S5 := hideIt o5.size
      clear F o5
      have d2 : decide (8 * (r.length : Int) < (n : Int) * (q : Int)) = true := by rw [hnqI.out]; simp only [decide_eq_true_eq]; omega
      clear hs
      go_wp2
      go_ret2
      exact ⟨_, rfl, World.ownsRow_nil _ _ _ _, O5.out⟩
    · rw [if_neg hs]
      go_enter Tryz.func115, Tryz.ntmps115
      go_wp2_with fail
      refine A.out.mono ?_
      rintro e w1 ⟨rfl, v1, h1, _, o1⟩
      have B := hideIt (byte_cur h1)
      rw [sByte_cons] at B
      have O1 := hideIt o1
      clear A o1 h1
      go_wp2_with fail
      refine B.out.mono ?_
      rintro e w2 ⟨rfl, v2, h2, ow2, o2⟩
      simp only [List.drop_succ_cons, List.drop_zero] at h2
      have C := hideIt (Left_cur h2)
      have D := hideIt (bytes_cur h2 r.length)
      rw [sBytes_all] at D
      have O2 := hideIt (O1.out.trans o2 (fun _ _ e => e))
      clear B o2 h2 ow2
      go_wp2_with fail
      refine C.out.mono ?_
      rintro e w2' ⟨rfl, rfl⟩
      clear C
      go_wp2_with fail
      refine D.out.mono ?_
      rintro e w3 ⟨v3, rfl, b3, _, _, v4, _, _, o3⟩
      have E := hideIt (newReader_bs v3 r w3 b3 HRNG.out HLEN.out)
      have O3 := hideIt (O2.out.trans o3 (fun _ _ e => e))
      obtain ⟨a3, c3, e3⟩ := b3.len
      subst e3
      clear D o3 b3
      go_wp2_with fail
      refine E.out.mono ?_
      rintro e w4 ⟨R4, v5, rfl, r4, o4, g1, g2, g3⟩
      have F := hideIt (left_rd r4)
      have O4 := hideIt (O3.out.trans o4 (fun _ _ f => f.elim))
      have R4' := hideIt r4
      have G := hideIt (And.intro g1 (And.intro g2 g3))
      clear E o4 r4 g1 g2 g3
      go_wp2_with fail
      refine F.out.mono ?_
      rintro e w5 ⟨rfl, o5⟩
      have O5 := hideIt (O4.out.trans o5 (fun _ _ f => f.elim))
      have R5 := hideIt (R4'.out.keep o5 (fun f => f) (fun _ _ f => f))
      have S5 := hideIt o5.size
      clear F o5
      have d2 : decide (8 * (r.length : Int) < (n : Int) * (q : Int)) = false := by rw [hnqI.out]; simp only [decide_eq_false_iff_not]; omega
      have HS := hideIt hs
      obtain ⟨i0, hi, hz0, hz1, hz2⟩ := info_parts Tryz.infoU64
      obtain ⟨wm, hmk, hown0, hgr⟩ := run_make_full (P := Tryz.prog) w5 w5.heap.size 39 26 i0 (.int .u64 0) 1 Tryz.underlying39 hi hz0 hz1 .i64 .i64 n (by rw [hz2]; omega) (by unfold maxLen; omega) (Nat.le_refl _)
      rw [show (Value.int .u64 0).cells = #[Value.int .u64 0] from rfl, ← part_zero a q (allBits r) n] at hown0
      have om : Only (fun _ => False) w5 wm := (Only.refl _ _).grown hgr (fun _ _ e => by cases e)
      have START : Hid (RdAt 152 wm R4 v5 r 0 ∧ wm.ownsRow w5.heap.size 26 1 (.slice (some ⟨w5.heap.size, 0, none⟩) n n) n ((part a q (allBits r) n 0).map (Value.int .u64)) ∧ Only (fun j => j = R) w wm) :=
        ⟨R5.out.keep om (fun f => f) (fun _ _ f => f), hown0, O5.out.trans om (fun _ _ f => f.elim)⟩
      have G2 : Hid (R4 < w5.heap.size ∧ (∀ k, v5.ownBlock = some k → k < w5.heap.size) ∧ w.heap.size ≤ w5.heap.size ∧ w.heap.size ≤ R4) := by
        have g := G.out
        have s5 := S5.out
        exact ⟨by omega, fun k hk => by have := (g.2.2 k hk).2; omega, O5.out.size, by have := O3.out.size; omega⟩
      obtain ⟨N, hN⟩ : ∃ N, N = w5.heap.size := ⟨_, rfl⟩
      rw [← hN] at hmk START G2
      clear hs hown0 hgr om R5 R4' G S5 O4 O3 O2 O1 hN
      go_wp2
      go_loopw [54] (fun i wr => ∃ k : Nat, k ≤ n ∧ i = .int .i64 k ∧ RdAt 152 wr R4 v5 r (k * q) ∧ wr.ownsRow N 26 1 (.slice (some ⟨N, 0, none⟩) n n) n ((part a q (allBits r) n k).map (Value.int .u64)) ∧ Only (fun j => j = R) w wr) (fun i _ => n - (intOf i).toNat)
      case atStart => exact ⟨0, Nat.zero_le _, rfl, by rw [Nat.zero_mul]; exact START.out.1, START.out.2.1, START.out.2.2⟩
      case round =>
        obtain ⟨k, hk, rfl, hrd, hown, hon⟩ := hrel
        clear START hmk
        have HOWN := hideIt hown
        have HON := hideIt hon
        by_cases hlt : k < n
        · have hkq : k * q + q ≤ 8 * r.length := by
            have h1 : (k + 1) * q ≤ n * q := Nat.mul_le_mul_right q (by omega)
            rw [Nat.add_mul, Nat.one_mul] at h1
            have := HS.out
            omega
          have GT := get_rd hrd (q : Int) (by omega) (by omega) (by omega)
          rw [Int.toNat_natCast] at GT
          have GT := hideIt GT
          have hx : Hid (bnum (((allBits r).drop (k * q)).take q) < 18446744073709551616) := by
            have h1 := bnum_lt (((allBits r).drop (k * q)).take q)
            have h2 : 2 ^ (((allBits r).drop (k * q)).take q).length ≤ 2 ^ 64 := Nat.pow_le_pow_right (by omega) (by rw [List.length_take]; omega)
            have h3 : (2 : Nat) ^ 64 = 18446744073709551616 := by decide
            simp only [Hid]; omega
          have dlt : decide ((k : Int) < (n : Int)) = true := by simp; omega
          clear hrd hkq hown hon
          go_wp2_with fail
          refine GT.out.mono ?_
          rintro e w6 ⟨rfl, r6, o6⟩
          have own6 := o6.own HOWN.out (fun j hj => by
            have e1 : j = N := by simp [Value.ownBlock] at hj; exact hj.symm
            have := G2.out.1
            omega)
          have ck : w6.cell? ⟨N, k, none⟩ = some (.int .u64 ((part a q (allBits r) n k).getD k 0)) := by
            rw [own6.cellAt k (by omega), List.getElem?_map, List.getElem?_eq_getElem (by rw [part_len _ _ _ _ _ hk]; exact hlt), List.getD_eq_getElem?_getD, List.getElem?_eq_getElem (by rw [part_len _ _ _ _ _ hk]; exact hlt)]
            rfl
          have fk : w6.frozen? ⟨N, k, none⟩ = false := own6.frozenAt _
          have hstep : Hid (((part a q (allBits r) n k).map (Value.int .u64)).set k (.int .u64 (((a + bnum (((allBits r).drop (k * q)).take q)) % 18446744073709551616 : Nat) : Int)) = (part a q (allBits r) n (k + 1)).map (Value.int .u64)) := by
            simp only [Hid]; rw [← List.map_set, part_step a q (allBits r) n k hlt]
          have OWN6 := hideIt own6
          have R6 := hideIt r6
          have O6 := hideIt o6
          obtain ⟨x, hx2⟩ : ∃ x, x = bnum (((allBits r).drop (k * q)).take q) := ⟨_, rfl⟩
          rw [← hx2] at hx hstep ⊢
          have hxx := hx.out
          obtain ⟨z, hz⟩ : ∃ z, z = (part a q (allBits r) n k).getD k 0 := ⟨_, rfl⟩
          rw [← hz] at ck
          clear GT own6 r6 o6 hx2 hz hx
          go_wp2
          go_roundw
          case rel =>
            have hv : IntKind.u64.wrap ((a : Int) + (x : Int)) = (((a + x) % 18446744073709551616 : Nat) : Int) := by rw [IntKind.wrap_u64]; omega
            rw [hv]
            have g := G2.out
            have oN : Only (fun j => j = N) w6 (w6.setCell ⟨N, k, none⟩ (.int .u64 (((a + x) % 18446744073709551616 : Nat) : Int))) := (Only.refl (fun j => j = N) w6).setCell (fun _ => rfl) _
            refine ⟨k + 1, by omega, by simp, ?_, ?_, ?_⟩
            · rw [Nat.add_mul, Nat.one_mul]
              exact R6.out.keep oN (by omega) (fun j hj => by have := g.2.1 j hj; omega)
            · have h1 := (OWN6.out.stored k (.int .u64 (((a + x) % 18446744073709551616 : Nat) : Int))).1
              rw [hstep.out] at h1
              exact h1
            · exact (HON.out.trans O6.out (fun i hi e => by omega)).setCell (fun hb => by simp only at hb; omega) _
          case measure => simp [intOf]; omega
        · obtain rfl : k = n := by omega
          have dlt : decide ((k : Int) < (k : Int)) = false := by simp
          clear hown hon hrd
          go_wp2
          go_ret2
          refine ⟨_, rfl, ?_, HON.out⟩
          have h1 := own_low HOWN.out G2.out.2.2.1
          rw [part_all] at h1
          rw [nums_length]
          exact h1
end Go.Proofs.YthapipgaohlgdabGreatDoor

/- Package forpack's Unpack. -/
namespace Go.Proofs.YthapipgaohlgdabGreatDoor
open Go.RowKit

theorem freads_bs {w : World} {R : Nat} {v : Value} {ys : List Int} (h : CurAt 77 w R v ys) (n : Nat) (hn : n ≤ 65536) :
    Calls Tryz.prog 115 #[.pointer (some ⟨R, 0, none⟩), .int .i64 n] w fun e w' => ∃ v', e = .returned (.tuple #[v', .int .i64 (rdl ys n).1]) ∧ w'.ownsRow w.heap.size 26 1 v' (rdl ys n).2.length ((rdl ys n).2.map (Value.int .u64)) ∧ Only (fun k => k = R) w w' := by
  rcases parse ys h.rng with ⟨c, hr, hc⟩ | ⟨a, ha, rfl⟩ | ⟨a, y, r, ha, rfl⟩
  · rw [rdl_err n hr (by omega)]
    exact (read_err h n hr hc).mono fun e w' ⟨h1, h2⟩ => ⟨_, h1, World.ownsRow_nil _ _ _ _, h2⟩
  · rw [rdl_none a n ha]
    exact (read_none h n ha).mono fun e w' ⟨h1, h2⟩ => ⟨_, h1, World.ownsRow_nil _ _ _ _, h2⟩
  · exact read_at h ha hn

set_option maxHeartbeats 400000 in
set_option maxRecDepth 100000 in
theorem unpack_arg (v : Value) (n : Int) (w : World) (h : n < 0 ∨ 65536 < n) :
    Calls Tryz.prog 93 #[v, .int .i64 n] w fun e w' => e = .returned (.tuple #[.slice none 0 0, .int .i64 1]) ∧ w = w' := by
  by_cases h0 : n < 0
  · have d0 : decide (n < 0) = true := decide_eq_true h0
    clear h
    go_enter Tryz.func93, Tryz.ntmps93
    go_wp2
    go_ret2
    exact ⟨rfl, rfl⟩
  · have h8 : 65536 < n := by omega
    have d0 : decide (n < 0) = false := decide_eq_false h0
    have d1 : decide (65536 < n) = true := decide_eq_true h8
    clear h
    go_enter Tryz.func93, Tryz.ntmps93
    go_wp2
    go_ret2
    exact ⟨rfl, rfl⟩

set_option maxHeartbeats 1000000 in
set_option maxRecDepth 100000 in
theorem unpack_nat (v : Value) (ys : List Int) (n : Nat) (w : World) (h : Bs .u8 w v ys) (hr : ∀ y ∈ ys, 0 ≤ y ∧ y ≤ 255) (hl : ys.length ≤ 1000000000000) (hn : n ≤ 65536) :
    Calls Tryz.prog 93 #[v, .int .i64 n] w fun e w' => ∃ v', e = .returned (.tuple #[v', .int .i64 (UN ys n).1]) ∧ w'.ownsRow w.heap.size 26 1 v' (UN ys n).2.length ((UN ys n).2.map (Value.int .u64)) ∧ Only (fun _ => False) w w' := by
  have A := hideIt (new_bs v ys w h hr hl)
  have HB := hideIt h
  have HR := hideIt hr
  obtain ⟨ao, cap, rfl⟩ := h.len
  have d0 : decide ((n : Int) < 0) = false := by simp
  have d1 : decide (65536 < (n : Int)) = false := decide_eq_false (by omega)
  obtain ⟨m, hm⟩ : ∃ m, m = ys.length := ⟨_, rfl⟩
  rw [← hm] at A HB ⊢
  clear h hr hl hm
  have hun : UN ys n = if (rdl ys n).1 ≠ 0 then ((rdl ys n).1, []) else if PK (rdl ys n).2 = ys then (0, (rdl ys n).2) else (3, []) := by
    unfold UN; rw [if_neg (by omega), Int.toNat_natCast]
  have HRU := rdl_u64 ys n
  have HRL : (rdl ys n).1 = 0 → (rdl ys n).2.length = n := fun h0 => rdl_len (b := ys) (n := n) (l := (rdl ys n).2) (by rw [← h0])
  have FR : Hid (∀ (w : World) (R : Nat) (v : Value), CurAt 77 w R v ys → Calls Tryz.prog 115 #[.pointer (some ⟨R, 0, none⟩), .int .i64 n] w fun e w' => ∃ v', e = .returned (.tuple #[v', .int .i64 (rdl ys n).1]) ∧ w'.ownsRow w.heap.size 26 1 v' (rdl ys n).2.length ((rdl ys n).2.map (Value.int .u64)) ∧ Only (fun k => k = R) w w') :=
    fun w R v h => freads_bs h n hn
  rw [hun]
  clear hun
  generalize rdl ys n = p at *
  obtain ⟨c, l⟩ := p
  simp only at HRU HRL FR ⊢
  by_cases he : c ≠ 0
  · rw [if_pos he]
    have d2 : (c != 0) = true := by simpa using he
    clear HRL he
    go_enter Tryz.func93, Tryz.ntmps93
    go_wp2_with fail
    refine A.out.mono ?_
    rintro e w1 ⟨R, v1, rfl, c1, o1, g1, g2, g3⟩
    have B := hideIt (FR.out w1 R v1 c1)
    have O1 := hideIt o1
    have G1 := hideIt g1
    clear A c1 o1 g1 g2 g3
    go_wp2_with fail
    refine B.out.mono ?_
    rintro e w2 ⟨v2, rfl, own2, o2⟩
    have O2 := hideIt (O1.out.trans o2 (fun i hi e => by have := G1.out; omega))
    obtain ⟨a2, c2, e2⟩ := (Bs.of_own own2).len
    subst e2
    clear B own2 o2
    go_wp2
    go_ret2
    exact ⟨_, rfl, World.ownsRow_nil _ _ _ _, O2.out⟩
  · obtain rfl : c = 0 := Decidable.of_not_not he
    rw [if_neg he]
    have hlen := hideIt (HRL rfl)
    clear he HRL
    by_cases hs : PK l = ys
    · rw [if_pos hs]
      have HS := hideIt hs
      clear hs
      go_enter Tryz.func93, Tryz.ntmps93
      go_wp2_with fail
      refine A.out.mono ?_
      rintro e w1 ⟨R, v1, rfl, c1, o1, g1, g2, g3⟩
      have B := hideIt (FR.out w1 R v1 c1)
      have O1 := hideIt o1
      have G1 := hideIt g1
      clear A c1 o1 g1 g2 g3
      go_wp2_with fail
      refine B.out.mono ?_
      rintro e w2 ⟨v2, rfl, own2, o2⟩
      have O2 := hideIt (O1.out.trans o2 (fun i hi e => by have := G1.out; omega))
      have C := hideIt (pack_bs v2 l w2 (Bs.of_own own2) HRU (by have := hlen.out; omega))
      have OWN2 := hideIt own2
      have S1 := hideIt O1.out.size
      obtain ⟨a2, c2, e2⟩ := (Bs.of_own own2).len
      subst e2
      clear B own2 o2
      go_wp2_with fail
      refine C.out.mono ?_
      rintro e w3 ⟨v3, rfl, own3, o3⟩
      have O3 := hideIt (O2.out.trans o3 (fun _ _ f => f))
      have D := equal_bs v3 (.slice ao m cap) (PK l) ys w3 (Bs.of_own own3) (HB.out.keep O3.out (fun _ _ f => f)) (PK_rng HRU) HR.out
      rw [decide_eq_true HS.out] at D
      have D := hideIt D
      have OWN3 := hideIt (o3.own OWN2.out (fun _ _ f => f))
      obtain ⟨a3, c3, e3⟩ := (Bs.of_own own3).len
      subst e3
      clear C own3 o3
      go_wp2_with fail
      refine D.out.mono ?_
      rintro e w4 ⟨rfl, rfl⟩
      clear D
      go_wp2
      go_ret2
      exact ⟨_, rfl, own_low OWN3.out S1.out, O3.out⟩
    · rw [if_neg hs]
      have HS := hideIt hs
      clear hs
      go_enter Tryz.func93, Tryz.ntmps93
      go_wp2_with fail
      refine A.out.mono ?_
      rintro e w1 ⟨R, v1, rfl, c1, o1, g1, g2, g3⟩
      have B := hideIt (FR.out w1 R v1 c1)
      have O1 := hideIt o1
      have G1 := hideIt g1
      clear A c1 o1 g1 g2 g3
      go_wp2_with fail
      refine B.out.mono ?_
      rintro e w2 ⟨v2, rfl, own2, o2⟩
      have O2 := hideIt (O1.out.trans o2 (fun i hi e => by have := G1.out; omega))
      have C := hideIt (pack_bs v2 l w2 (Bs.of_own own2) HRU (by have := hlen.out; omega))
      have OWN2 := hideIt own2
      have S1 := hideIt O1.out.size
      obtain ⟨a2, c2, e2⟩ := (Bs.of_own own2).len
      subst e2
      clear B own2 o2
      go_wp2_with fail
      refine C.out.mono ?_
      rintro e w3 ⟨v3, rfl, own3, o3⟩
      have O3 := hideIt (O2.out.trans o3 (fun _ _ f => f))
      have D := equal_bs v3 (.slice ao m cap) (PK l) ys w3 (Bs.of_own own3) (HB.out.keep O3.out (fun _ _ f => f)) (PK_rng HRU) HR.out
      rw [decide_eq_false HS.out] at D
      have D := hideIt D
      have OWN3 := hideIt (o3.own OWN2.out (fun _ _ f => f))
      obtain ⟨a3, c3, e3⟩ := (Bs.of_own own3).len
      subst e3
      clear C own3 o3
      go_wp2_with fail
      refine D.out.mono ?_
      rintro e w4 ⟨rfl, rfl⟩
      clear D
      go_wp2
      go_ret2
      exact ⟨_, rfl, World.ownsRow_nil _ _ _ _, O3.out⟩

theorem unpack_bs (v : Value) (ys : List Int) (n : Int) (w : World) (h : Bs .u8 w v ys) (hr : ∀ y ∈ ys, 0 ≤ y ∧ y ≤ 255) (hl : ys.length ≤ 1000000000000) :
    Calls Tryz.prog 93 #[v, .int .i64 n] w fun e w' => ∃ v', e = .returned (.tuple #[v', .int .i64 (UN ys n).1]) ∧ w'.ownsRow w.heap.size 26 1 v' (UN ys n).2.length ((UN ys n).2.map (Value.int .u64)) ∧ Only (fun _ => False) w w' := by
  by_cases hn : n < 0 ∨ 65536 < n
  · have e : UN ys n = (1, []) := by unfold UN; rw [if_pos hn]
    rw [e]
    exact (unpack_arg v n w hn).mono fun e w' ⟨h1, h2⟩ => ⟨_, h1, World.ownsRow_nil _ _ _ _, by rw [← h2]; exact Only.refl _ _⟩
  · obtain ⟨m, rfl⟩ := Int.eq_ofNat_of_zero_le (show 0 ≤ n by omega)
    exact unpack_nat v ys m w h hr hl (by omega)
end Go.Proofs.YthapipgaohlgdabGreatDoor

/- Package intcodec: what is read of a cursor, way by way. -/
namespace Go.Proofs.YthapipgaohlgdabGreatDoor
open Go.RowKit

theorem map_s64_snoc (ys : List Int) (k : Nat) : ((fxN ys (k + 1)).map s64).map (Value.int .i64) = ((fxN ys k).map s64).map (Value.int .i64) ++ [.int .i64 (s64 (num ((ys.drop (8 * k)).take 8) : Int))] := by
  rw [fxN_succ, List.map_append, List.map_append]; rfl

set_option maxHeartbeats 800000 in
set_option maxRecDepth 100000 in
/-- SO MANY OF EIGHT BYTES EACH. -/
theorem readFixed_cur {w : World} {R : Nat} {v : Value} {ys : List Int} (h : CurAt 77 w R v ys) (hvb : ∀ k, v.ownBlock = some k → k < w.heap.size) (n : Nat) (hn : n ≤ 65536) :
    Calls Tryz.prog 70 #[.pointer (some ⟨R, 0, none⟩), .int .i64 n] w fun e w' => ∃ u, e = .returned (.tuple #[u, .int .i64 (rFx ys n).2]) ∧ w'.ownsRow w.heap.size 3 1 u ((rFx ys n).1.map s64).length (((rFx ys n).1.map s64).map (Value.int .i64)) ∧ Only (fun k => k = R) w w' := by
  obtain ⟨i0, hi, hz0, hz1, hz2⟩ := info_parts Tryz.infoI64
  have hR : R < w.heap.size := (Array.getElem?_eq_some_iff.1 h.cell).1
  have HC := hideIt h
  have HVB := hideIt hvb
  clear h hvb
  go_enter Tryz.func70, Tryz.ntmps70
  go_wp2
  go_loopw [6, 10] (fun s i wr => ∃ (k : Nat) (v' : Value), k ≤ n ∧ i = .int .i64 k ∧ wr.ownsRow w.heap.size 3 1 s k (((fxN ys k).map s64).map (Value.int .i64)) ∧ CurAt 77 wr R v' (ys.drop (8 * k)) ∧ v'.ownBlock = v.ownBlock ∧ 8 * k ≤ ys.length ∧ Only (fun k => k = R) w wr) (fun _ i _ => n - (intOf i).toNat)
  case atStart => exact ⟨0, v, Nat.zero_le _, rfl, World.ownsRow_nil _ _ _ _, HC.out, rfl, by omega, Only.refl _ _⟩
  case round =>
    obtain ⟨k, v', hk, rfl, hown, hcur, hob, h8, hon⟩ := hrel
    have HOWN := hideIt hown
    have HON := hideIt hon
    have HOB := hideIt hob
    by_cases hlt : k < n
    · have dlt : decide ((k : Int) < (n : Int)) = true := by simp; omega
      have FX := hideIt (fixed_cur hcur 8)
      by_cases hs : (ys.drop (8 * k)).length < 8
      · rw [sFixed8_short hs] at FX
        have HR : Hid (rFx ys n = ([], 2)) := by
          simp only [Hid]; unfold rFx
          rw [List.length_drop] at hs
          rw [if_pos (by omega)]
        clear hown hcur hob hon hs HC
        go_wp2_with fail
        refine FX.out.mono ?_
        rintro e w2 ⟨rfl, v2, _, _, o2⟩
        have O2 := hideIt (HON.out.trans o2 (fun _ _ e => e))
        clear FX o2 HOWN
        go_wp2
        go_ret2
        rw [HR.out]
        exact ⟨_, rfl, World.ownsRow_nil _ _ _ _, O2.out⟩
      · rw [sFixed8_ok (by omega)] at FX
        have h9 : 8 * (k + 1) ≤ ys.length := by rw [List.length_drop] at hs; omega
        have HST := hideIt (map_s64_snoc ys k)
        have HDR : Hid ((ys.drop (8 * k)).drop 8 = ys.drop (8 * (k + 1))) := by
          simp only [Hid]; rw [List.drop_drop, Nat.mul_add]
        rw [HDR.out] at FX
        have HX : Hid (∀ x : Int, IntKind.i64.wrap x = s64 x) := fun x => by unfold s64 wrap64; exact IntKind.wrap_i64 x
        generalize (num ((ys.drop (8 * k)).take 8) : Int) = x at *
        clear hown hcur hob hon hs HC HDR
        go_wp2_with fail
        refine FX.out.mono ?_
        rintro e w2 ⟨rfl, v2, cur2, ob2, o2⟩
        have O2 := hideIt (HON.out.trans o2 (fun _ _ e => e))
        have own2 := o2.own HOWN.out (fun q hq e => by have := (HOWN.out.lt q hq).1; omega)
        have CUR2 := hideIt cur2
        have OB2 := hideIt (ob2.trans HOB.out)
        have hsz := O2.out.size
        clear FX o2 HOWN HON HOB cur2 ob2
        go_wp2_with (at_builtin; refine wpList_append_lies _ rfl _ _ _ rfl w.heap.size 3 i0 (.int .i64 0) 1 8 Tryz.underlying38 hi hz0 hz1 hz2 rfl (by omega) _ k _ rfl (own2.alloc _) ⟨w2.heap.size, 0, none⟩ 1 1 [.int .i64 (s64 x)] rfl rfl ?c1 ?c2 (by omega) ?c3 ?c4 ?c5 (w2.heap.size + 1) (by simp) ?_)
        case c1 => first | exact cell_one_new _ _ _ | (rw [← HX.out x]; exact cell_one_new _ _ _)
        case c2 => intro u hu; simp at hu; subst hu; rfl
        case c3 => unfold maxLen; omega
        case c4 => omega
        case c5 => simp; omega
        intro gg cap1 w3 hown1 hgrow hat hg1
        have o3 := hideIt (((Only.refl (fun q => w.heap.size ≤ q) w2).alloc _).grown hgrow (fun p _ hp => (own2.lt p hp).1))
        have own3 : Hid (w3.ownsRow w.heap.size 3 1 (.slice (some ⟨gg, 0, none⟩) (k + 1) cap1) (k + 1) (((fxN ys (k + 1)).map s64).map (Value.int .i64))) := by
          simp only [Hid]
          rw [HST.out, List.map_map]; exact hown1
        clear own2 hown1 hgrow hat
        go_wp2
        go_roundw
        case rel =>
          refine ⟨k + 1, v2, by omega, by go_num, own3.out, CUR2.out.keep o3.out (by omega) (fun q hq e => ?_), OB2.out, h9, O2.out.trans o3.out (fun q hq e => absurd e (by omega))⟩
          rw [OB2.out] at hq
          have := HVB.out q hq
          omega
        case measure => simp [intOf]; omega
    · obtain rfl : k = n := by omega
      have dlt : decide ((k : Int) < (k : Int)) = false := by simp
      have HR : Hid (rFx ys k = (fxN ys k, 0)) := by
        simp only [Hid]; unfold rFx
        rw [if_neg (by omega)]
      clear hown hcur hob hon HC
      go_wp2
      go_ret2
      rw [HR.out]
      refine ⟨_, rfl, ?_, HON.out⟩
      rw [List.length_map, fxN_length]
      exact HOWN.out

theorem rVs_stop {n : Nat} {acc ys : List Int} {a : Int} {k : Nat} {c : Int} (hs : sVarint ys = (a, k, c)) (hc : c ≠ 0) : rVs (n + 1) acc ys = ([], ys, c) := by
  rw [rVs, hs]; simp only [ne_eq]; rw [if_pos hc]
theorem rVs_go {n : Nat} {acc ys : List Int} {a : Int} {k : Nat} (hs : sVarint ys = (a, k, 0)) : rVs (n + 1) acc ys = rVs n (acc ++ [a]) (ys.drop k) := by
  rw [rVs, hs]; simp

set_option maxHeartbeats 800000 in
set_option maxRecDepth 100000 in
/-- SO MANY VARINTS. -/
theorem readVarints_cur {w : World} {R : Nat} {v : Value} {ys : List Int} (h : CurAt 77 w R v ys) (hvb : ∀ k, v.ownBlock = some k → k < w.heap.size) (n : Nat) (hn : n ≤ 65536) :
    Calls Tryz.prog 97 #[.pointer (some ⟨R, 0, none⟩), .int .i64 n] w fun e w' => ∃ u, e = .returned (.tuple #[u, .int .i64 (rVs n [] ys).2.2]) ∧ w'.ownsRow w.heap.size 26 1 u (rVs n [] ys).1.length ((rVs n [] ys).1.map (Value.int .u64)) ∧ Only (fun k => k = R) w w' := by
  obtain ⟨i0, hi, hz0, hz1, hz2⟩ := info_parts Tryz.infoU64
  have hR : R < w.heap.size := (Array.getElem?_eq_some_iff.1 h.cell).1
  have HC := hideIt h
  have HVB := hideIt hvb
  clear h hvb
  go_enter Tryz.func97, Tryz.ntmps97
  go_wp2
  go_loopw [6, 10] (fun s i wr => ∃ (k g : Nat) (acc ys' : List Int) (v' : Value), k + g = n ∧ i = .int .i64 k ∧ acc.length = k ∧ wr.ownsRow w.heap.size 26 1 s k (acc.map (Value.int .u64)) ∧ CurAt 77 wr R v' ys' ∧ v'.ownBlock = v.ownBlock ∧ Hid (rVs g acc ys' = rVs n [] ys) ∧ Only (fun k => k = R) w wr) (fun _ i _ => n - (intOf i).toNat)
  case atStart => exact ⟨0, n, [], ys, v, by omega, rfl, rfl, World.ownsRow_nil _ _ _ _, HC.out, rfl, rfl, Only.refl _ _⟩
  case round =>
    obtain ⟨k, g, acc, ys', v', hk, rfl, hal, hown, hcur, hob, HRV, hon⟩ := hrel
    have HOWN := hideIt hown
    have HON := hideIt hon
    have HOB := hideIt hob
    have HAL := hideIt hal
    cases g with
    | succ g =>
      have dlt : decide ((k : Int) < (n : Int)) = true := by simp; omega
      have FX := varint_cur hcur
      rcases sVarint_cases hcur.rng with ⟨c, hs, hc⟩ | ⟨a, q, hs, _, _, ha, _⟩
      · rw [hs] at FX
        have FX := hideIt FX
        have HR := HRV.out
        rw [rVs_stop hs (by omega)] at HR
        have HR := hideIt HR
        have dc : (c != 0) = true := by simp; omega
        clear hown hcur hob hon hs HC hal HRV hc
        go_wp2_with fail
        refine FX.out.mono ?_
        rintro e w2 ⟨rfl, v2, _, _, o2⟩
        have O2 := hideIt (HON.out.trans o2 (fun _ _ e => e))
        clear FX o2 HOWN
        go_wp2
        go_ret2
        rw [← HR.out]
        exact ⟨_, rfl, World.ownsRow_nil _ _ _ _, O2.out⟩
      · rw [hs] at FX
        have FX := hideIt FX
        have HR := HRV.out
        rw [rVs_go hs] at HR
        have HR := hideIt HR
        clear hown hcur hob hon hs HC hal HRV
        go_wp2_with fail
        refine FX.out.mono ?_
        rintro e w2 ⟨rfl, v2, cur2, ob2, o2⟩
        have O2 := hideIt (HON.out.trans o2 (fun _ _ e => e))
        have own2 := o2.own HOWN.out (fun q hq e => by have := (HOWN.out.lt q hq).1; omega)
        have CUR2 := hideIt cur2
        have OB2 := hideIt (ob2.trans HOB.out)
        have hsz := O2.out.size
        clear FX o2 HOWN HON HOB cur2 ob2
        go_wp2_with (at_builtin; refine wpList_append_lies _ rfl _ _ _ rfl w.heap.size 26 i0 (.int .u64 0) 1 8 Tryz.underlying39 hi hz0 hz1 hz2 rfl (by omega) _ k _ rfl (own2.alloc _) ⟨w2.heap.size, 0, none⟩ 1 1 [.int .u64 (a : Int)] rfl rfl ?c1 ?c2 (by omega) ?c3 ?c4 ?c5 (w2.heap.size + 1) (by simp) ?_)
        case c1 => exact cell_one_new _ _ _
        case c2 => intro u hu; simp at hu; subst hu; rfl
        case c3 => unfold maxLen; omega
        case c4 => omega
        case c5 => simp; omega
        intro gg cap1 w3 hown1 hgrow hat hg1
        have o3 := hideIt (((Only.refl (fun q => w.heap.size ≤ q) w2).alloc _).grown hgrow (fun p _ hp => (own2.lt p hp).1))
        have own3 : Hid (w3.ownsRow w.heap.size 26 1 (.slice (some ⟨gg, 0, none⟩) (k + 1) cap1) (k + 1) ((acc ++ [(a : Int)]).map (Value.int .u64))) := by
          simp only [Hid]
          rw [List.map_append]; exact hown1
        clear own2 hown1 hgrow hat
        go_wp2
        go_roundw
        case rel =>
          refine ⟨k + 1, g, acc ++ [(a : Int)], _, v2, by omega, by go_num, by simp [HAL.out], own3.out, CUR2.out.keep o3.out (by omega) (fun q hq e => ?_), OB2.out, HR.out, O2.out.trans o3.out (fun q hq e => absurd e (by omega))⟩
          rw [OB2.out] at hq
          have := HVB.out q hq
          omega
        case measure => simp [intOf]; omega
    | zero =>
      obtain rfl : k = n := by omega
      have dlt : decide ((k : Int) < (k : Int)) = false := by simp
      have HR : Hid (rVs k [] ys = (acc, ys', 0)) := HRV.out.symm
      clear hown hcur hob hon HC hal HRV
      go_wp2
      go_ret2
      rw [HR.out]
      refine ⟨_, rfl, ?_, HON.out⟩
      simp only [HAL.out]
      exact HOWN.out

set_option maxHeartbeats 800000 in
set_option maxRecDepth 100000 in
/-- ZAGS: of a first one and of others. -/
theorem zags_any (x : Int) (v : Value) (l : List Int) (w : World) (h : Bs .u64 w v l) (hu : U64 l) (hl : l.length ≤ 65536) (x0 : 0 ≤ x) (x1 : x ≤ 18446744073709551615) :
    Calls Tryz.prog 73 #[.int .u64 x, v] w fun e w' => ∃ u, e = .returned u ∧ w'.ownsRow w.heap.size 3 1 u (l.length + 1) ((zag x :: zgn l).map (Value.int .i64)) ∧ Only (fun _ => False) w w' := by
  obtain ⟨i0, hi, hz0, hz1, hz2⟩ := info_parts Tryz.infoI64
  have ZX := hideIt (zag_any x w x0 x1)
  have HB := hideIt h
  have HU := hideIt hu
  obtain ⟨ao, cap, rfl⟩ := h.len
  obtain ⟨n, hn⟩ : ∃ n, n = l.length := ⟨_, rfl⟩
  rw [← hn] at hl HB
  rw [← hn]
  have HN := hideIt hn
  have START := hideIt (World.ownsRow_lit (base := w.heap.size) (e := 3) (size := 1) w #[.int .i64 (zag x)] 1 (Nat.le_refl _) (by unfold maxLen; omega) rfl)
  obtain ⟨y, hy⟩ : ∃ y, y = zag x := ⟨_, rfl⟩
  rw [← hy] at ZX START ⊢
  clear h hn hu x0 x1 hy
  go_enter Tryz.func73, Tryz.ntmps73
  go_wp2_with fail
  refine ZX.out.mono ?_
  rintro e w1 ⟨rfl, rfl⟩
  clear ZX
  go_wp2
  go_loopw [5, 13] (fun s i wr => ∃ k : Nat, k ≤ n ∧ i = .int .i64 k ∧ wr.ownsRow w.heap.size 3 1 s (k + 1) ((y :: zgn (l.take k)).map (Value.int .i64)) ∧ Only (fun _ => False) w wr) (fun _ i _ => n - (intOf i).toNat)
  case atStart => exact ⟨0, Nat.zero_le _, rfl, START.out, (Only.refl _ _).alloc _⟩
  case round =>
    obtain ⟨k, hk, rfl, hown, hon⟩ := hrel
    have HOWN := hideIt hown
    have HON := hideIt hon
    clear START
    by_cases hlt : k < n
    · have dlt : decide ((k : Int) < (n : Int)) = true := by simp; omega
      have hkl : k < l.length := by rw [← HN.out]; exact hlt
      obtain ⟨b, off, cap', e1, hc0⟩ := (HB.out.past hon).at k hkl
      have ea : ao = some ⟨b, off, none⟩ := by simp at e1; exact e1.1
      subst ea
      clear e1
      have hx := HU.out (l.getD k 0) (getD_mem0 l k hkl)
      have HST : Hid ((y :: zgn (l.take (k + 1))).map (Value.int .i64) = (y :: zgn (l.take k)).map (Value.int .i64) ++ [.int .i64 (zag (l.getD k 0))]) := by
        simp only [Hid]; rw [take_snoc l k hkl]; simp [zgn]
      have ZK := hideIt (zag_any (l.getD k 0) wr hx.1 hx.2)
      generalize l.getD k 0 = z at *
      have own2 := HOWN.out
      have hsz := HON.out.size
      clear hown hon HB HU hkl hx
      go_wp2_with fail
      refine ZK.out.mono ?_
      rintro e w2 ⟨rfl, rfl⟩
      clear ZK
      generalize zag z = q at *
      go_wp2_with (at_builtin; refine wpList_append_lies _ rfl _ _ _ rfl w.heap.size 3 i0 (.int .i64 0) 1 8 Tryz.underlying38 hi hz0 hz1 hz2 rfl (by omega) _ (k + 1) _ rfl (own2.alloc _) ⟨wr.heap.size, 0, none⟩ 1 1 [.int .i64 q] rfl rfl ?c1 ?c2 (by omega) ?c3 ?c4 ?c5 (wr.heap.size + 1) (by simp) ?_)
      case c1 => exact cell_one_new _ _ _
      case c2 => intro u hu; simp at hu; subst hu; rfl
      case c3 => unfold maxLen; omega
      case c4 => omega
      case c5 => simp; omega
      intro gg cap1 w3 hown1 hgrow hat hg1
      have o3 := hideIt ((HON.out.alloc _).grown hgrow (fun p hp0 hp => absurd (own2.lt p hp).1 (by omega)))
      have own3 : Hid (w3.ownsRow w.heap.size 3 1 (.slice (some ⟨gg, 0, none⟩) (k + 1 + 1) cap1) (k + 1 + 1) ((y :: zgn (l.take (k + 1))).map (Value.int .i64))) := by
        simp only [Hid]
        rw [HST.out]; exact hown1
      clear own2 hown1 hgrow hat
      go_wp2
      go_roundw
      case rel => exact ⟨k + 1, by omega, by go_num, own3.out, o3.out⟩
      case measure => simp [intOf]; omega
    · obtain rfl : k = n := by omega
      have dlt : decide ((k : Int) < (k : Int)) = false := by simp
      have F : Hid (wr.ownsRow w.heap.size 3 1 u5 (k + 1) ((y :: zgn l).map (Value.int .i64))) := by
        have h1 := HOWN.out
        rw [HN.out, List.take_length] at h1
        simp only [Hid]
        rw [HN.out]; exact h1
      clear hown hon
      go_wp2
      go_ret
      exact ⟨_, rfl, F.out, HON.out⟩

theorem sBytes_len (ys : List Int) : sBytes ys.length ys = (ys, ys.length, 0) := by
  unfold sBytes
  rw [if_neg (by omega), if_neg (by omega)]
  simp
set_option maxHeartbeats 400000 in
set_option maxRecDepth 100000 in
/-- WHAT IS LEFT. -/
theorem rest_cur {w : World} {R : Nat} {v : Value} {ys : List Int} (h : CurAt 77 w R v ys) :
    Calls Tryz.prog 94 #[.pointer (some ⟨R, 0, none⟩)] w fun e w' => ∃ u, e = .returned u ∧ Bs .u8 w' u ys ∧ Only (fun k => k = R) w w' := by
  have L := hideIt (Left_cur h)
  have B := bytes_cur h ys.length
  rw [sBytes_len] at B
  have B := hideIt B
  clear h
  go_enter Tryz.func94, Tryz.ntmps94
  go_wp2_with fail
  refine L.out.mono ?_
  rintro e w1 ⟨rfl, rfl⟩
  clear L
  go_wp2_with fail
  refine B.out.mono ?_
  rintro e w2 ⟨u, rfl, bs, _, _, v2, _, _, o2⟩
  have F := hideIt (And.intro bs o2)
  obtain ⟨f1, c1, e1⟩ := bs.len
  subst e1
  clear B bs o2
  go_wp2
  go_ret
  exact ⟨_, rfl, F.out⟩
end Go.Proofs.YthapipgaohlgdabGreatDoor
