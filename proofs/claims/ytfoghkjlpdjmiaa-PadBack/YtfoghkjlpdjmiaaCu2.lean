/- Contracts of package cursor: Byte, Fixed, Varint, Bytes, Block. -/
import Derived.Test.YtfoghkjlpdjmiaaCu
namespace Go.Proofs.Ytfoghkjlpdjmiaa
open Go.RowKit

theorem own_nil (N : Nat) : ∀ k, (Value.slice none 0 0).ownBlock = some k → N ≤ k := fun k hk => by cases hk
/-- bytes as a number, the first one the highest -/
def num (l : List Int) : Nat := l.foldl (fun a y => 256 * a + y.toNat) 0
theorem num_snoc (l : List Int) (y : Int) : num (l ++ [y]) = 256 * num l + y.toNat := by simp [num]
theorem num_lt (l : List Int) (hr : ∀ y ∈ l, 0 ≤ y ∧ y ≤ 255) : num l < 256 ^ l.length := by
  induction h : l.length generalizing l with
  | zero => have : l = [] := List.eq_nil_of_length_eq_zero h
            subst this; simp [num]
  | succ n ih =>
    have hne : l ≠ [] := by intro h0; subst h0; simp at h
    obtain ⟨t, b, rfl⟩ : ∃ t b, l = t ++ [b] := ⟨l.dropLast, l.getLast hne, (List.dropLast_concat_getLast hne).symm⟩
    have := ih t (fun y hy => hr y (by simp [hy])) (by simp at h; omega)
    have hb := hr b (by simp)
    rw [num_snoc, Nat.pow_succ]
    omega
theorem take_snoc (l : List Int) (k : Nat) (h : k < l.length) : l.take (k + 1) = l.take k ++ [l.getD k 0] := by
  rw [List.take_succ_eq_append_getElem h, List.getD_eq_getElem?_getD, List.getElem?_eq_getElem h]; rfl
theorem pow256 {k : Nat} (h : k ≤ 7) : 256 ^ k ≤ 72057594037927936 := by
  have h1 : 256 ^ k ≤ 256 ^ 7 := Nat.pow_le_pow_right (by omega) h
  have h2 : (256 : Nat) ^ 7 = 72057594037927936 := by decide
  omega
theorem num_step (zs : List Int) (k : Nat) (hr : ∀ y ∈ zs, 0 ≤ y ∧ y ≤ 255) (h8 : zs.length ≤ 8) (h : k < zs.length) :
    num (zs.take k) < 72057594037927936 ∧ bits .or .u64 ((num (zs.take k) : Int) * 256) (zs.getD k 0) = (num (zs.take (k + 1)) : Int) := by
  have hl := num_lt (zs.take k) (fun y hy => hr y (List.mem_of_mem_take hy))
  rw [List.length_take, Nat.min_eq_left (by omega)] at hl
  have hp := pow256 (k := k) (by omega)
  have hy := hr (zs.getD k 0) (by rw [List.getD_eq_getElem?_getD, List.getElem?_eq_getElem h]; simp)
  rw [take_snoc zs k h, num_snoc]
  generalize zs.getD k 0 = y at hy
  generalize num (zs.take k) = a at hl
  obtain ⟨m, rfl⟩ := Int.eq_ofNat_of_zero_le hy.1
  have e2 : ((a : Int) * 256) = ((256 * a : Nat) : Int) := by omega
  refine ⟨by omega, ?_⟩
  rw [e2, u64_or_nat _ _ (by omega) (by omega), nat_join 8 _ _ (by omega) (by omega), Int.toNat_natCast]

/-- what each call tells: the value, how many bytes are read, the error -/
def sByte (ys : List Int) : Int × Nat × Int := if ys.length = 0 then (0, 0, 2) else (ys.getD 0 0, 1, 0)
def sBytes (n : Int) (ys : List Int) : List Int × Nat × Int := if n < 0 then ([], 0, 1) else if (ys.length : Int) < n then ([], 0, 2) else (ys.take n.toNat, n.toNat, 0)
def sFixed (n : Int) (ys : List Int) : Int × Nat × Int := if n < 0 ∨ 8 < n then (0, 0, 1) else if (ys.length : Int) < n then (0, 0, 2) else (num (ys.take n.toNat), n.toNat, 0)
def sVarint (ys : List Int) : Int × Nat × Int := ((rd 0 0 ys).1, (rd 0 0 ys).2.1.toNat, (rd 0 0 ys).2.2)
def sBlock (most : Int) (ys : List Int) : List Int × Nat × Int :=
  if most < 0 then ([], 0, 1) else if (sVarint ys).2.2 ≠ 0 then ([], 0, (sVarint ys).2.2) else if most < (sVarint ys).1 then ([], 0, 4)
  else if (ys.length : Int) - (sVarint ys).2.1 < (sVarint ys).1 then ([], 0, 2) else ((ys.drop (sVarint ys).2.1).take (sVarint ys).1.toNat, (sVarint ys).2.1 + (sVarint ys).1.toNat, 0)

/-- what rd tells: an error, and zeroes beside it; or a number, and how many bytes it has -/
theorem rd_cases (ys : List Int) (hr : ∀ y ∈ ys, 0 ≤ y ∧ y ≤ 255) : (∃ c, rd 0 0 ys = (0, 0, c) ∧ (c = 2 ∨ c = 3)) ∨ (∃ a k : Nat, rd 0 0 ys = ((a : Int), (k : Int), 0) ∧ 1 ≤ k ∧ k ≤ ys.length ∧ k ≤ 10 ∧ a < 18446744073709551616 ∧ gs a = ys.take k) := by
  obtain ⟨r, n, c, h⟩ : ∃ r n c, rd 0 0 ys = (r, n, c) := ⟨_, _, _, rfl⟩
  rcases rd_err ys 0 0 with h0 | ⟨h1, h2, h3⟩
  · right
    rw [h] at h0
    simp at h0
    subst h0
    obtain ⟨a, k, e1, e2, k1, k2, hg, _, hv⟩ := rd_ok ys 0 0 r n (by omega) hr h
    simp at e1 e2 hv
    subst e1; subst e2
    refine ⟨a, k, h, k1, k2, ?_, hv, hg⟩
    have h10 := gs_le10 (v := a) hv
    rw [hg, List.length_take] at h10
    omega
  · left
    rw [h] at h1 h2 h3
    simp at h1 h2 h3
    subst h1; subst h2
    exact ⟨c, h, h3⟩

set_option maxHeartbeats 400000 in
set_option maxRecDepth 100000 in
/-- A NUMBER of so many bytes. -/
theorem fixed_cur {w : World} {R : Nat} {v : Value} {ys : List Int} (h : CurAt 53 w R v ys) (n : Int) :
    Calls Try.prog 28 #[.pointer (some ⟨R, 0, none⟩), .int .i64 n] w fun e w' => e = .returned (.tuple #[.int .u64 (sFixed n ys).1, .int .i64 (sFixed n ys).2.2]) ∧
      ∃ v2, CurAt 53 w' R v2 (ys.drop (sFixed n ys).2.1) ∧ v2.ownBlock = v.ownBlock ∧ Only (fun k => k = R) w w' := by
  by_cases h8 : 8 < n
  · have HS : Hid (sFixed n ys = (0, 0, 1)) := if_pos (.inr h8)
    have HC := hideIt h
    clear h
    go_enter Try.func28, Try.ntmps28
    go_wp2
    go_ret2
    rw [HS.out]
    exact ⟨rfl, v, HC.out, rfl, Only.refl _ _⟩
  have d8 : decide (8 < n) = false := decide_eq_false h8
  by_cases h0 : n < 0
  · have HS : Hid (sFixed n ys = (0, 0, 1)) := if_pos (.inl h0)
    have A := hideIt (next_neg R n w h0)
    have HC := hideIt h
    clear h
    go_enter Try.func28, Try.ntmps28
    go_wp2_with fail
    refine A.out.mono ?_
    rintro e w1 ⟨rfl, rfl⟩
    go_wp2
    go_ret2
    rw [HS.out]
    exact ⟨rfl, v, HC.out, rfl, Only.refl _ _⟩
  obtain ⟨n, rfl⟩ := Int.eq_ofNat_of_zero_le (Int.not_lt.1 h0)
  by_cases hs : (ys.length : Int) < (n : Int)
  · have HS : Hid (sFixed n ys = (0, 0, 2)) := by
      simp only [Hid, sFixed]
      rw [if_neg (by omega), if_pos hs]
    have A := hideIt (next_short h n (by omega) hs)
    have HC := hideIt h
    clear h
    go_enter Try.func28, Try.ntmps28
    go_wp2_with fail
    refine A.out.mono ?_
    rintro e w1 ⟨rfl, rfl⟩
    go_wp2
    go_ret2
    rw [HS.out]
    exact ⟨rfl, v, HC.out, rfl, Only.refl _ _⟩
  · have HS : Hid (sFixed n ys = ((num (ys.take n) : Int), n, 0)) := by
      simp only [Hid, sFixed]
      rw [if_neg (by omega), if_neg hs]
      rfl
    have A := hideIt (next_ok h n (by omega))
    have HZR : Hid (∀ y ∈ ys.take n, 0 ≤ y ∧ y ≤ 255) := fun y hy => h.rng y (List.mem_of_mem_take hy)
    have HZL : Hid ((ys.take n).length = n) := by simp only [Hid, List.length_take]; omega
    clear h
    go_enter Try.func28, Try.ntmps28
    go_wp2_with fail
    refine A.out.mono ?_
    rintro e w1 ⟨ao, cap, v2, rfl, hb, _, hc, ho, hon⟩
    have HB := hideIt hb
    have HR := hideIt (And.intro hc (And.intro ho hon))
    clear hb hc ho hon A
    generalize ys.take n = zs at HB HZR HZL HS
    go_wp2
    go_loop [8, 24] (fun a i => ∃ k : Nat, k ≤ n ∧ i = .int .i64 k ∧ a = .int .u64 (num (zs.take k))) (fun _ i => n - (intOf i).toNat)
    case atStart => exact ⟨0, Nat.zero_le _, rfl, rfl⟩
    case round =>
      obtain ⟨k, hk, rfl, rfl⟩ := hrel
      by_cases hlt : k < n
      · obtain ⟨b, off, cap', e1, hx⟩ := HB.out.at k (by rw [HZL.out]; exact hlt)
        have ea : ao = some ⟨b, off, none⟩ := by simp at e1; exact e1.1
        subst ea
        clear e1
        obtain ⟨ha, hst⟩ := num_step zs k HZR.out (by rw [HZL.out]; omega) (by rw [HZL.out]; exact hlt)
        have hy := HZR.out (zs.getD k 0) (by rw [List.getD_eq_getElem?_getD, List.getElem?_eq_getElem (by rw [HZL.out]; exact hlt)]; simp)
        generalize zs.getD k 0 = y at hx hst hy
        have i0 : (0 : Int) ≤ (k : Int) := by omega
        have i1 : (k : Int) < (n : Int) := by omega
        have HST := hideIt hst
        have hsh : (num (zs.take k) : Int) * 256 ≤ 18446744073709551615 := by omega
        generalize num (zs.take k) = a at HST ha hsh
        clear hst
        go_wp2
        go_round
        case rel => exact ⟨k + 1, by omega, by go_num, by rw [HST.out]⟩
        case measure => simp [intOf]; omega
      · have hkn : k = n := by omega
        subst hkn
        go_wp2
        go_ret2
        rw [HS.out, List.take_of_length_le (by rw [HZL.out]; omega)]
        exact ⟨rfl, v2, HR.out⟩

set_option maxHeartbeats 400000 in
set_option maxRecDepth 100000 in
/-- SO MANY BYTES: new memory. -/
theorem bytes_cur {w : World} {R : Nat} {v : Value} {ys : List Int} (h : CurAt 53 w R v ys) (n : Int) :
    Calls Try.prog 29 #[.pointer (some ⟨R, 0, none⟩), .int .i64 n] w fun e w' => ∃ v1, e = .returned (.tuple #[v1, .int .i64 (sBytes n ys).2.2]) ∧ Bs .u8 w' v1 (sBytes n ys).1 ∧ NoCap v1 ∧ (∀ k, v1.ownBlock = some k → w.heap.size ≤ k) ∧
      ∃ v2, CurAt 53 w' R v2 (ys.drop (sBytes n ys).2.1) ∧ v2.ownBlock = v.ownBlock ∧ Only (fun k => k = R) w w' := by
  by_cases h0 : n < 0
  · have HS : Hid (sBytes n ys = ([], 0, 1)) := if_pos h0
    have A := hideIt (next_neg R n w h0)
    have HC := hideIt h
    clear h
    go_enter Try.func29, Try.ntmps29
    go_wp2_with fail
    refine A.out.mono ?_
    rintro e w1 ⟨rfl, rfl⟩
    go_wp2
    go_ret2
    rw [HS.out]
    exact ⟨.slice none 0 0, rfl, Bs.nil _ _, NoCap.nil, own_nil _, v, HC.out, rfl, Only.refl _ _⟩
  obtain ⟨n, rfl⟩ := Int.eq_ofNat_of_zero_le (Int.not_lt.1 h0)
  by_cases hs : (ys.length : Int) < (n : Int)
  · have HS : Hid (sBytes n ys = ([], 0, 2)) := by
      simp only [Hid, sBytes]
      rw [if_neg h0, if_pos hs]
    have A := hideIt (next_short h n (by omega) hs)
    have HC := hideIt h
    clear h
    go_enter Try.func29, Try.ntmps29
    go_wp2_with fail
    refine A.out.mono ?_
    rintro e w1 ⟨rfl, rfl⟩
    go_wp2
    go_ret2
    rw [HS.out]
    exact ⟨.slice none 0 0, rfl, Bs.nil _ _, NoCap.nil, own_nil _, v, HC.out, rfl, Only.refl _ _⟩
  · have HS : Hid (sBytes n ys = (ys.take n, n, 0)) := by
      simp only [Hid, sBytes]
      rw [if_neg h0, if_neg hs]
      rfl
    have A := hideIt (next_ok h n (by omega))
    have hlen := h.len
    have hRw : R < w.heap.size := (Array.getElem?_eq_some_iff.1 h.cell).1
    clear h
    go_enter Try.func29, Try.ntmps29
    go_wp2_with fail
    refine A.out.mono ?_
    rintro e w1 ⟨ao, cap, v2, rfl, hb, _, hc, ho, hon⟩
    have B := hideIt (clone_bs _ _ w1 hb (by rw [List.length_take]; omega))
    have HR := hideIt (And.intro hc (And.intro ho hon))
    clear hb hc ho hon A
    go_wp2_with fail
    refine B.out.mono ?_
    rintro e w2 ⟨v1, rfl, hown, hon2⟩
    have F : Hid (Bs .u8 w2 v1 (ys.take n) ∧ NoCap v1 ∧ (∀ k, v1.ownBlock = some k → w.heap.size ≤ k) ∧ CurAt 53 w2 R v2 (ys.drop n) ∧ v2.ownBlock = v.ownBlock ∧ Only (fun k => k = R) w w2) := by
      obtain ⟨hc, ho, hon⟩ := HR.out
      exact ⟨Bs.of_own hown, NoCap.of_own hown, fun k hk => Nat.le_trans hon.size (hown.lt k hk).1, hc.keep hon2 (fun f => f) (fun _ _ f => f), ho, hon.trans hon2 (fun _ _ f => f.elim)⟩
    clear hown hon2 B HR
    go_wp2
    go_ret2
    rw [HS.out]
    obtain ⟨f1, f2, f3, f4⟩ := F.out
    exact ⟨v1, rfl, f1, f2, f3, v2, f4⟩

theorem sVarint_gs (v : Nat) (t : List Int) (h : v < 18446744073709551616) : sVarint (gs v ++ t) = ((v : Int), (gs v).length, 0) := by
  have := rd_gs t v 0 0 (by omega) (by simpa using h) (fun h => by omega)
  rw [sVarint, this]
  simp
end Go.Proofs.Ytfoghkjlpdjmiaa
