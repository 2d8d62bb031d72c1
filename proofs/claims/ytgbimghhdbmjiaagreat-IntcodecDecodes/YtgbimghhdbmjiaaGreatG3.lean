/- Several texts in one: VMath, Vr, Vr2, Vr3, Cu. -/
import Derived.Test.YtgbimghhdbmjiaaGreatG1
import Derived.Lib.AppendZerosOnto
import Derived.Lib.SliceRun
import Derived.Test.YtgbimghhdbmjiaaGreatG2

/- Numbers in groups of seven bits, and what is read of bytes: plain facts, no program is named here. -/
namespace Go.Proofs.YtgbimghhdbmjiaaGreat

/-- v in groups of seven bits, the lowest first, at most f + 1 of them -/
def gsF : Nat → Nat → List Int
  | 0, v => [(v : Int)]
  | f + 1, v => if v < 128 then [(v : Int)] else ((v % 128 + 128 : Nat) : Int) :: gsF f (v / 128)
/-- v in groups of seven bits, the lowest first -/
def gs (v : Nat) : List Int := gsF v v
theorem gsF_more (f : Nat) : ∀ (g v : Nat), v ≤ f → v ≤ g → gsF f v = gsF g v := by
  induction f with
  | zero =>
    intro g v h _
    obtain rfl : v = 0 := by omega
    cases g with
    | zero => rfl
    | succ g => simp [gsF]
  | succ f ih =>
    intro g v h h2
    cases g with
    | zero =>
      obtain rfl : v = 0 := by omega
      simp [gsF]
    | succ g =>
      simp only [gsF]
      by_cases hv : v < 128
      · rw [if_pos hv, if_pos hv]
      · rw [if_neg hv, if_neg hv, ih g (v / 128) (by omega) (by omega)]
theorem gs_small {v : Nat} (h : v < 128) : gs v = [(v : Int)] := by
  unfold gs
  cases v with
  | zero => rfl
  | succ v => rw [gsF, if_pos h]
theorem gs_big {v : Nat} (h : 128 ≤ v) : gs v = ((v % 128 + 128 : Nat) : Int) :: gs (v / 128) := by
  unfold gs
  obtain ⟨u, rfl⟩ : ∃ u, v = u + 1 := ⟨v - 1, by omega⟩
  rw [gsF, if_neg (by omega), gsF_more u ((u + 1) / 128) ((u + 1) / 128) (by omega) (Nat.le_refl _)]
theorem gs_pos (v : Nat) : 0 < (gs v).length := by
  rcases Nat.lt_or_ge v 128 with h | h
  · rw [gs_small h]; simp
  · rw [gs_big h]; simp
theorem gs_ne (v : Nat) : gs v ≠ [] := by
  intro h
  have := gs_pos v
  rw [h] at this
  simp at this
theorem gs_len (v : Nat) : (gs v).length = (max (wid v) 1 + 6) / 7 := by
  induction v using Nat.strongRecOn with
  | _ v ih =>
    rcases Nat.lt_or_ge v 128 with h | h
    · rw [gs_small h]
      have : wid v ≤ 7 := (wid_le_iff v 7).2 (by simpa using h)
      simp
      omega
    · rw [gs_big h, List.length_cons, ih (v / 128) (by omega)]
      have h1 := wid_div v 7 (by simpa using h)
      rw [show (2 : Nat) ^ 7 = 128 from rfl] at h1
      have h2 : 0 < wid (v / 128) := by
        rcases Nat.eq_zero_or_pos (wid (v / 128)) with h0 | h0
        · have := (wid_le_iff (v / 128) 0).1 (by omega)
          simp at this
          omega
        · exact h0
      omega
theorem wid_mono {a b : Nat} (h : a ≤ b) : wid a ≤ wid b := (wid_le_iff a (wid b)).2 (Nat.lt_of_le_of_lt h ((wid_le_iff b (wid b)).1 (Nat.le_refl _)))
theorem gs_mono {a b : Nat} (h : a ≤ b) : (gs a).length ≤ (gs b).length := by
  have := wid_mono h
  rw [gs_len, gs_len]
  omega
theorem gs_le10 {v : Nat} (h : v < 18446744073709551616) : (gs v).length ≤ 10 := by
  have := wid_le64 v h
  rw [gs_len]
  omega
theorem gs_range (v : Nat) : ∀ x ∈ gs v, 0 ≤ x ∧ x ≤ 255 := by
  induction v using Nat.strongRecOn with
  | _ v ih =>
    rcases Nat.lt_or_ge v 128 with h | h
    · rw [gs_small h]
      intro x hx
      simp at hx
      omega
    · rw [gs_big h]
      intro x hx
      rcases List.mem_cons.1 hx with hx | hx
      · omega
      · exact ih (v / 128) (by omega) x hx

/-- what is read: the number, how many bytes, and the error -/
def rd (i : Nat) (acc : Int) : List Int → Int × Int × Int
  | [] => (0, 0, 2)
  | c :: t => if i = 9 ∧ 1 < c then (0, 0, 3) else if 128 ≤ c then rd (i + 1) (acc + c % 128 * 128 ^ i) t else if c = 0 ∧ 0 < i then (0, 0, 3) else (acc + c * 128 ^ i, (i : Int) + 1, 0)

theorem rd_nil (i : Nat) (acc : Int) : rd i acc [] = (0, 0, 2) := rfl
theorem rd_cons (i : Nat) (acc c : Int) (t : List Int) : rd i acc (c :: t) = if i = 9 ∧ 1 < c then (0, 0, 3) else if 128 ≤ c then rd (i + 1) (acc + c % 128 * 128 ^ i) t else if c = 0 ∧ 0 < i then (0, 0, 3) else (acc + c * 128 ^ i, (i : Int) + 1, 0) := rfl

theorem rd_take (xs : List Int) : ∀ (i n : Nat) (acc : Int), i ≤ 9 → 10 ≤ i + n → rd i acc (xs.take n) = rd i acc xs := by
  induction xs with
  | nil => intro i n acc _ _; simp
  | cons c t ih =>
    intro i n acc hi hn
    obtain ⟨m, rfl⟩ : ∃ m, n = m + 1 := ⟨n - 1, by omega⟩
    rw [List.take_succ_cons, rd_cons, rd_cons]
    by_cases h1 : i = 9 ∧ 1 < c
    · rw [if_pos h1, if_pos h1]
    · rw [if_neg h1, if_neg h1]
      by_cases h2 : 128 ≤ c
      · rw [if_pos h2, if_pos h2, ih (i + 1) m _ (by omega) (by omega)]
      · rw [if_neg h2, if_neg h2]

theorem pow_lt_of {i v : Nat} (hi : i ≤ 9) (hv : v < 2 ^ (64 - 7 * i)) (h : 128 ≤ v) : i ≤ 8 ∧ v / 128 < 2 ^ (64 - 7 * (i + 1)) := by
  have hi8 : i ≤ 8 := by
    rcases Nat.lt_or_ge i 9 with h9 | h9
    · omega
    · have : i = 9 := by omega
      subst this
      simp at hv
      omega
  refine ⟨hi8, ?_⟩
  have e : 2 ^ (64 - 7 * i) = 2 ^ (64 - 7 * (i + 1)) * 128 := by
    rw [show 64 - 7 * i = 64 - 7 * (i + 1) + 7 by omega, Nat.pow_add]
  omega

/-- READ OF WHAT WAS WRITTEN, whatever stands behind. -/
theorem rd_gs (t : List Int) (v : Nat) : ∀ (i : Nat) (acc : Int), i ≤ 9 → v < 2 ^ (64 - 7 * i) → (0 < i → 0 < v) → rd i acc (gs v ++ t) = (acc + v * 128 ^ i, (i : Int) + (gs v).length, 0) := by
  induction v using Nat.strongRecOn with
  | _ v ih =>
    intro i acc hi hv h0
    rcases Nat.lt_or_ge v 128 with h | h
    · rw [gs_small h, List.singleton_append, rd_cons, if_neg, if_neg (by omega), if_neg]
      · rfl
      · intro hc; have := h0 hc.2; omega
      · rintro ⟨rfl, hc⟩
        simp at hv
        omega
    · obtain ⟨hi8, hlt⟩ := pow_lt_of hi hv h
      rw [gs_big h, List.cons_append, rd_cons, if_neg (by omega), if_pos (by omega), ih (v / 128) (by omega) (i + 1) _ (by omega) hlt (by omega)]
      refine Prod.ext ?_ (Prod.ext ?_ rfl)
      · simp only
        rw [Int.pow_succ]
        have e : (((v % 128 + 128 : Nat) : Int)) % 128 = ((v % 128 : Nat) : Int) := by omega
        have e2 : (v : Int) = ((v % 128 : Nat) : Int) + 128 * ((v / 128 : Nat) : Int) := by omega
        rw [e]
        generalize (128 : Int) ^ i = p
        generalize ((v % 128 : Nat) : Int) = a at e2 ⊢
        generalize ((v / 128 : Nat) : Int) = b at e2 ⊢
        rw [e2, Int.add_mul, Int.mul_comm p 128, ← Int.mul_assoc, Int.mul_comm b 128, Int.add_assoc]
      · simp only [List.length_cons]
        omega

theorem rd_short (v : Nat) : ∀ (i k : Nat) (acc : Int), i ≤ 9 → v < 2 ^ (64 - 7 * i) → k < (gs v).length → rd i acc ((gs v).take k) = (0, 0, 2) := by
  induction v using Nat.strongRecOn with
  | _ v ih =>
    intro i k acc hi hv hk
    rcases Nat.lt_or_ge v 128 with h | h
    · rw [gs_small h] at hk ⊢
      simp at hk
      subst hk
      rfl
    · obtain ⟨hi8, hlt⟩ := pow_lt_of hi hv h
      rw [gs_big h] at hk ⊢
      cases k with
      | zero => rfl
      | succ k =>
        rw [List.take_succ_cons, rd_cons, if_neg (by omega), if_pos (by omega), ih (v / 128) (by omega) (i + 1) k _ (by omega) hlt (by simpa using hk)]

/-- WHAT IS READ WAS WRITTEN. -/
theorem rd_ok (xs : List Int) : ∀ (i : Nat) (acc r n : Int), i ≤ 9 → (∀ x ∈ xs, 0 ≤ x ∧ x ≤ 255) → rd i acc xs = (r, n, 0) →
    ∃ v k : Nat, r = acc + v * 128 ^ i ∧ n = (i : Int) + k ∧ 1 ≤ k ∧ k ≤ xs.length ∧ gs v = xs.take k ∧ (0 < i → 0 < v) ∧ v < 2 ^ (64 - 7 * i) := by
  induction xs with
  | nil => intro i acc r n _ _ h; simp [rd_nil] at h
  | cons c t ih =>
    intro i acc r n hi hx h
    have hc := hx c (by simp)
    rw [rd_cons] at h
    by_cases h1 : i = 9 ∧ 1 < c
    · rw [if_pos h1] at h; simp at h
    · rw [if_neg h1] at h
      by_cases h2 : 128 ≤ c
      · rw [if_pos h2] at h
        have hi8 : i + 1 ≤ 9 := by omega
        obtain ⟨v, k, hr, hn, hk1, hk2, hg, hv0, hv⟩ := ih (i + 1) _ r n hi8 (fun x hx' => hx x (by simp [hx'])) h
        have hvp := hv0 (by omega)
        refine ⟨c.toNat % 128 + 128 * v, k + 1, ?_, by omega, by omega, by simp; omega, ?_, fun _ => by omega, ?_⟩
        · rw [hr, Int.pow_succ]
          have e : ((c.toNat % 128 + 128 * v : Nat) : Int) = c % 128 + 128 * (v : Int) := by omega
          rw [e]
          generalize (128 : Int) ^ i = p
          rw [Int.add_mul, Int.mul_comm p 128, ← Int.mul_assoc, Int.mul_comm (v : Int) 128, Int.add_assoc]
        · rw [gs_big (by omega), List.take_succ_cons, ← hg]
          congr 1
          · omega
          · congr 1; omega
        · have e : 2 ^ (64 - 7 * i) = 2 ^ (64 - 7 * (i + 1)) * 128 := by
            rw [show 64 - 7 * i = 64 - 7 * (i + 1) + 7 by omega, Nat.pow_add]
          omega
      · rw [if_neg h2] at h
        by_cases h3 : c = 0 ∧ 0 < i
        · rw [if_pos h3] at h; simp at h
        · rw [if_neg h3] at h
          simp only [Prod.mk.injEq] at h
          refine ⟨c.toNat, 1, ?_, by omega, by omega, by simp, ?_, fun _ => by omega, ?_⟩
          · rw [← h.1, Int.toNat_of_nonneg hc.1]
          · rw [gs_small (by omega)]
            simp [Int.toNat_of_nonneg hc.1]
          · by_cases h9 : i = 9
            · subst h9; simp; omega
            · have : 2 ^ 7 ≤ 2 ^ (64 - 7 * i) := Nat.pow_le_pow_right (by omega) (by omega)
              have : (2 : Nat) ^ 7 = 128 := rfl
              omega

theorem rd_err (xs : List Int) : ∀ (i : Nat) (acc : Int), (rd i acc xs).2.2 = 0 ∨ ((rd i acc xs).1 = 0 ∧ (rd i acc xs).2.1 = 0 ∧ ((rd i acc xs).2.2 = 2 ∨ (rd i acc xs).2.2 = 3)) := by
  induction xs with
  | nil => intro i acc; right; simp [rd_nil]
  | cons c t ih =>
    intro i acc
    rw [rd_cons]
    by_cases h1 : i = 9 ∧ 1 < c
    · rw [if_pos h1]; right; simp
    · rw [if_neg h1]
      by_cases h2 : 128 ≤ c
      · rw [if_pos h2]; exact ih _ _
      · rw [if_neg h2]
        by_cases h3 : c = 0 ∧ 0 < i
        · rw [if_pos h3]; right; simp
        · rw [if_neg h3]; left; rfl

/-- how the numbers stand one behind the other -/
def allG (l : List Int) : List Int := l.flatMap fun x => gs x.toNat
theorem allG_take (l : List Int) (k : Nat) (h : k < l.length) : allG (l.take (k + 1)) = allG (l.take k) ++ gs (l.getD k 0).toNat := by
  rw [List.take_succ_eq_append_getElem h, List.getD_eq_getElem?_getD, List.getElem?_eq_getElem h]
  unfold allG
  rw [List.flatMap_append, List.flatMap_singleton]; rfl
theorem allG_drop (l : List Int) (k : Nat) (h : k < l.length) : allG (l.drop k) = gs (l.getD k 0).toNat ++ allG (l.drop (k + 1)) := by
  rw [List.drop_eq_getElem_cons h, List.getD_eq_getElem?_getD, List.getElem?_eq_getElem h]
  rfl
theorem allG_len (l : List Int) (h : ∀ x ∈ l, 0 ≤ x ∧ x ≤ 18446744073709551615) : (allG l).length ≤ 10 * l.length := by
  induction l with
  | nil => simp [allG]
  | cons a t ih =>
    have ha := h a (by simp)
    have h1 := gs_le10 (v := a.toNat) (by omega)
    have h2 := ih (fun x hx => h x (by simp [hx]))
    simp only [allG, List.flatMap_cons, List.length_append, List.length_cons] at h2 ⊢
    omega

/-! signs -/
def zig (n : Int) : Int := if 0 ≤ n then 2 * n else -2 * n - 1
def zag (v : Int) : Int := if v % 2 = 0 then v / 2 else -(v / 2) - 1
theorem zag_zig (n : Int) : zag (zig n) = n := by
  unfold zag zig
  split <;> split <;> omega
theorem zig_zag (v : Int) (h : 0 ≤ v) : zig (zag v) = v := by
  unfold zag zig
  split <;> split <;> omega
theorem zig_bounds (n : Int) (h0 : -9223372036854775808 ≤ n) (h1 : n ≤ 9223372036854775807) : 0 ≤ zig n ∧ zig n ≤ 18446744073709551615 := by
  unfold zig; split <;> omega
theorem zag_bounds (v : Int) (h0 : 0 ≤ v) (h1 : v ≤ 18446744073709551615) : -9223372036854775808 ≤ zag v ∧ zag v ≤ 9223372036854775807 := by
  unfold zag; split <;> omega

theorem allG_range (l : List Int) : ∀ x ∈ allG l, 0 ≤ x ∧ x ≤ 255 := by
  intro x hx
  simp only [allG, List.mem_flatMap] at hx
  obtain ⟨y, _, hy⟩ := hx
  exact gs_range _ x hy
theorem allG_le (l : List Int) (k : Nat) (h : ∀ x ∈ l, 0 ≤ x ∧ x ≤ 18446744073709551615) : (allG (l.take k)).length ≤ 10 * l.length := by
  have h1 := allG_len (l.take k) (fun x hx => h x (List.mem_of_mem_take hx))
  have h2 : (l.take k).length ≤ l.length := by rw [List.length_take]; omega
  omega

end Go.Proofs.YtgbimghhdbmjiaaGreat

/- Contracts of package varint: Size, Zig, Zag, groups. -/
namespace Go.Proofs.YtgbimghhdbmjiaaGreat
open Go.RowKit

theorem Tryz.infoU8 : (Tryz.prog.info? 5).map (fun i => (i.zero, i.size, i.bytes)) = some (some (.int .u8 0), 1, 1) := by kernel_rfl

set_option maxHeartbeats 400000 in
set_option maxRecDepth 100000 in
theorem zig_any (n : Int) (w : World) (h0 : -9223372036854775808 ≤ n) (h1 : n ≤ 9223372036854775807) :
    Calls Tryz.prog 40 #[.int .i64 n] w fun e w' => e = .returned (.int .u64 (zig n)) ∧ w = w' := by
  go_enter Tryz.func40, Tryz.ntmps40
  go_wp2
  all_goals go_ret
  all_goals refine ⟨ret_int ?_, rfl⟩
  all_goals (unfold zig; split <;> omega)
set_option maxHeartbeats 400000 in
set_option maxRecDepth 100000 in
theorem zag_any (v : Int) (w : World) (h0 : 0 ≤ v) (h1 : v ≤ 18446744073709551615) :
    Calls Tryz.prog 55 #[.int .u64 v] w fun e w' => e = .returned (.int .i64 (zag v)) ∧ w = w' := by
  go_enter Tryz.func55, Tryz.ntmps55
  go_wp2
  all_goals go_ret
  all_goals refine ⟨ret_int ?_, rfl⟩
  all_goals (rename_i h; simp at h; unfold zag; split <;> omega)

theorem and7 (x : Nat) (h : x < 18446744073709551616) : bits .and .u64 (x : Int) 127 = ((x % 128 : Nat) : Int) := by
  rw [show (127 : Int) = ((127 : Nat) : Int) from rfl, u64_and_nat _ _ h (by omega), nat_mask7]

set_option maxHeartbeats 400000 in
set_option maxRecDepth 100000 in
/-- THE GROUPS of a number: new memory. -/
theorem groups_any (v : Int) (w : World) (h0 : 0 ≤ v) (h1 : v ≤ 18446744073709551615) :
    Calls Tryz.prog 76 #[.int .u64 v] w fun e w' => ∃ v', e = .returned v' ∧ w'.ownsRow w.heap.size 5 1 v' (gs v.toNat).length ((gs v.toNat).map (Value.int .u8)) ∧ Only (fun _ => False) w w' := by
  obtain ⟨i0, hi, hz0, hz1, hz2⟩ := info_parts Tryz.infoU8
  have hmk : ∀ w, (Instr.makeSlice 22 (.int .i64 0) (.int .i64 10)).run Tryz.prog w = .ok (.slice (some ⟨w.heap.size, 0, none⟩) 0 10) (w.alloc (.cells #[.int .u8 0, .int .u8 0, .int .u8 0, .int .u8 0, .int .u8 0, .int .u8 0, .int .u8 0, .int .u8 0, .int .u8 0, .int .u8 0] 5)) := fun _ => by kernel_rfl
  have START : Hid ((w.alloc (.cells #[.int .u8 0, .int .u8 0, .int .u8 0, .int .u8 0, .int .u8 0, .int .u8 0, .int .u8 0, .int .u8 0, .int .u8 0, .int .u8 0] 5)).ownsRow w.heap.size 5 1 (.slice (some ⟨w.heap.size, 0, none⟩) 0 10) 0 []) :=
    World.ownsRow_made w _ 10 (Nat.le_refl _) (by unfold maxLen; omega) rfl
  have H10 := hideIt (gs_le10 (v := v.toNat) (by omega))
  go_enter Tryz.func76, Tryz.ntmps76
  go_wp2
  go_loopw [0, 3] (fun a o wr => ∃ (x k : Nat) (p : List Int), a = .int .u64 x ∧ x < 18446744073709551616 ∧ p ++ gs x = gs v.toNat ∧ k = p.length ∧ wr.ownsRow w.heap.size 5 1 o k (p.map (Value.int .u8)) ∧ Below w.heap.size w wr) (fun a _ _ => (intOf a).toNat)
  case atStart => exact ⟨v.toNat, 0, [], by rw [Int.toNat_of_nonneg h0], by omega, rfl, rfl, START.out, (Below.refl _ _).alloc (Nat.le_refl _) _⟩
  case round =>
    obtain ⟨x, k, p, rfl, hx, hp, hk, hown, hbel⟩ := hrel
    have hk9 : k ≤ 9 := by
      have h := congrArg List.length hp
      have := H10.out
      have := gs_pos x
      rw [List.length_append] at h
      omega
    have HP := hideIt hp
    have HK := hideIt hk
    have hsz := hbel.size
    clear hp hk START
    by_cases hlt : 127 < x
    · have hlt' : decide (127 < (x : Int)) = true := by simp; omega
      have B7 := and7 x hx
      obtain ⟨r, hr⟩ : ∃ r : Nat, r = x % 128 := ⟨_, rfl⟩
      have hr1 : r < 128 := by omega
      rw [← hr] at B7
      have HR := hideIt hr
      clear hr
      go_wp2_with (at_builtin; refine wpList_append_lies _ rfl _ _ _ rfl w.heap.size 5 i0 (.int .u8 0) 1 1 Tryz.underlying22 hi hz0 hz1 hz2 rfl (by omega) _ k (p.map (Value.int .u8)) rfl (hown.alloc _) ⟨wr.heap.size, 0, none⟩ 1 1 [.int .u8 ((r : Int) + 128)] rfl rfl ?c1 ?c2 (by omega) ?c3 ?c4 ?c5 (wr.heap.size + 1) (by simp) ?_)
      case c1 => exact cell_one_new _ _ _
      case c2 => intro u hu; simp at hu; subst hu; rfl
      case c3 => unfold maxLen; omega
      case c4 => omega
      case c5 => simp; omega
      intro g cap1 w1 hown1 hgrow hat hg1
      have hb1 : Below w.heap.size w w1 := (hbel.alloc hbel.size _).grown hgrow (by simp; omega) (fun q hq => (hown.lt q hq).1)
      have hown2 : w1.ownsRow w.heap.size 5 1 (.slice (some ⟨g, 0, none⟩) (k + 1) cap1) (k + 1) ((p ++ [(r : Int) + 128]).map (Value.int .u8)) := by
        rw [List.map_append]; exact hown1
      clear hown hown1 hgrow hat hbel
      go_wp2
      go_roundw
      case rel =>
        refine ⟨x / 128, k + 1, p ++ [(r : Int) + 128], by go_num, by omega, ?_, by rw [List.length_append, ← HK.out]; rfl, hown2, hb1⟩
        rw [← HP.out, gs_big (v := x) (by omega), ← HR.out]
        simp
      case measure => simp [intOf]; omega
    · have hlt' : decide (127 < (x : Int)) = false := by simp; omega
      go_wp2_with (at_builtin; refine wpList_append_lies _ rfl _ _ _ rfl w.heap.size 5 i0 (.int .u8 0) 1 1 Tryz.underlying22 hi hz0 hz1 hz2 rfl (by omega) _ k (p.map (Value.int .u8)) rfl (hown.alloc _) ⟨wr.heap.size, 0, none⟩ 1 1 [.int .u8 (x : Int)] rfl rfl ?c1 ?c2 (by omega) ?c3 ?c4 ?c5 (wr.heap.size + 1) (by simp) ?_)
      case c1 => exact cell_one_new _ _ _
      case c2 => intro u hu; simp at hu; subst hu; rfl
      case c3 => unfold maxLen; omega
      case c4 => omega
      case c5 => simp; omega
      intro g cap1 w1 hown1 hgrow hat hg1
      have hb1 : Below w.heap.size w w1 := (hbel.alloc hbel.size _).grown hgrow (by simp; omega) (fun q hq => (hown.lt q hq).1)
      have hown2 : Hid (w1.ownsRow w.heap.size 5 1 (.slice (some ⟨g, 0, none⟩) (k + 1) cap1) (gs v.toNat).length ((gs v.toNat).map (Value.int .u8))) := by
        rw [← HP.out, gs_small (v := x) (by omega), List.length_append, ← HK.out, List.map_append]; exact hown1
      have hb2 := hideIt hb1
      clear hown hown1 hgrow hat hbel hb1
      go_wp2
      go_ret
      exact ⟨_, rfl, hown2.out, only_of_below hb2.out⟩
end Go.Proofs.YtgbimghhdbmjiaaGreat

/- Contracts of slices.Grow of nothing, slices.Concat of two slices of bytes, and of package varint's Append. -/
namespace Go.Proofs.YtgbimghhdbmjiaaGreat
open Go.RowKit

set_option maxHeartbeats 800000 in
set_option maxRecDepth 100000 in
theorem grow_nil (n : Nat) (w : World) (h0 : 0 < n) (h1 : n ≤ 140737488355328) :
    Calls Tryz.prog 41 #[.slice none 0 0, .int .i64 n] w fun e w' => ∃ G, e = .returned (.slice (some ⟨w.heap.size, 0, none⟩) 0 G) ∧ w'.ownsRow w.heap.size 5 1 (.slice (some ⟨w.heap.size, 0, none⟩) 0 G) 0 [] ∧ Only (fun _ => False) w w' := by
  obtain ⟨i0, hi, hz0, hz1, hz2⟩ := info_parts Tryz.infoU8
  have hrz : ∀ ty, (Builtin.append_ #[22, 3] ty #[.slice none 0 0, .int .i64 (n : Int)]).run Tryz.prog w =
      .ok (.slice (some ⟨w.heap.size, 0, none⟩) n (grownCap w n 0 5)) (w.drew.alloc (.cells (Builtin.zeroCells (Value.int .u8 0).cells n ++ Builtin.zeroCells (Value.int .u8 0).cells (grownCap w n 0 5 - n)) 5)) := fun ty =>
    Lib.run_append_nil_zeros w 22 3 ty 5 i0 (.int .u8 0) .i64 .i64 Tryz.underlying22 Tryz.underlying3 hi hz0 n h0 (by omega) (by omega) (by rw [hz2]; omega)
  have hGn : n ≤ grownCap w n 0 5 := grownCap_ge w _ _ _
  have hGm : grownCap w n 0 5 ≤ maxLen := grownCap_le_maxLen w n 0 5 (by unfold maxLen; omega)
  obtain ⟨G, hG⟩ : ∃ G, G = grownCap w n 0 5 := ⟨_, rfl⟩
  rw [← hG] at hrz hGn hGm
  have hG63 : G ≤ 9223372036854775807 := by unfold maxLen at hGm; omega
  have HM := hideIt hGm
  have d0 : decide ((n : Int) < 0) = false := by simp
  have d1 : decide (0 < (n : Int)) = true := by simp; omega
  obtain ⟨cs, hcs⟩ : ∃ cs, cs = Builtin.zeroCells (Value.int .u8 0).cells n ++ Builtin.zeroCells (Value.int .u8 0).cells (G - n) := ⟨_, rfl⟩
  have hsz : Hid (cs.size = G * 1) := by
    have hs : ∀ q, (Builtin.zeroCells (Value.int .u8 0).cells q).size = q := fun q => by simp [Builtin.zeroCells, Value.cells]
    simp only [Hid]
    rw [hcs, Array.size_append, hs, hs]; omega
  rw [← hcs] at hrz
  clear hG hGm hcs
  go_enter Tryz.func41, Tryz.ntmps41
  go_wp2_with (at_builtin; refine Lib.wpList_append_run _ rfl _ _ _ _ rfl _ _ rfl rfl _ _ (hrz _) ?_)
  go_ret
  exact ⟨G, rfl, World.ownsRow_made (w := w.drew) (base := w.heap.size) (e := 5) (size := 1) cs G (Nat.le_refl _) HM.out hsz.out, (Only.refl _ _).drew.alloc _⟩

set_option maxHeartbeats 1600000 in
set_option maxRecDepth 100000 in
/-- TWO SLICES OF BYTES, one behind the other: new memory. -/
theorem concat_two (B : Nat) (va vb : Value) (xs ys : List Int) (w : World) (c0 : w.cell? ⟨B, 0, none⟩ = some va) (c1 : w.cell? ⟨B, 1, none⟩ = some vb)
    (ha : Bs .u8 w va xs) (hb : Bs .u8 w vb ys) (na : NoCap va) (nb : NoCap vb) (hp : 0 < xs.length + ys.length) (hl : xs.length + ys.length ≤ 140737488355328) :
    Calls Tryz.prog 20 #[.slice (some ⟨B, 0, none⟩) 2 2] w fun e w' => ∃ v', e = .returned v' ∧ w'.ownsRow w.heap.size 5 1 v' (xs ++ ys).length ((xs ++ ys).map (Value.int .u8)) ∧ Only (fun _ => False) w w' := by
  obtain ⟨i0, hi, hz0, hz1, hz2⟩ := info_parts Tryz.infoU8
  have HA := hideIt ha
  have HB := hideIt hb
  have NA := hideIt na
  have NB := hideIt nb
  obtain ⟨aa, ca, rfl⟩ := ha.len
  obtain ⟨ab, cb, rfl⟩ := hb.len
  obtain ⟨n, hn⟩ : ∃ n, n = xs.length := ⟨_, rfl⟩
  obtain ⟨m, hm⟩ : ∃ m, m = ys.length := ⟨_, rfl⟩
  rw [← hn] at c0 hp hl HA NA
  rw [← hm] at c1 hp hl HB NB
  have HN := hideIt hn
  have HM := hideIt hm
  have hBw : B < w.heap.size := World.block_lt_of_cell? w _ c0
  clear ha hb na nb hn hm
  go_enter Tryz.func20, Tryz.ntmps20
  go_wp2
  go_loop [3, 11] (fun s i => (i = .int .i64 0 ∧ s = .int .i64 0) ∨ (i = .int .i64 1 ∧ s = .int .i64 n) ∨ (i = .int .i64 2 ∧ s = .int .i64 ((n : Int) + m))) (fun _ i => 2 - (intOf i).toNat)
  case atStart => exact .inl ⟨rfl, rfl⟩
  case round =>
    rcases hrel with ⟨rfl, rfl⟩ | ⟨rfl, rfl⟩ | ⟨rfl, rfl⟩
    · have d0 : decide ((n : Int) < 0) = false := by simp
      go_wp2
      go_round
      case rel => exact .inr (.inl ⟨rfl, rfl⟩)
      case measure => simp [intOf]
    · have d0 : decide ((n : Int) + m < 0) = false := by simp; omega
      go_wp2
      go_round
      case rel => exact .inr (.inr ⟨rfl, rfl⟩)
      case measure => simp [intOf]
    · have GN := hideIt (grow_nil (n + m) w (by omega) (by omega))
      go_wp2_with fail
      rw [show ((n : Int) + (m : Int)) = ((n + m : Nat) : Int) by omega]
      refine GN.out.mono ?_
      rintro e w2 ⟨G, rfl, hown, hon⟩
      have hbel : Below w.heap.size w w2 := hon.low (Nat.le_refl _)
      go_wp2
      go_loopw [6, 27] (fun o i wr => Below w.heap.size w wr ∧ ((i = .int .i64 0 ∧ wr.ownsRow w.heap.size 5 1 o 0 []) ∨ (i = .int .i64 1 ∧ wr.ownsRow w.heap.size 5 1 o n (xs.map (Value.int .u8))) ∨ (i = .int .i64 2 ∧ wr.ownsRow w.heap.size 5 1 o (n + m) ((xs ++ ys).map (Value.int .u8))))) (fun _ i _ => 2 - (intOf i).toNat)
      case atStart => exact ⟨hbel, .inl ⟨rfl, hown⟩⟩
      case round =>
        obtain ⟨hbw, hr⟩ := hrel
        clear hbel hown hon GN
        have d0 := (hbw.cell (p := ⟨B, 0, none⟩) hBw).trans c0
        have d1 := (hbw.cell (p := ⟨B, 1, none⟩) hBw).trans c1
        have hsz := hbw.size
        rcases hr with ⟨rfl, hown⟩ | ⟨rfl, hown⟩ | ⟨rfl, hown⟩
        · have HBA := hideIt (HA.out.later hbw)
          go_wp2_with (at_builtin; refine wpList_append_bs _ rfl _ _ _ rfl w.heap.size 5 i0 (.int .u8 0) 1 Tryz.underlying22 hi hz0 hz1 hz2 rfl _ 0 [] rfl hown .u8 _ xs rfl HBA.out NA.out ?c3 ?c4 hsz ?_)
          case c3 => rw [← HN.out]; unfold maxLen; omega
          case c4 => rw [← HN.out]; omega
          intro v' w3 hown1 hgrow _ _
          rw [← HN.out] at hown1
          have hb3 : Below w.heap.size w w3 := hbw.grown hgrow hsz (fun q hq => (hown.lt q hq).1)
          clear hown hgrow
          go_wp2
          go_roundw
          case rel => exact ⟨hb3, .inr (.inl ⟨rfl, by simpa using hown1⟩)⟩
          case measure => simp [intOf]
        · have HBB := hideIt (HB.out.later hbw)
          go_wp2_with (at_builtin; refine wpList_append_bs _ rfl _ _ _ rfl w.heap.size 5 i0 (.int .u8 0) 1 Tryz.underlying22 hi hz0 hz1 hz2 rfl _ n (xs.map (Value.int .u8)) rfl hown .u8 _ ys rfl HBB.out NB.out ?c3 ?c4 hsz ?_)
          case c3 => rw [← HM.out]; unfold maxLen; omega
          case c4 => rw [← HM.out]; omega
          intro v' w3 hown1 hgrow _ _
          rw [← HM.out, ← List.map_append] at hown1
          have hb3 : Below w.heap.size w w3 := hbw.grown hgrow hsz (fun q hq => (hown.lt q hq).1)
          clear hown hgrow
          go_wp2
          go_roundw
          case rel => exact ⟨hb3, .inr (.inr ⟨rfl, hown1⟩)⟩
          case measure => simp [intOf]
        · go_wp2
          go_ret
          refine ⟨_, rfl, ?_, only_of_below hbw⟩
          rw [List.length_append, ← HN.out, ← HM.out]; exact hown

set_option maxHeartbeats 400000 in
set_option maxRecDepth 100000 in
theorem appended_two (va vb : Value) (xs ys : List Int) (w : World)
    (ha : Bs .u8 w va xs) (hb : Bs .u8 w vb ys) (na : NoCap va) (nb : NoCap vb) (hp : 0 < xs.length + ys.length) (hl : xs.length + ys.length ≤ 140737488355328) :
    Calls Tryz.prog 75 #[va, vb] w fun e w' => ∃ v', e = .returned v' ∧ w'.ownsRow w.heap.size 5 1 v' (xs ++ ys).length ((xs ++ ys).map (Value.int .u8)) ∧ Only (fun _ => False) w w' := by
  have hbl : Below w.heap.size w (w.alloc (.cells #[va, vb] 22)) := (Below.refl _ _).alloc (Nat.le_refl _) _
  have CC := hideIt (concat_two w.heap.size va vb xs ys (w.alloc (.cells #[va, vb] 22)) (by go_cell) (by go_cell) (ha.later hbl) (hb.later hbl) na nb hp hl)
  obtain ⟨aa, ca, rfl⟩ := ha.len
  obtain ⟨ab, cb, rfl⟩ := hb.len
  clear ha hb
  go_enter Tryz.func75, Tryz.ntmps75
  go_wp2_with fail
  refine CC.out.mono ?_
  rintro e w2 ⟨v', rfl, hown, hon⟩
  have F : Hid (w2.ownsRow w.heap.size 5 1 v' (xs ++ ys).length ((xs ++ ys).map (Value.int .u8)) ∧ Only (fun _ => False) w w2) := by
    refine ⟨?_, ((Only.refl _ _).alloc _).trans hon (fun _ _ f => f)⟩
    refine ⟨hown.1, ?_⟩
    rcases hown.2 with h | ⟨g, cap, cur, e, h, r⟩
    · exact .inl h
    · exact .inr ⟨g, cap, cur, e, by simp at h; omega, r⟩
  clear hown hon
  go_wp2
  go_ret
  exact ⟨_, rfl, F.out⟩

set_option maxHeartbeats 400000 in
set_option maxRecDepth 100000 in
/-- APPEND: b, and behind it the groups of v; new memory. -/
theorem append_any (va : Value) (xs : List Int) (v : Int) (w : World) (ha : Bs .u8 w va xs) (na : NoCap va) (hl : xs.length ≤ 1000000000) (h0 : 0 ≤ v) (h1 : v ≤ 18446744073709551615) :
    Calls Tryz.prog 39 #[va, .int .u64 v] w fun e w' => ∃ v', e = .returned v' ∧ w'.ownsRow w.heap.size 5 1 v' (xs ++ gs v.toNat).length ((xs ++ gs v.toNat).map (Value.int .u8)) ∧ Only (fun _ => False) w w' := by
  have H10 := hideIt (gs_le10 (v := v.toNat) (by omega))
  have HP := hideIt (gs_pos v.toNat)
  have HA := hideIt ha
  obtain ⟨aa, ca, rfl⟩ := ha.len
  clear ha
  go_enter Tryz.func39, Tryz.ntmps39
  go_wp2_with fail
  refine (groups_any v _ h0 h1).mono ?_
  rintro e w1 ⟨v1, rfl, hown1, hon1⟩
  have AP := hideIt (appended_two _ v1 xs (gs v.toNat) w1 (HA.out.later (hon1.low (Nat.le_refl _))) (Bs.of_own hown1) na (NoCap.of_own hown1) (by have := HP.out; omega) (by have := H10.out; omega))
  have ON1 := hideIt hon1
  clear hown1 hon1
  go_wp2_with fail
  refine AP.out.mono ?_
  rintro e w2 ⟨v', rfl, hown, hon⟩
  have F : Hid (w2.ownsRow w.heap.size 5 1 v' (xs ++ gs v.toNat).length ((xs ++ gs v.toNat).map (Value.int .u8)) ∧ Only (fun _ => False) w w2) := by
    refine ⟨?_, ON1.out.trans hon (fun _ _ f => f)⟩
    refine ⟨hown.1, ?_⟩
    rcases hown.2 with h | ⟨g, cap, cur, e, h, r⟩
    · exact .inl h
    · exact .inr ⟨g, cap, cur, e, by have := ON1.out.size; omega, r⟩
  clear hown hon
  go_wp2
  go_ret
  exact ⟨_, rfl, F.out⟩
end Go.Proofs.YtgbimghhdbmjiaaGreat

/- Contract of package varint's Read: what is read of any bytes, or why nothing is. -/
namespace Go.Proofs.YtgbimghhdbmjiaaGreat
open Go.RowKit

theorem rd_at (xs : List Int) (k : Nat) (acc : Int) (h : k < xs.length) : rd k acc (xs.drop k) = if k = 9 ∧ 1 < xs.getD k 0 then (0, 0, 3) else if 128 ≤ xs.getD k 0 then rd (k + 1) (acc + xs.getD k 0 % 128 * 128 ^ k) (xs.drop (k + 1)) else if xs.getD k 0 = 0 ∧ 0 < k then (0, 0, 3) else (acc + xs.getD k 0 * 128 ^ k, (k : Int) + 1, 0) := by
  rw [List.drop_eq_getElem_cons h, rd_cons, List.getD_eq_getElem?_getD, List.getElem?_eq_getElem h]
  rfl

theorem v_or_step (k acc : Nat) (c : Int) (hk : k ≤ 9) (hacc : acc < 128 ^ k) (c0 : 0 ≤ c) (c1 : c ≤ 255) (h9 : k = 9 → c ≤ 1) :
    bits .or .u64 (acc : Int) (IntKind.u64.wrap (IntKind.u64.wrap (bits .and .u8 c 127) * 2 ^ (7 * k))) = ((acc + (c % 128).toNat * 128 ^ k : Nat) : Int) ∧ acc + (c % 128).toNat * 128 ^ k < 128 ^ (k + 1) := by
  obtain ⟨m, rfl⟩ := Int.eq_ofNat_of_zero_le c0
  have e : ((m : Int) % 128).toNat = m % 128 := by omega
  rw [e, show (127 : Int) = ((127 : Nat) : Int) from rfl, u8_and_nat _ _ (by omega) (by omega), nat_mask7]
  have w1 : IntKind.u64.wrap ((m % 128 : Nat) : Int) = ((m % 128 : Nat) : Int) := by rw [IntKind.wrap_u64]; omega
  have p1 : (2 : Nat) ^ (7 * k) = 128 ^ k := by rw [Nat.pow_mul]
  have w2 : ((m % 128 : Nat) : Int) * 2 ^ (7 * k) = ((m % 128 * 128 ^ k : Nat) : Int) := by
    rw [← p1]; simp
  have hlt : m % 128 * 128 ^ k < 18446744073709551616 := by
    rcases Nat.lt_or_ge k 9 with h | h
    · have h1 : m % 128 * 128 ^ k ≤ 127 * 128 ^ k := Nat.mul_le_mul_right _ (by omega)
      have h2 : 128 ^ k ≤ 128 ^ 8 := Nat.pow_le_pow_right (by omega) (by omega)
      have h3 : (128 : Nat) ^ 8 = 72057594037927936 := by decide
      omega
    · have hk : k = 9 := by omega
      subst hk
      have := h9 rfl
      have h3 : (128 : Nat) ^ 9 = 9223372036854775808 := by decide
      have h1 : m % 128 * 128 ^ 9 ≤ 1 * 128 ^ 9 := Nat.mul_le_mul_right _ (by omega)
      omega
  have hacc2 : acc < 18446744073709551616 := by
    have h2 : 128 ^ k ≤ 128 ^ 9 := Nat.pow_le_pow_right (by omega) (by omega)
    have h3 : (128 : Nat) ^ 9 = 9223372036854775808 := by decide
    omega
  have w3 : IntKind.u64.wrap ((m % 128 * 128 ^ k : Nat) : Int) = ((m % 128 * 128 ^ k : Nat) : Int) := by rw [IntKind.wrap_u64]; omega
  rw [w1, w2, w3, u64_or_nat _ _ hacc2 hlt, Nat.or_comm, nat_join (7 * k) _ _ (by rw [p1]; exact Nat.mul_mod_left _ _) (by rw [p1]; exact hacc), Nat.add_comm]
  refine ⟨rfl, ?_⟩
  rw [Nat.pow_succ]
  have h1 : m % 128 * 128 ^ k ≤ 127 * 128 ^ k := Nat.mul_le_mul_right _ (by omega)
  omega
theorem val_step (k acc : Nat) (c : Int) (c0 : 0 ≤ c) (h : c < 128) : ((acc + (c % 128).toNat * 128 ^ k : Nat) : Int) = acc + c * 128 ^ k := by
  obtain ⟨m, rfl⟩ := Int.eq_ofNat_of_zero_le c0
  have e : ((m : Int) % 128).toNat = m := by omega
  rw [e]; simp
theorem val_more (k acc : Nat) (c : Int) : ((acc + (c % 128).toNat * 128 ^ k : Nat) : Int) = acc + c % 128 * 128 ^ k := by
  have e : ((c % 128).toNat : Int) = c % 128 := by omega
  simp [e]

/-- what the tuple holds -/
def rdVal (r : Int × Int × Int) : Value := .tuple #[.int .u64 r.1, .int .i64 r.2.1, .int .i64 r.2.2]
theorem ret_rd {a b c : Int} {r : Int × Int × Int} (h1 : a = r.1) (h2 : b = r.2.1) (h3 : c = r.2.2) : Ending.returned (.tuple #[.int .u64 a, .int .i64 b, .int .i64 c]) = .returned (rdVal r) := by
  rw [h1, h2, h3]; rfl

set_option maxHeartbeats 800000 in
set_option maxRecDepth 100000 in
theorem read_bs (va : Value) (xs : List Int) (w : World) (ha : Bs .u8 w va xs) (hr : ∀ x ∈ xs, 0 ≤ x ∧ x ≤ 255) :
    Calls Tryz.prog 45 #[va] w fun e w' => e = .returned (rdVal (rd 0 0 xs)) ∧ w = w' := by
  have HA := hideIt ha
  have HR := hideIt hr
  obtain ⟨aa, ca, rfl⟩ := ha.len
  obtain ⟨n, hn⟩ : ∃ n, n = xs.length := ⟨_, rfl⟩
  rw [← hn] at HA
  rw [← hn]
  have HN := hideIt hn
  obtain ⟨R, hR⟩ : ∃ R, R = rd 0 0 xs := ⟨_, rfl⟩
  rw [← hR]
  have HRD := hideIt hR
  clear ha hr hn hR
  go_enter Tryz.func45, Tryz.ntmps45
  go_wp2
  go_loop [5, 10] (fun a i => ∃ (k : Nat) (acc : Nat), k ≤ n ∧ k ≤ 9 ∧ i = .int .i64 k ∧ a = .int .u64 acc ∧ acc < 128 ^ k ∧ rd k acc (xs.drop k) = R) (fun _ i => n - (intOf i).toNat)
  case atStart => exact ⟨0, 0, by omega, by omega, rfl, rfl, by simp, by simpa using HRD.out.symm⟩
  case round =>
    obtain ⟨k, acc, hk, hk9, rfl, rfl, hacc, hrd⟩ := hrel
    by_cases hlt : k < n
    · obtain ⟨b, off, cap', e1, hc⟩ := HA.out.at k (by rw [← HN.out]; exact hlt)
      have ea : aa = some ⟨b, off, none⟩ := by simp at e1; exact e1.1
      subst ea
      clear e1
      have hcr := HR.out (xs.getD k 0) (by rw [List.getD_eq_getElem?_getD, List.getElem?_eq_getElem (by rw [← HN.out]; exact hlt)]; simp)
      rw [rd_at xs k _ (by rw [← HN.out]; exact hlt)] at hrd
      generalize xs.getD k 0 = c at hc hcr hrd
      have HD := hideIt hrd
      have HACC := hideIt hacc
      clear hrd hacc
      have i0 : (0 : Int) ≤ (k : Int) := by omega
      have i1 : (k : Int) < (n : Int) := by omega
      by_cases hF : k = 9 ∧ 1 < c
      · obtain ⟨rfl, h1c⟩ := hF
        have hRR : R = (0, 0, 3) := by have := HD.out; rw [if_pos ⟨rfl, h1c⟩] at this; exact this.symm
        subst hRR
        go_wp2
        go_ret3
        exact ⟨rfl, rfl⟩
      · have OS := hideIt (v_or_step k acc c hk9 HACC.out hcr.1 hcr.2 (by omega))
        by_cases h128 : 128 ≤ c
        · have d9 : ((k : Int) == 9) = false := by simp; omega
          go_wp2
          go_round
          case rel =>
            refine ⟨k + 1, acc + (c % 128).toNat * 128 ^ k, by omega, by omega, by go_num, by rw [OS.out.1], OS.out.2, ?_⟩
            have := HD.out
            rw [if_neg hF, if_pos h128] at this
            rw [val_more k acc c]; exact this
          case measure => simp [intOf]; omega
        · by_cases h0 : c = 0 ∧ 0 < k
          · obtain ⟨rfl, hk0⟩ := h0
            have hRR : R = (0, 0, 3) := by have := HD.out; rw [if_neg hF, if_neg h128, if_pos ⟨rfl, hk0⟩] at this; exact this.symm
            subst hRR
            by_cases h9 : k = 9
            · subst h9
              go_wp2
              go_ret3
              exact ⟨rfl, rfl⟩
            · have d9 : ((k : Int) == 9) = false := by simp; omega
              have dk : decide (0 < (k : Int)) = true := by simp; omega
              go_wp2
              go_ret3
              exact ⟨rfl, rfl⟩
          · have hRR : R = (acc + c * 128 ^ k, (k : Int) + 1, 0) := by have := HD.out; rw [if_neg hF, if_neg h128, if_neg h0] at this; exact this.symm
            subst hRR
            have VS := hideIt (val_step k acc c hcr.1 (by omega))
            by_cases h9 : k = 9
            · subst h9
              have hc0 : (c == 0) = false := by simp; omega
              have O9 := hideIt (OS.out.1.trans VS.out)
              rw [show (2 : Int) ^ (7 * 9) = 9223372036854775808 by decide] at O9
              go_wp2
              go_ret3
              exact ⟨ret_rd O9.out rfl rfl, rfl⟩
            · have d9 : ((k : Int) == 9) = false := by simp; omega
              have O9 := hideIt (OS.out.1.trans VS.out)
              by_cases hc0 : c = 0
              · have dk : decide (0 < (k : Int)) = false := by simp; omega
                subst hc0
                go_wp2
                go_ret3
                exact ⟨ret_rd (O9.out.trans (by simp)) rfl rfl, rfl⟩
              · have dc : (c == 0) = false := by simp; omega
                go_wp2
                go_ret3
                exact ⟨ret_rd O9.out rfl rfl, rfl⟩
    · have hkn : k = n := by omega
      subst hkn
      have hRR : R = (0, 0, 2) := by rw [← hrd, List.drop_of_length_le (by rw [← HN.out]; omega)]; rfl
      subst hRR
      clear hrd hacc
      go_wp2
      go_ret3
      exact ⟨rfl, rfl⟩
theorem read_as (va : Value) (xs : List Int) (w : World) {a b c : Int} (h : rd 0 0 xs = (a, b, c)) (ha : Bs .u8 w va xs) (hr : ∀ x ∈ xs, 0 ≤ x ∧ x ≤ 255) :
    Calls Tryz.prog 45 #[va] w fun e w' => e = .returned (.tuple #[.int .u64 a, .int .i64 b, .int .i64 c]) ∧ w = w' := by
  have := read_bs va xs w ha hr
  rw [h] at this
  exact this
end Go.Proofs.YtgbimghhdbmjiaaGreat

/- Contracts of package cursor: what a cursor is in memory; New, left, skip, Left, End, next. -/
namespace Go.Proofs.YtgbimghhdbmjiaaGreat
open Go.RowKit

/-- a cursor in memory: the struct lies at block R, its slice is v, which reads as the bytes ys: what is left. -/
structure CurAt (T : TypeId) (w : World) (R : Nat) (v : Value) (ys : List Int) : Prop where
  bs : Bs .u8 w v ys
  rng : ∀ y ∈ ys, 0 ≤ y ∧ y ≤ 255
  cell : w.heap[R]? = some (.cells #[v] T (0, 0))
  ap : v.ownBlock ≠ some R
  len : ys.length ≤ 1000000000000
theorem CurAt.keep {T : TypeId} {w w' : World} {R : Nat} {v : Value} {ys : List Int} (h : CurAt T w R v ys) {S : Nat → Prop} (ho : Only S w w') (hR : ¬ S R) (hv : ∀ k, v.ownBlock = some k → ¬ S k) : CurAt T w' R v ys :=
  ⟨h.bs.keep ho hv, h.rng, ho.heap h.cell hR, h.ap, h.len⟩
theorem CurAt.form {T : TypeId} {w : World} {R : Nat} {v : Value} {ys : List Int} (h : CurAt T w R v ys) : ∃ ao cap, v = .slice ao ys.length cap := by
  obtain ⟨ao, cap, rfl, _⟩ := h.bs
  exact ⟨ao, cap, rfl⟩
theorem one_cell {w : World} {R : Nat} {v : Value} {T : TypeId} (h : w.heap[R]? = some (.cells #[v] T (0, 0))) : w.cell? ⟨R, 0, none⟩ = some v ∧ w.frozen? ⟨R, 0, none⟩ = false :=
  ⟨by simp [World.cell?, h], by simp [World.frozen?, h]⟩
theorem heap_one {w : World} {R : Nat} {v : Value} {T : TypeId} (h : w.heap[R]? = some (.cells #[v] T (0, 0))) (u : Value) : (w.setCell ⟨R, 0, none⟩ u).heap[R]? = some (.cells #[u] T (0, 0)) := by
  have h0 := heap_setCell_same w R 0 #[v] T u h
  simpa using h0

set_option maxHeartbeats 400000 in
set_option maxRecDepth 100000 in
/-- A NEW CURSOR: on a copy of the bytes. -/
theorem new_bs (v : Value) (ys : List Int) (w : World) (h : Bs .u8 w v ys) (hr : ∀ y ∈ ys, 0 ≤ y ∧ y ≤ 255) (hl : ys.length ≤ 1000000000000) :
    Calls Tryz.prog 10 #[v] w fun e w' => ∃ R v', e = .returned (.pointer (some ⟨R, 0, none⟩)) ∧ CurAt 51 w' R v' ys ∧ Only (fun _ => False) w w' ∧ w.heap.size ≤ R ∧ R < w'.heap.size ∧ (∀ k, v'.ownBlock = some k → w.heap.size ≤ k ∧ k < w'.heap.size) := by
  have HB := hideIt h
  have HR := hideIt hr
  clear h hr
  go_enter Tryz.func10, Tryz.ntmps10
  go_wp2_with fail
  refine (clone_bs v ys _ HB.out (by omega)).mono ?_
  rintro e w1 ⟨v', rfl, hown, ho⟩
  have hbs := Bs.of_own hown
  have hlt := hown.lt
  obtain ⟨ao, cap, rfl, _⟩ := id hbs
  have HBS := hideIt hbs
  have HLT := hideIt hlt
  have HO := hideIt ho
  clear hown ho hbs hlt
  go_wp2
  go_ret
  have oa : Only (fun _ => False) w1 (w1.alloc (.cells #[.slice ao ys.length cap] 51)) := (Only.refl _ _).alloc _
  refine ⟨w1.heap.size, .slice ao ys.length cap, rfl, ⟨HBS.out.keep oa (fun _ _ f => f), HR.out, heap_alloc_new w1 _, ?_, hl⟩, HO.out.trans oa (fun _ _ f => f), HO.out.size, by simp, ?_⟩
  · intro e
    have := (HLT.out _ e).2
    omega
  · intro k hk
    have := HLT.out k hk
    simp
    omega

set_option maxHeartbeats 400000 in
set_option maxRecDepth 100000 in
theorem left_any (R m cap : Nat) (ao : Option Addr) (w : World) (h0 : w.cell? ⟨R, 0, none⟩ = some (.slice ao m cap)) :
    Calls Tryz.prog 42 #[.pointer (some ⟨R, 0, none⟩)] w fun e w' => e = .returned (.int .i64 m) ∧ w = w' := by
  go_enter Tryz.func42, Tryz.ntmps42
  go_wp2
  go_ret
  exact ⟨rfl, rfl⟩

theorem own_any (ao : Option Addr) (m c m' c' : Nat) : (Value.slice ao m c).ownBlock = (Value.slice ao m' c').ownBlock := by cases ao <;> rfl
set_option maxHeartbeats 400000 in
set_option maxRecDepth 100000 in
theorem skip_any (R n m cap : Nat) (ao : Option Addr) (w : World) (h0 : w.cell? ⟨R, 0, none⟩ = some (.slice ao m cap)) (f0 : w.frozen? ⟨R, 0, none⟩ = false) (h1 : n ≤ m) (h2 : m ≤ cap) :
    Calls Tryz.prog 43 #[.pointer (some ⟨R, 0, none⟩), .int .i64 n] w fun e w' => e = .returned (.slice ao n cap) ∧ w' = w.setCell ⟨R, 0, none⟩ (.slice (if cap = n then ao else ao.map (fun x => x.add n)) (m - n) (cap - n)) := by
  have i0 : (0 : Int) ≤ (n : Int) := by omega
  have i1 : (n : Int) ≤ (m : Int) := by omega
  have i2 : (n : Int) ≤ (cap : Int) := by omega
  by_cases hc : cap = n
  · subst hc
    go_enter Tryz.func43, Tryz.ntmps43
    go_wp2
    go_ret
    simp
  · go_enter Tryz.func43, Tryz.ntmps43
    go_wp2
    go_ret
    simp

/-- A STEP over n bytes: what is stepped over is handed out. -/
theorem skip_cur {w : World} {R : Nat} {v : Value} {ys : List Int} (h : CurAt 51 w R v ys) (n : Nat) (hn : n ≤ ys.length) :
    Calls Tryz.prog 43 #[.pointer (some ⟨R, 0, none⟩), .int .i64 n] w fun e w' => ∃ ao cap v2, e = .returned (.slice ao n cap) ∧ Bs .u8 w' (.slice ao n cap) (ys.take n) ∧ (Value.slice ao n cap).ownBlock = v.ownBlock ∧ CurAt 51 w' R v2 (ys.drop n) ∧ v2.ownBlock = v.ownBlock ∧ Only (fun k => k = R) w w' := by
  obtain ⟨ao, cap, rfl, hcap, hr⟩ := id h.bs
  refine (skip_any R n ys.length cap ao w (one_cell h.cell).1 (one_cell h.cell).2 hn hcap).mono ?_
  rintro e w' ⟨rfl, rfl⟩
  have ho : Only (fun k => k = R) w (w.setCell ⟨R, 0, none⟩ (.slice (if cap = n then ao else ao.map (fun x => x.add n)) (ys.length - n) (cap - n))) := Only.setCell (S := fun k => k = R) (p := ⟨R, 0, none⟩) (Only.refl _ _) (fun _ => rfl) _
  have hb2 : (Value.slice (if cap = n then ao else ao.map (fun x => x.add n)) (ys.length - n) (cap - n)).ownBlock = (Value.slice ao ys.length cap).ownBlock := by
    split
    · exact own_any _ _ _ _ _
    · exact own_cut _ _ _ _ _ _
  have hne : ∀ k, (Value.slice ao ys.length cap).ownBlock = some k → ¬ k = R := fun k hk e => h.ap (by rw [← e]; exact hk)
  have hd : Bs .u8 w (.slice (if cap = n then ao else ao.map (fun x => x.add n)) (ys.length - n) (cap - n)) (ys.drop n) := by
    split
    · rename_i hc
      subst hc
      rw [Nat.sub_self]
      exact h.bs.cut0 hn
    · exact h.bs.cut hn
  refine ⟨ao, cap, _, rfl, (h.bs.head hn).keep ho (fun k hk => hne k (by rw [own_any ao ys.length cap n cap]; exact hk)), own_any _ _ _ _ _, ⟨hd.keep ho (fun k hk => hne k (by rw [← hb2]; exact hk)), fun y hy => h.rng y (List.mem_of_mem_drop hy), heap_one h.cell _, by rw [hb2]; exact h.ap, ?_⟩, hb2, ho⟩
  have := h.len
  rw [List.length_drop]; omega
/-- HOW MANY are left. -/
theorem left_cur {w : World} {R : Nat} {v : Value} {ys : List Int} (h : CurAt 51 w R v ys) :
    Calls Tryz.prog 42 #[.pointer (some ⟨R, 0, none⟩)] w fun e w' => e = .returned (.int .i64 ys.length) ∧ w = w' := by
  obtain ⟨ao, cap, rfl⟩ := h.form
  exact left_any R ys.length cap ao w (one_cell h.cell).1

set_option maxHeartbeats 400000 in
set_option maxRecDepth 100000 in
theorem Left_cur {w : World} {R : Nat} {v : Value} {ys : List Int} (h : CurAt 51 w R v ys) :
    Calls Tryz.prog 79 #[.pointer (some ⟨R, 0, none⟩)] w fun e w' => e = .returned (.int .i64 ys.length) ∧ w = w' := by
  have A := hideIt (left_cur h)
  clear h
  go_enter Tryz.func79, Tryz.ntmps79
  go_wp2_with fail
  refine A.out.mono ?_
  rintro e w1 ⟨rfl, rfl⟩
  go_wp2
  go_ret
  exact ⟨rfl, rfl⟩

/-- what End says of the bytes that are left -/
def endV (ys : List Int) : Int := if 0 < ys.length then 3 else 0
set_option maxHeartbeats 400000 in
set_option maxRecDepth 100000 in
theorem end_cur {w : World} {R : Nat} {v : Value} {ys : List Int} (h : CurAt 51 w R v ys) :
    Calls Tryz.prog 83 #[.pointer (some ⟨R, 0, none⟩)] w fun e w' => e = .returned (.int .i64 (endV ys)) ∧ w = w' := by
  have A := hideIt (left_cur h)
  clear h
  by_cases h0 : 0 < ys.length
  · have d0 : decide (0 < (ys.length : Int)) = true := by simp; omega
    have HE : Hid (endV ys = 3) := if_pos h0
    go_enter Tryz.func83, Tryz.ntmps83
    go_wp2_with fail
    refine A.out.mono ?_
    rintro e w1 ⟨rfl, rfl⟩
    go_wp2
    go_ret
    exact ⟨by rw [HE.out]; rfl, rfl⟩
  · have d0 : decide (0 < (ys.length : Int)) = false := decide_eq_false (by omega)
    have HE : Hid (endV ys = 0) := if_neg h0
    go_enter Tryz.func83, Tryz.ntmps83
    go_wp2_with fail
    refine A.out.mono ?_
    rintro e w1 ⟨rfl, rfl⟩
    go_wp2
    go_ret
    exact ⟨by rw [HE.out]; rfl, rfl⟩

set_option maxHeartbeats 400000 in
set_option maxRecDepth 100000 in
theorem next_nil (n : Int) (w : World) : Calls Tryz.prog 22 #[.pointer none, .int .i64 n] w fun e w' => e = .returned (.tuple #[.slice none 0 0, .int .i64 1]) ∧ w = w' := by
  go_enter Tryz.func22, Tryz.ntmps22
  go_wp2
  go_ret2
  exact ⟨rfl, rfl⟩
set_option maxHeartbeats 400000 in
set_option maxRecDepth 100000 in
theorem next_neg (R : Nat) (n : Int) (w : World) (h : n < 0) : Calls Tryz.prog 22 #[.pointer (some ⟨R, 0, none⟩), .int .i64 n] w fun e w' => e = .returned (.tuple #[.slice none 0 0, .int .i64 1]) ∧ w = w' := by
  go_enter Tryz.func22, Tryz.ntmps22
  go_wp2
  go_ret2
  exact ⟨rfl, rfl⟩
set_option maxHeartbeats 400000 in
set_option maxRecDepth 100000 in
theorem next_short {w : World} {R : Nat} {v : Value} {ys : List Int} (h : CurAt 51 w R v ys) (n : Int) (h0 : 0 ≤ n) (h1 : (ys.length : Int) < n) :
    Calls Tryz.prog 22 #[.pointer (some ⟨R, 0, none⟩), .int .i64 n] w fun e w' => e = .returned (.tuple #[.slice none 0 0, .int .i64 2]) ∧ w = w' := by
  have A := hideIt (left_cur h)
  clear h
  have d0 : decide (n < 0) = false := by simp; omega
  go_enter Tryz.func22, Tryz.ntmps22
  go_wp2_with fail
  refine A.out.mono ?_
  rintro e w1 ⟨rfl, rfl⟩
  go_wp2
  go_ret2
  exact ⟨rfl, rfl⟩
set_option maxHeartbeats 400000 in
set_option maxRecDepth 100000 in
theorem next_ok {w : World} {R : Nat} {v : Value} {ys : List Int} (h : CurAt 51 w R v ys) (n : Nat) (h1 : n ≤ ys.length) :
    Calls Tryz.prog 22 #[.pointer (some ⟨R, 0, none⟩), .int .i64 n] w fun e w' => ∃ ao cap v2, e = .returned (.tuple #[.slice ao n cap, .int .i64 0]) ∧ Bs .u8 w' (.slice ao n cap) (ys.take n) ∧ (Value.slice ao n cap).ownBlock = v.ownBlock ∧ CurAt 51 w' R v2 (ys.drop n) ∧ v2.ownBlock = v.ownBlock ∧ Only (fun k => k = R) w w' := by
  have A := hideIt (left_cur h)
  have B := hideIt (skip_cur h n h1)
  clear h
  have d0 : decide ((n : Int) < 0) = false := by simp
  have d1 : decide ((ys.length : Int) < (n : Int)) = false := by simp; omega
  go_enter Tryz.func22, Tryz.ntmps22
  go_wp2_with fail
  refine A.out.mono ?_
  rintro e w1 ⟨rfl, rfl⟩
  go_wp2_with fail
  refine B.out.mono ?_
  rintro e w1 ⟨ao, cap, v2, rfl, hr⟩
  have HR := hideIt hr
  clear hr
  go_wp2
  go_ret2
  exact ⟨ao, cap, v2, rfl, HR.out⟩
end Go.Proofs.YtgbimghhdbmjiaaGreat
