/- Bytes held against one another: hmac.Same. -/
import Derived.Test.YtnifflnhbpfmnaaProg
import Derived.Test.YtnifflnhbpfmnaaBase
import Derived.Test.YtnifflnhbpfmnaaSw
namespace Go.Proofs.Ytnifflnhbpfmnaa
open Go.RowKit

theorem take_eq_next (xs ys : List Int) (j : Nat) (hx : j < xs.length) (hy : j < ys.length) : xs.take (j + 1) = ys.take (j + 1) ↔ xs.take j = ys.take j ∧ xs.getD j 0 = ys.getD j 0 := by
  rw [List.take_add_one, List.take_add_one, List.getElem?_eq_getElem hx, List.getElem?_eq_getElem hy, List.getD_eq_getElem?_getD, List.getD_eq_getElem?_getD, List.getElem?_eq_getElem hx, List.getElem?_eq_getElem hy]
  simp only [Option.toList_some, Option.getD_some]
  constructor
  · intro h
    have := List.append_inj h (by rw [List.length_take, List.length_take]; omega)
    exact ⟨this.1, by simpa using this.2⟩
  · rintro ⟨h1, h2⟩; rw [h1, h2]
theorem xor_zero_iff (a b : Nat) : a ^^^ b = 0 ↔ a = b := by
  constructor
  · intro h
    have : a ^^^ (a ^^^ b) = a ^^^ 0 := by rw [h]
    rw [← Nat.xor_assoc, Nat.xor_self, Nat.zero_xor, Nat.xor_zero] at this
    exact this.symm
  · rintro rfl; exact Nat.xor_self _
theorem or_zero_iff (a b : Nat) : a ||| b = 0 ↔ a = 0 ∧ b = 0 := by
  constructor
  · intro h
    have h1 : a ≤ a ||| b := Nat.left_le_or
    have h2 : b ≤ a ||| b := Nat.right_le_or
    omega
  · rintro ⟨rfl, rfl⟩; rfl

set_option maxHeartbeats 800000 in
set_option maxRecDepth 100000 in
theorem hsame_q (va vb : Value) (xs ys : List Int) (w : World) (ha : Bs .u8 w va xs) (hb : Bs .u8 w vb ys) (hx8 : U8 xs) (hy8 : U8 ys) (hl : xs.length ≤ 140737488355328) :
    Calls Try.prog 45 #[va, vb] w fun e w' => e = .returned (.bool (decide (xs = ys))) ∧ ∃ m, w' = w.drewN m := by
  by_cases hne : xs.length = ys.length
  case neg =>
    have hd : decide (xs = ys) = false := decide_eq_false (fun h => hne (by rw [h]))
    rw [hd]
    obtain ⟨aoa, ca, rfl, _⟩ := ha
    obtain ⟨aob, cb, rfl, _⟩ := hb
    have hbn : ((xs.length : Int) != (ys.length : Int)) = true := by simp; omega
    obtain ⟨n, hn⟩ : ∃ n, n = xs.length := ⟨_, rfl⟩
    obtain ⟨m, hm⟩ : ∃ m, m = ys.length := ⟨_, rfl⟩
    rw [← hn, ← hm] at hbn ⊢
    clear hn hm hne hd hx8 hy8 hl
    go_enter Try.func45, Try.ntmps45
    go_wp2
    go_ret
    exact ⟨rfl, 0, rfl⟩
  obtain ⟨aoa, ca, rfl, hca, hra⟩ := ha
  obtain ⟨aob, cb, rfl, hcb, hrb⟩ := hb
  have hbn : ((xs.length : Int) != (xs.length : Int)) = false := by simp
  rw [← hne] at hcb hrb ⊢
  obtain ⟨D, hD⟩ : ∃ D, D = decide (xs = ys) := ⟨_, rfl⟩
  rw [← hD]
  by_cases hx : xs = []
  · subst hx
    have hy : ys = [] := List.eq_nil_of_length_eq_zero (by rw [← hne]; rfl)
    subst hy
    clear hra hrb
    simp only [List.length_nil]
    have HD : Hid (D = true) := by show _ = _; rw [hD]; rfl
    clear hD
    go_enter Try.func45, Try.ntmps45
    go_wp2
    go_loop [5, 14] (fun d i => d = .int .u8 0 ∧ i = .int .i64 0) (fun _ _ => 0)
    case atStart => exact ⟨rfl, rfl⟩
    case round =>
      obtain ⟨rfl, rfl⟩ := hrel
      go_wp2
      go_ret
      exact ⟨by rw [HD.out]; rfl, 0, rfl⟩
  · obtain ⟨ba, oa, rfl, hcella⟩ := hra hx
    obtain ⟨bb, ob, rfl, hcellb⟩ := hrb (fun h => hx (List.eq_nil_of_length_eq_zero (by rw [hne, h]; rfl)))
    clear hra hrb hx
    obtain ⟨n, hn⟩ : ∃ n, n = xs.length := ⟨_, rfl⟩
    have hny : n = ys.length := by omega
    rw [← hn] at hbn hca hcb hcella hl ⊢
    rw [← hn] at hcellb
    have HA : Hid (∀ j, j < n → w.cell? ⟨ba, oa + j, none⟩ = some (.int .u8 (xs.getD j 0))) := hcella
    have HB : Hid (∀ j, j < n → w.cell? ⟨bb, ob + j, none⟩ = some (.int .u8 (ys.getD j 0))) := hcellb
    have HN : Hid (n = xs.length ∧ n = ys.length ∧ U8 xs ∧ U8 ys) := ⟨hn, hny, hx8, hy8⟩
    have HD := hideIt hD
    clear hcella hcellb hn hny hne hx8 hy8 hD
    go_enter Try.func45, Try.ntmps45
    go_wp2
    go_loopw [5, 14] (fun d i wr => ∃ (k q : Nat), k ≤ n ∧ i = .int .i64 k ∧ d = .int .u8 q ∧ q < 256 ∧ Hid (q = 0 ↔ xs.take k = ys.take k) ∧ ∃ m, wr = w.drewN m) (fun _ i _ => n - (intOf i).toNat)
    case atStart => exact ⟨0, 0, Nat.zero_le _, rfl, rfl, by decide, ⟨fun _ => rfl, fun _ => rfl⟩, 0, rfl⟩
    case round =>
      obtain ⟨k, q, hk, rfl, rfl, hq, HQ, md, hmd⟩ := hrel
      have hon : Only (fun _ => False) w wr := by rw [hmd]; exact (Only.refl _ _).drewN md
      have HMD := hideIt hmd
      clear hmd
      by_cases hlt : k < n
      · obtain ⟨x, hx⟩ : ∃ x, x = xs.getD k 0 := ⟨_, rfl⟩
        obtain ⟨y, hy⟩ : ∃ y, y = ys.getD k 0 := ⟨_, rfl⟩
        have h1 : wr.cell? ⟨ba, oa + k, none⟩ = some (.int .u8 x) := by
          have := HA.out k hlt
          rw [World.cell?_of_block (hon.block ba (World.block_lt_of_cell? w _ this) (fun f => f)), hx]; exact this
        have h2 : wr.cell? ⟨bb, ob + k, none⟩ = some (.int .u8 y) := by
          have := HB.out k hlt
          rw [World.cell?_of_block (hon.block bb (World.block_lt_of_cell? w _ this) (fun f => f)), hy]; exact this
        have rx := HN.out.2.2.1.at k
        have ry := HN.out.2.2.2.at k
        rw [← hx] at rx
        rw [← hy] at ry
        have hxor := u8_xor x y rx.1 (by omega) ry.1 (by omega)
        have hlx : x.toNat ^^^ y.toNat < 256 := Nat.xor_lt_two_pow (n := 8) (by omega) (by omega)
        have hor := u8_or_nat q (x.toNat ^^^ y.toNat) hq hlx
        have hlo : q ||| (x.toNat ^^^ y.toNat) < 256 := Nat.or_lt_two_pow (n := 8) hq hlx
        have NQ : Hid (q ||| (x.toNat ^^^ y.toNat) = 0 ↔ xs.take (k + 1) = ys.take (k + 1)) := by
          show _ ↔ _
          rw [take_eq_next xs ys k (by have := HN.out.1; omega) (by have := HN.out.2.1; omega), or_zero_iff, xor_zero_iff, HQ.out, ← hx, ← hy]
          constructor
          · rintro ⟨h1, h2⟩; exact ⟨h1, by omega⟩
          · rintro ⟨h1, h2⟩; exact ⟨h1, by rw [h2]⟩
        obtain ⟨z, hz⟩ : ∃ z, z = x.toNat ^^^ y.toNat := ⟨_, rfl⟩
        rw [← hz] at hxor hor hlo NQ
        obtain ⟨q', hq'⟩ : ∃ q', q' = q ||| z := ⟨_, rfl⟩
        rw [← hq'] at hor hlo NQ
        have i0 : (0 : Int) ≤ (k : Int) := by omega
        have i1 : (k : Int) < (n : Int) := by omega
        clear hx hy hz hq' rx ry hlx HQ
        go_wp2
        go_quiet (fail)
        go_wp2
        go_roundw
        case rel => exact ⟨k + 1, q', by omega, by go_num, by go_num, hlo, NQ, md + nq, by rw [HMD.out, World.drewN_drewN]⟩
        case measure => simp [intOf]; omega
      · obtain rfl : k = n := by omega
        have HE : Hid (((q : Int) == 0) = D) := by
          show _ = _
          rw [HD.out]
          have e := HQ.out
          rw [List.take_of_length_le (by have := HN.out.1; omega), List.take_of_length_le (by have := HN.out.2.1; omega)] at e
          by_cases h0 : q = 0
          · rw [decide_eq_true (e.1 h0), h0]; rfl
          · rw [decide_eq_false (fun h => h0 (e.2 h))]; rw [beq_eq_false_iff_ne]; omega
        have he := HE.out
        clear HQ HE hlt
        go_wp2
        go_ret
        exact ⟨rfl, md, HMD.out⟩
theorem hsame_any (va vb : Value) (xs ys : List Int) (w : World) (ha : Bs .u8 w va xs) (hb : Bs .u8 w vb ys) (hx8 : U8 xs) (hy8 : U8 ys) (hl : xs.length ≤ 140737488355328) :
    Calls Try.prog 45 #[va, vb] w fun e w' => e = .returned (.bool (decide (xs = ys))) ∧ Only (fun _ => False) w w' := by
  refine (hsame_q va vb xs ys w ha hb hx8 hy8 hl).mono ?_
  rintro e w' ⟨rfl, m, rfl⟩
  exact ⟨rfl, (Only.refl _ _).drewN m⟩
end Go.Proofs.Ytnifflnhbpfmnaa
