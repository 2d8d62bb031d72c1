/- Contracts of the reference for cursors: Fixed, Varint, Block, Fix, Blocked. -/
import Derived.Test.YtfoghkjlpdjmiaaCRef
namespace Go.Proofs.Ytfoghkjlpdjmiaa
open Go.RowKit

theorem sVarint_rd (ys : List Int) (hr : ∀ y ∈ ys, 0 ≤ y ∧ y ≤ 255) {a : Int} {k : Nat} {c : Int} (hs : sVarint ys = (a, k, c)) : rd 0 0 ys = (a, (k : Int), c) ∧ k ≤ ys.length := by
  rcases rd_cases ys hr with ⟨c', h, hc⟩ | ⟨a', k', h, h1, h2, _, h4, _⟩
  · rw [sVarint, h] at hs
    simp only [Prod.mk.injEq] at hs
    obtain ⟨rfl, rfl, rfl⟩ := hs
    exact ⟨h, by simp⟩
  · rw [sVarint, h] at hs
    simp only [Prod.mk.injEq, Int.toNat_natCast] at hs
    obtain ⟨rfl, rfl, rfl⟩ := hs
    exact ⟨h, h2⟩
theorem num_add (zs : List Int) (k : Nat) (hr : ∀ y ∈ zs, 0 ≤ y ∧ y ≤ 255) (h8 : zs.length ≤ 8) (h : k < zs.length) :
    (num (zs.take k) : Int) < 72057594037927936 ∧ (num (zs.take k) : Int) * 256 + zs.getD k 0 = (num (zs.take (k + 1)) : Int) := by
  have hl := num_lt (zs.take k) (fun y hy => hr y (List.mem_of_mem_take hy))
  rw [List.length_take, Nat.min_eq_left (by omega)] at hl
  have hp := pow256 (k := k) (by omega)
  have hy := hr (zs.getD k 0) (getD_mem zs k h)
  rw [take_snoc zs k h, num_snoc]
  refine ⟨by omega, ?_⟩
  generalize zs.getD k 0 = y at hy
  omega

set_option maxHeartbeats 800000 in
set_option maxRecDepth 100000 in
theorem rfixed_at (ao : Option Addr) (m cap : Nat) (ys : List Int) (w : World) (h : Bs .u8 w (.slice ao m cap) ys) (nc : NoCap (.slice ao m cap)) (hr : ∀ y ∈ ys, 0 ≤ y ∧ y ≤ 255) (hm : m ≤ 1000000000000) (n : Int) {a : Int} {k : Nat} {c : Int} (hs : sFixed n ys = (a, k, c)) :
    Calls Try.prog 25 #[.slice ao m cap, .int .i64 n] w fun e w' => ∃ ao' m' cap', e = .returned (.tuple #[.int .u64 a, .slice ao' m' cap', .int .i64 c]) ∧ Bs .u8 w' (.slice ao' m' cap') (ys.drop k) ∧ NoCap (.slice ao' m' cap') ∧ Only (fun _ => False) w w' ∧ (Value.slice ao' m' cap').ownBlock = (Value.slice ao m cap).ownBlock := by
  by_cases h0 : n < 0 ∨ 8 < n
  · have hs2 : sFixed n ys = (0, 0, 1) := if_pos h0
    rw [hs2] at hs
    simp only [Prod.mk.injEq] at hs
    obtain ⟨rfl, rfl, rfl⟩ := hs
    have H := hideIt (And.intro h nc)
    clear h nc
    by_cases h1 : n < 0
    · clear h0
      go_enter Try.func25, Try.ntmps25
      go_wp2
      go_ret3
      exact ⟨_, _, _, rfl, H.out.1, H.out.2, Only.refl _ _, rfl⟩
    · have h8 : 8 < n := by omega
      have d0 : decide (n < 0) = false := decide_eq_false h1
      clear h0
      go_enter Try.func25, Try.ntmps25
      go_wp2
      go_ret3
      exact ⟨_, _, _, rfl, H.out.1, H.out.2, Only.refl _ _, rfl⟩
  have d0 : decide (n < 0) = false := decide_eq_false (by omega)
  have d8 : decide (8 < n) = false := decide_eq_false (by omega)
  obtain ⟨zs, k', c', hb⟩ : ∃ zs k' c', sBytes n ys = (zs, k', c') := ⟨_, _, _, rfl⟩
  have A := hideIt (rbytes_at ao m cap ys w h nc hm n hb)
  have HE : k = k' ∧ c = c' ∧ a = (num zs : Int) ∧ zs.length ≤ 8 ∧ (∀ y ∈ zs, 0 ≤ y ∧ y ≤ 255) := by
    by_cases h1 : (ys.length : Int) < n
    · have e1 : sFixed n ys = (0, 0, 2) := by
        simp only [sFixed]
        rw [if_neg h0, if_pos h1]
      have e2 : sBytes n ys = ([], 0, 2) := by
        simp only [sBytes]
        rw [if_neg (by omega), if_pos h1]
      rw [e1] at hs
      rw [e2] at hb
      simp only [Prod.mk.injEq] at hs hb
      obtain ⟨rfl, rfl, rfl⟩ := hs
      obtain ⟨rfl, rfl, rfl⟩ := hb
      exact ⟨rfl, rfl, rfl, by simp, by simp⟩
    · have e1 : sFixed n ys = ((num (ys.take n.toNat) : Int), n.toNat, 0) := by
        simp only [sFixed]
        rw [if_neg h0, if_neg h1]
      have e2 : sBytes n ys = (ys.take n.toNat, n.toNat, 0) := by
        simp only [sBytes]
        rw [if_neg (by omega), if_neg h1]
      rw [e1] at hs
      rw [e2] at hb
      simp only [Prod.mk.injEq] at hs hb
      obtain ⟨rfl, rfl, rfl⟩ := hs
      obtain ⟨rfl, rfl, rfl⟩ := hb
      exact ⟨rfl, rfl, rfl, by rw [List.length_take]; omega, fun y hy => hr y (List.mem_of_mem_take hy)⟩
  obtain ⟨rfl, rfl, rfl, hz8, hzr⟩ := HE
  have HZ := hideIt (And.intro hz8 hzr)
  clear h nc hs hb hz8 hzr hr
  go_enter Try.func25, Try.ntmps25
  go_wp2_with fail
  refine A.out.mono ?_
  rintro e w1 ⟨v1, ao', m', cap', rfl, hb, hres⟩
  have HB := hideIt hb
  obtain ⟨ao1, cap1, rfl⟩ := hb.len
  have HR := hideIt hres
  obtain ⟨p, hp⟩ : ∃ p, p = zs.length := ⟨_, rfl⟩
  rw [← hp] at HB
  rw [← hp]
  have HP := hideIt hp
  clear hb hres hp A
  have hp8 : p ≤ 8 := by rw [HP.out]; exact HZ.out.1
  go_wp2
  go_loop [10, 11] (fun a i => ∃ q : Nat, q ≤ p ∧ i = .int .i64 q ∧ a = .int .u64 (num (zs.take q))) (fun _ i => p - (intOf i).toNat)
  case atStart => exact ⟨0, Nat.zero_le _, rfl, rfl⟩
  case round =>
    obtain ⟨q, hq, rfl, rfl⟩ := hrel
    by_cases hlt : q < p
    · obtain ⟨b, off, cap', e1, hx⟩ := HB.out.at q (by rw [← HP.out]; exact hlt)
      have ea : ao1 = some ⟨b, off, none⟩ := by simp at e1; exact e1.1
      subst ea
      clear e1
      obtain ⟨ha, hst⟩ := num_add zs q HZ.out.2 HZ.out.1 (by rw [← HP.out]; exact hlt)
      have hy := HZ.out.2 (zs.getD q 0) (getD_mem zs q (by rw [← HP.out]; exact hlt))
      generalize zs.getD q 0 = y at hx hst hy
      have i0 : (0 : Int) ≤ (q : Int) := by omega
      have i1 : (q : Int) < (p : Int) := by omega
      have HST := hideIt hst
      generalize num (zs.take q) = t at HST ha
      clear hst
      go_wp2
      go_round
      case rel => exact ⟨q + 1, by omega, by go_num, by rw [← HST.out]⟩
      case measure => simp [intOf]; omega
    · have hqn : q = p := by omega
      subst hqn
      have HT : Hid (zs.take q = zs) := List.take_of_length_le (by rw [← HP.out]; omega)
      rw [HT.out]
      go_wp2
      go_ret3
      exact ⟨_, _, _, rfl, HR.out⟩
theorem rfixed_bs (ao : Option Addr) (m cap : Nat) (ys : List Int) (w : World) (h : Bs .u8 w (.slice ao m cap) ys) (nc : NoCap (.slice ao m cap)) (hr : ∀ y ∈ ys, 0 ≤ y ∧ y ≤ 255) (hm : m ≤ 1000000000000) (n : Int) {a : Int} {k : Nat} {c : Int} (hs : sFixed n ys = (a, k, c)) :
    Calls Try.prog 25 #[.slice ao m cap, .int .i64 n] w fun e w' => ∃ ao' m' cap', e = .returned (.tuple #[.int .u64 a, .slice ao' m' cap', .int .i64 c]) ∧ Bs .u8 w' (.slice ao' m' cap') (ys.drop k) ∧ NoCap (.slice ao' m' cap') ∧ Only (fun _ => False) w w' :=
  (rfixed_at ao m cap ys w h nc hr hm n hs).mono fun _ _ ⟨ao', m', cap', e, b1, n1, o, _⟩ => ⟨ao', m', cap', e, b1, n1, o⟩

set_option maxHeartbeats 400000 in
set_option maxRecDepth 100000 in
theorem rfix_none (v n : Int) (w : World) (h : n < 0 ∨ 8 < n) : Calls Try.prog 21 #[.int .u64 v, .int .i64 n] w fun e w' => e = .returned (.slice none 0 0) ∧ w = w' := by
  by_cases h0 : n < 0
  · clear h
    go_enter Try.func21, Try.ntmps21
    go_wp2
    go_ret
    exact ⟨rfl, rfl⟩
  · have h8 : 8 < n := by omega
    have d0 : decide (n < 0) = false := decide_eq_false h0
    clear h
    go_enter Try.func21, Try.ntmps21
    go_wp2
    go_ret
    exact ⟨rfl, rfl⟩

theorem fixL_take (v : Int) (n k : Nat) (h : k < n) : (fixL v n).take (k + 1) = (fixL v n).take k ++ [fixB v (n - 1 - k)] := by
  rw [take_snoc (fixL v n) k (by rw [fixL_len]; exact h)]
  congr 2
  rw [List.getD_eq_getElem?_getD]
  simp [fixL, h]

set_option maxHeartbeats 400000 in
set_option maxRecDepth 100000 in
theorem rfix_any (v : Int) (n : Nat) (w : World) (h : n ≤ 8) :
    Calls Try.prog 21 #[.int .u64 v, .int .i64 n] w fun e w' => ∃ u, e = .returned u ∧ w'.ownsRow w.heap.size 5 1 u (fixL v n).length ((fixL v n).map (Value.int .u8)) ∧ Only (fun _ => False) w w' := by
  obtain ⟨i0, hi, hz0, hz1, hz2⟩ := info_parts Try.infoU8
  have d0 : decide ((n : Int) < 0) = false := by simp
  have d8 : decide (8 < (n : Int)) = false := decide_eq_false (by omega)
  go_enter Try.func21, Try.ntmps21
  go_wp2
  go_loopw [5, 6] (fun o i wr => ∃ k : Nat, k ≤ n ∧ i = .int .i64 ((n : Int) - 1 - k) ∧ wr.ownsRow w.heap.size 5 1 o k (((fixL v n).map (Value.int .u8)).take k) ∧ Below w.heap.size w wr) (fun _ i _ => (intOf i + 1).toNat)
  case atStart => exact ⟨0, Nat.zero_le _, by go_num, World.ownsRow_nil _ _ _ _, Below.refl _ _⟩
  case round =>
    obtain ⟨k, hk, rfl, hown, hbel⟩ := hrel
    have hsz := hbel.size
    by_cases hlt : k < n
    · have dk : decide (0 ≤ (n : Int) - 1 - (k : Int)) = true := decide_eq_true (by omega)
      obtain ⟨j, hj⟩ : ∃ j : Nat, j = n - 1 - k := ⟨_, rfl⟩
      have ej : ((n : Int) - 1 - k) = (j : Int) := by omega
      have HJ := hideIt hj
      rw [ej] at dk
      rw [ej]
      have hj7 : j ≤ 7 := by omega
      clear hj ej hk
      go_wp2_with (at_builtin; refine wpList_append_lies _ rfl _ _ _ rfl w.heap.size 5 i0 (.int .u8 0) 1 1 Try.underlying28 hi hz0 hz1 hz2 rfl (by omega) _ k (((fixL v n).map (Value.int .u8)).take k) rfl (hown.alloc _) ⟨wr.heap.size, 0, none⟩ 1 1 [.int .u8 (v / 2 ^ (8 * j) % 256)] rfl rfl ?c1 ?c2 (by omega) ?c3 ?c4 ?c5 (wr.heap.size + 1) (by simp) ?_)
      case c1 => exact cell_one_new _ _ _
      case c2 => intro u hu; simp at hu; subst hu; rfl
      case c3 => unfold maxLen; omega
      case c4 => omega
      case c5 => simp; omega
      intro g cap1 w1 hown1 hgrow hat hg1
      have hb1 : Below w.heap.size w w1 := (hbel.alloc hbel.size _).grown hgrow (by simp; omega) (fun q hq => (hown.lt q hq).1)
      have hown2 : w1.ownsRow w.heap.size 5 1 (.slice (some ⟨g, 0, none⟩) (k + 1) cap1) (k + 1) (((fixL v n).map (Value.int .u8)).take (k + 1)) := by
        rw [← List.map_take, fixL_take v n k hlt, ← HJ.out, List.map_append, List.map_take]; exact hown1
      clear hown hown1 hgrow hat hbel
      go_wp2
      go_roundw
      case rel => exact ⟨k + 1, by omega, by have := HJ.out; go_num, hown2, hb1⟩
      case measure => have := HJ.out; simp [intOf]
    · have hkn : k = n := by omega
      subst hkn
      have dk : decide (0 ≤ (k : Int) - 1 - (k : Int)) = false := decide_eq_false (by omega)
      have F : Hid (wr.ownsRow w.heap.size 5 1 u5 (fixL v k).length ((fixL v k).map (Value.int .u8)) ∧ Only (fun _ => False) w wr) := by
        rw [List.take_of_length_le (by rw [List.length_map, fixL_len]; omega)] at hown
        rw [fixL_len]
        exact ⟨hown, only_of_below hbel⟩
      clear hown hbel
      go_wp2
      go_ret
      exact ⟨_, rfl, F.out⟩

end Go.Proofs.Ytfoghkjlpdjmiaa
