/- Contracts of package merkle: Leaf, Node, left. -/
import Derived.Test.YtnifflnhbpfmnaaSu
import Derived.Test.YtnifflnhbpfmnaaRl
import Derived.Test.YtnifflnhbpfmnaaMt
import Derived.Test.YtnifflnhbpfmnaaLen
import Derived.Test.YtnifflnhbpfmnaaAp0
namespace Go.Proofs.Ytnifflnhbpfmnaa
open Go.RowKit

set_option maxHeartbeats 800000 in
set_option maxRecDepth 100000 in
theorem msumBehind_any (m : Int) (hm : 0 ≤ m ∧ m ≤ 255) (p n : Nat) (ls : Nat → List Int) (w : World) (hp : Ps w p n ls) (hl : (pcat ls n).length ≤ 10000000000) (hn : n ≤ 1000) :
    Calls Try.prog 31 #[.int .u8 m, .slice (some ⟨p, 0, none⟩) n n] w fun e w' => ∃ v, e = .returned v ∧ w'.ownsRow w.heap.size 5 1 v 32 ((SHA (m :: pcat ls n)).map (Value.int .u8)) ∧ Only (fun _ => False) w w' := by
  have hzv := (zero_of_info (P := Try.prog) Try.zero33).1
  obtain ⟨Z, hZ⟩ : ∃ Z, Z = zH := ⟨_, rfl⟩
  rw [← hZ] at hzv
  obtain ⟨W1, hW1⟩ : ∃ W1, W1 = (w.alloc (.cells Z.toArray 61)).alloc (.cells #[.int .u8 m] 5) := ⟨_, rfl⟩
  have hN2 : Blk W1 w.heap.size 61 zH := by
    have := (Blk.new w 61 Z).alloc (.cells #[.int .u8 m] 5)
    rw [hW1, ← hZ]; exact this
  have hN1 : Blk W1 (w.heap.size + 1) 5 (bl [m]) := by
    have := Blk.new (w.alloc (.cells Z.toArray 61)) 5 (bl [m])
    rw [size_alloc] at this; rw [hW1]; exact this
  have hO1 : Only (fun _ => False) w W1 := by rw [hW1]; exact ((Only.refl _ _).alloc _).alloc _
  have WC := hideIt (write_hs w.heap.size [] [m] (.slice (some ⟨w.heap.size + 1, 0, none⟩) 1 1) W1 (Hs.zero hN2) (hN1.bs 1 rfl) (fun y hy => by simp at hy; subst hy; exact hm) (fun _ k hk e => by simp [Value.ownBlock] at hk; omega) (by simp))
  rw [show (([m] : List Int).length : Int) = 1 from rfl] at WC
  have HO1 := hideIt hO1
  have HW1 := hideIt hW1
  have HP := hideIt hp
  obtain ⟨G, hG⟩ : ∃ G, G = w.heap.size := ⟨_, rfl⟩
  have HG := hideIt hG
  clear hZ hW1 hN1 hN2 hO1 hp hm hG
  go_enter Try.func31, Try.ntmps31
  go_wp2_with fail
  rw [← HW1.out]
  refine WC.out.mono ?_
  rintro e w3 ⟨rfl, hs3, on3⟩
  rw [List.nil_append] at hs3
  have S0 : Hid (Hs w3 G (m :: pcat ls 0)) := by
    show _
    rw [HG.out]; exact .inl hs3
  have O0 := hideIt (HO1.out.trans on3 (fun i hi e => by omega))
  rw [← HG.out]
  clear hs3 on3 WC HW1 HO1 hzv
  go_wp2
  go_loopw [13] (fun i wr => ∃ j : Nat, j ≤ n ∧ i = .int .i64 j ∧ Hid (Hs wr G (m :: pcat ls j)) ∧ Hid (Only (fun _ => False) w wr)) (fun i _ => n - (intOf i).toNat)
  case atStart => exact ⟨0, by omega, rfl, S0, O0⟩
  case round =>
    obtain ⟨j, hj, rfl, hS, hO⟩ := hrel
    clear S0 O0
    by_cases hlt : j < n
    · obtain ⟨u, hu, hbu, hu8⟩ := HP.out j hlt
      have hc : wr.cell? ⟨p, j, none⟩ = some u := cell_past hu hO.out
      have hle := pcat_le ls (j + 1) n (by omega)
      have A := hideIt (write_hs G (m :: pcat ls j) (ls j) u wr hS.out (hbu.past hO.out) hu8 (fun hx k hk e => by have := hbu.blk_lt hx k hk; have := HG.out; omega) (by rw [pcat, List.length_append] at hle; rw [List.length_cons]; omega))
      have dlt : decide ((j : Int) < (n : Int)) = true := decide_eq_true (by omega)
      have dlt' : decide (j < n) = true := decide_eq_true hlt
      have i0 : (0 : Int) ≤ (j : Int) := by omega
      have i1 : (j : Int) < (n : Int) := by omega
      clear hu hbu hu8 hS hle
      go_wp2_with fail
      refine A.out.mono ?_
      rintro e w4 ⟨rfl, hs4, on4⟩
      have N1 : Hid (Hs w4 G (m :: pcat ls (j + 1))) := by
        show _
        rw [pcat]; exact .inl hs4
      have N2 := hideIt (hO.out.trans on4 (fun i hi e => by have := HG.out; omega))
      clear hs4 on4 A hO hc
      go_wp2
      go_roundw
      case rel => exact ⟨j + 1, by omega, by go_num, N1, N2⟩
      case measure => simp [intOf]; omega
    · obtain rfl : j = n := by omega
      have A := hideIt (hsum_hs G (m :: pcat ls j) wr hS.out (by rw [List.length_cons]; omega))
      have dlt : decide ((j : Int) < (j : Int)) = false := decide_eq_false (by omega)
      clear hS
      go_wp2_with fail
      refine A.out.mono ?_
      rintro e w4 ⟨v4, rfl, own4, on4⟩
      have F1 := hideIt (own_low own4 hO.out.size)
      have F2 := hideIt (hO.out.same on4)
      obtain ⟨ao4, cap4, e4⟩ := own_form own4
      subst e4
      clear own4 on4 A
      go_wp2
      go_ret
      exact ⟨_, rfl, F1.out, F2.out⟩

set_option maxHeartbeats 400000 in
set_option maxRecDepth 100000 in
theorem leaf_any (v : Value) (xs : List Int) (w : World) (hb : Bs .u8 w v xs) (h8 : U8 xs) (hl : xs.length ≤ 10000000000) :
    Calls Try.prog 12 #[v] w fun e w' => ∃ v', e = .returned v' ∧ w'.ownsRow w.heap.size 5 1 v' 32 (bl (LEAF xs)) ∧ Only (fun _ => False) w w' := by
  have A := hideIt (msumBehind_any 0 (by decide) w.heap.size 1 (fun _ => xs) (w.alloc (.cells #[v] 22)) (Ps.one hb h8) (by rw [pcat_one]; exact hl) (by decide))
  rw [pcat_one] at A
  have HO := hideIt (((Only.refl (fun _ => False) w)).alloc (.cells #[v] 22))
  obtain ⟨ao, cap, rfl⟩ := hb.len
  obtain ⟨n, hn⟩ : ∃ n, n = xs.length := ⟨_, rfl⟩
  rw [← hn] at A HO ⊢
  clear hb h8 hl hn
  go_enter Try.func12, Try.ntmps12
  go_wp2_with fail
  refine A.out.mono ?_
  rintro e w4 ⟨v4, rfl, own4, on4⟩
  have F1 := hideIt (own_low own4 HO.out.size)
  have F2 := hideIt (HO.out.same on4)
  obtain ⟨ao4, cap4, e4⟩ := own_form own4
  subst e4
  clear own4 on4 A
  go_wp2
  go_ret
  exact ⟨_, rfl, F1.out, F2.out⟩
set_option maxHeartbeats 400000 in
set_option maxRecDepth 100000 in
theorem node_any (vl vr : Value) (l r : List Int) (w : World) (hb : Bs .u8 w vl l) (hr : Bs .u8 w vr r) (h8 : U8 l) (r8 : U8 r) (hl : l.length ≤ 1000000000) (hl' : r.length ≤ 1000000000) :
    Calls Try.prog 14 #[vl, vr] w fun e w' => ∃ v', e = .returned v' ∧ w'.ownsRow w.heap.size 5 1 v' 32 (bl (NODE l r)) ∧ Only (fun _ => False) w w' := by
  have A := hideIt (msumBehind_any 1 (by decide) w.heap.size 2 (ptwo l r) (w.alloc (.cells #[vl, vr] 22)) (Ps.two hb hr h8 r8) (by rw [pcat_two, List.length_append]; omega) (by decide))
  rw [pcat_two] at A
  have HO := hideIt (((Only.refl (fun _ => False) w)).alloc (.cells #[vl, vr] 22))
  obtain ⟨ao, cap, rfl⟩ := hb.len
  obtain ⟨ao', cap', rfl⟩ := hr.len
  obtain ⟨n, hn⟩ : ∃ n, n = l.length := ⟨_, rfl⟩
  obtain ⟨n', hn'⟩ : ∃ n, n = r.length := ⟨_, rfl⟩
  rw [← hn, ← hn'] at A HO ⊢
  clear hb h8 hl hn hr r8 hl' hn'
  go_enter Try.func14, Try.ntmps14
  go_wp2_with fail
  refine A.out.mono ?_
  rintro e w4 ⟨v4, rfl, own4, on4⟩
  have F1 := hideIt (own_low own4 HO.out.size)
  have F2 := hideIt (HO.out.same on4)
  obtain ⟨ao4, cap4, e4⟩ := own_form own4
  subst e4
  clear own4 on4 A
  go_wp2
  go_ret
  exact ⟨_, rfl, F1.out, F2.out⟩

set_option maxHeartbeats 400000 in
set_option maxRecDepth 100000 in
theorem blen_any (v : Int) (w : World) (h0 : 0 ≤ v) (h1 : v ≤ 18446744073709551615) :
    Calls Try.prog 65 #[.int .u64 v] w fun e w' => e = .returned (.int .i64 (wid v.toNat)) ∧ w = w' := by
  have A := hideIt (len64_any v w h0 h1)
  obtain ⟨z, hz⟩ : ∃ z : Int, z = (wid v.toNat : Int) := ⟨_, rfl⟩
  rw [← hz] at A ⊢
  clear hz
  go_enter Try.func65, Try.ntmps65
  go_wp2_with fail
  refine A.out.mono ?_
  rintro e w1 ⟨rfl, rfl⟩
  go_wp2
  go_ret
  exact ⟨rfl, rfl⟩
theorem HALF_wid {n : Nat} (h : 2 ≤ n) : HALF n = 2 ^ (wid (n - 1) - 1) := by
  unfold HALF wid
  rw [if_neg (by omega), Nat.add_sub_cancel]
set_option maxHeartbeats 400000 in
set_option maxRecDepth 100000 in
theorem left_any (n : Nat) (h : 2 ≤ n) (hn : n ≤ 1000000000000) (w : World) :
    Calls Try.prog 52 #[.int .i64 n] w fun e w' => e = .returned (.int .i64 (HALF n)) ∧ w = w' := by
  obtain ⟨d, hd⟩ : ∃ d, d = wid (n - 1) - 1 := ⟨_, rfl⟩
  have hw1 : wid (n - 1) = d + 1 := by
    have : wid (n - 1) ≠ 0 := by unfold wid; rw [if_neg (by omega)]; omega
    omega
  have hd40 : d ≤ 40 := by
    have := (wid_le_iff (n - 1) 40).2 (by omega)
    omega
  have hH := HALF_wid h
  rw [← hd] at hH
  have A := hideIt (blen_any (n - 1 : Int) w (by omega) (by omega))
  rw [show ((n : Int) - 1).toNat = n - 1 by omega, hw1] at A
  have HH := hideIt hH
  have e1 : (((d + 1 : Nat)) : Int) - 1 = (d : Int) := by omega
  clear hd hw1 hH
  go_enter Try.func52, Try.ntmps52
  go_wp2_with fail
  refine A.out.mono ?_
  rintro e w1 ⟨rfl, rfl⟩
  go_wp2
  go_ret
  refine ⟨ret_int ?_, rfl⟩
  have hp : (2 : Nat) ^ d ≤ 2 ^ 40 := Nat.pow_le_pow_right (by omega) hd40
  have h40 : (2 : Nat) ^ 40 = 1099511627776 := by decide
  have e2 : (2 : Int) ^ d = ((2 ^ d : Nat) : Int) := (Int.natCast_pow 2 d).symm
  rw [HH.out, e2]
  rw [h40] at hp
  clear e2 h40
  generalize (2 : Nat) ^ d = z at hp ⊢
  exact IntWalk.wrap64_in _ (by omega)
end Go.Proofs.Ytnifflnhbpfmnaa
