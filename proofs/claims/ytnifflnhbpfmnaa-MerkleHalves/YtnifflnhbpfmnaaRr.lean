/- The document's own answers: sums, the half, the root. -/
import Derived.Test.YtnifflnhbpfmnaaRsum
import Derived.Test.YtnifflnhbpfmnaaMo
import Derived.Test.YtnifflnhbpfmnaaPrp
namespace Go.Proofs.Ytnifflnhbpfmnaa
open Go.RowKit

set_option maxHeartbeats 400000 in
set_option maxRecDepth 100000 in
theorem rsum20_any (v : Value) (xs : List Int) (w : World) (hb : Bs .u8 w v xs) (nc : NoCap v) (h8 : U8 xs) (hl : xs.length ≤ 1000000) :
    Calls Try.prog 28 #[v] w fun e w' => ∃ v', e = .returned v' ∧ w'.ownsRow w.heap.size 5 1 v' 32 (bl (SHA xs)) ∧ Only (fun _ => False) w w' := by
  have A := hideIt (rsum_bs v xs w hb nc h8 hl)
  obtain ⟨ao, cap, rfl⟩ := hb.len
  obtain ⟨n, hn⟩ : ∃ n, n = xs.length := ⟨_, rfl⟩
  rw [← hn] at A ⊢
  clear hb nc h8 hl hn
  go_enter Try.func28, Try.ntmps28
  go_wp2_with fail
  refine A.out.mono ?_
  rintro e w4 ⟨v4, rfl, own4, on4⟩
  have F1 := hideIt (And.intro own4 on4)
  obtain ⟨ao4, cap4, e4⟩ := own_form own4
  subst e4
  clear own4 on4 A
  go_wp2
  go_ret
  exact ⟨_, rfl, F1.out⟩
set_option maxHeartbeats 800000 in
set_option maxRecDepth 100000 in
theorem rleaf20_any (v : Value) (xs : List Int) (w : World) (hb : Bs .u8 w v xs) (nc : NoCap v) (h8 : U8 xs) (hl : xs.length ≤ 100000) :
    Calls Try.prog 13 #[v] w fun e w' => ∃ v', e = .returned v' ∧ w'.ownsRow w.heap.size 5 1 v' 32 (bl (LEAF xs)) ∧ Only (fun _ => False) w w' := by
  obtain ⟨i0, hi, hz0, hz1, hz2⟩ := info_parts Try.infoU8
  have oA : Only (fun _ => False) w (w.alloc (.cells #[.int .u8 0] 5)) := (Only.refl _ _).alloc _
  have OW := hideIt (own_lit w 5 (bl [0]) (Nat.le_refl _) (show 1 ≤ maxLen by unfold maxLen; decide))
  have B := hideIt (And.intro (hb.past oA) nc)
  have A := hideIt (fun (u : Value) (W : World) (h : Bs .u8 W u (0 :: xs)) (n : NoCap u) => rsum_bs u (0 :: xs) W h n (fun y hy => by
    rcases List.mem_cons.1 hy with rfl | h
    · decide
    · exact h8 y h) (by rw [List.length_cons]; omega))
  have O := hideIt oA
  have b1 : Hid (1 + xs.length ≤ maxLen) := by show _ ≤ _; unfold maxLen; omega
  have b2 : Hid ((1 + xs.length) * 1 ≤ 140737488355328) := by show _ ≤ _; omega
  have Z : Hid (w.heap.size ≤ (w.alloc (.cells #[.int .u8 0] 5)).heap.size) := oA.size
  obtain ⟨ao, cap, rfl⟩ := hb.len
  obtain ⟨n, hn⟩ : ∃ n, n = xs.length := ⟨_, rfl⟩
  rw [← hn] at B ⊢
  clear hb nc h8 hl oA hn
  go_enter Try.func13, Try.ntmps13
  go_wp2_with (at_builtin; refine wpList_append_bs _ rfl _ _ 22 rfl w.heap.size 5 i0 (.int .u8 0) 1 Try.underlying22 hi hz0 hz1 hz2 rfl (.slice (some ⟨w.heap.size, 0, none⟩) 1 1) 1 (bl [0]) rfl OW.out .u8 _ xs rfl B.out.1 B.out.2 b1.out b2.out Z.out ?_)
  intro v1 w1 own1 g1 _ _
  have O1 := hideIt (O.out.grown g1 (fun k hk e => by simp [Value.ownBlock] at e; omega))
  have b3 : Bs .u8 w1 v1 (0 :: xs) := Bs.of_own (k := .u8) (E := 5) (lo := w.heap.size) (by
    rw [List.length_cons, Nat.add_comm]; exact own1)
  have R := hideIt (A.out v1 w1 b3 (NoCap.of_own own1))
  obtain ⟨ao1, cap1, e1⟩ := own_form own1
  subst e1
  clear own1 g1 b3 A B OW b1 b2 Z O
  go_wp2_with fail
  refine R.out.mono ?_
  rintro e w4 ⟨v4, rfl, own4, on4⟩
  have F1 := hideIt (And.intro (own_low own4 O1.out.size) (O1.out.same on4))
  obtain ⟨ao4, cap4, e4⟩ := own_form own4
  subst e4
  clear own4 on4 R O1
  go_wp2
  go_ret
  exact ⟨_, rfl, F1.out⟩
set_option maxHeartbeats 800000 in
set_option maxRecDepth 100000 in
theorem rnode20_any (vl vr : Value) (l r : List Int) (w : World) (hb : Bs .u8 w vl l) (nc : NoCap vl) (hr : Bs .u8 w vr r) (nr : NoCap vr) (h8 : U8 l) (r8 : U8 r) (hl : l.length ≤ 100000) (hl' : r.length ≤ 100000) :
    Calls Try.prog 15 #[vl, vr] w fun e w' => ∃ v', e = .returned v' ∧ w'.ownsRow w.heap.size 5 1 v' 32 (bl (NODE l r)) ∧ Only (fun _ => False) w w' := by
  obtain ⟨i0, hi, hz0, hz1, hz2⟩ := info_parts Try.infoU8
  have oA : Only (fun _ => False) w (w.alloc (.cells #[.int .u8 1] 5)) := (Only.refl _ _).alloc _
  have OW := hideIt (own_lit w 5 (bl [1]) (Nat.le_refl _) (show 1 ≤ maxLen by unfold maxLen; decide))
  have B := hideIt (And.intro (hb.past oA) nc)
  have BR := hideIt (And.intro hr nr)
  have A := hideIt (fun (u : Value) (W : World) (h : Bs .u8 W u (1 :: (l ++ r))) (n : NoCap u) => rsum_bs u (1 :: (l ++ r)) W h n (fun y hy => by
    rcases List.mem_cons.1 hy with rfl | h
    · decide
    · exact (h8.app r8) y h) (by rw [List.length_cons, List.length_append]; omega))
  have O := hideIt oA
  have b1 : Hid (1 + l.length ≤ maxLen) := by show _ ≤ _; unfold maxLen; omega
  have b2 : Hid ((1 + l.length) * 1 ≤ 140737488355328) := by show _ ≤ _; omega
  have b3 : Hid (1 + l.length + r.length ≤ maxLen) := by show _ ≤ _; unfold maxLen; omega
  have b4 : Hid ((1 + l.length + r.length) * 1 ≤ 140737488355328) := by show _ ≤ _; omega
  have Z : Hid (w.heap.size ≤ (w.alloc (.cells #[.int .u8 1] 5)).heap.size) := oA.size
  obtain ⟨ao, cap, rfl⟩ := hb.len
  obtain ⟨ao', cap', rfl⟩ := hr.len
  obtain ⟨n, hn⟩ : ∃ n, n = l.length := ⟨_, rfl⟩
  obtain ⟨n', hn'⟩ : ∃ n, n = r.length := ⟨_, rfl⟩
  rw [← hn] at B
  rw [← hn'] at BR
  rw [← hn, ← hn']
  clear hb nc h8 hl oA hn hr nr r8 hl' hn'
  go_enter Try.func15, Try.ntmps15
  go_wp2_with (at_builtin; refine wpList_append_bs _ rfl _ _ 22 rfl w.heap.size 5 i0 (.int .u8 0) 1 Try.underlying22 hi hz0 hz1 hz2 rfl (.slice (some ⟨w.heap.size, 0, none⟩) 1 1) 1 (bl [1]) rfl OW.out .u8 _ l rfl B.out.1 B.out.2 b1.out b2.out Z.out ?_)
  intro v1 w1 own1 g1 _ _
  have O1 := hideIt (O.out.grown g1 (fun k hk e => by simp [Value.ownBlock] at e; omega))
  have own2 : w1.ownsRow w.heap.size 5 1 v1 (1 + l.length) (bl (1 :: l)) := own1
  have OW2 := hideIt own2
  have BR2 := hideIt (And.intro (BR.out.1.past O1.out) BR.out.2)
  have Z1 := hideIt O1.out.size
  obtain ⟨ao1, cap1, e1⟩ := own_form own2
  subst e1
  obtain ⟨m, hm⟩ : ∃ m, m = 1 + l.length := ⟨_, rfl⟩
  rw [← hm] at OW2 b3 b4 ⊢
  have HM := hideIt hm
  clear own1 own2 g1 B BR OW b1 b2 Z O hm
  go_wp2_with (at_builtin; refine wpList_append_bs _ rfl _ _ 22 rfl w.heap.size 5 i0 (.int .u8 0) 1 Try.underlying22 hi hz0 hz1 hz2 rfl (.slice ao1 m cap1) m (bl (1 :: l)) rfl OW2.out .u8 _ r rfl BR2.out.1 BR2.out.2 b3.out b4.out Z1.out ?_)
  intro v2 w2 own3 g2 _ _
  have O2 := hideIt (O1.out.grown g2 (fun k hk e => absurd (OW2.out.lt k e).1 (by omega)))
  have b5 : Bs .u8 w2 v2 (1 :: (l ++ r)) := Bs.of_own (k := .u8) (E := 5) (lo := w.heap.size) (by
    have e : (1 :: (l ++ r) : List Int).length = m + r.length := by rw [List.length_cons, List.length_append, HM.out]; omega
    rw [e]
    have e2 : bl (1 :: l) ++ r.map (Value.int .u8) = (1 :: (l ++ r) : List Int).map (Value.int .u8) := by simp [bl]
    rw [← e2]; exact own3)
  have R := hideIt (A.out v2 w2 b5 (NoCap.of_own own3))
  obtain ⟨ao2, cap2, e2⟩ := own_form own3
  subst e2
  clear own3 g2 b5 A BR2 OW2 b3 b4 Z1 O1 HM
  go_wp2_with fail
  refine R.out.mono ?_
  rintro e w4 ⟨v4, rfl, own4, on4⟩
  have F1 := hideIt (And.intro (own_low own4 O2.out.size) (O2.out.same on4))
  obtain ⟨ao4, cap4, e4⟩ := own_form own4
  subst e4
  clear own4 on4 R O2
  go_wp2
  go_ret
  exact ⟨_, rfl, F1.out⟩

theorem half_next {n k m : Nat} (hk : k = 2 ^ m) (h : k * 2 < n) : k * 2 = 2 ^ (m + 1) ∧ k * 2 < n := ⟨by rw [hk, Nat.pow_succ], h⟩
set_option maxHeartbeats 400000 in
set_option maxRecDepth 100000 in
theorem rhalf_any (n : Nat) (hn : n ≤ 1000000000) (w : World) :
    Calls Try.prog 29 #[.int .i64 n] w fun e w' => e = .returned (.int .i64 (HALF n)) ∧ w = w' := by
  obtain ⟨y, hy⟩ : ∃ y, y = HALF n := ⟨_, rfl⟩
  rw [← hy]
  have HY := hideIt hy
  clear hy
  go_enter Try.func29, Try.ntmps29
  go_wp2
  go_loop [3] (fun x => ∃ k : Nat, x = .int .i64 (k : Int) ∧ 1 ≤ k ∧ k ≤ 1000000000 ∧ Hid ((∃ m, k = 2 ^ m) ∧ (k < n ∨ k = 1))) (fun x => n - (intOf x).toNat)
  case atStart => exact ⟨1, rfl, Nat.le_refl _, by decide, ⟨0, rfl⟩, .inr rfl⟩
  case round =>
    obtain ⟨k, rfl, k1, k2, hk⟩ := hrel
    by_cases hlt : k * 2 < n
    · have d1 : decide ((k : Int) * 2 < (n : Int)) = true := decide_eq_true (by omega)
      have N1 : Hid ((∃ m, k * 2 = 2 ^ m) ∧ (k * 2 < n ∨ k * 2 = 1)) := by
        obtain ⟨⟨m, hm⟩, _⟩ := hk.out
        exact ⟨⟨m + 1, (half_next hm hlt).1⟩, .inl hlt⟩
      clear hk
      go_wp2
      go_round
      case rel => exact ⟨k * 2, by go_num, by omega, by omega, N1⟩
      case measure => simp [intOf]; omega
    · have d1 : decide ((k : Int) * 2 < (n : Int)) = false := decide_eq_false (by omega)
      have e : Hid (y = k) := by
        obtain ⟨⟨m, hm⟩, h2⟩ := hk.out
        show y = k
        rw [HY.out]; exact HALF_at hm h2 (by omega)
      clear hk HY
      go_wp2
      go_ret
      exact ⟨by rw [e.out]; rfl, rfl⟩
end Go.Proofs.Ytnifflnhbpfmnaa
