/- Rebuild and Verify. -/
import Derived.Test.YtnifflnhbpfmnaaRbp
import Derived.Test.YtnifflnhbpfmnaaWi
import Derived.Test.YtnifflnhbpfmnaaHsa
namespace Go.Proofs.Ytnifflnhbpfmnaa
open Go.RowKit

set_option maxHeartbeats 1600000 in
set_option maxRecDepth 100000 in
theorem walkb_any (n i j cl ci T cp : Nat) (vx vp : Value) (x p : List (List Int)) (w0 w : World) (x8 : R8 x) (p8 : R8 p) (hn : n ≤ 1000000000) (hx0 : 0 < x.length) (hin : i + x.length ≤ n) (hj : j = i + x.length - 1) (hp : p.length = MANY n i j) (rx : RL w0 vx x) (rp : RL w0 vp p)
    (hcl : w0.cell? ⟨cl, 0, none⟩ = some vx) (hci : w0.cell? ⟨ci, 0, none⟩ = some (.int .i64 i)) (hcp : w0.cell? ⟨cp, 0, none⟩ = some vp) (hT : w0.heap.size ≤ T) (ho : Only (fun _ => False) w0 w) (hbT : Blk w T 3 [.int .i64 0]) :
    Calls Try.prog 43 #[.int .i64 n, .int .i64 i, .int .i64 j, .func (.func 41) #[] #[.pointer (some ⟨cl, 0, none⟩), .pointer (some ⟨ci, 0, none⟩)], .func (.func 42) #[] #[.pointer (some ⟨T, 0, none⟩), .pointer (some ⟨cp, 0, none⟩)], .func (.func 14) #[] #[]] w
      fun e w' => ∃ v, e = .returned v ∧ Bs .u8 w' v (MADE n i x p) ∧ NoCap v ∧ Only (fun k => k = T) w w' := by
  have hlt := hbT.lt
  have hmn : MANY n i j ≤ n := MNY_size (n + 1) 0 n i j (by omega)
  have A := hideIt (fun (b0 b1 b2 b3 b4 b5 : Nat) (n0 : b0 ≠ T) (n1 : b1 ≠ T) (n2 : b2 ≠ T) (n3 : b3 ≠ T) (n4 : b4 ≠ T) (n5 : b5 ≠ T) (W : World) (o : Only (fun _ => False) w W) => rbp b0 b1 b2 b3 b4 b5 i j cl ci T cp vx vp x p w0 x8 p8 (by omega) (by omega) hx0 hj rx rp hcl hci hcp hT n0 n1 n2 n3 n4 n5 n 0 n 0 W (by omega) (by omega) hn (by rw [Nat.zero_add]; exact Nat.le_of_eq hp.symm) (ho.same o) (hbT.past o))
  rw [show ((0 : Nat) : Int) = 0 from rfl] at A
  obtain ⟨Y, hY⟩ : ∃ Y, Y = MADE n i x p := ⟨_, rfl⟩
  have e : (MAD (n + 1) 0 n i x (p.drop 0)).1 = Y := by rw [hY, List.drop_zero]; rfl
  rw [e] at A
  rw [← hY]
  obtain ⟨m4, m5⟩ := WK.made w i j (.func (.func 41) #[] #[.pointer (some ⟨cl, 0, none⟩), .pointer (some ⟨ci, 0, none⟩)]) (.func (.func 42) #[] #[.pointer (some ⟨T, 0, none⟩), .pointer (some ⟨cp, 0, none⟩)]) (.func (.func 14) #[] #[]) (.func (.func 58) #[] #[.pointer (some ⟨w.heap.size, 0, none⟩), .pointer (some ⟨w.heap.size + 1, 0, none⟩), .pointer (some ⟨w.heap.size + 1 + 1, 0, none⟩), .pointer (some ⟨w.heap.size + 1 + 1 + 1, 0, none⟩), .pointer (some ⟨w.heap.size + 1 + 1 + 1 + 1, 0, none⟩), .pointer (some ⟨w.heap.size + 1 + 1 + 1 + 1 + 1, 0, none⟩)]) 53 28 53
  have M5 := hideIt m5
  have R := hideIt (A.out _ _ _ _ _ _ (by omega) (by omega) (by omega) (by omega) (by omega) (by omega) _ m5 m4)
  clear x8 p8 hn hx0 hin hj hp rx rp hcl hci hcp hT ho hbT hlt hmn hY e m4 m5 A
  go_enter Try.func43, Try.ntmps43
  go_wp2_with fail
  refine R.out.mono ?_
  rintro e w1 ⟨v1, rfl, r1, r2, r3, o1⟩
  have F := hideIt (And.intro r1 (And.intro r2 ((M5.out.mono (fun _ _ f => f.elim)).trans o1 (fun _ _ f => f))))
  obtain ⟨ao1, cap1, e1⟩ := r1.len
  subst e1
  clear R r1 r2 r3 o1 M5
  go_wp2
  go_ret
  exact ⟨_, rfl, F.out⟩

/-- may leaves be rebuilt at this place? -/
abbrev RBA (n i : Int) (x : List (List Int)) : Prop := 1 ≤ n ∧ n ≤ 1048576 ∧ 0 < x.length ∧ 0 ≤ i ∧ i + x.length ≤ n
/-- the error -/
def RBE (n i : Int) (x p : List (List Int)) : Int := if RBA n i x then (if p.length = MANY n.toNat i.toNat (i.toNat + x.length - 1) then 0 else 8) else 1
/-- the root -/
def RBT (n i : Int) (x p : List (List Int)) : List Int := if RBE n i x p = 0 then MADE n.toNat i.toNat x p else []
theorem RBE_bad {n i : Int} {x p : List (List Int)} (h : ¬ RBA n i x) : RBE n i x p = 1 ∧ RBT n i x p = [] := by
  have e : RBE n i x p = 1 := if_neg h
  exact ⟨e, by unfold RBT; rw [e]; rfl⟩
theorem RBE_not {n i : Int} {x p : List (List Int)} (h : RBA n i x) (hp : p.length ≠ MANY n.toNat i.toNat (i.toNat + x.length - 1)) : RBE n i x p = 8 ∧ RBT n i x p = [] := by
  have e : RBE n i x p = 8 := by unfold RBE; rw [if_pos h, if_neg hp]
  exact ⟨e, by unfold RBT; rw [e]; rfl⟩
theorem RBE_ok {n i : Int} {x p : List (List Int)} (h : RBA n i x) (hp : p.length = MANY n.toNat i.toNat (i.toNat + x.length - 1)) : RBE n i x p = 0 ∧ RBT n i x p = MADE n.toNat i.toNat x p := by
  have e : RBE n i x p = 0 := by unfold RBE; rw [if_pos h, if_pos hp]
  exact ⟨e, by unfold RBT; rw [if_pos e]⟩
theorem RBT_r8 {n i : Int} {x p : List (List Int)} (hx : R8 x) (hp : R8 p) : U8 (RBT n i x p) ∧ (RBT n i x p).length ≤ 1000000000 := by
  unfold RBT
  split
  · exact MAD_r8 _ _ _ _ _ _ hx hp
  · exact ⟨fun y hy => by simp at hy, by simp⟩

set_option maxHeartbeats 800000 in
set_option maxRecDepth 100000 in
theorem rebuild_bad1 (n i : Int) (lx : Option Addr) (m cx : Nat) (vp : Value) (hb : n < 1 ∨ 1048576 < n ∨ m = 0) (hp : ∃ ao l c, vp = .slice ao l c) (w : World) :
    Calls Try.prog 21 #[.int .i64 n, .int .i64 i, .slice lx m cx, vp] w fun e w' => e = .returned (.tuple #[.slice none 0 0, .int .i64 1]) ∧ Only (fun _ => False) w w' := by
  obtain ⟨ao, l, c, rfl⟩ := hp
  have O := hideIt ((((Only.refl (fun _ => False) w).alloc (.cells #[.int .i64 i] 3)).alloc (.cells #[.slice lx m cx] 23)).alloc (.cells #[.slice ao l c] 23))
  by_cases h1 : n < 1
  · have d1 : decide (n < 1) = true := decide_eq_true h1
    clear hb
    go_enter Try.func21, Try.ntmps21
    go_wp2
    go_ret2
    exact ⟨rfl, O.out⟩
  · have d1 : decide (n < 1) = false := decide_eq_false h1
    by_cases h2 : 1048576 < n
    · have d2 : decide (1048576 < n) = true := decide_eq_true h2
      clear hb
      go_enter Try.func21, Try.ntmps21
      go_wp2
      go_ret2
      exact ⟨rfl, O.out⟩
    · have d2 : decide (1048576 < n) = false := decide_eq_false h2
      obtain rfl : m = 0 := by omega
      clear hb
      go_enter Try.func21, Try.ntmps21
      go_wp2
      go_ret2
      exact ⟨rfl, O.out⟩
set_option maxHeartbeats 800000 in
set_option maxRecDepth 100000 in
theorem rebuild_bad2 (n i : Int) (lx : Option Addr) (m cx : Nat) (vp : Value) (h1 : 1 ≤ n) (h2 : n ≤ 1048576) (h3 : 0 < m) (hm : m ≤ 1000000000) (hb : i < 0 ∨ n < i + m) (hp : ∃ ao l c, vp = .slice ao l c) (w : World) :
    Calls Try.prog 21 #[.int .i64 n, .int .i64 i, .slice lx m cx, vp] w fun e w' => e = .returned (.tuple #[.slice none 0 0, .int .i64 1]) ∧ Only (fun _ => False) w w' := by
  obtain ⟨ao, l, c, rfl⟩ := hp
  have O := hideIt ((((Only.refl (fun _ => False) w).alloc (.cells #[.int .i64 i] 3)).alloc (.cells #[.slice lx m cx] 23)).alloc (.cells #[.slice ao l c] 23))
  have d1 : decide (n < 1) = false := decide_eq_false (by omega)
  have d2 : decide (1048576 < n) = false := decide_eq_false (by omega)
  have d3 : ((m : Int) == 0) = false := by rw [beq_eq_false_iff_ne]; omega
  obtain ⟨s, hs⟩ : ∃ s : Int, n - m = s := ⟨_, rfl⟩
  by_cases h4 : i < 0
  · have d4 : decide (i < 0) = true := decide_eq_true h4
    clear hb hs
    go_enter Try.func21, Try.ntmps21
    go_wp2
    go_ret2
    exact ⟨rfl, O.out⟩
  · have d4 : decide (i < 0) = false := decide_eq_false h4
    have d5 : decide (s < i) = true := decide_eq_true (by omega)
    have s1 : s ≤ 1048576 := by omega
    have s2 : -1000000000 ≤ s := by omega
    clear hb
    go_enter Try.func21, Try.ntmps21
    go_wp2
    go_ret2
    exact ⟨rfl, O.out⟩
end Go.Proofs.Ytnifflnhbpfmnaa
