/- The walk over numbers: proofLength. -/
import Derived.Test.YtnifflnhbpfmnaaWm
import Derived.Laws.EntriesVeiled
namespace Go.Proofs.Ytnifflnhbpfmnaa
open Go.RowKit

set_option maxHeartbeats 1600000 in
set_option maxRecDepth 100000 in
theorem walki_any (n i j : Nat) (hij : i ≤ j) (h0 : 0 < n) (hn : n ≤ 1000000000) (w : World) :
    Calls Try.prog 57 #[.int .i64 n, .int .i64 i, .int .i64 j, .func (.func 54) #[] #[], .func (.func 55) #[] #[], .func (.func 56) #[] #[]] w
      fun e w' => e = .returned (.int .i64 ((MANY n i j : Nat) : Int)) ∧ Only (fun _ => False) w w' := by
  have A := hideIt (fun (b0 b1 b2 b3 b4 b5 : Nat) (W : World) => plp b0 b1 b2 b3 b4 b5 i j hij n 0 n W h0 (by omega) hn)
  rw [show ((0 : Nat) : Int) = 0 from rfl] at A
  obtain ⟨y, hy⟩ : ∃ y, y = MANY n i j := ⟨_, rfl⟩
  have e : MNY (n + 1) 0 n i j = y := hy.symm
  rw [e] at A
  rw [← hy]
  obtain ⟨m4, m5⟩ := WK.made w i j (.func (.func 54) #[] #[]) (.func (.func 55) #[] #[]) (.func (.func 56) #[] #[]) (.func (.func 66) #[] #[.pointer (some ⟨w.heap.size, 0, none⟩), .pointer (some ⟨w.heap.size + 1, 0, none⟩), .pointer (some ⟨w.heap.size + 1 + 1, 0, none⟩), .pointer (some ⟨w.heap.size + 1 + 1 + 1, 0, none⟩), .pointer (some ⟨w.heap.size + 1 + 1 + 1 + 1, 0, none⟩), .pointer (some ⟨w.heap.size + 1 + 1 + 1 + 1 + 1, 0, none⟩)]) 69 69 69
  have M4 := hideIt m4
  have M5 := hideIt m5
  have R := hideIt (A.out _ _ _ _ _ _ _ M4.out)
  clear hij h0 hn hy e m4 m5 A M4
  go_enter Try.func57, Try.ntmps57
  go_wp2_with fail
  refine R.out.mono ?_
  rintro e w1 ⟨rfl, o1⟩
  have F := hideIt (M5.out.same o1)
  clear R o1 M5
  go_wp2
  go_ret
  exact ⟨rfl, F.out⟩

set_option maxHeartbeats 400000 in
set_option maxRecDepth 100000 in
theorem proofLength_any (n i j : Nat) (hij : i ≤ j) (h0 : 0 < n) (hn : n ≤ 1000000000) (w : World) :
    Calls Try.prog 40 #[.int .i64 n, .int .i64 i, .int .i64 j] w fun e w' => e = .returned (.int .i64 ((MANY n i j : Nat) : Int)) ∧ Only (fun _ => False) w w' := by
  have A := hideIt (walki_any n i j hij h0 hn w)
  obtain ⟨y, hy⟩ : ∃ y, y = MANY n i j := ⟨_, rfl⟩
  rw [← hy] at A ⊢
  clear hy hij h0 hn
  go_enter Try.func40, Try.ntmps40
  go_wp2_with fail
  refine A.out.mono ?_
  rintro e w1 ⟨rfl, o1⟩
  have F := hideIt o1
  clear A o1
  go_wp2
  go_ret
  exact ⟨rfl, F.out⟩
end Go.Proofs.Ytnifflnhbpfmnaa
