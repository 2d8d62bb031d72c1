/- The head of each statement on numbers that are packed: the document's example holds. -/
import Derived.Test.YtfokchgihookgaaUn
import Derived.Test.YtfokchgihookgaaSame2
import Derived.Test.YtfokchgihookgaaSameU
namespace Go.Proofs.Ytfokchgihookgaa
open Go.RowKit

set_option maxHeartbeats 800000 in
set_option maxRecDepth 100000 in
theorem awake_any (w : World) :
    Calls Try.prog 9 #[] w fun e w' => e = .returned (.bool true) ∧ Only (fun _ => False) w w' := by
  have A := pack_bs (.slice (some ⟨w.heap.size, 0, none⟩) 3 3) [7, 9, 8] (w.alloc (.cells #[.int .u64 7, .int .u64 9, .int .u64 8] 35)) (Bs.litN .u64 w 35 [7, 9, 8] _ _ rfl rfl) (by intro x hx; simp at hx; omega) (by decide)
  rw [pk_ex] at A
  have A := hideIt A
  go_enter Try.func9, Try.ntmps9
  go_wp2_with fail
  refine A.out.mono ?_
  rintro e w1 ⟨v1, rfl, own1, o1⟩
  have O1 := hideIt (((Only.refl (fun _ => False) w).alloc (.cells #[.int .u64 7, .int .u64 9, .int .u64 8] 35)).trans o1 (fun _ _ f => f))
  have B1 := hideIt (Bs.of_own own1)
  have B := unpack_bs (.slice (some ⟨w1.heap.size, 0, none⟩) 3 3) [7, 2, 36] 3 (w1.alloc (.cells #[.int .u8 7, .int .u8 2, .int .u8 36] 5)) (Bs.litN .u8 w1 5 [7, 2, 36] _ _ rfl rfl) (by intro x hx; simp at hx; omega) (by decide)
  rw [un_ex] at B
  have B := hideIt B
  obtain ⟨f1, c1, e1⟩ := B1.out.len
  subst e1
  clear A own1 o1
  go_wp2_with fail
  refine B.out.mono ?_
  rintro e w2 ⟨v2, rfl, own2, o2⟩
  have O2 := hideIt ((O1.out.alloc (.cells #[.int .u8 7, .int .u8 2, .int .u8 36] 5)).trans o2 (fun _ _ f => f))
  have B2 := hideIt (Bs.of_own own2)
  have on12 : Only (fun _ => False) w1 w2 := ((Only.refl (fun _ => False) w1).alloc (.cells #[.int .u8 7, .int .u8 2, .int .u8 36] 5)).trans o2 (fun _ _ f => f)
  have SM := hideIt (same_eq _ (.slice (some ⟨w2.heap.size, 0, none⟩) 3 3) [7, 2, 36] (w2.alloc (.cells #[.int .u8 7, .int .u8 2, .int .u8 36] 5)) ((B1.out.keep on12 (fun _ _ f => f)).later ((Below.refl _ _).alloc (Nat.le_refl _) _)) (Bs.litN .u8 w2 5 [7, 2, 36] _ _ rfl rfl) (by decide))
  obtain ⟨f2, c2, e2⟩ := B2.out.len
  subst e2
  clear B own2 o2 on12
  go_wp2_with fail
  refine SM.out.mono ?_
  rintro e w3 ⟨rfl, o3⟩
  have O3 := hideIt ((O2.out.alloc (.cells #[.int .u8 7, .int .u8 2, .int .u8 36] 5)).trans o3 (fun _ _ f => f))
  have on23 : Only (fun _ => False) w2 w3 := ((Only.refl (fun _ => False) w2).alloc (.cells #[.int .u8 7, .int .u8 2, .int .u8 36] 5)).trans o3 (fun _ _ f => f)
  have SU := hideIt (lsame5 _ (.slice (some ⟨w3.heap.size, 0, none⟩) 3 3) [7, 9, 8] (w3.alloc (.cells #[.int .u64 7, .int .u64 9, .int .u64 8] 35)) ((B2.out.keep on23 (fun _ _ f => f)).later ((Below.refl _ _).alloc (Nat.le_refl _) _)) (Bs.litN .u64 w3 35 [7, 9, 8] _ _ rfl rfl) (by decide))
  clear SM o3 on23
  go_wp2_with fail
  refine SU.out.mono ?_
  rintro e w4 ⟨rfl, o4⟩
  have O4 := hideIt ((O3.out.alloc (.cells #[.int .u64 7, .int .u64 9, .int .u64 8] 35)).trans o4 (fun _ _ f => f))
  clear SU o4
  go_wp2
  go_ret
  exact ⟨rfl, O4.out⟩
theorem Only.same {a b c : World} (h : Only (fun _ => False) a b) (k : Only (fun _ => False) b c) : Only (fun _ => False) a c := h.trans k (fun _ _ f => f)
theorem Bs.past {k : IntKind} {w w' : World} {v : Value} {xs : List Int} (h : Bs k w v xs) (o : Only (fun _ => False) w w') : Bs k w' v xs := h.keep o (fun _ _ f => f)
end Go.Proofs.Ytfokchgihookgaa
