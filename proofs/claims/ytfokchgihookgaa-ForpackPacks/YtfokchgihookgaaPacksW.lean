/- The walk of the statement on what any numbers are packed to. -/
import Derived.Test.YtfokchgihookgaaFAwake
import Derived.Test.YtfokchgihookgaaRPa
namespace Go.Proofs.Ytfokchgihookgaa
open Go.RowKit

set_option maxHeartbeats 800000 in
set_option maxRecDepth 100000 in
theorem packs_any (v : Value) (xs : List Int) (w : World) (hb : Bs .u64 w v xs) (hu : U64 xs) :
    Calls Try.prog 3 #[v] w fun e w' => e = .returned (.bool true) ∧ Only (fun _ => False) w w' := by
  have AW := hideIt (awake_any w)
  have HB := hideIt hb
  obtain ⟨ao, cap, rfl⟩ := hb.len
  have HU := hideIt hu
  clear hb hu
  by_cases h1 : 400 < xs.length
  · have d1 : decide ((400 : Int) < xs.length) = true := decide_eq_true (by omega)
    by_cases h2 : xs.length ≤ 65536
    · have d2 : decide ((xs.length : Int) ≤ 65536) = true := decide_eq_true (by omega)
      clear HB HU
      generalize xs.length = m at *
      clear h1 h2
      go_enter Try.func3, Try.ntmps3
      go_wp2_with fail
      refine AW.out.mono ?_
      rintro e w1 ⟨rfl, on1⟩
      have O1 := hideIt on1
      clear on1 AW
      go_wp2
      go_ret
      exact ⟨rfl, O1.out⟩
    · have d2 : decide ((xs.length : Int) ≤ 65536) = false := decide_eq_false (by omega)
      obtain ⟨m, hm⟩ : ∃ m, m = xs.length := ⟨_, rfl⟩
      have PA := fun (w1 : World) (o : Only (fun _ => False) w w1) => pack_long (.slice ao xs.length cap) xs w1 (HB.out.past o) (by omega)
      have PR := fun (w1 : World) (o : Only (fun _ => False) w w1) => rpack_long (.slice ao xs.length cap) xs w1 (HB.out.past o) (by omega)
      have PA := hideIt PA
      have PR := hideIt PR
      rw [← hm] at HB PA PR d1 d2 ⊢
      clear h1 h2 hm
      have z0 : (((4 : Nat) : Int) == 4) = true := by simp
      go_enter Try.func3, Try.ntmps3
      go_wp2_with fail
      refine AW.out.mono ?_
      rintro e w1 ⟨rfl, on1⟩
      have O1 := hideIt on1
      have A := hideIt (PA.out w1 on1)
      have R := hideIt (PR.out w1 on1)
      have SM := hideIt (same_eq (.slice none 0 0) (.slice none 0 0) [] w1 (Bs.nil _ _) (Bs.nil _ _) (by decide))
      clear on1 AW PA PR
      go_wp2_with fail
      refine A.out.mono ?_
      rintro e w2 ⟨rfl, rfl⟩
      clear A
      go_wp2_with fail
      refine R.out.mono ?_
      rintro e w2 ⟨rfl, rfl⟩
      clear R
      go_wp2_with fail
      refine SM.out.mono ?_
      rintro e w2 ⟨rfl, on2⟩
      have O2 := hideIt (O1.out.same on2)
      clear SM on2
      go_wp2
      go_ret
      exact ⟨rfl, O2.out⟩
  · have d1 : decide ((400 : Int) < xs.length) = false := decide_eq_false (by omega)
    have HPL : Hid ((PK xs).length ≤ 140737488355328) := by
      simp only [Hid]
      have h3 := lohi HU.out
      have h4 := gs_le10 (v := (lo xs).toNat) (by omega)
      have h5 : xs.length * wd xs ≤ 400 * 64 := Nat.mul_le_mul (by omega) (wd_le HU.out)
      rw [PK_length]; omega
    obtain ⟨m, hm⟩ : ∃ m, m = xs.length := ⟨_, rfl⟩
    have PA := fun (w1 : World) (o : Only (fun _ => False) w w1) => pack_bs (.slice ao xs.length cap) xs w1 (HB.out.past o) HU.out (by omega)
    have PR := fun (w1 : World) (o : Only (fun _ => False) w w1) => rpack_bs (.slice ao xs.length cap) xs w1 (HB.out.past o) HU.out (by omega)
    have PA := hideIt PA
    have PR := hideIt PR
    rw [← hm] at HB PA PR d1 ⊢
    clear h1 hm
    go_enter Try.func3, Try.ntmps3
    go_wp2_with fail
    refine AW.out.mono ?_
    rintro e w1 ⟨rfl, on1⟩
    have O1 := hideIt on1
    have A := hideIt (PA.out w1 on1)
    clear on1 AW PA
    go_wp2_with fail
    refine A.out.mono ?_
    rintro e w2 ⟨v2, rfl, own2, on2⟩
    have O2 := hideIt (O1.out.same on2)
    have B2 := hideIt (Bs.of_own own2)
    have R := hideIt (PR.out w2 O2.out)
    obtain ⟨f2, c2, e2⟩ := B2.out.len
    subst e2
    clear A own2 on2 PR
    go_wp2_with fail
    refine R.out.mono ?_
    rintro e w3 ⟨v3, rfl, own3, on3⟩
    have O3 := hideIt (O2.out.same on3)
    have SM := hideIt (same_eq _ v3 (PK xs) w3 (B2.out.past on3) (Bs.of_own own3) HPL.out)
    obtain ⟨f3, c3, e3⟩ := (Bs.of_own own3).len
    subst e3
    clear R own3 on3
    go_wp2_with fail
    refine SM.out.mono ?_
    rintro e w4 ⟨rfl, on4⟩
    have O4 := hideIt (O3.out.same on4)
    clear SM on4
    go_wp2
    go_ret
    exact ⟨rfl, O4.out⟩
end Go.Proofs.Ytfokchgihookgaa
