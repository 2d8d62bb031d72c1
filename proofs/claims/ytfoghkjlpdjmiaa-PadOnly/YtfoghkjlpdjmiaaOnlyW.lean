/- One way alone: the walk. -/
import Derived.Test.YtfoghkjlpdjmiaaAw19
namespace Go.Proofs.Ytfoghkjlpdjmiaa
open Go.RowKit

set_option maxHeartbeats 1600000 in
set_option maxRecDepth 100000 in
theorem only_walk (v : Value) (b : List Int) (h8 : U8 b) (w : World) (h : Bs .u8 w v b) : Calls Try.prog 6 #[v] w fun e w' => e = .returned (.bool true) ∧ Below w.heap.size w w' := by
  have A := hideIt (awake_any w)
  have HB := hideIt h
  obtain ⟨ao, cap, rfl⟩ := h.len
  obtain ⟨m, hm⟩ : ∃ m, m = b.length := ⟨_, rfl⟩
  rw [← hm] at HB ⊢
  by_cases hl : 20000 < m
  · have d1 : decide ((20000 : Int) < (m : Int)) = true := decide_eq_true (by omega)
    clear h h8 hm hl HB
    go_enter Try.func6, Try.ntmps6
    go_wp2_with fail
    refine A.out.mono ?_
    rintro e w1 ⟨rfl, o1⟩
    have O1 := hideIt o1
    clear o1 A
    go_wp2
    go_ret
    exact ⟨rfl, O1.out.low (Nat.le_refl _)⟩
  have d1 : decide ((20000 : Int) < (m : Int)) = false := decide_eq_false (by omega)
  have U := hideIt (fun (W : World) (o : Only (fun _ => False) w W) => unpad_any _ b W (HB.out.past o) h8 (by omega))
  by_cases hk : POK b
  · have e1 : PUe b = 0 ∧ PUt b = PUN b := ⟨if_pos hk, if_pos hk⟩
    simp only [e1.1, e1.2] at U
    have P := hideIt (fun (W : World) (u : Value) (hu : Bs .u8 W u (PUN b)) => pad_own u (PUN b) W hu hk.1)
    simp only [hk.2] at P
    generalize PUN b = D at *
    have HM := hideIt hm
    have HL : Hid (b.length ≤ 140737488355328) := by show _ ≤ _; omega
    clear h h8 hm e1 hk
    go_enter Try.func6, Try.ntmps6
    go_wp2_with fail
    refine A.out.mono ?_
    rintro e w1 ⟨rfl, o1⟩
    have O1 := hideIt o1
    clear o1 A
    go_wp2_with fail
    refine (U.out w1 O1.out).mono ?_
    rintro e w2 ⟨r, rfl, b2, _, _, o2⟩
    have O2 := hideIt (O1.out.same o2)
    have P2 := hideIt (P.out w2 r b2)
    clear b2 o2 O1 U P
    go_wp2_with fail
    refine P2.out.mono ?_
    rintro e w3 ⟨u, rfl, own3, o3⟩
    have O3 := hideIt (O2.out.same o3)
    have S3 := hideIt (lsame_eq u _ b w3 (Bs.of_own (k := .u8) (E := 5) own3) (HB.out.past O3.out) HL.out)
    clear own3 o3 O2 P2
    go_wp2_with fail
    refine S3.out.mono ?_
    rintro e w4 ⟨rfl, o4⟩
    have O4 := hideIt (O3.out.same o4)
    clear o4 O3 S3
    go_wp2
    go_ret
    exact ⟨rfl, O4.out.low (Nat.le_refl _)⟩
  · have e1 : PUe b = 3 ∧ PUt b = [] := ⟨if_neg hk, if_neg hk⟩
    simp only [e1.1, e1.2] at U
    clear h h8 hm e1 hk HB
    go_enter Try.func6, Try.ntmps6
    go_wp2_with fail
    refine A.out.mono ?_
    rintro e w1 ⟨rfl, o1⟩
    have O1 := hideIt o1
    clear o1 A
    go_wp2_with fail
    refine (U.out w1 O1.out).mono ?_
    rintro e w2 ⟨r, rfl, b2, _, _, o2⟩
    obtain ⟨ra, rc, er⟩ := b2.len
    subst er
    have O2 := hideIt (O1.out.same o2)
    clear b2 o2 O1 U
    go_wp2
    go_ret
    exact ⟨rfl, O2.out.low (Nat.le_refl _)⟩
end Go.Proofs.Ytfoghkjlpdjmiaa
