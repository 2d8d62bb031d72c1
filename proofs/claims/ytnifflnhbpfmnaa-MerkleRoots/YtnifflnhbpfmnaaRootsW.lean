/- The walk of MerkleRoots. -/
import Derived.Test.YtnifflnhbpfmnaaAw20
namespace Go.Proofs.Ytnifflnhbpfmnaa
open Go.RowKit
set_option linter.unusedVariables false

set_option maxHeartbeats 1600000 in
set_option maxRecDepth 100000 in
theorem roots_walk (va vb vl : Value) (a b : List Int) (l : List (List Int)) (w : World) (ha : Bs .u8 w va a) (na : NoCap va) (a8 : U8 a) (hb : Bs .u8 w vb b) (nb : NoCap vb) (b8 : U8 b) (rl : RL w vl l) (l8 : ∀ x ∈ l, U8 x) :
    Calls Try.prog 3 #[va, vb, vl] w fun e w' => e = .returned (.bool true) ∧ Below w.heap.size w w' := by
  have A := hideIt (awake_any w)
  have FW := hideIt (fun (W : World) (o : Only (fun _ => False) w W) => few_any vl l 70 (by decide) W (rl.past o))
  rw [show ((70 : Nat) : Int) = 70 from rfl] at FW
  obtain ⟨D, hD⟩ : ∃ D, D = FEW l 70 := ⟨_, rfl⟩
  rw [← hD] at FW
  obtain ⟨aoa, ca, eva⟩ := ha.len
  obtain ⟨aob, cb, evb⟩ := hb.len
  obtain ⟨aol, cl, evl, _⟩ := rl.len
  obtain ⟨n1, h1⟩ : ∃ n1, n1 = a.length := ⟨_, rfl⟩
  obtain ⟨n2, h2⟩ : ∃ n2, n2 = b.length := ⟨_, rfl⟩
  obtain ⟨n3, h3⟩ : ∃ n3, n3 = l.length := ⟨_, rfl⟩
  by_cases c1 : 300 < n1
  · have d1 : decide ((300 : Int) < (n1 : Int)) = true := decide_eq_true (by omega)
    subst eva
    subst evb
    subst evl
    rw [← h1, ← h2, ← h3]
    clear ha na a8 hb nb b8 rl l8 FW hD h1 h2 h3
    go_enter Try.func3, Try.ntmps3
    go_wp2_with fail
    refine A.out.mono ?_
    rintro e w1 ⟨rfl, o1⟩
    have F := hideIt (o1.low (Nat.le_refl _))
    clear o1 A
    go_wp2
    go_ret
    exact ⟨rfl, F.out⟩
  have d1 : decide ((300 : Int) < (n1 : Int)) = false := decide_eq_false (by omega)
  by_cases c2 : 300 < n2
  · have d2 : decide ((300 : Int) < (n2 : Int)) = true := decide_eq_true (by omega)
    subst eva
    subst evb
    subst evl
    rw [← h1, ← h2, ← h3]
    clear ha na a8 hb nb b8 rl l8 FW hD h1 h2 h3
    go_enter Try.func3, Try.ntmps3
    go_wp2_with fail
    refine A.out.mono ?_
    rintro e w1 ⟨rfl, o1⟩
    have F := hideIt (o1.low (Nat.le_refl _))
    clear o1 A
    go_wp2
    go_ret
    exact ⟨rfl, F.out⟩
  have d2 : decide ((300 : Int) < (n2 : Int)) = false := decide_eq_false (by omega)
  cases D with
  | false =>
    subst eva
    subst evb
    subst evl
    rw [← h3] at FW
    rw [← h1, ← h2, ← h3]
    clear ha na a8 hb nb b8 rl l8 hD h1 h2 h3
    go_enter Try.func3, Try.ntmps3
    go_wp2_with fail
    refine A.out.mono ?_
    rintro e w1 ⟨rfl, o1⟩
    have F := hideIt (o1.low (Nat.le_refl _))
    have G := hideIt (FW.out w1 o1)
    clear o1 A FW
    go_wp2_with fail
    refine G.out.mono ?_
    rintro e w2 ⟨rfl, rfl⟩
    clear G
    go_wp2
    go_ret
    exact ⟨rfl, F.out⟩
  | true =>
    obtain ⟨l70, l5, _⟩ := FEW_r5 hD.symm l8
    have LF := hideIt (fun (W : World) (o : Only (fun _ => False) w W) => leaf_any va a W (ha.past o) a8 (by omega))
    have RF := hideIt (fun (W : World) (o : Only (fun _ => False) w W) => rleaf20_any va a W (ha.past o) na a8 (by omega))
    have NF := hideIt (fun (W : World) (o : Only (fun _ => False) w W) => node_any va vb a b W (ha.past o) (hb.past o) a8 b8 (by omega) (by omega))
    have MF := hideIt (fun (W : World) (o : Only (fun _ => False) w W) => rnode20_any va vb a b W (ha.past o) na (hb.past o) nb a8 b8 (by omega) (by omega))
    have TF := hideIt (fun (W : World) (o : Only (fun _ => False) w W) => root_any l vl W (by omega) l5.r8 (rl.past o))
    have UF := hideIt (fun (W : World) (o : Only (fun _ => False) w W) => rroot_any l.length l vl W (Nat.le_refl _) (by omega) l5 (rl.past o))
    have tl := hideIt (TOP_r8 l5.r8).2
    subst eva
    subst evb
    subst evl
    rw [← h3] at FW TF UF
    rw [← h1] at LF RF
    rw [← h1, ← h2] at NF MF
    rw [← h1, ← h2, ← h3]
    obtain ⟨Y, hY⟩ : ∃ Y, Y = TOP l := ⟨_, rfl⟩
    rw [← hY] at TF UF tl
    obtain ⟨X, hX⟩ : ∃ X, X = LEAF a := ⟨_, rfl⟩
    rw [← hX] at LF RF
    obtain ⟨Z, hZ⟩ : ∃ Z, Z = NODE a b := ⟨_, rfl⟩
    rw [← hZ] at NF MF
    have xl : Hid (X.length = 32) := by show _ = _; rw [hX]; exact LEAF_len _
    have zl : Hid (Z.length = 32) := by show _ = _; rw [hZ]; exact NODE_len _ _
    clear ha na a8 hb nb b8 rl l8 hD h1 h2 h3 l70 l5 hY hX hZ
    go_enter Try.func3, Try.ntmps3
    go_wp2_with fail
    refine A.out.mono ?_
    rintro e w1 ⟨rfl, o1⟩
    have O1 := hideIt o1
    have G := hideIt (FW.out w1 o1)
    clear o1 A FW
    go_wp2_with fail
    refine G.out.mono ?_
    rintro e w2 ⟨rfl, rfl⟩
    have G2 := hideIt (LF.out w1 O1.out)
    clear G LF
    go_wp2_with fail
    refine G2.out.mono ?_
    rintro e w2 ⟨v2, rfl, own2, o2⟩
    have O2 := hideIt (O1.out.same o2)
    have B2 := hideIt (own_bs own2)
    have G3 := hideIt (RF.out w2 O2.out)
    obtain ⟨ao2, cap2, e2⟩ := own_form own2
    subst e2
    clear G2 own2 o2 O1 RF
    go_wp2_with fail
    refine G3.out.mono ?_
    rintro e w3 ⟨v3, rfl, own3, o3⟩
    have O3 := hideIt (O2.out.same o3)
    have S3 := hideIt (lsame20_any _ v3 X X w3 (B2.out.past o3) (own_bs own3) (by rw [xl.out]; decide))
    rw [decide_eq_true rfl] at S3
    obtain ⟨ao3, cap3, e3⟩ := own_form own3
    subst e3
    clear G3 own3 o3 O2 B2
    go_wp2_with fail
    refine S3.out.mono ?_
    rintro e w4 ⟨rfl, o4⟩
    have O4 := hideIt (O3.out.same o4)
    have G4 := hideIt (NF.out w4 O4.out)
    clear S3 o4 O3 NF
    go_wp2_with fail
    refine G4.out.mono ?_
    rintro e w5 ⟨v5, rfl, own5, o5⟩
    have O5 := hideIt (O4.out.same o5)
    have B5 := hideIt (own_bs own5)
    have G5 := hideIt (MF.out w5 O5.out)
    obtain ⟨ao5, cap5, e5⟩ := own_form own5
    subst e5
    clear G4 own5 o5 O4 MF
    go_wp2_with fail
    refine G5.out.mono ?_
    rintro e w6 ⟨v6, rfl, own6, o6⟩
    have O6 := hideIt (O5.out.same o6)
    have S6 := hideIt (lsame20_any _ v6 Z Z w6 (B5.out.past o6) (own_bs own6) (by rw [zl.out]; decide))
    rw [decide_eq_true rfl] at S6
    obtain ⟨ao6, cap6, e6⟩ := own_form own6
    subst e6
    clear G5 own6 o6 O5 B5
    go_wp2_with fail
    refine S6.out.mono ?_
    rintro e w7 ⟨rfl, o7⟩
    have O7 := hideIt (O6.out.same o7)
    have G7 := hideIt (TF.out w7 O7.out)
    clear S6 o7 O6 TF
    go_wp2_with fail
    refine G7.out.mono ?_
    rintro e w8 ⟨v8, rfl, own8, o8⟩
    have O8 := hideIt (O7.out.same o8)
    have B8 := hideIt (own_bs own8)
    have G8 := hideIt (UF.out w8 O8.out)
    obtain ⟨ao8, cap8, e8⟩ := own_form own8
    subst e8
    obtain ⟨m8, hm8⟩ : ∃ m, m = Y.length := ⟨_, rfl⟩
    rw [← hm8] at B8 ⊢
    clear G7 own8 o8 O7 UF hm8
    go_wp2_with fail
    refine G8.out.mono ?_
    rintro e w9 ⟨v9, rfl, own9, o9⟩
    have O9 := hideIt (O8.out.same o9)
    have S9 := hideIt (lsame20_any _ v9 Y Y w9 (B8.out.past o9) (own_bs own9) (by have := tl.out; omega))
    rw [decide_eq_true rfl] at S9
    obtain ⟨ao9, cap9, e9⟩ := own_form own9
    subst e9
    obtain ⟨m9, hm9⟩ : ∃ m, m = Y.length := ⟨_, rfl⟩
    rw [← hm9] at S9 ⊢
    clear G8 own9 o9 O8 B8 hm9
    go_wp2_with fail
    refine S9.out.mono ?_
    rintro e w10 ⟨rfl, o10⟩
    have F := hideIt ((O9.out.same o10).low (Nat.le_refl _))
    clear S9 o10 O9
    go_wp2
    go_ret
    exact ⟨rfl, F.out⟩
end Go.Proofs.Ytnifflnhbpfmnaa
