/- What any bytes are in their bucket: the walk. -/
import Derived.Test.YtfoghkjlpdjmiaaAw19
import Derived.Test.YtfoghkjlpdjmiaaR19
namespace Go.Proofs.Ytfoghkjlpdjmiaa
open Go.RowKit

theorem PDt_len (b : List Int) : (PDt b).length ≤ 4194304 := by
  unfold PDt
  split
  · rename_i h
    rw [PADL_len b h]; exact PLN_le _
  · simp
theorem PUt_len (b : List Int) : (PUt b).length ≤ b.length := by
  by_cases hk : POK b
  · rw [show PUt b = PUN b from if_pos hk]
    unfold PUN
    rw [List.length_take, List.length_drop]; omega
  · rw [show PUt b = [] from if_neg hk]
    simp
set_option maxHeartbeats 1600000 in
set_option maxRecDepth 100000 in
theorem pads_walk (v : Value) (b : List Int) (h8 : U8 b) (w : World) (h : Bs .u8 w v b) (nc : NoCap v) : Calls Try.prog 4 #[v] w fun e w' => e = .returned (.bool true) ∧ Below w.heap.size w w' := by
  have A := hideIt (awake_any w)
  have HB := hideIt h
  obtain ⟨ao, cap, rfl⟩ := h.len
  obtain ⟨m, hm⟩ : ∃ m, m = b.length := ⟨_, rfl⟩
  rw [← hm] at HB nc ⊢
  by_cases hl : 20000 < m
  · have d1 : decide ((20000 : Int) < (m : Int)) = true := decide_eq_true (by omega)
    clear h h8 hm hl HB nc
    go_enter Try.func4, Try.ntmps4
    go_wp2_with fail
    refine A.out.mono ?_
    rintro e w1 ⟨rfl, o1⟩
    have O1 := hideIt o1
    clear o1 A
    go_wp2
    go_ret
    exact ⟨rfl, O1.out.low (Nat.le_refl _)⟩
  have d1 : decide ((20000 : Int) < (m : Int)) = false := decide_eq_false (by omega)
  have P := hideIt (fun (W : World) (o : Only (fun _ => False) w W) => pad_any _ b W (HB.out.past o))
  have RP := hideIt (fun (W : World) (o : Only (fun _ => False) w W) => rpad_any _ b W (HB.out.past o) nc)
  have U := hideIt (fun (W : World) (o : Only (fun _ => False) w W) => unpad_any _ b W (HB.out.past o) h8 (by omega))
  have RU := hideIt (fun (W : World) (o : Only (fun _ => False) w W) => runpad_any _ b W (HB.out.past o) nc h8 (by omega))
  have HL : Hid ((PDt b).length ≤ 140737488355328 ∧ (PUt b).length ≤ 140737488355328) := by
    have h1 := PDt_len b
    have h2 := PUt_len b
    exact ⟨by omega, by omega⟩
  generalize PDt b = D at *
  generalize PUt b = E at *
  generalize PDe b = p at *
  generalize PUe b = q at *
  clear h h8 hm nc HB
  go_enter Try.func4, Try.ntmps4
  go_wp2_with fail
  refine A.out.mono ?_
  rintro e w1 ⟨rfl, o1⟩
  have O1 := hideIt o1
  clear o1 A
  go_wp2_with fail
  refine (P.out w1 O1.out).mono ?_
  rintro e w2 ⟨r2, rfl, own2, o2⟩
  have O2 := hideIt (O1.out.same o2)
  have B2 := hideIt (Bs.of_own (k := .u8) (E := 5) own2)
  clear own2 o2 O1 P
  go_wp2_with fail
  refine (RP.out w2 O2.out).mono ?_
  rintro e w3 ⟨r3, rfl, own3, o3⟩
  have O3 := hideIt (O2.out.same o3)
  have B3 := hideIt (And.intro (B2.out.past o3) (Bs.of_own (k := .u8) (E := 5) own3))
  clear own3 o3 O2 B2 RP
  go_wp2_with fail
  refine (U.out w3 O3.out).mono ?_
  rintro e w4 ⟨r4, rfl, b4, _, _, o4⟩
  have O4 := hideIt (O3.out.same o4)
  have B4 := hideIt (And.intro (B3.out.1.past o4) (And.intro (B3.out.2.past o4) b4))
  clear b4 o4 O3 B3 U
  go_wp2_with fail
  refine (RU.out w4 O4.out).mono ?_
  rintro e w5 ⟨r5, rfl, b5, o5⟩
  have O5 := hideIt (O4.out.same o5)
  have S5 := hideIt (lsame_eq r2 r3 D w5 (B4.out.1.past o5) (B4.out.2.1.past o5) HL.out.1)
  have B5 := hideIt (And.intro (B4.out.2.2.past o5) b5)
  clear b5 o5 O4 B4 RU
  go_wp2_with fail
  refine S5.out.mono ?_
  rintro e w6 ⟨rfl, o6⟩
  have O6 := hideIt (O5.out.same o6)
  have S6 := hideIt (lsame_eq r4 r5 E w6 (B5.out.1.past o6) (B5.out.2.past o6) HL.out.2)
  clear o6 O5 B5 S5
  go_wp2_with fail
  refine S6.out.mono ?_
  rintro e w7 ⟨rfl, o7⟩
  have O7 := hideIt (O6.out.same o7)
  clear o7 O6 S6
  go_wp2
  go_ret
  exact ⟨rfl, O7.out.low (Nat.le_refl _)⟩
end Go.Proofs.Ytfoghkjlpdjmiaa
