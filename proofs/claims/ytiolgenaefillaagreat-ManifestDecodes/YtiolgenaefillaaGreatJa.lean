/- Package manifest: must, which panics with an error; how many there are. -/
import Derived.Test.YtiolgenaefillaaGreatG8
import Derived.Test.YtiolgenaefillaaGreatG2
import Derived.WalkLawsBesides
namespace Go.Proofs.YtiolgenaefillaaGreat
open Go.RowKit

/-- the panic with an error of so much -/
def pan (c : Int) : Ending := .panicked [{ v := .iface 29 (.int .i64 c), recovered := false }]
theorem mustHold_ok (c : Int) (w : World) : Calls Tryz.prog 58 #[.bool true, .int .i64 c] w fun e w' => e = .returned (.tuple #[]) ∧ w = w' := by
  go_enter Tryz.func58, Tryz.ntmps58
  go_wp2
  go_end0
  exact ⟨rfl, rfl⟩
theorem mustHold_no (c : Int) (w : World) : Calls Tryz.prog 58 #[.bool false, .int .i64 c] w fun e w' => e = pan c ∧ w = w' := by
  go_enter Tryz.func58, Tryz.ntmps58
  go_wp2
  exact ⟨rfl, rfl, rfl⟩
theorem musts_ok (v : Value) (w : World) : Calls Tryz.prog 56 #[v, .int .i64 0] w fun e w' => e = .returned v ∧ w = w' := by
  go_enter Tryz.func56, Tryz.ntmps56
  go_wp2_with fail
  refine (mustHold_ok 0 w).mono ?_
  rintro e w' ⟨rfl, rfl⟩
  go_wp2
  go_ret
  exact ⟨rfl, rfl⟩
theorem musts_no (v : Value) (c : Int) (w : World) (h : c ≠ 0) : Calls Tryz.prog 56 #[v, .int .i64 c] w fun e w' => e = pan c ∧ w = w' := by
  have h0 : (c == 0) = false := by simpa using h
  go_enter Tryz.func56, Tryz.ntmps56
  go_wp2_with fail
  refine (mustHold_no c w).mono ?_
  rintro e w' ⟨rfl, rfl⟩
  unfold pan
  go_wp2
  exact ⟨rfl, rfl, rfl⟩
theorem mustu_ok (v : Value) (w : World) : Calls Tryz.prog 59 #[v, .int .i64 0] w fun e w' => e = .returned v ∧ w = w' := by
  go_enter Tryz.func59, Tryz.ntmps59
  go_wp2_with fail
  refine (mustHold_ok 0 w).mono ?_
  rintro e w' ⟨rfl, rfl⟩
  go_wp2
  go_ret
  exact ⟨rfl, rfl⟩
theorem mustu_no (v : Value) (c : Int) (w : World) (h : c ≠ 0) : Calls Tryz.prog 59 #[v, .int .i64 c] w fun e w' => e = pan c ∧ w = w' := by
  have h0 : (c == 0) = false := by simpa using h
  go_enter Tryz.func59, Tryz.ntmps59
  go_wp2_with fail
  refine (mustHold_no c w).mono ?_
  rintro e w' ⟨rfl, rfl⟩
  unfold pan
  go_wp2
  exact ⟨rfl, rfl, rfl⟩
theorem musty_ok (v : Value) (w : World) : Calls Tryz.prog 84 #[v, .int .i64 0] w fun e w' => e = .returned v ∧ w = w' := by
  go_enter Tryz.func84, Tryz.ntmps84
  go_wp2_with fail
  refine (mustHold_ok 0 w).mono ?_
  rintro e w' ⟨rfl, rfl⟩
  go_wp2
  go_ret
  exact ⟨rfl, rfl⟩
theorem musty_no (v : Value) (c : Int) (w : World) (h : c ≠ 0) : Calls Tryz.prog 84 #[v, .int .i64 c] w fun e w' => e = pan c ∧ w = w' := by
  have h0 : (c == 0) = false := by simpa using h
  go_enter Tryz.func84, Tryz.ntmps84
  go_wp2_with fail
  refine (mustHold_no c w).mono ?_
  rintro e w' ⟨rfl, rfl⟩
  unfold pan
  go_wp2
  exact ⟨rfl, rfl, rfl⟩
theorem rdV_err {ys : List Int} {c : Int} (h : sVarint ys = (0, 0, c)) (hc : c ≠ 0) : rdV ys = .error c := by unfold rdV; rw [h, if_neg hc]
theorem rdV_ok {ys : List Int} {a k : Nat} (h : sVarint ys = ((a : Int), k, 0)) : rdV ys = .ok (a, ys.drop k) := by unfold rdV; rw [h, if_pos rfl, Int.toNat_natCast]
theorem need_err {α : Type} {r : RDG α} {c : α → Bool} {e e' : Int} {ys : List Int} (h : r ys = .error e) : rdNeed r c e' ys = .error e := by unfold rdNeed; rw [h]
theorem need_no {α : Type} {r : RDG α} {c : α → Bool} {e' : Int} {ys : List Int} {x : α} {t : List Int} (h : r ys = .ok (x, t)) (hc : c x = false) : rdNeed r c e' ys = .error e' := by unfold rdNeed; rw [h]; simp [hc]
theorem need_ok {α : Type} {r : RDG α} {c : α → Bool} {e' : Int} {ys : List Int} {x : α} {t : List Int} (h : r ys = .ok (x, t)) (hc : c x = true) : rdNeed r c e' ys = .ok (x, t) := by unfold rdNeed; rw [h]; simp [hc]
theorem then_err {α β : Type} {r1 : RDG α} {r2 : α → RDG β} {ys : List Int} {e : Int} (h : r1 ys = .error e) : rdThen r1 r2 ys = .error e := by unfold rdThen; rw [h]
theorem then_no {α β : Type} {r1 : RDG α} {r2 : α → RDG β} {ys t : List Int} {x : α} {e : Int} (h : r1 ys = .ok (x, t)) (h2 : r2 x t = .error e) : rdThen r1 r2 ys = .error e := by unfold rdThen; rw [h]; simp only [h2]
theorem then_ok {α β : Type} {r1 : RDG α} {r2 : α → RDG β} {ys t t' : List Int} {x : α} {y : β} (h : r1 ys = .ok (x, t)) (h2 : r2 x t = .ok (y, t')) : rdThen r1 r2 ys = .ok ((x, y), t') := by unfold rdThen; rw [h]; simp only [h2]
theorem rdMany_err {ys : List Int} {c : Int} (h : sVarint ys = (0, 0, c)) (hc : c ≠ 0) : rdMany ys = .error c := need_err (rdV_err h hc)
theorem rdMany_long {ys : List Int} {a k : Nat} (h : sVarint ys = ((a : Int), k, 0)) (hn : 1048576 < a) : rdMany ys = .error 4 := need_no (rdV_ok h) (decide_eq_false (by omega))
theorem rdMany_ok {ys : List Int} {a k : Nat} (h : sVarint ys = ((a : Int), k, 0)) (hn : a ≤ 1048576) : rdMany ys = .ok (a, ys.drop k) := need_ok (rdV_ok h) (decide_eq_true hn)
/-- how a reading ends: the panic with its error, or what was read -/
def RDE {α : Type} (w : World) (R : Nat) (v : Value) (r : Except Int (α × List Int)) (val : α → Ending → World → Prop) (e : Ending) (w' : World) : Prop :=
  Only (fun k => k = R) w w' ∧ ((∃ c, c ≠ 0 ∧ r = .error c ∧ e = pan c) ∨ ∃ x rest, r = .ok (x, rest) ∧ val x e w' ∧ ∃ v2, CurAt 94 w' R v2 rest ∧ v2.ownBlock = v.ownBlock)
set_option maxHeartbeats 400000 in
theorem readCount_any {w : World} {R : Nat} {v : Value} {ys : List Int} (h : CurAt 94 w R v ys) :
    Calls Tryz.prog 81 #[.pointer (some ⟨R, 0, none⟩)] w (RDE w R v (rdMany ys) fun n e _ => e = .returned (.int .i64 (n : Nat)) ∧ n ≤ 1048576) := by
  have A := hideIt (varint_cur h)
  rcases sVarint_cases h.rng with ⟨c, hs, hc⟩ | ⟨a, k, hs, _, _, ha, _⟩
  · have hc0 : c ≠ 0 := by omega
    rw [rdMany_err hs hc0]
    rw [hs] at A
    clear h hs hc
    go_enter Tryz.func81, Tryz.ntmps81
    go_wp2_with fail
    refine A.out.mono ?_
    rintro e w1 ⟨rfl, v2, _, _, o1⟩
    have O1 := hideIt o1
    clear o1 A
    go_wp2_with fail
    refine (mustu_no _ c w1 hc0).mono ?_
    rintro e w' ⟨rfl, rfl⟩
    unfold pan
    go_wp2
    exact ⟨rfl, O1.out, .inl ⟨c, hc0, rfl, rfl⟩⟩
  · rw [hs] at A
    by_cases hn : 1048576 < a
    · rw [rdMany_long hs hn]
      have d1 : decide ((a : Int) ≤ 1048576) = false := by simp; omega
      have d2 : decide (a ≤ 1048576) = false := by simp; omega
      clear h hs
      go_enter Tryz.func81, Tryz.ntmps81
      go_wp2_with fail
      refine A.out.mono ?_
      rintro e w1 ⟨rfl, v2, _, _, o1⟩
      have O1 := hideIt o1
      clear o1 A
      go_wp2_with fail
      refine (mustu_ok _ w1).mono ?_
      rintro e w' ⟨rfl, rfl⟩
      go_wp2_with fail
      refine (mustHold_no 4 w1).mono ?_
      rintro e w' ⟨rfl, rfl⟩
      unfold pan
      go_wp2
      exact ⟨rfl, O1.out, .inl ⟨4, by decide, rfl, rfl⟩⟩
    · rw [rdMany_ok hs (by omega)]
      have d1 : decide ((a : Int) ≤ 1048576) = true := by simp; omega
      have d2 : decide (a ≤ 1048576) = true := by simp; omega
      have hw : IntKind.i64.wrap (a : Int) = a := by rw [IntKind.wrap_i64]; omega
      clear h hs
      go_enter Tryz.func81, Tryz.ntmps81
      go_wp2_with fail
      refine A.out.mono ?_
      rintro e w1 ⟨rfl, v2, hcur, hown, o1⟩
      have F := hideIt (And.intro hcur (And.intro hown o1))
      clear o1 A hcur hown
      go_wp2_with fail
      refine (mustu_ok _ w1).mono ?_
      rintro e w' ⟨rfl, rfl⟩
      go_wp2_with fail
      refine (mustHold_ok 4 w1).mono ?_
      rintro e w' ⟨rfl, rfl⟩
      go_wp2
      go_ret
      exact ⟨F.out.2.2, .inr ⟨a, _, rfl, ⟨rfl, by omega⟩, v2, F.out.1, F.out.2.1⟩⟩
end Go.Proofs.YtiolgenaefillaaGreat
