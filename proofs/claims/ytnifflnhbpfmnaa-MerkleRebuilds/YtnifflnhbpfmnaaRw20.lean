/- The document's own answers: how many are told, the walk, Prove. -/
import Derived.Test.YtnifflnhbpfmnaaRq
import Derived.Test.YtnifflnhbpfmnaaPrv
namespace Go.Proofs.Ytnifflnhbpfmnaa
open Go.RowKit
set_option linter.unusedVariables false

set_option maxHeartbeats 1600000 in
set_option maxRecDepth 100000 in
theorem rmany_in (i j : Nat) (hij : i ≤ j) (hj : j ≤ 1000000000) : ∀ (k lo hi : Nat) (w : World), lo < hi → hi - lo ≤ k → hi ≤ 1000000000 →
    Calls Try.prog 26 #[.int .i64 lo, .int .i64 hi, .int .i64 i, .int .i64 j] w fun e w' => e = .returned (.int .i64 ((MNY (k + 1) lo hi i j : Nat) : Int)) ∧ w = w' := by
  intro k
  induction k with
  | zero => intro lo hi w h1 h2; omega
  | succ k ih =>
    intro lo hi w hlt hk hh
    obtain ⟨x, hx⟩ : ∃ x, x = hi - 1 := ⟨_, rfl⟩
    have ex : (hi : Int) - 1 = (x : Int) := by omega
    by_cases hA : i ≤ lo ∧ hi ≤ j + 1
    · skip
      have e : MNY (k + 1 + 1) lo hi i j = 0 := by rw [MNY, if_pos hA]
      rw [e]
      have d1 : decide (i ≤ lo) = true := decide_eq_true (by omega)
      have d1' : decide ((i : Int) ≤ (lo : Int)) = true := decide_eq_true (by omega)
      have d2 : decide (x ≤ j) = true := decide_eq_true (by omega)
      have d2' : decide ((x : Int) ≤ (j : Int)) = true := decide_eq_true (by omega)
      have hxb : (x : Int) ≤ 1000000000 := by omega
      have hlb : (lo : Int) ≤ 1000000000 := by omega
      have hhb : (hi : Int) ≤ 1000000000 := by omega
      clear ih hlt hk hh hx hA e hij
      go_enter Try.func26, Try.ntmps26
      go_wp2
      go_ret
      exact ⟨rfl, rfl⟩
    · by_cases hB : j < lo ∨ hi ≤ i
      · by_cases hB1 : j < lo
        · skip
          have e : MNY (k + 1 + 1) lo hi i j = 1 := by rw [MNY, if_neg hA, if_pos hB]
          rw [e]
          have d1 : decide (i ≤ lo) = true := decide_eq_true (by omega)
          have d1' : decide ((i : Int) ≤ (lo : Int)) = true := decide_eq_true (by omega)
          have d2 : decide (x ≤ j) = false := decide_eq_false (by omega)
          have d2' : decide ((x : Int) ≤ (j : Int)) = false := decide_eq_false (by omega)
          have d4 : decide (j < lo) = true := decide_eq_true (by omega)
          have d4' : decide ((j : Int) < (lo : Int)) = true := decide_eq_true (by omega)
          have hxb : (x : Int) ≤ 1000000000 := by omega
          have hlb : (lo : Int) ≤ 1000000000 := by omega
          have hhb : (hi : Int) ≤ 1000000000 := by omega
          clear ih hlt hk hh hx hA e hij hB hB1
          go_enter Try.func26, Try.ntmps26
          go_wp2
          go_ret
          exact ⟨rfl, rfl⟩
        · skip
          have e : MNY (k + 1 + 1) lo hi i j = 1 := by rw [MNY, if_neg hA, if_pos hB]
          rw [e]
          have d1 : decide (i ≤ lo) = false := decide_eq_false (by omega)
          have d1' : decide ((i : Int) ≤ (lo : Int)) = false := decide_eq_false (by omega)
          have d4 : decide (j < lo) = false := decide_eq_false (by omega)
          have d4' : decide ((j : Int) < (lo : Int)) = false := decide_eq_false (by omega)
          have d3 : decide (x < i) = true := decide_eq_true (by omega)
          have d3' : decide ((x : Int) < (i : Int)) = true := decide_eq_true (by omega)
          have hxb : (x : Int) ≤ 1000000000 := by omega
          have hlb : (lo : Int) ≤ 1000000000 := by omega
          have hhb : (hi : Int) ≤ 1000000000 := by omega
          clear ih hlt hk hh hx hA e hij hB hB1
          go_enter Try.func26, Try.ntmps26
          go_wp2
          go_ret
          exact ⟨rfl, rfl⟩
      · have h3 := part_two hlt hA hB
        by_cases hC : i ≤ lo
        · skip
          obtain ⟨n, hn⟩ : ∃ n, n = hi - lo := ⟨_, rfl⟩
          obtain ⟨q, hq⟩ : ∃ q, q = HALF n := ⟨_, rfl⟩
          have q1 := HALF_pos n
          have q2 := HALF_lt (n := n) (by omega)
          rw [← hq] at q1 q2
          obtain ⟨m, hm⟩ : ∃ m, m = lo + q := ⟨_, rfl⟩
          have es : (hi : Int) - (lo : Int) = (n : Int) := by omega
          have em : (lo : Int) + (q : Int) = (m : Int) := by omega
          have AL := hideIt (fun (W : World) => rhalf_any n (by omega) W)
          rw [← hq] at AL
          have e : MNY (k + 1 + 1) lo hi i j = MNY (k + 1) lo m i j + MNY (k + 1) m hi i j := by rw [MNY, if_neg hA, if_neg hB, hm, hq, hn]
          rw [e]
          have s1 := MNY_size (k + 1) lo m i j (by omega)
          have s2 := MNY_size (k + 1) m hi i j (by omega)
          have T1 := hideIt (ih lo m w (by omega) (by omega) (by omega))
          have T2 := hideIt (ih m hi w (by omega) (by omega) (by omega))
          obtain ⟨y, hy⟩ : ∃ y, y = MNY (k + 1) lo m i j := ⟨_, rfl⟩
          obtain ⟨z, hz⟩ : ∃ z, z = MNY (k + 1) m hi i j := ⟨_, rfl⟩
          rw [← hy] at T1 s1 ⊢
          rw [← hz] at T2 s2 ⊢
          have yb : (y : Int) ≤ 1000000000 := by omega
          have zb : (z : Int) ≤ 1000000000 := by omega
          have hqb : (q : Int) ≤ 1000000000 := by omega
          have hmb : (m : Int) ≤ 1000000000 := by omega
          have hnb : (n : Int) ≤ 1000000000 := by omega
          have d1 : decide (i ≤ lo) = true := decide_eq_true (by omega)
          have d1' : decide ((i : Int) ≤ (lo : Int)) = true := decide_eq_true (by omega)
          have d2 : decide (x ≤ j) = false := decide_eq_false (by omega)
          have d2' : decide ((x : Int) ≤ (j : Int)) = false := decide_eq_false (by omega)
          have d3 : decide (x < i) = false := decide_eq_false (by omega)
          have d3' : decide ((x : Int) < (i : Int)) = false := decide_eq_false (by omega)
          have d4 : decide (j < lo) = false := decide_eq_false (by omega)
          have d4' : decide ((j : Int) < (lo : Int)) = false := decide_eq_false (by omega)
          have hxb : (x : Int) ≤ 1000000000 := by omega
          have hlb : (lo : Int) ≤ 1000000000 := by omega
          have hhb : (hi : Int) ≤ 1000000000 := by omega
          clear ih hlt hk hh hx hA e hij hB hC h3 hn hq hm hy hz s1 s2 q1 q2
          go_enter Try.func26, Try.ntmps26
          go_wp2_with fail
          refine (AL.out _).mono ?_
          rintro e w1 ⟨rfl, rfl⟩
          clear AL
          go_wp2_with fail
          refine T1.out.mono ?_
          rintro e w1 ⟨rfl, rfl⟩
          clear T1
          go_wp2_with fail
          refine T2.out.mono ?_
          rintro e w1 ⟨rfl, rfl⟩
          clear T2
          go_wp2
          go_ret
          exact ⟨ret_int (by omega), rfl⟩
        · skip
          obtain ⟨n, hn⟩ : ∃ n, n = hi - lo := ⟨_, rfl⟩
          obtain ⟨q, hq⟩ : ∃ q, q = HALF n := ⟨_, rfl⟩
          have q1 := HALF_pos n
          have q2 := HALF_lt (n := n) (by omega)
          rw [← hq] at q1 q2
          obtain ⟨m, hm⟩ : ∃ m, m = lo + q := ⟨_, rfl⟩
          have es : (hi : Int) - (lo : Int) = (n : Int) := by omega
          have em : (lo : Int) + (q : Int) = (m : Int) := by omega
          have AL := hideIt (fun (W : World) => rhalf_any n (by omega) W)
          rw [← hq] at AL
          have e : MNY (k + 1 + 1) lo hi i j = MNY (k + 1) lo m i j + MNY (k + 1) m hi i j := by rw [MNY, if_neg hA, if_neg hB, hm, hq, hn]
          rw [e]
          have s1 := MNY_size (k + 1) lo m i j (by omega)
          have s2 := MNY_size (k + 1) m hi i j (by omega)
          have T1 := hideIt (ih lo m w (by omega) (by omega) (by omega))
          have T2 := hideIt (ih m hi w (by omega) (by omega) (by omega))
          obtain ⟨y, hy⟩ : ∃ y, y = MNY (k + 1) lo m i j := ⟨_, rfl⟩
          obtain ⟨z, hz⟩ : ∃ z, z = MNY (k + 1) m hi i j := ⟨_, rfl⟩
          rw [← hy] at T1 s1 ⊢
          rw [← hz] at T2 s2 ⊢
          have yb : (y : Int) ≤ 1000000000 := by omega
          have zb : (z : Int) ≤ 1000000000 := by omega
          have hqb : (q : Int) ≤ 1000000000 := by omega
          have hmb : (m : Int) ≤ 1000000000 := by omega
          have hnb : (n : Int) ≤ 1000000000 := by omega
          have d1 : decide (i ≤ lo) = false := decide_eq_false (by omega)
          have d1' : decide ((i : Int) ≤ (lo : Int)) = false := decide_eq_false (by omega)
          have d3 : decide (x < i) = false := decide_eq_false (by omega)
          have d3' : decide ((x : Int) < (i : Int)) = false := decide_eq_false (by omega)
          have d4 : decide (j < lo) = false := decide_eq_false (by omega)
          have d4' : decide ((j : Int) < (lo : Int)) = false := decide_eq_false (by omega)
          have hxb : (x : Int) ≤ 1000000000 := by omega
          have hlb : (lo : Int) ≤ 1000000000 := by omega
          have hhb : (hi : Int) ≤ 1000000000 := by omega
          clear ih hlt hk hh hx hA e hij hB hC h3 hn hq hm hy hz s1 s2 q1 q2
          go_enter Try.func26, Try.ntmps26
          go_wp2_with fail
          refine (AL.out _).mono ?_
          rintro e w1 ⟨rfl, rfl⟩
          clear AL
          go_wp2_with fail
          refine T1.out.mono ?_
          rintro e w1 ⟨rfl, rfl⟩
          clear T1
          go_wp2_with fail
          refine T2.out.mono ?_
          rintro e w1 ⟨rfl, rfl⟩
          clear T2
          go_wp2
          go_ret
          exact ⟨ret_int (by omega), rfl⟩
theorem rmany_any (n i j : Nat) (hij : i ≤ j) (hj : j ≤ 1000000000) (h0 : 0 < n) (hn : n ≤ 1000000000) (w : World) :
    Calls Try.prog 26 #[.int .i64 0, .int .i64 n, .int .i64 i, .int .i64 j] w fun e w' => e = .returned (.int .i64 ((MANY n i j : Nat) : Int)) ∧ w = w' :=
  rmany_in i j hij hj n 0 n w h0 (by omega) hn

set_option maxHeartbeats 1600000 in
set_option maxRecDepth 100000 in
theorem rwalk_in (i j b off ln cap : Nat) (l : List (List Int)) (l5 : R5 l) (hl : l.length ≤ 1000000) (hij : i ≤ j) (hjb : (j : Int) ≤ 1000000000) (hln : l.length = ln) (hcap : ln ≤ cap) :
    ∀ (k lo hi : Nat) (w : World), lo < hi → hi - lo ≤ k → hi ≤ l.length → RL w (.slice (some ⟨b, off, none⟩) ln cap) l →
    Calls Try.prog 39 #[.slice (some ⟨b, off, none⟩) ln cap, .int .i64 lo, .int .i64 hi, .int .i64 i, .int .i64 j] w
      fun e w' => ∃ v, e = .returned v ∧ ∃ vs, w'.ownsRow w.heap.size 22 1 v vs.length vs ∧ LO w' vs (WLK (k + 1) l lo hi i j) ∧ Only (fun _ => False) w w' := by
  intro k
  induction k with
  | zero => intro lo hi w h1 h2; omega
  | succ k ih =>
    intro lo hi w hlt hk hh rl
    obtain ⟨x, hx⟩ : ∃ x, x = hi - 1 := ⟨_, rfl⟩
    have ex : (hi : Int) - 1 = (x : Int) := by omega
    by_cases hA : i ≤ lo ∧ hi ≤ j + 1
    · skip
      have e : WLK (k + 1 + 1) l lo hi i j = [] := by rw [WLK, if_pos hA]
      rw [e]
      have d1 : decide (i ≤ lo) = true := decide_eq_true (by omega)
      have d1' : decide ((i : Int) ≤ (lo : Int)) = true := decide_eq_true (by omega)
      have d2 : decide (x ≤ j) = true := decide_eq_true (by omega)
      have d2' : decide ((x : Int) ≤ (j : Int)) = true := decide_eq_true (by omega)
      have hxb : (x : Int) ≤ 1000000000 := by omega
      have hlb : (lo : Int) ≤ 1000000000 := by omega
      have hhb : (hi : Int) ≤ 1000000000 := by omega
      clear ih hlt hk hh hx hA e rl l5 hl hij hcap hln
      go_enter Try.func39, Try.ntmps39
      go_wp2
      go_ret
      exact ⟨_, rfl, [], ⟨rfl, .inl ⟨rfl, rfl⟩⟩, LO.nil _, Only.refl _ _⟩
    · by_cases hB : j < lo ∨ hi ≤ i
      · by_cases hB1 : j < lo
        · skip
          have e : WLK (k + 1 + 1) l lo hi i j = [TOP (PRT l lo hi)] := by rw [WLK, if_neg hA, if_pos hB]
          rw [e]
          have hpl := PRT_len l lo hi hh
          have A := hideIt (rroot_any (hi - lo) (PRT l lo hi) _ w (by omega) (by omega) (fun x hx => l5 x (List.mem_of_mem_drop (List.mem_of_mem_take hx))) (rl.part lo hi (by omega) (by omega)))
          obtain ⟨Y, hY⟩ : ∃ Y, Y = TOP (PRT l lo hi) := ⟨_, rfl⟩
          rw [← hY] at A ⊢
          have a0 : (0 : Int) ≤ (lo : Int) := by omega
          have a1 : (lo : Int) ≤ (hi : Int) := by omega
          have a2 : (hi : Int) ≤ (cap : Int) := by omega
          have a3 : ¬ cap = lo := by omega
          have d1 : decide (i ≤ lo) = true := decide_eq_true (by omega)
          have d1' : decide ((i : Int) ≤ (lo : Int)) = true := decide_eq_true (by omega)
          have d2 : decide (x ≤ j) = false := decide_eq_false (by omega)
          have d2' : decide ((x : Int) ≤ (j : Int)) = false := decide_eq_false (by omega)
          have d4 : decide (j < lo) = true := decide_eq_true (by omega)
          have d4' : decide ((j : Int) < (lo : Int)) = true := decide_eq_true (by omega)
          have hxb : (x : Int) ≤ 1000000000 := by omega
          have hlb : (lo : Int) ≤ 1000000000 := by omega
          have hhb : (hi : Int) ≤ 1000000000 := by omega
          clear ih hlt hk hh hx hA e rl l5 hl hij hcap hln hB hB1 hY hpl
          go_enter Try.func39, Try.ntmps39
          go_wp2_with fail
          refine A.out.mono ?_
          rintro e w4 ⟨v4, rfl, own4, on4⟩
          have oA : Only (fun _ => False) w4 (w4.alloc (.cells #[v4] 22)) := (Only.refl _ _).alloc _
          have F : Hid (∃ vs, (w4.alloc (.cells #[v4] 22)).ownsRow w.heap.size 22 1 (.slice (some ⟨w4.heap.size, 0, none⟩) 1 1) vs.length vs ∧ LO (w4.alloc (.cells #[v4] 22)) vs [Y] ∧ Only (fun _ => False) w (w4.alloc (.cells #[v4] 22))) :=
            ⟨[v4], own_lit w4 22 [v4] on4.size (show 1 ≤ maxLen by unfold maxLen; decide), LO.one (oA.own own4 (fun _ _ f => f)), on4.same oA⟩
          obtain ⟨ao4, cap4, e4⟩ := own_form own4
          subst e4
          clear own4 on4 A oA
          go_wp2
          go_ret
          exact ⟨_, rfl, F.out⟩
        · skip
          have e : WLK (k + 1 + 1) l lo hi i j = [TOP (PRT l lo hi)] := by rw [WLK, if_neg hA, if_pos hB]
          rw [e]
          have hpl := PRT_len l lo hi hh
          have A := hideIt (rroot_any (hi - lo) (PRT l lo hi) _ w (by omega) (by omega) (fun x hx => l5 x (List.mem_of_mem_drop (List.mem_of_mem_take hx))) (rl.part lo hi (by omega) (by omega)))
          obtain ⟨Y, hY⟩ : ∃ Y, Y = TOP (PRT l lo hi) := ⟨_, rfl⟩
          rw [← hY] at A ⊢
          have a0 : (0 : Int) ≤ (lo : Int) := by omega
          have a1 : (lo : Int) ≤ (hi : Int) := by omega
          have a2 : (hi : Int) ≤ (cap : Int) := by omega
          have a3 : ¬ cap = lo := by omega
          have d1 : decide (i ≤ lo) = false := decide_eq_false (by omega)
          have d1' : decide ((i : Int) ≤ (lo : Int)) = false := decide_eq_false (by omega)
          have d4 : decide (j < lo) = false := decide_eq_false (by omega)
          have d4' : decide ((j : Int) < (lo : Int)) = false := decide_eq_false (by omega)
          have d3 : decide (x < i) = true := decide_eq_true (by omega)
          have d3' : decide ((x : Int) < (i : Int)) = true := decide_eq_true (by omega)
          have hxb : (x : Int) ≤ 1000000000 := by omega
          have hlb : (lo : Int) ≤ 1000000000 := by omega
          have hhb : (hi : Int) ≤ 1000000000 := by omega
          clear ih hlt hk hh hx hA e rl l5 hl hij hcap hln hB hB1 hY hpl
          go_enter Try.func39, Try.ntmps39
          go_wp2_with fail
          refine A.out.mono ?_
          rintro e w4 ⟨v4, rfl, own4, on4⟩
          have oA : Only (fun _ => False) w4 (w4.alloc (.cells #[v4] 22)) := (Only.refl _ _).alloc _
          have F : Hid (∃ vs, (w4.alloc (.cells #[v4] 22)).ownsRow w.heap.size 22 1 (.slice (some ⟨w4.heap.size, 0, none⟩) 1 1) vs.length vs ∧ LO (w4.alloc (.cells #[v4] 22)) vs [Y] ∧ Only (fun _ => False) w (w4.alloc (.cells #[v4] 22))) :=
            ⟨[v4], own_lit w4 22 [v4] on4.size (show 1 ≤ maxLen by unfold maxLen; decide), LO.one (oA.own own4 (fun _ _ f => f)), on4.same oA⟩
          obtain ⟨ao4, cap4, e4⟩ := own_form own4
          subst e4
          clear own4 on4 A oA
          go_wp2
          go_ret
          exact ⟨_, rfl, F.out⟩
      · have h3 := part_two hlt hA hB
        by_cases hC : i ≤ lo
        · skip
          obtain ⟨n, hn⟩ : ∃ n, n = hi - lo := ⟨_, rfl⟩
          obtain ⟨q, hq⟩ : ∃ q, q = HALF n := ⟨_, rfl⟩
          have q1 := HALF_pos n
          have q2 := HALF_lt (n := n) (by omega)
          rw [← hq] at q1 q2
          obtain ⟨m, hm⟩ : ∃ m, m = lo + q := ⟨_, rfl⟩
          have es : (hi : Int) - (lo : Int) = (n : Int) := by omega
          have em : (lo : Int) + (q : Int) = (m : Int) := by omega
          have AL := hideIt (fun (W : World) => rhalf_any n (by omega) W)
          rw [← hq] at AL
          have e : WLK (k + 1 + 1) l lo hi i j = WLK (k + 1) l lo m i j ++ WLK (k + 1) l m hi i j := by rw [WLK, if_neg hA, if_neg hB, hm, hq, hn]
          rw [e]
          have s1 := MNY_size (k + 1) lo m i j (by omega)
          have s2 := MNY_size (k + 1) m hi i j (by omega)
          rw [← WLK_len (k + 1) l] at s1 s2
          have T1 := hideIt (ih lo m w (by omega) (by omega) (by omega) rl)
          have T2 := hideIt (fun (W : World) (o : Only (fun _ => False) w W) => ih m hi W (by omega) (by omega) (by omega) (rl.past o))
          obtain ⟨Y, hY⟩ : ∃ Y, Y = WLK (k + 1) l lo m i j := ⟨_, rfl⟩
          obtain ⟨Z, hZ⟩ : ∃ Z, Z = WLK (k + 1) l m hi i j := ⟨_, rfl⟩
          rw [← hY] at T1 s1 ⊢
          rw [← hZ] at T2 s2 ⊢
          have HYZ : Hid (Y.length ≤ 1000000000 ∧ Z.length ≤ 1000000000) := by show _ ∧ _; omega
          have hqb : (q : Int) ≤ 1000000000 := by omega
          have hmb : (m : Int) ≤ 1000000000 := by omega
          have hnb : (n : Int) ≤ 1000000000 := by omega
          have d1 : decide (i ≤ lo) = true := decide_eq_true (by omega)
          have d1' : decide ((i : Int) ≤ (lo : Int)) = true := decide_eq_true (by omega)
          have d2 : decide (x ≤ j) = false := decide_eq_false (by omega)
          have d2' : decide ((x : Int) ≤ (j : Int)) = false := decide_eq_false (by omega)
          have d3 : decide (x < i) = false := decide_eq_false (by omega)
          have d3' : decide ((x : Int) < (i : Int)) = false := decide_eq_false (by omega)
          have d4 : decide (j < lo) = false := decide_eq_false (by omega)
          have d4' : decide ((j : Int) < (lo : Int)) = false := decide_eq_false (by omega)
          have hxb : (x : Int) ≤ 1000000000 := by omega
          have hlb : (lo : Int) ≤ 1000000000 := by omega
          have hhb : (hi : Int) ≤ 1000000000 := by omega
          obtain ⟨i0, hi0, hz0, hz1, hz2⟩ := info_parts Try.infoRows
          clear ih hlt hk hh hx hA e rl l5 hl hij hcap hln hB hC h3 hn hq hm hY hZ s1 s2 q1 q2
          go_enter Try.func39, Try.ntmps39
          go_wp2_with fail
          refine (AL.out _).mono ?_
          rintro e w1 ⟨rfl, rfl⟩
          clear AL
          go_wp2_with fail
          refine T1.out.mono ?_
          rintro e w1 ⟨v1, rfl, vs1, own1, lo1, o1⟩
          have O1 := hideIt o1
          have R1 := hideIt (And.intro own1 lo1)
          have T3 := hideIt (T2.out w1 o1)
          obtain ⟨ao1, cap1, e1⟩ := own_form own1
          subst e1
          clear o1 T1 T2 own1 lo1
          go_wp2_with fail
          refine T3.out.mono ?_
          rintro e w2 ⟨v2, rfl, vs2, own2, lo2, o2⟩
          have O2 := hideIt (O1.out.same o2)
          have R1' := hideIt (And.intro (o2.own R1.out.1 (fun _ _ f => f)) (R1.out.2.past o2))
          have R2 := hideIt (And.intro (VS.of_own own2 lo2.one') lo2)
          obtain ⟨ao2, cap2, e2⟩ := own_form own2
          subst e2
          have b1 : Hid (vs1.length + vs2.length ≤ maxLen) := by show _ ≤ _; have := R1.out.2.1; have := lo2.1; have := HYZ.out; unfold maxLen; omega
          have b2 : Hid ((vs1.length + vs2.length) * 24 ≤ 140737488355328) := by show _ ≤ _; have := R1.out.2.1; have := lo2.1; have := HYZ.out; omega
          have Z2 := hideIt O2.out.size
          clear o2 T3 own2 lo2 R1
          go_wp2_with (at_builtin; refine wpList_append_vs w2 rfl (.tmp 47) (.tmp 53) 23 rfl w.heap.size 22 i0 (.slice none 0 0) 24 Try.underlying23 hi0 hz0 hz1 hz2 rfl _ vs1.length vs1 rfl R1'.out.1 _ vs2 rfl R2.out.1 b1.out b2.out Z2.out ?_)
          intro v3 w3 own3 g3
          have O3 := hideIt (O2.out.grown g3 (fun k hk e => absurd ((R1'.out.1).lt k e).1 (by omega)))
          have F : Hid (∃ vs, w3.ownsRow w.heap.size 22 1 v3 vs.length vs ∧ LO w3 vs (Y ++ Z) ∧ Only (fun _ => False) w w3) := ⟨vs1 ++ vs2, by rw [List.length_append]; exact own3, (R1'.out.2.grown R1'.out.1 g3).app (R2.out.2.grown R1'.out.1 g3), O3.out⟩
          obtain ⟨ao3, cap3, e3⟩ := own_form own3
          subst e3
          clear own3 g3
          go_wp2
          go_ret
          exact ⟨_, rfl, F.out⟩
        · skip
          obtain ⟨n, hn⟩ : ∃ n, n = hi - lo := ⟨_, rfl⟩
          obtain ⟨q, hq⟩ : ∃ q, q = HALF n := ⟨_, rfl⟩
          have q1 := HALF_pos n
          have q2 := HALF_lt (n := n) (by omega)
          rw [← hq] at q1 q2
          obtain ⟨m, hm⟩ : ∃ m, m = lo + q := ⟨_, rfl⟩
          have es : (hi : Int) - (lo : Int) = (n : Int) := by omega
          have em : (lo : Int) + (q : Int) = (m : Int) := by omega
          have AL := hideIt (fun (W : World) => rhalf_any n (by omega) W)
          rw [← hq] at AL
          have e : WLK (k + 1 + 1) l lo hi i j = WLK (k + 1) l lo m i j ++ WLK (k + 1) l m hi i j := by rw [WLK, if_neg hA, if_neg hB, hm, hq, hn]
          rw [e]
          have s1 := MNY_size (k + 1) lo m i j (by omega)
          have s2 := MNY_size (k + 1) m hi i j (by omega)
          rw [← WLK_len (k + 1) l] at s1 s2
          have T1 := hideIt (ih lo m w (by omega) (by omega) (by omega) rl)
          have T2 := hideIt (fun (W : World) (o : Only (fun _ => False) w W) => ih m hi W (by omega) (by omega) (by omega) (rl.past o))
          obtain ⟨Y, hY⟩ : ∃ Y, Y = WLK (k + 1) l lo m i j := ⟨_, rfl⟩
          obtain ⟨Z, hZ⟩ : ∃ Z, Z = WLK (k + 1) l m hi i j := ⟨_, rfl⟩
          rw [← hY] at T1 s1 ⊢
          rw [← hZ] at T2 s2 ⊢
          have HYZ : Hid (Y.length ≤ 1000000000 ∧ Z.length ≤ 1000000000) := by show _ ∧ _; omega
          have hqb : (q : Int) ≤ 1000000000 := by omega
          have hmb : (m : Int) ≤ 1000000000 := by omega
          have hnb : (n : Int) ≤ 1000000000 := by omega
          have d1 : decide (i ≤ lo) = false := decide_eq_false (by omega)
          have d1' : decide ((i : Int) ≤ (lo : Int)) = false := decide_eq_false (by omega)
          have d3 : decide (x < i) = false := decide_eq_false (by omega)
          have d3' : decide ((x : Int) < (i : Int)) = false := decide_eq_false (by omega)
          have d4 : decide (j < lo) = false := decide_eq_false (by omega)
          have d4' : decide ((j : Int) < (lo : Int)) = false := decide_eq_false (by omega)
          have hxb : (x : Int) ≤ 1000000000 := by omega
          have hlb : (lo : Int) ≤ 1000000000 := by omega
          have hhb : (hi : Int) ≤ 1000000000 := by omega
          obtain ⟨i0, hi0, hz0, hz1, hz2⟩ := info_parts Try.infoRows
          clear ih hlt hk hh hx hA e rl l5 hl hij hcap hln hB hC h3 hn hq hm hY hZ s1 s2 q1 q2
          go_enter Try.func39, Try.ntmps39
          go_wp2_with fail
          refine (AL.out _).mono ?_
          rintro e w1 ⟨rfl, rfl⟩
          clear AL
          go_wp2_with fail
          refine T1.out.mono ?_
          rintro e w1 ⟨v1, rfl, vs1, own1, lo1, o1⟩
          have O1 := hideIt o1
          have R1 := hideIt (And.intro own1 lo1)
          have T3 := hideIt (T2.out w1 o1)
          obtain ⟨ao1, cap1, e1⟩ := own_form own1
          subst e1
          clear o1 T1 T2 own1 lo1
          go_wp2_with fail
          refine T3.out.mono ?_
          rintro e w2 ⟨v2, rfl, vs2, own2, lo2, o2⟩
          have O2 := hideIt (O1.out.same o2)
          have R1' := hideIt (And.intro (o2.own R1.out.1 (fun _ _ f => f)) (R1.out.2.past o2))
          have R2 := hideIt (And.intro (VS.of_own own2 lo2.one') lo2)
          obtain ⟨ao2, cap2, e2⟩ := own_form own2
          subst e2
          have b1 : Hid (vs1.length + vs2.length ≤ maxLen) := by show _ ≤ _; have := R1.out.2.1; have := lo2.1; have := HYZ.out; unfold maxLen; omega
          have b2 : Hid ((vs1.length + vs2.length) * 24 ≤ 140737488355328) := by show _ ≤ _; have := R1.out.2.1; have := lo2.1; have := HYZ.out; omega
          have Z2 := hideIt O2.out.size
          clear o2 T3 own2 lo2 R1
          go_wp2_with (at_builtin; refine wpList_append_vs w2 rfl (.tmp 47) (.tmp 53) 23 rfl w.heap.size 22 i0 (.slice none 0 0) 24 Try.underlying23 hi0 hz0 hz1 hz2 rfl _ vs1.length vs1 rfl R1'.out.1 _ vs2 rfl R2.out.1 b1.out b2.out Z2.out ?_)
          intro v3 w3 own3 g3
          have O3 := hideIt (O2.out.grown g3 (fun k hk e => absurd ((R1'.out.1).lt k e).1 (by omega)))
          have F : Hid (∃ vs, w3.ownsRow w.heap.size 22 1 v3 vs.length vs ∧ LO w3 vs (Y ++ Z) ∧ Only (fun _ => False) w w3) := ⟨vs1 ++ vs2, by rw [List.length_append]; exact own3, (R1'.out.2.grown R1'.out.1 g3).app (R2.out.2.grown R1'.out.1 g3), O3.out⟩
          obtain ⟨ao3, cap3, e3⟩ := own_form own3
          subst e3
          clear own3 g3
          go_wp2
          go_ret
          exact ⟨_, rfl, F.out⟩
end Go.Proofs.Ytnifflnhbpfmnaa
