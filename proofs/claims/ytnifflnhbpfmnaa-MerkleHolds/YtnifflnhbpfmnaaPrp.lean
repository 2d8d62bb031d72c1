/- The walk that tells tops: Prove. -/
import Derived.Test.YtnifflnhbpfmnaaMo
import Derived.Test.YtnifflnhbpfmnaaApr
import Derived.Test.YtnifflnhbpfmnaaWm
import Derived.Laws.EntriesVeiled
import Derived.Deep.RegionHeld3
namespace Go.Proofs.Ytnifflnhbpfmnaa
open Go.RowKit

set_option maxHeartbeats 400000 in
set_option maxRecDepth 100000 in
theorem pv1 (x y : Int) (w : World) : Calls Try.prog 35 #[.int .i64 x, .int .i64 y] w fun e w' => e = .returned (.slice none 0 0) ∧ w = w' := by
  go_enter Try.func35, Try.ntmps35
  go_wp2
  go_ret
  exact ⟨rfl, rfl⟩
/-- a literal is a row of the call's own -/
theorem own_lit (w : World) (t : TypeId) (vs : List Value) {base : Nat} (hb : base ≤ w.heap.size) (hl : vs.length ≤ maxLen) : (w.alloc (.cells vs.toArray t)).ownsRow base t 1 (.slice (some ⟨w.heap.size, 0, none⟩) vs.length vs.length) vs.length vs :=
  ⟨(Nat.mul_one _).symm, .inr ⟨w.heap.size, vs.length, vs.toArray, rfl, hb, Blk.new w t vs, Nat.le_refl _, hl, by rw [List.size_toArray, Nat.mul_one], by rw [Nat.mul_one]; exact List.take_length⟩⟩
set_option maxHeartbeats 800000 in
set_option maxRecDepth 100000 in
theorem pv2 (cl lo hi : Nat) (v : Value) (l : List (List Int)) (w : World) (h8 : R8 l) (hl : l.length ≤ 1000000000) (hr : RL w v l) (hlt : lo < hi) (h2 : hi ≤ l.length) (c0 : w.cell? ⟨cl, 0, none⟩ = some v) :
    Calls Try.prog 36 #[.int .i64 lo, .int .i64 hi, .pointer (some ⟨cl, 0, none⟩)] w fun e w' => ∃ v', e = .returned v' ∧ ∃ vs, w'.ownsRow w.heap.size 22 1 v' vs.length vs ∧ LO w' vs [TOP (PRT l lo hi)] ∧ Only (fun _ => False) w w' := by
  obtain ⟨n, hn⟩ : ∃ n, l.length = n := ⟨_, rfl⟩
  obtain ⟨b, off, cap, rfl, hcap⟩ := hr.form hn (by omega)
  have hpl := PRT_len l lo hi (by omega)
  have A := hideIt (top_any (hi - lo) (PRT l lo hi) _ w (by omega) (by omega) (by omega) (fun x hx => h8 x (List.mem_of_mem_drop (List.mem_of_mem_take hx))) (hr.part lo hi (by omega) (by omega)))
  obtain ⟨Y, hY⟩ : ∃ Y, Y = TOP (PRT l lo hi) := ⟨_, rfl⟩
  rw [← hY] at A ⊢
  have a0 : (0 : Int) ≤ (lo : Int) := by omega
  have a1 : (lo : Int) ≤ (hi : Int) := by omega
  have a2 : (hi : Int) ≤ (cap : Int) := by omega
  have a3 : ¬ cap = lo := by omega
  clear h8 hl hr hlt h2 hn hcap hpl hY
  go_enter Try.func36, Try.ntmps36
  go_wp2_with fail
  refine A.out.mono ?_
  rintro e w4 ⟨v4, rfl, own4, on4⟩
  have oA : Only (fun _ => False) w4 (w4.alloc (.cells #[v4] 22)) := (Only.refl _ _).alloc _
  have F : Hid (∃ vs, (w4.alloc (.cells #[v4] 22)).ownsRow w.heap.size 22 1 (.slice (some ⟨w4.heap.size, 0, none⟩) 1 1) vs.length vs ∧ LO (w4.alloc (.cells #[v4] 22)) vs [Y] ∧ Only (fun _ => False) w (w4.alloc (.cells #[v4] 22))) :=
    ⟨[v4], own_lit w4 22 [v4] on4.size (show 1 ≤ maxLen by unfold maxLen; decide), LO.one (oA.own own4 (fun _ _ f => f)), on4.same oA⟩
  obtain ⟨ao4, cap4, e4⟩ := own_form own4
  subst e4
  clear own4 on4 A oA
  go_wp2
  go_ret
  exact ⟨_, rfl, F.out⟩
set_option maxHeartbeats 800000 in
set_option maxRecDepth 100000 in
theorem pv3 (base : Nat) (vl vr : Value) (xs ys : List Value) (w : World) (h1 : w.ownsRow base 22 1 vl xs.length xs) (h2 : VS w vr ys) (hb : base ≤ w.heap.size) (hl : xs.length ≤ 1000000000) (hl' : ys.length ≤ 1000000000) :
    Calls Try.prog 37 #[vl, vr] w fun e w' => ∃ v', e = .returned v' ∧ w'.ownsRow base 22 1 v' (xs.length + ys.length) (xs ++ ys) ∧ w.grownBy w' vl.ownBlock := by
  obtain ⟨i0, hi, hz0, hz1, hz2⟩ := info_parts Try.infoRows
  have H1 := hideIt h1
  have H2 := hideIt h2
  obtain ⟨ao, cap, e1⟩ := own_form h1
  obtain ⟨ao2, cap2, e2, _⟩ := h2
  obtain ⟨m, hm⟩ : ∃ m, m = xs.length := ⟨_, rfl⟩
  obtain ⟨m2, hm2⟩ : ∃ m, m = ys.length := ⟨_, rfl⟩
  have B1 : Hid (xs.length + ys.length ≤ maxLen) := by show _ ≤ _; unfold maxLen; omega
  have B2 : Hid ((xs.length + ys.length) * 24 ≤ 140737488355328) := by show _ ≤ _; omega
  subst e1
  subst e2
  have HB := hideIt hb
  rw [← hm] at H1 B1 B2
  rw [← hm2] at H2 B1 B2
  rw [← hm, ← hm2]
  have HM := hideIt hm2
  clear h1 hl hl' hb hm hm2
  go_enter Try.func37, Try.ntmps37
  go_wp2_with (at_builtin; refine wpList_append_vs w rfl (.tmp 5) (.tmp 6) 23 rfl base 22 i0 (.slice none 0 0) 24 Try.underlying23 hi hz0 hz1 hz2 rfl _ m xs rfl H1.out _ ys rfl H2.out (by rw [← HM.out]; exact B1.out) (by rw [← HM.out]; exact B2.out) HB.out ?_)
  rw [← HM.out]
  intro v' w' r1 r2
  have F := hideIt (And.intro r1 r2)
  obtain ⟨ao3, cap3, e3⟩ := own_form r1
  subst e3
  clear r1 r2
  go_wp2
  go_ret
  exact ⟨_, rfl, F.out⟩

set_option maxHeartbeats 1600000 in
set_option maxRecDepth 100000 in
theorem pvp (b0 b1 b2 b3 b4 b5 i j cl : Nat) (vl : Value) (l : List (List Int)) (w0 : World) (l8 : R8 l) (hl : l.length ≤ 1000000000) (hij : i ≤ j) (rl : RL w0 vl l) (hcl : w0.cell? ⟨cl, 0, none⟩ = some vl) :
    ∀ (k lo hi : Nat) (w : World), lo < hi → hi - lo ≤ k → hi ≤ l.length → Only (fun _ => False) w0 w →
    WK w b0 b1 b2 b3 b4 b5 i j (.func (.func 35) #[] #[]) (.func (.func 36) #[] #[.pointer (some ⟨cl, 0, none⟩)]) (.func (.func 37) #[] #[]) (.func (.func 53) #[] #[.pointer (some ⟨b0, 0, none⟩), .pointer (some ⟨b1, 0, none⟩), .pointer (some ⟨b2, 0, none⟩), .pointer (some ⟨b3, 0, none⟩), .pointer (some ⟨b4, 0, none⟩), .pointer (some ⟨b5, 0, none⟩)]) →
    Calls Try.prog 53 #[.int .i64 lo, .int .i64 hi, .pointer (some ⟨b0, 0, none⟩), .pointer (some ⟨b1, 0, none⟩), .pointer (some ⟨b2, 0, none⟩), .pointer (some ⟨b3, 0, none⟩), .pointer (some ⟨b4, 0, none⟩), .pointer (some ⟨b5, 0, none⟩)] w
      fun e w' => ∃ v, e = .returned v ∧ ∃ vs, w'.ownsRow w.heap.size 22 1 v vs.length vs ∧ LO w' vs (WLK (k + 1) l lo hi i j) ∧ Only (fun _ => False) w w' := by
  intro k
  induction k with
  | zero => intro lo hi w h1 h2; omega
  | succ k ih =>
    intro lo hi w hlt hk hh ho hw
    have HW := hideIt hw
    obtain ⟨c0, c1, c2, c3, c4, c5⟩ := hw
    obtain ⟨x, hx⟩ : ∃ x, x = hi - 1 := ⟨_, rfl⟩
    have ex : (hi : Int) - 1 = (x : Int) := by omega
    by_cases hA : i ≤ lo ∧ hi ≤ j + 1
    · skip
      have e : WLK (k + 1 + 1) l lo hi i j = [] := by rw [WLK, if_pos hA]
      rw [e]
      have A := hideIt (pv1 lo hi w)
      have d1 : decide (i ≤ lo) = true := decide_eq_true (by omega)
      have d1' : decide ((i : Int) ≤ (lo : Int)) = true := decide_eq_true (by omega)
      have d2 : decide (x ≤ j) = true := decide_eq_true (by omega)
      have d2' : decide ((x : Int) ≤ (j : Int)) = true := decide_eq_true (by omega)
      have hxb : (x : Int) ≤ 1000000000 := by omega
      have hlb : (lo : Int) ≤ 1000000000 := by omega
      have hhb : (hi : Int) ≤ 1000000000 := by omega
      clear ih hlt hk hh hx hA HW e ho l8 hl hij rl hcl
      go_enter Try.func53, Try.ntmps53
      go_wp2_with fail
      refine A.out.mono ?_
      rintro e w1 ⟨rfl, rfl⟩
      go_wp2
      go_ret
      exact ⟨_, rfl, [], ⟨rfl, .inl ⟨rfl, rfl⟩⟩, LO.nil _, Only.refl _ _⟩
    · by_cases hB : j < lo ∨ hi ≤ i
      · by_cases hB1 : hi ≤ i
        · skip
          have e : WLK (k + 1 + 1) l lo hi i j = [TOP (PRT l lo hi)] := by rw [WLK, if_neg hA, if_pos hB]
          rw [e]
          have A := hideIt (pv2 cl lo hi vl l w l8 hl (rl.past ho) hlt hh (cell_past hcl ho))
          obtain ⟨Y, hY⟩ : ∃ Y, Y = TOP (PRT l lo hi) := ⟨_, rfl⟩
          rw [← hY] at A ⊢
          have d1 : decide (i ≤ lo) = false := decide_eq_false (by omega)
          have d1' : decide ((i : Int) ≤ (lo : Int)) = false := decide_eq_false (by omega)
          have d3 : decide (x < i) = true := decide_eq_true (by omega)
          have d3' : decide ((x : Int) < (i : Int)) = true := decide_eq_true (by omega)
          have hxb : (x : Int) ≤ 1000000000 := by omega
          have hlb : (lo : Int) ≤ 1000000000 := by omega
          have hhb : (hi : Int) ≤ 1000000000 := by omega
          clear ih hlt hk hh hx hA HW e ho l8 hl hij rl hcl hB hB1 hY
          go_enter Try.func53, Try.ntmps53
          go_wp2_with fail
          refine A.out.mono ?_
          rintro e w1 ⟨v1, rfl, vs1, own1, r1⟩
          have F : Hid (∃ vs, w1.ownsRow w.heap.size 22 1 v1 vs.length vs ∧ LO w1 vs [Y] ∧ Only (fun _ => False) w w1) := ⟨vs1, own1, r1⟩
          obtain ⟨ao1, cap1, e1⟩ := own_form own1
          subst e1
          clear A r1 own1
          go_wp2
          go_ret
          exact ⟨_, rfl, F.out⟩
        · skip
          have e : WLK (k + 1 + 1) l lo hi i j = [TOP (PRT l lo hi)] := by rw [WLK, if_neg hA, if_pos hB]
          rw [e]
          have A := hideIt (pv2 cl lo hi vl l w l8 hl (rl.past ho) hlt hh (cell_past hcl ho))
          obtain ⟨Y, hY⟩ : ∃ Y, Y = TOP (PRT l lo hi) := ⟨_, rfl⟩
          rw [← hY] at A ⊢
          have d1 : decide (i ≤ lo) = true := decide_eq_true (by omega)
          have d1' : decide ((i : Int) ≤ (lo : Int)) = true := decide_eq_true (by omega)
          have d2 : decide (x ≤ j) = false := decide_eq_false (by omega)
          have d2' : decide ((x : Int) ≤ (j : Int)) = false := decide_eq_false (by omega)
          have d3 : decide (x < i) = false := decide_eq_false (by omega)
          have d3' : decide ((x : Int) < (i : Int)) = false := decide_eq_false (by omega)
          have d4 : decide (j < lo) = true := decide_eq_true (by omega)
          have d4' : decide ((j : Int) < (lo : Int)) = true := decide_eq_true (by omega)
          have hxb : (x : Int) ≤ 1000000000 := by omega
          have hlb : (lo : Int) ≤ 1000000000 := by omega
          have hhb : (hi : Int) ≤ 1000000000 := by omega
          clear ih hlt hk hh hx hA HW e ho l8 hl hij rl hcl hB hB1 hY
          go_enter Try.func53, Try.ntmps53
          go_wp2_with fail
          refine A.out.mono ?_
          rintro e w1 ⟨v1, rfl, vs1, own1, r1⟩
          have F : Hid (∃ vs, w1.ownsRow w.heap.size 22 1 v1 vs.length vs ∧ LO w1 vs [Y] ∧ Only (fun _ => False) w w1) := ⟨vs1, own1, r1⟩
          obtain ⟨ao1, cap1, e1⟩ := own_form own1
          subst e1
          clear A r1 own1
          go_wp2
          go_ret
          exact ⟨_, rfl, F.out⟩
      · have h3 := part_two hlt hA hB
        by_cases hC : i ≤ lo
        · skip
          obtain ⟨n, hn⟩ : ∃ n, n = hi - lo := ⟨_, rfl⟩
          obtain ⟨q, hq⟩ : ∃ q, q = HALF n := ⟨_, rfl⟩
          have q1 := HALF_pos n
          have q2 := HALF_lt (n := n) (by omega)
          rw [← hq] at q1 q2
          obtain ⟨m, hm⟩ : ∃ m, m = lo + q := ⟨_, rfl⟩
          have es : (hi : Int) - (lo : Int) = (n : Int) := by omega
          have em : (lo : Int) + (q : Int) = (m : Int) := by omega
          have AL := hideIt (fun (W : World) => left_any n (by omega) (by omega) W)
          rw [← hq] at AL
          have e : WLK (k + 1 + 1) l lo hi i j = WLK (k + 1) l lo m i j ++ WLK (k + 1) l m hi i j := by rw [WLK, if_neg hA, if_neg hB, hm, hq, hn]
          rw [e]
          have s1 := MNY_size (k + 1) lo m i j (by omega)
          have s2 := MNY_size (k + 1) m hi i j (by omega)
          rw [← WLK_len (k + 1) l] at s1 s2
          have T1 := hideIt (fun (W : World) (o : Only (fun _ => False) w W) => ih lo m W (by omega) (by omega) (by omega) (ho.same o) (HW.out.past o))
          have T2 := hideIt (fun (W : World) (o : Only (fun _ => False) w W) => ih m hi W (by omega) (by omega) (by omega) (ho.same o) (HW.out.past o))
          obtain ⟨Y, hY⟩ : ∃ Y, Y = WLK (k + 1) l lo m i j := ⟨_, rfl⟩
          obtain ⟨Z, hZ⟩ : ∃ Z, Z = WLK (k + 1) l m hi i j := ⟨_, rfl⟩
          rw [← hY] at T1 s1 ⊢
          rw [← hZ] at T2 s2 ⊢
          have T3 := hideIt (fun (vl vr : Value) (xs ys : List Value) (W : World) (h1 : W.ownsRow w.heap.size 22 1 vl xs.length xs) (l1 : xs.length = Y.length) (h2 : VS W vr ys) (l2 : ys.length = Z.length) (hb : w.heap.size ≤ W.heap.size) => pv3 w.heap.size vl vr xs ys W h1 h2 hb (by omega) (by omega))
          have hqb : (q : Int) ≤ 1000000000 := by omega
          have hmb : (m : Int) ≤ 1000000000 := by omega
          have hnb : (n : Int) ≤ 1000000000 := by omega
          have d1 : decide (i ≤ lo) = true := decide_eq_true (by omega)
          have d1' : decide ((i : Int) ≤ (lo : Int)) = true := decide_eq_true (by omega)
          have d2 : decide (x ≤ j) = false := decide_eq_false (by omega)
          have d2' : decide ((x : Int) ≤ (j : Int)) = false := decide_eq_false (by omega)
          have d3 : decide (x < i) = false := decide_eq_false (by omega)
          have d3' : decide ((x : Int) < (i : Int)) = false := decide_eq_false (by omega)
          have d4 : decide (j < lo) = false := decide_eq_false (by omega)
          have d4' : decide ((j : Int) < (lo : Int)) = false := decide_eq_false (by omega)
          have hxb : (x : Int) ≤ 1000000000 := by omega
          have hlb : (lo : Int) ≤ 1000000000 := by omega
          have hhb : (hi : Int) ≤ 1000000000 := by omega
          clear ih hlt hk hh hx hA HW e ho l8 hl hij rl hcl hB hC h3 hn hq hm hY hZ s1 s2 q1 q2
          go_enter Try.func53, Try.ntmps53
          go_wp2_with fail
          refine (AL.out _).mono ?_
          rintro e w1 ⟨rfl, rfl⟩
          clear AL
          go_wp2_with fail
          go_region_held3 (fun W => W.cell? ⟨b4, 0, none⟩ = some (.func (.func 37) #[] #[]) ∧ W.cell? ⟨b5, 0, none⟩ = some (.func (.func 53) #[] #[.pointer (some ⟨b0, 0, none⟩), .pointer (some ⟨b1, 0, none⟩), .pointer (some ⟨b2, 0, none⟩), .pointer (some ⟨b3, 0, none⟩), .pointer (some ⟨b4, 0, none⟩), .pointer (some ⟨b5, 0, none⟩)])) (go_keep) (first | (go_at_call 53; refine (T1.out _ ((Only.refl _ _).drew)).mono ?_; rintro e w1 ⟨v1, rfl, vs1, own1, lo1, o1⟩; have O1 := hideIt (((Only.refl (fun _ => False) w).drew).same o1); have k4 := cell_past c4 O1.out; have k5 := cell_past c5 O1.out; have R1 := hideIt (And.intro (own_low own1 (Nat.le_refl w.heap.size)) lo1); obtain ⟨ao1, cap1, e1⟩ := own_form own1; subst e1; clear o1 T1 own1 lo1) | (go_at_call 53; refine (T2.out _ O1.out).mono ?_; rintro e w2 ⟨v2, rfl, vs2, own2, lo2, o2⟩; have O2 := hideIt (O1.out.same o2); have k4' := cell_past c4 O2.out; have k5' := cell_past c5 O2.out; have R1' := hideIt (And.intro (o2.own R1.out.1 (fun _ _ f => f)) (R1.out.2.past o2)); have R2 := hideIt (And.intro (VS.of_own own2 lo2.one') lo2); obtain ⟨ao2, cap2, e2⟩ := own_form own2; subst e2; clear o2 T2 own2 lo2 R1) | (go_at_call 37; refine (T3.out _ _ _ _ _ R1'.out.1 R1'.out.2.1 R2.out.1 R2.out.2.1 O2.out.size).mono ?_; rintro e w3 ⟨v3, rfl, own3, g3⟩; have O3 := hideIt (O2.out.grown g3 (fun k hk e => absurd ((R1'.out.1).lt k e).1 (by omega))); have k6 := cell_past c4 O3.out; have k7 := cell_past c5 O3.out; have F : Hid (∃ vs, w3.ownsRow w.heap.size 22 1 v3 vs.length vs ∧ LO w3 vs (Y ++ Z) ∧ Only (fun _ => False) w w3) := ⟨vs1 ++ vs2, by rw [List.length_append]; exact own3, (R1'.out.2.grown R1'.out.1 g3).app (R2.out.2.grown R1'.out.1 g3), O3.out⟩; obtain ⟨ao3, cap3, e3⟩ := own_form own3; subst e3; clear T3 own3 g3))
          go_wp2
          go_ret
          exact ⟨_, rfl, F.out⟩
        · skip
          obtain ⟨n, hn⟩ : ∃ n, n = hi - lo := ⟨_, rfl⟩
          obtain ⟨q, hq⟩ : ∃ q, q = HALF n := ⟨_, rfl⟩
          have q1 := HALF_pos n
          have q2 := HALF_lt (n := n) (by omega)
          rw [← hq] at q1 q2
          obtain ⟨m, hm⟩ : ∃ m, m = lo + q := ⟨_, rfl⟩
          have es : (hi : Int) - (lo : Int) = (n : Int) := by omega
          have em : (lo : Int) + (q : Int) = (m : Int) := by omega
          have AL := hideIt (fun (W : World) => left_any n (by omega) (by omega) W)
          rw [← hq] at AL
          have e : WLK (k + 1 + 1) l lo hi i j = WLK (k + 1) l lo m i j ++ WLK (k + 1) l m hi i j := by rw [WLK, if_neg hA, if_neg hB, hm, hq, hn]
          rw [e]
          have s1 := MNY_size (k + 1) lo m i j (by omega)
          have s2 := MNY_size (k + 1) m hi i j (by omega)
          rw [← WLK_len (k + 1) l] at s1 s2
          have T1 := hideIt (fun (W : World) (o : Only (fun _ => False) w W) => ih lo m W (by omega) (by omega) (by omega) (ho.same o) (HW.out.past o))
          have T2 := hideIt (fun (W : World) (o : Only (fun _ => False) w W) => ih m hi W (by omega) (by omega) (by omega) (ho.same o) (HW.out.past o))
          obtain ⟨Y, hY⟩ : ∃ Y, Y = WLK (k + 1) l lo m i j := ⟨_, rfl⟩
          obtain ⟨Z, hZ⟩ : ∃ Z, Z = WLK (k + 1) l m hi i j := ⟨_, rfl⟩
          rw [← hY] at T1 s1 ⊢
          rw [← hZ] at T2 s2 ⊢
          have T3 := hideIt (fun (vl vr : Value) (xs ys : List Value) (W : World) (h1 : W.ownsRow w.heap.size 22 1 vl xs.length xs) (l1 : xs.length = Y.length) (h2 : VS W vr ys) (l2 : ys.length = Z.length) (hb : w.heap.size ≤ W.heap.size) => pv3 w.heap.size vl vr xs ys W h1 h2 hb (by omega) (by omega))
          have hqb : (q : Int) ≤ 1000000000 := by omega
          have hmb : (m : Int) ≤ 1000000000 := by omega
          have hnb : (n : Int) ≤ 1000000000 := by omega
          have d1 : decide (i ≤ lo) = false := decide_eq_false (by omega)
          have d1' : decide ((i : Int) ≤ (lo : Int)) = false := decide_eq_false (by omega)
          have d3 : decide (x < i) = false := decide_eq_false (by omega)
          have d3' : decide ((x : Int) < (i : Int)) = false := decide_eq_false (by omega)
          have d4 : decide (j < lo) = false := decide_eq_false (by omega)
          have d4' : decide ((j : Int) < (lo : Int)) = false := decide_eq_false (by omega)
          have hxb : (x : Int) ≤ 1000000000 := by omega
          have hlb : (lo : Int) ≤ 1000000000 := by omega
          have hhb : (hi : Int) ≤ 1000000000 := by omega
          clear ih hlt hk hh hx hA HW e ho l8 hl hij rl hcl hB hC h3 hn hq hm hY hZ s1 s2 q1 q2
          go_enter Try.func53, Try.ntmps53
          go_wp2_with fail
          refine (AL.out _).mono ?_
          rintro e w1 ⟨rfl, rfl⟩
          clear AL
          go_wp2_with fail
          go_region_held3 (fun W => W.cell? ⟨b4, 0, none⟩ = some (.func (.func 37) #[] #[]) ∧ W.cell? ⟨b5, 0, none⟩ = some (.func (.func 53) #[] #[.pointer (some ⟨b0, 0, none⟩), .pointer (some ⟨b1, 0, none⟩), .pointer (some ⟨b2, 0, none⟩), .pointer (some ⟨b3, 0, none⟩), .pointer (some ⟨b4, 0, none⟩), .pointer (some ⟨b5, 0, none⟩)])) (go_keep) (first | (go_at_call 53; refine (T1.out _ ((Only.refl _ _).drew)).mono ?_; rintro e w1 ⟨v1, rfl, vs1, own1, lo1, o1⟩; have O1 := hideIt (((Only.refl (fun _ => False) w).drew).same o1); have k4 := cell_past c4 O1.out; have k5 := cell_past c5 O1.out; have R1 := hideIt (And.intro (own_low own1 (Nat.le_refl w.heap.size)) lo1); obtain ⟨ao1, cap1, e1⟩ := own_form own1; subst e1; clear o1 T1 own1 lo1) | (go_at_call 53; refine (T2.out _ O1.out).mono ?_; rintro e w2 ⟨v2, rfl, vs2, own2, lo2, o2⟩; have O2 := hideIt (O1.out.same o2); have k4' := cell_past c4 O2.out; have k5' := cell_past c5 O2.out; have R1' := hideIt (And.intro (o2.own R1.out.1 (fun _ _ f => f)) (R1.out.2.past o2)); have R2 := hideIt (And.intro (VS.of_own own2 lo2.one') lo2); obtain ⟨ao2, cap2, e2⟩ := own_form own2; subst e2; clear o2 T2 own2 lo2 R1) | (go_at_call 37; refine (T3.out _ _ _ _ _ R1'.out.1 R1'.out.2.1 R2.out.1 R2.out.2.1 O2.out.size).mono ?_; rintro e w3 ⟨v3, rfl, own3, g3⟩; have O3 := hideIt (O2.out.grown g3 (fun k hk e => absurd ((R1'.out.1).lt k e).1 (by omega))); have k6 := cell_past c4 O3.out; have k7 := cell_past c5 O3.out; have F : Hid (∃ vs, w3.ownsRow w.heap.size 22 1 v3 vs.length vs ∧ LO w3 vs (Y ++ Z) ∧ Only (fun _ => False) w w3) := ⟨vs1 ++ vs2, by rw [List.length_append]; exact own3, (R1'.out.2.grown R1'.out.1 g3).app (R2.out.2.grown R1'.out.1 g3), O3.out⟩; obtain ⟨ao3, cap3, e3⟩ := own_form own3; subst e3; clear T3 own3 g3))
          go_wp2
          go_ret
          exact ⟨_, rfl, F.out⟩
end Go.Proofs.Ytnifflnhbpfmnaa
