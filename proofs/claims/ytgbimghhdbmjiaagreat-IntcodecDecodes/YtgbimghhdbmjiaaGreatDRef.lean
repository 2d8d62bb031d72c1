/- Contracts of the document's own answer: differences and sums by definition. -/
import Derived.Test.YtgbimghhdbmjiaaGreatG1
import Derived.Test.YtgbimghhdbmjiaaGreatG10
import Derived.Deep.RegionLaw
namespace Go.Proofs.YtgbimghhdbmjiaaGreat
open Go.RowKit

theorem wrap_64 (x : Int) : IntKind.i64.wrap x = wrap64 x := by unfold wrap64; rw [IntKind.wrap_i64]
theorem getD_in (l : List Int) (j : Nat) (h : j < l.length) : l[j]? = some (l.getD j 0) := by
  rw [List.getElem?_eq_getElem h, List.getD_eq_getElem?_getD, List.getElem?_eq_getElem h]; rfl
theorem take_next (l : List Int) (j : Nat) (h : j < l.length) : l.take (j + 1) = l.take j ++ [l.getD j 0] := by
  rw [List.take_add_one, getD_in l j h]; rfl
/-- what stands at a place behind a pass of differences -/
theorem bh_at (m : List Int) (s i : Nat) (hi : i < m.length) (hg : ∀ x ∈ m, G64 x) : (bh (dif 0) s m).getD i 0 = if i < s + 1 then m.getD i 0 else wrap64 (m.getD i 0 - m.getD (i - 1) 0) := by
  unfold bh
  rw [List.getD_eq_getElem?_getD, List.getElem?_append]
  by_cases h1 : i < s
  · rw [if_pos (by rw [List.length_take]; omega), if_pos (by omega), List.getElem?_take, if_pos h1, ← List.getD_eq_getElem?_getD]
  · have hs : s < m.length := by omega
    have el : (m.take s).length = s := by rw [List.length_take]; omega
    rw [if_neg (by omega), el, ← List.getD_eq_getElem?_getD]
    have hgd : ∀ j, (m.drop s).getD j 0 = m.getD (s + j) 0 := fun j => by
      rw [List.getD_eq_getElem?_getD, List.getD_eq_getElem?_getD, List.getElem?_drop]
    by_cases h2 : i = s
    · subst h2
      rw [Nat.sub_self, dif_zero _ (fun x hx => hg x (List.mem_of_mem_drop hx)), hgd, if_pos (by omega)]; rfl
    · obtain ⟨j, rfl⟩ : ∃ j, i = s + (j + 1) := ⟨i - s - 1, by omega⟩
      rw [if_neg (by omega), show s + (j + 1) - s = j + 1 by omega, dif_at 0 (m.drop s) j (by rw [List.length_drop]; omega), hgd, hgd]
      rfl


set_option maxHeartbeats 400000 in
set_option maxRecDepth 100000 in
theorem rdiff_zero (v : Value) (xs : List Int) (w : World) (hb : Bs .i64 w v xs) (nc : NoCap v) (hl : xs.length ≤ 1000000) :
    Calls Tryz.prog 65 #[v, .int .i64 0] w fun e w' => ∃ v', e = .returned (.tuple #[v', .int .i64 0]) ∧ w'.ownsRow w.heap.size 3 1 v' xs.length (xs.map (Value.int .i64)) ∧ Only (fun _ => False) w w' := by
  obtain ⟨i0, hi, hz0, hz1, hz2⟩ := info_parts Tryz.infoI64
  have ho := World.ownsRow_made (base := w.heap.size) (e := 3) (size := 1) w #[] 0 (Nat.le_refl _) (by unfold maxLen; omega) rfl
  have HB := hideIt (And.intro (hb.keep ((Only.refl (fun _ => False) w).alloc (.cells #[] 3)) (fun _ _ f => f)) nc)
  clear hb nc
  go_enter Tryz.func65, Tryz.ntmps65
  go_wp2_with (at_builtin; refine wpList_append_bs _ rfl _ _ _ rfl w.heap.size 3 i0 (.int .i64 0) 8 Tryz.underlying24 hi hz0 hz1 hz2 rfl (.slice (some ⟨w.heap.size, 0, none⟩) 0 0) 0 [] rfl ho .i64 v xs rfl HB.out.1 HB.out.2 (by unfold maxLen; omega) (by omega) (by simp) ?_)
  intro v' w1 hown1 hgrow _ _
  have FIN : Hid (w1.ownsRow w.heap.size 3 1 v' xs.length (xs.map (Value.int .i64)) ∧ Only (fun _ => False) w w1) := by
    refine ⟨by simpa using hown1, ((Only.refl _ _).alloc _).grown hgrow (fun k hk e => ?_)⟩
    simp [Value.ownBlock] at e
    omega
  clear hown1 hgrow ho HB
  go_wp2
  go_ret2
  exact ⟨v', rfl, FIN.out⟩
set_option maxHeartbeats 800000 in
set_option maxRecDepth 100000 in
theorem rdiff_succ (v : Value) (xs : List Int) (k : Nat) (w : World) (hl : xs.length ≤ 1000000) (hg : ∀ x ∈ xs, G64 x) (hk : k + 1 ≤ 3)
    (IH : Calls Tryz.prog 65 #[v, .int .i64 k] w fun e w' => ∃ v', e = .returned (.tuple #[v', .int .i64 0]) ∧ w'.ownsRow w.heap.size 3 1 v' xs.length ((D k xs).map (Value.int .i64)) ∧ Only (fun _ => False) w w') :
    Calls Tryz.prog 65 #[v, .int .i64 (k + 1 : Nat)] w fun e w' => ∃ v', e = .returned (.tuple #[v', .int .i64 0]) ∧ w'.ownsRow w.heap.size 3 1 v' xs.length ((D (k + 1) xs).map (Value.int .i64)) ∧ Only (fun _ => False) w w' := by
  obtain ⟨i0, hi, hz0, hz1, hz2⟩ := info_parts Tryz.infoI64
  have t0 : decide (((k + 1 : Nat) : Int) < 0) = false := decide_eq_false (by omega)
  have t1 : decide ((3 : Int) < ((k + 1 : Nat) : Int)) = false := decide_eq_false (by omega)
  have t2 : (((k + 1 : Nat) : Int) == 0) = false := by
    rw [beq_eq_false_iff_ne]; omega
  have t3 : ((k + 1 : Nat) : Int) - 1 = (k : Int) := by omega
  have HI := hideIt IH
  clear IH
  have HAT := hideIt (fun i hi => bh_at (D k xs) k i hi (D_g k xs hg))
  obtain ⟨n, hn⟩ : ∃ n, n = xs.length := ⟨_, rfl⟩
  rw [← hn] at hl HI ⊢
  have HN := hideIt hn
  clear hn hg
  obtain ⟨q, hq⟩ : ∃ q : Nat, q = k + 1 := ⟨_, rfl⟩
  have HQ := hideIt hq
  rw [← hq] at t0 t1 t2 t3 ⊢
  clear hq
  have HLY : Hid ((D (k + 1) xs).length = n) := by rw [D_length]; exact HN.out.symm
  have HLM : Hid ((D k xs).length = n) := by rw [D_length]; exact HN.out.symm
  have HY : Hid (D (k + 1) xs = bh (dif 0) k (D k xs)) := rfl
  obtain ⟨ms, hms⟩ : ∃ ms, ms = D k xs := ⟨_, rfl⟩
  obtain ⟨ys, hys⟩ : ∃ ys, ys = D (k + 1) xs := ⟨_, rfl⟩
  rw [← hms] at HI HLM HY HAT
  rw [← hys] at HLY HY
  rw [HQ.out, ← hys, ← HQ.out]
  clear hms hys
  go_enter Tryz.func65, Tryz.ntmps65
  go_wp2_with fail
  refine HI.out.mono ?_
  rintro e w1 ⟨vm, rfl, own1, on1⟩
  have bm : Bs .i64 w1 vm ms := Bs.of_own (by rw [HLM.out]; exact own1)
  obtain ⟨ao, cap, hv⟩ := bm.len
  rw [HLM.out] at hv
  subst hv
  have HBM := hideIt bm
  have ON1 := hideIt on1
  obtain ⟨M, hM⟩ : ∃ M, M = w1.heap.size := ⟨_, rfl⟩
  have HM := hideIt hM
  clear HI own1 on1 HN hM bm t0 t1 t2 t3
  go_wp2
  go_loopw [8, 9] (fun o i wr => ∃ j : Nat, j ≤ n ∧ i = .int .i64 j ∧ wr.ownsRow M 3 1 o j ((ys.map (Value.int .i64)).take j) ∧ Below M w1 wr) (fun _ i _ => n - (intOf i).toNat)
  case atStart => exact ⟨0, Nat.zero_le _, rfl, World.ownsRow_nil _ _ _ _, Below.refl _ _⟩
  case round =>
    obtain ⟨j, hj, rfl, hown, hbel⟩ := hrel
    have hsz : M ≤ wr.heap.size := by have := hbel.size; have := HM.out; omega
    by_cases hlt : j < n
    · obtain ⟨b, off, cap', e1, hcell⟩ := (HBM.out.later (by rw [← HM.out]; exact hbel)).at j (by rw [HLM.out]; exact hlt)
      simp at e1
      obtain ⟨rfl, e2, rfl⟩ := e1
      have HE2 := hideIt e2
      clear e2
      have i0' : (0 : Int) ≤ (j : Int) := by omega
      have i1' : (j : Int) < (n : Int) := by omega
      have hnext : (ys.map (Value.int .i64)).take (j + 1) = (ys.map (Value.int .i64)).take j ++ [.int .i64 (ys.getD j 0)] := by
        rw [← List.map_take, take_next ys j (by rw [HLY.out]; exact hlt), List.map_append, List.map_take]; rfl
      have hat := HAT.out j (by rw [HLM.out]; exact hlt)
      rw [← HY.out, ← HQ.out] at hat
      obtain ⟨x, hx⟩ : ∃ x, x = ms.getD j 0 := ⟨_, rfl⟩
      rw [← hx] at hcell hat
      by_cases hjq : j < q
      · have tq : decide ((j : Int) < (q : Int)) = true := decide_eq_true (by omega)
        rw [if_pos hjq] at hat
        rw [hat] at hnext
        have HNX := hideIt hnext
        clear hx hat hnext
        go_wp2_with (at_builtin; refine wpList_append_lies _ rfl _ _ _ rfl M 3 i0 (.int .i64 0) 1 8 Tryz.underlying24 hi hz0 hz1 hz2 rfl (by omega) _ j ((ys.map (Value.int .i64)).take j) rfl (hown.alloc _) ⟨wr.heap.size, 0, none⟩ 1 1 [.int .i64 x] rfl rfl ?c1 ?c2 (by omega) ?c3 ?c4 ?c5 (wr.heap.size + 1) (by simp) ?_)
        case c1 => exact cell_one_new _ _ _
        case c2 => intro u hu; simp at hu; subst hu; rfl
        case c3 => unfold maxLen; omega
        case c4 => omega
        case c5 => simp; omega
        intro g cap1 w2 hown1 hgrow hat hg1
        have hb1 : Below M w1 w2 := (hbel.alloc hsz _).grown hgrow (by simp; omega) (fun q hq => (hown.lt q hq).1)
        have hown2 : w2.ownsRow M 3 1 (.slice (some ⟨g, 0, none⟩) (j + 1) cap1) (j + 1) ((ys.map (Value.int .i64)).take (j + 1)) := by rw [HNX.out]; exact hown1
        have H2 := hideIt (And.intro hown2 hb1)
        clear hown hown1 hgrow hat hbel hown2 hb1
        go_wp2
        go_roundw
        case rel => exact ⟨j + 1, by omega, by go_num, H2.out⟩
        case measure => simp [intOf]; omega
      · have tq : decide ((j : Int) < (q : Int)) = false := decide_eq_false (by omega)
        have hj1 : 1 ≤ j := by have := HQ.out; omega
        obtain ⟨b', off', cap'', e1, hcell1⟩ := (HBM.out.later (by rw [← HM.out]; exact hbel)).at (j - 1) (by rw [HLM.out]; omega)
        simp at e1
        obtain ⟨⟨rfl, rfl⟩, e2, rfl⟩ := e1
        clear e2
        rw [if_neg hjq] at hat
        rw [hat] at hnext
        obtain ⟨y, hy⟩ : ∃ y, y = ms.getD (j - 1) 0 := ⟨_, rfl⟩
        rw [← hy] at hcell1 hnext
        have HNX := hideIt hnext
        clear hx hat hnext hy
        obtain ⟨p, hp⟩ : ∃ p : Nat, p = j - 1 := ⟨_, rfl⟩
        rw [← hp] at hcell1
        have hw1 : IntKind.i64.wrap ((j : Int) - 1) = (p : Int) := by rw [IntKind.wrap_i64]; omega
        have i2 : (0 : Int) ≤ (p : Int) := by omega
        have i3 : (p : Int) < (n : Int) := by omega
        have hca : ∀ j u, [Value.int .i64 (IntKind.i64.wrap (x - y))][j]? = some u → (wr.alloc (.cells #[.int .i64 (IntKind.i64.wrap (x - y))] 3)).drew.cell? ((⟨wr.heap.size, 0, none⟩ : Addr).add j) = some u := cell_one_new _ _ _
        have HOA := hideIt (And.intro hca (hown.alloc (.cells #[.int .i64 (IntKind.i64.wrap (x - y))] 3)).drew)
        have fn : ∀ g cap1 w2, w2.ownsRow M 3 1 (.slice (some ⟨g, 0, none⟩) (j + 1) cap1) (j + 1) ((ys.map (Value.int .i64)).take j ++ [.int .i64 (IntKind.i64.wrap (x - y))]) → (wr.alloc (.cells #[.int .i64 (IntKind.i64.wrap (x - y))] 3)).drew.grownBy w2 u8.ownBlock →
            w2.ownsRow M 3 1 (.slice (some ⟨g, 0, none⟩) (j + 1) cap1) (j + 1) ((ys.map (Value.int .i64)).take (j + 1)) ∧ Below M w1 w2 := by
          intro g cap1 w2 h1 h2
          rw [wrap_64, ← HNX.out] at h1
          exact ⟨h1, ((hbel.alloc hsz _).drew).grown h2 (by simp; omega) (fun q hq => (hown.lt q hq).1)⟩
        have FN := hideIt fn
        clear hp hca fn hown hbel
        go_wp2
        go_region_law (refine step_append_lies _ rfl (.tmp 44) (.tmp 55) 24 rfl M 3 i0 (.int .i64 0) 1 8 Tryz.underlying24 hi hz0 hz1 hz2 rfl (by omega) u8 j ((ys.map (Value.int .i64)).take j) rfl HOA.out.2 ⟨wr.heap.size, 0, none⟩ 1 1 [.int .i64 (IntKind.i64.wrap (x - y))] rfl rfl HOA.out.1 (by intro u hu; simp at hu; subst hu; rfl) (by omega) (by unfold maxLen; omega) (by omega) (by simp; omega) (wr.heap.size + 1) (by simp) ?_; intro g cap1 w2 hown1 hgrow hat hg1)
        all_goals (have H2 := hideIt (FN.out g cap1 w2 hown1 hgrow))
        all_goals (clear hown1 hgrow hat hg1 FN HOA)
        all_goals go_wp2
        all_goals go_roundw
        all_goals first | exact ⟨j + 1, by omega, by go_num, H2.out⟩ | (simp [intOf]; omega)
    · have e1 : j = n := by omega
      subst e1
      rw [List.take_of_length_le (by rw [List.length_map, HLY.out]; omega)] at hown
      have F := hideIt (And.intro (own_low hown (by rw [HM.out]; exact ON1.out.size)) (ON1.out.same (only_of_below (by rw [← HM.out]; exact hbel))))
      clear hown hbel
      go_wp2
      go_ret2
      exact ⟨_, rfl, F.out⟩
/-- DIFF BY DEFINITION -/
theorem rdiff_in (v : Value) (xs : List Int) (k : Nat) (w : World) (hb : Bs .i64 w v xs) (nc : NoCap v) (hl : xs.length ≤ 1000000) (hg : ∀ x ∈ xs, G64 x) (hk : k ≤ 3) :
    Calls Tryz.prog 65 #[v, .int .i64 k] w fun e w' => ∃ v', e = .returned (.tuple #[v', .int .i64 0]) ∧ w'.ownsRow w.heap.size 3 1 v' xs.length ((D k xs).map (Value.int .i64)) ∧ Only (fun _ => False) w w' := by
  induction k with
  | zero => exact rdiff_zero v xs w hb nc hl
  | succ k ih => exact rdiff_succ v xs k w hl hg hk (ih (by omega))
set_option maxHeartbeats 400000 in
set_option maxRecDepth 100000 in
theorem rdiff_out (v : Value) (k : Int) (w : World) (hk : k < 0 ∨ 3 < k) : Calls Tryz.prog 65 #[v, .int .i64 k] w fun e w' => e = .returned (.tuple #[.slice none 0 0, .int .i64 1]) ∧ w = w' := by
  by_cases h0 : k < 0
  · have h1 : decide (k < 0) = true := decide_eq_true h0
    clear hk
    go_enter Tryz.func65, Tryz.ntmps65
    go_wp2
    go_ret2
    exact ⟨rfl, rfl⟩
  · have h1 : decide (k < 0) = false := decide_eq_false h0
    have h2 : decide (3 < k) = true := decide_eq_true (by omega)
    clear hk
    go_enter Tryz.func65, Tryz.ntmps65
    go_wp2
    go_ret2
    exact ⟨rfl, rfl⟩
end Go.Proofs.YtgbimghhdbmjiaaGreat
