/- The document's own answers: Prove, Rebuild, Verify. -/
import Derived.Test.YtnifflnhbpfmnaaRm20
import Derived.Test.YtnifflnhbpfmnaaRbd
import Derived.Test.YtnifflnhbpfmnaaSame2
namespace Go.Proofs.Ytnifflnhbpfmnaa
open Go.RowKit
set_option linter.unusedVariables false

set_option maxHeartbeats 800000 in
set_option maxRecDepth 100000 in
theorem rprove_bad (ao : Option Addr) (m cap : Nat) (i j : Int) (h : ¬ (0 ≤ i ∧ i ≤ j ∧ j < m)) (w : World) :
    Calls Try.prog 19 #[.slice ao m cap, .int .i64 i, .int .i64 j] w fun e w' => e = .returned (.tuple #[.slice none 0 0, .int .i64 1]) ∧ Only (fun _ => False) w w' := by
  by_cases h1 : i < 0
  · have d1 : decide (i < 0) = true := decide_eq_true h1
    clear h
    go_enter Try.func19, Try.ntmps19
    go_wp2
    go_ret2
    exact ⟨rfl, Only.refl _ _⟩
  · have d1 : decide (i < 0) = false := decide_eq_false h1
    by_cases h2 : j < i
    · have d2 : decide (j < i) = true := decide_eq_true h2
      clear h
      go_enter Try.func19, Try.ntmps19
      go_wp2
      go_ret2
      exact ⟨rfl, Only.refl _ _⟩
    · have d2 : decide (j < i) = false := decide_eq_false h2
      have d3 : decide ((m : Int) ≤ j) = true := decide_eq_true (by omega)
      clear h
      go_enter Try.func19, Try.ntmps19
      go_wp2
      go_ret2
      exact ⟨rfl, Only.refl _ _⟩
set_option maxHeartbeats 800000 in
set_option maxRecDepth 100000 in
theorem rprove_in (vl : Value) (l : List (List Int)) (i j : Nat) (hij : i ≤ j) (hj : j < l.length) (l5 : R5 l) (hl : l.length ≤ 1000000) (w : World) (rl : RL w vl l) :
    Calls Try.prog 19 #[vl, .int .i64 i, .int .i64 j] w fun e w' => ∃ v, e = .returned (.tuple #[v, .int .i64 0]) ∧ ∃ vs, w'.ownsRow w.heap.size 22 1 v vs.length vs ∧ LO w' vs (WALKL l i j) ∧ Only (fun _ => False) w w' := by
  obtain ⟨n, hn⟩ : ∃ n, l.length = n := ⟨_, rfl⟩
  obtain ⟨b, off, cap, rfl, hcap⟩ := rl.form hn (by omega)
  have A := hideIt (rwalk_in i j b off n cap l l5 hl hij (by omega) hn hcap l.length 0 l.length w (by omega) (by omega) (Nat.le_refl _) rl)
  rw [show ((0 : Nat) : Int) = 0 from rfl] at A
  obtain ⟨Y, hY⟩ : ∃ Y, Y = WALKL l i j := ⟨_, rfl⟩
  have e : WLK (l.length + 1) l 0 l.length i j = Y := hY.symm
  rw [e, hn] at A
  rw [← hY]
  have d1 : decide ((i : Int) < 0) = false := decide_eq_false (by omega)
  have d2 : decide ((j : Int) < (i : Int)) = false := decide_eq_false (by omega)
  have d2' : decide (j < i) = false := decide_eq_false (by omega)
  have d3 : decide ((n : Int) ≤ (j : Int)) = false := decide_eq_false (by omega)
  have d3' : decide (n ≤ j) = false := decide_eq_false (by omega)
  clear hij hj l5 hl rl hn hY e hcap
  go_enter Try.func19, Try.ntmps19
  go_wp2_with fail
  refine A.out.mono ?_
  rintro e w1 ⟨v1, rfl, vs1, own1, lo1, o1⟩
  have F : Hid (∃ vs, w1.ownsRow w.heap.size 22 1 v1 vs.length vs ∧ LO w1 vs Y ∧ Only (fun _ => False) w w1) := ⟨vs1, own1, lo1, o1⟩
  obtain ⟨ao1, cap1, e1⟩ := own_form own1
  subst e1
  clear A own1 lo1 o1
  go_wp2
  go_ret2
  exact ⟨_, rfl, F.out⟩
theorem rprove_any (vl : Value) (l : List (List Int)) (i j : Int) (l5 : R5 l) (hl : l.length ≤ 1000000) (w : World) (rl : RL w vl l) :
    Calls Try.prog 19 #[vl, .int .i64 i, .int .i64 j] w fun e w' => ∃ v, e = .returned (.tuple #[v, .int .i64 (PRE l i j)]) ∧ RL w' v (PRF l i j) ∧ NoCap v ∧ Only (fun _ => False) w w' := by
  by_cases h : PRA l i j
  · have e1 : PRE l i j = 0 := if_pos h
    have e2 : PRF l i j = WALKL l i.toNat j.toNat := if_pos h
    rw [e1, e2]
    obtain ⟨i', rfl⟩ := Int.eq_ofNat_of_zero_le h.1
    obtain ⟨j', rfl⟩ := Int.eq_ofNat_of_zero_le (show 0 ≤ j by have := h.1; have := h.2.1; omega)
    refine (rprove_in vl l i' j' (by have := h.2.1; omega) (by have := h.2.2; omega) l5 hl w rl).mono ?_
    rintro e w1 ⟨v1, rfl, vs1, own1, lo1, o1⟩
    exact ⟨v1, rfl, (lo1.rl own1).1, (lo1.rl own1).2, o1⟩
  · have e1 : PRE l i j = 1 := if_neg h
    have e2 : PRF l i j = [] := if_neg h
    rw [e1, e2]
    obtain ⟨ao, cap, rfl, _⟩ := rl.len
    refine (rprove_bad ao l.length cap i j h w).mono ?_
    rintro e w1 ⟨rfl, o1⟩
    exact ⟨_, rfl, RL.nil _, NoCap.nil, o1⟩

set_option maxHeartbeats 1600000 in
set_option maxRecDepth 100000 in
theorem rrebuild_bad (n i : Int) (lx : Option Addr) (m cx : Nat) (vp : Value) (hm : m ≤ 1000000000) (hb : ¬ (1 ≤ n ∧ n ≤ 1048576 ∧ 0 < m ∧ 0 ≤ i ∧ i + m ≤ n)) (hp : ∃ ao l c, vp = .slice ao l c) (w : World) :
    Calls Try.prog 22 #[.int .i64 n, .int .i64 i, .slice lx m cx, vp] w fun e w' => e = .returned (.tuple #[.slice none 0 0, .int .i64 1]) ∧ Only (fun _ => False) w w' := by
  obtain ⟨ao, l, c, rfl⟩ := hp
  by_cases h1 : n < 1
  · have d1 : decide (n < 1) = true := decide_eq_true h1
    clear hb
    go_enter Try.func22, Try.ntmps22
    go_wp2
    go_ret2
    exact ⟨rfl, Only.refl _ _⟩
  have d1 : decide (n < 1) = false := decide_eq_false h1
  by_cases h2 : 1048576 < n
  · have d2 : decide (1048576 < n) = true := decide_eq_true h2
    clear hb
    go_enter Try.func22, Try.ntmps22
    go_wp2
    go_ret2
    exact ⟨rfl, Only.refl _ _⟩
  have d2 : decide (1048576 < n) = false := decide_eq_false h2
  by_cases h3 : m = 0
  · subst h3
    clear hb
    go_enter Try.func22, Try.ntmps22
    go_wp2
    go_ret2
    exact ⟨rfl, Only.refl _ _⟩
  have d3 : ((m : Int) == 0) = false := by rw [beq_eq_false_iff_ne]; omega
  by_cases h4 : i < 0
  · have d4 : decide (i < 0) = true := decide_eq_true h4
    clear hb
    go_enter Try.func22, Try.ntmps22
    go_wp2
    go_ret2
    exact ⟨rfl, Only.refl _ _⟩
  have d4 : decide (i < 0) = false := decide_eq_false h4
  by_cases h5 : n ≤ i
  · have d5 : decide (n ≤ i) = true := decide_eq_true h5
    clear hb
    go_enter Try.func22, Try.ntmps22
    go_wp2
    go_ret2
    exact ⟨rfl, Only.refl _ _⟩
  have d5 : decide (n ≤ i) = false := decide_eq_false h5
  obtain ⟨s, hs⟩ : ∃ s : Int, n - i = s := ⟨_, rfl⟩
  have d6 : decide (s < (m : Int)) = true := decide_eq_true (by omega)
  have s1 : s ≤ 1048576 := by omega
  have s2 : 0 ≤ s := by omega
  clear hb
  go_enter Try.func22, Try.ntmps22
  go_wp2
  go_ret2
  exact ⟨rfl, Only.refl _ _⟩
set_option maxHeartbeats 1600000 in
set_option maxRecDepth 100000 in
theorem rrebuild_in (n i : Nat) (vx vp : Value) (x p : List (List Int)) (x5 : R5 x) (p5 : R5 p) (hn : n ≤ 1048576) (hx0 : 0 < x.length) (hin : i + x.length ≤ n) (hpl : p.length ≤ 1000000000) (w : World) (rx : RL w vx x) (rp : RL w vp p) :
    Calls Try.prog 22 #[.int .i64 n, .int .i64 i, vx, vp] w fun e w' => ∃ v, e = .returned (.tuple #[v, .int .i64 (if p.length = MANY n i (i + x.length - 1) then 0 else 8)]) ∧ Bs .u8 w' v (if p.length = MANY n i (i + x.length - 1) then MADE n i x p else []) ∧ NoCap v ∧ Only (fun _ => False) w w' := by
  obtain ⟨m, hm⟩ : ∃ m, x.length = m := ⟨_, rfl⟩
  obtain ⟨bx, ox, cx, rfl, hcx⟩ := rx.form hm (by omega)
  rw [hm] at hx0 hin ⊢
  obtain ⟨j, hj⟩ : ∃ j, j = i + m - 1 := ⟨_, rfl⟩
  rw [← hj]
  have PL := hideIt (rmany_any n i j (by omega) (by omega) (by omega) (by omega) w)
  have MD := hideIt (fun (hp : p.length = MANY n i j) => rmade_in i j bx ox m cx x x5 hm hx0 hcx (by omega) hj n 0 n p vp w (by omega) (by omega) (by omega) (by rw [hp]; exact Nat.le_refl _) p5 rx rp)
  rw [show ((0 : Nat) : Int) = 0 from rfl] at MD
  have g1 := MAD_r5 (n + 1) 0 n i x p x5 p5
  obtain ⟨lp, cp, hvp, _⟩ := rp.len
  obtain ⟨z, hz⟩ : ∃ z, z = p.length := ⟨_, rfl⟩
  obtain ⟨y, hy⟩ : ∃ y, y = MANY n i j := ⟨_, rfl⟩
  have hyb : y ≤ n := by rw [hy]; exact MNY_size (n + 1) 0 n i j (by omega)
  rw [← hz, ← hy] at MD
  rw [← hy] at PL
  rw [← hz, ← hy]
  rw [← hz] at hvp hpl
  subst hvp
  obtain ⟨Y, hY⟩ : ∃ Y, Y = MADE n i x p := ⟨_, rfl⟩
  have eY : (MAD (n + 1) 0 n i x p).1 = Y := hY.symm
  rw [eY] at MD g1
  rw [← hY]
  have hyl := g1.2
  have d1 : decide ((n : Int) < 1) = false := decide_eq_false (by omega)
  have d2 : decide ((1048576 : Int) < (n : Int)) = false := decide_eq_false (by omega)
  have d3 : ((m : Int) == 0) = false := by rw [beq_eq_false_iff_ne]; omega
  have d4 : decide ((i : Int) < 0) = false := decide_eq_false (by omega)
  have d5 : decide ((n : Int) ≤ (i : Int)) = false := decide_eq_false (by omega)
  have d5' : decide (n ≤ i) = false := decide_eq_false (by omega)
  obtain ⟨s, hs⟩ : ∃ s, s = n - i := ⟨_, rfl⟩
  have e1 : (n : Int) - (i : Int) = (s : Int) := by omega
  have d6 : decide ((s : Int) < (m : Int)) = false := decide_eq_false (by omega)
  have d6' : decide (s < m) = false := decide_eq_false (by omega)
  obtain ⟨t, ht⟩ : ∃ t, t = i + m := ⟨_, rfl⟩
  have e2 : (i : Int) + (m : Int) = (t : Int) := by omega
  have e3 : (t : Int) - 1 = (j : Int) := by omega
  have b1 : (s : Int) ≤ 1048576 := by omega
  have b2 : (t : Int) ≤ 1048576 := by omega
  have b3 : (j : Int) ≤ 1048576 := by omega
  by_cases hzy : z = y
  · have e9 : ((z : Int) != (y : Int)) = false := by simp; omega
    rw [if_pos hzy, if_pos hzy]
    have M1 := hideIt (MD.out hzy)
    obtain ⟨i0, hi, hz0, hz1, hz2⟩ := info_parts Try.infoU8
    have c1 : Hid (0 + Y.length ≤ maxLen) := by show _ ≤ _; unfold maxLen; omega
    have c2 : Hid ((0 + Y.length) * 1 ≤ 140737488355328) := by show _ ≤ _; omega
    clear x5 p5 hn hx0 hin hpl rx rp hm hz hy hyb hj hY hs ht hzy MD g1 eY hyl hcx
    go_enter Try.func22, Try.ntmps22
    go_wp2_with fail
    refine PL.out.mono ?_
    rintro e w1 ⟨rfl, rfl⟩
    clear PL
    go_wp2_with fail
    refine M1.out.mono ?_
    rintro e w1 ⟨v1, u1, rfl, r1, r2, r3, o1⟩
    have oA : Only (fun _ => False) w1 (w1.alloc (.cells #[] 5)) := (Only.refl _ _).alloc _
    have OW := hideIt (xb_made0 w1)
    have B := hideIt (And.intro (r1.past oA) r2)
    have Z : Hid (w1.heap.size ≤ (w1.alloc (.cells #[] 5)).heap.size) := oA.size
    have O := hideIt (o1.same oA)
    have O1 := hideIt o1.size
    obtain ⟨ao1, cap1, e1'⟩ := r1.len
    subst e1'
    obtain ⟨ao2, cap2, e2', _⟩ := r3.len
    subst e2'
    obtain ⟨l1, hl1⟩ : ∃ l1, l1 = Y.length := ⟨_, rfl⟩
    rw [← hl1] at B ⊢
    generalize (MAD (n + 1) 0 n i x p).2.length = l2
    clear M1 r1 r2 r3 o1 hl1 oA
    go_wp2_with (at_builtin; refine wpList_append_bs _ rfl _ _ 22 rfl w1.heap.size 5 i0 (.int .u8 0) 1 Try.underlying22 hi hz0 hz1 hz2 rfl (.slice (some ⟨w1.heap.size, 0, none⟩) 0 0) 0 (bl []) rfl OW.out .u8 _ Y rfl B.out.1 B.out.2 c1.out c2.out Z.out ?_)
    intro v3 w3 own3 g3 _ _
    have own4 : w3.ownsRow w1.heap.size 5 1 v3 Y.length (bl Y) := by simpa [bl] using own3
    have F : Hid (Bs .u8 w3 v3 Y ∧ NoCap v3 ∧ Only (fun _ => False) w w3) := ⟨own_bs own4, NoCap.of_own own4, O.out.grown g3 (fun k hk e => by simp [Value.ownBlock] at e; have := O1.out; omega)⟩
    obtain ⟨ao3, cap3, e3'⟩ := own_form own4
    subst e3'
    clear own3 own4 g3 B OW c1 c2 Z O O1
    go_wp2
    go_ret2
    exact ⟨_, rfl, F.out⟩
  · have e9 : ((z : Int) != (y : Int)) = true := by simp; omega
    rw [if_neg hzy, if_neg hzy]
    clear x5 p5 hn hx0 hin hpl rx rp hm hz hy hyb hj hY hs ht hzy MD g1 eY hyl hcx
    go_enter Try.func22, Try.ntmps22
    go_wp2_with fail
    refine PL.out.mono ?_
    rintro e w1 ⟨rfl, rfl⟩
    clear PL
    go_wp2
    go_ret2
    exact ⟨_, rfl, Bs.nil _ _, NoCap.nil, Only.refl _ _⟩
theorem rrebuild_any (n i : Int) (vx vp : Value) (x p : List (List Int)) (x5 : R5 x) (p5 : R5 p) (hxl : x.length ≤ 1000000000) (hpl : p.length ≤ 1000000000) (w : World) (rx : RL w vx x) (rp : RL w vp p) :
    Calls Try.prog 22 #[.int .i64 n, .int .i64 i, vx, vp] w fun e w' => ∃ v, e = .returned (.tuple #[v, .int .i64 (RBE n i x p)]) ∧ Bs .u8 w' v (RBT n i x p) ∧ NoCap v ∧ Only (fun _ => False) w w' := by
  by_cases h : RBA n i x
  · obtain ⟨n', rfl⟩ := Int.eq_ofNat_of_zero_le (show 0 ≤ n by have := h.1; omega)
    obtain ⟨i', rfl⟩ := Int.eq_ofNat_of_zero_le h.2.2.2.1
    have A := rrebuild_in n' i' vx vp x p x5 p5 (by have := h.2.1; omega) h.2.2.1 (by have := h.2.2.2.2; omega) hpl w rx rp
    by_cases hz : p.length = MANY n' i' (i' + x.length - 1)
    · rw [if_pos hz, if_pos hz] at A
      obtain ⟨e1, e2⟩ := RBE_ok (p := p) h hz
      rw [e1, e2]; exact A
    · rw [if_neg hz, if_neg hz] at A
      obtain ⟨e1, e2⟩ := RBE_not (p := p) h hz
      rw [e1, e2]; exact A
  · obtain ⟨e1, e2⟩ := RBE_bad (p := p) h
    rw [e1, e2]
    obtain ⟨lx, cx, rfl, _⟩ := rx.len
    obtain ⟨lp, cp, rfl, _⟩ := rp.len
    refine (rrebuild_bad n i lx x.length cx _ hxl h ⟨_, _, _, rfl⟩ w).mono ?_
    rintro e w' ⟨rfl, o⟩
    exact ⟨_, rfl, Bs.nil _ _, NoCap.nil, o⟩
end Go.Proofs.Ytnifflnhbpfmnaa
