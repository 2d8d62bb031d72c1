/- Rebuild and Verify, whole. -/
import Derived.Test.YtnifflnhbpfmnaaRbd
namespace Go.Proofs.Ytnifflnhbpfmnaa
open Go.RowKit
set_option linter.unusedVariables false

/-- three boxes -/
theorem box3 (w : World) (a b c : Value) (ta tb tc : TypeId) :
    Blk (((w.alloc (.cells #[a] ta)).alloc (.cells #[b] tb)).alloc (.cells #[c] tc)) w.heap.size ta [a]
    ∧ Blk (((w.alloc (.cells #[a] ta)).alloc (.cells #[b] tb)).alloc (.cells #[c] tc)) (w.heap.size + 1) tb [b]
    ∧ Blk (((w.alloc (.cells #[a] ta)).alloc (.cells #[b] tb)).alloc (.cells #[c] tc)) (w.heap.size + 1 + 1) tc [c]
    ∧ Only (fun _ => False) w (((w.alloc (.cells #[a] ta)).alloc (.cells #[b] tb)).alloc (.cells #[c] tc)) := by
  refine ⟨((Blk.new w ta [a]).alloc _).alloc _, (Blk.newAt (size_alloc _ _) tb [b]).alloc _, Blk.newAt (by rw [size_alloc, size_alloc]) tc [c], (((Only.refl _ _).alloc _).alloc _).alloc _⟩

set_option maxHeartbeats 1600000 in
set_option maxRecDepth 100000 in
theorem rebuild_in (n i : Nat) (vx vp : Value) (x p : List (List Int)) (x8 : R8 x) (p8 : R8 p) (hn : n ≤ 1048576) (hx0 : 0 < x.length) (hin : i + x.length ≤ n) (hpl : p.length ≤ 1000000000) (w : World) (rx : RL w vx x) (rp : RL w vp p) :
    Calls Try.prog 21 #[.int .i64 n, .int .i64 i, vx, vp] w fun e w' => ∃ v, e = .returned (.tuple #[v, .int .i64 (if p.length = MANY n i (i + x.length - 1) then 0 else 8)]) ∧ Bs .u8 w' v (if p.length = MANY n i (i + x.length - 1) then MADE n i x p else []) ∧ NoCap v ∧ Only (fun _ => False) w w' := by
  obtain ⟨B0, B1, B2, O0⟩ := box3 w (.int .i64 (i : Int)) vx vp 3 23 23
  obtain ⟨j, hj⟩ : ∃ j, j = i + x.length - 1 := ⟨_, rfl⟩
  rw [← hj]
  have W3 := hideIt (fun (W : World) (o : Only (fun _ => False) (((w.alloc (.cells #[.int .i64 (i : Int)] 3)).alloc (.cells #[vx] 23)).alloc (.cells #[vp] 23)) W) (hp : p.length = MANY n i j) =>
    walkb_any n i j (w.heap.size + 1) w.heap.size W.heap.size (w.heap.size + 1 + 1) vx vp x p (((w.alloc (.cells #[.int .i64 (i : Int)] 3)).alloc (.cells #[vx] 23)).alloc (.cells #[vp] 23)) (W.alloc (.cells #[.int .i64 0] 3)) x8 p8 (by omega) hx0 hin hj hp (rx.past O0) (rp.past O0) (B1.cell 0) (B0.cell 0) (B2.cell 0) o.size (o.alloc _) (Blk.new W 3 [.int .i64 0]))
  have C0 : Hid (∀ W, Only (fun _ => False) (((w.alloc (.cells #[.int .i64 (i : Int)] 3)).alloc (.cells #[vx] 23)).alloc (.cells #[vp] 23)) W → W.cell? ⟨w.heap.size, 0, none⟩ = some (.int .i64 (i : Int))) := fun W o => (B0.past o).cell 0
  have C2 : Hid (∀ W, Only (fun _ => False) (((w.alloc (.cells #[.int .i64 (i : Int)] 3)).alloc (.cells #[vx] 23)).alloc (.cells #[vp] 23)) W → W.cell? ⟨w.heap.size + 1 + 1, 0, none⟩ = some vp) := fun W o => (B2.past o).cell 0
  have PL := hideIt (fun (W : World) => proofLength_any n i j (by omega) (by omega) (by omega) W)
  obtain ⟨m, hm⟩ : ∃ m, m = x.length := ⟨_, rfl⟩
  obtain ⟨lx, cx, hvx, _⟩ := rx.len
  obtain ⟨lp, cp, hvp, _⟩ := rp.len
  obtain ⟨z, hz⟩ : ∃ z, z = p.length := ⟨_, rfl⟩
  obtain ⟨y, hy⟩ : ∃ y, y = MANY n i j := ⟨_, rfl⟩
  have hyb : y ≤ n := by rw [hy]; exact MNY_size (n + 1) 0 n i j (by omega)
  rw [← hz, ← hy] at W3
  rw [← hy] at PL
  rw [← hz, ← hy]
  rw [← hm] at hvx hx0 hin hj
  rw [← hz] at hvp hpl
  subst hvx
  subst hvp
  obtain ⟨Y, hY⟩ : ∃ Y, Y = MADE n i x p := ⟨_, rfl⟩
  rw [← hY] at W3 ⊢
  have HO := hideIt O0
  have d1 : decide ((n : Int) < 1) = false := decide_eq_false (by omega)
  have d2 : decide ((1048576 : Int) < (n : Int)) = false := decide_eq_false (by omega)
  have d3 : ((m : Int) == 0) = false := by rw [beq_eq_false_iff_ne]; omega
  have d4 : decide ((i : Int) < 0) = false := decide_eq_false (by omega)
  obtain ⟨s, hs⟩ : ∃ s, s = n - m := ⟨_, rfl⟩
  have e1 : (n : Int) - (m : Int) = (s : Int) := by omega
  have d5 : decide ((s : Int) < (i : Int)) = false := decide_eq_false (by omega)
  have d5' : decide (s < i) = false := decide_eq_false (by omega)
  obtain ⟨t, ht⟩ : ∃ t, t = i + m := ⟨_, rfl⟩
  have e2 : (i : Int) + (m : Int) = (t : Int) := by omega
  have e3 : (t : Int) - 1 = (j : Int) := by omega
  have b1 : (s : Int) ≤ 1048576 := by omega
  have b2 : (t : Int) ≤ 1048576 := by omega
  have b3 : (j : Int) ≤ 1048576 := by omega
  have w1 : IntKind.i64.wrap (s : Int) = (s : Int) := by rw [IntKind.wrap_i64]; omega
  have k0 := C0.out _ (Only.refl _ _)
  have k2 := C2.out _ (Only.refl _ _)
  by_cases hzy : z = y
  · have e9 : ((z : Int) != (y : Int)) = false := by simp; omega
    rw [if_pos hzy, if_pos hzy]
    have W4 := hideIt (fun (W : World) (o : Only (fun _ => False) (((w.alloc (.cells #[.int .i64 (i : Int)] 3)).alloc (.cells #[.slice lx m cx] 23)).alloc (.cells #[.slice lp z cp] 23)) W) => W3.out W o hzy)
    clear x8 p8 hn hx0 hin hpl rx rp B0 B1 B2 O0 hm hz hy hyb hj hY hs ht hzy W3
    go_enter Try.func21, Try.ntmps21
    go_wp2_with fail
    go_region_held3 (fun W => W.cell? ⟨w.heap.size, 0, none⟩ = some (.int .i64 (i : Int)) ∧ W.cell? ⟨w.heap.size + 1 + 1, 0, none⟩ = some (.slice lp z cp)) (go_keep) (first | (go_at_call 40; refine (PL.out _).mono ?_; rintro e w4 ⟨rfl, o4⟩; have O4 := hideIt (((Only.refl (fun _ => False) _).drew).same o4); have k0' := C0.out _ O4.out; have k2' := C2.out _ O4.out; clear o4 PL))
    have k9 := C0.out (w4.alloc (.cells #[.int .i64 0] 3)) (O4.out.alloc _)
    clear k0 k2
    go_wp2_with fail
    refine (W4.out w4 O4.out).mono ?_
    rintro e w5 ⟨v5, rfl, r1, r2, o5⟩
    have F : Hid (Bs .u8 w5 v5 Y ∧ NoCap v5 ∧ Only (fun _ => False) w w5) := ⟨r1, r2, (((HO.out.same O4.out).alloc _)).trans o5 (fun i hi e => by have := HO.out.size; have := O4.out.size; omega)⟩
    obtain ⟨ao5, cap5, e5⟩ := r1.len
    subst e5
    clear r1 r2 o5 W4 O4 HO C0 C2 k0' k2' k9
    go_wp2
    go_ret2
    exact ⟨_, rfl, F.out⟩
  · have e9 : ((z : Int) != (y : Int)) = true := by simp; omega
    rw [if_neg hzy, if_neg hzy]
    clear x8 p8 hn hx0 hin hpl rx rp B0 B1 B2 O0 hm hz hy hyb hj hY hs ht hzy W3
    go_enter Try.func21, Try.ntmps21
    go_wp2_with fail
    go_region_held3 (fun W => W.cell? ⟨w.heap.size, 0, none⟩ = some (.int .i64 (i : Int)) ∧ W.cell? ⟨w.heap.size + 1 + 1, 0, none⟩ = some (.slice lp z cp)) (go_keep) (first | (go_at_call 40; refine (PL.out _).mono ?_; rintro e w4 ⟨rfl, o4⟩; have O4 := hideIt (((Only.refl (fun _ => False) _).drew).same o4); have k0' := C0.out _ O4.out; have k2' := C2.out _ O4.out; clear o4 PL))
    have F := hideIt (HO.out.same O4.out)
    go_wp2
    go_ret2
    exact ⟨_, rfl, Bs.nil _ _, NoCap.nil, F.out⟩

theorem rebuild_any (n i : Int) (vx vp : Value) (x p : List (List Int)) (x8 : R8 x) (p8 : R8 p) (hxl : x.length ≤ 1000000000) (hpl : p.length ≤ 1000000000) (w : World) (rx : RL w vx x) (rp : RL w vp p) :
    Calls Try.prog 21 #[.int .i64 n, .int .i64 i, vx, vp] w fun e w' => ∃ v, e = .returned (.tuple #[v, .int .i64 (RBE n i x p)]) ∧ Bs .u8 w' v (RBT n i x p) ∧ NoCap v ∧ Only (fun _ => False) w w' := by
  by_cases h : RBA n i x
  · obtain ⟨n', rfl⟩ := Int.eq_ofNat_of_zero_le (show 0 ≤ n by have := h.1; omega)
    obtain ⟨i', rfl⟩ := Int.eq_ofNat_of_zero_le h.2.2.2.1
    have A := rebuild_in n' i' vx vp x p x8 p8 (by have := h.2.1; omega) h.2.2.1 (by have := h.2.2.2.2; omega) hpl w rx rp
    by_cases hz : p.length = MANY n' i' (i' + x.length - 1)
    · rw [if_pos hz, if_pos hz] at A
      obtain ⟨e1, e2⟩ := RBE_ok (p := p) h hz
      rw [e1, e2]; exact A
    · rw [if_neg hz, if_neg hz] at A
      obtain ⟨e1, e2⟩ := RBE_not (p := p) h hz
      rw [e1, e2]; exact A
  · obtain ⟨e1, e2⟩ := RBE_bad (p := p) h
    rw [e1, e2]
    obtain ⟨lx, cx, rfl, _⟩ := rx.len
    obtain ⟨lp, cp, rfl, _⟩ := rp.len
    by_cases h1 : n < 1 ∨ 1048576 < n ∨ x.length = 0
    · refine (rebuild_bad1 n i lx x.length cx _ h1 ⟨_, _, _, rfl⟩ w).mono ?_
      rintro e w' ⟨rfl, o⟩
      exact ⟨_, rfl, Bs.nil _ _, NoCap.nil, o⟩
    · refine (rebuild_bad2 n i lx x.length cx _ (by omega) (by omega) (by omega) hxl (by unfold RBA at h; omega) ⟨_, _, _, rfl⟩ w).mono ?_
      rintro e w' ⟨rfl, o⟩
      exact ⟨_, rfl, Bs.nil _ _, NoCap.nil, o⟩

/-- is this the root? -/
def VRF (r : List Int) (n i : Int) (x p : List (List Int)) : Bool := decide (RBE n i x p = 0) && decide (RBT n i x p = r)
set_option maxHeartbeats 800000 in
set_option maxRecDepth 100000 in
theorem verify_any (vr : Value) (r : List Int) (n i : Int) (vx vp : Value) (x p : List (List Int)) (r8 : U8 r) (x8 : R8 x) (p8 : R8 p) (hxl : x.length ≤ 1000000000) (hpl : p.length ≤ 1000000000) (w : World) (hr : Bs .u8 w vr r) (rx : RL w vx x) (rp : RL w vp p) :
    Calls Try.prog 23 #[vr, .int .i64 n, .int .i64 i, vx, vp] w fun e w' => e = .returned (.bool (VRF r n i x p)) ∧ Only (fun _ => False) w w' := by
  have A := hideIt (rebuild_any n i vx vp x p x8 p8 hxl hpl w rx rp)
  have S := hideIt (fun (v : Value) (W : World) (hb : Bs .u8 W v (RBT n i x p)) (o : Only (fun _ => False) w W) => hsame_any v vr (RBT n i x p) r W hb (hr.past o) (RBT_r8 x8 p8).1 r8 (by have := (RBT_r8 (n := n) (i := i) x8 p8).2; omega))
  unfold VRF
  obtain ⟨D, hD⟩ : ∃ D, D = decide (RBT n i x p = r) := ⟨_, rfl⟩
  rw [← hD] at S ⊢
  obtain ⟨E, hE⟩ : ∃ E, E = RBE n i x p := ⟨_, rfl⟩
  rw [← hE] at A ⊢
  obtain ⟨lx, cx, rfl, _⟩ := rx.len
  obtain ⟨lp, cp, rfl, _⟩ := rp.len
  obtain ⟨ar, cr, rfl⟩ := hr.len
  obtain ⟨n1, h1⟩ : ∃ n1, n1 = x.length := ⟨_, rfl⟩
  obtain ⟨n2, h2⟩ : ∃ n2, n2 = p.length := ⟨_, rfl⟩
  obtain ⟨n3, h3⟩ : ∃ n3, n3 = r.length := ⟨_, rfl⟩
  rw [← h1, ← h2] at A
  rw [← h3] at S
  rw [← h1, ← h2, ← h3]
  clear r8 x8 p8 hxl hpl hr rx rp h1 h2 h3 hD hE
  by_cases hz : E = 0
  · have e1 : (E == 0) = true := beq_iff_eq.2 hz
    have e2 : decide (E = 0) = true := decide_eq_true hz
    rw [e2, Bool.true_and]
    clear e2
    subst hz
    go_enter Try.func23, Try.ntmps23
    go_wp2_with fail
    refine A.out.mono ?_
    rintro e w1 ⟨v1, rfl, r1, r2, o1⟩
    have B := hideIt (S.out v1 w1 r1 o1)
    obtain ⟨ao1, cap1, e1⟩ := r1.len
    have O1 := hideIt o1
    subst e1
    clear A S r1 r2 o1
    go_wp2_with fail
    refine B.out.mono ?_
    rintro e w2 ⟨rfl, o2⟩
    have F := hideIt (O1.out.same o2)
    clear B o2 O1
    go_wp2
    go_ret
    exact ⟨rfl, F.out⟩
  · have e1 : (E == 0) = false := by rw [beq_eq_false_iff_ne]; exact hz
    have e2 : decide (E = 0) = false := decide_eq_false hz
    rw [e2, Bool.false_and]
    clear S e2
    go_enter Try.func23, Try.ntmps23
    go_wp2_with fail
    refine A.out.mono ?_
    rintro e w1 ⟨v1, rfl, r1, r2, o1⟩
    obtain ⟨ao1, cap1, e1⟩ := r1.len
    have O1 := hideIt o1
    subst e1
    clear A r1 r2 o1
    go_wp2
    go_ret
    exact ⟨rfl, O1.out⟩
end Go.Proofs.Ytnifflnhbpfmnaa
