/- The document's own Verify; what the statements ask with. -/
import Derived.Test.YtnifflnhbpfmnaaRz20
import Derived.Test.YtnifflnhbpfmnaaRbe
import Derived.Test.YtnifflnhbpfmnaaSame2
namespace Go.Proofs.Ytnifflnhbpfmnaa
open Go.RowKit
set_option linter.unusedVariables false

set_option maxHeartbeats 800000 in
set_option maxRecDepth 100000 in
theorem rverify_any (vr : Value) (r : List Int) (n i : Int) (vx vp : Value) (x p : List (List Int)) (r8 : U8 r) (x5 : R5 x) (p5 : R5 p) (hxl : x.length ≤ 1000000000) (hpl : p.length ≤ 1000000000) (w : World) (hr : Bs .u8 w vr r) (rx : RL w vx x) (rp : RL w vp p) :
    Calls Try.prog 24 #[vr, .int .i64 n, .int .i64 i, vx, vp] w fun e w' => e = .returned (.bool (VRF r n i x p)) ∧ Only (fun _ => False) w w' := by
  have A := hideIt (rrebuild_any n i vx vp x p x5 p5 hxl hpl w rx rp)
  have S := hideIt (fun (v : Value) (W : World) (hb : Bs .u8 W v (RBT n i x p)) (o : Only (fun _ => False) w W) => same_any v vr (RBT n i x p) r W hb (hr.past o) (by have := (RBT_r8 (n := n) (i := i) x5.r8 p5.r8).2; omega))
  unfold VRF
  obtain ⟨D, hD⟩ : ∃ D, D = decide (RBT n i x p = r) := ⟨_, rfl⟩
  rw [← hD] at S ⊢
  obtain ⟨E, hE⟩ : ∃ E, E = RBE n i x p := ⟨_, rfl⟩
  rw [← hE] at A ⊢
  obtain ⟨lx, cx, rfl, _⟩ := rx.len
  obtain ⟨lp, cp, rfl, _⟩ := rp.len
  obtain ⟨ar, cr, rfl⟩ := hr.len
  obtain ⟨n1, h1⟩ : ∃ n1, n1 = x.length := ⟨_, rfl⟩
  obtain ⟨n2, h2⟩ : ∃ n2, n2 = p.length := ⟨_, rfl⟩
  obtain ⟨n3, h3⟩ : ∃ n3, n3 = r.length := ⟨_, rfl⟩
  rw [← h1, ← h2] at A
  rw [← h3] at S
  rw [← h1, ← h2, ← h3]
  clear r8 x5 p5 hxl hpl hr rx rp h1 h2 h3 hD hE
  by_cases hz : E = 0
  · have e1 : (E == 0) = true := beq_iff_eq.2 hz
    have e2 : decide (E = 0) = true := decide_eq_true hz
    rw [e2, Bool.true_and]
    clear e2
    subst hz
    go_enter Try.func24, Try.ntmps24
    go_wp2_with fail
    refine A.out.mono ?_
    rintro e w1 ⟨v1, rfl, r1, r2, o1⟩
    have B := hideIt (S.out v1 w1 r1 o1)
    obtain ⟨ao1, cap1, e1⟩ := r1.len
    have O1 := hideIt o1
    subst e1
    clear A S r1 r2 o1
    go_wp2_with fail
    refine B.out.mono ?_
    rintro e w2 ⟨rfl, o2⟩
    have F := hideIt (O1.out.same o2)
    clear B o2 O1
    go_wp2
    go_ret
    exact ⟨rfl, F.out⟩
  · have e1 : (E == 0) = false := by rw [beq_eq_false_iff_ne]; exact hz
    have e2 : decide (E = 0) = false := decide_eq_false hz
    rw [e2, Bool.false_and]
    clear S e2
    go_enter Try.func24, Try.ntmps24
    go_wp2_with fail
    refine A.out.mono ?_
    rintro e w1 ⟨v1, rfl, r1, r2, o1⟩
    obtain ⟨ao1, cap1, e1⟩ := r1.len
    have O1 := hideIt o1
    subst e1
    clear A r1 r2 o1
    go_wp2
    go_ret
    exact ⟨rfl, O1.out⟩

set_option maxHeartbeats 400000 in
set_option maxRecDepth 100000 in
theorem lsame20_any (va vb : Value) (xs ys : List Int) (w : World) (ha : Bs .u8 w va xs) (hb : Bs .u8 w vb ys) (hl : xs.length ≤ 140737488355328) :
    Calls Try.prog 11 #[va, vb] w fun e w' => e = .returned (.bool (decide (xs = ys))) ∧ Only (fun _ => False) w w' := by
  have A := hideIt (same_any va vb xs ys w ha hb hl)
  obtain ⟨aoa, ca, rfl⟩ := ha.len
  obtain ⟨aob, cb, rfl⟩ := hb.len
  obtain ⟨D, hD⟩ : ∃ D, D = decide (xs = ys) := ⟨_, rfl⟩
  rw [← hD] at A ⊢
  obtain ⟨n1, h1⟩ : ∃ n1, n1 = xs.length := ⟨_, rfl⟩
  obtain ⟨n2, h2⟩ : ∃ n2, n2 = ys.length := ⟨_, rfl⟩
  rw [← h1, ← h2] at A ⊢
  clear ha hb hl hD h1 h2
  go_enter Try.func11, Try.ntmps11
  go_wp2_with fail
  refine A.out.mono ?_
  rintro e w1 ⟨rfl, o1⟩
  have F := hideIt o1
  clear A o1
  go_wp2
  go_ret
  exact ⟨rfl, F.out⟩

theorem ltake_next {xs ys : List (List Int)} {j : Nat} (hx : j < xs.length) (hy : j < ys.length) (h : xs.take j = ys.take j) (e : xs.getD j [] = ys.getD j []) : xs.take (j + 1) = ys.take (j + 1) := by
  rw [List.take_add_one, List.take_add_one, h, List.getElem?_eq_getElem hx, List.getElem?_eq_getElem hy]
  rw [List.getD_eq_getElem?_getD, List.getD_eq_getElem?_getD, List.getElem?_eq_getElem hx, List.getElem?_eq_getElem hy] at e
  simp only [Option.getD_some] at e
  rw [e]
set_option maxHeartbeats 1600000 in
set_option maxRecDepth 100000 in
theorem rsame_any (va vb : Value) (xs ys : List (List Int)) (w : World) (ha : RL w va xs) (hb : RL w vb ys) (h8 : R8 xs) (hl : xs.length ≤ 1000000000) :
    Calls Try.prog 20 #[va, vb] w fun e w' => e = .returned (.bool (decide (xs = ys))) ∧ Only (fun _ => False) w w' := by
  obtain ⟨n, hn⟩ : ∃ n, xs.length = n := ⟨_, rfl⟩
  by_cases hne : ys.length = n
  case neg =>
    have hd : decide (xs = ys) = false := decide_eq_false (fun h => hne (by rw [← h, hn]))
    rw [hd]
    obtain ⟨aoa, ca, rfl, _⟩ := ha.len
    obtain ⟨aob, cb, rfl, _⟩ := hb.len
    obtain ⟨m, hm⟩ : ∃ m, m = ys.length := ⟨_, rfl⟩
    rw [hn, ← hm]
    have e1 : ((n : Int) != (m : Int)) = true := by simp; omega
    clear ha hb h8 hl hn hne hd hm
    go_enter Try.func20, Try.ntmps20
    go_wp2
    go_ret
    exact ⟨rfl, Only.refl _ _⟩
  case pos =>
    have e1 : ((n : Int) != (n : Int)) = false := by simp
    by_cases h0 : n = 0
    · subst h0
      have ex : xs = [] := List.eq_nil_of_length_eq_zero hn
      have ey : ys = [] := List.eq_nil_of_length_eq_zero hne
      subst ex
      subst ey
      obtain ⟨aoa, ca, rfl, _⟩ := ha.len
      obtain ⟨aob, cb, rfl, _⟩ := hb.len
      clear ha hb h8 hl hn hne
      go_enter Try.func20, Try.ntmps20
      go_wp2
      go_loop [5] (fun i => i = .int .i64 0) (fun _ => 0)
      case atStart => rfl
      case round =>
        subst hrel
        go_wp2
        go_ret
        exact ⟨by simp, Only.refl _ _⟩
    · obtain ⟨ba, oa, ca, rfl, hca⟩ := ha.form hn (by omega)
      obtain ⟨bb, ob, cb, rfl, hcb⟩ := hb.form hne (by omega)
      obtain ⟨D, hD⟩ : ∃ D, D = decide (xs = ys) := ⟨_, rfl⟩
      rw [← hD]
      have HD := hideIt hD
      have HA := hideIt ha
      have HB := hideIt hb
      have H8 := hideIt h8
      have HN := hideIt (And.intro hn hne)
      have hnb : n ≤ 1000000000 := by omega
      clear ha hb h8 hn hne hD h0 hca hcb
      go_enter Try.func20, Try.ntmps20
      go_wp2
      go_loopw [5] (fun i wr => ∃ j : Nat, j ≤ n ∧ i = .int .i64 j ∧ Hid (xs.take j = ys.take j) ∧ Hid (Only (fun _ => False) w wr)) (fun i _ => n - (intOf i).toNat)
      case atStart => exact ⟨0, by omega, rfl, rfl, Only.refl _ _⟩
      case round =>
        obtain ⟨j, hj, rfl, hT, hO⟩ := hrel
        by_cases hlt : j < n
        · have dlt : decide ((j : Int) < (n : Int)) = true := decide_eq_true (by omega)
          have dlt' : decide (j < n) = true := decide_eq_true hlt
          obtain ⟨u, hu, hbu, _⟩ := HA.out.at j (by have := HN.out.1; omega)
          obtain ⟨v, hv, hbv, _⟩ := HB.out.at j (by have := HN.out.2; omega)
          have ku := cell_past hu hO.out
          have kv := cell_past hv hO.out
          have SM := hideIt (fun (W : World) (o : Only (fun _ => False) wr W) => same_any u v _ _ W (hbu.past (hO.out.same o)) (hbv.past (hO.out.same o)) (by have := (H8.out.at j).2; omega))
          obtain ⟨E, hE⟩ : ∃ E, E = decide (xs.getD j [] = ys.getD j []) := ⟨_, rfl⟩
          rw [← hE] at SM
          have HE := hideIt hE
          obtain ⟨au, cu, rfl⟩ := hbu.len
          obtain ⟨av, cv, rfl⟩ := hbv.len
          obtain ⟨n1, h1⟩ : ∃ n1, n1 = (xs.getD j []).length := ⟨_, rfl⟩
          obtain ⟨n2, h2⟩ : ∃ n2, n2 = (ys.getD j []).length := ⟨_, rfl⟩
          rw [← h1] at ku
          rw [← h2] at kv
          rw [← h1, ← h2] at SM
          have i0 : (0 : Int) ≤ (j : Int) := by omega
          have i1 : (j : Int) < (n : Int) := by omega
          clear hu hv hbu hbv hE h1 h2
          cases E with
          | true =>
            go_wp2_with fail
            go_region_held3 (fun W => W.cell? ⟨ba, oa + j, none⟩ = some (.slice au n1 cu) ∧ W.cell? ⟨bb, ob + j, none⟩ = some (.slice av n2 cv)) (go_keep) (first | (go_at_call 30; refine (SM.out _ ((Only.refl _ _).drew)).mono ?_; rintro e w1 ⟨rfl, o1⟩; have O1 := hideIt (((Only.refl (fun _ => False) wr).drew).same o1); have k1 := cell_past ku O1.out; have k2 := cell_past kv O1.out; clear o1 SM))
            have N1 : Hid (xs.take (j + 1) = ys.take (j + 1)) := ltake_next (by have := HN.out.1; omega) (by have := HN.out.2; omega) hT.out (of_decide_eq_true HE.out.symm)
            have N2 := hideIt (hO.out.same O1.out)
            clear hT hO O1 ku kv k1 k2 HE
            go_wp2
            go_roundw
            case rel => exact ⟨j + 1, by omega, by go_num, N1, N2⟩
            case measure => simp [intOf]; omega
          | false =>
            go_wp2_with fail
            go_region_held3 (fun W => W.cell? ⟨ba, oa + j, none⟩ = some (.slice au n1 cu) ∧ W.cell? ⟨bb, ob + j, none⟩ = some (.slice av n2 cv)) (go_keep) (first | (go_at_call 30; refine (SM.out _ ((Only.refl _ _).drew)).mono ?_; rintro e w1 ⟨rfl, o1⟩; have O1 := hideIt (((Only.refl (fun _ => False) wr).drew).same o1); have k1 := cell_past ku O1.out; have k2 := cell_past kv O1.out; clear o1 SM))
            have hd : Hid (D = false) := by
              show D = false
              rw [HD.out]
              refine decide_eq_false (fun h => ?_)
              have := HE.out
              rw [h] at this
              simp at this
            have N2 := hideIt (hO.out.same O1.out)
            clear hT hO O1 ku kv k1 k2 HE
            go_wp2
            go_ret
            exact ⟨by rw [hd.out]; rfl, N2.out⟩
        · obtain rfl : j = n := by omega
          have dlt : decide ((j : Int) < (j : Int)) = false := decide_eq_false (by omega)
          have hd : Hid (D = true) := by
            show D = true
            rw [HD.out]
            refine decide_eq_true ?_
            have := hT.out
            rw [List.take_of_length_le (by have := HN.out.1; omega), List.take_of_length_le (by have := HN.out.2; omega)] at this
            exact this
          have N2 := hideIt hO.out
          clear hT hO
          go_wp2
          go_ret
          exact ⟨by rw [hd.out]; rfl, N2.out⟩

/-- few leaves, and short ones -/
def FEW (l : List (List Int)) (n : Nat) : Bool := decide (l.length ≤ n) && l.all (fun x => decide (x.length ≤ 200))
theorem all_take_next {l : List (List Int)} {j : Nat} (hj : j < l.length) (f : List Int → Bool) (h : (l.take j).all f = true) (e : f (l.getD j []) = true) : (l.take (j + 1)).all f = true := by
  rw [List.getD_eq_getElem?_getD, List.getElem?_eq_getElem hj] at e
  simp only [Option.getD_some] at e
  rw [List.take_add_one, List.getElem?_eq_getElem hj, List.all_append, h]
  simp [e]
set_option maxHeartbeats 800000 in
set_option maxRecDepth 100000 in
theorem few_any (v : Value) (l : List (List Int)) (n : Nat) (hn : n ≤ 1000) (w : World) (hr : RL w v l) :
    Calls Try.prog 10 #[v, .int .i64 n] w fun e w' => e = .returned (.bool (FEW l n)) ∧ w = w' := by
  obtain ⟨m, hm⟩ : ∃ m, l.length = m := ⟨_, rfl⟩
  by_cases h1 : n < m
  · have e : FEW l n = false := by unfold FEW; rw [hm, decide_eq_false (by omega), Bool.false_and]
    rw [e]
    obtain ⟨ao, cap, rfl, _⟩ := hr.len
    rw [hm]
    have d1 : decide ((n : Int) < (m : Int)) = true := decide_eq_true (by omega)
    have d1' : decide (n < m) = true := decide_eq_true h1
    clear hr hm e
    go_enter Try.func10, Try.ntmps10
    go_wp2
    go_ret
    exact ⟨rfl, rfl⟩
  · have d1 : decide ((n : Int) < (m : Int)) = false := decide_eq_false (by omega)
    have d1' : decide (n < m) = false := decide_eq_false h1
    obtain ⟨E, hE⟩ : ∃ E, E = FEW l n := ⟨_, rfl⟩
    rw [← hE]
    unfold FEW at hE
    rw [hm, decide_eq_true (show m ≤ n by omega), Bool.true_and] at hE
    have HE := hideIt hE
    by_cases h0 : m = 0
    · subst h0
      obtain ⟨ao, cap, rfl, _⟩ := hr.len
      have ex : l = [] := List.eq_nil_of_length_eq_zero hm
      subst ex
      clear hr hm hE
      go_enter Try.func10, Try.ntmps10
      go_wp2
      go_loop [5] (fun i => i = .int .i64 0) (fun _ => 0)
      case atStart => rfl
      case round =>
        subst hrel
        go_wp2
        go_ret
        exact ⟨by rw [HE.out]; rfl, rfl⟩
    · obtain ⟨b, off, cap, rfl, hcap⟩ := hr.form hm (by omega)
      have HR := hideIt hr
      have HM := hideIt hm
      clear hr hm hE h0 hcap
      go_enter Try.func10, Try.ntmps10
      go_wp2
      go_loop [5] (fun i => ∃ j : Nat, j ≤ m ∧ i = .int .i64 j ∧ Hid ((l.take j).all (fun x => decide (x.length ≤ 200)) = true)) (fun i => m - (intOf i).toNat)
      case atStart => exact ⟨0, by omega, rfl, rfl⟩
      case round =>
        obtain ⟨j, hj, rfl, hT⟩ := hrel
        by_cases hlt : j < m
        · have dlt : decide ((j : Int) < (m : Int)) = true := decide_eq_true (by omega)
          have dlt' : decide (j < m) = true := decide_eq_true hlt
          obtain ⟨u, hu, hbu, _⟩ := HR.out.at j (by have := HM.out; omega)
          obtain ⟨au, cu, rfl⟩ := hbu.len
          obtain ⟨z, hz⟩ : ∃ z, z = (l.getD j []).length := ⟨_, rfl⟩
          rw [← hz] at hu
          have HZ := hideIt hz
          have i0 : (0 : Int) ≤ (j : Int) := by omega
          have i1 : (j : Int) < (m : Int) := by omega
          clear hbu hz
          by_cases hs : 200 < z
          · have d2 : decide ((200 : Int) < (z : Int)) = true := decide_eq_true (by omega)
            have hd : Hid (E = false) := by
              show E = false
              rw [HE.out, List.all_eq_false]
              refine ⟨l.getD j [], ?_, ?_⟩
              · have hjl : j < l.length := by have := HM.out; omega
                rw [List.getD_eq_getElem?_getD, List.getElem?_eq_getElem hjl]
                exact List.getElem_mem hjl
              · rw [← HZ.out]; simp; omega
            clear hT HZ
            go_wp2
            go_ret
            exact ⟨by rw [hd.out]; rfl, rfl⟩
          · have d2 : decide ((200 : Int) < (z : Int)) = false := decide_eq_false (by omega)
            have N1 : Hid ((l.take (j + 1)).all (fun x => decide (x.length ≤ 200)) = true) := all_take_next (by have := HM.out; omega) _ hT.out (decide_eq_true (by have := HZ.out; omega))
            clear hT HZ
            go_wp2
            go_round
            case rel => exact ⟨j + 1, by omega, by go_num, N1⟩
            case measure => simp [intOf]; omega
        · obtain rfl : j = m := by omega
          have dlt : decide ((j : Int) < (j : Int)) = false := decide_eq_false (by omega)
          have hd : Hid (E = true) := by
            show E = true
            rw [HE.out]
            have := hT.out
            rw [List.take_of_length_le (by have := HM.out; omega)] at this
            exact this
          clear hT
          go_wp2
          go_ret
          exact ⟨by rw [hd.out]; rfl, rfl⟩
theorem FEW_r5 {l : List (List Int)} {n : Nat} (h : FEW l n = true) (h8 : ∀ x ∈ l, U8 x) : l.length ≤ n ∧ R5 l ∧ ∀ x ∈ l, x.length ≤ 200 := by
  unfold FEW at h
  rw [Bool.and_eq_true, decide_eq_true_iff, List.all_eq_true] at h
  refine ⟨h.1, fun x hx => ⟨h8 x hx, ?_⟩, fun x hx => of_decide_eq_true (h.2 x hx)⟩
  have := of_decide_eq_true (h.2 x hx)
  omega
end Go.Proofs.Ytnifflnhbpfmnaa
