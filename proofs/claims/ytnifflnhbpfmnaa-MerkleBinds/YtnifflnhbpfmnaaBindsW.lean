/- The walk of MerkleBinds. -/
import Derived.Test.YtnifflnhbpfmnaaCl
import Derived.Test.YtnifflnhbpfmnaaAw20
namespace Go.Proofs.Ytnifflnhbpfmnaa
open Go.RowKit
set_option linter.unusedVariables false

theorem RL.vs {w : World} {v : Value} {ls : List (List Int)} (h : RL w v ls) (nc : NoCap v) : ∃ vs, VS w v vs ∧ vs.length = ls.length ∧ ∀ j u, vs[j]? = some u → Bs .u8 w u (ls.getD j []) ∧ NoCap u := by
  obtain ⟨ao, cap, rfl, hc, hr⟩ := h
  by_cases h0 : ls = []
  · subst h0
    exact ⟨[], ⟨ao, cap, rfl, nc, by simp, fun _ => rfl, fun ad _ j y hy => by simp at hy⟩, rfl, fun j u hu => by simp at hu⟩
  · obtain ⟨b, off, rfl, hcell⟩ := hr h0
    refine ⟨(List.range ls.length).map (fun j => (w.cell? ⟨b, off + j, none⟩).getD undef), ⟨some ⟨b, off, none⟩, cap, by simp, nc, ?_, (fun e => by cases e), ?_⟩, by simp, ?_⟩
    · intro y hy
      simp only [List.mem_map, List.mem_range] at hy
      obtain ⟨j, hj, rfl⟩ := hy
      obtain ⟨u, h1, h2, _⟩ := hcell j hj
      obtain ⟨ao', c', rfl⟩ := h2.len
      rw [h1]; rfl
    · intro ad had j y hy
      cases had
      have hj : j < ls.length := by
        have := (List.getElem?_eq_some_iff.1 hy).1
        simpa using this
      obtain ⟨u, h1, h2, _⟩ := hcell j hj
      rw [Go.WideShapes.add_plain, h1, ← hy]
      simp [hj, h1]
    · intro j u hu
      have hj : j < ls.length := by
        have := (List.getElem?_eq_some_iff.1 hu).1
        simpa using this
      obtain ⟨u', h1, h2, h3⟩ := hcell j hj
      simp [hj, h1] at hu
      subst hu
      exact ⟨h2, h3⟩
theorem vs_app {w : World} {vs us : List Value} {ls ms : List (List Int)} (hl : vs.length = ls.length) (h : ∀ j u, vs[j]? = some u → Bs .u8 w u (ls.getD j []) ∧ NoCap u) (k : ∀ j u, us[j]? = some u → Bs .u8 w u (ms.getD j []) ∧ NoCap u) :
    ∀ j u, (vs ++ us)[j]? = some u → Bs .u8 w u ((ls ++ ms).getD j []) ∧ NoCap u := fun j u hu => by
  by_cases hj : j < vs.length
  · rw [List.getElem?_append_left hj] at hu
    rw [List.getD_eq_getElem?_getD, List.getElem?_append_left (by omega), ← List.getD_eq_getElem?_getD]
    exact h j u hu
  · rw [List.getElem?_append_right (by omega)] at hu
    rw [List.getD_eq_getElem?_getD, List.getElem?_append_right (by omega), ← List.getD_eq_getElem?_getD, ← hl]
    exact k _ u hu
theorem vs_past {w w' : World} {vs : List Value} {ls : List (List Int)} (h : ∀ j u, vs[j]? = some u → Bs .u8 w u (ls.getD j []) ∧ NoCap u) (o : Only (fun _ => False) w w') : ∀ j u, vs[j]? = some u → Bs .u8 w' u (ls.getD j []) ∧ NoCap u := fun j u hu => ⟨(h j u hu).1.past o, (h j u hu).2⟩
theorem RBE_zero {n i : Int} {x p : List (List Int)} (h : RBE n i x p = 0) : RBA n i x ∧ p.length = MANY n.toNat i.toNat (i.toNat + x.length - 1) ∧ RBT n i x p = MADE n.toNat i.toNat x p := by
  by_cases h1 : RBA n i x
  · by_cases h2 : p.length = MANY n.toNat i.toNat (i.toNat + x.length - 1)
    · exact ⟨h1, h2, (RBE_ok h1 h2).2⟩
    · rw [(RBE_not h1 h2).1] at h; cases h
  · rw [(RBE_bad h1).1] at h; cases h
theorem CLS_r5 : ∀ (f lo hi i : Nat) (x y p q : List (List Int)) (k : Nat) (c : List Int × List Int), R5 x → R5 y → R5 p → R5 q → x.length = y.length → (CLS f lo hi i x y p q k).1 = some c → (U8 c.1 ∧ c.1.length ≤ 200001) ∧ (U8 c.2 ∧ c.2.length ≤ 200001)
  | 0, _, _, _, _, _, _, _, _, _, _, _, _, _, _, h => by cases h
  | f + 1, lo, hi, i, x, y, p, q, k, c, hx, hy, hp, hq, hl, h => by
    by_cases h1 : i + x.length ≤ lo ∨ hi ≤ i
    · rw [CLS, if_pos h1] at h; cases h
    · by_cases h2 : hi - lo = 1
      · rw [CLS, if_neg h1, if_pos h2] at h; cases h
      · obtain ⟨L, hL⟩ : ∃ L, L = CLS f lo (lo + HALF (hi - lo)) i x y p q k := ⟨_, rfl⟩
        obtain ⟨R, hR⟩ : ∃ R, R = CLS f (lo + HALF (hi - lo)) hi i x y p q L.2.2.2 := ⟨_, rfl⟩
        rw [CLS_step h1 h2 hL hR] at h
        have tL := CLS_tops f lo (lo + HALF (hi - lo)) i x y p q k hl
        have tR := CLS_tops f (lo + HALF (hi - lo)) hi i x y p q L.2.2.2 hl
        have gA1 := MAD_r5 f lo (lo + HALF (hi - lo)) i x (p.drop k) hx (hp.drop _)
        have gA2 := MAD_r5 f lo (lo + HALF (hi - lo)) i y (q.drop k) hy (hq.drop _)
        have gE1 := MAD_r5 f (lo + HALF (hi - lo)) hi i x (p.drop L.2.2.2) hx (hp.drop _)
        have gE2 := MAD_r5 f (lo + HALF (hi - lo)) hi i y (q.drop L.2.2.2) hy (hq.drop _)
        rw [← tL.1, ← hL] at gA1
        rw [← tL.2.1, ← hL] at gA2
        rw [← tR.1, ← hR] at gE1
        rw [← tR.2.1, ← hR] at gE2
        simp only at h
        cases h3 : L.1 with
        | some c' =>
          rw [h3] at h
          simp only [OR2, CL2] at h
          cases h
          exact CLS_r5 f _ _ _ x y p q _ _ hx hy hp hq hl (by rw [← hL]; exact h3)
        | none =>
          rw [h3] at h
          cases h4 : R.1 with
          | some c' =>
            rw [h4] at h
            simp only [OR2, CL2] at h
            cases h
            exact CLS_r5 f _ _ _ x y p q _ _ hx hy hp hq hl (by rw [← hR]; exact h4)
          | none =>
            rw [h4] at h
            simp only [OR2, CL2] at h
            split at h
            · cases h
              have one : ∀ a b : List Int, (U8 a ∧ a.length ≤ 100000) → (U8 b ∧ b.length ≤ 100000) → U8 (1 :: (a ++ b)) ∧ (1 :: (a ++ b) : List Int).length ≤ 200001 := fun a b ha hb => ⟨fun y hy => by
                rcases List.mem_cons.1 hy with rfl | hm
                · decide
                · exact (ha.1.app hb.1) y hm, by rw [List.length_cons, List.length_append]; omega⟩
              exact ⟨one _ _ gA1 gE1, one _ _ gA2 gE2⟩
            · cases h
theorem A32.app {a b : List (List Int)} (h : A32 (a ++ b)) : A32 a ∧ A32 b := ⟨fun x hx => h x (List.mem_append_left _ hx), fun x hx => h x (List.mem_append_right _ hx)⟩

set_option maxHeartbeats 6400000 in
set_option maxRecDepth 100000 in
theorem binds_walk (n i : Int) (vx vy vp vq : Value) (x y p q : List (List Int)) (w : World) (rx : RL w vx x) (nx : NoCap vx) (x8 : ∀ l ∈ x, U8 l) (ry : RL w vy y) (ny : NoCap vy) (y8 : ∀ l ∈ y, U8 l) (rp : RL w vp p) (np : NoCap vp) (p8 : ∀ l ∈ p, U8 l) (rq : RL w vq q) (nq : NoCap vq) (q8 : ∀ l ∈ q, U8 l) :
    Calls Try.prog 7 #[.int .i64 n, .int .i64 i, vx, vy, vp, vq] w fun e w' => e = .returned (.bool true) ∧ Below w.heap.size w w' := by
  have A := hideIt (awake_any w)
  have FX := hideIt (fun (W : World) (o : Only (fun _ => False) w W) => few_any vx x 40 (by decide) W (rx.past o))
  have FY := hideIt (fun (W : World) (o : Only (fun _ => False) w W) => few_any vy y 40 (by decide) W (ry.past o))
  have FP := hideIt (fun (W : World) (o : Only (fun _ => False) w W) => few_any vp p 60 (by decide) W (rp.past o))
  have FQ := hideIt (fun (W : World) (o : Only (fun _ => False) w W) => few_any vq q 60 (by decide) W (rq.past o))
  rw [show ((40 : Nat) : Int) = 40 from rfl] at FX FY
  rw [show ((60 : Nat) : Int) = 60 from rfl] at FP FQ
  obtain ⟨DX, hDX⟩ : ∃ D, D = FEW x 40 := ⟨_, rfl⟩
  obtain ⟨DY, hDY⟩ : ∃ D, D = FEW y 40 := ⟨_, rfl⟩
  obtain ⟨DP, hDP⟩ : ∃ D, D = FEW p 60 := ⟨_, rfl⟩
  obtain ⟨DQ, hDQ⟩ : ∃ D, D = FEW q 60 := ⟨_, rfl⟩
  rw [← hDX] at FX
  rw [← hDY] at FY
  rw [← hDP] at FP
  rw [← hDQ] at FQ
  obtain ⟨aox, cx, evx, _⟩ := rx.len
  obtain ⟨aoy, cy, evy, _⟩ := ry.len
  obtain ⟨aop, cp, evp, _⟩ := rp.len
  obtain ⟨aoq, cq, evq, _⟩ := rq.len
  obtain ⟨mx, hmx⟩ : ∃ m, m = x.length := ⟨_, rfl⟩
  obtain ⟨my, hmy⟩ : ∃ m, m = y.length := ⟨_, rfl⟩
  obtain ⟨mp, hmp⟩ : ∃ m, m = p.length := ⟨_, rfl⟩
  obtain ⟨mq, hmq⟩ : ∃ m, m = q.length := ⟨_, rfl⟩
  cases DX with
  | false =>
    subst evx
    subst evy
    subst evp
    subst evq
    rw [← hmx] at FX
    rw [← hmy] at FY
    rw [← hmp] at FP
    rw [← hmq] at FQ
    rw [← hmx, ← hmy, ← hmp, ← hmq]
    clear rx nx x8 ry ny y8 rp np p8 rq nq q8 hDX hDY hDP hDQ hmx hmy hmp hmq
    go_enter Try.func7, Try.ntmps7
    go_wp2_with fail
    refine A.out.mono ?_
    rintro e w1 ⟨rfl, o1⟩
    have F := hideIt (o1.low (Nat.le_refl _))
    have G0 := hideIt (FX.out w1 o1)
    clear o1 A FX FY FP FQ
    go_wp2_with fail
    refine G0.out.mono ?_
    rintro e w2 ⟨rfl, rfl⟩
    clear G0
    go_wp2
    go_ret
    exact ⟨rfl, F.out⟩
  | true =>
  cases DY with
  | false =>
    subst evx
    subst evy
    subst evp
    subst evq
    rw [← hmx] at FX
    rw [← hmy] at FY
    rw [← hmp] at FP
    rw [← hmq] at FQ
    rw [← hmx, ← hmy, ← hmp, ← hmq]
    clear rx nx x8 ry ny y8 rp np p8 rq nq q8 hDX hDY hDP hDQ hmx hmy hmp hmq
    go_enter Try.func7, Try.ntmps7
    go_wp2_with fail
    refine A.out.mono ?_
    rintro e w1 ⟨rfl, o1⟩
    have F := hideIt (o1.low (Nat.le_refl _))
    have G0 := hideIt (FX.out w1 o1)
    have G1 := hideIt (FY.out w1 o1)
    clear o1 A FX FY FP FQ
    go_wp2_with fail
    refine G0.out.mono ?_
    rintro e w2 ⟨rfl, rfl⟩
    clear G0
    go_wp2_with fail
    refine G1.out.mono ?_
    rintro e w2 ⟨rfl, rfl⟩
    clear G1
    go_wp2
    go_ret
    exact ⟨rfl, F.out⟩
  | true =>
  cases DP with
  | false =>
    subst evx
    subst evy
    subst evp
    subst evq
    rw [← hmx] at FX
    rw [← hmy] at FY
    rw [← hmp] at FP
    rw [← hmq] at FQ
    rw [← hmx, ← hmy, ← hmp, ← hmq]
    clear rx nx x8 ry ny y8 rp np p8 rq nq q8 hDX hDY hDP hDQ hmx hmy hmp hmq
    go_enter Try.func7, Try.ntmps7
    go_wp2_with fail
    refine A.out.mono ?_
    rintro e w1 ⟨rfl, o1⟩
    have F := hideIt (o1.low (Nat.le_refl _))
    have G0 := hideIt (FX.out w1 o1)
    have G1 := hideIt (FY.out w1 o1)
    have G2 := hideIt (FP.out w1 o1)
    clear o1 A FX FY FP FQ
    go_wp2_with fail
    refine G0.out.mono ?_
    rintro e w2 ⟨rfl, rfl⟩
    clear G0
    go_wp2_with fail
    refine G1.out.mono ?_
    rintro e w2 ⟨rfl, rfl⟩
    clear G1
    go_wp2_with fail
    refine G2.out.mono ?_
    rintro e w2 ⟨rfl, rfl⟩
    clear G2
    go_wp2
    go_ret
    exact ⟨rfl, F.out⟩
  | true =>
  cases DQ with
  | false =>
    subst evx
    subst evy
    subst evp
    subst evq
    rw [← hmx] at FX
    rw [← hmy] at FY
    rw [← hmp] at FP
    rw [← hmq] at FQ
    rw [← hmx, ← hmy, ← hmp, ← hmq]
    clear rx nx x8 ry ny y8 rp np p8 rq nq q8 hDX hDY hDP hDQ hmx hmy hmp hmq
    go_enter Try.func7, Try.ntmps7
    go_wp2_with fail
    refine A.out.mono ?_
    rintro e w1 ⟨rfl, o1⟩
    have F := hideIt (o1.low (Nat.le_refl _))
    have G0 := hideIt (FX.out w1 o1)
    have G1 := hideIt (FY.out w1 o1)
    have G2 := hideIt (FP.out w1 o1)
    have G3 := hideIt (FQ.out w1 o1)
    clear o1 A FX FY FP FQ
    go_wp2_with fail
    refine G0.out.mono ?_
    rintro e w2 ⟨rfl, rfl⟩
    clear G0
    go_wp2_with fail
    refine G1.out.mono ?_
    rintro e w2 ⟨rfl, rfl⟩
    clear G1
    go_wp2_with fail
    refine G2.out.mono ?_
    rintro e w2 ⟨rfl, rfl⟩
    clear G2
    go_wp2_with fail
    refine G3.out.mono ?_
    rintro e w2 ⟨rfl, rfl⟩
    clear G3
    go_wp2
    go_ret
    exact ⟨rfl, F.out⟩
  | true =>
  by_cases hxy : mx = my
  case neg =>
    have d0 : ((mx : Int) != (my : Int)) = true := by simp; omega
    subst evx
    subst evy
    subst evp
    subst evq
    rw [← hmx] at FX
    rw [← hmy] at FY
    rw [← hmp] at FP
    rw [← hmq] at FQ
    rw [← hmx, ← hmy, ← hmp, ← hmq]
    clear rx nx x8 ry ny y8 rp np p8 rq nq q8 hDX hDY hDP hDQ hmx hmy hmp hmq
    go_enter Try.func7, Try.ntmps7
    go_wp2_with fail
    refine A.out.mono ?_
    rintro e w1 ⟨rfl, o1⟩
    have F := hideIt (o1.low (Nat.le_refl _))
    have G0 := hideIt (FX.out w1 o1)
    have G1 := hideIt (FY.out w1 o1)
    have G2 := hideIt (FP.out w1 o1)
    have G3 := hideIt (FQ.out w1 o1)
    clear o1 A FX FY FP FQ
    go_wp2_with fail
    refine G0.out.mono ?_
    rintro e w2 ⟨rfl, rfl⟩
    clear G0
    go_wp2_with fail
    refine G1.out.mono ?_
    rintro e w2 ⟨rfl, rfl⟩
    clear G1
    go_wp2_with fail
    refine G2.out.mono ?_
    rintro e w2 ⟨rfl, rfl⟩
    clear G2
    go_wp2_with fail
    refine G3.out.mono ?_
    rintro e w2 ⟨rfl, rfl⟩
    clear G3
    go_wp2
    go_ret
    exact ⟨rfl, F.out⟩
  case pos =>
    obtain ⟨x40, x5, _⟩ := FEW_r5 hDX.symm x8
    obtain ⟨y40, y5, _⟩ := FEW_r5 hDY.symm y8
    obtain ⟨p60, p5, _⟩ := FEW_r5 hDP.symm p8
    obtain ⟨q60, q5, _⟩ := FEW_r5 hDQ.symm q8
    have d0 : ((mx : Int) != (my : Int)) = false := by simp; omega
    have P1 := hideIt (fun (W : World) (o : Only (fun _ => False) w W) => rebuild_any n i vx vp x p x5.r8 p5.r8 (by omega) (by omega) W (rx.past o) (rp.past o))
    have P2 := hideIt (fun (W : World) (o : Only (fun _ => False) w W) => rebuild_any n i vy vq y q y5.r8 q5.r8 (by omega) (by omega) W (ry.past o) (rq.past o))
    have SX := hideIt (fun (W : World) (o : Only (fun _ => False) w W) => rsame_any vx vy x y W (rx.past o) (ry.past o) x5.r8 (by omega))
    have SP := hideIt (fun (W : World) (o : Only (fun _ => False) w W) => rsame_any vp vq p q W (rp.past o) (rq.past o) p5.r8 (by omega))
    have HR := hideIt (And.intro rx (And.intro ry (And.intro rp rq)))
    have H5 := hideIt (And.intro x5 (And.intro y5 (And.intro p5 q5)))
    obtain ⟨vsx, wx, lx, gx⟩ := rx.vs nx
    obtain ⟨vsy, wy, ly, gy⟩ := ry.vs ny
    obtain ⟨vsp, wp', lp, gp⟩ := rp.vs np
    obtain ⟨vsq, wq, lq, gq⟩ := rq.vs nq
    have HV := hideIt (And.intro wx (And.intro wy (And.intro wp' wq)))
    have HG := hideIt (vs_app (by rw [List.length_append, List.length_append, lx, ly, lp]; simp [Nat.add_assoc]) (vs_app (by rw [List.length_append, lx, ly]; simp) (vs_app lx gx gy) gp) gq)
    have HL := hideIt (And.intro lx (And.intro ly (And.intro lp lq)))
    have HM := hideIt (And.intro hmx (And.intro hmy (And.intro hmp hmq)))
    have H40 := hideIt (And.intro x40 (And.intro y40 (And.intro p60 q60)))
    subst evx
    subst evy
    subst evp
    subst evq
    rw [← hmx] at FX
    rw [← hmy] at FY
    rw [← hmp] at FP
    rw [← hmq] at FQ
    rw [← hmx, ← hmp] at P1
    rw [← hmy, ← hmq] at P2
    rw [← hmx, ← hmy] at SX
    rw [← hmp, ← hmq] at SP
    rw [← hmx, ← hmy, ← hmp, ← hmq] at HV HR
    rw [← hmx, ← hmy, ← hmp, ← hmq]
    obtain ⟨i0, hi0, hz0, hz1, hz2⟩ := info_parts Try.infoRows
    have HXY := hideIt hxy
    clear rx nx x8 ry ny y8 rp np p8 rq nq q8 hDX hDY hDP hDQ hmx hmy hmp hmq x40 x5 y40 y5 p60 p5 q60 q5 wx lx gx wy ly gy wp' lp gp wq lq gq hxy
    go_enter Try.func7, Try.ntmps7
    go_wp2_with fail
    refine A.out.mono ?_
    rintro e w1 ⟨rfl, o1⟩
    have O1 := hideIt o1
    have G0 := hideIt (FX.out w1 o1)
    have G1 := hideIt (FY.out w1 o1)
    have G2 := hideIt (FP.out w1 o1)
    have G3 := hideIt (FQ.out w1 o1)
    clear o1 A FX FY FP FQ
    go_wp2_with fail
    refine G0.out.mono ?_
    rintro e w2 ⟨rfl, rfl⟩
    clear G0
    go_wp2_with fail
    refine G1.out.mono ?_
    rintro e w2 ⟨rfl, rfl⟩
    clear G1
    go_wp2_with fail
    refine G2.out.mono ?_
    rintro e w2 ⟨rfl, rfl⟩
    clear G2
    go_wp2_with fail
    refine G3.out.mono ?_
    rintro e w2 ⟨rfl, rfl⟩
    clear G3
    have oB : Only (fun _ => False) w1 (w1.alloc (.cells #[] 22)) := (Only.refl _ _).alloc _
    have Q0 := hideIt (World.ownsRow_made (base := w1.heap.size) (e := 22) (size := 1) w1 #[] 0 (Nat.le_refl _) (by unfold maxLen; omega) rfl)
    have OB := hideIt oB
    have Z0 : Hid (w1.heap.size ≤ (w1.alloc (.cells #[] 22)).heap.size) := oB.size
    clear oB
    have BL : Hid (∀ k, k ≤ 200 → k ≤ maxLen ∧ k * 24 ≤ 140737488355328) := fun k hk => by unfold maxLen; omega
    have V0 := hideIt (HV.out.1.past (O1.out.same OB.out))
    have b0 : Hid (0 + vsx.length ≤ maxLen ∧ (0 + vsx.length) * 24 ≤ 140737488355328) := BL.out _ (by have := HL.out; have := H40.out; omega)
    go_wp2_with (at_builtin; refine wpList_append_vs _ rfl _ _ 23 rfl w1.heap.size 22 i0 (.slice none 0 0) 24 Try.underlying23 hi0 hz0 hz1 hz2 rfl (.slice (some ⟨w1.heap.size, 0, none⟩) 0 0) 0 [] rfl Q0.out _ vsx rfl V0.out b0.out.1 b0.out.2 Z0.out ?_)
    intro v0' wa0 own g
    have Oa0 := hideIt (OB.out.grown g (fun k hk e => by simp [Value.ownBlock] at e; omega))
    have own' : wa0.ownsRow w1.heap.size 22 1 v0' vsx.length ([] ++ vsx) := by simpa using own
    have Q1 := hideIt own'
    obtain ⟨ar0, cr0, er⟩ := own_form own'
    subst er
    obtain ⟨nl0, hnl0⟩ : ∃ nl, nl = vsx.length := ⟨_, rfl⟩
    rw [← hnl0] at Q1 ⊢
    have NL0 : Hid (nl0 =  vsx.length ) := by show _ = _; exact hnl0
    have Za0 := hideIt Oa0.out.size
    clear own own' g hnl0 V0 b0 Q0 Z0 OB
    have V1 := hideIt (HV.out.2.1.past (O1.out.same Oa0.out))
    have b1 : Hid (nl0 + vsy.length ≤ maxLen ∧ (nl0 + vsy.length) * 24 ≤ 140737488355328) := BL.out _ (by have := HL.out; have := H40.out; have := NL0.out; omega)
    go_wp2_with (at_builtin; refine wpList_append_vs _ rfl _ _ 23 rfl w1.heap.size 22 i0 (.slice none 0 0) 24 Try.underlying23 hi0 hz0 hz1 hz2 rfl (.slice ar0 nl0 cr0) nl0 ([] ++ vsx) rfl Q1.out _ vsy rfl V1.out b1.out.1 b1.out.2 Za0.out ?_)
    intro v1' wa1 own g
    have Oa1 := hideIt (Oa0.out.grown g (fun k hk e => by exact absurd ((Q1.out).lt k e).1 (by omega)))
    have own' : wa1.ownsRow w1.heap.size 22 1 v1' (nl0 + vsy.length) (([] ++ vsx) ++ vsy) := by simpa [List.append_assoc] using own
    have Q2 := hideIt own'
    obtain ⟨ar1, cr1, er⟩ := own_form own'
    subst er
    obtain ⟨nl1, hnl1⟩ : ∃ nl, nl = nl0 + vsy.length := ⟨_, rfl⟩
    rw [← hnl1] at Q2 ⊢
    have NL1 : Hid (nl1 =  vsx.length + vsy.length ) := by show _ = _; have := NL0.out; omega
    have Za1 := hideIt Oa1.out.size
    clear own own' g hnl1 V1 b1 Q1 Za0 Oa0
    have V2 := hideIt (HV.out.2.2.1.past (O1.out.same Oa1.out))
    have b2 : Hid (nl1 + vsp.length ≤ maxLen ∧ (nl1 + vsp.length) * 24 ≤ 140737488355328) := BL.out _ (by have := HL.out; have := H40.out; have := NL1.out; omega)
    go_wp2_with (at_builtin; refine wpList_append_vs _ rfl _ _ 23 rfl w1.heap.size 22 i0 (.slice none 0 0) 24 Try.underlying23 hi0 hz0 hz1 hz2 rfl (.slice ar1 nl1 cr1) nl1 (([] ++ vsx) ++ vsy) rfl Q2.out _ vsp rfl V2.out b2.out.1 b2.out.2 Za1.out ?_)
    intro v2' wa2 own g
    have Oa2 := hideIt (Oa1.out.grown g (fun k hk e => by exact absurd ((Q2.out).lt k e).1 (by omega)))
    have own' : wa2.ownsRow w1.heap.size 22 1 v2' (nl1 + vsp.length) ((([] ++ vsx) ++ vsy) ++ vsp) := by simpa [List.append_assoc] using own
    have Q3 := hideIt own'
    obtain ⟨ar2, cr2, er⟩ := own_form own'
    subst er
    obtain ⟨nl2, hnl2⟩ : ∃ nl, nl = nl1 + vsp.length := ⟨_, rfl⟩
    rw [← hnl2] at Q3 ⊢
    have NL2 : Hid (nl2 =  vsx.length + vsy.length + vsp.length ) := by show _ = _; have := NL1.out; omega
    have Za2 := hideIt Oa2.out.size
    clear own own' g hnl2 V2 b2 Q2 Za1 Oa1
    have V3 := hideIt (HV.out.2.2.2.past (O1.out.same Oa2.out))
    have b3 : Hid (nl2 + vsq.length ≤ maxLen ∧ (nl2 + vsq.length) * 24 ≤ 140737488355328) := BL.out _ (by have := HL.out; have := H40.out; have := NL2.out; omega)
    go_wp2_with (at_builtin; refine wpList_append_vs _ rfl _ _ 23 rfl w1.heap.size 22 i0 (.slice none 0 0) 24 Try.underlying23 hi0 hz0 hz1 hz2 rfl (.slice ar2 nl2 cr2) nl2 ((([] ++ vsx) ++ vsy) ++ vsp) rfl Q3.out _ vsq rfl V3.out b3.out.1 b3.out.2 Za2.out ?_)
    intro v3' wa3 own g
    have Oa3 := hideIt (Oa2.out.grown g (fun k hk e => by exact absurd ((Q3.out).lt k e).1 (by omega)))
    have own' : wa3.ownsRow w1.heap.size 22 1 v3' (nl2 + vsq.length) (((([] ++ vsx) ++ vsy) ++ vsp) ++ vsq) := by simpa [List.append_assoc] using own
    have Q4 := hideIt own'
    obtain ⟨ar3, cr3, er⟩ := own_form own'
    subst er
    obtain ⟨nl3, hnl3⟩ : ∃ nl, nl = nl2 + vsq.length := ⟨_, rfl⟩
    rw [← hnl3] at Q4 ⊢
    have NL3 : Hid (nl3 =  vsx.length + vsy.length + vsp.length + vsq.length ) := by show _ = _; have := NL2.out; omega
    have Za3 := hideIt Oa3.out.size
    clear own own' g hnl3 V3 b3 Q3 Za2 Oa2
    have O5 := hideIt (O1.out.same Oa3.out)
    have RA : Hid (RL wa3 (.slice ar3 nl3 cr3) (x ++ y ++ p ++ q)) := by
      have e1 : (x ++ y ++ p ++ q).length = nl3 := by have := HL.out; have := NL3.out; simp only [List.length_append]; omega
      refine RL.of_own (lo := w1.heap.size) (vs := vsx ++ vsy ++ vsp ++ vsq) (by rw [e1]; exact Q4.out) (vs_past HG.out O5.out)
    have HN : Hid ((x ++ y ++ p ++ q).length = nl3 ∧ nl3 ≤ 200) := by have := HL.out; have := NL3.out; have := H40.out; show _ ∧ _; simp only [List.length_append]; omega
    clear Q4 O1 Oa3 HG HL NL0 NL1 NL2 NL3 HV BL Za3
    have nb := HN.out.2
    go_wp2
    go_loop [15] (fun s => ∃ j : Nat, j ≤ nl3 ∧ s = .int .i64 j ∧ Hid (A32 ((x ++ y ++ p ++ q).take j))) (fun s => nl3 - (intOf s).toNat)
    case atStart => exact ⟨0, by omega, rfl, fun b hb => by simp at hb⟩
    case round =>
      obtain ⟨j, hj, rfl, hA⟩ := hrel
      by_cases hlt : j < nl3
      · have dlt : decide ((j : Int) < (nl3 : Int)) = true := decide_eq_true (by omega)
        have dlt' : decide (j < nl3) = true := decide_eq_true hlt
        obtain ⟨b, off, cap', e, _⟩ := RA.out.form HN.out.1 (by omega)
        simp only [Value.slice.injEq, true_and] at e
        obtain ⟨rfl, rfl⟩ := e
        have hjl : j < (x ++ y ++ p ++ q).length := by have := HN.out.1; omega
        obtain ⟨u, hu, hbu, _⟩ := RA.out.at j hjl
        obtain ⟨au, cu, rfl⟩ := hbu.len
        obtain ⟨s, hs⟩ : ∃ s, s = ((x ++ y ++ p ++ q).getD j []).length := ⟨_, rfl⟩
        rw [← hs] at hu
        have HS := hideIt hs
        have k0 : (0 : Int) ≤ (j : Int) := by omega
        have k1 : (j : Int) < (nl3 : Int) := by omega
        clear hbu hs
        by_cases h32 : s = 32
        · have e32 : ((s : Int) != 32) = false := by simp; omega
          have N1 : Hid (A32 ((x ++ y ++ p ++ q).take (j + 1))) := fun b hb => by
            rw [List.take_add_one, List.getElem?_eq_getElem hjl] at hb
            rcases List.mem_append.1 hb with h | h
            · exact hA.out b h
            · simp only [Option.toList_some, List.mem_singleton] at h
              subst h
              have := HS.out
              rw [List.getD_eq_getElem?_getD, List.getElem?_eq_getElem hjl] at this
              simp only [Option.getD_some] at this
              omega
          clear hA HS h32
          go_wp2
          go_round
          case rel => exact ⟨j + 1, by omega, by go_num, N1⟩
          case measure => simp [intOf]; omega
        · have e32 : ((s : Int) != 32) = true := by simp; omega
          have F := hideIt (O5.out.low (Nat.le_refl _))
          clear hA HS h32
          go_wp2
          go_ret
          exact ⟨rfl, F.out⟩
      obtain rfl : j = nl3 := by omega
      have dlt : decide ((j : Int) < (j : Int)) = false := decide_eq_false (by omega)
      have HA : Hid (A32 x ∧ A32 y ∧ A32 p ∧ A32 q) := by
        have h := hA.out
        rw [List.take_of_length_le (by have := HN.out.1; omega)] at h
        exact ⟨h.app.1.app.1.app.1, h.app.1.app.1.app.2, h.app.1.app.2, h.app.2⟩
      have G1 := hideIt (P1.out wa3 O5.out)
      clear hA RA HN P1
      go_wp2_with fail
      refine G1.out.mono ?_
      rintro e w2 ⟨v2, rfl, r2, n2, o2⟩
      have O6 := hideIt (O5.out.same o2)
      have R2 := hideIt r2
      have G2 := hideIt (P2.out w2 O6.out)
      obtain ⟨a2, c2, e2⟩ := r2.len
      subst e2
      obtain ⟨m2, hm2⟩ : ∃ m, m = (RBT n i x p).length := ⟨_, rfl⟩
      rw [← hm2] at R2 ⊢
      clear r2 n2 o2 G1 O5 P2 hm2
      go_wp2_with fail
      refine G2.out.mono ?_
      rintro e w3 ⟨v3, rfl, r3, n3, o3⟩
      have O7 := hideIt (O6.out.same o3)
      have SM := hideIt (lsame20_any _ v3 _ _ w3 (R2.out.past o3) r3 (by have := (RBT_r8 (n := n) (i := i) H5.out.1.r8 H5.out.2.2.1.r8).2; omega))
      obtain ⟨a3, c3, e3⟩ := r3.len
      subst e3
      obtain ⟨m3, hm3⟩ : ∃ m, m = (RBT n i y q).length := ⟨_, rfl⟩
      rw [← hm3] at SM ⊢
      clear r3 n3 o3 G2 O6 R2 hm3
      obtain ⟨E1, hE1⟩ : ∃ E, E = RBE n i x p := ⟨_, rfl⟩
      obtain ⟨E2, hE2⟩ : ∃ E, E = RBE n i y q := ⟨_, rfl⟩
      rw [← hE1, ← hE2]
      have HE := hideIt (And.intro hE1 hE2)
      clear hE1 hE2
      by_cases z1 : E1 = 0
      case neg =>
        have y1 : (E1 != 0) = true := by rw [bne_iff_ne]; exact z1
        have F := hideIt (O7.out.low (Nat.le_refl _))
        clear z1 HE SM SX SP
        go_wp2
        go_ret
        exact ⟨rfl, F.out⟩
      case pos =>
      have y1 : (E1 != 0) = false := by rw [z1]; rfl
      subst z1
      by_cases z2 : E2 = 0
      case neg =>
        have y2 : (E2 != 0) = true := by rw [bne_iff_ne]; exact z2
        have F := hideIt (O7.out.low (Nat.le_refl _))
        clear z2 HE SM SX SP
        go_wp2
        go_ret
        exact ⟨rfl, F.out⟩
      case pos =>
      have y2 : (E2 != 0) = false := by rw [z2]; rfl
      subst z2
      obtain ⟨CS, hCS⟩ : ∃ C, C = decide (RBT n i x p = RBT n i y q) := ⟨_, rfl⟩
      rw [← hCS] at SM
      have HCS := hideIt hCS
      clear hCS y1 y2
      go_wp2_with fail
      refine SM.out.mono ?_
      rintro e w4 ⟨rfl, o4⟩
      have O8 := hideIt (O7.out.same o4)
      clear SM o4 O7
      cases CS with
      | false =>
        have F := hideIt (O8.out.low (Nat.le_refl _))
        clear HE HCS SX SP
        go_wp2
        go_ret
        exact ⟨rfl, F.out⟩
      | true =>
      have G3 := hideIt (SX.out w4 O8.out)
      obtain ⟨CX, hCX⟩ : ∃ C, C = decide (x = y) := ⟨_, rfl⟩
      rw [← hCX] at G3
      have HCX := hideIt hCX
      clear hCX SX
      go_wp2_with fail
      refine G3.out.mono ?_
      rintro e w5 ⟨rfl, o5⟩
      have O9 := hideIt (O8.out.same o5)
      clear G3 o5 O8
      cases CX with
      | false =>
        obtain rfl : mx = my := HXY.out
        have ZE := RBE_zero HE.out.1.symm
        have ZF := RBE_zero HE.out.2.symm
        have hbn : Hid (¬ (x = y ∧ p = q)) := fun h => of_decide_eq_false HCX.out.symm h.1
        obtain ⟨n', rfl⟩ := Int.eq_ofNat_of_zero_le (show 0 ≤ n by have := ZE.1.1; omega)
        obtain ⟨i', rfl⟩ := Int.eq_ofNat_of_zero_le ZE.1.2.2.2.1
        have hx0 := ZE.1.2.2.1
        have hni := ZE.1.2.2.2.2
        have hn20 := ZE.1.2.1
        have hq1 := ZE.2.1
        have hq2 := ZF.2.1
        have ht1 := ZE.2.2
        have ht2 := ZF.2.2
        rw [Int.toNat_natCast, Int.toNat_natCast] at hq1 hq2 ht1 ht2
        have hM := HM.out
        have hlen : x.length = y.length := by omega
        have hrt : MADE n' i' x p = MADE n' i' y q := by rw [← ht1, ← ht2]; exact of_decide_eq_true HCS.out.symm
        have hpq : q.length = p.length := by rw [hq1, hq2, hlen]
        obtain ⟨c, k1, k2, k3⟩ := BINDS HA.out.1 HA.out.2.1 HA.out.2.2.1 HA.out.2.2.2 hlen hx0 (by omega) hq1 hpq hrt hbn.out
        have k5 := CLS_r5 (n' + 1) 0 n' i' x y p q 0 c H5.out.1 H5.out.2.1 H5.out.2.2.1 H5.out.2.2.2 hlen k1
        obtain ⟨bx, ox, cx', ex', hcx⟩ := HR.out.1.form hM.1.symm (by omega)
        simp only [Value.slice.injEq, true_and] at ex'
        obtain ⟨rfl, rfl⟩ := ex'
        obtain ⟨by', oy, cy', ey', hcy⟩ := HR.out.2.1.form hM.2.1.symm (by omega)
        simp only [Value.slice.injEq, true_and] at ey'
        obtain ⟨rfl, rfl⟩ := ey'
        obtain ⟨j', hj'⟩ : ∃ j', j' = i' + mx - 1 := ⟨_, rfl⟩
        have CL := hideIt (fun (W : World) (o : Only (fun _ => False) w W) => clash_in i' j' bx ox by' oy mx cx cy x y H5.out.1 H5.out.2.1 hM.1.symm (by omega) (by omega) hcx (by omega) (by omega) hj' (.slice aop mp cp) (.slice aoq mq cq) p q H5.out.2.2.1 H5.out.2.2.2 (by have := H40.out; omega) hpq n' 0 n' 0 W (by omega) (by omega) (by omega) (by rw [Nat.zero_add, hj', hM.1]; exact Nat.le_of_eq hq1.symm) (HR.out.1.past o) (HR.out.2.1.past o) (HR.out.2.2.1.past o) (HR.out.2.2.2.past o))
        rw [k1, show ((0 : Nat) : Int) = 0 from rfl] at CL
        rw [show (some c).isSome = true from rfl] at CL
        have MN := hideIt (fun (W : World) => rmany_any n' i' j' (by omega) (by omega) (by omega) (by omega) W)
        rw [show MANY n' i' j' = mp by rw [hM.2.2.1, hq1, hj', hM.1]] at MN
        generalize (CLS (n' + 1) 0 n' i' x y p q 0).2.2.2 = end' at CL
        generalize (CLS (n' + 1) 0 n' i' x y p q 0).2.1 = T1 at CL
        generalize (CLS (n' + 1) 0 n' i' x y p q 0).2.2.1 = T2 at CL
        have SU := hideIt (fun (W : World) (v : Value) (h : Bs .u8 W v c.1) (nc : NoCap v) => rsum20_any v c.1 W h nc k5.1.1 (by have := k5.1.2; omega))
        have SV := hideIt (fun (W : World) (v : Value) (h : Bs .u8 W v c.2) (nc : NoCap v) => rsum20_any v c.2 W h nc k5.2.1 (by have := k5.2.2; omega))
        rw [k3] at SU
        have SN := hideIt (fun (W : World) (v u : Value) (h : Bs .u8 W v c.1) (g : Bs .u8 W u c.2) => lsame20_any v u c.1 c.2 W h g (by have := k5.1.2; omega))
        rw [decide_eq_false k2] at SN
        obtain ⟨s, hs⟩ : ∃ s, s = n' - i' := ⟨_, rfl⟩
        obtain ⟨t, ht⟩ : ∃ t, t = i' + mx := ⟨_, rfl⟩
        have d1 : decide ((n' : Int) < 1) = false := decide_eq_false (by omega)
        have d2 : decide ((1048576 : Int) < (n' : Int)) = false := decide_eq_false (by omega)
        have d4 : decide ((i' : Int) < 0) = false := decide_eq_false (by omega)
        have d5 : decide ((n' : Int) ≤ (i' : Int)) = false := decide_eq_false (by omega)
        have d5' : decide (n' ≤ i') = false := decide_eq_false (by omega)
        have d6 : ((mx : Int) == 0) = false := by rw [beq_eq_false_iff_ne]; omega
        have q1 : (n' : Int) - (i' : Int) = (s : Int) := by omega
        have d7 : decide ((s : Int) < (mx : Int)) = false := decide_eq_false (by omega)
        have d7' : decide (s < mx) = false := decide_eq_false (by omega)
        have q2 : (i' : Int) + (mx : Int) = (t : Int) := by omega
        have q3 : (t : Int) - 1 = (j' : Int) := by omega
        have d8 : ((mp : Int) != (mp : Int)) = false := by simp
        have d9 : ((mq : Int) != (mp : Int)) = false := by simp; omega
        have sb : (s : Int) ≤ 1048576 := by omega
        have tb : (t : Int) ≤ 1048576 := by omega
        have jb : (j' : Int) ≤ 1048576 := by omega
        clear ZE ZF hbn hx0 hni hn20 hq1 hq2 ht1 ht2 hM hlen hrt hpq k1 k2 k3 k5 hcx hcy hj' hs ht HE HCS HCX HA H5 HR HM HXY H40
        go_wp2_with fail
        refine (MN.out _).mono ?_
        rintro e w7 ⟨rfl, rfl⟩
        have G7 := hideIt (CL.out w5 O9.out)
        clear MN CL
        go_wp2_with fail
        go_at_call 27
        refine G7.out.mono ?_
        rintro e w8 ⟨ca, cb, va, vb, rfl, r1, r2, r3, r4, r5, o8⟩
        obtain ⟨X, Y, rX, nX, rY, nY, hXY⟩ := r1
        have hXY := hXY c rfl
        subst hXY
        simp only at SU SV SN
        have oA : Only (fun _ => False) w8 (w8.alloc (.cells #[ca, cb] 42)) := (Only.refl _ _).alloc _
        have hB := Blk.new w8 42 [ca, cb]
        have U := hideIt (And.intro (rX.past oA) (And.intro nX (And.intro (rY.past oA) nY)))
        have O10 := hideIt ((O9.out.same o8).same oA)
        have k0 := hB.cell 0
        have k1 := hB.cell 1
        simp only [List.getElem?_cons_zero, List.getElem?_cons_succ] at k0 k1
        obtain ⟨ga, gc, rfl⟩ := rX.len
        obtain ⟨ha, hc, rfl⟩ := rY.len
        obtain ⟨gl, hgl⟩ : ∃ l, l = X.length := ⟨_, rfl⟩
        obtain ⟨hl, hhl⟩ : ∃ l, l = Y.length := ⟨_, rfl⟩
        rw [← hgl, ← hhl] at U O10 k0 k1 ⊢
        obtain ⟨za, zc, rfl⟩ := r2.len
        obtain ⟨ya, yc, rfl⟩ := r4.len
        generalize T1.length = zl
        generalize T2.length = yl
        clear r2 r3 r4 r5 o8 oA hB rX nX rY nY hgl hhl G7 O9
        obtain ⟨W9, hW9⟩ : ∃ W9, W9 = w8.alloc (.cells #[.slice ga gl gc, .slice ha hl hc] 42) := ⟨_, rfl⟩
        have HW9 := hideIt hW9
        rw [← hW9] at U O10 k0 k1
        rw [hW9] at k0 k1
        clear hW9
        go_wp2_with fail
        rw [← HW9.out]
        rw [← HW9.out] at k0 k1
        go_region_held (fun V => V.cell? ⟨w8.heap.size, 0, none⟩ = some (.slice ga gl gc) ∧ V.cell? ⟨w8.heap.size, 1, none⟩ = some (.slice ha hl hc)) (go_keep) (first | (go_at_call 11; refine (SN.out _ _ _ (U.out.1.past ((Only.refl _ _).drew)) (U.out.2.2.1.past ((Only.refl _ _).drew))).mono ?_; rintro e wh ⟨rfl, oh⟩; have OH := hideIt (((Only.refl (fun _ => False) W9).drew).same oh); have h0 := cell_past k0 OH.out; have h1 := cell_past k1 OH.out; clear oh SN) | (go_at_call 28; refine (SU.out _ _ (U.out.1.past OH.out) U.out.2.1).mono ?_; rintro e wj ⟨vj, rfl, ownj, oj⟩; have OJ := hideIt (OH.out.same oj); have BJ := hideIt (own_bs ownj); have h2 := cell_past k0 OJ.out; have h3 := cell_past k1 OJ.out; clear ownj oj SU) | (go_at_call 28; refine (SV.out _ _ (U.out.2.2.1.past OJ.out) U.out.2.2.2).mono ?_; rintro e wk ⟨vk, rfl, ownk, ok⟩; have OK := hideIt (OJ.out.same ok); have BK := hideIt (And.intro (BJ.out.past ok) (own_bs ownk)); have h4 := cell_past k0 OK.out; have h5 := cell_past k1 OK.out; clear ownk ok SV) | (go_at_call 11; refine (lsame20_any _ _ _ _ _ BK.out.1 BK.out.2 (by rw [SHA_len]; decide)).mono ?_; rintro e wl ⟨rfl, ol⟩; have OL := hideIt (OK.out.same ol); have h6 := cell_past k0 OL.out; have h7 := cell_past k1 OL.out; clear ol BK))
        go_wp2
        go_ret
        exact ⟨by simp, (O10.out.same OL.out).low (Nat.le_refl _)⟩
      | true =>
      have G4 := hideIt (SP.out w5 O9.out)
      obtain ⟨CP, hCP⟩ : ∃ C, C = decide (p = q) := ⟨_, rfl⟩
      rw [← hCP] at G4
      have HCP := hideIt hCP
      clear hCP SP
      go_wp2_with fail
      refine G4.out.mono ?_
      rintro e w6 ⟨rfl, o6⟩
      have O9' := hideIt (O9.out.same o6)
      clear G4 o6 O9
      cases CP with
      | true =>
        have F := hideIt (O9'.out.low (Nat.le_refl _))
        clear HE HCS HCX HCP
        go_wp2
        go_ret
        exact ⟨rfl, F.out⟩
      | false =>
        obtain rfl : mx = my := HXY.out
        have ZE := RBE_zero HE.out.1.symm
        have ZF := RBE_zero HE.out.2.symm
        have hbn : Hid (¬ (x = y ∧ p = q)) := fun h => of_decide_eq_false HCP.out.symm h.2
        obtain ⟨n', rfl⟩ := Int.eq_ofNat_of_zero_le (show 0 ≤ n by have := ZE.1.1; omega)
        obtain ⟨i', rfl⟩ := Int.eq_ofNat_of_zero_le ZE.1.2.2.2.1
        have hx0 := ZE.1.2.2.1
        have hni := ZE.1.2.2.2.2
        have hn20 := ZE.1.2.1
        have hq1 := ZE.2.1
        have hq2 := ZF.2.1
        have ht1 := ZE.2.2
        have ht2 := ZF.2.2
        rw [Int.toNat_natCast, Int.toNat_natCast] at hq1 hq2 ht1 ht2
        have hM := HM.out
        have hlen : x.length = y.length := by omega
        have hrt : MADE n' i' x p = MADE n' i' y q := by rw [← ht1, ← ht2]; exact of_decide_eq_true HCS.out.symm
        have hpq : q.length = p.length := by rw [hq1, hq2, hlen]
        obtain ⟨c, k1, k2, k3⟩ := BINDS HA.out.1 HA.out.2.1 HA.out.2.2.1 HA.out.2.2.2 hlen hx0 (by omega) hq1 hpq hrt hbn.out
        have k5 := CLS_r5 (n' + 1) 0 n' i' x y p q 0 c H5.out.1 H5.out.2.1 H5.out.2.2.1 H5.out.2.2.2 hlen k1
        obtain ⟨bx, ox, cx', ex', hcx⟩ := HR.out.1.form hM.1.symm (by omega)
        simp only [Value.slice.injEq, true_and] at ex'
        obtain ⟨rfl, rfl⟩ := ex'
        obtain ⟨by', oy, cy', ey', hcy⟩ := HR.out.2.1.form hM.2.1.symm (by omega)
        simp only [Value.slice.injEq, true_and] at ey'
        obtain ⟨rfl, rfl⟩ := ey'
        obtain ⟨j', hj'⟩ : ∃ j', j' = i' + mx - 1 := ⟨_, rfl⟩
        have CL := hideIt (fun (W : World) (o : Only (fun _ => False) w W) => clash_in i' j' bx ox by' oy mx cx cy x y H5.out.1 H5.out.2.1 hM.1.symm (by omega) (by omega) hcx (by omega) (by omega) hj' (.slice aop mp cp) (.slice aoq mq cq) p q H5.out.2.2.1 H5.out.2.2.2 (by have := H40.out; omega) hpq n' 0 n' 0 W (by omega) (by omega) (by omega) (by rw [Nat.zero_add, hj', hM.1]; exact Nat.le_of_eq hq1.symm) (HR.out.1.past o) (HR.out.2.1.past o) (HR.out.2.2.1.past o) (HR.out.2.2.2.past o))
        rw [k1, show ((0 : Nat) : Int) = 0 from rfl] at CL
        rw [show (some c).isSome = true from rfl] at CL
        have MN := hideIt (fun (W : World) => rmany_any n' i' j' (by omega) (by omega) (by omega) (by omega) W)
        rw [show MANY n' i' j' = mp by rw [hM.2.2.1, hq1, hj', hM.1]] at MN
        generalize (CLS (n' + 1) 0 n' i' x y p q 0).2.2.2 = end' at CL
        generalize (CLS (n' + 1) 0 n' i' x y p q 0).2.1 = T1 at CL
        generalize (CLS (n' + 1) 0 n' i' x y p q 0).2.2.1 = T2 at CL
        have SU := hideIt (fun (W : World) (v : Value) (h : Bs .u8 W v c.1) (nc : NoCap v) => rsum20_any v c.1 W h nc k5.1.1 (by have := k5.1.2; omega))
        have SV := hideIt (fun (W : World) (v : Value) (h : Bs .u8 W v c.2) (nc : NoCap v) => rsum20_any v c.2 W h nc k5.2.1 (by have := k5.2.2; omega))
        rw [k3] at SU
        have SN := hideIt (fun (W : World) (v u : Value) (h : Bs .u8 W v c.1) (g : Bs .u8 W u c.2) => lsame20_any v u c.1 c.2 W h g (by have := k5.1.2; omega))
        rw [decide_eq_false k2] at SN
        obtain ⟨s, hs⟩ : ∃ s, s = n' - i' := ⟨_, rfl⟩
        obtain ⟨t, ht⟩ : ∃ t, t = i' + mx := ⟨_, rfl⟩
        have d1 : decide ((n' : Int) < 1) = false := decide_eq_false (by omega)
        have d2 : decide ((1048576 : Int) < (n' : Int)) = false := decide_eq_false (by omega)
        have d4 : decide ((i' : Int) < 0) = false := decide_eq_false (by omega)
        have d5 : decide ((n' : Int) ≤ (i' : Int)) = false := decide_eq_false (by omega)
        have d5' : decide (n' ≤ i') = false := decide_eq_false (by omega)
        have d6 : ((mx : Int) == 0) = false := by rw [beq_eq_false_iff_ne]; omega
        have q1 : (n' : Int) - (i' : Int) = (s : Int) := by omega
        have d7 : decide ((s : Int) < (mx : Int)) = false := decide_eq_false (by omega)
        have d7' : decide (s < mx) = false := decide_eq_false (by omega)
        have q2 : (i' : Int) + (mx : Int) = (t : Int) := by omega
        have q3 : (t : Int) - 1 = (j' : Int) := by omega
        have d8 : ((mp : Int) != (mp : Int)) = false := by simp
        have d9 : ((mq : Int) != (mp : Int)) = false := by simp; omega
        have sb : (s : Int) ≤ 1048576 := by omega
        have tb : (t : Int) ≤ 1048576 := by omega
        have jb : (j' : Int) ≤ 1048576 := by omega
        clear ZE ZF hbn hx0 hni hn20 hq1 hq2 ht1 ht2 hM hlen hrt hpq k1 k2 k3 k5 hcx hcy hj' hs ht HE HCS HCX HA H5 HR HM HXY H40
        go_wp2_with fail
        refine (MN.out _).mono ?_
        rintro e w7 ⟨rfl, rfl⟩
        have G7 := hideIt (CL.out w6 O9'.out)
        clear MN CL
        go_wp2_with fail
        go_at_call 27
        refine G7.out.mono ?_
        rintro e w8 ⟨ca, cb, va, vb, rfl, r1, r2, r3, r4, r5, o8⟩
        obtain ⟨X, Y, rX, nX, rY, nY, hXY⟩ := r1
        have hXY := hXY c rfl
        subst hXY
        simp only at SU SV SN
        have oA : Only (fun _ => False) w8 (w8.alloc (.cells #[ca, cb] 42)) := (Only.refl _ _).alloc _
        have hB := Blk.new w8 42 [ca, cb]
        have U := hideIt (And.intro (rX.past oA) (And.intro nX (And.intro (rY.past oA) nY)))
        have O10 := hideIt ((O9'.out.same o8).same oA)
        have k0 := hB.cell 0
        have k1 := hB.cell 1
        simp only [List.getElem?_cons_zero, List.getElem?_cons_succ] at k0 k1
        obtain ⟨ga, gc, rfl⟩ := rX.len
        obtain ⟨ha, hc, rfl⟩ := rY.len
        obtain ⟨gl, hgl⟩ : ∃ l, l = X.length := ⟨_, rfl⟩
        obtain ⟨hl, hhl⟩ : ∃ l, l = Y.length := ⟨_, rfl⟩
        rw [← hgl, ← hhl] at U O10 k0 k1 ⊢
        obtain ⟨za, zc, rfl⟩ := r2.len
        obtain ⟨ya, yc, rfl⟩ := r4.len
        generalize T1.length = zl
        generalize T2.length = yl
        clear r2 r3 r4 r5 o8 oA hB rX nX rY nY hgl hhl G7 O9'
        obtain ⟨W9, hW9⟩ : ∃ W9, W9 = w8.alloc (.cells #[.slice ga gl gc, .slice ha hl hc] 42) := ⟨_, rfl⟩
        have HW9 := hideIt hW9
        rw [← hW9] at U O10 k0 k1
        rw [hW9] at k0 k1
        clear hW9
        go_wp2_with fail
        rw [← HW9.out]
        rw [← HW9.out] at k0 k1
        go_region_held (fun V => V.cell? ⟨w8.heap.size, 0, none⟩ = some (.slice ga gl gc) ∧ V.cell? ⟨w8.heap.size, 1, none⟩ = some (.slice ha hl hc)) (go_keep) (first | (go_at_call 11; refine (SN.out _ _ _ (U.out.1.past ((Only.refl _ _).drew)) (U.out.2.2.1.past ((Only.refl _ _).drew))).mono ?_; rintro e wh ⟨rfl, oh⟩; have OH := hideIt (((Only.refl (fun _ => False) W9).drew).same oh); have h0 := cell_past k0 OH.out; have h1 := cell_past k1 OH.out; clear oh SN) | (go_at_call 28; refine (SU.out _ _ (U.out.1.past OH.out) U.out.2.1).mono ?_; rintro e wj ⟨vj, rfl, ownj, oj⟩; have OJ := hideIt (OH.out.same oj); have BJ := hideIt (own_bs ownj); have h2 := cell_past k0 OJ.out; have h3 := cell_past k1 OJ.out; clear ownj oj SU) | (go_at_call 28; refine (SV.out _ _ (U.out.2.2.1.past OJ.out) U.out.2.2.2).mono ?_; rintro e wk ⟨vk, rfl, ownk, ok⟩; have OK := hideIt (OJ.out.same ok); have BK := hideIt (And.intro (BJ.out.past ok) (own_bs ownk)); have h4 := cell_past k0 OK.out; have h5 := cell_past k1 OK.out; clear ownk ok SV) | (go_at_call 11; refine (lsame20_any _ _ _ _ _ BK.out.1 BK.out.2 (by rw [SHA_len]; decide)).mono ?_; rintro e wl ⟨rfl, ol⟩; have OL := hideIt (OK.out.same ol); have h6 := cell_past k0 OL.out; have h7 := cell_past k1 OL.out; clear ol BK))
        go_wp2
        go_ret
        exact ⟨by simp, (O10.out.same OL.out).low (Nat.le_refl _)⟩
end Go.Proofs.Ytnifflnhbpfmnaa
