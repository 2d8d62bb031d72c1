/- The walk of MerkleWhole. -/
import Derived.Test.YtnifflnhbpfmnabAw20
import Derived.Test.YtnifflnhbpfmnabXb
namespace Go.Proofs.Ytnifflnhbpfmnab
open Go.RowKit
set_option linter.unusedVariables false

theorem RL.vs {w : World} {v : Value} {ls : List (List Int)} (h : RL w v ls) (nc : NoCap v) : ∃ vs, VS w v vs ∧ vs.length = ls.length ∧ ∀ j u, vs[j]? = some u → Bs .u8 w u (ls.getD j []) ∧ NoCap u := by
  obtain ⟨ao, cap, rfl, hc, hr⟩ := h
  by_cases h0 : ls = []
  · subst h0
    exact ⟨[], ⟨ao, cap, rfl, nc, by simp, fun _ => rfl, fun ad _ j y hy => by simp at hy⟩, rfl, fun j u hu => by simp at hu⟩
  · obtain ⟨b, off, rfl, hcell⟩ := hr h0
    refine ⟨(List.range ls.length).map (fun j => (w.cell? ⟨b, off + j, none⟩).getD undef), ⟨some ⟨b, off, none⟩, cap, by simp, nc, ?_, (fun e => by cases e), ?_⟩, by simp, ?_⟩
    · intro y hy
      simp only [List.mem_map, List.mem_range] at hy
      obtain ⟨j, hj, rfl⟩ := hy
      obtain ⟨u, h1, h2, _⟩ := hcell j hj
      obtain ⟨ao', c', rfl⟩ := h2.len
      rw [h1]; rfl
    · intro ad had j y hy
      cases had
      have hj : j < ls.length := by
        have := (List.getElem?_eq_some_iff.1 hy).1
        simpa using this
      obtain ⟨u, h1, h2, _⟩ := hcell j hj
      rw [Go.WideShapes.add_plain, h1, ← hy]
      simp [hj, h1]
    · intro j u hu
      have hj : j < ls.length := by
        have := (List.getElem?_eq_some_iff.1 hu).1
        simpa using this
      obtain ⟨u', h1, h2, h3⟩ := hcell j hj
      simp [hj, h1] at hu
      subst hu
      exact ⟨h2, h3⟩
theorem PRT_full (l : List (List Int)) : MANY l.length 0 (0 + l.length - 1) = 0 := by rw [Nat.zero_add]; exact MANY_whole _
theorem whole_ok {l : List (List Int)} (h0 : 0 < l.length) (hl : l.length ≤ 1000) : RBE (l.length : Int) 0 l [] = 0 ∧ RBT (l.length : Int) 0 l [] = TOP l := by
  have h : RBA (l.length : Int) 0 l := ⟨by omega, by omega, h0, by omega, by omega⟩
  have hz : ([] : List (List Int)).length = MANY ((l.length : Int).toNat) ((0 : Int).toNat) ((0 : Int).toNat + l.length - 1) := by
    rw [Int.toNat_natCast]; exact (PRT_full l).symm
  obtain ⟨e1, e2⟩ := RBE_ok (p := []) h hz
  refine ⟨e1, ?_⟩
  rw [e2, Int.toNat_natCast]
  show (MAD (l.length + 1) 0 l.length 0 l []).1 = TOP l
  rw [MADE_whole l h0]
theorem whole_one {l : List (List Int)} (h0 : 0 < l.length) (hl : l.length ≤ 1000) (r : List Int) : RBE (l.length : Int) 0 l [r] = 8 := by
  have h : RBA (l.length : Int) 0 l := ⟨by omega, by omega, h0, by omega, by omega⟩
  refine (RBE_not (p := [r]) h ?_).1
  rw [Int.toNat_natCast]
  show 1 ≠ MANY l.length 0 (0 + l.length - 1)
  rw [PRT_full]; decide
/-- the leaf at k with its first byte turned -/
def TRN (l : List (List Int)) (k : Nat) (y : Int) : List (List Int) := l.set k (if 0 < (l.getD k []).length then XBL (l.getD k []) 0 y else l.getD k [])
theorem RL.one {w : World} {u : Value} {r : List Int} (h : Bs .u8 w u r) (nc : NoCap u) : RL (w.alloc (.cells #[u] 25)) (.slice (some ⟨w.heap.size, 0, none⟩) 1 1) [r] :=
  ⟨_, 1, rfl, Nat.le_refl _, fun _ => ⟨w.heap.size, 0, rfl, fun j hj => by
    have : j = 0 := by simp at hj; exact hj
    subst this
    exact ⟨u, (Blk.new w 25 [u]).cell 0, h.past ((Only.refl _ _).alloc _), nc⟩⟩⟩
theorem own_frozen {w : World} {lo g n cap : Nat} {E : TypeId} {xs : List Value} (h : w.ownsRow lo E 1 (.slice (some ⟨g, 0, none⟩) n cap) n xs) (k : Nat) : w.frozen? ⟨g, k, none⟩ = false := by
  rcases h.2 with ⟨e, _⟩ | ⟨g', cap', cur, e, _, hg, _⟩
  · cases e
  · cases e; exact frozen_of_row w g k _ E hg
theorem own_lt {w : World} {lo g n cap : Nat} {E : TypeId} {xs : List Value} (h : w.ownsRow lo E 1 (.slice (some ⟨g, 0, none⟩) n cap) n xs) : g < w.heap.size := by
  rcases h.2 with ⟨e, _⟩ | ⟨g', cap', cur, e, _, hg, _⟩
  · cases e
  · cases e; exact (Array.getElem?_eq_some_iff.1 hg).1
/-- a row of slices in which the one at k is another -/
theorem RL.put {w w' : World} {g n cap k : Nat} {vs : List Value} {u : Value} {ls : List (List Int)} {z : List Int} (hn : vs.length = n) (hl : ls.length = n) (hc : n ≤ cap) (hcell : ∀ j, j < n → j ≠ k → w'.cell? ⟨g, j, none⟩ = vs[j]?) (hk : w'.cell? ⟨g, k, none⟩ = some u)
    (hvs : ∀ j v, vs[j]? = some v → Bs .u8 w v (ls.getD j []) ∧ NoCap v) (o : Only (fun _ => False) w w') (hu : Bs .u8 w' u z) (nu : NoCap u) : RL w' (.slice (some ⟨g, 0, none⟩) n cap) (ls.set k z) := by
  refine ⟨_, cap, by rw [List.length_set, hl], by rw [List.length_set, hl]; exact hc, fun _ => ⟨g, 0, rfl, fun j hj => ?_⟩⟩
  rw [List.length_set, hl] at hj
  rw [Nat.zero_add]
  by_cases e : j = k
  · subst e
    refine ⟨u, hk, ?_, nu⟩
    rw [List.getD_eq_getElem?_getD, List.getElem?_set_self (by omega)]
    exact hu
  · have hjv : j < vs.length := by omega
    refine ⟨vs[j], by rw [hcell j hj e, List.getElem?_eq_getElem hjv], ?_⟩
    have h := hvs j _ (List.getElem?_eq_getElem hjv)
    rw [List.getD_eq_getElem?_getD, List.getElem?_set_ne (fun h => e h.symm), ← List.getD_eq_getElem?_getD]
    exact ⟨h.1.past o, h.2⟩
theorem set_r5 {l : List (List Int)} (h : R5 l) (k : Nat) {z : List Int} (hz : U8 z ∧ z.length ≤ 100000) : R5 (l.set k z) := fun b hb => by
  rcases List.mem_or_eq_of_mem_set hb with h1 | h1
  · exact h b h1
  · subst h1; exact hz

set_option maxHeartbeats 3200000 in
set_option maxRecDepth 100000 in
theorem whole_walk (vl : Value) (l : List (List Int)) (at' by' : Int) (hby : 0 ≤ by' ∧ by' ≤ 255) (w : World) (rl : RL w vl l) (nl : NoCap vl) (l8 : ∀ x ∈ l, U8 x) :
    Calls Try.prog 3 #[vl, .int .i64 at', .int .u8 by'] w fun e w' => e = .returned (.bool true) ∧ Below w.heap.size w w' := by
  have A := hideIt (awake_any w)
  have FL := hideIt (fun (W : World) (o : Only (fun _ => False) w W) => few_any vl l 70 (by decide) W (rl.past o))
  rw [show ((70 : Nat) : Int) = 70 from rfl] at FL
  obtain ⟨D, hD⟩ : ∃ D, D = FEW l 70 := ⟨_, rfl⟩
  rw [← hD] at FL
  obtain ⟨n, hn⟩ : ∃ n, l.length = n := ⟨_, rfl⟩
  cases D with
  | false =>
    obtain ⟨aol, cl, evl, _⟩ := rl.len
    subst evl
    rw [hn] at FL ⊢
    clear rl nl l8 hD hn
    go_enter Try.func3, Try.ntmps3
    go_wp2_with fail
    refine A.out.mono ?_
    rintro e w1 ⟨rfl, o1⟩
    have F := hideIt (o1.low (Nat.le_refl _))
    have G := hideIt (FL.out w1 o1)
    clear o1 A FL
    go_wp2_with fail
    refine G.out.mono ?_
    rintro e w2 ⟨rfl, rfl⟩
    clear G
    go_wp2
    go_ret
    exact ⟨rfl, F.out⟩
  | true =>
    by_cases h0 : n = 0
    · obtain ⟨aol, cl, evl, _⟩ := rl.len
      subst evl
      rw [hn] at FL ⊢
      subst h0
      clear rl nl l8 hD hn
      go_enter Try.func3, Try.ntmps3
      go_wp2_with fail
      refine A.out.mono ?_
      rintro e w1 ⟨rfl, o1⟩
      have F := hideIt (o1.low (Nat.le_refl _))
      have G := hideIt (FL.out w1 o1)
      clear o1 A FL
      go_wp2_with fail
      refine G.out.mono ?_
      rintro e w2 ⟨rfl, rfl⟩
      clear G
      go_wp2
      go_ret
      exact ⟨rfl, F.out⟩
    have d0 : ((n : Int) == 0) = false := by rw [beq_eq_false_iff_ne]; omega
    have dn0 : ¬ (n : Int) = 0 := by omega
    obtain ⟨l70, l5, l200⟩ := FEW_r5 hD.symm l8
    obtain ⟨b, off, cap, evl, hcap⟩ := rl.form hn (by omega)
    subst evl
    obtain ⟨vs, wvs, lvs, gvs⟩ := rl.vs nl
    have wk := whole_ok (l := l) (by omega) (by omega)
    rw [hn] at wk
    have P1 := hideIt (fun (W : World) (o : Only (fun _ => False) w W) => rebuild_any (n : Int) 0 _ (.slice none 0 0) l [] l5.r8 (fun x hx => by simp at hx) (by omega) (by simp) W (rl.past o) (RL.nil W))
    rw [wk.1, wk.2] at P1
    have P2 := hideIt (fun (W : World) (v : Value) (o : Only (fun _ => False) w W) (h : RL W v [TOP l]) => rebuild_any (n : Int) 0 _ v l [TOP l] l5.r8 (fun x hx => by simp only [List.mem_singleton] at hx; subst hx; exact TOP_r8 l5.r8) (by omega) (by simp) W (rl.past o) h)
    have w8 := whole_one (l := l) (by omega) (by omega) (TOP l)
    rw [hn] at w8
    rw [w8] at P2
    have TF := hideIt (fun (W : World) (o : Only (fun _ => False) w W) => root_any l _ W (by omega) l5.r8 (rl.past o))
    have tl := hideIt (TOP_r8 l5.r8).2
    obtain ⟨Y, hY⟩ : ∃ Y, Y = TOP l := ⟨_, rfl⟩
    rw [← hY] at P1 P2 TF tl
    have hand := i64_low at' 16 (by decide)
    rw [show ((2 ^ 16 - 1 : Nat) : Int) = 65535 from rfl, show ((2 ^ 16 : Nat) : Int) = 65536 from rfl] at hand
    obtain ⟨c, hc⟩ : ∃ c : Nat, at' % 65536 = (c : Int) := ⟨(at' % 65536).toNat, by omega⟩
    rw [hc] at hand
    have hc16 : c < 65536 := by omega
    obtain ⟨k, hk⟩ : ∃ k, k = c % n := ⟨_, rfl⟩
    have hkn : k < n := by rw [hk]; exact Nat.mod_lt _ (by omega)
    have hr1 : (c : Int) % (n : Int) = (k : Int) := by rw [hk]; exact (Int.natCast_emod c n).symm
    have hr2 : (c : Int).tmod (n : Int) = (k : Int) := by rw [Int.tmod_eq_emod_of_nonneg (by omega)]; exact hr1
    obtain ⟨X, hX⟩ : ∃ X, X = l.getD k [] := ⟨_, rfl⟩
    have X5 := l5.at k
    rw [← hX] at X5
    obtain ⟨Z, hZ⟩ : ∃ Z, Z = (if 0 < X.length then XBL X 0 by' else X) := ⟨_, rfl⟩
    have Z5 : U8 Z ∧ Z.length ≤ 100000 := by
      rw [hZ]
      split
      · exact ⟨XBL_u8 X5.1 0 hby, by rw [XBL_len]; exact X5.2⟩
      · exact X5
    obtain ⟨M, hM⟩ : ∃ M, M = l.set k Z := ⟨_, rfl⟩
    have M5 : R5 M := by rw [hM]; exact set_r5 l5 k Z5
    have hMl : M.length = n := by rw [hM, List.length_set, hn]
    have wm := whole_ok (l := M) (by omega) (by omega)
    rw [hMl] at wm
    have P3 := hideIt (fun (W : World) (v : Value) (h : RL W v M) => rebuild_any (n : Int) 0 v (.slice none 0 0) M [] M5.r8 (fun x hx => by simp at hx) (by omega) (by simp) W h (RL.nil W))
    rw [wm.1, wm.2] at P3
    have UF := hideIt (fun (W : World) (v : Value) (h : RL W v M) => rroot_any M.length M v W (Nat.le_refl _) (by omega) M5 h)
    have tm := hideIt (TOP_r8 M5.r8).2
    obtain ⟨T, hT⟩ : ∃ T, T = TOP M := ⟨_, rfl⟩
    rw [← hT] at P3 UF tm
    obtain ⟨u, hu, hbu, nu⟩ := rl.at k (by omega)
    rw [← hX] at hbu
    have HV := hideIt (And.intro wvs (And.intro (lvs.trans hn) gvs))
    have HX := hideIt (And.intro hbu (And.intro nu X5))
    have HC : Hid (∀ W, Only (fun _ => False) w W → W.cell? ⟨b, off + k, none⟩ = some u) := fun W o => cell_past hu o
    have HZ := hideIt hZ
    have HMM := hideIt hM
    have HN := hideIt (And.intro hn (And.intro l70 hkn))
    have HBY := hideIt hby
    obtain ⟨au, cu, rfl⟩ := hbu.len
    obtain ⟨m, hm⟩ : ∃ m, m = X.length := ⟨_, rfl⟩
    rw [← hm] at HX HC
    have HMX := hideIt hm
    have kI : (k : Int) < (n : Int) := by omega
    have kJ : (0 : Int) ≤ (k : Int) := by omega
    obtain ⟨i0, hi0, hz0, hz1, hz2⟩ := info_parts Try.infoRows
    obtain ⟨j0, hj0, hy0, hy1, hy2⟩ := info_parts Try.infoU8
    clear hby rl nl l8 hD hn l70 l5 l200 wvs lvs gvs wk w8 hY hc hk hX X5 hZ Z5 hM M5 hMl wm hT hu hbu nu hm hkn hcap
    go_enter Try.func3, Try.ntmps3
    go_wp2_with fail
    refine A.out.mono ?_
    rintro e w1 ⟨rfl, o1⟩
    have O1 := hideIt o1
    have G := hideIt (FL.out w1 o1)
    clear o1 A FL
    go_wp2_with fail
    refine G.out.mono ?_
    rintro e w2 ⟨rfl, rfl⟩
    have G2 := hideIt (P1.out w1 O1.out)
    clear G P1
    go_wp2_with fail
    refine G2.out.mono ?_
    rintro e w2 ⟨v2, rfl, r2, n2, o2⟩
    have oA : Only (fun _ => False) w2 (w2.alloc (.cells #[v2] 25)) := (Only.refl _ _).alloc _
    have O2 := hideIt ((O1.out.same o2).same oA)
    have R2 := hideIt (And.intro (r2.past oA) n2)
    have G3 := hideIt (P2.out _ _ O2.out (RL.one r2 n2))
    obtain ⟨a2, c2, e2⟩ := r2.len
    subst e2
    obtain ⟨m2, hm2⟩ : ∃ m, m = Y.length := ⟨_, rfl⟩
    rw [← hm2] at R2 G3 O2 ⊢
    clear r2 n2 o2 oA G2 O1 P2 hm2
    go_wp2_with fail
    refine G3.out.mono ?_
    rintro e w3 ⟨v3, rfl, r3, n3, o3⟩
    have O3 := hideIt (O2.out.same o3)
    have R3 := hideIt (R2.out.1.past o3)
    obtain ⟨a3, c3, e3⟩ := r3.len
    subst e3
    generalize (RBT (n : Int) 0 l [Y]).length = m3
    clear r3 n3 o3 G3 O2 R2
    have oB : Only (fun _ => False) w3 (w3.alloc (.cells #[] 25)) := (Only.refl _ _).alloc _
    have Q0 := hideIt (World.ownsRow_made (base := w3.heap.size) (e := 25) (size := 1) w3 #[] 0 (Nat.le_refl _) (by unfold maxLen; omega) rfl)
    have Z0 : Hid (w3.heap.size ≤ (w3.alloc (.cells #[] 25)).heap.size) := oB.size
    have V0 := hideIt (HV.out.1.past (O3.out.same oB))
    have b0 : Hid (0 + vs.length ≤ maxLen ∧ (0 + vs.length) * 24 ≤ 140737488355328) := by have := HV.out.2.1; have := HN.out; show _ ∧ _; unfold maxLen; omega
    have OB := hideIt oB
    clear oB
    go_wp2_with (at_builtin; refine wpList_append_vs _ rfl _ _ 22 rfl w3.heap.size 25 i0 (.slice none 0 0) 24 Try.underlying22 hi0 hz0 hz1 hz2 rfl (.slice (some ⟨w3.heap.size, 0, none⟩) 0 0) 0 [] rfl Q0.out _ vs rfl V0.out b0.out.1 b0.out.2 Z0.out ?_)
    intro v4 w4 own4 g4
    have O34 := hideIt (OB.out.grown g4 (fun k hk e => by simp [Value.ownBlock] at e; omega))
    have O4 := hideIt (O3.out.same (OB.out.grown g4 (fun k hk e => by simp [Value.ownBlock] at e; omega)))
    have own4' : w4.ownsRow w3.heap.size 25 1 v4 n vs := by have e := HV.out.2.1; rw [← e]; simpa using own4
    obtain ⟨gm, cm, e4, hgm, hcm⟩ := xb_at own4' (by have := HN.out; omega)
    subst e4
    have Q1 := hideIt own4'
    have GM : Hid (w3.heap.size ≤ gm ∧ gm < w4.heap.size ∧ n ≤ cm ∧ w.heap.size ≤ w3.heap.size) := ⟨hgm, own_lt own4', hcm, O3.out.size⟩
    clear own4 own4' g4 Q0 Z0 V0 b0 OB hgm hcm
    have oC : Only (fun _ => False) w4 (w4.alloc (.cells #[] 5)) := (Only.refl _ _).alloc _
    have q0 := hideIt (xb_made0 w4)
    have k0 := HC.out _ (O4.out.same oC)
    have U0 := hideIt (And.intro (HX.out.1.past (O4.out.same oC)) HX.out.2.1)
    have c0 : Hid (0 + X.length ≤ maxLen ∧ (0 + X.length) * 1 ≤ 140737488355328) := by have := HX.out.2.2.2; have := HMX.out; show _ ∧ _; unfold maxLen; omega
    have Z1 : Hid (w4.heap.size ≤ (w4.alloc (.cells #[] 5)).heap.size) := oC.size
    have OC := hideIt oC
    clear oC
    go_wp2_with (at_builtin; refine wpList_append_bs _ rfl _ _ 25 rfl w4.heap.size 5 j0 (.int .u8 0) 1 Try.underlying25 hj0 hy0 hy1 hy2 rfl (.slice (some ⟨w4.heap.size, 0, none⟩) 0 0) 0 (bl []) rfl q0.out .u8 _ X rfl U0.out.1 U0.out.2 c0.out.1 c0.out.2 Z1.out ?_)
    intro v5 w5 own5 g5 _ _
    have O45 := OC.out.grown g5 (fun k hk e => by simp [Value.ownBlock] at e; omega)
    have own5' : w5.ownsRow w4.heap.size 5 1 v5 m (bl X) := by rw [HMX.out]; simpa [bl] using own5
    have Q5 := O45.own Q1.out (fun _ _ f => f)
    obtain ⟨uk, huk⟩ : ∃ uk, vs[k]? = some uk := ⟨vs[k]'(by have := HV.out.2.1; have := HN.out; omega), List.getElem?_eq_getElem _⟩
    have hcell : ∀ j, j < n → w5.cell? ⟨gm, j, none⟩ = vs[j]? := fun j hj => by have h := Q5.cellAt j (by omega); exact h
    have kc : w5.cell? ⟨gm, k, none⟩ = some uk := by rw [hcell k (by have := HN.out; omega), huk]
    have kf := own_frozen Q5 k
    have O35 := O34.out.same O45
    by_cases hm0 : 0 < m
    · obtain ⟨gk, c5, e5, hgk, _⟩ := xb_at own5' hm0
      subst e5
      have hne : ¬ gk = gm := by have := GM.out; omega
      have hne' : ¬ gm = gk := fun e => hne e.symm
      obtain ⟨a5, ha5⟩ : ∃ a5 : Option Addr, a5 = some ⟨gk, 0, none⟩ := ⟨_, rfl⟩
      have oS : Only (fun j => j = gm) w5 (w5.setCell ⟨gm, k, none⟩ (.slice (some ⟨gk, 0, none⟩) m c5)) := Only.setCell (S := fun j => j = gm) (p := ⟨gm, k, none⟩) (Only.refl _ _) (fun _ => rfl) _
      have kk : (w5.setCell ⟨gm, k, none⟩ (.slice (some ⟨gk, 0, none⟩) m c5)).cell? ⟨gm, k, none⟩ = some (.slice (some ⟨gk, 0, none⟩) m c5) := World.cell?_setCell_same _ _ _ kc
      obtain ⟨t1, t2, t3, t4⟩ := xb_turn (k := 0) (oS.own own5' (fun j hj e => by simp [Value.ownBlock] at hj; omega)) hm0 by'
      have hcell2 : ∀ j, j < n → j ≠ k → (w5.setCell ⟨gm, k, none⟩ (.slice (some ⟨gk, 0, none⟩) m c5)).cell? ⟨gm, j, none⟩ = vs[j]? := fun j hj e => by rw [World.cell?_setCell_other _ _ _ _ (fun e' => e (by cases e'; rfl)), hcell j hj]
      have hxr := HX.out.2.2.1.at 0
      have hxor := XB_bits hxr HBY.out
      obtain ⟨x0, hx0⟩ : ∃ x0, x0 = X.getD 0 0 := ⟨_, rfl⟩
      rw [← hx0] at t1 t3 t4 hxr hxor
      obtain ⟨z0, hz0'⟩ : ∃ z0, z0 = XB x0 by' := ⟨_, rfl⟩
      rw [← hz0'] at t3 t4 hxor
      obtain ⟨WC, hWC⟩ : ∃ WC, WC = w5.setCell ⟨gm, k, none⟩ (.slice (some ⟨gk, 0, none⟩) m c5) := ⟨_, rfl⟩
      rw [← hWC] at oS kk t1 t2 t3 t4 hcell2
      have O3D : Only (fun _ => False) w3 (WC.setCell ⟨gk, 0, none⟩ (.int .u8 z0)) := (O35.trans oS (fun i hi e => by have := GM.out; omega)).trans t4 (fun i hi e => by have := GM.out; have := O34.out.size; omega)
      have hZX : Z = XBL X 0 by' := by rw [HZ.out, if_pos (by rw [← HMX.out]; exact hm0)]
      have RLM : Hid (RL (WC.setCell ⟨gk, 0, none⟩ (.int .u8 z0)) (.slice (some ⟨gm, 0, none⟩) n cm) M) := by
        have h := RL.put (w := w) (w' := WC.setCell ⟨gk, 0, none⟩ (.int .u8 z0)) (g := gm) (n := n) (cap := cm) (k := k) (vs := vs) (ls := l) (z := XBL X 0 by') HV.out.2.1 HN.out.1 GM.out.2.2.1 (fun j hj e => by rw [World.cell?_setCell_other _ _ _ _ (fun e' => hne (by cases e'; rfl)), hcell2 j hj e]) (by rw [World.cell?_setCell_other _ _ _ _ (fun e' => hne (by cases e'; rfl))]; exact kk) HV.out.2.2 (O3.out.same O3D) t3 (NoCap.some _ _ _)
        show RL _ _ M
        rw [HMM.out, hZX]; exact h
      have O3W := hideIt O3D
      have HWC := hideIt hWC
      have d9 : decide ((0 : Int) < (m : Int)) = true := decide_eq_true (by omega)
      have d9' : decide (0 < m) = true := decide_eq_true hm0
      have k1 : (0 : Int) < (m : Int) := by omega
      have kkW : (w5.setCell ⟨gm, k, none⟩ (.slice (some ⟨gk, 0, none⟩) m c5)).cell? ⟨gm, k, none⟩ = some (.slice (some ⟨gk, 0, none⟩) m c5) := by rw [← hWC]; exact kk
      clear own5 own5' g5 O45 Q5 huk hcell O35 oS t3 t4 hcell2 hx0 hz0' O3D hZX ha5 hWC hm0 HX HV HZ HMM HMX HN HBY Q1 GM O34 q0 k0 U0 c0 Z1 OC O4 hgk
      go_wp2_with fail
      rw [← HWC.out]
      clear kc kf kkW
      go_region
      go_wp2_with fail
      have RLM2 := hideIt (RLM.out.past ((Only.refl _ _).drew))
      have O3W2 := hideIt O3W.out.drew
      clear RLM O3W t1 t2 kk HWC
      refine (P3.out _ _ RLM2.out).mono ?_
      rintro e w6 ⟨v6, rfl, r6, n6, o6⟩
      have O6 := hideIt (O3W2.out.same o6)
      have R6 := hideIt (And.intro (R3.out.past O6.out) (And.intro r6 (RLM2.out.past o6)))
      have G7 := hideIt (TF.out w6 (O3.out.same O6.out))
      obtain ⟨a6, c6, e6⟩ := r6.len
      subst e6
      obtain ⟨m6, hm6⟩ : ∃ m, m = T.length := ⟨_, rfl⟩
      rw [← hm6] at R6 ⊢
      clear r6 n6 o6 O3W2 RLM2 R3 hm6 TF P3
      go_wp2_with fail
      refine G7.out.mono ?_
      rintro e w7 ⟨v7, rfl, own7, o7⟩
      have O7 := hideIt (O6.out.same o7)
      have R7 := hideIt (And.intro (R6.out.2.1.past o7) (R6.out.2.2.past o7))
      have S7 := hideIt (lsame20_any _ v7 Y Y w7 (R6.out.1.past o7) (own_bs own7) (by have := tl.out; omega))
      rw [decide_eq_true rfl] at S7
      obtain ⟨a7, c7, e7⟩ := own_form own7
      subst e7
      obtain ⟨m7, hm7⟩ : ∃ m, m = Y.length := ⟨_, rfl⟩
      rw [← hm7] at S7 ⊢
      clear own7 o7 G7 O6 R6 hm7
      go_wp2_with fail
      refine S7.out.mono ?_
      rintro e w8 ⟨rfl, o8⟩
      have O8 := hideIt (O7.out.same o8)
      have R8' := hideIt (R7.out.1.past o8)
      have G8 := hideIt (UF.out w8 _ (R7.out.2.past o8))
      clear S7 o8 O7 R7 UF
      go_wp2_with fail
      refine G8.out.mono ?_
      rintro e w9 ⟨v9, rfl, own9, o9⟩
      have O9 := hideIt (O8.out.same o9)
      have S9 := hideIt (lsame20_any _ v9 T T w9 (R8'.out.past o9) (own_bs own9) (by have := tm.out; omega))
      rw [decide_eq_true rfl] at S9
      obtain ⟨a9, c9, e9⟩ := own_form own9
      subst e9
      obtain ⟨m9, hm9⟩ : ∃ m, m = T.length := ⟨_, rfl⟩
      rw [← hm9] at S9 ⊢
      clear own9 o9 G8 O8 R8' hm9
      go_wp2_with fail
      refine S9.out.mono ?_
      rintro e w10 ⟨rfl, o10⟩
      have F := hideIt ((O3.out.same (O9.out.same o10)).low (Nat.le_refl _))
      clear S9 o10 O9
      go_wp2
      go_ret
      exact ⟨rfl, F.out⟩
    · have hx : X = [] := List.eq_nil_of_length_eq_zero (by have := HMX.out; omega)
      obtain ⟨a5, c5, e5⟩ := own_form own5'
      subst e5
      have oS : Only (fun j => j = gm) w5 (w5.setCell ⟨gm, k, none⟩ (.slice a5 m c5)) := Only.setCell (S := fun j => j = gm) (p := ⟨gm, k, none⟩) (Only.refl _ _) (fun _ => rfl) _
      have kk : (w5.setCell ⟨gm, k, none⟩ (.slice a5 m c5)).cell? ⟨gm, k, none⟩ = some (.slice a5 m c5) := World.cell?_setCell_same _ _ _ kc
      have hcell2 : ∀ j, j < n → j ≠ k → (w5.setCell ⟨gm, k, none⟩ (.slice a5 m c5)).cell? ⟨gm, j, none⟩ = vs[j]? := fun j hj e => by rw [World.cell?_setCell_other _ _ _ _ (fun e' => e (by cases e'; rfl)), hcell j hj]
      have O3D : Only (fun _ => False) w3 (w5.setCell ⟨gm, k, none⟩ (.slice a5 m c5)) := O35.trans oS (fun i hi e => by have := GM.out; omega)
      have hZX : Z = X := by rw [HZ.out, if_neg (by rw [← HMX.out]; exact hm0)]
      have hB5 : Bs .u8 (w5.setCell ⟨gm, k, none⟩ (.slice a5 m c5)) (.slice a5 m c5) X := (own_bs own5').keepE oS (fun h => absurd hx h)
      have RLM : Hid (RL (w5.setCell ⟨gm, k, none⟩ (.slice a5 m c5)) (.slice (some ⟨gm, 0, none⟩) n cm) M) := by
        have h := RL.put (w := w) (w' := w5.setCell ⟨gm, k, none⟩ (.slice a5 m c5)) (g := gm) (n := n) (cap := cm) (k := k) (vs := vs) (ls := l) (z := X) HV.out.2.1 HN.out.1 GM.out.2.2.1 hcell2 kk HV.out.2.2 (O3.out.same O3D) hB5 (NoCap.of_own own5')
        show RL _ _ M
        rw [HMM.out, hZX]; exact h
      have O3W := hideIt O3D
      obtain rfl : m = 0 := by omega
      clear own5 own5' g5 O45 Q5 huk hcell O35 oS hcell2 O3D hZX hm0 HX HV HZ HMM HMX HN HBY Q1 GM O34 q0 k0 U0 c0 Z1 OC O4 hx hB5
      go_wp2_with fail
      refine (P3.out _ _ RLM.out).mono ?_
      rintro e w6 ⟨v6, rfl, r6, n6, o6⟩
      have O6 := hideIt (O3W.out.same o6)
      have R6 := hideIt (And.intro (R3.out.past O6.out) (And.intro r6 (RLM.out.past o6)))
      have G7 := hideIt (TF.out w6 (O3.out.same O6.out))
      obtain ⟨a6, c6, e6⟩ := r6.len
      subst e6
      obtain ⟨m6, hm6⟩ : ∃ m, m = T.length := ⟨_, rfl⟩
      rw [← hm6] at R6 ⊢
      clear r6 n6 o6 O3W RLM R3 hm6 TF P3 kk kc kf
      go_wp2_with fail
      refine G7.out.mono ?_
      rintro e w7 ⟨v7, rfl, own7, o7⟩
      have O7 := hideIt (O6.out.same o7)
      have R7 := hideIt (And.intro (R6.out.2.1.past o7) (R6.out.2.2.past o7))
      have S7 := hideIt (lsame20_any _ v7 Y Y w7 (R6.out.1.past o7) (own_bs own7) (by have := tl.out; omega))
      rw [decide_eq_true rfl] at S7
      obtain ⟨a7, c7, e7⟩ := own_form own7
      subst e7
      obtain ⟨m7, hm7⟩ : ∃ m, m = Y.length := ⟨_, rfl⟩
      rw [← hm7] at S7 ⊢
      clear own7 o7 G7 O6 R6 hm7
      go_wp2_with fail
      refine S7.out.mono ?_
      rintro e w8 ⟨rfl, o8⟩
      have O8 := hideIt (O7.out.same o8)
      have R8' := hideIt (R7.out.1.past o8)
      have G8 := hideIt (UF.out w8 _ (R7.out.2.past o8))
      clear S7 o8 O7 R7 UF
      go_wp2_with fail
      refine G8.out.mono ?_
      rintro e w9 ⟨v9, rfl, own9, o9⟩
      have O9 := hideIt (O8.out.same o9)
      have S9 := hideIt (lsame20_any _ v9 T T w9 (R8'.out.past o9) (own_bs own9) (by have := tm.out; omega))
      rw [decide_eq_true rfl] at S9
      obtain ⟨a9, c9, e9⟩ := own_form own9
      subst e9
      obtain ⟨m9, hm9⟩ : ∃ m, m = T.length := ⟨_, rfl⟩
      rw [← hm9] at S9 ⊢
      clear own9 o9 G8 O8 R8' hm9
      go_wp2_with fail
      refine S9.out.mono ?_
      rintro e w10 ⟨rfl, o10⟩
      have F := hideIt ((O3.out.same (O9.out.same o10)).low (Nat.le_refl _))
      clear S9 o10 O9
      go_wp2
      go_ret
      exact ⟨rfl, F.out⟩
end Go.Proofs.Ytnifflnhbpfmnab
