/- Package dict: read, Decode. -/
import Derived.Test.YtgnaeajfajineaaDr
import Derived.Test.YtgnaeajfajineaaDn
import Derived.Test.YtgnaeajfajineaaBRd
import Derived.Test.YtgnaeajfajineaaEq
namespace Go.Proofs.Ytgnaeajfajineaa
open Go.RowKit Go.Maps

theorem rdP_take (w : Nat) : ∀ (n j : Nat) (k : List Bool), j ≤ n → (rdP w n k).take j = rdP w j k
  | n, 0, k, _ => by simp [rdP]
  | 0, j + 1, k, h => by omega
  | n + 1, j + 1, k, h => by rw [rdP, rdP, List.take_succ_cons, rdP_take w n j _ (by omega)]
theorem rdP_mem (w n j : Nat) (k : List Bool) (h : j < n) : bnum ((k.drop (j * w)).take w) ∈ rdP w n k := by
  refine List.mem_of_mem_take (i := j + 1) ?_
  rw [rdP_take w n (j + 1) k h, rdP_snoc]
  simp
/-- the first k patterns, and 0 for the others -/
def pt (D : List Int) (w : Nat) (b : List Bool) (n k : Nat) : List Int := ((rdP w k b).map fun p => D.getD p 0) ++ List.replicate (n - k) 0
theorem pt_len (D : List Int) (w : Nat) (b : List Bool) (n k : Nat) (h : k ≤ n) : (pt D w b n k).length = n := by
  unfold pt; rw [List.length_append, List.length_map, rdP_len, List.length_replicate]; omega
theorem pt_zero (D : List Int) (w : Nat) (b : List Bool) (n : Nat) : (pt D w b n 0).map (Value.int .u64) = (madeCells #[Value.int .u64 0] (n * 1)).toList := by
  apply List.ext_getElem?
  intro i
  by_cases h : i < n
  · simp [pt, rdP, madeCells, h, Nat.mod_one]
  · simp [pt, rdP, madeCells, h]
theorem pt_all (D : List Int) (w : Nat) (b : List Bool) (n : Nat) : pt D w b n n = (rdP w n b).map fun p => D.getD p 0 := by simp [pt]
theorem pt_step (D : List Int) (w : Nat) (b : List Bool) (n k : Nat) (h : k < n) : (pt D w b n k).set k (D.getD (bnum ((b.drop (k * w)).take w)) 0) = pt D w b n (k + 1) := by
  unfold pt
  have hlen : ((rdP w k b).map fun p => D.getD p 0).length = k := by rw [List.length_map, rdP_len]
  rw [show n - k = (n - (k + 1)) + 1 by omega, List.replicate_succ, List.set_append_right _ _ (by omega), hlen, Nat.sub_self, List.set_cons_zero, rdP_snoc, List.map_append, List.append_assoc]
  rfl

/-- what is read behind the varint, unheld against what would be written -/
def RB (many n : Nat) (rest : List Int) : List Int × Int :=
  if rest.length < 8 * many then ([], 2) else
  if (allBits (rest.drop (8 * many))).length < n * wP many then ([], 2) else
  if ∃ p ∈ rdP (wP many) n (allBits (rest.drop (8 * many))), many ≤ p then ([], 3) else
  ((rdP (wP many) n (allBits (rest.drop (8 * many)))).map (fun p => (rd8 many rest).getD p 0), 0)
def RD10 (ys : List Int) (n : Nat) : List Int × Int :=
  if (sVarint ys).2.2 ≠ 0 then ([], (sVarint ys).2.2) else
  if (n : Int) < (sVarint ys).1 then ([], 3) else RB (sVarint ys).1.toNat n (ys.drop (sVarint ys).2.1)
theorem RB_DECB (many n : Nat) (rest b : List Int) : DECB many n rest b = if (RB many n rest).2 ≠ 0 then ([], (RB many n rest).2) else if (ENC10 (RB many n rest).1).1 = b then ((RB many n rest).1, 0) else ([], 3) := by
  unfold DECB RB
  by_cases c1 : rest.length < 8 * many
  · simp only [if_pos c1]; rfl
  · by_cases c2 : (allBits (rest.drop (8 * many))).length < n * wP many
    · simp only [if_neg c1, if_pos c2]; rfl
    · by_cases c3 : ∃ p ∈ rdP (wP many) n (allBits (rest.drop (8 * many))), many ≤ p
      · simp only [if_neg c1, if_neg c2, if_pos c3]; rfl
      · simp only [if_neg c1, if_neg c2, if_neg c3]; rfl
theorem DEC10_RD (ys : List Int) (n : Nat) (hn : n ≤ 65536) : DEC10 ys n = if (RD10 ys n).2 ≠ 0 then ([], (RD10 ys n).2) else if (ENC10 (RD10 ys n).1).1 = ys then ((RD10 ys n).1, 0) else ([], 3) := by
  unfold DEC10 RD10
  rw [if_neg (by omega), Int.toNat_natCast]
  by_cases c1 : (sVarint ys).2.2 ≠ 0
  · simp only [if_pos c1]
  · by_cases c2 : (n : Int) < (sVarint ys).1
    · simp only [if_neg c1, if_pos c2]; rfl
    · simp only [if_neg c1, if_neg c2]; exact RB_DECB _ _ _ _
theorem RB_u64 {many n : Nat} {rest : List Int} (hr : ∀ y ∈ rest, 0 ≤ y ∧ y ≤ 255) : U64 (RB many n rest).1 := by
  unfold RB
  by_cases c1 : rest.length < 8 * many
  · rw [if_pos c1]; intro x hx; simp at hx
  · rw [if_neg c1]
    by_cases c2 : (allBits (rest.drop (8 * many))).length < n * wP many
    · rw [if_pos c2]; intro x hx; simp at hx
    · rw [if_neg c2]
      by_cases c3 : ∃ p ∈ rdP (wP many) n (allBits (rest.drop (8 * many))), many ≤ p
      · rw [if_pos c3]; intro x hx; simp at hx
      · rw [if_neg c3]
        intro x hx
        obtain ⟨p, hp, rfl⟩ := List.mem_map.1 hx
        have hpm : p < many := by
          rcases Nat.lt_or_ge p many with e | e
          · exact e
          · exact absurd ⟨p, hp, e⟩ c3
        have hp8 : p < (rd8 many rest).length := by rw [rd8_len]; exact hpm
        refine rd8_u64 many rest hr _ ?_
        rw [List.getD_eq_getElem?_getD, List.getElem?_eq_getElem hp8]
        exact List.getElem_mem hp8
theorem RD10_u64 {ys : List Int} {n : Nat} (hr : ∀ y ∈ ys, 0 ≤ y ∧ y ≤ 255) : U64 (RD10 ys n).1 := by
  unfold RD10
  by_cases c1 : (sVarint ys).2.2 ≠ 0
  · rw [if_pos c1]; intro x hx; simp at hx
  · rw [if_neg c1]
    by_cases c2 : (n : Int) < (sVarint ys).1
    · rw [if_pos c2]; intro x hx; simp at hx
    · rw [if_neg c2]; exact RB_u64 (fun y hy => hr y (List.mem_of_mem_drop hy))
theorem sBytes_whole (ys : List Int) : sBytes (ys.length : Int) ys = (ys, ys.length, 0) := by
  unfold sBytes; rw [if_neg (by omega), if_neg (by omega), Int.toNat_natCast, List.take_length]

set_option maxHeartbeats 2000000 in
set_option maxRecDepth 100000 in
theorem read10_bs {w : World} {R : Nat} {v : Value} {ys : List Int} (h : CurAt 79 w R v ys) (hv : ∀ k, v.ownBlock = some k → k < w.heap.size) (n : Nat) {a j : Nat} (hs : sVarint ys = ((a : Int), j, 0)) (hn : n ≤ 65536) (ha : a ≤ n) (rest : List Int) (hrest : rest = ys.drop j) :
    Calls Try.prog 27 #[.pointer (some ⟨R, 0, none⟩), .int .i64 n] w fun e w' => ∃ u, e = .returned (.tuple #[u, .int .i64 (RB a n rest).2]) ∧ w'.ownsRow w.heap.size 35 1 u (RB a n rest).1.length ((RB a n rest).1.map (Value.int .u64)) ∧ Only (fun k => k = R) w w' := by
  have RD := hideIt (rdict_bs h hv n hs hn ha rest hrest)
  have hrr : ∀ y ∈ rest, 0 ≤ y ∧ y ≤ 255 := fun y hy => h.rng y (by rw [hrest] at hy; exact List.mem_of_mem_drop hy)
  have HRNG : Hid (∀ y ∈ rest.drop (8 * a), 0 ≤ y ∧ y ≤ 255) := fun y hy => hrr y (List.mem_of_mem_drop hy)
  have HLEN : Hid ((rest.drop (8 * a)).length ≤ 1000000000000) := by
    simp only [Hid]; have := h.len; rw [hrest, List.length_drop, List.length_drop]; omega
  have HR := hideIt (lt_of_heap h.cell)
  have HDU := hideIt (rd8_u64 a rest hrr)
  obtain ⟨E, hE⟩ : ∃ E, E = RB a n rest := ⟨_, rfl⟩
  rw [← hE]
  have HE := hideIt hE
  clear h hv hs hrest hrr hE
  go_enter Try.func27, Try.ntmps27
  go_wp2_with fail
  refine RD.out.mono ?_
  rintro e w1 (⟨HS, rfl, o1⟩ | ⟨HS, u, v2, rfl, own1, cu1, ob1, o1⟩)
  · have HE2 : Hid (E = ([], 2)) := by simp only [Hid]; rw [HE.out]; unfold RB; rw [if_pos HS.out]
    have O1 := hideIt o1
    clear o1 RD HE
    go_wp2
    go_ret2
    have hE := HE2.out
    subst hE
    exact ⟨_, rfl, World.ownsRow_nil _ _ _ _, O1.out⟩
  · obtain ⟨D, hD⟩ : ∃ D, D = rd8 a rest := ⟨_, rfl⟩
    obtain ⟨r, hr⟩ : ∃ r, r = rest.drop (8 * a) := ⟨_, rfl⟩
    have hdl : D.length = a := by rw [hD, rd8_len]
    have HE2 : Hid (E = if (allBits r).length < n * wP a then ([], 2) else if ∃ p ∈ rdP (wP a) n (allBits r), a ≤ p then ([], 3) else ((rdP (wP a) n (allBits r)).map (fun p => D.getD p 0), 0)) := by
      simp only [Hid]; rw [HE.out]; unfold RB; have := HS.out; rw [if_neg (by omega), ← hr, ← hD]
    rw [← hD] at own1 HDU
    rw [← hr] at cu1 HRNG HLEN
    obtain ⟨a6, c6, e6⟩ : ∃ a6 c6, u = .slice a6 a c6 := by
      have := (Bs.of_own (k := .u64) (xs := D) (by rw [hdl]; exact own1)).len
      rw [hdl] at this; exact this
    subst e6
    have OW1 := hideIt own1
    have O1 := hideIt o1
    have HDL := hideIt hdl
    have C := hideIt (Left_cur cu1)
    have B := hideIt (bytes_cur cu1 r.length)
    rw [sBytes_whole] at B
    have VB : Hid (∀ k, (Value.slice a6 a c6).ownBlock = some k → w.heap.size ≤ k ∧ k < w1.heap.size) := fun k hk => own1.lt k hk
    obtain ⟨q, hq⟩ : ∃ q, q = wP a := ⟨_, rfl⟩
    have hq16 : q ≤ 16 := by rw [hq]; exact wP_le (by omega)
    rw [← hq] at HE2
    have HQ := hideIt hq
    obtain ⟨rl, hrl⟩ : ∃ rl, rl = r.length := ⟨_, rfl⟩
    rw [← hrl] at C B HLEN
    have HRL := hideIt hrl
    have rl0 : rl ≤ 1000000000000 := HLEN.out
    clear own1 o1 RD hD hdl hr cu1 ob1 HE hrl hq
    go_wp2_with fail
    refine C.out.mono ?_
    rintro e w1' ⟨rfl, rfl⟩
    clear C
    go_wp2_with fail
    refine B.out.mono ?_
    rintro e w2 ⟨v3, rfl, b3, _, _, v4, _, _, o2⟩
    have EN := hideIt (newReader_bs v3 r w2 b3 HRNG.out (by rw [← HRL.out]; exact rl0))
    have O2 := hideIt (O1.out.trans o2 (fun _ _ e => e))
    have OW2 := hideIt (o2.own OW1.out (fun k hk f => by have := (VB.out k hk).1; have := HR.out; omega))
    have S2 := hideIt o2.size
    obtain ⟨a3, c3, e3⟩ := b3.len
    subst e3
    rw [← HRL.out] at EN ⊢
    clear B o2 b3
    go_wp2_with fail
    refine EN.out.mono ?_
    rintro e w3 ⟨R4, v5, rfl, r4, o3, g1, g2, g3⟩
    have PW := hideIt (placeWidth_any a w3 (by omega))
    rw [← HQ.out] at PW
    have F := hideIt (left_rd r4)
    rw [← HRL.out] at F
    have O3 := hideIt (O2.out.trans o3 (fun _ _ f => f.elim))
    have OW3 := hideIt (o3.own OW2.out (fun _ _ f => f))
    have R4' := hideIt r4
    have S3 := hideIt o3.size
    have G := hideIt (And.intro g1 (And.intro g2 g3))
    clear EN o3 r4 g1 g2 g3
    go_wp2_with fail
    refine PW.out.mono ?_
    rintro e w3' ⟨rfl, rfl⟩
    clear PW
    go_wp2_with fail
    refine F.out.mono ?_
    rintro e w5 ⟨rfl, o5⟩
    have O5 := hideIt (O3.out.trans o5 (fun _ _ f => f.elim))
    have R5 := hideIt (R4'.out.keep o5 (fun f => f) (fun _ _ f => f))
    have OW5 := hideIt (o5.own OW3.out (fun _ _ f => f))
    have S5 := hideIt o5.size
    clear F o5
    have hnq : n * q ≤ 65536 * 16 := Nat.mul_le_mul hn hq16
    have hnqI : Hid (((n : Int) * (q : Int)) = ((n * q : Nat) : Int)) := by simp only [Hid]; simp
    have m0 : 0 ≤ (n : Int) * (q : Int) := by rw [hnqI.out]; omega
    have m1 : (n : Int) * (q : Int) ≤ 1048576 := by rw [hnqI.out]; omega
    have hal := allBits_length r
    rw [← HRL.out] at hal
    by_cases hsh : 8 * rl < n * q
    · have HE3 := HE2.out
      rw [if_pos (by rw [hal]; exact hsh)] at HE3
      have HE3 := hideIt HE3
      have d2 : decide (8 * (rl : Int) < (n : Int) * (q : Int)) = true := by rw [hnqI.out]; simp only [decide_eq_true_eq]; omega
      clear hsh hal hnq HE2
      go_wp2
      go_ret2
      have hE := HE3.out
      subst hE
      exact ⟨_, rfl, World.ownsRow_nil _ _ _ _, O5.out⟩
    · have HE3 := HE2.out
      rw [if_neg (by rw [hal]; exact hsh)] at HE3
      have HE3 := hideIt HE3
      have d2 : decide (8 * (rl : Int) < (n : Int) * (q : Int)) = false := by rw [hnqI.out]; simp only [decide_eq_false_iff_not]; omega
      have HSH := hideIt hsh
      obtain ⟨i0, hi, hz0, hz1, hz2⟩ := info_parts Try.infoU64
      obtain ⟨wm, hmk, hown0, hgr⟩ := run_make_full (P := Try.prog) w5 w5.heap.size 22 35 i0 (.int .u64 0) 1 Try.underlying22 hi hz0 hz1 .i64 .i64 n (by rw [hz2]; omega) (by unfold maxLen; omega) (Nat.le_refl _)
      rw [show (Value.int .u64 0).cells = #[Value.int .u64 0] from rfl, ← pt_zero D q (allBits r) n] at hown0
      have om : Only (fun _ => False) w5 wm := (Only.refl _ _).grown hgr (fun _ _ e => by cases e)
      have G2 : Hid (R4 < w5.heap.size ∧ (∀ k, v5.ownBlock = some k → k < w5.heap.size) ∧ w.heap.size ≤ w5.heap.size ∧ w.heap.size ≤ R4 ∧ (∀ k, (Value.slice a6 a c6).ownBlock = some k → k < w5.heap.size ∧ k ≠ R4)) := by
        have g := G.out
        have s5 := S5.out
        have s2 := S2.out
        have s1 := O1.out.size
        have s3 := S3.out
        exact ⟨by omega, fun k hk => by have := (g.2.2 k hk).2; omega, O5.out.size, by have := O2.out.size; omega, fun k hk => by have := (VB.out k hk).2; omega⟩
      have START : Hid (RdAt 87 wm R4 v5 r (0 * q) ∧ wm.ownsRow w5.heap.size 35 1 (.slice (some ⟨w5.heap.size, 0, none⟩) n n) n ((pt D q (allBits r) n 0).map (Value.int .u64)) ∧ Only (fun j => j = R) w wm ∧ wm.ownsRow w.heap.size 35 1 (.slice a6 a c6) a (D.map (Value.int .u64)) ∧ (∀ p ∈ rdP q 0 (allBits r), p < a)) :=
        ⟨by rw [Nat.zero_mul]; exact R5.out.keep om (fun f => f) (fun _ _ f => f), hown0, O5.out.trans om (fun _ _ f => f.elim), om.own OW5.out (fun _ _ f => f), fun p hp => by simp [rdP] at hp⟩
      obtain ⟨N, hN⟩ : ∃ N, N = w5.heap.size := ⟨_, rfl⟩
      rw [← hN] at hmk START G2
      clear hsh hown0 hgr om R5 R4' G S5 O3 O2 O1 hN OW5 OW3 OW2 OW1 hnq VB HE2 hal
      go_wp2
      go_loopw [47] (fun i wr => ∃ k : Nat, k ≤ n ∧ i = .int .i64 k ∧ RdAt 87 wr R4 v5 r (k * q) ∧ wr.ownsRow N 35 1 (.slice (some ⟨N, 0, none⟩) n n) n ((pt D q (allBits r) n k).map (Value.int .u64)) ∧ Only (fun j => j = R) w wr ∧ wr.ownsRow w.heap.size 35 1 (.slice a6 a c6) a (D.map (Value.int .u64)) ∧ (∀ p ∈ rdP q k (allBits r), p < a)) (fun i _ => n - (intOf i).toNat)
      case atStart => exact ⟨0, Nat.zero_le _, rfl, START.out⟩
      case round =>
        obtain ⟨k, hk, rfl, hrd, hown, hon, hdic, hpl⟩ := hrel
        clear START hmk
        have HOWN := hideIt hown
        have HON := hideIt hon
        have HPL := hideIt hpl
        have HDIC := hideIt hdic
        by_cases hlt : k < n
        · have hkq : k * q + q ≤ 8 * r.length := by
            have h1 : (k + 1) * q ≤ n * q := Nat.mul_le_mul_right q (by omega)
            rw [Nat.add_mul, Nat.one_mul] at h1
            have := HSH.out
            have := HRL.out
            omega
          have GT := get_rd hrd (q : Int) (by omega) (by omega) (by omega)
          rw [Int.toNat_natCast] at GT
          have GT := hideIt GT
          have hx : Hid (bnum (((allBits r).drop (k * q)).take q) < 18446744073709551616) := by
            have h1 := bnum_lt (((allBits r).drop (k * q)).take q)
            have h2 : 2 ^ (((allBits r).drop (k * q)).take q).length ≤ 2 ^ 64 := Nat.pow_le_pow_right (by omega) (by rw [List.length_take]; omega)
            have h3 : (2 : Nat) ^ 64 = 18446744073709551616 := by decide
            simp only [Hid]; omega
          have dlt : decide ((k : Int) < (n : Int)) = true := by simp; omega
          have MEM := hideIt (rdP_mem q n k (allBits r) hlt)
          have SNO := hideIt (rdP_snoc q k (allBits r))
          have hstep := pt_step D q (allBits r) n k hlt
          clear hrd hkq hown hon hpl hdic
          generalize bnum (((allBits r).drop (k * q)).take q) = x at *
          go_wp2_with fail
          refine GT.out.mono ?_
          rintro e w6 ⟨rfl, r6, o6⟩
          have own6 := o6.own HOWN.out (fun j hj => by
            have e1 : j = N := by simp [Value.ownBlock] at hj; exact hj.symm
            have := G2.out.1
            omega)
          have dic6 := o6.own HDIC.out (fun j hj f => (G2.out.2.2.2.2 j hj).2 f)
          have O6 := hideIt (HON.out.trans o6 (fun i hi e => by have := G2.out.2.2.2.1; omega))
          have R6 := hideIt r6
          have hxx := hx.out
          by_cases hxa : a ≤ x
          · have HE4 := HE3.out
            rw [if_pos ⟨x, MEM.out, hxa⟩] at HE4
            have HE4 := hideIt HE4
            have da : decide ((a : Int) ≤ (x : Int)) = true := by simp; omega
            have db : decide (a ≤ x) = true := decide_eq_true hxa
            clear GT own6 dic6 r6 o6 hxx hx HE3 hstep
            go_wp2
            go_ret2
            have hE := HE4.out
            subst hE
            exact ⟨_, rfl, World.ownsRow_nil _ _ _ _, O6.out⟩
          · have da : decide ((a : Int) ≤ (x : Int)) = false := by simp; omega
            have db : decide (a ≤ x) = false := decide_eq_false hxa
            have ck : w6.cell? ⟨N, k, none⟩ = some (.int .u64 ((pt D q (allBits r) n k).getD k 0)) := by
              rw [own6.cellAt k (by omega), List.getElem?_map, List.getElem?_eq_getElem (by rw [pt_len _ _ _ _ _ hk]; exact hlt), List.getD_eq_getElem?_getD, List.getElem?_eq_getElem (by rw [pt_len _ _ _ _ _ hk]; exact hlt)]
              rfl
            have fk : w6.frozen? ⟨N, k, none⟩ = false := own6.frozenAt _
            obtain ⟨b7, o7, c7, e7, hc7⟩ := (Bs.of_own (k := .u64) (xs := D) (by rw [HDL.out]; exact dic6)).at x (by rw [HDL.out]; omega)
            have ea : a6 = some ⟨b7, o7, none⟩ := by simp at e7; exact e7.1
            subst ea
            have HB7 := hideIt (G2.out.2.2.2.2 b7 rfl)
            have hstep : Hid (((pt D q (allBits r) n k).map (Value.int .u64)).set k (.int .u64 (D.getD x 0)) = (pt D q (allBits r) n (k + 1)).map (Value.int .u64)) := by
              simp only [Hid]; rw [← List.map_set, hstep]
            have PL2 : Hid (∀ p ∈ rdP q (k + 1) (allBits r), p < a) := by
              intro p hp
              rw [SNO.out, List.mem_append] at hp
              rcases hp with hp | hp
              · exact HPL.out p hp
              · simp at hp; omega
            have OWN6 := hideIt own6
            have DIC6 := hideIt dic6
            obtain ⟨z, hz⟩ : ∃ z, z = (pt D q (allBits r) n k).getD k 0 := ⟨_, rfl⟩
            rw [← hz] at ck
            obtain ⟨y, hy⟩ : ∃ y, y = D.getD x 0 := ⟨_, rfl⟩
            rw [← hy] at hc7 hstep
            have xi : (x : Int) < (a : Int) := by omega
            clear GT own6 dic6 r6 o6 hz hx e7 hy hxa HE3 HOWN HON HDIC HPL SNO MEM
            go_wp2
            go_roundw
            case rel =>
              have g := G2.out
              have hb7 := HB7.out
              have oN : Only (fun j => j = N) w6 (w6.setCell ⟨N, k, none⟩ (.int .u64 y)) := (Only.refl (fun j => j = N) w6).setCell (fun _ => rfl) _
              refine ⟨k + 1, by omega, by simp, ?_, ?_, ?_, ?_, PL2.out⟩
              · rw [Nat.add_mul, Nat.one_mul]
                exact R6.out.keep oN (by omega) (fun j hj => by have := g.2.1 j hj; omega)
              · have h1 := (OWN6.out.stored k (.int .u64 y)).1
                rw [hstep.out] at h1
                exact h1
              · exact O6.out.setCell (fun hb => by simp only at hb; omega) _
              · exact oN.own DIC6.out (fun j hj => by have := (g.2.2.2.2 j hj).1; omega)
            case measure => simp [intOf]; omega
        · obtain rfl : k = n := by omega
          have dlt : decide ((k : Int) < (k : Int)) = false := by simp
          have HE4 := HE3.out
          rw [if_neg (fun ⟨p, hp, h⟩ => by have := hpl p hp; omega)] at HE4
          have HE4 := hideIt HE4
          clear hown hon hrd hdic hpl
          go_wp2
          go_ret2
          have hE := HE4.out
          subst hE
          refine ⟨_, rfl, ?_, HON.out⟩
          have h1 := own_low HOWN.out G2.out.2.2.1
          rw [pt_all] at h1
          rw [List.length_map, rdP_len]
          exact h1
end Go.Proofs.Ytgnaeajfajineaa
