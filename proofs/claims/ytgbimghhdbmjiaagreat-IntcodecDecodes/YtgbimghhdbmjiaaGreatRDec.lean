/- The reference for simple: Decode. -/
import Derived.Test.YtgbimghhdbmjiaaGreatREnc2
import Derived.Test.YtgbimghhdbmjiaaGreatG8
namespace Go.Proofs.YtgbimghhdbmjiaaGreat
open Go.RowKit

set_option maxHeartbeats 400000 in
set_option maxRecDepth 100000 in
theorem rdecode_arg (v : Value) (n : Int) (w : World) (h : n < 0 ∨ 65536 < n) :
    Calls Tryz.prog 32 #[v, .int .i64 n] w fun e w' => e = .returned (.tuple #[.slice none 0 0, .int .i64 1]) ∧ w = w' := by
  by_cases h0 : n < 0
  · have d0 : decide (n < 0) = true := decide_eq_true h0
    clear h
    go_enter Tryz.func32, Tryz.ntmps32
    go_wp2
    go_ret2
    exact ⟨rfl, rfl⟩
  · have d0 : decide (n < 0) = false := decide_eq_false h0
    have d1 : decide (65536 < n) = true := decide_eq_true (by omega)
    clear h
    go_enter Tryz.func32, Tryz.ntmps32
    go_wp2
    go_ret2
    exact ⟨rfl, rfl⟩

/-- the reference's way to a number of a word -/
theorem numAt_and4 (v q k : Nat) (hq : q ≤ 60) (hk : (k + 1) * q ≤ 60) : bits .and .u64 (((v : Int) * 16 % 18446744073709551616) / 2 ^ (64 - (k + 1) * q)) (2 ^ q - 1) = (numAt v q k : Int) := by
  have e0 : ((v : Int) * 16 % 18446744073709551616) = ((v * 16 % 18446744073709551616 : Nat) : Int) := by omega
  have e1 : (((v * 16 % 18446744073709551616 : Nat) : Int) / 2 ^ (64 - (k + 1) * q)) = ((v * 16 % 18446744073709551616 / 2 ^ (64 - (k + 1) * q) : Nat) : Int) := by simp
  have hp := Nat.two_pow_pos q
  have e2 : ((2 : Int) ^ q - 1) = ((2 ^ q - 1 : Nat) : Int) := by
    rw [← cast_pow]; omega
  have h60 : 2 ^ q ≤ 2 ^ 60 := Nat.pow_le_pow_right (by omega) hq
  have e60 : (2 : Nat) ^ 60 = 1152921504606846976 := by decide
  have hd := Nat.div_le_self (v * 16 % 18446744073709551616) (2 ^ (64 - (k + 1) * q))
  rw [e0, e1, e2, u64_and_nat _ _ (by omega) (by omega), Nat.and_two_pow_sub_one_eq_mod]
  unfold numAt
  have hkq : (k + 1) * q = k * q + q := by rw [Nat.add_mul, Nat.one_mul]
  have e3 : v * 16 % 18446744073709551616 = v % 2 ^ 60 * 16 := by rw [e60]; omega
  have e4 : (2 : Nat) ^ (64 - (k + 1) * q) = 16 * 2 ^ (60 - (k + 1) * q) := by
    rw [show 64 - (k + 1) * q = 4 + (60 - (k + 1) * q) by omega, Nat.pow_add]
  rw [e3, e4, ← Nat.div_div_eq_div_mul, Nat.mul_div_cancel _ (by omega)]
  have e5 : (2 : Nat) ^ 60 = 2 ^ (60 - (k + 1) * q) * 2 ^ ((k + 1) * q) := by rw [← Nat.pow_add]; congr 1; omega
  rw [e5, Nat.mod_mul_right_div_self, Nat.mod_mod_of_dvd _ (Nat.pow_dvd_pow 2 (by omega))]

/-- bytes stay where other blocks turn -/
theorem Bs.keepNe {k : IntKind} {w w' : World} {v : Value} {xs : List Int} (h : Bs k w v xs) {S : Nat → Prop} (ho : Only S w w') (hs : xs ≠ [] → ∀ b, v.ownBlock = some b → ¬ S b) : Bs k w' v xs := by
  by_cases hx : xs = []
  · obtain ⟨ao, cap, rfl, hc, _⟩ := h
    exact ⟨ao, cap, rfl, hc, fun h0 => absurd hx h0⟩
  · exact h.keep ho (hs hx)
theorem Bs.blockLt {k : IntKind} {w : World} {v : Value} {xs : List Int} (h : Bs k w v xs) (hx : xs ≠ []) : ∀ b, v.ownBlock = some b → b < w.heap.size := by
  obtain ⟨ao, cap, rfl, hc, hr⟩ := h
  obtain ⟨b, off, rfl, hcell⟩ := hr hx
  intro b' hb'
  cases hb'
  exact World.block_lt_of_cell? w _ (hcell 0 (List.length_pos_iff.2 hx))

set_option maxHeartbeats 1600000 in
set_option maxRecDepth 100000 in
theorem rdecode_bs (v : Value) (ys : List Int) (n : Nat) (w : World) (h : Bs .u8 w v ys) (nc : NoCap v) (hr : ∀ y ∈ ys, 0 ≤ y ∧ y ≤ 255) (hl : ys.length ≤ 1000000) (hn : n ≤ 65536) :
    Calls Tryz.prog 32 #[v, .int .i64 n] w fun e w' => ∃ u, e = .returned (.tuple #[u, .int .i64 (dec ys n).2]) ∧ w'.ownsRow w.heap.size 42 1 u (dec ys n).1.length ((dec ys n).1.map (Value.int .u64)) ∧ Only (fun _ => False) w w' := by
  obtain ⟨i0, hi, hz0, hz1, hz2⟩ := info_parts Tryz.infoU64
  have d0 : decide ((n : Int) < 0) = false := by simp
  have d1 : decide (65536 < (n : Int)) = false := by simp; omega
  obtain ⟨ao, cap, rfl⟩ := h.len
  have HB := hideIt h
  have NC := hideIt nc
  have HR := hideIt hr
  have RF := hideIt (rdA_facts (n := n) hr)
  have RR : Hid ((rdA n ys).2.2 = 0 → (rdA n ys).1.length = n → enc (rdA n ys).1 = ys → (rdA n ys).2.1 = []) := rdA_rest hr
  have HBL : Hid (ys ≠ [] → ∀ k, (Value.slice ao ys.length cap).ownBlock = some k → k < w.heap.size) := h.blockLt
  obtain ⟨m, hm⟩ : ∃ m, m = ys.length := ⟨_, rfl⟩
  rw [← hm] at HB NC hl ⊢
  have HM := hideIt hm
  clear h hr nc hm
  go_enter Tryz.func32, Tryz.ntmps32
  go_wp2
  go_loopw [6, 7] (fun o l wr => ∃ (f : Nat) (acc ys' : List Int) (ao' : Option Addr) (cap' : Nat), l = .slice ao' ys'.length cap' ∧ wr.ownsRow w.heap.size 42 1 o acc.length (acc.map (Value.int .u64)) ∧ Bs .u8 wr (.slice ao' ys'.length cap') ys' ∧ NoCap (.slice ao' ys'.length cap') ∧ (ys' ≠ [] → ∀ k, (Value.slice ao' ys'.length cap').ownBlock = some k → k < w.heap.size) ∧ (∀ y ∈ ys', 0 ≤ y ∧ y ≤ 255) ∧ ys'.length ≤ m ∧ ys'.length < f ∧ rdF f n acc ys' = rdA n ys ∧ acc.length < n + 240 ∧ Only (fun _ => False) w wr) (fun o _ _ => n - lenS o)
  case atStart => exact ⟨ys.length + 1, [], ys, ao, cap, by rw [HM.out], World.ownsRow_nil _ _ _ _, by rw [← HM.out]; exact HB.out, by rw [← HM.out]; exact NC.out, HBL.out, HR.out, by rw [HM.out]; omega, by omega, rfl, by simp, Only.refl _ _⟩
  case round =>
    obtain ⟨f, acc, ys', ao', cap', rfl, hown, hbs, hnc, hbl, hrr, hym, hf, hrd, hacc, hon⟩ := hrel
    obtain ⟨a6, c6, e6⟩ := (Bs.of_own hown).len
    subst e6
    have HOWN := hideIt hown
    have HON := hideIt hon
    have HBLT := hideIt hbl
    have HRR := hideIt hrr
    by_cases hlt : acc.length < n
    · by_cases hs : ys'.length < 8
      · have FX := hideIt (rfixed_at ao' ys'.length cap' ys' wr hbs hnc hrr (by omega) 8 (sFixed8_short hs))
        have HRE : Hid (rdA n ys = ([], ys', 2)) := by simp only [Hid]; rw [← hrd, rdF_short hlt hs (by omega)]
        have HD : Hid (dec ys n = ([], 2)) := by simp only [Hid, dec]; rw [HRE.out]; exact if_pos (show (2 : Int) ≠ 0 by decide)
        clear hown hbs hnc hbl hrr hrd hon RF RR HRE
        obtain ⟨p, hp⟩ : ∃ p, p = acc.length := ⟨_, rfl⟩
        rw [← hp] at HOWN hlt hacc ⊢
        obtain ⟨p', hp'⟩ : ∃ p', p' = ys'.length := ⟨_, rfl⟩
        rw [← hp'] at FX ⊢
        have dl : decide (p < n) = true := decide_eq_true hlt
        clear hp hp'
        go_wp2_with fail
        refine FX.out.mono ?_
        rintro e w2 ⟨ao2, m2, cap2, rfl, _, _, o2, _⟩
        have O2 := hideIt (HON.out.trans o2 (fun _ _ e => e))
        clear FX o2 HOWN
        go_wp2
        go_ret2
        rw [HD.out]
        exact ⟨_, rfl, World.ownsRow_nil _ _ _ _, O2.out⟩
      · have FX := hideIt (rfixed_at ao' ys'.length cap' ys' wr hbs hnc hrr (by omega) 8 (sFixed8_ok (by omega)))
        have hv := num8_lt hrr
        have hstep := rdF_step hlt (by omega) hf
        have HRD : Hid (rdF (f - 1) n (acc ++ nms (num (ys'.take 8))) (ys'.drop 8) = rdA n ys ∧ (ys'.drop 8).length < f - 1) := ⟨by rw [← hrd, hstep.1], hstep.2⟩
        have hs16 := sort_lt hv
        have h4 := sort_at _ hs16
        have HNL : Hid ((acc ++ nms (num (ys'.take 8))).length < n + 240 ∧ acc.length < (acc ++ nms (num (ys'.take 8))).length) := by
          simp only [Hid]
          rw [List.length_append, nms_length]; omega
        have HBD : Hid (ys'.drop 8 ≠ [] → ∀ k, (Value.slice ao' ys'.length cap').ownBlock = some k → k < w.heap.size) := fun hne => HBLT.out (fun h0 => hne (by rw [h0]; rfl))
        have HRD2 : Hid ((∀ y ∈ ys'.drop 8, 0 ≤ y ∧ y ≤ 255) ∧ (ys'.drop 8).length ≤ m) := ⟨fun y hy => HRR.out y (List.mem_of_mem_drop hy), by rw [List.length_drop]; omega⟩
        obtain ⟨x, hx⟩ : ∃ x, x = num (ys'.take 8) := ⟨_, rfl⟩
        rw [← hx] at FX HRD HNL hv h4 hs16
        have e60 : (2 : Int) ^ 60 = 1152921504606846976 := by decide
        have RM : Hid (∀ w2, Calls Tryz.prog 62 #[.int .i64 ((x : Int) / 1152921504606846976)] w2 fun e w' => e = .returned (.tuple #[.int .i64 (cn (x / 2 ^ 60)), .int .i64 (wi (x / 2 ^ 60))]) ∧ Only (fun _ => False) w2 w') := fun w2 => by
          have := rroom_at (x / 2 ^ 60) w2 hs16
          have e : ((x / 2 ^ 60 : Nat) : Int) = (x : Int) / 1152921504606846976 := by rw [← e60]; simp
          rw [e] at this
          exact this
        have NU : Hid (nms x = ((List.range (cn (x / 2 ^ 60))).map fun i => (numAt x (wi (x / 2 ^ 60)) i : Int))) := rfl
        have SN : Hid (∀ k, ((List.range (k + 1)).map fun i => (numAt x (wi (x / 2 ^ 60)) i : Int)) = ((List.range k).map fun i => (numAt x (wi (x / 2 ^ 60)) i : Int)) ++ [(numAt x (wi (x / 2 ^ 60)) k : Int)]) := nms_snoc x
        obtain ⟨g1, g2, g3, g4, _⟩ := h4
        generalize wi (x / 2 ^ 60) = q at *
        generalize cn (x / 2 ^ 60) = c at *
        have AN : Hid (∀ k, k < c → bits .and .u64 (IntKind.u64.wrap ((x : Int) * 16) / 2 ^ (64 - (k + 1) * q)) (2 ^ q - 1) = (numAt x q k : Int)) := fun k hk => by rw [IntKind.wrap_u64]; exact numAt_and4 x q k g3 (Nat.le_trans (Nat.mul_le_mul_right q (by omega)) g4)
        have v0 : (0 : Int) ≤ (x : Int) := by omega
        have v1 : (x : Int) ≤ 18446744073709551615 := by omega
        have q1 : (q : Int) ≤ 60 := by omega
        have t0 : (1 : Int) ≤ 2 ^ q := pow_mono (Nat.zero_le q)
        have t1 : (2 : Int) ^ q ≤ 1152921504606846976 := by rw [← e60]; exact pow_mono g3
        obtain ⟨p, hp⟩ : ∃ p, p = acc.length := ⟨_, rfl⟩
        rw [← hp] at HOWN hlt hacc HNL ⊢
        have HP := hideIt hp
        obtain ⟨p', hp'⟩ : ∃ p', p' = ys'.length := ⟨_, rfl⟩
        rw [← hp'] at FX HBD ⊢
        have dl : decide (p < n) = true := decide_eq_true hlt
        clear hp hp' e60 hown hbs hnc hbl hrr hrd hon hstep hx hs16 HBLT HRR RF RR
        go_wp2_with fail
        refine FX.out.mono ?_
        rintro e w2 ⟨ao2, m2, cap2, rfl, bs2, nc2, o2, ob2⟩
        have hm2 := bs2.length
        subst hm2
        have F2 := hideIt (And.intro bs2 (And.intro nc2 ob2))
        have O2 := hideIt (HON.out.trans o2 (fun _ _ e => e))
        have OW2 := hideIt (o2.own HOWN.out (fun _ _ f => f))
        clear FX o2 HOWN HON bs2 nc2 ob2
        obtain ⟨p2, hp2⟩ : ∃ p2, p2 = (ys'.drop 8).length := ⟨_, rfl⟩
        rw [← hp2]
        have HP2 := hideIt hp2
        clear hp2
        go_wp2_with fail
        refine (RM.out w2).mono ?_
        rintro e w3 ⟨rfl, o3⟩
        have O3 := hideIt (O2.out.trans o3 (fun _ _ e => e))
        have OW3 := hideIt (o3.own OW2.out (fun _ _ f => f))
        have B3 := hideIt (F2.out.1.keep o3 (fun _ _ f => f))
        clear o3 O2 OW2 RM
        go_wp2
        go_loopw [6, 13] (fun o i wr => ∃ k : Nat, k ≤ c ∧ i = .int .i64 k ∧ wr.ownsRow w.heap.size 42 1 o (acc.length + k) ((acc ++ (List.range k).map fun i => (numAt x q i : Int)).map (Value.int .u64)) ∧ Only (fun k => w.heap.size ≤ k) w3 wr ∧ Only (fun _ => False) w wr) (fun _ i _ => c - (intOf i).toNat)
        case atStart => exact ⟨0, Nat.zero_le _, rfl, by rw [Nat.add_zero, ← HP.out]; simpa using OW3.out, Only.refl _ _, O3.out⟩
        case round =>
          obtain ⟨k, hk, rfl, hown, hon3, hon⟩ := hrel
          clear OW3
          by_cases hlt2 : k < c
          · have pk : (k + 1) * q ≤ 60 := Nat.le_trans (Nat.mul_le_mul_right q (by omega)) g4
            have p0 : (0 : Int) ≤ ((k : Int) + 1) * (q : Int) := by rw [show ((k : Int) + 1) = ((k + 1 : Nat) : Int) by simp, ← Int.natCast_mul]; omega
            have p1 : ((k : Int) + 1) * (q : Int) ≤ 60 := by rw [show ((k : Int) + 1) = ((k + 1 : Nat) : Int) by simp, ← Int.natCast_mul]; omega
            have A1 := AN.out k hlt2
            have S1 := hideIt (SN.out k)
            have hsz := hon.size
            have hN := hideIt hon
            have hN3 := hideIt hon3
            have hpl : p ≤ 65536 := by omega
            rw [← HP.out] at hown
            generalize numAt x q k = y at A1 S1
            clear hk hon hon3
            go_wp2_with (at_builtin; refine wpList_append_lies _ rfl _ _ _ rfl w.heap.size 42 i0 (.int .u64 0) 1 8 Tryz.underlying39 hi hz0 hz1 hz2 rfl (by omega) _ (p + k) _ rfl (hown.alloc _) ⟨wr.heap.size, 0, none⟩ 1 1 [.int .u64 y] rfl rfl ?c1 ?c2 (by omega) ?c3 ?c4 ?c5 (wr.heap.size + 1) (by simp) ?_)
            case c1 => exact cell_one_new _ _ _
            case c2 => intro u hu; simp at hu; subst hu; rfl
            case c3 => unfold maxLen; omega
            case c4 => omega
            case c5 => simp; omega
            intro g cap1 w4 hown1 hgrow hat hg1
            have o3 := hideIt ((hN3.out.alloc _).grown hgrow (fun p _ hp => (hown.lt p hp).1))
            have o4 := hideIt ((hN.out.alloc _).grown hgrow (fun p hp0 hp => absurd (hown.lt p hp).1 (by omega)))
            have own3 : Hid (w4.ownsRow w.heap.size 42 1 (.slice (some ⟨g, 0, none⟩) (p + k + 1) cap1) (acc.length + (k + 1)) ((acc ++ (List.range (k + 1)).map fun i => (numAt x q i : Int)).map (Value.int .u64))) := by
              simp only [Hid]
              rw [S1.out, ← HP.out, ← Nat.add_assoc]; simpa using hown1
            clear hown hown1 hgrow hat hN hN3
            go_wp2
            go_roundw
            case rel => exact ⟨k + 1, by omega, by go_num, own3.out, o3.out, o4.out⟩
            case measure => simp [intOf]; omega
          · have hkc : k = c := by omega
            subst hkc
            have FIN : Hid (∃ a9 c9, u6 = .slice a9 (acc ++ nms x).length c9 ∧ wr.ownsRow w.heap.size 42 1 (.slice a9 (acc ++ nms x).length c9) (acc ++ nms x).length ((acc ++ nms x).map (Value.int .u64))) := by
              have h1 : wr.ownsRow w.heap.size 42 1 u6 (acc ++ nms x).length ((acc ++ nms x).map (Value.int .u64)) := by
                rw [NU.out]; simpa using hown
              obtain ⟨a9, c9, e9⟩ := (Bs.of_own h1).len
              subst e9
              exact ⟨a9, c9, rfl, h1⟩
            have BF : Hid (Bs .u8 wr (.slice ao2 (ys'.drop 8).length cap2) (ys'.drop 8) ∧ (ys'.drop 8 ≠ [] → ∀ k, (Value.slice ao2 (ys'.drop 8).length cap2).ownBlock = some k → k < w.heap.size)) := by
              have h2 : ys'.drop 8 ≠ [] → ∀ k, (Value.slice ao2 (ys'.drop 8).length cap2).ownBlock = some k → k < w.heap.size := fun hne k hk => HBD.out hne k (by rw [← F2.out.2.2]; exact hk)
              exact ⟨B3.out.keepNe hon3 (fun hne k hk hge => by have := h2 hne k hk; omega), h2⟩
            have ON := hideIt hon
            obtain ⟨a9, c9, e9, own9⟩ := FIN.out
            subst e9
            obtain ⟨z, hz⟩ : ∃ z, z = acc ++ nms x := ⟨_, rfl⟩
            rw [← hz] at own9 HNL HRD ⊢
            have OWN9 := hideIt own9
            obtain ⟨zl, hzl⟩ : ∃ zl, zl = z.length := ⟨_, rfl⟩
            rw [← hzl]
            have HZL := hideIt hzl
            clear hown hon hon3 own9 FIN hz hzl
            go_wp2
            go_roundw
            case rel => exact ⟨f - 1, z, ys'.drop 8, ao2, cap2, by rw [HP2.out], by rw [HZL.out]; exact OWN9.out, BF.out.1, F2.out.2.1, BF.out.2, HRD2.out.1, HRD2.out.2, HRD.out.2, HRD.out.1, HNL.out.1, ON.out⟩
            case measure => have := HNL.out.2; have := HZL.out; simp only [lenS]; omega
    · have HRE : Hid (rdA n ys = (acc, ys', 0)) := by simp only [Hid]; rw [← hrd, rdF_done (by omega)]
      have RF2 := RF.out
      have RR2 := RR.out
      rw [HRE.out] at RF2 RR2
      simp only [forall_const] at RR2
      rcases RF2 with ⟨f1, _⟩ | ⟨_, hup, hge, _⟩
      · cases f1
      simp only at hup hge
      have HUP := hideIt hup
      have HRR2 := hideIt RR2
      have HDY : Hid (dec ys n = if n < acc.length then ([], 3) else if enc acc = ys then (acc, 0) else ([], 3)) := by simp only [Hid, dec]; rw [HRE.out]; simp
      have HBW := hideIt (HB.out.keep hon (fun _ _ f => f))
      have dl : decide (acc.length < n) = false := decide_eq_false hlt
      have EN := hideIt (fun hn2 : acc.length = n => rencode_bs _ acc wr (Bs.of_own hown) hup (by omega))
      have HER := hideIt (enc_len acc.length acc rfl hup).2.1
      clear hown hbs hnc hbl hrr hrd hon RF RR HRE hup RR2 hge
      by_cases hne : acc.length = n
      · rw [if_neg (by omega)] at HDY
        have EN2 := hideIt (EN.out hne)
        have HRR3 := hideIt (HRR2.out hne)
        have HNE := hideIt hne
        rw [hne] at EN2 HOWN HER dl ⊢
        have dn : ((n : Int) != (n : Int)) = false := by simp
        clear EN HRR2 hlt hacc hne
        by_cases hy0 : ys' = []
        · subst hy0
          simp only [List.length_nil]
          clear HRR3 HBLT HRR
          go_wp2_with fail
          refine EN2.out.mono ?_
          rintro e w3 ⟨u3, rfl, own3, o3⟩
          have SM := hideIt (same_any u3 (.slice ao m cap) (enc acc) ys w3 (Bs.of_own own3) (HBW.out.keep o3 (fun _ _ f => f)) (by have := HER.out; omega))
          have O3 := hideIt (HON.out.trans o3 (fun _ _ f => f))
          have OW3 := hideIt (o3.own HOWN.out (fun _ _ f => f))
          obtain ⟨a3, c3, e3⟩ := (Bs.of_own own3).len
          subst e3
          obtain ⟨m3, hm3⟩ : ∃ m3, m3 = (enc acc).length := ⟨_, rfl⟩
          rw [← hm3] at SM ⊢
          clear EN2 own3 o3 HOWN HON hm3
          by_cases he : enc acc = ys
          · rw [if_pos he] at HDY
            rw [decide_eq_true he] at SM
            clear he
            go_wp2_with fail
            refine SM.out.mono ?_
            rintro e w4 ⟨rfl, o4⟩
            have O4 := hideIt (O3.out.trans o4 (fun _ _ f => f))
            have OW4 := hideIt (o4.own OW3.out (fun _ _ f => f))
            clear SM o4
            go_wp2
            go_ret2
            rw [HDY.out]
            exact ⟨_, rfl, by rw [HNE.out]; exact OW4.out, O4.out⟩
          · rw [if_neg he] at HDY
            rw [decide_eq_false he] at SM
            clear he
            go_wp2_with fail
            refine SM.out.mono ?_
            rintro e w4 ⟨rfl, o4⟩
            have O4 := hideIt (O3.out.trans o4 (fun _ _ f => f))
            clear SM o4
            go_wp2
            go_ret2
            rw [HDY.out]
            exact ⟨_, rfl, World.ownsRow_nil _ _ _ _, O4.out⟩
        · have hpos : 0 < ys'.length := List.length_pos_iff.2 hy0
          rw [if_neg (fun he => hy0 (HRR3.out he))] at HDY
          obtain ⟨p', hp'⟩ : ∃ p', p' = ys'.length := ⟨_, rfl⟩
          rw [← hp'] at hpos ⊢
          have dp : decide (0 < (p' : Int)) = true := by simp; omega
          clear HRR3 HBLT HRR hp' hy0 EN2
          go_wp2
          go_ret2
          rw [HDY.out]
          exact ⟨_, rfl, World.ownsRow_nil _ _ _ _, HON.out⟩
      · rw [if_pos (by omega)] at HDY
        obtain ⟨p, hp⟩ : ∃ p, p = acc.length := ⟨_, rfl⟩
        rw [← hp] at hne dl hlt ⊢
        have dn : ((p : Int) != (n : Int)) = true := by simp; omega
        obtain ⟨p', hp'⟩ : ∃ p', p' = ys'.length := ⟨_, rfl⟩
        rw [← hp']
        clear EN HRR2 HBLT HRR hp hp' HOWN HER HUP hacc
        go_wp2
        go_ret2
        rw [HDY.out]
        exact ⟨_, rfl, World.ownsRow_nil _ _ _ _, HON.out⟩
end Go.Proofs.YtgbimghhdbmjiaaGreat
