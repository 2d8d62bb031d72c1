/- Package simple: words are read, and bytes decoded. -/
import Derived.Test.YtjfbokmbpmidbaaWord
import Derived.Test.YtjfbokmbpmidbaaEq
namespace Go.Proofs.Ytjfbokmbpmidbaa
open Go.RowKit

theorem Try.infoU64 : (Try.prog.info? 36).map (fun i => (i.zero, i.size, i.bytes)) = some (some (.int .u64 0), 1, 8) := by kernel_rfl
theorem nms_snoc (v k : Nat) : ((List.range (k + 1)).map fun i => (numAt v (wi (v / 2 ^ 60)) i : Int)) = ((List.range k).map fun i => (numAt v (wi (v / 2 ^ 60)) i : Int)) ++ [(numAt v (wi (v / 2 ^ 60)) k : Int)] := by
  rw [List.range_succ, List.map_append]; rfl
theorem numAt_and (v q k : Nat) (hv : v < 18446744073709551616) (hq : q ≤ 60) : bits .and .u64 ((v : Int) / 2 ^ (60 - (k + 1) * q)) (2 ^ q - 1) = (numAt v q k : Int) := by
  have e1 : ((v : Int) / 2 ^ (60 - (k + 1) * q)) = ((v / 2 ^ (60 - (k + 1) * q) : Nat) : Int) := by simp
  have hp := Nat.two_pow_pos q
  have e2 : ((2 : Int) ^ q - 1) = ((2 ^ q - 1 : Nat) : Int) := by
    rw [← cast_pow]; omega
  have h60 : 2 ^ q ≤ 2 ^ 60 := Nat.pow_le_pow_right (by omega) hq
  have e60 : (2 : Nat) ^ 60 = 1152921504606846976 := by decide
  have hd := Nat.div_le_self v (2 ^ (60 - (k + 1) * q))
  rw [e1, e2, u64_and_nat _ _ (by omega) (by omega), Nat.and_two_pow_sub_one_eq_mod]
  rfl

set_option maxHeartbeats 800000 in
set_option maxRecDepth 100000 in
/-- THE NUMBERS OF A WORD behind those that are there. -/
theorem appendNumbers_own (lo : Nat) (u : Value) (acc : List Int) (v : Nat) (w : World) (hown : w.ownsRow lo 36 1 u acc.length (acc.map (Value.int .u64))) (hlo : lo ≤ w.heap.size) (hv : v < 18446744073709551616) (ha : acc.length ≤ 70000) :
    Calls Try.prog 32 #[u, .int .u64 v] w fun e w' => ∃ u', e = .returned u' ∧ w'.ownsRow lo 36 1 u' (acc ++ nms v).length ((acc ++ nms v).map (Value.int .u64)) ∧ Only (fun k => lo ≤ k) w w' := by
  obtain ⟨i0, hi, hz0, hz1, hz2⟩ := info_parts Try.infoU64
  have hs := sort_lt hv
  obtain ⟨g1, g2, g3, g4, _⟩ := sort_at _ hs
  have e60 : (2 : Int) ^ 60 = 1152921504606846976 := by decide
  have RM : Hid (Calls Try.prog 12 #[.int .i64 ((v : Int) / 1152921504606846976)] w fun e w' => e = .returned (.tuple #[.int .i64 (cn (v / 2 ^ 60)), .int .i64 (wi (v / 2 ^ 60))]) ∧ Only (fun _ => False) w w') := by
    have := room_at (v / 2 ^ 60) w hs
    have e : ((v / 2 ^ 60 : Nat) : Int) = (v : Int) / 1152921504606846976 := by rw [← e60]; simp
    rw [e] at this
    exact this
  have NU : Hid (nms v = ((List.range (cn (v / 2 ^ 60))).map fun i => (numAt v (wi (v / 2 ^ 60)) i : Int))) := rfl
  have SN : Hid (∀ k, ((List.range (k + 1)).map fun i => (numAt v (wi (v / 2 ^ 60)) i : Int)) = ((List.range k).map fun i => (numAt v (wi (v / 2 ^ 60)) i : Int)) ++ [(numAt v (wi (v / 2 ^ 60)) k : Int)]) := nms_snoc v
  generalize wi (v / 2 ^ 60) = q at *
  generalize cn (v / 2 ^ 60) = c at *
  have AN : Hid (∀ k, bits .and .u64 ((v : Int) / 2 ^ (60 - (k + 1) * q)) (2 ^ q - 1) = (numAt v q k : Int)) := fun k => numAt_and v q k hv g3
  have v0 : (0 : Int) ≤ (v : Int) := by omega
  have v1 : (v : Int) ≤ 18446744073709551615 := by omega
  have q1 : (q : Int) ≤ 60 := by omega
  have HOWN := hideIt hown
  have t0 : (1 : Int) ≤ 2 ^ q := pow_mono (Nat.zero_le q)
  have t1 : (2 : Int) ^ q ≤ 1152921504606846976 := by rw [← e60]; exact pow_mono g3
  clear hown hs e60
  go_enter Try.func32, Try.ntmps32
  go_wp2_with fail
  refine RM.out.mono ?_
  rintro e w1 ⟨rfl, o1⟩
  have O1 := hideIt o1
  have OW1 := hideIt (o1.own HOWN.out (fun _ _ f => f))
  clear o1 RM HOWN
  go_wp2
  go_loopw [0, 20] (fun o i wr => ∃ k : Nat, k ≤ c ∧ i = .int .i64 k ∧ wr.ownsRow lo 36 1 o (acc.length + k) ((acc ++ (List.range k).map fun i => (numAt v q i : Int)).map (Value.int .u64)) ∧ Only (fun k => lo ≤ k) w wr) (fun _ i _ => c - (intOf i).toNat)
  case atStart => exact ⟨0, Nat.zero_le _, rfl, by simpa using OW1.out, O1.out.mono (fun _ _ f => f.elim)⟩
  case round =>
    obtain ⟨k, hk, rfl, hown, hon⟩ := hrel
    clear OW1 O1
    by_cases hlt : k < c
    · have pk : (k + 1) * q ≤ 60 := Nat.le_trans (Nat.mul_le_mul_right q (by omega)) g4
      have p0 : (0 : Int) ≤ ((k : Int) + 1) * (q : Int) := by rw [show ((k : Int) + 1) = ((k + 1 : Nat) : Int) by simp, ← Int.natCast_mul]; omega
      have p1 : ((k : Int) + 1) * (q : Int) ≤ 60 := by rw [show ((k : Int) + 1) = ((k + 1 : Nat) : Int) by simp, ← Int.natCast_mul]; omega
      have A1 := AN.out k
      have S1 := hideIt (SN.out k)
      have hsz := hon.size
      have hN := hideIt hon
      generalize numAt v q k = x at A1 S1
      clear hk hon
      go_wp2_with (at_builtin; refine wpList_append_lies _ rfl _ _ _ rfl lo 36 i0 (.int .u64 0) 1 8 Try.underlying22 hi hz0 hz1 hz2 rfl (by omega) _ (acc.length + k) _ rfl (hown.alloc _) ⟨wr.heap.size, 0, none⟩ 1 1 [.int .u64 x] rfl rfl ?c1 ?c2 (by omega) ?c3 ?c4 ?c5 (wr.heap.size + 1) (by simp) ?_)
      case c1 => exact cell_one_new _ _ _
      case c2 => intro u hu; simp at hu; subst hu; rfl
      case c3 => unfold maxLen; omega
      case c4 => omega
      case c5 => simp; omega
      intro g cap1 w3 hown1 hgrow hat hg1
      have o3 := hideIt ((hN.out.alloc _).grown hgrow (fun p _ hp => (hown.lt p hp).1))
      have own3 : Hid (w3.ownsRow lo 36 1 (.slice (some ⟨g, 0, none⟩) (acc.length + k + 1) cap1) (acc.length + (k + 1)) ((acc ++ (List.range (k + 1)).map fun i => (numAt v q i : Int)).map (Value.int .u64))) := by
        simp only [Hid]
        rw [S1.out, ← Nat.add_assoc]; simpa using hown1
      clear hown hown1 hgrow hat hN
      go_wp2
      go_roundw
      case rel => exact ⟨k + 1, by omega, by go_num, own3.out, o3.out⟩
      case measure => simp [intOf]; omega
    · have hkc : k = c := by omega
      subst hkc
      have F : Hid (wr.ownsRow lo 36 1 u0 (acc ++ nms v).length ((acc ++ nms v).map (Value.int .u64)) ∧ Only (fun k => lo ≤ k) w wr) := by
        simp only [Hid]
        rw [NU.out]
        exact ⟨by simpa using hown, hon⟩
      clear hown hon
      go_wp2
      go_ret
      exact ⟨_, rfl, F.out⟩

theorem sFixed8_short {ys : List Int} (h : ys.length < 8) : sFixed 8 ys = (0, 0, 2) := by
  unfold sFixed
  rw [if_neg (by omega), if_pos (by omega)]
theorem sFixed8_ok {ys : List Int} (h : 8 ≤ ys.length) : sFixed 8 ys = ((num (ys.take 8) : Int), 8, 0) := by
  unfold sFixed
  rw [if_neg (by omega), if_neg (by omega)]
  rfl
/-- how many a slice has -/
def lenS : Value → Nat | .slice _ n _ => n | _ => 0

set_option maxHeartbeats 800000 in
set_option maxRecDepth 100000 in
theorem read_cur {w : World} {R : Nat} {v : Value} {ys : List Int} (h : CurAt 60 w R v ys) (hvb : ∀ k, v.ownBlock = some k → k < w.heap.size) (n : Nat) (hn : n ≤ 65536) :
    Calls Try.prog 26 #[.pointer (some ⟨R, 0, none⟩), .int .i64 n] w fun e w' => ∃ u, e = .returned (.tuple #[u, .int .i64 (rdA n ys).2.2]) ∧ w'.ownsRow w.heap.size 36 1 u (rdA n ys).1.length ((rdA n ys).1.map (Value.int .u64)) ∧ Only (fun k => k = R) w w' := by
  have hR : R < w.heap.size := (Array.getElem?_eq_some_iff.1 h.cell).1
  have HC := hideIt h
  have HVB := hideIt hvb
  clear h hvb
  go_enter Try.func26, Try.ntmps26
  go_wp2
  go_loopw [6] (fun l wr => ∃ (f : Nat) (acc ys' : List Int) (v' : Value), wr.ownsRow w.heap.size 36 1 l acc.length (acc.map (Value.int .u64)) ∧ CurAt 60 wr R v' ys' ∧ v'.ownBlock = v.ownBlock ∧ ys'.length < f ∧ rdF f n acc ys' = rdA n ys ∧ acc.length < n + 240 ∧ Only (fun k => k = R) w wr) (fun l _ => n - lenS l)
  case atStart => exact ⟨ys.length + 1, [], ys, v, World.ownsRow_nil _ _ _ _, HC.out, rfl, by omega, rfl, by simp, Only.refl _ _⟩
  case round =>
    obtain ⟨f, acc, ys', v', hown, hcur, hob, hf, hrd, hacc, hon⟩ := hrel
    clear HC
    obtain ⟨a6, c6, e6⟩ := (Bs.of_own hown).len
    subst e6
    have HOWN := hideIt hown
    have HON := hideIt hon
    have HOB := hideIt hob
    by_cases hlt : acc.length < n
    · have d0 : decide ((acc.length : Int) < (n : Int)) = true := by simp; omega
      have FX := hideIt (fixed_cur hcur 8)
      by_cases hs : ys'.length < 8
      · rw [sFixed8_short hs] at FX
        have HR : Hid (rdA n ys = ([], ys', 2)) := by simp only [Hid]; rw [← hrd, rdF_short hlt hs (by omega)]
        clear hown hcur hob hrd hon
        generalize acc.length = m at *
        go_wp2_with fail
        refine FX.out.mono ?_
        rintro e w2 ⟨rfl, v2, _, _, o2⟩
        have O2 := hideIt (HON.out.trans o2 (fun _ _ e => e))
        clear FX o2 HOWN
        go_wp2
        go_ret2
        rw [HR.out]
        exact ⟨_, rfl, World.ownsRow_nil _ _ _ _, O2.out⟩
      · rw [sFixed8_ok (by omega)] at FX
        have hv := num8_lt hcur.rng
        have hstep := rdF_step hlt (by omega) hf
        have HRD : Hid (rdF (f - 1) n (acc ++ nms (num (ys'.take 8))) (ys'.drop 8) = rdA n ys ∧ (ys'.drop 8).length < f - 1) := ⟨by rw [← hrd, hstep.1], hstep.2⟩
        have HNL : Hid ((acc ++ nms (num (ys'.take 8))).length < n + 240 ∧ acc.length < (acc ++ nms (num (ys'.take 8))).length) := by
          have h4 := sort_at _ (sort_lt hv)
          simp only [Hid]
          rw [List.length_append, nms_length]; omega
        have HV := hideIt hv
        obtain ⟨x, hx⟩ : ∃ x, x = num (ys'.take 8) := ⟨_, rfl⟩
        rw [← hx] at FX HRD HNL HV
        obtain ⟨m, hm⟩ : ∃ m, m = acc.length := ⟨_, rfl⟩
        rw [← hm] at HOWN d0 HNL hlt ⊢
        have HM := hideIt hm
        obtain ⟨z, hz⟩ : ∃ z, z = acc ++ nms x := ⟨_, rfl⟩
        rw [← hz] at HRD HNL
        have HZ := hideIt hz
        clear hz
        clear hown hcur hob hrd hon hstep hx hv hm
        go_wp2_with fail
        refine FX.out.mono ?_
        rintro e w2 ⟨rfl, v2, cur2, ob2, o2⟩
        have O2 := hideIt (HON.out.trans o2 (fun _ _ e => e))
        have OW2 : Hid (w2.ownsRow w.heap.size 36 1 (.slice a6 acc.length c6) acc.length (acc.map (Value.int .u64))) := by
          simp only [Hid]; rw [← HM.out]
          exact o2.own HOWN.out (fun k hk e => by have := (HOWN.out.lt k hk).1; omega)
        have CUR2 := hideIt cur2
        have OB2 := hideIt (ob2.trans HOB.out)
        have AP := hideIt (appendNumbers_own w.heap.size _ acc x w2 OW2.out O2.out.size HV.out (by omega))
        rw [← HM.out, ← HZ.out] at AP
        clear FX o2 HOWN HON HOB cur2 ob2 OW2
        go_wp2_with fail
        refine AP.out.mono ?_
        rintro e w3 ⟨u3, rfl, own3, o3⟩
        have F : Hid (CurAt 60 w3 R v2 (ys'.drop 8) ∧ v2.ownBlock = v.ownBlock ∧ Only (fun k => k = R) w w3) :=
          ⟨CUR2.out.keep o3 (by omega) (fun k hk e => by have := HVB.out k (by rw [← OB2.out]; exact hk); omega), OB2.out, O2.out.trans o3 (fun k hk e => by omega)⟩
        have OWN3 := hideIt own3
        obtain ⟨a7, c7, e7⟩ := (Bs.of_own own3).len
        subst e7
        clear AP own3 o3 O2 CUR2 OB2
        go_wp2
        go_roundw
        case rel => exact ⟨f - 1, _, ys'.drop 8, v2, OWN3.out, F.out.1, F.out.2.1, HRD.out.2, HRD.out.1, HNL.out.1, F.out.2.2⟩
        case measure => have := HNL.out; simp only [lenS]; omega
    · have d0 : decide ((acc.length : Int) < (n : Int)) = false := decide_eq_false (by omega)
      have HR : Hid (rdA n ys = (acc, ys', 0)) := by simp only [Hid]; rw [← hrd, rdF_done (by omega)]
      clear hown hcur hob hrd hon
      obtain ⟨m, hm⟩ : ∃ m, m = acc.length := ⟨_, rfl⟩
      rw [← hm] at HOWN d0 hlt ⊢
      have HM := hideIt hm
      clear hm
      go_wp2
      go_ret2
      rw [HR.out]
      exact ⟨_, rfl, by rw [← HM.out]; exact HOWN.out, HON.out⟩

set_option maxHeartbeats 400000 in
set_option maxRecDepth 100000 in
theorem decode_arg (v : Value) (n : Int) (w : World) (h : n < 0 ∨ 65536 < n) :
    Calls Try.prog 15 #[v, .int .i64 n] w fun e w' => e = .returned (.tuple #[.slice none 0 0, .int .i64 1]) ∧ w = w' := by
  by_cases h0 : n < 0
  · have d0 : decide (n < 0) = true := decide_eq_true h0
    clear h
    go_enter Try.func15, Try.ntmps15
    go_wp2
    go_ret2
    exact ⟨rfl, rfl⟩
  · have d0 : decide (n < 0) = false := decide_eq_false h0
    have d1 : decide (65536 < n) = true := decide_eq_true (by omega)
    clear h
    go_enter Try.func15, Try.ntmps15
    go_wp2
    go_ret2
    exact ⟨rfl, rfl⟩

set_option maxHeartbeats 800000 in
set_option maxRecDepth 100000 in
/-- BYTES ARE DECODED: new memory. -/
theorem decode_bs (v : Value) (ys : List Int) (n : Nat) (w : World) (h : Bs .u8 w v ys) (hr : ∀ y ∈ ys, 0 ≤ y ∧ y ≤ 255) (hl : ys.length ≤ 1000000000000) (hn : n ≤ 65536) :
    Calls Try.prog 15 #[v, .int .i64 n] w fun e w' => ∃ u, e = .returned (.tuple #[u, .int .i64 (dec ys n).2]) ∧ w'.ownsRow w.heap.size 36 1 u (dec ys n).1.length ((dec ys n).1.map (Value.int .u64)) ∧ Only (fun _ => False) w w' := by
  have d0 : decide ((n : Int) < 0) = false := by simp
  have d1 : decide (65536 < (n : Int)) = false := by simp; omega
  have NW := hideIt (new_bs v ys w h hr hl)
  have HB := hideIt h
  have HR := hideIt hr
  have RF := hideIt (rdA_facts (n := n) hr)
  clear h hr
  go_enter Try.func15, Try.ntmps15
  go_wp2_with fail
  refine NW.out.mono ?_
  rintro e w1 ⟨R, v1, rfl, cur, o1, r0, r1, hv1⟩
  have RD := hideIt (read_cur cur (fun k hk => (hv1 k hk).2) n hn)
  have HR0 := hideIt (And.intro r0 o1.size)
  have O1 := hideIt o1
  clear NW cur o1 hv1 r0 r1
  go_wp2_with fail
  refine RD.out.mono ?_
  rintro e w2 ⟨u, rfl, own2, o2⟩
  have O2 := hideIt (O1.out.trans o2 (fun k hk e => absurd HR0.out.1 (by omega)))
  have OW2 := hideIt (own_low own2 HR0.out.2)
  clear RD own2 o2 O1
  rcases RF.out with ⟨f1, f2⟩ | ⟨f1, f2, f3, f4⟩
  · have HD : Hid (dec ys n = ([], 2)) := by simp only [Hid, dec]; rw [if_pos (by rw [f1]; decide)]
    rw [f1]
    clear f1 f2 OW2 RF HR0
    obtain ⟨x2, h2⟩ : ∃ x2 : Int, x2 = 2 := ⟨_, rfl⟩
    go_wp2
    go_ret2
    rw [HD.out]
    exact ⟨_, rfl, World.ownsRow_nil _ _ _ _, O2.out⟩
  · have HF0 := hideIt f1
    rw [f1]
    obtain ⟨l, hl2⟩ : ∃ l, l = (rdA n ys).1 := ⟨_, rfl⟩
    rw [← hl2] at OW2 f2 f3 f4
    have HL2 := hideIt hl2
    have hb2 := Bs.of_own OW2.out
    obtain ⟨a2, c2, e2⟩ := hb2.len
    subst e2
    by_cases hgt : n < l.length
    · have HD : Hid (dec ys n = ([], 3)) := by simp only [Hid, dec]; rw [if_neg (by rw [f1]; decide), ← hl2, if_pos hgt]
      clear f1 f2 RF HR0 hb2 hl2 OW2
      generalize l.length = m at *
      have dm : decide (n < m) = true := decide_eq_true hgt
      go_wp2
      go_ret2
      rw [HD.out]
      exact ⟨_, rfl, World.ownsRow_nil _ _ _ _, O2.out⟩
    · have hln : l.length = n := by omega
      have EN := hideIt (encode_bs _ l w2 hb2 f2 (by omega))
      have HER := hideIt (enc_range l.length l rfl f2)
      have HB2 := hideIt (HB.out.keep O2.out (fun _ _ f => f))
      have HDY : Hid (dec ys n = if enc l = ys then (l, 0) else ([], 3)) := by simp only [Hid, dec]; rw [if_neg (by rw [f1]; decide), ← hl2, if_neg hgt]
      have HSZ := hideIt O2.out.size
      rw [hln] at EN OW2 ⊢
      have HLN := hideIt hln
      have dn : decide (n < n) = false := by simp
      clear f1 f2 f3 f4 RF HR0 hb2 hl2 hgt hln
      go_wp2_with fail
      refine EN.out.mono ?_
      rintro e w3 ⟨u3, rfl, own3, o3⟩
      have EQ := hideIt (equal_bs u3 v (enc l) ys w3 (Bs.of_own own3) (HB2.out.keep o3 (fun _ _ f => f)) HER.out HR.out)
      have O3 := hideIt (O2.out.trans o3 (fun _ _ f => f))
      have OW3 := hideIt (o3.own OW2.out (fun _ _ f => f))
      obtain ⟨a3, c3, e3⟩ := (Bs.of_own own3).len
      subst e3
      obtain ⟨m3, hm3⟩ : ∃ m3, m3 = (enc l).length := ⟨_, rfl⟩
      rw [← hm3] at EQ ⊢
      clear EN own3 o3 OW2 O2 hm3
      by_cases he : enc l = ys
      · rw [if_pos he] at HDY
        rw [decide_eq_true he] at EQ
        clear he
        go_wp2_with fail
        refine EQ.out.mono ?_
        rintro e w4 ⟨rfl, rfl⟩
        clear EQ
        go_wp2
        go_ret2
        rw [HDY.out]
        exact ⟨_, rfl, by rw [HLN.out]; exact OW3.out, O3.out⟩
      · rw [if_neg he] at HDY
        rw [decide_eq_false he] at EQ
        clear he
        go_wp2_with fail
        refine EQ.out.mono ?_
        rintro e w4 ⟨rfl, rfl⟩
        clear EQ
        go_wp2
        go_ret2
        rw [HDY.out]
        exact ⟨_, rfl, World.ownsRow_nil _ _ _ _, O3.out⟩
end Go.Proofs.Ytjfbokmbpmidbaa
