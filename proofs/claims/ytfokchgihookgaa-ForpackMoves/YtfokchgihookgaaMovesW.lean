/- The walk of the statement 'all numbers greater by the same take as many bits'. -/
import Derived.Test.YtfokchgihookgaaFAwake
import Derived.Test.YtfokchgihookgaaSameB
namespace Go.Proofs.Ytfokchgihookgaa
open Go.RowKit

theorem Try.infoU64m : (Try.prog.info? 35).map (fun i => (i.zero, i.size, i.bytes)) = some (some (.int .u64 0), 1, 8) := by kernel_rfl
theorem lo_again {xs : List Int} (h : xs ≠ []) : loF (xs.getD 0 0) xs = lo xs ∧ hiF (xs.getD 0 0) xs = hi xs := by
  cases xs with
  | nil => exact absurd rfl h
  | cons a t =>
    have e1 : loF ((a :: t).getD 0 0) (a :: t) = loF (min a a) t := rfl
    have e2 : hiF ((a :: t).getD 0 0) (a :: t) = hiF (max a a) t := rfl
    rw [e1, e2, Int.min_self, Int.max_self]
    exact ⟨rfl, rfl⟩

set_option maxHeartbeats 800000 in
set_option maxRecDepth 100000 in
theorem moves_none (v : Value) (xs : List Int) (d : Int) (w : World) (hb : Bs .u64 w v xs) (h : xs.length = 0 ∨ 400 < xs.length) :
    Calls Try.prog 7 #[v, .int .u64 d] w fun e w' => e = .returned (.bool true) ∧ Only (fun _ => False) w w' := by
  have AW := hideIt (awake_any w)
  obtain ⟨ao, cap, rfl⟩ := hb.len
  by_cases h0 : xs.length = 0
  · rw [h0]
    clear hb h h0
    go_enter Try.func7, Try.ntmps7
    go_wp2_with fail
    refine AW.out.mono ?_
    rintro e w1 ⟨rfl, on1⟩
    have O1 := hideIt on1
    clear on1 AW
    go_wp2
    go_ret
    exact ⟨rfl, O1.out⟩
  · have d0 : ((xs.length : Int) == 0) = false := by
      have : (xs.length : Int) ≠ 0 := by omega
      simpa using this
    have d1 : decide ((400 : Int) < xs.length) = true := decide_eq_true (by omega)
    clear hb h h0
    generalize xs.length = m at *
    go_enter Try.func7, Try.ntmps7
    go_wp2_with fail
    refine AW.out.mono ?_
    rintro e w1 ⟨rfl, on1⟩
    have O1 := hideIt on1
    clear on1 AW
    go_wp2
    go_ret
    exact ⟨rfl, O1.out⟩

set_option maxHeartbeats 1600000 in
set_option maxRecDepth 100000 in
theorem moves_run (v : Value) (xs : List Int) (d : Int) (w : World) (hb : Bs .u64 w v xs) (hu : U64 xs) (y0 : 0 ≤ d) (y1 : d ≤ 18446744073709551615) (hne : xs.length ≠ 0) (h4 : xs.length ≤ 400) :
    Calls Try.prog 7 #[v, .int .u64 d] w fun e w' => e = .returned (.bool true) ∧ Only (fun _ => False) w w' := by
  have AW := hideIt (awake_any w)
  have HB := hideIt hb
  obtain ⟨ao, cap, rfl⟩ := hb.len
  have HU := hideIt hu
  have HNE : Hid (xs ≠ []) := fun e => hne (by rw [e]; rfl)
  clear hb hu
  have d0 : ((xs.length : Int) == 0) = false := by
    have : (xs.length : Int) ≠ 0 := by omega
    simpa using this
  have d1 : decide ((400 : Int) < xs.length) = false := decide_eq_false (by omega)
  obtain ⟨i0, hi, hz0, hz1, hz2⟩ := info_parts Try.infoU64m
  have PA := hideIt (fun (w1 : World) (o : Only (fun _ => False) w w1) => pack_bs (.slice ao xs.length cap) xs w1 (HB.out.past o) HU.out (by omega))
  obtain ⟨m, hm⟩ : ∃ m, m = xs.length := ⟨_, rfl⟩
  rw [← hm] at HB PA d0 d1 ⊢
  have HM := hideIt hm
  have hm4 : m ≤ 400 := by omega
  have hm0 : 0 < m := by omega
  clear hne h4 hm
  go_enter Try.func7, Try.ntmps7
  go_wp2_with fail
  refine AW.out.mono ?_
  rintro e w1 ⟨rfl, on1⟩
  have O1 := hideIt on1
  clear AW on1
  go_wp2
  go_loopw [6, 7] (fun o i wr => ∃ k : Nat, k ≤ m ∧ i = .int .i64 k ∧ wr.ownsRow w1.heap.size 35 1 o k (((xs.take k).map fun x => x + d).map (Value.int .u64)) ∧ Below w1.heap.size w1 wr ∧ U64 ((xs.take k).map fun x => x + d)) (fun _ i _ => m - (intOf i).toNat)
  case atStart => exact ⟨0, Nat.zero_le _, rfl, World.ownsRow_nil _ _ _ _, Below.refl _ _, fun x hx => by simp at hx⟩
  case round =>
    obtain ⟨k, hk, rfl, hown, hbel, hU⟩ := hrel
    have HUK := hideIt hU
    have OWR := hideIt (O1.out.same (only_of_below hbel))
    clear hU
    by_cases hlt : k < m
    · have hkx : k < xs.length := by rw [← HM.out]; exact hlt
      obtain ⟨b, off, cap', e1, c0⟩ := (HB.out.past OWR.out).at k hkx
      simp only [Value.slice.injEq] at e1
      obtain ⟨rfl, e2, rfl⟩ := e1
      clear e2
      have hxm : xs.getD k 0 ∈ xs := by rw [List.getD_eq_getElem?_getD, List.getElem?_eq_getElem hkx]; simp
      obtain ⟨x0, x1⟩ := HU.out _ hxm
      have htk : Hid ((xs.take (k + 1)).map (fun x => x + d) = (xs.take k).map (fun x => x + d) ++ [xs.getD k 0 + d]) := by
        simp only [Hid]; rw [take_snoc xs k hkx, List.map_append]; rfl
      obtain ⟨x, hx⟩ : ∃ x, x = xs.getD k 0 := ⟨_, rfl⟩
      rw [← hx] at c0 x0 x1 htk
      have dlt : decide ((k : Int) < (m : Int)) = true := by simp; omega
      clear hx hxm hkx
      by_cases hov : 18446744073709551615 - d < x
      · have d2 : decide ((18446744073709551615 : Int) - d < x) = true := decide_eq_true hov
        clear hown hbel hov
        go_wp2
        go_ret
        exact ⟨rfl, OWR.out⟩
      · have d2 : decide ((18446744073709551615 : Int) - d < x) = false := decide_eq_false hov
        have hxd : x + d ≤ 18446744073709551615 := by omega
        have hsz := hbel.size
        obtain ⟨z, hz⟩ : ∃ z, z = (xs.take k).map fun x => x + d := ⟨_, rfl⟩
        rw [← hz] at hown htk HUK
        clear hz hov
        go_wp2_with (at_builtin; refine wpList_append_lies _ rfl _ _ _ rfl w1.heap.size 35 i0 (.int .u64 0) 1 8 Try.underlying22 hi hz0 hz1 hz2 rfl (by omega) _ k (z.map (Value.int .u64)) rfl (hown.alloc _) ⟨wr.heap.size, 0, none⟩ 1 1 [.int .u64 (x + d)] rfl rfl ?c1 ?c2 (by omega) ?c3 ?c4 ?c5 (wr.heap.size + 1) (by simp) ?_)
        case c1 => exact cell_one_new _ _ _
        case c2 => intro u hu; simp at hu; subst hu; rfl
        case c3 => unfold maxLen; omega
        case c4 => omega
        case c5 => simp; omega
        intro g cap1 w2 hown2 hgrow hat hg1
        have hb2 : Hid (Below w1.heap.size w1 w2) := (hbel.alloc hbel.size _).grown hgrow (by simp; omega) (fun q hq => (hown.lt q hq).1)
        have OWN2 : Hid (w2.ownsRow w1.heap.size 35 1 (.slice (some ⟨g, 0, none⟩) (k + 1) cap1) (k + 1) (((xs.take (k + 1)).map fun x => x + d).map (Value.int .u64))) := by
          simp only [Hid]
          rw [htk.out, List.map_append]; exact hown2
        have HU2 : Hid (U64 ((xs.take (k + 1)).map fun x => x + d)) := by
          intro y hy
          rw [htk.out] at hy
          rcases List.mem_append.1 hy with h | h
          · exact HUK.out y h
          · simp at h; omega
        clear hown hown2 hgrow hat hbel
        go_wp2
        go_roundw
        case rel => exact ⟨k + 1, by omega, by simp, OWN2.out, hb2.out, HU2.out⟩
        case measure => simp [intOf]; omega
    · obtain rfl : k = m := by omega
      have dlt : decide ((k : Int) < (k : Int)) = false := by simp
      have ht : xs.take k = xs := by rw [HM.out, List.take_length]
      rw [ht] at hown HUK
      have hlk : (xs.map fun x => x + d).length = k := by rw [List.length_map, ← HM.out]
      have own' : wr.ownsRow w1.heap.size 35 1 u6 (xs.map fun x => x + d).length ((xs.map fun x => x + d).map (Value.int .u64)) := by rw [hlk]; exact hown
      have A1 := hideIt (PA.out wr OWR.out)
      have BM := hideIt (Bs.of_own own')
      obtain ⟨f6, c6, e6⟩ := BM.out.len
      rw [hlk] at e6
      subst e6
      clear hown own' hbel PA ht
      have HLK := hideIt hlk
      clear hlk
      go_wp2_with fail
      refine A1.out.mono ?_
      rintro e w2 ⟨v2, rfl, own2, on2⟩
      have O2 := hideIt (OWR.out.same on2)
      have A2 := pack_bs (.slice f6 k c6) (xs.map fun x => x + d) w2 (BM.out.past on2) HUK.out (by have := HLK.out; omega)
      rw [pk_add HNE.out d] at A2
      have A2 := hideIt A2
      have B2 := hideIt (Bs.of_own own2)
      obtain ⟨g2, cp2, e2, _⟩ := own2.form (by rw [PK_length]; omega)
      subst e2
      clear A1 own2 on2
      go_wp2_with fail
      refine A2.out.mono ?_
      rintro e w3 ⟨v3, rfl, own3, on3⟩
      have O3 := hideIt (O2.out.same on3)
      have B23 := hideIt (B2.out.past on3)
      have B3 := hideIt (Bs.of_own own3)
      obtain ⟨g3, cp3, e3, _⟩ := own3.form (by rw [List.length_append, List.length_cons]; omega)
      subst e3
      clear A2 own3 on3 B2
      have hkx : 0 < xs.length := by rw [← HM.out]; exact hm0
      obtain ⟨b, off, cap', e1, c0⟩ := (HB.out.past O3.out).at 0 hkx
      simp only [Value.slice.injEq] at e1
      obtain ⟨rfl, e2, rfl⟩ := e1
      clear e2 hkx
      rw [Nat.add_zero] at c0
      obtain ⟨z0, hz0⟩ : ∃ z0, z0 = xs.getD 0 0 := ⟨_, rfl⟩
      rw [← hz0] at c0
      have HZ0 := hideIt hz0
      have ib : (0 : Int) < (k : Int) := by omega
      obtain ⟨N, hN⟩ : ∃ N, N = ((wd xs : Int) :: bytesI (up xs)).length := ⟨_, rfl⟩
      obtain ⟨ga, hga⟩ : ∃ ga, ga = (gs (lo xs).toNat).length := ⟨_, rfl⟩
      obtain ⟨gb, hgb⟩ : ∃ gb, gb = (gs (lo xs + d).toNat).length := ⟨_, rfl⟩
      have hpl : (PK xs).length = ga + N := by rw [hga, hN, PK, List.length_append]
      have hpl3 : (gs (lo xs + d).toNat ++ ((wd xs : Int) :: bytesI (up xs))).length = gb + N := by rw [hgb, hN, List.length_append]
      obtain ⟨La, hLa⟩ : ∃ La, La = (PK xs).length := ⟨_, rfl⟩
      obtain ⟨Lb, hLb⟩ : ∃ Lb, Lb = (gs (lo xs + d).toNat ++ ((wd xs : Int) :: bytesI (up xs))).length := ⟨_, rfl⟩
      rw [← hLa] at B23
      rw [← hLb] at B3
      rw [← hLa, ← hLb]
      have HLA : Hid (La = ga + N) := by rw [← hpl]; exact hLa
      have HLB : Hid (Lb = gb + N) := by rw [← hpl3]; exact hLb
      clear hLa hLb
      have HNN := hideIt hN
      have HGA := hideIt hga
      have HGB := hideIt hgb
      clear hz0 hN hga hgb hpl hpl3
      go_wp2
      go_loop [12, 13, 14] (fun a c i => ∃ t : Nat, t ≤ k ∧ i = .int .i64 t ∧ a = .int .u64 (loF z0 (xs.take t)) ∧ c = .int .u64 (hiF z0 (xs.take t))) (fun _ _ i => k - (intOf i).toNat)
      case atStart => exact ⟨0, Nat.zero_le _, rfl, rfl, rfl⟩
      case round =>
        obtain ⟨t, ht, rfl, rfl, rfl⟩ := hrel
        by_cases hlt2 : t < k
        · have hkx : t < xs.length := by rw [← HM.out]; exact hlt2
          obtain ⟨b', off', cap', e1, ct⟩ := (HB.out.past O3.out).at t hkx
          simp only [Value.slice.injEq, Option.some.injEq, Addr.mk.injEq, and_true] at e1
          obtain ⟨⟨rfl, rfl⟩, e2, rfl⟩ := e1
          clear e2
          have htk := take_snoc xs t hkx
          obtain ⟨x, hx⟩ : ∃ x, x = xs.getD t 0 := ⟨_, rfl⟩
          rw [← hx] at ct htk
          have HL1 : Hid (loF z0 (xs.take (t + 1)) = min (loF z0 (xs.take t)) x) := by
            simp only [Hid]; rw [htk, loF_snoc]
          have HL2 : Hid (hiF z0 (xs.take (t + 1)) = max (hiF z0 (xs.take t)) x) := by
            simp only [Hid]; rw [htk, hiF_snoc]
          have dlt2 : decide ((t : Int) < (k : Int)) = true := by simp; omega
          obtain ⟨p, hp⟩ : ∃ p, p = loF z0 (xs.take t) := ⟨_, rfl⟩
          obtain ⟨r, hr⟩ : ∃ r, r = hiF z0 (xs.take t) := ⟨_, rfl⟩
          rw [← hp] at HL1
          rw [← hr] at HL2
          rw [← hp, ← hr]
          clear hx hkx htk hp hr
          go_wp2
          go_round
          case rel => exact ⟨t + 1, by omega, by simp, by rw [HL1.out], by rw [HL2.out]⟩
          case measure => simp [intOf]; omega
        · obtain rfl : t = k := by omega
          have dlt2 : decide ((t : Int) < (t : Int)) = false := by simp
          have ht : xs.take t = xs := by rw [HM.out, List.take_length]
          have hla := lo_again HNE.out
          rw [← HZ0.out] at hla
          rw [ht, hla.1, hla.2]
          obtain ⟨l1, l2, l3⟩ := lohi HU.out
          have hwd : Hid (wd xs = wid (Go.Proofs.Ytfokchgihookgaa.hi xs - lo xs).toNat) := rfl
          have hq := wd_le HU.out
          have hNq : Hid (N = 1 + (t * wd xs + 7) / 8) := by
            simp only [Hid]; rw [HNN.out, List.length_cons, bytesI_length, nb, up_length, ← HM.out]; omega
          obtain ⟨lw, hlw⟩ : ∃ lw, lw = lo xs := ⟨_, rfl⟩
          obtain ⟨hw, hhw⟩ : ∃ hw, hw = Go.Proofs.Ytfokchgihookgaa.hi xs := ⟨_, rfl⟩
          rw [← hlw, ← hhw] at hwd l2 ⊢
          rw [← hlw] at l1
          rw [← hhw] at l3
          have BW := hideIt (width_any (hw - lw) w3 (by omega) (by omega))
          clear ht hla hlw hhw
          go_wp2_with fail
          refine BW.out.mono ?_
          rintro e w4 ⟨rfl, rfl⟩
          clear BW
          rw [← hwd.out]
          obtain ⟨q, hqd⟩ : ∃ q, q = wd xs := ⟨_, rfl⟩
          rw [← hqd] at hq hNq ⊢
          have HQ := hideIt hqd
          have hmqI : Hid (((t : Int) * (q : Int)) = ((t * q : Nat) : Int)) := by simp only [Hid]; simp
          have hmq : Hid (t * q ≤ 400 * 64) := Nat.mul_le_mul hm4 hq
          have m0 : 0 ≤ (t : Int) * (q : Int) := by rw [hmqI.out]; omega
          have m1 : (t : Int) * (q : Int) ≤ 25600 := by have := hmq.out; rw [hmqI.out]; omega
          clear hqd hwd
          go_wp2
          have hE : 1 + ((t : Int) * (q : Int) + 7) / 8 = (N : Int) := by have := hNq.out; rw [hmqI.out]; omega
          rw [hE]
          have la := HLA.out
          have lb := HLB.out
          have hN1 : 1 ≤ N := by have := hNq.out; omega
          obtain ⟨ca, cb⟩ : La ≤ cp2 ∧ Lb ≤ cp3 := by
            obtain ⟨ao1, cap1, e1, hc1, _⟩ := B23.out
            obtain ⟨ao2, cap2, e2, hc2, _⟩ := B3.out
            simp only [Value.slice.injEq] at e1 e2
            omega
          have SA : Hid (Bs .u8 w3 (.slice (some ⟨g2, ga, none⟩) (La - ga) (cp2 - ga)) ((q : Int) :: bytesI (up xs))) := by
            have h0 := B23.out.cut (n := ga) (by omega)
            have hd : (PK xs).drop ga = (wd xs : Int) :: bytesI (up xs) := by rw [HGA.out, PK]; simp
            have hadd : (⟨g2, 0, none⟩ : Addr).add ga = ⟨g2, ga, none⟩ := by unfold Addr.add; split <;> simp_all
            rw [hd, ← HQ.out] at h0
            simp only [Hid]
            simpa [hadd] using h0
          have SB : Hid (Bs .u8 w3 (.slice (some ⟨g3, gb, none⟩) (Lb - gb) (cp3 - gb)) ((q : Int) :: bytesI (up xs))) := by
            have h0 := B3.out.cut (n := gb) (by omega)
            have hd : (gs (lo xs + d).toNat ++ ((wd xs : Int) :: bytesI (up xs))).drop gb = (wd xs : Int) :: bytesI (up xs) := by rw [HGB.out]; simp
            have hadd : (⟨g3, 0, none⟩ : Addr).add gb = ⟨g3, gb, none⟩ := by unfold Addr.add; split <;> simp_all
            rw [hd, ← HQ.out] at h0
            simp only [Hid]
            simpa [hadd] using h0
          have HLN : Hid (((q : Int) :: bytesI (up xs)).length ≤ 140737488355328) := by
            simp only [Hid]
            have h9 := hNq.out
            have h7 := hmq.out
            have h8 := HNN.out
            rw [← HQ.out] at h8
            omega
          have ga10 : ga ≤ 10 := by rw [HGA.out]; exact gs_le10 (by have := lohi HU.out; omega)
          have gb10 : gb ≤ 10 := by
            rw [HGB.out]
            have := HUK.out (lo xs + d) (List.mem_map.2 ⟨lo xs, lo_mem HNE.out, rfl⟩)
            exact gs_le10 (by omega)
          have N25 : N ≤ 3300 := by have := hNq.out; have := hmq.out; omega
          have dA : decide (N ≤ La) = true := decide_eq_true (by omega)
          have dB : decide (N ≤ Lb) = true := decide_eq_true (by omega)
          have wa : IntKind.i64.wrap ((La : Int) - (N : Int)) = (ga : Int) := by rw [IntKind.wrap_i64]; omega
          have wb : IntKind.i64.wrap ((Lb : Int) - (N : Int)) = (gb : Int) := by rw [IntKind.wrap_i64]; omega
          have na : ¬ cp2 = ga := by omega
          have nb1 : ¬ cp3 = gb := by omega
          have ja : (ga : Int) ≤ (La : Int) := by omega
          have jb : (gb : Int) ≤ (Lb : Int) := by omega
          have ka : (La : Int) ≤ (cp2 : Int) := by omega
          have kb : (Lb : Int) ≤ (cp3 : Int) := by omega
          clear hE la lb m0 m1 B23 B3 c0 ib hN1
          go_quiet (first | (go_at_call 12; exact Calls.quiet_of (bsame_q (.slice (some ⟨g2, ga, none⟩) (La - ga) (cp2 - ga)) (.slice (some ⟨g3, gb, none⟩) (Lb - gb) (cp3 - gb)) ((q : Int) :: bytesI (up xs)) _ (SA.out.past ((Only.refl _ _).drewN _)) (SB.out.past ((Only.refl _ _).drewN _)) HLN.out)) | fail)
          go_wp2
          go_ret
          exact ⟨rfl, O3.out.drewN nq⟩

theorem moves_any (v : Value) (xs : List Int) (d : Int) (w : World) (hb : Bs .u64 w v xs) (hu : U64 xs) (y0 : 0 ≤ d) (y1 : d ≤ 18446744073709551615) :
    Calls Try.prog 7 #[v, .int .u64 d] w fun e w' => e = .returned (.bool true) ∧ Only (fun _ => False) w w' := by
  by_cases h : xs.length = 0 ∨ 400 < xs.length
  · exact moves_none v xs d w hb h
  · exact moves_run v xs d w hb hu y0 y1 (by omega) (by omega)
end Go.Proofs.Ytfokchgihookgaa
