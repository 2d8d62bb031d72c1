/- The walk of the statement 'what patterns are says nothing but in the dictionary'. -/
import Derived.Test.YtgnaeajfajineaaAw10
import Derived.Test.YtgnaeajfajineaaDk3
import Derived.Test.YtgnaeajfajineaaSameB
import Derived.Laws.Bits64
import Derived.Deep.RegionWith
namespace Go.Proofs.Ytgnaeajfajineaa
open Go.RowKit

theorem xm_lt {M : Nat} {x : Int} (hx : x ≤ 18446744073709551615) (hM : M < 18446744073709551616) : x.toNat ^^^ M < 18446744073709551616 :=
  Nat.xor_lt_two_pow (n := 64) (by omega) (by omega)
theorem xm_u64 {M : Nat} {xs : List Int} (hu : U64 xs) (hM : M < 18446744073709551616) : U64 (xs.map (xm M)) := by
  intro y hy
  obtain ⟨x, hx, rfl⟩ := List.mem_map.1 hy
  have := xm_lt (M := M) (hu x hx).2 hM
  unfold xm
  omega
theorem xm_take (M : Nat) (xs : List Int) (k : Nat) (h : k < xs.length) : (xs.map (xm M)).take (k + 1) = (xs.map (xm M)).take k ++ [xm M (xs.getD k 0)] := by
  rw [take_snoc _ k (by rw [List.length_map]; exact h)]
  congr 2
  rw [List.getD_eq_getElem?_getD, List.getD_eq_getElem?_getD, List.getElem?_map, List.getElem?_eq_getElem h]
  rfl
theorem gs_one (n : Nat) : 1 ≤ (gs n).length := by rw [gs_len]; omega
theorem Bs.cutq {k : IntKind} {w : World} {g m cap n : Nat} {xs : List Int} (h : Bs k w (.slice (some ⟨g, 0, none⟩) m cap) xs) (hn : n ≤ m) : Bs k w (.slice (some ⟨g, n, none⟩) (m - n) (cap - n)) (xs.drop n) := by
  have h1 := h.cut (n := n) hn
  have e : (⟨g, 0, none⟩ : Addr).add n = ⟨g, n, none⟩ := by unfold Addr.add; split <;> simp_all
  simp only [Option.map_some, e] at h1
  exact h1
set_option maxHeartbeats 800000 in
set_option maxRecDepth 100000 in
theorem names_none (v : Value) (xs : List Int) (mask : Int) (w : World) (hb : Bs .u64 w v xs) (h : 300 < xs.length) :
    Calls Try.prog 7 #[v, .int .u64 mask] w fun e w' => e = .returned (.bool true) ∧ Only (fun _ => False) w w' := by
  have AW := hideIt (awake_any w)
  obtain ⟨ao, cap, rfl⟩ := hb.len
  have d1 : decide ((300 : Int) < xs.length) = true := decide_eq_true (by omega)
  clear hb h
  generalize xs.length = m at *
  go_enter Try.func7, Try.ntmps7
  go_wp2_with fail
  refine AW.out.mono ?_
  rintro e w1 ⟨rfl, on1⟩
  have O1 := hideIt on1
  clear on1 AW
  go_wp2
  go_ret
  exact ⟨rfl, O1.out⟩
set_option maxHeartbeats 8000000 in
set_option maxRecDepth 100000 in
theorem names_run (v : Value) (xs : List Int) (mask : Int) (w : World) (hb : Bs .u64 w v xs) (hu : U64 xs) (hm0 : 0 ≤ mask) (hm1 : mask ≤ 18446744073709551615) (h1 : xs.length ≤ 300) :
    Calls Try.prog 7 #[v, .int .u64 mask] w fun e w' => e = .returned (.bool true) ∧ Only (fun _ => False) w w' := by
  obtain ⟨i0, hi, hz0, hz1, hz2⟩ := info_parts Try.infoU64
  have AW := hideIt (awake_any w)
  have HB := hideIt hb
  have HU := hideIt hu
  obtain ⟨M, rfl⟩ := Int.eq_ofNat_of_zero_le hm0
  obtain ⟨ao, cap, rfl⟩ := hb.len
  have z1 : ∀ l : List Int, l.length ≤ 1024 → (ENC10 l).2 = 0 := fun l h => by rw [ENC10_of (by omega)]
  have HEA := hideIt (fun (w1 : World) (o : Only (fun _ => False) w w1) => encode10_all (.slice ao xs.length cap) xs w1 (HB.out.past o) hu)
  have HEM := hideIt (fun (w1 : World) (u : Value) (bb : Bs .u64 w1 u (xs.map (xm M))) => encode10_all u (xs.map (xm M)) w1 bb (xm_u64 hu (by omega)))
  rw [z1 xs (by omega)] at HEA
  rw [z1 _ (by rw [List.length_map]; omega)] at HEM
  obtain ⟨f1, f2, f3⟩ := ENC10_xm (M := M) hu (by omega)
  have hdl := dic_len xs
  have fl : (ENC10 xs).1.length = (gs (dic xs).length).length + (8 * (dic xs).length + nb (tail10 (dic xs) xs)) := by
    rw [ENC10_of (by omega)]; simp only [List.length_append, fx8_len, bytesI_length]
  have ft : nb (tail10 (dic xs) xs) ≤ 700 := by
    have h3 := wP_le (k := (dic xs).length) (by omega)
    have h4 : (tail10 (dic xs) xs).length ≤ 300 * 16 := by rw [tail10_len]; exact Nat.mul_le_mul h1 h3
    unfold nb; omega
  have fg := gs_one (dic xs).length
  have fh := gs_head (n := (dic xs).length) (by omega)
  have FA := hideIt (firsts_all xs)
  obtain ⟨n, hn⟩ : ∃ n, n = (dic xs).length := ⟨_, rfl⟩
  rw [← hn] at f2 f3 fl fg fh FA hdl
  generalize nb (tail10 (dic xs) xs) = tb at *
  generalize (ENC10 xs).1 = A at *
  generalize (ENC10 (xs.map (xm M))).1 = B at *
  obtain ⟨gl, hgl⟩ : ∃ gl, gl = (gs n).length := ⟨_, rfl⟩
  rw [← hgl] at f2 f3 fl fg fh
  have HF1 := hideIt f1
  have HF2 := hideIt f2
  have HF3 := hideIt f3
  obtain ⟨m, hm⟩ : ∃ m, m = xs.length := ⟨_, rfl⟩
  rw [← hm] at HEA HB h1 hdl FA
  rw [← hm]
  have HM := hideIt hm
  have d2 : decide ((300 : Int) < m) = false := decide_eq_false (by omega)
  obtain ⟨la, hla⟩ : ∃ la, la = A.length := ⟨_, rfl⟩
  rw [← hla] at HF1 HEA fl
  have HLA := hideIt hla
  have la0 : 1 ≤ la := by omega
  have la1 : la ≤ 5000 := by have : gl ≤ 2 := (by rw [fh]; split <;> omega); omega
  have hat : gl + 8 * n ≤ la := by omega
  have HFH := hideIt fh
  clear z1 f1 f2 f3 hm hu hb hn hgl hla fl ft fh hm0
  go_enter Try.func7, Try.ntmps7
  go_wp2_with fail
  refine AW.out.mono ?_
  rintro e w1 ⟨rfl, on1⟩
  have O1 := hideIt on1
  clear on1 AW
  go_wp2
  go_loopw [6, 7] (fun o i wr => ∃ k : Nat, k ≤ m ∧ i = .int .i64 k ∧ wr.ownsRow w.heap.size 35 1 o k (((xs.map (xm M)).take k).map (Value.int .u64)) ∧ Only (fun _ => False) w wr) (fun _ i _ => m - (intOf i).toNat)
  case atStart => exact ⟨0, Nat.zero_le _, rfl, World.ownsRow_nil _ _ _ _, O1.out⟩
  case round =>
    clear O1
    obtain ⟨k, hk, rfl, hown, hon⟩ := hrel
    by_cases hlt : k < m
    · have hkx : k < xs.length := by rw [← HM.out]; exact hlt
      obtain ⟨b, off, cap', e1, hcx⟩ := (HB.out.past hon).at k hkx
      have ea : ao = some ⟨b, off, none⟩ := by simp at e1; exact e1.1
      subst ea
      have SR := hideIt (xm_take M xs k hkx)
      have hxb := HU.out _ (getD_in (l := xs) (k := k) hkx)
      have hyl := xm_lt (M := M) hxb.2 (by omega)
      unfold xm at SR
      generalize xs.getD k 0 = x at *
      obtain ⟨X, rfl⟩ := Int.eq_ofNat_of_zero_le hxb.1
      rw [Int.toNat_natCast] at SR hyl
      have hxx := bits_xor_u64_nat X M (by omega) (by omega)
      generalize X ^^^ M = y at *
      have dlt : decide ((k : Int) < (m : Int)) = true := by simp; omega
      have ik : (k : Int) < (m : Int) := by omega
      have hsz := hon.size
      have HOWN := hideIt hown
      have HON := hideIt hon
      clear hown hon e1 hkx
      go_wp2_with (at_builtin; refine wpList_append_own _ rfl _ _ 22 rfl w.heap.size 35 i0 (.int .u64 0) 1 8 Try.underlying22 hi hz0 hz1 hz2 rfl (by decide) _ k _ rfl (HOWN.out.alloc _) ⟨wr.heap.size, 0, none⟩ 1 1 [.int .u64 (y : Int)] rfl rfl (cell_one_new _ _ _) (ints_oneCell .u64 [(y : Int)]) (by unfold maxLen; omega) (by omega) (by simp; omega) ?_; intro v' w2 hown' hgrow2 hnil2)
      have OW2 : Hid (w2.ownsRow w.heap.size 35 1 v' (k + 1) (((xs.map (xm M)).take (k + 1)).map (Value.int .u64))) := by
        simp only [Hid]; unfold xm; rw [SR.out, List.map_append]; exact hown'
      have O2 := hideIt ((HON.out.alloc (.cells #[.int .u64 (y : Int)] 35)).grown hgrow2 (fun j hj e => absurd (HOWN.out.lt j e).1 (by omega)))
      clear hown' hgrow2 hnil2
      go_wp2
      go_roundw
      case rel => exact ⟨k + 1, by omega, by go_num, OW2.out, O2.out⟩
      case measure => simp [intOf]; omega
    · obtain rfl : k = m := by omega
      have dlt : decide ((k : Int) < (k : Int)) = false := by simp
      have hbm : Bs .u64 wr u6 (xs.map (xm M)) := by
        refine Bs.of_own (lo := w.heap.size) (E := 35) ?_
        have e : (xs.map (xm M)).take k = xs.map (xm M) := List.take_of_length_le (by rw [List.length_map, ← HM.out]; exact Nat.le_refl _)
        rw [e] at hown
        rw [List.length_map, ← HM.out]; exact hown
      obtain ⟨a8, c8, e8⟩ := hbm.len
      rw [List.length_map, ← HM.out] at e8
      subst e8
      have O2 := hideIt hon
      have HBM := hideIt hbm
      have PA := hideIt (HEA.out wr hon)
      clear hown hon hbm HEA
      go_wp2_with fail
      refine PA.out.mono ?_
      rintro e w2 ⟨v2, rfl, own2, on2⟩
      have O3 := hideIt (O2.out.same on2)
      have BA := hideIt (Bs.of_own (by rw [← HLA.out]; exact own2))
      have PB := hideIt (HEM.out w2 _ (HBM.out.past on2))
      obtain ⟨g2, cp2, e2, _, _⟩ := World.ownsRow.form own2 (by omega)
      subst e2
      clear PA own2 on2 HEM
      go_wp2_with fail
      refine PB.out.mono ?_
      rintro e w3 ⟨v3, rfl, own3, on3⟩
      have O4 := hideIt (O3.out.same on3)
      have BB := hideIt (Bs.of_own own3)
      have BA2 := hideIt (BA.out.past on3)
      obtain ⟨g3, cp3, e3, _, _⟩ := World.ownsRow.form own3 (by have := HF1.out; omega)
      subst e3
      rw [HF1.out] at BB
      rw [HF1.out]
      have HX := hideIt (HB.out.past O4.out)
      clear PB own3 on3 BA HBM HB O2 O3
      have dne : ((la : Int) != (la : Int)) = false := by simp
      have dl0 : ((la : Int) == 0) = false := by rw [beq_eq_false_iff_ne]; omega
      go_wp2
      go_loopw [12, 13] (fun nv i wr => ∃ j : Nat, j ≤ k ∧ i = .int .i64 j ∧ nv = .int .i64 (firsts xs j) ∧ Only (fun _ => False) w3 wr) (fun _ i _ => k - (intOf i).toNat)
      case atStart => exact ⟨0, Nat.zero_le _, rfl, rfl, Only.refl _ _⟩
      case round =>
        obtain ⟨j, hj, rfl, rfl, hon⟩ := hrel
        obtain ⟨w4, hw4⟩ : ∃ w4, w4 = wr := ⟨_, rfl⟩
        subst hw4
        have HON := hideIt hon
        by_cases hlt2 : j < k
        · have hjx : j < xs.length := by rw [← HM.out]; exact hlt2
          have dl2 : decide ((j : Int) < (k : Int)) = true := by simp; omega
          obtain ⟨b, off, cap', e1, hcx⟩ := HX.out.at j hjx
          have ea : ao = some ⟨b, off, none⟩ := by simp at e1; exact e1.1
          subst ea
          have HST := hideIt (firsts_step xs j hjx)
          have HFJ : Hid (firsts xs j ≤ j) := by
            have := dic_len (xs.take j)
            simp only [Hid]; unfold firsts; rw [List.length_take] at this; omega
          have HCJ := hideIt hcx
          have ij : (j : Int) < (k : Int) := by omega
          obtain ⟨y, hy⟩ : ∃ y, y = xs.getD j 0 := ⟨_, rfl⟩
          rw [← hy] at HST HCJ
          obtain ⟨fj, hfj⟩ : ∃ fj, fj = firsts xs j := ⟨_, rfl⟩
          rw [← hfj] at HST HFJ ⊢
          have HC : Hid (∀ t, t < k → w3.cell? ⟨b, off + t, none⟩ = some (.int .u64 (xs.getD t 0))) := by
            intro t ht
            obtain ⟨b', off', cap'', e2, hc2⟩ := HX.out.at t (by rw [← HM.out]; exact ht)
            simp only [Value.slice.injEq, Option.some.injEq, Addr.mk.injEq, and_true] at e2
            obtain ⟨⟨rfl, rfl⟩, _, rfl⟩ := e2
            exact hc2
          have hfb : fj ≤ 300 := by have := HFJ.out; omega
          clear e1 hcx hon hy hfj
          go_wp2
          go_loopw [14, 15] (fun f i wr => ∃ t : Nat, t ≤ j ∧ i = .int .i64 t ∧ ((f = .bool true ∧ Hid (y ∉ xs.take t)) ∨ (f = .bool false ∧ Hid (y ∈ xs.take t))) ∧ Only (fun _ => False) w3 wr) (fun _ i _ => j - (intOf i).toNat)
          case atStart => exact ⟨0, Nat.zero_le _, rfl, .inl ⟨rfl, by simp [Hid]⟩, HON.out⟩
          case round =>
            obtain ⟨t, ht, rfl, hf, hon⟩ := hrel
            have HON5 := hideIt hon
            by_cases hlt3 : t < j
            · have dl3 : decide ((t : Int) < (j : Int)) = true := by simp; omega
              have htx : t < xs.length := by rw [← HM.out]; omega
              have it : (t : Int) < (k : Int) := by omega
              have HTS := hideIt (take_snoc xs t htx)
              have c1 : wr.cell? ⟨b, off + t, none⟩ = some (.int .u64 (xs.getD t 0)) := by
                have := HC.out t (by omega)
                rw [World.cell?_of_block (hon.block b (World.block_lt_of_cell? w3 _ this) (fun f => f))]; exact this
              have c2 : wr.cell? ⟨b, off + j, none⟩ = some (.int .u64 y) := by
                have := HCJ.out
                rw [World.cell?_of_block (hon.block b (World.block_lt_of_cell? w3 _ this) (fun f => f))]; exact this
              generalize xs.getD t 0 = z at *
              clear hon htx
              rcases hf with ⟨rfl, HF⟩ | ⟨rfl, HF⟩
              · by_cases hzy : z = y
                · have HF9 : Hid (y ∈ xs.take (t + 1)) := by simp only [Hid]; rw [HTS.out, hzy]; simp
                  have dz : (z != y) = false := by simp [hzy]
                  clear hzy
                  go_wp2
                  go_quiet (fail)
                  go_wp2
                  go_roundw
                  case rel => exact ⟨t + 1, by omega, by go_num, .inr ⟨by first | rfl | (rw [dz]) | simp [dz], HF9⟩, HON5.out.drewN nq⟩
                  case measure => simp [intOf]; omega
                · have HF9 : Hid (y ∉ xs.take (t + 1)) := by
                    simp only [Hid]; rw [HTS.out]
                    intro h
                    rcases List.mem_append.1 h with h | h
                    · exact HF.out h
                    · simp at h; exact hzy h.symm
                  have dz : (z != y) = true := by simpa using hzy
                  clear hzy
                  go_wp2
                  go_quiet (fail)
                  go_wp2
                  go_roundw
                  case rel => exact ⟨t + 1, by omega, by go_num, .inl ⟨by first | rfl | (rw [dz]) | simp [dz], HF9⟩, HON5.out.drewN nq⟩
                  case measure => simp [intOf]; omega
              · have HF9 : Hid (y ∈ xs.take (t + 1)) := by simp only [Hid]; rw [HTS.out]; exact List.mem_append_left _ HF.out
                go_wp2
                go_quiet (fail)
                go_wp2
                go_roundw
                case rel => exact ⟨t + 1, by omega, by go_num, .inr ⟨rfl, HF9⟩, HON5.out.drewN nq⟩
                case measure => simp [intOf]; omega
            · obtain rfl : t = j := by omega
              have dl3 : decide ((t : Int) < (t : Int)) = false := by simp
              clear hon
              rcases hf with ⟨rfl, HF⟩ | ⟨rfl, HF⟩
              · have hs := HST.out
                rw [if_neg HF.out] at hs
                have HS := hideIt hs
                clear hs HST
                go_wp2
                go_roundw
                case rel => exact ⟨t + 1, by omega, by go_num, by rw [HS.out]; go_num, HON5.out⟩
                case measure => simp [intOf]; omega
              · have hs := HST.out
                rw [if_pos HF.out] at hs
                have HS := hideIt hs
                clear hs HST
                go_wp2
                go_roundw
                case rel => exact ⟨t + 1, by omega, by go_num, by rw [HS.out]; rfl, HON5.out⟩
                case measure => simp [intOf]; omega
        · obtain rfl : j = k := by omega
          have dl2 : decide ((j : Int) < (j : Int)) = false := by simp
          rw [FA.out]
          have BA3 := hideIt (BA2.out.past hon)
          have BB3 := hideIt (BB.out.past hon)
          have O5 := hideIt (O4.out.same hon)
          have ca2 : la ≤ cp2 := by
            obtain ⟨_, _, e, hc, _⟩ := BA3.out
            simp only [Value.slice.injEq] at e
            have := HLA.out
            omega
          have ca3 : la ≤ cp3 := by
            obtain ⟨_, _, e, hc, _⟩ := BB3.out
            simp only [Value.slice.injEq] at e
            have := HF1.out
            omega
          obtain ⟨q, hq⟩ : ∃ q, q = gl + 8 * n := ⟨_, rfl⟩
          have hql : q ≤ la := by omega
          have HF3' := HF3.out
          rw [← hq] at HF3'
          have HF4 := hideIt HF3'
          have nb : n ≤ 300 := by omega
          have HLN : Hid ((A.drop q).length ≤ 140737488355328 ∧ (A.take gl).length ≤ 140737488355328) := by
            have := HLA.out; simp only [Hid]; rw [List.length_drop, List.length_take]; omega
          clear hon HF3' HF3 BA2 BB HX HON FA O4
          have j2 : (q : Int) ≤ (la : Int) := by omega
          have j3 : (la : Int) ≤ (cp2 : Int) := by omega
          have j4 : (la : Int) ≤ (cp3 : Int) := by omega
          have dA : decide ((q : Int) ≤ (la : Int)) = true := decide_eq_true (by omega)
          have dAn : decide (q ≤ la) = true := decide_eq_true (by omega)

          by_cases h127 : 127 < n
          · obtain rfl : gl = 2 := by rw [HFH.out]; exact if_pos h127
            have dh : decide ((127 : Int) < (n : Int)) = true := by simp; omega
            have e8 : (2 : Int) + 8 * (n : Int) = (q : Int) := by omega
            have jh2 : (2 : Int) ≤ (cp2 : Int) := by omega
            have jh3 : (2 : Int) ≤ (cp3 : Int) := by omega
            have HA : Hid (Bs .u8 w4 (.slice (some ⟨g2, 0, none⟩) 2 cp2) (A.take 2)) := BA3.out.head (n := 2) (by omega)
            have HBq : Hid (Bs .u8 w4 (.slice (some ⟨g3, 0, none⟩) 2 cp3) (A.take 2)) := by simp only [Hid]; rw [← HF2.out]; exact BB3.out.head (n := 2) (by omega)
            clear h127 hq hat
            by_cases na : cp2 = q
            · by_cases nb1 : cp3 = q
              · skip
                obtain rfl : la = q := by omega
                obtain rfl : la = cp2 := na.symm
                obtain rfl : la = cp3 := nb1.symm
                have SA : Hid (Bs .u8 w4 (.slice (some ⟨g2, 0, none⟩) 0 0) (A.drop la)) := by have := BA3.out.cut0 (n := la) (by omega); rwa [Nat.sub_self] at this
                have SB : Hid (Bs .u8 w4 (.slice (some ⟨g3, 0, none⟩) 0 0) (A.drop la)) := by simp only [Hid]; rw [← HF4.out]; have := BB3.out.cut0 (n := la) (by omega); rwa [Nat.sub_self] at this
                clear j2 j3 j4 hql ca2 ca3
                clear BA3 BB3
                go_wp2
                go_quiet (first | (go_at_call_of 11 (2 : Nat); exact Calls.quiet_of (bsame_q (.slice (some ⟨g2, 0, none⟩) 2 la) (.slice (some ⟨g3, 0, none⟩) 2 la) (A.take 2) _ (HA.out.past ((Only.refl _ _).drewN _)) (HBq.out.past ((Only.refl _ _).drewN _)) HLN.out.2)) | (go_at_call 11; exact Calls.quiet_of (bsame_q (.slice (some ⟨g2, 0, none⟩) 0 0) (.slice (some ⟨g3, 0, none⟩) 0 0) (A.drop la) _ (SA.out.past ((Only.refl _ _).drewN _)) (SB.out.past ((Only.refl _ _).drewN _)) HLN.out.1)) | fail)
                go_wp2
                go_ret
                exact ⟨rfl, O5.out.drewN nq⟩
              · skip
                obtain rfl : la = q := by omega
                obtain rfl : la = cp2 := na.symm
                have SA : Hid (Bs .u8 w4 (.slice (some ⟨g2, 0, none⟩) 0 0) (A.drop la)) := by have := BA3.out.cut0 (n := la) (by omega); rwa [Nat.sub_self] at this
                have SB : Hid (Bs .u8 w4 (.slice (some ⟨g3, la, none⟩) 0 (cp3 - la)) (A.drop la)) := by simp only [Hid]; rw [← HF4.out]; have := BB3.out.cutq (n := la) (by omega); rwa [Nat.sub_self] at this
                clear j2 j3 hql ca2
                clear BA3 BB3
                go_wp2
                go_quiet (first | (go_at_call_of 11 (2 : Nat); exact Calls.quiet_of (bsame_q (.slice (some ⟨g2, 0, none⟩) 2 la) (.slice (some ⟨g3, 0, none⟩) 2 cp3) (A.take 2) _ (HA.out.past ((Only.refl _ _).drewN _)) (HBq.out.past ((Only.refl _ _).drewN _)) HLN.out.2)) | (go_at_call 11; exact Calls.quiet_of (bsame_q (.slice (some ⟨g2, 0, none⟩) 0 0) (.slice (some ⟨g3, la, none⟩) 0 (cp3 - la)) (A.drop la) _ (SA.out.past ((Only.refl _ _).drewN _)) (SB.out.past ((Only.refl _ _).drewN _)) HLN.out.1)) | fail)
                go_wp2
                go_ret
                exact ⟨rfl, O5.out.drewN nq⟩
            · by_cases nb1 : cp3 = q
              · skip
                obtain rfl : la = q := by omega
                obtain rfl : la = cp3 := nb1.symm
                have SA : Hid (Bs .u8 w4 (.slice (some ⟨g2, la, none⟩) 0 (cp2 - la)) (A.drop la)) := by have := BA3.out.cutq (n := la) (by omega); rwa [Nat.sub_self] at this
                have SB : Hid (Bs .u8 w4 (.slice (some ⟨g3, 0, none⟩) 0 0) (A.drop la)) := by simp only [Hid]; rw [← HF4.out]; have := BB3.out.cut0 (n := la) (by omega); rwa [Nat.sub_self] at this
                clear j2 j4 hql ca3
                clear BA3 BB3
                go_wp2
                go_quiet (first | (go_at_call_of 11 (2 : Nat); exact Calls.quiet_of (bsame_q (.slice (some ⟨g2, 0, none⟩) 2 cp2) (.slice (some ⟨g3, 0, none⟩) 2 la) (A.take 2) _ (HA.out.past ((Only.refl _ _).drewN _)) (HBq.out.past ((Only.refl _ _).drewN _)) HLN.out.2)) | (go_at_call 11; exact Calls.quiet_of (bsame_q (.slice (some ⟨g2, la, none⟩) 0 (cp2 - la)) (.slice (some ⟨g3, 0, none⟩) 0 0) (A.drop la) _ (SA.out.past ((Only.refl _ _).drewN _)) (SB.out.past ((Only.refl _ _).drewN _)) HLN.out.1)) | fail)
                go_wp2
                go_ret
                exact ⟨rfl, O5.out.drewN nq⟩
              · skip
                have SA : Hid (Bs .u8 w4 (.slice (some ⟨g2, q, none⟩) (la - q) (cp2 - q)) (A.drop q)) := by have := BA3.out.cutq (n := q) (by omega); exact this
                have SB : Hid (Bs .u8 w4 (.slice (some ⟨g3, q, none⟩) (la - q) (cp3 - q)) (A.drop q)) := by simp only [Hid]; rw [← HF4.out]; have := BB3.out.cutq (n := q) (by omega); exact this
                clear BA3 BB3
                go_wp2
                go_quiet (first | (go_at_call_of 11 (la - q); exact Calls.quiet_of (bsame_q (.slice (some ⟨g2, q, none⟩) (la - q) (cp2 - q)) (.slice (some ⟨g3, q, none⟩) (la - q) (cp3 - q)) (A.drop q) _ (SA.out.past ((Only.refl _ _).drewN _)) (SB.out.past ((Only.refl _ _).drewN _)) HLN.out.1)) | (go_at_call 11; exact Calls.quiet_of (bsame_q (.slice (some ⟨g2, 0, none⟩) 2 cp2) (.slice (some ⟨g3, 0, none⟩) 2 cp3) (A.take 2) _ (HA.out.past ((Only.refl _ _).drewN _)) (HBq.out.past ((Only.refl _ _).drewN _)) HLN.out.2)) | fail)
                go_wp2
                go_ret
                exact ⟨rfl, O5.out.drewN nq⟩
          · obtain rfl : gl = 1 := by rw [HFH.out]; exact if_neg h127
            have dh : decide ((127 : Int) < (n : Int)) = false := by simp; omega
            have e8 : (1 : Int) + 8 * (n : Int) = (q : Int) := by omega
            have jh2 : (1 : Int) ≤ (cp2 : Int) := by omega
            have jh3 : (1 : Int) ≤ (cp3 : Int) := by omega
            have HA : Hid (Bs .u8 w4 (.slice (some ⟨g2, 0, none⟩) 1 cp2) (A.take 1)) := BA3.out.head (n := 1) (by omega)
            have HBq : Hid (Bs .u8 w4 (.slice (some ⟨g3, 0, none⟩) 1 cp3) (A.take 1)) := by simp only [Hid]; rw [← HF2.out]; exact BB3.out.head (n := 1) (by omega)
            clear h127 hq hat
            by_cases na : cp2 = q
            · by_cases nb1 : cp3 = q
              · skip
                obtain rfl : la = q := by omega
                obtain rfl : la = cp2 := na.symm
                obtain rfl : la = cp3 := nb1.symm
                have SA : Hid (Bs .u8 w4 (.slice (some ⟨g2, 0, none⟩) 0 0) (A.drop la)) := by have := BA3.out.cut0 (n := la) (by omega); rwa [Nat.sub_self] at this
                have SB : Hid (Bs .u8 w4 (.slice (some ⟨g3, 0, none⟩) 0 0) (A.drop la)) := by simp only [Hid]; rw [← HF4.out]; have := BB3.out.cut0 (n := la) (by omega); rwa [Nat.sub_self] at this
                clear j2 j3 j4 hql ca2 ca3
                clear BA3 BB3
                go_wp2
                go_quiet (first | (go_at_call_of 11 (1 : Nat); exact Calls.quiet_of (bsame_q (.slice (some ⟨g2, 0, none⟩) 1 la) (.slice (some ⟨g3, 0, none⟩) 1 la) (A.take 1) _ (HA.out.past ((Only.refl _ _).drewN _)) (HBq.out.past ((Only.refl _ _).drewN _)) HLN.out.2)) | (go_at_call 11; exact Calls.quiet_of (bsame_q (.slice (some ⟨g2, 0, none⟩) 0 0) (.slice (some ⟨g3, 0, none⟩) 0 0) (A.drop la) _ (SA.out.past ((Only.refl _ _).drewN _)) (SB.out.past ((Only.refl _ _).drewN _)) HLN.out.1)) | fail)
                go_wp2
                go_ret
                exact ⟨rfl, O5.out.drewN nq⟩
              · skip
                obtain rfl : la = q := by omega
                obtain rfl : la = cp2 := na.symm
                have SA : Hid (Bs .u8 w4 (.slice (some ⟨g2, 0, none⟩) 0 0) (A.drop la)) := by have := BA3.out.cut0 (n := la) (by omega); rwa [Nat.sub_self] at this
                have SB : Hid (Bs .u8 w4 (.slice (some ⟨g3, la, none⟩) 0 (cp3 - la)) (A.drop la)) := by simp only [Hid]; rw [← HF4.out]; have := BB3.out.cutq (n := la) (by omega); rwa [Nat.sub_self] at this
                clear j2 j3 hql ca2
                clear BA3 BB3
                go_wp2
                go_quiet (first | (go_at_call_of 11 (1 : Nat); exact Calls.quiet_of (bsame_q (.slice (some ⟨g2, 0, none⟩) 1 la) (.slice (some ⟨g3, 0, none⟩) 1 cp3) (A.take 1) _ (HA.out.past ((Only.refl _ _).drewN _)) (HBq.out.past ((Only.refl _ _).drewN _)) HLN.out.2)) | (go_at_call 11; exact Calls.quiet_of (bsame_q (.slice (some ⟨g2, 0, none⟩) 0 0) (.slice (some ⟨g3, la, none⟩) 0 (cp3 - la)) (A.drop la) _ (SA.out.past ((Only.refl _ _).drewN _)) (SB.out.past ((Only.refl _ _).drewN _)) HLN.out.1)) | fail)
                go_wp2
                go_ret
                exact ⟨rfl, O5.out.drewN nq⟩
            · by_cases nb1 : cp3 = q
              · skip
                obtain rfl : la = q := by omega
                obtain rfl : la = cp3 := nb1.symm
                have SA : Hid (Bs .u8 w4 (.slice (some ⟨g2, la, none⟩) 0 (cp2 - la)) (A.drop la)) := by have := BA3.out.cutq (n := la) (by omega); rwa [Nat.sub_self] at this
                have SB : Hid (Bs .u8 w4 (.slice (some ⟨g3, 0, none⟩) 0 0) (A.drop la)) := by simp only [Hid]; rw [← HF4.out]; have := BB3.out.cut0 (n := la) (by omega); rwa [Nat.sub_self] at this
                clear j2 j4 hql ca3
                clear BA3 BB3
                go_wp2
                go_quiet (first | (go_at_call_of 11 (1 : Nat); exact Calls.quiet_of (bsame_q (.slice (some ⟨g2, 0, none⟩) 1 cp2) (.slice (some ⟨g3, 0, none⟩) 1 la) (A.take 1) _ (HA.out.past ((Only.refl _ _).drewN _)) (HBq.out.past ((Only.refl _ _).drewN _)) HLN.out.2)) | (go_at_call 11; exact Calls.quiet_of (bsame_q (.slice (some ⟨g2, la, none⟩) 0 (cp2 - la)) (.slice (some ⟨g3, 0, none⟩) 0 0) (A.drop la) _ (SA.out.past ((Only.refl _ _).drewN _)) (SB.out.past ((Only.refl _ _).drewN _)) HLN.out.1)) | fail)
                go_wp2
                go_ret
                exact ⟨rfl, O5.out.drewN nq⟩
              · skip
                have SA : Hid (Bs .u8 w4 (.slice (some ⟨g2, q, none⟩) (la - q) (cp2 - q)) (A.drop q)) := by have := BA3.out.cutq (n := q) (by omega); exact this
                have SB : Hid (Bs .u8 w4 (.slice (some ⟨g3, q, none⟩) (la - q) (cp3 - q)) (A.drop q)) := by simp only [Hid]; rw [← HF4.out]; have := BB3.out.cutq (n := q) (by omega); exact this
                clear BA3 BB3
                go_wp2
                go_quiet (first | (go_at_call_of 11 (la - q); exact Calls.quiet_of (bsame_q (.slice (some ⟨g2, q, none⟩) (la - q) (cp2 - q)) (.slice (some ⟨g3, q, none⟩) (la - q) (cp3 - q)) (A.drop q) _ (SA.out.past ((Only.refl _ _).drewN _)) (SB.out.past ((Only.refl _ _).drewN _)) HLN.out.1)) | (go_at_call 11; exact Calls.quiet_of (bsame_q (.slice (some ⟨g2, 0, none⟩) 1 cp2) (.slice (some ⟨g3, 0, none⟩) 1 cp3) (A.take 1) _ (HA.out.past ((Only.refl _ _).drewN _)) (HBq.out.past ((Only.refl _ _).drewN _)) HLN.out.2)) | fail)
                go_wp2
                go_ret
                exact ⟨rfl, O5.out.drewN nq⟩
theorem names_any (v : Value) (xs : List Int) (mask : Int) (w : World) (hb : Bs .u64 w v xs) (hu : U64 xs) (hm0 : 0 ≤ mask) (hm1 : mask ≤ 18446744073709551615) :
    Calls Try.prog 7 #[v, .int .u64 mask] w fun e w' => e = .returned (.bool true) ∧ Only (fun _ => False) w w' := by
  by_cases h : 300 < xs.length
  · exact names_none v xs mask w hb h
  · exact names_run v xs mask w hb hu hm0 hm1 (by omega)
end Go.Proofs.Ytgnaeajfajineaa
