/- times: a product modulo p. -/
import Derived.Test.YtjiippbjflpkkaaCa
import Derived.Test.YtjiippbjflpkkaaPs
namespace Go.Proofs.Ytjiippbjflpkkaa
open Go.RowKit

theorem wdI_step (a r : List Nat) (i j : Nat) (hj : j < 5) : wdI a r (5 * i + (j + 1)) = (wdI a r (5 * i + j)).set (i + j) ((wdI a r (5 * i + j)).getD (i + j) 0 + a.getD i 0 * r.getD j 0) := by
  show wdI a r (5 * i + j + 1) = _
  rw [wdI, show (5 * i + j) / 5 = i by omega, show (5 * i + j) % 5 = j by omega]
set_option maxHeartbeats 1600000 in
set_option maxRecDepth 100000 in
theorem ptimes_any (a r : List Nat) (ha : a.length = 5) (hr : r.length = 5) (la : LB 134217728 a) (lr : LB 67108864 r) (w : World) :
    Calls Try.prog 51 #[.agg (ul a).toArray, .agg (ul r).toArray] w fun e w' => e = .returned (.agg (ul (ptms a r)).toArray) ∧ Only (fun _ => False) w w' := by
  have hzv := (zero_of_info (P := Try.prog) Try.zero34).1
  have hzw := (zero_of_info (P := Try.prog) Try.zero53).1
  obtain ⟨Z, hZ⟩ : ∃ Z, Z = z5 := ⟨_, rfl⟩
  rw [← hZ] at hzv
  obtain ⟨Y, hY⟩ : ∃ Y, Y = z10 := ⟨_, rfl⟩
  rw [← hY] at hzw
  obtain ⟨D, hD⟩ : ∃ D, D = ul (ptms a r) := ⟨_, rfl⟩
  have HZ1 : Hid ((Try.prog.info? 47).map (·.size) = some D.toArray.size) := by
    show _ = _
    rw [hD]; simp [ul_len, tms_len, Try.size34]
  have HZ2 : Hid (Z.toArray.size = D.toArray.size) := by
    show _ = _
    rw [hD, hZ]; simp [ul_len, tms_len, z5_len]
  have HA : Hid (D.toArray.all (·.oneCell') = true) := by
    show _ = _
    rw [hD]; exact ul_all _
  rw [← hD]
  have HD := hideIt (And.intro hD (And.intro hZ hY))
  have HS := hideIt (And.intro ha (And.intro hr (And.intro la lr)))
  have XA := hideIt (ix_u5 a ha)
  have XR := hideIt (ix_u5 r hr)
  have HSZ := hideIt (And.intro (ul_size a ha) (ul_size r hr))
  obtain ⟨A, hA⟩ : ∃ A, A = ul a := ⟨_, rfl⟩
  obtain ⟨B, hB⟩ : ∃ B, B = ul r := ⟨_, rfl⟩
  have HB := hideIt (And.intro hA hB)
  rw [← hA] at XA HSZ
  rw [← hB] at XR HSZ
  rw [← hA, ← hB]
  clear hZ hY hD hB hA ha hr la lr
  have K0 : Hid (Blk ((((w.alloc (.cells A.toArray 47)).alloc (.cells B.toArray 47)).alloc (.cells Z.toArray 47)).alloc (.cells Y.toArray 77)) w.heap.size 47 A ∧ Blk ((((w.alloc (.cells A.toArray 47)).alloc (.cells B.toArray 47)).alloc (.cells Z.toArray 47)).alloc (.cells Y.toArray 77)) (w.heap.size + 1) 47 B ∧ Blk ((((w.alloc (.cells A.toArray 47)).alloc (.cells B.toArray 47)).alloc (.cells Z.toArray 47)).alloc (.cells Y.toArray 77)) (w.heap.size + 1 + 1) 47 Z ∧ Blk ((((w.alloc (.cells A.toArray 47)).alloc (.cells B.toArray 47)).alloc (.cells Z.toArray 47)).alloc (.cells Y.toArray 77)) (w.heap.size + 1 + 1 + 1) 77 (ul (wdI a r (5 * 0))) ∧ Only (fun _ => False) w ((((w.alloc (.cells A.toArray 47)).alloc (.cells B.toArray 47)).alloc (.cells Z.toArray 47)).alloc (.cells Y.toArray 77))) := by
    refine ⟨(((Blk.new w 47 A).alloc _).alloc _).alloc _, ?_, ?_, ?_, ((((Only.refl _ _).alloc _).alloc _).alloc _).alloc _⟩
    · have := ((Blk.new (w.alloc (.cells A.toArray 47)) 47 B).alloc (.cells Z.toArray 47)).alloc (.cells Y.toArray 77)
      rw [size_alloc] at this
      exact this
    · have := (Blk.new ((w.alloc (.cells A.toArray 47)).alloc (.cells B.toArray 47)) 47 Z).alloc (.cells Y.toArray 77)
      rw [size_alloc, size_alloc] at this
      exact this
    · have := Blk.new (((w.alloc (.cells A.toArray 47)).alloc (.cells B.toArray 47)).alloc (.cells Z.toArray 47)) 77 Y
      rw [size_alloc, size_alloc, size_alloc] at this
      rw [HD.out.2.2] at this ⊢
      exact this
  go_enter Try.func51, Try.ntmps51
  go_wp2_with (first | (refine wpList_load_row rfl 47 (.tmp 2) rfl w.heap.size rfl 47 A.toArray (0, 0) _ K0.out.1 Try.underlying47 rfl HSZ.out.1 ?_))
  obtain ⟨X, hX⟩ : ∃ X, X = w.heap.size + 1 + 1 + 1 := ⟨_, rfl⟩
  rw [← hX] at K0 ⊢
  obtain ⟨R, hR⟩ : ∃ R, R = w.heap.size + 1 + 1 := ⟨_, rfl⟩
  rw [← hR] at K0 ⊢
  obtain ⟨H, hH⟩ : ∃ H, H = w.heap.size + 1 := ⟨_, rfl⟩
  rw [← hH] at K0 ⊢
  obtain ⟨G, hG⟩ : ∃ G, G = w.heap.size := ⟨_, rfl⟩
  have HG : Hid (w.heap.size ≤ X ∧ w.heap.size ≤ R ∧ R ≠ X ∧ H ≠ X) := ⟨by omega, by omega, by omega, by omega⟩
  rw [← hG] at K0 ⊢
  obtain ⟨W0, hW0⟩ : ∃ W0, W0 = (((w.alloc (.cells A.toArray 47)).alloc (.cells B.toArray 47)).alloc (.cells Z.toArray 47)).alloc (.cells Y.toArray 77) := ⟨_, rfl⟩
  rw [← hW0] at K0 ⊢
  have K1 := hideIt K0.out.2
  clear hG hR hW0 hzw hH hX K0
  go_loopw [13] (fun i wr => ∃ n : Nat, n ≤ 5 ∧ i = .int .i64 n ∧ Blk wr H 47 B ∧ Blk wr R 47 Z ∧ Blk wr X 77 (ul (wdI a r (5 * n))) ∧ Only (fun _ => False) w wr) (fun i _ => 5 - (intOf i).toNat)
  case atStart => exact ⟨0, by omega, rfl, K1.out⟩
  case round =>
    obtain ⟨n, hn, rfl, k1, k2, k3, k4⟩ := hrel
    clear K1
    by_cases hlt : n < 5
    · have hix := XA.out n hlt
      have hlx := HS.out.2.2.1 n
      obtain ⟨x, hx⟩ : ∃ x, x = a.getD n 0 := ⟨_, rfl⟩
      rw [← hx] at hix hlx
      have HX := hideIt hx
      have i1 : (n : Int) < 5 := by omega
      have HK := hideIt (And.intro k1 (And.intro k2 (And.intro k3 k4)))
      clear hx k1 k2 k3 k4
      go_wp2_with (first | (refine wpList_load_row rfl 47 (.tmp 3) rfl H rfl 47 B.toArray (0, 0) _ HK.out.1 Try.underlying47 rfl HSZ.out.2 ?_))
      go_loopw [18] (fun i wr => ∃ j : Nat, j ≤ 5 ∧ i = .int .i64 j ∧ Blk wr H 47 B ∧ Blk wr R 47 Z ∧ Blk wr X 77 (ul (wdI a r (5 * n + j))) ∧ Only (fun _ => False) w wr) (fun i _ => 5 - (intOf i).toNat)
      case atStart => exact ⟨0, by omega, rfl, HK.out⟩
      case round =>
        obtain ⟨j, hj, rfl, k1, k2, k3, k4⟩ := hrel
        clear HK hix
        by_cases hlj : j < 5
        · have hjx := XR.out j hlj
          have hly := HS.out.2.2.2 j
          have hle := wdI_le a r HS.out.2.2.1 HS.out.2.2.2 (5 * n + j) (n + j)
          have hst := wdI_step a r n j hlj
          have hc : wr.cell? ⟨X, n + j, none⟩ = some (.int .u64 (((wdI a r (5 * n + j)).getD (n + j) 0 : Nat) : Int)) := by
            rw [k3.cell, ul_at _ _ (by rw [wdI_len]; omega)]
          have hf := k3.froz (n + j)
          obtain ⟨y, hy⟩ : ∃ y, y = r.getD j 0 := ⟨_, rfl⟩
          obtain ⟨z, hz⟩ : ∃ z, z = (wdI a r (5 * n + j)).getD (n + j) 0 := ⟨_, rfl⟩
          rw [← hy] at hjx hly hst
          rw [← hz] at hle hst hc
          rw [← HX.out] at hst
          have hxy : x * y ≤ 134217728 * 67108864 := Nat.mul_le_mul (by omega) (by omega)
          obtain ⟨t, ht⟩ : ∃ t, t = x * y := ⟨_, rfl⟩
          rw [← ht] at hxy hst
          have hti : (x : Int) * (y : Int) = (t : Int) := by rw [ht]; simp
          have hml : IntKind.u64.wrap ((x : Int) * (y : Int)) = (t : Int) := by rw [hti, wrap64 t (by omega)]
          obtain ⟨v, hv⟩ : ∃ v, v = z + t := ⟨_, rfl⟩
          rw [← hv] at hst
          have hadd : IntKind.u64.wrap ((z : Int) + (t : Int)) = (v : Int) := by
            rw [show ((z : Int) + (t : Int)) = ((v : Nat) : Int) by omega, wrap64 v (by omega)]
          have N1 : Hid (Blk (wr.setCell ⟨X, n + j, none⟩ (.int .u64 (v : Int))) H 47 B ∧ Blk (wr.setCell ⟨X, n + j, none⟩ (.int .u64 (v : Int))) R 47 Z ∧ Blk (wr.setCell ⟨X, n + j, none⟩ (.int .u64 (v : Int))) X 77 (ul (wdI a r (5 * n + (j + 1)))) ∧ Only (fun _ => False) w (wr.setCell ⟨X, n + j, none⟩ (.int .u64 (v : Int)))) := by
            have oc := (Only.refl (fun k => k = X) wr).setCell (p := ⟨X, n + j, none⟩) (fun _ => rfl) (.int .u64 (v : Int))
            refine ⟨k1.keep oc HG.out.2.2.2, k2.keep oc HG.out.2.2.1, ?_, k4.trans oc (fun i hi e => by have := HG.out.1; omega)⟩
            have h := k3.set (n + j) (.int .u64 (v : Int))
            rw [ul_set, ← hst] at h
            exact h
          have i2 : (j : Int) < 5 := by omega
          have hsum : IntKind.i64.wrap ((n : Int) + (j : Int)) = ((n + j : Nat) : Int) := by rw [IntKind.wrap_i64]; omega
          clear k1 k2 k3 k4 hle hst hly hy hz hxy ht hti hv
          go_wp2
          go_roundw
          case rel => exact ⟨j + 1, by omega, by go_num, N1.out⟩
          case measure => simp [intOf]; omega
        · obtain rfl : j = 5 := by omega
          have N2 := hideIt (And.intro k1 (And.intro k2 (And.intro k3 k4)))
          clear k1 k2 k3 k4
          go_wp2
          go_roundw
          case rel => exact ⟨n + 1, by omega, by go_num, N2.out⟩
          case measure => simp [intOf]; omega
    · obtain rfl : n = 5 := by omega
      have HK := hideIt (And.intro k2 (And.intro k3 k4))
      obtain ⟨T, hT⟩ : ∃ T, T = otr (wdI a r 25) := ⟨_, rfl⟩
      have HT : Hid (T.length = 5 ∧ (∀ i, i < 5 → T.getD i 0 = (wdI a r 25).getD i 0 + 5 * (wdI a r 25).getD (i + 5) 0) ∧ LB 9223372036854775808 T ∧ crI 3 T = ptms a r) := by
        rw [hT]
        exact ⟨otr_len _, otr_at _, tms_fit a r HS.out.2.2.1 HS.out.2.2.2, rfl⟩
      have HW := hideIt (wdI_le a r HS.out.2.2.1 HS.out.2.2.2 25)
      have HWL := hideIt (wdI_len a r 25)
      obtain ⟨V, hV⟩ : ∃ V, V = wdI a r 25 := ⟨_, rfl⟩
      rw [show 5 * 5 = 25 from rfl, ← hV] at HK
      rw [← hV] at HT HW HWL
      clear k1 k2 k3 k4 hT hV
      go_wp2
      have K2 : Hid (Blk (wr.alloc (.cells Z.toArray 47)) R 47 Z ∧ Blk (wr.alloc (.cells Z.toArray 47)) X 77 (ul V) ∧ Blk (wr.alloc (.cells Z.toArray 47)) wr.heap.size 47 (ul (T.take 0 ++ (List.replicate 5 0).drop 0)) ∧ Only (fun _ => False) w (wr.alloc (.cells Z.toArray 47))) := by
        refine ⟨HK.out.1.alloc _, HK.out.2.1.alloc _, ?_, HK.out.2.2.alloc _⟩
        have := Blk.new wr 47 Z
        rw [HD.out.2.1] at this ⊢
        exact this
      have HR : Hid (w.heap.size ≤ wr.heap.size ∧ R ≠ wr.heap.size ∧ X ≠ wr.heap.size) := by
        have h1 := HK.out.2.2.size
        have h2 := HK.out.1.lt
        have h3 := HK.out.2.1.lt
        exact ⟨h1, by omega, by omega⟩
      obtain ⟨Q, hQ⟩ : ∃ Q, Q = wr.heap.size := ⟨_, rfl⟩
      rw [← hQ] at K2 HR ⊢
      obtain ⟨W2, hW2⟩ : ∃ W2, W2 = wr.alloc (.cells Z.toArray 47) := ⟨_, rfl⟩
      rw [← hW2] at K2 ⊢
      clear hQ hW2 HK
      go_loopw [34] (fun i wr => ∃ n : Nat, n ≤ 5 ∧ i = .int .i64 n ∧ Blk wr R 47 Z ∧ Blk wr X 77 (ul V) ∧ Blk wr Q 47 (ul (T.take n ++ (List.replicate 5 0).drop n)) ∧ Only (fun _ => False) w wr) (fun i _ => 5 - (intOf i).toNat)
      case atStart => exact ⟨0, by omega, rfl, K2.out⟩
      case round =>
        obtain ⟨n, hn, rfl, k1, k2, k3, k4⟩ := hrel
        clear K2
        by_cases hlt : n < 5
        · have hll := put_len T (List.replicate 5 0) n 5 HT.out.1 (by simp) hn
          have hc1 : wr.cell? ⟨X, n, none⟩ = some (.int .u64 ((V.getD n 0 : Nat) : Int)) := by
            rw [k2.cell, ul_at _ _ (by rw [HWL.out]; omega)]
          have hc2 : wr.cell? ⟨X, n + 5, none⟩ = some (.int .u64 ((V.getD (n + 5) 0 : Nat) : Int)) := by
            rw [k2.cell, ul_at _ _ (by rw [HWL.out]; omega)]
          have hc3 : wr.cell? ⟨Q, n, none⟩ = some (.int .u64 (((T.take n ++ (List.replicate 5 0).drop n).getD n 0 : Nat) : Int)) := by
            rw [k3.cell, ul_at _ _ (by rw [hll]; exact hlt)]
          have hf := k3.froz n
          have hsn := put_at T (List.replicate 5 0) n (by simpa using hlt) (by rw [HT.out.1]; exact hlt)
          rw [HT.out.2.1 n hlt] at hsn
          have hx := HW.out n
          have hy := HW.out (n + 5)
          obtain ⟨x, hxx⟩ : ∃ x, x = V.getD n 0 := ⟨_, rfl⟩
          obtain ⟨y, hyy⟩ : ∃ y, y = V.getD (n + 5) 0 := ⟨_, rfl⟩
          obtain ⟨z, hzz⟩ : ∃ z, z = (T.take n ++ (List.replicate 5 0).drop n).getD n 0 := ⟨_, rfl⟩
          rw [← hxx] at hc1 hsn hx
          rw [← hyy] at hc2 hsn hy
          rw [← hzz] at hc3
          obtain ⟨v, hv⟩ : ∃ v, v = x + 5 * y := ⟨_, rfl⟩
          rw [← hv] at hsn
          have hml : IntKind.u64.wrap (5 * (y : Int)) = 5 * (y : Int) := by
            rw [show (5 * (y : Int)) = ((5 * y : Nat) : Int) by omega, wrap64 _ (by omega)]
          have hadd : IntKind.u64.wrap ((x : Int) + 5 * (y : Int)) = (v : Int) := by
            rw [show ((x : Int) + 5 * (y : Int)) = ((v : Nat) : Int) by omega, wrap64 v (by omega)]
          have N1 : Hid (Blk (wr.drew.setCell ⟨Q, n, none⟩ (.int .u64 (v : Int))) R 47 Z ∧ Blk (wr.drew.setCell ⟨Q, n, none⟩ (.int .u64 (v : Int))) X 77 (ul V) ∧ Blk (wr.drew.setCell ⟨Q, n, none⟩ (.int .u64 (v : Int))) Q 47 (ul (T.take (n + 1) ++ (List.replicate 5 0).drop (n + 1))) ∧ Only (fun _ => False) w (wr.drew.setCell ⟨Q, n, none⟩ (.int .u64 (v : Int)))) := by
            have oc := ((Only.refl (fun k => k = Q) wr).drew).setCell (p := ⟨Q, n, none⟩) (fun _ => rfl) (.int .u64 (v : Int))
            refine ⟨k1.keep oc HR.out.2.1, k2.keep oc HR.out.2.2, ?_, k4.trans oc (fun i hi e => by have := HR.out.1; omega)⟩
            have h := k3.drew.set n (.int .u64 (v : Int))
            rw [ul_set, hsn] at h
            exact h
          have i1 : (n : Int) < 5 := by omega
          have hsum : IntKind.i64.wrap ((n : Int) + 5) = ((n + 5 : Nat) : Int) := by rw [IntKind.wrap_i64]; omega
          have hXQ : ¬ X = Q := HR.out.2.2
          clear k1 k2 k3 k4 hll hsn hx hy hxx hyy hzz hv
          go_wp2_with fail
          go_region
          all_goals go_wp2
          all_goals go_roundw
          case rel => exact ⟨n + 1, by omega, by go_num, N1.out⟩
          case measure => simp [intOf]; omega
        · obtain rfl : n = 5 := by omega
          have CA := hideIt (carried_any T HT.out.1 HT.out.2.2.1 wr)
          rw [HT.out.2.2.2, ← HD.out.1] at CA
          have HN := hideIt (ul_size T HT.out.1)
          have S2 : Hid (Blk wr Q 47 (ul T)) := by
            have h := k3
            rw [List.take_of_length_le (by rw [HT.out.1]; exact Nat.le_refl _), List.drop_of_length_le (by simp), List.append_nil] at h
            exact h
          have R1 := hideIt k1
          have O1 := hideIt k4
          obtain ⟨TT, hTT⟩ : ∃ TT, TT = ul T := ⟨_, rfl⟩
          rw [← hTT] at CA HN S2
          clear k1 k2 k3 k4 hTT
          go_wp2_with (first | (refine wpList_load_row rfl 47 (.tmp 10) rfl Q rfl 47 TT.toArray (0, 0) _ S2.out Try.underlying47 rfl HN.out ?_))
          refine CA.out.mono ?_
          rintro e w1 ⟨rfl, o1⟩
          have R2 := hideIt (R1.out.past o1)
          have O2 := hideIt (O1.out.same o1)
          clear o1 S2 R1 O1 CA
          go_wp2_with (first | (refine wpList_store_row rfl 47 (.tmp 4) (.tmp 50) rfl R D.toArray rfl rfl 47 Z.toArray R2.out HZ1.out HZ2.out HA.out ?_))
          refine bodyPost_ret (v := .agg D.toArray) (results_cell_row rfl _ _ R 47 D.toArray (0, 0) _ rfl (R2.out.row D) Try.underlying47 rfl HZ1.out) rfl ⟨rfl, ?_⟩
          exact O2.out.setRow (fun h => absurd h (by have := HG.out.2.1; omega)) _
end Go.Proofs.Ytjiippbjflpkkaa
