/- carried: what goes beyond 2^130 is brought in below, three times. -/
import Derived.Test.YtjiippbjflpkkaaSe
namespace Go.Proofs.Ytjiippbjflpkkaa
open Go.RowKit

set_option maxHeartbeats 1600000 in
set_option maxRecDepth 100000 in
theorem carried_any (s : List Nat) (hs : s.length = 5) (hb : LB 9223372036854775808 s) (w : World) :
    Calls Try.prog 60 #[.agg (ul s).toArray] w fun e w' => e = .returned (.agg (ul (crI 3 s)).toArray) ∧ Only (fun _ => False) w w' := by
  have hzv := (zero_of_info (P := Try.prog) Try.zero34).1
  obtain ⟨Z, hZ⟩ : ∃ Z, Z = z5 := ⟨_, rfl⟩
  rw [← hZ] at hzv
  obtain ⟨D, hD⟩ : ∃ D, D = ul (crI 3 s) := ⟨_, rfl⟩
  have HZ1 : Hid ((Try.prog.info? 47).map (·.size) = some D.toArray.size) := by
    show _ = _
    rw [hD]; simp [ul_len, crI_len, hs, Try.size34]
  have HZ2 : Hid (Z.toArray.size = D.toArray.size) := by
    show _ = _
    rw [hD, hZ]; simp [ul_len, crI_len, hs, z5_len]
  have HA : Hid (D.toArray.all (·.oneCell') = true) := by
    show _ = _
    rw [hD]; exact ul_all _
  rw [← hD]
  have HD := hideIt hD
  have HS := hideIt (And.intro hs hb)
  obtain ⟨B, hB⟩ : ∃ B, B = ul s := ⟨_, rfl⟩
  have HB := hideIt hB
  rw [← hB]
  clear hZ hD hB hs hb
  go_enter Try.func60, Try.ntmps60
  go_wp2_with fail
  have S0 : Hid (Blk ((w.alloc (.cells B.toArray 47)).alloc (.cells Z.toArray 47)) w.heap.size 47 (ul (crI 0 s)) ∧ Blk ((w.alloc (.cells B.toArray 47)).alloc (.cells Z.toArray 47)) (w.heap.size + 1) 47 Z ∧ Only (fun _ => False) w ((w.alloc (.cells B.toArray 47)).alloc (.cells Z.toArray 47))) := by
    refine ⟨?_, ?_, ((Only.refl _ _).alloc _).alloc _⟩
    · show Blk _ _ _ (ul s)
      rw [← HB.out]
      exact (Blk.new w 47 B).alloc _
    · have := Blk.new (w.alloc (.cells B.toArray 47)) 47 Z
      rw [size_alloc] at this
      exact this
  obtain ⟨R, hR⟩ : ∃ R, R = w.heap.size + 1 := ⟨_, rfl⟩
  rw [← hR] at S0 ⊢
  obtain ⟨G, hG⟩ : ∃ G, G = w.heap.size := ⟨_, rfl⟩
  have HG : Hid (w.heap.size ≤ G ∧ w.heap.size ≤ R ∧ R ≠ G) := ⟨by omega, by omega, by omega⟩
  rw [← hG] at S0 ⊢
  obtain ⟨W0, hW0⟩ : ∃ W0, W0 = (w.alloc (.cells B.toArray 47)).alloc (.cells Z.toArray 47) := ⟨_, rfl⟩
  rw [← hW0] at S0 ⊢
  clear hG hR hW0 hzv
  go_loopw [4] (fun i wr => ∃ n : Nat, n ≤ 3 ∧ i = .int .i64 n ∧ Blk wr G 47 (ul (crI n s)) ∧ Blk wr R 47 Z ∧ Only (fun _ => False) w wr) (fun i _ => 3 - (intOf i).toNat)
  case atStart => exact ⟨0, by omega, rfl, S0.out⟩
  case round =>
    obtain ⟨n, hn, rfl, hS, hR, hO⟩ := hrel
    clear S0
    by_cases hlt : n < 3
    · have hl : (crI n s).length = 5 := by rw [crI_len, HS.out.1]
      have hbb := crI_lb n s HS.out.2
      have A := hideIt (settled_any (crI n s) hl hbb wr)
      have hcy := scy_lt (crI n s) 0 hbb (by decide)
      have hdd := sdg_lb (crI n s) 0 0
      have EN : Hid (crI (n + 1) s = (sdg (crI n s) 0).set 0 ((sdg (crI n s) 0).getD 0 0 + 5 * scy (crI n s) 0)) := rfl
      obtain ⟨c, hc⟩ : ∃ c, c = scy (crI n s) 0 := ⟨_, rfl⟩
      obtain ⟨d, hd⟩ : ∃ d, d = sdg (crI n s) 0 := ⟨_, rfl⟩
      have hdl : d.length = 5 := by rw [hd, sdg_len, hl]
      rw [← hc] at A hcy EN
      rw [← hd] at A hdd EN
      have HN : Hid ((Try.prog.info? 47).map (·.size) = some (ul (crI n s)).toArray.size ∧ (Try.prog.info? 47).map (·.size) = some (ul d).toArray.size ∧ (ul (crI n s)).toArray.size = (ul d).toArray.size ∧ (ul d).toArray.all (·.oneCell') = true) :=
        ⟨ul_size _ hl, ul_size _ hdl, by simp [ul_len, hl, hdl], ul_all _⟩
      have S1 := hideIt hS
      have R1 := hideIt hR
      have O1 := hideIt hO
      obtain ⟨NN, hNN⟩ : ∃ NN, NN = ul (crI n s) := ⟨_, rfl⟩
      rw [← hNN] at A HN S1
      have hd0 : (ul d)[0]? = some (.int .u64 ((d.getD 0 0 : Nat) : Int)) := ul_at d 0 (by rw [hdl]; decide)
      have HUS := hideIt (ul_set d 0)
      obtain ⟨x, hx⟩ : ∃ x, x = d.getD 0 0 := ⟨_, rfl⟩
      rw [← hx] at hd0 hdd EN
      obtain ⟨DD, hDD⟩ : ∃ DD, DD = ul d := ⟨_, rfl⟩
      rw [← hDD] at A HN hd0 HUS
      obtain ⟨v, hv⟩ : ∃ v, v = x + 5 * c := ⟨_, rfl⟩
      have hml : IntKind.u64.wrap (5 * (c : Int)) = 5 * (c : Int) := by
        rw [show (5 * (c : Int)) = ((5 * c : Nat) : Int) by omega, wrap64 _ (by omega)]
      have hadd : IntKind.u64.wrap ((x : Int) + 5 * (c : Int)) = (v : Int) := by
        rw [show ((x : Int) + 5 * (c : Int)) = ((v : Nat) : Int) by omega, wrap64 v (by omega)]
      rw [← hv] at EN
      have i1 : (n : Int) < 3 := by omega
      have HX0 := hideIt hd0
      clear hS hR hO hl hbb hc hd hdl hNN hx hDD hv hd0
      go_wp2_with (first | (refine wpList_load_row rfl 47 (.tmp 1) rfl G rfl 47 NN.toArray (0, 0) _ S1.out Try.underlying47 rfl HN.out.1 ?_))
      refine A.out.mono ?_
      rintro e w1 ⟨rfl, o1⟩
      have S2 := hideIt (S1.out.past o1)
      have R2 := hideIt (R1.out.past o1)
      have O2 := hideIt (O1.out.same o1)
      obtain ⟨W2, hW2⟩ : ∃ W2, W2 = w1.setRow G DD.toArray := ⟨_, rfl⟩
      have hb2 : Blk W2 G 47 DD := by rw [hW2]; exact S2.out.row DD
      have hc2 : W2.cell? ⟨G, 0, none⟩ = some (.int .u64 (x : Int)) := by rw [hb2.cell, HX0.out]
      have hf2 := hb2.froz 0
      have N1 : Hid (Blk (W2.setCell ⟨G, 0, none⟩ (.int .u64 (v : Int))) G 47 (ul (crI (n + 1) s)) ∧ Blk (W2.setCell ⟨G, 0, none⟩ (.int .u64 (v : Int))) R 47 Z ∧ Only (fun _ => False) w (W2.setCell ⟨G, 0, none⟩ (.int .u64 (v : Int)))) := by
        have oc : Only (fun k => k = G) w1 (W2.setCell ⟨G, 0, none⟩ (.int .u64 (v : Int))) := by
          rw [hW2]
          exact ((Only.refl (fun k => k = G) w1).setRow (fun _ => rfl) _).setCell (p := ⟨G, 0, none⟩) (fun _ => rfl) _
        refine ⟨?_, R2.out.keep oc HG.out.2.2, O2.out.trans oc (fun i hi e => by have := HG.out.1; omega)⟩
        have h := hb2.set 0 (.int .u64 (v : Int))
        rw [HUS.out, ← EN.out] at h
        exact h
      clear o1 S1 R1 O1 A hb2
      go_wp2_with (first | (refine wpList_store_row rfl 47 (.tmp 1) (.tmp 9) rfl G DD.toArray rfl rfl 47 NN.toArray S2.out HN.out.2.1 HN.out.2.2.1 HN.out.2.2.2 ?_; rw [← hW2]; clear hW2))
      go_roundw
      case rel => exact ⟨n + 1, by omega, by go_num, N1.out⟩
      case measure => simp [intOf]; omega
    · obtain rfl : n = 3 := by omega
      rw [← HD.out] at hS
      have S2 := hideIt hS
      have R2 := hideIt hR
      have O2 := hideIt hO
      clear hS hR hO
      go_wp2_with (first | (refine wpList_load_row rfl 47 (.tmp 1) rfl G rfl 47 D.toArray (0, 0) _ S2.out Try.underlying47 rfl HZ1.out ?_) | (refine wpList_store_row rfl 47 (.tmp 2) (.tmp 18) rfl R D.toArray rfl rfl 47 Z.toArray R2.out HZ1.out HZ2.out HA.out ?_))
      refine bodyPost_ret (v := .agg D.toArray) (results_cell_row rfl _ _ R 47 D.toArray (0, 0) _ rfl (R2.out.row D) Try.underlying47 rfl HZ1.out) rfl ⟨rfl, ?_⟩
      exact O2.out.setRow (fun h => absurd h (by have := HG.out.2.1; omega)) _
end Go.Proofs.Ytjiippbjflpkkaa
