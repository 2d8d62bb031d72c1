/- leastOf: a settled number modulo p. -/
import Derived.Test.YtjiippbjflpkkaaPs
namespace Go.Proofs.Ytjiippbjflpkkaa
open Go.RowKit

set_option maxHeartbeats 1600000 in
set_option maxRecDepth 100000 in
theorem leastOf_any (s : List Nat) (hs : s.length = 5) (hb : LB 67108864 s) (w : World) :
    Calls Try.prog 37 #[.agg (ul s).toArray] w fun e w' => e = .returned (.agg (ul (lst s)).toArray) ∧ Only (fun _ => False) w w' := by
  have hzv := (zero_of_info (P := Try.prog) Try.zero34).1
  obtain ⟨Z, hZ⟩ : ∃ Z, Z = z5 := ⟨_, rfl⟩
  rw [← hZ] at hzv
  have P5 := hideIt (fun W => plus_any s [5, 0, 0, 0, 0] hs rfl (hb.mono (by decide)) (LB.cons (by decide) (zeros_lb 4 _ (by decide))) W)
  have lp : LB 9223372036854775808 (pls s [5, 0, 0, 0, 0]) := pls_lb (A := 67108864) (B := 6) hb (LB.cons (by decide) (zeros_lb 4 _ (by decide))) (by decide)
  have SE := hideIt (fun W => settled_any (pls s [5, 0, 0, 0, 0]) (pls_len _ _) lp W)
  have hcy := scy_lt (pls s [5, 0, 0, 0, 0]) 0 lp (by decide)
  have EL : Hid (lst s = sdg (s.set 0 (s.getD 0 0 + 5 * scy (pls s [5, 0, 0, 0, 0]) 0)) 0) := rfl
  obtain ⟨c, hc⟩ : ∃ c, c = scy (pls s [5, 0, 0, 0, 0]) 0 := ⟨_, rfl⟩
  obtain ⟨E, hE⟩ : ∃ E, E = ul (sdg (pls s [5, 0, 0, 0, 0]) 0) := ⟨_, rfl⟩
  have HE : Hid ((Try.prog.info? 47).map (·.size) = some E.toArray.size ∧ Z.toArray.size = E.toArray.size ∧ E.toArray.all (·.oneCell') = true) := by
    rw [hE, hZ]
    exact ⟨ul_size _ (by rw [sdg_len, pls_len]), by simp [ul_len, sdg_len, pls_len, z5_len], ul_all _⟩
  rw [← hc, ← hE] at SE
  rw [← hc] at hcy EL
  obtain ⟨PL, hPL⟩ : ∃ PL, PL = ul (pls s [5, 0, 0, 0, 0]) := ⟨_, rfl⟩
  rw [← hPL] at P5 SE
  have hx := hb 0
  have H0 := hideIt (ul_at s 0 (by rw [hs]; decide))
  have HUS := hideIt (ul_set s 0)
  obtain ⟨x, hxx⟩ : ∃ x, x = s.getD 0 0 := ⟨_, rfl⟩
  rw [← hxx] at hx H0 EL
  obtain ⟨v, hv⟩ : ∃ v, v = x + 5 * c := ⟨_, rfl⟩
  rw [← hv] at EL
  have hml : IntKind.u64.wrap (5 * (c : Int)) = 5 * (c : Int) := by
    rw [show (5 * (c : Int)) = ((5 * c : Nat) : Int) by omega, wrap64 _ (by omega)]
  have hadd : IntKind.u64.wrap ((x : Int) + 5 * (c : Int)) = (v : Int) := by
    rw [show ((x : Int) + 5 * (c : Int)) = ((v : Nat) : Int) by omega, wrap64 v (by omega)]
  have SV := hideIt (fun W => settled_any (s.set 0 v) (by rw [List.length_set, hs]) ((hb.mono (by decide)).set 0 v (by omega)) W)
  rw [← EL.out] at SV
  obtain ⟨D, hD⟩ : ∃ D, D = ul (lst s) := ⟨_, rfl⟩
  have HZ1 : Hid ((Try.prog.info? 47).map (·.size) = some D.toArray.size ∧ Z.toArray.size = D.toArray.size ∧ D.toArray.all (·.oneCell') = true) := by
    rw [hD, hZ]
    exact ⟨ul_size _ (lst_len s hs), by simp [ul_len, lst_len s hs, z5_len], ul_all _⟩
  rw [← hD] at SV ⊢
  obtain ⟨V, hV⟩ : ∃ V, V = ul (s.set 0 v) := ⟨_, rfl⟩
  have HV : Hid ((Try.prog.info? 47).map (·.size) = some V.toArray.size ∧ V.toArray.size = D.toArray.size) := by
    rw [hV, hD]
    exact ⟨ul_size _ (by rw [List.length_set, hs]), by simp [ul_len, lst_len s hs, hs]⟩
  rw [← hV] at SV
  obtain ⟨d, hd⟩ : ∃ d, d = scy (s.set 0 v) 0 := ⟨_, rfl⟩
  rw [← hd] at SV
  have HSZ := hideIt (ul_size s hs)
  obtain ⟨B, hB⟩ : ∃ B, B = ul s := ⟨_, rfl⟩
  have HVS : Hid (B.set 0 (.int .u64 (v : Int)) = V) := by
    show _ = _
    rw [hB, HUS.out, hV]
  rw [← hB] at P5 H0 HSZ ⊢
  have KA : Hid (Blk ((w.alloc (.cells B.toArray 47)).alloc (.cells Z.toArray 47)) w.heap.size 47 B ∧ Blk ((w.alloc (.cells B.toArray 47)).alloc (.cells Z.toArray 47)) (w.heap.size + 1) 47 Z ∧ Only (fun _ => False) w ((w.alloc (.cells B.toArray 47)).alloc (.cells Z.toArray 47))) := by
    refine ⟨(Blk.new w 47 B).alloc _, ?_, ((Only.refl _ _).alloc _).alloc _⟩
    have := Blk.new (w.alloc (.cells B.toArray 47)) 47 Z
    rw [size_alloc] at this
    exact this
  clear hZ hs hb lp hc hE hPL hx hxx hv hD hV hd hB EL HUS
  go_enter Try.func37, Try.ntmps37
  go_wp2_with (first | (refine wpList_load_row rfl 47 (.tmp 1) rfl w.heap.size rfl 47 B.toArray (0, 0) _ KA.out.1 Try.underlying47 rfl HSZ.out ?_) | (refine wpList_build_as rfl 47 _ rfl (ul [5, 0, 0, 0, 0]).toArray (by kernel_rfl) ?_))
  obtain ⟨R, hR⟩ : ∃ R, R = w.heap.size + 1 := ⟨_, rfl⟩
  rw [← hR] at KA ⊢
  obtain ⟨G, hG⟩ : ∃ G, G = w.heap.size := ⟨_, rfl⟩
  have HG : Hid (w.heap.size ≤ G ∧ w.heap.size ≤ R ∧ R ≠ G) := ⟨by omega, by omega, by omega⟩
  rw [← hG] at KA ⊢
  obtain ⟨W0, hW0⟩ : ∃ W0, W0 = (w.alloc (.cells B.toArray 47)).alloc (.cells Z.toArray 47) := ⟨_, rfl⟩
  rw [← hW0] at KA ⊢
  clear hG hR hW0
  refine (P5.out W0).mono ?_
  rintro e w1 ⟨rfl, o1⟩
  have K1 : Hid (Blk w1 G 47 B ∧ Blk w1 R 47 Z ∧ Only (fun _ => False) w w1) := ⟨KA.out.1.past o1, KA.out.2.1.past o1, KA.out.2.2.same o1⟩
  clear o1 KA P5
  go_wp2_with fail
  refine (SE.out w1).mono ?_
  rintro e w2 ⟨rfl, o2⟩
  have K2 : Hid (Blk w2 G 47 B ∧ Blk w2 R 47 Z ∧ Only (fun _ => False) w w2) := ⟨K1.out.1.past o2, K1.out.2.1.past o2, K1.out.2.2.same o2⟩
  clear o2 K1 SE
  obtain ⟨W3, hW3⟩ : ∃ W3, W3 = (w2.alloc (.cells Z.toArray 47)).setRow w2.heap.size E.toArray := ⟨_, rfl⟩
  have o3 : Only (fun _ => False) w2 W3 := by
    rw [hW3]
    exact ((Only.refl _ _).alloc _).setRow (fun h => absurd h (Nat.lt_irrefl _)) _
  have K3 : Hid (Blk W3 G 47 B ∧ Blk W3 R 47 Z ∧ Only (fun _ => False) w W3) := ⟨K2.out.1.past o3, K2.out.2.1.past o3, K2.out.2.2.same o3⟩
  have hc3 : W3.cell? ⟨G, 0, none⟩ = some (.int .u64 (x : Int)) := by rw [K3.out.1.cell, H0.out]
  have hf3 := K3.out.1.froz 0
  have K4 : Hid (Blk (W3.setCell ⟨G, 0, none⟩ (.int .u64 (v : Int))) G 47 V ∧ Blk (W3.setCell ⟨G, 0, none⟩ (.int .u64 (v : Int))) R 47 Z ∧ Only (fun _ => False) w (W3.setCell ⟨G, 0, none⟩ (.int .u64 (v : Int)))) := by
    have oc := (Only.refl (fun k => k = G) W3).setCell (p := ⟨G, 0, none⟩) (fun _ => rfl) (.int .u64 (v : Int))
    refine ⟨?_, K3.out.2.1.keep oc HG.out.2.2, K3.out.2.2.trans oc (fun i hi e => by have := HG.out.1; omega)⟩
    have h := K3.out.1.set 0 (.int .u64 (v : Int))
    rw [HVS.out] at h
    exact h
  clear o3
  go_wp2_with (first | (refine wpList_store_row rfl 47 (.tmp 3) (.tmp 10) rfl w2.heap.size E.toArray rfl rfl 47 Z.toArray (Blk.new w2 47 Z) HE.out.1 HE.out.2.1 HE.out.2.2 ?_; rw [← hW3]; clear hW3) | (refine wpList_load_row rfl 47 (.tmp 1) rfl G rfl 47 V.toArray (0, 0) _ K4.out.1 Try.underlying47 rfl HV.out.1 ?_))
  obtain ⟨W4, hW4⟩ : ∃ W4, W4 = W3.setCell ⟨G, 0, none⟩ (.int .u64 (v : Int)) := ⟨_, rfl⟩
  rw [← hW4] at K4 ⊢
  clear hW4 K2 K3
  refine (SV.out W4).mono ?_
  rintro e w5 ⟨rfl, o5⟩
  have S5 := hideIt (K4.out.1.past o5)
  have R5 := hideIt (K4.out.2.1.past o5)
  have O5 := hideIt (K4.out.2.2.same o5)
  have S6 := hideIt (S5.out.row D)
  have R6 : Hid (Blk (w5.setRow G D.toArray) R 47 Z) := R5.out.keep ((Only.refl (fun k => k = G) _).setRow (fun _ => rfl) _) HG.out.2.2
  clear o5 K4 SV
  go_wp2_with (first | (refine wpList_store_row rfl 47 (.tmp 1) (.tmp 21) rfl G D.toArray rfl rfl 47 V.toArray S5.out HZ1.out.1 HV.out.2 HZ1.out.2.2 ?_) | (refine wpList_load_row rfl 47 (.tmp 1) rfl G rfl 47 D.toArray (0, 0) _ S6.out Try.underlying47 rfl HZ1.out.1 ?_) | (refine wpList_store_row rfl 47 (.tmp 2) (.tmp 23) rfl R D.toArray rfl rfl 47 Z.toArray R6.out HZ1.out.1 HZ1.out.2.1 HZ1.out.2.2 ?_))
  refine bodyPost_ret (v := .agg D.toArray) (results_cell_row rfl _ _ R 47 D.toArray (0, 0) _ rfl (R6.out.row D) Try.underlying47 rfl HZ1.out.1) rfl ⟨rfl, ?_⟩
  exact (O5.out.setRow (fun h => absurd h (by have := HG.out.1; omega)) _).setRow (fun h => absurd h (by have := HG.out.2.1; omega)) _
end Go.Proofs.Ytjiippbjflpkkaa
