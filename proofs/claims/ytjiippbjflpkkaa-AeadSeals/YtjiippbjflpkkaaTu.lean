/- Ten times eight turns. -/
import Derived.Test.YtjiippbjflpkkaaTn
namespace Go.Proofs.Ytjiippbjflpkkaa
open Go.RowKit

theorem tclo (g : Nat) (s : List Nat) (hs : s.length = 16) (h32 : W32 s) (i j k l : Nat) (hi : i < 16) (hj : j < 16) (hk : k < 16) (hl : l < 16)
    (nij : ¬ i = j) (nik : ¬ i = k) (nil : ¬ i = l) (njk : ¬ j = k) (njl : ¬ j = l) (nkl : ¬ k = l) (w : World) (hb : Blk w g 41 (wl s)) :
    Calls Try.prog 58 #[.int .i64 i, .int .i64 j, .int .i64 k, .int .i64 l, .pointer (some ⟨g, 0, none⟩)] w fun e w' => e = .returned (.tuple #[]) ∧ Blk w' g 41 (wl (turnW s i j k l)) ∧ Only (fun x => x = g) w w' := by
  have hc : ∀ n, n < 16 → w.cell? ⟨g, n, none⟩ = some (.int .u32 ((s.getD n 0 : Nat) : Int)) := fun n hn => by rw [hb.cell, wl_at s n (by omega)]
  have QA : Hid (∀ W : World, Calls Try.prog 59 #[.int .u32 (s.getD i 0 : Nat), .int .u32 (s.getD j 0 : Nat), .int .u32 (s.getD k 0 : Nat), .int .u32 (s.getD l 0 : Nat)] W fun e w' => e = .returned (q4v (qrt ⟨s.getD i 0, s.getD j 0, s.getD k 0, s.getD l 0⟩)) ∧ W = w') :=
    fun W => quarter_any _ _ _ _ W (h32.at i) (h32.at j) (h32.at k) (h32.at l)
  refine (tclo_raw g i j k l _ _ _ _ _ _ _ _ w (by omega) (by omega) (by omega) (by omega) (by omega) (by omega) (by omega) (by omega) QA (hc i hi) (hc j hj) (hc k hk) (hc l hl) nij nik nil njk njl nkl (fun n => hb.froz n)).mono ?_
  rintro e w' ⟨rfl, rfl⟩
  refine ⟨rfl, ?_, ?_⟩
  · have h := (((hb.drew.set i (.int .u32 ((qrt ⟨s.getD i 0, s.getD j 0, s.getD k 0, s.getD l 0⟩).a : Nat))).set j (.int .u32 ((qrt ⟨s.getD i 0, s.getD j 0, s.getD k 0, s.getD l 0⟩).b : Nat))).set k (.int .u32 ((qrt ⟨s.getD i 0, s.getD j 0, s.getD k 0, s.getD l 0⟩).c : Nat))).set l (.int .u32 ((qrt ⟨s.getD i 0, s.getD j 0, s.getD k 0, s.getD l 0⟩).d : Nat))
    rw [wl_set, wl_set, wl_set, wl_set] at h
    exact h
  · exact (((((Only.refl (fun x => x = g) w).drew).setCell (p := ⟨g, i, none⟩) (fun _ => rfl) _).setCell (p := ⟨g, j, none⟩) (fun _ => rfl) _).setCell (p := ⟨g, k, none⟩) (fun _ => rfl) _).setCell (p := ⟨g, l, none⟩) (fun _ => rfl) _

theorem turnP_eq (s : List Nat) (i j k l : Nat) : turnP s (i, j, k, l) = turnW s i j k l := rfl
theorem dblR_steps {s0 s1 s2 s3 s4 s5 s6 s7 s8 : List Nat} (h1 : s1 = turnW s0 0 4 8 12) (h2 : s2 = turnW s1 1 5 9 13) (h3 : s3 = turnW s2 2 6 10 14) (h4 : s4 = turnW s3 3 7 11 15) (h5 : s5 = turnW s4 0 5 10 15) (h6 : s6 = turnW s5 1 6 11 12) (h7 : s7 = turnW s6 2 7 8 13) (h8 : s8 = turnW s7 3 4 9 14) : dblR s0 = s8 := by
  rw [h8, h7, h6, h5, h4, h3, h2, h1]
  simp only [dblR, fours, List.foldl_cons, List.foldl_nil, turnP_eq]

theorem Try.size44 : (Try.prog.info? 41).map (·.size) = some 16 := by kernel_rfl
def zW : List Value := wl (List.replicate 16 0)
theorem Try.zero44 : (Try.prog.info? 41).map (fun i => (i.zero, i.size)) = some (some (.agg zW.toArray), 16) := by kernel_rfl
theorem zW_len : zW.length = 16 := rfl

set_option maxHeartbeats 1600000 in
set_option maxRecDepth 100000 in
theorem turned_any (s : List Nat) (hs : s.length = 16) (h32 : W32 s) (w : World) : Calls Try.prog 50 #[.agg (wl s).toArray] w fun e w' => e = .returned (.agg (wl (dbls 10 s)).toArray) ∧ Only (fun _ => False) w w' := by
  have hmf : ∀ (fn : Fn) (first cap : Array Value) (w : World), (Instr.makeFunc fn first cap).run Try.prog w = .ok (.func fn first cap) w := fun _ _ _ _ => rfl
  have hzv := (zero_of_info (P := Try.prog) Try.zero44).1
  obtain ⟨Z, hZ⟩ : ∃ Z, Z = zW := ⟨_, rfl⟩
  rw [← hZ] at hzv
  have HZ := hideIt hZ
  obtain ⟨D, hD⟩ : ∃ D, D = wl (dbls 10 s) := ⟨_, rfl⟩
  have HZ1 : Hid ((Try.prog.info? 41).map (·.size) = some D.toArray.size) := by
    show _ = _
    rw [hD]; simp [wl_len, dbls_len, hs, Try.size44]
  have HZ2 : Hid (Z.toArray.size = D.toArray.size) := by
    show _ = _
    rw [hD, hZ]; simp [wl_len, dbls_len, hs, zW_len]
  have HA : Hid (D.toArray.all (·.oneCell') = true) := by
    show _ = _
    rw [hD]; exact wl_all _
  rw [← hD]
  have HD := hideIt hD
  have HS := hideIt (And.intro hs h32)
  obtain ⟨B, hB⟩ : ∃ B, B = wl s := ⟨_, rfl⟩
  have HB := hideIt hB
  rw [← hB]
  clear hZ hD hB hs h32
  go_enter Try.func50, Try.ntmps50
  go_wp2_with fail
  have S0 : Hid (Blk ((w.alloc (.cells B.toArray 41)).alloc (.cells Z.toArray 41)) w.heap.size 41 (wl (dbls 0 s))) := by
    show Blk _ _ _ (wl s)
    rw [← HB.out]
    exact (Blk.new w 41 B).alloc _
  have R0 : Hid (Blk ((w.alloc (.cells B.toArray 41)).alloc (.cells Z.toArray 41)) (w.heap.size + 1) 41 Z) := by
    have := Blk.new (w.alloc (.cells B.toArray 41)) 41 Z
    rw [size_alloc] at this
    exact this
  have O0 : Hid (Only (fun _ => False) w ((w.alloc (.cells B.toArray 41)).alloc (.cells Z.toArray 41))) := ((Only.refl _ _).alloc _).alloc _
  obtain ⟨G, hG⟩ : ∃ G, G = w.heap.size := ⟨_, rfl⟩
  obtain ⟨R, hR⟩ : ∃ R, R = w.heap.size + 1 := ⟨_, rfl⟩
  obtain ⟨W0, hW0⟩ : ∃ W0, W0 = (w.alloc (.cells B.toArray 41)).alloc (.cells Z.toArray 41) := ⟨_, rfl⟩
  rw [← hG, ← hW0] at S0
  rw [← hR, ← hW0] at R0
  rw [← hW0] at O0
  rw [← hR, ← hG, ← hW0]
  have HG : Hid (w.heap.size ≤ G ∧ w.heap.size ≤ R ∧ R ≠ G) := ⟨by omega, by omega, by omega⟩
  clear hG hR hW0 hzv
  go_loopw [5] (fun i wr => ∃ n : Nat, n ≤ 10 ∧ i = .int .i64 n ∧ Blk wr G 41 (wl (dbls n s)) ∧ Blk wr R 41 Z ∧ Only (fun _ => False) w wr) (fun i _ => 10 - (intOf i).toNat)
  case atStart => exact ⟨0, by omega, rfl, S0.out, R0.out, O0.out⟩
  case round =>
    obtain ⟨n, hn, rfl, hS, hR, hO⟩ := hrel
    clear S0 R0 O0
    by_cases hlt : n < 10
    · obtain ⟨s0, hs0⟩ : ∃ s0, s0 = dbls n s := ⟨_, rfl⟩
      have L0 : s0.length = 16 := by rw [hs0, dbls_len]; exact HS.out.1
      have K0 : W32 s0 := by rw [hs0]; exact dbls_w32 n s HS.out.2
      have E0 : Hid (dbls (n + 1) s = dblR s0) := by
        show _ = _
        rw [hs0]; rfl
      rw [← hs0] at hS
      have B0 := hideIt (And.intro hS (And.intro L0 K0))
      have RO := hideIt (And.intro hR hO)
      have i1 : (n : Int) < 10 := by omega
      clear hs0 L0 K0 hS hR hO
      go_wp2_with fail
      refine (tclo G s0 B0.out.2.1 B0.out.2.2 0 4 8 12 (by decide) (by decide) (by decide) (by decide) (by decide) (by decide) (by decide) (by decide) (by decide) (by decide) _ B0.out.1).mono ?_
      rintro e w1 ⟨rfl, b1, o1⟩
      obtain ⟨s1, hs1⟩ : ∃ s1, s1 = turnW s0 0 4 8 12 := ⟨_, rfl⟩
      have B1 : Hid (Blk w1 G 41 (wl s1) ∧ s1.length = 16 ∧ W32 s1) := ⟨by rw [hs1]; exact b1, by rw [hs1, turnW_len]; exact B0.out.2.1, by rw [hs1]; exact turnW_w32 B0.out.2.2 _ _ _ _⟩
      have RO1 : Hid (Blk w1 R 41 Z ∧ Only (fun _ => False) w w1) := ⟨RO.out.1.keep o1 HG.out.2.2, RO.out.2.trans o1 (fun i hi e => by have := HG.out.1; omega)⟩
      have E1 := hideIt hs1
      clear hs1 b1 o1 B0 RO
      go_wp2_with fail
      refine (tclo G s1 B1.out.2.1 B1.out.2.2 1 5 9 13 (by decide) (by decide) (by decide) (by decide) (by decide) (by decide) (by decide) (by decide) (by decide) (by decide) _ B1.out.1).mono ?_
      rintro e w2 ⟨rfl, b2, o2⟩
      obtain ⟨s2, hs2⟩ : ∃ s2, s2 = turnW s1 1 5 9 13 := ⟨_, rfl⟩
      have B2 : Hid (Blk w2 G 41 (wl s2) ∧ s2.length = 16 ∧ W32 s2) := ⟨by rw [hs2]; exact b2, by rw [hs2, turnW_len]; exact B1.out.2.1, by rw [hs2]; exact turnW_w32 B1.out.2.2 _ _ _ _⟩
      have RO2 : Hid (Blk w2 R 41 Z ∧ Only (fun _ => False) w w2) := ⟨RO1.out.1.keep o2 HG.out.2.2, RO1.out.2.trans o2 (fun i hi e => by have := HG.out.1; omega)⟩
      have E2 := hideIt hs2
      clear hs2 b2 o2 B1 RO1
      go_wp2_with fail
      refine (tclo G s2 B2.out.2.1 B2.out.2.2 2 6 10 14 (by decide) (by decide) (by decide) (by decide) (by decide) (by decide) (by decide) (by decide) (by decide) (by decide) _ B2.out.1).mono ?_
      rintro e w3 ⟨rfl, b3, o3⟩
      obtain ⟨s3, hs3⟩ : ∃ s3, s3 = turnW s2 2 6 10 14 := ⟨_, rfl⟩
      have B3 : Hid (Blk w3 G 41 (wl s3) ∧ s3.length = 16 ∧ W32 s3) := ⟨by rw [hs3]; exact b3, by rw [hs3, turnW_len]; exact B2.out.2.1, by rw [hs3]; exact turnW_w32 B2.out.2.2 _ _ _ _⟩
      have RO3 : Hid (Blk w3 R 41 Z ∧ Only (fun _ => False) w w3) := ⟨RO2.out.1.keep o3 HG.out.2.2, RO2.out.2.trans o3 (fun i hi e => by have := HG.out.1; omega)⟩
      have E3 := hideIt hs3
      clear hs3 b3 o3 B2 RO2
      go_wp2_with fail
      refine (tclo G s3 B3.out.2.1 B3.out.2.2 3 7 11 15 (by decide) (by decide) (by decide) (by decide) (by decide) (by decide) (by decide) (by decide) (by decide) (by decide) _ B3.out.1).mono ?_
      rintro e w4 ⟨rfl, b4, o4⟩
      obtain ⟨s4, hs4⟩ : ∃ s4, s4 = turnW s3 3 7 11 15 := ⟨_, rfl⟩
      have B4 : Hid (Blk w4 G 41 (wl s4) ∧ s4.length = 16 ∧ W32 s4) := ⟨by rw [hs4]; exact b4, by rw [hs4, turnW_len]; exact B3.out.2.1, by rw [hs4]; exact turnW_w32 B3.out.2.2 _ _ _ _⟩
      have RO4 : Hid (Blk w4 R 41 Z ∧ Only (fun _ => False) w w4) := ⟨RO3.out.1.keep o4 HG.out.2.2, RO3.out.2.trans o4 (fun i hi e => by have := HG.out.1; omega)⟩
      have E4 := hideIt hs4
      clear hs4 b4 o4 B3 RO3
      go_wp2_with fail
      refine (tclo G s4 B4.out.2.1 B4.out.2.2 0 5 10 15 (by decide) (by decide) (by decide) (by decide) (by decide) (by decide) (by decide) (by decide) (by decide) (by decide) _ B4.out.1).mono ?_
      rintro e w5 ⟨rfl, b5, o5⟩
      obtain ⟨s5, hs5⟩ : ∃ s5, s5 = turnW s4 0 5 10 15 := ⟨_, rfl⟩
      have B5 : Hid (Blk w5 G 41 (wl s5) ∧ s5.length = 16 ∧ W32 s5) := ⟨by rw [hs5]; exact b5, by rw [hs5, turnW_len]; exact B4.out.2.1, by rw [hs5]; exact turnW_w32 B4.out.2.2 _ _ _ _⟩
      have RO5 : Hid (Blk w5 R 41 Z ∧ Only (fun _ => False) w w5) := ⟨RO4.out.1.keep o5 HG.out.2.2, RO4.out.2.trans o5 (fun i hi e => by have := HG.out.1; omega)⟩
      have E5 := hideIt hs5
      clear hs5 b5 o5 B4 RO4
      go_wp2_with fail
      refine (tclo G s5 B5.out.2.1 B5.out.2.2 1 6 11 12 (by decide) (by decide) (by decide) (by decide) (by decide) (by decide) (by decide) (by decide) (by decide) (by decide) _ B5.out.1).mono ?_
      rintro e w6 ⟨rfl, b6, o6⟩
      obtain ⟨s6, hs6⟩ : ∃ s6, s6 = turnW s5 1 6 11 12 := ⟨_, rfl⟩
      have B6 : Hid (Blk w6 G 41 (wl s6) ∧ s6.length = 16 ∧ W32 s6) := ⟨by rw [hs6]; exact b6, by rw [hs6, turnW_len]; exact B5.out.2.1, by rw [hs6]; exact turnW_w32 B5.out.2.2 _ _ _ _⟩
      have RO6 : Hid (Blk w6 R 41 Z ∧ Only (fun _ => False) w w6) := ⟨RO5.out.1.keep o6 HG.out.2.2, RO5.out.2.trans o6 (fun i hi e => by have := HG.out.1; omega)⟩
      have E6 := hideIt hs6
      clear hs6 b6 o6 B5 RO5
      go_wp2_with fail
      refine (tclo G s6 B6.out.2.1 B6.out.2.2 2 7 8 13 (by decide) (by decide) (by decide) (by decide) (by decide) (by decide) (by decide) (by decide) (by decide) (by decide) _ B6.out.1).mono ?_
      rintro e w7 ⟨rfl, b7, o7⟩
      obtain ⟨s7, hs7⟩ : ∃ s7, s7 = turnW s6 2 7 8 13 := ⟨_, rfl⟩
      have B7 : Hid (Blk w7 G 41 (wl s7) ∧ s7.length = 16 ∧ W32 s7) := ⟨by rw [hs7]; exact b7, by rw [hs7, turnW_len]; exact B6.out.2.1, by rw [hs7]; exact turnW_w32 B6.out.2.2 _ _ _ _⟩
      have RO7 : Hid (Blk w7 R 41 Z ∧ Only (fun _ => False) w w7) := ⟨RO6.out.1.keep o7 HG.out.2.2, RO6.out.2.trans o7 (fun i hi e => by have := HG.out.1; omega)⟩
      have E7 := hideIt hs7
      clear hs7 b7 o7 B6 RO6
      go_wp2_with fail
      refine (tclo G s7 B7.out.2.1 B7.out.2.2 3 4 9 14 (by decide) (by decide) (by decide) (by decide) (by decide) (by decide) (by decide) (by decide) (by decide) (by decide) _ B7.out.1).mono ?_
      rintro e w8 ⟨rfl, b8, o8⟩
      obtain ⟨s8, hs8⟩ : ∃ s8, s8 = turnW s7 3 4 9 14 := ⟨_, rfl⟩
      have B8 : Hid (Blk w8 G 41 (wl s8) ∧ s8.length = 16 ∧ W32 s8) := ⟨by rw [hs8]; exact b8, by rw [hs8, turnW_len]; exact B7.out.2.1, by rw [hs8]; exact turnW_w32 B7.out.2.2 _ _ _ _⟩
      have RO8 : Hid (Blk w8 R 41 Z ∧ Only (fun _ => False) w w8) := ⟨RO7.out.1.keep o8 HG.out.2.2, RO7.out.2.trans o8 (fun i hi e => by have := HG.out.1; omega)⟩
      have E8 := hideIt hs8
      clear hs8 b8 o8 B7 RO7
      have EN : Hid (dbls (n + 1) s = s8) := by
        show _ = _
        rw [E0.out]; exact dblR_steps E1.out E2.out E3.out E4.out E5.out E6.out E7.out E8.out
      go_wp2
      go_roundw
      case rel => exact ⟨n + 1, by omega, by go_num, by rw [EN.out]; exact B8.out.1, RO8.out.1, RO8.out.2⟩
      case measure => simp [intOf]; omega
    · obtain rfl : n = 10 := by omega
      rw [← HD.out] at hS
      have S2 := hideIt hS
      have R2 := hideIt hR
      have O2 := hideIt hO
      clear hS hR hO
      go_wp2_with (first | (refine wpList_load_row rfl 41 (.tmp 1) rfl G rfl 41 D.toArray (0, 0) _ S2.out Try.underlying41 rfl HZ1.out ?_) | (refine wpList_store_row rfl 41 (.tmp 2) (.tmp 24) rfl R D.toArray rfl rfl 41 Z.toArray R2.out HZ1.out HZ2.out HA.out ?_))
      refine bodyPost_ret (v := .agg D.toArray) (results_cell_row rfl _ _ R 41 D.toArray (0, 0) _ rfl (R2.out.row D) Try.underlying41 rfl HZ1.out) rfl ⟨rfl, ?_⟩
      exact O2.out.setRow (fun h => absurd h (by have := HG.out.2.1; omega)) _
end Go.Proofs.Ytjiippbjflpkkaa
