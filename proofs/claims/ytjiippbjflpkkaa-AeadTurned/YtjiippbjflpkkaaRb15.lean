/- The document's own answer: Block. -/
import Derived.Test.YtjiippbjflpkkaaRw15
import Derived.Test.YtjiippbjflpkkaaRt15
import Derived.Test.YtjiippbjflpkkaaHo
import Derived.Deep.Cut
namespace Go.Proofs.Ytjiippbjflpkkaa
open Go.RowKit

theorem own_some {w : World} {lo : Nat} {E : TypeId} {v : Value} {n : Nat} {xs : List Value} (h : w.ownsRow lo E 1 v n xs) (hn : 0 < n) : ∃ g cap, v = .slice (some ⟨g, 0, none⟩) n cap ∧ lo ≤ g ∧ g < w.heap.size := by
  rcases h.2 with ⟨_, h0⟩ | ⟨g, cap, cur, rfl, hb, hg, _⟩
  · omega
  · exact ⟨g, cap, rfl, hb, (Array.getElem?_eq_some_iff.1 hg).1⟩
theorem Bs.of_ownW {w : World} {lo : Nat} {E : TypeId} {v : Value} {n : Nat} {s : List Nat} (h : w.ownsRow lo E 1 v n (wl s)) (hn : s.length = n) : Bs .u32 w v (wi s) := Bs.of_own (k := .u32) (E := E) (lo := lo) (by rw [wi_len, hn, wi_map]; exact h)
set_option maxHeartbeats 1600000 in
set_option maxRecDepth 100000 in
theorem rblock_fresh (vk vn : Value) (key nonce : List Int) (ctr : Nat) (hc : ctr < 4294967296) (k8 : U8 key) (n8 : U8 nonce) (w : World) (bk : Bs .u8 w vk key) (bn : Bs .u8 w vn nonce) :
    Calls Try.prog 23 #[vk, .int .u32 ctr, vn] w fun e w' => ∃ v, e = .returned (.tuple #[v, .int .i64 (BLe key nonce)]) ∧ Bs .u8 w' v (BLt key ctr nonce) ∧ NoCap v ∧ Only (fun _ => False) w w' ∧ (∀ k, v.ownBlock = some k → w.heap.size ≤ k) := by
  have BKN := hideIt (And.intro bk bn)
  obtain ⟨ao, kc, rfl⟩ := bk.len
  obtain ⟨bo, nc, rfl⟩ := bn.len
  by_cases h : KN key nonce
  · have EB : BLe key nonce = 0 := if_pos h
    have EL : BLt key ctr nonce = BLK key ctr nonce := if_pos h
    rw [EB, EL]
    obtain ⟨i0, hi, hz0, hz1, hz2⟩ := info_parts Try.infoU32
    obtain ⟨j0, hj, y0, y1, y2⟩ := info_parts Try.infoU8
    obtain ⟨h1, h2⟩ := h
    have HKL := hideIt (And.intro h1 h2)
    have H8 := hideIt (And.intro k8 (And.intro n8 hc))
    rw [h1] at bk
    rw [h2] at bn
    rw [h1, h2]
    rw [h1, h2] at BKN
    obtain ⟨D, hD⟩ : ∃ D, D = BLK key ctr nonce := ⟨_, rfl⟩
    rw [← hD]
    have HD := hideIt hD
    have WK := hideIt (fun (W : World) (o : Only (fun _ => False) w W) => rwords_any _ key 8 (by decide) (by decide) W (BKN.out.1.past o) h1 k8)
    have WN := hideIt (fun (W : World) (o : Only (fun _ => False) w W) => rwords_any _ nonce 3 (by decide) (by decide) W (BKN.out.2.past o) h2 n8)
    have L1 : Hid ((w.alloc (.cells (wl ccW).toArray 34)).ownsRow w.heap.size 34 1 (.slice (some ⟨w.heap.size, 0, none⟩) 4 4) 4 (wl ccW) ∧ Only (fun _ => False) w (w.alloc (.cells (wl ccW).toArray 34))) :=
      ⟨own_of_blk (Blk.new w 34 (wl ccW)) (Nat.le_refl _) (by unfold maxLen; omega) rfl, (Only.refl _ _).alloc _⟩
    have eW : (wl ccW).toArray = #[.int .u32 1634760805, .int .u32 857760878, .int .u32 2036477234, .int .u32 1797285236] := rfl
    rw [eW] at L1
    clear bk bn k8 n8 h1 h2 EB EL hc hD eW
    go_enter Try.func23, Try.ntmps23
    go_wp2_with fail
    refine (WK.out _ L1.out.2).mono ?_
    rintro e w1 ⟨v1, rfl, own1, o1⟩
    have A1 : Hid (w1.ownsRow w.heap.size 34 1 (.slice (some ⟨w.heap.size, 0, none⟩) 4 4) 4 (wl ccW)) := o1.own L1.out.1 (fun _ _ f => f)
    have O1 := hideIt (L1.out.2.same o1)
    have V1 := hideIt (And.intro (Bs.of_ownW own1 (ldW_len key 8)) (NoCap.of_own own1))
    clear own1 o1 L1 WK
    have hs1 := O1.out.size
    go_upto_region 4 with (at_builtin; refine wpList_append_bs _ rfl _ _ 57 rfl w.heap.size 34 i0 (.int .u32 0) 4 Try.underlying57 hi hz0 hz1 hz2 rfl (.slice (some ⟨w.heap.size, 0, none⟩) 4 4) 4 (wl ccW) rfl A1.out .u32 v1 (wi (ldW key 8)) rfl V1.out.1 V1.out.2 (by rw [wi_len, ldW_len]; unfold maxLen; omega) (by rw [wi_len, ldW_len]; omega) hs1 ?_; intro v2 w2 own2 gr2 hnilx hobx; clear hnilx hobx)
    have A2 : Hid (w2.ownsRow w.heap.size 34 1 v2 12 (wl (ccW ++ ldW key 8))) := by
      have h := own2
      rw [wi_len, ldW_len, wi_map, ← wl_app] at h
      exact h
    have O2 : Hid (Only (fun _ => False) w w2) := O1.out.grown gr2 (fun k hk e => by have := A1.out.lt k e; omega)
    clear own2 gr2 A1 O1 V1 hs1
    obtain ⟨g2, c2, rfl, _, _⟩ := own_some A2.out (by decide)
    have L3 := hideIt (A2.out.alloc (.cells #[.int .u32 (ctr : Int)] 34))
    have V3 := hideIt (Bs.litN .u32 w2 34 [(ctr : Int)] _ 1 rfl rfl)
    have hs2 : w.heap.size ≤ (w2.alloc (.cells #[.int .u32 (ctr : Int)] 34)).heap.size := by have := O2.out.size; rw [size_alloc]; omega
    go_upto_region 5 with (at_builtin; refine wpList_append_bs _ rfl _ _ 57 rfl w.heap.size 34 i0 (.int .u32 0) 4 Try.underlying57 hi hz0 hz1 hz2 rfl (.slice (some ⟨g2, 0, none⟩) 12 c2) 12 (wl (ccW ++ ldW key 8)) rfl L3.out .u32 _ [(ctr : Int)] rfl V3.out (NoCap.some _ _ _) (by rw [List.length_singleton]; unfold maxLen; omega) (by rw [List.length_singleton]; omega) hs2 ?_; intro v3 w3 own3 gr3 hnilx hobx; clear hnilx hobx)
    have A3 : Hid (w3.ownsRow w.heap.size 34 1 v3 13 (wl (ccW ++ ldW key 8 ++ [ctr]))) := by
      have h := own3
      rw [show [(ctr : Int)].map (Value.int .u32) = wl [ctr] from rfl, ← wl_app] at h
      exact h
    have O3 : Hid (Only (fun _ => False) w w3) := (O2.out.alloc _).grown gr3 (fun k hk e => by have := A2.out.lt k e; omega)
    clear own3 gr3 A2 O2 L3 V3 hs2
    obtain ⟨g3, c3, rfl, _, _⟩ := own_some A3.out (by decide)
    go_wp2_with fail
    refine (WN.out w3 O3.out).mono ?_
    rintro e w4 ⟨v4, rfl, own4, o4⟩
    have A4 : Hid (w4.ownsRow w.heap.size 34 1 (.slice (some ⟨g3, 0, none⟩) 13 c3) 13 (wl (ccW ++ ldW key 8 ++ [ctr]))) := o4.own A3.out (fun _ _ f => f)
    have O4 := hideIt (O3.out.same o4)
    have V4 := hideIt (And.intro (Bs.of_ownW own4 (ldW_len nonce 3)) (NoCap.of_own own4))
    clear own4 o4 A3 O3 WN
    have hs4 := O4.out.size
    go_upto_region 6 with (at_builtin; refine wpList_append_bs _ rfl _ _ 57 rfl w.heap.size 34 i0 (.int .u32 0) 4 Try.underlying57 hi hz0 hz1 hz2 rfl (.slice (some ⟨g3, 0, none⟩) 13 c3) 13 (wl (ccW ++ ldW key 8 ++ [ctr])) rfl A4.out .u32 v4 (wi (ldW nonce 3)) rfl V4.out.1 V4.out.2 (by rw [wi_len, ldW_len]; unfold maxLen; omega) (by rw [wi_len, ldW_len]; omega) hs4 ?_; intro v5 w5 own5 gr5 hnilx hobx; clear hnilx hobx)
    obtain ⟨s, hsE⟩ : ∃ s, s = ccF key ctr nonce := ⟨_, rfl⟩
    have SL : Hid (s.length = 16 ∧ W32 s ∧ D = (ccS s).flatMap le4) := by
      rw [hsE]
      exact ⟨ccF_len _ _ _, ccF_w32 key H8.out.1 ctr H8.out.2.2 nonce H8.out.2.1, HD.out⟩
    have A5 : Hid (w5.ownsRow w.heap.size 34 1 v5 16 (wl s)) := by
      have h := own5
      rw [wi_len, ldW_len, wi_map, ← wl_app] at h
      rw [hsE]
      exact h
    have O5 : Hid (Only (fun _ => False) w w5) := O4.out.grown gr5 (fun k hk e => by have := A4.out.lt k e; omega)
    clear own5 gr5 A4 O4 V4 hs4 hsE HD H8 HKL
    obtain ⟨g5, c5, rfl, hg5, hg5'⟩ := own_some A5.out (by decide)
    have V5 := hideIt ((Bs.of_ownW A5.out SL.out.1).past ((Only.refl (fun _ => False) w5).alloc (.cells #[] 34)))
    have L6 := hideIt (World.ownsRow_made (base := w5.heap.size) (e := 34) (size := 1) w5 #[] 0 (Nat.le_refl _) (by unfold maxLen; omega) rfl)
    have SL6 : Hid ((wi s).length = 16) := by
      show _ = _
      rw [wi_len, SL.out.1]
    go_upto_region 7 with (at_builtin; refine wpList_append_bs _ rfl _ _ 57 rfl w5.heap.size 34 i0 (.int .u32 0) 4 Try.underlying57 hi hz0 hz1 hz2 rfl (.slice (some ⟨w5.heap.size, 0, none⟩) 0 0) 0 [] rfl L6.out .u32 (.slice (some ⟨g5, 0, none⟩) 16 c5) (wi s) rfl V5.out (NoCap.some _ _ _) (by rw [SL6.out]; unfold maxLen; omega) (by rw [SL6.out]; omega) (by rw [size_alloc]; omega) ?_; intro v6 w6 own6 gr6 hnilx hobx; clear hnilx hobx)
    have o6 : Only (fun _ => False) w5 w6 := ((Only.refl _ _).alloc _).grown gr6 (fun k hk e => by simp [Value.ownBlock] at e; omega)
    have A6 : Hid (w6.ownsRow w5.heap.size 34 1 v6 16 (wl s)) := by
      have h := own6
      rw [SL6.out, wi_map, List.nil_append] at h
      exact h
    have O6 : Hid (Only (fun _ => False) w w6 ∧ w6.ownsRow w.heap.size 34 1 (.slice (some ⟨g5, 0, none⟩) 16 c5) 16 (wl s)) := ⟨O5.out.same o6, o6.own A5.out (fun _ _ f => f)⟩
    clear own6 gr6 A5 O5 L6 V5 SL6 o6
    obtain ⟨g6, c6, rfl, hg6, hg6'⟩ := own_some A6.out (by decide)
    obtain ⟨lo, hlo⟩ : ∃ lo, lo = w5.heap.size := ⟨_, rfl⟩
    rw [← hlo] at A6
    have HG : Hid (w.heap.size ≤ g6 ∧ ¬ g5 = g6) := ⟨by omega, by omega⟩
    clear hg5 hg5' hg6 hg6' hlo
    go_wp2
    go_loopw [10] (fun i wr => ∃ n : Nat, n ≤ 10 ∧ i = .int .i64 n ∧ wr.ownsRow lo 34 1 (.slice (some ⟨g6, 0, none⟩) 16 c6) 16 (wl (dbls n s)) ∧ wr.ownsRow w.heap.size 34 1 (.slice (some ⟨g5, 0, none⟩) 16 c5) 16 (wl s) ∧ Only (fun _ => False) w wr) (fun i _ => 10 - (intOf i).toNat)
    case atStart => exact ⟨0, by omega, rfl, A6.out, O6.out.2, O6.out.1⟩
    case round =>
      obtain ⟨n, hn, rfl, hS, hR, hO⟩ := hrel
      clear A6 O6
      by_cases hlt : n < 10
      · obtain ⟨s0, hs0⟩ : ∃ s0, s0 = dbls n s := ⟨_, rfl⟩
        have K0 : s0.length = 16 := by rw [hs0, dbls_len]; exact SL.out.1
        have K1 : W32 s0 := by rw [hs0]; exact dbls_w32 n s SL.out.2.1
        have E0 : Hid (dbls (n + 1) s = dblR s0) := by
          show _ = _
          rw [hs0]; rfl
        rw [← hs0] at hS
        have B0 := hideIt (And.intro hS (And.intro K0 K1))
        have RO := hideIt (And.intro hR hO)
        have i1 : (n : Int) < 10 := by omega
        clear hs0 K0 K1 hS hR hO
        go_wp2_with fail
        refine (rturn_any lo g6 c6 s0 B0.out.2.1 B0.out.2.2 0 4 8 12 (by decide) (by decide) (by decide) (by decide) (by decide) (by decide) (by decide) (by decide) (by decide) (by decide) _ B0.out.1).mono ?_
        rintro e x1 ⟨rfl, b1, o1⟩
        obtain ⟨s1, hs1⟩ : ∃ s1, s1 = turnW s0 0 4 8 12 := ⟨_, rfl⟩
        have B1 : Hid (x1.ownsRow lo 34 1 (.slice (some ⟨g6, 0, none⟩) 16 c6) 16 (wl s1) ∧ s1.length = 16 ∧ W32 s1) := ⟨by rw [hs1]; exact b1, by rw [hs1, turnW_len]; exact B0.out.2.1, by rw [hs1]; exact turnW_w32 B0.out.2.2 _ _ _ _⟩
        have RO1 : Hid (x1.ownsRow w.heap.size 34 1 (.slice (some ⟨g5, 0, none⟩) 16 c5) 16 (wl s) ∧ Only (fun _ => False) w x1) := ⟨o1.own RO.out.1 (fun j hj e => by simp [Value.ownBlock] at hj; exact HG.out.2 (by omega)), RO.out.2.trans o1 (fun i hi e => by have := HG.out.1; omega)⟩
        have E1 := hideIt hs1
        clear hs1 b1 o1 B0 RO
        go_wp2_with fail
        refine (rturn_any lo g6 c6 s1 B1.out.2.1 B1.out.2.2 1 5 9 13 (by decide) (by decide) (by decide) (by decide) (by decide) (by decide) (by decide) (by decide) (by decide) (by decide) _ B1.out.1).mono ?_
        rintro e x2 ⟨rfl, b2, o2⟩
        obtain ⟨s2, hs2⟩ : ∃ s2, s2 = turnW s1 1 5 9 13 := ⟨_, rfl⟩
        have B2 : Hid (x2.ownsRow lo 34 1 (.slice (some ⟨g6, 0, none⟩) 16 c6) 16 (wl s2) ∧ s2.length = 16 ∧ W32 s2) := ⟨by rw [hs2]; exact b2, by rw [hs2, turnW_len]; exact B1.out.2.1, by rw [hs2]; exact turnW_w32 B1.out.2.2 _ _ _ _⟩
        have RO2 : Hid (x2.ownsRow w.heap.size 34 1 (.slice (some ⟨g5, 0, none⟩) 16 c5) 16 (wl s) ∧ Only (fun _ => False) w x2) := ⟨o2.own RO1.out.1 (fun j hj e => by simp [Value.ownBlock] at hj; exact HG.out.2 (by omega)), RO1.out.2.trans o2 (fun i hi e => by have := HG.out.1; omega)⟩
        have E2 := hideIt hs2
        clear hs2 b2 o2 B1 RO1
        go_wp2_with fail
        refine (rturn_any lo g6 c6 s2 B2.out.2.1 B2.out.2.2 2 6 10 14 (by decide) (by decide) (by decide) (by decide) (by decide) (by decide) (by decide) (by decide) (by decide) (by decide) _ B2.out.1).mono ?_
        rintro e x3 ⟨rfl, b3, o3⟩
        obtain ⟨s3, hs3⟩ : ∃ s3, s3 = turnW s2 2 6 10 14 := ⟨_, rfl⟩
        have B3 : Hid (x3.ownsRow lo 34 1 (.slice (some ⟨g6, 0, none⟩) 16 c6) 16 (wl s3) ∧ s3.length = 16 ∧ W32 s3) := ⟨by rw [hs3]; exact b3, by rw [hs3, turnW_len]; exact B2.out.2.1, by rw [hs3]; exact turnW_w32 B2.out.2.2 _ _ _ _⟩
        have RO3 : Hid (x3.ownsRow w.heap.size 34 1 (.slice (some ⟨g5, 0, none⟩) 16 c5) 16 (wl s) ∧ Only (fun _ => False) w x3) := ⟨o3.own RO2.out.1 (fun j hj e => by simp [Value.ownBlock] at hj; exact HG.out.2 (by omega)), RO2.out.2.trans o3 (fun i hi e => by have := HG.out.1; omega)⟩
        have E3 := hideIt hs3
        clear hs3 b3 o3 B2 RO2
        go_wp2_with fail
        refine (rturn_any lo g6 c6 s3 B3.out.2.1 B3.out.2.2 3 7 11 15 (by decide) (by decide) (by decide) (by decide) (by decide) (by decide) (by decide) (by decide) (by decide) (by decide) _ B3.out.1).mono ?_
        rintro e x4 ⟨rfl, b4, o4⟩
        obtain ⟨s4, hs4⟩ : ∃ s4, s4 = turnW s3 3 7 11 15 := ⟨_, rfl⟩
        have B4 : Hid (x4.ownsRow lo 34 1 (.slice (some ⟨g6, 0, none⟩) 16 c6) 16 (wl s4) ∧ s4.length = 16 ∧ W32 s4) := ⟨by rw [hs4]; exact b4, by rw [hs4, turnW_len]; exact B3.out.2.1, by rw [hs4]; exact turnW_w32 B3.out.2.2 _ _ _ _⟩
        have RO4 : Hid (x4.ownsRow w.heap.size 34 1 (.slice (some ⟨g5, 0, none⟩) 16 c5) 16 (wl s) ∧ Only (fun _ => False) w x4) := ⟨o4.own RO3.out.1 (fun j hj e => by simp [Value.ownBlock] at hj; exact HG.out.2 (by omega)), RO3.out.2.trans o4 (fun i hi e => by have := HG.out.1; omega)⟩
        have E4 := hideIt hs4
        clear hs4 b4 o4 B3 RO3
        go_wp2_with fail
        refine (rturn_any lo g6 c6 s4 B4.out.2.1 B4.out.2.2 0 5 10 15 (by decide) (by decide) (by decide) (by decide) (by decide) (by decide) (by decide) (by decide) (by decide) (by decide) _ B4.out.1).mono ?_
        rintro e x5 ⟨rfl, b5, o5⟩
        obtain ⟨s5, hs5⟩ : ∃ s5, s5 = turnW s4 0 5 10 15 := ⟨_, rfl⟩
        have B5 : Hid (x5.ownsRow lo 34 1 (.slice (some ⟨g6, 0, none⟩) 16 c6) 16 (wl s5) ∧ s5.length = 16 ∧ W32 s5) := ⟨by rw [hs5]; exact b5, by rw [hs5, turnW_len]; exact B4.out.2.1, by rw [hs5]; exact turnW_w32 B4.out.2.2 _ _ _ _⟩
        have RO5 : Hid (x5.ownsRow w.heap.size 34 1 (.slice (some ⟨g5, 0, none⟩) 16 c5) 16 (wl s) ∧ Only (fun _ => False) w x5) := ⟨o5.own RO4.out.1 (fun j hj e => by simp [Value.ownBlock] at hj; exact HG.out.2 (by omega)), RO4.out.2.trans o5 (fun i hi e => by have := HG.out.1; omega)⟩
        have E5 := hideIt hs5
        clear hs5 b5 o5 B4 RO4
        go_wp2_with fail
        refine (rturn_any lo g6 c6 s5 B5.out.2.1 B5.out.2.2 1 6 11 12 (by decide) (by decide) (by decide) (by decide) (by decide) (by decide) (by decide) (by decide) (by decide) (by decide) _ B5.out.1).mono ?_
        rintro e x6 ⟨rfl, b6, o6⟩
        obtain ⟨s6, hs6⟩ : ∃ s6, s6 = turnW s5 1 6 11 12 := ⟨_, rfl⟩
        have B6 : Hid (x6.ownsRow lo 34 1 (.slice (some ⟨g6, 0, none⟩) 16 c6) 16 (wl s6) ∧ s6.length = 16 ∧ W32 s6) := ⟨by rw [hs6]; exact b6, by rw [hs6, turnW_len]; exact B5.out.2.1, by rw [hs6]; exact turnW_w32 B5.out.2.2 _ _ _ _⟩
        have RO6 : Hid (x6.ownsRow w.heap.size 34 1 (.slice (some ⟨g5, 0, none⟩) 16 c5) 16 (wl s) ∧ Only (fun _ => False) w x6) := ⟨o6.own RO5.out.1 (fun j hj e => by simp [Value.ownBlock] at hj; exact HG.out.2 (by omega)), RO5.out.2.trans o6 (fun i hi e => by have := HG.out.1; omega)⟩
        have E6 := hideIt hs6
        clear hs6 b6 o6 B5 RO5
        go_wp2_with fail
        refine (rturn_any lo g6 c6 s6 B6.out.2.1 B6.out.2.2 2 7 8 13 (by decide) (by decide) (by decide) (by decide) (by decide) (by decide) (by decide) (by decide) (by decide) (by decide) _ B6.out.1).mono ?_
        rintro e x7 ⟨rfl, b7, o7⟩
        obtain ⟨s7, hs7⟩ : ∃ s7, s7 = turnW s6 2 7 8 13 := ⟨_, rfl⟩
        have B7 : Hid (x7.ownsRow lo 34 1 (.slice (some ⟨g6, 0, none⟩) 16 c6) 16 (wl s7) ∧ s7.length = 16 ∧ W32 s7) := ⟨by rw [hs7]; exact b7, by rw [hs7, turnW_len]; exact B6.out.2.1, by rw [hs7]; exact turnW_w32 B6.out.2.2 _ _ _ _⟩
        have RO7 : Hid (x7.ownsRow w.heap.size 34 1 (.slice (some ⟨g5, 0, none⟩) 16 c5) 16 (wl s) ∧ Only (fun _ => False) w x7) := ⟨o7.own RO6.out.1 (fun j hj e => by simp [Value.ownBlock] at hj; exact HG.out.2 (by omega)), RO6.out.2.trans o7 (fun i hi e => by have := HG.out.1; omega)⟩
        have E7 := hideIt hs7
        clear hs7 b7 o7 B6 RO6
        go_wp2_with fail
        refine (rturn_any lo g6 c6 s7 B7.out.2.1 B7.out.2.2 3 4 9 14 (by decide) (by decide) (by decide) (by decide) (by decide) (by decide) (by decide) (by decide) (by decide) (by decide) _ B7.out.1).mono ?_
        rintro e x8 ⟨rfl, b8, o8⟩
        obtain ⟨s8, hs8⟩ : ∃ s8, s8 = turnW s7 3 4 9 14 := ⟨_, rfl⟩
        have B8 : Hid (x8.ownsRow lo 34 1 (.slice (some ⟨g6, 0, none⟩) 16 c6) 16 (wl s8) ∧ s8.length = 16 ∧ W32 s8) := ⟨by rw [hs8]; exact b8, by rw [hs8, turnW_len]; exact B7.out.2.1, by rw [hs8]; exact turnW_w32 B7.out.2.2 _ _ _ _⟩
        have RO8 : Hid (x8.ownsRow w.heap.size 34 1 (.slice (some ⟨g5, 0, none⟩) 16 c5) 16 (wl s) ∧ Only (fun _ => False) w x8) := ⟨o8.own RO7.out.1 (fun j hj e => by simp [Value.ownBlock] at hj; exact HG.out.2 (by omega)), RO7.out.2.trans o8 (fun i hi e => by have := HG.out.1; omega)⟩
        have E8 := hideIt hs8
        clear hs8 b8 o8 B7 RO7
        have EN : Hid (dbls (n + 1) s = s8) := by
          show _ = _
          rw [E0.out]; exact dblR_steps E1.out E2.out E3.out E4.out E5.out E6.out E7.out E8.out
        go_wp2
        go_roundw
        case rel => exact ⟨n + 1, by omega, by go_num, by rw [EN.out]; exact B8.out.1, RO8.out.1, RO8.out.2⟩
        case measure => simp [intOf]; omega
      · have hn10 : n = 10 := by omega
        rw [hn10] at hS
        have S2 := hideIt (And.intro hS (And.intro hR hO))
        obtain ⟨zn, hzn⟩ : ∃ zn : Int, zn = (n : Int) := ⟨_, rfl⟩
        have hnt : ¬ (zn < 10) := by omega
        rw [← hzn]
        clear hS hR hO hlt hn hn10 hzn
        obtain ⟨T, hT⟩ : ∃ T, T = dbls 10 s := ⟨_, rfl⟩
        obtain ⟨C, hC⟩ : ∃ C, C = ccS s := ⟨_, rfl⟩
        have HC : Hid (C.length = 16 ∧ (∀ i, i < 16 → C.getD i 0 = (T.getD i 0 + s.getD i 0) % 4294967296) ∧ T.length = 16) := by
          rw [hC, hT]; exact ⟨ccS_len s, ccS_at s, by rw [dbls_len]; exact SL.out.1⟩
        rw [← hT] at S2
        have HD : Hid (D = bpart C 16) := by
          show _ = _
          rw [bpart_all C 16 (by rw [HC.out.1]; exact Nat.le_refl _), hC]; exact SL.out.2.2
        obtain ⟨LB, hLB⟩ : ∃ LB, LB = wr.heap.size := ⟨_, rfl⟩
        have HLB : Hid (g5 < LB ∧ g6 < LB ∧ w.heap.size ≤ LB ∧ LB ≤ wr.heap.size) := ⟨by rw [hLB]; exact (S2.out.2.1.lt g5 rfl).2, by rw [hLB]; exact (S2.out.1.lt g6 rfl).2, by rw [hLB]; exact S2.out.2.2.size, by omega⟩
        clear hT hC hLB
        obtain ⟨W2, hW2⟩ : ∃ W2, W2 = wr := ⟨_, rfl⟩
        subst hW2
        go_wp2
        go_loopw [11, 12] (fun o i wr => ∃ n : Nat, n ≤ 16 ∧ i = .int .i64 n ∧ wr.ownsRow LB 5 1 o (4 * n) (bl (bpart C n)) ∧ wr.ownsRow lo 34 1 (.slice (some ⟨g6, 0, none⟩) 16 c6) 16 (wl T) ∧ wr.ownsRow w.heap.size 34 1 (.slice (some ⟨g5, 0, none⟩) 16 c5) 16 (wl s) ∧ Only (fun _ => False) w wr ∧ LB ≤ wr.heap.size) (fun _ i _ => 16 - (intOf i).toNat)
        case atStart => exact ⟨0, by omega, rfl, World.ownsRow_nil _ _ _ _, S2.out.1, S2.out.2.1, S2.out.2.2, HLB.out.2.2.2⟩
        case round =>
          obtain ⟨n, hn, rfl, k1, k2, k3, k4, k5⟩ := hrel
          clear S2
          obtain ⟨ao1, cap1, rfl⟩ := own_form k1
          by_cases hlt : n < 16
          · have bs6 : Bs .u32 wr (.slice (some ⟨g6, 0, none⟩) 16 c6) (wi T) := Bs.of_ownW k2 HC.out.2.2
            have bs5 : Bs .u32 wr (.slice (some ⟨g5, 0, none⟩) 16 c5) (wi s) := Bs.of_ownW k3 SL.out.1
            have d6 := ws_cell bs6 n (by rw [HC.out.2.2]; exact hlt)
            have d5 := ws_cell bs5 n (by rw [SL.out.1]; exact hlt)
            rw [Nat.zero_add] at d6 d5
            obtain ⟨c, hc⟩ : ∃ c, c = C.getD n 0 := ⟨_, rfl⟩
            have hadd : IntKind.u32.wrap (((T.getD n 0 : Nat) : Int) + ((s.getD n 0 : Nat) : Int)) = (c : Int) := by
              rw [add_int, hc, HC.out.2.1 n hlt]
            obtain ⟨tn, htn⟩ : ∃ tn, tn = T.getD n 0 := ⟨_, rfl⟩
            obtain ⟨sn, hsn⟩ : ∃ sn, sn = s.getD n 0 := ⟨_, rfl⟩
            rw [← htn] at d6 hadd
            rw [← hsn] at d5 hadd
            have i1 : (n : Int) < 16 := by omega
            have HK := hideIt (And.intro k1 (And.intro k2 (And.intro k3 (And.intro k4 k5))))
            have HCN := hideIt hc
            clear htn hsn hc k1 k2 k3 k4 k5 bs5 bs6
            obtain ⟨ys, hys⟩ : ∃ ys, ys = [(c : Int) % 256, (c : Int) / 256 % 256, (c : Int) / 65536 % 256, (c : Int) / 16777216 % 256] := ⟨_, rfl⟩
            have BL := hideIt (Bs.litN .u8 wr 5 [(c : Int) % 256, (c : Int) / 256 % 256, (c : Int) / 65536 % 256, (c : Int) / 16777216 % 256] _ 4 rfl rfl)
            have OWA := hideIt (HK.out.1.alloc (.cells #[.int .u8 ((c : Int) % 256), .int .u8 ((c : Int) / 256 % 256), .int .u8 ((c : Int) / 65536 % 256), .int .u8 ((c : Int) / 16777216 % 256)] 5))
            have hle : LB ≤ (wr.alloc (.cells #[.int .u8 ((c : Int) % 256), .int .u8 ((c : Int) / 256 % 256), .int .u8 ((c : Int) / 65536 % 256), .int .u8 ((c : Int) / 16777216 % 256)] 5)).drew.heap.size := by
              have h1 := HK.out.2.2.2.2
              show LB ≤ (wr.alloc _).heap.size
              rw [size_alloc]; omega
            go_wp2_with fail
            go_region
            go_wp2_with (at_builtin; refine wpList_append_bs _ rfl _ _ 22 rfl LB 5 j0 (.int .u8 0) 1 Try.underlying22 hj y0 y1 y2 rfl (.slice ao1 (4 * n) cap1) (4 * n) (bl (bpart C n)) rfl OWA.out .u8 _ [(c : Int) % 256, (c : Int) / 256 % 256, (c : Int) / 65536 % 256, (c : Int) / 16777216 % 256] rfl BL.out (NoCap.some _ _ _) (by simp [maxLen]; omega) (by simp; omega) hle ?_; intro v7 w7 own7 gr7 hnilx hobx; clear hnilx hobx)
            have o7 : Only (fun k => LB ≤ k) wr w7 := ((((Only.refl _ _).alloc _).drew).grown gr7 (fun k hk e => by have := (HK.out.1.lt k e).1; exact this))
            have N1 : Hid (w7.ownsRow LB 5 1 v7 (4 * (n + 1)) (bl (bpart C (n + 1))) ∧ w7.ownsRow lo 34 1 (.slice (some ⟨g6, 0, none⟩) 16 c6) 16 (wl T) ∧ w7.ownsRow w.heap.size 34 1 (.slice (some ⟨g5, 0, none⟩) 16 c5) 16 (wl s) ∧ Only (fun _ => False) w w7 ∧ LB ≤ w7.heap.size) := by
              refine ⟨?_, o7.own HK.out.2.1 (fun j hj2 e => ?_), o7.own HK.out.2.2.1 (fun j hj2 e => ?_), HK.out.2.2.2.1.trans o7 (fun i hi2 e => by have := HLB.out.2.2.1; omega), Nat.le_trans HK.out.2.2.2.2 o7.size⟩
              · rw [bpart_next C n (by rw [HC.out.1]; exact hlt), ← HCN.out]
                have h := own7
                rw [show bl (bpart C n ++ le4 c) = bl (bpart C n) ++ bl (le4 c) from List.map_append ..]
                exact h
              · simp [Value.ownBlock] at hj2
                have := HLB.out.2.1
                omega
              · simp [Value.ownBlock] at hj2
                have := HLB.out.1
                omega
            clear own7 gr7 o7 HK BL OWA hys hle
            go_wp2
            go_roundw
            case rel => exact ⟨n + 1, by omega, by go_num, N1.out⟩
            case measure => simp [intOf]; omega
          · obtain rfl : n = 16 := by omega
            have F1 : Hid (Bs .u8 wr (.slice ao1 64 cap1) D ∧ NoCap (.slice ao1 64 cap1) ∧ Only (fun _ => False) w wr ∧ (∀ k, (Value.slice ao1 64 cap1).ownBlock = some k → w.heap.size ≤ k)) := by
              rw [HD.out]
              refine ⟨Bs.of_own (k := .u8) (E := 5) (lo := LB) ?_, NoCap.of_own k1, k4, fun k hk2 => by have := (k1.lt k hk2).1; have := HLB.out.2.2.1; omega⟩
              rw [bpart_len C 16 (by rw [HC.out.1]; exact Nat.le_refl _)]
              exact k1
            clear k1 k2 k3 k4 k5
            go_wp2
            go_ret2
            exact ⟨_, rfl, F1.out⟩
  · have EB : BLe key nonce = 1 := if_neg h
    have EL : BLt key ctr nonce = [] := if_neg h
    rw [EB, EL]
    obtain ⟨kl, hkl⟩ : ∃ kl, kl = key.length := ⟨_, rfl⟩
    obtain ⟨nl, hnl⟩ : ∃ nl, nl = nonce.length := ⟨_, rfl⟩
    have hne : ¬ (kl = 32 ∧ nl = 12) := by rw [hkl, hnl]; exact h
    rw [← hkl, ← hnl]
    clear bk bn k8 n8 EB EL hc h BKN hkl hnl
    by_cases h1 : kl = 32
    · have h2 : ((nl : Int) != 12) = true := by simp; omega
      have h3 : ((kl : Int) != 32) = false := by simp; omega
      subst h1
      clear hne
      go_enter Try.func23, Try.ntmps23
      go_wp2
      go_ret2
      exact ⟨_, rfl, Bs.nil _ _, NoCap.nil, Only.refl _ _, fun k hk2 => by cases hk2⟩
    · have h3 : ((kl : Int) != 32) = true := by simp; omega
      clear hne
      go_enter Try.func23, Try.ntmps23
      go_wp2
      go_ret2
      exact ⟨_, rfl, Bs.nil _ _, NoCap.nil, Only.refl _ _, fun k hk2 => by cases hk2⟩
theorem rblock_any (vk vn : Value) (key nonce : List Int) (ctr : Nat) (hc : ctr < 4294967296) (k8 : U8 key) (n8 : U8 nonce) (w : World) (bk : Bs .u8 w vk key) (bn : Bs .u8 w vn nonce) :
    Calls Try.prog 23 #[vk, .int .u32 ctr, vn] w fun e w' => ∃ v, e = .returned (.tuple #[v, .int .i64 (BLe key nonce)]) ∧ Bs .u8 w' v (BLt key ctr nonce) ∧ NoCap v ∧ Only (fun _ => False) w w' :=
  (rblock_fresh vk vn key nonce ctr hc k8 n8 w bk bn).mono (fun _ _ ⟨v, h1, h2, h3, h4, _⟩ => ⟨v, h1, h2, h3, h4⟩)
end Go.Proofs.Ytjiippbjflpkkaa
