/- The document's answer for patterns by their places: Encode. -/
import Derived.Test.YtgnaeajfajineaaRp
import Derived.Test.YtgnaeajfajineaaVRef
import Derived.Test.YtgnaeajfajineaaCRef2
import Derived.Test.YtgnaeajfajineaaBRef3
import Derived.Test.YtgnaeajfajineaaBRBytes
namespace Go.Proofs.Ytgnaeajfajineaa
open Go.RowKit

theorem bs_bits10 {w : World} {lo : Nat} {v : Value} {l : List Bool} (h : w.ownsRow lo 3 1 v l.length ((bitsI l).map (Value.int .i64))) : Bs .i64 w v (bitsI l) :=
  Bs.of_own (E := 3) (by rw [bitsI_length]; exact h)

set_option maxHeartbeats 400000 in
theorem rencode10_long (v : Value) (xs : List Int) (w : World) (h : Bs .u64 w v xs) (hl : 65536 < xs.length) :
    Calls Try.prog 10 #[v] w fun e w' => e = .returned (.tuple #[.slice none 0 0, .int .i64 4]) ∧ w = w' := by
  obtain ⟨ao, cap, rfl⟩ := h.len
  clear h
  have d0 : decide (65536 < (xs.length : Int)) = true := by simp; omega
  generalize xs.length = m at *
  clear hl
  go_enter Try.func10, Try.ntmps10
  go_wp2
  go_ret2
  exact ⟨rfl, rfl⟩

set_option maxHeartbeats 4000000 in
set_option maxRecDepth 100000 in
theorem rencode10_bs (v : Value) (xs : List Int) (w : World) (h : Bs .u64 w v xs) (hu : U64 xs) (hl : xs.length ≤ 10000) (G : List Int) (hG : G = gs (dic xs).length ++ (fx8 (dic xs) ++ bytesI (tail10 (dic xs) xs))) :
    Calls Try.prog 10 #[v] w fun e w' => ∃ v', e = .returned (.tuple #[v', .int .i64 0]) ∧ w'.ownsRow w.heap.size 5 1 v' G.length (G.map (Value.int .u8)) ∧ Only (fun _ => False) w w' := by
  obtain ⟨j0, hj, hy0, hy1, hy2⟩ := info_parts Try.infoU64
  obtain ⟨i0, hi, hz0, hz1, hz2⟩ := info_parts Try.infoU8
  obtain ⟨ao, cap, rfl⟩ := h.len
  have HB := hideIt h
  have HU := hideIt hu
  have HG := hideIt hG
  obtain ⟨m, hm⟩ : ∃ m, m = xs.length := ⟨_, rfl⟩
  rw [← hm] at HB hl
  rw [← hm]
  have HM := hideIt hm
  have d0 : decide (65536 < (m : Int)) = false := by simp; omega
  clear h hm hu hG
  go_enter Try.func10, Try.ntmps10
  go_wp2
  go_loopw [4, 5] (fun s i wr => ∃ k : Nat, k ≤ m ∧ i = .int .i64 k ∧ wr.ownsRow w.heap.size 35 1 s (dic (xs.take k)).length ((dic (xs.take k)).map (Value.int .u64)) ∧ Only (fun _ => False) w wr) (fun _ i _ => m - (intOf i).toNat)
  case atStart => exact ⟨0, Nat.zero_le _, rfl, World.ownsRow_nil _ _ _ _, Only.refl _ _⟩
  case round =>
    obtain ⟨k, hk, rfl, hown, hon⟩ := hrel
    have HON := hideIt hon
    by_cases hlt : k < m
    · have dlt : decide ((k : Int) < (m : Int)) = true := by simp; omega
      have hkd : k < xs.length := by rw [← HM.out]; exact hlt
      obtain ⟨b, off, cap', e1, hc0⟩ := (HB.out.past hon).at k hkd
      have ea : ao = some ⟨b, off, none⟩ := by simp at e1; exact e1.1
      subst ea
      have ik : (k : Int) < (m : Int) := by omega
      have HT := hideIt (take_snoc xs k hkd)
      have DS := hideIt (dic_snoc (xs.take k) (xs.getD k 0))
      rw [← HT.out] at DS
      have hdl := dic_len (xs.take k)
      rw [List.length_take] at hdl
      generalize xs.getD k 0 = y at *
      obtain ⟨d, hd⟩ : ∃ d, d = dic (xs.take k) := ⟨_, rfl⟩
      rw [← hd] at hown DS hdl
      have PL := hideIt (rplace_any u4 d y wr (Bs.of_own hown) (by omega))
      obtain ⟨a6, c6, e6⟩ := (Bs.of_own (k := .u64) hown).len
      subst e6
      obtain ⟨n, hn⟩ : ∃ n, n = d.length := ⟨_, rfl⟩
      rw [← hn] at hown hdl PL ⊢
      have HN := hideIt hn
      have HOWN := hideIt hown
      clear e1 hd hn hown hon hkd
      by_cases hin : y ∈ d
      · have e1 : plI d y = (plc d y : Int) := if_pos hin
        rw [e1] at PL
        have DS2 := hideIt (DS.out.trans (if_pos hin))
        generalize plc d y = p at *
        have dp : decide ((p : Int) < 0) = false := by simp
        clear DS hin e1
        go_wp2_with fail
        refine PL.out.mono ?_
        rintro e w1 ⟨rfl, rfl⟩
        clear PL
        go_wp2
        go_roundw
        case rel => exact ⟨k + 1, by omega, by go_num, by rw [DS2.out, ← HN.out]; exact HOWN.out, HON.out⟩
        case measure => simp [intOf]; omega
      · have e1 : plI d y = -1 := if_neg hin
        rw [e1] at PL
        have DS2 := hideIt (DS.out.trans (if_neg hin))
        clear DS hin e1
        go_wp2_with fail
        refine PL.out.mono ?_
        rintro e w1 ⟨rfl, rfl⟩
        clear PL
        have hsz := HON.out.size
        go_wp2_with (at_builtin; refine wpList_append_own _ rfl _ _ 22 rfl w.heap.size 35 j0 (.int .u64 0) 1 8 Try.underlying22 hj hy0 hy1 hy2 rfl (by decide) _ n _ rfl (HOWN.out.alloc _) ⟨wr.heap.size, 0, none⟩ 1 1 [.int .u64 y] rfl rfl (cell_one_new _ _ _) (ints_oneCell .u64 [y]) (by unfold maxLen; omega) (by omega) (by simp; omega) ?_; intro v' w2 hown' hgrow2 hnil2)
        have OW2 : Hid (w2.ownsRow w.heap.size 35 1 v' (dic (xs.take (k + 1))).length ((dic (xs.take (k + 1))).map (Value.int .u64))) := by
          simp only [Hid]; rw [DS2.out, List.length_append, List.map_append, ← HN.out]; exact hown'
        have O2 := hideIt ((HON.out.alloc (.cells #[.int .u64 y] 35)).grown hgrow2 (fun j hj e => absurd (HOWN.out.lt j e).1 (by omega)))
        clear hown' hgrow2 hnil2
        go_wp2
        go_roundw
        case rel => exact ⟨k + 1, by omega, by go_num, OW2.out, O2.out⟩
        case measure => simp [intOf]; omega
    · obtain rfl : k = m := by omega
      have dlt : decide ((k : Int) < (k : Int)) = false := by simp
      rw [HM.out, List.take_length] at hown
      obtain ⟨w1, hw1⟩ : ∃ w1, w1 = wr := ⟨_, rfl⟩
      subst hw1
      have hdl := dic_len xs
      have HME : Hid (∀ x ∈ xs, x ∈ dic xs) := fun x hx => (dic_mem xs x).2 hx
      rw [← HM.out] at hdl
      generalize dic xs = d at *
      obtain ⟨n, hn⟩ : ∃ n, n = d.length := ⟨_, rfl⟩
      obtain ⟨a6, c6, e6⟩ := (Bs.of_own (k := .u64) hown).len
      subst e6
      rw [← hn] at hdl hown HG ⊢
      have HN := hideIt hn
      have VD := hideIt (Bs.of_own (k := .u64) (xs := d) (by rw [← HN.out]; exact hown))
      have AP := hideIt (rappend_any (.slice none 0 0) [] (n : Int) w1 (Bs.nil _ _) NoCap.nil (by simp) (by omega) (by omega))
      rw [List.nil_append, Int.toNat_natCast] at AP
      have GL : Hid ((gs n).length ≤ 10) := gs_le10 (by omega)
      clear hn hown hon
      go_wp2_with fail
      refine AP.out.mono ?_
      rintro e w2 ⟨vo, rfl, own2, o2⟩
      have L0 : Hid (w2.ownsRow w1.heap.size 5 1 vo (gs n ++ fx8 (d.take 0)).length ((gs n ++ fx8 (d.take 0)).map (Value.int .u8))) := by
        simp only [Hid, List.take_zero]
        rw [show fx8 [] = [] from rfl, List.append_nil]; exact own2
      have O2 := hideIt o2
      clear own2 o2 AP
      go_wp2
      go_loopw [6, 7] (fun s i wr => ∃ k : Nat, k ≤ n ∧ i = .int .i64 k ∧ wr.ownsRow w1.heap.size 5 1 s (gs n ++ fx8 (d.take k)).length ((gs n ++ fx8 (d.take k)).map (Value.int .u8)) ∧ Only (fun _ => False) w1 wr) (fun _ i _ => n - (intOf i).toNat)
      case atStart => exact ⟨0, Nat.zero_le _, rfl, L0.out, O2.out⟩
      case round =>
        clear L0 O2
        obtain ⟨q, hq, rfl, hown, hon⟩ := hrel
        obtain ⟨w3, hw3⟩ : ∃ w3, w3 = wr := ⟨_, rfl⟩
        subst hw3
        have HOWN := hideIt hown
        have HON3 := hideIt hon
        by_cases hlt2 : q < n
        · have dlt2 : decide ((q : Int) < (n : Int)) = true := by simp; omega
          obtain ⟨b, off, cap', e1, hc0⟩ := (VD.out.past hon).at q (by rw [← HN.out]; exact hlt2)
          have ea : a6 = some ⟨b, off, none⟩ := by simp at e1; exact e1.1
          subst ea
          have iq : (q : Int) < (n : Int) := by omega
          clear e1
          have HST := hideIt (fx8_take d q (by rw [← HN.out]; exact hlt2))
          have HFL : Hid ((gs n ++ fx8 (d.take q)).length ≤ 10 + 8 * n) := by
            simp only [Hid]; have := GL.out; rw [List.length_append, fx8_len, List.length_take]; omega
          obtain ⟨f1, hf1⟩ : ∃ f1, f1 = gs n ++ fx8 (d.take (q + 1)) := ⟨_, rfl⟩
          have HF1 := hideIt hf1
          obtain ⟨f0, hf0⟩ : ∃ f0, f0 = gs n ++ fx8 (d.take q) := ⟨_, rfl⟩
          have HS2 : Hid (f1 = f0 ++ fixL (d.getD q 0) 8) := by
            simp only [Hid]; rw [hf1, hf0, HST.out, List.append_assoc]
          rw [← hf0] at HFL HOWN
          clear hf1 hf0 HST hown hon
          generalize d.getD q 0 = x at *
          go_wp2_with fail
          refine (rfix_any x 8 w3 (by omega)).mono ?_
          rintro e w4 ⟨u, rfl, own4, o4⟩
          have ow := o4.own HOWN.out (fun _ _ f => f)
          have hb4 := Bs.of_own own4
          have NC4 := hideIt (NoCap.of_own own4)
          have HB4 := hideIt hb4
          have hs4 : w1.heap.size ≤ w4.heap.size := Nat.le_trans HON3.out.size o4.size
          have O4 := hideIt (HON3.out.same o4)
          obtain ⟨a4, c4, e4⟩ := hb4.len
          subst e4
          clear o4 own4 HON3 HOWN hb4
          rw [fixL_len] at HB4 NC4
          go_wp2_with (at_builtin; refine wpList_append_bs _ rfl _ _ _ rfl w1.heap.size 5 i0 (.int .u8 0) 1 Try.underlying24 hi hz0 hz1 hz2 rfl _ _ _ rfl ow .u8 _ (fixL x 8) rfl HB4.out NC4.out ?c3 ?c4 hs4 ?_)
          case c3 => have := HFL.out; rw [fixL_len]; unfold maxLen; omega
          case c4 => have := HFL.out; rw [fixL_len]; omega
          intro v6 w6 own6 hgrow6 _ _
          have OWN6 : Hid (w6.ownsRow w1.heap.size 5 1 v6 f1.length (f1.map (Value.int .u8))) := by
            simp only [Hid]; rw [HS2.out, List.length_append, List.map_append]; exact own6
          have O6 := hideIt (O4.out.grown hgrow6 (fun k hk e => absurd (ow.lt k e).1 (by omega)))
          clear ow own6 hgrow6
          go_wp2
          go_roundw
          case rel => exact ⟨q + 1, by omega, by go_num, by rw [← HF1.out]; exact OWN6.out, O6.out⟩
          case measure => simp [intOf]; omega
        · obtain rfl : q = n := by omega
          have dlt2 : decide ((q : Int) < (q : Int)) = false := by simp
          rw [HN.out, List.take_length, ← HN.out] at HOWN
          have HFL : Hid ((gs q ++ fx8 d).length ≤ 10 + 8 * q) := by
            simp only [Hid]; have := GL.out; rw [List.length_append, fx8_len, ← HN.out]; omega
          have HG2 : Hid (G = (gs q ++ fx8 d) ++ bytesI (bitsP (wP q) ((xs.take k).map (plc d)))) := by
            simp only [Hid]; rw [HG.out, List.append_assoc, HM.out, List.take_length]; unfold tail10; rw [← HN.out]
          have PW := hideIt (rwid10_any q w3 (by omega))
          have WL : wP q ≤ 16 := wP_le (by omega)
          have WF : Hid (∀ x ∈ xs, plc d x < q ∧ wid (plc d x) ≤ wP q) := by
            intro x hx
            have h1 := plc_lt (HME.out x hx)
            rw [← HN.out] at h1
            exact ⟨h1, (wid_le_iff _ _).2 (wP_lt h1)⟩
          have HBL : Hid (∀ j, ((xs.take j).map (plc d)).length ≤ k) := by
            intro j; rw [List.length_map, List.length_take, HM.out]; omega
          clear hown hon HG GL
          generalize gs q ++ fx8 d = f0 at *
          go_wp2_with fail
          refine PW.out.mono ?_
          rintro e w4 ⟨rfl, rfl⟩
          clear PW
          generalize wP q = W at *
          go_wp2
          go_loopw [9, 10] (fun s i wr => ∃ j : Nat, j ≤ k ∧ i = .int .i64 j ∧ wr.ownsRow w3.heap.size 3 1 s (bitsP W ((xs.take j).map (plc d))).length ((bitsI (bitsP W ((xs.take j).map (plc d)))).map (Value.int .i64)) ∧ Only (fun _ => False) w3 wr) (fun _ i _ => k - (intOf i).toNat)
          case atStart => exact ⟨0, Nat.zero_le _, rfl, World.ownsRow_nil _ _ _ _, Only.refl _ _⟩
          case round =>
            obtain ⟨j, hj, rfl, hown, hon⟩ := hrel
            have hbl : (bitsP W ((xs.take j).map (plc d))).length ≤ 10000 * 16 := by
              rw [bitsP_len]; exact Nat.mul_le_mul (Nat.le_trans (HBL.out j) hl) WL
            have ONW := hideIt (HON.out.same (HON3.out.same hon))
            have VK := hideIt (bs_bits10 hown)
            have NK := hideIt (NoCap.of_own hown)
            by_cases hlt3 : j < k
            · have dlt3 : decide ((j : Int) < (k : Int)) = true := by simp; omega
              have hjd : j < xs.length := by rw [← HM.out]; exact hlt3
              obtain ⟨b, off, cap', e1, hc0⟩ := (HB.out.past ONW.out).at j hjd
              have ea : ao = some ⟨b, off, none⟩ := by simp at e1; exact e1.1
              subst ea
              clear e1
              have ij : (j : Int) < (k : Int) := by omega
              have hym := getD_in (l := xs) (k := j) hjd
              obtain ⟨p0, p1⟩ := WF.out _ hym
              have PL := hideIt (rplace_any _ d (xs.getD j 0) wr (VD.out.past (HON3.out.same hon)) (by rw [← HN.out]; omega))
              rw [show plI d (xs.getD j 0) = (plc d (xs.getD j 0) : Int) from if_pos (HME.out _ hym)] at PL
              have HST := hideIt (bitsP_take W (plc d) xs j hjd)
              generalize xs.getD j 0 = y at *
              generalize plc d y = p at *
              have PU := hideIt (rput_own _ (bitsP W ((xs.take j).map (plc d))) (p : Int) (W : Int) wr VK.out NK.out (by omega) (by omega) (by omega) (by omega) (by omega) (by simpa using p1))
              rw [Int.toNat_natCast, Int.toNat_natCast, ← HST.out] at PU
              have HO := hideIt hon
              clear hown hon HST hym hjd VK NK
              go_wp2_with fail
              refine PL.out.mono ?_
              rintro e w5 ⟨rfl, rfl⟩
              clear PL
              go_wp2_with fail
              refine PU.out.mono ?_
              rintro e w6 ⟨v6, rfl, own6, o6⟩
              have OW6 := hideIt (own_low own6 HO.out.size)
              have O6 := hideIt (HO.out.same o6)
              clear own6 o6 PU HO
              go_wp2
              go_roundw
              case rel => exact ⟨j + 1, by omega, by go_num, OW6.out, O6.out⟩
              case measure => simp [intOf]; omega
            · obtain rfl : j = k := by omega
              have dlt3 : decide ((j : Int) < (j : Int)) = false := by simp
              have BY := hideIt (brbytes_bs _ (bitsP W ((xs.take j).map (plc d))) wr VK.out (by omega))
              have HO := hideIt hon
              have HTL : Hid ((bytesI (bitsP W ((xs.take j).map (plc d)))).length ≤ 10000 * 16) := by
                simp only [Hid]; rw [bytesI_length]; unfold nb; omega
              generalize bytesI (bitsP W ((xs.take j).map (plc d))) = t0 at *
              clear hown hon hbl VK NK
              go_wp2_with fail
              refine BY.out.mono ?_
              rintro e w5 ⟨u, rfl, own5, o5⟩
              have ow := (HO.out.same o5).own HOWN.out (fun _ _ f => f)
              have hb5 := Bs.of_own own5
              have NC5 := hideIt (NoCap.of_own own5)
              have HB5 := hideIt hb5
              have hs5 : w1.heap.size ≤ w5.heap.size := Nat.le_trans HON3.out.size (Nat.le_trans HO.out.size o5.size)
              have O5 := hideIt (ONW.out.same o5)
              have S1 := hideIt HON.out.size
              obtain ⟨a5, c5, e5⟩ := hb5.len
              subst e5
              obtain ⟨tl, htl⟩ : ∃ tl, tl = t0.length := ⟨_, rfl⟩
              rw [← htl] at HB5 NC5 HTL ⊢
              have HT := hideIt htl
              clear o5 own5 hb5 htl
              go_wp2_with (at_builtin; refine wpList_append_bs _ rfl _ _ _ rfl w1.heap.size 5 i0 (.int .u8 0) 1 Try.underlying24 hi hz0 hz1 hz2 rfl _ _ _ rfl ow .u8 _ t0 rfl HB5.out NC5.out ?c3 ?c4 hs5 ?_)
              case c3 => have := HFL.out; have := HTL.out; have := HT.out; unfold maxLen; omega
              case c4 => have := HFL.out; have := HTL.out; have := HT.out; omega
              intro v6 w6 own6 hgrow6 _ _
              have OWN6 : Hid (w6.ownsRow w.heap.size 5 1 v6 G.length (G.map (Value.int .u8))) := by
                simp only [Hid]; rw [HG2.out, List.length_append, List.map_append]; exact own_low own6 S1.out
              have O6 := hideIt (O5.out.grown hgrow6 (fun k hk e => absurd (ow.lt k e).1 (by have := S1.out; omega)))
              clear ow own6 hgrow6
              go_wp2
              go_ret2
              exact ⟨v6, rfl, OWN6.out, O6.out⟩
theorem rencode10_all (v : Value) (xs : List Int) (w : World) (h : Bs .u64 w v xs) (hu : U64 xs) (hl : xs.length ≤ 10000 ∨ 65536 < xs.length) :
    Calls Try.prog 10 #[v] w fun e w' => ∃ v', e = .returned (.tuple #[v', .int .i64 (ENC10 xs).2]) ∧ w'.ownsRow w.heap.size 5 1 v' (ENC10 xs).1.length ((ENC10 xs).1.map (Value.int .u8)) ∧ Only (fun _ => False) w w' := by
  by_cases hg : 65536 < xs.length
  · have e : ENC10 xs = ([], 4) := if_pos hg
    rw [e]
    refine (rencode10_long v xs w h hg).mono ?_
    rintro e w' ⟨rfl, rfl⟩
    exact ⟨_, rfl, World.ownsRow_nil _ _ _ _, Only.refl _ _⟩
  · rw [ENC10_of (by omega)]
    exact rencode10_bs v xs w h hu (by omega) _ rfl
theorem ENC10_len (xs : List Int) : (ENC10 xs).1.length ≤ 1000000 := by
  unfold ENC10
  by_cases h : 65536 < xs.length
  · rw [if_pos h]; simp
  · rw [if_neg h]
    have h1 := gs_le10 (dic_lt (l := xs) (by omega))
    have h2 := dic_len xs
    have h3 := wP_le (k := (dic xs).length) (by omega)
    have h4 : (tail10 (dic xs) xs).length ≤ 65536 * 16 := by rw [tail10_len]; exact Nat.mul_le_mul (by omega) h3
    simp only [List.length_append, fx8_len, bytesI_length]; unfold nb; omega
end Go.Proofs.Ytgnaeajfajineaa
