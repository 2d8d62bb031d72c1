/- Package dict: Encode. -/
import Derived.Test.YtgnaeajfajineaaDf
import Derived.Test.YtgnaeajfajineaaDk2
import Derived.Test.YtgnaeajfajineaaVr2
import Derived.Test.YtgnaeajfajineaaCu3
import Derived.Test.YtgnaeajfajineaaBPut2
import Derived.Test.YtgnaeajfajineaaBBytes
namespace Go.Proofs.Ytgnaeajfajineaa
open Go.RowKit Go.Maps

theorem map_keep {P : Program} {H : Type} {k : TypeId} {R : Value → Option (DataW H × List MemPlace)} {w w' : World} {b n : Nat} {D : DataW H} (h : w.ownsMap P k R b n D) {S : Nat → Prop} (o : Only S w w') (hs : ¬ S b) : w'.ownsMap P k R b n D := by
  obtain ⟨es, clock, hb, F, hz, hD⟩ := h
  exact ⟨es, clock, o.heap hb hs, F, hz, hD⟩
theorem fx8_take (d : List Int) (k : Nat) (h : k < d.length) : fx8 (d.take (k + 1)) = fx8 (d.take k) ++ fixL (d.getD k 0) 8 := by
  rw [take_snoc d k h, fx8_snoc]
theorem bitsP_take (W : Nat) (f : Int → Nat) (xs : List Int) (k : Nat) (h : k < xs.length) : bitsP W ((xs.take (k + 1)).map f) = bitsP W ((xs.take k).map f) ++ bitsOf (f (xs.getD k 0)) W := by
  rw [take_snoc xs k h, List.map_append, List.map_singleton, bitsP_snoc]

set_option maxHeartbeats 400000 in
theorem encode10_long (v : Value) (xs : List Int) (w : World) (h : Bs .u64 w v xs) (hl : 65536 < xs.length) :
    Calls Try.prog 9 #[v] w fun e w' => e = .returned (.tuple #[.slice none 0 0, .int .i64 4]) ∧ w = w' := by
  obtain ⟨ao, cap, rfl⟩ := h.len
  clear h
  have d0 : decide (65536 < (xs.length : Int)) = true := by simp; omega
  generalize xs.length = m at *
  clear hl
  go_enter Try.func9, Try.ntmps9
  go_wp2
  go_ret2
  exact ⟨rfl, rfl⟩

set_option maxHeartbeats 4000000 in
set_option maxRecDepth 100000 in
theorem encode10_bs (v : Value) (xs : List Int) (w : World) (h : Bs .u64 w v xs) (hu : U64 xs) (hl : xs.length ≤ 65536) (G : List Int) (hG : G = gs (dic xs).length ++ (fx8 (dic xs) ++ bytesI (tail10 (dic xs) xs))) :
    Calls Try.prog 9 #[v] w fun e w' => ∃ v', e = .returned (.tuple #[v', .int .i64 0]) ∧ w'.ownsRow w.heap.size 5 1 v' G.length (G.map (Value.int .u8)) ∧ Only (fun _ => False) w w' := by
  obtain ⟨i0, hi, hz0, hz1, hz2⟩ := info_parts Try.infoU8
  obtain ⟨ao, cap, rfl⟩ := h.len
  have HB := hideIt h
  have HU := hideIt hu
  have HG := hideIt hG
  have FI := hideIt (firsts_bs _ xs w h hu hl)
  obtain ⟨m, hm⟩ : ∃ m, m = xs.length := ⟨_, rfl⟩
  rw [← hm] at HB hl FI
  rw [← hm]
  have HM := hideIt hm
  have hdl := dic_len xs
  have HDN := hideIt (dic_nodup xs)
  have HDU := hideIt (dic_u64 hu)
  have HME : Hid (∀ x ∈ xs, x ∈ dic xs) := fun x hx => (dic_mem xs x).2 hx
  rw [← hm] at hdl
  have d0 : decide (65536 < (m : Int)) = false := by simp; omega
  clear h hm hu hG
  go_enter Try.func9, Try.ntmps9
  go_wp2_with fail
  refine FI.out.mono ?_
  rintro e w1 ⟨vd, rfl, hf⟩
  have FM := hideIt hf.map
  have FR := hideIt hf.row
  have FB := hideIt (only_of_below hf.be)
  clear hf FI
  generalize dic xs = d at *
  obtain ⟨n, hn⟩ : ∃ n, n = d.length := ⟨_, rfl⟩
  obtain ⟨a6, c6, e6⟩ := (Bs.of_own FR.out).len
  subst e6
  rw [← hn] at hdl FR HG ⊢
  have HN := hideIt hn
  have VD := hideIt (Bs.of_own (k := .u64) (xs := d) (by rw [← HN.out]; exact FR.out))
  have AP := hideIt (append_any (.slice none 0 0) [] (n : Int) w1 (Bs.nil _ _) NoCap.nil (by simp) (by omega) (by omega))
  rw [List.nil_append, Int.toNat_natCast] at AP
  clear hn
  go_wp2_with fail
  refine AP.out.mono ?_
  rintro e w2 ⟨vo, rfl, own2, o2⟩
  have L0 : Hid (w2.ownsRow w1.heap.size 5 1 vo (gs n ++ fx8 (d.take 0)).length ((gs n ++ fx8 (d.take 0)).map (Value.int .u8))) := by
    simp only [Hid, List.take_zero]
    rw [show fx8 [] = [] from rfl, List.append_nil]; exact own2
  have O2 := hideIt o2
  have GL : Hid ((gs n).length ≤ 10) := gs_le10 (by omega)
  clear own2 o2 AP
  go_wp2
  go_loopw [6, 27] (fun s i wr => ∃ k : Nat, k ≤ n ∧ i = .int .i64 k ∧ wr.ownsRow w1.heap.size 5 1 s (gs n ++ fx8 (d.take k)).length ((gs n ++ fx8 (d.take k)).map (Value.int .u8)) ∧ Only (fun _ => False) w1 wr) (fun _ i _ => n - (intOf i).toNat)
  case atStart => exact ⟨0, Nat.zero_le _, rfl, L0.out, O2.out⟩
  case round =>
    clear L0 O2
    obtain ⟨k, hk, rfl, hown, hon⟩ := hrel
    obtain ⟨w3, hw3⟩ : ∃ w3, w3 = wr := ⟨_, rfl⟩
    subst hw3
    have HOWN := hideIt hown
    have HON := hideIt hon
    by_cases hlt : k < n
    · have dlt : decide ((k : Int) < (n : Int)) = true := by simp; omega
      obtain ⟨b, off, cap', e1, hc0⟩ := (VD.out.past hon).at k (by rw [← HN.out]; exact hlt)
      have ea : a6 = some ⟨b, off, none⟩ := by simp at e1; exact e1.1
      subst ea
      clear e1
      have HST := hideIt (fx8_take d k (by rw [← HN.out]; exact hlt))
      have HFL : Hid ((gs n ++ fx8 (d.take k)).length ≤ 10 + 8 * n) := by
        simp only [Hid]; have := GL.out; rw [List.length_append, fx8_len, List.length_take]; omega
      obtain ⟨f1, hf1⟩ : ∃ f1, f1 = gs n ++ fx8 (d.take (k + 1)) := ⟨_, rfl⟩
      have HF1 := hideIt hf1
      obtain ⟨f0, hf0⟩ : ∃ f0, f0 = gs n ++ fx8 (d.take k) := ⟨_, rfl⟩
      have HS2 : Hid (f1 = f0 ++ fixL (d.getD k 0) 8) := by
        simp only [Hid]; rw [hf1, hf0, HST.out, List.append_assoc]
      rw [← hf0] at HFL HOWN
      clear hf1 hf0 HST hown hon
      generalize d.getD k 0 = x at *
      go_wp2_with fail
      refine (fix_any _ 8 w3 (by omega)).mono ?_
      rintro e w4 ⟨u, rfl, own4, o4⟩
      have ow := o4.own HOWN.out (fun _ _ f => f)
      have hb4 := Bs.of_own own4
      have NC4 := hideIt (NoCap.of_own own4)
      have HB4 := hideIt hb4
      have hs4 : w1.heap.size ≤ w4.heap.size := Nat.le_trans HON.out.size o4.size
      have O4 := hideIt (HON.out.same o4)
      obtain ⟨a4, c4, e4⟩ := hb4.len
      subst e4
      clear o4 own4 HON HOWN hb4
      rw [fixL_len] at HB4 NC4
      go_wp2_with (at_builtin; refine wpList_append_bs _ rfl _ _ _ rfl w1.heap.size 5 i0 (.int .u8 0) 1 Try.underlying24 hi hz0 hz1 hz2 rfl _ _ _ rfl ow .u8 _ (fixL x 8) rfl HB4.out NC4.out ?c3 ?c4 hs4 ?_)
      case c3 => have := HFL.out; rw [fixL_len]; unfold maxLen; omega
      case c4 => have := HFL.out; rw [fixL_len]; omega
      intro v6 w6 own6 hgrow6 _ _
      have OWN6 : Hid (w6.ownsRow w1.heap.size 5 1 v6 f1.length (f1.map (Value.int .u8))) := by
        simp only [Hid]; rw [HS2.out, List.length_append, List.map_append]; exact own6
      have O6 := hideIt (O4.out.grown hgrow6 (fun k hk e => absurd (ow.lt k e).1 (by omega)))
      clear ow own6 hgrow6
      go_wp2
      go_roundw
      case rel => exact ⟨k + 1, by omega, by go_num, by rw [← HF1.out]; exact OWN6.out, O6.out⟩
      case measure => simp [intOf]; omega
    · obtain rfl : k = n := by omega
      have dlt : decide ((k : Int) < (k : Int)) = false := by simp
      rw [HN.out, List.take_length, ← HN.out] at HOWN
      have HFL : Hid ((gs k ++ fx8 d).length ≤ 10 + 8 * k) := by
        simp only [Hid]; have := GL.out; rw [List.length_append, fx8_len, ← HN.out]; omega
      have HG2 : Hid (G = (gs k ++ fx8 d) ++ bytesI (bitsP (wP k) ((xs.take m).map (plc d)))) := by
        simp only [Hid]; rw [HG.out, List.append_assoc, HM.out, List.take_length]; unfold tail10; rw [← HN.out]
      have W0 : Hid (WrAt 43 5 (w3.alloc (.cells #[.slice none 0 0, .int .i64 0] 43)) (w3.heap.size + 1) w3.heap.size (.slice none 0 0) (bitsP (wP k) ((xs.take 0).map (plc d)))) := WrAt.new (T := 43) (E := 5) w3
      have PW := hideIt (placeWidth_any k (w3.alloc (.cells #[.slice none 0 0, .int .i64 0] 43)) (by omega))
      have WL : wP k ≤ 16 := wP_le (by omega)
      have WF : Hid (∀ x ∈ xs, plc d x < k ∧ wid (plc d x) ≤ wP k) := by
        intro x hx
        have h1 := plc_lt (HME.out x hx)
        rw [← HN.out] at h1
        exact ⟨h1, (wid_le_iff _ _).2 (wP_lt h1)⟩
      have HBL : Hid (∀ j, ((xs.take j).map (plc d)).length ≤ m) := by
        intro j; rw [List.length_map, List.length_take, HM.out]; omega
      clear hown hon HG GL VD
      generalize gs k ++ fx8 d = f0 at *
      go_wp2_with fail
      refine PW.out.mono ?_
      rintro e w4 ⟨rfl, rfl⟩
      clear PW
      generalize wP k = W at *
      go_wp2
      go_loopw [41] (fun i wr => ∃ j : Nat, j ≤ m ∧ i = .int .i64 j ∧ ∃ vw, WrAt 43 5 wr (w3.heap.size + 1) w3.heap.size vw (bitsP W ((xs.take j).map (plc d))) ∧ Only (fun _ => False) w3 wr) (fun i _ => m - (intOf i).toNat)
      case atStart => exact ⟨0, Nat.zero_le _, rfl, _, W0.out, (Only.refl _ _).alloc _⟩
      case round =>
        clear W0
        obtain ⟨j, hj, rfl, vw, hwt, hon⟩ := hrel
        have hbl : (bitsP W ((xs.take j).map (plc d))).length ≤ 65536 * 16 := by
          rw [bitsP_len]; exact Nat.mul_le_mul (Nat.le_trans (HBL.out j) hl) WL
        have ONW := hideIt (FB.out.same (HON.out.same hon))
        by_cases hlt : j < m
        · have dlt : decide ((j : Int) < (m : Int)) = true := by simp; omega
          obtain ⟨b, off, cap', e1, hc0⟩ := (HB.out.past ONW.out).at j (by rw [← HM.out]; exact hlt)
          have ea : ao = some ⟨b, off, none⟩ := by simp at e1; exact e1.1
          subst ea
          clear e1
          have hym := getD_in (l := xs) (k := j) (by rw [← HM.out]; exact hlt)
          obtain ⟨y0, y1⟩ := HU.out _ hym
          obtain ⟨p0, p1⟩ := WF.out _ hym
          have HST := hideIt (bitsP_take W (plc d) xs j (by rw [← HM.out]; exact hlt))
          have hat0 := hideIt (DM_at HDN.out (HME.out _ hym) (.lit (.int .i64 0)))
          generalize xs.getD j 0 = y at *
          generalize plc d y = p at *
          have hkey : keyOf Try.prog 35 (.int .u64 y) = some (.int .u64 y) := keyOf_int_mk Try.underlying35 (wf_u64 y0 y1)
          have hmap := map_keep FM.out (HON.out.same hon) (fun f => f)
          have PU := hideIt (put_wr hwt (p : Int) (W : Int) (by omega) (by omega) (by omega) (by omega) (by simpa using p1) (by omega))
          rw [Int.toNat_natCast, Int.toNat_natCast, ← HST.out] at PU
          have HW := hideIt hwt
          have HO := hideIt hon
          clear hwt hon HST hym
          go_wp2_with (first
            | (at_lookup; refine wpList_lookup_own_int _ rfl _ _ 37 rfl 35 3 .i64 law35 Try.underlying37 Try.underlying3 (zero3 _) w.heap.size m _ rfl hmap _ _ rfl hkey ?_; intro c hat hwc; obtain rfl : c = (p : Int) := (by have := hat.symm.trans hat0.out; simpa using this); clear hat hwc hat0)
            | fail)
          refine PU.out.mono ?_
          rintro e w5 ⟨rfl, v5, h5, o5, s5⟩
          have W5 := hideIt h5
          have O5 := hideIt (HO.out.trans o5 (fun i hi f => absurd (HW.out.foot_ge (Nat.le_refl _) i f) (by omega)))
          clear h5 o5 s5 PU hmap HW HO
          go_wp2
          go_roundw
          case rel => exact ⟨j + 1, by omega, by go_num, _, W5.out, O5.out⟩
          case measure => simp [intOf]; omega
        · obtain rfl : j = m := by omega
          have dlt : decide ((j : Int) < (j : Int)) = false := by simp
          have BY := hideIt (bytes_wr hwt (by omega))
          have HON3 := hideIt hon
          have HTL : Hid ((bytesI (bitsP W ((xs.take j).map (plc d)))).length ≤ 65536 * 16) := by
            simp only [Hid]; rw [bytesI_length]; unfold nb; omega
          generalize bytesI (bitsP W ((xs.take j).map (plc d))) = t0 at *
          clear hwt hon hbl
          go_wp2_with fail
          refine BY.out.mono ?_
          rintro e w5 ⟨u, rfl, own5, o5⟩
          have ow := (HON3.out.same o5).own HOWN.out (fun _ _ f => f)
          have hb5 := Bs.of_own own5
          have NC5 := hideIt (NoCap.of_own own5)
          have HB5 := hideIt hb5
          have hs5 : w1.heap.size ≤ w5.heap.size := Nat.le_trans HON.out.size (Nat.le_trans HON3.out.size o5.size)
          have O5 := hideIt (ONW.out.same o5)
          have S1 := hideIt FB.out.size
          obtain ⟨a5, c5, e5⟩ := hb5.len
          subst e5
          obtain ⟨tl, htl⟩ : ∃ tl, tl = t0.length := ⟨_, rfl⟩
          rw [← htl] at HB5 NC5 HTL ⊢
          have HT := hideIt htl
          clear o5 own5 hb5 htl
          go_wp2_with (at_builtin; refine wpList_append_bs _ rfl _ _ _ rfl w1.heap.size 5 i0 (.int .u8 0) 1 Try.underlying24 hi hz0 hz1 hz2 rfl _ _ _ rfl ow .u8 _ t0 rfl HB5.out NC5.out ?c3 ?c4 hs5 ?_)
          case c3 => have := HFL.out; have := HTL.out; have := HT.out; unfold maxLen; omega
          case c4 => have := HFL.out; have := HTL.out; have := HT.out; omega
          intro v6 w6 own6 hgrow6 _ _
          have OWN6 : Hid (w6.ownsRow w.heap.size 5 1 v6 G.length (G.map (Value.int .u8))) := by
            simp only [Hid]; rw [HG2.out, List.length_append, List.map_append]; exact own_low own6 S1.out
          have O6 := hideIt (O5.out.grown hgrow6 (fun k hk e => absurd (ow.lt k e).1 (by have := S1.out; omega)))
          clear ow own6 hgrow6
          go_wp2
          go_ret2
          exact ⟨v6, rfl, OWN6.out, O6.out⟩
theorem encode10_all (v : Value) (xs : List Int) (w : World) (h : Bs .u64 w v xs) (hu : U64 xs) :
    Calls Try.prog 9 #[v] w fun e w' => ∃ v', e = .returned (.tuple #[v', .int .i64 (ENC10 xs).2]) ∧ w'.ownsRow w.heap.size 5 1 v' (ENC10 xs).1.length ((ENC10 xs).1.map (Value.int .u8)) ∧ Only (fun _ => False) w w' := by
  by_cases hl : 65536 < xs.length
  · have e : ENC10 xs = ([], 4) := if_pos hl
    rw [e]
    refine (encode10_long v xs w h hl).mono ?_
    rintro e w' ⟨rfl, rfl⟩
    exact ⟨_, rfl, World.ownsRow_nil _ _ _ _, Only.refl _ _⟩
  · rw [ENC10_of (by omega)]
    exact encode10_bs v xs w h hu (by omega) _ rfl
end Go.Proofs.Ytgnaeajfajineaa
