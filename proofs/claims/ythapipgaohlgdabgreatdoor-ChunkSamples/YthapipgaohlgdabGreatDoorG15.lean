/- Several texts in one: Dn, Vw, Vp, Gf, Gw. -/
import Derived.Test.YthapipgaohlgdabGreatDoorG14
import Derived.Test.YthapipgaohlgdabGreatDoorG9
import Derived.Test.YthapipgaohlgdabGreatDoorG3
import Derived.Test.YthapipgaohlgdabGreatDoorG5
import Derived.Test.YthapipgaohlgdabGreatDoorG1
import Derived.Laws.CopyOwn
import Derived.Laws.Bits64b

/- Package dict: Encode. -/
namespace Go.Proofs.YthapipgaohlgdabGreatDoor
open Go.RowKit Go.Maps

theorem map_keep {P : Program} {H : Type} {k : TypeId} {R : Value → Option (DataW H × List MemPlace)} {w w' : World} {b n : Nat} {D : DataW H} (h : w.ownsMap P k R b n D) {S : Nat → Prop} (o : Only S w w') (hs : ¬ S b) : w'.ownsMap P k R b n D := by
  obtain ⟨es, clock, hb, F, hz, hD⟩ := h
  exact ⟨es, clock, o.heap hb hs, F, hz, hD⟩
theorem fx8_take (d : List Int) (k : Nat) (h : k < d.length) : fx8 (d.take (k + 1)) = fx8 (d.take k) ++ fixL (d.getD k 0) 8 := by
  rw [take_snoc d k h, fx8_snoc]
theorem bitsP_take (W : Nat) (f : Int → Nat) (xs : List Int) (k : Nat) (h : k < xs.length) : bitsP W ((xs.take (k + 1)).map f) = bitsP W ((xs.take k).map f) ++ bitsOf (f (xs.getD k 0)) W := by
  rw [take_snoc xs k h, List.map_append, List.map_singleton, bitsP_snoc]

set_option maxHeartbeats 400000 in
theorem encode10_long (v : Value) (xs : List Int) (w : World) (h : Bs .u64 w v xs) (hl : 65536 < xs.length) :
    Calls Tryz.prog 68 #[v] w fun e w' => e = .returned (.tuple #[.slice none 0 0, .int .i64 4]) ∧ w = w' := by
  obtain ⟨ao, cap, rfl⟩ := h.len
  clear h
  have d0 : decide (65536 < (xs.length : Int)) = true := by simp; omega
  generalize xs.length = m at *
  clear hl
  go_enter Tryz.func68, Tryz.ntmps68
  go_wp2
  go_ret2
  exact ⟨rfl, rfl⟩

set_option maxHeartbeats 4000000 in
set_option maxRecDepth 100000 in
theorem encode10_bs (v : Value) (xs : List Int) (w : World) (h : Bs .u64 w v xs) (hu : U64 xs) (hl : xs.length ≤ 65536) (G : List Int) (hG : G = gs (dic xs).length ++ (fx8 (dic xs) ++ bytesI (tail10 (dic xs) xs))) :
    Calls Tryz.prog 68 #[v] w fun e w' => ∃ v', e = .returned (.tuple #[v', .int .i64 0]) ∧ w'.ownsRow w.heap.size 5 1 v' G.length (G.map (Value.int .u8)) ∧ Only (fun _ => False) w w' := by
  obtain ⟨i0, hi, hz0, hz1, hz2⟩ := info_parts Tryz.infoU8
  obtain ⟨ao, cap, rfl⟩ := h.len
  have HB := hideIt h
  have HU := hideIt hu
  have HG := hideIt hG
  have FI := hideIt (firsts_bs _ xs w h hu hl)
  obtain ⟨m, hm⟩ : ∃ m, m = xs.length := ⟨_, rfl⟩
  rw [← hm] at HB hl FI
  rw [← hm]
  have HM := hideIt hm
  have hdl := dic_len xs
  have HDN := hideIt (dic_nodup xs)
  have HDU := hideIt (dic_u64 hu)
  have HME : Hid (∀ x ∈ xs, x ∈ dic xs) := fun x hx => (dic_mem xs x).2 hx
  rw [← hm] at hdl
  have d0 : decide (65536 < (m : Int)) = false := by simp; omega
  clear h hm hu hG
  go_enter Tryz.func68, Tryz.ntmps68
  go_wp2_with fail
  refine FI.out.mono ?_
  rintro e w1 ⟨vd, rfl, hf⟩
  have FM := hideIt hf.map
  have FR := hideIt hf.row
  have FB := hideIt (only_of_below hf.be)
  clear hf FI
  generalize dic xs = d at *
  obtain ⟨n, hn⟩ : ∃ n, n = d.length := ⟨_, rfl⟩
  obtain ⟨a6, c6, e6⟩ := (Bs.of_own FR.out).len
  subst e6
  rw [← hn] at hdl FR HG ⊢
  have HN := hideIt hn
  have VD := hideIt (Bs.of_own (k := .u64) (xs := d) (by rw [← HN.out]; exact FR.out))
  have AP := hideIt (append_any (.slice none 0 0) [] (n : Int) w1 (Bs.nil _ _) NoCap.nil (by simp) (by omega) (by omega))
  rw [List.nil_append, Int.toNat_natCast] at AP
  clear hn
  go_wp2_with fail
  refine AP.out.mono ?_
  rintro e w2 ⟨vo, rfl, own2, o2⟩
  have L0 : Hid (w2.ownsRow w1.heap.size 5 1 vo (gs n ++ fx8 (d.take 0)).length ((gs n ++ fx8 (d.take 0)).map (Value.int .u8))) := by
    simp only [Hid, List.take_zero]
    rw [show fx8 [] = [] from rfl, List.append_nil]; exact own2
  have O2 := hideIt o2
  have GL : Hid ((gs n).length ≤ 10) := gs_le10 (by omega)
  clear own2 o2 AP
  go_wp2
  go_loopw [6, 27] (fun s i wr => ∃ k : Nat, k ≤ n ∧ i = .int .i64 k ∧ wr.ownsRow w1.heap.size 5 1 s (gs n ++ fx8 (d.take k)).length ((gs n ++ fx8 (d.take k)).map (Value.int .u8)) ∧ Only (fun _ => False) w1 wr) (fun _ i _ => n - (intOf i).toNat)
  case atStart => exact ⟨0, Nat.zero_le _, rfl, L0.out, O2.out⟩
  case round =>
    clear L0 O2
    obtain ⟨k, hk, rfl, hown, hon⟩ := hrel
    obtain ⟨w3, hw3⟩ : ∃ w3, w3 = wr := ⟨_, rfl⟩
    subst hw3
    have HOWN := hideIt hown
    have HON := hideIt hon
    by_cases hlt : k < n
    · have dlt : decide ((k : Int) < (n : Int)) = true := by simp; omega
      obtain ⟨b, off, cap', e1, hc0⟩ := (VD.out.past hon).at k (by rw [← HN.out]; exact hlt)
      have ea : a6 = some ⟨b, off, none⟩ := by simp at e1; exact e1.1
      subst ea
      clear e1
      have HST := hideIt (fx8_take d k (by rw [← HN.out]; exact hlt))
      have HFL : Hid ((gs n ++ fx8 (d.take k)).length ≤ 10 + 8 * n) := by
        simp only [Hid]; have := GL.out; rw [List.length_append, fx8_len, List.length_take]; omega
      obtain ⟨f1, hf1⟩ : ∃ f1, f1 = gs n ++ fx8 (d.take (k + 1)) := ⟨_, rfl⟩
      have HF1 := hideIt hf1
      obtain ⟨f0, hf0⟩ : ∃ f0, f0 = gs n ++ fx8 (d.take k) := ⟨_, rfl⟩
      have HS2 : Hid (f1 = f0 ++ fixL (d.getD k 0) 8) := by
        simp only [Hid]; rw [hf1, hf0, HST.out, List.append_assoc]
      rw [← hf0] at HFL HOWN
      clear hf1 hf0 HST hown hon
      generalize d.getD k 0 = x at *
      go_wp2_with fail
      refine (fix_any _ 8 w3 (by omega)).mono ?_
      rintro e w4 ⟨u, rfl, own4, o4⟩
      have ow := o4.own HOWN.out (fun _ _ f => f)
      have hb4 := Bs.of_own own4
      have NC4 := hideIt (NoCap.of_own own4)
      have HB4 := hideIt hb4
      have hs4 : w1.heap.size ≤ w4.heap.size := Nat.le_trans HON.out.size o4.size
      have O4 := hideIt (HON.out.same o4)
      obtain ⟨a4, c4, e4⟩ := hb4.len
      subst e4
      clear o4 own4 HON HOWN hb4
      rw [fixL_len] at HB4 NC4
      go_wp2_with (at_builtin; refine wpList_append_bs _ rfl _ _ _ rfl w1.heap.size 5 i0 (.int .u8 0) 1 Tryz.underlying29 hi hz0 hz1 hz2 rfl _ _ _ rfl ow .u8 _ (fixL x 8) rfl HB4.out NC4.out ?c3 ?c4 hs4 ?_)
      case c3 => have := HFL.out; rw [fixL_len]; unfold maxLen; omega
      case c4 => have := HFL.out; rw [fixL_len]; omega
      intro v6 w6 own6 hgrow6 _ _
      have OWN6 : Hid (w6.ownsRow w1.heap.size 5 1 v6 f1.length (f1.map (Value.int .u8))) := by
        simp only [Hid]; rw [HS2.out, List.length_append, List.map_append]; exact own6
      have O6 := hideIt (O4.out.grown hgrow6 (fun k hk e => absurd (ow.lt k e).1 (by omega)))
      clear ow own6 hgrow6
      go_wp2
      go_roundw
      case rel => exact ⟨k + 1, by omega, by go_num, by rw [← HF1.out]; exact OWN6.out, O6.out⟩
      case measure => simp [intOf]; omega
    · obtain rfl : k = n := by omega
      have dlt : decide ((k : Int) < (k : Int)) = false := by simp
      rw [HN.out, List.take_length, ← HN.out] at HOWN
      have HFL : Hid ((gs k ++ fx8 d).length ≤ 10 + 8 * k) := by
        simp only [Hid]; have := GL.out; rw [List.length_append, fx8_len, ← HN.out]; omega
      have HG2 : Hid (G = (gs k ++ fx8 d) ++ bytesI (bitsP (wP k) ((xs.take m).map (plc d)))) := by
        simp only [Hid]; rw [HG.out, List.append_assoc, HM.out, List.take_length]; unfold tail10; rw [← HN.out]
      have W0 : Hid (WrAt 112 5 (w3.alloc (.cells #[.slice none 0 0, .int .i64 0] 112)) (w3.heap.size + 1) w3.heap.size (.slice none 0 0) (bitsP (wP k) ((xs.take 0).map (plc d)))) := WrAt.new (T := 112) (E := 5) w3
      have PW := hideIt (placeWidth_any k (w3.alloc (.cells #[.slice none 0 0, .int .i64 0] 112)) (by omega))
      have WL : wP k ≤ 16 := wP_le (by omega)
      have WF : Hid (∀ x ∈ xs, plc d x < k ∧ wid (plc d x) ≤ wP k) := by
        intro x hx
        have h1 := plc_lt (HME.out x hx)
        rw [← HN.out] at h1
        exact ⟨h1, (wid_le_iff _ _).2 (wP_lt h1)⟩
      have HBL : Hid (∀ j, ((xs.take j).map (plc d)).length ≤ m) := by
        intro j; rw [List.length_map, List.length_take, HM.out]; omega
      clear hown hon HG GL VD
      generalize gs k ++ fx8 d = f0 at *
      go_wp2_with fail
      refine PW.out.mono ?_
      rintro e w4 ⟨rfl, rfl⟩
      clear PW
      generalize wP k = W at *
      go_wp2
      go_loopw [41] (fun i wr => ∃ j : Nat, j ≤ m ∧ i = .int .i64 j ∧ ∃ vw, WrAt 112 5 wr (w3.heap.size + 1) w3.heap.size vw (bitsP W ((xs.take j).map (plc d))) ∧ Only (fun _ => False) w3 wr) (fun i _ => m - (intOf i).toNat)
      case atStart => exact ⟨0, Nat.zero_le _, rfl, _, W0.out, (Only.refl _ _).alloc _⟩
      case round =>
        clear W0
        obtain ⟨j, hj, rfl, vw, hwt, hon⟩ := hrel
        have hbl : (bitsP W ((xs.take j).map (plc d))).length ≤ 65536 * 16 := by
          rw [bitsP_len]; exact Nat.mul_le_mul (Nat.le_trans (HBL.out j) hl) WL
        have ONW := hideIt (FB.out.same (HON.out.same hon))
        by_cases hlt : j < m
        · have dlt : decide ((j : Int) < (m : Int)) = true := by simp; omega
          obtain ⟨b, off, cap', e1, hc0⟩ := (HB.out.past ONW.out).at j (by rw [← HM.out]; exact hlt)
          have ea : ao = some ⟨b, off, none⟩ := by simp at e1; exact e1.1
          subst ea
          clear e1
          have hym := getD_ofl (l := xs) (k := j) (by rw [← HM.out]; exact hlt)
          obtain ⟨y0, y1⟩ := HU.out _ hym
          obtain ⟨p0, p1⟩ := WF.out _ hym
          have HST := hideIt (bitsP_take W (plc d) xs j (by rw [← HM.out]; exact hlt))
          have hat0 := hideIt (DM_at HDN.out (HME.out _ hym) (.lit (.int .i64 0)))
          generalize xs.getD j 0 = y at *
          generalize plc d y = p at *
          have hkey : keyOf Tryz.prog 26 (.int .u64 y) = some (.int .u64 y) := keyOf_int_mk Tryz.underlying26 (wf_u64 y0 y1)
          have hmap := map_keep FM.out (HON.out.same hon) (fun f => f)
          have PU := hideIt (put_wr hwt (p : Int) (W : Int) (by omega) (by omega) (by omega) (by omega) (by simpa using p1) (by omega))
          rw [Int.toNat_natCast, Int.toNat_natCast, ← HST.out] at PU
          have HW := hideIt hwt
          have HO := hideIt hon
          clear hwt hon HST hym
          go_wp2_with (first
            | (at_lookup; refine wpList_lookup_own_int _ rfl _ _ 120 rfl 26 3 .i64 law35 Tryz.underlying120 Tryz.underlying3 (zero3 _) w.heap.size m _ rfl hmap _ _ rfl hkey ?_; intro c hat hwc; obtain rfl : c = (p : Int) := (by have := hat.symm.trans hat0.out; simpa using this); clear hat hwc hat0)
            | fail)
          refine PU.out.mono ?_
          rintro e w5 ⟨rfl, v5, h5, o5, s5⟩
          have W5 := hideIt h5
          have O5 := hideIt (HO.out.trans o5 (fun i hi f => absurd (HW.out.foot_ge (Nat.le_refl _) i f) (by omega)))
          clear h5 o5 s5 PU hmap HW HO
          go_wp2
          go_roundw
          case rel => exact ⟨j + 1, by omega, by go_num, _, W5.out, O5.out⟩
          case measure => simp [intOf]; omega
        · obtain rfl : j = m := by omega
          have dlt : decide ((j : Int) < (j : Int)) = false := by simp
          have BY := hideIt (bytes_wr hwt (by omega))
          have HON3 := hideIt hon
          have HTL : Hid ((bytesI (bitsP W ((xs.take j).map (plc d)))).length ≤ 65536 * 16) := by
            simp only [Hid]; rw [bytesI_length]; unfold nb; omega
          generalize bytesI (bitsP W ((xs.take j).map (plc d))) = t0 at *
          clear hwt hon hbl
          go_wp2_with fail
          refine BY.out.mono ?_
          rintro e w5 ⟨u, rfl, own5, o5⟩
          have ow := (HON3.out.same o5).own HOWN.out (fun _ _ f => f)
          have hb5 := Bs.of_own own5
          have NC5 := hideIt (NoCap.of_own own5)
          have HB5 := hideIt hb5
          have hs5 : w1.heap.size ≤ w5.heap.size := Nat.le_trans HON.out.size (Nat.le_trans HON3.out.size o5.size)
          have O5 := hideIt (ONW.out.same o5)
          have S1 := hideIt FB.out.size
          obtain ⟨a5, c5, e5⟩ := hb5.len
          subst e5
          obtain ⟨tl, htl⟩ : ∃ tl, tl = t0.length := ⟨_, rfl⟩
          rw [← htl] at HB5 NC5 HTL ⊢
          have HT := hideIt htl
          clear o5 own5 hb5 htl
          go_wp2_with (at_builtin; refine wpList_append_bs _ rfl _ _ _ rfl w1.heap.size 5 i0 (.int .u8 0) 1 Tryz.underlying29 hi hz0 hz1 hz2 rfl _ _ _ rfl ow .u8 _ t0 rfl HB5.out NC5.out ?c3 ?c4 hs5 ?_)
          case c3 => have := HFL.out; have := HTL.out; have := HT.out; unfold maxLen; omega
          case c4 => have := HFL.out; have := HTL.out; have := HT.out; omega
          intro v6 w6 own6 hgrow6 _ _
          have OWN6 : Hid (w6.ownsRow w.heap.size 5 1 v6 G.length (G.map (Value.int .u8))) := by
            simp only [Hid]; rw [HG2.out, List.length_append, List.map_append]; exact own_low own6 S1.out
          have O6 := hideIt (O5.out.grown hgrow6 (fun k hk e => absurd (ow.lt k e).1 (by have := S1.out; omega)))
          clear ow own6 hgrow6
          go_wp2
          go_ret2
          exact ⟨v6, rfl, OWN6.out, O6.out⟩
theorem encode10_all (v : Value) (xs : List Int) (w : World) (h : Bs .u64 w v xs) (hu : U64 xs) :
    Calls Tryz.prog 68 #[v] w fun e w' => ∃ v', e = .returned (.tuple #[v', .int .i64 (ENC10 xs).2]) ∧ w'.ownsRow w.heap.size 5 1 v' (ENC10 xs).1.length ((ENC10 xs).1.map (Value.int .u8)) ∧ Only (fun _ => False) w w' := by
  by_cases hl : 65536 < xs.length
  · have e : ENC10 xs = ([], 4) := if_pos hl
    rw [e]
    refine (encode10_long v xs w h hl).mono ?_
    rintro e w' ⟨rfl, rfl⟩
    exact ⟨_, rfl, World.ownsRow_nil _ _ _ _, Only.refl _ _⟩
  · rw [ENC10_of (by omega)]
    exact encode10_bs v xs w h hu (by omega) _ rfl
end Go.Proofs.YthapipgaohlgdabGreatDoor

/- Package valcodec: tags; are they all the same; eight bytes each; Way. -/
namespace Go.Proofs.YthapipgaohlgdabGreatDoor
open Go.RowKit

set_option maxHeartbeats 400000 in
set_option maxRecDepth 100000 in
theorem vtag_yes (t : Int) (w : World) (h0 : 0 ≤ t) (h1 : t ≤ 3) : Calls Tryz.prog 55 #[.int .i64 t] w fun e w' => e = .returned (.bool true) ∧ w = w' := by
  have d0 : decide (0 ≤ t) = true := decide_eq_true h0
  have d1 : decide (t < 4) = true := decide_eq_true (by omega)
  clear h0 h1
  go_enter Tryz.func55, Tryz.ntmps55
  go_wp2
  go_ret
  exact ⟨rfl, rfl⟩
set_option maxHeartbeats 400000 in
set_option maxRecDepth 100000 in
theorem vtag_no (t : Int) (w : World) (h : t < 0 ∨ 3 < t) : Calls Tryz.prog 55 #[.int .i64 t] w fun e w' => e = .returned (.bool false) ∧ w = w' := by
  by_cases h0 : t < 0
  · have d0 : decide (0 ≤ t) = false := decide_eq_false (by omega)
    clear h0 h
    go_enter Tryz.func55, Tryz.ntmps55
    go_wp2
    go_ret
    exact ⟨rfl, rfl⟩
  · have d0 : decide (0 ≤ t) = true := decide_eq_true (by omega)
    have d1 : decide (t < 4) = false := decide_eq_false (by omega)
    clear h0 h
    go_enter Tryz.func55, Tryz.ntmps55
    go_wp2
    go_ret
    exact ⟨rfl, rfl⟩

set_option maxHeartbeats 800000 in
set_option maxRecDepth 100000 in
/-- PATTERNS in eight bytes each: new memory. -/
theorem vfixed_any (v : Value) (l : List Int) (w : World) (h : Bs .u64 w v l) (hl : l.length ≤ 65536) :
    Calls Tryz.prog 67 #[v] w fun e w' => ∃ u, e = .returned u ∧ w'.ownsRow w.heap.size 5 1 u (fx8 l).length ((fx8 l).map (Value.int .u8)) ∧ Only (fun _ => False) w w' := by
  obtain ⟨i0, hi, hz0, hz1, hz2⟩ := info_parts Tryz.infoU8
  have HB := hideIt h
  obtain ⟨ao, cap, rfl⟩ := h.len
  obtain ⟨n, hn⟩ : ∃ n, n = l.length := ⟨_, rfl⟩
  rw [← hn] at hl HB
  rw [← hn]
  have HN := hideIt hn
  clear h hn
  go_enter Tryz.func67, Tryz.ntmps67
  go_wp2
  go_loopw [3, 8] (fun s i wr => ∃ k : Nat, k ≤ n ∧ i = .int .i64 k ∧ wr.ownsRow w.heap.size 5 1 s (fx8 (l.take k)).length ((fx8 (l.take k)).map (Value.int .u8)) ∧ Only (fun _ => False) w wr) (fun _ i _ => n - (intOf i).toNat)
  case atStart => exact ⟨0, Nat.zero_le _, rfl, World.ownsRow_nil _ _ _ _, Only.refl _ _⟩
  case round =>
    obtain ⟨k, hk, rfl, hown, hon⟩ := hrel
    have HOWN := hideIt hown
    have HON := hideIt hon
    by_cases hlt : k < n
    · have dlt : decide ((k : Int) < (n : Int)) = true := by simp; omega
      obtain ⟨b, off, cap', e1, hc0⟩ := (HB.out.past hon).at k (by rw [← HN.out]; exact hlt)
      have ea : ao = some ⟨b, off, none⟩ := by simp at e1; exact e1.1
      subst ea
      clear e1
      have HST := hideIt (fx8_take l k (by rw [← HN.out]; exact hlt))
      have HFL : Hid ((fx8 (l.take k)).length ≤ 8 * n) := by
        simp only [Hid]; rw [fx8_len, List.length_take]; omega
      obtain ⟨f1, hf1⟩ : ∃ f1, f1 = fx8 (l.take (k + 1)) := ⟨_, rfl⟩
      rw [← hf1] at HST
      have HF1 := hideIt hf1
      clear hf1
      generalize fx8 (l.take k) = f0 at *
      generalize l.getD k 0 = x at *
      clear hown hon HB
      go_wp2_with fail
      refine (fix_any _ 8 wr (by omega)).mono ?_
      rintro e w4 ⟨u, rfl, own4, o4⟩
      have ow := o4.own HOWN.out (fun _ _ f => f)
      have hb4 := Bs.of_own own4
      have NC4 := hideIt (NoCap.of_own own4)
      have HB4 := hideIt hb4
      have hs4 : w.heap.size ≤ w4.heap.size := Nat.le_trans HON.out.size o4.size
      have O4 := hideIt (HON.out.trans o4 (fun _ _ f => f))
      obtain ⟨a4, c4, e4⟩ := hb4.len
      subst e4
      clear o4 own4 HON HOWN hb4
      rw [fixL_len] at HB4 NC4
      go_wp2_with (at_builtin; refine wpList_append_bs _ rfl _ _ _ rfl w.heap.size 5 i0 (.int .u8 0) 1 Tryz.underlying29 hi hz0 hz1 hz2 rfl _ _ _ rfl ow .u8 _ (fixL x 8) rfl HB4.out NC4.out ?c3 ?c4 hs4 ?_)
      case c3 => have := HFL.out; rw [fixL_len]; unfold maxLen; omega
      case c4 => have := HFL.out; rw [fixL_len]; omega
      intro v6 w6 own6 hgrow6 _ _
      have OWN6 : Hid (w6.ownsRow w.heap.size 5 1 v6 f1.length (f1.map (Value.int .u8))) := by
        simp only [Hid]; rw [HST.out, List.length_append, List.map_append]; exact own6
      have O6 := hideIt (O4.out.grown hgrow6 (fun k hk e => absurd (ow.lt k e).1 (by omega)))
      clear ow own6 hgrow6
      go_wp2
      go_roundw
      case rel => exact ⟨k + 1, by omega, by go_num, by rw [← HF1.out]; exact OWN6.out, O6.out⟩
      case measure => simp [intOf]; omega
    · obtain rfl : k = n := by omega
      have dlt : decide ((k : Int) < (k : Int)) = false := by simp
      have HL : Hid (l.take k = l) := by simp only [Hid]; exact List.take_of_length_le (by rw [← HN.out]; exact Nat.le_refl _)
      rw [HL.out] at HOWN
      clear hown hon HB
      go_wp2
      go_ret
      exact ⟨_, rfl, HOWN.out, HON.out⟩

theorem allSame_at {l : List Int} {k : Nat} (hk : k < l.length) (h : l.getD k 0 ≠ l.getD 0 0) : ¬ allSame l := fun a => h (allSame_iff.1 a _ (by
  rw [List.getD_eq_getElem?_getD, List.getElem?_eq_getElem hk]; exact List.getElem_mem hk))
theorem allSame_of {l : List Int} (h : ∀ k, k < l.length → l.getD k 0 = l.getD 0 0) : allSame l := allSame_iff.2 fun x hx => by
  obtain ⟨k, hk, rfl⟩ := List.getElem_of_mem hx
  have := h k hk
  rw [List.getD_eq_getElem?_getD, List.getElem?_eq_getElem hk] at this
  exact this

set_option maxHeartbeats 800000 in
set_option maxRecDepth 100000 in
/-- ARE THEY ALL THE SAME, and is there one? -/
theorem areSame_bs (v : Value) (l : List Int) (w : World) (h : Bs .u64 w v l) (hl : l.length ≤ 65536) :
    Calls Tryz.prog 66 #[v] w fun e w' => e = .returned (.bool (decide (¬ (l = [] ∨ ¬ allSame l)))) ∧ w = w' := by
  have HB := hideIt h
  obtain ⟨ao, cap, rfl⟩ := h.len
  obtain ⟨n, hn⟩ : ∃ n, n = l.length := ⟨_, rfl⟩
  rw [← hn] at hl HB
  rw [← hn]
  obtain ⟨A, hA⟩ : ∃ A, A = decide (¬ (l = [] ∨ ¬ allSame l)) := ⟨_, rfl⟩
  rw [← hA]
  have HA := hideIt hA
  have HN := hideIt hn
  clear h hn hA
  go_enter Tryz.func66, Tryz.ntmps66
  go_wp2
  go_loop [7] (fun i => ∃ k : Nat, k ≤ n ∧ i = .int .i64 k ∧ Hid (∀ j, j < k → l.getD j 0 = l.getD 0 0)) (fun i => n - (intOf i).toNat)
  case atStart => exact ⟨0, Nat.zero_le _, rfl, fun j hj => absurd hj (by omega)⟩
  case round =>
    obtain ⟨k, hk, rfl, HS⟩ := hrel
    by_cases hlt : k < n
    · have dlt : decide ((k : Int) < (n : Int)) = true := by simp; omega
      obtain ⟨b, off, cap', e1, hc0⟩ := HB.out.at k (by rw [← HN.out]; exact hlt)
      have ea : ao = some ⟨b, off, none⟩ := by simp at e1; exact e1.1
      subst ea
      clear e1
      obtain ⟨b', off', cap2, e2, hc1⟩ := HB.out.at 0 (by rw [← HN.out]; omega)
      simp at e2
      obtain ⟨⟨rfl, rfl⟩, e3⟩ := e2
      clear e3
      rw [Nat.add_zero] at hc1
      have bd : (0 : Int) < (n : Int) := by omega
      by_cases hx : l.getD k 0 = l.getD 0 0
      · have HS' : Hid (∀ j, j < k + 1 → l.getD j 0 = l.getD 0 0) := fun j hj => by
          rcases Nat.lt_or_ge j k with h | h
          · exact HS.out j h
          · obtain rfl : j = k := by omega
            exact hx
        rw [hx] at hc0
        generalize l.getD 0 0 = x at *
        have dx : (x != x) = false := by simp
        clear hx HB
        go_wp2
        go_round
        case rel => exact ⟨k + 1, by omega, by go_num, HS'⟩
        case measure => simp [intOf]; omega
      · have HF : Hid (A = false) := by
          simp only [Hid]; rw [HA.out]
          exact decide_eq_false (fun c => c (.inr (allSame_at (by rw [← HN.out]; exact hlt) hx)))
        have dx : (l.getD k 0 != l.getD 0 0) = true := bne_iff_ne.2 hx
        generalize l.getD 0 0 = x at *
        generalize l.getD k 0 = y at *
        clear hx HB HS
        go_wp2
        go_ret
        rw [HF.out]
        exact ⟨rfl, rfl⟩
    · obtain rfl : k = n := by omega
      have dlt : decide ((k : Int) < (k : Int)) = false := by simp
      by_cases h0 : k = 0
      · have HF : Hid (A = false) := by
          simp only [Hid]; rw [HA.out]
          exact decide_eq_false (fun c => c (.inl (List.eq_nil_of_length_eq_zero (by rw [← HN.out]; exact h0))))
        have d2 : decide ((0 : Int) < (k : Int)) = false := by simp; omega
        have d2' : decide (0 < k) = false := by simp; omega
        clear h0 HB HS
        go_wp2
        go_ret
        rw [HF.out]
        exact ⟨rfl, rfl⟩
      · have HF : Hid (A = true) := by
          simp only [Hid]; rw [HA.out]
          refine decide_eq_true (fun c => ?_)
          rcases c with c | c
          · rw [c] at HN; exact h0 HN.out
          · exact c (allSame_of (by rw [← HN.out]; exact HS.out))
        have d2 : decide ((0 : Int) < (k : Int)) = true := by simp; omega
        have d2' : decide (0 < k) = true := by simp; omega
        clear h0 HB HS
        go_wp2
        go_ret
        rw [HF.out]
        exact ⟨rfl, rfl⟩
end Go.Proofs.YthapipgaohlgdabGreatDoor

/- slices.Repeat of one number. -/
namespace Go.Proofs.YthapipgaohlgdabGreatDoor
open Go.RowKit

theorem and32 (n : Nat) (h : n ≤ 65536) : bits .and .u64 (n : Int) 4294967295 = n := by
  have := bits_and_u64_nat n 4294967295 (by omega) (by omega)
  rw [show (4294967295 : Nat) = 2 ^ 32 - 1 by decide, Nat.and_two_pow_sub_one_eq_mod, Nat.mod_eq_of_lt (by omega)] at this
  exact this
set_option maxHeartbeats 400000 in
set_option maxRecDepth 100000 in
theorem mul64_one (n : Nat) (w : World) (h : n ≤ 65536) : Calls Tryz.prog 121 #[.int .u64 1, .int .u64 n] w fun e w' => e = .returned (.tuple #[.int .u64 0, .int .u64 n]) ∧ w = w' := by
  have e1 : bits .and .u64 1 4294967295 = 1 := and32 1 (by omega)
  have e0 : bits .and .u64 0 4294967295 = 0 := and32 0 (by omega)
  have e2 := and32 n h
  have e3 : (n : Int) / 4294967296 = 0 := by omega
  have e4 : IntKind.u64.wrap (n : Int) = n := by rw [IntKind.wrap_u64]; omega
  have e5 : IntKind.u64.wrap 0 = 0 := by rw [IntKind.wrap_u64]; rfl
  go_enter Tryz.func121, Tryz.ntmps121
  go_wp2
  go_ret2
  exact ⟨rfl, rfl⟩
set_option maxHeartbeats 400000 in
set_option maxRecDepth 100000 in
theorem mul_one (n : Nat) (w : World) (h : n ≤ 65536) : Calls Tryz.prog 100 #[.int .u64 1, .int .u64 n] w fun e w' => e = .returned (.tuple #[.int .u64 0, .int .u64 n]) ∧ w = w' := by
  have A := hideIt (mul64_one n w h)
  clear h
  go_enter Tryz.func100, Tryz.ntmps100
  go_wp2_with fail
  refine A.out.mono ?_
  rintro e w1 ⟨rfl, rfl⟩
  go_wp2
  go_ret2
  exact ⟨rfl, rfl⟩

/-- k of n cells hold x -/
def fill (x : Int) (n k : Nat) : List Value := (List.replicate k x ++ List.replicate (n - k) 0).map (Value.int .u64)
theorem fill_length (x : Int) {n k : Nat} (h : k ≤ n) : (fill x n k).length = n := by simp [fill]; omega
theorem fill_all (x : Int) (n : Nat) : fill x n n = (List.replicate n x).map (Value.int .u64) := by simp [fill]
theorem fill_zero (x : Int) (n : Nat) : fill x n 0 = (madeCells #[Value.int .u64 0] (n * 1)).toList := by
  apply List.ext_getElem?
  intro i
  by_cases h : i < n
  · simp [fill, madeCells, h, Nat.mod_one]
  · simp [fill, madeCells, h]
theorem fill_splice (x : Int) {n k m : Nat} : splice (fill x n k) k ((List.replicate m x).map (Value.int .u64)) = fill x n (k + m) := by
  unfold splice fill
  rw [List.map_append, List.map_append, List.take_left' (by simp), List.drop_append, List.drop_of_length_le (by simp), List.length_map, List.length_replicate, List.length_map, List.length_replicate,
    ← List.map_drop, List.drop_replicate, List.nil_append, ← List.append_assoc, ← List.map_append, List.replicate_append_replicate, show k + m - k = m by omega, show n - k - m = n - (k + m) by omega]
theorem fill_at (x : Int) {n k j : Nat} (hj : j < k) : (fill x n k)[j]? = some (.int .u64 x) := by
  unfold fill
  rw [List.map_append, List.getElem?_append_left (by simp; exact hj)]
  simp [hj]
theorem row_own {w : World} {N n : Nat} {x : Int} {k : Nat} (hk : k ≤ n) (hn : n ≤ 65536) (h : w.heap[N]? = some (.cells (fill x n k).toArray 26 (0, 0))) : w.ownsRow N 26 1 (.slice (some ⟨N, 0, none⟩) n n) n (fill x n k) :=
  ⟨by rw [fill_length x hk]; omega, .inr ⟨N, n, _, rfl, Nat.le_refl _, h, Nat.le_refl _, by unfold maxLen; omega, by simp [fill_length x hk], List.take_of_length_le (by rw [fill_length x hk]; omega)⟩⟩
theorem own_row {w : World} {N n : Nat} {xs : List Value} (h : w.ownsRow N 26 1 (.slice (some ⟨N, 0, none⟩) n n) n xs) : w.heap[N]? = some (.cells xs.toArray 26 (0, 0)) := by
  rcases h.2 with ⟨e, _⟩ | ⟨g, cap, cur, e, _, hg, _, _, hs, ht⟩
  · cases e
  · simp at e
    obtain ⟨rfl, rfl⟩ := e
    rw [List.take_of_length_le (by simp; omega)] at ht
    rw [hg, ← ht]
theorem one_cells (x : Int) (m : Nat) : ∀ v ∈ (List.replicate m x).map (Value.int .u64), v.oneCell' = true := oneCell_ints .u64 _

set_option maxHeartbeats 600000 in
set_option maxRecDepth 100000 in
/-- SO MANY OF ONE NUMBER: new memory. -/
theorem repeat_one (B : Nat) (x : Int) (n : Nat) (w : World) (hc : w.cell? ⟨B, 0, none⟩ = some (.int .u64 x)) (hn : n ≤ 65536) :
    Calls Tryz.prog 75 #[.slice (some ⟨B, 0, none⟩) 1 1, .int .i64 n] w fun e w' => ∃ u, e = .returned u ∧ w'.ownsRow w.heap.size 26 1 u n ((List.replicate n x).map (Value.int .u64)) ∧ Only (fun _ => False) w w' := by
  obtain ⟨i0, hi, hz0, hz1, hz2⟩ := info_parts Tryz.infoU64
  have hsz : (Tryz.prog.info? 26).map (·.size) = some 1 := by rw [hi]; simp [hz1]
  obtain ⟨wm, hmk, hown0, hgr⟩ := run_make_full (P := Tryz.prog) w w.heap.size 39 26 i0 (.int .u64 0) 1 Tryz.underlying39 hi hz0 hz1 .i64 .i64 n (by rw [hz2]; omega) (by unfold maxLen; omega) (Nat.le_refl _)
  rw [show (Value.int .u64 0).cells = #[Value.int .u64 0] from rfl, ← fill_zero x] at hown0
  have HG0 := hideIt (own_row hown0)
  have om : Only (fun _ => False) w wm := (Only.refl _ _).grown hgr (fun _ _ e => by cases e)
  have hBm : Below w.heap.size w wm := om.low (Nat.le_refl _)
  have HBm := hideIt hBm
  have hcm : wm.cell? ⟨B, 0, none⟩ = some (.int .u64 x) := (hBm.cell (p := ⟨B, 0, none⟩) (World.block_lt_of_cell? w _ hc)).trans hc
  have M := hideIt (mul_one n w hn)
  obtain ⟨N, hN⟩ : ∃ N, N = w.heap.size := ⟨_, rfl⟩
  rw [← hN] at hmk HG0 HBm
  rw [← hN]
  have HN := hideIt hN
  have HCM := hideIt hcm
  have d0 : decide ((n : Int) < 0) = false := by simp
  have d2 : decide ((9223372036854775807 : Int) < (n : Int)) = false := decide_eq_false (by omega)
  clear hN hown0 hgr om hBm hcm
  go_enter Tryz.func75, Tryz.ntmps75
  go_wp2_with fail
  refine M.out.mono ?_
  rintro e w1 ⟨rfl, rfl⟩
  clear M
  obtain ⟨k0, hk0⟩ : ∃ k0, k0 = Nat.min 1 n := ⟨_, rfl⟩
  have hk1 : k0 ≤ n ∧ (k0 = 0 → n = 0) := by rw [hk0]; have : Nat.min 1 n = min 1 n := rfl; omega
  have HCP : ∃ w3, (Builtin.copy_ #[39, 39] 3 #[.slice (some ⟨N, 0, none⟩) n n, .slice (some ⟨B, 0, none⟩) 1 1]).run Tryz.prog wm = .ok (.int .i64 k0) w3 ∧ w3.heap[N]? = some (.cells (fill x n k0).toArray 26 (0, 0)) ∧ Below N w w3 := by
    by_cases h0 : n = 0
    · subst h0
      obtain rfl : k0 = 0 := by omega
      exact ⟨wm, run_copy_none (P := Tryz.prog) wm 39 39 3 26 _ _ 0 0 1 1 Tryz.underlying39 hsz rfl, HG0.out, HBm.out⟩
    · obtain rfl : k0 = 1 := by rw [hk0]; have : Nat.min 1 n = min 1 n := rfl; omega
      have hrun := run_copy_row (P := Tryz.prog) wm 39 39 3 26 N 0 n n ⟨B, 0, none⟩ 1 1 (fill x n 0).toArray 26 [.int .u64 x] Tryz.underlying39 hsz HG0.out hk0
        (fun j v hv => by
          rcases j with _ | j
          · simp at hv; subst hv; exact HCM.out
          · simp at hv) (by simp [fill_length]; omega) (by intro v hv; simp at hv; subst hv; rfl)
      refine ⟨_, hrun, ?_, below_setRow HBm.out (Nat.le_refl _) _⟩
      rw [setRow_heap wm N _ _ 26 _ HG0.out]
      have := fill_splice x (n := n) (k := 0) (m := 1)
      simp only [splice, List.replicate_one, List.map_cons, List.map_nil] at this
      rw [← this]
      simp
  obtain ⟨w3, hcp, hg3, hB3⟩ := HCP
  have START := hideIt (And.intro hk1 (And.intro hg3 hB3))
  clear hk0 hk1 hc hg3 hB3
  go_wp2
  go_loopw [8] (fun i wr => ∃ k : Nat, (k ≤ n ∧ (k = 0 → n = 0)) ∧ i = .int .i64 k ∧ Hid (wr.heap[N]? = some (.cells (fill x n k).toArray 26 (0, 0)) ∧ Below N w wr)) (fun i _ => n - (intOf i).toNat)
  case atStart => exact ⟨k0, START.out.1, rfl, START.out.2⟩
  case round =>
    obtain ⟨k, ⟨hk, hk0⟩, rfl, HR⟩ := hrel
    clear START hcp
    by_cases hlt : k < n
    · have dlt : decide ((k : Int) < (n : Int)) = true := by simp; omega
      have hkp : 0 < k := by
        rcases Nat.eq_zero_or_pos k with h | h
        · have := hk0 h; omega
        · exact h
      have b1 : (k : Int) ≤ (n : Int) := by omega
      obtain ⟨m, hm⟩ : ∃ m, m = Nat.min k (n - k) := ⟨_, rfl⟩
      have hm' : 0 < m ∧ k + m ≤ n ∧ m ≤ k := by rw [hm]; have : Nat.min k (n - k) = min k (n - k) := rfl; omega
      have HL : Hid (((List.replicate m x).map (Value.int .u64)).length = Nat.min k (n - k)) := by simp only [Hid]; rw [List.length_map, List.length_replicate, hm]
      have HP : Hid (∀ j v, ((List.replicate m x).map (Value.int .u64))[j]? = some v → wr.drew.cell? ((⟨N, 0, none⟩ : Addr).add j) = some v) := by
        intro j v hv
        have hj := (List.getElem?_eq_some_iff.1 hv).1
        rw [List.length_map, List.length_replicate] at hj
        have e : v = .int .u64 x := by
          have := List.mem_of_getElem? hv
          simp at this
          exact this.2
        have ha : (⟨N, 0, none⟩ : Addr).add j = ⟨N, j, none⟩ := by unfold Addr.add; split <;> simp_all
        rw [ha, e, World.cell?_drew]
        have h1 := (row_own (k := k) (x := x) hk hn HR.out.1).cellAt j (by omega)
        rw [h1, fill_at x (by omega)]
      have HF : Hid (k + ((List.replicate m x).map (Value.int .u64)).length ≤ (fill x n k).length) := by simp only [Hid]; rw [fill_length x hk, List.length_map, List.length_replicate]; omega
      have HS : Hid (splice (fill x n k) k ((List.replicate m x).map (Value.int .u64)) = fill x n (k + m)) := fill_splice x
      have HLR : Hid (((List.replicate m x).map (Value.int .u64)).length = m) := by simp only [Hid]; rw [List.length_map, List.length_replicate]
      have HOC := hideIt (one_cells x m)
      obtain ⟨CS, hCS⟩ : ∃ CS, CS = (List.replicate m x).map (Value.int .u64) := ⟨_, rfl⟩
      rw [← hCS] at HL HP HF HS HLR HOC
      have HM := hideIt hm'
      have hnk : ¬ n = k := by omega
      clear hm hm' hCS hk0
      go_wp2_with fail
      go_region_law (refine step_copy_splice rfl (.tmp 41) (.tmp 44) 39 39 rfl 26 Tryz.underlying39 hsz (some ⟨N, k, none⟩) (some ⟨N, 0, none⟩) (n - k) (n - k) k n (by kernel_rfl) (by kernel_rfl) N k (fill x n k) 26 HR.out.1 CS HL.out (fun _ => ⟨rfl, _, rfl, HP.out⟩) HF.out HOC.out N w HR.out.2.drew (Nat.le_refl _) ?_; intro w4 HG4 hB4)
      have hCL : k + CS.length ≤ n ∧ 0 < CS.length := by rw [HLR.out]; have := HM.out; omega
      have HR4 : Hid (w4.heap[N]? = some (.cells (fill x n (k + CS.length)).toArray 26 (0, 0)) ∧ Below N w w4) := by
        simp only [Hid]
        rw [HLR.out, ← HS.out]
        exact ⟨HG4.out, hB4⟩
      clear HG4 hB4 HR HP HL HF HS HLR HOC HM
      have hwr : IntKind.i64.wrap ((k : Int) + (CS.length : Int)) = (k : Int) + (CS.length : Int) := by rw [IntKind.wrap_i64]; omega
      go_simp
      go_wp2
      go_roundw
      case rel => exact ⟨k + CS.length, ⟨by omega, by omega⟩, by go_num, HR4⟩
      case measure => simp [intOf]; omega
    · obtain rfl : k = n := by omega
      have dlt : decide ((k : Int) < (k : Int)) = false := by simp
      have OW := hideIt (row_own (Nat.le_refl _) hn HR.out.1)
      rw [fill_all] at OW
      have HO := hideIt (only_of_below (HN.out ▸ HR.out.2))
      clear HR
      go_wp2
      go_ret
      exact ⟨_, rfl, OW.out, HO.out⟩
end Go.Proofs.YthapipgaohlgdabGreatDoor

/- Package gorilla's window: what fits it. -/
namespace Go.Proofs.YthapipgaohlgdabGreatDoor
open Go.RowKit

theorem trail_win (a z d : Nat) (w : World) (h : a + z + d = 64) :
    Calls Tryz.prog 114 #[.agg #[.int .i64 a, .int .i64 d]] w fun e w' => e = .returned (.int .i64 (z : Int)) ∧ Only (fun _ => False) w w' := by
  have := trail_any a d w (by omega) (by omega)
  rw [show (64 : Int) - (a : Int) - d = (z : Int) by omega] at this
  exact this
theorem dvd_tz {x z : Nat} (h0 : 0 < x) (hx : x < 18446744073709551616) (h : x / 2 ^ z * 2 ^ z = x) : z ≤ tz x := by
  rcases Nat.lt_or_ge (tz x) z with hlt | hge
  · exfalso
    have ho : x / 2 ^ tz x % 2 = 1 := tzF_odd 64 x h0 (by rw [p64]; exact hx)
    obtain ⟨j, rfl⟩ : ∃ j, z = tz x + 1 + j := ⟨z - tz x - 1, by omega⟩
    generalize tz x = t at *
    generalize x / 2 ^ (t + 1 + j) = y at *
    have e : x = 2 ^ t * (2 * (y * 2 ^ j)) := by
      rw [← h, Nat.pow_add, Nat.pow_succ]
      simp only [Nat.mul_assoc, Nat.mul_comm, Nat.mul_left_comm]
    rw [e, Nat.mul_div_cancel_left _ (Nat.two_pow_pos t)] at ho
    omega
  · exact hge
theorem fits_iff {x a z d : Nat} (h0 : 0 < x) (hx : x < 18446744073709551616) (h : a + z + d = 64) (hd : 0 < d) :
    fitsW x a z ↔ (x / 2 ^ z * 2 ^ z = x ∧ wid (x / 2 ^ z) ≤ d) := by
  have hw := wid_le64 x hx
  constructor
  · rintro ⟨h1, h2⟩
    have h3 := fits_lt (z := z) hx h1 (by omega)
    rw [show 64 - a - z = d by omega] at h3
    exact ⟨tz_back h2, (wid_le_iff _ d).2 h3⟩
  · rintro ⟨h1, h2⟩
    refine ⟨?_, dvd_tz h0 hx h1⟩
    have h3 := (wid_le_iff _ d).1 h2
    rw [Nat.div_lt_iff_lt_mul (Nat.two_pow_pos z), ← Nat.pow_add] at h3
    have h4 := (wid_le_iff x (d + z)).2 h3
    omega
theorem wrap_back {x z : Nat} (hx : x < 18446744073709551616) : IntKind.u64.wrap ((x : Int) / 2 ^ z * 2 ^ z) = ((x / 2 ^ z * 2 ^ z : Nat) : Int) := by
  have h1 : x / 2 ^ z * 2 ^ z ≤ x := Nat.div_mul_le_self x _
  have e : (x : Int) / 2 ^ z * 2 ^ z = ((x / 2 ^ z * 2 ^ z : Nat) : Int) := by push_cast; rfl
  rw [e, IntKind.wrap_u64]
  omega
set_option maxHeartbeats 1000000 in
theorem fits_yes (a z d x : Nat) (w : World) (h0 : 0 < x) (hx : x < 18446744073709551616) (h : a + z + d = 64) (hd : 0 < d) (he : x / 2 ^ z * 2 ^ z = x) :
    Calls Tryz.prog 112 #[.agg #[.int .i64 a, .int .i64 d], .int .u64 x] w fun e w' => e = .returned (.bool (decide (wid (x / 2 ^ z) ≤ d))) ∧ Only (fun _ => False) w w' := by
  have z64 : (z : Int) < 64 := by omega
  have T1 := hideIt (trail_win a z d (w.alloc (.cells #[.int .i64 a, .int .i64 d] 124)) h)
  have e1 := wrap_back (z := z) hx
  rw [he] at e1
  have e2 : (IntKind.u64.wrap ((x : Int) / 2 ^ z * 2 ^ z) == (x : Int)) = true := by rw [e1]; simp
  have e3 : (x : Int) / 2 ^ z = ((x / 2 ^ z : Nat) : Int) := by push_cast; rfl
  have y1 : x / 2 ^ z ≤ x := Nat.div_le_self _ _
  clear e1 he
  rw [e3] at e2
  generalize hy : x / 2 ^ z = y at *
  have E3 := hideIt e3
  clear e3 hy
  have WI := fun w => hideIt (width_any (y : Int) w (by omega) (by omega))
  simp only [Int.toNat_natCast] at WI
  generalize wid y = q at *
  go_enter Tryz.func112, Tryz.ntmps112
  go_wp2_with fail
  refine T1.out.mono ?_
  rintro e w1 ⟨rfl, o1⟩
  have g1 := o1.heap (heap_alloc_last w _) (fun f => f)
  obtain ⟨c0, c1, _, _⟩ := two_cells g1
  have O1 := hideIt ((Only.refl (fun _ => False) w).alloc (.cells #[.int .i64 a, .int .i64 d] 124) |>.same o1)
  clear T1 o1
  go_wp2
  rw [E3.out]
  go_region_with (first | (go_at_call 114; refine (trail_win a z d _ h).mono ?_; rintro e w2 ⟨rfl, o2⟩; have c2 := (two_cells (o2.heap (a := w1.drew) g1 (fun f => f))).2.1) | (go_at_call 82; refine (WI _).out.mono ?_; rintro e w3 ⟨rfl, rfl⟩))
  all_goals go_wp2
  all_goals go_ret
  all_goals exact ⟨rfl, O1.out.drew.same o2⟩
set_option maxHeartbeats 1000000 in
theorem fits_no (a z d x : Nat) (w : World) (hx : x < 18446744073709551616) (h : a + z + d = 64) (hd : 0 < d) (he : x / 2 ^ z * 2 ^ z ≠ x) :
    Calls Tryz.prog 112 #[.agg #[.int .i64 a, .int .i64 d], .int .u64 x] w fun e w' => e = .returned (.bool false) ∧ Only (fun _ => False) w w' := by
  have z64 : (z : Int) < 64 := by omega
  have T1 := hideIt (trail_win a z d (w.alloc (.cells #[.int .i64 a, .int .i64 d] 124)) h)
  have e1 := wrap_back (z := z) hx
  have e2 : (IntKind.u64.wrap ((x : Int) / 2 ^ z * 2 ^ z) == (x : Int)) = false := by rw [e1, beq_eq_false_iff_ne]; omega
  have e3 : (x : Int) / 2 ^ z = ((x / 2 ^ z : Nat) : Int) := by push_cast; rfl
  have y1 : x / 2 ^ z ≤ x := Nat.div_le_self _ _
  clear e1 he
  rw [e3] at e2
  generalize hy : x / 2 ^ z = y at *
  have E3 := hideIt e3
  clear e3 hy
  go_enter Tryz.func112, Tryz.ntmps112
  go_wp2_with fail
  refine T1.out.mono ?_
  rintro e w1 ⟨rfl, o1⟩
  have g1 := o1.heap (heap_alloc_last w _) (fun f => f)
  obtain ⟨c0, c1, _, _⟩ := two_cells g1
  have O1 := hideIt ((Only.refl (fun _ => False) w).alloc (.cells #[.int .i64 a, .int .i64 d] 124) |>.same o1)
  clear T1 o1
  go_wp2
  rw [E3.out]
  first | (go_region_with ((go_at_call 114; refine (trail_win a z d _ h).mono ?_; rintro e w2 ⟨rfl, o2⟩; have c2 := (two_cells (o2.heap (a := w1.drew) g1 (fun f => f))).2.1))) | fail
  all_goals go_wp2
  all_goals go_ret
  all_goals exact ⟨rfl, O1.out.drew.same o2⟩
theorem fits_any (a z d x : Nat) (w : World) (h0 : 0 < x) (hx : x < 18446744073709551616) (h : a + z + d = 64) (hd : 0 < d) :
    Calls Tryz.prog 112 #[.agg #[.int .i64 a, .int .i64 d], .int .u64 x] w fun e w' => e = .returned (.bool (decide (fitsW x a z))) ∧ Only (fun _ => False) w w' := by
  by_cases he : x / 2 ^ z * 2 ^ z = x
  · have e : decide (fitsW x a z) = decide (wid (x / 2 ^ z) ≤ d) := decide_eq_decide.2 ((fits_iff h0 hx h hd).trans (and_iff_right he))
    rw [e]
    exact fits_yes a z d x w h0 hx h hd he
  · have e : decide (fitsW x a z) = false := decide_eq_false (fun f => he ((fits_iff h0 hx h hd).1 f).1)
    rw [e]
    exact fits_no a z d x w hx h hd he
end Go.Proofs.YthapipgaohlgdabGreatDoor

/- Package gorilla: what differs, written. -/
namespace Go.Proofs.YthapipgaohlgdabGreatDoor
open Go.RowKit

/-- a window that there may be, as its two numbers -/
def W2 (wn : Option (Nat × Nat)) (a d : Nat) : Prop := (wn = none ∧ a = 0 ∧ d = 0) ∨ ∃ z, wn = some (a, z) ∧ a ≤ 31 ∧ a + z + d = 64 ∧ 0 < d
theorem W2.none : W2 .none 0 0 := .inl ⟨rfl, rfl, rfl⟩
theorem W2.le {wn : Option (Nat × Nat)} {a d : Nat} (h : W2 wn a d) : a ≤ 31 ∧ d ≤ 64 := by
  rcases h with ⟨_, rfl, rfl⟩ | ⟨z, _, h1, h2, h3⟩ <;> omega

/-- behind some calls of the writer: the writer, a window's block and the answer's, both new -/
structure Ws (w : World) (lo B : Nat) (v : Value) (w1 : World) (v1 : Value) (l1 : List Bool) (a d : Nat) : Prop where
  wr : WrAt 112 5 w1 lo B v1 l1
  on : Only (Foot B v) w w1
  st : Stays w v v1
  nb : ∀ k, v1.ownBlock = some k → k ≠ w.heap.size ∧ k ≠ w.heap.size + 1
  lt : B < w.heap.size
  box : w1.heap[w.heap.size]? = some (.cells #[.int .i64 a, .int .i64 d] 124 (0, 0))
  res : w1.heap[w.heap.size + 1]? = some (.cells #[.int .i64 0, .int .i64 0] 124 (0, 0))
theorem WrAt.lt_size {T E : TypeId} {w : World} {lo B : Nat} {v : Value} {l : List Bool} (h : WrAt T E w lo B v l) : B < w.heap.size := Nat.lt_of_lt_of_le h.lt h.le
theorem Ws.start {w : World} {lo B : Nat} {v : Value} {l : List Bool} (h : WrAt 112 5 w lo B v l) (a d : Nat) :
    Ws w lo B v ((w.alloc (.cells #[.int .i64 a, .int .i64 d] 124)).alloc (.cells #[.int .i64 0, .int .i64 0] 124)) v l a d where
  wr := h.keep (((Only.refl (fun _ => False) w).alloc _).alloc _) (fun f => f) (fun _ _ f => f)
  on := ((Only.refl _ w).alloc _).alloc _
  st := Stays.refl _ _
  nb := fun k hk => by have := (h.own.lt k hk).2; omega
  lt := h.lt_size
  box := by
    have := heap_alloc_last w (.cells #[.int .i64 a, .int .i64 d] 124)
    exact ((Only.refl (fun _ => False) _).alloc _).heap this (fun f => f)
  res := by
    have := heap_alloc_last (w.alloc (.cells #[.int .i64 a, .int .i64 d] 124)) (.cells #[.int .i64 0, .int .i64 0] 124)
    rwa [show (w.alloc (.cells #[.int .i64 a, .int .i64 d] 124)).heap.size = w.heap.size + 1 from Array.size_push ..] at this
theorem Ws.big {w : World} {lo B : Nat} {v : Value} {w1 : World} {v1 : Value} {l1 : List Bool} {a d : Nat} (h : Ws w lo B v w1 v1 l1 a d) : w.heap.size + 1 < w1.heap.size := by
  rcases Nat.lt_or_ge (w.heap.size + 1) w1.heap.size with e | e
  · exact e
  · have := h.res
    rw [Array.getElem?_eq_none e] at this
    cases this
theorem Ws.put {w : World} {lo B : Nat} {v : Value} {w1 w2 : World} {v1 v2 : Value} {l1 l2 : List Bool} {a d : Nat} (h : Ws w lo B v w1 v1 l1 a d)
    (h2 : WrAt 112 5 w2 lo B v2 l2) (o : Only (Foot B v1) w1 w2) (s : Stays w1 v1 v2) : Ws w lo B v w2 v2 l2 a d where
  wr := h2
  on := h.on.trans o (foot_stays h.st)
  st := h.st.trans s h.on.size
  nb := fun k hk => by
    rcases s with e | e
    · rw [e] at hk; exact h.nb k hk
    · have := e k hk; have := h.big; omega
  lt := h.lt
  box := o.heap h.box (fun f => by
    rcases f with e | e
    · have := h.lt; omega
    · exact (h.nb _ e).1 rfl)
  res := o.heap h.res (fun f => by
    rcases f with e | e
    · have := h.lt; omega
    · exact (h.nb _ e).2 rfl)
theorem Ws.past {w : World} {lo B : Nat} {v : Value} {w1 w2 : World} {v1 : Value} {l1 : List Bool} {a d : Nat} (h : Ws w lo B v w1 v1 l1 a d) (o : Only (fun _ => False) w1 w2) : Ws w lo B v w2 v1 l1 a d :=
  h.put (h.wr.keep o (fun f => f) (fun _ _ f => f)) (o.mono (fun _ _ f => f.elim)) (Stays.refl _ _)
theorem setCell2_only {w : World} {K : Nat} (x y : Value) {S : Nat → Prop} (hS : S K) : Only S w ((w.setCell ⟨K, 0, none⟩ x).setCell ⟨K, 1, none⟩ y) :=
  ((Only.refl S w).setCell (fun _ => hS) x).setCell (fun _ => hS) y
theorem setCell2_heap {w : World} {K : Nat} {a b : Value} {T : TypeId} (x y : Value) (h : w.heap[K]? = some (.cells #[a, b] T (0, 0))) :
    ((w.setCell ⟨K, 0, none⟩ x).setCell ⟨K, 1, none⟩ y).heap[K]? = some (.cells #[x, y] T (0, 0)) := (heap_two ((heap_two h x).1) y).2
theorem Ws.set {w : World} {lo B : Nat} {v : Value} {w1 : World} {v1 : Value} {l1 : List Bool} {a d : Nat} (h : Ws w lo B v w1 v1 l1 a d) (a' d' : Nat) :
    Ws w lo B v ((w1.setCell ⟨w.heap.size, 0, none⟩ (.int .i64 a')).setCell ⟨w.heap.size, 1, none⟩ (.int .i64 d')) v1 l1 a' d' where
  wr := h.wr.keep (setCell2_only (S := fun k => k = w.heap.size) _ _ rfl) (fun f => by have := h.lt; omega) (fun k hk f => (h.nb k hk).1 f)
  on := ((h.on.setCell (p := ⟨w.heap.size, 0, none⟩) (fun f => absurd f (Nat.lt_irrefl _)) _).setCell (p := ⟨w.heap.size, 1, none⟩) (fun f => absurd f (Nat.lt_irrefl _)) _)
  st := h.st
  nb := h.nb
  lt := h.lt
  box := setCell2_heap _ _ h.box
  res := (setCell2_only (S := fun k => k = w.heap.size) _ _ rfl).heap h.res (fun f => by omega)
/-- the answer laid down -/
theorem Ws.fin {w : World} {lo B : Nat} {v : Value} {w1 : World} {v1 : Value} {l1 : List Bool} {a d : Nat} (h : Ws w lo B v w1 v1 l1 a d) (x y : Value) {w2 : World} (e : w2 = (w1.setCell ⟨w.heap.size + 1, 0, none⟩ x).setCell ⟨w.heap.size + 1, 1, none⟩ y) :
    w2.heap[w.heap.size + 1]? = some (.cells #[x, y] 124 (0, 0)) ∧ WrAt 112 5 w2 lo B v1 l1 ∧ Only (Foot B v) w w2 ∧ Stays w v v1 := by
  subst e
  refine ⟨setCell2_heap _ _ h.res, h.wr.keep (setCell2_only (S := fun k => k = w.heap.size + 1) _ _ rfl) (fun f => by have := h.lt; omega) (fun k hk f => (h.nb k hk).2 f), ?_, h.st⟩
  exact ((h.on.setCell (p := ⟨w.heap.size + 1, 0, none⟩) (fun (f : w.heap.size + 1 < w.heap.size) => absurd f (by omega)) _).setCell (p := ⟨w.heap.size + 1, 1, none⟩) (fun (f : w.heap.size + 1 < w.heap.size) => absurd f (by omega)) _)

theorem bits_01 : bitsOf (Int.toNat 0) (Int.toNat 1) = [false] := by decide
theorem bits_11 : bitsOf (Int.toNat 1) (Int.toNat 1) = [true] := by decide
set_option maxHeartbeats 1000000 in
theorem write_zero {w : World} {lo B : Nat} {v : Value} {l : List Bool} (h : WrAt 112 5 w lo B v l) (a d : Nat) (hl : l.length ≤ 100000000) :
    Calls Tryz.prog 92 #[.pointer (some ⟨B, 0, none⟩), .int .u64 0, .agg #[.int .i64 a, .int .i64 d]] w fun e w' => e = .returned (.agg #[.int .i64 a, .int .i64 d]) ∧
      ∃ v', WrAt 112 5 w' lo B v' (l ++ [false]) ∧ Only (Foot B v) w w' ∧ Stays w v v' := by
  have S0 := hideIt (Ws.start h a d)
  have P1 := hideIt (put_wr S0.out.wr 0 1 (by omega) (by omega) (by omega) (by omega) (by decide) (by omega))
  rw [bits_01] at P1
  clear h
  go_enter Tryz.func92, Tryz.ntmps92
  go_wp2_with fail
  refine P1.out.mono ?_
  rintro e w1 ⟨rfl, v1, h1, o1, s1⟩
  have S1 := hideIt (S0.out.put h1 o1 s1)
  clear h1 o1 s1 S0 P1
  obtain ⟨c0, c1, _, _⟩ := two_cells S1.out.box
  obtain ⟨c2, c3, f2, f3⟩ := two_cells S1.out.res
  go_wp2
  obtain ⟨g, r1, r2, r3⟩ := S1.out.fin (.int .i64 a) (.int .i64 d) rfl
  exact bodyPost_ret (results_cell_row rfl _ _ (w.heap.size + 1) 124 _ (0, 0) _ rfl g Tryz.underlying124 rfl Tryz.sizeWin) rfl ⟨rfl, v1, r1, r2, r3⟩
/-- the last of what is written: x without the window's bits -/
theorem put_in {w w1 : World} {lo B : Nat} {v v1 : Value} {l1 : List Bool} {a d : Nat} (S : Ws w lo B v w1 v1 l1 a d) (x : Int) (y z : Nat) (e3 : x / 2 ^ z = (y : Int)) (hy : y < 18446744073709551616) (hd : d ≤ 64) (y2 : wid y ≤ d) (hl : l1.length ≤ 1000000000) :
    Calls Tryz.prog 83 #[.pointer (some ⟨B, 0, none⟩), .int .u64 (x / 2 ^ z), .int .i64 d] w1 fun e w' => e = .returned (.int .i64 0) ∧ ∃ v', Ws w lo B v w' v' (l1 ++ bitsOf y d) a d := by
  rw [e3]
  refine (put_wr S.wr y d (by omega) (by omega) (by omega) (by omega) (by simpa using y2) hl).mono ?_
  rintro e w' ⟨rfl, v', h, o, s⟩
  simp only [Int.toNat_natCast] at h
  exact ⟨rfl, v', S.put h o s⟩
set_option maxHeartbeats 2000000 in
theorem write_fit {w : World} {lo B : Nat} {v : Value} {l : List Bool} (h : WrAt 112 5 w lo B v l) (a z d x : Nat) (hl : l.length ≤ 100000000) (h0 : 0 < x) (hx : x < 18446744073709551616) (hs : a + z + d = 64) (hd : 0 < d) (hf : fitsW x a z) :
    Calls Tryz.prog 92 #[.pointer (some ⟨B, 0, none⟩), .int .u64 x, .agg #[.int .i64 a, .int .i64 d]] w fun e w' => e = .returned (.agg #[.int .i64 a, .int .i64 d]) ∧
      ∃ v', WrAt 112 5 w' lo B v' (l ++ [true] ++ [false] ++ bitsOf (x / 2 ^ z) d) ∧ Only (Foot B v) w w' ∧ Stays w v v' := by
  have S0 := hideIt (Ws.start h a d)
  have P1 := hideIt (put_wr S0.out.wr 1 1 (by omega) (by omega) (by omega) (by omega) (by decide) (by omega))
  rw [bits_11] at P1
  have hne : ((x : Int) == 0) = false := by rw [beq_eq_false_iff_ne]; omega
  have z64 : (z : Int) < 64 := by omega
  have e3 : Hid ((x : Int) / 2 ^ z = ((x / 2 ^ z : Nat) : Int)) := by simp only [Hid]; push_cast; rfl
  have y1 : x / 2 ^ z ≤ x := Nat.div_le_self _ _
  have y2 : wid (x / 2 ^ z) ≤ d := ((fits_iff h0 hx hs hd).1 hf).2
  have FI := fun w => hideIt (fits_any a z d x w h0 hx hs hd)
  rw [decide_eq_true hf] at FI
  generalize hy : x / 2 ^ z = y at *
  clear h hf hy
  go_enter Tryz.func92, Tryz.ntmps92
  go_wp2_with fail
  refine P1.out.mono ?_
  rintro e w1 ⟨rfl, v1, h1, o1, s1⟩
  have S1 := hideIt (S0.out.put h1 o1 s1)
  clear h1 o1 s1 S0 P1
  obtain ⟨c0, c1, _, _⟩ := two_cells S1.out.box
  go_wp2_with fail
  refine (isNone_no a d _ (by omega)).mono ?_
  rintro e w2 ⟨rfl, o2⟩
  have S2 := hideIt (S1.out.past o2)
  clear S1 o2 c0 c1
  obtain ⟨c0, c1, _, _⟩ := two_cells S2.out.box
  go_wp2_with fail
  refine (FI _).out.mono ?_
  rintro e w3 ⟨rfl, o3⟩
  have S3 := hideIt (S2.out.past o3)
  clear S2 o3 c0 c1 FI
  have P3 := hideIt (put_wr S3.out.wr 0 1 (by omega) (by omega) (by omega) (by omega) (by decide) (by simp; omega))
  rw [bits_01] at P3
  go_wp2_with fail
  refine P3.out.mono ?_
  rintro e w4 ⟨rfl, v4, h4, o4, s4⟩
  have S4 := hideIt (S3.out.put h4 o4 s4)
  clear h4 o4 s4 S3 P3
  obtain ⟨c0, c1, _, _⟩ := two_cells S4.out.box
  go_wp2
  have SD := hideIt (S4.out.past ((Only.refl (fun _ => False) w4).drew))
  have hl4 : (l ++ [true] ++ [false]).length ≤ 1000000000 := by simp; omega
  go_region_with (first | (go_at_call 114; refine (trail_win a z d _ hs).mono ?_; rintro e w5 ⟨rfl, o5⟩; have S5 := hideIt (SD.out.past o5); have c2 := (two_cells S5.out.box).2.1) | (go_at_call 83; refine (put_in S5.out (x : Int) y z e3.out (by omega) (by omega) y2 hl4).mono ?_; rintro e w6 ⟨rfl, v6, S6⟩))
  all_goals
    have S7 := hideIt S6
    clear S6
    clear c0 c1
    obtain ⟨c0, c1, _, _⟩ := two_cells S7.out.box
    obtain ⟨c2, c3, f2, f3⟩ := two_cells S7.out.res
    go_wp2
    obtain ⟨g, r1, r2, r3⟩ := S7.out.fin (.int .i64 a) (.int .i64 d) rfl
    exact bodyPost_ret (results_cell_row rfl _ _ (w.heap.size + 1) 124 _ (0, 0) _ rfl g Tryz.underlying124 rfl Tryz.sizeWin) rfl ⟨rfl, v6, r1, r2, r3⟩
end Go.Proofs.YthapipgaohlgdabGreatDoor
