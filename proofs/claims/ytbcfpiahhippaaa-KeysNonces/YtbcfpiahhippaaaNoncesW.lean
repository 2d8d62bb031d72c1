/- A nonce is the beginning of a tag of version and index: the walk. -/
import Derived.Test.YtbcfpiahhippaaaAw18
namespace Go.Proofs.Ytbcfpiahhippaaa
open Go.RowKit

set_option maxHeartbeats 1600000 in
set_option maxRecDepth 100000 in
theorem nonces_main (vk : Value) (key : List Int) (v i : Int) (hk : key.length = 32) (hx : KIX i) (hv : 0 ≤ v ∧ v ≤ 18446744073709551615) (k8 : U8 key) (w : World) (bk : Bs .u8 w vk key) :
    Calls Try.prog 6 #[vk, .int .u64 v, .int .i64 i] w fun e w' => e = .returned (.bool true) ∧ Below w.heap.size w w' := by
  obtain ⟨i0, hi, hz0, hz1, hz2⟩ := info_parts Try.infoU8
  have A := hideIt (awake_any w)
  have P := hideIt (fun (W : World) (o : Only (fun _ => False) w W) => derive_none vk key 3 k8 (by decide) W (bk.past o))
  rw [show KDe key [] = 0 by unfold KDe; rw [if_pos hk]; rfl, show KDt key 3 [] = KDV key 3 [] by unfold KDt; rw [if_pos hk]; rfl, KDV_len] at P
  have R := hideIt (fun (W : World) (o : Only (fun _ => False) w W) => nonce_any vk key v i k8 W (bk.past o) (by have := hx.1; have := hx.2; omega))
  rw [show KNe key i = 0 by unfold KNe; rw [if_pos hk, if_pos hx], show KNt key v i = KNC key v i by unfold KNt; rw [if_pos hk, if_pos hx], KNC_len] at R
  obtain ⟨ko, kc, rfl, -⟩ := bk.formN hk
  have d1 : decide (i < 0) = false := decide_eq_false (by have := hx.1; omega)
  have d2 : decide (1048576 ≤ i) = false := decide_eq_false (by have := hx.2; omega)
  have HX := hideIt hx
  have HV := hideIt hv
  clear bk k8 hk hx hv
  go_enter Try.func6, Try.ntmps6
  go_wp2_with fail
  refine A.out.mono ?_
  rintro e w0 ⟨rfl, o0⟩
  have O0 := hideIt o0
  clear o0 A
  go_wp2_with fail
  refine (P.out w0 O0.out).mono ?_
  rintro e w1 ⟨v1, rfl, own1, o1⟩
  have B1 : Hid (Bs .u8 w1 v1 (KDV key 3 [])) := Bs.of_own (k := .u8) (E := 5) (lo := w0.heap.size) (by rw [KDV_len]; exact own1)
  have O1 := hideIt (O0.out.same o1)
  clear own1 o1 P
  go_wp2_with fail
  refine (R.out w1 O1.out).mono ?_
  rintro e w2 ⟨v2, rfl, own2, o2⟩
  have B2 : Hid (Bs .u8 w2 v1 (KDV key 3 []) ∧ Bs .u8 w2 v2 (KNC key v i)) := ⟨B1.out.past o2, Bs.of_own (k := .u8) (E := 5) (lo := w1.heap.size) (by rw [KNC_len]; exact own2)⟩
  have O2 := hideIt (O1.out.same o2)
  clear own2 o2 R B1
  have HS := hideIt (Only.refl (fun _ => False) w2)
  go_wp2
  go_loopw [12, 13] (fun o i wr => ∃ k : Nat, k ≤ 8 ∧ i = .int .i64 (7 - (k : Int)) ∧ wr.ownsRow w2.heap.size 5 1 o k (((fixL v 8).map (Value.int .u8)).take k) ∧ Below w2.heap.size w2 wr) (fun _ i _ => (intOf i + 1).toNat)
  case atStart => exact ⟨0, Nat.zero_le _, by go_num, World.ownsRow_nil _ _ _ _, Below.refl _ _⟩
  case round =>
    obtain ⟨k, hk, rfl, hown, hbel⟩ := hrel
    have hsz := hbel.size
    by_cases hlt : k < 8
    · have dk : decide (0 ≤ 7 - (k : Int)) = true := decide_eq_true (by omega)
      obtain ⟨j, hj⟩ : ∃ j : Nat, j = 7 - k := ⟨_, rfl⟩
      have ej : (7 - (k : Int)) = (j : Int) := by omega
      have HJ := hideIt hj
      rw [ej] at dk
      rw [ej]
      have hj7 : j ≤ 7 := by omega
      clear hj ej hk
      go_wp2_with (at_builtin; refine wpList_append_lies _ rfl _ _ _ rfl w2.heap.size 5 i0 (.int .u8 0) 1 1 Try.underlying22 hi hz0 hz1 hz2 rfl (by omega) _ k (((fixL v 8).map (Value.int .u8)).take k) rfl (hown.alloc _) ⟨wr.heap.size, 0, none⟩ 1 1 [.int .u8 (v / 2 ^ (8 * j) % 256)] rfl rfl ?c1 ?c2 (by omega) ?c3 ?c4 ?c5 (wr.heap.size + 1) (by simp) ?_)
      case c1 => exact cell_one_new _ _ _
      case c2 => intro u hu; simp at hu; subst hu; rfl
      case c3 => unfold maxLen; omega
      case c4 => omega
      case c5 => simp; omega
      intro g cap1 wq hown1 hgrow hat hg1
      have hb1 : Below w2.heap.size w2 wq := (hbel.alloc hbel.size _).grown hgrow (by simp; omega) (fun q hq => (hown.lt q hq).1)
      have hown2 : wq.ownsRow w2.heap.size 5 1 (.slice (some ⟨g, 0, none⟩) (k + 1) cap1) (k + 1) (((fixL v 8).map (Value.int .u8)).take (k + 1)) := by
        rw [← List.map_take, fixL_first v 8 k hlt, List.map_append, List.map_take]
        have : 8 - 1 - k = j := by have := HJ.out; omega
        rw [this]
        exact hown1
      clear hown hown1 hgrow hat hbel
      go_wp2
      go_roundw
      case rel => exact ⟨k + 1, by omega, by have := HJ.out; go_num, hown2, hb1⟩
      case measure => have := HJ.out; simp [intOf]
    · have hkn : k = 8 := by omega
      subst hkn
      have dk : decide (0 ≤ (7 : Int) - ((8 : Nat) : Int)) = false := decide_eq_false (by omega)
      have hown8 : wr.ownsRow w2.heap.size 5 1 u12 8 (bl (fixL v 8)) := by
        rw [List.take_of_length_le (by rw [List.length_map, fixL_len]; decide)] at hown
        exact hown
      have OW := hideIt hown8
      have OB := hideIt (only_of_below hbel)
      clear hown hbel hown8
      have b4 : Bs .u8 (wr.alloc (.cells #[.int .u8 0, .int .u8 (i / 65536 % 256), .int .u8 (i / 256 % 256), .int .u8 (i % 256)] 5)) (.slice (some ⟨wr.heap.size, 0, none⟩) 4 4) (fixL i 4) := by
        rw [fix4_index i HX.out]
        exact Bs.lit .u8 wr 5 [0, i / 65536 % 256, i / 256 % 256, i % 256]
      have oa : Only (fun _ => False) wr (wr.alloc (.cells #[.int .u8 0, .int .u8 (i / 65536 % 256), .int .u8 (i / 256 % 256), .int .u8 (i % 256)] 5)) := (Only.refl _ _).alloc _
      have B4 := hideIt (And.intro b4 (And.intro (OW.out.alloc (.cells #[.int .u8 0, .int .u8 (i / 65536 % 256), .int .u8 (i / 256 % 256), .int .u8 (i % 256)] 5)) (OB.out.same oa)))
      have hle := B4.out.2.2.size
      have HF : Hid ((fixL i 4).length = 4 ∧ fixL v 8 ++ fixL i 4 = NTX v i) := ⟨fixL_len _ _, rfl⟩
      obtain ⟨Y, hY⟩ : ∃ Y, Y = fixL i 4 := ⟨_, rfl⟩
      rw [← hY] at B4 HF
      clear b4 oa OW OB hY hsz hk hlt dk
      go_wp2_with (at_builtin; refine (wpList_append_bs _ rfl (.tmp 53) (.tmp 62) 22 rfl w2.heap.size 5 i0 (.int .u8 0) 1 Try.underlying22 hi hz0 hz1 hz2 rfl _ 8 (bl (fixL v 8)) rfl B4.out.2.1 .u8 _ Y rfl B4.out.1 (NoCap.some _ _ _) (by rw [HF.out.1]; decide) (by rw [HF.out.1]; decide) hle ?_))
      intro u5 w5 hown5 hgrow5 hnil5 hob5
      have b5 : Bs .u8 w5 u5 (NTX v i) := by
        rw [← HF.out.2]
        refine Bs.of_own (k := .u8) (E := 5) (lo := w2.heap.size) ?_
        rw [List.length_append, fixL_len, List.map_append]
        exact hown5
      have o5 : Only (fun _ => False) w2 w5 := B4.out.2.2.grown hgrow5 (fun j hj e => by have := (B4.out.2.1.lt j e).1; omega)
      have M := hideIt (mac_bs v1 u5 (KDV key 3 []) (NTX v i) w5 (B2.out.1.past o5) (KDV_u8 _ _ _) (by rw [KDV_len]; decide) b5 (NTX_u8 _ _) (by rw [NTX_len]; decide))
      have B5 := hideIt (And.intro (B2.out.2.past o5) (O2.out.same o5))
      have HC : Hid (KNC key v i = (MACL (KDV key 3 []) (NTX v i)).take 12) := rfl
      obtain ⟨T, hT⟩ : ∃ T, T = MACL (KDV key 3 []) (NTX v i) := ⟨_, rfl⟩
      have hTl : T.length = 32 := by rw [hT, MACL_len]
      rw [← hT] at M HC
      have HT := hideIt hTl
      clear hown5 hgrow5 hnil5 hob5 b5 o5 B4 hle HF B2 O2 hT hTl HX HV hi hz0 hz1 hz2 O0 O1 HS
      go_wp2_with fail
      refine M.out.mono ?_
      rintro e w6 ⟨v6, rfl, own6, o6⟩
      obtain ⟨a6, c6, rfl⟩ := own_form own6
      have b6 : Bs .u8 w6 (.slice a6 32 c6) T := Bs.of_own (k := .u8) (E := 5) (lo := w5.heap.size) (by rw [HT.out]; exact own6)
      obtain ⟨_, _, e6, hc6⟩ := b6.formN HT.out
      cases e6
      have hc7 : (12 : Int) ≤ (c6 : Int) := by omega
      have S := hideIt (lsame_eq v2 (.slice a6 12 c6) (KNC key v i) w6 (B5.out.1.past o6) (by rw [HC.out]; exact b6.head (by decide)) (by rw [KNC_len]; decide))
      have O6 := hideIt (B5.out.2.same o6)
      clear own6 o6 b6 hc6 M B5
      go_wp2_with fail
      refine S.out.mono ?_
      rintro e w7 ⟨rfl, o7⟩
      have O7 := hideIt (O6.out.same o7)
      clear o7 S O6
      go_wp2
      go_ret
      exact ⟨rfl, O7.out.low (Nat.le_refl _)⟩
set_option maxHeartbeats 1600000 in
set_option maxRecDepth 100000 in
theorem nonces_walk (vk : Value) (key : List Int) (v i : Int) (hv : 0 ≤ v ∧ v ≤ 18446744073709551615) (k8 : U8 key) (w : World) (bk : Bs .u8 w vk key) :
    Calls Try.prog 6 #[vk, .int .u64 v, .int .i64 i] w fun e w' => e = .returned (.bool true) ∧ Below w.heap.size w w' := by
  by_cases hk : key.length = 32
  · by_cases hx : KIX i
    · exact nonces_main vk key v i hk hx hv k8 w bk
    · have A := hideIt (awake_any w)
      obtain ⟨ko, kc, rfl, -⟩ := bk.formN hk
      by_cases h0 : i < 0
      · have d1 : decide (i < 0) = true := decide_eq_true h0
        clear bk k8 hk hx h0 hv
        go_enter Try.func6, Try.ntmps6
        go_wp2_with fail
        refine A.out.mono ?_
        rintro e w0 ⟨rfl, o0⟩
        have O0 := hideIt o0
        clear o0 A
        go_wp2
        go_ret
        exact ⟨rfl, O0.out.low (Nat.le_refl _)⟩
      · have d1 : decide (i < 0) = false := decide_eq_false h0
        have d2 : decide (1048576 ≤ i) = true := decide_eq_true (by unfold KIX at hx; omega)
        clear bk k8 hk hx h0 hv
        go_enter Try.func6, Try.ntmps6
        go_wp2_with fail
        refine A.out.mono ?_
        rintro e w0 ⟨rfl, o0⟩
        have O0 := hideIt o0
        clear o0 A
        go_wp2
        go_ret
        exact ⟨rfl, O0.out.low (Nat.le_refl _)⟩
  · have A := hideIt (awake_any w)
    obtain ⟨ko, kc, rfl⟩ := bk.len
    obtain ⟨m, hm⟩ : ∃ m, m = key.length := ⟨_, rfl⟩
    rw [← hm] at hk ⊢
    have d1 : ((m : Int) != 32) = true := by simp; omega
    clear bk k8 hk hm hv
    go_enter Try.func6, Try.ntmps6
    go_wp2_with fail
    refine A.out.mono ?_
    rintro e w0 ⟨rfl, o0⟩
    have O0 := hideIt o0
    clear o0 A
    go_wp2
    go_ret
    exact ⟨rfl, O0.out.low (Nat.le_refl _)⟩
end Go.Proofs.Ytbcfpiahhippaaa
