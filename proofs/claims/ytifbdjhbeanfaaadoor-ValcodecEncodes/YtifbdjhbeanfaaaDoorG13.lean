/- Several texts in one: Rp, VRef, CRef, CRef2, Re10. -/
import Derived.Test.YtifbdjhbeanfaaaDoorG7
import Derived.Test.YtifbdjhbeanfaaaDoorG1
import Derived.Test.YtifbdjhbeanfaaaDoorG4
import Derived.Test.YtifbdjhbeanfaaaDoorG5
import Derived.Deep.RegionLaw
import Derived.BigRegion
import Derived.Test.YtifbdjhbeanfaaaDoorG12

/- The document's answer for patterns by their places: place, width. -/
namespace Go.Proofs.YtifbdjhbeanfaaaDoor
open Go.RowKit

theorem plc_first {d : List Int} {k : Nat} (hk : k < d.length) (hn : d.getD k 0 ∉ d.take k) : plc d (d.getD k 0) = k := by
  have e1 : d.getD k 0 = d[k] := by rw [List.getD_eq_getElem?_getD, List.getElem?_eq_getElem hk]; rfl
  have e2 : d = d.take k ++ d[k] :: d.drop (k + 1) := by rw [← List.drop_eq_getElem_cons hk, List.take_append_drop]
  rw [e1] at hn ⊢
  unfold plc
  generalize d[k] = y at *
  rw [e2, List.idxOf_append, if_neg hn, List.idxOf_cons_self, List.length_take]
  omega
theorem not_take_succ {d : List Int} {k : Nat} {y : Int} (hk : k < d.length) (hn : y ∉ d.take k) (hy : d.getD k 0 ≠ y) : y ∉ d.take (k + 1) := by
  rw [take_snoc d k hk]
  intro h
  rcases List.mem_append.1 h with h | h
  · exact hn h
  · simp at h; exact hy h.symm

def plI (d : List Int) (y : Int) : Int := if y ∈ d then (plc d y : Int) else -1
set_option maxHeartbeats 400000 in
set_option maxRecDepth 100000 in
theorem rplace_any (vd : Value) (d : List Int) (y : Int) (w : World) (h : Bs .u64 w vd d) (hl : d.length ≤ 65536) :
    Calls Tryd.prog 41 #[vd, .int .u64 y] w fun e w' => e = .returned (.int .i64 (plI d y)) ∧ w = w' := by
  obtain ⟨ao, cap, rfl⟩ := h.len
  have HB := hideIt h
  obtain ⟨n, hn⟩ : ∃ n, n = d.length := ⟨_, rfl⟩
  rw [← hn] at HB hl
  rw [← hn]
  have HN := hideIt hn
  obtain ⟨P, hP⟩ : ∃ P, P = plI d y := ⟨_, rfl⟩
  rw [← hP]
  have HP := hideIt hP
  clear h hn hP
  go_enter Tryd.func41, Tryd.ntmps41
  go_wp2
  go_loopw [5] (fun i wr => ∃ k : Nat, k ≤ n ∧ i = .int .i64 k ∧ Hid (y ∉ d.take k) ∧ w = wr) (fun i _ => n - (intOf i).toNat)
  case atStart => exact ⟨0, Nat.zero_le _, rfl, by simp [Hid], rfl⟩
  case round =>
    obtain ⟨k, hk, rfl, HT, rfl⟩ := hrel
    by_cases hlt : k < n
    · have dlt : decide ((k : Int) < (n : Int)) = true := by simp; omega
      have hkd : k < d.length := by rw [← HN.out]; exact hlt
      obtain ⟨b, off, cap', e1, hc0⟩ := HB.out.at k hkd
      have ea : ao = some ⟨b, off, none⟩ := by simp at e1; exact e1.1
      subst ea
      have ik : (k : Int) < (n : Int) := by omega
      clear e1
      by_cases hy : d.getD k 0 = y
      · have HP2 : Hid ((k : Int) = P) := by
          have h1 := plc_first (d := d) (k := k) hkd (by rw [hy]; exact HT.out)
          rw [hy] at h1
          have h2 : y ∈ d := by rw [← hy]; exact getD_ofl hkd
          simp only [Hid]; rw [HP.out]; unfold plI; rw [if_pos h2, h1]
        have dq : (d.getD k 0 == y) = true := by simpa using hy
        generalize d.getD k 0 = x at *
        clear hy hkd HB
        go_wp2
        go_ret
        exact ⟨ret_int HP2.out, rfl⟩
      · have HT2 := hideIt (not_take_succ hkd HT.out hy)
        have dq : (d.getD k 0 == y) = false := by simpa using hy
        generalize d.getD k 0 = x at *
        clear hy hkd HB
        go_wp2
        go_roundw
        case rel => exact ⟨k + 1, by omega, by go_num, HT2, by trivial⟩
        case measure => simp [intOf]; omega
    · obtain rfl : k = n := by omega
      have dlt : decide ((k : Int) < (k : Int)) = false := by simp
      have HP2 : Hid (-1 = P) := by
        have h2 := HT.out
        rw [HN.out, List.take_length] at h2
        simp only [Hid]; rw [HP.out]; unfold plI; rw [if_neg h2]
      go_wp2
      go_ret
      exact ⟨ret_int HP2.out, rfl⟩

theorem rwid10_any (k : Nat) (w : World) (h : k ≤ 65536) :
    Calls Tryd.prog 43 #[.int .i64 k] w fun e w' => e = .returned (.int .i64 (wP k)) ∧ w = w' := by
  by_cases h0 : k = 0
  · subst h0
    go_enter Tryd.func43, Tryd.ntmps43
    go_wp2
    go_ret
    exact ⟨rfl, rfl⟩
  · obtain ⟨j, rfl⟩ : ∃ j, k = j + 1 := ⟨k - 1, by omega⟩
    have WA := hideIt (rwidth_any ((j : Nat) : Int) w (by omega) (by omega))
    have e1 : wP (j + 1) = wid j := by unfold wP; rw [if_neg (by omega)]; rfl
    rw [e1]
    have d0 : (((j + 1 : Nat) : Int) == 0) = false := by rw [beq_eq_false_iff_ne]; omega
    have e2 : ((j + 1 : Nat) : Int) - 1 = (j : Int) := by omega
    obtain ⟨K, hK⟩ : ∃ K : Int, K = ((j + 1 : Nat) : Int) := ⟨_, rfl⟩
    rw [← hK] at d0 e2 ⊢
    have k1 : K ≤ 65536 := by omega
    have k0 : 1 ≤ K := by omega
    clear hK h0 e1 h
    go_enter Tryd.func43, Tryd.ntmps43
    go_wp2_with fail
    refine WA.out.mono ?_
    rintro e w' ⟨rfl, rfl⟩
    clear WA
    go_wp2
    go_ret
    exact ⟨rfl, rfl⟩
end Go.Proofs.YtifbdjhbeanfaaaDoor

/- Contracts of the reference for varints: Append, Size, Zig, Zag, Read. -/
namespace Go.Proofs.YtifbdjhbeanfaaaDoor
open Go.RowKit

set_option maxHeartbeats 800000 in
set_option maxRecDepth 100000 in
theorem rappend_any (va : Value) (xs : List Int) (v : Int) (w : World) (ha : Bs .u8 w va xs) (na : NoCap va) (hl : xs.length ≤ 1000000000) (h0 : 0 ≤ v) (h1 : v ≤ 18446744073709551615) :
    Calls Tryd.prog 42 #[va, .int .u64 v] w fun e w' => ∃ v', e = .returned v' ∧ w'.ownsRow w.heap.size 5 1 v' (xs ++ gs v.toNat).length ((xs ++ gs v.toNat).map (Value.int .u8)) ∧ Only (fun _ => False) w w' := by
  obtain ⟨i0, hi, hz0, hz1, hz2⟩ := info_parts Tryd.infoU8
  have ho := World.ownsRow_made (base := w.heap.size) (e := 5) (size := 1) w #[] 0 (Nat.le_refl _) (by unfold maxLen; omega) rfl
  have H10 := hideIt (gs_le10 (v := v.toNat) (by omega))
  have HA := hideIt (ha.later ((Below.refl _ _).alloc (Nat.le_refl _) (.cells #[] 5)))
  have NA := hideIt na
  obtain ⟨aa, ca, rfl⟩ := ha.len
  obtain ⟨m, hm⟩ : ∃ m, m = xs.length := ⟨_, rfl⟩
  rw [← hm] at hl HA NA
  rw [← hm]
  have HM := hideIt hm
  clear ha na hm
  go_enter Tryd.func42, Tryd.ntmps42
  go_wp2_with (at_builtin; refine wpList_append_bs _ rfl _ _ _ rfl w.heap.size 5 i0 (.int .u8 0) 1 Tryd.underlying24 hi hz0 hz1 hz2 rfl _ 0 [] rfl ho .u8 _ xs rfl HA.out NA.out ?c3 ?c4 ?c5 ?_)
  case c3 => rw [← HM.out]; unfold maxLen; omega
  case c4 => rw [← HM.out]; omega
  case c5 => simp
  intro v' w1 hown1 hgrow _ _
  rw [← HM.out] at hown1
  have START : Hid (w1.ownsRow w.heap.size 5 1 v' m (xs.map (Value.int .u8)) ∧ Below w.heap.size w w1) := by
    refine ⟨hown1, ((Below.refl _ _).alloc (Nat.le_refl _) _).grown hgrow (by simp) (fun q hq => ?_)⟩
    simp [Value.ownBlock] at hq
    omega
  clear hown1 hgrow ho
  go_wp2
  go_loopw [1, 5] (fun a o wr => ∃ (x k : Nat) (p : List Int), a = .int .u64 x ∧ x < 18446744073709551616 ∧ p ++ gs x = gs v.toNat ∧ k = m + p.length ∧ wr.ownsRow w.heap.size 5 1 o k ((xs ++ p).map (Value.int .u8)) ∧ Below w.heap.size w wr) (fun a _ _ => (intOf a).toNat)
  case atStart => exact ⟨v.toNat, m, [], by rw [Int.toNat_of_nonneg h0], by omega, rfl, rfl, by rw [List.append_nil]; exact START.out.1, START.out.2⟩
  case round =>
    obtain ⟨x, k, p, rfl, hx, hp, hk, hown, hbel⟩ := hrel
    have hk9 : k ≤ m + 9 := by
      have h := congrArg List.length hp
      have := H10.out
      have := gs_pos x
      rw [List.length_append] at h
      omega
    have HP := hideIt hp
    have HK := hideIt hk
    have hsz := hbel.size
    clear hp hk START
    by_cases hlt : 127 < x
    · have hlt' : decide (0 < (x : Int) / 128) = true := by simp; omega
      obtain ⟨r, hr⟩ : ∃ r : Nat, r = x % 128 := ⟨_, rfl⟩
      have hr1 : r < 128 := by omega
      have hr2 : ((x : Int) % 128) = (r : Int) := by omega
      have HR := hideIt hr
      clear hr
      go_wp2_with (at_builtin; refine wpList_append_lies _ rfl _ _ _ rfl w.heap.size 5 i0 (.int .u8 0) 1 1 Tryd.underlying24 hi hz0 hz1 hz2 rfl (by omega) _ k ((xs ++ p).map (Value.int .u8)) rfl (hown.alloc _) ⟨wr.heap.size, 0, none⟩ 1 1 [.int .u8 ((r : Int) + 128)] rfl rfl ?c1 ?c2 (by omega) ?c3 ?c4 ?c5 (wr.heap.size + 1) (by simp) ?_)
      case c1 => exact cell_one_new _ _ _
      case c2 => intro u hu; simp at hu; subst hu; rfl
      case c3 => unfold maxLen; omega
      case c4 => omega
      case c5 => simp; omega
      intro g cap1 w1 hown1 hgrow hat hg1
      have hb1 : Below w.heap.size w w1 := (hbel.alloc hbel.size _).grown hgrow (by simp; omega) (fun q hq => (hown.lt q hq).1)
      have hown2 : w1.ownsRow w.heap.size 5 1 (.slice (some ⟨g, 0, none⟩) (k + 1) cap1) (k + 1) ((xs ++ (p ++ [(r : Int) + 128])).map (Value.int .u8)) := by
        rw [List.map_append, List.map_append]; exact hown1
      clear hown hown1 hgrow hat hbel
      go_wp2
      go_roundw
      case rel =>
        refine ⟨x / 128, k + 1, p ++ [(r : Int) + 128], by go_num, by omega, ?_, by rw [List.length_append, HK.out]; rfl, hown2, hb1⟩
        rw [← HP.out, gs_big (v := x) (by omega), ← HR.out]
        simp
      case measure => simp [intOf]; omega
    · have hlt' : decide (0 < (x : Int) / 128) = false := by simp; omega
      go_wp2_with (at_builtin; refine wpList_append_lies _ rfl _ _ _ rfl w.heap.size 5 i0 (.int .u8 0) 1 1 Tryd.underlying24 hi hz0 hz1 hz2 rfl (by omega) _ k ((xs ++ p).map (Value.int .u8)) rfl (hown.alloc _) ⟨wr.heap.size, 0, none⟩ 1 1 [.int .u8 (x : Int)] rfl rfl ?c1 ?c2 (by omega) ?c3 ?c4 ?c5 (wr.heap.size + 1) (by simp) ?_)
      case c1 => exact cell_one_new _ _ _
      case c2 => intro u hu; simp at hu; subst hu; rfl
      case c3 => unfold maxLen; omega
      case c4 => omega
      case c5 => simp; omega
      intro g cap1 w1 hown1 hgrow hat hg1
      have hb1 : Below w.heap.size w w1 := (hbel.alloc hbel.size _).grown hgrow (by simp; omega) (fun q hq => (hown.lt q hq).1)
      have hown2 : Hid (w1.ownsRow w.heap.size 5 1 (.slice (some ⟨g, 0, none⟩) (k + 1) cap1) (xs ++ gs v.toNat).length ((xs ++ gs v.toNat).map (Value.int .u8))) := by
        have e : (xs ++ gs v.toNat).length = k + 1 := by
          rw [← HP.out, gs_small (v := x) (by omega), List.length_append, List.length_append, ← HM.out, HK.out]; rfl
        rw [e, ← HP.out, gs_small (v := x) (by omega), List.map_append, List.map_append]; exact hown1
      have hb2 := hideIt hb1
      clear hown hown1 hgrow hat hbel hb1
      go_wp2
      go_ret
      exact ⟨_, rfl, hown2.out, only_of_below hb2.out⟩

theorem v_add_step (k acc : Nat) (c : Int) (hk : k ≤ 9) (hacc : acc < 128 ^ k) (c0 : 0 ≤ c) (c1 : c ≤ 255) (h9 : k = 9 → c ≤ 1) :
    IntKind.u64.wrap ((acc : Int) + IntKind.u64.wrap (c % 128 * 2 ^ (7 * k))) = ((acc + (c % 128).toNat * 128 ^ k : Nat) : Int) ∧ acc + (c % 128).toNat * 128 ^ k < 128 ^ (k + 1) := by
  obtain ⟨m, rfl⟩ := Int.eq_ofNat_of_zero_le c0
  have e : ((m : Int) % 128).toNat = m % 128 := by omega
  have e2 : ((m : Int) % 128) = ((m % 128 : Nat) : Int) := by omega
  rw [e, e2]
  have p1 : (2 : Nat) ^ (7 * k) = 128 ^ k := by rw [Nat.pow_mul]
  have w2 : ((m % 128 : Nat) : Int) * 2 ^ (7 * k) = ((m % 128 * 128 ^ k : Nat) : Int) := by
    rw [← p1]; simp
  have hlt : acc + m % 128 * 128 ^ k < 18446744073709551616 := by
    rcases Nat.lt_or_ge k 9 with h | h
    · have h1 : m % 128 * 128 ^ k ≤ 127 * 128 ^ k := Nat.mul_le_mul_right _ (by omega)
      have h2 : 128 ^ k ≤ 128 ^ 8 := Nat.pow_le_pow_right (by omega) (by omega)
      have h3 : (128 : Nat) ^ 8 = 72057594037927936 := by decide
      omega
    · have hk : k = 9 := by omega
      subst hk
      have := h9 rfl
      have h3 : (128 : Nat) ^ 9 = 9223372036854775808 := by decide
      have h1 : m % 128 * 128 ^ 9 ≤ 1 * 128 ^ 9 := Nat.mul_le_mul_right _ (by omega)
      omega
  have w3 : IntKind.u64.wrap ((m % 128 * 128 ^ k : Nat) : Int) = ((m % 128 * 128 ^ k : Nat) : Int) := by rw [IntKind.wrap_u64]; omega
  have w4 : IntKind.u64.wrap ((acc : Int) + ((m % 128 * 128 ^ k : Nat) : Int)) = ((acc + m % 128 * 128 ^ k : Nat) : Int) := by rw [IntKind.wrap_u64]; omega
  rw [w2, w3, w4]
  refine ⟨rfl, ?_⟩
  rw [Nat.pow_succ]
  have h1 : m % 128 * 128 ^ k ≤ 127 * 128 ^ k := Nat.mul_le_mul_right _ (by omega)
  omega

set_option maxHeartbeats 800000 in
set_option maxRecDepth 100000 in
theorem rread_bs (va : Value) (xs : List Int) (w : World) (ha : Bs .u8 w va xs) (hr : ∀ x ∈ xs, 0 ≤ x ∧ x ≤ 255) :
    Calls Tryd.prog 93 #[va] w fun e w' => e = .returned (rdVal (rd 0 0 xs)) ∧ w = w' := by
  have HA := hideIt ha
  have HR := hideIt hr
  obtain ⟨aa, ca, rfl⟩ := ha.len
  obtain ⟨n, hn⟩ : ∃ n, n = xs.length := ⟨_, rfl⟩
  rw [← hn] at HA
  rw [← hn]
  have HN := hideIt hn
  obtain ⟨R, hR⟩ : ∃ R, R = rd 0 0 xs := ⟨_, rfl⟩
  rw [← hR]
  have HRD := hideIt hR
  clear ha hr hn hR
  go_enter Tryd.func93, Tryd.ntmps93
  go_wp2
  go_loop [5, 6] (fun a i => ∃ (k : Nat) (acc : Nat), k ≤ n ∧ k ≤ 9 ∧ i = .int .i64 k ∧ a = .int .u64 acc ∧ acc < 128 ^ k ∧ rd k acc (xs.drop k) = R) (fun _ i => n - (intOf i).toNat)
  case atStart => exact ⟨0, 0, by omega, by omega, rfl, rfl, by simp, by simpa using HRD.out.symm⟩
  case round =>
    obtain ⟨k, acc, hk, hk9, rfl, rfl, hacc, hrd⟩ := hrel
    by_cases hlt : k < n
    · obtain ⟨b, off, cap', e1, hc⟩ := HA.out.at k (by rw [← HN.out]; exact hlt)
      have ea : aa = some ⟨b, off, none⟩ := by simp at e1; exact e1.1
      subst ea
      clear e1
      have hcr := HR.out (xs.getD k 0) (by rw [List.getD_eq_getElem?_getD, List.getElem?_eq_getElem (by rw [← HN.out]; exact hlt)]; simp)
      rw [rd_at xs k _ (by rw [← HN.out]; exact hlt)] at hrd
      generalize xs.getD k 0 = c at hc hcr hrd
      have HD := hideIt hrd
      have HACC := hideIt hacc
      clear hrd hacc
      have i0 : (0 : Int) ≤ (k : Int) := by omega
      have i1 : (k : Int) < (n : Int) := by omega
      by_cases hF : k = 9 ∧ 1 < c
      · obtain ⟨rfl, h1c⟩ := hF
        have hRR : R = (0, 0, 3) := by have := HD.out; rw [if_pos ⟨rfl, h1c⟩] at this; exact this.symm
        subst hRR
        go_wp2
        go_ret3
        exact ⟨rfl, rfl⟩
      · have OS := hideIt (v_add_step k acc c hk9 HACC.out hcr.1 hcr.2 (by omega))
        by_cases h128 : 128 ≤ c
        · have d9 : ((k : Int) == 9) = false := by simp; omega
          go_wp2
          go_round
          case rel =>
            refine ⟨k + 1, acc + (c % 128).toNat * 128 ^ k, by omega, by omega, by go_num, by rw [OS.out.1], OS.out.2, ?_⟩
            have := HD.out
            rw [if_neg hF, if_pos h128] at this
            rw [val_more k acc c]; exact this
          case measure => simp [intOf]; omega
        · have d128 : decide (c < 128) = true := by simp; omega
          by_cases h0 : c = 0 ∧ 0 < k
          · obtain ⟨rfl, hk0⟩ := h0
            have hRR : R = (0, 0, 3) := by have := HD.out; rw [if_neg hF, if_neg h128, if_pos ⟨rfl, hk0⟩] at this; exact this.symm
            subst hRR
            by_cases h9 : k = 9
            · subst h9
              go_wp2
              go_ret3
              exact ⟨rfl, rfl⟩
            · have d9 : ((k : Int) == 9) = false := by simp; omega
              have dk : decide (0 < (k : Int)) = true := by simp; omega
              go_wp2
              go_ret3
              exact ⟨rfl, rfl⟩
          · have hRR : R = (acc + c * 128 ^ k, (k : Int) + 1, 0) := by have := HD.out; rw [if_neg hF, if_neg h128, if_neg h0] at this; exact this.symm
            subst hRR
            have VS := hideIt (val_step k acc c hcr.1 (by omega))
            have O9 := hideIt (OS.out.1.trans VS.out)
            by_cases h9 : k = 9
            · subst h9
              have hc0 : (c == 0) = false := by simp; omega
              have hc1 : decide (1 < c) = false := by simp; omega
              go_wp2
              go_ret3
              refine ⟨ret_rd ?_ rfl rfl, rfl⟩
              have ha := HACC.out
              have h3 : (128 : Nat) ^ 9 = 9223372036854775808 := by decide
              have hc2 : c = 1 := by simp at hc0 hc1; omega
              rw [h3] at ha
              rw [IntKind.wrap_u64, hc2]
              simp only
              omega
            · have d9 : ((k : Int) == 9) = false := by simp; omega
              by_cases hc0 : c = 0
              · have dk : decide (0 < (k : Int)) = false := by simp; omega
                subst hc0
                go_wp2
                go_ret3
                refine ⟨ret_rd ?_ rfl rfl, rfl⟩
                have := O9.out
                rw [show (0 : Int) % 128 * 2 ^ (7 * k) = 0 by simp, show IntKind.u64.wrap 0 = 0 from rfl, Int.add_zero] at this
                simpa using this
              · have dc : (c == 0) = false := by simp; omega
                go_wp2
                all_goals go_ret3
                all_goals exact ⟨ret_rd O9.out rfl rfl, rfl⟩
    · have hkn : k = n := by omega
      subst hkn
      have hRR : R = (0, 0, 2) := by rw [← hrd, List.drop_of_length_le (by rw [← HN.out]; omega)]; rfl
      subst hRR
      clear hrd hacc
      go_wp2
      go_ret3
      exact ⟨rfl, rfl⟩
theorem rread_as (va : Value) (xs : List Int) (w : World) {a b c : Int} (h : rd 0 0 xs = (a, b, c)) (ha : Bs .u8 w va xs) (hr : ∀ x ∈ xs, 0 ≤ x ∧ x ≤ 255) :
    Calls Tryd.prog 93 #[va] w fun e w' => e = .returned (.tuple #[.int .u64 a, .int .i64 b, .int .i64 c]) ∧ w = w' := by
  have := rread_bs va xs w ha hr
  rw [h] at this
  exact this
end Go.Proofs.YtifbdjhbeanfaaaDoor

/- Contracts of the reference for cursors: Byte, Bytes, Fixed, Varint, Block, Fix, Blocked. -/
namespace Go.Proofs.YtifbdjhbeanfaaaDoor
open Go.RowKit

theorem getD_mem (l : List Int) (k : Nat) (h : k < l.length) : l.getD k 0 ∈ l := by
  rw [List.getD_eq_getElem?_getD, List.getElem?_eq_getElem h]; simp
/-- a slice from n on, as the walk leaves it -/
theorem Bs.rest {k : IntKind} {w : World} {ao : Option Addr} {m cap n : Nat} {xs : List Int} (h : Bs k w (.slice ao m cap) xs) (hn : n ≤ m) : Bs k w (.slice (if cap = n then ao else ao.map (fun x => x.add n)) (m - n) (cap - n)) (xs.drop n) := by
  split
  · rename_i hc
    subst hc
    rw [Nat.sub_self]
    exact h.cut0 hn
  · exact h.cut hn
theorem NoCap.rest {ao : Option Addr} {m cap n m' : Nat} (h : NoCap (.slice ao m cap)) : NoCap (.slice (if cap = n then ao else ao.map (fun x => x.add n)) m' (cap - n)) := by
  cases ao with
  | none =>
    have := h m cap rfl
    subst this
    intro a b e
    simp at e
    omega
  | some x =>
    split
    · exact NoCap.some _ _ _
    · exact NoCap.some _ _ _

/-- append(s, x...): s a row of the call's own, x any slice of numbers, the nil one among them: as one step -/
theorem wp_append_bs {P : Program} {w : World} {o : Oper} {a : Act} {K : Act → World → Prop} {Q : Exit → Act → World → Prop} (s x : Operand) (t : TypeId)
    (ho : o.op = .call { callee := .builtin .append, args := #[s, x], argTypes := #[t, t] })
    (base : Nat) (e : TypeId) (i : TypeInfo) (z : Value) (bytes : Nat) (ht : P.underlying t = some (.slice e)) (hi : P.info? e = some i) (hz : i.zero = some z)
    (hsize : i.size = 1) (hby : i.bytes = bytes) (hzs : z.cells.size = 1)
    (v : Value) (n : Nat) (xs : List Value) (hs : a.eval s = v) (hown : w.ownsRow base e 1 v n xs)
    (k : IntKind) (u : Value) (ys : List Int) (hx : a.eval x = u) (hb : Bs k w u ys) (hnc : NoCap u)
    (h63 : n + ys.length ≤ maxLen) (hbytes : (n + ys.length) * bytes ≤ 140737488355328) (hbase : base ≤ w.heap.size)
    (h : ∀ v' w', w'.ownsRow base e 1 v' (n + ys.length) (xs ++ ys.map (Value.int k)) → w.grownBy w' v.ownBlock → K (a.put o.dst v') w') :
    Oper.wp P o a w K Q := by
  obtain ⟨ao, cap, rfl⟩ := hb.len
  cases ao with
  | none =>
    have h0 : ys = [] := by
      obtain ⟨ao', cap', e1, _, hr⟩ := hb
      rcases ys with _ | ⟨y, ys⟩
      · rfl
      · obtain ⟨b, off, e2, _⟩ := hr (by simp)
        simp at e1
        rw [← e1.1] at e2; cases e2
    subst h0
    have hc : cap = 0 := hnc _ _ rfl
    subst hc
    have hrun := run_append_owned_none (P := P) (w := w) base t o.type e i 1 ht hi v n xs hown
    have hK := h v w (by simpa using hown) (World.grownBy.refl _ _)
    unfold Oper.wp
    simp [execOp, ho, resolve, invoke, builtin, hs, hx, hrun, Result.andThen]
    exact hK
  | some ad =>
    obtain ⟨v', w', hrun, r1, r2, _⟩ := run_append_own_at (P := P) w base t o.type e i z 1 bytes ht hi hz hsize hby hzs (by omega) v n xs hown ad ys.length cap (ys.map (Value.int k)) (by simp) hb.news (oneCell_ints _ _) h63 hbytes hbase
    unfold Oper.wp
    simp [execOp, ho, resolve, invoke, builtin, hs, hx, hrun, Result.andThen]
    exact h v' w' r1 r2
/-- .. in a region that draws -/
theorem step_append_bs {P : Program} {w : World} {ops : Array Oper} {o : Oper} {a : Act} {K : Act → World → Prop} {Q : Exit → Act → World → Prop} {E : Prop} (hgd : o.guard = none) (s x : Operand) (t : TypeId)
    (ho : o.op = .call { callee := .builtin .append, args := #[s, x], argTypes := #[t, t] })
    (base : Nat) (e : TypeId) (i : TypeInfo) (z : Value) (bytes : Nat) (ht : P.underlying t = some (.slice e)) (hi : P.info? e = some i) (hz : i.zero = some z)
    (hsize : i.size = 1) (hby : i.bytes = bytes) (hzs : z.cells.size = 1)
    (v : Value) (n : Nat) (xs : List Value) (hs : a.eval s = v) (hown : w.ownsRow base e 1 v n xs)
    (k : IntKind) (u : Value) (ys : List Int) (hx : a.eval x = u) (hb : Bs k w u ys) (hnc : NoCap u)
    (h63 : n + ys.length ≤ maxLen) (hbytes : (n + ys.length) * bytes ≤ 140737488355328) (hbase : base ≤ w.heap.size)
    (h : ∀ v' w', w'.ownsRow base e 1 v' (n + ys.length) (xs ++ ys.map (Value.int k)) → w.grownBy w' v.ownBlock → K (a.put o.dst v') w') :
    if Region.wanted o (yielded ops a.tmps) = true then Oper.wp P o a w K Q else E := by
  have hw : Region.wanted o (yielded ops a.tmps) = true := by simp [Region.wanted, hgd]
  rw [if_pos hw]
  exact wp_append_bs s x t ho base e i z bytes ht hi hz hsize hby hzs v n xs hs hown k u ys hx hb hnc h63 hbytes hbase h
/-- .. where it is asked for behind an 'and' or an 'or' -/
theorem wpList_append_bsW {P : Program} (w : World) {ops : Array Oper} {rest : List Oper} {o : Oper} {a : Act} {Q : Exit → Act → World → Prop} (hw : Region.wanted o (yielded ops a.tmps) = true) (s x : Operand) (t : TypeId)
    (ho : o.op = .call { callee := .builtin .append, args := #[s, x], argTypes := #[t, t] })
    (base : Nat) (e : TypeId) (i : TypeInfo) (z : Value) (bytes : Nat) (ht : P.underlying t = some (.slice e)) (hi : P.info? e = some i) (hz : i.zero = some z)
    (hsize : i.size = 1) (hby : i.bytes = bytes) (hzs : z.cells.size = 1)
    (v : Value) (n : Nat) (xs : List Value) (hs : a.eval s = v) (hown : w.ownsRow base e 1 v n xs)
    (k : IntKind) (u : Value) (ys : List Int) (hx : a.eval x = u) (hb : Bs k w u ys) (hnc : NoCap u)
    (h63 : n + ys.length ≤ maxLen) (hbytes : (n + ys.length) * bytes ≤ 140737488355328) (hbase : base ≤ w.heap.size)
    (h : ∀ v' w', w'.ownsRow base e 1 v' (n + ys.length) (xs ++ ys.map (Value.int k)) → w.grownBy w' v.ownBlock → wpList P ops Q rest (a.put o.dst v') w') :
    wpList P ops Q (o :: rest) a w := by
  refine wpList_step fun K hK => ?_
  rw [if_pos hw]
  exact wp_append_bs s x t ho base e i z bytes ht hi hz hsize hby hzs v n xs hs hown k u ys hx hb hnc h63 hbytes hbase (fun v' w' h1 h2 => hK _ _ (h v' w' h1 h2))

set_option maxHeartbeats 400000 in
set_option maxRecDepth 100000 in
theorem rbytes_at (ao : Option Addr) (m cap : Nat) (ys : List Int) (w : World) (h : Bs .u8 w (.slice ao m cap) ys) (nc : NoCap (.slice ao m cap)) (hm : m ≤ 1000000000000) (n : Int) {a : List Int} {k : Nat} {c : Int} (hs : sBytes n ys = (a, k, c)) :
    Calls Tryd.prog 84 #[.slice ao m cap, .int .i64 n] w fun e w' => ∃ v1 ao' m' cap', e = .returned (.tuple #[v1, .slice ao' m' cap', .int .i64 c]) ∧ Bs .u8 w' v1 a ∧ Bs .u8 w' (.slice ao' m' cap') (ys.drop k) ∧ NoCap (.slice ao' m' cap') ∧ Only (fun _ => False) w w' ∧ (Value.slice ao' m' cap').ownBlock = (Value.slice ao m cap).ownBlock := by
  have HL := hideIt h.length
  by_cases h0 : n < 0
  · have hs2 : sBytes n ys = ([], 0, 1) := if_pos h0
    rw [hs2] at hs
    simp only [Prod.mk.injEq] at hs
    obtain ⟨rfl, rfl, rfl⟩ := hs
    have H := hideIt (And.intro h nc)
    clear h nc
    go_enter Tryd.func84, Tryd.ntmps84
    go_wp2
    go_ret3
    exact ⟨.slice none 0 0, _, _, _, rfl, Bs.nil _ _, H.out.1, H.out.2, Only.refl _ _, rfl⟩
  have d0 : decide (n < 0) = false := decide_eq_false h0
  obtain ⟨n, rfl⟩ := Int.eq_ofNat_of_zero_le (Int.not_lt.1 h0)
  by_cases h1 : (m : Int) < (n : Int)
  · have hs2 : sBytes n ys = ([], 0, 2) := by
      simp only [sBytes]
      rw [if_neg h0, if_pos (by have := HL.out; omega)]
    rw [hs2] at hs
    simp only [Prod.mk.injEq] at hs
    obtain ⟨rfl, rfl, rfl⟩ := hs
    have H := hideIt (And.intro h nc)
    clear h nc
    go_enter Tryd.func84, Tryd.ntmps84
    go_wp2
    go_ret3
    exact ⟨.slice none 0 0, _, _, _, rfl, Bs.nil _ _, H.out.1, H.out.2, Only.refl _ _, rfl⟩
  · have hs2 : sBytes n ys = (ys.take n, n, 0) := by
      simp only [sBytes]
      rw [if_neg h0, if_neg (by have := HL.out; omega)]
      rfl
    rw [hs2] at hs
    simp only [Prod.mk.injEq] at hs
    obtain ⟨rfl, rfl, rfl⟩ := hs
    have d1 : decide ((m : Int) < (n : Int)) = false := decide_eq_false h1
    obtain ⟨i0, hi, hz0, hz1, hz2⟩ := info_parts Tryd.infoU8
    have ho := World.ownsRow_made (base := w.heap.size) (e := 5) (size := 1) w.drew #[] 0 (Nat.le_refl _) (by unfold maxLen; omega) rfl
    have hc : m ≤ cap := by
      obtain ⟨ao', cap', e, hcap, _⟩ := h
      simp at e
      omega
    have j0 : (0 : Int) ≤ (n : Int) := by omega
    have j1 : (n : Int) ≤ (m : Int) := by omega
    have j2 : (n : Int) ≤ (cap : Int) := by omega
    have oa : Only (fun _ => False) w (w.drew.alloc (.cells #[] 5)) := ((Only.refl _ _).drew).alloc _
    have nh : NoCap (.slice ao n cap) := by
      intro a b e
      cases e
      exact nc m cap rfl
    have HA := hideIt (And.intro ((h.head (n := n) (by omega)).keep oa (fun _ _ f => f)) nh)
    have HO := hideIt ho
    have hlt : (ys.take n).length = n := by rw [List.length_take]; have := HL.out; omega
    have HLT := hideIt hlt
    have FIN : ∀ v' w1, w1.ownsRow w.heap.size 5 1 v' (0 + (ys.take n).length) ([] ++ (ys.take n).map (Value.int .u8)) → (w.alloc (Obj.cells #[] 5)).drew.grownBy w1 (Value.slice (some ⟨w.heap.size, 0, none⟩) 0 0).ownBlock →
        Bs .u8 w1 v' (ys.take n) ∧ Only (fun _ => False) w w1 := by
      intro v' w1 hown hgrow
      rw [Nat.zero_add, List.nil_append] at hown
      refine ⟨Bs.of_own hown, oa.grown hgrow (fun k hk e => ?_)⟩
      simp [Value.ownBlock] at e
      omega
    have FN := hideIt FIN
    have HH := hideIt (And.intro h nc)
    clear h nc ho nh oa hlt FIN
    by_cases hcn : cap = n
    · subst hcn
      have H := hideIt (And.intro (HH.out.1.cut0 (n := cap) (by omega)) (HH.out.2.rest (n := cap) (m' := m - cap)))
      rw [if_pos rfl, Nat.sub_self] at H
      clear HH hc
      go_enter Tryd.func84, Tryd.ntmps84
      go_wp2
      go_region_law (refine step_append_bs rfl (.tmp 15) (.tmp 18) 24 rfl w.heap.size 5 i0 (.int .u8 0) 1 Tryd.underlying24 hi hz0 hz1 hz2 rfl (.slice (some ⟨w.heap.size, 0, none⟩) 0 0) 0 [] rfl HO.out .u8 _ (ys.take cap) rfl HA.out.1 HA.out.2 (by rw [HLT.out]; unfold maxLen; omega) (by rw [HLT.out]; omega) (by simp) ?_; intro v' w1 hown hgrow)
      have F := hideIt (FN.out v' w1 hown hgrow)
      clear hown hgrow FN HO HA
      go_wp2
      go_ret3
      obtain ⟨f1, f2⟩ := F.out
      exact ⟨v', _, _, _, rfl, f1, H.out.1.keep f2 (fun _ _ f => f), H.out.2, f2, own_any _ _ _ _ _⟩
    · have H := hideIt (And.intro (HH.out.1.cut (n := n) (by omega)) (HH.out.2.rest (n := n) (m' := m - n)))
      rw [if_neg hcn] at H
      clear HH
      go_enter Tryd.func84, Tryd.ntmps84
      go_wp2
      go_region_law (refine step_append_bs rfl (.tmp 15) (.tmp 18) 24 rfl w.heap.size 5 i0 (.int .u8 0) 1 Tryd.underlying24 hi hz0 hz1 hz2 rfl (.slice (some ⟨w.heap.size, 0, none⟩) 0 0) 0 [] rfl HO.out .u8 _ (ys.take n) rfl HA.out.1 HA.out.2 (by rw [HLT.out]; unfold maxLen; omega) (by rw [HLT.out]; omega) (by simp) ?_; intro v' w1 hown hgrow)
      have F := hideIt (FN.out v' w1 hown hgrow)
      clear hown hgrow FN HO HA
      go_wp2
      go_ret3
      obtain ⟨f1, f2⟩ := F.out
      exact ⟨v', _, _, _, rfl, f1, H.out.1.keep f2 (fun _ _ f => f), H.out.2, f2, own_cut _ _ _ _ _ _⟩
theorem rbytes_bs (ao : Option Addr) (m cap : Nat) (ys : List Int) (w : World) (h : Bs .u8 w (.slice ao m cap) ys) (nc : NoCap (.slice ao m cap)) (hm : m ≤ 1000000000000) (n : Int) {a : List Int} {k : Nat} {c : Int} (hs : sBytes n ys = (a, k, c)) :
    Calls Tryd.prog 84 #[.slice ao m cap, .int .i64 n] w fun e w' => ∃ v1 ao' m' cap', e = .returned (.tuple #[v1, .slice ao' m' cap', .int .i64 c]) ∧ Bs .u8 w' v1 a ∧ Bs .u8 w' (.slice ao' m' cap') (ys.drop k) ∧ NoCap (.slice ao' m' cap') ∧ Only (fun _ => False) w w' :=
  (rbytes_at ao m cap ys w h nc hm n hs).mono fun _ _ ⟨v1, ao', m', cap', e, b1, b2, n1, o, _⟩ => ⟨v1, ao', m', cap', e, b1, b2, n1, o⟩
end Go.Proofs.YtifbdjhbeanfaaaDoor

/- Contracts of the reference for cursors: Fixed, Varint, Block, Fix, Blocked. -/
namespace Go.Proofs.YtifbdjhbeanfaaaDoor
open Go.RowKit

theorem sVarint_rd (ys : List Int) (hr : ∀ y ∈ ys, 0 ≤ y ∧ y ≤ 255) {a : Int} {k : Nat} {c : Int} (hs : sVarint ys = (a, k, c)) : rd 0 0 ys = (a, (k : Int), c) ∧ k ≤ ys.length := by
  rcases rd_cases ys hr with ⟨c', h, hc⟩ | ⟨a', k', h, h1, h2, _, h4, _⟩
  · rw [sVarint, h] at hs
    simp only [Prod.mk.injEq] at hs
    obtain ⟨rfl, rfl, rfl⟩ := hs
    exact ⟨h, by simp⟩
  · rw [sVarint, h] at hs
    simp only [Prod.mk.injEq, Int.toNat_natCast] at hs
    obtain ⟨rfl, rfl, rfl⟩ := hs
    exact ⟨h, h2⟩
theorem num_add (zs : List Int) (k : Nat) (hr : ∀ y ∈ zs, 0 ≤ y ∧ y ≤ 255) (h8 : zs.length ≤ 8) (h : k < zs.length) :
    (num (zs.take k) : Int) < 72057594037927936 ∧ (num (zs.take k) : Int) * 256 + zs.getD k 0 = (num (zs.take (k + 1)) : Int) := by
  have hl := num_lt (zs.take k) (fun y hy => hr y (List.mem_of_mem_take hy))
  rw [List.length_take, Nat.min_eq_left (by omega)] at hl
  have hp := pow256 (k := k) (by omega)
  have hy := hr (zs.getD k 0) (getD_mem zs k h)
  rw [take_snoc zs k h, num_snoc]
  refine ⟨by omega, ?_⟩
  generalize zs.getD k 0 = y at hy
  omega

set_option maxHeartbeats 400000 in
set_option maxRecDepth 100000 in
theorem rvarint_bs (ao : Option Addr) (m cap : Nat) (ys : List Int) (w : World) (h : Bs .u8 w (.slice ao m cap) ys) (nc : NoCap (.slice ao m cap)) (hr : ∀ y ∈ ys, 0 ≤ y ∧ y ≤ 255) {a : Int} {k : Nat} {c : Int} (hs : sVarint ys = (a, k, c)) :
    Calls Tryd.prog 80 #[.slice ao m cap] w fun e w' => ∃ ao' m' cap', e = .returned (.tuple #[.int .u64 a, .slice ao' m' cap', .int .i64 c]) ∧ Bs .u8 w' (.slice ao' m' cap') (ys.drop k) ∧ NoCap (.slice ao' m' cap') ∧ Only (fun _ => False) w w' := by
  obtain ⟨hrd, hk⟩ := sVarint_rd ys hr hs
  have hl := h.length
  have A := hideIt (rread_as _ ys w hrd h hr)
  have hc : m ≤ cap := by
    obtain ⟨ao', cap', e, hcap, _⟩ := h
    simp at e
    omega
  have j0 : (0 : Int) ≤ (k : Int) := by omega
  have j1 : (k : Int) ≤ (m : Int) := by omega
  have j2 : (k : Int) ≤ (cap : Int) := by omega
  have HH := hideIt (And.intro h nc)
  clear h nc hrd hs hk hl
  by_cases hcn : cap = k
  · subst hcn
    have H := hideIt (And.intro (HH.out.1.cut0 (n := cap) (by omega)) (HH.out.2.rest (n := cap) (m' := m - cap)))
    rw [if_pos rfl, Nat.sub_self] at H
    clear HH hc
    go_enter Tryd.func80, Tryd.ntmps80
    go_wp2_with fail
    refine A.out.mono ?_
    rintro e w1 ⟨rfl, rfl⟩
    go_wp2
    go_quiet (fail)
    go_wp2
    go_ret3
    exact ⟨_, _, _, rfl, H.out.1.keep ((Only.refl _ _).drewN nq) (fun _ _ f => f), H.out.2, (Only.refl _ _).drewN nq⟩
  · have H := hideIt (And.intro (HH.out.1.cut (n := k) (by omega)) (HH.out.2.rest (n := k) (m' := m - k)))
    rw [if_neg hcn] at H
    clear HH
    go_enter Tryd.func80, Tryd.ntmps80
    go_wp2_with fail
    refine A.out.mono ?_
    rintro e w1 ⟨rfl, rfl⟩
    go_wp2
    go_quiet (fail)
    go_wp2
    go_ret3
    exact ⟨_, _, _, rfl, H.out.1.keep ((Only.refl _ _).drewN nq) (fun _ _ f => f), H.out.2, (Only.refl _ _).drewN nq⟩

set_option maxHeartbeats 800000 in
set_option maxRecDepth 100000 in
theorem rfixed_at (ao : Option Addr) (m cap : Nat) (ys : List Int) (w : World) (h : Bs .u8 w (.slice ao m cap) ys) (nc : NoCap (.slice ao m cap)) (hr : ∀ y ∈ ys, 0 ≤ y ∧ y ≤ 255) (hm : m ≤ 1000000000000) (n : Int) {a : Int} {k : Nat} {c : Int} (hs : sFixed n ys = (a, k, c)) :
    Calls Tryd.prog 62 #[.slice ao m cap, .int .i64 n] w fun e w' => ∃ ao' m' cap', e = .returned (.tuple #[.int .u64 a, .slice ao' m' cap', .int .i64 c]) ∧ Bs .u8 w' (.slice ao' m' cap') (ys.drop k) ∧ NoCap (.slice ao' m' cap') ∧ Only (fun _ => False) w w' ∧ (Value.slice ao' m' cap').ownBlock = (Value.slice ao m cap).ownBlock := by
  by_cases h0 : n < 0 ∨ 8 < n
  · have hs2 : sFixed n ys = (0, 0, 1) := if_pos h0
    rw [hs2] at hs
    simp only [Prod.mk.injEq] at hs
    obtain ⟨rfl, rfl, rfl⟩ := hs
    have H := hideIt (And.intro h nc)
    clear h nc
    by_cases h1 : n < 0
    · clear h0
      go_enter Tryd.func62, Tryd.ntmps62
      go_wp2
      go_ret3
      exact ⟨_, _, _, rfl, H.out.1, H.out.2, Only.refl _ _, rfl⟩
    · have h8 : 8 < n := by omega
      have d0 : decide (n < 0) = false := decide_eq_false h1
      clear h0
      go_enter Tryd.func62, Tryd.ntmps62
      go_wp2
      go_ret3
      exact ⟨_, _, _, rfl, H.out.1, H.out.2, Only.refl _ _, rfl⟩
  have d0 : decide (n < 0) = false := decide_eq_false (by omega)
  have d8 : decide (8 < n) = false := decide_eq_false (by omega)
  obtain ⟨zs, k', c', hb⟩ : ∃ zs k' c', sBytes n ys = (zs, k', c') := ⟨_, _, _, rfl⟩
  have A := hideIt (rbytes_at ao m cap ys w h nc hm n hb)
  have HE : k = k' ∧ c = c' ∧ a = (num zs : Int) ∧ zs.length ≤ 8 ∧ (∀ y ∈ zs, 0 ≤ y ∧ y ≤ 255) := by
    by_cases h1 : (ys.length : Int) < n
    · have e1 : sFixed n ys = (0, 0, 2) := by
        simp only [sFixed]
        rw [if_neg h0, if_pos h1]
      have e2 : sBytes n ys = ([], 0, 2) := by
        simp only [sBytes]
        rw [if_neg (by omega), if_pos h1]
      rw [e1] at hs
      rw [e2] at hb
      simp only [Prod.mk.injEq] at hs hb
      obtain ⟨rfl, rfl, rfl⟩ := hs
      obtain ⟨rfl, rfl, rfl⟩ := hb
      exact ⟨rfl, rfl, rfl, by simp, by simp⟩
    · have e1 : sFixed n ys = ((num (ys.take n.toNat) : Int), n.toNat, 0) := by
        simp only [sFixed]
        rw [if_neg h0, if_neg h1]
      have e2 : sBytes n ys = (ys.take n.toNat, n.toNat, 0) := by
        simp only [sBytes]
        rw [if_neg (by omega), if_neg h1]
      rw [e1] at hs
      rw [e2] at hb
      simp only [Prod.mk.injEq] at hs hb
      obtain ⟨rfl, rfl, rfl⟩ := hs
      obtain ⟨rfl, rfl, rfl⟩ := hb
      exact ⟨rfl, rfl, rfl, by rw [List.length_take]; omega, fun y hy => hr y (List.mem_of_mem_take hy)⟩
  obtain ⟨rfl, rfl, rfl, hz8, hzr⟩ := HE
  have HZ := hideIt (And.intro hz8 hzr)
  clear h nc hs hb hz8 hzr hr
  go_enter Tryd.func62, Tryd.ntmps62
  go_wp2_with fail
  refine A.out.mono ?_
  rintro e w1 ⟨v1, ao', m', cap', rfl, hb, hres⟩
  have HB := hideIt hb
  obtain ⟨ao1, cap1, rfl⟩ := hb.len
  have HR := hideIt hres
  obtain ⟨p, hp⟩ : ∃ p, p = zs.length := ⟨_, rfl⟩
  rw [← hp] at HB
  rw [← hp]
  have HP := hideIt hp
  clear hb hres hp A
  have hp8 : p ≤ 8 := by rw [HP.out]; exact HZ.out.1
  go_wp2
  go_loop [10, 11] (fun a i => ∃ q : Nat, q ≤ p ∧ i = .int .i64 q ∧ a = .int .u64 (num (zs.take q))) (fun _ i => p - (intOf i).toNat)
  case atStart => exact ⟨0, Nat.zero_le _, rfl, rfl⟩
  case round =>
    obtain ⟨q, hq, rfl, rfl⟩ := hrel
    by_cases hlt : q < p
    · obtain ⟨b, off, cap', e1, hx⟩ := HB.out.at q (by rw [← HP.out]; exact hlt)
      have ea : ao1 = some ⟨b, off, none⟩ := by simp at e1; exact e1.1
      subst ea
      clear e1
      obtain ⟨ha, hst⟩ := num_add zs q HZ.out.2 HZ.out.1 (by rw [← HP.out]; exact hlt)
      have hy := HZ.out.2 (zs.getD q 0) (getD_mem zs q (by rw [← HP.out]; exact hlt))
      generalize zs.getD q 0 = y at hx hst hy
      have i0 : (0 : Int) ≤ (q : Int) := by omega
      have i1 : (q : Int) < (p : Int) := by omega
      have HST := hideIt hst
      generalize num (zs.take q) = t at HST ha
      clear hst
      go_wp2
      go_round
      case rel => exact ⟨q + 1, by omega, by go_num, by rw [← HST.out]⟩
      case measure => simp [intOf]; omega
    · have hqn : q = p := by omega
      subst hqn
      have HT : Hid (zs.take q = zs) := List.take_of_length_le (by rw [← HP.out]; omega)
      rw [HT.out]
      go_wp2
      go_ret3
      exact ⟨_, _, _, rfl, HR.out⟩
theorem rfixed_bs (ao : Option Addr) (m cap : Nat) (ys : List Int) (w : World) (h : Bs .u8 w (.slice ao m cap) ys) (nc : NoCap (.slice ao m cap)) (hr : ∀ y ∈ ys, 0 ≤ y ∧ y ≤ 255) (hm : m ≤ 1000000000000) (n : Int) {a : Int} {k : Nat} {c : Int} (hs : sFixed n ys = (a, k, c)) :
    Calls Tryd.prog 62 #[.slice ao m cap, .int .i64 n] w fun e w' => ∃ ao' m' cap', e = .returned (.tuple #[.int .u64 a, .slice ao' m' cap', .int .i64 c]) ∧ Bs .u8 w' (.slice ao' m' cap') (ys.drop k) ∧ NoCap (.slice ao' m' cap') ∧ Only (fun _ => False) w w' :=
  (rfixed_at ao m cap ys w h nc hr hm n hs).mono fun _ _ ⟨ao', m', cap', e, b1, n1, o, _⟩ => ⟨ao', m', cap', e, b1, n1, o⟩

set_option maxHeartbeats 400000 in
set_option maxRecDepth 100000 in
theorem rfix_none (v n : Int) (w : World) (h : n < 0 ∨ 8 < n) : Calls Tryd.prog 23 #[.int .u64 v, .int .i64 n] w fun e w' => e = .returned (.slice none 0 0) ∧ w = w' := by
  by_cases h0 : n < 0
  · clear h
    go_enter Tryd.func23, Tryd.ntmps23
    go_wp2
    go_ret
    exact ⟨rfl, rfl⟩
  · have h8 : 8 < n := by omega
    have d0 : decide (n < 0) = false := decide_eq_false h0
    clear h
    go_enter Tryd.func23, Tryd.ntmps23
    go_wp2
    go_ret
    exact ⟨rfl, rfl⟩

theorem fixL_take (v : Int) (n k : Nat) (h : k < n) : (fixL v n).take (k + 1) = (fixL v n).take k ++ [fixB v (n - 1 - k)] := by
  rw [take_snoc (fixL v n) k (by rw [fixL_len]; exact h)]
  congr 2
  rw [List.getD_eq_getElem?_getD]
  simp [fixL, h]

set_option maxHeartbeats 400000 in
set_option maxRecDepth 100000 in
theorem rfix_any (v : Int) (n : Nat) (w : World) (h : n ≤ 8) :
    Calls Tryd.prog 23 #[.int .u64 v, .int .i64 n] w fun e w' => ∃ u, e = .returned u ∧ w'.ownsRow w.heap.size 5 1 u (fixL v n).length ((fixL v n).map (Value.int .u8)) ∧ Only (fun _ => False) w w' := by
  obtain ⟨i0, hi, hz0, hz1, hz2⟩ := info_parts Tryd.infoU8
  have d0 : decide ((n : Int) < 0) = false := by simp
  have d8 : decide (8 < (n : Int)) = false := decide_eq_false (by omega)
  go_enter Tryd.func23, Tryd.ntmps23
  go_wp2
  go_loopw [5, 6] (fun o i wr => ∃ k : Nat, k ≤ n ∧ i = .int .i64 ((n : Int) - 1 - k) ∧ wr.ownsRow w.heap.size 5 1 o k (((fixL v n).map (Value.int .u8)).take k) ∧ Below w.heap.size w wr) (fun _ i _ => (intOf i + 1).toNat)
  case atStart => exact ⟨0, Nat.zero_le _, by go_num, World.ownsRow_nil _ _ _ _, Below.refl _ _⟩
  case round =>
    obtain ⟨k, hk, rfl, hown, hbel⟩ := hrel
    have hsz := hbel.size
    by_cases hlt : k < n
    · have dk : decide (0 ≤ (n : Int) - 1 - (k : Int)) = true := decide_eq_true (by omega)
      obtain ⟨j, hj⟩ : ∃ j : Nat, j = n - 1 - k := ⟨_, rfl⟩
      have ej : ((n : Int) - 1 - k) = (j : Int) := by omega
      have HJ := hideIt hj
      rw [ej] at dk
      rw [ej]
      have hj7 : j ≤ 7 := by omega
      clear hj ej hk
      go_wp2_with (at_builtin; refine wpList_append_lies _ rfl _ _ _ rfl w.heap.size 5 i0 (.int .u8 0) 1 1 Tryd.underlying24 hi hz0 hz1 hz2 rfl (by omega) _ k (((fixL v n).map (Value.int .u8)).take k) rfl (hown.alloc _) ⟨wr.heap.size, 0, none⟩ 1 1 [.int .u8 (v / 2 ^ (8 * j) % 256)] rfl rfl ?c1 ?c2 (by omega) ?c3 ?c4 ?c5 (wr.heap.size + 1) (by simp) ?_)
      case c1 => exact cell_one_new _ _ _
      case c2 => intro u hu; simp at hu; subst hu; rfl
      case c3 => unfold maxLen; omega
      case c4 => omega
      case c5 => simp; omega
      intro g cap1 w1 hown1 hgrow hat hg1
      have hb1 : Below w.heap.size w w1 := (hbel.alloc hbel.size _).grown hgrow (by simp; omega) (fun q hq => (hown.lt q hq).1)
      have hown2 : w1.ownsRow w.heap.size 5 1 (.slice (some ⟨g, 0, none⟩) (k + 1) cap1) (k + 1) (((fixL v n).map (Value.int .u8)).take (k + 1)) := by
        rw [← List.map_take, fixL_take v n k hlt, ← HJ.out, List.map_append, List.map_take]; exact hown1
      clear hown hown1 hgrow hat hbel
      go_wp2
      go_roundw
      case rel => exact ⟨k + 1, by omega, by have := HJ.out; go_num, hown2, hb1⟩
      case measure => have := HJ.out; simp [intOf]
    · have hkn : k = n := by omega
      subst hkn
      have dk : decide (0 ≤ (k : Int) - 1 - (k : Int)) = false := decide_eq_false (by omega)
      have F : Hid (wr.ownsRow w.heap.size 5 1 u5 (fixL v k).length ((fixL v k).map (Value.int .u8)) ∧ Only (fun _ => False) w wr) := by
        rw [List.take_of_length_le (by rw [List.length_map, fixL_len]; omega)] at hown
        rw [fixL_len]
        exact ⟨hown, only_of_below hbel⟩
      clear hown hbel
      go_wp2
      go_ret
      exact ⟨_, rfl, F.out⟩

end Go.Proofs.YtifbdjhbeanfaaaDoor

/- The document's answer for patterns by their places: Encode. -/
namespace Go.Proofs.YtifbdjhbeanfaaaDoor
open Go.RowKit

theorem bs_bits10 {w : World} {lo : Nat} {v : Value} {l : List Bool} (h : w.ownsRow lo 3 1 v l.length ((bitsI l).map (Value.int .i64))) : Bs .i64 w v (bitsI l) :=
  Bs.of_own (E := 3) (by rw [bitsI_length]; exact h)

set_option maxHeartbeats 400000 in
theorem rencode10_long (v : Value) (xs : List Int) (w : World) (h : Bs .u64 w v xs) (hl : 65536 < xs.length) :
    Calls Tryd.prog 24 #[v] w fun e w' => e = .returned (.tuple #[.slice none 0 0, .int .i64 4]) ∧ w = w' := by
  obtain ⟨ao, cap, rfl⟩ := h.len
  clear h
  have d0 : decide (65536 < (xs.length : Int)) = true := by simp; omega
  generalize xs.length = m at *
  clear hl
  go_enter Tryd.func24, Tryd.ntmps24
  go_wp2
  go_ret2
  exact ⟨rfl, rfl⟩

set_option maxHeartbeats 4000000 in
set_option maxRecDepth 100000 in
theorem rencode10_bs (v : Value) (xs : List Int) (w : World) (h : Bs .u64 w v xs) (hu : U64 xs) (hl : xs.length ≤ 10000) (G : List Int) (hG : G = gs (dic xs).length ++ (fx8 (dic xs) ++ bytesI (tail10 (dic xs) xs))) :
    Calls Tryd.prog 24 #[v] w fun e w' => ∃ v', e = .returned (.tuple #[v', .int .i64 0]) ∧ w'.ownsRow w.heap.size 5 1 v' G.length (G.map (Value.int .u8)) ∧ Only (fun _ => False) w w' := by
  obtain ⟨j0, hj, hy0, hy1, hy2⟩ := info_parts Tryd.infoU64
  obtain ⟨i0, hi, hz0, hz1, hz2⟩ := info_parts Tryd.infoU8
  obtain ⟨ao, cap, rfl⟩ := h.len
  have HB := hideIt h
  have HU := hideIt hu
  have HG := hideIt hG
  obtain ⟨m, hm⟩ : ∃ m, m = xs.length := ⟨_, rfl⟩
  rw [← hm] at HB hl
  rw [← hm]
  have HM := hideIt hm
  have d0 : decide (65536 < (m : Int)) = false := by simp; omega
  clear h hm hu hG
  go_enter Tryd.func24, Tryd.ntmps24
  go_wp2
  go_loopw [4, 5] (fun s i wr => ∃ k : Nat, k ≤ m ∧ i = .int .i64 k ∧ wr.ownsRow w.heap.size 38 1 s (dic (xs.take k)).length ((dic (xs.take k)).map (Value.int .u64)) ∧ Only (fun _ => False) w wr) (fun _ i _ => m - (intOf i).toNat)
  case atStart => exact ⟨0, Nat.zero_le _, rfl, World.ownsRow_nil _ _ _ _, Only.refl _ _⟩
  case round =>
    obtain ⟨k, hk, rfl, hown, hon⟩ := hrel
    have HON := hideIt hon
    by_cases hlt : k < m
    · have dlt : decide ((k : Int) < (m : Int)) = true := by simp; omega
      have hkd : k < xs.length := by rw [← HM.out]; exact hlt
      obtain ⟨b, off, cap', e1, hc0⟩ := (HB.out.past hon).at k hkd
      have ea : ao = some ⟨b, off, none⟩ := by simp at e1; exact e1.1
      subst ea
      have ik : (k : Int) < (m : Int) := by omega
      have HT := hideIt (take_snoc xs k hkd)
      have DS := hideIt (dic_snoc (xs.take k) (xs.getD k 0))
      rw [← HT.out] at DS
      have hdl := dic_len (xs.take k)
      rw [List.length_take] at hdl
      generalize xs.getD k 0 = y at *
      obtain ⟨d, hd⟩ : ∃ d, d = dic (xs.take k) := ⟨_, rfl⟩
      rw [← hd] at hown DS hdl
      have PL := hideIt (rplace_any u4 d y wr (Bs.of_own hown) (by omega))
      obtain ⟨a6, c6, e6⟩ := (Bs.of_own (k := .u64) hown).len
      subst e6
      obtain ⟨n, hn⟩ : ∃ n, n = d.length := ⟨_, rfl⟩
      rw [← hn] at hown hdl PL ⊢
      have HN := hideIt hn
      have HOWN := hideIt hown
      clear e1 hd hn hown hon hkd
      by_cases hin : y ∈ d
      · have e1 : plI d y = (plc d y : Int) := if_pos hin
        rw [e1] at PL
        have DS2 := hideIt (DS.out.trans (if_pos hin))
        generalize plc d y = p at *
        have dp : decide ((p : Int) < 0) = false := by simp
        clear DS hin e1
        go_wp2_with fail
        refine PL.out.mono ?_
        rintro e w1 ⟨rfl, rfl⟩
        clear PL
        go_wp2
        go_roundw
        case rel => exact ⟨k + 1, by omega, by go_num, by rw [DS2.out, ← HN.out]; exact HOWN.out, HON.out⟩
        case measure => simp [intOf]; omega
      · have e1 : plI d y = -1 := if_neg hin
        rw [e1] at PL
        have DS2 := hideIt (DS.out.trans (if_neg hin))
        clear DS hin e1
        go_wp2_with fail
        refine PL.out.mono ?_
        rintro e w1 ⟨rfl, rfl⟩
        clear PL
        have hsz := HON.out.size
        go_wp2_with (at_builtin; refine wpList_append_own _ rfl _ _ 22 rfl w.heap.size 38 j0 (.int .u64 0) 1 8 Tryd.underlying22 hj hy0 hy1 hy2 rfl (by decide) _ n _ rfl (HOWN.out.alloc _) ⟨wr.heap.size, 0, none⟩ 1 1 [.int .u64 y] rfl rfl (cell_one_new _ _ _) (ints_oneCell .u64 [y]) (by unfold maxLen; omega) (by omega) (by simp; omega) ?_; intro v' w2 hown' hgrow2 hnil2)
        have OW2 : Hid (w2.ownsRow w.heap.size 38 1 v' (dic (xs.take (k + 1))).length ((dic (xs.take (k + 1))).map (Value.int .u64))) := by
          simp only [Hid]; rw [DS2.out, List.length_append, List.map_append, ← HN.out]; exact hown'
        have O2 := hideIt ((HON.out.alloc (.cells #[.int .u64 y] 38)).grown hgrow2 (fun j hj e => absurd (HOWN.out.lt j e).1 (by omega)))
        clear hown' hgrow2 hnil2
        go_wp2
        go_roundw
        case rel => exact ⟨k + 1, by omega, by go_num, OW2.out, O2.out⟩
        case measure => simp [intOf]; omega
    · obtain rfl : k = m := by omega
      have dlt : decide ((k : Int) < (k : Int)) = false := by simp
      rw [HM.out, List.take_length] at hown
      obtain ⟨w1, hw1⟩ : ∃ w1, w1 = wr := ⟨_, rfl⟩
      subst hw1
      have hdl := dic_len xs
      have HME : Hid (∀ x ∈ xs, x ∈ dic xs) := fun x hx => (dic_mem xs x).2 hx
      rw [← HM.out] at hdl
      generalize dic xs = d at *
      obtain ⟨n, hn⟩ : ∃ n, n = d.length := ⟨_, rfl⟩
      obtain ⟨a6, c6, e6⟩ := (Bs.of_own (k := .u64) hown).len
      subst e6
      rw [← hn] at hdl hown HG ⊢
      have HN := hideIt hn
      have VD := hideIt (Bs.of_own (k := .u64) (xs := d) (by rw [← HN.out]; exact hown))
      have AP := hideIt (rappend_any (.slice none 0 0) [] (n : Int) w1 (Bs.nil _ _) NoCap.nil (by simp) (by omega) (by omega))
      rw [List.nil_append, Int.toNat_natCast] at AP
      have GL : Hid ((gs n).length ≤ 10) := gs_le10 (by omega)
      clear hn hown hon
      go_wp2_with fail
      refine AP.out.mono ?_
      rintro e w2 ⟨vo, rfl, own2, o2⟩
      have L0 : Hid (w2.ownsRow w1.heap.size 5 1 vo (gs n ++ fx8 (d.take 0)).length ((gs n ++ fx8 (d.take 0)).map (Value.int .u8))) := by
        simp only [Hid, List.take_zero]
        rw [show fx8 [] = [] from rfl, List.append_nil]; exact own2
      have O2 := hideIt o2
      clear own2 o2 AP
      go_wp2
      go_loopw [6, 7] (fun s i wr => ∃ k : Nat, k ≤ n ∧ i = .int .i64 k ∧ wr.ownsRow w1.heap.size 5 1 s (gs n ++ fx8 (d.take k)).length ((gs n ++ fx8 (d.take k)).map (Value.int .u8)) ∧ Only (fun _ => False) w1 wr) (fun _ i _ => n - (intOf i).toNat)
      case atStart => exact ⟨0, Nat.zero_le _, rfl, L0.out, O2.out⟩
      case round =>
        clear L0 O2
        obtain ⟨q, hq, rfl, hown, hon⟩ := hrel
        obtain ⟨w3, hw3⟩ : ∃ w3, w3 = wr := ⟨_, rfl⟩
        subst hw3
        have HOWN := hideIt hown
        have HON3 := hideIt hon
        by_cases hlt2 : q < n
        · have dlt2 : decide ((q : Int) < (n : Int)) = true := by simp; omega
          obtain ⟨b, off, cap', e1, hc0⟩ := (VD.out.past hon).at q (by rw [← HN.out]; exact hlt2)
          have ea : a6 = some ⟨b, off, none⟩ := by simp at e1; exact e1.1
          subst ea
          have iq : (q : Int) < (n : Int) := by omega
          clear e1
          have HST := hideIt (fx8_take d q (by rw [← HN.out]; exact hlt2))
          have HFL : Hid ((gs n ++ fx8 (d.take q)).length ≤ 10 + 8 * n) := by
            simp only [Hid]; have := GL.out; rw [List.length_append, fx8_len, List.length_take]; omega
          obtain ⟨f1, hf1⟩ : ∃ f1, f1 = gs n ++ fx8 (d.take (q + 1)) := ⟨_, rfl⟩
          have HF1 := hideIt hf1
          obtain ⟨f0, hf0⟩ : ∃ f0, f0 = gs n ++ fx8 (d.take q) := ⟨_, rfl⟩
          have HS2 : Hid (f1 = f0 ++ fixL (d.getD q 0) 8) := by
            simp only [Hid]; rw [hf1, hf0, HST.out, List.append_assoc]
          rw [← hf0] at HFL HOWN
          clear hf1 hf0 HST hown hon
          generalize d.getD q 0 = x at *
          go_wp2_with fail
          refine (rfix_any x 8 w3 (by omega)).mono ?_
          rintro e w4 ⟨u, rfl, own4, o4⟩
          have ow := o4.own HOWN.out (fun _ _ f => f)
          have hb4 := Bs.of_own own4
          have NC4 := hideIt (NoCap.of_own own4)
          have HB4 := hideIt hb4
          have hs4 : w1.heap.size ≤ w4.heap.size := Nat.le_trans HON3.out.size o4.size
          have O4 := hideIt (HON3.out.same o4)
          obtain ⟨a4, c4, e4⟩ := hb4.len
          subst e4
          clear o4 own4 HON3 HOWN hb4
          rw [fixL_len] at HB4 NC4
          go_wp2_with (at_builtin; refine wpList_append_bs _ rfl _ _ _ rfl w1.heap.size 5 i0 (.int .u8 0) 1 Tryd.underlying24 hi hz0 hz1 hz2 rfl _ _ _ rfl ow .u8 _ (fixL x 8) rfl HB4.out NC4.out ?c3 ?c4 hs4 ?_)
          case c3 => have := HFL.out; rw [fixL_len]; unfold maxLen; omega
          case c4 => have := HFL.out; rw [fixL_len]; omega
          intro v6 w6 own6 hgrow6 _ _
          have OWN6 : Hid (w6.ownsRow w1.heap.size 5 1 v6 f1.length (f1.map (Value.int .u8))) := by
            simp only [Hid]; rw [HS2.out, List.length_append, List.map_append]; exact own6
          have O6 := hideIt (O4.out.grown hgrow6 (fun k hk e => absurd (ow.lt k e).1 (by omega)))
          clear ow own6 hgrow6
          go_wp2
          go_roundw
          case rel => exact ⟨q + 1, by omega, by go_num, by rw [← HF1.out]; exact OWN6.out, O6.out⟩
          case measure => simp [intOf]; omega
        · obtain rfl : q = n := by omega
          have dlt2 : decide ((q : Int) < (q : Int)) = false := by simp
          rw [HN.out, List.take_length, ← HN.out] at HOWN
          have HFL : Hid ((gs q ++ fx8 d).length ≤ 10 + 8 * q) := by
            simp only [Hid]; have := GL.out; rw [List.length_append, fx8_len, ← HN.out]; omega
          have HG2 : Hid (G = (gs q ++ fx8 d) ++ bytesI (bitsP (wP q) ((xs.take k).map (plc d)))) := by
            simp only [Hid]; rw [HG.out, List.append_assoc, HM.out, List.take_length]; unfold tail10; rw [← HN.out]
          have PW := hideIt (rwid10_any q w3 (by omega))
          have WL : wP q ≤ 16 := wP_le (by omega)
          have WF : Hid (∀ x ∈ xs, plc d x < q ∧ wid (plc d x) ≤ wP q) := by
            intro x hx
            have h1 := plc_lt (HME.out x hx)
            rw [← HN.out] at h1
            exact ⟨h1, (wid_le_iff _ _).2 (wP_lt h1)⟩
          have HBL : Hid (∀ j, ((xs.take j).map (plc d)).length ≤ k) := by
            intro j; rw [List.length_map, List.length_take, HM.out]; omega
          clear hown hon HG GL
          generalize gs q ++ fx8 d = f0 at *
          go_wp2_with fail
          refine PW.out.mono ?_
          rintro e w4 ⟨rfl, rfl⟩
          clear PW
          generalize wP q = W at *
          go_wp2
          go_loopw [9, 10] (fun s i wr => ∃ j : Nat, j ≤ k ∧ i = .int .i64 j ∧ wr.ownsRow w3.heap.size 3 1 s (bitsP W ((xs.take j).map (plc d))).length ((bitsI (bitsP W ((xs.take j).map (plc d)))).map (Value.int .i64)) ∧ Only (fun _ => False) w3 wr) (fun _ i _ => k - (intOf i).toNat)
          case atStart => exact ⟨0, Nat.zero_le _, rfl, World.ownsRow_nil _ _ _ _, Only.refl _ _⟩
          case round =>
            obtain ⟨j, hj, rfl, hown, hon⟩ := hrel
            have hbl : (bitsP W ((xs.take j).map (plc d))).length ≤ 10000 * 16 := by
              rw [bitsP_len]; exact Nat.mul_le_mul (Nat.le_trans (HBL.out j) hl) WL
            have ONW := hideIt (HON.out.same (HON3.out.same hon))
            have VK := hideIt (bs_bits10 hown)
            have NK := hideIt (NoCap.of_own hown)
            by_cases hlt3 : j < k
            · have dlt3 : decide ((j : Int) < (k : Int)) = true := by simp; omega
              have hjd : j < xs.length := by rw [← HM.out]; exact hlt3
              obtain ⟨b, off, cap', e1, hc0⟩ := (HB.out.past ONW.out).at j hjd
              have ea : ao = some ⟨b, off, none⟩ := by simp at e1; exact e1.1
              subst ea
              clear e1
              have ij : (j : Int) < (k : Int) := by omega
              have hym := getD_ofl (l := xs) (k := j) hjd
              obtain ⟨p0, p1⟩ := WF.out _ hym
              have PL := hideIt (rplace_any _ d (xs.getD j 0) wr (VD.out.past (HON3.out.same hon)) (by rw [← HN.out]; omega))
              rw [show plI d (xs.getD j 0) = (plc d (xs.getD j 0) : Int) from if_pos (HME.out _ hym)] at PL
              have HST := hideIt (bitsP_take W (plc d) xs j hjd)
              generalize xs.getD j 0 = y at *
              generalize plc d y = p at *
              have PU := hideIt (rput_own _ (bitsP W ((xs.take j).map (plc d))) (p : Int) (W : Int) wr VK.out NK.out (by omega) (by omega) (by omega) (by omega) (by omega) (by simpa using p1))
              rw [Int.toNat_natCast, Int.toNat_natCast, ← HST.out] at PU
              have HO := hideIt hon
              clear hown hon HST hym hjd VK NK
              go_wp2_with fail
              refine PL.out.mono ?_
              rintro e w5 ⟨rfl, rfl⟩
              clear PL
              go_wp2_with fail
              refine PU.out.mono ?_
              rintro e w6 ⟨v6, rfl, own6, o6⟩
              have OW6 := hideIt (own_low own6 HO.out.size)
              have O6 := hideIt (HO.out.same o6)
              clear own6 o6 PU HO
              go_wp2
              go_roundw
              case rel => exact ⟨j + 1, by omega, by go_num, OW6.out, O6.out⟩
              case measure => simp [intOf]; omega
            · obtain rfl : j = k := by omega
              have dlt3 : decide ((j : Int) < (j : Int)) = false := by simp
              have BY := hideIt (brbytes_bs _ (bitsP W ((xs.take j).map (plc d))) wr VK.out (by omega))
              have HO := hideIt hon
              have HTL : Hid ((bytesI (bitsP W ((xs.take j).map (plc d)))).length ≤ 10000 * 16) := by
                simp only [Hid]; rw [bytesI_length]; unfold nb; omega
              generalize bytesI (bitsP W ((xs.take j).map (plc d))) = t0 at *
              clear hown hon hbl VK NK
              go_wp2_with fail
              refine BY.out.mono ?_
              rintro e w5 ⟨u, rfl, own5, o5⟩
              have ow := (HO.out.same o5).own HOWN.out (fun _ _ f => f)
              have hb5 := Bs.of_own own5
              have NC5 := hideIt (NoCap.of_own own5)
              have HB5 := hideIt hb5
              have hs5 : w1.heap.size ≤ w5.heap.size := Nat.le_trans HON3.out.size (Nat.le_trans HO.out.size o5.size)
              have O5 := hideIt (ONW.out.same o5)
              have S1 := hideIt HON.out.size
              obtain ⟨a5, c5, e5⟩ := hb5.len
              subst e5
              obtain ⟨tl, htl⟩ : ∃ tl, tl = t0.length := ⟨_, rfl⟩
              rw [← htl] at HB5 NC5 HTL ⊢
              have HT := hideIt htl
              clear o5 own5 hb5 htl
              go_wp2_with (at_builtin; refine wpList_append_bs _ rfl _ _ _ rfl w1.heap.size 5 i0 (.int .u8 0) 1 Tryd.underlying24 hi hz0 hz1 hz2 rfl _ _ _ rfl ow .u8 _ t0 rfl HB5.out NC5.out ?c3 ?c4 hs5 ?_)
              case c3 => have := HFL.out; have := HTL.out; have := HT.out; unfold maxLen; omega
              case c4 => have := HFL.out; have := HTL.out; have := HT.out; omega
              intro v6 w6 own6 hgrow6 _ _
              have OWN6 : Hid (w6.ownsRow w.heap.size 5 1 v6 G.length (G.map (Value.int .u8))) := by
                simp only [Hid]; rw [HG2.out, List.length_append, List.map_append]; exact own_low own6 S1.out
              have O6 := hideIt (O5.out.grown hgrow6 (fun k hk e => absurd (ow.lt k e).1 (by have := S1.out; omega)))
              clear ow own6 hgrow6
              go_wp2
              go_ret2
              exact ⟨v6, rfl, OWN6.out, O6.out⟩
theorem rencode10_all (v : Value) (xs : List Int) (w : World) (h : Bs .u64 w v xs) (hu : U64 xs) (hl : xs.length ≤ 10000 ∨ 65536 < xs.length) :
    Calls Tryd.prog 24 #[v] w fun e w' => ∃ v', e = .returned (.tuple #[v', .int .i64 (ENC10 xs).2]) ∧ w'.ownsRow w.heap.size 5 1 v' (ENC10 xs).1.length ((ENC10 xs).1.map (Value.int .u8)) ∧ Only (fun _ => False) w w' := by
  by_cases hg : 65536 < xs.length
  · have e : ENC10 xs = ([], 4) := if_pos hg
    rw [e]
    refine (rencode10_long v xs w h hg).mono ?_
    rintro e w' ⟨rfl, rfl⟩
    exact ⟨_, rfl, World.ownsRow_nil _ _ _ _, Only.refl _ _⟩
  · rw [ENC10_of (by omega)]
    exact rencode10_bs v xs w h hu (by omega) _ rfl
theorem ENC10_len (xs : List Int) : (ENC10 xs).1.length ≤ 1000000 := by
  unfold ENC10
  by_cases h : 65536 < xs.length
  · rw [if_pos h]; simp
  · rw [if_neg h]
    have h1 := gs_le10 (dic_lt (l := xs) (by omega))
    have h2 := dic_len xs
    have h3 := wP_le (k := (dic xs).length) (by omega)
    have h4 : (tail10 (dic xs) xs).length ≤ 65536 * 16 := by rw [tail10_len]; exact Nat.mul_le_mul (by omega) h3
    simp only [List.length_append, fx8_len, bytesI_length]; unfold nb; omega
end Go.Proofs.YtifbdjhbeanfaaaDoor
