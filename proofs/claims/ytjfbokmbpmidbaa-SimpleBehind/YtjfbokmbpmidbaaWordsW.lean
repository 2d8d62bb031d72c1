/- The walk of the statement 'eight bytes a word'. -/
import Derived.Test.YtjfbokmbpmidbaaTot
namespace Go.Proofs.Ytjfbokmbpmidbaa
open Go.RowKit

theorem or_great (v c : Nat) (hv : v < 18446744073709551616) (hc : c < 1152921504606846976) : ∃ x : Nat, bits .or .u64 ((v : Int) / 16) (c : Int) = (x : Int) ∧ c ≤ x ∧ x < 1152921504606846976 := by
  refine ⟨v / 16 ||| c, ?_, Nat.right_le_or, ?_⟩
  · have e : ((v : Int) / 16) = ((v / 16 : Nat) : Int) := by omega
    rw [e, u64_or_nat _ _ (by omega) (by omega)]
  · exact Nat.or_lt_two_pow (n := 60) (show v / 16 < 2 ^ 60 by have e60 : (2 : Nat) ^ 60 = 1152921504606846976 := by decide
                                                               omega) hc
theorem made_zeros (k : Nat) : (madeCells #[Value.int .u64 0] (k * 1)).toList = (List.replicate k (0 : Int)).map (Value.int .u64) := by
  apply List.ext_getElem
  · simp [madeCells]
  · intro i h1 h2
    simp [madeCells, Nat.mod_one]
theorem up_zeros (k : Nat) : Up 60 (List.replicate k (0 : Int)) := by
  intro x hx
  rw [List.eq_of_mem_replicate hx]
  exact ⟨by omega, by decide⟩

set_option maxHeartbeats 1600000 in
set_option maxRecDepth 100000 in
theorem words_any (n v : Int) (w : World) (hv : 0 ≤ v ∧ v ≤ 18446744073709551615) :
    Calls Try.prog 7 #[.int .i64 n, .int .u64 v] w fun e w' => e = .returned (.bool true) ∧ Only (fun _ => False) w w' := by
  have AW := hideIt (awake_any w)
  obtain ⟨i0, hi, hz0, hz1, hz2⟩ := info_parts Try.infoU64
  have hlow := i64_low n 9 (by omega)
  rw [show ((2 ^ 9 - 1 : Nat) : Int) = 511 from rfl, show ((2 ^ 9 : Nat) : Int) = 512 from rfl] at hlow
  obtain ⟨k, hk⟩ : ∃ k : Nat, (k : Int) = n % 512 := ⟨(n % 512).toNat, by omega⟩
  rw [← hk] at hlow
  have hk9 : k < 512 := by omega
  have hlow2 := i64_low (k : Int) 6 (by omega)
  rw [show ((2 ^ 6 - 1 : Nat) : Int) = 63 from rfl, show ((2 ^ 6 : Nat) : Int) = 64 from rfl] at hlow2
  obtain ⟨j, hj⟩ : ∃ j : Nat, (j : Int) = (k : Int) % 64 := ⟨k % 64, by omega⟩
  rw [← hj] at hlow2
  have hj6 : j < 64 := by omega
  obtain ⟨v0, v1⟩ := hv
  obtain ⟨v, rfl⟩ := Int.eq_ofNat_of_zero_le v0
  obtain ⟨x, hx, hx1, hx2⟩ := or_great v 2147483648 (by omega) (by decide)
  have hx' : bits .or .u64 ((v : Int) / 16) 2147483648 = (x : Int) := hx
  have HXU : Hid (∀ t, Up 60 (List.replicate t (x : Int)) ∧ ∀ y ∈ List.replicate t (x : Int), 2 ^ 30 ≤ y) := fun t => ⟨fun y hy => by
      rw [List.eq_of_mem_replicate hy]; exact ⟨by omega, by have e60 : (2 : Int) ^ 60 = 1152921504606846976 := by decide
                                                            omega⟩, fun y hy => by
      rw [List.eq_of_mem_replicate hy]; have e30 : (2 : Int) ^ 30 = 1073741824 := by decide
      omega⟩
  clear hx hk hj hx1 hx2
  go_enter Try.func7, Try.ntmps7
  go_wp2_with fail
  refine AW.out.mono ?_
  rintro e w1 ⟨rfl, on1⟩
  have O1 := hideIt on1
  obtain ⟨wm, hmk, hown0, hgr⟩ := run_make_full (P := Try.prog) w1 w1.heap.size 22 36 i0 (.int .u64 0) 1 Try.underlying22 hi hz0 hz1 .i64 .i64 k (by rw [hz2]; omega) (by unfold maxLen; omega) (Nat.le_refl _)
  have OM := hideIt ((Only.refl (fun _ => False) w1).grown hgr (fun _ _ e => by cases e))
  rw [show (Value.int .u64 0).cells = #[Value.int .u64 0] from rfl, made_zeros] at hown0
  have EN := encode_all _ (List.replicate k 0) wm (Bs.of_own (by rw [List.length_replicate]; exact hown0)) (fun y hy => by rw [List.eq_of_mem_replicate hy]; omega)
  rw [ENC_of (up_zeros k) (by rw [List.length_replicate]; omega)] at EN
  simp only at EN
  have EN := hideIt EN
  have HW := hideIt (enc_words _ _ rfl (up_zeros k))
  have HM8 := hideIt (enc_len _ _ rfl (up_zeros k)).1
  have HML := hideIt (enc_len _ _ rfl (up_zeros k)).2.1
  rw [List.length_replicate] at HW HML
  clear on1 AW hown0 hgr
  go_wp2_with fail
  refine EN.out.mono ?_
  rintro e w2 ⟨v2, rfl, own2, on2⟩
  have O2 := hideIt ((O1.out.same OM.out).same on2)
  obtain ⟨a2, c2, e2⟩ := (Bs.of_own own2).len
  subst e2
  obtain ⟨p, hp⟩ : ∃ p, p = (enc (List.replicate k 0)).length := ⟨_, rfl⟩
  rw [← hp] at HW HM8 HML ⊢
  clear EN own2 on2 OM hp hmk
  go_wp2
  go_loopw [9, 10] (fun o i wr => ∃ t : Nat, t ≤ j ∧ i = .int .i64 t ∧ wr.ownsRow w.heap.size 36 1 o t ((List.replicate t (x : Int)).map (Value.int .u64)) ∧ Only (fun _ => False) w wr) (fun _ i _ => j - (intOf i).toNat)
  case atStart => exact ⟨0, Nat.zero_le _, rfl, World.ownsRow_nil _ _ _ _, O2.out⟩
  case round =>
    obtain ⟨t, ht, rfl, hown, hon⟩ := hrel
    have hsz := hon.size
    by_cases hlt : t < j
    · have d0 : decide ((t : Int) < (j : Int)) = true := by simp; omega
      go_wp2_with (at_builtin; refine wpList_append_lies _ rfl _ _ _ rfl w.heap.size 36 i0 (.int .u64 0) 1 8 Try.underlying22 hi hz0 hz1 hz2 rfl (by omega) _ t _ rfl (hown.alloc _) ⟨wr.heap.size, 0, none⟩ 1 1 [.int .u64 x] rfl rfl ?c1 ?c2 (by omega) ?c3 ?c4 ?c5 (wr.heap.size + 1) (by simp) ?_)
      case c1 => exact cell_one_new _ _ _
      case c2 => intro u hu; simp at hu; subst hu; rfl
      case c3 => unfold maxLen; omega
      case c4 => omega
      case c5 => simp; omega
      intro g cap1 w3 hown1 hgrow hat hg1
      have o3 := hideIt ((hon.alloc _).grown hgrow (fun p hp0 hp => absurd (hown.lt p hp).1 (by omega)))
      have own3 : Hid (w3.ownsRow w.heap.size 36 1 (.slice (some ⟨g, 0, none⟩) (t + 1) cap1) (t + 1) ((List.replicate (t + 1) (x : Int)).map (Value.int .u64))) := by
        simp only [Hid]
        rw [List.replicate_succ', List.map_append]; simpa using hown1
      clear hown hown1 hgrow hat hon
      go_wp2
      go_roundw
      case rel => exact ⟨t + 1, by omega, by go_num, own3.out, o3.out⟩
      case measure => simp [intOf]; omega
    · have htj : t = j := by omega
      subst htj
      have hbt : Bs .u64 wr u9 (List.replicate t (x : Int)) := Bs.of_own (lo := w.heap.size) (E := 36) (by rw [List.length_replicate]; exact hown)
      have EN := encode_all u9 (List.replicate t (x : Int)) wr hbt (fun y hy => by rw [List.eq_of_mem_replicate hy]; have := (HXU.out 1).1 x (by simp); have e60 : (2 : Int) ^ 60 = 1152921504606846976 := by decide
                                                                                   omega)
      rw [ENC_of (HXU.out t).1 (by rw [List.length_replicate]; omega)] at EN
      simp only at EN
      have HL := hideIt (enc_greats _ (HXU.out t).1 (HXU.out t).2)
      rw [List.length_replicate] at HL
      have EN := hideIt EN
      obtain ⟨a9, c9, e9⟩ := hbt.len
      rw [List.length_replicate] at e9
      subst e9
      have d0 : decide ((t : Int) < (t : Int)) = false := by simp
      have HON := hideIt hon
      clear hown hon hbt
      go_wp2_with fail
      refine EN.out.mono ?_
      rintro e w4 ⟨v4, rfl, own4, on4⟩
      have O4 := hideIt (HON.out.same on4)
      obtain ⟨a4, c4, e4⟩ := (Bs.of_own own4).len
      subst e4
      obtain ⟨r, hr⟩ : ∃ r, r = (enc (List.replicate t (x : Int))).length := ⟨_, rfl⟩
      rw [← hr] at HL ⊢
      have z1 : ((p : Int) % 8 == 0) = true := by have := HM8.out; rw [beq_iff_eq]; omega
      have z2 : decide (8 * (((k : Int) + 239) / 240) ≤ (p : Int)) = true := by have := HW.out; exact decide_eq_true (by omega)
      have z3 : ((r : Int) == 8 * (t : Int)) = true := by have := HL.out; rw [beq_iff_eq]; omega
      have p1 : (p : Int) ≤ 5000 := by have := HML.out; omega
      clear EN own4 on4 hr HW HM8 HML HL
      go_wp2
      go_ret
      exact ⟨rfl, O4.out⟩
end Go.Proofs.Ytjfbokmbpmidbaa
