/- The walk of the statement on as many of one pattern as one likes. -/
import Derived.Test.YtifbdjhbeanfaaaDoorG11
namespace Go.Proofs.YtifbdjhbeanfaaaDoor
open Go.RowKit

theorem rep_snoc (x : Int) (k : Nat) : (List.replicate (k + 1) x).map (Value.int .u64) = (List.replicate k x).map (Value.int .u64) ++ [.int .u64 x] := by
  rw [List.replicate_succ', List.map_append]; rfl
theorem rep_u64 {x : Int} (h : 0 ≤ x ∧ x ≤ 18446744073709551615) (k : Nat) : U64 (List.replicate k x) := fun y hy => by rw [List.eq_of_mem_replicate hy]; exact h

set_option maxHeartbeats 1600000 in
set_option maxRecDepth 100000 in
theorem same11_any (x n : Int) (v : Value) (l : List Int) (w : World) (hx : 0 ≤ x ∧ x ≤ 18446744073709551615) (hb : Bs .u64 w v l) (hu : U64 l) (hT : Tab w) :
    Calls Tryd.prog 8 #[.int .u64 x, .int .i64 n, v] w fun e w' => e = .returned (.bool true) ∧ Only (fun _ => False) w w' := by
  obtain ⟨i0, hi, hz0, hz1, hz2⟩ := info_parts Tryd.infoU64
  have AW := hideIt (awake_any w hT)
  have HT := hideIt hT
  have HB := hideIt hb
  have HU := hideIt hu
  obtain ⟨ao, cap, rfl⟩ := hb.len
  obtain ⟨m, hm⟩ : ∃ m, m = l.length := ⟨_, rfl⟩
  rw [← hm] at HB
  rw [← hm]
  have HM := hideIt hm
  have hlow := i64_low n 10 (by omega)
  obtain ⟨c, hc, hcl⟩ : ∃ c : Nat, n % ((2 ^ 10 : Nat) : Int) = c ∧ c ≤ 1023 := ⟨(n % ((2 ^ 10 : Nat) : Int)).toNat, by omega, by omega⟩
  rw [hc] at hlow
  have hlow' : bits .and .i64 n 1023 = (c : Int) := hlow
  have HX := hideIt hx
  clear hc hlow hx hb hu hT hm
  go_enter Tryd.func8, Tryd.ntmps8
  go_wp2_with fail
  refine AW.out.mono ?_
  rintro e w1 ⟨rfl, on1⟩
  have O1 := hideIt on1
  clear on1 AW
  go_wp2
  go_loopw [9, 10] (fun o i wr => ∃ k : Nat, k ≤ c + 1 ∧ i = .int .i64 k ∧ wr.ownsRow w1.heap.size 38 1 o k ((List.replicate k x).map (Value.int .u64)) ∧ Below w1.heap.size w1 wr) (fun _ i _ => c + 1 - (intOf i).toNat)
  case atStart => exact ⟨0, Nat.zero_le _, rfl, World.ownsRow_nil _ _ _ _, Below.refl _ _⟩
  case round =>
    obtain ⟨k, hk, rfl, hown, hbel⟩ := hrel
    have hsz := hbel.size
    by_cases hlt : k < c + 1
    · have dlt : decide ((k : Int) < 1 + (c : Int)) = true := decide_eq_true (by omega)
      have AP := hideIt (rep_snoc x k)
      generalize (List.replicate k x).map (Value.int .u64) = R0 at *
      obtain ⟨R1, hR1⟩ : ∃ R1, R1 = (List.replicate (k + 1) x).map (Value.int .u64) := ⟨_, rfl⟩
      rw [← hR1] at AP
      have HR1 := hideIt hR1
      clear hR1
      go_wp2_with (at_builtin; refine wpList_append_lies _ rfl _ _ _ rfl w1.heap.size 38 i0 (.int .u64 0) 1 8 Tryd.underlying22 hi hz0 hz1 hz2 rfl (by omega) _ k R0 rfl (hown.alloc _) ⟨wr.heap.size, 0, none⟩ 1 1 [.int .u64 x] rfl rfl ?c1 ?c2 (by omega) ?c3 ?c4 ?c5 (wr.heap.size + 1) (by simp) ?_)
      case c1 => exact cell_one_new _ _ _
      case c2 => intro u hu; simp at hu; subst hu; rfl
      case c3 => unfold maxLen; omega
      case c4 => omega
      case c5 => simp; omega
      intro g cap1 w2 hown1 hgrow hat hg1
      have hb1 : Below w1.heap.size w1 w2 := (hbel.alloc hsz _).grown hgrow (by simp; omega) (fun q hq => (hown.lt q hq).1)
      have hown2 : w2.ownsRow w1.heap.size 38 1 (.slice (some ⟨g, 0, none⟩) (k + 1) cap1) (k + 1) R1 := by
        rw [AP.out]; exact hown1
      have H2 := hideIt (And.intro hown2 hb1)
      clear hown hown1 hgrow hat hbel hown2 hb1
      go_wp2
      go_roundw
      case rel => exact ⟨k + 1, by omega, by go_num, by rw [← HR1.out]; exact H2.out.1, H2.out.2⟩
      case measure => simp [intOf]; omega
    · obtain rfl : k = c + 1 := by omega
      have dlt : decide (((c + 1 : Nat) : Int) < 1 + (c : Int)) = false := decide_eq_false (by omega)
      have dlt2 : decide ((c : Int) + 1 < 1 + (c : Int)) = false := decide_eq_false (by omega)
      have hl : (List.replicate (c + 1) x).length = c + 1 := List.length_replicate
      have bx : Bs .u64 wr u9 (List.replicate (c + 1) x) := Bs.of_own (by rw [hl]; exact hown)
      obtain ⟨ao1, cap1, hv⟩ := bx.len
      rw [hl] at hv
      subst hv
      have O2 := hideIt (O1.out.same (only_of_below hbel))
      have EN := encode11_all (.slice ao1 (c + 1) cap1) (List.replicate (c + 1) x) wr bx (rep_u64 HX.out _) (HT.out.past O2.out)
      have hE : (ENC11 (List.replicate (c + 1) x)).2 = 0 := by rw [ENC11_of (by rw [hl]; omega)]
      have hlen := ENC11_rep x c (by omega)
      rw [hE] at EN
      have EN' := hideIt EN
      have HLN := hideIt hlen
      generalize (ENC11 (List.replicate (c + 1) x)).1 = eb at *
      clear hown hbel bx hl hE hlen EN
      go_wp2_with fail
      refine EN'.out.mono ?_
      rintro e w3 ⟨v3, rfl, own3, on3⟩
      have O3 := hideIt (O2.out.same on3)
      obtain ⟨f3, c3, e3⟩ := (Bs.of_own own3).len
      rw [HLN.out] at e3
      subst e3
      clear EN' own3 on3
      by_cases hm3 : 300 < m
      · have d3 : decide ((300 : Int) < (m : Int)) = true := decide_eq_true (by omega)
        clear hm3
        go_wp2
        go_ret
        exact ⟨rfl, O3.out⟩
      · have d3 : decide ((300 : Int) < (m : Int)) = false := decide_eq_false (by omega)
        have hl6 : l.length ≤ 65536 := by rw [← HM.out]; omega
        have EN2 := encode11_all (.slice ao m cap) l w3 (HB.out.past O3.out) HU.out (HT.out.past O3.out)
        have hE2 : (ENC11 l).2 = 0 := by rw [ENC11_of hl6]
        have hlen2 := (ENC11_len hl6).1
        rw [← HM.out] at hlen2
        rw [hE2] at EN2
        have EN3 := hideIt EN2
        generalize (ENC11 l).1 = eb2 at *
        have d4 : decide ((eb2.length : Int) ≤ 1 + 8 * (m : Int)) = true := decide_eq_true (by omega)
        clear hl6 hE2 EN2 HLN
        go_wp2_with fail
        refine EN3.out.mono ?_
        rintro e w4 ⟨v4, rfl, own4, on4⟩
        have O4 := hideIt (O3.out.same on4)
        obtain ⟨f4, c4, e4⟩ := (Bs.of_own own4).len
        subst e4
        clear EN3 own4 on4
        go_wp2
        go_ret
        exact ⟨rfl, O4.out⟩
end Go.Proofs.YtifbdjhbeanfaaaDoor
