/- The walk of the statement on numbers that lie equally far apart. -/
import Derived.Test.YtlfioabaingfbaaDAwake
namespace Go.Proofs.Ytlfioabaingfbaa
open Go.RowKit

theorem ap_snoc (s x : Int) (i : Nat) (c : Int) (h : ∀ m, ap s x (i + m) = ap s x i ++ ap s c m) : ap s x (i + 1) = ap s x i ++ [c] ∧ ∀ m, ap s x (i + 1 + m) = ap s x (i + 1) ++ ap s (wrap64 (c + s)) m := by
  have h1 : ap s x (i + 1) = ap s x i ++ [c] := by rw [h 1]; rfl
  refine ⟨h1, fun m => ?_⟩
  rw [show i + 1 + m = i + (m + 1) by omega, h (m + 1), h1, ap, List.append_assoc]; rfl
theorem Try.infoA64 : (Try.prog.info? 3).map (fun i => (i.zero, i.size, i.bytes)) = some (some (.int .i64 0), 1, 8) := by kernel_rfl

set_option maxHeartbeats 800000 in
set_option maxRecDepth 100000 in
theorem even_any (x s n : Int) (w : World) (hx : G64 x) (hs : G64 s) :
    Calls Try.prog 5 #[.int .i64 x, .int .i64 s, .int .i64 n] w fun e w' => e = .returned (.bool true) ∧ Only (fun _ => False) w w' := by
  obtain ⟨i0, hi, hz0, hz1, hz2⟩ := info_parts Try.infoA64
  have AW := hideIt (awake_any w)
  have hlow := i64_low n 7 (by omega)
  obtain ⟨c, hc, hcl⟩ : ∃ c : Nat, n % ((2 ^ 7 : Nat) : Int) = c ∧ c ≤ 127 := ⟨(n % ((2 ^ 7 : Nat) : Int)).toNat, by omega, by omega⟩
  rw [hc] at hlow
  have hlow' : bits .and .i64 n 127 = (c : Int) := hlow
  have HX := hideIt hx
  have HS := hideIt hs
  clear hc hlow hx hs
  go_enter Try.func5, Try.ntmps5
  go_wp2_with fail
  refine AW.out.mono ?_
  rintro e w1 ⟨rfl, on1⟩
  have O1 := hideIt on1
  clear on1 AW
  go_wp2
  go_loopw [8, 9, 10] (fun o y i wr => ∃ (k : Nat) (z : Int), k ≤ c ∧ i = .int .i64 k ∧ y = .int .i64 z ∧ wr.ownsRow w1.heap.size 3 1 o k ((ap s x k).map (Value.int .i64)) ∧ (∀ m, ap s x (k + m) = ap s x k ++ ap s z m) ∧ Below w1.heap.size w1 wr) (fun _ _ i _ => c - (intOf i).toNat)
  case atStart => exact ⟨0, x, Nat.zero_le _, rfl, rfl, World.ownsRow_nil _ _ _ _, fun m => by rw [Nat.zero_add]; rfl, Below.refl _ _⟩
  case round =>
    obtain ⟨k, z, hk, rfl, rfl, hown, hap, hbel⟩ := hrel
    have hsz := hbel.size
    by_cases hlt : k < c
    · have AP := hideIt (ap_snoc s x k z hap)
      clear hap
      go_wp2_with (at_builtin; refine wpList_append_lies _ rfl _ _ _ rfl w1.heap.size 3 i0 (.int .i64 0) 1 8 Try.underlying22 hi hz0 hz1 hz2 rfl (by omega) _ k ((ap s x k).map (Value.int .i64)) rfl (hown.alloc _) ⟨wr.heap.size, 0, none⟩ 1 1 [.int .i64 z] rfl rfl ?c1 ?c2 (by omega) ?c3 ?c4 ?c5 (wr.heap.size + 1) (by simp) ?_)
      case c1 => exact cell_one_new _ _ _
      case c2 => intro u hu; simp at hu; subst hu; rfl
      case c3 => unfold maxLen; omega
      case c4 => omega
      case c5 => simp; omega
      intro g cap1 w2 hown1 hgrow hat hg1
      have hb1 : Below w1.heap.size w1 w2 := (hbel.alloc hsz _).grown hgrow (by simp; omega) (fun q hq => (hown.lt q hq).1)
      have hown2 : w2.ownsRow w1.heap.size 3 1 (.slice (some ⟨g, 0, none⟩) (k + 1) cap1) (k + 1) ((ap s x (k + 1)).map (Value.int .i64)) := by
        rw [AP.out.1, List.map_append]; exact hown1
      have H2 := hideIt (And.intro hown2 hb1)
      clear hown hown1 hgrow hat hbel hown2 hb1
      go_wp2
      go_roundw
      case rel => exact ⟨k + 1, wrap64 (z + s), by omega, by go_num, rfl, H2.out.1, AP.out.2, H2.out.2⟩
      case measure => simp [intOf]; omega
    · have e1 : k = c := by omega
      subst e1
      have hl : (ap s x k).length = k := ap_length s x k
      have bx : Bs .i64 wr u8 (ap s x k) := Bs.of_own (by rw [hl]; exact hown)
      obtain ⟨ao, cap, hv⟩ := bx.len
      rw [hl] at hv
      subst hv
      have A2 := hideIt (diff_bs (.slice ao k cap) (ap s x k) 2 wr bx (by omega) (by omega))
      have O2 := hideIt (O1.out.same (only_of_below hbel))
      have BX := hideIt bx
      have HEV := hideIt (fun i (h2 : 2 ≤ i) (hn : i < k) => even_at s x k i HS.out HX.out h2 hn)
      have HL2 : Hid ((D 2 (ap s x k)).length = k) := by rw [D_length]; exact hl
      have HL3 : Hid ((D 3 (ap s x k)).length = k) := by rw [D_length]; exact hl
      have HL := hideIt hl
      clear hown hap hbel bx hl
      go_wp2_with fail
      refine A2.out.mono ?_
      rintro e w3 ⟨v3, rfl, b3, _, on3⟩
      have O3 := hideIt (O2.out.same on3)
      have A3 := hideIt (diff_bs (.slice ao k cap) (ap s x k) 3 w3 (BX.out.past on3) (by rw [HL.out]; omega) (by omega))
      have B3 := hideIt b3
      clear A2 b3 on3
      go_wp2_with fail
      refine A3.out.mono ?_
      rintro e w4 ⟨v4, rfl, b4, _, on4⟩
      have O4 := hideIt (O3.out.same on4)
      have b3 := B3.out.past on4
      obtain ⟨ao3, cap3, hv3⟩ := b3.len
      obtain ⟨ao4, cap4, hv4⟩ := b4.len
      rw [HL2.out] at hv3
      rw [HL3.out] at hv4
      subst hv3 hv4
      have B4 := hideIt (And.intro b3 b4)
      have tn : ((k : Int) != (k : Int)) = false := by simp
      clear A3 b3 b4 on4 B3 hlow'
      go_wp2
      go_loopw [15] (fun i wr => ∃ j : Nat, j ≤ k ∧ i = .int .i64 j ∧ wr = w4) (fun i _ => k - (intOf i).toNat)
      case atStart => exact ⟨0, Nat.zero_le _, rfl, rfl⟩
      case round =>
        obtain ⟨j, hj, rfl, rfl⟩ := hrel
        by_cases hlt : j < k
        · have i0' : (0 : Int) ≤ (j : Int) := by omega
          have i1' : (j : Int) < (k : Int) := by omega
          by_cases h2 : 2 ≤ j
          · have t2 : decide ((2 : Int) ≤ (j : Int)) = true := decide_eq_true (by omega)
            obtain ⟨e3, e4⟩ := HEV.out j h2 hlt
            obtain ⟨b, off, cp, ev, hc3⟩ := B4.out.1.at j (by rw [HL2.out]; exact hlt)
            obtain ⟨b', off', cp', ev', hc4⟩ := B4.out.2.at j (by rw [HL3.out]; exact hlt)
            simp at ev ev'
            obtain ⟨rfl, q1, rfl⟩ := ev
            obtain ⟨rfl, q2, rfl⟩ := ev'
            rw [e3] at hc3
            rw [e4] at hc4
            clear e3 e4 q1 q2
            by_cases h3 : 3 ≤ j
            · have t3 : decide ((3 : Int) ≤ (j : Int)) = true := decide_eq_true (by omega)
              go_wp2
              go_roundw
              case rel => exact ⟨j + 1, by omega, by go_num, by first | rfl | trivial⟩
              case measure => simp [intOf]; omega
            · have t3 : decide ((3 : Int) ≤ (j : Int)) = false := decide_eq_false (by omega)
              go_wp2
              go_roundw
              case rel => exact ⟨j + 1, by omega, by go_num, by first | rfl | trivial⟩
              case measure => simp [intOf]; omega
          · have t2 : decide ((2 : Int) ≤ (j : Int)) = false := decide_eq_false (by omega)
            have t3 : decide ((3 : Int) ≤ (j : Int)) = false := decide_eq_false (by omega)
            go_wp2
            go_roundw
            case rel => exact ⟨j + 1, by omega, by go_num, by first | rfl | trivial⟩
            case measure => simp [intOf]; omega
        · go_wp2
          go_ret
          exact ⟨rfl, O4.out⟩
end Go.Proofs.Ytlfioabaingfbaa
