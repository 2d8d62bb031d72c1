/- The walk of the statement on ints that lie equally far apart. -/
import Derived.Test.YtgbimghhdbmjiaaG12
namespace Go.Proofs.Ytgbimghhdbmjiaa
open Go.RowKit

theorem ap_snoc (s x : Int) (i : Nat) (c : Int) (h : ∀ m, ap s x (i + m) = ap s x i ++ ap s c m) : ap s x (i + 1) = ap s x i ++ [c] ∧ ∀ m, ap s x (i + 1 + m) = ap s x (i + 1) ++ ap s (wrap64 (c + s)) m := by
  have h1 : ap s x (i + 1) = ap s x i ++ [c] := by rw [h 1]; rfl
  refine ⟨h1, fun m => ?_⟩
  rw [show i + 1 + m = i + (m + 1) by omega, h (m + 1), h1, ap, List.append_assoc]; rfl

set_option maxHeartbeats 800000 in
set_option maxRecDepth 100000 in
theorem even_any (x s n : Int) (w : World) (hx : G64 x) (hs : G64 s) :
    Calls Try.prog 7 #[.int .i64 x, .int .i64 s, .int .i64 n] w fun e w' => e = .returned (.bool true) ∧ Only (fun _ => False) w w' := by
  obtain ⟨i0, hi, hz0, hz1, hz2⟩ := info_parts Try.infoI64
  have AW := hideIt (awake_any w)
  have hlow := i64_low n 10 (by omega)
  obtain ⟨c, hc, hcl⟩ : ∃ c : Nat, n % ((2 ^ 10 : Nat) : Int) = c ∧ c ≤ 1023 := ⟨(n % ((2 ^ 10 : Nat) : Int)).toNat, by omega, by omega⟩
  rw [hc] at hlow
  have hlow' : bits .and .i64 n 1023 = (c : Int) := hlow
  have HX := hideIt hx
  have HS := hideIt hs
  clear hc hlow hx hs
  go_enter Try.func7, Try.ntmps7
  go_wp2_with fail
  refine AW.out.mono ?_
  rintro e w1 ⟨rfl, on1⟩
  have O1 := hideIt on1
  clear on1 AW
  go_wp2
  go_loopw [8, 9, 10] (fun o y i wr => ∃ (k : Nat) (z : Int), k ≤ c ∧ i = .int .i64 k ∧ y = .int .i64 z ∧ wr.ownsRow w1.heap.size 3 1 o k ((ap s x k).map (Value.int .i64)) ∧ (∀ m, ap s x (k + m) = ap s x k ++ ap s z m) ∧ Below w1.heap.size w1 wr) (fun _ _ i _ => c - (intOf i).toNat)
  case atStart => exact ⟨0, x, Nat.zero_le _, rfl, rfl, World.ownsRow_nil _ _ _ _, fun m => by rw [Nat.zero_add]; rfl, Below.refl _ _⟩
  case round =>
    obtain ⟨k, z, hk, rfl, rfl, hown, hap, hbel⟩ := hrel
    have hsz := hbel.size
    by_cases hlt : k < c
    · have AP := hideIt (ap_snoc s x k z hap)
      clear hap
      go_wp2_with (at_builtin; refine wpList_append_lies _ rfl _ _ _ rfl w1.heap.size 3 i0 (.int .i64 0) 1 8 Try.underlying22 hi hz0 hz1 hz2 rfl (by omega) _ k ((ap s x k).map (Value.int .i64)) rfl (hown.alloc _) ⟨wr.heap.size, 0, none⟩ 1 1 [.int .i64 z] rfl rfl ?c1 ?c2 (by omega) ?c3 ?c4 ?c5 (wr.heap.size + 1) (by simp) ?_)
      case c1 => exact cell_one_new _ _ _
      case c2 => intro u hu; simp at hu; subst hu; rfl
      case c3 => unfold maxLen; omega
      case c4 => omega
      case c5 => simp; omega
      intro g cap1 w2 hown1 hgrow hat hg1
      have hb1 : Below w1.heap.size w1 w2 := (hbel.alloc hsz _).grown hgrow (by simp; omega) (fun q hq => (hown.lt q hq).1)
      have hown2 : w2.ownsRow w1.heap.size 3 1 (.slice (some ⟨g, 0, none⟩) (k + 1) cap1) (k + 1) ((ap s x (k + 1)).map (Value.int .i64)) := by
        rw [AP.out.1, List.map_append]; exact hown1
      have H2 := hideIt (And.intro hown2 hb1)
      clear hown hown1 hgrow hat hbel hown2 hb1
      go_wp2
      go_roundw
      case rel => exact ⟨k + 1, wrap64 (z + s), by omega, by go_num, rfl, H2.out.1, AP.out.2, H2.out.2⟩
      case measure => simp [intOf]; omega
    · have e1 : k = c := by omega
      subst e1
      have hl : (ap s x k).length = k := ap_length s x k
      have bx : Bs .i64 wr u8 (ap s x k) := Bs.of_own (by rw [hl]; exact hown)
      obtain ⟨ao, cap, hv⟩ := bx.len
      rw [hl] at hv
      subst hv
      have EN := encode8_all (.slice ao k cap) (ap s x k) wr bx (ap_g s x k HX.out)
      have hE : (ENC8 (ap s x k)).2 = 0 := by rw [ENC8_of (by omega)]
      rw [hE] at EN
      have EN := hideIt EN
      have hlen := ENC8_even s x k HS.out HX.out (by omega)
      have O2 := hideIt (O1.out.same (only_of_below hbel))
      generalize (ENC8 (ap s x k)).1 = eb at *
      have d3 : decide ((eb.length : Int) ≤ 27) = true := decide_eq_true (by omega)
      clear hown hap hbel bx hl hE
      go_wp2_with fail
      refine EN.out.mono ?_
      rintro e w3 ⟨v3, rfl, own3, on3⟩
      have O3 := hideIt (O2.out.same on3)
      obtain ⟨f3, c3, e3⟩ := (Bs.of_own own3).len
      subst e3
      clear EN own3 on3
      go_wp2
      go_ret
      exact ⟨rfl, O3.out⟩
end Go.Proofs.Ytgbimghhdbmjiaa
