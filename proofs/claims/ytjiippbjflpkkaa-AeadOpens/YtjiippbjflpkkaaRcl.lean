/- The document's own answer: r, of which some bits are 0. -/
import Derived.Test.YtjiippbjflpkkaaRmu
namespace Go.Proofs.Ytjiippbjflpkkaa
open Go.RowKit

theorem own_setI {w : World} {lo g n cap : Nat} {s : List Int} (h : w.ownsRow lo 3 1 (.slice (some ⟨g, 0, none⟩) n cap) n (il s)) (i : Nat) (x : Int) : (w.setCell ⟨g, i, none⟩ (.int .i64 x)).ownsRow lo 3 1 (.slice (some ⟨g, 0, none⟩) n cap) n (il (s.set i x)) := by
  have := (h.stored i (.int .i64 x)).1
  rwa [il_set] at this
theorem own_cellI {w : World} {lo g n cap : Nat} {s : List Int} (h : w.ownsRow lo 3 1 (.slice (some ⟨g, 0, none⟩) n cap) n (il s)) (hs : s.length = n) (i : Nat) (hi : i < n) : w.cell? ⟨g, i, none⟩ = some (.int .i64 (s.getD i 0)) := by
  have hb : Bs .i64 w (.slice (some ⟨g, 0, none⟩) n cap) s := Bs.of_il (by rw [hs]; exact h)
  obtain ⟨b, off, c, e, hc⟩ := hb.at i (by omega)
  simp at e
  obtain ⟨⟨rfl, rfl⟩, _⟩ := e
  rwa [Nat.zero_add] at hc
theorem own_someI {w : World} {lo n : Nat} {v : Value} {xs : List Value} (h : w.ownsRow lo 3 1 v n xs) (hn : 0 < n) : ∃ g cap, v = .slice (some ⟨g, 0, none⟩) n cap ∧ lo ≤ g := by
  rcases h.2 with ⟨_, h0⟩ | ⟨g, cap, cur, rfl, hb, hg, _⟩
  · omega
  · exact ⟨g, cap, rfl, hb⟩
set_option maxHeartbeats 1600000 in
set_option maxRecDepth 100000 in
theorem rclamped_any (vk : Value) (key : List Int) (hk : key.length = 32) (k8 : U8 key) (w : World) (bk : Bs .u8 w vk key) :
    Calls Try.prog 44 #[vk] w fun e w' => ∃ v, e = .returned v ∧ w'.ownsRow w.heap.size 3 1 v 16 (il (clampD key)) ∧ Only (fun _ => False) w w' := by
  obtain ⟨ao, kc, rfl⟩ := bk.len
  have hkc : 32 ≤ kc := by
    obtain ⟨_, _, e, h, _⟩ := bk
    simp at e
    omega
  rw [hk] at bk ⊢
  have ht16 : (key.take 16).length = 16 := by rw [List.length_take, hk]; rfl
  have NU := hideIt (rnumber_any _ (key.take 16) (by rw [ht16]; decide) (k8.take 16) w (bk.head (n := 16) (by decide)))
  have HC := hideIt (c2_clamp key (by omega))
  obtain ⟨xs, hxs⟩ : ∃ xs, xs = key.take 16 := ⟨_, rfl⟩
  have H8 : Hid (U8 xs ∧ xs.length = 16) := by rw [hxs]; exact ⟨k8.take 16, ht16⟩
  rw [← hxs] at NU HC
  rw [hxs, ht16, ← hxs] at NU
  have i2 : (16 : Int) ≤ (kc : Int) := by omega
  clear bk ht16 k8 hxs hk
  go_enter Try.func44, Try.ntmps44
  go_wp2_with fail
  refine NU.out.mono ?_
  rintro e w1 ⟨v1, rfl, own1, o1⟩
  obtain ⟨g, cap, rfl, hg⟩ := own_someI own1 (by decide)
  have K0 : Hid (w1.ownsRow w.heap.size 3 1 (.slice (some ⟨g, 0, none⟩) 16 cap) 16 (il (c1 xs 0)) ∧ Only (fun _ => False) w w1) := ⟨own1, o1⟩
  have HG := hideIt hg
  clear own1 o1 NU hg
  go_wp2
  go_loopw [4] (fun i wr => ∃ n : Nat, n ≤ 4 ∧ i = .int .i64 (4 * n + 3 : Nat) ∧ wr.ownsRow w.heap.size 3 1 (.slice (some ⟨g, 0, none⟩) 16 cap) 16 (il (c1 xs n)) ∧ Only (fun _ => False) w wr) (fun i _ => 20 - (intOf i).toNat)
  case atStart => exact ⟨0, by omega, rfl, K0.out⟩
  case round =>
    obtain ⟨n, hn, rfl, k1, k2⟩ := hrel
    clear K0
    obtain ⟨p, hp⟩ : ∃ p, p = 4 * n + 3 := ⟨_, rfl⟩
    rw [← hp]
    by_cases hlt : n < 4
    · have hu := c1_u8 xs H8.out.1 n
      have hc := own_cellI k1 (by rw [c1_len, H8.out.2]) p (by omega)
      have hf := k1.frozenAt p
      have hx8 := hu.at p
      have hsn : (c1 xs n).set (4 * n + 3) ((c1 xs n).getD (4 * n + 3) 0 % 16) = c1 xs (n + 1) := rfl
      rw [← hp] at hsn
      obtain ⟨x, hx⟩ : ∃ x, x = (c1 xs n).getD p 0 := ⟨_, rfl⟩
      rw [← hx] at hc hsn hx8
      obtain ⟨y, hy⟩ : ∃ y, y = x % 16 := ⟨_, rfl⟩
      rw [← hy] at hsn
      have e1 : x.tmod 16 = y := by rw [Int.tmod_eq_emod_of_nonneg hx8.1, hy]
      have e2 : x % 16 = y := hy.symm
      have N1 : Hid ((wr.setCell ⟨g, p, none⟩ (.int .i64 y)).ownsRow w.heap.size 3 1 (.slice (some ⟨g, 0, none⟩) 16 cap) 16 (il (c1 xs (n + 1))) ∧ Only (fun _ => False) w (wr.setCell ⟨g, p, none⟩ (.int .i64 y))) := by
        refine ⟨?_, k2.setCell (p := ⟨g, p, none⟩) (fun hlt => absurd hlt (by have := HG.out; simp; omega)) _⟩
        rw [← hsn]
        exact own_setI k1 p y
      have i1 : (p : Int) < 16 := by omega
      have HP := hideIt hp
      clear k1 k2 hu hsn hx hp hy
      go_wp2
      go_roundw
      case rel =>
        have hp := HP.out
        exact ⟨n + 1, by omega, by go_num, N1.out⟩
      case measure => simp [intOf]; omega
    · obtain rfl : n = 4 := by omega
      have K1 : Hid (wr.ownsRow w.heap.size 3 1 (.slice (some ⟨g, 0, none⟩) 16 cap) 16 (il (c2 xs 0)) ∧ Only (fun _ => False) w wr) := ⟨k1, k2⟩
      have i1 : ¬ (p : Int) < 16 := by omega
      clear k1 k2 hp
      go_wp2
      go_loopw [5] (fun i wr => ∃ n : Nat, n ≤ 3 ∧ i = .int .i64 (4 * n + 4 : Nat) ∧ wr.ownsRow w.heap.size 3 1 (.slice (some ⟨g, 0, none⟩) 16 cap) 16 (il (c2 xs n)) ∧ Only (fun _ => False) w wr) (fun i _ => 20 - (intOf i).toNat)
      case atStart => exact ⟨0, by omega, rfl, K1.out⟩
      case round =>
        obtain ⟨n, hn, rfl, k1, k2⟩ := hrel
        clear K1
        obtain ⟨p, hp⟩ : ∃ p, p = 4 * n + 4 := ⟨_, rfl⟩
        rw [← hp]
        by_cases hlt : n < 3
        · have hu := c2_u8 xs H8.out.1 n
          have hc := own_cellI k1 (by rw [c2_len, H8.out.2]) p (by omega)
          have hf := k1.frozenAt p
          have hx8 := hu.at p
          have hsn : (c2 xs n).set (4 * n + 4) ((c2 xs n).getD (4 * n + 4) 0 - (c2 xs n).getD (4 * n + 4) 0 % 4) = c2 xs (n + 1) := rfl
          rw [← hp] at hsn
          obtain ⟨x, hx⟩ : ∃ x, x = (c2 xs n).getD p 0 := ⟨_, rfl⟩
          rw [← hx] at hc hsn hx8
          obtain ⟨q, hq⟩ : ∃ q, q = x % 4 := ⟨_, rfl⟩
          obtain ⟨y, hy⟩ : ∃ y, y = x - q := ⟨_, rfl⟩
          rw [← hq, ← hy] at hsn
          have e1 : x.tmod 4 = q := by rw [Int.tmod_eq_emod_of_nonneg hx8.1, hq]
          have e2 : x % 4 = q := hq.symm
          have e3 : x - q = y := hy.symm
          have hq8 : 0 ≤ q ∧ q ≤ 3 := by omega
          have e4 : IntKind.i64.wrap (x - q) = y := by rw [e3, IntKind.wrap_i64]; omega
          have N1 : Hid ((wr.drew.setCell ⟨g, p, none⟩ (.int .i64 y)).ownsRow w.heap.size 3 1 (.slice (some ⟨g, 0, none⟩) 16 cap) 16 (il (c2 xs (n + 1))) ∧ Only (fun _ => False) w (wr.drew.setCell ⟨g, p, none⟩ (.int .i64 y))) := by
            refine ⟨?_, k2.drew.setCell (p := ⟨g, p, none⟩) (fun hlt => absurd hlt (by have := HG.out; simp; omega)) _⟩
            rw [← hsn]
            exact own_setI (((Only.refl (fun _ => False) wr).drew).own k1 (fun _ _ f => f)) p y
          have i1 : (p : Int) < 16 := by omega
          have HP := hideIt hp
          clear k1 k2 hu hsn hx hp hy hq
          go_wp2_with fail
          go_region
          all_goals go_wp2
          all_goals go_roundw
          case rel =>
            have hp := HP.out
            exact ⟨n + 1, by omega, by go_num, N1.out⟩
          case measure => simp [intOf]; omega
        · obtain rfl : n = 3 := by omega
          have i1 : ¬ (p : Int) < 16 := by omega
          have F1 : Hid (wr.ownsRow w.heap.size 3 1 (.slice (some ⟨g, 0, none⟩) 16 cap) 16 (il (clampD key)) ∧ Only (fun _ => False) w wr) := by
            rw [← HC.out]; exact ⟨k1, k2⟩
          clear k1 k2 hp
          go_wp2
          go_ret
          exact ⟨_, rfl, F1.out⟩
end Go.Proofs.Ytjiippbjflpkkaa
