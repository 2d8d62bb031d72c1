/- A tag with any bit turned is refused: the walk. -/
import Derived.Test.YtjljpdniofiaaaaAw14
import Derived.Test.YtjljpdniofiaaaaApw
import Derived.Test.YtjljpdniofiaaaaXf14
namespace Go.Proofs.Ytjljpdniofiaaaa
open Go.RowKit

set_option maxHeartbeats 1600000 in
set_option maxRecDepth 100000 in
theorem bits_walk (vxk : Value) (vxb : Value) (xk : List Int) (xb : List Int) (bit cut : Int) (w : World) (hbxk : Bs .u8 w vxk xk) (ncxk : NoCap vxk) (h8xk : U8 xk) (hbxb : Bs .u8 w vxb xb) (ncxb : NoCap vxb) (h8xb : U8 xb) :
    Calls Try.prog 5 #[vxk, vxb, .int .i64 bit, .int .i64 cut] w fun e w' => e = .returned (.bool true) ∧ Below w.heap.size w w' := by
  obtain ⟨aoxk, capxk, rfl⟩ := hbxk.len
  obtain ⟨aoxb, capxb, rfl⟩ := hbxb.len
  have A := hideIt (awake_any w)
  obtain ⟨nxk, hnxk⟩ : ∃ n, n = xk.length := ⟨_, rfl⟩
  rw [← hnxk] at hbxk ncxk ⊢
  obtain ⟨nxb, hnxb⟩ : ∃ n, n = xb.length := ⟨_, rfl⟩
  rw [← hnxb] at hbxb ncxb ⊢
  by_cases hlxk : 300 < nxk
  · have dxk : decide ((300 : Int) < (nxk : Int)) = true := decide_eq_true (by omega)
    have dxk' : decide (300 < nxk) = true := decide_eq_true hlxk
    clear hbxk ncxk h8xk hnxk hbxb ncxb h8xb hnxb hlxk
    go_enter Try.func5, Try.ntmps5
    go_wp2_with fail
    refine A.out.mono ?_
    rintro e w1 ⟨rfl, o1⟩
    have O1 := hideIt o1
    clear o1 A
    go_wp2
    go_ret
    exact ⟨rfl, O1.out.low (Nat.le_refl _)⟩
  · by_cases hlxb : 1000 < nxb
    · have dxk : decide ((300 : Int) < (nxk : Int)) = false := decide_eq_false (by omega)
      have dxk' : decide (300 < nxk) = false := decide_eq_false hlxk
      have dxb : decide ((1000 : Int) < (nxb : Int)) = true := decide_eq_true (by omega)
      have dxb' : decide (1000 < nxb) = true := decide_eq_true hlxb
      clear hbxk ncxk h8xk hnxk hbxb ncxb h8xb hnxb hlxk hlxb
      go_enter Try.func5, Try.ntmps5
      go_wp2_with fail
      refine A.out.mono ?_
      rintro e w1 ⟨rfl, o1⟩
      have O1 := hideIt o1
      clear o1 A
      go_wp2
      go_ret
      exact ⟨rfl, O1.out.low (Nat.le_refl _)⟩
    · have dxk : decide ((300 : Int) < (nxk : Int)) = false := decide_eq_false (by omega)
      have dxk' : decide (300 < nxk) = false := decide_eq_false hlxk
      have dxb : decide ((1000 : Int) < (nxb : Int)) = false := decide_eq_false (by omega)
      have dxb' : decide (1000 < nxb) = false := decide_eq_false hlxb
      have Hxk := hideIt (And.intro hbxk (And.intro ncxk (And.intro h8xk (And.intro hnxk (show nxk ≤ 300 by omega)))))
      have Hxb := hideIt (And.intro hbxb (And.intro ncxb (And.intro h8xb (And.intro hnxb (show nxb ≤ 1000 by omega)))))
      clear hbxk ncxk h8xk hnxk hlxk hbxb ncxb h8xb hnxb hlxb
      obtain ⟨i0, hi, hz0, hz1, hz2⟩ := info_parts Try.infoU8
      have hand1 := i64_low bit 8 (by decide)
      rw [show ((2 ^ 8 - 1 : Nat) : Int) = 255 from rfl, show ((2 ^ 8 : Nat) : Int) = 256 from rfl] at hand1
      obtain ⟨k, hk⟩ : ∃ k : Nat, bit % 256 = (k : Int) := ⟨(bit % 256).toNat, by omega⟩
      rw [hk] at hand1
      have hk8 : k < 256 := by omega
      have hand2 := i64_low cut 5 (by decide)
      rw [show ((2 ^ 5 - 1 : Nat) : Int) = 31 from rfl, show ((2 ^ 5 : Nat) : Int) = 32 from rfl] at hand2
      obtain ⟨c, hc⟩ : ∃ c : Nat, cut % 32 = (c : Int) := ⟨(cut % 32).toNat, by omega⟩
      rw [hc] at hand2
      have hc32 : c < 32 := by omega
      have hML : (MACL xk xb).length = 32 := MACL_len _ _
      have hM8 : U8 (MACL xk xb) := MACL_u8 _ _
      obtain ⟨L, hL⟩ : ∃ L, L = MACL xk xb := ⟨_, rfl⟩
      rw [← hL] at hML hM8
      have HL := hideIt (And.intro hL (And.intro hML hM8))
      obtain ⟨x, hx⟩ : ∃ x, x = L.getD (k / 8) 0 := ⟨_, rfl⟩
      have hxr := hM8.at (k / 8)
      rw [← hx] at hxr
      have hp : 2 ^ (k % 8) < 256 := by
        have : 2 ^ (k % 8) ≤ 2 ^ 7 := Nat.pow_le_pow_right (by decide) (by omega)
        omega
      have hxor := u8_xor_nat x.toNat (2 ^ (k % 8)) (by omega) hp
      have hxc : ((x.toNat : Nat) : Int) = x := by omega
      rw [hxc] at hxor
      obtain ⟨z, hzz⟩ : ∃ z : Int, z = ((x.toNat ^^^ 2 ^ (k % 8) : Nat) : Int) := ⟨_, rfl⟩
      rw [← hzz] at hxor
      have hpc : ((2 ^ (k % 8) : Nat) : Int) = (2 : Int) ^ (k % 8) := by simp
      have hpm : (2 : Int) ^ (k % 8) % 256 = ((2 ^ (k % 8) : Nat) : Int) := by
        rw [← hpc]
        generalize 2 ^ (k % 8) = P at hp
        omega
      rw [← hpm] at hxor
      clear hpc hpm
      have HE : Hid (decide (L = L.set (k / 8) z) = false) := by
        show _ = _
        rw [hzz, hx]
        refine decide_eq_false (fun h => ?_)
        have h1 := (set_turned L hM8 (k / 8) (by omega) (2 ^ (k % 8))).1 h
        have h2 : 0 < 2 ^ (k % 8) := Nat.pow_pos (by decide)
        omega
      have HC8 : Hid (U8 (L.set (k / 8) z)) := fun y hy => by
        rcases List.mem_or_eq_of_mem_set hy with h | h
        · exact hM8 y h
        · subst h
          have : x.toNat ^^^ 2 ^ (k % 8) < 256 := Nat.xor_lt_two_pow (n := 8) (by omega) hp
          omega
      have HT : Hid (decide (L = L.take c) = false) := by
        refine decide_eq_false (fun h => ?_)
        have := congrArg List.length h
        rw [List.length_take] at this
        omega
      have HX := hideIt hx
      have hcI : (c : Int) ≤ 31 := by omega
      clear hk hc hL hx hzz hxr
      go_enter Try.func5, Try.ntmps5
      go_wp2_with fail
      refine A.out.mono ?_
      rintro e w1 ⟨rfl, o1⟩
      have O1 := hideIt o1
      have M1 := hideIt (mac_bs (.slice aoxk nxk capxk) (.slice aoxb nxb capxb) xk xb w1 (Hxk.out.1.past o1) Hxk.out.2.2.1 (by have := Hxk.out.2.2.2; omega) (Hxb.out.1.past o1) Hxb.out.2.2.1 (by have := Hxb.out.2.2.2; omega))
      rw [← HL.out.1] at M1
      clear o1 A
      go_wp2_with fail
      refine M1.out.mono ?_
      rintro e w2 ⟨v2, rfl, own2, o2⟩
      rw [HL.out.1] at own2
      obtain ⟨b2, g2, c2, rfl, _⟩ := mac_form own2
      rw [← HL.out.1] at b2
      have O2 := hideIt (O1.out.same o2)
      have B2 := hideIt b2
      have C1 := hideIt (check_bs (.slice aoxk nxk capxk) (.slice aoxb nxb capxb) (.slice (some ⟨g2, 0, none⟩) 32 c2) xk xb L w2 (Hxk.out.1.past O2.out) Hxk.out.2.2.1 (by have := Hxk.out.2.2.2; omega) (Hxb.out.1.past O2.out) Hxb.out.2.2.1 (by have := Hxb.out.2.2.2; omega) b2 HL.out.2.2)
      rw [← HL.out.1, decide_eq_true (rfl : L = L)] at C1
      have cc2 : (32 : Int) ≤ (c2 : Int) := by
        have : 32 ≤ c2 := by obtain ⟨_, _, e, h, _⟩ := b2; simp at e; obtain ⟨_, _, rfl⟩ := e; rw [HL.out.2.1] at h; exact h
        omega
      have cc3 : (c : Int) ≤ (c2 : Int) := by omega
      clear o2 own2 b2 M1
      go_wp2_with fail
      refine C1.out.mono ?_
      rintro e w3 ⟨rfl, o3⟩
      have O3 := hideIt (O2.out.same o3)
      have B3 := hideIt (B2.out.past o3)
      have ho3 := World.ownsRow_made (base := w3.heap.size) (e := 5) (size := 1) w3 #[] 0 (Nat.le_refl _) (by unfold maxLen; omega) rfl
      have HA3 := hideIt (B3.out.past ((Only.refl (fun _ => False) w3).alloc (.cells #[] 5)))
      clear o3 C1 B2
      go_wp2_with (at_builtin; refine wpList_append_bs _ rfl _ _ 22 rfl w3.heap.size 5 i0 (.int .u8 0) 1 Try.underlying22 hi hz0 hz1 hz2 rfl (.slice (some ⟨w3.heap.size, 0, none⟩) 0 0) 0 [] rfl ho3 .u8 (.slice (some ⟨g2, 0, none⟩) 32 c2) L rfl HA3.out (NoCap.some _ _ _) (by have := HL.out.2.1; simp [maxLen]; omega) (by have := HL.out.2.1; omega) (by simp) ?_)
      intro v4 w4 hown4 hgrow4 hnil4 hob4
      have q4 : Only (fun _ => False) w3 w4 := ((Only.refl _ _).alloc _).grown hgrow4 (fun k hk e => by simp [Value.ownBlock] at e; omega)
      have O4 := hideIt (O3.out.same q4)
      have B4 := hideIt (B3.out.past q4)
      have hown5 : w4.ownsRow w3.heap.size 5 1 v4 32 (L.map (Value.int .u8)) := by
        exact hown4
      obtain ⟨g4, c4, e4⟩ : ∃ g cap, v4 = .slice (some ⟨g, 0, none⟩) 32 cap := by
        rcases hown5.2 with ⟨_, h0⟩ | ⟨g, cap, cur, hv, _⟩
        · omega
        · exact ⟨g, cap, hv⟩
      subst e4
      have b4 : Bs .u8 w4 (.slice (some ⟨g4, 0, none⟩) 32 c4) L := Bs.of_own (by rw [HL.out.2.1]; exact hown5)
      have hc4 : w4.cell? ⟨g4, k / 8, none⟩ = some (.int .u8 x) := by
        obtain ⟨b', off', cap', e, hc⟩ := b4.at (k / 8) (by rw [HL.out.2.1]; omega)
        simp at e
        obtain ⟨⟨rfl, rfl⟩, _, rfl⟩ := e
        rw [Nat.zero_add, ← HX.out] at hc; exact hc
      have hf4 : w4.frozen? ⟨g4, k / 8, none⟩ = false := own_frozen hown5 (k / 8)
      have hg4 := (hown5.lt g4 rfl).1
      obtain ⟨w5, hw5⟩ : ∃ w5, w5 = w4.setCell ⟨g4, k / 8, none⟩ (.int .u8 z) := ⟨_, rfl⟩
      have B5 : Hid (Bs .u8 w5 (.slice (some ⟨g4, 0, none⟩) 32 c4) (L.set (k / 8) z)) := by
        show _
        rw [hw5]; exact b4.store (k / 8) (by omega) z
      have oc : Only (fun k => k = g4) w4 w5 := by rw [hw5]; exact (Only.refl (fun k => k = g4) w4).setCell (p := ⟨g4, k / 8, none⟩) (fun _ => rfl) _
      have O5 : Hid (Only (fun _ => False) w w5) := O4.out.trans oc (fun i hi e => by have := O3.out.size; omega)
      have B5m : Hid (Bs .u8 w5 (.slice (some ⟨g2, 0, none⟩) 32 c2) L) := B3.out.past (q4.trans oc (fun i hi e => by omega))
      have HW5 := hideIt hw5
      have C2 := hideIt (check_bs (.slice aoxk nxk capxk) (.slice aoxb nxb capxb) (.slice (some ⟨g4, 0, none⟩) 32 c4) xk xb (L.set (k / 8) z) w5 (Hxk.out.1.past O5.out) Hxk.out.2.2.1 (by have := Hxk.out.2.2.2; omega) (Hxb.out.1.past O5.out) Hxb.out.2.2.1 (by have := Hxb.out.2.2.2; omega) B5.out HC8.out)
      rw [← HL.out.1, HE.out] at C2
      have kq : (k : Int) / 8 < 32 := by omega
      have kq0 : (0 : Int) ≤ (k : Int) / 8 := by omega
      clear hown4 hgrow4 hnil4 hob4 q4 ho3 HA3 hown5 b4 hg4 hw5 oc B3 B4 hp hxc
      have sh0 : True := trivial
      go_wp2_with fail
      rw [← HW5.out]
      refine C2.out.mono ?_
      rintro e w6 ⟨rfl, o6⟩
      have O6 := hideIt (O5.out.same o6)
      have B6 := hideIt (B5m.out.past o6)
      have C3 := hideIt (check_bs (.slice aoxk nxk capxk) (.slice aoxb nxb capxb) (.slice (some ⟨g2, 0, none⟩) c c2) xk xb (L.take c) w6 (Hxk.out.1.past O6.out) Hxk.out.2.2.1 (by have := Hxk.out.2.2.2; omega) (Hxb.out.1.past O6.out) Hxb.out.2.2.1 (by have := Hxb.out.2.2.2; omega) (B6.out.head (by omega)) (HL.out.2.2.take c))
      rw [← HL.out.1, HT.out] at C3
      clear o6 C2 B5 B5m hc4 hf4
      go_wp2_with fail
      refine C3.out.mono ?_
      rintro e w7 ⟨rfl, o7⟩
      have O7 := hideIt (O6.out.same o7)
      have B7 := hideIt (B6.out.past o7)
      clear o7 C3 B6
      have ho8 := World.ownsRow_made (base := w7.heap.size) (e := 5) (size := 1) w7 #[] 0 (Nat.le_refl _) (by unfold maxLen; omega) rfl
      have HA8 := hideIt (And.intro (B7.out.past ((Only.refl (fun _ => False) w7).alloc (.cells #[] 5))) (NoCap.some ⟨g2, 0, none⟩ 32 c2))
      go_wp2_with (first
        | (at_builtin; refine wpList_append_bsW _ rfl _ _ 22 rfl w7.heap.size 5 i0 (.int .u8 0) 1 Try.underlying22 hi hz0 hz1 hz2 rfl (.slice (some ⟨w7.heap.size, 0, none⟩) 0 0) 0 [] rfl ho8 .u8 (.slice (some ⟨g2, 0, none⟩) 32 c2) L rfl HA8.out.1 HA8.out.2 (by have := HL.out.2.1; simp [maxLen]; omega) (by have := HL.out.2.1; omega) (by simp) ?_; intro v8 w8 hown8 hgrow8)
        | (at_builtin; refine wpList_append_bsW _ rfl _ _ 22 rfl w7.heap.size 5 i0 (.int .u8 0) 1 Try.underlying22 hi hz0 hz1 hz2 rfl v8 (0 + L.length) _ rfl (hown8.alloc _) .u8 _ [0] rfl (Bs.litN .u8 w8 5 [0] _ _ rfl rfl) (NoCap.some _ _ _) (by have := HL.out.2.1; simp [maxLen]; omega) (by have := HL.out.2.1; simp; omega) (by have := hgrow8.size; simp at this ⊢; omega) ?_; intro v9 w9 hown9 hgrow9))
      have q8 : Only (fun _ => False) w7 w8 := ((Only.refl _ _).alloc _).grown hgrow8 (fun k hk e => by simp [Value.ownBlock] at e; omega)
      have q9 : Only (fun _ => False) w7 w9 := (q8.alloc _).grown hgrow9 (fun k hk e => by have := hown8.lt k e; omega)
      have bb9 : Bs .u8 w9 v9 (L ++ [0]) := Bs.of_own (by
        have := hown9
        rw [Nat.zero_add, List.nil_append, ← List.map_append] at this
        rw [List.length_append]; exact this)
      have O9 := hideIt (O7.out.same q9)
      have C4 := hideIt (check_bs (.slice aoxk nxk capxk) (.slice aoxb nxb capxb) v9 xk xb (L ++ [0]) w9 (Hxk.out.1.past O9.out) Hxk.out.2.2.1 (by have := Hxk.out.2.2.2; omega) (Hxb.out.1.past O9.out) Hxb.out.2.2.1 (by have := Hxb.out.2.2.2; omega) bb9 (HL.out.2.2.app (fun y hy => by rw [List.mem_singleton] at hy; subst hy; decide)))
      rw [← HL.out.1, decide_eq_false (one_more L 0)] at C4
      obtain ⟨ao9, cap9, e9⟩ := bb9.len
      obtain ⟨p9, hp9⟩ : ∃ p, p = (L ++ [(0 : Int)]).length := ⟨_, rfl⟩
      rw [← hp9] at e9
      subst e9
      clear hown8 hgrow8 hown9 hgrow9 q8 q9 bb9 ho8 HA8 hp9 B7
      go_wp2_with fail
      refine C4.out.mono ?_
      rintro e w10 ⟨rfl, o10⟩
      have O10 := hideIt (O9.out.same o10)
      clear o10 C4
      go_wp2
      go_ret
      exact ⟨rfl, O10.out.low (Nat.le_refl _)⟩
end Go.Proofs.Ytjljpdniofiaaaa
