/- The document's own answer: bytes as words; Quarter of four words in their places. -/
import Derived.Test.YtjiippbjflpkkaaAp0
import Derived.Test.YtjiippbjflpkkaaFw
namespace Go.Proofs.Ytjiippbjflpkkaa
open Go.RowKit

theorem or4l (a b c d : Nat) (ha : a < 256) (hb : b < 256) (hc : c < 256) (hd : d < 256) :
    bits .or .u32 (bits .or .u32 (bits .or .u32 (a : Int) (IntKind.u32.wrap ((b : Int) * 256))) (IntKind.u32.wrap ((c : Int) * 65536))) (IntKind.u32.wrap ((d : Int) * 16777216)) = ((a + b * 256 + c * 65536 + d * 16777216 : Nat) : Int) := by
  rw [IntKind.wrap_u32', IntKind.wrap_u32', IntKind.wrap_u32', show (d : Int) * 16777216 % 4294967296 = ((d * 16777216 : Nat) : Int) by omega, show (c : Int) * 65536 % 4294967296 = ((c * 65536 : Nat) : Int) by omega, show (b : Int) * 256 % 4294967296 = ((b * 256 : Nat) : Int) by omega]
  have e1 : a ||| b * 256 = a + b * 256 := or_high a b 8 (by omega)
  have e2 : (a + b * 256) ||| c * 65536 = a + b * 256 + c * 65536 := or_high _ c 16 (by omega)
  have e3 : (a + b * 256 + c * 65536) ||| d * 16777216 = a + b * 256 + c * 65536 + d * 16777216 := or_high _ d 24 (by omega)
  rw [u32_or_nat _ _ (by omega) (by omega), e1, u32_or_nat _ _ (by omega) (by omega), e2, u32_or_nat _ _ (by omega) (by omega), e3]

set_option maxHeartbeats 1600000 in
set_option maxRecDepth 100000 in
theorem rwords_any (v : Value) (p : List Int) (n : Nat) (hn : n ≤ 16) (h0 : 0 < n) (w : World) (hb : Bs .u8 w v p) (hp : p.length = 4 * n) (h8 : U8 p) :
    Calls Try.prog 42 #[v] w fun e w' => ∃ v', e = .returned v' ∧ w'.ownsRow w.heap.size 34 1 v' n (wl (ldW p n)) ∧ Only (fun _ => False) w w' := by
  obtain ⟨i0, hi, hz0, hz1, hz2⟩ := info_parts Try.infoU32
  have hne : p ≠ [] := by intro h; rw [h] at hp; simp at hp; omega
  have hv := hb.blk_lt hne
  obtain ⟨ao, cap, e0, hcap, hr⟩ := hb
  obtain ⟨bb, off, rfl, hcell⟩ := hr hne
  obtain ⟨m, hm⟩ : ∃ m, m = 4 * n := ⟨_, rfl⟩
  rw [hp, ← hm] at e0 hcell
  subst e0
  have hbb : bb < w.heap.size := hv bb rfl
  have HC := hideIt hcell
  have H8 := hideIt h8
  have HM := hideIt hm
  have hcap' : m ≤ cap := by omega
  have hm64 : m ≤ 64 := by omega
  clear hcell h8 hv hr hne hcap
  obtain ⟨F, hF⟩ : ∃ F : Nat → List Value, F = fun t => wl (ldW p t) := ⟨_, rfl⟩
  have F0 : Hid (F 0 = []) := by rw [hF]; exact rfl
  have FN : Hid (∀ t, F (t + 1) = F t ++ [((ld4 p t : Nat) : Int)].map (Value.int .u32)) := fun t => by
    rw [hF]; simp only; rw [ldW_next, wl_app]; rfl
  have F16 : Hid (F n = wl (ldW p n)) := by rw [hF]; exact rfl
  obtain ⟨D, hD⟩ : ∃ D, D = wl (ldW p n) := ⟨_, rfl⟩
  rw [← hD] at F16 ⊢
  clear hF hD hp hm
  go_enter Try.func42, Try.ntmps42
  go_wp2
  go_loopw [3, 4] (fun o i wr => ∃ t : Nat, t ≤ n ∧ i = .int .i64 ((4 * t : Nat) : Int) ∧ wr.ownsRow w.heap.size 34 1 o t (F t) ∧ Only (fun _ => False) w wr) (fun _ i _ => 4 * n - (intOf i).toNat)
  case atStart => exact ⟨0, by omega, rfl, by rw [F0.out]; exact World.ownsRow_nil _ _ _ _, Only.refl _ _⟩
  case round =>
    obtain ⟨t, ht, rfl, hown, hon⟩ := hrel
    obtain ⟨ao1, cap1, rfl⟩ := own_form hown
    have hsz := hon.size
    have hm := HM.out
    obtain ⟨k0, f0⟩ : ∃ k, k = 4 * t := ⟨_, rfl⟩
    rw [← f0]
    by_cases hlt : t < n
    · have hcw : ∀ j, j < m → wr.cell? ⟨bb, off + j, none⟩ = some (.int .u8 (p.getD j 0)) := fun j hj => by
        have := HC.out j hj
        rw [World.cell?_of_block (hon.block bb hbb (fun f => f))]; exact this
      obtain ⟨a, ea, la⟩ := u8_nat H8.out (4 * t)
      obtain ⟨b, eb, lb⟩ := u8_nat H8.out (4 * t + 1)
      obtain ⟨c, ec, lc⟩ := u8_nat H8.out (4 * t + 2)
      obtain ⟨d, ed, ld⟩ := u8_nat H8.out (4 * t + 3)
      have c0 := hcw (4 * t) (by omega)
      have c1 := hcw (4 * t + 1) (by omega)
      have c2 := hcw (4 * t + 2) (by omega)
      have c3 := hcw (4 * t + 3) (by omega)
      rw [ea] at c0
      rw [eb] at c1
      rw [ec] at c2
      rw [ed] at c3
      have hwd : ld4 p t = a + b * 256 + c * 65536 + d * 16777216 := by unfold ld4; rw [ea, eb, ec, ed]; rfl
      have HOR := hideIt (or4l a b c d la lb lc ld)
      rw [← hwd] at HOR
      have HFN := hideIt (FN.out t)
      obtain ⟨k1, f1⟩ : ∃ k, k = 4 * t + 1 := ⟨_, rfl⟩
      obtain ⟨k2, f2⟩ : ∃ k, k = 4 * t + 2 := ⟨_, rfl⟩
      obtain ⟨k3, f3⟩ : ∃ k, k = 4 * t + 3 := ⟨_, rfl⟩
      rw [← f0] at c0
      rw [← f1] at c1
      rw [← f2] at c2
      rw [← f3] at c3
      have g1 : (k0 : Int) + 1 = (k1 : Int) := by omega
      have g2 : (k0 : Int) + 2 = (k2 : Int) := by omega
      have g3 : (k0 : Int) + 3 = (k3 : Int) := by omega
      have m0 : (k0 : Int) < m := by omega
      have m1 : (k1 : Int) < m := by omega
      have m2 : (k2 : Int) < m := by omega
      have m3 : (k3 : Int) < m := by omega
      have r1 : IntKind.i64.wrap (k1 : Int) = (k1 : Int) := by rw [IntKind.wrap_i64]; omega
      have r2 : IntKind.i64.wrap (k2 : Int) = (k2 : Int) := by rw [IntKind.wrap_i64]; omega
      have r3 : IntKind.i64.wrap (k3 : Int) = (k3 : Int) := by rw [IntKind.wrap_i64]; omega
      have u0 : IntKind.u32.wrap (a : Int) = (a : Int) := by rw [IntKind.wrap_u32']; omega
      have u1 : IntKind.u32.wrap (b : Int) = (b : Int) := by rw [IntKind.wrap_u32']; omega
      have u2 : IntKind.u32.wrap (c : Int) = (c : Int) := by rw [IntKind.wrap_u32']; omega
      have u3 : IntKind.u32.wrap (d : Int) = (d : Int) := by rw [IntKind.wrap_u32']; omega
      have NB : (Value.slice ao1 t cap1).ownBlock ≠ some bb := fun e => by have := hown.lt bb e; omega
      have KA : Hid (∀ W W4 : World, (W.cell? ⟨bb, off + k0, none⟩ = some (Value.int .u8 a) ∧ W.cell? ⟨bb, off + k1, none⟩ = some (Value.int .u8 b) ∧ W.cell? ⟨bb, off + k2, none⟩ = some (Value.int .u8 c) ∧ W.cell? ⟨bb, off + k3, none⟩ = some (Value.int .u8 d)) → W.grownBy W4 (Value.slice ao1 t cap1).ownBlock → (W4.cell? ⟨bb, off + k0, none⟩ = some (Value.int .u8 a) ∧ W4.cell? ⟨bb, off + k1, none⟩ = some (Value.int .u8 b) ∧ W4.cell? ⟨bb, off + k2, none⟩ = some (Value.int .u8 c) ∧ W4.cell? ⟨bb, off + k3, none⟩ = some (Value.int .u8 d))) := fun W W4 ⟨q0, q1, q2, q3⟩ hg => ⟨grown_cell hg NB q0, grown_cell hg NB q1, grown_cell hg NB q2, grown_cell hg NB q3⟩
      have HON := hideIt hon
      have HOWN := hideIt hown
      have HK0 := hideIt f0
      clear NB ea eb ec ed hwd f0 f1 f2 f3 hcw hon hown la lb lc ld hm
      obtain ⟨X, hX⟩ : ∃ X, X = bits .or .u32 (bits .or .u32 (bits .or .u32 (a : Int) (IntKind.u32.wrap ((b : Int) * 256))) (IntKind.u32.wrap ((c : Int) * 65536))) (IntKind.u32.wrap ((d : Int) * 16777216)) := ⟨_, rfl⟩
      rw [← hX] at HOR
      have hX' := hX.symm
      have BL := hideIt (Bs.litN .u32 wr 34 [X] _ _ rfl rfl)
      have OWA := hideIt (HOWN.out.alloc (.cells #[.int .u32 X] 34))
      clear hX
      go_wp2
      go_region_held3 (fun W => W.cell? ⟨bb, off + k0, none⟩ = some (Value.int .u8 a) ∧ W.cell? ⟨bb, off + k1, none⟩ = some (Value.int .u8 b) ∧ W.cell? ⟨bb, off + k2, none⟩ = some (Value.int .u8 c) ∧ W.cell? ⟨bb, off + k3, none⟩ = some (Value.int .u8 d)) (first | go_keep | exact KA.out _ _ (by assumption) hgrow') (first | (refine step_append_bs rfl (.tmp 12) (.tmp 42) 57 rfl w.heap.size 34 i0 (.int .u32 0) 4 Try.underlying57 hi hz0 hz1 hz2 rfl _ t (F t) rfl OWA.out .u32 _ [X] rfl BL.out (NoCap.some _ _ _) (by simp [maxLen]; omega) (by simp; omega) (by simp; omega) ?_; intro v' w4 hown' hgrow'))
      have N1 : Hid (w4.ownsRow w.heap.size 34 1 v' (t + 1) (F (t + 1))) := by
        show _
        rw [HFN.out, ← HOR.out]; exact hown'
      have N2 : Hid (Only (fun _ => False) w w4) := ((HON.out.alloc _).drew).grown hgrow' (fun k hk e => by have := HOWN.out.lt k e; omega)
      have g4 : (k0 : Int) + 4 = ((4 * (t + 1) : Nat) : Int) := by have := HK0.out; omega
      have r4 : IntKind.i64.wrap ((k0 : Int) + 4) = ((4 * (t + 1) : Nat) : Int) := by rw [g4, IntKind.wrap_i64]; omega
      clear hown' hgrow' KA BL OWA HOR hX' HOWN HON HFN
      go_simp
      go_wp2
      go_roundw
      case rel => exact ⟨t + 1, by omega, by go_num, N1.out, N2.out⟩
      case measure => simp [intOf]; omega
    · obtain rfl : t = n := by omega
      rw [F16.out] at hown
      have HON := hideIt hon
      have HOWN := hideIt hown
      have g3 : IntKind.i64.wrap ((k0 : Int) + 3) = (k0 : Int) + 3 := by rw [IntKind.wrap_i64]; omega
      have g4 : ¬ ((k0 : Int) + 3 < (m : Int)) := by omega
      clear hon hown F0 FN F16 HC f0 hm
      go_wp2
      go_ret
      exact ⟨_, rfl, HOWN.out, HON.out⟩
end Go.Proofs.Ytjiippbjflpkkaa
