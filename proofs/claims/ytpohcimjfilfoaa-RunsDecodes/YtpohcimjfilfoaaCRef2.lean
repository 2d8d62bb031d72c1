/- Contracts of the reference for cursors: Fixed, Varint, Block, Fix, Blocked. -/
import Derived.Test.YtpohcimjfilfoaaCRef
namespace Go.Proofs.Ytpohcimjfilfoaa
open Go.RowKit

theorem sVarint_rd (ys : List Int) (hr : ∀ y ∈ ys, 0 ≤ y ∧ y ≤ 255) {a : Int} {k : Nat} {c : Int} (hs : sVarint ys = (a, k, c)) : rd 0 0 ys = (a, (k : Int), c) ∧ k ≤ ys.length := by
  rcases rd_cases ys hr with ⟨c', h, hc⟩ | ⟨a', k', h, h1, h2, _, h4, _⟩
  · rw [sVarint, h] at hs
    simp only [Prod.mk.injEq] at hs
    obtain ⟨rfl, rfl, rfl⟩ := hs
    exact ⟨h, by simp⟩
  · rw [sVarint, h] at hs
    simp only [Prod.mk.injEq, Int.toNat_natCast] at hs
    obtain ⟨rfl, rfl, rfl⟩ := hs
    exact ⟨h, h2⟩
theorem num_add (zs : List Int) (k : Nat) (hr : ∀ y ∈ zs, 0 ≤ y ∧ y ≤ 255) (h8 : zs.length ≤ 8) (h : k < zs.length) :
    (num (zs.take k) : Int) < 72057594037927936 ∧ (num (zs.take k) : Int) * 256 + zs.getD k 0 = (num (zs.take (k + 1)) : Int) := by
  have hl := num_lt (zs.take k) (fun y hy => hr y (List.mem_of_mem_take hy))
  rw [List.length_take, Nat.min_eq_left (by omega)] at hl
  have hp := pow256 (k := k) (by omega)
  have hy := hr (zs.getD k 0) (getD_mem zs k h)
  rw [take_snoc zs k h, num_snoc]
  refine ⟨by omega, ?_⟩
  generalize zs.getD k 0 = y at hy
  omega

set_option maxHeartbeats 400000 in
set_option maxRecDepth 100000 in
theorem rvarint_bs (ao : Option Addr) (m cap : Nat) (ys : List Int) (w : World) (h : Bs .u8 w (.slice ao m cap) ys) (nc : NoCap (.slice ao m cap)) (hr : ∀ y ∈ ys, 0 ≤ y ∧ y ≤ 255) {a : Int} {k : Nat} {c : Int} (hs : sVarint ys = (a, k, c)) :
    Calls Try.prog 22 #[.slice ao m cap] w fun e w' => ∃ ao' m' cap', e = .returned (.tuple #[.int .u64 a, .slice ao' m' cap', .int .i64 c]) ∧ Bs .u8 w' (.slice ao' m' cap') (ys.drop k) ∧ NoCap (.slice ao' m' cap') ∧ Only (fun _ => False) w w' := by
  obtain ⟨hrd, hk⟩ := sVarint_rd ys hr hs
  have hl := h.length
  have A := hideIt (rread_as _ ys w hrd h hr)
  have hc : m ≤ cap := by
    obtain ⟨ao', cap', e, hcap, _⟩ := h
    simp at e
    omega
  have j0 : (0 : Int) ≤ (k : Int) := by omega
  have j1 : (k : Int) ≤ (m : Int) := by omega
  have j2 : (k : Int) ≤ (cap : Int) := by omega
  have HH := hideIt (And.intro h nc)
  clear h nc hrd hs hk hl
  by_cases hcn : cap = k
  · subst hcn
    have H := hideIt (And.intro (HH.out.1.cut0 (n := cap) (by omega)) (HH.out.2.rest (n := cap) (m' := m - cap)))
    rw [if_pos rfl, Nat.sub_self] at H
    clear HH hc
    go_enter Try.func22, Try.ntmps22
    go_wp2_with fail
    refine A.out.mono ?_
    rintro e w1 ⟨rfl, rfl⟩
    go_wp2
    go_quiet (fail)
    go_wp2
    go_ret3
    exact ⟨_, _, _, rfl, H.out.1.keep ((Only.refl _ _).drewN nq) (fun _ _ f => f), H.out.2, (Only.refl _ _).drewN nq⟩
  · have H := hideIt (And.intro (HH.out.1.cut (n := k) (by omega)) (HH.out.2.rest (n := k) (m' := m - k)))
    rw [if_neg hcn] at H
    clear HH
    go_enter Try.func22, Try.ntmps22
    go_wp2_with fail
    refine A.out.mono ?_
    rintro e w1 ⟨rfl, rfl⟩
    go_wp2
    go_quiet (fail)
    go_wp2
    go_ret3
    exact ⟨_, _, _, rfl, H.out.1.keep ((Only.refl _ _).drewN nq) (fun _ _ f => f), H.out.2, (Only.refl _ _).drewN nq⟩

theorem fixL_take (v : Int) (n k : Nat) (h : k < n) : (fixL v n).take (k + 1) = (fixL v n).take k ++ [fixB v (n - 1 - k)] := by
  rw [take_snoc (fixL v n) k (by rw [fixL_len]; exact h)]
  congr 2
  rw [List.getD_eq_getElem?_getD]
  simp [fixL, h]

end Go.Proofs.Ytpohcimjfilfoaa
