/- Contracts of the reference for cursors: Byte, Bytes, Fixed, Varint, Block, Fix, Blocked. -/
import Derived.Test.YtiolgenaefillaaGreatG3
import Derived.Test.YtiolgenaefillaaGreatVRef
import Derived.Deep.RegionLaw
import Derived.BigRegion
namespace Go.Proofs.YtiolgenaefillaaGreat
open Go.RowKit

theorem getD_mem (l : List Int) (k : Nat) (h : k < l.length) : l.getD k 0 ∈ l := by
  rw [List.getD_eq_getElem?_getD, List.getElem?_eq_getElem h]; simp
/-- a slice from n on, as the walk leaves it -/
theorem Bs.rest {k : IntKind} {w : World} {ao : Option Addr} {m cap n : Nat} {xs : List Int} (h : Bs k w (.slice ao m cap) xs) (hn : n ≤ m) : Bs k w (.slice (if cap = n then ao else ao.map (fun x => x.add n)) (m - n) (cap - n)) (xs.drop n) := by
  split
  · rename_i hc
    subst hc
    rw [Nat.sub_self]
    exact h.cut0 hn
  · exact h.cut hn
theorem NoCap.rest {ao : Option Addr} {m cap n m' : Nat} (h : NoCap (.slice ao m cap)) : NoCap (.slice (if cap = n then ao else ao.map (fun x => x.add n)) m' (cap - n)) := by
  cases ao with
  | none =>
    have := h m cap rfl
    subst this
    intro a b e
    simp at e
    omega
  | some x =>
    split
    · exact NoCap.some _ _ _
    · exact NoCap.some _ _ _

set_option maxHeartbeats 400000 in
set_option maxRecDepth 100000 in
theorem rbytes_at (ao : Option Addr) (m cap : Nat) (ys : List Int) (w : World) (h : Bs .u8 w (.slice ao m cap) ys) (nc : NoCap (.slice ao m cap)) (hm : m ≤ 1000000000000) (n : Int) {a : List Int} {k : Nat} {c : Int} (hs : sBytes n ys = (a, k, c)) :
    Calls Tryz.prog 65 #[.slice ao m cap, .int .i64 n] w fun e w' => ∃ v1 ao' m' cap', e = .returned (.tuple #[v1, .slice ao' m' cap', .int .i64 c]) ∧ Bs .u8 w' v1 a ∧ Bs .u8 w' (.slice ao' m' cap') (ys.drop k) ∧ NoCap (.slice ao' m' cap') ∧ Only (fun _ => False) w w' ∧ (Value.slice ao' m' cap').ownBlock = (Value.slice ao m cap).ownBlock := by
  have HL := hideIt h.length
  by_cases h0 : n < 0
  · have hs2 : sBytes n ys = ([], 0, 1) := if_pos h0
    rw [hs2] at hs
    simp only [Prod.mk.injEq] at hs
    obtain ⟨rfl, rfl, rfl⟩ := hs
    have H := hideIt (And.intro h nc)
    clear h nc
    go_enter Tryz.func65, Tryz.ntmps65
    go_wp2
    go_ret3
    exact ⟨.slice none 0 0, _, _, _, rfl, Bs.nil _ _, H.out.1, H.out.2, Only.refl _ _, rfl⟩
  have d0 : decide (n < 0) = false := decide_eq_false h0
  obtain ⟨n, rfl⟩ := Int.eq_ofNat_of_zero_le (Int.not_lt.1 h0)
  by_cases h1 : (m : Int) < (n : Int)
  · have hs2 : sBytes n ys = ([], 0, 2) := by
      simp only [sBytes]
      rw [if_neg h0, if_pos (by have := HL.out; omega)]
    rw [hs2] at hs
    simp only [Prod.mk.injEq] at hs
    obtain ⟨rfl, rfl, rfl⟩ := hs
    have H := hideIt (And.intro h nc)
    clear h nc
    go_enter Tryz.func65, Tryz.ntmps65
    go_wp2
    go_ret3
    exact ⟨.slice none 0 0, _, _, _, rfl, Bs.nil _ _, H.out.1, H.out.2, Only.refl _ _, rfl⟩
  · have hs2 : sBytes n ys = (ys.take n, n, 0) := by
      simp only [sBytes]
      rw [if_neg h0, if_neg (by have := HL.out; omega)]
      rfl
    rw [hs2] at hs
    simp only [Prod.mk.injEq] at hs
    obtain ⟨rfl, rfl, rfl⟩ := hs
    have d1 : decide ((m : Int) < (n : Int)) = false := decide_eq_false h1
    obtain ⟨i0, hi, hz0, hz1, hz2⟩ := info_parts Tryz.infoU8
    have ho := World.ownsRow_made (base := w.heap.size) (e := 5) (size := 1) w.drew #[] 0 (Nat.le_refl _) (by unfold maxLen; omega) rfl
    have hc : m ≤ cap := by
      obtain ⟨ao', cap', e, hcap, _⟩ := h
      simp at e
      omega
    have j0 : (0 : Int) ≤ (n : Int) := by omega
    have j1 : (n : Int) ≤ (m : Int) := by omega
    have j2 : (n : Int) ≤ (cap : Int) := by omega
    have oa : Only (fun _ => False) w (w.drew.alloc (.cells #[] 5)) := ((Only.refl _ _).drew).alloc _
    have nh : NoCap (.slice ao n cap) := by
      intro a b e
      cases e
      exact nc m cap rfl
    have HA := hideIt (And.intro ((h.head (n := n) (by omega)).keep oa (fun _ _ f => f)) nh)
    have HO := hideIt ho
    have hlt : (ys.take n).length = n := by rw [List.length_take]; have := HL.out; omega
    have HLT := hideIt hlt
    have FIN : ∀ v' w1, w1.ownsRow w.heap.size 5 1 v' (0 + (ys.take n).length) ([] ++ (ys.take n).map (Value.int .u8)) → (w.alloc (Obj.cells #[] 5)).drew.grownBy w1 (Value.slice (some ⟨w.heap.size, 0, none⟩) 0 0).ownBlock →
        Bs .u8 w1 v' (ys.take n) ∧ Only (fun _ => False) w w1 := by
      intro v' w1 hown hgrow
      rw [Nat.zero_add, List.nil_append] at hown
      refine ⟨Bs.of_own hown, oa.grown hgrow (fun k hk e => ?_)⟩
      simp [Value.ownBlock] at e
      omega
    have FN := hideIt FIN
    have HH := hideIt (And.intro h nc)
    clear h nc ho nh oa hlt FIN
    by_cases hcn : cap = n
    · subst hcn
      have H := hideIt (And.intro (HH.out.1.cut0 (n := cap) (by omega)) (HH.out.2.rest (n := cap) (m' := m - cap)))
      rw [if_pos rfl, Nat.sub_self] at H
      clear HH hc
      go_enter Tryz.func65, Tryz.ntmps65
      go_wp2
      go_region_law (refine step_append_bs rfl (.tmp 15) (.tmp 18) 23 rfl w.heap.size 5 i0 (.int .u8 0) 1 Tryz.underlying23 hi hz0 hz1 hz2 rfl (.slice (some ⟨w.heap.size, 0, none⟩) 0 0) 0 [] rfl HO.out .u8 _ (ys.take cap) rfl HA.out.1 HA.out.2 (by rw [HLT.out]; unfold maxLen; omega) (by rw [HLT.out]; omega) (by simp) ?_; intro v' w1 hown hgrow)
      have F := hideIt (FN.out v' w1 hown hgrow)
      clear hown hgrow FN HO HA
      go_wp2
      go_ret3
      obtain ⟨f1, f2⟩ := F.out
      exact ⟨v', _, _, _, rfl, f1, H.out.1.keep f2 (fun _ _ f => f), H.out.2, f2, own_any _ _ _ _ _⟩
    · have H := hideIt (And.intro (HH.out.1.cut (n := n) (by omega)) (HH.out.2.rest (n := n) (m' := m - n)))
      rw [if_neg hcn] at H
      clear HH
      go_enter Tryz.func65, Tryz.ntmps65
      go_wp2
      go_region_law (refine step_append_bs rfl (.tmp 15) (.tmp 18) 23 rfl w.heap.size 5 i0 (.int .u8 0) 1 Tryz.underlying23 hi hz0 hz1 hz2 rfl (.slice (some ⟨w.heap.size, 0, none⟩) 0 0) 0 [] rfl HO.out .u8 _ (ys.take n) rfl HA.out.1 HA.out.2 (by rw [HLT.out]; unfold maxLen; omega) (by rw [HLT.out]; omega) (by simp) ?_; intro v' w1 hown hgrow)
      have F := hideIt (FN.out v' w1 hown hgrow)
      clear hown hgrow FN HO HA
      go_wp2
      go_ret3
      obtain ⟨f1, f2⟩ := F.out
      exact ⟨v', _, _, _, rfl, f1, H.out.1.keep f2 (fun _ _ f => f), H.out.2, f2, own_cut _ _ _ _ _ _⟩
theorem rbytes_bs (ao : Option Addr) (m cap : Nat) (ys : List Int) (w : World) (h : Bs .u8 w (.slice ao m cap) ys) (nc : NoCap (.slice ao m cap)) (hm : m ≤ 1000000000000) (n : Int) {a : List Int} {k : Nat} {c : Int} (hs : sBytes n ys = (a, k, c)) :
    Calls Tryz.prog 65 #[.slice ao m cap, .int .i64 n] w fun e w' => ∃ v1 ao' m' cap', e = .returned (.tuple #[v1, .slice ao' m' cap', .int .i64 c]) ∧ Bs .u8 w' v1 a ∧ Bs .u8 w' (.slice ao' m' cap') (ys.drop k) ∧ NoCap (.slice ao' m' cap') ∧ Only (fun _ => False) w w' :=
  (rbytes_at ao m cap ys w h nc hm n hs).mono fun _ _ ⟨v1, ao', m', cap', e, b1, b2, n1, o, _⟩ => ⟨v1, ao', m', cap', e, b1, b2, n1, o⟩
end Go.Proofs.YtiolgenaefillaaGreat
