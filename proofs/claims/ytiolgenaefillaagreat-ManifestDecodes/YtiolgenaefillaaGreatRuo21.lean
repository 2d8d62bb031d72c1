/- The document's Varint and Block: where what is left lies. -/
import Derived.Test.YtiolgenaefillaaGreatCRef2
import Derived.Deep.RegionLaw
namespace Go.Proofs.YtiolgenaefillaaGreat
open Go.RowKit

set_option maxHeartbeats 800000 in
set_option maxRecDepth 100000 in
theorem rvarint_ob (ao : Option Addr) (m cap : Nat) (ys : List Int) (w : World) (h : Bs .u8 w (.slice ao m cap) ys) (nc : NoCap (.slice ao m cap)) (hr : ∀ y ∈ ys, 0 ≤ y ∧ y ≤ 255) {a : Int} {k : Nat} {c : Int} (hs : sVarint ys = (a, k, c)) :
    Calls Tryz.prog 67 #[.slice ao m cap] w fun e w' => ∃ ao' m' cap', e = .returned (.tuple #[.int .u64 a, .slice ao' m' cap', .int .i64 c]) ∧ Bs .u8 w' (.slice ao' m' cap') (ys.drop k) ∧ NoCap (.slice ao' m' cap') ∧ Only (fun _ => False) w w' ∧ (Value.slice ao' m' cap').ownBlock = (Value.slice ao m cap).ownBlock := by
  obtain ⟨hrd, hk⟩ := sVarint_rd ys hr hs
  have hl := h.length
  have A := hideIt (rread_as _ ys w hrd h hr)
  have hc : m ≤ cap := by
    obtain ⟨ao', cap', e, hcap, _⟩ := h
    simp at e
    omega
  have j0 : (0 : Int) ≤ (k : Int) := by omega
  have j1 : (k : Int) ≤ (m : Int) := by omega
  have j2 : (k : Int) ≤ (cap : Int) := by omega
  have HH := hideIt (And.intro h nc)
  clear h nc hrd hs hk hl
  by_cases hcn : cap = k
  · subst hcn
    have H := hideIt (And.intro (HH.out.1.cut0 (n := cap) (by omega)) (HH.out.2.rest (n := cap) (m' := m - cap)))
    rw [if_pos rfl, Nat.sub_self] at H
    clear HH hc
    go_enter Tryz.func67, Tryz.ntmps67
    go_wp2_with fail
    refine A.out.mono ?_
    rintro e w1 ⟨rfl, rfl⟩
    go_wp2
    go_quiet (fail)
    go_wp2
    go_ret3
    exact ⟨_, _, _, rfl, H.out.1.keep ((Only.refl _ _).drewN nq) (fun _ _ f => f), H.out.2, (Only.refl _ _).drewN nq, own_any _ _ _ _ _⟩
  · have H := hideIt (And.intro (HH.out.1.cut (n := k) (by omega)) (HH.out.2.rest (n := k) (m' := m - k)))
    rw [if_neg hcn] at H
    clear HH
    go_enter Tryz.func67, Tryz.ntmps67
    go_wp2_with fail
    refine A.out.mono ?_
    rintro e w1 ⟨rfl, rfl⟩
    go_wp2
    go_quiet (fail)
    go_wp2
    go_ret3
    exact ⟨_, _, _, rfl, H.out.1.keep ((Only.refl _ _).drewN nq) (fun _ _ f => f), H.out.2, (Only.refl _ _).drewN nq, own_cut _ _ _ _ _ _⟩
set_option maxHeartbeats 800000 in
set_option maxRecDepth 100000 in
theorem rblock_ob (ao : Option Addr) (m cap : Nat) (ys : List Int) (w : World) (h : Bs .u8 w (.slice ao m cap) ys) (nc : NoCap (.slice ao m cap)) (hr : ∀ y ∈ ys, 0 ≤ y ∧ y ≤ 255) (hm : m ≤ 1000000000000) (most : Int) (hmost : most ≤ 9223372036854775807) {a : List Int} {k : Nat} {c : Int} (hs : sBlock most ys = (a, k, c)) :
    Calls Tryz.prog 66 #[.slice ao m cap, .int .i64 most] w fun e w' => ∃ v1 ao' m' cap', e = .returned (.tuple #[v1, .slice ao' m' cap', .int .i64 c]) ∧ Bs .u8 w' v1 a ∧ Bs .u8 w' (.slice ao' m' cap') (ys.drop k) ∧ NoCap (.slice ao' m' cap') ∧ Only (fun _ => False) w w' ∧ (Value.slice ao' m' cap').ownBlock = (Value.slice ao m cap).ownBlock := by
  have HL := hideIt h.length
  by_cases h0 : most < 0
  · have hs2 : sBlock most ys = ([], 0, 1) := if_pos h0
    rw [hs2] at hs
    simp only [Prod.mk.injEq] at hs
    obtain ⟨rfl, rfl, rfl⟩ := hs
    have H := hideIt (And.intro h nc)
    clear h nc
    go_enter Tryz.func66, Tryz.ntmps66
    go_wp2
    go_ret3
    exact ⟨.slice none 0 0, _, _, _, rfl, Bs.nil _ _, H.out.1, H.out.2, Only.refl _ _, rfl⟩
  have d0 : decide (most < 0) = false := decide_eq_false h0
  obtain ⟨x, q, g, hv⟩ : ∃ x q g, sVarint ys = (x, q, g) := ⟨_, _, _, rfl⟩
  have A := hideIt (rvarint_ob ao m cap ys w h nc hr hv)
  obtain ⟨hrd, hq⟩ := sVarint_rd ys hr hv
  have HC := rd_cases ys hr
  rw [hrd] at HC
  have H := hideIt (And.intro h nc)
  by_cases hg : g = 0
  · subst hg
    have hx : 0 ≤ x ∧ x < 18446744073709551616 := by
      rcases HC with ⟨c', e, hc⟩ | ⟨a', k', e, _, _, _, hlt, _⟩
      · simp only [Prod.mk.injEq] at e
        omega
      · simp only [Prod.mk.injEq] at e
        omega
    clear HC hrd
    by_cases h4 : most < x
    · have hs2 : sBlock most ys = ([], 0, 4) := by
        simp only [sBlock]
        rw [if_neg h0, hv, if_neg (by simp), if_pos h4]
      rw [hs2] at hs
      simp only [Prod.mk.injEq] at hs
      obtain ⟨rfl, rfl, rfl⟩ := hs
      have d4 : decide (most < x) = true := decide_eq_true h4
      clear h nc hv hs2
      go_enter Tryz.func66, Tryz.ntmps66
      go_wp2_with fail
      refine A.out.mono ?_
      rintro e w1 ⟨ao', m', cap', rfl, _, _, hon, -⟩
      have O1 := hideIt hon
      clear hon A
      go_wp2
      go_ret3
      exact ⟨.slice none 0 0, _, _, _, rfl, Bs.nil _ _, H.out.1.keep O1.out (fun _ _ f => f), H.out.2, O1.out, rfl⟩
    have d4 : decide (most < x) = false := decide_eq_false h4
    by_cases h2 : (ys.length : Int) - q < x
    · have hs2 : sBlock most ys = ([], 0, 2) := by
        simp only [sBlock]
        rw [if_neg h0, hv, if_neg (by simp), if_neg h4, if_pos h2]
      have hb : sBytes x (ys.drop q) = ([], 0, 2) := by
        simp only [sBytes]
        rw [if_neg (by omega), if_pos (by rw [List.length_drop]; omega)]
      rw [hs2] at hs
      simp only [Prod.mk.injEq] at hs
      obtain ⟨rfl, rfl, rfl⟩ := hs
      have HB := hideIt hb
      clear h nc hv hs2 h2 hb
      go_enter Tryz.func66, Tryz.ntmps66
      go_wp2_with fail
      refine A.out.mono ?_
      rintro e w1 ⟨ao', m', cap', rfl, hb1, hn1, hon, hob⟩
      have HOB := hideIt hob
      clear hob
      have hm' := hb1.length
      rw [List.length_drop] at hm'
      have B := hideIt (rbytes_at ao' m' cap' (ys.drop q) w1 hb1 hn1 (by have := HL.out; omega) x HB.out)
      have O1 := hideIt hon
      clear hon A hb1 hn1 hm'
      go_wp2_with fail
      refine B.out.mono ?_
      rintro e w2 ⟨v2, ao2, m2, cap2, rfl, _, _, _, hon2, -⟩
      have O2 := hideIt (O1.out.trans hon2 (fun _ _ f => f))
      clear hon2 B O1
      go_wp2
      go_ret3
      exact ⟨.slice none 0 0, _, _, _, rfl, Bs.nil _ _, H.out.1.keep O2.out (fun _ _ f => f), H.out.2, O2.out, rfl⟩
    · have hs2 : sBlock most ys = ((ys.drop q).take x.toNat, q + x.toNat, 0) := by
        simp only [sBlock]
        rw [if_neg h0, hv, if_neg (by simp), if_neg h4, if_neg h2]
      have hb : sBytes x (ys.drop q) = ((ys.drop q).take x.toNat, x.toNat, 0) := by
        simp only [sBytes]
        rw [if_neg (by omega), if_neg (by rw [List.length_drop]; omega)]
      rw [hs2] at hs
      simp only [Prod.mk.injEq] at hs
      obtain ⟨rfl, rfl, rfl⟩ := hs
      have HB := hideIt hb
      clear h nc hv hs2 h2 hb
      go_enter Tryz.func66, Tryz.ntmps66
      go_wp2_with fail
      refine A.out.mono ?_
      rintro e w1 ⟨ao', m', cap', rfl, hb1, hn1, hon, hob⟩
      have HOB := hideIt hob
      clear hob
      have hm' := hb1.length
      rw [List.length_drop] at hm'
      have B := hideIt (rbytes_at ao' m' cap' (ys.drop q) w1 hb1 hn1 (by have := HL.out; omega) x HB.out)
      rw [List.drop_drop] at B
      have O1 := hideIt hon
      clear hon A hb1 hn1 hm'
      go_wp2_with fail
      refine B.out.mono ?_
      rintro e w2 ⟨v2, ao2, m2, cap2, rfl, hb2, hc2, hn2, hon2, hob2⟩
      have F := hideIt (And.intro hb2 (And.intro hc2 (And.intro hn2 (And.intro (O1.out.trans hon2 (fun _ _ f => f)) (hob2.trans HOB.out)))))
      clear hb2 hc2 hn2 hon2 hob2 B O1
      go_wp2
      go_ret3
      exact ⟨v2, _, _, _, rfl, F.out⟩
  · have hs2 : sBlock most ys = ([], 0, g) := by
      simp only [sBlock]
      rw [if_neg h0, hv, if_pos hg]
    rw [hs2] at hs
    simp only [Prod.mk.injEq] at hs
    obtain ⟨rfl, rfl, rfl⟩ := hs
    have dg : (g != 0) = true := by simpa using hg
    clear h nc hv hs2 HC hrd
    go_enter Tryz.func66, Tryz.ntmps66
    go_wp2_with fail
    refine A.out.mono ?_
    rintro e w1 ⟨ao', m', cap', rfl, _, _, hon, -⟩
    have O1 := hideIt hon
    clear hon A
    go_wp2
    go_ret3
    exact ⟨.slice none 0 0, _, _, _, rfl, Bs.nil _ _, H.out.1.keep O1.out (fun _ _ f => f), H.out.2, O1.out, rfl⟩
set_option maxHeartbeats 400000 in
set_option maxRecDepth 100000 in
theorem rbytes_fr (ao : Option Addr) (m cap : Nat) (ys : List Int) (w : World) (h : Bs .u8 w (.slice ao m cap) ys) (nc : NoCap (.slice ao m cap)) (hm : m ≤ 1000000000000) (n : Int) {a : List Int} {k : Nat} {c : Int} (hs : sBytes n ys = (a, k, c)) :
    Calls Tryz.prog 65 #[.slice ao m cap, .int .i64 n] w fun e w' => ∃ v1 ao' m' cap', e = .returned (.tuple #[v1, .slice ao' m' cap', .int .i64 c]) ∧ Bs .u8 w' v1 a ∧ Bs .u8 w' (.slice ao' m' cap') (ys.drop k) ∧ NoCap (.slice ao' m' cap') ∧ Only (fun _ => False) w w' ∧ (Value.slice ao' m' cap').ownBlock = (Value.slice ao m cap).ownBlock ∧ (∀ j, v1.ownBlock = some j → w.heap.size ≤ j) := by
  have HL := hideIt h.length
  by_cases h0 : n < 0
  · have hs2 : sBytes n ys = ([], 0, 1) := if_pos h0
    rw [hs2] at hs
    simp only [Prod.mk.injEq] at hs
    obtain ⟨rfl, rfl, rfl⟩ := hs
    have H := hideIt (And.intro h nc)
    clear h nc
    go_enter Tryz.func65, Tryz.ntmps65
    go_wp2
    go_ret3
    exact ⟨.slice none 0 0, _, _, _, rfl, Bs.nil _ _, H.out.1, H.out.2, Only.refl _ _, rfl, fun j e => by cases e⟩
  have d0 : decide (n < 0) = false := decide_eq_false h0
  obtain ⟨n, rfl⟩ := Int.eq_ofNat_of_zero_le (Int.not_lt.1 h0)
  by_cases h1 : (m : Int) < (n : Int)
  · have hs2 : sBytes n ys = ([], 0, 2) := by
      simp only [sBytes]
      rw [if_neg h0, if_pos (by have := HL.out; omega)]
    rw [hs2] at hs
    simp only [Prod.mk.injEq] at hs
    obtain ⟨rfl, rfl, rfl⟩ := hs
    have H := hideIt (And.intro h nc)
    clear h nc
    go_enter Tryz.func65, Tryz.ntmps65
    go_wp2
    go_ret3
    exact ⟨.slice none 0 0, _, _, _, rfl, Bs.nil _ _, H.out.1, H.out.2, Only.refl _ _, rfl, fun j e => by cases e⟩
  · have hs2 : sBytes n ys = (ys.take n, n, 0) := by
      simp only [sBytes]
      rw [if_neg h0, if_neg (by have := HL.out; omega)]
      rfl
    rw [hs2] at hs
    simp only [Prod.mk.injEq] at hs
    obtain ⟨rfl, rfl, rfl⟩ := hs
    have d1 : decide ((m : Int) < (n : Int)) = false := decide_eq_false h1
    obtain ⟨i0, hi, hz0, hz1, hz2⟩ := info_parts Tryz.infoU8
    have ho := World.ownsRow_made (base := w.heap.size) (e := 5) (size := 1) w.drew #[] 0 (Nat.le_refl _) (by unfold maxLen; omega) rfl
    have hc : m ≤ cap := by
      obtain ⟨ao', cap', e, hcap, _⟩ := h
      simp at e
      omega
    have j0 : (0 : Int) ≤ (n : Int) := by omega
    have j1 : (n : Int) ≤ (m : Int) := by omega
    have j2 : (n : Int) ≤ (cap : Int) := by omega
    have oa : Only (fun _ => False) w (w.drew.alloc (.cells #[] 5)) := ((Only.refl _ _).drew).alloc _
    have nh : NoCap (.slice ao n cap) := by
      intro a b e
      cases e
      exact nc m cap rfl
    have HA := hideIt (And.intro ((h.head (n := n) (by omega)).keep oa (fun _ _ f => f)) nh)
    have HO := hideIt ho
    have hlt : (ys.take n).length = n := by rw [List.length_take]; have := HL.out; omega
    have HLT := hideIt hlt
    have FIN : ∀ v' w1, w1.ownsRow w.heap.size 5 1 v' (0 + (ys.take n).length) ([] ++ (ys.take n).map (Value.int .u8)) → (w.alloc (Obj.cells #[] 5)).drew.grownBy w1 (Value.slice (some ⟨w.heap.size, 0, none⟩) 0 0).ownBlock →
        Bs .u8 w1 v' (ys.take n) ∧ Only (fun _ => False) w w1 ∧ (∀ j, v'.ownBlock = some j → w.heap.size ≤ j) := by
      intro v' w1 hown hgrow
      rw [Nat.zero_add, List.nil_append] at hown
      refine ⟨Bs.of_own hown, oa.grown hgrow (fun k hk e => ?_), fun j e => (hown.lt j e).1⟩
      simp [Value.ownBlock] at e
      omega
    have FN := hideIt FIN
    have HH := hideIt (And.intro h nc)
    clear h nc ho nh oa hlt FIN
    by_cases hcn : cap = n
    · subst hcn
      have H := hideIt (And.intro (HH.out.1.cut0 (n := cap) (by omega)) (HH.out.2.rest (n := cap) (m' := m - cap)))
      rw [if_pos rfl, Nat.sub_self] at H
      clear HH hc
      go_enter Tryz.func65, Tryz.ntmps65
      go_wp2
      go_region_law (refine step_append_bs rfl (.tmp 15) (.tmp 18) 23 rfl w.heap.size 5 i0 (.int .u8 0) 1 Tryz.underlying23 hi hz0 hz1 hz2 rfl (.slice (some ⟨w.heap.size, 0, none⟩) 0 0) 0 [] rfl HO.out .u8 _ (ys.take cap) rfl HA.out.1 HA.out.2 (by rw [HLT.out]; unfold maxLen; omega) (by rw [HLT.out]; omega) (by simp) ?_; intro v' w1 hown hgrow)
      have F := hideIt (FN.out v' w1 hown hgrow)
      clear hown hgrow FN HO HA
      go_wp2
      go_ret3
      obtain ⟨f1, f2, f3⟩ := F.out
      exact ⟨v', _, _, _, rfl, f1, H.out.1.keep f2 (fun _ _ f => f), H.out.2, f2, own_any _ _ _ _ _, f3⟩
    · have H := hideIt (And.intro (HH.out.1.cut (n := n) (by omega)) (HH.out.2.rest (n := n) (m' := m - n)))
      rw [if_neg hcn] at H
      clear HH
      go_enter Tryz.func65, Tryz.ntmps65
      go_wp2
      go_region_law (refine step_append_bs rfl (.tmp 15) (.tmp 18) 23 rfl w.heap.size 5 i0 (.int .u8 0) 1 Tryz.underlying23 hi hz0 hz1 hz2 rfl (.slice (some ⟨w.heap.size, 0, none⟩) 0 0) 0 [] rfl HO.out .u8 _ (ys.take n) rfl HA.out.1 HA.out.2 (by rw [HLT.out]; unfold maxLen; omega) (by rw [HLT.out]; omega) (by simp) ?_; intro v' w1 hown hgrow)
      have F := hideIt (FN.out v' w1 hown hgrow)
      clear hown hgrow FN HO HA
      go_wp2
      go_ret3
      obtain ⟨f1, f2, f3⟩ := F.out
      exact ⟨v', _, _, _, rfl, f1, H.out.1.keep f2 (fun _ _ f => f), H.out.2, f2, own_cut _ _ _ _ _ _, f3⟩
end Go.Proofs.YtiolgenaefillaaGreat
