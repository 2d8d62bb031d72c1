/- The document's own answer: a tag, and whether it is one. -/
import Derived.Test.YtiolgenaefillaaGreatRp14
import Derived.Test.YtiolgenaefillaaGreatG9
namespace Go.Proofs.YtiolgenaefillaaGreat
open Go.RowKit

set_option maxHeartbeats 1600000 in
set_option maxRecDepth 100000 in
theorem rmac_bs (v u : Value) (key b : List Int) (w : World) (hb : Bs .u8 w v key) (nc : NoCap v) (h8 : U8 key) (hk : key.length ≤ 1000000) (hu : Bs .u8 w u b) (ncu : NoCap u) (hu8 : U8 b) (hl : b.length ≤ 900000) :
    Calls Tryz.prog 44 #[v, u] w fun e w' => ∃ r, e = .returned r ∧ w'.ownsRow w.heap.size 5 1 r 32 ((MACL key b).map (Value.int .u8)) ∧ Only (fun _ => False) w w' := by
  obtain ⟨i0, hi, hz0, hz1, hz2⟩ := info_parts Tryz.infoU8
  have HP := hideIt (fun x (hx : x < 256) w1 (o : Only (fun _ => False) w w1) => rpad_any v key x w1 (hb.past o) nc h8 hk hx)
  have A := hideIt (HP.out 54 (by decide) w (Only.refl _ _))
  obtain ⟨k, hkk⟩ : ∃ k, k = pad64 key := ⟨_, rfl⟩
  have hkl : k.length = 64 := by rw [hkk, pad64_len]
  have hk8 : U8 k := by rw [hkk]; exact pad64_u8 h8
  have HL : Hid (∀ x, (xorB x k).length = 64) := fun x => by rw [xorB_len, hkl]
  have H8 : Hid (∀ x, x < 256 → U8 (xorB x k)) := fun x hx => xorB_u8 x hx hk8
  have HM : Hid (MACL key b = SHA (xorB 92 k ++ SHA (xorB 54 k ++ b))) := by rw [hkk]; exact rfl
  rw [← hkk] at HP A
  have HU := hideIt (And.intro hu (And.intro ncu (And.intro hu8 hl)))
  obtain ⟨aou, capu, rfl⟩ := hu.len
  obtain ⟨m, hm⟩ : ∃ m, m = b.length := ⟨_, rfl⟩
  rw [← hm] at HU ⊢
  have HN := hideIt hm
  clear hb nc h8 hk hu ncu hu8 hl hkk hkl hk8 hm
  go_enter Tryz.func44, Tryz.ntmps44
  go_wp2_with fail
  refine A.out.mono ?_
  rintro e w1 ⟨v1, rfl, own1, on1⟩
  have B1 := hideIt (HU.out.1.past on1)
  have hs1 := on1.size
  have H1 := hideIt on1
  have hown1 := own1
  clear on1 own1 A
  go_wp2_with (at_builtin; refine wpList_append_bs _ rfl _ _ 23 rfl w.heap.size 5 i0 (.int .u8 0) 1 Tryz.underlying23 hi hz0 hz1 hz2 rfl v1 64 _ rfl hown1 .u8 (.slice aou m capu) b rfl B1.out HU.out.2.1 (by have := HU.out.2.2.2; have := HN.out; simp only [maxLen]; omega) (by have := HU.out.2.2.2; have := HN.out; omega) hs1 ?_; intro v2 w2 hown2 hgrow2 hnil2 hob2)
  have o2 : Only (fun _ => False) w w2 := H1.out.grown hgrow2 (fun k hk e => by have := hown1.lt k e; omega)
  have b2 : Bs .u8 w2 v2 (xorB 54 k ++ b) := Bs.of_own (by
    rw [List.length_append, HL.out, List.map_append]; exact hown2)
  have S := hideIt (rsum_bs v2 (xorB 54 k ++ b) w2 b2 (NoCap.of_own hown2) ((H8.out 54 (by decide)).app HU.out.2.2.1) (by have := HU.out.2.2.2; have := HN.out; rw [List.length_append, HL.out]; omega))
  have O2 := hideIt o2
  obtain ⟨ao2, cap2, e2⟩ := own_form hown2
  subst e2
  clear hown1 hown2 hgrow2 hnil2 hob2 o2 b2 H1 B1 hs1
  go_wp2_with fail
  refine S.out.mono ?_
  rintro e w3 ⟨v3, rfl, own3, on3⟩
  have b3 : Bs .u8 w3 v3 (SHA (xorB 54 k ++ b)) := Bs.of_own (by rw [SHA_len]; exact own3)
  have h38 : U8 (SHA (xorB 54 k ++ b)) := SHA_range _
  have h3l : (SHA (xorB 54 k ++ b)).length = 32 := SHA_len _
  obtain ⟨I, hI⟩ : ∃ I, I = SHA (xorB 54 k ++ b) := ⟨_, rfl⟩
  rw [← hI] at b3 h38 h3l
  have HI := hideIt hI
  have O3 := hideIt (O2.out.same on3)
  have HB3 := hideIt (And.intro b3 (And.intro (NoCap.of_own own3) (And.intro h38 h3l)))
  have A2 := hideIt (HP.out 92 (by decide) w3 O3.out)
  obtain ⟨ao3, cap3, e3⟩ := own_form own3
  subst e3
  clear S own3 on3 b3 h38 h3l hI O2
  go_wp2_with fail
  refine A2.out.mono ?_
  rintro e w4 ⟨v4, rfl, own4, on4⟩
  have hs4 := on4.size
  have H4 := hideIt on4
  have hown4 := own4
  have B4 := hideIt (HB3.out.1.past on4)
  clear own4 on4 A2
  go_wp2_with (at_builtin; refine wpList_append_bs _ rfl _ _ 23 rfl w3.heap.size 5 i0 (.int .u8 0) 1 Tryz.underlying23 hi hz0 hz1 hz2 rfl v4 64 _ rfl hown4 .u8 (.slice ao3 32 cap3) I rfl B4.out HB3.out.2.1 (by have := HB3.out.2.2.2; simp only [maxLen]; omega) (by have := HB3.out.2.2.2; omega) hs4 ?_; intro v5 w5 hown5 hgrow5 hnil5 hob5)
  have o5 : Only (fun _ => False) w3 w5 := H4.out.grown hgrow5 (fun k hk e => by have := hown4.lt k e; omega)
  have b5 : Bs .u8 w5 v5 (xorB 92 k ++ I) := Bs.of_own (by
    rw [List.length_append, HL.out, List.map_append]; exact hown5)
  have S2 := hideIt (rsum_bs v5 (xorB 92 k ++ I) w5 b5 (NoCap.of_own hown5) ((H8.out 92 (by decide)).app HB3.out.2.2.1) (by have := HB3.out.2.2.2; rw [List.length_append, HL.out]; omega))
  have O5 := hideIt (O3.out.same o5)
  obtain ⟨ao5, cap5, e5⟩ := own_form hown5
  subst e5
  clear hown4 hown5 hgrow5 hnil5 hob5 o5 b5 H4 B4 hs4
  go_wp2_with fail
  refine S2.out.mono ?_
  rintro e w6 ⟨v6, rfl, own6, on6⟩
  have F1 := hideIt (own_low own6 O5.out.size)
  have F2 := hideIt (O5.out.same on6)
  obtain ⟨ao6, cap6, e6⟩ := own_form own6
  subst e6
  clear own6 on6 S2
  go_wp2
  go_ret
  exact ⟨_, rfl, by rw [HM.out, ← HI.out]; exact F1.out, F2.out⟩

set_option maxHeartbeats 800000 in
set_option maxRecDepth 100000 in
theorem rcheck_bs (v u t : Value) (key b tag : List Int) (w : World) (hb : Bs .u8 w v key) (nc : NoCap v) (h8 : U8 key) (hk : key.length ≤ 1000000) (hu : Bs .u8 w u b) (ncu : NoCap u) (hu8 : U8 b) (hl : b.length ≤ 900000) (ht : Bs .u8 w t tag) :
    Calls Tryz.prog 46 #[v, u, t] w fun e w' => e = .returned (.bool (decide (MACL key b = tag))) ∧ Only (fun _ => False) w w' := by
  have A := hideIt (rmac_bs v u key b w hb nc h8 hk hu ncu hu8 hl)
  have HT := hideIt ht
  obtain ⟨D, hD⟩ : ∃ D, D = decide (MACL key b = tag) := ⟨_, rfl⟩
  rw [← hD]
  have HD := hideIt hD
  clear hb h8 hk hu hu8 hl ht hD nc ncu
  go_enter Tryz.func46, Tryz.ntmps46
  go_wp2_with fail
  refine A.out.mono ?_
  rintro e w1 ⟨v1, rfl, own1, on1⟩
  have b1 : Bs .u8 w1 v1 (MACL key b) := Bs.of_own (by rw [MACL_len]; exact own1)
  have S := hideIt (same_any v1 t (MACL key b) tag w1 b1 (HT.out.past on1) (by rw [MACL_len]; decide))
  rw [← HD.out] at S
  have O1 := hideIt on1
  obtain ⟨ao1, cap1, e1⟩ := own_form own1
  subst e1
  clear A own1 on1 b1 HT HD
  go_wp2_with fail
  refine S.out.mono ?_
  rintro e w2 ⟨rfl, on2⟩
  have F := hideIt (O1.out.same on2)
  clear S on2 O1
  go_wp2
  go_ret
  exact ⟨rfl, F.out⟩
end Go.Proofs.YtiolgenaefillaaGreat
