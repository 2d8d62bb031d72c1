import Derived.Test.YthapipgaohlgdaaGreatDoorG19
import Derived.Test.YthapipgaohlgdaaGreatDoorG18
namespace Go.Proofs.YthapipgaohlgdaaGreatDoor
set_option maxRecDepth 100000
open Go.RowKit
theorem HEADN_bd (b : List Int) (hr : ∀ y ∈ b,0 ≤ y ∧ y ≤ 255) : 0 ≤ HEADN b ∧ HEADN b ≤ 65536:=by
 unfold HEADN
 by_cases h0 : b = []
 ·rw [if_pos h0];omega
 rw [if_neg h0]
 by_cases h1 : (sBlock 64 (b.drop 1)).2.2 ≠ 0
 ·rw [if_pos h1];omega
 rw [if_neg h1]
 generalize hk : (sBlock 64 (b.drop 1)).2.1 = k
 rcases sVarint_cases (drop_rng (k:=k) (drop_rng (k:=1) hr)) with ⟨c,ev,hc⟩ | ⟨n,k2,ev,_,_,_,_⟩
 ·rw [ev,if_pos (.inl (by simp only;omega))];omega
 ·rw [ev]
  by_cases h2 : (65536 : Int) < (n : Int)
  ·rw [if_pos (.inr h2)];omega
  ·rw [if_neg (by simp only;omega)];simp only;omega
theorem DECC_range {b : List Int} (hr : ∀ y ∈ b,0 ≤ y ∧ y ≤ 255) (h : (DECC b).2 = 0) : ∀ y ∈ (DECC b).1.1,0 ≤ y ∧ y ≤ 255:=by
 obtain ⟨h1,h2,h3,_⟩:=DECC_ok hr h
 rw [ENCC_of h2 h3] at h1
 intro y hy
 have hb:=congrArg Prod.fst h1
 refine hr y ?_
 simp only at hb
 rw [← hb]
 unfold blk
 simp [hy]
set_option maxHeartbeats 1600000 in
theorem only_any (v : Value) (b : List Int) (w : World) (hb : Bs .u8 w v b) (nc : NoCap v) (hr : ∀ y ∈ b,0 ≤ y ∧ y ≤ 255) (hT : Tab w) :
  Calls Tryz.prog 6 #[v] w fun e w' => e = .returned (.bool true) ∧ Only (fun _ => False) w w':=by
 have AW:=hideIt (awake_any w hT)
 have HB:=hideIt hb
 by_cases hl : 400 < b.length
 ·obtain ⟨ao,cap,rfl⟩:=hb.len
  have d1 : decide ((400 : Int) < (b.length : Int)) = true:=decide_eq_true (by omega)
  have d2 : decide (400 < b.length) = true:=decide_eq_true (by omega)
  clear hb HB hr nc
  generalize b.length = m at *
  go_enter Tryz.func6,Tryz.ntmps6
  go_wp2_with fail
  refine AW.out.mono ?_
  rintro e w1 ⟨rfl,o1⟩
  have O1:=hideIt o1
  clear o1 AW
  go_wp2
  go_ret
  exact ⟨rfl,O1.out⟩
 have d1 : decide ((400 : Int) < (b.length : Int)) = false:=decide_eq_false (by omega)
 have d2 : decide (400 < b.length) = false:=decide_eq_false (by omega)
 have HE : Hid (∀ W,Only (fun _ => False) w W → Calls Tryz.prog 15 #[v] W fun e w' => ∃ (s : ByteArray) (t : Bool),e = .returned (.tuple #[.string s,.int .i64 (HEADN b),.bool t]) ∧ Only (fun _ => False) W w') :=
  fun W o => rhead_any v b W (HB.out.past o) nc hr (by omega)
 have DE : Hid (∀ W,Only (fun _ => False) w W → Calls Tryz.prog 16 #[v] W fun e w' => ∃ u,e = .returned (.tuple #[.agg #[.string (strOfNums (DECC b).1.1),u],.int .i64 (DECC b).2]) ∧ w'.ownsRow W.heap.size 44 2 u (DECC b).1.2.length (scells (DECC b).1.2) ∧ Only (fun _ => False) W w') :=
  fun W o => decode12_any v b W (HB.out.past o) hr (by omega) (hT.past o)
 have HOK : Hid ((DECC b).2 = 0 → ∀ W u,Only (fun _ => False) w W → Sps W u (DECC b).1.2 → Calls Tryz.prog 10 #[.agg #[.string (strOfNums (DECC b).1.1),u]] W fun e w' => ∃ v',e = .returned (.tuple #[v',.int .i64 0]) ∧ Bs .u8 w' v' b ∧ Only (fun _ => False) W w'):=by
  intro h W u o hs
  obtain ⟨h1,h2,h3,h4⟩:=DECC_ok hr h
  have:=encode12_all (strOfNums (DECC b).1.1) u (DECC b).1.2 W hs h4 (by unfold maxLen;omega) (by rw [strOfNums_size];unfold maxLen;omega) (hT.past o)
  rw [sb_of (DECC_range hr h),h1] at this
  refine this.mono ?_
  rintro e w' ⟨v',rfl,own,oo⟩
  exact ⟨v',rfl,Bs.of_own own,oo⟩
 have HER : Hid ((DECC b).2 ≠ 0 → (DECC b).1 = chNone):=DECC_err
 have hbd:=HEADN_bd b hr
 have HLm : Hid (b.length ≤ 400):=by simp only [Hid];omega
 obtain ⟨ao,cap,rfl⟩:=hb.len
 obtain ⟨m,hm⟩ : ∃ m,m = b.length:=⟨_,rfl⟩
 rw [← hm] at HB HE DE d1 d2 HLm ⊢
 have HMM:=hideIt hm
 clear hb hr hT nc hl hm
 generalize HEADN b = n at *
 generalize DECC b = D at *
 by_cases hn : 500 < n
 ·have f1 : decide ((500 : Int) < n) = true:=decide_eq_true hn
  have f2 : decide (n ≤ (65536 : Int)) = true:=decide_eq_true hbd.2
  clear DE HOK HER
  go_enter Tryz.func6,Tryz.ntmps6
  go_wp2_with fail
  refine AW.out.mono ?_
  rintro e w1 ⟨rfl,o1⟩
  have O1:=hideIt o1
  have H1:=hideIt (HE.out w1 o1)
  clear o1 AW HE
  go_wp2_with fail
  refine H1.out.mono ?_
  rintro e w2 ⟨ss,tt,rfl,o2⟩
  have O2:=hideIt (O1.out.same o2)
  clear o2 H1
  go_wp2
  go_ret
  exact ⟨rfl,O2.out⟩
 have f1 : decide ((500 : Int) < n) = false:=decide_eq_false hn
 by_cases hD : D.2 ≠ 0
 ·have zc : (D.2 != 0) = true:=by rw [bne_iff_ne];exact hD
  have hn0:=HER.out hD
  obtain ⟨⟨t0,s0⟩,c0⟩:=D
  simp only at hn0 DE zc
  cases hn0
  clear HOK HER hD
  go_enter Tryz.func6,Tryz.ntmps6
  go_wp2_with fail
  refine AW.out.mono ?_
  rintro e w1 ⟨rfl,o1⟩
  have O1:=hideIt o1
  have H1:=hideIt (HE.out w1 o1)
  clear o1 AW HE
  go_wp2_with fail
  refine H1.out.mono ?_
  rintro e w2 ⟨ss,tt,rfl,o2⟩
  have O2:=hideIt (O1.out.same o2)
  have D1:=hideIt (DE.out w2 O2.out)
  clear o2 H1 DE
  go_wp2_with fail
  refine D1.out.mono ?_
  rintro e w3 ⟨u,rfl,own3,o3⟩
  obtain ⟨a3,c3,e3⟩:=(Sps.of_own own3).len
  subst e3
  have O3:=hideIt (O2.out.same o3)
  have hstr : strOfNums [] = ⟨#[]⟩:=rfl
  clear own3 o3 D1
  simp only [hstr,List.length_nil]
  go_wp2
  go_ret
  exact ⟨rfl,Only.same O3.out ((Only.refl _ _).alloc _)⟩
 have hD0 : D.2 = 0:=Classical.not_not.1 hD
 have EN:=hideIt (HOK.out hD0)
 rw [hD0] at DE
 obtain ⟨⟨t0,s0⟩,c0⟩:=D
 simp only at DE EN
 clear HOK HER hD hD0
 generalize strOfNums t0 = ts at *
 go_enter Tryz.func6,Tryz.ntmps6
 go_wp2_with fail
 refine AW.out.mono ?_
 rintro e w1 ⟨rfl,o1⟩
 have O1:=hideIt o1
 have H1:=hideIt (HE.out w1 o1)
 clear o1 AW HE
 go_wp2_with fail
 refine H1.out.mono ?_
 rintro e w2 ⟨ss,tt,rfl,o2⟩
 have O2:=hideIt (O1.out.same o2)
 have D1:=hideIt (DE.out w2 O2.out)
 clear o2 H1 DE
 go_wp2_with fail
 refine D1.out.mono ?_
 rintro e w3 ⟨u,rfl,own3,o3⟩
 have SP:=Sps.of_own own3
 obtain ⟨a3,c3,e3⟩:=SP.len
 subst e3
 have O3:=hideIt (O2.out.same o3)
 have E1 : Hid (∀ W,Only (fun _ => False) w3 W → Calls Tryz.prog 10 #[.agg #[.string ts,.slice a3 s0.length c3]] W fun e w' => ∃ v',e = .returned (.tuple #[v',.int .i64 0]) ∧ Bs .u8 w' v' b ∧ Only (fun _ => False) W w') :=
  fun W o => EN.out W _ (O3.out.same o) (SP.past o)
 clear own3 o3 D1 SP EN
 generalize s0.length = q at *
 go_wp2_with fail
 refine (E1.out _ ((Only.refl _ _).alloc _)).mono ?_
 rintro e w4 ⟨v',rfl,b4,o4⟩
 have O4:=hideIt (O3.out.same (Only.same ((Only.refl _ _).alloc _) o4))
 have SE:=hideIt (same_eq v' (.slice ao m cap) b w4 b4 (HB.out.past O4.out) (by have:=HLm.out;have:=HMM.out;omega))
 clear b4 o4 E1
 go_wp2_with fail
 refine SE.out.mono ?_
 rintro e w5 ⟨rfl,o5⟩
 have O5:=hideIt (O4.out.same o5)
 clear o5 SE
 go_wp2
 go_ret
 exact ⟨rfl,O5.out⟩
end Go.Proofs.YthapipgaohlgdaaGreatDoor
