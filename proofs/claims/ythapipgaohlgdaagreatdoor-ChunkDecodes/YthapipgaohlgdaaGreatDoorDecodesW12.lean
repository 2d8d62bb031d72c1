import Derived.Test.YthapipgaohlgdaaGreatDoorOnlyW12
import Derived.Test.YthapipgaohlgdaaGreatDoorG30
namespace Go.Proofs.YthapipgaohlgdaaGreatDoor
set_option maxRecDepth 100000
open Go.RowKit
theorem DECC_few {b : List Int} (hr : ∀ y ∈ b,0 ≤ y ∧ y ≤ 255) : (DECC b).1.2.length ≤ 65536:=by
 by_cases h : (DECC b).2 = 0
 ·exact (DECC_ok hr h).2.2.1
 ·rw [DECC_err h];simp [chNone]
set_option maxHeartbeats 1600000 in
theorem decodes_any (v : Value) (b : List Int) (w : World) (hb : Bs .u8 w v b) (nc : NoCap v) (hr : ∀ y ∈ b,0 ≤ y ∧ y ≤ 255) (hT : Tab w) :
  Calls Tryz.prog 4 #[v] w fun e w' => e = .returned (.bool true) ∧ Only (fun _ => False) w w':=by
 have AW:=hideIt (awake_any w hT)
 have HB:=hideIt hb
 by_cases hl : 400 < b.length
 ·obtain ⟨ao,cap,rfl⟩:=hb.len
  have d1 : decide ((400 : Int) < (b.length : Int)) = true:=decide_eq_true (by omega)
  have d2 : decide (400 < b.length) = true:=decide_eq_true (by omega)
  clear hb HB hr nc
  generalize b.length = m at *
  go_enter Tryz.func4,Tryz.ntmps4
  go_wp2_with fail
  refine AW.out.mono ?_
  rintro e w1 ⟨rfl,o1⟩
  have O1:=hideIt o1
  clear o1 AW
  go_wp2
  go_ret
  exact ⟨rfl,O1.out⟩
 have d1 : decide ((400 : Int) < (b.length : Int)) = false:=decide_eq_false (by omega)
 have d2 : decide (400 < b.length) = false:=decide_eq_false (by omega)
 have HE : Hid (∀ W,Only (fun _ => False) w W → Calls Tryz.prog 15 #[v] W fun e w' => ∃ (s : ByteArray) (t : Bool),e = .returned (.tuple #[.string s,.int .i64 (HEADN b),.bool t]) ∧ Only (fun _ => False) W w') :=
  fun W o => rhead_any v b W (HB.out.past o) nc hr (by omega)
 have DE : Hid (∀ W,Only (fun _ => False) w W → Calls Tryz.prog 16 #[v] W fun e w' => ∃ u,e = .returned (.tuple #[.agg #[.string (strOfNums (DECC b).1.1),u],.int .i64 (DECC b).2]) ∧ w'.ownsRow W.heap.size 44 2 u (DECC b).1.2.length (scells (DECC b).1.2) ∧ Only (fun _ => False) W w') :=
  fun W o => decode12_any v b W (HB.out.past o) hr (by omega) (hT.past o)
 have RD : Hid (HEADN b ≤ 500 → ∀ W,Only (fun _ => False) w W → Calls Tryz.prog 17 #[v] W fun e w' => ∃ u,e = .returned (.tuple #[.agg #[.string (strOfNums (DECC b).1.1),u],.int .i64 (DECC b).2]) ∧ Sps w' u (DECC b).1.2 ∧ Only (fun _ => False) W w') :=
  fun hh W o => rdecode12_any v b W (HB.out.past o) nc hr (by omega) hh
 have SM : Hid (∀ W u u2,Sps W u (DECC b).1.2 → Sps W u2 (DECC b).1.2 → Calls Tryz.prog 18 #[.agg #[.string (strOfNums (DECC b).1.1),u],.agg #[.string (strOfNums (DECC b).1.1),u2]] W fun e w' => e = .returned (.bool true) ∧ Only (fun _ => False) W w'):=by
  intro W u u2 h1 h2
  have:=lsame12_any (strOfNums (DECC b).1.1) (strOfNums (DECC b).1.1) u u2 (DECC b).1.2 (DECC b).1.2 W h1 h2 (by have:=DECC_few hr;unfold maxLen;omega)
  rw [show decide (strOfNums (DECC b).1.1 = strOfNums (DECC b).1.1 ∧ (DECC b).1.2 = (DECC b).1.2) = true by simp] at this
  exact this
 have hbd:=HEADN_bd b hr
 obtain ⟨ao,cap,rfl⟩:=hb.len
 obtain ⟨m,hm⟩ : ∃ m,m = b.length:=⟨_,rfl⟩
 rw [← hm] at HB HE DE RD d1 d2 ⊢
 clear hb hr hT nc hl hm
 generalize HEADN b = n at *
 generalize DECC b = D at *
 by_cases hn : 500 < n
 ·have f1 : decide ((500 : Int) < n) = true:=decide_eq_true hn
  have f2 : decide (n ≤ (65536 : Int)) = true:=decide_eq_true hbd.2
  clear DE RD SM
  go_enter Tryz.func4,Tryz.ntmps4
  go_wp2_with fail
  refine AW.out.mono ?_
  rintro e w1 ⟨rfl,o1⟩
  have O1:=hideIt o1
  have H1:=hideIt (HE.out w1 o1)
  clear o1 AW HE
  go_wp2_with fail
  refine H1.out.mono ?_
  rintro e w2 ⟨ss,tt,rfl,o2⟩
  have O2:=hideIt (O1.out.same o2)
  clear o2 H1
  go_wp2
  go_ret
  exact ⟨rfl,O2.out⟩
 have f1 : decide ((500 : Int) < n) = false:=decide_eq_false hn
 have RD2:=hideIt (RD.out (by omega))
 obtain ⟨⟨t0,s0⟩,c0⟩:=D
 simp only at DE RD2 SM
 have zc : (c0 == c0) = true:=by simp
 clear RD
 generalize strOfNums t0 = ts at *
 go_enter Tryz.func4,Tryz.ntmps4
 go_wp2_with fail
 refine AW.out.mono ?_
 rintro e w1 ⟨rfl,o1⟩
 have O1:=hideIt o1
 have H1:=hideIt (HE.out w1 o1)
 clear o1 AW HE
 go_wp2_with fail
 refine H1.out.mono ?_
 rintro e w2 ⟨ss,tt,rfl,o2⟩
 have O2:=hideIt (O1.out.same o2)
 have D1:=hideIt (DE.out w2 O2.out)
 clear o2 H1 DE
 go_wp2_with fail
 refine D1.out.mono ?_
 rintro e w3 ⟨u,rfl,own3,o3⟩
 have SP:=hideIt (Sps.of_own own3)
 obtain ⟨a3,c3,e3⟩:=(Sps.of_own own3).len
 subst e3
 have O3:=hideIt (O2.out.same o3)
 clear own3 o3 D1
 have R1 : Hid (∀ W,Only (fun _ => False) w3 W → Calls Tryz.prog 17 #[.slice ao m cap] W fun e w' => ∃ u,e = .returned (.tuple #[.agg #[.string ts,u],.int .i64 c0]) ∧ Sps w' u s0 ∧ Only (fun _ => False) W w') :=
  fun W o => RD2.out W (O3.out.same o)
 clear RD2
 obtain ⟨q,hq⟩ : ∃ q,q = s0.length:=⟨_,rfl⟩
 rw [← hq] at SP
 rw [← hq]
 have HQ:=hideIt hq
 clear hq
 have BC:=box_cells w3 (.string ts) (.slice a3 q c3)
 go_wp2_with fail
 refine (R1.out _ ((Only.refl _ _).alloc _)).mono ?_
 rintro e w4 ⟨u2,rfl,sp4,o4⟩
 obtain ⟨a4,c4,e4⟩:=sp4.len
 rw [← HQ.out] at e4
 subst e4
 have oo4 : Only (fun _ => False) w3 w4:=Only.same ((Only.refl _ _).alloc _) o4
 have k1:=cell_past o4 BC.1
 have k2:=cell_past o4 BC.2
 have S1 : Hid (∀ W,Only (fun _ => False) w4 W → Calls Tryz.prog 18 #[.agg #[.string ts,.slice a3 q c3],.agg #[.string ts,.slice a4 q c4]] W fun e w' => e = .returned (.bool true) ∧ Only (fun _ => False) W w') :=
  fun W o => SM.out W _ _ ((SP.out.past oo4).past o) (sp4.past o)
 have O4:=hideIt (O3.out.same oo4)
 have hlt4:=World.block_lt_of_cell? w4 _ k1
 clear sp4 o4 oo4 R1 BC SM
 go_wp2_with fail
 refine (S1.out _ ((Only.refl _ _).alloc _)).mono ?_
 rintro e w5 ⟨rfl,o5⟩
 have O5:=hideIt (O4.out.same (Only.same ((Only.refl _ _).alloc _) o5))
 clear o5 S1
 go_wp2
 go_ret
 exact ⟨rfl,O5.out⟩
end Go.Proofs.YthapipgaohlgdaaGreatDoor
