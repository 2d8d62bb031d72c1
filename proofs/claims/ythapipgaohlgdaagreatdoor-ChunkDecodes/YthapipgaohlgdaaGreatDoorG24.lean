/- Several texts in one: Rd8b. -/
import Derived.Test.YthapipgaohlgdaaGreatDoorG23


namespace Go.Proofs.YthapipgaohlgdaaGreatDoor
set_option maxRecDepth 100000
open Go.RowKit
theorem num8_u64 {ys : List Int} (hr : Byt ys) : (num (ys.take 8) : Int) ≤ 18446744073709551615:=by
 have h1:=num_lt (ys.take 8) (fun y hy => hr y (List.mem_of_mem_take hy))
 have h2 : 256 ^ (ys.take 8).length ≤ 256 ^ 8:=Nat.pow_le_pow_right (by omega) (by rw [List.length_take];omega)
 have h3 : (256 : Nat) ^ 8 = 18446744073709551616:=by decide
 omega
theorem RR_ok {ys : List Int} {n t : Nat} (hr : Byt ys) (h : (RR ys n t).2 = 0) : U64 (RR ys n t).1 ∧ (RR ys n t).1.length = n:=by
 unfold RR at *
 by_cases h0 : t = 0
 ·rw [if_pos h0] at h ⊢
  by_cases h8 : ys.length < 8 * n
  ·rw [if_pos h8] at h;cases h
  ·rw [if_neg h8] at h ⊢
   by_cases h9 : 8 * n < ys.length
   ·rw [if_pos h9] at h;cases h
   ·rw [if_neg h9]
    refine ⟨fun x hx => ?_,fxN_length _ _⟩
    simp only [fxN,List.mem_map] at hx
    obtain ⟨i,_,rfl⟩:=hx
    exact ⟨by omega,num8_u64 (fun y hy => hr y (List.mem_of_mem_drop hy))⟩
 ·rw [if_neg h0] at h ⊢
  by_cases h1 : t = 1
  ·rw [if_pos h1] at h ⊢
   rcases rVs_only n [] ys hr with ⟨r,c,e,hc⟩ | ⟨q,r,e,hl,hu,_⟩
   ·rw [e] at h
    simp only [ne_eq] at h
    rw [if_pos (by omega)] at h
    simp only at h
    omega
   ·rw [e] at h ⊢
    simp only [ne_eq,not_true_eq_false,if_false] at h ⊢
    by_cases h9 : 0 < r.length
    ·rw [if_pos h9] at h;cases h
    ·rw [if_neg h9]
     exact ⟨by simpa using hu,by simpa using hl⟩
  ·rw [if_neg h1] at h ⊢
   by_cases hn : n = 0
   ·rw [if_pos hn] at h ⊢
    by_cases h9 : 0 < ys.length
    ·rw [if_pos h9] at h;cases h
    ·rw [if_neg h9];exact ⟨U64.nil,by simp [hn]⟩
   ·rw [if_neg hn] at h ⊢
    by_cases hv : (sVarint ys).2.2 ≠ 0
    ·rw [if_pos hv] at h;exact absurd h hv
    ·rw [if_neg hv] at h ⊢
     by_cases ho : (OTH (ys.drop (sVarint ys).2.1) (n - 1) t).2 ≠ 0
     ·rw [if_pos ho] at h;exact absurd h ho
     ·rw [if_neg ho]
      have ho' : (OTH (ys.drop (sVarint ys).2.1) (n - 1) t).2 = 0:=by simpa using ho
      obtain ⟨hu,hlen⟩:=OTH_only (fun y hy => hr y (List.mem_of_mem_drop hy)) ho'
      refine ⟨fun x hx => ?_,by simp only [List.length_cons,hlen];omega⟩
      rcases List.mem_cons.1 hx with rfl | hx
      ·rcases sVarint_cases hr with ⟨c,h1,hc⟩ | ⟨a,k,h1,_,_,h3,_⟩
       ·rw [h1] at hv;exact absurd (by simp only;omega) hv
       ·rw [h1];simp only;omega
      ·exact hu x hx
set_option maxHeartbeats 400000 in
theorem rread_zero (v : Value) (ys : List Int) (n : Nat) (w : World) (h : Bs .u8 w v ys) (nc : NoCap v) (hr : Byt ys) (hl : ys.length ≤ 1000000) (hn : n ≤ 65536) :
  Calls Tryz.prog 60 #[v,.int .i64 n,.int .i64 0] w fun e w' => ∃ u,e = .returned (.tuple #[u,.int .i64 (RR ys n 0).2]) ∧ Bs .u64 w' u (RR ys n 0).1 ∧ NoCap u ∧ Only (fun _ => False) w w':=by
 have A:=hideIt (rplain_zero v ys n w h nc hr hl hn)
 obtain ⟨ao,cap,rfl⟩:=h.len
 clear h nc hr hl hn
 generalize ys.length = m at *
 go_enter Tryz.func60,Tryz.ntmps60
 go_wp2_with fail
 refine A.out.mono ?_
 rintro e w1 ⟨u,rfl,own1,o1⟩
 have F:=hideIt (And.intro (Bs.of_own own1) (And.intro (NoCap.of_own own1) o1))
 obtain ⟨f1,c1,e1⟩:=(Bs.of_own own1).len
 subst e1
 clear A own1 o1
 go_wp2
 try rw [Exit.noGoto_ret]
 go_ret2
 exact ⟨_,rfl,F.out.1,F.out.2.1,F.out.2.2⟩
set_option maxHeartbeats 400000 in
theorem rread_one (v : Value) (ys : List Int) (n : Nat) (w : World) (h : Bs .u8 w v ys) (nc : NoCap v) (hr : Byt ys) (hl : ys.length ≤ 1000000) (hn : n ≤ 65536) :
  Calls Tryz.prog 60 #[v,.int .i64 n,.int .i64 1] w fun e w' => ∃ u,e = .returned (.tuple #[u,.int .i64 (RR ys n 1).2]) ∧ Bs .u64 w' u (RR ys n 1).1 ∧ NoCap u ∧ Only (fun _ => False) w w':=by
 have A:=hideIt (rplain_one v ys n w h nc hr hl hn)
 obtain ⟨ao,cap,rfl⟩:=h.len
 clear h nc hr hl hn
 generalize ys.length = m at *
 go_enter Tryz.func60,Tryz.ntmps60
 go_wp2_with fail
 refine A.out.mono ?_
 rintro e w1 ⟨u,rfl,own1,o1⟩
 have F:=hideIt (And.intro (Bs.of_own own1) (And.intro (NoCap.of_own own1) o1))
 obtain ⟨f1,c1,e1⟩:=(Bs.of_own own1).len
 subst e1
 clear A own1 o1
 go_wp2
 try rw [Exit.noGoto_ret]
 go_ret2
 exact ⟨_,rfl,F.out.1,F.out.2.1,F.out.2.2⟩
set_option maxHeartbeats 400000 in
theorem rread_none (v : Value) (ys : List Int) (t : Nat) (w : World) (h : Bs .u8 w v ys) (ht : 2 ≤ t) :
  Calls Tryz.prog 60 #[v,.int .i64 0,.int .i64 t] w fun e w' => ∃ u,e = .returned (.tuple #[u,.int .i64 (RR ys 0 t).2]) ∧ Bs .u64 w' u (RR ys 0 t).1 ∧ NoCap u ∧ Only (fun _ => False) w w':=by
 have A:=hideIt (rplain_none v ys t w h)
 have eR : RR ys 0 t = if 0 < ys.length then ([],3) else ([],0):=by
  unfold RR;rw [if_neg (by omega),if_neg (by omega),if_pos rfl]
 have eR1 : (RR ys 0 t).1 = []:=by rw [eR];split <;> rfl
 have eR2 : (RR ys 0 t).2 = (if 0 < ys.length then ([],3) else (([] : List Int),(0 : Int))).2:=by rw [eR]
 rw [eR1,eR2]
 clear eR1 eR2 eR
 generalize (if 0 < ys.length then ([],3) else (([] : List Int),(0 : Int))).2 = c at *
 have d0 : decide ((t : Int) ≤ 1) = false:=decide_eq_false (by omega)
 obtain ⟨ao,cap,rfl⟩:=h.len
 clear h ht
 generalize ys.length = m at *
 go_enter Tryz.func60,Tryz.ntmps60
 go_wp2_with fail
 refine A.out.mono ?_
 rintro e w1 ⟨u,rfl,own1,o1⟩
 have F:=hideIt (And.intro (Bs.of_own (k:=.u64) (xs:=[]) own1) (And.intro (NoCap.of_own own1) o1))
 obtain ⟨f1,c1,e1⟩:=(Bs.of_own (k:=.u64) (xs:=[]) own1).len
 subst e1
 clear A own1 o1
 go_wp2
 try rw [Exit.noGoto_ret]
 go_ret2
 exact ⟨_,rfl,F.out.1,F.out.2.1,F.out.2.2⟩
set_option maxHeartbeats 1600000 in
theorem rread_two (v : Value) (ys : List Int) (m : Nat) (w : World) (h : Bs .u8 w v ys) (nc : NoCap v) (hr : Byt ys) (hl : ys.length ≤ 400) (hm : m ≤ 650) :
  Calls Tryz.prog 60 #[v,.int .i64 (m + 1 : Nat),.int .i64 2] w fun e w' => ∃ u,e = .returned (.tuple #[u,.int .i64 (RR ys (m + 1) 2).2]) ∧ Bs .u64 w' u (RR ys (m + 1) 2).1 ∧ NoCap u ∧ Only (fun _ => False) w w':=by
 obtain ⟨i0,hi,hz0,hz1,hz2⟩:=info_parts Tryz.infoU64
 have OT : Hid (∀ (u : Value) (r : List Int) (w2 : World),Bs .u8 w2 u r → NoCap u → Byt r → r.length ≤ 400 → Calls Tryz.prog 90 #[u,.int .i64 m] w2 fun e w' => ∃ u',e = .returned (.tuple #[u',.int .i64 (OTH r m 2).2]) ∧ Bs .u64 w' u' (OTH r m 2).1 ∧ NoCap u' ∧ Only (fun _ => False) w2 w'):=fun u r w2 hb hn hr2 hl2 => by
  exact runpack_bs u r m w2 hb hr2 hl2 (.inl (by omega))
 have d0 : (((m + 1 : Nat) : Int) == 0) = false:=by rw [beq_eq_false_iff_ne];omega
 have em : ((m + 1 : Nat) : Int) - 1 = (m : Int):=by omega
 have eR : RR ys (m + 1) 2 = if (sVarint ys).2.2 ≠ 0 then ([],(sVarint ys).2.2) else
   if (OTH (ys.drop (sVarint ys).2.1) m 2).2 ≠ 0 then ([],(OTH (ys.drop (sVarint ys).2.1) m 2).2) else
   ((sVarint ys).1 :: (OTH (ys.drop (sVarint ys).2.1) m 2).1,0):=by
  unfold RR
  rw [if_neg (by decide),if_neg (by decide),if_neg (by omega),Nat.add_sub_cancel]
 obtain ⟨E,hE⟩ : ∃ E,E = RR ys (m + 1) 2:=⟨_,rfl⟩
 rw [← hE] at eR ⊢
 have HB:=hideIt h
 have HRG:=hideIt hr
 obtain ⟨ao,cap,rfl⟩:=h.len
 rcases sVarint_cases hr with ⟨c,hs,hc⟩ | ⟨a,q,hs,_,_,ha,_⟩
 ·have VX:=hideIt (rvarint_at ao ys.length cap ys w h nc hr hs)
  rw [hs] at eR
  simp only at eR
  rw [if_pos (by omega)] at eR
  subst eR
  have dc : (c != 0) = true:=by simp;omega
  clear h nc hs hE hc hr HB HRG OT hl
  generalize ys.length = y at *
  go_enter Tryz.func60,Tryz.ntmps60
  go_wp2_with fail
  refine VX.out.mono ?_
  rintro e w2 ⟨a2,m2,c2,rfl,_,_,o2⟩
  have O2:=hideIt o2
  clear VX o2
  go_wp2
  try rw [Exit.noGoto_ret]
  go_ret2
  exact ⟨_,rfl,Bs.nil _ _,NoCap.nil,O2.out⟩
 ·have VX:=hideIt (rvarint_at ao ys.length cap ys w h nc hr hs)
  rw [hs] at eR
  simp only [ne_eq,not_true_eq_false,if_false] at eR
  have HRR : Hid (Byt (ys.drop q)):=fun y hy => hr y (List.mem_of_mem_drop hy)
  have HLL : Hid ((ys.drop q).length ≤ 400):=by simp only [Hid];rw [List.length_drop];omega
  have HER : Hid (¬ (OTH (ys.drop q) m 2).2 = 0 → (OTH (ys.drop q) m 2).1 = []):=fun h0 => OTH_err HRR.out h0
  have HLN : Hid ((OTH (ys.drop q) m 2).2 = 0 → (OTH (ys.drop q) m 2).1.length = m):=fun h0 => (OTH_only HRR.out h0).2
  have OT2:=hideIt (fun u w2 hb hn => OT.out u (ys.drop q) w2 hb hn HRR.out HLL.out)
  generalize OTH (ys.drop q) m 2 = W at *
  obtain ⟨W1,c⟩:=W
  simp only at OT2 HER HLN eR
  have HE:=hideIt eR
  have HBY : Hid (∀ w0,Bs .u8 w0 (.slice ao ys.length cap) ys → Bs .u8 w0 (.slice ao ys.length cap) ys):=fun _ h => h
  clear h nc hs hE hr hl eR OT
  obtain ⟨y,hy⟩ : ∃ y,y = ys.length:=⟨_,rfl⟩
  rw [← hy] at VX HB HBY ⊢
  clear hy
  go_enter Tryz.func60,Tryz.ntmps60
  go_wp2_with fail
  refine VX.out.mono ?_
  rintro e w2 ⟨a2,m2,c2,rfl,b2,n2,o2⟩
  have U2:=hideIt (OT2.out _ w2 (b2 w2 (HB.out.past o2)) n2)
  have O2:=hideIt o2
  clear VX o2 b2 n2 OT2
  go_wp2_with fail
  refine U2.out.mono ?_
  rintro e w3 ⟨u3,rfl,b3,n3,o3⟩
  have O3:=hideIt (O2.out.same o3)
  have B3:=hideIt b3
  have N3:=hideIt n3
  obtain ⟨f3,c3,e3⟩:=b3.len
  subst e3
  clear U2 o3 b3 n3
  by_cases hc : c = 0
  ·subst hc
   have eE:=HE.out
   rw [if_neg (by simp)] at eE
   have HWL:=hideIt (HLN.out rfl)
   have oA : Only (fun _ => False) w3 (w3.alloc (.cells #[.int .u64 (a : Int)] 42)):=(Only.refl _ _).alloc _
   have ow:=World.ownsRow_lit (base:=w.heap.size) (e:=42) (size:=1) w3 #[.int .u64 (a : Int)] 1 O3.out.size (by unfold maxLen;omega) rfl
   have HB4:=hideIt (B3.out.past oA)
   have O4:=hideIt (O3.out.same oA)
   have hs4 : w.heap.size ≤ (w3.alloc (.cells #[.int .u64 (a : Int)] 42)).heap.size:=O4.out.size
   obtain ⟨zz,hzz⟩ : ∃ zz,zz = (a : Int) :: W1:=⟨_,rfl⟩
   rw [← hzz] at eE
   have HZZ:=hideIt hzz
   subst eE
   clear oA HE HER HLN hzz
   go_wp2_with (at_builtin;refine wpList_append_bs _ rfl _ _ _ rfl w.heap.size 42 i0 (.int .u64 0) 8 Tryz.underlying46 hi hz0 hz1 hz2 rfl _ _ _ rfl ow .u64 _ W1 rfl HB4.out N3.out ?c3 ?c4 hs4 ?_)
   case c3 => have:=HWL.out;unfold maxLen;omega
   case c4 => have:=HWL.out;omega
   intro v6 w6 own6 hgrow6 _ _
   have OWN6 : Hid (w6.ownsRow w.heap.size 42 1 v6 zz.length (zz.map (Value.int .u64))):=by
    simp only [Hid];rw [HZZ.out,List.length_cons,List.map_cons,Nat.add_comm];exact own6
   have O6:=hideIt (O4.out.grown hgrow6 (fun k hk e => absurd (ow.lt k e).1 (by omega)))
   obtain ⟨f6,c6,e6⟩:=(Bs.of_own OWN6.out).len
   subst e6
   clear ow own6 hgrow6
   go_wp2
   try rw [Exit.noGoto_ret]
   go_ret2
   exact ⟨_,rfl,Bs.of_own OWN6.out,NoCap.of_own OWN6.out,O6.out⟩
  ·have eE:=HE.out
   rw [if_pos hc] at eE
   subst eE
   have dc : (c != 0) = true:=by simp;exact hc
   clear HE HER HLN
   go_wp2
   try rw [Exit.noGoto_ret]
   go_ret2
   exact ⟨_,rfl,Bs.nil _ _,NoCap.nil,O3.out⟩
set_option maxHeartbeats 1600000 in
theorem rread_three (v : Value) (ys : List Int) (m : Nat) (w : World) (h : Bs .u8 w v ys) (nc : NoCap v) (hr : Byt ys) (hl : ys.length ≤ 400) (hm : m ≤ 650) :
  Calls Tryz.prog 60 #[v,.int .i64 (m + 1 : Nat),.int .i64 3] w fun e w' => ∃ u,e = .returned (.tuple #[u,.int .i64 (RR ys (m + 1) 3).2]) ∧ Bs .u64 w' u (RR ys (m + 1) 3).1 ∧ NoCap u ∧ Only (fun _ => False) w w':=by
 obtain ⟨i0,hi,hz0,hz1,hz2⟩:=info_parts Tryz.infoU64
 have OT : Hid (∀ (u : Value) (r : List Int) (w2 : World),Bs .u8 w2 u r → NoCap u → Byt r → r.length ≤ 400 → Calls Tryz.prog 91 #[u,.int .i64 m] w2 fun e w' => ∃ u',e = .returned (.tuple #[u',.int .i64 (OTH r m 3).2]) ∧ Bs .u64 w' u' (OTH r m 3).1 ∧ NoCap u' ∧ Only (fun _ => False) w2 w'):=fun u r w2 hb hn hr2 hl2 => by
  have hO : OTH r m 3 = dec r m:=DEC_nat r m (by omega)
  exact (rdecode_bs u r m w2 hb hn hr2 (by omega) (by omega)).mono fun e w' ⟨u',e1,own,o⟩ => ⟨u',by rw [e1,hO],by rw [hO];exact Bs.of_own own,NoCap.of_own own,o⟩
 have d0 : (((m + 1 : Nat) : Int) == 0) = false:=by rw [beq_eq_false_iff_ne];omega
 have em : ((m + 1 : Nat) : Int) - 1 = (m : Int):=by omega
 have eR : RR ys (m + 1) 3 = if (sVarint ys).2.2 ≠ 0 then ([],(sVarint ys).2.2) else
   if (OTH (ys.drop (sVarint ys).2.1) m 3).2 ≠ 0 then ([],(OTH (ys.drop (sVarint ys).2.1) m 3).2) else
   ((sVarint ys).1 :: (OTH (ys.drop (sVarint ys).2.1) m 3).1,0):=by
  unfold RR
  rw [if_neg (by decide),if_neg (by decide),if_neg (by omega),Nat.add_sub_cancel]
 obtain ⟨E,hE⟩ : ∃ E,E = RR ys (m + 1) 3:=⟨_,rfl⟩
 rw [← hE] at eR ⊢
 have HB:=hideIt h
 have HRG:=hideIt hr
 obtain ⟨ao,cap,rfl⟩:=h.len
 rcases sVarint_cases hr with ⟨c,hs,hc⟩ | ⟨a,q,hs,_,_,ha,_⟩
 ·have VX:=hideIt (rvarint_at ao ys.length cap ys w h nc hr hs)
  rw [hs] at eR
  simp only at eR
  rw [if_pos (by omega)] at eR
  subst eR
  have dc : (c != 0) = true:=by simp;omega
  clear h nc hs hE hc hr HB HRG OT hl
  generalize ys.length = y at *
  go_enter Tryz.func60,Tryz.ntmps60
  go_wp2_with fail
  refine VX.out.mono ?_
  rintro e w2 ⟨a2,m2,c2,rfl,_,_,o2⟩
  have O2:=hideIt o2
  clear VX o2
  go_wp2
  try rw [Exit.noGoto_ret]
  go_ret2
  exact ⟨_,rfl,Bs.nil _ _,NoCap.nil,O2.out⟩
 ·have VX:=hideIt (rvarint_at ao ys.length cap ys w h nc hr hs)
  rw [hs] at eR
  simp only [ne_eq,not_true_eq_false,if_false] at eR
  have HRR : Hid (Byt (ys.drop q)):=fun y hy => hr y (List.mem_of_mem_drop hy)
  have HLL : Hid ((ys.drop q).length ≤ 400):=by simp only [Hid];rw [List.length_drop];omega
  have HER : Hid (¬ (OTH (ys.drop q) m 3).2 = 0 → (OTH (ys.drop q) m 3).1 = []):=fun h0 => OTH_err HRR.out h0
  have HLN : Hid ((OTH (ys.drop q) m 3).2 = 0 → (OTH (ys.drop q) m 3).1.length = m):=fun h0 => (OTH_only HRR.out h0).2
  have OT2:=hideIt (fun u w2 hb hn => OT.out u (ys.drop q) w2 hb hn HRR.out HLL.out)
  generalize OTH (ys.drop q) m 3 = W at *
  obtain ⟨W1,c⟩:=W
  simp only at OT2 HER HLN eR
  have HE:=hideIt eR
  have HBY : Hid (∀ w0,Bs .u8 w0 (.slice ao ys.length cap) ys → Bs .u8 w0 (.slice ao ys.length cap) ys):=fun _ h => h
  clear h nc hs hE hr hl eR OT
  obtain ⟨y,hy⟩ : ∃ y,y = ys.length:=⟨_,rfl⟩
  rw [← hy] at VX HB HBY ⊢
  clear hy
  go_enter Tryz.func60,Tryz.ntmps60
  go_wp2_with fail
  refine VX.out.mono ?_
  rintro e w2 ⟨a2,m2,c2,rfl,b2,n2,o2⟩
  have U2:=hideIt (OT2.out _ w2 (b2 w2 (HB.out.past o2)) n2)
  have O2:=hideIt o2
  clear VX o2 b2 n2 OT2
  go_wp2_with fail
  refine U2.out.mono ?_
  rintro e w3 ⟨u3,rfl,b3,n3,o3⟩
  have O3:=hideIt (O2.out.same o3)
  have B3:=hideIt b3
  have N3:=hideIt n3
  obtain ⟨f3,c3,e3⟩:=b3.len
  subst e3
  clear U2 o3 b3 n3
  by_cases hc : c = 0
  ·subst hc
   have eE:=HE.out
   rw [if_neg (by simp)] at eE
   have HWL:=hideIt (HLN.out rfl)
   have oA : Only (fun _ => False) w3 (w3.alloc (.cells #[.int .u64 (a : Int)] 42)):=(Only.refl _ _).alloc _
   have ow:=World.ownsRow_lit (base:=w.heap.size) (e:=42) (size:=1) w3 #[.int .u64 (a : Int)] 1 O3.out.size (by unfold maxLen;omega) rfl
   have HB4:=hideIt (B3.out.past oA)
   have O4:=hideIt (O3.out.same oA)
   have hs4 : w.heap.size ≤ (w3.alloc (.cells #[.int .u64 (a : Int)] 42)).heap.size:=O4.out.size
   obtain ⟨zz,hzz⟩ : ∃ zz,zz = (a : Int) :: W1:=⟨_,rfl⟩
   rw [← hzz] at eE
   have HZZ:=hideIt hzz
   subst eE
   clear oA HE HER HLN hzz
   go_wp2_with (at_builtin;refine wpList_append_bs _ rfl _ _ _ rfl w.heap.size 42 i0 (.int .u64 0) 8 Tryz.underlying46 hi hz0 hz1 hz2 rfl _ _ _ rfl ow .u64 _ W1 rfl HB4.out N3.out ?c3 ?c4 hs4 ?_)
   case c3 => have:=HWL.out;unfold maxLen;omega
   case c4 => have:=HWL.out;omega
   intro v6 w6 own6 hgrow6 _ _
   have OWN6 : Hid (w6.ownsRow w.heap.size 42 1 v6 zz.length (zz.map (Value.int .u64))):=by
    simp only [Hid];rw [HZZ.out,List.length_cons,List.map_cons,Nat.add_comm];exact own6
   have O6:=hideIt (O4.out.grown hgrow6 (fun k hk e => absurd (ow.lt k e).1 (by omega)))
   obtain ⟨f6,c6,e6⟩:=(Bs.of_own OWN6.out).len
   subst e6
   clear ow own6 hgrow6
   go_wp2
   try rw [Exit.noGoto_ret]
   go_ret2
   exact ⟨_,rfl,Bs.of_own OWN6.out,NoCap.of_own OWN6.out,O6.out⟩
  ·have eE:=HE.out
   rw [if_pos hc] at eE
   subst eE
   have dc : (c != 0) = true:=by simp;exact hc
   clear HE HER HLN
   go_wp2
   try rw [Exit.noGoto_ret]
   go_ret2
   exact ⟨_,rfl,Bs.nil _ _,NoCap.nil,O3.out⟩
set_option maxHeartbeats 1600000 in
theorem rread_four (v : Value) (ys : List Int) (m : Nat) (w : World) (h : Bs .u8 w v ys) (nc : NoCap v) (hr : Byt ys) (hl : ys.length ≤ 400) (hm : m ≤ 650) :
  Calls Tryz.prog 60 #[v,.int .i64 (m + 1 : Nat),.int .i64 4] w fun e w' => ∃ u,e = .returned (.tuple #[u,.int .i64 (RR ys (m + 1) 4).2]) ∧ Bs .u64 w' u (RR ys (m + 1) 4).1 ∧ NoCap u ∧ Only (fun _ => False) w w':=by
 obtain ⟨i0,hi,hz0,hz1,hz2⟩:=info_parts Tryz.infoU64
 have OT : Hid (∀ (u : Value) (r : List Int) (w2 : World),Bs .u8 w2 u r → NoCap u → Byt r → r.length ≤ 400 → Calls Tryz.prog 92 #[u,.int .i64 m] w2 fun e w' => ∃ u',e = .returned (.tuple #[u',.int .i64 (OTH r m 4).2]) ∧ Bs .u64 w' u' (OTH r m 4).1 ∧ NoCap u' ∧ Only (fun _ => False) w2 w'):=fun u r w2 hb hn hr2 hl2 => by
  have hO : OTH r m 4 = runDec r m:=RUND_nat r m (by omega)
  exact (run_rdecode_bs u r m w2 hb hn hr2 (by omega)).mono fun e w' ⟨u',e1,own,o⟩ => ⟨u',by rw [e1,hO],by rw [hO];exact Bs.of_own own,NoCap.of_own own,o⟩
 have d0 : (((m + 1 : Nat) : Int) == 0) = false:=by rw [beq_eq_false_iff_ne];omega
 have em : ((m + 1 : Nat) : Int) - 1 = (m : Int):=by omega
 have eR : RR ys (m + 1) 4 = if (sVarint ys).2.2 ≠ 0 then ([],(sVarint ys).2.2) else
   if (OTH (ys.drop (sVarint ys).2.1) m 4).2 ≠ 0 then ([],(OTH (ys.drop (sVarint ys).2.1) m 4).2) else
   ((sVarint ys).1 :: (OTH (ys.drop (sVarint ys).2.1) m 4).1,0):=by
  unfold RR
  rw [if_neg (by decide),if_neg (by decide),if_neg (by omega),Nat.add_sub_cancel]
 obtain ⟨E,hE⟩ : ∃ E,E = RR ys (m + 1) 4:=⟨_,rfl⟩
 rw [← hE] at eR ⊢
 have HB:=hideIt h
 have HRG:=hideIt hr
 obtain ⟨ao,cap,rfl⟩:=h.len
 rcases sVarint_cases hr with ⟨c,hs,hc⟩ | ⟨a,q,hs,_,_,ha,_⟩
 ·have VX:=hideIt (rvarint_at ao ys.length cap ys w h nc hr hs)
  rw [hs] at eR
  simp only at eR
  rw [if_pos (by omega)] at eR
  subst eR
  have dc : (c != 0) = true:=by simp;omega
  clear h nc hs hE hc hr HB HRG OT hl
  generalize ys.length = y at *
  go_enter Tryz.func60,Tryz.ntmps60
  go_wp2_with fail
  refine VX.out.mono ?_
  rintro e w2 ⟨a2,m2,c2,rfl,_,_,o2⟩
  have O2:=hideIt o2
  clear VX o2
  go_wp2
  try rw [Exit.noGoto_ret]
  go_ret2
  exact ⟨_,rfl,Bs.nil _ _,NoCap.nil,O2.out⟩
 ·have VX:=hideIt (rvarint_at ao ys.length cap ys w h nc hr hs)
  rw [hs] at eR
  simp only [ne_eq,not_true_eq_false,if_false] at eR
  have HRR : Hid (Byt (ys.drop q)):=fun y hy => hr y (List.mem_of_mem_drop hy)
  have HLL : Hid ((ys.drop q).length ≤ 400):=by simp only [Hid];rw [List.length_drop];omega
  have HER : Hid (¬ (OTH (ys.drop q) m 4).2 = 0 → (OTH (ys.drop q) m 4).1 = []):=fun h0 => OTH_err HRR.out h0
  have HLN : Hid ((OTH (ys.drop q) m 4).2 = 0 → (OTH (ys.drop q) m 4).1.length = m):=fun h0 => (OTH_only HRR.out h0).2
  have OT2:=hideIt (fun u w2 hb hn => OT.out u (ys.drop q) w2 hb hn HRR.out HLL.out)
  generalize OTH (ys.drop q) m 4 = W at *
  obtain ⟨W1,c⟩:=W
  simp only at OT2 HER HLN eR
  have HE:=hideIt eR
  have HBY : Hid (∀ w0,Bs .u8 w0 (.slice ao ys.length cap) ys → Bs .u8 w0 (.slice ao ys.length cap) ys):=fun _ h => h
  clear h nc hs hE hr hl eR OT
  obtain ⟨y,hy⟩ : ∃ y,y = ys.length:=⟨_,rfl⟩
  rw [← hy] at VX HB HBY ⊢
  clear hy
  go_enter Tryz.func60,Tryz.ntmps60
  go_wp2_with fail
  refine VX.out.mono ?_
  rintro e w2 ⟨a2,m2,c2,rfl,b2,n2,o2⟩
  have U2:=hideIt (OT2.out _ w2 (b2 w2 (HB.out.past o2)) n2)
  have O2:=hideIt o2
  clear VX o2 b2 n2 OT2
  go_wp2_with fail
  refine U2.out.mono ?_
  rintro e w3 ⟨u3,rfl,b3,n3,o3⟩
  have O3:=hideIt (O2.out.same o3)
  have B3:=hideIt b3
  have N3:=hideIt n3
  obtain ⟨f3,c3,e3⟩:=b3.len
  subst e3
  clear U2 o3 b3 n3
  by_cases hc : c = 0
  ·subst hc
   have eE:=HE.out
   rw [if_neg (by simp)] at eE
   have HWL:=hideIt (HLN.out rfl)
   have oA : Only (fun _ => False) w3 (w3.alloc (.cells #[.int .u64 (a : Int)] 42)):=(Only.refl _ _).alloc _
   have ow:=World.ownsRow_lit (base:=w.heap.size) (e:=42) (size:=1) w3 #[.int .u64 (a : Int)] 1 O3.out.size (by unfold maxLen;omega) rfl
   have HB4:=hideIt (B3.out.past oA)
   have O4:=hideIt (O3.out.same oA)
   have hs4 : w.heap.size ≤ (w3.alloc (.cells #[.int .u64 (a : Int)] 42)).heap.size:=O4.out.size
   obtain ⟨zz,hzz⟩ : ∃ zz,zz = (a : Int) :: W1:=⟨_,rfl⟩
   rw [← hzz] at eE
   have HZZ:=hideIt hzz
   subst eE
   clear oA HE HER HLN hzz
   go_wp2_with (at_builtin;refine wpList_append_bs _ rfl _ _ _ rfl w.heap.size 42 i0 (.int .u64 0) 8 Tryz.underlying46 hi hz0 hz1 hz2 rfl _ _ _ rfl ow .u64 _ W1 rfl HB4.out N3.out ?c3 ?c4 hs4 ?_)
   case c3 => have:=HWL.out;unfold maxLen;omega
   case c4 => have:=HWL.out;omega
   intro v6 w6 own6 hgrow6 _ _
   have OWN6 : Hid (w6.ownsRow w.heap.size 42 1 v6 zz.length (zz.map (Value.int .u64))):=by
    simp only [Hid];rw [HZZ.out,List.length_cons,List.map_cons,Nat.add_comm];exact own6
   have O6:=hideIt (O4.out.grown hgrow6 (fun k hk e => absurd (ow.lt k e).1 (by omega)))
   obtain ⟨f6,c6,e6⟩:=(Bs.of_own OWN6.out).len
   subst e6
   clear ow own6 hgrow6
   go_wp2
   try rw [Exit.noGoto_ret]
   go_ret2
   exact ⟨_,rfl,Bs.of_own OWN6.out,NoCap.of_own OWN6.out,O6.out⟩
  ·have eE:=HE.out
   rw [if_pos hc] at eE
   subst eE
   have dc : (c != 0) = true:=by simp;exact hc
   clear HE HER HLN
   go_wp2
   try rw [Exit.noGoto_ret]
   go_ret2
   exact ⟨_,rfl,Bs.nil _ _,NoCap.nil,O3.out⟩
theorem rread_any (v : Value) (ys : List Int) (n t : Nat) (w : World) (h : Bs .u8 w v ys) (nc : NoCap v) (hr : Byt ys) (hl : ys.length ≤ 400) (hn : n ≤ 650) (ht : t ≤ 4) :
  Calls Tryz.prog 60 #[v,.int .i64 n,.int .i64 t] w fun e w' => ∃ u,e = .returned (.tuple #[u,.int .i64 (RR ys n t).2]) ∧ Bs .u64 w' u (RR ys n t).1 ∧ NoCap u ∧ Only (fun _ => False) w w':=by
 by_cases h0 : t = 0
 ·subst h0;exact rread_zero v ys n w h nc hr (by omega) (by omega)
 ·by_cases h1 : t = 1
  ·subst h1;exact rread_one v ys n w h nc hr (by omega) (by omega)
  ·by_cases hn0 : n = 0
   ·subst hn0;exact rread_none v ys t w h (by omega)
   ·obtain ⟨m,rfl⟩ : ∃ m,n = m + 1:=⟨n - 1,by omega⟩
    rcases (show t = 2 ∨ t = 3 ∨ t = 4 by omega) with rfl | rfl | rfl
    ·exact rread_two v ys m w h nc hr hl (by omega)
    ·exact rread_three v ys m w h nc hr hl (by omega)
    ·exact rread_four v ys m w h nc hr hl (by omega)
end Go.Proofs.YthapipgaohlgdaaGreatDoor
