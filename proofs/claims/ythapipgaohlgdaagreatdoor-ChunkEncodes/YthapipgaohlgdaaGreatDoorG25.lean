/- Several texts in one: Rd8c, BRef3. -/
import Derived.Test.YthapipgaohlgdaaGreatDoorG24
import Derived.Test.YthapipgaohlgdaaGreatDoorG7
import Derived.Test.YthapipgaohlgdaaGreatDoorG2


namespace Go.Proofs.YthapipgaohlgdaaGreatDoor
set_option maxRecDepth 100000
open Go.RowKit
set_option maxHeartbeats 400000 in
theorem rdecode8_arg (v : Value) (n : Int) (w : World) (h : n < 0 ∨ 65536 < n) :
  Calls Tryz.prog 35 #[v,.int .i64 n] w fun e w' => e = .returned (.tuple #[.slice none 0 0,.int .i64 1]) ∧ w = w':=by
 by_cases h0 : n < 0
 ·have d0 : decide (n < 0) = true:=decide_eq_true h0
  clear h h0
  go_enter Tryz.func35,Tryz.ntmps35
  go_wp2
  try rw [Exit.noGoto_ret]
  go_ret2
  exact ⟨rfl,rfl⟩
 ·have d0 : decide (n < 0) = false:=decide_eq_false h0
  have d1 : decide (65536 < n) = true:=decide_eq_true (by omega)
  clear h h0
  go_enter Tryz.func35,Tryz.ntmps35
  go_wp2
  try rw [Exit.noGoto_ret]
  go_ret2
  exact ⟨rfl,rfl⟩
set_option maxHeartbeats 400000 in
theorem rdecode8_nil (v : Value) (n : Nat) (w : World) (h : Bs .u8 w v []) (hn : n ≤ 65536) :
  Calls Tryz.prog 35 #[v,.int .i64 n] w fun e w' => e = .returned (.tuple #[.slice none 0 0,.int .i64 2]) ∧ w = w':=by
 have d0 : decide ((n : Int) < 0) = false:=by simp
 have d1 : decide ((65536 : Int) < (n : Int)) = false:=decide_eq_false (by omega)
 obtain ⟨ao,cap,e0⟩:=h.len
 rw [List.length_nil] at e0
 subst e0
 clear h hn
 go_enter Tryz.func35,Tryz.ntmps35
 go_wp2
 try rw [Exit.noGoto_ret]
 go_ret2
 exact ⟨rfl,rfl⟩
set_option maxHeartbeats 400000 in
theorem rdecode8_tag (v : Value) (t : Nat) (r : List Int) (n : Nat) (w : World) (h : Bs .u8 w v ((t : Int) :: r)) (hn : n ≤ 65536) (h4 : 4 < t) (h255 : t ≤ 255) :
  Calls Tryz.prog 35 #[v,.int .i64 n] w fun e w' => e = .returned (.tuple #[.slice none 0 0,.int .i64 3]) ∧ w = w':=by
 have d0 : decide ((n : Int) < 0) = false:=by simp
 have d1 : decide ((65536 : Int) < (n : Int)) = false:=decide_eq_false (by omega)
 obtain ⟨b,off,cap,rfl,cell0⟩:=h.at 0 (by simp)
 rw [Nat.add_zero,List.getD_cons_zero] at cell0
 have d3 : decide ((4 : Int) < (t : Int)) = true:=decide_eq_true (by omega)
 have t255 : (t : Int) ≤ 255:=by omega
 have d4 : ((((t : Int) :: r).length : Int) == 0) = false:=by rw [beq_eq_false_iff_ne,List.length_cons];omega
 have hN : (0 : Int) < (((t : Int) :: r).length : Int):=by rw [List.length_cons];omega
 generalize ((t : Int) :: r).length = N at *
 clear h hn h4 h255
 go_enter Tryz.func35,Tryz.ntmps35
 go_wp2
 try rw [Exit.noGoto_ret]
 go_ret2
 exact ⟨rfl,rfl⟩
set_option maxHeartbeats 3200000 in
theorem rdecode8_zero (v : Value) (t : Nat) (r : List Int) (n : Nat) (w : World) (h : Bs .u8 w v ((t : Int) :: r)) (hr : Byt r) (hl : r.length ≤ 400) (hn : n ≤ 600) (ht : t = 0) :
  Calls Tryz.prog 35 #[v,.int .i64 n] w fun e w' => ∃ u,e = .returned (.tuple #[u,.int .i64 (RDEC8 ((t : Int) :: r) n).2]) ∧ Bs .i64 w' u (RDEC8 ((t : Int) :: r) n).1 ∧ Only (fun _ => False) w w':=by
 obtain ⟨i0,hi,hz0,hz1,hz2⟩:=info_parts Tryz.infoI64
 have d0 : decide ((n : Int) < 0) = false:=by simp
 have d1 : decide ((65536 : Int) < (n : Int)) = false:=decide_eq_false (by omega)
 have HBZ0:=hideIt h
 obtain ⟨b,off,cap,ev,cell0⟩:=h.at 0 (by simp)
 subst ev
 rw [Nat.add_zero,List.getD_cons_zero] at cell0
 have d3 : decide ((4 : Int) < (t : Int)) = false:=decide_eq_false (by omega)
 have t255 : (t : Int) ≤ 255:=by omega
 have dt0 : ((t : Int) == 0) = true:=by rw [ht];rfl
 have dt1 : decide ((1 : Int) ≤ (t : Int)) = false:=decide_eq_false (by omega)
 have RA : Hid (∀ (u : Value),Bs .u8 w u r → NoCap u → Calls Tryz.prog 60 #[u,.int .i64 n,.int .i64 t] w fun e w' => ∃ u',e = .returned (.tuple #[u',.int .i64 (RR r n t).2]) ∧ Bs .u64 w' u' (RR r n t).1 ∧ NoCap u' ∧ Only (fun _ => False) w w') :=
  fun u hb hnc => rread_any u r n t w hb hnc hr hl (by omega) (by omega)
 have HOK : Hid ((RR r n t).2 = 0 → U64 (RR r n t).1 ∧ (RR r n t).1.length = n):=fun h0 => RR_ok hr h0
 have eD : RDEC8 ((t : Int) :: r) n = if (RR r n t).2 ≠ 0 then ([],(RR r n t).2) else if (ENC8 (RI (RR r n t).1 t)).1 = (t : Int) :: r then (RI (RR r n t).1 t,0) else ([],3):=by
  unfold RDEC8
  rw [if_neg (by omega),if_neg (by simp),List.getD_cons_zero,if_neg (by omega)]
  rfl
 obtain ⟨DD,hDD⟩ : ∃ DD,DD = RDEC8 ((t : Int) :: r) n:=⟨_,rfl⟩
 obtain ⟨zs,hzs⟩ : ∃ zs,zs = (t : Int) :: r:=⟨_,rfl⟩
 obtain ⟨N,hN⟩ : ∃ N,N = ((t : Int) :: r).length:=⟨_,rfl⟩
 rw [← hDD] at eD ⊢
 rw [← hzs] at eD
 rw [← hN] at HBZ0 ⊢
 have HBZ : Hid (Bs .u8 w (.slice (some ⟨b,off,none⟩) N cap) zs):=by rw [hzs];exact HBZ0.out
 have hcapN : N ≤ cap:=by
  obtain ⟨ao',cap',e2,hc,_⟩:=HBZ0.out
  rw [← hN] at hc
  simp at e2
  omega
 have hNr : N = r.length + 1:=by rw [hN];rfl
 have d4 : ((N : Int) == 0) = false:=by rw [beq_eq_false_iff_ne];omega
 have hN1 : 1 ≤ N:=by omega
 have HRT1 : Hid (cap = 1 → Bs .u8 w (.slice (some ⟨b,off,none⟩) 0 0) r):=fun hc => by
  have e1 : N = 1:=by omega
  have:=HBZ0.out
  rw [hc,e1] at this
  have:=this.cut0 (n:=1) (by omega)
  simpa using this
 have HRT2 : Hid (Bs .u8 w (.slice (some ((⟨b,off,none⟩ : Addr).add 1)) (N - 1) (cap - 1)) r):=by
  simp only [Hid]
  have:=HBZ0.out.cut (n:=1) hN1
  simpa using this
 generalize RR r n t = R at *
 obtain ⟨z,c⟩:=R
 simp only at RA HOK eD
 clear h hr hl HBZ0 hDD hzs hN hNr
 have j0 : (1 : Int) ≤ (N : Int):=by omega
 have j1 : (1 : Int) ≤ (cap : Int):=by omega
 have j2 : (0 : Int) < (N : Int):=by omega
 by_cases hc : c = 0
 ·subst hc
  obtain ⟨hzu,hzl⟩:=HOK.out rfl
  have HZU:=hideIt hzu
  have HZL:=hideIt hzl
  rw [if_neg (by simp)] at eD
  have hRI : RI z t = z.map s64:=by unfold RI;rw [if_pos ht]
  rw [hRI] at eD
  obtain ⟨L,hL⟩ : ∃ L,L = z.map s64:=⟨_,rfl⟩
  rw [← hL] at eD
  have HDD:=hideIt eD
  have HL:=hideIt hL
  have HLI : Hid (I64s L):=by simp only [Hid];rw [hL];exact fun x hx => by simp only [List.mem_map] at hx;obtain ⟨y,_,rfl⟩:=hx;exact s64_g y
  have HLL : Hid (L.length = n):=by simp only [Hid];rw [hL,List.length_map,HZL.out]
  clear hRI eD hL hzu hzl HOK ht
  by_cases hcc : cap = 1
  ·subst hcc
   obtain rfl : N = 1:=by omega
   have RD:=hideIt (RA.out _ (HRT1.out rfl) (NoCap.some _ _ _))
   clear RA HRT1 HRT2
   go_enter Tryz.func35,Tryz.ntmps35
   go_wp2_with fail
   refine RD.out.mono ?_
   rintro e w2 ⟨u2,rfl,b2,n2,o2⟩
   have O2:=hideIt o2
   have HBS:=hideIt b2
   obtain ⟨fz,cz,ez⟩:=b2.len
   rw [HZL.out] at ez
   subst ez
   clear RD b2 n2 o2
   go_wp2
   go_loopw [9,10] (fun s i wr => ∃ k : Nat,k ≤ n ∧ i = .int .i64 k ∧ wr.ownsRow w2.heap.size 3 1 s k (((z.take k).map s64).map (Value.int .i64)) ∧ Only (fun _ => False) w2 wr) (fun _ i _ => n - (intOf i).toNat)
   case atStart => exact ⟨0,Nat.zero_le _,rfl,World.ownsRow_nil _ _ _ _,Only.refl _ _⟩
   case round =>
    obtain ⟨k,hk,rfl,hown,hon⟩:=hrel
    have HOWN:=hideIt hown
    have HON:=hideIt hon
    by_cases hlt : k < n
    ·have dlt : decide ((k : Int) < (n : Int)) = true:=by simp;omega
     have hkl : k < z.length:=by rw [HZL.out];exact hlt
     obtain ⟨bz,offz,capz,e1,hc0⟩:=(HBS.out.past hon).at k hkl
     have ea : fz = some ⟨bz,offz,none⟩:=by simp at e1;exact e1.1
     subst ea
     clear e1
     have hx:=HZU.out (z.getD k 0) (getD_mem0 z k hkl)
     have HST : Hid (((z.take (k + 1)).map s64).map (Value.int .i64) = ((z.take k).map s64).map (Value.int .i64) ++ [.int .i64 (s64 (z.getD k 0))]):=by
      simp only [Hid];rw [take_snoc z k hkl];simp [s64]
     have HX : Hid (∀ x : Int,IntKind.i64.wrap x = s64 x):=fun x => by unfold s64 wrap64;exact IntKind.wrap_i64 x
     generalize z.getD k 0 = x at *
     have own2:=HOWN.out
     have hsz:=HON.out.size
     clear hown hon hkl
     go_wp2_with (at_builtin;refine wpList_append_lies _ rfl _ _ _ rfl w2.heap.size 3 i0 (.int .i64 0) 1 8 Tryz.underlying45 hi hz0 hz1 hz2 rfl (by omega) _ k _ rfl (own2.alloc _) ⟨wr.heap.size,0,none⟩ 1 1 [.int .i64 (s64 x)] rfl rfl ?c1 ?c2 (by omega) ?c3 ?c4 ?c5 (wr.heap.size + 1) (by simp) ?_)
     case c1 => first | exact cell_one_new _ _ _ | (rw [← HX.out x];exact cell_one_new _ _ _)
     case c2 => intro u hu;simp at hu;subst hu;rfl
     case c3 => unfold maxLen;omega
     case c4 => omega
     case c5 => simp;omega
     intro gg cap1 w3 hown1 hgrow hat hg1
     have o3:=hideIt ((HON.out.alloc _).grown hgrow (fun p hp0 hp => absurd (own2.lt p hp).1 (by omega)))
     have own3 : Hid (w3.ownsRow w2.heap.size 3 1 (.slice (some ⟨gg,0,none⟩) (k + 1) cap1) (k + 1) (((z.take (k + 1)).map s64).map (Value.int .i64))):=by
      simp only [Hid]
      rw [HST.out];first | exact hown1 | (rw [List.map_map];exact hown1) | (rw [List.map_map,List.map_take];exact hown1)
     clear own2 hown1 hgrow hat
     go_wp2
     go_roundw
     case rel => exact ⟨k + 1,by omega,by go_num,own3.out,o3.out⟩
     case measure => simp [intOf];omega
    ·obtain rfl : k = n:=by omega
     have dlt : decide ((k : Int) < (k : Int)) = false:=by simp
     have OWZ : Hid (wr.ownsRow w.heap.size 3 1 u9 k ((z.map s64).map (Value.int .i64))):=by
      have h1:=own_low HOWN.out O2.out.size
      rw [List.take_of_length_le (by rw [HZL.out];exact Nat.le_refl _)] at h1
      exact h1
     have ONZ:=hideIt (O2.out.same HON.out)
     clear hown hon HOWN
     have OWL : Hid (wr.ownsRow w.heap.size 3 1 u9 L.length (L.map (Value.int .i64))):=by
      simp only [Hid];rw [HLL.out,HL.out];exact OWZ.out
     have EN:=rencode8_all u9 L wr (Bs.of_own OWL.out) (NoCap.of_own OWL.out) HLI.out (.inl (by rw [HLL.out];omega))
     have HEL:=hideIt (ENC8_len (l:=L) (by rw [HLL.out];omega)).1
     rw [HLL.out] at HEL
     generalize ENC8 L = E at *
     obtain ⟨E1,Ec⟩:=E
     simp only at EN HEL HDD
     have EN:=hideIt EN
     obtain ⟨fL,cL,eL⟩:=(Bs.of_own OWL.out).len
     rw [HLL.out] at eL
     subst eL
     go_wp2_with fail
     refine EN.out.mono ?_
     rintro e wE ⟨uE,rfl,ownE,oE⟩
     have OE:=hideIt (ONZ.out.same oE)
     have OWE:=hideIt (oE.own OWL.out (fun _ _ f => f))
     have SM:=hideIt (same_any uE (.slice (some ⟨b,off,none⟩) 1 1) E1 zs wE (Bs.of_own ownE) (HBZ.out.past OE.out) (by have:=HEL.out;omega))
     obtain ⟨fE,cE,eE⟩:=(Bs.of_own ownE).len
     subst eE
     clear EN ownE oE
     by_cases heq : E1 = zs
     ·have de : decide (E1 = zs) = true:=decide_eq_true heq
      rw [de] at SM
      have eD:=HDD.out
      rw [if_pos heq] at eD
      subst eD
      clear heq de HDD HEL
      generalize E1.length = e1 at *
      go_wp2_with fail
      refine SM.out.mono ?_
      rintro e wF ⟨rfl,oF⟩
      have OF:=hideIt (OE.out.same oF)
      have OWF:=hideIt (oF.own OWE.out (fun _ _ f => f))
      clear SM oF
      go_wp2
      try rw [Exit.noGoto_ret]
      go_ret2
      exact ⟨_,rfl,Bs.of_own OWF.out,OF.out⟩
     ·have de : decide (E1 = zs) = false:=decide_eq_false heq
      rw [de] at SM
      have eD:=HDD.out
      rw [if_neg heq] at eD
      subst eD
      clear heq de HDD HEL
      generalize E1.length = e1 at *
      go_wp2_with fail
      refine SM.out.mono ?_
      rintro e wF ⟨rfl,oF⟩
      have OF:=hideIt (OE.out.same oF)
      clear SM oF
      go_wp2
      try rw [Exit.noGoto_ret]
      go_ret2
      exact ⟨_,rfl,Bs.nil _ _,OF.out⟩
  ·have hcx : ¬ ((cap : Int) - 1 = 0):=by omega
   have RD:=hideIt (RA.out _ HRT2.out (NoCap.some _ _ _))
   clear RA HRT1 HRT2
   go_enter Tryz.func35,Tryz.ntmps35
   go_wp2_with fail
   refine RD.out.mono ?_
   rintro e w2 ⟨u2,rfl,b2,n2,o2⟩
   have O2:=hideIt o2
   have HBS:=hideIt b2
   obtain ⟨fz,cz,ez⟩:=b2.len
   rw [HZL.out] at ez
   subst ez
   clear RD b2 n2 o2
   go_wp2
   go_loopw [9,10] (fun s i wr => ∃ k : Nat,k ≤ n ∧ i = .int .i64 k ∧ wr.ownsRow w2.heap.size 3 1 s k (((z.take k).map s64).map (Value.int .i64)) ∧ Only (fun _ => False) w2 wr) (fun _ i _ => n - (intOf i).toNat)
   case atStart => exact ⟨0,Nat.zero_le _,rfl,World.ownsRow_nil _ _ _ _,Only.refl _ _⟩
   case round =>
    obtain ⟨k,hk,rfl,hown,hon⟩:=hrel
    have HOWN:=hideIt hown
    have HON:=hideIt hon
    by_cases hlt : k < n
    ·have dlt : decide ((k : Int) < (n : Int)) = true:=by simp;omega
     have hkl : k < z.length:=by rw [HZL.out];exact hlt
     obtain ⟨bz,offz,capz,e1,hc0⟩:=(HBS.out.past hon).at k hkl
     have ea : fz = some ⟨bz,offz,none⟩:=by simp at e1;exact e1.1
     subst ea
     clear e1
     have hx:=HZU.out (z.getD k 0) (getD_mem0 z k hkl)
     have HST : Hid (((z.take (k + 1)).map s64).map (Value.int .i64) = ((z.take k).map s64).map (Value.int .i64) ++ [.int .i64 (s64 (z.getD k 0))]):=by
      simp only [Hid];rw [take_snoc z k hkl];simp [s64]
     have HX : Hid (∀ x : Int,IntKind.i64.wrap x = s64 x):=fun x => by unfold s64 wrap64;exact IntKind.wrap_i64 x
     generalize z.getD k 0 = x at *
     have own2:=HOWN.out
     have hsz:=HON.out.size
     clear hown hon hkl
     go_wp2_with (at_builtin;refine wpList_append_lies _ rfl _ _ _ rfl w2.heap.size 3 i0 (.int .i64 0) 1 8 Tryz.underlying45 hi hz0 hz1 hz2 rfl (by omega) _ k _ rfl (own2.alloc _) ⟨wr.heap.size,0,none⟩ 1 1 [.int .i64 (s64 x)] rfl rfl ?c1 ?c2 (by omega) ?c3 ?c4 ?c5 (wr.heap.size + 1) (by simp) ?_)
     case c1 => first | exact cell_one_new _ _ _ | (rw [← HX.out x];exact cell_one_new _ _ _)
     case c2 => intro u hu;simp at hu;subst hu;rfl
     case c3 => unfold maxLen;omega
     case c4 => omega
     case c5 => simp;omega
     intro gg cap1 w3 hown1 hgrow hat hg1
     have o3:=hideIt ((HON.out.alloc _).grown hgrow (fun p hp0 hp => absurd (own2.lt p hp).1 (by omega)))
     have own3 : Hid (w3.ownsRow w2.heap.size 3 1 (.slice (some ⟨gg,0,none⟩) (k + 1) cap1) (k + 1) (((z.take (k + 1)).map s64).map (Value.int .i64))):=by
      simp only [Hid]
      rw [HST.out];first | exact hown1 | (rw [List.map_map];exact hown1) | (rw [List.map_map,List.map_take];exact hown1)
     clear own2 hown1 hgrow hat
     go_wp2
     go_roundw
     case rel => exact ⟨k + 1,by omega,by go_num,own3.out,o3.out⟩
     case measure => simp [intOf];omega
    ·obtain rfl : k = n:=by omega
     have dlt : decide ((k : Int) < (k : Int)) = false:=by simp
     have OWZ : Hid (wr.ownsRow w.heap.size 3 1 u9 k ((z.map s64).map (Value.int .i64))):=by
      have h1:=own_low HOWN.out O2.out.size
      rw [List.take_of_length_le (by rw [HZL.out];exact Nat.le_refl _)] at h1
      exact h1
     have ONZ:=hideIt (O2.out.same HON.out)
     clear hown hon HOWN
     have OWL : Hid (wr.ownsRow w.heap.size 3 1 u9 L.length (L.map (Value.int .i64))):=by
      simp only [Hid];rw [HLL.out,HL.out];exact OWZ.out
     have EN:=rencode8_all u9 L wr (Bs.of_own OWL.out) (NoCap.of_own OWL.out) HLI.out (.inl (by rw [HLL.out];omega))
     have HEL:=hideIt (ENC8_len (l:=L) (by rw [HLL.out];omega)).1
     rw [HLL.out] at HEL
     generalize ENC8 L = E at *
     obtain ⟨E1,Ec⟩:=E
     simp only at EN HEL HDD
     have EN:=hideIt EN
     obtain ⟨fL,cL,eL⟩:=(Bs.of_own OWL.out).len
     rw [HLL.out] at eL
     subst eL
     go_wp2_with fail
     refine EN.out.mono ?_
     rintro e wE ⟨uE,rfl,ownE,oE⟩
     have OE:=hideIt (ONZ.out.same oE)
     have OWE:=hideIt (oE.own OWL.out (fun _ _ f => f))
     have SM:=hideIt (same_any uE (.slice (some ⟨b,off,none⟩) N cap) E1 zs wE (Bs.of_own ownE) (HBZ.out.past OE.out) (by have:=HEL.out;omega))
     obtain ⟨fE,cE,eE⟩:=(Bs.of_own ownE).len
     subst eE
     clear EN ownE oE
     by_cases heq : E1 = zs
     ·have de : decide (E1 = zs) = true:=decide_eq_true heq
      rw [de] at SM
      have eD:=HDD.out
      rw [if_pos heq] at eD
      subst eD
      clear heq de HDD HEL
      generalize E1.length = e1 at *
      go_wp2_with fail
      refine SM.out.mono ?_
      rintro e wF ⟨rfl,oF⟩
      have OF:=hideIt (OE.out.same oF)
      have OWF:=hideIt (oF.own OWE.out (fun _ _ f => f))
      clear SM oF
      go_wp2
      try rw [Exit.noGoto_ret]
      go_ret2
      exact ⟨_,rfl,Bs.of_own OWF.out,OF.out⟩
     ·have de : decide (E1 = zs) = false:=decide_eq_false heq
      rw [de] at SM
      have eD:=HDD.out
      rw [if_neg heq] at eD
      subst eD
      clear heq de HDD HEL
      generalize E1.length = e1 at *
      go_wp2_with fail
      refine SM.out.mono ?_
      rintro e wF ⟨rfl,oF⟩
      have OF:=hideIt (OE.out.same oF)
      clear SM oF
      go_wp2
      try rw [Exit.noGoto_ret]
      go_ret2
      exact ⟨_,rfl,Bs.nil _ _,OF.out⟩
 ·rw [if_pos hc] at eD
  subst eD
  have dc : (c != 0) = true:=by simp;exact hc
  clear HOK ht
  by_cases hcc : cap = 1
  ·subst hcc
   obtain rfl : N = 1:=by omega
   have RD:=hideIt (RA.out _ (HRT1.out rfl) (NoCap.some _ _ _))
   clear RA HRT1 HRT2
   go_enter Tryz.func35,Tryz.ntmps35
   go_wp2_with fail
   refine RD.out.mono ?_
   rintro e w2 ⟨u2,rfl,b2,n2,o2⟩
   have O2:=hideIt o2
   obtain ⟨fz,cz,ez⟩:=b2.len
   subst ez
   clear RD b2 n2 o2
   generalize z.length = zl at *
   go_wp2
   try rw [Exit.noGoto_ret]
   go_ret2
   exact ⟨_,rfl,Bs.nil _ _,O2.out⟩
  ·have hcx : ¬ ((cap : Int) - 1 = 0):=by omega
   have RD:=hideIt (RA.out _ HRT2.out (NoCap.some _ _ _))
   clear RA HRT1 HRT2
   go_enter Tryz.func35,Tryz.ntmps35
   go_wp2_with fail
   refine RD.out.mono ?_
   rintro e w2 ⟨u2,rfl,b2,n2,o2⟩
   have O2:=hideIt o2
   obtain ⟨fz,cz,ez⟩:=b2.len
   subst ez
   clear RD b2 n2 o2
   generalize z.length = zl at *
   go_wp2
   try rw [Exit.noGoto_ret]
   go_ret2
   exact ⟨_,rfl,Bs.nil _ _,O2.out⟩
set_option maxHeartbeats 3200000 in
theorem rdecode8_low (v : Value) (t : Nat) (r : List Int) (n : Nat) (w : World) (h : Bs .u8 w v ((t : Int) :: r)) (hr : Byt r) (hl : r.length ≤ 400) (hn : n ≤ 600) (ht : t = 1 ∨ t = 2) :
  Calls Tryz.prog 35 #[v,.int .i64 n] w fun e w' => ∃ u,e = .returned (.tuple #[u,.int .i64 (RDEC8 ((t : Int) :: r) n).2]) ∧ Bs .i64 w' u (RDEC8 ((t : Int) :: r) n).1 ∧ Only (fun _ => False) w w':=by
 obtain ⟨i0,hi,hz0,hz1,hz2⟩:=info_parts Tryz.infoI64
 have d0 : decide ((n : Int) < 0) = false:=by simp
 have d1 : decide ((65536 : Int) < (n : Int)) = false:=decide_eq_false (by omega)
 have HBZ0:=hideIt h
 obtain ⟨b,off,cap,ev,cell0⟩:=h.at 0 (by simp)
 subst ev
 rw [Nat.add_zero,List.getD_cons_zero] at cell0
 have d3 : decide ((4 : Int) < (t : Int)) = false:=decide_eq_false (by omega)
 have t255 : (t : Int) ≤ 255:=by omega
 have dt0 : ((t : Int) == 0) = false:=by rw [beq_eq_false_iff_ne];omega
 have dt1 : decide ((1 : Int) ≤ (t : Int)) = true:=decide_eq_true (by omega)
 have dt3 : decide ((3 : Int) ≤ (t : Int)) = false:=decide_eq_false (by omega)
 have RA : Hid (∀ (u : Value),Bs .u8 w u r → NoCap u → Calls Tryz.prog 60 #[u,.int .i64 n,.int .i64 t] w fun e w' => ∃ u',e = .returned (.tuple #[u',.int .i64 (RR r n t).2]) ∧ Bs .u64 w' u' (RR r n t).1 ∧ NoCap u' ∧ Only (fun _ => False) w w') :=
  fun u hb hnc => rread_any u r n t w hb hnc hr hl (by omega) (by omega)
 have HOK : Hid ((RR r n t).2 = 0 → U64 (RR r n t).1 ∧ (RR r n t).1.length = n):=fun h0 => RR_ok hr h0
 have eD : RDEC8 ((t : Int) :: r) n = if (RR r n t).2 ≠ 0 then ([],(RR r n t).2) else if (ENC8 (RI (RR r n t).1 t)).1 = (t : Int) :: r then (RI (RR r n t).1 t,0) else ([],3):=by
  unfold RDEC8
  rw [if_neg (by omega),if_neg (by simp),List.getD_cons_zero,if_neg (by omega)]
  rfl
 obtain ⟨DD,hDD⟩ : ∃ DD,DD = RDEC8 ((t : Int) :: r) n:=⟨_,rfl⟩
 obtain ⟨zs,hzs⟩ : ∃ zs,zs = (t : Int) :: r:=⟨_,rfl⟩
 obtain ⟨N,hN⟩ : ∃ N,N = ((t : Int) :: r).length:=⟨_,rfl⟩
 rw [← hDD] at eD ⊢
 rw [← hzs] at eD
 rw [← hN] at HBZ0 ⊢
 have HBZ : Hid (Bs .u8 w (.slice (some ⟨b,off,none⟩) N cap) zs):=by rw [hzs];exact HBZ0.out
 have hcapN : N ≤ cap:=by
  obtain ⟨ao',cap',e2,hc,_⟩:=HBZ0.out
  rw [← hN] at hc
  simp at e2
  omega
 have hNr : N = r.length + 1:=by rw [hN];rfl
 have d4 : ((N : Int) == 0) = false:=by rw [beq_eq_false_iff_ne];omega
 have hN1 : 1 ≤ N:=by omega
 have HRT1 : Hid (cap = 1 → Bs .u8 w (.slice (some ⟨b,off,none⟩) 0 0) r):=fun hc => by
  have e1 : N = 1:=by omega
  have:=HBZ0.out
  rw [hc,e1] at this
  have:=this.cut0 (n:=1) (by omega)
  simpa using this
 have HRT2 : Hid (Bs .u8 w (.slice (some ((⟨b,off,none⟩ : Addr).add 1)) (N - 1) (cap - 1)) r):=by
  simp only [Hid]
  have:=HBZ0.out.cut (n:=1) hN1
  simpa using this
 generalize RR r n t = R at *
 obtain ⟨z,c⟩:=R
 simp only at RA HOK eD
 clear h hr hl HBZ0 hDD hzs hN hNr
 have j0 : (1 : Int) ≤ (N : Int):=by omega
 have j1 : (1 : Int) ≤ (cap : Int):=by omega
 have j2 : (0 : Int) < (N : Int):=by omega
 by_cases hc : c = 0
 ·subst hc
  obtain ⟨hzu,hzl⟩:=HOK.out rfl
  have HZU:=hideIt hzu
  have HZL:=hideIt hzl
  rw [if_neg (by simp)] at eD
  have hRI : RI z t = S 1 (zgn z):=by unfold RI;rw [if_neg (by omega),show tms t = 1 by unfold tms;rw [if_neg (by omega)]]
  rw [hRI] at eD
  obtain ⟨L,hL⟩ : ∃ L,L = S 1 (zgn z):=⟨_,rfl⟩
  rw [← hL] at eD
  have HDD:=hideIt eD
  have HL:=hideIt hL
  have HLI : Hid (I64s L):=by simp only [Hid];rw [hL];exact S_g _ _ (zgn_i64 HZU.out)
  have HLL : Hid (L.length = n):=by simp only [Hid];rw [hL,S_length,zgn_length,HZL.out]
  clear hRI eD hL hzu hzl HOK ht
  by_cases hcc : cap = 1
  ·subst hcc
   obtain rfl : N = 1:=by omega
   have RD:=hideIt (RA.out _ (HRT1.out rfl) (NoCap.some _ _ _))
   clear RA HRT1 HRT2
   go_enter Tryz.func35,Tryz.ntmps35
   go_wp2_with fail
   refine RD.out.mono ?_
   rintro e w2 ⟨u2,rfl,b2,n2,o2⟩
   have O2:=hideIt o2
   have HBS:=hideIt b2
   obtain ⟨fz,cz,ez⟩:=b2.len
   rw [HZL.out] at ez
   subst ez
   clear RD b2 n2 o2
   go_wp2
   go_loopw [9,10] (fun s i wr => ∃ k : Nat,k ≤ n ∧ i = .int .i64 k ∧ wr.ownsRow w2.heap.size 3 1 s k ((zgn (z.take k)).map (Value.int .i64)) ∧ Only (fun _ => False) w2 wr) (fun _ i _ => n - (intOf i).toNat)
   case atStart => exact ⟨0,Nat.zero_le _,rfl,World.ownsRow_nil _ _ _ _,Only.refl _ _⟩
   case round =>
    obtain ⟨k,hk,rfl,hown,hon⟩:=hrel
    have HOWN:=hideIt hown
    have HON:=hideIt hon
    by_cases hlt : k < n
    ·have dlt : decide ((k : Int) < (n : Int)) = true:=by simp;omega
     have hkl : k < z.length:=by rw [HZL.out];exact hlt
     obtain ⟨bz,offz,capz,e1,hc0⟩:=(HBS.out.past hon).at k hkl
     have ea : fz = some ⟨bz,offz,none⟩:=by simp at e1;exact e1.1
     subst ea
     clear e1
     have hx:=HZU.out (z.getD k 0) (getD_mem0 z k hkl)
     have HST : Hid ((zgn (z.take (k + 1))).map (Value.int .i64) = (zgn (z.take k)).map (Value.int .i64) ++ [.int .i64 (zag (z.getD k 0))]):=by
      simp only [Hid];rw [take_snoc z k hkl];simp [zgn]
     have ZK:=hideIt (rzag_any (z.getD k 0) wr hx.1 hx.2)
     generalize z.getD k 0 = x at *
     have own2:=HOWN.out
     have hsz:=HON.out.size
     clear hown hon hkl
     go_wp2_with fail
     refine ZK.out.mono ?_
     rintro e w4 ⟨rfl,rfl⟩
     clear ZK
     generalize zag x = q at *
     go_wp2_with (at_builtin;refine wpList_append_lies _ rfl _ _ _ rfl w2.heap.size 3 i0 (.int .i64 0) 1 8 Tryz.underlying45 hi hz0 hz1 hz2 rfl (by omega) _ k _ rfl (own2.alloc _) ⟨wr.heap.size,0,none⟩ 1 1 [.int .i64 q] rfl rfl ?c1 ?c2 (by omega) ?c3 ?c4 ?c5 (wr.heap.size + 1) (by simp) ?_)
     case c1 => exact cell_one_new _ _ _
     case c2 => intro u hu;simp at hu;subst hu;rfl
     case c3 => unfold maxLen;omega
     case c4 => omega
     case c5 => simp;omega
     intro gg cap1 w3 hown1 hgrow hat hg1
     have o3:=hideIt ((HON.out.alloc _).grown hgrow (fun p hp0 hp => absurd (own2.lt p hp).1 (by omega)))
     have own3 : Hid (w3.ownsRow w2.heap.size 3 1 (.slice (some ⟨gg,0,none⟩) (k + 1) cap1) (k + 1) ((zgn (z.take (k + 1))).map (Value.int .i64))):=by
      simp only [Hid]
      rw [HST.out];exact hown1
     clear own2 hown1 hgrow hat
     go_wp2
     go_roundw
     case rel => exact ⟨k + 1,by omega,by go_num,own3.out,o3.out⟩
     case measure => simp [intOf];omega
    ·obtain rfl : k = n:=by omega
     have dlt : decide ((k : Int) < (k : Int)) = false:=by simp
     have OWZ : Hid (wr.ownsRow w.heap.size 3 1 u9 k ((zgn z).map (Value.int .i64))):=by
      have h1:=own_low HOWN.out O2.out.size
      rw [List.take_of_length_le (by rw [HZL.out];exact Nat.le_refl _)] at h1
      exact h1
     have ONZ:=hideIt (O2.out.same HON.out)
     clear hown hon HOWN
     have hbz : Bs .i64 wr u9 (zgn z):=Bs.of_own (by rw [zgn_length,HZL.out];exact OWZ.out)
     have SU:=hideIt (rsum_in u9 (zgn z) 1 wr hbz (NoCap.of_own OWZ.out) (by rw [zgn_length,HZL.out];omega) (zgn_i64 HZU.out) (by omega))
     obtain ⟨f9,c9,e9⟩:=hbz.len
     rw [zgn_length,HZL.out] at e9 SU
     subst e9
     clear hbz
     rw [← HL.out] at SU
     go_wp2_with fail
     refine SU.out.mono ?_
     rintro e wS ⟨uS,rfl,ownS,oS⟩
     have ONS:=hideIt (ONZ.out.same oS)
     have OWL : Hid (wS.ownsRow w.heap.size 3 1 uS L.length (L.map (Value.int .i64))):=by
      simp only [Hid];rw [HLL.out];exact own_low ownS ONZ.out.size
     clear SU ownS oS
     have EN:=rencode8_all uS L wS (Bs.of_own OWL.out) (NoCap.of_own OWL.out) HLI.out (.inl (by rw [HLL.out];omega))
     have HEL:=hideIt (ENC8_len (l:=L) (by rw [HLL.out];omega)).1
     rw [HLL.out] at HEL
     generalize ENC8 L = E at *
     obtain ⟨E1,Ec⟩:=E
     simp only at EN HEL HDD
     have EN:=hideIt EN
     obtain ⟨fL,cL,eL⟩:=(Bs.of_own OWL.out).len
     rw [HLL.out] at eL
     subst eL
     go_wp2_with fail
     refine EN.out.mono ?_
     rintro e wE ⟨uE,rfl,ownE,oE⟩
     have OE:=hideIt (ONS.out.same oE)
     have OWE:=hideIt (oE.own OWL.out (fun _ _ f => f))
     have SM:=hideIt (same_any uE (.slice (some ⟨b,off,none⟩) 1 1) E1 zs wE (Bs.of_own ownE) (HBZ.out.past OE.out) (by have:=HEL.out;omega))
     obtain ⟨fE,cE,eE⟩:=(Bs.of_own ownE).len
     subst eE
     clear EN ownE oE
     by_cases heq : E1 = zs
     ·have de : decide (E1 = zs) = true:=decide_eq_true heq
      rw [de] at SM
      have eD:=HDD.out
      rw [if_pos heq] at eD
      subst eD
      clear heq de HDD HEL
      generalize E1.length = e1 at *
      go_wp2_with fail
      refine SM.out.mono ?_
      rintro e wF ⟨rfl,oF⟩
      have OF:=hideIt (OE.out.same oF)
      have OWF:=hideIt (oF.own OWE.out (fun _ _ f => f))
      clear SM oF
      go_wp2
      try rw [Exit.noGoto_ret]
      go_ret2
      exact ⟨_,rfl,Bs.of_own OWF.out,OF.out⟩
     ·have de : decide (E1 = zs) = false:=decide_eq_false heq
      rw [de] at SM
      have eD:=HDD.out
      rw [if_neg heq] at eD
      subst eD
      clear heq de HDD HEL
      generalize E1.length = e1 at *
      go_wp2_with fail
      refine SM.out.mono ?_
      rintro e wF ⟨rfl,oF⟩
      have OF:=hideIt (OE.out.same oF)
      clear SM oF
      go_wp2
      try rw [Exit.noGoto_ret]
      go_ret2
      exact ⟨_,rfl,Bs.nil _ _,OF.out⟩
  ·have hcx : ¬ ((cap : Int) - 1 = 0):=by omega
   have RD:=hideIt (RA.out _ HRT2.out (NoCap.some _ _ _))
   clear RA HRT1 HRT2
   go_enter Tryz.func35,Tryz.ntmps35
   go_wp2_with fail
   refine RD.out.mono ?_
   rintro e w2 ⟨u2,rfl,b2,n2,o2⟩
   have O2:=hideIt o2
   have HBS:=hideIt b2
   obtain ⟨fz,cz,ez⟩:=b2.len
   rw [HZL.out] at ez
   subst ez
   clear RD b2 n2 o2
   go_wp2
   go_loopw [9,10] (fun s i wr => ∃ k : Nat,k ≤ n ∧ i = .int .i64 k ∧ wr.ownsRow w2.heap.size 3 1 s k ((zgn (z.take k)).map (Value.int .i64)) ∧ Only (fun _ => False) w2 wr) (fun _ i _ => n - (intOf i).toNat)
   case atStart => exact ⟨0,Nat.zero_le _,rfl,World.ownsRow_nil _ _ _ _,Only.refl _ _⟩
   case round =>
    obtain ⟨k,hk,rfl,hown,hon⟩:=hrel
    have HOWN:=hideIt hown
    have HON:=hideIt hon
    by_cases hlt : k < n
    ·have dlt : decide ((k : Int) < (n : Int)) = true:=by simp;omega
     have hkl : k < z.length:=by rw [HZL.out];exact hlt
     obtain ⟨bz,offz,capz,e1,hc0⟩:=(HBS.out.past hon).at k hkl
     have ea : fz = some ⟨bz,offz,none⟩:=by simp at e1;exact e1.1
     subst ea
     clear e1
     have hx:=HZU.out (z.getD k 0) (getD_mem0 z k hkl)
     have HST : Hid ((zgn (z.take (k + 1))).map (Value.int .i64) = (zgn (z.take k)).map (Value.int .i64) ++ [.int .i64 (zag (z.getD k 0))]):=by
      simp only [Hid];rw [take_snoc z k hkl];simp [zgn]
     have ZK:=hideIt (rzag_any (z.getD k 0) wr hx.1 hx.2)
     generalize z.getD k 0 = x at *
     have own2:=HOWN.out
     have hsz:=HON.out.size
     clear hown hon hkl
     go_wp2_with fail
     refine ZK.out.mono ?_
     rintro e w4 ⟨rfl,rfl⟩
     clear ZK
     generalize zag x = q at *
     go_wp2_with (at_builtin;refine wpList_append_lies _ rfl _ _ _ rfl w2.heap.size 3 i0 (.int .i64 0) 1 8 Tryz.underlying45 hi hz0 hz1 hz2 rfl (by omega) _ k _ rfl (own2.alloc _) ⟨wr.heap.size,0,none⟩ 1 1 [.int .i64 q] rfl rfl ?c1 ?c2 (by omega) ?c3 ?c4 ?c5 (wr.heap.size + 1) (by simp) ?_)
     case c1 => exact cell_one_new _ _ _
     case c2 => intro u hu;simp at hu;subst hu;rfl
     case c3 => unfold maxLen;omega
     case c4 => omega
     case c5 => simp;omega
     intro gg cap1 w3 hown1 hgrow hat hg1
     have o3:=hideIt ((HON.out.alloc _).grown hgrow (fun p hp0 hp => absurd (own2.lt p hp).1 (by omega)))
     have own3 : Hid (w3.ownsRow w2.heap.size 3 1 (.slice (some ⟨gg,0,none⟩) (k + 1) cap1) (k + 1) ((zgn (z.take (k + 1))).map (Value.int .i64))):=by
      simp only [Hid]
      rw [HST.out];exact hown1
     clear own2 hown1 hgrow hat
     go_wp2
     go_roundw
     case rel => exact ⟨k + 1,by omega,by go_num,own3.out,o3.out⟩
     case measure => simp [intOf];omega
    ·obtain rfl : k = n:=by omega
     have dlt : decide ((k : Int) < (k : Int)) = false:=by simp
     have OWZ : Hid (wr.ownsRow w.heap.size 3 1 u9 k ((zgn z).map (Value.int .i64))):=by
      have h1:=own_low HOWN.out O2.out.size
      rw [List.take_of_length_le (by rw [HZL.out];exact Nat.le_refl _)] at h1
      exact h1
     have ONZ:=hideIt (O2.out.same HON.out)
     clear hown hon HOWN
     have hbz : Bs .i64 wr u9 (zgn z):=Bs.of_own (by rw [zgn_length,HZL.out];exact OWZ.out)
     have SU:=hideIt (rsum_in u9 (zgn z) 1 wr hbz (NoCap.of_own OWZ.out) (by rw [zgn_length,HZL.out];omega) (zgn_i64 HZU.out) (by omega))
     obtain ⟨f9,c9,e9⟩:=hbz.len
     rw [zgn_length,HZL.out] at e9 SU
     subst e9
     clear hbz
     rw [← HL.out] at SU
     go_wp2_with fail
     refine SU.out.mono ?_
     rintro e wS ⟨uS,rfl,ownS,oS⟩
     have ONS:=hideIt (ONZ.out.same oS)
     have OWL : Hid (wS.ownsRow w.heap.size 3 1 uS L.length (L.map (Value.int .i64))):=by
      simp only [Hid];rw [HLL.out];exact own_low ownS ONZ.out.size
     clear SU ownS oS
     have EN:=rencode8_all uS L wS (Bs.of_own OWL.out) (NoCap.of_own OWL.out) HLI.out (.inl (by rw [HLL.out];omega))
     have HEL:=hideIt (ENC8_len (l:=L) (by rw [HLL.out];omega)).1
     rw [HLL.out] at HEL
     generalize ENC8 L = E at *
     obtain ⟨E1,Ec⟩:=E
     simp only at EN HEL HDD
     have EN:=hideIt EN
     obtain ⟨fL,cL,eL⟩:=(Bs.of_own OWL.out).len
     rw [HLL.out] at eL
     subst eL
     go_wp2_with fail
     refine EN.out.mono ?_
     rintro e wE ⟨uE,rfl,ownE,oE⟩
     have OE:=hideIt (ONS.out.same oE)
     have OWE:=hideIt (oE.own OWL.out (fun _ _ f => f))
     have SM:=hideIt (same_any uE (.slice (some ⟨b,off,none⟩) N cap) E1 zs wE (Bs.of_own ownE) (HBZ.out.past OE.out) (by have:=HEL.out;omega))
     obtain ⟨fE,cE,eE⟩:=(Bs.of_own ownE).len
     subst eE
     clear EN ownE oE
     by_cases heq : E1 = zs
     ·have de : decide (E1 = zs) = true:=decide_eq_true heq
      rw [de] at SM
      have eD:=HDD.out
      rw [if_pos heq] at eD
      subst eD
      clear heq de HDD HEL
      generalize E1.length = e1 at *
      go_wp2_with fail
      refine SM.out.mono ?_
      rintro e wF ⟨rfl,oF⟩
      have OF:=hideIt (OE.out.same oF)
      have OWF:=hideIt (oF.own OWE.out (fun _ _ f => f))
      clear SM oF
      go_wp2
      try rw [Exit.noGoto_ret]
      go_ret2
      exact ⟨_,rfl,Bs.of_own OWF.out,OF.out⟩
     ·have de : decide (E1 = zs) = false:=decide_eq_false heq
      rw [de] at SM
      have eD:=HDD.out
      rw [if_neg heq] at eD
      subst eD
      clear heq de HDD HEL
      generalize E1.length = e1 at *
      go_wp2_with fail
      refine SM.out.mono ?_
      rintro e wF ⟨rfl,oF⟩
      have OF:=hideIt (OE.out.same oF)
      clear SM oF
      go_wp2
      try rw [Exit.noGoto_ret]
      go_ret2
      exact ⟨_,rfl,Bs.nil _ _,OF.out⟩
 ·rw [if_pos hc] at eD
  subst eD
  have dc : (c != 0) = true:=by simp;exact hc
  clear HOK ht
  by_cases hcc : cap = 1
  ·subst hcc
   obtain rfl : N = 1:=by omega
   have RD:=hideIt (RA.out _ (HRT1.out rfl) (NoCap.some _ _ _))
   clear RA HRT1 HRT2
   go_enter Tryz.func35,Tryz.ntmps35
   go_wp2_with fail
   refine RD.out.mono ?_
   rintro e w2 ⟨u2,rfl,b2,n2,o2⟩
   have O2:=hideIt o2
   obtain ⟨fz,cz,ez⟩:=b2.len
   subst ez
   clear RD b2 n2 o2
   generalize z.length = zl at *
   go_wp2
   try rw [Exit.noGoto_ret]
   go_ret2
   exact ⟨_,rfl,Bs.nil _ _,O2.out⟩
  ·have hcx : ¬ ((cap : Int) - 1 = 0):=by omega
   have RD:=hideIt (RA.out _ HRT2.out (NoCap.some _ _ _))
   clear RA HRT1 HRT2
   go_enter Tryz.func35,Tryz.ntmps35
   go_wp2_with fail
   refine RD.out.mono ?_
   rintro e w2 ⟨u2,rfl,b2,n2,o2⟩
   have O2:=hideIt o2
   obtain ⟨fz,cz,ez⟩:=b2.len
   subst ez
   clear RD b2 n2 o2
   generalize z.length = zl at *
   go_wp2
   try rw [Exit.noGoto_ret]
   go_ret2
   exact ⟨_,rfl,Bs.nil _ _,O2.out⟩
set_option maxHeartbeats 3200000 in
theorem rdecode8_high (v : Value) (t : Nat) (r : List Int) (n : Nat) (w : World) (h : Bs .u8 w v ((t : Int) :: r)) (hr : Byt r) (hl : r.length ≤ 400) (hn : n ≤ 600) (ht : t = 3 ∨ t = 4) :
  Calls Tryz.prog 35 #[v,.int .i64 n] w fun e w' => ∃ u,e = .returned (.tuple #[u,.int .i64 (RDEC8 ((t : Int) :: r) n).2]) ∧ Bs .i64 w' u (RDEC8 ((t : Int) :: r) n).1 ∧ Only (fun _ => False) w w':=by
 obtain ⟨i0,hi,hz0,hz1,hz2⟩:=info_parts Tryz.infoI64
 have d0 : decide ((n : Int) < 0) = false:=by simp
 have d1 : decide ((65536 : Int) < (n : Int)) = false:=decide_eq_false (by omega)
 have HBZ0:=hideIt h
 obtain ⟨b,off,cap,ev,cell0⟩:=h.at 0 (by simp)
 subst ev
 rw [Nat.add_zero,List.getD_cons_zero] at cell0
 have d3 : decide ((4 : Int) < (t : Int)) = false:=decide_eq_false (by omega)
 have t255 : (t : Int) ≤ 255:=by omega
 have dt0 : ((t : Int) == 0) = false:=by rw [beq_eq_false_iff_ne];omega
 have dt1 : decide ((1 : Int) ≤ (t : Int)) = true:=decide_eq_true (by omega)
 have dt3 : decide ((3 : Int) ≤ (t : Int)) = true:=decide_eq_true (by omega)
 have RA : Hid (∀ (u : Value),Bs .u8 w u r → NoCap u → Calls Tryz.prog 60 #[u,.int .i64 n,.int .i64 t] w fun e w' => ∃ u',e = .returned (.tuple #[u',.int .i64 (RR r n t).2]) ∧ Bs .u64 w' u' (RR r n t).1 ∧ NoCap u' ∧ Only (fun _ => False) w w') :=
  fun u hb hnc => rread_any u r n t w hb hnc hr hl (by omega) (by omega)
 have HOK : Hid ((RR r n t).2 = 0 → U64 (RR r n t).1 ∧ (RR r n t).1.length = n):=fun h0 => RR_ok hr h0
 have eD : RDEC8 ((t : Int) :: r) n = if (RR r n t).2 ≠ 0 then ([],(RR r n t).2) else if (ENC8 (RI (RR r n t).1 t)).1 = (t : Int) :: r then (RI (RR r n t).1 t,0) else ([],3):=by
  unfold RDEC8
  rw [if_neg (by omega),if_neg (by simp),List.getD_cons_zero,if_neg (by omega)]
  rfl
 obtain ⟨DD,hDD⟩ : ∃ DD,DD = RDEC8 ((t : Int) :: r) n:=⟨_,rfl⟩
 obtain ⟨zs,hzs⟩ : ∃ zs,zs = (t : Int) :: r:=⟨_,rfl⟩
 obtain ⟨N,hN⟩ : ∃ N,N = ((t : Int) :: r).length:=⟨_,rfl⟩
 rw [← hDD] at eD ⊢
 rw [← hzs] at eD
 rw [← hN] at HBZ0 ⊢
 have HBZ : Hid (Bs .u8 w (.slice (some ⟨b,off,none⟩) N cap) zs):=by rw [hzs];exact HBZ0.out
 have hcapN : N ≤ cap:=by
  obtain ⟨ao',cap',e2,hc,_⟩:=HBZ0.out
  rw [← hN] at hc
  simp at e2
  omega
 have hNr : N = r.length + 1:=by rw [hN];rfl
 have d4 : ((N : Int) == 0) = false:=by rw [beq_eq_false_iff_ne];omega
 have hN1 : 1 ≤ N:=by omega
 have HRT1 : Hid (cap = 1 → Bs .u8 w (.slice (some ⟨b,off,none⟩) 0 0) r):=fun hc => by
  have e1 : N = 1:=by omega
  have:=HBZ0.out
  rw [hc,e1] at this
  have:=this.cut0 (n:=1) (by omega)
  simpa using this
 have HRT2 : Hid (Bs .u8 w (.slice (some ((⟨b,off,none⟩ : Addr).add 1)) (N - 1) (cap - 1)) r):=by
  simp only [Hid]
  have:=HBZ0.out.cut (n:=1) hN1
  simpa using this
 generalize RR r n t = R at *
 obtain ⟨z,c⟩:=R
 simp only at RA HOK eD
 clear h hr hl HBZ0 hDD hzs hN hNr
 have j0 : (1 : Int) ≤ (N : Int):=by omega
 have j1 : (1 : Int) ≤ (cap : Int):=by omega
 have j2 : (0 : Int) < (N : Int):=by omega
 by_cases hc : c = 0
 ·subst hc
  obtain ⟨hzu,hzl⟩:=HOK.out rfl
  have HZU:=hideIt hzu
  have HZL:=hideIt hzl
  rw [if_neg (by simp)] at eD
  have hRI : RI z t = S 2 (zgn z):=by unfold RI;rw [if_neg (by omega),show tms t = 2 by unfold tms;rw [if_pos (by omega)]]
  rw [hRI] at eD
  obtain ⟨L,hL⟩ : ∃ L,L = S 2 (zgn z):=⟨_,rfl⟩
  rw [← hL] at eD
  have HDD:=hideIt eD
  have HL:=hideIt hL
  have HLI : Hid (I64s L):=by simp only [Hid];rw [hL];exact S_g _ _ (zgn_i64 HZU.out)
  have HLL : Hid (L.length = n):=by simp only [Hid];rw [hL,S_length,zgn_length,HZL.out]
  clear hRI eD hL hzu hzl HOK ht
  by_cases hcc : cap = 1
  ·subst hcc
   obtain rfl : N = 1:=by omega
   have RD:=hideIt (RA.out _ (HRT1.out rfl) (NoCap.some _ _ _))
   clear RA HRT1 HRT2
   go_enter Tryz.func35,Tryz.ntmps35
   go_wp2_with fail
   refine RD.out.mono ?_
   rintro e w2 ⟨u2,rfl,b2,n2,o2⟩
   have O2:=hideIt o2
   have HBS:=hideIt b2
   obtain ⟨fz,cz,ez⟩:=b2.len
   rw [HZL.out] at ez
   subst ez
   clear RD b2 n2 o2
   go_wp2
   go_loopw [9,10] (fun s i wr => ∃ k : Nat,k ≤ n ∧ i = .int .i64 k ∧ wr.ownsRow w2.heap.size 3 1 s k ((zgn (z.take k)).map (Value.int .i64)) ∧ Only (fun _ => False) w2 wr) (fun _ i _ => n - (intOf i).toNat)
   case atStart => exact ⟨0,Nat.zero_le _,rfl,World.ownsRow_nil _ _ _ _,Only.refl _ _⟩
   case round =>
    obtain ⟨k,hk,rfl,hown,hon⟩:=hrel
    have HOWN:=hideIt hown
    have HON:=hideIt hon
    by_cases hlt : k < n
    ·have dlt : decide ((k : Int) < (n : Int)) = true:=by simp;omega
     have hkl : k < z.length:=by rw [HZL.out];exact hlt
     obtain ⟨bz,offz,capz,e1,hc0⟩:=(HBS.out.past hon).at k hkl
     have ea : fz = some ⟨bz,offz,none⟩:=by simp at e1;exact e1.1
     subst ea
     clear e1
     have hx:=HZU.out (z.getD k 0) (getD_mem0 z k hkl)
     have HST : Hid ((zgn (z.take (k + 1))).map (Value.int .i64) = (zgn (z.take k)).map (Value.int .i64) ++ [.int .i64 (zag (z.getD k 0))]):=by
      simp only [Hid];rw [take_snoc z k hkl];simp [zgn]
     have ZK:=hideIt (rzag_any (z.getD k 0) wr hx.1 hx.2)
     generalize z.getD k 0 = x at *
     have own2:=HOWN.out
     have hsz:=HON.out.size
     clear hown hon hkl
     go_wp2_with fail
     refine ZK.out.mono ?_
     rintro e w4 ⟨rfl,rfl⟩
     clear ZK
     generalize zag x = q at *
     go_wp2_with (at_builtin;refine wpList_append_lies _ rfl _ _ _ rfl w2.heap.size 3 i0 (.int .i64 0) 1 8 Tryz.underlying45 hi hz0 hz1 hz2 rfl (by omega) _ k _ rfl (own2.alloc _) ⟨wr.heap.size,0,none⟩ 1 1 [.int .i64 q] rfl rfl ?c1 ?c2 (by omega) ?c3 ?c4 ?c5 (wr.heap.size + 1) (by simp) ?_)
     case c1 => exact cell_one_new _ _ _
     case c2 => intro u hu;simp at hu;subst hu;rfl
     case c3 => unfold maxLen;omega
     case c4 => omega
     case c5 => simp;omega
     intro gg cap1 w3 hown1 hgrow hat hg1
     have o3:=hideIt ((HON.out.alloc _).grown hgrow (fun p hp0 hp => absurd (own2.lt p hp).1 (by omega)))
     have own3 : Hid (w3.ownsRow w2.heap.size 3 1 (.slice (some ⟨gg,0,none⟩) (k + 1) cap1) (k + 1) ((zgn (z.take (k + 1))).map (Value.int .i64))):=by
      simp only [Hid]
      rw [HST.out];exact hown1
     clear own2 hown1 hgrow hat
     go_wp2
     go_roundw
     case rel => exact ⟨k + 1,by omega,by go_num,own3.out,o3.out⟩
     case measure => simp [intOf];omega
    ·obtain rfl : k = n:=by omega
     have dlt : decide ((k : Int) < (k : Int)) = false:=by simp
     have OWZ : Hid (wr.ownsRow w.heap.size 3 1 u9 k ((zgn z).map (Value.int .i64))):=by
      have h1:=own_low HOWN.out O2.out.size
      rw [List.take_of_length_le (by rw [HZL.out];exact Nat.le_refl _)] at h1
      exact h1
     have ONZ:=hideIt (O2.out.same HON.out)
     clear hown hon HOWN
     have hbz : Bs .i64 wr u9 (zgn z):=Bs.of_own (by rw [zgn_length,HZL.out];exact OWZ.out)
     have SU:=hideIt (rsum_in u9 (zgn z) 2 wr hbz (NoCap.of_own OWZ.out) (by rw [zgn_length,HZL.out];omega) (zgn_i64 HZU.out) (by omega))
     obtain ⟨f9,c9,e9⟩:=hbz.len
     rw [zgn_length,HZL.out] at e9 SU
     subst e9
     clear hbz
     rw [← HL.out] at SU
     go_wp2_with fail
     refine SU.out.mono ?_
     rintro e wS ⟨uS,rfl,ownS,oS⟩
     have ONS:=hideIt (ONZ.out.same oS)
     have OWL : Hid (wS.ownsRow w.heap.size 3 1 uS L.length (L.map (Value.int .i64))):=by
      simp only [Hid];rw [HLL.out];exact own_low ownS ONZ.out.size
     clear SU ownS oS
     have EN:=rencode8_all uS L wS (Bs.of_own OWL.out) (NoCap.of_own OWL.out) HLI.out (.inl (by rw [HLL.out];omega))
     have HEL:=hideIt (ENC8_len (l:=L) (by rw [HLL.out];omega)).1
     rw [HLL.out] at HEL
     generalize ENC8 L = E at *
     obtain ⟨E1,Ec⟩:=E
     simp only at EN HEL HDD
     have EN:=hideIt EN
     obtain ⟨fL,cL,eL⟩:=(Bs.of_own OWL.out).len
     rw [HLL.out] at eL
     subst eL
     go_wp2_with fail
     refine EN.out.mono ?_
     rintro e wE ⟨uE,rfl,ownE,oE⟩
     have OE:=hideIt (ONS.out.same oE)
     have OWE:=hideIt (oE.own OWL.out (fun _ _ f => f))
     have SM:=hideIt (same_any uE (.slice (some ⟨b,off,none⟩) 1 1) E1 zs wE (Bs.of_own ownE) (HBZ.out.past OE.out) (by have:=HEL.out;omega))
     obtain ⟨fE,cE,eE⟩:=(Bs.of_own ownE).len
     subst eE
     clear EN ownE oE
     by_cases heq : E1 = zs
     ·have de : decide (E1 = zs) = true:=decide_eq_true heq
      rw [de] at SM
      have eD:=HDD.out
      rw [if_pos heq] at eD
      subst eD
      clear heq de HDD HEL
      generalize E1.length = e1 at *
      go_wp2_with fail
      refine SM.out.mono ?_
      rintro e wF ⟨rfl,oF⟩
      have OF:=hideIt (OE.out.same oF)
      have OWF:=hideIt (oF.own OWE.out (fun _ _ f => f))
      clear SM oF
      go_wp2
      try rw [Exit.noGoto_ret]
      go_ret2
      exact ⟨_,rfl,Bs.of_own OWF.out,OF.out⟩
     ·have de : decide (E1 = zs) = false:=decide_eq_false heq
      rw [de] at SM
      have eD:=HDD.out
      rw [if_neg heq] at eD
      subst eD
      clear heq de HDD HEL
      generalize E1.length = e1 at *
      go_wp2_with fail
      refine SM.out.mono ?_
      rintro e wF ⟨rfl,oF⟩
      have OF:=hideIt (OE.out.same oF)
      clear SM oF
      go_wp2
      try rw [Exit.noGoto_ret]
      go_ret2
      exact ⟨_,rfl,Bs.nil _ _,OF.out⟩
  ·have hcx : ¬ ((cap : Int) - 1 = 0):=by omega
   have RD:=hideIt (RA.out _ HRT2.out (NoCap.some _ _ _))
   clear RA HRT1 HRT2
   go_enter Tryz.func35,Tryz.ntmps35
   go_wp2_with fail
   refine RD.out.mono ?_
   rintro e w2 ⟨u2,rfl,b2,n2,o2⟩
   have O2:=hideIt o2
   have HBS:=hideIt b2
   obtain ⟨fz,cz,ez⟩:=b2.len
   rw [HZL.out] at ez
   subst ez
   clear RD b2 n2 o2
   go_wp2
   go_loopw [9,10] (fun s i wr => ∃ k : Nat,k ≤ n ∧ i = .int .i64 k ∧ wr.ownsRow w2.heap.size 3 1 s k ((zgn (z.take k)).map (Value.int .i64)) ∧ Only (fun _ => False) w2 wr) (fun _ i _ => n - (intOf i).toNat)
   case atStart => exact ⟨0,Nat.zero_le _,rfl,World.ownsRow_nil _ _ _ _,Only.refl _ _⟩
   case round =>
    obtain ⟨k,hk,rfl,hown,hon⟩:=hrel
    have HOWN:=hideIt hown
    have HON:=hideIt hon
    by_cases hlt : k < n
    ·have dlt : decide ((k : Int) < (n : Int)) = true:=by simp;omega
     have hkl : k < z.length:=by rw [HZL.out];exact hlt
     obtain ⟨bz,offz,capz,e1,hc0⟩:=(HBS.out.past hon).at k hkl
     have ea : fz = some ⟨bz,offz,none⟩:=by simp at e1;exact e1.1
     subst ea
     clear e1
     have hx:=HZU.out (z.getD k 0) (getD_mem0 z k hkl)
     have HST : Hid ((zgn (z.take (k + 1))).map (Value.int .i64) = (zgn (z.take k)).map (Value.int .i64) ++ [.int .i64 (zag (z.getD k 0))]):=by
      simp only [Hid];rw [take_snoc z k hkl];simp [zgn]
     have ZK:=hideIt (rzag_any (z.getD k 0) wr hx.1 hx.2)
     generalize z.getD k 0 = x at *
     have own2:=HOWN.out
     have hsz:=HON.out.size
     clear hown hon hkl
     go_wp2_with fail
     refine ZK.out.mono ?_
     rintro e w4 ⟨rfl,rfl⟩
     clear ZK
     generalize zag x = q at *
     go_wp2_with (at_builtin;refine wpList_append_lies _ rfl _ _ _ rfl w2.heap.size 3 i0 (.int .i64 0) 1 8 Tryz.underlying45 hi hz0 hz1 hz2 rfl (by omega) _ k _ rfl (own2.alloc _) ⟨wr.heap.size,0,none⟩ 1 1 [.int .i64 q] rfl rfl ?c1 ?c2 (by omega) ?c3 ?c4 ?c5 (wr.heap.size + 1) (by simp) ?_)
     case c1 => exact cell_one_new _ _ _
     case c2 => intro u hu;simp at hu;subst hu;rfl
     case c3 => unfold maxLen;omega
     case c4 => omega
     case c5 => simp;omega
     intro gg cap1 w3 hown1 hgrow hat hg1
     have o3:=hideIt ((HON.out.alloc _).grown hgrow (fun p hp0 hp => absurd (own2.lt p hp).1 (by omega)))
     have own3 : Hid (w3.ownsRow w2.heap.size 3 1 (.slice (some ⟨gg,0,none⟩) (k + 1) cap1) (k + 1) ((zgn (z.take (k + 1))).map (Value.int .i64))):=by
      simp only [Hid]
      rw [HST.out];exact hown1
     clear own2 hown1 hgrow hat
     go_wp2
     go_roundw
     case rel => exact ⟨k + 1,by omega,by go_num,own3.out,o3.out⟩
     case measure => simp [intOf];omega
    ·obtain rfl : k = n:=by omega
     have dlt : decide ((k : Int) < (k : Int)) = false:=by simp
     have OWZ : Hid (wr.ownsRow w.heap.size 3 1 u9 k ((zgn z).map (Value.int .i64))):=by
      have h1:=own_low HOWN.out O2.out.size
      rw [List.take_of_length_le (by rw [HZL.out];exact Nat.le_refl _)] at h1
      exact h1
     have ONZ:=hideIt (O2.out.same HON.out)
     clear hown hon HOWN
     have hbz : Bs .i64 wr u9 (zgn z):=Bs.of_own (by rw [zgn_length,HZL.out];exact OWZ.out)
     have SU:=hideIt (rsum_in u9 (zgn z) 2 wr hbz (NoCap.of_own OWZ.out) (by rw [zgn_length,HZL.out];omega) (zgn_i64 HZU.out) (by omega))
     obtain ⟨f9,c9,e9⟩:=hbz.len
     rw [zgn_length,HZL.out] at e9 SU
     subst e9
     clear hbz
     rw [← HL.out] at SU
     go_wp2_with fail
     refine SU.out.mono ?_
     rintro e wS ⟨uS,rfl,ownS,oS⟩
     have ONS:=hideIt (ONZ.out.same oS)
     have OWL : Hid (wS.ownsRow w.heap.size 3 1 uS L.length (L.map (Value.int .i64))):=by
      simp only [Hid];rw [HLL.out];exact own_low ownS ONZ.out.size
     clear SU ownS oS
     have EN:=rencode8_all uS L wS (Bs.of_own OWL.out) (NoCap.of_own OWL.out) HLI.out (.inl (by rw [HLL.out];omega))
     have HEL:=hideIt (ENC8_len (l:=L) (by rw [HLL.out];omega)).1
     rw [HLL.out] at HEL
     generalize ENC8 L = E at *
     obtain ⟨E1,Ec⟩:=E
     simp only at EN HEL HDD
     have EN:=hideIt EN
     obtain ⟨fL,cL,eL⟩:=(Bs.of_own OWL.out).len
     rw [HLL.out] at eL
     subst eL
     go_wp2_with fail
     refine EN.out.mono ?_
     rintro e wE ⟨uE,rfl,ownE,oE⟩
     have OE:=hideIt (ONS.out.same oE)
     have OWE:=hideIt (oE.own OWL.out (fun _ _ f => f))
     have SM:=hideIt (same_any uE (.slice (some ⟨b,off,none⟩) N cap) E1 zs wE (Bs.of_own ownE) (HBZ.out.past OE.out) (by have:=HEL.out;omega))
     obtain ⟨fE,cE,eE⟩:=(Bs.of_own ownE).len
     subst eE
     clear EN ownE oE
     by_cases heq : E1 = zs
     ·have de : decide (E1 = zs) = true:=decide_eq_true heq
      rw [de] at SM
      have eD:=HDD.out
      rw [if_pos heq] at eD
      subst eD
      clear heq de HDD HEL
      generalize E1.length = e1 at *
      go_wp2_with fail
      refine SM.out.mono ?_
      rintro e wF ⟨rfl,oF⟩
      have OF:=hideIt (OE.out.same oF)
      have OWF:=hideIt (oF.own OWE.out (fun _ _ f => f))
      clear SM oF
      go_wp2
      try rw [Exit.noGoto_ret]
      go_ret2
      exact ⟨_,rfl,Bs.of_own OWF.out,OF.out⟩
     ·have de : decide (E1 = zs) = false:=decide_eq_false heq
      rw [de] at SM
      have eD:=HDD.out
      rw [if_neg heq] at eD
      subst eD
      clear heq de HDD HEL
      generalize E1.length = e1 at *
      go_wp2_with fail
      refine SM.out.mono ?_
      rintro e wF ⟨rfl,oF⟩
      have OF:=hideIt (OE.out.same oF)
      clear SM oF
      go_wp2
      try rw [Exit.noGoto_ret]
      go_ret2
      exact ⟨_,rfl,Bs.nil _ _,OF.out⟩
 ·rw [if_pos hc] at eD
  subst eD
  have dc : (c != 0) = true:=by simp;exact hc
  clear HOK ht
  by_cases hcc : cap = 1
  ·subst hcc
   obtain rfl : N = 1:=by omega
   have RD:=hideIt (RA.out _ (HRT1.out rfl) (NoCap.some _ _ _))
   clear RA HRT1 HRT2
   go_enter Tryz.func35,Tryz.ntmps35
   go_wp2_with fail
   refine RD.out.mono ?_
   rintro e w2 ⟨u2,rfl,b2,n2,o2⟩
   have O2:=hideIt o2
   obtain ⟨fz,cz,ez⟩:=b2.len
   subst ez
   clear RD b2 n2 o2
   generalize z.length = zl at *
   go_wp2
   try rw [Exit.noGoto_ret]
   go_ret2
   exact ⟨_,rfl,Bs.nil _ _,O2.out⟩
  ·have hcx : ¬ ((cap : Int) - 1 = 0):=by omega
   have RD:=hideIt (RA.out _ HRT2.out (NoCap.some _ _ _))
   clear RA HRT1 HRT2
   go_enter Tryz.func35,Tryz.ntmps35
   go_wp2_with fail
   refine RD.out.mono ?_
   rintro e w2 ⟨u2,rfl,b2,n2,o2⟩
   have O2:=hideIt o2
   obtain ⟨fz,cz,ez⟩:=b2.len
   subst ez
   clear RD b2 n2 o2
   generalize z.length = zl at *
   go_wp2
   try rw [Exit.noGoto_ret]
   go_ret2
   exact ⟨_,rfl,Bs.nil _ _,O2.out⟩
theorem rdecode8_all (v : Value) (ys : List Int) (n : Int) (w : World) (h : Bs .u8 w v ys) (hr : Byt ys) (hl : ys.length ≤ 400) (hn : n ≤ 600 ∨ 65536 < n) :
  Calls Tryz.prog 35 #[v,.int .i64 n] w fun e w' => ∃ u,e = .returned (.tuple #[u,.int .i64 (DEC8 ys n).2]) ∧ Bs .i64 w' u (DEC8 ys n).1 ∧ Only (fun _ => False) w w':=by
 rw [← RDEC8_eq hr]
 by_cases ha : n < 0 ∨ 65536 < n
 ·have e : RDEC8 ys n = ([],1):=by unfold RDEC8;rw [if_pos ha]
  rw [e]
  refine (rdecode8_arg v n w ha).mono ?_
  rintro e w' ⟨rfl,rfl⟩
  exact ⟨_,rfl,Bs.nil _ _,Only.refl _ _⟩
 ·obtain ⟨m,rfl⟩:=Int.eq_ofNat_of_zero_le (show 0 ≤ n by omega)
  cases ys with
  | nil =>
   have e : RDEC8 [] m = ([],2):=by unfold RDEC8;rw [if_neg (by omega),if_pos rfl]
   rw [e]
   refine (rdecode8_nil v m w h (by omega)).mono ?_
   rintro e w' ⟨rfl,rfl⟩
   exact ⟨_,rfl,Bs.nil _ _,Only.refl _ _⟩
  | cons y r =>
   have hy:=hr y List.mem_cons_self
   have hr2 : Byt r:=fun z hz => hr z (List.mem_cons_of_mem _ hz)
   have hl2 : r.length ≤ 400:=by simp at hl;omega
   obtain ⟨t,rfl⟩ : ∃ t : Nat,y = t:=⟨y.toNat,by omega⟩
   by_cases h4 : 4 < t
   ·have e : RDEC8 ((t : Int) :: r) m = ([],3):=by unfold RDEC8;rw [if_neg (by omega),if_neg (by simp),List.getD_cons_zero,if_pos (by omega)]
    rw [e]
    refine (rdecode8_tag v t r m w h (by omega) h4 (by omega)).mono ?_
    rintro e w' ⟨rfl,rfl⟩
    exact ⟨_,rfl,Bs.nil _ _,Only.refl _ _⟩
   ·by_cases h0 : t = 0
    ·exact rdecode8_zero v t r m w h hr2 hl2 (by omega) h0
    ·by_cases h3 : t < 3
     ·exact rdecode8_low v t r m w h hr2 hl2 (by omega) (by omega)
     ·exact rdecode8_high v t r m w h hr2 hl2 (by omega) (by omega)
end Go.Proofs.YthapipgaohlgdaaGreatDoor


namespace Go.Proofs.YthapipgaohlgdaaGreatDoor
set_option maxRecDepth 100000
open Go.RowKit
set_option maxHeartbeats 800000 in
theorem rput_own (v : Value) (l : List Bool) (x width : Int) (w : World) (h : Bs .i64 w v (bitsI l)) (hnc : NoCap v) (hl : l.length ≤ 1000000) (h0 : 0 ≤ width) (h1 : width ≤ 64) (x0 : 0 ≤ x) (x1 : x ≤ 18446744073709551615) (hw : (wid x.toNat : Int) ≤ width) :
  Calls Tryz.prog 115 #[v,.int .u64 x,.int .i64 width] w fun e w' => ∃ v',e = .returned (.tuple #[v',.int .i64 0]) ∧ w'.ownsRow w.heap.size 3 1 v' (l ++ bitsOf x.toNat width.toNat).length ((bitsI (l ++ bitsOf x.toNat width.toNat)).map (Value.int .i64)) ∧ Only (fun _ => False) w w':=by
 obtain ⟨n,rfl⟩:=Int.eq_ofNat_of_zero_le h0
 rw [Int.toNat_natCast]
 obtain ⟨i0,hi,hz0,hz1,hz2⟩:=info_parts Tryz.info3
 have d1 : decide ((n : Int) < 0) = false:=by simp
 have d2 : decide (64 < (n : Int)) = false:=by simp;omega
 have d3 : decide (n < wid x.toNat) = false:=by simp;omega
 have ho:=World.ownsRow_made (base:=w.heap.size) (e:=3) (size:=1) w #[] 0 (Nat.le_refl _) (by unfold maxLen;omega) rfl
 have H0:=hideIt h
 obtain ⟨ao,cap,hv⟩:=(show ∃ ao cap,v = .slice ao l.length cap by obtain ⟨ao,cap,rfl,_⟩:=h;exact ⟨ao,cap,by rw [bitsI_length]⟩)
 obtain ⟨m,hm⟩ : ∃ m,m = l.length:=⟨_,rfl⟩
 have HM:=hideIt hm
 rw [← hm] at hv hl
 subst hv
 clear hm h
 cases ao with
 | none =>
  have hc0 : cap = 0:=hnc m cap rfl
  have hm0 : m = 0:=by
   obtain ⟨ao',cap',e,_,hr⟩:=H0.out
   simp at e
   rcases hb : bitsI l with _ | ⟨a,t⟩
   ·rw [hb] at e;simpa using e.2.1
   ·obtain ⟨b,off,e2,_⟩:=hr (by rw [hb];simp)
    rw [← e.1] at e2;cases e2
  subst hc0 hm0
  have hl0 : l = []:=List.eq_nil_of_length_eq_zero HM.out.symm
  have START : Hid ((w.alloc (.cells #[] 3)).ownsRow w.heap.size 3 1 (.slice (some ⟨w.heap.size,0,none⟩) 0 0) 0 ((bitsI l).map (Value.int .i64)) ∧ Below w.heap.size w (w.alloc (.cells #[] 3)) ∧ Value.slice (some ⟨w.heap.size,0,none⟩) 0 0 ≠ .slice none 0 0):=by
   refine ⟨?_,(Below.refl _ _).alloc (Nat.le_refl _) _,by simp⟩
   rw [hl0];exact ho
  clear ho hl0
  go_enter Tryz.func115,Tryz.ntmps115
  go_wp2_with fail
  refine (rwidth_any _ _ x0 x1).mono ?_
  rintro e w' ⟨rfl,rfl⟩
  go_wp2
  go_loopw [8,9] (fun o i wr => ∃ k : Nat,k ≤ n ∧ i = .int .i64 ((n : Int) - 1 - (k : Int)) ∧ wr.ownsRow w.heap.size 3 1 o k ((bitsI (l ++ (bitsOf x.toNat n).take k)).map (Value.int .i64)) ∧ Below w.heap.size w wr ∧ o ≠ .slice none 0 0) (fun _ i _ => (1 + intOf i).toNat)
  case atStart => exact ⟨0,Nat.zero_le _,by go_num,by have:=START.out.1;simpa using this,START.out.2.1,START.out.2.2⟩
  case round =>
   obtain ⟨k,hk,rfl,hown,hbel,hnn⟩:=hrel
   by_cases hlt : k < n
   ·have B8:=bits64_of x (n - 1 - k) x0 x1
    have TK:=hideIt (bitsOf_take x.toNat n k hlt)
    obtain ⟨c,hcc⟩ : ∃ c,c = x.toNat.testBit (n - 1 - k):=⟨_,rfl⟩
    rw [← hcc] at TK B8
    obtain ⟨t,ht⟩ : ∃ t : Nat,t = c.toNat:=⟨_,rfl⟩
    have ht1 : (t : Int) ≤ 1:=by have:=bool_le c;omega
    rw [← ht] at B8
    have HT:=hideIt ht
    have hsz:=hbel.size
    clear hcc ht
    go_wp2_with (at_builtin;refine wpList_append_lies _ rfl _ _ _ rfl w.heap.size 3 i0 (.int .i64 0) 1 8 Tryz.underlying45 hi hz0 hz1 hz2 rfl (by omega) _ k ((bitsI (l ++ (bitsOf x.toNat n).take k)).map (Value.int .i64)) rfl (hown.alloc _) ⟨wr.heap.size,0,none⟩ 1 1 [.int .i64 t] rfl rfl ?c1 ?c2 (by omega) ?c3 ?c4 ?c5 (wr.heap.size + 1) (by simp) ?_)
    case c1 => exact cell_one_new _ _ _
    case c2 => intro u hu;simp at hu;subst hu;rfl
    case c3 => unfold maxLen;omega
    case c4 => omega
    case c5 => simp;omega
    intro g cap1 w1 hown1 hgrow hat hg1
    have hb1 : Below w.heap.size w w1:=(hbel.alloc hbel.size _).grown hgrow (by simp;omega) (fun q hq => (hown.lt q hq).1)
    have hown2 : w1.ownsRow w.heap.size 3 1 (.slice (some ⟨g,0,none⟩) (k + 1) cap1) (k + 1) ((bitsI (l ++ (bitsOf x.toNat n).take (k + 1))).map (Value.int .i64)):=by
     rw [TK.out,← List.append_assoc,bitsI_vals_snoc,← HT.out];exact hown1
    clear hown hown1 hgrow hat hbel
    go_wp2
    go_roundw
    case rel => exact ⟨k + 1,by omega,by go_num,hown2,hb1,by simp⟩
    case measure => simp [intOf];omega
   ·have hkn : k = n:=by omega
    subst hkn
    go_wp2
    go_ret2
    refine ⟨_,rfl,?_,only_of_below hbel⟩
    rw [put_fin]
    have e : (l ++ (bitsOf x.toNat k).take k).length = k:=by rw [List.length_append,List.length_take,bitsOf_length,← HM.out];omega
    rw [e];exact hown
 | some ad =>
  go_enter Tryz.func115,Tryz.ntmps115
  go_wp2_with fail
  refine (rwidth_any _ _ x0 x1).mono ?_
  rintro e w' ⟨rfl,rfl⟩
  go_wp2_with (at_builtin;refine wpList_append_own_at _ rfl _ _ _ rfl w.heap.size 3 i0 (.int .i64 0) 1 8 Tryz.underlying45 hi hz0 hz1 hz2 rfl (by omega) (.slice (some ⟨w.heap.size,0,none⟩) 0 0) 0 [] rfl ho ad m cap ((bitsI l).map (Value.int .i64)) rfl ?c0 ?c1 ?c2 ?c3 ?c4 ?c5 ?_)
  case c0 => rw [List.length_map,bitsI_length,← HM.out];omega
  case c1 =>
   intro j u hu
   have h0:=bs_news H0.out j u hu
   rw [World.cell?_of_block (Below.heap_alloc w _ _ (World.block_lt_of_cell? w _ h0))];exact h0
  case c2 => exact oneCell_ints _ _
  case c3 => unfold maxLen;omega
  case c4 => omega
  case c5 => simp
  intro v' w1 hown1 hgrow hnn hat
  have START : Hid (w1.ownsRow w.heap.size 3 1 v' m ((bitsI l).map (Value.int .i64)) ∧ Below w.heap.size w w1 ∧ v' ≠ .slice none 0 0):=by
   refine ⟨by simpa using hown1,((Below.refl _ _).alloc (Nat.le_refl _) _).grown hgrow (by simp) (fun q hq => ?_),hnn⟩
   simp [Value.ownBlock] at hq
   omega
  clear hown1 hgrow hnn hat ho
  go_wp2
  go_loopw [8,9] (fun o i wr => ∃ k : Nat,k ≤ n ∧ i = .int .i64 ((n : Int) - 1 - (k : Int)) ∧ wr.ownsRow w.heap.size 3 1 o (m + k) ((bitsI (l ++ (bitsOf x.toNat n).take k)).map (Value.int .i64)) ∧ Below w.heap.size w wr ∧ o ≠ .slice none 0 0) (fun _ i _ => (1 + intOf i).toNat)
  case atStart => exact ⟨0,Nat.zero_le _,by go_num,by have:=START.out.1;simpa using this,START.out.2.1,START.out.2.2⟩
  case round =>
   obtain ⟨k,hk,rfl,hown,hbel,hnn⟩:=hrel
   by_cases hlt : k < n
   ·have B8:=bits64_of x (n - 1 - k) x0 x1
    have TK:=hideIt (bitsOf_take x.toNat n k hlt)
    obtain ⟨c,hcc⟩ : ∃ c,c = x.toNat.testBit (n - 1 - k):=⟨_,rfl⟩
    rw [← hcc] at TK B8
    obtain ⟨t,ht⟩ : ∃ t : Nat,t = c.toNat:=⟨_,rfl⟩
    have ht1 : (t : Int) ≤ 1:=by have:=bool_le c;omega
    rw [← ht] at B8
    have HT:=hideIt ht
    have hsz:=hbel.size
    clear hcc ht
    go_wp2_with (at_builtin;refine wpList_append_lies _ rfl _ _ _ rfl w.heap.size 3 i0 (.int .i64 0) 1 8 Tryz.underlying45 hi hz0 hz1 hz2 rfl (by omega) _ (m + k) ((bitsI (l ++ (bitsOf x.toNat n).take k)).map (Value.int .i64)) rfl (hown.alloc _) ⟨wr.heap.size,0,none⟩ 1 1 [.int .i64 t] rfl rfl ?c1 ?c2 (by omega) ?c3 ?c4 ?c5 (wr.heap.size + 1) (by simp) ?_)
    case c1 => exact cell_one_new _ _ _
    case c2 => intro u hu;simp at hu;subst hu;rfl
    case c3 => unfold maxLen;omega
    case c4 => omega
    case c5 => simp;omega
    intro g cap1 w1 hown1 hgrow hat hg1
    have hb1 : Below w.heap.size w w1:=(hbel.alloc hbel.size _).grown hgrow (by simp;omega) (fun q hq => (hown.lt q hq).1)
    have hown2 : w1.ownsRow w.heap.size 3 1 (.slice (some ⟨g,0,none⟩) (m + (k + 1)) cap1) (m + (k + 1)) ((bitsI (l ++ (bitsOf x.toNat n).take (k + 1))).map (Value.int .i64)):=by
     rw [← Nat.add_assoc,TK.out,← List.append_assoc,bitsI_vals_snoc,← HT.out];exact hown1
    clear hown hown1 hgrow hat hbel
    go_wp2
    go_roundw
    case rel => exact ⟨k + 1,by omega,by go_num,hown2,hb1,by simp⟩
    case measure => simp [intOf];omega
   ·have hkn : k = n:=by omega
    subst hkn
    go_wp2
    go_ret2
    refine ⟨_,rfl,?_,only_of_below hbel⟩
    rw [put_fin]
    have e : (l ++ (bitsOf x.toNat k).take k).length = m + k:=by rw [List.length_append,List.length_take,bitsOf_length,← HM.out];omega
    rw [e];exact hown
end Go.Proofs.YthapipgaohlgdaaGreatDoor
