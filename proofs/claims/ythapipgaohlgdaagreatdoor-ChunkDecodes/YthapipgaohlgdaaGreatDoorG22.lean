/- Several texts in one: Re8, RUn. -/
import Derived.Test.YthapipgaohlgdaaGreatDoorG21
import Derived.Test.YthapipgaohlgdaaGreatDoorG20
import Derived.Test.YthapipgaohlgdaaGreatDoorG7


namespace Go.Proofs.YthapipgaohlgdaaGreatDoor
set_option maxRecDepth 100000
open Go.RowKit
set_option maxHeartbeats 400000 in
theorem rencode8_long (v : Value) (l : List Int) (w : World) (h : Bs .i64 w v l) (hl : 65536 < l.length) :
  Calls Tryz.prog 25 #[v] w fun e w' => e = .returned (.tuple #[.slice none 0 0,.int .i64 4]) ∧ w = w':=by
 obtain ⟨ao,cap,rfl⟩:=h.len
 have d0 : decide ((65536 : Int) < l.length) = true:=decide_eq_true (by omega)
 clear h hl
 generalize l.length = n at *
 go_enter Tryz.func25,Tryz.ntmps25
 go_wp2
 try rw [Exit.noGoto_ret]
 go_ret2
 exact ⟨rfl,rfl⟩
set_option maxHeartbeats 1600000 in
theorem rencode8_bs (v : Value) (l : List Int) (w : World) (h : Bs .i64 w v l) (nc : NoCap v) (hg : I64s l) (hl : l.length ≤ 700) :
  Calls Tryz.prog 25 #[v] w fun e w' => ∃ u,e = .returned (.tuple #[u,.int .i64 0]) ∧ w'.ownsRow w.heap.size 5 1 u (((pick l 4).1 : Int) :: (pick l 4).2).length ((((pick l 4).1 : Int) :: (pick l 4).2).map (Value.int .u8)) ∧ Only (fun _ => False) w w':=by
 obtain ⟨i0,hi,hz0,hz1,hz2⟩:=info_parts Tryz.infoU8
 have WY : Hid (∀ (t : Nat) (w1 : World),t ≤ 4 → Only (fun _ => False) w w1 → Calls Tryz.prog 43 #[v,.int .i64 t] w1 fun e w' => ∃ u,e = .returned (.tuple #[u,.int .i64 (WAY l t).2]) ∧ w'.ownsRow w1.heap.size 5 1 u (WAY l t).1.length ((WAY l t).1.map (Value.int .u8)) ∧ Only (fun _ => False) w1 w') :=
  fun t w1 ht o => by
   have:=rway_any v l t w1 (h.past o) nc hg (.inl hl)
   rw [WAY8_nat (by omega) t ht] at this
   exact this
 have HP : Hid (∀ t,(pick l t).1 ≤ t ∧ (pick l t).2.length ≤ 8 * l.length):=fun t => ⟨(pick_spec l t).1,pick_len l t⟩
 have HPS : Hid (∀ t,pick l (t + 1) = if (WAY l (t + 1)).2 = 0 ∧ (WAY l (t + 1)).1.length < (pick l t).2.length then (t + 1,(WAY l (t + 1)).1) else pick l t):=fun t => rfl
 have HP0 : Hid (pick l 0 = (0,(WAY l 0).1) ∧ (WAY l 0).2 = 0):=⟨rfl,by rw [WAY_zero]⟩
 obtain ⟨pp,hpp⟩ : ∃ pp,pp = ((pick l 4).1 : Int) :: (pick l 4).2:=⟨_,rfl⟩
 rw [← hpp]
 have HPP:=hideIt hpp
 obtain ⟨ao,cap,rfl⟩:=h.len
 have d0 : decide ((65536 : Int) < l.length) = false:=decide_eq_false (by omega)
 clear h hg hpp nc
 go_enter Tryz.func25,Tryz.ntmps25
 go_wp2
 go_loopw [4,5,6] (fun s4 s5 s6 wr => ∃ t : Nat,t ≤ 5 ∧ s6 = .int .i64 t ∧ Only (fun _ => False) w wr ∧ ((t = 0 ∧ s4 = .int .i64 (-1) ∧ s5 = .slice none 0 0) ∨ (∃ t',t = t' + 1 ∧ s4 = .int .i64 ((pick l t').1 : Nat) ∧ wr.ownsRow w.heap.size 5 1 s5 (pick l t').2.length ((pick l t').2.map (Value.int .u8))))) (fun _ _ s6 _ => 5 - (intOf s6).toNat)
 case atStart => exact ⟨0,by omega,rfl,Only.refl _ _,.inl ⟨rfl,rfl,rfl⟩⟩
 case round =>
  obtain ⟨t,ht,rfl,hon,hcase⟩:=hrel
  have HON:=hideIt hon
  clear hon
  rcases hcase with ⟨rfl,rfl,rfl⟩ | ⟨t',rfl,rfl,hown⟩
  ·have WT:=WY.out 0 wr (by omega) HON.out
   have hp0:=HP0.out
   rw [hp0.2] at WT
   have WT:=hideIt WT
   have HQ:=hideIt hp0.1
   generalize (WAY l 0).1 = W1 at *
   clear hp0 WY HPS HP HP0
   go_wp2_with fail
   refine WT.out.mono ?_
   rintro e w3 ⟨v3,rfl,own3,o3⟩
   clear WT
   have OW3:=hideIt (own_low own3 HON.out.size)
   have O3:=hideIt (HON.out.same o3)
   obtain ⟨f3,c3,e3⟩:=(Bs.of_own own3).len
   subst e3
   clear own3 o3
   generalize hn1 : W1.length = n1 at *
   go_wp2
   go_roundw
   case rel =>
    refine ⟨1,by omega,by simp,O3.out,.inr ⟨0,rfl,?_,?_⟩⟩
    ·rw [HQ.out];rfl
    ·rw [HQ.out]
     simp only [hn1]
     exact OW3.out
   case measure => simp [intOf]
  ·have HOWN:=hideIt hown
   obtain ⟨f2,c2,e2⟩:=(Bs.of_own hown).len
   subst e2
   clear hown
   have hp1:=(HP.out t').1
   have HPL:=hideIt (HP.out t').2
   have HST:=hideIt (HPS.out t')
   have dm : decide (((pick l t').1 : Int) < 0) = false:=decide_eq_false (by omega)
   by_cases hlt : t' < 4
   ·have dlt : decide (((t' + 1 : Nat) : Int) ≤ 4) = true:=decide_eq_true (by omega)
    have WT:=hideIt (WY.out (t' + 1) wr (by omega) HON.out)
    generalize WAY l (t' + 1) = W at *
    obtain ⟨W1,c⟩:=W
    simp only at WT HST
    obtain ⟨pn,hpn⟩ : ∃ pn,pn = pick l (t' + 1):=⟨_,rfl⟩
    rw [← hpn] at HST
    have HPN:=hideIt hpn
    generalize pick l t' = p at *
    obtain ⟨p1,p2⟩:=p
    simp only at HOWN HST hp1 HPL dm
    clear hpn WY HPS HP HP0
    go_wp2_with fail
    refine WT.out.mono ?_
    rintro e w3 ⟨v3,rfl,own3,o3⟩
    clear WT
    have OW3:=hideIt (own_low own3 HON.out.size)
    have OWP:=hideIt (o3.own HOWN.out (fun _ _ f => f))
    have O3:=hideIt (HON.out.same o3)
    obtain ⟨f3,c3,e3⟩:=(Bs.of_own own3).len
    subst e3
    clear own3 o3
    by_cases hc : c = 0
    ·subst hc
     by_cases hlen : W1.length < p2.length
     ·have dl : decide ((W1.length : Int) < (p2.length : Int)) = true:=decide_eq_true (by omega)
      rw [if_pos ⟨rfl,hlen⟩] at HST
      generalize hn1 : W1.length = n1 at *
      generalize hn2 : p2.length = n2 at *
      go_wp2
      go_roundw
      case rel =>
       refine ⟨t' + 2,by omega,by simp;omega,O3.out,.inr ⟨t' + 1,rfl,?_,?_⟩⟩
       ·rw [← HPN.out,HST.out];simp
       ·rw [← HPN.out,HST.out]
        simp only [hn1]
        exact OW3.out
      case measure => simp [intOf];omega
     ·have dl : decide ((W1.length : Int) < (p2.length : Int)) = false:=decide_eq_false (by omega)
      rw [if_neg (fun hh => hlen hh.2)] at HST
      generalize hn1 : W1.length = n1 at *
      generalize hn2 : p2.length = n2 at *
      go_wp2
      go_roundw
      case rel =>
       refine ⟨t' + 2,by omega,by simp;omega,O3.out,.inr ⟨t' + 1,rfl,?_,?_⟩⟩
       ·rw [← HPN.out,HST.out]
       ·rw [← HPN.out,HST.out]
        simp only [hn2]
        exact OWP.out
      case measure => simp [intOf];omega
    ·have dc : (c == 0) = false:=by rw [beq_eq_false_iff_ne];exact hc
     rw [if_neg (fun hh => hc hh.1)] at HST
     generalize hn2 : p2.length = n2 at *
     go_wp2
     go_roundw
     case rel =>
      refine ⟨t' + 2,by omega,by simp;omega,O3.out,.inr ⟨t' + 1,rfl,?_,?_⟩⟩
      ·rw [← HPN.out,HST.out]
      ·rw [← HPN.out,HST.out]
       simp only [hn2]
       exact OWP.out
     case measure => simp [intOf];omega
   ·obtain rfl : t' = 4:=by omega
    clear HST HPS HP HP0 WY
    generalize pick l 4 = p at *
    obtain ⟨p1,p2⟩:=p
    simp only at HOWN hp1 HPL HPP dm
    have hq256 : (p1 : Int) < 256:=by omega
    have oA : Only (fun _ => False) wr (wr.alloc (.cells #[.int .u8 p1] 5)):=(Only.refl _ _).alloc _
    have ow:=World.ownsRow_lit (base:=w.heap.size) (e:=5) (size:=1) wr #[.int .u8 p1] 1 HON.out.size (by unfold maxLen;omega) rfl
    have HB4:=hideIt ((Bs.of_own HOWN.out).past oA)
    have NC4:=hideIt (NoCap.of_own HOWN.out)
    have O4:=hideIt (HON.out.same oA)
    have hs4 : w.heap.size ≤ (wr.alloc (.cells #[.int .u8 p1] 5)).heap.size:=O4.out.size
    clear oA HOWN
    go_wp2_with (at_builtin;refine wpList_append_bs _ rfl _ _ _ rfl w.heap.size 5 i0 (.int .u8 0) 1 Tryz.underlying26 hi hz0 hz1 hz2 rfl _ _ _ rfl ow .u8 _ p2 rfl HB4.out NC4.out ?c3 ?c4 hs4 ?_)
    case c3 => have:=HPL.out;unfold maxLen;omega
    case c4 => have:=HPL.out;omega
    intro v6 w6 own6 hgrow6 _ _
    have OWN6 : Hid (w6.ownsRow w.heap.size 5 1 v6 pp.length (pp.map (Value.int .u8))):=by
     simp only [Hid];rw [HPP.out,List.length_cons,List.map_cons,Nat.add_comm];exact own6
    have O6:=hideIt (O4.out.grown hgrow6 (fun k hk e => absurd (ow.lt k e).1 (by omega)))
    obtain ⟨f6,c6,e6⟩:=(Bs.of_own OWN6.out).len
    subst e6
    clear ow own6 hgrow6
    go_wp2
    try rw [Exit.noGoto_ret]
    go_ret2
    exact ⟨_,rfl,OWN6.out,O6.out⟩
theorem rencode8_all (v : Value) (l : List Int) (w : World) (h : Bs .i64 w v l) (nc : NoCap v) (hg : I64s l) (hl : l.length ≤ 700 ∨ 65536 < l.length) :
  Calls Tryz.prog 25 #[v] w fun e w' => ∃ u,e = .returned (.tuple #[u,.int .i64 (ENC8 l).2]) ∧ w'.ownsRow w.heap.size 5 1 u (ENC8 l).1.length ((ENC8 l).1.map (Value.int .u8)) ∧ Only (fun _ => False) w w':=by
 unfold ENC8
 by_cases hl2 : 65536 < l.length
 ·rw [if_pos hl2]
  refine (rencode8_long v l w h hl2).mono ?_
  rintro e w' ⟨rfl,rfl⟩
  exact ⟨_,rfl,World.ownsRow_nil _ _ _ _,Only.refl _ _⟩
 ·rw [if_neg hl2]
  exact rencode8_bs v l w h nc hg (by omega)
end Go.Proofs.YthapipgaohlgdaaGreatDoor


namespace Go.Proofs.YthapipgaohlgdaaGreatDoor
set_option maxRecDepth 100000
open Go.RowKit
theorem Tryz.infoU64r : (Tryz.prog.info? 42).map (fun i => (i.zero,i.size,i.bytes)) = some (some (.int .u64 0),1,8):=by kernel_rfl
def high (a q : Nat) (l : List Bool) (k : Nat) : Bool:=(List.range k).any fun i => decide (18446744073709551616 ≤ a + bnum ((l.drop (i * q)).take q))
theorem high_succ (a q : Nat) (l : List Bool) (k : Nat) : high a q l (k + 1) = (high a q l k || decide (18446744073709551616 ≤ a + bnum ((l.drop (k * q)).take q))):=by
 simp [high,List.range_succ]
theorem high_none (a q : Nat) (l : List Bool) (k : Nat) (h : ∀ i,i < k → a + bnum ((l.drop (i * q)).take q) < 18446744073709551616) : high a q l k = false:=by
 simp only [high,List.any_eq_false,List.mem_range,decide_eq_true_eq]
 intro i hi
 have:=h i hi
 omega
theorem only_of_below' {N : Nat} {w w' : World} (h : Below N w w') : Only (fun k => N ≤ k) w w':=⟨h.os,h.tape,h.output,h.size,fun k _ hk => h.block k (by omega)⟩
set_option maxHeartbeats 400000 in
theorem runpack_arg (v : Value) (n : Int) (w : World) (h : n < 0 ∨ 65536 < n) :
  Calls Tryz.prog 90 #[v,.int .i64 n] w fun e w' => e = .returned (.tuple #[.slice none 0 0,.int .i64 1]) ∧ w = w':=by
 by_cases h0 : n < 0
 ·have d0 : decide (n < 0) = true:=decide_eq_true h0
  clear h
  go_enter Tryz.func90,Tryz.ntmps90
  go_wp2
  go_ret2
  exact ⟨rfl,rfl⟩
 ·have h8 : 65536 < n:=by omega
  have d0 : decide (n < 0) = false:=decide_eq_false h0
  have d1 : decide (65536 < n) = true:=decide_eq_true h8
  clear h
  go_enter Tryz.func90,Tryz.ntmps90
  go_wp2
  go_ret2
  exact ⟨rfl,rfl⟩
set_option maxHeartbeats 400000 in
theorem runpack_err (v : Value) (ys : List Int) (n : Nat) (w : World) (h : Bs .u8 w v ys) (hr : ∀ y ∈ ys,0 ≤ y ∧ y ≤ 255) (hn : n ≤ 65536) {c : Int} (hrd : rd 0 0 ys = (0,0,c)) (hc : c = 2 ∨ c = 3) :
  Calls Tryz.prog 90 #[v,.int .i64 n] w fun e w' => e = .returned (.tuple #[.slice none 0 0,.int .i64 c]) ∧ w = w':=by
 have A:=hideIt (rread_as v ys w hrd h hr)
 have d0 : decide ((n : Int) < 0) = false:=by simp
 have d1 : decide (65536 < (n : Int)) = false:=decide_eq_false (by omega)
 have d2 : (c != 0) = true:=by simp;omega
 clear hrd hc hr h
 go_enter Tryz.func90,Tryz.ntmps90
 go_wp2_with fail
 refine A.out.mono ?_
 rintro e w1 ⟨rfl,rfl⟩
 clear A
 go_wp2
 go_ret2
 exact ⟨rfl,rfl⟩
theorem rd_gs0 (a : Nat) (t : List Int) (h : a < 18446744073709551616) : rd 0 0 (gs a ++ t) = ((a : Int),((gs a).length : Int),0):=by
 rw [rd_gs t a 0 0 (by omega) (by simpa using h) (by omega)]
 simp
set_option maxHeartbeats 400000 in
theorem runpack_none (v : Value) (a n : Nat) (w : World) (h : Bs .u8 w v (gs a)) (hn : n ≤ 65536) (ha : a < 18446744073709551616) :
  Calls Tryz.prog 90 #[v,.int .i64 n] w fun e w' => e = .returned (.tuple #[.slice none 0 0,.int .i64 2]) ∧ w = w':=by
 have hrd:=rd_gs0 a [] ha
 rw [List.append_nil] at hrd
 have A:=hideIt (rread_as v (gs a) w hrd h (gs_range a))
 have d0 : decide ((n : Int) < 0) = false:=by simp
 have d1 : decide (65536 < (n : Int)) = false:=decide_eq_false (by omega)
 obtain ⟨ao,cap,rfl⟩:=h.len
 obtain ⟨m,hm⟩ : ∃ m,m = (gs a).length:=⟨_,rfl⟩
 rw [← hm] at A ⊢
 have d3 : ((m : Int) == (m : Int)) = true:=by simp
 clear hrd h hm
 go_enter Tryz.func90,Tryz.ntmps90
 go_wp2_with fail
 refine A.out.mono ?_
 rintro e w1 ⟨rfl,rfl⟩
 clear A
 go_wp2
 go_ret2
 exact ⟨rfl,rfl⟩
set_option maxHeartbeats 1600000 in
theorem runpack_at (v : Value) (a n : Nat) (y : Int) (r : List Int) (w : World) (h : Bs .u8 w v (gs a ++ y :: r)) (hr : ∀ z ∈ gs a ++ y :: r,0 ≤ z ∧ z ≤ 255) (hl : r.length ≤ 400) (hn : n ≤ 700) (ha : a < 18446744073709551616) :
  Calls Tryz.prog 90 #[v,.int .i64 n] w fun e w' => ∃ v',e = .returned (.tuple #[v',.int .i64 (UN (gs a ++ y :: r) n).1]) ∧ Bs .u64 w' v' (UN (gs a ++ y :: r) n).2 ∧ NoCap v' ∧ Only (fun _ => False) w w':=by
 have hrd:=rd_gs0 a (y :: r) ha
 have A:=hideIt (rread_as v _ w hrd h hr)
 have HB:=hideIt h
 have HR:=hideIt hr
 obtain ⟨y0,y1⟩:=hr y (by simp)
 have HRR : Hid (∀ z ∈ r,0 ≤ z ∧ z ≤ 255):=fun z hz => hr z (by simp [hz])
 have d0 : decide ((n : Int) < 0) = false:=by simp
 have d1 : decide (65536 < (n : Int)) = false:=decide_eq_false (by omega)
 have h10:=gs_le10 ha
 obtain ⟨q,rfl⟩:=Int.eq_ofNat_of_zero_le y0
 have hun : UN (gs a ++ (q : Int) :: r) n = if 64 < (q : Int) then (3,[]) else if 8 * r.length < n * q then (2,[]) else if PK (nums a q (allBits r) n) = gs a ++ (q : Int) :: r then (0,nums a q (allBits r) n) else (3,[]):=by
  unfold UN
  rw [if_neg (by omega),Int.toNat_natCast,rdl_at a n q r ha,Int.toNat_natCast]
  by_cases p1 : 64 < (q : Int)
  ·rw [if_pos p1,if_pos p1];rfl
  ·rw [if_neg p1,if_neg p1]
   by_cases p2 : 8 * r.length < n * q
   ·rw [if_pos p2,if_pos p2];rfl
   ·rw [if_neg p2,if_neg p2];rfl
 have F1 : Hid (64 < (q : Int) → UN (gs a ++ (q : Int) :: r) n = (3,[])):=fun h => by rw [hun,if_pos h]
 have F2 : Hid (¬ 64 < (q : Int) → 8 * r.length < n * q → UN (gs a ++ (q : Int) :: r) n = (2,[])):=fun h1 h2 => by rw [hun,if_neg h1,if_pos h2]
 have F3 : Hid (¬ 64 < (q : Int) → ¬ 8 * r.length < n * q → PK (nums a q (allBits r) n) = gs a ++ (q : Int) :: r → UN (gs a ++ (q : Int) :: r) n = (0,nums a q (allBits r) n)):=fun h1 h2 h3 => by rw [hun,if_neg h1,if_neg h2,if_pos h3]
 have F4 : Hid (¬ 64 < (q : Int) → ¬ 8 * r.length < n * q → PK (nums a q (allBits r) n) ≠ gs a ++ (q : Int) :: r → UN (gs a ++ (q : Int) :: r) n = (3,[])):=fun h1 h2 h3 => by rw [hun,if_neg h1,if_neg h2,if_neg h3]
 have F5 : Hid (bendV ((allBits r).drop (n * q)) ≠ 0 ∨ high a q (allBits r) n = true → PK (nums a q (allBits r) n) ≠ gs a ++ (q : Int) :: r):=by
  intro h0 e
  have:=pk_fits (y:=(q : Int)) ha (by rw [Int.toNat_natCast];exact e)
  rw [Int.toNat_natCast] at this
  rcases h0 with h0 | h0
  ·exact h0 this.1
  ·rw [high_none _ _ _ _ this.2] at h0;simp at h0
 clear hun
 obtain ⟨U,hU⟩ : ∃ U,U = UN (gs a ++ (q : Int) :: r) n:=⟨_,rfl⟩
 rw [← hU] at F1 F2 F3 F4 ⊢
 clear hU
 obtain ⟨uc,ul⟩:=U
 simp only at F1 F2 F3 F4 ⊢
 obtain ⟨ao,cap,hbc,hcap,hcell⟩:=h
 obtain ⟨b,off,rfl,hcells⟩:=hcell (by simp)
 subst hbc
 obtain ⟨k,hk⟩ : ∃ k,k = (gs a).length:=⟨_,rfl⟩
 have hmlen : (gs a ++ (q : Int) :: r).length = k + 1 + r.length:=by rw [hk];simp;omega
 have cq : w.cell? ⟨b,off + k,none⟩ = some (.int .u8 q):=by
  have:=hcells k (by rw [hmlen];omega)
  rw [this];congr 2;rw [hk,List.getD_eq_getElem?_getD];simp
 rw [hmlen] at hcap HB A ⊢
 rw [← hk] at A h10
 have HK:=hideIt hk
 clear hrd hr hk hmlen hcell hcells
 obtain ⟨rl,hrl⟩ : ∃ rl,rl = r.length:=⟨_,rfl⟩
 rw [← hrl] at A HB hcap hl F2 F3 F4 ⊢
 have HRL:=hideIt hrl
 obtain ⟨m,hm⟩ : ∃ m,m = k + 1 + rl:=⟨_,rfl⟩
 rw [← hm] at A HB hcap ⊢
 have HM:=hideIt hm
 have d3 : ((k : Int) == (m : Int)) = false:=by simp;omega
 have i1 : (k : Int) < (m : Int):=by omega
 have hm700 : m ≤ 700:=by omega
 clear hrl hm
 by_cases p1 : 64 < (q : Int)
 ·have d4 : decide (64 < (q : Int)) = true:=decide_eq_true p1
  have F:=hideIt (F1.out p1)
  clear F1 F2 F3 F4 F5 p1
  go_enter Tryz.func90,Tryz.ntmps90
  go_wp2_with fail
  refine A.out.mono ?_
  rintro e w1 ⟨rfl,rfl⟩
  clear A
  go_wp2
  go_ret2
  have e:=F.out
  simp only [Prod.mk.injEq] at e
  obtain ⟨rfl,rfl⟩:=e
  exact ⟨_,rfl,Bs.nil _ _,NoCap.nil,Only.refl _ _⟩
 ·have d4 : decide (64 < (q : Int)) = false:=decide_eq_false p1
  have hq : q ≤ 64:=by omega
  have hnq : n * q ≤ 700 * 64:=Nat.mul_le_mul hn hq
  have hnqI : Hid (((n : Int) * (q : Int)) = ((n * q : Nat) : Int)):=by simp only [Hid];simp
  have m0 : 0 ≤ (n : Int) * (q : Int):=by rw [hnqI.out];omega
  have m1 : (n : Int) * (q : Int) ≤ 44800:=by rw [hnqI.out];omega
  have HNQ:=hideIt hnq
  clear hnq
  by_cases p2 : 8 * rl < n * q
  ·have d5 : decide (8 * ((m : Int) - (k : Int) - 1) < (n : Int) * (q : Int)) = true:=by have:=HM.out;rw [hnqI.out];simp only [decide_eq_true_eq];omega
   have F:=hideIt (F2.out p1 p2)
   clear F1 F2 F3 F4 F5 p1 p2
   go_enter Tryz.func90,Tryz.ntmps90
   go_wp2_with fail
   refine A.out.mono ?_
   rintro e w1 ⟨rfl,rfl⟩
   clear A
   go_wp2
   go_ret2
   have e:=F.out
   simp only [Prod.mk.injEq] at e
   obtain ⟨rfl,rfl⟩:=e
   exact ⟨_,rfl,Bs.nil _ _,NoCap.nil,Only.refl _ _⟩
  ·have d5 : decide (8 * ((m : Int) - (k : Int) - 1) < (n : Int) * (q : Int)) = false:=by have:=HM.out;rw [hnqI.out];simp only [decide_eq_false_iff_not];omega
   have i2 : (k : Int) + 1 ≤ (m : Int):=by omega
   have i3 : (m : Int) ≤ (cap : Int):=by omega
   have HP1:=hideIt p1
   have HP2:=hideIt p2
   clear p1 p2 F1 F2
   by_cases hcp : cap = k + 1
   ·subst hcp
    have HBSV : Hid (Bs .u8 w (.slice (some ⟨b,off,none⟩) 0 0) r):=by
     have h0 : r = []:=List.eq_nil_of_length_eq_zero (by have:=HRL.out;have:=HM.out;omega)
     subst h0
     exact ⟨_,_,rfl,Nat.le_refl _,fun h => absurd rfl h⟩
    go_enter Tryz.func90,Tryz.ntmps90
    go_wp2_with fail
    refine A.out.mono ?_
    rintro e w1 ⟨rfl,rfl⟩
    clear A
    obtain ⟨i0,hi,hz0,hz1,hz2⟩:=info_parts Tryz.infoU64r
    have OF:=hideIt (of_bs (.slice (some ⟨b,off,none⟩) 0 0) r w HBSV.out HRR.out (by have:=HRL.out;omega))
    clear HBSV
    go_wp2_with fail
    refine OF.out.mono ?_
    rintro e w1 ⟨v1,rfl,own1,o1⟩
    have O1:=hideIt o1
    have BV1:=hideIt (Bs.of_own (k:=.i64) (xs:=bitsI (allBits r)) (by rw [bitsI_length];exact own1))
    have LV1 : Hid (∀ p,v1.ownBlock = some p → p < w1.heap.size):=fun p hp => (own1.lt p hp).2
    obtain ⟨f1,cp1,e1⟩:=BV1.out.len
    rw [bitsI_length,allBits_length] at e1
    subst e1
    clear OF own1 o1
    go_wp2
    go_loopw [10,11,12,13] (fun lv ov hv i wr => ∃ t : Nat,t ≤ n ∧ i = .int .i64 t ∧ Bs .i64 wr lv (bitsI ((allBits r).drop (t * q))) ∧ (∀ p,lv.ownBlock = some p → p < w1.heap.size) ∧ wr.ownsRow w1.heap.size 42 1 ov t ((nums a q (allBits r) t).map (Value.int .u64)) ∧ hv = .bool (high a q (allBits r) t) ∧ Below w1.heap.size w1 wr) (fun _ _ _ i _ => n - (intOf i).toNat)
    case atStart => exact ⟨0,Nat.zero_le _,rfl,by rw [Nat.zero_mul,List.drop_zero];exact BV1.out,LV1.out,World.ownsRow_nil _ _ _ _,rfl,Below.refl _ _⟩
    case round =>
     obtain ⟨t,ht,rfl,hlv,hlb,hown,rfl,hbw⟩:=hrel
     clear BV1 LV1
     have OWN:=hideIt hown
     have HLB:=hideIt hlb
     have HBW:=hideIt hbw
     have hdl : ((allBits r).drop (t * q)).length = 8 * rl - t * q:=by rw [List.length_drop,allBits_length,← HRL.out]
     by_cases hlt : t < n
     ·have htq : t * q + q ≤ 8 * rl:=by
       have h1 : (t + 1) * q ≤ n * q:=Nat.mul_le_mul_right q (by omega)
       rw [Nat.add_mul,Nat.one_mul] at h1
       have:=HP2.out
       omega
      have GT:=rget_bs _ ((allBits r).drop (t * q)) (q : Int) wr hlv (by omega) (by omega) (by omega) (by omega)
      rw [Int.toNat_natCast] at GT
      have GT:=hideIt GT
      have hx : Hid (bnum (((allBits r).drop (t * q)).take q) < 18446744073709551616):=by
       have h1:=bnum_lt (((allBits r).drop (t * q)).take q)
       have h2 : 2 ^ (((allBits r).drop (t * q)).take q).length ≤ 2 ^ 64:=Nat.pow_le_pow_right (by omega) (by rw [List.length_take];omega)
       have h3 : (2 : Nat) ^ 64 = 18446744073709551616:=by decide
       simp only [Hid];omega
      have hnx : Hid (nums a q (allBits r) (t + 1) = nums a q (allBits r) t ++ [(((a + bnum (((allBits r).drop (t * q)).take q)) % 18446744073709551616 : Nat) : Int)]):=nums_succ _ _ _ _
      have hhs : Hid (high a q (allBits r) (t + 1) = (high a q (allBits r) t || decide (18446744073709551616 ≤ a + bnum (((allBits r).drop (t * q)).take q)))):=high_succ _ _ _ _
      have dlt : decide ((t : Int) < (n : Int)) = true:=by simp;omega
      obtain ⟨x,hx2⟩ : ∃ x,x = bnum (((allBits r).drop (t * q)).take q):=⟨_,rfl⟩
      rw [← hx2] at hx hnx hhs GT
      have hxx:=hx.out
      obtain ⟨fl,cl,el⟩:=hlv.len
      have hlv':=hideIt hlv
      obtain ⟨hh,hhd⟩ : ∃ hh,hh = high a q (allBits r) t:=⟨_,rfl⟩
      rw [← hhd] at hhs ⊢
      clear hx hx2 htq hown hlb hbw hhd hlv hdl
      rw [el] at GT HLB ⊢
      obtain ⟨ll,hll⟩ : ∃ ll,ll = (bitsI ((allBits r).drop (t * q))).length:=⟨_,rfl⟩
      rw [← hll] at GT HLB ⊢
      clear el hll hlv'
      go_wp2_with fail
      refine GT.out.mono ?_
      rintro e w2 ⟨v2,rfl,b2,o2,ob2⟩
      have BV2:=hideIt b2
      have LV2 : Hid (∀ p,v2.ownBlock = some p → p < w1.heap.size):=fun p hp => HLB.out p (by rw [← ob2];exact hp)
      have OWN2:=hideIt (o2.own OWN.out (fun _ _ f => f))
      have HBW2:=hideIt (HBW.out.trans (o2.low HBW.out.size))
      obtain ⟨f2,c2,e2⟩:=b2.len
      subst e2
      clear GT b2 o2 ob2 OWN HLB HBW
      obtain ⟨l2,hl2⟩ : ∃ l2,l2 = (bitsI (((allBits r).drop (t * q)).drop q)).length:=⟨_,rfl⟩
      rw [← hl2] at BV2 LV2 ⊢
      clear hl2
      cases hh with
      | true =>
       have HIGH : Hid (high a q (allBits r) (t + 1) = true):=by simp only [Hid];rw [hhs.out];rfl
       clear hhs
       have hsz:=HBW2.out.size
       have HGROW : Hid True:=trivial
       have own2:=OWN2.out
       obtain ⟨nm,hnm⟩ : ∃ nm,nm = nums a q (allBits r) t:=⟨_,rfl⟩
       rw [← hnm] at own2 hnx
       clear hnm
       go_wp2_with (at_builtin;refine wpList_append_lies _ rfl _ _ _ rfl w1.heap.size 42 i0 (.int .u64 0) 1 8 Tryz.underlying46 hi hz0 hz1 hz2 rfl (by omega) _ t (nm.map (Value.int .u64)) rfl (own2.alloc _) ⟨w2.heap.size,0,none⟩ 1 1 [.int .u64 (IntKind.u64.wrap ((x : Int) + (a : Int)))] rfl rfl ?c1 ?c2 (by omega) ?c3 ?c4 ?c5 (w2.heap.size + 1) (by simp) ?_)
       case c1 => exact cell_one_new _ _ _
       case c2 => intro u hu;simp at hu;subst hu;rfl
       case c3 => unfold maxLen;omega
       case c4 => omega
       case c5 => simp;omega
       intro g cap1 w3 hown3 hgrow hat hg1
       have hv : IntKind.u64.wrap ((x : Int) + (a : Int)) = (((a + x) % 18446744073709551616 : Nat) : Int):=by rw [IntKind.wrap_u64];omega
       have hb3 : Hid (Below w1.heap.size w1 w3):=(HBW2.out.alloc (by omega) _).grown hgrow (by simp;omega) (fun p hp => (own2.lt p hp).1)
       have hb23 : Below w1.heap.size w2 w3:=((Below.refl _ w2).alloc (by omega) _).grown hgrow (by simp;omega) (fun p hp => (own2.lt p hp).1)
       have OWN3 : Hid (w3.ownsRow w1.heap.size 42 1 (.slice (some ⟨g,0,none⟩) (t + 1) cap1) (t + 1) ((nums a q (allBits r) (t + 1)).map (Value.int .u64))):=by
        simp only [Hid]
        rw [hnx.out,List.map_append,List.map_cons,List.map_nil,← hv];exact hown3
       have B3 : Hid (Bs .i64 w3 (.slice f2 l2 c2) (bitsI ((allBits r).drop ((t + 1) * q)))):=by
        have e : (allBits r).drop ((t + 1) * q) = ((allBits r).drop (t * q)).drop q:=by rw [List.drop_drop,Nat.add_mul,Nat.one_mul]
        simp only [Hid]
        rw [e]
        refine BV2.out.keep (S:=fun p => w1.heap.size ≤ p) ⟨hb23.os,hb23.tape,hb23.output,hb23.size,fun p hp hs => hb23.block p (by omega)⟩ (fun p hp => by have:=LV2.out p hp;omega)
       clear own2 hown3 hgrow hat hv hb23
       go_wp2
       go_roundw
       case rel => exact ⟨t + 1,by omega,by simp,B3.out,LV2.out,OWN3.out,by rw [HIGH.out],hb3.out⟩
       case measure => simp [intOf];omega
      | false =>
       by_cases p3 : 18446744073709551616 ≤ a + x
       ·have HIGH : Hid (high a q (allBits r) (t + 1) = true):=by simp only [Hid];rw [hhs.out,decide_eq_true p3];rfl
        have d6 : decide ((18446744073709551615 : Int) - (a : Int) < (x : Int)) = true:=decide_eq_true (by omega)
        clear hhs p3
        have hsz:=HBW2.out.size
        have HGROW : Hid True:=trivial
        have own2:=OWN2.out
        obtain ⟨nm,hnm⟩ : ∃ nm,nm = nums a q (allBits r) t:=⟨_,rfl⟩
        rw [← hnm] at own2 hnx
        clear hnm
        go_wp2_with (at_builtin;refine wpList_append_lies _ rfl _ _ _ rfl w1.heap.size 42 i0 (.int .u64 0) 1 8 Tryz.underlying46 hi hz0 hz1 hz2 rfl (by omega) _ t (nm.map (Value.int .u64)) rfl (own2.alloc _) ⟨w2.heap.size,0,none⟩ 1 1 [.int .u64 (IntKind.u64.wrap ((x : Int) + (a : Int)))] rfl rfl ?c1 ?c2 (by omega) ?c3 ?c4 ?c5 (w2.heap.size + 1) (by simp) ?_)
        case c1 => exact cell_one_new _ _ _
        case c2 => intro u hu;simp at hu;subst hu;rfl
        case c3 => unfold maxLen;omega
        case c4 => omega
        case c5 => simp;omega
        intro g cap1 w3 hown3 hgrow hat hg1
        have hv : IntKind.u64.wrap ((x : Int) + (a : Int)) = (((a + x) % 18446744073709551616 : Nat) : Int):=by rw [IntKind.wrap_u64];omega
        have hb3 : Hid (Below w1.heap.size w1 w3):=(HBW2.out.alloc (by omega) _).grown hgrow (by simp;omega) (fun p hp => (own2.lt p hp).1)
        have hb23 : Below w1.heap.size w2 w3:=((Below.refl _ w2).alloc (by omega) _).grown hgrow (by simp;omega) (fun p hp => (own2.lt p hp).1)
        have OWN3 : Hid (w3.ownsRow w1.heap.size 42 1 (.slice (some ⟨g,0,none⟩) (t + 1) cap1) (t + 1) ((nums a q (allBits r) (t + 1)).map (Value.int .u64))):=by
         simp only [Hid]
         rw [hnx.out,List.map_append,List.map_cons,List.map_nil,← hv];exact hown3
        have B3 : Hid (Bs .i64 w3 (.slice f2 l2 c2) (bitsI ((allBits r).drop ((t + 1) * q)))):=by
         have e : (allBits r).drop ((t + 1) * q) = ((allBits r).drop (t * q)).drop q:=by rw [List.drop_drop,Nat.add_mul,Nat.one_mul]
         simp only [Hid]
         rw [e]
         refine BV2.out.keep (S:=fun p => w1.heap.size ≤ p) ⟨hb23.os,hb23.tape,hb23.output,hb23.size,fun p hp hs => hb23.block p (by omega)⟩ (fun p hp => by have:=LV2.out p hp;omega)
        clear own2 hown3 hgrow hat hv hb23
        go_wp2
        go_roundw
        case rel => exact ⟨t + 1,by omega,by simp,B3.out,LV2.out,OWN3.out,by rw [HIGH.out],hb3.out⟩
        case measure => simp [intOf];omega
       ·have HIGH : Hid (high a q (allBits r) (t + 1) = false):=by simp only [Hid];rw [hhs.out,decide_eq_false p3];rfl
        have d6 : decide ((18446744073709551615 : Int) - (a : Int) < (x : Int)) = false:=decide_eq_false (by omega)
        clear hhs p3
        have hsz:=HBW2.out.size
        have HGROW : Hid True:=trivial
        have own2:=OWN2.out
        obtain ⟨nm,hnm⟩ : ∃ nm,nm = nums a q (allBits r) t:=⟨_,rfl⟩
        rw [← hnm] at own2 hnx
        clear hnm
        go_wp2_with (at_builtin;refine wpList_append_lies _ rfl _ _ _ rfl w1.heap.size 42 i0 (.int .u64 0) 1 8 Tryz.underlying46 hi hz0 hz1 hz2 rfl (by omega) _ t (nm.map (Value.int .u64)) rfl (own2.alloc _) ⟨w2.heap.size,0,none⟩ 1 1 [.int .u64 (IntKind.u64.wrap ((x : Int) + (a : Int)))] rfl rfl ?c1 ?c2 (by omega) ?c3 ?c4 ?c5 (w2.heap.size + 1) (by simp) ?_)
        case c1 => exact cell_one_new _ _ _
        case c2 => intro u hu;simp at hu;subst hu;rfl
        case c3 => unfold maxLen;omega
        case c4 => omega
        case c5 => simp;omega
        intro g cap1 w3 hown3 hgrow hat hg1
        have hv : IntKind.u64.wrap ((x : Int) + (a : Int)) = (((a + x) % 18446744073709551616 : Nat) : Int):=by rw [IntKind.wrap_u64];omega
        have hb3 : Hid (Below w1.heap.size w1 w3):=(HBW2.out.alloc (by omega) _).grown hgrow (by simp;omega) (fun p hp => (own2.lt p hp).1)
        have hb23 : Below w1.heap.size w2 w3:=((Below.refl _ w2).alloc (by omega) _).grown hgrow (by simp;omega) (fun p hp => (own2.lt p hp).1)
        have OWN3 : Hid (w3.ownsRow w1.heap.size 42 1 (.slice (some ⟨g,0,none⟩) (t + 1) cap1) (t + 1) ((nums a q (allBits r) (t + 1)).map (Value.int .u64))):=by
         simp only [Hid]
         rw [hnx.out,List.map_append,List.map_cons,List.map_nil,← hv];exact hown3
        have B3 : Hid (Bs .i64 w3 (.slice f2 l2 c2) (bitsI ((allBits r).drop ((t + 1) * q)))):=by
         have e : (allBits r).drop ((t + 1) * q) = ((allBits r).drop (t * q)).drop q:=by rw [List.drop_drop,Nat.add_mul,Nat.one_mul]
         simp only [Hid]
         rw [e]
         refine BV2.out.keep (S:=fun p => w1.heap.size ≤ p) ⟨hb23.os,hb23.tape,hb23.output,hb23.size,fun p hp hs => hb23.block p (by omega)⟩ (fun p hp => by have:=LV2.out p hp;omega)
        clear own2 hown3 hgrow hat hv hb23
        go_wp2
        go_roundw
        case rel => exact ⟨t + 1,by omega,by simp,B3.out,LV2.out,OWN3.out,by rw [HIGH.out],hb3.out⟩
        case measure => simp [intOf];omega
     ·obtain rfl : t = n:=by omega
      have dlt : decide ((t : Int) < (t : Int)) = false:=by simp
      have RE:=hideIt (rend_bs _ ((allBits r).drop (t * q)) wr hlv (by omega))
      have F4':=hideIt (F4.out HP1.out HP2.out)
      have F3':=hideIt (F3.out HP1.out HP2.out)
      obtain ⟨ev,hev⟩ : ∃ ev,ev = bendV ((allBits r).drop (t * q)):=⟨_,rfl⟩
      obtain ⟨hh,hhd⟩ : ∃ hh,hh = high a q (allBits r) t:=⟨_,rfl⟩
      rw [← hev] at RE
      rw [← hev,← hhd] at F5
      rw [← hhd]
      obtain ⟨fl,cl,el⟩:=hlv.len
      rw [el] at RE ⊢
      obtain ⟨ll,hll⟩ : ∃ ll,ll = (bitsI ((allBits r).drop (t * q))).length:=⟨_,rfl⟩
      rw [← hll] at RE ⊢
      have PA:=hideIt (fun w' (o : Below wr.heap.size wr w') => rpack_bs _ (nums a q (allBits r) t) w' ((Bs.of_own (by rw [nums_length];exact hown)).later o) (nums_u64 _ _ _ _) (by rw [nums_length];exact hn))
      obtain ⟨fo,co,eo⟩:=(Bs.of_own (k:=.u64) (xs:=nums a q (allBits r) t) (by rw [nums_length];exact hown)).len
      rw [nums_length] at eo
      have HE:=hideIt eo
      rw [eo] at PA OWN ⊢
      have HPL : Hid ((PK (nums a q (allBits r) t)).length ≤ 5700):=by
       simp only [Hid]
       have h1:=wd_le (nums_u64 a q (allBits r) t)
       have h2:=(lohi (nums_u64 a q (allBits r) t))
       have h3 : t * wd (nums a q (allBits r) t) ≤ 700 * 64:=Nat.mul_le_mul hn h1
       have h4:=gs_le10 (v:=(lo (nums a q (allBits r) t)).toNat) (by omega)
       rw [PK_length,nums_length];omega
      clear hlv hlb hown hbw hdl el hll hev hhd F3 F4 eo
      have HOO:=hideIt (O1.out.trans (only_of_below' HBW.out) (fun i hi e => by have:=O1.out.size;omega))
      by_cases he : ev = 0
      ·subst he
       cases hh with
       | true =>
        have F:=hideIt (F4'.out (F5.out (.inr rfl)))
        clear F5 F3' F4' PA
        go_wp2_with fail
        refine RE.out.mono ?_
        rintro e w2 ⟨rfl,rfl⟩
        clear RE
        go_wp2
        go_ret2
        have e:=F.out
        simp only [Prod.mk.injEq] at e
        obtain ⟨rfl,rfl⟩:=e
        exact ⟨_,rfl,Bs.nil _ _,NoCap.nil,HOO.out⟩
       | false =>
        clear F5
        go_wp2_with fail
        refine RE.out.mono ?_
        rintro e w2 ⟨rfl,rfl⟩
        have PB:=hideIt (PA.out wr (Below.refl _ _))
        clear RE PA
        go_wp2_with fail
        refine PB.out.mono ?_
        rintro e w3 ⟨v3,rfl,own3,o3⟩
        have SA:=same_any v3 (.slice (some ⟨b,off,none⟩) m (k + 1)) (PK (nums a q (allBits r) t)) (gs a ++ (q : Int) :: r) w3 (Bs.of_own own3) ((HB.out.keep HOO.out (fun _ _ f => f)).keep o3 (fun _ _ f => f)) (by have:=HPL.out;omega)
        have O3:=hideIt (HOO.out.trans o3 (fun _ _ f => f))
        have OWN3:=hideIt (o3.own OWN.out (fun _ _ f => f))
        obtain ⟨f3,c3,e3⟩:=(Bs.of_own own3).len
        subst e3
        clear PB own3 o3
        by_cases p5 : PK (nums a q (allBits r) t) = gs a ++ (q : Int) :: r
        ·have F:=hideIt (F3'.out p5)
         rw [decide_eq_true p5] at SA
         have SA:=hideIt SA
         clear p5 F3' F4'
         go_wp2_with fail
         refine SA.out.mono ?_
         rintro e w4 ⟨rfl,o4⟩
         have O4:=hideIt (O3.out.trans o4 (fun _ _ f => f))
         have OWN4:=hideIt (o4.own OWN3.out (fun _ _ f => f))
         clear SA o4
         go_wp2
         go_ret2
         have e:=F.out
         simp only [Prod.mk.injEq] at e
         obtain ⟨rfl,rfl⟩:=e
         exact ⟨_,rfl,Bs.of_own (by rw [nums_length];exact OWN4.out),NoCap.of_own OWN4.out,O4.out⟩
        ·have F:=hideIt (F4'.out p5)
         rw [decide_eq_false p5] at SA
         have SA:=hideIt SA
         clear p5 F3' F4'
         go_wp2_with fail
         refine SA.out.mono ?_
         rintro e w4 ⟨rfl,o4⟩
         have O4:=hideIt (O3.out.trans o4 (fun _ _ f => f))
         clear SA o4
         go_wp2
         go_ret2
         have e:=F.out
         simp only [Prod.mk.injEq] at e
         obtain ⟨rfl,rfl⟩:=e
         exact ⟨_,rfl,Bs.nil _ _,NoCap.nil,O4.out⟩
      ·have d7 : (ev != 0) = true:=by simpa using he
       have F:=hideIt (F4'.out (F5.out (.inl he)))
       clear F5 F3' F4' PA he
       go_wp2_with fail
       refine RE.out.mono ?_
       rintro e w2 ⟨rfl,rfl⟩
       clear RE
       go_wp2
       go_ret2
       have e:=F.out
       simp only [Prod.mk.injEq] at e
       obtain ⟨rfl,rfl⟩:=e
       exact ⟨_,rfl,Bs.nil _ _,NoCap.nil,HOO.out⟩
   ·have HBSV : Hid (Bs .u8 w (.slice (some ⟨b,off + (k + 1),none⟩) (m - (k + 1)) (cap - (k + 1))) r):=by
     have h0:=HB.out.cut (n:=k + 1) (by omega)
     have hd : (gs a ++ (q : Int) :: r).drop (k + 1) = r:=by rw [HK.out,← List.drop_drop];simp
     rw [hd] at h0
     have hadd : (⟨b,off,none⟩ : Addr).add (k + 1) = ⟨b,off + (k + 1),none⟩:=by unfold Addr.add;split <;> simp_all
     simp only [Hid]
     simpa [hadd] using h0
    go_enter Tryz.func90,Tryz.ntmps90
    go_wp2_with fail
    refine A.out.mono ?_
    rintro e w1 ⟨rfl,rfl⟩
    clear A
    obtain ⟨i0,hi,hz0,hz1,hz2⟩:=info_parts Tryz.infoU64r
    have OF:=hideIt (of_bs (.slice (some ⟨b,off + (k + 1),none⟩) (m - (k + 1)) (cap - (k + 1))) r w HBSV.out HRR.out (by have:=HRL.out;omega))
    clear HBSV
    go_wp2_with fail
    refine OF.out.mono ?_
    rintro e w1 ⟨v1,rfl,own1,o1⟩
    have O1:=hideIt o1
    have BV1:=hideIt (Bs.of_own (k:=.i64) (xs:=bitsI (allBits r)) (by rw [bitsI_length];exact own1))
    have LV1 : Hid (∀ p,v1.ownBlock = some p → p < w1.heap.size):=fun p hp => (own1.lt p hp).2
    obtain ⟨f1,cp1,e1⟩:=BV1.out.len
    rw [bitsI_length,allBits_length] at e1
    subst e1
    clear OF own1 o1
    go_wp2
    go_loopw [10,11,12,13] (fun lv ov hv i wr => ∃ t : Nat,t ≤ n ∧ i = .int .i64 t ∧ Bs .i64 wr lv (bitsI ((allBits r).drop (t * q))) ∧ (∀ p,lv.ownBlock = some p → p < w1.heap.size) ∧ wr.ownsRow w1.heap.size 42 1 ov t ((nums a q (allBits r) t).map (Value.int .u64)) ∧ hv = .bool (high a q (allBits r) t) ∧ Below w1.heap.size w1 wr) (fun _ _ _ i _ => n - (intOf i).toNat)
    case atStart => exact ⟨0,Nat.zero_le _,rfl,by rw [Nat.zero_mul,List.drop_zero];exact BV1.out,LV1.out,World.ownsRow_nil _ _ _ _,rfl,Below.refl _ _⟩
    case round =>
     obtain ⟨t,ht,rfl,hlv,hlb,hown,rfl,hbw⟩:=hrel
     clear BV1 LV1
     have OWN:=hideIt hown
     have HLB:=hideIt hlb
     have HBW:=hideIt hbw
     have hdl : ((allBits r).drop (t * q)).length = 8 * rl - t * q:=by rw [List.length_drop,allBits_length,← HRL.out]
     by_cases hlt : t < n
     ·have htq : t * q + q ≤ 8 * rl:=by
       have h1 : (t + 1) * q ≤ n * q:=Nat.mul_le_mul_right q (by omega)
       rw [Nat.add_mul,Nat.one_mul] at h1
       have:=HP2.out
       omega
      have GT:=rget_bs _ ((allBits r).drop (t * q)) (q : Int) wr hlv (by omega) (by omega) (by omega) (by omega)
      rw [Int.toNat_natCast] at GT
      have GT:=hideIt GT
      have hx : Hid (bnum (((allBits r).drop (t * q)).take q) < 18446744073709551616):=by
       have h1:=bnum_lt (((allBits r).drop (t * q)).take q)
       have h2 : 2 ^ (((allBits r).drop (t * q)).take q).length ≤ 2 ^ 64:=Nat.pow_le_pow_right (by omega) (by rw [List.length_take];omega)
       have h3 : (2 : Nat) ^ 64 = 18446744073709551616:=by decide
       simp only [Hid];omega
      have hnx : Hid (nums a q (allBits r) (t + 1) = nums a q (allBits r) t ++ [(((a + bnum (((allBits r).drop (t * q)).take q)) % 18446744073709551616 : Nat) : Int)]):=nums_succ _ _ _ _
      have hhs : Hid (high a q (allBits r) (t + 1) = (high a q (allBits r) t || decide (18446744073709551616 ≤ a + bnum (((allBits r).drop (t * q)).take q)))):=high_succ _ _ _ _
      have dlt : decide ((t : Int) < (n : Int)) = true:=by simp;omega
      obtain ⟨x,hx2⟩ : ∃ x,x = bnum (((allBits r).drop (t * q)).take q):=⟨_,rfl⟩
      rw [← hx2] at hx hnx hhs GT
      have hxx:=hx.out
      obtain ⟨fl,cl,el⟩:=hlv.len
      have hlv':=hideIt hlv
      obtain ⟨hh,hhd⟩ : ∃ hh,hh = high a q (allBits r) t:=⟨_,rfl⟩
      rw [← hhd] at hhs ⊢
      clear hx hx2 htq hown hlb hbw hhd hlv hdl
      rw [el] at GT HLB ⊢
      obtain ⟨ll,hll⟩ : ∃ ll,ll = (bitsI ((allBits r).drop (t * q))).length:=⟨_,rfl⟩
      rw [← hll] at GT HLB ⊢
      clear el hll hlv'
      go_wp2_with fail
      refine GT.out.mono ?_
      rintro e w2 ⟨v2,rfl,b2,o2,ob2⟩
      have BV2:=hideIt b2
      have LV2 : Hid (∀ p,v2.ownBlock = some p → p < w1.heap.size):=fun p hp => HLB.out p (by rw [← ob2];exact hp)
      have OWN2:=hideIt (o2.own OWN.out (fun _ _ f => f))
      have HBW2:=hideIt (HBW.out.trans (o2.low HBW.out.size))
      obtain ⟨f2,c2,e2⟩:=b2.len
      subst e2
      clear GT b2 o2 ob2 OWN HLB HBW
      obtain ⟨l2,hl2⟩ : ∃ l2,l2 = (bitsI (((allBits r).drop (t * q)).drop q)).length:=⟨_,rfl⟩
      rw [← hl2] at BV2 LV2 ⊢
      clear hl2
      cases hh with
      | true =>
       have HIGH : Hid (high a q (allBits r) (t + 1) = true):=by simp only [Hid];rw [hhs.out];rfl
       clear hhs
       have hsz:=HBW2.out.size
       have HGROW : Hid True:=trivial
       have own2:=OWN2.out
       obtain ⟨nm,hnm⟩ : ∃ nm,nm = nums a q (allBits r) t:=⟨_,rfl⟩
       rw [← hnm] at own2 hnx
       clear hnm
       go_wp2_with (at_builtin;refine wpList_append_lies _ rfl _ _ _ rfl w1.heap.size 42 i0 (.int .u64 0) 1 8 Tryz.underlying46 hi hz0 hz1 hz2 rfl (by omega) _ t (nm.map (Value.int .u64)) rfl (own2.alloc _) ⟨w2.heap.size,0,none⟩ 1 1 [.int .u64 (IntKind.u64.wrap ((x : Int) + (a : Int)))] rfl rfl ?c1 ?c2 (by omega) ?c3 ?c4 ?c5 (w2.heap.size + 1) (by simp) ?_)
       case c1 => exact cell_one_new _ _ _
       case c2 => intro u hu;simp at hu;subst hu;rfl
       case c3 => unfold maxLen;omega
       case c4 => omega
       case c5 => simp;omega
       intro g cap1 w3 hown3 hgrow hat hg1
       have hv : IntKind.u64.wrap ((x : Int) + (a : Int)) = (((a + x) % 18446744073709551616 : Nat) : Int):=by rw [IntKind.wrap_u64];omega
       have hb3 : Hid (Below w1.heap.size w1 w3):=(HBW2.out.alloc (by omega) _).grown hgrow (by simp;omega) (fun p hp => (own2.lt p hp).1)
       have hb23 : Below w1.heap.size w2 w3:=((Below.refl _ w2).alloc (by omega) _).grown hgrow (by simp;omega) (fun p hp => (own2.lt p hp).1)
       have OWN3 : Hid (w3.ownsRow w1.heap.size 42 1 (.slice (some ⟨g,0,none⟩) (t + 1) cap1) (t + 1) ((nums a q (allBits r) (t + 1)).map (Value.int .u64))):=by
        simp only [Hid]
        rw [hnx.out,List.map_append,List.map_cons,List.map_nil,← hv];exact hown3
       have B3 : Hid (Bs .i64 w3 (.slice f2 l2 c2) (bitsI ((allBits r).drop ((t + 1) * q)))):=by
        have e : (allBits r).drop ((t + 1) * q) = ((allBits r).drop (t * q)).drop q:=by rw [List.drop_drop,Nat.add_mul,Nat.one_mul]
        simp only [Hid]
        rw [e]
        refine BV2.out.keep (S:=fun p => w1.heap.size ≤ p) ⟨hb23.os,hb23.tape,hb23.output,hb23.size,fun p hp hs => hb23.block p (by omega)⟩ (fun p hp => by have:=LV2.out p hp;omega)
       clear own2 hown3 hgrow hat hv hb23
       go_wp2
       go_roundw
       case rel => exact ⟨t + 1,by omega,by simp,B3.out,LV2.out,OWN3.out,by rw [HIGH.out],hb3.out⟩
       case measure => simp [intOf];omega
      | false =>
       by_cases p3 : 18446744073709551616 ≤ a + x
       ·have HIGH : Hid (high a q (allBits r) (t + 1) = true):=by simp only [Hid];rw [hhs.out,decide_eq_true p3];rfl
        have d6 : decide ((18446744073709551615 : Int) - (a : Int) < (x : Int)) = true:=decide_eq_true (by omega)
        clear hhs p3
        have hsz:=HBW2.out.size
        have HGROW : Hid True:=trivial
        have own2:=OWN2.out
        obtain ⟨nm,hnm⟩ : ∃ nm,nm = nums a q (allBits r) t:=⟨_,rfl⟩
        rw [← hnm] at own2 hnx
        clear hnm
        go_wp2_with (at_builtin;refine wpList_append_lies _ rfl _ _ _ rfl w1.heap.size 42 i0 (.int .u64 0) 1 8 Tryz.underlying46 hi hz0 hz1 hz2 rfl (by omega) _ t (nm.map (Value.int .u64)) rfl (own2.alloc _) ⟨w2.heap.size,0,none⟩ 1 1 [.int .u64 (IntKind.u64.wrap ((x : Int) + (a : Int)))] rfl rfl ?c1 ?c2 (by omega) ?c3 ?c4 ?c5 (w2.heap.size + 1) (by simp) ?_)
        case c1 => exact cell_one_new _ _ _
        case c2 => intro u hu;simp at hu;subst hu;rfl
        case c3 => unfold maxLen;omega
        case c4 => omega
        case c5 => simp;omega
        intro g cap1 w3 hown3 hgrow hat hg1
        have hv : IntKind.u64.wrap ((x : Int) + (a : Int)) = (((a + x) % 18446744073709551616 : Nat) : Int):=by rw [IntKind.wrap_u64];omega
        have hb3 : Hid (Below w1.heap.size w1 w3):=(HBW2.out.alloc (by omega) _).grown hgrow (by simp;omega) (fun p hp => (own2.lt p hp).1)
        have hb23 : Below w1.heap.size w2 w3:=((Below.refl _ w2).alloc (by omega) _).grown hgrow (by simp;omega) (fun p hp => (own2.lt p hp).1)
        have OWN3 : Hid (w3.ownsRow w1.heap.size 42 1 (.slice (some ⟨g,0,none⟩) (t + 1) cap1) (t + 1) ((nums a q (allBits r) (t + 1)).map (Value.int .u64))):=by
         simp only [Hid]
         rw [hnx.out,List.map_append,List.map_cons,List.map_nil,← hv];exact hown3
        have B3 : Hid (Bs .i64 w3 (.slice f2 l2 c2) (bitsI ((allBits r).drop ((t + 1) * q)))):=by
         have e : (allBits r).drop ((t + 1) * q) = ((allBits r).drop (t * q)).drop q:=by rw [List.drop_drop,Nat.add_mul,Nat.one_mul]
         simp only [Hid]
         rw [e]
         refine BV2.out.keep (S:=fun p => w1.heap.size ≤ p) ⟨hb23.os,hb23.tape,hb23.output,hb23.size,fun p hp hs => hb23.block p (by omega)⟩ (fun p hp => by have:=LV2.out p hp;omega)
        clear own2 hown3 hgrow hat hv hb23
        go_wp2
        go_roundw
        case rel => exact ⟨t + 1,by omega,by simp,B3.out,LV2.out,OWN3.out,by rw [HIGH.out],hb3.out⟩
        case measure => simp [intOf];omega
       ·have HIGH : Hid (high a q (allBits r) (t + 1) = false):=by simp only [Hid];rw [hhs.out,decide_eq_false p3];rfl
        have d6 : decide ((18446744073709551615 : Int) - (a : Int) < (x : Int)) = false:=decide_eq_false (by omega)
        clear hhs p3
        have hsz:=HBW2.out.size
        have HGROW : Hid True:=trivial
        have own2:=OWN2.out
        obtain ⟨nm,hnm⟩ : ∃ nm,nm = nums a q (allBits r) t:=⟨_,rfl⟩
        rw [← hnm] at own2 hnx
        clear hnm
        go_wp2_with (at_builtin;refine wpList_append_lies _ rfl _ _ _ rfl w1.heap.size 42 i0 (.int .u64 0) 1 8 Tryz.underlying46 hi hz0 hz1 hz2 rfl (by omega) _ t (nm.map (Value.int .u64)) rfl (own2.alloc _) ⟨w2.heap.size,0,none⟩ 1 1 [.int .u64 (IntKind.u64.wrap ((x : Int) + (a : Int)))] rfl rfl ?c1 ?c2 (by omega) ?c3 ?c4 ?c5 (w2.heap.size + 1) (by simp) ?_)
        case c1 => exact cell_one_new _ _ _
        case c2 => intro u hu;simp at hu;subst hu;rfl
        case c3 => unfold maxLen;omega
        case c4 => omega
        case c5 => simp;omega
        intro g cap1 w3 hown3 hgrow hat hg1
        have hv : IntKind.u64.wrap ((x : Int) + (a : Int)) = (((a + x) % 18446744073709551616 : Nat) : Int):=by rw [IntKind.wrap_u64];omega
        have hb3 : Hid (Below w1.heap.size w1 w3):=(HBW2.out.alloc (by omega) _).grown hgrow (by simp;omega) (fun p hp => (own2.lt p hp).1)
        have hb23 : Below w1.heap.size w2 w3:=((Below.refl _ w2).alloc (by omega) _).grown hgrow (by simp;omega) (fun p hp => (own2.lt p hp).1)
        have OWN3 : Hid (w3.ownsRow w1.heap.size 42 1 (.slice (some ⟨g,0,none⟩) (t + 1) cap1) (t + 1) ((nums a q (allBits r) (t + 1)).map (Value.int .u64))):=by
         simp only [Hid]
         rw [hnx.out,List.map_append,List.map_cons,List.map_nil,← hv];exact hown3
        have B3 : Hid (Bs .i64 w3 (.slice f2 l2 c2) (bitsI ((allBits r).drop ((t + 1) * q)))):=by
         have e : (allBits r).drop ((t + 1) * q) = ((allBits r).drop (t * q)).drop q:=by rw [List.drop_drop,Nat.add_mul,Nat.one_mul]
         simp only [Hid]
         rw [e]
         refine BV2.out.keep (S:=fun p => w1.heap.size ≤ p) ⟨hb23.os,hb23.tape,hb23.output,hb23.size,fun p hp hs => hb23.block p (by omega)⟩ (fun p hp => by have:=LV2.out p hp;omega)
        clear own2 hown3 hgrow hat hv hb23
        go_wp2
        go_roundw
        case rel => exact ⟨t + 1,by omega,by simp,B3.out,LV2.out,OWN3.out,by rw [HIGH.out],hb3.out⟩
        case measure => simp [intOf];omega
     ·obtain rfl : t = n:=by omega
      have dlt : decide ((t : Int) < (t : Int)) = false:=by simp
      have RE:=hideIt (rend_bs _ ((allBits r).drop (t * q)) wr hlv (by omega))
      have F4':=hideIt (F4.out HP1.out HP2.out)
      have F3':=hideIt (F3.out HP1.out HP2.out)
      obtain ⟨ev,hev⟩ : ∃ ev,ev = bendV ((allBits r).drop (t * q)):=⟨_,rfl⟩
      obtain ⟨hh,hhd⟩ : ∃ hh,hh = high a q (allBits r) t:=⟨_,rfl⟩
      rw [← hev] at RE
      rw [← hev,← hhd] at F5
      rw [← hhd]
      obtain ⟨fl,cl,el⟩:=hlv.len
      rw [el] at RE ⊢
      obtain ⟨ll,hll⟩ : ∃ ll,ll = (bitsI ((allBits r).drop (t * q))).length:=⟨_,rfl⟩
      rw [← hll] at RE ⊢
      have PA:=hideIt (fun w' (o : Below wr.heap.size wr w') => rpack_bs _ (nums a q (allBits r) t) w' ((Bs.of_own (by rw [nums_length];exact hown)).later o) (nums_u64 _ _ _ _) (by rw [nums_length];exact hn))
      obtain ⟨fo,co,eo⟩:=(Bs.of_own (k:=.u64) (xs:=nums a q (allBits r) t) (by rw [nums_length];exact hown)).len
      rw [nums_length] at eo
      have HE:=hideIt eo
      rw [eo] at PA OWN ⊢
      have HPL : Hid ((PK (nums a q (allBits r) t)).length ≤ 5700):=by
       simp only [Hid]
       have h1:=wd_le (nums_u64 a q (allBits r) t)
       have h2:=(lohi (nums_u64 a q (allBits r) t))
       have h3 : t * wd (nums a q (allBits r) t) ≤ 700 * 64:=Nat.mul_le_mul hn h1
       have h4:=gs_le10 (v:=(lo (nums a q (allBits r) t)).toNat) (by omega)
       rw [PK_length,nums_length];omega
      clear hlv hlb hown hbw hdl el hll hev hhd F3 F4 eo
      have HOO:=hideIt (O1.out.trans (only_of_below' HBW.out) (fun i hi e => by have:=O1.out.size;omega))
      by_cases he : ev = 0
      ·subst he
       cases hh with
       | true =>
        have F:=hideIt (F4'.out (F5.out (.inr rfl)))
        clear F5 F3' F4' PA
        go_wp2_with fail
        refine RE.out.mono ?_
        rintro e w2 ⟨rfl,rfl⟩
        clear RE
        go_wp2
        go_ret2
        have e:=F.out
        simp only [Prod.mk.injEq] at e
        obtain ⟨rfl,rfl⟩:=e
        exact ⟨_,rfl,Bs.nil _ _,NoCap.nil,HOO.out⟩
       | false =>
        clear F5
        go_wp2_with fail
        refine RE.out.mono ?_
        rintro e w2 ⟨rfl,rfl⟩
        have PB:=hideIt (PA.out wr (Below.refl _ _))
        clear RE PA
        go_wp2_with fail
        refine PB.out.mono ?_
        rintro e w3 ⟨v3,rfl,own3,o3⟩
        have SA:=same_any v3 (.slice (some ⟨b,off,none⟩) m cap) (PK (nums a q (allBits r) t)) (gs a ++ (q : Int) :: r) w3 (Bs.of_own own3) ((HB.out.keep HOO.out (fun _ _ f => f)).keep o3 (fun _ _ f => f)) (by have:=HPL.out;omega)
        have O3:=hideIt (HOO.out.trans o3 (fun _ _ f => f))
        have OWN3:=hideIt (o3.own OWN.out (fun _ _ f => f))
        obtain ⟨f3,c3,e3⟩:=(Bs.of_own own3).len
        subst e3
        clear PB own3 o3
        by_cases p5 : PK (nums a q (allBits r) t) = gs a ++ (q : Int) :: r
        ·have F:=hideIt (F3'.out p5)
         rw [decide_eq_true p5] at SA
         have SA:=hideIt SA
         clear p5 F3' F4'
         go_wp2_with fail
         refine SA.out.mono ?_
         rintro e w4 ⟨rfl,o4⟩
         have O4:=hideIt (O3.out.trans o4 (fun _ _ f => f))
         have OWN4:=hideIt (o4.own OWN3.out (fun _ _ f => f))
         clear SA o4
         go_wp2
         go_ret2
         have e:=F.out
         simp only [Prod.mk.injEq] at e
         obtain ⟨rfl,rfl⟩:=e
         exact ⟨_,rfl,Bs.of_own (by rw [nums_length];exact OWN4.out),NoCap.of_own OWN4.out,O4.out⟩
        ·have F:=hideIt (F4'.out p5)
         rw [decide_eq_false p5] at SA
         have SA:=hideIt SA
         clear p5 F3' F4'
         go_wp2_with fail
         refine SA.out.mono ?_
         rintro e w4 ⟨rfl,o4⟩
         have O4:=hideIt (O3.out.trans o4 (fun _ _ f => f))
         clear SA o4
         go_wp2
         go_ret2
         have e:=F.out
         simp only [Prod.mk.injEq] at e
         obtain ⟨rfl,rfl⟩:=e
         exact ⟨_,rfl,Bs.nil _ _,NoCap.nil,O4.out⟩
      ·have d7 : (ev != 0) = true:=by simpa using he
       have F:=hideIt (F4'.out (F5.out (.inl he)))
       clear F5 F3' F4' PA he
       go_wp2_with fail
       refine RE.out.mono ?_
       rintro e w2 ⟨rfl,rfl⟩
       clear RE
       go_wp2
       go_ret2
       have e:=F.out
       simp only [Prod.mk.injEq] at e
       obtain ⟨rfl,rfl⟩:=e
       exact ⟨_,rfl,Bs.nil _ _,NoCap.nil,HOO.out⟩
theorem runpack_bs (v : Value) (ys : List Int) (n : Int) (w : World) (h : Bs .u8 w v ys) (hr : ∀ y ∈ ys,0 ≤ y ∧ y ≤ 255) (hl : ys.length ≤ 400) (hn : n ≤ 700 ∨ 65536 < n) :
  Calls Tryz.prog 90 #[v,.int .i64 n] w fun e w' => ∃ v',e = .returned (.tuple #[v',.int .i64 (UN ys n).1]) ∧ Bs .u64 w' v' (UN ys n).2 ∧ NoCap v' ∧ Only (fun _ => False) w w':=by
 by_cases ha : n < 0 ∨ 65536 < n
 ·have e : UN ys n = (1,[]):=by unfold UN;rw [if_pos ha]
  rw [e]
  exact (runpack_arg v n w ha).mono fun e w' ⟨h1,h2⟩ => ⟨_,h1,Bs.nil _ _,NoCap.nil,by rw [← h2];exact Only.refl _ _⟩
 ·obtain ⟨m,rfl⟩:=Int.eq_ofNat_of_zero_le (show 0 ≤ n by omega)
  have hm : m ≤ 700:=by omega
  rcases parse ys hr with ⟨c,hrd,hc⟩ | ⟨a,ha2,rfl⟩ | ⟨a,y,r,ha2,rfl⟩
  ·have e : UN ys m = (c,[]):=by
    unfold UN
    rw [if_neg (by omega),Int.toNat_natCast,rdl_err m hrd (by omega)]
    have : c ≠ 0:=by omega
    simp [this]
   rw [e]
   exact (runpack_err v ys m w h hr (by omega) hrd hc).mono fun e w' ⟨h1,h2⟩ => ⟨_,h1,Bs.nil _ _,NoCap.nil,by rw [← h2];exact Only.refl _ _⟩
  ·have e : UN (gs a) m = (2,[]):=by
    unfold UN
    rw [if_neg (by omega),Int.toNat_natCast,rdl_none a m ha2]
    simp
   rw [e]
   exact (runpack_none v a m w h (by omega) ha2).mono fun e w' ⟨h1,h2⟩ => ⟨_,h1,Bs.nil _ _,NoCap.nil,by rw [← h2];exact Only.refl _ _⟩
  ·exact runpack_at v a m y r w h hr (by simp at hl;omega) hm ha2
end Go.Proofs.YthapipgaohlgdaaGreatDoor
