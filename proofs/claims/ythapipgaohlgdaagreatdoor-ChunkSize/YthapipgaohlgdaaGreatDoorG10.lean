/- Several texts in one: Pa, De, CloneI, De2, Iw. -/
import Derived.Test.YthapipgaohlgdaaGreatDoorG9
import Derived.Test.YthapipgaohlgdaaGreatDoorG3
import Derived.Deep.RegionHeld3
import Derived.Test.YthapipgaohlgdaaGreatDoorProg
import Derived.Test.YthapipgaohlgdaaGreatDoorG1
import Derived.Test.YthapipgaohlgdaaGreatDoorG6
import Derived.WalkSpells
import Derived.BigRegion
import Derived.Test.YthapipgaohlgdaaGreatDoorG8


namespace Go.Proofs.YthapipgaohlgdaaGreatDoor
set_option maxRecDepth 100000
open Go.RowKit
theorem cat_three (x y z : List Int) : cat (fun i => if i = 0 then x else if i = 1 then y else z) 3 = x ++ y ++ z:=by
 rw [cat_succ,cat_succ,cat_succ,cat_zero];simp
set_option maxHeartbeats 1600000 in
theorem pack_bs (v : Value) (xs : List Int) (w : World) (h : Bs .u64 w v xs) (hu : U64 xs) (hl : xs.length ≤ 65536) :
  Calls Tryz.prog 101 #[v] w fun e w' => ∃ v',e = .returned (.tuple #[v',.int .i64 0]) ∧ w'.ownsRow w.heap.size 5 1 v' (PK xs).length ((PK xs).map (Value.int .u8)) ∧ Only (fun _ => False) w w':=by
 have A:=hideIt (ends_bs v xs w h (by omega))
 have HBS:=hideIt h
 have HU:=hideIt hu
 obtain ⟨l1,l2,l3⟩:=lohi hu
 have HW:=hideIt (wd_le hu)
 have hwd : Hid (wd xs = wid (hi xs - lo xs).toNat):=rfl
 obtain ⟨ao,cap,rfl⟩:=h.len
 have d0 : decide (65536 < (xs.length : Int)) = false:=by simp;omega
 obtain ⟨m,hm⟩ : ∃ m,m = xs.length:=⟨_,rfl⟩
 rw [← hm] at A HBS hl d0 ⊢
 have HM:=hideIt hm
 clear h hu hm
 obtain ⟨a,ha⟩ : ∃ a,a = lo xs:=⟨_,rfl⟩
 obtain ⟨c,hc⟩ : ∃ c,c = hi xs:=⟨_,rfl⟩
 rw [← ha,← hc] at A hwd l2
 rw [← ha] at l1
 rw [← hc] at l3
 have HA:=hideIt ha
 have HCC:=hideIt hc
 clear ha hc
 go_enter Tryz.func101,Tryz.ntmps101
 go_wp2_with fail
 refine A.out.mono ?_
 rintro e w1 ⟨rfl,o1⟩
 clear A
 have HO:=hideIt o1
 have BW:=hideIt (width_any (c - a) w1 (by omega) (by omega))
 clear o1
 go_wp2_with fail
 refine BW.out.mono ?_
 rintro e w1' ⟨rfl,rfl⟩
 clear BW
 rw [← hwd.out]
 have hq:=HW.out
 obtain ⟨q,hqd⟩ : ∃ q,q = wd xs:=⟨_,rfl⟩
 rw [← hqd] at hq ⊢
 have HQ:=hideIt hqd
 clear hqd hwd HW
 have hq2 : (q : Int) ≤ 64:=by omega
 have W0:=hideIt (WrAt.new (T:=138) (E:=5) w1)
 have HB0 : Hid (Below w1.heap.size w1 (w1.alloc (.cells #[.slice none 0 0,.int .i64 0] 138))):=(Below.refl _ _).alloc (Nat.le_refl _) _
 have HSZ:=HO.out.size
 go_wp2
 go_loopw [24] (fun i wr => ∃ k : Nat,k ≤ m ∧ i = .int .i64 k ∧ Below w1.heap.size w1 wr ∧ ∃ vw,WrAt 138 5 wr (w1.heap.size + 1) w1.heap.size vw (ups a q (xs.take k))) (fun i _ => m - (intOf i).toNat)
 case atStart => exact ⟨0,Nat.zero_le _,rfl,HB0.out,_,W0.out⟩
 case round =>
  obtain ⟨k,hk,rfl,hbw,vw,hwr⟩:=hrel
  clear W0 HB0
  have HBW:=hideIt hbw
  have HWR:=hideIt hwr
  by_cases hlt : k < m
  ·have hkx : k < xs.length:=by rw [← HM.out];exact hlt
   have hb1:=(HBS.out.keep HO.out (fun _ _ f => f)).later hbw
   obtain ⟨b,off,cap',e1,c0⟩:=hb1.at k hkx
   simp only [Value.slice.injEq] at e1
   obtain ⟨rfl,e2,rfl⟩:=e1
   clear e2
   have hxm : xs.getD k 0 ∈ xs:=by rw [List.getD_eq_getElem?_getD,List.getElem?_eq_getElem hkx];simp
   obtain ⟨x0,x1⟩:=HU.out _ hxm
   have x2:=lo_le xs _ hxm
   rw [← HA.out] at x2
   have x3:=wd_fits xs _ hxm
   rw [← HA.out,← HQ.out] at x3
   have htk : Hid (ups a q (xs.take (k + 1)) = ups a q (xs.take k) ++ bitsOf (xs.getD k 0 - a).toNat q):=by
    simp only [Hid];rw [take_snoc xs k hkx,ups_snoc]
   have hln : (ups a q (xs.take k)).length ≤ 1000000000:=by
    rw [ups_length,List.length_take]
    have : min k xs.length * q ≤ 65536 * 64:=Nat.mul_le_mul (by omega) hq
    omega
   obtain ⟨x,hx⟩ : ∃ x,x = xs.getD k 0:=⟨_,rfl⟩
   rw [← hx] at c0 x0 x1 x2 x3 htk
   have PU:=hideIt (put_wr hwr (x - a) q (by omega) hq2 (by omega) (by omega) (by omega) hln)
   have dlt : decide ((k : Int) < (m : Int)) = true:=by simp;omega
   clear hb1 hx hxm x3 hln hwr hbw hkx
   go_wp2_with fail
   refine PU.out.mono ?_
   rintro e w2 ⟨rfl,vw2,hw2,on2,st2⟩
   have HB2:=hideIt (HBW.out.trans (on2.below (B:=w1.heap.size) HBW.out.size (HWR.out.foot_ge (Nat.le_refl _))))
   have HW2:=hideIt hw2
   clear PU hw2 on2 st2
   go_wp2
   go_roundw
   case rel => exact ⟨k + 1,by omega,by simp,HB2.out,vw2,by rw [htk.out];simpa using HW2.out⟩
   case measure => simp [intOf];omega
  ·obtain rfl : k = m:=by omega
   have dlt : decide ((k : Int) < (k : Int)) = false:=by simp
   have AP:=hideIt (append_any (.slice none 0 0) [] a wr (Bs.nil _ _) NoCap.nil (by simp) l1 (by omega))
   clear hwr hbw
   go_wp2_with fail
   refine AP.out.mono ?_
   rintro e w3 ⟨v3,rfl,own3,on3⟩
   clear AP
   rw [List.nil_append] at own3
   have hq256 : (q : Int) < 256:=by omega
   have HG10:=hideIt (gs_le10 (v:=a.toNat) (by omega))
   have W3:=HWR.out.keep ((on3.trans ((Only.refl (fun _ => False) w3).alloc (.cells #[.int .u8 q] 5)) (fun _ _ f => f))) (fun f => f) (fun _ _ f => f)
   have hup : Hid (ups a q (xs.take k) = up xs):=by
    simp only [Hid];rw [HM.out,List.take_length,up,← HA.out,← HQ.out]
   rw [hup.out] at W3
   have hlen : (up xs).length ≤ 65536 * 64:=by rw [up_length,← HQ.out,← HM.out];exact Nat.mul_le_mul hl hq
   have BY:=hideIt (bytes_wr W3 (by omega))
   have O3:=hideIt on3
   have W3':=hideIt own3
   have HLEN:=hideIt hlen
   clear on3 own3 W3 hlen
   go_wp2_with fail
   refine BY.out.mono ?_
   rintro e w4 ⟨v4,rfl,own4,on4⟩
   have own3:=on4.own (((Only.refl (fun _ => False) w3).alloc (.cells #[.int .u8 q] 5)).own W3'.out (fun _ _ f => f)) (fun _ _ f => f)
   clear BY
   have b1 : Bs .u8 w4 (.slice (some ⟨w3.heap.size,0,none⟩) 1 1) [(q : Int)]:=(Bs.lit .u8 w3 5 [(q : Int)]).keep on4 (fun _ _ f => f)
   have hbl : Below w4.heap.size w4 (w4.alloc (.cells #[v3,.slice (some ⟨w3.heap.size,0,none⟩) 1 1,v4] 26)):=(Below.refl _ _).alloc (Nat.le_refl _) _
   have CC:=hideIt (concat_n w4.heap.size 3 (fun i => if i = 0 then v3 else if i = 1 then .slice (some ⟨w3.heap.size,0,none⟩) 1 1 else v4) (fun i => if i = 0 then gs a.toNat else if i = 1 then [(q : Int)] else bytesI (up xs)) (w4.alloc (.cells #[v3,.slice (some ⟨w3.heap.size,0,none⟩) 1 1,v4] 26)) (by omega) (by omega)
    (by
     intro i hi
     have : i = 0 ∨ i = 1 ∨ i = 2:=by omega
     rcases this with rfl | rfl | rfl <;> go_cell)
    (by
     intro i hi
     have : i = 0 ∨ i = 1 ∨ i = 2:=by omega
     rcases this with rfl | rfl | rfl
     ·exact (Bs.of_own own3).later hbl
     ·exact b1.later hbl
     ·exact (Bs.of_own own4).later hbl)
    (by
     intro i hi
     have : i = 0 ∨ i = 1 ∨ i = 2:=by omega
     rcases this with rfl | rfl | rfl
     ·exact NoCap.of_own own3
     ·exact NoCap.some _ _ _
     ·exact NoCap.of_own own4)
    (by rw [cat_three];simp;omega)
    (by
     rw [cat_three,List.length_append,List.length_append,bytesI_length,nb]
     have:=HLEN.out;have:=HG10.out;simp;omega))
   rw [cat_three] at CC
   have O4:=hideIt on4
   obtain ⟨f3,cp3,hv3⟩:=(Bs.of_own own3).len
   obtain ⟨f4,cp4,hv4⟩:=(Bs.of_own own4).len
   subst hv3 hv4
   clear own3 own4 on4 b1 hbl
   go_wp2_with fail
   refine CC.out.mono ?_
   rintro e w5 ⟨v5,rfl,own5,on5⟩
   have hpk : gs a.toNat ++ [(q : Int)] ++ bytesI (up xs) = PK xs:=by unfold PK;rw [← HA.out,← HQ.out];simp
   rw [hpk] at own5
   have s4:=O4.out.size
   have s3:=O3.out.size
   have sr:=HBW.out.size
   simp only [World.size_alloc] at own5 s4
   have own6:=hideIt (own_low own5 (show w.heap.size ≤ w4.heap.size + 1 by omega))
   have bl : Hid (Below w.heap.size w w5):=((((HO.out.low (Nat.le_refl _)).trans (HBW.out.mono HSZ)).trans (O3.out.low (by omega))).trans ((((Below.refl _ w3).alloc (by omega) _)).trans (O4.out.low (by simp;omega)))).trans (((Below.refl _ w4).alloc (by omega) _).trans (on5.low (by simp;omega)))
   clear own5 on5 CC hpk
   obtain ⟨f5,cp5,hv5⟩:=(Bs.of_own own6.out).len
   subst hv5
   go_wp2
   go_ret2
   exact ⟨_,rfl,own6.out,only_of_below bl.out⟩
end Go.Proofs.YthapipgaohlgdaaGreatDoor


namespace Go.Proofs.YthapipgaohlgdaaGreatDoor
set_option maxRecDepth 100000
open Go.RowKit
set_option maxHeartbeats 400000 in
theorem dclo (c : Nat) (x a : Int) (w : World) (hc : w.cell? ⟨c,0,none⟩ = some (.int .i64 a)) (hf : w.frozen? ⟨c,0,none⟩ = false) :
  Calls Tryz.prog 136 #[.int .i64 x,.pointer (some ⟨c,0,none⟩)] w fun e w' => e = .returned (.int .i64 (wrap64 (x - a))) ∧ w' = w.setCell ⟨c,0,none⟩ (.int .i64 x):=by
 go_enter Tryz.func136,Tryz.ntmps136
 go_wp2
 go_ret
 exact ⟨rfl,rfl⟩
set_option maxHeartbeats 400000 in
theorem sclo (c : Nat) (x a : Int) (w : World) (hc : w.cell? ⟨c,0,none⟩ = some (.int .i64 a)) (hf : w.frozen? ⟨c,0,none⟩ = false) :
  Calls Tryz.prog 176 #[.int .i64 x,.pointer (some ⟨c,0,none⟩)] w fun e w' => e = .returned (.int .i64 (wrap64 (a + x))) ∧ w' = w.setCell ⟨c,0,none⟩ (.int .i64 (wrap64 (a + x))):=by
 go_enter Tryz.func176,Tryz.ntmps176
 go_wp2
 go_ret
 exact ⟨rfl,rfl⟩
theorem dif_round {f : Int → List Int → List Int} {st : Int → Int → Int × Int} (hf : ∀ a x t,f a (x :: t) = (st a x).1 :: f (st a x).2 t) (xs : List Int) (j : Nat) (a : Int) (hj : j < xs.length) :
  (xs.set j (st a (xs.getD j 0)).1).take (j + 1) ++ f (st a (xs.getD j 0)).2 ((xs.set j (st a (xs.getD j 0)).1).drop (j + 1)) = xs.take j ++ f a (xs.drop j):=by
 have e1 : xs.drop j = xs.getD j 0 :: xs.drop (j + 1):=by
  rw [List.getD_eq_getElem?_getD,List.getElem?_eq_getElem hj]
  exact List.drop_eq_getElem_cons hj
 rw [e1,hf,List.take_add_one,List.take_set_of_le (Nat.le_refl _),List.drop_set_of_lt (Nat.lt_succ_self _),List.getElem?_set_self hj]
 simp
set_option maxHeartbeats 800000 in
theorem rep_d (lo c st n : Nat) (a0 : Int) (v : Value) (xs : List Int) (w : World) (hn : xs.length = n) (hown : w.ownsRow lo 3 1 v n (xs.map (Value.int .i64)))
  (hc : w.cell? ⟨c,0,none⟩ = some (.int .i64 a0)) (hf : w.frozen? ⟨c,0,none⟩ = false) (hne : ∀ k,v.ownBlock = some k → k ≠ c) (hl : n ≤ 1000000) (hs : st ≤ 1000000) :
  Calls Tryz.prog 99 #[v,.int .i64 st,.func (.func 136) #[] #[.pointer (some ⟨c,0,none⟩)]] w fun e w' => e = .returned (.tuple #[]) ∧
   w'.ownsRow lo 3 1 v n ((xs.take st ++ dif a0 (xs.drop st)).map (Value.int .i64)) ∧ Only (fun k => v.ownBlock = some k ∨ k = c) w w':=by
 have hform : v = .slice none 0 0 ∧ n = 0 ∨ ∃ g cap,v = .slice (some ⟨g,0,none⟩) n cap:=by
  rcases hown.2 with h | ⟨g,cap,cur,h,_⟩
  ·exact .inl h
  ·exact .inr ⟨g,cap,h⟩
 obtain ⟨fin,hfin⟩ : ∃ fin,fin = xs.take st ++ dif a0 (xs.drop st):=⟨_,rfl⟩
 rw [← hfin]
 rcases hform with ⟨rfl,rfl⟩ | ⟨g,cap,rfl⟩
 ·have hx : xs = []:=List.eq_nil_of_length_eq_zero hn
  subst hx
  have hfin' : fin = []:=by rw [hfin];simp [dif]
  subst hfin'
  have H:=hideIt hown
  clear hown hfin hc hf hne hn
  go_enter Tryz.func99,Tryz.ntmps99
  go_wp2
  go_loop [6] (fun i => i = .int .i64 st) (fun _ => 0)
  case atStart => rfl
  case round =>
   subst hrel
   go_wp2
   go_end0
   exact ⟨rfl,H.out,Only.refl _ _⟩
 ·have hgc : g ≠ c:=hne g rfl
  have START:=hideIt (And.intro hown (And.intro hc hf))
  have HF:=hideIt hfin
  have HN:=hideIt hn
  clear hown hc hf hfin hne hn
  go_enter Tryz.func99,Tryz.ntmps99
  go_wp2
  go_loopw [6] (fun i wr => ∃ (j : Nat) (ys : List Int) (a : Int),j ≤ 1000000 ∧ i = .int .i64 j ∧ ys.length = n ∧ wr.ownsRow lo 3 1 (.slice (some ⟨g,0,none⟩) n cap) n (ys.map (Value.int .i64)) ∧
    wr.cell? ⟨c,0,none⟩ = some (.int .i64 a) ∧ wr.frozen? ⟨c,0,none⟩ = false ∧ fin = ys.take j ++ dif a (ys.drop j) ∧ Only (fun k => k = g ∨ k = c) w wr) (fun i _ => n - (intOf i).toNat)
  case atStart => exact ⟨st,xs,a0,hs,rfl,HN.out,START.out.1,START.out.2.1,START.out.2.2,HF.out,Only.refl _ _⟩
  case round =>
   obtain ⟨j,ys,a,hj,rfl,hyl,hown,hc,hf,hfin,hon⟩:=hrel
   clear START HF HN
   by_cases hlt : j < n
   ·have hcell : wr.cell? ⟨g,j,none⟩ = some (.int .i64 (ys.getD j 0)):=by
     rw [hown.cellAt j (by omega),List.getElem?_map,List.getElem?_eq_getElem (by omega),List.getD_eq_getElem?_getD,List.getElem?_eq_getElem (by omega)]
     rfl
    have hrnd:=dif_round (f:=dif) (st:=fun a x => (wrap64 (x - a),x)) (fun _ _ _ => rfl) ys j a (by omega)
    obtain ⟨y,hy⟩ : ∃ y,y = ys.getD j 0:=⟨_,rfl⟩
    rw [← hy] at hcell hrnd
    have A:=hideIt (dclo c y a wr hc hf)
    have hcell2 : (wr.setCell ⟨c,0,none⟩ (.int .i64 (y))).cell? ⟨g,j,none⟩ = some (.int .i64 y):=by
     rw [World.cell?_setCell_other (h:=by intro h;exact hgc (by cases h;rfl))];exact hcell
    have hfr2 : (wr.setCell ⟨c,0,none⟩ (.int .i64 (y))).frozen? ⟨g,j,none⟩ = false:=by
     rw [World.frozen?_setCell];exact hown.frozenAt _
    have hon2 : Only (fun k => k = g ∨ k = c) w (wr.setCell ⟨c,0,none⟩ (.int .i64 (y))):=hon.setCell (fun _ => .inr rfl) _
    have hown2 : (wr.setCell ⟨c,0,none⟩ (.int .i64 (y))).ownsRow lo 3 1 (.slice (some ⟨g,0,none⟩) n cap) n (ys.map (Value.int .i64)) :=
     ((Only.refl (fun k => k = c) wr).setCell (p:=⟨c,0,none⟩) (fun _ => rfl) _).own hown (fun k hk => by simp [Value.ownBlock] at hk;omega)
    have hc2 : (wr.setCell ⟨c,0,none⟩ (.int .i64 (y))).cell? ⟨c,0,none⟩ = some (.int .i64 (y)):=World.cell?_setCell_same _ _ _ hc
    have hf2 : (wr.setCell ⟨c,0,none⟩ (.int .i64 (y))).frozen? ⟨c,0,none⟩ = false:=by rw [World.frozen?_setCell];exact hf
    have H:=hideIt (And.intro hon2 (And.intro hown2 (And.intro hc2 (And.intro hf2 (And.intro hfin hrnd)))))
    have i0 : (0 : Int) ≤ (j : Int):=by omega
    have i1 : (j : Int) < (n : Int):=by omega
    clear hown hc hf hfin hon hon2 hown2 hc2 hf2 hrnd
    have HY:=hideIt hy
    have HYL:=hideIt hyl
    clear hy hyl
    go_wp2_with fail
    refine A.out.mono ?_
    rintro e w1 ⟨rfl,rfl⟩
    clear A
    go_wp2
    go_roundw
    case rel =>
     refine ⟨j + 1,ys.set j (wrap64 (y - a)),y,by omega,by go_num,by rw [List.length_set];exact HYL.out,?_,?_,?_,?_,?_⟩
     ·have h1:=(H.out.2.1.stored j (.int .i64 (wrap64 (y - a)))).1
      rw [← List.map_set] at h1
      exact h1
     ·rw [World.cell?_setCell_other (h:=by intro h;exact hgc (by cases h;rfl))];exact H.out.2.2.1
     ·rw [World.frozen?_setCell];exact H.out.2.2.2.1
     ·rw [H.out.2.2.2.2.1];exact H.out.2.2.2.2.2.symm
     ·exact H.out.1.setCell (fun _ => .inl rfl) _
    case measure => simp [intOf];omega
   ·have e1 : fin = ys:=by
     rw [hfin,List.drop_of_length_le (by omega),List.take_of_length_le (by omega)];simp [dif]
    subst e1
    have H:=hideIt (And.intro hown hon)
    clear hown hon hc hf hfin
    have HYL:=hideIt hyl
    clear hyl
    go_wp2
    go_end0
    exact ⟨rfl,H.out.1,H.out.2.mono (fun i _ h => h.imp (fun e => by rw [e];rfl) id)⟩
set_option maxHeartbeats 800000 in
theorem rep_s (lo c st n : Nat) (a0 : Int) (v : Value) (xs : List Int) (w : World) (hn : xs.length = n) (hown : w.ownsRow lo 3 1 v n (xs.map (Value.int .i64)))
  (hc : w.cell? ⟨c,0,none⟩ = some (.int .i64 a0)) (hf : w.frozen? ⟨c,0,none⟩ = false) (hne : ∀ k,v.ownBlock = some k → k ≠ c) (hl : n ≤ 1000000) (hs : st ≤ 1000000) :
  Calls Tryz.prog 99 #[v,.int .i64 st,.func (.func 176) #[] #[.pointer (some ⟨c,0,none⟩)]] w fun e w' => e = .returned (.tuple #[]) ∧
   w'.ownsRow lo 3 1 v n ((xs.take st ++ sm a0 (xs.drop st)).map (Value.int .i64)) ∧ Only (fun k => v.ownBlock = some k ∨ k = c) w w':=by
 have hform : v = .slice none 0 0 ∧ n = 0 ∨ ∃ g cap,v = .slice (some ⟨g,0,none⟩) n cap:=by
  rcases hown.2 with h | ⟨g,cap,cur,h,_⟩
  ·exact .inl h
  ·exact .inr ⟨g,cap,h⟩
 obtain ⟨fin,hfin⟩ : ∃ fin,fin = xs.take st ++ sm a0 (xs.drop st):=⟨_,rfl⟩
 rw [← hfin]
 rcases hform with ⟨rfl,rfl⟩ | ⟨g,cap,rfl⟩
 ·have hx : xs = []:=List.eq_nil_of_length_eq_zero hn
  subst hx
  have hfin' : fin = []:=by rw [hfin];simp [sm]
  subst hfin'
  have H:=hideIt hown
  clear hown hfin hc hf hne hn
  go_enter Tryz.func99,Tryz.ntmps99
  go_wp2
  go_loop [6] (fun i => i = .int .i64 st) (fun _ => 0)
  case atStart => rfl
  case round =>
   subst hrel
   go_wp2
   go_end0
   exact ⟨rfl,H.out,Only.refl _ _⟩
 ·have hgc : g ≠ c:=hne g rfl
  have START:=hideIt (And.intro hown (And.intro hc hf))
  have HF:=hideIt hfin
  have HN:=hideIt hn
  clear hown hc hf hfin hne hn
  go_enter Tryz.func99,Tryz.ntmps99
  go_wp2
  go_loopw [6] (fun i wr => ∃ (j : Nat) (ys : List Int) (a : Int),j ≤ 1000000 ∧ i = .int .i64 j ∧ ys.length = n ∧ wr.ownsRow lo 3 1 (.slice (some ⟨g,0,none⟩) n cap) n (ys.map (Value.int .i64)) ∧
    wr.cell? ⟨c,0,none⟩ = some (.int .i64 a) ∧ wr.frozen? ⟨c,0,none⟩ = false ∧ fin = ys.take j ++ sm a (ys.drop j) ∧ Only (fun k => k = g ∨ k = c) w wr) (fun i _ => n - (intOf i).toNat)
  case atStart => exact ⟨st,xs,a0,hs,rfl,HN.out,START.out.1,START.out.2.1,START.out.2.2,HF.out,Only.refl _ _⟩
  case round =>
   obtain ⟨j,ys,a,hj,rfl,hyl,hown,hc,hf,hfin,hon⟩:=hrel
   clear START HF HN
   by_cases hlt : j < n
   ·have hcell : wr.cell? ⟨g,j,none⟩ = some (.int .i64 (ys.getD j 0)):=by
     rw [hown.cellAt j (by omega),List.getElem?_map,List.getElem?_eq_getElem (by omega),List.getD_eq_getElem?_getD,List.getElem?_eq_getElem (by omega)]
     rfl
    have hrnd:=dif_round (f:=sm) (st:=fun a x => (wrap64 (a + x),wrap64 (a + x))) (fun _ _ _ => rfl) ys j a (by omega)
    obtain ⟨y,hy⟩ : ∃ y,y = ys.getD j 0:=⟨_,rfl⟩
    rw [← hy] at hcell hrnd
    have A:=hideIt (sclo c y a wr hc hf)
    have hcell2 : (wr.setCell ⟨c,0,none⟩ (.int .i64 (wrap64 (a + y)))).cell? ⟨g,j,none⟩ = some (.int .i64 y):=by
     rw [World.cell?_setCell_other (h:=by intro h;exact hgc (by cases h;rfl))];exact hcell
    have hfr2 : (wr.setCell ⟨c,0,none⟩ (.int .i64 (wrap64 (a + y)))).frozen? ⟨g,j,none⟩ = false:=by
     rw [World.frozen?_setCell];exact hown.frozenAt _
    have hon2 : Only (fun k => k = g ∨ k = c) w (wr.setCell ⟨c,0,none⟩ (.int .i64 (wrap64 (a + y)))):=hon.setCell (fun _ => .inr rfl) _
    have hown2 : (wr.setCell ⟨c,0,none⟩ (.int .i64 (wrap64 (a + y)))).ownsRow lo 3 1 (.slice (some ⟨g,0,none⟩) n cap) n (ys.map (Value.int .i64)) :=
     ((Only.refl (fun k => k = c) wr).setCell (p:=⟨c,0,none⟩) (fun _ => rfl) _).own hown (fun k hk => by simp [Value.ownBlock] at hk;omega)
    have hc2 : (wr.setCell ⟨c,0,none⟩ (.int .i64 (wrap64 (a + y)))).cell? ⟨c,0,none⟩ = some (.int .i64 (wrap64 (a + y))):=World.cell?_setCell_same _ _ _ hc
    have hf2 : (wr.setCell ⟨c,0,none⟩ (.int .i64 (wrap64 (a + y)))).frozen? ⟨c,0,none⟩ = false:=by rw [World.frozen?_setCell];exact hf
    have H:=hideIt (And.intro hon2 (And.intro hown2 (And.intro hc2 (And.intro hf2 (And.intro hfin hrnd)))))
    have i0 : (0 : Int) ≤ (j : Int):=by omega
    have i1 : (j : Int) < (n : Int):=by omega
    clear hown hc hf hfin hon hon2 hown2 hc2 hf2 hrnd
    have HY:=hideIt hy
    have HYL:=hideIt hyl
    clear hy hyl
    go_wp2_with fail
    refine A.out.mono ?_
    rintro e w1 ⟨rfl,rfl⟩
    clear A
    go_wp2
    go_roundw
    case rel =>
     refine ⟨j + 1,ys.set j (wrap64 (a + y)),wrap64 (a + y),by omega,by go_num,by rw [List.length_set];exact HYL.out,?_,?_,?_,?_,?_⟩
     ·have h1:=(H.out.2.1.stored j (.int .i64 (wrap64 (a + y)))).1
      rw [← List.map_set] at h1
      exact h1
     ·rw [World.cell?_setCell_other (h:=by intro h;exact hgc (by cases h;rfl))];exact H.out.2.2.1
     ·rw [World.frozen?_setCell];exact H.out.2.2.2.1
     ·rw [H.out.2.2.2.2.1];exact H.out.2.2.2.2.2.symm
     ·exact H.out.1.setCell (fun _ => .inl rfl) _
    case measure => simp [intOf];omega
   ·have e1 : fin = ys:=by
     rw [hfin,List.drop_of_length_le (by omega),List.take_of_length_le (by omega)];simp [sm]
    subst e1
    have H:=hideIt (And.intro hown hon)
    clear hown hon hc hf hfin
    have HYL:=hideIt hyl
    clear hyl
    go_wp2
    go_end0
    exact ⟨rfl,H.out.1,H.out.2.mono (fun i _ h => h.imp (fun e => by rw [e];rfl) id)⟩
end Go.Proofs.YthapipgaohlgdaaGreatDoor


namespace Go.Proofs.YthapipgaohlgdaaGreatDoor
set_option maxRecDepth 100000
open Go.RowKit
theorem Tryz.infoCI : (Tryz.prog.info? 3).map (fun i => (i.zero,i.size,i.bytes)) = some (some (.int .i64 0),1,8):=by kernel_rfl
set_option maxHeartbeats 400000 in
theorem iclone_nil (c : Nat) (w : World) : Calls Tryz.prog 98 #[.slice none 0 c] w fun e w' => e = .returned (.slice none 0 0) ∧ w = w':=by
 have hnil : ∀ W,(binOp .eql 45 (.slice none 0 c) (.slice none 0 0)).run Tryz.prog W = .ok (.bool true) W:=fun W => by
  rw [Lib.run_eql_slice_nil W 45 3 none 0 c 0 0 Tryz.underlying45];rfl
 go_enter Tryz.func98,Tryz.ntmps98
 go_wp2
 go_ret
 exact ⟨rfl,rfl⟩
set_option maxHeartbeats 400000 in
theorem iclone_some (ad : Addr) (m c : Nat) (news : List Value) (w : World) (hl : news.length = m) (hnews : ∀ j u,news[j]? = some u → w.cell? (ad.add j) = some u) (h1 : ∀ u ∈ news,u.oneCell' = true) (hm : m ≤ 1000000) :
  Calls Tryz.prog 98 #[.slice (some ad) m c] w fun e w' => ∃ v',e = .returned v' ∧ w'.ownsRow w.heap.size 3 1 v' m news ∧ Only (fun _ => False) w w' ∧ v' ≠ .slice none 0 0:=by
 obtain ⟨i0,hi,hz0,hz1,hz2⟩:=info_parts Tryz.infoCI
 have hnil : ∀ W,(binOp .eql 45 (.slice (some ad) m c) (.slice none 0 0)).run Tryz.prog W = .ok (.bool false) W:=fun W => by
  rw [Lib.run_eql_slice_nil W 45 3 (some ad) m c 0 0 Tryz.underlying45];rfl
 have ho:=World.ownsRow_made (base:=w.heap.size) (e:=3) (size:=1) w #[] 0 (Nat.le_refl _) (by unfold maxLen;omega) rfl
 have HN : Hid (∀ j u,news[j]? = some u → w.cell? (ad.add j) = some u):=hnews
 clear hnews
 go_enter Tryz.func98,Tryz.ntmps98
 go_wp2_with (at_builtin;refine wpList_append_own_at _ rfl _ _ _ rfl w.heap.size 3 i0 (.int .i64 0) 1 8 Tryz.underlying45 hi hz0 hz1 hz2 rfl (by omega) (.slice (some ⟨w.heap.size,0,none⟩) 0 0) 0 [] rfl ho ad m c news rfl ?c0 ?c1 h1 ?c3 ?c4 ?c5 ?_)
 case c0 => omega
 case c1 =>
  intro j u hu
  have h0:=HN.out j u hu
  rw [World.cell?_of_block (Below.heap_alloc w _ _ (World.block_lt_of_cell? w _ h0))];exact h0
 case c3 => unfold maxLen;omega
 case c4 => omega
 case c5 => simp
 intro v' w1 hown1 hgrow hnn hat
 have FIN : Hid (w1.ownsRow w.heap.size 3 1 v' m news ∧ Only (fun _ => False) w w1 ∧ v' ≠ .slice none 0 0):=by
  refine ⟨by simpa using hown1,((Only.refl _ _).alloc _).grown hgrow (fun k hk e => ?_),hnn⟩
  simp [Value.ownBlock] at e
  omega
 clear hown1 hgrow hnn hat ho
 go_wp2
 go_ret
 exact ⟨v',rfl,FIN.out⟩
theorem iclone_bs (v : Value) (xs : List Int) (w : World) (h : Bs .i64 w v xs) (hm : xs.length ≤ 1000000) :
  Calls Tryz.prog 98 #[v] w fun e w' => ∃ v',e = .returned v' ∧ w'.ownsRow w.heap.size 3 1 v' xs.length (xs.map (Value.int .i64)) ∧ Only (fun _ => False) w w':=by
 obtain ⟨ao,cap,rfl,hc,hr⟩:=h
 cases ao with
 | none =>
  have hx : xs = []:=by
   cases xs with
   | nil => rfl
   | cons a t => obtain ⟨b,off,h,_⟩:=hr (by simp);cases h
  subst hx
  refine (iclone_nil cap w).mono ?_
  rintro e w' ⟨rfl,rfl⟩
  exact ⟨_,rfl,World.ownsRow_nil _ _ _ _,Only.refl _ _⟩
 | some ad =>
  refine (iclone_some ad xs.length cap (xs.map (Value.int .i64)) w (by simp) ?_ (oneCell_ints _ _) hm).mono ?_
  ·intro j u hu
   have hj : j < xs.length:=by
    have:=(List.getElem?_eq_some_iff.1 hu).1
    simpa using this
   obtain ⟨b,off,hb,hcell⟩:=hr (by intro h;subst h;simp at hj)
   cases hb
   have hadd : (⟨b,off,none⟩ : Addr).add j = ⟨b,off + j,none⟩:=by unfold Addr.add;split <;> simp_all
   rw [hadd,hcell j hj]
   rw [← hu]
   simp [List.getElem?_eq_getElem hj]
  ·rintro e w' ⟨v',rfl,h1,h2,_⟩
   exact ⟨v',rfl,h1,h2⟩
end Go.Proofs.YthapipgaohlgdaaGreatDoor


namespace Go.Proofs.YthapipgaohlgdaaGreatDoor
set_option maxRecDepth 100000
open Go.RowKit
theorem own_at_lt {w : World} {lo : Nat} {E : TypeId} {size : Nat} {v : Value} {n : Nat} {xs : List Value} (h : w.ownsRow lo E size v n xs) {b : Nat} (hb : v.ownBlock = some b) : lo ≤ b ∧ b < w.heap.size:=by
 rcases h.2 with ⟨rfl,_⟩ | ⟨g,cap,cur,rfl,hg,hh,_⟩
 ·simp [Value.ownBlock] at hb
 ·simp [Value.ownBlock] at hb
  subst hb
  exact ⟨hg,(Array.getElem?_eq_some_iff.1 hh).1⟩
set_option maxHeartbeats 400000 in
theorem maybe_in (k : Nat) (w : World) (hk : k ≤ 3) : Calls Tryz.prog 97 #[.int .i64 k] w fun e w' => e = .returned (.bool true) ∧ w = w':=by
 have h1 : decide ((0 : Int) ≤ k) = true:=decide_eq_true (by omega)
 have h2 : decide ((k : Int) ≤ 3) = true:=decide_eq_true (by omega)
 go_enter Tryz.func97,Tryz.ntmps97
 go_wp2
 go_ret
 exact ⟨rfl,rfl⟩
theorem zero_new (w : World) : (w.alloc (.cells #[.int .i64 0] 3)).cell? ⟨w.heap.size,0,none⟩ = some (.int .i64 0) ∧
  (w.alloc (.cells #[.int .i64 0] 3)).frozen? ⟨w.heap.size,0,none⟩ = false ∧ Only (fun _ => False) w (w.alloc (.cells #[.int .i64 0] 3)) :=
 ⟨by rw [World.cell?_alloc_at _ _ _ _ rfl];rfl,World.frozen?_alloc_at _ _ _ _ rfl,(Only.refl _ _).alloc _⟩
set_option maxHeartbeats 400000 in
theorem differences_any (w : World) : Calls Tryz.prog 100 #[] w fun e w' => e = .returned (.func (.func 136) #[] #[.pointer (some ⟨w.heap.size,0,none⟩)]) ∧
  w'.cell? ⟨w.heap.size,0,none⟩ = some (.int .i64 0) ∧ w'.frozen? ⟨w.heap.size,0,none⟩ = false ∧ Only (fun _ => False) w w':=by
 have hmf : ∀ (fn : Fn) (first cap : Array Value) (w : World),(Instr.makeFunc fn first cap).run Tryz.prog w = .ok (.func fn first cap) w:=fun _ _ _ _ => rfl
 have H:=hideIt (zero_new w)
 go_enter Tryz.func100,Tryz.ntmps100
 go_wp2
 go_ret
 exact ⟨rfl,H.out⟩
set_option maxHeartbeats 400000 in
theorem sums_any (w : World) : Calls Tryz.prog 155 #[] w fun e w' => e = .returned (.func (.func 176) #[] #[.pointer (some ⟨w.heap.size,0,none⟩)]) ∧
  w'.cell? ⟨w.heap.size,0,none⟩ = some (.int .i64 0) ∧ w'.frozen? ⟨w.heap.size,0,none⟩ = false ∧ Only (fun _ => False) w w':=by
 have hmf : ∀ (fn : Fn) (first cap : Array Value) (w : World),(Instr.makeFunc fn first cap).run Tryz.prog w = .ok (.func fn first cap) w:=fun _ _ _ _ => rfl
 have H:=hideIt (zero_new w)
 go_enter Tryz.func155,Tryz.ntmps155
 go_wp2
 go_ret
 exact ⟨rfl,H.out⟩
set_option maxHeartbeats 800000 in
theorem diff_in (v : Value) (xs : List Int) (k : Nat) (w : World) (hb : Bs .i64 w v xs) (hl : xs.length ≤ 1000000) (hk : k ≤ 3) :
  Calls Tryz.prog 66 #[v,.int .i64 k] w fun e w' => ∃ v',e = .returned (.tuple #[v',.int .i64 0]) ∧ w'.ownsRow w.heap.size 3 1 v' xs.length ((D k xs).map (Value.int .i64)) ∧ Only (fun _ => False) w w':=by
 have A0:=hideIt (maybe_in k w hk)
 have A1:=hideIt (iclone_bs v xs w hb hl)
 obtain ⟨n,hn⟩ : ∃ n,n = xs.length:=⟨_,rfl⟩
 rw [← hn] at hl A1 ⊢
 obtain ⟨N,hN⟩ : ∃ N,N = w.heap.size:=⟨_,rfl⟩
 rw [← hN] at A1 ⊢
 have HN:=hideIt (And.intro hn hN)
 clear hn hN hb
 go_enter Tryz.func66,Tryz.ntmps66
 go_wp2_with fail
 refine A0.out.mono ?_
 rintro e w1 ⟨rfl,rfl⟩
 clear A0
 go_wp2_with fail
 refine A1.out.mono ?_
 rintro e w1 ⟨v',rfl,own1,on1⟩
 have H1:=hideIt (And.intro own1 on1)
 clear A1 own1 on1
 go_wp2
 go_loopw [14] (fun i wr => ∃ j : Nat,j ≤ k ∧ i = .int .i64 j ∧ wr.ownsRow N 3 1 v' n ((D j xs).map (Value.int .i64)) ∧ Only (fun _ => False) w wr) (fun i _ => k - (intOf i).toNat)
 case atStart => exact ⟨0,Nat.zero_le _,rfl,H1.out⟩
 case round =>
  obtain ⟨j,hj,rfl,hown,hon⟩:=hrel
  clear H1
  by_cases hlt : j < k
  ·have H:=hideIt (And.intro hown hon)
   clear hown hon
   have A2:=hideIt (differences_any wr)
   go_wp2_with fail
   refine A2.out.mono ?_
   rintro e w2 ⟨rfl,hc,hf,on2⟩
   have hown2:=on2.own H.out.1 (fun _ _ f => f)
   have hln : (D j xs).length = n:=by rw [D_length];exact HN.out.1.symm
   have A3:=hideIt (rep_d N wr.heap.size j n 0 v' (D j xs) w2 hln hown2 hc hf (fun b hb => Nat.ne_of_lt (own_at_lt H.out.1 hb).2) hl (by omega))
   have H2:=hideIt (And.intro on2 hown2)
   clear A2 hc hf on2 hown2
   go_wp2_with fail
   refine A3.out.mono ?_
   rintro e w3 ⟨rfl,hown3,on3⟩
   have H3:=hideIt (And.intro hown3 on3)
   clear A3 hown3 on3
   go_wp2
   go_roundw
   case rel =>
    refine ⟨j + 1,by omega,by go_num,H3.out.1,?_⟩
    have o2:=H.out.2.trans H2.out.1 (fun _ _ f => f)
    refine o2.trans H3.out.2 (fun i hi h => ?_)
    rcases h with h | h
    ·have:=(own_at_lt H.out.1 h).1
     have:=HN.out.2
     omega
    ·have:=H.out.2.size
     omega
   case measure => simp [intOf];omega
  ·have e1 : j = k:=by omega
   subst e1
   have H:=hideIt (And.intro hown hon)
   clear hown hon
   go_wp2
   go_ret2
   exact ⟨_,rfl,H.out⟩
set_option maxHeartbeats 800000 in
theorem sum_in (v : Value) (xs : List Int) (k : Nat) (w : World) (hb : Bs .i64 w v xs) (hl : xs.length ≤ 1000000) (hk : k ≤ 3) :
  Calls Tryz.prog 123 #[v,.int .i64 k] w fun e w' => ∃ v',e = .returned (.tuple #[v',.int .i64 0]) ∧ w'.ownsRow w.heap.size 3 1 v' xs.length ((S k xs).map (Value.int .i64)) ∧ Only (fun _ => False) w w':=by
 have A0:=hideIt (maybe_in k w hk)
 have A1:=hideIt (iclone_bs v xs w hb hl)
 obtain ⟨n,hn⟩ : ∃ n,n = xs.length:=⟨_,rfl⟩
 rw [← hn] at hl A1 ⊢
 obtain ⟨N,hN⟩ : ∃ N,N = w.heap.size:=⟨_,rfl⟩
 rw [← hN] at A1 ⊢
 have HN:=hideIt (And.intro hn hN)
 clear hn hN hb
 go_enter Tryz.func123,Tryz.ntmps123
 go_wp2_with fail
 refine A0.out.mono ?_
 rintro e w1 ⟨rfl,rfl⟩
 clear A0
 go_wp2_with fail
 refine A1.out.mono ?_
 rintro e w1 ⟨v',rfl,own1,on1⟩
 have H1:=hideIt (And.intro own1 on1)
 clear A1 own1 on1
 go_wp2
 go_loopw [14] (fun i wr => ∃ j : Nat,j ≤ k ∧ i = .int .i64 j ∧ ∃ ys,ys.length = n ∧ S (k - j) ys = S k xs ∧ wr.ownsRow N 3 1 v' n (ys.map (Value.int .i64)) ∧ Only (fun _ => False) w wr) (fun i _ => k - (intOf i).toNat)
 case atStart => exact ⟨0,Nat.zero_le _,rfl,xs,HN.out.1.symm,rfl,H1.out⟩
 case round =>
  obtain ⟨j,hj,rfl,ys,hyl,hys,hown,hon⟩:=hrel
  have HY:=hideIt (And.intro hyl hys)
  clear hyl hys
  clear H1
  by_cases hlt : j < k
  ·have H:=hideIt (And.intro hown hon)
   clear hown hon
   have A2:=hideIt (sums_any wr)
   have it : ((k : Int) - 1 - j) = ((k - 1 - j : Nat) : Int):=by omega
   go_wp2_with fail
   refine A2.out.mono ?_
   rintro e w2 ⟨rfl,hc,hf,on2⟩
   have hown2:=on2.own H.out.1 (fun _ _ f => f)
   have A3:=hideIt (rep_s N wr.heap.size (k - 1 - j) n 0 v' ys w2 HY.out.1 hown2 hc hf (fun b hb => Nat.ne_of_lt (own_at_lt H.out.1 hb).2) hl (by omega))
   have H2:=hideIt (And.intro on2 hown2)
   clear A2 hc hf on2 hown2
   go_wp2_with fail
   refine A3.out.mono ?_
   rintro e w3 ⟨rfl,hown3,on3⟩
   have H3:=hideIt (And.intro hown3 on3)
   clear A3 hown3 on3
   go_wp2
   go_roundw
   case rel =>
    refine ⟨j + 1,by omega,by go_num,_,?_,?_,H3.out.1,?_⟩
    ·exact (bh_length (sm_length 0) (k - 1 - j) ys).trans HY.out.1
    ·rw [← HY.out.2,show k - j = (k - (j + 1)) + 1 by omega,S,show k - 1 - j = k - (j + 1) by omega];rfl
    have o2:=H.out.2.trans H2.out.1 (fun _ _ f => f)
    refine o2.trans H3.out.2 (fun i hi h => ?_)
    rcases h with h | h
    ·have:=(own_at_lt H.out.1 h).1
     have:=HN.out.2
     omega
    ·have:=H.out.2.size
     omega
   case measure => simp [intOf];omega
  ·have e1 : j = k:=by omega
   subst e1
   have e2 : ys = S j xs:=by have:=HY.out.2;rw [Nat.sub_self] at this;exact this
   subst e2
   have H:=hideIt (And.intro hown hon)
   clear hown hon
   go_wp2
   go_ret2
   exact ⟨_,rfl,H.out⟩
end Go.Proofs.YthapipgaohlgdaaGreatDoor


namespace Go.Proofs.YthapipgaohlgdaaGreatDoor
set_option maxRecDepth 100000
open Go.RowKit
set_option maxHeartbeats 400000 in
theorem istag_yes (t : Int) (w : World) (h0 : 0 ≤ t) (h1 : t ≤ 4) : Calls Tryz.prog 64 #[.int .i64 t] w fun e w' => e = .returned (.bool true) ∧ w = w':=by
 have d0 : decide (0 ≤ t) = true:=decide_eq_true h0
 have d1 : decide (t < 5) = true:=decide_eq_true (by omega)
 clear h0 h1
 go_enter Tryz.func64,Tryz.ntmps64
 go_wp2
 go_ret
 exact ⟨rfl,rfl⟩
set_option maxHeartbeats 400000 in
theorem istag_no (t : Int) (w : World) (h : t < 0 ∨ 4 < t) : Calls Tryz.prog 64 #[.int .i64 t] w fun e w' => e = .returned (.bool false) ∧ w = w':=by
 by_cases h0 : t < 0
 ·have d0 : decide (0 ≤ t) = false:=decide_eq_false (by omega)
  clear h0 h
  go_enter Tryz.func64,Tryz.ntmps64
  go_wp2
  go_ret
  exact ⟨rfl,rfl⟩
 ·have d0 : decide (0 ≤ t) = true:=decide_eq_true (by omega)
  have d1 : decide (t < 5) = false:=decide_eq_false (by omega)
  clear h0 h
  go_enter Tryz.func64,Tryz.ntmps64
  go_wp2
  go_ret
  exact ⟨rfl,rfl⟩
set_option maxHeartbeats 400000 in
theorem times_one (w : World) : Calls Tryz.prog 67 #[.int .i64 1] w fun e w' => e = .returned (.int .i64 1) ∧ w = w':=by
 go_enter Tryz.func67,Tryz.ntmps67
 go_wp2
 go_ret
 exact ⟨rfl,rfl⟩
set_option maxHeartbeats 400000 in
theorem times_two (w : World) : Calls Tryz.prog 67 #[.int .i64 2] w fun e w' => e = .returned (.int .i64 1) ∧ w = w':=by
 go_enter Tryz.func67,Tryz.ntmps67
 go_wp2
 go_ret
 exact ⟨rfl,rfl⟩
set_option maxHeartbeats 400000 in
theorem times_three (w : World) : Calls Tryz.prog 67 #[.int .i64 3] w fun e w' => e = .returned (.int .i64 2) ∧ w = w':=by
 go_enter Tryz.func67,Tryz.ntmps67
 go_wp2
 go_ret
 exact ⟨rfl,rfl⟩
set_option maxHeartbeats 400000 in
theorem times_four (w : World) : Calls Tryz.prog 67 #[.int .i64 4] w fun e w' => e = .returned (.int .i64 2) ∧ w = w':=by
 go_enter Tryz.func67,Tryz.ntmps67
 go_wp2
 go_ret
 exact ⟨rfl,rfl⟩
theorem times_any (t : Nat) (w : World) (h0 : 1 ≤ t) (h1 : t ≤ 4) : Calls Tryz.prog 67 #[.int .i64 t] w fun e w' => e = .returned (.int .i64 (tms t)) ∧ w = w':=by
 rcases t with _ | _ | _ | _ | _ | t
 ·omega
 ·exact times_one w
 ·exact times_two w
 ·exact times_three w
 ·exact times_four w
 ·omega
theorem fx_take (l : List Int) (k : Nat) (h : k < l.length) : fx (l.take (k + 1)) = fx (l.take k) ++ fixL (u64o (l.getD k 0)) 8:=by
 rw [take_snoc l k h,fx_snoc]
set_option maxHeartbeats 400000 in
theorem fixed_any (v : Value) (l : List Int) (w : World) (h : Bs .i64 w v l) (hl : l.length ≤ 65536) :
  Calls Tryz.prog 65 #[v] w fun e w' => ∃ u,e = .returned u ∧ w'.ownsRow w.heap.size 5 1 u (fx l).length ((fx l).map (Value.int .u8)) ∧ Only (fun _ => False) w w':=by
 obtain ⟨i0,hi,hz0,hz1,hz2⟩:=info_parts Tryz.infoU8
 have HB:=hideIt h
 obtain ⟨ao,cap,rfl⟩:=h.len
 obtain ⟨n,hn⟩ : ∃ n,n = l.length:=⟨_,rfl⟩
 rw [← hn] at hl HB
 rw [← hn]
 have HN:=hideIt hn
 clear h hn
 go_enter Tryz.func65,Tryz.ntmps65
 go_wp2
 go_loopw [3,8] (fun s i wr => ∃ k : Nat,k ≤ n ∧ i = .int .i64 k ∧ wr.ownsRow w.heap.size 5 1 s (fx (l.take k)).length ((fx (l.take k)).map (Value.int .u8)) ∧ Only (fun _ => False) w wr) (fun _ i _ => n - (intOf i).toNat)
 case atStart => exact ⟨0,Nat.zero_le _,rfl,World.ownsRow_nil _ _ _ _,Only.refl _ _⟩
 case round =>
  obtain ⟨k,hk,rfl,hown,hon⟩:=hrel
  have HOWN:=hideIt hown
  have HON:=hideIt hon
  by_cases hlt : k < n
  ·have dlt : decide ((k : Int) < (n : Int)) = true:=by simp;omega
   obtain ⟨b,off,cap',e1,hc0⟩:=(HB.out.past hon).at k (by rw [← HN.out];exact hlt)
   have ea : ao = some ⟨b,off,none⟩:=by simp at e1;exact e1.1
   subst ea
   clear e1
   have HST:=hideIt (fx_take l k (by rw [← HN.out];exact hlt))
   have HFL : Hid ((fx (l.take k)).length ≤ 8 * n):=by
    simp only [Hid];rw [fx_length,List.length_take];omega
   obtain ⟨f1,hf1⟩ : ∃ f1,f1 = fx (l.take (k + 1)):=⟨_,rfl⟩
   rw [← hf1] at HST
   have HF1:=hideIt hf1
   clear hf1
   generalize fx (l.take k) = f0 at *
   generalize l.getD k 0 = x at *
   clear hown hon HB
   go_wp2_with fail
   refine (fix_any _ 8 wr (by omega)).mono ?_
   rintro e w4 ⟨u,rfl,own4,o4⟩
   rw [IntKind.wrap_u64] at own4
   have ow:=o4.own HOWN.out (fun _ _ f => f)
   have hb4:=Bs.of_own own4
   have NC4:=hideIt (NoCap.of_own own4)
   have HB4:=hideIt hb4
   have hs4 : w.heap.size ≤ w4.heap.size:=Nat.le_trans HON.out.size o4.size
   have O4:=hideIt (HON.out.trans o4 (fun _ _ f => f))
   obtain ⟨a4,c4,e4⟩:=hb4.len
   subst e4
   clear o4 own4 HON HOWN hb4
   rw [fixL_len] at HB4 NC4
   go_wp2_with (at_builtin;refine wpList_append_bs _ rfl _ _ _ rfl w.heap.size 5 i0 (.int .u8 0) 1 Tryz.underlying26 hi hz0 hz1 hz2 rfl _ _ _ rfl ow .u8 _ (fixL (x % 18446744073709551616) 8) rfl HB4.out NC4.out ?c3 ?c4 hs4 ?_)
   case c3 => have:=HFL.out;rw [fixL_len];unfold maxLen;omega
   case c4 => have:=HFL.out;rw [fixL_len];omega
   intro v6 w6 own6 hgrow6 _ _
   have OWN6 : Hid (w6.ownsRow w.heap.size 5 1 v6 f1.length (f1.map (Value.int .u8))):=by
    simp only [Hid];rw [HST.out,List.length_append,List.map_append];exact own6
   have O6:=hideIt (O4.out.grown hgrow6 (fun k hk e => absurd (ow.lt k e).1 (by omega)))
   clear ow own6 hgrow6
   go_wp2
   go_roundw
   case rel => exact ⟨k + 1,by omega,by go_num,by rw [← HF1.out];exact OWN6.out,O6.out⟩
   case measure => simp [intOf];omega
  ·obtain rfl : k = n:=by omega
   have dlt : decide ((k : Int) < (k : Int)) = false:=by simp
   rw [HN.out,List.take_length] at HOWN
   clear hown hon
   go_wp2
   go_ret
   exact ⟨_,rfl,HOWN.out,HON.out⟩
def zpart (l : List Int) (n k : Nat) : List Int:=zsn (l.take k) ++ List.replicate (n - k) 0
theorem zpart_len (l : List Int) (k : Nat) (hk : k ≤ l.length) : (zpart l l.length k).length = l.length:=by
 simp only [zpart,List.length_append,zsn_length,List.length_take,List.length_replicate];omega
theorem zpart_zero (l : List Int) (n : Nat) : (zpart l n 0).map (Value.int .u64) = (madeCells #[Value.int .u64 0] (n * 1)).toList:=by
 apply List.ext_getElem?
 intro i
 by_cases h : i < n
 ·simp [zpart,zsn,madeCells,h,Nat.mod_one]
 ·simp [zpart,zsn,madeCells,h]
theorem zpart_all (l : List Int) : zpart l l.length l.length = zsn l:=by simp [zpart]
theorem zpart_step (l : List Int) (k : Nat) (h : k < l.length) : (zpart l l.length k).set k (zig (l.getD k 0)) = zpart l l.length (k + 1):=by
 unfold zpart
 have hlen : (zsn (l.take k)).length = k:=by rw [zsn_length,List.length_take];omega
 rw [show l.length - k = (l.length - (k + 1)) + 1 by omega,List.replicate_succ,List.set_append_right _ _ (by omega),hlen,Nat.sub_self,List.set_cons_zero,take_snoc l k h]
 simp [zsn]
set_option maxHeartbeats 400000 in
theorem zigs_any (v : Value) (l : List Int) (w : World) (h : Bs .i64 w v l) (hg : I64s l) (hl : l.length ≤ 65536) :
  Calls Tryz.prog 69 #[v] w fun e w' => ∃ u,e = .returned u ∧ w'.ownsRow w.heap.size 42 1 u (zsn l).length ((zsn l).map (Value.int .u64)) ∧ Only (fun _ => False) w w':=by
 obtain ⟨i0,hi,hz0,hz1,hz2⟩:=info_parts Tryz.infoU64
 have HB:=hideIt h
 have HG:=hideIt hg
 obtain ⟨ao,cap,rfl⟩:=h.len
 obtain ⟨n,hn⟩ : ∃ n,n = l.length:=⟨_,rfl⟩
 rw [← hn] at hl HB
 rw [← hn]
 have HN:=hideIt hn
 obtain ⟨wm,hmk,hown0,hgr⟩:=run_make_full (P:=Tryz.prog) w w.heap.size 46 42 i0 (.int .u64 0) 1 Tryz.underlying46 hi hz0 hz1 .i64 .i64 n (by rw [hz2];omega) (by unfold maxLen;omega) (Nat.le_refl _)
 have START : Hid (wm.ownsRow w.heap.size 42 1 (.slice (some ⟨w.heap.size,0,none⟩) n n) n ((zpart l n 0).map (Value.int .u64)) ∧ Only (fun _ => False) w wm):=by
  rw [show (Value.int .u64 0).cells = #[Value.int .u64 0] from rfl] at hown0
  rw [zpart_zero]
  exact ⟨hown0,(Only.refl _ _).grown hgr (fun _ _ e => by cases e)⟩
 clear hown0 hgr
 obtain ⟨N,hN⟩ : ∃ N,N = w.heap.size:=⟨_,rfl⟩
 rw [← hN] at hmk START
 rw [← hN]
 have HNN:=hideIt hN
 clear h hn hN hg
 go_enter Tryz.func69,Tryz.ntmps69
 go_wp2
 go_loopw [11] (fun i wr => ∃ k : Nat,k ≤ n ∧ i = .int .i64 k ∧ wr.ownsRow N 42 1 (.slice (some ⟨N,0,none⟩) n n) n ((zpart l n k).map (Value.int .u64)) ∧ Only (fun _ => False) w wr) (fun i _ => n - (intOf i).toNat)
 case atStart => exact ⟨0,Nat.zero_le _,rfl,START.out.1,START.out.2⟩
 case round =>
  obtain ⟨k,hk,rfl,hown,hon⟩:=hrel
  clear START hmk
  have HOWN:=hideIt hown
  have HON:=hideIt hon
  by_cases hlt : k < n
  ·have dlt : decide ((k : Int) < (n : Int)) = true:=by simp;omega
   have hkl : k < l.length:=by rw [← HN.out];exact hlt
   obtain ⟨b,off,cap',e1,hc0⟩:=(HB.out.past hon).at k hkl
   have ea : ao = some ⟨b,off,none⟩:=by simp at e1;exact e1.1
   subst ea
   clear e1
   have hx:=HG.out (l.getD k 0) (getD_mem0 l k hkl)
   have hcell : ∃ y,wr.cell? ⟨N,k,none⟩ = some (.int .u64 y):=by
    have hz:=zpart_len l k (by omega)
    rw [← HN.out] at hz
    refine ⟨(zpart l n k).getD k 0,?_⟩
    rw [hown.cellAt k (by omega),List.getElem?_map,List.getElem?_eq_getElem (by rw [hz];omega),List.getD_eq_getElem?_getD,List.getElem?_eq_getElem (by rw [hz];omega)]
    rfl
   obtain ⟨y,hy⟩:=hcell
   have hfr : wr.frozen? ⟨N,k,none⟩ = false:=hown.frozenAt _
   have hstep : Hid (((zpart l n k).map (Value.int .u64)).set k (.int .u64 (zig (l.getD k 0))) = (zpart l n (k + 1)).map (Value.int .u64)):=by
    simp only [Hid];rw [← List.map_set,HN.out,zpart_step l k hkl]
   generalize l.getD k 0 = x at *
   clear hown hon HB HG hkl
   go_wp2_with fail
   refine (zig_any x wr hx.1 hx.2).mono ?_
   rintro e w1 ⟨rfl,rfl⟩
   go_wp2
   go_roundw
   case rel =>
    refine ⟨k + 1,by omega,by go_num,?_,?_⟩
    ·have h1:=(HOWN.out.stored k (.int .u64 (zig x))).1
     rw [hstep.out] at h1
     exact h1
    ·refine HON.out.setCell (fun hb => ?_) _
     have:=HNN.out
     simp only at hb
     omega
   case measure => simp [intOf];omega
  ·obtain rfl : k = n:=by omega
   have dlt : decide ((k : Int) < (k : Int)) = false:=by simp
   have F : Hid (wr.ownsRow N 42 1 (.slice (some ⟨N,0,none⟩) k k) (zsn l).length ((zsn l).map (Value.int .u64))):=by
    have h1:=HOWN.out
    have hk':=HN.out
    simp only [Hid]
    rw [zsn_length,← hk']
    rw [show zpart l k k = zsn l by rw [hk'];exact zpart_all l] at h1
    exact h1
   clear hown hon
   go_wp2
   go_ret
   exact ⟨_,rfl,F.out,HON.out⟩
set_option maxHeartbeats 400000 in
theorem varints_any (v : Value) (l : List Int) (w : World) (h : Bs .u64 w v l) (hu : U64 l) (hl : l.length ≤ 65536) :
  Calls Tryz.prog 104 #[v] w fun e w' => ∃ u,e = .returned u ∧ w'.ownsRow w.heap.size 5 1 u (allG l).length ((allG l).map (Value.int .u8)) ∧ Only (fun _ => False) w w':=by
 obtain ⟨i0,hi,hz0,hz1,hz2⟩:=info_parts Tryz.infoU8
 have HB:=hideIt h
 have HU:=hideIt hu
 obtain ⟨ao,cap,rfl⟩:=h.len
 obtain ⟨n,hn⟩ : ∃ n,n = l.length:=⟨_,rfl⟩
 rw [← hn] at hl HB
 rw [← hn]
 have HN:=hideIt hn
 clear h hn hu
 go_enter Tryz.func104,Tryz.ntmps104
 go_wp2
 go_loopw [3,8] (fun s i wr => ∃ k : Nat,k ≤ n ∧ i = .int .i64 k ∧ wr.ownsRow w.heap.size 5 1 s (allG (l.take k)).length ((allG (l.take k)).map (Value.int .u8)) ∧ Only (fun _ => False) w wr) (fun _ i _ => n - (intOf i).toNat)
 case atStart => exact ⟨0,Nat.zero_le _,rfl,World.ownsRow_nil _ _ _ _,Only.refl _ _⟩
 case round =>
  obtain ⟨k,hk,rfl,hown,hon⟩:=hrel
  have HOWN:=hideIt hown
  have HON:=hideIt hon
  by_cases hlt : k < n
  ·have dlt : decide ((k : Int) < (n : Int)) = true:=by simp;omega
   have hkl : k < l.length:=by rw [← HN.out];exact hlt
   obtain ⟨b,off,cap',e1,hc0⟩:=(HB.out.past hon).at k hkl
   have ea : ao = some ⟨b,off,none⟩:=by simp at e1;exact e1.1
   subst ea
   clear e1
   have hx:=HU.out (l.getD k 0) (getD_mem0 l k hkl)
   have HST:=hideIt (allG_take l k hkl)
   have HFL : Hid ((allG (l.take k)).length ≤ 10 * n):=by
    simp only [Hid];rw [HN.out];exact allG_le l k HU.out
   have HG10:=hideIt (gs_le10 (v:=(l.getD k 0).toNat) (by omega))
   obtain ⟨f1,hf1⟩ : ∃ f1,f1 = allG (l.take (k + 1)):=⟨_,rfl⟩
   rw [← hf1] at HST
   have HF1:=hideIt hf1
   clear hf1
   generalize allG (l.take k) = f0 at *
   generalize l.getD k 0 = x at *
   clear hown hon HB hkl
   go_wp2_with fail
   refine (append_any (.slice none 0 0) [] x wr (Bs.nil _ _) NoCap.nil (by simp) hx.1 hx.2).mono ?_
   rintro e w4 ⟨u,rfl,own4,o4⟩
   rw [List.nil_append] at own4
   have ow:=o4.own HOWN.out (fun _ _ f => f)
   have hb4:=Bs.of_own own4
   have NC4:=hideIt (NoCap.of_own own4)
   have HB4:=hideIt hb4
   have hs4 : w.heap.size ≤ w4.heap.size:=Nat.le_trans HON.out.size o4.size
   have O4:=hideIt (HON.out.trans o4 (fun _ _ f => f))
   obtain ⟨a4,c4,e4⟩:=hb4.len
   subst e4
   clear o4 own4 HON HOWN hb4
   generalize gs x.toNat = g at *
   go_wp2_with (at_builtin;refine wpList_append_bs _ rfl _ _ _ rfl w.heap.size 5 i0 (.int .u8 0) 1 Tryz.underlying26 hi hz0 hz1 hz2 rfl _ _ _ rfl ow .u8 _ g rfl HB4.out NC4.out ?c3 ?c4 hs4 ?_)
   case c3 => have:=HFL.out;have:=HG10.out;unfold maxLen;omega
   case c4 => have:=HFL.out;have:=HG10.out;omega
   intro v6 w6 own6 hgrow6 _ _
   have OWN6 : Hid (w6.ownsRow w.heap.size 5 1 v6 f1.length (f1.map (Value.int .u8))):=by
    simp only [Hid];rw [HST.out,List.length_append,List.map_append];exact own6
   have O6:=hideIt (O4.out.grown hgrow6 (fun k hk e => absurd (ow.lt k e).1 (by omega)))
   clear ow own6 hgrow6
   go_wp2
   go_roundw
   case rel => exact ⟨k + 1,by omega,by go_num,by rw [← HF1.out];exact OWN6.out,O6.out⟩
   case measure => simp [intOf];omega
  ·obtain rfl : k = n:=by omega
   have dlt : decide ((k : Int) < (k : Int)) = false:=by simp
   rw [HN.out,List.take_length] at HOWN
   clear hown hon
   go_wp2
   go_ret
   exact ⟨_,rfl,HOWN.out,HON.out⟩
end Go.Proofs.YthapipgaohlgdaaGreatDoor
