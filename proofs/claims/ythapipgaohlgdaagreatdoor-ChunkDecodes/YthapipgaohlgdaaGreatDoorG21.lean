/- Several texts in one: RrEn, DRef, Rw8. -/
import Derived.Test.YthapipgaohlgdaaGreatDoorG8
import Derived.Test.YthapipgaohlgdaaGreatDoorG6
import Derived.Test.YthapipgaohlgdaaGreatDoorG10
import Derived.Deep.RegionLaw
import Derived.Test.YthapipgaohlgdaaGreatDoorG11
import Derived.Test.YthapipgaohlgdaaGreatDoorG20
import Derived.Test.YthapipgaohlgdaaGreatDoorG19


namespace Go.Proofs.YthapipgaohlgdaaGreatDoor
set_option maxRecDepth 100000
open Go.RowKit
theorem getD_drop0 (xs : List Int) (i j : Nat) : (xs.drop i).getD j 0 = xs.getD (i + j) 0:=by
 rw [List.getD_eq_getElem?_getD,List.getD_eq_getElem?_getD,List.getElem?_drop]
set_option maxHeartbeats 1600000 in
theorem run_rencode_bs (v : Value) (xs : List Int) (w : World) (h : Bs .u64 w v xs) (hu : U64 xs) (hl : xs.length ≤ 65536) :
  Calls Tryz.prog 112 #[v] w fun e w' => ∃ v',e = .returned (.tuple #[v',.int .i64 0]) ∧ w'.ownsRow w.heap.size 5 1 v' (runE xs).length ((runE xs).map (Value.int .u8)) ∧ Only (fun _ => False) w w':=by
 have HB:=hideIt h
 have HU:=hideIt hu
 have HEL:=hideIt (runE_len xs hu (by omega))
 obtain ⟨ao,cap,rfl⟩:=h.len
 obtain ⟨n,hn⟩ : ∃ n,n = xs.length:=⟨_,rfl⟩
 rw [← hn] at hl HB HEL
 rw [← hn]
 have HN:=hideIt hn
 have d0 : decide ((65536 : Int) < n) = false:=decide_eq_false (by omega)
 clear h hu hn
 go_enter Tryz.func112,Tryz.ntmps112
 go_wp2
 go_loopg [4,5] n (fun g s4 s5 wx => ∃ (i : Nat) (o : List Int),i + g = n ∧ s5 = .int .i64 i ∧ Hid (o ++ runE (xs.drop i) = runE xs) ∧ wx.ownsRow w.heap.size 5 1 s4 o.length (o.map (Value.int .u8)) ∧ Only (fun _ => False) w wx)
 case atStart => exact ⟨0,[],by omega,rfl,rfl,World.ownsRow_nil _ _ _ _,Only.refl _ _⟩
 case round =>
  obtain ⟨i,o,hig,rfl,HO,hown,hon⟩:=hrel
  obtain ⟨W,hW⟩ : ∃ W,W = wr:=⟨_,rfl⟩
  subst hW
  obtain ⟨G,hG⟩ : ∃ G,G = gk:=⟨_,rfl⟩
  subst hG
  obtain ⟨O4,hO4⟩ : ∃ O4,O4 = u4:=⟨_,rfl⟩
  subst hO4
  have HOWN:=hideIt hown
  have HON:=hideIt hon
  have HOL : Hid (o.length ≤ 2000000):=by
   have:=congrArg List.length HO.out
   have:=HEL.out
   rw [List.length_append] at *
   simp only [Hid]
   omega
  clear hown hon
  by_cases hg0 : G = 0
  ·obtain rfl : i = n:=by omega
   have F : Hid (W.ownsRow w.heap.size 5 1 O4 (runE xs).length ((runE xs).map (Value.int .u8))):=by
    have:=HO.out
    rw [List.drop_of_length_le (by rw [← HN.out];omega),runE,List.append_nil] at this
    simp only [Hid]
    rw [← this];exact HOWN.out
   have d1 : decide ((i : Int) < (i : Int)) = false:=by simp
   go_wp2
   go_ret2
   exact ⟨_,rfl,F.out,HON.out⟩
  ·have d1 : decide ((i : Int) < (n : Int)) = true:=decide_eq_true (by omega)
   have iN : i < n:=by omega
   obtain ⟨b,off,cap',e1,hc0⟩:=(HB.out.past HON.out).at i (by rw [← HN.out];exact iN)
   have ea : ao = some ⟨b,off,none⟩:=by simp at e1;exact e1.1
   subst ea
   clear e1
   have hx0:=HU.out (xs.getD i 0) (getD_mem0 xs i (by rw [← HN.out];exact iN))
   obtain ⟨x0,hx⟩ : ∃ x0,x0 = xs.getD i 0:=⟨_,rfl⟩
   rw [← hx] at hc0 hx0
   have HX:=hideIt hx
   clear hx
   have i0' : (0 : Int) ≤ (i : Int):=by omega
   have i1' : (i : Int) < (n : Int):=by omega
   go_wp2
   go_loopg [6] G (fun g2 s6 wy => ∃ k : Nat,i ≤ k ∧ k + g2 = n ∧ s6 = .int .i64 k ∧ Hid (∀ p,i ≤ p → p < k → xs.getD p 0 = x0) ∧ Only (fun _ => False) W wy)
   case atStart => exact ⟨i,Nat.le_refl _,by omega,rfl,(fun p h1 hp => by omega),Only.refl _ _⟩
   case round =>
    obtain ⟨k,hik,hk,rfl,HJ,hoy⟩:=hrel
    have HOY:=hideIt hoy
    have HONy:=hideIt (HON.out.same hoy)
    have hc0:=(hoy.low (Nat.le_refl _)).cell (p:=⟨b,off + i,none⟩) (World.block_lt_of_cell? W _ hc0) |>.trans hc0
    clear hoy
    have hkk : (k < n ∧ xs.getD k 0 = x0) ∨ (k < n ∧ xs.getD k 0 ≠ x0) ∨ k = n:=by
     rcases Nat.lt_or_ge k n with h | h
     ·by_cases h2 : xs.getD k 0 = x0
      ·exact .inl ⟨h,h2⟩
      ·exact .inr (.inl ⟨h,h2⟩)
     ·exact .inr (.inr (by omega))
    have HP : Hid (∀ p,p < k - i → (xs.drop i).getD p 0 = x0):=fun p hp => by rw [getD_drop0];exact HJ.out _ (by omega) (by omega)
    have H00 : Hid ((xs.drop i).getD 0 0 = x0):=by simp only [Hid];rw [getD_drop0,Nat.add_zero];exact HX.out.symm
    rcases hkk with ⟨h1,h2⟩ | hst
    ·have dk : decide ((k : Int) < (n : Int)) = true:=decide_eq_true (by omega)
     obtain ⟨b',off',cap'',e1,hcj⟩:=(HB.out.past HONy.out).at k (by rw [← HN.out];exact h1)
     have e2 : b = b' ∧ off = off':=by simp at e1;exact ⟨e1.1.1,e1.1.2⟩
     obtain ⟨rfl,rfl⟩:=e2
     clear e1
     rw [h2] at hcj
     have k0 : (0 : Int) ≤ (k : Int):=by omega
     have k1 : (k : Int) < (n : Int):=by omega
     have zz : (x0 == x0) = true:=by simp
     have H2:=hideIt h2
     clear h2
     go_wp2
     go_quiet (fail)
     go_wp2
     go_roundg (gk - 1)
     case rel => exact ⟨k + 1,by omega,by omega,by go_num,(fun p hp hp2 => by
      rcases Nat.lt_or_ge p k with h | h
      ·exact HJ.out p hp h
      ·obtain rfl : p = k:=by omega
       exact H2.out),HOY.out.drewN nq⟩
     case measure => omega
    ·have hik2 : i < k:=by
      rcases hst with ⟨h1,h2⟩ | h
      ·rcases Nat.lt_or_ge i k with h3 | h3
       ·exact h3
       ·obtain rfl : k = i:=by omega
        exact absurd HX.out.symm h2
      ·omega
     have HE : Hid (runE (xs.drop i) = gs x0.toNat ++ gs (k - i - 1) ++ runE (xs.drop k)):=by
      simp only [Hid]
      rcases hst with ⟨h1,h2⟩ | h
      ·have:=runE_step (l:=xs.drop i) (i:=k - i) (by omega) (by rw [List.length_drop,← HN.out];omega) (fun j hj => by rw [H00.out];exact HP.out j hj) (by rw [H00.out,getD_drop0,show i + (k - i) = k by omega];exact h2)
       rw [H00.out,List.drop_drop,show i + (k - i) = k by omega] at this
       exact this
      ·have hl2 : (xs.drop i).length = k - i:=by rw [List.length_drop,← HN.out];omega
       have:=runE_all (l:=xs.drop i) (by omega) (fun j hj => by rw [H00.out];exact HP.out j (by omega))
       rw [H00.out,hl2] at this
       rw [this,List.drop_of_length_le (by rw [← HN.out];omega),runE,List.append_nil]
     have hd : (decide ((k : Int) < (n : Int)) = false ∧ decide (k < n) = false) ∨ (decide ((k : Int) < (n : Int)) = true ∧ decide (k < n) = true ∧ ∃ x,wr.cell? ⟨b,off + k,none⟩ = some (.int .u64 x) ∧ (x == x0) = false):=by
      rcases hst with ⟨h1,h2⟩ | h
      ·obtain ⟨b',off',cap'',e1,hcj⟩:=(HB.out.past HONy.out).at k (by rw [← HN.out];exact h1)
       have e2 : b = b' ∧ off = off':=by simp at e1;exact ⟨e1.1.1,e1.1.2⟩
       obtain ⟨rfl,rfl⟩:=e2
       exact .inr ⟨decide_eq_true (by omega),decide_eq_true (by omega),_,hcj,by simpa using h2⟩
      ·exact .inl ⟨decide_eq_false (by omega),decide_eq_false (by omega)⟩
     have k0 : (0 : Int) ≤ (k : Int):=by omega
     have KI:=hideIt (And.intro hik2 hk)
     clear hst HP H00 HJ
     rcases hd with ⟨dk,dk2⟩ | ⟨dk,dk2,x,hcj,zz⟩
     all_goals
      try have k1 : (k : Int) < (n : Int):=by simpa using dk
      go_wp2
      go_quiet (fail)
      have OW1:=hideIt (HOY.out.drewN nq)
      have OWN1:=hideIt (OW1.out.own HOWN.out (fun _ _ f => f))
      have ON1:=hideIt (HON.out.same OW1.out)
      have RA:=hideIt (rappend_any O4 o x0 (wr.drewN nq) (Bs.of_own OWN1.out) (NoCap.of_own OWN1.out) (by have:=HOL.out;omega) hx0.1 hx0.2)
      have HRL : Hid ((o ++ gs x0.toNat).length ≤ 3000000):=by
       have:=HOL.out
       have:=gs_le10 (v:=x0.toNat) (by omega)
       simp only [Hid,List.length_append]
       omega
      go_wp2_with fail
      refine RA.out.mono ?_
      rintro e w2 ⟨v2,rfl,own2,o2⟩
      have RB:=rappend_any v2 (o ++ gs x0.toNat) ((k : Int) - i - 1) w2 (Bs.of_own own2) (NoCap.of_own own2) (by have:=HRL.out;omega) (by omega) (by omega)
      rw [show ((k : Int) - i - 1).toNat = k - i - 1 by omega] at RB
      have RB:=hideIt RB
      have ON2:=hideIt (ON1.out.same o2)
      clear own2 o2 RA
      go_wp2_with fail
      refine RB.out.mono ?_
      rintro e w3 ⟨v3,rfl,own3,o3⟩
      have F:=hideIt (And.intro (own_low own3 ON2.out.size) (ON2.out.same o3))
      have HOO : Hid (o ++ gs x0.toNat ++ gs (k - i - 1) ++ runE (xs.drop k) = runE xs):=by
       simp only [Hid]
       rw [← HO.out,HE.out]
       simp
      clear own3 o3 RB
      go_wp2
      go_roundg (n - k)
      case rel => exact ⟨k,_,by omega,rfl,HOO.out,F.out⟩
      case measure => omega
end Go.Proofs.YthapipgaohlgdaaGreatDoor


namespace Go.Proofs.YthapipgaohlgdaaGreatDoor
set_option maxRecDepth 100000
open Go.RowKit
theorem wrap_64 (x : Int) : IntKind.i64.wrap x = wrap64 x:=by unfold wrap64;rw [IntKind.wrap_i64]
theorem getD_in (l : List Int) (j : Nat) (h : j < l.length) : l[j]? = some (l.getD j 0):=by
 rw [List.getElem?_eq_getElem h,List.getD_eq_getElem?_getD,List.getElem?_eq_getElem h];rfl
theorem take_next (l : List Int) (j : Nat) (h : j < l.length) : l.take (j + 1) = l.take j ++ [l.getD j 0]:=by
 rw [List.take_add_one,getD_in l j h];rfl
theorem bh_at (m : List Int) (s i : Nat) (hi : i < m.length) (hg : ∀ x ∈ m,G64 x) : (bh (dif 0) s m).getD i 0 = if i < s + 1 then m.getD i 0 else wrap64 (m.getD i 0 - m.getD (i - 1) 0):=by
 unfold bh
 rw [List.getD_eq_getElem?_getD,List.getElem?_append]
 by_cases h1 : i < s
 ·rw [if_pos (by rw [List.length_take];omega),if_pos (by omega),List.getElem?_take,if_pos h1,← List.getD_eq_getElem?_getD]
 ·have hs : s < m.length:=by omega
  have el : (m.take s).length = s:=by rw [List.length_take];omega
  rw [if_neg (by omega),el,← List.getD_eq_getElem?_getD]
  have hgd : ∀ j,(m.drop s).getD j 0 = m.getD (s + j) 0:=fun j => by
   rw [List.getD_eq_getElem?_getD,List.getD_eq_getElem?_getD,List.getElem?_drop]
  by_cases h2 : i = s
  ·subst h2
   rw [Nat.sub_self,dif_zero _ (fun x hx => hg x (List.mem_of_mem_drop hx)),hgd,if_pos (by omega)];rfl
  ·obtain ⟨j,rfl⟩ : ∃ j,i = s + (j + 1):=⟨i - s - 1,by omega⟩
   rw [if_neg (by omega),show s + (j + 1) - s = j + 1 by omega,dif_at 0 (m.drop s) j (by rw [List.length_drop];omega),hgd,hgd]
   rfl
set_option maxHeartbeats 400000 in
theorem rdiff_zero (v : Value) (xs : List Int) (w : World) (hb : Bs .i64 w v xs) (nc : NoCap v) (hl : xs.length ≤ 1000000) :
  Calls Tryz.prog 74 #[v,.int .i64 0] w fun e w' => ∃ v',e = .returned (.tuple #[v',.int .i64 0]) ∧ w'.ownsRow w.heap.size 3 1 v' xs.length (xs.map (Value.int .i64)) ∧ Only (fun _ => False) w w':=by
 obtain ⟨i0,hi,hz0,hz1,hz2⟩:=info_parts Tryz.infoI64
 have ho:=World.ownsRow_made (base:=w.heap.size) (e:=3) (size:=1) w #[] 0 (Nat.le_refl _) (by unfold maxLen;omega) rfl
 have HB:=hideIt (And.intro (hb.keep ((Only.refl (fun _ => False) w).alloc (.cells #[] 3)) (fun _ _ f => f)) nc)
 clear hb nc
 go_enter Tryz.func74,Tryz.ntmps74
 go_wp2_with (at_builtin;refine wpList_append_bs _ rfl _ _ _ rfl w.heap.size 3 i0 (.int .i64 0) 8 Tryz.underlying45 hi hz0 hz1 hz2 rfl (.slice (some ⟨w.heap.size,0,none⟩) 0 0) 0 [] rfl ho .i64 v xs rfl HB.out.1 HB.out.2 (by unfold maxLen;omega) (by omega) (by simp) ?_)
 intro v' w1 hown1 hgrow _ _
 have FIN : Hid (w1.ownsRow w.heap.size 3 1 v' xs.length (xs.map (Value.int .i64)) ∧ Only (fun _ => False) w w1):=by
  refine ⟨by simpa using hown1,((Only.refl _ _).alloc _).grown hgrow (fun k hk e => ?_)⟩
  simp [Value.ownBlock] at e
  omega
 clear hown1 hgrow ho HB
 go_wp2
 go_ret2
 exact ⟨v',rfl,FIN.out⟩
set_option maxHeartbeats 800000 in
theorem rdiff_succ (v : Value) (xs : List Int) (k : Nat) (w : World) (hl : xs.length ≤ 1000000) (hg : ∀ x ∈ xs,G64 x) (hk : k + 1 ≤ 3)
  (IH : Calls Tryz.prog 74 #[v,.int .i64 k] w fun e w' => ∃ v',e = .returned (.tuple #[v',.int .i64 0]) ∧ w'.ownsRow w.heap.size 3 1 v' xs.length ((D k xs).map (Value.int .i64)) ∧ Only (fun _ => False) w w') :
  Calls Tryz.prog 74 #[v,.int .i64 (k + 1 : Nat)] w fun e w' => ∃ v',e = .returned (.tuple #[v',.int .i64 0]) ∧ w'.ownsRow w.heap.size 3 1 v' xs.length ((D (k + 1) xs).map (Value.int .i64)) ∧ Only (fun _ => False) w w':=by
 obtain ⟨i0,hi,hz0,hz1,hz2⟩:=info_parts Tryz.infoI64
 have t0 : decide (((k + 1 : Nat) : Int) < 0) = false:=decide_eq_false (by omega)
 have t1 : decide ((3 : Int) < ((k + 1 : Nat) : Int)) = false:=decide_eq_false (by omega)
 have t2 : (((k + 1 : Nat) : Int) == 0) = false:=by
  rw [beq_eq_false_iff_ne];omega
 have t3 : ((k + 1 : Nat) : Int) - 1 = (k : Int):=by omega
 have HI:=hideIt IH
 clear IH
 have HAT:=hideIt (fun i hi => bh_at (D k xs) k i hi (D_g k xs hg))
 obtain ⟨n,hn⟩ : ∃ n,n = xs.length:=⟨_,rfl⟩
 rw [← hn] at hl HI ⊢
 have HN:=hideIt hn
 clear hn hg
 obtain ⟨q,hq⟩ : ∃ q : Nat,q = k + 1:=⟨_,rfl⟩
 have HQ:=hideIt hq
 rw [← hq] at t0 t1 t2 t3 ⊢
 clear hq
 have HLY : Hid ((D (k + 1) xs).length = n):=by rw [D_length];exact HN.out.symm
 have HLM : Hid ((D k xs).length = n):=by rw [D_length];exact HN.out.symm
 have HY : Hid (D (k + 1) xs = bh (dif 0) k (D k xs)):=rfl
 obtain ⟨ms,hms⟩ : ∃ ms,ms = D k xs:=⟨_,rfl⟩
 obtain ⟨ys,hys⟩ : ∃ ys,ys = D (k + 1) xs:=⟨_,rfl⟩
 rw [← hms] at HI HLM HY HAT
 rw [← hys] at HLY HY
 rw [HQ.out,← hys,← HQ.out]
 clear hms hys
 go_enter Tryz.func74,Tryz.ntmps74
 go_wp2_with fail
 refine HI.out.mono ?_
 rintro e w1 ⟨vm,rfl,own1,on1⟩
 have bm : Bs .i64 w1 vm ms:=Bs.of_own (by rw [HLM.out];exact own1)
 obtain ⟨ao,cap,hv⟩:=bm.len
 rw [HLM.out] at hv
 subst hv
 have HBM:=hideIt bm
 have ON1:=hideIt on1
 obtain ⟨M,hM⟩ : ∃ M,M = w1.heap.size:=⟨_,rfl⟩
 have HM:=hideIt hM
 clear HI own1 on1 HN hM bm t0 t1 t2 t3
 go_wp2
 go_loopw [8,9] (fun o i wr => ∃ j : Nat,j ≤ n ∧ i = .int .i64 j ∧ wr.ownsRow M 3 1 o j ((ys.map (Value.int .i64)).take j) ∧ Below M w1 wr) (fun _ i _ => n - (intOf i).toNat)
 case atStart => exact ⟨0,Nat.zero_le _,rfl,World.ownsRow_nil _ _ _ _,Below.refl _ _⟩
 case round =>
  obtain ⟨j,hj,rfl,hown,hbel⟩:=hrel
  have hsz : M ≤ wr.heap.size:=by have:=hbel.size;have:=HM.out;omega
  by_cases hlt : j < n
  ·obtain ⟨b,off,cap',e1,hcell⟩:=(HBM.out.later (by rw [← HM.out];exact hbel)).at j (by rw [HLM.out];exact hlt)
   simp at e1
   obtain ⟨rfl,e2,rfl⟩:=e1
   have HE2:=hideIt e2
   clear e2
   have i0' : (0 : Int) ≤ (j : Int):=by omega
   have i1' : (j : Int) < (n : Int):=by omega
   have hnext : (ys.map (Value.int .i64)).take (j + 1) = (ys.map (Value.int .i64)).take j ++ [.int .i64 (ys.getD j 0)]:=by
    rw [← List.map_take,take_next ys j (by rw [HLY.out];exact hlt),List.map_append,List.map_take];rfl
   have hat:=HAT.out j (by rw [HLM.out];exact hlt)
   rw [← HY.out,← HQ.out] at hat
   obtain ⟨x,hx⟩ : ∃ x,x = ms.getD j 0:=⟨_,rfl⟩
   rw [← hx] at hcell hat
   by_cases hjq : j < q
   ·have tq : decide ((j : Int) < (q : Int)) = true:=decide_eq_true (by omega)
    rw [if_pos hjq] at hat
    rw [hat] at hnext
    have HNX:=hideIt hnext
    clear hx hat hnext
    go_wp2_with (at_builtin;refine wpList_append_lies _ rfl _ _ _ rfl M 3 i0 (.int .i64 0) 1 8 Tryz.underlying45 hi hz0 hz1 hz2 rfl (by omega) _ j ((ys.map (Value.int .i64)).take j) rfl (hown.alloc _) ⟨wr.heap.size,0,none⟩ 1 1 [.int .i64 x] rfl rfl ?c1 ?c2 (by omega) ?c3 ?c4 ?c5 (wr.heap.size + 1) (by simp) ?_)
    case c1 => exact cell_one_new _ _ _
    case c2 => intro u hu;simp at hu;subst hu;rfl
    case c3 => unfold maxLen;omega
    case c4 => omega
    case c5 => simp;omega
    intro g cap1 w2 hown1 hgrow hat hg1
    have hb1 : Below M w1 w2:=(hbel.alloc hsz _).grown hgrow (by simp;omega) (fun q hq => (hown.lt q hq).1)
    have hown2 : w2.ownsRow M 3 1 (.slice (some ⟨g,0,none⟩) (j + 1) cap1) (j + 1) ((ys.map (Value.int .i64)).take (j + 1)):=by rw [HNX.out];exact hown1
    have H2:=hideIt (And.intro hown2 hb1)
    clear hown hown1 hgrow hat hbel hown2 hb1
    go_wp2
    go_roundw
    case rel => exact ⟨j + 1,by omega,by go_num,H2.out⟩
    case measure => simp [intOf];omega
   ·have tq : decide ((j : Int) < (q : Int)) = false:=decide_eq_false (by omega)
    have hj1 : 1 ≤ j:=by have:=HQ.out;omega
    obtain ⟨b',off',cap'',e1,hcell1⟩:=(HBM.out.later (by rw [← HM.out];exact hbel)).at (j - 1) (by rw [HLM.out];omega)
    simp at e1
    obtain ⟨⟨rfl,rfl⟩,e2,rfl⟩:=e1
    clear e2
    rw [if_neg hjq] at hat
    rw [hat] at hnext
    obtain ⟨y,hy⟩ : ∃ y,y = ms.getD (j - 1) 0:=⟨_,rfl⟩
    rw [← hy] at hcell1 hnext
    have HNX:=hideIt hnext
    clear hx hat hnext hy
    obtain ⟨p,hp⟩ : ∃ p : Nat,p = j - 1:=⟨_,rfl⟩
    rw [← hp] at hcell1
    have hw1 : IntKind.i64.wrap ((j : Int) - 1) = (p : Int):=by rw [IntKind.wrap_i64];omega
    have i2 : (0 : Int) ≤ (p : Int):=by omega
    have i3 : (p : Int) < (n : Int):=by omega
    have hca : ∀ j u,[Value.int .i64 (IntKind.i64.wrap (x - y))][j]? = some u → (wr.alloc (.cells #[.int .i64 (IntKind.i64.wrap (x - y))] 3)).drew.cell? ((⟨wr.heap.size,0,none⟩ : Addr).add j) = some u:=cell_one_new _ _ _
    have HOA:=hideIt (And.intro hca (hown.alloc (.cells #[.int .i64 (IntKind.i64.wrap (x - y))] 3)).drew)
    have fn : ∀ g cap1 w2,w2.ownsRow M 3 1 (.slice (some ⟨g,0,none⟩) (j + 1) cap1) (j + 1) ((ys.map (Value.int .i64)).take j ++ [.int .i64 (IntKind.i64.wrap (x - y))]) → (wr.alloc (.cells #[.int .i64 (IntKind.i64.wrap (x - y))] 3)).drew.grownBy w2 u8.ownBlock →
      w2.ownsRow M 3 1 (.slice (some ⟨g,0,none⟩) (j + 1) cap1) (j + 1) ((ys.map (Value.int .i64)).take (j + 1)) ∧ Below M w1 w2:=by
     intro g cap1 w2 h1 h2
     rw [wrap_64,← HNX.out] at h1
     exact ⟨h1,((hbel.alloc hsz _).drew).grown h2 (by simp;omega) (fun q hq => (hown.lt q hq).1)⟩
    have FN:=hideIt fn
    clear hp hca fn hown hbel
    go_wp2
    go_region_law (refine step_append_lies _ rfl (.tmp 44) (.tmp 55) 45 rfl M 3 i0 (.int .i64 0) 1 8 Tryz.underlying45 hi hz0 hz1 hz2 rfl (by omega) u8 j ((ys.map (Value.int .i64)).take j) rfl HOA.out.2 ⟨wr.heap.size,0,none⟩ 1 1 [.int .i64 (IntKind.i64.wrap (x - y))] rfl rfl HOA.out.1 (by intro u hu;simp at hu;subst hu;rfl) (by omega) (by unfold maxLen;omega) (by omega) (by simp;omega) (wr.heap.size + 1) (by simp) ?_;intro g cap1 w2 hown1 hgrow hat hg1)
    all_goals (have H2:=hideIt (FN.out g cap1 w2 hown1 hgrow))
    all_goals (clear hown1 hgrow hat hg1 FN HOA)
    all_goals go_wp2
    all_goals go_roundw
    all_goals first | exact ⟨j + 1,by omega,by go_num,H2.out⟩ | (simp [intOf];omega)
  ·have e1 : j = n:=by omega
   subst e1
   rw [List.take_of_length_le (by rw [List.length_map,HLY.out];omega)] at hown
   have F:=hideIt (And.intro (own_low hown (by rw [HM.out];exact ON1.out.size)) (ON1.out.same (only_of_below (by rw [← HM.out];exact hbel))))
   clear hown hbel
   go_wp2
   go_ret2
   exact ⟨_,rfl,F.out⟩
theorem rdiff_in (v : Value) (xs : List Int) (k : Nat) (w : World) (hb : Bs .i64 w v xs) (nc : NoCap v) (hl : xs.length ≤ 1000000) (hg : ∀ x ∈ xs,G64 x) (hk : k ≤ 3) :
  Calls Tryz.prog 74 #[v,.int .i64 k] w fun e w' => ∃ v',e = .returned (.tuple #[v',.int .i64 0]) ∧ w'.ownsRow w.heap.size 3 1 v' xs.length ((D k xs).map (Value.int .i64)) ∧ Only (fun _ => False) w w':=by
 induction k with
 | zero => exact rdiff_zero v xs w hb nc hl
 | succ k ih => exact rdiff_succ v xs k w hl hg hk (ih (by omega))
end Go.Proofs.YthapipgaohlgdaaGreatDoor


namespace Go.Proofs.YthapipgaohlgdaaGreatDoor
set_option maxRecDepth 100000
open Go.RowKit
set_option maxHeartbeats 800000 in
theorem rzigs_any (v : Value) (l : List Int) (w : World) (h : Bs .i64 w v l) (hg : I64s l) (hl : l.length ≤ 65536) :
  Calls Tryz.prog 75 #[v] w fun e w' => ∃ u,e = .returned u ∧ w'.ownsRow w.heap.size 42 1 u (zsn l).length ((zsn l).map (Value.int .u64)) ∧ Only (fun _ => False) w w':=by
 obtain ⟨i0,hi,hz0,hz1,hz2⟩:=info_parts Tryz.infoU64
 have HB:=hideIt h
 have HG:=hideIt hg
 obtain ⟨ao,cap,rfl⟩:=h.len
 obtain ⟨n,hn⟩ : ∃ n,n = l.length:=⟨_,rfl⟩
 rw [← hn] at hl HB
 rw [← hn]
 have HN:=hideIt hn
 clear h hn hg
 go_enter Tryz.func75,Tryz.ntmps75
 go_wp2
 go_loopw [3,4] (fun s i wr => ∃ k : Nat,k ≤ n ∧ i = .int .i64 k ∧ wr.ownsRow w.heap.size 42 1 s k ((zsn (l.take k)).map (Value.int .u64)) ∧ Only (fun _ => False) w wr) (fun _ i _ => n - (intOf i).toNat)
 case atStart => exact ⟨0,Nat.zero_le _,rfl,World.ownsRow_nil _ _ _ _,Only.refl _ _⟩
 case round =>
  obtain ⟨k,hk,rfl,hown,hon⟩:=hrel
  have HOWN:=hideIt hown
  have HON:=hideIt hon
  by_cases hlt : k < n
  ·have dlt : decide ((k : Int) < (n : Int)) = true:=by simp;omega
   have hkl : k < l.length:=by rw [← HN.out];exact hlt
   obtain ⟨b,off,cap',e1,hc0⟩:=(HB.out.past hon).at k hkl
   have ea : ao = some ⟨b,off,none⟩:=by simp at e1;exact e1.1
   subst ea
   clear e1
   have hx:=HG.out (l.getD k 0) (getD_mem0 l k hkl)
   have HST : Hid ((zsn (l.take (k + 1))).map (Value.int .u64) = (zsn (l.take k)).map (Value.int .u64) ++ [.int .u64 (zig (l.getD k 0))]):=by
    simp only [Hid];rw [take_snoc l k hkl];simp [zsn]
   have ZK:=hideIt (rzig_any (l.getD k 0) wr hx.1 hx.2)
   generalize l.getD k 0 = z at *
   have own2:=HOWN.out
   have hsz:=HON.out.size
   clear hown hon HB HG hkl hx
   go_wp2_with fail
   refine ZK.out.mono ?_
   rintro e w2 ⟨rfl,rfl⟩
   clear ZK
   generalize zig z = q at *
   go_wp2_with (at_builtin;refine wpList_append_lies _ rfl _ _ _ rfl w.heap.size 42 i0 (.int .u64 0) 1 8 Tryz.underlying46 hi hz0 hz1 hz2 rfl (by omega) _ k _ rfl (own2.alloc _) ⟨wr.heap.size,0,none⟩ 1 1 [.int .u64 q] rfl rfl ?c1 ?c2 (by omega) ?c3 ?c4 ?c5 (wr.heap.size + 1) (by simp) ?_)
   case c1 => exact cell_one_new _ _ _
   case c2 => intro u hu;simp at hu;subst hu;rfl
   case c3 => unfold maxLen;omega
   case c4 => omega
   case c5 => simp;omega
   intro gg cap1 w3 hown1 hgrow hat hg1
   have o3:=hideIt ((HON.out.alloc _).grown hgrow (fun p hp0 hp => absurd (own2.lt p hp).1 (by omega)))
   have own3 : Hid (w3.ownsRow w.heap.size 42 1 (.slice (some ⟨gg,0,none⟩) (k + 1) cap1) (k + 1) ((zsn (l.take (k + 1))).map (Value.int .u64))):=by
    simp only [Hid]
    rw [HST.out];exact hown1
   clear own2 hown1 hgrow hat
   go_wp2
   go_roundw
   case rel => exact ⟨k + 1,by omega,by go_num,own3.out,o3.out⟩
   case measure => simp [intOf];omega
  ·obtain rfl : k = n:=by omega
   have dlt : decide ((k : Int) < (k : Int)) = false:=by simp
   have F : Hid (wr.ownsRow w.heap.size 42 1 u3 (zsn l).length ((zsn l).map (Value.int .u64))):=by
    have h1:=HOWN.out
    rw [HN.out,List.take_length] at h1
    simp only [Hid]
    rw [zsn_length];exact h1
   clear hown hon
   go_wp2
   go_ret
   exact ⟨_,rfl,F.out,HON.out⟩
theorem rencode_all6 (v : Value) (xs : List Int) (w : World) (h : Bs .u64 w v xs) (hu : U64 xs) (hl : xs.length ≤ 65536) :
  Calls Tryz.prog 111 #[v] w fun e w' => ∃ v',e = .returned (.tuple #[v',.int .i64 (ENC xs).2]) ∧ w'.ownsRow w.heap.size 5 1 v' (ENC xs).1.length ((ENC xs).1.map (Value.int .u8)) ∧ Only (fun _ => False) w w':=by
 unfold ENC
 rw [if_neg (by omega)]
 by_cases hs : small 60 xs = true
 ·rw [if_pos hs]
  exact rencode_bs v xs w h (small_up hs (fun x hx => (hu x hx).1)) hl
 ·rw [if_neg hs]
  refine (rencode_arg v xs w h hu hl (by simpa using hs)).mono ?_
  rintro e w' ⟨rfl,rfl⟩
  exact ⟨_,rfl,World.ownsRow_nil _ _ _ _,Only.refl _ _⟩
set_option maxHeartbeats 400000 in
theorem roth_two (v : Value) (z : List Int) (w : World) (h : Bs .u64 w v z) (hu : U64 z) (hl : z.length ≤ 700) :
  Calls Tryz.prog 76 #[v,.int .i64 2] w fun e w' => ∃ u,e = .returned (.tuple #[u,.int .i64 (WOTH z 2).2]) ∧ w'.ownsRow w.heap.size 5 1 u (WOTH z 2).1.length ((WOTH z 2).1.map (Value.int .u8)) ∧ Only (fun _ => False) w w':=by
 have A:=hideIt (rpack_bs v z w h hu hl)
 obtain ⟨ao,cap,rfl⟩:=h.len
 clear h hu hl
 go_enter Tryz.func76,Tryz.ntmps76
 go_wp2_with fail
 refine A.out.mono ?_
 rintro e w1 ⟨u,rfl,own1,o1⟩
 have F:=hideIt (And.intro own1 o1)
 obtain ⟨f1,c1,e1⟩:=(Bs.of_own own1).len
 subst e1
 clear A own1 o1
 go_wp2
 try rw [Exit.noGoto_ret]
 go_ret2
 exact ⟨_,rfl,F.out.1,F.out.2⟩
set_option maxHeartbeats 400000 in
theorem roth_three (v : Value) (z : List Int) (w : World) (h : Bs .u64 w v z) (hu : U64 z) (hl : z.length ≤ 700) :
  Calls Tryz.prog 76 #[v,.int .i64 3] w fun e w' => ∃ u,e = .returned (.tuple #[u,.int .i64 (WOTH z 3).2]) ∧ w'.ownsRow w.heap.size 5 1 u (WOTH z 3).1.length ((WOTH z 3).1.map (Value.int .u8)) ∧ Only (fun _ => False) w w':=by
 have A:=hideIt (rencode_all6 v z w h hu (by omega))
 obtain ⟨ao,cap,rfl⟩:=h.len
 clear h hu hl
 go_enter Tryz.func76,Tryz.ntmps76
 go_wp2_with fail
 refine A.out.mono ?_
 rintro e w1 ⟨u,rfl,own1,o1⟩
 have F:=hideIt (And.intro own1 o1)
 obtain ⟨f1,c1,e1⟩:=(Bs.of_own own1).len
 subst e1
 clear A own1 o1
 go_wp2
 try rw [Exit.noGoto_ret]
 go_ret2
 exact ⟨_,rfl,F.out.1,F.out.2⟩
set_option maxHeartbeats 400000 in
theorem roth_four (v : Value) (z : List Int) (w : World) (h : Bs .u64 w v z) (hu : U64 z) (hl : z.length ≤ 700) :
  Calls Tryz.prog 76 #[v,.int .i64 4] w fun e w' => ∃ u,e = .returned (.tuple #[u,.int .i64 (WOTH z 4).2]) ∧ w'.ownsRow w.heap.size 5 1 u (WOTH z 4).1.length ((WOTH z 4).1.map (Value.int .u8)) ∧ Only (fun _ => False) w w':=by
 have A:=hideIt (run_rencode_bs v z w h hu (by omega))
 obtain ⟨ao,cap,rfl⟩:=h.len
 clear h hu hl
 go_enter Tryz.func76,Tryz.ntmps76
 go_wp2_with fail
 refine A.out.mono ?_
 rintro e w1 ⟨u,rfl,own1,o1⟩
 have F:=hideIt (And.intro own1 o1)
 obtain ⟨f1,c1,e1⟩:=(Bs.of_own own1).len
 subst e1
 clear A own1 o1
 go_wp2
 try rw [Exit.noGoto_ret]
 go_ret2
 exact ⟨_,rfl,F.out.1,F.out.2⟩
set_option maxHeartbeats 400000 in
theorem rway_arg (v : Value) (tag : Int) (w : World) (ht : tag < 0 ∨ 4 < tag) :
  Calls Tryz.prog 43 #[v,.int .i64 tag] w fun e w' => e = .returned (.tuple #[.slice none 0 0,.int .i64 1]) ∧ w = w':=by
 by_cases h0 : tag < 0
 ·have d0 : decide (tag < 0) = true:=decide_eq_true h0
  clear ht h0
  go_enter Tryz.func43,Tryz.ntmps43
  go_wp2
  try rw [Exit.noGoto_ret]
  go_ret2
  exact ⟨rfl,rfl⟩
 ·have d0 : decide (tag < 0) = false:=decide_eq_false h0
  have d1 : decide (4 < tag) = true:=decide_eq_true (by omega)
  clear ht h0
  go_enter Tryz.func43,Tryz.ntmps43
  go_wp2
  try rw [Exit.noGoto_ret]
  go_ret2
  exact ⟨rfl,rfl⟩
set_option maxHeartbeats 400000 in
theorem rway_long (v : Value) (l : List Int) (t : Nat) (w : World) (h : Bs .i64 w v l) (hl : 65536 < l.length) (ht : t ≤ 4) :
  Calls Tryz.prog 43 #[v,.int .i64 t] w fun e w' => e = .returned (.tuple #[.slice none 0 0,.int .i64 4]) ∧ w = w':=by
 obtain ⟨ao,cap,rfl⟩:=h.len
 have d0 : decide ((65536 : Int) < l.length) = true:=decide_eq_true (by omega)
 have d1 : decide ((t : Int) < 0) = false:=decide_eq_false (by omega)
 have d2 : decide (4 < (t : Int)) = false:=decide_eq_false (by omega)
 clear h hl ht
 generalize l.length = n at *
 go_enter Tryz.func43,Tryz.ntmps43
 go_wp2
 try rw [Exit.noGoto_ret]
 go_ret2
 exact ⟨rfl,rfl⟩
set_option maxHeartbeats 400000 in
theorem rway_nil (v : Value) (t : Nat) (w : World) (h : Bs .i64 w v []) (ht : t ≤ 4) :
  Calls Tryz.prog 43 #[v,.int .i64 t] w fun e w' => e = .returned (.tuple #[.slice none 0 0,.int .i64 0]) ∧ w = w':=by
 obtain ⟨ao,cap,e0⟩:=h.len
 rw [List.length_nil] at e0
 subst e0
 have d1 : decide ((t : Int) < 0) = false:=decide_eq_false (by omega)
 have d2 : decide (4 < (t : Int)) = false:=decide_eq_false (by omega)
 clear h ht
 go_enter Tryz.func43,Tryz.ntmps43
 go_wp2
 try rw [Exit.noGoto_ret]
 go_ret2
 exact ⟨rfl,rfl⟩
set_option maxHeartbeats 800000 in
theorem rway_zero (v : Value) (l : List Int) (w : World) (h : Bs .i64 w v l) (hl : l.length ≤ 65536) (hp : 0 < l.length) :
  Calls Tryz.prog 43 #[v,.int .i64 0] w fun e w' => ∃ u,e = .returned (.tuple #[u,.int .i64 0]) ∧ w'.ownsRow w.heap.size 5 1 u (fx l).length ((fx l).map (Value.int .u8)) ∧ Only (fun _ => False) w w':=by
 obtain ⟨i0,hi,hz0,hz1,hz2⟩:=info_parts Tryz.infoU8
 have HB:=hideIt h
 obtain ⟨ao,cap,rfl⟩:=h.len
 obtain ⟨n,hn⟩ : ∃ n,n = l.length:=⟨_,rfl⟩
 rw [← hn] at hl HB hp
 rw [← hn]
 have HN:=hideIt hn
 have d0 : decide ((65536 : Int) < n) = false:=decide_eq_false (by omega)
 have d1 : ((n : Int) == 0) = false:=by rw [beq_eq_false_iff_ne];omega
 clear h hn
 go_enter Tryz.func43,Tryz.ntmps43
 go_wp2
 go_loopw [6,7] (fun s i wr => ∃ k : Nat,k ≤ n ∧ i = .int .i64 k ∧ wr.ownsRow w.heap.size 5 1 s (fx (l.take k)).length ((fx (l.take k)).map (Value.int .u8)) ∧ Only (fun _ => False) w wr) (fun _ i _ => n - (intOf i).toNat)
 case atStart => exact ⟨0,Nat.zero_le _,rfl,World.ownsRow_nil _ _ _ _,Only.refl _ _⟩
 case round =>
  obtain ⟨k,hk,rfl,hown,hon⟩:=hrel
  have HOWN:=hideIt hown
  have HON:=hideIt hon
  by_cases hlt : k < n
  ·have dlt : decide ((k : Int) < (n : Int)) = true:=by simp;omega
   have hkl : k < l.length:=by rw [← HN.out];exact hlt
   obtain ⟨b,off,cap',e1,hc0⟩:=(HB.out.past hon).at k hkl
   have ea : ao = some ⟨b,off,none⟩:=by simp at e1;exact e1.1
   subst ea
   clear e1
   have HST:=hideIt (fx_take l k hkl)
   have HFL : Hid ((fx (l.take k)).length ≤ 8 * n):=by
    simp only [Hid];rw [fx_length,List.length_take];omega
   obtain ⟨f1,hf1⟩ : ∃ f1,f1 = fx (l.take (k + 1)):=⟨_,rfl⟩
   rw [← hf1] at HST
   have HF1:=hideIt hf1
   clear hf1
   generalize fx (l.take k) = f0 at *
   generalize l.getD k 0 = x at *
   clear hown hon HB hkl
   go_wp2_with fail
   refine (rfix_any _ 8 wr (by omega)).mono ?_
   rintro e w4 ⟨u,rfl,own4,o4⟩
   rw [IntKind.wrap_u64] at own4
   have ow:=o4.own HOWN.out (fun _ _ f => f)
   have hb4:=Bs.of_own own4
   have NC4:=hideIt (NoCap.of_own own4)
   have HB4:=hideIt hb4
   have hs4 : w.heap.size ≤ w4.heap.size:=Nat.le_trans HON.out.size o4.size
   have O4:=hideIt (HON.out.trans o4 (fun _ _ f => f))
   obtain ⟨a4,c4,e4⟩:=hb4.len
   subst e4
   clear o4 own4 HON HOWN hb4
   rw [fixL_len] at HB4 NC4
   go_wp2_with (at_builtin;refine wpList_append_bs _ rfl _ _ _ rfl w.heap.size 5 i0 (.int .u8 0) 1 Tryz.underlying26 hi hz0 hz1 hz2 rfl _ _ _ rfl ow .u8 _ (fixL (x % 18446744073709551616) 8) rfl HB4.out NC4.out ?c3 ?c4 hs4 ?_)
   case c3 => have:=HFL.out;rw [fixL_len];unfold maxLen;omega
   case c4 => have:=HFL.out;rw [fixL_len];omega
   intro v6 w6 own6 hgrow6 _ _
   have OWN6 : Hid (w6.ownsRow w.heap.size 5 1 v6 f1.length (f1.map (Value.int .u8))):=by
    simp only [Hid];rw [HST.out,List.length_append,List.map_append];exact own6
   have O6:=hideIt (O4.out.grown hgrow6 (fun k hk e => absurd (ow.lt k e).1 (by omega)))
   clear ow own6 hgrow6
   go_wp2
   go_roundw
   case rel => exact ⟨k + 1,by omega,by go_num,by rw [← HF1.out];exact OWN6.out,O6.out⟩
   case measure => simp [intOf];omega
  ·obtain rfl : k = n:=by omega
   have dlt : decide ((k : Int) < (k : Int)) = false:=by simp
   rw [HN.out,List.take_length] at HOWN
   clear hown hon
   go_wp2
   try rw [Exit.noGoto_ret]
   go_ret2
   exact ⟨_,rfl,HOWN.out,HON.out⟩
set_option maxHeartbeats 800000 in
theorem rway_one (v : Value) (l : List Int) (w : World) (h : Bs .i64 w v l) (nc : NoCap v) (hg : I64s l) (hl : l.length ≤ 65536) (hp : 0 < l.length) :
  Calls Tryz.prog 43 #[v,.int .i64 1] w fun e w' => ∃ u,e = .returned (.tuple #[u,.int .i64 0]) ∧ w'.ownsRow w.heap.size 5 1 u (allG (zsn (D 1 l))).length ((allG (zsn (D 1 l))).map (Value.int .u8)) ∧ Only (fun _ => False) w w':=by
 have DF:=hideIt (rdiff_in v l 1 w h nc (by omega) hg (by omega))
 have HDL:=hideIt (D_length 1 l)
 have HDG:=hideIt (D_i64 hg 1)
 have HZU:=hideIt (zD_u64 hg 1)
 obtain ⟨ao,cap,rfl⟩:=h.len
 obtain ⟨n,hn⟩ : ∃ n,n = l.length:=⟨_,rfl⟩
 rw [← hn] at hl hp DF HDL
 rw [← hn]
 have d0 : decide ((65536 : Int) < n) = false:=decide_eq_false (by omega)
 have d1 : ((n : Int) == 0) = false:=by rw [beq_eq_false_iff_ne];omega
 clear h hn hg nc
 generalize D 1 l = d at *
 have HZL : Hid ((zsn d).length = n):=by simp only [Hid];rw [zsn_length];exact HDL.out
 obtain ⟨z,hz⟩ : ∃ z,z = zsn d:=⟨_,rfl⟩
 rw [← hz] at HZU HZL
 rw [← hz]
 have HZD:=hideIt hz
 clear hz
 go_enter Tryz.func43,Tryz.ntmps43
 go_wp2_with fail
 refine DF.out.mono ?_
 rintro e w1 ⟨v1,rfl,own1,o1⟩
 clear DF
 have hb1 : Bs .i64 w1 v1 d:=Bs.of_own (by rw [HDL.out];exact own1)
 have ZG:=hideIt (rzigs_any v1 d w1 hb1 HDG.out (by rw [HDL.out];omega))
 rw [← HZD.out] at ZG
 obtain ⟨a1,cap1,e1⟩:=hb1.len
 rw [HDL.out] at e1
 subst e1
 have HO1:=hideIt o1
 clear own1 o1 hb1
 go_wp2_with fail
 refine ZG.out.mono ?_
 rintro e w2 ⟨v2,rfl,own2,o2⟩
 clear ZG
 have HO2:=hideIt (HO1.out.same o2)
 have HB2:=hideIt (Bs.of_own own2)
 obtain ⟨a2,c2,e2⟩:=HB2.out.len
 rw [HZL.out] at e2
 subst e2
 clear own2 o2
 go_wp2
 go_loopw [6,12] (fun s i wr => ∃ k : Nat,k ≤ n ∧ i = .int .i64 k ∧ wr.ownsRow w.heap.size 5 1 s (allG (z.take k)).length ((allG (z.take k)).map (Value.int .u8)) ∧ Only (fun _ => False) w2 wr) (fun _ i _ => n - (intOf i).toNat)
 case atStart => exact ⟨0,Nat.zero_le _,rfl,World.ownsRow_nil _ _ _ _,Only.refl _ _⟩
 case round =>
  obtain ⟨k,hk,rfl,hown,hon⟩:=hrel
  have HOWN:=hideIt hown
  have HON:=hideIt hon
  by_cases hlt : k < n
  ·have dlt : decide ((k : Int) < (n : Int)) = true:=by simp;omega
   have hkl : k < z.length:=by rw [HZL.out];exact hlt
   obtain ⟨b,off,cap',e1,hc0⟩:=(HB2.out.past hon).at k hkl
   have ea : a2 = some ⟨b,off,none⟩:=by simp at e1;exact e1.1
   subst ea
   clear e1
   have hx:=HZU.out (z.getD k 0) (getD_mem0 z k hkl)
   have HST:=hideIt (allG_take z k hkl)
   have HFL : Hid ((allG (z.take k)).length ≤ 10 * n):=by
    simp only [Hid]
    have:=allG_le z k HZU.out
    rw [HZL.out] at this
    exact this
   have AP:=hideIt (rappend_any u6 (allG (z.take k)) (z.getD k 0) wr (Bs.of_own hown) (NoCap.of_own hown) (by have:=HFL.out;omega) hx.1 hx.2)
   obtain ⟨a6,c6,e6⟩:=(Bs.of_own hown).len
   subst e6
   obtain ⟨f1,hf1⟩ : ∃ f1,f1 = allG (z.take (k + 1)):=⟨_,rfl⟩
   rw [← hf1] at HST
   have HF1:=hideIt hf1
   rw [← HST.out] at AP
   clear hf1 HST
   generalize allG (z.take k) = f0 at *
   generalize z.getD k 0 = x at *
   clear hown hon HB2 hkl hx HOWN
   go_wp2_with fail
   refine AP.out.mono ?_
   rintro e w4 ⟨u,rfl,own4,o4⟩
   have OWN4:=hideIt (own_low own4 (Nat.le_trans HO2.out.size HON.out.size))
   have O4:=hideIt (HON.out.same o4)
   clear o4 own4 AP
   go_wp2
   go_roundw
   case rel => exact ⟨k + 1,by omega,by go_num,by rw [← HF1.out];exact OWN4.out,O4.out⟩
   case measure => simp [intOf];omega
  ·obtain rfl : k = n:=by omega
   have dlt : decide ((k : Int) < (k : Int)) = false:=by simp
   have F : Hid (wr.ownsRow w.heap.size 5 1 u6 (allG z).length ((allG z).map (Value.int .u8))):=by
    have h1:=HOWN.out
    rw [← HZL.out,List.take_length] at h1
    exact h1
   clear hown hon
   go_wp2
   try rw [Exit.noGoto_ret]
   go_ret2
   exact ⟨_,rfl,F.out,HO2.out.same HON.out⟩
set_option maxHeartbeats 1600000 in
theorem rway_two (v : Value) (l : List Int) (w : World) (h : Bs .i64 w v l) (nc : NoCap v) (hg : I64s l) (hl : l.length ≤ 700) (hp : 0 < l.length) :
  Calls Tryz.prog 43 #[v,.int .i64 2] w fun e w' => ∃ u,e = .returned (.tuple #[u,.int .i64 (WAY l 2).2]) ∧ w'.ownsRow w.heap.size 5 1 u (WAY l 2).1.length ((WAY l 2).1.map (Value.int .u8)) ∧ Only (fun _ => False) w w':=by
 obtain ⟨i0,hi,hz0,hz1,hz2⟩:=info_parts Tryz.infoU8
 have DF:=hideIt (rdiff_in v l 1 w h nc (by omega) hg (by omega))
 have HDL:=hideIt (D_length 1 l)
 have HDG:=hideIt (D_i64 hg 1)
 have HZU:=hideIt (zD_u64 hg 1)
 have WO : Hid (∀ (u : Value) (w2 : World),Bs .u64 w2 u ((zsn (D 1 l)).drop 1) → Calls Tryz.prog 76 #[u,.int .i64 2] w2 fun e w' => ∃ u',e = .returned (.tuple #[u',.int .i64 (WOTH ((zsn (D 1 l)).drop 1) 2).2]) ∧ w'.ownsRow w2.heap.size 5 1 u' (WOTH ((zsn (D 1 l)).drop 1) 2).1.length ((WOTH ((zsn (D 1 l)).drop 1) 2).1.map (Value.int .u8)) ∧ Only (fun _ => False) w2 w') :=
  fun u w2 hb => roth_two u _ w2 hb ((zD_u64 hg _).drop 1) (by rw [List.length_drop,zD_length];omega)
 have HWL:=hideIt (WOTH_len (z:=(zsn (D 1 l)).drop 1) ((zD_u64 hg _).drop 1) (by rw [List.length_drop,zD_length];omega) 2)
 have HWAY : Hid (WAY l 2 = if (WOTH ((zsn (D 1 l)).drop 1) 2).2 ≠ 0 then ([],(WOTH ((zsn (D 1 l)).drop 1) 2).2) else (gs ((zsn (D 1 l)).getD 0 0).toNat ++ (WOTH ((zsn (D 1 l)).drop 1) 2).1,0)):=by
  simp only [Hid]
  unfold WAY
  rw [if_neg (List.length_pos_iff.1 hp),if_neg (by omega)]
  rfl
 obtain ⟨ao,cap,rfl⟩:=h.len
 obtain ⟨n,hn⟩ : ∃ n,n = l.length:=⟨_,rfl⟩
 rw [← hn] at hl hp DF HDL
 rw [← hn]
 have d0 : decide ((65536 : Int) < n) = false:=decide_eq_false (by omega)
 have d1 : ((n : Int) == 0) = false:=by rw [beq_eq_false_iff_ne];omega
 clear h hn hg nc
 generalize WAY l 2 = Wl at *
 generalize D 1 l = d at *
 have HZL : Hid ((zsn d).length = n):=by simp only [Hid];rw [zsn_length];exact HDL.out
 generalize hWO : WOTH ((zsn d).drop 1) 2 = W at *
 clear hWO
 obtain ⟨W1,c⟩:=W
 simp only at WO HWL HWAY
 go_enter Tryz.func43,Tryz.ntmps43
 go_wp2_with fail
 refine DF.out.mono ?_
 rintro e w1 ⟨v1,rfl,own1,o1⟩
 clear DF
 have hb1 : Bs .i64 w1 v1 d:=Bs.of_own (by rw [HDL.out];exact own1)
 have ZG:=hideIt (rzigs_any v1 d w1 hb1 HDG.out (by rw [HDL.out];omega))
 obtain ⟨a1,cap1,e1⟩:=hb1.len
 rw [HDL.out] at e1
 subst e1
 have HO1:=hideIt o1
 clear own1 o1 hb1
 go_wp2_with fail
 refine ZG.out.mono ?_
 rintro e w2 ⟨v2,rfl,own2,o2⟩
 clear ZG
 have HO2:=hideIt (HO1.out.same o2)
 have hb2:=Bs.of_own own2
 have HB2:=hideIt hb2
 obtain ⟨a2,c2,e2⟩:=hb2.len
 rw [HZL.out] at e2
 subst e2
 generalize zsn d = z at *
 have hc2 : n ≤ c2:=by
  obtain ⟨ao',cap',e2,hc,_⟩:=hb2
  rw [HZL.out] at hc
  simp at e2
  omega
 have hx:=HZU.out (z.getD 0 0) (getD_mem0 z 0 (by rw [HZL.out];omega))
 obtain ⟨b,off,cap',e4,cell0⟩:=hb2.at 0 (by rw [HZL.out];omega)
 have ea : a2 = some ⟨b,off,none⟩:=by simp at e4;exact e4.1
 subst ea
 clear e4
 rw [Nat.add_zero] at cell0
 have AP:=hideIt (rappend_any (.slice none 0 0) [] (z.getD 0 0) w2 (Bs.nil _ _) NoCap.nil (by simp) hx.1 hx.2)
 have HG10:=hideIt (gs_le10 (v:=(z.getD 0 0).toNat) (by omega))
 rw [List.nil_append] at AP
 generalize z.getD 0 0 = x at *
 generalize gs x.toNat = g at *
 clear own2 o2 hb2 hx
 go_wp2_with fail
 refine AP.out.mono ?_
 rintro e w3 ⟨v3,rfl,own3,o3⟩
 clear AP
 have OW3:=hideIt (own_low own3 HO2.out.size)
 have HO3:=hideIt (HO2.out.same o3)
 have HB3:=hideIt (HB2.out.past o3)
 obtain ⟨f3,c3,e3⟩:=(Bs.of_own own3).len
 subst e3
 clear own3 o3 HB2
 have j0 : (1 : Int) ≤ (n : Int):=by omega
 have j1 : (1 : Int) ≤ (c2 : Int):=by omega
 by_cases hcc : c2 = 1
 ·subst hcc
  obtain rfl : n = 1:=by omega
  have hb3 : Bs .u64 w3 (.slice (some ⟨b,off,none⟩) 0 0) (z.drop 1):=by have:=HB3.out.cut0 (n:=1) (by omega);simpa using this
  have W2:=hideIt (WO.out _ w3 hb3)
  clear hb3
  go_wp2_with fail
  refine W2.out.mono ?_
  rintro e w4 ⟨v4,rfl,own4,o4⟩
  clear W2
  have HO4:=hideIt (HO3.out.same o4)
  have OW4:=hideIt (o4.own OW3.out (fun _ _ f => f))
  have HB4:=hideIt (Bs.of_own own4)
  have NC4:=hideIt (NoCap.of_own own4)
  obtain ⟨f4,c4,e4⟩:=(Bs.of_own own4).len
  subst e4
  have hs4 : w.heap.size ≤ w4.heap.size:=HO4.out.size
  clear own4 o4
  by_cases hc : c = 0
  ·subst hc
   have ow:=OW4.out
   rw [if_neg (by simp)] at HWAY
   obtain ⟨gw,hgw⟩ : ∃ gw,gw = g ++ W1:=⟨_,rfl⟩
   rw [← hgw] at HWAY
   have HGW:=hideIt hgw
   have eW:=HWAY.out
   subst eW
   clear hgw HWAY OW4
   go_wp2_with (at_builtin;refine wpList_append_bs _ rfl _ _ _ rfl w.heap.size 5 i0 (.int .u8 0) 1 Tryz.underlying26 hi hz0 hz1 hz2 rfl _ _ _ rfl ow .u8 _ W1 rfl HB4.out NC4.out ?c3 ?c4 hs4 ?_)
   case c3 => have:=HWL.out;have:=HG10.out;unfold maxLen;omega
   case c4 => have:=HWL.out;have:=HG10.out;omega
   intro v6 w6 own6 hgrow6 _ _
   have OWN6 : Hid (w6.ownsRow w.heap.size 5 1 v6 gw.length (gw.map (Value.int .u8))):=by
    simp only [Hid];rw [HGW.out,List.length_append,List.map_append];exact own6
   have O6:=hideIt (HO4.out.grown hgrow6 (fun k hk e => absurd (ow.lt k e).1 (by omega)))
   obtain ⟨f6,c6,e6⟩:=(Bs.of_own OWN6.out).len
   subst e6
   clear ow own6 hgrow6
   go_wp2
   try rw [Exit.noGoto_ret]
   go_ret2
   exact ⟨_,rfl,OWN6.out,O6.out⟩
  ·have dc : (c != 0) = true:=by simp;exact hc
   rw [if_pos hc] at HWAY
   have eW:=HWAY.out
   subst eW
   clear HWAY
   go_wp2
   try rw [Exit.noGoto_ret]
   go_ret2
   exact ⟨_,rfl,World.ownsRow_nil _ _ _ _,HO4.out⟩
 ·have hcx : ¬ ((c2 : Int) - 1 = 0):=by omega
  have hb3 : Bs .u64 w3 (.slice (some ((⟨b,off,none⟩ : Addr).add 1)) (n - 1) (c2 - 1)) (z.drop 1):=by have:=HB3.out.cut (n:=1) (by omega);simpa using this
  have W2:=hideIt (WO.out _ w3 hb3)
  clear hb3
  go_wp2_with fail
  refine W2.out.mono ?_
  rintro e w4 ⟨v4,rfl,own4,o4⟩
  clear W2
  have HO4:=hideIt (HO3.out.same o4)
  have OW4:=hideIt (o4.own OW3.out (fun _ _ f => f))
  have HB4:=hideIt (Bs.of_own own4)
  have NC4:=hideIt (NoCap.of_own own4)
  obtain ⟨f4,c4,e4⟩:=(Bs.of_own own4).len
  subst e4
  have hs4 : w.heap.size ≤ w4.heap.size:=HO4.out.size
  clear own4 o4
  by_cases hc : c = 0
  ·subst hc
   have ow:=OW4.out
   rw [if_neg (by simp)] at HWAY
   obtain ⟨gw,hgw⟩ : ∃ gw,gw = g ++ W1:=⟨_,rfl⟩
   rw [← hgw] at HWAY
   have HGW:=hideIt hgw
   have eW:=HWAY.out
   subst eW
   clear hgw HWAY OW4
   go_wp2_with (at_builtin;refine wpList_append_bs _ rfl _ _ _ rfl w.heap.size 5 i0 (.int .u8 0) 1 Tryz.underlying26 hi hz0 hz1 hz2 rfl _ _ _ rfl ow .u8 _ W1 rfl HB4.out NC4.out ?c3 ?c4 hs4 ?_)
   case c3 => have:=HWL.out;have:=HG10.out;unfold maxLen;omega
   case c4 => have:=HWL.out;have:=HG10.out;omega
   intro v6 w6 own6 hgrow6 _ _
   have OWN6 : Hid (w6.ownsRow w.heap.size 5 1 v6 gw.length (gw.map (Value.int .u8))):=by
    simp only [Hid];rw [HGW.out,List.length_append,List.map_append];exact own6
   have O6:=hideIt (HO4.out.grown hgrow6 (fun k hk e => absurd (ow.lt k e).1 (by omega)))
   obtain ⟨f6,c6,e6⟩:=(Bs.of_own OWN6.out).len
   subst e6
   clear ow own6 hgrow6
   go_wp2
   try rw [Exit.noGoto_ret]
   go_ret2
   exact ⟨_,rfl,OWN6.out,O6.out⟩
  ·have dc : (c != 0) = true:=by simp;exact hc
   rw [if_pos hc] at HWAY
   have eW:=HWAY.out
   subst eW
   clear HWAY
   go_wp2
   try rw [Exit.noGoto_ret]
   go_ret2
   exact ⟨_,rfl,World.ownsRow_nil _ _ _ _,HO4.out⟩
set_option maxHeartbeats 1600000 in
theorem rway_three (v : Value) (l : List Int) (w : World) (h : Bs .i64 w v l) (nc : NoCap v) (hg : I64s l) (hl : l.length ≤ 700) (hp : 0 < l.length) :
  Calls Tryz.prog 43 #[v,.int .i64 3] w fun e w' => ∃ u,e = .returned (.tuple #[u,.int .i64 (WAY l 3).2]) ∧ w'.ownsRow w.heap.size 5 1 u (WAY l 3).1.length ((WAY l 3).1.map (Value.int .u8)) ∧ Only (fun _ => False) w w':=by
 obtain ⟨i0,hi,hz0,hz1,hz2⟩:=info_parts Tryz.infoU8
 have DF:=hideIt (rdiff_in v l 2 w h nc (by omega) hg (by omega))
 have HDL:=hideIt (D_length 2 l)
 have HDG:=hideIt (D_i64 hg 2)
 have HZU:=hideIt (zD_u64 hg 2)
 have WO : Hid (∀ (u : Value) (w2 : World),Bs .u64 w2 u ((zsn (D 2 l)).drop 1) → Calls Tryz.prog 76 #[u,.int .i64 3] w2 fun e w' => ∃ u',e = .returned (.tuple #[u',.int .i64 (WOTH ((zsn (D 2 l)).drop 1) 3).2]) ∧ w'.ownsRow w2.heap.size 5 1 u' (WOTH ((zsn (D 2 l)).drop 1) 3).1.length ((WOTH ((zsn (D 2 l)).drop 1) 3).1.map (Value.int .u8)) ∧ Only (fun _ => False) w2 w') :=
  fun u w2 hb => roth_three u _ w2 hb ((zD_u64 hg _).drop 1) (by rw [List.length_drop,zD_length];omega)
 have HWL:=hideIt (WOTH_len (z:=(zsn (D 2 l)).drop 1) ((zD_u64 hg _).drop 1) (by rw [List.length_drop,zD_length];omega) 3)
 have HWAY : Hid (WAY l 3 = if (WOTH ((zsn (D 2 l)).drop 1) 3).2 ≠ 0 then ([],(WOTH ((zsn (D 2 l)).drop 1) 3).2) else (gs ((zsn (D 2 l)).getD 0 0).toNat ++ (WOTH ((zsn (D 2 l)).drop 1) 3).1,0)):=by
  simp only [Hid]
  unfold WAY
  rw [if_neg (List.length_pos_iff.1 hp),if_neg (by omega)]
  rfl
 obtain ⟨ao,cap,rfl⟩:=h.len
 obtain ⟨n,hn⟩ : ∃ n,n = l.length:=⟨_,rfl⟩
 rw [← hn] at hl hp DF HDL
 rw [← hn]
 have d0 : decide ((65536 : Int) < n) = false:=decide_eq_false (by omega)
 have d1 : ((n : Int) == 0) = false:=by rw [beq_eq_false_iff_ne];omega
 clear h hn hg nc
 generalize WAY l 3 = Wl at *
 generalize D 2 l = d at *
 have HZL : Hid ((zsn d).length = n):=by simp only [Hid];rw [zsn_length];exact HDL.out
 generalize hWO : WOTH ((zsn d).drop 1) 3 = W at *
 clear hWO
 obtain ⟨W1,c⟩:=W
 simp only at WO HWL HWAY
 go_enter Tryz.func43,Tryz.ntmps43
 go_wp2_with fail
 refine DF.out.mono ?_
 rintro e w1 ⟨v1,rfl,own1,o1⟩
 clear DF
 have hb1 : Bs .i64 w1 v1 d:=Bs.of_own (by rw [HDL.out];exact own1)
 have ZG:=hideIt (rzigs_any v1 d w1 hb1 HDG.out (by rw [HDL.out];omega))
 obtain ⟨a1,cap1,e1⟩:=hb1.len
 rw [HDL.out] at e1
 subst e1
 have HO1:=hideIt o1
 clear own1 o1 hb1
 go_wp2_with fail
 refine ZG.out.mono ?_
 rintro e w2 ⟨v2,rfl,own2,o2⟩
 clear ZG
 have HO2:=hideIt (HO1.out.same o2)
 have hb2:=Bs.of_own own2
 have HB2:=hideIt hb2
 obtain ⟨a2,c2,e2⟩:=hb2.len
 rw [HZL.out] at e2
 subst e2
 generalize zsn d = z at *
 have hc2 : n ≤ c2:=by
  obtain ⟨ao',cap',e2,hc,_⟩:=hb2
  rw [HZL.out] at hc
  simp at e2
  omega
 have hx:=HZU.out (z.getD 0 0) (getD_mem0 z 0 (by rw [HZL.out];omega))
 obtain ⟨b,off,cap',e4,cell0⟩:=hb2.at 0 (by rw [HZL.out];omega)
 have ea : a2 = some ⟨b,off,none⟩:=by simp at e4;exact e4.1
 subst ea
 clear e4
 rw [Nat.add_zero] at cell0
 have AP:=hideIt (rappend_any (.slice none 0 0) [] (z.getD 0 0) w2 (Bs.nil _ _) NoCap.nil (by simp) hx.1 hx.2)
 have HG10:=hideIt (gs_le10 (v:=(z.getD 0 0).toNat) (by omega))
 rw [List.nil_append] at AP
 generalize z.getD 0 0 = x at *
 generalize gs x.toNat = g at *
 clear own2 o2 hb2 hx
 go_wp2_with fail
 refine AP.out.mono ?_
 rintro e w3 ⟨v3,rfl,own3,o3⟩
 clear AP
 have OW3:=hideIt (own_low own3 HO2.out.size)
 have HO3:=hideIt (HO2.out.same o3)
 have HB3:=hideIt (HB2.out.past o3)
 obtain ⟨f3,c3,e3⟩:=(Bs.of_own own3).len
 subst e3
 clear own3 o3 HB2
 have j0 : (1 : Int) ≤ (n : Int):=by omega
 have j1 : (1 : Int) ≤ (c2 : Int):=by omega
 by_cases hcc : c2 = 1
 ·subst hcc
  obtain rfl : n = 1:=by omega
  have hb3 : Bs .u64 w3 (.slice (some ⟨b,off,none⟩) 0 0) (z.drop 1):=by have:=HB3.out.cut0 (n:=1) (by omega);simpa using this
  have W2:=hideIt (WO.out _ w3 hb3)
  clear hb3
  go_wp2_with fail
  refine W2.out.mono ?_
  rintro e w4 ⟨v4,rfl,own4,o4⟩
  clear W2
  have HO4:=hideIt (HO3.out.same o4)
  have OW4:=hideIt (o4.own OW3.out (fun _ _ f => f))
  have HB4:=hideIt (Bs.of_own own4)
  have NC4:=hideIt (NoCap.of_own own4)
  obtain ⟨f4,c4,e4⟩:=(Bs.of_own own4).len
  subst e4
  have hs4 : w.heap.size ≤ w4.heap.size:=HO4.out.size
  clear own4 o4
  by_cases hc : c = 0
  ·subst hc
   have ow:=OW4.out
   rw [if_neg (by simp)] at HWAY
   obtain ⟨gw,hgw⟩ : ∃ gw,gw = g ++ W1:=⟨_,rfl⟩
   rw [← hgw] at HWAY
   have HGW:=hideIt hgw
   have eW:=HWAY.out
   subst eW
   clear hgw HWAY OW4
   go_wp2_with (at_builtin;refine wpList_append_bs _ rfl _ _ _ rfl w.heap.size 5 i0 (.int .u8 0) 1 Tryz.underlying26 hi hz0 hz1 hz2 rfl _ _ _ rfl ow .u8 _ W1 rfl HB4.out NC4.out ?c3 ?c4 hs4 ?_)
   case c3 => have:=HWL.out;have:=HG10.out;unfold maxLen;omega
   case c4 => have:=HWL.out;have:=HG10.out;omega
   intro v6 w6 own6 hgrow6 _ _
   have OWN6 : Hid (w6.ownsRow w.heap.size 5 1 v6 gw.length (gw.map (Value.int .u8))):=by
    simp only [Hid];rw [HGW.out,List.length_append,List.map_append];exact own6
   have O6:=hideIt (HO4.out.grown hgrow6 (fun k hk e => absurd (ow.lt k e).1 (by omega)))
   obtain ⟨f6,c6,e6⟩:=(Bs.of_own OWN6.out).len
   subst e6
   clear ow own6 hgrow6
   go_wp2
   try rw [Exit.noGoto_ret]
   go_ret2
   exact ⟨_,rfl,OWN6.out,O6.out⟩
  ·have dc : (c != 0) = true:=by simp;exact hc
   rw [if_pos hc] at HWAY
   have eW:=HWAY.out
   subst eW
   clear HWAY
   go_wp2
   try rw [Exit.noGoto_ret]
   go_ret2
   exact ⟨_,rfl,World.ownsRow_nil _ _ _ _,HO4.out⟩
 ·have hcx : ¬ ((c2 : Int) - 1 = 0):=by omega
  have hb3 : Bs .u64 w3 (.slice (some ((⟨b,off,none⟩ : Addr).add 1)) (n - 1) (c2 - 1)) (z.drop 1):=by have:=HB3.out.cut (n:=1) (by omega);simpa using this
  have W2:=hideIt (WO.out _ w3 hb3)
  clear hb3
  go_wp2_with fail
  refine W2.out.mono ?_
  rintro e w4 ⟨v4,rfl,own4,o4⟩
  clear W2
  have HO4:=hideIt (HO3.out.same o4)
  have OW4:=hideIt (o4.own OW3.out (fun _ _ f => f))
  have HB4:=hideIt (Bs.of_own own4)
  have NC4:=hideIt (NoCap.of_own own4)
  obtain ⟨f4,c4,e4⟩:=(Bs.of_own own4).len
  subst e4
  have hs4 : w.heap.size ≤ w4.heap.size:=HO4.out.size
  clear own4 o4
  by_cases hc : c = 0
  ·subst hc
   have ow:=OW4.out
   rw [if_neg (by simp)] at HWAY
   obtain ⟨gw,hgw⟩ : ∃ gw,gw = g ++ W1:=⟨_,rfl⟩
   rw [← hgw] at HWAY
   have HGW:=hideIt hgw
   have eW:=HWAY.out
   subst eW
   clear hgw HWAY OW4
   go_wp2_with (at_builtin;refine wpList_append_bs _ rfl _ _ _ rfl w.heap.size 5 i0 (.int .u8 0) 1 Tryz.underlying26 hi hz0 hz1 hz2 rfl _ _ _ rfl ow .u8 _ W1 rfl HB4.out NC4.out ?c3 ?c4 hs4 ?_)
   case c3 => have:=HWL.out;have:=HG10.out;unfold maxLen;omega
   case c4 => have:=HWL.out;have:=HG10.out;omega
   intro v6 w6 own6 hgrow6 _ _
   have OWN6 : Hid (w6.ownsRow w.heap.size 5 1 v6 gw.length (gw.map (Value.int .u8))):=by
    simp only [Hid];rw [HGW.out,List.length_append,List.map_append];exact own6
   have O6:=hideIt (HO4.out.grown hgrow6 (fun k hk e => absurd (ow.lt k e).1 (by omega)))
   obtain ⟨f6,c6,e6⟩:=(Bs.of_own OWN6.out).len
   subst e6
   clear ow own6 hgrow6
   go_wp2
   try rw [Exit.noGoto_ret]
   go_ret2
   exact ⟨_,rfl,OWN6.out,O6.out⟩
  ·have dc : (c != 0) = true:=by simp;exact hc
   rw [if_pos hc] at HWAY
   have eW:=HWAY.out
   subst eW
   clear HWAY
   go_wp2
   try rw [Exit.noGoto_ret]
   go_ret2
   exact ⟨_,rfl,World.ownsRow_nil _ _ _ _,HO4.out⟩
set_option maxHeartbeats 1600000 in
theorem rway_four (v : Value) (l : List Int) (w : World) (h : Bs .i64 w v l) (nc : NoCap v) (hg : I64s l) (hl : l.length ≤ 700) (hp : 0 < l.length) :
  Calls Tryz.prog 43 #[v,.int .i64 4] w fun e w' => ∃ u,e = .returned (.tuple #[u,.int .i64 (WAY l 4).2]) ∧ w'.ownsRow w.heap.size 5 1 u (WAY l 4).1.length ((WAY l 4).1.map (Value.int .u8)) ∧ Only (fun _ => False) w w':=by
 obtain ⟨i0,hi,hz0,hz1,hz2⟩:=info_parts Tryz.infoU8
 have DF:=hideIt (rdiff_in v l 2 w h nc (by omega) hg (by omega))
 have HDL:=hideIt (D_length 2 l)
 have HDG:=hideIt (D_i64 hg 2)
 have HZU:=hideIt (zD_u64 hg 2)
 have WO : Hid (∀ (u : Value) (w2 : World),Bs .u64 w2 u ((zsn (D 2 l)).drop 1) → Calls Tryz.prog 76 #[u,.int .i64 4] w2 fun e w' => ∃ u',e = .returned (.tuple #[u',.int .i64 (WOTH ((zsn (D 2 l)).drop 1) 4).2]) ∧ w'.ownsRow w2.heap.size 5 1 u' (WOTH ((zsn (D 2 l)).drop 1) 4).1.length ((WOTH ((zsn (D 2 l)).drop 1) 4).1.map (Value.int .u8)) ∧ Only (fun _ => False) w2 w') :=
  fun u w2 hb => roth_four u _ w2 hb ((zD_u64 hg _).drop 1) (by rw [List.length_drop,zD_length];omega)
 have HWL:=hideIt (WOTH_len (z:=(zsn (D 2 l)).drop 1) ((zD_u64 hg _).drop 1) (by rw [List.length_drop,zD_length];omega) 4)
 have HWAY : Hid (WAY l 4 = if (WOTH ((zsn (D 2 l)).drop 1) 4).2 ≠ 0 then ([],(WOTH ((zsn (D 2 l)).drop 1) 4).2) else (gs ((zsn (D 2 l)).getD 0 0).toNat ++ (WOTH ((zsn (D 2 l)).drop 1) 4).1,0)):=by
  simp only [Hid]
  unfold WAY
  rw [if_neg (List.length_pos_iff.1 hp),if_neg (by omega)]
  rfl
 obtain ⟨ao,cap,rfl⟩:=h.len
 obtain ⟨n,hn⟩ : ∃ n,n = l.length:=⟨_,rfl⟩
 rw [← hn] at hl hp DF HDL
 rw [← hn]
 have d0 : decide ((65536 : Int) < n) = false:=decide_eq_false (by omega)
 have d1 : ((n : Int) == 0) = false:=by rw [beq_eq_false_iff_ne];omega
 clear h hn hg nc
 generalize WAY l 4 = Wl at *
 generalize D 2 l = d at *
 have HZL : Hid ((zsn d).length = n):=by simp only [Hid];rw [zsn_length];exact HDL.out
 generalize hWO : WOTH ((zsn d).drop 1) 4 = W at *
 clear hWO
 obtain ⟨W1,c⟩:=W
 simp only at WO HWL HWAY
 go_enter Tryz.func43,Tryz.ntmps43
 go_wp2_with fail
 refine DF.out.mono ?_
 rintro e w1 ⟨v1,rfl,own1,o1⟩
 clear DF
 have hb1 : Bs .i64 w1 v1 d:=Bs.of_own (by rw [HDL.out];exact own1)
 have ZG:=hideIt (rzigs_any v1 d w1 hb1 HDG.out (by rw [HDL.out];omega))
 obtain ⟨a1,cap1,e1⟩:=hb1.len
 rw [HDL.out] at e1
 subst e1
 have HO1:=hideIt o1
 clear own1 o1 hb1
 go_wp2_with fail
 refine ZG.out.mono ?_
 rintro e w2 ⟨v2,rfl,own2,o2⟩
 clear ZG
 have HO2:=hideIt (HO1.out.same o2)
 have hb2:=Bs.of_own own2
 have HB2:=hideIt hb2
 obtain ⟨a2,c2,e2⟩:=hb2.len
 rw [HZL.out] at e2
 subst e2
 generalize zsn d = z at *
 have hc2 : n ≤ c2:=by
  obtain ⟨ao',cap',e2,hc,_⟩:=hb2
  rw [HZL.out] at hc
  simp at e2
  omega
 have hx:=HZU.out (z.getD 0 0) (getD_mem0 z 0 (by rw [HZL.out];omega))
 obtain ⟨b,off,cap',e4,cell0⟩:=hb2.at 0 (by rw [HZL.out];omega)
 have ea : a2 = some ⟨b,off,none⟩:=by simp at e4;exact e4.1
 subst ea
 clear e4
 rw [Nat.add_zero] at cell0
 have AP:=hideIt (rappend_any (.slice none 0 0) [] (z.getD 0 0) w2 (Bs.nil _ _) NoCap.nil (by simp) hx.1 hx.2)
 have HG10:=hideIt (gs_le10 (v:=(z.getD 0 0).toNat) (by omega))
 rw [List.nil_append] at AP
 generalize z.getD 0 0 = x at *
 generalize gs x.toNat = g at *
 clear own2 o2 hb2 hx
 go_wp2_with fail
 refine AP.out.mono ?_
 rintro e w3 ⟨v3,rfl,own3,o3⟩
 clear AP
 have OW3:=hideIt (own_low own3 HO2.out.size)
 have HO3:=hideIt (HO2.out.same o3)
 have HB3:=hideIt (HB2.out.past o3)
 obtain ⟨f3,c3,e3⟩:=(Bs.of_own own3).len
 subst e3
 clear own3 o3 HB2
 have j0 : (1 : Int) ≤ (n : Int):=by omega
 have j1 : (1 : Int) ≤ (c2 : Int):=by omega
 by_cases hcc : c2 = 1
 ·subst hcc
  obtain rfl : n = 1:=by omega
  have hb3 : Bs .u64 w3 (.slice (some ⟨b,off,none⟩) 0 0) (z.drop 1):=by have:=HB3.out.cut0 (n:=1) (by omega);simpa using this
  have W2:=hideIt (WO.out _ w3 hb3)
  clear hb3
  go_wp2_with fail
  refine W2.out.mono ?_
  rintro e w4 ⟨v4,rfl,own4,o4⟩
  clear W2
  have HO4:=hideIt (HO3.out.same o4)
  have OW4:=hideIt (o4.own OW3.out (fun _ _ f => f))
  have HB4:=hideIt (Bs.of_own own4)
  have NC4:=hideIt (NoCap.of_own own4)
  obtain ⟨f4,c4,e4⟩:=(Bs.of_own own4).len
  subst e4
  have hs4 : w.heap.size ≤ w4.heap.size:=HO4.out.size
  clear own4 o4
  by_cases hc : c = 0
  ·subst hc
   have ow:=OW4.out
   rw [if_neg (by simp)] at HWAY
   obtain ⟨gw,hgw⟩ : ∃ gw,gw = g ++ W1:=⟨_,rfl⟩
   rw [← hgw] at HWAY
   have HGW:=hideIt hgw
   have eW:=HWAY.out
   subst eW
   clear hgw HWAY OW4
   go_wp2_with (at_builtin;refine wpList_append_bs _ rfl _ _ _ rfl w.heap.size 5 i0 (.int .u8 0) 1 Tryz.underlying26 hi hz0 hz1 hz2 rfl _ _ _ rfl ow .u8 _ W1 rfl HB4.out NC4.out ?c3 ?c4 hs4 ?_)
   case c3 => have:=HWL.out;have:=HG10.out;unfold maxLen;omega
   case c4 => have:=HWL.out;have:=HG10.out;omega
   intro v6 w6 own6 hgrow6 _ _
   have OWN6 : Hid (w6.ownsRow w.heap.size 5 1 v6 gw.length (gw.map (Value.int .u8))):=by
    simp only [Hid];rw [HGW.out,List.length_append,List.map_append];exact own6
   have O6:=hideIt (HO4.out.grown hgrow6 (fun k hk e => absurd (ow.lt k e).1 (by omega)))
   obtain ⟨f6,c6,e6⟩:=(Bs.of_own OWN6.out).len
   subst e6
   clear ow own6 hgrow6
   go_wp2
   try rw [Exit.noGoto_ret]
   go_ret2
   exact ⟨_,rfl,OWN6.out,O6.out⟩
  ·have dc : (c != 0) = true:=by simp;exact hc
   rw [if_pos hc] at HWAY
   have eW:=HWAY.out
   subst eW
   clear HWAY
   go_wp2
   try rw [Exit.noGoto_ret]
   go_ret2
   exact ⟨_,rfl,World.ownsRow_nil _ _ _ _,HO4.out⟩
 ·have hcx : ¬ ((c2 : Int) - 1 = 0):=by omega
  have hb3 : Bs .u64 w3 (.slice (some ((⟨b,off,none⟩ : Addr).add 1)) (n - 1) (c2 - 1)) (z.drop 1):=by have:=HB3.out.cut (n:=1) (by omega);simpa using this
  have W2:=hideIt (WO.out _ w3 hb3)
  clear hb3
  go_wp2_with fail
  refine W2.out.mono ?_
  rintro e w4 ⟨v4,rfl,own4,o4⟩
  clear W2
  have HO4:=hideIt (HO3.out.same o4)
  have OW4:=hideIt (o4.own OW3.out (fun _ _ f => f))
  have HB4:=hideIt (Bs.of_own own4)
  have NC4:=hideIt (NoCap.of_own own4)
  obtain ⟨f4,c4,e4⟩:=(Bs.of_own own4).len
  subst e4
  have hs4 : w.heap.size ≤ w4.heap.size:=HO4.out.size
  clear own4 o4
  by_cases hc : c = 0
  ·subst hc
   have ow:=OW4.out
   rw [if_neg (by simp)] at HWAY
   obtain ⟨gw,hgw⟩ : ∃ gw,gw = g ++ W1:=⟨_,rfl⟩
   rw [← hgw] at HWAY
   have HGW:=hideIt hgw
   have eW:=HWAY.out
   subst eW
   clear hgw HWAY OW4
   go_wp2_with (at_builtin;refine wpList_append_bs _ rfl _ _ _ rfl w.heap.size 5 i0 (.int .u8 0) 1 Tryz.underlying26 hi hz0 hz1 hz2 rfl _ _ _ rfl ow .u8 _ W1 rfl HB4.out NC4.out ?c3 ?c4 hs4 ?_)
   case c3 => have:=HWL.out;have:=HG10.out;unfold maxLen;omega
   case c4 => have:=HWL.out;have:=HG10.out;omega
   intro v6 w6 own6 hgrow6 _ _
   have OWN6 : Hid (w6.ownsRow w.heap.size 5 1 v6 gw.length (gw.map (Value.int .u8))):=by
    simp only [Hid];rw [HGW.out,List.length_append,List.map_append];exact own6
   have O6:=hideIt (HO4.out.grown hgrow6 (fun k hk e => absurd (ow.lt k e).1 (by omega)))
   obtain ⟨f6,c6,e6⟩:=(Bs.of_own OWN6.out).len
   subst e6
   clear ow own6 hgrow6
   go_wp2
   try rw [Exit.noGoto_ret]
   go_ret2
   exact ⟨_,rfl,OWN6.out,O6.out⟩
  ·have dc : (c != 0) = true:=by simp;exact hc
   rw [if_pos hc] at HWAY
   have eW:=HWAY.out
   subst eW
   clear HWAY
   go_wp2
   try rw [Exit.noGoto_ret]
   go_ret2
   exact ⟨_,rfl,World.ownsRow_nil _ _ _ _,HO4.out⟩
theorem rway_any (v : Value) (l : List Int) (tag : Int) (w : World) (h : Bs .i64 w v l) (nc : NoCap v) (hg : I64s l) (hl : l.length ≤ 700 ∨ 65536 < l.length) :
  Calls Tryz.prog 43 #[v,.int .i64 tag] w fun e w' => ∃ u,e = .returned (.tuple #[u,.int .i64 (WAY8 l tag).2]) ∧ w'.ownsRow w.heap.size 5 1 u (WAY8 l tag).1.length ((WAY8 l tag).1.map (Value.int .u8)) ∧ Only (fun _ => False) w w':=by
 unfold WAY8
 by_cases ht : tag < 0 ∨ 4 < tag
 ·rw [if_pos ht]
  refine (rway_arg v tag w ht).mono ?_
  rintro e w' ⟨rfl,rfl⟩
  exact ⟨_,rfl,World.ownsRow_nil _ _ _ _,Only.refl _ _⟩
 ·rw [if_neg ht]
  obtain ⟨t,rfl⟩:=Int.eq_ofNat_of_zero_le (show 0 ≤ tag by omega)
  by_cases hl2 : 65536 < l.length
  ·rw [if_pos hl2]
   refine (rway_long v l t w h hl2 (by omega)).mono ?_
   rintro e w' ⟨rfl,rfl⟩
   exact ⟨_,rfl,World.ownsRow_nil _ _ _ _,Only.refl _ _⟩
  ·rw [if_neg hl2,Int.toNat_natCast]
   by_cases hne : l = []
   ·subst hne
    rw [WAY_nil]
    refine (rway_nil v t w h (by omega)).mono ?_
    rintro e w' ⟨rfl,rfl⟩
    exact ⟨_,rfl,World.ownsRow_nil _ _ _ _,Only.refl _ _⟩
   ·have hp : 0 < l.length:=List.length_pos_iff.2 hne
    have t4 : t ≤ 4:=by omega
    rcases t with _ | _ | _ | _ | _ | t
    ·rw [WAY_zero]
     exact rway_zero v l w h (by omega) hp
    ·have e : WAY l 1 = (allG (zsn (D 1 l)),0):=by
      have e1 : allG (zsn (D 1 l)) = gs ((zsn (D 1 l)).getD 0 0).toNat ++ allG ((zsn (D 1 l)).drop 1):=by
       have e5:=allG_drop (zsn (D 1 l)) 0 (by rw [zD_length];exact hp)
       rw [List.drop_zero] at e5
       exact e5
      rw [e1]
      unfold WAY
      rw [if_neg hne,if_neg (by omega)]
      rfl
     rw [show (0 + 1 : Nat) = 1 from rfl,e]
     exact rway_one v l w h nc hg (by omega) hp
    ·exact rway_two v l w h nc hg (by omega) hp
    ·exact rway_three v l w h nc hg (by omega) hp
    ·exact rway_four v l w h nc hg (by omega) hp
    ·omega
end Go.Proofs.YthapipgaohlgdaaGreatDoor
