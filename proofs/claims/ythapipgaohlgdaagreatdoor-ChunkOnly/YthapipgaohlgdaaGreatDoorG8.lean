/- Several texts in one: Ren, Rde, Tot7, Im, Im2, Dk. -/
import Derived.Test.YthapipgaohlgdaaGreatDoorG5
import Derived.Deep.LoopGhost
import Derived.WalkMore
import Derived.Test.YthapipgaohlgdaaGreatDoorG6
import Derived.Test.YthapipgaohlgdaaGreatDoorG7
import Derived.Test.YthapipgaohlgdaaGreatDoorG3
import Derived.Test.YthapipgaohlgdaaGreatDoorG2


namespace Go.Proofs.YthapipgaohlgdaaGreatDoor
set_option maxRecDepth 100000
open Go.RowKit
theorem getD_mem0 (l : List Int) (k : Nat) (h : k < l.length) : l.getD k 0 ∈ l:=by
 rw [List.getD_eq_getElem?_getD,List.getElem?_eq_getElem h];simp
set_option maxHeartbeats 400000 in
theorem run_any (v : Int) (c : Nat) (w : World) (h0 : 0 ≤ v) (h1 : v ≤ 18446744073709551615) (c0 : 1 ≤ c) (c1 : c ≤ 65536) :
  Calls Tryz.prog 145 #[.int .u64 v,.int .i64 c] w fun e w' => ∃ v',e = .returned v' ∧ w'.ownsRow w.heap.size 5 1 v' (gs v.toNat ++ gs (c - 1)).length ((gs v.toNat ++ gs (c - 1)).map (Value.int .u8)) ∧ Only (fun _ => False) w w':=by
 have A:=hideIt (append_any (.slice none 0 0) [] v w (Bs.nil _ _) NoCap.nil (by simp) h0 h1)
 have H10:=hideIt (gs_le10 (v:=v.toNat) (by omega))
 obtain ⟨m,rfl⟩ : ∃ m,c = m + 1:=⟨c - 1,by omega⟩
 rw [Nat.add_sub_cancel]
 have em : ((m + 1 : Nat) : Int) - 1 = (m : Int):=by omega
 go_enter Tryz.func145,Tryz.ntmps145
 go_wp2_with fail
 refine A.out.mono ?_
 rintro e w1 ⟨v1,rfl,own1,o1⟩
 rw [List.nil_append] at own1
 have B:=hideIt (append_any v1 (gs v.toNat) m w1 (Bs.of_own own1) (NoCap.of_own own1) (by have:=H10.out;omega) (by omega) (by omega))
 have O1:=hideIt o1
 clear A own1 o1
 go_wp2_with fail
 refine B.out.mono ?_
 rintro e w2 ⟨v2,rfl,own2,o2⟩
 rw [Int.toNat_natCast] at own2
 have F:=hideIt (And.intro (own_low own2 O1.out.size) (O1.out.trans o2 (fun _ _ f => f)))
 clear B own2 o2
 go_wp2
 go_ret
 exact ⟨_,rfl,F.out⟩
set_option maxHeartbeats 1600000 in
theorem run_encode_bs (v : Value) (xs : List Int) (w : World) (h : Bs .u64 w v xs) (hu : U64 xs) (hl : xs.length ≤ 65536) :
  Calls Tryz.prog 103 #[v] w fun e w' => ∃ v',e = .returned (.tuple #[v',.int .i64 0]) ∧ w'.ownsRow w.heap.size 5 1 v' (runE xs).length ((runE xs).map (Value.int .u8)) ∧ Only (fun _ => False) w w':=by
 obtain ⟨i0,hi,hz0,hz1,hz2⟩:=info_parts Tryz.infoU8
 have HB:=hideIt h
 have HU:=hideIt hu
 have HEL:=hideIt (runE_len xs hu (by omega))
 obtain ⟨ao,cap,rfl⟩:=h.len
 obtain ⟨n,hn⟩ : ∃ n,n = xs.length:=⟨_,rfl⟩
 rw [← hn] at hl HB HEL
 rw [← hn]
 have HN:=hideIt hn
 have d0 : decide ((65536 : Int) < n) = false:=decide_eq_false (by omega)
 clear h hu hn
 go_enter Tryz.func103,Tryz.ntmps103
 go_wp2
 go_step3
 go_wp2
 go_step3
 go_wp2
 go_loopg [0,4] n (fun g s0 s4 wx => ∃ (ls o : List Int),Hid (ls.length = g) ∧ g ≤ n ∧ Bs .u64 w s0 ls ∧ Hid (o ++ runE ls = runE xs) ∧ U64 ls ∧ wx.ownsRow w.heap.size 5 1 s4 o.length (o.map (Value.int .u8)) ∧ Only (fun _ => False) w wx)
 case atStart => exact ⟨xs,[],HN.out.symm,Nat.le_refl _,HB.out,rfl,HU.out,World.ownsRow_nil _ _ _ _,Only.refl _ _⟩
 case round =>
  obtain ⟨ls,o,HL,hgn,hbs,HO,hul,hown,hon⟩:=hrel
  obtain ⟨W,hW⟩ : ∃ W,W = wr:=⟨_,rfl⟩
  subst hW
  have HBS:=hideIt hbs
  obtain ⟨al,cl,el⟩:=hbs.len
  rw [HL.out] at el
  subst el
  have HUL:=hideIt hul
  have HOWN:=hideIt hown
  have HON:=hideIt hon
  have HOL : Hid (o.length ≤ 2000000):=by
   have:=congrArg List.length HO.out
   have:=HEL.out
   rw [List.length_append] at *
   simp only [Hid]
   omega
  clear hbs hul hown hon HB HU
  obtain ⟨G,hG⟩ : ∃ G,G = gk:=⟨_,rfl⟩
  subst hG
  by_cases hg0 : G = 0
  ·subst hg0
   have d1 : decide ((0 : Int) < ((0 : Nat) : Int)) = false:=by simp
   have F : Hid (W.ownsRow w.heap.size 5 1 u4 (runE xs).length ((runE xs).map (Value.int .u8))):=by
    have e : ls = []:=List.eq_nil_of_length_eq_zero HL.out
    have:=HO.out
    rw [e,runE,List.append_nil] at this
    simp only [Hid]
    rw [← this];exact HOWN.out
   go_wp2
   try rw [Exit.noGoto_ret]
   go_ret2
   exact ⟨_,rfl,F.out,HON.out⟩
  ·have d1 : decide ((0 : Int) < (G : Int)) = true:=decide_eq_true (by omega)
   obtain ⟨b,off,cap',e1,hc0⟩:=(HBS.out.past HON.out).at 0 (by rw [HL.out];omega)
   have ea : al = some ⟨b,off,none⟩:=by simp at e1;exact e1.1
   subst ea
   clear e1
   rw [Nat.add_zero] at hc0
   have hx0:=HUL.out (ls.getD 0 0) (getD_mem0 ls 0 (by rw [HL.out];omega))
   obtain ⟨x0,hx⟩ : ∃ x0,x0 = ls.getD 0 0:=⟨_,rfl⟩
   rw [← hx] at hc0 hx0
   have HX:=hideIt hx
   clear hx
   go_wp2
   obtain ⟨O4,hO4⟩ : ∃ O4,O4 = u4:=⟨_,rfl⟩
   subst hO4
   go_loopg [0,4,15] G (fun g2 s0 s4 s15 wy => ∃ j : Nat,j + g2 = G ∧ s0 = .slice (some ⟨b,off,none⟩) G cl ∧ s4 = O4 ∧ s15 = .int .i64 j ∧ Hid (∀ i,i < j → ls.getD i 0 = x0) ∧ W = wy)
   case atStart => exact ⟨0,by omega,rfl,rfl,rfl,(fun i hi => by omega),rfl⟩
   case round =>
    obtain ⟨j,hj,rfl,rfl,rfl,HJ,hw⟩:=hrel
    subst hw
    cases gk with
    | zero =>
     obtain rfl : j = G:=by omega
     have R:=hideIt (run_any x0 j W hx0.1 hx0.2 (by omega) (by omega))
     have HE : Hid (runE ls = gs x0.toNat ++ gs (j - 1)):=by
      simp only [Hid]
      rw [HX.out,← HL.out]
      exact runE_all (by rw [HL.out];omega) (fun i hi => by rw [← HX.out];exact HJ.out i (by rw [← HL.out];exact hi))
     go_wp2_with fail
     refine R.out.mono ?_
     rintro e w2 ⟨v2,rfl,own2,o2⟩
     have B2:=hideIt (Bs.of_own own2)
     have N2:=hideIt (NoCap.of_own own2)
     have O2:=hideIt (HON.out.same o2)
     have OWN2:=hideIt (o2.own HOWN.out (fun _ _ f => f))
     rw [← HE.out] at B2
     have HRL : Hid ((runE ls).length ≤ 2000000):=by
      have:=congrArg List.length HO.out
      have:=HEL.out
      rw [List.length_append] at *
      simp only [Hid]
      omega
     have hsz:=O2.out.size
     clear R own2 o2
     go_wp2_with (at_builtin;refine wpList_append_bs _ rfl _ _ _ rfl w.heap.size 5 i0 (.int .u8 0) 1 Tryz.underlying26 hi hz0 hz1 hz2 rfl _ o.length (o.map (Value.int .u8)) rfl OWN2.out .u8 _ (runE ls) rfl B2.out N2.out ?c3 ?c4 hsz ?_)
     case c3 => have:=HRL.out;have:=HOL.out;unfold maxLen;omega
     case c4 => have:=HRL.out;have:=HOL.out;omega
     intro v' w3 own3 hgrow _ _
     have F : Hid (w3.ownsRow w.heap.size 5 1 v' (runE xs).length ((runE xs).map (Value.int .u8)) ∧ Only (fun _ => False) w w3):=by
      refine ⟨?_,O2.out.grown hgrow (fun k hk hq => by have:=(OWN2.out.lt k hq).1;omega)⟩
      rw [← HO.out,List.length_append,List.map_append];exact own3
     clear own3 hgrow
     go_wp2
     try rw [Exit.noGoto_ret]
     go_ret2
     exact ⟨_,rfl,F.out⟩
    | succ g =>
     have jl : j < G:=by omega
     obtain ⟨b',off',cap'',e1,hcj⟩:=(HBS.out.past HON.out).at j (by rw [HL.out];exact jl)
     have e2 : b = b' ∧ off = off':=by simp at e1;exact ⟨e1.1.1,e1.1.2⟩
     obtain ⟨rfl,rfl⟩:=e2
     clear e1
     have i0' : (0 : Int) ≤ (j : Int):=by omega
     have i1 : (j : Int) < (G : Int):=by omega
     obtain ⟨x,hx⟩ : ∃ x,x = ls.getD j 0:=⟨_,rfl⟩
     rw [← hx] at hcj
     have HXJ:=hideIt hx
     clear hx
     by_cases hxx : x = x0
     ·subst hxx
      have z0 : (x != x) = false:=by simp
      go_wp2
      go_roundg g
      case rel => exact ⟨j + 1,by omega,rfl,rfl,by go_num,(fun i hi => by
       rcases Nat.lt_or_ge i j with h | h
       ·exact HJ.out i h
       ·obtain rfl : i = j:=by omega
        exact HXJ.out.symm),rfl⟩
      case measure => omega
     ·have z0 : (x != x0) = true:=by simpa using hxx
      have j0 : 0 < j:=by
       rcases Nat.eq_zero_or_pos j with h | h
       ·subst h
        exact absurd (HXJ.out.trans HX.out.symm) hxx
       ·exact h
      have HE : Hid (runE ls = gs x0.toNat ++ gs (j - 1) ++ runE (ls.drop j)):=by
       simp only [Hid]
       rw [HX.out]
       exact runE_step j0 (by rw [HL.out];exact jl) (fun i hi => by rw [← HX.out];exact HJ.out i hi) (by rw [← HX.out,← HXJ.out];exact hxx)
      have R:=hideIt (run_any x0 j W hx0.1 hx0.2 (by omega) (by omega))
      have hcap : G ≤ cl:=by
       obtain ⟨_,_,e,h2,_⟩:=HBS.out
       simp at e
       have:=HL.out
       omega
      have CUT:=HBS.out.cut (n:=j) (by omega)
      have hadd : (⟨b,off,none⟩ : Addr).add j = ⟨b,off + j,none⟩:=by unfold Addr.add;split <;> simp_all
      rw [Option.map_some,hadd] at CUT
      have CUT:=hideIt CUT
      have k1 : (j : Int) ≤ (G : Int):=by omega
      have k2 : (j : Int) ≤ (cl : Int):=by omega
      have k3 : cl ≠ j:=by omega
      go_wp2_with fail
      refine R.out.mono ?_
      rintro e w2 ⟨v2,rfl,own2,o2⟩
      have B2:=hideIt (Bs.of_own own2)
      have N2:=hideIt (NoCap.of_own own2)
      have O2:=hideIt (HON.out.same o2)
      have OWN2:=hideIt (o2.own HOWN.out (fun _ _ f => f))
      have HRL : Hid ((gs x0.toNat ++ gs (j - 1)).length ≤ 2000000):=by
       have h1:=congrArg List.length HO.out
       have h2:=HEL.out
       rw [HE.out] at h1
       simp only [List.length_append] at h1
       simp only [Hid,List.length_append]
       omega
      have hsz:=O2.out.size
      obtain ⟨q,hq⟩ : ∃ q,q = gs x0.toNat ++ gs (j - 1):=⟨_,rfl⟩
      rw [← hq] at B2 HRL HE
      clear R own2 o2 hq
      go_wp2_with (at_builtin;refine wpList_append_bs _ rfl _ _ _ rfl w.heap.size 5 i0 (.int .u8 0) 1 Tryz.underlying26 hi hz0 hz1 hz2 rfl _ o.length (o.map (Value.int .u8)) rfl OWN2.out .u8 _ q rfl B2.out N2.out ?c3 ?c4 hsz ?_)
      case c3 => have:=HRL.out;have:=HOL.out;unfold maxLen;omega
      case c4 => have:=HRL.out;have:=HOL.out;omega
      intro v' w3 own3 hgrow _ _
      have F : Hid (w3.ownsRow w.heap.size 5 1 v' (o ++ q).length ((o ++ q).map (Value.int .u8)) ∧ Only (fun _ => False) w w3):=by
       refine ⟨?_,O2.out.grown hgrow (fun k hk hq => by have:=(OWN2.out.lt k hq).1;omega)⟩
       rw [List.length_append,List.map_append];exact own3
      clear own3 hgrow OWN2 O2 B2 N2
      go_wp2
      go_roundg (G - j)
      case rel => exact ⟨ls.drop j,o ++ q,(by simp only [Hid];rw [List.length_drop,HL.out]),by omega,CUT.out,(by simp only [Hid];rw [List.append_assoc,← HE.out];exact HO.out),(fun y hy => HUL.out y (List.mem_of_mem_drop hy)),F.out⟩
      case measure => omega
end Go.Proofs.YthapipgaohlgdaaGreatDoor


namespace Go.Proofs.YthapipgaohlgdaaGreatDoor
set_option maxRecDepth 100000
open Go.RowKit
set_option maxHeartbeats 400000 in
theorem goesOn_q (va : Value) (acc : List Int) (x : Int) (w : World) (h : Bs .u64 w va acc) (hl : acc.length ≤ 70000) :
  Calls Tryz.prog 175 #[va,.int .u64 x] w fun e w' => e = .returned (.bool (runOn acc x)) ∧ w = w':=by
 by_cases h0 : 0 < acc.length
 ·obtain ⟨b,off,cap,rfl,hc⟩:=h.at (acc.length - 1) (by omega)
  have HR : Hid (runOn acc x = (acc.getD (acc.length - 1) 0 == x)):=by
   simp only [Hid,runOn]
   rw [decide_eq_true h0,Bool.true_and]
  generalize acc.getD (acc.length - 1) 0 = y at *
  obtain ⟨m,hm⟩ : ∃ m,acc.length = m + 1:=⟨acc.length - 1,by omega⟩
  rw [hm] at hc hl ⊢
  rw [Nat.add_sub_cancel] at hc
  clear h hm h0
  have d0 : decide ((0 : Int) < ((m + 1 : Nat) : Int)) = true:=decide_eq_true (by omega)
  go_enter Tryz.func175,Tryz.ntmps175
  go_wp2
  go_ret
  exact ⟨by rw [HR.out];rfl,rfl⟩
 ·have e : acc = []:=List.eq_nil_of_length_eq_zero (by omega)
  subst e
  obtain ⟨ao,cap,rfl⟩:=h.len
  clear h h0
  go_enter Tryz.func175,Tryz.ntmps175
  go_wp2
  go_ret
  exact ⟨rfl,rfl⟩
set_option maxHeartbeats 400000 in
theorem readRun_err1 {w : World} {R : Nat} {v : Value} {ys : List Int} (h : CurAt 92 w R v ys) {a : Int} {k : Nat} {c : Int} (hs : sVarint ys = (a,k,c)) (hc : c ≠ 0) :
  Calls Tryz.prog 174 #[.pointer (some ⟨R,0,none⟩)] w fun e w' => e = .returned (.tuple #[.int .u64 0,.int .u64 0,.int .i64 c]) ∧ Only (fun k => k = R) w w':=by
 have A:=varint_cur h
 rw [hs] at A
 have A:=hideIt A
 have dc : (c != 0) = true:=by simpa using hc
 clear h hs
 go_enter Tryz.func174,Tryz.ntmps174
 go_wp2_with fail
 refine A.out.mono ?_
 rintro e w1 ⟨rfl,v2,_,_,o1⟩
 have O1:=hideIt o1
 clear A o1
 go_wp2
 go_ret3
 exact ⟨rfl,O1.out⟩
set_option maxHeartbeats 400000 in
theorem readRun_err2 {w : World} {R : Nat} {v : Value} {ys : List Int} (h : CurAt 92 w R v ys) {a b : Int} {k j : Nat} {c : Int} (hs : sVarint ys = (a,k,0)) (hs2 : sVarint (ys.drop k) = (b,j,c)) (hc : c ≠ 0) :
  Calls Tryz.prog 174 #[.pointer (some ⟨R,0,none⟩)] w fun e w' => e = .returned (.tuple #[.int .u64 0,.int .u64 0,.int .i64 c]) ∧ Only (fun k => k = R) w w':=by
 have A:=varint_cur h
 rw [hs] at A
 have A:=hideIt A
 have HS2:=hideIt hs2
 have dc : (c != 0) = true:=by simpa using hc
 clear h hs hs2
 go_enter Tryz.func174,Tryz.ntmps174
 go_wp2_with fail
 refine A.out.mono ?_
 rintro e w1 ⟨rfl,v2,cur2,_,o1⟩
 have B:=varint_cur cur2
 rw [HS2.out] at B
 have B:=hideIt B
 have O1:=hideIt o1
 clear A o1 cur2
 go_wp2_with fail
 refine B.out.mono ?_
 rintro e w2 ⟨rfl,v3,_,_,o2⟩
 have O2:=hideIt (O1.out.trans o2 (fun _ _ e => e))
 clear B o2
 go_wp2
 go_ret3
 exact ⟨rfl,O2.out⟩
set_option maxHeartbeats 400000 in
theorem readRun_ok {w : World} {R : Nat} {v : Value} {ys : List Int} (h : CurAt 92 w R v ys) {a b : Int} {k j : Nat} (hs : sVarint ys = (a,k,0)) (hs2 : sVarint (ys.drop k) = (b,j,0)) :
  Calls Tryz.prog 174 #[.pointer (some ⟨R,0,none⟩)] w fun e w' => e = .returned (.tuple #[.int .u64 a,.int .u64 b,.int .i64 0]) ∧ ∃ v2,CurAt 92 w' R v2 ((ys.drop k).drop j) ∧ v2.ownBlock = v.ownBlock ∧ Only (fun k => k = R) w w':=by
 have A:=varint_cur h
 rw [hs] at A
 have A:=hideIt A
 have HS2:=hideIt hs2
 clear h hs hs2
 go_enter Tryz.func174,Tryz.ntmps174
 go_wp2_with fail
 refine A.out.mono ?_
 rintro e w1 ⟨rfl,v2,cur2,ob2,o1⟩
 have B:=varint_cur cur2
 rw [HS2.out] at B
 have B:=hideIt B
 have O1:=hideIt o1
 have OB:=hideIt ob2
 clear A o1 cur2 ob2
 go_wp2_with fail
 refine B.out.mono ?_
 rintro e w2 ⟨rfl,v3,cur3,ob3,o2⟩
 have F:=hideIt (And.intro cur3 (And.intro (ob3.trans OB.out) (O1.out.trans o2 (fun _ _ e => e))))
 clear B o2 cur3 ob3
 go_wp2
 go_ret3
 exact ⟨rfl,v3,F.out⟩
set_option maxHeartbeats 400000 in
theorem run_decode_arg (v : Value) (n : Int) (w : World) (h : n < 0 ∨ 65536 < n) :
  Calls Tryz.prog 153 #[v,.int .i64 n] w fun e w' => e = .returned (.tuple #[.slice none 0 0,.int .i64 1]) ∧ w = w':=by
 by_cases h0 : n < 0
 ·have d0 : decide (n < 0) = true:=decide_eq_true h0
  clear h
  go_enter Tryz.func153,Tryz.ntmps153
  go_wp2
  go_ret2
  exact ⟨rfl,rfl⟩
 ·have d0 : decide (n < 0) = false:=decide_eq_false h0
  have d1 : decide (65536 < n) = true:=decide_eq_true (by omega)
  clear h
  go_enter Tryz.func153,Tryz.ntmps153
  go_wp2
  go_ret2
  exact ⟨rfl,rfl⟩
theorem rep_snoc (acc : List Int) (i : Nat) (a : Int) : acc ++ List.replicate (i + 1) a = acc ++ List.replicate i a ++ [a]:=by
 rw [List.replicate_succ',List.append_assoc]
set_option maxHeartbeats 1600000 in
theorem run_decode_bs (v : Value) (ys : List Int) (n : Nat) (w : World) (h : Bs .u8 w v ys) (hr : ∀ y ∈ ys,0 ≤ y ∧ y ≤ 255) (hl : ys.length ≤ 1000000000000) (hn : n ≤ 65536) :
  Calls Tryz.prog 153 #[v,.int .i64 n] w fun e w' => ∃ u,e = .returned (.tuple #[u,.int .i64 (runDec ys n).2]) ∧ w'.ownsRow w.heap.size 42 1 u (runDec ys n).1.length ((runDec ys n).1.map (Value.int .u64)) ∧ Only (fun _ => False) w w':=by
 obtain ⟨i0,hi,hz0,hz1,hz2⟩:=info_parts Tryz.infoU64
 have d0 : decide ((n : Int) < 0) = false:=by simp
 have d1 : decide (65536 < (n : Int)) = false:=by simp;omega
 have NW:=hideIt (new_bs v ys w h hr hl)
 clear h hr
 go_enter Tryz.func153,Tryz.ntmps153
 go_wp2_with fail
 refine NW.out.mono ?_
 rintro e w1 ⟨R,v1,rfl,cur,o1,r0,r1,hv1⟩
 have HV1:=hideIt hv1
 have O1:=hideIt o1
 have CUR:=hideIt cur
 have HR0:=hideIt (And.intro r0 o1.size)
 clear NW cur o1 hv1
 go_wp2
 go_loopg [7] n (fun g s7 wx => ∃ (f : Nat) (acc ys' : List Int) (v' : Value),wx.ownsRow w1.heap.size 42 1 s7 acc.length (acc.map (Value.int .u64)) ∧ CurAt 92 wx R v' ys' ∧ v'.ownBlock = v1.ownBlock ∧ Hid (acc.length + g = n) ∧ Hid (g < f) ∧ Hid (runD f acc ys' n = runDec ys n) ∧ Only (fun k => k = R) w1 wx)
 case atStart => exact ⟨n + 1,[],ys,v1,World.ownsRow_nil _ _ _ _,CUR.out,rfl,(by simp [Hid]),(by simp [Hid]),rfl,Only.refl _ _⟩
 case round =>
  obtain ⟨f,acc,ys',v',hown,hcur,hob,HG,HF,HD,hon⟩:=hrel
  clear CUR
  obtain ⟨W,hW⟩ : ∃ W,W = wr:=⟨_,rfl⟩
  subst hW
  obtain ⟨G,hG⟩ : ∃ G,G = gk:=⟨_,rfl⟩
  subst hG
  have HOWN:=hideIt hown
  have HCUR:=hideIt hcur
  have HOB:=hideIt hob
  have HON:=hideIt hon
  obtain ⟨a7,c7,e7⟩:=(Bs.of_own hown).len
  obtain ⟨m,hm⟩ : ∃ m,m = acc.length:=⟨_,rfl⟩
  rw [← hm] at e7 HOWN
  have HM:=hideIt hm
  have hmn : m + G = n:=by rw [hm];exact HG.out
  subst e7
  by_cases hlt : G = 0
  ·have d2 : decide ((m : Int) < (n : Int)) = false:=decide_eq_false (by omega)
   have EC:=hideIt (end_cur hcur)
   have HR:=runD_done (f:=f) (acc:=acc) (ys:=ys') (n:=n) (by omega) (by have:=HF.out;omega)
   rw [HD.out] at HR
   have HR:=hideIt HR
   clear hown hcur hob hon hm
   by_cases hy : 0 < ys'.length
   ·have HE : Hid (endV ys' = 3):=if_pos hy
    rw [if_pos hy] at HR
    rw [HE.out] at EC
    go_wp2_with fail
    refine EC.out.mono ?_
    rintro e w2 ⟨rfl,rfl⟩
    go_wp2
    go_ret2
    rw [HR.out]
    exact ⟨_,rfl,World.ownsRow_nil _ _ _ _,O1.out.trans HON.out (fun k hk e => by have:=HR0.out.1;omega)⟩
   ·have HE : Hid (endV ys' = 0):=if_neg hy
    rw [if_neg hy] at HR
    rw [HE.out] at EC
    go_wp2_with fail
    refine EC.out.mono ?_
    rintro e w2 ⟨rfl,rfl⟩
    go_wp2
    go_ret2
    rw [HR.out]
    exact ⟨_,rfl,by simp only;rw [← HM.out];exact own_low HOWN.out HR0.out.2,O1.out.trans HON.out (fun k hk e => by have:=HR0.out.1;omega)⟩
  ·have d2 : decide ((m : Int) < (n : Int)) = true:=decide_eq_true (by omega)
   have fp : 0 < f:=by have:=HF.out;omega
   have hln : acc.length < n:=by omega
   rcases sVarint_cases hcur.rng with ⟨c,hs,hc⟩ | ⟨a,k,hs,k1,k2,ha,_⟩
   ·have HR:=runD_err1 hln fp hs (by omega)
    rw [HD.out] at HR
    have HR:=hideIt HR
    have RR:=hideIt (readRun_err1 hcur hs (by omega))
    have dc : (c != 0) = true:=by simp;omega
    clear hown hcur hob hon hm hs hln
    go_wp2_with fail
    refine RR.out.mono ?_
    rintro e w2 ⟨rfl,o2⟩
    have O2:=hideIt (HON.out.trans o2 (fun _ _ e => e))
    clear RR o2
    go_wp2
    go_ret2
    rw [HR.out]
    exact ⟨_,rfl,World.ownsRow_nil _ _ _ _,O1.out.trans O2.out (fun k hk e => by have:=HR0.out.1;omega)⟩
   ·have hr2 : ∀ y ∈ ys'.drop k,0 ≤ y ∧ y ≤ 255:=fun y hy => hcur.rng y (List.mem_of_mem_drop hy)
    rcases sVarint_cases hr2 with ⟨c,hs2,hc⟩ | ⟨b,j,hs2,j1,j2,hb,_⟩
    ·have HR:=runD_err2 hln fp hs hs2 (by omega)
     rw [HD.out] at HR
     have HR:=hideIt HR
     have RR:=hideIt (readRun_err2 hcur hs hs2 (by omega))
     have dc : (c != 0) = true:=by simp;omega
     clear hown hcur hob hon hm hs hln hs2 hr2
     go_wp2_with fail
     refine RR.out.mono ?_
     rintro e w2 ⟨rfl,o2⟩
     have O2:=hideIt (HON.out.trans o2 (fun _ _ e => e))
     clear RR o2
     go_wp2
     go_ret2
     rw [HR.out]
     exact ⟨_,rfl,World.ownsRow_nil _ _ _ _,O1.out.trans O2.out (fun k hk e => by have:=HR0.out.1;omega)⟩
    ·have RR:=hideIt (readRun_ok hcur hs hs2)
     have hq : (n : Int) - (m : Int) = (G : Int):=by omega
     have HS:=hideIt (And.intro hs hs2)
     by_cases hbG : G ≤ b
     ·have HR:=runD_err3 hln fp hs hs2 (.inl (by omega))
      rw [HD.out] at HR
      have HR:=hideIt HR
      have dg : decide ((G : Int) ≤ (b : Int)) = true:=decide_eq_true (by omega)
      clear hown hcur hob hon hm hs hln hs2 hr2
      go_wp2_with fail
      refine RR.out.mono ?_
      rintro e w2 ⟨rfl,v2,_,_,o2⟩
      have O2:=hideIt (HON.out.trans o2 (fun _ _ e => e))
      clear RR o2
      go_wp2
      go_ret2
      rw [HR.out]
      exact ⟨_,rfl,World.ownsRow_nil _ _ _ _,O1.out.trans O2.out (fun k hk e => by have:=HR0.out.1;omega)⟩
     ·have dg : decide ((G : Int) ≤ (b : Int)) = false:=decide_eq_false (by omega)
      cases ho : runOn acc (a : Int) with
      | true =>
       have HR:=runD_err3 hln fp hs hs2 (.inr ho)
       rw [HD.out] at HR
       have HR:=hideIt HR
       have HOA:=hideIt ho
       clear hown hcur hob hon hm hs hln hs2 hr2 ho
       go_wp2_with fail
       refine RR.out.mono ?_
       rintro e w2 ⟨rfl,v2,_,_,o2⟩
       have O2:=hideIt (HON.out.trans o2 (fun _ _ e => e))
       have OW2:=o2.own HOWN.out (fun k hk e => by have:=(HOWN.out.lt k hk).1;omega)
       have GO:=goesOn_q (.slice a7 m c7) acc a w2 (Bs.of_own (by rw [← HM.out];exact OW2)) (by rw [← HM.out];omega)
       rw [HOA.out] at GO
       have GO:=hideIt GO
       clear RR o2 OW2
       go_wp2_with fail
       refine GO.out.mono ?_
       rintro e w3 ⟨rfl,rfl⟩
       go_wp2
       go_ret2
       rw [HR.out]
       exact ⟨_,rfl,World.ownsRow_nil _ _ _ _,O1.out.trans O2.out (fun k hk e => by have:=HR0.out.1;omega)⟩
      | false =>
       have HR:=runD_next hln fp hs hs2 (by omega) ho
       rw [HD.out] at HR
       have HR:=hideIt HR
       have HOA:=hideIt ho
       have ha0 : (a : Int) ≤ 18446744073709551615:=by omega
       clear hown hcur hob hon hm hs hln hs2 hr2 ho
       go_wp2_with fail
       refine RR.out.mono ?_
       rintro e w2 ⟨rfl,v2,cur2,ob2,o2⟩
       have O2:=hideIt (HON.out.trans o2 (fun _ _ e => e))
       have OW2:=hideIt (o2.own HOWN.out (fun k hk e => by have:=(HOWN.out.lt k hk).1;omega))
       have GO:=goesOn_q (.slice a7 m c7) acc a w2 (Bs.of_own (by rw [← HM.out];exact OW2.out)) (by rw [← HM.out];omega)
       rw [HOA.out] at GO
       have GO:=hideIt GO
       have CUR2:=hideIt cur2
       have OB2:=hideIt (ob2.trans HOB.out)
       clear RR o2 cur2 ob2
       go_wp2_with fail
       refine GO.out.mono ?_
       rintro e w3 ⟨rfl,rfl⟩
       have LIN:=hideIt (O2.out.size)
       go_wp2
       go_loopg [7,47] (b + 1) (fun g2 s7 s47 wy => ∃ i : Nat,i + g2 = b + 1 ∧ s47 = .int .u64 i ∧ wy.ownsRow w1.heap.size 42 1 s7 (m + i) ((acc ++ List.replicate i (a : Int)).map (Value.int .u64)) ∧ Only (fun k => w1.heap.size ≤ k) w2 wy)
       case atStart => exact ⟨0,by omega,rfl,by simpa using OW2.out,Only.refl _ _⟩
       case round =>
        obtain ⟨i,hib,rfl,hown,hon⟩:=hrel
        have HX:=hideIt hon
        have hsz : w1.heap.size ≤ wr.heap.size:=Nat.le_trans LIN.out hon.size
        clear OW2 GO hon
        cases gk with
        | zero =>
         obtain rfl : i = b + 1:=by omega
         have F : Hid (wr.ownsRow w1.heap.size 42 1 u7 (acc ++ List.replicate (b + 1) (a : Int)).length ((acc ++ List.replicate (b + 1) (a : Int)).map (Value.int .u64)) ∧ CurAt 92 wr R v2 ((ys'.drop k).drop j) ∧ v2.ownBlock = v1.ownBlock ∧ Only (fun k => k = R) w1 wr):=by
          refine ⟨by rw [List.length_append,List.length_replicate,← HM.out];exact hown,CUR2.out.keep HX.out (by omega) (fun q hq e => ?_),OB2.out,O2.out.trans HX.out (fun q hq e => absurd e (by omega))⟩
          rw [OB2.out] at hq
          have:=(HV1.out q hq).2
          omega
         have HLN : Hid ((acc ++ List.replicate (b + 1) (a : Int)).length + (G - (b + 1)) = n):=by
          simp only [Hid]
          rw [List.length_append,List.length_replicate,← HM.out];omega
         have d3 : decide (((b + 1 : Nat) : Int) < ((b : Int) + 1)) = false:=by simp
         clear hown HX
         go_wp2
         go_roundg (G - (b + 1))
         case rel => exact ⟨f - 1,_,_,v2,F.out.1,F.out.2.1,F.out.2.2.1,HLN.out,(by have:=HF.out;simp only [Hid];omega),HR.out.symm,F.out.2.2.2⟩
         case measure => omega
        | succ g =>
         have d3 : decide ((i : Int) < ((b : Int) + 1)) = true:=decide_eq_true (by omega)
         go_wp2_with (at_builtin;refine wpList_append_lies _ rfl _ _ _ rfl w1.heap.size 42 i0 (.int .u64 0) 1 8 Tryz.underlying46 hi hz0 hz1 hz2 rfl (by omega) _ (m + i) _ rfl (hown.alloc _) ⟨wr.heap.size,0,none⟩ 1 1 [.int .u64 (a : Int)] rfl rfl ?c1 ?c2 (by omega) ?c3 ?c4 ?c5 (wr.heap.size + 1) (by simp) ?_)
         case c1 => exact cell_one_new _ _ _
         case c2 => intro u hu;simp at hu;subst hu;rfl
         case c3 => unfold maxLen;omega
         case c4 => omega
         case c5 => simp;omega
         intro gg cap1 w3 hown1 hgrow hat hg1
         have o3:=hideIt ((HX.out.alloc _).grown hgrow (fun p _ hp => (hown.lt p hp).1))
         have own3 : Hid (w3.ownsRow w1.heap.size 42 1 (.slice (some ⟨gg,0,none⟩) (m + i + 1) cap1) (m + (i + 1)) ((acc ++ List.replicate (i + 1) (a : Int)).map (Value.int .u64))):=by
          simp only [Hid]
          rw [rep_snoc,← Nat.add_assoc];simpa using hown1
         clear hown hown1 hgrow hat HX
         go_wp2
         go_roundg g
         case rel => exact ⟨i + 1,by omega,by go_num,own3.out,o3.out⟩
         case measure => omega
end Go.Proofs.YthapipgaohlgdaaGreatDoor


namespace Go.Proofs.YthapipgaohlgdaaGreatDoor
open Go.RowKit
def RUND (ys : List Int) (n : Int) : List Int × Int:=if n < 0 ∨ 65536 < n then ([],1) else runDec ys n.toNat
theorem run_decode_all (v : Value) (ys : List Int) (n : Int) (w : World) (h : Bs .u8 w v ys) (hr : ∀ y ∈ ys,0 ≤ y ∧ y ≤ 255) (hl : ys.length ≤ 1000000000000) :
  Calls Tryz.prog 153 #[v,.int .i64 n] w fun e w' => ∃ u,e = .returned (.tuple #[u,.int .i64 (RUND ys n).2]) ∧ w'.ownsRow w.heap.size 42 1 u (RUND ys n).1.length ((RUND ys n).1.map (Value.int .u64)) ∧ Only (fun _ => False) w w':=by
 unfold RUND
 by_cases hn : n < 0 ∨ 65536 < n
 ·rw [if_pos hn]
  refine (run_decode_arg v n w hn).mono ?_
  rintro e w' ⟨rfl,rfl⟩
  exact ⟨_,rfl,World.ownsRow_nil _ _ _ _,Only.refl _ _⟩
 ·rw [if_neg hn]
  obtain ⟨m,rfl⟩:=Int.eq_ofNat_of_zero_le (show 0 ≤ n by omega)
  exact run_decode_bs v ys m w h hr hl (by omega)
theorem RUND_nat (ys : List Int) (n : Nat) (h : n ≤ 65536) : RUND ys n = runDec ys n:=by
 unfold RUND
 rw [if_neg (by omega)]
 rfl
theorem RUND_facts {ys : List Int} {n : Int} (hr : ∀ y ∈ ys,0 ≤ y ∧ y ≤ 255) :
  (∃ c,RUND ys n = ([],c) ∧ c ≠ 0) ∨ (∃ l,RUND ys n = (l,0) ∧ U64 l ∧ (l.length : Int) = n ∧ l.length ≤ 65536 ∧ runE l = ys):=by
 unfold RUND
 by_cases hn : n < 0 ∨ 65536 < n
 ·rw [if_pos hn];exact .inl ⟨1,rfl,by decide⟩
 ·rw [if_neg hn]
  rcases runD_only (n.toNat + 1) [] ys n.toNat hr (by simp) (by simp) with ⟨c,h1,h2⟩ | ⟨t,h1,h2,h3,h4,_⟩
  ·exact .inl ⟨c,h1,by omega⟩
  ·rw [List.nil_append] at h1
   rw [List.length_nil,Nat.zero_add] at h2
   exact .inr ⟨t,h1,h4,by omega,by omega,h3.symm⟩
theorem runDec_enc {l : List Int} (hu : U64 l) (hl : l.length ≤ 65536) (z : List Int) : runDec (runE l ++ z) l.length = if 0 < z.length then ([],3) else (l,0):=by
 have:=runD_enc l (l.length + 1) [] z l.length hu (by omega) (by simp) (by omega) (joins_nil l)
 rw [List.nil_append] at this
 exact this
end Go.Proofs.YthapipgaohlgdaaGreatDoor


namespace Go.Proofs.YthapipgaohlgdaaGreatDoor
open Go.RowKit
def I64s (l : List Int) : Prop:=∀ x ∈ l,G64 x
def Byt (b : List Int) : Prop:=∀ y ∈ b,0 ≤ y ∧ y ≤ 255
def u64o (x : Int) : Int:=x % 18446744073709551616
def zsn (l : List Int) : List Int:=l.map zig
def zgn (l : List Int) : List Int:=l.map zag
def fx (l : List Int) : List Int:=l.flatMap fun x => fixL (u64o x) 8
def tms (tag : Nat) : Nat:=if tag = 3 ∨ tag = 4 then 2 else 1
def WOTH (z : List Int) (tag : Nat) : List Int × Int:=if tag = 2 then (PK z,0) else if tag = 3 then ENC z else if tag = 4 then (runE z,0) else (allG z,0)
def WAY (l : List Int) (tag : Nat) : List Int × Int :=
 if l = [] then ([],0) else if tag = 0 then (fx l,0) else
 if (WOTH ((zsn (D (tms tag) l)).drop 1) tag).2 ≠ 0 then ([],(WOTH ((zsn (D (tms tag) l)).drop 1) tag).2) else
 (gs ((zsn (D (tms tag) l)).getD 0 0).toNat ++ (WOTH ((zsn (D (tms tag) l)).drop 1) tag).1,0)
def WAY8 (l : List Int) (tag : Int) : List Int × Int:=if tag < 0 ∨ 4 < tag then ([],1) else if 65536 < l.length then ([],4) else WAY l tag.toNat
def pick (l : List Int) : Nat → Nat × List Int
 | 0 => (0,(WAY l 0).1)
 | t + 1 => if (WAY l (t + 1)).2 = 0 ∧ (WAY l (t + 1)).1.length < (pick l t).2.length then (t + 1,(WAY l (t + 1)).1) else pick l t
def ENC8 (l : List Int) : List Int × Int:=if 65536 < l.length then ([],4) else (((pick l 4).1 : Int) :: (pick l 4).2,0)
def fxN (ys : List Int) (n : Nat) : List Int:=(List.range n).map fun i => (num ((ys.drop (8 * i)).take 8) : Int)
def rFx (ys : List Int) (n : Nat) : List Int × Int:=if ys.length < 8 * n then ([],2) else (fxN ys n,0)
def rVs : Nat → List Int → List Int → List Int × List Int × Int
 | 0,acc,ys => (acc,ys,0)
 | n + 1,acc,ys => if (sVarint ys).2.2 ≠ 0 then ([],ys,(sVarint ys).2.2) else rVs n (acc ++ [(sVarint ys).1]) (ys.drop (sVarint ys).2.1)
def OTH (ys : List Int) (m tag : Nat) : List Int × Int :=
 if tag = 2 then ((UN ys m).2,(UN ys m).1) else if tag = 3 then DEC ys m else if tag = 4 then RUND ys m else ((rVs m [] ys).1,(rVs m [] ys).2.2)
def s64 (x : Int) : Int:=wrap64 x
def READ (ys : List Int) (n tag : Nat) : List Int × Int :=
 if n = 0 then ([],0) else if tag = 0 then ((rFx ys n).1.map s64,(rFx ys n).2) else
 if (sVarint ys).2.2 ≠ 0 then ([],(sVarint ys).2.2) else
 if (OTH (ys.drop (sVarint ys).2.1) (n - 1) tag).2 ≠ 0 then ([],(OTH (ys.drop (sVarint ys).2.1) (n - 1) tag).2) else
 (S (tms tag) (zag (sVarint ys).1 :: zgn (OTH (ys.drop (sVarint ys).2.1) (n - 1) tag).1),0)
def DEC8 (b : List Int) (n : Int) : List Int × Int :=
 if n < 0 ∨ 65536 < n then ([],1) else if b = [] then ([],2) else if 4 < b.getD 0 0 then ([],3) else
 if (READ (b.drop 1) n.toNat (b.getD 0 0).toNat).2 ≠ 0 then ([],(READ (b.drop 1) n.toNat (b.getD 0 0).toNat).2) else
 if (ENC8 (READ (b.drop 1) n.toNat (b.getD 0 0).toNat).1).1 = b then ((READ (b.drop 1) n.toNat (b.getD 0 0).toNat).1,0) else ([],3)
theorem zsn_length (l : List Int) : (zsn l).length = l.length:=by simp [zsn]
theorem zgn_length (l : List Int) : (zgn l).length = l.length:=by simp [zgn]
theorem zgn_zsn (l : List Int) : zgn (zsn l) = l:=by
 unfold zgn zsn
 rw [List.map_map]
 exact (List.map_congr_left (g:=id) (fun x _ => zag_zig x)).trans (List.map_id l)
theorem zsn_zgn (l : List Int) (h : U64 l) : zsn (zgn l) = l:=by
 unfold zgn zsn
 rw [List.map_map]
 exact (List.map_congr_left (g:=id) (fun x hx => zig_zag x (h x hx).1)).trans (List.map_id l)
theorem zsn_u64 {l : List Int} (h : I64s l) : U64 (zsn l):=by
 intro x hx
 simp only [zsn,List.mem_map] at hx
 obtain ⟨y,hy,rfl⟩:=hx
 exact zig_bounds y (h y hy).1 (h y hy).2
theorem zgn_i64 {l : List Int} (h : U64 l) : I64s (zgn l):=by
 intro x hx
 simp only [zgn,List.mem_map] at hx
 obtain ⟨y,hy,rfl⟩:=hx
 exact zag_bounds y (h y hy).1 (h y hy).2
theorem U64.drop {l : List Int} (h : U64 l) (k : Nat) : U64 (l.drop k):=fun x hx => h x (List.mem_of_mem_drop hx)
theorem U64.nil : U64 []:=fun x hx => by simp at hx
theorem byt_app {a b : List Int} (ha : Byt a) (hb : Byt b) : Byt (a ++ b):=fun y hy => (List.mem_append.1 hy).elim (ha y) (hb y)
theorem fx_length (l : List Int) : (fx l).length = 8 * l.length:=by
 induction l with
 | nil => rfl
 | cons x t ih =>
  have : fx (x :: t) = fixL (u64o x) 8 ++ fx t:=by simp [fx]
  rw [this,List.length_append,fixL_len,ih,List.length_cons];omega
theorem fx_snoc (l : List Int) (x : Int) : fx (l ++ [x]) = fx l ++ fixL (u64o x) 8:=by simp [fx]
theorem fx_byt (l : List Int) : Byt (fx l):=by
 intro y hy
 simp only [fx,List.mem_flatMap] at hy
 obtain ⟨x,_,hy⟩:=hy
 exact fixL_range _ _ y hy
theorem fx_at (l : List Int) : ∀ (i : Nat),i < l.length → ((fx l).drop (8 * i)).take 8 = fixL (u64o (l.getD i 0)) 8:=by
 induction l with
 | nil => intro i hi;simp at hi
 | cons x t ih =>
  intro i hi
  have e : fx (x :: t) = fixL (u64o x) 8 ++ fx t:=by simp [fx]
  have h8 : (fixL (u64o x) 8).length = 8:=fixL_len _ _
  cases i with
  | zero => rw [e,Nat.mul_zero,List.drop_zero,List.take_left' h8];rfl
  | succ i =>
   rw [e,show 8 * (i + 1) = 8 + 8 * i by omega,← List.drop_drop,List.drop_left' h8,ih i (by simpa using hi)]
   rfl
theorem s64_u64o {x : Int} (h : G64 x) : s64 (u64o x) = x:=by
 unfold s64 u64o
 have:=h.1;have:=h.2
 unfold G64 at h
 rw [show wrap64 (x % 18446744073709551616) = x by unfold wrap64;omega]
theorem num_u64o {x : Int} (h : G64 x) : s64 (num (fixL (u64o x) 8) : Int) = x:=by
 have h0 : 0 ≤ u64o x ∧ u64o x < 18446744073709551616:=by unfold u64o;omega
 obtain ⟨q,hq⟩ : ∃ q : Nat,u64o x = (q : Int):=⟨(u64o x).toNat,by omega⟩
 have hl : q < 18446744073709551616:=by omega
 have e:=s64_u64o h
 rw [hq] at e ⊢
 rw [num_fix8 q hl]
 exact e
theorem fxN_one {l : List Int} (i : Nat) (h2 : i < l.length) (hx : G64 (l.getD i 0)) : s64 (num (((fx l).drop (8 * i)).take 8) : Int) = l.getD i 0:=by
 rw [fx_at l i h2]
 exact num_u64o hx
theorem map_range_eq (l : List Int) (f : Nat → Int) (h : ∀ i,i < l.length → f i = l.getD i 0) : (List.range l.length).map f = l:=by
 apply List.ext_getElem
 ·rw [List.length_map,List.length_range]
 ·intro i h1 h2
  rw [List.getElem_map,List.getElem_range,h i h2]
  simp [List.getD_eq_getElem?_getD,List.getElem?_eq_getElem h2]
theorem fxN_map (ys : List Int) (n : Nat) (f : Int → Int) : (fxN ys n).map f = (List.range n).map fun i => f (num ((ys.drop (8 * i)).take 8) : Int):=by
 unfold fxN
 rw [List.map_map]
 exact List.map_congr_left (fun _ _ => rfl)
theorem fxN_fx {l : List Int} (h : I64s l) : (fxN (fx l) l.length).map s64 = l:=by
 rw [fxN_map]
 refine map_range_eq l _ (fun i hi => fxN_one i hi (h _ ?_))
 rw [List.getD_eq_getElem?_getD,List.getElem?_eq_getElem hi]
 exact List.getElem_mem hi
theorem fxN_length (ys : List Int) (n : Nat) : (fxN ys n).length = n:=by simp [fxN]
theorem fxN_succ (ys : List Int) (n : Nat) : fxN ys (n + 1) = fxN ys n ++ [(num ((ys.drop (8 * n)).take 8) : Int)]:=by simp [fxN,List.range_succ]
theorem s64_g (x : Int) : G64 (s64 x):=w64_g x
theorem rVs_gs (l : List Int) : ∀ (acc z : List Int),U64 l → rVs l.length acc (allG l ++ z) = (acc ++ l,z,0):=by
 induction l with
 | nil => intro acc z _;simp [rVs,allG]
 | cons x t ih =>
  intro acc z hu
  have hx:=hu x List.mem_cons_self
  have e : allG (x :: t) ++ z = gs x.toNat ++ (allG t ++ z):=by simp [allG]
  have hs:=sVarint_gs x.toNat (allG t ++ z) (by omega)
  rw [List.length_cons,rVs,e,hs]
  simp only [ne_eq,not_true_eq_false,if_false]
  rw [List.drop_left,Int.toNat_of_nonneg hx.1,ih _ _ (fun y hy => hu y (List.mem_cons_of_mem _ hy))]
  simp
theorem rVs_only (n : Nat) : ∀ (acc ys : List Int),Byt ys → (∃ r c,rVs n acc ys = ([],r,c) ∧ (c = 2 ∨ c = 3)) ∨ (∃ t r,rVs n acc ys = (acc ++ t,r,0) ∧ t.length = n ∧ U64 t ∧ ys = allG t ++ r):=by
 induction n with
 | zero => intro acc ys _;exact .inr ⟨[],ys,by simp [rVs],rfl,U64.nil,by simp [allG]⟩
 | succ n ih =>
  intro acc ys hr
  rcases sVarint_cases hr with ⟨c,h,hc⟩ | ⟨a,k,h,h1,h2,h3,h4⟩
  ·left
   refine ⟨ys,c,?_,hc⟩
   rw [rVs,h]
   simp only [ne_eq]
   rw [if_pos (by omega)]
  ·have e : rVs (n + 1) acc ys = rVs n (acc ++ [(a : Int)]) (ys.drop k):=by
    rw [rVs,h];simp
   rw [e]
   rcases ih (acc ++ [(a : Int)]) (ys.drop k) (fun y hy => hr y (List.mem_of_mem_drop hy)) with ⟨r,c,h5,h6⟩ | ⟨t,r,h5,h6,h7,h8⟩
   ·exact .inl ⟨r,c,h5,h6⟩
   ·refine .inr ⟨(a : Int) :: t,r,by rw [h5];simp,by simp [h6],?_,?_⟩
    ·intro x hx
     rcases List.mem_cons.1 hx with rfl | hx
     ·omega
     ·exact h7 x hx
    ·exact h4.trans (by rw [h8];simp [allG])
theorem rVs_pre (n : Nat) : ∀ (p acc ys : List Int),(rVs n acc ys).2.2 = 0 → rVs n (p ++ acc) ys = (p ++ (rVs n acc ys).1,(rVs n acc ys).2):=by
 induction n with
 | zero => intro p acc ys _;rfl
 | succ n ih =>
  intro p acc ys h
  rw [rVs] at h ⊢
  rw [rVs]
  by_cases hs : (sVarint ys).2.2 ≠ 0
  ·rw [if_pos hs] at h;exact absurd h hs
  ·rw [if_neg hs] at h ⊢
   rw [if_neg hs,List.append_assoc,ih _ _ _ h]
theorem rVs_err (n : Nat) : ∀ (acc acc' ys : List Int),(rVs n acc ys).2.2 = (rVs n acc' ys).2.2:=by
 induction n with
 | zero => intro acc acc' ys;rfl
 | succ n ih =>
  intro acc acc' ys
  rw [rVs,rVs]
  by_cases hs : (sVarint ys).2.2 ≠ 0
  ·rw [if_pos hs,if_pos hs]
  ·rw [if_neg hs,if_neg hs];exact ih _ _ _
theorem WOTH_byt {z : List Int} (hu : U64 z) {tag : Nat} : Byt (WOTH z tag).1:=by
 unfold WOTH
 by_cases h2 : tag = 2
 ·rw [if_pos h2];exact PK_rng hu
 ·rw [if_neg h2]
  by_cases h3 : tag = 3
  ·rw [if_pos h3]
   by_cases h : (ENC z).2 = 0
   ·obtain ⟨e,hup,_⟩:=ENC_ok (fun x hx => (hu x hx).1) h
    rw [e];exact enc_range _ z rfl hup
   ·unfold ENC at h ⊢
    by_cases hl : 65536 < z.length
    ·rw [if_pos hl];intro y hy;simp at hy
    ·rw [if_neg hl] at h ⊢
     by_cases hs : small 60 z = true
     ·rw [if_pos hs] at h;exact absurd rfl h
     ·rw [if_neg hs];intro y hy;simp at hy
  ·rw [if_neg h3]
   by_cases h4 : tag = 4
   ·rw [if_pos h4];exact runE_range z
   ·rw [if_neg h4];exact allG_range z
theorem OTH_back {z : List Int} (hu : U64 z) (hl : z.length ≤ 65536) {tag : Nat} (h : (WOTH z tag).2 = 0) : OTH (WOTH z tag).1 z.length tag = (z,0):=by
 unfold WOTH at *
 unfold OTH
 by_cases h2 : tag = 2
 ·simp only [if_pos h2]
  rw [un_pk hu hl]
 ·simp only [if_neg h2] at h ⊢
  by_cases h3 : tag = 3
  ·simp only [if_pos h3] at h ⊢
   obtain ⟨e,hup,_⟩:=ENC_ok (fun x hx => (hu x hx).1) h
   rw [e,DEC_nat _ _ hl];exact dec_enc hup
  ·simp only [if_neg h3] at h ⊢
   by_cases h4 : tag = 4
   ·simp only [if_pos h4]
    rw [RUND_nat _ _ hl]
    have:=runDec_enc hu hl []
    rw [List.append_nil] at this
    exact this
   ·simp only [if_neg h4]
    have:=rVs_gs z [] [] hu
    rw [List.append_nil,List.nil_append] at this
    rw [this]
theorem OTH_err {ys : List Int} {m tag : Nat} (hr : Byt ys) (h : (OTH ys m tag).2 ≠ 0) : (OTH ys m tag).1 = []:=by
 unfold OTH at *
 by_cases h2 : tag = 2
 ·simp only [if_pos h2] at h ⊢;exact UN_err _ _ h
 ·simp only [if_neg h2] at h ⊢
  by_cases h3 : tag = 3
  ·simp only [if_pos h3] at h ⊢
   rcases DEC_facts (n:=(m : Int)) hr with ⟨c,e,_⟩ | ⟨l,e,_⟩
   ·rw [e]
   ·rw [e] at h;exact absurd rfl h
  ·simp only [if_neg h3] at h ⊢
   by_cases h4 : tag = 4
   ·simp only [if_pos h4] at h ⊢
    rcases RUND_facts (n:=(m : Int)) hr with ⟨c,e,_⟩ | ⟨l,e,_⟩
    ·rw [e]
    ·rw [e] at h;exact absurd rfl h
   ·simp only [if_neg h4] at h ⊢
    rcases rVs_only m [] ys hr with ⟨r,c,e,_⟩ | ⟨t,r,e,_⟩
    ·rw [e]
    ·rw [e] at h;exact absurd rfl h
theorem OTH_only {ys : List Int} {m tag : Nat} (hr : Byt ys) (h : (OTH ys m tag).2 = 0) : U64 (OTH ys m tag).1 ∧ (OTH ys m tag).1.length = m:=by
 unfold OTH at *
 by_cases h2 : tag = 2
 ·simp only [if_pos h2] at h ⊢
  obtain ⟨_,hlen,_⟩:=UN_ok h
  exact ⟨UN_u64 _ _,by omega⟩
 ·simp only [if_neg h2] at h ⊢
  by_cases h3 : tag = 3
  ·simp only [if_pos h3] at h ⊢
   rcases DEC_facts (n:=(m : Int)) hr with ⟨c,e,hc⟩ | ⟨l,e,hu,hl,_⟩
   ·rw [e] at h;exact absurd h hc
   ·rw [e]
    refine ⟨fun x hx => ?_,by simp only;omega⟩
    have:=hu x hx
    have h60 : (2 : Int) ^ 60 = 1152921504606846976:=by decide
    omega
  ·simp only [if_neg h3] at h ⊢
   by_cases h4 : tag = 4
   ·simp only [if_pos h4] at h ⊢
    rcases RUND_facts (n:=(m : Int)) hr with ⟨c,e,hc⟩ | ⟨l,e,hu,hl,_⟩
    ·rw [e] at h;exact absurd h hc
    ·rw [e];exact ⟨hu,by simp only;omega⟩
   ·simp only [if_neg h4] at h ⊢
    rcases rVs_only m [] ys hr with ⟨r,c,e,hc⟩ | ⟨t,r,e,hl,hu,_⟩
    ·rw [e] at h;exact absurd h (by simp only;omega)
    ·rw [e];exact ⟨by simpa using hu,by simpa using hl⟩
end Go.Proofs.YthapipgaohlgdaaGreatDoor


namespace Go.Proofs.YthapipgaohlgdaaGreatDoor
open Go.RowKit
theorem D_i64 {l : List Int} (h : I64s l) (k : Nat) : I64s (D k l):=D_g k l h
theorem zD_u64 {l : List Int} (h : I64s l) (k : Nat) : U64 (zsn (D k l)):=zsn_u64 (D_i64 h k)
theorem zD_length (l : List Int) (k : Nat) : (zsn (D k l)).length = l.length:=by rw [zsn_length,D_length]
theorem getD_u64 {l : List Int} (h : U64 l) (hp : 0 < l.length) : 0 ≤ l.getD 0 0 ∧ l.getD 0 0 ≤ 18446744073709551615:=by
 cases l with
 | nil => simp at hp
 | cons a t => exact h a List.mem_cons_self
theorem cons_drop {l : List Int} (hp : 0 < l.length) : l.getD 0 0 :: l.drop 1 = l:=by
 cases l with
 | nil => simp at hp
 | cons a t => rfl
theorem tms_le (tag : Nat) : tms tag ≤ 3:=by unfold tms;split <;> omega
theorem WAY_nil (tag : Nat) : WAY [] tag = ([],0):=by unfold WAY;simp
theorem WAY_zero {l : List Int} : WAY l 0 = (fx l,0):=by
 unfold WAY
 by_cases h : l = []
 ·rw [if_pos h,h];rfl
 ·rw [if_neg h];rfl
theorem WAY_ok {l : List Int} {tag : Nat} (hne : l ≠ []) (ht : tag ≠ 0) (h : (WAY l tag).2 = 0) :
  (WOTH ((zsn (D (tms tag) l)).drop 1) tag).2 = 0 ∧ WAY l tag = (gs ((zsn (D (tms tag) l)).getD 0 0).toNat ++ (WOTH ((zsn (D (tms tag) l)).drop 1) tag).1,0):=by
 unfold WAY at *
 rw [if_neg hne,if_neg ht] at h ⊢
 by_cases hw : (WOTH ((zsn (D (tms tag) l)).drop 1) tag).2 ≠ 0
 ·rw [if_pos hw] at h;exact absurd h hw
 ·rw [if_neg hw];exact ⟨by simpa using hw,rfl⟩
theorem WAY_byt {l : List Int} (hg : I64s l) (tag : Nat) : Byt (WAY l tag).1:=by
 unfold WAY
 by_cases hne : l = []
 ·rw [if_pos hne];intro y hy;simp at hy
 ·rw [if_neg hne]
  by_cases ht : tag = 0
  ·rw [if_pos ht];exact fx_byt l
  ·rw [if_neg ht]
   by_cases hw : (WOTH ((zsn (D (tms tag) l)).drop 1) tag).2 ≠ 0
   ·rw [if_pos hw];intro y hy;simp at hy
   ·rw [if_neg hw]
    exact byt_app (gs_range _) (WOTH_byt ((zD_u64 hg _).drop 1))
theorem READ_WAY {l : List Int} {tag : Nat} (hg : I64s l) (hl : l.length ≤ 65536) (h : (WAY l tag).2 = 0) : READ (WAY l tag).1 l.length tag = (l,0):=by
 by_cases hne : l = []
 ·subst hne;rfl
 have hp : 0 < l.length:=List.length_pos_iff.2 hne
 by_cases ht : tag = 0
 ·subst ht
  rw [WAY_zero]
  unfold READ rFx
  rw [if_neg (by omega),if_pos rfl,if_neg (by simp only [fx_length];omega),fxN_fx hg]
 obtain ⟨hw,e⟩:=WAY_ok hne ht h
 rw [e]
 have hz:=zD_u64 hg (tms tag)
 have hzl:=zD_length l (tms tag)
 have h0:=getD_u64 hz (by omega)
 have hs:=sVarint_gs ((zsn (D (tms tag) l)).getD 0 0).toNat (WOTH ((zsn (D (tms tag) l)).drop 1) tag).1 (by omega)
 have hb:=OTH_back (hz.drop 1) (by rw [List.length_drop];omega) hw
 rw [List.length_drop,hzl] at hb
 unfold READ
 rw [if_neg (by omega),if_neg ht]
 simp only [hs,ne_eq,not_true_eq_false,if_false,List.drop_left,hb]
 rw [Int.toNat_of_nonneg h0.1]
 have e2 : zag ((zsn (D (tms tag) l)).getD 0 0) :: zgn ((zsn (D (tms tag) l)).drop 1) = zgn ((zsn (D (tms tag) l)).getD 0 0 :: (zsn (D (tms tag) l)).drop 1):=rfl
 rw [e2,cons_drop (by omega),zgn_zsn,S_D _ _ hg]
theorem READ_ok {ys : List Int} {n tag : Nat} (hr : Byt ys) (h : (READ ys n tag).2 = 0) : I64s (READ ys n tag).1 ∧ (READ ys n tag).1.length = n:=by
 unfold READ at *
 by_cases hn : n = 0
 ·rw [if_pos hn];exact ⟨fun x hx => by simp at hx,by simp [hn]⟩
 ·rw [if_neg hn] at h ⊢
  by_cases ht : tag = 0
  ·rw [if_pos ht] at h ⊢
   unfold rFx at *
   by_cases hl : ys.length < 8 * n
   ·rw [if_pos hl] at h;cases h
   ·rw [if_neg hl]
    refine ⟨fun x hx => ?_,by simp [fxN]⟩
    simp only [List.mem_map] at hx
    obtain ⟨y,_,rfl⟩:=hx
    exact s64_g y
  ·rw [if_neg ht] at h ⊢
   by_cases hv : (sVarint ys).2.2 ≠ 0
   ·rw [if_pos hv] at h;exact absurd h hv
   ·rw [if_neg hv] at h ⊢
    by_cases ho : (OTH (ys.drop (sVarint ys).2.1) (n - 1) tag).2 ≠ 0
    ·rw [if_pos ho] at h;exact absurd h ho
    ·rw [if_neg ho]
     have ho' : (OTH (ys.drop (sVarint ys).2.1) (n - 1) tag).2 = 0:=by simpa using ho
     obtain ⟨hu,hlen⟩:=OTH_only (fun y hy => hr y (List.mem_of_mem_drop hy)) ho'
     refine ⟨S_g _ _ (fun x hx => ?_),?_⟩
     ·rcases List.mem_cons.1 hx with rfl | hx
      ·rcases sVarint_cases hr with ⟨c,h1,hc⟩ | ⟨a,k,h1,_,_,h3,_⟩
       ·rw [h1] at hv;exact absurd (by simp only;omega) hv
       ·rw [h1];exact zag_bounds a (by omega) (by omega)
      ·exact zgn_i64 hu x hx
     ·simp only [S_length,List.length_cons,zgn_length,hlen];omega
theorem READ_err {ys : List Int} {n tag : Nat} (h : (READ ys n tag).2 ≠ 0) : (READ ys n tag).1 = []:=by
 unfold READ at *
 by_cases hn : n = 0
 ·rw [if_pos hn]
 ·rw [if_neg hn] at h ⊢
  by_cases ht : tag = 0
  ·rw [if_pos ht] at h ⊢
   unfold rFx at *
   by_cases hl : ys.length < 8 * n
   ·rw [if_pos hl];rfl
   ·rw [if_neg hl] at h;exact absurd rfl h
  ·rw [if_neg ht] at h ⊢
   by_cases hv : (sVarint ys).2.2 ≠ 0
   ·rw [if_pos hv]
   ·rw [if_neg hv] at h ⊢
    by_cases ho : (OTH (ys.drop (sVarint ys).2.1) (n - 1) tag).2 ≠ 0
    ·rw [if_pos ho]
    ·rw [if_neg ho] at h;exact absurd rfl h
theorem pick_spec (l : List Int) : ∀ t,(pick l t).1 ≤ t ∧ WAY l (pick l t).1 = ((pick l t).2,0) ∧ ∀ s,s ≤ t → (WAY l s).2 = 0 → (pick l t).2.length ≤ (WAY l s).1.length
 | 0 => by
  refine ⟨Nat.le_refl _,?_,fun s hs _ => ?_⟩
  ·show WAY l 0 = ((WAY l 0).1,0)
   rw [WAY_zero]
  ·have : s = 0:=by omega
   subst this;exact Nat.le_refl _
 | t + 1 => by
  obtain ⟨h1,h2,h3⟩:=pick_spec l t
  rw [pick]
  by_cases hc : (WAY l (t + 1)).2 = 0 ∧ (WAY l (t + 1)).1.length < (pick l t).2.length
  ·rw [if_pos hc]
   refine ⟨Nat.le_refl _,by rw [← hc.1],fun s hs h0 => ?_⟩
   rcases Nat.lt_or_ge s (t + 1) with h | h
   ·have:=h3 s (by omega) h0;simp only;omega
   ·have : s = t + 1:=by omega
    subst this;exact Nat.le_refl _
  ·rw [if_neg hc]
   refine ⟨by omega,h2,fun s hs h0 => ?_⟩
   rcases Nat.lt_or_ge s (t + 1) with h | h
   ·exact h3 s (by omega) h0
   ·have : s = t + 1:=by omega
    subst this
    rcases Nat.lt_or_ge (WAY l (t + 1)).1.length (pick l t).2.length with h4 | h4
    ·exact absurd ⟨h0,h4⟩ hc
    ·exact h4
theorem ENC8_of {l : List Int} (hl : l.length ≤ 65536) : ENC8 l = (((pick l 4).1 : Int) :: (pick l 4).2,0):=if_neg (by omega)
theorem ENC8_len {l : List Int} (hl : l.length ≤ 65536) : (ENC8 l).1.length ≤ 1 + 8 * l.length ∧ 0 < (ENC8 l).1.length:=by
 rw [ENC8_of hl]
 have h:=(pick_spec l 4).2.2 0 (by omega) (by rw [WAY_zero])
 rw [WAY_zero] at h
 simp only [fx_length] at h
 simp only [List.length_cons]
 omega
theorem ENC8_byt {l : List Int} (hg : I64s l) : Byt (ENC8 l).1:=by
 unfold ENC8
 by_cases hl : 65536 < l.length
 ·rw [if_pos hl];intro y hy;simp at hy
 ·rw [if_neg hl]
  obtain ⟨h1,h2,_⟩:=pick_spec l 4
  intro y hy
  rcases List.mem_cons.1 hy with rfl | hy
  ·omega
  ·have:=WAY_byt hg (pick l 4).1
   rw [h2] at this
   exact this y hy
theorem WAY8_nat {l : List Int} (hl : l.length ≤ 65536) (t : Nat) (ht : t ≤ 4) : WAY8 l t = WAY l t:=by
 unfold WAY8
 rw [if_neg (by omega),if_neg (by omega)]
 rfl
theorem DEC8_ENC8 {l : List Int} (hg : I64s l) (hl : l.length ≤ 65536) : DEC8 (ENC8 l).1 l.length = (l,0):=by
 have he:=ENC8_of hl
 obtain ⟨h1,h2,_⟩:=pick_spec l 4
 have hR:=READ_WAY hg hl (tag:=(pick l 4).1) (by rw [h2])
 rw [h2] at hR
 unfold DEC8
 rw [if_neg (by omega)]
 rw [he]
 simp only [List.drop_succ_cons,List.drop_zero,List.getD_cons_zero,Int.toNat_natCast,hR]
 rw [if_neg (by simp),if_neg (by omega),if_neg (by simp),if_pos (by rw [he])]
theorem DEC8_ok {b : List Int} {n : Int} (hr : Byt b) (h : (DEC8 b n).2 = 0) : 0 ≤ n ∧ n ≤ 65536 ∧ ((DEC8 b n).1.length : Int) = n ∧ I64s (DEC8 b n).1 ∧ (ENC8 (DEC8 b n).1) = (b,0):=by
 unfold DEC8 at *
 by_cases hn : n < 0 ∨ 65536 < n
 ·rw [if_pos hn] at h;cases h
 ·rw [if_neg hn] at h ⊢
  by_cases hb : b = []
  ·rw [if_pos hb] at h;cases h
  ·rw [if_neg hb] at h ⊢
   by_cases h4 : 4 < b.getD 0 0
   ·rw [if_pos h4] at h;cases h
   ·rw [if_neg h4] at h ⊢
    by_cases hR : (READ (b.drop 1) n.toNat (b.getD 0 0).toNat).2 ≠ 0
    ·rw [if_pos hR] at h;exact absurd h hR
    ·rw [if_neg hR] at h ⊢
     by_cases hE : (ENC8 (READ (b.drop 1) n.toNat (b.getD 0 0).toNat).1).1 = b
     ·rw [if_pos hE]
      obtain ⟨hg,hlen⟩:=READ_ok (fun y hy => hr y (List.mem_of_mem_drop hy)) (show (READ (b.drop 1) n.toNat (b.getD 0 0).toNat).2 = 0 by simpa using hR)
      refine ⟨by omega,by omega,by simp only [hlen];omega,hg,?_⟩
      have:=ENC8_of (l:=(READ (b.drop 1) n.toNat (b.getD 0 0).toNat).1) (by rw [hlen];omega)
      rw [this] at hE ⊢
      simp only at hE
      simp only [hE]
     ·rw [if_neg hE] at h;cases h
end Go.Proofs.YthapipgaohlgdaaGreatDoor


namespace Go.Proofs.YthapipgaohlgdaaGreatDoor
open Go.RowKit
def dct : List Int → List Int → List Int
 | d,[] => d
 | d,x :: t => if x ∈ d then dct d t else dct (d ++ [x]) t
def dic (l : List Int) : List Int:=dct [] l
theorem dct_snoc (l : List Int) (y : Int) : ∀ d,dct d (l ++ [y]) = if y ∈ dct d l then dct d l else dct d l ++ [y]:=by
 induction l with
 | nil => intro d;rfl
 | cons x t ih =>
  intro d
  rw [List.cons_append,dct,dct]
  by_cases h : x ∈ d
  ·rw [if_pos h,if_pos h,ih]
  ·rw [if_neg h,if_neg h,ih]
theorem dct_mem (l : List Int) : ∀ (d : List Int) (y : Int),y ∈ dct d l ↔ y ∈ d ∨ y ∈ l:=by
 induction l with
 | nil => intro d y;simp [dct]
 | cons x t ih =>
  intro d y
  rw [dct]
  by_cases h : x ∈ d
  ·rw [if_pos h,ih,List.mem_cons]
   constructor
   ·rintro (h1 | h1)
    ·exact .inl h1
    ·exact .inr (.inr h1)
   ·rintro (h1 | rfl | h1)
    ·exact .inl h1
    ·exact .inl h
    ·exact .inr h1
  ·rw [if_neg h,ih,List.mem_cons,List.mem_append]
   constructor
   ·rintro ((h1 | h1) | h1)
    ·exact .inl h1
    ·exact .inr (.inl (by simpa using h1))
    ·exact .inr (.inr h1)
   ·rintro (h1 | rfl | h1)
    ·exact .inl (.inl h1)
    ·exact .inl (.inr (by simp))
    ·exact .inr h1
theorem dct_nodup (l : List Int) : ∀ d : List Int,d.Nodup → (dct d l).Nodup:=by
 induction l with
 | nil => intro d h;exact h
 | cons x t ih =>
  intro d h
  rw [dct]
  by_cases hx : x ∈ d
  ·rw [if_pos hx];exact ih d h
  ·rw [if_neg hx]
   refine ih _ (List.nodup_append.2 ⟨h,by simp,?_⟩)
   intro a ha b hb e
   simp at hb
   subst hb e
   exact hx ha
theorem dct_len (l : List Int) : ∀ d : List Int,(dct d l).length ≤ d.length + l.length:=by
 induction l with
 | nil => intro d;simp [dct]
 | cons x t ih =>
  intro d
  rw [dct]
  by_cases h : x ∈ d
  ·rw [if_pos h];have:=ih d;simp only [List.length_cons];omega
  ·rw [if_neg h];have:=ih (d ++ [x]);simp only [List.length_cons,List.length_append,List.length_nil] at *;omega
theorem dic_mem (l : List Int) (y : Int) : y ∈ dic l ↔ y ∈ l:=by unfold dic;rw [dct_mem];simp
theorem dic_nodup (l : List Int) : (dic l).Nodup:=dct_nodup l [] List.nodup_nil
theorem dic_len (l : List Int) : (dic l).length ≤ l.length:=by have:=dct_len l [];simpa [dic] using this
theorem dic_u64 {l : List Int} (hu : U64 l) : U64 (dic l):=fun y hy => hu y ((dic_mem l y).1 hy)
theorem dic_snoc (l : List Int) (y : Int) : dic (l ++ [y]) = if y ∈ dic l then dic l else dic l ++ [y]:=dct_snoc l y []
theorem dic_pos {l : List Int} (h : l ≠ []) : 0 < (dic l).length:=by
 cases l with
 | nil => exact absurd rfl h
 | cons x t =>
  have : x ∈ dic (x :: t):=(dic_mem _ _).2 List.mem_cons_self
  exact List.length_pos_of_mem this
def plc (d : List Int) (v : Int) : Nat:=d.idxOf v
theorem plc_lt {d : List Int} {v : Int} (h : v ∈ d) : plc d v < d.length:=List.idxOf_lt_length_of_mem h
theorem plc_get {d : List Int} {v : Int} (h : v ∈ d) : d.getD (plc d v) 0 = v:=by
 have hl:=plc_lt h
 rw [List.getD_eq_getElem?_getD,List.getElem?_eq_getElem hl]
 exact List.getElem_idxOf hl
def wP (k : Nat) : Nat:=if k = 0 then 0 else wid (k - 1)
theorem wP_lt {k p : Nat} (h : p < k) : p < 2 ^ wP k:=by
 unfold wP
 rw [if_neg (by omega)]
 have:=(wid_le_iff (k - 1) (wid (k - 1))).1 (Nat.le_refl _)
 omega
theorem wP_le {k : Nat} (h : k ≤ 65536) : wP k ≤ 16:=by
 unfold wP
 by_cases h0 : k = 0
 ·rw [if_pos h0];omega
 ·rw [if_neg h0];exact (wid_le_iff _ 16).2 (by omega)
def bitsP (w : Nat) (ps : List Nat) : List Bool:=ps.flatMap fun p => bitsOf p w
theorem bitsP_cons (w p : Nat) (ps : List Nat) : bitsP w (p :: ps) = bitsOf p w ++ bitsP w ps:=rfl
theorem bitsP_len (w : Nat) (ps : List Nat) : (bitsP w ps).length = ps.length * w:=by
 induction ps with
 | nil => simp [bitsP]
 | cons p t ih => rw [bitsP_cons,List.length_append,bitsOf_length,ih,List.length_cons,Nat.succ_mul];omega
theorem bitsP_snoc (w : Nat) (ps : List Nat) (p : Nat) : bitsP w (ps ++ [p]) = bitsP w ps ++ bitsOf p w:=by simp [bitsP]
def rdP (w : Nat) : Nat → List Bool → List Nat
 | 0,_ => []
 | n + 1,k => bnum (k.take w) :: rdP w n (k.drop w)
theorem rdP_len (w : Nat) : ∀ (n : Nat) (k : List Bool),(rdP w n k).length = n
 | 0,_ => rfl
 | n + 1,k => by rw [rdP,List.length_cons,rdP_len w n]
theorem rdP_bits (w : Nat) (ps : List Nat) : ∀ r : List Bool,(∀ p ∈ ps,p < 2 ^ w) → rdP w ps.length (bitsP w ps ++ r) = ps:=by
 induction ps with
 | nil => intro r _;rfl
 | cons p t ih =>
  intro r h
  have hl : (bitsOf p w).length = w:=bitsOf_length _ _
  rw [List.length_cons,rdP,bitsP_cons,List.append_assoc,List.take_left' hl,List.drop_left' hl,num_bitsOf,Nat.mod_eq_of_lt (h p List.mem_cons_self),ih r (fun q hq => h q (List.mem_cons_of_mem _ hq))]
theorem rdP_snoc (w : Nat) : ∀ (n : Nat) (k : List Bool),rdP w (n + 1) k = rdP w n k ++ [bnum ((k.drop (n * w)).take w)]
 | 0,k => by simp [rdP]
 | n + 1,k => by
  rw [rdP,rdP_snoc w n (k.drop w),rdP,List.drop_drop,List.cons_append,Nat.succ_mul,Nat.add_comm w]
def fx8 (d : List Int) : List Int:=d.flatMap fun v => fixL v 8
theorem fx8_cons (v : Int) (d : List Int) : fx8 (v :: d) = fixL v 8 ++ fx8 d:=rfl
theorem fx8_snoc (d : List Int) (v : Int) : fx8 (d ++ [v]) = fx8 d ++ fixL v 8:=by simp [fx8]
theorem fx8_len (d : List Int) : (fx8 d).length = 8 * d.length:=by
 induction d with
 | nil => rfl
 | cons v t ih => rw [fx8_cons,List.length_append,fixL_len,ih,List.length_cons];omega
def rd8 : Nat → List Int → List Int
 | 0,_ => []
 | n + 1,b => ((num (b.take 8) : Nat) : Int) :: rd8 n (b.drop 8)
theorem rd8_len : ∀ (n : Nat) (b : List Int),(rd8 n b).length = n
 | 0,_ => rfl
 | n + 1,b => by rw [rd8,List.length_cons,rd8_len n]
theorem rd8_fx (d : List Int) : ∀ r : List Int,U64 d → rd8 d.length (fx8 d ++ r) = d:=by
 induction d with
 | nil => intro r _;rfl
 | cons v t ih =>
  intro r hu
  have hv:=hu v List.mem_cons_self
  obtain ⟨n,rfl⟩:=Int.eq_ofNat_of_zero_le hv.1
  rw [List.length_cons,rd8,fx8_cons,List.append_assoc,List.take_left' (fixL_len _ 8),List.drop_left' (fixL_len _ 8),num_fix8 n (by omega),ih r (fun q hq => hu q (List.mem_cons_of_mem _ hq))]
theorem rd8_snoc : ∀ (n : Nat) (b : List Int),rd8 (n + 1) b = rd8 n b ++ [((num ((b.drop (8 * n)).take 8) : Nat) : Int)]
 | 0,b => by simp [rd8]
 | n + 1,b => by
  rw [rd8,rd8_snoc n (b.drop 8),rd8,List.drop_drop,List.cons_append,show 8 + 8 * n = 8 * (n + 1) by omega]
theorem rd8_u64 : ∀ (n : Nat) (b : List Int),(∀ y ∈ b,0 ≤ y ∧ y ≤ 255) → U64 (rd8 n b)
 | 0,_,_ => fun x hx => by simp [rd8] at hx
 | n + 1,b,hr => fun x hx => by
  rw [rd8] at hx
  rcases List.mem_cons.1 hx with rfl | h
  ·have h1:=num_lt (b.take 8) (fun y hy => hr y (List.mem_of_mem_take hy))
   have h2 : (256 : Nat) ^ (b.take 8).length ≤ 256 ^ 8:=Nat.pow_le_pow_right (by omega) (by rw [List.length_take];omega)
   have h3 : (256 : Nat) ^ 8 = 18446744073709551616:=by decide
   omega
  ·exact rd8_u64 n _ (fun y hy => hr y (List.mem_of_mem_drop hy)) x h
def tail10 (d l : List Int) : List Bool:=bitsP (wP d.length) (l.map (plc d))
def ENC10 (l : List Int) : List Int × Int:=if 65536 < l.length then ([],4) else (gs (dic l).length ++ (fx8 (dic l) ++ bytesI (tail10 (dic l) l)),0)
theorem ENC10_of {l : List Int} (h : l.length ≤ 65536) : ENC10 l = (gs (dic l).length ++ (fx8 (dic l) ++ bytesI (tail10 (dic l) l)),0):=if_neg (by omega)
def DECB (many n : Nat) (rest b : List Int) : List Int × Int :=
 if rest.length < 8 * many then ([],2) else
 if (allBits (rest.drop (8 * many))).length < n * wP many then ([],2) else
 if ∃ p ∈ rdP (wP many) n (allBits (rest.drop (8 * many))),many ≤ p then ([],3) else
 if (ENC10 ((rdP (wP many) n (allBits (rest.drop (8 * many)))).map fun p => (rd8 many rest).getD p 0)).1 = b then ((rdP (wP many) n (allBits (rest.drop (8 * many)))).map fun p => (rd8 many rest).getD p 0,0) else ([],3)
def DEC10 (b : List Int) (n : Int) : List Int × Int :=
 if n < 0 ∨ 65536 < n then ([],1) else
 if (sVarint b).2.2 ≠ 0 then ([],(sVarint b).2.2) else
 if n < (sVarint b).1 then ([],3) else
 DECB (sVarint b).1.toNat n.toNat (b.drop (sVarint b).2.1) b
theorem tail10_len (d l : List Int) : (tail10 d l).length = l.length * wP d.length:=by unfold tail10;rw [bitsP_len,List.length_map]
theorem plc_all {l : List Int} : ∀ p ∈ l.map (plc (dic l)),p < (dic l).length:=by
 intro p hp
 obtain ⟨x,hx,rfl⟩:=List.mem_map.1 hp
 exact plc_lt ((dic_mem l x).2 hx)
theorem back10 (l : List Int) : (l.map (plc (dic l))).map (fun p => (dic l).getD p 0) = l:=by
 rw [List.map_map]
 exact (List.map_congr_left (g:=id) (fun x hx => plc_get ((dic_mem l x).2 hx))).trans (List.map_id l)
end Go.Proofs.YthapipgaohlgdaaGreatDoor
