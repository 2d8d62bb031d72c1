/- Several texts in one: Ir, Ir2, Dk4, Df, Dn. -/
import Derived.Test.YthapipgaohlgdaaGreatDoorG11
import Derived.Test.YthapipgaohlgdaaGreatDoorG8
import Derived.Maps.OwnSet
import Derived.Maps.OwnOps
import Derived.Test.YthapipgaohlgdaaGreatDoorG1
import Derived.Test.YthapipgaohlgdaaGreatDoorG6
import Derived.Test.YthapipgaohlgdaaGreatDoorG9
import Derived.Test.YthapipgaohlgdaaGreatDoorG2
import Derived.Test.YthapipgaohlgdaaGreatDoorG5


namespace Go.Proofs.YthapipgaohlgdaaGreatDoor
set_option maxRecDepth 100000
open Go.RowKit
theorem map_s64_snoc (ys : List Int) (k : Nat) : ((fxN ys (k + 1)).map s64).map (Value.int .i64) = ((fxN ys k).map s64).map (Value.int .i64) ++ [.int .i64 (s64 (num ((ys.drop (8 * k)).take 8) : Int))]:=by
 rw [fxN_succ,List.map_append,List.map_append];rfl
set_option maxHeartbeats 800000 in
theorem readFixed_cur {w : World} {R : Nat} {v : Value} {ys : List Int} (h : CurAt 92 w R v ys) (hvb : ∀ k,v.ownBlock = some k → k < w.heap.size) (n : Nat) (hn : n ≤ 65536) :
  Calls Tryz.prog 121 #[.pointer (some ⟨R,0,none⟩),.int .i64 n] w fun e w' => ∃ u,e = .returned (.tuple #[u,.int .i64 (rFx ys n).2]) ∧ w'.ownsRow w.heap.size 3 1 u ((rFx ys n).1.map s64).length (((rFx ys n).1.map s64).map (Value.int .i64)) ∧ Only (fun k => k = R) w w':=by
 obtain ⟨i0,hi,hz0,hz1,hz2⟩:=info_parts Tryz.infoI64
 have hR : R < w.heap.size:=(Array.getElem?_eq_some_iff.1 h.cell).1
 have HC:=hideIt h
 have HVB:=hideIt hvb
 clear h hvb
 go_enter Tryz.func121,Tryz.ntmps121
 go_wp2
 go_loopw [6,10] (fun s i wr => ∃ (k : Nat) (v' : Value),k ≤ n ∧ i = .int .i64 k ∧ wr.ownsRow w.heap.size 3 1 s k (((fxN ys k).map s64).map (Value.int .i64)) ∧ CurAt 92 wr R v' (ys.drop (8 * k)) ∧ v'.ownBlock = v.ownBlock ∧ 8 * k ≤ ys.length ∧ Only (fun k => k = R) w wr) (fun _ i _ => n - (intOf i).toNat)
 case atStart => exact ⟨0,v,Nat.zero_le _,rfl,World.ownsRow_nil _ _ _ _,HC.out,rfl,by omega,Only.refl _ _⟩
 case round =>
  obtain ⟨k,v',hk,rfl,hown,hcur,hob,h8,hon⟩:=hrel
  have HOWN:=hideIt hown
  have HON:=hideIt hon
  have HOB:=hideIt hob
  by_cases hlt : k < n
  ·have dlt : decide ((k : Int) < (n : Int)) = true:=by simp;omega
   have FX:=hideIt (fixed_cur hcur 8)
   by_cases hs : (ys.drop (8 * k)).length < 8
   ·rw [sFixed8_short hs] at FX
    have HR : Hid (rFx ys n = ([],2)):=by
     simp only [Hid];unfold rFx
     rw [List.length_drop] at hs
     rw [if_pos (by omega)]
    clear hown hcur hob hon hs HC
    go_wp2_with fail
    refine FX.out.mono ?_
    rintro e w2 ⟨rfl,v2,_,_,o2⟩
    have O2:=hideIt (HON.out.trans o2 (fun _ _ e => e))
    clear FX o2 HOWN
    go_wp2
    go_ret2
    rw [HR.out]
    exact ⟨_,rfl,World.ownsRow_nil _ _ _ _,O2.out⟩
   ·rw [sFixed8_ok (by omega)] at FX
    have h9 : 8 * (k + 1) ≤ ys.length:=by rw [List.length_drop] at hs;omega
    have HST:=hideIt (map_s64_snoc ys k)
    have HDR : Hid ((ys.drop (8 * k)).drop 8 = ys.drop (8 * (k + 1))):=by
     simp only [Hid];rw [List.drop_drop,Nat.mul_add]
    rw [HDR.out] at FX
    have HX : Hid (∀ x : Int,IntKind.i64.wrap x = s64 x):=fun x => by unfold s64 wrap64;exact IntKind.wrap_i64 x
    generalize (num ((ys.drop (8 * k)).take 8) : Int) = x at *
    clear hown hcur hob hon hs HC HDR
    go_wp2_with fail
    refine FX.out.mono ?_
    rintro e w2 ⟨rfl,v2,cur2,ob2,o2⟩
    have O2:=hideIt (HON.out.trans o2 (fun _ _ e => e))
    have own2:=o2.own HOWN.out (fun q hq e => by have:=(HOWN.out.lt q hq).1;omega)
    have CUR2:=hideIt cur2
    have OB2:=hideIt (ob2.trans HOB.out)
    have hsz:=O2.out.size
    clear FX o2 HOWN HON HOB cur2 ob2
    go_wp2_with (at_builtin;refine wpList_append_lies _ rfl _ _ _ rfl w.heap.size 3 i0 (.int .i64 0) 1 8 Tryz.underlying45 hi hz0 hz1 hz2 rfl (by omega) _ k _ rfl (own2.alloc _) ⟨w2.heap.size,0,none⟩ 1 1 [.int .i64 (s64 x)] rfl rfl ?c1 ?c2 (by omega) ?c3 ?c4 ?c5 (w2.heap.size + 1) (by simp) ?_)
    case c1 => first | exact cell_one_new _ _ _ | (rw [← HX.out x];exact cell_one_new _ _ _)
    case c2 => intro u hu;simp at hu;subst hu;rfl
    case c3 => unfold maxLen;omega
    case c4 => omega
    case c5 => simp;omega
    intro gg cap1 w3 hown1 hgrow hat hg1
    have o3:=hideIt (((Only.refl (fun q => w.heap.size ≤ q) w2).alloc _).grown hgrow (fun p _ hp => (own2.lt p hp).1))
    have own3 : Hid (w3.ownsRow w.heap.size 3 1 (.slice (some ⟨gg,0,none⟩) (k + 1) cap1) (k + 1) (((fxN ys (k + 1)).map s64).map (Value.int .i64))):=by
     simp only [Hid]
     rw [HST.out,List.map_map];exact hown1
    clear own2 hown1 hgrow hat
    go_wp2
    go_roundw
    case rel =>
     refine ⟨k + 1,v2,by omega,by go_num,own3.out,CUR2.out.keep o3.out (by omega) (fun q hq e => ?_),OB2.out,h9,O2.out.trans o3.out (fun q hq e => absurd e (by omega))⟩
     rw [OB2.out] at hq
     have:=HVB.out q hq
     omega
    case measure => simp [intOf];omega
  ·obtain rfl : k = n:=by omega
   have dlt : decide ((k : Int) < (k : Int)) = false:=by simp
   have HR : Hid (rFx ys k = (fxN ys k,0)):=by
    simp only [Hid];unfold rFx
    rw [if_neg (by omega)]
   clear hown hcur hob hon HC
   go_wp2
   go_ret2
   rw [HR.out]
   refine ⟨_,rfl,?_,HON.out⟩
   rw [List.length_map,fxN_length]
   exact HOWN.out
theorem rVs_stop {n : Nat} {acc ys : List Int} {a : Int} {k : Nat} {c : Int} (hs : sVarint ys = (a,k,c)) (hc : c ≠ 0) : rVs (n + 1) acc ys = ([],ys,c):=by
 rw [rVs,hs];simp only [ne_eq];rw [if_pos hc]
theorem rVs_go {n : Nat} {acc ys : List Int} {a : Int} {k : Nat} (hs : sVarint ys = (a,k,0)) : rVs (n + 1) acc ys = rVs n (acc ++ [a]) (ys.drop k):=by
 rw [rVs,hs];simp
set_option maxHeartbeats 800000 in
theorem readVarints_cur {w : World} {R : Nat} {v : Value} {ys : List Int} (h : CurAt 92 w R v ys) (hvb : ∀ k,v.ownBlock = some k → k < w.heap.size) (n : Nat) (hn : n ≤ 65536) :
  Calls Tryz.prog 154 #[.pointer (some ⟨R,0,none⟩),.int .i64 n] w fun e w' => ∃ u,e = .returned (.tuple #[u,.int .i64 (rVs n [] ys).2.2]) ∧ w'.ownsRow w.heap.size 42 1 u (rVs n [] ys).1.length ((rVs n [] ys).1.map (Value.int .u64)) ∧ Only (fun k => k = R) w w':=by
 obtain ⟨i0,hi,hz0,hz1,hz2⟩:=info_parts Tryz.infoU64
 have hR : R < w.heap.size:=(Array.getElem?_eq_some_iff.1 h.cell).1
 have HC:=hideIt h
 have HVB:=hideIt hvb
 clear h hvb
 go_enter Tryz.func154,Tryz.ntmps154
 go_wp2
 go_loopw [6,10] (fun s i wr => ∃ (k g : Nat) (acc ys' : List Int) (v' : Value),k + g = n ∧ i = .int .i64 k ∧ acc.length = k ∧ wr.ownsRow w.heap.size 42 1 s k (acc.map (Value.int .u64)) ∧ CurAt 92 wr R v' ys' ∧ v'.ownBlock = v.ownBlock ∧ Hid (rVs g acc ys' = rVs n [] ys) ∧ Only (fun k => k = R) w wr) (fun _ i _ => n - (intOf i).toNat)
 case atStart => exact ⟨0,n,[],ys,v,by omega,rfl,rfl,World.ownsRow_nil _ _ _ _,HC.out,rfl,rfl,Only.refl _ _⟩
 case round =>
  obtain ⟨k,g,acc,ys',v',hk,rfl,hal,hown,hcur,hob,HRV,hon⟩:=hrel
  have HOWN:=hideIt hown
  have HON:=hideIt hon
  have HOB:=hideIt hob
  have HAL:=hideIt hal
  cases g with
  | succ g =>
   have dlt : decide ((k : Int) < (n : Int)) = true:=by simp;omega
   have FX:=varint_cur hcur
   rcases sVarint_cases hcur.rng with ⟨c,hs,hc⟩ | ⟨a,q,hs,_,_,ha,_⟩
   ·rw [hs] at FX
    have FX:=hideIt FX
    have HR:=HRV.out
    rw [rVs_stop hs (by omega)] at HR
    have HR:=hideIt HR
    have dc : (c != 0) = true:=by simp;omega
    clear hown hcur hob hon hs HC hal HRV hc
    go_wp2_with fail
    refine FX.out.mono ?_
    rintro e w2 ⟨rfl,v2,_,_,o2⟩
    have O2:=hideIt (HON.out.trans o2 (fun _ _ e => e))
    clear FX o2 HOWN
    go_wp2
    go_ret2
    rw [← HR.out]
    exact ⟨_,rfl,World.ownsRow_nil _ _ _ _,O2.out⟩
   ·rw [hs] at FX
    have FX:=hideIt FX
    have HR:=HRV.out
    rw [rVs_go hs] at HR
    have HR:=hideIt HR
    clear hown hcur hob hon hs HC hal HRV
    go_wp2_with fail
    refine FX.out.mono ?_
    rintro e w2 ⟨rfl,v2,cur2,ob2,o2⟩
    have O2:=hideIt (HON.out.trans o2 (fun _ _ e => e))
    have own2:=o2.own HOWN.out (fun q hq e => by have:=(HOWN.out.lt q hq).1;omega)
    have CUR2:=hideIt cur2
    have OB2:=hideIt (ob2.trans HOB.out)
    have hsz:=O2.out.size
    clear FX o2 HOWN HON HOB cur2 ob2
    go_wp2_with (at_builtin;refine wpList_append_lies _ rfl _ _ _ rfl w.heap.size 42 i0 (.int .u64 0) 1 8 Tryz.underlying46 hi hz0 hz1 hz2 rfl (by omega) _ k _ rfl (own2.alloc _) ⟨w2.heap.size,0,none⟩ 1 1 [.int .u64 (a : Int)] rfl rfl ?c1 ?c2 (by omega) ?c3 ?c4 ?c5 (w2.heap.size + 1) (by simp) ?_)
    case c1 => exact cell_one_new _ _ _
    case c2 => intro u hu;simp at hu;subst hu;rfl
    case c3 => unfold maxLen;omega
    case c4 => omega
    case c5 => simp;omega
    intro gg cap1 w3 hown1 hgrow hat hg1
    have o3:=hideIt (((Only.refl (fun q => w.heap.size ≤ q) w2).alloc _).grown hgrow (fun p _ hp => (own2.lt p hp).1))
    have own3 : Hid (w3.ownsRow w.heap.size 42 1 (.slice (some ⟨gg,0,none⟩) (k + 1) cap1) (k + 1) ((acc ++ [(a : Int)]).map (Value.int .u64))):=by
     simp only [Hid]
     rw [List.map_append];exact hown1
    clear own2 hown1 hgrow hat
    go_wp2
    go_roundw
    case rel =>
     refine ⟨k + 1,g,acc ++ [(a : Int)],_,v2,by omega,by go_num,by simp [HAL.out],own3.out,CUR2.out.keep o3.out (by omega) (fun q hq e => ?_),OB2.out,HR.out,O2.out.trans o3.out (fun q hq e => absurd e (by omega))⟩
     rw [OB2.out] at hq
     have:=HVB.out q hq
     omega
    case measure => simp [intOf];omega
  | zero =>
   obtain rfl : k = n:=by omega
   have dlt : decide ((k : Int) < (k : Int)) = false:=by simp
   have HR : Hid (rVs k [] ys = (acc,ys',0)):=HRV.out.symm
   clear hown hcur hob hon HC hal HRV
   go_wp2
   go_ret2
   rw [HR.out]
   refine ⟨_,rfl,?_,HON.out⟩
   simp only [HAL.out]
   exact HOWN.out
set_option maxHeartbeats 800000 in
theorem zags_any (x : Int) (v : Value) (l : List Int) (w : World) (h : Bs .u64 w v l) (hu : U64 l) (hl : l.length ≤ 65536) (x0 : 0 ≤ x) (x1 : x ≤ 18446744073709551615) :
  Calls Tryz.prog 124 #[.int .u64 x,v] w fun e w' => ∃ u,e = .returned u ∧ w'.ownsRow w.heap.size 3 1 u (l.length + 1) ((zag x :: zgn l).map (Value.int .i64)) ∧ Only (fun _ => False) w w':=by
 obtain ⟨i0,hi,hz0,hz1,hz2⟩:=info_parts Tryz.infoI64
 have ZX:=hideIt (zag_any x w x0 x1)
 have HB:=hideIt h
 have HU:=hideIt hu
 obtain ⟨ao,cap,rfl⟩:=h.len
 obtain ⟨n,hn⟩ : ∃ n,n = l.length:=⟨_,rfl⟩
 rw [← hn] at hl HB
 rw [← hn]
 have HN:=hideIt hn
 have START:=hideIt (World.ownsRow_lit (base:=w.heap.size) (e:=3) (size:=1) w #[.int .i64 (zag x)] 1 (Nat.le_refl _) (by unfold maxLen;omega) rfl)
 obtain ⟨y,hy⟩ : ∃ y,y = zag x:=⟨_,rfl⟩
 rw [← hy] at ZX START ⊢
 clear h hn hu x0 x1 hy
 go_enter Tryz.func124,Tryz.ntmps124
 go_wp2_with fail
 refine ZX.out.mono ?_
 rintro e w1 ⟨rfl,rfl⟩
 clear ZX
 go_wp2
 go_loopw [5,13] (fun s i wr => ∃ k : Nat,k ≤ n ∧ i = .int .i64 k ∧ wr.ownsRow w.heap.size 3 1 s (k + 1) ((y :: zgn (l.take k)).map (Value.int .i64)) ∧ Only (fun _ => False) w wr) (fun _ i _ => n - (intOf i).toNat)
 case atStart => exact ⟨0,Nat.zero_le _,rfl,START.out,(Only.refl _ _).alloc _⟩
 case round =>
  obtain ⟨k,hk,rfl,hown,hon⟩:=hrel
  have HOWN:=hideIt hown
  have HON:=hideIt hon
  clear START
  by_cases hlt : k < n
  ·have dlt : decide ((k : Int) < (n : Int)) = true:=by simp;omega
   have hkl : k < l.length:=by rw [← HN.out];exact hlt
   obtain ⟨b,off,cap',e1,hc0⟩:=(HB.out.past hon).at k hkl
   have ea : ao = some ⟨b,off,none⟩:=by simp at e1;exact e1.1
   subst ea
   clear e1
   have hx:=HU.out (l.getD k 0) (getD_mem0 l k hkl)
   have HST : Hid ((y :: zgn (l.take (k + 1))).map (Value.int .i64) = (y :: zgn (l.take k)).map (Value.int .i64) ++ [.int .i64 (zag (l.getD k 0))]):=by
    simp only [Hid];rw [take_snoc l k hkl];simp [zgn]
   have ZK:=hideIt (zag_any (l.getD k 0) wr hx.1 hx.2)
   generalize l.getD k 0 = z at *
   have own2:=HOWN.out
   have hsz:=HON.out.size
   clear hown hon HB HU hkl hx
   go_wp2_with fail
   refine ZK.out.mono ?_
   rintro e w2 ⟨rfl,rfl⟩
   clear ZK
   generalize zag z = q at *
   go_wp2_with (at_builtin;refine wpList_append_lies _ rfl _ _ _ rfl w.heap.size 3 i0 (.int .i64 0) 1 8 Tryz.underlying45 hi hz0 hz1 hz2 rfl (by omega) _ (k + 1) _ rfl (own2.alloc _) ⟨wr.heap.size,0,none⟩ 1 1 [.int .i64 q] rfl rfl ?c1 ?c2 (by omega) ?c3 ?c4 ?c5 (wr.heap.size + 1) (by simp) ?_)
   case c1 => exact cell_one_new _ _ _
   case c2 => intro u hu;simp at hu;subst hu;rfl
   case c3 => unfold maxLen;omega
   case c4 => omega
   case c5 => simp;omega
   intro gg cap1 w3 hown1 hgrow hat hg1
   have o3:=hideIt ((HON.out.alloc _).grown hgrow (fun p hp0 hp => absurd (own2.lt p hp).1 (by omega)))
   have own3 : Hid (w3.ownsRow w.heap.size 3 1 (.slice (some ⟨gg,0,none⟩) (k + 1 + 1) cap1) (k + 1 + 1) ((y :: zgn (l.take (k + 1))).map (Value.int .i64))):=by
    simp only [Hid]
    rw [HST.out];exact hown1
   clear own2 hown1 hgrow hat
   go_wp2
   go_roundw
   case rel => exact ⟨k + 1,by omega,by go_num,own3.out,o3.out⟩
   case measure => simp [intOf];omega
  ·obtain rfl : k = n:=by omega
   have dlt : decide ((k : Int) < (k : Int)) = false:=by simp
   have F : Hid (wr.ownsRow w.heap.size 3 1 u5 (k + 1) ((y :: zgn l).map (Value.int .i64))):=by
    have h1:=HOWN.out
    rw [HN.out,List.take_length] at h1
    simp only [Hid]
    rw [HN.out];exact h1
   clear hown hon
   go_wp2
   go_ret
   exact ⟨_,rfl,F.out,HON.out⟩
theorem sBytes_len (ys : List Int) : sBytes ys.length ys = (ys,ys.length,0):=by
 unfold sBytes
 rw [if_neg (by omega),if_neg (by omega)]
 simp
set_option maxHeartbeats 400000 in
theorem rest_cur {w : World} {R : Nat} {v : Value} {ys : List Int} (h : CurAt 92 w R v ys) :
  Calls Tryz.prog 151 #[.pointer (some ⟨R,0,none⟩)] w fun e w' => ∃ u,e = .returned u ∧ Bs .u8 w' u ys ∧ Only (fun k => k = R) w w':=by
 have L:=hideIt (Left_cur h)
 have B:=bytes_cur h ys.length
 rw [sBytes_len] at B
 have B:=hideIt B
 clear h
 go_enter Tryz.func151,Tryz.ntmps151
 go_wp2_with fail
 refine L.out.mono ?_
 rintro e w1 ⟨rfl,rfl⟩
 clear L
 go_wp2_with fail
 refine B.out.mono ?_
 rintro e w2 ⟨u,rfl,bs,_,_,v2,_,_,o2⟩
 have F:=hideIt (And.intro bs o2)
 obtain ⟨f1,c1,e1⟩:=bs.len
 subst e1
 clear B bs o2
 go_wp2
 go_ret
 exact ⟨_,rfl,F.out⟩
end Go.Proofs.YthapipgaohlgdaaGreatDoor


namespace Go.Proofs.YthapipgaohlgdaaGreatDoor
set_option maxRecDepth 100000
open Go.RowKit
set_option maxHeartbeats 400000 in
theorem oth_two {w : World} {R : Nat} {v : Value} {ys : List Int} (h : CurAt 92 w R v ys) (m : Nat) :
  Calls Tryz.prog 122 #[.pointer (some ⟨R,0,none⟩),.int .i64 m,.int .i64 2] w fun e w' => ∃ u,e = .returned (.tuple #[u,.int .i64 (OTH ys m 2).2]) ∧ w'.ownsRow w.heap.size 42 1 u (OTH ys m 2).1.length ((OTH ys m 2).1.map (Value.int .u64)) ∧ Only (fun k => k = R) w w':=by
 have RC:=hideIt (rest_cur h)
 have HRG:=hideIt h.rng
 have HL:=hideIt h.len
 clear h
 go_enter Tryz.func122,Tryz.ntmps122
 go_wp2_with fail
 refine RC.out.mono ?_
 rintro e w1 ⟨u,rfl,bs,o1⟩
 have B:=hideIt (unpack_bs u ys m w1 bs HRG.out HL.out)
 have O1:=hideIt o1
 obtain ⟨f1,c1,e1⟩:=bs.len
 subst e1
 clear RC bs o1
 go_wp2_with fail
 refine B.out.mono ?_
 rintro e w2 ⟨u2,rfl,own2,o2⟩
 have F:=hideIt (And.intro (own_low own2 O1.out.size) (O1.out.trans o2 (fun _ _ f => f.elim)))
 obtain ⟨f2,c2,e2⟩:=(Bs.of_own own2).len
 subst e2
 clear B own2 o2
 go_wp2
 try rw [Exit.noGoto_ret]
 go_ret2
 exact ⟨_,rfl,F.out.1,F.out.2⟩
set_option maxHeartbeats 400000 in
theorem oth_three {w : World} {R : Nat} {v : Value} {ys : List Int} (h : CurAt 92 w R v ys) (m : Nat) :
  Calls Tryz.prog 122 #[.pointer (some ⟨R,0,none⟩),.int .i64 m,.int .i64 3] w fun e w' => ∃ u,e = .returned (.tuple #[u,.int .i64 (OTH ys m 3).2]) ∧ w'.ownsRow w.heap.size 42 1 u (OTH ys m 3).1.length ((OTH ys m 3).1.map (Value.int .u64)) ∧ Only (fun k => k = R) w w':=by
 have RC:=hideIt (rest_cur h)
 have HRG:=hideIt h.rng
 have HL:=hideIt h.len
 clear h
 go_enter Tryz.func122,Tryz.ntmps122
 go_wp2_with fail
 refine RC.out.mono ?_
 rintro e w1 ⟨u,rfl,bs,o1⟩
 have B:=hideIt (decode_all u ys m w1 bs HRG.out HL.out)
 have O1:=hideIt o1
 obtain ⟨f1,c1,e1⟩:=bs.len
 subst e1
 clear RC bs o1
 go_wp2_with fail
 refine B.out.mono ?_
 rintro e w2 ⟨u2,rfl,own2,o2⟩
 have F:=hideIt (And.intro (own_low own2 O1.out.size) (O1.out.trans o2 (fun _ _ f => f.elim)))
 obtain ⟨f2,c2,e2⟩:=(Bs.of_own own2).len
 subst e2
 clear B own2 o2
 go_wp2
 try rw [Exit.noGoto_ret]
 go_ret2
 exact ⟨_,rfl,F.out.1,F.out.2⟩
set_option maxHeartbeats 400000 in
theorem oth_four {w : World} {R : Nat} {v : Value} {ys : List Int} (h : CurAt 92 w R v ys) (m : Nat) :
  Calls Tryz.prog 122 #[.pointer (some ⟨R,0,none⟩),.int .i64 m,.int .i64 4] w fun e w' => ∃ u,e = .returned (.tuple #[u,.int .i64 (OTH ys m 4).2]) ∧ w'.ownsRow w.heap.size 42 1 u (OTH ys m 4).1.length ((OTH ys m 4).1.map (Value.int .u64)) ∧ Only (fun k => k = R) w w':=by
 have RC:=hideIt (rest_cur h)
 have HRG:=hideIt h.rng
 have HL:=hideIt h.len
 clear h
 go_enter Tryz.func122,Tryz.ntmps122
 go_wp2_with fail
 refine RC.out.mono ?_
 rintro e w1 ⟨u,rfl,bs,o1⟩
 have B:=hideIt (run_decode_all u ys m w1 bs HRG.out HL.out)
 have O1:=hideIt o1
 obtain ⟨f1,c1,e1⟩:=bs.len
 subst e1
 clear RC bs o1
 go_wp2_with fail
 refine B.out.mono ?_
 rintro e w2 ⟨u2,rfl,own2,o2⟩
 have F:=hideIt (And.intro (own_low own2 O1.out.size) (O1.out.trans o2 (fun _ _ f => f.elim)))
 obtain ⟨f2,c2,e2⟩:=(Bs.of_own own2).len
 subst e2
 clear B own2 o2
 go_wp2
 try rw [Exit.noGoto_ret]
 go_ret2
 exact ⟨_,rfl,F.out.1,F.out.2⟩
set_option maxHeartbeats 400000 in
theorem oth_one {w : World} {R : Nat} {v : Value} {ys : List Int} (h : CurAt 92 w R v ys) (hvb : ∀ k,v.ownBlock = some k → k < w.heap.size) (m : Nat) (hm : m ≤ 65536) :
  Calls Tryz.prog 122 #[.pointer (some ⟨R,0,none⟩),.int .i64 m,.int .i64 1] w fun e w' => ∃ u,e = .returned (.tuple #[u,.int .i64 (rVs m [] ys).2.2]) ∧ w'.ownsRow w.heap.size 42 1 u (rVs m [] ys).1.length ((rVs m [] ys).1.map (Value.int .u64)) ∧ Only (fun k => k = R) w w':=by
 have B:=hideIt (readVarints_cur h hvb m hm)
 clear h hvb hm
 go_enter Tryz.func122,Tryz.ntmps122
 go_wp2_with fail
 refine B.out.mono ?_
 rintro e w2 ⟨u2,rfl,own2,o2⟩
 have F:=hideIt (And.intro own2 o2)
 obtain ⟨f2,c2,e2⟩:=(Bs.of_own own2).len
 subst e2
 clear B own2 o2
 go_wp2
 try rw [Exit.noGoto_ret]
 go_ret2
 exact ⟨_,rfl,F.out.1,F.out.2⟩
theorem oth_any {w : World} {R : Nat} {v : Value} {ys : List Int} (h : CurAt 92 w R v ys) (hvb : ∀ k,v.ownBlock = some k → k < w.heap.size) (m t : Nat) (hm : m ≤ 65536) (h1 : 1 ≤ t) (h4 : t ≤ 4) :
  Calls Tryz.prog 122 #[.pointer (some ⟨R,0,none⟩),.int .i64 m,.int .i64 t] w fun e w' => ∃ u,e = .returned (.tuple #[u,.int .i64 (OTH ys m t).2]) ∧ w'.ownsRow w.heap.size 42 1 u (OTH ys m t).1.length ((OTH ys m t).1.map (Value.int .u64)) ∧ Only (fun k => k = R) w w':=by
 rcases t with _ | _ | _ | _ | _ | t
 ·omega
 ·exact oth_one h hvb m hm
 ·exact oth_two h m
 ·exact oth_three h m
 ·exact oth_four h m
 ·omega
set_option maxHeartbeats 400000 in
theorem read_nil (R t : Nat) (w : World) :
  Calls Tryz.prog 85 #[.pointer (some ⟨R,0,none⟩),.int .i64 0,.int .i64 t] w fun e w' => e = .returned (.tuple #[.slice none 0 0,.int .i64 0]) ∧ w = w':=by
 go_enter Tryz.func85,Tryz.ntmps85
 go_wp2
 try rw [Exit.noGoto_ret]
 go_ret2
 exact ⟨rfl,rfl⟩
set_option maxHeartbeats 400000 in
theorem read_zero {w : World} {R : Nat} {v : Value} {ys : List Int} (h : CurAt 92 w R v ys) (hvb : ∀ k,v.ownBlock = some k → k < w.heap.size) (n : Nat) (hn : n ≤ 65536) (hp : 0 < n) :
  Calls Tryz.prog 85 #[.pointer (some ⟨R,0,none⟩),.int .i64 n,.int .i64 0] w fun e w' => ∃ u,e = .returned (.tuple #[u,.int .i64 (rFx ys n).2]) ∧ w'.ownsRow w.heap.size 3 1 u ((rFx ys n).1.map s64).length (((rFx ys n).1.map s64).map (Value.int .i64)) ∧ Only (fun k => k = R) w w':=by
 have B:=hideIt (readFixed_cur h hvb n hn)
 have d0 : ((n : Int) == 0) = false:=by rw [beq_eq_false_iff_ne];omega
 generalize (rFx ys n).1.map s64 = z at *
 clear h hvb hn hp
 go_enter Tryz.func85,Tryz.ntmps85
 go_wp2_with fail
 refine B.out.mono ?_
 rintro e w2 ⟨u2,rfl,own2,o2⟩
 have F:=hideIt (And.intro own2 o2)
 obtain ⟨f2,c2,e2⟩:=(Bs.of_own own2).len
 subst e2
 clear B own2 o2
 go_wp2
 try rw [Exit.noGoto_ret]
 go_ret2
 exact ⟨_,rfl,F.out.1,F.out.2⟩
set_option maxHeartbeats 1600000 in
theorem read_other {w : World} {R : Nat} {v : Value} {ys : List Int} (h : CurAt 92 w R v ys) (hvb : ∀ k,v.ownBlock = some k → k < w.heap.size) (m t : Nat) (hm : m < 65536) (h1 : 1 ≤ t) (h4 : t ≤ 4) :
  Calls Tryz.prog 85 #[.pointer (some ⟨R,0,none⟩),.int .i64 (m + 1 : Nat),.int .i64 t] w fun e w' => ∃ u,e = .returned (.tuple #[u,.int .i64 (READ ys (m + 1) t).2]) ∧ w'.ownsRow w.heap.size 3 1 u (READ ys (m + 1) t).1.length ((READ ys (m + 1) t).1.map (Value.int .i64)) ∧ Only (fun k => k = R) w w':=by
 have hR : R < w.heap.size:=(Array.getElem?_eq_some_iff.1 h.cell).1
 have V:=varint_cur h
 have d0 : (((m + 1 : Nat) : Int) == 0) = false:=by rw [beq_eq_false_iff_ne];omega
 have d1 : ((t : Int) == 0) = false:=by rw [beq_eq_false_iff_ne];omega
 have em : ((m + 1 : Nat) : Int) - 1 = (m : Int):=by omega
 have HVB:=hideIt hvb
 have hRD : READ ys (m + 1) t = if (sVarint ys).2.2 ≠ 0 then ([],(sVarint ys).2.2) else
   if (OTH (ys.drop (sVarint ys).2.1) m t).2 ≠ 0 then ([],(OTH (ys.drop (sVarint ys).2.1) m t).2) else
   (S (tms t) (zag (sVarint ys).1 :: zgn (OTH (ys.drop (sVarint ys).2.1) m t).1),0):=by
  unfold READ
  rw [if_neg (by omega),if_neg (by omega),Nat.add_sub_cancel]
 rcases sVarint_cases h.rng with ⟨c,hs,hc⟩ | ⟨a,q,hs,_,_,ha,_⟩
 ·rw [hs] at V hRD
  simp only at hRD
  rw [if_pos (by omega)] at hRD
  rw [hRD]
  have V:=hideIt V
  have dc : (c != 0) = true:=by simp;omega
  clear h hvb hs hRD hc
  go_enter Tryz.func85,Tryz.ntmps85
  go_wp2_with fail
  refine V.out.mono ?_
  rintro e w2 ⟨rfl,v2,_,_,o2⟩
  have O2:=hideIt o2
  clear V o2
  go_wp2
  try rw [Exit.noGoto_ret]
  go_ret2
  exact ⟨_,rfl,World.ownsRow_nil _ _ _ _,O2.out⟩
 ·rw [hs] at V hRD
  simp only [ne_eq,not_true_eq_false,if_false] at hRD
  have V:=hideIt V
  have HYB : Hid (Byt (ys.drop q)):=fun y hy => h.rng y (List.mem_of_mem_drop hy)
  have HOT : Hid (∀ (v2 : Value) (w2 : World),CurAt 92 w2 R v2 (ys.drop q) → v2.ownBlock = v.ownBlock → w.heap.size ≤ w2.heap.size → Calls Tryz.prog 122 #[.pointer (some ⟨R,0,none⟩),.int .i64 m,.int .i64 t] w2 fun e w' => ∃ u,e = .returned (.tuple #[u,.int .i64 (OTH (ys.drop q) m t).2]) ∧ w'.ownsRow w2.heap.size 42 1 u (OTH (ys.drop q) m t).1.length ((OTH (ys.drop q) m t).1.map (Value.int .u64)) ∧ Only (fun k => k = R) w2 w') :=
   fun v2 w2 hc ho hz => oth_any hc (fun k hk => by rw [ho] at hk;have:=hvb k hk;omega) m t (by omega) h1 h4
  have HTM : Hid (∀ w2,Calls Tryz.prog 67 #[.int .i64 t] w2 fun e w' => e = .returned (.int .i64 (tms t)) ∧ w2 = w'):=fun w2 => times_any t w2 h1 h4
  have HT3:=hideIt (tms_le t)
  by_cases ho : (OTH (ys.drop q) m t).2 = 0
  ·have HON:=hideIt (OTH_only HYB.out ho)
   rw [if_neg (by simpa using ho)] at hRD
   rw [hRD]
   simp only [S_length,List.length_cons,zgn_length,HON.out.2]
   generalize hW : OTH (ys.drop q) m t = W at *
   obtain ⟨o,c⟩:=W
   simp only at ho HON HOT ⊢
   subst ho
   clear h hvb hs hRD hW
   generalize tms t = k at *
   have ha1 : (a : Int) ≤ 18446744073709551615:=by omega
   obtain ⟨zz,hzz⟩ : ∃ zz,zz = zag a :: zgn o:=⟨_,rfl⟩
   rw [← hzz]
   have HZZ:=hideIt hzz
   clear hzz
   go_enter Tryz.func85,Tryz.ntmps85
   go_wp2_with fail
   refine V.out.mono ?_
   rintro e w2 ⟨rfl,v2,cur2,ob2,o2⟩
   have OC:=hideIt (HOT.out v2 w2 cur2 ob2 o2.size)
   have O2:=hideIt o2
   clear V o2 HOT cur2 ob2
   go_wp2_with fail
   refine OC.out.mono ?_
   rintro e w3 ⟨u3,rfl,own3,o3⟩
   have O3:=hideIt (O2.out.trans o3 (fun _ _ e => e))
   have ZG:=hideIt (zags_any a u3 o w3 (Bs.of_own own3) HON.out.1 (by rw [HON.out.2];omega) (by omega) ha1)
   obtain ⟨f3,c3,e3⟩:=(Bs.of_own own3).len
   rw [HON.out.2] at e3 ZG
   subst e3
   clear OC own3 o3 O2
   go_wp2_with fail
   refine ZG.out.mono ?_
   rintro e w4 ⟨u4,rfl,own4,o4⟩
   have hzl : zz.length = m + 1:=by rw [HZZ.out,List.length_cons,zgn_length,HON.out.2]
   have hbz : Bs .i64 w4 u4 zz:=Bs.of_own (by rw [hzl,HZZ.out];exact own4)
   have SU:=hideIt (sum_in u4 zz k w4 hbz (by rw [hzl];omega) HT3.out)
   have O4:=hideIt (O3.out.trans o4 (fun _ _ f => f.elim))
   obtain ⟨f4,c4,e4⟩:=hbz.len
   rw [hzl] at e4 SU
   subst e4
   clear ZG own4 o4 O3 hbz hzl
   go_wp2_with fail
   refine (HTM.out w4).mono ?_
   rintro e w5 ⟨rfl,rfl⟩
   clear HTM
   go_wp2_with fail
   refine SU.out.mono ?_
   rintro e w6 ⟨u6,rfl,own6,o6⟩
   have F:=hideIt (And.intro (own_low own6 O4.out.size) (O4.out.trans o6 (fun _ _ f => f.elim)))
   clear SU o6
   obtain ⟨f6,c6,e6,_,_⟩:=own6.form (by omega)
   subst e6
   clear own6
   go_wp2
   try rw [Exit.noGoto_ret]
   go_ret2
   exact ⟨_,rfl,F.out.1,F.out.2⟩
  ·rw [if_pos ho] at hRD
   rw [hRD]
   have HE:=hideIt (OTH_err HYB.out ho)
   generalize hW : OTH (ys.drop q) m t = W at *
   obtain ⟨o,c⟩:=W
   simp only at ho HE HOT ⊢
   have dc : (c != 0) = true:=by simp;exact ho
   clear h hvb hs hRD hW
   go_enter Tryz.func85,Tryz.ntmps85
   go_wp2_with fail
   refine V.out.mono ?_
   rintro e w2 ⟨rfl,v2,cur2,ob2,o2⟩
   have OC:=hideIt (HOT.out v2 w2 cur2 ob2 o2.size)
   have O2:=hideIt o2
   clear V o2 HOT cur2 ob2
   go_wp2_with fail
   refine OC.out.mono ?_
   rintro e w3 ⟨u3,rfl,own3,o3⟩
   have O3:=hideIt (O2.out.trans o3 (fun _ _ e => e))
   obtain ⟨f3,c3,e3⟩:=(Bs.of_own own3).len
   subst e3
   clear OC own3 o3 O2
   go_wp2
   try rw [Exit.noGoto_ret]
   go_ret2
   exact ⟨_,rfl,World.ownsRow_nil _ _ _ _,O3.out⟩
theorem read_any {w : World} {R : Nat} {v : Value} {ys : List Int} (h : CurAt 92 w R v ys) (hvb : ∀ k,v.ownBlock = some k → k < w.heap.size) (n t : Nat) (hn : n ≤ 65536) (h4 : t ≤ 4) :
  Calls Tryz.prog 85 #[.pointer (some ⟨R,0,none⟩),.int .i64 n,.int .i64 t] w fun e w' => ∃ u,e = .returned (.tuple #[u,.int .i64 (READ ys n t).2]) ∧ w'.ownsRow w.heap.size 3 1 u (READ ys n t).1.length ((READ ys n t).1.map (Value.int .i64)) ∧ Only (fun k => k = R) w w':=by
 by_cases h0 : n = 0
 ·subst h0
  refine (read_nil R t w).mono ?_
  rintro e w' ⟨rfl,rfl⟩
  exact ⟨_,rfl,World.ownsRow_nil _ _ _ _,Only.refl _ _⟩
 ·by_cases ht : t = 0
  ·subst ht
   have e : READ ys n 0 = ((rFx ys n).1.map s64,(rFx ys n).2):=by
    unfold READ
    rw [if_neg h0,if_pos rfl]
   rw [e]
   exact read_zero h hvb n hn (by omega)
  ·obtain ⟨m,rfl⟩ : ∃ m,n = m + 1:=⟨n - 1,by omega⟩
   exact read_other h hvb m t (by omega) (by omega) h4
set_option maxHeartbeats 400000 in
theorem decode8_arg (v : Value) (n : Int) (w : World) (h : n < 0 ∨ 65536 < n) :
  Calls Tryz.prog 55 #[v,.int .i64 n] w fun e w' => e = .returned (.tuple #[.slice none 0 0,.int .i64 1]) ∧ w = w':=by
 by_cases h0 : n < 0
 ·have d0 : decide (n < 0) = true:=decide_eq_true h0
  clear h h0
  go_enter Tryz.func55,Tryz.ntmps55
  go_wp2
  try rw [Exit.noGoto_ret]
  go_ret2
  exact ⟨rfl,rfl⟩
 ·have d0 : decide (n < 0) = false:=decide_eq_false h0
  have d1 : decide (65536 < n) = true:=decide_eq_true (by omega)
  clear h h0
  go_enter Tryz.func55,Tryz.ntmps55
  go_wp2
  try rw [Exit.noGoto_ret]
  go_ret2
  exact ⟨rfl,rfl⟩
theorem sByte_nil : sByte [] = (0,0,2):=rfl
theorem sByte_at (y : Int) (r : List Int) : sByte (y :: r) = (y,1,0):=by simp [sByte]
set_option maxHeartbeats 800000 in
theorem decode8_bs (v : Value) (ys : List Int) (n : Nat) (w : World) (h : Bs .u8 w v ys) (hr : Byt ys) (hl : ys.length ≤ 1000000000000) (hn : n ≤ 65536) :
  Calls Tryz.prog 55 #[v,.int .i64 n] w fun e w' => ∃ u,e = .returned (.tuple #[u,.int .i64 (DEC8 ys n).2]) ∧ w'.ownsRow w.heap.size 3 1 u (DEC8 ys n).1.length ((DEC8 ys n).1.map (Value.int .i64)) ∧ Only (fun _ => False) w w':=by
 have NW:=hideIt (new_bs v ys w h hr hl)
 have HB:=hideIt h
 have d0 : decide ((n : Int) < 0) = false:=by simp
 have d1 : decide ((65536 : Int) < (n : Int)) = false:=decide_eq_false (by omega)
 have eD : DEC8 ys n = if ys = [] then ([],2) else if 4 < ys.getD 0 0 then ([],3) else
   if (READ (ys.drop 1) n (ys.getD 0 0).toNat).2 ≠ 0 then ([],(READ (ys.drop 1) n (ys.getD 0 0).toNat).2) else
   if (ENC8 (READ (ys.drop 1) n (ys.getD 0 0).toNat).1).1 = ys then ((READ (ys.drop 1) n (ys.getD 0 0).toNat).1,0) else ([],3):=by
  unfold DEC8
  rw [if_neg (by omega)]
  rfl
 have HRG:=hideIt hr
 obtain ⟨ao,cap,rfl⟩:=h.len
 clear h hl
 cases ys with
 | nil =>
  rw [eD,if_pos rfl]
  clear eD hr
  go_enter Tryz.func55,Tryz.ntmps55
  go_wp2_with fail
  refine NW.out.mono ?_
  rintro e w1 ⟨R,v1,rfl,cur1,o1,hR0,hR1,hV1⟩
  have BY:=byte_cur cur1
  rw [sByte_nil] at BY
  have BY:=hideIt BY
  have O1:=hideIt o1
  clear NW cur1 o1 hV1
  go_wp2_with fail
  refine BY.out.mono ?_
  rintro e w2 ⟨rfl,v2,_,_,o2⟩
  have O2:=hideIt (O1.out.trans o2 (fun k hk e => by omega))
  clear BY o2
  go_wp2
  try rw [Exit.noGoto_ret]
  go_ret2
  exact ⟨_,rfl,World.ownsRow_nil _ _ _ _,O2.out⟩
 | cons y r =>
  have hy:=hr y List.mem_cons_self
  rw [if_neg (by simp),List.getD_cons_zero,List.drop_succ_cons,List.drop_zero] at eD
  obtain ⟨t,rfl⟩ : ∃ t : Nat,y = t:=⟨y.toNat,by omega⟩
  rw [Int.toNat_natCast] at eD
  have t255 : (t : Int) ≤ 255:=hy.2
  by_cases ht : 4 < t
  ·rw [if_pos (by omega)] at eD
   rw [eD]
   have IT:=hideIt (fun w2 => istag_no (t : Int) w2 (.inr (by omega)))
   obtain ⟨N,hN⟩ : ∃ N,N = ((t : Int) :: r).length:=⟨_,rfl⟩
   rw [← hN] at NW HB ⊢
   clear eD hr hy hN
   go_enter Tryz.func55,Tryz.ntmps55
   go_wp2_with fail
   refine NW.out.mono ?_
   rintro e w1 ⟨R,v1,rfl,cur1,o1,hR0,hR1,hV1⟩
   have BY:=byte_cur cur1
   rw [sByte_at] at BY
   have BY:=hideIt BY
   have O1:=hideIt o1
   clear NW cur1 o1 hV1
   go_wp2_with fail
   refine BY.out.mono ?_
   rintro e w2 ⟨rfl,v2,_,_,o2⟩
   have O2:=hideIt (O1.out.trans o2 (fun k hk e => by omega))
   clear BY o2
   go_wp2_with fail
   refine (IT.out w2).mono ?_
   rintro e w3 ⟨rfl,rfl⟩
   clear IT
   go_wp2
   try rw [Exit.noGoto_ret]
   go_ret2
   exact ⟨_,rfl,World.ownsRow_nil _ _ _ _,O2.out⟩
  ·rw [if_neg (by omega)] at eD
   have IT:=hideIt (fun w2 => istag_yes (t : Int) w2 (by omega) (by omega))
   have RD : Hid (∀ (R : Nat) (v2 : Value) (w2 : World),CurAt 92 w2 R v2 r → (∀ k,v2.ownBlock = some k → k < w2.heap.size) → Calls Tryz.prog 85 #[.pointer (some ⟨R,0,none⟩),.int .i64 n,.int .i64 t] w2 fun e w' => ∃ u,e = .returned (.tuple #[u,.int .i64 (READ r n t).2]) ∧ w'.ownsRow w2.heap.size 3 1 u (READ r n t).1.length ((READ r n t).1.map (Value.int .i64)) ∧ Only (fun k => k = R) w2 w') :=
    fun R v2 w2 hc hv => read_any hc hv n t hn (by omega)
   have HOK : Hid ((READ r n t).2 = 0 → I64s (READ r n t).1 ∧ (READ r n t).1.length = n):=fun h0 => READ_ok (fun z hz => hr z (List.mem_cons_of_mem _ hz)) h0
   have HER : Hid ((READ r n t).2 ≠ 0 → (READ r n t).1 = []):=fun h0 => READ_err h0
   obtain ⟨zs,hzs⟩ : ∃ zs,zs = ((t : Int) :: r):=⟨_,rfl⟩
   obtain ⟨N,hN⟩ : ∃ N,N = ((t : Int) :: r).length:=⟨_,rfl⟩
   rw [← hzs] at eD HRG
   rw [← hN] at NW HB ⊢
   have HN : Hid (N = zs.length):=by simp only [Hid];rw [hzs];exact hN
   have NW2 : Hid (Calls Tryz.prog 33 #[Value.slice ao N cap] w fun e w' => ∃ R v',e = .returned (.pointer (some ⟨R,0,none⟩)) ∧ CurAt 92 w' R v' ((t : Int) :: r) ∧ Only (fun _ => False) w w' ∧ w.heap.size ≤ R ∧ R < w'.heap.size ∧ (∀ k,v'.ownBlock = some k → w.heap.size ≤ k ∧ k < w'.heap.size)):=NW
   have HBZ : Hid (Bs .u8 w (.slice ao N cap) zs):=by simp only [Hid];rw [hzs];exact HB.out
   rw [← hzs]
   generalize DEC8 zs n = DD at *
   generalize READ r n t = RR at *
   obtain ⟨l,c⟩:=RR
   simp only at RD HOK HER eD
   clear hr hy hN hzs NW HB
   go_enter Tryz.func55,Tryz.ntmps55
   go_wp2_with fail
   refine NW2.out.mono ?_
   rintro e w1 ⟨R,v1,rfl,cur1,o1,hR0,hR1,hV1⟩
   have BY:=byte_cur cur1
   rw [sByte_at] at BY
   have BY:=hideIt BY
   have O1:=hideIt o1
   have HV1:=hideIt hV1
   clear NW2 cur1 o1 hV1
   go_wp2_with fail
   refine BY.out.mono ?_
   rintro e w2 ⟨rfl,v2,cur2,ob2,o2⟩
   have O2:=hideIt (O1.out.trans o2 (fun k hk e => by omega))
   have RA:=hideIt (RD.out R v2 w2 cur2 (fun k hk => by rw [ob2] at hk;have:=(HV1.out k hk).2;have:=o2.size;omega))
   clear BY o2 cur2 ob2 RD
   go_wp2_with fail
   refine (IT.out w2).mono ?_
   rintro e w3 ⟨rfl,rfl⟩
   clear IT
   go_wp2_with fail
   refine RA.out.mono ?_
   rintro e w3 ⟨u3,rfl,own3,o3⟩
   have O3:=hideIt (O2.out.trans o3 (fun k hk e => by omega))
   have OWN3:=hideIt (own_low own3 O2.out.size)
   obtain ⟨f3,c3,e3⟩:=(Bs.of_own own3).len
   subst e3
   clear RA own3 o3
   by_cases hc : c = 0
   ·subst hc
    obtain ⟨hg,hlen⟩:=HOK.out rfl
    rw [if_neg (by simp)] at eD
    have EN:=encode8_all _ l w3 (Bs.of_own OWN3.out) hg
    have HEB:=hideIt (ENC8_byt hg)
    have EN:=hideIt EN
    obtain ⟨m,hm⟩ : ∃ m,m = l.length:=⟨_,rfl⟩
    rw [← hm] at EN OWN3 ⊢
    have HM:=hideIt hm
    generalize ENC8 l = E at *
    obtain ⟨E1,Ec⟩:=E
    simp only at EN HEB eD
    have HED:=hideIt eD
    clear hg hlen HOK HER eD hm
    go_wp2_with fail
    refine EN.out.mono ?_
    rintro e w4 ⟨u4,rfl,own4,o4⟩
    have O4:=hideIt (O3.out.same o4)
    have OWN4:=hideIt (o4.own OWN3.out (fun _ _ f => f))
    have EQ:=hideIt (equal_bs u4 (.slice ao N cap) E1 zs w4 (Bs.of_own own4) (HBZ.out.past O4.out) HEB.out HRG.out)
    obtain ⟨f4,c4,e4⟩:=(Bs.of_own own4).len
    subst e4
    clear EN own4 o4
    by_cases heq : E1 = zs
    ·have de : decide (E1 = zs) = true:=decide_eq_true heq
     rw [de] at EQ
     rw [if_pos heq] at HED
     have eE:=HED.out
     subst eE
     clear heq de HED
     generalize E1.length = e1 at *
     go_wp2_with fail
     refine EQ.out.mono ?_
     rintro e w5 ⟨rfl,rfl⟩
     clear EQ
     go_wp2
     try rw [Exit.noGoto_ret]
     go_ret2
     refine ⟨_,rfl,?_,O4.out⟩
     simp only [← HM.out]
     exact OWN4.out
    ·have de : decide (E1 = zs) = false:=decide_eq_false heq
     rw [de] at EQ
     rw [if_neg heq] at HED
     have eE:=HED.out
     subst eE
     clear heq de HED
     generalize E1.length = e1 at *
     go_wp2_with fail
     refine EQ.out.mono ?_
     rintro e w5 ⟨rfl,rfl⟩
     clear EQ
     go_wp2
     try rw [Exit.noGoto_ret]
     go_ret2
     exact ⟨_,rfl,World.ownsRow_nil _ _ _ _,O4.out⟩
   ·have dc : (c != 0) = true:=by simp;exact hc
    rw [if_pos hc] at eD
    subst eD
    clear HOK HER OWN3
    generalize l.length = m at *
    go_wp2
    try rw [Exit.noGoto_ret]
    go_ret2
    exact ⟨_,rfl,World.ownsRow_nil _ _ _ _,O3.out⟩
theorem decode8_all (v : Value) (ys : List Int) (n : Int) (w : World) (h : Bs .u8 w v ys) (hr : Byt ys) (hl : ys.length ≤ 1000000000000) :
  Calls Tryz.prog 55 #[v,.int .i64 n] w fun e w' => ∃ u,e = .returned (.tuple #[u,.int .i64 (DEC8 ys n).2]) ∧ w'.ownsRow w.heap.size 3 1 u (DEC8 ys n).1.length ((DEC8 ys n).1.map (Value.int .i64)) ∧ Only (fun _ => False) w w':=by
 by_cases hn : n < 0 ∨ 65536 < n
 ·have e : DEC8 ys n = ([],1):=by unfold DEC8;rw [if_pos hn]
  rw [e]
  refine (decode8_arg v n w hn).mono ?_
  rintro e w' ⟨rfl,rfl⟩
  exact ⟨_,rfl,World.ownsRow_nil _ _ _ _,Only.refl _ _⟩
 ·obtain ⟨m,rfl⟩:=Int.eq_ofNat_of_zero_le (show 0 ≤ n by omega)
  exact decode8_bs v ys m w h hr hl (by omega)
end Go.Proofs.YthapipgaohlgdaaGreatDoor


namespace Go.Proofs.YthapipgaohlgdaaGreatDoor
open Go.RowKit Go.Maps
def DMf : Nat → DataW Unit → List Int → DataW Unit
 | _,m,[] => m
 | i,m,x :: t => DMf (i + 1) (m.put (.int .u64 x) (.lit (.int .i64 (i : Int)))) t
def DM (d : List Int) : DataW Unit:=DMf 0 (.map []) d
theorem DMf_snoc (t : List Int) (x : Int) : ∀ (i : Nat) (m : DataW Unit),DMf i m (t ++ [x]) = (DMf i m t).put (.int .u64 x) (.lit (.int .i64 ((i + t.length : Nat) : Int))):=by
 induction t with
 | nil => intro i m;simp [DMf]
 | cons y t ih =>
  intro i m
  rw [List.cons_append,DMf,ih,DMf,List.length_cons,show i + 1 + t.length = i + (t.length + 1) by omega]
theorem DM_snoc (d : List Int) (x : Int) : DM (d ++ [x]) = (DM d).put (.int .u64 x) (.lit (.int .i64 (d.length : Int))):=by
 unfold DM;rw [DMf_snoc,Nat.zero_add]
theorem key_ne {x y : Int} (h : x ≠ y) : (Lit.int .u64 x) ≠ (Lit.int .u64 y):=by
 intro e;simp at e;exact h e
theorem DMf_has (x : Int) (hk : ∀ y : Int,WideAt.IsKeyLit (Lit.int .u64 y)) (t : List Int) : ∀ (i : Nat) (m : DataW Unit),IsMap m → Maps.has (DMf i m t) (.int .u64 x) = (Maps.has m (.int .u64 x) || decide (x ∈ t)):=by
 induction t with
 | nil => intro i m _;simp [DMf]
 | cons y t ih =>
  intro i m hm
  rw [DMf,ih _ _ (hm.put _ _)]
  by_cases e : x = y
  ·subst e
   rw [has_put_same hm (hk x)]
   simp
  ·rw [has_put_other (key_ne e)]
   simp [e]
theorem DMf_old (x : Int) (t : List Int) : ∀ (i : Nat) (m z : DataW Unit),x ∉ t → (DMf i m t).atKey (.int .u64 x) z = m.atKey (.int .u64 x) z:=by
 induction t with
 | nil => intro i m z _;rfl
 | cons y t ih =>
  intro i m z h
  rw [DMf,ih _ _ _ (fun e => h (List.mem_cons_of_mem _ e)),atKey_put_other (key_ne (fun e => h (by rw [e];exact List.mem_cons_self)))]
theorem DMf_new (x : Int) (hk : ∀ y : Int,WideAt.IsKeyLit (Lit.int .u64 y)) (t : List Int) : ∀ (i : Nat) (m z : DataW Unit),IsMap m → t.Nodup → x ∈ t → (DMf i m t).atKey (.int .u64 x) z = .lit (.int .i64 ((i + plc t x : Nat) : Int)):=by
 induction t with
 | nil => intro i m z _ _ h;simp at h
 | cons y t ih =>
  intro i m z hm hd h
  obtain ⟨h1,h2⟩:=List.nodup_cons.1 hd
  rw [DMf]
  by_cases e : y = x
  ·subst e
   rw [DMf_old y t _ _ _ h1,atKey_put_same hm (hk y)]
   simp [plc]
  ·have hx : x ∈ t:=by
    rcases List.mem_cons.1 h with e2 | e2
    ·exact absurd e2.symm e
    ·exact e2
   rw [ih _ _ _ (hm.put _ _) h2 hx]
   have e3 : plc (y :: t) x = plc t x + 1:=by
    unfold plc
    rw [List.idxOf_cons]
    have : (y == x) = false:=by rw [beq_eq_false_iff_ne];exact e
    rw [this];rfl
   rw [e3,show i + 1 + plc t x = i + (plc t x + 1) by omega]
theorem key_lit (y : Int) : WideAt.IsKeyLit (Lit.int .u64 y):=by simp [WideAt.IsKeyLit]
theorem DM_has (d : List Int) (x : Int) : Maps.has (DM d) (.int .u64 x) = decide (x ∈ d):=by
 unfold DM
 rw [DMf_has x key_lit d 0 _ isMap_empty]
 simp [has_eq]
theorem DM_at {d : List Int} (hd : d.Nodup) {x : Int} (hx : x ∈ d) (z : DataW Unit) : (DM d).atKey (.int .u64 x) z = .lit (.int .i64 (plc d x : Int)):=by
 unfold DM
 rw [DMf_new x key_lit d 0 _ z isMap_empty hd hx,Nat.zero_add]
end Go.Proofs.YthapipgaohlgdaaGreatDoor


namespace Go.Proofs.YthapipgaohlgdaaGreatDoor
set_option maxRecDepth 100000
open Go.RowKit Go.Maps
theorem placeWidth_any (k : Nat) (w : World) (h : k ≤ 65536) :
  Calls Tryz.prog 147 #[.int .i64 k] w fun e w' => e = .returned (.int .i64 (wP k)) ∧ w = w':=by
 by_cases h0 : k = 0
 ·subst h0
  go_enter Tryz.func147,Tryz.ntmps147
  go_wp2
  go_ret
  exact ⟨rfl,rfl⟩
 ·obtain ⟨j,rfl⟩ : ∃ j,k = j + 1:=⟨k - 1,by omega⟩
  have WA:=hideIt (width_any ((j : Nat) : Int) w (by omega) (by omega))
  have e1 : wP (j + 1) = wid j:=by unfold wP;rw [if_neg (by omega)];rfl
  rw [e1]
  have d0 : (((j + 1 : Nat) : Int) == 0) = false:=by rw [beq_eq_false_iff_ne];omega
  have e2 : ((j + 1 : Nat) : Int) - 1 = (j : Int):=by omega
  obtain ⟨K,hK⟩ : ∃ K : Int,K = ((j + 1 : Nat) : Int):=⟨_,rfl⟩
  rw [← hK] at d0 e2 ⊢
  have k1 : K ≤ 65536:=by omega
  have k0 : 1 ≤ K:=by omega
  clear hK h0 e1 h
  go_enter Tryz.func147,Tryz.ntmps147
  go_wp2_with fail
  refine WA.out.mono ?_
  rintro e w' ⟨rfl,rfl⟩
  clear WA
  go_wp2
  go_ret
  exact ⟨rfl,rfl⟩
theorem law35 : Keyed Tryz.prog 42:=int_keyed Tryz.underlying42
theorem zero3 (w : World) : (zeroValue 3).run Tryz.prog w = .ok (.int .i64 0) w:=by kernel_rfl
theorem wf_u64 {y : Int} (h0 : 0 ≤ y) (h1 : y ≤ 18446744073709551615) : (Lit.int .u64 y).wf = true:=by
 have e1 : IntKind.u64.min = 0:=by decide
 have e2 : IntKind.u64.max = 18446744073709551615:=by decide
 simp only [Lit.wf,e1,e2,Bool.and_eq_true,decide_eq_true_eq];omega
structure Fs (w wr : World) (vd : Value) (l : List Int) (k : Nat) : Prop where
 map : wr.ownsMap Tryz.prog 42 (plainElem (H:=Unit) Tryz.prog 3) w.heap.size k (DM (dic l))
 row : wr.ownsRow (w.heap.size + 1) 42 1 vd (dic l).length ((dic l).map (Value.int .u64))
 be : Below w.heap.size w wr
theorem getD_ofl {l : List Int} {k : Nat} (h : k < l.length) : l.getD k 0 ∈ l:=by
 rw [List.getD_eq_getElem?_getD,List.getElem?_eq_getElem h];exact List.getElem_mem h
theorem take_snocI (l : List Int) (k : Nat) (h : k < l.length) : l.take (k + 1) = l.take k ++ [l.getD k 0]:=take_snoc l k h
theorem wf_i64 {y : Nat} (h : y ≤ 65536) : (Lit.int .i64 (y : Int)).wf = true:=by
 have e1 : IntKind.i64.min = -9223372036854775808:=by decide
 have e2 : IntKind.i64.max = 9223372036854775807:=by decide
 simp only [Lit.wf,e1,e2,Bool.and_eq_true,decide_eq_true_eq];omega
theorem own_ne {w : World} {lo : Nat} {E : TypeId} {size : Nat} {v : Value} {n : Nat} {xs : List Value} (h : w.ownsRow lo E size v n xs) {b : Nat} (hb : b < lo) : some b ≠ v.ownBlock:=by
 intro e
 have:=(h.lt b e.symm).1
 omega
set_option maxHeartbeats 1000000 in
theorem firsts_bs (v : Value) (xs : List Int) (w : World) (h : Bs .u64 w v xs) (hu : U64 xs) (hl : xs.length ≤ 65536) :
  Calls Tryz.prog 146 #[v] w fun e w' => ∃ vd,e = .returned (.tuple #[vd,.map (some w.heap.size)]) ∧ Fs w w' vd xs xs.length:=by
 have hmm:=@run_makeMap Tryz.prog
 obtain ⟨i0,hi,hz0,hz1,hz2⟩:=info_parts Tryz.infoU64
 obtain ⟨ao,cap,rfl⟩:=h.len
 have HB:=hideIt h
 have HU:=hideIt hu
 obtain ⟨m,hm⟩ : ∃ m,m = xs.length:=⟨_,rfl⟩
 rw [← hm] at HB hl
 rw [← hm]
 have HM:=hideIt hm
 have F0 : Hid (Fs w (w.alloc (.map #[] 0)) (.slice none 0 0) (xs.take 0) 0) :=
  ⟨World.ownsMap_made _ _ _ _,World.ownsRow_nil _ _ _ _,(Below.refl _ _).alloc (Nat.le_refl _) _⟩
 clear h hm hu
 go_enter Tryz.func146,Tryz.ntmps146
 go_wp2
 go_loopw [2,11] (fun vd i wr => ∃ k : Nat,k ≤ m ∧ i = .int .i64 k ∧ Fs w wr vd (xs.take k) k) (fun _ i _ => m - (intOf i).toNat)
 case atStart => exact ⟨0,Nat.zero_le _,rfl,F0.out⟩
 case round =>
  clear F0
  obtain ⟨k,hk,rfl,hf⟩:=hrel
  by_cases hlt : k < m
  ·obtain ⟨b,off,cap',e,hc⟩:=HB.out.at k (by rw [← HM.out];exact hlt)
   simp only [Value.slice.injEq] at e
   obtain ⟨rfl,hmx,rfl⟩:=e
   clear hmx
   have hc1:=(hf.be.cell (p:=⟨b,off + k,none⟩) (World.block_lt_of_cell? w _ hc)).trans hc
   obtain ⟨y0,y1⟩:=HU.out _ (getD_ofl (l:=xs) (k:=k) (by rw [← HM.out];exact hlt))
   have HT:=hideIt (take_snocI xs k (by rw [← HM.out];exact hlt))
   generalize xs.getD k 0 = y at *
   have hkey : keyOf Tryz.prog 42 (.int .u64 y) = some (.int .u64 y):=keyOf_int_mk Tryz.underlying42 (wf_u64 y0 y1)
   have hdl:=dic_len (xs.take k)
   rw [List.length_take] at hdl
   have hmap:=hf.map
   have hrow:=hf.row
   have BE:=hideIt hf.be
   have DS:=hideIt (dic_snoc (xs.take k) y)
   rw [← HT.out] at DS
   have DH:=DM_has (dic (xs.take k)) y
   have DN:=hideIt (DM_snoc (dic (xs.take k)) y)
   obtain ⟨d,hd⟩ : ∃ d,d = dic (xs.take k):=⟨_,rfl⟩
   have HD:=hideIt hd
   rw [← hd] at hmap hrow hdl DS DH DN
   obtain ⟨n,hn⟩ : ∃ n,n = d.length:=⟨_,rfl⟩
   rw [← hn] at hrow hdl DN
   obtain ⟨a6,c6,e6⟩ : ∃ a6 c6,u2 = .slice a6 n c6:=by
    have:=(Bs.of_own (by rw [← hn];exact hrow) : Bs .u64 wr u2 d).len
    rw [← hn] at this;exact this
   subst e6
   have HN:=hideIt hn
   have i1 : (k : Int) < (m : Int):=by omega
   clear hc hd hn hf HB
   by_cases hin : y ∈ d
   ·rw [decide_eq_true hin] at DH
    have DS2:=hideIt (DS.out.trans (if_pos hin))
    have HX:=hideIt hmap
    have HY:=hideIt hrow
    clear DS hin hrow
    go_wp2_with (first
     | (at_lookup;refine wpList_lookup_own_ok_int _ rfl _ _ 144 rfl 42 3 .i64 law35 Tryz.underlying144 Tryz.underlying3 (zero3 _) w.heap.size k _ rfl hmap _ _ rfl hkey ?_;intro c hat hwc;rw [DH];clear hat hwc)
     | fail)
    go_roundw
    case rel =>
     refine ⟨k + 1,by omega,by go_num,?_,?_,BE.out⟩
     ·rw [DS2.out];exact HX.out.mono (Nat.le_succ _)
     ·rw [DS2.out,← HN.out];exact HY.out
    case measure => simp [intOf];omega
   ·rw [decide_eq_false hin] at DH
    have DS2:=hideIt (DS.out.trans (if_neg hin))
    have BL:=hideIt (own_ne hrow (Nat.lt_succ_self w.heap.size))
    have SZ:=hmap.lt
    clear DS hin
    go_wp2_with (first
     | (at_lookup;refine wpList_lookup_own_ok_int _ rfl _ _ 144 rfl 42 3 .i64 law35 Tryz.underlying144 Tryz.underlying3 (zero3 _) w.heap.size k _ rfl hmap _ _ rfl hkey ?_;intro c hat hwc;rw [DH];clear hat hwc)
     | (at_mapUpdate;refine wpList_mapUpdate_own _ rfl _ _ _ 144 rfl 42 3 law35 Tryz.underlying144 (plainElem (H:=Unit) Tryz.prog 3) w.heap.size k _ rfl hmap (by unfold maxLen;omega) _ _ _ rfl rfl hkey _ [] (plainElem_int Tryz.underlying3 (wf_i64 (y:=n) (by omega))) ?_;intro w1 hown1 hgrow1)
     | (at_builtin;refine wpList_append_own _ rfl _ _ 46 rfl (w.heap.size + 1) 42 i0 (.int .u64 0) 1 8 Tryz.underlying46 hi hz0 hz1 hz2 rfl (by decide) _ n _ rfl ((hrow.kept hgrow1 (Or.inr BL.out.symm)).alloc _) ⟨w1.heap.size,0,none⟩ 1 1 [.int .u64 y] rfl rfl (cell_one_new _ _ _) (ints_oneCell .u64 [y]) (by unfold maxLen;omega) (by omega) (by have:=hgrow1.size;simp at this ⊢;omega) ?_;intro v' w2 hown' hgrow2 hnil2)
     | fail)
    have hr1:=hrow.kept hgrow1 (Or.inr BL.out.symm)
    have s1:=hgrow1.size
    have s2:=hgrow2.size
    have b0:=BE.out.size
    simp at s1 s2
    go_roundw
    case rel =>
     refine ⟨k + 1,by omega,by go_num,?_,?_,?_⟩
     ·rw [DS2.out,DN.out]
      exact (hown1.alloc _).kept hgrow2 (own_ne hr1 (Nat.lt_succ_self _))
     ·rw [DS2.out,List.length_append,List.map_append,← HN.out]
      simpa using hown'
     ·exact (((BE.out.grown hgrow1 b0 (fun j hj => by cases hj;exact Nat.le_refl _)).alloc (by omega) _).grown hgrow2 (by simp;omega) (fun j hj => Nat.le_trans (Nat.le_succ _) (hr1.lt j hj).1))
    case measure => simp [intOf];omega
  ·obtain rfl : k = m:=by omega
   have e0 : xs.take k = xs:=by rw [HM.out,List.take_length]
   rw [e0] at hf
   have HF:=hideIt hf
   clear hf
   go_wp2
   go_ret2
   exact ⟨_,rfl,HF.out⟩
end Go.Proofs.YthapipgaohlgdaaGreatDoor


namespace Go.Proofs.YthapipgaohlgdaaGreatDoor
set_option maxRecDepth 100000
open Go.RowKit Go.Maps
theorem map_keep {P : Program} {H : Type} {k : TypeId} {R : Value → Option (DataW H × List MemPlace)} {w w' : World} {b n : Nat} {D : DataW H} (h : w.ownsMap P k R b n D) {S : Nat → Prop} (o : Only S w w') (hs : ¬ S b) : w'.ownsMap P k R b n D:=by
 obtain ⟨es,clock,hb,F,hz,hD⟩:=h
 exact ⟨es,clock,o.heap hb hs,F,hz,hD⟩
theorem fx8_take (d : List Int) (k : Nat) (h : k < d.length) : fx8 (d.take (k + 1)) = fx8 (d.take k) ++ fixL (d.getD k 0) 8:=by
 rw [take_snoc d k h,fx8_snoc]
theorem bitsP_take (W : Nat) (f : Int → Nat) (xs : List Int) (k : Nat) (h : k < xs.length) : bitsP W ((xs.take (k + 1)).map f) = bitsP W ((xs.take k).map f) ++ bitsOf (f (xs.getD k 0)) W:=by
 rw [take_snoc xs k h,List.map_append,List.map_singleton,bitsP_snoc]
set_option maxHeartbeats 400000 in
theorem encode10_long (v : Value) (xs : List Int) (w : World) (h : Bs .u64 w v xs) (hl : 65536 < xs.length) :
  Calls Tryz.prog 107 #[v] w fun e w' => e = .returned (.tuple #[.slice none 0 0,.int .i64 4]) ∧ w = w':=by
 obtain ⟨ao,cap,rfl⟩:=h.len
 clear h
 have d0 : decide (65536 < (xs.length : Int)) = true:=by simp;omega
 generalize xs.length = m at *
 clear hl
 go_enter Tryz.func107,Tryz.ntmps107
 go_wp2
 go_ret2
 exact ⟨rfl,rfl⟩
set_option maxHeartbeats 4000000 in
theorem encode10_bs (v : Value) (xs : List Int) (w : World) (h : Bs .u64 w v xs) (hu : U64 xs) (hl : xs.length ≤ 65536) (G : List Int) (hG : G = gs (dic xs).length ++ (fx8 (dic xs) ++ bytesI (tail10 (dic xs) xs))) :
  Calls Tryz.prog 107 #[v] w fun e w' => ∃ v',e = .returned (.tuple #[v',.int .i64 0]) ∧ w'.ownsRow w.heap.size 5 1 v' G.length (G.map (Value.int .u8)) ∧ Only (fun _ => False) w w':=by
 obtain ⟨i0,hi,hz0,hz1,hz2⟩:=info_parts Tryz.infoU8
 obtain ⟨ao,cap,rfl⟩:=h.len
 have HB:=hideIt h
 have HU:=hideIt hu
 have HG:=hideIt hG
 have FI:=hideIt (firsts_bs _ xs w h hu hl)
 obtain ⟨m,hm⟩ : ∃ m,m = xs.length:=⟨_,rfl⟩
 rw [← hm] at HB hl FI
 rw [← hm]
 have HM:=hideIt hm
 have hdl:=dic_len xs
 have HDN:=hideIt (dic_nodup xs)
 have HDU:=hideIt (dic_u64 hu)
 have HME : Hid (∀ x ∈ xs,x ∈ dic xs):=fun x hx => (dic_mem xs x).2 hx
 rw [← hm] at hdl
 have d0 : decide (65536 < (m : Int)) = false:=by simp;omega
 clear h hm hu hG
 go_enter Tryz.func107,Tryz.ntmps107
 go_wp2_with fail
 refine FI.out.mono ?_
 rintro e w1 ⟨vd,rfl,hf⟩
 have FM:=hideIt hf.map
 have FR:=hideIt hf.row
 have FB:=hideIt (only_of_below hf.be)
 clear hf FI
 generalize dic xs = d at *
 obtain ⟨n,hn⟩ : ∃ n,n = d.length:=⟨_,rfl⟩
 obtain ⟨a6,c6,e6⟩:=(Bs.of_own FR.out).len
 subst e6
 rw [← hn] at hdl FR HG ⊢
 have HN:=hideIt hn
 have VD:=hideIt (Bs.of_own (k:=.u64) (xs:=d) (by rw [← HN.out];exact FR.out))
 have AP:=hideIt (append_any (.slice none 0 0) [] (n : Int) w1 (Bs.nil _ _) NoCap.nil (by simp) (by omega) (by omega))
 rw [List.nil_append,Int.toNat_natCast] at AP
 clear hn
 go_wp2_with fail
 refine AP.out.mono ?_
 rintro e w2 ⟨vo,rfl,own2,o2⟩
 have L0 : Hid (w2.ownsRow w1.heap.size 5 1 vo (gs n ++ fx8 (d.take 0)).length ((gs n ++ fx8 (d.take 0)).map (Value.int .u8))):=by
  simp only [Hid,List.take_zero]
  rw [show fx8 [] = [] from rfl,List.append_nil];exact own2
 have O2:=hideIt o2
 have GL : Hid ((gs n).length ≤ 10):=gs_le10 (by omega)
 clear own2 o2 AP
 go_wp2
 go_loopw [6,27] (fun s i wr => ∃ k : Nat,k ≤ n ∧ i = .int .i64 k ∧ wr.ownsRow w1.heap.size 5 1 s (gs n ++ fx8 (d.take k)).length ((gs n ++ fx8 (d.take k)).map (Value.int .u8)) ∧ Only (fun _ => False) w1 wr) (fun _ i _ => n - (intOf i).toNat)
 case atStart => exact ⟨0,Nat.zero_le _,rfl,L0.out,O2.out⟩
 case round =>
  clear L0 O2
  obtain ⟨k,hk,rfl,hown,hon⟩:=hrel
  obtain ⟨w3,hw3⟩ : ∃ w3,w3 = wr:=⟨_,rfl⟩
  subst hw3
  have HOWN:=hideIt hown
  have HON:=hideIt hon
  by_cases hlt : k < n
  ·have dlt : decide ((k : Int) < (n : Int)) = true:=by simp;omega
   obtain ⟨b,off,cap',e1,hc0⟩:=(VD.out.past hon).at k (by rw [← HN.out];exact hlt)
   have ea : a6 = some ⟨b,off,none⟩:=by simp at e1;exact e1.1
   subst ea
   clear e1
   have HST:=hideIt (fx8_take d k (by rw [← HN.out];exact hlt))
   have HFL : Hid ((gs n ++ fx8 (d.take k)).length ≤ 10 + 8 * n):=by
    simp only [Hid];have:=GL.out;rw [List.length_append,fx8_len,List.length_take];omega
   obtain ⟨f1,hf1⟩ : ∃ f1,f1 = gs n ++ fx8 (d.take (k + 1)):=⟨_,rfl⟩
   have HF1:=hideIt hf1
   obtain ⟨f0,hf0⟩ : ∃ f0,f0 = gs n ++ fx8 (d.take k):=⟨_,rfl⟩
   have HS2 : Hid (f1 = f0 ++ fixL (d.getD k 0) 8):=by
    simp only [Hid];rw [hf1,hf0,HST.out,List.append_assoc]
   rw [← hf0] at HFL HOWN
   clear hf1 hf0 HST hown hon
   generalize d.getD k 0 = x at *
   go_wp2_with fail
   refine (fix_any _ 8 w3 (by omega)).mono ?_
   rintro e w4 ⟨u,rfl,own4,o4⟩
   have ow:=o4.own HOWN.out (fun _ _ f => f)
   have hb4:=Bs.of_own own4
   have NC4:=hideIt (NoCap.of_own own4)
   have HB4:=hideIt hb4
   have hs4 : w1.heap.size ≤ w4.heap.size:=Nat.le_trans HON.out.size o4.size
   have O4:=hideIt (HON.out.same o4)
   obtain ⟨a4,c4,e4⟩:=hb4.len
   subst e4
   clear o4 own4 HON HOWN hb4
   rw [fixL_len] at HB4 NC4
   go_wp2_with (at_builtin;refine wpList_append_bs _ rfl _ _ _ rfl w1.heap.size 5 i0 (.int .u8 0) 1 Tryz.underlying26 hi hz0 hz1 hz2 rfl _ _ _ rfl ow .u8 _ (fixL x 8) rfl HB4.out NC4.out ?c3 ?c4 hs4 ?_)
   case c3 => have:=HFL.out;rw [fixL_len];unfold maxLen;omega
   case c4 => have:=HFL.out;rw [fixL_len];omega
   intro v6 w6 own6 hgrow6 _ _
   have OWN6 : Hid (w6.ownsRow w1.heap.size 5 1 v6 f1.length (f1.map (Value.int .u8))):=by
    simp only [Hid];rw [HS2.out,List.length_append,List.map_append];exact own6
   have O6:=hideIt (O4.out.grown hgrow6 (fun k hk e => absurd (ow.lt k e).1 (by omega)))
   clear ow own6 hgrow6
   go_wp2
   go_roundw
   case rel => exact ⟨k + 1,by omega,by go_num,by rw [← HF1.out];exact OWN6.out,O6.out⟩
   case measure => simp [intOf];omega
  ·obtain rfl : k = n:=by omega
   have dlt : decide ((k : Int) < (k : Int)) = false:=by simp
   rw [HN.out,List.take_length,← HN.out] at HOWN
   have HFL : Hid ((gs k ++ fx8 d).length ≤ 10 + 8 * k):=by
    simp only [Hid];have:=GL.out;rw [List.length_append,fx8_len,← HN.out];omega
   have HG2 : Hid (G = (gs k ++ fx8 d) ++ bytesI (bitsP (wP k) ((xs.take m).map (plc d)))):=by
    simp only [Hid];rw [HG.out,List.append_assoc,HM.out,List.take_length];unfold tail10;rw [← HN.out]
   have W0 : Hid (WrAt 138 5 (w3.alloc (.cells #[.slice none 0 0,.int .i64 0] 138)) (w3.heap.size + 1) w3.heap.size (.slice none 0 0) (bitsP (wP k) ((xs.take 0).map (plc d)))):=WrAt.new (T:=138) (E:=5) w3
   have PW:=hideIt (placeWidth_any k (w3.alloc (.cells #[.slice none 0 0,.int .i64 0] 138)) (by omega))
   have WL : wP k ≤ 16:=wP_le (by omega)
   have WF : Hid (∀ x ∈ xs,plc d x < k ∧ wid (plc d x) ≤ wP k):=by
    intro x hx
    have h1:=plc_lt (HME.out x hx)
    rw [← HN.out] at h1
    exact ⟨h1,(wid_le_iff _ _).2 (wP_lt h1)⟩
   have HBL : Hid (∀ j,((xs.take j).map (plc d)).length ≤ m):=by
    intro j;rw [List.length_map,List.length_take,HM.out];omega
   clear hown hon HG GL VD
   generalize gs k ++ fx8 d = f0 at *
   go_wp2_with fail
   refine PW.out.mono ?_
   rintro e w4 ⟨rfl,rfl⟩
   clear PW
   generalize wP k = W at *
   go_wp2
   go_loopw [41] (fun i wr => ∃ j : Nat,j ≤ m ∧ i = .int .i64 j ∧ ∃ vw,WrAt 138 5 wr (w3.heap.size + 1) w3.heap.size vw (bitsP W ((xs.take j).map (plc d))) ∧ Only (fun _ => False) w3 wr) (fun i _ => m - (intOf i).toNat)
   case atStart => exact ⟨0,Nat.zero_le _,rfl,_,W0.out,(Only.refl _ _).alloc _⟩
   case round =>
    clear W0
    obtain ⟨j,hj,rfl,vw,hwt,hon⟩:=hrel
    have hbl : (bitsP W ((xs.take j).map (plc d))).length ≤ 65536 * 16:=by
     rw [bitsP_len];exact Nat.mul_le_mul (Nat.le_trans (HBL.out j) hl) WL
    have ONW:=hideIt (FB.out.same (HON.out.same hon))
    by_cases hlt : j < m
    ·have dlt : decide ((j : Int) < (m : Int)) = true:=by simp;omega
     obtain ⟨b,off,cap',e1,hc0⟩:=(HB.out.past ONW.out).at j (by rw [← HM.out];exact hlt)
     have ea : ao = some ⟨b,off,none⟩:=by simp at e1;exact e1.1
     subst ea
     clear e1
     have hym:=getD_ofl (l:=xs) (k:=j) (by rw [← HM.out];exact hlt)
     obtain ⟨y0,y1⟩:=HU.out _ hym
     obtain ⟨p0,p1⟩:=WF.out _ hym
     have HST:=hideIt (bitsP_take W (plc d) xs j (by rw [← HM.out];exact hlt))
     have hat0:=hideIt (DM_at HDN.out (HME.out _ hym) (.lit (.int .i64 0)))
     generalize xs.getD j 0 = y at *
     generalize plc d y = p at *
     have hkey : keyOf Tryz.prog 42 (.int .u64 y) = some (.int .u64 y):=keyOf_int_mk Tryz.underlying42 (wf_u64 y0 y1)
     have hmap:=map_keep FM.out (HON.out.same hon) (fun f => f)
     have PU:=hideIt (put_wr hwt (p : Int) (W : Int) (by omega) (by omega) (by omega) (by omega) (by simpa using p1) (by omega))
     rw [Int.toNat_natCast,Int.toNat_natCast,← HST.out] at PU
     have HW:=hideIt hwt
     have HO:=hideIt hon
     clear hwt hon HST hym
     go_wp2_with (first
      | (at_lookup;refine wpList_lookup_own_int _ rfl _ _ 144 rfl 42 3 .i64 law35 Tryz.underlying144 Tryz.underlying3 (zero3 _) w.heap.size m _ rfl hmap _ _ rfl hkey ?_;intro c hat hwc;obtain rfl : c = (p : Int):=(by have:=hat.symm.trans hat0.out;simpa using this);clear hat hwc hat0)
      | fail)
     refine PU.out.mono ?_
     rintro e w5 ⟨rfl,v5,h5,o5,s5⟩
     have W5:=hideIt h5
     have O5:=hideIt (HO.out.trans o5 (fun i hi f => absurd (HW.out.foot_ge (Nat.le_refl _) i f) (by omega)))
     clear h5 o5 s5 PU hmap HW HO
     go_wp2
     go_roundw
     case rel => exact ⟨j + 1,by omega,by go_num,_,W5.out,O5.out⟩
     case measure => simp [intOf];omega
    ·obtain rfl : j = m:=by omega
     have dlt : decide ((j : Int) < (j : Int)) = false:=by simp
     have BY:=hideIt (bytes_wr hwt (by omega))
     have HON3:=hideIt hon
     have HTL : Hid ((bytesI (bitsP W ((xs.take j).map (plc d)))).length ≤ 65536 * 16):=by
      simp only [Hid];rw [bytesI_length];unfold nb;omega
     generalize bytesI (bitsP W ((xs.take j).map (plc d))) = t0 at *
     clear hwt hon hbl
     go_wp2_with fail
     refine BY.out.mono ?_
     rintro e w5 ⟨u,rfl,own5,o5⟩
     have ow:=(HON3.out.same o5).own HOWN.out (fun _ _ f => f)
     have hb5:=Bs.of_own own5
     have NC5:=hideIt (NoCap.of_own own5)
     have HB5:=hideIt hb5
     have hs5 : w1.heap.size ≤ w5.heap.size:=Nat.le_trans HON.out.size (Nat.le_trans HON3.out.size o5.size)
     have O5:=hideIt (ONW.out.same o5)
     have S1:=hideIt FB.out.size
     obtain ⟨a5,c5,e5⟩:=hb5.len
     subst e5
     obtain ⟨tl,htl⟩ : ∃ tl,tl = t0.length:=⟨_,rfl⟩
     rw [← htl] at HB5 NC5 HTL ⊢
     have HT:=hideIt htl
     clear o5 own5 hb5 htl
     go_wp2_with (at_builtin;refine wpList_append_bs _ rfl _ _ _ rfl w1.heap.size 5 i0 (.int .u8 0) 1 Tryz.underlying26 hi hz0 hz1 hz2 rfl _ _ _ rfl ow .u8 _ t0 rfl HB5.out NC5.out ?c3 ?c4 hs5 ?_)
     case c3 => have:=HFL.out;have:=HTL.out;have:=HT.out;unfold maxLen;omega
     case c4 => have:=HFL.out;have:=HTL.out;have:=HT.out;omega
     intro v6 w6 own6 hgrow6 _ _
     have OWN6 : Hid (w6.ownsRow w.heap.size 5 1 v6 G.length (G.map (Value.int .u8))):=by
      simp only [Hid];rw [HG2.out,List.length_append,List.map_append];exact own_low own6 S1.out
     have O6:=hideIt (O5.out.grown hgrow6 (fun k hk e => absurd (ow.lt k e).1 (by have:=S1.out;omega)))
     clear ow own6 hgrow6
     go_wp2
     go_ret2
     exact ⟨v6,rfl,OWN6.out,O6.out⟩
theorem encode10_all (v : Value) (xs : List Int) (w : World) (h : Bs .u64 w v xs) (hu : U64 xs) :
  Calls Tryz.prog 107 #[v] w fun e w' => ∃ v',e = .returned (.tuple #[v',.int .i64 (ENC10 xs).2]) ∧ w'.ownsRow w.heap.size 5 1 v' (ENC10 xs).1.length ((ENC10 xs).1.map (Value.int .u8)) ∧ Only (fun _ => False) w w':=by
 by_cases hl : 65536 < xs.length
 ·have e : ENC10 xs = ([],4):=if_pos hl
  rw [e]
  refine (encode10_long v xs w h hl).mono ?_
  rintro e w' ⟨rfl,rfl⟩
  exact ⟨_,rfl,World.ownsRow_nil _ _ _ _,Only.refl _ _⟩
 ·rw [ENC10_of (by omega)]
  exact encode10_bs v xs w h hu (by omega) _ rfl
end Go.Proofs.YthapipgaohlgdaaGreatDoor
