/- Several texts in one: Re12. -/
import Derived.Test.YthapipgaohlgdaaGreatDoorG18
import Derived.Test.YthapipgaohlgdaaGreatDoorG22
import Derived.Test.YthapipgaohlgdaaGreatDoorG27
import Derived.Test.YthapipgaohlgdaaGreatDoorG19


namespace Go.Proofs.YthapipgaohlgdaaGreatDoor
set_option maxRecDepth 100000
open Go.RowKit
theorem bs_lit1 (kd : IntKind) (w : World) (T : TypeId) (x : Int) : Bs kd (w.alloc (.cells #[.int kd x] T)) (.slice (some ⟨w.heap.size,0,none⟩) 1 1) [x]:=Bs.litN kd w T [x] _ _ rfl rfl
def tks (kd : IntKind) (l : List Int) (k : Nat) : List Value:=(l.take k).map (Value.int kd)
theorem take_map1 {l : List Int} {k : Nat} {kd : IntKind} (h : k < l.length) : tks kd l k ++ [.int kd (l.getD k 0)] = tks kd l (k + 1):=by
 unfold tks
 rw [List.take_succ_eq_append_getElem h,List.map_append]
 simp [List.getD_eq_getElem?_getD,List.getElem?_eq_getElem h]
theorem tks_all {kd : IntKind} {l : List Int} {k : Nat} (h : l.length ≤ k) : tks kd l k = l.map (Value.int kd):=by unfold tks;rw [List.take_of_length_le h]
set_option maxHeartbeats 1600000 in
theorem rencode12_long (t : ByteArray) (u : Value) (s : List (Int × Int)) (w : World) (h : Sps w u s) (hl : 64 < t.size ∨ 65536 < s.length) (hm : s.length ≤ maxLen) (hm2 : t.size ≤ maxLen) :
  Calls Tryz.prog 11 #[.agg #[.string t,u]] w fun e w' => e = .returned (.tuple #[.slice none 0 0,.int .i64 4]) ∧ Only (fun _ => False) w w':=by
 unfold maxLen at hm hm2
 obtain ⟨ao,cap,rfl⟩:=h.len
 clear h
 generalize s.length = n at *
 by_cases h1 : 64 < t.size
 ·have d1 : decide (64 < (t.size : Int)) = true:=by simp;omega
  have d2 : decide (64 < t.size) = true:=by simp;omega
  go_enter Tryz.func11,Tryz.ntmps11
  go_wp2
  go_ret2
  exact ⟨rfl,(Only.refl _ _).alloc _⟩
 ·have h2 : 65536 < n:=by omega
  have d1 : decide (64 < (t.size : Int)) = false:=by simp;omega
  have d2 : decide (64 < t.size) = false:=by simp;omega
  have d3 : decide (65536 < (n : Int)) = true:=by simp;omega
  have d4 : decide (65536 < n) = true:=by simp;omega
  go_enter Tryz.func11,Tryz.ntmps11
  go_wp2
  go_ret2
  exact ⟨rfl,(Only.refl _ _).alloc _⟩
set_option maxHeartbeats 3200000 in
theorem rencode12_bs (t : ByteArray) (u : Value) (s : List (Int × Int)) (w : World) (h : Sps w u s) (hg : Gs s) (ht : t.size ≤ 64) (hl : s.length ≤ 200) :
  Calls Tryz.prog 11 #[.agg #[.string t,u]] w fun e w' => ∃ v',e = .returned (.tuple #[v',.int .i64 0]) ∧ Bs .u8 w' v' (ENCC (sb t) s).1 ∧ Only (fun _ => False) w w':=by
 rw [ENCC_of (by rw [sb_len];omega) (by omega)]
 obtain ⟨i0,hi,hz0,hz1,hz2⟩:=info_parts Tryz.infoI64
 obtain ⟨j0,hj,gz0,gz1,gz2⟩:=info_parts Tryz.infoU64
 obtain ⟨k0,hk,kz0,kz1,kz2⟩:=info_parts Tryz.infoU8
 obtain ⟨x8,hx8⟩ : ∃ x8,x8 = e8c (s.map Prod.fst):=⟨_,rfl⟩
 obtain ⟨x11,hx11⟩ : ∃ x11,x11 = e11c (s.map Prod.snd):=⟨_,rfl⟩
 rw [← hx8,← hx11]
 have X8:=hideIt hx8
 have X11:=hideIt hx11
 clear hx8 hx11
 have HS:=hideIt h
 have HG:=hideIt hg
 have hcv:=conv_bytes t
 obtain ⟨ao,cap,rfl⟩:=h.len
 obtain ⟨n,hn⟩ : ∃ n,n = s.length:=⟨_,rfl⟩
 rw [← hn] at hl HS
 rw [← hn]
 have HN:=hideIt hn
 have d1 : decide (64 < (t.size : Int)) = false:=by simp;omega
 have d2 : decide (64 < t.size) = false:=by simp;omega
 have d3 : decide (65536 < (n : Int)) = false:=by simp;omega
 have d4 : decide (65536 < n) = false:=by simp;omega
 obtain ⟨W0,hW0⟩ : ∃ W0,W0 = w.alloc (.cells #[.string t,.slice ao n cap] 24):=⟨_,rfl⟩
 have O0 : Hid (Only (fun _ => False) w W0):=by simp only [Hid];rw [hW0];exact (Only.refl _ _).alloc _
 have hsz0 : Hid (W0.heap.size = w.heap.size + 1):=by simp only [Hid];rw [hW0];simp
 have HC0 : Hid (Only (fun _ => False) W0 W0 ∧ W0.cell? ⟨w.heap.size,0,none⟩ = some (.string t) ∧ W0.cell? ⟨w.heap.size,1,none⟩ = some (.slice ao n cap)):=by
  refine ⟨Only.refl _ _,?_,?_⟩ <;> (rw [hW0];go_cell)
 have HS0:=hideIt (HS.out.past O0.out)
 clear h hg hn
 go_enter Tryz.func11,Tryz.ntmps11
 go_wp2
 rw [← hW0]
 clear hW0 HS
 go_loopw [4,5,6] (fun tv vv i wr => ∃ k : Nat,k ≤ n ∧ i = .int .i64 k ∧ wr.ownsRow W0.heap.size 3 1 tv k (tks .i64 (s.map Prod.fst) k) ∧ wr.ownsRow W0.heap.size 42 1 vv k (tks .u64 (s.map Prod.snd) k) ∧ (∀ g,tv.ownBlock = some g → vv.ownBlock = some g → False) ∧ Only (fun _ => False) W0 wr) (fun _ _ i _ => n - (intOf i).toNat)
 case atStart => exact ⟨0,Nat.zero_le _,rfl,World.ownsRow_nil _ _ _ _,World.ownsRow_nil _ _ _ _,(fun g e => by cases e),Only.refl _ _⟩
 case round =>
  obtain ⟨k,hk2,rfl,own1,own2,dis,od⟩:=hrel
  obtain ⟨tv,htv⟩ : ∃ tv,tv = u4:=⟨_,rfl⟩
  obtain ⟨vv,hvv⟩ : ∃ vv,vv = u5:=⟨_,rfl⟩
  subst htv hvv
  obtain ⟨_,q1,q2⟩:=enc_keep HC0.out od
  have OW1:=hideIt own1
  have OW2:=hideIt own2
  have DIS:=hideIt dis
  have OD:=hideIt od
  by_cases hlt : k < n
  ·have dlt : decide ((k : Int) < (n : Int)) = true:=by simp;omega
   have dlt2 : (k : Int) < (n : Int):=by omega
   have hkl : k < s.length:=by rw [← HN.out];exact hlt
   obtain ⟨b,off,cp,e1,x1,x2⟩:=(HS0.out.past od).at k hkl
   have ea : ao = some ⟨b,off,none⟩:=by simp at e1;exact e1.1
   subst ea
   clear e1
   have T1:=hideIt (take_map1 (l:=s.map Prod.fst) (k:=k) (kd:=.i64) (by simpa using hkl))
   have T2:=hideIt (take_map1 (l:=s.map Prod.snd) (k:=k) (kd:=.u64) (by simpa using hkl))
   rw [(pgetD s k).1] at T1
   rw [(pgetD s k).2] at T2
   generalize (s.getD k (0,0)).1 = x at *
   generalize (s.getD k (0,0)).2 = y at *
   clear own1 own2 dis od hkl
   go_wp2_with (at_builtin;refine wpList_append_bs _ rfl _ _ _ rfl W0.heap.size 3 i0 (.int .i64 0) 8 Tryz.underlying45 hi hz0 hz1 hz2 rfl tv k _ rfl (OW1.out.alloc _) .i64 _ [x] rfl (bs_lit1 .i64 _ 3 x) (NoCap.some _ _ _) ?c3 ?c4 ?c5 ?_)
   case c3 => unfold maxLen;simp;omega
   case c4 => simp;omega
   case c5 => have:=OD.out.size;simp;omega
   intro tv2 w1 own1 hgrow1 _ hat1
   rw [T1.out] at own1
   have o1 : Only (fun g => tv.ownBlock = some g) wr w1:=((Only.refl _ wr).alloc _).grown hgrow1 (fun k hk e => e)
   have own2:=o1.own OW2.out (fun g hg e => DIS.out g e hg)
   have lo1 : ∀ g,tv.ownBlock = some g → W0.heap.size ≤ g:=fun g hg => (OW1.out.lt g hg).1
   have od1 : Only (fun _ => False) W0 w1:=OD.out.trans o1 (fun g hg e => by have:=lo1 g e;omega)
   obtain ⟨_,q1',q2'⟩:=enc_keep HC0.out od1
   obtain ⟨b',off',cp',e1,_,x2'⟩:=(HS0.out.past od1).at k (by rw [← HN.out];exact hlt)
   have x2'' : w1.cell? ⟨b,off + k * 2 + 1,none⟩ = some (Value.int .u64 y):=by
    have hbk:=World.block_lt_of_cell? wr _ x2
    obtain ⟨hb0⟩ : Nonempty (b < W0.heap.size):=by
     obtain ⟨b9,off9,cp9,e9,x9,_⟩:=HS0.out.at k (by rw [← HN.out];exact hlt)
     simp at e9
     obtain ⟨⟨rfl,rfl⟩,_⟩:=e9
     exact ⟨World.block_lt_of_cell? W0 _ x9⟩
    rw [← x2];unfold World.cell?;simp only
    rw [o1.block b (by simpa using hbk) (fun e => by have:=lo1 b e;omega)]
   clear e1 x2' q1 q2 x1 x2
   have DIS1 : Hid (∀ g,tv2.ownBlock = some g → vv.ownBlock = some g → False):=fun g e1 e2 => by
    rcases hat1 with h | h
    ·exact DIS.out g (h ▸ e1) e2
    ·rw [h] at e1
     have:=(OW2.out.lt g e2).2
     simp at e1
     omega
   have OW1':=hideIt own1
   have OW2':=hideIt own2
   have OD1:=hideIt od1
   clear own1 own2 hgrow1 hat1 o1 od1 lo1 OW1 OW2
   go_wp2_with (at_builtin;refine wpList_append_bs _ rfl _ _ _ rfl W0.heap.size 42 j0 (.int .u64 0) 8 Tryz.underlying46 hj gz0 gz1 gz2 rfl vv k _ rfl (OW2'.out.alloc _) .u64 _ [y] rfl (bs_lit1 .u64 _ 42 y) (NoCap.some _ _ _) ?c3 ?c4 ?c5 ?_)
   case c3 => unfold maxLen;simp;omega
   case c4 => simp;omega
   case c5 => have:=OD1.out.size;simp;omega
   intro vv2 w2 own2 hgrow2 _ hat2
   rw [T2.out] at own2
   have o2 : Only (fun g => vv.ownBlock = some g) w1 w2:=((Only.refl _ w1).alloc _).grown hgrow2 (fun k hk e => e)
   have own1:=o2.own OW1'.out (fun g hg e => DIS1.out g hg e)
   have lo2 : ∀ g,vv.ownBlock = some g → W0.heap.size ≤ g:=fun g hg => (OW2'.out.lt g hg).1
   have FIN : Hid (w2.ownsRow W0.heap.size 3 1 tv2 (k + 1) (tks .i64 (s.map Prod.fst) (k + 1)) ∧ w2.ownsRow W0.heap.size 42 1 vv2 (k + 1) (tks .u64 (s.map Prod.snd) (k + 1)) ∧ (∀ g,tv2.ownBlock = some g → vv2.ownBlock = some g → False) ∧ Only (fun _ => False) W0 w2):=by
    refine ⟨by simpa using own1,by simpa using own2,fun g e1 e2 => ?_,OD1.out.trans o2 (fun g hg e => by have:=lo2 g e;omega)⟩
    rcases hat2 with h | h
    ·exact DIS1.out g e1 (h ▸ e2)
    ·rw [h] at e2
     have:=(OW1'.out.lt g e1).2
     simp at e2
     omega
   clear own1 own2 hgrow2 hat2 o2 lo2 OW1' OW2'
   go_wp2
   go_roundw
   case rel => exact ⟨k + 1,by omega,by go_num,FIN.out.1,FIN.out.2.1,FIN.out.2.2.1,FIN.out.2.2.2⟩
   case measure => simp [intOf];omega
  ·obtain rfl : k = n:=by omega
   have dlt : decide ((k : Int) < (k : Int)) = false:=by simp
   have lf : tks .i64 (s.map Prod.fst) k = (s.map Prod.fst).map (Value.int .i64):=tks_all (by rw [List.length_map,← HN.out];omega)
   have ls : tks .u64 (s.map Prod.snd) k = (s.map Prod.snd).map (Value.int .u64):=tks_all (by rw [List.length_map,← HN.out];omega)
   rw [lf] at own1
   rw [ls] at own2
   have B1 : Bs .i64 wr tv (s.map Prod.fst):=Bs.of_own (lo:=W0.heap.size) (E:=3) (by rw [List.length_map,← HN.out];exact own1)
   have B2 : Bs .u64 wr vv (s.map Prod.snd):=Bs.of_own (lo:=W0.heap.size) (E:=42) (by rw [List.length_map,← HN.out];exact own2)
   have E8:=rencode8_all tv (s.map Prod.fst) wr B1 (NoCap.of_own own1) HG.out.1 (.inl (by rw [List.length_map,← HN.out];omega))
   have e8 : (ENC8 (s.map Prod.fst)).2 = 0:=by unfold ENC8;rw [if_neg (by rw [List.length_map,← HN.out];omega)]
   have e11 : (ENC11 (s.map Prod.snd)).2 = 0:=by unfold ENC11;rw [if_neg (by rw [List.length_map,← HN.out];omega)]
   have l8 : x8.length ≤ 600000:=by
    have:=(ENC8_len (l:=s.map Prod.fst) (by rw [List.length_map,← HN.out];omega)).1
    rw [List.length_map,← HN.out] at this
    rw [X8.out]
    show (ENC8 (s.map Prod.fst)).1.length ≤ 600000
    omega
   have l11 : x11.length ≤ 600000:=by
    have:=(ENC11_len (l:=s.map Prod.snd) (by rw [List.length_map,← HN.out];omega)).1
    rw [List.length_map,← HN.out] at this
    rw [X11.out]
    show (ENC11 (s.map Prod.snd)).1.length ≤ 600000
    omega
   rw [e8] at E8
   have E8 : Hid (Calls Tryz.prog 25 #[tv] wr fun e w' => ∃ u,e = .returned (.tuple #[u,.int .i64 0]) ∧ Bs .u8 w' u x8 ∧ NoCap u ∧ Only (fun _ => False) wr w'):=by
    refine E8.mono ?_
    rintro e w' ⟨u,rfl,own,o⟩
    rw [X8.out]
    exact ⟨u,rfl,Bs.of_own own,NoCap.of_own own,o⟩
   have E11 : Hid (∀ W,Only (fun _ => False) wr W → Calls Tryz.prog 26 #[vv] W fun e w' => ∃ u,e = .returned (.tuple #[u,.int .i64 0]) ∧ Bs .u8 w' u x11 ∧ NoCap u ∧ Only (fun _ => False) W w'):=by
    intro W o
    have:=rencode11_all vv (s.map Prod.snd) W (B2.past o) HG.out.2 (.inl (by rw [List.length_map,← HN.out];omega))
    rw [e11] at this
    refine this.mono ?_
    rintro e w' ⟨u,rfl,own,o⟩
    rw [X11.out]
    exact ⟨u,rfl,Bs.of_own own,NoCap.of_own own,o⟩
   have L8:=hideIt l8
   have L11:=hideIt l11
   have hwn : IntKind.u64.wrap (k : Int) = k:=by rw [IntKind.wrap_u64];omega
   clear own1 own2 dis od lf ls B1 B2 e8 e11 l8 l11 DIS OW1 OW2 HS0
   go_wp2_with fail
   refine E8.out.mono ?_
   rintro e w1 ⟨v8,rfl,b8,n8,o1⟩
   have EV:=hideIt (E11.out w1 o1)
   have B8:=hideIt b8
   have N8:=hideIt n8
   have r1:=cell_past o1 q1
   have r2:=cell_past o1 q2
   have O1:=hideIt (O0.out.same (OD.out.same o1))
   clear b8 n8 o1 E8 E11 q1 q2
   go_wp2_with fail
   refine EV.out.mono ?_
   rintro e w2 ⟨v11,rfl,b11,n11,o2⟩
   have B8':=hideIt (B8.out.past o2)
   have B11:=hideIt b11
   have N11:=hideIt n11
   have s1:=cell_past o2 r1
   have s2:=cell_past o2 r2
   have S1:=hideIt s1
   have S2:=hideIt s2
   have O2:=hideIt (O1.out.same o2)
   have hlt2:=World.block_lt_of_cell? w2 _ s1
   clear b11 n11 o2 EV r1 r2 B8
   have BT : Hid (∀ W,W.heap[w2.heap.size + 1]? = some (bytesObj t (grownCap (w2.alloc (.cells #[.int .u8 1] 5)) t.size 0 5)) → Calls Tryz.prog 27 #[.slice (some ⟨w2.heap.size + 1,0,none⟩) t.size (grownCap (w2.alloc (.cells #[.int .u8 1] 5)) t.size 0 5)] W fun e w' => ∃ v',e = .returned v' ∧ Bs .u8 w' v' (blk (sb t)) ∧ NoCap v' ∧ Only (fun _ => False) W w'):=by
    intro W hW
    refine (rblocked_any _ (sb t) W (bytesObj_bs hW (grownCap_ge _ _ _ _)) (NoCap.some _ _ _) (by rw [sb_len];omega)).mono ?_
    rintro e w' ⟨v',rfl,own,o⟩
    exact ⟨v',rfl,Bs.of_own own,NoCap.of_own own,o⟩
   have OWL : Hid (∀ W,Only (fun _ => False) (w2.alloc (.cells #[.int .u8 1] 5)) W → W.ownsRow w2.heap.size 5 1 (.slice (some ⟨w2.heap.size,0,none⟩) 1 1) 1 [.int .u8 1]):=by
    intro W o
    have h0 : (w2.alloc (.cells #[.int .u8 1] 5)).ownsRow w2.heap.size 5 1 (.slice (some ⟨w2.heap.size,0,none⟩) 1 1) 1 [.int .u8 1]:=⟨rfl,.inr ⟨w2.heap.size,1,#[.int .u8 1],rfl,Nat.le_refl _,heap_alloc_new w2 _,Nat.le_refl _,by unfold maxLen;omega,rfl,rfl⟩⟩
    exact o.own h0 (fun _ _ f => f)
   have BLK : ∀ (v : Value) (x : List Int),x.length ≤ 1000000 → NoCap v → ∀ W,Bs .u8 W v x → Calls Tryz.prog 27 #[v] W fun e w' => ∃ v',e = .returned v' ∧ Bs .u8 w' v' (blk x) ∧ NoCap v' ∧ Only (fun _ => False) W w':=by
    intro v x hx hv W hb
    refine (rblocked_any v x W hb hv hx).mono ?_
    rintro e w' ⟨v',rfl,own,o⟩
    exact ⟨v',rfl,Bs.of_own own,NoCap.of_own own,o⟩
   have BK8:=hideIt (BLK v8 x8 (by have:=L8.out;omega) N8.out)
   have BK11:=hideIt (BLK v11 x11 (by have:=L11.out;omega) N11.out)
   have LT:=hideIt (blk_len (sb t) (by rw [sb_len];omega))
   rw [sb_len] at LT
   have LB8:=hideIt (blk_len x8 (by have:=L8.out;omega))
   have LB11:=hideIt (blk_len x11 (by have:=L11.out;omega))
   have LG:=hideIt (gs_le10 (v:=k) (by omega))
   clear BLK E8
   go_wp2_with fail
   refine (BT.out _ (heap_drew_at (heap_at_new (by simp)))).mono ?_
   rintro e w3 ⟨v3,rfl,b3,n3,o3⟩
   have OX3:=hideIt (OWL.out w3 (Only.same (((Only.refl _ _).alloc _).drew) o3))
   have O3a : Only (fun _ => False) w2 w3:=Only.same ((((Only.refl _ _).alloc _).alloc _).drew) o3
   have O3:=hideIt (O2.out.same O3a)
   have t1:=cell_past O3a s1
   have t2:=cell_past O3a s2
   have OA:=hideIt O3a
   have H32:=O3a.size
   have B3:=hideIt b3
   have N3:=hideIt n3
   clear o3 O3a BT OWL b3 n3 s1 s2
   go_wp2_with (at_builtin;refine wpList_append_bs _ rfl _ _ _ rfl w2.heap.size 5 k0 (.int .u8 0) 1 Tryz.underlying26 hk kz0 kz1 kz2 rfl _ 1 [.int .u8 1] rfl OX3.out .u8 _ (blk (sb t)) rfl B3.out N3.out ?c3 ?c4 H32 ?_)
   case c3 => have:=LT.out;unfold maxLen;omega
   case c4 => have:=LT.out;omega
   intro v4 w4 own4 hgrow4 _ _
   have o34 : Only (fun g => g = w2.heap.size) w3 w4:=(Only.refl _ w3).grown hgrow4 (fun g _ e => by simp [Value.ownBlock] at e;exact e.symm)
   have O24:=hideIt (OA.out.trans o34 (fun g hg e => by omega))
   have u1:=cell_past O24.out S1.out
   have u2:=cell_past O24.out S2.out
   have B4 : Bs .u8 w4 v4 (1 :: blk (sb t)):=Bs.of_own (lo:=w2.heap.size) (E:=5) (by rw [List.length_cons,Nat.add_comm,List.map_cons];exact own4)
   have AP:=rappend_any v4 (1 :: blk (sb t)) k w4 B4 (NoCap.of_own own4) (by have:=LT.out;rw [List.length_cons];omega) (by omega) (by omega)
   rw [Int.toNat_natCast] at AP
   have AP:=hideIt AP
   obtain ⟨y4,hy4⟩ : ∃ y4,y4 = (1 :: blk (sb t)) ++ gs k:=⟨_,rfl⟩
   rw [← hy4] at AP
   have LY4 : Hid (y4.length ≤ 200):=by have:=LT.out;have:=LG.out;simp only [Hid];rw [hy4,List.length_append,List.length_cons];omega
   have HY4:=hideIt hy4
   clear own4 hgrow4 o34 B4 hy4 t1 t2 OX3 B3
   go_wp2_with fail
   refine AP.out.mono ?_
   rintro e w5 ⟨v5,rfl,own5,o5⟩
   have O25:=hideIt (O24.out.same o5)
   have OC45 : Hid (w4.heap.size ≤ w5.heap.size):=o5.size
   have OW5:=hideIt own5
   have K8:=hideIt (BK8.out w5 (B8'.out.past O25.out))
   clear own5 o5 AP u1 u2
   generalize y4.length = l4 at *
   go_wp2_with fail
   refine K8.out.mono ?_
   rintro e w6 ⟨v6,rfl,b6,n6,o6⟩
   have OW6:=hideIt (o6.own OW5.out (fun _ _ f => f))
   have B6:=hideIt b6
   have N6:=hideIt n6
   have O26:=hideIt (O25.out.same o6)
   have H46 : w4.heap.size ≤ w6.heap.size:=by
    have a1:=o6.size
    have a2 : w4.heap.size ≤ w5.heap.size:=by have:=OC45.out;exact this
    omega
   clear b6 n6 o6 K8
   generalize hY : y4.map (Value.int .u8) = Y4 at *
   go_wp2_with (at_builtin;refine wpList_append_bs _ rfl _ _ _ rfl w4.heap.size 5 k0 (.int .u8 0) 1 Tryz.underlying26 hk kz0 kz1 kz2 rfl v5 l4 Y4 rfl OW6.out .u8 _ (blk x8) rfl B6.out N6.out ?c3 ?c4 H46 ?_)
   case c3 => have:=LB8.out;have:=L8.out;have:=LY4.out;unfold maxLen;omega
   case c4 => have:=LB8.out;have:=L8.out;have:=LY4.out;omega
   intro v7 w7 own7 hgrow7 _ _
   have lo5 : ∀ g,v5.ownBlock = some g → w4.heap.size ≤ g:=fun g hg => (OW6.out.lt g hg).1
   have O27 : Hid (Only (fun _ => False) w2 w7):=by
    have o67 : Only (fun g => v5.ownBlock = some g) w6 w7:=(Only.refl _ w6).grown hgrow7 (fun g _ e => e)
    exact O26.out.trans o67 (fun g hg e => by have:=lo5 g e;have:=O24.out.size;omega)
   have H47 : Hid (w4.heap.size ≤ w7.heap.size):=by
    have:=hgrow7.size
    simp only [Hid];omega
   have OW7:=hideIt own7
   have K11:=hideIt (BK11.out w7 (B11.out.past O27.out))
   clear own7 hgrow7 lo5
   go_wp2_with fail
   refine K11.out.mono ?_
   rintro e w8 ⟨v8b,rfl,b8,n8,o8⟩
   have OW8:=hideIt (o8.own OW7.out (fun _ _ f => f))
   have B8d:=hideIt b8
   have N8d:=hideIt n8
   have O28:=hideIt (O27.out.same o8)
   have H48 : w4.heap.size ≤ w8.heap.size:=by have:=o8.size;have:=H47.out;omega
   clear b8 n8 o8 K11
   generalize hl7 : l4 + (blk x8).length = l7 at *
   have HL7:=hideIt hl7
   generalize hY7 : Y4 ++ (blk x8).map (Value.int .u8) = Y7 at *
   have HY7:=hideIt hY7
   have HYY:=hideIt hY
   clear hl7 hY7 hY
   go_wp2_with (at_builtin;refine wpList_append_bs _ rfl _ _ _ rfl w4.heap.size 5 k0 (.int .u8 0) 1 Tryz.underlying26 hk kz0 kz1 kz2 rfl v7 l7 Y7 rfl OW8.out .u8 _ (blk x11) rfl B8d.out N8d.out ?c3 ?c4 H48 ?_)
   case c3 => have:=LB8.out;have:=L8.out;have:=LB11.out;have:=L11.out;have:=LY4.out;have:=HL7.out;unfold maxLen;omega
   case c4 => have:=LB8.out;have:=L8.out;have:=LB11.out;have:=L11.out;have:=LY4.out;have:=HL7.out;omega
   intro v9 w9 own9 hgrow9 _ _
   have lo7 : ∀ g,v7.ownBlock = some g → w4.heap.size ≤ g:=fun g hg => (OW8.out.lt g hg).1
   have O29 : Hid (Only (fun _ => False) w2 w9):=by
    have o89 : Only (fun g => v7.ownBlock = some g) w8 w9:=(Only.refl _ w8).grown hgrow9 (fun g _ e => e)
    exact O28.out.trans o89 (fun g hg e => by have:=lo7 g e;have:=O24.out.size;omega)
   have FIN : Hid (Bs .u8 w9 v9 (1 :: (blk (sb t) ++ (gs k ++ (blk x8 ++ blk x11))))):=by
    have e1 : (1 :: (blk (sb t) ++ (gs k ++ (blk x8 ++ blk x11)))) = y4 ++ blk x8 ++ blk x11:=by rw [HY4.out];simp
    simp only [Hid]
    rw [e1]
    refine Bs.of_own (lo:=w4.heap.size) (E:=5) ?_
    have hh:=own9
    rw [← HY7.out,← HYY.out] at hh
    rw [List.map_append,List.map_append]
    have hn : l7 + (blk x11).length = (y4 ++ blk x8 ++ blk x11).length:=by
     have:=hh.1
     simp only [List.length_append,List.length_map,Nat.mul_one] at this ⊢
     omega
    rw [← hn]
    exact hh
   clear own9 hgrow9 lo7
   go_wp2
   go_ret2
   exact ⟨v9,rfl,FIN.out,O2.out.same O29.out⟩
theorem rencode12_all (t : ByteArray) (u : Value) (s : List (Int × Int)) (w : World) (h : Sps w u s) (hg : Gs s) (hl : s.length ≤ 200 ∨ 65536 < s.length) (hm : s.length ≤ maxLen) (hm2 : t.size ≤ maxLen) :
  Calls Tryz.prog 11 #[.agg #[.string t,u]] w fun e w' => ∃ v',e = .returned (.tuple #[v',.int .i64 (ENCC (sb t) s).2]) ∧ Bs .u8 w' v' (ENCC (sb t) s).1 ∧ Only (fun _ => False) w w':=by
 by_cases h1 : 64 < t.size ∨ 65536 < s.length
 ·rw [ENCC_long (by rw [sb_len];exact h1)]
  refine (rencode12_long t u s w h h1 hm hm2).mono ?_
  rintro e w' ⟨rfl,o⟩
  exact ⟨_,rfl,Bs.nil _ _,o⟩
 ·have e : (ENCC (sb t) s).2 = 0:=by rw [ENCC_of (by rw [sb_len];omega) (by omega)]
  rw [e]
  exact rencode12_bs t u s w h hg (by omega) (by omega)
end Go.Proofs.YthapipgaohlgdaaGreatDoor
