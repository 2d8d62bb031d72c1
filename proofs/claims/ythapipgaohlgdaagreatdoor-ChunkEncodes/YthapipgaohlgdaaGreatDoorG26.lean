/- Several texts in one: Rf, Re9, Rp, Re10. -/
import Derived.Test.YthapipgaohlgdaaGreatDoorG25
import Derived.Test.YthapipgaohlgdaaGreatDoorG14
import Derived.Test.YthapipgaohlgdaaGreatDoorG20
import Derived.Test.YthapipgaohlgdaaGreatDoorG6
import Derived.Test.YthapipgaohlgdaaGreatDoorG12
import Derived.Test.YthapipgaohlgdaaGreatDoorG1
import Derived.Test.YthapipgaohlgdaaGreatDoorG19


namespace Go.Proofs.YthapipgaohlgdaaGreatDoor
open Go.RowKit
set_option maxHeartbeats 400000 in
theorem rlead_any (x : Nat) (w : World) (hx : x < 18446744073709551616) :
  Calls Tryz.prog 120 #[.int .u64 x] w fun e w' => e = .returned (.int .i64 (ldz x : Nat)) ∧ w = w':=by
 have W:=hideIt (rwidth_any (x : Int) w (by omega) (by omega))
 rw [Int.toNat_natCast] at W
 have hw:=wid_le64 x hx
 have hld : Hid (ldz x = min (64 - wid x) 31):=rfl
 generalize wid x = q at *
 generalize ldz x = a at *
 go_enter Tryz.func120,Tryz.ntmps120
 go_wp2_with fail
 refine W.out.mono ?_
 rintro e w1 ⟨rfl,rfl⟩
 go_wp2
 all_goals go_ret
 all_goals
  refine ⟨?_,rfl⟩
  have:=hld.out
  exact ret_int (by omega)
theorem tz_half {x : Nat} (h0 : 0 < x) (hx : x < 18446744073709551616) (he : x % 2 = 0) : tz x = tz (x / 2) + 1:=by
 have h1 : tz x = tzF 63 (x / 2) + 1:=by unfold tz;rw [tzF,if_pos he]
 have h2 : tzF 63 (x / 2) = tz (x / 2):=by
  have hc : ∀ (f y : Nat),0 < y → y < 2 ^ f → tzF f y = tzF (f + 1) y:=by
   intro f
   induction f with
   | zero => intro y h1 h2;simp at h2;omega
   | succ f ih =>
    intro y h1 h2
    rw [tzF,tzF]
    by_cases h : y % 2 = 0
    ·rw [if_pos h,if_pos h,ih (y / 2) (by omega) (by rw [Nat.pow_succ] at h2;omega)]
    ·rw [if_neg h,if_neg h]
  exact hc 63 (x / 2) (by omega) (by
   have : (2 : Nat) ^ 63 = 9223372036854775808:=by decide
   omega)
 rw [h1,h2]
theorem tz_odd {x : Nat} (he : x % 2 ≠ 0) : tz x = 0:=by unfold tz;rw [tzF,if_neg he]
theorem tz_lt {x : Nat} (h0 : 0 < x) (hx : x < 18446744073709551616) : tz x < 64:=tzF_lt 64 x h0 (by rw [p64];exact hx)
set_option maxHeartbeats 400000 in
theorem rtrail_any (x : Nat) (w : World) (h0 : 0 < x) (hx : x < 18446744073709551616) :
  Calls Tryz.prog 119 #[.int .u64 x] w fun e w' => e = .returned (.int .i64 (tz x : Nat)) ∧ w = w':=by
 obtain ⟨t,ht⟩ : ∃ t,t = tz x:=⟨_,rfl⟩
 have htl:=tz_lt h0 hx
 rw [← ht] at htl ⊢
 have HT:=hideIt ht
 clear ht
 go_enter Tryz.func119,Tryz.ntmps119
 go_wp2
 go_loop [0,3] (fun a i => ∃ y n : Nat,a = .int .u64 y ∧ i = .int .i64 n ∧ 0 < y ∧ y < 18446744073709551616 ∧ n + tz y = t) (fun a _ => (intOf a).toNat)
 case atStart => exact ⟨x,0,rfl,rfl,h0,hx,by rw [HT.out];omega⟩
 case round =>
  clear HT
  obtain ⟨y,n,rfl,rfl,y0,y1,hn⟩:=hrel
  have HN:=hideIt hn
  have hnt : n ≤ t:=by omega
  clear hn
  by_cases he : y % 2 = 0
  ·have de : ((y : Int) % 2 == 0) = true:=by simp;omega
   have hz : Hid (n + 1 + tz (y / 2) = t):=by have:=tz_half y0 y1 he;have:=HN.out;simp only [Hid];omega
   clear HN
   go_wp2
   go_round
   case rel => exact ⟨y / 2,n + 1,by congr 1,by congr 1,by omega,by omega,hz.out⟩
   case measure => simp [intOf];omega
  ·have de : ((y : Int) % 2 == 0) = false:=by rw [beq_eq_false_iff_ne];omega
   have hz : n = t:=by have:=tz_odd he;have:=HN.out;omega
   clear HN
   subst hz
   go_wp2
   go_ret
   exact ⟨rfl,rfl⟩
theorem rput9 (v : Value) (l : List Bool) (x : Int) (n q : Nat) (w : World) (h : Bs .i64 w v (bitsI l)) (hnc : NoCap v) (hl : l.length ≤ 1000000) (e : x = (n : Int)) (hn : n < 18446744073709551616) (hq : q ≤ 64) (hw : wid n ≤ q) :
  Calls Tryz.prog 117 #[v,.int .u64 x,.int .i64 q] w fun e w' => ∃ v',e = .returned v' ∧ w'.ownsRow w.heap.size 3 1 v' (l ++ bitsOf n q).length ((bitsI (l ++ bitsOf n q)).map (Value.int .i64)) ∧ Only (fun _ => False) w w':=by
 subst e
 have P:=rput_own v l n q w h hnc hl (by omega) (by omega) (by omega) (by omega) (by simpa using hw)
 simp only [Int.toNat_natCast] at P
 have P:=hideIt P
 clear h hnc
 obtain ⟨L,hL⟩ : ∃ L,L = l ++ bitsOf n q:=⟨_,rfl⟩
 rw [← hL] at P ⊢
 clear hL
 go_enter Tryz.func117,Tryz.ntmps117
 go_wp2_with fail
 refine P.out.mono ?_
 rintro e w1 ⟨v1,rfl,own,on⟩
 have OW:=hideIt own
 have ON:=hideIt on
 clear own on P
 go_wp2
 go_ret
 exact ⟨v1,rfl,OW.out,ON.out⟩
theorem bs_bits {w : World} {lo : Nat} {E : TypeId} {v : Value} {l : List Bool} (h : w.ownsRow lo E 1 v l.length ((bitsI l).map (Value.int .i64))) : Bs .i64 w v (bitsI l):=Bs.of_own (lo:=lo) (E:=E) (by rw [bitsI_length];exact h)
end Go.Proofs.YthapipgaohlgdaaGreatDoor


namespace Go.Proofs.YthapipgaohlgdaaGreatDoor
set_option maxRecDepth 100000
open Go.RowKit
def W3 (wn : Option (Nat × Nat)) (a z : Int) : Prop:=(wn = none ∧ a = -1 ∧ z = -1) ∨ ∃ a' z' : Nat,wn = some (a',z') ∧ a = (a' : Int) ∧ z = (z' : Int) ∧ a' ≤ 31 ∧ a' + z' ≤ 63
theorem bits_lit2 (w : World) (b : Bool) : Bs .i64 (w.alloc (.cells #[.int .i64 1,.int .i64 (b.toNat : Nat)] 3)) (.slice (some ⟨w.heap.size,0,none⟩) 2 2) (bitsI [true,b]) :=
 Bs.litN .i64 w 3 [1,(b.toNat : Int)] _ _ rfl rfl
set_option maxHeartbeats 400000 in
theorem rencode9_long (v : Value) (xs : List Int) (w : World) (h : Bs .u64 w v xs) (hl : 65536 < xs.length) :
  Calls Tryz.prog 78 #[v] w fun e w' => e = .returned (.tuple #[.slice none 0 0,.int .i64 4]) ∧ w = w':=by
 obtain ⟨ao,cap,rfl⟩:=h.len
 clear h
 have d0 : decide (65536 < (xs.length : Int)) = true:=by simp;omega
 generalize xs.length = m at *
 clear hl
 go_enter Tryz.func78,Tryz.ntmps78
 go_wp2
 go_ret2
 exact ⟨rfl,rfl⟩
set_option maxHeartbeats 400000 in
theorem rencode9_nil (v : Value) (w : World) (h : Bs .u64 w v []) :
  Calls Tryz.prog 78 #[v] w fun e w' => ∃ v',e = .returned (.tuple #[v',.int .i64 0]) ∧ w'.ownsRow w.heap.size 5 1 v' 0 [] ∧ Only (fun _ => False) w w':=by
 obtain ⟨ao,cap,rfl⟩:=h.len
 clear h
 have B:=brbytes_bs (.slice none 0 0) [] w (Bs.nil _ _) (by simp)
 rw [show bytesI ([] : List Bool) = [] from rfl] at B
 simp only [List.length_nil,List.map_nil] at B
 have B:=hideIt B
 go_enter Tryz.func78,Tryz.ntmps78
 go_wp2
 go_loop [4,7] (fun k i => k = .slice none 0 0 ∧ i = .int .i64 0) (fun _ _ => 0)
 case atStart => exact ⟨rfl,rfl⟩
 case round =>
  obtain ⟨rfl,rfl⟩:=hrel
  go_wp2_with fail
  refine B.out.mono ?_
  rintro e w1 h1
  obtain ⟨v1,he,own,on⟩:=h1
  subst he
  have OW:=hideIt own
  have ON:=hideIt on
  clear own on B
  go_wp2
  go_ret2
  exact ⟨v1,rfl,OW.out,ON.out⟩
set_option maxHeartbeats 8000000 in
theorem rencode9_cons (v : Value) (x0 : Int) (t : List Int) (w : World) (h : Bs .u64 w v (x0 :: t)) (hu : U64 (x0 :: t)) (hl : (x0 :: t).length ≤ 10000) :
  Calls Tryz.prog 78 #[v] w fun e w' => ∃ v',e = .returned (.tuple #[v',.int .i64 0]) ∧ w'.ownsRow w.heap.size 5 1 v' (bytesI (GB (x0 :: t))).length ((bytesI (GB (x0 :: t))).map (Value.int .u8)) ∧ Only (fun _ => False) w w':=by
 obtain ⟨i0,hi,hz0,hz1,hz2⟩:=info_parts Tryz.infoI64
 obtain ⟨b,off,cap,rfl,c0⟩:=h.at 0 (by simp)
 have HU:=hideIt hu
 obtain ⟨u0,u1⟩:=hu x0 List.mem_cons_self
 simp only [List.getD_cons_zero,Nat.add_zero] at c0
 have hbw:=cell_in c0
 have HC : Hid (∀ j,j < (x0 :: t).length → w.cell? ⟨b,off + j,none⟩ = some (.int .u64 ((x0 :: t).getD j 0))):=by
  intro j hj
  obtain ⟨b',off',cap',e,hc⟩:=h.at j hj
  simp only [Value.slice.injEq,Option.some.injEq,Addr.mk.injEq,and_true] at e
  obtain ⟨⟨rfl,rfl⟩,_,rfl⟩:=e
  exact hc
 have hmem : Hid (∀ j,j < (x0 :: t).length → 0 ≤ (x0 :: t).getD j 0 ∧ (x0 :: t).getD j 0 ≤ 18446744073709551615):=fun j hj => hu _ (by rw [List.getD_eq_getElem?_getD,List.getElem?_eq_getElem hj];simp)
 obtain ⟨m,hm⟩ : ∃ m,m = t.length:=⟨_,rfl⟩
 have HM:=hideIt hm
 have hlen : (x0 :: t).length = m + 1:=by rw [hm];rfl
 rw [hlen] at hl HC hmem
 rw [hlen]
 obtain ⟨n,hn⟩ : ∃ n,n = m + 1:=⟨_,rfl⟩
 rw [← hn] at hl HC hmem
 rw [← hn]
 have n0 : 0 < n:=by omega
 have HN:=hideIt hn
 obtain ⟨G,hG⟩ : ∃ G,G = bytesI (GB (x0 :: t)):=⟨_,rfl⟩
 rw [← hG]
 have HG:=hideIt hG
 have d0 : decide (65536 < (n : Int)) = false:=by simp;omega
 have x64 : wid x0.toNat ≤ 64:=wid_le64 x0.toNat (by omega)
 clear h hu hm hlen hG hn
 go_enter Tryz.func78,Tryz.ntmps78
 go_wp2
 go_loopw [4,5,6,7] (fun kv av zv iv wr => (kv = .slice none 0 0 ∧ av = .int .i64 (-1) ∧ zv = .int .i64 (-1) ∧ iv = .int .i64 0 ∧ wr = w) ∨
  ∃ k : Nat,k ≤ m ∧ iv = .int .i64 ((k : Int) + 1) ∧ wr.ownsRow w.heap.size 3 1 kv (bitsOf x0.toNat 64 ++ gE x0.toNat none (t.take k)).length ((bitsI (bitsOf x0.toNat 64 ++ gE x0.toNat none (t.take k))).map (Value.int .i64)) ∧
   (∃ a z : Int,av = .int .i64 a ∧ zv = .int .i64 z ∧ W3 (gW x0.toNat none (t.take k)) a z) ∧ Below w.heap.size w wr) (fun _ _ _ i _ => n - (intOf i).toNat)
 case atStart => exact .inl ⟨rfl,rfl,rfl,rfl,rfl⟩
 case round =>
  rcases hrel with ⟨rfl,rfl,rfl,rfl,rfl⟩ | ⟨k,hk,rfl,hown,⟨a,z,rfl,rfl,hw3⟩,hbel⟩
  ·have dlt : decide ((0 : Int) < (n : Int)) = true:=by simp;omega
   have P0:=hideIt (rput9 (.slice none 0 0) [] x0 x0.toNat 64 wr (Bs.nil _ _) NoCap.nil (by simp) (by omega) (by omega) (by omega) x64)
   go_wp2_with fail
   refine P0.out.mono ?_
   rintro e w1 ⟨v1,rfl,own1,on1⟩
   have OW1 : Hid (w1.ownsRow wr.heap.size 3 1 v1 (bitsOf x0.toNat 64 ++ gE x0.toNat none (t.take 0)).length ((bitsI (bitsOf x0.toNat 64 ++ gE x0.toNat none (t.take 0))).map (Value.int .i64))):=by
    have e : bitsOf x0.toNat 64 ++ gE x0.toNat none (t.take 0) = [] ++ bitsOf x0.toNat 64:=by simp [gE]
    simp only [Hid];rw [e];exact own1
   have B1:=hideIt (on1.low (Nat.le_refl _))
   clear own1 on1 P0
   go_wp2
   go_roundw
   case rel => exact .inr ⟨0,Nat.zero_le _,rfl,OW1.out,⟨_,_,rfl,rfl,.inl ⟨rfl,rfl,rfl⟩⟩,B1.out⟩
   case measure => simp [intOf];omega
  by_cases hlt : k < m
  case neg =>
   obtain rfl : k = m:=by omega
   have dlt : decide ((k : Int) + 1 < (n : Int)) = false:=by have:=HN.out;simp;omega
   have hlq : (bitsOf x0.toNat 64 ++ gE x0.toNat none (t.take k)).length ≤ 1000000:=by
    have:=(gE_len (t.take k) x0.toNat none).1
    have:=HN.out
    rw [List.length_append,bitsOf_length]
    rw [List.length_take] at *
    omega
   have BY:=hideIt (brbytes_bs _ _ wr (bs_bits hown) hlq)
   have hbits : Hid (bytesI (bitsOf x0.toNat 64 ++ gE x0.toNat none (t.take k)) = G):=by
    simp only [Hid];rw [HG.out,HM.out,List.take_length];rfl
   rw [hbits.out] at BY
   have HBEL:=hideIt hbel
   clear hown hlq hw3 hbel
   go_wp2_with fail
   refine BY.out.mono ?_
   rintro e w4 ⟨v4,rfl,own4,on4⟩
   have OW:=hideIt (own_low own4 HBEL.out.size)
   have ON:=hideIt ((only_of_below HBEL.out).same on4)
   clear BY own4 on4
   go_wp2
   go_ret2
   exact ⟨v4,rfl,OW.out,ON.out⟩
  have hn1:=HN.out
  have dlt : decide ((k : Int) + 1 < (n : Int)) = true:=by simp;omega
  have c1:=(hbel.cell (p:=⟨b,off + (k + 1),none⟩) hbw).trans (HC.out (k + 1) (by omega))
  have c2:=(hbel.cell (p:=⟨b,off + k,none⟩) hbw).trans (HC.out k (by omega))
  rw [List.getD_cons_succ] at c1
  obtain ⟨s1,s2⟩:=gE_step x0 t k (by rw [← HM.out];exact hlt)
  have G1:=hideIt s1
  have G2:=hideIt s2
  obtain ⟨p0,p1⟩:=hmem.out k (by omega)
  obtain ⟨y0,y1⟩:=hmem.out (k + 1) (by omega)
  rw [List.getD_cons_succ] at y0 y1
  have HLEN : Hid ((bitsOf x0.toNat 64 ++ gE x0.toNat none (t.take k)).length ≤ 900000):=by
   have:=(gE_len (t.take k) x0.toNat none).1
   simp only [Hid]
   rw [List.length_append,bitsOf_length]
   rw [List.length_take] at this
   omega
  have hxx:=xor_i p0 p1 y0 y1
  have hxl:=xor_lt (a:=((x0 :: t).getD k 0).toNat) (b:=(t.getD k 0).toNat) (by omega) (by omega)
  generalize (x0 :: t).getD k 0 = pp at *
  generalize t.getD k 0 = yy at *
  generalize pp.toNat ^^^ yy.toNat = X at *
  obtain ⟨L,hL⟩ : ∃ L,L = bitsOf x0.toNat 64 ++ gE x0.toNat none (t.take k):=⟨_,rfl⟩
  rw [← hL] at hown HLEN
  have HL:=hideIt hL
  obtain ⟨q,hq⟩ : ∃ q,q = L.length:=⟨_,rfl⟩
  rw [← hq] at hown HLEN
  have HQ:=hideIt hq
  have hown:=hideIt hown
  have HBEL:=hideIt hbel
  obtain ⟨wn,hwn⟩ : ∃ wn,wn = gW x0.toNat none (t.take k):=⟨_,rfl⟩
  rw [← hwn] at hw3 G1 G2
  have HC3:=hideIt hw3
  clear s1 s2 hL hq hbel hwn hw3
  have ik : (k : Int) + 1 < (n : Int):=by omega
  have hnb : n ≤ 10000:=hl
  have hkn : k + 1 < n:=by omega
  clear hn1
  have ON0 : Hid (Only (fun _ => False) wr wr.drew):=(Only.refl _ _).drew
  by_cases hX : X = 0
  ·subst hX
   go_wp2
   go_region
   have eg : gx 0 wn = ([false],wn):=by unfold gx;rw [if_pos rfl]
   rw [eg] at G1 G2
   have OWK:=hideIt ((ON0.out.own hown.out (fun _ _ f => f)).alloc (.cells #[.int .i64 0] 3))
   have hsz : w.heap.size ≤ wr.drew.heap.size:=HBEL.out.size
   have hL6:=HLEN.out
   go_wp2_with (at_builtin;go_loud (refine wpList_append_lies _ rfl _ _ _ rfl w.heap.size 3 i0 (.int .i64 0) 1 8 Tryz.underlying45 hi hz0 hz1 hz2 rfl (by omega) _ q ((bitsI L).map (Value.int .i64)) rfl OWK.out ⟨wr.heap.size,0,none⟩ 1 1 [.int .i64 0] rfl rfl ?c1 ?c2 (by omega) ?c3 ?c4 ?c5 (wr.heap.size + 1) (by simp) ?_))
   case c2 => first | rfl | trivial | (intro u hu;simp at hu;subst hu;rfl)
   case c3 => unfold maxLen;omega
   case c4 => omega
   case c5 => exact Nat.le_trans hsz (by simp)
   intro g cap1 w8 hown1 hgrow hat hg1
   have HB8 : Hid (Below w.heap.size w w8):=(HBEL.out.drew.alloc HBEL.out.size _).grown hgrow (Nat.le_trans hsz (by simp)) (fun r hr => (hown.out.lt r hr).1)
   have OW8 : Hid (w8.ownsRow w.heap.size 3 1 (.slice (some ⟨g,0,none⟩) (q + 1) cap1) (bitsOf x0.toNat 64 ++ gE x0.toNat none (t.take (k + 1))).length ((bitsI (bitsOf x0.toNat 64 ++ gE x0.toNat none (t.take (k + 1)))).map (Value.int .i64))):=by
    have e : bitsOf x0.toNat 64 ++ gE x0.toNat none (t.take (k + 1)) = L ++ [false]:=by rw [G1.out,← List.append_assoc,← HL.out]
    simp only [Hid]
    rw [e,List.length_append,← HQ.out,bitsI,List.map_append,List.map_append]
    exact hown1
   clear hown1 hgrow hat hg1 OWK
   go_wp2
   go_roundw
   case rel => exact .inr ⟨k + 1,by omega,by simp,OW8.out,⟨_,_,rfl,rfl,by rw [G2.out];exact HC3.out⟩,HB8.out⟩
   case measure => simp [intOf];omega
  obtain ⟨n1,n2,n3⟩:=win_new (Nat.pos_of_ne_zero hX) hxl
  have hw64:=wid_le64 X hxl
  have dX : ((X : Int) == 0) = false:=by rw [beq_eq_false_iff_ne];omega
  have RWI:=fun w => hideIt (rwidth_any (X : Int) w (by omega) (by omega))
  simp only [Int.toNat_natCast] at RWI
  have RTR:=fun w => hideIt (rtrail_any X w (Nat.pos_of_ne_zero hX) hxl)
  have RLE:=fun w => hideIt (rlead_any X w hxl)
  obtain ⟨ww,hww⟩ : ∃ ww,ww = wid X:=⟨_,rfl⟩
  obtain ⟨tt,htt⟩ : ∃ tt,tt = tz X:=⟨_,rfl⟩
  obtain ⟨aa,haa⟩ : ∃ aa,aa = ldz X:=⟨_,rfl⟩
  rw [← hww] at RWI hw64 n2
  rw [← htt] at RTR n3
  rw [← haa] at RLE n1 n2 n3
  rcases HC3.out with ⟨rfl,rfl,rfl⟩ | ⟨a',z',rfl,rfl,rfl,h5,h6⟩
  ·obtain ⟨d,hd⟩ : ∃ d,d = 64 - aa - tt:=⟨_,rfl⟩
   obtain ⟨d1,hd1⟩ : ∃ d1,d1 = 63 - aa - tt:=⟨_,rfl⟩
   have eg : gx X none = (newW X,some (ldz X,tz X)):=by unfold gx;rw [if_neg hX]
   have HGX : newW X = [true,true] ++ bitsOf aa 5 ++ bitsOf d1 6 ++ bitsOf (X / 2 ^ tt) d:=by rw [hd1,hd];unfold newW;rw [← haa,← htt];simp
   have W9 : Hid (W3 (some (aa,tt)) (aa : Int) (tt : Int)):=.inr ⟨aa,tt,rfl,rfl,rfl,n1,n3⟩
   rw [eg] at G1 G2
   simp only at G1 G2
   rw [HGX] at G1
   rw [← haa,← htt] at G2
   have y2 : wid (X / 2 ^ tt) ≤ d:=by rw [hd];exact (wid_le_iff _ _).2 (fits_lt hxl (by omega) n3)
   have y1 : X / 2 ^ tt ≤ X:=Nat.div_le_self _ _
   have e3 : (X : Int) / 2 ^ tt = ((X / 2 ^ tt : Nat) : Int):=by push_cast;rfl
   have hdi : (64 : Int) - (aa : Int) - (tt : Int) = (d : Int):=by omega
   have hdj : (63 : Int) - (aa : Int) - (tt : Int) = (d1 : Int):=by omega
   have d64 : d ≤ 64:=by omega
   have z64 : (tt : Int) < 64:=by omega
   clear hww htt haa hd hd1 eg HC3
   go_wp2
   go_region
   generalize hyy : X / 2 ^ tt = y at *
   have P1:=hideIt (rput9 _ _ (aa : Int) aa 5 _ (bits_lit2 wr.drew true) (NoCap.some _ _ _) (by simp) rfl (by omega) (by omega) (wid_5 n1))
   clear hyy
   go_wp2_with fail
   refine (RLE wr.drew).out.mono ?_
   rintro e wq ⟨rfl,rfl⟩
   go_wp2_with fail
   refine (RTR wr.drew).out.mono ?_
   rintro e wq ⟨rfl,rfl⟩
   go_wp2_with fail
   refine P1.out.mono ?_
   rintro e w5 ⟨v5,rfl,own5,on5⟩
   have P2:=hideIt (rput9 v5 _ ((d1 : Nat) : Int) d1 6 w5 (bs_bits own5) (NoCap.of_own own5) (by simp [bitsOf_length]) rfl (by omega) (by omega) (wid_6 (by omega)))
   have ON5:=hideIt ((ON0.out.alloc (.cells #[.int .i64 1,.int .i64 1] 3)).same on5)
   obtain ⟨f5,c5,e5⟩:=(bs_bits own5).len
   subst e5
   clear own5 on5 P1
   go_wp2_with fail
   refine P2.out.mono ?_
   rintro e w6 ⟨v6,rfl,own6,on6⟩
   have P3:=hideIt (rput9 v6 _ (y : Int) y d w6 (bs_bits own6) (NoCap.of_own own6) (by simp [bitsOf_length]) rfl (by omega) d64 y2)
   have ON6:=hideIt (ON5.out.same on6)
   obtain ⟨f6,c6,e6⟩:=(bs_bits own6).len
   subst e6
   clear own6 on6 P2 ON5
   go_wp2_with fail
   refine P3.out.mono ?_
   rintro e w7 ⟨v7,rfl,own7,on7⟩
   have OWO:=hideIt own7
   have ONK:=hideIt (ON6.out.same on7)
   clear own7 on7 P3 ON6
   have HOL : Hid (([true,true] ++ bitsOf aa 5 ++ bitsOf d1 6 ++ bitsOf y d).length ≤ 100):=by simp only [Hid,List.length_append,List.length_cons,List.length_nil,bitsOf_length];omega
   obtain ⟨LO,hLO⟩ : ∃ LO,LO = [true,true] ++ bitsOf aa 5 ++ bitsOf d1 6 ++ bitsOf y d:=⟨_,rfl⟩
   rw [← hLO] at OWO HOL
   have HLO:=hideIt hLO
   clear hLO
   have hpos : 0 < LO.length:=by rw [HLO.out];simp
   obtain ⟨go,co,rfl,_,_⟩:=World.ownsRow.form OWO.out hpos
   obtain ⟨no,hno⟩ : ∃ no,no = LO.length:=⟨_,rfl⟩
   have BN:=hideIt ((bs_bits OWO.out).news)
   have OWK:=hideIt (ONK.out.own hown.out (fun _ _ f => f))
   have HSZ:=Nat.le_trans HBEL.out.size ONK.out.size
   have BLK:=hideIt (HBEL.out.trans (ONK.out.low HBEL.out.size))
   rw [← hno] at HOL hpos
   have hnl : no = LO.length:=hno
   rw [← hno]
   have HNO:=hideIt hno
   clear hno hnl OWO
   have hL6:=HLEN.out
   have hO6:=HOL.out
   go_wp2_with (at_builtin;go_loud (refine wpList_append_lies _ rfl _ _ _ rfl w.heap.size 3 i0 (.int .i64 0) 1 8 Tryz.underlying45 hi hz0 hz1 hz2 rfl (by omega) _ q ((bitsI L).map (Value.int .i64)) rfl OWK.out ⟨go,0,none⟩ no co ((bitsI LO).map (Value.int .i64)) rfl ?c0 BN.out ?c2 hpos ?c3 ?c4 HSZ _ rfl ?_))
   case c0 => rw [List.length_map,bitsI_length,← HNO.out];omega
   case c2 => exact oneCell_ints _ _
   case c3 => unfold maxLen;omega
   case c4 => omega
   intro g cap1 w8 hown1 hgrow hat hg1
   have HB8:=hideIt (BLK.out.grown hgrow HSZ (fun r hr => (OWK.out.lt r hr).1))
   have OW8 : Hid (w8.ownsRow w.heap.size 3 1 (.slice (some ⟨g,0,none⟩) (q + no) cap1) (bitsOf x0.toNat 64 ++ gE x0.toNat none (t.take (k + 1))).length ((bitsI (bitsOf x0.toNat 64 ++ gE x0.toNat none (t.take (k + 1)))).map (Value.int .i64))):=by
    have e : bitsOf x0.toNat 64 ++ gE x0.toNat none (t.take (k + 1)) = L ++ LO:=by rw [G1.out,← List.append_assoc,← HL.out,HLO.out]
    simp only [Hid]
    rw [e,List.length_append,← HQ.out,← HNO.out,bitsI,List.map_append,List.map_append]
    exact hown1
   clear hown1 hgrow hat hg1 OWK BN BLK HLO
   go_wp2
   go_roundw
   case rel => exact .inr ⟨k + 1,by omega,by simp,OW8.out,⟨_,_,rfl,rfl,by rw [G2.out];exact W9.out⟩,HB8.out⟩
   case measure => simp [intOf];omega
  by_cases hf : fitsW X a' z'
  ·have eg : gx X (some (a',z')) = (true :: false :: bitsOf (X / 2 ^ z') (64 - a' - z'),some (a',z')):=by unfold gx;rw [if_neg hX];simp only;rw [if_pos hf]
   rw [eg] at G1 G2
   have HGX : true :: false :: bitsOf (X / 2 ^ z') (64 - a' - z') = [true,false] ++ bitsOf (X / 2 ^ z') (64 - a' - z'):=rfl
   obtain ⟨d,hd⟩ : ∃ d,d = 64 - a' - z':=⟨_,rfl⟩
   have y2 : wid (X / 2 ^ z') ≤ d:=by rw [hd];exact (wid_le_iff _ _).2 (fits_lt hxl hf.1 h6)
   rw [← hd] at HGX G1
   have y1 : X / 2 ^ z' ≤ X:=Nat.div_le_self _ _
   have e3 : (X : Int) / 2 ^ z' = ((X / 2 ^ z' : Nat) : Int):=by push_cast;rfl
   generalize X / 2 ^ z' = y at *
   simp only at G1 G2
   rw [HGX] at G1
   have hdi : (64 : Int) - (a' : Int) - (z' : Int) = (d : Int):=by omega
   have d64 : d ≤ 64:=by omega
   have z64 : (z' : Int) < 64:=by omega
   have t2 : decide ((a' : Int) ≤ 64 - (ww : Int)) = true:=decide_eq_true (by have:=hf.1;rw [← hww] at this;omega)
   have t3 : decide ((z' : Int) ≤ (tt : Int)) = true:=decide_eq_true (by have:=hf.2;rw [← htt] at this;omega)
   have t3n : decide (z' ≤ tt) = true:=decide_eq_true (by have:=hf.2;rw [← htt] at this;omega)
   have P1:=hideIt (rput9 _ _ (y : Int) y d _ (bits_lit2 wr.drew false) (NoCap.some _ _ _) (by simp) rfl (by omega) d64 y2)
   have W9 : Hid (W3 (some (a',z')) (a' : Int) (z' : Int)):=.inr ⟨a',z',rfl,rfl,rfl,h5,h6⟩
   clear hf hd eg hww htt haa HC3
   go_wp2_with fail
   go_region
   go_wp2_with fail
   refine (RWI wr.drew).out.mono ?_
   rintro e wq ⟨rfl,rfl⟩
   go_wp2_with fail
   refine (RTR wr.drew).out.mono ?_
   rintro e wq ⟨rfl,rfl⟩
   go_wp2_with fail
   refine P1.out.mono ?_
   rintro e w5 ⟨v5,rfl,own5,on5⟩
   have OWO:=hideIt own5
   have ONK:=hideIt ((ON0.out.alloc (.cells #[.int .i64 1,.int .i64 0] 3)).same on5)
   clear own5 on5 P1
   have HOL : Hid (([true,false] ++ bitsOf y d).length ≤ 100):=by simp only [Hid,List.length_append,List.length_cons,List.length_nil,bitsOf_length];omega
   obtain ⟨LO,hLO⟩ : ∃ LO,LO = [true,false] ++ bitsOf y d:=⟨_,rfl⟩
   rw [← hLO] at OWO HOL
   have HLO:=hideIt hLO
   clear hLO
   have hpos : 0 < LO.length:=by rw [HLO.out];simp
   obtain ⟨go,co,rfl,_,_⟩:=World.ownsRow.form OWO.out hpos
   obtain ⟨no,hno⟩ : ∃ no,no = LO.length:=⟨_,rfl⟩
   have BN:=hideIt ((bs_bits OWO.out).news)
   have OWK:=hideIt (ONK.out.own hown.out (fun _ _ f => f))
   have HSZ:=Nat.le_trans HBEL.out.size ONK.out.size
   have BLK:=hideIt (HBEL.out.trans (ONK.out.low HBEL.out.size))
   rw [← hno] at HOL hpos
   have hnl : no = LO.length:=hno
   rw [← hno]
   have HNO:=hideIt hno
   clear hno hnl OWO
   have hL6:=HLEN.out
   have hO6:=HOL.out
   go_wp2_with (at_builtin;go_loud (refine wpList_append_lies _ rfl _ _ _ rfl w.heap.size 3 i0 (.int .i64 0) 1 8 Tryz.underlying45 hi hz0 hz1 hz2 rfl (by omega) _ q ((bitsI L).map (Value.int .i64)) rfl OWK.out ⟨go,0,none⟩ no co ((bitsI LO).map (Value.int .i64)) rfl ?c0 BN.out ?c2 hpos ?c3 ?c4 HSZ _ rfl ?_))
   case c0 => rw [List.length_map,bitsI_length,← HNO.out];omega
   case c2 => exact oneCell_ints _ _
   case c3 => unfold maxLen;omega
   case c4 => omega
   intro g cap1 w8 hown1 hgrow hat hg1
   have HB8:=hideIt (BLK.out.grown hgrow HSZ (fun r hr => (OWK.out.lt r hr).1))
   have OW8 : Hid (w8.ownsRow w.heap.size 3 1 (.slice (some ⟨g,0,none⟩) (q + no) cap1) (bitsOf x0.toNat 64 ++ gE x0.toNat none (t.take (k + 1))).length ((bitsI (bitsOf x0.toNat 64 ++ gE x0.toNat none (t.take (k + 1)))).map (Value.int .i64))):=by
    have e : bitsOf x0.toNat 64 ++ gE x0.toNat none (t.take (k + 1)) = L ++ LO:=by rw [G1.out,← List.append_assoc,← HL.out,HLO.out]
    simp only [Hid]
    rw [e,List.length_append,← HQ.out,← HNO.out,bitsI,List.map_append,List.map_append]
    exact hown1
   clear hown1 hgrow hat hg1 OWK BN BLK HLO
   go_wp2
   go_roundw
   case rel => exact .inr ⟨k + 1,by omega,by simp,OW8.out,⟨_,_,rfl,rfl,by rw [G2.out];exact W9.out⟩,HB8.out⟩
   case measure => simp [intOf];omega
  ·obtain ⟨d,hd⟩ : ∃ d,d = 64 - aa - tt:=⟨_,rfl⟩
   obtain ⟨d1,hd1⟩ : ∃ d1,d1 = 63 - aa - tt:=⟨_,rfl⟩
   have eg : gx X (some (a',z')) = (newW X,some (ldz X,tz X)):=by unfold gx;rw [if_neg hX];simp only;rw [if_neg hf]
   have HGX : newW X = [true,true] ++ bitsOf aa 5 ++ bitsOf d1 6 ++ bitsOf (X / 2 ^ tt) d:=by rw [hd1,hd];unfold newW;rw [← haa,← htt];simp
   have W9 : Hid (W3 (some (aa,tt)) (aa : Int) (tt : Int)):=.inr ⟨aa,tt,rfl,rfl,rfl,n1,n3⟩
   rw [eg] at G1 G2
   simp only at G1 G2
   rw [HGX] at G1
   rw [← haa,← htt] at G2
   have y2 : wid (X / 2 ^ tt) ≤ d:=by rw [hd];exact (wid_le_iff _ _).2 (fits_lt hxl (by omega) n3)
   have y1 : X / 2 ^ tt ≤ X:=Nat.div_le_self _ _
   have e3 : (X : Int) / 2 ^ tt = ((X / 2 ^ tt : Nat) : Int):=by push_cast;rfl
   have hdi : (64 : Int) - (aa : Int) - (tt : Int) = (d : Int):=by omega
   have hdj : (63 : Int) - (aa : Int) - (tt : Int) = (d1 : Int):=by omega
   have d64 : d ≤ 64:=by omega
   have z64 : (tt : Int) < 64:=by omega
   by_cases ht : a' ≤ 64 - ww
   ·have t2 : decide ((a' : Int) ≤ 64 - (ww : Int)) = true:=decide_eq_true (by omega)
    have hzt : tt < z':=by
     rcases Nat.lt_or_ge tt z' with h | h
     ·exact h
     ·exact absurd ⟨by rw [← hww];exact ht,by rw [← htt];exact h⟩ hf
    have t3 : decide ((z' : Int) ≤ (tt : Int)) = false:=decide_eq_false (by omega)
    have t3n : decide (z' ≤ tt) = false:=decide_eq_false (by omega)
    clear hww htt haa hd hd1 eg HC3 hf
    go_wp2_with fail
    go_region
    generalize hyy : X / 2 ^ tt = y at *
    have P1:=hideIt (rput9 _ _ (aa : Int) aa 5 _ (bits_lit2 wr.drew true) (NoCap.some _ _ _) (by simp) rfl (by omega) (by omega) (wid_5 n1))
    clear hyy
    go_wp2_with fail
    refine (RWI wr.drew).out.mono ?_
    rintro e wq ⟨rfl,rfl⟩
    go_wp2_with fail
    refine (RTR wr.drew).out.mono ?_
    rintro e wq ⟨rfl,rfl⟩
    go_wp2_with fail
    refine (RLE wr.drew).out.mono ?_
    rintro e wq ⟨rfl,rfl⟩
    go_wp2_with fail
    refine (RTR wr.drew).out.mono ?_
    rintro e wq ⟨rfl,rfl⟩
    go_wp2_with fail
    refine P1.out.mono ?_
    rintro e w5 ⟨v5,rfl,own5,on5⟩
    have P2:=hideIt (rput9 v5 _ ((d1 : Nat) : Int) d1 6 w5 (bs_bits own5) (NoCap.of_own own5) (by simp [bitsOf_length]) rfl (by omega) (by omega) (wid_6 (by omega)))
    have ON5:=hideIt ((ON0.out.alloc (.cells #[.int .i64 1,.int .i64 1] 3)).same on5)
    obtain ⟨f5,c5,e5⟩:=(bs_bits own5).len
    subst e5
    clear own5 on5 P1
    go_wp2_with fail
    refine P2.out.mono ?_
    rintro e w6 ⟨v6,rfl,own6,on6⟩
    have P3:=hideIt (rput9 v6 _ (y : Int) y d w6 (bs_bits own6) (NoCap.of_own own6) (by simp [bitsOf_length]) rfl (by omega) d64 y2)
    have ON6:=hideIt (ON5.out.same on6)
    obtain ⟨f6,c6,e6⟩:=(bs_bits own6).len
    subst e6
    clear own6 on6 P2 ON5
    go_wp2_with fail
    refine P3.out.mono ?_
    rintro e w7 ⟨v7,rfl,own7,on7⟩
    have OWO:=hideIt own7
    have ONK:=hideIt (ON6.out.same on7)
    clear own7 on7 P3 ON6
    have HOL : Hid (([true,true] ++ bitsOf aa 5 ++ bitsOf d1 6 ++ bitsOf y d).length ≤ 100):=by simp only [Hid,List.length_append,List.length_cons,List.length_nil,bitsOf_length];omega
    obtain ⟨LO,hLO⟩ : ∃ LO,LO = [true,true] ++ bitsOf aa 5 ++ bitsOf d1 6 ++ bitsOf y d:=⟨_,rfl⟩
    rw [← hLO] at OWO HOL
    have HLO:=hideIt hLO
    clear hLO
    have hpos : 0 < LO.length:=by rw [HLO.out];simp
    obtain ⟨go,co,rfl,_,_⟩:=World.ownsRow.form OWO.out hpos
    obtain ⟨no,hno⟩ : ∃ no,no = LO.length:=⟨_,rfl⟩
    have BN:=hideIt ((bs_bits OWO.out).news)
    have OWK:=hideIt (ONK.out.own hown.out (fun _ _ f => f))
    have HSZ:=Nat.le_trans HBEL.out.size ONK.out.size
    have BLK:=hideIt (HBEL.out.trans (ONK.out.low HBEL.out.size))
    rw [← hno] at HOL hpos
    have hnl : no = LO.length:=hno
    rw [← hno]
    have HNO:=hideIt hno
    clear hno hnl OWO
    have hL6:=HLEN.out
    have hO6:=HOL.out
    go_wp2_with (at_builtin;go_loud (refine wpList_append_lies _ rfl _ _ _ rfl w.heap.size 3 i0 (.int .i64 0) 1 8 Tryz.underlying45 hi hz0 hz1 hz2 rfl (by omega) _ q ((bitsI L).map (Value.int .i64)) rfl OWK.out ⟨go,0,none⟩ no co ((bitsI LO).map (Value.int .i64)) rfl ?c0 BN.out ?c2 hpos ?c3 ?c4 HSZ _ rfl ?_))
    case c0 => rw [List.length_map,bitsI_length,← HNO.out];omega
    case c2 => exact oneCell_ints _ _
    case c3 => unfold maxLen;omega
    case c4 => omega
    intro g cap1 w8 hown1 hgrow hat hg1
    have HB8:=hideIt (BLK.out.grown hgrow HSZ (fun r hr => (OWK.out.lt r hr).1))
    have OW8 : Hid (w8.ownsRow w.heap.size 3 1 (.slice (some ⟨g,0,none⟩) (q + no) cap1) (bitsOf x0.toNat 64 ++ gE x0.toNat none (t.take (k + 1))).length ((bitsI (bitsOf x0.toNat 64 ++ gE x0.toNat none (t.take (k + 1)))).map (Value.int .i64))):=by
     have e : bitsOf x0.toNat 64 ++ gE x0.toNat none (t.take (k + 1)) = L ++ LO:=by rw [G1.out,← List.append_assoc,← HL.out,HLO.out]
     simp only [Hid]
     rw [e,List.length_append,← HQ.out,← HNO.out,bitsI,List.map_append,List.map_append]
     exact hown1
    clear hown1 hgrow hat hg1 OWK BN BLK HLO
    go_wp2
    go_roundw
    case rel => exact .inr ⟨k + 1,by omega,by simp,OW8.out,⟨_,_,rfl,rfl,by rw [G2.out];exact W9.out⟩,HB8.out⟩
    case measure => simp [intOf];omega
   ·have t2 : decide ((a' : Int) ≤ 64 - (ww : Int)) = false:=decide_eq_false (by omega)
    clear hww htt haa hd hd1 eg HC3 hf
    go_wp2_with fail
    go_region
    generalize hyy : X / 2 ^ tt = y at *
    have P1:=hideIt (rput9 _ _ (aa : Int) aa 5 _ (bits_lit2 wr.drew true) (NoCap.some _ _ _) (by simp) rfl (by omega) (by omega) (wid_5 n1))
    clear hyy
    go_wp2_with fail
    refine (RWI wr.drew).out.mono ?_
    rintro e wq ⟨rfl,rfl⟩
    go_wp2_with fail
    refine (RLE wr.drew).out.mono ?_
    rintro e wq ⟨rfl,rfl⟩
    go_wp2_with fail
    refine (RTR wr.drew).out.mono ?_
    rintro e wq ⟨rfl,rfl⟩
    go_wp2_with fail
    refine P1.out.mono ?_
    rintro e w5 ⟨v5,rfl,own5,on5⟩
    have P2:=hideIt (rput9 v5 _ ((d1 : Nat) : Int) d1 6 w5 (bs_bits own5) (NoCap.of_own own5) (by simp [bitsOf_length]) rfl (by omega) (by omega) (wid_6 (by omega)))
    have ON5:=hideIt ((ON0.out.alloc (.cells #[.int .i64 1,.int .i64 1] 3)).same on5)
    obtain ⟨f5,c5,e5⟩:=(bs_bits own5).len
    subst e5
    clear own5 on5 P1
    go_wp2_with fail
    refine P2.out.mono ?_
    rintro e w6 ⟨v6,rfl,own6,on6⟩
    have P3:=hideIt (rput9 v6 _ (y : Int) y d w6 (bs_bits own6) (NoCap.of_own own6) (by simp [bitsOf_length]) rfl (by omega) d64 y2)
    have ON6:=hideIt (ON5.out.same on6)
    obtain ⟨f6,c6,e6⟩:=(bs_bits own6).len
    subst e6
    clear own6 on6 P2 ON5
    go_wp2_with fail
    refine P3.out.mono ?_
    rintro e w7 ⟨v7,rfl,own7,on7⟩
    have OWO:=hideIt own7
    have ONK:=hideIt (ON6.out.same on7)
    clear own7 on7 P3 ON6
    have HOL : Hid (([true,true] ++ bitsOf aa 5 ++ bitsOf d1 6 ++ bitsOf y d).length ≤ 100):=by simp only [Hid,List.length_append,List.length_cons,List.length_nil,bitsOf_length];omega
    obtain ⟨LO,hLO⟩ : ∃ LO,LO = [true,true] ++ bitsOf aa 5 ++ bitsOf d1 6 ++ bitsOf y d:=⟨_,rfl⟩
    rw [← hLO] at OWO HOL
    have HLO:=hideIt hLO
    clear hLO
    have hpos : 0 < LO.length:=by rw [HLO.out];simp
    obtain ⟨go,co,rfl,_,_⟩:=World.ownsRow.form OWO.out hpos
    obtain ⟨no,hno⟩ : ∃ no,no = LO.length:=⟨_,rfl⟩
    have BN:=hideIt ((bs_bits OWO.out).news)
    have OWK:=hideIt (ONK.out.own hown.out (fun _ _ f => f))
    have HSZ:=Nat.le_trans HBEL.out.size ONK.out.size
    have BLK:=hideIt (HBEL.out.trans (ONK.out.low HBEL.out.size))
    rw [← hno] at HOL hpos
    have hnl : no = LO.length:=hno
    rw [← hno]
    have HNO:=hideIt hno
    clear hno hnl OWO
    have hL6:=HLEN.out
    have hO6:=HOL.out
    go_wp2_with (at_builtin;go_loud (refine wpList_append_lies _ rfl _ _ _ rfl w.heap.size 3 i0 (.int .i64 0) 1 8 Tryz.underlying45 hi hz0 hz1 hz2 rfl (by omega) _ q ((bitsI L).map (Value.int .i64)) rfl OWK.out ⟨go,0,none⟩ no co ((bitsI LO).map (Value.int .i64)) rfl ?c0 BN.out ?c2 hpos ?c3 ?c4 HSZ _ rfl ?_))
    case c0 => rw [List.length_map,bitsI_length,← HNO.out];omega
    case c2 => exact oneCell_ints _ _
    case c3 => unfold maxLen;omega
    case c4 => omega
    intro g cap1 w8 hown1 hgrow hat hg1
    have HB8:=hideIt (BLK.out.grown hgrow HSZ (fun r hr => (OWK.out.lt r hr).1))
    have OW8 : Hid (w8.ownsRow w.heap.size 3 1 (.slice (some ⟨g,0,none⟩) (q + no) cap1) (bitsOf x0.toNat 64 ++ gE x0.toNat none (t.take (k + 1))).length ((bitsI (bitsOf x0.toNat 64 ++ gE x0.toNat none (t.take (k + 1)))).map (Value.int .i64))):=by
     have e : bitsOf x0.toNat 64 ++ gE x0.toNat none (t.take (k + 1)) = L ++ LO:=by rw [G1.out,← List.append_assoc,← HL.out,HLO.out]
     simp only [Hid]
     rw [e,List.length_append,← HQ.out,← HNO.out,bitsI,List.map_append,List.map_append]
     exact hown1
    clear hown1 hgrow hat hg1 OWK BN BLK HLO
    go_wp2
    go_roundw
    case rel => exact .inr ⟨k + 1,by omega,by simp,OW8.out,⟨_,_,rfl,rfl,by rw [G2.out];exact W9.out⟩,HB8.out⟩
    case measure => simp [intOf];omega
theorem rencode9_all (v : Value) (xs : List Int) (w : World) (h : Bs .u64 w v xs) (hu : U64 xs) (hl : xs.length ≤ 10000 ∨ 65536 < xs.length) :
  Calls Tryz.prog 78 #[v] w fun e w' => ∃ v',e = .returned (.tuple #[v',.int .i64 (ENC9 xs).2]) ∧ w'.ownsRow w.heap.size 5 1 v' (ENC9 xs).1.length ((ENC9 xs).1.map (Value.int .u8)) ∧ Only (fun _ => False) w w':=by
 by_cases h6 : 65536 < xs.length
 ·have e : ENC9 xs = ([],4):=if_pos h6
  rw [e]
  refine (rencode9_long v xs w h h6).mono ?_
  rintro e w' ⟨rfl,rfl⟩
  exact ⟨_,rfl,World.ownsRow_nil _ _ _ _,Only.refl _ _⟩
 ·rw [ENC9_of (by omega)]
  cases xs with
  | nil => exact rencode9_nil v w h
  | cons x0 t => exact rencode9_cons v x0 t w h hu (by omega)
end Go.Proofs.YthapipgaohlgdaaGreatDoor


namespace Go.Proofs.YthapipgaohlgdaaGreatDoor
set_option maxRecDepth 100000
open Go.RowKit
theorem plc_first {d : List Int} {k : Nat} (hk : k < d.length) (hn : d.getD k 0 ∉ d.take k) : plc d (d.getD k 0) = k:=by
 have e1 : d.getD k 0 = d[k]:=by rw [List.getD_eq_getElem?_getD,List.getElem?_eq_getElem hk];rfl
 have e2 : d = d.take k ++ d[k] :: d.drop (k + 1):=by rw [← List.drop_eq_getElem_cons hk,List.take_append_drop]
 rw [e1] at hn ⊢
 unfold plc
 generalize d[k] = y at *
 rw [e2,List.idxOf_append,if_neg hn,List.idxOf_cons_self,List.length_take]
 omega
theorem not_take_succ {d : List Int} {k : Nat} {y : Int} (hk : k < d.length) (hn : y ∉ d.take k) (hy : d.getD k 0 ≠ y) : y ∉ d.take (k + 1):=by
 rw [take_snoc d k hk]
 intro h
 rcases List.mem_append.1 h with h | h
 ·exact hn h
 ·simp at h;exact hy h.symm
def plI (d : List Int) (y : Int) : Int:=if y ∈ d then (plc d y : Int) else -1
set_option maxHeartbeats 400000 in
theorem rplace_any (vd : Value) (d : List Int) (y : Int) (w : World) (h : Bs .u64 w vd d) (hl : d.length ≤ 65536) :
  Calls Tryz.prog 113 #[vd,.int .u64 y] w fun e w' => e = .returned (.int .i64 (plI d y)) ∧ w = w':=by
 obtain ⟨ao,cap,rfl⟩:=h.len
 have HB:=hideIt h
 obtain ⟨n,hn⟩ : ∃ n,n = d.length:=⟨_,rfl⟩
 rw [← hn] at HB hl
 rw [← hn]
 have HN:=hideIt hn
 obtain ⟨P,hP⟩ : ∃ P,P = plI d y:=⟨_,rfl⟩
 rw [← hP]
 have HP:=hideIt hP
 clear h hn hP
 go_enter Tryz.func113,Tryz.ntmps113
 go_wp2
 go_loopw [5] (fun i wr => ∃ k : Nat,k ≤ n ∧ i = .int .i64 k ∧ Hid (y ∉ d.take k) ∧ w = wr) (fun i _ => n - (intOf i).toNat)
 case atStart => exact ⟨0,Nat.zero_le _,rfl,by simp [Hid],rfl⟩
 case round =>
  obtain ⟨k,hk,rfl,HT,rfl⟩:=hrel
  by_cases hlt : k < n
  ·have dlt : decide ((k : Int) < (n : Int)) = true:=by simp;omega
   have hkd : k < d.length:=by rw [← HN.out];exact hlt
   obtain ⟨b,off,cap',e1,hc0⟩:=HB.out.at k hkd
   have ea : ao = some ⟨b,off,none⟩:=by simp at e1;exact e1.1
   subst ea
   have ik : (k : Int) < (n : Int):=by omega
   clear e1
   by_cases hy : d.getD k 0 = y
   ·have HP2 : Hid ((k : Int) = P):=by
     have h1:=plc_first (d:=d) (k:=k) hkd (by rw [hy];exact HT.out)
     rw [hy] at h1
     have h2 : y ∈ d:=by rw [← hy];exact getD_ofl hkd
     simp only [Hid];rw [HP.out];unfold plI;rw [if_pos h2,h1]
    have dq : (d.getD k 0 == y) = true:=by simpa using hy
    generalize d.getD k 0 = x at *
    clear hy hkd HB
    go_wp2
    go_ret
    exact ⟨ret_int HP2.out,rfl⟩
   ·have HT2:=hideIt (not_take_succ hkd HT.out hy)
    have dq : (d.getD k 0 == y) = false:=by simpa using hy
    generalize d.getD k 0 = x at *
    clear hy hkd HB
    go_wp2
    go_roundw
    case rel => exact ⟨k + 1,by omega,by go_num,HT2,by trivial⟩
    case measure => simp [intOf];omega
  ·obtain rfl : k = n:=by omega
   have dlt : decide ((k : Int) < (k : Int)) = false:=by simp
   have HP2 : Hid (-1 = P):=by
    have h2:=HT.out
    rw [HN.out,List.take_length] at h2
    simp only [Hid];rw [HP.out];unfold plI;rw [if_neg h2]
   go_wp2
   go_ret
   exact ⟨ret_int HP2.out,rfl⟩
theorem rwid10_any (k : Nat) (w : World) (h : k ≤ 65536) :
  Calls Tryz.prog 114 #[.int .i64 k] w fun e w' => e = .returned (.int .i64 (wP k)) ∧ w = w':=by
 by_cases h0 : k = 0
 ·subst h0
  go_enter Tryz.func114,Tryz.ntmps114
  go_wp2
  go_ret
  exact ⟨rfl,rfl⟩
 ·obtain ⟨j,rfl⟩ : ∃ j,k = j + 1:=⟨k - 1,by omega⟩
  have WA:=hideIt (rwidth_any ((j : Nat) : Int) w (by omega) (by omega))
  have e1 : wP (j + 1) = wid j:=by unfold wP;rw [if_neg (by omega)];rfl
  rw [e1]
  have d0 : (((j + 1 : Nat) : Int) == 0) = false:=by rw [beq_eq_false_iff_ne];omega
  have e2 : ((j + 1 : Nat) : Int) - 1 = (j : Int):=by omega
  obtain ⟨K,hK⟩ : ∃ K : Int,K = ((j + 1 : Nat) : Int):=⟨_,rfl⟩
  rw [← hK] at d0 e2 ⊢
  have k1 : K ≤ 65536:=by omega
  have k0 : 1 ≤ K:=by omega
  clear hK h0 e1 h
  go_enter Tryz.func114,Tryz.ntmps114
  go_wp2_with fail
  refine WA.out.mono ?_
  rintro e w' ⟨rfl,rfl⟩
  clear WA
  go_wp2
  go_ret
  exact ⟨rfl,rfl⟩
end Go.Proofs.YthapipgaohlgdaaGreatDoor


namespace Go.Proofs.YthapipgaohlgdaaGreatDoor
set_option maxRecDepth 100000
open Go.RowKit
theorem bs_bits10 {w : World} {lo : Nat} {v : Value} {l : List Bool} (h : w.ownsRow lo 3 1 v l.length ((bitsI l).map (Value.int .i64))) : Bs .i64 w v (bitsI l) :=
 Bs.of_own (E:=3) (by rw [bitsI_length];exact h)
set_option maxHeartbeats 400000 in
theorem rencode10_long (v : Value) (xs : List Int) (w : World) (h : Bs .u64 w v xs) (hl : 65536 < xs.length) :
  Calls Tryz.prog 77 #[v] w fun e w' => e = .returned (.tuple #[.slice none 0 0,.int .i64 4]) ∧ w = w':=by
 obtain ⟨ao,cap,rfl⟩:=h.len
 clear h
 have d0 : decide (65536 < (xs.length : Int)) = true:=by simp;omega
 generalize xs.length = m at *
 clear hl
 go_enter Tryz.func77,Tryz.ntmps77
 go_wp2
 go_ret2
 exact ⟨rfl,rfl⟩
set_option maxHeartbeats 4000000 in
theorem rencode10_bs (v : Value) (xs : List Int) (w : World) (h : Bs .u64 w v xs) (hu : U64 xs) (hl : xs.length ≤ 10000) (G : List Int) (hG : G = gs (dic xs).length ++ (fx8 (dic xs) ++ bytesI (tail10 (dic xs) xs))) :
  Calls Tryz.prog 77 #[v] w fun e w' => ∃ v',e = .returned (.tuple #[v',.int .i64 0]) ∧ w'.ownsRow w.heap.size 5 1 v' G.length (G.map (Value.int .u8)) ∧ Only (fun _ => False) w w':=by
 obtain ⟨j0,hj,hy0,hy1,hy2⟩:=info_parts Tryz.infoU64
 obtain ⟨i0,hi,hz0,hz1,hz2⟩:=info_parts Tryz.infoU8
 obtain ⟨ao,cap,rfl⟩:=h.len
 have HB:=hideIt h
 have HU:=hideIt hu
 have HG:=hideIt hG
 obtain ⟨m,hm⟩ : ∃ m,m = xs.length:=⟨_,rfl⟩
 rw [← hm] at HB hl
 rw [← hm]
 have HM:=hideIt hm
 have d0 : decide (65536 < (m : Int)) = false:=by simp;omega
 clear h hm hu hG
 go_enter Tryz.func77,Tryz.ntmps77
 go_wp2
 go_loopw [4,5] (fun s i wr => ∃ k : Nat,k ≤ m ∧ i = .int .i64 k ∧ wr.ownsRow w.heap.size 42 1 s (dic (xs.take k)).length ((dic (xs.take k)).map (Value.int .u64)) ∧ Only (fun _ => False) w wr) (fun _ i _ => m - (intOf i).toNat)
 case atStart => exact ⟨0,Nat.zero_le _,rfl,World.ownsRow_nil _ _ _ _,Only.refl _ _⟩
 case round =>
  obtain ⟨k,hk,rfl,hown,hon⟩:=hrel
  have HON:=hideIt hon
  by_cases hlt : k < m
  ·have dlt : decide ((k : Int) < (m : Int)) = true:=by simp;omega
   have hkd : k < xs.length:=by rw [← HM.out];exact hlt
   obtain ⟨b,off,cap',e1,hc0⟩:=(HB.out.past hon).at k hkd
   have ea : ao = some ⟨b,off,none⟩:=by simp at e1;exact e1.1
   subst ea
   have ik : (k : Int) < (m : Int):=by omega
   have HT:=hideIt (take_snoc xs k hkd)
   have DS:=hideIt (dic_snoc (xs.take k) (xs.getD k 0))
   rw [← HT.out] at DS
   have hdl:=dic_len (xs.take k)
   rw [List.length_take] at hdl
   generalize xs.getD k 0 = y at *
   obtain ⟨d,hd⟩ : ∃ d,d = dic (xs.take k):=⟨_,rfl⟩
   rw [← hd] at hown DS hdl
   have PL:=hideIt (rplace_any u4 d y wr (Bs.of_own hown) (by omega))
   obtain ⟨a6,c6,e6⟩:=(Bs.of_own (k:=.u64) hown).len
   subst e6
   obtain ⟨n,hn⟩ : ∃ n,n = d.length:=⟨_,rfl⟩
   rw [← hn] at hown hdl PL ⊢
   have HN:=hideIt hn
   have HOWN:=hideIt hown
   clear e1 hd hn hown hon hkd
   by_cases hin : y ∈ d
   ·have e1 : plI d y = (plc d y : Int):=if_pos hin
    rw [e1] at PL
    have DS2:=hideIt (DS.out.trans (if_pos hin))
    generalize plc d y = p at *
    have dp : decide ((p : Int) < 0) = false:=by simp
    clear DS hin e1
    go_wp2_with fail
    refine PL.out.mono ?_
    rintro e w1 ⟨rfl,rfl⟩
    clear PL
    go_wp2
    go_roundw
    case rel => exact ⟨k + 1,by omega,by go_num,by rw [DS2.out,← HN.out];exact HOWN.out,HON.out⟩
    case measure => simp [intOf];omega
   ·have e1 : plI d y = -1:=if_neg hin
    rw [e1] at PL
    have DS2:=hideIt (DS.out.trans (if_neg hin))
    clear DS hin e1
    go_wp2_with fail
    refine PL.out.mono ?_
    rintro e w1 ⟨rfl,rfl⟩
    clear PL
    have hsz:=HON.out.size
    go_wp2_with (at_builtin;refine wpList_append_own _ rfl _ _ 46 rfl w.heap.size 42 j0 (.int .u64 0) 1 8 Tryz.underlying46 hj hy0 hy1 hy2 rfl (by decide) _ n _ rfl (HOWN.out.alloc _) ⟨wr.heap.size,0,none⟩ 1 1 [.int .u64 y] rfl rfl (cell_one_new _ _ _) (ints_oneCell .u64 [y]) (by unfold maxLen;omega) (by omega) (by simp;omega) ?_;intro v' w2 hown' hgrow2 hnil2)
    have OW2 : Hid (w2.ownsRow w.heap.size 42 1 v' (dic (xs.take (k + 1))).length ((dic (xs.take (k + 1))).map (Value.int .u64))):=by
     simp only [Hid];rw [DS2.out,List.length_append,List.map_append,← HN.out];exact hown'
    have O2:=hideIt ((HON.out.alloc (.cells #[.int .u64 y] 42)).grown hgrow2 (fun j hj e => absurd (HOWN.out.lt j e).1 (by omega)))
    clear hown' hgrow2 hnil2
    go_wp2
    go_roundw
    case rel => exact ⟨k + 1,by omega,by go_num,OW2.out,O2.out⟩
    case measure => simp [intOf];omega
  ·obtain rfl : k = m:=by omega
   have dlt : decide ((k : Int) < (k : Int)) = false:=by simp
   rw [HM.out,List.take_length] at hown
   obtain ⟨w1,hw1⟩ : ∃ w1,w1 = wr:=⟨_,rfl⟩
   subst hw1
   have hdl:=dic_len xs
   have HME : Hid (∀ x ∈ xs,x ∈ dic xs):=fun x hx => (dic_mem xs x).2 hx
   rw [← HM.out] at hdl
   generalize dic xs = d at *
   obtain ⟨n,hn⟩ : ∃ n,n = d.length:=⟨_,rfl⟩
   obtain ⟨a6,c6,e6⟩:=(Bs.of_own (k:=.u64) hown).len
   subst e6
   rw [← hn] at hdl hown HG ⊢
   have HN:=hideIt hn
   have VD:=hideIt (Bs.of_own (k:=.u64) (xs:=d) (by rw [← HN.out];exact hown))
   have AP:=hideIt (rappend_any (.slice none 0 0) [] (n : Int) w1 (Bs.nil _ _) NoCap.nil (by simp) (by omega) (by omega))
   rw [List.nil_append,Int.toNat_natCast] at AP
   have GL : Hid ((gs n).length ≤ 10):=gs_le10 (by omega)
   clear hn hown hon
   go_wp2_with fail
   refine AP.out.mono ?_
   rintro e w2 ⟨vo,rfl,own2,o2⟩
   have L0 : Hid (w2.ownsRow w1.heap.size 5 1 vo (gs n ++ fx8 (d.take 0)).length ((gs n ++ fx8 (d.take 0)).map (Value.int .u8))):=by
    simp only [Hid,List.take_zero]
    rw [show fx8 [] = [] from rfl,List.append_nil];exact own2
   have O2:=hideIt o2
   clear own2 o2 AP
   go_wp2
   go_loopw [6,7] (fun s i wr => ∃ k : Nat,k ≤ n ∧ i = .int .i64 k ∧ wr.ownsRow w1.heap.size 5 1 s (gs n ++ fx8 (d.take k)).length ((gs n ++ fx8 (d.take k)).map (Value.int .u8)) ∧ Only (fun _ => False) w1 wr) (fun _ i _ => n - (intOf i).toNat)
   case atStart => exact ⟨0,Nat.zero_le _,rfl,L0.out,O2.out⟩
   case round =>
    clear L0 O2
    obtain ⟨q,hq,rfl,hown,hon⟩:=hrel
    obtain ⟨w3,hw3⟩ : ∃ w3,w3 = wr:=⟨_,rfl⟩
    subst hw3
    have HOWN:=hideIt hown
    have HON3:=hideIt hon
    by_cases hlt2 : q < n
    ·have dlt2 : decide ((q : Int) < (n : Int)) = true:=by simp;omega
     obtain ⟨b,off,cap',e1,hc0⟩:=(VD.out.past hon).at q (by rw [← HN.out];exact hlt2)
     have ea : a6 = some ⟨b,off,none⟩:=by simp at e1;exact e1.1
     subst ea
     have iq : (q : Int) < (n : Int):=by omega
     clear e1
     have HST:=hideIt (fx8_take d q (by rw [← HN.out];exact hlt2))
     have HFL : Hid ((gs n ++ fx8 (d.take q)).length ≤ 10 + 8 * n):=by
      simp only [Hid];have:=GL.out;rw [List.length_append,fx8_len,List.length_take];omega
     obtain ⟨f1,hf1⟩ : ∃ f1,f1 = gs n ++ fx8 (d.take (q + 1)):=⟨_,rfl⟩
     have HF1:=hideIt hf1
     obtain ⟨f0,hf0⟩ : ∃ f0,f0 = gs n ++ fx8 (d.take q):=⟨_,rfl⟩
     have HS2 : Hid (f1 = f0 ++ fixL (d.getD q 0) 8):=by
      simp only [Hid];rw [hf1,hf0,HST.out,List.append_assoc]
     rw [← hf0] at HFL HOWN
     clear hf1 hf0 HST hown hon
     generalize d.getD q 0 = x at *
     go_wp2_with fail
     refine (rfix_any x 8 w3 (by omega)).mono ?_
     rintro e w4 ⟨u,rfl,own4,o4⟩
     have ow:=o4.own HOWN.out (fun _ _ f => f)
     have hb4:=Bs.of_own own4
     have NC4:=hideIt (NoCap.of_own own4)
     have HB4:=hideIt hb4
     have hs4 : w1.heap.size ≤ w4.heap.size:=Nat.le_trans HON3.out.size o4.size
     have O4:=hideIt (HON3.out.same o4)
     obtain ⟨a4,c4,e4⟩:=hb4.len
     subst e4
     clear o4 own4 HON3 HOWN hb4
     rw [fixL_len] at HB4 NC4
     go_wp2_with (at_builtin;refine wpList_append_bs _ rfl _ _ _ rfl w1.heap.size 5 i0 (.int .u8 0) 1 Tryz.underlying26 hi hz0 hz1 hz2 rfl _ _ _ rfl ow .u8 _ (fixL x 8) rfl HB4.out NC4.out ?c3 ?c4 hs4 ?_)
     case c3 => have:=HFL.out;rw [fixL_len];unfold maxLen;omega
     case c4 => have:=HFL.out;rw [fixL_len];omega
     intro v6 w6 own6 hgrow6 _ _
     have OWN6 : Hid (w6.ownsRow w1.heap.size 5 1 v6 f1.length (f1.map (Value.int .u8))):=by
      simp only [Hid];rw [HS2.out,List.length_append,List.map_append];exact own6
     have O6:=hideIt (O4.out.grown hgrow6 (fun k hk e => absurd (ow.lt k e).1 (by omega)))
     clear ow own6 hgrow6
     go_wp2
     go_roundw
     case rel => exact ⟨q + 1,by omega,by go_num,by rw [← HF1.out];exact OWN6.out,O6.out⟩
     case measure => simp [intOf];omega
    ·obtain rfl : q = n:=by omega
     have dlt2 : decide ((q : Int) < (q : Int)) = false:=by simp
     rw [HN.out,List.take_length,← HN.out] at HOWN
     have HFL : Hid ((gs q ++ fx8 d).length ≤ 10 + 8 * q):=by
      simp only [Hid];have:=GL.out;rw [List.length_append,fx8_len,← HN.out];omega
     have HG2 : Hid (G = (gs q ++ fx8 d) ++ bytesI (bitsP (wP q) ((xs.take k).map (plc d)))):=by
      simp only [Hid];rw [HG.out,List.append_assoc,HM.out,List.take_length];unfold tail10;rw [← HN.out]
     have PW:=hideIt (rwid10_any q w3 (by omega))
     have WL : wP q ≤ 16:=wP_le (by omega)
     have WF : Hid (∀ x ∈ xs,plc d x < q ∧ wid (plc d x) ≤ wP q):=by
      intro x hx
      have h1:=plc_lt (HME.out x hx)
      rw [← HN.out] at h1
      exact ⟨h1,(wid_le_iff _ _).2 (wP_lt h1)⟩
     have HBL : Hid (∀ j,((xs.take j).map (plc d)).length ≤ k):=by
      intro j;rw [List.length_map,List.length_take,HM.out];omega
     clear hown hon HG GL
     generalize gs q ++ fx8 d = f0 at *
     go_wp2_with fail
     refine PW.out.mono ?_
     rintro e w4 ⟨rfl,rfl⟩
     clear PW
     generalize wP q = W at *
     go_wp2
     go_loopw [9,10] (fun s i wr => ∃ j : Nat,j ≤ k ∧ i = .int .i64 j ∧ wr.ownsRow w3.heap.size 3 1 s (bitsP W ((xs.take j).map (plc d))).length ((bitsI (bitsP W ((xs.take j).map (plc d)))).map (Value.int .i64)) ∧ Only (fun _ => False) w3 wr) (fun _ i _ => k - (intOf i).toNat)
     case atStart => exact ⟨0,Nat.zero_le _,rfl,World.ownsRow_nil _ _ _ _,Only.refl _ _⟩
     case round =>
      obtain ⟨j,hj,rfl,hown,hon⟩:=hrel
      have hbl : (bitsP W ((xs.take j).map (plc d))).length ≤ 10000 * 16:=by
       rw [bitsP_len];exact Nat.mul_le_mul (Nat.le_trans (HBL.out j) hl) WL
      have ONW:=hideIt (HON.out.same (HON3.out.same hon))
      have VK:=hideIt (bs_bits10 hown)
      have NK:=hideIt (NoCap.of_own hown)
      by_cases hlt3 : j < k
      ·have dlt3 : decide ((j : Int) < (k : Int)) = true:=by simp;omega
       have hjd : j < xs.length:=by rw [← HM.out];exact hlt3
       obtain ⟨b,off,cap',e1,hc0⟩:=(HB.out.past ONW.out).at j hjd
       have ea : ao = some ⟨b,off,none⟩:=by simp at e1;exact e1.1
       subst ea
       clear e1
       have ij : (j : Int) < (k : Int):=by omega
       have hym:=getD_ofl (l:=xs) (k:=j) hjd
       obtain ⟨p0,p1⟩:=WF.out _ hym
       have PL:=hideIt (rplace_any _ d (xs.getD j 0) wr (VD.out.past (HON3.out.same hon)) (by rw [← HN.out];omega))
       rw [show plI d (xs.getD j 0) = (plc d (xs.getD j 0) : Int) from if_pos (HME.out _ hym)] at PL
       have HST:=hideIt (bitsP_take W (plc d) xs j hjd)
       generalize xs.getD j 0 = y at *
       generalize plc d y = p at *
       have PU:=hideIt (rput_own _ (bitsP W ((xs.take j).map (plc d))) (p : Int) (W : Int) wr VK.out NK.out (by omega) (by omega) (by omega) (by omega) (by omega) (by simpa using p1))
       rw [Int.toNat_natCast,Int.toNat_natCast,← HST.out] at PU
       have HO:=hideIt hon
       clear hown hon HST hym hjd VK NK
       go_wp2_with fail
       refine PL.out.mono ?_
       rintro e w5 ⟨rfl,rfl⟩
       clear PL
       go_wp2_with fail
       refine PU.out.mono ?_
       rintro e w6 ⟨v6,rfl,own6,o6⟩
       have OW6:=hideIt (own_low own6 HO.out.size)
       have O6:=hideIt (HO.out.same o6)
       clear own6 o6 PU HO
       go_wp2
       go_roundw
       case rel => exact ⟨j + 1,by omega,by go_num,OW6.out,O6.out⟩
       case measure => simp [intOf];omega
      ·obtain rfl : j = k:=by omega
       have dlt3 : decide ((j : Int) < (j : Int)) = false:=by simp
       have BY:=hideIt (brbytes_bs _ (bitsP W ((xs.take j).map (plc d))) wr VK.out (by omega))
       have HO:=hideIt hon
       have HTL : Hid ((bytesI (bitsP W ((xs.take j).map (plc d)))).length ≤ 10000 * 16):=by
        simp only [Hid];rw [bytesI_length];unfold nb;omega
       generalize bytesI (bitsP W ((xs.take j).map (plc d))) = t0 at *
       clear hown hon hbl VK NK
       go_wp2_with fail
       refine BY.out.mono ?_
       rintro e w5 ⟨u,rfl,own5,o5⟩
       have ow:=(HO.out.same o5).own HOWN.out (fun _ _ f => f)
       have hb5:=Bs.of_own own5
       have NC5:=hideIt (NoCap.of_own own5)
       have HB5:=hideIt hb5
       have hs5 : w1.heap.size ≤ w5.heap.size:=Nat.le_trans HON3.out.size (Nat.le_trans HO.out.size o5.size)
       have O5:=hideIt (ONW.out.same o5)
       have S1:=hideIt HON.out.size
       obtain ⟨a5,c5,e5⟩:=hb5.len
       subst e5
       obtain ⟨tl,htl⟩ : ∃ tl,tl = t0.length:=⟨_,rfl⟩
       rw [← htl] at HB5 NC5 HTL ⊢
       have HT:=hideIt htl
       clear o5 own5 hb5 htl
       go_wp2_with (at_builtin;refine wpList_append_bs _ rfl _ _ _ rfl w1.heap.size 5 i0 (.int .u8 0) 1 Tryz.underlying26 hi hz0 hz1 hz2 rfl _ _ _ rfl ow .u8 _ t0 rfl HB5.out NC5.out ?c3 ?c4 hs5 ?_)
       case c3 => have:=HFL.out;have:=HTL.out;have:=HT.out;unfold maxLen;omega
       case c4 => have:=HFL.out;have:=HTL.out;have:=HT.out;omega
       intro v6 w6 own6 hgrow6 _ _
       have OWN6 : Hid (w6.ownsRow w.heap.size 5 1 v6 G.length (G.map (Value.int .u8))):=by
        simp only [Hid];rw [HG2.out,List.length_append,List.map_append];exact own_low own6 S1.out
       have O6:=hideIt (O5.out.grown hgrow6 (fun k hk e => absurd (ow.lt k e).1 (by have:=S1.out;omega)))
       clear ow own6 hgrow6
       go_wp2
       go_ret2
       exact ⟨v6,rfl,OWN6.out,O6.out⟩
theorem rencode10_all (v : Value) (xs : List Int) (w : World) (h : Bs .u64 w v xs) (hu : U64 xs) (hl : xs.length ≤ 10000 ∨ 65536 < xs.length) :
  Calls Tryz.prog 77 #[v] w fun e w' => ∃ v',e = .returned (.tuple #[v',.int .i64 (ENC10 xs).2]) ∧ w'.ownsRow w.heap.size 5 1 v' (ENC10 xs).1.length ((ENC10 xs).1.map (Value.int .u8)) ∧ Only (fun _ => False) w w':=by
 by_cases hg : 65536 < xs.length
 ·have e : ENC10 xs = ([],4):=if_pos hg
  rw [e]
  refine (rencode10_long v xs w h hg).mono ?_
  rintro e w' ⟨rfl,rfl⟩
  exact ⟨_,rfl,World.ownsRow_nil _ _ _ _,Only.refl _ _⟩
 ·rw [ENC10_of (by omega)]
  exact rencode10_bs v xs w h hu (by omega) _ rfl
theorem ENC10_len (xs : List Int) : (ENC10 xs).1.length ≤ 1000000:=by
 unfold ENC10
 by_cases h : 65536 < xs.length
 ·rw [if_pos h];simp
 ·rw [if_neg h]
  have h1:=gs_le10 (dic_lt (l:=xs) (by omega))
  have h2:=dic_len xs
  have h3:=wP_le (k:=(dic xs).length) (by omega)
  have h4 : (tail10 (dic xs) xs).length ≤ 65536 * 16:=by rw [tail10_len];exact Nat.mul_le_mul (by omega) h3
  simp only [List.length_append,fx8_len,bytesI_length];unfold nb;omega
end Go.Proofs.YthapipgaohlgdaaGreatDoor
