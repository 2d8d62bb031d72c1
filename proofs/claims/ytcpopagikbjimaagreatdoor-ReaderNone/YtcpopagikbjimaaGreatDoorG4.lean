import Derived.Test.YtcpopagikbjimaaGreatDoorG3
import Derived.Laws.CopyOwn
namespace Go.Proofs.YtcpopagikbjimaaGreatDoor
set_option maxHeartbeats 1600000
set_option maxRecDepth 100000
open Go.RowKit
def z8 : List Value:=wl (List.replicate 8 0)
theorem Tryz.zero30 : (Tryz.prog.info? 141).map (fun i => (i.zero,i.size)) = some (some (.agg z8.toArray),8):=by kernel_rfl
structure Tw (w : World) (N M R : Nat) (s W : List Nat) (wr : World) : Prop where
 st : Blk wr N 141 (wl s)
 ws : Blk wr M 211 (wl W)
 rs : Blk wr R 141 z8
 on : Only (fun _ => False) w wr
theorem Tw.past {w : World} {N M R : Nat} {s W : List Nat} {wr wr' : World} (h : Tw w N M R s W wr) (o : Only (fun _ => False) wr wr') : Tw w N M R s W wr' :=
 ⟨h.st.past o,h.ws.past o,h.rs.past o,h.on.same o⟩
theorem QfF (e : Nat) (he : e < 4294967296) : bits .xor .u32 4294967295 (e : Int) = ((4294967295 - e : Nat) : Int):=by
 have:=u32_xor_nat 4294967295 e (by decide) he;rw [show ((4294967295 : Nat) : Int) = 4294967295 from rfl] at this;rw [this]
 congr 1
 apply Nat.eq_of_testBit_eq
 intro i;rw [show 4294967295 - e = 2 ^ 32 - (e + 1) by omega,Nat.testBit_two_pow_sub_succ he,Nat.testBit_xor,show 4294967295 = 2 ^ 32 - 1 from rfl,Nat.testBit_two_pow_sub_one]
 by_cases hi : i < 32
 ·simp [hi]
 ·have : e.testBit i = false:=Nat.testBit_lt_two_pow (Nat.lt_of_lt_of_le he (show 2 ^ 32 ≤ 2 ^ i from Nat.pow_le_pow_right (by decide) (by omega)))
  simp [hi,this]
theorem Qe3 (s : List Nat) (p : List Int) (hs : s.length = 8) (hw : W32 s) (hp : p.length = 64) (h8 : U8 p) (w : World) :
  Calls Tryz.prog 144 #[.agg (wl s).toArray,.agg (bl p).toArray] w fun e w' => e = .returned (.agg (wl (thru s p)).toArray) ∧ Only (fun _ => False) w w':=by
 have hsz : (Tryz.prog.info? 142).map (·.size) = some (bl p).toArray.size:=by simp [Qah,hp,Tryz.size31]
 have HSZ:=Qaa hsz;have RW:=Qaa (QcT p hp h8);have HWL:=Qaa (Qcc p);have HW:=Qaa (Qkx p h8);have HS:=Qaa (And.intro hs hw);have hzv:=(zero_of_info (P:=Tryz.prog) Tryz.zero30).1;have hzk:=(zero_of_info (P:=Tryz.prog) Tryz.zero52).1;obtain ⟨B,hB⟩ : ∃ B,B = bl p:=⟨_,rfl⟩;obtain ⟨Z,hZ⟩ : ∃ Z,Z = zK:=⟨_,rfl⟩;obtain ⟨Y,hY⟩ : ∃ Y,Y = z8:=⟨_,rfl⟩;obtain ⟨D,hD⟩ : ∃ D,D = wl (wds p):=⟨_,rfl⟩;obtain ⟨S,hS⟩ : ∃ S,S = wl s:=⟨_,rfl⟩;obtain ⟨T,hT⟩ : ∃ T,T = wl (thru s p):=⟨_,rfl⟩
 have hz1 : (Tryz.prog.info? 211).map (·.size) = some (wl (wds p)).toArray.size:=by simp [QaA,Qcc,Tryz.size52]
 have hz2 : zK.toArray.size = (wl (wds p)).toArray.size:=by simp [QaA,Qcc,zK]
 have HA:=Qaa (Qcr (wds p));have HZ1:=Qaa hz1;have HZ2:=Qaa hz2;rw [← hZ] at hzk HZ2;rw [← hY] at hzv;rw [← hB] at HSZ RW ⊢;rw [← hD] at HZ1 HZ2 HA RW;rw [← hS,← hT];have HD:=Qaa hD;have HY:=Qaa hY;have HSS:=Qaa hS;have HTT:=Qaa hT;clear hsz hz1 hz2 hB hZ hY hD hS hT hs hw hp h8;go_enter Tryz.func144,Tryz.ntmps144;go_wp2_with (first | (refine wpList_load_row rfl 142 (.tmp 3) rfl (w.heap.size + 1) rfl 142 B.toArray (0,0) _ (Blk.alloc (by have:=Blk.new (w.alloc (.cells S.toArray 141)) 142 B;rw [size_alloc] at this;exact this) _) Tryz.underlying142 rfl HSZ.out ?_) | fail);refine (RW.out _).mono ?_;rintro e w1 ⟨rfl,on1⟩;have q1 : Blk w1 w.heap.size 141 S:=(((Blk.new w 141 S).alloc (.cells B.toArray 142)).alloc (.cells Y.toArray 141)).past on1
 have q2 : Blk w1 (w.heap.size + 1 + 1) 141 Y:=by
  have:=Blk.new ((w.alloc (.cells S.toArray 141)).alloc (.cells B.toArray 142)) 141 Y;rw [size_alloc,size_alloc] at this;exact this.past on1
 have q3 : Only (fun _ => False) w w1:=((((Only.refl _ _).alloc _).alloc _).alloc _).same on1;have q4 : w.heap.size + 1 + 1 < w1.heap.size:=q2.lt;have q5 : Only (fun _ => False) w1 ((w1.alloc (.cells Z.toArray 211)).setRow w1.heap.size D.toArray):=((Only.refl _ _).alloc _).setRow (fun h => absurd h (Nat.lt_irrefl _)) _
 have TW : Hid (Tw w w.heap.size w1.heap.size (w.heap.size + 1 + 1) s (wds p) ((w1.alloc (.cells Z.toArray 211)).setRow w1.heap.size D.toArray)):=by
  refine ⟨?_,?_,?_,q3.same q5⟩
  ·rw [← HSS.out];exact q1.past q5
  ·rw [← HD.out];exact (Blk.new w1 211 Z).row D
  ·rw [← HY.out];exact q2.past q5
 have HLT : Hid (w.heap.size ≠ w1.heap.size ∧ w.heap.size ≠ w.heap.size + 1 + 1 ∧ w.heap.size + 1 + 1 ≠ w1.heap.size ∧ w.heap.size ≤ w.heap.size + 1 + 1):=⟨by omega,by omega,by omega,by omega⟩;clear on1 q1 q2 q3 q4 q5 RW hzv HSZ;go_wp2_with (refine wpList_store_row rfl 211 (.tmp 5) (.tmp 21) rfl w1.heap.size D.toArray rfl rfl 211 Z.toArray (Blk.new w1 211 Z) HZ1.out HZ2.out HA.out ?_);obtain ⟨M,hM⟩ : ∃ M,M = w1.heap.size:=⟨_,rfl⟩;obtain ⟨R,hR⟩ : ∃ R,R = w.heap.size + 1 + 1:=⟨_,rfl⟩;obtain ⟨N,hN⟩ : ∃ N,N = w.heap.size:=⟨_,rfl⟩;obtain ⟨W2,hW2⟩ : ∃ W2,W2 = ((w1.alloc (.cells Z.toArray 211)).setRow w1.heap.size D.toArray):=⟨_,rfl⟩;rw [← hW2,← hM,← hR] at TW;rw [← hM,← hR] at HLT;rw [← hN] at TW HLT;rw [← hW2,← hM,← hR,← hN];have HN:=Qaa hN;clear hM hR hN hW2 hzk HA HZ1 HZ2;obtain ⟨x0,hx0⟩ : ∃ x,x = s.getD 0 0:=⟨_,rfl⟩
 have c0 : W2.cell? ⟨N,0,none⟩ = some (.int .u32 (x0 : Int)):=by
  rw [TW.out.st.cell,wl_at _ _ (by rw [HS.out.1];decide),← hx0]
 have HX0:=Qaa hx0;clear hx0;obtain ⟨x1,hx1⟩ : ∃ x,x = s.getD 1 0:=⟨_,rfl⟩
 have c1 : W2.cell? ⟨N,1,none⟩ = some (.int .u32 (x1 : Int)):=by
  rw [TW.out.st.cell,wl_at _ _ (by rw [HS.out.1];decide),← hx1]
 have HX1:=Qaa hx1;clear hx1;obtain ⟨x2,hx2⟩ : ∃ x,x = s.getD 2 0:=⟨_,rfl⟩
 have c2 : W2.cell? ⟨N,2,none⟩ = some (.int .u32 (x2 : Int)):=by
  rw [TW.out.st.cell,wl_at _ _ (by rw [HS.out.1];decide),← hx2]
 have HX2:=Qaa hx2;clear hx2;obtain ⟨x3,hx3⟩ : ∃ x,x = s.getD 3 0:=⟨_,rfl⟩
 have c3 : W2.cell? ⟨N,3,none⟩ = some (.int .u32 (x3 : Int)):=by
  rw [TW.out.st.cell,wl_at _ _ (by rw [HS.out.1];decide),← hx3]
 have HX3:=Qaa hx3;clear hx3;obtain ⟨x4,hx4⟩ : ∃ x,x = s.getD 4 0:=⟨_,rfl⟩
 have c4 : W2.cell? ⟨N,4,none⟩ = some (.int .u32 (x4 : Int)):=by
  rw [TW.out.st.cell,wl_at _ _ (by rw [HS.out.1];decide),← hx4]
 have HX4:=Qaa hx4;clear hx4;obtain ⟨x5,hx5⟩ : ∃ x,x = s.getD 5 0:=⟨_,rfl⟩
 have c5 : W2.cell? ⟨N,5,none⟩ = some (.int .u32 (x5 : Int)):=by
  rw [TW.out.st.cell,wl_at _ _ (by rw [HS.out.1];decide),← hx5]
 have HX5:=Qaa hx5;clear hx5;obtain ⟨x6,hx6⟩ : ∃ x,x = s.getD 6 0:=⟨_,rfl⟩
 have c6 : W2.cell? ⟨N,6,none⟩ = some (.int .u32 (x6 : Int)):=by
  rw [TW.out.st.cell,wl_at _ _ (by rw [HS.out.1];decide),← hx6]
 have HX6:=Qaa hx6;clear hx6;obtain ⟨x7,hx7⟩ : ∃ x,x = s.getD 7 0:=⟨_,rfl⟩
 have c7 : W2.cell? ⟨N,7,none⟩ = some (.int .u32 (x7 : Int)):=by
  rw [TW.out.st.cell,wl_at _ _ (by rw [HS.out.1];decide),← hx7]
 have HX7:=Qaa hx7;clear hx7;go_quiet (fail);go_wp2;go_quiet (fail);go_wp2_with fail;refine (Qda _).mono ?_;rintro e w3 ⟨rfl,on3⟩;have TW3:=Qaa (TW.out.past (((Only.refl (fun _ => False) W2).drewN _).same on3));clear on3 TW c0 c1 c2 c3 c4 c5 c6 c7;have IXK:=Qaa (QkF shK rfl);obtain ⟨KK,hKK⟩ : ∃ KK,KK = wl shK:=⟨_,rfl⟩;rw [← hKK] at IXK ⊢;clear hKK;go_wp2
 have HXX : Hid ([x0,x1,x2,x3,x4,x5,x6,x7] = s):=by
  show _ = _
  rw [HX0.out,HX1.out,HX2.out,HX3.out,HX4.out,HX5.out,HX6.out,HX7.out];exact (getD8 s HS.out.1).symm
 clear HX0 HX1 HX2 HX3 HX4 HX5 HX6 HX7
 go_loopw [39,6,7,8,9,10,11,12,13] (fun i a b c d e f g h wr => ∃ (t y0 y1 y2 y3 y4 y5 y6 y7 : Nat),t ≤ 64 ∧ [y0,y1,y2,y3,y4,y5,y6,y7] = rnds s (wds p) t ∧ i = .int .i64 t ∧ a = .int .u32 y0 ∧ b = .int .u32 y1 ∧ c = .int .u32 y2 ∧ d = .int .u32 y3 ∧ e = .int .u32 y4 ∧ f = .int .u32 y5 ∧ g = .int .u32 y6 ∧ h = .int .u32 y7 ∧ Tw w N M R s (wds p) wr) (fun i _ _ _ _ _ _ _ _ _ => 64 - (intOf i).toNat)
 case atStart =>
  exact ⟨0,x0,x1,x2,x3,x4,x5,x6,x7,by omega,HXX.out,rfl,rfl,rfl,rfl,rfl,rfl,rfl,rfl,rfl,TW3.out⟩
 case round =>
  obtain ⟨t,y0,y1,y2,y3,y4,y5,y6,y7,ht,hr,rfl,rfl,rfl,rfl,rfl,rfl,rfl,rfl,rfl,twr⟩:=hrel;have HR:=Qaa hr;clear hr TW3 HXX
  by_cases hlt : t < 64
  ·have hw32 : W32 [y0,y1,y2,y3,y4,y5,y6,y7]:=by rw [HR.out];exact QfC _ _ HS.out.2 _
   have b0:=hw32.at 0;have b1:=hw32.at 1;have b2:=hw32.at 2;have b4:=hw32.at 4;have b5:=hw32.at 5;have b6:=hw32.at 6
   change y0 < _ at b0
   change y1 < _ at b1
   change y2 < _ at b2
   change y4 < _ at b4
   change y5 < _ at b5
   change y6 < _ at b6
   obtain ⟨k,hk⟩ : ∃ k,k = shK.getD t 0:=⟨_,rfl⟩;obtain ⟨x,hx⟩ : ∃ x,x = (wds p).getD t 0:=⟨_,rfl⟩;have hix:=IXK.out t hlt
   have hcx : wr.cell? ⟨M,t,none⟩ = some (.int .u32 (x : Int)):=by
    rw [twr.ws.cell,wl_at _ _ (by rw [HWL.out];exact hlt),← hx]
   rw [← hk] at hix
   have i0 : (0 : Int) ≤ (t : Int):=by omega
   have i1 : (t : Int) < 64:=by omega
   have hnx : rnds s (wds p) (t + 1) = rnd [y0,y1,y2,y3,y4,y5,y6,y7] k x:=by rw [QcQ,← HR.out,← hk,← hx]
   rw [rnd_t] at hnx;have TWR:=Qaa twr;obtain ⟨ny,hny⟩ : ∃ ny,ny = 4294967295 - y4:=⟨_,rfl⟩;have hs1 : IntKind.u32.signed = false:=rfl;have hs2 : IntKind.u32.max = 4294967295:=rfl
   have hs3 : bits .xor .u32 4294967295 (y4 : Int) = (ny : Int):=by rw [QfF y4 b4,hny]
   obtain ⟨ch,hch⟩ : ∃ ch,ch = chw y4 y5 y6:=⟨_,rfl⟩;obtain ⟨mj,hmj⟩ : ∃ mj,mj = majw y0 y1 y2:=⟨_,rfl⟩;obtain ⟨g1,hg1⟩ : ∃ g1,g1 = Sg1 y4:=⟨_,rfl⟩;obtain ⟨g0,hg0⟩ : ∃ g0,g0 = Sg0 y0:=⟨_,rfl⟩;obtain ⟨T1,hT1⟩ : ∃ T1,T1 = (y7 + g1 + ch + k + x) % 4294967296:=⟨_,rfl⟩;obtain ⟨T2,hT2⟩ : ∃ T2,T2 = (g0 + mj) % 4294967296:=⟨_,rfl⟩;obtain ⟨n0,hn0⟩ : ∃ n0,n0 = (T1 + T2) % 4294967296:=⟨_,rfl⟩;obtain ⟨n4,hn4⟩ : ∃ n4,n4 = (y3 + T1) % 4294967296:=⟨_,rfl⟩
   have NX : Hid (rnds s (wds p) (t + 1) = [n0,y0,y1,y2,n4,y4,y5,y6]):=by
    show _ = _
    rw [hnx];simp only [t1w,t2w,List.getD_cons_zero,List.getD_cons_succ];rw [← hch,← hmj,← hg1,← hg0,← hT1,← hT2,← hn0,← hn4]
   have S1:=Qaa (Qki y4 · b4);have S0:=Qaa (Qkh y0 · b0);rw [← hg1] at S1;rw [← hg0] at S0
   have p1 : bits .xor .u32 (bits .and .u32 (y4 : Int) (y5 : Int)) (bits .and .u32 (ny : Int) (y6 : Int)) = (ch : Int):=by rw [hny,hch,QjA y4 y5 y6 b4 b5 b6]
   have p2 : bits .xor .u32 (bits .xor .u32 (bits .and .u32 (y0 : Int) (y1 : Int)) (bits .and .u32 (y0 : Int) (y2 : Int))) (bits .and .u32 (y1 : Int) (y2 : Int)) = (mj : Int):=by rw [hmj,QhA y0 y1 y2 b0 b1 b2]
   have p3 : IntKind.u32.wrap (IntKind.u32.wrap (IntKind.u32.wrap (IntKind.u32.wrap ((y7 : Int) + g1) + ch) + k) + x) = (T1 : Int):=by rw [sum5,hT1]
   have p4 : IntKind.u32.wrap ((g0 : Int) + mj) = (T2 : Int):=by rw [sum2,hT2]
   have p5 : IntKind.u32.wrap ((T1 : Int) + T2) = (n0 : Int):=by rw [sum2,hn0]
   have p6 : IntKind.u32.wrap ((y3 : Int) + T1) = (n4 : Int):=by rw [sum2,hn4]
   have p7 : ((g0 : Int) + mj) % 4294967296 = (T2 : Int):=by rw [hT2];omega
   have p8 : ((T1 : Int) + T2) % 4294967296 = (n0 : Int):=by rw [hn0];omega
   have p9 : ((y3 : Int) + T1) % 4294967296 = (n4 : Int):=by rw [hn4];omega
   have TWR:=Qaa twr;clear hny hch hmj hg1 hg0 hT1 hT2 hn0 hn4 hk hx hw32 hnx b0 b1 b2 b4 b5 b6 twr;go_wp2;go_region_held3 (fun W => W.cell? ⟨M,t,none⟩ = some (Value.int .u32 x)) (go_keep) (first | (go_at_call 195;refine (S1.out _).mono ?_;rintro e w2 ⟨rfl,rfl⟩));go_wp2_with fail;refine (S0.out _).mono ?_;rintro e w2 ⟨rfl,rfl⟩;go_wp2
   go_roundw
   case rel => exact ⟨t + 1,n0,y0,y1,y2,n4,y4,y5,y6,by omega,NX.out.symm,by go_num,rfl,rfl,rfl,rfl,rfl,rfl,rfl,rfl,TWR.out.past (Only.refl _ _).drew⟩
   case measure => simp [intOf];omega
  ·obtain rfl : t = 64:=by omega
   have HB : Hid (Tryz.prog.built 141 [(0,.int .u32 (y0 : Int)),(1,.int .u32 (y1 : Int)),(2,.int .u32 (y2 : Int)),(3,.int .u32 (y3 : Int)),(4,.int .u32 (y4 : Int)),(5,.int .u32 (y5 : Int)),(6,.int .u32 (y6 : Int)),(7,.int .u32 (y7 : Int))] = some (wl [y0,y1,y2,y3,y4,y5,y6,y7]).toArray):=by
    show _ = _
    kernel_rfl
   have IX8:=Qaa (ix_w8 [y0,y1,y2,y3,y4,y5,y6,y7] rfl);obtain ⟨r,hr⟩ : ∃ r,r = [y0,y1,y2,y3,y4,y5,y6,y7]:=⟨_,rfl⟩;rw [← hr] at HB IX8 HR;obtain ⟨C,hC⟩ : ∃ C,C = (wl r).toArray:=⟨_,rfl⟩;rw [← hC] at HB IX8
   have TW0 : Hid (Tw w N M R (addp s r 0) (wds p) wr):=by
    show _
    rw [QhB s r HS.out.1];exact twr
   obtain ⟨W4,hW4⟩ : ∃ W4,W4 = wr:=⟨_,rfl⟩;subst hW4;clear hr hC twr IXK;go_wp2_with (refine Qa0 rfl 141 _ rfl C (Eq.trans (congrArg (Tryz.prog.built 141) (by kernel_rfl)) HB.out) ?_)
   go_loopw [98] (fun i wr => ∃ j : Nat,j ≤ 8 ∧ i = .int .i64 j ∧ Tw w N M R (addp s r j) (wds p) wr) (fun i _ => 8 - (intOf i).toNat)
   case atStart => exact ⟨0,by omega,rfl,TW0.out⟩
   case round =>
    obtain ⟨j,hj,rfl,twr⟩:=hrel;clear TW0
    by_cases hlt : j < 8
    ·obtain ⟨a,ha⟩ : ∃ a,a = s.getD j 0:=⟨_,rfl⟩
     obtain ⟨b,hb⟩ : ∃ b,b = r.getD j 0:=⟨_,rfl⟩;have hix:=IX8.out j hlt;rw [← hb] at hix
     have hc : wr.cell? ⟨N,j,none⟩ = some (.int .u32 (a : Int)):=by
      rw [twr.st.cell,wl_at _ _ (by rw [QiZ];exact hlt),Qku _ _ _ hlt,← ha]
     have hf : wr.frozen? ⟨N,j,none⟩ = false:=twr.st.froz _;obtain ⟨q,hq⟩ : ∃ q,q = (a + b) % 4294967296:=⟨_,rfl⟩
     have p1 : IntKind.u32.wrap ((a : Int) + b) = (q : Int):=by rw [sum2,hq]
     have p2 : ((a : Int) + b) % 4294967296 = (q : Int):=by rw [hq];omega
     have hON:=(Only.refl (fun k => k = N) wr).setCell (p:=⟨N,j,none⟩) (fun _ => rfl) (.int .u32 (q : Int))
     have TN : Hid (Tw w N M R (addp s r (j + 1)) (wds p) (wr.setCell ⟨N,j,none⟩ (.int .u32 (q : Int)))):=by
      refine ⟨?_,twr.ws.keep hON (fun e => HLT.out.1 e.symm),twr.rs.keep hON (fun e => HLT.out.2.1 e.symm),twr.on.trans hON (fun i hi e => by have:=HN.out;omega)⟩;have:=twr.st.set j (.int .u32 (q : Int));rw [Qgl] at this;rw [QhC _ _ _ hlt,← ha,← hb,← hq];exact this
     have i0 : (0 : Int) ≤ (j : Int):=by omega
     have i1 : (j : Int) < 8:=by omega
     clear ha hb hq twr hON;go_wp2
     go_roundw
     case rel => exact ⟨j + 1,by omega,by go_num,TN.out⟩
     case measure => simp [intOf];omega
    ·obtain rfl : j = 8:=by omega
     have S2 : Hid (Blk wr N 141 T):=by
      show _
      have:=twr.st;rw [HR.out,Qi0,← HTT.out] at this;exact this
     have R2:=Qaa twr.rs;have O2:=Qaa twr.on
     have HZ1 : Hid ((Tryz.prog.info? 141).map (·.size) = some T.toArray.size):=by
      show _ = _
      rw [HTT.out,Tryz.size30];simp [QaA,Qb4]
     have HZ2 : Hid (z8.toArray.size = T.toArray.size):=by
      show _ = _
      rw [HTT.out];simp [QaA,Qb4,z8]
     have HA : Hid (T.toArray.all (·.oneCell') = true):=by
      show _ = _
      rw [HTT.out];exact Qcr _
     clear twr;go_wp2_with (first | (refine wpList_load_row rfl 141 (.tmp 2) rfl N rfl 141 T.toArray (0,0) _ S2.out Tryz.underlying141 rfl HZ1.out ?_) | (refine wpList_store_row rfl 141 (.tmp 4) (.tmp 109) rfl R T.toArray rfl rfl 141 z8.toArray R2.out HZ1.out HZ2.out HA.out ?_));refine bodyPost_ret (v:=.agg T.toArray) (results_cell_row rfl _ _ R 141 T.toArray (0,0) _ rfl (R2.out.row T) Tryz.underlying141 rfl HZ1.out) rfl ⟨rfl,?_⟩;exact O2.out.setRow (fun h => absurd h (by have:=HLT.out.2.2.2;have:=HN.out;omega)) _
theorem Qch (s : List Nat) (a b : List Int) : ∀ k,64 * k ≤ a.length → thrus s (a ++ b) k = thrus s a k:=by
 intro k
 induction k with
 | zero => intro _;rw [Qc8,Qc8]
 | succ k ih =>
  intro h;rw [QaZ,QaZ,ih (by omega),List.drop_append_of_le_length (by omega),List.take_append_of_le_length (by rw [List.length_drop];omega)]
structure HP (st : List Nat) (pc all : List Int) : Prop where
 sl : st.length = 8
 pl : pc.length = 64
 u8 : U8 pc
 w32 : W32 st
 st : st = thrus shH all (all.length / 64)
 pc : pc.take (all.length % 64) = all.drop (64 * (all.length / 64))
theorem QdR {pc ys : List Int} (h : U8 pc) (k : U8 ys) (r : Nat) : U8 (splice pc r ys):=(h.take r).app (k.app (h.drop _))
theorem HP.start (pc : List Int) (h : pc.length = 64) (h8 : U8 pc) : HP shH pc []:=⟨rfl,h,h8,Qhy,rfl,rfl⟩
theorem HP.part {st : List Nat} {pc all : List Int} (h : HP st pc all) (ys : List Int) (h8 : U8 ys) (hr : all.length % 64 + ys.length < 64) : HP st (splice pc (all.length % 64) ys) (all ++ ys):=by
 have hl : (all ++ ys).length = all.length + ys.length:=List.length_append ..
 have hq : (all ++ ys).length / 64 = all.length / 64:=by omega
 have hm : (all ++ ys).length % 64 = all.length % 64 + ys.length:=by omega
 refine ⟨h.sl,?_,QdR h.u8 h8 _,h.w32,?_,?_⟩
 ·rw [length_splice _ _ _ (by rw [h.pl];omega),h.pl]
 ·rw [hq,Qch _ _ _ _ (by omega)];exact h.st
 ·rw [hq,hm,List.drop_append_of_le_length (by omega),← h.pc]
  unfold splice;rw [← List.append_assoc,List.take_append_of_le_length (by rw [List.length_append,List.length_take,h.pl];omega)];exact List.take_of_length_le (by rw [List.length_append,List.length_take,h.pl];omega)
theorem HP.whole {st : List Nat} {pc all : List Int} (h : HP st pc all) (ys : List Int) (h8 : U8 ys) (hr : all.length % 64 + ys.length = 64) : HP (thru st (splice pc (all.length % 64) ys)) (splice pc (all.length % 64) ys) (all ++ ys):=by
 have hl : (all ++ ys).length = all.length + ys.length:=List.length_append ..
 have hq : (all ++ ys).length / 64 = all.length / 64 + 1:=by omega
 have hm : (all ++ ys).length % 64 = 0:=by omega
 have hpl : (splice pc (all.length % 64) ys).length = 64:=by rw [length_splice _ _ _ (by rw [h.pl];omega),h.pl]
 have e : splice pc (all.length % 64) ys = (all ++ ys).drop (64 * (all.length / 64)):=by
  unfold splice;rw [h.pc,List.drop_append_of_le_length (by omega),List.drop_of_length_le (l:=pc) (by rw [h.pl];omega),List.append_nil]
 refine ⟨Qb4 _ _,hpl,QdR h.u8 h8 _,QfD _ _,?_,?_⟩
 ·rw [hq,QaZ,Qch _ _ _ _ (by omega),← e,List.take_of_length_le (by rw [hpl];omega),← h.st]
 ·rw [hq,hm,List.drop_of_length_le (by omega)];rfl
def endS (n : Nat) : List Int:=128 :: (List.replicate (zpad n) 0 ++ be8 (8 * n))
theorem Qfd (n : Nat) : (endS n).length = 9 + zpad n:=by simp [endS,QcP];omega
theorem Qh0 (b : List Int) : padS b = b ++ endS b.length:=rfl
theorem QjH (n : Nat) : (64 - ((n : Int) + 1 + 8) % 64) % 64 = (zpad n : Int):=by unfold zpad;omega
theorem Qdd (n : Nat) : zpad n < 64:=Nat.mod_lt _ (by decide)
theorem Qfe (v j : Nat) (h : j < 8) : (be8 v).take (j + 1) = (be8 v).take j ++ [((v / 256 ^ (7 - j) % 256 : Nat) : Int)]:=by
 have hl:=QcP v;rw [List.take_add_one,List.getElem?_eq_getElem (by omega)];simp [be8]
theorem Qgt (v : Nat) : ∀ y ∈ be8 v,0 ≤ y ∧ y ≤ 255:=by
 intro y hy;simp only [be8,List.mem_map] at hy;obtain ⟨i,_,rfl⟩:=hy;have : v / 256 ^ (7 - i) % 256 < 256:=Nat.mod_lt _ (by decide);omega
theorem Qc0 (n : Nat) : ∀ y ∈ endS n,0 ≤ y ∧ y ≤ 255:=by
 intro y hy;simp only [endS,List.mem_cons,List.mem_append,List.mem_replicate] at hy
 rcases hy with rfl | ⟨_,rfl⟩ | h
 ·omega
 ·omega
 ·exact Qgt _ y h
theorem byte8 (n k : Nat) : (n : Int) * 8 / 2 ^ (k * 8) % 256 = ((8 * n / 256 ^ k % 256 : Nat) : Int):=by
 have e : (256 : Nat) ^ k = 2 ^ (k * 8):=by rw [Nat.mul_comm,Nat.pow_mul]
 rw [e,Nat.mul_comm 8 n];simp
theorem Qh1 (z : Nat) : ((bl (List.replicate (9 + z) 0)).set 0 (.int .u8 128)).take (1 + z) = (128 :: (List.replicate z 0 ++ (be8 0).take 0)).map (Value.int .u8):=by
 rw [show 9 + z = (z + 8) + 1 by omega,List.replicate_succ,show 1 + z = z + 1 by omega];unfold bl;rw [List.map_cons,List.set_cons_zero,List.take_succ_cons,← List.map_take,List.take_replicate,show min z (z + 8) = z by omega];simp
theorem Qcx {w : World} {base g : Nat} {E : TypeId} {cs : List Value} {n cap : Nat} (h : Blk w g E cs) (hb : base ≤ g) (hn : n ≤ cap) (hm : cap ≤ maxLen) (hc : cs.length = cap) :
  w.ownsRow base E 1 (.slice (some ⟨g,0,none⟩) n cap) n (cs.take n) :=
 ⟨by simp;omega,.inr ⟨g,cap,cs.toArray,rfl,hb,h,hn,hm,by simpa using hc,by simp⟩⟩
theorem QjI (w : World) (l c : Nat) (hl : l ≤ c) (hc : c ≤ 1000) :
  ∃ w1,(Instr.makeSlice 22 (.int .i64 (l : Int)) (.int .i64 (c : Int))).run Tryz.prog w = .ok (.slice (some ⟨w.heap.size,0,none⟩) l c) w1 ∧ Blk w1 w.heap.size 5 (bl (List.replicate c 0)) ∧ Only (fun _ => False) w w1:=by
 obtain ⟨i0,hi,hz0,hz1,hz2⟩:=info_parts Tryz.infoU8;have:=run_make (P:=Tryz.prog) w 22 5 i0 (.int .u8 0) Tryz.underlying22 hi hz0 .i64 .i64 l c (by omega) (by omega) (by rw [hz2];omega) (by omega);refine ⟨_,this,?_,(Only.refl _ _).alloc _⟩
 have e : madeCells (Value.int .u8 0).cells ((c : Int).toNat * i0.size) = (bl (List.replicate c 0)).toArray:=by
  apply Array.toList_inj.1
  rw [show (Value.int .u8 0).cells = #[.int .u8 0] from rfl,toList_madeCells_one];simp [bl,hz1]
 rw [e];exact Blk.new _ _ _
theorem QfP (n : Nat) (hn : n ≤ 1000000000000) (w : World) : Calls Tryz.prog 145 #[.int .i64 n] w fun e w' => ∃ v,e = .returned v ∧ w'.ownsRow w.heap.size 5 1 v (9 + zpad n) ((endS n).map (Value.int .u8)) ∧ Only (fun _ => False) w w':=by
 obtain ⟨i0,hi,hz0,hz1,hz2⟩:=info_parts Tryz.infoU8;obtain ⟨z,hz⟩ : ∃ z,z = zpad n:=⟨_,rfl⟩;have hzp:=QjH n;have hzl:=Qdd n;rw [← hz] at hzp hzl;obtain ⟨w1,hmk,hb,ho⟩:=QjI w (1 + z) (9 + z) (by omega) (by omega)
 have e1 : ((1 + z : Nat) : Int) = 1 + (z : Int):=by omega
 have e2 : ((9 + z : Nat) : Int) = 1 + (z : Int) + 8:=by omega
 rw [e1,e2] at hmk
 have hc0 : w1.cell? ⟨w.heap.size,0,none⟩ = some (.int .u8 0):=by
  rw [hb.cell,bl_at _ _ (by rw [List.length_replicate];omega),show 9 + z = (8 + z) + 1 by omega];rfl
 have hf0 : w1.frozen? ⟨w.heap.size,0,none⟩ = false:=hb.froz 0;have HB:=Qaa (hb.set 0 (.int .u8 128));have HO:=Qaa (ho.setCell (p:=⟨w.heap.size,0,none⟩) (fun f => absurd f (Nat.lt_irrefl _)) (.int .u8 128));have HZ:=Qaa hz;clear hb ho hz;go_enter Tryz.func145,Tryz.ntmps145;go_wp2
 obtain ⟨F,hF⟩ : ∃ F : Nat → List Value,F = fun j => (128 :: (List.replicate z 0 ++ (be8 (8 * n)).take j)).map (Value.int .u8):=⟨_,rfl⟩
 have F0 : Hid (((bl (List.replicate (9 + z) 0)).set 0 (.int .u8 128)).take (1 + z) = F 0):=by
  show _ = _
  rw [hF,Qh1];rfl
 have F8 : Hid (F 8 = (endS n).map (Value.int .u8)):=by
  show _ = _
  rw [hF,endS,← HZ.out];simp only;rw [List.take_of_length_le (Nat.le_of_eq (QcP _))]
 have FN : Hid (∀ j,j < 8 → F (j + 1) = F j ++ [Value.int .u8 ((8 * n / 256 ^ (7 - j) % 256 : Nat) : Int)]):=fun j hj => by
  rw [hF];simp only;rw [Qfe _ _ hj];simp
 clear hF hzp;generalize ((64 - ((n : Int) + 1 + 8) % 64) % 64) = z4
 go_loopw [5,26] (fun o i wr => ∃ j : Nat,j ≤ 8 ∧ i = .int .i64 j ∧ wr.ownsRow w.heap.size 5 1 o (1 + z + j) (F j) ∧ Only (fun _ => False) w wr) (fun _ i _ => 8 - (intOf i).toNat)
 case atStart =>
  refine ⟨0,by omega,rfl,?_,HO.out⟩;rw [← F0.out];exact Qcx HB.out (Nat.le_refl _) (by omega) (by unfold maxLen;omega) (by simp [bl])
 case round =>
  obtain ⟨j,hj,rfl,hown,hon⟩:=hrel;have hsz:=hon.size;have HON:=Qaa hon;have HOWN:=Qaa hown;clear hon hown HB HO hc0 hf0 hmk e1 e2
  by_cases hlt : j < 8
  ·have HFN:=Qaa (FN.out j hlt)
   have i1 : (j : Int) < 8:=by omega
   have s0 : 0 ≤ (7 - (j : Int)) * 8:=by omega
   have s1 : (7 - (j : Int)) * 8 ≤ 64:=by omega
   have BL:=Qaa (Bs.litN .u8 wr 5 [(n : Int) * 8 / 2 ^ ((7 - j) * 8) % 256] _ _ rfl rfl);go_wp2_with (at_builtin;refine Qac _ rfl _ _ 22 rfl w.heap.size 5 i0 (.int .u8 0) 1 Tryz.underlying22 hi hz0 hz1 hz2 rfl _ (1 + z + j) (F j) rfl (HOWN.out.alloc _) .u8 _ [(n : Int) * 8 / 2 ^ ((7 - j) * 8) % 256] rfl BL.out (NoCap.some _ _ _) (by simp [maxLen];omega) (by simp;omega) (by simp;omega) ?_;intro v' w2 hown' hgrow2 hnil2 hob2)
   have N1 : Hid (w2.ownsRow w.heap.size 5 1 v' (1 + z + (j + 1)) (F (j + 1))):=by
    rw [HFN.out,← byte8];exact hown'
   have N2 : Hid (Only (fun _ => False) w w2):=(HON.out.alloc _).grown hgrow2 (fun k hk e => by have:=HOWN.out.lt k e;omega);clear hown' hgrow2 hnil2 hob2 HOWN HON BL HFN;go_wp2
   go_roundw
   case rel => exact ⟨j + 1,by omega,by go_num,N1.out,N2.out⟩
   case measure => simp [intOf];omega
  ·go_wp2
   go_ret
   obtain rfl : j = 8:=by omega
   rw [F8.out,show 1 + z + 8 = 9 + zpad n by rw [← HZ.out];omega] at HOWN;exact ⟨_,rfl,HOWN.out,HON.out⟩
def hc (st : List Nat) (pc : List Int) (n : Nat) : List Value:=wl st ++ bl pc ++ [.int .i64 (n : Int)]
theorem Qfj {st : List Nat} {pc : List Int} (h1 : st.length = 8) (h2 : pc.length = 64) (n : Nat) : (hc st pc n).length = 73:=by
 simp [hc,QaA,Qah,h1,h2]
theorem hc_n {st : List Nat} {pc : List Int} (h1 : st.length = 8) (h2 : pc.length = 64) (n : Nat) : (hc st pc n)[72]? = some (.int .i64 (n : Int)):=by
 unfold hc;rw [List.getElem?_append_right (by simp [QaA,Qah,h1,h2])];simp [QaA,Qah,h1,h2]
theorem Qh7 {st : List Nat} {pc : List Int} (h1 : st.length = 8) (h2 : pc.length = 64) (n m : Nat) : (hc st pc n).set 72 (.int .i64 (m : Int)) = hc st pc m:=by
 unfold hc;rw [List.set_append_right _ _ (by simp [QaA,Qah,h1,h2])];simp [QaA,Qah,h1,h2]
theorem Qgy {st : List Nat} {pc : List Int} (h1 : st.length = 8) (h2 : pc.length = 64) (n r : Nat) (ys : List Int) (hr : r + ys.length ≤ 64) : splice (hc st pc n) (8 + r) (bl ys) = hc st (splice pc r ys) n:=by
 unfold splice hc
 have e1 : (wl st ++ bl pc ++ [Value.int .i64 (n : Int)]).take (8 + r) = wl st ++ (bl pc).take r:=by
  rw [List.append_assoc,List.take_append,QaA,h1,List.take_of_length_le (by rw [QaA,h1];omega),show 8 + r - 8 = r by omega,List.take_append_of_le_length (by rw [Qah,h2];omega)]
 have e2 : (wl st ++ bl pc ++ [Value.int .i64 (n : Int)]).drop (8 + r + (bl ys).length) = (bl pc).drop (r + ys.length) ++ [Value.int .i64 (n : Int)]:=by
  rw [List.append_assoc,List.drop_append,QaA,h1,List.drop_of_length_le (by rw [QaA,h1,Qah];omega),Qah,show 8 + r + ys.length - 8 = r + ys.length by omega,List.drop_append_of_le_length (by rw [Qah,h2];omega)]
  rfl
 rw [e1,e2];simp [bl,List.map_append,List.map_take,List.map_drop]
def Hs1 (w : World) (g : Nat) (all : List Int) : Prop:=∃ st pc,Blk w g 144 (hc st pc all.length) ∧ HP st pc all
def Hs (w : World) (g : Nat) (all : List Int) : Prop:=Hs1 w g all ∨ (all = [] ∧ ∃ st pc,Blk w g 144 (hc st pc 0) ∧ st.length = 8 ∧ pc.length = 64 ∧ U8 pc)
theorem Hs1.keep {w w' : World} {g : Nat} {all : List Int} (h : Hs1 w g all) {S : Nat → Prop} (o : Only S w w') (hs : ¬ S g) : Hs1 w' g all:=by
 obtain ⟨st,pc,h1,h2⟩:=h;exact ⟨st,pc,h1.keep o hs,h2⟩
theorem Hs.keep {w w' : World} {g : Nat} {all : List Int} (h : Hs w g all) {S : Nat → Prop} (o : Only S w w') (hs : ¬ S g) : Hs w' g all:=by
 rcases h with h | ⟨rfl,st,pc,h1,h2⟩
 ·exact .inl (h.keep o hs)
 ·exact .inr ⟨rfl,st,pc,h1.keep o hs,h2⟩
theorem Hs.past {w w' : World} {g : Nat} {all : List Int} (h : Hs w g all) (o : Only (fun _ => False) w w') : Hs w' g all:=h.keep o (fun f => f)
theorem Hs.lt {w : World} {g : Nat} {all : List Int} (h : Hs w g all) : g < w.heap.size:=by
 rcases h with ⟨st,pc,h1,_⟩ | ⟨rfl,st,pc,h1,_⟩
 ·exact h1.lt
 ·exact h1.lt
theorem Qde {P : Program} {ops : Array Oper} {o : Oper} {a : Act} {w : World} {K : Act → World → Prop} {Q : Exit → Act → World → Prop} {E : Prop} (hgd : o.guard = none) (d s : Operand) (dT sT : TypeId)
  (ho : o.op = .call { callee:=.builtin .copy,args:=#[d,s],argTypes:=#[dT,sT] }) (elem : TypeId) (hu : P.underlying dT = some (.slice elem)) (hsz : (P.info? elem).map (·.size) = some 1)
  (g off dLen dCap : Nat) (ad : Addr) (sLen sCap : Nat) (hd : a.eval d = .slice (some ⟨g,off,none⟩) dLen dCap) (hs : a.eval s = .slice (some ad) sLen sCap)
  (cur : List Value) (t : TypeId) (hg : Blk w g t cur) (cs : List Value) (n : Nat) (hnn : cs.length = n) (hn : cs.length = Nat.min sLen dLen)
  (hsrc : ∀ j v,cs[j]? = some v → w.cell? (ad.add j) = some v) (hfit : off + cs.length ≤ cur.length) (h1 : ∀ v ∈ cs,v.oneCell' = true)
  (h : ∀ w',Blk w' g t (splice cur off cs) → Only (fun k => k = g) w w' → K (a.put o.dst (.int .i64 (n : Int))) w') :
  if Region.wanted o (yielded ops a.tmps) = true then Oper.wp P o a w K Q else E:=by
 have hw : Region.wanted o (yielded ops a.tmps) = true:=by simp [Region.wanted,hgd]
 rw [if_pos hw];have hrun:=run_copy_row (P:=P) w dT sT o.type elem g off dLen dCap ad sLen sCap cur.toArray t cs hu hsz hg hn hsrc (by simpa using hfit) h1;unfold Oper.wp;simp [execOp,ho,resolve,invoke,builtin,hd,hs,hrun,Result.andThen];rw [show goInt (cs.length : Int) = .int .i64 (n : Int) by rw [hnn];rfl];refine h _ ?_ ((Only.refl (fun k => k = g) w).setRow (fun _ => rfl) _);have:=hg.row (splice cur off cs)
 simpa [splice] using this
theorem Bs.keepE {k : IntKind} {w w' : World} {v : Value} {xs : List Int} (h : Bs k w v xs) {S : Nat → Prop} (ho : Only S w w') (hs : xs ≠ [] → ∀ b,v.ownBlock = some b → ¬ S b) : Bs k w' v xs:=by
 by_cases hx : xs = []
 ·subst hx
  obtain ⟨ao,cap,rfl,hc,_⟩:=h;exact ⟨ao,cap,rfl,hc,fun h => absurd rfl h⟩
 ·exact h.keep ho (hs hx)
theorem Qe4 (g : Nat) (st : List Nat) (pc : List Int) (w w1 : World) (h : Blk w g 144 (hc st pc 0)) (h2 : st.length = 8) (h3 : pc.length = 64) (h4 : U8 pc) (on1 : Only (fun _ => False) w w1) :
  Hs1 (w1.setCells g 0 (wl shH)) g [] ∧ Only (fun k => k = g) w (w1.setCells g 0 (wl shH)):=by
 refine ⟨⟨shH,pc,?_,HP.start pc h3 h4⟩,?_⟩
 ·have:=Qgm [] (wl st) (bl pc ++ [.int .i64 ((0 : Nat) : Int)]) (wl shH) (by rw [QaA,QaA,h2];rfl) w1 g 144 (by have:=h.past on1;unfold hc at this;simpa using this)
  unfold hc
  simpa using this
 ·exact Only.setCells (S:=fun k => k = g) (fun _ => rfl) (wl shH) 0 w1 (on1.mono (fun _ _ f => f.elim))
abbrev o0wr : Oper:={ dst:=some 54,op:=Op.load 141 (Operand.tmp 53),type:=141,pos:="sha.go:48",after:=#[{ on:=3,ground:=Ground.data }],guard:=none }
abbrev o1wr : Oper:={ dst:=some 58,op:=Op.load 142 (Operand.tmp 57),type:=142,pos:="sha.go:48",after:=#[{ on:=7,ground:=Ground.data }],guard:=none }
abbrev o2wr : Oper:={ dst:=some 59,op:=Op.call { callee:=Callee.value (Operand.func 144),args:=#[Operand.tmp 54,Operand.tmp 58],argTypes:=#[141,142] },type:=141,pos:="sha.go:48",after:=#[{ on:=4,ground:=Ground.data },{ on:=8,ground:=Ground.data }],guard:=none }
abbrev o3wr : Oper:={ dst:=some 60,op:=Op.nilCheck (Operand.tmp 50),type:=0,pos:="sha.go:48",after:=#[{ on:=0,ground:=Ground.data },{ on:=0,ground:=Ground.phase },{ on:=1,ground:=Ground.phase },{ on:=2,ground:=Ground.phase },{ on:=3,ground:=Ground.phase },{ on:=4,ground:=Ground.phase },{ on:=5,ground:=Ground.phase },{ on:=6,ground:=Ground.phase },{ on:=7,ground:=Ground.phase },{ on:=8,ground:=Ground.phase },{ on:=9,ground:=Ground.phase }],guard:=none }
abbrev o4wr : Oper:={ dst:=some 61,op:=Op.fieldAddr 144 (Operand.tmp 60) 0,type:=0,pos:="sha.go:48",after:=#[{ on:=10,ground:=Ground.data },{ on:=0,ground:=Ground.phase },{ on:=1,ground:=Ground.phase },{ on:=2,ground:=Ground.phase },{ on:=3,ground:=Ground.phase },{ on:=4,ground:=Ground.phase },{ on:=5,ground:=Ground.phase },{ on:=6,ground:=Ground.phase },{ on:=7,ground:=Ground.phase },{ on:=8,ground:=Ground.phase },{ on:=9,ground:=Ground.phase }],guard:=none }
abbrev o5wr : Oper:={ dst:=none,op:=Op.store 141 (Operand.tmp 61) (Operand.tmp 59),type:=0,pos:="sha.go:48",after:=#[{ on:=11,ground:=Ground.data },{ on:=9,ground:=Ground.data },{ on:=9,ground:=Ground.chain },{ on:=0,ground:=Ground.phase },{ on:=1,ground:=Ground.phase },{ on:=2,ground:=Ground.phase },{ on:=3,ground:=Ground.phase },{ on:=4,ground:=Ground.phase },{ on:=5,ground:=Ground.phase },{ on:=6,ground:=Ground.phase },{ on:=7,ground:=Ground.phase },{ on:=8,ground:=Ground.phase },{ on:=9,ground:=Ground.phase }],guard:=none }
abbrev o6wr : Oper:={ dst:=some 50,op:=Op.move (Operand.tmp 0),type:=169,pos:="sha.go:48",after:=#[],guard:=none }
abbrev o7wr : Oper:={ dst:=some 51,op:=Op.move (Operand.tmp 0),type:=169,pos:="sha.go:48",after:=#[],guard:=none }
abbrev o8wr : Oper:={ dst:=some 52,op:=Op.nilCheck (Operand.tmp 51),type:=0,pos:="sha.go:48",after:=#[{ on:=1,ground:=Ground.data }],guard:=none }
abbrev o9wr : Oper:={ dst:=some 53,op:=Op.fieldAddr 144 (Operand.tmp 52) 0,type:=0,pos:="sha.go:48",after:=#[{ on:=2,ground:=Ground.data }],guard:=none }
abbrev o10wr : Oper:={ dst:=some 55,op:=Op.move (Operand.tmp 0),type:=169,pos:="sha.go:48",after:=#[],guard:=none }
abbrev o11wr : Oper:={ dst:=some 56,op:=Op.nilCheck (Operand.tmp 55),type:=0,pos:="sha.go:48",after:=#[{ on:=5,ground:=Ground.data }],guard:=none }
abbrev o12wr : Oper:={ dst:=some 57,op:=Op.fieldAddr 144 (Operand.tmp 56) 1,type:=0,pos:="sha.go:48",after:=#[{ on:=6,ground:=Ground.data }],guard:=none }
theorem QbJ (g : Nat) (all xs : List Int) (v : Value) (w : World) (h : Hs w g all) (hb : Bs .u8 w v xs) (h8 : U8 xs) (hv : xs ≠ [] → ∀ k,v.ownBlock = some k → k ≠ g) (hl : all.length + xs.length ≤ 1000000000000) :
  Calls Tryz.prog 105 #[.pointer (some ⟨g,0,none⟩),v] w fun e w' => e = .returned (.int .i64 xs.length) ∧ Hs1 w' g (all ++ xs) ∧ Only (fun k => k = g) w w':=by
 obtain ⟨ao,cap,rfl⟩:=hb.len;obtain ⟨n,hn⟩ : ∃ n,n = all.length:=⟨_,rfl⟩
 have hc72 : w.cell? ⟨g,72,none⟩ = some (.int .i64 (n : Int)):=by
  rcases h with ⟨st,pc,h1,h2⟩ | ⟨rfl,st,pc,h1,h2,h3,_⟩
  ·rw [h1.cell,hc_n h2.sl h2.pl,hn]
  ·rw [h1.cell,hc_n h2 h3,hn];rfl
 by_cases h0 : n = 0
 case' pos =>
  subst h0;have ha : all = []:=List.eq_nil_of_length_eq_zero hn.symm;have HA:=Qaa ha;clear ha
  obtain ⟨st,pc,h1,h2,h3,h4⟩ : ∃ st pc,Blk w g 144 (hc st pc 0) ∧ st.length = 8 ∧ pc.length = 64 ∧ U8 pc:=by
   rcases h with ⟨st,pc,h1,h2⟩ | ⟨_,st,pc,h1,h2,h3,h4⟩
   ·exact ⟨st,pc,by rw [← hn] at h1;exact h1,h2.sl,h2.pl,h2.u8⟩
   ·exact ⟨st,pc,h1,h2,h3,h4⟩
  have H1:=Qaa (And.intro h1 (And.intro h2 (And.intro h3 h4)));have HB:=Qaa (And.intro hb (And.intro h8 hv));clear h1 h2 h3 h4 h hb h8 hv hn;go_enter Tryz.func105,Tryz.ntmps105;go_wp2_with fail;refine (Qgj _).mono ?_;rintro e w1 ⟨rfl,on1⟩;have TH:=Qaa ((H1.out.1.past on1).there 0 8 (by rw [Qfj H1.out.2.1 H1.out.2.2.1];decide));have HSZ : Hid ((Tryz.prog.info? 141).map (·.size) = some (wl shH).toArray.size):=Tryz.size30;go_wp2_with (refine wpList_store_mid rfl 141 (.tmp 17) (.tmp 15) rfl g 0 (wl shH).toArray rfl rfl TH.out HSZ.out (Qcr _) ?_);have WS:=Qe4 g _ _ w w1 H1.out.1 H1.out.2.1 H1.out.2.2.1 H1.out.2.2.2 on1;have HS1:=Qaa (And.intro (show Hs1 _ g all from by rw [HA.out];exact WS.1) (And.intro (HB.out.1.keepE WS.2 (fun hx k hk e => HB.out.2.2 hx k hk e)) (And.intro HB.out.2.2 WS.2)));have H8:=Qaa HB.out.2.1;clear WS H1 HB on1 TH HSZ hc72;obtain ⟨W1,hW1⟩ : ∃ W1,W1 = w1.setCells g 0 (wl shH):=⟨_,rfl⟩;rw [← hW1] at HS1 ⊢;obtain ⟨FQ,hFQ⟩ : ∃ FQ,FQ = wl shH:=⟨_,rfl⟩;rw [← hFQ];clear hFQ hW1
 case' neg =>
  have hs1 : Hs1 w g all:=by
   rcases h with h | ⟨rfl,_⟩
   ·exact h
   ·exact absurd hn h0
  have HS1:=Qaa (And.intro hs1 (And.intro hb (And.intro hv (Only.refl (fun k => k = g) w))));have H8:=Qaa h8
  have h00 : ((n : Int) == 0) = false:=by rw [beq_eq_false_iff_ne];omega
  have HNN:=Qaa hn;clear h hb hv h8 hs1 hn h0;go_enter Tryz.func105,Tryz.ntmps105;go_wp2;clear hc72 h00
 all_goals (
   go_loopw [5] (fun o wr => ∃ i : Nat,i ≤ xs.length ∧ Hs1 wr g (all ++ xs.take i) ∧ Bs .u8 wr o (xs.drop i) ∧ (xs.drop i ≠ [] → ∀ k,o.ownBlock = some k → k ≠ g) ∧ Only (fun k => k = g) w wr) (fun o _ => slen o)
   case atStart => exact ⟨0,Nat.zero_le _,by simpa using HS1.out.1,HS1.out.2.1,HS1.out.2.2.1,HS1.out.2.2.2⟩
   case round =>
    obtain ⟨i,hi,hs,hbr,hvr,onr⟩:=hrel;have HE:=Qaa hi;obtain ⟨ao1,cap1,rfl⟩:=hbr.len;have HL:=Qaa hl;obtain ⟨ys,hys⟩ : ∃ ys,ys = xs.drop i:=⟨_,rfl⟩;obtain ⟨al,hal⟩ : ∃ al,al = all ++ xs.take i:=⟨_,rfl⟩;rw [← hys] at hbr hvr ⊢;rw [← hal] at hs
    have hyl : ys.length = xs.length - i:=by rw [hys,List.length_drop]
    by_cases hy0 : ys = []
    ·have hie : i = xs.length:=by
      rw [hy0] at hyl;simp at hyl;omega
     have E1 : Hid (Hs1 wr g (all ++ xs)):=by
      show _
      rw [hal,hie,List.take_length] at hs;exact hs
     have E2:=Qaa onr;clear hyl hie hs onr hbr hvr hal hys HS1;subst hy0;simp only [List.length_nil];go_wp2;go_ret;exact ⟨rfl,E1.out,E2.out⟩
    ·have hvr:=hvr hy0
     obtain ⟨b,off,rfl,hcell⟩:=(by obtain ⟨ao',cap',e,_,hr⟩:=hbr;simp at e;obtain ⟨rfl,rfl⟩:=e;exact hr hy0 : ∃ b off,ao1 = some ⟨b,off,none⟩ ∧ ∀ j,j < ys.length → wr.cell? ⟨b,off + j,none⟩ = some (.int .u8 (ys.getD j 0)));obtain ⟨st,pc,hblk,hp⟩:=hs;obtain ⟨n,hn⟩ : ∃ n,n = al.length:=⟨_,rfl⟩;obtain ⟨r,hr⟩ : ∃ r,r = n % 64:=⟨_,rfl⟩
     have hc72 : wr.cell? ⟨g,72,none⟩ = some (.int .i64 (n : Int)):=by rw [hblk.cell,hc_n hp.sl hp.pl,hn]
     have hr64 : (r : Int) < 64:=by omega
     have hr0 : (n : Int) % 64 = (r : Int):=by omega
     have hr1 : (n : Int).tmod 64 = (r : Int):=by rw [Int.tmod_eq_emod_of_nonneg (by omega),hr0]
     have hr2 : (0 : Int) ≤ (r : Int):=by omega
     have hr3 : (r : Int) ≤ 64:=by omega
     have hn0 : ¬ 64 = r:=by omega
     have hn1 : n ≤ 1000000000000:=by rw [hn,hal,List.length_append,List.length_take];omega
     obtain ⟨L,hL⟩ : ∃ L,L = ys.length:=⟨_,rfl⟩
     have hLp : 0 < L:=by rw [hL];exact List.length_pos_iff.2 hy0
     obtain ⟨k,hk⟩ : ∃ k,k = min (64 - r) L:=⟨_,rfl⟩
     have hw0 : IntKind.i64.wrap (r : Int) = (r : Int):=by rw [IntKind.wrap_i64];omega
     rw [← hL];obtain ⟨zs,hzs⟩ : ∃ zs,zs = ys.take k:=⟨_,rfl⟩
     have hzl : zs.length = k:=by rw [hzs,List.length_take];omega
     have CB:=Qaa (show Blk wr.drew g 144 (hc st pc n) by rw [hn];exact hblk)
     have CN : Hid ((bl zs).length = Nat.min L (64 - r)):=by
      show _ = _
      rw [Qah,hzl,hk,Nat.min_comm]
     have CS : Hid (∀ j v,(bl zs)[j]? = some v → wr.drew.cell? ((⟨b,off,none⟩ : Addr).add j) = some v):=fun j v hj => by
      have h1:=(List.getElem?_eq_some_iff.1 hj).1;rw [Qah,hzl] at h1;rw [Addr.add_mid];have h2:=hcell j (by omega)
      have e : (bl zs)[j]? = some (.int .u8 (ys.getD j 0)):=by
       rw [bl_at _ _ (by omega),hzs,List.getD_eq_getElem?_getD,List.getD_eq_getElem?_getD,List.getElem?_take,if_pos h1]
      rw [e] at hj
      cases hj
      exact h2
     have CF : Hid (8 + r + (bl zs).length ≤ (hc st pc n).length):=by
      show _ ≤ _
      rw [Qfj hp.sl hp.pl,Qah,hzl];omega
     have CO:=Qaa (Qcf zs);have CZ:=Qaa (show (bl zs).length = k by rw [Qah,hzl]);have HX:=Qaa (And.intro hp (And.intro hn (And.intro hr (And.intro hk (And.intro hL (And.intro hzs (And.intro hzl hyl)))))));have HV:=Qaa (And.intro hvr (And.intro onr hbr));have HAL:=Qaa (And.intro hal hys);clear hblk hp hn hr hk hL hcell hvr onr hbr hal hys hyl hy0 hi hl hzs hzl;obtain ⟨ZB,hZB⟩ : ∃ ZB,ZB = bl zs:=⟨_,rfl⟩;rw [← hZB] at CN CS CF CO CZ;obtain ⟨HC,hHC⟩ : ∃ HC,HC = hc st pc n:=⟨_,rfl⟩;rw [← hHC] at CB CF;have HHC:=Qaa (And.intro hHC hZB);clear hHC hZB;go_wp2_with fail
     go_region_law (refine Qde rfl (.tmp 30) (.tmp 31) 22 22 rfl 5 Tryz.underlying22 Tryz.one5 g (8 + r) (64 - r) (64 - r) ⟨b,off,none⟩ L cap1 (by kernel_rfl) (by kernel_rfl) HC 144 CB.out ZB k CZ.out CN.out CS.out CF.out CO.out ?_;intro w4 hb4 on4)
     obtain ⟨hp,hn,hr,hk,hL,hzs,hzl,hyl⟩:=HX.out;obtain ⟨hvr,onr,hbr⟩:=HV.out;obtain ⟨hal,hys⟩:=HAL.out
     have hz8 : U8 zs:=by rw [hzs,hys];exact (H8.out.drop _).take _
     have hfit : r + zs.length ≤ 64:=by rw [hzl,hk];omega
     have hb5 : Blk w4 g 144 (hc st (splice pc r zs) n):=by
      have:=hb4;rw [HHC.out.1,HHC.out.2,Qgy hp.sl hp.pl n r zs hfit] at this;exact this
     have onw : Only (fun k => k = g) wr w4:=(Only.refl (fun k => k = g) wr).drew.trans on4 (fun _ _ e => e)
     have hbA : Bs .u8 w4 (.slice (some ⟨b,off,none⟩) L cap1) ys:=by rw [hL];exact hbr.keep onw hvr
     have hkL : k ≤ L:=by omega
     obtain ⟨A,hA,hBA,hOA⟩ : ∃ A,(if cap1 = k then some (⟨b,off,none⟩ : Addr) else some ⟨b,off + k,none⟩) = A ∧ Bs .u8 w4 (.slice A (L - k) (cap1 - k)) (ys.drop k) ∧ (∀ j,(Value.slice A (L - k) (cap1 - k)).ownBlock = some j → j ≠ g):=by
      by_cases hck : cap1 = k
      ·refine ⟨_,if_pos hck,?_,fun j hj => hvr j (by simpa [Value.ownBlock] using hj)⟩
       subst hck;rw [Nat.sub_self];exact hbA.cut0 hkL
      ·refine ⟨_,if_neg hck,?_,fun j hj => hvr j (by simpa [Value.ownBlock] using hj)⟩
       have:=hbA.cut hkL;rw [Option.map_some,Addr.add_mid] at this;exact this
     have hq : w4.cell? ⟨g,72,none⟩ = some (.int .i64 (n : Int)):=by
      rw [hb5.cell,hc_n hp.sl (by rw [length_splice _ _ _ (by rw [hp.pl];exact hfit),hp.pl])]
     have hfz : w4.frozen? ⟨g,72,none⟩ = false:=hb5.froz _;obtain ⟨n2,hn2⟩ : ∃ n2,n2 = n + k:=⟨_,rfl⟩
     have hs2 : (n : Int) + (k : Int) = (n2 : Int):=by omega
     have hkL' : (k : Int) ≤ (L : Int):=by omega
     have hn3 : (n2 : Int) ≤ 1000000000064:=by omega
     have hb6:=hb5.set 72 (.int .i64 (n2 : Int));rw [Qh7 hp.sl (by rw [length_splice _ _ _ (by rw [hp.pl];exact hfit),hp.pl])] at hb6;have on6 : Only (fun k => k = g) wr (w4.setCell ⟨g,72,none⟩ (.int .i64 (n2 : Int))):=onw.setCell (p:=⟨g,72,none⟩) (fun _ => rfl) _;have on7 : Only (fun k => k = g) w4 (w4.setCell ⟨g,72,none⟩ (.int .i64 (n2 : Int))):=(Only.refl (fun k => k = g) w4).setCell (p:=⟨g,72,none⟩) (fun _ => rfl) _
     have hxk : xs.drop (i + k) = ys.drop k:=by rw [hys,List.drop_drop]
     have hak : all ++ xs.take (i + k) = al ++ zs:=by rw [hal,hzs,hys,List.append_assoc,List.take_add]
     have hik : i + k ≤ xs.length:=by have:=HE.out;omega
     have hmes : L - k < L:=by omega
     have hrm : r = al.length % 64:=by rw [hr,hn]
     have hlen : n2 = (al ++ zs).length:=by rw [hn2,List.length_append,hzl,hn]
     by_cases hwh : r + k < 64
     ·have hHP:=hp.part zs hz8 (by rw [← hrm,hzl];exact hwh)
      rw [← hrm] at hHP
      have R1 : Hid (Hs1 (w4.setCell ⟨g,72,none⟩ (.int .i64 (n2 : Int))) g (all ++ xs.take (i + k))):=by
       show _
       rw [hak];exact ⟨_,_,by rw [← hlen];exact hb6,hHP⟩
      have R2 : Hid (Bs .u8 (w4.setCell ⟨g,72,none⟩ (.int .i64 (n2 : Int))) (.slice A (L - k) (cap1 - k)) (xs.drop (i + k))):=by
       show _
       rw [hxk];exact hBA.keep on7 hOA
      have R3:=Qaa hOA;have R4:=Qaa (onr.trans on6 (fun _ _ e => e));have R5:=Qaa (And.intro hik hmes);obtain ⟨r2,hr2'⟩ : ∃ r2,r2 = n2 % 64:=⟨_,rfl⟩
      have t1 : (n2 : Int) % 64 = (r2 : Int):=by omega
      have t2 : ((r2 : Int) == 0) = false:=by rw [beq_eq_false_iff_ne];omega
      clear hp hn hr hk hL hzs hzl hyl hvr onr hbr hal hys hz8 hfit hb5 onw hbA hBA hOA hb6 on6 on7 hxk hak hik hmes hrm hlen hHP hb4 on4 CB CN CS CF CO CZ HX HV HAL HHC hn2 hr2' hwh hr0 hr1 hr2 hr3 hr64 hn0 hw0
      go_simp
      go_wp2
      go_roundw
      case rel => exact ⟨i + k,R5.out.1,R1.out,R2.out,fun _ => R3.out,R4.out⟩
      case measure => exact R5.out.2
     ·have hw64 : r + k = 64:=by omega
      have hHP:=hp.whole zs hz8 (by rw [← hrm,hzl];exact hw64);rw [← hrm] at hHP;obtain ⟨pc2,hpc2⟩ : ∃ pc2,pc2 = splice pc r zs:=⟨_,rfl⟩;rw [← hpc2] at hHP hb6;have hp2l : pc2.length = 64:=hHP.pl;have TC:=Qaa (Qe3 st pc2 hp.sl hp.w32 hHP.pl hHP.u8);obtain ⟨W5,hW5⟩ : ∃ W5,W5 = w4.setCell ⟨g,72,none⟩ (.int .i64 (n2 : Int)):=⟨_,rfl⟩;rw [← hW5] at hb6 on6 on7;obtain ⟨SB,hSB⟩ : ∃ SB,SB = wl st:=⟨_,rfl⟩;obtain ⟨PB,hPB⟩ : ∃ PB,PB = bl pc2:=⟨_,rfl⟩;obtain ⟨TB,hTB⟩ : ∃ TB,TB = wl (thru st pc2):=⟨_,rfl⟩;rw [← hSB,← hPB,← hTB] at TC
      have hTL : TB.length = 8:=by rw [hTB,QaA,Qb4]
      have hSL : SB.length = 8:=by rw [hSB,QaA,hp.sl]
      have hPL : PB.length = 64:=by rw [hPB,Qah,hp2l]
      have hb7 : Blk W5 g 144 (SB ++ PB ++ [.int .i64 (n2 : Int)]):=by rw [hSB,hPB];exact hb6
      have hb8 : Blk W5 g 144 ([] ++ SB ++ (PB ++ [.int .i64 (n2 : Int)])):=by rw [List.nil_append,← List.append_assoc];exact hb7
      have r31 : Hid (W5.drew.rangeAt g 8 PB):=hb7.drew.rangeN hSL;have r30 : Hid (W5.drew.rangeAt g 0 SB):=hb8.drew.range
      have i31 : Hid ((Tryz.prog.info? 142).map (·.size) = some PB.length):=by rw [hPL];exact Tryz.size31
      have i30 : Hid ((Tryz.prog.info? 141).map (·.size) = some SB.length):=by rw [hSL];exact Tryz.size30
      have i3t : Hid ((Tryz.prog.info? 141).map (·.size) = some TB.toArray.size):=by
       show _ = _
       rw [List.size_toArray,hTL];exact Tryz.size30
      have o3t : Hid (TB.toArray.all (·.oneCell') = true):=by rw [hTB];exact Qcr _
      have th6 : Hid (∀ w6,Only (fun _ => False) W5.drew w6 → w6.there g 0 TB.toArray.size):=fun w6 o => (hb7.past ((Only.refl (fun _ => False) W5).drew.same o)).there 0 TB.toArray.size (by
       rw [List.size_toArray,hTL,List.length_append,List.length_append,hSL];omega)
      have FIN : Hid (∀ w6,Only (fun _ => False) W5.drew w6 → Hs1 (w6.setCells g 0 TB) g (all ++ xs.take (i + k)) ∧ Bs .u8 (w6.setCells g 0 TB) (.slice A (L - k) (cap1 - k)) (xs.drop (i + k)) ∧ Only (fun k => k = g) w (w6.setCells g 0 TB)):=fun w6 o => by
       have o1 : Only (fun k => k = g) W5 w6:=((Only.refl (fun _ => False) W5).drew.same o).mono (fun _ _ f => f.elim);have o2 : Only (fun k => k = g) W5 (w6.setCells g 0 TB):=Only.setCells (S:=fun k => k = g) (fun _ => rfl) _ 0 w6 o1;refine ⟨?_,?_,onr.trans (on6.trans o2 (fun _ _ e => e)) (fun _ _ e => e)⟩
       ·rw [hak]
        refine ⟨_,_,?_,hHP⟩;rw [← hlen];have h9:=Qgm [] SB (PB ++ [.int .i64 (n2 : Int)]) TB (by rw [hTL,hSL]) w6 g 144 (hb8.past ((Only.refl (fun _ => False) W5).drew.same o));rw [List.nil_append,List.length_nil] at h9;unfold hc;rw [← hTB,← hPB,List.append_assoc];exact h9
       ·rw [hxk]
        exact hBA.keep (on7.trans o2 (fun _ _ e => e)) hOA
      have R3:=Qaa hOA;have R5:=Qaa (And.intro hik hmes);have HW5:=Qaa hW5
      have t1 : (n2 : Int) % 64 = 0:=by omega
      clear hp hn hr hk hL hzs hzl hyl hvr onr hbr hal hys hz8 hfit hb5 onw hbA hBA hOA hb6 on6 on7 hxk hak hik hmes hrm hlen hHP hb4 on4 CB CN CS CF CO CZ HX HV HAL HHC hn2 hwh hr0 hr1 hr2 hr3 hr64 hn0 hw0 hw64 hpc2 hp2l hb7 hb8 hSB hPB hTB hW5 hTL hSL hPL
      go_simp
      go_wp2_with fail;rw [← HW5.out];clear hq hfz HW5;refine wp_region_any (by kernel_rfl) ?_
      change wpAny _ _ _ _ _ _ _ (World.drew _)
      refine wpAny_take (i:=0) (oi:=o6wr) (v:=?_) rfl (by kernel_rfl) (by kernel_rfl) (by kernel_rfl) (fun _ _ _ h => h) (Or.inl ⟨by rfl,?_⟩) ?_
      rotate_left
      ·intro w;go_simp;try with_reducible rfl
      simp only [Act.put,List.setIfInBounds_toArray,List.set_cons_zero,List.set_cons_succ];refine wpAny_take (i:=1) (oi:=o7wr) (v:=?_) rfl (by kernel_rfl) (by kernel_rfl) (by kernel_rfl) (fun _ _ _ h => h) (Or.inl ⟨by rfl,?_⟩) ?_
      rotate_left
      ·intro w;go_simp;try with_reducible rfl
      simp only [Act.put,List.setIfInBounds_toArray,List.set_cons_zero,List.set_cons_succ];refine wpAny_take (i:=2) (oi:=o8wr) (v:=?_) rfl (by kernel_rfl) (by kernel_rfl) (by kernel_rfl) (fun _ _ _ h => h) (Or.inl ⟨by rfl,?_⟩) ?_
      rotate_left
      ·intro w;go_simp;try with_reducible rfl
      simp only [Act.put,List.setIfInBounds_toArray,List.set_cons_zero,List.set_cons_succ];refine wpAny_take (i:=3) (oi:=o9wr) (v:=?_) rfl (by kernel_rfl) (by kernel_rfl) (by kernel_rfl) (fun _ _ _ h => h) (Or.inl ⟨by rfl,?_⟩) ?_
      rotate_left
      ·intro w;go_simp;try with_reducible rfl
      simp only [Act.put,List.setIfInBounds_toArray,List.set_cons_zero,List.set_cons_succ];refine wpAny_take (i:=5) (oi:=o10wr) (v:=?_) rfl (by kernel_rfl) (by kernel_rfl) (by kernel_rfl) (fun _ _ _ h => h) (Or.inl ⟨by rfl,?_⟩) ?_
      rotate_left
      ·intro w;go_simp;try with_reducible rfl
      simp only [Act.put,List.setIfInBounds_toArray,List.set_cons_zero,List.set_cons_succ];refine wpAny_take (i:=6) (oi:=o11wr) (v:=?_) rfl (by kernel_rfl) (by kernel_rfl) (by kernel_rfl) (fun _ _ _ h => h) (Or.inl ⟨by rfl,?_⟩) ?_
      rotate_left
      ·intro w;go_simp;try with_reducible rfl
      simp only [Act.put,List.setIfInBounds_toArray,List.set_cons_zero,List.set_cons_succ];refine wpAny_take (i:=7) (oi:=o12wr) (v:=?_) rfl (by kernel_rfl) (by kernel_rfl) (by kernel_rfl) (fun _ _ _ h => h) (Or.inl ⟨by rfl,?_⟩) ?_
      rotate_left
      ·intro w;go_simp;try with_reducible rfl
      simp only [Act.put,List.setIfInBounds_toArray,List.set_cons_zero,List.set_cons_succ]
      repeat' (first
       | ((first
        | (have _:=m0;clear m0;rw [if_pos (by rfl)];refine wp_load_mid 141 (.tmp 53) rfl g 0 rfl SB _ r30.out Tryz.underlying141 rfl i30.out ?_;have z_4:=trivial)
        | (have _:=m1;clear m1;rw [if_pos (by rfl)];refine wp_load_mid 142 (.tmp 57) rfl g 8 rfl PB _ r31.out Tryz.underlying142 rfl i31.out ?_;have z_8:=trivial));refine hK _ _ ?_;clear hK K;simp only [Act.put,List.setIfInBounds_toArray,List.set_cons_zero,List.set_cons_succ])
       | (
        have _:=m2;clear m2
        go_simp
        go_wp2_with (go_at_call 144;refine (TC.out _).mono ?_;rintro e w6 ⟨rfl,on6⟩);refine wpAny_take (i:=10) (oi:=o3wr) (v:=?_) rfl (by kernel_rfl) (by kernel_rfl) (by kernel_rfl) (fun _ _ _ h => h) (Or.inl ⟨by rfl,?_⟩) ?_
        rotate_left
        ·intro w;go_simp;try with_reducible rfl
        simp only [Act.put,List.setIfInBounds_toArray,List.set_cons_zero,List.set_cons_succ];refine wpAny_take (i:=11) (oi:=o4wr) (v:=?_) rfl (by kernel_rfl) (by kernel_rfl) (by kernel_rfl) (fun _ _ _ h => h) (Or.inl ⟨by rfl,?_⟩) ?_
        rotate_left
        ·intro w;go_simp;try with_reducible rfl
        simp only [Act.put,List.setIfInBounds_toArray,List.set_cons_zero,List.set_cons_succ];refine wpAny_ready (rs:=[12]) (by kernel_rfl) (by simp) ?_;refine AllReady.cons (o:=o5wr) rfl (fun K hK => ?_) AllReady.nil;rw [if_pos (by rfl)];refine wp_store_mid 141 (.tmp 61) (.tmp 59) rfl g 0 TB.toArray rfl rfl (th6.out w6 on6) i3t.out o3t.out ?_;refine hK _ _ ?_;clear hK K;refine wpAny_done (by kernel_rfl) ?_ _;obtain ⟨q1,q2,q3⟩:=FIN.out w6 on6;have Q1:=Qaa q1;have Q2:=Qaa q2;have Q3:=Qaa q3;clear q1 q2 q3 on6 FIN TC r30 r31 i30 i31 i3t o3t th6
        go_simp
        go_wp2
        go_roundw
        case rel => exact ⟨i + k,R5.out.1,Q1.out,Q2.out,fun _ => R3.out,Q3.out⟩
        case measure => exact R5.out.2)
       | (have _:=z_4;have _:=z_8;refine wpAny_ready (rs:=[9]) (by kernel_rfl) (by simp) (AllReady.cons (o:=o2wr) rfl (fun K hK => (fun (m2 : True) => ?_) trivial) AllReady.nil))
       | (have _:=z_4;refine wpAny_ready (rs:=[8]) (by kernel_rfl) (by simp) (AllReady.cons (o:=o1wr) rfl (fun K hK => (fun (m1 : True) => ?_) trivial) AllReady.nil))
       | (have _:=z_8;refine wpAny_ready (rs:=[4]) (by kernel_rfl) (by simp) (AllReady.cons (o:=o0wr) rfl (fun K hK => (fun (m0 : True) => ?_) trivial) AllReady.nil))
       | (refine wpAny_ready (rs:=[4,8]) (by kernel_rfl) (by simp) (AllReady.cons (o:=o0wr) rfl (fun K hK => (fun (m0 : True) => ?_) trivial) (AllReady.cons (o:=o1wr) rfl (fun K hK => (fun (m1 : True) => ?_) trivial) AllReady.nil)))))
end Go.Proofs.YtcpopagikbjimaaGreatDoor
