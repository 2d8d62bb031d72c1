import Derived.Test.YtiochaeeoelmjaaGreatDoorG21
namespace Go.Proofs.YtiochaeeoelmjaaGreatDoor
set_option maxHeartbeats 1600000
set_option maxRecDepth 100000
open Go.RowKit _root_.Go.Proofs.Tryz
theorem NV (n x:Nat):leB (n+1) x=leB n x++[((x / 256^n % 256:Nat):Int)]:=by
 induction n generalizing x with
 | zero=>simp[leB]
 | succ n ih =>
  show ((x % 256:Nat):Int) :: leB (n+1) (x / 256)=((x % 256:Nat):Int) :: leB n (x / 256)++_
  rw[ih,Nat.div_div_eq_div_mul,Nat.pow_succ,Nat.mul_comm (256^n) 256];rfl
theorem Ns (a y m:Nat) (ha:a<2^m):a ||| y*2^m=a+y*2^m:=by
 have:=Nat.two_pow_add_eq_or_of_lt ha y;rw[Nat.or_comm,Nat.mul_comm y,<-this,Nat.add_comm]
theorem pow26 (n k h:Nat) (e:26*n=8*k+h):67108864^n=256^k*2^h:=by
 rw[show (67108864:Nat)=2^26 from rfl,show (256:Nat)=2^8 from rfl,<-Nat.pow_mul,<-Nat.pow_mul,<-Nat.pow_add,e]
theorem Ep (s:List Nat) (hs:s.length=5) (hb:LB 67108864 s) (n k h:Nat) (hn:n<5) (e:26*n=8*k+h) :
 LV (s.take n) / 256^k<2^h∧LV (s.take n) / 256^k+s.getD n 0*2^h=LV (s.take (n+1)) / 256^k:=by
 have h1:=LV_lt (s.take n) (hb.take (by decide) n);rw[Qd,Nat.min_eq_left (by omega),pow26 n k h e] at h1;have h2:=Z8 s n (by omega);rw[pow26 n k h e] at h2;have hp:0<256^k:=Nat.pow_pos (by decide);refine⟨Nat.div_lt_of_lt_mul h1,?_⟩;rw[h2,Nat.mul_assoc,Nat.add_mul_div_left _ _ hp,Nat.mul_comm (2^h)]
theorem OQ (s:List Nat) (m j:Nat) (hm:m<=s.length) (e:8*(j+1)<=26*m):LV (s.take m) / 256^j % 256=LV s / 256^j % 256:=by
 have h:=ZK (s.take m) (s.drop m);rw[List.take_append_drop,Qd,Nat.min_eq_left hm,pow26 m j (26*m - 8*j) (by omega)] at h;have hp:0<256^j:=Nat.pow_pos (by decide);rw[h,Nat.mul_assoc,Nat.add_mul_div_left _ _ hp,show 26*m - 8*j=(26*m - 8*j - 8)+8 by omega,Nat.pow_add,show (2:Nat)^8=256 from rfl,Nat.mul_comm _ 256,Nat.mul_assoc,Nat.add_mul_mod_self_left]
theorem Aa (x j:Nat):x / 256^j / 256=x / 256^(j+1):=by rw[Nat.div_div_eq_div_mul,Nat.pow_succ]
theorem Af (n x:Nat):bl (leB (n+1) x)=bl (leB n x)++[.int .u8 ((x / 256^n % 256:Nat):Int)]:=by
 rw[NV];simp[bl]
theorem Na (s:List Nat) (hs:s.length=5) (hb:LB 67108864 s) (w:World) :
 Calls prog 158 #[.agg (ul s).toArray] w λe w'=>∃v,e=.returned v∧w'.ownsRow w.heap.size 5 1 v 16 (bl (leB 16 (LV s)))∧N0 w w':=by
 obtain⟨i0,hi,hz0,hz1,hz2⟩:=info_parts Tryz.infoU8;have XA:=Qa (ix_u5 s hs);have ho:=Qa (YE s hs);obtain⟨B,hB⟩:=EX (ul s);rw[<-hB] at XA ho ⊢;have HS:=Qa (And.intro hs hb)
 have hmk:∀w,(Instr.makeSlice 23 (.int .i64 0) (.int .i64 16)).run prog w=.ok (.slice (some ⟨w.heap.size,0,none⟩) 0 16) (w.alloc (.cells (bl (List.replicate 16 0)).toArray 5)):=λ_=>by kernel_rfl
 obtain⟨Y,hY⟩:=EX (bl (List.replicate 16 0))
 have hg:Y.toArray.size=16:=by rw[hY];simp[Qr]
 rw[<-hY] at hmk
 have h1:Hid (((w.alloc (.cells B.toArray 195)).alloc (.cells Y.toArray 5)).ownsRow w.heap.size 5 1 (.slice (some ⟨w.heap.size+1,0,none⟩) 0 16) 0 []∧N0 w ((w.alloc (.cells B.toArray 195)).alloc (.cells Y.toArray 5))):=by
  have h:=World.ownsRow_made (base:=w.heap.size) (e:=5) (size:=1) (w.alloc (.cells B.toArray 195)) Y.toArray 16 (by rw[size_alloc];omega) (by unfold maxLen;omega) (by rw[hg]);rw[size_alloc] at h;exact⟨h,((Only.refl _ _).alloc _).alloc _⟩
 have hz:Hid (Blk ((w.alloc (.cells B.toArray 195)).alloc (.cells Y.toArray 5)) w.heap.size 195 B):=(Blk.new w 195 B).alloc _;clear hB hs hb hY hg;go_enter func158,ntmps158;go_wp2_with (first|(refine wpList_load_row rfl 195 (.tmp 1) rfl w.heap.size rfl 195 B.toArray (0,0) _ hz.o underlying195 rfl ho.o ?_));obtain⟨W0,ha⟩:=EX ((w.alloc (.cells B.toArray 195)).alloc (.cells Y.toArray 5));rw[<-ha] at h1 ⊢;clear ha hz
 go_loopw [3,4,5,10] (λo h b i wr=>∃n:Nat,n<=5∧i=.int .i64 n∧b=.int .i64 (26*n % 8:Nat)∧h=.int .u64 (LV (s.take n) / 256^(26*n / 8):Nat)∧wr.ownsRow w.heap.size 5 1 o (26*n / 8) (bl (leB (26*n / 8) (LV s)))∧N0 w wr) (λ_ _ _ i _=>5 - (intOf i).toNat)
 case atStart=>exact⟨0,by omega,rfl,rfl,by simp[LV],h1.o⟩
 case round =>
  obtain⟨n,hn,rfl,rfl,rfl,h0,h2⟩:=hrel;clear h1
  by_cases hlt:n<5
  ·have hw:=XA.o n hlt
   have hx:=HS.o.2 n;obtain⟨k,hk⟩:=EX (26*n / 8);obtain⟨h,hh⟩:=EX (26*n % 8)
   have he:26*n=8*k+h:=by omega
   have h4:=Ep s HS.o.1 HS.o.2 n k h hlt he
   have hm:n+1<=s.length:=by rw[HS.o.1];exact hlt
   rw[<-hk] at h0 ⊢;rw[<-hh];obtain⟨x,hv⟩:=EX (s.getD n 0);rw[<-hv] at hw hx h4;obtain⟨T,hT⟩:=EX (LV (s.take (n+1)));have HT:Hid (T=LV (s.take (n+1))∧∀j,8*(j+1)<=26*(n+1)->T / 256^j % 256=LV s / 256^j % 256):=⟨hT,λj hj=>by rw[hT];exact OQ s (n+1) j hm hj⟩;rw[<-hT] at h4;obtain⟨q,hq⟩:=EX (LV (s.take n) / 256^k);rw[<-hq] at h4 ⊢
   have hh7:h<=7:=by omega
   have hl:2^h<=2^7:=Nat.pow_le_pow_right (by decide) hh7;obtain⟨t,ht⟩:=EX (x*2^h)
   have htl:t<=67108864*128:=by rw[ht];exact Nat.mul_le_mul (by omega) hl
   have h8:(x:Int)*2^h=(t:Int):=by rw[ht];simp
   have s1:IntKind.u64.wrap ((x:Int)*2^h)=(t:Int):=by rw[h8,wrap64 t (by omega)]
   have s2:((x:Int)*2^h) % 18446744073709551616=(t:Int):=by rw[h8];omega
   obtain⟨p,hp⟩:=EX (T / 256^k)
   have hor:bits .or .u64 (q:Int) (t:Int)=(p:Int):=by
    rw[u64_or_nat _ _ (by omega) (by omega),ht,Ns _ _ _ h4.1,hp,h4.2]
   have hr6:(h:Int)<=64:=by omega
   have HP:=Qa (And.intro hp (And.intro hk he));have HO:=Qa (And.intro h0 h2)
   have i1:(n:Int)<5:=by omega
   have h6:IntKind.i64.wrap ((h:Int)+26)=((h+26:Nat):Int):=by rw[IntKind.wrap_i64];omega
   clear hx hv h4 hT hq hl ht htl h8 hp h0 h2 hk hh he hm;go_wp2
   go_loopw [3,4,5] (λo hd b wr=>∃j d:Nat,8*j+d=26*(n+1)∧b=.int .i64 (d:Nat)∧hd=.int .u64 (T / 256^j:Nat)∧wr.ownsRow w.heap.size 5 1 o j (bl (leB j (LV s)))∧N0 w wr) (λ_ _ b _=>(intOf b).toNat)
   case atStart =>
    have h3:=HP.o.2.2;exact⟨k,h+26,by omega,by rfl,by rw[HP.o.1],HO.o⟩
   case round =>
    obtain⟨j,d,hjd,rfl,rfl,h0,h2⟩:=hrel;clear HO hw s1 s2 hor h6
    by_cases hd8:8<=d
    ·have hr:=HT.o.2 j (by omega)
     have h7:=Aa T j;have h5:=Af j (LV s);rw[<-hr] at h5
     have hjj:j<=16:=by omega
     obtain⟨y,hy⟩:=EX (T / 256^j);rw[<-hy] at h7 h5 ⊢;have HE:=Qa (And.intro h5 h7)
     have i2:(8:Int)<=(d:Int):=by omega
     have hsub:IntKind.i64.wrap ((d:Int) - 8)=((d - 8:Nat):Int):=by rw[IntKind.wrap_i64];omega
     have hsz:=h2.size;clear hr h7 h5 hy;go_wp2_with (at_builtin;refine wpList_append_lies _ rfl _ _ _ rfl w.heap.size 5 i0 (.int .u8 0) 1 1 underlying23 hi hz0 hz1 hz2 rfl (by omega) _ j (bl (leB j (LV s))) rfl (h0.alloc _) ⟨wr.heap.size,0,none⟩ 1 1 [.int .u8 ((y:Int) % 256)] rfl rfl ?c1 ?c2 (by omega) ?c3 ?c4 ?c5 (wr.heap.size+1) (by simp) ?_)
     case c1=>exact cell_one_new _ _ _
     case c2=>intro u hu;simp at hu;subst hu;rfl
     case c3=>unfold maxLen;omega
     case c4=>omega
     case c5=>simp;omega
     intro g cap1 w1 hown1 hgrow hat hg1
     have N1:Hid (w1.ownsRow w.heap.size 5 1 (.slice (some ⟨g,0,none⟩) (j+1) cap1) (j+1) (bl (leB (j+1) (LV s)))∧N0 w w1):=by
      refine⟨?_,(h2.alloc _).grown hgrow (λq hq e=>by have:=(h0.lt q e).1;omega)⟩;rw[HE.o.1];exact hown1
     clear h0 hown1 hgrow hat h2;go_wp2
     go_roundw
     case rel=>exact⟨j+1,d - 8,by omega,by go_num,by rw[<-HE.o.2];go_num,N1.o⟩
     case measure=>simp[intOf];omega
    ·have h9:26*(n+1) / 8=j∧26*(n+1) % 8=d:=by omega
     have N2:Hid (wr.ownsRow w.heap.size 5 1 u3 (26*(n+1) / 8) (bl (leB (26*(n+1) / 8) (LV s)))∧N0 w wr):=by
      rw[h9.1];exact⟨h0,h2⟩
     have hf:=Qa h9
     have i2:¬(8:Int)<=(d:Int):=by omega
     clear h0 h2 h9;go_wp2
     go_roundw
     case rel=>exact⟨n+1,by omega,by go_num,by rw[hf.o.2],by rw[hf.o.1,HT.o.1],N2.o⟩
     case measure=>simp[intOf];omega
  ·obtain rfl:n=5:=by omega
   have F1:=Qa (And.intro h0 h2);clear h0 h2;go_wp2;go_ret;exact⟨_,rfl,F1.o⟩
theorem Hu (T s:List Nat) (i:Nat) (hi:i<s.length) (hT:i<T.length):(T.take i++s.drop i).set i (T.getD i 0)=T.take (i+1)++s.drop (i+1):=by
 have hl:(T.take i).length=i:=by rw[Qd];omega
 rw[KF T i hT,List.set_append_right _ _ (by omega),hl,Nat.sub_self,List.drop_eq_getElem_cons hi,Qk,List.append_assoc]
 rfl
theorem BO (T s:List Nat) (i:Nat) (hT:i<T.length):(T.take i++s.drop i).getD i 0=s.getD i 0:=by
 have hl:(T.take i).length=i:=by rw[Qd];omega
 simp only[Qc];rw[List.getElem?_append_right (by omega),hl,Nat.sub_self,List.getElem?_drop,Nat.add_zero]
theorem Gi (T s:List Nat) (i n:Nat) (hT:T.length=n) (hs:s.length=n) (hi:i<=n):(T.take i++s.drop i).length=n:=by
 rw[Qb,Qd,Qq];omega
theorem Xy (a b:List Nat) (ha:a.length=5) (hb:b.length=5) (la:LB 4611686018427387904 a) (lb:LB 4611686018427387904 b) (w:World) :
 Calls prog 155 #[.agg (ul a).toArray,.agg (ul b).toArray] w λe w'=>e=.returned (.agg (ul (pls a b)).toArray)∧N0 w w':=by
 have h6:=(zero_of_info (P:=prog) Tryz.zero34).1;obtain⟨Z,hZ⟩:=EX z5;rw[<-hZ] at h6;obtain⟨D,hD⟩:=EX (ul (pls a b))
 have h1:Hid ((prog.info? 195).map (·.size)=some D.toArray.size):=by
  show _=_
  rw[hD];simp[QN,Yn,Tryz.size34]
 have HZ2:Hid (Z.toArray.size=D.toArray.size):=by
  show _=_
  rw[hD,hZ];simp[QN,Yn,Ul]
 have HA:Hid (D.toArray.all (·.oneCell')=true):=by
  show _=_
  rw[hD];exact Y1 _
 rw[<-hD];have HD:=Qa hD;have HS:=Qa (And.intro ha (And.intro hb (And.intro la lb)));obtain⟨A,hA⟩:=EX (ul a);obtain⟨B,hB⟩:=EX (ul b);have HB:=Qa (And.intro hA hB);rw[<-hA,<-hB];clear hZ hD hB hA ha hb la lb;go_enter func155,ntmps155;go_wp2_with fail
 have S0:Hid (Blk (((w.alloc (.cells A.toArray 195)).alloc (.cells B.toArray 195)).alloc (.cells Z.toArray 195)) w.heap.size 195 (ul ((pls a b).take 0++a.drop 0))∧Blk (((w.alloc (.cells A.toArray 195)).alloc (.cells B.toArray 195)).alloc (.cells Z.toArray 195)) (w.heap.size+1) 195 (ul b)∧Blk (((w.alloc (.cells A.toArray 195)).alloc (.cells B.toArray 195)).alloc (.cells Z.toArray 195)) (w.heap.size+1+1) 195 Z∧N0 w (((w.alloc (.cells A.toArray 195)).alloc (.cells B.toArray 195)).alloc (.cells Z.toArray 195))):=by
  refine⟨?_,?_,?_,(((Only.refl _ _).alloc _).alloc _).alloc _⟩
  ·show Blk _ _ _ (ul a)
   rw[<-HB.o.1];exact ((Blk.new w 195 A).alloc _).alloc _
  ·rw[<-HB.o.2]
   have:=(Blk.new (w.alloc (.cells A.toArray 195)) 195 B).alloc (.cells Z.toArray 195);rw[size_alloc] at this;exact this
  ·have:=Blk.new ((w.alloc (.cells A.toArray 195)).alloc (.cells B.toArray 195)) 195 Z
   rw[size_alloc,size_alloc] at this;exact this
 obtain⟨R,hR⟩:=EX (w.heap.size+1+1);rw[<-hR] at S0 ⊢;obtain⟨H,hH⟩:=EX (w.heap.size+1);rw[<-hH] at S0 ⊢;obtain⟨G,hG⟩:=EX w.heap.size;have HG:Hid (w.heap.size<=G∧w.heap.size<=R∧R≠G∧H≠G):=⟨by omega,by omega,by omega,by omega⟩;rw[<-hG] at S0 ⊢;obtain⟨W0,h5⟩:=EX (((w.alloc (.cells A.toArray 195)).alloc (.cells B.toArray 195)).alloc (.cells Z.toArray 195));rw[<-h5] at S0 ⊢
 have hGH:¬G=H:=by omega
 clear hG hR h5 h6 hH
 go_loopw [6] (λi wr=>∃n:Nat,n<=5∧i=.int .i64 n∧Blk wr G 195 (ul ((pls a b).take n++a.drop n))∧Blk wr H 195 (ul b)∧Blk wr R 195 Z∧N0 w wr) (λi _=>5 - (intOf i).toNat)
 case atStart=>exact⟨0,by omega,rfl,S0.o⟩
 case round =>
  obtain⟨n,hn,rfl,hS,hQ,hR,hO⟩:=hrel;clear S0
  by_cases hlt:n<5
  ·have h2:=Gi (pls a b) a n 5 (Yn _ _) HS.o.1 hn
   have hx:=HS.o.2.2.1 n;have hy:=HS.o.2.2.2 n
   have hc:wr.cell? ⟨G,n,none⟩=some (.int .u64 ((a.getD n 0:Nat):Int)):=by
    rw[hS.cell,ul_at _ _ (by rw[h2];exact hlt),BO _ _ _ (by rw[Yn];exact hlt)]
   have hc2:wr.cell? ⟨H,n,none⟩=some (.int .u64 ((b.getD n 0:Nat):Int)):=by
    rw[hQ.cell,ul_at _ _ (by rw[HS.o.2.1];exact hlt)]
   have hf:=hS.froz n;have h0:=Hu (pls a b) a n (by rw[HS.o.1];exact hlt) (by rw[Yn];exact hlt);rw[Wm _ _ _ hlt] at h0;obtain⟨x,h3⟩:=EX (a.getD n 0);obtain⟨y,h4⟩:=EX (b.getD n 0);rw[<-h3] at hc h0 hx;rw[<-h4] at h0 hc2 hy;obtain⟨v,hv⟩:=EX (x+y);rw[<-hv] at h0
   have hadd:IntKind.u64.wrap ((x:Int)+(y:Int))=(v:Int):=by
    rw[show ((x:Int)+(y:Int))=((v:Nat):Int) by omega,wrap64 v (by omega)]
   have N1:Hid (Blk (wr.drew.setCell ⟨G,n,none⟩ (.int .u64 (v:Int))) G 195 (ul ((pls a b).take (n+1)++a.drop (n+1)))∧Blk (wr.drew.setCell ⟨G,n,none⟩ (.int .u64 (v:Int))) H 195 (ul b)∧Blk (wr.drew.setCell ⟨G,n,none⟩ (.int .u64 (v:Int))) R 195 Z∧N0 w (wr.drew.setCell ⟨G,n,none⟩ (.int .u64 (v:Int)))):=by
    have oc:=((Only.refl (λk=>k=G) wr).drew).setCell (p:=⟨G,n,none⟩) (λ_=>rfl) (.int .u64 (v:Int));refine⟨?_,hQ.keep oc HG.o.2.2.2,hR.keep oc HG.o.2.2.1,hO.trans oc (λi hi e=>by have:=HG.o.1;omega)⟩;have h:=hS.drew.set n (.int .u64 (v:Int));rw[Wx,h0] at h;exact h
   have i1:(n:Int)<5:=by omega
   clear hS hR hO hQ h2 hx hy h0 h3 h4 hv;go_wp2_with fail;go_region
   all_goals go_wp2
   all_goals go_roundw
   case rel=>exact⟨n+1,by omega,by go_num,N1.o⟩
   case measure=>simp[intOf];omega
  ·obtain rfl:n=5:=by omega
   have S2:Hid (Blk wr G 195 D):=by
    have h:=hS;rw[List.take_of_length_le (by rw[Yn];exact Nat.le_refl _),List.drop_of_length_le (by rw[HS.o.1];exact Nat.le_refl _),List.append_nil,<-HD.o] at h;exact h
   have R2:=Qa hR;have O2:=Qa hO;clear hS hR hO hQ;go_wp2_with (first|(refine wpList_load_row rfl 195 (.tmp 2) rfl G rfl 195 D.toArray (0,0) _ S2.o underlying195 rfl h1.o ?_)|(refine wpList_store_row rfl 195 (.tmp 4) (.tmp 18) rfl R D.toArray rfl rfl 195 Z.toArray R2.o h1.o HZ2.o HA.o ?_));refine bodyPost_ret (v:=.agg D.toArray) (results_cell_row rfl _ _ R 195 D.toArray (0,0) _ rfl (R2.o.row D) underlying195 rfl h1.o) rfl ⟨rfl,?_⟩;exact O2.o.setRow (λh=>absurd h (by have:=HG.o.2.1;omega)) _
theorem Dw (s:List Nat) (hs:s.length=5) (hb:LB 67108864 s) (w:World) :
 Calls prog 156 #[.agg (ul s).toArray] w λe w'=>e=.returned (.agg (ul (lst s)).toArray)∧N0 w w':=by
 have hzv:=(zero_of_info (P:=prog) Tryz.zero34).1;obtain⟨Z,hZ⟩:=EX z5;rw[<-hZ] at hzv;have P5:=Qa (λW=>Xy s [5,0,0,0,0] hs rfl (hb.mono (by decide)) (LB.cons (by decide) (Vk 4 _ (by decide))) W);have lp:LB 9223372036854775808 (pls s [5,0,0,0,0]):=V1 (A:=67108864) (B:=6) hb (LB.cons (by decide) (Vk 4 _ (by decide))) (by decide);have SE:=Qa (λW=>KU (pls s [5,0,0,0,0]) (Yn _ _) lp W);have hcy:=KO (pls s [5,0,0,0,0]) 0 lp (by decide);have EL:Hid (lst s=sdg (s.set 0 (s.getD 0 0+5*scy (pls s [5,0,0,0,0]) 0)) 0):=rfl;obtain⟨c,hc⟩:=EX (scy (pls s [5,0,0,0,0]) 0);obtain⟨E,hE⟩:=EX (ul (sdg (pls s [5,0,0,0,0]) 0))
 have HE:Hid ((prog.info? 195).map (·.size)=some E.toArray.size∧Z.toArray.size=E.toArray.size∧E.toArray.all (·.oneCell')=true):=by
  rw[hE,hZ];exact⟨YE _ (by rw[YG,Yn]),by simp[QN,YG,Yn,Ul],Y1 _⟩
 rw[<-hc,<-hE] at SE;rw[<-hc] at hcy EL;obtain⟨PL,h6⟩:=EX (ul (pls s [5,0,0,0,0]));rw[<-h6] at P5 SE;have hx:=hb 0;have H0:=Qa (ul_at s 0 (by rw[hs];decide));have h2:=Qa (Wx s 0);obtain⟨x,h3⟩:=EX (s.getD 0 0);rw[<-h3] at hx H0 EL;obtain⟨v,hv⟩:=EX (x+5*c);rw[<-hv] at EL
 have hml:IntKind.u64.wrap (5*(c:Int))=5*(c:Int):=by
  rw[show (5*(c:Int))=((5*c:Nat):Int) by omega,wrap64 _ (by omega)]
 have hadd:IntKind.u64.wrap ((x:Int)+5*(c:Int))=(v:Int):=by
  rw[show ((x:Int)+5*(c:Int))=((v:Nat):Int) by omega,wrap64 v (by omega)]
 have SV:=Qa (λW=>KU (s.set 0 v) (by rw[List.length_set,hs]) ((hb.mono (by decide)).set 0 v (by omega)) W);rw[<-EL.o] at SV;obtain⟨D,hD⟩:=EX (ul (lst s))
 have h0:Hid ((prog.info? 195).map (·.size)=some D.toArray.size∧Z.toArray.size=D.toArray.size∧D.toArray.all (·.oneCell')=true):=by
  rw[hD,hZ];exact⟨YE _ (Kx s hs),by simp[QN,Kx s hs,Ul],Y1 _⟩
 rw[<-hD] at SV ⊢;obtain⟨V,hV⟩:=EX (ul (s.set 0 v))
 have HV:Hid ((prog.info? 195).map (·.size)=some V.toArray.size∧V.toArray.size=D.toArray.size):=by
  rw[hV,hD];exact⟨YE _ (by rw[List.length_set,hs]),by simp[QN,Kx s hs,hs]⟩
 rw[<-hV] at SV;obtain⟨d,hd⟩:=EX (scy (s.set 0 v) 0);rw[<-hd] at SV;have h7:=Qa (YE s hs);obtain⟨B,hB⟩:=EX (ul s)
 have HVS:Hid (B.set 0 (.int .u64 (v:Int))=V):=by
  show _=_
  rw[hB,h2.o,hV]
 rw[<-hB] at P5 H0 h7 ⊢
 have KA:Hid (Blk ((w.alloc (.cells B.toArray 195)).alloc (.cells Z.toArray 195)) w.heap.size 195 B∧Blk ((w.alloc (.cells B.toArray 195)).alloc (.cells Z.toArray 195)) (w.heap.size+1) 195 Z∧N0 w ((w.alloc (.cells B.toArray 195)).alloc (.cells Z.toArray 195))):=by
  refine⟨(Blk.new w 195 B).alloc _,?_,((Only.refl _ _).alloc _).alloc _⟩;have:=Blk.new (w.alloc (.cells B.toArray 195)) 195 Z;rw[size_alloc] at this;exact this
 clear hZ hs hb lp hc hE h6 hx h3 hv hD hV hd hB EL h2;go_enter func156,ntmps156;go_wp2_with (first|(refine wpList_load_row rfl 195 (.tmp 1) rfl w.heap.size rfl 195 B.toArray (0,0) _ KA.o.1 underlying195 rfl h7.o ?_)|(refine WB rfl 195 _ rfl (ul [5,0,0,0,0]).toArray (by kernel_rfl) ?_));obtain⟨R,hR⟩:=EX (w.heap.size+1);rw[<-hR] at KA ⊢;obtain⟨G,hG⟩:=EX w.heap.size;have HG:Hid (w.heap.size<=G∧w.heap.size<=R∧R≠G):=⟨by omega,by omega,by omega⟩;rw[<-hG] at KA ⊢;obtain⟨W0,h4⟩:=EX ((w.alloc (.cells B.toArray 195)).alloc (.cells Z.toArray 195));rw[<-h4] at KA ⊢;clear hG hR h4;refine (P5.o W0).mono ?_;rintro e w1 ⟨rfl,o1⟩;have K1:Hid (Blk w1 G 195 B∧Blk w1 R 195 Z∧N0 w w1):=⟨KA.o.1.past o1,KA.o.2.1.past o1,KA.o.2.2.same o1⟩;clear o1 KA P5;go_wp2_with fail;refine (SE.o w1).mono ?_;rintro e w2 ⟨rfl,o2⟩;have K2:Hid (Blk w2 G 195 B∧Blk w2 R 195 Z∧N0 w w2):=⟨K1.o.1.past o2,K1.o.2.1.past o2,K1.o.2.2.same o2⟩;clear o2 K1 SE;obtain⟨W3,h1⟩:=EX ((w2.alloc (.cells Z.toArray 195)).setRow w2.heap.size E.toArray)
 have o3:N0 w2 W3:=by
  rw[h1];exact ((Only.refl _ _).alloc _).setRow (λh=>absurd h (Nat.lt_irrefl _)) _
 have K3:Hid (Blk W3 G 195 B∧Blk W3 R 195 Z∧N0 w W3):=⟨K2.o.1.past o3,K2.o.2.1.past o3,K2.o.2.2.same o3⟩
 have hc3:W3.cell? ⟨G,0,none⟩=some (.int .u64 (x:Int)):=by rw[K3.o.1.cell,H0.o]
 have hf3:=K3.o.1.froz 0
 have K4:Hid (Blk (W3.setCell ⟨G,0,none⟩ (.int .u64 (v:Int))) G 195 V∧Blk (W3.setCell ⟨G,0,none⟩ (.int .u64 (v:Int))) R 195 Z∧N0 w (W3.setCell ⟨G,0,none⟩ (.int .u64 (v:Int)))):=by
  have oc:=(Only.refl (λk=>k=G) W3).setCell (p:=⟨G,0,none⟩) (λ_=>rfl) (.int .u64 (v:Int));refine⟨?_,K3.o.2.1.keep oc HG.o.2.2,K3.o.2.2.trans oc (λi hi e=>by have:=HG.o.1;omega)⟩;have h:=K3.o.1.set 0 (.int .u64 (v:Int));rw[HVS.o] at h;exact h
 clear o3;go_wp2_with (first|(refine wpList_store_row rfl 195 (.tmp 3) (.tmp 10) rfl w2.heap.size E.toArray rfl rfl 195 Z.toArray (Blk.new w2 195 Z) HE.o.1 HE.o.2.1 HE.o.2.2 ?_;rw[<-h1];clear h1)|(refine wpList_load_row rfl 195 (.tmp 1) rfl G rfl 195 V.toArray (0,0) _ K4.o.1 underlying195 rfl HV.o.1 ?_));obtain⟨W4,h5⟩:=EX (W3.setCell ⟨G,0,none⟩ (.int .u64 (v:Int)));rw[<-h5] at K4 ⊢;clear h5 K2 K3;refine (SV.o W4).mono ?_;rintro e w5 ⟨rfl,o5⟩;have S5:=Qa (K4.o.1.past o5);have R5:=Qa (K4.o.2.1.past o5);have O5:=Qa (K4.o.2.2.same o5);have S6:=Qa (S5.o.row D);have R6:Hid (Blk (w5.setRow G D.toArray) R 195 Z):=R5.o.keep ((Only.refl (λk=>k=G) _).setRow (λ_=>rfl) _) HG.o.2.2;clear o5 K4 SV;go_wp2_with (first|(refine wpList_store_row rfl 195 (.tmp 1) (.tmp 21) rfl G D.toArray rfl rfl 195 V.toArray S5.o h0.o.1 HV.o.2 h0.o.2.2 ?_)|(refine wpList_load_row rfl 195 (.tmp 1) rfl G rfl 195 D.toArray (0,0) _ S6.o underlying195 rfl h0.o.1 ?_)|(refine wpList_store_row rfl 195 (.tmp 2) (.tmp 23) rfl R D.toArray rfl rfl 195 Z.toArray R6.o h0.o.1 h0.o.2.1 h0.o.2.2 ?_));refine bodyPost_ret (v:=.agg D.toArray) (results_cell_row rfl _ _ R 195 D.toArray (0,0) _ rfl (R6.o.row D) underlying195 rfl h0.o.1) rfl ⟨rfl,?_⟩;exact (O5.o.setRow (λh=>absurd h (by have:=HG.o.1;omega)) _).setRow (λh=>absurd h (by have:=HG.o.2.1;omega)) _
theorem yJ (s:List Nat) (hs:s.length=5) (hb:LB 9223372036854775808 s) (w:World) :
 Calls prog 230 #[.agg (ul s).toArray] w λe w'=>e=.returned (.agg (ul (crI 3 s)).toArray)∧N0 w w':=by
 have ha:=(zero_of_info (P:=prog) Tryz.zero34).1;obtain⟨Z,hZ⟩:=EX z5;rw[<-hZ] at ha;obtain⟨D,hD⟩:=EX (ul (crI 3 s))
 have h4:Hid ((prog.info? 195).map (·.size)=some D.toArray.size):=by
  show _=_
  rw[hD];simp[QN,KE,hs,Tryz.size34]
 have HZ2:Hid (Z.toArray.size=D.toArray.size):=by
  show _=_
  rw[hD,hZ];simp[QN,KE,hs,Ul]
 have HA:Hid (D.toArray.all (·.oneCell')=true):=by
  show _=_
  rw[hD];exact Y1 _
 rw[<-hD];have HD:=Qa hD;have HS:=Qa (And.intro hs hb);obtain⟨B,hB⟩:=EX (ul s);have HB:=Qa hB;rw[<-hB];clear hZ hD hB hs hb;go_enter func230,ntmps230;go_wp2_with fail
 have S0:Hid (Blk ((w.alloc (.cells B.toArray 195)).alloc (.cells Z.toArray 195)) w.heap.size 195 (ul (crI 0 s))∧Blk ((w.alloc (.cells B.toArray 195)).alloc (.cells Z.toArray 195)) (w.heap.size+1) 195 Z∧N0 w ((w.alloc (.cells B.toArray 195)).alloc (.cells Z.toArray 195))):=by
  refine⟨?_,?_,((Only.refl _ _).alloc _).alloc _⟩
  ·show Blk _ _ _ (ul s)
   rw[<-HB.o];exact (Blk.new w 195 B).alloc _
  ·have:=Blk.new (w.alloc (.cells B.toArray 195)) 195 Z
   rw[size_alloc] at this;exact this
 obtain⟨R,hR⟩:=EX (w.heap.size+1);rw[<-hR] at S0 ⊢;obtain⟨G,hG⟩:=EX w.heap.size;have HG:Hid (w.heap.size<=G∧w.heap.size<=R∧R≠G):=⟨by omega,by omega,by omega⟩;rw[<-hG] at S0 ⊢;obtain⟨W0,h8⟩:=EX ((w.alloc (.cells B.toArray 195)).alloc (.cells Z.toArray 195));rw[<-h8] at S0 ⊢;clear hG hR h8 ha
 go_loopw [4] (λi wr=>∃n:Nat,n<=3∧i=.int .i64 n∧Blk wr G 195 (ul (crI n s))∧Blk wr R 195 Z∧N0 w wr) (λi _=>3 - (intOf i).toNat)
 case atStart=>exact⟨0,by omega,rfl,S0.o⟩
 case round =>
  obtain⟨n,hn,rfl,hS,hR,hO⟩:=hrel;clear S0
  by_cases hlt:n<3
  ·have hl:(crI n s).length=5:=by rw[KE,HS.o.1]
   have h5:=ye n s HS.o.2;have A:=Qa (KU (crI n s) hl h5 wr);have hcy:=KO (crI n s) 0 h5 (by decide);have h7:=U3 (crI n s) 0 0;have EN:Hid (crI (n+1) s=(sdg (crI n s) 0).set 0 ((sdg (crI n s) 0).getD 0 0+5*scy (crI n s) 0)):=rfl;obtain⟨c,hc⟩:=EX (scy (crI n s) 0);obtain⟨d,hd⟩:=EX (sdg (crI n s) 0)
   have h1:d.length=5:=by rw[hd,YG,hl]
   rw[<-hc] at A hcy EN;rw[<-hd] at A h7 EN
   have HN:Hid ((prog.info? 195).map (·.size)=some (ul (crI n s)).toArray.size∧(prog.info? 195).map (·.size)=some (ul d).toArray.size∧(ul (crI n s)).toArray.size=(ul d).toArray.size∧(ul d).toArray.all (·.oneCell')=true) :=
    ⟨YE _ hl,YE _ h1,by simp[QN,hl,h1],Y1 _⟩
   have S1:=Qa hS;have R1:=Qa hR;have O1:=Qa hO;obtain⟨NN,h9⟩:=EX (ul (crI n s));rw[<-h9] at A HN S1;have h3:(ul d)[0]? = some (.int .u64 ((d.getD 0 0:Nat):Int)):=ul_at d 0 (by rw[h1];decide);have h6:=Qa (Wx d 0);obtain⟨x,hx⟩:=EX (d.getD 0 0);rw[<-hx] at h3 h7 EN;obtain⟨DD,he⟩:=EX (ul d);rw[<-he] at A HN h3 h6;obtain⟨v,hv⟩:=EX (x+5*c)
   have hml:IntKind.u64.wrap (5*(c:Int))=5*(c:Int):=by
    rw[show (5*(c:Int))=((5*c:Nat):Int) by omega,wrap64 _ (by omega)]
   have hadd:IntKind.u64.wrap ((x:Int)+5*(c:Int))=(v:Int):=by
    rw[show ((x:Int)+5*(c:Int))=((v:Nat):Int) by omega,wrap64 v (by omega)]
   rw[<-hv] at EN
   have i1:(n:Int)<3:=by omega
   have HX0:=Qa h3;clear hS hR hO hl h5 hc hd h1 h9 hx he hv h3;go_wp2_with (first|(refine wpList_load_row rfl 195 (.tmp 1) rfl G rfl 195 NN.toArray (0,0) _ S1.o underlying195 rfl HN.o.1 ?_));refine A.o.mono ?_;rintro e w1 ⟨rfl,o1⟩;have S2:=Qa (S1.o.past o1);have R2:=Qa (R1.o.past o1);have O2:=Qa (O1.o.same o1);obtain⟨W2,h2⟩:=EX (w1.setRow G DD.toArray)
   have h0:Blk W2 G 195 DD:=by rw[h2];exact S2.o.row DD
   have hc2:W2.cell? ⟨G,0,none⟩=some (.int .u64 (x:Int)):=by rw[h0.cell,HX0.o]
   have hf2:=h0.froz 0
   have N1:Hid (Blk (W2.setCell ⟨G,0,none⟩ (.int .u64 (v:Int))) G 195 (ul (crI (n+1) s))∧Blk (W2.setCell ⟨G,0,none⟩ (.int .u64 (v:Int))) R 195 Z∧N0 w (W2.setCell ⟨G,0,none⟩ (.int .u64 (v:Int)))):=by
    have oc:Only (λk=>k=G) w1 (W2.setCell ⟨G,0,none⟩ (.int .u64 (v:Int))):=by
     rw[h2];exact ((Only.refl (λk=>k=G) w1).setRow (λ_=>rfl) _).setCell (p:=⟨G,0,none⟩) (λ_=>rfl) _
    refine⟨?_,R2.o.keep oc HG.o.2.2,O2.o.trans oc (λi hi e=>by have:=HG.o.1;omega)⟩;have h:=h0.set 0 (.int .u64 (v:Int));rw[h6.o,<-EN.o] at h;exact h
   clear o1 S1 R1 O1 A h0;go_wp2_with (first|(refine wpList_store_row rfl 195 (.tmp 1) (.tmp 9) rfl G DD.toArray rfl rfl 195 NN.toArray S2.o HN.o.2.1 HN.o.2.2.1 HN.o.2.2.2 ?_;rw[<-h2];clear h2))
   go_roundw
   case rel=>exact⟨n+1,by omega,by go_num,N1.o⟩
   case measure=>simp[intOf];omega
  ·obtain rfl:n=3:=by omega
   rw[<-HD.o] at hS;have S2:=Qa hS;have R2:=Qa hR;have O2:=Qa hO;clear hS hR hO;go_wp2_with (first|(refine wpList_load_row rfl 195 (.tmp 1) rfl G rfl 195 D.toArray (0,0) _ S2.o underlying195 rfl h4.o ?_)|(refine wpList_store_row rfl 195 (.tmp 2) (.tmp 18) rfl R D.toArray rfl rfl 195 Z.toArray R2.o h4.o HZ2.o HA.o ?_));refine bodyPost_ret (v:=.agg D.toArray) (results_cell_row rfl _ _ R 195 D.toArray (0,0) _ rfl (R2.o.row D) underlying195 rfl h4.o) rfl ⟨rfl,?_⟩;exact O2.o.setRow (λh=>absurd h (by have:=HG.o.2.1;omega)) _
theorem yN (a r:List Nat) (i j:Nat) (hj:j<5):wdI a r (5*i+(j+1))=(wdI a r (5*i+j)).set (i+j) ((wdI a r (5*i+j)).getD (i+j) 0+a.getD i 0*r.getD j 0):=by
 show wdI a r (5*i+j+1)=_
 rw[wdI,show (5*i+j) / 5=i by omega,show (5*i+j) % 5=j by omega]
theorem IA (a r:List Nat) (ha:a.length=5) (hr:r.length=5) (la:LB 134217728 a) (lr:LB 67108864 r) (w:World) :
 Calls prog 196 #[.agg (ul a).toArray,.agg (ul r).toArray] w λe w'=>e=.returned (.agg (ul (ptms a r)).toArray)∧N0 w w':=by
 have hzv:=(zero_of_info (P:=prog) Tryz.zero34).1;have hg:=(zero_of_info (P:=prog) Tryz.zero53).1;obtain⟨Z,hZ⟩:=EX z5;rw[<-hZ] at hzv;obtain⟨Y,hY⟩:=EX z10;rw[<-hY] at hg;obtain⟨D,hD⟩:=EX (ul (ptms a r))
 have ho:Hid ((prog.info? 195).map (·.size)=some D.toArray.size):=by
  show _=_
  rw[hD];simp[QN,ZP,Tryz.size34]
 have HZ2:Hid (Z.toArray.size=D.toArray.size):=by
  show _=_
  rw[hD,hZ];simp[QN,ZP,Ul]
 have HA:Hid (D.toArray.all (·.oneCell')=true):=by
  show _=_
  rw[hD];exact Y1 _
 rw[<-hD];have HD:=Qa (And.intro hD (And.intro hZ hY));have HS:=Qa (And.intro ha (And.intro hr (And.intro la lr)));have XA:=Qa (ix_u5 a ha);have XR:=Qa (ix_u5 r hr);have h5:=Qa (And.intro (YE a ha) (YE r hr));obtain⟨A,hA⟩:=EX (ul a);obtain⟨B,hB⟩:=EX (ul r);have HB:=Qa (And.intro hA hB);rw[<-hA] at XA h5;rw[<-hB] at XR h5;rw[<-hA,<-hB];clear hZ hY hD hB hA ha hr la lr
 have K0:Hid (Blk ((((w.alloc (.cells A.toArray 195)).alloc (.cells B.toArray 195)).alloc (.cells Z.toArray 195)).alloc (.cells Y.toArray 278)) w.heap.size 195 A∧Blk ((((w.alloc (.cells A.toArray 195)).alloc (.cells B.toArray 195)).alloc (.cells Z.toArray 195)).alloc (.cells Y.toArray 278)) (w.heap.size+1) 195 B∧Blk ((((w.alloc (.cells A.toArray 195)).alloc (.cells B.toArray 195)).alloc (.cells Z.toArray 195)).alloc (.cells Y.toArray 278)) (w.heap.size+1+1) 195 Z∧Blk ((((w.alloc (.cells A.toArray 195)).alloc (.cells B.toArray 195)).alloc (.cells Z.toArray 195)).alloc (.cells Y.toArray 278)) (w.heap.size+1+1+1) 278 (ul (wdI a r (5*0)))∧N0 w ((((w.alloc (.cells A.toArray 195)).alloc (.cells B.toArray 195)).alloc (.cells Z.toArray 195)).alloc (.cells Y.toArray 278))):=by
  refine⟨(((Blk.new w 195 A).alloc _).alloc _).alloc _,?_,?_,?_,((((Only.refl _ _).alloc _).alloc _).alloc _).alloc _⟩
  ·have:=((Blk.new (w.alloc (.cells A.toArray 195)) 195 B).alloc (.cells Z.toArray 195)).alloc (.cells Y.toArray 278)
   rw[size_alloc] at this;exact this
  ·have:=(Blk.new ((w.alloc (.cells A.toArray 195)).alloc (.cells B.toArray 195)) 195 Z).alloc (.cells Y.toArray 278)
   rw[size_alloc,size_alloc] at this;exact this
  ·have:=Blk.new (((w.alloc (.cells A.toArray 195)).alloc (.cells B.toArray 195)).alloc (.cells Z.toArray 195)) 278 Y
   rw[size_alloc,size_alloc,size_alloc] at this;rw[HD.o.2.2] at this ⊢;exact this
 go_enter func196,ntmps196;go_wp2_with (first|(refine wpList_load_row rfl 195 (.tmp 2) rfl w.heap.size rfl 195 A.toArray (0,0) _ K0.o.1 underlying195 rfl h5.o.1 ?_));obtain⟨X,hX⟩:=EX (w.heap.size+1+1+1);rw[<-hX] at K0 ⊢;obtain⟨R,hR⟩:=EX (w.heap.size+1+1);rw[<-hR] at K0 ⊢;obtain⟨H,hH⟩:=EX (w.heap.size+1);rw[<-hH] at K0 ⊢;obtain⟨G,hG⟩:=EX w.heap.size;have HG:Hid (w.heap.size<=X∧w.heap.size<=R∧R≠X∧H≠X):=⟨by omega,by omega,by omega,by omega⟩;rw[<-hG] at K0 ⊢;obtain⟨W0,hb⟩:=EX ((((w.alloc (.cells A.toArray 195)).alloc (.cells B.toArray 195)).alloc (.cells Z.toArray 195)).alloc (.cells Y.toArray 278));rw[<-hb] at K0 ⊢;have K1:=Qa K0.o.2;clear hG hR hb hg hH hX K0
 go_loopw [13] (λi wr=>∃n:Nat,n<=5∧i=.int .i64 n∧Blk wr H 195 B∧Blk wr R 195 Z∧Blk wr X 278 (ul (wdI a r (5*n)))∧N0 w wr) (λi _=>5 - (intOf i).toNat)
 case atStart=>exact⟨0,by omega,rfl,K1.o⟩
 case round =>
  obtain⟨n,hn,rfl,k1,k2,k3,k4⟩:=hrel;clear K1
  by_cases hlt:n<5
  ·have hp:=XA.o n hlt
   have hlx:=HS.o.2.2.1 n;obtain⟨x,hx⟩:=EX (a.getD n 0);rw[<-hx] at hp hlx;have HX:=Qa hx
   have i1:(n:Int)<5:=by omega
   have HK:=Qa (And.intro k1 (And.intro k2 (And.intro k3 k4)));clear hx k1 k2 k3 k4;go_wp2_with (first|(refine wpList_load_row rfl 195 (.tmp 3) rfl H rfl 195 B.toArray (0,0) _ HK.o.1 underlying195 rfl h5.o.2 ?_))
   go_loopw [18] (λi wr=>∃j:Nat,j<=5∧i=.int .i64 j∧Blk wr H 195 B∧Blk wr R 195 Z∧Blk wr X 278 (ul (wdI a r (5*n+j)))∧N0 w wr) (λi _=>5 - (intOf i).toNat)
   case atStart=>exact⟨0,by omega,rfl,HK.o⟩
   case round =>
    obtain⟨j,hj,rfl,k1,k2,k3,k4⟩:=hrel;clear HK hp
    by_cases hlj:j<5
    ·have hjx:=XR.o j hlj
     have hu:=HS.o.2.2.2 j;have hm:=Ju a r HS.o.2.2.1 HS.o.2.2.2 (5*n+j) (n+j);have h0:=yN a r n j hlj
     have hc:wr.cell? ⟨X,n+j,none⟩=some (.int .u64 (((wdI a r (5*n+j)).getD (n+j) 0:Nat):Int)):=by
      rw[k3.cell,ul_at _ _ (by rw[Vz];omega)]
     have hf:=k3.froz (n+j);obtain⟨y,hy⟩:=EX (r.getD j 0);obtain⟨z,hz⟩:=EX ((wdI a r (5*n+j)).getD (n+j) 0);rw[<-hy] at hjx hu h0;rw[<-hz] at hm h0 hc;rw[<-HX.o] at h0;have hq:x*y<=134217728*67108864:=Nat.mul_le_mul (by omega) (by omega);obtain⟨t,ht⟩:=EX (x*y);rw[<-ht] at hq h0
     have hs:(x:Int)*(y:Int)=(t:Int):=by rw[ht];simp
     have hml:IntKind.u64.wrap ((x:Int)*(y:Int))=(t:Int):=by rw[hs,wrap64 t (by omega)]
     obtain⟨v,hv⟩:=EX (z+t);rw[<-hv] at h0
     have h6:IntKind.u64.wrap ((z:Int)+(t:Int))=(v:Int):=by
      rw[show ((z:Int)+(t:Int))=((v:Nat):Int) by omega,wrap64 v (by omega)]
     have N1:Hid (Blk (wr.setCell ⟨X,n+j,none⟩ (.int .u64 (v:Int))) H 195 B∧Blk (wr.setCell ⟨X,n+j,none⟩ (.int .u64 (v:Int))) R 195 Z∧Blk (wr.setCell ⟨X,n+j,none⟩ (.int .u64 (v:Int))) X 278 (ul (wdI a r (5*n+(j+1))))∧N0 w (wr.setCell ⟨X,n+j,none⟩ (.int .u64 (v:Int)))):=by
      have oc:=(Only.refl (λk=>k=X) wr).setCell (p:=⟨X,n+j,none⟩) (λ_=>rfl) (.int .u64 (v:Int));refine⟨k1.keep oc HG.o.2.2.2,k2.keep oc HG.o.2.2.1,?_,k4.trans oc (λi hi e=>by have:=HG.o.1;omega)⟩;have h:=k3.set (n+j) (.int .u64 (v:Int));rw[Wx,<-h0] at h;exact h
     have i2:(j:Int)<5:=by omega
     have h8:IntKind.i64.wrap ((n:Int)+(j:Int))=((n+j:Nat):Int):=by rw[IntKind.wrap_i64];omega
     clear k1 k2 k3 k4 hm h0 hu hy hz hq ht hs hv;go_wp2
     go_roundw
     case rel=>exact⟨j+1,by omega,by go_num,N1.o⟩
     case measure=>simp[intOf];omega
    ·obtain rfl:j=5:=by omega
     have N2:=Qa (And.intro k1 (And.intro k2 (And.intro k3 k4)));clear k1 k2 k3 k4;go_wp2
     go_roundw
     case rel=>exact⟨n+1,by omega,by go_num,N2.o⟩
     case measure=>simp[intOf];omega
  ·obtain rfl:n=5:=by omega
   have HK:=Qa (And.intro k2 (And.intro k3 k4));obtain⟨T,hT⟩:=EX (otr (wdI a r 25))
   have HT:Hid (T.length=5∧(∀i,i<5->T.getD i 0=(wdI a r 25).getD i 0+5*(wdI a r 25).getD (i+5) 0)∧LB 9223372036854775808 T∧crI 3 T=ptms a r):=by
    rw[hT];exact⟨WQ _,Wk _,Hh a r HS.o.2.2.1 HS.o.2.2.2,rfl⟩
   have HW:=Qa (Ju a r HS.o.2.2.1 HS.o.2.2.2 25);have h7:=Qa (Vz a r 25);obtain⟨V,hV⟩:=EX (wdI a r 25);rw[show 5*5=25 from rfl,<-hV] at HK;rw[<-hV] at HT HW h7;clear k1 k2 k3 k4 hT hV;go_wp2
   have K2:Hid (Blk (wr.alloc (.cells Z.toArray 195)) R 195 Z∧Blk (wr.alloc (.cells Z.toArray 195)) X 278 (ul V)∧Blk (wr.alloc (.cells Z.toArray 195)) wr.heap.size 195 (ul (T.take 0++(List.replicate 5 0).drop 0))∧N0 w (wr.alloc (.cells Z.toArray 195))):=by
    refine⟨HK.o.1.alloc _,HK.o.2.1.alloc _,?_,HK.o.2.2.alloc _⟩;have:=Blk.new wr 195 Z;rw[HD.o.2.1] at this ⊢;exact this
   have HR:Hid (w.heap.size<=wr.heap.size∧R≠wr.heap.size∧X≠wr.heap.size):=by
    have h1:=HK.o.2.2.size;have h2:=HK.o.1.lt;have h3:=HK.o.2.1.lt;exact⟨h1,by omega,by omega⟩
   obtain⟨Q,hQ⟩:=EX wr.heap.size;rw[<-hQ] at K2 HR ⊢;obtain⟨W2,he⟩:=EX (wr.alloc (.cells Z.toArray 195));rw[<-he] at K2 ⊢;clear hQ he HK
   go_loopw [34] (λi wr=>∃n:Nat,n<=5∧i=.int .i64 n∧Blk wr R 195 Z∧Blk wr X 278 (ul V)∧Blk wr Q 195 (ul (T.take n++(List.replicate 5 0).drop n))∧N0 w wr) (λi _=>5 - (intOf i).toNat)
   case atStart=>exact⟨0,by omega,rfl,K2.o⟩
   case round =>
    obtain⟨n,hn,rfl,k1,k2,k3,k4⟩:=hrel;clear K2
    by_cases hlt:n<5
    ·have hh:=Gi T (List.replicate 5 0) n 5 HT.o.1 (by simp) hn
     have hc1:wr.cell? ⟨X,n,none⟩=some (.int .u64 ((V.getD n 0:Nat):Int)):=by
      rw[k2.cell,ul_at _ _ (by rw[h7.o];omega)]
     have hc2:wr.cell? ⟨X,n+5,none⟩=some (.int .u64 ((V.getD (n+5) 0:Nat):Int)):=by
      rw[k2.cell,ul_at _ _ (by rw[h7.o];omega)]
     have hc3:wr.cell? ⟨Q,n,none⟩=some (.int .u64 (((T.take n++(List.replicate 5 0).drop n).getD n 0:Nat):Int)):=by
      rw[k3.cell,ul_at _ _ (by rw[hh];exact hlt)]
     have hf:=k3.froz n;have h4:=Hu T (List.replicate 5 0) n (by simpa using hlt) (by rw[HT.o.1];exact hlt);rw[HT.o.2.1 n hlt] at h4;have hx:=HW.o n;have hy:=HW.o (n+5);obtain⟨x,hk⟩:=EX (V.getD n 0);obtain⟨y,h9⟩:=EX (V.getD (n+5) 0);obtain⟨z,hl⟩:=EX ((T.take n++(List.replicate 5 0).drop n).getD n 0);rw[<-hk] at hc1 h4 hx;rw[<-h9] at hc2 h4 hy;rw[<-hl] at hc3;obtain⟨v,hv⟩:=EX (x+5*y);rw[<-hv] at h4
     have hml:IntKind.u64.wrap (5*(y:Int))=5*(y:Int):=by
      rw[show (5*(y:Int))=((5*y:Nat):Int) by omega,wrap64 _ (by omega)]
     have h6:IntKind.u64.wrap ((x:Int)+5*(y:Int))=(v:Int):=by
      rw[show ((x:Int)+5*(y:Int))=((v:Nat):Int) by omega,wrap64 v (by omega)]
     have N1:Hid (Blk (wr.drew.setCell ⟨Q,n,none⟩ (.int .u64 (v:Int))) R 195 Z∧Blk (wr.drew.setCell ⟨Q,n,none⟩ (.int .u64 (v:Int))) X 278 (ul V)∧Blk (wr.drew.setCell ⟨Q,n,none⟩ (.int .u64 (v:Int))) Q 195 (ul (T.take (n+1)++(List.replicate 5 0).drop (n+1)))∧N0 w (wr.drew.setCell ⟨Q,n,none⟩ (.int .u64 (v:Int)))):=by
      have oc:=((Only.refl (λk=>k=Q) wr).drew).setCell (p:=⟨Q,n,none⟩) (λ_=>rfl) (.int .u64 (v:Int));refine⟨k1.keep oc HR.o.2.1,k2.keep oc HR.o.2.2,?_,k4.trans oc (λi hi e=>by have:=HR.o.1;omega)⟩;have h:=k3.drew.set n (.int .u64 (v:Int));rw[Wx,h4] at h;exact h
     have i1:(n:Int)<5:=by omega
     have h8:IntKind.i64.wrap ((n:Int)+5)=((n+5:Nat):Int):=by rw[IntKind.wrap_i64];omega
     have hXQ:¬X=Q:=HR.o.2.2;clear k1 k2 k3 k4 hh h4 hx hy hk h9 hl hv;go_wp2_with fail;go_region
     all_goals go_wp2
     all_goals go_roundw
     case rel=>exact⟨n+1,by omega,by go_num,N1.o⟩
     case measure=>simp[intOf];omega
    ·obtain rfl:n=5:=by omega
     have CA:=Qa (yJ T HT.o.1 HT.o.2.2.1 wr);rw[HT.o.2.2.2,<-HD.o.1] at CA;have HN:=Qa (YE T HT.o.1)
     have S2:Hid (Blk wr Q 195 (ul T)):=by
      have h:=k3;rw[List.take_of_length_le (by rw[HT.o.1];exact Nat.le_refl _),List.drop_of_length_le (by simp),List.append_nil] at h;exact h
     have R1:=Qa k1;have O1:=Qa k4;obtain⟨TT,hd⟩:=EX (ul T);rw[<-hd] at CA HN S2;clear k1 k2 k3 k4 hd;go_wp2_with (first|(refine wpList_load_row rfl 195 (.tmp 10) rfl Q rfl 195 TT.toArray (0,0) _ S2.o underlying195 rfl HN.o ?_));refine CA.o.mono ?_;rintro e w1 ⟨rfl,o1⟩;have R2:=Qa (R1.o.past o1);have O2:=Qa (O1.o.same o1);clear o1 S2 R1 O1 CA;go_wp2_with (first|(refine wpList_store_row rfl 195 (.tmp 4) (.tmp 50) rfl R D.toArray rfl rfl 195 Z.toArray R2.o ho.o HZ2.o HA.o ?_));refine bodyPost_ret (v:=.agg D.toArray) (results_cell_row rfl _ _ R 195 D.toArray (0,0) _ rfl (R2.o.row D) underlying195 rfl ho.o) rfl ⟨rfl,?_⟩;exact O2.o.setRow (λh=>absurd h (by have:=HG.o.2.1;omega)) _
theorem ZV (v:Value) (xs:LI) (hl:xs.length<=17) (h8:U8 xs) (w:World) (hb:Bs .u8 w v xs) :
 Calls prog 153 #[v] w λe w'=>e=.returned (.agg (ul (nmb xs)).toArray)∧N0 w w':=by
 have he:=(zero_of_info (P:=prog) Tryz.zero34).1;obtain⟨Z,hZ⟩:=EX z5;rw[<-hZ] at he;obtain⟨D,hD⟩:=EX (ul (nmb xs))
 have h0:Hid ((prog.info? 195).map (·.size)=some D.toArray.size):=by
  show _=_
  rw[hD];simp[QN,Uo,Tryz.size34]
 have HZ2:Hid (Z.toArray.size=D.toArray.size):=by
  show _=_
  rw[hD,hZ];simp[QN,Uo,Ul]
 have HA:Hid (D.toArray.all (·.oneCell')=true):=by
  show _=_
  rw[hD];exact Y1 _
 rw[<-hD];have HD:=Qa (And.intro hD hZ);obtain⟨ao,cap,rfl⟩:=hb.len
 have h3:Hid (∀j,j<xs.length->∃b off,ao=some ⟨b,off,none⟩∧w.cell? ⟨b,off+j,none⟩=some (.int .u8 (xs.getD j 0))):=λj hj=>by
  obtain⟨b',h4,cap',e,hc⟩:=hb.at j hj;simp at e;exact⟨b',h4,e.1,hc⟩
 have H8:=Qa (And.intro h8 hl);obtain⟨m,hm⟩:=EX xs.length;have HM:=Qa hm;rw[<-hm] at hl h3 ⊢;clear hZ hD hb h8 hm;go_enter func153,ntmps153;go_wp2_with fail
 have S0:Hid (Blk ((w.alloc (.cells Z.toArray 195)).alloc (.cells Z.toArray 195)) w.heap.size 195 Z∧Blk ((w.alloc (.cells Z.toArray 195)).alloc (.cells Z.toArray 195)) (w.heap.size+1) 195 (ul (rawI xs 0))∧N0 w ((w.alloc (.cells Z.toArray 195)).alloc (.cells Z.toArray 195))):=by
  refine⟨(Blk.new w 195 Z).alloc _,?_,((Only.refl _ _).alloc _).alloc _⟩;have:=Blk.new (w.alloc (.cells Z.toArray 195)) 195 Z;rw[size_alloc,HD.o.2] at this;rw[HD.o.2];exact this
 obtain⟨G,hG⟩:=EX (w.heap.size+1);rw[<-hG] at S0 ⊢;obtain⟨R,hR⟩:=EX w.heap.size;have HG:Hid (w.heap.size<=G∧w.heap.size<=R∧R≠G):=⟨by omega,by omega,by omega⟩;rw[<-hR] at S0 ⊢;obtain⟨W0,h6⟩:=EX ((w.alloc (.cells Z.toArray 195)).alloc (.cells Z.toArray 195));rw[<-h6] at S0 ⊢;clear hG hR h6 he
 go_loopw [9] (λi wr=>∃n:Nat,n<=m∧i=.int .i64 n∧Blk wr R 195 Z∧Blk wr G 195 (ul (rawI xs n))∧N0 w wr) (λi _=>m - (intOf i).toNat)
 case atStart=>exact⟨0,by omega,rfl,S0.o⟩
 case round =>
  obtain⟨n,hn,rfl,hR,hS,hO⟩:=hrel;clear S0
  by_cases hlt:n<m
  ·obtain⟨b,off,rfl,h1⟩:=h3.o n hlt
   have hcb:wr.cell? ⟨b,off+n,none⟩=some (.int .u8 (xs.getD n 0)):=by
    rw[World.cell?_of_block (hO.block b (World.block_lt_of_cell? w _ h1) (λf=>f))];exact h1
   obtain⟨y,hy⟩:=Int.eq_ofNat_of_zero_le (H8.o.1.at n).1;have hy2:=(H8.o.1.at n).2;rw[hy] at hcb hy2;obtain⟨q,hq⟩:=EX (8*n / 26);obtain⟨r,hr⟩:=EX (8*n % 26)
   have hq5:q<5:=by omega
   have hc:wr.cell? ⟨G,q,none⟩=some (.int .u64 (((rawI xs n).getD q 0:Nat):Int)):=by
    rw[hS.cell,ul_at _ _ (by rw[Wi];exact hq5)]
   have hd:=Lj xs H8.o.1 n q;have hf:=hS.froz q;obtain⟨x,hx⟩:=EX ((rawI xs n).getD q 0);rw[<-hx] at hc hd;have h7:2^r<=2^25:=Nat.pow_le_pow_right (by decide) (by omega);obtain⟨t,ht⟩:=EX (y*2^r)
   have htl:t<=255*33554432:=by rw[ht];exact Nat.mul_le_mul (by omega) h7
   have h5:(y:Int)*2^r=(t:Int):=by rw[ht];simp
   have s1:IntKind.u64.wrap ((y:Int)*2^r)=(t:Int):=by rw[h5,wrap64 t (by omega)]
   have s2:((y:Int)*2^r) % 18446744073709551616=(t:Int):=by rw[h5];omega
   obtain⟨v,hv⟩:=EX (x+t)
   have hadd:IntKind.u64.wrap ((x:Int)+(t:Int))=(v:Int):=by
    rw[show ((x:Int)+(t:Int))=((v:Nat):Int) by omega,wrap64 v (by omega)]
   have ha:(rawI xs n).set q v=rawI xs (n+1):=by
    rw[rawI,<-hq,<-hr,<-hx,hy,hv,ht];rfl
   have N1:Hid (Blk (wr.drew.setCell ⟨G,q,none⟩ (.int .u64 (v:Int))) R 195 Z∧Blk (wr.drew.setCell ⟨G,q,none⟩ (.int .u64 (v:Int))) G 195 (ul (rawI xs (n+1)))∧N0 w (wr.drew.setCell ⟨G,q,none⟩ (.int .u64 (v:Int)))):=by
    have oc:=((Only.refl (λk=>k=G) wr).drew).setCell (p:=⟨G,q,none⟩) (λ_=>rfl) (.int .u64 (v:Int));refine⟨hR.keep oc HG.o.2.2,?_,hO.trans oc (λi hi e=>by have:=HG.o.1;omega)⟩;have h:=hS.drew.set q (.int .u64 (v:Int));rw[Wx,ha] at h;exact h
   have h2:IntKind.i64.wrap ((n:Int)*8)=((8*n:Nat):Int):=by rw[IntKind.wrap_i64];omega
   have hm2:(n:Int)*8=((8*n:Nat):Int):=by omega
   obtain⟨p,hp⟩:=EX (8*n);rw[<-hp] at h2 hm2 hq hr
   have hdv:(p:Int).tdiv 26=(q:Int):=by rw[Int.tdiv_eq_ediv_of_nonneg (by omega)];omega
   have hdv2:(p:Int) / 26=(q:Int):=by omega
   have hmd:(p:Int).tmod 26=(r:Int):=by rw[Int.tmod_eq_emod_of_nonneg (by omega)];omega
   have hmd2:(p:Int) % 26=(r:Int):=by omega
   have hq6:(q:Int)<5:=by omega
   have hr6:(r:Int)<=64:=by omega
   have i1:(n:Int)<m:=by omega
   clear hS hR hO h1 hy hd hx h7 ht htl h5 hv ha hq hr hp h3;go_wp2_with fail;go_region
   all_goals go_wp2
   all_goals go_roundw
   case rel=>exact⟨n+1,by omega,by go_num,N1.o⟩
   case measure=>simp[intOf];omega
  ·obtain rfl:n=m:=by omega
   have A:=Qa (KU (rawI xs n) (Wi _ _) ((Lj xs H8.o.1 n).mono (by have:=H8.o.2;have:=HM.o;omega)) wr)
   have HN:Hid ((prog.info? 195).map (·.size)=some (ul (rawI xs n)).toArray.size∧(ul (rawI xs n)).toArray.size=D.toArray.size):=by
    refine⟨YE _ (Wi _ _),?_⟩;rw[HD.o.1];simp[QN,Wi,Uo]
   have S1:=Qa hS;have R1:=Qa hR;have O1:=Qa hO
   have ED:ul (sdg (rawI xs n) 0)=D:=by rw[HD.o.1,nmb,HM.o]
   rw[ED] at A;obtain⟨NN,h9⟩:=EX (ul (rawI xs n));rw[<-h9] at A HN S1;clear hS hR hO ED h9;go_wp2_with (first|(refine wpList_load_row rfl 195 (.tmp 3) rfl G rfl 195 NN.toArray (0,0) _ S1.o underlying195 rfl HN.o.1 ?_));refine A.o.mono ?_;rintro e w1 ⟨rfl,o1⟩;have S2:=Qa (S1.o.past o1);have R2:=Qa (R1.o.past o1);have O2:=Qa (O1.o.same o1);have S3:=Qa (S2.o.row D);have R3:Hid (Blk (w1.setRow G D.toArray) R 195 Z):=R2.o.keep ((Only.refl (λk=>k=G) _).setRow (λ_=>rfl) _) HG.o.2.2;clear o1 S1 R1 O1 A;go_wp2_with (first|(refine wpList_store_row rfl 195 (.tmp 3) (.tmp 31) rfl G D.toArray rfl rfl 195 NN.toArray S2.o h0.o HN.o.2 HA.o ?_)|(refine wpList_load_row rfl 195 (.tmp 3) rfl G rfl 195 D.toArray (0,0) _ S3.o underlying195 rfl h0.o ?_)|(refine wpList_store_row rfl 195 (.tmp 2) (.tmp 33) rfl R D.toArray rfl rfl 195 Z.toArray R3.o h0.o HZ2.o HA.o ?_));refine bodyPost_ret (v:=.agg D.toArray) (results_cell_row rfl _ _ R 195 D.toArray (0,0) _ rfl (R3.o.row D) underlying195 rfl h0.o) rfl ⟨rfl,?_⟩;exact (O2.o.setRow (λh=>absurd h (by have:=HG.o.1;omega)) _).setRow (λh=>absurd h (by have:=HG.o.2.1;omega)) _
end Go.Proofs.YtiochaeeoelmjaaGreatDoor
