import Derived.Test.YtoflhbghdlaeaaaGreatDoorG25
namespace Go.Proofs.YtoflhbghdlaeaaaGreatDoor
set_option maxHeartbeats 1600000
set_option maxRecDepth 100000
open Go.RowKit _root_.Go.Proofs.Tryz
theorem wD (n x:Nat):leB (n+1) x=leB n x++[((x / 256^n % 256:Nat):Int)]:=by
 induction n generalizing x with
 | zero=>simp[leB]
 | succ n ih =>
  show ((x % 256:Nat):Int) :: leB (n+1) (x / 256)=((x % 256:Nat):Int) :: leB n (x / 256)++_
  rw[ih,Nat.div_div_eq_div_mul,Nat.pow_succ,Nat.mul_comm (256^n) 256];rfl
theorem Ez (a y m:Nat) (ha:a<2^m):a ||| y*2^m=a+y*2^m:=by
 have:=Nat.two_pow_add_eq_or_of_lt ha y;rw[Nat.or_comm,Nat.mul_comm y,<-this,Nat.add_comm]
theorem pow26 (n k h:Nat) (e:26*n=8*k+h):67108864^n=256^k*2^h:=by
 rw[show (67108864:Nat)=2^26 from rfl,show (256:Nat)=2^8 from rfl,<-Nat.pow_mul,<-Nat.pow_mul,<-Nat.pow_add,e]
theorem Iw (s:List Nat) (hs:s.length=5) (hb:LB 67108864 s) (n k h:Nat) (hn:n<5) (e:26*n=8*k+h) :
 LV (s.take n) / 256^k<2^h∧LV (s.take n) / 256^k+s.getD n 0*2^h=LV (s.take (n+1)) / 256^k:=by
 have h1:=LV_lt (s.take n) (hb.take (by decide) n);rw[Qf,Nat.min_eq_left (by omega),pow26 n k h e] at h1;have h2:=JQ s n (by omega);rw[pow26 n k h e] at h2;have hp:0<256^k:=Nat.pow_pos (by decide);refine⟨Nat.div_lt_of_lt_mul h1,?_⟩;rw[h2,Nat.mul_assoc,Nat.add_mul_div_left _ _ hp,Nat.mul_comm (2^h)]
theorem AX (s:List Nat) (m j:Nat) (hm:m<=s.length) (e:8*(j+1)<=26*m):LV (s.take m) / 256^j % 256=LV s / 256^j % 256:=by
 have h:=JW (s.take m) (s.drop m);rw[List.take_append_drop,Qf,Nat.min_eq_left hm,pow26 m j (26*m - 8*j) (by omega)] at h;have hp:0<256^j:=Nat.pow_pos (by decide);rw[h,Nat.mul_assoc,Nat.add_mul_div_left _ _ hp,show 26*m - 8*j=(26*m - 8*j - 8)+8 by omega,Nat.pow_add,show (2:Nat)^8=256 from rfl,Nat.mul_comm _ 256,Nat.mul_assoc,Nat.add_mul_mod_self_left]
theorem Da (x j:Nat):x / 256^j / 256=x / 256^(j+1):=by rw[Nat.div_div_eq_div_mul,Nat.pow_succ]
theorem DR (n x:Nat):bl (leB (n+1) x)=bl (leB n x)++[.int .u8 ((x / 256^n % 256:Nat):Int)]:=by
 rw[wD];simp[bl]
theorem Ss (s:List Nat) (hs:s.length=5) (hb:LB 67108864 s) (w:World) :
 Calls prog 170 #[.agg (ul s).toArray] w λe w'=>∃v,e=.returned v∧w'.ownsRow w.heap.size 5 1 v 16 (bl (leB 16 (LV s)))∧N0 w w':=by
 obtain⟨i0,hi,hz0,hz1,hz2⟩:=info_parts Tryz.infoU8;have XA:=Qa (ix_u5 s hs);have hw:=Qa (YJ s hs);obtain⟨B,hB⟩:=EX (ul s);rw[<-hB] at XA hw ⊢;have HS:=Qa (And.intro hs hb)
 have hmk:∀w,(Instr.makeSlice 23 (.int .i64 0) (.int .i64 16)).run prog w=.ok (.slice (some ⟨w.heap.size,0,none⟩) 0 16) (w.alloc (.cells (bl (List.replicate 16 0)).toArray 5)):=λ_=>by kernel_rfl
 obtain⟨Y,hY⟩:=EX (bl (List.replicate 16 0))
 have hf:Y.toArray.size=16:=by rw[hY];simp[Qs]
 rw[<-hY] at hmk
 have h1:Hid (((w.alloc (.cells B.toArray 213)).alloc (.cells Y.toArray 5)).ownsRow w.heap.size 5 1 (.slice (some ⟨w.heap.size+1,0,none⟩) 0 16) 0 []∧N0 w ((w.alloc (.cells B.toArray 213)).alloc (.cells Y.toArray 5))):=by
  have h:=World.ownsRow_made (base:=w.heap.size) (e:=5) (size:=1) (w.alloc (.cells B.toArray 213)) Y.toArray 16 (by rw[size_alloc];omega) (by unfold maxLen;omega) (by rw[hf]);rw[size_alloc] at h;exact⟨h,((Only.refl _ _).alloc _).alloc _⟩
 have hz:Hid (Blk ((w.alloc (.cells B.toArray 213)).alloc (.cells Y.toArray 5)) w.heap.size 213 B):=(Blk.new w 213 B).alloc _;clear hB hs hb hY hf;go_enter func170,ntmps170;go_wp2_with (first|(refine wpList_load_row rfl 213 (.tmp 1) rfl w.heap.size rfl 213 B.toArray (0,0) _ hz.o underlying213 rfl hw.o ?_));obtain⟨W0,hv⟩:=EX ((w.alloc (.cells B.toArray 213)).alloc (.cells Y.toArray 5));rw[<-hv] at h1 ⊢;clear hv hz
 go_loopw [3,4,5,10] (λo h b i wr=>∃n:Nat,n<=5∧i=.int .i64 n∧b=.int .i64 (26*n % 8:Nat)∧h=.int .u64 (LV (s.take n) / 256^(26*n / 8):Nat)∧wr.ownsRow w.heap.size 5 1 o (26*n / 8) (bl (leB (26*n / 8) (LV s)))∧N0 w wr) (λ_ _ _ i _=>5 - (intOf i).toNat)
 case atStart=>exact⟨0,by omega,rfl,rfl,by simp[LV],h1.o⟩
 case round =>
  obtain⟨n,hn,rfl,rfl,rfl,h0,h2⟩:=hrel;clear h1
  by_cases hlt:n<5
  ·have ha:=XA.o n hlt
   have hx:=HS.o.2 n;obtain⟨k,hk⟩:=EX (26*n / 8);obtain⟨h,hh⟩:=EX (26*n % 8)
   have he:26*n=8*k+h:=by omega
   have h4:=Iw s HS.o.1 HS.o.2 n k h hlt he
   have hm:n+1<=s.length:=by rw[HS.o.1];exact hlt
   rw[<-hk] at h0 ⊢;rw[<-hh];obtain⟨x,ho⟩:=EX (s.getD n 0);rw[<-ho] at ha hx h4;obtain⟨T,hT⟩:=EX (LV (s.take (n+1)));have HT:Hid (T=LV (s.take (n+1))∧∀j,8*(j+1)<=26*(n+1)->T / 256^j % 256=LV s / 256^j % 256):=⟨hT,λj hj=>by rw[hT];exact AX s (n+1) j hm hj⟩;rw[<-hT] at h4;obtain⟨q,hq⟩:=EX (LV (s.take n) / 256^k);rw[<-hq] at h4 ⊢
   have hh7:h<=7:=by omega
   have hr:2^h<=2^7:=Nat.pow_le_pow_right (by decide) hh7;obtain⟨t,ht⟩:=EX (x*2^h)
   have htl:t<=67108864*128:=by rw[ht];exact Nat.mul_le_mul (by omega) hr
   have h8:(x:Int)*2^h=(t:Int):=by rw[ht];simp
   have s1:IntKind.u64.wrap ((x:Int)*2^h)=(t:Int):=by rw[h8,wrap64 t (by omega)]
   have s2:((x:Int)*2^h) % 18446744073709551616=(t:Int):=by rw[h8];omega
   obtain⟨p,hp⟩:=EX (T / 256^k)
   have hor:bits .or .u64 (q:Int) (t:Int)=(p:Int):=by
    rw[u64_or_nat _ _ (by omega) (by omega),ht,Ez _ _ _ h4.1,hp,h4.2]
   have hr6:(h:Int)<=64:=by omega
   have HP:=Qa (And.intro hp (And.intro hk he));have HO:=Qa (And.intro h0 h2)
   have i1:(n:Int)<5:=by omega
   have h7:IntKind.i64.wrap ((h:Int)+26)=((h+26:Nat):Int):=by rw[IntKind.wrap_i64];omega
   clear hx ho h4 hT hq hr ht htl h8 hp h0 h2 hk hh he hm;go_wp2
   go_loopw [3,4,5] (λo hd b wr=>∃j d:Nat,8*j+d=26*(n+1)∧b=.int .i64 (d:Nat)∧hd=.int .u64 (T / 256^j:Nat)∧wr.ownsRow w.heap.size 5 1 o j (bl (leB j (LV s)))∧N0 w wr) (λ_ _ b _=>(intOf b).toNat)
   case atStart =>
    have h3:=HP.o.2.2;exact⟨k,h+26,by omega,by rfl,by rw[HP.o.1],HO.o⟩
   case round =>
    obtain⟨j,d,hjd,rfl,rfl,h0,h2⟩:=hrel;clear HO ha s1 s2 hor h7
    by_cases hd8:8<=d
    ·have hl:=HT.o.2 j (by omega)
     have h9:=Da T j;have h5:=DR j (LV s);rw[<-hl] at h5
     have hjj:j<=16:=by omega
     obtain⟨y,hy⟩:=EX (T / 256^j);rw[<-hy] at h9 h5 ⊢;have HE:=Qa (And.intro h5 h9)
     have i2:(8:Int)<=(d:Int):=by omega
     have hsub:IntKind.i64.wrap ((d:Int) - 8)=((d - 8:Nat):Int):=by rw[IntKind.wrap_i64];omega
     have hsz:=h2.size;clear hl h9 h5 hy;go_wp2_with (at_builtin;refine wpList_append_lies _ rfl _ _ _ rfl w.heap.size 5 i0 (.int .u8 0) 1 1 underlying23 hi hz0 hz1 hz2 rfl (by omega) _ j (bl (leB j (LV s))) rfl (h0.alloc _) ⟨wr.heap.size,0,none⟩ 1 1 [.int .u8 ((y:Int) % 256)] rfl rfl ?c1 ?c2 (by omega) ?c3 ?c4 ?c5 (wr.heap.size+1) (by simp) ?_)
     case c1=>exact cell_one_new _ _ _
     case c2=>intro u hu;simp at hu;subst hu;rfl
     case c3=>unfold maxLen;omega
     case c4=>omega
     case c5=>simp;omega
     intro g cap1 w1 hown1 hgrow hat hg1
     have N1:Hid (w1.ownsRow w.heap.size 5 1 (.slice (some ⟨g,0,none⟩) (j+1) cap1) (j+1) (bl (leB (j+1) (LV s)))∧N0 w w1):=by
      refine⟨?_,(h2.alloc _).grown hgrow (λq hq e=>by have:=(h0.lt q e).1;omega)⟩;rw[HE.o.1];exact hown1
     clear h0 hown1 hgrow hat h2;go_wp2
     go_roundw
     case rel=>exact⟨j+1,d - 8,by omega,by go_num,by rw[<-HE.o.2];go_num,N1.o⟩
     case measure=>simp[intOf];omega
    ·have h6:26*(n+1) / 8=j∧26*(n+1) % 8=d:=by omega
     have N2:Hid (wr.ownsRow w.heap.size 5 1 u3 (26*(n+1) / 8) (bl (leB (26*(n+1) / 8) (LV s)))∧N0 w wr):=by
      rw[h6.1];exact⟨h0,h2⟩
     have hg:=Qa h6
     have i2:¬(8:Int)<=(d:Int):=by omega
     clear h0 h2 h6;go_wp2
     go_roundw
     case rel=>exact⟨n+1,by omega,by go_num,by rw[hg.o.2],by rw[hg.o.1,HT.o.1],N2.o⟩
     case measure=>simp[intOf];omega
  ·obtain rfl:n=5:=by omega
   have F1:=Qa (And.intro h0 h2);clear h0 h2;go_wp2;go_ret;exact⟨_,rfl,F1.o⟩
theorem Lu (T s:List Nat) (i:Nat) (hi:i<s.length) (hT:i<T.length):(T.take i++s.drop i).set i (T.getD i 0)=T.take (i+1)++s.drop (i+1):=by
 have hl:(T.take i).length=i:=by rw[Qf];omega
 rw[VJ T i hT,List.set_append_right _ _ (by omega),hl,Nat.sub_self,List.drop_eq_getElem_cons hi,Qj,List.append_assoc]
 rfl
theorem Fx (T s:List Nat) (i:Nat) (hT:i<T.length):(T.take i++s.drop i).getD i 0=s.getD i 0:=by
 have hl:(T.take i).length=i:=by rw[Qf];omega
 simp only[Qd];rw[List.getElem?_append_right (by omega),hl,Nat.sub_self,List.getElem?_drop,Nat.add_zero]
theorem RZ (T s:List Nat) (i n:Nat) (hT:T.length=n) (hs:s.length=n) (hi:i<=n):(T.take i++s.drop i).length=n:=by
 rw[Qc,Qf,Qo];omega
theorem Ji (a b:List Nat) (ha:a.length=5) (hb:b.length=5) (la:LB 4611686018427387904 a) (lb:LB 4611686018427387904 b) (w:World) :
 Calls prog 167 #[.agg (ul a).toArray,.agg (ul b).toArray] w λe w'=>e=.returned (.agg (ul (pls a b)).toArray)∧N0 w w':=by
 have h5:=(zero_of_info (P:=prog) Tryz.zero34).1;obtain⟨Z,hZ⟩:=EX z5;rw[<-hZ] at h5;obtain⟨D,hD⟩:=EX (ul (pls a b))
 have h1:Hid ((prog.info? 213).map (·.size)=some D.toArray.size):=by
  show _=_
  rw[hD];simp[QS,Yw,Tryz.size34]
 have HZ2:Hid (Z.toArray.size=D.toArray.size):=by
  show _=_
  rw[hD,hZ];simp[QS,Yw,Uz]
 have HA:Hid (D.toArray.all (·.oneCell')=true):=by
  show _=_
  rw[hD];exact Y9 _
 rw[<-hD];have HD:=Qa hD;have HS:=Qa (And.intro ha (And.intro hb (And.intro la lb)));obtain⟨A,hA⟩:=EX (ul a);obtain⟨B,hB⟩:=EX (ul b);have HB:=Qa (And.intro hA hB);rw[<-hA,<-hB];clear hZ hD hB hA ha hb la lb;go_enter func167,ntmps167;go_wp2_with fail
 have S0:Hid (Blk (((w.alloc (.cells A.toArray 213)).alloc (.cells B.toArray 213)).alloc (.cells Z.toArray 213)) w.heap.size 213 (ul ((pls a b).take 0++a.drop 0))∧Blk (((w.alloc (.cells A.toArray 213)).alloc (.cells B.toArray 213)).alloc (.cells Z.toArray 213)) (w.heap.size+1) 213 (ul b)∧Blk (((w.alloc (.cells A.toArray 213)).alloc (.cells B.toArray 213)).alloc (.cells Z.toArray 213)) (w.heap.size+1+1) 213 Z∧N0 w (((w.alloc (.cells A.toArray 213)).alloc (.cells B.toArray 213)).alloc (.cells Z.toArray 213))):=by
  refine⟨?_,?_,?_,(((Only.refl _ _).alloc _).alloc _).alloc _⟩
  ·show Blk _ _ _ (ul a)
   rw[<-HB.o.1];exact ((Blk.new w 213 A).alloc _).alloc _
  ·rw[<-HB.o.2]
   have:=(Blk.new (w.alloc (.cells A.toArray 213)) 213 B).alloc (.cells Z.toArray 213);rw[size_alloc] at this;exact this
  ·have:=Blk.new ((w.alloc (.cells A.toArray 213)).alloc (.cells B.toArray 213)) 213 Z
   rw[size_alloc,size_alloc] at this;exact this
 obtain⟨R,hR⟩:=EX (w.heap.size+1+1);rw[<-hR] at S0 ⊢;obtain⟨H,hH⟩:=EX (w.heap.size+1);rw[<-hH] at S0 ⊢;obtain⟨G,hG⟩:=EX w.heap.size;have HG:Hid (w.heap.size<=G∧w.heap.size<=R∧R≠G∧H≠G):=⟨by omega,by omega,by omega,by omega⟩;rw[<-hG] at S0 ⊢;obtain⟨W0,h3⟩:=EX (((w.alloc (.cells A.toArray 213)).alloc (.cells B.toArray 213)).alloc (.cells Z.toArray 213));rw[<-h3] at S0 ⊢
 have hGH:¬G=H:=by omega
 clear hG hR h3 h5 hH
 go_loopw [6] (λi wr=>∃n:Nat,n<=5∧i=.int .i64 n∧Blk wr G 213 (ul ((pls a b).take n++a.drop n))∧Blk wr H 213 (ul b)∧Blk wr R 213 Z∧N0 w wr) (λi _=>5 - (intOf i).toNat)
 case atStart=>exact⟨0,by omega,rfl,S0.o⟩
 case round =>
  obtain⟨n,hn,rfl,hS,hQ,hR,hO⟩:=hrel;clear S0
  by_cases hlt:n<5
  ·have h2:=RZ (pls a b) a n 5 (Yw _ _) HS.o.1 hn
   have hx:=HS.o.2.2.1 n;have hy:=HS.o.2.2.2 n
   have hc:wr.cell? ⟨G,n,none⟩=some (.int .u64 ((a.getD n 0:Nat):Int)):=by
    rw[hS.cell,ul_at _ _ (by rw[h2];exact hlt),Fx _ _ _ (by rw[Yw];exact hlt)]
   have hc2:wr.cell? ⟨H,n,none⟩=some (.int .u64 ((b.getD n 0:Nat):Int)):=by
    rw[hQ.cell,ul_at _ _ (by rw[HS.o.2.1];exact hlt)]
   have hf:=hS.froz n;have h0:=Lu (pls a b) a n (by rw[HS.o.1];exact hlt) (by rw[Yw];exact hlt);rw[WX _ _ _ hlt] at h0;obtain⟨x,h6⟩:=EX (a.getD n 0);obtain⟨y,h4⟩:=EX (b.getD n 0);rw[<-h6] at hc h0 hx;rw[<-h4] at h0 hc2 hy;obtain⟨v,hv⟩:=EX (x+y);rw[<-hv] at h0
   have hadd:IntKind.u64.wrap ((x:Int)+(y:Int))=(v:Int):=by
    rw[show ((x:Int)+(y:Int))=((v:Nat):Int) by omega,wrap64 v (by omega)]
   have N1:Hid (Blk (wr.drew.setCell ⟨G,n,none⟩ (.int .u64 (v:Int))) G 213 (ul ((pls a b).take (n+1)++a.drop (n+1)))∧Blk (wr.drew.setCell ⟨G,n,none⟩ (.int .u64 (v:Int))) H 213 (ul b)∧Blk (wr.drew.setCell ⟨G,n,none⟩ (.int .u64 (v:Int))) R 213 Z∧N0 w (wr.drew.setCell ⟨G,n,none⟩ (.int .u64 (v:Int)))):=by
    have oc:=((Only.refl (λk=>k=G) wr).drew).setCell (p:=⟨G,n,none⟩) (λ_=>rfl) (.int .u64 (v:Int));refine⟨?_,hQ.keep oc HG.o.2.2.2,hR.keep oc HG.o.2.2.1,hO.trans oc (λi hi e=>by have:=HG.o.1;omega)⟩;have h:=hS.drew.set n (.int .u64 (v:Int));rw[W7,h0] at h;exact h
   have i1:(n:Int)<5:=by omega
   clear hS hR hO hQ h2 hx hy h0 h6 h4 hv;go_wp2_with fail;go_region
   all_goals go_wp2
   all_goals go_roundw
   case rel=>exact⟨n+1,by omega,by go_num,N1.o⟩
   case measure=>simp[intOf];omega
  ·obtain rfl:n=5:=by omega
   have S2:Hid (Blk wr G 213 D):=by
    have h:=hS;rw[List.take_of_length_le (by rw[Yw];exact Nat.le_refl _),List.drop_of_length_le (by rw[HS.o.1];exact Nat.le_refl _),List.append_nil,<-HD.o] at h;exact h
   have R2:=Qa hR;have O2:=Qa hO;clear hS hR hO hQ;go_wp2_with (first|(refine wpList_load_row rfl 213 (.tmp 2) rfl G rfl 213 D.toArray (0,0) _ S2.o underlying213 rfl h1.o ?_)|(refine wpList_store_row rfl 213 (.tmp 4) (.tmp 18) rfl R D.toArray rfl rfl 213 Z.toArray R2.o h1.o HZ2.o HA.o ?_));refine bodyPost_ret (v:=.agg D.toArray) (results_cell_row rfl _ _ R 213 D.toArray (0,0) _ rfl (R2.o.row D) underlying213 rfl h1.o) rfl ⟨rfl,?_⟩;exact O2.o.setRow (λh=>absurd h (by have:=HG.o.2.1;omega)) _
theorem qn (s:List Nat) (hs:s.length=5) (hb:LB 67108864 s) (w:World) :
 Calls prog 168 #[.agg (ul s).toArray] w λe w'=>e=.returned (.agg (ul (lst s)).toArray)∧N0 w w':=by
 have hzv:=(zero_of_info (P:=prog) Tryz.zero34).1;obtain⟨Z,hZ⟩:=EX z5;rw[<-hZ] at hzv;have P5:=Qa (λW=>Ji s [5,0,0,0,0] hs rfl (hb.mono (by decide)) (LB.cons (by decide) (Vj 4 _ (by decide))) W);have lp:LB 9223372036854775808 (pls s [5,0,0,0,0]):=Zq (A:=67108864) (B:=6) hb (LB.cons (by decide) (Vj 4 _ (by decide))) (by decide);have SE:=Qa (λW=>Vn (pls s [5,0,0,0,0]) (Yw _ _) lp W);have hcy:=Vq (pls s [5,0,0,0,0]) 0 lp (by decide);have EL:Hid (lst s=sdg (s.set 0 (s.getD 0 0+5*scy (pls s [5,0,0,0,0]) 0)) 0):=rfl;obtain⟨c,hc⟩:=EX (scy (pls s [5,0,0,0,0]) 0);obtain⟨E,hE⟩:=EX (ul (sdg (pls s [5,0,0,0,0]) 0))
 have HE:Hid ((prog.info? 213).map (·.size)=some E.toArray.size∧Z.toArray.size=E.toArray.size∧E.toArray.all (·.oneCell')=true):=by
  rw[hE,hZ];exact⟨YJ _ (by rw[YF,Yw]),by simp[QS,YF,Yw,Uz],Y9 _⟩
 rw[<-hc,<-hE] at SE;rw[<-hc] at hcy EL;obtain⟨PL,h7⟩:=EX (ul (pls s [5,0,0,0,0]));rw[<-h7] at P5 SE;have hx:=hb 0;have H0:=Qa (ul_at s 0 (by rw[hs];decide));have h4:=Qa (W7 s 0);obtain⟨x,h5⟩:=EX (s.getD 0 0);rw[<-h5] at hx H0 EL;obtain⟨v,hv⟩:=EX (x+5*c);rw[<-hv] at EL
 have hml:IntKind.u64.wrap (5*(c:Int))=5*(c:Int):=by
  rw[show (5*(c:Int))=((5*c:Nat):Int) by omega,wrap64 _ (by omega)]
 have hadd:IntKind.u64.wrap ((x:Int)+5*(c:Int))=(v:Int):=by
  rw[show ((x:Int)+5*(c:Int))=((v:Nat):Int) by omega,wrap64 v (by omega)]
 have SV:=Qa (λW=>Vn (s.set 0 v) (by rw[List.length_set,hs]) ((hb.mono (by decide)).set 0 v (by omega)) W);rw[<-EL.o] at SV;obtain⟨D,hD⟩:=EX (ul (lst s))
 have h0:Hid ((prog.info? 213).map (·.size)=some D.toArray.size∧Z.toArray.size=D.toArray.size∧D.toArray.all (·.oneCell')=true):=by
  rw[hD,hZ];exact⟨YJ _ (VO s hs),by simp[QS,VO s hs,Uz],Y9 _⟩
 rw[<-hD] at SV ⊢;obtain⟨V,hV⟩:=EX (ul (s.set 0 v))
 have HV:Hid ((prog.info? 213).map (·.size)=some V.toArray.size∧V.toArray.size=D.toArray.size):=by
  rw[hV,hD];exact⟨YJ _ (by rw[List.length_set,hs]),by simp[QS,VO s hs,hs]⟩
 rw[<-hV] at SV;obtain⟨d,hd⟩:=EX (scy (s.set 0 v) 0);rw[<-hd] at SV;have h6:=Qa (YJ s hs);obtain⟨B,hB⟩:=EX (ul s)
 have HVS:Hid (B.set 0 (.int .u64 (v:Int))=V):=by
  show _=_
  rw[hB,h4.o,hV]
 rw[<-hB] at P5 H0 h6 ⊢
 have KA:Hid (Blk ((w.alloc (.cells B.toArray 213)).alloc (.cells Z.toArray 213)) w.heap.size 213 B∧Blk ((w.alloc (.cells B.toArray 213)).alloc (.cells Z.toArray 213)) (w.heap.size+1) 213 Z∧N0 w ((w.alloc (.cells B.toArray 213)).alloc (.cells Z.toArray 213))):=by
  refine⟨(Blk.new w 213 B).alloc _,?_,((Only.refl _ _).alloc _).alloc _⟩;have:=Blk.new (w.alloc (.cells B.toArray 213)) 213 Z;rw[size_alloc] at this;exact this
 clear hZ hs hb lp hc hE h7 hx h5 hv hD hV hd hB EL h4;go_enter func168,ntmps168;go_wp2_with (first|(refine wpList_load_row rfl 213 (.tmp 1) rfl w.heap.size rfl 213 B.toArray (0,0) _ KA.o.1 underlying213 rfl h6.o ?_)|(refine Kh rfl 213 _ rfl (ul [5,0,0,0,0]).toArray (by kernel_rfl) ?_));obtain⟨R,hR⟩:=EX (w.heap.size+1);rw[<-hR] at KA ⊢;obtain⟨G,hG⟩:=EX w.heap.size;have HG:Hid (w.heap.size<=G∧w.heap.size<=R∧R≠G):=⟨by omega,by omega,by omega⟩;rw[<-hG] at KA ⊢;obtain⟨W0,h2⟩:=EX ((w.alloc (.cells B.toArray 213)).alloc (.cells Z.toArray 213));rw[<-h2] at KA ⊢;clear hG hR h2;refine (P5.o W0).mono ?_;rintro e w1 ⟨rfl,o1⟩;have K1:Hid (Blk w1 G 213 B∧Blk w1 R 213 Z∧N0 w w1):=⟨KA.o.1.past o1,KA.o.2.1.past o1,KA.o.2.2.same o1⟩;clear o1 KA P5;go_wp2_with fail;refine (SE.o w1).mono ?_;rintro e w2 ⟨rfl,o2⟩;have K2:Hid (Blk w2 G 213 B∧Blk w2 R 213 Z∧N0 w w2):=⟨K1.o.1.past o2,K1.o.2.1.past o2,K1.o.2.2.same o2⟩;clear o2 K1 SE;obtain⟨W3,h1⟩:=EX ((w2.alloc (.cells Z.toArray 213)).setRow w2.heap.size E.toArray)
 have o3:N0 w2 W3:=by
  rw[h1];exact ((Only.refl _ _).alloc _).setRow (λh=>absurd h (Nat.lt_irrefl _)) _
 have K3:Hid (Blk W3 G 213 B∧Blk W3 R 213 Z∧N0 w W3):=⟨K2.o.1.past o3,K2.o.2.1.past o3,K2.o.2.2.same o3⟩
 have hc3:W3.cell? ⟨G,0,none⟩=some (.int .u64 (x:Int)):=by rw[K3.o.1.cell,H0.o]
 have hf3:=K3.o.1.froz 0
 have K4:Hid (Blk (W3.setCell ⟨G,0,none⟩ (.int .u64 (v:Int))) G 213 V∧Blk (W3.setCell ⟨G,0,none⟩ (.int .u64 (v:Int))) R 213 Z∧N0 w (W3.setCell ⟨G,0,none⟩ (.int .u64 (v:Int)))):=by
  have oc:=(Only.refl (λk=>k=G) W3).setCell (p:=⟨G,0,none⟩) (λ_=>rfl) (.int .u64 (v:Int));refine⟨?_,K3.o.2.1.keep oc HG.o.2.2,K3.o.2.2.trans oc (λi hi e=>by have:=HG.o.1;omega)⟩;have h:=K3.o.1.set 0 (.int .u64 (v:Int));rw[HVS.o] at h;exact h
 clear o3;go_wp2_with (first|(refine wpList_store_row rfl 213 (.tmp 3) (.tmp 10) rfl w2.heap.size E.toArray rfl rfl 213 Z.toArray (Blk.new w2 213 Z) HE.o.1 HE.o.2.1 HE.o.2.2 ?_;rw[<-h1];clear h1)|(refine wpList_load_row rfl 213 (.tmp 1) rfl G rfl 213 V.toArray (0,0) _ K4.o.1 underlying213 rfl HV.o.1 ?_));obtain⟨W4,h3⟩:=EX (W3.setCell ⟨G,0,none⟩ (.int .u64 (v:Int)));rw[<-h3] at K4 ⊢;clear h3 K2 K3;refine (SV.o W4).mono ?_;rintro e w5 ⟨rfl,o5⟩;have S5:=Qa (K4.o.1.past o5);have R5:=Qa (K4.o.2.1.past o5);have O5:=Qa (K4.o.2.2.same o5);have S6:=Qa (S5.o.row D);have R6:Hid (Blk (w5.setRow G D.toArray) R 213 Z):=R5.o.keep ((Only.refl (λk=>k=G) _).setRow (λ_=>rfl) _) HG.o.2.2;clear o5 K4 SV;go_wp2_with (first|(refine wpList_store_row rfl 213 (.tmp 1) (.tmp 21) rfl G D.toArray rfl rfl 213 V.toArray S5.o h0.o.1 HV.o.2 h0.o.2.2 ?_)|(refine wpList_load_row rfl 213 (.tmp 1) rfl G rfl 213 D.toArray (0,0) _ S6.o underlying213 rfl h0.o.1 ?_)|(refine wpList_store_row rfl 213 (.tmp 2) (.tmp 23) rfl R D.toArray rfl rfl 213 Z.toArray R6.o h0.o.1 h0.o.2.1 h0.o.2.2 ?_));refine bodyPost_ret (v:=.agg D.toArray) (results_cell_row rfl _ _ R 213 D.toArray (0,0) _ rfl (R6.o.row D) underlying213 rfl h0.o.1) rfl ⟨rfl,?_⟩;exact (O5.o.setRow (λh=>absurd h (by have:=HG.o.1;omega)) _).setRow (λh=>absurd h (by have:=HG.o.2.1;omega)) _
theorem FK (s:List Nat) (hs:s.length=5) (hb:LB 9223372036854775808 s) (w:World) :
 Calls prog 217 #[.agg (ul s).toArray] w λe w'=>e=.returned (.agg (ul (crI 3 s)).toArray)∧N0 w w':=by
 have h9:=(zero_of_info (P:=prog) Tryz.zero34).1;obtain⟨Z,hZ⟩:=EX z5;rw[<-hZ] at h9;obtain⟨D,hD⟩:=EX (ul (crI 3 s))
 have h5:Hid ((prog.info? 213).map (·.size)=some D.toArray.size):=by
  show _=_
  rw[hD];simp[QS,Vo,hs,Tryz.size34]
 have HZ2:Hid (Z.toArray.size=D.toArray.size):=by
  show _=_
  rw[hD,hZ];simp[QS,Vo,hs,Uz]
 have HA:Hid (D.toArray.all (·.oneCell')=true):=by
  show _=_
  rw[hD];exact Y9 _
 rw[<-hD];have HD:=Qa hD;have HS:=Qa (And.intro hs hb);obtain⟨B,hB⟩:=EX (ul s);have HB:=Qa hB;rw[<-hB];clear hZ hD hB hs hb;go_enter func217,ntmps217;go_wp2_with fail
 have S0:Hid (Blk ((w.alloc (.cells B.toArray 213)).alloc (.cells Z.toArray 213)) w.heap.size 213 (ul (crI 0 s))∧Blk ((w.alloc (.cells B.toArray 213)).alloc (.cells Z.toArray 213)) (w.heap.size+1) 213 Z∧N0 w ((w.alloc (.cells B.toArray 213)).alloc (.cells Z.toArray 213))):=by
  refine⟨?_,?_,((Only.refl _ _).alloc _).alloc _⟩
  ·show Blk _ _ _ (ul s)
   rw[<-HB.o];exact (Blk.new w 213 B).alloc _
  ·have:=Blk.new (w.alloc (.cells B.toArray 213)) 213 Z
   rw[size_alloc] at this;exact this
 obtain⟨R,hR⟩:=EX (w.heap.size+1);rw[<-hR] at S0 ⊢;obtain⟨G,hG⟩:=EX w.heap.size;have HG:Hid (w.heap.size<=G∧w.heap.size<=R∧R≠G):=⟨by omega,by omega,by omega⟩;rw[<-hG] at S0 ⊢;obtain⟨W0,h7⟩:=EX ((w.alloc (.cells B.toArray 213)).alloc (.cells Z.toArray 213));rw[<-h7] at S0 ⊢;clear hG hR h7 h9
 go_loopw [4] (λi wr=>∃n:Nat,n<=3∧i=.int .i64 n∧Blk wr G 213 (ul (crI n s))∧Blk wr R 213 Z∧N0 w wr) (λi _=>3 - (intOf i).toNat)
 case atStart=>exact⟨0,by omega,rfl,S0.o⟩
 case round =>
  obtain⟨n,hn,rfl,hS,hR,hO⟩:=hrel;clear S0
  by_cases hlt:n<3
  ·have hl:(crI n s).length=5:=by rw[Vo,HS.o.1]
   have h4:=wY n s HS.o.2;have A:=Qa (Vn (crI n s) hl h4 wr);have hcy:=Vq (crI n s) 0 h4 (by decide);have h6:=Wi (crI n s) 0 0;have EN:Hid (crI (n+1) s=(sdg (crI n s) 0).set 0 ((sdg (crI n s) 0).getD 0 0+5*scy (crI n s) 0)):=rfl;obtain⟨c,hc⟩:=EX (scy (crI n s) 0);obtain⟨d,hd⟩:=EX (sdg (crI n s) 0)
   have h2:d.length=5:=by rw[hd,YF,hl]
   rw[<-hc] at A hcy EN;rw[<-hd] at A h6 EN
   have HN:Hid ((prog.info? 213).map (·.size)=some (ul (crI n s)).toArray.size∧(prog.info? 213).map (·.size)=some (ul d).toArray.size∧(ul (crI n s)).toArray.size=(ul d).toArray.size∧(ul d).toArray.all (·.oneCell')=true) :=
    ⟨YJ _ hl,YJ _ h2,by simp[QS,hl,h2],Y9 _⟩
   have S1:=Qa hS;have R1:=Qa hR;have O1:=Qa hO;obtain⟨NN,he⟩:=EX (ul (crI n s));rw[<-he] at A HN S1;have h3:(ul d)[0]? = some (.int .u64 ((d.getD 0 0:Nat):Int)):=ul_at d 0 (by rw[h2];decide);have h8:=Qa (W7 d 0);obtain⟨x,hx⟩:=EX (d.getD 0 0);rw[<-hx] at h3 h6 EN;obtain⟨DD,ha⟩:=EX (ul d);rw[<-ha] at A HN h3 h8;obtain⟨v,hv⟩:=EX (x+5*c)
   have hml:IntKind.u64.wrap (5*(c:Int))=5*(c:Int):=by
    rw[show (5*(c:Int))=((5*c:Nat):Int) by omega,wrap64 _ (by omega)]
   have hadd:IntKind.u64.wrap ((x:Int)+5*(c:Int))=(v:Int):=by
    rw[show ((x:Int)+5*(c:Int))=((v:Nat):Int) by omega,wrap64 v (by omega)]
   rw[<-hv] at EN
   have i1:(n:Int)<3:=by omega
   have HX0:=Qa h3;clear hS hR hO hl h4 hc hd h2 he hx ha hv h3;go_wp2_with (first|(refine wpList_load_row rfl 213 (.tmp 1) rfl G rfl 213 NN.toArray (0,0) _ S1.o underlying213 rfl HN.o.1 ?_));refine A.o.mono ?_;rintro e w1 ⟨rfl,o1⟩;have S2:=Qa (S1.o.past o1);have R2:=Qa (R1.o.past o1);have O2:=Qa (O1.o.same o1);obtain⟨W2,h0⟩:=EX (w1.setRow G DD.toArray)
   have h1:Blk W2 G 213 DD:=by rw[h0];exact S2.o.row DD
   have hc2:W2.cell? ⟨G,0,none⟩=some (.int .u64 (x:Int)):=by rw[h1.cell,HX0.o]
   have hf2:=h1.froz 0
   have N1:Hid (Blk (W2.setCell ⟨G,0,none⟩ (.int .u64 (v:Int))) G 213 (ul (crI (n+1) s))∧Blk (W2.setCell ⟨G,0,none⟩ (.int .u64 (v:Int))) R 213 Z∧N0 w (W2.setCell ⟨G,0,none⟩ (.int .u64 (v:Int)))):=by
    have oc:Only (λk=>k=G) w1 (W2.setCell ⟨G,0,none⟩ (.int .u64 (v:Int))):=by
     rw[h0];exact ((Only.refl (λk=>k=G) w1).setRow (λ_=>rfl) _).setCell (p:=⟨G,0,none⟩) (λ_=>rfl) _
    refine⟨?_,R2.o.keep oc HG.o.2.2,O2.o.trans oc (λi hi e=>by have:=HG.o.1;omega)⟩;have h:=h1.set 0 (.int .u64 (v:Int));rw[h8.o,<-EN.o] at h;exact h
   clear o1 S1 R1 O1 A h1;go_wp2_with (first|(refine wpList_store_row rfl 213 (.tmp 1) (.tmp 9) rfl G DD.toArray rfl rfl 213 NN.toArray S2.o HN.o.2.1 HN.o.2.2.1 HN.o.2.2.2 ?_;rw[<-h0];clear h0))
   go_roundw
   case rel=>exact⟨n+1,by omega,by go_num,N1.o⟩
   case measure=>simp[intOf];omega
  ·obtain rfl:n=3:=by omega
   rw[<-HD.o] at hS;have S2:=Qa hS;have R2:=Qa hR;have O2:=Qa hO;clear hS hR hO;go_wp2_with (first|(refine wpList_load_row rfl 213 (.tmp 1) rfl G rfl 213 D.toArray (0,0) _ S2.o underlying213 rfl h5.o ?_)|(refine wpList_store_row rfl 213 (.tmp 2) (.tmp 18) rfl R D.toArray rfl rfl 213 Z.toArray R2.o h5.o HZ2.o HA.o ?_));refine bodyPost_ret (v:=.agg D.toArray) (results_cell_row rfl _ _ R 213 D.toArray (0,0) _ rfl (R2.o.row D) underlying213 rfl h5.o) rfl ⟨rfl,?_⟩;exact O2.o.setRow (λh=>absurd h (by have:=HG.o.2.1;omega)) _
theorem Sr (a r:List Nat) (i j:Nat) (hj:j<5):wdI a r (5*i+(j+1))=(wdI a r (5*i+j)).set (i+j) ((wdI a r (5*i+j)).getD (i+j) 0+a.getD i 0*r.getD j 0):=by
 show wdI a r (5*i+j+1)=_
 rw[wdI,show (5*i+j) / 5=i by omega,show (5*i+j) % 5=j by omega]
theorem Sh (a r:List Nat) (ha:a.length=5) (hr:r.length=5) (la:LB 134217728 a) (lr:LB 67108864 r) (w:World) :
 Calls prog 191 #[.agg (ul a).toArray,.agg (ul r).toArray] w λe w'=>e=.returned (.agg (ul (ptms a r)).toArray)∧N0 w w':=by
 have hzv:=(zero_of_info (P:=prog) Tryz.zero34).1;have hb:=(zero_of_info (P:=prog) Tryz.zero53).1;obtain⟨Z,hZ⟩:=EX z5;rw[<-hZ] at hzv;obtain⟨Y,hY⟩:=EX z10;rw[<-hY] at hb;obtain⟨D,hD⟩:=EX (ul (ptms a r))
 have hu:Hid ((prog.info? 213).map (·.size)=some D.toArray.size):=by
  show _=_
  rw[hD];simp[QS,Gh,Tryz.size34]
 have HZ2:Hid (Z.toArray.size=D.toArray.size):=by
  show _=_
  rw[hD,hZ];simp[QS,Gh,Uz]
 have HA:Hid (D.toArray.all (·.oneCell')=true):=by
  show _=_
  rw[hD];exact Y9 _
 rw[<-hD];have HD:=Qa (And.intro hD (And.intro hZ hY));have HS:=Qa (And.intro ha (And.intro hr (And.intro la lr)));have XA:=Qa (ix_u5 a ha);have XR:=Qa (ix_u5 r hr);have h5:=Qa (And.intro (YJ a ha) (YJ r hr));obtain⟨A,hA⟩:=EX (ul a);obtain⟨B,hB⟩:=EX (ul r);have HB:=Qa (And.intro hA hB);rw[<-hA] at XA h5;rw[<-hB] at XR h5;rw[<-hA,<-hB];clear hZ hY hD hB hA ha hr la lr
 have K0:Hid (Blk ((((w.alloc (.cells A.toArray 213)).alloc (.cells B.toArray 213)).alloc (.cells Z.toArray 213)).alloc (.cells Y.toArray 261)) w.heap.size 213 A∧Blk ((((w.alloc (.cells A.toArray 213)).alloc (.cells B.toArray 213)).alloc (.cells Z.toArray 213)).alloc (.cells Y.toArray 261)) (w.heap.size+1) 213 B∧Blk ((((w.alloc (.cells A.toArray 213)).alloc (.cells B.toArray 213)).alloc (.cells Z.toArray 213)).alloc (.cells Y.toArray 261)) (w.heap.size+1+1) 213 Z∧Blk ((((w.alloc (.cells A.toArray 213)).alloc (.cells B.toArray 213)).alloc (.cells Z.toArray 213)).alloc (.cells Y.toArray 261)) (w.heap.size+1+1+1) 261 (ul (wdI a r (5*0)))∧N0 w ((((w.alloc (.cells A.toArray 213)).alloc (.cells B.toArray 213)).alloc (.cells Z.toArray 213)).alloc (.cells Y.toArray 261))):=by
  refine⟨(((Blk.new w 213 A).alloc _).alloc _).alloc _,?_,?_,?_,((((Only.refl _ _).alloc _).alloc _).alloc _).alloc _⟩
  ·have:=((Blk.new (w.alloc (.cells A.toArray 213)) 213 B).alloc (.cells Z.toArray 213)).alloc (.cells Y.toArray 261)
   rw[size_alloc] at this;exact this
  ·have:=(Blk.new ((w.alloc (.cells A.toArray 213)).alloc (.cells B.toArray 213)) 213 Z).alloc (.cells Y.toArray 261)
   rw[size_alloc,size_alloc] at this;exact this
  ·have:=Blk.new (((w.alloc (.cells A.toArray 213)).alloc (.cells B.toArray 213)).alloc (.cells Z.toArray 213)) 261 Y
   rw[size_alloc,size_alloc,size_alloc] at this;rw[HD.o.2.2] at this ⊢;exact this
 go_enter func191,ntmps191;go_wp2_with (first|(refine wpList_load_row rfl 213 (.tmp 2) rfl w.heap.size rfl 213 A.toArray (0,0) _ K0.o.1 underlying213 rfl h5.o.1 ?_));obtain⟨X,hX⟩:=EX (w.heap.size+1+1+1);rw[<-hX] at K0 ⊢;obtain⟨R,hR⟩:=EX (w.heap.size+1+1);rw[<-hR] at K0 ⊢;obtain⟨H,hH⟩:=EX (w.heap.size+1);rw[<-hH] at K0 ⊢;obtain⟨G,hG⟩:=EX w.heap.size;have HG:Hid (w.heap.size<=X∧w.heap.size<=R∧R≠X∧H≠X):=⟨by omega,by omega,by omega,by omega⟩;rw[<-hG] at K0 ⊢;obtain⟨W0,hl⟩:=EX ((((w.alloc (.cells A.toArray 213)).alloc (.cells B.toArray 213)).alloc (.cells Z.toArray 213)).alloc (.cells Y.toArray 261));rw[<-hl] at K0 ⊢;have K1:=Qa K0.o.2;clear hG hR hl hb hH hX K0
 go_loopw [13] (λi wr=>∃n:Nat,n<=5∧i=.int .i64 n∧Blk wr H 213 B∧Blk wr R 213 Z∧Blk wr X 261 (ul (wdI a r (5*n)))∧N0 w wr) (λi _=>5 - (intOf i).toNat)
 case atStart=>exact⟨0,by omega,rfl,K1.o⟩
 case round =>
  obtain⟨n,hn,rfl,k1,k2,k3,k4⟩:=hrel;clear K1
  by_cases hlt:n<5
  ·have h9:=XA.o n hlt
   have hlx:=HS.o.2.2.1 n;obtain⟨x,hx⟩:=EX (a.getD n 0);rw[<-hx] at h9 hlx;have HX:=Qa hx
   have i1:(n:Int)<5:=by omega
   have HK:=Qa (And.intro k1 (And.intro k2 (And.intro k3 k4)));clear hx k1 k2 k3 k4;go_wp2_with (first|(refine wpList_load_row rfl 213 (.tmp 3) rfl H rfl 213 B.toArray (0,0) _ HK.o.1 underlying213 rfl h5.o.2 ?_))
   go_loopw [18] (λi wr=>∃j:Nat,j<=5∧i=.int .i64 j∧Blk wr H 213 B∧Blk wr R 213 Z∧Blk wr X 261 (ul (wdI a r (5*n+j)))∧N0 w wr) (λi _=>5 - (intOf i).toNat)
   case atStart=>exact⟨0,by omega,rfl,HK.o⟩
   case round =>
    obtain⟨j,hj,rfl,k1,k2,k3,k4⟩:=hrel;clear HK h9
    by_cases hlj:j<5
    ·have hjx:=XR.o j hlj
     have hm:=HS.o.2.2.2 j;have hg:=J5 a r HS.o.2.2.1 HS.o.2.2.2 (5*n+j) (n+j);have h0:=Sr a r n j hlj
     have hc:wr.cell? ⟨X,n+j,none⟩=some (.int .u64 (((wdI a r (5*n+j)).getD (n+j) 0:Nat):Int)):=by
      rw[k3.cell,ul_at _ _ (by rw[Z9];omega)]
     have hf:=k3.froz (n+j);obtain⟨y,hy⟩:=EX (r.getD j 0);obtain⟨z,hz⟩:=EX ((wdI a r (5*n+j)).getD (n+j) 0);rw[<-hy] at hjx hm h0;rw[<-hz] at hg h0 hc;rw[<-HX.o] at h0;have hd:x*y<=134217728*67108864:=Nat.mul_le_mul (by omega) (by omega);obtain⟨t,ht⟩:=EX (x*y);rw[<-ht] at hd h0
     have hs:(x:Int)*(y:Int)=(t:Int):=by rw[ht];simp
     have hml:IntKind.u64.wrap ((x:Int)*(y:Int))=(t:Int):=by rw[hs,wrap64 t (by omega)]
     obtain⟨v,hv⟩:=EX (z+t);rw[<-hv] at h0
     have h8:IntKind.u64.wrap ((z:Int)+(t:Int))=(v:Int):=by
      rw[show ((z:Int)+(t:Int))=((v:Nat):Int) by omega,wrap64 v (by omega)]
     have N1:Hid (Blk (wr.setCell ⟨X,n+j,none⟩ (.int .u64 (v:Int))) H 213 B∧Blk (wr.setCell ⟨X,n+j,none⟩ (.int .u64 (v:Int))) R 213 Z∧Blk (wr.setCell ⟨X,n+j,none⟩ (.int .u64 (v:Int))) X 261 (ul (wdI a r (5*n+(j+1))))∧N0 w (wr.setCell ⟨X,n+j,none⟩ (.int .u64 (v:Int)))):=by
      have oc:=(Only.refl (λk=>k=X) wr).setCell (p:=⟨X,n+j,none⟩) (λ_=>rfl) (.int .u64 (v:Int));refine⟨k1.keep oc HG.o.2.2.2,k2.keep oc HG.o.2.2.1,?_,k4.trans oc (λi hi e=>by have:=HG.o.1;omega)⟩;have h:=k3.set (n+j) (.int .u64 (v:Int));rw[W7,<-h0] at h;exact h
     have i2:(j:Int)<5:=by omega
     have h7:IntKind.i64.wrap ((n:Int)+(j:Int))=((n+j:Nat):Int):=by rw[IntKind.wrap_i64];omega
     clear k1 k2 k3 k4 hg h0 hm hy hz hd ht hs hv;go_wp2
     go_roundw
     case rel=>exact⟨j+1,by omega,by go_num,N1.o⟩
     case measure=>simp[intOf];omega
    ·obtain rfl:j=5:=by omega
     have N2:=Qa (And.intro k1 (And.intro k2 (And.intro k3 k4)));clear k1 k2 k3 k4;go_wp2
     go_roundw
     case rel=>exact⟨n+1,by omega,by go_num,N2.o⟩
     case measure=>simp[intOf];omega
  ·obtain rfl:n=5:=by omega
   have HK:=Qa (And.intro k2 (And.intro k3 k4));obtain⟨T,hT⟩:=EX (otr (wdI a r 25))
   have HT:Hid (T.length=5∧(∀i,i<5->T.getD i 0=(wdI a r 25).getD i 0+5*(wdI a r 25).getD (i+5) 0)∧LB 9223372036854775808 T∧crI 3 T=ptms a r):=by
    rw[hT];exact⟨KD _,Kc _,Ro a r HS.o.2.2.1 HS.o.2.2.2,rfl⟩
   have HW:=Qa (J5 a r HS.o.2.2.1 HS.o.2.2.2 25);have h6:=Qa (Z9 a r 25);obtain⟨V,hV⟩:=EX (wdI a r 25);rw[show 5*5=25 from rfl,<-hV] at HK;rw[<-hV] at HT HW h6;clear k1 k2 k3 k4 hT hV;go_wp2
   have K2:Hid (Blk (wr.alloc (.cells Z.toArray 213)) R 213 Z∧Blk (wr.alloc (.cells Z.toArray 213)) X 261 (ul V)∧Blk (wr.alloc (.cells Z.toArray 213)) wr.heap.size 213 (ul (T.take 0++(List.replicate 5 0).drop 0))∧N0 w (wr.alloc (.cells Z.toArray 213))):=by
    refine⟨HK.o.1.alloc _,HK.o.2.1.alloc _,?_,HK.o.2.2.alloc _⟩;have:=Blk.new wr 213 Z;rw[HD.o.2.1] at this ⊢;exact this
   have HR:Hid (w.heap.size<=wr.heap.size∧R≠wr.heap.size∧X≠wr.heap.size):=by
    have h1:=HK.o.2.2.size;have h2:=HK.o.1.lt;have h3:=HK.o.2.1.lt;exact⟨h1,by omega,by omega⟩
   obtain⟨Q,hQ⟩:=EX wr.heap.size;rw[<-hQ] at K2 HR ⊢;obtain⟨W2,hh⟩:=EX (wr.alloc (.cells Z.toArray 213));rw[<-hh] at K2 ⊢;clear hQ hh HK
   go_loopw [34] (λi wr=>∃n:Nat,n<=5∧i=.int .i64 n∧Blk wr R 213 Z∧Blk wr X 261 (ul V)∧Blk wr Q 213 (ul (T.take n++(List.replicate 5 0).drop n))∧N0 w wr) (λi _=>5 - (intOf i).toNat)
   case atStart=>exact⟨0,by omega,rfl,K2.o⟩
   case round =>
    obtain⟨n,hn,rfl,k1,k2,k3,k4⟩:=hrel;clear K2
    by_cases hlt:n<5
    ·have hp:=RZ T (List.replicate 5 0) n 5 HT.o.1 (by simp) hn
     have hc1:wr.cell? ⟨X,n,none⟩=some (.int .u64 ((V.getD n 0:Nat):Int)):=by
      rw[k2.cell,ul_at _ _ (by rw[h6.o];omega)]
     have hc2:wr.cell? ⟨X,n+5,none⟩=some (.int .u64 ((V.getD (n+5) 0:Nat):Int)):=by
      rw[k2.cell,ul_at _ _ (by rw[h6.o];omega)]
     have hc3:wr.cell? ⟨Q,n,none⟩=some (.int .u64 (((T.take n++(List.replicate 5 0).drop n).getD n 0:Nat):Int)):=by
      rw[k3.cell,ul_at _ _ (by rw[hp];exact hlt)]
     have hf:=k3.froz n;have h4:=Lu T (List.replicate 5 0) n (by simpa using hlt) (by rw[HT.o.1];exact hlt);rw[HT.o.2.1 n hlt] at h4;have hx:=HW.o n;have hy:=HW.o (n+5);obtain⟨x,he⟩:=EX (V.getD n 0);obtain⟨y,hq⟩:=EX (V.getD (n+5) 0);obtain⟨z,ho⟩:=EX ((T.take n++(List.replicate 5 0).drop n).getD n 0);rw[<-he] at hc1 h4 hx;rw[<-hq] at hc2 h4 hy;rw[<-ho] at hc3;obtain⟨v,hv⟩:=EX (x+5*y);rw[<-hv] at h4
     have hml:IntKind.u64.wrap (5*(y:Int))=5*(y:Int):=by
      rw[show (5*(y:Int))=((5*y:Nat):Int) by omega,wrap64 _ (by omega)]
     have h8:IntKind.u64.wrap ((x:Int)+5*(y:Int))=(v:Int):=by
      rw[show ((x:Int)+5*(y:Int))=((v:Nat):Int) by omega,wrap64 v (by omega)]
     have N1:Hid (Blk (wr.drew.setCell ⟨Q,n,none⟩ (.int .u64 (v:Int))) R 213 Z∧Blk (wr.drew.setCell ⟨Q,n,none⟩ (.int .u64 (v:Int))) X 261 (ul V)∧Blk (wr.drew.setCell ⟨Q,n,none⟩ (.int .u64 (v:Int))) Q 213 (ul (T.take (n+1)++(List.replicate 5 0).drop (n+1)))∧N0 w (wr.drew.setCell ⟨Q,n,none⟩ (.int .u64 (v:Int)))):=by
      have oc:=((Only.refl (λk=>k=Q) wr).drew).setCell (p:=⟨Q,n,none⟩) (λ_=>rfl) (.int .u64 (v:Int));refine⟨k1.keep oc HR.o.2.1,k2.keep oc HR.o.2.2,?_,k4.trans oc (λi hi e=>by have:=HR.o.1;omega)⟩;have h:=k3.drew.set n (.int .u64 (v:Int));rw[W7,h4] at h;exact h
     have i1:(n:Int)<5:=by omega
     have h7:IntKind.i64.wrap ((n:Int)+5)=((n+5:Nat):Int):=by rw[IntKind.wrap_i64];omega
     have hXQ:¬X=Q:=HR.o.2.2;clear k1 k2 k3 k4 hp h4 hx hy he hq ho hv;go_wp2_with fail;go_region
     all_goals go_wp2
     all_goals go_roundw
     case rel=>exact⟨n+1,by omega,by go_num,N1.o⟩
     case measure=>simp[intOf];omega
    ·obtain rfl:n=5:=by omega
     have CA:=Qa (FK T HT.o.1 HT.o.2.2.1 wr);rw[HT.o.2.2.2,<-HD.o.1] at CA;have HN:=Qa (YJ T HT.o.1)
     have S2:Hid (Blk wr Q 213 (ul T)):=by
      have h:=k3;rw[List.take_of_length_le (by rw[HT.o.1];exact Nat.le_refl _),List.drop_of_length_le (by simp),List.append_nil] at h;exact h
     have R1:=Qa k1;have O1:=Qa k4;obtain⟨TT,hk⟩:=EX (ul T);rw[<-hk] at CA HN S2;clear k1 k2 k3 k4 hk;go_wp2_with (first|(refine wpList_load_row rfl 213 (.tmp 10) rfl Q rfl 213 TT.toArray (0,0) _ S2.o underlying213 rfl HN.o ?_));refine CA.o.mono ?_;rintro e w1 ⟨rfl,o1⟩;have R2:=Qa (R1.o.past o1);have O2:=Qa (O1.o.same o1);clear o1 S2 R1 O1 CA;go_wp2_with (first|(refine wpList_store_row rfl 213 (.tmp 4) (.tmp 50) rfl R D.toArray rfl rfl 213 Z.toArray R2.o hu.o HZ2.o HA.o ?_));refine bodyPost_ret (v:=.agg D.toArray) (results_cell_row rfl _ _ R 213 D.toArray (0,0) _ rfl (R2.o.row D) underlying213 rfl hu.o) rfl ⟨rfl,?_⟩;exact O2.o.setRow (λh=>absurd h (by have:=HG.o.2.1;omega)) _
theorem J4 (v:Value) (xs:LI) (hl:xs.length<=17) (h8:U8 xs) (w:World) (hb:Bs .u8 w v xs) :
 Calls prog 165 #[v] w λe w'=>e=.returned (.agg (ul (nmb xs)).toArray)∧N0 w w':=by
 have h6:=(zero_of_info (P:=prog) Tryz.zero34).1;obtain⟨Z,hZ⟩:=EX z5;rw[<-hZ] at h6;obtain⟨D,hD⟩:=EX (ul (nmb xs))
 have h0:Hid ((prog.info? 213).map (·.size)=some D.toArray.size):=by
  show _=_
  rw[hD];simp[QS,Uq,Tryz.size34]
 have HZ2:Hid (Z.toArray.size=D.toArray.size):=by
  show _=_
  rw[hD,hZ];simp[QS,Uq,Uz]
 have HA:Hid (D.toArray.all (·.oneCell')=true):=by
  show _=_
  rw[hD];exact Y9 _
 rw[<-hD];have HD:=Qa (And.intro hD hZ);obtain⟨ao,cap,rfl⟩:=hb.len
 have h5:Hid (∀j,j<xs.length->∃b off,ao=some ⟨b,off,none⟩∧w.cell? ⟨b,off+j,none⟩=some (.int .u8 (xs.getD j 0))):=λj hj=>by
  obtain⟨b',h1,cap',e,hc⟩:=hb.at j hj;simp at e;exact⟨b',h1,e.1,hc⟩
 have H8:=Qa (And.intro h8 hl);obtain⟨m,hm⟩:=EX xs.length;have HM:=Qa hm;rw[<-hm] at hl h5 ⊢;clear hZ hD hb h8 hm;go_enter func165,ntmps165;go_wp2_with fail
 have S0:Hid (Blk ((w.alloc (.cells Z.toArray 213)).alloc (.cells Z.toArray 213)) w.heap.size 213 Z∧Blk ((w.alloc (.cells Z.toArray 213)).alloc (.cells Z.toArray 213)) (w.heap.size+1) 213 (ul (rawI xs 0))∧N0 w ((w.alloc (.cells Z.toArray 213)).alloc (.cells Z.toArray 213))):=by
  refine⟨(Blk.new w 213 Z).alloc _,?_,((Only.refl _ _).alloc _).alloc _⟩;have:=Blk.new (w.alloc (.cells Z.toArray 213)) 213 Z;rw[size_alloc,HD.o.2] at this;rw[HD.o.2];exact this
 obtain⟨G,hG⟩:=EX (w.heap.size+1);rw[<-hG] at S0 ⊢;obtain⟨R,hR⟩:=EX w.heap.size;have HG:Hid (w.heap.size<=G∧w.heap.size<=R∧R≠G):=⟨by omega,by omega,by omega⟩;rw[<-hR] at S0 ⊢;obtain⟨W0,he⟩:=EX ((w.alloc (.cells Z.toArray 213)).alloc (.cells Z.toArray 213));rw[<-he] at S0 ⊢;clear hG hR he h6
 go_loopw [9] (λi wr=>∃n:Nat,n<=m∧i=.int .i64 n∧Blk wr R 213 Z∧Blk wr G 213 (ul (rawI xs n))∧N0 w wr) (λi _=>m - (intOf i).toNat)
 case atStart=>exact⟨0,by omega,rfl,S0.o⟩
 case round =>
  obtain⟨n,hn,rfl,hR,hS,hO⟩:=hrel;clear S0
  by_cases hlt:n<m
  ·obtain⟨b,off,rfl,h2⟩:=h5.o n hlt
   have hcb:wr.cell? ⟨b,off+n,none⟩=some (.int .u8 (xs.getD n 0)):=by
    rw[World.cell?_of_block (hO.block b (World.block_lt_of_cell? w _ h2) (λf=>f))];exact h2
   obtain⟨y,hy⟩:=Int.eq_ofNat_of_zero_le (H8.o.1.at n).1;have hy2:=(H8.o.1.at n).2;rw[hy] at hcb hy2;obtain⟨q,hq⟩:=EX (8*n / 26);obtain⟨r,hr⟩:=EX (8*n % 26)
   have hq5:q<5:=by omega
   have hc:wr.cell? ⟨G,q,none⟩=some (.int .u64 (((rawI xs n).getD q 0:Nat):Int)):=by
    rw[hS.cell,ul_at _ _ (by rw[Km];exact hq5)]
   have h9:=Nd xs H8.o.1 n q;have hf:=hS.froz q;obtain⟨x,hx⟩:=EX ((rawI xs n).getD q 0);rw[<-hx] at hc h9;have hd:2^r<=2^25:=Nat.pow_le_pow_right (by decide) (by omega);obtain⟨t,ht⟩:=EX (y*2^r)
   have htl:t<=255*33554432:=by rw[ht];exact Nat.mul_le_mul (by omega) hd
   have h4:(y:Int)*2^r=(t:Int):=by rw[ht];simp
   have s1:IntKind.u64.wrap ((y:Int)*2^r)=(t:Int):=by rw[h4,wrap64 t (by omega)]
   have s2:((y:Int)*2^r) % 18446744073709551616=(t:Int):=by rw[h4];omega
   obtain⟨v,hv⟩:=EX (x+t)
   have hadd:IntKind.u64.wrap ((x:Int)+(t:Int))=(v:Int):=by
    rw[show ((x:Int)+(t:Int))=((v:Nat):Int) by omega,wrap64 v (by omega)]
   have ha:(rawI xs n).set q v=rawI xs (n+1):=by
    rw[rawI,<-hq,<-hr,<-hx,hy,hv,ht];rfl
   have N1:Hid (Blk (wr.drew.setCell ⟨G,q,none⟩ (.int .u64 (v:Int))) R 213 Z∧Blk (wr.drew.setCell ⟨G,q,none⟩ (.int .u64 (v:Int))) G 213 (ul (rawI xs (n+1)))∧N0 w (wr.drew.setCell ⟨G,q,none⟩ (.int .u64 (v:Int)))):=by
    have oc:=((Only.refl (λk=>k=G) wr).drew).setCell (p:=⟨G,q,none⟩) (λ_=>rfl) (.int .u64 (v:Int));refine⟨hR.keep oc HG.o.2.2,?_,hO.trans oc (λi hi e=>by have:=HG.o.1;omega)⟩;have h:=hS.drew.set q (.int .u64 (v:Int));rw[W7,ha] at h;exact h
   have h3:IntKind.i64.wrap ((n:Int)*8)=((8*n:Nat):Int):=by rw[IntKind.wrap_i64];omega
   have hm2:(n:Int)*8=((8*n:Nat):Int):=by omega
   obtain⟨p,hp⟩:=EX (8*n);rw[<-hp] at h3 hm2 hq hr
   have hdv:(p:Int).tdiv 26=(q:Int):=by rw[Int.tdiv_eq_ediv_of_nonneg (by omega)];omega
   have hdv2:(p:Int) / 26=(q:Int):=by omega
   have hmd:(p:Int).tmod 26=(r:Int):=by rw[Int.tmod_eq_emod_of_nonneg (by omega)];omega
   have hmd2:(p:Int) % 26=(r:Int):=by omega
   have hq6:(q:Int)<5:=by omega
   have hr6:(r:Int)<=64:=by omega
   have i1:(n:Int)<m:=by omega
   clear hS hR hO h2 hy h9 hx hd ht htl h4 hv ha hq hr hp h5;go_wp2_with fail;go_region
   all_goals go_wp2
   all_goals go_roundw
   case rel=>exact⟨n+1,by omega,by go_num,N1.o⟩
   case measure=>simp[intOf];omega
  ·obtain rfl:n=m:=by omega
   have A:=Qa (Vn (rawI xs n) (Km _ _) ((Nd xs H8.o.1 n).mono (by have:=H8.o.2;have:=HM.o;omega)) wr)
   have HN:Hid ((prog.info? 213).map (·.size)=some (ul (rawI xs n)).toArray.size∧(ul (rawI xs n)).toArray.size=D.toArray.size):=by
    refine⟨YJ _ (Km _ _),?_⟩;rw[HD.o.1];simp[QS,Km,Uq]
   have S1:=Qa hS;have R1:=Qa hR;have O1:=Qa hO
   have ED:ul (sdg (rawI xs n) 0)=D:=by rw[HD.o.1,nmb,HM.o]
   rw[ED] at A;obtain⟨NN,h7⟩:=EX (ul (rawI xs n));rw[<-h7] at A HN S1;clear hS hR hO ED h7;go_wp2_with (first|(refine wpList_load_row rfl 213 (.tmp 3) rfl G rfl 213 NN.toArray (0,0) _ S1.o underlying213 rfl HN.o.1 ?_));refine A.o.mono ?_;rintro e w1 ⟨rfl,o1⟩;have S2:=Qa (S1.o.past o1);have R2:=Qa (R1.o.past o1);have O2:=Qa (O1.o.same o1);have S3:=Qa (S2.o.row D);have R3:Hid (Blk (w1.setRow G D.toArray) R 213 Z):=R2.o.keep ((Only.refl (λk=>k=G) _).setRow (λ_=>rfl) _) HG.o.2.2;clear o1 S1 R1 O1 A;go_wp2_with (first|(refine wpList_store_row rfl 213 (.tmp 3) (.tmp 31) rfl G D.toArray rfl rfl 213 NN.toArray S2.o h0.o HN.o.2 HA.o ?_)|(refine wpList_load_row rfl 213 (.tmp 3) rfl G rfl 213 D.toArray (0,0) _ S3.o underlying213 rfl h0.o ?_)|(refine wpList_store_row rfl 213 (.tmp 2) (.tmp 33) rfl R D.toArray rfl rfl 213 Z.toArray R3.o h0.o HZ2.o HA.o ?_));refine bodyPost_ret (v:=.agg D.toArray) (results_cell_row rfl _ _ R 213 D.toArray (0,0) _ rfl (R3.o.row D) underlying213 rfl h0.o) rfl ⟨rfl,?_⟩;exact (O2.o.setRow (λh=>absurd h (by have:=HG.o.1;omega)) _).setRow (λh=>absurd h (by have:=HG.o.2.1;omega)) _
end Go.Proofs.YtoflhbghdlaeaaaGreatDoor
