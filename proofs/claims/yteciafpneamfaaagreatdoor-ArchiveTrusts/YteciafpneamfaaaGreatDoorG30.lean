import Derived.Test.YteciafpneamfaaaGreatDoorG29
namespace Go.Proofs.YteciafpneamfaaaGreatDoor
set_option maxHeartbeats 1600000
set_option maxRecDepth 100000
open Go.RowKit _root_.Go.Proofs.Tryz
theorem Vz (t:Int) (w:World) (h0:0<=t) (h1:t<=4):Calls prog 175 #[.int .i64 t] w λe w'=>e=.returned (.bool true)∧w=w':=by
 have d0:decide (0<=t)=true:=Qc h0;have d1:decide (t<5)=true:=Qc (by omega);clear h0 h1;go_enter func175,ntmps175;go_wp2;go_ret;exact⟨rfl,rfl⟩
theorem My (t:Int) (w:World) (h:t<0∨4<t):Calls prog 175 #[.int .i64 t] w λe w'=>e=.returned (.bool false)∧w=w':=by
 by_cases h0:t<0
 case' pos=>have d0:decide (0<=t)=false:=Qh (by omega)
 case' neg =>
  have d0:decide (0<=t)=true:=Qc (by omega);have d1:decide (t<5)=false:=Qh (by omega)
 all_goals
  clear h0 h;go_enter func175,ntmps175;go_wp2;go_ret;exact⟨rfl,rfl⟩
theorem Sr (t:Nat) (w:World) (h0:1<=t) (h1:t<=4):Calls prog 178 #[.int .i64 t] w λe w'=>e=.returned (.int .i64 (tms t))∧w=w':=by
 rcases (by omega:t=1∨t=2∨t=3∨t=4) with rfl | rfl | rfl | rfl
 case' inl=>rw[show ((1:Nat):Int)=1 from rfl]
 case' inr.inl=>rw[show ((2:Nat):Int)=2 from rfl]
 case' inr.inr.inl=>rw[show ((3:Nat):Int)=3 from rfl]
 case' inr.inr.inr=>rw[show ((4:Nat):Int)=4 from rfl]
 all_goals
  go_enter func178,ntmps178;go_wp2;go_ret;exact⟨rfl,rfl⟩
theorem AO (l:LI) (k:Nat) (h:k<l.length):fx (l.take (k+1))=fx (l.take k)++fixL (u64o (l.getD k 0)) 8:=by
 rw[U9 l k h,Aj]
theorem qS (v:Value) (l:LI) (w:World) (h:Bs .i64 w v l) (hl:l.length<=65536) :
 Calls prog 176 #[v] w λe w'=>∃u,e=.returned u∧w'.ownsRow w.heap.size 5 1 u (fx l).length ((fx l).map (Value.int .u8))∧N0 w w':=by
 obtain⟨i0,hi,hz0,hz1,hz2⟩:=info_parts Tryz.infoU8;have HB:=Qa h;obtain⟨ao,cap,rfl⟩:=h.len;obtain⟨n,hn⟩:=EX l.length;rw[<-hn] at hl HB;rw[<-hn];have HN:=Qa hn;clear h hn;go_enter func176,ntmps176;go_wp2
 go_loopw [3,8] (λs i wr=>∃k:Nat,k<=n∧i=.int .i64 k∧wr.ownsRow w.heap.size 5 1 s (fx (l.take k)).length ((fx (l.take k)).map (Value.int .u8))∧N0 w wr) (λ_ i _=>n - (intOf i).toNat)
 case atStart=>exact⟨0,Nat.zero_le _,rfl,World.ownsRow_nil _ _ _ _,Only.refl _ _⟩
 case round =>
  obtain⟨k,hk,rfl,h2,h3⟩:=hrel;have h0:=Qa h2;have h4:=Qa h3
  by_cases hlt:k<n
  ·have dlt:decide ((k:Int)<(n:Int))=true:=by simp;omega
   obtain⟨b,off,cap',e1,hc0⟩:=(HB.o.past h3).at k (by rw[<-HN.o];exact hlt)
   have ea:ao=some ⟨b,off,none⟩:=by simp at e1;exact e1.1
   subst ea;clear e1;have ha:=Qa (AO l k (by rw[<-HN.o];exact hlt))
   have h9:Hid ((fx (l.take k)).length<=8*n):=by
    simp only[Hid];rw[Z8,Qg];omega
   obtain⟨f1,h5⟩:=EX (fx (l.take (k+1)));rw[<-h5] at ha;have HF1:=Qa h5;clear h5;generalize fx (l.take k)=f0 at *;generalize l.getD k 0=x at *;clear h2 h3 HB;go_wp2_with fail;refine (UF _ 8 wr (by omega)).mono ?_;rintro e w4 ⟨u,rfl,h1,o4⟩;rw[IntKind.wrap_u64] at h1;have ow:=o4.own h0.o (λ_ _ f=>f);have h7:=Bs.of_own h1;have h8:=Qa (NoCap.of_own h1);have hb:=Qa h7;have hs4:w.heap.size<=w4.heap.size:=Nat.le_trans h4.o.size o4.size;have O4:=Qa (h4.o.trans o4 (λ_ _ f=>f));obtain⟨a4,c4,e4⟩:=h7.len;subst e4;clear o4 h1 h4 h0 h7;rw[Qt] at hb h8;go_wp2_with (at_builtin;refine Yr _ rfl _ _ _ rfl w.heap.size 5 i0 (.int .u8 0) 1 underlying22 hi hz0 hz1 hz2 rfl _ _ _ rfl ow .u8 _ (fixL (x % 18446744073709551616) 8) rfl hb.o h8.o ?c3 ?c4 hs4 ?_)
   case c3=>have:=h9.o;rw[Qt];unfold maxLen;omega
   case c4=>have:=h9.o;rw[Qt];omega
   intro v6 w6 own6 hgrow6 _ _
   have h6:Hid (w6.ownsRow w.heap.size 5 1 v6 f1.length (f1.map (Value.int .u8))):=by
    simp only[Hid];rw[ha.o,Qb,List.map_append];exact own6
   have O6:=Qa (O4.o.grown hgrow6 (λk hk e=>absurd (ow.lt k e).1 (by omega)));clear ow own6 hgrow6;go_wp2
   go_roundw
   case rel=>exact⟨k+1,by omega,by go_num,by rw[<-HF1.o];exact h6.o,O6.o⟩
   case measure=>simp[intOf];omega
  ·obtain rfl:k=n:=by omega
   have dlt:decide ((k:Int)<(k:Int))=false:=by simp
   rw[HN.o,List.take_length] at h0;clear h2 h3;go_wp2;go_ret;exact⟨_,rfl,h0.o,h4.o⟩
def zpart (l:LI) (n k:Nat):LI:=zsn (l.take k)++List.replicate (n - k) 0
theorem EF (l:LI) (k:Nat) (hk:k<=l.length):(zpart l l.length k).length=l.length:=by
 simp only[zpart,Qb,ZS,Qg,List.length_replicate];omega
theorem jh (l:LI) (n:Nat):(zpart l n 0).map (Value.int .u64)=(madeCells #[Value.int .u64 0] (n*1)).toList:=by
 apply List.ext_getElem?
 intro i
 by_cases h:i<n
 ·simp[zpart,zsn,madeCells,h,Nat.mod_one]
 ·simp[zpart,zsn,madeCells,h]
theorem AR (l:LI):zpart l l.length l.length=zsn l:=by simp[zpart]
theorem jd (l:LI) (k:Nat) (h:k<l.length):(zpart l l.length k).set k (zig (l.getD k 0))=zpart l l.length (k+1):=by
 unfold zpart
 have h0:(zsn (l.take k)).length=k:=by rw[ZS,Qg];omega
 rw[show l.length - k=(l.length - (k+1))+1 by omega,List.replicate_succ,List.set_append_right _ _ (by omega),h0,Nat.sub_self,Qn,U9 l k h];simp[zsn]
theorem qx (v:Value) (l:LI) (w:World) (h:Bs .i64 w v l) (hg:I64s l) (hl:l.length<=65536) :
 Calls prog 180 #[v] w λe w'=>∃u,e=.returned u∧w'.ownsRow w.heap.size 23 1 u (zsn l).length ((zsn l).map (Value.int .u64))∧N0 w w':=by
 obtain⟨i0,hi,hz0,hz1,hz2⟩:=info_parts Tryz.infoU64;have HB:=Qa h;have HG:=Qa hg;obtain⟨ao,cap,rfl⟩:=h.len;obtain⟨n,hn⟩:=EX l.length;rw[<-hn] at hl HB;rw[<-hn];have HN:=Qa hn;obtain⟨wm,ha,h3,h9⟩:=run_make_full (P:=prog) w w.heap.size 161 23 i0 (.int .u64 0) 1 underlying161 hi hz0 hz1 .i64 .i64 n (by rw[hz2];omega) (by unfold maxLen;omega) (Nat.le_refl _)
 have h0:Hid (wm.ownsRow w.heap.size 23 1 (.slice (some ⟨w.heap.size,0,none⟩) n n) n ((zpart l n 0).map (Value.int .u64))∧N0 w wm):=by
  rw[show (Value.int .u64 0).cells=#[Value.int .u64 0] from rfl] at h3;rw[jh];exact⟨h3,(Only.refl _ _).grown h9 (λ_ _ e=>by cases e)⟩
 clear h3 h9;obtain⟨N,hN⟩:=EX w.heap.size;rw[<-hN] at ha h0;rw[<-hN];have HNN:=Qa hN;clear h hn hN hg;go_enter func180,ntmps180;go_wp2
 go_loopw [11] (λi wr=>∃k:Nat,k<=n∧i=.int .i64 k∧wr.ownsRow N 23 1 (.slice (some ⟨N,0,none⟩) n n) n ((zpart l n k).map (Value.int .u64))∧N0 w wr) (λi _=>n - (intOf i).toNat)
 case atStart=>exact⟨0,Nat.zero_le _,rfl,h0.o.1,h0.o.2⟩
 case round =>
  obtain⟨k,hk,rfl,h2,h7⟩:=hrel;clear h0 ha;have h5:=Qa h2;have he:=Qa h7
  by_cases hlt:k<n
  ·have dlt:decide ((k:Int)<(n:Int))=true:=by simp;omega
   have h8:k<l.length:=by rw[<-HN.o];exact hlt
   obtain⟨b,off,cap',e1,hc0⟩:=(HB.o.past h7).at k h8
   have ea:ao=some ⟨b,off,none⟩:=by simp at e1;exact e1.1
   subst ea;clear e1;have hx:=HG.o (l.getD k 0) (V7 l k h8)
   have h4:∃y,wr.cell? ⟨N,k,none⟩=some (.int .u64 y):=by
    have hz:=EF l k (by omega);rw[<-HN.o] at hz;refine⟨(zpart l n k).getD k 0,?_⟩;rw[h2.cellAt k (by omega),List.getElem?_map,Qi (by rw[hz];omega),Qd,Qi (by rw[hz];omega)]
    rfl
   obtain⟨y,hy⟩:=h4;have hfr:wr.frozen? ⟨N,k,none⟩=false:=h2.frozenAt _
   have h6:Hid (((zpart l n k).map (Value.int .u64)).set k (.int .u64 (zig (l.getD k 0)))=(zpart l n (k+1)).map (Value.int .u64)):=by
    simp only[Hid];rw[<-List.map_set,HN.o,jd l k h8]
   generalize l.getD k 0=x at *;clear h2 h7 HB HG h8;go_wp2_with fail;refine (LP x wr hx.1 hx.2).mono ?_;rintro e w1 ⟨rfl,rfl⟩;go_wp2
   go_roundw
   case rel =>
    refine⟨k+1,by omega,by go_num,?_,?_⟩
    ·have h1:=(h5.o.stored k (.int .u64 (zig x))).1
     rw[h6.o] at h1;exact h1
    ·refine he.o.setCell (λhb=>?_) _
     have:=HNN.o;simp only at hb;omega
   case measure=>simp[intOf];omega
  ·obtain rfl:k=n:=by omega
   have dlt:decide ((k:Int)<(k:Int))=false:=by simp
   have F:Hid (wr.ownsRow N 23 1 (.slice (some ⟨N,0,none⟩) k k) (zsn l).length ((zsn l).map (Value.int .u64))):=by
    have h1:=h5.o;have hd:=HN.o;simp only[Hid];rw[ZS,<-hd];rw[show zpart l k k=zsn l by rw[hd];exact AR l] at h1;exact h1
   clear h2 h7;go_wp2;go_ret;exact⟨_,rfl,F.o,he.o⟩
theorem yz (v:Value) (l:LI) (w:World) (h:Bs .u64 w v l) (hu:U64 l) (hl:l.length<=65536) :
 Calls prog 211 #[v] w λe w'=>∃u,e=.returned u∧w'.ownsRow w.heap.size 5 1 u (allG l).length ((allG l).map (Value.int .u8))∧N0 w w':=by
 obtain⟨i0,hi,hz0,hz1,hz2⟩:=info_parts Tryz.infoU8;have HB:=Qa h;have HU:=Qa hu;obtain⟨ao,cap,rfl⟩:=h.len;obtain⟨n,hn⟩:=EX l.length;rw[<-hn] at hl HB;rw[<-hn];have HN:=Qa hn;clear h hn hu;go_enter func211,ntmps211;go_wp2
 go_loopw [3,8] (λs i wr=>∃k:Nat,k<=n∧i=.int .i64 k∧wr.ownsRow w.heap.size 5 1 s (allG (l.take k)).length ((allG (l.take k)).map (Value.int .u8))∧N0 w wr) (λ_ i _=>n - (intOf i).toNat)
 case atStart=>exact⟨0,Nat.zero_le _,rfl,World.ownsRow_nil _ _ _ _,Only.refl _ _⟩
 case round =>
  obtain⟨k,hk,rfl,h2,h4⟩:=hrel;have h0:=Qa h2;have h6:=Qa h4
  by_cases hlt:k<n
  ·have dlt:decide ((k:Int)<(n:Int))=true:=by simp;omega
   have h5:k<l.length:=by rw[<-HN.o];exact hlt
   obtain⟨b,off,cap',e1,hc0⟩:=(HB.o.past h4).at k h5
   have ea:ao=some ⟨b,off,none⟩:=by simp at e1;exact e1.1
   subst ea;clear e1;have hx:=HU.o (l.getD k 0) (V7 l k h5);have hb:=Qa (zG l k h5)
   have ha:Hid ((allG (l.take k)).length<=10*n):=by
    simp only[Hid];rw[HN.o];exact tV l k HU.o
   have h3:=Qa (Yw (v:=(l.getD k 0).toNat) (by omega));obtain⟨f1,h7⟩:=EX (allG (l.take (k+1)));rw[<-h7] at hb;have HF1:=Qa h7;clear h7;generalize allG (l.take k)=f0 at *;generalize l.getD k 0=x at *;clear h2 h4 HB h5;go_wp2_with fail;refine (UQ (.slice none 0 0) [] x wr (Bs.nil _ _) NoCap.nil (by simp) hx.1 hx.2).mono ?_;rintro e w4 ⟨u,rfl,h1,o4⟩;rw[List.nil_append] at h1;have ow:=o4.own h0.o (λ_ _ f=>f);have h9:=Bs.of_own h1;have NC4:=Qa (NoCap.of_own h1);have HB4:=Qa h9;have hs4:w.heap.size<=w4.heap.size:=Nat.le_trans h6.o.size o4.size;have O4:=Qa (h6.o.trans o4 (λ_ _ f=>f));obtain⟨a4,c4,e4⟩:=h9.len;subst e4;clear o4 h1 h6 h0 h9;generalize gs x.toNat=g at *;go_wp2_with (at_builtin;refine Yr _ rfl _ _ _ rfl w.heap.size 5 i0 (.int .u8 0) 1 underlying22 hi hz0 hz1 hz2 rfl _ _ _ rfl ow .u8 _ g rfl HB4.o NC4.o ?c3 ?c4 hs4 ?_)
   case c3=>have:=ha.o;have:=h3.o;unfold maxLen;omega
   case c4=>have:=ha.o;have:=h3.o;omega
   intro v6 w6 own6 hgrow6 _ _
   have h8:Hid (w6.ownsRow w.heap.size 5 1 v6 f1.length (f1.map (Value.int .u8))):=by
    simp only[Hid];rw[hb.o,Qb,List.map_append];exact own6
   have O6:=Qa (O4.o.grown hgrow6 (λk hk e=>absurd (ow.lt k e).1 (by omega)));clear ow own6 hgrow6;go_wp2
   go_roundw
   case rel=>exact⟨k+1,by omega,by go_num,by rw[<-HF1.o];exact h8.o,O6.o⟩
   case measure=>simp[intOf];omega
  ·obtain rfl:k=n:=by omega
   have dlt:decide ((k:Int)<(k:Int))=false:=by simp
   rw[HN.o,List.take_length] at h0;clear h2 h4;go_wp2;go_ret;exact⟨_,rfl,h0.o,h6.o⟩
theorem tI (l:LI) (k:Nat):zsn (l.drop k)=(zsn l).drop k:=by simp[zsn,List.map_drop]
theorem uY {l:LI} (h:0<l.length):(zsn l).getD 0 0=zig (l.getD 0 0):=by
 cases l with
 | nil=>simp at h
 | cons a t=>rfl
theorem kA {z:LI} (hu:U64 z) (hl:z.length<=65536) (t:Nat):(WOTH z t).1.length<=10000000:=by
 unfold WOTH
 by_cases h2:t=2
 ·rw[if_pos h2]
  have h1:=ET z;have h3:z.length*wd z<=65536*64:=Nat.mul_le_mul hl (wd_le hu);have h4:=Yw (v:=(lo z).toNat) (by have:=lohi hu;omega);simp only;omega
 ·rw[if_neg h2]
  by_cases h3:t=3
  ·rw[if_pos h3]
   have:=vI (xs:=z) (λx hx=>(hu x hx).1);omega
  ·rw[if_neg h3]
   by_cases h4:t=4
   ·rw[if_pos h4]
    have:=T9 z hu (by omega);simp only;omega
   ·rw[if_neg h4]
    have:=Su z hu;simp only;omega
theorem kH (v:Value) (z:LI) (t:Nat) (w:World) (h:Bs .u64 w v z) (hu:U64 z) (hl:z.length<=65536) (h1:1<=t) (h4:t<=4) :
 Calls prog 179 #[v,.int .i64 t] w λe w'=>∃u,e=.returned (.tuple #[u,.int .i64 (WOTH z t).2])∧w'.ownsRow w.heap.size 5 1 u (WOTH z t).1.length ((WOTH z t).1.map (Value.int .u8))∧N0 w w':=by
 rcases (by omega:t=1∨t=2∨t=3∨t=4) with rfl | rfl | rfl | rfl
 case' inl=>have A:=Qa (yz v z w h hu hl);rw[show ((1:Nat):Int)=1 from rfl]
 case' inr.inl=>have A:=Qa (Jn v z w h hu hl);rw[show ((2:Nat):Int)=2 from rfl]
 case' inr.inr.inl=>have A:=Qa (vP v z w h hu);rw[show ((3:Nat):Int)=3 from rfl]
 case' inr.inr.inr=>have A:=Qa (rp v z w h hu hl);rw[show ((4:Nat):Int)=4 from rfl]
 all_goals
  obtain⟨ao,cap,rfl⟩:=h.len;clear h hu hl;go_enter func179,ntmps179;go_wp2_with fail;refine A.o.mono ?_;rintro e w1 ⟨u,rfl,h0,o1⟩;have F:=Qa (And.intro h0 o1);obtain⟨f1,c1,e1⟩:=(Bs.of_own h0).len;subst e1;clear A h0 o1;go_wp2
  try rw[Exit.noGoto_ret]
  go_ret2;exact⟨_,rfl,F.o.1,F.o.2⟩
theorem Oo (v:Value) (tag:Int) (w:World) (ht:tag<0∨4<tag) :
 Calls prog 148 #[v,.int .i64 tag] w λe w'=>e=.returned (.tuple #[.slice none 0 0,.int .i64 1])∧w=w':=by
 have A:=Qa (My tag w ht);clear ht;go_enter func148,ntmps148;go_wp2_with fail;refine A.o.mono ?_;rintro e w1 ⟨rfl,rfl⟩;go_wp2
 try rw[Exit.noGoto_ret]
 go_ret2;exact⟨rfl,rfl⟩
theorem Sj (v:Value) (l:LI) (t:Nat) (w:World) (h:Bs .i64 w v l) (hl:65536<l.length) (ht:t<=4) :
 Calls prog 148 #[v,.int .i64 t] w λe w'=>e=.returned (.tuple #[.slice none 0 0,.int .i64 4])∧w=w':=by
 have A:=Qa (Vz t w (by omega) (by omega));obtain⟨ao,cap,rfl⟩:=h.len;have d0:decide ((65536:Int)<l.length)=true:=Qc (by omega);clear h hl ht;generalize l.length=n at *;go_enter func148,ntmps148;go_wp2_with fail;refine A.o.mono ?_;rintro e w1 ⟨rfl,rfl⟩;go_wp2
 try rw[Exit.noGoto_ret]
 go_ret2;exact⟨rfl,rfl⟩
theorem I0 (v:Value) (t:Nat) (w:World) (h:Bs .i64 w v []) (ht:t<=4) :
 Calls prog 148 #[v,.int .i64 t] w λe w'=>e=.returned (.tuple #[.slice none 0 0,.int .i64 0])∧w=w':=by
 have A:=Qa (Vz t w (by omega) (by omega));obtain⟨ao,cap,e0⟩:=h.len;rw[List.length_nil] at e0;subst e0;clear h ht;go_enter func148,ntmps148;go_wp2_with fail;refine A.o.mono ?_;rintro e w1 ⟨rfl,rfl⟩;go_wp2
 try rw[Exit.noGoto_ret]
 go_ret2;exact⟨rfl,rfl⟩
theorem qm (v:Value) (l:LI) (w:World) (h:Bs .i64 w v l) (hl:l.length<=65536) (hp:0<l.length) :
 Calls prog 148 #[v,.int .i64 0] w λe w'=>∃u,e=.returned (.tuple #[u,.int .i64 0])∧w'.ownsRow w.heap.size 5 1 u (fx l).length ((fx l).map (Value.int .u8))∧N0 w w':=by
 have A:=Qa (Vz 0 w (by omega) (by omega));have B:=Qa (qS v l w h hl);obtain⟨ao,cap,rfl⟩:=h.len;have d0:decide ((65536:Int)<l.length)=false:=Qh (by omega)
 have d1:((l.length:Int) == 0)=false:=by rw[beq_eq_false_iff_ne];omega
 clear h hl hp;generalize l.length=n at *;go_enter func148,ntmps148;go_wp2_with fail;refine A.o.mono ?_;rintro e w1 ⟨rfl,rfl⟩;go_wp2_with fail;refine B.o.mono ?_;rintro e w1 ⟨u,rfl,h0,o1⟩;have F:=Qa (And.intro h0 o1);obtain⟨f1,c1,e1⟩:=(Bs.of_own h0).len;subst e1;clear A B h0 o1;go_wp2
 try rw[Exit.noGoto_ret]
 go_ret2;exact⟨_,rfl,F.o.1,F.o.2⟩
theorem ph (v:Value) (l:LI) (t:Nat) (w:World) (h:Bs .i64 w v l) (hg:I64s l) (hl:l.length<=65536) (hp:0<l.length) (h1:1<=t) (h4:t<=4) :
 Calls prog 148 #[v,.int .i64 t] w λe w'=>∃u,e=.returned (.tuple #[u,.int .i64 (QB l t).2])∧w'.ownsRow w.heap.size 5 1 u (QB l t).1.length ((QB l t).1.map (Value.int .u8))∧N0 w w':=by
 have A:=Qa (Vz t w (by omega) (by omega));have TM:=Qa (Sr t w h1 h4);have DF:=Qa (xR v l (tms t) w h (by omega) (Mn t));have h8:=Qa (Xa (tms t) l);have hs:=Qa (D_i64 hg (tms t))
 have WO:Hid (∀(u:Value) (w2:World),Bs .u64 w2 u ((zsn (D (tms t) l)).drop 1)->Calls prog 179 #[u,.int .i64 t] w2 λe w'=>∃u',e=.returned (.tuple #[u',.int .i64 (WOTH ((zsn (D (tms t) l)).drop 1) t).2])∧w'.ownsRow w2.heap.size 5 1 u' (WOTH ((zsn (D (tms t) l)).drop 1) t).1.length ((WOTH ((zsn (D (tms t) l)).drop 1) t).1.map (Value.int .u8))∧N0 w2 w') :=
  λu w2 hb=>kH u _ t w2 hb ((Xx hg _).drop 1) (by rw[Qm,Gw];omega) h1 h4
 have hm:=Qa (kA (z:=(zsn (D (tms t) l)).drop 1) ((Xx hg _).drop 1) (by rw[Qm,Gw];omega) t)
 have h0:Hid (QB l t=if (WOTH ((zsn (D (tms t) l)).drop 1) t).2≠0 then ([],(WOTH ((zsn (D (tms t) l)).drop 1) t).2) else (gs (zig ((D (tms t) l).getD 0 0)).toNat++(WOTH ((zsn (D (tms t) l)).drop 1) t).1,0)):=by
  simp only[Hid];unfold QB;rw[if_neg (List.length_pos_iff.1 hp),if_neg (by omega),uY (by rw[Xa];exact hp)]
 obtain⟨ao,cap,rfl⟩:=h.len;have d0:decide ((65536:Int)<l.length)=false:=Qh (by omega)
 have d1:((l.length:Int) == 0)=false:=by rw[beq_eq_false_iff_ne];omega
 have d2:((t:Int) == 0)=false:=by rw[beq_eq_false_iff_ne];omega
 obtain⟨n,hn⟩:=EX l.length;rw[<-hn] at hl hp d0 d1 DF h8;rw[<-hn];clear h hg hn;obtain⟨z1,hq⟩:=EX ((zsn (D (tms t) l)).drop 1);rw[<-hq] at WO hm h0;have HZ1:=Qa hq;clear hq;generalize hWO:WOTH z1 t=W at *;clear hWO;obtain⟨W1,c⟩:=W;simp only at WO hm h0;generalize QB l t=Wl at *;generalize hDD:D (tms t) l=d at *;clear hDD;generalize tms t=k at *;go_enter func148,ntmps148;go_wp2_with fail;refine A.o.mono ?_;rintro e w1 ⟨rfl,rfl⟩;clear A;go_wp2_with fail;refine TM.o.mono ?_;rintro e w1 ⟨rfl,rfl⟩;clear TM;go_wp2_with fail;refine DF.o.mono ?_;rintro e w1 ⟨v1,rfl,ha,o1⟩;clear DF;have hj:=Qa ha;have hd:Bs .i64 w1 v1 d:=Bs.of_own (by rw[h8.o];exact ha);have hh:=Qa hd;obtain⟨a1,h2,e1⟩:=hd.len;rw[h8.o] at e1;subst e1
 have hc1:n<=h2:=by
  obtain⟨ao',hf,e2,hc,_⟩:=hd;rw[h8.o] at hc;simp at e2;omega
 have HO1:=Qa o1;clear ha o1 hd
 have j0:(1:Int)<=(n:Int):=by omega
 have j1:(1:Int)<=(h2:Int):=by omega
 by_cases hcc:h2=1
 case' pos =>
  subst hcc
  obtain rfl:n=1:=by omega
  have hr:Bs .i64 w1 (.slice a1 0 0) (d.drop 1):=by have:=hh.o.cut0 (n:=1) (by omega);simpa using this
 case' neg =>
  have hcx:¬((h2:Int) - 1=0):=by omega
  have hr:Bs .i64 w1 (.slice (a1.map (λx=>x.add 1)) (n - 1) (h2 - 1)) (d.drop 1):=by have:=hh.o.cut (n:=1) (by omega);simpa using this
 all_goals
  have ZG:=Qa (qx _ (d.drop 1) w1 hr (λx hx=>hs.o x (List.mem_of_mem_drop hx)) (by rw[Qm,h8.o];omega));rw[tI,<-HZ1.o] at ZG;clear hr;go_wp2_with fail;refine ZG.o.mono ?_;rintro e w2 ⟨v2,rfl,h9,o2⟩;clear ZG;have W2:=Qa (WO.o v2 w2 (Bs.of_own h9));have O12:=Qa o2;have ho:=Qa (o2.own hj.o (λ_ _ f=>f));obtain⟨f2,c2,e2⟩:=(Bs.of_own h9).len;subst e2;clear h9 o2;go_wp2_with fail;refine W2.o.mono ?_;rintro e w3 ⟨v3,rfl,h6,o3⟩;clear W2;have ht:=Qa (O12.o.same o3);have hu:=Qa (HO1.o.same ht.o);have OWN3:=Qa (o3.own ho.o (λ_ _ f=>f));have HB3:=Qa (Bs.of_own h6);have NC3:=Qa (NoCap.of_own h6);obtain⟨f3,c3,e3⟩:=(Bs.of_own h6).len;subst e3;clear h6 o3
  by_cases hc:c=0
  ·subst hc
   have hx:=hs.o (d.getD 0 0) (V7 d 0 (by rw[h8.o];omega));have he:=Pq _ hx.1 hx.2;obtain⟨b,off,hf,e4,h7⟩:=(hh.o.past ht.o).at 0 (by rw[h8.o];omega)
   have ea:a1=some ⟨b,off,none⟩:=by simp at e4;exact e4.1
   subst ea;clear e4;rw[Nat.add_zero] at h7;rw[if_neg (by simp)] at h0;obtain⟨x,hw⟩:=EX (d.getD 0 0);rw[<-hw] at h7 hx he h0;have ZA:=Qa (LP x w3 hx.1 hx.2);have AA:=Qa (UQ (.slice none 0 0) [] (zig x) w3 (Bs.nil _ _) NoCap.nil (by simp) he.1 he.2);have H10:=Qa (Yw (v:=(zig x).toNat) (by omega));have HGP:=Qa (VE (zig x).toNat);clear hw hx he;go_wp2_with fail;refine ZA.o.mono ?_;rintro e w3' ⟨rfl,rfl⟩;clear ZA;go_wp2_with fail;refine AA.o.mono ?_;rintro e w4 ⟨v4,rfl,h3,o4⟩;clear AA;rw[List.nil_append] at h3;have hk:Below w4.heap.size w4 (w4.alloc (.cells #[v4,.slice f3 W1.length c3] 22)):=(Below.refl _ _).alloc (Nat.le_refl _) _;have CC:=Qa (WZ w4.heap.size v4 _ (gs (zig x).toNat) W1 (w4.alloc (.cells #[v4,.slice f3 W1.length c3] 22)) (by go_cell) (by go_cell) ((Bs.of_own h3).later hk) ((HB3.o.past o4).later hk) (NoCap.of_own h3) NC3.o (by have:=HGP.o;omega) (by have:=H10.o;have:=hm.o;omega));have O4:=Qa ((hu.o.same o4).alloc (.cells #[v4,.slice f3 W1.length c3] 22));obtain⟨f4,c4,e4⟩:=(Bs.of_own h3).len;subst e4;clear h3 o4 hk;generalize gs (zig x).toNat=g at *;go_wp2_with fail;refine CC.o.mono ?_;rintro e w5 ⟨v5,rfl,h5,o5⟩;clear CC;obtain⟨gw,hv⟩:=EX (g++W1);rw[<-hv] at h5 h0;have eW:=h0.o;subst eW;have F:=Qa (And.intro (Qr h5 O4.o.size) (O4.o.same o5));clear hv h0;obtain⟨f5,c5,e5⟩:=(Bs.of_own h5).len;subst e5;clear h5 o5;go_wp2
   try rw[Exit.noGoto_ret]
   go_ret2;exact⟨_,rfl,F.o.1,F.o.2⟩
  ·have dc:(c != 0)=true:=by simp;exact hc
   rw[if_pos hc] at h0;have eW:=h0.o;subst eW;clear h0;go_wp2
   try rw[Exit.noGoto_ret]
   go_ret2;exact⟨_,rfl,World.ownsRow_nil _ _ _ _,hu.o⟩
theorem yj (v:Value) (l:LI) (tag:Int) (w:World) (h:Bs .i64 w v l) (hg:I64s l) :
 Calls prog 148 #[v,.int .i64 tag] w λe w'=>∃u,e=.returned (.tuple #[u,.int .i64 (WAY8 l tag).2])∧w'.ownsRow w.heap.size 5 1 u (WAY8 l tag).1.length ((WAY8 l tag).1.map (Value.int .u8))∧N0 w w':=by
 unfold WAY8
 by_cases ht:tag<0∨4<tag
 ·rw[if_pos ht]
  refine (Oo v tag w ht).mono ?_;rintro e w' ⟨rfl,rfl⟩;exact⟨_,rfl,World.ownsRow_nil _ _ _ _,Only.refl _ _⟩
 ·rw[if_neg ht]
  obtain⟨t,rfl⟩:=Int.eq_ofNat_of_zero_le (show 0<=tag by omega)
  by_cases hl:65536<l.length
  ·rw[if_pos hl]
   refine (Sj v l t w h hl (by omega)).mono ?_;rintro e w' ⟨rfl,rfl⟩;exact⟨_,rfl,World.ownsRow_nil _ _ _ _,Only.refl _ _⟩
  ·rw[if_neg hl,Int.toNat_natCast]
   by_cases hne:l=[]
   ·subst hne
    rw[Aq];refine (I0 v t w h (by omega)).mono ?_;rintro e w' ⟨rfl,rfl⟩;exact⟨_,rfl,World.ownsRow_nil _ _ _ _,Only.refl _ _⟩
   ·have hp:0<l.length:=List.length_pos_iff.2 hne
    by_cases h0:t=0
    ·subst h0
     rw[Wn];exact qm v l w h (by omega) hp
    ·exact ph v l t w h hg (by omega) hp (by omega) (by omega)
theorem Pf (v:Value) (l:LI) (t:Nat) (w:World) (h:Bs .i64 w v l) (hg:I64s l) (hl:l.length<=65536) (ht:t<=4) :
 Calls prog 148 #[v,.int .i64 t] w λe w'=>∃u,e=.returned (.tuple #[u,.int .i64 (QB l t).2])∧w'.ownsRow w.heap.size 5 1 u (QB l t).1.length ((QB l t).1.map (Value.int .u8))∧N0 w w':=by
 have:=yj v l t w h hg;rw[jg hl t ht] at this;exact this
theorem uA (l:LI) (t:Nat):(pick l t).2.length<=8*l.length:=by
 have h:=(Vl l t).2.2 0 (by omega) (by rw[Wn]);rw[Wn] at h;simp only[Z8] at h;exact h
theorem FO (v:Value) (l:LI) (w:World) (h:Bs .i64 w v l) (hl:65536<l.length) :
 Calls prog 110 #[v] w λe w'=>e=.returned (.tuple #[.slice none 0 0,.int .i64 4])∧w=w':=by
 have A:=Qa (Sj v l 0 w h hl (by omega));obtain⟨ao,cap,rfl⟩:=h.len;clear h hl;go_enter func110,ntmps110;go_wp2_with fail;refine A.o.mono ?_;rintro e w1 ⟨rfl,rfl⟩;go_wp2
 try rw[Exit.noGoto_ret]
 go_ret2;exact⟨rfl,rfl⟩
theorem EW (v:Value) (l:LI) (w:World) (h:Bs .i64 w v l) (hg:I64s l) (hl:l.length<=65536) :
 Calls prog 110 #[v] w λe w'=>∃u,e=.returned (.tuple #[u,.int .i64 0])∧w'.ownsRow w.heap.size 5 1 u (((pick l 4).1:Int) :: (pick l 4).2).length ((((pick l 4).1:Int) :: (pick l 4).2).map (Value.int .u8))∧N0 w w':=by
 have A:=Pf v l 0 w h hg hl (by omega);rw[Wn] at A;have A:=Qa A
 have WY:Hid (∀(t:Nat) (w1:World),t<=4->N0 w w1->Calls prog 148 #[v,.int .i64 t] w1 λe w'=>∃u,e=.returned (.tuple #[u,.int .i64 (QB l t).2])∧w'.ownsRow w1.heap.size 5 1 u (QB l t).1.length ((QB l t).1.map (Value.int .u8))∧N0 w1 w') :=
  λt w1 ht o=>Pf v l t w1 (h.past o) hg hl ht
 have HP:Hid (∀t,(pick l t).1<=t∧(pick l t).2.length<=8*l.length):=λt=>⟨(Vl l t).1,uA l t⟩
 have hd:Hid (∀t,pick l (t+1)=if (QB l (t+1)).2=0∧(QB l (t+1)).1.length<(pick l t).2.length then (t+1,(QB l (t+1)).1) else pick l t):=λt=>rfl
 have hf:Hid (pick l 0=(0,fx l)):=by simp only[Hid];rw[pick,Wn]
 obtain⟨pp,hb⟩:=EX (((pick l 4).1:Int) :: (pick l 4).2);rw[<-hb];have he:=Qa hb;clear hb;obtain⟨ao,cap,rfl⟩:=h.len;clear h hg;go_enter func110,ntmps110;go_wp2_with fail;refine A.o.mono ?_;rintro e w1 ⟨v1,rfl,h3,o1⟩;clear A;have h2:=Qa (And.intro h3 o1);obtain⟨f1,c1,e1⟩:=(Bs.of_own h3).len;subst e1;generalize hF:fx l=F0 at *;clear h3 o1;go_wp2
 go_loopw [4,5,7] (λs4 s5 s7 wr=>∃t:Nat,t<=4∧s7=.int .i64 ((t:Int)+1)∧s4=.int .i64 ((pick l t).1:Nat)∧wr.ownsRow w.heap.size 5 1 s5 (pick l t).2.length ((pick l t).2.map (Value.int .u8))∧N0 w wr) (λ_ _ s7 _=>5 - (intOf s7).toNat)
 case atStart =>
  have e:=hf.o;refine⟨0,by omega,rfl,by rw[e];rfl,?_,h2.o.2⟩;rw[e];exact h2.o.1
 case round =>
  obtain⟨t,ht,rfl,rfl,h5,hm⟩:=hrel;have h0:=Qa h5;have h8:=Qa hm;obtain⟨f2,c2,e2⟩:=(Bs.of_own h5).len;subst e2;clear h2 h5 hm;have hj:=(HP.o t).1;have h9:=Qa (HP.o t).2;have h1:=Qa (hd.o t)
  by_cases hlt:t<4
  ·have dlt:decide ((t:Int)+1<5)=true:=Qc (by omega)
   have WT:=WY.o (t+1) wr (by omega) h8.o;rw[Int.natCast_succ] at WT;have WT:=Qa WT;generalize QB l (t+1)=W at *;obtain⟨W1,c⟩:=W;simp only at WT h1;obtain⟨pn,ha⟩:=EX (pick l (t+1));rw[<-ha] at h1;have h7:=Qa ha;generalize pick l t=p at *;obtain⟨p1,p2⟩:=p;simp only at h0 h1 hj h9;clear ha WY hd HP hf;go_wp2_with fail;refine WT.o.mono ?_;rintro e w3 ⟨v3,rfl,h6,o3⟩;clear WT;have OW3:=Qa (Qr h6 h8.o.size);have hn:=Qa (o3.own h0.o (λ_ _ f=>f));have O3:=Qa (h8.o.same o3);obtain⟨f3,c3,e3⟩:=(Bs.of_own h6).len;subst e3;clear h6 o3
   by_cases hc:c=0
   ·subst hc
    by_cases hlen:W1.length<p2.length
    ·have dl:decide ((W1.length:Int)<(p2.length:Int))=true:=Qc (by omega)
     rw[if_pos ⟨rfl,hlen⟩] at h1;generalize hn1:W1.length=n1 at *;generalize hn2:p2.length=n2 at *;go_wp2
     go_roundw
     case rel =>
      refine⟨t+1,by omega,by simp,?_,?_,O3.o⟩
      ·rw[<-h7.o,h1.o];simp
      ·rw[<-h7.o,h1.o]
       simp only[hn1];exact OW3.o
     case measure=>simp[intOf];omega
    ·have dl:decide ((W1.length:Int)<(p2.length:Int))=false:=Qh (by omega)
     rw[if_neg (λhh=>hlen hh.2)] at h1;generalize hn1:W1.length=n1 at *;generalize hn2:p2.length=n2 at *;go_wp2
     go_roundw
     case rel =>
      refine⟨t+1,by omega,by simp,?_,?_,O3.o⟩
      ·rw[<-h7.o,h1.o]
      ·rw[<-h7.o,h1.o]
       simp only[hn2];exact hn.o
     case measure=>simp[intOf];omega
   ·have dc:(c == 0)=false:=by rw[beq_eq_false_iff_ne];exact hc
    rw[if_neg (λhh=>hc hh.1)] at h1;generalize hn2:p2.length=n2 at *;go_wp2
    go_roundw
    case rel =>
     refine⟨t+1,by omega,by simp,?_,?_,O3.o⟩
     ·rw[<-h7.o,h1.o]
     ·rw[<-h7.o,h1.o]
      simp only[hn2];exact hn.o
    case measure=>simp[intOf];omega
  ·obtain rfl:t=4:=by omega
   clear h1 hd HP hf WY;generalize pick l 4=p at *;obtain⟨p1,p2⟩:=p;simp only at h0 hj h9 he
   have hk:(p1:Int)<256:=by omega
   have oA:N0 wr (wr.alloc (.cells #[.int .u8 p1] 5)):=(Only.refl _ _).alloc _;have oB:N0 wr ((wr.alloc (.cells #[.int .u8 p1] 5)).alloc (.cells #[.slice (some ⟨wr.heap.size,0,none⟩) 1 1,.slice f2 p2.length c2] 22)):=oA.alloc _;have b1:Bs .u8 (wr.alloc (.cells #[.int .u8 p1] 5)) (.slice (some ⟨wr.heap.size,0,none⟩) 1 1) [(p1:Int)]:=Bs.litN .u8 wr 5 [(p1:Int)] _ _ rfl rfl;have CC:=Qa (WZ (wr.heap.size+1) (.slice (some ⟨wr.heap.size,0,none⟩) 1 1) (.slice f2 p2.length c2) [(p1:Int)] p2 ((wr.alloc (.cells #[.int .u8 p1] 5)).alloc (.cells #[.slice (some ⟨wr.heap.size,0,none⟩) 1 1,.slice f2 p2.length c2] 22)) (by go_cell) (by go_cell) (b1.later ((Below.refl _ _).alloc (Nat.le_refl _) _)) ((Bs.of_own h0.o).past oB) (NoCap.some _ _ _) (NoCap.of_own h0.o) (by simp;omega) (by have:=h9.o;simp;omega));rw[List.singleton_append] at CC;have O4:=Qa (h8.o.same oB);rw[<-he.o] at CC;clear oA oB b1 h0 h8 he;generalize p2.length=n2 at *;go_wp2_with fail;refine CC.o.mono ?_;rintro e w5 ⟨v5,rfl,h4,o5⟩;clear CC;have F:=Qa (And.intro (Qr h4 O4.o.size) (O4.o.same o5));obtain⟨f5,c5,e5⟩:=(Bs.of_own h4).len;subst e5;clear h4 o5;go_wp2
   try rw[Exit.noGoto_ret]
   go_ret2;exact⟨_,rfl,F.o.1,F.o.2⟩
theorem Ll (v:Value) (l:LI) (w:World) (h:Bs .i64 w v l) (hg:I64s l) :
 Calls prog 110 #[v] w λe w'=>∃u,e=.returned (.tuple #[u,.int .i64 (ENC8 l).2])∧w'.ownsRow w.heap.size 5 1 u (ENC8 l).1.length ((ENC8 l).1.map (Value.int .u8))∧N0 w w':=by
 unfold ENC8
 by_cases hl:65536<l.length
 ·rw[if_pos hl]
  refine (FO v l w h hl).mono ?_;rintro e w' ⟨rfl,rfl⟩;exact⟨_,rfl,World.ownsRow_nil _ _ _ _,Only.refl _ _⟩
 ·rw[if_neg hl]
  exact EW v l w h hg (by omega)
section
open Go.Maps
def Ud:Nat->DataW Unit->LI->DataW Unit
 | _,m,[]=>m
 | i,m,x :: t=>Ud (i+1) (m.put (.int .u64 x) (.lit (.int .i64 (i:Int)))) t
def DM (d:LI):DataW Unit:=Ud 0 (.map []) d
theorem Cz (t:LI) (x:Int):∀(i:Nat) (m:DataW Unit),Ud i m (t++[x])=(Ud i m t).put (.int .u64 x) (.lit (.int .i64 ((i+t.length:Nat):Int))):=by
 induction t with
 | nil=>intro i m;simp[Ud]
 | cons y t ih =>
  intro i m;rw[List.cons_append,Ud,ih,Ud,Qj,show i+1+t.length=i+(t.length+1) by omega]
theorem Bm (d:LI) (x:Int):DM (d++[x])=(DM d).put (.int .u64 x) (.lit (.int .i64 (d.length:Int))):=by
 unfold DM;rw[Cz,Nat.zero_add]
theorem Rw {x y:Int} (h:x≠y):(Lit.int .u64 x)≠(Lit.int .u64 y):=by
 intro e;simp at e;exact h e
theorem gO (x:Int) (hk:∀y:Int,WideAt.IsKeyLit (Lit.int .u64 y)) (t:LI):∀(i:Nat) (m:DataW Unit),IsMap m->Maps.has (Ud i m t) (.int .u64 x)=(Maps.has m (.int .u64 x) || decide (x∈t)):=by
 induction t with
 | nil=>intro i m _;simp[Ud]
 | cons y t ih =>
  intro i m hm;rw[Ud,ih _ _ (hm.put _ _)]
  by_cases e:x=y
  ·subst e
   rw[has_put_same hm (hk x)];simp
  ·rw[has_put_other (Rw e)]
   simp[e]
theorem Ct (x:Int) (t:LI):∀(i:Nat) (m z:DataW Unit),x ∉ t->(Ud i m t).atKey (.int .u64 x) z=m.atKey (.int .u64 x) z:=by
 induction t with
 | nil=>intro i m z _;rfl
 | cons y t ih =>
  intro i m z h;rw[Ud,ih _ _ _ (λe=>h (List.mem_cons_of_mem _ e)),atKey_put_other (Rw (λe=>h (by rw[e];exact List.mem_cons_self)))]
theorem tN (x:Int) (hk:∀y:Int,WideAt.IsKeyLit (Lit.int .u64 y)) (t:LI):∀(i:Nat) (m z:DataW Unit),IsMap m->t.Nodup->x∈t->(Ud i m t).atKey (.int .u64 x) z=.lit (.int .i64 ((i+plc t x:Nat):Int)):=by
 induction t with
 | nil=>intro i m z _ _ h;simp at h
 | cons y t ih =>
  intro i m z hm hd h;obtain⟨h1,h2⟩:=List.nodup_cons.1 hd;rw[Ud]
  by_cases e:y=x
  ·subst e
   rw[Ct y t _ _ _ h1,atKey_put_same hm (hk y)];simp[plc]
  ·have hx:x∈t:=by
    rcases List.mem_cons.1 h with e2 | e2
    ·exact absurd e2.symm e
    ·exact e2
   rw[ih _ _ _ (hm.put _ _) h2 hx]
   have e3:plc (y :: t) x=plc t x+1:=by
    unfold plc;rw[List.idxOf_cons]
    have:(y == x)=false:=by rw[beq_eq_false_iff_ne];exact e
    rw[this];rfl
   rw[e3,show i+1+plc t x=i+(plc t x+1) by omega]
theorem Df (y:Int):WideAt.IsKeyLit (Lit.int .u64 y):=by simp[WideAt.IsKeyLit]
theorem kP (d:LI) (x:Int):Maps.has (DM d) (.int .u64 x)=decide (x∈d):=by
 unfold DM;rw[gO x Df d 0 _ isMap_empty];simp[has_eq]
theorem DM_at {d:LI} (hd:d.Nodup) {x:Int} (hx:x∈d) (z:DataW Unit):(DM d).atKey (.int .u64 x) z=.lit (.int .i64 (plc d x:Int)):=by
 unfold DM;rw[tN x Df d 0 _ z isMap_empty hd hx,Nat.zero_add]
end
section
open Go.Maps
theorem Ah (k:Nat) (w:World) (h:k<=65536) :
 Calls prog 243 #[.int .i64 k] w λe w'=>e=.returned (.int .i64 (wP k))∧w=w':=by
 by_cases h0:k=0
 ·subst h0
  go_enter func243,ntmps243;go_wp2;go_ret;exact⟨rfl,rfl⟩
 ·obtain⟨j,rfl⟩:∃j,k=j+1:=⟨k - 1,by omega⟩
  have WA:=Qa (Zg ((j:Nat):Int) w (by omega) (by omega))
  have e1:wP (j+1)=wid j:=by unfold wP;rw[if_neg (by omega)];rfl
  rw[e1]
  have d0:(((j+1:Nat):Int) == 0)=false:=by rw[beq_eq_false_iff_ne];omega
  have e2:((j+1:Nat):Int) - 1=(j:Int):=by omega
  obtain⟨K,hK⟩:∃K:Int,K=((j+1:Nat):Int):=⟨_,rfl⟩;rw[<-hK] at d0 e2 ⊢
  have k1:K<=65536:=by omega
  have k0:1<=K:=by omega
  clear hK h0 e1 h;go_enter func243,ntmps243;go_wp2_with fail;refine WA.o.mono ?_;rintro e w' ⟨rfl,rfl⟩;clear WA;go_wp2;go_ret;exact⟨rfl,rfl⟩
theorem law35:Keyed prog 23:=int_keyed underlying23
theorem zero3 (w:World):(zeroValue 3).run prog w=.ok (.int .i64 0) w:=by kernel_rfl
theorem L9 {y:Int} (h0:0<=y) (h1:y<=18446744073709551615):(Lit.int .u64 y).wf=true:=by
 have e1:IntKind.u64.min=0:=by decide
 have e2:IntKind.u64.max=18446744073709551615:=by decide
 simp only[Lit.wf,e1,e2,Bool.and_eq_true,decide_eq_true_eq];omega
structure Fs (w wr:World) (vd:Value) (l:LI) (k:Nat):Prop where
 map:wr.ownsMap prog 23 (plainElem (H:=Unit) prog 3) w.heap.size k (DM (dic l))
 row:wr.ownsRow (w.heap.size+1) 23 1 vd (dic l).length ((dic l).map (Value.int .u64))
 be:Below w.heap.size w wr
theorem Tg {l:LI} {k:Nat} (h:k<l.length):l.getD k 0∈l:=by
 rw[Qd,Qi h];exact List.getElem_mem h
theorem kR (l:LI) (k:Nat) (h:k<l.length):l.take (k+1)=l.take k++[l.getD k 0]:=U9 l k h
theorem rY {y:Nat} (h:y<=65536):(Lit.int .i64 (y:Int)).wf=true:=by
 have e1:IntKind.i64.min=-9223372036854775808:=by decide
 have e2:IntKind.i64.max=9223372036854775807:=by decide
 simp only[Lit.wf,e1,e2,Bool.and_eq_true,decide_eq_true_eq];omega
theorem ZE {w:World} {lo:Nat} {E:TypeId} {size:Nat} {v:Value} {n:Nat} {xs:List Value} (h:w.ownsRow lo E size v n xs) {b:Nat} (hb:b<lo):some b≠v.ownBlock:=by
 intro e;have:=(h.lt b e.symm).1;omega
theorem js (v:Value) (xs:LI) (w:World) (h:Bs .u64 w v xs) (hu:U64 xs) (hl:xs.length<=65536) :
 Calls prog 242 #[v] w λe w'=>∃vd,e=.returned (.tuple #[vd,.map (some w.heap.size)])∧Fs w w' vd xs xs.length:=by
 have hmm:=@run_makeMap prog;obtain⟨i0,hi,hz0,hz1,hz2⟩:=info_parts Tryz.infoU64;obtain⟨ao,cap,rfl⟩:=h.len;have HB:=Qa h;have HU:=Qa hu;obtain⟨m,hm⟩:=EX xs.length;rw[<-hm] at HB hl;rw[<-hm];have HM:=Qa hm
 have F0:Hid (Fs w (w.alloc (.map #[] 0)) (.slice none 0 0) (xs.take 0) 0) :=
  ⟨World.ownsMap_made _ _ _ _,World.ownsRow_nil _ _ _ _,(Below.refl _ _).alloc (Nat.le_refl _) _⟩
 clear h hm hu;go_enter func242,ntmps242;go_wp2
 go_loopw [2,11] (λvd i wr=>∃k:Nat,k<=m∧i=.int .i64 k∧Fs w wr vd (xs.take k) k) (λ_ i _=>m - (intOf i).toNat)
 case atStart=>exact⟨0,Nat.zero_le _,rfl,F0.o⟩
 case round =>
  clear F0;obtain⟨k,hk,rfl,hf⟩:=hrel
  by_cases hlt:k<m
  ·obtain⟨b,off,cap',e,hc⟩:=HB.o.at k (by rw[<-HM.o];exact hlt)
   simp only[Value.slice.injEq] at e;obtain⟨rfl,hmx,rfl⟩:=e;clear hmx;have hc1:=(hf.be.cell (p:=⟨b,off+k,none⟩) (World.block_lt_of_cell? w _ hc)).trans hc;obtain⟨y0,y1⟩:=HU.o _ (Tg (l:=xs) (k:=k) (by rw[<-HM.o];exact hlt));have HT:=Qa (kR xs k (by rw[<-HM.o];exact hlt));generalize xs.getD k 0=y at *;have h2:keyOf prog 23 (.int .u64 y)=some (.int .u64 y):=keyOf_int_mk underlying23 (L9 y0 y1);have h4:=Zp (xs.take k);rw[Qg] at h4;have h1:=hf.map;have h0:=hf.row;have BE:=Qa hf.be;have DS:=Qa (OR (xs.take k) y);rw[<-HT.o] at DS;have DH:=kP (dic (xs.take k)) y;have DN:=Qa (Bm (dic (xs.take k)) y);obtain⟨d,hd⟩:=EX (dic (xs.take k));have HD:=Qa hd;rw[<-hd] at h1 h0 h4 DS DH DN;obtain⟨n,hn⟩:=EX d.length;rw[<-hn] at h0 h4 DN
   obtain⟨a6,c6,e6⟩:∃a6 c6,u2=.slice a6 n c6:=by
    have:=(Bs.of_own (by rw[<-hn];exact h0):Bs .u64 wr u2 d).len;rw[<-hn] at this;exact this
   subst e6;have HN:=Qa hn
   have i1:(k:Int)<(m:Int):=by omega
   clear hc hd hn hf HB
   by_cases hin:y∈d
   ·rw[Qc hin] at DH
    have h3:=Qa (DS.o.trans (if_pos hin));have HX:=Qa h1;have HY:=Qa h0;clear DS hin h0
    go_wp2_with (first
     | (at_lookup;refine wpList_lookup_own_ok_int _ rfl _ _ 279 rfl 23 3 .i64 law35 underlying279 underlying3 (zero3 _) w.heap.size k _ rfl h1 _ _ rfl h2 ?_;intro c hat hwc;rw[DH];clear hat hwc)
     | fail)
    go_roundw
    case rel =>
     refine⟨k+1,by omega,by go_num,?_,?_,BE.o⟩
     ·rw[h3.o];exact HX.o.mono (Nat.le_succ _)
     ·rw[h3.o,<-HN.o];exact HY.o
    case measure=>simp[intOf];omega
   ·rw[Qh hin] at DH
    have h3:=Qa (DS.o.trans (if_neg hin));have BL:=Qa (ZE h0 (Nat.lt_succ_self w.heap.size));have SZ:=h1.lt;clear DS hin
    go_wp2_with (first
     | (at_lookup;refine wpList_lookup_own_ok_int _ rfl _ _ 279 rfl 23 3 .i64 law35 underlying279 underlying3 (zero3 _) w.heap.size k _ rfl h1 _ _ rfl h2 ?_;intro c hat hwc;rw[DH];clear hat hwc)
     | (at_mapUpdate;refine wpList_mapUpdate_own _ rfl _ _ _ 279 rfl 23 3 law35 underlying279 (plainElem (H:=Unit) prog 3) w.heap.size k _ rfl h1 (by unfold maxLen;omega) _ _ _ rfl rfl h2 _ [] (plainElem_int underlying3 (rY (y:=n) (by omega))) ?_;intro w1 hown1 hgrow1)
     | (at_builtin;refine wpList_append_own _ rfl _ _ 161 rfl (w.heap.size+1) 23 i0 (.int .u64 0) 1 8 underlying161 hi hz0 hz1 hz2 rfl (by decide) _ n _ rfl ((h0.kept hgrow1 (Or.inr BL.o.symm)).alloc _) ⟨w1.heap.size,0,none⟩ 1 1 [.int .u64 y] rfl rfl (cell_one_new _ _ _) (ints_oneCell .u64 [y]) (by unfold maxLen;omega) (by omega) (by have:=hgrow1.size;simp at this ⊢;omega) ?_;intro v' w2 hown' hgrow2 hnil2)
     | fail)
    have h5:=h0.kept hgrow1 (Or.inr BL.o.symm);have s1:=hgrow1.size;have s2:=hgrow2.size;have b0:=BE.o.size;simp at s1 s2
    go_roundw
    case rel =>
     refine⟨k+1,by omega,by go_num,?_,?_,?_⟩
     ·rw[h3.o,DN.o]
      exact (hown1.alloc _).kept hgrow2 (ZE h5 (Nat.lt_succ_self _))
     ·rw[h3.o,Qb,List.map_append,<-HN.o]
      simpa using hown'
     ·exact (((BE.o.grown hgrow1 b0 (λj hj=>by cases hj;exact Nat.le_refl _)).alloc (by omega) _).grown hgrow2 (by simp;omega) (λj hj=>Nat.le_trans (Nat.le_succ _) (h5.lt j hj).1))
    case measure=>simp[intOf];omega
  ·obtain rfl:k=m:=by omega
   have e0:xs.take k=xs:=by rw[HM.o,List.take_length]
   rw[e0] at hf;have HF:=Qa hf;clear hf;go_wp2;go_ret2;exact⟨_,rfl,HF.o⟩
end
end Go.Proofs.YteciafpneamfaaaGreatDoor
