import Derived.Test.YteciafpneamfaaaGreatDoorG30
import Derived.Lib.TrailingZeros
namespace Go.Proofs.YteciafpneamfaaaGreatDoor
set_option maxHeartbeats 4000000
set_option maxRecDepth 100000
open Go.RowKit _root_.Go.Proofs.Tryz
variable {w w' W:World} {v:Value} {ys xs l:LI} {R n p k g B:Nat} {P:Program} {ls:List (LI)} {E:TypeId}
section
open Go.Maps
theorem tF {H:Type} {k:TypeId} {R:Value->Option (DataW H × List MemPlace)} {b n:Nat} {D:DataW H} (h:w.ownsMap P k R b n D) {S:Nat->Prop} (o:Only S w w') (hs:¬S b):w'.ownsMap P k R b n D:=by
 obtain⟨es,h0,hb,F,hz,hD⟩:=h;exact⟨es,h0,o.heap hb hs,F,hz,hD⟩
theorem MS (d:LI) (k:Nat) (h:k<d.length):fx8 (d.take (k+1))=fx8 (d.take k)++fixL (d.getD k 0) 8:=by
 rw[U9 d k h,CI]
theorem Fb (W:Nat) (f:Int->Nat) (xs:LI) (k:Nat) (h:k<xs.length):bitsP W ((xs.take (k+1)).map f)=bitsP W ((xs.take k).map f)++Ql (f (xs.getD k 0)) W:=by
 rw[U9 xs k h,List.map_append,List.map_singleton,Ip]
theorem zl (v:Value) (xs:LI) (w:World) (h:Bs .u64 w v xs) (hl:65536<xs.length) :
 Calls prog 214 #[v] w λe w'=>e=.returned (.tuple #[.slice none 0 0,.int .i64 4])∧w=w':=by
 obtain⟨ao,cap,rfl⟩:=h.len;clear h
 have d0:decide (65536<(xs.length:Int))=true:=by simp;omega
 generalize xs.length=m at *;clear hl;go_enter func214,ntmps214;go_wp2;go_ret2;exact⟨rfl,rfl⟩
theorem rh (v:Value) (xs:LI) (w:World) (h:Bs .u64 w v xs) (hu:U64 xs) (hl:xs.length<=65536) (G:LI) (hG:G=gs (dic xs).length++(fx8 (dic xs)++QH (Yo (dic xs) xs))) :
 Calls prog 214 #[v] w λe w'=>∃v',e=.returned (.tuple #[v',.int .i64 0])∧w'.ownsRow w.heap.size 5 1 v' G.length (G.map (Value.int .u8))∧N0 w w':=by
 obtain⟨i0,hi,k0,k9,k3⟩:=info_parts Tryz.infoU8;obtain⟨ao,cap,rfl⟩:=h.len;have HB:=Qa h;have HU:=Qa hu;have HG:=Qa hG;have FI:=Qa (js _ xs w h hu hl);obtain⟨m,hm⟩:=EX xs.length;rw[<-hm] at HB hl FI;rw[<-hm];have HM:=Qa hm;have k7:=Zp xs;have HDN:=Qa (Ob xs);have HDU:=Qa (Lq hu)
 have k6:Hid (∀x∈xs,x∈dic xs):=λx hx=>(Zd xs x).2 hx
 rw[<-hm] at k7
 have d0:decide (65536<(m:Int))=false:=by simp;omega
 clear h hm hu hG;go_enter func214,ntmps214;go_wp2_with fail;refine FI.o.mono ?_;rintro e w1 ⟨vd,rfl,hf⟩;have FM:=Qa hf.map;have FR:=Qa hf.row;have FB:=Qa (YU hf.be);clear hf FI;generalize dic xs=d at *;obtain⟨n,hn⟩:=EX d.length;obtain⟨a6,c6,e6⟩:=(Bs.of_own FR.o).len;subst e6;rw[<-hn] at k7 FR HG ⊢;have HN:=Qa hn;have VD:=Qa (Bs.of_own (k:=.u64) (xs:=d) (by rw[<-HN.o];exact FR.o));have AP:=Qa (UQ (.slice none 0 0) [] (n:Int) w1 (Bs.nil _ _) NoCap.nil (by simp) (by omega) (by omega));rw[List.nil_append,Int.toNat_natCast] at AP;clear hn;go_wp2_with fail;refine AP.o.mono ?_;rintro e w2 ⟨vo,rfl,hb,o2⟩
 have L0:Hid (w2.ownsRow w1.heap.size 5 1 vo (gs n++fx8 (d.take 0)).length ((gs n++fx8 (d.take 0)).map (Value.int .u8))):=by
  simp only[Hid,List.take_zero];rw[show fx8 []=[] from rfl,List.append_nil];exact hb
 have O2:=Qa o2;have GL:Hid ((gs n).length<=10):=Yw (by omega);clear hb o2 AP;go_wp2
 go_loopw [6,27] (λs i wr=>∃k:Nat,k<=n∧i=.int .i64 k∧wr.ownsRow w1.heap.size 5 1 s (gs n++fx8 (d.take k)).length ((gs n++fx8 (d.take k)).map (Value.int .u8))∧N0 w1 wr) (λ_ i _=>n - (intOf i).toNat)
 case atStart=>exact⟨0,Nat.zero_le _,rfl,L0.o,O2.o⟩
 case round =>
  clear L0 O2;obtain⟨k,hk,rfl,h4,h0⟩:=hrel;obtain⟨w3,hw3⟩:=EX wr;subst hw3;have h2:=Qa h4;have h8:=Qa h0
  by_cases hlt:k<n
  ·have hp:decide ((k:Int)<(n:Int))=true:=by simp;omega
   obtain⟨b,off,hr,e1,hc0⟩:=(VD.o.past h0).at k (by rw[<-HN.o];exact hlt)
   have ea:a6=some ⟨b,off,none⟩:=by simp at e1;exact e1.1
   subst ea;clear e1;have hg:=Qa (MS d k (by rw[<-HN.o];exact hlt))
   have h9:Hid ((gs n++fx8 (d.take k)).length<=10+8*n):=by
    simp only[Hid];have:=GL.o;rw[Qb,UB,Qg];omega
   obtain⟨f1,hw⟩:=EX (gs n++fx8 (d.take (k+1)));have HF1:=Qa hw;obtain⟨f0,hv⟩:=EX (gs n++fx8 (d.take k))
   have HS2:Hid (f1=f0++fixL (d.getD k 0) 8):=by
    simp only[Hid];rw[hw,hv,hg.o,List.append_assoc]
   rw[<-hv] at h9 h2;clear hw hv hg h4 h0;generalize d.getD k 0=x at *;go_wp2_with fail;refine (UF _ 8 w3 (by omega)).mono ?_;rintro e w4 ⟨u,rfl,h7,o4⟩;have ow:=o4.own h2.o (λ_ _ f=>f);have hq:=Bs.of_own h7;have k8:=Qa (NoCap.of_own h7);have k1:=Qa hq;have hs4:w1.heap.size<=w4.heap.size:=Nat.le_trans h8.o.size o4.size;have O4:=Qa (h8.o.same o4);obtain⟨a4,c4,e4⟩:=hq.len;subst e4;clear o4 h7 h8 h2 hq;rw[Qt] at k1 k8;go_wp2_with (at_builtin;refine Yr _ rfl _ _ _ rfl w1.heap.size 5 i0 (.int .u8 0) 1 underlying22 hi k0 k9 k3 rfl _ _ _ rfl ow .u8 _ (fixL x 8) rfl k1.o k8.o ?c3 ?c4 hs4 ?_)
   case c3=>have:=h9.o;rw[Qt];unfold maxLen;omega
   case c4=>have:=h9.o;rw[Qt];omega
   intro v6 w6 own6 hgrow6 _ _
   have h6:Hid (w6.ownsRow w1.heap.size 5 1 v6 f1.length (f1.map (Value.int .u8))):=by
    simp only[Hid];rw[HS2.o,Qb,List.map_append];exact own6
   have O6:=Qa (O4.o.grown hgrow6 (λk hk e=>absurd (ow.lt k e).1 (by omega)));clear ow own6 hgrow6;go_wp2
   go_roundw
   case rel=>exact⟨k+1,by omega,by go_num,by rw[<-HF1.o];exact h6.o,O6.o⟩
   case measure=>simp[intOf];omega
  ·obtain rfl:k=n:=by omega
   have hp:decide ((k:Int)<(k:Int))=false:=by simp
   rw[HN.o,List.take_length,<-HN.o] at h2
   have h9:Hid ((gs k++fx8 d).length<=10+8*k):=by
    simp only[Hid];have:=GL.o;rw[Qb,UB,<-HN.o];omega
   have HG2:Hid (G=(gs k++fx8 d)++QH (bitsP (wP k) ((xs.take m).map (plc d)))):=by
    simp only[Hid];rw[HG.o,List.append_assoc,HM.o,List.take_length];unfold Yo;rw[<-HN.o]
   have W0:Hid (WrAt 272 5 (w3.alloc (.cells #[.slice none 0 0,.int .i64 0] 272)) (w3.heap.size+1) w3.heap.size (.slice none 0 0) (bitsP (wP k) ((xs.take 0).map (plc d)))):=WrAt.new (T:=272) (E:=5) w3;have PW:=Qa (Ah k (w3.alloc (.cells #[.slice none 0 0,.int .i64 0] 272)) (by omega));have WL:wP k<=16:=wP_le (by omega)
   have WF:Hid (∀x∈xs,plc d x<k∧wid (plc d x)<=wP k):=by
    intro x hx;have h1:=J4 (k6.o x hx);rw[<-HN.o] at h1;exact⟨h1,(Yj _ _).2 (wP_lt h1)⟩
   have HBL:Hid (∀j,((xs.take j).map (plc d)).length<=m):=by
    intro j;rw[List.length_map,Qg,HM.o];omega
   clear h4 h0 HG GL VD;generalize gs k++fx8 d=f0 at *;go_wp2_with fail;refine PW.o.mono ?_;rintro e w4 ⟨rfl,rfl⟩;clear PW;generalize wP k=W at *;go_wp2
   go_loopw [41] (λi wr=>∃j:Nat,j<=m∧i=.int .i64 j∧∃vw,WrAt 272 5 wr (w3.heap.size+1) w3.heap.size vw (bitsP W ((xs.take j).map (plc d)))∧N0 w3 wr) (λi _=>m - (intOf i).toNat)
   case atStart=>exact⟨0,Nat.zero_le _,rfl,_,W0.o,(Only.refl _ _).alloc _⟩
   case round =>
    clear W0;obtain⟨j,hj,rfl,vw,hh,h0⟩:=hrel
    have hbl:(bitsP W ((xs.take j).map (plc d))).length<=65536*16:=by
     rw[NP];exact Nat.mul_le_mul (Nat.le_trans (HBL.o j) hl) WL
    have k2:=Qa (FB.o.same (h8.o.same h0))
    by_cases hlt:j<m
    ·have hp:decide ((j:Int)<(m:Int))=true:=by simp;omega
     obtain⟨b,off,hr,e1,hc0⟩:=(HB.o.past k2.o).at j (by rw[<-HM.o];exact hlt)
     have ea:ao=some ⟨b,off,none⟩:=by simp at e1;exact e1.1
     subst ea;clear e1;have ho:=Tg (l:=xs) (k:=j) (by rw[<-HM.o];exact hlt);obtain⟨y0,y1⟩:=HU.o _ ho;obtain⟨p0,p1⟩:=WF.o _ ho;have hg:=Qa (Fb W (plc d) xs j (by rw[<-HM.o];exact hlt));have ha:=Qa (DM_at HDN.o (k6.o _ ho) (.lit (.int .i64 0)));generalize xs.getD j 0=y at *;generalize plc d y=p at *;have ht:keyOf prog 23 (.int .u64 y)=some (.int .u64 y):=keyOf_int_mk underlying23 (L9 y0 y1);have hd:=tF FM.o (h8.o.same h0) (λf=>f);have PU:=Qa (Wd hh (p:Int) (W:Int) (by omega) (by omega) (by omega) (by omega) (by simpa using p1) (by omega));rw[Int.toNat_natCast,Int.toNat_natCast,<-hg.o] at PU;have HW:=Qa hh;have HO:=Qa h0;clear hh h0 hg ho
     go_wp2_with (first
      | (at_lookup;refine wpList_lookup_own_int _ rfl _ _ 279 rfl 23 3 .i64 law35 underlying279 underlying3 (zero3 _) w.heap.size m _ rfl hd _ _ rfl ht ?_;intro c hat hwc;obtain rfl:c=(p:Int):=(by have:=hat.symm.trans ha.o;simpa using this);clear hat hwc ha)
      | fail)
     refine PU.o.mono ?_;rintro e w5 ⟨rfl,v5,h5,o5,s5⟩;have W5:=Qa h5;have O5:=Qa (HO.o.trans o5 (λi hi f=>absurd (HW.o.foot_ge (Nat.le_refl _) i f) (by omega)));clear h5 o5 s5 PU hd HW HO;go_wp2
     go_roundw
     case rel=>exact⟨j+1,by omega,by go_num,_,W5.o,O5.o⟩
     case measure=>simp[intOf];omega
    ·obtain rfl:j=m:=by omega
     have hp:decide ((j:Int)<(j:Int))=false:=by simp
     have BY:=Qa (Xc hh (by omega));have he:=Qa h0
     have hs:Hid ((QH (bitsP W ((xs.take j).map (plc d)))).length<=65536*16):=by
      simp only[Hid];rw[UG];unfold nb;omega
     generalize QH (bitsP W ((xs.take j).map (plc d)))=t0 at *;clear hh h0 hbl;go_wp2_with fail;refine BY.o.mono ?_;rintro e w5 ⟨u,rfl,h3,o5⟩;have ow:=(he.o.same o5).own h2.o (λ_ _ f=>f);have hy:=Bs.of_own h3;have k4:=Qa (NoCap.of_own h3);have k5:=Qa hy;have hs5:w1.heap.size<=w5.heap.size:=Nat.le_trans h8.o.size (Nat.le_trans he.o.size o5.size);have O5:=Qa (k2.o.same o5);have S1:=Qa FB.o.size;obtain⟨a5,c5,e5⟩:=hy.len;subst e5;obtain⟨tl,hz⟩:=EX t0.length;rw[<-hz] at k5 k4 hs ⊢;have HT:=Qa hz;clear o5 h3 hy hz;go_wp2_with (at_builtin;refine Yr _ rfl _ _ _ rfl w1.heap.size 5 i0 (.int .u8 0) 1 underlying22 hi k0 k9 k3 rfl _ _ _ rfl ow .u8 _ t0 rfl k5.o k4.o ?c3 ?c4 hs5 ?_)
     case c3=>have:=h9.o;have:=hs.o;have:=HT.o;unfold maxLen;omega
     case c4=>have:=h9.o;have:=hs.o;have:=HT.o;omega
     intro v6 w6 own6 hgrow6 _ _
     have h6:Hid (w6.ownsRow w.heap.size 5 1 v6 G.length (G.map (Value.int .u8))):=by
      simp only[Hid];rw[HG2.o,Qb,List.map_append];exact Qr own6 S1.o
     have O6:=Qa (O5.o.grown hgrow6 (λk hk e=>absurd (ow.lt k e).1 (by have:=S1.o;omega)));clear ow own6 hgrow6;go_wp2;go_ret2;exact⟨v6,rfl,h6.o,O6.o⟩
theorem TU (v:Value) (xs:LI) (w:World) (h:Bs .u64 w v xs) (hu:U64 xs) :
 Calls prog 214 #[v] w λe w'=>∃v',e=.returned (.tuple #[v',.int .i64 (ENC10 xs).2])∧w'.ownsRow w.heap.size 5 1 v' (ENC10 xs).1.length ((ENC10 xs).1.map (Value.int .u8))∧N0 w w':=by
 by_cases hl:65536<xs.length
 ·have e:ENC10 xs=([],4):=if_pos hl
  rw[e];refine (zl v xs w h hl).mono ?_;rintro e w' ⟨rfl,rfl⟩;exact⟨_,rfl,World.ownsRow_nil _ _ _ _,Only.refl _ _⟩
 ·rw[Zi (by omega)]
  exact rh v xs w h hu (by omega) _ rfl
end
theorem KH (t:Int) (w:World) (h0:0<=t) (h1:t<=3):Calls prog 202 #[.int .i64 t] w λe w'=>e=.returned (.bool true)∧w=w':=by
 have d0:decide (0<=t)=true:=Qc h0;have d1:decide (t<4)=true:=Qc (by omega);clear h0 h1;go_enter func202,ntmps202;go_wp2;go_ret;exact⟨rfl,rfl⟩
theorem LR (t:Int) (w:World) (h:t<0∨3<t):Calls prog 202 #[.int .i64 t] w λe w'=>e=.returned (.bool false)∧w=w':=by
 by_cases h0:t<0
 ·have d0:decide (0<=t)=false:=Qh (by omega)
  clear h0 h;go_enter func202,ntmps202;go_wp2;go_ret;exact⟨rfl,rfl⟩
 ·have d0:decide (0<=t)=true:=Qc (by omega)
  have d1:decide (t<4)=false:=Qh (by omega);clear h0 h;go_enter func202,ntmps202;go_wp2;go_ret;exact⟨rfl,rfl⟩
theorem Le (v:Value) (l:LI) (w:World) (h:Bs .u64 w v l) (hl:l.length<=65536) :
 Calls prog 213 #[v] w λe w'=>∃u,e=.returned u∧w'.ownsRow w.heap.size 5 1 u (fx8 l).length ((fx8 l).map (Value.int .u8))∧N0 w w':=by
 obtain⟨i0,hi,hz0,hz1,hz2⟩:=info_parts Tryz.infoU8;have HB:=Qa h;obtain⟨ao,cap,rfl⟩:=h.len;obtain⟨n,hn⟩:=EX l.length;rw[<-hn] at hl HB;rw[<-hn];have HN:=Qa hn;clear h hn;go_enter func213,ntmps213;go_wp2
 go_loopw [3,8] (λs i wr=>∃k:Nat,k<=n∧i=.int .i64 k∧wr.ownsRow w.heap.size 5 1 s (fx8 (l.take k)).length ((fx8 (l.take k)).map (Value.int .u8))∧N0 w wr) (λ_ i _=>n - (intOf i).toNat)
 case atStart=>exact⟨0,Nat.zero_le _,rfl,World.ownsRow_nil _ _ _ _,Only.refl _ _⟩
 case round =>
  obtain⟨k,hk,rfl,h2,h3⟩:=hrel;have h0:=Qa h2;have h4:=Qa h3
  by_cases hlt:k<n
  ·have dlt:decide ((k:Int)<(n:Int))=true:=by simp;omega
   obtain⟨b,off,cap',e1,hc0⟩:=(HB.o.past h3).at k (by rw[<-HN.o];exact hlt)
   have ea:ao=some ⟨b,off,none⟩:=by simp at e1;exact e1.1
   subst ea;clear e1;have ha:=Qa (MS l k (by rw[<-HN.o];exact hlt))
   have h9:Hid ((fx8 (l.take k)).length<=8*n):=by
    simp only[Hid];rw[UB,Qg];omega
   obtain⟨f1,h5⟩:=EX (fx8 (l.take (k+1)));rw[<-h5] at ha;have HF1:=Qa h5;clear h5;generalize fx8 (l.take k)=f0 at *;generalize l.getD k 0=x at *;clear h2 h3 HB;go_wp2_with fail;refine (UF _ 8 wr (by omega)).mono ?_;rintro e w4 ⟨u,rfl,h1,o4⟩;have ow:=o4.own h0.o (λ_ _ f=>f);have h7:=Bs.of_own h1;have h8:=Qa (NoCap.of_own h1);have hb:=Qa h7;have hs4:w.heap.size<=w4.heap.size:=Nat.le_trans h4.o.size o4.size;have O4:=Qa (h4.o.trans o4 (λ_ _ f=>f));obtain⟨a4,c4,e4⟩:=h7.len;subst e4;clear o4 h1 h4 h0 h7;rw[Qt] at hb h8;go_wp2_with (at_builtin;refine Yr _ rfl _ _ _ rfl w.heap.size 5 i0 (.int .u8 0) 1 underlying22 hi hz0 hz1 hz2 rfl _ _ _ rfl ow .u8 _ (fixL x 8) rfl hb.o h8.o ?c3 ?c4 hs4 ?_)
   case c3=>have:=h9.o;rw[Qt];unfold maxLen;omega
   case c4=>have:=h9.o;rw[Qt];omega
   intro v6 w6 own6 hgrow6 _ _
   have h6:Hid (w6.ownsRow w.heap.size 5 1 v6 f1.length (f1.map (Value.int .u8))):=by
    simp only[Hid];rw[ha.o,Qb,List.map_append];exact own6
   have O6:=Qa (O4.o.grown hgrow6 (λk hk e=>absurd (ow.lt k e).1 (by omega)));clear ow own6 hgrow6;go_wp2
   go_roundw
   case rel=>exact⟨k+1,by omega,by go_num,by rw[<-HF1.o];exact h6.o,O6.o⟩
   case measure=>simp[intOf];omega
  ·obtain rfl:k=n:=by omega
   have dlt:decide ((k:Int)<(k:Int))=false:=by simp
   have HL:Hid (l.take k=l):=by simp only[Hid];exact List.take_of_length_le (by rw[<-HN.o];exact Nat.le_refl _)
   rw[HL.o] at h0;clear h2 h3 HB;go_wp2;go_ret;exact⟨_,rfl,h0.o,h4.o⟩
theorem Aw (hk:k<l.length) (h:l.getD k 0≠l.getD 0 0):¬Yy l:=λa=>h (Qcp.1 a _ (by
 rw[Qd,Qi hk];exact List.getElem_mem hk))
theorem uo (h:∀k,k<l.length->l.getD k 0=l.getD 0 0):Yy l:=Qcp.2 λx hx=>by
 obtain⟨k,hk,rfl⟩:=List.getElem_of_mem hx;have:=h k hk;rw[Qd,Qi hk] at this;exact this
theorem Ni (v:Value) (l:LI) (w:World) (h:Bs .u64 w v l) (hl:l.length<=65536) :
 Calls prog 212 #[v] w λe w'=>e=.returned (.bool (decide (¬(l=[]∨¬Yy l))))∧w=w':=by
 have HB:=Qa h;obtain⟨ao,cap,rfl⟩:=h.len;obtain⟨n,hn⟩:=EX l.length;rw[<-hn] at hl HB;rw[<-hn];obtain⟨A,hA⟩:=EX (decide (¬(l=[]∨¬Yy l)));rw[<-hA];have HA:=Qa hA;have HN:=Qa hn;clear h hn hA;go_enter func212,ntmps212;go_wp2
 go_loop [7] (λi=>∃k:Nat,k<=n∧i=.int .i64 k∧Hid (∀j,j<k->l.getD j 0=l.getD 0 0)) (λi=>n - (intOf i).toNat)
 case atStart=>exact⟨0,Nat.zero_le _,rfl,λj hj=>absurd hj (by omega)⟩
 case round =>
  obtain⟨k,hk,rfl,HS⟩:=hrel
  by_cases hlt:k<n
  ·have dlt:decide ((k:Int)<(n:Int))=true:=by simp;omega
   obtain⟨b,off,cap',e1,hc0⟩:=HB.o.at k (by rw[<-HN.o];exact hlt)
   have ea:ao=some ⟨b,off,none⟩:=by simp at e1;exact e1.1
   subst ea;clear e1;obtain⟨b',off',cap2,e2,hc1⟩:=HB.o.at 0 (by rw[<-HN.o];omega);simp at e2;obtain⟨⟨rfl,rfl⟩,e3⟩:=e2;clear e3;rw[Nat.add_zero] at hc1
   have bd:(0:Int)<(n:Int):=by omega
   by_cases hx:l.getD k 0=l.getD 0 0
   ·have HS':Hid (∀j,j<k+1->l.getD j 0=l.getD 0 0):=λj hj=>by
     rcases Nat.lt_or_ge j k with h | h
     ·exact HS.o j h
     ·obtain rfl:j=k:=by omega
      exact hx
    rw[hx] at hc0;generalize l.getD 0 0=x at *
    have dx:(x != x)=false:=by simp
    clear hx HB;go_wp2
    go_round
    case rel=>exact⟨k+1,by omega,by go_num,HS'⟩
    case measure=>simp[intOf];omega
   ·have HF:Hid (A=false):=by
     simp only[Hid];rw[HA.o];exact Qh (λc=>c (.inr (Aw (by rw[<-HN.o];exact hlt) hx)))
    have dx:(l.getD k 0 != l.getD 0 0)=true:=bne_iff_ne.2 hx;generalize l.getD 0 0=x at *;generalize l.getD k 0=y at *;clear hx HB HS;go_wp2;go_ret;rw[HF.o];exact⟨rfl,rfl⟩
  ·obtain rfl:k=n:=by omega
   have dlt:decide ((k:Int)<(k:Int))=false:=by simp
   by_cases h0:k=0
   ·have HF:Hid (A=false):=by
     simp only[Hid];rw[HA.o];exact Qh (λc=>c (.inl (List.eq_nil_of_length_eq_zero (by rw[<-HN.o];exact h0))))
    have d2:decide ((0:Int)<(k:Int))=false:=by simp;omega
    have d2':decide (0<k)=false:=by simp;omega
    clear h0 HB HS;go_wp2;go_ret;rw[HF.o];exact⟨rfl,rfl⟩
   ·have HF:Hid (A=true):=by
     simp only[Hid];rw[HA.o];refine Qc (λc=>?_)
     rcases c with c | c
     ·rw[c] at HN;exact h0 HN.o
     ·exact c (uo (by rw[<-HN.o];exact HS.o))
    have d2:decide ((0:Int)<(k:Int))=true:=by simp;omega
    have d2':decide (0<k)=true:=by simp;omega
    clear h0 HB HS;go_wp2;go_ret;rw[HF.o];exact⟨rfl,rfl⟩
def Tab (w:World):Prop:=∀j,j<64->w.cell? ⟨0,j,none⟩=some (.int .u8 ((Lib.deBruijn64tab.getD j 0:Nat):Int))
theorem Tab.pos (h:Tab w):0<w.heap.size:=by
 rcases Nat.eq_zero_or_pos w.heap.size with e | e
 ·have:=h 0 (by omega)
  have e2:w.heap[0]? = none:=Array.getElem?_eq_none (by omega);simp[World.cell?,e2] at this
 ·exact e
theorem Tab.keep (h:Tab w) {S:Nat->Prop} (o:Only S w w') (hs:¬S 0):Tab w':=by
 intro j hj;have e:=o.block 0 h.pos hs;have:=h j hj
 simpa [World.cell?,e] using this
theorem Tab.past (h:Tab w) (o:N0 w w'):Tab w':=h.keep o (λf=>f)
theorem Tab.below {N:Nat} (h:Tab w) (o:Below N w w') (hN:0<N):Tab w':=by
 intro j hj;have e:=o.block 0 hN;have:=h j hj
 simpa [World.cell?,e] using this
theorem Tc:∀(f x:Nat),Lib.ctzFrom f x=tzF f x
 | 0,_=>rfl
 | f+1,x=>by
  rw[Lib.ctzFrom,tzF]
  by_cases h:x % 2=1
  ·rw[if_pos h,if_neg (by omega)]
  ·rw[if_neg h,if_pos (by omega),Tc f (x / 2)];omega
theorem xT {x:Nat} (h0:0<x) (hx:x<18446744073709551616):x &&& (18446744073709551616 - x)=2^tz x∧tz x<64:=by
 have h:=Lib.lowest_bit 64 x (by omega) (by rw[p64];exact hx)
 have e:Lib.ctz 64 x=tz x:=by unfold Lib.ctz tz;rw[if_neg (by omega),Tc]
 rw[e,p64] at h;exact h
theorem rZ {n a:Nat} (hn:n<18446744073709551616) (h0:0<n) (hlow:n &&& (18446744073709551616 - n)=a) :
 IntKind.u64.wrap (bits BinOp.and IntKind.u64 (n:Int) (IntKind.u64.wrap (-(n:Int)))*285870213051353865) / 288230376151711744=((a*285870213051353865 % 18446744073709551616 / 288230376151711744:Nat):Int):=by
 have e1:IntKind.u64.wrap (-(n:Int))=((18446744073709551616 - n:Nat):Int):=by rw[IntKind.wrap_u64];omega
 rw[e1,bits_and_u64_nat n _ hn (by omega),hlow,IntKind.wrap_u64];omega
theorem vM (n k i:Nat) (w:World) (hne:((n:Int) == 0)=false)
 (key:IntKind.u64.wrap (bits BinOp.and IntKind.u64 (n:Int) (IntKind.u64.wrap (-(n:Int)))*285870213051353865) / 288230376151711744=(i:Int))
 (hi:i<64) (hk:k<64) (hc:w.cell? ⟨0,i,none⟩=some (.int .u8 k)) :
 Calls prog 277 #[.int .u64 n] w λe w'=>e=.returned (.int .i64 k)∧w=w':=by
 go_enter func277,ntmps277;go_wp2_with (simp only[key]);go_ret;exact⟨rfl,rfl⟩
theorem uq (x:Int) (w:World) (h0:0<x) (hx:x<=18446744073709551615) (hT:Tab w) :
 Calls prog 277 #[.int .u64 x] w λe w'=>e=.returned (.int .i64 (tz x.toNat:Int))∧w=w':=by
 obtain⟨n,rfl⟩:=Int.eq_ofNat_of_zero_le (show 0<=x by omega);rw[Int.toNat_natCast];obtain⟨h1,hk⟩:=xT (x:=n) (by omega) (by omega);generalize tz n=k at *;obtain⟨hi,ht⟩:=Lib.deBruijn64_at k hk;have hc:=hT _ hi;rw[ht] at hc;have key:=rZ (by omega) (by omega) h1;exact vM n k _ w (by rw[beq_eq_false_iff_ne];omega) key hi hk hc
theorem Tryz.sizeWin:(prog.info? 283).map (·.size)=some 2:=by kernel_rfl
theorem Dv (w:World) :
 Calls prog 261 #[.agg #[.int .i64 0,.int .i64 0]] w λe w'=>e=.returned (.bool true)∧N0 w w':=by
 go_enter func261,ntmps261;go_wp2;go_ret;exact⟨rfl,(Only.refl _ _).alloc _⟩
theorem XV (a d:Nat) (w:World) (hd:¬d=0) :
 Calls prog 261 #[.agg #[.int .i64 a,.int .i64 d]] w λe w'=>e=.returned (.bool false)∧N0 w w':=by
 go_enter func261,ntmps261;go_wp2
 all_goals go_ret
 all_goals exact⟨rfl,(Only.refl _ _).alloc _⟩
theorem PZ (a d:Nat) (w:World) (ha:a<=64) (hd:d<=64) :
 Calls prog 264 #[.agg #[.int .i64 a,.int .i64 d]] w λe w'=>e=.returned (.int .i64 (64 - (a:Int) - d))∧N0 w w':=by
 go_enter func264,ntmps264;go_wp2;go_ret;exact⟨rfl,(Only.refl _ _).alloc _⟩
theorem xg (x : Int) (w : World) (h0 : 0 < x) (hx : x <= 18446744073709551615) (hT : Tab w) :
 Calls prog 263 #[.int .u64 x] w λe w' => e = .returned (.agg #[.int .i64 (ldz x.toNat : Int), .int .i64 ((64 - ldz x.toNat - tz x.toNat : Nat) : Int)]) ∧ N0 w w' := by
 obtain⟨hn1, hn2, hn3⟩ := Zn (x := x.toNat) (by omega) (by omega);have hw := Kk x.toNat (by omega);have T1 := Qa (hT.past ((Only.refl (λ_ => False) w).alloc (.cells #[.int .i64 0, .int .i64 0] 283)));have W1 := Qa (Zg x (w.alloc (.cells #[.int .i64 0, .int .i64 0] 283)) (by omega) hx);have Z1 := Qa (uq x (w.alloc (.cells #[.int .i64 0, .int .i64 0] 283)) h0 hx T1.o);have hld : Hid (ldz x.toNat = min (64 - wid x.toNat) 31) := rfl;generalize wid x.toNat = q at *;generalize tz x.toNat = z at *;generalize ldz x.toNat = a at *;go_enter func263, ntmps263;go_wp2_with fail;refine W1.o.mono ?_;rintro e w1 ⟨rfl, rfl⟩;go_wp2_with fail
 all_goals
  refine Z1.o.mono ?_;rintro e w1 ⟨rfl, rfl⟩;go_wp2;refine bodyPost_ret (results_cell_row rfl _ _ w.heap.size 283 _ (0, 0) _ rfl (heap_alloc_last w _) underlying283 rfl Tryz.sizeWin) rfl ⟨?_, (Only.refl _ _).alloc _⟩;have hl := hld.o
 all_goals first
  | (obtain rfl : a = 31 := (by omega); have e1 : ((64 - 31 - z : Nat) : Int) = 33 - (z : Int) := (by omega); rw[e1]; rfl)
  | (have e0 : (64 : Int) - (q : Int) = (a : Int) := (by omega); have e1 : ((64 - a - z : Nat) : Int) = 64 - (a : Int) - (z : Int) := (by omega); rw[e0, e1])
  | (have e0 : min ((64 : Int) - (q : Int)) 31 = (a : Int) := (by omega); have e1 : ((64 - a - z : Nat) : Int) = 64 - (a : Int) - (z : Int) := (by omega); rw[e0, e1])
theorem WG (a z d:Nat) (w:World) (h:a+z+d=64) :
 Calls prog 264 #[.agg #[.int .i64 a,.int .i64 d]] w λe w'=>e=.returned (.int .i64 (z:Int))∧N0 w w':=by
 have:=PZ a d w (by omega) (by omega);rw[show (64:Int) - (a:Int) - d=(z:Int) by omega] at this;exact this
theorem Bl {x z:Nat} (h0:0<x) (hx:x<18446744073709551616) (h:x / 2^z*2^z=x):z<=tz x:=by
 rcases Nat.lt_or_ge (tz x) z with hlt | hge
 ·exfalso
  have ho:x / 2^tz x % 2=1:=Ns 64 x h0 (by rw[p64];exact hx);obtain⟨j,rfl⟩:∃j,z=tz x+1+j:=⟨z - tz x - 1,by omega⟩;generalize tz x=t at *;generalize x / 2^(t+1+j)=y at *
  have e:x=2^t*(2*(y*2^j)):=by
   rw[<-h,Nat.pow_add,Nat.pow_succ];simp only[Nat.mul_assoc,Nat.mul_comm,Nat.mul_left_comm]
  rw[e,Nat.mul_div_cancel_left _ (Nat.two_pow_pos t)] at ho;omega
 ·exact hge
theorem Jz {x a z d:Nat} (h0:0<x) (hx:x<18446744073709551616) (h:a+z+d=64) (hd:0<d) :
 fitsW x a z↔(x / 2^z*2^z=x∧wid (x / 2^z)<=d):=by
 have hw:=Kk x hx
 constructor
 ·rintro⟨h1,h2⟩
  have h3:=Z5 (z:=z) hx h1 (by omega);rw[show 64 - a - z=d by omega] at h3;exact⟨XG h2,(Yj _ d).2 h3⟩
 ·rintro⟨h1,h2⟩
  refine⟨?_,Bl h0 hx h1⟩;have h3:=(Yj _ d).1 h2;rw[Nat.div_lt_iff_lt_mul (Nat.two_pow_pos z),<-Nat.pow_add] at h3;have h4:=(Yj x (d+z)).2 h3;omega
theorem TP {x z:Nat} (hx:x<18446744073709551616):IntKind.u64.wrap ((x:Int) / 2^z*2^z)=((x / 2^z*2^z:Nat):Int):=by
 have h1:x / 2^z*2^z<=x:=Nat.div_mul_le_self x _
 have e:(x:Int) / 2^z*2^z=((x / 2^z*2^z:Nat):Int):=by push_cast;rfl
 rw[e,IntKind.wrap_u64];omega
theorem um (a z d x:Nat) (w:World) (h0:0<x) (hx:x<18446744073709551616) (h:a+z+d=64) (hd:0<d) (he:x / 2^z*2^z=x) :
 Calls prog 262 #[.agg #[.int .i64 a,.int .i64 d],.int .u64 x] w λe w'=>e=.returned (.bool (decide (wid (x / 2^z)<=d)))∧N0 w w':=by
 have z64:(z:Int)<64:=by omega
 have T1:=Qa (WG a z d (w.alloc (.cells #[.int .i64 a,.int .i64 d] 283)) h);have e1:=TP (z:=z) hx;rw[he] at e1
 have e2:(IntKind.u64.wrap ((x:Int) / 2^z*2^z) == (x:Int))=true:=by rw[e1];simp
 have e3:(x:Int) / 2^z=((x / 2^z:Nat):Int):=by push_cast;rfl
 have y1:x / 2^z<=x:=Nat.div_le_self _ _;clear e1 he;rw[e3] at e2;generalize hy:x / 2^z=y at *;have E3:=Qa e3;clear e3 hy
 have WI:=λw=>Qa (Zg (y:Int) w (by omega) (by omega))
 simp only[Int.toNat_natCast] at WI;generalize wid y=q at *;go_enter func262,ntmps262;go_wp2_with fail;refine T1.o.mono ?_;rintro e w1 ⟨rfl,o1⟩;have g1:=o1.heap (heap_alloc_last w _) (λf=>f);obtain⟨c0,c1,_,_⟩:=Qu g1;have O1:=Qa ((Only.refl (λ_=>False) w).alloc (.cells #[.int .i64 a,.int .i64 d] 283) |>.same o1);clear T1 o1;go_wp2;rw[E3.o]
 go_region_with (first|(go_at_call 264;refine (WG a z d _ h).mono ?_;rintro e w2 ⟨rfl,o2⟩;have c2:=(Qu (o2.heap (a:=w1.drew) g1 (λf=>f))).2.1)|(go_at_call 234;refine (WI _).out.mono ?_;rintro e w3 ⟨rfl,rfl⟩))
 all_goals go_wp2
 all_goals go_ret
 all_goals exact⟨rfl,O1.o.drew.same o2⟩
theorem IX (a z d x:Nat) (w:World) (hx:x<18446744073709551616) (h:a+z+d=64) (hd:0<d) (he:x / 2^z*2^z≠x) :
 Calls prog 262 #[.agg #[.int .i64 a,.int .i64 d],.int .u64 x] w λe w'=>e=.returned (.bool false)∧N0 w w':=by
 have z64:(z:Int)<64:=by omega
 have T1:=Qa (WG a z d (w.alloc (.cells #[.int .i64 a,.int .i64 d] 283)) h);have e1:=TP (z:=z) hx
 have e2:(IntKind.u64.wrap ((x:Int) / 2^z*2^z) == (x:Int))=false:=by rw[e1,beq_eq_false_iff_ne];omega
 have e3:(x:Int) / 2^z=((x / 2^z:Nat):Int):=by push_cast;rfl
 have y1:x / 2^z<=x:=Nat.div_le_self _ _;clear e1 he;rw[e3] at e2;generalize hy:x / 2^z=y at *;have E3:=Qa e3;clear e3 hy;go_enter func262,ntmps262;go_wp2_with fail;refine T1.o.mono ?_;rintro e w1 ⟨rfl,o1⟩;have g1:=o1.heap (heap_alloc_last w _) (λf=>f);obtain⟨c0,c1,_,_⟩:=Qu g1;have O1:=Qa ((Only.refl (λ_=>False) w).alloc (.cells #[.int .i64 a,.int .i64 d] 283) |>.same o1);clear T1 o1;go_wp2;rw[E3.o]
 first|(go_region_with ((go_at_call 264;refine (WG a z d _ h).mono ?_;rintro e w2 ⟨rfl,o2⟩;have c2:=(Qu (o2.heap (a:=w1.drew) g1 (λf=>f))).2.1))) | fail
 all_goals go_wp2
 all_goals go_ret
 all_goals exact⟨rfl,O1.o.drew.same o2⟩
theorem DJ (a z d x:Nat) (w:World) (h0:0<x) (hx:x<18446744073709551616) (h:a+z+d=64) (hd:0<d) :
 Calls prog 262 #[.agg #[.int .i64 a,.int .i64 d],.int .u64 x] w λe w'=>e=.returned (.bool (decide (fitsW x a z)))∧N0 w w':=by
 by_cases he:x / 2^z*2^z=x
 ·have e:decide (fitsW x a z)=decide (wid (x / 2^z)<=d):=decide_eq_decide.2 ((Jz h0 hx h hd).trans (and_iff_right he))
  rw[e];exact um a z d x w h0 hx h hd he
 ·have e:decide (fitsW x a z)=false:=Qh (λf=>he ((Jz h0 hx h hd).1 f).1)
  rw[e];exact IX a z d x w hx h hd he
def W2 (wn:Option (Nat × Nat)) (a d:Nat):Prop:=(wn=none∧a=0∧d=0)∨∃z,wn=some (a,z)∧a<=31∧a+z+d=64∧0<d
theorem W2.none:W2 .none 0 0:=.inl ⟨rfl,rfl,rfl⟩
theorem W2.le {wn:Option (Nat × Nat)} {a d:Nat} (h:W2 wn a d):a<=31∧d<=64:=by
 rcases h with ⟨_,rfl,rfl⟩ | ⟨z,_,h1,h2,h3⟩ <;> omega
structure Ws (w:World) (lo B:Nat) (v:Value) (w1:World) (v1:Value) (l1:List Bool) (a d:Nat):Prop where
 wr:WrAt 272 5 w1 lo B v1 l1
 on:Only (Foot B v) w w1
 st:Stays w v v1
 nb:∀k,v1.ownBlock=some k->k≠w.heap.size∧k≠w.heap.size+1
 lt:B<w.heap.size
 box:w1.heap[w.heap.size]? = some (.cells #[.int .i64 a,.int .i64 d] 283 (0,0))
 res:w1.heap[w.heap.size+1]? = some (.cells #[.int .i64 0,.int .i64 0] 283 (0,0))
theorem WrAt.lt_size {T E:TypeId} {lo B:Nat} {l:List Bool} (h:WrAt T E w lo B v l):B<w.heap.size:=Nat.lt_of_lt_of_le h.lt h.le
theorem Ws.start {lo B:Nat} {l:List Bool} (h:WrAt 272 5 w lo B v l) (a d:Nat) :
 Ws w lo B v ((w.alloc (.cells #[.int .i64 a,.int .i64 d] 283)).alloc (.cells #[.int .i64 0,.int .i64 0] 283)) v l a d where
 wr:=h.keep (((Only.refl (λ_=>False) w).alloc _).alloc _) (λf=>f) (λ_ _ f=>f)
 on:=((Only.refl _ w).alloc _).alloc _
 st:=Stays.refl _ _
 nb:=λk hk=>by have:=(h.own.lt k hk).2;omega
 lt:=h.lt_size
 box:=by
  have:=heap_alloc_last w (.cells #[.int .i64 a,.int .i64 d] 283);exact ((Only.refl (λ_=>False) _).alloc _).heap this (λf=>f)
 res:=by
  have:=heap_alloc_last (w.alloc (.cells #[.int .i64 a,.int .i64 d] 283)) (.cells #[.int .i64 0,.int .i64 0] 283)
  rwa [show (w.alloc (.cells #[.int .i64 a,.int .i64 d] 283)).heap.size=w.heap.size+1 from Array.size_push ..] at this
theorem Ws.big {lo B:Nat} {w1:World} {v1:Value} {l1:List Bool} {a d:Nat} (h:Ws w lo B v w1 v1 l1 a d):w.heap.size+1<w1.heap.size:=by
 rcases Nat.lt_or_ge (w.heap.size+1) w1.heap.size with e | e
 ·exact e
 ·have:=h.res
  rw[Array.getElem?_eq_none e] at this
  cases this
theorem Ws.put {lo B:Nat} {w1 w2:World} {v1 v2:Value} {l1 l2:List Bool} {a d:Nat} (h:Ws w lo B v w1 v1 l1 a d)
 (h2:WrAt 272 5 w2 lo B v2 l2) (o:Only (Foot B v1) w1 w2) (s:Stays w1 v1 v2):Ws w lo B v w2 v2 l2 a d where
 wr:=h2
 on:=h.on.trans o (Md h.st)
 st:=h.st.trans s h.on.size
 nb:=λk hk=>by
  rcases s with e | e
  ·rw[e] at hk;exact h.nb k hk
  ·have:=e k hk;have:=h.big;omega
 lt:=h.lt
 box:=o.heap h.box (λf=>by
  rcases f with e | e
  ·have:=h.lt;omega
  ·exact (h.nb _ e).1 rfl)
 res:=o.heap h.res (λf=>by
  rcases f with e | e
  ·have:=h.lt;omega
  ·exact (h.nb _ e).2 rfl)
theorem Ws.past {lo B:Nat} {w1 w2:World} {v1:Value} {l1:List Bool} {a d:Nat} (h:Ws w lo B v w1 v1 l1 a d) (o:N0 w1 w2):Ws w lo B v w2 v1 l1 a d :=
 h.put (h.wr.keep o (λf=>f) (λ_ _ f=>f)) (o.mono (λ_ _ f=>f.elim)) (Stays.refl _ _)
theorem UU {K:Nat} (x y:Value) {S:Nat->Prop} (hS:S K):Only S w ((w.setCell ⟨K,0,none⟩ x).setCell ⟨K,1,none⟩ y) :=
 ((Only.refl S w).setCell (λ_=>hS) x).setCell (λ_=>hS) y
theorem Wy {K:Nat} {a b:Value} {T:TypeId} (x y:Value) (h:w.heap[K]? = some (.cells #[a,b] T (0,0))) :
 ((w.setCell ⟨K,0,none⟩ x).setCell ⟨K,1,none⟩ y).heap[K]? = some (.cells #[x,y] T (0,0)):=(Vm ((Vm h x).1) y).2
theorem Ws.set {lo B:Nat} {w1:World} {v1:Value} {l1:List Bool} {a d:Nat} (h:Ws w lo B v w1 v1 l1 a d) (a' d':Nat) :
 Ws w lo B v ((w1.setCell ⟨w.heap.size,0,none⟩ (.int .i64 a')).setCell ⟨w.heap.size,1,none⟩ (.int .i64 d')) v1 l1 a' d' where
 wr:=h.wr.keep (UU (S:=λk=>k=w.heap.size) _ _ rfl) (λf=>by have:=h.lt;omega) (λk hk f=>(h.nb k hk).1 f)
 on:=((h.on.setCell (p:=⟨w.heap.size,0,none⟩) (λf=>absurd f (Nat.lt_irrefl _)) _).setCell (p:=⟨w.heap.size,1,none⟩) (λf=>absurd f (Nat.lt_irrefl _)) _)
 st:=h.st
 nb:=h.nb
 lt:=h.lt
 box:=Wy _ _ h.box
 res:=(UU (S:=λk=>k=w.heap.size) _ _ rfl).heap h.res (λf=>by omega)
theorem Ws.fin {lo B:Nat} {w1:World} {v1:Value} {l1:List Bool} {a d:Nat} (h:Ws w lo B v w1 v1 l1 a d) (x y:Value) {w2:World} (e:w2=(w1.setCell ⟨w.heap.size+1,0,none⟩ x).setCell ⟨w.heap.size+1,1,none⟩ y) :
 w2.heap[w.heap.size+1]? = some (.cells #[x,y] 283 (0,0))∧WrAt 272 5 w2 lo B v1 l1∧Only (Foot B v) w w2∧Stays w v v1:=by
 subst e;refine⟨Wy _ _ h.res,h.wr.keep (UU (S:=λk=>k=w.heap.size+1) _ _ rfl) (λf=>by have:=h.lt;omega) (λk hk f=>(h.nb k hk).2 f),?_,h.st⟩;exact ((h.on.setCell (p:=⟨w.heap.size+1,0,none⟩) (λ(f:w.heap.size+1<w.heap.size)=>absurd f (by omega)) _).setCell (p:=⟨w.heap.size+1,1,none⟩) (λ(f:w.heap.size+1<w.heap.size)=>absurd f (by omega)) _)
theorem Dg:Ql (Int.toNat 0) (Int.toNat 1)=[false]:=by decide
theorem Si:Ql (Int.toNat 1) (Int.toNat 1)=[true]:=by decide
theorem rj {lo B:Nat} {l:List Bool} (h:WrAt 272 5 w lo B v l) (a d:Nat) (hl:l.length<=100000000) :
 Calls prog 244 #[.pointer (some ⟨B,0,none⟩),.int .u64 0,.agg #[.int .i64 a,.int .i64 d]] w λe w'=>e=.returned (.agg #[.int .i64 a,.int .i64 d]) ∧
  ∃v',WrAt 272 5 w' lo B v' (l++[false])∧Only (Foot B v) w w'∧Stays w v v':=by
 have S0:=Qa (Ws.start h a d);have P1:=Qa (Wd S0.o.wr 0 1 (by omega) (by omega) (by omega) (by omega) (by decide) (by omega));rw[Dg] at P1;clear h;go_enter func244,ntmps244;go_wp2_with fail;refine P1.o.mono ?_;rintro e w1 ⟨rfl,v1,h1,o1,s1⟩;have S1:=Qa (S0.o.put h1 o1 s1);clear h1 o1 s1 S0 P1;obtain⟨c0,c1,_,_⟩:=Qu S1.o.box;obtain⟨c2,c3,f2,f3⟩:=Qu S1.o.res;go_wp2;obtain⟨g,r1,r2,r3⟩:=S1.o.fin (.int .i64 a) (.int .i64 d) rfl;exact bodyPost_ret (results_cell_row rfl _ _ (w.heap.size+1) 283 _ (0,0) _ rfl g underlying283 rfl Tryz.sizeWin) rfl ⟨rfl,v1,r1,r2,r3⟩
theorem MG {w w1:World} {lo B:Nat} {v v1:Value} {l1:List Bool} {a d:Nat} (S:Ws w lo B v w1 v1 l1 a d) (x:Int) (y z:Nat) (e3:x / 2^z=(y:Int)) (hy:y<18446744073709551616) (hd:d<=64) (y2:wid y<=d) (hl:l1.length<=1000000000) :
 Calls prog 235 #[.pointer (some ⟨B,0,none⟩),.int .u64 (x / 2^z),.int .i64 d] w1 λe w'=>e=.returned (.int .i64 0)∧∃v',Ws w lo B v w' v' (l1++Ql y d) a d:=by
 rw[e3];refine (Wd S.wr y d (by omega) (by omega) (by omega) (by omega) (by simpa using y2) hl).mono ?_;rintro e w' ⟨rfl,v',h,o,s⟩;simp only[Int.toNat_natCast] at h;exact⟨rfl,v',S.put h o s⟩
theorem vh {lo B:Nat} {l:List Bool} (h:WrAt 272 5 w lo B v l) (a z d x:Nat) (hl:l.length<=100000000) (h0:0<x) (hx:x<18446744073709551616) (hs:a+z+d=64) (hd:0<d) (hf:fitsW x a z) :
 Calls prog 244 #[.pointer (some ⟨B,0,none⟩),.int .u64 x,.agg #[.int .i64 a,.int .i64 d]] w λe w'=>e=.returned (.agg #[.int .i64 a,.int .i64 d]) ∧
  ∃v',WrAt 272 5 w' lo B v' (l++[true]++[false]++Ql (x / 2^z) d)∧Only (Foot B v) w w'∧Stays w v v':=by
 have S0:=Qa (Ws.start h a d);have P1:=Qa (Wd S0.o.wr 1 1 (by omega) (by omega) (by omega) (by omega) (by decide) (by omega));rw[Si] at P1
 have hne:((x:Int) == 0)=false:=by rw[beq_eq_false_iff_ne];omega
 have z64:(z:Int)<64:=by omega
 have e3:Hid ((x:Int) / 2^z=((x / 2^z:Nat):Int)):=by simp only[Hid];push_cast;rfl
 have y1:x / 2^z<=x:=Nat.div_le_self _ _;have y2:wid (x / 2^z)<=d:=((Jz h0 hx hs hd).1 hf).2
 have FI:=λw=>Qa (DJ a z d x w h0 hx hs hd)
 rw[Qc hf] at FI;generalize hy:x / 2^z=y at *;clear h hf hy;go_enter func244,ntmps244;go_wp2_with fail;refine P1.o.mono ?_;rintro e w1 ⟨rfl,v1,h1,o1,s1⟩;have S1:=Qa (S0.o.put h1 o1 s1);clear h1 o1 s1 S0 P1;obtain⟨c0,c1,_,_⟩:=Qu S1.o.box;go_wp2_with fail;refine (XV a d _ (by omega)).mono ?_;rintro e w2 ⟨rfl,o2⟩;have S2:=Qa (S1.o.past o2);clear S1 o2 c0 c1;obtain⟨c0,c1,_,_⟩:=Qu S2.o.box;go_wp2_with fail;refine (FI _).out.mono ?_;rintro e w3 ⟨rfl,o3⟩;have S3:=Qa (S2.o.past o3);clear S2 o3 c0 c1 FI;have P3:=Qa (Wd S3.o.wr 0 1 (by omega) (by omega) (by omega) (by omega) (by decide) (by simp;omega));rw[Dg] at P3;go_wp2_with fail;refine P3.o.mono ?_;rintro e w4 ⟨rfl,v4,h4,o4,s4⟩;have S4:=Qa (S3.o.put h4 o4 s4);clear h4 o4 s4 S3 P3;obtain⟨c0,c1,_,_⟩:=Qu S4.o.box;go_wp2;have SD:=Qa (S4.o.past ((Only.refl (λ_=>False) w4).drew))
 have hl4:(l++[true]++[false]).length<=1000000000:=by simp;omega
 go_region_with (first|(go_at_call 264;refine (WG a z d _ hs).mono ?_;rintro e w5 ⟨rfl,o5⟩;have S5:=Qa (SD.o.past o5);have c2:=(Qu S5.o.box).2.1)|(go_at_call 235;refine (MG S5.o (x:Int) y z e3.o (by omega) (by omega) y2 hl4).mono ?_;rintro e w6 ⟨rfl,v6,S6⟩))
 all_goals
  have S7:=Qa S6;clear S6;clear c0 c1;obtain⟨c0,c1,_,_⟩:=Qu S7.o.box;obtain⟨c2,c3,f2,f3⟩:=Qu S7.o.res;go_wp2;obtain⟨g,r1,r2,r3⟩:=S7.o.fin (.int .i64 a) (.int .i64 d) rfl;exact bodyPost_ret (results_cell_row rfl _ _ (w.heap.size+1) 283 _ (0,0) _ rfl g underlying283 rfl Tryz.sizeWin) rfl ⟨rfl,v6,r1,r2,r3⟩
theorem Ws.tab {lo B:Nat} {w1:World} {v1:Value} {l1:List Bool} {a d:Nat} (h:Ws w lo B v w1 v1 l1 a d) (hT:Tab w) (hB:0<B) (hv:∀k,v.ownBlock=some k->0<k):Tab w1 :=
 hT.keep h.on (λf=>by
  rcases f with e | e
  ·omega
  ·exact absurd (hv 0 e) (by omega))
theorem wid_5 (h:n<=31):wid n<=5:=(Yj n 5).2 (by omega)
theorem wid_6 (h:n<=63):wid n<=6:=(Yj n 6).2 (by omega)
theorem Gn {w w1:World} {lo B:Nat} {v v1:Value} {l1:List Bool} {a d:Nat} (S:Ws w lo B v w1 v1 l1 a d) (x:Int) (n q:Nat) (e:x=(n:Int)) (hn:n<18446744073709551616) (hq:q<=64) (hw:wid n<=q) (hl:l1.length<=1000000000) :
 Calls prog 235 #[.pointer (some ⟨B,0,none⟩),.int .u64 x,.int .i64 q] w1 λe w'=>e=.returned (.int .i64 0)∧∃v',Ws w lo B v w' v' (l1++Ql n q) a d:=by
 subst e;refine (Wd S.wr n q (by omega) (by omega) (by omega) (by omega) (by simpa using hw) hl).mono ?_;rintro e w' ⟨rfl,v',h,o,s⟩;simp only[Int.toNat_natCast] at h;exact⟨rfl,v',S.put h o s⟩
theorem Pg {lo B:Nat} {l:List Bool} (h:WrAt 272 5 w lo B v l) (x:Nat) (a z d:Nat) (hw:a=0∧d=0∨a+z+d=64∧0<d∧¬fitsW x a z) (hl:l.length<=100000000) (h0:0<x) (hx:x<18446744073709551616) (hT:Tab w) (hB:0<B) :
 Calls prog 244 #[.pointer (some ⟨B,0,none⟩),.int .u64 x,.agg #[.int .i64 a,.int .i64 d]] w λe w'=>e=.returned (.agg #[.int .i64 (ldz x:Nat),.int .i64 (64 - ldz x - tz x:Nat)]) ∧
  ∃v',WrAt 272 5 w' lo B v' (l++[true]++[true]++Ql (ldz x) 5++Ql (63 - ldz x - tz x) 6++Ql (x / 2^tz x) (64 - ldz x - tz x))∧Only (Foot B v) w w'∧Stays w v v':=by
 have S0:=Qa (Ws.start h a d);have P1:=Qa (Wd S0.o.wr 1 1 (by omega) (by omega) (by omega) (by omega) (by decide) (by omega));rw[Si] at P1
 have hne:((x:Int) == 0)=false:=by rw[beq_eq_false_iff_ne];omega
 have hv0:∀k,v.ownBlock=some k->0<k:=λk hk=>by have:=(h.own.lt k hk).1;have:=h.lt;omega
 obtain⟨n1,n2,n3⟩:=Zn h0 hx
 have WO:=λw hT=>Qa (xg (x:Int) w (by omega) (by omega) hT)
 simp only[Int.toNat_natCast] at WO
 have e3:Hid ((x:Int) / 2^tz x=((x / 2^tz x:Nat):Int)):=by simp only[Hid];push_cast;rfl
 have y1:x / 2^tz x<=x:=Nat.div_le_self _ _;have y2:wid (x / 2^tz x)<=64 - ldz x - tz x:=(Yj _ _).2 (Z5 hx n2 n3);have HW:=Qa hw;clear hw;generalize hy:x / 2^tz x=y at *;generalize ldz x=a' at *;generalize tz x=z' at *;obtain⟨d',h2⟩:∃d',d'=64 - a' - z':=⟨_,rfl⟩;rw[show 63 - a' - z'=d' - 1 by omega,<-h2];rw[<-h2] at WO y2
 have hs':a'+z'+d'=64:=by omega
 have hp':0<d':=by omega
 clear h hy h2 n2 n3
 have z64:(z':Int)<64:=by omega
 have dd:(d':Int) - 1=((d' - 1:Nat):Int):=by omega
 go_enter func244,ntmps244;go_wp2_with fail;refine P1.o.mono ?_;rintro e w1 ⟨rfl,v1,h1,o1,s1⟩;have S1:=Qa (S0.o.put h1 o1 s1);clear h1 o1 s1 S0 P1;obtain⟨c0,c1,_,_⟩:=Qu S1.o.box
 rcases HW.o with ⟨rfl,rfl⟩ | ⟨hs,hd,hf⟩
 case' inl =>
  go_wp2_with fail;refine (Dv _).mono ?_;rintro e w3 ⟨rfl,o2⟩;have S3:=Qa (S1.o.past o2);clear S1 o2 c0 c1
 case' inr =>
  have FI:=λw=>Qa (DJ a z d x w h0 hx hs hd)
  rw[Qh hf] at FI;clear hf;go_wp2_with fail;refine (XV a d _ (by omega)).mono ?_;rintro e w2 ⟨rfl,o2⟩;have S2:=Qa (S1.o.past o2);clear S1 o2 c0 c1;obtain⟨c0,c1,_,_⟩:=Qu S2.o.box;go_wp2_with fail;refine (FI _).out.mono ?_;rintro e w3 ⟨rfl,o3⟩;have S3:=Qa (S2.o.past o3);clear S2 o3 c0 c1 FI
 all_goals
  have W3:=WO w3 (S3.o.tab hT hB hv0);clear WO;go_wp2_with fail;refine W3.o.mono ?_;rintro e w4 ⟨rfl,o4⟩;have S4:=Qa (S3.o.past o4);clear S3 o4 W3;obtain⟨c0,c1,f0,f1⟩:=Qu S4.o.box;have S5:=Qa (S4.o.set a' d');have P5:=Qa (Gn S5.o 1 1 1 rfl (by omega) (by omega) (by decide) (by simp;omega));rw[show Ql 1 1=[true] by decide] at P5;clear S4;go_wp2_with fail;refine P5.o.mono ?_;rintro e w6 ⟨rfl,v6,s6⟩;have S6:=Qa s6;clear s6 S5 P5 c0 c1 f0 f1;obtain⟨c0,c1,_,_⟩:=Qu S6.o.box;have P6:=Qa (Gn S6.o (a':Int) a' 5 rfl (by omega) (by omega) (wid_5 n1) (by simp;omega));go_wp2_with fail;refine P6.o.mono ?_;rintro e w7 ⟨rfl,v7,s7⟩;have S7:=Qa s7;clear s7 S6 P6 c0 c1;obtain⟨c0,c1,_,_⟩:=Qu S7.o.box;have P7:=Qa (Gn S7.o ((d' - 1:Nat):Int) (d' - 1) 6 rfl (by omega) (by omega) (wid_6 (by omega)) (by simp[Ys];omega));go_wp2_with fail;refine P7.o.mono ?_;rintro e w8 ⟨rfl,v8,s8⟩;have S8:=Qa s8;clear s8 S7 P7 c0 c1;obtain⟨c0,c1,_,_⟩:=Qu S8.o.box;go_wp2;have SD:=Qa (S8.o.past ((Only.refl (λ_=>False) w8).drew))
  have hl4:(l++[true]++[true]++Ql a' 5++Ql (d' - 1) 6).length<=1000000000:=by simp[Ys];omega
  go_region_with (first|(go_at_call 264;refine (WG a' z' d' _ hs').mono ?_;rintro e w5 ⟨rfl,o5⟩;have S5:=Qa (SD.o.past o5);have c2:=(Qu S5.o.box).2.1)|(go_at_call 235;refine (MG S5.o (x:Int) y z' e3.o (by omega) (by omega) y2 hl4).mono ?_;rintro e w6 ⟨rfl,v6,S6⟩))
  all_goals
   have S9:=Qa S6;clear S6;clear c0 c1;obtain⟨c0,c1,_,_⟩:=Qu S9.o.box;obtain⟨c2,c3,f2,f3⟩:=Qu S9.o.res;go_wp2;obtain⟨g,r1,r2,r3⟩:=S9.o.fin (.int .i64 a') (.int .i64 d') rfl;exact bodyPost_ret (results_cell_row rfl _ _ (w.heap.size+1) 283 _ (0,0) _ rfl g underlying283 rfl Tryz.sizeWin) rfl ⟨rfl,v6,r1,r2,r3⟩
theorem I2 {lo B:Nat} {l:List Bool} (h:WrAt 272 5 w lo B v l) (x:Nat) (wn:Option (Nat × Nat)) (a d:Nat) (hwn:W2 wn a d) (hl:l.length<=100000000) (hx:x<18446744073709551616) (hT:Tab w) (hB:0<B) :
 Calls prog 244 #[.pointer (some ⟨B,0,none⟩),.int .u64 x,.agg #[.int .i64 a,.int .i64 d]] w λe w'=>∃a' d':Nat,e=.returned (.agg #[.int .i64 a',.int .i64 d'])∧W2 (gx x wn).2 a' d' ∧
  ∃v',WrAt 272 5 w' lo B v' (l++(gx x wn).1)∧Only (Foot B v) w w'∧Stays w v v':=by
 by_cases h0:x=0
 ·subst h0
  have e:gx 0 wn=([false],wn):=by unfold gx;rw[if_pos rfl]
  rw[e];refine (rj h a d hl).mono ?_;rintro e w' ⟨rfl,r⟩;exact⟨a,d,rfl,hwn,r⟩
 ·obtain⟨n1,n2,n3⟩:=Zn (Nat.pos_of_ne_zero h0) hx
  have hw:W2 (some (ldz x,tz x)) (ldz x) (64 - ldz x - tz x):=.inr ⟨tz x,rfl,n1,by omega,by omega⟩
  have hN:∀m:List Bool,m++[true]++[true]++Ql (ldz x) 5++Ql (63 - ldz x - tz x) 6++Ql (x / 2^tz x) (64 - ldz x - tz x)=m++newW x:=λm=>by unfold newW;simp
  rcases hwn with ⟨rfl,rfl,rfl⟩ | ⟨z,rfl,h1,h2,h3⟩
  ·have e:gx x none=(newW x,some (ldz x,tz x)):=by unfold gx;rw[if_neg h0]
   rw[e];refine (Pg h x 0 0 0 (.inl ⟨rfl,rfl⟩) hl (Nat.pos_of_ne_zero h0) hx hT hB).mono ?_;rintro e w' ⟨rfl,v',r⟩;rw[hN] at r;exact⟨_,_,rfl,hw,v',r⟩
  ·by_cases hf:fitsW x a z
   ·have e:gx x (some (a,z))=(true :: false :: Ql (x / 2^z) (64 - a - z),some (a,z)):=by unfold gx;rw[if_neg h0];simp only;rw[if_pos hf]
    rw[e];refine (vh h a z d x hl (Nat.pos_of_ne_zero h0) hx h2 h3 hf).mono ?_;rintro e w' ⟨rfl,v',r⟩;rw[show l++[true]++[false]++Ql (x / 2^z) d=l++true :: false :: Ql (x / 2^z) (64 - a - z) by rw[show 64 - a - z=d by omega];simp] at r;exact⟨a,d,rfl,.inr ⟨z,rfl,h1,h2,h3⟩,v',r⟩
   ·have e:gx x (some (a,z))=(newW x,some (ldz x,tz x)):=by unfold gx;rw[if_neg h0];simp only;rw[if_neg hf]
    rw[e];refine (Pg h x a z d (.inr ⟨h2,h3,hf⟩) hl (Nat.pos_of_ne_zero h0) hx hT hB).mono ?_;rintro e w' ⟨rfl,v',r⟩;rw[hN] at r;exact⟨_,_,rfl,hw,v',r⟩
end Go.Proofs.YteciafpneamfaaaGreatDoor
