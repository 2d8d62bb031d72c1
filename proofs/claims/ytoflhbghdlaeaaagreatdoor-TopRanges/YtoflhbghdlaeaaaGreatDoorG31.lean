import Derived.Test.YtoflhbghdlaeaaaGreatDoorG30
import Derived.Test.YtoflhbghdlaeaaaGreatDoorG20
namespace Go.Proofs.YtoflhbghdlaeaaaGreatDoor
set_option maxHeartbeats 1600000
set_option maxRecDepth 100000
open Go.RowKit _root_.Go.Proofs.Tryz
theorem J9 (x y z:LI):cat (λi=>if i=0 then x else if i=1 then y else z) 3=x++y++z:=by
 rw[Wa,Wa,Wa,Pd];simp
theorem A5 (v:Value) (xs:LI) (w:World) (h:Bs .u64 w v xs) (hu:U64 xs) (hl:xs.length<=65536) :
 Calls prog 235 #[v] w λe w'=>∃v',e=.returned (.tuple #[v',.int .i64 0])∧w'.ownsRow w.heap.size 5 1 v' (PK xs).length ((PK xs).map (Value.int .u8))∧N0 w w':=by
 have A:=Qa (ue v xs w h (by omega));have hz:=Qa h;have HU:=Qa hu;obtain⟨l1,l2,l3⟩:=lohi hu;have HW:=Qa (wd_le hu);have hf:Hid (wd xs=wid (hi xs - lo xs).toNat):=rfl;obtain⟨ao,cap,rfl⟩:=h.len
 have d0:decide (65536<(xs.length:Int))=false:=by simp;omega
 obtain⟨m,hm⟩:=EX xs.length;rw[<-hm] at A hz hl d0 ⊢;have HM:=Qa hm;clear h hu hm;obtain⟨a,ha⟩:=EX (lo xs);obtain⟨c,hc⟩:=EX (hi xs);rw[<-ha,<-hc] at A hf l2;rw[<-ha] at l1;rw[<-hc] at l3;have HA:=Qa ha;have HCC:=Qa hc;clear ha hc;go_enter func235,ntmps235;go_wp2_with fail;refine A.o.mono ?_;rintro e w1 ⟨rfl,o1⟩;clear A;have HO:=Qa o1;have BW:=Qa (VI (c - a) w1 (by omega) (by omega));clear o1;go_wp2_with fail;refine BW.o.mono ?_;rintro e w1' ⟨rfl,rfl⟩;clear BW;rw[<-hf.o];have hq:=HW.o;obtain⟨q,hj⟩:=EX (wd xs);rw[<-hj] at hq ⊢;have HQ:=Qa hj;clear hj hf HW
 have hq2:(q:Int)<=64:=by omega
 have W0:=Qa (WrAt.new (T:=292) (E:=5) w1);have ht:Hid (Below w1.heap.size w1 (w1.alloc (.cells #[.slice none 0 0,.int .i64 0] 292))):=(Below.refl _ _).alloc (Nat.le_refl _) _;have HSZ:=HO.o.size;go_wp2
 go_loopw [24] (λi wr=>∃k:Nat,k<=m∧i=.int .i64 k∧Below w1.heap.size w1 wr∧∃vw,WrAt 292 5 wr (w1.heap.size+1) w1.heap.size vw (ups a q (xs.take k))) (λi _=>m - (intOf i).toNat)
 case atStart=>exact⟨0,Nat.zero_le _,rfl,ht.o,_,W0.o⟩
 case round =>
  obtain⟨k,hk,rfl,hb,vw,h8⟩:=hrel;clear W0 ht;have hd:=Qa hb;have hn:=Qa h8
  by_cases hlt:k<m
  ·have h6:k<xs.length:=by rw[<-HM.o];exact hlt
   have k0:=(hz.o.keep HO.o (λ_ _ f=>f)).later hb;obtain⟨b,off,cap',e1,c0⟩:=k0.at k h6;simp only[Value.slice.injEq] at e1;obtain⟨rfl,e2,rfl⟩:=e1;clear e2
   have h7:xs.getD k 0∈xs:=by rw[Qd,Qg h6];simp
   obtain⟨x0,x1⟩:=HU.o _ h7;have x2:=lo_le xs _ h7;rw[<-HA.o] at x2;have x3:=SX xs _ h7;rw[<-HA.o,<-HQ.o] at x3
   have hw:Hid (ups a q (xs.take (k+1))=ups a q (xs.take k)++Qr (xs.getD k 0 - a).toNat q):=by
    simp only[Hid];rw[UU xs k h6,I8]
   have hr:(ups a q (xs.take k)).length<=1000000000:=by
    rw[GZ,Qf];have:min k xs.length*q<=65536*64:=Nat.mul_le_mul (by omega) hq;omega
   obtain⟨x,hx⟩:=EX (xs.getD k 0);rw[<-hx] at c0 x0 x1 x2 x3 hw;have PU:=Qa (U9 h8 (x - a) q (by omega) hq2 (by omega) (by omega) (by omega) hr)
   have dlt:decide ((k:Int)<(m:Int))=true:=by simp;omega
   clear k0 hx h7 x3 hr h8 hb h6;go_wp2_with fail;refine PU.o.mono ?_;rintro e w2 ⟨rfl,vw2,ho,hs,st2⟩;have HB2:=Qa (hd.o.trans (hs.below (B:=w1.heap.size) hd.o.size (hn.o.foot_ge (Nat.le_refl _))));have HW2:=Qa ho;clear PU ho hs st2;go_wp2
   go_roundw
   case rel=>exact⟨k+1,by omega,by simp,HB2.o,vw2,by rw[hw.o];simpa using HW2.o⟩
   case measure=>simp[intOf];omega
  ·obtain rfl:k=m:=by omega
   have dlt:decide ((k:Int)<(k:Int))=false:=by simp
   have AP:=Qa (Um (.slice none 0 0) [] a wr (Bs.nil _ _) NoCap.nil (by simp) l1 (by omega));clear h8 hb;go_wp2_with fail;refine AP.o.mono ?_;rintro e w3 ⟨v3,rfl,h0,he⟩;clear AP;rw[List.nil_append] at h0
   have hv:(q:Int)<256:=by omega
   have hg:=Qa (Q6 (v:=a.toNat) (by omega));have W3:=hn.o.keep ((he.trans ((Only.refl (λ_=>False) w3).alloc (.cells #[.int .u8 q] 5)) (λ_ _ f=>f))) (λf=>f) (λ_ _ f=>f)
   have hup:Hid (ups a q (xs.take k)=up xs):=by
    simp only[Hid];rw[HM.o,List.take_length,up,<-HA.o,<-HQ.o]
   rw[hup.o] at W3
   have h3:(up xs).length<=65536*64:=by rw[Ns,<-HQ.o,<-HM.o];exact Nat.mul_le_mul hl hq
   have BY:=Qa (ZU W3 (by omega));have O3:=Qa he;have W3':=Qa h0;have hh:=Qa h3;clear he h0 W3 h3;go_wp2_with fail;refine BY.o.mono ?_;rintro e w4 ⟨v4,rfl,h1,h5⟩;have h0:=h5.own (((Only.refl (λ_=>False) w3).alloc (.cells #[.int .u8 q] 5)).own W3'.o (λ_ _ f=>f)) (λ_ _ f=>f);clear BY;have b1:Bs .u8 w4 (.slice (some ⟨w3.heap.size,0,none⟩) 1 1) [(q:Int)]:=(Bs.lit .u8 w3 5 [(q:Int)]).keep h5 (λ_ _ f=>f);have h9:Below w4.heap.size w4 (w4.alloc (.cells #[v3,.slice (some ⟨w3.heap.size,0,none⟩) 1 1,v4] 23)):=(Below.refl _ _).alloc (Nat.le_refl _) _
   have CC:=Qa (VC w4.heap.size 3 (λi=>if i=0 then v3 else if i=1 then .slice (some ⟨w3.heap.size,0,none⟩) 1 1 else v4) (λi=>if i=0 then gs a.toNat else if i=1 then [(q:Int)] else QR (up xs)) (w4.alloc (.cells #[v3,.slice (some ⟨w3.heap.size,0,none⟩) 1 1,v4] 23)) (by omega) (by omega)
    (by
     intro i hi
     have:i=0∨i=1∨i=2:=by omega
     rcases this with rfl | rfl | rfl <;> go_cell)
    (by
     intro i hi
     have:i=0∨i=1∨i=2:=by omega
     rcases this with rfl | rfl | rfl
     ·exact (Bs.of_own h0).later h9
     ·exact b1.later h9
     ·exact (Bs.of_own h1).later h9)
    (by
     intro i hi
     have:i=0∨i=1∨i=2:=by omega
     rcases this with rfl | rfl | rfl
     ·exact NoCap.of_own h0
     ·exact NoCap.some _ _ _
     ·exact NoCap.of_own h1)
    (by rw[J9];simp;omega)
    (by
     rw[J9,Qc,Qc,Ka,nb]
     have:=hh.o;have:=hg.o;simp;omega))
   rw[J9] at CC;have O4:=Qa h5;obtain⟨f3,cp3,hv3⟩:=(Bs.of_own h0).len;obtain⟨f4,cp4,hv4⟩:=(Bs.of_own h1).len;subst hv3 hv4;clear h0 h1 h5 b1 h9;go_wp2_with fail;refine CC.o.mono ?_;rintro e w5 ⟨v5,rfl,h2,hp⟩
   have hy:gs a.toNat++[(q:Int)]++QR (up xs)=PK xs:=by unfold PK;rw[<-HA.o,<-HQ.o];simp
   rw[hy] at h2;have s4:=O4.o.size;have s3:=O3.o.size;have sr:=hd.o.size;simp only[World.size_alloc] at h2 s4;have h4:=Qa (Qu h2 (show w.heap.size<=w4.heap.size+1 by omega));have bl:Hid (Below w.heap.size w w5):=((((HO.o.low (Nat.le_refl _)).trans (hd.o.mono HSZ)).trans (O3.o.low (by omega))).trans ((((Below.refl _ w3).alloc (by omega) _)).trans (O4.o.low (by simp;omega)))).trans (((Below.refl _ w4).alloc (by omega) _).trans (hp.low (by simp;omega)));clear h2 hp CC hy;obtain⟨f5,cp5,hv5⟩:=(Bs.of_own h4.o).len;subst hv5;go_wp2;go_ret2;exact⟨_,rfl,h4.o,Uw bl.o⟩
theorem dclo (c:Nat) (x a:Int) (w:World) (hc:w.cell? ⟨c,0,none⟩=some (.int .i64 a)) (hf:w.frozen? ⟨c,0,none⟩=false) :
 Calls prog 258 #[.int .i64 x,.pointer (some ⟨c,0,none⟩)] w λe w'=>e=.returned (.int .i64 (wrap64 (x - a)))∧w'=w.setCell ⟨c,0,none⟩ (.int .i64 x):=by
 go_enter func258,ntmps258;go_wp2;go_ret;exact⟨rfl,rfl⟩
theorem Br {f:Int->LI->LI} {st:Int->Int->Int × Int} (hf:∀a x t,f a (x :: t)=(st a x).1 :: f (st a x).2 t) (xs:LI) (j:Nat) (a:Int) (hj:j<xs.length) :
 (xs.set j (st a (xs.getD j 0)).1).take (j+1)++f (st a (xs.getD j 0)).2 ((xs.set j (st a (xs.getD j 0)).1).drop (j+1))=xs.take j++f a (xs.drop j):=by
 have e1:xs.drop j=xs.getD j 0 :: xs.drop (j+1):=by
  rw[Qd,Qg hj];exact List.drop_eq_getElem_cons hj
 rw[e1,hf,List.take_add_one,List.take_set_of_le (Nat.le_refl _),List.drop_set_of_lt (Nat.lt_succ_self _),List.getElem?_set_self hj];simp
theorem rep_a {F:Nat} {f:Int->LI->LI} {so:Int->Int->Int × Int} (hd:∀a,f a []=[]) (hh:∀a x t,f a (x :: t)=(so a x).1 :: f (so a x).2 t) (CL:∀(c:Nat) (x a:Int) (w:World),w.cell? ⟨c,0,none⟩=some (.int .i64 a)->w.frozen? ⟨c,0,none⟩=false->Calls prog F #[.int .i64 x,.pointer (some ⟨c,0,none⟩)] w λe w'=>e=.returned (.int .i64 (so a x).1)∧w'=w.setCell ⟨c,0,none⟩ (.int .i64 (so a x).2)) (hF:F=258∨F=295) (lo c st n:Nat) (a0:Int) (v:Value) (xs:LI) (w:World) (hn:xs.length=n) (h0:w.ownsRow lo 3 1 v n (xs.map (Value.int .i64)))
 (hc:w.cell? ⟨c,0,none⟩=some (.int .i64 a0)) (hf:w.frozen? ⟨c,0,none⟩=false) (hne:∀k,v.ownBlock=some k->k≠c) (hl:n<=1000000) (hs:st<=1000000) :
 Calls prog 233 #[v,.int .i64 st,.func (.func F) #[] #[.pointer (some ⟨c,0,none⟩)]] w λe w'=>e=.returned (.tuple #[]) ∧
  w'.ownsRow lo 3 1 v n ((xs.take st++f a0 (xs.drop st)).map (Value.int .i64))∧Only (λk=>v.ownBlock=some k∨k=c) w w':=by
 have h8:v=.slice none 0 0∧n=0∨∃g cap,v=.slice (some ⟨g,0,none⟩) n cap:=by
  rcases h0.2 with h | ⟨g,cap,cur,h,_⟩
  ·exact .inl h
  ·exact .inr ⟨g,cap,h⟩
 have CLH:=Qa CL;have hd:=Qa hd;have hh:=Qa hh;clear CL;obtain⟨he,h2⟩:=EX (xs.take st++f a0 (xs.drop st));rw[<-h2]
 rcases hF with rfl | rfl
 all_goals
  rcases h8 with ⟨rfl,rfl⟩ | ⟨g,cap,rfl⟩
  ·have hx:xs=[]:=List.eq_nil_of_length_eq_zero hn
   subst hx
   have h7:he=[]:=by rw[h2];simp[hd.o]
   subst h7;have H:=Qa h0;clear h0 h2 hc hf hne hn;go_enter func233,ntmps233;go_wp2
   go_loop [6] (λi=>i=.int .i64 st) (λ_=>0)
   case atStart=>rfl
   case round =>
    subst hrel;go_wp2
    go_end0
    exact⟨rfl,H.o,Only.refl _ _⟩
  ·have hq:g≠c:=hne g rfl
   have h3:=Qa (And.intro h0 (And.intro hc hf));have HF:=Qa h2;have HN:=Qa hn;clear h0 hc hf h2 hne hn;go_enter func233,ntmps233;go_wp2
   go_loopw [6] (λi wr=>∃(j:Nat) (ys:LI) (a:Int),j<=1000000∧i=.int .i64 j∧ys.length=n∧wr.ownsRow lo 3 1 (.slice (some ⟨g,0,none⟩) n cap) n (ys.map (Value.int .i64)) ∧
    wr.cell? ⟨c,0,none⟩=some (.int .i64 a)∧wr.frozen? ⟨c,0,none⟩=false∧he=ys.take j++f a (ys.drop j)∧Only (λk=>k=g∨k=c) w wr) (λi _=>n - (intOf i).toNat)
   case atStart=>exact⟨st,xs,a0,hs,rfl,HN.o,h3.o.1,h3.o.2.1,h3.o.2.2,HF.o,Only.refl _ _⟩
   case round =>
    obtain⟨j,ys,a,hj,rfl,hb,h0,hc,hf,h2,ha⟩:=hrel;clear h3 HF HN
    by_cases hlt:j<n
    ·have h5:wr.cell? ⟨g,j,none⟩=some (.int .i64 (ys.getD j 0)):=by
      rw[h0.cellAt j (by omega),List.getElem?_map,Qg (by omega),Qd,Qg (by omega)]
      rfl
     have h6:=Br hh.o ys j a (by omega);obtain⟨y,hy⟩:=EX (ys.getD j 0);rw[<-hy] at h5 h6;have A:=Qa (CLH.o c y a wr hc hf);generalize (so a y).1=u at *;generalize (so a y).2=z at *
     have hg:(wr.setCell ⟨c,0,none⟩ (.int .i64 z)).cell? ⟨g,j,none⟩=some (.int .i64 y):=by
      rw[World.cell?_setCell_other (h:=by intro h;exact hq (by cases h;rfl))];exact h5
     have hfr2:(wr.setCell ⟨c,0,none⟩ (.int .i64 z)).frozen? ⟨g,j,none⟩=false:=by
      rw[World.frozen?_setCell];exact h0.frozenAt _
     have h9:Only (λk=>k=g∨k=c) w (wr.setCell ⟨c,0,none⟩ (.int .i64 z)):=ha.setCell (λ_=>.inr rfl) _
     have h4:(wr.setCell ⟨c,0,none⟩ (.int .i64 z)).ownsRow lo 3 1 (.slice (some ⟨g,0,none⟩) n cap) n (ys.map (Value.int .i64)) :=
      ((Only.refl (λk=>k=c) wr).setCell (p:=⟨c,0,none⟩) (λ_=>rfl) _).own h0 (λk hk=>by simp[Value.ownBlock] at hk;omega)
     have ho:(wr.setCell ⟨c,0,none⟩ (.int .i64 z)).cell? ⟨c,0,none⟩=some (.int .i64 z):=World.cell?_setCell_same _ _ _ hc
     have hp:(wr.setCell ⟨c,0,none⟩ (.int .i64 z)).frozen? ⟨c,0,none⟩=false:=by rw[World.frozen?_setCell];exact hf
     have H:=Qa (And.intro h9 (And.intro h4 (And.intro ho (And.intro hp (And.intro h2 h6)))))
     have i0:(0:Int)<=(j:Int):=by omega
     have i1:(j:Int)<(n:Int):=by omega
     clear h0 hc hf h2 ha h9 h4 ho hp h6;have HY:=Qa hy;have hm:=Qa hb;clear hy hb;go_wp2_with fail;refine A.o.mono ?_;rintro e w1 ⟨rfl,rfl⟩;clear A;go_wp2
     go_roundw
     case rel =>
      refine⟨j+1,ys.set j u,z,by omega,by go_num,by rw[List.length_set];exact hm.o,?_,?_,?_,?_,?_⟩
      ·have h1:=(H.o.2.1.stored j (.int .i64 u)).1
       rw[<-List.map_set] at h1;exact h1
      ·rw[World.cell?_setCell_other (h:=by intro h;exact hq (by cases h;rfl))];exact H.o.2.2.1
      ·rw[World.frozen?_setCell];exact H.o.2.2.2.1
      ·rw[H.o.2.2.2.2.1];exact H.o.2.2.2.2.2.symm
      ·exact H.o.1.setCell (λ_=>.inl rfl) _
     case measure=>simp[intOf];omega
    ·have e1:he=ys:=by
      rw[h2,List.drop_of_length_le (by omega),List.take_of_length_le (by omega)];simp[hd.o]
     subst e1;have H:=Qa (And.intro h0 ha);clear h0 ha hc hf h2;have hm:=Qa hb;clear hb;go_wp2
     go_end0
     exact⟨rfl,H.o.1,H.o.2.mono (λi _ h=>h.imp (λe=>by rw[e];rfl) id)⟩
theorem Tryz.infoCI:(prog.info? 3).map (λi=>(i.zero,i.size,i.bytes))=some (some (.int .i64 0),1,8):=by kernel_rfl
theorem Ac (c:Nat) (w:World):Calls prog 232 #[.slice none 0 c] w λe w'=>e=.returned (.slice none 0 0)∧w=w':=by
 have hnil:∀W,(binOp .eql 200 (.slice none 0 c) (.slice none 0 0)).run prog W=.ok (.bool true) W:=λW=>by
  rw[Lib.run_eql_slice_nil W 200 3 none 0 c 0 0 underlying200];rfl
 go_enter func232,ntmps232;go_wp2;go_ret;exact⟨rfl,rfl⟩
theorem Bn (ad:Addr) (m c:Nat) (news:List Value) (w:World) (hl:news.length=m) (hnews:∀j u,news[j]? = some u->w.cell? (ad.add j)=some u) (h1:∀u∈news,u.oneCell'=true) (hm:m<=1000000) :
 Calls prog 232 #[.slice (some ad) m c] w λe w'=>∃v',e=.returned v'∧w'.ownsRow w.heap.size 3 1 v' m news∧N0 w w'∧v'≠.slice none 0 0:=by
 obtain⟨i0,hi,hz0,hz1,hz2⟩:=info_parts Tryz.infoCI
 have hnil:∀W,(binOp .eql 200 (.slice (some ad) m c) (.slice none 0 0)).run prog W=.ok (.bool false) W:=λW=>by
  rw[Lib.run_eql_slice_nil W 200 3 (some ad) m c 0 0 underlying200];rfl
 have ho:=World.ownsRow_made (base:=w.heap.size) (e:=3) (size:=1) w #[] 0 (Nat.le_refl _) (by unfold maxLen;omega) rfl;have HN:Hid (∀j u,news[j]? = some u->w.cell? (ad.add j)=some u):=hnews;clear hnews;go_enter func232,ntmps232;go_wp2_with (at_builtin;refine wpList_append_own_at _ rfl _ _ _ rfl w.heap.size 3 i0 (.int .i64 0) 1 8 underlying200 hi hz0 hz1 hz2 rfl (by omega) (.slice (some ⟨w.heap.size,0,none⟩) 0 0) 0 [] rfl ho ad m c news rfl ?c0 ?c1 h1 ?c3 ?c4 ?c5 ?_)
 case c0=>omega
 case c1 =>
  intro j u hu;have h0:=HN.o j u hu;rw[World.cell?_of_block (Below.heap_alloc w _ _ (World.block_lt_of_cell? w _ h0))];exact h0
 case c3=>unfold maxLen;omega
 case c4=>omega
 case c5=>simp
 intro v' w1 hown1 hgrow hnn hat
 have FIN:Hid (w1.ownsRow w.heap.size 3 1 v' m news∧N0 w w1∧v'≠.slice none 0 0):=by
  refine⟨by simpa using hown1,((Only.refl _ _).alloc _).grown hgrow (λk hk e=>?_),hnn⟩;simp[Value.ownBlock] at e;omega
 clear hown1 hgrow hnn hat ho;go_wp2;go_ret;exact⟨v',rfl,FIN.o⟩
theorem qO (v:Value) (xs:LI) (w:World) (h:Bs .i64 w v xs) (hm:xs.length<=1000000) :
 Calls prog 232 #[v] w λe w'=>∃v',e=.returned v'∧w'.ownsRow w.heap.size 3 1 v' xs.length (xs.map (Value.int .i64))∧N0 w w':=by
 obtain⟨ao,cap,rfl,hc,hr⟩:=h
 cases ao with
 | none =>
  have hx:xs=[]:=by
   cases xs with
   | nil=>rfl
   | cons a t=>obtain⟨b,off,h,_⟩:=hr (by simp);cases h
  subst hx;refine (Ac cap w).mono ?_;rintro e w' ⟨rfl,rfl⟩;exact⟨_,rfl,World.ownsRow_nil _ _ _ _,Only.refl _ _⟩
 | some ad =>
  refine (Bn ad xs.length cap (xs.map (Value.int .i64)) w (by simp) ?_ (K9 _ _) hm).mono ?_
  ·intro j u hu
   have hj:j<xs.length:=by
    have:=(List.getElem?_eq_some_iff.1 hu).1
    simpa using this
   obtain⟨b,off,hb,h0⟩:=hr (by intro h;subst h;simp at hj)
   cases hb
   have h3:(⟨b,off,none⟩:Addr).add j=⟨b,off+j,none⟩:=by unfold Addr.add;split <;> simp_all
   rw[h3,h0 j hj];rw[<-hu];simp[List.getElem?_eq_getElem hj]
  ·rintro e w' ⟨v',rfl,h1,h2,_⟩
   exact⟨v',rfl,h1,h2⟩
theorem Gz {w:World} {lo:Nat} {E:TypeId} {size:Nat} {v:Value} {n:Nat} {xs:List Value} (h:w.ownsRow lo E size v n xs) {b:Nat} (hb:v.ownBlock=some b):lo<=b∧b<w.heap.size:=by
 rcases h.2 with ⟨rfl,_⟩ | ⟨g,cap,cur,rfl,hg,hh,_⟩
 ·simp[Value.ownBlock] at hb
 ·simp[Value.ownBlock] at hb
  subst hb;exact⟨hg,(Array.getElem?_eq_some_iff.1 hh).1⟩
theorem MO (k:Nat) (w:World) (hk:k<=3):Calls prog 231 #[.int .i64 k] w λe w'=>e=.returned (.bool true)∧w=w':=by
 have h1:decide ((0:Int)<=k)=true:=Qe (by omega);have h2:decide ((k:Int)<=3)=true:=Qe (by omega);go_enter func231,ntmps231;go_wp2;go_ret;exact⟨rfl,rfl⟩
theorem Di (w:World):(w.alloc (.cells #[.int .i64 0] 3)).cell? ⟨w.heap.size,0,none⟩=some (.int .i64 0) ∧
 (w.alloc (.cells #[.int .i64 0] 3)).frozen? ⟨w.heap.size,0,none⟩=false∧N0 w (w.alloc (.cells #[.int .i64 0] 3)) :=
 ⟨by rw[World.cell?_alloc_at _ _ _ _ rfl];rfl,World.frozen?_alloc_at _ _ _ _ rfl,(Only.refl _ _).alloc _⟩
theorem yE (w:World):Calls prog 234 #[] w λe w'=>e=.returned (.func (.func 258) #[] #[.pointer (some ⟨w.heap.size,0,none⟩)]) ∧
 w'.cell? ⟨w.heap.size,0,none⟩=some (.int .i64 0)∧w'.frozen? ⟨w.heap.size,0,none⟩=false∧N0 w w':=by
 have hmf:∀(fn:Fn) (first cap:Array Value) (w:World),(Instr.makeFunc fn first cap).run prog w=.ok (.func fn first cap) w:=λ_ _ _ _=>rfl
 have H:=Qa (Di w);go_enter func234,ntmps234;go_wp2;go_ret;exact⟨rfl,H.o⟩
theorem uH (v:Value) (xs:LI) (k:Nat) (w:World) (hb:Bs .i64 w v xs) (hl:xs.length<=1000000) (hk:k<=3) :
 Calls prog 207 #[v,.int .i64 k] w λe w'=>∃v',e=.returned (.tuple #[v',.int .i64 0])∧w'.ownsRow w.heap.size 3 1 v' xs.length ((D k xs).map (Value.int .i64))∧N0 w w':=by
 have A0:=Qa (MO k w hk);have A1:=Qa (qO v xs w hb hl);obtain⟨n,hn⟩:=EX xs.length;rw[<-hn] at hl A1 ⊢;obtain⟨N,hN⟩:=EX w.heap.size;rw[<-hN] at A1 ⊢;have HN:=Qa (And.intro hn hN);clear hn hN hb;go_enter func207,ntmps207;go_wp2_with fail;refine A0.o.mono ?_;rintro e w1 ⟨rfl,rfl⟩;clear A0;go_wp2_with fail;refine A1.o.mono ?_;rintro e w1 ⟨v',rfl,h3,h7⟩;have H1:=Qa (And.intro h3 h7);clear A1 h3 h7;go_wp2
 go_loopw [14] (λi wr=>∃j:Nat,j<=k∧i=.int .i64 j∧wr.ownsRow N 3 1 v' n ((D j xs).map (Value.int .i64))∧N0 w wr) (λi _=>k - (intOf i).toNat)
 case atStart=>exact⟨0,Nat.zero_le _,rfl,H1.o⟩
 case round =>
  obtain⟨j,hj,rfl,h1,h4⟩:=hrel;clear H1
  by_cases hlt:j<k
  ·have H:=Qa (And.intro h1 h4)
   clear h1 h4;have A2:=Qa (yE wr);go_wp2_with fail;refine A2.o.mono ?_;rintro e w2 ⟨rfl,hc,hf,h5⟩;have h0:=h5.own H.o.1 (λ_ _ f=>f)
   have hln:(D j xs).length=n:=by rw[Zl];exact HN.o.1.symm
   have A3:=Qa (rep_a (f:=dif) (so:=λa x=>(wrap64 (x - a),x)) (λ_=>rfl) (λ_ _ _=>rfl) dclo (.inl rfl) N wr.heap.size j n 0 v' (D j xs) w2 hln h0 hc hf (λb hb=>Nat.ne_of_lt (Gz H.o.1 hb).2) hl (by omega));have H2:=Qa (And.intro h5 h0);clear A2 hc hf h5 h0;go_wp2_with fail;refine A3.o.mono ?_;rintro e w3 ⟨rfl,h2,h6⟩;have H3:=Qa (And.intro h2 h6);clear A3 h2 h6;go_wp2
   go_roundw
   case rel =>
    refine⟨j+1,by omega,by go_num,H3.o.1,?_⟩;have o2:=H.o.2.trans H2.o.1 (λ_ _ f=>f);refine o2.trans H3.o.2 (λi hi h=>?_)
    rcases h with h | h
    ·have:=(Gz H.o.1 h).1
     have:=HN.o.2;omega
    ·have:=H.o.2.size
     omega
   case measure=>simp[intOf];omega
  ·have e1:j=k:=by omega
   subst e1;have H:=Qa (And.intro h1 h4);clear h1 h4;go_wp2;go_ret2;exact⟨_,rfl,H.o⟩
theorem Z0 (t:Int) (w:World) (h0:0<=t) (h1:t<=4):Calls prog 205 #[.int .i64 t] w λe w'=>e=.returned (.bool true)∧w=w':=by
 have d0:decide (0<=t)=true:=Qe h0;have d1:decide (t<5)=true:=Qe (by omega);clear h0 h1;go_enter func205,ntmps205;go_wp2;go_ret;exact⟨rfl,rfl⟩
theorem yJ (t:Int) (w:World) (h:t<0∨4<t):Calls prog 205 #[.int .i64 t] w λe w'=>e=.returned (.bool false)∧w=w':=by
 by_cases h0:t<0
 case' pos=>have d0:decide (0<=t)=false:=Qb (by omega)
 case' neg =>
  have d0:decide (0<=t)=true:=Qe (by omega);have d1:decide (t<5)=false:=Qb (by omega)
 all_goals
  clear h0 h;go_enter func205,ntmps205;go_wp2;go_ret;exact⟨rfl,rfl⟩
theorem IZ (t:Nat) (w:World) (h0:1<=t) (h1:t<=4):Calls prog 208 #[.int .i64 t] w λe w'=>e=.returned (.int .i64 (tms t))∧w=w':=by
 rcases (by omega:t=1∨t=2∨t=3∨t=4) with rfl | rfl | rfl | rfl
 case' inl=>rw[show ((1:Nat):Int)=1 from rfl]
 case' inr.inl=>rw[show ((2:Nat):Int)=2 from rfl]
 case' inr.inr.inl=>rw[show ((3:Nat):Int)=3 from rfl]
 case' inr.inr.inr=>rw[show ((4:Nat):Int)=4 from rfl]
 all_goals
  go_enter func208,ntmps208;go_wp2;go_ret;exact⟨rfl,rfl⟩
theorem Cn (l:LI) (k:Nat) (h:k<l.length):fx (l.take (k+1))=fx (l.take k)++fixL (u64o (l.getD k 0)) 8:=by
 rw[UU l k h,Iv]
theorem qr (v:Value) (l:LI) (w:World) (h:Bs .i64 w v l) (hl:l.length<=65536) :
 Calls prog 206 #[v] w λe w'=>∃u,e=.returned u∧w'.ownsRow w.heap.size 5 1 u (fx l).length ((fx l).map (Value.int .u8))∧N0 w w':=by
 obtain⟨i0,hi,hz0,hz1,hz2⟩:=info_parts Tryz.infoU8;have HB:=Qa h;obtain⟨ao,cap,rfl⟩:=h.len;obtain⟨n,hn⟩:=EX l.length;rw[<-hn] at hl HB;rw[<-hn];have HN:=Qa hn;clear h hn;go_enter func206,ntmps206;go_wp2
 go_loopw [3,8] (λs i wr=>∃k:Nat,k<=n∧i=.int .i64 k∧wr.ownsRow w.heap.size 5 1 s (fx (l.take k)).length ((fx (l.take k)).map (Value.int .u8))∧N0 w wr) (λ_ i _=>n - (intOf i).toNat)
 case atStart=>exact⟨0,Nat.zero_le _,rfl,World.ownsRow_nil _ _ _ _,Only.refl _ _⟩
 case round =>
  obtain⟨k,hk,rfl,h2,h3⟩:=hrel;have h1:=Qa h2;have h4:=Qa h3
  by_cases hlt:k<n
  ·have dlt:decide ((k:Int)<(n:Int))=true:=by simp;omega
   obtain⟨b,off,cap',e1,hc0⟩:=(HB.o.past h3).at k (by rw[<-HN.o];exact hlt)
   have ea:ao=some ⟨b,off,none⟩:=by simp at e1;exact e1.1
   subst ea;clear e1;have hb:=Qa (Cn l k (by rw[<-HN.o];exact hlt))
   have h9:Hid ((fx (l.take k)).length<=8*n):=by
    simp only[Hid];rw[Jb,Qf];omega
   obtain⟨f1,h6⟩:=EX (fx (l.take (k+1)));rw[<-h6] at hb;have HF1:=Qa h6;clear h6;generalize fx (l.take k)=f0 at *;generalize l.getD k 0=x at *;clear h2 h3 HB;go_wp2_with fail;refine (Ux _ 8 wr (by omega)).mono ?_;rintro e w4 ⟨u,rfl,h0,o4⟩;rw[IntKind.wrap_u64] at h0;have ow:=o4.own h1.o (λ_ _ f=>f);have h5:=Bs.of_own h0;have h8:=Qa (NoCap.of_own h0);have ha:=Qa h5;have hs4:w.heap.size<=w4.heap.size:=Nat.le_trans h4.o.size o4.size;have O4:=Qa (h4.o.trans o4 (λ_ _ f=>f));obtain⟨a4,c4,e4⟩:=h5.len;subst e4;clear o4 h0 h4 h1 h5;rw[QD] at ha h8;go_wp2_with (at_builtin;refine Yh _ rfl _ _ _ rfl w.heap.size 5 i0 (.int .u8 0) 1 underlying23 hi hz0 hz1 hz2 rfl _ _ _ rfl ow .u8 _ (fixL (x % 18446744073709551616) 8) rfl ha.o h8.o ?c3 ?c4 hs4 ?_)
   case c3=>have:=h9.o;rw[QD];unfold maxLen;omega
   case c4=>have:=h9.o;rw[QD];omega
   intro v6 w6 own6 hgrow6 _ _
   have h7:Hid (w6.ownsRow w.heap.size 5 1 v6 f1.length (f1.map (Value.int .u8))):=by
    simp only[Hid];rw[hb.o,Qc,List.map_append];exact own6
   have O6:=Qa (O4.o.grown hgrow6 (λk hk e=>absurd (ow.lt k e).1 (by omega)));clear ow own6 hgrow6;go_wp2
   go_roundw
   case rel=>exact⟨k+1,by omega,by go_num,by rw[<-HF1.o];exact h7.o,O6.o⟩
   case measure=>simp[intOf];omega
  ·obtain rfl:k=n:=by omega
   have dlt:decide ((k:Int)<(k:Int))=false:=by simp
   rw[HN.o,List.take_length] at h1;clear h2 h3;go_wp2;go_ret;exact⟨_,rfl,h1.o,h4.o⟩
def zpart (l:LI) (n k:Nat):LI:=zsn (l.take k)++List.replicate (n - k) 0
theorem CJ (l:LI) (k:Nat) (hk:k<=l.length):(zpart l l.length k).length=l.length:=by
 simp only[zpart,Qc,V7,Qf,List.length_replicate];omega
theorem Dh (l:LI) (n:Nat):(zpart l n 0).map (Value.int .u64)=(madeCells #[Value.int .u64 0] (n*1)).toList:=by
 apply List.ext_getElem?
 intro i
 by_cases h:i<n
 ·simp[zpart,zsn,madeCells,h,Nat.mod_one]
 ·simp[zpart,zsn,madeCells,h]
theorem qt (l:LI):zpart l l.length l.length=zsn l:=by simp[zpart]
theorem C7 (l:LI) (k:Nat) (h:k<l.length):(zpart l l.length k).set k (zig (l.getD k 0))=zpart l l.length (k+1):=by
 unfold zpart
 have h0:(zsn (l.take k)).length=k:=by rw[V7,Qf];omega
 rw[show l.length - k=(l.length - (k+1))+1 by omega,List.replicate_succ,List.set_append_right _ _ (by omega),h0,Nat.sub_self,Qj,UU l k h];simp[zsn]
theorem A6 (v:Value) (l:LI) (w:World) (h:Bs .i64 w v l) (hg:I64s l) (hl:l.length<=65536) :
 Calls prog 210 #[v] w λe w'=>∃u,e=.returned u∧w'.ownsRow w.heap.size 24 1 u (zsn l).length ((zsn l).map (Value.int .u64))∧N0 w w':=by
 obtain⟨i0,hi,hz0,hz1,hz2⟩:=info_parts Tryz.infoU64;have HB:=Qa h;have HG:=Qa hg;obtain⟨ao,cap,rfl⟩:=h.len;obtain⟨n,hn⟩:=EX l.length;rw[<-hn] at hl HB;rw[<-hn];have HN:=Qa hn;obtain⟨wm,he,h3,hd⟩:=run_make_full (P:=prog) w w.heap.size 201 24 i0 (.int .u64 0) 1 underlying201 hi hz0 hz1 .i64 .i64 n (by rw[hz2];omega) (by unfold maxLen;omega) (Nat.le_refl _)
 have h0:Hid (wm.ownsRow w.heap.size 24 1 (.slice (some ⟨w.heap.size,0,none⟩) n n) n ((zpart l n 0).map (Value.int .u64))∧N0 w wm):=by
  rw[show (Value.int .u64 0).cells=#[Value.int .u64 0] from rfl] at h3;rw[Dh];exact⟨h3,(Only.refl _ _).grown hd (λ_ _ e=>by cases e)⟩
 clear h3 hd;obtain⟨N,hN⟩:=EX w.heap.size;rw[<-hN] at he h0;rw[<-hN];have HNN:=Qa hN;clear h hn hN hg;go_enter func210,ntmps210;go_wp2
 go_loopw [11] (λi wr=>∃k:Nat,k<=n∧i=.int .i64 k∧wr.ownsRow N 24 1 (.slice (some ⟨N,0,none⟩) n n) n ((zpart l n k).map (Value.int .u64))∧N0 w wr) (λi _=>n - (intOf i).toNat)
 case atStart=>exact⟨0,Nat.zero_le _,rfl,h0.o.1,h0.o.2⟩
 case round =>
  obtain⟨k,hk,rfl,h2,h8⟩:=hrel;clear h0 he;have h4:=Qa h2;have ha:=Qa h8
  by_cases hlt:k<n
  ·have dlt:decide ((k:Int)<(n:Int))=true:=by simp;omega
   have h7:k<l.length:=by rw[<-HN.o];exact hlt
   obtain⟨b,off,cap',e1,hc0⟩:=(HB.o.past h8).at k h7
   have ea:ao=some ⟨b,off,none⟩:=by simp at e1;exact e1.1
   subst ea;clear e1;have hx:=HG.o (l.getD k 0) (ZP l k h7)
   have h5:∃y,wr.cell? ⟨N,k,none⟩=some (.int .u64 y):=by
    have hz:=CJ l k (by omega);rw[<-HN.o] at hz;refine⟨(zpart l n k).getD k 0,?_⟩;rw[h2.cellAt k (by omega),List.getElem?_map,Qg (by rw[hz];omega),Qd,Qg (by rw[hz];omega)]
    rfl
   obtain⟨y,hy⟩:=h5;have hfr:wr.frozen? ⟨N,k,none⟩=false:=h2.frozenAt _
   have h6:Hid (((zpart l n k).map (Value.int .u64)).set k (.int .u64 (zig (l.getD k 0)))=(zpart l n (k+1)).map (Value.int .u64)):=by
    simp only[Hid];rw[<-List.map_set,HN.o,C7 l k h7]
   generalize l.getD k 0=x at *;clear h2 h8 HB HG h7;go_wp2_with fail;refine (Ta x wr hx.1 hx.2).mono ?_;rintro e w1 ⟨rfl,rfl⟩;go_wp2
   go_roundw
   case rel =>
    refine⟨k+1,by omega,by go_num,?_,?_⟩
    ·have h1:=(h4.o.stored k (.int .u64 (zig x))).1
     rw[h6.o] at h1;exact h1
    ·refine ha.o.setCell (λhb=>?_) _
     have:=HNN.o;simp only at hb;omega
   case measure=>simp[intOf];omega
  ·obtain rfl:k=n:=by omega
   have dlt:decide ((k:Int)<(k:Int))=false:=by simp
   have F:Hid (wr.ownsRow N 24 1 (.slice (some ⟨N,0,none⟩) k k) (zsn l).length ((zsn l).map (Value.int .u64))):=by
    have h1:=h4.o;have h9:=HN.o;simp only[Hid];rw[V7,<-h9];rw[show zpart l k k=zsn l by rw[h9];exact qt l] at h1;exact h1
   clear h2 h8;go_wp2;go_ret;exact⟨_,rfl,F.o,ha.o⟩
theorem qM (v:Value) (l:LI) (w:World) (h:Bs .u64 w v l) (hu:U64 l) (hl:l.length<=65536) :
 Calls prog 238 #[v] w λe w'=>∃u,e=.returned u∧w'.ownsRow w.heap.size 5 1 u (allG l).length ((allG l).map (Value.int .u8))∧N0 w w':=by
 obtain⟨i0,hi,hz0,hz1,hz2⟩:=info_parts Tryz.infoU8;have HB:=Qa h;have HU:=Qa hu;obtain⟨ao,cap,rfl⟩:=h.len;obtain⟨n,hn⟩:=EX l.length;rw[<-hn] at hl HB;rw[<-hn];have HN:=Qa hn;clear h hn hu;go_enter func238,ntmps238;go_wp2
 go_loopw [3,8] (λs i wr=>∃k:Nat,k<=n∧i=.int .i64 k∧wr.ownsRow w.heap.size 5 1 s (allG (l.take k)).length ((allG (l.take k)).map (Value.int .u8))∧N0 w wr) (λ_ i _=>n - (intOf i).toNat)
 case atStart=>exact⟨0,Nat.zero_le _,rfl,World.ownsRow_nil _ _ _ _,Only.refl _ _⟩
 case round =>
  obtain⟨k,hk,rfl,h2,h5⟩:=hrel;have h1:=Qa h2;have h6:=Qa h5
  by_cases hlt:k<n
  ·have dlt:decide ((k:Int)<(n:Int))=true:=by simp;omega
   have h4:k<l.length:=by rw[<-HN.o];exact hlt
   obtain⟨b,off,cap',e1,hc0⟩:=(HB.o.past h5).at k h4
   have ea:ao=some ⟨b,off,none⟩:=by simp at e1;exact e1.1
   subst ea;clear e1;have hx:=HU.o (l.getD k 0) (ZP l k h4);have hb:=Qa (Db l k h4)
   have ha:Hid ((allG (l.take k)).length<=10*n):=by
    simp only[Hid];rw[HN.o];exact yq l k HU.o
   have h3:=Qa (Q6 (v:=(l.getD k 0).toNat) (by omega));obtain⟨f1,h8⟩:=EX (allG (l.take (k+1)));rw[<-h8] at hb;have HF1:=Qa h8;clear h8;generalize allG (l.take k)=f0 at *;generalize l.getD k 0=x at *;clear h2 h5 HB h4;go_wp2_with fail;refine (Um (.slice none 0 0) [] x wr (Bs.nil _ _) NoCap.nil (by simp) hx.1 hx.2).mono ?_;rintro e w4 ⟨u,rfl,h0,o4⟩;rw[List.nil_append] at h0;have ow:=o4.own h1.o (λ_ _ f=>f);have h7:=Bs.of_own h0;have NC4:=Qa (NoCap.of_own h0);have HB4:=Qa h7;have hs4:w.heap.size<=w4.heap.size:=Nat.le_trans h6.o.size o4.size;have O4:=Qa (h6.o.trans o4 (λ_ _ f=>f));obtain⟨a4,c4,e4⟩:=h7.len;subst e4;clear o4 h0 h6 h1 h7;generalize gs x.toNat=g at *;go_wp2_with (at_builtin;refine Yh _ rfl _ _ _ rfl w.heap.size 5 i0 (.int .u8 0) 1 underlying23 hi hz0 hz1 hz2 rfl _ _ _ rfl ow .u8 _ g rfl HB4.o NC4.o ?c3 ?c4 hs4 ?_)
   case c3=>have:=ha.o;have:=h3.o;unfold maxLen;omega
   case c4=>have:=ha.o;have:=h3.o;omega
   intro v6 w6 own6 hgrow6 _ _
   have h9:Hid (w6.ownsRow w.heap.size 5 1 v6 f1.length (f1.map (Value.int .u8))):=by
    simp only[Hid];rw[hb.o,Qc,List.map_append];exact own6
   have O6:=Qa (O4.o.grown hgrow6 (λk hk e=>absurd (ow.lt k e).1 (by omega)));clear ow own6 hgrow6;go_wp2
   go_roundw
   case rel=>exact⟨k+1,by omega,by go_num,by rw[<-HF1.o];exact h9.o,O6.o⟩
   case measure=>simp[intOf];omega
  ·obtain rfl:k=n:=by omega
   have dlt:decide ((k:Int)<(k:Int))=false:=by simp
   rw[HN.o,List.take_length] at h1;clear h2 h5;go_wp2;go_ret;exact⟨_,rfl,h1.o,h6.o⟩
theorem qK (l:LI) (k:Nat):zsn (l.drop k)=(zsn l).drop k:=by simp[zsn,List.map_drop]
theorem qk {l:LI} (h:0<l.length):(zsn l).getD 0 0=zig (l.getD 0 0):=by
 cases l with
 | nil=>simp at h
 | cons a t=>rfl
theorem El {z:LI} (hu:U64 z) (hl:z.length<=65536) (t:Nat):(WOTH z t).1.length<=10000000:=by
 unfold WOTH
 by_cases h2:t=2
 ·rw[if_pos h2]
  have h1:=qQ z;have h3:z.length*wd z<=65536*64:=Nat.mul_le_mul hl (wd_le hu);have h4:=Q6 (v:=(lo z).toNat) (by have:=lohi hu;omega);simp only;omega
 ·rw[if_neg h2]
  by_cases h3:t=3
  ·rw[if_pos h3]
   have:=DQ (xs:=z) (λx hx=>(hu x hx).1);omega
  ·rw[if_neg h3]
   by_cases h4:t=4
   ·rw[if_pos h4]
    have:=T8 z hu (by omega);simp only;omega
   ·rw[if_neg h4]
    have:=LM z hu;simp only;omega
theorem Ds (v:Value) (z:LI) (t:Nat) (w:World) (h:Bs .u64 w v z) (hu:U64 z) (hl:z.length<=65536) (h1:1<=t) (h4:t<=4) :
 Calls prog 209 #[v,.int .i64 t] w λe w'=>∃u,e=.returned (.tuple #[u,.int .i64 (WOTH z t).2])∧w'.ownsRow w.heap.size 5 1 u (WOTH z t).1.length ((WOTH z t).1.map (Value.int .u8))∧N0 w w':=by
 rcases (by omega:t=1∨t=2∨t=3∨t=4) with rfl | rfl | rfl | rfl
 case' inl=>have A:=Qa (qM v z w h hu hl);rw[show ((1:Nat):Int)=1 from rfl]
 case' inr.inl=>have A:=Qa (A5 v z w h hu hl);rw[show ((2:Nat):Int)=2 from rfl]
 case' inr.inr.inl=>have A:=Qa (wo v z w h hu);rw[show ((3:Nat):Int)=3 from rfl]
 case' inr.inr.inr=>have A:=Qa (Ca v z w h hu hl);rw[show ((4:Nat):Int)=4 from rfl]
 all_goals
  obtain⟨ao,cap,rfl⟩:=h.len;clear h hu hl;go_enter func209,ntmps209;go_wp2_with fail;refine A.o.mono ?_;rintro e w1 ⟨u,rfl,h0,o1⟩;have F:=Qa (And.intro h0 o1);obtain⟨f1,c1,e1⟩:=(Bs.of_own h0).len;subst e1;clear A h0 o1;go_wp2
  try rw[Exit.noGoto_ret]
  go_ret2;exact⟨_,rfl,F.o.1,F.o.2⟩
theorem MI (v:Value) (tag:Int) (w:World) (ht:tag<0∨4<tag) :
 Calls prog 187 #[v,.int .i64 tag] w λe w'=>e=.returned (.tuple #[.slice none 0 0,.int .i64 1])∧w=w':=by
 have A:=Qa (yJ tag w ht);clear ht;go_enter func187,ntmps187;go_wp2_with fail;refine A.o.mono ?_;rintro e w1 ⟨rfl,rfl⟩;go_wp2
 try rw[Exit.noGoto_ret]
 go_ret2;exact⟨rfl,rfl⟩
theorem Tl (v:Value) (l:LI) (t:Nat) (w:World) (h:Bs .i64 w v l) (hl:65536<l.length) (ht:t<=4) :
 Calls prog 187 #[v,.int .i64 t] w λe w'=>e=.returned (.tuple #[.slice none 0 0,.int .i64 4])∧w=w':=by
 have A:=Qa (Z0 t w (by omega) (by omega));obtain⟨ao,cap,rfl⟩:=h.len;have d0:decide ((65536:Int)<l.length)=true:=Qe (by omega);clear h hl ht;generalize l.length=n at *;go_enter func187,ntmps187;go_wp2_with fail;refine A.o.mono ?_;rintro e w1 ⟨rfl,rfl⟩;go_wp2
 try rw[Exit.noGoto_ret]
 go_ret2;exact⟨rfl,rfl⟩
theorem yG (v:Value) (t:Nat) (w:World) (h:Bs .i64 w v []) (ht:t<=4) :
 Calls prog 187 #[v,.int .i64 t] w λe w'=>e=.returned (.tuple #[.slice none 0 0,.int .i64 0])∧w=w':=by
 have A:=Qa (Z0 t w (by omega) (by omega));obtain⟨ao,cap,e0⟩:=h.len;rw[List.length_nil] at e0;subst e0;clear h ht;go_enter func187,ntmps187;go_wp2_with fail;refine A.o.mono ?_;rintro e w1 ⟨rfl,rfl⟩;go_wp2
 try rw[Exit.noGoto_ret]
 go_ret2;exact⟨rfl,rfl⟩
theorem yA (v:Value) (l:LI) (w:World) (h:Bs .i64 w v l) (hl:l.length<=65536) (hp:0<l.length) :
 Calls prog 187 #[v,.int .i64 0] w λe w'=>∃u,e=.returned (.tuple #[u,.int .i64 0])∧w'.ownsRow w.heap.size 5 1 u (fx l).length ((fx l).map (Value.int .u8))∧N0 w w':=by
 have A:=Qa (Z0 0 w (by omega) (by omega));have B:=Qa (qr v l w h hl);obtain⟨ao,cap,rfl⟩:=h.len;have d0:decide ((65536:Int)<l.length)=false:=Qb (by omega)
 have d1:((l.length:Int) == 0)=false:=by rw[beq_eq_false_iff_ne];omega
 clear h hl hp;generalize l.length=n at *;go_enter func187,ntmps187;go_wp2_with fail;refine A.o.mono ?_;rintro e w1 ⟨rfl,rfl⟩;go_wp2_with fail;refine B.o.mono ?_;rintro e w1 ⟨u,rfl,h0,o1⟩;have F:=Qa (And.intro h0 o1);obtain⟨f1,c1,e1⟩:=(Bs.of_own h0).len;subst e1;clear A B h0 o1;go_wp2
 try rw[Exit.noGoto_ret]
 go_ret2;exact⟨_,rfl,F.o.1,F.o.2⟩
theorem AU (v:Value) (l:LI) (t:Nat) (w:World) (h:Bs .i64 w v l) (hg:I64s l) (hl:l.length<=65536) (hp:0<l.length) (h1:1<=t) (h4:t<=4) :
 Calls prog 187 #[v,.int .i64 t] w λe w'=>∃u,e=.returned (.tuple #[u,.int .i64 (QF l t).2])∧w'.ownsRow w.heap.size 5 1 u (QF l t).1.length ((QF l t).1.map (Value.int .u8))∧N0 w w':=by
 have A:=Qa (Z0 t w (by omega) (by omega));have TM:=Qa (IZ t w h1 h4);have DF:=Qa (uH v l (tms t) w h (by omega) (Ic t));have h9:=Qa (Zl (tms t) l);have hu:=Qa (D_i64 hg (tms t))
 have WO:Hid (∀(u:Value) (w2:World),Bs .u64 w2 u ((zsn (D (tms t) l)).drop 1)->Calls prog 209 #[u,.int .i64 t] w2 λe w'=>∃u',e=.returned (.tuple #[u',.int .i64 (WOTH ((zsn (D (tms t) l)).drop 1) t).2])∧w'.ownsRow w2.heap.size 5 1 u' (WOTH ((zsn (D (tms t) l)).drop 1) t).1.length ((WOTH ((zsn (D (tms t) l)).drop 1) t).1.map (Value.int .u8))∧N0 w2 w') :=
  λu w2 hb=>Ds u _ t w2 hb ((JM hg _).drop 1) (by rw[Qo,PE];omega) h1 h4
 have hf:=Qa (El (z:=(zsn (D (tms t) l)).drop 1) ((JM hg _).drop 1) (by rw[Qo,PE];omega) t)
 have h0:Hid (QF l t=if (WOTH ((zsn (D (tms t) l)).drop 1) t).2≠0 then ([],(WOTH ((zsn (D (tms t) l)).drop 1) t).2) else (gs (zig ((D (tms t) l).getD 0 0)).toNat++(WOTH ((zsn (D (tms t) l)).drop 1) t).1,0)):=by
  simp only[Hid];unfold QF;rw[if_neg (List.length_pos_iff.1 hp),if_neg (by omega),qk (by rw[Zl];exact hp)]
 obtain⟨ao,cap,rfl⟩:=h.len;have d0:decide ((65536:Int)<l.length)=false:=Qb (by omega)
 have d1:((l.length:Int) == 0)=false:=by rw[beq_eq_false_iff_ne];omega
 have d2:((t:Int) == 0)=false:=by rw[beq_eq_false_iff_ne];omega
 obtain⟨n,hn⟩:=EX l.length;rw[<-hn] at hl hp d0 d1 DF h9;rw[<-hn];clear h hg hn;obtain⟨z1,hr⟩:=EX ((zsn (D (tms t) l)).drop 1);rw[<-hr] at WO hf h0;have HZ1:=Qa hr;clear hr;generalize hWO:WOTH z1 t=W at *;clear hWO;obtain⟨W1,c⟩:=W;simp only at WO hf h0;generalize QF l t=Wl at *;generalize hDD:D (tms t) l=d at *;clear hDD;generalize tms t=k at *;go_enter func187,ntmps187;go_wp2_with fail;refine A.o.mono ?_;rintro e w1 ⟨rfl,rfl⟩;clear A;go_wp2_with fail;refine TM.o.mono ?_;rintro e w1 ⟨rfl,rfl⟩;clear TM;go_wp2_with fail;refine DF.o.mono ?_;rintro e w1 ⟨v1,rfl,ha,o1⟩;clear DF;have hh:=Qa ha;have he:Bs .i64 w1 v1 d:=Bs.of_own (by rw[h9.o];exact ha);have hq:=Qa he;obtain⟨a1,h3,e1⟩:=he.len;rw[h9.o] at e1;subst e1
 have hc1:n<=h3:=by
  obtain⟨ao',hj,e2,hc,_⟩:=he;rw[h9.o] at hc;simp at e2;omega
 have HO1:=Qa o1;clear ha o1 he
 have j0:(1:Int)<=(n:Int):=by omega
 have j1:(1:Int)<=(h3:Int):=by omega
 by_cases hcc:h3=1
 case' pos =>
  subst hcc
  obtain rfl:n=1:=by omega
  have hk:Bs .i64 w1 (.slice a1 0 0) (d.drop 1):=by have:=hq.o.cut0 (n:=1) (by omega);simpa using this
 case' neg =>
  have hcx:¬((h3:Int) - 1=0):=by omega
  have hk:Bs .i64 w1 (.slice (a1.map (λx=>x.add 1)) (n - 1) (h3 - 1)) (d.drop 1):=by have:=hq.o.cut (n:=1) (by omega);simpa using this
 all_goals
  have ZG:=Qa (A6 _ (d.drop 1) w1 hk (λx hx=>hu.o x (List.mem_of_mem_drop hx)) (by rw[Qo,h9.o];omega));rw[qK,<-HZ1.o] at ZG;clear hk;go_wp2_with fail;refine ZG.o.mono ?_;rintro e w2 ⟨v2,rfl,h8,o2⟩;clear ZG;have W2:=Qa (WO.o v2 w2 (Bs.of_own h8));have O12:=Qa o2;have hm:=Qa (o2.own hh.o (λ_ _ f=>f));obtain⟨f2,c2,e2⟩:=(Bs.of_own h8).len;subst e2;clear h8 o2;go_wp2_with fail;refine W2.o.mono ?_;rintro e w3 ⟨v3,rfl,h5,o3⟩;clear W2;have hv:=Qa (O12.o.same o3);have hw:=Qa (HO1.o.same hv.o);have OWN3:=Qa (o3.own hm.o (λ_ _ f=>f));have HB3:=Qa (Bs.of_own h5);have NC3:=Qa (NoCap.of_own h5);obtain⟨f3,c3,e3⟩:=(Bs.of_own h5).len;subst e3;clear h5 o3
  by_cases hc:c=0
  ·subst hc
   have hx:=hu.o (d.getD 0 0) (ZP d 0 (by rw[h9.o];omega));have hd:=Pn _ hx.1 hx.2;obtain⟨b,off,hj,e4,h7⟩:=(hq.o.past hv.o).at 0 (by rw[h9.o];omega)
   have ea:a1=some ⟨b,off,none⟩:=by simp at e4;exact e4.1
   subst ea;clear e4;rw[Nat.add_zero] at h7;rw[if_neg (by simp)] at h0;obtain⟨x,hs⟩:=EX (d.getD 0 0);rw[<-hs] at h7 hx hd h0;have ZA:=Qa (Ta x w3 hx.1 hx.2);have AA:=Qa (Um (.slice none 0 0) [] (zig x) w3 (Bs.nil _ _) NoCap.nil (by simp) hd.1 hd.2);have H10:=Qa (Q6 (v:=(zig x).toNat) (by omega));have HGP:=Qa (Vb (zig x).toNat);clear hs hx hd;go_wp2_with fail;refine ZA.o.mono ?_;rintro e w3' ⟨rfl,rfl⟩;clear ZA;go_wp2_with fail;refine AA.o.mono ?_;rintro e w4 ⟨v4,rfl,h2,o4⟩;clear AA;rw[List.nil_append] at h2;have ho:Below w4.heap.size w4 (w4.alloc (.cells #[v4,.slice f3 W1.length c3] 23)):=(Below.refl _ _).alloc (Nat.le_refl _) _;have CC:=Qa (WJ w4.heap.size v4 _ (gs (zig x).toNat) W1 (w4.alloc (.cells #[v4,.slice f3 W1.length c3] 23)) (by go_cell) (by go_cell) ((Bs.of_own h2).later ho) ((HB3.o.past o4).later ho) (NoCap.of_own h2) NC3.o (by have:=HGP.o;omega) (by have:=H10.o;have:=hf.o;omega));have O4:=Qa ((hw.o.same o4).alloc (.cells #[v4,.slice f3 W1.length c3] 23));obtain⟨f4,c4,e4⟩:=(Bs.of_own h2).len;subst e4;clear h2 o4 ho;generalize gs (zig x).toNat=g at *;go_wp2_with fail;refine CC.o.mono ?_;rintro e w5 ⟨v5,rfl,h6,o5⟩;clear CC;obtain⟨gw,ht⟩:=EX (g++W1);rw[<-ht] at h6 h0;have eW:=h0.o;subst eW;have F:=Qa (And.intro (Qu h6 O4.o.size) (O4.o.same o5));clear ht h0;obtain⟨f5,c5,e5⟩:=(Bs.of_own h6).len;subst e5;clear h6 o5;go_wp2
   try rw[Exit.noGoto_ret]
   go_ret2;exact⟨_,rfl,F.o.1,F.o.2⟩
  ·have dc:(c != 0)=true:=by simp;exact hc
   rw[if_pos hc] at h0;have eW:=h0.o;subst eW;clear h0;go_wp2
   try rw[Exit.noGoto_ret]
   go_ret2;exact⟨_,rfl,World.ownsRow_nil _ _ _ _,hw.o⟩
end Go.Proofs.YtoflhbghdlaeaaaGreatDoor
