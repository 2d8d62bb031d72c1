import Derived.Test.YtiochaeeoelmjaaGreatDoorG26
import Derived.Test.YtiochaeeoelmjaaGreatDoorG16
import Derived.Test.YtiochaeeoelmjaaGreatDoorG3
import Derived.Deep.RegionHeld3
import Derived.Test.YtiochaeeoelmjaaGreatDoorProg
import Derived.Test.YtiochaeeoelmjaaGreatDoorG1
import Derived.Test.YtiochaeeoelmjaaGreatDoorG25
import Derived.WalkSpells
namespace Go.Proofs.YtiochaeeoelmjaaGreatDoor
set_option maxHeartbeats 1600000
set_option maxRecDepth 100000
open Go.RowKit _root_.Go.Proofs.Tryz
theorem Xv (x y z:LI):cat (λi=>if i=0 then x else if i=1 then y else z) 3=x++y++z:=by
 rw[Wc,Wc,Wc,Ts];simp
theorem Ba (v:Value) (xs:LI) (w:World) (h:Bs .u64 w v xs) (hu:U64 xs) (hl:xs.length<=65536) :
 Calls prog 129 #[v] w λe w'=>∃v',e=.returned (.tuple #[v',.int .i64 0])∧w'.ownsRow w.heap.size 5 1 v' (PK xs).length ((PK xs).map (Value.int .u8))∧N0 w w':=by
 have A:=Qa (yC v xs w h (by omega));have hw:=Qa h;have HU:=Qa hu;obtain⟨l1,l2,l3⟩:=lohi hu;have HW:=Qa (wd_le hu);have hf:Hid (wd xs=wid (hi xs - lo xs).toNat):=rfl;obtain⟨ao,cap,rfl⟩:=h.len
 have d0:decide (65536<(xs.length:Int))=false:=by simp;omega
 obtain⟨m,hm⟩:=EX xs.length;rw[<-hm] at A hw hl d0 ⊢;have HM:=Qa hm;clear h hu hm;obtain⟨a,ha⟩:=EX (lo xs);obtain⟨c,hc⟩:=EX (hi xs);rw[<-ha,<-hc] at A hf l2;rw[<-ha] at l1;rw[<-hc] at l3;have HA:=Qa ha;have HCC:=Qa hc;clear ha hc;go_enter func129,ntmps129;go_wp2_with fail;refine A.o.mono ?_;rintro e w1 ⟨rfl,o1⟩;clear A;have HO:=Qa o1;have BW:=Qa (Va (c - a) w1 (by omega) (by omega));clear o1;go_wp2_with fail;refine BW.o.mono ?_;rintro e w1' ⟨rfl,rfl⟩;clear BW;rw[<-hf.o];have hq:=HW.o;obtain⟨q,hh⟩:=EX (wd xs);rw[<-hh] at hq ⊢;have HQ:=Qa hh;clear hh hf HW
 have hq2:(q:Int)<=64:=by omega
 have W0:=Qa (WrAt.new (T:=214) (E:=5) w1);have hs:Hid (Below w1.heap.size w1 (w1.alloc (.cells #[.slice none 0 0,.int .i64 0] 214))):=(Below.refl _ _).alloc (Nat.le_refl _) _;have HSZ:=HO.o.size;go_wp2
 go_loopw [24] (λi wr=>∃k:Nat,k<=m∧i=.int .i64 k∧Below w1.heap.size w1 wr∧∃vw,WrAt 214 5 wr (w1.heap.size+1) w1.heap.size vw (ups a q (xs.take k))) (λi _=>m - (intOf i).toNat)
 case atStart=>exact⟨0,Nat.zero_le _,rfl,hs.o,_,W0.o⟩
 case round =>
  obtain⟨k,hk,rfl,hd,vw,h9⟩:=hrel;clear W0 hs;have h5:=Qa hd;have hn:=Qa h9
  by_cases hlt:k<m
  ·have h8:k<xs.length:=by rw[<-HM.o];exact hlt
   have hz:=(hw.o.keep HO.o (λ_ _ f=>f)).later hd;obtain⟨b,off,cap',e1,c0⟩:=hz.at k h8;simp only[Value.slice.injEq] at e1;obtain⟨rfl,e2,rfl⟩:=e1;clear e2
   have h7:xs.getD k 0∈xs:=by rw[Qc,Qe h8];simp
   obtain⟨x0,x1⟩:=HU.o _ h7;have x2:=lo_le xs _ h7;rw[<-HA.o] at x2;have x3:=AB xs _ h7;rw[<-HA.o,<-HQ.o] at x3
   have hr:Hid (ups a q (xs.take (k+1))=ups a q (xs.take k)++Qp (xs.getD k 0 - a).toNat q):=by
    simp only[Hid];rw[UR xs k h8,qB]
   have ho:(ups a q (xs.take k)).length<=1000000000:=by
    rw[PX,Qd];have:min k xs.length*q<=65536*64:=Nat.mul_le_mul (by omega) hq;omega
   obtain⟨x,hx⟩:=EX (xs.getD k 0);rw[<-hx] at c0 x0 x1 x2 x3 hr;have PU:=Qa (UK h9 (x - a) q (by omega) hq2 (by omega) (by omega) (by omega) ho)
   have dlt:decide ((k:Int)<(m:Int))=true:=by simp;omega
   clear hz hx h7 x3 ho h9 hd h8;go_wp2_with fail;refine PU.o.mono ?_;rintro e w2 ⟨rfl,vw2,ht,hy,st2⟩;have HB2:=Qa (h5.o.trans (hy.below (B:=w1.heap.size) h5.o.size (hn.o.foot_ge (Nat.le_refl _))));have HW2:=Qa ht;clear PU ht hy st2;go_wp2
   go_roundw
   case rel=>exact⟨k+1,by omega,by simp,HB2.o,vw2,by rw[hr.o];simpa using HW2.o⟩
   case measure=>simp[intOf];omega
  ·obtain rfl:k=m:=by omega
   have dlt:decide ((k:Int)<(k:Int))=false:=by simp
   have AP:=Qa (Ug (.slice none 0 0) [] a wr (Bs.nil _ _) NoCap.nil (by simp) l1 (by omega));clear h9 hd;go_wp2_with fail;refine AP.o.mono ?_;rintro e w3 ⟨v3,rfl,h0,hg⟩;clear AP;rw[List.nil_append] at h0
   have hp:(q:Int)<256:=by omega
   have he:=Qa (Yh (v:=a.toNat) (by omega));have W3:=hn.o.keep ((hg.trans ((Only.refl (λ_=>False) w3).alloc (.cells #[.int .u8 q] 5)) (λ_ _ f=>f))) (λf=>f) (λ_ _ f=>f)
   have hup:Hid (ups a q (xs.take k)=up xs):=by
    simp only[Hid];rw[HM.o,List.take_length,up,<-HA.o,<-HQ.o]
   rw[hup.o] at W3
   have h3:(up xs).length<=65536*64:=by rw[Ro,<-HQ.o,<-HM.o];exact Nat.mul_le_mul hl hq
   have BY:=Qa (Zq W3 (by omega));have O3:=Qa hg;have W3':=Qa h0;have hj:=Qa h3;clear hg h0 W3 h3;go_wp2_with fail;refine BY.o.mono ?_;rintro e w4 ⟨v4,rfl,h1,hb⟩;have h0:=hb.own (((Only.refl (λ_=>False) w3).alloc (.cells #[.int .u8 q] 5)).own W3'.o (λ_ _ f=>f)) (λ_ _ f=>f);clear BY;have b1:Bs .u8 w4 (.slice (some ⟨w3.heap.size,0,none⟩) 1 1) [(q:Int)]:=(Bs.lit .u8 w3 5 [(q:Int)]).keep hb (λ_ _ f=>f);have h6:Below w4.heap.size w4 (w4.alloc (.cells #[v3,.slice (some ⟨w3.heap.size,0,none⟩) 1 1,v4] 23)):=(Below.refl _ _).alloc (Nat.le_refl _) _
   have CC:=Qa (Vf w4.heap.size 3 (λi=>if i=0 then v3 else if i=1 then .slice (some ⟨w3.heap.size,0,none⟩) 1 1 else v4) (λi=>if i=0 then gs a.toNat else if i=1 then [(q:Int)] else QM (up xs)) (w4.alloc (.cells #[v3,.slice (some ⟨w3.heap.size,0,none⟩) 1 1,v4] 23)) (by omega) (by omega)
    (by
     intro i hi
     have:i=0∨i=1∨i=2:=by omega
     rcases this with rfl | rfl | rfl <;> go_cell)
    (by
     intro i hi
     have:i=0∨i=1∨i=2:=by omega
     rcases this with rfl | rfl | rfl
     ·exact (Bs.of_own h0).later h6
     ·exact b1.later h6
     ·exact (Bs.of_own h1).later h6)
    (by
     intro i hi
     have:i=0∨i=1∨i=2:=by omega
     rcases this with rfl | rfl | rfl
     ·exact NoCap.of_own h0
     ·exact NoCap.some _ _ _
     ·exact NoCap.of_own h1)
    (by rw[Xv];simp;omega)
    (by
     rw[Xv,Qb,Qb,Wz,nb]
     have:=hj.o;have:=he.o;simp;omega))
   rw[Xv] at CC;have O4:=Qa hb;obtain⟨f3,cp3,hv3⟩:=(Bs.of_own h0).len;obtain⟨f4,cp4,hv4⟩:=(Bs.of_own h1).len;subst hv3 hv4;clear h0 h1 hb b1 h6;go_wp2_with fail;refine CC.o.mono ?_;rintro e w5 ⟨v5,rfl,h2,k0⟩
   have hv:gs a.toNat++[(q:Int)]++QM (up xs)=PK xs:=by unfold PK;rw[<-HA.o,<-HQ.o];simp
   rw[hv] at h2;have s4:=O4.o.size;have s3:=O3.o.size;have sr:=h5.o.size;simp only[World.size_alloc] at h2 s4;have h4:=Qa (Qv h2 (show w.heap.size<=w4.heap.size+1 by omega));have bl:Hid (Below w.heap.size w w5):=((((HO.o.low (Nat.le_refl _)).trans (h5.o.mono HSZ)).trans (O3.o.low (by omega))).trans ((((Below.refl _ w3).alloc (by omega) _)).trans (O4.o.low (by simp;omega)))).trans (((Below.refl _ w4).alloc (by omega) _).trans (k0.low (by simp;omega)));clear h2 k0 CC hv;obtain⟨f5,cp5,hv5⟩:=(Bs.of_own h4.o).len;subst hv5;go_wp2;go_ret2;exact⟨_,rfl,h4.o,UF bl.o⟩
theorem dclo (c:Nat) (x a:Int) (w:World) (hc:w.cell? ⟨c,0,none⟩=some (.int .i64 a)) (hf:w.frozen? ⟨c,0,none⟩=false) :
 Calls prog 169 #[.int .i64 x,.pointer (some ⟨c,0,none⟩)] w λe w'=>e=.returned (.int .i64 (wrap64 (x - a)))∧w'=w.setCell ⟨c,0,none⟩ (.int .i64 x):=by
 go_enter func169,ntmps169;go_wp2;go_ret;exact⟨rfl,rfl⟩
theorem C9 {f:Int->LI->LI} {st:Int->Int->Int × Int} (hf:∀a x t,f a (x :: t)=(st a x).1 :: f (st a x).2 t) (xs:LI) (j:Nat) (a:Int) (hj:j<xs.length) :
 (xs.set j (st a (xs.getD j 0)).1).take (j+1)++f (st a (xs.getD j 0)).2 ((xs.set j (st a (xs.getD j 0)).1).drop (j+1))=xs.take j++f a (xs.drop j):=by
 have e1:xs.drop j=xs.getD j 0 :: xs.drop (j+1):=by
  rw[Qc,Qe hj];exact List.drop_eq_getElem_cons hj
 rw[e1,hf,List.take_add_one,List.take_set_of_le (Nat.le_refl _),List.drop_set_of_lt (Nat.lt_succ_self _),List.getElem?_set_self hj];simp
theorem rep_a {F:Nat} {f:Int->LI->LI} {so:Int->Int->Int × Int} (hd:∀a,f a []=[]) (hh:∀a x t,f a (x :: t)=(so a x).1 :: f (so a x).2 t) (CL:∀(c:Nat) (x a:Int) (w:World),w.cell? ⟨c,0,none⟩=some (.int .i64 a)->w.frozen? ⟨c,0,none⟩=false->Calls prog F #[.int .i64 x,.pointer (some ⟨c,0,none⟩)] w λe w'=>e=.returned (.int .i64 (so a x).1)∧w'=w.setCell ⟨c,0,none⟩ (.int .i64 (so a x).2)) (hF:F=169∨F=280) (lo c st n:Nat) (a0:Int) (v:Value) (xs:LI) (w:World) (hn:xs.length=n) (h0:w.ownsRow lo 3 1 v n (xs.map (Value.int .i64)))
 (hc:w.cell? ⟨c,0,none⟩=some (.int .i64 a0)) (hf:w.frozen? ⟨c,0,none⟩=false) (hne:∀k,v.ownBlock=some k->k≠c) (hl:n<=1000000) (hs:st<=1000000) :
 Calls prog 127 #[v,.int .i64 st,.func (.func F) #[] #[.pointer (some ⟨c,0,none⟩)]] w λe w'=>e=.returned (.tuple #[]) ∧
  w'.ownsRow lo 3 1 v n ((xs.take st++f a0 (xs.drop st)).map (Value.int .i64))∧Only (λk=>v.ownBlock=some k∨k=c) w w':=by
 have h8:v=.slice none 0 0∧n=0∨∃g cap,v=.slice (some ⟨g,0,none⟩) n cap:=by
  rcases h0.2 with h | ⟨g,cap,cur,h,_⟩
  ·exact .inl h
  ·exact .inr ⟨g,cap,h⟩
 have CLH:=Qa CL;have hd:=Qa hd;have hh:=Qa hh;clear CL;obtain⟨he,h2⟩:=EX (xs.take st++f a0 (xs.drop st));rw[<-h2]
 rcases hF with rfl | rfl
 all_goals
  rcases h8 with ⟨rfl,rfl⟩ | ⟨g,cap,rfl⟩
  ·have hx:xs=[]:=List.eq_nil_of_length_eq_zero hn
   subst hx
   have h9:he=[]:=by rw[h2];simp[hd.o]
   subst h9;have H:=Qa h0;clear h0 h2 hc hf hne hn;go_enter func127,ntmps127;go_wp2
   go_loop [6] (λi=>i=.int .i64 st) (λ_=>0)
   case atStart=>rfl
   case round =>
    subst hrel;go_wp2
    go_end0
    exact⟨rfl,H.o,Only.refl _ _⟩
  ·have ho:g≠c:=hne g rfl
   have h3:=Qa (And.intro h0 (And.intro hc hf));have HF:=Qa h2;have HN:=Qa hn;clear h0 hc hf h2 hne hn;go_enter func127,ntmps127;go_wp2
   go_loopw [6] (λi wr=>∃(j:Nat) (ys:LI) (a:Int),j<=1000000∧i=.int .i64 j∧ys.length=n∧wr.ownsRow lo 3 1 (.slice (some ⟨g,0,none⟩) n cap) n (ys.map (Value.int .i64)) ∧
    wr.cell? ⟨c,0,none⟩=some (.int .i64 a)∧wr.frozen? ⟨c,0,none⟩=false∧he=ys.take j++f a (ys.drop j)∧Only (λk=>k=g∨k=c) w wr) (λi _=>n - (intOf i).toNat)
   case atStart=>exact⟨st,xs,a0,hs,rfl,HN.o,h3.o.1,h3.o.2.1,h3.o.2.2,HF.o,Only.refl _ _⟩
   case round =>
    obtain⟨j,ys,a,hj,rfl,ha,h0,hc,hf,h2,hb⟩:=hrel;clear h3 HF HN
    by_cases hlt:j<n
    ·have h4:wr.cell? ⟨g,j,none⟩=some (.int .i64 (ys.getD j 0)):=by
      rw[h0.cellAt j (by omega),List.getElem?_map,Qe (by omega),Qc,Qe (by omega)]
      rfl
     have h6:=C9 hh.o ys j a (by omega);obtain⟨y,hy⟩:=EX (ys.getD j 0);rw[<-hy] at h4 h6;have A:=Qa (CLH.o c y a wr hc hf);generalize (so a y).1=u at *;generalize (so a y).2=z at *
     have hg:(wr.setCell ⟨c,0,none⟩ (.int .i64 z)).cell? ⟨g,j,none⟩=some (.int .i64 y):=by
      rw[World.cell?_setCell_other (h:=by intro h;exact ho (by cases h;rfl))];exact h4
     have hfr2:(wr.setCell ⟨c,0,none⟩ (.int .i64 z)).frozen? ⟨g,j,none⟩=false:=by
      rw[World.frozen?_setCell];exact h0.frozenAt _
     have h7:Only (λk=>k=g∨k=c) w (wr.setCell ⟨c,0,none⟩ (.int .i64 z)):=hb.setCell (λ_=>.inr rfl) _
     have h5:(wr.setCell ⟨c,0,none⟩ (.int .i64 z)).ownsRow lo 3 1 (.slice (some ⟨g,0,none⟩) n cap) n (ys.map (Value.int .i64)) :=
      ((Only.refl (λk=>k=c) wr).setCell (p:=⟨c,0,none⟩) (λ_=>rfl) _).own h0 (λk hk=>by simp[Value.ownBlock] at hk;omega)
     have hm:(wr.setCell ⟨c,0,none⟩ (.int .i64 z)).cell? ⟨c,0,none⟩=some (.int .i64 z):=World.cell?_setCell_same _ _ _ hc
     have hq:(wr.setCell ⟨c,0,none⟩ (.int .i64 z)).frozen? ⟨c,0,none⟩=false:=by rw[World.frozen?_setCell];exact hf
     have H:=Qa (And.intro h7 (And.intro h5 (And.intro hm (And.intro hq (And.intro h2 h6)))))
     have i0:(0:Int)<=(j:Int):=by omega
     have i1:(j:Int)<(n:Int):=by omega
     clear h0 hc hf h2 hb h7 h5 hm hq h6;have HY:=Qa hy;have hp:=Qa ha;clear hy ha;go_wp2_with fail;refine A.o.mono ?_;rintro e w1 ⟨rfl,rfl⟩;clear A;go_wp2
     go_roundw
     case rel =>
      refine⟨j+1,ys.set j u,z,by omega,by go_num,by rw[List.length_set];exact hp.o,?_,?_,?_,?_,?_⟩
      ·have h1:=(H.o.2.1.stored j (.int .i64 u)).1
       rw[<-List.map_set] at h1;exact h1
      ·rw[World.cell?_setCell_other (h:=by intro h;exact ho (by cases h;rfl))];exact H.o.2.2.1
      ·rw[World.frozen?_setCell];exact H.o.2.2.2.1
      ·rw[H.o.2.2.2.2.1];exact H.o.2.2.2.2.2.symm
      ·exact H.o.1.setCell (λ_=>.inl rfl) _
     case measure=>simp[intOf];omega
    ·have e1:he=ys:=by
      rw[h2,List.drop_of_length_le (by omega),List.take_of_length_le (by omega)];simp[hd.o]
     subst e1;have H:=Qa (And.intro h0 hb);clear h0 hb hc hf h2;have hp:=Qa ha;clear ha;go_wp2
     go_end0
     exact⟨rfl,H.o.1,H.o.2.mono (λi _ h=>h.imp (λe=>by rw[e];rfl) id)⟩
theorem Tryz.infoCI:(prog.info? 3).map (λi=>(i.zero,i.size,i.bytes))=some (some (.int .i64 0),1,8):=by kernel_rfl
theorem ub (c:Nat) (w:World):Calls prog 126 #[.slice none 0 c] w λe w'=>e=.returned (.slice none 0 0)∧w=w':=by
 have hnil:∀W,(binOp .eql 75 (.slice none 0 c) (.slice none 0 0)).run prog W=.ok (.bool true) W:=λW=>by
  rw[Lib.run_eql_slice_nil W 75 3 none 0 c 0 0 underlying75];rfl
 go_enter func126,ntmps126;go_wp2;go_ret;exact⟨rfl,rfl⟩
theorem IC (ad:Addr) (m c:Nat) (news:List Value) (w:World) (hl:news.length=m) (hnews:∀j u,news[j]? = some u->w.cell? (ad.add j)=some u) (h1:∀u∈news,u.oneCell'=true) (hm:m<=1000000) :
 Calls prog 126 #[.slice (some ad) m c] w λe w'=>∃v',e=.returned v'∧w'.ownsRow w.heap.size 3 1 v' m news∧N0 w w'∧v'≠.slice none 0 0:=by
 obtain⟨i0,hi,hz0,hz1,hz2⟩:=info_parts Tryz.infoCI
 have hnil:∀W,(binOp .eql 75 (.slice (some ad) m c) (.slice none 0 0)).run prog W=.ok (.bool false) W:=λW=>by
  rw[Lib.run_eql_slice_nil W 75 3 (some ad) m c 0 0 underlying75];rfl
 have ho:=World.ownsRow_made (base:=w.heap.size) (e:=3) (size:=1) w #[] 0 (Nat.le_refl _) (by unfold maxLen;omega) rfl;have HN:Hid (∀j u,news[j]? = some u->w.cell? (ad.add j)=some u):=hnews;clear hnews;go_enter func126,ntmps126;go_wp2_with (at_builtin;refine wpList_append_own_at _ rfl _ _ _ rfl w.heap.size 3 i0 (.int .i64 0) 1 8 underlying75 hi hz0 hz1 hz2 rfl (by omega) (.slice (some ⟨w.heap.size,0,none⟩) 0 0) 0 [] rfl ho ad m c news rfl ?c0 ?c1 h1 ?c3 ?c4 ?c5 ?_)
 case c0=>omega
 case c1 =>
  intro j u hu;have h0:=HN.o j u hu;rw[World.cell?_of_block (Below.heap_alloc w _ _ (World.block_lt_of_cell? w _ h0))];exact h0
 case c3=>unfold maxLen;omega
 case c4=>omega
 case c5=>simp
 intro v' w1 hown1 hgrow hnn hat
 have FIN:Hid (w1.ownsRow w.heap.size 3 1 v' m news∧N0 w w1∧v'≠.slice none 0 0):=by
  refine⟨by simpa using hown1,((Only.refl _ _).alloc _).grown hgrow (λk hk e=>?_),hnn⟩;simp[Value.ownBlock] at e;omega
 clear hown1 hgrow hnn hat ho;go_wp2;go_ret;exact⟨v',rfl,FIN.o⟩
theorem EI (v:Value) (xs:LI) (w:World) (h:Bs .i64 w v xs) (hm:xs.length<=1000000) :
 Calls prog 126 #[v] w λe w'=>∃v',e=.returned v'∧w'.ownsRow w.heap.size 3 1 v' xs.length (xs.map (Value.int .i64))∧N0 w w':=by
 obtain⟨ao,cap,rfl,hc,hr⟩:=h
 cases ao with
 | none =>
  have hx:xs=[]:=by
   cases xs with
   | nil=>rfl
   | cons a t=>obtain⟨b,off,h,_⟩:=hr (by simp);cases h
  subst hx;refine (ub cap w).mono ?_;rintro e w' ⟨rfl,rfl⟩;exact⟨_,rfl,World.ownsRow_nil _ _ _ _,Only.refl _ _⟩
 | some ad =>
  refine (IC ad xs.length cap (xs.map (Value.int .i64)) w (by simp) ?_ (WV _ _) hm).mono ?_
  ·intro j u hu
   have hj:j<xs.length:=by
    have:=(List.getElem?_eq_some_iff.1 hu).1
    simpa using this
   obtain⟨b,off,hb,h0⟩:=hr (by intro h;subst h;simp at hj)
   cases hb
   have h3:(⟨b,off,none⟩:Addr).add j=⟨b,off+j,none⟩:=by unfold Addr.add;split <;> simp_all
   rw[h3,h0 j hj];rw[<-hu];simp[List.getElem?_eq_getElem hj]
  ·rintro e w' ⟨v',rfl,h1,h2,_⟩
   exact⟨v',rfl,h1,h2⟩
theorem Ph {w:World} {lo:Nat} {E:TypeId} {size:Nat} {v:Value} {n:Nat} {xs:List Value} (h:w.ownsRow lo E size v n xs) {b:Nat} (hb:v.ownBlock=some b):lo<=b∧b<w.heap.size:=by
 rcases h.2 with ⟨rfl,_⟩ | ⟨g,cap,cur,rfl,hg,hh,_⟩
 ·simp[Value.ownBlock] at hb
 ·simp[Value.ownBlock] at hb
  subst hb;exact⟨hg,(Array.getElem?_eq_some_iff.1 hh).1⟩
theorem ux (k:Nat) (w:World) (hk:k<=3):Calls prog 125 #[.int .i64 k] w λe w'=>e=.returned (.bool true)∧w=w':=by
 have h1:decide ((0:Int)<=k)=true:=Qf (by omega);have h2:decide ((k:Int)<=3)=true:=Qf (by omega);go_enter func125,ntmps125;go_wp2;go_ret;exact⟨rfl,rfl⟩
theorem BP (w:World):(w.alloc (.cells #[.int .i64 0] 3)).cell? ⟨w.heap.size,0,none⟩=some (.int .i64 0) ∧
 (w.alloc (.cells #[.int .i64 0] 3)).frozen? ⟨w.heap.size,0,none⟩=false∧N0 w (w.alloc (.cells #[.int .i64 0] 3)) :=
 ⟨by rw[World.cell?_alloc_at _ _ _ _ rfl];rfl,World.frozen?_alloc_at _ _ _ _ rfl,(Only.refl _ _).alloc _⟩
theorem NY (w:World):Calls prog 128 #[] w λe w'=>e=.returned (.func (.func 169) #[] #[.pointer (some ⟨w.heap.size,0,none⟩)]) ∧
 w'.cell? ⟨w.heap.size,0,none⟩=some (.int .i64 0)∧w'.frozen? ⟨w.heap.size,0,none⟩=false∧N0 w w':=by
 have hmf:∀(fn:Fn) (first cap:Array Value) (w:World),(Instr.makeFunc fn first cap).run prog w=.ok (.func fn first cap) w:=λ_ _ _ _=>rfl
 have H:=Qa (BP w);go_enter func128,ntmps128;go_wp2;go_ret;exact⟨rfl,H.o⟩
theorem Id (v:Value) (xs:LI) (k:Nat) (w:World) (hb:Bs .i64 w v xs) (hl:xs.length<=1000000) (hk:k<=3) :
 Calls prog 86 #[v,.int .i64 k] w λe w'=>∃v',e=.returned (.tuple #[v',.int .i64 0])∧w'.ownsRow w.heap.size 3 1 v' xs.length ((D k xs).map (Value.int .i64))∧N0 w w':=by
 have A0:=Qa (ux k w hk);have A1:=Qa (EI v xs w hb hl);obtain⟨n,hn⟩:=EX xs.length;rw[<-hn] at hl A1 ⊢;obtain⟨N,hN⟩:=EX w.heap.size;rw[<-hN] at A1 ⊢;have HN:=Qa (And.intro hn hN);clear hn hN hb;go_enter func86,ntmps86;go_wp2_with fail;refine A0.o.mono ?_;rintro e w1 ⟨rfl,rfl⟩;clear A0;go_wp2_with fail;refine A1.o.mono ?_;rintro e w1 ⟨v',rfl,h3,h6⟩;have H1:=Qa (And.intro h3 h6);clear A1 h3 h6;go_wp2
 go_loopw [14] (λi wr=>∃j:Nat,j<=k∧i=.int .i64 j∧wr.ownsRow N 3 1 v' n ((D j xs).map (Value.int .i64))∧N0 w wr) (λi _=>k - (intOf i).toNat)
 case atStart=>exact⟨0,Nat.zero_le _,rfl,H1.o⟩
 case round =>
  obtain⟨j,hj,rfl,h1,h4⟩:=hrel;clear H1
  by_cases hlt:j<k
  ·have H:=Qa (And.intro h1 h4)
   clear h1 h4;have A2:=Qa (NY wr);go_wp2_with fail;refine A2.o.mono ?_;rintro e w2 ⟨rfl,hc,hf,h5⟩;have h0:=h5.own H.o.1 (λ_ _ f=>f)
   have hln:(D j xs).length=n:=by rw[VG];exact HN.o.1.symm
   have A3:=Qa (rep_a (f:=dif) (so:=λa x=>(wrap64 (x - a),x)) (λ_=>rfl) (λ_ _ _=>rfl) dclo (.inl rfl) N wr.heap.size j n 0 v' (D j xs) w2 hln h0 hc hf (λb hb=>Nat.ne_of_lt (Ph H.o.1 hb).2) hl (by omega));have H2:=Qa (And.intro h5 h0);clear A2 hc hf h5 h0;go_wp2_with fail;refine A3.o.mono ?_;rintro e w3 ⟨rfl,h2,h7⟩;have H3:=Qa (And.intro h2 h7);clear A3 h2 h7;go_wp2
   go_roundw
   case rel =>
    refine⟨j+1,by omega,by go_num,H3.o.1,?_⟩;have o2:=H.o.2.trans H2.o.1 (λ_ _ f=>f);refine o2.trans H3.o.2 (λi hi h=>?_)
    rcases h with h | h
    ·have:=(Ph H.o.1 h).1
     have:=HN.o.2;omega
    ·have:=H.o.2.size
     omega
   case measure=>simp[intOf];omega
  ·have e1:j=k:=by omega
   subst e1;have H:=Qa (And.intro h1 h4);clear h1 h4;go_wp2;go_ret2;exact⟨_,rfl,H.o⟩
theorem VZ (t:Int) (w:World) (h0:0<=t) (h1:t<=4):Calls prog 84 #[.int .i64 t] w λe w'=>e=.returned (.bool true)∧w=w':=by
 have d0:decide (0<=t)=true:=Qf h0;have d1:decide (t<5)=true:=Qf (by omega);clear h0 h1;go_enter func84,ntmps84;go_wp2;go_ret;exact⟨rfl,rfl⟩
theorem IW (t:Int) (w:World) (h:t<0∨4<t):Calls prog 84 #[.int .i64 t] w λe w'=>e=.returned (.bool false)∧w=w':=by
 by_cases h0:t<0
 case' pos=>have d0:decide (0<=t)=false:=Qj (by omega)
 case' neg =>
  have d0:decide (0<=t)=true:=Qf (by omega);have d1:decide (t<5)=false:=Qj (by omega)
 all_goals
  clear h0 h;go_enter func84,ntmps84;go_wp2;go_ret;exact⟨rfl,rfl⟩
theorem SY (t:Nat) (w:World) (h0:1<=t) (h1:t<=4):Calls prog 87 #[.int .i64 t] w λe w'=>e=.returned (.int .i64 (tms t))∧w=w':=by
 rcases (by omega:t=1∨t=2∨t=3∨t=4) with rfl | rfl | rfl | rfl
 case' inl=>rw[show ((1:Nat):Int)=1 from rfl]
 case' inr.inl=>rw[show ((2:Nat):Int)=2 from rfl]
 case' inr.inr.inl=>rw[show ((3:Nat):Int)=3 from rfl]
 case' inr.inr.inr=>rw[show ((4:Nat):Int)=4 from rfl]
 all_goals
  go_enter func87,ntmps87;go_wp2;go_ret;exact⟨rfl,rfl⟩
theorem qY (l:LI) (k:Nat) (h:k<l.length):fx (l.take (k+1))=fx (l.take k)++fixL (u64o (l.getD k 0)) 8:=by
 rw[UR l k h,yQ]
theorem L4 (v:Value) (l:LI) (w:World) (h:Bs .i64 w v l) (hl:l.length<=65536) :
 Calls prog 85 #[v] w λe w'=>∃u,e=.returned u∧w'.ownsRow w.heap.size 5 1 u (fx l).length ((fx l).map (Value.int .u8))∧N0 w w':=by
 obtain⟨i0,hi,hz0,hz1,hz2⟩:=info_parts Tryz.infoU8;have HB:=Qa h;obtain⟨ao,cap,rfl⟩:=h.len;obtain⟨n,hn⟩:=EX l.length;rw[<-hn] at hl HB;rw[<-hn];have HN:=Qa hn;clear h hn;go_enter func85,ntmps85;go_wp2
 go_loopw [3,8] (λs i wr=>∃k:Nat,k<=n∧i=.int .i64 k∧wr.ownsRow w.heap.size 5 1 s (fx (l.take k)).length ((fx (l.take k)).map (Value.int .u8))∧N0 w wr) (λ_ i _=>n - (intOf i).toNat)
 case atStart=>exact⟨0,Nat.zero_le _,rfl,World.ownsRow_nil _ _ _ _,Only.refl _ _⟩
 case round =>
  obtain⟨k,hk,rfl,h2,h4⟩:=hrel;have h1:=Qa h2;have h3:=Qa h4
  by_cases hlt:k<n
  ·have dlt:decide ((k:Int)<(n:Int))=true:=by simp;omega
   obtain⟨b,off,cap',e1,hc0⟩:=(HB.o.past h4).at k (by rw[<-HN.o];exact hlt)
   have ea:ao=some ⟨b,off,none⟩:=by simp at e1;exact e1.1
   subst ea;clear e1;have h9:=Qa (qY l k (by rw[<-HN.o];exact hlt))
   have ha:Hid ((fx (l.take k)).length<=8*n):=by
    simp only[Hid];rw[Jj,Qd];omega
   obtain⟨f1,h7⟩:=EX (fx (l.take (k+1)));rw[<-h7] at h9;have HF1:=Qa h7;clear h7;generalize fx (l.take k)=f0 at *;generalize l.getD k 0=x at *;clear h2 h4 HB;go_wp2_with fail;refine (Ue _ 8 wr (by omega)).mono ?_;rintro e w4 ⟨u,rfl,h0,o4⟩;rw[IntKind.wrap_u64] at h0;have ow:=o4.own h1.o (λ_ _ f=>f);have h5:=Bs.of_own h0;have hb:=Qa (NoCap.of_own h0);have h8:=Qa h5;have hs4:w.heap.size<=w4.heap.size:=Nat.le_trans h3.o.size o4.size;have O4:=Qa (h3.o.trans o4 (λ_ _ f=>f));obtain⟨a4,c4,e4⟩:=h5.len;subst e4;clear o4 h0 h3 h1 h5;rw[Qx] at h8 hb;go_wp2_with (at_builtin;refine Yb _ rfl _ _ _ rfl w.heap.size 5 i0 (.int .u8 0) 1 underlying23 hi hz0 hz1 hz2 rfl _ _ _ rfl ow .u8 _ (fixL (x % 18446744073709551616) 8) rfl h8.o hb.o ?c3 ?c4 hs4 ?_)
   case c3=>have:=ha.o;rw[Qx];unfold maxLen;omega
   case c4=>have:=ha.o;rw[Qx];omega
   intro v6 w6 own6 hgrow6 _ _
   have h6:Hid (w6.ownsRow w.heap.size 5 1 v6 f1.length (f1.map (Value.int .u8))):=by
    simp only[Hid];rw[h9.o,Qb,List.map_append];exact own6
   have O6:=Qa (O4.o.grown hgrow6 (λk hk e=>absurd (ow.lt k e).1 (by omega)));clear ow own6 hgrow6;go_wp2
   go_roundw
   case rel=>exact⟨k+1,by omega,by go_num,by rw[<-HF1.o];exact h6.o,O6.o⟩
   case measure=>simp[intOf];omega
  ·obtain rfl:k=n:=by omega
   have dlt:decide ((k:Int)<(k:Int))=false:=by simp
   rw[HN.o,List.take_length] at h1;clear h2 h4;go_wp2;go_ret;exact⟨_,rfl,h1.o,h3.o⟩
def zpart (l:LI) (n k:Nat):LI:=zsn (l.take k)++List.replicate (n - k) 0
theorem Fk (l:LI) (k:Nat) (hk:k<=l.length):(zpart l l.length k).length=l.length:=by
 simp only[zpart,Qb,Zg,Qd,List.length_replicate];omega
theorem Bu (l:LI) (n:Nat):(zpart l n 0).map (Value.int .u64)=(madeCells #[Value.int .u64 0] (n*1)).toList:=by
 apply List.ext_getElem?
 intro i
 by_cases h:i<n
 ·simp[zpart,zsn,madeCells,h,Nat.mod_one]
 ·simp[zpart,zsn,madeCells,h]
theorem IG (l:LI):zpart l l.length l.length=zsn l:=by simp[zpart]
theorem Nb (l:LI) (k:Nat) (h:k<l.length):(zpart l l.length k).set k (zig (l.getD k 0))=zpart l l.length (k+1):=by
 unfold zpart
 have h0:(zsn (l.take k)).length=k:=by rw[Zg,Qd];omega
 rw[show l.length - k=(l.length - (k+1))+1 by omega,List.replicate_succ,List.set_append_right _ _ (by omega),h0,Nat.sub_self,Qk,UR l k h];simp[zsn]
theorem qQ (v:Value) (l:LI) (w:World) (h:Bs .i64 w v l) (hg:I64s l) (hl:l.length<=65536) :
 Calls prog 89 #[v] w λe w'=>∃u,e=.returned u∧w'.ownsRow w.heap.size 29 1 u (zsn l).length ((zsn l).map (Value.int .u64))∧N0 w w':=by
 obtain⟨i0,hi,hz0,hz1,hz2⟩:=info_parts Tryz.infoU64;have HB:=Qa h;have HG:=Qa hg;obtain⟨ao,cap,rfl⟩:=h.len;obtain⟨n,hn⟩:=EX l.length;rw[<-hn] at hl HB;rw[<-hn];have HN:=Qa hn;obtain⟨wm,h9,h3,hd⟩:=run_make_full (P:=prog) w w.heap.size 76 29 i0 (.int .u64 0) 1 underlying76 hi hz0 hz1 .i64 .i64 n (by rw[hz2];omega) (by unfold maxLen;omega) (Nat.le_refl _)
 have h0:Hid (wm.ownsRow w.heap.size 29 1 (.slice (some ⟨w.heap.size,0,none⟩) n n) n ((zpart l n 0).map (Value.int .u64))∧N0 w wm):=by
  rw[show (Value.int .u64 0).cells=#[Value.int .u64 0] from rfl] at h3;rw[Bu];exact⟨h3,(Only.refl _ _).grown hd (λ_ _ e=>by cases e)⟩
 clear h3 hd;obtain⟨N,hN⟩:=EX w.heap.size;rw[<-hN] at h9 h0;rw[<-hN];have HNN:=Qa hN;clear h hn hN hg;go_enter func89,ntmps89;go_wp2
 go_loopw [11] (λi wr=>∃k:Nat,k<=n∧i=.int .i64 k∧wr.ownsRow N 29 1 (.slice (some ⟨N,0,none⟩) n n) n ((zpart l n k).map (Value.int .u64))∧N0 w wr) (λi _=>n - (intOf i).toNat)
 case atStart=>exact⟨0,Nat.zero_le _,rfl,h0.o.1,h0.o.2⟩
 case round =>
  obtain⟨k,hk,rfl,h2,h8⟩:=hrel;clear h0 h9;have h5:=Qa h2;have ha:=Qa h8
  by_cases hlt:k<n
  ·have dlt:decide ((k:Int)<(n:Int))=true:=by simp;omega
   have h7:k<l.length:=by rw[<-HN.o];exact hlt
   obtain⟨b,off,cap',e1,hc0⟩:=(HB.o.past h8).at k h7
   have ea:ao=some ⟨b,off,none⟩:=by simp at e1;exact e1.1
   subst ea;clear e1;have hx:=HG.o (l.getD k 0) (Zj l k h7)
   have h4:∃y,wr.cell? ⟨N,k,none⟩=some (.int .u64 y):=by
    have hz:=Fk l k (by omega);rw[<-HN.o] at hz;refine⟨(zpart l n k).getD k 0,?_⟩;rw[h2.cellAt k (by omega),List.getElem?_map,Qe (by rw[hz];omega),Qc,Qe (by rw[hz];omega)]
    rfl
   obtain⟨y,hy⟩:=h4;have hfr:wr.frozen? ⟨N,k,none⟩=false:=h2.frozenAt _
   have h6:Hid (((zpart l n k).map (Value.int .u64)).set k (.int .u64 (zig (l.getD k 0)))=(zpart l n (k+1)).map (Value.int .u64)):=by
    simp only[Hid];rw[<-List.map_set,HN.o,Nb l k h7]
   generalize l.getD k 0=x at *;clear h2 h8 HB HG h7;go_wp2_with fail;refine (Ht x wr hx.1 hx.2).mono ?_;rintro e w1 ⟨rfl,rfl⟩;go_wp2
   go_roundw
   case rel =>
    refine⟨k+1,by omega,by go_num,?_,?_⟩
    ·have h1:=(h5.o.stored k (.int .u64 (zig x))).1
     rw[h6.o] at h1;exact h1
    ·refine ha.o.setCell (λhb=>?_) _
     have:=HNN.o;simp only at hb;omega
   case measure=>simp[intOf];omega
  ·obtain rfl:k=n:=by omega
   have dlt:decide ((k:Int)<(k:Int))=false:=by simp
   have F:Hid (wr.ownsRow N 29 1 (.slice (some ⟨N,0,none⟩) k k) (zsn l).length ((zsn l).map (Value.int .u64))):=by
    have h1:=h5.o;have he:=HN.o;simp only[Hid];rw[Zg,<-he];rw[show zpart l k k=zsn l by rw[he];exact IG l] at h1;exact h1
   clear h2 h8;go_wp2;go_ret;exact⟨_,rfl,F.o,ha.o⟩
theorem yg (v:Value) (l:LI) (w:World) (h:Bs .u64 w v l) (hu:U64 l) (hl:l.length<=65536) :
 Calls prog 132 #[v] w λe w'=>∃u,e=.returned u∧w'.ownsRow w.heap.size 5 1 u (allG l).length ((allG l).map (Value.int .u8))∧N0 w w':=by
 obtain⟨i0,hi,hz0,hz1,hz2⟩:=info_parts Tryz.infoU8;have HB:=Qa h;have HU:=Qa hu;obtain⟨ao,cap,rfl⟩:=h.len;obtain⟨n,hn⟩:=EX l.length;rw[<-hn] at hl HB;rw[<-hn];have HN:=Qa hn;clear h hn hu;go_enter func132,ntmps132;go_wp2
 go_loopw [3,8] (λs i wr=>∃k:Nat,k<=n∧i=.int .i64 k∧wr.ownsRow w.heap.size 5 1 s (allG (l.take k)).length ((allG (l.take k)).map (Value.int .u8))∧N0 w wr) (λ_ i _=>n - (intOf i).toNat)
 case atStart=>exact⟨0,Nat.zero_le _,rfl,World.ownsRow_nil _ _ _ _,Only.refl _ _⟩
 case round =>
  obtain⟨k,hk,rfl,h2,h6⟩:=hrel;have h1:=Qa h2;have h5:=Qa h6
  by_cases hlt:k<n
  ·have dlt:decide ((k:Int)<(n:Int))=true:=by simp;omega
   have h4:k<l.length:=by rw[<-HN.o];exact hlt
   obtain⟨b,off,cap',e1,hc0⟩:=(HB.o.past h6).at k h4
   have ea:ao=some ⟨b,off,none⟩:=by simp at e1;exact e1.1
   subst ea;clear e1;have hx:=HU.o (l.getD k 0) (Zj l k h4);have ha:=Qa (St l k h4)
   have hb:Hid ((allG (l.take k)).length<=10*n):=by
    simp only[Hid];rw[HN.o];exact DR l k HU.o
   have h3:=Qa (Yh (v:=(l.getD k 0).toNat) (by omega));obtain⟨f1,h9⟩:=EX (allG (l.take (k+1)));rw[<-h9] at ha;have HF1:=Qa h9;clear h9;generalize allG (l.take k)=f0 at *;generalize l.getD k 0=x at *;clear h2 h6 HB h4;go_wp2_with fail;refine (Ug (.slice none 0 0) [] x wr (Bs.nil _ _) NoCap.nil (by simp) hx.1 hx.2).mono ?_;rintro e w4 ⟨u,rfl,h0,o4⟩;rw[List.nil_append] at h0;have ow:=o4.own h1.o (λ_ _ f=>f);have h7:=Bs.of_own h0;have NC4:=Qa (NoCap.of_own h0);have HB4:=Qa h7;have hs4:w.heap.size<=w4.heap.size:=Nat.le_trans h5.o.size o4.size;have O4:=Qa (h5.o.trans o4 (λ_ _ f=>f));obtain⟨a4,c4,e4⟩:=h7.len;subst e4;clear o4 h0 h5 h1 h7;generalize gs x.toNat=g at *;go_wp2_with (at_builtin;refine Yb _ rfl _ _ _ rfl w.heap.size 5 i0 (.int .u8 0) 1 underlying23 hi hz0 hz1 hz2 rfl _ _ _ rfl ow .u8 _ g rfl HB4.o NC4.o ?c3 ?c4 hs4 ?_)
   case c3=>have:=hb.o;have:=h3.o;unfold maxLen;omega
   case c4=>have:=hb.o;have:=h3.o;omega
   intro v6 w6 own6 hgrow6 _ _
   have h8:Hid (w6.ownsRow w.heap.size 5 1 v6 f1.length (f1.map (Value.int .u8))):=by
    simp only[Hid];rw[ha.o,Qb,List.map_append];exact own6
   have O6:=Qa (O4.o.grown hgrow6 (λk hk e=>absurd (ow.lt k e).1 (by omega)));clear ow own6 hgrow6;go_wp2
   go_roundw
   case rel=>exact⟨k+1,by omega,by go_num,by rw[<-HF1.o];exact h8.o,O6.o⟩
   case measure=>simp[intOf];omega
  ·obtain rfl:k=n:=by omega
   have dlt:decide ((k:Int)<(k:Int))=false:=by simp
   rw[HN.o,List.take_length] at h1;clear h2 h6;go_wp2;go_ret;exact⟨_,rfl,h1.o,h5.o⟩
theorem qs (l:LI) (k:Nat):zsn (l.drop k)=(zsn l).drop k:=by simp[zsn,List.map_drop]
theorem Cf {l:LI} (h:0<l.length):(zsn l).getD 0 0=zig (l.getD 0 0):=by
 cases l with
 | nil=>simp at h
 | cons a t=>rfl
theorem DK {z:LI} (hu:U64 z) (hl:z.length<=65536) (t:Nat):(WOTH z t).1.length<=10000000:=by
 unfold WOTH
 by_cases h2:t=2
 ·rw[if_pos h2]
  have h1:=MP z;have h3:z.length*wd z<=65536*64:=Nat.mul_le_mul hl (wd_le hu);have h4:=Yh (v:=(lo z).toNat) (by have:=lohi hu;omega);simp only;omega
 ·rw[if_neg h2]
  by_cases h3:t=3
  ·rw[if_pos h3]
   have:=Ch (xs:=z) (λx hx=>(hu x hx).1);omega
  ·rw[if_neg h3]
   by_cases h4:t=4
   ·rw[if_pos h4]
    have:=J8 z hu (by omega);simp only;omega
   ·rw[if_neg h4]
    have:=Hf z hu;simp only;omega
theorem Fv (v:Value) (z:LI) (t:Nat) (w:World) (h:Bs .u64 w v z) (hu:U64 z) (hl:z.length<=65536) (h1:1<=t) (h4:t<=4) :
 Calls prog 88 #[v,.int .i64 t] w λe w'=>∃u,e=.returned (.tuple #[u,.int .i64 (WOTH z t).2])∧w'.ownsRow w.heap.size 5 1 u (WOTH z t).1.length ((WOTH z t).1.map (Value.int .u8))∧N0 w w':=by
 rcases (by omega:t=1∨t=2∨t=3∨t=4) with rfl | rfl | rfl | rfl
 case' inl=>have A:=Qa (yg v z w h hu hl);rw[show ((1:Nat):Int)=1 from rfl]
 case' inr.inl=>have A:=Qa (Ba v z w h hu hl);rw[show ((2:Nat):Int)=2 from rfl]
 case' inr.inr.inl=>have A:=Qa (qo v z w h hu);rw[show ((3:Nat):Int)=3 from rfl]
 case' inr.inr.inr=>have A:=Qa (Ms v z w h hu hl);rw[show ((4:Nat):Int)=4 from rfl]
 all_goals
  obtain⟨ao,cap,rfl⟩:=h.len;clear h hu hl;go_enter func88,ntmps88;go_wp2_with fail;refine A.o.mono ?_;rintro e w1 ⟨u,rfl,h0,o1⟩;have F:=Qa (And.intro h0 o1);obtain⟨f1,c1,e1⟩:=(Bs.of_own h0).len;subst e1;clear A h0 o1;go_wp2
  try rw[Exit.noGoto_ret]
  go_ret2;exact⟨_,rfl,F.o.1,F.o.2⟩
theorem Ls (v:Value) (tag:Int) (w:World) (ht:tag<0∨4<tag) :
 Calls prog 54 #[v,.int .i64 tag] w λe w'=>e=.returned (.tuple #[.slice none 0 0,.int .i64 1])∧w=w':=by
 have A:=Qa (IW tag w ht);clear ht;go_enter func54,ntmps54;go_wp2_with fail;refine A.o.mono ?_;rintro e w1 ⟨rfl,rfl⟩;go_wp2
 try rw[Exit.noGoto_ret]
 go_ret2;exact⟨rfl,rfl⟩
theorem PM (v:Value) (l:LI) (t:Nat) (w:World) (h:Bs .i64 w v l) (hl:65536<l.length) (ht:t<=4) :
 Calls prog 54 #[v,.int .i64 t] w λe w'=>e=.returned (.tuple #[.slice none 0 0,.int .i64 4])∧w=w':=by
 have A:=Qa (VZ t w (by omega) (by omega));obtain⟨ao,cap,rfl⟩:=h.len;have d0:decide ((65536:Int)<l.length)=true:=Qf (by omega);clear h hl ht;generalize l.length=n at *;go_enter func54,ntmps54;go_wp2_with fail;refine A.o.mono ?_;rintro e w1 ⟨rfl,rfl⟩;go_wp2
 try rw[Exit.noGoto_ret]
 go_ret2;exact⟨rfl,rfl⟩
theorem OF (v:Value) (t:Nat) (w:World) (h:Bs .i64 w v []) (ht:t<=4) :
 Calls prog 54 #[v,.int .i64 t] w λe w'=>e=.returned (.tuple #[.slice none 0 0,.int .i64 0])∧w=w':=by
 have A:=Qa (VZ t w (by omega) (by omega));obtain⟨ao,cap,e0⟩:=h.len;rw[List.length_nil] at e0;subst e0;clear h ht;go_enter func54,ntmps54;go_wp2_with fail;refine A.o.mono ?_;rintro e w1 ⟨rfl,rfl⟩;go_wp2
 try rw[Exit.noGoto_ret]
 go_ret2;exact⟨rfl,rfl⟩
theorem EU (v:Value) (l:LI) (w:World) (h:Bs .i64 w v l) (hl:l.length<=65536) (hp:0<l.length) :
 Calls prog 54 #[v,.int .i64 0] w λe w'=>∃u,e=.returned (.tuple #[u,.int .i64 0])∧w'.ownsRow w.heap.size 5 1 u (fx l).length ((fx l).map (Value.int .u8))∧N0 w w':=by
 have A:=Qa (VZ 0 w (by omega) (by omega));have B:=Qa (L4 v l w h hl);obtain⟨ao,cap,rfl⟩:=h.len;have d0:decide ((65536:Int)<l.length)=false:=Qj (by omega)
 have d1:((l.length:Int) == 0)=false:=by rw[beq_eq_false_iff_ne];omega
 clear h hl hp;generalize l.length=n at *;go_enter func54,ntmps54;go_wp2_with fail;refine A.o.mono ?_;rintro e w1 ⟨rfl,rfl⟩;go_wp2_with fail;refine B.o.mono ?_;rintro e w1 ⟨u,rfl,h0,o1⟩;have F:=Qa (And.intro h0 o1);obtain⟨f1,c1,e1⟩:=(Bs.of_own h0).len;subst e1;clear A B h0 o1;go_wp2
 try rw[Exit.noGoto_ret]
 go_ret2;exact⟨_,rfl,F.o.1,F.o.2⟩
theorem uw (v:Value) (l:LI) (t:Nat) (w:World) (h:Bs .i64 w v l) (hg:I64s l) (hl:l.length<=65536) (hp:0<l.length) (h1:1<=t) (h4:t<=4) :
 Calls prog 54 #[v,.int .i64 t] w λe w'=>∃u,e=.returned (.tuple #[u,.int .i64 (Qy l t).2])∧w'.ownsRow w.heap.size 5 1 u (Qy l t).1.length ((Qy l t).1.map (Value.int .u8))∧N0 w w':=by
 have A:=Qa (VZ t w (by omega) (by omega));have TM:=Qa (SY t w h1 h4);have DF:=Qa (Id v l (tms t) w h (by omega) (qx t));have h9:=Qa (VG (tms t) l);have hu:=Qa (D_i64 hg (tms t))
 have WO:Hid (∀(u:Value) (w2:World),Bs .u64 w2 u ((zsn (D (tms t) l)).drop 1)->Calls prog 88 #[u,.int .i64 t] w2 λe w'=>∃u',e=.returned (.tuple #[u',.int .i64 (WOTH ((zsn (D (tms t) l)).drop 1) t).2])∧w'.ownsRow w2.heap.size 5 1 u' (WOTH ((zsn (D (tms t) l)).drop 1) t).1.length ((WOTH ((zsn (D (tms t) l)).drop 1) t).1.map (Value.int .u8))∧N0 w2 w') :=
  λu w2 hb=>Fv u _ t w2 hb ((Jo hg _).drop 1) (by rw[Qq,Pg];omega) h1 h4
 have hh:=Qa (DK (z:=(zsn (D (tms t) l)).drop 1) ((Jo hg _).drop 1) (by rw[Qq,Pg];omega) t)
 have h0:Hid (Qy l t=if (WOTH ((zsn (D (tms t) l)).drop 1) t).2≠0 then ([],(WOTH ((zsn (D (tms t) l)).drop 1) t).2) else (gs (zig ((D (tms t) l).getD 0 0)).toNat++(WOTH ((zsn (D (tms t) l)).drop 1) t).1,0)):=by
  simp only[Hid];unfold Qy;rw[if_neg (List.length_pos_iff.1 hp),if_neg (by omega),Cf (by rw[VG];exact hp)]
 obtain⟨ao,cap,rfl⟩:=h.len;have d0:decide ((65536:Int)<l.length)=false:=Qj (by omega)
 have d1:((l.length:Int) == 0)=false:=by rw[beq_eq_false_iff_ne];omega
 have d2:((t:Int) == 0)=false:=by rw[beq_eq_false_iff_ne];omega
 obtain⟨n,hn⟩:=EX l.length;rw[<-hn] at hl hp d0 d1 DF h9;rw[<-hn];clear h hg hn;obtain⟨z1,ho⟩:=EX ((zsn (D (tms t) l)).drop 1);rw[<-ho] at WO hh h0;have HZ1:=Qa ho;clear ho;generalize hWO:WOTH z1 t=W at *;clear hWO;obtain⟨W1,c⟩:=W;simp only at WO hh h0;generalize Qy l t=Wl at *;generalize hDD:D (tms t) l=d at *;clear hDD;generalize tms t=k at *;go_enter func54,ntmps54;go_wp2_with fail;refine A.o.mono ?_;rintro e w1 ⟨rfl,rfl⟩;clear A;go_wp2_with fail;refine TM.o.mono ?_;rintro e w1 ⟨rfl,rfl⟩;clear TM;go_wp2_with fail;refine DF.o.mono ?_;rintro e w1 ⟨v1,rfl,h8,o1⟩;clear DF;have hq:=Qa h8;have hd:Bs .i64 w1 v1 d:=Bs.of_own (by rw[h9.o];exact h8);have hr:=Qa hd;obtain⟨a1,h2,e1⟩:=hd.len;rw[h9.o] at e1;subst e1
 have hc1:n<=h2:=by
  obtain⟨ao',hk,e2,hc,_⟩:=hd;rw[h9.o] at hc;simp at e2;omega
 have HO1:=Qa o1;clear h8 o1 hd
 have j0:(1:Int)<=(n:Int):=by omega
 have j1:(1:Int)<=(h2:Int):=by omega
 by_cases hcc:h2=1
 case' pos =>
  subst hcc
  obtain rfl:n=1:=by omega
  have hj:Bs .i64 w1 (.slice a1 0 0) (d.drop 1):=by have:=hr.o.cut0 (n:=1) (by omega);simpa using this
 case' neg =>
  have hcx:¬((h2:Int) - 1=0):=by omega
  have hj:Bs .i64 w1 (.slice (a1.map (λx=>x.add 1)) (n - 1) (h2 - 1)) (d.drop 1):=by have:=hr.o.cut (n:=1) (by omega);simpa using this
 all_goals
  have ZG:=Qa (qQ _ (d.drop 1) w1 hj (λx hx=>hu.o x (List.mem_of_mem_drop hx)) (by rw[Qq,h9.o];omega));rw[qs,<-HZ1.o] at ZG;clear hj;go_wp2_with fail;refine ZG.o.mono ?_;rintro e w2 ⟨v2,rfl,ha,o2⟩;clear ZG;have W2:=Qa (WO.o v2 w2 (Bs.of_own ha));have O12:=Qa o2;have hm:=Qa (o2.own hq.o (λ_ _ f=>f));obtain⟨f2,c2,e2⟩:=(Bs.of_own ha).len;subst e2;clear ha o2;go_wp2_with fail;refine W2.o.mono ?_;rintro e w3 ⟨v3,rfl,h6,o3⟩;clear W2;have hs:=Qa (O12.o.same o3);have hw:=Qa (HO1.o.same hs.o);have OWN3:=Qa (o3.own hm.o (λ_ _ f=>f));have HB3:=Qa (Bs.of_own h6);have NC3:=Qa (NoCap.of_own h6);obtain⟨f3,c3,e3⟩:=(Bs.of_own h6).len;subst e3;clear h6 o3
  by_cases hc:c=0
  ·subst hc
   have hx:=hu.o (d.getD 0 0) (Zj d 0 (by rw[h9.o];omega));have he:=RH _ hx.1 hx.2;obtain⟨b,off,hk,e4,h7⟩:=(hr.o.past hs.o).at 0 (by rw[h9.o];omega)
   have ea:a1=some ⟨b,off,none⟩:=by simp at e4;exact e4.1
   subst ea;clear e4;rw[Nat.add_zero] at h7;rw[if_neg (by simp)] at h0;obtain⟨x,ht⟩:=EX (d.getD 0 0);rw[<-ht] at h7 hx he h0;have ZA:=Qa (Ht x w3 hx.1 hx.2);have AA:=Qa (Ug (.slice none 0 0) [] (zig x) w3 (Bs.nil _ _) NoCap.nil (by simp) he.1 he.2);have H10:=Qa (Yh (v:=(zig x).toNat) (by omega));have HGP:=Qa (Vj (zig x).toNat);clear ht hx he;go_wp2_with fail;refine ZA.o.mono ?_;rintro e w3' ⟨rfl,rfl⟩;clear ZA;go_wp2_with fail;refine AA.o.mono ?_;rintro e w4 ⟨v4,rfl,h3,o4⟩;clear AA;rw[List.nil_append] at h3;have hf:Below w4.heap.size w4 (w4.alloc (.cells #[v4,.slice f3 W1.length c3] 23)):=(Below.refl _ _).alloc (Nat.le_refl _) _;have CC:=Qa (Wj w4.heap.size v4 _ (gs (zig x).toNat) W1 (w4.alloc (.cells #[v4,.slice f3 W1.length c3] 23)) (by go_cell) (by go_cell) ((Bs.of_own h3).later hf) ((HB3.o.past o4).later hf) (NoCap.of_own h3) NC3.o (by have:=HGP.o;omega) (by have:=H10.o;have:=hh.o;omega));have O4:=Qa ((hw.o.same o4).alloc (.cells #[v4,.slice f3 W1.length c3] 23));obtain⟨f4,c4,e4⟩:=(Bs.of_own h3).len;subst e4;clear h3 o4 hf;generalize gs (zig x).toNat=g at *;go_wp2_with fail;refine CC.o.mono ?_;rintro e w5 ⟨v5,rfl,h5,o5⟩;clear CC;obtain⟨gw,hv⟩:=EX (g++W1);rw[<-hv] at h5 h0;have eW:=h0.o;subst eW;have F:=Qa (And.intro (Qv h5 O4.o.size) (O4.o.same o5));clear hv h0;obtain⟨f5,c5,e5⟩:=(Bs.of_own h5).len;subst e5;clear h5 o5;go_wp2
   try rw[Exit.noGoto_ret]
   go_ret2;exact⟨_,rfl,F.o.1,F.o.2⟩
  ·have dc:(c != 0)=true:=by simp;exact hc
   rw[if_pos hc] at h0;have eW:=h0.o;subst eW;clear h0;go_wp2
   try rw[Exit.noGoto_ret]
   go_ret2;exact⟨_,rfl,World.ownsRow_nil _ _ _ _,hw.o⟩
end Go.Proofs.YtiochaeeoelmjaaGreatDoor
