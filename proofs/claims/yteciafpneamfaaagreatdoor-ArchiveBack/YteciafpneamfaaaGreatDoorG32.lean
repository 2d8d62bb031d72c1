import Derived.Test.YteciafpneamfaaaGreatDoorG31
namespace Go.Proofs.YteciafpneamfaaaGreatDoor
set_option maxHeartbeats 4000000
set_option maxRecDepth 100000
open Go.RowKit _root_.Go.Proofs.Tryz
variable {w w' W:World} {v:Value} {ys xs l:LI} {R n p k g B:Nat} {P:Program} {ls:List (LI)} {E:TypeId}
def gW:Nat->Option (Nat × Nat)->LI->Option (Nat × Nat)
 | _,wn,[]=>wn
 | p,wn,y :: t=>gW y.toNat (gx (p ^^^ y.toNat) wn).2 t
def gL:Nat->LI->Nat
 | p,[]=>p
 | _,y :: t=>gL y.toNat t
theorem Fy (l:LI) (y:Int):∀(p:Nat) (wn:Option (Nat × Nat)),gE p wn (l++[y])=gE p wn l++(gx (gL p l ^^^ y.toNat) (gW p wn l)).1∧gW p wn (l++[y])=(gx (gL p l ^^^ y.toNat) (gW p wn l)).2:=by
 induction l with
 | nil=>intro p wn;simp[gE,gW,gL]
 | cons z t ih =>
  intro p wn;obtain⟨h1,h2⟩:=ih z.toNat (gx (p ^^^ z.toNat) wn).2
  constructor
  ·rw[List.cons_append,gE,h1,gE,gL,gW,List.append_assoc]
  ·rw[List.cons_append,gW,h2,gL,gW]
theorem vK (t:LI) (k:Nat) (h:k<t.length):t.take (k+1)=t.take k++[t.getD k 0]:=by
 rw[List.take_add_one,Qd,Qi h];rfl
theorem uu (t:LI):∀(x0:Int) (k:Nat),k<=t.length->gL x0.toNat (t.take k)=((x0 :: t).getD k 0).toNat:=by
 induction t with
 | nil =>
  intro x0 k hk
  obtain rfl:k=0:=by simpa using hk
  rfl
 | cons y t ih =>
  intro x0 k hk
  cases k with
  | zero=>rfl
  | succ k =>
   rw[List.take_succ_cons,gL,ih y k (by simpa using hk)]
   rfl
theorem rI (x0:Int) (t:LI) (k:Nat) (h:k<t.length) :
 gE x0.toNat none (t.take (k+1))=gE x0.toNat none (t.take k)++(gx (((x0 :: t).getD k 0).toNat ^^^ (t.getD k 0).toNat) (gW x0.toNat none (t.take k))).1 ∧
 gW x0.toNat none (t.take (k+1))=(gx (((x0 :: t).getD k 0).toNat ^^^ (t.getD k 0).toNat) (gW x0.toNat none (t.take k))).2:=by
 rw[vK t k h,<-uu t x0 k (by omega)];exact Fy _ _ _ _
theorem xor_i {x y:Int} (x0:0<=x) (x1:x<=18446744073709551615) (y0:0<=y) (y1:y<=18446744073709551615):bits .xor .u64 y x=((x.toNat ^^^ y.toNat:Nat):Int):=by
 have:=bits_xor_u64_nat y.toNat x.toNat (by omega) (by omega);rw[Int.toNat_of_nonneg x0,Int.toNat_of_nonneg y0] at this;rw[this,Nat.xor_comm]
theorem ww {b i:Nat} (h:w.cell? ⟨b,i,none⟩=some v):b<w.heap.size:=by
 rcases Nat.lt_or_ge b w.heap.size with e | e
 ·exact e
 ·have e2:w.heap[b]? = none:=Array.getElem?_eq_none e
  simp[World.cell?,e2] at h
structure Es (w:World) (K:Nat) (wr:World) (vw:Value) (l:List Bool) (wn:Option (Nat × Nat)) (a d:Nat):Prop where
 be:Below w.heap.size w wr
 wt:WrAt 272 5 wr (w.heap.size+1) w.heap.size vw l
 nb:∀q,vw.ownBlock=some q->q≠K
 gt:w.heap.size<K
 box:wr.heap[K]? = some (.cells #[.int .i64 a,.int .i64 d] 283 (0,0))
 wi:W2 wn a d
theorem Es.lt {K:Nat} {wr:World} {vw:Value} {l:List Bool} {wn:Option (Nat × Nat)} {a d:Nat} (h:Es w K wr vw l wn a d):K<wr.heap.size:=by
 rcases Nat.lt_or_ge K wr.heap.size with e | e
 ·exact e
 ·have:=h.box
  rw[Array.getElem?_eq_none e] at this
  cases this
theorem Es.drew {K:Nat} {wr:World} {vw:Value} {l:List Bool} {wn:Option (Nat × Nat)} {a d:Nat} (h:Es w K wr vw l wn a d):Es w K wr.drew vw l wn a d :=
 ⟨h.be.drew,h.wt.keep ((Only.refl (λ_=>False) wr).drew) (λf=>f) (λ_ _ f=>f),h.nb,h.gt,h.box,h.wi⟩
theorem Es.off {K:Nat} {wr:World} {vw:Value} {l:List Bool} {wn:Option (Nat × Nat)} {a d:Nat} (h:Es w K wr vw l wn a d) (f:Foot w.heap.size vw K):False:=by
 rcases f with e | e
 ·have:=h.gt;omega
 ·exact h.nb _ e rfl
theorem Es.next {K:Nat} {wr w2:World} {vw v2:Value} {l l2:List Bool} {wn wn2:Option (Nat × Nat)} {a d a2 d2:Nat} (h:Es w K wr vw l wn a d)
 (h2:WrAt 272 5 w2 (w.heap.size+1) w.heap.size v2 l2) (o:Only (Foot w.heap.size vw) wr w2) (s:Stays wr vw v2) (hw:W2 wn2 a2 d2) :
 Es w K ((w2.setCell ⟨K,0,none⟩ (.int .i64 a2)).setCell ⟨K,1,none⟩ (.int .i64 d2)) v2 l2 wn2 a2 d2:=by
 have h1:∀q,v2.ownBlock=some q->q≠K:=λq hq=>by
  rcases s with e | e
  ·rw[e] at hq;exact h.nb q hq
  ·have:=e q hq;have:=h.lt;omega
 have h0:=o.heap h.box (λf=>by
  rcases f with e | e
  ·have:=h.gt;omega
  ·exact h.nb _ e rfl)
 have hg:=h.gt;refine⟨?_,h2.keep (UU (S:=λk=>k=K) _ _ rfl) (λf=>by omega) (λk hk f=>h1 k hk f),h1,h.gt,Wy _ _ h0,hw⟩;exact (h.be.trans (o.below (B:=w.heap.size) h.be.size (h.wt.foot_ge (Nat.le_refl _)))).trans ((UU (S:=λk=>k=K) (.int .i64 a2) (.int .i64 d2) rfl).below (B:=w.heap.size) (Nat.le_trans h.be.size o.size) (λk e=>by omega))
theorem tk (v:Value) (xs:LI) (w:World) (h:Bs .u64 w v xs) (hl:65536<xs.length) :
 Calls prog 215 #[v] w λe w'=>e=.returned (.tuple #[.slice none 0 0,.int .i64 4])∧w=w':=by
 obtain⟨ao,cap,rfl⟩:=h.len;clear h
 have d0:decide (65536<(xs.length:Int))=true:=by simp;omega
 generalize xs.length=m at *;clear hl;go_enter func215,ntmps215;go_wp2;go_ret2;exact⟨rfl,rfl⟩
theorem qt (v:Value) (w:World) (h:Bs .u64 w v []) :
 Calls prog 215 #[v] w λe w'=>e=.returned (.tuple #[.slice none 0 0,.int .i64 0])∧w=w':=by
 obtain⟨ao,cap,rfl⟩:=h.len;clear h;go_enter func215,ntmps215;go_wp2;go_ret2;exact⟨rfl,rfl⟩
theorem wM (v:Value) (x0:Int) (t:LI) (w:World) (h:Bs .u64 w v (x0 :: t)) (hu:U64 (x0 :: t)) (hl:(x0 :: t).length<=65536) (hT:Tab w) :
 Calls prog 215 #[v] w λe w'=>∃v',e=.returned (.tuple #[v',.int .i64 0])∧w'.ownsRow w.heap.size 5 1 v' (QH (GB (x0 :: t))).length ((QH (GB (x0 :: t))).map (Value.int .u8))∧N0 w w':=by
 obtain⟨b,off,cap,rfl,c0⟩:=h.at 0 (by simp);have HB:=Qa h;have HU:=Qa hu;obtain⟨u0,u1⟩:=hu x0 List.mem_cons_self;simp only[List.getD_cons_zero,Nat.add_zero] at c0;have hh:=ww c0;obtain⟨m,hm⟩:=EX t.length;have HM:=Qa hm
 have h6:(x0 :: t).length=m+1:=by rw[hm];rfl
 rw[h6] at HB hl;rw[h6]
 have hd:m+1<=cap:=by
  obtain⟨ao,ha,e,hc,_⟩:=h;simp only[Value.slice.injEq] at e;omega
 obtain⟨n,hn⟩:=EX (m+1);rw[<-hn] at HB hl hd;rw[<-hn]
 have n0:0<n:=by omega
 have HN:=Qa hn;obtain⟨G,hG⟩:=EX (QH (GB (x0 :: t)));rw[<-hG];have HG:=Qa hG
 have d0:decide (65536<(n:Int))=false:=by simp;omega
 have d1:((n:Int) == 0)=false:=by rw[beq_eq_false_iff_ne];omega
 have x64:(wid x0.toNat:Int)<=64:=by have:=Kk x0.toNat (by omega);omega
 have W0:=Qa (WrAt.new (T:=272) (E:=5) w);have P0:=Qa (Wd W0.o x0 64 (by omega) (by omega) u0 u1 x64 (by simp));have he:Hid (Below w.heap.size w (w.alloc (.cells #[.slice none 0 0,.int .i64 0] 272))):=(Below.refl _ _).alloc (Nat.le_refl _) _;clear h hu hm h6 hG hn;go_enter func215,ntmps215;go_wp2_with fail;refine P0.o.mono ?_;rintro e w1 ⟨rfl,v1,h1,o1,s1⟩
 have h8:([]:List Bool)++Ql x0.toNat (Int.toNat 64)=Ql x0.toNat 64++gE x0.toNat none (t.take 0):=by simp[gE]
 rw[h8] at h1;have B1:=Qa (he.o.trans (o1.below (B:=w.heap.size) he.o.size (W0.o.foot_ge (Nat.le_refl _))))
 have S1:Hid (Es w w1.heap.size (w1.alloc (.cells #[.int .i64 0,.int .i64 0] 283)) v1 (Ql x0.toNat 64++gE x0.toNat none (t.take 0)) (gW x0.toNat none (t.take 0)) 0 0) :=
  ⟨B1.o.alloc B1.o.size _,h1.keep ((Only.refl (λ_=>False) w1).alloc _) (λf=>f) (λ_ _ f=>f),λq hq=>by have:=(h1.own.lt q hq).2;omega,h1.lt_size,heap_alloc_last _ _,W2.none⟩
 have hKw:Hid (w.heap.size<w1.heap.size):=h1.lt_size;clear h1 o1 s1 P0 W0 he h8
 have e1:n - 1=m:=by have:=HN.o;omega
 have HV:Hid (∀k,k<m->w.cell? ⟨b,off+1+k,none⟩=some (.int .u64 (t.getD k 0))∧w.cell? ⟨b,off+k,none⟩=some (.int .u64 ((x0 :: t).getD k 0))):=by
  intro k hk;obtain⟨ao,ha,e,_,hg⟩:=HB.o;obtain⟨b',off',rfl,hc⟩:=hg (List.cons_ne_nil _ _);clear hg;simp only[Value.slice.injEq,Option.some.injEq,Addr.mk.injEq,and_true] at e;obtain⟨⟨rfl,rfl⟩,_,rfl⟩:=e;have hm:=HM.o;have:=hc (k+1) (by simp;omega);rw[List.getD_cons_succ] at this;refine⟨?_,hc k (by simp;omega)⟩;rw[show off+1+k=off+(k+1) by omega];exact this
 clear B1 c0;go_wp2
 case inl =>
  obtain rfl:m=0:=by have:=HN.o;omega
  go_loopw [22] (λi wr=>∃k:Nat,k<=0∧i=.int .i64 k∧∃vw a d,Es w w1.heap.size wr vw (Ql x0.toNat 64++gE x0.toNat none (t.take k)) (gW x0.toNat none (t.take k)) a d) (λi _=>0 - (intOf i).toNat)
  case atStart=>exact⟨0,Nat.zero_le _,rfl,v1,0,0,S1.o⟩
  case round =>
   clear S1;obtain⟨k,hk,rfl,vw,a,d,h0⟩:=hrel
   obtain rfl:k=0:=by omega
   have hb:(0:Nat)=0:=rfl;have HE:=Qa h0
   have h5:(Ql x0.toNat 64++gE x0.toNat none (t.take 0)).length<=1000000000000:=by
    have:=(X0 (t.take 0) x0.toNat none).1;rw[Qb,Ys];rw[Qg] at this;omega
   have BY:=Qa (Xc h0.wt h5)
   have h3:Hid (QH (Ql x0.toNat 64++gE x0.toNat none (t.take 0))=G):=by
    simp only[Hid];rw[HG.o,hb,HM.o,List.take_length];rfl
   rw[h3.o] at BY;clear h0 h5;go_wp2_with fail;refine BY.o.mono ?_;rintro e w4 ⟨v4,rfl,h4,h9⟩;have OW:=Qa (Qr h4 HE.o.be.size);have ON:=Qa ((YU HE.o.be).same h9);clear BY h4 h9;go_wp2;go_ret2;exact⟨v4,rfl,OW.o,ON.o⟩
 case inr =>
  go_loopw [22] (λi wr=>∃k:Nat,k<=m∧i=.int .i64 k∧∃vw a d,Es w w1.heap.size wr vw (Ql x0.toNat 64++gE x0.toNat none (t.take k)) (gW x0.toNat none (t.take k)) a d) (λi _=>m - (intOf i).toNat)
  case atStart=>exact⟨0,Nat.zero_le _,rfl,v1,0,0,S1.o⟩
  case round =>
   clear S1;obtain⟨k,hk,rfl,vw,a,d,h0⟩:=hrel
   by_cases hlt:k<m
   ·obtain⟨q1,q2⟩:=HV.o k hlt
    have c1:=(h0.be.cell (p:=⟨b,off+1+k,none⟩) hh).trans q1;have c2:=(h0.be.drew.cell (p:=⟨b,off+k,none⟩) hh).trans q2;have HE:=Qa h0.drew;obtain⟨b0,b1,_,_⟩:=Qu h0.drew.box;obtain⟨s1,s2⟩:=rI x0 t k (by rw[<-HM.o];exact hlt);have G1:=Qa s1;have G2:=Qa s2
    have h7:∀j,j<(x0 :: t).length->0<=(x0 :: t).getD j 0∧(x0 :: t).getD j 0<=18446744073709551615:=λj hj=>HU.o _ (by rw[Qd,Qi hj];simp)
    have hmt:=HM.o;obtain⟨p0,p1⟩:=h7 k (by simp;omega);obtain⟨y0,y1⟩:=h7 (k+1) (by simp;omega);rw[List.getD_cons_succ] at y0 y1
    have h5:(Ql x0.toNat 64++gE x0.toNat none (t.take k)).length<=100000000:=by
     have:=(X0 (t.take k) x0.toNat none).1;rw[Qb,Ys];rw[Qg] at this;omega
    have HT:=Qa (hT.below h0.be.drew hT.pos);have hf:=xor_i p0 p1 y0 y1;have hp:=ZN (a:=((x0 :: t).getD k 0).toNat) (b:=(t.getD k 0).toNat) (by omega) (by omega);generalize (x0 :: t).getD k 0=p at *;generalize t.getD k 0=y at *;have WR:=Qa (I2 HE.o.wt (p.toNat ^^^ y.toNat) _ a d HE.o.wi h5 hp HT.o hT.pos);rw[<-hf] at WR;have WL:=Qa HE.o.wi.le;clear h7 hmt s1 s2 h5 hf hp h0 q1 q2
    have dlt:decide ((k:Int)<(m:Int))=true:=by simp;omega
    have i0:(k:Int)<(n:Int):=by have:=HN.o;omega
    go_wp2
    go_region_with ((go_at_call 244;refine WR.o.mono ?_;rintro e w2 ⟨a2,d2,rfl,ho,v2,h2,o2,s2⟩;have E2:=Qa (HE.o.next h2 o2 s2 ho);have g2:=Qu (o2.heap HE.o.box (λf=>HE.o.off f));obtain⟨_,_,_,_⟩:=g2))
    all_goals
     have hL:Hid (Ql x0.toNat 64++gE x0.toNat none (t.take k)++(gx (p.toNat ^^^ y.toNat) (gW x0.toNat none (t.take k))).1=Ql x0.toNat 64++gE x0.toNat none (t.take (k+1))):=by
      simp only[Hid];rw[G1.o,List.append_assoc]
     rw[hL.o,<-G2.o] at E2;clear WR ho h2 o2 s2;go_wp2
     go_roundw
     case rel=>exact⟨k+1,by omega,by simp,v2,a2,d2,E2.o⟩
     case measure=>simp[intOf];omega
   ·obtain rfl:k=m:=by omega
    have hb:k=k:=rfl
    have dlt:decide ((k:Int)<(k:Int))=false:=by simp
    have HE:=Qa h0
    have h5:(Ql x0.toNat 64++gE x0.toNat none (t.take k)).length<=1000000000000:=by
     have:=(X0 (t.take k) x0.toNat none).1;rw[Qb,Ys];rw[Qg] at this;omega
    have BY:=Qa (Xc h0.wt h5)
    have h3:Hid (QH (Ql x0.toNat 64++gE x0.toNat none (t.take k))=G):=by
     simp only[Hid];rw[HG.o,hb,HM.o,List.take_length];rfl
    rw[h3.o] at BY;clear h0 h5;go_wp2_with fail;refine BY.o.mono ?_;rintro e w4 ⟨v4,rfl,h4,h9⟩;have OW:=Qa (Qr h4 HE.o.be.size);have ON:=Qa ((YU HE.o.be).same h9);clear BY h4 h9;go_wp2;go_ret2;exact⟨v4,rfl,OW.o,ON.o⟩
theorem PR (v:Value) (xs:LI) (w:World) (h:Bs .u64 w v xs) (hu:U64 xs) (hT:Tab w) :
 Calls prog 215 #[v] w λe w'=>∃v',e=.returned (.tuple #[v',.int .i64 (ENC9 xs).2])∧w'.ownsRow w.heap.size 5 1 v' (ENC9 xs).1.length ((ENC9 xs).1.map (Value.int .u8))∧N0 w w':=by
 by_cases hl:65536<xs.length
 ·have e:ENC9 xs=([],4):=if_pos hl
  rw[e];refine (tk v xs w h hl).mono ?_;rintro e w' ⟨rfl,rfl⟩;exact⟨_,rfl,World.ownsRow_nil _ _ _ _,Only.refl _ _⟩
 ·rw[VK (by omega)]
  cases xs with
  | nil =>
   refine (qt v w h).mono ?_;rintro e w' ⟨rfl,rfl⟩;exact⟨_,rfl,World.ownsRow_nil _ _ _ _,Only.refl _ _⟩
  | cons x0 t=>exact wM v x0 t w h hu (by omega) hT
theorem vy (v:Value) (tag:Int) (w:World) (h:tag<0∨3<tag):Calls prog 183 #[v,.int .i64 tag] w λe w'=>e=.returned (.tuple #[.slice none 0 0,.int .i64 1])∧w=w':=by
 have A:=Qa (LR tag w h);clear h;go_enter func183,ntmps183;go_wp2_with fail;refine A.o.mono ?_;rintro e w1 ⟨rfl,rfl⟩;go_wp2;go_ret2;exact⟨rfl,rfl⟩
theorem FG (v:Value) (l:LI) (tag:Int) (w:World) (h:Bs .u64 w v l) (h0:0<=tag) (h3:tag<=3) (hl:65536<l.length):Calls prog 183 #[v,.int .i64 tag] w λe w'=>e=.returned (.tuple #[.slice none 0 0,.int .i64 4])∧w=w':=by
 have A:=Qa (KH tag w h0 h3);obtain⟨ao,cap,rfl⟩:=h.len;have d1:decide ((65536:Int)<(l.length:Int))=true:=Qc (by omega);have d1':decide (65536<l.length)=true:=Qc hl;clear h h0 h3 hl;go_enter func183,ntmps183;go_wp2_with fail;refine A.o.mono ?_;rintro e w1 ⟨rfl,rfl⟩;go_wp2;go_ret2;exact⟨rfl,rfl⟩
theorem Ce (v:Value) (l:LI) (w:World) (h:Bs .u64 w v l) (hl:l.length<=65536) :
 Calls prog 183 #[v,.int .i64 0] w λe w'=>∃u,e=.returned (.tuple #[u,.int .i64 0])∧w'.ownsRow w.heap.size 5 1 u (fx8 l).length ((fx8 l).map (Value.int .u8))∧N0 w w':=by
 have A:=Qa (KH 0 w (by omega) (by omega));have F:=Qa (Le v l w h hl);obtain⟨ao,cap,rfl⟩:=h.len;have d1:decide ((65536:Int)<(l.length:Int))=false:=Qh (by omega);have d1':decide (65536<l.length)=false:=Qh (by omega);clear h hl;go_enter func183,ntmps183;go_wp2_with fail;refine A.o.mono ?_;rintro e w1 ⟨rfl,rfl⟩;clear A;go_wp2_with fail;refine F.o.mono ?_;rintro e w2 ⟨u,rfl,h0,o2⟩;have R:=Qa (And.intro h0 o2);clear h0 o2 F;go_wp2;go_ret2;exact⟨u,rfl,R.o.1,R.o.2⟩
theorem qJ (v:Value) (l:LI) (w:World) (h:Bs .u64 w v l) (hl:l.length<=65536) (hs:l=[]∨¬Yy l) :
 Calls prog 183 #[v,.int .i64 1] w λe w'=>e=.returned (.tuple #[.slice none 0 0,.int .i64 1])∧w=w':=by
 have A:=Qa (KH 1 w (by omega) (by omega));have F:=Ni v l w h hl;rw[show decide (¬(l=[]∨¬Yy l))=false from Qh (λc=>c hs)] at F;have F:=Qa F;obtain⟨ao,cap,rfl⟩:=h.len;have d1:decide ((65536:Int)<(l.length:Int))=false:=Qh (by omega);have d1':decide (65536<l.length)=false:=Qh (by omega);clear h hl hs;go_enter func183,ntmps183;go_wp2_with fail;refine A.o.mono ?_;rintro e w1 ⟨rfl,rfl⟩;clear A;go_wp2_with fail;refine F.o.mono ?_;rintro e w2 ⟨rfl,rfl⟩;clear F;go_wp2;go_ret2;exact⟨rfl,rfl⟩
theorem OM (v:Value) (l:LI) (w:World) (h:Bs .u64 w v l) (hl:l.length<=65536) (hs:¬(l=[]∨¬Yy l)) :
 Calls prog 183 #[v,.int .i64 1] w λe w'=>∃u,e=.returned (.tuple #[u,.int .i64 0])∧w'.ownsRow w.heap.size 5 1 u (fixL (l.getD 0 0) 8).length ((fixL (l.getD 0 0) 8).map (Value.int .u8))∧N0 w w':=by
 have A:=Qa (KH 1 w (by omega) (by omega));have F:=Ni v l w h hl;rw[show decide (¬(l=[]∨¬Yy l))=true from Qc hs] at F;have F:=Qa F
 have h1:l≠[]:=λe=>hs (.inl e)
 have hp:0<l.length:=List.length_pos_iff.2 h1
 have e1:fx8 (l.take 1)=fixL (l.getD 0 0) 8:=by
  cases l with
  | nil=>exact absurd rfl h1
  | cons y t=>simp[fx8]
 have h2:∃ao cap,v=.slice ao l.length cap∧l.length<=cap:=by obtain⟨ao,cap,e,hc,_⟩:=h;exact⟨ao,cap,e,hc⟩
 obtain⟨ao,cap,rfl,hc⟩:=h2;have X:=Le _ (l.take 1) w (h.head (n:=1) (by omega)) (by rw[Qg];omega);rw[e1] at X;have X:=Qa X;have d1:decide ((65536:Int)<(l.length:Int))=false:=Qh (by omega);have d1':decide (65536<l.length)=false:=Qh (by omega)
 have b1:(1:Int)<=(cap:Int):=by omega
 have b2:1<=cap:=by omega
 generalize fixL (l.getD 0 0) 8=G at *;generalize l.length=n at *;clear h hl hs h1 hp e1 hc;go_enter func183,ntmps183;go_wp2_with fail;refine A.o.mono ?_;rintro e w1 ⟨rfl,rfl⟩;clear A;go_wp2_with fail;refine F.o.mono ?_;rintro e w2 ⟨rfl,rfl⟩;clear F;go_wp2_with fail;refine X.o.mono ?_;rintro e w2 ⟨u,rfl,h0,o2⟩;have R:=Qa (And.intro h0 o2);clear h0 o2 X;go_wp2;go_ret2;exact⟨u,rfl,R.o.1,R.o.2⟩
theorem re (v:Value) (l:LI) (w:World) (h:Bs .u64 w v l) (hu:U64 l) (hl:l.length<=65536) :
 Calls prog 183 #[v,.int .i64 2] w λe w'=>∃u,e=.returned (.tuple #[u,.int .i64 (ENC10 l).2])∧w'.ownsRow w.heap.size 5 1 u (ENC10 l).1.length ((ENC10 l).1.map (Value.int .u8))∧N0 w w':=by
 have A:=Qa (KH 2 w (by omega) (by omega));have F:=Qa (TU v l w h hu);obtain⟨ao,cap,rfl⟩:=h.len;have d1:decide ((65536:Int)<(l.length:Int))=false:=Qh (by omega);have d1':decide (65536<l.length)=false:=Qh (by omega);generalize ENC10 l=E at *;obtain⟨E1,E2⟩:=E;simp only at F ⊢;clear h hl hu;go_enter func183,ntmps183;go_wp2_with fail;refine A.o.mono ?_;rintro e w1 ⟨rfl,rfl⟩;clear A;go_wp2_with fail;refine F.o.mono ?_;rintro e w2 ⟨u,rfl,h0,o2⟩;have R:=Qa (And.intro h0 o2);clear h0 o2 F;go_wp2;go_ret2;exact⟨u,rfl,R.o.1,R.o.2⟩
theorem CY (v:Value) (l:LI) (w:World) (h:Bs .u64 w v l) (hu:U64 l) (hl:l.length<=65536) (hT:Tab w) :
 Calls prog 183 #[v,.int .i64 3] w λe w'=>∃u,e=.returned (.tuple #[u,.int .i64 (ENC9 l).2])∧w'.ownsRow w.heap.size 5 1 u (ENC9 l).1.length ((ENC9 l).1.map (Value.int .u8))∧N0 w w':=by
 have A:=Qa (KH 3 w (by omega) (by omega));have F:=Qa (PR v l w h hu hT);obtain⟨ao,cap,rfl⟩:=h.len;have d1:decide ((65536:Int)<(l.length:Int))=false:=Qh (by omega);have d1':decide (65536<l.length)=false:=Qh (by omega);generalize ENC9 l=E at *;obtain⟨E1,E2⟩:=E;simp only at F ⊢;clear h hl hu hT;go_enter func183,ntmps183;go_wp2_with fail;refine A.o.mono ?_;rintro e w1 ⟨rfl,rfl⟩;clear A;go_wp2_with fail;refine F.o.mono ?_;rintro e w2 ⟨u,rfl,h0,o2⟩;have R:=Qa (And.intro h0 o2);clear h0 o2 F;go_wp2;go_ret2;exact⟨u,rfl,R.o.1,R.o.2⟩
theorem rG (v:Value) (l:LI) (tag:Int) (w:World) (h:Bs .u64 w v l) (hu:U64 l) (hT:Tab w) :
 Calls prog 183 #[v,.int .i64 tag] w λe w'=>∃u,e=.returned (.tuple #[u,.int .i64 (WAY11 l tag).2])∧w'.ownsRow w.heap.size 5 1 u (WAY11 l tag).1.length ((WAY11 l tag).1.map (Value.int .u8))∧N0 w w':=by
 unfold WAY11
 by_cases ht:tag<0∨3<tag
 ·rw[if_pos ht]
  refine (vy v tag w ht).mono ?_;rintro e w' ⟨rfl,rfl⟩;exact⟨_,rfl,World.ownsRow_nil _ _ _ _,Only.refl _ _⟩
 ·rw[if_neg ht]
  by_cases hl:65536<l.length
  ·rw[if_pos hl]
   refine (FG v l tag w h (by omega) (by omega) hl).mono ?_;rintro e w' ⟨rfl,rfl⟩;exact⟨_,rfl,World.ownsRow_nil _ _ _ _,Only.refl _ _⟩
  ·rw[if_neg hl]
   obtain⟨t,rfl⟩:=Int.eq_ofNat_of_zero_le (show 0<=tag by omega);rw[Int.toNat_natCast]
   rcases Wx (t:=t) (by omega) with rfl | rfl | rfl | rfl
   ·rw[W11_0];exact Ce v l w h (by omega)
   ·rw[W11_1]
    by_cases hs:l=[]∨¬Yy l
    ·rw[if_pos hs]
     refine (qJ v l w h (by omega) hs).mono ?_;rintro e w' ⟨rfl,rfl⟩;exact⟨_,rfl,World.ownsRow_nil _ _ _ _,Only.refl _ _⟩
    ·rw[if_neg hs];exact OM v l w h (by omega) hs
   ·rw[W11_2];exact re v l w h hu (by omega)
   ·rw[W11_3];exact CY v l w h hu (by omega) hT
theorem AH (v:Value) (l:LI) (t:Nat) (w:World) (h:Bs .u64 w v l) (hu:U64 l) (hT:Tab w) (hl:l.length<=65536) (ht:t<=3) :
 Calls prog 183 #[v,.int .i64 t] w λe w'=>∃u,e=.returned (.tuple #[u,.int .i64 (QG l t).2])∧w'.ownsRow w.heap.size 5 1 u (QG l t).1.length ((QG l t).1.map (Value.int .u8))∧N0 w w':=by
 have:=rG v l t w h hu hT;rw[GR hl t ht] at this;exact this
section
open Go.Shelf
attribute [local go_sem] Oper.semAt_some
theorem Eb (n:Nat) (a:Option Addr) (len cap:Nat) (w:World) :
 CallsIn Fence.wide n prog 149 #[.slice a len cap] w λe w'=>e=.returned (.func (.func 182) #[] #[.pointer (some ⟨w.heap.size,0,none⟩)])∧w'=w.alloc (.cells #[.slice a len cap] 161):=by
 refine callsIn_of_wp func149 rfl trivial ?_ rfl;simp only[ntmps149,List.size_toArray,Qj,List.length_nil,Nat.reduceAdd,Nat.reduceSub,Array.replicate_succ,Array.replicate_zero,List.push_toArray,List.append_toArray,List.nil_append,List.cons_append]
 gi_wp2
 go_ret;exact⟨rfl,rfl⟩
theorem IA (n L Bv:Nat) (v:Value) (l:LI) (hu:U64 l) (hl:l.length<=65536) (J:Nat->World->Prop)
 (hJ:∀s A,J s A->Boxed A Bv 161 v∧Bs .u64 A v l∧Tab A)
 (hJo:∀s A B,J s A->N0 A B->J s B)
 (hJs:∀s A,s<=3->J s A->(QG l s).2≠0->J (s+1) A)
 (hY:∀(s:Nat) u A,s<=3->J s A->(QG l s).2=0->Bs .u8 A u (QG l s).1->NoCap u->YieldAt Fence.wide (n - 1) prog L #[.int .i64 s,u] A λe B=>e=.returned (.bool true)∧J (s+1) B)
 (W:World) (h0:J 0 W) :
 CallsIn Fence.wide n prog 182 #[.func (.yield L) #[] #[],.pointer (some ⟨Bv,0,none⟩)] W λe B=>(∃v,e=.returned v)∧J 4 B:=by
 have HJ:=Qa hJ;have h8:=Qa hJo;have HJs:=Qa hJs;have HY:=Qa hY;have H0:=Qa h0;clear hJ hJo hJs hY h0;refine callsIn_of_wp func182 rfl trivial ?_ rfl;simp only[ntmps182,List.size_toArray,Qj,List.length_nil,Nat.reduceAdd,Nat.reduceSub,Array.replicate_succ,Array.replicate_zero,List.push_toArray,List.append_toArray,List.nil_append,List.cons_append]
 gi_wp2
 gi_loopw [6] (λi wr=>∃t:Nat,t<=4∧i=.int .i64 t∧Hid (J t wr)) (λi _=>4 - (intOf i).toNat)
 case atStart=>exact⟨0,by omega,rfl,H0⟩
 case round =>
  obtain⟨t,ht,rfl,HT⟩:=hrel
  by_cases hlt:t<4
  ·have dlt:decide ((t:Int)<4)=true:=Qc (by omega)
   obtain⟨h5,h4,h2⟩:=HJ.o t wr HT.o;have hc:=h5.cell;have A:=Qa (AH v l t wr h4 hu h2 hl (by omega))
   by_cases he:(QG l t).2=0
   ·have HE:=Qa he
    rw[he] at A;clear h5 h4 h2 he
    gi_wp2_with fail
    refine⟨trivial,(λh=>by cases h),(callsIn_wide.2 A.o).mono ?_⟩;rintro e w2 ⟨u,rfl,h1,o2⟩;obtain⟨fn,tmps,h3,body,hy,hR⟩:=HY.o t u w2 (by omega) (h8.o _ _ _ HT.o o2) HE.o (Bs.of_own h1) (NoCap.of_own h1);have HR:=Qa hR;clear h1 o2 A hR
    gi_wp2
    refine⟨(λh=>by cases h),HR.o.mono ?_⟩;rintro e w3 ⟨rfl,h7⟩;have H3:=Qa h7;clear HR h7
    gi_wp2
    go_roundw
    case rel=>exact⟨t+1,by omega,by go_num,H3⟩
    case measure=>simp[intOf];omega
   ·have HE:=Qa he
    have de:((QG l t).2 == 0)=false:=by simp[he]
    obtain⟨c,h6⟩:=EX ((QG l t).2);rw[<-h6] at A de;clear h5 h4 h2 he h6
    gi_wp2_with fail
    refine⟨trivial,(λh=>by cases h),(callsIn_wide.2 A.o).mono ?_⟩;rintro e w2 ⟨u,rfl,h1,o2⟩;have H3:=Qa (HJs.o t w2 (by omega) (h8.o _ _ _ HT.o o2) HE.o);clear h1 o2 A
    gi_wp2
    refine⟨λ_ h=>(by cases h),?_⟩
    gi_wp2
    go_roundw
    case rel=>exact⟨t+1,by omega,by go_num,H3⟩
    case measure=>simp[intOf];omega
  ·obtain rfl:t=4:=by omega
   gi_wp2
   go_end0
   exact⟨⟨_,rfl⟩,HT.o⟩
end
section
open Go.Shelf
attribute [local go_sem] Oper.semAt_some
def pk11 (l:LI) (t:Nat):LI:=((QY l t).1:Int) :: (QY l t).2
def Sh11 (lo:Nat) (l:LI) (t:Nat) (A:World) (sv:Value):Prop :=
 (t=0∧sv=.slice none 0 0)∨∃s,t=s+1∧A.ownsRow lo 5 1 sv (pk11 l s).length ((pk11 l s).map (Value.int .u8))
def In11 (W0:World) (Bx lo:Nat) (l:LI) (t:Nat) (A:World):Prop:=Only (λk=>k=Bx) W0 A∧∃sv,Boxed A Bx 22 sv∧Sh11 lo l t A sv
theorem Sh11.keep {lo:Nat} {t:Nat} {A B:World} {sv:Value} (h:Sh11 lo l t A sv) {S:Nat->Prop} (o:Only S A B) (hs:∀k,sv.ownBlock=some k->¬S k):Sh11 lo l t B sv:=by
 rcases h with h | ⟨s,e,h⟩
 ·exact .inl h
 ·exact .inr ⟨s,e,o.own h hs⟩
theorem In11.past {W0:World} {Bx lo:Nat} {t:Nat} {A B:World} (h:In11 W0 Bx lo l t A) (o:N0 A B):In11 W0 Bx lo l t B:=by
 obtain⟨h1,sv,h2,h3⟩:=h;exact⟨h1.trans o (λ_ _ f=>f.elim),sv,QL h2 o (λf=>f),h3.keep o (λ_ _ f=>f)⟩
theorem In11.loop {W0:World} {Bx lo:Nat} {t:Nat} {A B:World} (h:In11 W0 Bx lo l t A) {L:Nat} {r:Loop} (hl:A.heap[L]? = some (.loop r)) (o:Only (λk=>k=L) A B) (hL:W0.heap.size<=L):In11 W0 Bx lo l t B:=by
 obtain⟨h1,sv,h2,h3⟩:=h;refine⟨h1.trans o (λk hk e=>by omega),sv,QL h2 o (λe=>?_),h3.keep o (λk hk e=>?_)⟩
 ·subst e
  rw[show A.heap[Bx]? = _ from h2] at hl;cases hl
 ·subst e
  rcases h3 with ⟨_,rfl⟩ | ⟨s,_,ho⟩
  ·cases hk
  ·rcases ho.2 with ⟨rfl,_⟩ | ⟨g,cap,cur,rfl,_,hg,_⟩
   ·cases hk
   ·obtain rfl:g=k:=by simpa [Value.ownBlock] using hk
    rw[hg] at hl;cases hl
theorem In11.skip {W0:World} {Bx lo:Nat} {t:Nat} {A:World} (h:In11 W0 Bx lo l t A) (he:(QG l t).2≠0):In11 W0 Bx lo l (t+1) A:=by
 obtain⟨h1,sv,h2,h3⟩:=h;refine⟨h1,sv,h2,?_⟩
 rcases h3 with ⟨rfl,_⟩ | ⟨s,rfl,ho⟩
 ·exact absurd rfl he
 ·refine .inr ⟨s+1,rfl,?_⟩
  have e:pk11 l (s+1)=pk11 l s:=by
   unfold pk11;rw[QY,if_neg (λc=>he c.1)]
  rw[e];exact ho
theorem In11.stays {W0:World} {Bx lo:Nat} {s:Nat} {A:World} (h:In11 W0 Bx lo l (s+1) A) (hc:¬(QG l (s+1)).1.length<(QY l s).2.length):In11 W0 Bx lo l (s+1+1) A:=by
 obtain⟨h1,sv,h2,h3⟩:=h;refine⟨h1,sv,h2,?_⟩
 rcases h3 with ⟨e,_⟩ | ⟨s',e,ho⟩
 ·omega
 ·obtain rfl:s=s':=by omega
  refine .inr ⟨s+1,rfl,?_⟩
  have e:pk11 l (s+1)=pk11 l s:=by
   unfold pk11;rw[QY,if_neg (λc=>hc c.2)]
  rw[e];exact ho
theorem In11.stored {W0 W A:World} {Bx lo:Nat} {t:Nat} (h:In11 W0 Bx lo l t W) (hBx:Bx<W0.heap.size) (o:N0 W A) (hlo:lo<=W.heap.size)
 (own:A.ownsRow W.heap.size 5 1 v (pk11 l t).length ((pk11 l t).map (Value.int .u8))):Only (λk=>k<W0.heap.size) W (A.setCell ⟨Bx,0,none⟩ v)∧In11 W0 Bx lo l (t+1) (A.setCell ⟨Bx,0,none⟩ v):=by
 obtain⟨h1,sv,h2,h3⟩:=h;have hBW:Bx<W.heap.size:=h2.lt;have o2:Only (λk=>k=Bx) A (A.setCell ⟨Bx,0,none⟩ v):=(Only.refl (λk=>k=Bx) A).setCell (p:=⟨Bx,0,none⟩) (λ_=>rfl) v;refine⟨(o.mono (λ_ _ f=>f.elim)).trans o2 (λk _ e=>by omega),h1.trans ((o.mono (T:=λk=>k=Bx) (λ_ _ f=>f.elim)).trans o2 (λ_ _ e=>e)) (λ_ _ e=>e),v,(QL h2 o (λf=>f)).set v,.inr ⟨t,rfl,?_⟩⟩;exact o2.own (Qr own hlo) (λk hk e=>by have:=(own.lt k hk).1;omega)
theorem PI (W:World) (x:Int) (u:Value) (Y:LI) (hb:Bs .u8 W u Y) (hn:NoCap u) (hl:Y.length<=2000000) :
 Calls prog 19 #[.slice (some ⟨W.heap.size+1,0,none⟩) 2 2] ((W.alloc (.cells #[.int .u8 x] 5)).alloc (.cells #[.slice (some ⟨W.heap.size,0,none⟩) 1 1,u] 22)) λe w' =>
  ∃g c,e=.returned (.slice (some ⟨g,0,none⟩) (Y.length+1) c)∧w'.ownsRow W.heap.size 5 1 (.slice (some ⟨g,0,none⟩) (Y.length+1) c) (x :: Y).length ((x :: Y).map (Value.int .u8))∧N0 W w':=by
 obtain⟨W2,h0⟩:∃W2,(W.alloc (.cells #[.int .u8 x] 5)).alloc (.cells #[.slice (some ⟨W.heap.size,0,none⟩) 1 1,u] 22)=W2:=⟨_,rfl⟩
 have o2:N0 W W2:=by rw[<-h0];exact ((Only.refl _ W).alloc _).alloc _
 have hL:Bs .u8 W2 (.slice (some ⟨W.heap.size,0,none⟩) 1 1) [x]:=by
  rw[<-h0];exact (Bs.lit .u8 W 5 [x]).past ((Only.refl _ _).alloc _)
 have hH:W2.heap[W.heap.size+1]? = some (.cells #[.slice (some ⟨W.heap.size,0,none⟩) 1 1,u] 22 (0,0)):=by
  have:=World.alloc_heap_new (W.alloc (.cells #[.int .u8 x] 5)) (.cells #[.slice (some ⟨W.heap.size,0,none⟩) 1 1,u] 22);rw[World.size_alloc,h0] at this;exact this
 have ec:cat (λi=>if i=0 then [x] else Y) 2=x :: Y:=by rw[WM,WM,TV];rfl
 have hBB:∀i,i<2->Bs .u8 W2 (if i=0 then .slice (some ⟨W.heap.size,0,none⟩) 1 1 else u) (if i=0 then [x] else Y):=by
  intro i hi
  rcases (show i=0∨i=1 by omega) with rfl | rfl
  ·exact hL
  ·exact hb.past o2
 have hNN:∀i,i<2->NoCap (if i=0 then .slice (some ⟨W.heap.size,0,none⟩) 1 1 else u):=by
  intro i hi
  rcases (show i=0∨i=1 by omega) with rfl | rfl
  ·exact NoCap.some _ _ _
  ·exact hn
 have C:=VP (W.heap.size+1) 2 (λi=>if i=0 then .slice (some ⟨W.heap.size,0,none⟩) 1 1 else u) (λi=>if i=0 then [x] else Y) W2 (by omega) (by omega)
  (λi hi=>by rcases (show i=0∨i=1 by omega) with rfl | rfl <;> simp[World.cell?,hH])
  hBB hNN
  (by rw[ec,Qj];omega) (by rw[ec,Qj];omega)
 rw[ec] at C;rw[h0];refine C.mono ?_;rintro e w' ⟨v',rfl,own,o⟩;have h1:w'.ownsRow W2.heap.size 5 1 v' (Y.length+1) ((x :: Y).map (Value.int .u8)):=own;obtain⟨g,c,rfl⟩:=ownsRow_succ h1;exact⟨g,c,rfl,Qr own o2.size,o2.same o⟩
theorem EI (v:Value) (l:LI) (w:World) (h:Bs .u64 w v l) (hl:65536<l.length) :
 Calls prog 111 #[v] w λe w'=>e=.returned (.tuple #[.slice none 0 0,.int .i64 4])∧w=w':=by
 obtain⟨ao,cap,rfl⟩:=h.len;have d1:decide ((65536:Int)<(l.length:Int))=true:=Qc (by omega);have d1':decide (65536<l.length)=true:=Qc hl;clear h hl;refine (callsIn_wide (n:=5)).1 ?_;refine callsIn_of_wp_marks func111 rfl trivial ?_ rfl;simp only[ntmps111,List.size_toArray,Qj,List.length_nil,Nat.reduceAdd,Nat.reduceSub,Array.replicate_succ,Array.replicate_zero,List.push_toArray,List.append_toArray,List.nil_append,List.cons_append]
 gi_wp2
 refine⟨.tuple #[.slice none 0 0,.int .i64 4],?_,rfl,rfl⟩;simp[results,Tryz.f111,go_sem]
theorem xY (v:Value) (l:LI) (w:World) (h:Bs .u64 w v l) (hu:U64 l) (hl:l.length<=65536) (hT:Tab w) :
 Calls prog 111 #[v] w λe w'=>∃u,e=.returned (.tuple #[u,.int .i64 0])∧w'.ownsRow w.heap.size 5 1 u (pk11 l 3).length ((pk11 l 3).map (Value.int .u8))∧N0 w w':=by
 have HB:=Qa h;have HT:=Qa hT;obtain⟨ao,cap,rfl⟩:=h.len;obtain⟨m,hm⟩:=EX l.length;rw[<-hm] at HB;rw[<-hm];have HM:=Qa hm;have HL:=Qa hl;have d1:decide ((65536:Int)<(m:Int))=false:=Qh (by omega);have d1':decide (65536<m)=false:=Qh (by omega);have h0w:=hT.pos;clear h hm hT hl;refine (callsIn_wide (n:=5)).1 ?_;refine callsIn_of_wp_marks func111 rfl trivial ?_ rfl;simp only[ntmps111,List.size_toArray,Qj,List.length_nil,Nat.reduceAdd,Nat.reduceSub,Array.replicate_succ,Array.replicate_zero,List.push_toArray,List.append_toArray,List.nil_append,List.cons_append]
 gi_wp2_with fail
 refine⟨trivial,(Eb _ _ _ _ _).mono ?_⟩;rintro e w2 ⟨rfl,rfl⟩
 gi_wp2_with fail
 obtain⟨W0,h5⟩:∃W0,(w.alloc (.cells #[.slice none 0 0] 22)).alloc (.cells #[.slice ao m cap] 161)=W0:=⟨_,rfl⟩
 have o0:N0 w W0:=by rw[<-h5];exact ((Only.refl _ w).alloc _).alloc _
 have hsz:W0.heap.size=w.heap.size+1+1:=by rw[<-h5];simp
 have bX:Boxed W0 w.heap.size 22 (.slice none 0 0):=by rw[<-h5];exact (Boxed.new w 22 (.slice none 0 0)).alloc _
 have bV:Boxed W0 (w.heap.size+1) 161 (.slice ao m cap):=by
  rw[<-h5];have h:=Boxed.new (w.alloc (.cells #[.slice none 0 0] 22)) 161 (.slice ao m cap);rw[World.size_alloc] at h;exact h
 rw[h5];have HI0:In11 W0 w.heap.size w.heap.size l 0 W0:=⟨Only.refl _ _,_,bX,.inl ⟨rfl,rfl⟩⟩
 refine BP (gf:=182) (lb:=#[.pointer (some ⟨w.heap.size+1,0,none⟩)]) rfl (enters_of func182 (by kernel_rfl) rfl)
  (λx:Nat × Value=>#[.int .i64 x.1,x.2]) (λ_=>rfl) (In11 W0 w.heap.size w.heap.size l) (λs x s' A=>x.1=s∧s'=s+1∧s<=3∧(QG l s).2=0∧Bs .u8 A x.2 (QG l s).1∧NoCap x.2) 0 4
  (λs A B r hi hl o=>hi.loop hl o (by omega)) (λs A B hi o=>hi.past o) (λs x s' A B r hv hl o=>⟨hv.1,hv.2.1,hv.2.2.1,hv.2.2.2.1,hv.2.2.2.2.1.loop hl o,hv.2.2.2.2.2⟩) HI0
  ?hit (λx=>{ tmps:=#[.slice ao m cap,undef,.slice none 0 0,.int .i64 0,.pointer (some ⟨w.heap.size,0,none⟩),.int .i64 x.1,x.2,.slice ao m cap,.int .i64 m,.bool false,.slice ao m cap,
   .func (.func 182) #[] #[.pointer (some ⟨w.heap.size+1,0,none⟩)],.int .i64 x.1,x.2,undef,undef,undef,undef,undef,undef,undef,undef,undef,undef,undef,undef,undef,undef,undef,undef,undef],defers:=[] }) ?assign ?body ?done
 case hit =>
  intro J W hJ hJo hJs hY h0;refine IA 4 (W0.heap.size+1) (w.heap.size+1) (.slice ao m cap) l hu HL.o J (λs A hs=>?_) hJo (λs A h3 hs he=>hJs s (s+1) A hs ((hJ s A hs).skip he)) (λs u A h3 hs he hb hn=>hY s (s,u) (s+1) A hs ⟨rfl,rfl,h3,he,hb,hn⟩) W h0;have o:=(hJ s A hs).1;have o':N0 w A:=o0.trans o (λk hk e=>by omega);exact⟨QL bV o (by omega),HB.o.past o',HT.o.past o'⟩
 case assign =>
  intro x W K hK
  gi_wp2
  exact hK
 case body =>
  rintro s ⟨s',u⟩ s'' W hi ⟨rfl,rfl,h3,he,hb,hn⟩;simp only at hb hn h3 he;have HI:=Qa hi;obtain⟨o1,sv,bx,hd⟩:=hi;have hc:=bx.cell;have hf:=bx.frozen
  have hg:w.heap.size<=W.heap.size:=by have:=o1.size;omega
  obtain⟨au,cu,eu⟩:=hb.len;subst eu
  rcases hd with ⟨rfl,rfl⟩ | ⟨s,rfl,ho⟩
  ·have h9:∀W,(binOp .eql 22 (.slice none 0 0) (.slice none 0 0)).run prog W=.ok (.bool true) W:=λW=>by
    rw[Lib.run_eql_slice_nil W 22 5 none 0 0 0 0 underlying22];rfl
   obtain⟨Y,hY⟩:=EX ((QG l 0).1);rw[<-hY] at hb hn
   have ha:Hid (pk11 l 0=0 :: Y):=by simp only[Hid];rw[hY];rfl
   have HB':=Qa hb;have HN':=Qa hn;rw[<-hY];have CT:=Qa (PI W 0 (.slice au Y.length cu) Y hb hn (by rw[hY,<-GR HL.o 0 (by omega)];exact L6));have h6:=Qa bx;clear bx hb hn he h3 hY
   gi_wp2_with fail
   refine⟨trivial,(CallsIn.inRound _ (callsIn_wide.2 CT.o)).mono ?_⟩;rintro e w4 ⟨g,c,rfl,h1,o4⟩;have h4:=QL h6.o o4 (λf=>f);rw[<-ha.o] at h1;have h8:=Qa (HI.o.stored (by omega) o4 hg h1);have hc4:=h4.cell;have hf4:=h4.frozen;clear h1 o4 h4 CT h6 hc hf
   gi_wp2
   exact h8.o
  ·obtain⟨Y,hY⟩:=EX ((QG l (s+1)).1)
   rw[<-hY] at hb hn;have h2:(pk11 l s).length=(QY l s).2.length+1:=rfl;obtain⟨q,hq⟩:=EX ((QY l s).2.length);rw[h2,<-hq] at ho;obtain⟨g0,c0,esv⟩:=ownsRow_succ ho;subst esv
   have h9:∀W,(binOp .eql 22 (.slice (some ⟨g0,0,none⟩) (q+1) c0) (.slice none 0 0)).run prog W=.ok (.bool false) W:=λW=>by
    rw[Lib.run_eql_slice_nil W 22 5 (some ⟨g0,0,none⟩) (q+1) c0 0 0 underlying22];rfl
   have hYl:Y.length<=2000000:=by rw[hY,<-GR HL.o (s+1) h3];exact L6
   by_cases hcmp:Y.length<q
   ·have ha:Hid (pk11 l (s+1)=((s:Int)+1) :: Y):=by
     simp only[Hid];unfold pk11;rw[QY,if_pos ⟨he,by rw[<-hY,<-hq];exact hcmp⟩,<-hY]
     rfl
    have CT:=Qa (PI W ((s:Int)+1) (.slice au Y.length cu) Y hb hn hYl);rw[<-hY];have dd:decide ((1:Int)+(Y.length:Int)<((q+1:Nat):Int))=true:=Qc (by omega);have dd2:decide ((1:Int)+(Y.length:Int)<(q:Int)+1)=true:=Qc (by omega);have h6:=Qa bx;clear bx hb hn he hY h2 hq ho hcmp
    gi_wp2_with fail
    refine⟨trivial,(CallsIn.inRound _ (callsIn_wide.2 CT.o)).mono ?_⟩;rintro e w4 ⟨g,c,rfl,h1,o4⟩;have h4:=QL h6.o o4 (λf=>f);rw[<-ha.o] at h1;have h8:=Qa (HI.o.stored (by omega) o4 hg h1);have hc4:=h4.cell;have hf4:=h4.frozen;clear h1 o4 h4 CT h6 hc hf
    gi_wp2
    exact h8.o
   ·have HST:=Qa (HI.o.stays (by rw[<-hY,<-hq];exact hcmp))
    rw[<-hY];have dd:decide ((1:Int)+(Y.length:Int)<((q+1:Nat):Int))=false:=Qh (by omega);have dd2:decide ((1:Int)+(Y.length:Int)<(q:Int)+1)=false:=Qh (by omega);clear bx hb hn he hY h2 hq ho hcmp
    gi_wp2
    exact⟨Only.refl _ _,HST.o⟩
 case done =>
  intro W hi hD;obtain⟨o1,sv,bx,hd⟩:=hi;have hc:=bx.cell
  rcases hd with ⟨e,_⟩ | ⟨s,e,ho⟩
  ·cases e
  ·obtain rfl:s=3:=by omega
   clear e;have HO:=Qa ho;have h2:(pk11 l 3).length=(QY l 3).2.length+1:=rfl;rw[h2] at ho;obtain⟨g,h7,e2⟩:=ownsRow_succ ho;subst e2;clear h2 ho;have O1:=Qa o1;have HD:=Qa hD;clear o1 bx
   gi_wp2
   refine⟨by simp,.inl ⟨_,_,rfl,run_takeDeferred HD.o,?_⟩⟩;refine⟨.tuple #[.slice (some ⟨g,0,none⟩) ((QY l 3).2.length+1) h7,.int .i64 0],?_,_,rfl,ownsRow_putObj HO.o _ HD.o rfl,?_⟩
   ·simp[results,Tryz.f111,go_sem]
   ·exact (o0.trans O1.o (λk hk e=>by omega)).putObj _ _ (λhk=>by omega)
theorem Ny (v:Value) (l:LI) (w:World) (h:Bs .u64 w v l) (hu:U64 l) (hT:Tab w) :
 Calls prog 111 #[v] w λe w'=>∃u,e=.returned (.tuple #[u,.int .i64 (ENC11 l).2])∧w'.ownsRow w.heap.size 5 1 u (ENC11 l).1.length ((ENC11 l).1.map (Value.int .u8))∧N0 w w':=by
 by_cases hl:65536<l.length
 ·have e:ENC11 l=([],4):=if_pos hl
  rw[e];refine (EI v l w h hl).mono ?_;rintro e w' ⟨rfl,rfl⟩;exact⟨_,rfl,World.ownsRow_nil _ _ _ _,Only.refl _ _⟩
 ·rw[KL (by omega)]
  exact xY v l w h hu (by omega) hT
end
end Go.Proofs.YteciafpneamfaaaGreatDoor
