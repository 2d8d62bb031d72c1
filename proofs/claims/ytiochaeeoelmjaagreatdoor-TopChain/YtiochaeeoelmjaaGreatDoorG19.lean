import Derived.Test.YtiochaeeoelmjaaGreatDoorG18
import Derived.Deep.LoopGhost
namespace Go.Proofs.YtiochaeeoelmjaaGreatDoor
set_option maxHeartbeats 1600000
set_option maxRecDepth 100000
open Go.RowKit _root_.Go.Proofs.Tryz
variable {w w' W:World} {v:Value} {ys xs l:LI} {R n p k g B:Nat} {P:Program} {ls:List (LI)} {E:TypeId}
theorem kB (v k:Nat):((List.range (k+1)).map λi=>(numAt v (swi (v / 2^60)) i:Int))=((List.range k).map λi=>(numAt v (swi (v / 2^60)) i:Int))++[(numAt v (swi (v / 2^60)) k:Int)]:=by
 rw[List.range_succ,List.map_append];rfl
theorem yN (v q k:Nat) (hv:v<18446744073709551616) (hq:q<=60):bits .and .u64 ((v:Int) / 2^(60 - (k+1)*q)) (2^q - 1)=(numAt v q k:Int):=by
 have e1:((v:Int) / 2^(60 - (k+1)*q))=((v / 2^(60 - (k+1)*q):Nat):Int):=by simp
 have hp:=Nat.two_pow_pos q
 have e2:((2:Int)^q - 1)=((2^q - 1:Nat):Int):=by
  rw[<-Pp];omega
 have h60:2^q<=2^60:=Nat.pow_le_pow_right (by omega) hq
 have e60:(2:Nat)^60=1152921504606846976:=by decide
 have hd:=Nat.div_le_self v (2^(60 - (k+1)*q));rw[e1,e2,u64_and_nat _ _ (by omega) (by omega),Nat.and_two_pow_sub_one_eq_mod]
 rfl
theorem vg (lo:Nat) (u:Value) (acc:LI) (v:Nat) (w:World) (h0:w.ownsRow lo 29 1 u acc.length (acc.map (Value.int .u64))) (hlo:lo<=w.heap.size) (hv:v<18446744073709551616) (ha:acc.length<=70000) :
 Calls prog 287 #[u,.int .u64 v] w λe w'=>∃u',e=.returned u'∧w'.ownsRow lo 29 1 u' (acc++nms v).length ((acc++nms v).map (Value.int .u64))∧Only (λk=>lo<=k) w w':=by
 obtain⟨i0,hi,hz0,hz1,hz2⟩:=info_parts Tryz.infoU64;have hs:=Gt hv;obtain⟨g1,g2,g3,g4,_⟩:=Ub _ hs
 have h3:(2:Int)^60=1152921504606846976:=by decide
 have RM:Hid (Calls prog 176 #[.int .i64 ((v:Int) / 1152921504606846976)] w λe w'=>e=.returned (.tuple #[.int .i64 (cn (v / 2^60)),.int .i64 (swi (v / 2^60))])∧N0 w w'):=by
  have:=T9 (v / 2^60) w hs
  have e:((v / 2^60:Nat):Int)=(v:Int) / 1152921504606846976:=by rw[<-h3];simp
  rw[e] at this;exact this
 have NU:Hid (nms v=((List.range (cn (v / 2^60))).map λi=>(numAt v (swi (v / 2^60)) i:Int))):=rfl;have SN:Hid (∀k,((List.range (k+1)).map λi=>(numAt v (swi (v / 2^60)) i:Int))=((List.range k).map λi=>(numAt v (swi (v / 2^60)) i:Int))++[(numAt v (swi (v / 2^60)) k:Int)]):=kB v;generalize swi (v / 2^60)=q at *;generalize cn (v / 2^60)=c at *
 have AN:Hid (∀k,bits .and .u64 ((v:Int) / 2^(60 - (k+1)*q)) (2^q - 1)=(numAt v q k:Int)):=λk=>yN v q k hv g3
 have v0:(0:Int)<=(v:Int):=by omega
 have v1:(v:Int)<=18446744073709551615:=by omega
 have q1:(q:Int)<=60:=by omega
 have h2:=Qa h0;have t0:(1:Int)<=2^q:=J9 (Nat.zero_le q)
 have t1:(2:Int)^q<=1152921504606846976:=by rw[<-h3];exact J9 g3
 clear h0 hs h3;go_enter func287,ntmps287;go_wp2_with fail;refine RM.o.mono ?_;rintro e w1 ⟨rfl,o1⟩;have O1:=Qa o1;have h5:=Qa (o1.own h2.o (λ_ _ f=>f));clear o1 RM h2;go_wp2
 go_loopw [0,20] (λo i wr=>∃k:Nat,k<=c∧i=.int .i64 k∧wr.ownsRow lo 29 1 o (acc.length+k) ((acc++(List.range k).map λi=>(numAt v q i:Int)).map (Value.int .u64))∧Only (λk=>lo<=k) w wr) (λ_ i _=>c - (intOf i).toNat)
 case atStart=>exact⟨0,Nat.zero_le _,rfl,by simpa using h5.o,O1.o.mono (λ_ _ f=>f.elim)⟩
 case round =>
  obtain⟨k,hk,rfl,h0,h1⟩:=hrel;clear h5 O1
  by_cases hlt:k<c
  ·have pk:(k+1)*q<=60:=Nat.le_trans (Nat.mul_le_mul_right q (by omega)) g4
   have p0:(0:Int)<=((k:Int)+1)*(q:Int):=by rw[show ((k:Int)+1)=((k+1:Nat):Int) by simp,<-Int.natCast_mul];omega
   have p1:((k:Int)+1)*(q:Int)<=60:=by rw[show ((k:Int)+1)=((k+1:Nat):Int) by simp,<-Int.natCast_mul];omega
   have A1:=AN.o k;have S1:=Qa (SN.o k);have hsz:=h1.size;have hN:=Qa h1;generalize numAt v q k=x at A1 S1;clear hk h1;go_wp2_with (at_builtin;refine wpList_append_lies _ rfl _ _ _ rfl lo 29 i0 (.int .u64 0) 1 8 underlying76 hi hz0 hz1 hz2 rfl (by omega) _ (acc.length+k) _ rfl (h0.alloc _) ⟨wr.heap.size,0,none⟩ 1 1 [.int .u64 x] rfl rfl ?c1 ?c2 (by omega) ?c3 ?c4 ?c5 (wr.heap.size+1) (by simp) ?_)
   case c1=>exact cell_one_new _ _ _
   case c2=>intro u hu;simp at hu;subst hu;rfl
   case c3=>unfold maxLen;omega
   case c4=>omega
   case c5=>simp;omega
   intro g cap1 w3 hown1 hgrow hat hg1;have o3:=Qa ((hN.o.alloc _).grown hgrow (λp _ hp=>(h0.lt p hp).1))
   have h4:Hid (w3.ownsRow lo 29 1 (.slice (some ⟨g,0,none⟩) (acc.length+k+1) cap1) (acc.length+(k+1)) ((acc++(List.range (k+1)).map λi=>(numAt v q i:Int)).map (Value.int .u64))):=by
    simp only[Hid];rw[S1.o,<-Nat.add_assoc];simpa using hown1
   clear h0 hown1 hgrow hat hN;go_wp2
   go_roundw
   case rel=>exact⟨k+1,by omega,by go_num,h4.o,o3.o⟩
   case measure=>simp[intOf];omega
  ·have hkc:k=c:=by omega
   subst hkc
   have F:Hid (wr.ownsRow lo 29 1 u0 (acc++nms v).length ((acc++nms v).map (Value.int .u64))∧Only (λk=>lo<=k) w wr):=by
    simp only[Hid];rw[NU.o];exact⟨by simpa using h0,h1⟩
   clear h0 h1;go_wp2;go_ret;exact⟨_,rfl,F.o⟩
theorem Am (h:ys.length<8):QW 8 ys=(0,0,2):=by
 unfold QW;rw[if_neg (by omega),if_pos (by omega)]
theorem SR (h:8<=ys.length):QW 8 ys=((num (ys.take 8):Int),8,0):=by
 unfold QW;rw[if_neg (by omega),if_neg (by omega)]
 rfl
def lenS:Value->Nat | .slice _ n _=>n | _=>0
theorem Io (h:CurAt 146 w R v ys) (hvb:∀k,v.ownBlock=some k->k<w.heap.size) (n:Nat) (hn:n<=65536) :
 Calls prog 277 #[.pointer (some ⟨R,0,none⟩),.int .i64 n] w λe w'=>∃u,e=.returned (.tuple #[u,.int .i64 (rdA n ys).2.2])∧w'.ownsRow w.heap.size 29 1 u (rdA n ys).1.length ((rdA n ys).1.map (Value.int .u64))∧Only (λk=>k=R) w w':=by
 have hR:R<w.heap.size:=(Array.getElem?_eq_some_iff.1 h.cell).1;have HC:=Qa h;have HVB:=Qa hvb;clear h hvb;go_enter func277,ntmps277;go_wp2
 go_loopw [6] (λl wr=>∃(f:Nat) (acc h1:LI) (v':Value),wr.ownsRow w.heap.size 29 1 l acc.length (acc.map (Value.int .u64))∧CurAt 146 wr R v' h1∧v'.ownBlock=v.ownBlock∧h1.length<f∧rdF f n acc h1=rdA n ys∧acc.length<n+240∧Only (λk=>k=R) w wr) (λl _=>n - lenS l)
 case atStart=>exact⟨ys.length+1,[],ys,v,Xh,HC.o,rfl,by omega,rfl,by simp,VG⟩
 case round =>
  obtain⟨f,acc,h1,v',h2,h3,he,hf,h7,hacc,hb⟩:=hrel;clear HC;obtain⟨a6,c6,e6⟩:=(Bs.of_own h2).len;subst e6;have h0:=Qa h2;have hd:=Qa hb;have ho:=Qa he
  by_cases hlt:acc.length<n
  ·have d0:decide ((acc.length:Int)<(n:Int))=true:=by simp;omega
   have FX:=Qa (KG h3 8)
   by_cases hs:h1.length<8
   ·rw[Am hs] at FX
    have HR:Hid (rdA n ys=([],h1,2)):=by simp only[Hid];rw[<-h7,Ss hlt hs (by omega)]
    clear h2 h3 he h7 hb;generalize acc.length=m at *;go_wp2_with fail;refine FX.o.mono ?_;rintro e w2 ⟨rfl,v2,_,_,o2⟩;have O2:=Qa (hd.o.trans o2 (λ_ _ e=>e));clear FX o2 h0;go_wp2;go_ret2;rw[HR.o];exact⟨_,rfl,Xh,O2.o⟩
   ·rw[SR (by omega)] at FX
    have hv:=Ai h3.rng;have h5:=JR hlt (by omega) hf;have hg:Hid (rdF (f - 1) n (acc++nms (num (h1.take 8))) (h1.drop 8)=rdA n ys∧(h1.drop 8).length<f - 1):=⟨by rw[<-h7,h5.1],h5.2⟩
    have h9:Hid ((acc++nms (num (h1.take 8))).length<n+240∧acc.length<(acc++nms (num (h1.take 8))).length):=by
     have h4:=Ub _ (Gt hv);simp only[Hid];rw[Qb,SX];omega
    have HV:=Qa hv;obtain⟨x,hx⟩:=EX (num (h1.take 8));rw[<-hx] at FX hg h9 HV;obtain⟨m,hm⟩:=EX acc.length;rw[<-hm] at h0 d0 h9 hlt ⊢;have HM:=Qa hm;obtain⟨z,hz⟩:=EX (acc++nms x);rw[<-hz] at hg h9;have HZ:=Qa hz;clear hz;clear h2 h3 he h7 hb h5 hx hv hm;go_wp2_with fail;refine FX.o.mono ?_;rintro e w2 ⟨rfl,v2,ha,hl,o2⟩;have O2:=Qa (hd.o.trans o2 (λ_ _ e=>e))
    have hp:Hid (w2.ownsRow w.heap.size 29 1 (.slice a6 acc.length c6) acc.length (acc.map (Value.int .u64))):=by
     simp only[Hid];rw[<-HM.o];exact o2.own h0.o (λk hk e=>by have:=(h0.o.lt k hk).1;omega)
    have h8:=Qa ha;have hh:=Qa (hl.trans ho.o);have AP:=Qa (vg w.heap.size _ acc x w2 hp.o O2.o.size HV.o (by omega));rw[<-HM.o,<-HZ.o] at AP;clear FX o2 h0 hd ho ha hl hp;go_wp2_with fail;refine AP.o.mono ?_;rintro e w3 ⟨u3,rfl,h6,o3⟩
    have F:Hid (CurAt 146 w3 R v2 (h1.drop 8)∧v2.ownBlock=v.ownBlock∧Only (λk=>k=R) w w3) :=
     ⟨h8.o.keep o3 (by omega) (λk hk e=>by have:=HVB.o k (by rw[<-hh.o];exact hk);omega),hh.o,O2.o.trans o3 (λk hk e=>by omega)⟩
    have hj:=Qa h6;obtain⟨a7,c7,e7⟩:=(Bs.of_own h6).len;subst e7;clear AP h6 o3 O2 h8 hh;go_wp2
    go_roundw
    case rel=>exact⟨f - 1,_,h1.drop 8,v2,hj.o,F.o.1,F.o.2.1,hg.o.2,hg.o.1,h9.o.1,F.o.2.2⟩
    case measure=>have:=h9.o;simp only[lenS];omega
  ·have d0:decide ((acc.length:Int)<(n:Int))=false:=Qi (by omega)
   have HR:Hid (rdA n ys=(acc,h1,0)):=by simp only[Hid];rw[<-h7,Gh (by omega)]
   clear h2 h3 he h7 hb;obtain⟨m,hm⟩:=EX acc.length;rw[<-hm] at h0 d0 hlt ⊢;have HM:=Qa hm;clear hm;go_wp2;go_ret2;rw[HR.o];exact⟨_,rfl,by rw[<-HM.o];exact h0.o,hd.o⟩
theorem vD (v:Value) (n:Int) (w:World) (h:n<0∨65536<n) :
 Calls prog 267 #[v,.int .i64 n] w λe w'=>e=.returned (.tuple #[.slice none 0 0,.int .i64 1])∧w=w':=by
 by_cases h0:n<0
 ·have d0:decide (n<0)=true:=Qe h0
  clear h;go_enter func267,ntmps267;go_wp2;go_ret2;exact⟨rfl,rfl⟩
 ·have d0:decide (n<0)=false:=Qi h0
  have d1:decide (65536<n)=true:=Qe (by omega);clear h;go_enter func267,ntmps267;go_wp2;go_ret2;exact⟨rfl,rfl⟩
theorem g9 (v:Value) (ys:LI) (n:Nat) (w:World) (h:Bs .u8 w v ys) (hr:∀y∈ys,0<=y∧y<=255) (hl:ys.length<=1000000000000) (hn:n<=65536) :
 Calls prog 267 #[v,.int .i64 n] w λe w'=>∃u,e=.returned (.tuple #[u,.int .i64 (dec ys n).2])∧w'.ownsRow w.heap.size 29 1 u (dec ys n).1.length ((dec ys n).1.map (Value.int .u64))∧N0 w w':=by
 have d0:decide ((n:Int)<0)=false:=by simp
 have d1:decide (65536<(n:Int))=false:=by simp;omega
 have NW:=Qa (Uu v ys w h hr hl);have HB:=Qa h;have HR:=Qa hr;have RF:=Qa (Mt (n:=n) hr);clear h hr;go_enter func267,ntmps267;go_wp2_with fail;refine NW.o.mono ?_;rintro e w1 ⟨R,v1,rfl,hb,o1,r0,r1,h9⟩;have RD:=Qa (Io hb (λk hk=>(h9 k hk).2) n hn);have h4:=Qa (Vz r0 o1.size);have O1:=Qa o1;clear NW hb o1 h9 r0 r1;go_wp2_with fail;refine RD.o.mono ?_;rintro e w2 ⟨u,rfl,h5,o2⟩;have O2:=Qa (O1.o.trans o2 (λk hk e=>absurd h4.o.1 (by omega)));have h1:=Qa (Qr h5 h4.o.2);clear RD h5 o2 O1
 rcases RF.o with ⟨f1,f2⟩ | ⟨f1,f2,f3,f4⟩
 ·have HD:Hid (dec ys n=([],2)):=by simp only[Hid,dec];rw[if_pos (by rw[f1];decide)]
  rw[f1];clear f1 f2 h1 RF h4;obtain⟨x2,h2⟩:∃x2:Int,x2=2:=⟨_,rfl⟩;go_wp2;go_ret2;rw[HD.o];exact⟨_,rfl,Xh,O2.o⟩
 ·have HF0:=Qa f1
  rw[f1];obtain⟨l,h3⟩:=EX ((rdA n ys).1);rw[<-h3] at h1 f2 f3 f4;have HL2:=Qa h3;have h7:=Bs.of_own h1.o;obtain⟨a2,c2,e2⟩:=h7.len;subst e2
  by_cases hgt:n<l.length
  ·have HD:Hid (dec ys n=([],3)):=by simp only[Hid,dec];rw[if_neg (by rw[f1];decide),<-h3,if_pos hgt]
   clear f1 f2 RF h4 h7 h3 h1;generalize l.length=m at *;have dm:decide (n<m)=true:=Qe hgt;go_wp2;go_ret2;rw[HD.o];exact⟨_,rfl,Xh,O2.o⟩
  ·have h8:l.length=n:=by omega
   have EN:=Qa (NF _ l w2 h7 f2 (by omega));have HER:=Qa (Se l.length l rfl f2);have HB2:=Qa (HB.o.keep O2.o (λ_ _ f=>f))
   have h6:Hid (dec ys n=if enc l=ys then (l,0) else ([],3)):=by simp only[Hid,dec];rw[if_neg (by rw[f1];decide),<-h3,if_neg hgt]
   have HSZ:=Qa O2.o.size;rw[h8] at EN h1 ⊢;have HLN:=Qa h8
   have dn:decide (n<n)=false:=by simp
   clear f1 f2 f3 f4 RF h4 h7 h3 hgt h8;go_wp2_with fail;refine EN.o.mono ?_;rintro e w3 ⟨u3,rfl,h0,o3⟩;have EQ:=Qa (U1 u3 v (enc l) ys w3 (Bs.of_own h0) (HB2.o.keep o3 (λ_ _ f=>f)) HER.o HR.o);have O3:=Qa (O2.o.trans o3 (λ_ _ f=>f));have OW3:=Qa (o3.own h1.o (λ_ _ f=>f));obtain⟨a3,c3,e3⟩:=(Bs.of_own h0).len;subst e3;obtain⟨m3,ha⟩:=EX ((enc l).length);rw[<-ha] at EQ ⊢;clear EN h0 o3 h1 O2 ha
   by_cases he:enc l=ys
   ·rw[if_pos he] at h6
    rw[Qe he] at EQ;clear he;go_wp2_with fail;refine EQ.o.mono ?_;rintro e w4 ⟨rfl,rfl⟩;clear EQ;go_wp2;go_ret2;rw[h6.o];exact⟨_,rfl,by rw[HLN.o];exact OW3.o,O3.o⟩
   ·rw[if_neg he] at h6
    rw[Qi he] at EQ;clear he;go_wp2_with fail;refine EQ.o.mono ?_;rintro e w4 ⟨rfl,rfl⟩;clear EQ;go_wp2;go_ret2;rw[h6.o];exact⟨_,rfl,Xh,O3.o⟩
theorem IR (va vb:Value) (xs:LI) (w:World) (ha:Bs .u8 w va xs) (hb:Bs .u8 w vb xs) (hl:xs.length<=140737488355328) :
 Calls prog 31 #[va,vb] w λe w'=>e=.returned (.bool true)∧N0 w w':=by
 obtain⟨aoa,ca,rfl,hca,h5⟩:=ha;obtain⟨aob,cb,rfl,hcb,h6⟩:=hb
 have hbn:((xs.length:Int) != (xs.length:Int))=false:=by simp
 by_cases hx:xs=[]
 ·subst hx
  clear h5 h6;simp only[List.length_nil];go_enter func31,ntmps31;go_wp2
  go_loop [5] (λi=>i=.int .i64 0) (λ_=>0)
  case atStart=>rfl
  case round =>
   subst hrel;go_wp2;go_ret;exact⟨rfl,VG⟩
 ·obtain⟨ba,oa,rfl,h3⟩:=h5 hx
  obtain⟨bb,ob,rfl,h0⟩:=h6 hx;clear h5 h6 hx;obtain⟨n,hn⟩:=EX xs.length;rw[<-hn] at hbn hca hcb h3 h0 hl ⊢;have HA:Hid (∀j,j<n->w.cell? ⟨ba,oa+j,none⟩=some (.int .u8 (xs.getD j 0))):=h3;have HB:Hid (∀j,j<n->w.cell? ⟨bb,ob+j,none⟩=some (.int .u8 (xs.getD j 0))):=h0;clear h3 h0 hn;go_enter func31,ntmps31;go_wp2
  go_loopw [5] (λi wr=>∃k:Nat,k<=n∧i=.int .i64 k∧N0 w wr) (λi _=>n - (intOf i).toNat)
  case atStart=>exact⟨0,Nat.zero_le _,rfl,VG⟩
  case round =>
   obtain⟨k,hk,rfl,h4⟩:=hrel
   by_cases hlt:k<n
   ·obtain⟨y,hy⟩:=EX (xs.getD k 0)
    have h1:wr.cell? ⟨ba,oa+k,none⟩=some (.int .u8 y):=by
     have:=HA.o k hlt;rw[World.cell?_of_block (h4.block ba (World.block_lt_of_cell? w _ this) (λf=>f)),hy];exact this
    have h2:wr.cell? ⟨bb,ob+k,none⟩=some (.int .u8 y):=by
     have:=HB.o k hlt;rw[World.cell?_of_block (h4.block bb (World.block_lt_of_cell? w _ this) (λf=>f)),hy];exact this
    have i0:(0:Int)<=(k:Int):=by omega
    have i1:(k:Int)<(n:Int):=by omega
    have hy1:(y != y)=false:=by simp
    clear hy;go_wp2;go_quiet (fail);go_wp2
    go_roundw
    case rel=>exact⟨k+1,by omega,by go_num,h4.drewN nq⟩
    case measure=>simp[intOf];omega
   ·go_wp2
    go_ret;exact⟨rfl,h4⟩
theorem gK (va vb:Value) (xs ys:LI) (w:World) (ha:Bs .u8 w va xs) (hb:Bs .u8 w vb ys) (h:xs.length≠ys.length) :
 Calls prog 31 #[va,vb] w λe w'=>e=.returned (.bool false)∧N0 w w':=by
 obtain⟨aoa,ca,rfl⟩:=ha.len;obtain⟨aob,cb,rfl⟩:=hb.len
 have hbn:((xs.length:Int) != (ys.length:Int))=true:=by simp;omega
 clear ha hb h;generalize xs.length=n at *;generalize ys.length=m at *;go_enter func31,ntmps31;go_wp2;go_ret;exact⟨rfl,VG⟩
theorem BQ (va vb:Value) (xs ys:LI) (w:World) (ha:Bs .u8 w va xs) (hb:Bs .u8 w vb ys) (hlen:ys.length=xs.length) (hl:xs.length<=140737488355328) (hne:xs≠ys) :
 Calls prog 31 #[va,vb] w λe w'=>e=.returned (.bool false)∧N0 w w':=by
 obtain⟨aoa,ca,rfl,hca,h9⟩:=ha;obtain⟨aob,cb,rfl,h8,hd⟩:=hb
 have hx:xs≠[]:=by
  intro h0;subst h0;exact hne (List.eq_nil_of_length_eq_zero hlen).symm
 have hy:ys≠[]:=by
  intro h0;subst h0;exact hx (List.eq_nil_of_length_eq_zero hlen.symm)
 obtain⟨ba,oa,rfl,h4⟩:=h9 hx;obtain⟨bb,ob,rfl,h3⟩:=hd hy
 have HD:Hid (¬∀j,j<xs.length->xs.getD j 0=ys.getD j 0):=by
  intro h
  apply hne
  apply List.ext_getElem hlen.symm
  intro i h1 h2;have:=h i h1;rw[Qc,Qc,Qh h1,Qh h2] at this;exact this
 rw[hlen] at h8 h3 ⊢
 have hbn:((xs.length:Int) != (xs.length:Int))=false:=by simp
 clear h9 hd hx hy hne hlen;obtain⟨n,hn⟩:=EX xs.length;rw[<-hn] at hbn hca h8 h4 h3 hl HD ⊢;have HA:Hid (∀j,j<n->w.cell? ⟨ba,oa+j,none⟩=some (.int .u8 (xs.getD j 0))):=h4;have HB:Hid (∀j,j<n->w.cell? ⟨bb,ob+j,none⟩=some (.int .u8 (ys.getD j 0))):=h3;clear h4 h3 hn;go_enter func31,ntmps31;go_wp2
 go_loopw [5] (λi wr=>∃k:Nat,k<=n∧i=.int .i64 k∧N0 w wr∧∀j,j<k->xs.getD j 0=ys.getD j 0) (λi _=>n - (intOf i).toNat)
 case atStart=>exact⟨0,Nat.zero_le _,rfl,VG,λj hj=>absurd hj (by omega)⟩
 case round =>
  obtain⟨k,hk,rfl,h7,h6⟩:=hrel;have h5:=Qa h6;clear h6
  by_cases hlt:k<n
  ·obtain⟨y,hy⟩:=EX (xs.getD k 0)
   obtain⟨z,hz⟩:=EX (ys.getD k 0)
   have h1:wr.cell? ⟨ba,oa+k,none⟩=some (.int .u8 y):=by
    have:=HA.o k hlt;rw[World.cell?_of_block (h7.block ba (World.block_lt_of_cell? w _ this) (λf=>f)),hy];exact this
   have h2:wr.cell? ⟨bb,ob+k,none⟩=some (.int .u8 z):=by
    have:=HB.o k hlt;rw[World.cell?_of_block (h7.block bb (World.block_lt_of_cell? w _ this) (λf=>f)),hz];exact this
   have i0:(0:Int)<=(k:Int):=by omega
   have i1:(k:Int)<(n:Int):=by omega
   by_cases hyz:y=z
   ·have HE:=Qa (show xs.getD k 0=ys.getD k 0 by rw[<-hy,<-hz];exact hyz)
    subst hyz
    have hy1:(y != y)=false:=by simp
    clear hy hz;go_wp2;go_quiet (fail);go_wp2
    go_roundw
    case rel=>exact⟨k+1,by omega,by go_num,h7.drewN nq,λj hj=>by
     rcases Nat.lt_or_ge j k with h | h
     ·exact h5.o j h
     ·rw[show j=k by omega];exact HE.o⟩
    case measure=>simp[intOf];omega
   ·have hy1:(y != z)=true:=by simpa using hyz
    clear hy hz hyz;go_wp2;go_quiet (fail);go_wp2;go_ret;exact⟨rfl,h7.drewN nq⟩
  ·exact absurd (λj hj=>h5.o j (by omega)) HD.o
theorem tE (va vb:Value) (xs ys:LI) (w:World) (ha:Bs .u8 w va xs) (hb:Bs .u8 w vb ys) (hl:xs.length<=140737488355328) :
 Calls prog 31 #[va,vb] w λe w'=>e=.returned (.bool (decide (xs=ys)))∧N0 w w':=by
 by_cases h:xs=ys
 ·subst h
  rw[Qe rfl];exact IR va vb xs w ha hb hl
 ·rw[Qi h]
  by_cases hlen:ys.length=xs.length
  ·exact BQ va vb xs ys w ha hb hlen hl h
  ·exact gK va vb xs ys w ha hb (λe=>hlen e.symm)
def Uj (xs:LI):LI × Int:=if 65536<xs.length then ([],4) else if small 60 xs=true then (enc xs,0) else ([],1)
def U4 (ys:LI) (n:Int):LI × Int:=if n<0∨65536<n then ([],1) else dec ys n.toNat
theorem jE (v:Value) (xs:LI) (w:World) (h:Bs .u64 w v xs) (hu:U64 xs) :
 Calls prog 130 #[v] w λe w'=>∃v',e=.returned (.tuple #[v',.int .i64 (Uj xs).2])∧w'.ownsRow w.heap.size 5 1 v' (Uj xs).1.length ((Uj xs).1.map (Value.int .u8))∧N0 w w':=by
 unfold Uj
 by_cases hl:65536<xs.length
 ·rw[if_pos hl]
  refine (qM v xs w h hl).mono ?_;rintro e w' ⟨rfl,rfl⟩;exact⟨_,rfl,Xh,VG⟩
 ·rw[if_neg hl]
  by_cases hs:small 60 xs=true
  ·rw[if_pos hs]
   exact NF v xs w h (JL hs (λx hx=>(hu x hx).1)) (by omega)
  ·rw[if_neg hs]
   refine (jH v xs w h hu (by omega) (by simpa using hs)).mono ?_;rintro e w' ⟨rfl,rfl⟩;exact⟨_,rfl,Xh,VG⟩
theorem pg (v:Value) (ys:LI) (n:Int) (w:World) (h:Bs .u8 w v ys) (hr:∀y∈ys,0<=y∧y<=255) (hl:ys.length<=1000000000000) :
 Calls prog 267 #[v,.int .i64 n] w λe w'=>∃u,e=.returned (.tuple #[u,.int .i64 (U4 ys n).2])∧w'.ownsRow w.heap.size 29 1 u (U4 ys n).1.length ((U4 ys n).1.map (Value.int .u64))∧N0 w w':=by
 unfold U4
 by_cases hn:n<0∨65536<n
 ·rw[if_pos hn]
  refine (vD v n w hn).mono ?_;rintro e w' ⟨rfl,rfl⟩;exact⟨_,rfl,Xh,VG⟩
 ·rw[if_neg hn]
  obtain⟨m,rfl⟩:=Int.eq_ofNat_of_zero_le (show 0<=n by omega);exact g9 v ys m w h hr hl (by omega)
theorem Gu (h0:∀x∈xs,0<=x) (h:(Uj xs).2=0):Uj xs=(enc xs,0)∧Up 60 xs∧xs.length<=65536:=by
 unfold Uj at *
 by_cases hl:65536<xs.length
 ·rw[if_pos hl] at h;cases h
 ·rw[if_neg hl] at h ⊢
  by_cases hs:small 60 xs=true
  ·rw[if_pos hs];exact⟨rfl,JL hs h0,by omega⟩
  ·rw[if_neg hs] at h;cases h
theorem IQ (h0:∀x∈xs,0<=x):(Uj xs).1.length<=600000:=by
 by_cases h:(Uj xs).2=0
 ·obtain⟨e,hu,hl⟩:=Gu h0 h
  rw[e];have:=(N5 xs.length xs rfl hu).2.1;simp only;omega
 ·unfold Uj at *
  by_cases hl:65536<xs.length
  ·rw[if_pos hl];decide
  ·rw[if_neg hl] at h ⊢
   by_cases hs:small 60 xs=true
   ·rw[if_pos hs] at h;exact absurd rfl h
   ·rw[if_neg hs];decide
theorem Nr {n:Int} (hr:∀y∈ys,0<=y∧y<=255) :
 (∃c,U4 ys n=([],c)∧c≠0)∨(∃l,U4 ys n=(l,0)∧Up 60 l∧(l.length:Int)=n∧l.length<=65536∧enc l=ys):=by
 unfold U4
 by_cases hn:n<0∨65536<n
 ·rw[if_pos hn];exact .inl ⟨1,rfl,by decide⟩
 ·rw[if_neg hn]
  rcases ID (n:=n.toNat) hr with ⟨c,h1,h2⟩ | ⟨l,h1,h2,h3,h4⟩
  ·exact .inl ⟨c,h1,by omega⟩
  ·exact .inr ⟨l,h1,h2,by omega,by omega,h4⟩
theorem xO (ys:LI) (n:Nat) (h:n<=65536):U4 ys n=dec ys n:=by
 unfold U4;rw[if_neg (by omega)]
 rfl
theorem L5 (v:Int) (c:Nat) (w:World) (h0:0<=v) (h1:v<=18446744073709551615) (c0:1<=c) (c1:c<=65536) :
 Calls prog 178 #[.int .u64 v,.int .i64 c] w λe w'=>∃v',e=.returned v'∧w'.ownsRow w.heap.size 5 1 v' (gs v.toNat++gs (c - 1)).length ((gs v.toNat++gs (c - 1)).map (Value.int .u8))∧N0 w w':=by
 have A:=Qa (UO (.slice none 0 0) [] v w (Bs.nil _ _) NoCap.nil (by simp) h0 h1);have H10:=Qa (Yu (v:=v.toNat) (by omega));obtain⟨m,rfl⟩:∃m,c=m+1:=⟨c - 1,by omega⟩;rw[Nat.add_sub_cancel]
 have em:((m+1:Nat):Int) - 1=(m:Int):=by omega
 go_enter func178,ntmps178;go_wp2_with fail;refine A.o.mono ?_;rintro e w1 ⟨v1,rfl,h2,o1⟩;rw[List.nil_append] at h2;have B:=Qa (UO v1 (gs v.toNat) m w1 (Bs.of_own h2) (NoCap.of_own h2) (by have:=H10.o;omega) (by omega) (by omega));have O1:=Qa o1;clear A h2 o1;go_wp2_with fail;refine B.o.mono ?_;rintro e w2 ⟨v2,rfl,h3,o2⟩;rw[Int.toNat_natCast] at h3;have F:=Qa (Vz (Qr h3 O1.o.size) (O1.o.trans o2 (λ_ _ f=>f)));clear B h3 o2;go_wp2;go_ret;exact⟨_,rfl,F.o⟩
theorem Ob (v:Value) (xs:LI) (w:World) (h:Bs .u64 w v xs) (hu:U64 xs) (hl:xs.length<=65536) :
 Calls prog 131 #[v] w λe w'=>∃v',e=.returned (.tuple #[v',.int .i64 0])∧w'.ownsRow w.heap.size 5 1 v' (runE xs).length ((runE xs).map (Value.int .u8))∧N0 w w':=by
 obtain⟨i0,hi,ho,hz,ht⟩:=info_parts Tryz.infoU8;have HB:=Qa h;have HU:=Qa hu;have ha:=Qa (Ac xs hu (by omega));obtain⟨ao,cap,rfl⟩:=h.len;obtain⟨n,hn⟩:=EX xs.length;rw[<-hn] at hl HB ha;rw[<-hn];have HN:=Qa hn;have d0:decide ((65536:Int)<n)=false:=Qi (by omega);clear h hu hn;go_enter func131,ntmps131;go_wp2
 go_step3
 go_wp2
 go_step3
 go_wp2
 go_loopg [0,4] n (λg s0 s4 wx=>∃(ls o:LI),Hid (ls.length=g)∧g<=n∧Bs .u64 w s0 ls∧Hid (o++runE ls=runE xs)∧U64 ls∧wx.ownsRow w.heap.size 5 1 s4 o.length (o.map (Value.int .u8))∧N0 w wx)
 case atStart=>exact⟨xs,[],HN.o.symm,Zu,HB.o,rfl,HU.o,Xh,VG⟩
 case round =>
  obtain⟨ls,o,HL,hgn,hd,HO,hv,h8,hm⟩:=hrel;obtain⟨W,hW⟩:=EX wr;subst hW;have hb:=Qa hd;obtain⟨al,cl,el⟩:=hd.len;rw[HL.o] at el;subst el;have hr:=Qa hv;have h4:=Qa h8;have h6:=Qa hm
  have h9:Hid (o.length<=2000000):=by
   have:=congrArg List.length HO.o;have:=ha.o;rw[Qb] at *;simp only[Hid];omega
  clear hd hv h8 hm HB HU;obtain⟨G,hG⟩:=EX gk;subst hG
  by_cases hg0:G=0
  ·subst hg0
   have d1:decide ((0:Int)<((0:Nat):Int))=false:=by simp
   have F:Hid (W.ownsRow w.heap.size 5 1 u4 (runE xs).length ((runE xs).map (Value.int .u8))):=by
    have e:ls=[]:=List.eq_nil_of_length_eq_zero HL.o;have:=HO.o;rw[e,runE,List.append_nil] at this;simp only[Hid];rw[<-this];exact h4.o
   go_wp2
   try rw[Exit.noGoto_ret]
   go_ret2;exact⟨_,rfl,F.o,h6.o⟩
  ·have d1:decide ((0:Int)<(G:Int))=true:=Qe (by omega)
   obtain⟨b,off,cap',e1,hp⟩:=(hb.o.past h6.o).at 0 (by rw[HL.o];omega)
   have ea:al=some ⟨b,off,none⟩:=by simp at e1;exact e1.1
   subst ea;clear e1;rw[Nat.add_zero] at hp;have h7:=hr.o (ls.getD 0 0) (Jk ls 0 (by rw[HL.o];omega));obtain⟨x0,hx⟩:=EX (ls.getD 0 0);rw[<-hx] at hp h7;have HX:=Qa hx;clear hx;go_wp2;obtain⟨O4,hO4⟩:=EX u4;subst hO4
   go_loopg [0,4,15] G (λg2 s0 s4 s15 wy=>∃j:Nat,j+g2=G∧s0=.slice (some ⟨b,off,none⟩) G cl∧s4=O4∧s15=.int .i64 j∧Hid (∀i,i<j->ls.getD i 0=x0)∧W=wy)
   case atStart=>exact⟨0,by omega,rfl,rfl,rfl,(λi hi=>by omega),rfl⟩
   case round =>
    obtain⟨j,hj,rfl,rfl,rfl,HJ,hw⟩:=hrel;subst hw
    cases gk with
    | zero =>
     obtain rfl:j=G:=by omega
     have R:=Qa (L5 x0 j W h7.1 h7.2 (by omega) (by omega))
     have HE:Hid (runE ls=gs x0.toNat++gs (j - 1)):=by
      simp only[Hid];rw[HX.o,<-HL.o];exact lq (by rw[HL.o];omega) (λi hi=>by rw[<-HX.o];exact HJ.o i (by rw[<-HL.o];exact hi))
     go_wp2_with fail;refine R.o.mono ?_;rintro e w2 ⟨v2,rfl,h0,o2⟩;have B2:=Qa (Bs.of_own h0);have N2:=Qa (NoCap.of_own h0);have O2:=Qa (h6.o.same o2);have h3:=Qa (o2.own h4.o (λ_ _ f=>f));rw[<-HE.o] at B2
     have h5:Hid ((runE ls).length<=2000000):=by
      have:=congrArg List.length HO.o;have:=ha.o;rw[Qb] at *;simp only[Hid];omega
     have hg:=O2.o.size;clear R h0 o2;go_wp2_with (at_builtin;refine Yr _ rfl _ _ _ rfl w.heap.size 5 i0 (.int .u8 0) 1 underlying23 hi ho hz ht rfl _ o.length (o.map (Value.int .u8)) rfl h3.o .u8 _ (runE ls) rfl B2.o N2.o ?c3 ?c4 hg ?_)
     case c3=>have:=h5.o;have:=h9.o;unfold maxLen;omega
     case c4=>have:=h5.o;have:=h9.o;omega
     intro v' w3 own3 hgrow _ _
     have F:Hid (w3.ownsRow w.heap.size 5 1 v' (runE xs).length ((runE xs).map (Value.int .u8))∧N0 w w3):=by
      refine⟨?_,O2.o.grown hgrow (λk hk hq=>by have:=(h3.o.lt k hq).1;omega)⟩;rw[<-HO.o,Qb,List.map_append];exact own3
     clear own3 hgrow;go_wp2
     try rw[Exit.noGoto_ret]
     go_ret2;exact⟨_,rfl,F.o⟩
    | succ g =>
     have jl:j<G:=by omega
     obtain⟨b',he,hs,e1,hcj⟩:=(hb.o.past h6.o).at j (by rw[HL.o];exact jl)
     have e2:b=b'∧off=he:=by simp at e1;exact⟨e1.1.1,e1.1.2⟩
     obtain⟨rfl,rfl⟩:=e2;clear e1
     have i0':(0:Int)<=(j:Int):=by omega
     have i1:(j:Int)<(G:Int):=by omega
     obtain⟨x,hx⟩:=EX (ls.getD j 0);rw[<-hx] at hcj;have hf:=Qa hx;clear hx
     by_cases hxx:x=x0
     ·subst hxx
      have z0:(x != x)=false:=by simp
      go_wp2
      go_roundg g
      case rel=>exact⟨j+1,by omega,rfl,rfl,by go_num,(λi hi=>by
       rcases Nat.lt_or_ge i j with h | h
       ·exact HJ.o i h
       ·obtain rfl:i=j:=by omega
        exact hf.o.symm),rfl⟩
      case measure=>omega
     ·have z0:(x != x0)=true:=by simpa using hxx
      have j0:0<j:=by
       rcases Nat.eq_zero_or_pos j with h | h
       ·subst h
        exact absurd (hf.o.trans HX.o.symm) hxx
       ·exact h
      have HE:Hid (runE ls=gs x0.toNat++gs (j - 1)++runE (ls.drop j)):=by
       simp only[Hid];rw[HX.o];exact Ep j0 (by rw[HL.o];exact jl) (λi hi=>by rw[<-HX.o];exact HJ.o i hi) (by rw[<-HX.o,<-hf.o];exact hxx)
      have R:=Qa (L5 x0 j W h7.1 h7.2 (by omega) (by omega))
      have hcap:G<=cl:=by
       obtain⟨_,_,e,h2,_⟩:=hb.o;simp at e;have:=HL.o;omega
      have CUT:=hb.o.cut (n:=j) (by omega)
      have hh:(⟨b,off,none⟩:Addr).add j=⟨b,off+j,none⟩:=by unfold Addr.add;split <;> simp_all
      rw[Option.map_some,hh] at CUT;have CUT:=Qa CUT
      have k1:(j:Int)<=(G:Int):=by omega
      have k2:(j:Int)<=(cl:Int):=by omega
      have k3:cl≠j:=by omega
      go_wp2_with fail;refine R.o.mono ?_;rintro e w2 ⟨v2,rfl,h0,o2⟩;have B2:=Qa (Bs.of_own h0);have N2:=Qa (NoCap.of_own h0);have O2:=Qa (h6.o.same o2);have h3:=Qa (o2.own h4.o (λ_ _ f=>f))
      have h5:Hid ((gs x0.toNat++gs (j - 1)).length<=2000000):=by
       have h1:=congrArg List.length HO.o;have h2:=ha.o;rw[HE.o] at h1;simp only[Qb] at h1;simp only[Hid,Qb];omega
      have hg:=O2.o.size;obtain⟨q,hq⟩:=EX (gs x0.toNat++gs (j - 1));rw[<-hq] at B2 h5 HE;clear R h0 o2 hq;go_wp2_with (at_builtin;refine Yr _ rfl _ _ _ rfl w.heap.size 5 i0 (.int .u8 0) 1 underlying23 hi ho hz ht rfl _ o.length (o.map (Value.int .u8)) rfl h3.o .u8 _ q rfl B2.o N2.o ?c3 ?c4 hg ?_)
      case c3=>have:=h5.o;have:=h9.o;unfold maxLen;omega
      case c4=>have:=h5.o;have:=h9.o;omega
      intro v' w3 own3 hgrow _ _
      have F:Hid (w3.ownsRow w.heap.size 5 1 v' (o++q).length ((o++q).map (Value.int .u8))∧N0 w w3):=by
       refine⟨?_,O2.o.grown hgrow (λk hk hq=>by have:=(h3.o.lt k hq).1;omega)⟩;rw[Qb,List.map_append];exact own3
      clear own3 hgrow h3 O2 B2 N2;go_wp2
      go_roundg (G - j)
      case rel=>exact⟨ls.drop j,o++q,(by simp only[Hid];rw[Qm,HL.o]),by omega,CUT.o,(by simp only[Hid];rw[List.append_assoc,<-HE.o];exact HO.o),(λy hy=>hr.o y (List.mem_of_mem_drop hy)),F.o⟩
      case measure=>omega
theorem PA (va:Value) (acc:LI) (x:Int) (w:World) (h:Bs .u64 w va acc) (hl:acc.length<=70000) :
 Calls prog 279 #[va,.int .u64 x] w λe w'=>e=.returned (.bool (runOn acc x))∧w=w':=by
 by_cases h0:0<acc.length
 ·obtain⟨b,off,cap,rfl,hc⟩:=h.at (acc.length - 1) (by omega)
  have HR:Hid (runOn acc x=(acc.getD (acc.length - 1) 0 == x)):=by
   simp only[Hid,runOn];rw[Qe h0,Bool.true_and]
  generalize acc.getD (acc.length - 1) 0=y at *;obtain⟨m,hm⟩:∃m,acc.length=m+1:=⟨acc.length - 1,by omega⟩;rw[hm] at hc hl ⊢;rw[Nat.add_sub_cancel] at hc;clear h hm h0;have d0:decide ((0:Int)<((m+1:Nat):Int))=true:=Qe (by omega);go_enter func279,ntmps279;go_wp2;go_ret;exact⟨by rw[HR.o];rfl,rfl⟩
 ·have e:acc=[]:=List.eq_nil_of_length_eq_zero (by omega)
  subst e;obtain⟨ao,cap,rfl⟩:=h.len;clear h h0;go_enter func279,ntmps279;go_wp2;go_ret;exact⟨rfl,rfl⟩
theorem OQ (h:CurAt 146 w R v ys) {a:Int} {k:Nat} {c:Int} (hs:Qd ys=(a,k,c)) (hc:c≠0) :
 Calls prog 278 #[.pointer (some ⟨R,0,none⟩)] w λe w'=>e=.returned (.tuple #[.int .u64 0,.int .u64 0,.int .i64 c])∧Only (λk=>k=R) w w':=by
 have A:=YF h;rw[hs] at A;have A:=Qa A
 have dc:(c != 0)=true:=by simpa using hc
 clear h hs;go_enter func278,ntmps278;go_wp2_with fail;refine A.o.mono ?_;rintro e w1 ⟨rfl,v2,_,_,o1⟩;have O1:=Qa o1;clear A o1;go_wp2
 go_ret3
 exact⟨rfl,O1.o⟩
theorem ud (h:CurAt 146 w R v ys) {a b:Int} {k j:Nat} {c:Int} (hs:Qd ys=(a,k,0)) (hs2:Qd (ys.drop k)=(b,j,c)) (hc:c≠0) :
 Calls prog 278 #[.pointer (some ⟨R,0,none⟩)] w λe w'=>e=.returned (.tuple #[.int .u64 0,.int .u64 0,.int .i64 c])∧Only (λk=>k=R) w w':=by
 have A:=YF h;rw[hs] at A;have A:=Qa A;have HS2:=Qa hs2
 have dc:(c != 0)=true:=by simpa using hc
 clear h hs hs2;go_enter func278,ntmps278;go_wp2_with fail;refine A.o.mono ?_;rintro e w1 ⟨rfl,v2,h0,_,o1⟩;have B:=YF h0;rw[HS2.o] at B;have B:=Qa B;have O1:=Qa o1;clear A o1 h0;go_wp2_with fail;refine B.o.mono ?_;rintro e w2 ⟨rfl,v3,_,_,o2⟩;have O2:=Qa (O1.o.trans o2 (λ_ _ e=>e));clear B o2;go_wp2
 go_ret3
 exact⟨rfl,O2.o⟩
theorem jn (h:CurAt 146 w R v ys) {a b:Int} {k j:Nat} (hs:Qd ys=(a,k,0)) (hs2:Qd (ys.drop k)=(b,j,0)) :
 Calls prog 278 #[.pointer (some ⟨R,0,none⟩)] w λe w'=>e=.returned (.tuple #[.int .u64 a,.int .u64 b,.int .i64 0])∧∃v2,CurAt 146 w' R v2 ((ys.drop k).drop j)∧v2.ownBlock=v.ownBlock∧Only (λk=>k=R) w w':=by
 have A:=YF h;rw[hs] at A;have A:=Qa A;have HS2:=Qa hs2;clear h hs hs2;go_enter func278,ntmps278;go_wp2_with fail;refine A.o.mono ?_;rintro e w1 ⟨rfl,v2,h0,h2,o1⟩;have B:=YF h0;rw[HS2.o] at B;have B:=Qa B;have O1:=Qa o1;have OB:=Qa h2;clear A o1 h0 h2;go_wp2_with fail;refine B.o.mono ?_;rintro e w2 ⟨rfl,v3,h1,h3,o2⟩;have F:=Qa (Vz h1 (Vz (h3.trans OB.o) (O1.o.trans o2 (λ_ _ e=>e))));clear B o2 h1 h3;go_wp2
 go_ret3
 exact⟨rfl,v3,F.o⟩
theorem te (v:Value) (n:Int) (w:World) (h:n<0∨65536<n) :
 Calls prog 268 #[v,.int .i64 n] w λe w'=>e=.returned (.tuple #[.slice none 0 0,.int .i64 1])∧w=w':=by
 by_cases h0:n<0
 ·have d0:decide (n<0)=true:=Qe h0
  clear h;go_enter func268,ntmps268;go_wp2;go_ret2;exact⟨rfl,rfl⟩
 ·have d0:decide (n<0)=false:=Qi h0
  have d1:decide (65536<n)=true:=Qe (by omega);clear h;go_enter func268,ntmps268;go_wp2;go_ret2;exact⟨rfl,rfl⟩
theorem Cm (acc:LI) (i:Nat) (a:Int):acc++List.replicate (i+1) a=acc++List.replicate i a++[a]:=by
 rw[List.replicate_succ',List.append_assoc]
theorem jo (v:Value) (ys:LI) (n:Nat) (w:World) (h:Bs .u8 w v ys) (hr:∀y∈ys,0<=y∧y<=255) (hl:ys.length<=1000000000000) (hn:n<=65536) :
 Calls prog 268 #[v,.int .i64 n] w λe w'=>∃u,e=.returned (.tuple #[u,.int .i64 (W7 ys n).2])∧w'.ownsRow w.heap.size 29 1 u (W7 ys n).1.length ((W7 ys n).1.map (Value.int .u64))∧N0 w w':=by
 obtain⟨i0,hi,hz0,hz1,hz2⟩:=info_parts Tryz.infoU64
 have d0:decide ((n:Int)<0)=false:=by simp
 have d1:decide (65536<(n:Int))=false:=by simp;omega
 have NW:=Qa (Uu v ys w h hr hl);clear h hr;go_enter func268,ntmps268;go_wp2_with fail;refine NW.o.mono ?_;rintro e w1 ⟨R,v1,rfl,ht,o1,r0,r1,hw⟩;have HV1:=Qa hw;have O1:=Qa o1;have hx:=Qa ht;have h6:=Qa (Vz r0 o1.size);clear NW ht o1 hw;go_wp2
 go_loopg [7] n (λg s7 wx=>∃(f:Nat) (acc h5:LI) (v':Value),wx.ownsRow w1.heap.size 29 1 s7 acc.length (acc.map (Value.int .u64))∧CurAt 146 wx R v' h5∧v'.ownBlock=v1.ownBlock∧Hid (acc.length+g=n)∧Hid (g<f)∧Hid (runD f acc h5 n=W7 ys n)∧Only (λk=>k=R) w1 wx)
 case atStart=>exact⟨n+1,[],ys,v1,Xh,hx.o,rfl,(by simp[Hid]),(by simp[Hid]),rfl,VG⟩
 case round =>
  obtain⟨f,acc,h5,v',h0,h1,h8,HG,HF,HD,h3⟩:=hrel;clear hx;obtain⟨W,hW⟩:=EX wr;subst hW;obtain⟨G,hG⟩:=EX gk;subst hG;have h2:=Qa h0;have HCUR:=Qa h1;have HOB:=Qa h8;have h7:=Qa h3;obtain⟨a7,c7,e7⟩:=(Bs.of_own h0).len;obtain⟨m,hm⟩:=EX acc.length;rw[<-hm] at e7 h2;have HM:=Qa hm
  have hmn:m+G=n:=by rw[hm];exact HG.o
  subst e7
  by_cases hlt:G=0
  ·have d2:decide ((m:Int)<(n:Int))=false:=Qi (by omega)
   have EC:=Qa (GC h1);have HR:=Gb (f:=f) (acc:=acc) (ys:=h5) (n:=n) (by omega) (by have:=HF.o;omega);rw[HD.o] at HR;have HR:=Qa HR;clear h0 h1 h8 h3 hm
   by_cases hy:0<h5.length
   ·have HE:Hid (endV h5=3):=if_pos hy
    rw[if_pos hy] at HR;rw[HE.o] at EC;go_wp2_with fail;refine EC.o.mono ?_;rintro e w2 ⟨rfl,rfl⟩;go_wp2;go_ret2;rw[HR.o];exact⟨_,rfl,Xh,O1.o.trans h7.o (λk hk e=>by have:=h6.o.1;omega)⟩
   ·have HE:Hid (endV h5=0):=if_neg hy
    rw[if_neg hy] at HR;rw[HE.o] at EC;go_wp2_with fail;refine EC.o.mono ?_;rintro e w2 ⟨rfl,rfl⟩;go_wp2;go_ret2;rw[HR.o];exact⟨_,rfl,by simp only;rw[<-HM.o];exact Qr h2.o h6.o.2,O1.o.trans h7.o (λk hk e=>by have:=h6.o.1;omega)⟩
  ·have d2:decide ((m:Int)<(n:Int))=true:=Qe (by omega)
   have fp:0<f:=by have:=HF.o;omega
   have h4:acc.length<n:=by omega
   rcases Ue h1.rng with ⟨c,hs,hc⟩ | ⟨a,k,hs,k1,k2,ha,_⟩
   ·have HR:=DJ h4 fp hs (by omega)
    rw[HD.o] at HR;have HR:=Qa HR;have RR:=Qa (OQ h1 hs (by omega))
    have dc:(c != 0)=true:=by simp;omega
    clear h0 h1 h8 h3 hm hs h4;go_wp2_with fail;refine RR.o.mono ?_;rintro e w2 ⟨rfl,o2⟩;have O2:=Qa (h7.o.trans o2 (λ_ _ e=>e));clear RR o2;go_wp2;go_ret2;rw[HR.o];exact⟨_,rfl,Xh,O1.o.trans O2.o (λk hk e=>by have:=h6.o.1;omega)⟩
   ·have hd:∀y∈h5.drop k,0<=y∧y<=255:=λy hy=>h1.rng y (List.mem_of_mem_drop hy)
    rcases Ue hd with ⟨c,hs2,hc⟩ | ⟨b,j,hs2,j1,j2,hb,_⟩
    ·have HR:=TK h4 fp hs hs2 (by omega)
     rw[HD.o] at HR;have HR:=Qa HR;have RR:=Qa (ud h1 hs hs2 (by omega))
     have dc:(c != 0)=true:=by simp;omega
     clear h0 h1 h8 h3 hm hs h4 hs2 hd;go_wp2_with fail;refine RR.o.mono ?_;rintro e w2 ⟨rfl,o2⟩;have O2:=Qa (h7.o.trans o2 (λ_ _ e=>e));clear RR o2;go_wp2;go_ret2;rw[HR.o];exact⟨_,rfl,Xh,O1.o.trans O2.o (λk hk e=>by have:=h6.o.1;omega)⟩
    ·have RR:=Qa (jn h1 hs hs2)
     have hq:(n:Int) - (m:Int)=(G:Int):=by omega
     have HS:=Qa (Vz hs hs2)
     by_cases hbG:G<=b
     ·have HR:=Hj h4 fp hs hs2 (.inl (by omega))
      rw[HD.o] at HR;have HR:=Qa HR;have dg:decide ((G:Int)<=(b:Int))=true:=Qe (by omega);clear h0 h1 h8 h3 hm hs h4 hs2 hd;go_wp2_with fail;refine RR.o.mono ?_;rintro e w2 ⟨rfl,v2,_,_,o2⟩;have O2:=Qa (h7.o.trans o2 (λ_ _ e=>e));clear RR o2;go_wp2;go_ret2;rw[HR.o];exact⟨_,rfl,Xh,O1.o.trans O2.o (λk hk e=>by have:=h6.o.1;omega)⟩
     ·have dg:decide ((G:Int)<=(b:Int))=false:=Qi (by omega)
      cases ho:runOn acc (a:Int) with
      | true =>
       have HR:=Hj h4 fp hs hs2 (.inr ho);rw[HD.o] at HR;have HR:=Qa HR;have hh:=Qa ho;clear h0 h1 h8 h3 hm hs h4 hs2 hd ho;go_wp2_with fail;refine RR.o.mono ?_;rintro e w2 ⟨rfl,v2,_,_,o2⟩;have O2:=Qa (h7.o.trans o2 (λ_ _ e=>e));have h9:=o2.own h2.o (λk hk e=>by have:=(h2.o.lt k hk).1;omega);have GO:=PA (.slice a7 m c7) acc a w2 (Bs.of_own (by rw[<-HM.o];exact h9)) (by rw[<-HM.o];omega);rw[hh.o] at GO;have GO:=Qa GO;clear RR o2 h9;go_wp2_with fail;refine GO.o.mono ?_;rintro e w3 ⟨rfl,rfl⟩;go_wp2;go_ret2;rw[HR.o];exact⟨_,rfl,Xh,O1.o.trans O2.o (λk hk e=>by have:=h6.o.1;omega)⟩
      | false =>
       have HR:=Gd h4 fp hs hs2 (by omega) ho;rw[HD.o] at HR;have HR:=Qa HR;have hh:=Qa ho
       have ha0:(a:Int)<=18446744073709551615:=by omega
       clear h0 h1 h8 h3 hm hs h4 hs2 hd ho;go_wp2_with fail;refine RR.o.mono ?_;rintro e w2 ⟨rfl,v2,he,hj,o2⟩;have O2:=Qa (h7.o.trans o2 (λ_ _ e=>e));have h9:=Qa (o2.own h2.o (λk hk e=>by have:=(h2.o.lt k hk).1;omega));have GO:=PA (.slice a7 m c7) acc a w2 (Bs.of_own (by rw[<-HM.o];exact h9.o)) (by rw[<-HM.o];omega);rw[hh.o] at GO;have GO:=Qa GO;have hf:=Qa he;have hv:=Qa (hj.trans HOB.o);clear RR o2 he hj;go_wp2_with fail;refine GO.o.mono ?_;rintro e w3 ⟨rfl,rfl⟩;have LIN:=Qa (O2.o.size);go_wp2
       go_loopg [7,47] (b+1) (λg2 s7 s47 wy=>∃i:Nat,i+g2=b+1∧s47=.int .u64 i∧wy.ownsRow w1.heap.size 29 1 s7 (m+i) ((acc++List.replicate i (a:Int)).map (Value.int .u64))∧Only (λk=>w1.heap.size<=k) w2 wy)
       case atStart=>exact⟨0,by omega,rfl,by simpa using h9.o,VG⟩
       case round =>
        obtain⟨i,hib,rfl,h0,h3⟩:=hrel;have HX:=Qa h3;have hsz:w1.heap.size<=wr.heap.size:=Nat.le_trans LIN.o h3.size;clear h9 GO h3
        cases gk with
        | zero =>
         obtain rfl:i=b+1:=by omega
         have F:Hid (wr.ownsRow w1.heap.size 29 1 u7 (acc++List.replicate (b+1) (a:Int)).length ((acc++List.replicate (b+1) (a:Int)).map (Value.int .u64))∧CurAt 146 wr R v2 ((h5.drop k).drop j)∧v2.ownBlock=v1.ownBlock∧Only (λk=>k=R) w1 wr):=by
          refine⟨by rw[Qb,List.length_replicate,<-HM.o];exact h0,hf.o.keep HX.o (by omega) (λq hq e=>?_),hv.o,O2.o.trans HX.o (λq hq e=>absurd e (by omega))⟩;rw[hv.o] at hq;have:=(HV1.o q hq).2;omega
         have HLN:Hid ((acc++List.replicate (b+1) (a:Int)).length+(G - (b+1))=n):=by
          simp only[Hid];rw[Qb,List.length_replicate,<-HM.o];omega
         have d3:decide (((b+1:Nat):Int)<((b:Int)+1))=false:=by simp
         clear h0 HX;go_wp2
         go_roundg (G - (b+1))
         case rel=>exact⟨f - 1,_,_,v2,F.o.1,F.o.2.1,F.o.2.2.1,HLN.o,(by have:=HF.o;simp only[Hid];omega),HR.o.symm,F.o.2.2.2⟩
         case measure=>omega
        | succ g =>
         have d3:decide ((i:Int)<((b:Int)+1))=true:=Qe (by omega);go_wp2_with (at_builtin;refine wpList_append_lies _ rfl _ _ _ rfl w1.heap.size 29 i0 (.int .u64 0) 1 8 underlying76 hi hz0 hz1 hz2 rfl (by omega) _ (m+i) _ rfl (h0.alloc _) ⟨wr.heap.size,0,none⟩ 1 1 [.int .u64 (a:Int)] rfl rfl ?c1 ?c2 (by omega) ?c3 ?c4 ?c5 (wr.heap.size+1) (by simp) ?_)
         case c1=>exact cell_one_new _ _ _
         case c2=>intro u hu;simp at hu;subst hu;rfl
         case c3=>unfold maxLen;omega
         case c4=>omega
         case c5=>simp;omega
         intro gg cap1 w3 hown1 hgrow hat hg1;have o3:=Qa ((HX.o.alloc _).grown hgrow (λp _ hp=>(h0.lt p hp).1))
         have hg:Hid (w3.ownsRow w1.heap.size 29 1 (.slice (some ⟨gg,0,none⟩) (m+i+1) cap1) (m+(i+1)) ((acc++List.replicate (i+1) (a:Int)).map (Value.int .u64))):=by
          simp only[Hid];rw[Cm,<-Nat.add_assoc];simpa using hown1
         clear h0 hown1 hgrow hat HX;go_wp2
         go_roundg g
         case rel=>exact⟨i+1,by omega,by go_num,hg.o,o3.o⟩
         case measure=>omega
def RUND (ys:LI) (n:Int):LI × Int:=if n<0∨65536<n then ([],1) else W7 ys n.toNat
theorem Cr (v:Value) (ys:LI) (n:Int) (w:World) (h:Bs .u8 w v ys) (hr:∀y∈ys,0<=y∧y<=255) (hl:ys.length<=1000000000000) :
 Calls prog 268 #[v,.int .i64 n] w λe w'=>∃u,e=.returned (.tuple #[u,.int .i64 (RUND ys n).2])∧w'.ownsRow w.heap.size 29 1 u (RUND ys n).1.length ((RUND ys n).1.map (Value.int .u64))∧N0 w w':=by
 unfold RUND
 by_cases hn:n<0∨65536<n
 ·rw[if_pos hn]
  refine (te v n w hn).mono ?_;rintro e w' ⟨rfl,rfl⟩;exact⟨_,rfl,Xh,VG⟩
 ·rw[if_neg hn]
  obtain⟨m,rfl⟩:=Int.eq_ofNat_of_zero_le (show 0<=n by omega);exact jo v ys m w h hr hl (by omega)
theorem OE (ys:LI) (n:Nat) (h:n<=65536):RUND ys n=W7 ys n:=by
 unfold RUND;rw[if_neg (by omega)]
 rfl
theorem Sj {n:Int} (hr:∀y∈ys,0<=y∧y<=255) :
 (∃c,RUND ys n=([],c)∧c≠0)∨(∃l,RUND ys n=(l,0)∧U64 l∧(l.length:Int)=n∧l.length<=65536∧runE l=ys):=by
 unfold RUND
 by_cases hn:n<0∨65536<n
 ·rw[if_pos hn];exact .inl ⟨1,rfl,by decide⟩
 ·rw[if_neg hn]
  rcases wX (n.toNat+1) [] ys n.toNat hr (by simp) (by simp) with ⟨c,h1,h2⟩ | ⟨t,h1,h2,h3,h4,_⟩
  ·exact .inl ⟨c,h1,by omega⟩
  ·rw[List.nil_append] at h1
   rw[List.length_nil,Nat.zero_add] at h2;exact .inr ⟨t,h1,h4,by omega,by omega,h3.symm⟩
theorem qw (hu:U64 l) (hl:l.length<=65536) (z:LI):W7 (runE l++z) l.length=if 0<z.length then ([],3) else (l,0):=by
 have:=Bg l (l.length+1) [] z l.length hu (by omega) (by simp) (by omega) (At l);rw[List.nil_append] at this;exact this
def I64s (l:LI):Prop:=∀x∈l,Yn x
def Y4 (b:LI):Prop:=∀y∈b,0<=y∧y<=255
def u64o (x:Int):Int:=x % 18446744073709551616
def zsn (l:LI):LI:=l.map zig
def zgn (l:LI):LI:=l.map zag
def fx (l:LI):LI:=l.flatMap λx=>fixL (u64o x) 8
def tms (tag:Nat):Nat:=if tag=3∨tag=4 then 2 else 1
def WOTH (z:LI) (tag:Nat):LI × Int:=if tag=2 then (PK z,0) else if tag=3 then Uj z else if tag=4 then (runE z,0) else (allG z,0)
def QB (l:LI) (tag:Nat):LI × Int :=
 if l=[] then ([],0) else if tag=0 then (fx l,0) else
 if (WOTH ((zsn (D (tms tag) l)).drop 1) tag).2≠0 then ([],(WOTH ((zsn (D (tms tag) l)).drop 1) tag).2) else
 (gs ((zsn (D (tms tag) l)).getD 0 0).toNat++(WOTH ((zsn (D (tms tag) l)).drop 1) tag).1,0)
def WAY8 (l:LI) (tag:Int):LI × Int:=if tag<0∨4<tag then ([],1) else if 65536<l.length then ([],4) else QB l tag.toNat
def pick (l:LI):Nat->Nat × LI
 | 0=>(0,(QB l 0).1)
 | t+1=>if (QB l (t+1)).2=0∧(QB l (t+1)).1.length<(pick l t).2.length then (t+1,(QB l (t+1)).1) else pick l t
def ENC8 (l:LI):LI × Int:=if 65536<l.length then ([],4) else (((pick l 4).1:Int) :: (pick l 4).2,0)
def fxN (ys:LI) (n:Nat):LI:=(List.range n).map λi=>(num ((ys.drop (8*i)).take 8):Int)
def rFx (ys:LI) (n:Nat):LI × Int:=if ys.length<8*n then ([],2) else (fxN ys n,0)
def rVs:Nat->LI->LI->LI × LI × Int
 | 0,acc,ys=>(acc,ys,0)
 | n+1,acc,ys=>if (Qd ys).2.2≠0 then ([],ys,(Qd ys).2.2) else rVs n (acc++[(Qd ys).1]) (ys.drop (Qd ys).2.1)
def Q0 (ys:LI) (m tag:Nat):LI × Int :=
 if tag=2 then ((UN ys m).2,(UN ys m).1) else if tag=3 then U4 ys m else if tag=4 then RUND ys m else ((rVs m [] ys).1,(rVs m [] ys).2.2)
def s64 (x:Int):Int:=wrap64 x
def READ (ys:LI) (n tag:Nat):LI × Int :=
 if n=0 then ([],0) else if tag=0 then ((rFx ys n).1.map s64,(rFx ys n).2) else
 if (Qd ys).2.2≠0 then ([],(Qd ys).2.2) else
 if (Q0 (ys.drop (Qd ys).2.1) (n - 1) tag).2≠0 then ([],(Q0 (ys.drop (Qd ys).2.1) (n - 1) tag).2) else
 (S (tms tag) (zag (Qd ys).1 :: zgn (Q0 (ys.drop (Qd ys).2.1) (n - 1) tag).1),0)
def DEC8 (b:LI) (n:Int):LI × Int :=
 if n<0∨65536<n then ([],1) else if b=[] then ([],2) else if 4<b.getD 0 0 then ([],3) else
 if (READ (b.drop 1) n.toNat (b.getD 0 0).toNat).2≠0 then ([],(READ (b.drop 1) n.toNat (b.getD 0 0).toNat).2) else
 if (ENC8 (READ (b.drop 1) n.toNat (b.getD 0 0).toNat).1).1=b then ((READ (b.drop 1) n.toNat (b.getD 0 0).toNat).1,0) else ([],3)
theorem Xj (l:LI):(zsn l).length=l.length:=by simp[zsn]
theorem He (l:LI):(zgn l).length=l.length:=by simp[zgn]
theorem Ch (l:LI):zgn (zsn l)=l:=by
 unfold zgn zsn;rw[List.map_map];exact (List.map_congr_left (g:=id) (λx _=>gG x)).trans (List.map_id l)
theorem kA (h:I64s l):U64 (zsn l):=by
 intro x hx;simp only[zsn,List.mem_map] at hx;obtain⟨y,hy,rfl⟩:=hx;exact Ty y (h y hy).1 (h y hy).2
theorem qD (h:U64 l):I64s (zgn l):=by
 intro x hx;simp only[zgn,List.mem_map] at hx;obtain⟨y,hy,rfl⟩:=hx;exact Sc y (h y hy).1 (h y hy).2
theorem U64.drop (h:U64 l) (k:Nat):U64 (l.drop k):=λx hx=>h x (List.mem_of_mem_drop hx)
theorem U64.nil:U64 []:=λx hx=>by simp at hx
theorem vI {a b:LI} (ha:Y4 a) (hb:Y4 b):Y4 (a++b):=λy hy=>(List.mem_append.1 hy).elim (ha y) (hb y)
theorem Xw (l:LI):(fx l).length=8*l.length:=by
 induction l with
 | nil=>rfl
 | cons x t ih =>
  have:fx (x :: t)=fixL (u64o x) 8++fx t:=by simp[fx]
  rw[this,Qb,Qv,ih,Qk];omega
theorem zA (l:LI) (x:Int):fx (l++[x])=fx l++fixL (u64o x) 8:=by simp[fx]
theorem ym (l:LI):Y4 (fx l):=by
 intro y hy;simp only[fx,List.mem_flatMap] at hy;obtain⟨x,_,hy⟩:=hy;exact US _ _ y hy
theorem fx_at (l:LI):∀(i:Nat),i<l.length->((fx l).drop (8*i)).take 8=fixL (u64o (l.getD i 0)) 8:=by
 induction l with
 | nil=>intro i hi;simp at hi
 | cons x t ih =>
  intro i hi
  have e:fx (x :: t)=fixL (u64o x) 8++fx t:=by simp[fx]
  have h8:(fixL (u64o x) 8).length=8:=Qv _ _
  cases i with
  | zero=>rw[e,Nat.mul_zero,List.drop_zero,List.take_left' h8];rfl
  | succ i =>
   rw[e,show 8*(i+1)=8+8*i by omega,<-List.drop_drop,List.drop_left' h8,ih i (by simpa using hi)]
   rfl
theorem uY {x:Int} (h:Yn x):s64 (u64o x)=x:=by
 unfold s64 u64o;have:=h.1;have:=h.2;unfold Yn at h;rw[show wrap64 (x % 18446744073709551616)=x by unfold wrap64;omega]
theorem tB {x:Int} (h:Yn x):s64 (num (fixL (u64o x) 8):Int)=x:=by
 have h0:0<=u64o x∧u64o x<18446744073709551616:=by unfold u64o;omega
 obtain⟨q,hq⟩:∃q:Nat,u64o x=(q:Int):=⟨(u64o x).toNat,by omega⟩
 have hl:q<18446744073709551616:=by omega
 have e:=uY h;rw[hq] at e ⊢;rw[VE q hl];exact e
theorem F9 (i:Nat) (h2:i<l.length) (hx:Yn (l.getD i 0)):s64 (num (((fx l).drop (8*i)).take 8):Int)=l.getD i 0:=by
 rw[fx_at l i h2];exact tB hx
theorem Bp (l:LI) (f:Nat->Int) (h:∀i,i<l.length->f i=l.getD i 0):(List.range l.length).map f=l:=by
 apply List.ext_getElem
 ·rw[List.length_map,List.length_range]
 ·intro i h1 h2
  rw[List.getElem_map,List.getElem_range,h i h2];simp[List.getD_eq_getElem?_getD,List.getElem?_eq_getElem h2]
theorem jy (ys:LI) (n:Nat) (f:Int->Int):(fxN ys n).map f=(List.range n).map λi=>f (num ((ys.drop (8*i)).take 8):Int):=by
 unfold fxN;rw[List.map_map];exact List.map_congr_left (λ_ _=>rfl)
theorem Oc (h:I64s l):(fxN (fx l) l.length).map s64=l:=by
 rw[jy];refine Bp l _ (λi hi=>F9 i hi (h _ ?_));rw[Qc,Qh hi];exact List.getElem_mem hi
theorem vL (ys:LI) (n:Nat):(fxN ys n).length=n:=by simp[fxN]
theorem yD (ys:LI) (n:Nat):fxN ys (n+1)=fxN ys n++[(num ((ys.drop (8*n)).take 8):Int)]:=by simp[fxN,List.range_succ]
theorem s64_g (x:Int):Yn (s64 x):=w64_g x
theorem gZ (l:LI):∀(acc z:LI),U64 l->rVs l.length acc (allG l++z)=(acc++l,z,0):=by
 induction l with
 | nil=>intro acc z _;simp[rVs,allG]
 | cons x t ih =>
  intro acc z hu;have hx:=hu x List.mem_cons_self
  have e:allG (x :: t)++z=gs x.toNat++(allG t++z):=by simp[allG]
  have hs:=Ua x.toNat (allG t++z) (by omega);rw[Qk,rVs,e,hs];simp only[ne_eq,not_true_eq_false,if_false];rw[List.drop_left,Int.toNat_of_nonneg hx.1,ih _ _ (λy hy=>hu y (List.mem_cons_of_mem _ hy))];simp
theorem Nj (n:Nat):∀(acc ys:LI),Y4 ys->(∃r c,rVs n acc ys=([],r,c)∧(c=2∨c=3))∨(∃t r,rVs n acc ys=(acc++t,r,0)∧t.length=n∧U64 t∧ys=allG t++r):=by
 induction n with
 | zero=>intro acc ys _;exact .inr ⟨[],ys,by simp[rVs],rfl,U64.nil,by simp[allG]⟩
 | succ n ih =>
  intro acc ys hr
  rcases Ue hr with ⟨c,h,hc⟩ | ⟨a,k,h,h1,h2,h3,h4⟩
  ·left
   refine⟨ys,c,?_,hc⟩;rw[rVs,h];simp only[ne_eq];rw[if_pos (by omega)]
  ·have e:rVs (n+1) acc ys=rVs n (acc++[(a:Int)]) (ys.drop k):=by
    rw[rVs,h];simp
   rw[e]
   rcases ih (acc++[(a:Int)]) (ys.drop k) (λy hy=>hr y (List.mem_of_mem_drop hy)) with ⟨r,c,h5,h6⟩ | ⟨t,r,h5,h6,h7,h8⟩
   ·exact .inl ⟨r,c,h5,h6⟩
   ·refine .inr ⟨(a:Int) :: t,r,by rw[h5];simp,by simp[h6],?_,?_⟩
    ·intro x hx
     rcases List.mem_cons.1 hx with rfl | hx
     ·omega
     ·exact h7 x hx
    ·exact h4.trans (by rw[h8];simp[allG])
theorem Eu {z:LI} (hu:U64 z) {tag:Nat}:Y4 (WOTH z tag).1:=by
 unfold WOTH
 by_cases h2:tag=2
 ·rw[if_pos h2];exact Hw hu
 ·rw[if_neg h2]
  by_cases h3:tag=3
  ·rw[if_pos h3]
   by_cases h:(Uj z).2=0
   ·obtain⟨e,hup,_⟩:=Gu (λx hx=>(hu x hx).1) h
    rw[e];exact Se _ z rfl hup
   ·unfold Uj at h ⊢
    by_cases hl:65536<z.length
    ·rw[if_pos hl];intro y hy;simp at hy
    ·rw[if_neg hl] at h ⊢
     by_cases hs:small 60 z=true
     ·rw[if_pos hs] at h;exact absurd rfl h
     ·rw[if_neg hs];intro y hy;simp at hy
  ·rw[if_neg h3]
   by_cases h4:tag=4
   ·rw[if_pos h4];exact yc z
   ·rw[if_neg h4];exact OT z
theorem lh {z:LI} (hu:U64 z) (hl:z.length<=65536) {tag:Nat} (h:(WOTH z tag).2=0):Q0 (WOTH z tag).1 z.length tag=(z,0):=by
 unfold WOTH at *;unfold Q0
 by_cases h2:tag=2
 ·simp only[if_pos h2]
  rw[un_pk hu hl]
 ·simp only[if_neg h2] at h ⊢
  by_cases h3:tag=3
  ·simp only[if_pos h3] at h ⊢
   obtain⟨e,hup,_⟩:=Gu (λx hx=>(hu x hx).1) h;rw[e,xO _ _ hl];exact vF hup
  ·simp only[if_neg h3] at h ⊢
   by_cases h4:tag=4
   ·simp only[if_pos h4]
    rw[OE _ _ hl];have:=qw hu hl [];rw[List.append_nil] at this;exact this
   ·simp only[if_neg h4]
    have:=gZ z [] [] hu;rw[List.append_nil,List.nil_append] at this;rw[this]
theorem xv {m tag:Nat} (hr:Y4 ys) (h:(Q0 ys m tag).2≠0):(Q0 ys m tag).1=[]:=by
 unfold Q0 at *
 by_cases h2:tag=2
 ·simp only[if_pos h2] at h ⊢;exact rb _ _ h
 ·simp only[if_neg h2] at h ⊢
  by_cases h3:tag=3
  ·simp only[if_pos h3] at h ⊢
   rcases Nr (n:=(m:Int)) hr with ⟨c,e,_⟩ | ⟨l,e,_⟩
   ·rw[e]
   ·rw[e] at h;exact absurd rfl h
  ·simp only[if_neg h3] at h ⊢
   by_cases h4:tag=4
   ·simp only[if_pos h4] at h ⊢
    rcases Sj (n:=(m:Int)) hr with ⟨c,e,_⟩ | ⟨l,e,_⟩
    ·rw[e]
    ·rw[e] at h;exact absurd rfl h
   ·simp only[if_neg h4] at h ⊢
    rcases Nj m [] ys hr with ⟨r,c,e,_⟩ | ⟨t,r,e,_⟩
    ·rw[e]
    ·rw[e] at h;exact absurd rfl h
theorem Rg {m tag:Nat} (hr:Y4 ys) (h:(Q0 ys m tag).2=0):U64 (Q0 ys m tag).1∧(Q0 ys m tag).1.length=m:=by
 unfold Q0 at *
 by_cases h2:tag=2
 ·simp only[if_pos h2] at h ⊢
  obtain⟨_,hlen,_⟩:=UN_ok h;exact⟨yX _ _,by omega⟩
 ·simp only[if_neg h2] at h ⊢
  by_cases h3:tag=3
  ·simp only[if_pos h3] at h ⊢
   rcases Nr (n:=(m:Int)) hr with ⟨c,e,hc⟩ | ⟨l,e,hu,hl,_⟩
   ·rw[e] at h;exact absurd h hc
   ·rw[e]
    refine⟨λx hx=>?_,by simp only;omega⟩;have:=hu x hx
    have h60:(2:Int)^60=1152921504606846976:=by decide
    omega
  ·simp only[if_neg h3] at h ⊢
   by_cases h4:tag=4
   ·simp only[if_pos h4] at h ⊢
    rcases Sj (n:=(m:Int)) hr with ⟨c,e,hc⟩ | ⟨l,e,hu,hl,_⟩
    ·rw[e] at h;exact absurd h hc
    ·rw[e];exact⟨hu,by simp only;omega⟩
   ·simp only[if_neg h4] at h ⊢
    rcases Nj m [] ys hr with ⟨r,c,e,hc⟩ | ⟨t,r,e,hl,hu,_⟩
    ·rw[e] at h;exact absurd h (by simp only;omega)
    ·rw[e];exact⟨by simpa using hu,by simpa using hl⟩
theorem D_i64 (h:I64s l) (k:Nat):I64s (D k l):=D_g k l h
theorem Xx (h:I64s l) (k:Nat):U64 (zsn (D k l)):=kA (D_i64 h k)
theorem Jt (l:LI) (k:Nat):(zsn (D k l)).length=l.length:=by rw[Xj,Xp]
theorem zp (h:U64 l) (hp:0<l.length):0<=l.getD 0 0∧l.getD 0 0<=18446744073709551615:=by
 cases l with
 | nil=>simp at hp
 | cons a t=>exact h a List.mem_cons_self
theorem yn (hp:0<l.length):l.getD 0 0 :: l.drop 1=l:=by
 cases l with
 | nil=>simp at hp
 | cons a t=>rfl
theorem Mp (tag:Nat):tms tag<=3:=by unfold tms;split <;> omega
theorem IJ (tag:Nat):QB [] tag=([],0):=by unfold QB;simp
theorem Wr:QB l 0=(fx l,0):=by
 unfold QB
 by_cases h:l=[]
 ·rw[if_pos h,h];rfl
 ·rw[if_neg h];rfl
theorem xU {tag:Nat} (hne:l≠[]) (ht:tag≠0) (h:(QB l tag).2=0) :
 (WOTH ((zsn (D (tms tag) l)).drop 1) tag).2=0∧QB l tag=(gs ((zsn (D (tms tag) l)).getD 0 0).toNat++(WOTH ((zsn (D (tms tag) l)).drop 1) tag).1,0):=by
 unfold QB at *;rw[if_neg hne,if_neg ht] at h ⊢
 by_cases hw:(WOTH ((zsn (D (tms tag) l)).drop 1) tag).2≠0
 ·rw[if_pos hw] at h;exact absurd h hw
 ·rw[if_neg hw];exact⟨by simpa using hw,rfl⟩
theorem I1 (hg:I64s l) (tag:Nat):Y4 (QB l tag).1:=by
 unfold QB
 by_cases hne:l=[]
 ·rw[if_pos hne];intro y hy;simp at hy
 ·rw[if_neg hne]
  by_cases ht:tag=0
  ·rw[if_pos ht];exact ym l
  ·rw[if_neg ht]
   by_cases hw:(WOTH ((zsn (D (tms tag) l)).drop 1) tag).2≠0
   ·rw[if_pos hw];intro y hy;simp at hy
   ·rw[if_neg hw]
    exact vI (UU _) (Eu ((Xx hg _).drop 1))
theorem I7 {tag:Nat} (hg:I64s l) (hl:l.length<=65536) (h:(QB l tag).2=0):READ (QB l tag).1 l.length tag=(l,0):=by
 by_cases hne:l=[]
 ·subst hne;rfl
 have hp:0<l.length:=List.length_pos_iff.2 hne
 by_cases ht:tag=0
 ·subst ht
  rw[Wr];unfold READ rFx;rw[if_neg (by omega),if_pos rfl,if_neg (by simp only[Xw];omega),Oc hg]
 obtain⟨hw,e⟩:=xU hne ht h;rw[e];have hz:=Xx hg (tms tag);have hzl:=Jt l (tms tag);have h0:=zp hz (by omega);have hs:=Ua ((zsn (D (tms tag) l)).getD 0 0).toNat (WOTH ((zsn (D (tms tag) l)).drop 1) tag).1 (by omega);have hb:=lh (hz.drop 1) (by rw[Qm];omega) hw;rw[Qm,hzl] at hb;unfold READ;rw[if_neg (by omega),if_neg ht];simp only[hs,ne_eq,not_true_eq_false,if_false,List.drop_left,hb];rw[Int.toNat_of_nonneg h0.1];have e2:zag ((zsn (D (tms tag) l)).getD 0 0) :: zgn ((zsn (D (tms tag) l)).drop 1)=zgn ((zsn (D (tms tag) l)).getD 0 0 :: (zsn (D (tms tag) l)).drop 1):=rfl;rw[e2,yn (by omega),Ch,S_D _ _ hg]
theorem T0 {n tag:Nat} (hr:Y4 ys) (h:(READ ys n tag).2=0):I64s (READ ys n tag).1∧(READ ys n tag).1.length=n:=by
 unfold READ at *
 by_cases hn:n=0
 ·rw[if_pos hn];exact⟨λx hx=>by simp at hx,by simp[hn]⟩
 ·rw[if_neg hn] at h ⊢
  by_cases ht:tag=0
  ·rw[if_pos ht] at h ⊢
   unfold rFx at *
   by_cases hl:ys.length<8*n
   ·rw[if_pos hl] at h;cases h
   ·rw[if_neg hl]
    refine⟨λx hx=>?_,by simp[fxN]⟩;simp only[List.mem_map] at hx;obtain⟨y,_,rfl⟩:=hx;exact s64_g y
  ·rw[if_neg ht] at h ⊢
   by_cases hv:(Qd ys).2.2≠0
   ·rw[if_pos hv] at h;exact absurd h hv
   ·rw[if_neg hv] at h ⊢
    by_cases ho:(Q0 (ys.drop (Qd ys).2.1) (n - 1) tag).2≠0
    ·rw[if_pos ho] at h;exact absurd h ho
    ·rw[if_neg ho]
     have ho':(Q0 (ys.drop (Qd ys).2.1) (n - 1) tag).2=0:=by simpa using ho
     obtain⟨hu,h0⟩:=Rg (λy hy=>hr y (List.mem_of_mem_drop hy)) ho';refine⟨S_g _ _ (λx hx=>?_),?_⟩
     ·rcases List.mem_cons.1 hx with rfl | hx
      ·rcases Ue hr with ⟨c,h1,hc⟩ | ⟨a,k,h1,_,_,h3,_⟩
       ·rw[h1] at hv;exact absurd (by simp only;omega) hv
       ·rw[h1];exact Sc a (by omega) (by omega)
      ·exact qD hu x hx
     ·simp only[LN,Qk,He,h0];omega
theorem kW {n tag:Nat} (h:(READ ys n tag).2≠0):(READ ys n tag).1=[]:=by
 unfold READ at *
 by_cases hn:n=0
 ·rw[if_pos hn]
 ·rw[if_neg hn] at h ⊢
  by_cases ht:tag=0
  ·rw[if_pos ht] at h ⊢
   unfold rFx at *
   by_cases hl:ys.length<8*n
   ·rw[if_pos hl];rfl
   ·rw[if_neg hl] at h;exact absurd rfl h
  ·rw[if_neg ht] at h ⊢
   by_cases hv:(Qd ys).2.2≠0
   ·rw[if_pos hv]
   ·rw[if_neg hv] at h ⊢
    by_cases ho:(Q0 (ys.drop (Qd ys).2.1) (n - 1) tag).2≠0
    ·rw[if_pos ho]
    ·rw[if_neg ho] at h;exact absurd rfl h
theorem Vc (l:LI):∀t,(pick l t).1<=t∧QB l (pick l t).1=((pick l t).2,0)∧∀s,s<=t->(QB l s).2=0->(pick l t).2.length<=(QB l s).1.length
 | 0=>by
  refine⟨Zu,?_,λs hs _=>?_⟩
  ·show QB l 0=((QB l 0).1,0)
   rw[Wr]
  ·have:s=0:=by omega
   subst this;exact Zu
 | t+1=>by
  obtain⟨h1,h2,h3⟩:=Vc l t;rw[pick]
  by_cases hc:(QB l (t+1)).2=0∧(QB l (t+1)).1.length<(pick l t).2.length
  ·rw[if_pos hc]
   refine⟨Zu,by rw[<-hc.1],λs hs h0=>?_⟩
   rcases Nat.lt_or_ge s (t+1) with h | h
   ·have:=h3 s (by omega) h0;simp only;omega
   ·have:s=t+1:=by omega
    subst this;exact Zu
  ·rw[if_neg hc]
   refine⟨by omega,h2,λs hs h0=>?_⟩
   rcases Nat.lt_or_ge s (t+1) with h | h
   ·exact h3 s (by omega) h0
   ·have:s=t+1:=by omega
    subst this
    rcases Nat.lt_or_ge (QB l (t+1)).1.length (pick l t).2.length with h4 | h4
    ·exact absurd ⟨h0,h4⟩ hc
    ·exact h4
theorem Gl (hl:l.length<=65536):ENC8 l=(((pick l 4).1:Int) :: (pick l 4).2,0):=if_neg (by omega)
theorem Ht (hl:l.length<=65536):(ENC8 l).1.length<=1+8*l.length∧0<(ENC8 l).1.length:=by
 rw[Gl hl];have h:=(Vc l 4).2.2 0 (by omega) (by rw[Wr]);rw[Wr] at h;simp only[Xw] at h;simp only[Qk];omega
theorem Ns (hg:I64s l):Y4 (ENC8 l).1:=by
 unfold ENC8
 by_cases hl:65536<l.length
 ·rw[if_pos hl];intro y hy;simp at hy
 ·rw[if_neg hl]
  obtain⟨h1,h2,_⟩:=Vc l 4;intro y hy
  rcases List.mem_cons.1 hy with rfl | hy
  ·omega
  ·have:=I1 hg (pick l 4).1
   rw[h2] at this;exact this y hy
theorem xn (hl:l.length<=65536) (t:Nat) (ht:t<=4):WAY8 l t=QB l t:=by
 unfold WAY8;rw[if_neg (by omega),if_neg (by omega)]
 rfl
theorem jz (hg:I64s l) (hl:l.length<=65536):DEC8 (ENC8 l).1 l.length=(l,0):=by
 have he:=Gl hl;obtain⟨h1,h2,_⟩:=Vc l 4;have hR:=I7 hg hl (tag:=(pick l 4).1) (by rw[h2]);rw[h2] at hR;unfold DEC8;rw[if_neg (by omega)];rw[he];simp only[List.drop_succ_cons,List.drop_zero,List.getD_cons_zero,Int.toNat_natCast,hR];rw[if_neg (by simp),if_neg (by omega),if_neg (by simp),if_pos (by rw[he])]
theorem Ap {b:LI} {n:Int} (hr:Y4 b) (h:(DEC8 b n).2=0):0<=n∧n<=65536∧((DEC8 b n).1.length:Int)=n∧I64s (DEC8 b n).1∧(ENC8 (DEC8 b n).1)=(b,0):=by
 unfold DEC8 at *
 by_cases hn:n<0∨65536<n
 ·rw[if_pos hn] at h;cases h
 ·rw[if_neg hn] at h ⊢
  by_cases hb:b=[]
  ·rw[if_pos hb] at h;cases h
  ·rw[if_neg hb] at h ⊢
   by_cases h4:4<b.getD 0 0
   ·rw[if_pos h4] at h;cases h
   ·rw[if_neg h4] at h ⊢
    by_cases hR:(READ (b.drop 1) n.toNat (b.getD 0 0).toNat).2≠0
    ·rw[if_pos hR] at h;exact absurd h hR
    ·rw[if_neg hR] at h ⊢
     by_cases hE:(ENC8 (READ (b.drop 1) n.toNat (b.getD 0 0).toNat).1).1=b
     ·rw[if_pos hE]
      obtain⟨hg,h0⟩:=T0 (λy hy=>hr y (List.mem_of_mem_drop hy)) (show (READ (b.drop 1) n.toNat (b.getD 0 0).toNat).2=0 by simpa using hR);refine⟨by omega,by omega,by simp only[h0];omega,hg,?_⟩;have:=Gl (l:=(READ (b.drop 1) n.toNat (b.getD 0 0).toNat).1) (by rw[h0];omega);rw[this] at hE ⊢;simp only at hE;simp only[hE]
     ·rw[if_neg hE] at h;cases h
def tzF:Nat->Nat->Nat
 | 0,_=>0
 | f+1,x=>if x % 2=0 then tzF f (x / 2)+1 else 0
def tz (x:Nat):Nat:=tzF 64 x
def ldz (x:Nat):Nat:=min (64 - wid x) 31
abbrev fitsW (x a z:Nat):Prop:=a<=64 - wid x∧z<=tz x
def newW (x:Nat):List Bool:=true :: true :: (Ql (ldz x) 5++(Ql (63 - ldz x - tz x) 6++Ql (x / 2^tz x) (64 - ldz x - tz x)))
def gx (x:Nat) (wn:Option (Nat × Nat)):List Bool × Option (Nat × Nat) :=
 if x=0 then ([false],wn) else
 match wn with
 | none=>(newW x,some (ldz x,tz x))
 | some (a,z)=>if fitsW x a z then (true :: false :: Ql (x / 2^z) (64 - a - z),some (a,z)) else (newW x,some (ldz x,tz x))
def gE:Nat->Option (Nat × Nat)->LI->List Bool
 | _,_,[]=>[]
 | p,wn,y :: t=>(gx (p ^^^ y.toNat) wn).1++gE y.toNat (gx (p ^^^ y.toNat) wn).2 t
def GB:LI->List Bool
 | []=>[]
 | y :: t=>Ql y.toNat 64++gE y.toNat none t
def Win (wn:Option (Nat × Nat)):Prop:=∀a z,wn=some (a,z)->a<=31∧a+z<=63
theorem L9:∀(f x:Nat),2^tzF f x∣x
 | 0,x=>by simp[tzF]
 | f+1,x=>by
  rw[tzF]
  by_cases h:x % 2=0
  ·rw[if_pos h]
   obtain⟨k,hk⟩:=L9 f (x / 2);refine⟨k,?_⟩
   have e:x=2*(x / 2):=by omega
   rw[Nat.pow_succ,Nat.mul_comm (2^tzF f (x / 2)) 2,Nat.mul_assoc,<-hk];exact e
  ·rw[if_neg h];simp
theorem Nf:∀(f x:Nat),0<x->x<2^f->x / 2^tzF f x % 2=1
 | 0,x,h0,h1=>by simp at h1;omega
 | f+1,x,h0,h1=>by
  rw[tzF]
  by_cases h:x % 2=0
  ·rw[if_pos h,Nat.pow_succ,Nat.mul_comm,<-Nat.div_div_eq_div_mul]
   exact Nf f (x / 2) (by omega) (by rw[Nat.pow_succ] at h1;omega)
  ·rw[if_neg h];simp;omega
theorem Af:∀(f x:Nat),0<x->x<2^f->tzF f x<f
 | 0,x,h0,h1=>by simp at h1;omega
 | f+1,x,h0,h1=>by
  rw[tzF]
  by_cases h:x % 2=0
  ·rw[if_pos h]
   have:=Af f (x / 2) (by omega) (by rw[Nat.pow_succ] at h1;omega);omega
  ·rw[if_neg h];omega
theorem p64:(2:Nat)^64=18446744073709551616:=by decide
theorem Xs {x z:Nat} (h:z<=tz x):x / 2^z*2^z=x:=by
 have h1:2^z∣x:=Nat.dvd_trans (Nat.pow_dvd_pow 2 h) (L9 64 x);exact Nat.div_mul_cancel h1
theorem Xm {x a z:Nat} (hx:x<18446744073709551616) (ha:a<=64 - wid x) (hz:a+z<=63):x / 2^z<2^(64 - a - z):=by
 have hw:=Ki x hx;have h1:x<2^(64 - a):=(Yi x (64 - a)).1 (by omega);rw[Nat.div_lt_iff_lt_mul (Nat.two_pow_pos z),<-Nat.pow_add];rw[show 64 - a - z+z=64 - a by omega];exact h1
theorem VW {x:Nat} (h0:0<x) (hx:x<18446744073709551616):ldz x<=31∧ldz x<=64 - wid x∧ldz x+tz x<=63:=by
 have h1:tz x<64:=Af 64 x h0 (by rw[p64];exact hx)
 have h2:tz x<wid x:=by
  rcases Nat.lt_or_ge (tz x) (wid x) with h | h
  ·exact h
  ·have h3:x<2^tz x:=(Yi x (tz x)).1 h
   have h4:x / 2^tz x*2^tz x=x:=Xs Zu;rw[Nat.div_eq_of_lt h3] at h4;omega
 have hw:=Ki x hx;unfold ldz;omega
theorem Win.next {x:Nat} {wn:Option (Nat × Nat)} (hw:Win wn) (hx:x<18446744073709551616):Win (gx x wn).2:=by
 intro a z h;unfold gx at h
 by_cases h0:x=0
 ·rw[if_pos h0] at h;exact hw a z h
 ·rw[if_neg h0] at h
  have hn:=VW (by omega) hx
  cases wn with
  | none =>
   simp only[Option.some.injEq,Prod.mk.injEq] at h;obtain⟨rfl,rfl⟩:=h;exact⟨hn.1,hn.2.2⟩
  | some p =>
   obtain⟨a',z'⟩:=p;simp only at h
   by_cases hf:fitsW x a' z'
   ·rw[if_pos hf] at h;exact hw a z h
   ·rw[if_neg hf] at h
    simp only[Option.some.injEq,Prod.mk.injEq] at h;obtain⟨rfl,rfl⟩:=h;exact⟨hn.1,hn.2.2⟩
theorem Win.none:Win none:=λa z h=>by cases h
def gR (wn:Option (Nat × Nat)):List Bool->Nat × Option (Nat × Nat) × List Bool × Int
 | []=>(0,wn,[],2)
 | false :: r=>(0,wn,r,0)
 | [true]=>(0,wn,[],2)
 | true :: false :: r =>
  match wn with
  | none=>(0,none,r,3)
  | some (a,z)=>if r.length<64 - a - z then (0,wn,r,2) else (bnum (r.take (64 - a - z))*2^z,wn,r.drop (64 - a - z),0)
 | true :: true :: r =>
  if r.length<5 then (0,wn,r,2) else
  if r.length<11 then (0,wn,r,2) else
  if 63<bnum (r.take 5)+bnum ((r.drop 5).take 6) then (0,wn,r,3) else
  if r.length<12+bnum ((r.drop 5).take 6) then (0,wn,r,2) else
  (bnum ((r.drop 11).take (bnum ((r.drop 5).take 6)+1))*2^(63 - bnum (r.take 5) - bnum ((r.drop 5).take 6)),some (bnum (r.take 5),63 - bnum (r.take 5) - bnum ((r.drop 5).take 6)),r.drop (12+bnum ((r.drop 5).take 6)),0)
def gDA:Nat->LI->Nat->Option (Nat × Nat)->List Bool->LI × Int
 | 0,acc,_,_,_=>(acc,0)
 | n+1,acc,p,wn,l=>if (gR wn l).2.2.2≠0 then ([],(gR wn l).2.2.2) else gDA n (acc++[((p ^^^ (gR wn l).1:Nat):Int)]) (p ^^^ (gR wn l).1) (gR wn l).2.1 (gR wn l).2.2.1
def gRd (l:List Bool) (n:Nat):LI × Int :=
 if n=0 then ([],0) else if l.length<64 then ([],2) else gDA (n - 1) [(bnum (l.take 64):Int)] (bnum (l.take 64)) none (l.drop 64)
theorem ZE {v n:Nat} (h:v<2^n):bnum (Ql v n)=v:=by rw[GE,Nat.mod_eq_of_lt h]
theorem Tq {x:Nat} {wn:Option (Nat × Nat)} (h0:0<x) (hx:x<18446744073709551616) (r:List Bool):gR wn (newW x++r)=(x,some (ldz x,tz x),r,0):=by
 obtain⟨h1,h2,h3⟩:=VW h0 hx;have l5:(Ql (ldz x) 5).length=5:=Yo _ _;have l6:(Ql (63 - ldz x - tz x) 6).length=6:=Yo _ _;have lm:(Ql (x / 2^tz x) (64 - ldz x - tz x)).length=64 - ldz x - tz x:=Yo _ _
 have p5:(2:Nat)^5=32:=by decide
 have p6:(2:Nat)^6=64:=by decide
 have e5:bnum (Ql (ldz x) 5)=ldz x:=ZE (by omega);have e6:bnum (Ql (63 - ldz x - tz x) 6)=63 - ldz x - tz x:=ZE (by omega);have em:bnum (Ql (x / 2^tz x) (64 - ldz x - tz x))=x / 2^tz x:=ZE (Xm hx h2 h3);have hb:=Xs (Nat.le_refl (tz x));generalize hA:Ql (ldz x) 5=A at *;generalize hB:Ql (63 - ldz x - tz x) 6=B at *;generalize hC:Ql (x / 2^tz x) (64 - ldz x - tz x)=C at *
 have hn:newW x++r=true :: true :: (A++(B++(C++r))):=by
  unfold newW;rw[hA,hB,hC];simp
 rw[hn]
 have t5:(A++(B++(C++r))).take 5=A:=by rw[List.take_left' l5]
 have d5:(A++(B++(C++r))).drop 5=B++(C++r):=by rw[List.drop_left' l5]
 have t6:(B++(C++r)).take 6=B:=by rw[List.take_left' l6]
 have d6:(B++(C++r)).drop 6=C++r:=by rw[List.drop_left' l6]
 have h4:(A++(B++(C++r))).drop 11=C++r:=by rw[show (11:Nat)=5+6 from rfl,<-List.drop_drop,d5,d6]
 have hlen:(A++(B++(C++r))).length=11+(64 - ldz x - tz x)+r.length:=by
  simp only[Qb];omega
 rw[gR];rw[t5,d5,t6,h4,e5,e6];rw[if_neg (by omega),if_neg (by omega),if_neg (by omega),if_neg (by omega)]
 have q1:63 - ldz x - tz x+1=64 - ldz x - tz x:=by omega
 have q2:63 - ldz x - (63 - ldz x - tz x)=tz x:=by omega
 have d12:(A++(B++(C++r))).drop (12+(63 - ldz x - tz x))=r:=by
  rw[show 12+(63 - ldz x - tz x)=11+(64 - ldz x - tz x) by omega,<-List.drop_drop,h4,List.drop_left' lm]
 rw[q1,q2,d12,List.take_left' lm,em,hb]
theorem gR_gx {x:Nat} {wn:Option (Nat × Nat)} (hw:Win wn) (hx:x<18446744073709551616) (r:List Bool):gR wn ((gx x wn).1++r)=(x,(gx x wn).2,r,0):=by
 unfold gx
 by_cases h0:x=0
 ·subst h0
  rw[if_pos rfl];rfl
 ·rw[if_neg h0]
  cases wn with
  | none=>exact Tq (by omega) hx r
  | some p =>
   obtain⟨a,z⟩:=p;simp only
   by_cases hf:fitsW x a z
   ·rw[if_pos hf]
    obtain⟨ha,hz⟩:=hf;obtain⟨w1,w2⟩:=hw a z rfl;have lm:(Ql (x / 2^z) (64 - a - z)).length=64 - a - z:=Yo _ _;have em:bnum (Ql (x / 2^z) (64 - a - z))=x / 2^z:=ZE (Xm hx ha w2);have hb:=Xs hz;generalize Ql (x / 2^z) (64 - a - z)=C at *
    show gR (some (a,z)) (true :: false :: (C++r))=_
    rw[gR];simp only;rw[if_neg (by rw[Qb];omega),List.take_left' lm,List.drop_left' lm,em,hb]
   ·rw[if_neg hf]
    exact Tq (by omega) hx r
theorem ZZ {a b:Nat} (ha:a<18446744073709551616) (hb:b<18446744073709551616):a ^^^ b<18446744073709551616:=by
 rw[<-p64] at *;exact Nat.xor_lt_two_pow ha hb
theorem kV (a b:Nat):a ^^^ (a ^^^ b)=b:=by rw[<-Nat.xor_assoc,Nat.xor_self,Nat.zero_xor]
theorem Ew (l:LI):∀(acc:LI) (p:Nat) (wn:Option (Nat × Nat)) (r:List Bool),U64 l->p<18446744073709551616->Win wn->gDA l.length acc p wn (gE p wn l++r)=(acc++l,0):=by
 induction l with
 | nil=>intro acc p wn r _ _ _;simp[gDA]
 | cons y t ih =>
  intro acc p wn r hu hp hw;have hy:=hu y List.mem_cons_self;have hx:=ZZ hp (show y.toNat<18446744073709551616 by omega)
  have e:gE p wn (y :: t)++r=(gx (p ^^^ y.toNat) wn).1++(gE y.toNat (gx (p ^^^ y.toNat) wn).2 t++r):=by rw[gE,List.append_assoc]
  rw[e,Qk,gDA,gR_gx hw hx];simp only[ne_eq,not_true_eq_false,if_false,kV];rw[ih _ _ _ _ (λz hz=>hu z (List.mem_cons_of_mem _ hz)) (by omega) (hw.next hx),Int.toNat_of_nonneg hy.1];simp
theorem C9 (hu:U64 l) (r:List Bool):gRd (GB l++r) l.length=(l,0):=by
 cases l with
 | nil=>rfl
 | cons y t =>
  have hy:=hu y List.mem_cons_self;have h0:(Ql y.toNat 64).length=64:=Yo _ _;have e64:bnum (Ql y.toNat 64)=y.toNat:=ZE (by rw[p64];omega);unfold gRd GB;rw[if_neg (by simp),List.append_assoc,if_neg (by rw[Qb];omega),List.take_left' h0,List.drop_left' h0,e64,Qk,Nat.add_sub_cancel];rw[Ew t _ _ _ _ (λz hz=>hu z (List.mem_cons_of_mem _ hz)) (by omega) Win.none,Int.toNat_of_nonneg hy.1]
  rfl
theorem gR_ok {wn:Option (Nat × Nat)} (hw:Win wn) (l:List Bool) (h:(gR wn l).2.2.2=0):(gR wn l).1<18446744073709551616∧Win (gR wn l).2.1:=by
 have h0:∀(c:List Bool) (a z m:Nat),c.length<=m->m+z+a<=64->bnum c*2^z<18446744073709551616:=by
  intro c a z m hc hm;have h1:=Wi c;have h2:2^c.length<=2^m:=Nat.pow_le_pow_right (by omega) hc;have h3:bnum c*2^z<2^m*2^z:=Nat.mul_lt_mul_of_pos_right (by omega) (Nat.two_pow_pos z);rw[<-Nat.pow_add] at h3;have h4:2^(m+z)<=2^64:=Nat.pow_le_pow_right (by omega) (by omega);rw[p64] at h4;omega
 match l,h with
 | [],h=>exact absurd h (by simp[gR])
 | false :: r,_=>exact⟨by simp[gR],by simpa [gR] using hw⟩
 | [true],h=>exact absurd h (by simp[gR])
 | true :: false :: r,h =>
  cases wn with
  | none=>exact absurd h (by simp[gR])
  | some p =>
   obtain⟨a,z⟩:=p;obtain⟨w1,w2⟩:=hw a z rfl;rw[gR] at h ⊢
   by_cases hl:r.length<64 - a - z
   ·rw[if_pos hl] at h;cases h
   ·rw[if_neg hl]
    exact⟨h0 _ a z (64 - a - z) (by rw[Qg];omega) (by omega),hw⟩
 | true :: true :: r,h =>
  rw[gR] at h ⊢
  by_cases c1:r.length<5
  ·rw[if_pos c1] at h;cases h
  ·rw[if_neg c1] at h ⊢
   by_cases c2:r.length<11
   ·rw[if_pos c2] at h;cases h
   ·rw[if_neg c2] at h ⊢
    by_cases c3:63<bnum (r.take 5)+bnum ((r.drop 5).take 6)
    ·rw[if_pos c3] at h;cases h
    ·rw[if_neg c3] at h ⊢
     by_cases c4:r.length<12+bnum ((r.drop 5).take 6)
     ·rw[if_pos c4] at h;cases h
     ·rw[if_neg c4]
      have hb:=Wi (r.take 5)
      have hb2:(r.take 5).length=5:=by rw[Qg];omega
      rw[hb2] at hb;refine⟨h0 _ (bnum (r.take 5)) _ (bnum ((r.drop 5).take 6)+1) (by rw[Qg];omega) (by omega),?_⟩;intro a z e;simp only[Option.some.injEq,Prod.mk.injEq] at e;obtain⟨rfl,rfl⟩:=e
      have:(2:Nat)^5=32:=by decide
      omega
theorem Nc:∀(n:Nat) (acc:LI) (p:Nat) (wn:Option (Nat × Nat)) (l:List Bool),U64 acc->p<18446744073709551616->Win wn->(gDA n acc p wn l).2=0->U64 (gDA n acc p wn l).1∧(gDA n acc p wn l).1.length=acc.length+n
 | 0,acc,_,_,_,hu,_,_,_=>⟨hu,rfl⟩
 | n+1,acc,p,wn,l,hu,hp,hw,h=>by
  rw[gDA] at h ⊢
  by_cases hc:(gR wn l).2.2.2≠0
  ·rw[if_pos hc] at h;exact absurd h hc
  ·rw[if_neg hc] at h ⊢
   obtain⟨h1,h2⟩:=gR_ok hw l (by simpa using hc);have hx:=ZZ hp h1
   obtain⟨h3,h4⟩:=Nc n _ _ _ _ (λy hy=>by
    rcases List.mem_append.1 hy with h | h
    ·exact hu y h
    ·simp at h;omega) hx h2 h
   exact⟨h3,by rw[h4,Qb];simp;omega⟩
theorem Tu {l:List Bool} (h:(gRd l n).2=0):U64 (gRd l n).1∧(gRd l n).1.length=n:=by
 unfold gRd at *
 by_cases h0:n=0
 ·rw[if_pos h0];exact⟨λx hx=>by simp at hx,by simp[h0]⟩
 ·rw[if_neg h0] at h ⊢
  by_cases h1:l.length<64
  ·rw[if_pos h1] at h;cases h
  ·rw[if_neg h1] at h ⊢
   have hb:=Wi (l.take 64)
   have hl:(l.take 64).length=64:=by rw[Qg];omega
   rw[hl,p64] at hb;obtain⟨h2,h3⟩:=Nc (n - 1) _ _ _ _ (λy hy=>by simp at hy;omega) hb Win.none h;exact⟨h2,by rw[h3];simp;omega⟩
end Go.Proofs.YtiochaeeoelmjaaGreatDoor
