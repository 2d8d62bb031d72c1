import Derived.Test.YtoflhbghdlaeaaaGreatDoorG5
import Derived.Laws.CopyOwn
namespace Go.Proofs.YtoflhbghdlaeaaaGreatDoor
set_option maxHeartbeats 1600000
set_option maxRecDepth 100000
open Go.RowKit _root_.Go.Proofs.Tryz
variable {w w' W:World} {v:Value} {ys xs l:LI} {R n p k g B:Nat} {P:Program} {ls:List (LI)} {E:TypeId}
theorem Tryz.zero52:(prog.info? 190).map (λi=>(i.zero,i.size))=some (some (.agg zK.toArray),64):=by kernel_rfl
theorem sum4 (a b c d:Nat):IntKind.u32.wrap (IntKind.u32.wrap (IntKind.u32.wrap ((a:Int)+b)+c)+d)=(((a+b+c+d) % 4294967296:Nat):Int):=by
 rw[IntKind.wrap_u32',IntKind.wrap_u32',IntKind.wrap_u32'];omega
theorem vN (a:Nat) (y:Int) (ha:a<16777216) (h0:0<=y) (h1:y<=255):bits .or .u32 ((a:Int)*256) y=((a*256+y.toNat:Nat):Int):=by
 obtain⟨b,rfl⟩:=Int.eq_ofNat_of_zero_le h0;rw[show ((a:Int)*256)=((a*256:Nat):Int) by simp];have:=u32_or_nat (a*256) b (by omega) (by omega);rw[this,OY a b (by omega)]
 rfl
theorem Ci (p:LI) (hp:p.length=64) (h8:U8 p) (w:World):Calls prog 145 #[.agg (bl p).toArray] w λe w'=>e=.returned (.agg (wl (wds p)).toArray)∧N0 w w':=by
 have HX:=Qa (qY p hp);have H8:=Qa h8
 have hu:(prog.info? 117).map (·.size)=some (bl p).toArray.size:=by simp[Qs,hp,Tryz.size31]
 have hh:=Qa hu;obtain⟨B,hB⟩:=EX (bl p);rw[<-hB] at HX hh ⊢;have hs:=(zero_of_info (P:=prog) Tryz.zero52).1;obtain⟨Z,hZ⟩:=EX zK;rw[<-hZ] at hs;have HZ:=Qa hZ
 have k0:(prog.info? 190).map (·.size)=some (wl (wds p)).toArray.size:=by simp[QQ,Vi,Tryz.size52]
 have hd:=Qa k0
 have hw:Hid (Z.toArray.size=(wl (wds p)).toArray.size):=by
  show _=_
  rw[HZ.o];simp[QQ,Vi,zK]
 have HA:=Qa (UB (wds p));obtain⟨D,hD⟩:=EX (wl (wds p));rw[<-hD] at hd hw HA ⊢;have HD:=Qa hD.symm;clear hB hu h8 hp hZ hD k0;go_enter func145,ntmps145;go_wp2_with (refine wpList_load_row rfl 117 _ rfl w.heap.size rfl 117 B.toArray (0,0) _ (((Blk.new w 117 B).alloc _).alloc _) underlying117 rfl hh.o ?_)
 have S0:Hid (Blk (((w.alloc (.cells B.toArray 117)).alloc (.cells Z.toArray 190)).alloc (.cells Z.toArray 190)) (w.heap.size+1+1) 190 (wl (wpart p 0))):=by
  have:=Blk.new ((w.alloc (.cells B.toArray 117)).alloc (.cells Z.toArray 190)) 190 Z;rw[size_alloc,size_alloc] at this;rw[wL];rw[HZ.o] at this ⊢;exact this
 have R0:Hid (Blk (((w.alloc (.cells B.toArray 117)).alloc (.cells Z.toArray 190)).alloc (.cells Z.toArray 190)) (w.heap.size+1) 190 Z):=by
  have:=(Blk.new (w.alloc (.cells B.toArray 117)) 190 Z).alloc (.cells Z.toArray 190);rw[size_alloc] at this;exact this
 have O0:Hid (N0 w (((w.alloc (.cells B.toArray 117)).alloc (.cells Z.toArray 190)).alloc (.cells Z.toArray 190))):=(((Only.refl _ _).alloc _).alloc _).alloc _;obtain⟨G,hG⟩:=EX (w.heap.size+1+1);obtain⟨R,hR⟩:=EX (w.heap.size+1);obtain⟨W0,h9⟩:=EX ((((w.alloc (.cells B.toArray 117)).alloc (.cells Z.toArray 190)).alloc (.cells Z.toArray 190)));rw[<-hG,<-h9] at S0;rw[<-hR,<-h9] at R0;rw[<-h9] at O0;rw[<-hG,<-hR,<-h9];have HG:Hid (w.heap.size<=G∧w.heap.size<=R∧R≠G):=⟨by omega,by omega,by omega⟩;clear hG hR h9 hs
 go_loopw [8] (λi wr=>∃j:Nat,j<=64∧i=.int .i64 j∧Blk wr G 190 (wl (wpart p j))∧Blk wr R 190 Z∧N0 w wr) (λi _=>64 - (intOf i).toNat)
 case atStart=>exact⟨0,by omega,rfl,S0.o,R0.o,O0.o⟩
 case round =>
  obtain⟨j,hj,rfl,hS,hR,hO⟩:=hrel;clear S0 R0 O0
  by_cases hlt:j<64
  ·obtain⟨y,hy⟩:=EX (p.getD j 0)
   obtain⟨a,ha⟩:=EX (accw p (j / 4) (j % 4));have hix:=HX.o j hlt;have hr:=H8.o.at j;rw[<-hy] at hix hr;obtain⟨y0,y1⟩:=hr
   have h0:wr.cell? ⟨G,j / 4,none⟩=some (.int .u32 (a:Int)):=by
    rw[hS.cell,wl_at _ _ (by rw[wu];omega),Sz p j hlt,<-ha]
   have hfr:wr.frozen? ⟨G,j / 4,none⟩=false:=hS.froz _
   have hal:a<16777216:=by
    have h1:=LA p H8.o (j / 4) (j % 4);rw[<-ha] at h1;have h2:256^(j % 4)<=256^3:=Nat.pow_le_pow_right (by decide) (by omega)
    have h3:256^3=16777216:=by decide
    omega
   have i0:(0:Int)<=(j:Int):=by omega
   have i1:(j:Int)<64:=by omega
   have hor:=vN a y hal y0 y1;obtain⟨q,hq⟩:∃q:Nat,q=a*256+y.toNat:=⟨_,rfl⟩;rw[<-hq] at hor
   have N1:Hid (Blk (wr.setCell ⟨G,j / 4,none⟩ (.int .u32 (q:Int))) G 190 (wl (wpart p (j+1)))):=by
    have:=hS.set (j / 4) (.int .u32 (q:Int));rw[UP] at this;rw[yl p j hlt,<-ha,<-hy,<-hq];exact this
   have h4:=(Only.refl (λk=>k=G) wr).setCell (p:=⟨G,j / 4,none⟩) (λ_=>rfl) (.int .u32 (q:Int));have N2:=Qa (hR.keep h4 HG.o.2.2);have N3:=Qa (hO.trans h4 (λi hi e=>by have:=HG.o.1;omega));clear ha hy hS hR hO h4 hq;go_wp2
   go_roundw
   case rel=>exact⟨j+1,by omega,by go_num,N1.o,N2.o,N3.o⟩
   case measure=>simp[intOf];omega
  ·obtain rfl:j=64:=by omega
   have S1:Hid (Blk wr G 190 (wl (wv p 16++List.replicate 48 0))):=by
    show _
    rw[vi] at hS;exact hS
   have R1:=Qa hR;have O1:=Qa hO;obtain⟨W1,hW1⟩:=EX wr;subst hW1;clear hS hR hO HX hh;go_wp2
   go_loopw [6] (λi wr=>∃t:Nat,16<=t∧t<=64∧i=.int .i64 t∧Blk wr G 190 (wl (wv p t++List.replicate (64 - t) 0))∧Blk wr R 190 Z∧N0 w wr) (λi _=>64 - (intOf i).toNat)
   case atStart=>exact⟨16,by omega,by omega,rfl,S1.o,R1.o,O1.o⟩
   case round =>
    obtain⟨t,ht,ht2,rfl,hS,hR,hO⟩:=hrel;clear S1 R1 O1
    by_cases hlt:t<64
    ·have hl:=Rf p t ht
     have h6:W32 (wv p t):=by
      have:=Rl p H8.o (t - 16)
      rwa [show 16+(t - 16)=t by omega] at this
     have h0:∀k,k<t->wr.cell? ⟨G,k,none⟩=some (.int .u32 (((wv p t).getD k 0:Nat):Int)):=λk hk=>by
      rw[hS.cell,wl_at _ _ (by simp;omega),OJ _ _ _ (by omega)]
     have hb:=qB (wv p t) t hl;obtain⟨a2,e2⟩:=EX ((wv p t).getD (t - 2) 0);obtain⟨a7,e7⟩:=EX ((wv p t).getD (t - 7) 0);obtain⟨hm,he⟩:=EX ((wv p t).getD (t - 15) 0);obtain⟨ho,hf⟩:=EX ((wv p t).getD (t - 16) 0);have c2:=h0 (t - 2) (by omega);have c7:=h0 (t - 7) (by omega);have k1:=h0 (t - 15) (by omega);have hv:=h0 (t - 16) (by omega);have b2:=h6.at (t - 2);have hg:=h6.at (t - 15);rw[<-e2] at c2 b2;rw[<-e7] at c7;rw[<-he] at k1 hg;rw[<-hf] at hv;rw[<-e2,<-e7,<-he,<-hf] at hb;have hfr:wr.frozen? ⟨G,t,none⟩=false:=hS.froz _
     have hz:∃v,wr.cell? ⟨G,t,none⟩=some v:=by
      rw[hS.cell];exact⟨_,Qg (by rw[QQ];simp;omega)⟩
     obtain⟨vt,hz⟩:=hz
     have i2:(0:Int)<=(t:Int) - 16:=by omega
     have i3:(t:Int)<64:=by omega
     have b1:=Qa b2;have b3:=Qa hg;have HNX:=Qa hb;obtain⟨V,hV⟩:=EX (IntKind.u32.wrap (IntKind.u32.wrap (IntKind.u32.wrap (((sg1 a2:Nat):Int)+a7)+((sg0 hm:Nat):Int))+ho))
     have HV:V=((nextw (wv p t):Nat):Int):=by rw[hV,sum4,hb]
     have N1:Hid (Blk (wr.setCell ⟨G,t,none⟩ (.int .u32 V)).drew G 190 (wl (wv p (t+1)++List.replicate (64 - (t+1)) 0))):=by
      have:=hS.set t (.int .u32 V);rw[HV,UP,Bl _ t _ hl hlt,<-LW p t ht,<-HV] at this;exact this.drew
     have h4:=(Only.refl (λk=>k=G) wr).setCell (p:=⟨G,t,none⟩) (λ_=>rfl) (.int .u32 V);have N2:=Qa (hR.keep h4.drew HG.o.2.2);have N3:=Qa (hO.trans h4.drew (λi hi e=>by have:=HG.o.1;omega));rw[hV] at N1 N2 N3;clear HV h4 hV HNX V;clear e2 e7 he hf h0 hl h6 hb hS hR hO b2 hg;obtain⟨k2,f2⟩:=EX (t - 2);obtain⟨k7,f7⟩:=EX (t - 7);obtain⟨h5,hx⟩:=EX (t - 15);obtain⟨h7,hn⟩:=EX (t - 16);rw[<-f2] at c2;rw[<-f7] at c7;rw[<-hx] at k1;rw[<-hn] at hv
     have m2:(k2:Int)<64:=by omega
     have n2:¬t=k2:=by omega
     have o2:¬k2=t:=by omega
     have m7:(k7:Int)<64:=by omega
     have n7:¬t=k7:=by omega
     have o7:¬k7=t:=by omega
     have m15:(h5:Int)<64:=by omega
     have n15:¬t=h5:=by omega
     have o15:¬h5=t:=by omega
     have m16:(h7:Int)<64:=by omega
     have n16:¬t=h7:=by omega
     have o16:¬h7=t:=by omega
     have g2:(t:Int) - 2=(k2:Int):=by omega
     have g7:(t:Int) - 7=(k7:Int):=by omega
     have g15:(t:Int) - 15=(h5:Int):=by omega
     have g16:(t:Int) - 16=(h7:Int):=by omega
     have r2:IntKind.i64.wrap (k2:Int)=(k2:Int):=by rw[IntKind.wrap_i64];omega
     have r7:IntKind.i64.wrap (k7:Int)=(k7:Int):=by rw[IntKind.wrap_i64];omega
     have r15:IntKind.i64.wrap (h5:Int)=(h5:Int):=by rw[IntKind.wrap_i64];omega
     have r16:IntKind.i64.wrap (h7:Int)=(h7:Int):=by rw[IntKind.wrap_i64];omega
     clear f2 f7 hx hn i2;go_wp2;go_region_held3 (λW=>W.cell? ⟨G,k2,none⟩=some (Value.int .u32 a2)∧W.cell? ⟨G,k7,none⟩=some (Value.int .u32 a7)∧W.cell? ⟨G,h5,none⟩=some (Value.int .u32 hm)∧W.cell? ⟨G,h7,none⟩=some (Value.int .u32 ho)) (simp[*,Cc]) (first|(go_at_call 180;refine (Oa a2 _ b1.o).mono ?_;rintro e w2 ⟨rfl,rfl⟩)|(go_at_call 181;refine (uW hm _ b3.o).mono ?_;rintro e w2 ⟨rfl,rfl⟩));go_wp2
     go_roundw
     case rel=>((repeat apply Exists.intro);exact⟨⟨t+1,by omega,by omega,by go_num,N1.o,N2.o,N3.o⟩,rfl⟩)
     case measure=>simp[intOf];omega
    ·obtain rfl:t=64:=by omega
     have S2:Hid (Blk wr G 190 (wl (wds p))):=by
      show _
      rw[yM,Nat.sub_self,List.replicate_zero,List.append_nil] at hS;exact hS
     have R2:=Qa hR;have O2:=Qa hO;rw[HD.o] at S2;clear hS hR hO;go_wp2_with (first|(refine wpList_load_row rfl 190 (.tmp 3) rfl G rfl 190 D.toArray (0,0) _ S2.o underlying190 rfl hd.o ?_)|(refine wpList_store_row rfl 190 (.tmp 2) (.tmp 51) rfl R D.toArray rfl rfl 190 Z.toArray R2.o hd.o hw.o HA.o ?_));refine bodyPost_ret (v:=.agg D.toArray) (results_cell_row rfl _ _ R 190 D.toArray (0,0) _ rfl (R2.o.row D) underlying190 rfl hd.o) rfl ⟨rfl,?_⟩;exact O2.o.setRow (λh=>absurd h (by have:=HG.o.2.1;omega)) _
theorem Ob (s:List Nat) (k w:Nat) (h:W32 s):W32 (rnd s k w):=by
 intro x hx;simp only[rnd,List.mem_cons,List.not_mem_nil,or_false] at hx
 rcases hx with rfl | rfl | rfl | rfl | rfl | rfl | rfl | rfl
 ·exact Nat.mod_lt _ (by decide)
 ·exact h.at 0
 ·exact h.at 1
 ·exact h.at 2
 ·exact Nat.mod_lt _ (by decide)
 ·exact h.at 4
 ·exact h.at 5
 ·exact h.at 6
theorem NZ (s:List Nat) (w:List Nat) (h:W32 s) (t:Nat):W32 (rnds s w t):=by
 induction t with
 | zero=>exact h
 | succ t ih=>rw[LR];exact Ob _ _ _ ih
theorem ub:W32 shH:=by unfold W32 shH;decide
theorem Cd (s:List Nat) (b:LI):W32 (thru s b):=AE s b
theorem Sp (e f g:Nat) (he:e<4294967296) (hf:f<4294967296) (hg:g<4294967296) :
 bits .xor .u32 (bits .and .u32 (e:Int) (f:Int)) (bits .and .u32 ((4294967295 - e:Nat):Int) (g:Int))=((chw e f g:Nat):Int):=by
 rw[u32_and_nat _ _ he hf,u32_and_nat _ _ (by omega) hg,u32_xor_nat _ _ (Ki _ he) (Ki _ (by omega))];rfl
theorem Bc (a b c:Nat) (ha:a<4294967296) (hb:b<4294967296) (hc:c<4294967296) :
 bits .xor .u32 (bits .xor .u32 (bits .and .u32 (a:Int) (b:Int)) (bits .and .u32 (a:Int) (c:Int))) (bits .and .u32 (b:Int) (c:Int))=((majw a b c:Nat):Int):=by
 rw[u32_and_nat _ _ ha hb,u32_and_nat _ _ ha hc,u32_and_nat _ _ hb hc,u32_xor_nat _ _ (Ki _ ha) (Ki _ ha),u32_xor_nat _ _ (UW (Ki _ ha) (Ki _ ha)) (Ki _ hb)];rfl
def t1w (s:List Nat) (k w:Nat):Nat:=(s.getD 7 0+KL (s.getD 4 0)+chw (s.getD 4 0) (s.getD 5 0) (s.getD 6 0)+k+w) % 4294967296
def t2w (s:List Nat):Nat:=(Vz (s.getD 0 0)+majw (s.getD 0 0) (s.getD 1 0) (s.getD 2 0)) % 4294967296
theorem rnd_t (s:List Nat) (k w:Nat):rnd s k w=[(t1w s k w+t2w s) % 4294967296,s.getD 0 0,s.getD 1 0,s.getD 2 0,(s.getD 3 0+t1w s k w) % 4294967296,s.getD 4 0,s.getD 5 0,s.getD 6 0]:=by
 unfold rnd t1w t2w
 congr 1
 ·omega
 ·congr 4
  omega
theorem sum5 (a b c d e:Nat):IntKind.u32.wrap (IntKind.u32.wrap (IntKind.u32.wrap (IntKind.u32.wrap ((a:Int)+b)+c)+d)+e)=(((a+b+c+d+e) % 4294967296:Nat):Int):=by
 rw[IntKind.wrap_u32',IntKind.wrap_u32',IntKind.wrap_u32',IntKind.wrap_u32'];omega
theorem sum2 (a b:Nat):IntKind.u32.wrap ((a:Int)+b)=(((a+b) % 4294967296:Nat):Int):=by
 rw[IntKind.wrap_u32'];omega
theorem getD8 (s:List Nat) (h:s.length=8):s=[s.getD 0 0,s.getD 1 0,s.getD 2 0,s.getD 3 0,s.getD 4 0,s.getD 5 0,s.getD 6 0,s.getD 7 0]:=by
 match s,h with
 | [a,b,c,d,e,f,g,h],_=>rfl
def addp (s r:List Nat) (i:Nat):List Nat:=(List.range 8).map λk=>if k<i then (s.getD k 0+r.getD k 0) % 4294967296 else s.getD k 0
theorem Oy (s r:List Nat) (i:Nat):(addp s r i).length=8:=by simp[addp]
theorem vf (s r:List Nat) (h:s.length=8):addp s r 0=s:=by
 have:List.range 8=[0,1,2,3,4,5,6,7]:=rfl;rw[getD8 s h];unfold addp;rw[this]
 rfl
theorem Sk (s:List Nat) (b:LI):addp s (rnds s (wds b) 64) 8=thru s b:=by
 unfold addp thru
 apply List.map_congr_left
 intro k hk;rw[if_pos (List.mem_range.1 hk)]
theorem OE (s r:List Nat) (i:Nat) (hi:i<8):(addp s r i).getD i 0=s.getD i 0:=by
 simp[addp,List.getD_eq_getElem?_getD,hi]
theorem EW (s r:List Nat) (i:Nat) (_hi:i<8):addp s r (i+1)=(addp s r i).set i ((s.getD i 0+r.getD i 0) % 4294967296):=by
 apply List.ext_getElem
 ·simp[addp]
 ·intro k h1 h2
  rw[List.getElem_set]
  by_cases e:i=k
  ·subst e;simp[addp]
  ·rw[if_neg e]
   simp only[addp,List.getElem_map,List.getElem_range]
   by_cases h:k<i
   ·rw[if_pos h,if_pos (by omega)]
   ·rw[if_neg h,if_neg (by omega)]
def z8:List Value:=wl (List.replicate 8 0)
theorem Tryz.zero30:(prog.info? 116).map (λi=>(i.zero,i.size))=some (some (.agg z8.toArray),8):=by kernel_rfl
structure Tw (w:World) (N M R:Nat) (s W:List Nat) (wr:World):Prop where
 st:Blk wr N 116 (wl s)
 ws:Blk wr M 190 (wl W)
 rs:Blk wr R 116 z8
 on:N0 w wr
theorem Tw.past {N M R:Nat} {s W:List Nat} {wr wr':World} (h:Tw w N M R s W wr) (o:N0 wr wr'):Tw w N M R s W wr' :=
 ⟨h.st.past o,h.ws.past o,h.rs.past o,h.on.same o⟩
theorem Mb (e:Nat) (he:e<4294967296):bits .xor .u32 4294967295 (e:Int)=((4294967295 - e:Nat):Int):=by
 have:=u32_xor_nat 4294967295 e (by decide) he;rw[show ((4294967295:Nat):Int)=4294967295 from rfl] at this;rw[this]
 congr 1
 apply Nat.eq_of_testBit_eq
 intro i;rw[show 4294967295 - e=2^32 - (e+1) by omega,Nat.testBit_two_pow_sub_succ he,Nat.testBit_xor,show 4294967295=2^32 - 1 from rfl,Nat.testBit_two_pow_sub_one]
 by_cases hi:i<32
 ·simp[hi]
 ·have:e.testBit i=false:=Nat.testBit_lt_two_pow (Nat.lt_of_lt_of_le he (show 2^32<=2^i from Nat.pow_le_pow_right (by decide) (by omega)))
  simp[hi,this]
theorem NS (s:List Nat) (p:LI) (hs:s.length=8) (hw:W32 s) (hp:p.length=64) (h8:U8 p) (w:World) :
 Calls prog 104 #[.agg (wl s).toArray,.agg (bl p).toArray] w λe w'=>e=.returned (.agg (wl (thru s p)).toArray)∧N0 w w':=by
 have kd:(prog.info? 117).map (·.size)=some (bl p).toArray.size:=by simp[Qs,hp,Tryz.size31]
 have k4:=Qa kd;have RW:=Qa (Ci p hp h8);have HWL:=Qa (Vi p);have HW:=Qa (FV p h8);have HS:=Qa (And.intro hs hw);have kc:=(zero_of_info (P:=prog) Tryz.zero30).1;have kf:=(zero_of_info (P:=prog) Tryz.zero52).1;obtain⟨B,hB⟩:=EX (bl p);obtain⟨Z,hZ⟩:=EX zK;obtain⟨Y,hY⟩:=EX z8;obtain⟨D,hD⟩:=EX (wl (wds p));obtain⟨S,hS⟩:=EX (wl s);obtain⟨T,hT⟩:=EX (wl (thru s p))
 have ks:(prog.info? 190).map (·.size)=some (wl (wds p)).toArray.size:=by simp[QQ,Vi,Tryz.size52]
 have kn:zK.toArray.size=(wl (wds p)).toArray.size:=by simp[QQ,Vi,zK]
 have HA:=Qa (UB (wds p));have h2:=Qa ks;have h3:=Qa kn;rw[<-hZ] at kf h3;rw[<-hY] at kc;rw[<-hB] at k4 RW ⊢;rw[<-hD] at h2 h3 HA RW;rw[<-hS,<-hT];have HD:=Qa hD;have HY:=Qa hY;have HSS:=Qa hS;have h7:=Qa hT;clear kd ks kn hB hZ hY hD hS hT hs hw hp h8;go_enter func104,ntmps104;go_wp2_with (first|(refine wpList_load_row rfl 117 (.tmp 3) rfl (w.heap.size+1) rfl 117 B.toArray (0,0) _ (Blk.alloc (by have:=Blk.new (w.alloc (.cells S.toArray 116)) 117 B;rw[size_alloc] at this;exact this) _) underlying117 rfl k4.o ?_) | fail);refine (RW.o _).mono ?_;rintro e w1 ⟨rfl,h9⟩;have q1:Blk w1 w.heap.size 116 S:=(((Blk.new w 116 S).alloc (.cells B.toArray 117)).alloc (.cells Y.toArray 116)).past h9
 have q2:Blk w1 (w.heap.size+1+1) 116 Y:=by
  have:=Blk.new ((w.alloc (.cells S.toArray 116)).alloc (.cells B.toArray 117)) 116 Y;rw[size_alloc,size_alloc] at this;exact this.past h9
 have q3:N0 w w1:=((((Only.refl _ _).alloc _).alloc _).alloc _).same h9;have q4:w.heap.size+1+1<w1.heap.size:=q2.lt;have q5:N0 w1 ((w1.alloc (.cells Z.toArray 190)).setRow w1.heap.size D.toArray):=((Only.refl _ _).alloc _).setRow (λh=>absurd h (Nat.lt_irrefl _)) _
 have TW:Hid (Tw w w.heap.size w1.heap.size (w.heap.size+1+1) s (wds p) ((w1.alloc (.cells Z.toArray 190)).setRow w1.heap.size D.toArray)):=by
  refine⟨?_,?_,?_,q3.same q5⟩
  ·rw[<-HSS.o];exact q1.past q5
  ·rw[<-HD.o];exact (Blk.new w1 190 Z).row D
  ·rw[<-HY.o];exact q2.past q5
 have h4:Hid (w.heap.size≠w1.heap.size∧w.heap.size≠w.heap.size+1+1∧w.heap.size+1+1≠w1.heap.size∧w.heap.size<=w.heap.size+1+1):=⟨by omega,by omega,by omega,by omega⟩;clear h9 q1 q2 q3 q4 q5 RW kc k4;go_wp2_with (refine wpList_store_row rfl 190 (.tmp 5) (.tmp 21) rfl w1.heap.size D.toArray rfl rfl 190 Z.toArray (Blk.new w1 190 Z) h2.o h3.o HA.o ?_);obtain⟨M,hM⟩:=EX w1.heap.size;obtain⟨R,hR⟩:=EX (w.heap.size+1+1);obtain⟨N,hN⟩:=EX w.heap.size;obtain⟨W2,k1⟩:=EX (((w1.alloc (.cells Z.toArray 190)).setRow w1.heap.size D.toArray));rw[<-k1,<-hM,<-hR] at TW;rw[<-hM,<-hR] at h4;rw[<-hN] at TW h4;rw[<-k1,<-hM,<-hR,<-hN];have HN:=Qa hN;clear hM hR hN k1 kf HA h2 h3;obtain⟨x0,ho⟩:=EX (s.getD 0 0)
 have c0:W2.cell? ⟨N,0,none⟩=some (.int .u32 (x0:Int)):=by
  rw[TW.o.st.cell,wl_at _ _ (by rw[HS.o.1];decide),<-ho]
 have kl:=Qa ho;clear ho;obtain⟨x1,k9⟩:=EX (s.getD 1 0)
 have c1:W2.cell? ⟨N,1,none⟩=some (.int .u32 (x1:Int)):=by
  rw[TW.o.st.cell,wl_at _ _ (by rw[HS.o.1];decide),<-k9]
 have kh:=Qa k9;clear k9;obtain⟨x2,hh⟩:=EX (s.getD 2 0)
 have c2:W2.cell? ⟨N,2,none⟩=some (.int .u32 (x2:Int)):=by
  rw[TW.o.st.cell,wl_at _ _ (by rw[HS.o.1];decide),<-hh]
 have kr:=Qa hh;clear hh;obtain⟨x3,hu⟩:=EX (s.getD 3 0)
 have c3:W2.cell? ⟨N,3,none⟩=some (.int .u32 (x3:Int)):=by
  rw[TW.o.st.cell,wl_at _ _ (by rw[HS.o.1];decide),<-hu]
 have kj:=Qa hu;clear hu;obtain⟨x4,hl⟩:=EX (s.getD 4 0)
 have c4:W2.cell? ⟨N,4,none⟩=some (.int .u32 (x4:Int)):=by
  rw[TW.o.st.cell,wl_at _ _ (by rw[HS.o.1];decide),<-hl]
 have kp:=Qa hl;clear hl;obtain⟨x5,hm⟩:=EX (s.getD 5 0)
 have c5:W2.cell? ⟨N,5,none⟩=some (.int .u32 (x5:Int)):=by
  rw[TW.o.st.cell,wl_at _ _ (by rw[HS.o.1];decide),<-hm]
 have kg:=Qa hm;clear hm;obtain⟨x6,k3⟩:=EX (s.getD 6 0)
 have c6:W2.cell? ⟨N,6,none⟩=some (.int .u32 (x6:Int)):=by
  rw[TW.o.st.cell,wl_at _ _ (by rw[HS.o.1];decide),<-k3]
 have ki:=Qa k3;clear k3;obtain⟨x7,k5⟩:=EX (s.getD 7 0)
 have c7:W2.cell? ⟨N,7,none⟩=some (.int .u32 (x7:Int)):=by
  rw[TW.o.st.cell,wl_at _ _ (by rw[HS.o.1];decide),<-k5]
 have ko:=Qa k5;clear k5;go_quiet (fail);go_wp2;go_quiet (fail);go_wp2_with fail;refine (AC _).mono ?_;rintro e w3 ⟨rfl,ka⟩;have kk:=Qa (TW.o.past (((Only.refl (λ_=>False) W2).drewN _).same ka));clear ka TW c0 c1 c2 c3 c4 c5 c6 c7;have k7:=Qa (qo shK rfl);obtain⟨KK,kt⟩:=EX (wl shK);rw[<-kt] at k7 ⊢;clear kt;go_wp2
 have kq:Hid ([x0,x1,x2,x3,x4,x5,x6,x7]=s):=by
  show _=_
  rw[kl.o,kh.o,kr.o,kj.o,kp.o,kg.o,ki.o,ko.o];exact (getD8 s HS.o.1).symm
 clear kl kh kr kj kp kg ki ko
 go_loopw [39,6,7,8,9,10,11,12,13] (λi a b c d e f g h wr=>∃(t y0 y1 y2 y3 y4 y5 y6 y7:Nat),t<=64∧[y0,y1,y2,y3,y4,y5,y6,y7]=rnds s (wds p) t∧i=.int .i64 t∧a=.int .u32 y0∧b=.int .u32 y1∧c=.int .u32 y2∧d=.int .u32 y3∧e=.int .u32 y4∧f=.int .u32 y5∧g=.int .u32 y6∧h=.int .u32 y7∧Tw w N M R s (wds p) wr) (λi _ _ _ _ _ _ _ _ _=>64 - (intOf i).toNat)
 case atStart =>
  exact⟨0,x0,x1,x2,x3,x4,x5,x6,x7,by omega,kq.o,rfl,rfl,rfl,rfl,rfl,rfl,rfl,rfl,rfl,kk.o⟩
 case round =>
  obtain⟨t,y0,y1,y2,y3,y4,y5,y6,y7,ht,hr,rfl,rfl,rfl,rfl,rfl,rfl,rfl,rfl,rfl,h0⟩:=hrel;have HR:=Qa hr;clear hr kk kq
  by_cases hlt:t<64
  ·have h1:W32 [y0,y1,y2,y3,y4,y5,y6,y7]:=by rw[HR.o];exact NZ _ _ HS.o.2 _
   have b0:=h1.at 0;have b1:=h1.at 1;have b2:=h1.at 2;have b4:=h1.at 4;have b5:=h1.at 5;have b6:=h1.at 6
   change y0 < _ at b0
   change y1 < _ at b1
   change y2 < _ at b2
   change y4 < _ at b4
   change y5 < _ at b5
   change y6 < _ at b6
   obtain⟨k,hk⟩:=EX (shK.getD t 0);obtain⟨x,hx⟩:=EX ((wds p).getD t 0);have hg:=k7.o t hlt
   have hcx:wr.cell? ⟨M,t,none⟩=some (.int .u32 (x:Int)):=by
    rw[h0.ws.cell,wl_at _ _ (by rw[HWL.o];exact hlt),<-hx]
   rw[<-hk] at hg
   have i0:(0:Int)<=(t:Int):=by omega
   have i1:(t:Int)<64:=by omega
   have k0:rnds s (wds p) (t+1)=rnd [y0,y1,y2,y3,y4,y5,y6,y7] k x:=by rw[LR,<-HR.o,<-hk,<-hx]
   rw[rnd_t] at k0;have km:=Qa h0;obtain⟨ny,hy⟩:=EX (4294967295 - y4);have hs1:IntKind.u32.signed=false:=rfl;have hs2:IntKind.u32.max=4294967295:=rfl
   have hs3:bits .xor .u32 4294967295 (y4:Int)=(ny:Int):=by rw[Mb y4 b4,hy]
   obtain⟨ch,k6⟩:=EX (chw y4 y5 y6);obtain⟨mj,hv⟩:=EX (majw y0 y1 y2);obtain⟨g1,hz⟩:=EX (KL y4);obtain⟨g0,hn⟩:=EX (Vz y0);obtain⟨T1,k8⟩:=EX ((y7+g1+ch+k+x) % 4294967296);obtain⟨T2,h5⟩:=EX ((g0+mj) % 4294967296);obtain⟨n0,hd⟩:=EX ((T1+T2) % 4294967296);obtain⟨n4,he⟩:=EX ((y3+T1) % 4294967296)
   have NX:Hid (rnds s (wds p) (t+1)=[n0,y0,y1,y2,n4,y4,y5,y6]):=by
    show _=_
    rw[k0];simp only[t1w,t2w,List.getD_cons_zero,List.getD_cons_succ];rw[<-k6,<-hv,<-hz,<-hn,<-k8,<-h5,<-hd,<-he]
   have S1:=Qa (uI y4 · b4);have S0:=Qa (FJ y0 · b0);rw[<-hz] at S1;rw[<-hn] at S0
   have p1:bits .xor .u32 (bits .and .u32 (y4:Int) (y5:Int)) (bits .and .u32 (ny:Int) (y6:Int))=(ch:Int):=by rw[hy,k6,Sp y4 y5 y6 b4 b5 b6]
   have p2:bits .xor .u32 (bits .xor .u32 (bits .and .u32 (y0:Int) (y1:Int)) (bits .and .u32 (y0:Int) (y2:Int))) (bits .and .u32 (y1:Int) (y2:Int))=(mj:Int):=by rw[hv,Bc y0 y1 y2 b0 b1 b2]
   have p3:IntKind.u32.wrap (IntKind.u32.wrap (IntKind.u32.wrap (IntKind.u32.wrap ((y7:Int)+g1)+ch)+k)+x)=(T1:Int):=by rw[sum5,k8]
   have p4:IntKind.u32.wrap ((g0:Int)+mj)=(T2:Int):=by rw[sum2,h5]
   have p5:IntKind.u32.wrap ((T1:Int)+T2)=(n0:Int):=by rw[sum2,hd]
   have p6:IntKind.u32.wrap ((y3:Int)+T1)=(n4:Int):=by rw[sum2,he]
   have p7:((g0:Int)+mj) % 4294967296=(T2:Int):=by rw[h5];omega
   have p8:((T1:Int)+T2) % 4294967296=(n0:Int):=by rw[hd];omega
   have p9:((y3:Int)+T1) % 4294967296=(n4:Int):=by rw[he];omega
   have km:=Qa h0;clear hy k6 hv hz hn k8 h5 hd he hk hx h1 k0 b0 b1 b2 b4 b5 b6 h0;go_wp2;go_region_held3 (λW=>W.cell? ⟨M,t,none⟩=some (Value.int .u32 x)) (go_keep) (first|(go_at_call 147;refine (S1.o _).mono ?_;rintro e w2 ⟨rfl,rfl⟩));go_wp2_with fail;refine (S0.o _).mono ?_;rintro e w2 ⟨rfl,rfl⟩;go_wp2
   go_roundw
   case rel=>exact⟨t+1,n0,y0,y1,y2,n4,y4,y5,y6,by omega,NX.o.symm,by go_num,rfl,rfl,rfl,rfl,rfl,rfl,rfl,rfl,km.o.past (Only.refl _ _).drew⟩
   case measure=>simp[intOf];omega
  ·obtain rfl:t=64:=by omega
   have HB:Hid (prog.built 116 [(0,.int .u32 (y0:Int)),(1,.int .u32 (y1:Int)),(2,.int .u32 (y2:Int)),(3,.int .u32 (y3:Int)),(4,.int .u32 (y4:Int)),(5,.int .u32 (y5:Int)),(6,.int .u32 (y6:Int)),(7,.int .u32 (y7:Int))]=some (wl [y0,y1,y2,y3,y4,y5,y6,y7]).toArray):=by
    show _=_
    kernel_rfl
   have k2:=Qa (ix_w8 [y0,y1,y2,y3,y4,y5,y6,y7] rfl);obtain⟨r,hr⟩:=EX ([y0,y1,y2,y3,y4,y5,y6,y7]);rw[<-hr] at HB k2 HR;obtain⟨C,hC⟩:=EX ((wl r).toArray);rw[<-hC] at HB k2
   have ke:Hid (Tw w N M R (addp s r 0) (wds p) wr):=by
    show _
    rw[vf s r HS.o.1];exact h0
   obtain⟨W4,hW4⟩:=EX wr;subst hW4;clear hr hC h0 k7;go_wp2_with (refine Kh rfl 116 _ rfl C (Eq.trans (congrArg (prog.built 116) (by kernel_rfl)) HB.o) ?_)
   go_loopw [98] (λi wr=>∃j:Nat,j<=8∧i=.int .i64 j∧Tw w N M R (addp s r j) (wds p) wr) (λi _=>8 - (intOf i).toNat)
   case atStart=>exact⟨0,by omega,rfl,ke.o⟩
   case round =>
    obtain⟨j,hj,rfl,h0⟩:=hrel;clear ke
    by_cases hlt:j<8
    ·obtain⟨a,ha⟩:=EX (s.getD j 0)
     obtain⟨b,hb⟩:=EX (r.getD j 0);have hg:=k2.o j hlt;rw[<-hb] at hg
     have hc:wr.cell? ⟨N,j,none⟩=some (.int .u32 (a:Int)):=by
      rw[h0.st.cell,wl_at _ _ (by rw[Oy];exact hlt),OE _ _ _ hlt,<-ha]
     have hf:wr.frozen? ⟨N,j,none⟩=false:=h0.st.froz _;obtain⟨q,hq⟩:=EX ((a+b) % 4294967296)
     have p1:IntKind.u32.wrap ((a:Int)+b)=(q:Int):=by rw[sum2,hq]
     have p2:((a:Int)+b) % 4294967296=(q:Int):=by rw[hq];omega
     have h6:=(Only.refl (λk=>k=N) wr).setCell (p:=⟨N,j,none⟩) (λ_=>rfl) (.int .u32 (q:Int))
     have TN:Hid (Tw w N M R (addp s r (j+1)) (wds p) (wr.setCell ⟨N,j,none⟩ (.int .u32 (q:Int)))):=by
      refine⟨?_,h0.ws.keep h6 (λe=>h4.o.1 e.symm),h0.rs.keep h6 (λe=>h4.o.2.1 e.symm),h0.on.trans h6 (λi hi e=>by have:=HN.o;omega)⟩;have:=h0.st.set j (.int .u32 (q:Int));rw[UP] at this;rw[EW _ _ _ hlt,<-ha,<-hb,<-hq];exact this
     have i0:(0:Int)<=(j:Int):=by omega
     have i1:(j:Int)<8:=by omega
     clear ha hb hq h0 h6;go_wp2
     go_roundw
     case rel=>exact⟨j+1,by omega,by go_num,TN.o⟩
     case measure=>simp[intOf];omega
    ·obtain rfl:j=8:=by omega
     have S2:Hid (Blk wr N 116 T):=by
      show _
      have:=h0.st;rw[HR.o,Sk,<-h7.o] at this;exact this
     have R2:=Qa h0.rs;have O2:=Qa h0.on
     have h2:Hid ((prog.info? 116).map (·.size)=some T.toArray.size):=by
      show _=_
      rw[h7.o,Tryz.size30];simp[QQ,Vx]
     have h3:Hid (z8.toArray.size=T.toArray.size):=by
      show _=_
      rw[h7.o];simp[QQ,Vx,z8]
     have HA:Hid (T.toArray.all (·.oneCell')=true):=by
      show _=_
      rw[h7.o];exact UB _
     clear h0;go_wp2_with (first|(refine wpList_load_row rfl 116 (.tmp 2) rfl N rfl 116 T.toArray (0,0) _ S2.o underlying116 rfl h2.o ?_)|(refine wpList_store_row rfl 116 (.tmp 4) (.tmp 109) rfl R T.toArray rfl rfl 116 z8.toArray R2.o h2.o h3.o HA.o ?_));refine bodyPost_ret (v:=.agg T.toArray) (results_cell_row rfl _ _ R 116 T.toArray (0,0) _ rfl (R2.o.row T) underlying116 rfl h2.o) rfl ⟨rfl,?_⟩;exact O2.o.setRow (λh=>absurd h (by have:=h4.o.2.2.2;have:=HN.o;omega)) _
theorem Lm (s:List Nat) (a b:LI):∀k,64*k<=a.length->thrus s (a++b) k=thrus s a k:=by
 intro k
 induction k with
 | zero=>intro _;rw[RA,RA]
 | succ k ih =>
  intro h;rw[Z5,Z5,ih (by omega),List.drop_append_of_le_length (by omega),List.take_append_of_le_length (by rw[Qo];omega)]
structure HP (st:List Nat) (pc all:LI):Prop where
 sl:st.length=8
 pl:pc.length=64
 u8:U8 pc
 w32:W32 st
 st:st=thrus shH all (all.length / 64)
 pc:pc.take (all.length % 64)=all.drop (64*(all.length / 64))
theorem PM {pc ys:LI} (h:U8 pc) (k:U8 ys) (r:Nat):U8 (splice pc r ys):=(h.take r).app (k.app (h.drop _))
theorem HP.start (pc:LI) (h:pc.length=64) (h8:U8 pc):HP shH pc []:=⟨rfl,h,h8,ub,rfl,rfl⟩
theorem HP.part {st:List Nat} {pc all:LI} (h:HP st pc all) (ys:LI) (h8:U8 ys) (hr:all.length % 64+ys.length<64):HP st (splice pc (all.length % 64) ys) (all++ys):=by
 have hl:(all++ys).length=all.length+ys.length:=Qc ..
 have hq:(all++ys).length / 64=all.length / 64:=by omega
 have hm:(all++ys).length % 64=all.length % 64+ys.length:=by omega
 refine⟨h.sl,?_,PM h.u8 h8 _,h.w32,?_,?_⟩
 ·rw[length_splice _ _ _ (by rw[h.pl];omega),h.pl]
 ·rw[hq,Lm _ _ _ _ (by omega)];exact h.st
 ·rw[hq,hm,List.drop_append_of_le_length (by omega),<-h.pc]
  unfold splice;rw[<-List.append_assoc,List.take_append_of_le_length (by rw[Qc,Qf,h.pl];omega)];exact List.take_of_length_le (by rw[Qc,Qf,h.pl];omega)
theorem HP.whole {st:List Nat} {pc all:LI} (h:HP st pc all) (ys:LI) (h8:U8 ys) (hr:all.length % 64+ys.length=64):HP (thru st (splice pc (all.length % 64) ys)) (splice pc (all.length % 64) ys) (all++ys):=by
 have hl:(all++ys).length=all.length+ys.length:=Qc ..
 have hq:(all++ys).length / 64=all.length / 64+1:=by omega
 have hm:(all++ys).length % 64=0:=by omega
 have h0:(splice pc (all.length % 64) ys).length=64:=by rw[length_splice _ _ _ (by rw[h.pl];omega),h.pl]
 have e:splice pc (all.length % 64) ys=(all++ys).drop (64*(all.length / 64)):=by
  unfold splice;rw[h.pc,List.drop_append_of_le_length (by omega),List.drop_of_length_le (l:=pc) (by rw[h.pl];omega),List.append_nil]
 refine⟨Vx _ _,h0,PM h.u8 h8 _,Cd _ _,?_,?_⟩
 ·rw[hq,Z5,Lm _ _ _ _ (by omega),<-e,List.take_of_length_le (by rw[h0];omega),<-h.st]
 ·rw[hq,hm,List.drop_of_length_le (by omega)];rfl
def endS (n:Nat):LI:=128 :: (List.replicate (zpad n) 0++be8 (8*n))
theorem Ly (n:Nat):(endS n).length=9+zpad n:=by simp[endS,JJ];omega
theorem Il (b:LI):padS b=b++endS b.length:=rfl
theorem A7 (n:Nat):(64 - ((n:Int)+1+8) % 64) % 64=(zpad n:Int):=by unfold zpad;omega
theorem Pu (n:Nat):zpad n<64:=Nat.mod_lt _ (by decide)
theorem Dt (v j:Nat) (h:j<8):(be8 v).take (j+1)=(be8 v).take j++[((v / 256^(7 - j) % 256:Nat):Int)]:=by
 have hl:=JJ v;rw[List.take_add_one,Qg (by omega)];simp[be8]
theorem vA (v:Nat):∀y∈be8 v,0<=y∧y<=255:=by
 intro y hy;simp only[be8,List.mem_map] at hy;obtain⟨i,_,rfl⟩:=hy;have:v / 256^(7 - i) % 256<256:=Nat.mod_lt _ (by decide);omega
theorem Ff (n:Nat):∀y∈endS n,0<=y∧y<=255:=by
 intro y hy;simp only[endS,List.mem_cons,List.mem_append,List.mem_replicate] at hy
 rcases hy with rfl | ⟨_,rfl⟩ | h
 ·omega
 ·omega
 ·exact vA _ y h
theorem byte8 (n k:Nat):(n:Int)*8 / 2^(k*8) % 256=((8*n / 256^k % 256:Nat):Int):=by
 have e:(256:Nat)^k=2^(k*8):=by rw[Nat.mul_comm,Nat.pow_mul]
 rw[e,Nat.mul_comm 8 n];simp
theorem uh (z:Nat):((bl (List.replicate (9+z) 0)).set 0 (.int .u8 128)).take (1+z)=(128 :: (List.replicate z 0++(be8 0).take 0)).map (Value.int .u8):=by
 rw[show 9+z=(z+8)+1 by omega,List.replicate_succ,show 1+z=z+1 by omega];unfold bl;rw[List.map_cons,Qj,List.take_succ_cons,<-List.map_take,List.take_replicate,show min z (z+8)=z by omega];simp
theorem T5 {base g:Nat} {cs:List Value} {n cap:Nat} (h:Blk w g E cs) (hb:base<=g) (hn:n<=cap) (hm:cap<=maxLen) (hc:cs.length=cap) :
 w.ownsRow base E 1 (.slice (some ⟨g,0,none⟩) n cap) n (cs.take n) :=
 ⟨by simp;omega,.inr ⟨g,cap,cs.toArray,rfl,hb,h,hn,hm,by simpa using hc,by simp⟩⟩
theorem CU (w:World) (l c:Nat) (hl:l<=c) (hc:c<=1000) :
 ∃w1,(Instr.makeSlice 23 (.int .i64 (l:Int)) (.int .i64 (c:Int))).run prog w=.ok (.slice (some ⟨w.heap.size,0,none⟩) l c) w1∧Blk w1 w.heap.size 5 (bl (List.replicate c 0))∧N0 w w1:=by
 obtain⟨i0,hi,hz0,hz1,hz2⟩:=info_parts Tryz.infoU8;have:=run_make (P:=prog) w 23 5 i0 (.int .u8 0) underlying23 hi hz0 .i64 .i64 l c (by omega) (by omega) (by rw[hz2];omega) (by omega);refine⟨_,this,?_,(Only.refl _ _).alloc _⟩
 have e:madeCells (Value.int .u8 0).cells ((c:Int).toNat*i0.size)=(bl (List.replicate c 0)).toArray:=by
  apply Array.toList_inj.1
  rw[show (Value.int .u8 0).cells=#[.int .u8 0] from rfl,toList_madeCells_one];simp[bl,hz1]
 rw[e];exact Blk.new _ _ _
theorem MT (n:Nat) (hn:n<=1000000000000) (w:World):Calls prog 105 #[.int .i64 n] w λe w'=>∃v,e=.returned v∧w'.ownsRow w.heap.size 5 1 v (9+zpad n) ((endS n).map (Value.int .u8))∧N0 w w':=by
 obtain⟨i0,hi,hz0,hz1,hz2⟩:=info_parts Tryz.infoU8;obtain⟨z,hz⟩:=EX (zpad n);have h4:=A7 n;have hzl:=Pu n;rw[<-hz] at h4 hzl;obtain⟨w1,h6,hb,ho⟩:=CU w (1+z) (9+z) (by omega) (by omega)
 have e1:((1+z:Nat):Int)=1+(z:Int):=by omega
 have e2:((9+z:Nat):Int)=1+(z:Int)+8:=by omega
 rw[e1,e2] at h6
 have hc0:w1.cell? ⟨w.heap.size,0,none⟩=some (.int .u8 0):=by
  rw[hb.cell,bl_at _ _ (by rw[List.length_replicate];omega),show 9+z=(8+z)+1 by omega];rfl
 have hf0:w1.frozen? ⟨w.heap.size,0,none⟩=false:=hb.froz 0;have HB:=Qa (hb.set 0 (.int .u8 128));have HO:=Qa (ho.setCell (p:=⟨w.heap.size,0,none⟩) (λf=>absurd f (Nat.lt_irrefl _)) (.int .u8 128));have HZ:=Qa hz;clear hb ho hz;go_enter func105,ntmps105;go_wp2
 obtain⟨F,hF⟩:∃F:Nat->List Value,F=λj=>(128 :: (List.replicate z 0++(be8 (8*n)).take j)).map (Value.int .u8):=⟨_,rfl⟩
 have F0:Hid (((bl (List.replicate (9+z) 0)).set 0 (.int .u8 128)).take (1+z)=F 0):=by
  show _=_
  rw[hF,uh];rfl
 have F8:Hid (F 8=(endS n).map (Value.int .u8)):=by
  show _=_
  rw[hF,endS,<-HZ.o];simp only;rw[List.take_of_length_le (Nat.le_of_eq (JJ _))]
 have FN:Hid (∀j,j<8->F (j+1)=F j++[Value.int .u8 ((8*n / 256^(7 - j) % 256:Nat):Int)]):=λj hj=>by
  rw[hF];simp only;rw[Dt _ _ hj];simp
 clear hF h4;generalize ((64 - ((n:Int)+1+8) % 64) % 64)=z4
 go_loopw [5,26] (λo i wr=>∃j:Nat,j<=8∧i=.int .i64 j∧wr.ownsRow w.heap.size 5 1 o (1+z+j) (F j)∧N0 w wr) (λ_ i _=>8 - (intOf i).toNat)
 case atStart =>
  refine⟨0,by omega,rfl,?_,HO.o⟩;rw[<-F0.o];exact T5 HB.o (Nat.le_refl _) (by omega) (by unfold maxLen;omega) (by simp[bl])
 case round =>
  obtain⟨j,hj,rfl,h1,h2⟩:=hrel;have hsz:=h2.size;have h3:=Qa h2;have h0:=Qa h1;clear h2 h1 HB HO hc0 hf0 h6 e1 e2
  by_cases hlt:j<8
  ·have h5:=Qa (FN.o j hlt)
   have i1:(j:Int)<8:=by omega
   have s0:0<=(7 - (j:Int))*8:=by omega
   have s1:(7 - (j:Int))*8<=64:=by omega
   have BL:=Qa (Bs.litN .u8 wr 5 [(n:Int)*8 / 2^((7 - j)*8) % 256] _ _ rfl rfl);go_wp2_with (at_builtin;refine Yh _ rfl _ _ 23 rfl w.heap.size 5 i0 (.int .u8 0) 1 underlying23 hi hz0 hz1 hz2 rfl _ (1+z+j) (F j) rfl (h0.o.alloc _) .u8 _ [(n:Int)*8 / 2^((7 - j)*8) % 256] rfl BL.o (NoCap.some _ _ _) (by simp[maxLen];omega) (by simp;omega) (by simp;omega) ?_;intro v' w2 hown' hgrow2 hnil2 hob2)
   have N1:Hid (w2.ownsRow w.heap.size 5 1 v' (1+z+(j+1)) (F (j+1))):=by
    rw[h5.o,<-byte8];exact hown'
   have N2:Hid (N0 w w2):=(h3.o.alloc _).grown hgrow2 (λk hk e=>by have:=h0.o.lt k e;omega);clear hown' hgrow2 hnil2 hob2 h0 h3 BL h5;go_wp2
   go_roundw
   case rel=>exact⟨j+1,by omega,by go_num,N1.o,N2.o⟩
   case measure=>simp[intOf];omega
  ·go_wp2
   go_ret
   obtain rfl:j=8:=by omega
   rw[F8.o,show 1+z+8=9+zpad n by rw[<-HZ.o];omega] at h0;exact⟨_,rfl,h0.o,h3.o⟩
def hc (st:List Nat) (pc:LI) (n:Nat):List Value:=wl st++bl pc++[.int .i64 (n:Int)]
theorem ZC {st:List Nat} {pc:LI} (h1:st.length=8) (h2:pc.length=64) (n:Nat):(hc st pc n).length=73:=by
 simp[hc,QQ,Qs,h1,h2]
theorem hc_n {st:List Nat} {pc:LI} (h1:st.length=8) (h2:pc.length=64) (n:Nat):(hc st pc n)[72]? = some (.int .i64 (n:Int)):=by
 unfold hc;rw[List.getElem?_append_right (by simp[QQ,Qs,h1,h2])];simp[QQ,Qs,h1,h2]
theorem Cf {st:List Nat} {pc:LI} (h1:st.length=8) (h2:pc.length=64) (n m:Nat):(hc st pc n).set 72 (.int .i64 (m:Int))=hc st pc m:=by
 unfold hc;rw[List.set_append_right _ _ (by simp[QQ,Qs,h1,h2])];simp[QQ,Qs,h1,h2]
theorem Bq {st:List Nat} {pc:LI} (h1:st.length=8) (h2:pc.length=64) (n r:Nat) (ys:LI) (hr:r+ys.length<=64):splice (hc st pc n) (8+r) (bl ys)=hc st (splice pc r ys) n:=by
 unfold splice hc
 have e1:(wl st++bl pc++[Value.int .i64 (n:Int)]).take (8+r)=wl st++(bl pc).take r:=by
  rw[List.append_assoc,List.take_append,QQ,h1,List.take_of_length_le (by rw[QQ,h1];omega),show 8+r - 8=r by omega,List.take_append_of_le_length (by rw[Qs,h2];omega)]
 have e2:(wl st++bl pc++[Value.int .i64 (n:Int)]).drop (8+r+(bl ys).length)=(bl pc).drop (r+ys.length)++[Value.int .i64 (n:Int)]:=by
  rw[List.append_assoc,List.drop_append,QQ,h1,List.drop_of_length_le (by rw[QQ,h1,Qs];omega),Qs,show 8+r+ys.length - 8=r+ys.length by omega,List.drop_append_of_le_length (by rw[Qs,h2];omega)]
  rfl
 rw[e1,e2];simp[bl,List.map_append,List.map_take,List.map_drop]
def Hs1 (w:World) (g:Nat) (all:LI):Prop:=∃st pc,Blk w g 119 (hc st pc all.length)∧HP st pc all
def Hs (w:World) (g:Nat) (all:LI):Prop:=Hs1 w g all∨(all=[]∧∃st pc,Blk w g 119 (hc st pc 0)∧st.length=8∧pc.length=64∧U8 pc)
theorem Hs1.keep {all:LI} (h:Hs1 w g all) {S:Nat->Prop} (o:Only S w w') (hs:¬S g):Hs1 w' g all:=by
 obtain⟨st,pc,h1,h2⟩:=h;exact⟨st,pc,h1.keep o hs,h2⟩
theorem Hs.keep {all:LI} (h:Hs w g all) {S:Nat->Prop} (o:Only S w w') (hs:¬S g):Hs w' g all:=by
 rcases h with h | ⟨rfl,st,pc,h1,h2⟩
 ·exact .inl (h.keep o hs)
 ·exact .inr ⟨rfl,st,pc,h1.keep o hs,h2⟩
theorem Hs.past {all:LI} (h:Hs w g all) (o:N0 w w'):Hs w' g all:=h.keep o (λf=>f)
theorem Hs.lt {all:LI} (h:Hs w g all):g<w.heap.size:=by
 rcases h with ⟨st,pc,h1,_⟩ | ⟨rfl,st,pc,h1,_⟩
 ·exact h1.lt
 ·exact h1.lt
theorem Ep {P:Program} {ops:Array Oper} {o:Oper} {a:Act} {w:World} {K:Act->World->Prop} {Q:Exit->Act->World->Prop} {E:Prop} (hgd:o.guard=none) (d s:Operand) (dT sT:TypeId)
 (ho:o.op=.call { callee:=.builtin .copy,args:=#[d,s],argTypes:=#[dT,sT] }) (elem:TypeId) (hu:P.underlying dT=some (.slice elem)) (hsz:(P.info? elem).map (·.size)=some 1)
 (g off dLen dCap:Nat) (ad:Addr) (sLen sCap:Nat) (hd:a.eval d=.slice (some ⟨g,off,none⟩) dLen dCap) (hs:a.eval s=.slice (some ad) sLen sCap)
 (cur:List Value) (t:TypeId) (hg:Blk w g t cur) (cs:List Value) (n:Nat) (hnn:cs.length=n) (hn:cs.length=Nat.min sLen dLen)
 (hsrc:∀j v,cs[j]? = some v->w.cell? (ad.add j)=some v) (hfit:off+cs.length<=cur.length) (h1:∀v∈cs,v.oneCell'=true)
 (h:∀w',Blk w' g t (splice cur off cs)->Only (λk=>k=g) w w'->K (a.put o.dst (.int .i64 (n:Int))) w') :
 if Region.wanted o (yielded ops a.tmps)=true then Oper.wp P o a w K Q else E:=by
 have hw:Region.wanted o (yielded ops a.tmps)=true:=by simp[Region.wanted,hgd]
 rw[if_pos hw];have h0:=run_copy_row (P:=P) w dT sT o.type elem g off dLen dCap ad sLen sCap cur.toArray t cs hu hsz hg hn hsrc (by simpa using hfit) h1;unfold Oper.wp;simp[execOp,ho,resolve,invoke,builtin,hd,hs,h0,Result.andThen];rw[show goInt (cs.length:Int)=.int .i64 (n:Int) by rw[hnn];rfl];refine h _ ?_ ((Only.refl (λk=>k=g) w).setRow (λ_=>rfl) _);have:=hg.row (splice cur off cs)
 simpa [splice] using this
end Go.Proofs.YtoflhbghdlaeaaaGreatDoor
