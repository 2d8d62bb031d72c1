import Derived.Test.YtoflhbghdlaeaaaGreatDoorG23
namespace Go.Proofs.YtoflhbghdlaeaaaGreatDoor
set_option maxHeartbeats 1600000
set_option maxRecDepth 100000
open Go.RowKit _root_.Go.Proofs.Tryz
theorem tclo (g:Nat) (s:List Nat) (hs:s.length=16) (h32:W32 s) (i j k l:Nat) (hi:i<16) (hj:j<16) (hk:k<16) (hl:l<16)
 (nij:¬i=j) (nik:¬i=k) (nil:¬i=l) (njk:¬j=k) (njl:¬j=l) (nkl:¬k=l) (w:World) (hb:Blk w g 208 (wl s)) :
 Calls prog 215 #[.int .i64 i,.int .i64 j,.int .i64 k,.int .i64 l,.pointer (some ⟨g,0,none⟩)] w λe w'=>e=.returned (.tuple #[])∧Blk w' g 208 (wl (turnW s i j k l))∧Only (λx=>x=g) w w':=by
 have hc:∀n,n<16->w.cell? ⟨g,n,none⟩=some (.int .u32 ((s.getD n 0:Nat):Int)):=λn hn=>by rw[hb.cell,wl_at s n (by omega)]
 have QA:Hid (∀W:World,Calls prog 216 #[.int .u32 (s.getD i 0:Nat),.int .u32 (s.getD j 0:Nat),.int .u32 (s.getD k 0:Nat),.int .u32 (s.getD l 0:Nat)] W λe w'=>e=.returned (q4v (qrt ⟨s.getD i 0,s.getD j 0,s.getD k 0,s.getD l 0⟩))∧W=w') :=
  λW=>qU _ _ _ _ W (h32.at i) (h32.at j) (h32.at k) (h32.at l)
 refine (Ek g i j k l _ _ _ _ _ _ _ _ w (by omega) (by omega) (by omega) (by omega) (by omega) (by omega) (by omega) (by omega) QA (hc i hi) (hc j hj) (hc k hk) (hc l hl) nij nik nil njk njl nkl (λn=>hb.froz n)).mono ?_;rintro e w' ⟨rfl,rfl⟩;refine⟨rfl,?_,?_⟩
 ·have h:=(((hb.drew.set i (.int .u32 ((qrt ⟨s.getD i 0,s.getD j 0,s.getD k 0,s.getD l 0⟩).a:Nat))).set j (.int .u32 ((qrt ⟨s.getD i 0,s.getD j 0,s.getD k 0,s.getD l 0⟩).b:Nat))).set k (.int .u32 ((qrt ⟨s.getD i 0,s.getD j 0,s.getD k 0,s.getD l 0⟩).c:Nat))).set l (.int .u32 ((qrt ⟨s.getD i 0,s.getD j 0,s.getD k 0,s.getD l 0⟩).d:Nat))
  rw[UP,UP,UP,UP] at h;exact h
 ·exact (((((Only.refl (λx=>x=g) w).drew).setCell (p:=⟨g,i,none⟩) (λ_=>rfl) _).setCell (p:=⟨g,j,none⟩) (λ_=>rfl) _).setCell (p:=⟨g,k,none⟩) (λ_=>rfl) _).setCell (p:=⟨g,l,none⟩) (λ_=>rfl) _
theorem kA (s:List Nat) (i j k l:Nat):turnP s (i,j,k,l)=turnW s i j k l:=rfl
theorem FH {s0 s1 s2 s3 s4 s5 s6 s7 s8:List Nat} (h1:s1=turnW s0 0 4 8 12) (h2:s2=turnW s1 1 5 9 13) (h3:s3=turnW s2 2 6 10 14) (h4:s4=turnW s3 3 7 11 15) (h5:s5=turnW s4 0 5 10 15) (h6:s6=turnW s5 1 6 11 12) (h7:s7=turnW s6 2 7 8 13) (h8:s8=turnW s7 3 4 9 14):dblR s0=s8:=by
 rw[h8,h7,h6,h5,h4,h3,h2,h1];simp only[dblR,fours,List.foldl_cons,List.foldl_nil,kA]
theorem Tryz.size44:(prog.info? 208).map (·.size)=some 16:=by kernel_rfl
def zW:List Value:=wl (List.replicate 16 0)
theorem Tryz.zero44:(prog.info? 208).map (λi=>(i.zero,i.size))=some (some (.agg zW.toArray),16):=by kernel_rfl
theorem Ju:zW.length=16:=rfl
theorem wC (s:List Nat) (hs:s.length=16) (h32:W32 s) (w:World):Calls prog 190 #[.agg (wl s).toArray] w λe w'=>e=.returned (.agg (wl (dbls 10 s)).toArray)∧N0 w w':=by
 have hmf:∀(fn:Fn) (first cap:Array Value) (w:World),(Instr.makeFunc fn first cap).run prog w=.ok (.func fn first cap) w:=λ_ _ _ _=>rfl
 have hk:=(zero_of_info (P:=prog) Tryz.zero44).1;obtain⟨Z,hZ⟩:=EX zW;rw[<-hZ] at hk;have HZ:=Qa hZ;obtain⟨D,hD⟩:=EX (wl (dbls 10 s))
 have hh:Hid ((prog.info? 208).map (·.size)=some D.toArray.size):=by
  show _=_
  rw[hD];simp[QQ,V5,hs,Tryz.size44]
 have HZ2:Hid (Z.toArray.size=D.toArray.size):=by
  show _=_
  rw[hD,hZ];simp[QQ,V5,hs,Ju]
 have HA:Hid (D.toArray.all (·.oneCell')=true):=by
  show _=_
  rw[hD];exact UB _
 rw[<-hD];have HD:=Qa hD;have HS:=Qa (And.intro hs h32);obtain⟨B,hB⟩:=EX (wl s);have HB:=Qa hB;rw[<-hB];clear hZ hD hB hs h32;go_enter func190,ntmps190;go_wp2_with fail
 have S0:Hid (Blk ((w.alloc (.cells B.toArray 208)).alloc (.cells Z.toArray 208)) w.heap.size 208 (wl (dbls 0 s))):=by
  show Blk _ _ _ (wl s)
  rw[<-HB.o];exact (Blk.new w 208 B).alloc _
 have R0:Hid (Blk ((w.alloc (.cells B.toArray 208)).alloc (.cells Z.toArray 208)) (w.heap.size+1) 208 Z):=by
  have:=Blk.new (w.alloc (.cells B.toArray 208)) 208 Z;rw[size_alloc] at this;exact this
 have O0:Hid (N0 w ((w.alloc (.cells B.toArray 208)).alloc (.cells Z.toArray 208))):=((Only.refl _ _).alloc _).alloc _;obtain⟨G,hG⟩:=EX w.heap.size;obtain⟨R,hR⟩:=EX (w.heap.size+1);obtain⟨W0,h6⟩:=EX ((w.alloc (.cells B.toArray 208)).alloc (.cells Z.toArray 208));rw[<-hG,<-h6] at S0;rw[<-hR,<-h6] at R0;rw[<-h6] at O0;rw[<-hR,<-hG,<-h6];have HG:Hid (w.heap.size<=G∧w.heap.size<=R∧R≠G):=⟨by omega,by omega,by omega⟩;clear hG hR h6 hk
 go_loopw [5] (λi wr=>∃n:Nat,n<=10∧i=.int .i64 n∧Blk wr G 208 (wl (dbls n s))∧Blk wr R 208 Z∧N0 w wr) (λi _=>10 - (intOf i).toNat)
 case atStart=>exact⟨0,by omega,rfl,S0.o,R0.o,O0.o⟩
 case round =>
  obtain⟨n,hn,rfl,hS,hR,hO⟩:=hrel;clear S0 R0 O0
  by_cases hlt:n<10
  ·obtain⟨s0,h4⟩:=EX (dbls n s)
   have L0:s0.length=16:=by rw[h4,V5];exact HS.o.1
   have K0:W32 s0:=by rw[h4];exact LU n s HS.o.2
   have E0:Hid (dbls (n+1) s=dblR s0):=by
    show _=_
    rw[h4];rfl
   rw[<-h4] at hS;have B0:=Qa (And.intro hS (And.intro L0 K0));have RO:=Qa (And.intro hR hO)
   have i1:(n:Int)<10:=by omega
   clear h4 L0 K0 hS hR hO;go_wp2_with fail;refine (tclo G s0 B0.o.2.1 B0.o.2.2 0 4 8 12 (by decide) (by decide) (by decide) (by decide) (by decide) (by decide) (by decide) (by decide) (by decide) (by decide) _ B0.o.1).mono ?_;rintro e w1 ⟨rfl,b1,o1⟩;obtain⟨s1,h8⟩:=EX (turnW s0 0 4 8 12);have B1:Hid (Blk w1 G 208 (wl s1)∧s1.length=16∧W32 s1):=⟨by rw[h8];exact b1,by rw[h8,U4];exact B0.o.2.1,by rw[h8];exact UX B0.o.2.2 _ _ _ _⟩;have hf:Hid (Blk w1 R 208 Z∧N0 w w1):=⟨RO.o.1.keep o1 HG.o.2.2,RO.o.2.trans o1 (λi hi e=>by have:=HG.o.1;omega)⟩;have E1:=Qa h8;clear h8 b1 o1 B0 RO;go_wp2_with fail;refine (tclo G s1 B1.o.2.1 B1.o.2.2 1 5 9 13 (by decide) (by decide) (by decide) (by decide) (by decide) (by decide) (by decide) (by decide) (by decide) (by decide) _ B1.o.1).mono ?_;rintro e w2 ⟨rfl,b2,o2⟩;obtain⟨s2,h2⟩:=EX (turnW s1 1 5 9 13);have B2:Hid (Blk w2 G 208 (wl s2)∧s2.length=16∧W32 s2):=⟨by rw[h2];exact b2,by rw[h2,U4];exact B1.o.2.1,by rw[h2];exact UX B1.o.2.2 _ _ _ _⟩;have he:Hid (Blk w2 R 208 Z∧N0 w w2):=⟨hf.o.1.keep o2 HG.o.2.2,hf.o.2.trans o2 (λi hi e=>by have:=HG.o.1;omega)⟩;have E2:=Qa h2;clear h2 b2 o2 B1 hf;go_wp2_with fail;refine (tclo G s2 B2.o.2.1 B2.o.2.2 2 6 10 14 (by decide) (by decide) (by decide) (by decide) (by decide) (by decide) (by decide) (by decide) (by decide) (by decide) _ B2.o.1).mono ?_;rintro e w3 ⟨rfl,b3,o3⟩;obtain⟨s3,h0⟩:=EX (turnW s2 2 6 10 14);have B3:Hid (Blk w3 G 208 (wl s3)∧s3.length=16∧W32 s3):=⟨by rw[h0];exact b3,by rw[h0,U4];exact B2.o.2.1,by rw[h0];exact UX B2.o.2.2 _ _ _ _⟩;have hd:Hid (Blk w3 R 208 Z∧N0 w w3):=⟨he.o.1.keep o3 HG.o.2.2,he.o.2.trans o3 (λi hi e=>by have:=HG.o.1;omega)⟩;have E3:=Qa h0;clear h0 b3 o3 B2 he;go_wp2_with fail;refine (tclo G s3 B3.o.2.1 B3.o.2.2 3 7 11 15 (by decide) (by decide) (by decide) (by decide) (by decide) (by decide) (by decide) (by decide) (by decide) (by decide) _ B3.o.1).mono ?_;rintro e w4 ⟨rfl,b4,o4⟩;obtain⟨s4,h7⟩:=EX (turnW s3 3 7 11 15);have B4:Hid (Blk w4 G 208 (wl s4)∧s4.length=16∧W32 s4):=⟨by rw[h7];exact b4,by rw[h7,U4];exact B3.o.2.1,by rw[h7];exact UX B3.o.2.2 _ _ _ _⟩;have hj:Hid (Blk w4 R 208 Z∧N0 w w4):=⟨hd.o.1.keep o4 HG.o.2.2,hd.o.2.trans o4 (λi hi e=>by have:=HG.o.1;omega)⟩;have E4:=Qa h7;clear h7 b4 o4 B3 hd;go_wp2_with fail;refine (tclo G s4 B4.o.2.1 B4.o.2.2 0 5 10 15 (by decide) (by decide) (by decide) (by decide) (by decide) (by decide) (by decide) (by decide) (by decide) (by decide) _ B4.o.1).mono ?_;rintro e w5 ⟨rfl,b5,o5⟩;obtain⟨s5,h3⟩:=EX (turnW s4 0 5 10 15);have B5:Hid (Blk w5 G 208 (wl s5)∧s5.length=16∧W32 s5):=⟨by rw[h3];exact b5,by rw[h3,U4];exact B4.o.2.1,by rw[h3];exact UX B4.o.2.2 _ _ _ _⟩;have hg:Hid (Blk w5 R 208 Z∧N0 w w5):=⟨hj.o.1.keep o5 HG.o.2.2,hj.o.2.trans o5 (λi hi e=>by have:=HG.o.1;omega)⟩;have E5:=Qa h3;clear h3 b5 o5 B4 hj;go_wp2_with fail;refine (tclo G s5 B5.o.2.1 B5.o.2.2 1 6 11 12 (by decide) (by decide) (by decide) (by decide) (by decide) (by decide) (by decide) (by decide) (by decide) (by decide) _ B5.o.1).mono ?_;rintro e w6 ⟨rfl,b6,o6⟩;obtain⟨s6,h1⟩:=EX (turnW s5 1 6 11 12);have B6:Hid (Blk w6 G 208 (wl s6)∧s6.length=16∧W32 s6):=⟨by rw[h1];exact b6,by rw[h1,U4];exact B5.o.2.1,by rw[h1];exact UX B5.o.2.2 _ _ _ _⟩;have hb:Hid (Blk w6 R 208 Z∧N0 w w6):=⟨hg.o.1.keep o6 HG.o.2.2,hg.o.2.trans o6 (λi hi e=>by have:=HG.o.1;omega)⟩;have E6:=Qa h1;clear h1 b6 o6 B5 hg;go_wp2_with fail;refine (tclo G s6 B6.o.2.1 B6.o.2.2 2 7 8 13 (by decide) (by decide) (by decide) (by decide) (by decide) (by decide) (by decide) (by decide) (by decide) (by decide) _ B6.o.1).mono ?_;rintro e w7 ⟨rfl,b7,o7⟩;obtain⟨s7,h9⟩:=EX (turnW s6 2 7 8 13);have B7:Hid (Blk w7 G 208 (wl s7)∧s7.length=16∧W32 s7):=⟨by rw[h9];exact b7,by rw[h9,U4];exact B6.o.2.1,by rw[h9];exact UX B6.o.2.2 _ _ _ _⟩;have ha:Hid (Blk w7 R 208 Z∧N0 w w7):=⟨hb.o.1.keep o7 HG.o.2.2,hb.o.2.trans o7 (λi hi e=>by have:=HG.o.1;omega)⟩;have E7:=Qa h9;clear h9 b7 o7 B6 hb;go_wp2_with fail;refine (tclo G s7 B7.o.2.1 B7.o.2.2 3 4 9 14 (by decide) (by decide) (by decide) (by decide) (by decide) (by decide) (by decide) (by decide) (by decide) (by decide) _ B7.o.1).mono ?_;rintro e w8 ⟨rfl,b8,o8⟩;obtain⟨s8,h5⟩:=EX (turnW s7 3 4 9 14);have B8:Hid (Blk w8 G 208 (wl s8)∧s8.length=16∧W32 s8):=⟨by rw[h5];exact b8,by rw[h5,U4];exact B7.o.2.1,by rw[h5];exact UX B7.o.2.2 _ _ _ _⟩;have hl:Hid (Blk w8 R 208 Z∧N0 w w8):=⟨ha.o.1.keep o8 HG.o.2.2,ha.o.2.trans o8 (λi hi e=>by have:=HG.o.1;omega)⟩;have E8:=Qa h5;clear h5 b8 o8 B7 ha
   have EN:Hid (dbls (n+1) s=s8):=by
    show _=_
    rw[E0.o];exact FH E1.o E2.o E3.o E4.o E5.o E6.o E7.o E8.o
   go_wp2
   go_roundw
   case rel=>exact⟨n+1,by omega,by go_num,by rw[EN.o];exact B8.o.1,hl.o.1,hl.o.2⟩
   case measure=>simp[intOf];omega
  ·obtain rfl:n=10:=by omega
   rw[<-HD.o] at hS;have S2:=Qa hS;have R2:=Qa hR;have O2:=Qa hO;clear hS hR hO;go_wp2_with (first|(refine wpList_load_row rfl 208 (.tmp 1) rfl G rfl 208 D.toArray (0,0) _ S2.o underlying208 rfl hh.o ?_)|(refine wpList_store_row rfl 208 (.tmp 2) (.tmp 24) rfl R D.toArray rfl rfl 208 Z.toArray R2.o hh.o HZ2.o HA.o ?_));refine bodyPost_ret (v:=.agg D.toArray) (results_cell_row rfl _ _ R 208 D.toArray (0,0) _ rfl (R2.o.row D) underlying208 rfl hh.o) rfl ⟨rfl,?_⟩;exact O2.o.setRow (λh=>absurd h (by have:=HG.o.2.1;omega)) _
def bpart (s:List Nat) (i:Nat):LI:=(s.take i).flatMap le4
theorem DT (s:List Nat) (i:Nat) (hi:i<=s.length):(bpart s i).length=4*i:=by
 unfold bpart;rw[Jl,Qf];omega
theorem Oj (s:List Nat) (i:Nat) (hi:i<s.length):bpart s (i+1)=bpart s i++le4 (s.getD i 0):=by
 unfold bpart;rw[VJ s i hi,List.flatMap_append];simp
theorem yg (s:List Nat) (n:Nat) (hn:s.length<=n):bpart s n=s.flatMap le4:=by
 unfold bpart;rw[List.take_of_length_le hn]
theorem qJ (x j:Nat) (hj:j<4):(le4 x).take (j+1)=(le4 x).take j++[(le4 x).getD j 0]:=by
 have:j=0∨j=1∨j=2∨j=3:=by omega
 rcases this with rfl | rfl | rfl | rfl <;> rfl
theorem vI (P Q:LI) (k n:Nat) (y:Int) (hn:n=k+1) (hP:P.length=Q.length):(P++List.replicate n 0).set Q.length y=(P++[y])++List.replicate k 0:=by
 subst hn;rw[<-hP,List.set_append_right _ _ (Nat.le_refl _),Nat.sub_self,List.replicate_succ,Qj];simp
theorem Tryz.size42:(prog.info? 117).map (·.size)=some 64:=by kernel_rfl
def zB:List Value:=bl (List.replicate 64 0)
theorem Tryz.zero42:(prog.info? 117).map (λi=>(i.zero,i.size))=some (some (.agg zB.toArray),64):=by kernel_rfl
theorem Xx:zB.length=64:=rfl
theorem XE (s:LI):(bl s).toArray.all (·.oneCell')=true:=all_oneCell_toArray (Us s)
theorem DL (s:List Nat) (i:Nat) (hi:i<16):(ccS s).getD i 0=((dbls 10 s).getD i 0+s.getD i 0) % 4294967296:=by
 simp[ccS,List.getD_eq_getElem?_getD,hi]
theorem wQ (c j:Nat) (hj:j<4):(le4 c).getD j 0=((c / 256^j % 256:Nat):Int):=by
 have:j=0∨j=1∨j=2∨j=3:=by omega
 rcases this with rfl | rfl | rfl | rfl <;> simp[le4]
theorem Sn (s:List Nat) (hs:s.length=16) (j:Nat) (hj:j<16) (w:World):(Instr.index 208 (.agg (wl s).toArray) (.int .i64 j)).run prog w=.ok (.int .u32 ((s.getD j 0:Nat):Int)) w :=
 WN 208 115 16 (wl s) j _ underlying208 Tryz.agg29 Tryz.one29 hj (wl_at s j (by omega)) w
theorem Lq (s:List Nat) (hs:s.length=16) (h32:W32 s) (w:World):Calls prog 162 #[.agg (wl s).toArray] w λe w'=>e=.returned (.agg (bl ((ccS s).flatMap le4)).toArray)∧N0 w w':=by
 have h9:=(zero_of_info (P:=prog) Tryz.zero42).1;obtain⟨Z,hZ⟩:=EX zB;rw[<-hZ] at h9;have HZ:=Qa hZ;obtain⟨D,hD⟩:=EX (bl ((ccS s).flatMap le4))
 have hd:D.length=64:=by rw[hD,Qs,Jl,Gp]
 have h5:Hid ((prog.info? 117).map (·.size)=some D.toArray.size):=by
  show _=_
  rw[Tryz.size42];simp[hd]
 have HZ2:Hid (Z.toArray.size=D.toArray.size):=by
  show _=_
  rw[hZ];simp[hd,Xx]
 have HA:Hid (D.toArray.all (·.oneCell')=true):=by
  show _=_
  rw[hD];exact XE _
 rw[<-hD];have HD:=Qa hD;have HS:=Qa (And.intro hs h32);obtain⟨B,hB⟩:=EX (wl s);have HB:=Qa hB
 have HB1:Hid ((prog.info? 208).map (·.size)=some B.toArray.size):=by
  show _=_
  rw[hB];simp[QQ,hs,Tryz.size44]
 rw[<-hB];clear hZ hD hB hs h32;go_enter func162,ntmps162;go_wp2_with (first|(refine wpList_load_row rfl 208 (.tmp 1) rfl w.heap.size rfl 208 B.toArray (0,0) _ (((Blk.new w 208 B).alloc _).alloc _) underlying208 rfl HB1.o ?_))
 have K0:Hid (Blk (((w.alloc (.cells B.toArray 208)).alloc (.cells Z.toArray 117)).alloc (.cells Z.toArray 117)) w.heap.size 208 B∧Blk (((w.alloc (.cells B.toArray 208)).alloc (.cells Z.toArray 117)).alloc (.cells Z.toArray 117)) (w.heap.size+1) 117 Z∧Blk (((w.alloc (.cells B.toArray 208)).alloc (.cells Z.toArray 117)).alloc (.cells Z.toArray 117)) (w.heap.size+1+1) 117 Z∧N0 w (((w.alloc (.cells B.toArray 208)).alloc (.cells Z.toArray 117)).alloc (.cells Z.toArray 117))):=by
  refine⟨((Blk.new w 208 B).alloc _).alloc _,?_,?_,(((Only.refl _ _).alloc _).alloc _).alloc _⟩
  ·have:=(Blk.new (w.alloc (.cells B.toArray 208)) 117 Z).alloc (.cells Z.toArray 117)
   rw[size_alloc] at this;exact this
  ·have:=Blk.new ((w.alloc (.cells B.toArray 208)).alloc (.cells Z.toArray 117)) 117 Z
   rw[size_alloc,size_alloc] at this;exact this
 obtain⟨X,hX⟩:=EX (w.heap.size+1+1);rw[<-hX] at K0 ⊢;obtain⟨R,hR⟩:=EX (w.heap.size+1);rw[<-hR] at K0 ⊢;obtain⟨F,hF⟩:=EX w.heap.size;have HG:Hid (w.heap.size<=F∧w.heap.size<=R∧w.heap.size<=X∧F≠X∧R≠X):=⟨by omega,by omega,by omega,by omega,by omega⟩;rw[<-hF] at K0 ⊢;obtain⟨W0,hg⟩:=EX ((((w.alloc (.cells B.toArray 208)).alloc (.cells Z.toArray 117)).alloc (.cells Z.toArray 117)));rw[<-hg] at K0 ⊢;clear hX hR hF hg h9;have TC:=wC s HS.o.1 HS.o.2 W0;rw[<-HB.o] at TC;refine TC.mono ?_;clear TC;rintro e w1 ⟨rfl,o1⟩;obtain⟨T,hT⟩:=EX (dbls 10 s);have HX:=Qa (Sn (dbls 10 s) (by rw[V5];exact HS.o.1));have HT:=Qa (LU 10 s HS.o.2);obtain⟨C,hC⟩:=EX (ccS s)
 have HC:Hid (C.length=16∧∀i,i<16->C.getD i 0=((dbls 10 s).getD i 0+s.getD i 0) % 4294967296):=by
  rw[hC];exact⟨Gp s,DL s⟩
 rw[<-hC] at HD;rw[<-hT] at HX HT HC ⊢;obtain⟨TA,hf⟩:=EX (wl T);rw[<-hf] at HX ⊢
 have K1:Hid (Blk w1 F 208 B∧Blk w1 R 117 Z∧Blk w1 X 117 (bl (bpart C 0++List.replicate 64 0))∧N0 w w1):=by
  refine⟨K0.o.1.past o1,K0.o.2.1.past o1,?_,K0.o.2.2.2.same o1⟩;have:=K0.o.2.2.1.past o1;rw[HZ.o] at this;exact this
 clear K0 o1 hT hC hf;go_wp2
 go_loopw [9] (λi wr=>∃n:Nat,n<=16∧i=.int .i64 n∧Blk wr F 208 B∧Blk wr R 117 Z∧Blk wr X 117 (bl (bpart C n++List.replicate (64 - 4*n) 0))∧N0 w wr) (λi _=>16 - (intOf i).toNat)
 case atStart=>exact⟨0,by omega,rfl,K1.o⟩
 case round =>
  obtain⟨n,hn,rfl,k1,k2,k3,k4⟩:=hrel;clear K1
  by_cases hlt:n<16
  ·have h6:=HX.o n hlt
   have ha:wr.cell? ⟨F,n,none⟩=some (.int .u32 ((s.getD n 0:Nat):Int)):=by
    rw[k1.cell,HB.o,wl_at s n (by rw[HS.o.1];exact hlt)]
   obtain⟨c,hc⟩:=EX (C.getD n 0)
   have h2:IntKind.u32.wrap (((T.getD n 0:Nat):Int)+((s.getD n 0:Nat):Int))=(c:Int):=by
    rw[Vp,hc,HC.o.2 n hlt]
   have hc32:c<4294967296:=by rw[hc,HC.o.2 n hlt];exact Nat.mod_lt _ (by decide)
   obtain⟨tn,h8⟩:=EX (T.getD n 0);obtain⟨sn,hb⟩:=EX (s.getD n 0);rw[<-h8] at h6 h2;rw[<-hb] at ha h2
   have i1:(n:Int)<16:=by omega
   have HK:=Qa (And.intro k1 (And.intro k2 (And.intro k3 k4)));have HCN:=Qa hc;clear h8 hb hc k1 k2 k3 k4;go_wp2
   go_loopw [18] (λi wr=>∃j:Nat,j<=4∧i=.int .i64 j∧Blk wr F 208 B∧Blk wr R 117 Z∧Blk wr X 117 (bl ((bpart C n++(le4 c).take j)++List.replicate (64 - 4*n - j) 0))∧N0 w wr) (λi _=>4 - (intOf i).toNat)
   case atStart=>exact⟨0,by omega,rfl,HK.o.1,HK.o.2.1,by rw[List.take_zero,List.append_nil];exact HK.o.2.2.1,HK.o.2.2.2⟩
   case round =>
    obtain⟨j,hj,rfl,k1,k2,k3,k4⟩:=hrel;clear HK ha h6 h2
    by_cases hlj:j<4
    ·have he:(bpart C n).length=4*n:=DT C n (by rw[HC.o.1];omega)
     have h3:(bpart C n++(le4 c).take j).length=n*4+j:=by
      rw[Qc,he,Qf,Pw];omega
     have h7:wr.cell? ⟨X,n*4+j,none⟩=some (.int .u8 (((bpart C n++(le4 c).take j)++List.replicate (64 - 4*n - j) 0).getD (n*4+j) 0)):=by
      rw[k3.cell,bl_at _ _ (by rw[Qc,h3,List.length_replicate];omega)]
     have hfx:=k3.froz (n*4+j);obtain⟨z,hz⟩:=EX (((bpart C n++(le4 c).take j)++List.replicate (64 - 4*n - j) 0).getD (n*4+j) 0);rw[<-hz] at h7;have h1:=wQ c j hlj;obtain⟨y,hy⟩:=EX ((le4 c).getD j 0)
     have N1:Hid (Blk (wr.setCell ⟨X,n*4+j,none⟩ (.int .u8 y)) F 208 B∧Blk (wr.setCell ⟨X,n*4+j,none⟩ (.int .u8 y)) R 117 Z∧Blk (wr.setCell ⟨X,n*4+j,none⟩ (.int .u8 y)) X 117 (bl ((bpart C n++(le4 c).take (j+1))++List.replicate (64 - 4*n - (j+1)) 0))∧N0 w (wr.setCell ⟨X,n*4+j,none⟩ (.int .u8 y))):=by
      have oc:=(Only.refl (λk=>k=X) wr).setCell (p:=⟨X,n*4+j,none⟩) (λ_=>rfl) (.int .u8 y);refine⟨k1.keep oc HG.o.2.2.2.1,k2.keep oc HG.o.2.2.2.2,?_,k4.trans oc (λi hi e=>by have:=HG.o.2.2.1;omega)⟩;have h:=k3.set (n*4+j) (.int .u8 y);rw[Vy,<-h3,vI _ _ (64 - 4*n - (j+1)) _ y (by omega) rfl,h3,List.append_assoc (bpart C n),hy,<-qJ c j hlj] at h;rw[hy];exact h
     rw[<-hy] at h1
     have i2:(j:Int)<4:=by omega
     clear hz hy k1 k2 k3 k4 he h3
     have h4:j=0∨j=1∨j=2∨j=3:=by omega
     rcases h4 with rfl | rfl | rfl | rfl
     ·have h0:y=(c:Int) % 256:=by rw[h1];simp
      rw[h0] at N1;clear h1 h0;simp only[Nat.add_zero] at h7 hfx N1;go_wp2
      go_roundw
      case rel=>exact⟨1,by omega,by go_num,N1.o.1,N1.o.2.1,N1.o.2.2.1,N1.o.2.2.2⟩
      case measure=>simp[intOf]
     ·have h0:y=(c:Int) / 256 % 256:=by rw[h1];simp
      rw[h0] at N1;clear h1 h0;go_wp2
      go_roundw
      case rel=>exact⟨2,by omega,by go_num,N1.o.1,N1.o.2.1,N1.o.2.2.1,N1.o.2.2.2⟩
      case measure=>simp[intOf]
     ·have h0:y=(c:Int) / 65536 % 256:=by rw[h1];simp
      rw[h0] at N1;clear h1 h0;go_wp2
      go_roundw
      case rel=>exact⟨3,by omega,by go_num,N1.o.1,N1.o.2.1,N1.o.2.2.1,N1.o.2.2.2⟩
      case measure=>simp[intOf]
     ·have h0:y=(c:Int) / 16777216:=by rw[h1];simp;omega
      rw[h0] at N1;clear h1 h0;go_wp2
      go_roundw
      case rel=>exact⟨4,by omega,by go_num,N1.o.1,N1.o.2.1,N1.o.2.2.1,N1.o.2.2.2⟩
      case measure=>simp[intOf]
    ·obtain rfl:j=4:=by omega
     have N2:Hid (Blk wr F 208 B∧Blk wr R 117 Z∧Blk wr X 117 (bl (bpart C (n+1)++List.replicate (64 - 4*(n+1)) 0))∧N0 w wr):=by
      refine⟨k1,k2,?_,k4⟩;rw[Oj C n (by rw[HC.o.1];exact hlt),<-HCN.o,show 64 - 4*(n+1)=64 - 4*n - 4 by omega];exact k3
     clear k1 k2 k3 k4;go_wp2
     go_roundw
     case rel=>exact⟨n+1,by omega,by go_num,N2.o⟩
     case measure=>simp[intOf];omega
  ·obtain rfl:n=16:=by omega
   have S2:Hid (Blk wr X 117 D):=by
    rw[HD.o,<-yg C 16 (by rw[HC.o.1];exact Nat.le_refl _)];have:=k3;rw[show 64 - 4*16=0 from rfl,List.replicate_zero,List.append_nil] at this;exact this
   have R2:=Qa k2;have O2:=Qa k4;clear k1 k2 k3 k4;go_wp2_with (first|(refine wpList_load_row rfl 117 (.tmp 3) rfl X rfl 117 D.toArray (0,0) _ S2.o underlying117 rfl h5.o ?_)|(refine wpList_store_row rfl 117 (.tmp 2) (.tmp 33) rfl R D.toArray rfl rfl 117 Z.toArray R2.o h5.o HZ2.o HA.o ?_));refine bodyPost_ret (v:=.agg D.toArray) (results_cell_row rfl _ _ R 117 D.toArray (0,0) _ rfl (R2.o.row D) underlying117 rfl h5.o) rfl ⟨rfl,?_⟩;exact O2.o.setRow (λh=>absurd h (by have:=HG.o.2.1;omega)) _
def lacc (b:LI):Nat->Nat
 | 0=>0
 | m+1=>lacc b m+(b.getD m 0).toNat*256^m
theorem Rz (b:LI) (h:U8 b):∀m,lacc b m<256^m:=by
 intro m
 induction m with
 | zero=>exact Nat.zero_lt_one
 | succ m ih =>
  have:=h.at m;have e:256^(m+1)=256^m*256:=Nat.pow_succ ..
  show lacc b m+(b.getD m 0).toNat*256^m < _
  have hm:(b.getD m 0).toNat*256^m<=255*256^m:=Nat.mul_le_mul_right _ (by omega);omega
theorem SN (b:LI):lacc b 4=ld4 b 0:=by
 simp[lacc,ld4]
theorem C9 (a y m:Nat) (ha:a<2^m):a ||| y*2^m=a+y*2^m:=by
 have:=Nat.two_pow_add_eq_or_of_lt ha y;rw[Nat.or_comm,Nat.mul_comm y,<-this,Nat.add_comm]
theorem Nk (b:LI) (h:U8 b) (m:Nat) (hm:m<4):bits .or .u32 ((lacc b m:Nat):Int) (b.getD m 0*256^m)=((lacc b (m+1):Nat):Int):=by
 have h0:=h.at m;obtain⟨y,hy⟩:=Int.eq_ofNat_of_zero_le h0.1;have hl:=Rz b h m;have hl2:=Rz b h (m+1)
 have e:(256:Nat)^m=2^(8*m):=by rw[Nat.pow_mul]
 have h4:(256:Nat)^(m+1)<=256^4:=Nat.pow_le_pow_right (by decide) (by omega)
 have h5:(256:Nat)^4=4294967296:=by decide
 have hle:lacc b m<=lacc b (m+1):=Nat.le_add_right _ _
 have hs:lacc b (m+1)=lacc b m+y*256^m:=by
  show lacc b m+(b.getD m 0).toNat*256^m=_
  rw[hy];rfl
 rw[hy,show ((y:Int)*256^m)=((y*256^m:Nat):Int) by simp,u32_or_nat _ _ (by omega) (by omega),hs]
 congr 1
 rw[e];exact C9 _ _ _ (by rw[<-e];exact hl)
theorem yX (b:LI) (h:U8 b):bits .or .u32 ((lacc b 0:Nat):Int) (b.getD 0 0)=((lacc b 1:Nat):Int):=by
 have:=Nk b h 0 (by decide)
 rwa [Int.pow_zero,Int.mul_one] at this
theorem IS (y:Int) (hy:0<=y∧y<=255):y*256 % 4294967296=y*256∧y*65536 % 4294967296=y*65536∧y*16777216 % 4294967296=y*16777216:=by omega
theorem yo (v:Value) (xs:LI) (h8:U8 xs) (hl:4<=xs.length) (w:World) (hb:Bs .u8 w v xs) :
 Calls prog 214 #[v] w λe w'=>e=.returned (.int .u32 (ld4 xs 0:Nat))∧w=w':=by
 obtain⟨b,off,cap,rfl,_⟩:=hb.at 0 (by omega)
 have HB:Hid (∀j,j<4->w.cell? ⟨b,off+j,none⟩=some (.int .u8 (xs.getD j 0))):=λj hj=>by
  obtain⟨b',off',cap',e,hc⟩:=hb.at j (by omega);simp at e;obtain⟨⟨rfl,rfl⟩,_⟩:=e;exact hc
 have HF:=Qa (SN xs);have H8:=Qa h8;obtain⟨n,hn⟩:=EX xs.length;rw[<-hn] at hl ⊢;clear hb hn h8;go_enter func214,ntmps214;go_wp2
 go_loopw [3,5] (λo i wr=>∃j:Nat,j<=4∧i=.int .i64 j∧o=.int .u32 (lacc xs j:Nat)∧w=wr) (λ_ i _=>4 - (intOf i).toNat)
 case atStart=>exact⟨0,by omega,rfl,rfl,rfl⟩
 case round =>
  obtain⟨j,hj,rfl,rfl,rfl⟩:=hrel
  by_cases hlt:j<4
  ·have hc:=HB.o j hlt
   have hy:=H8.o.at j;have hs:=IS _ hy;have ho:=Nk xs H8.o j hlt;have ho0:=yX xs H8.o;obtain⟨y,h0⟩:=EX (xs.getD j 0);obtain⟨q,hq⟩:∃q:Nat,q=lacc xs (j+1):=⟨_,rfl⟩;obtain⟨A,hA⟩:∃A:Nat,A=lacc xs j:=⟨_,rfl⟩
   have i1:(j:Int)<4:=by omega
   have i2:(j:Int)<n:=by omega
   rw[<-h0] at hc hy hs ho;rw[<-hq,<-hA] at ho;rw[<-hA];obtain⟨y0,y1⟩:=hy;obtain⟨t1,t2,t3⟩:=hs;have HQ:=Qa hq;clear h0 hq hA ho0 HB H8
   have h4:j=0∨j=1∨j=2∨j=3:=by omega
   rcases h4 with rfl | rfl | rfl | rfl
   ·simp only[Nat.add_zero] at hc
    simp at ho;go_wp2
    go_roundw
    case rel=>exact⟨1,by omega,by go_num,by rw[HQ.o],trivial⟩
    case measure=>simp[intOf]
   ·simp at ho
    go_wp2
    go_roundw
    case rel=>exact⟨2,by omega,by go_num,by rw[HQ.o],trivial⟩
    case measure=>simp[intOf]
   ·simp at ho
    go_wp2
    go_roundw
    case rel=>exact⟨3,by omega,by go_num,by rw[HQ.o],trivial⟩
    case measure=>simp[intOf]
   ·simp at ho
    go_wp2
    go_roundw
    case rel=>exact⟨4,by omega,by go_num,by rw[HQ.o],trivial⟩
    case measure=>simp[intOf]
  ·obtain rfl:j=4:=by omega
   rw[HF.o];go_wp2;go_ret;exact⟨rfl,rfl⟩
theorem Ce (xs:LI) (j:Nat):ldW xs (j+1)=ldW xs j++[ld4 xs j]:=by
 simp[ldW,List.range_succ]
theorem kD (xs:LI) (j:Nat):ld4 (xs.drop (j*4)) 0=ld4 xs j:=by
 rw[Nat.mul_comm j 4];simp only[ld4,Qd,List.getElem?_drop,Nat.mul_zero,Nat.zero_add,Nat.add_zero]
theorem MR (A M C:List Nat) (xs:LI) (j:Nat) (hj:j<M.length) :
 (A++(ldW xs j++M.drop j)++C).set (A.length+j) (ld4 xs j)=A++(ldW xs (j+1)++M.drop (j+1))++C:=by
 have e:M.drop j=M[j] :: M.drop (j+1):=List.drop_eq_getElem_cons hj;rw[List.append_assoc,List.set_append_right _ _ (by omega),Nat.add_sub_cancel_left,List.append_assoc,List.set_append_right _ _ (by rw[UJ];omega),UJ,Nat.sub_self,e,List.cons_append,Qj,Ce];simp
theorem Li (g off n cap:Nat) (A M C:List Nat) (v:Value) (xs:LI) (hA:A.length=off) (hM:M.length=n) (hx:xs.length=4*n) (hn:n<=16) (h8:U8 xs) (w:World) (hb:Bs .u8 w v xs)
 (hv:∀k,v.ownBlock=some k->¬k=g) (hB:Blk w g 208 (wl (A++M++C))) :
 Calls prog 189 #[.slice (some ⟨g,off,none⟩) n cap,v] w λe w'=>e=.returned (.tuple #[])∧Blk w' g 208 (wl (A++ldW xs n++C))∧Only (λk=>k=g) w w':=by
 obtain⟨ao,vc,rfl⟩:=hb.len
 have h4:xs.length<=vc:=by obtain⟨_,_,e,h,_⟩:=hb;cases e;exact h
 have HB:=Qa hb;have HV:=Qa hv;have H0:=Qa hB;have H8:=Qa h8;have HM:=Qa (And.intro hA hM);obtain⟨m,hm⟩:=EX xs.length;have h9:=Qa hm;rw[<-hm] at hx h4 ⊢;clear hb hv hB hA hM h8 hm;go_enter func189,ntmps189;go_wp2
 go_loopw [7] (λi wr=>∃j:Nat,j<=n∧i=.int .i64 j∧Blk wr g 208 (wl (A++(ldW xs j++M.drop j)++C))∧Only (λk=>k=g) w wr) (λi _=>n - (intOf i).toNat)
 case atStart=>exact⟨0,by omega,rfl,H0.o,Only.refl _ _⟩
 case round =>
  obtain⟨j,hj,rfl,hS,hO⟩:=hrel
  by_cases hlt:j<n
  ·have h6:Bs .u8 wr (.slice ao m vc) xs:=by
    have:=HB.o.keep hO (λk hk e=>HV.o k hk e);rw[<-h9.o] at this;exact this
   have h7:=h6.cut (n:=j*4) (by omega);have h5:=Qa (yo _ _ (H8.o.drop (j*4)) (by rw[Qo,<-h9.o];omega) wr h7);rw[kD] at h5
   have h0:off+j<(A++(ldW xs j++M.drop j)++C).length:=by
    have h1:=HM.o.1;have h2:=HM.o.2;rw[Qc,Qc,Qc,UJ,Qo];omega
   have hc:wr.cell? ⟨g,off+j,none⟩=some (.int .u32 (((A++(ldW xs j++M.drop j)++C).getD (off+j) 0:Nat):Int)):=by rw[hS.cell,wl_at _ _ h0]
   obtain⟨z,hz⟩:=EX ((A++(ldW xs j++M.drop j)++C).getD (off+j) 0);rw[<-hz] at hc;have hf:=hS.froz (off+j);obtain⟨x,h3⟩:=EX (ld4 xs j);rw[<-h3] at h5
   have N1:Hid (Blk (wr.setCell ⟨g,off+j,none⟩ (.int .u32 (x:Int))) g 208 (wl (A++(ldW xs (j+1)++M.drop (j+1))++C))):=by
    have:=hS.set (off+j) (.int .u32 (x:Int));rw[UP,h3,<-HM.o.1,MR A M C xs j (by rw[HM.o.2];exact hlt)] at this;rw[h3,<-HM.o.1];exact this
   have N2:=Qa (hO.setCell (p:=⟨g,off+j,none⟩) (λ_=>rfl) (.int .u32 (x:Int)))
   have i1:(j:Int)<n:=by omega
   have i2:(0:Int)<=(j:Int)*4:=by omega
   have i3:(j:Int)*4<=m:=by omega
   have i4:(m:Int)<=vc:=by omega
   have i5:¬vc=j*4:=by omega
   have hw1:IntKind.i64.wrap ((j:Int)*4)=(j:Int)*4:=by rw[IntKind.wrap_i64];omega
   clear hS hO h6 h7 h0 hz h3 hx;go_wp2_with fail;refine h5.o.mono ?_;rintro e w1 ⟨rfl,rfl⟩;go_wp2
   go_roundw
   case rel=>exact⟨j+1,by omega,by go_num,N1.o,N2.o⟩
   case measure=>simp[intOf];omega
  ·obtain rfl:j=n:=by omega
   have F1:Hid (Blk wr g 208 (wl (A++ldW xs j++C))):=by
    have:=hS;rw[List.drop_of_length_le (by rw[HM.o.2];exact Nat.le_refl _),List.append_nil] at this;exact this
   have F2:=Qa hO;clear hS hO;go_wp2
   go_end0
   exact⟨rfl,F1.o,F2.o⟩
theorem Rj {xs:LI} {n:Nat} (h:xs.length=n+1):xs≠[]:=λe=>by subst e;simp at h
theorem Ia (X:List Nat) (hX:X.length=12) (c:Nat):(X++List.replicate 4 0).set 12 c=X++[c]++List.replicate 3 0:=by
 rw[<-hX,List.set_append_right _ _ (Nat.le_refl _),Nat.sub_self,show List.replicate 4 0=0 :: List.replicate 3 0 from rfl,Qj];simp
theorem Hj (vk vn:Value) (key nonce:LI) (ctr:Nat) (hk:key.length=32) (hn:nonce.length=12) (k8:U8 key) (n8:U8 nonce) (w:World) (bk:Bs .u8 w vk key) (bn:Bs .u8 w vn nonce) :
 Calls prog 161 #[vk,.int .u32 ctr,vn] w λe w'=>e=.returned (.agg (wl (ccF key ctr nonce)).toArray)∧N0 w w':=by
 have h4:=(zero_of_info (P:=prog) Tryz.zero44).1;obtain⟨Z,hZ⟩:=EX zW;rw[<-hZ] at h4;have HZ:=Qa hZ;clear hZ;obtain⟨D,h1⟩:=EX (wl (ccF key ctr nonce));rw[<-h1];have HD:=Qa h1;clear h1;go_enter func161,ntmps161;go_wp2_with (first|(refine Kh rfl 208 _ rfl (wl (ccW++List.replicate 12 0)).toArray (by kernel_rfl) ?_)|(refine wpList_store_row rfl 208 (.tmp 7) (.tmp 8) rfl (w.heap.size+1) (wl (ccW++List.replicate 12 0)).toArray rfl rfl 208 Z.toArray (heap_alloc2_new w _ _) Tryz.size44 (by rw[HZ.o];rfl) (UB _) ?_))
 have B1:Hid (Blk (((w.alloc (.cells Z.toArray 208)).alloc (.cells Z.toArray 208)).setRow (w.heap.size+1) (wl (ccW++[0,0,0,0,0,0,0,0,0,0,0,0])).toArray) (w.heap.size+1) 208 (wl (ccW++List.replicate 8 0++List.replicate 4 0))):=by
  have h:=Blk.new (w.alloc (.cells Z.toArray 208)) 208 Z;rw[size_alloc] at h;exact h.row (wl (ccW++[0,0,0,0,0,0,0,0,0,0,0,0]))
 have O1:Hid (N0 w (((w.alloc (.cells Z.toArray 208)).alloc (.cells Z.toArray 208)).setRow (w.heap.size+1) (wl (ccW++[0,0,0,0,0,0,0,0,0,0,0,0])).toArray)) :=
  (((Only.refl _ _).alloc _).alloc _).setRow (λh=>absurd h (by omega)) _
 have R1:Hid (Blk (((w.alloc (.cells Z.toArray 208)).alloc (.cells Z.toArray 208)).setRow (w.heap.size+1) (wl (ccW++[0,0,0,0,0,0,0,0,0,0,0,0])).toArray) w.heap.size 208 Z):=by
  have h:=(Blk.new w 208 Z).alloc (.cells Z.toArray 208);exact h.keep ((Only.refl (λk=>k=w.heap.size+1) _).setRow (λ_=>rfl) _) (by omega)
 obtain⟨G,hG⟩:=EX (w.heap.size+1);obtain⟨R,hR⟩:=EX w.heap.size;have HG:Hid (w.heap.size<=G∧w.heap.size<=R∧R≠G):=⟨by omega,by omega,by omega⟩;rw[<-hG] at B1 O1 R1 ⊢;rw[<-hR] at R1 ⊢;obtain⟨Y,hY⟩:=EX (wl (ccW++[0,0,0,0,0,0,0,0,0,0,0,0]));rw[<-hY] at B1 O1 R1 ⊢;obtain⟨W1,h3⟩:=EX (((w.alloc (.cells Z.toArray 208)).alloc (.cells Z.toArray 208)).setRow G Y.toArray);rw[<-h3] at B1 O1 R1 ⊢;clear h3 hY hG hR h4;refine (Li G 4 8 12 ccW (List.replicate 8 0) (List.replicate 4 0) vk key rfl rfl hk (by decide) k8 W1 (bk.past O1.o) (λk hk2 e=>by have:=bk.blk_lt (Rj hk) k hk2;have:=HG.o.1;omega) B1.o).mono ?_;rintro e w2 ⟨rfl,b2,o2⟩
 have hc:w2.cell? ⟨G,12,none⟩=some (.int .u32 (((ccW++ldW key 8++List.replicate 4 0).getD 12 0:Nat):Int)):=by rw[b2.cell,wl_at _ _ (by simp[ccW,UJ])]
 obtain⟨z,hz⟩:=EX ((ccW++ldW key 8++List.replicate 4 0).getD 12 0);rw[<-hz] at hc;have hf:=b2.froz 12
 have B2:Hid (Blk (w2.setCell ⟨G,12,none⟩ (.int .u32 (ctr:Int))) G 208 (wl ((ccW++ldW key 8++[ctr])++List.replicate 3 0++[]))):=by
  have h:=b2.set 12 (.int .u32 (ctr:Int));rw[UP,Ia _ (by simp[ccW,UJ])] at h;rw[List.append_nil];exact h
 have oc:=(Only.refl (λk=>k=G) w2).setCell (p:=⟨G,12,none⟩) (λ_=>rfl) (.int .u32 (ctr:Int));have R2:=Qa ((R1.o.keep o2 HG.o.2.2).keep oc HG.o.2.2);have O2:=Qa ((O1.o.trans o2 (λi hi e=>by have:=HG.o.1;omega)).trans oc (λi hi e=>by have:=HG.o.1;omega));clear hz b2 o2 oc B1 O1 R1;go_wp2_with fail;obtain⟨W2,h2⟩:=EX (w2.setCell ⟨G,12,none⟩ (.int .u32 (ctr:Int)));rw[<-h2] at B2 R2 O2 ⊢;clear h2 hc hf;refine (Li G 13 3 3 (ccW++ldW key 8++[ctr]) (List.replicate 3 0) [] vn nonce (by simp[ccW,UJ]) rfl hn (by decide) n8 W2 (bn.past O2.o) (λk hk2 e=>by have:=bn.blk_lt (Rj hn) k hk2;have:=HG.o.1;omega) B2.o).mono ?_;rintro e w3 ⟨rfl,b3,o3⟩;rw[List.append_nil] at b3;have hD:=HD.o
 have B3:Hid (Blk w3 G 208 D):=by
  show Blk _ _ _ _
  rw[hD];exact b3
 have R3:=Qa (R2.o.keep o3 HG.o.2.2);have O3:=Qa (O2.o.trans o3 (λi hi e=>by have:=HG.o.1;omega))
 have h0:Hid ((prog.info? 208).map (·.size)=some D.toArray.size):=by
  show _=_
  rw[hD];simp[QQ,WQ,Tryz.size44]
 have HZ2:Hid (Z.toArray.size=D.toArray.size):=by
  show _=_
  rw[hD,HZ.o];simp[QQ,WQ,Ju]
 have HA:Hid (D.toArray.all (·.oneCell')=true):=by
  show _=_
  rw[hD];exact UB _
 clear hD b3 o3 B2 R2 O2;go_wp2_with (first|(refine wpList_load_row rfl 208 (.tmp 7) rfl G rfl 208 D.toArray (0,0) _ B3.o underlying208 rfl h0.o ?_)|(refine wpList_store_row rfl 208 (.tmp 6) (.tmp 17) rfl R D.toArray rfl rfl 208 Z.toArray R3.o h0.o HZ2.o HA.o ?_));refine bodyPost_ret (v:=.agg D.toArray) (results_cell_row rfl _ _ R 208 D.toArray (0,0) _ rfl (R3.o.row D) underlying208 rfl h0.o) rfl ⟨rfl,?_⟩;exact O3.o.setRow (λh=>absurd h (by have:=HG.o.2.1;omega)) _
abbrev KN (key nonce:LI):Prop:=key.length=32∧nonce.length=12
theorem Hm (ao bo:Option Addr) (kl kc nl nc:Nat) (w:World):Calls prog 159 #[.slice ao kl kc,.slice bo nl nc] w λe w'=>e=.returned (.bool (decide (kl=32∧nl=12)))∧w=w':=by
 by_cases h1:kl=32
 ·subst h1
  by_cases h2:nl=12
  ·subst h2
   go_enter func159,ntmps159;go_wp2;go_ret;exact⟨rfl,rfl⟩
  ·have e1:((nl:Int) == 12)=false:=by rw[beq_eq_false_iff_ne];omega
   have e2:decide (32=32∧nl=12)=false:=Qb (λh=>h2 h.2);rw[e2];go_enter func159,ntmps159;go_wp2;go_ret;exact⟨rfl,rfl⟩
 ·have e1:((kl:Int) == 32)=false:=by rw[beq_eq_false_iff_ne];omega
  have e2:decide (kl=32∧nl=12)=false:=Qb (λh=>h1 h.1);rw[e2];go_enter func159,ntmps159;go_wp2;go_ret;exact⟨rfl,rfl⟩
theorem MX (n:Nat) (hn:n<=1000000000000) (w:World):Calls prog 160 #[.int .i64 n] w λe w'=>e=.returned (.int .u64 (((n+63) / 64:Nat):Int))∧w=w':=by
 have h1:IntKind.u64.wrap (n:Int)=(n:Int):=by simp[IntKind.wrap,IntKind.bits,IntKind.signed];omega
 have h2:IntKind.u64.wrap ((n:Int)+64)=((n+64:Nat):Int):=by simp[IntKind.wrap,IntKind.bits,IntKind.signed];omega
 have h3:IntKind.u64.wrap (((n+64:Nat):Int) - 1)=((n+63:Nat):Int):=by simp[IntKind.wrap,IntKind.bits,IntKind.signed];omega
 go_enter func160,ntmps160;go_wp2;go_ret;refine⟨YP ?_,rfl⟩;omega
theorem Hw (M K:LI) (j:Nat) (h1:j<M.length) (h2:j<K.length):xorL (M.take (j+1)) (K.take (j+1))=xorL (M.take j) (K.take j)++[(((M.getD j 0).toNat ^^^ (K.getD j 0).toNat:Nat):Int)]:=by
 unfold xorL;rw[List.take_add_one,List.take_add_one,Qg h1,Qg h2,List.zipWith_append (by rw[Qf,Qf];omega),Qd,Qd,Qg h1,Qg h2]
 rfl
theorem LP (P A M:LI) (j:Nat) (x:Int) (hA:A.length=j) (hj:j<M.length):(P++(A++M.drop j)).set (P.length+j) x=P++((A++[x])++M.drop (j+1)):=by
 have e:M.drop j=M[j] :: M.drop (j+1):=List.drop_eq_getElem_cons hj;rw[List.set_append_right _ _ (by omega),Nat.add_sub_cancel_left,List.set_append_right _ _ (by omega),hA,Nat.sub_self,e,Qj];simp
theorem TG (P A M:LI) (j:Nat) (hA:A.length=j):(P++(A++M.drop j)).getD (P.length+j) 0=M.getD j 0:=by
 rw[Qd,List.getElem?_append_right (by omega),Nat.add_sub_cancel_left,List.getElem?_append_right (by omega),hA,Nat.sub_self,List.getElem?_drop,Nat.add_zero,<-Qd]
theorem GI (y z:Int) (hy:0<=y∧y<=255) (hz:0<=z∧z<=255):bits .xor .u8 y z=((y.toNat ^^^ z.toNat:Nat):Int):=by
 obtain⟨a,rfl⟩:=Int.eq_ofNat_of_zero_le hy.1;obtain⟨b,rfl⟩:=Int.eq_ofNat_of_zero_le hz.1;exact u8_xor_nat a b (by omega) (by omega)
theorem CW (g off m cap:Nat) (P M ks:LI) (hP:P.length=off) (hM:M.length=m) (hk:ks.length=64) (hm:m<=64) (m8:U8 M) (k8:U8 ks) (w:World) (hB:Blk w g 5 (bl (P++M))) :
 Calls prog 163 #[.slice (some ⟨g,off,none⟩) m cap,.agg (bl ks).toArray] w λe w'=>e=.returned (.int .i64 (m:Nat))∧Blk w' g 5 (bl (P++(xorL (M.take m) (ks.take m)++M.drop m)))∧Only (λk=>k=g) w w':=by
 have hlt:=hB.lt;have H0:=Qa hB;have HM:=Qa (And.intro hP (And.intro hM (And.intro hk (And.intro m8 k8))));obtain⟨K,hK⟩:=EX (bl ks);rw[<-hK];have HK:=Qa hK
 have hmm:¬(64:Int)<m:=by omega
 clear hB hP hM hk m8 k8 hK;go_enter func163,ntmps163;go_wp2
 have S0:Hid (Blk (w.alloc (.cells K.toArray 117)) g 5 (bl (P++(xorL (M.take 0) (ks.take 0)++M.drop 0)))∧Blk (w.alloc (.cells K.toArray 117)) w.heap.size 117 K∧Only (λk=>k=g) w (w.alloc (.cells K.toArray 117))) :=
  ⟨H0.o.alloc _,Blk.new w 117 K,(Only.refl _ _).alloc _⟩
 obtain⟨N,hN⟩:=EX w.heap.size;have HN:Hid (w.heap.size<=N∧g≠N):=⟨by omega,by omega⟩;obtain⟨W0,h1⟩:=EX (w.alloc (.cells K.toArray 117));rw[<-hN,<-h1] at S0;rw[<-hN,<-h1];clear hN h1 hlt
 go_loopw [11] (λi wr=>∃j:Nat,j<=m∧i=.int .i64 j∧Blk wr g 5 (bl (P++(xorL (M.take j) (ks.take j)++M.drop j)))∧Blk wr N 117 K∧Only (λk=>k=g) w wr) (λi _=>m - (intOf i).toNat)
 case atStart=>exact⟨0,by omega,rfl,S0.o⟩
 case round =>
  obtain⟨j,hj,rfl,k1,k2,k3⟩:=hrel;clear S0
  by_cases hlj:j<m
  ·have h3:j<M.length:=by rw[HM.o.2.1];omega
   have h0:(xorL (M.take j) (ks.take j)).length=j:=by
    rw[Z4,Qf,Qf,HM.o.2.2.1];omega
   have hc1:wr.cell? ⟨g,off+j,none⟩=some (.int .u8 (M.getD j 0)):=by
    rw[k1.cell,bl_at _ _ (by rw[Qc,Qc,h0,Qo,HM.o.1];omega),<-HM.o.1,TG P _ M j h0]
   have hc2:wr.cell? ⟨N,j,none⟩=some (.int .u8 (ks.getD j 0)):=by
    rw[k2.cell,HK.o,bl_at _ _ (by rw[HM.o.2.2.1];omega)]
   have hf:=k1.froz (off+j);have hx:=GI _ _ (HM.o.2.2.2.1.at j) (HM.o.2.2.2.2.at j);have h2:=Hw M ks j h3 (by rw[HM.o.2.2.1];omega);obtain⟨x,h4⟩:=EX ((((M.getD j 0).toNat ^^^ (ks.getD j 0).toNat:Nat):Int));rw[<-h4] at hx h2;obtain⟨y,hy⟩:=EX (M.getD j 0);obtain⟨z,hz⟩:=EX (ks.getD j 0);rw[<-hy] at hc1 hx;rw[<-hz] at hc2 hx;have oc:=((Only.refl (λk=>k=g) wr).drew).setCell (p:=⟨g,off+j,none⟩) (λ_=>rfl) (.int .u8 x)
   have N1:Hid (Blk (wr.drew.setCell ⟨g,off+j,none⟩ (.int .u8 x)) g 5 (bl (P++(xorL (M.take (j+1)) (ks.take (j+1))++M.drop (j+1))))∧Blk (wr.drew.setCell ⟨g,off+j,none⟩ (.int .u8 x)) N 117 K∧Only (λk=>k=g) w (wr.drew.setCell ⟨g,off+j,none⟩ (.int .u8 x))):=by
    refine⟨?_,k2.keep oc (λe=>HN.o.2 e.symm),k3.trans oc (λi _ e=>e)⟩;have h:=k1.drew.set (off+j) (.int .u8 x);rw[Vy,<-HM.o.1,LP P _ M j x h0 h3,<-h2] at h;rw[<-HM.o.1];exact h
   have i1:(j:Int)<m:=by omega
   have i2:(j:Int)<64:=by omega
   have i3:(j:Int)<m:=by omega
   have hgN:¬g=N:=HN.o.2;clear h4 hy hz oc h2 k1 k2 k3 h0 h3;go_wp2_with fail;go_region
   all_goals go_wp2
   all_goals go_roundw
   case rel=>exact⟨j+1,by omega,by go_num,N1.o⟩
   case measure=>simp[intOf];omega
  ·obtain rfl:j=m:=by omega
   have F1:=Qa (And.intro k1 k3);clear k1 k2 k3;go_wp2;go_ret;exact⟨rfl,F1.o⟩
theorem Om (g off m cap:Nat) (P M ks:LI) (hP:P.length=off) (hM:M.length=m) (hk:ks.length=64) (hm:64<m) (m8:U8 M) (k8:U8 ks) (w:World) (hB:Blk w g 5 (bl (P++M))) :
 Calls prog 163 #[.slice (some ⟨g,off,none⟩) m cap,.agg (bl ks).toArray] w λe w'=>e=.returned (.int .i64 (64:Nat))∧Blk w' g 5 (bl (P++(xorL (M.take 64) (ks.take 64)++M.drop 64)))∧Only (λk=>k=g) w w':=by
 have hlt:=hB.lt;have H0:=Qa hB;have HM:=Qa (And.intro hP (And.intro hM (And.intro hk (And.intro m8 k8))));obtain⟨K,hK⟩:=EX (bl ks);rw[<-hK];have HK:=Qa hK
 have hmm:(64:Int)<m:=by omega
 clear hB hP hM hk m8 k8 hK;go_enter func163,ntmps163;go_wp2
 have S0:Hid (Blk (w.alloc (.cells K.toArray 117)) g 5 (bl (P++(xorL (M.take 0) (ks.take 0)++M.drop 0)))∧Blk (w.alloc (.cells K.toArray 117)) w.heap.size 117 K∧Only (λk=>k=g) w (w.alloc (.cells K.toArray 117))) :=
  ⟨H0.o.alloc _,Blk.new w 117 K,(Only.refl _ _).alloc _⟩
 obtain⟨N,hN⟩:=EX w.heap.size;have HN:Hid (w.heap.size<=N∧g≠N):=⟨by omega,by omega⟩;obtain⟨W0,h1⟩:=EX (w.alloc (.cells K.toArray 117));rw[<-hN,<-h1] at S0;rw[<-hN,<-h1];clear hN h1 hlt
 go_loopw [11] (λi wr=>∃j:Nat,j<=64∧i=.int .i64 j∧Blk wr g 5 (bl (P++(xorL (M.take j) (ks.take j)++M.drop j)))∧Blk wr N 117 K∧Only (λk=>k=g) w wr) (λi _=>64 - (intOf i).toNat)
 case atStart=>exact⟨0,by omega,rfl,S0.o⟩
 case round =>
  obtain⟨j,hj,rfl,k1,k2,k3⟩:=hrel;clear S0
  by_cases hlj:j<64
  ·have h3:j<M.length:=by rw[HM.o.2.1];omega
   have h0:(xorL (M.take j) (ks.take j)).length=j:=by
    rw[Z4,Qf,Qf,HM.o.2.2.1];omega
   have hc1:wr.cell? ⟨g,off+j,none⟩=some (.int .u8 (M.getD j 0)):=by
    rw[k1.cell,bl_at _ _ (by rw[Qc,Qc,h0,Qo,HM.o.1];omega),<-HM.o.1,TG P _ M j h0]
   have hc2:wr.cell? ⟨N,j,none⟩=some (.int .u8 (ks.getD j 0)):=by
    rw[k2.cell,HK.o,bl_at _ _ (by rw[HM.o.2.2.1];omega)]
   have hf:=k1.froz (off+j);have hx:=GI _ _ (HM.o.2.2.2.1.at j) (HM.o.2.2.2.2.at j);have h2:=Hw M ks j h3 (by rw[HM.o.2.2.1];omega);obtain⟨x,h4⟩:=EX ((((M.getD j 0).toNat ^^^ (ks.getD j 0).toNat:Nat):Int));rw[<-h4] at hx h2;obtain⟨y,hy⟩:=EX (M.getD j 0);obtain⟨z,hz⟩:=EX (ks.getD j 0);rw[<-hy] at hc1 hx;rw[<-hz] at hc2 hx;have oc:=((Only.refl (λk=>k=g) wr).drew).setCell (p:=⟨g,off+j,none⟩) (λ_=>rfl) (.int .u8 x)
   have N1:Hid (Blk (wr.drew.setCell ⟨g,off+j,none⟩ (.int .u8 x)) g 5 (bl (P++(xorL (M.take (j+1)) (ks.take (j+1))++M.drop (j+1))))∧Blk (wr.drew.setCell ⟨g,off+j,none⟩ (.int .u8 x)) N 117 K∧Only (λk=>k=g) w (wr.drew.setCell ⟨g,off+j,none⟩ (.int .u8 x))):=by
    refine⟨?_,k2.keep oc (λe=>HN.o.2 e.symm),k3.trans oc (λi _ e=>e)⟩;have h:=k1.drew.set (off+j) (.int .u8 x);rw[Vy,<-HM.o.1,LP P _ M j x h0 h3,<-h2] at h;rw[<-HM.o.1];exact h
   have i1:(j:Int)<64:=by omega
   have i2:(j:Int)<64:=by omega
   have i3:(j:Int)<m:=by omega
   have hgN:¬g=N:=HN.o.2;clear h4 hy hz oc h2 k1 k2 k3 h0 h3;go_wp2_with fail;go_region
   all_goals go_wp2
   all_goals go_roundw
   case rel=>exact⟨j+1,by omega,by go_num,N1.o⟩
   case measure=>simp[intOf];omega
  ·obtain rfl:j=64:=by omega
   have F1:=Qa (And.intro k1 k3);clear k1 k2 k3;go_wp2;go_ret;exact⟨rfl,F1.o⟩
theorem BV (g off m cap r:Nat) (P M ks:LI) (hP:P.length=off) (hM:M.length=m) (hk:ks.length=64) (hr:r=min m 64) (m8:U8 M) (k8:U8 ks) (w:World) (hB:Blk w g 5 (bl (P++M))) :
 Calls prog 163 #[.slice (some ⟨g,off,none⟩) m cap,.agg (bl ks).toArray] w λe w'=>e=.returned (.int .i64 (r:Nat))∧Blk w' g 5 (bl (P++(xorL (M.take r) (ks.take r)++M.drop r)))∧Only (λk=>k=g) w w':=by
 by_cases h:m<=64
 ·obtain rfl:r=m:=by omega
  exact CW g off r cap P M ks hP hM hk h m8 k8 w hB
 ·obtain rfl:r=64:=by omega
  exact Om g off m cap P M ks hP hM hk (by omega) m8 k8 w hB
def Ze (key:LI) (ctr:Nat) (nonce:LI):LI:=if KN key nonce then Q9 key ctr nonce else []
def ZT (key nonce:LI):Int:=if KN key nonce then 0 else 1
theorem Bs.of_bl {w:World} {g:Nat} {E:TypeId} {s:LI} (h:Blk w g E (bl s)) (n:Nat) (hn:s.length=n):Bs .u8 w (.slice (some ⟨g,0,none⟩) n n) s:=by
 refine⟨_,n,by rw[hn],by rw[hn];exact Nat.le_refl _,λ_=>⟨g,0,rfl,λj hj=>?_⟩⟩;rw[Nat.zero_add,h.cell,bl_at s j hj]
theorem Dw (vk vn:Value) (key nonce:LI) (ctr:Nat) (hc:ctr<4294967296) (k8:U8 key) (n8:U8 nonce) (w:World) (bk:Bs .u8 w vk key) (bn:Bs .u8 w vn nonce) :
 Calls prog 158 #[vk,.int .u32 ctr,vn] w λe w'=>∃v,e=.returned (.tuple #[v,.int .i64 (ZT key nonce)])∧Bs .u8 w' v (Ze key ctr nonce)∧NoCap v∧N0 w w':=by
 obtain⟨ao,kc,rfl⟩:=bk.len;obtain⟨bo,nc,rfl⟩:=bn.len;have A:=Qa (Hm ao bo key.length kc nonce.length nc w)
 by_cases h:KN key nonce
 ·have e1:decide (key.length=32∧nonce.length=12)=true:=Qe h
  rw[e1] at A;have EB:ZT key nonce=0:=if_pos h;have EL:Ze key ctr nonce=Q9 key ctr nonce:=if_pos h;rw[EB,EL];have HL:=Qa (Kj key ctr nonce);have F:=Qa (Hj _ _ key nonce ctr h.1 h.2 k8 n8 w bk bn)
  have O:Hid (∀W:World,Calls prog 162 #[.agg (wl (ccF key ctr nonce)).toArray] W λe w'=>e=.returned (.agg (bl (Q9 key ctr nonce)).toArray)∧N0 W w') :=
   λW=>Lq (ccF key ctr nonce) (WQ _ _ _) (T6 key k8 ctr hc nonce n8) W
  have hzv:=(zero_of_info (P:=prog) Tryz.zero42).1;obtain⟨Z,hZ⟩:=EX zB;rw[<-hZ] at hzv;obtain⟨L,hL⟩:=EX (Q9 key ctr nonce);rw[<-hL] at HL O ⊢;obtain⟨FW,h1⟩:=EX (wl (ccF key ctr nonce));rw[<-h1] at F O;obtain⟨D,hD⟩:=EX (bl L);rw[<-hD] at O
  have h0:Hid ((prog.info? 117).map (·.size)=some D.toArray.size∧Z.toArray.size=D.toArray.size∧D.toArray.all (·.oneCell')=true):=by
   refine⟨?_,?_,?_⟩
   ·rw[Tryz.size42,hD];simp[Qs,HL.o]
   ·rw[hD,hZ];simp[Qs,HL.o,Xx]
   ·rw[hD];exact XE _
  have HD:=Qa hD;clear hL h1 hZ hD bk bn k8 n8 h e1 EB EL hc;go_enter func158,ntmps158;go_wp2_with fail;refine A.o.mono ?_;rintro e w1 ⟨rfl,rfl⟩;go_wp2_with fail;refine F.o.mono ?_;rintro e w2 ⟨rfl,o2⟩;go_wp2_with fail;refine (O.o w2).mono ?_;rintro e w3 ⟨rfl,o3⟩;have O3:=Qa (o2.same o3);clear o2 o3 A F O;go_wp2_with (first|(refine wpList_store_row rfl 117 (.tmp 8) (.tmp 17) rfl w3.heap.size D.toArray rfl rfl 117 Z.toArray (Blk.new w3 117 Z) h0.o.1 h0.o.2.1 h0.o.2.2 ?_));go_ret2;have hb:Blk ((w3.alloc (.cells Z.toArray 117)).setRow w3.heap.size D.toArray) w3.heap.size 117 D:=(Blk.new w3 117 Z).row D;refine⟨_,rfl,?_,NoCap.some _ _ _,?_⟩
  ·rw[HD.o] at hb ⊢
   exact Bs.of_bl hb 64 HL.o
  ·exact (O3.o.alloc _).setRow (λh=>absurd h (by have:=O3.o.size;omega)) _
 ·have e1:decide (key.length=32∧nonce.length=12)=false:=Qb h
  rw[e1] at A;have EB:ZT key nonce=1:=if_neg h;have EL:Ze key ctr nonce=[]:=if_neg h;rw[EB,EL];clear bk bn k8 n8 h e1 EB EL hc;go_enter func158,ntmps158;go_wp2_with fail;refine A.o.mono ?_;rintro e w1 ⟨rfl,rfl⟩;go_wp2;go_ret2;exact⟨_,rfl,Bs.nil _ _,NoCap.nil,Only.refl _ _⟩
end Go.Proofs.YtoflhbghdlaeaaaGreatDoor
