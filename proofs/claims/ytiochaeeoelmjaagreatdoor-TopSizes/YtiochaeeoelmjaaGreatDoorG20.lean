import Derived.Test.YtiochaeeoelmjaaGreatDoorG19
namespace Go.Proofs.YtiochaeeoelmjaaGreatDoor
set_option maxHeartbeats 1600000
set_option maxRecDepth 100000
open Go.RowKit _root_.Go.Proofs.Tryz
theorem tclo (g:Nat) (s:List Nat) (hs:s.length=16) (h32:W32 s) (i j k l:Nat) (hi:i<16) (hj:j<16) (hk:k<16) (hl:l<16)
 (nij:¬i=j) (nik:¬i=k) (nil:¬i=l) (njk:¬j=k) (njl:¬j=l) (nkl:¬k=l) (w:World) (hb:Blk w g 190 (wl s)) :
 Calls prog 228 #[.int .i64 i,.int .i64 j,.int .i64 k,.int .i64 l,.pointer (some ⟨g,0,none⟩)] w λe w'=>e=.returned (.tuple #[])∧Blk w' g 190 (wl (turnW s i j k l))∧Only (λx=>x=g) w w':=by
 have hc:∀n,n<16->w.cell? ⟨g,n,none⟩=some (.int .u32 ((s.getD n 0:Nat):Int)):=λn hn=>by rw[hb.cell,wl_at s n (by omega)]
 have QA:Hid (∀W:World,Calls prog 229 #[.int .u32 (s.getD i 0:Nat),.int .u32 (s.getD j 0:Nat),.int .u32 (s.getD k 0:Nat),.int .u32 (s.getD l 0:Nat)] W λe w'=>e=.returned (q4v (qrt ⟨s.getD i 0,s.getD j 0,s.getD k 0,s.getD l 0⟩))∧W=w') :=
  λW=>Lt _ _ _ _ W (h32.at i) (h32.at j) (h32.at k) (h32.at l)
 refine (AZ g i j k l _ _ _ _ _ _ _ _ w (by omega) (by omega) (by omega) (by omega) (by omega) (by omega) (by omega) (by omega) QA (hc i hi) (hc j hj) (hc k hk) (hc l hl) nij nik nil njk njl nkl (λn=>hb.froz n)).mono ?_;rintro e w' ⟨rfl,rfl⟩;refine⟨rfl,?_,?_⟩
 ·have h:=(((hb.drew.set i (.int .u32 ((qrt ⟨s.getD i 0,s.getD j 0,s.getD k 0,s.getD l 0⟩).a:Nat))).set j (.int .u32 ((qrt ⟨s.getD i 0,s.getD j 0,s.getD k 0,s.getD l 0⟩).b:Nat))).set k (.int .u32 ((qrt ⟨s.getD i 0,s.getD j 0,s.getD k 0,s.getD l 0⟩).c:Nat))).set l (.int .u32 ((qrt ⟨s.getD i 0,s.getD j 0,s.getD k 0,s.getD l 0⟩).d:Nat))
  rw[UC,UC,UC,UC] at h;exact h
 ·exact (((((Only.refl (λx=>x=g) w).drew).setCell (p:=⟨g,i,none⟩) (λ_=>rfl) _).setCell (p:=⟨g,j,none⟩) (λ_=>rfl) _).setCell (p:=⟨g,k,none⟩) (λ_=>rfl) _).setCell (p:=⟨g,l,none⟩) (λ_=>rfl) _
theorem Lw (s:List Nat) (i j k l:Nat):turnP s (i,j,k,l)=turnW s i j k l:=rfl
theorem yb {s0 s1 s2 s3 s4 s5 s6 s7 s8:List Nat} (h1:s1=turnW s0 0 4 8 12) (h2:s2=turnW s1 1 5 9 13) (h3:s3=turnW s2 2 6 10 14) (h4:s4=turnW s3 3 7 11 15) (h5:s5=turnW s4 0 5 10 15) (h6:s6=turnW s5 1 6 11 12) (h7:s7=turnW s6 2 7 8 13) (h8:s8=turnW s7 3 4 9 14):dblR s0=s8:=by
 rw[h8,h7,h6,h5,h4,h3,h2,h1];simp only[dblR,fours,List.foldl_cons,List.foldl_nil,Lw]
theorem Tryz.size44:(prog.info? 190).map (·.size)=some 16:=by kernel_rfl
def zW:List Value:=wl (List.replicate 16 0)
theorem Tryz.zero44:(prog.info? 190).map (λi=>(i.zero,i.size))=some (some (.agg zW.toArray),16):=by kernel_rfl
theorem XP:zW.length=16:=rfl
theorem FU (s:List Nat) (hs:s.length=16) (h32:W32 s) (w:World):Calls prog 195 #[.agg (wl s).toArray] w λe w'=>e=.returned (.agg (wl (dbls 10 s)).toArray)∧N0 w w':=by
 have hmf:∀(fn:Fn) (first cap:Array Value) (w:World),(Instr.makeFunc fn first cap).run prog w=.ok (.func fn first cap) w:=λ_ _ _ _=>rfl
 have hl:=(zero_of_info (P:=prog) Tryz.zero44).1;obtain⟨Z,hZ⟩:=EX zW;rw[<-hZ] at hl;have HZ:=Qa hZ;obtain⟨D,hD⟩:=EX (wl (dbls 10 s))
 have hf:Hid ((prog.info? 190).map (·.size)=some D.toArray.size):=by
  show _=_
  rw[hD];simp[QJ,Vs,hs,Tryz.size44]
 have HZ2:Hid (Z.toArray.size=D.toArray.size):=by
  show _=_
  rw[hD,hZ];simp[QJ,Vs,hs,XP]
 have HA:Hid (D.toArray.all (·.oneCell')=true):=by
  show _=_
  rw[hD];exact Ur _
 rw[<-hD];have HD:=Qa hD;have HS:=Qa (And.intro hs h32);obtain⟨B,hB⟩:=EX (wl s);have HB:=Qa hB;rw[<-hB];clear hZ hD hB hs h32;go_enter func195,ntmps195;go_wp2_with fail
 have S0:Hid (Blk ((w.alloc (.cells B.toArray 190)).alloc (.cells Z.toArray 190)) w.heap.size 190 (wl (dbls 0 s))):=by
  show Blk _ _ _ (wl s)
  rw[<-HB.o];exact (Blk.new w 190 B).alloc _
 have R0:Hid (Blk ((w.alloc (.cells B.toArray 190)).alloc (.cells Z.toArray 190)) (w.heap.size+1) 190 Z):=by
  have:=Blk.new (w.alloc (.cells B.toArray 190)) 190 Z;rw[size_alloc] at this;exact this
 have O0:Hid (N0 w ((w.alloc (.cells B.toArray 190)).alloc (.cells Z.toArray 190))):=((Only.refl _ _).alloc _).alloc _;obtain⟨G,hG⟩:=EX w.heap.size;obtain⟨R,hR⟩:=EX (w.heap.size+1);obtain⟨W0,h0⟩:=EX ((w.alloc (.cells B.toArray 190)).alloc (.cells Z.toArray 190));rw[<-hG,<-h0] at S0;rw[<-hR,<-h0] at R0;rw[<-h0] at O0;rw[<-hR,<-hG,<-h0];have HG:Hid (w.heap.size<=G∧w.heap.size<=R∧R≠G):=⟨by omega,by omega,by omega⟩;clear hG hR h0 hl
 go_loopw [5] (λi wr=>∃n:Nat,n<=10∧i=.int .i64 n∧Blk wr G 190 (wl (dbls n s))∧Blk wr R 190 Z∧N0 w wr) (λi _=>10 - (intOf i).toNat)
 case atStart=>exact⟨0,by omega,rfl,S0.o,R0.o,O0.o⟩
 case round =>
  obtain⟨n,hn,rfl,hS,hR,hO⟩:=hrel;clear S0 R0 O0
  by_cases hlt:n<10
  ·obtain⟨s0,h4⟩:=EX (dbls n s)
   have L0:s0.length=16:=by rw[h4,Vs];exact HS.o.1
   have K0:W32 s0:=by rw[h4];exact PT n s HS.o.2
   have E0:Hid (dbls (n+1) s=dblR s0):=by
    show _=_
    rw[h4];rfl
   rw[<-h4] at hS;have B0:=Qa (And.intro hS (And.intro L0 K0));have RO:=Qa (And.intro hR hO)
   have i1:(n:Int)<10:=by omega
   clear h4 L0 K0 hS hR hO;go_wp2_with fail;refine (tclo G s0 B0.o.2.1 B0.o.2.2 0 4 8 12 (by decide) (by decide) (by decide) (by decide) (by decide) (by decide) (by decide) (by decide) (by decide) (by decide) _ B0.o.1).mono ?_;rintro e w1 ⟨rfl,b1,o1⟩;obtain⟨s1,h7⟩:=EX (turnW s0 0 4 8 12);have B1:Hid (Blk w1 G 190 (wl s1)∧s1.length=16∧W32 s1):=⟨by rw[h7];exact b1,by rw[h7,UL];exact B0.o.2.1,by rw[h7];exact UP B0.o.2.2 _ _ _ _⟩;have hh:Hid (Blk w1 R 190 Z∧N0 w w1):=⟨RO.o.1.keep o1 HG.o.2.2,RO.o.2.trans o1 (λi hi e=>by have:=HG.o.1;omega)⟩;have E1:=Qa h7;clear h7 b1 o1 B0 RO;go_wp2_with fail;refine (tclo G s1 B1.o.2.1 B1.o.2.2 1 5 9 13 (by decide) (by decide) (by decide) (by decide) (by decide) (by decide) (by decide) (by decide) (by decide) (by decide) _ B1.o.1).mono ?_;rintro e w2 ⟨rfl,b2,o2⟩;obtain⟨s2,h5⟩:=EX (turnW s1 1 5 9 13);have B2:Hid (Blk w2 G 190 (wl s2)∧s2.length=16∧W32 s2):=⟨by rw[h5];exact b2,by rw[h5,UL];exact B1.o.2.1,by rw[h5];exact UP B1.o.2.2 _ _ _ _⟩;have hd:Hid (Blk w2 R 190 Z∧N0 w w2):=⟨hh.o.1.keep o2 HG.o.2.2,hh.o.2.trans o2 (λi hi e=>by have:=HG.o.1;omega)⟩;have E2:=Qa h5;clear h5 b2 o2 B1 hh;go_wp2_with fail;refine (tclo G s2 B2.o.2.1 B2.o.2.2 2 6 10 14 (by decide) (by decide) (by decide) (by decide) (by decide) (by decide) (by decide) (by decide) (by decide) (by decide) _ B2.o.1).mono ?_;rintro e w3 ⟨rfl,b3,o3⟩;obtain⟨s3,h6⟩:=EX (turnW s2 2 6 10 14);have B3:Hid (Blk w3 G 190 (wl s3)∧s3.length=16∧W32 s3):=⟨by rw[h6];exact b3,by rw[h6,UL];exact B2.o.2.1,by rw[h6];exact UP B2.o.2.2 _ _ _ _⟩;have hg:Hid (Blk w3 R 190 Z∧N0 w w3):=⟨hd.o.1.keep o3 HG.o.2.2,hd.o.2.trans o3 (λi hi e=>by have:=HG.o.1;omega)⟩;have E3:=Qa h6;clear h6 b3 o3 B2 hd;go_wp2_with fail;refine (tclo G s3 B3.o.2.1 B3.o.2.2 3 7 11 15 (by decide) (by decide) (by decide) (by decide) (by decide) (by decide) (by decide) (by decide) (by decide) (by decide) _ B3.o.1).mono ?_;rintro e w4 ⟨rfl,b4,o4⟩;obtain⟨s4,h2⟩:=EX (turnW s3 3 7 11 15);have B4:Hid (Blk w4 G 190 (wl s4)∧s4.length=16∧W32 s4):=⟨by rw[h2];exact b4,by rw[h2,UL];exact B3.o.2.1,by rw[h2];exact UP B3.o.2.2 _ _ _ _⟩;have hj:Hid (Blk w4 R 190 Z∧N0 w w4):=⟨hg.o.1.keep o4 HG.o.2.2,hg.o.2.trans o4 (λi hi e=>by have:=HG.o.1;omega)⟩;have E4:=Qa h2;clear h2 b4 o4 B3 hg;go_wp2_with fail;refine (tclo G s4 B4.o.2.1 B4.o.2.2 0 5 10 15 (by decide) (by decide) (by decide) (by decide) (by decide) (by decide) (by decide) (by decide) (by decide) (by decide) _ B4.o.1).mono ?_;rintro e w5 ⟨rfl,b5,o5⟩;obtain⟨s5,h1⟩:=EX (turnW s4 0 5 10 15);have B5:Hid (Blk w5 G 190 (wl s5)∧s5.length=16∧W32 s5):=⟨by rw[h1];exact b5,by rw[h1,UL];exact B4.o.2.1,by rw[h1];exact UP B4.o.2.2 _ _ _ _⟩;have he:Hid (Blk w5 R 190 Z∧N0 w w5):=⟨hj.o.1.keep o5 HG.o.2.2,hj.o.2.trans o5 (λi hi e=>by have:=HG.o.1;omega)⟩;have E5:=Qa h1;clear h1 b5 o5 B4 hj;go_wp2_with fail;refine (tclo G s5 B5.o.2.1 B5.o.2.2 1 6 11 12 (by decide) (by decide) (by decide) (by decide) (by decide) (by decide) (by decide) (by decide) (by decide) (by decide) _ B5.o.1).mono ?_;rintro e w6 ⟨rfl,b6,o6⟩;obtain⟨s6,h8⟩:=EX (turnW s5 1 6 11 12);have B6:Hid (Blk w6 G 190 (wl s6)∧s6.length=16∧W32 s6):=⟨by rw[h8];exact b6,by rw[h8,UL];exact B5.o.2.1,by rw[h8];exact UP B5.o.2.2 _ _ _ _⟩;have hb:Hid (Blk w6 R 190 Z∧N0 w w6):=⟨he.o.1.keep o6 HG.o.2.2,he.o.2.trans o6 (λi hi e=>by have:=HG.o.1;omega)⟩;have E6:=Qa h8;clear h8 b6 o6 B5 he;go_wp2_with fail;refine (tclo G s6 B6.o.2.1 B6.o.2.2 2 7 8 13 (by decide) (by decide) (by decide) (by decide) (by decide) (by decide) (by decide) (by decide) (by decide) (by decide) _ B6.o.1).mono ?_;rintro e w7 ⟨rfl,b7,o7⟩;obtain⟨s7,h9⟩:=EX (turnW s6 2 7 8 13);have B7:Hid (Blk w7 G 190 (wl s7)∧s7.length=16∧W32 s7):=⟨by rw[h9];exact b7,by rw[h9,UL];exact B6.o.2.1,by rw[h9];exact UP B6.o.2.2 _ _ _ _⟩;have ha:Hid (Blk w7 R 190 Z∧N0 w w7):=⟨hb.o.1.keep o7 HG.o.2.2,hb.o.2.trans o7 (λi hi e=>by have:=HG.o.1;omega)⟩;have E7:=Qa h9;clear h9 b7 o7 B6 hb;go_wp2_with fail;refine (tclo G s7 B7.o.2.1 B7.o.2.2 3 4 9 14 (by decide) (by decide) (by decide) (by decide) (by decide) (by decide) (by decide) (by decide) (by decide) (by decide) _ B7.o.1).mono ?_;rintro e w8 ⟨rfl,b8,o8⟩;obtain⟨s8,h3⟩:=EX (turnW s7 3 4 9 14);have B8:Hid (Blk w8 G 190 (wl s8)∧s8.length=16∧W32 s8):=⟨by rw[h3];exact b8,by rw[h3,UL];exact B7.o.2.1,by rw[h3];exact UP B7.o.2.2 _ _ _ _⟩;have hk:Hid (Blk w8 R 190 Z∧N0 w w8):=⟨ha.o.1.keep o8 HG.o.2.2,ha.o.2.trans o8 (λi hi e=>by have:=HG.o.1;omega)⟩;have E8:=Qa h3;clear h3 b8 o8 B7 ha
   have EN:Hid (dbls (n+1) s=s8):=by
    show _=_
    rw[E0.o];exact yb E1.o E2.o E3.o E4.o E5.o E6.o E7.o E8.o
   go_wp2
   go_roundw
   case rel=>exact⟨n+1,by omega,by go_num,by rw[EN.o];exact B8.o.1,hk.o.1,hk.o.2⟩
   case measure=>simp[intOf];omega
  ·obtain rfl:n=10:=by omega
   rw[<-HD.o] at hS;have S2:=Qa hS;have R2:=Qa hR;have O2:=Qa hO;clear hS hR hO;go_wp2_with (first|(refine wpList_load_row rfl 190 (.tmp 1) rfl G rfl 190 D.toArray (0,0) _ S2.o underlying190 rfl hf.o ?_)|(refine wpList_store_row rfl 190 (.tmp 2) (.tmp 24) rfl R D.toArray rfl rfl 190 Z.toArray R2.o hf.o HZ2.o HA.o ?_));refine bodyPost_ret (v:=.agg D.toArray) (results_cell_row rfl _ _ R 190 D.toArray (0,0) _ rfl (R2.o.row D) underlying190 rfl hf.o) rfl ⟨rfl,?_⟩;exact O2.o.setRow (λh=>absurd h (by have:=HG.o.2.1;omega)) _
def bpart (s:List Nat) (i:Nat):LI:=(s.take i).flatMap le4
theorem BM (s:List Nat) (i:Nat) (hi:i<=s.length):(bpart s i).length=4*i:=by
 unfold bpart;rw[XN,Qd];omega
theorem F3 (s:List Nat) (i:Nat) (hi:i<s.length):bpart s (i+1)=bpart s i++le4 (s.getD i 0):=by
 unfold bpart;rw[KF s i hi,List.flatMap_append];simp
theorem BG (s:List Nat) (n:Nat) (hn:s.length<=n):bpart s n=s.flatMap le4:=by
 unfold bpart;rw[List.take_of_length_le hn]
theorem qC (x j:Nat) (hj:j<4):(le4 x).take (j+1)=(le4 x).take j++[(le4 x).getD j 0]:=by
 have:j=0∨j=1∨j=2∨j=3:=by omega
 rcases this with rfl | rfl | rfl | rfl <;> rfl
theorem Se (P Q:LI) (k n:Nat) (y:Int) (hn:n=k+1) (hP:P.length=Q.length):(P++List.replicate n 0).set Q.length y=(P++[y])++List.replicate k 0:=by
 subst hn;rw[<-hP,List.set_append_right _ _ (Nat.le_refl _),Nat.sub_self,List.replicate_succ,Qk];simp
theorem Tryz.size42:(prog.info? 161).map (·.size)=some 64:=by kernel_rfl
def zB:List Value:=bl (List.replicate 64 0)
theorem Tryz.zero42:(prog.info? 161).map (λi=>(i.zero,i.size))=some (some (.agg zB.toArray),64):=by kernel_rfl
theorem Xc:zB.length=64:=rfl
theorem ZF (s:LI):(bl s).toArray.all (·.oneCell')=true:=all_oneCell_toArray (Ub s)
theorem OE (s:List Nat) (i:Nat) (hi:i<16):(ccS s).getD i 0=((dbls 10 s).getD i 0+s.getD i 0) % 4294967296:=by
 simp[ccS,List.getD_eq_getElem?_getD,hi]
theorem uA (c j:Nat) (hj:j<4):(le4 c).getD j 0=((c / 256^j % 256:Nat):Int):=by
 have:j=0∨j=1∨j=2∨j=3:=by omega
 rcases this with rfl | rfl | rfl | rfl <;> simp[le4]
theorem Oy (s:List Nat) (hs:s.length=16) (j:Nat) (hj:j<16) (w:World):(Instr.index 190 (.agg (wl s).toArray) (.int .i64 j)).run prog w=.ok (.int .u32 ((s.getD j 0:Nat):Int)) w :=
 Wo 190 159 16 (wl s) j _ underlying190 Tryz.agg29 Tryz.one29 hj (wl_at s j (by omega)) w
theorem RK (s:List Nat) (hs:s.length=16) (h32:W32 s) (w:World):Calls prog 150 #[.agg (wl s).toArray] w λe w'=>e=.returned (.agg (bl ((ccS s).flatMap le4)).toArray)∧N0 w w':=by
 have hg:=(zero_of_info (P:=prog) Tryz.zero42).1;obtain⟨Z,hZ⟩:=EX zB;rw[<-hZ] at hg;have HZ:=Qa hZ;obtain⟨D,hD⟩:=EX (bl ((ccS s).flatMap le4))
 have hd:D.length=64:=by rw[hD,Qr,XN,XO]
 have h5:Hid ((prog.info? 161).map (·.size)=some D.toArray.size):=by
  show _=_
  rw[Tryz.size42];simp[hd]
 have HZ2:Hid (Z.toArray.size=D.toArray.size):=by
  show _=_
  rw[hZ];simp[hd,Xc]
 have HA:Hid (D.toArray.all (·.oneCell')=true):=by
  show _=_
  rw[hD];exact ZF _
 rw[<-hD];have HD:=Qa hD;have HS:=Qa (And.intro hs h32);obtain⟨B,hB⟩:=EX (wl s);have HB:=Qa hB
 have HB1:Hid ((prog.info? 190).map (·.size)=some B.toArray.size):=by
  show _=_
  rw[hB];simp[QJ,hs,Tryz.size44]
 rw[<-hB];clear hZ hD hB hs h32;go_enter func150,ntmps150;go_wp2_with (first|(refine wpList_load_row rfl 190 (.tmp 1) rfl w.heap.size rfl 190 B.toArray (0,0) _ (((Blk.new w 190 B).alloc _).alloc _) underlying190 rfl HB1.o ?_))
 have K0:Hid (Blk (((w.alloc (.cells B.toArray 190)).alloc (.cells Z.toArray 161)).alloc (.cells Z.toArray 161)) w.heap.size 190 B∧Blk (((w.alloc (.cells B.toArray 190)).alloc (.cells Z.toArray 161)).alloc (.cells Z.toArray 161)) (w.heap.size+1) 161 Z∧Blk (((w.alloc (.cells B.toArray 190)).alloc (.cells Z.toArray 161)).alloc (.cells Z.toArray 161)) (w.heap.size+1+1) 161 Z∧N0 w (((w.alloc (.cells B.toArray 190)).alloc (.cells Z.toArray 161)).alloc (.cells Z.toArray 161))):=by
  refine⟨((Blk.new w 190 B).alloc _).alloc _,?_,?_,(((Only.refl _ _).alloc _).alloc _).alloc _⟩
  ·have:=(Blk.new (w.alloc (.cells B.toArray 190)) 161 Z).alloc (.cells Z.toArray 161)
   rw[size_alloc] at this;exact this
  ·have:=Blk.new ((w.alloc (.cells B.toArray 190)).alloc (.cells Z.toArray 161)) 161 Z
   rw[size_alloc,size_alloc] at this;exact this
 obtain⟨X,hX⟩:=EX (w.heap.size+1+1);rw[<-hX] at K0 ⊢;obtain⟨R,hR⟩:=EX (w.heap.size+1);rw[<-hR] at K0 ⊢;obtain⟨F,hF⟩:=EX w.heap.size;have HG:Hid (w.heap.size<=F∧w.heap.size<=R∧w.heap.size<=X∧F≠X∧R≠X):=⟨by omega,by omega,by omega,by omega,by omega⟩;rw[<-hF] at K0 ⊢;obtain⟨W0,h7⟩:=EX ((((w.alloc (.cells B.toArray 190)).alloc (.cells Z.toArray 161)).alloc (.cells Z.toArray 161)));rw[<-h7] at K0 ⊢;clear hX hR hF h7 hg;have TC:=FU s HS.o.1 HS.o.2 W0;rw[<-HB.o] at TC;refine TC.mono ?_;clear TC;rintro e w1 ⟨rfl,o1⟩;obtain⟨T,hT⟩:=EX (dbls 10 s);have HX:=Qa (Oy (dbls 10 s) (by rw[Vs];exact HS.o.1));have HT:=Qa (PT 10 s HS.o.2);obtain⟨C,hC⟩:=EX (ccS s)
 have HC:Hid (C.length=16∧∀i,i<16->C.getD i 0=((dbls 10 s).getD i 0+s.getD i 0) % 4294967296):=by
  rw[hC];exact⟨XO s,OE s⟩
 rw[<-hC] at HD;rw[<-hT] at HX HT HC ⊢;obtain⟨TA,h9⟩:=EX (wl T);rw[<-h9] at HX ⊢
 have K1:Hid (Blk w1 F 190 B∧Blk w1 R 161 Z∧Blk w1 X 161 (bl (bpart C 0++List.replicate 64 0))∧N0 w w1):=by
  refine⟨K0.o.1.past o1,K0.o.2.1.past o1,?_,K0.o.2.2.2.same o1⟩;have:=K0.o.2.2.1.past o1;rw[HZ.o] at this;exact this
 clear K0 o1 hT hC h9;go_wp2
 go_loopw [9] (λi wr=>∃n:Nat,n<=16∧i=.int .i64 n∧Blk wr F 190 B∧Blk wr R 161 Z∧Blk wr X 161 (bl (bpart C n++List.replicate (64 - 4*n) 0))∧N0 w wr) (λi _=>16 - (intOf i).toNat)
 case atStart=>exact⟨0,by omega,rfl,K1.o⟩
 case round =>
  obtain⟨n,hn,rfl,k1,k2,k3,k4⟩:=hrel;clear K1
  by_cases hlt:n<16
  ·have hf:=HX.o n hlt
   have hb:wr.cell? ⟨F,n,none⟩=some (.int .u32 ((s.getD n 0:Nat):Int)):=by
    rw[k1.cell,HB.o,wl_at s n (by rw[HS.o.1];exact hlt)]
   obtain⟨c,hc⟩:=EX (C.getD n 0)
   have h2:IntKind.u32.wrap (((T.getD n 0:Nat):Int)+((s.getD n 0:Nat):Int))=(c:Int):=by
    rw[Vd,hc,HC.o.2 n hlt]
   have hc32:c<4294967296:=by rw[hc,HC.o.2 n hlt];exact Nat.mod_lt _ (by decide)
   obtain⟨tn,he⟩:=EX (T.getD n 0);obtain⟨sn,h8⟩:=EX (s.getD n 0);rw[<-he] at hf h2;rw[<-h8] at hb h2
   have i1:(n:Int)<16:=by omega
   have HK:=Qa (And.intro k1 (And.intro k2 (And.intro k3 k4)));have HCN:=Qa hc;clear he h8 hc k1 k2 k3 k4;go_wp2
   go_loopw [18] (λi wr=>∃j:Nat,j<=4∧i=.int .i64 j∧Blk wr F 190 B∧Blk wr R 161 Z∧Blk wr X 161 (bl ((bpart C n++(le4 c).take j)++List.replicate (64 - 4*n - j) 0))∧N0 w wr) (λi _=>4 - (intOf i).toNat)
   case atStart=>exact⟨0,by omega,rfl,HK.o.1,HK.o.2.1,by rw[List.take_zero,List.append_nil];exact HK.o.2.2.1,HK.o.2.2.2⟩
   case round =>
    obtain⟨j,hj,rfl,k1,k2,k3,k4⟩:=hrel;clear HK hb hf h2
    by_cases hlj:j<4
    ·have h6:(bpart C n).length=4*n:=BM C n (by rw[HC.o.1];omega)
     have h3:(bpart C n++(le4 c).take j).length=n*4+j:=by
      rw[Qb,h6,Qd,Gj];omega
     have ha:wr.cell? ⟨X,n*4+j,none⟩=some (.int .u8 (((bpart C n++(le4 c).take j)++List.replicate (64 - 4*n - j) 0).getD (n*4+j) 0)):=by
      rw[k3.cell,bl_at _ _ (by rw[Qb,h3,List.length_replicate];omega)]
     have hfx:=k3.froz (n*4+j);obtain⟨z,hz⟩:=EX (((bpart C n++(le4 c).take j)++List.replicate (64 - 4*n - j) 0).getD (n*4+j) 0);rw[<-hz] at ha;have h1:=uA c j hlj;obtain⟨y,hy⟩:=EX ((le4 c).getD j 0)
     have N1:Hid (Blk (wr.setCell ⟨X,n*4+j,none⟩ (.int .u8 y)) F 190 B∧Blk (wr.setCell ⟨X,n*4+j,none⟩ (.int .u8 y)) R 161 Z∧Blk (wr.setCell ⟨X,n*4+j,none⟩ (.int .u8 y)) X 161 (bl ((bpart C n++(le4 c).take (j+1))++List.replicate (64 - 4*n - (j+1)) 0))∧N0 w (wr.setCell ⟨X,n*4+j,none⟩ (.int .u8 y))):=by
      have oc:=(Only.refl (λk=>k=X) wr).setCell (p:=⟨X,n*4+j,none⟩) (λ_=>rfl) (.int .u8 y);refine⟨k1.keep oc HG.o.2.2.2.1,k2.keep oc HG.o.2.2.2.2,?_,k4.trans oc (λi hi e=>by have:=HG.o.2.2.1;omega)⟩;have h:=k3.set (n*4+j) (.int .u8 y);rw[Vm,<-h3,Se _ _ (64 - 4*n - (j+1)) _ y (by omega) rfl,h3,List.append_assoc (bpart C n),hy,<-qC c j hlj] at h;rw[hy];exact h
     rw[<-hy] at h1
     have i2:(j:Int)<4:=by omega
     clear hz hy k1 k2 k3 k4 h6 h3
     have h4:j=0∨j=1∨j=2∨j=3:=by omega
     rcases h4 with rfl | rfl | rfl | rfl
     ·have h0:y=(c:Int) % 256:=by rw[h1];simp
      rw[h0] at N1;clear h1 h0;simp only[Nat.add_zero] at ha hfx N1;go_wp2
      go_roundw
      case rel=>exact⟨1,by omega,by go_num,N1.o.1,N1.o.2.1,N1.o.2.2.1,N1.o.2.2.2⟩
      case measure=>simp[intOf]
     ·have h0:y=(c:Int) / 256 % 256:=by rw[h1];simp
      rw[h0] at N1;clear h1 h0;go_wp2
      go_roundw
      case rel=>exact⟨2,by omega,by go_num,N1.o.1,N1.o.2.1,N1.o.2.2.1,N1.o.2.2.2⟩
      case measure=>simp[intOf]
     ·have h0:y=(c:Int) / 65536 % 256:=by rw[h1];simp
      rw[h0] at N1;clear h1 h0;go_wp2
      go_roundw
      case rel=>exact⟨3,by omega,by go_num,N1.o.1,N1.o.2.1,N1.o.2.2.1,N1.o.2.2.2⟩
      case measure=>simp[intOf]
     ·have h0:y=(c:Int) / 16777216:=by rw[h1];simp;omega
      rw[h0] at N1;clear h1 h0;go_wp2
      go_roundw
      case rel=>exact⟨4,by omega,by go_num,N1.o.1,N1.o.2.1,N1.o.2.2.1,N1.o.2.2.2⟩
      case measure=>simp[intOf]
    ·obtain rfl:j=4:=by omega
     have N2:Hid (Blk wr F 190 B∧Blk wr R 161 Z∧Blk wr X 161 (bl (bpart C (n+1)++List.replicate (64 - 4*(n+1)) 0))∧N0 w wr):=by
      refine⟨k1,k2,?_,k4⟩;rw[F3 C n (by rw[HC.o.1];exact hlt),<-HCN.o,show 64 - 4*(n+1)=64 - 4*n - 4 by omega];exact k3
     clear k1 k2 k3 k4;go_wp2
     go_roundw
     case rel=>exact⟨n+1,by omega,by go_num,N2.o⟩
     case measure=>simp[intOf];omega
  ·obtain rfl:n=16:=by omega
   have S2:Hid (Blk wr X 161 D):=by
    rw[HD.o,<-BG C 16 (by rw[HC.o.1];exact Nat.le_refl _)];have:=k3;rw[show 64 - 4*16=0 from rfl,List.replicate_zero,List.append_nil] at this;exact this
   have R2:=Qa k2;have O2:=Qa k4;clear k1 k2 k3 k4;go_wp2_with (first|(refine wpList_load_row rfl 161 (.tmp 3) rfl X rfl 161 D.toArray (0,0) _ S2.o underlying161 rfl h5.o ?_)|(refine wpList_store_row rfl 161 (.tmp 2) (.tmp 33) rfl R D.toArray rfl rfl 161 Z.toArray R2.o h5.o HZ2.o HA.o ?_));refine bodyPost_ret (v:=.agg D.toArray) (results_cell_row rfl _ _ R 161 D.toArray (0,0) _ rfl (R2.o.row D) underlying161 rfl h5.o) rfl ⟨rfl,?_⟩;exact O2.o.setRow (λh=>absurd h (by have:=HG.o.2.1;omega)) _
def lacc (b:LI):Nat->Nat
 | 0=>0
 | m+1=>lacc b m+(b.getD m 0).toNat*256^m
theorem Hx (b:LI) (h:U8 b):∀m,lacc b m<256^m:=by
 intro m
 induction m with
 | zero=>exact Nat.zero_lt_one
 | succ m ih =>
  have:=h.at m;have e:256^(m+1)=256^m*256:=Nat.pow_succ ..
  show lacc b m+(b.getD m 0).toNat*256^m < _
  have hm:(b.getD m 0).toNat*256^m<=255*256^m:=Nat.mul_le_mul_right _ (by omega);omega
theorem yK (b:LI):lacc b 4=ld4 b 0:=by
 simp[lacc,ld4]
theorem Ff (a y m:Nat) (ha:a<2^m):a ||| y*2^m=a+y*2^m:=by
 have:=Nat.two_pow_add_eq_or_of_lt ha y;rw[Nat.or_comm,Nat.mul_comm y,<-this,Nat.add_comm]
theorem Hq (b:LI) (h:U8 b) (m:Nat) (hm:m<4):bits .or .u32 ((lacc b m:Nat):Int) (b.getD m 0*256^m)=((lacc b (m+1):Nat):Int):=by
 have h0:=h.at m;obtain⟨y,hy⟩:=Int.eq_ofNat_of_zero_le h0.1;have hl:=Hx b h m;have hl2:=Hx b h (m+1)
 have e:(256:Nat)^m=2^(8*m):=by rw[Nat.pow_mul]
 have h4:(256:Nat)^(m+1)<=256^4:=Nat.pow_le_pow_right (by decide) (by omega)
 have h5:(256:Nat)^4=4294967296:=by decide
 have hle:lacc b m<=lacc b (m+1):=Nat.le_add_right _ _
 have hs:lacc b (m+1)=lacc b m+y*256^m:=by
  show lacc b m+(b.getD m 0).toNat*256^m=_
  rw[hy];rfl
 rw[hy,show ((y:Int)*256^m)=((y*256^m:Nat):Int) by simp,u32_or_nat _ _ (by omega) (by omega),hs]
 congr 1
 rw[e];exact Ff _ _ _ (by rw[<-e];exact hl)
theorem Mb (b:LI) (h:U8 b):bits .or .u32 ((lacc b 0:Nat):Int) (b.getD 0 0)=((lacc b 1:Nat):Int):=by
 have:=Hq b h 0 (by decide)
 rwa [Int.pow_zero,Int.mul_one] at this
theorem uy (y:Int) (hy:0<=y∧y<=255):y*256 % 4294967296=y*256∧y*65536 % 4294967296=y*65536∧y*16777216 % 4294967296=y*16777216:=by omega
theorem SR (v:Value) (xs:LI) (h8:U8 xs) (hl:4<=xs.length) (w:World) (hb:Bs .u8 w v xs) :
 Calls prog 227 #[v] w λe w'=>e=.returned (.int .u32 (ld4 xs 0:Nat))∧w=w':=by
 obtain⟨b,off,cap,rfl,_⟩:=hb.at 0 (by omega)
 have HB:Hid (∀j,j<4->w.cell? ⟨b,off+j,none⟩=some (.int .u8 (xs.getD j 0))):=λj hj=>by
  obtain⟨b',off',cap',e,hc⟩:=hb.at j (by omega);simp at e;obtain⟨⟨rfl,rfl⟩,_⟩:=e;exact hc
 have HF:=Qa (yK xs);have H8:=Qa h8;obtain⟨n,hn⟩:=EX xs.length;rw[<-hn] at hl ⊢;clear hb hn h8;go_enter func227,ntmps227;go_wp2
 go_loopw [3,5] (λo i wr=>∃j:Nat,j<=4∧i=.int .i64 j∧o=.int .u32 (lacc xs j:Nat)∧w=wr) (λ_ i _=>4 - (intOf i).toNat)
 case atStart=>exact⟨0,by omega,rfl,rfl,rfl⟩
 case round =>
  obtain⟨j,hj,rfl,rfl,rfl⟩:=hrel
  by_cases hlt:j<4
  ·have hc:=HB.o j hlt
   have hy:=H8.o.at j;have hs:=uy _ hy;have ho:=Hq xs H8.o j hlt;have ho0:=Mb xs H8.o;obtain⟨y,h0⟩:=EX (xs.getD j 0);obtain⟨q,hq⟩:∃q:Nat,q=lacc xs (j+1):=⟨_,rfl⟩;obtain⟨A,hA⟩:∃A:Nat,A=lacc xs j:=⟨_,rfl⟩
   have i1:(j:Int)<4:=by omega
   have i2:(j:Int)<n:=by omega
   rw[<-h0] at hc hy hs ho;rw[<-hq,<-hA] at ho;rw[<-hA];obtain⟨y0,y1⟩:=hy;obtain⟨t1,t2,t3⟩:=hs;have HQ:=Qa hq;clear h0 hq hA ho0 HB H8
   have h4:j=0∨j=1∨j=2∨j=3:=by omega
   rcases h4 with rfl | rfl | rfl | rfl
   ·simp only[Nat.add_zero] at hc
    simp at ho;go_wp2
    go_roundw
    case rel=>exact⟨1,by omega,by go_num,by rw[HQ.o],trivial⟩
    case measure=>simp[intOf]
   ·simp at ho
    go_wp2
    go_roundw
    case rel=>exact⟨2,by omega,by go_num,by rw[HQ.o],trivial⟩
    case measure=>simp[intOf]
   ·simp at ho
    go_wp2
    go_roundw
    case rel=>exact⟨3,by omega,by go_num,by rw[HQ.o],trivial⟩
    case measure=>simp[intOf]
   ·simp at ho
    go_wp2
    go_roundw
    case rel=>exact⟨4,by omega,by go_num,by rw[HQ.o],trivial⟩
    case measure=>simp[intOf]
  ·obtain rfl:j=4:=by omega
   rw[HF.o];go_wp2;go_ret;exact⟨rfl,rfl⟩
theorem OT (xs:LI) (j:Nat):ldW xs (j+1)=ldW xs j++[ld4 xs j]:=by
 simp[ldW,List.range_succ]
theorem ND (xs:LI) (j:Nat):ld4 (xs.drop (j*4)) 0=ld4 xs j:=by
 rw[Nat.mul_comm j 4];simp only[ld4,Qc,List.getElem?_drop,Nat.mul_zero,Nat.zero_add,Nat.add_zero]
theorem OU (A M C:List Nat) (xs:LI) (j:Nat) (hj:j<M.length) :
 (A++(ldW xs j++M.drop j)++C).set (A.length+j) (ld4 xs j)=A++(ldW xs (j+1)++M.drop (j+1))++C:=by
 have e:M.drop j=M[j] :: M.drop (j+1):=List.drop_eq_getElem_cons hj;rw[List.append_assoc,List.set_append_right _ _ (by omega),Nat.add_sub_cancel_left,List.append_assoc,List.set_append_right _ _ (by rw[UB];omega),UB,Nat.sub_self,e,List.cons_append,Qk,OT];simp
theorem JK (g off n cap:Nat) (A M C:List Nat) (v:Value) (xs:LI) (hA:A.length=off) (hM:M.length=n) (hx:xs.length=4*n) (hn:n<=16) (h8:U8 xs) (w:World) (hb:Bs .u8 w v xs)
 (hv:∀k,v.ownBlock=some k->¬k=g) (hB:Blk w g 190 (wl (A++M++C))) :
 Calls prog 194 #[.slice (some ⟨g,off,none⟩) n cap,v] w λe w'=>e=.returned (.tuple #[])∧Blk w' g 190 (wl (A++ldW xs n++C))∧Only (λk=>k=g) w w':=by
 obtain⟨ao,vc,rfl⟩:=hb.len
 have h5:xs.length<=vc:=by obtain⟨_,_,e,h,_⟩:=hb;cases e;exact h
 have HB:=Qa hb;have HV:=Qa hv;have H0:=Qa hB;have H8:=Qa h8;have HM:=Qa (And.intro hA hM);obtain⟨m,hm⟩:=EX xs.length;have h7:=Qa hm;rw[<-hm] at hx h5 ⊢;clear hb hv hB hA hM h8 hm;go_enter func194,ntmps194;go_wp2
 go_loopw [7] (λi wr=>∃j:Nat,j<=n∧i=.int .i64 j∧Blk wr g 190 (wl (A++(ldW xs j++M.drop j)++C))∧Only (λk=>k=g) w wr) (λi _=>n - (intOf i).toNat)
 case atStart=>exact⟨0,by omega,rfl,H0.o,Only.refl _ _⟩
 case round =>
  obtain⟨j,hj,rfl,hS,hO⟩:=hrel
  by_cases hlt:j<n
  ·have h9:Bs .u8 wr (.slice ao m vc) xs:=by
    have:=HB.o.keep hO (λk hk e=>HV.o k hk e);rw[<-h7.o] at this;exact this
   have h6:=h9.cut (n:=j*4) (by omega);have h4:=Qa (SR _ _ (H8.o.drop (j*4)) (by rw[Qq,<-h7.o];omega) wr h6);rw[ND] at h4
   have h0:off+j<(A++(ldW xs j++M.drop j)++C).length:=by
    have h1:=HM.o.1;have h2:=HM.o.2;rw[Qb,Qb,Qb,UB,Qq];omega
   have hc:wr.cell? ⟨g,off+j,none⟩=some (.int .u32 (((A++(ldW xs j++M.drop j)++C).getD (off+j) 0:Nat):Int)):=by rw[hS.cell,wl_at _ _ h0]
   obtain⟨z,hz⟩:=EX ((A++(ldW xs j++M.drop j)++C).getD (off+j) 0);rw[<-hz] at hc;have hf:=hS.froz (off+j);obtain⟨x,h3⟩:=EX (ld4 xs j);rw[<-h3] at h4
   have N1:Hid (Blk (wr.setCell ⟨g,off+j,none⟩ (.int .u32 (x:Int))) g 190 (wl (A++(ldW xs (j+1)++M.drop (j+1))++C))):=by
    have:=hS.set (off+j) (.int .u32 (x:Int));rw[UC,h3,<-HM.o.1,OU A M C xs j (by rw[HM.o.2];exact hlt)] at this;rw[h3,<-HM.o.1];exact this
   have N2:=Qa (hO.setCell (p:=⟨g,off+j,none⟩) (λ_=>rfl) (.int .u32 (x:Int)))
   have i1:(j:Int)<n:=by omega
   have i2:(0:Int)<=(j:Int)*4:=by omega
   have i3:(j:Int)*4<=m:=by omega
   have i4:(m:Int)<=vc:=by omega
   have i5:¬vc=j*4:=by omega
   have hw1:IntKind.i64.wrap ((j:Int)*4)=(j:Int)*4:=by rw[IntKind.wrap_i64];omega
   clear hS hO h9 h6 h0 hz h3 hx;go_wp2_with fail;refine h4.o.mono ?_;rintro e w1 ⟨rfl,rfl⟩;go_wp2
   go_roundw
   case rel=>exact⟨j+1,by omega,by go_num,N1.o,N2.o⟩
   case measure=>simp[intOf];omega
  ·obtain rfl:j=n:=by omega
   have F1:Hid (Blk wr g 190 (wl (A++ldW xs j++C))):=by
    have:=hS;rw[List.drop_of_length_le (by rw[HM.o.2];exact Nat.le_refl _),List.append_nil] at this;exact this
   have F2:=Qa hO;clear hS hO;go_wp2
   go_end0
   exact⟨rfl,F1.o,F2.o⟩
theorem GW {xs:LI} {n:Nat} (h:xs.length=n+1):xs≠[]:=λe=>by subst e;simp at h
theorem yH (X:List Nat) (hX:X.length=12) (c:Nat):(X++List.replicate 4 0).set 12 c=X++[c]++List.replicate 3 0:=by
 rw[<-hX,List.set_append_right _ _ (Nat.le_refl _),Nat.sub_self,show List.replicate 4 0=0 :: List.replicate 3 0 from rfl,Qk];simp
theorem Pf (vk vn:Value) (key nonce:LI) (ctr:Nat) (hk:key.length=32) (hn:nonce.length=12) (k8:U8 key) (n8:U8 nonce) (w:World) (bk:Bs .u8 w vk key) (bn:Bs .u8 w vn nonce) :
 Calls prog 149 #[vk,.int .u32 ctr,vn] w λe w'=>e=.returned (.agg (wl (ccF key ctr nonce)).toArray)∧N0 w w':=by
 have h2:=(zero_of_info (P:=prog) Tryz.zero44).1;obtain⟨Z,hZ⟩:=EX zW;rw[<-hZ] at h2;have HZ:=Qa hZ;clear hZ;obtain⟨D,h1⟩:=EX (wl (ccF key ctr nonce));rw[<-h1];have HD:=Qa h1;clear h1;go_enter func149,ntmps149;go_wp2_with (first|(refine WB rfl 190 _ rfl (wl (ccW++List.replicate 12 0)).toArray (by kernel_rfl) ?_)|(refine wpList_store_row rfl 190 (.tmp 7) (.tmp 8) rfl (w.heap.size+1) (wl (ccW++List.replicate 12 0)).toArray rfl rfl 190 Z.toArray (heap_alloc2_new w _ _) Tryz.size44 (by rw[HZ.o];rfl) (Ur _) ?_))
 have B1:Hid (Blk (((w.alloc (.cells Z.toArray 190)).alloc (.cells Z.toArray 190)).setRow (w.heap.size+1) (wl (ccW++[0,0,0,0,0,0,0,0,0,0,0,0])).toArray) (w.heap.size+1) 190 (wl (ccW++List.replicate 8 0++List.replicate 4 0))):=by
  have h:=Blk.new (w.alloc (.cells Z.toArray 190)) 190 Z;rw[size_alloc] at h;exact h.row (wl (ccW++[0,0,0,0,0,0,0,0,0,0,0,0]))
 have O1:Hid (N0 w (((w.alloc (.cells Z.toArray 190)).alloc (.cells Z.toArray 190)).setRow (w.heap.size+1) (wl (ccW++[0,0,0,0,0,0,0,0,0,0,0,0])).toArray)) :=
  (((Only.refl _ _).alloc _).alloc _).setRow (λh=>absurd h (by omega)) _
 have R1:Hid (Blk (((w.alloc (.cells Z.toArray 190)).alloc (.cells Z.toArray 190)).setRow (w.heap.size+1) (wl (ccW++[0,0,0,0,0,0,0,0,0,0,0,0])).toArray) w.heap.size 190 Z):=by
  have h:=(Blk.new w 190 Z).alloc (.cells Z.toArray 190);exact h.keep ((Only.refl (λk=>k=w.heap.size+1) _).setRow (λ_=>rfl) _) (by omega)
 obtain⟨G,hG⟩:=EX (w.heap.size+1);obtain⟨R,hR⟩:=EX w.heap.size;have HG:Hid (w.heap.size<=G∧w.heap.size<=R∧R≠G):=⟨by omega,by omega,by omega⟩;rw[<-hG] at B1 O1 R1 ⊢;rw[<-hR] at R1 ⊢;obtain⟨Y,hY⟩:=EX (wl (ccW++[0,0,0,0,0,0,0,0,0,0,0,0]));rw[<-hY] at B1 O1 R1 ⊢;obtain⟨W1,h4⟩:=EX (((w.alloc (.cells Z.toArray 190)).alloc (.cells Z.toArray 190)).setRow G Y.toArray);rw[<-h4] at B1 O1 R1 ⊢;clear h4 hY hG hR h2;refine (JK G 4 8 12 ccW (List.replicate 8 0) (List.replicate 4 0) vk key rfl rfl hk (by decide) k8 W1 (bk.past O1.o) (λk hk2 e=>by have:=bk.blk_lt (GW hk) k hk2;have:=HG.o.1;omega) B1.o).mono ?_;rintro e w2 ⟨rfl,b2,o2⟩
 have hc:w2.cell? ⟨G,12,none⟩=some (.int .u32 (((ccW++ldW key 8++List.replicate 4 0).getD 12 0:Nat):Int)):=by rw[b2.cell,wl_at _ _ (by simp[ccW,UB])]
 obtain⟨z,hz⟩:=EX ((ccW++ldW key 8++List.replicate 4 0).getD 12 0);rw[<-hz] at hc;have hf:=b2.froz 12
 have B2:Hid (Blk (w2.setCell ⟨G,12,none⟩ (.int .u32 (ctr:Int))) G 190 (wl ((ccW++ldW key 8++[ctr])++List.replicate 3 0++[]))):=by
  have h:=b2.set 12 (.int .u32 (ctr:Int));rw[UC,yH _ (by simp[ccW,UB])] at h;rw[List.append_nil];exact h
 have oc:=(Only.refl (λk=>k=G) w2).setCell (p:=⟨G,12,none⟩) (λ_=>rfl) (.int .u32 (ctr:Int));have R2:=Qa ((R1.o.keep o2 HG.o.2.2).keep oc HG.o.2.2);have O2:=Qa ((O1.o.trans o2 (λi hi e=>by have:=HG.o.1;omega)).trans oc (λi hi e=>by have:=HG.o.1;omega));clear hz b2 o2 oc B1 O1 R1;go_wp2_with fail;obtain⟨W2,h3⟩:=EX (w2.setCell ⟨G,12,none⟩ (.int .u32 (ctr:Int)));rw[<-h3] at B2 R2 O2 ⊢;clear h3 hc hf;refine (JK G 13 3 3 (ccW++ldW key 8++[ctr]) (List.replicate 3 0) [] vn nonce (by simp[ccW,UB]) rfl hn (by decide) n8 W2 (bn.past O2.o) (λk hk2 e=>by have:=bn.blk_lt (GW hn) k hk2;have:=HG.o.1;omega) B2.o).mono ?_;rintro e w3 ⟨rfl,b3,o3⟩;rw[List.append_nil] at b3;have hD:=HD.o
 have B3:Hid (Blk w3 G 190 D):=by
  show Blk _ _ _ _
  rw[hD];exact b3
 have R3:=Qa (R2.o.keep o3 HG.o.2.2);have O3:=Qa (O2.o.trans o3 (λi hi e=>by have:=HG.o.1;omega))
 have h0:Hid ((prog.info? 190).map (·.size)=some D.toArray.size):=by
  show _=_
  rw[hD];simp[QJ,Ww,Tryz.size44]
 have HZ2:Hid (Z.toArray.size=D.toArray.size):=by
  show _=_
  rw[hD,HZ.o];simp[QJ,Ww,XP]
 have HA:Hid (D.toArray.all (·.oneCell')=true):=by
  show _=_
  rw[hD];exact Ur _
 clear hD b3 o3 B2 R2 O2;go_wp2_with (first|(refine wpList_load_row rfl 190 (.tmp 7) rfl G rfl 190 D.toArray (0,0) _ B3.o underlying190 rfl h0.o ?_)|(refine wpList_store_row rfl 190 (.tmp 6) (.tmp 17) rfl R D.toArray rfl rfl 190 Z.toArray R3.o h0.o HZ2.o HA.o ?_));refine bodyPost_ret (v:=.agg D.toArray) (results_cell_row rfl _ _ R 190 D.toArray (0,0) _ rfl (R3.o.row D) underlying190 rfl h0.o) rfl ⟨rfl,?_⟩;exact O3.o.setRow (λh=>absurd h (by have:=HG.o.2.1;omega)) _
abbrev KN (key nonce:LI):Prop:=key.length=32∧nonce.length=12
theorem GP (ao bo:Option Addr) (kl kc nl nc:Nat) (w:World):Calls prog 147 #[.slice ao kl kc,.slice bo nl nc] w λe w'=>e=.returned (.bool (decide (kl=32∧nl=12)))∧w=w':=by
 by_cases h1:kl=32
 ·subst h1
  by_cases h2:nl=12
  ·subst h2
   go_enter func147,ntmps147;go_wp2;go_ret;exact⟨rfl,rfl⟩
  ·have e1:((nl:Int) == 12)=false:=by rw[beq_eq_false_iff_ne];omega
   have e2:decide (32=32∧nl=12)=false:=Qj (λh=>h2 h.2);rw[e2];go_enter func147,ntmps147;go_wp2;go_ret;exact⟨rfl,rfl⟩
 ·have e1:((kl:Int) == 32)=false:=by rw[beq_eq_false_iff_ne];omega
  have e2:decide (kl=32∧nl=12)=false:=Qj (λh=>h1 h.1);rw[e2];go_enter func147,ntmps147;go_wp2;go_ret;exact⟨rfl,rfl⟩
theorem Ia (n:Nat) (hn:n<=1000000000000) (w:World):Calls prog 148 #[.int .i64 n] w λe w'=>e=.returned (.int .u64 (((n+63) / 64:Nat):Int))∧w=w':=by
 have h1:IntKind.u64.wrap (n:Int)=(n:Int):=by simp[IntKind.wrap,IntKind.bits,IntKind.signed];omega
 have h2:IntKind.u64.wrap ((n:Int)+64)=((n+64:Nat):Int):=by simp[IntKind.wrap,IntKind.bits,IntKind.signed];omega
 have h3:IntKind.u64.wrap (((n+64:Nat):Int) - 1)=((n+63:Nat):Int):=by simp[IntKind.wrap,IntKind.bits,IntKind.signed];omega
 go_enter func148,ntmps148;go_wp2;go_ret;refine⟨YP ?_,rfl⟩;omega
theorem Tj (M K:LI) (j:Nat) (h1:j<M.length) (h2:j<K.length):xorL (M.take (j+1)) (K.take (j+1))=xorL (M.take j) (K.take j)++[(((M.getD j 0).toNat ^^^ (K.getD j 0).toNat:Nat):Int)]:=by
 unfold xorL;rw[List.take_add_one,List.take_add_one,Qe h1,Qe h2,List.zipWith_append (by rw[Qd,Qd];omega),Qc,Qc,Qe h1,Qe h2]
 rfl
theorem Pu (P A M:LI) (j:Nat) (x:Int) (hA:A.length=j) (hj:j<M.length):(P++(A++M.drop j)).set (P.length+j) x=P++((A++[x])++M.drop (j+1)):=by
 have e:M.drop j=M[j] :: M.drop (j+1):=List.drop_eq_getElem_cons hj;rw[List.set_append_right _ _ (by omega),Nat.add_sub_cancel_left,List.set_append_right _ _ (by omega),hA,Nat.sub_self,e,Qk];simp
theorem PZ (P A M:LI) (j:Nat) (hA:A.length=j):(P++(A++M.drop j)).getD (P.length+j) 0=M.getD j 0:=by
 rw[Qc,List.getElem?_append_right (by omega),Nat.add_sub_cancel_left,List.getElem?_append_right (by omega),hA,Nat.sub_self,List.getElem?_drop,Nat.add_zero,<-Qc]
theorem RP (y z:Int) (hy:0<=y∧y<=255) (hz:0<=z∧z<=255):bits .xor .u8 y z=((y.toNat ^^^ z.toNat:Nat):Int):=by
 obtain⟨a,rfl⟩:=Int.eq_ofNat_of_zero_le hy.1;obtain⟨b,rfl⟩:=Int.eq_ofNat_of_zero_le hz.1;exact u8_xor_nat a b (by omega) (by omega)
theorem Cz (g off m cap:Nat) (P M ks:LI) (hP:P.length=off) (hM:M.length=m) (hk:ks.length=64) (hm:m<=64) (m8:U8 M) (k8:U8 ks) (w:World) (hB:Blk w g 5 (bl (P++M))) :
 Calls prog 151 #[.slice (some ⟨g,off,none⟩) m cap,.agg (bl ks).toArray] w λe w'=>e=.returned (.int .i64 (m:Nat))∧Blk w' g 5 (bl (P++(xorL (M.take m) (ks.take m)++M.drop m)))∧Only (λk=>k=g) w w':=by
 have hlt:=hB.lt;have H0:=Qa hB;have HM:=Qa (And.intro hP (And.intro hM (And.intro hk (And.intro m8 k8))));obtain⟨K,hK⟩:=EX (bl ks);rw[<-hK];have HK:=Qa hK
 have hmm:¬(64:Int)<m:=by omega
 clear hB hP hM hk m8 k8 hK;go_enter func151,ntmps151;go_wp2
 have S0:Hid (Blk (w.alloc (.cells K.toArray 161)) g 5 (bl (P++(xorL (M.take 0) (ks.take 0)++M.drop 0)))∧Blk (w.alloc (.cells K.toArray 161)) w.heap.size 161 K∧Only (λk=>k=g) w (w.alloc (.cells K.toArray 161))) :=
  ⟨H0.o.alloc _,Blk.new w 161 K,(Only.refl _ _).alloc _⟩
 obtain⟨N,hN⟩:=EX w.heap.size;have HN:Hid (w.heap.size<=N∧g≠N):=⟨by omega,by omega⟩;obtain⟨W0,h1⟩:=EX (w.alloc (.cells K.toArray 161));rw[<-hN,<-h1] at S0;rw[<-hN,<-h1];clear hN h1 hlt
 go_loopw [11] (λi wr=>∃j:Nat,j<=m∧i=.int .i64 j∧Blk wr g 5 (bl (P++(xorL (M.take j) (ks.take j)++M.drop j)))∧Blk wr N 161 K∧Only (λk=>k=g) w wr) (λi _=>m - (intOf i).toNat)
 case atStart=>exact⟨0,by omega,rfl,S0.o⟩
 case round =>
  obtain⟨j,hj,rfl,k1,k2,k3⟩:=hrel;clear S0
  by_cases hlj:j<m
  ·have h2:j<M.length:=by rw[HM.o.2.1];omega
   have h0:(xorL (M.take j) (ks.take j)).length=j:=by
    rw[VL,Qd,Qd,HM.o.2.2.1];omega
   have hc1:wr.cell? ⟨g,off+j,none⟩=some (.int .u8 (M.getD j 0)):=by
    rw[k1.cell,bl_at _ _ (by rw[Qb,Qb,h0,Qq,HM.o.1];omega),<-HM.o.1,PZ P _ M j h0]
   have hc2:wr.cell? ⟨N,j,none⟩=some (.int .u8 (ks.getD j 0)):=by
    rw[k2.cell,HK.o,bl_at _ _ (by rw[HM.o.2.2.1];omega)]
   have hf:=k1.froz (off+j);have hx:=RP _ _ (HM.o.2.2.2.1.at j) (HM.o.2.2.2.2.at j);have h3:=Tj M ks j h2 (by rw[HM.o.2.2.1];omega);obtain⟨x,h4⟩:=EX ((((M.getD j 0).toNat ^^^ (ks.getD j 0).toNat:Nat):Int));rw[<-h4] at hx h3;obtain⟨y,hy⟩:=EX (M.getD j 0);obtain⟨z,hz⟩:=EX (ks.getD j 0);rw[<-hy] at hc1 hx;rw[<-hz] at hc2 hx;have oc:=((Only.refl (λk=>k=g) wr).drew).setCell (p:=⟨g,off+j,none⟩) (λ_=>rfl) (.int .u8 x)
   have N1:Hid (Blk (wr.drew.setCell ⟨g,off+j,none⟩ (.int .u8 x)) g 5 (bl (P++(xorL (M.take (j+1)) (ks.take (j+1))++M.drop (j+1))))∧Blk (wr.drew.setCell ⟨g,off+j,none⟩ (.int .u8 x)) N 161 K∧Only (λk=>k=g) w (wr.drew.setCell ⟨g,off+j,none⟩ (.int .u8 x))):=by
    refine⟨?_,k2.keep oc (λe=>HN.o.2 e.symm),k3.trans oc (λi _ e=>e)⟩;have h:=k1.drew.set (off+j) (.int .u8 x);rw[Vm,<-HM.o.1,Pu P _ M j x h0 h2,<-h3] at h;rw[<-HM.o.1];exact h
   have i1:(j:Int)<m:=by omega
   have i2:(j:Int)<64:=by omega
   have i3:(j:Int)<m:=by omega
   have hgN:¬g=N:=HN.o.2;clear h4 hy hz oc h3 k1 k2 k3 h0 h2;go_wp2_with fail;go_region
   all_goals go_wp2
   all_goals go_roundw
   case rel=>exact⟨j+1,by omega,by go_num,N1.o⟩
   case measure=>simp[intOf];omega
  ·obtain rfl:j=m:=by omega
   have F1:=Qa (And.intro k1 k3);clear k1 k2 k3;go_wp2;go_ret;exact⟨rfl,F1.o⟩
theorem uj (g off m cap:Nat) (P M ks:LI) (hP:P.length=off) (hM:M.length=m) (hk:ks.length=64) (hm:64<m) (m8:U8 M) (k8:U8 ks) (w:World) (hB:Blk w g 5 (bl (P++M))) :
 Calls prog 151 #[.slice (some ⟨g,off,none⟩) m cap,.agg (bl ks).toArray] w λe w'=>e=.returned (.int .i64 (64:Nat))∧Blk w' g 5 (bl (P++(xorL (M.take 64) (ks.take 64)++M.drop 64)))∧Only (λk=>k=g) w w':=by
 have hlt:=hB.lt;have H0:=Qa hB;have HM:=Qa (And.intro hP (And.intro hM (And.intro hk (And.intro m8 k8))));obtain⟨K,hK⟩:=EX (bl ks);rw[<-hK];have HK:=Qa hK
 have hmm:(64:Int)<m:=by omega
 clear hB hP hM hk m8 k8 hK;go_enter func151,ntmps151;go_wp2
 have S0:Hid (Blk (w.alloc (.cells K.toArray 161)) g 5 (bl (P++(xorL (M.take 0) (ks.take 0)++M.drop 0)))∧Blk (w.alloc (.cells K.toArray 161)) w.heap.size 161 K∧Only (λk=>k=g) w (w.alloc (.cells K.toArray 161))) :=
  ⟨H0.o.alloc _,Blk.new w 161 K,(Only.refl _ _).alloc _⟩
 obtain⟨N,hN⟩:=EX w.heap.size;have HN:Hid (w.heap.size<=N∧g≠N):=⟨by omega,by omega⟩;obtain⟨W0,h1⟩:=EX (w.alloc (.cells K.toArray 161));rw[<-hN,<-h1] at S0;rw[<-hN,<-h1];clear hN h1 hlt
 go_loopw [11] (λi wr=>∃j:Nat,j<=64∧i=.int .i64 j∧Blk wr g 5 (bl (P++(xorL (M.take j) (ks.take j)++M.drop j)))∧Blk wr N 161 K∧Only (λk=>k=g) w wr) (λi _=>64 - (intOf i).toNat)
 case atStart=>exact⟨0,by omega,rfl,S0.o⟩
 case round =>
  obtain⟨j,hj,rfl,k1,k2,k3⟩:=hrel;clear S0
  by_cases hlj:j<64
  ·have h2:j<M.length:=by rw[HM.o.2.1];omega
   have h0:(xorL (M.take j) (ks.take j)).length=j:=by
    rw[VL,Qd,Qd,HM.o.2.2.1];omega
   have hc1:wr.cell? ⟨g,off+j,none⟩=some (.int .u8 (M.getD j 0)):=by
    rw[k1.cell,bl_at _ _ (by rw[Qb,Qb,h0,Qq,HM.o.1];omega),<-HM.o.1,PZ P _ M j h0]
   have hc2:wr.cell? ⟨N,j,none⟩=some (.int .u8 (ks.getD j 0)):=by
    rw[k2.cell,HK.o,bl_at _ _ (by rw[HM.o.2.2.1];omega)]
   have hf:=k1.froz (off+j);have hx:=RP _ _ (HM.o.2.2.2.1.at j) (HM.o.2.2.2.2.at j);have h3:=Tj M ks j h2 (by rw[HM.o.2.2.1];omega);obtain⟨x,h4⟩:=EX ((((M.getD j 0).toNat ^^^ (ks.getD j 0).toNat:Nat):Int));rw[<-h4] at hx h3;obtain⟨y,hy⟩:=EX (M.getD j 0);obtain⟨z,hz⟩:=EX (ks.getD j 0);rw[<-hy] at hc1 hx;rw[<-hz] at hc2 hx;have oc:=((Only.refl (λk=>k=g) wr).drew).setCell (p:=⟨g,off+j,none⟩) (λ_=>rfl) (.int .u8 x)
   have N1:Hid (Blk (wr.drew.setCell ⟨g,off+j,none⟩ (.int .u8 x)) g 5 (bl (P++(xorL (M.take (j+1)) (ks.take (j+1))++M.drop (j+1))))∧Blk (wr.drew.setCell ⟨g,off+j,none⟩ (.int .u8 x)) N 161 K∧Only (λk=>k=g) w (wr.drew.setCell ⟨g,off+j,none⟩ (.int .u8 x))):=by
    refine⟨?_,k2.keep oc (λe=>HN.o.2 e.symm),k3.trans oc (λi _ e=>e)⟩;have h:=k1.drew.set (off+j) (.int .u8 x);rw[Vm,<-HM.o.1,Pu P _ M j x h0 h2,<-h3] at h;rw[<-HM.o.1];exact h
   have i1:(j:Int)<64:=by omega
   have i2:(j:Int)<64:=by omega
   have i3:(j:Int)<m:=by omega
   have hgN:¬g=N:=HN.o.2;clear h4 hy hz oc h3 k1 k2 k3 h0 h2;go_wp2_with fail;go_region
   all_goals go_wp2
   all_goals go_roundw
   case rel=>exact⟨j+1,by omega,by go_num,N1.o⟩
   case measure=>simp[intOf];omega
  ·obtain rfl:j=64:=by omega
   have F1:=Qa (And.intro k1 k3);clear k1 k2 k3;go_wp2;go_ret;exact⟨rfl,F1.o⟩
theorem yc (g off m cap r:Nat) (P M ks:LI) (hP:P.length=off) (hM:M.length=m) (hk:ks.length=64) (hr:r=min m 64) (m8:U8 M) (k8:U8 ks) (w:World) (hB:Blk w g 5 (bl (P++M))) :
 Calls prog 151 #[.slice (some ⟨g,off,none⟩) m cap,.agg (bl ks).toArray] w λe w'=>e=.returned (.int .i64 (r:Nat))∧Blk w' g 5 (bl (P++(xorL (M.take r) (ks.take r)++M.drop r)))∧Only (λk=>k=g) w w':=by
 by_cases h:m<=64
 ·obtain rfl:r=m:=by omega
  exact Cz g off r cap P M ks hP hM hk h m8 k8 w hB
 ·obtain rfl:r=64:=by omega
  exact uj g off m cap P M ks hP hM hk (by omega) m8 k8 w hB
def VO (key:LI) (ctr:Nat) (nonce:LI):LI:=if KN key nonce then Q5 key ctr nonce else []
def Zh (key nonce:LI):Int:=if KN key nonce then 0 else 1
theorem Bs.of_bl {w:World} {g:Nat} {E:TypeId} {s:LI} (h:Blk w g E (bl s)) (n:Nat) (hn:s.length=n):Bs .u8 w (.slice (some ⟨g,0,none⟩) n n) s:=by
 refine⟨_,n,by rw[hn],by rw[hn];exact Nat.le_refl _,λ_=>⟨g,0,rfl,λj hj=>?_⟩⟩;rw[Nat.zero_add,h.cell,bl_at s j hj]
theorem y9 (vk vn:Value) (key nonce:LI) (ctr:Nat) (hc:ctr<4294967296) (k8:U8 key) (n8:U8 nonce) (w:World) (bk:Bs .u8 w vk key) (bn:Bs .u8 w vn nonce) :
 Calls prog 146 #[vk,.int .u32 ctr,vn] w λe w'=>∃v,e=.returned (.tuple #[v,.int .i64 (Zh key nonce)])∧Bs .u8 w' v (VO key ctr nonce)∧NoCap v∧N0 w w':=by
 obtain⟨ao,kc,rfl⟩:=bk.len;obtain⟨bo,nc,rfl⟩:=bn.len;have A:=Qa (GP ao bo key.length kc nonce.length nc w)
 by_cases h:KN key nonce
 ·have e1:decide (key.length=32∧nonce.length=12)=true:=Qf h
  rw[e1] at A;have EB:Zh key nonce=0:=if_pos h;have EL:VO key ctr nonce=Q5 key ctr nonce:=if_pos h;rw[EB,EL];have HL:=Qa (Wf key ctr nonce);have F:=Qa (Pf _ _ key nonce ctr h.1 h.2 k8 n8 w bk bn)
  have O:Hid (∀W:World,Calls prog 150 #[.agg (wl (ccF key ctr nonce)).toArray] W λe w'=>e=.returned (.agg (bl (Q5 key ctr nonce)).toArray)∧N0 W w') :=
   λW=>RK (ccF key ctr nonce) (Ww _ _ _) (Ga key k8 ctr hc nonce n8) W
  have hzv:=(zero_of_info (P:=prog) Tryz.zero42).1;obtain⟨Z,hZ⟩:=EX zB;rw[<-hZ] at hzv;obtain⟨L,hL⟩:=EX (Q5 key ctr nonce);rw[<-hL] at HL O ⊢;obtain⟨FW,h1⟩:=EX (wl (ccF key ctr nonce));rw[<-h1] at F O;obtain⟨D,hD⟩:=EX (bl L);rw[<-hD] at O
  have h0:Hid ((prog.info? 161).map (·.size)=some D.toArray.size∧Z.toArray.size=D.toArray.size∧D.toArray.all (·.oneCell')=true):=by
   refine⟨?_,?_,?_⟩
   ·rw[Tryz.size42,hD];simp[Qr,HL.o]
   ·rw[hD,hZ];simp[Qr,HL.o,Xc]
   ·rw[hD];exact ZF _
  have HD:=Qa hD;clear hL h1 hZ hD bk bn k8 n8 h e1 EB EL hc;go_enter func146,ntmps146;go_wp2_with fail;refine A.o.mono ?_;rintro e w1 ⟨rfl,rfl⟩;go_wp2_with fail;refine F.o.mono ?_;rintro e w2 ⟨rfl,o2⟩;go_wp2_with fail;refine (O.o w2).mono ?_;rintro e w3 ⟨rfl,o3⟩;have O3:=Qa (o2.same o3);clear o2 o3 A F O;go_wp2_with (first|(refine wpList_store_row rfl 161 (.tmp 8) (.tmp 17) rfl w3.heap.size D.toArray rfl rfl 161 Z.toArray (Blk.new w3 161 Z) h0.o.1 h0.o.2.1 h0.o.2.2 ?_));go_ret2;have hb:Blk ((w3.alloc (.cells Z.toArray 161)).setRow w3.heap.size D.toArray) w3.heap.size 161 D:=(Blk.new w3 161 Z).row D;refine⟨_,rfl,?_,NoCap.some _ _ _,?_⟩
  ·rw[HD.o] at hb ⊢
   exact Bs.of_bl hb 64 HL.o
  ·exact (O3.o.alloc _).setRow (λh=>absurd h (by have:=O3.o.size;omega)) _
 ·have e1:decide (key.length=32∧nonce.length=12)=false:=Qj h
  rw[e1] at A;have EB:Zh key nonce=1:=if_neg h;have EL:VO key ctr nonce=[]:=if_neg h;rw[EB,EL];clear bk bn k8 n8 h e1 EB EL hc;go_enter func146,ntmps146;go_wp2_with fail;refine A.o.mono ?_;rintro e w1 ⟨rfl,rfl⟩;go_wp2;go_ret2;exact⟨_,rfl,Bs.nil _ _,NoCap.nil,Only.refl _ _⟩
end Go.Proofs.YtiochaeeoelmjaaGreatDoor
