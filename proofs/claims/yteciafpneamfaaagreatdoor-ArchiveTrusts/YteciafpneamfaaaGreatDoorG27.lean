import Derived.Deep.LoopGhost
import Derived.Test.YteciafpneamfaaaGreatDoorG26
namespace Go.Proofs.YteciafpneamfaaaGreatDoor
set_option maxHeartbeats 1600000
set_option maxRecDepth 100000
open Go.RowKit _root_.Go.Proofs.Tryz
variable {w w' W:World} {v:Value} {ys xs l:LI} {R n p k g B:Nat} {P:Program} {ls:List (LI)} {E:TypeId}
theorem V7 (l:LI) (k:Nat) (h:k<l.length):l.getD k 0∈l:=by
 rw[Qd,Qi h];simp
theorem TQ (v:Int) (c:Nat) (w:World) (h0:0<=v) (h1:v<=18446744073709551615) (c0:1<=c) (c1:c<=65536) :
 Calls prog 241 #[.int .u64 v,.int .i64 c] w λe w'=>∃v',e=.returned v'∧w'.ownsRow w.heap.size 5 1 v' (gs v.toNat++gs (c - 1)).length ((gs v.toNat++gs (c - 1)).map (Value.int .u8))∧N0 w w':=by
 have A:=Qa (UQ (.slice none 0 0) [] v w (Bs.nil _ _) NoCap.nil (by simp) h0 h1);have H10:=Qa (Yw (v:=v.toNat) (by omega));obtain⟨m,rfl⟩:∃m,c=m+1:=⟨c - 1,by omega⟩;rw[Nat.add_sub_cancel]
 have em:((m+1:Nat):Int) - 1=(m:Int):=by omega
 go_enter func241,ntmps241;go_wp2_with fail;refine A.o.mono ?_;rintro e w1 ⟨v1,rfl,h2,o1⟩;rw[List.nil_append] at h2;have B:=Qa (UQ v1 (gs v.toNat) m w1 (Bs.of_own h2) (NoCap.of_own h2) (by have:=H10.o;omega) (by omega) (by omega));have O1:=Qa o1;clear A h2 o1;go_wp2_with fail;refine B.o.mono ?_;rintro e w2 ⟨v2,rfl,h3,o2⟩;rw[Int.toNat_natCast] at h3;have F:=Qa (And.intro (Qr h3 O1.o.size) (O1.o.trans o2 (λ_ _ f=>f)));clear B h3 o2;go_wp2;go_ret;exact⟨_,rfl,F.o⟩
theorem rp (v:Value) (xs:LI) (w:World) (h:Bs .u64 w v xs) (hu:U64 xs) (hl:xs.length<=65536) :
 Calls prog 210 #[v] w λe w'=>∃v',e=.returned (.tuple #[v',.int .i64 0])∧w'.ownsRow w.heap.size 5 1 v' (runE xs).length ((runE xs).map (Value.int .u8))∧N0 w w':=by
 obtain⟨i0,hi,ho,hz,hp⟩:=info_parts Tryz.infoU8;have HB:=Qa h;have HU:=Qa hu;have ha:=Qa (T9 xs hu (by omega));obtain⟨ao,cap,rfl⟩:=h.len;obtain⟨n,hn⟩:=EX xs.length;rw[<-hn] at hl HB ha;rw[<-hn];have HN:=Qa hn;have d0:decide ((65536:Int)<n)=false:=Qh (by omega);clear h hu hn;go_enter func210,ntmps210;go_wp2
 go_step3
 go_wp2
 go_step3
 go_wp2
 go_loopg [0,4] n (λg s0 s4 wx=>∃(ls o:LI),Hid (ls.length=g)∧g<=n∧Bs .u64 w s0 ls∧Hid (o++runE ls=runE xs)∧U64 ls∧wx.ownsRow w.heap.size 5 1 s4 o.length (o.map (Value.int .u8))∧N0 w wx)
 case atStart=>exact⟨xs,[],HN.o.symm,Nat.le_refl _,HB.o,rfl,HU.o,World.ownsRow_nil _ _ _ _,Only.refl _ _⟩
 case round =>
  obtain⟨ls,o,HL,hgn,he,HO,hs,h8,hm⟩:=hrel;obtain⟨W,hW⟩:=EX wr;subst hW;have h9:=Qa he;obtain⟨al,cl,el⟩:=he.len;rw[HL.o] at el;subst el;have ht:=Qa hs;have h4:=Qa h8;have h7:=Qa hm
  have hb:Hid (o.length<=2000000):=by
   have:=congrArg List.length HO.o;have:=ha.o;rw[Qb] at *;simp only[Hid];omega
  clear he hs h8 hm HB HU;obtain⟨G,hG⟩:=EX gk;subst hG
  by_cases hg0:G=0
  ·subst hg0
   have d1:decide ((0:Int)<((0:Nat):Int))=false:=by simp
   have F:Hid (W.ownsRow w.heap.size 5 1 u4 (runE xs).length ((runE xs).map (Value.int .u8))):=by
    have e:ls=[]:=List.eq_nil_of_length_eq_zero HL.o;have:=HO.o;rw[e,runE,List.append_nil] at this;simp only[Hid];rw[<-this];exact h4.o
   go_wp2
   try rw[Exit.noGoto_ret]
   go_ret2;exact⟨_,rfl,F.o,h7.o⟩
  ·have d1:decide ((0:Int)<(G:Int))=true:=Qc (by omega)
   obtain⟨b,off,cap',e1,hv⟩:=(h9.o.past h7.o).at 0 (by rw[HL.o];omega)
   have ea:al=some ⟨b,off,none⟩:=by simp at e1;exact e1.1
   subst ea;clear e1;rw[Nat.add_zero] at hv;have h6:=ht.o (ls.getD 0 0) (V7 ls 0 (by rw[HL.o];omega));obtain⟨x0,hx⟩:=EX (ls.getD 0 0);rw[<-hx] at hv h6;have HX:=Qa hx;clear hx;go_wp2;obtain⟨O4,hO4⟩:=EX u4;subst hO4
   go_loopg [0,4,15] G (λg2 s0 s4 s15 wy=>∃j:Nat,j+g2=G∧s0=.slice (some ⟨b,off,none⟩) G cl∧s4=O4∧s15=.int .i64 j∧Hid (∀i,i<j->ls.getD i 0=x0)∧W=wy)
   case atStart=>exact⟨0,by omega,rfl,rfl,rfl,(λi hi=>by omega),rfl⟩
   case round =>
    obtain⟨j,hj,rfl,rfl,rfl,HJ,hw⟩:=hrel;subst hw
    cases gk with
    | zero =>
     obtain rfl:j=G:=by omega
     have R:=Qa (TQ x0 j W h6.1 h6.2 (by omega) (by omega))
     have HE:Hid (runE ls=gs x0.toNat++gs (j - 1)):=by
      simp only[Hid];rw[HX.o,<-HL.o];exact Bt (by rw[HL.o];omega) (λi hi=>by rw[<-HX.o];exact HJ.o i (by rw[<-HL.o];exact hi))
     go_wp2_with fail;refine R.o.mono ?_;rintro e w2 ⟨v2,rfl,h0,o2⟩;have B2:=Qa (Bs.of_own h0);have N2:=Qa (NoCap.of_own h0);have O2:=Qa (h7.o.same o2);have h3:=Qa (o2.own h4.o (λ_ _ f=>f));rw[<-HE.o] at B2
     have h5:Hid ((runE ls).length<=2000000):=by
      have:=congrArg List.length HO.o;have:=ha.o;rw[Qb] at *;simp only[Hid];omega
     have hf:=O2.o.size;clear R h0 o2;go_wp2_with (at_builtin;refine Yr _ rfl _ _ _ rfl w.heap.size 5 i0 (.int .u8 0) 1 underlying22 hi ho hz hp rfl _ o.length (o.map (Value.int .u8)) rfl h3.o .u8 _ (runE ls) rfl B2.o N2.o ?c3 ?c4 hf ?_)
     case c3=>have:=h5.o;have:=hb.o;unfold maxLen;omega
     case c4=>have:=h5.o;have:=hb.o;omega
     intro v' w3 own3 hgrow _ _
     have F:Hid (w3.ownsRow w.heap.size 5 1 v' (runE xs).length ((runE xs).map (Value.int .u8))∧N0 w w3):=by
      refine⟨?_,O2.o.grown hgrow (λk hk hq=>by have:=(h3.o.lt k hq).1;omega)⟩;rw[<-HO.o,Qb,List.map_append];exact own3
     clear own3 hgrow;go_wp2
     try rw[Exit.noGoto_ret]
     go_ret2;exact⟨_,rfl,F.o⟩
    | succ g =>
     have jl:j<G:=by omega
     obtain⟨b',hd,hr,e1,hcj⟩:=(h9.o.past h7.o).at j (by rw[HL.o];exact jl)
     have e2:b=b'∧off=hd:=by simp at e1;exact⟨e1.1.1,e1.1.2⟩
     obtain⟨rfl,rfl⟩:=e2;clear e1
     have i0':(0:Int)<=(j:Int):=by omega
     have i1:(j:Int)<(G:Int):=by omega
     obtain⟨x,hx⟩:=EX (ls.getD j 0);rw[<-hx] at hcj;have hh:=Qa hx;clear hx
     by_cases hxx:x=x0
     ·subst hxx
      have z0:(x != x)=false:=by simp
      go_wp2
      go_roundg g
      case rel=>exact⟨j+1,by omega,rfl,rfl,by go_num,(λi hi=>by
       rcases Nat.lt_or_ge i j with h | h
       ·exact HJ.o i h
       ·obtain rfl:i=j:=by omega
        exact hh.o.symm),rfl⟩
      case measure=>omega
     ·have z0:(x != x0)=true:=by simpa using hxx
      have j0:0<j:=by
       rcases Nat.eq_zero_or_pos j with h | h
       ·subst h
        exact absurd (hh.o.trans HX.o.symm) hxx
       ·exact h
      have HE:Hid (runE ls=gs x0.toNat++gs (j - 1)++runE (ls.drop j)):=by
       simp only[Hid];rw[HX.o];exact Bf j0 (by rw[HL.o];exact jl) (λi hi=>by rw[<-HX.o];exact HJ.o i hi) (by rw[<-HX.o,<-hh.o];exact hxx)
      have R:=Qa (TQ x0 j W h6.1 h6.2 (by omega) (by omega))
      have hcap:G<=cl:=by
       obtain⟨_,_,e,h2,_⟩:=h9.o;simp at e;have:=HL.o;omega
      have CUT:=h9.o.cut (n:=j) (by omega)
      have hg:(⟨b,off,none⟩:Addr).add j=⟨b,off+j,none⟩:=by unfold Addr.add;split <;> simp_all
      rw[Option.map_some,hg] at CUT;have CUT:=Qa CUT
      have k1:(j:Int)<=(G:Int):=by omega
      have k2:(j:Int)<=(cl:Int):=by omega
      have k3:cl≠j:=by omega
      go_wp2_with fail;refine R.o.mono ?_;rintro e w2 ⟨v2,rfl,h0,o2⟩;have B2:=Qa (Bs.of_own h0);have N2:=Qa (NoCap.of_own h0);have O2:=Qa (h7.o.same o2);have h3:=Qa (o2.own h4.o (λ_ _ f=>f))
      have h5:Hid ((gs x0.toNat++gs (j - 1)).length<=2000000):=by
       have h1:=congrArg List.length HO.o;have h2:=ha.o;rw[HE.o] at h1;simp only[Qb] at h1;simp only[Hid,Qb];omega
      have hf:=O2.o.size;obtain⟨q,hq⟩:=EX (gs x0.toNat++gs (j - 1));rw[<-hq] at B2 h5 HE;clear R h0 o2 hq;go_wp2_with (at_builtin;refine Yr _ rfl _ _ _ rfl w.heap.size 5 i0 (.int .u8 0) 1 underlying22 hi ho hz hp rfl _ o.length (o.map (Value.int .u8)) rfl h3.o .u8 _ q rfl B2.o N2.o ?c3 ?c4 hf ?_)
      case c3=>have:=h5.o;have:=hb.o;unfold maxLen;omega
      case c4=>have:=h5.o;have:=hb.o;omega
      intro v' w3 own3 hgrow _ _
      have F:Hid (w3.ownsRow w.heap.size 5 1 v' (o++q).length ((o++q).map (Value.int .u8))∧N0 w w3):=by
       refine⟨?_,O2.o.grown hgrow (λk hk hq=>by have:=(h3.o.lt k hq).1;omega)⟩;rw[Qb,List.map_append];exact own3
      clear own3 hgrow h3 O2 B2 N2;go_wp2
      go_roundg (G - j)
      case rel=>exact⟨ls.drop j,o++q,(by simp only[Hid];rw[Qm,HL.o]),by omega,CUT.o,(by simp only[Hid];rw[List.append_assoc,<-HE.o];exact HO.o),(λy hy=>ht.o y (List.mem_of_mem_drop hy)),F.o⟩
      case measure=>omega
theorem Td (va:Value) (acc:LI) (x:Int) (w:World) (h:Bs .u64 w va acc) (hl:acc.length<=70000) :
 Calls prog 268 #[va,.int .u64 x] w λe w'=>e=.returned (.bool (runOn acc x))∧w=w':=by
 by_cases h0:0<acc.length
 ·obtain⟨b,off,cap,rfl,hc⟩:=h.at (acc.length - 1) (by omega)
  have HR:Hid (runOn acc x=(acc.getD (acc.length - 1) 0 == x)):=by
   simp only[Hid,runOn];rw[Qc h0,Bool.true_and]
  generalize acc.getD (acc.length - 1) 0=y at *;obtain⟨m,hm⟩:∃m,acc.length=m+1:=⟨acc.length - 1,by omega⟩;rw[hm] at hc hl ⊢;rw[Nat.add_sub_cancel] at hc;clear h hm h0;have d0:decide ((0:Int)<((m+1:Nat):Int))=true:=Qc (by omega);go_enter func268,ntmps268;go_wp2;go_ret;exact⟨by rw[HR.o];rfl,rfl⟩
 ·have e:acc=[]:=List.eq_nil_of_length_eq_zero (by omega)
  subst e;obtain⟨ao,cap,rfl⟩:=h.len;clear h h0;go_enter func268,ntmps268;go_wp2;go_ret;exact⟨rfl,rfl⟩
theorem zJ (h:CurAt 112 w R v ys) {a:Int} {k:Nat} {c:Int} (hs:Qe ys=(a,k,c)) (hc:c≠0) :
 Calls prog 267 #[.pointer (some ⟨R,0,none⟩)] w λe w'=>e=.returned (.tuple #[.int .u64 0,.int .u64 0,.int .i64 c])∧Only (λk=>k=R) w w':=by
 have A:=YO h;rw[hs] at A;have A:=Qa A
 have dc:(c != 0)=true:=by simpa using hc
 clear h hs;go_enter func267,ntmps267;go_wp2_with fail;refine A.o.mono ?_;rintro e w1 ⟨rfl,v2,_,_,o1⟩;have O1:=Qa o1;clear A o1;go_wp2
 go_ret3
 exact⟨rfl,O1.o⟩
theorem EP (h:CurAt 112 w R v ys) {a b:Int} {k j:Nat} {c:Int} (hs:Qe ys=(a,k,0)) (hs2:Qe (ys.drop k)=(b,j,c)) (hc:c≠0) :
 Calls prog 267 #[.pointer (some ⟨R,0,none⟩)] w λe w'=>e=.returned (.tuple #[.int .u64 0,.int .u64 0,.int .i64 c])∧Only (λk=>k=R) w w':=by
 have A:=YO h;rw[hs] at A;have A:=Qa A;have HS2:=Qa hs2
 have dc:(c != 0)=true:=by simpa using hc
 clear h hs hs2;go_enter func267,ntmps267;go_wp2_with fail;refine A.o.mono ?_;rintro e w1 ⟨rfl,v2,h0,_,o1⟩;have B:=YO h0;rw[HS2.o] at B;have B:=Qa B;have O1:=Qa o1;clear A o1 h0;go_wp2_with fail;refine B.o.mono ?_;rintro e w2 ⟨rfl,v3,_,_,o2⟩;have O2:=Qa (O1.o.trans o2 (λ_ _ e=>e));clear B o2;go_wp2
 go_ret3
 exact⟨rfl,O2.o⟩
theorem IF (h:CurAt 112 w R v ys) {a b:Int} {k j:Nat} (hs:Qe ys=(a,k,0)) (hs2:Qe (ys.drop k)=(b,j,0)) :
 Calls prog 267 #[.pointer (some ⟨R,0,none⟩)] w λe w'=>e=.returned (.tuple #[.int .u64 a,.int .u64 b,.int .i64 0])∧∃v2,CurAt 112 w' R v2 ((ys.drop k).drop j)∧v2.ownBlock=v.ownBlock∧Only (λk=>k=R) w w':=by
 have A:=YO h;rw[hs] at A;have A:=Qa A;have HS2:=Qa hs2;clear h hs hs2;go_enter func267,ntmps267;go_wp2_with fail;refine A.o.mono ?_;rintro e w1 ⟨rfl,v2,h1,h3,o1⟩;have B:=YO h1;rw[HS2.o] at B;have B:=Qa B;have O1:=Qa o1;have OB:=Qa h3;clear A o1 h1 h3;go_wp2_with fail;refine B.o.mono ?_;rintro e w2 ⟨rfl,v3,h0,h2,o2⟩;have F:=Qa (And.intro h0 (And.intro (h2.trans OB.o) (O1.o.trans o2 (λ_ _ e=>e))));clear B o2 h0 h2;go_wp2
 go_ret3
 exact⟨rfl,v3,F.o⟩
theorem BG (v:Value) (n:Int) (w:World) (h:n<0∨65536<n) :
 Calls prog 249 #[v,.int .i64 n] w λe w'=>e=.returned (.tuple #[.slice none 0 0,.int .i64 1])∧w=w':=by
 by_cases h0:n<0
 ·have d0:decide (n<0)=true:=Qc h0
  clear h;go_enter func249,ntmps249;go_wp2;go_ret2;exact⟨rfl,rfl⟩
 ·have d0:decide (n<0)=false:=Qh h0
  have d1:decide (65536<n)=true:=Qc (by omega);clear h;go_enter func249,ntmps249;go_wp2;go_ret2;exact⟨rfl,rfl⟩
theorem yk (acc:LI) (i:Nat) (a:Int):acc++List.replicate (i+1) a=acc++List.replicate i a++[a]:=by
 rw[List.replicate_succ',List.append_assoc]
theorem zX (v:Value) (ys:LI) (n:Nat) (w:World) (h:Bs .u8 w v ys) (hr:∀y∈ys,0<=y∧y<=255) (hl:ys.length<=1000000000000) (hn:n<=65536) :
 Calls prog 249 #[v,.int .i64 n] w λe w'=>∃u,e=.returned (.tuple #[u,.int .i64 (Ko ys n).2])∧w'.ownsRow w.heap.size 23 1 u (Ko ys n).1.length ((Ko ys n).1.map (Value.int .u64))∧N0 w w':=by
 obtain⟨i0,hi,hz0,hz1,hz2⟩:=info_parts Tryz.infoU64
 have d0:decide ((n:Int)<0)=false:=by simp
 have d1:decide (65536<(n:Int))=false:=by simp;omega
 have NW:=Qa (Ut v ys w h hr hl);clear h hr;go_enter func249,ntmps249;go_wp2_with fail;refine NW.o.mono ?_;rintro e w1 ⟨R,v1,rfl,ht,o1,r0,r1,hv⟩;have HV1:=Qa hv;have O1:=Qa o1;have hw:=Qa ht;have h8:=Qa (And.intro r0 o1.size);clear NW ht o1 hv;go_wp2
 go_loopg [7] n (λg s7 wx=>∃(f:Nat) (acc h5:LI) (v':Value),wx.ownsRow w1.heap.size 23 1 s7 acc.length (acc.map (Value.int .u64))∧CurAt 112 wx R v' h5∧v'.ownBlock=v1.ownBlock∧Hid (acc.length+g=n)∧Hid (g<f)∧Hid (runD f acc h5 n=Ko ys n)∧Only (λk=>k=R) w1 wx)
 case atStart=>exact⟨n+1,[],ys,v1,World.ownsRow_nil _ _ _ _,hw.o,rfl,(by simp[Hid]),(by simp[Hid]),rfl,Only.refl _ _⟩
 case round =>
  obtain⟨f,acc,h5,v',h0,h1,h7,HG,HF,HD,h3⟩:=hrel;clear hw;obtain⟨W,hW⟩:=EX wr;subst hW;obtain⟨G,hG⟩:=EX gk;subst hG;have h2:=Qa h0;have HCUR:=Qa h1;have HOB:=Qa h7;have h6:=Qa h3;obtain⟨a7,c7,e7⟩:=(Bs.of_own h0).len;obtain⟨m,hm⟩:=EX acc.length;rw[<-hm] at e7 h2;have HM:=Qa hm
  have hmn:m+G=n:=by rw[hm];exact HG.o
  subst e7
  by_cases hlt:G=0
  ·have d2:decide ((m:Int)<(n:Int))=false:=Qh (by omega)
   have EC:=Qa (JI h1);have HR:=JW (f:=f) (acc:=acc) (ys:=h5) (n:=n) (by omega) (by have:=HF.o;omega);rw[HD.o] at HR;have HR:=Qa HR;clear h0 h1 h7 h3 hm
   by_cases hy:0<h5.length
   ·have HE:Hid (endV h5=3):=if_pos hy
    rw[if_pos hy] at HR;rw[HE.o] at EC;go_wp2_with fail;refine EC.o.mono ?_;rintro e w2 ⟨rfl,rfl⟩;go_wp2;go_ret2;rw[HR.o];exact⟨_,rfl,World.ownsRow_nil _ _ _ _,O1.o.trans h6.o (λk hk e=>by have:=h8.o.1;omega)⟩
   ·have HE:Hid (endV h5=0):=if_neg hy
    rw[if_neg hy] at HR;rw[HE.o] at EC;go_wp2_with fail;refine EC.o.mono ?_;rintro e w2 ⟨rfl,rfl⟩;go_wp2;go_ret2;rw[HR.o];exact⟨_,rfl,by simp only;rw[<-HM.o];exact Qr h2.o h8.o.2,O1.o.trans h6.o (λk hk e=>by have:=h8.o.1;omega)⟩
  ·have d2:decide ((m:Int)<(n:Int))=true:=Qc (by omega)
   have fp:0<f:=by have:=HF.o;omega
   have h4:acc.length<n:=by omega
   rcases Ua h1.rng with ⟨c,hs,hc⟩ | ⟨a,k,hs,k1,k2,ha,_⟩
   ·have HR:=Nr h4 fp hs (by omega)
    rw[HD.o] at HR;have HR:=Qa HR;have RR:=Qa (zJ h1 hs (by omega))
    have dc:(c != 0)=true:=by simp;omega
    clear h0 h1 h7 h3 hm hs h4;go_wp2_with fail;refine RR.o.mono ?_;rintro e w2 ⟨rfl,o2⟩;have O2:=Qa (h6.o.trans o2 (λ_ _ e=>e));clear RR o2;go_wp2;go_ret2;rw[HR.o];exact⟨_,rfl,World.ownsRow_nil _ _ _ _,O1.o.trans O2.o (λk hk e=>by have:=h8.o.1;omega)⟩
   ·have hd:∀y∈h5.drop k,0<=y∧y<=255:=λy hy=>h1.rng y (List.mem_of_mem_drop hy)
    rcases Ua hd with ⟨c,hs2,hc⟩ | ⟨b,j,hs2,j1,j2,hb,_⟩
    ·have HR:=Dn h4 fp hs hs2 (by omega)
     rw[HD.o] at HR;have HR:=Qa HR;have RR:=Qa (EP h1 hs hs2 (by omega))
     have dc:(c != 0)=true:=by simp;omega
     clear h0 h1 h7 h3 hm hs h4 hs2 hd;go_wp2_with fail;refine RR.o.mono ?_;rintro e w2 ⟨rfl,o2⟩;have O2:=Qa (h6.o.trans o2 (λ_ _ e=>e));clear RR o2;go_wp2;go_ret2;rw[HR.o];exact⟨_,rfl,World.ownsRow_nil _ _ _ _,O1.o.trans O2.o (λk hk e=>by have:=h8.o.1;omega)⟩
    ·have RR:=Qa (IF h1 hs hs2)
     have hq:(n:Int) - (m:Int)=(G:Int):=by omega
     have HS:=Qa (And.intro hs hs2)
     by_cases hbG:G<=b
     ·have HR:=H9 h4 fp hs hs2 (.inl (by omega))
      rw[HD.o] at HR;have HR:=Qa HR;have dg:decide ((G:Int)<=(b:Int))=true:=Qc (by omega);clear h0 h1 h7 h3 hm hs h4 hs2 hd;go_wp2_with fail;refine RR.o.mono ?_;rintro e w2 ⟨rfl,v2,_,_,o2⟩;have O2:=Qa (h6.o.trans o2 (λ_ _ e=>e));clear RR o2;go_wp2;go_ret2;rw[HR.o];exact⟨_,rfl,World.ownsRow_nil _ _ _ _,O1.o.trans O2.o (λk hk e=>by have:=h8.o.1;omega)⟩
     ·have dg:decide ((G:Int)<=(b:Int))=false:=Qh (by omega)
      cases ho:runOn acc (a:Int) with
      | true =>
       have HR:=H9 h4 fp hs hs2 (.inr ho);rw[HD.o] at HR;have HR:=Qa HR;have hh:=Qa ho;clear h0 h1 h7 h3 hm hs h4 hs2 hd ho;go_wp2_with fail;refine RR.o.mono ?_;rintro e w2 ⟨rfl,v2,_,_,o2⟩;have O2:=Qa (h6.o.trans o2 (λ_ _ e=>e));have h9:=o2.own h2.o (λk hk e=>by have:=(h2.o.lt k hk).1;omega);have GO:=Td (.slice a7 m c7) acc a w2 (Bs.of_own (by rw[<-HM.o];exact h9)) (by rw[<-HM.o];omega);rw[hh.o] at GO;have GO:=Qa GO;clear RR o2 h9;go_wp2_with fail;refine GO.o.mono ?_;rintro e w3 ⟨rfl,rfl⟩;go_wp2;go_ret2;rw[HR.o];exact⟨_,rfl,World.ownsRow_nil _ _ _ _,O1.o.trans O2.o (λk hk e=>by have:=h8.o.1;omega)⟩
      | false =>
       have HR:=JX h4 fp hs hs2 (by omega) ho;rw[HD.o] at HR;have HR:=Qa HR;have hh:=Qa ho
       have ha0:(a:Int)<=18446744073709551615:=by omega
       clear h0 h1 h7 h3 hm hs h4 hs2 hd ho;go_wp2_with fail;refine RR.o.mono ?_;rintro e w2 ⟨rfl,v2,he,hj,o2⟩;have O2:=Qa (h6.o.trans o2 (λ_ _ e=>e));have h9:=Qa (o2.own h2.o (λk hk e=>by have:=(h2.o.lt k hk).1;omega));have GO:=Td (.slice a7 m c7) acc a w2 (Bs.of_own (by rw[<-HM.o];exact h9.o)) (by rw[<-HM.o];omega);rw[hh.o] at GO;have GO:=Qa GO;have hf:=Qa he;have hx:=Qa (hj.trans HOB.o);clear RR o2 he hj;go_wp2_with fail;refine GO.o.mono ?_;rintro e w3 ⟨rfl,rfl⟩;have LIN:=Qa (O2.o.size);go_wp2
       go_loopg [7,47] (b+1) (λg2 s7 s47 wy=>∃i:Nat,i+g2=b+1∧s47=.int .u64 i∧wy.ownsRow w1.heap.size 23 1 s7 (m+i) ((acc++List.replicate i (a:Int)).map (Value.int .u64))∧Only (λk=>w1.heap.size<=k) w2 wy)
       case atStart=>exact⟨0,by omega,rfl,by simpa using h9.o,Only.refl _ _⟩
       case round =>
        obtain⟨i,hib,rfl,h0,h3⟩:=hrel;have HX:=Qa h3;have hsz:w1.heap.size<=wr.heap.size:=Nat.le_trans LIN.o h3.size;clear h9 GO h3
        cases gk with
        | zero =>
         obtain rfl:i=b+1:=by omega
         have F:Hid (wr.ownsRow w1.heap.size 23 1 u7 (acc++List.replicate (b+1) (a:Int)).length ((acc++List.replicate (b+1) (a:Int)).map (Value.int .u64))∧CurAt 112 wr R v2 ((h5.drop k).drop j)∧v2.ownBlock=v1.ownBlock∧Only (λk=>k=R) w1 wr):=by
          refine⟨by rw[Qb,List.length_replicate,<-HM.o];exact h0,hf.o.keep HX.o (by omega) (λq hq e=>?_),hx.o,O2.o.trans HX.o (λq hq e=>absurd e (by omega))⟩;rw[hx.o] at hq;have:=(HV1.o q hq).2;omega
         have HLN:Hid ((acc++List.replicate (b+1) (a:Int)).length+(G - (b+1))=n):=by
          simp only[Hid];rw[Qb,List.length_replicate,<-HM.o];omega
         have d3:decide (((b+1:Nat):Int)<((b:Int)+1))=false:=by simp
         clear h0 HX;go_wp2
         go_roundg (G - (b+1))
         case rel=>exact⟨f - 1,_,_,v2,F.o.1,F.o.2.1,F.o.2.2.1,HLN.o,(by have:=HF.o;simp only[Hid];omega),HR.o.symm,F.o.2.2.2⟩
         case measure=>omega
        | succ g =>
         have d3:decide ((i:Int)<((b:Int)+1))=true:=Qc (by omega);go_wp2_with (at_builtin;refine wpList_append_lies _ rfl _ _ _ rfl w1.heap.size 23 i0 (.int .u64 0) 1 8 underlying161 hi hz0 hz1 hz2 rfl (by omega) _ (m+i) _ rfl (h0.alloc _) ⟨wr.heap.size,0,none⟩ 1 1 [.int .u64 (a:Int)] rfl rfl ?c1 ?c2 (by omega) ?c3 ?c4 ?c5 (wr.heap.size+1) (by simp) ?_)
         case c1=>exact cell_one_new _ _ _
         case c2=>intro u hu;simp at hu;subst hu;rfl
         case c3=>unfold maxLen;omega
         case c4=>omega
         case c5=>simp;omega
         intro gg cap1 w3 hown1 hgrow hat hg1;have o3:=Qa ((HX.o.alloc _).grown hgrow (λp _ hp=>(h0.lt p hp).1))
         have hg:Hid (w3.ownsRow w1.heap.size 23 1 (.slice (some ⟨gg,0,none⟩) (m+i+1) cap1) (m+(i+1)) ((acc++List.replicate (i+1) (a:Int)).map (Value.int .u64))):=by
          simp only[Hid];rw[yk,<-Nat.add_assoc];simpa using hown1
         clear h0 hown1 hgrow hat HX;go_wp2
         go_roundg g
         case rel=>exact⟨i+1,by omega,by go_num,hg.o,o3.o⟩
         case measure=>omega
def RUND (ys:LI) (n:Int):LI × Int:=if n<0∨65536<n then ([],1) else Ko ys n.toNat
theorem EM (v:Value) (ys:LI) (n:Int) (w:World) (h:Bs .u8 w v ys) (hr:∀y∈ys,0<=y∧y<=255) (hl:ys.length<=1000000000000) :
 Calls prog 249 #[v,.int .i64 n] w λe w'=>∃u,e=.returned (.tuple #[u,.int .i64 (RUND ys n).2])∧w'.ownsRow w.heap.size 23 1 u (RUND ys n).1.length ((RUND ys n).1.map (Value.int .u64))∧N0 w w':=by
 unfold RUND
 by_cases hn:n<0∨65536<n
 ·rw[if_pos hn]
  refine (BG v n w hn).mono ?_;rintro e w' ⟨rfl,rfl⟩;exact⟨_,rfl,World.ownsRow_nil _ _ _ _,Only.refl _ _⟩
 ·rw[if_neg hn]
  obtain⟨m,rfl⟩:=Int.eq_ofNat_of_zero_le (show 0<=n by omega);exact zX v ys m w h hr hl (by omega)
theorem j7 (ys:LI) (n:Nat) (h:n<=65536):RUND ys n=Ko ys n:=by
 unfold RUND;rw[if_neg (by omega)]
 rfl
theorem SI {n:Int} (hr:∀y∈ys,0<=y∧y<=255) :
 (∃c,RUND ys n=([],c)∧c≠0)∨(∃l,RUND ys n=(l,0)∧U64 l∧(l.length:Int)=n∧l.length<=65536∧runE l=ys):=by
 unfold RUND
 by_cases hn:n<0∨65536<n
 ·rw[if_pos hn];exact .inl ⟨1,rfl,by decide⟩
 ·rw[if_neg hn]
  rcases Fm (n.toNat+1) [] ys n.toNat hr (by simp) (by simp) with ⟨c,h1,h2⟩ | ⟨t,h1,h2,h3,h4,_⟩
  ·exact .inl ⟨c,h1,by omega⟩
  ·rw[List.nil_append] at h1
   rw[List.length_nil,Nat.zero_add] at h2;exact .inr ⟨t,h1,h4,by omega,by omega,h3.symm⟩
theorem F6 (hu:U64 l) (hl:l.length<=65536) (z:LI):Ko (runE l++z) l.length=if 0<z.length then ([],3) else (l,0):=by
 have:=vT l (l.length+1) [] z l.length hu (by omega) (by simp) (by omega) (ER l);rw[List.nil_append] at this;exact this
def I64s (l:LI):Prop:=∀x∈l,Ym x
def YX (b:LI):Prop:=∀y∈b,0<=y∧y<=255
def u64o (x:Int):Int:=x % 18446744073709551616
def zsn (l:LI):LI:=l.map zig
def zgn (l:LI):LI:=l.map zag
def fx (l:LI):LI:=l.flatMap λx=>fixL (u64o x) 8
def tms (tag:Nat):Nat:=if tag=3∨tag=4 then 2 else 1
def WOTH (z:LI) (tag:Nat):LI × Int:=if tag=2 then (PK z,0) else if tag=3 then Ug z else if tag=4 then (runE z,0) else (allG z,0)
def QB (l:LI) (tag:Nat):LI × Int :=
 if l=[] then ([],0) else if tag=0 then (fx l,0) else
 if (WOTH ((zsn (D (tms tag) l)).drop 1) tag).2≠0 then ([],(WOTH ((zsn (D (tms tag) l)).drop 1) tag).2) else
 (gs ((zsn (D (tms tag) l)).getD 0 0).toNat++(WOTH ((zsn (D (tms tag) l)).drop 1) tag).1,0)
def WAY8 (l:LI) (tag:Int):LI × Int:=if tag<0∨4<tag then ([],1) else if 65536<l.length then ([],4) else QB l tag.toNat
def pick (l:LI):Nat->Nat × LI
 | 0=>(0,(QB l 0).1)
 | t+1=>if (QB l (t+1)).2=0∧(QB l (t+1)).1.length<(pick l t).2.length then (t+1,(QB l (t+1)).1) else pick l t
def ENC8 (l:LI):LI × Int:=if 65536<l.length then ([],4) else (((pick l 4).1:Int) :: (pick l 4).2,0)
def fxN (ys:LI) (n:Nat):LI:=(List.range n).map λi=>(num ((ys.drop (8*i)).take 8):Int)
def rFx (ys:LI) (n:Nat):LI × Int:=if ys.length<8*n then ([],2) else (fxN ys n,0)
def rVs:Nat->LI->LI->LI × LI × Int
 | 0,acc,ys=>(acc,ys,0)
 | n+1,acc,ys=>if (Qe ys).2.2≠0 then ([],ys,(Qe ys).2.2) else rVs n (acc++[(Qe ys).1]) (ys.drop (Qe ys).2.1)
def Q0 (ys:LI) (m tag:Nat):LI × Int :=
 if tag=2 then ((UN ys m).2,(UN ys m).1) else if tag=3 then UX ys m else if tag=4 then RUND ys m else ((rVs m [] ys).1,(rVs m [] ys).2.2)
def s64 (x:Int):Int:=wrap64 x
def READ (ys:LI) (n tag:Nat):LI × Int :=
 if n=0 then ([],0) else if tag=0 then ((rFx ys n).1.map s64,(rFx ys n).2) else
 if (Qe ys).2.2≠0 then ([],(Qe ys).2.2) else
 if (Q0 (ys.drop (Qe ys).2.1) (n - 1) tag).2≠0 then ([],(Q0 (ys.drop (Qe ys).2.1) (n - 1) tag).2) else
 (S (tms tag) (zag (Qe ys).1 :: zgn (Q0 (ys.drop (Qe ys).2.1) (n - 1) tag).1),0)
def DEC8 (b:LI) (n:Int):LI × Int :=
 if n<0∨65536<n then ([],1) else if b=[] then ([],2) else if 4<b.getD 0 0 then ([],3) else
 if (READ (b.drop 1) n.toNat (b.getD 0 0).toNat).2≠0 then ([],(READ (b.drop 1) n.toNat (b.getD 0 0).toNat).2) else
 if (ENC8 (READ (b.drop 1) n.toNat (b.getD 0 0).toNat).1).1=b then ((READ (b.drop 1) n.toNat (b.getD 0 0).toNat).1,0) else ([],3)
theorem ZS (l:LI):(zsn l).length=l.length:=by simp[zsn]
theorem Hl (l:LI):(zgn l).length=l.length:=by simp[zgn]
theorem ye (l:LI):zgn (zsn l)=l:=by
 unfold zgn zsn;rw[List.map_map];exact (List.map_congr_left (g:=id) (λx _=>zI x)).trans (List.map_id l)
theorem qA (h:I64s l):U64 (zsn l):=by
 intro x hx;simp only[zsn,List.mem_map] at hx;obtain⟨y,hy,rfl⟩:=hx;exact Pq y (h y hy).1 (h y hy).2
theorem tR (h:U64 l):I64s (zgn l):=by
 intro x hx;simp only[zgn,List.mem_map] at hx;obtain⟨y,hy,rfl⟩:=hx;exact Pu y (h y hy).1 (h y hy).2
theorem U64.drop (h:U64 l) (k:Nat):U64 (l.drop k):=λx hx=>h x (List.mem_of_mem_drop hx)
theorem U64.nil:U64 []:=λx hx=>by simp at hx
theorem wZ {a b:LI} (ha:YX a) (hb:YX b):YX (a++b):=λy hy=>(List.mem_append.1 hy).elim (ha y) (hb y)
theorem Z8 (l:LI):(fx l).length=8*l.length:=by
 induction l with
 | nil=>rfl
 | cons x t ih =>
  have:fx (x :: t)=fixL (u64o x) 8++fx t:=by simp[fx]
  rw[this,Qb,Qt,ih,Qj];omega
theorem Aj (l:LI) (x:Int):fx (l++[x])=fx l++fixL (u64o x) 8:=by simp[fx]
theorem yN (l:LI):YX (fx l):=by
 intro y hy;simp only[fx,List.mem_flatMap] at hy;obtain⟨x,_,hy⟩:=hy;exact UM _ _ y hy
theorem fx_at (l:LI):∀(i:Nat),i<l.length->((fx l).drop (8*i)).take 8=fixL (u64o (l.getD i 0)) 8:=by
 induction l with
 | nil=>intro i hi;simp at hi
 | cons x t ih =>
  intro i hi
  have e:fx (x :: t)=fixL (u64o x) 8++fx t:=by simp[fx]
  have h8:(fixL (u64o x) 8).length=8:=Qt _ _
  cases i with
  | zero=>rw[e,Nat.mul_zero,List.drop_zero,List.take_left' h8];rfl
  | succ i =>
   rw[e,show 8*(i+1)=8+8*i by omega,<-List.drop_drop,List.drop_left' h8,ih i (by simpa using hi)]
   rfl
theorem tq {x:Int} (h:Ym x):s64 (u64o x)=x:=by
 unfold s64 u64o;have:=h.1;have:=h.2;unfold Ym at h;rw[show wrap64 (x % 18446744073709551616)=x by unfold wrap64;omega]
theorem pd {x:Int} (h:Ym x):s64 (num (fixL (u64o x) 8):Int)=x:=by
 have h0:0<=u64o x∧u64o x<18446744073709551616:=by unfold u64o;omega
 obtain⟨q,hq⟩:∃q:Nat,u64o x=(q:Int):=⟨(u64o x).toNat,by omega⟩
 have hl:q<18446744073709551616:=by omega
 have e:=tq h;rw[hq] at e ⊢;rw[VL q hl];exact e
theorem yT (i:Nat) (h2:i<l.length) (hx:Ym (l.getD i 0)):s64 (num (((fx l).drop (8*i)).take 8):Int)=l.getD i 0:=by
 rw[fx_at l i h2];exact pd hx
theorem OH (l:LI) (f:Nat->Int) (h:∀i,i<l.length->f i=l.getD i 0):(List.range l.length).map f=l:=by
 apply List.ext_getElem
 ·rw[List.length_map,List.length_range]
 ·intro i h1 h2
  rw[List.getElem_map,List.getElem_range,h i h2];simp[List.getD_eq_getElem?_getD,List.getElem?_eq_getElem h2]
theorem Cu (ys:LI) (n:Nat) (f:Int->Int):(fxN ys n).map f=(List.range n).map λi=>f (num ((ys.drop (8*i)).take 8):Int):=by
 unfold fxN;rw[List.map_map];exact List.map_congr_left (λ_ _=>rfl)
theorem qy (h:I64s l):(fxN (fx l) l.length).map s64=l:=by
 rw[Cu];refine OH l _ (λi hi=>yT i hi (h _ ?_));rw[Qd,Qi hi];exact List.getElem_mem hi
theorem F7 (ys:LI) (n:Nat):(fxN ys n).length=n:=by simp[fxN]
theorem vS (ys:LI) (n:Nat):fxN ys (n+1)=fxN ys n++[(num ((ys.drop (8*n)).take 8):Int)]:=by simp[fxN,List.range_succ]
theorem s64_g (x:Int):Ym (s64 x):=w64_g x
theorem Iv (l:LI):∀(acc z:LI),U64 l->rVs l.length acc (allG l++z)=(acc++l,z,0):=by
 induction l with
 | nil=>intro acc z _;simp[rVs,allG]
 | cons x t ih =>
  intro acc z hu;have hx:=hu x List.mem_cons_self
  have e:allG (x :: t)++z=gs x.toNat++(allG t++z):=by simp[allG]
  have hs:=Y4 x.toNat (allG t++z) (by omega);rw[Qj,rVs,e,hs];simp only[ne_eq,not_true_eq_false,if_false];rw[List.drop_left,Int.toNat_of_nonneg hx.1,ih _ _ (λy hy=>hu y (List.mem_cons_of_mem _ hy))];simp
theorem Ld (n:Nat):∀(acc ys:LI),YX ys->(∃r c,rVs n acc ys=([],r,c)∧(c=2∨c=3))∨(∃t r,rVs n acc ys=(acc++t,r,0)∧t.length=n∧U64 t∧ys=allG t++r):=by
 induction n with
 | zero=>intro acc ys _;exact .inr ⟨[],ys,by simp[rVs],rfl,U64.nil,by simp[allG]⟩
 | succ n ih =>
  intro acc ys hr
  rcases Ua hr with ⟨c,h,hc⟩ | ⟨a,k,h,h1,h2,h3,h4⟩
  ·left
   refine⟨ys,c,?_,hc⟩;rw[rVs,h];simp only[ne_eq];rw[if_pos (by omega)]
  ·have e:rVs (n+1) acc ys=rVs n (acc++[(a:Int)]) (ys.drop k):=by
    rw[rVs,h];simp
   rw[e]
   rcases ih (acc++[(a:Int)]) (ys.drop k) (λy hy=>hr y (List.mem_of_mem_drop hy)) with ⟨r,c,h5,h6⟩ | ⟨t,r,h5,h6,h7,h8⟩
   ·exact .inl ⟨r,c,h5,h6⟩
   ·refine .inr ⟨(a:Int) :: t,r,by rw[h5];simp,by simp[h6],?_,?_⟩
    ·intro x hx
     rcases List.mem_cons.1 hx with rfl | hx
     ·omega
     ·exact h7 x hx
    ·exact h4.trans (by rw[h8];simp[allG])
theorem zt {z:LI} (hu:U64 z) {tag:Nat}:YX (WOTH z tag).1:=by
 unfold WOTH
 by_cases h2:tag=2
 ·rw[if_pos h2];exact Jo hu
 ·rw[if_neg h2]
  by_cases h3:tag=3
  ·rw[if_pos h3]
   by_cases h:(Ug z).2=0
   ·obtain⟨e,hup,_⟩:=Js (λx hx=>(hu x hx).1) h
    rw[e];exact RY _ z rfl hup
   ·unfold Ug at h ⊢
    by_cases hl:65536<z.length
    ·rw[if_pos hl];intro y hy;simp at hy
    ·rw[if_neg hl] at h ⊢
     by_cases hs:small 60 z=true
     ·rw[if_pos hs] at h;exact absurd rfl h
     ·rw[if_neg hs];intro y hy;simp at hy
  ·rw[if_neg h3]
   by_cases h4:tag=4
   ·rw[if_pos h4];exact qI z
   ·rw[if_neg h4];exact AX z
theorem zq {z:LI} (hu:U64 z) (hl:z.length<=65536) {tag:Nat} (h:(WOTH z tag).2=0):Q0 (WOTH z tag).1 z.length tag=(z,0):=by
 unfold WOTH at *;unfold Q0
 by_cases h2:tag=2
 ·simp only[if_pos h2]
  rw[un_pk hu hl]
 ·simp only[if_neg h2] at h ⊢
  by_cases h3:tag=3
  ·simp only[if_pos h3] at h ⊢
   obtain⟨e,hup,_⟩:=Js (λx hx=>(hu x hx).1) h;rw[e,pD _ _ hl];exact uv hup
  ·simp only[if_neg h3] at h ⊢
   by_cases h4:tag=4
   ·simp only[if_pos h4]
    rw[j7 _ _ hl];have:=F6 hu hl [];rw[List.append_nil] at this;exact this
   ·simp only[if_neg h4]
    have:=Iv z [] [] hu;rw[List.append_nil,List.nil_append] at this;rw[this]
theorem xX {m tag:Nat} (hr:YX ys) (h:(Q0 ys m tag).2≠0):(Q0 ys m tag).1=[]:=by
 unfold Q0 at *
 by_cases h2:tag=2
 ·simp only[if_pos h2] at h ⊢;exact yr _ _ h
 ·simp only[if_neg h2] at h ⊢
  by_cases h3:tag=3
  ·simp only[if_pos h3] at h ⊢
   rcases Mm (n:=(m:Int)) hr with ⟨c,e,_⟩ | ⟨l,e,_⟩
   ·rw[e]
   ·rw[e] at h;exact absurd rfl h
  ·simp only[if_neg h3] at h ⊢
   by_cases h4:tag=4
   ·simp only[if_pos h4] at h ⊢
    rcases SI (n:=(m:Int)) hr with ⟨c,e,_⟩ | ⟨l,e,_⟩
    ·rw[e]
    ·rw[e] at h;exact absurd rfl h
   ·simp only[if_neg h4] at h ⊢
    rcases Ld m [] ys hr with ⟨r,c,e,_⟩ | ⟨t,r,e,_⟩
    ·rw[e]
    ·rw[e] at h;exact absurd rfl h
theorem Rr {m tag:Nat} (hr:YX ys) (h:(Q0 ys m tag).2=0):U64 (Q0 ys m tag).1∧(Q0 ys m tag).1.length=m:=by
 unfold Q0 at *
 by_cases h2:tag=2
 ·simp only[if_pos h2] at h ⊢
  obtain⟨_,hlen,_⟩:=UN_ok h;exact⟨yI _ _,by omega⟩
 ·simp only[if_neg h2] at h ⊢
  by_cases h3:tag=3
  ·simp only[if_pos h3] at h ⊢
   rcases Mm (n:=(m:Int)) hr with ⟨c,e,hc⟩ | ⟨l,e,hu,hl,_⟩
   ·rw[e] at h;exact absurd h hc
   ·rw[e]
    refine⟨λx hx=>?_,by simp only;omega⟩;have:=hu x hx
    have h60:(2:Int)^60=1152921504606846976:=by decide
    omega
  ·simp only[if_neg h3] at h ⊢
   by_cases h4:tag=4
   ·simp only[if_pos h4] at h ⊢
    rcases SI (n:=(m:Int)) hr with ⟨c,e,hc⟩ | ⟨l,e,hu,hl,_⟩
    ·rw[e] at h;exact absurd h hc
    ·rw[e];exact⟨hu,by simp only;omega⟩
   ·simp only[if_neg h4] at h ⊢
    rcases Ld m [] ys hr with ⟨r,c,e,hc⟩ | ⟨t,r,e,hl,hu,_⟩
    ·rw[e] at h;exact absurd h (by simp only;omega)
    ·rw[e];exact⟨by simpa using hu,by simpa using hl⟩
theorem D_i64 (h:I64s l) (k:Nat):I64s (D k l):=D_g k l h
theorem Xx (h:I64s l) (k:Nat):U64 (zsn (D k l)):=qA (D_i64 h k)
theorem Gw (l:LI) (k:Nat):(zsn (D k l)).length=l.length:=by rw[ZS,Xa]
theorem qf (h:U64 l) (hp:0<l.length):0<=l.getD 0 0∧l.getD 0 0<=18446744073709551615:=by
 cases l with
 | nil=>simp at hp
 | cons a t=>exact h a List.mem_cons_self
theorem Al (hp:0<l.length):l.getD 0 0 :: l.drop 1=l:=by
 cases l with
 | nil=>simp at hp
 | cons a t=>rfl
theorem Mn (tag:Nat):tms tag<=3:=by unfold tms;split <;> omega
theorem Aq (tag:Nat):QB [] tag=([],0):=by unfold QB;simp
theorem Wn:QB l 0=(fx l,0):=by
 unfold QB
 by_cases h:l=[]
 ·rw[if_pos h,h];rfl
 ·rw[if_neg h];rfl
theorem z6 {tag:Nat} (hne:l≠[]) (ht:tag≠0) (h:(QB l tag).2=0) :
 (WOTH ((zsn (D (tms tag) l)).drop 1) tag).2=0∧QB l tag=(gs ((zsn (D (tms tag) l)).getD 0 0).toNat++(WOTH ((zsn (D (tms tag) l)).drop 1) tag).1,0):=by
 unfold QB at *;rw[if_neg hne,if_neg ht] at h ⊢
 by_cases hw:(WOTH ((zsn (D (tms tag) l)).drop 1) tag).2≠0
 ·rw[if_pos hw] at h;exact absurd h hw
 ·rw[if_neg hw];exact⟨by simpa using hw,rfl⟩
theorem pB (hg:I64s l) (tag:Nat):YX (QB l tag).1:=by
 unfold QB
 by_cases hne:l=[]
 ·rw[if_pos hne];intro y hy;simp at hy
 ·rw[if_neg hne]
  by_cases ht:tag=0
  ·rw[if_pos ht];exact yN l
  ·rw[if_neg ht]
   by_cases hw:(WOTH ((zsn (D (tms tag) l)).drop 1) tag).2≠0
   ·rw[if_pos hw];intro y hy;simp at hy
   ·rw[if_neg hw]
    exact wZ (UO _) (zt ((Xx hg _).drop 1))
theorem zm {tag:Nat} (hg:I64s l) (hl:l.length<=65536) (h:(QB l tag).2=0):READ (QB l tag).1 l.length tag=(l,0):=by
 by_cases hne:l=[]
 ·subst hne;rfl
 have hp:0<l.length:=List.length_pos_iff.2 hne
 by_cases ht:tag=0
 ·subst ht
  rw[Wn];unfold READ rFx;rw[if_neg (by omega),if_pos rfl,if_neg (by simp only[Z8];omega),qy hg]
 obtain⟨hw,e⟩:=z6 hne ht h;rw[e];have hz:=Xx hg (tms tag);have hzl:=Gw l (tms tag);have h0:=qf hz (by omega);have hs:=Y4 ((zsn (D (tms tag) l)).getD 0 0).toNat (WOTH ((zsn (D (tms tag) l)).drop 1) tag).1 (by omega);have hb:=zq (hz.drop 1) (by rw[Qm];omega) hw;rw[Qm,hzl] at hb;unfold READ;rw[if_neg (by omega),if_neg ht];simp only[hs,ne_eq,not_true_eq_false,if_false,List.drop_left,hb];rw[Int.toNat_of_nonneg h0.1];have e2:zag ((zsn (D (tms tag) l)).getD 0 0) :: zgn ((zsn (D (tms tag) l)).drop 1)=zgn ((zsn (D (tms tag) l)).getD 0 0 :: (zsn (D (tms tag) l)).drop 1):=rfl;rw[e2,Al (by omega),ye,S_D _ _ hg]
theorem Lp {n tag:Nat} (hr:YX ys) (h:(READ ys n tag).2=0):I64s (READ ys n tag).1∧(READ ys n tag).1.length=n:=by
 unfold READ at *
 by_cases hn:n=0
 ·rw[if_pos hn];exact⟨λx hx=>by simp at hx,by simp[hn]⟩
 ·rw[if_neg hn] at h ⊢
  by_cases ht:tag=0
  ·rw[if_pos ht] at h ⊢
   unfold rFx at *
   by_cases hl:ys.length<8*n
   ·rw[if_pos hl] at h;cases h
   ·rw[if_neg hl]
    refine⟨λx hx=>?_,by simp[fxN]⟩;simp only[List.mem_map] at hx;obtain⟨y,_,rfl⟩:=hx;exact s64_g y
  ·rw[if_neg ht] at h ⊢
   by_cases hv:(Qe ys).2.2≠0
   ·rw[if_pos hv] at h;exact absurd h hv
   ·rw[if_neg hv] at h ⊢
    by_cases ho:(Q0 (ys.drop (Qe ys).2.1) (n - 1) tag).2≠0
    ·rw[if_pos ho] at h;exact absurd h ho
    ·rw[if_neg ho]
     have ho':(Q0 (ys.drop (Qe ys).2.1) (n - 1) tag).2=0:=by simpa using ho
     obtain⟨hu,h0⟩:=Rr (λy hy=>hr y (List.mem_of_mem_drop hy)) ho';refine⟨S_g _ _ (λx hx=>?_),?_⟩
     ·rcases List.mem_cons.1 hx with rfl | hx
      ·rcases Ua hr with ⟨c,h1,hc⟩ | ⟨a,k,h1,_,_,h3,_⟩
       ·rw[h1] at hv;exact absurd (by simp only;omega) hv
       ·rw[h1];exact Pu a (by omega) (by omega)
      ·exact tR hu x hx
     ·simp only[PN,Qj,Hl,h0];omega
theorem uj {n tag:Nat} (h:(READ ys n tag).2≠0):(READ ys n tag).1=[]:=by
 unfold READ at *
 by_cases hn:n=0
 ·rw[if_pos hn]
 ·rw[if_neg hn] at h ⊢
  by_cases ht:tag=0
  ·rw[if_pos ht] at h ⊢
   unfold rFx at *
   by_cases hl:ys.length<8*n
   ·rw[if_pos hl];rfl
   ·rw[if_neg hl] at h;exact absurd rfl h
  ·rw[if_neg ht] at h ⊢
   by_cases hv:(Qe ys).2.2≠0
   ·rw[if_pos hv]
   ·rw[if_neg hv] at h ⊢
    by_cases ho:(Q0 (ys.drop (Qe ys).2.1) (n - 1) tag).2≠0
    ·rw[if_pos ho]
    ·rw[if_neg ho] at h;exact absurd rfl h
theorem Vl (l:LI):∀t,(pick l t).1<=t∧QB l (pick l t).1=((pick l t).2,0)∧∀s,s<=t->(QB l s).2=0->(pick l t).2.length<=(QB l s).1.length
 | 0=>by
  refine⟨Nat.le_refl _,?_,λs hs _=>?_⟩
  ·show QB l 0=((QB l 0).1,0)
   rw[Wn]
  ·have:s=0:=by omega
   subst this;exact Nat.le_refl _
 | t+1=>by
  obtain⟨h1,h2,h3⟩:=Vl l t;rw[pick]
  by_cases hc:(QB l (t+1)).2=0∧(QB l (t+1)).1.length<(pick l t).2.length
  ·rw[if_pos hc]
   refine⟨Nat.le_refl _,by rw[<-hc.1],λs hs h0=>?_⟩
   rcases Nat.lt_or_ge s (t+1) with h | h
   ·have:=h3 s (by omega) h0;simp only;omega
   ·have:s=t+1:=by omega
    subst this;exact Nat.le_refl _
  ·rw[if_neg hc]
   refine⟨by omega,h2,λs hs h0=>?_⟩
   rcases Nat.lt_or_ge s (t+1) with h | h
   ·exact h3 s (by omega) h0
   ·have:s=t+1:=by omega
    subst this
    rcases Nat.lt_or_ge (QB l (t+1)).1.length (pick l t).2.length with h4 | h4
    ·exact absurd ⟨h0,h4⟩ hc
    ·exact h4
theorem JD (hl:l.length<=65536):ENC8 l=(((pick l 4).1:Int) :: (pick l 4).2,0):=if_neg (by omega)
theorem Re (hl:l.length<=65536):(ENC8 l).1.length<=1+8*l.length∧0<(ENC8 l).1.length:=by
 rw[JD hl];have h:=(Vl l 4).2.2 0 (by omega) (by rw[Wn]);rw[Wn] at h;simp only[Z8] at h;simp only[Qj];omega
theorem LC (hg:I64s l):YX (ENC8 l).1:=by
 unfold ENC8
 by_cases hl:65536<l.length
 ·rw[if_pos hl];intro y hy;simp at hy
 ·rw[if_neg hl]
  obtain⟨h1,h2,_⟩:=Vl l 4;intro y hy
  rcases List.mem_cons.1 hy with rfl | hy
  ·omega
  ·have:=pB hg (pick l 4).1
   rw[h2] at this;exact this y hy
theorem jg (hl:l.length<=65536) (t:Nat) (ht:t<=4):WAY8 l t=QB l t:=by
 unfold WAY8;rw[if_neg (by omega),if_neg (by omega)]
 rfl
theorem Oc (hg:I64s l) (hl:l.length<=65536):DEC8 (ENC8 l).1 l.length=(l,0):=by
 have he:=JD hl;obtain⟨h1,h2,_⟩:=Vl l 4;have hR:=zm hg hl (tag:=(pick l 4).1) (by rw[h2]);rw[h2] at hR;unfold DEC8;rw[if_neg (by omega)];rw[he];simp only[List.drop_succ_cons,List.drop_zero,List.getD_cons_zero,Int.toNat_natCast,hR];rw[if_neg (by simp),if_neg (by omega),if_neg (by simp),if_pos (by rw[he])]
theorem Px {b:LI} {n:Int} (hr:YX b) (h:(DEC8 b n).2=0):0<=n∧n<=65536∧((DEC8 b n).1.length:Int)=n∧I64s (DEC8 b n).1∧(ENC8 (DEC8 b n).1)=(b,0):=by
 unfold DEC8 at *
 by_cases hn:n<0∨65536<n
 ·rw[if_pos hn] at h;cases h
 ·rw[if_neg hn] at h ⊢
  by_cases hb:b=[]
  ·rw[if_pos hb] at h;cases h
  ·rw[if_neg hb] at h ⊢
   by_cases h4:4<b.getD 0 0
   ·rw[if_pos h4] at h;cases h
   ·rw[if_neg h4] at h ⊢
    by_cases hR:(READ (b.drop 1) n.toNat (b.getD 0 0).toNat).2≠0
    ·rw[if_pos hR] at h;exact absurd h hR
    ·rw[if_neg hR] at h ⊢
     by_cases hE:(ENC8 (READ (b.drop 1) n.toNat (b.getD 0 0).toNat).1).1=b
     ·rw[if_pos hE]
      obtain⟨hg,h0⟩:=Lp (λy hy=>hr y (List.mem_of_mem_drop hy)) (show (READ (b.drop 1) n.toNat (b.getD 0 0).toNat).2=0 by simpa using hR);refine⟨by omega,by omega,by simp only[h0];omega,hg,?_⟩;have:=JD (l:=(READ (b.drop 1) n.toNat (b.getD 0 0).toNat).1) (by rw[h0];omega);rw[this] at hE ⊢;simp only at hE;simp only[hE]
     ·rw[if_neg hE] at h;cases h
end Go.Proofs.YteciafpneamfaaaGreatDoor
