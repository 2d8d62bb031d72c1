import Derived.Test.YtoflhbghdlaeaaaGreatDoorG29
import Derived.Deep.LoopGhost
import Derived.Test.YtoflhbghdlaeaaaGreatDoorG4
namespace Go.Proofs.YtoflhbghdlaeaaaGreatDoor
set_option maxHeartbeats 1600000
set_option maxRecDepth 100000
open Go.RowKit _root_.Go.Proofs.Tryz
variable {w w' W:World} {v:Value} {ys xs l:LI} {R n p k g B:Nat} {P:Program} {ls:List (LI)} {E:TypeId}
theorem ZP (l:LI) (k:Nat) (h:k<l.length):l.getD k 0∈l:=by
 rw[Qd,Qg h];simp
theorem Nq (v:Int) (c:Nat) (w:World) (h0:0<=v) (h1:v<=18446744073709551615) (c0:1<=c) (c1:c<=65536) :
 Calls prog 267 #[.int .u64 v,.int .i64 c] w λe w'=>∃v',e=.returned v'∧w'.ownsRow w.heap.size 5 1 v' (gs v.toNat++gs (c - 1)).length ((gs v.toNat++gs (c - 1)).map (Value.int .u8))∧N0 w w':=by
 have A:=Qa (Um (.slice none 0 0) [] v w (Bs.nil _ _) NoCap.nil (by simp) h0 h1);have H10:=Qa (Q6 (v:=v.toNat) (by omega));obtain⟨m,rfl⟩:∃m,c=m+1:=⟨c - 1,by omega⟩;rw[Nat.add_sub_cancel]
 have em:((m+1:Nat):Int) - 1=(m:Int):=by omega
 go_enter func267,ntmps267;go_wp2_with fail;refine A.o.mono ?_;rintro e w1 ⟨v1,rfl,h2,o1⟩;rw[List.nil_append] at h2;have B:=Qa (Um v1 (gs v.toNat) m w1 (Bs.of_own h2) (NoCap.of_own h2) (by have:=H10.o;omega) (by omega) (by omega));have O1:=Qa o1;clear A h2 o1;go_wp2_with fail;refine B.o.mono ?_;rintro e w2 ⟨v2,rfl,h3,o2⟩;rw[Int.toNat_natCast] at h3;have F:=Qa (And.intro (Qu h3 O1.o.size) (O1.o.trans o2 (λ_ _ f=>f)));clear B h3 o2;go_wp2;go_ret;exact⟨_,rfl,F.o⟩
theorem Ca (v:Value) (xs:LI) (w:World) (h:Bs .u64 w v xs) (hu:U64 xs) (hl:xs.length<=65536) :
 Calls prog 237 #[v] w λe w'=>∃v',e=.returned (.tuple #[v',.int .i64 0])∧w'.ownsRow w.heap.size 5 1 v' (runE xs).length ((runE xs).map (Value.int .u8))∧N0 w w':=by
 obtain⟨i0,hi,ho,hz,ht⟩:=info_parts Tryz.infoU8;have HB:=Qa h;have HU:=Qa hu;have ha:=Qa (T8 xs hu (by omega));obtain⟨ao,cap,rfl⟩:=h.len;obtain⟨n,hn⟩:=EX xs.length;rw[<-hn] at hl HB ha;rw[<-hn];have HN:=Qa hn;have d0:decide ((65536:Int)<n)=false:=Qb (by omega);clear h hu hn;go_enter func237,ntmps237;go_wp2
 go_step3
 go_wp2
 go_step3
 go_wp2
 go_loopg [0,4] n (λg s0 s4 wx=>∃(ls o:LI),Hid (ls.length=g)∧g<=n∧Bs .u64 w s0 ls∧Hid (o++runE ls=runE xs)∧U64 ls∧wx.ownsRow w.heap.size 5 1 s4 o.length (o.map (Value.int .u8))∧N0 w wx)
 case atStart=>exact⟨xs,[],HN.o.symm,Nat.le_refl _,HB.o,rfl,HU.o,World.ownsRow_nil _ _ _ _,Only.refl _ _⟩
 case round =>
  obtain⟨ls,o,HL,hgn,hd,HO,hv,h8,hm⟩:=hrel;obtain⟨W,hW⟩:=EX wr;subst hW;have hb:=Qa hd;obtain⟨al,cl,el⟩:=hd.len;rw[HL.o] at el;subst el;have hr:=Qa hv;have h4:=Qa h8;have h6:=Qa hm
  have h9:Hid (o.length<=2000000):=by
   have:=congrArg List.length HO.o;have:=ha.o;rw[Qc] at *;simp only[Hid];omega
  clear hd hv h8 hm HB HU;obtain⟨G,hG⟩:=EX gk;subst hG
  by_cases hg0:G=0
  ·subst hg0
   have d1:decide ((0:Int)<((0:Nat):Int))=false:=by simp
   have F:Hid (W.ownsRow w.heap.size 5 1 u4 (runE xs).length ((runE xs).map (Value.int .u8))):=by
    have e:ls=[]:=List.eq_nil_of_length_eq_zero HL.o;have:=HO.o;rw[e,runE,List.append_nil] at this;simp only[Hid];rw[<-this];exact h4.o
   go_wp2
   try rw[Exit.noGoto_ret]
   go_ret2;exact⟨_,rfl,F.o,h6.o⟩
  ·have d1:decide ((0:Int)<(G:Int))=true:=Qe (by omega)
   obtain⟨b,off,cap',e1,hp⟩:=(hb.o.past h6.o).at 0 (by rw[HL.o];omega)
   have ea:al=some ⟨b,off,none⟩:=by simp at e1;exact e1.1
   subst ea;clear e1;rw[Nat.add_zero] at hp;have h7:=hr.o (ls.getD 0 0) (ZP ls 0 (by rw[HL.o];omega));obtain⟨x0,hx⟩:=EX (ls.getD 0 0);rw[<-hx] at hp h7;have HX:=Qa hx;clear hx;go_wp2;obtain⟨O4,hO4⟩:=EX u4;subst hO4
   go_loopg [0,4,15] G (λg2 s0 s4 s15 wy=>∃j:Nat,j+g2=G∧s0=.slice (some ⟨b,off,none⟩) G cl∧s4=O4∧s15=.int .i64 j∧Hid (∀i,i<j->ls.getD i 0=x0)∧W=wy)
   case atStart=>exact⟨0,by omega,rfl,rfl,rfl,(λi hi=>by omega),rfl⟩
   case round =>
    obtain⟨j,hj,rfl,rfl,rfl,HJ,hw⟩:=hrel;subst hw
    cases gk with
    | zero =>
     obtain rfl:j=G:=by omega
     have R:=Qa (Nq x0 j W h7.1 h7.2 (by omega) (by omega))
     have HE:Hid (runE ls=gs x0.toNat++gs (j - 1)):=by
      simp only[Hid];rw[HX.o,<-HL.o];exact Od (by rw[HL.o];omega) (λi hi=>by rw[<-HX.o];exact HJ.o i (by rw[<-HL.o];exact hi))
     go_wp2_with fail;refine R.o.mono ?_;rintro e w2 ⟨v2,rfl,h0,o2⟩;have B2:=Qa (Bs.of_own h0);have N2:=Qa (NoCap.of_own h0);have O2:=Qa (h6.o.same o2);have h3:=Qa (o2.own h4.o (λ_ _ f=>f));rw[<-HE.o] at B2
     have h5:Hid ((runE ls).length<=2000000):=by
      have:=congrArg List.length HO.o;have:=ha.o;rw[Qc] at *;simp only[Hid];omega
     have hg:=O2.o.size;clear R h0 o2;go_wp2_with (at_builtin;refine Yh _ rfl _ _ _ rfl w.heap.size 5 i0 (.int .u8 0) 1 underlying23 hi ho hz ht rfl _ o.length (o.map (Value.int .u8)) rfl h3.o .u8 _ (runE ls) rfl B2.o N2.o ?c3 ?c4 hg ?_)
     case c3=>have:=h5.o;have:=h9.o;unfold maxLen;omega
     case c4=>have:=h5.o;have:=h9.o;omega
     intro v' w3 own3 hgrow _ _
     have F:Hid (w3.ownsRow w.heap.size 5 1 v' (runE xs).length ((runE xs).map (Value.int .u8))∧N0 w w3):=by
      refine⟨?_,O2.o.grown hgrow (λk hk hq=>by have:=(h3.o.lt k hq).1;omega)⟩;rw[<-HO.o,Qc,List.map_append];exact own3
     clear own3 hgrow;go_wp2
     try rw[Exit.noGoto_ret]
     go_ret2;exact⟨_,rfl,F.o⟩
    | succ g =>
     have jl:j<G:=by omega
     obtain⟨b',he,hs,e1,hcj⟩:=(hb.o.past h6.o).at j (by rw[HL.o];exact jl)
     have e2:b=b'∧off=he:=by simp at e1;exact⟨e1.1.1,e1.1.2⟩
     obtain⟨rfl,rfl⟩:=e2;clear e1
     have i0':(0:Int)<=(j:Int):=by omega
     have i1:(j:Int)<(G:Int):=by omega
     obtain⟨x,hx⟩:=EX (ls.getD j 0);rw[<-hx] at hcj;have hf:=Qa hx;clear hx
     by_cases hxx:x=x0
     ·subst hxx
      have z0:(x != x)=false:=by simp
      go_wp2
      go_roundg g
      case rel=>exact⟨j+1,by omega,rfl,rfl,by go_num,(λi hi=>by
       rcases Nat.lt_or_ge i j with h | h
       ·exact HJ.o i h
       ·obtain rfl:i=j:=by omega
        exact hf.o.symm),rfl⟩
      case measure=>omega
     ·have z0:(x != x0)=true:=by simpa using hxx
      have j0:0<j:=by
       rcases Nat.eq_zero_or_pos j with h | h
       ·subst h
        exact absurd (hf.o.trans HX.o.symm) hxx
       ·exact h
      have HE:Hid (runE ls=gs x0.toNat++gs (j - 1)++runE (ls.drop j)):=by
       simp only[Hid];rw[HX.o];exact SI j0 (by rw[HL.o];exact jl) (λi hi=>by rw[<-HX.o];exact HJ.o i hi) (by rw[<-HX.o,<-hf.o];exact hxx)
      have R:=Qa (Nq x0 j W h7.1 h7.2 (by omega) (by omega))
      have hcap:G<=cl:=by
       obtain⟨_,_,e,h2,_⟩:=hb.o;simp at e;have:=HL.o;omega
      have CUT:=hb.o.cut (n:=j) (by omega)
      have hh:(⟨b,off,none⟩:Addr).add j=⟨b,off+j,none⟩:=by unfold Addr.add;split <;> simp_all
      rw[Option.map_some,hh] at CUT;have CUT:=Qa CUT
      have k1:(j:Int)<=(G:Int):=by omega
      have k2:(j:Int)<=(cl:Int):=by omega
      have k3:cl≠j:=by omega
      go_wp2_with fail;refine R.o.mono ?_;rintro e w2 ⟨v2,rfl,h0,o2⟩;have B2:=Qa (Bs.of_own h0);have N2:=Qa (NoCap.of_own h0);have O2:=Qa (h6.o.same o2);have h3:=Qa (o2.own h4.o (λ_ _ f=>f))
      have h5:Hid ((gs x0.toNat++gs (j - 1)).length<=2000000):=by
       have h1:=congrArg List.length HO.o;have h2:=ha.o;rw[HE.o] at h1;simp only[Qc] at h1;simp only[Hid,Qc];omega
      have hg:=O2.o.size;obtain⟨q,hq⟩:=EX (gs x0.toNat++gs (j - 1));rw[<-hq] at B2 h5 HE;clear R h0 o2 hq;go_wp2_with (at_builtin;refine Yh _ rfl _ _ _ rfl w.heap.size 5 i0 (.int .u8 0) 1 underlying23 hi ho hz ht rfl _ o.length (o.map (Value.int .u8)) rfl h3.o .u8 _ q rfl B2.o N2.o ?c3 ?c4 hg ?_)
      case c3=>have:=h5.o;have:=h9.o;unfold maxLen;omega
      case c4=>have:=h5.o;have:=h9.o;omega
      intro v' w3 own3 hgrow _ _
      have F:Hid (w3.ownsRow w.heap.size 5 1 v' (o++q).length ((o++q).map (Value.int .u8))∧N0 w w3):=by
       refine⟨?_,O2.o.grown hgrow (λk hk hq=>by have:=(h3.o.lt k hq).1;omega)⟩;rw[Qc,List.map_append];exact own3
      clear own3 hgrow h3 O2 B2 N2;go_wp2
      go_roundg (G - j)
      case rel=>exact⟨ls.drop j,o++q,(by simp only[Hid];rw[Qo,HL.o]),by omega,CUT.o,(by simp only[Hid];rw[List.append_assoc,<-HE.o];exact HO.o),(λy hy=>hr.o y (List.mem_of_mem_drop hy)),F.o⟩
      case measure=>omega
def RUND (ys:LI) (n:Int):LI × Int:=if n<0∨65536<n then ([],1) else yS ys n.toNat
def I64s (l:LI):Prop:=∀x∈l,U5 x
def Kk (b:LI):Prop:=∀y∈b,0<=y∧y<=255
def u64o (x:Int):Int:=x % 18446744073709551616
def zsn (l:LI):LI:=l.map zig
def zgn (l:LI):LI:=l.map zag
def fx (l:LI):LI:=l.flatMap λx=>fixL (u64o x) 8
def tms (tag:Nat):Nat:=if tag=3∨tag=4 then 2 else 1
def WOTH (z:LI) (tag:Nat):LI × Int:=if tag=2 then (PK z,0) else if tag=3 then Y7 z else if tag=4 then (runE z,0) else (allG z,0)
def QF (l:LI) (tag:Nat):LI × Int :=
 if l=[] then ([],0) else if tag=0 then (fx l,0) else
 if (WOTH ((zsn (D (tms tag) l)).drop 1) tag).2≠0 then ([],(WOTH ((zsn (D (tms tag) l)).drop 1) tag).2) else
 (gs ((zsn (D (tms tag) l)).getD 0 0).toNat++(WOTH ((zsn (D (tms tag) l)).drop 1) tag).1,0)
def WAY8 (l:LI) (tag:Int):LI × Int:=if tag<0∨4<tag then ([],1) else if 65536<l.length then ([],4) else QF l tag.toNat
def pick (l:LI):Nat->Nat × LI
 | 0=>(0,(QF l 0).1)
 | t+1=>if (QF l (t+1)).2=0∧(QF l (t+1)).1.length<(pick l t).2.length then (t+1,(QF l (t+1)).1) else pick l t
def ENC8 (l:LI):LI × Int:=if 65536<l.length then ([],4) else (((pick l 4).1:Int) :: (pick l 4).2,0)
def fxN (ys:LI) (n:Nat):LI:=(List.range n).map λi=>(num ((ys.drop (8*i)).take 8):Int)
def rFx (ys:LI) (n:Nat):LI × Int:=if ys.length<8*n then ([],2) else (fxN ys n,0)
def rVs:Nat->LI->LI->LI × LI × Int
 | 0,acc,ys=>(acc,ys,0)
 | n+1,acc,ys=>if (Qh ys).2.2≠0 then ([],ys,(Qh ys).2.2) else rVs n (acc++[(Qh ys).1]) (ys.drop (Qh ys).2.1)
def XT (ys:LI) (m tag:Nat):LI × Int :=
 if tag=2 then ((UN ys m).2,(UN ys m).1) else if tag=3 then qF ys m else if tag=4 then RUND ys m else ((rVs m [] ys).1,(rVs m [] ys).2.2)
def s64 (x:Int):Int:=wrap64 x
def READ (ys:LI) (n tag:Nat):LI × Int :=
 if n=0 then ([],0) else if tag=0 then ((rFx ys n).1.map s64,(rFx ys n).2) else
 if (Qh ys).2.2≠0 then ([],(Qh ys).2.2) else
 if (XT (ys.drop (Qh ys).2.1) (n - 1) tag).2≠0 then ([],(XT (ys.drop (Qh ys).2.1) (n - 1) tag).2) else
 (S (tms tag) (zag (Qh ys).1 :: zgn (XT (ys.drop (Qh ys).2.1) (n - 1) tag).1),0)
theorem V7 (l:LI):(zsn l).length=l.length:=by simp[zsn]
theorem yD (h:I64s l):U64 (zsn l):=by
 intro x hx;simp only[zsn,List.mem_map] at hx;obtain⟨y,hy,rfl⟩:=hx;exact Pn y (h y hy).1 (h y hy).2
theorem U64.drop (h:U64 l) (k:Nat):U64 (l.drop k):=λx hx=>h x (List.mem_of_mem_drop hx)
theorem qw {a b:LI} (ha:Kk a) (hb:Kk b):Kk (a++b):=λy hy=>(List.mem_append.1 hy).elim (ha y) (hb y)
theorem Jb (l:LI):(fx l).length=8*l.length:=by
 induction l with
 | nil=>rfl
 | cons x t ih =>
  have:fx (x :: t)=fixL (u64o x) 8++fx t:=by simp[fx]
  rw[this,Qc,QD,ih,Qi];omega
theorem Iv (l:LI) (x:Int):fx (l++[x])=fx l++fixL (u64o x) 8:=by simp[fx]
theorem uY (l:LI):Kk (fx l):=by
 intro y hy;simp only[fx,List.mem_flatMap] at hy;obtain⟨x,_,hy⟩:=hy;exact Ur _ _ y hy
theorem OH {z:LI} (hu:U64 z) {tag:Nat}:Kk (WOTH z tag).1:=by
 unfold WOTH
 by_cases h2:tag=2
 ·rw[if_pos h2];exact yT hu
 ·rw[if_neg h2]
  by_cases h3:tag=3
  ·rw[if_pos h3]
   by_cases h:(Y7 z).2=0
   ·obtain⟨e,hup,_⟩:=Hv (λx hx=>(hu x hx).1) h
    rw[e];exact vB _ z rfl hup
   ·unfold Y7 at h ⊢
    by_cases hl:65536<z.length
    ·rw[if_pos hl];intro y hy;simp at hy
    ·rw[if_neg hl] at h ⊢
     by_cases hs:small 60 z=true
     ·rw[if_pos hs] at h;exact absurd rfl h
     ·rw[if_neg hs];intro y hy;simp at hy
  ·rw[if_neg h3]
   by_cases h4:tag=4
   ·rw[if_pos h4];exact Am z
   ·rw[if_neg h4];exact Sv z
theorem D_i64 (h:I64s l) (k:Nat):I64s (D k l):=D_g k l h
theorem JM (h:I64s l) (k:Nat):U64 (zsn (D k l)):=yD (D_i64 h k)
theorem PE (l:LI) (k:Nat):(zsn (D k l)).length=l.length:=by rw[V7,Zl]
theorem Ic (tag:Nat):tms tag<=3:=by unfold tms;split <;> omega
theorem D7 (tag:Nat):QF [] tag=([],0):=by unfold QF;simp
theorem Ww:QF l 0=(fx l,0):=by
 unfold QF
 by_cases h:l=[]
 ·rw[if_pos h,h];rfl
 ·rw[if_neg h];rfl
theorem qh (hg:I64s l) (tag:Nat):Kk (QF l tag).1:=by
 unfold QF
 by_cases hne:l=[]
 ·rw[if_pos hne];intro y hy;simp at hy
 ·rw[if_neg hne]
  by_cases ht:tag=0
  ·rw[if_pos ht];exact uY l
  ·rw[if_neg ht]
   by_cases hw:(WOTH ((zsn (D (tms tag) l)).drop 1) tag).2≠0
   ·rw[if_pos hw];intro y hy;simp at hy
   ·rw[if_neg hw]
    exact qw (YW _) (OH ((JM hg _).drop 1))
theorem Vf (l:LI):∀t,(pick l t).1<=t∧QF l (pick l t).1=((pick l t).2,0)∧∀s,s<=t->(QF l s).2=0->(pick l t).2.length<=(QF l s).1.length
 | 0=>by
  refine⟨Nat.le_refl _,?_,λs hs _=>?_⟩
  ·show QF l 0=((QF l 0).1,0)
   rw[Ww]
  ·have:s=0:=by omega
   subst this;exact Nat.le_refl _
 | t+1=>by
  obtain⟨h1,h2,h3⟩:=Vf l t;rw[pick]
  by_cases hc:(QF l (t+1)).2=0∧(QF l (t+1)).1.length<(pick l t).2.length
  ·rw[if_pos hc]
   refine⟨Nat.le_refl _,by rw[<-hc.1],λs hs h0=>?_⟩
   rcases Nat.lt_or_ge s (t+1) with h | h
   ·have:=h3 s (by omega) h0;simp only;omega
   ·have:s=t+1:=by omega
    subst this;exact Nat.le_refl _
  ·rw[if_neg hc]
   refine⟨by omega,h2,λs hs h0=>?_⟩
   rcases Nat.lt_or_ge s (t+1) with h | h
   ·exact h3 s (by omega) h0
   ·have:s=t+1:=by omega
    subst this
    rcases Nat.lt_or_ge (QF l (t+1)).1.length (pick l t).2.length with h4 | h4
    ·exact absurd ⟨h0,h4⟩ hc
    ·exact h4
theorem IF (hl:l.length<=65536):ENC8 l=(((pick l 4).1:Int) :: (pick l 4).2,0):=if_neg (by omega)
theorem Nj (hl:l.length<=65536):(ENC8 l).1.length<=1+8*l.length∧0<(ENC8 l).1.length:=by
 rw[IF hl];have h:=(Vf l 4).2.2 0 (by omega) (by rw[Ww]);rw[Ww] at h;simp only[Jb] at h;simp only[Qi];omega
theorem Eo (hg:I64s l):Kk (ENC8 l).1:=by
 unfold ENC8
 by_cases hl:65536<l.length
 ·rw[if_pos hl];intro y hy;simp at hy
 ·rw[if_neg hl]
  obtain⟨h1,h2,_⟩:=Vf l 4;intro y hy
  rcases List.mem_cons.1 hy with rfl | hy
  ·omega
  ·have:=qh hg (pick l 4).1
   rw[h2] at this;exact this y hy
theorem IR (hl:l.length<=65536) (t:Nat) (ht:t<=4):WAY8 l t=QF l t:=by
 unfold WAY8;rw[if_neg (by omega),if_neg (by omega)]
 rfl
def tzF:Nat->Nat->Nat
 | 0,_=>0
 | f+1,x=>if x % 2=0 then tzF f (x / 2)+1 else 0
def tz (x:Nat):Nat:=tzF 64 x
def ldz (x:Nat):Nat:=min (64 - wid x) 31
abbrev fitsW (x a z:Nat):Prop:=a<=64 - wid x∧z<=tz x
def newW (x:Nat):List Bool:=true :: true :: (Qr (ldz x) 5++(Qr (63 - ldz x - tz x) 6++Qr (x / 2^tz x) (64 - ldz x - tz x)))
def gx (x:Nat) (wn:Option (Nat × Nat)):List Bool × Option (Nat × Nat) :=
 if x=0 then ([false],wn) else
 match wn with
 | none=>(newW x,some (ldz x,tz x))
 | some (a,z)=>if fitsW x a z then (true :: false :: Qr (x / 2^z) (64 - a - z),some (a,z)) else (newW x,some (ldz x,tz x))
def gE:Nat->Option (Nat × Nat)->LI->List Bool
 | _,_,[]=>[]
 | p,wn,y :: t=>(gx (p ^^^ y.toNat) wn).1++gE y.toNat (gx (p ^^^ y.toNat) wn).2 t
def GB:LI->List Bool
 | []=>[]
 | y :: t=>Qr y.toNat 64++gE y.toNat none t
theorem Na:∀(f x:Nat),2^tzF f x∣x
 | 0,x=>by simp[tzF]
 | f+1,x=>by
  rw[tzF]
  by_cases h:x % 2=0
  ·rw[if_pos h]
   obtain⟨k,hk⟩:=Na f (x / 2);refine⟨k,?_⟩
   have e:x=2*(x / 2):=by omega
   rw[Nat.pow_succ,Nat.mul_comm (2^tzF f (x / 2)) 2,Nat.mul_assoc,<-hk];exact e
  ·rw[if_neg h];simp
theorem Px:∀(f x:Nat),0<x->x<2^f->x / 2^tzF f x % 2=1
 | 0,x,h0,h1=>by simp at h1;omega
 | f+1,x,h0,h1=>by
  rw[tzF]
  by_cases h:x % 2=0
  ·rw[if_pos h,Nat.pow_succ,Nat.mul_comm,<-Nat.div_div_eq_div_mul]
   exact Px f (x / 2) (by omega) (by rw[Nat.pow_succ] at h1;omega)
  ·rw[if_neg h];simp;omega
theorem Lj:∀(f x:Nat),0<x->x<2^f->tzF f x<f
 | 0,x,h0,h1=>by simp at h1;omega
 | f+1,x,h0,h1=>by
  rw[tzF]
  by_cases h:x % 2=0
  ·rw[if_pos h]
   have:=Lj f (x / 2) (by omega) (by rw[Nat.pow_succ] at h1;omega);omega
  ·rw[if_neg h];omega
theorem p64:(2:Nat)^64=18446744073709551616:=by decide
theorem Lp {x z:Nat} (h:z<=tz x):x / 2^z*2^z=x:=by
 have h1:2^z∣x:=Nat.dvd_trans (Nat.pow_dvd_pow 2 h) (Na 64 x);exact Nat.div_mul_cancel h1
theorem PY {x a z:Nat} (hx:x<18446744073709551616) (ha:a<=64 - wid x) (hz:a+z<=63):x / 2^z<2^(64 - a - z):=by
 have hw:=Wz x hx;have h1:x<2^(64 - a):=(Yd x (64 - a)).1 (by omega);rw[Nat.div_lt_iff_lt_mul (Nat.two_pow_pos z),<-Nat.pow_add];rw[show 64 - a - z+z=64 - a by omega];exact h1
theorem Xp {x:Nat} (h0:0<x) (hx:x<18446744073709551616):ldz x<=31∧ldz x<=64 - wid x∧ldz x+tz x<=63:=by
 have h1:tz x<64:=Lj 64 x h0 (by rw[p64];exact hx)
 have h2:tz x<wid x:=by
  rcases Nat.lt_or_ge (tz x) (wid x) with h | h
  ·exact h
  ·have h3:x<2^tz x:=(Yd x (tz x)).1 h
   have h4:x / 2^tz x*2^tz x=x:=Lp (Nat.le_refl _);rw[Nat.div_eq_of_lt h3] at h4;omega
 have hw:=Wz x hx;unfold ldz;omega
def gR (wn:Option (Nat × Nat)):List Bool->Nat × Option (Nat × Nat) × List Bool × Int
 | []=>(0,wn,[],2)
 | false :: r=>(0,wn,r,0)
 | [true]=>(0,wn,[],2)
 | true :: false :: r =>
  match wn with
  | none=>(0,none,r,3)
  | some (a,z)=>if r.length<64 - a - z then (0,wn,r,2) else (bnum (r.take (64 - a - z))*2^z,wn,r.drop (64 - a - z),0)
 | true :: true :: r =>
  if r.length<5 then (0,wn,r,2) else
  if r.length<11 then (0,wn,r,2) else
  if 63<bnum (r.take 5)+bnum ((r.drop 5).take 6) then (0,wn,r,3) else
  if r.length<12+bnum ((r.drop 5).take 6) then (0,wn,r,2) else
  (bnum ((r.drop 11).take (bnum ((r.drop 5).take 6)+1))*2^(63 - bnum (r.take 5) - bnum ((r.drop 5).take 6)),some (bnum (r.take 5),63 - bnum (r.take 5) - bnum ((r.drop 5).take 6)),r.drop (12+bnum ((r.drop 5).take 6)),0)
theorem Oz {a b:Nat} (ha:a<18446744073709551616) (hb:b<18446744073709551616):a ^^^ b<18446744073709551616:=by
 rw[<-p64] at *;exact Nat.xor_lt_two_pow ha hb
def ENC9 (l:LI):LI × Int:=if 65536<l.length then ([],4) else (QR (GB l),0)
theorem TJ (hl:l.length<=65536):ENC9 l=(QR (GB l),0):=if_neg (by omega)
theorem FP (l:LI):∀y∈(ENC9 l).1,0<=y∧y<=255:=by
 unfold ENC9
 by_cases h:65536<l.length
 ·rw[if_pos h];intro y hy;simp at hy
 ·rw[if_neg h];exact JO _
theorem FD (x:Nat) {wn:Option (Nat × Nat)}:(gx x wn).1.length<=77∧1<=(gx x wn).1.length:=by
 have hn:∀x,(newW x).length<=77∧1<=(newW x).length:=λx=>by
  unfold newW;simp only[Qi,Qc,Ug];omega
 unfold gx
 by_cases h0:x=0
 ·rw[if_pos h0];exact⟨by simp,by simp⟩
 ·rw[if_neg h0]
  cases wn with
  | none=>exact hn x
  | some p =>
   obtain⟨a,z⟩:=p;simp only
   by_cases hf:fitsW x a z
   ·rw[if_pos hf]
    simp only[Qi,Ug];omega
   ·rw[if_neg hf];exact hn x
theorem Z3 (l:LI):∀(p:Nat) (wn:Option (Nat × Nat)),(gE p wn l).length<=77*l.length∧l.length<=(gE p wn l).length:=by
 induction l with
 | nil=>intro p wn;simp[gE]
 | cons y t ih =>
  intro p wn;rw[gE,Qc,Qi];have h1:=FD (p ^^^ y.toNat) (wn:=wn);have h2:=ih y.toNat (gx (p ^^^ y.toNat) wn).2;omega
theorem En (l:LI):(GB l).length<=77*l.length∧l.length<=(GB l).length:=by
 cases l with
 | nil=>simp[GB]
 | cons y t =>
  have h:=Z3 t y.toNat none;unfold GB;rw[Qc,Ug,Qi];omega
def dct:LI->LI->LI
 | d,[]=>d
 | d,x :: t=>if x∈d then dct d t else dct (d++[x]) t
def dic (l:LI):LI:=dct [] l
theorem AO (l:LI) (y:Int):∀d,dct d (l++[y])=if y∈dct d l then dct d l else dct d l++[y]:=by
 induction l with
 | nil=>intro d;rfl
 | cons x t ih =>
  intro d;rw[List.cons_append,dct,dct]
  by_cases h:x∈d
  ·rw[if_pos h,if_pos h,ih]
  ·rw[if_neg h,if_neg h,ih]
theorem BT (l:LI):∀(d:LI) (y:Int),y∈dct d l↔y∈d∨y∈l:=by
 induction l with
 | nil=>intro d y;simp[dct]
 | cons x t ih =>
  intro d y;rw[dct]
  by_cases h:x∈d
  ·rw[if_pos h,ih,List.mem_cons]
   constructor
   ·rintro (h1 | h1)
    ·exact .inl h1
    ·exact .inr (.inr h1)
   ·rintro (h1 | rfl | h1)
    ·exact .inl h1
    ·exact .inl h
    ·exact .inr h1
  ·rw[if_neg h,ih,List.mem_cons,List.mem_append]
   constructor
   ·rintro ((h1 | h1) | h1)
    ·exact .inl h1
    ·exact .inr (.inl (by simpa using h1))
    ·exact .inr (.inr h1)
   ·rintro (h1 | rfl | h1)
    ·exact .inl (.inl h1)
    ·exact .inl (.inr (by simp))
    ·exact .inr h1
theorem yL (l:LI):∀d:LI,d.Nodup->(dct d l).Nodup:=by
 induction l with
 | nil=>intro d h;exact h
 | cons x t ih =>
  intro d h;rw[dct]
  by_cases hx:x∈d
  ·rw[if_pos hx];exact ih d h
  ·rw[if_neg hx]
   refine ih _ (List.nodup_append.2 ⟨h,by simp,?_⟩);intro a ha b hb e;simp at hb;subst hb e;exact hx ha
theorem EK (l:LI):∀d:LI,(dct d l).length<=d.length+l.length:=by
 induction l with
 | nil=>intro d;simp[dct]
 | cons x t ih =>
  intro d;rw[dct]
  by_cases h:x∈d
  ·rw[if_pos h];have:=ih d;simp only[Qi];omega
  ·rw[if_neg h];have:=ih (d++[x]);simp only[Qi,Qc,List.length_nil] at *;omega
theorem No (l:LI) (y:Int):y∈dic l↔y∈l:=by unfold dic;rw[BT];simp
theorem Fr (l:LI):(dic l).Nodup:=yL l [] List.nodup_nil
theorem Zh (l:LI):(dic l).length<=l.length:=by have:=EK l [];simpa [dic] using this
theorem Ax (hu:U64 l):U64 (dic l):=λy hy=>hu y ((No l y).1 hy)
theorem qq (l:LI) (y:Int):dic (l++[y])=if y∈dic l then dic l else dic l++[y]:=AO l y []
def plc (d:LI) (v:Int):Nat:=d.idxOf v
theorem Sx {d:LI} {v:Int} (h:v∈d):plc d v<d.length:=List.idxOf_lt_length_of_mem h
def wP (k:Nat):Nat:=if k=0 then 0 else wid (k - 1)
theorem wP_lt (h:p<k):p<2^wP k:=by
 unfold wP;rw[if_neg (by omega)];have:=(Yd (k - 1) (wid (k - 1))).1 (Nat.le_refl _);omega
theorem wP_le (h:k<=65536):wP k<=16:=by
 unfold wP
 by_cases h0:k=0
 ·rw[if_pos h0];omega
 ·rw[if_neg h0];exact (Yd _ 16).2 (by omega)
def bitsP (w:Nat) (ps:List Nat):List Bool:=ps.flatMap λp=>Qr p w
theorem St (w p:Nat) (ps:List Nat):bitsP w (p :: ps)=Qr p w++bitsP w ps:=rfl
theorem Np (w:Nat) (ps:List Nat):(bitsP w ps).length=ps.length*w:=by
 induction ps with
 | nil=>simp[bitsP]
 | cons p t ih=>rw[St,Qc,Ug,ih,Qi,Nat.succ_mul];omega
theorem At (w:Nat) (ps:List Nat) (p:Nat):bitsP w (ps++[p])=bitsP w ps++Qr p w:=by simp[bitsP]
def rdP (w:Nat):Nat->List Bool->List Nat
 | 0,_=>[]
 | n+1,k=>bnum (k.take w) :: rdP w n (k.drop w)
def fx8 (d:LI):LI:=d.flatMap λv=>fixL v 8
theorem ql (v:Int) (d:LI):fx8 (v :: d)=fixL v 8++fx8 d:=rfl
theorem vh (d:LI) (v:Int):fx8 (d++[v])=fx8 d++fixL v 8:=by simp[fx8]
theorem Kz (d:LI):(fx8 d).length=8*d.length:=by
 induction d with
 | nil=>rfl
 | cons v t ih=>rw[ql,Qc,QD,ih,Qi];omega
def rd8:Nat->LI->LI
 | 0,_=>[]
 | n+1,b=>((num (b.take 8):Nat):Int) :: rd8 n (b.drop 8)
def WZ (d l:LI):List Bool:=bitsP (wP d.length) (l.map (plc d))
def ENC10 (l:LI):LI × Int:=if 65536<l.length then ([],4) else (gs (dic l).length++(fx8 (dic l)++QR (WZ (dic l) l)),0)
theorem Rd (h:l.length<=65536):ENC10 l=(gs (dic l).length++(fx8 (dic l)++QR (WZ (dic l) l)),0):=if_neg (by omega)
theorem AB (d l:LI):(WZ d l).length=l.length*wP d.length:=by unfold WZ;rw[Np,List.length_map]
theorem OC (hl:l.length<=65536):(dic l).length<18446744073709551616:=by have:=Zh l;omega
theorem OQ (l:LI):∀y∈(ENC10 l).1,0<=y∧y<=255:=by
 unfold ENC10
 by_cases h:65536<l.length
 ·rw[if_pos h];intro y hy;simp at hy
 ·rw[if_neg h]
  intro y hy
  rcases List.mem_append.1 hy with h1 | h1
  ·exact YW _ y h1
  ·rcases List.mem_append.1 h1 with h2 | h2
   ·obtain⟨v,_,hv⟩:=List.mem_flatMap.1 h2
    unfold fixL at hv;obtain⟨j,_,rfl⟩:=List.mem_map.1 hv;exact JR v _
   ·exact JO _ y h2
def vO (l:LI) (k:Nat):Nat:=(dic (l.take k)).length
def Lw (l:LI):Bool:=l.all λx=>x == l.getD 0 0
abbrev YS (l:LI):Prop:=Lw l=true
theorem QeR:YS l↔∀x∈l,x=l.getD 0 0:=by
 unfold YS Lw;rw[List.all_eq_true];exact⟨λh x hx=>by simpa using h x hx,λh x hx=>by simpa using h x hx⟩
def QK (l:LI) (tag:Nat):LI × Int :=
 if tag=0 then (fx8 l,0) else if tag=1 then (if l=[]∨¬YS l then ([],1) else (fixL (l.getD 0 0) 8,0)) else if tag=2 then ENC10 l else ENC9 l
def WAY11 (l:LI) (tag:Int):LI × Int:=if tag<0∨3<tag then ([],1) else if 65536<l.length then ([],4) else QK l tag.toNat
def Q5 (l:LI):Nat->Nat × LI
 | 0=>(0,(QK l 0).1)
 | t+1=>if (QK l (t+1)).2=0∧(QK l (t+1)).1.length<(Q5 l t).2.length then (t+1,(QK l (t+1)).1) else Q5 l t
def ENC11 (l:LI):LI × Int:=if 65536<l.length then ([],4) else (((Q5 l 3).1:Int) :: (Q5 l 3).2,0)
theorem W11_0 (l:LI):QK l 0=(fx8 l,0):=rfl
theorem W11_1 (l:LI):QK l 1=if l=[]∨¬YS l then ([],1) else (fixL (l.getD 0 0) 8,0):=rfl
theorem W11_2 (l:LI):QK l 2=ENC10 l:=rfl
theorem W11_3 (l:LI):QK l 3=ENC9 l:=rfl
theorem XJ {t:Nat} (h:t<=3):t=0∨t=1∨t=2∨t=3:=by omega
theorem Ea (l:LI):∀y∈fx8 l,0<=y∧y<=255:=by
 intro y hy;obtain⟨v,_,hv⟩:=List.mem_flatMap.1 hy;exact Ur v 8 y hv
theorem ER {t:Nat} (ht:t<=3):∀y∈(QK l t).1,0<=y∧y<=255:=by
 rcases XJ ht with rfl | rfl | rfl | rfl
 ·exact Ea l
 ·rw[W11_1]
  by_cases c:l=[]∨¬YS l
  ·rw[if_pos c];intro y hy;simp at hy
  ·rw[if_neg c];exact Ur _ 8
 ·exact OQ l
 ·exact FP l
theorem JY (l:LI):∀t,(Q5 l t).1<=t∧QK l (Q5 l t).1=((Q5 l t).2,0)∧∀s,s<=t->(QK l s).2=0->(Q5 l t).2.length<=(QK l s).1.length
 | 0=>⟨Nat.le_refl _,rfl,λs hs _=>by
  obtain rfl:s=0:=by omega
  exact Nat.le_refl _⟩
 | t+1=>by
  obtain⟨h1,h2,h3⟩:=JY l t;rw[Q5]
  by_cases c:(QK l (t+1)).2=0∧(QK l (t+1)).1.length<(Q5 l t).2.length
  ·rw[if_pos c]
   refine⟨Nat.le_refl _,Prod.ext rfl c.1,λs hs he=>?_⟩
   rcases Nat.lt_or_ge s (t+1) with e | e
   ·have:=h3 s (by omega) he;simp only;omega
   ·obtain rfl:s=t+1:=by omega
    exact Nat.le_refl _
  ·rw[if_neg c]
   refine⟨by omega,h2,λs hs he=>?_⟩
   rcases Nat.lt_or_ge s (t+1) with e | e
   ·exact h3 s (by omega) he
   ·obtain rfl:s=t+1:=by omega
    rcases Nat.lt_or_ge (QK l (t+1)).1.length (Q5 l t).2.length with e2 | e2
    ·exact absurd ⟨he,e2⟩ c
    ·exact e2
theorem Hq (hl:l.length<=65536):ENC11 l=(((Q5 l 3).1:Int) :: (Q5 l 3).2,0):=if_neg (by omega)
theorem Lg (hl:l.length<=65536):(ENC11 l).1.length<=1+8*l.length∧0<(ENC11 l).1.length:=by
 have h:=(JY l 3).2.2 0 (by omega) rfl;rw[W11_0] at h;simp only[Kz] at h;rw[Hq hl];simp only[Qi];omega
theorem uD (l:LI):∀y∈(ENC11 l).1,0<=y∧y<=255:=by
 unfold ENC11
 by_cases h:65536<l.length
 ·rw[if_pos h];intro y hy;simp at hy
 ·rw[if_neg h]
  obtain⟨h1,h2,_⟩:=JY l 3;intro y hy
  rcases List.mem_cons.1 hy with rfl | hy
  ·omega
  ·have:=ER (l:=l) h1
   rw[h2] at this;exact this y hy
theorem JB (hl:l.length<=65536) (t:Nat) (ht:t<=3):WAY11 l t=QK l t:=by
 unfold WAY11;rw[if_neg (by omega),if_neg (by omega),Int.toNat_natCast]
theorem Ho {tag:Int}:(WAY11 l tag).1.length<=2000000:=by
 unfold WAY11
 by_cases c:tag<0∨3<tag
 ·rw[if_pos c];simp
 ·rw[if_neg c]
  by_cases hl:65536<l.length
  ·rw[if_pos hl];simp
  ·rw[if_neg hl]
   rcases XJ (t:=tag.toNat) (by omega) with e | e | e | e <;> rw[e]
   ·rw[W11_0];simp only[Kz];omega
   ·rw[W11_1];split <;> simp[QD]
   ·rw[W11_2,Rd (by omega)]
    have h1:=Q6 (OC (l:=l) (by omega));have h2:=Zh l;have h3:=wP_le (k:=(dic l).length) (by omega)
    have h4:(WZ (dic l) l).length<=65536*16:=by rw[AB];exact Nat.mul_le_mul (by omega) h3
    simp only[Qc,Kz,Ka];unfold nb;omega
   ·rw[W11_3,TJ (by omega)]
    have:=(En l).1;simp only[Ka];unfold nb;omega
def e8c (l:LI):LI:=(ENC8 l).1
def e11c (l:LI):LI:=(ENC11 l).1
def ENCC (tn:LI) (s:List (Int × Int)):LI × Int:=ENC12 e8c e11c tn s
def Gs (s:List (Int × Int)):Prop:=I64s (s.map Prod.fst)∧U64 (s.map Prod.snd)
theorem JP {tn:LI} {s:List (Int × Int)} (h:64<tn.length∨65536<s.length):ENCC tn s=([],4):=if_pos h
theorem Vd {tn:LI} {s:List (Int × Int)} (h:tn.length<=64) (h':s.length<=65536):ENCC tn s=(1 :: (blk tn++(gs s.length++(blk (e8c (s.map Prod.fst))++blk (e11c (s.map Prod.snd))))),0):=if_neg (by omega)
section
open Go.ChangeShapes Go.WideShapes
def Sps (w:World) (v:Value) (s:List (Int × Int)):Prop :=
 ∃ao cap,v=.slice ao s.length cap∧s.length<=cap∧(s≠[]->∃b off,ao=some ⟨b,off,none⟩∧∀j,j<s.length ->
  w.cell? ⟨b,off+j*2,none⟩=some (.int .i64 (s.getD j (0,0)).1)∧w.cell? ⟨b,off+j*2+1,none⟩=some (.int .u64 (s.getD j (0,0)).2))
theorem Sps.len {s:List (Int × Int)} (h:Sps w v s):∃ao cap,v=.slice ao s.length cap:=by
 obtain⟨ao,cap,rfl,_⟩:=h;exact⟨ao,cap,rfl⟩
theorem Sps.nil (w:World):Sps w (.slice none 0 0) []:=⟨none,0,rfl,Nat.le_refl _,λh=>absurd rfl h⟩
theorem Sps.at {s:List (Int × Int)} (h:Sps w v s) (j:Nat) (hj:j<s.length) :
 ∃b off cap,v=.slice (some ⟨b,off,none⟩) s.length cap∧w.cell? ⟨b,off+j*2,none⟩=some (.int .i64 (s.getD j (0,0)).1)∧w.cell? ⟨b,off+j*2+1,none⟩=some (.int .u64 (s.getD j (0,0)).2):=by
 obtain⟨ao,cap,rfl,_,hr⟩:=h;obtain⟨b,off,rfl,hc⟩:=hr (by intro h0;subst h0;simp at hj);exact⟨b,off,cap,rfl,hc j hj⟩
theorem Sps.keep {s:List (Int × Int)} (h:Sps w v s) {S:Nat->Prop} (ho:Only S w w') (hs:∀b,v.ownBlock=some b->¬S b):Sps w' v s:=by
 obtain⟨ao,cap,rfl,hl,hr⟩:=h;refine⟨ao,cap,rfl,hl,λhne=>?_⟩;obtain⟨b,off,rfl,hc⟩:=hr hne;refine⟨b,off,rfl,λj hj=>?_⟩;have hb:¬S b:=hs b rfl;obtain⟨h0,h1⟩:=hc j hj;have hlt:b<w.heap.size:=World.block_lt_of_cell? w _ h0;have e:=ho.block b hlt hb;exact⟨by rw[<-h0];unfold World.cell?;rw[e],by rw[<-h1];unfold World.cell?;rw[e]⟩
theorem Sps.past {s:List (Int × Int)} (h:Sps w v s) (o:N0 w w'):Sps w' v s:=h.keep o (λ_ _ f=>f)
end
def prt (l:LI) (n k:Nat):LI:=l.take k++List.replicate (n - k) 0
theorem Gx (l:LI) (k:Nat) (hk:k<=l.length):(prt l l.length k).length=l.length:=by
 simp[prt];omega
theorem Nf (kd:IntKind) (l:LI) (n:Nat):(prt l n 0).map (Value.int kd)=(madeCells #[Value.int kd 0] (n*1)).toList:=by
 simp only[prt,List.take_zero,List.nil_append,Nat.sub_zero,List.map_replicate];unfold madeCells
 apply List.ext_getElem
 ·simp
 ·intro i h1 h2
  simp[Nat.mod_one]
theorem Pl (l:LI):prt l l.length l.length=l:=by simp[prt]
theorem Ls (l:LI) (k:Nat) (h:k<l.length):(prt l l.length k).set k (l.getD k 0)=prt l l.length (k+1):=by
 unfold prt;obtain⟨m,hm⟩:∃m,l.length - k=m+1:=⟨l.length - k - 1,by omega⟩;rw[hm,show l.length - (k+1)=m by omega,List.replicate_succ,List.set_append_right _ _ (by simp;omega)];rw[List.take_succ_eq_append_getElem h]
 have e:k - (l.take k).length=0:=by simp;omega
 rw[e,Qj,List.append_assoc];simp[List.getD_eq_getElem?_getD,List.getElem?_eq_getElem h]
theorem pgetD (s:List (Int × Int)) (k:Nat):((s.map Prod.fst).getD k 0=(s.getD k (0,0)).1)∧((s.map Prod.snd).getD k 0=(s.getD k (0,0)).2):=by
 rw[Qd,Qd,Qd,List.getElem?_map,List.getElem?_map]
 cases s[k]? <;> exact⟨rfl,rfl⟩
theorem IV (v:Value) (s:List (Int × Int)) (w:World) (h:Sps w v s) (hl:s.length<=65536) :
 Calls prog 155 #[v] w λe w'=>∃u1 u2,e=.returned (.tuple #[u1,u2])∧Bs .i64 w' u1 (s.map Prod.fst)∧Bs .u64 w' u2 (s.map Prod.snd)∧N0 w w':=by
 obtain⟨i0,hi,hz0,hz1,hz2⟩:=info_parts Tryz.infoI64;obtain⟨j0,hj,gz0,gz1,gz2⟩:=info_parts Tryz.infoU64;have HB:=Qa h;obtain⟨ao,cap,rfl⟩:=h.len;obtain⟨n,hn⟩:=EX s.length;rw[<-hn] at hl HB;rw[<-hn];have HN:=Qa hn;obtain⟨wm,hp,h4,hq⟩:=run_make_full (P:=prog) w w.heap.size 200 3 i0 (.int .i64 0) 1 underlying200 hi hz0 hz1 .i64 .i64 n (by rw[hz2];omega) (by unfold maxLen;omega) (Nat.le_refl _);obtain⟨wk,ha,h6,hg⟩:=run_make_full (P:=prog) wm wm.heap.size 201 24 j0 (.int .u64 0) 1 underlying201 hj gz0 gz1 .i64 .i64 n (by rw[gz2];omega) (by unfold maxLen;omega) (Nat.le_refl _)
 have h0:Hid (wk.ownsRow w.heap.size 3 1 (.slice (some ⟨w.heap.size,0,none⟩) n n) n ((prt (s.map Prod.fst) n 0).map (Value.int .i64))∧wk.ownsRow wm.heap.size 24 1 (.slice (some ⟨wm.heap.size,0,none⟩) n n) n ((prt (s.map Prod.snd) n 0).map (Value.int .u64))∧N0 w wk∧w.heap.size<wm.heap.size):=by
  rw[show (Value.int .u64 0).cells=#[Value.int .u64 0] from rfl] at h6;rw[show (Value.int .i64 0).cells=#[Value.int .i64 0] from rfl] at h4;rw[Nf,Nf];have o1:N0 w wm:=(Only.refl _ _).grown hq (λ_ _ e=>by cases e);have o2:N0 wm wk:=(Only.refl _ _).grown hg (λ_ _ e=>by cases e);exact⟨o2.own h4 (λ_ _ f=>f),h6,o1.same o2,(h4.lt _ rfl).2⟩
 clear h4 hq h6 hg;obtain⟨N,hN⟩:=EX w.heap.size;obtain⟨M,hM⟩:=EX wm.heap.size;rw[<-hN] at hp h0;rw[<-hM] at ha h0;have HNN:=Qa hN;have HMM:=Qa hM;clear h hn hN hM;go_enter func155,ntmps155;go_wp2
 go_loopw [16] (λi wr=>∃k:Nat,k<=n∧i=.int .i64 k∧wr.ownsRow N 3 1 (.slice (some ⟨N,0,none⟩) n n) n ((prt (s.map Prod.fst) n k).map (Value.int .i64))∧wr.ownsRow M 24 1 (.slice (some ⟨M,0,none⟩) n n) n ((prt (s.map Prod.snd) n k).map (Value.int .u64))∧N0 w wr) (λi _=>n - (intOf i).toNat)
 case atStart=>exact⟨0,Nat.zero_le _,rfl,h0.o.1,h0.o.2.1,h0.o.2.2.1⟩
 case round =>
  obtain⟨k,hk,rfl,h5,h3,hh⟩:=hrel;have HNM:N<M:=h0.o.2.2.2;clear h0 hp ha;have hf:=Qa h5;have h7:=Qa h3;have ho:=Qa hh
  by_cases hlt:k<n
  ·have dlt:decide ((k:Int)<(n:Int))=true:=by simp;omega
   have dlt2:(k:Int)<(n:Int):=by omega
   have hm:k<s.length:=by rw[<-HN.o];exact hlt
   obtain⟨b,off,cap',e1,hc0,hc1⟩:=(HB.o.past hh).at k hm
   have ea:ao=some ⟨b,off,none⟩:=by simp at e1;exact e1.1
   subst ea;clear e1
   have hd:∃y,wr.cell? ⟨N,k,none⟩=some (.int .i64 y):=by
    have hz:=Gx (s.map Prod.fst) k (by simp;omega);rw[List.length_map,<-HN.o] at hz;refine⟨(prt (s.map Prod.fst) n k).getD k 0,?_⟩;rw[h5.cellAt k (by omega),List.getElem?_map,Qg (by rw[hz];omega),Qd,Qg (by rw[hz];omega)]
    rfl
   have h8:∃y,wr.cell? ⟨M,k,none⟩=some (.int .u64 y):=by
    have hz:=Gx (s.map Prod.snd) k (by simp;omega);rw[List.length_map,<-HN.o] at hz;refine⟨(prt (s.map Prod.snd) n k).getD k 0,?_⟩;rw[h3.cellAt k (by omega),List.getElem?_map,Qg (by rw[hz];omega),Qd,Qg (by rw[hz];omega)]
    rfl
   obtain⟨y,hy⟩:=hd;obtain⟨y2,hy2⟩:=h8;have hfr:wr.frozen? ⟨N,k,none⟩=false:=h5.frozenAt _;have hfr2:wr.frozen? ⟨M,k,none⟩=false:=h3.frozenAt _;have hNlt:N<wr.heap.size:=(h5.lt _ rfl).2;have hMlt:M<wr.heap.size:=(h3.lt _ rfl).2
   have he:Hid (((prt (s.map Prod.fst) n k).map (Value.int .i64)).set k (.int .i64 (s.getD k (0,0)).1)=(prt (s.map Prod.fst) n (k+1)).map (Value.int .i64)):=by
    simp only[Hid];rw[<-List.map_set,<-(pgetD s k).1];have:=Ls (s.map Prod.fst) k (by simpa using hm);rw[List.length_map,<-HN.o] at this;rw[this]
   have h9:Hid (((prt (s.map Prod.snd) n k).map (Value.int .u64)).set k (.int .u64 (s.getD k (0,0)).2)=(prt (s.map Prod.snd) n (k+1)).map (Value.int .u64)):=by
    simp only[Hid];rw[<-List.map_set,<-(pgetD s k).2];have:=Ls (s.map Prod.snd) k (by simpa using hm);rw[List.length_map,<-HN.o] at this;rw[this]
   generalize (s.getD k (0,0)).1=x at *;generalize (s.getD k (0,0)).2=z at *
   have ne1:¬N=M:=by omega
   have ne2:¬M=N:=by omega
   have ne3:¬N=wr.heap.size:=by omega
   have ne4:¬M=wr.heap.size:=by omega
   have ne5:¬wr.heap.size=N:=by omega
   have ne6:¬wr.heap.size=M:=by omega
   have hk0:(0:Int)<=(k:Int):=by omega
   clear h5 h3 hh HB hm;go_wp2;go_region;go_wp2
   go_roundw
   case rel =>
    have e1:=(hf.o.stored k (.int .i64 x)).1;rw[he.o] at e1;have o1:Only (λb=>b=N) wr (wr.setCell ⟨N,k,none⟩ (.int .i64 x)):=(Only.refl (λb=>b=N) wr).setCell (p:=⟨N,k,none⟩) (λ_=>rfl) _;have e2:=((o1.own h7.o (λb hb e=>by cases hb;exact ne2 e)).stored k (.int .u64 z)).1;rw[h9.o] at e2;have o2:Only (λb=>b=M) (wr.setCell ⟨N,k,none⟩ (.int .i64 x)) ((wr.setCell ⟨N,k,none⟩ (.int .i64 x)).setCell ⟨M,k,none⟩ (.int .u64 z)):=(Only.refl (λb=>b=M) _).setCell (p:=⟨M,k,none⟩) (λ_=>rfl) _;have o3:N0 ((wr.setCell ⟨N,k,none⟩ (.int .i64 x)).setCell ⟨M,k,none⟩ (.int .u64 z)) ((((wr.setCell ⟨N,k,none⟩ (.int .i64 x)).setCell ⟨M,k,none⟩ (.int .u64 z)).alloc (Obj.cells #[Value.int IntKind.i64 x,Value.int IntKind.u64 z] 63)).drew):=((Only.refl _ _).alloc _).drew;have hNw:=HNN.o;have hMN:=HNM;refine⟨k+1,by omega,by go_num,o3.own (o2.own e1 (λb hb e=>by cases hb;exact ne1 e)) (λ_ _ f=>f),o3.own e2 (λ_ _ f=>f),?_⟩;exact ((ho.o.trans o1 (λb hb e=>by omega)).trans o2 (λb hb e=>by omega)).trans o3 (λ_ _ f=>f)
   case measure=>simp[intOf];omega
  ·obtain rfl:k=n:=by omega
   have dlt:decide ((k:Int)<(k:Int))=false:=by simp
   have F:Hid (Bs .i64 wr (.slice (some ⟨N,0,none⟩) k k) (s.map Prod.fst)∧Bs .u64 wr (.slice (some ⟨M,0,none⟩) k k) (s.map Prod.snd)):=by
    have h1:=hf.o;have h2:=h7.o;have e1:=Pl (s.map Prod.fst);have e2:=Pl (s.map Prod.snd);rw[List.length_map,<-HN.o] at e1 e2;rw[e1] at h1;rw[e2] at h2;refine⟨Bs.of_own (lo:=N) (E:=3) ?_,Bs.of_own (lo:=M) (E:=24) ?_⟩
    ·rw[List.length_map,<-HN.o];exact h1
    ·rw[List.length_map,<-HN.o];exact h2
   clear h5 h3 hh;go_wp2;go_ret2;exact⟨_,_,rfl,F.o.1,F.o.2,ho.o⟩
def YL (s:List (Int × Int)):List Value:=s.flatMap λp=>[.int .i64 p.1,.int .u64 p.2]
theorem Ox (p:Int × Int) (s:List (Int × Int)):YL (p :: s)=.int .i64 p.1 :: .int .u64 p.2 :: YL s:=rfl
theorem Em (s:List (Int × Int)):∀(j:Nat),j<s.length->(YL s)[j*2]? = some (.int .i64 (s.getD j (0,0)).1)∧(YL s)[j*2+1]? = some (.int .u64 (s.getD j (0,0)).2):=by
 induction s with
 | nil=>intro j hj;simp at hj
 | cons p s ih =>
  intro j hj
  cases j with
  | zero=>exact⟨rfl,rfl⟩
  | succ j =>
   have:=ih j (by simpa using hj);rw[Ox,show (j+1)*2=j*2+1+1 by omega]
   simpa using this
theorem Sps.of_own {lo:Nat} {s:List (Int × Int)} (h:w.ownsRow lo E 2 v s.length (YL s)):Sps w v s:=by
 rcases h.2 with ⟨rfl,hn⟩ | ⟨g,cap,cur,rfl,_,hg,hnc,_,hcs,htk⟩
 ·have:s=[]:=List.eq_nil_of_length_eq_zero hn
  subst this;exact Sps.nil w
 ·refine⟨_,cap,rfl,hnc,λ_=>⟨g,0,rfl,λj hj=>?_⟩⟩
  have hc:∀i,i<s.length*2->w.cell? ⟨g,0+i,none⟩=(YL s)[i]?:=λi hi=>by
   rw[<-htk,List.getElem?_take_of_lt hi];simp[World.cell?,hg]
  obtain⟨h0,h1⟩:=Em s j hj;exact⟨by rw[hc _ (by omega)];exact h0,by rw[Nat.add_assoc,hc _ (by omega)];exact h1⟩
theorem Tryz.infoSm:(prog.info? 63).map (λi=>(i.zero,i.size,i.bytes))=some (some (.agg #[.int .i64 0,.int .u64 0]),2,16):=by kernel_rfl
section
open Go.Shelf
attribute [local go_sem] Oper.semAt_some
theorem EE (F:Fence) (n:Nat) (h3:F.fn 259) (hro:F.round=none) (ao:Option Addr) (cap:Nat) (w:World) :
 CallsIn F n prog 259 #[.slice ao 0 cap] w λe W'=>e=.returned (.tuple #[.int .u64 0,.int .u64 0])∧Below w.heap.size w W':=by
 refine callsIn_of_wp_marks func259 rfl h3 ?_ hro;simp only[ntmps259,List.size_toArray,Qi,List.length_nil,Nat.reduceAdd,Nat.reduceSub,Array.replicate_succ,Array.replicate_zero,List.push_toArray,List.append_toArray,List.nil_append,List.cons_append]
 gi_wp2
 have bA:=(Boxed.new w 24 (.int .u64 0)).alloc (.cells #[.int .u64 0] 24);have bC:=Boxed.new (w.alloc (.cells #[.int .u64 0] 24)) 24 (.int .u64 0);rw[World.size_alloc] at bC;have r1:=bA.cell;have r3:=bC.cell;refine⟨.tuple #[.int .u64 0,.int .u64 0],?_,rfl,((Below.refl _ w).alloc (Nat.le_refl _) _).alloc (by simp) _⟩;simp[results,Tryz.f259,go_sem,r1,r3]
theorem ue (v:Value) (xs:LI) (w:World) (h:Bs .u64 w v xs) (hl:xs.length<=1000000000) :
 Calls prog 259 #[v] w λe w'=>e=.returned (.tuple #[.int .u64 (lo xs),.int .u64 (hi xs)])∧N0 w w':=by
 obtain⟨ao,cap,rfl,hc,hr⟩:=h
 refine ((callsIn_wide (n:=3)).1 ?_:Calls prog 259 #[.slice ao xs.length cap] w λe w'=>e=.returned (.tuple #[.int .u64 (lo xs),.int .u64 (hi xs)])∧Below w.heap.size w w').mono λe w' h=>⟨h.1,Uw h.2⟩
 cases xs with
 | nil=>exact EE _ _ trivial rfl ao cap w
 | cons x0 zs =>
  obtain⟨b,off,rfl,h2⟩:=hr (by simp);have c0:w.cell? ⟨b,off,none⟩=some (.int .u64 x0):=h2 0 (by simp)
  by_cases h1:cap=1
  ·subst h1
   have h0:zs=[]:=List.eq_nil_of_length_eq_zero (by rw[Qi] at hc;omega);subst h0;exact EH _ _ trivial trivial trivial rfl (by omega) b off x0 w c0
  ·refine wF _ _ trivial trivial trivial rfl (by omega) b off cap zs x0 w c0 (by rw[Qi] at hl;omega) (by rw[Qi] at hc;omega) h1 ?_
   refine⟨_,_,rfl,λ_=>⟨b,off+1,rfl,World.block_lt_of_cell? w _ c0,λj hj=>?_⟩⟩;have:=h2 (j+1) (by rw[Qi];omega);rw[show off+1+j=off+(j+1) by omega,this];simp[List.getD_eq_getElem?_getD]
end
end Go.Proofs.YtoflhbghdlaeaaaGreatDoor
