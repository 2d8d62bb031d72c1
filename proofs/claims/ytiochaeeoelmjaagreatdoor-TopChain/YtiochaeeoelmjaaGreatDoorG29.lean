import Derived.Test.YtiochaeeoelmjaaGreatDoorG27
import Derived.Test.YtiochaeeoelmjaaGreatDoorG25
import Derived.Test.YtiochaeeoelmjaaGreatDoorG28
import Derived.Test.YtiochaeeoelmjaaGreatDoorG18
import Derived.Deep.DrawnRows
import Derived.Test.YtiochaeeoelmjaaGreatDoorG24
namespace Go.Proofs.YtiochaeeoelmjaaGreatDoor
set_option maxHeartbeats 4000000
set_option maxRecDepth 100000
open Go.RowKit _root_.Go.Proofs.Tryz
variable {w w' W:World} {v:Value} {ys xs l:LI} {R n p k g B:Nat} {P:Program} {ls:List (LI)} {E:TypeId}
def rF11 (ys:LI) (n:Nat):LI × Int:=if ys.length<8*n then ([],2) else (rd8 n ys,0)
def RD11 (ys:LI) (n tag:Nat):LI × Int :=
 if tag=2 then DEC10 ys n else if tag=3 then DEC9 ys n else
 if tag=1 then (if ys.length<8 then ([],2) else (List.replicate n ((num (ys.take 8):Nat):Int),0)) else rF11 ys n
theorem Tk (ys:LI) (n:Nat):RD11 ys n 0=rF11 ys n:=rfl
theorem Gw (ys:LI) (n:Nat):RD11 ys n 1=if ys.length<8 then ([],2) else (List.replicate n ((num (ys.take 8):Nat):Int),0):=rfl
theorem kL (ys:LI) (n:Nat):RD11 ys n 2=DEC10 ys n:=rfl
theorem uv (ys:LI) (n:Nat):RD11 ys n 3=DEC9 ys n:=rfl
theorem jQ (hr:∀y∈ys,0<=y∧y<=255):(num (ys.take 8):Int)<=18446744073709551615:=by
 have h1:=Wx (ys.take 8) (λy hy=>hr y (List.mem_of_mem_take hy));have h2:(256:Nat)^(ys.take 8).length<=256^8:=Nat.pow_le_pow_right (by omega) (by rw[Qg];omega)
 have h3:(256:Nat)^8=18446744073709551616:=by decide
 omega
theorem tM {n t:Nat} (hr:∀y∈ys,0<=y∧y<=255) (ht:t<=3):U64 (RD11 ys n t).1:=by
 have nl:U64 []:=λx hx=>by simp at hx
 rcases WW ht with rfl | rfl | rfl | rfl
 ·rw[Tk];unfold rF11
  by_cases c:ys.length<8*n
  ·rw[if_pos c];exact nl
  ·rw[if_neg c];exact Vl n ys hr
 ·rw[Gw]
  by_cases c:ys.length<8
  ·rw[if_pos c];exact nl
  ·rw[if_neg c]
   intro x hx;rw[List.eq_of_mem_replicate hx];have:=jQ hr;omega
 ·rw[kL]
  by_cases c:(DEC10 ys n).2=0
  ·exact (DY hr c).2.2.2.1
  ·rw[Ca c];exact nl
 ·rw[uv]
  by_cases c:(DEC9 ys n).2=0
  ·exact (DK c).2.2.2.1
  ·rw[g6 c];exact nl
theorem R11_0 (ys:LI) (n:Nat):Yh ys n 0=if ys.length<8*n then ([],2) else if 8*n<ys.length then ([],3) else (rd8 n ys,0):=rfl
theorem R11_1 (ys:LI) (n:Nat):Yh ys n 1=if ys.length<8 then ([],2) else if 8<ys.length then ([],3) else (List.replicate n ((num (ys.take 8):Nat):Int),0):=rfl
theorem yO {n t:Nat} (hn:n<=65536) (ht:t<=3):Yh ys n t=RD11 ys n t∨(Yh ys n t=([],3)∧(RD11 ys n t).2=0∧(ENC11 (RD11 ys n t).1).1.length<ys.length+1):=by
 rcases WW ht with rfl | rfl | rfl | rfl
 ·rw[Tk,R11_0,rF11]
  by_cases c:ys.length<8*n
  ·rw[if_pos c,if_pos c];exact .inl rfl
  ·rw[if_neg c,if_neg c]
   by_cases c2:8*n<ys.length
   ·rw[if_pos c2]
    have hl:=(Zk (l:=rd8 n ys) (by rw[Wt];exact hn)).1;rw[Wt] at hl;exact .inr ⟨rfl,rfl,by simp only;omega⟩
   ·rw[if_neg c2];exact .inl rfl
 ·rw[Gw,R11_1]
  by_cases c:ys.length<8
  ·rw[if_pos c,if_pos c];exact .inl rfl
  ·rw[if_neg c,if_neg c]
   by_cases c2:8<ys.length
   ·rw[if_pos c2]
    generalize ((num (ys.take 8):Nat):Int)=v;refine .inr ⟨rfl,rfl,?_⟩;simp only
    rcases n with _ | n
    ·have hl:=(Zk (l:=List.replicate 0 v) (by simp)).1
     simp only[List.length_replicate] at hl;omega
    ·have hl:=yl v n (by omega)
     omega
   ·rw[if_neg c2];exact .inl rfl
 ·exact .inl rfl
 ·exact .inl rfl
theorem wg {b:LI} (hn:n<=65536) (hne:b≠[]) (h3:b.getD 0 0<=3) :
 DEC11 b n=if (RD11 (b.drop 1) n (b.getD 0 0).toNat).2≠0 then ([],(RD11 (b.drop 1) n (b.getD 0 0).toNat).2) else
  if (ENC11 (RD11 (b.drop 1) n (b.getD 0 0).toNat).1).1=b then ((RD11 (b.drop 1) n (b.getD 0 0).toNat).1,0) else ([],3):=by
 unfold DEC11;rw[if_neg (by omega),if_neg hne,if_neg (by omega),Int.toNat_natCast]
 have hlb:(b.drop 1).length+1=b.length:=by
  have:=List.length_pos_iff.2 hne;rw[Qm];omega
 rcases yO (ys:=b.drop 1) hn (show (b.getD 0 0).toNat<=3 by omega) with e | ⟨e1,e2,e3⟩
 ·rw[e]
 ·rw[hlb] at e3
  have hx:¬(ENC11 (RD11 (b.drop 1) n (b.getD 0 0).toNat).1).1=b:=λe=>by rw[e] at e3;omega
  rw[e1,if_pos (show (([],3):LI × Int).2≠0 by decide),if_neg (λc=>c e2),if_neg hx]
theorem tO (h:CurAt 146 w R v ys) (hvb:∀k,v.ownBlock=some k->k<w.heap.size) (n:Nat) (hn:n<=65536) :
 Calls prog 263 #[.pointer (some ⟨R,0,none⟩),.int .i64 n] w λe w'=>∃u,e=.returned (.tuple #[u,.int .i64 (rF11 ys n).2])∧w'.ownsRow w.heap.size 29 1 u (rF11 ys n).1.length ((rF11 ys n).1.map (Value.int .u64))∧Only (λk=>k=R) w w':=by
 obtain⟨i0,hi,hz0,hz1,hz2⟩:=info_parts Tryz.infoU64;have hR:R<w.heap.size:=(Array.getElem?_eq_some_iff.1 h.cell).1;have HC:=Qa h;have HVB:=Qa hvb;clear h hvb;go_enter func263,ntmps263;go_wp2
 go_loopw [6,10] (λs i wr=>∃(k:Nat) (v':Value),k<=n∧i=.int .i64 k∧wr.ownsRow w.heap.size 29 1 s k ((rd8 k ys).map (Value.int .u64))∧CurAt 146 wr R v' (ys.drop (8*k))∧v'.ownBlock=v.ownBlock∧8*k<=ys.length∧Only (λk=>k=R) w wr) (λ_ i _=>n - (intOf i).toNat)
 case atStart=>exact⟨0,v,Nat.zero_le _,rfl,Xh,HC.o,rfl,by omega,VG⟩
 case round =>
  obtain⟨k,v',hk,rfl,h1,h2,h7,h8,h5⟩:=hrel;have h0:=Qa h1;have h6:=Qa h5;have hg:=Qa h7
  by_cases hlt:k<n
  ·have dlt:decide ((k:Int)<(n:Int))=true:=by simp;omega
   have FX:=Qa (KG h2 8)
   by_cases hs:(ys.drop (8*k)).length<8
   ·rw[Ox hs] at FX
    have HR:Hid (rF11 ys n=([],2)):=by
     simp only[Hid];unfold rF11;rw[Qm] at hs;rw[if_pos (by omega)]
    clear h1 h2 h7 h5 hs HC;go_wp2_with fail;refine FX.o.mono ?_;rintro e w2 ⟨rfl,v2,_,_,o2⟩;have O2:=Qa (h6.o.trans o2 (λ_ _ e=>e));clear FX o2 h0;go_wp2;go_ret2;rw[HR.o];exact⟨_,rfl,Xh,O2.o⟩
   ·rw[SR (by omega)] at FX
    have h9:8*(k+1)<=ys.length:=by rw[Qm] at hs;omega
    have HST:Hid ((rd8 (k+1) ys).map (Value.int .u64)=(rd8 k ys).map (Value.int .u64)++[.int .u64 ((num ((ys.drop (8*k)).take 8):Nat):Int)]):=by
     simp only[Hid];rw[JO,List.map_append];rfl
    have hd:Hid ((ys.drop (8*k)).drop 8=ys.drop (8*(k+1))):=by
     simp only[Hid];rw[List.drop_drop,Nat.mul_add]
    rw[hd.o] at FX;generalize ((num ((ys.drop (8*k)).take 8):Nat):Int)=x at *;clear h1 h2 h7 h5 hs HC hd;go_wp2_with fail;refine FX.o.mono ?_;rintro e w2 ⟨rfl,v2,h4,hf,o2⟩;have O2:=Qa (h6.o.trans o2 (λ_ _ e=>e));have h3:=o2.own h0.o (λq hq e=>by have:=(h0.o.lt q hq).1;omega);have ha:=Qa h4;have he:=Qa (hf.trans hg.o);have hsz:=O2.o.size;clear FX o2 h0 h6 hg h4 hf;go_wp2_with (at_builtin;refine wpList_append_lies _ rfl _ _ _ rfl w.heap.size 29 i0 (.int .u64 0) 1 8 underlying76 hi hz0 hz1 hz2 rfl (by omega) _ k _ rfl (h3.alloc _) ⟨w2.heap.size,0,none⟩ 1 1 [.int .u64 x] rfl rfl ?c1 ?c2 (by omega) ?c3 ?c4 ?c5 (w2.heap.size+1) (by simp) ?_)
    case c1=>exact cell_one_new _ _ _
    case c2=>intro u hu;simp at hu;subst hu;rfl
    case c3=>unfold maxLen;omega
    case c4=>omega
    case c5=>simp;omega
    intro gg cap1 w3 hown1 hgrow hat hg1;have o3:=Qa (((Only.refl (λq=>w.heap.size<=q) w2).alloc _).grown hgrow (λp _ hp=>(h3.lt p hp).1))
    have hb:Hid (w3.ownsRow w.heap.size 29 1 (.slice (some ⟨gg,0,none⟩) (k+1) cap1) (k+1) ((rd8 (k+1) ys).map (Value.int .u64))):=by
     simp only[Hid];rw[HST.o];exact hown1
    clear h3 hown1 hgrow hat;go_wp2
    go_roundw
    case rel =>
     refine⟨k+1,v2,by omega,by go_num,hb.o,ha.o.keep o3.o (by omega) (λq hq e=>?_),he.o,h9,O2.o.trans o3.o (λq hq e=>absurd e (by omega))⟩;rw[he.o] at hq;have:=HVB.o q hq;omega
    case measure=>simp[intOf];omega
  ·obtain rfl:k=n:=by omega
   have dlt:decide ((k:Int)<(k:Int))=false:=by simp
   have HR:Hid (rF11 ys k=(rd8 k ys,0)):=by
    simp only[Hid];unfold rF11;rw[if_neg (by omega)]
   clear h1 h2 h7 h5 HC;go_wp2;go_ret2;rw[HR.o];refine⟨_,rfl,?_,h6.o⟩;rw[Wt];exact h0.o
theorem yV (ys:LI):Q7 ys.length ys=(ys,ys.length,0):=by
 unfold Q7;rw[if_neg (by omega),if_neg (by omega)];simp
theorem Pa (h:CurAt 146 w R v ys) :
 Calls prog 261 #[.pointer (some ⟨R,0,none⟩)] w λe w'=>∃u,e=.returned u∧Bs .u8 w' u ys∧Only (λk=>k=R) w w':=by
 have L:=Qa (Vw h);have B:=Wg h ys.length;rw[yV] at B;have B:=Qa B;clear h;go_enter func261,ntmps261;go_wp2_with fail;refine L.o.mono ?_;rintro e w1 ⟨rfl,rfl⟩;clear L;go_wp2_with fail;refine B.o.mono ?_;rintro e w2 ⟨u,rfl,bs,_,_,v2,_,_,o2⟩;have F:=Qa (Vz bs o2);obtain⟨f1,c1,e1⟩:=bs.len;subst e1;clear B bs o2;go_wp2;go_ret;exact⟨_,rfl,F.o⟩
theorem A4 (h:CurAt 146 w R v ys) (hvb:∀k,v.ownBlock=some k->k<w.heap.size) (n:Nat) (hn:n<=65536) :
 Calls prog 247 #[.pointer (some ⟨R,0,none⟩),.int .i64 n,.int .i64 0] w λe w'=>∃u,e=.returned (.tuple #[u,.int .i64 (rF11 ys n).2])∧w'.ownsRow w.heap.size 29 1 u (rF11 ys n).1.length ((rF11 ys n).1.map (Value.int .u64))∧Only (λk=>k=R) w w':=by
 have A:=Qa (tO h hvb n hn);clear h hvb hn;generalize rF11 ys n=X at *;obtain⟨X1,X2⟩:=X;simp only at A ⊢;go_enter func247,ntmps247;go_wp2_with fail;refine A.o.mono ?_;rintro e w1 ⟨u,rfl,h0,o1⟩;have F:=Qa (Vz h0 o1);clear A h0 o1;go_wp2;go_ret2;exact⟨u,rfl,F.o.1,F.o.2⟩
theorem Od (h:CurAt 146 w R v ys) (n:Nat) (hn:n<=65536) :
 Calls prog 247 #[.pointer (some ⟨R,0,none⟩),.int .i64 n,.int .i64 1] w λe w'=>∃u,e=.returned (.tuple #[u,.int .i64 (RD11 ys n 1).2])∧w'.ownsRow w.heap.size 29 1 u (RD11 ys n 1).1.length ((RD11 ys n 1).1.map (Value.int .u64))∧Only (λk=>k=R) w w':=by
 have FX:=Qa (KG h 8);rw[Gw]
 by_cases hs:ys.length<8
 ·rw[Ox hs] at FX
  rw[if_pos hs];clear h hs;go_enter func247,ntmps247;go_wp2_with fail;refine FX.o.mono ?_;rintro e w1 ⟨rfl,v2,_,_,o1⟩;have O1:=Qa o1;clear FX o1;go_wp2;go_ret2;exact⟨_,rfl,Xh,O1.o⟩
 ·rw[SR (by omega)] at FX
  rw[if_neg hs];generalize ((num (ys.take 8):Nat):Int)=x at *;clear h hs;obtain⟨G,hG⟩:=EX (List.replicate n x);rw[<-hG];have HG:=Qa hG;clear hG;go_enter func247,ntmps247;go_wp2_with fail;refine FX.o.mono ?_;rintro e w1 ⟨rfl,v2,_,_,o1⟩;have O1:=Qa o1;have RP:=Qa (lk w1.heap.size x n (w1.alloc (.cells #[.int .u64 x] 29)) (Boxed.new w1 29 (.int .u64 x)).cell hn);clear FX o1;go_wp2_with fail;refine RP.o.mono ?_;rintro e w2 ⟨u,rfl,h0,o2⟩
  have F:Hid (w2.ownsRow w.heap.size 29 1 u G.length (G.map (Value.int .u64))∧Only (λk=>k=R) w w2):=by
   simp only[Hid];rw[HG.o,List.length_replicate];have hsz:=O1.o.size;exact⟨Qr h0 (by simp;omega),O1.o.trans (T:=λ_=>False) (((Only.refl _ w1).alloc _).same o2) (λ_ _ f=>f.elim)⟩
  clear RP h0 o2 O1;go_wp2;go_ret2;exact⟨u,rfl,F.o.1,F.o.2⟩
theorem xI (h:CurAt 146 w R v ys) (hl:ys.length<=1000000000) (n:Nat) :
 Calls prog 247 #[.pointer (some ⟨R,0,none⟩),.int .i64 n,.int .i64 2] w λe w'=>∃u,e=.returned (.tuple #[u,.int .i64 (DEC10 ys n).2])∧w'.ownsRow w.heap.size 29 1 u (DEC10 ys n).1.length ((DEC10 ys n).1.map (Value.int .u64))∧Only (λk=>k=R) w w':=by
 have HR:=Qa h.rng;have A:=Qa (Pa h);obtain⟨X,hX⟩:=EX (DEC10 ys n);rw[<-hX];obtain⟨X1,X2⟩:=X;have HX:=Qa hX;clear h hX;go_enter func247,ntmps247;go_wp2_with fail;refine A.o.mono ?_;rintro e w1 ⟨u1,rfl,b1,o1⟩;have B:=Qa (jf u1 ys n w1 b1 HR.o hl);have O1:=Qa o1;obtain⟨f1,c1,e1⟩:=b1.len;subst e1;clear A b1 o1;rw[<-HX.o] at B;simp only at B;obtain⟨q,hq⟩:=EX ys.length;rw[<-hq] at B ⊢;clear hq hl;go_wp2_with fail;refine B.o.mono ?_;rintro e w2 ⟨u,rfl,h0,o2⟩;have F:=Qa (Vz (Qr h0 O1.o.size) (O1.o.trans (T:=λ_=>False) o2 (λ_ _ f=>f.elim)));clear B h0 o2 O1;go_wp2;go_ret2;exact⟨u,rfl,F.o.1,F.o.2⟩
theorem zP (h:CurAt 146 w R v ys) (hl:ys.length<=1000000000) (hT:Tab w) (hR0:0<R) (n:Nat) :
 Calls prog 247 #[.pointer (some ⟨R,0,none⟩),.int .i64 n,.int .i64 3] w λe w'=>∃u,e=.returned (.tuple #[u,.int .i64 (DEC9 ys n).2])∧w'.ownsRow w.heap.size 29 1 u (DEC9 ys n).1.length ((DEC9 ys n).1.map (Value.int .u64))∧Only (λk=>k=R) w w':=by
 have HR:=Qa h.rng;have A:=Qa (Pa h);have HT:=Qa hT;obtain⟨X,hX⟩:=EX (DEC9 ys n);rw[<-hX];obtain⟨X1,X2⟩:=X;have HX:=Qa hX;clear h hT hX;go_enter func247,ntmps247;go_wp2_with fail;refine A.o.mono ?_;rintro e w1 ⟨u1,rfl,b1,o1⟩;have B:=Qa (Ih u1 ys n w1 b1 HR.o hl (HT.o.keep o1 (by omega)));have O1:=Qa o1;obtain⟨f1,c1,e1⟩:=b1.len;subst e1;clear A b1 o1;rw[<-HX.o] at B;simp only at B;obtain⟨q,hq⟩:=EX ys.length;rw[<-hq] at B ⊢;clear hq hl;go_wp2_with fail;refine B.o.mono ?_;rintro e w2 ⟨u,rfl,h0,o2⟩;have F:=Qa (Vz (Qr h0 O1.o.size) (O1.o.trans (T:=λ_=>False) o2 (λ_ _ f=>f.elim)));clear B h0 o2 O1;go_wp2;go_ret2;exact⟨u,rfl,F.o.1,F.o.2⟩
theorem uo (h:CurAt 146 w R v ys) (hvb:∀k,v.ownBlock=some k->k<w.heap.size) (hl:ys.length<=1000000000) (hT:Tab w) (hR0:0<R) (n t:Nat) (hn:n<=65536) (ht:t<=3) :
 Calls prog 247 #[.pointer (some ⟨R,0,none⟩),.int .i64 n,.int .i64 t] w λe w'=>∃u,e=.returned (.tuple #[u,.int .i64 (RD11 ys n t).2])∧w'.ownsRow w.heap.size 29 1 u (RD11 ys n t).1.length ((RD11 ys n t).1.map (Value.int .u64))∧Only (λk=>k=R) w w':=by
 rcases WW ht with rfl | rfl | rfl | rfl
 ·exact A4 h hvb n hn
 ·exact Od h n hn
 ·exact xI h hl n
 ·exact zP h hl hT hR0 n
theorem xz (v:Value) (n:Int) (w:World) (h:n<0∨65536<n):Calls prog 225 #[v,.int .i64 n] w λe w'=>e=.returned (.tuple #[.slice none 0 0,.int .i64 1])∧w=w':=by
 by_cases h0:n<0
 ·have d0:decide (n<0)=true:=Qe h0
  clear h h0;go_enter func225,ntmps225;go_wp2;go_ret2;exact⟨rfl,rfl⟩
 ·have d0:decide (n<0)=false:=Qi h0
  have d1:decide (65536<n)=true:=Qe (by omega);clear h h0;go_enter func225,ntmps225;go_wp2;go_ret2;exact⟨rfl,rfl⟩
theorem yG:sByte []=(0,0,2):=rfl
theorem M0 {b:LI} (h:b≠[]):sByte b=(b.getD 0 0,1,0):=by
 unfold sByte;rw[if_neg (by have:=List.length_pos_iff.2 h;omega)]
theorem Oz (v:Value) (n:Nat) (w:World) (h:Bs .u8 w v []) (hn:n<=65536):Calls prog 225 #[v,.int .i64 n] w λe w'=>e=.returned (.tuple #[.slice none 0 0,.int .i64 2])∧N0 w w':=by
 have d0:decide ((n:Int)<0)=false:=by simp
 have d1:decide (65536<(n:Int))=false:=by simp;omega
 have NR:=Qa (Uu v [] w h (by simp) (by simp));clear h hn;go_enter func225,ntmps225;go_wp2_with fail;refine NR.o.mono ?_;rintro e w1 ⟨R,v1,rfl,r1,o1,g1,g2,g3⟩;have B:=Ur r1;rw[yG] at B;have B:=Qa B;have O1:=Qa o1;clear NR r1 o1 g3;go_wp2_with fail;refine B.o.mono ?_;rintro e w2 ⟨rfl,v2,_,_,o2⟩;have O2:=Qa (O1.o.trans o2 (λk hk e=>by omega));clear B O1 o2;go_wp2;go_ret2;exact⟨rfl,O2.o⟩
theorem E9 (v:Value) (b:LI) (n:Nat) (w:World) (h:Bs .u8 w v b) (hr:∀y∈b,0<=y∧y<=255) (hl:b.length<=1000000000) (hn:n<=65536) (hne:b≠[]) (h3:3<b.getD 0 0):Calls prog 225 #[v,.int .i64 n] w λe w'=>e=.returned (.tuple #[.slice none 0 0,.int .i64 3])∧N0 w w':=by
 have d0:decide ((n:Int)<0)=false:=by simp
 have d1:decide (65536<(n:Int))=false:=by simp;omega
 have NR:=Qa (Uu v b w h hr (by omega));have HS:=Qa (M0 hne);obtain⟨x,hx⟩:=EX (b.getD 0 0);rw[<-hx] at HS h3
 have hb:x<=255:=by rw[hx];exact (hr _ (Xv hne)).2
 clear h hn hr hx;go_enter func225,ntmps225;go_wp2_with fail;refine NR.o.mono ?_;rintro e w1 ⟨R,v1,rfl,r1,o1,g1,g2,g3⟩;have B:=Ur r1;rw[HS.o] at B;have B:=Qa B;have O1:=Qa o1;clear NR r1 o1 g3;go_wp2_with fail;refine B.o.mono ?_;rintro e w2 ⟨rfl,v2,_,_,o2⟩;have O2:=Qa (O1.o.trans o2 (λk hk e=>by omega));have T:=Qa (P9 x w2 (.inr h3));clear B O1 o2;go_wp2_with fail;refine T.o.mono ?_;rintro e w3 ⟨rfl,rfl⟩;clear T;go_wp2;go_ret2;exact⟨rfl,O2.o⟩
theorem yY (v:Value) (b:LI) (n:Nat) (w:World) (h:Bs .u8 w v b) (hr:∀y∈b,0<=y∧y<=255) (hl:b.length<=1000000000) (hT:Tab w) (hn:n<=65536) (hne:b≠[]) (h3:b.getD 0 0<=3) :
 Calls prog 225 #[v,.int .i64 n] w λe w'=>∃u,e=.returned (.tuple #[u,.int .i64 (DEC11 b n).2])∧w'.ownsRow w.heap.size 29 1 u (DEC11 b n).1.length ((DEC11 b n).1.map (Value.int .u64))∧N0 w w':=by
 obtain⟨D,hD⟩:=EX (DEC11 b n);rw[<-hD];rw[wg hn hne h3] at hD
 have d0:decide ((n:Int)<0)=false:=by simp
 have d1:decide (65536<(n:Int))=false:=by simp;omega
 have NR:=Qa (Uu v b w h hr (by omega));have HS:=Qa (M0 hne);have hb0:=(hr _ (Xv hne)).1;obtain⟨t,ht⟩:=EX ((b.getD 0 0).toNat)
 have hx:b.getD 0 0=(t:Int):=by omega
 rw[<-ht] at hD;rw[hx] at HS
 have h8:t<=3:=by omega
 have HL:=Qa hl;have HT:=Qa hT;have HB:=Qa h;have HR:=Qa hr;have HU:=Qa (tM (ys:=b.drop 1) (n:=n) (λy hy=>hr y (List.mem_of_mem_drop hy)) h8);have HD:=Qa hD;have hw0:=hT.pos;clear h hr hl hT hD hx ht hb0 h3 hne;go_enter func225,ntmps225;go_wp2_with fail;refine NR.o.mono ?_;rintro e w1 ⟨R,v1,rfl,r1,o1,g1,g2,g3⟩;have BY:=Ur r1;rw[HS.o] at BY;have BY:=Qa BY;have O1:=Qa o1;have G3:=Qa g3;clear NR r1 o1 g3 HS;go_wp2_with fail;refine BY.o.mono ?_;rintro e w2 ⟨rfl,v2,r2,h7,o2⟩;have O2:=Qa (O1.o.trans o2 (λk hk e=>by omega));have S2:=O2.o.size;have hs12:=o2.size;have TG:=Qa (Kv (t:Int) w2 (by omega) (by omega));have RA:=Qa (uo r2 (λk hk=>by rw[h7] at hk;have:=(G3.o k hk).2;omega) (by have:=HL.o;rw[Qm];omega) (HT.o.past O2.o) (by omega) n t hn h8);clear BY O1 o2 r2 h7 G3;go_wp2_with fail;refine TG.o.mono ?_;rintro e w3 ⟨rfl,rfl⟩;clear TG;go_wp2_with fail;refine RA.o.mono ?_;rintro e w4 ⟨u,rfl,h2,o4⟩;have B4:=Qa ((O2.o.low Zu).trans (o4.below (B:=w.heap.size) S2 (λk e=>by omega)));have h4:=Qa (Qr h2 S2);clear RA o4 O2 h2
 by_cases hb:(RD11 (b.drop 1) n t).2≠0
 ·have h0:Hid (D=([],(RD11 (b.drop 1) n t).2)):=by simp only[Hid];rw[HD.o,if_pos hb]
  have dc:((RD11 (b.drop 1) n t).2 != 0)=true:=by simpa using hb
  obtain⟨c,hc⟩:=EX ((RD11 (b.drop 1) n t).2);rw[<-hc] at h0 dc ⊢;clear HD hb hc;go_wp2;go_ret2;have hD:=h0.o;subst hD;exact⟨_,rfl,Xh,YW B4.o⟩
 ·have hz:(RD11 (b.drop 1) n t).2=0:=by simpa using hb
  rw[hz];obtain⟨L,hL⟩:=EX ((RD11 (b.drop 1) n t).1)
  have h0:Hid (D=if (ENC11 L).1=b then (L,0) else ([],3)):=by simp only[Hid];rw[HD.o,if_neg hb,<-hL]
  rw[<-hL] at h4 HU;have EN:=Qa (Dk u L w4 (Bs.of_own h4.o) HU.o (HT.o.below B4.o hw0));clear HD hb hz hL;obtain⟨a6,c6,e6⟩:=(Bs.of_own h4.o).len;subst e6;obtain⟨m,hm⟩:=EX L.length;rw[<-hm] at EN ⊢;have HM:=Qa hm;clear hm;go_wp2_with fail;refine EN.o.mono ?_;rintro e w5 ⟨v3,rfl,h1,o3⟩;have EQ:=Qa (U1 v3 v (ENC11 L).1 b w5 (Bs.of_own h1) ((HB.o.later B4.o).past o3) (TQ L) HR.o);have O3:=Qa ((YW B4.o).same o3);have OW3:=Qa (o3.own h4.o (λ_ _ f=>f));obtain⟨a7,c7,e7⟩:=(Bs.of_own h1).len;subst e7;clear EN h1 o3 h4;generalize (ENC11 L).2=EC at *;generalize (ENC11 L).1=E at *
  by_cases he:E=b
  ·rw[Qe he] at EQ
   have hD:=h0.o;rw[if_pos he] at hD;clear h0 he;have h6:=Qa hD;clear hD;obtain⟨m2,h5⟩:=EX E.length;rw[<-h5] at EQ ⊢;clear h5;go_wp2_with fail;refine EQ.o.mono ?_;rintro e w6 ⟨rfl,rfl⟩;clear EQ;go_wp2;go_ret2;have hD:=h6.o;subst hD;exact⟨_,rfl,by have:=OW3.o;rw[HM.o];exact this,O3.o⟩
  ·rw[Qi he] at EQ
   have hD:=h0.o;rw[if_neg he] at hD;clear h0 he;have h6:=Qa hD;clear hD;obtain⟨m2,h5⟩:=EX E.length;rw[<-h5] at EQ ⊢;clear h5;go_wp2_with fail;refine EQ.o.mono ?_;rintro e w6 ⟨rfl,rfl⟩;clear EQ;go_wp2;go_ret2;have hD:=h6.o;subst hD;exact⟨_,rfl,Xh,O3.o⟩
theorem vP (v:Value) (b:LI) (n:Int) (w:World) (h:Bs .u8 w v b) (hr:∀y∈b,0<=y∧y<=255) (hl:b.length<=1000000000) (hT:Tab w) :
 Calls prog 225 #[v,.int .i64 n] w λe w'=>∃u,e=.returned (.tuple #[u,.int .i64 (DEC11 b n).2])∧w'.ownsRow w.heap.size 29 1 u (DEC11 b n).1.length ((DEC11 b n).1.map (Value.int .u64))∧N0 w w':=by
 by_cases hn:n<0∨65536<n
 ·have e:DEC11 b n=([],1):=if_pos hn
  rw[e];refine (xz v n w hn).mono ?_;rintro e w' ⟨rfl,rfl⟩;exact⟨_,rfl,Xh,VG⟩
 ·obtain⟨N,rfl⟩:=Int.eq_ofNat_of_zero_le (show 0<=n by omega)
  by_cases hne:b=[]
  ·subst hne
   have e:DEC11 [] N=([],2):=by unfold DEC11;rw[if_neg hn,if_pos rfl]
   rw[e];refine (Oz v N w h (by omega)).mono ?_;rintro e w' ⟨rfl,o⟩;exact⟨_,rfl,Xh,o⟩
  ·by_cases h3:3<b.getD 0 0
   ·have e:DEC11 b N=([],3):=by unfold DEC11;rw[if_neg hn,if_neg hne,if_pos h3]
    rw[e];refine (E9 v b N w h hr hl (by omega) hne h3).mono ?_;rintro e w' ⟨rfl,o⟩;exact⟨_,rfl,Xh,o⟩
   ·exact yY v b N w h hr hl hT (by omega) hne (by omega)
section
attribute [local go_sem ↓] Go.wp_at_zero Go.wp_at_succ
def RP (w:World) (R:Nat) (D:(LI × List (Int × Int)) × Int):Ending->World->Prop:=λe w' =>
 ((D.2=0∧∃u,e=.returned (.agg #[.string (strOfNums D.1.1),u])∧w'.ownsRow w.heap.size 60 2 u D.1.2.length (QO D.1.2))∨(D.2≠0∧e=pan D.2))∧Only (λk=>k=R) w w'
theorem RP.no {D:(LI × List (Int × Int)) × Int} {c:Int} (h:D=(QM,c)) (hc:c≠0) (o:Only (λk=>k=R) w w'):RP w R D (.panicked [{ v:=.iface 26 (.int .i64 c),recovered:=false }]) w':=by
 subst h;exact⟨.inr ⟨hc,rfl⟩,o⟩
theorem RP.yes {D:(LI × List (Int × Int)) × Int} {tn:LI} {s:List (Int × Int)} {u:Value} (h:D=((tn,s),0)) (ho:w'.ownsRow w.heap.size 60 2 u s.length (QO s)) (o:Only (λk=>k=R) w w'):RP w R D (.returned (.agg #[.string (strOfNums tn),u])) w':=by
 subst h;exact⟨.inl ⟨rfl,u,rfl,ho⟩,o⟩
theorem ja {c:Int} (h:Qp 64 ys=([],0,c)) (hc:c≠0):C1 DEC8 DEC11 ys=(QM,c):=by unfold C1;rw[h,if_pos (by simpa using hc)]
theorem C1_ok {ys tn:LI} (h:Qp 64 ys=(tn,k,0)):C1 DEC8 DEC11 ys=C2 DEC8 DEC11 tn (ys.drop k):=by unfold C1;rw[h,if_neg (by simp)]
theorem Fe {tn ys:LI} {c:Int} (h:Qd ys=(0,0,c)) (hc:c≠0):C2 DEC8 DEC11 tn ys=(QM,c):=by unfold C2;rw[h,if_pos (by simpa using hc)]
theorem pL {tn ys:LI} (h:Qd ys=((n:Int),k,0)) (hn:65536<n):C2 DEC8 DEC11 tn ys=(QM,4):=by unfold C2;rw[h,if_neg (by simp),if_pos (by simp only;omega)]
theorem C2_ok {tn ys:LI} (h:Qd ys=((n:Int),k,0)) (hn:n<=65536):C2 DEC8 DEC11 tn ys=C3 DEC8 DEC11 tn n (ys.drop k):=by unfold C2;rw[h,if_neg (by simp),if_neg (by simp only;omega)]
theorem vu {tn ys:LI} {n c:Int} (h:Qp (MOST n) ys=([],0,c)) (hc:c≠0):C3 DEC8 DEC11 tn n ys=(QM,c):=by unfold C3;rw[h,if_pos (by simpa using hc)]
theorem C3_ok {tn ys ti:LI} {n:Int} (h:Qp (MOST n) ys=(ti,k,0)):C3 DEC8 DEC11 tn n ys=C4 DEC8 DEC11 tn n ti (ys.drop k):=by unfold C3;rw[h,if_neg (by simp)]
theorem pS {tn ti ys:LI} {n c:Int} (h:Qp (MOST n) ys=([],0,c)) (hc:c≠0):C4 DEC8 DEC11 tn n ti ys=(QM,c):=by unfold C4;rw[h,if_pos (by simpa using hc)]
theorem C4_ok {tn ti ys va:LI} {n:Int} (h:Qp (MOST n) ys=(va,k,0)):C4 DEC8 DEC11 tn n ti ys=C5 DEC8 DEC11 tn n ti va (ys.drop k):=by unfold C4;rw[h,if_neg (by simp)]
theorem BZ {tn ti va r:LI} {n:Int} (h:r≠[]):C5 DEC8 DEC11 tn n ti va r=(QM,3):=by unfold C5;rw[if_pos h]
theorem C5_d8 {tn ti va:LI} {n:Int} (h:(DEC8 ti n).2≠0):C5 DEC8 DEC11 tn n ti va []=(QM,(DEC8 ti n).2):=by unfold C5;rw[if_neg (by simp),if_pos h]
theorem yC {tn ti va:LI} {n:Int} (h:(DEC8 ti n).2=0) (h':(DEC11 va n).2≠0):C5 DEC8 DEC11 tn n ti va []=(QM,(DEC11 va n).2):=by unfold C5;rw[if_neg (by simp),if_neg (by rw[h];simp),if_pos h']
theorem pW {tn ti va:LI} {n:Int} (h:(DEC8 ti n).2=0) (h':(DEC11 va n).2=0):C5 DEC8 DEC11 tn n ti va []=((tn,(DEC8 ti n).1.zip (DEC11 va n).1),0):=by unfold C5;rw[if_neg (by simp),if_neg (by rw[h];simp),if_neg (by rw[h'];simp)]
theorem kU {y:Int} {r:LI} (h:y≠1):DECC (y :: r)=(QM,3):=by unfold DECC DEC12;rw[if_neg (List.cons_ne_nil _ _),List.getD_cons_zero,if_pos h]
theorem kZ {r:LI}:DECC (1 :: r)=C1 DEC8 DEC11 r:=by unfold DECC DEC12;rw[if_neg (List.cons_ne_nil _ _),List.getD_cons_zero,if_neg (by simp)];rfl
theorem JN {b t ys:LI} (hr:∀y∈ys,0<=y∧y<=255) (e:ys=blk b++t):∀y∈b,0<=y∧y<=255:=λy hy=>hr y (by rw[e];unfold blk;simp[hy])
theorem kY {xs zs:LI} (h:xs.length=zs.length):(xs.zip zs).map Prod.fst=xs:=List.map_fst_zip (by omega)
theorem xA {xs zs:LI} (h:xs.length=zs.length):(xs.zip zs).map Prod.snd=zs:=List.map_snd_zip (by omega)
theorem Tryz.sizeCh:(prog.info? 46).map (·.size)=some 2:=by kernel_rfl
theorem tW (h:CurAt 146 w R v ys) (hvb:∀k,v.ownBlock=some k->k<w.heap.size) (hl:ys.length<=1000000000) (hT:Tab w) (hR0:0<R) (hRl:R<w.heap.size) :
 Calls prog 192 #[.pointer (some ⟨R,0,none⟩)] w (RP w R (DECC ys)):=by
 obtain⟨D,hD⟩:=EX (DECC ys);rw[<-hD];have HD:=Qa hD;obtain⟨K,hK⟩:=EX (RP w R D);rw[<-hK];have HK:=Qa hK;clear hD hK
 have BY:Hid (∀W,N0 w W->Calls prog 216 #[.pointer (some ⟨R,0,none⟩)] W λe w'=>e=.returned (.tuple #[.int .u8 (sByte ys).1,.int .i64 (sByte ys).2.2]) ∧
  ∃v2,CurAt 146 w' R v2 (ys.drop (sByte ys).2.1)∧v2.ownBlock=v.ownBlock∧Only (λk=>k=R) W w'):=by
  intro W o;refine (Ur (h.keep o (λf=>f) (λ_ _ f=>f))).mono ?_;rintro e w' ⟨rfl,v2,c2,e2,o2⟩;exact⟨rfl,v2,c2,e2,o2⟩
 have HT:=Qa hT;have HVB:=Qa hvb;have HY:=Qa h.rng;have HL:=Qa hl;clear h hvb hl hT
 cases ys with
 | nil =>
  have e0:sByte []=(0,0,2):=rfl;rw[e0] at BY;have ED:Hid (D=(QM,2)):=HD.o;clear HD;go_enter func192,ntmps192;go_wp2_with fail;refine (BY.o _ (VG.alloc _)).mono ?_;rintro e w1 ⟨rfl,v2,_,_,o1⟩;have O1:=Qa (((Only.refl (λk=>k=R) w).alloc _).trans o1 (λ_ _ e=>e));clear o1 BY;go_wp2_with fail;refine (gC _ 2 w1 (by omega)).mono ?_;rintro e w' ⟨rfl,rfl⟩;unfold pan;go_wp2;exact⟨rfl,by rw[HK.o];exact RP.no ED.o (by omega) O1.o⟩
 | cons y r =>
  have e0:sByte (y :: r)=(y,1,0):=by simp[sByte]
  rw[e0] at BY;simp only[List.drop_succ_cons,List.drop_zero] at BY;have hy:=HY.o y (by simp)
  have HR:Hid (∀z∈r,0<=z∧z<=255):=λz hz=>HY.o z (by simp[hz])
  have hx:Hid (r.length<=1000000000):=by have:=HL.o;simp only[Hid,Qk] at *;omega
  clear HL HY
  by_cases hy1:y≠1
  ·have hd:(y != 1)=true:=by simpa using hy1
   have ED:Hid (D=(QM,3)):=by have:=HD.o;simp only[Hid];rw[this,kU hy1]
   clear HD;go_enter func192,ntmps192;go_wp2_with fail;refine (BY.o _ (VG.alloc _)).mono ?_;rintro e w1 ⟨rfl,v2,_,_,o1⟩;have O1:=Qa (((Only.refl (λk=>k=R) w).alloc _).trans o1 (λ_ _ e=>e));clear o1 BY;go_wp2_with fail;refine (Mc _ w1).mono ?_;rintro e w' ⟨rfl,rfl⟩;go_wp2;exact⟨rfl,by rw[HK.o];exact RP.no ED.o (by omega) O1.o⟩
  ·obtain rfl:y=1:=by simpa using hy1
   have hh:Hid (D=C1 DEC8 DEC11 r):=by have:=HD.o;simp only[Hid];rw[this,kZ]
   clear HD hy1 hy;go_enter func192,ntmps192;go_wp2_with fail;refine (BY.o _ (VG.alloc _)).mono ?_;rintro e w1 ⟨rfl,v2,c2,e2,o1⟩;have BL:=Qa (VK c2 64 (by omega));have O1:=Qa (((Only.refl (λk=>k=R) w).alloc _).trans o1 (λ_ _ e=>e));have RS:=Qa (o1.heap (heap_alloc_new w _) (λe=>by omega));clear o1 BY c2 e2;go_wp2_with fail;refine (Mc _ w1).mono ?_;rintro e w' ⟨rfl,rfl⟩
   rcases Zi (n:=64) HR.o (by omega) (by omega) with ⟨c,eb,hc⟩ | ⟨tn,k1,eb,hl1,hk1,_,er1,_⟩
   ·rw[eb] at BL
    have ED:Hid (D=(QM,c)):=by have:=hh.o;simp only[Hid];rw[this,ja eb (by omega)]
    clear hh eb;go_wp2_with fail;refine BL.o.mono ?_;rintro e w2 ⟨vt,rfl,_,_,_,v3,_,_,o2⟩;have O2:=Qa (O1.o.trans o2 (λ_ _ e=>e));clear o2 BL;go_wp2_with fail;refine (Ha _ c w2 (by omega)).mono ?_;rintro e w' ⟨rfl,rfl⟩;unfold pan;go_wp2;exact⟨rfl,by rw[HK.o];exact RP.no ED.o (by omega) O2.o⟩
   ·rw[eb] at BL
    have h4:Hid (D=C2 DEC8 DEC11 tn (r.drop k1)):=by have:=hh.o;simp only[Hid];rw[this,C1_ok eb]
    have RT:=Qa (JN HR.o er1);have hr:=Qa (GH (k:=k1) HR.o)
    have k7:Hid ((r.drop k1).length<=1000000000):=by have:=hx.o;simp only[Hid,Qm];omega
    clear hh eb er1 HR hx;go_wp2_with fail;refine BL.o.mono ?_;rintro e w2 ⟨vt,rfl,bt,nt,lt,v3,c3,_,o2⟩;have O2:=Qa (O1.o.trans o2 (λ_ _ e=>e));have ka:=Qa (o2.heap RS.o (λe=>by omega));have BT:=Qa bt
    have NT:Hid (∀k,vt.ownBlock=some k->¬k=R):=λk hk e=>by have:=lt k hk;have:=O1.o.size;omega
    have h6:=Qa c3;clear o2 BL bt nt lt c3 O1 RS;generalize r.drop k1=y2 at *;go_wp2_with fail;refine (Jg _ w2).mono ?_;rintro e w' ⟨rfl,rfl⟩
    rcases Ue hr.o with ⟨c,eb,hc⟩ | ⟨n,k2,eb,_,_,_,er2⟩
    ·have ED:Hid (D=(QM,c)):=by have:=h4.o;simp only[Hid];rw[this,Fe eb (by omega)]
     have RC:=Qa (I6 h6.o eb (by omega));clear h4 eb h6;go_wp2_with fail;refine RC.o.mono ?_;rintro e w3 ⟨rfl,o3⟩;have O3:=Qa (O2.o.trans o3 (λ_ _ e=>e));clear o3 RC;unfold pan;go_wp2;exact⟨rfl,by rw[HK.o];exact RP.no ED.o (by omega) O3.o⟩
    by_cases hn:65536<n
    ·have ED:Hid (D=(QM,4)):=by have:=h4.o;simp only[Hid];rw[this,pL eb hn]
     have RC:=Qa (qt h6.o eb hn);clear h4 eb h6 er2;go_wp2_with fail;refine RC.o.mono ?_;rintro e w3 ⟨rfl,o3⟩;have O3:=Qa (O2.o.trans o3 (λ_ _ e=>e));clear o3 RC;unfold pan;go_wp2;exact⟨rfl,by rw[HK.o];exact RP.no ED.o (by omega) O3.o⟩
    have hs:n<=65536:=by omega
    have hf:Hid (D=C3 DEC8 DEC11 tn n (y2.drop k2)):=by have:=h4.o;simp only[Hid];rw[this,C2_ok eb hs]
    have RC:=Qa (pz h6.o eb hs);have hj:=Qa (GH (k:=k2) hr.o)
    have kc:Hid ((y2.drop k2).length<=1000000000):=by have:=k7.o;simp only[Hid,Qm] at *;omega
    clear h4 eb h6 er2 hr k7 hn;go_wp2_with fail;refine RC.o.mono ?_;rintro e w3 ⟨rfl,v4,c4,_,o3⟩;have hM:=J2 hs;have O3:=Qa (O2.o.trans o3 (λ_ _ e=>e));have k0:=Qa (o3.heap ka.o (λe=>by omega));have ht:=Qa (BT.o.keep o3 NT.o);generalize y2.drop k2=y3 at *;have BL:=Qa (VK c4 (MOST n) (by omega));clear o3 RC c4 ka BT O2;go_wp2_with fail;refine (LT n _).mono ?_;rintro e w' ⟨rfl,rfl⟩;have k8:=Qa hM
    rcases Zi (n:=MOST n) hj.o (by omega) (by omega) with ⟨c,eb,hc⟩ | ⟨ti,k3,eb,hl3,hk3,_,er3,_⟩
    ·rw[eb] at BL
     have ED:Hid (D=(QM,c)):=by have:=hf.o;simp only[Hid];rw[this,vu eb (by omega)]
     clear hf eb hM;go_wp2_with fail;refine BL.o.mono ?_;rintro e w4 ⟨vi,rfl,_,_,_,v5,_,_,o4⟩;have O4:=Qa (O3.o.trans o4 (λ_ _ e=>e));clear o4 BL;go_wp2_with fail;refine (Ha _ c w4 (by omega)).mono ?_;rintro e w' ⟨rfl,rfl⟩;unfold pan;go_wp2;exact⟨rfl,by rw[HK.o];exact RP.no ED.o (by omega) O4.o⟩
    rw[eb] at BL
    have he:Hid (D=C4 DEC8 DEC11 tn n ti (y3.drop k3)):=by have:=hf.o;simp only[Hid];rw[this,C3_ok eb]
    have k5:=Qa (JN hj.o er3);have hp:=Qa (GH (k:=k3) hj.o)
    have HL4:Hid ((y3.drop k3).length<=1000000000):=by have:=kc.o;simp only[Hid,Qm] at *;omega
    have HLI:Hid (ti.length<=1000000):=by simp only[Hid];omega
    clear hf eb er3 hj kc hM hl3 hk3;go_wp2_with fail;refine BL.o.mono ?_;rintro e w4 ⟨vi,rfl,bi,ni,li,v5,c5,_,o4⟩;have O4:=Qa (O3.o.trans o4 (λ_ _ e=>e));have k9:=Qa (o4.heap k0.o (λe=>by omega));have kg:=Qa (ht.o.keep o4 NT.o);have BI:=Qa bi
    have NI:Hid (∀k,vi.ownBlock=some k->¬k=R):=λk hk e=>by have:=li k hk;have:=O3.o.size;omega
    generalize y3.drop k3=y4 at *;have h7:=Qa (VK c5 (MOST n) (by have:=k8.o;omega));clear o4 BL bi ni li c5 k0 ht O3;go_wp2_with fail;refine (Jg _ w4).mono ?_;rintro e w' ⟨rfl,rfl⟩;go_wp2_with fail;refine (LT n _).mono ?_;rintro e w' ⟨rfl,rfl⟩;have hM:=k8.o
    rcases Zi (n:=MOST n) hp.o (by omega) (by omega) with ⟨c,eb,hc⟩ | ⟨va,k4,eb,hl4,hk4,_,er4,_⟩
    ·rw[eb] at h7
     have ED:Hid (D=(QM,c)):=by have:=he.o;simp only[Hid];rw[this,pS eb (by omega)]
     clear he eb hM;go_wp2_with fail;refine h7.o.mono ?_;rintro e w5 ⟨vv,rfl,_,_,_,v6,_,_,o5⟩;have O5:=Qa (O4.o.trans o5 (λ_ _ e=>e));clear o5 h7;go_wp2_with fail;refine (Ha _ c w5 (by omega)).mono ?_;rintro e w' ⟨rfl,rfl⟩;unfold pan;go_wp2;exact⟨rfl,by rw[HK.o];exact RP.no ED.o (by omega) O5.o⟩
    rw[eb] at h7
    have h3:Hid (D=C5 DEC8 DEC11 tn n ti va (y4.drop k4)):=by have:=he.o;simp only[Hid];rw[this,C4_ok eb]
    have hw:=Qa (JN hp.o er4)
    have HLV:Hid (va.length<=1000000):=by simp only[Hid];omega
    clear he eb er4 hp HL4 hM hl4 hk4;go_wp2_with fail;refine h7.o.mono ?_;rintro e w5 ⟨vv,rfl,bv,nv,lv,v6,c6,_,o5⟩;have O5:=Qa (O4.o.trans o5 (λ_ _ e=>e));have ki:=Qa (o5.heap k9.o (λe=>by omega));have kj:=Qa (kg.o.keep o5 NT.o);have kf:=Qa (BI.o.keep o5 NI.o);have BV:=Qa bv;have T5:=Qa (HT.o.keep O5.o (λe=>by omega));generalize y4.drop k4=y5 at *;have EN:=Qa (GC c6);clear o5 h7 bv nv lv c6 k9 kg BI O4;go_wp2_with fail;refine (Jg _ w5).mono ?_;rintro e w' ⟨rfl,rfl⟩;go_wp2_with fail;refine EN.o.mono ?_;rintro e w' ⟨rfl,rfl⟩
    by_cases h5:y5≠[]
    ·have ED:Hid (D=(QM,3)):=by have:=h3.o;simp only[Hid];rw[this,BZ h5]
     have ev:endV y5=3:=by unfold endV;rw[if_pos (by cases y5 with | nil=>exact absurd rfl h5 | cons a b=>simp)]
     rw[ev];clear h3 EN;go_wp2_with fail;refine (KU 3 w5 (by omega)).mono ?_;rintro e w' ⟨rfl,rfl⟩;unfold pan;go_wp2;exact⟨rfl,by rw[HK.o];exact RP.no ED.o (by omega) O5.o⟩
    obtain rfl:y5=[]:=Classical.not_not.1 h5;have ev:endV []=0:=rfl;rw[ev];clear EN h5 ev;go_wp2_with fail;refine (Vd w5).mono ?_;rintro e w' ⟨rfl,rfl⟩;have E8:=Qa (pr vi ti n w5 kf.o k5.o (by have:=HLI.o;omega))
    by_cases h8:(DEC8 ti n).2≠0
    ·have ED:Hid (D=(QM,(DEC8 ti n).2)):=by have:=h3.o;simp only[Hid];rw[this,C5_d8 h8]
     clear h3;generalize (DEC8 ti n).2=c at *;go_wp2_with fail;refine E8.o.mono ?_;rintro e w6 ⟨u8,rfl,_,o6⟩;have O6:=Qa (O5.o.trans o6 (λ_ _ f=>f.elim));clear o6 E8;go_wp2_with fail;refine (pd _ c w6 h8).mono ?_;rintro e w' ⟨rfl,rfl⟩;unfold pan;go_wp2;exact⟨rfl,by rw[HK.o];exact RP.no ED.o h8 O6.o⟩
    have hg:(DEC8 ti n).2=0:=Classical.not_not.1 h8;have K8:=Qa (Ap k5.o hg);rw[hg] at E8;have H8:=Qa hg;clear h8 hg;go_wp2_with fail;refine E8.o.mono ?_;rintro e w6 ⟨u8,rfl,h9,o6⟩;have O6:=Qa (O5.o.trans o6 (λ_ _ f=>f.elim));have hu:=Qa (o6.heap ki.o (λf=>f));have ke:=Qa (kj.o.past o6);have BX:=Qa (Bs.of_own h9);have ha:=Qa (vP vv va n w6 (BV.o.past o6) hw.o (by have:=HLV.o;omega) (T5.o.past o6));clear o6 E8 h9 ki kj O5 kf BV T5;go_wp2_with fail;refine (tb _ w6).mono ?_;rintro e w' ⟨rfl,rfl⟩
    by_cases h11:(DEC11 va n).2≠0
    ·have ED:Hid (D=(QM,(DEC11 va n).2)):=by have:=h3.o;simp only[Hid];rw[this,yC H8.o h11]
     clear h3;generalize (DEC11 va n).2=c at *;go_wp2_with fail;refine ha.o.mono ?_;rintro e w7 ⟨kd,rfl,_,o7⟩;have O7:=Qa (O6.o.trans o7 (λ_ _ f=>f.elim));clear o7 ha;go_wp2_with fail;refine (uz _ c w7 h11).mono ?_;rintro e w' ⟨rfl,rfl⟩;unfold pan;go_wp2;exact⟨rfl,by rw[HK.o];exact RP.no ED.o h11 O7.o⟩
    have h0:(DEC11 va n).2=0:=Classical.not_not.1 h11;have k6:=Qa (Ll hw.o h0)
    have ED:Hid (D=((tn,(DEC8 ti n).1.zip (DEC11 va n).1),0)):=by have:=h3.o;simp only[Hid];rw[this,pW H8.o h0]
    rw[h0] at ha;clear h11 h0 h3;go_wp2_with fail;refine ha.o.mono ?_;rintro e w7 ⟨kd,rfl,h2,o7⟩;have O7:=Qa (O6.o.trans o7 (λ_ _ f=>f.elim));have ho:=o7.heap hu.o (λf=>f);have hq:=Qa (ke.o.past o7)
    have hm:(DEC8 ti n).1.length=(DEC11 va n).1.length:=by have:=K8.o.2.2.1;have:=k6.o.2.2.1;omega
    have od:N0 w7 w7.drew:=VG.drew;have TG:=Qa (qp u8 kd ((DEC8 ti n).1.zip (DEC11 va n).1) w7.drew (by rw[kY hm];exact (BX.o.past o7).past od) (by rw[xA hm];exact (Bs.of_own h2).past od) (by have:=K8.o.2.2.1;rw[List.length_zip];omega));have HX:=Qa hm;clear o7 ha h2 od hm hu ke O6 BX K8 k6 H8;generalize (DEC8 ti n).1.zip (DEC11 va n).1=s at *;go_wp2_with fail;refine (gU _ w7).mono ?_;rintro e w' ⟨rfl,rfl⟩;have hB:=Qs ho;obtain⟨q1,q2,q3,q4⟩:=hB;have cv7:(convert 23 9 vt).run prog w7=.ok (.string (strOfNums tn)) w7:=ZJ w7 vt tn hq.o;have cv7d:(convert 23 9 vt).run prog w7.drew=.ok (.string (strOfNums tn)) w7.drew:=ZJ w7.drew vt tn (hq.o.past VG.drew);have hv:=Qa ho;clear ho;go_wp2_with fail
    go_region_with (first|(go_at_call 226;refine TG.o.mono ?_;rintro e w8 ⟨u,rfl,h1,kh⟩;have o8:=Only.same ((Only.refl (λ_=>False) w7).drew) kh;clear kh;(obtain⟨au,cu,eu⟩:=(Sps.of_own h1).len);subst eu;have cv8:(convert 23 9 vt).run prog w8=.ok (.string (strOfNums tn)) w8:=ZJ w8 vt tn (hq.o.past o8);(obtain⟨p1,p2,p3,p4⟩:=Qs (o8.heap hv.o (λf=>f)))))
    all_goals
     have hBl:w.heap.size<w7.heap.size:=World.block_lt_of_cell? w7 _ q1;have g0:=o8.heap hv.o (λf=>f);have g1:=heap_setCell_same w8 w.heap.size 0 _ _ (Value.string (strOfNums tn)) g0;have g2:=heap_setCell_same _ w.heap.size 1 _ _ (Value.slice au s.length cu) g1;have ob:Only (λk=>k=w.heap.size) w8 ((w8.setCell ⟨w.heap.size,0,none⟩ (Value.string (strOfNums tn))).setCell ⟨w.heap.size,1,none⟩ (Value.slice au s.length cu)):=((Only.refl (λk=>k=w.heap.size) w8).setCell (p:=⟨w.heap.size,0,none⟩) (λ_=>rfl) _).setCell (p:=⟨w.heap.size,1,none⟩) (λ_=>rfl) _;have ow:=ob.own (Qr h1 (show w.heap.size<=w7.drew.heap.size from Nat.le_of_lt hBl)) (λk hk e=>by have:=(h1.lt k hk).1;simp only[World.drew] at this;omega);have oo:Only (λk=>k=R) w ((w8.setCell ⟨w.heap.size,0,none⟩ (Value.string (strOfNums tn))).setCell ⟨w.heap.size,1,none⟩ (Value.slice au s.length cu)):=((O7.o.trans o8 (λ_ _ f=>f.elim)).setCell (p:=⟨w.heap.size,0,none⟩) (λhb=>absurd hb (Nat.lt_irrefl _)) _).setCell (p:=⟨w.heap.size,1,none⟩) (λhb=>absurd hb (Nat.lt_irrefl _)) _
     have FIN:Hid (K (.returned (.agg #[.string (strOfNums tn),.slice au s.length cu])) ((w8.setCell ⟨w.heap.size,0,none⟩ (Value.string (strOfNums tn))).setCell ⟨w.heap.size,1,none⟩ (Value.slice au s.length cu))):=by
      simp only[Hid];rw[HK.o];exact RP.yes ED.o ow oo
     have G2:=Qa g2;clear g0 g1 g2 ob ow oo h1 o8;go_wp2;exact bodyPost_ret (results_cell_row rfl _ _ w.heap.size 46 _ (0,0) _ rfl G2.o underlying46 rfl Tryz.sizeCh) rfl FIN.o
end
theorem tC (p q:Nat) (w:World) :
 CallsD prog 191 #[.pointer (some ⟨p,0,none⟩),.pointer (some ⟨q,0,none⟩)] .returning w λe u' w'=>e=.returned (.tuple #[])∧u'=.returning∧w=w':=by
 refine callsD_of_wpS func191 rfl λc₀ cs hu=>?_
 apply wpS_seq
 apply wpS_region
 simp[wpOpsS,go_sem,recoverD,hu,ntmps191,Exit.thenS];refine wpS_of_wp ?_;go_wp2
 cases c₀
 simp_all [bodyPostS,results,Tryz.results191]
theorem wo (p q:Nat) (c:Int) (older:List PanicEntry) (w:World) (x0 x1 y:Value) (h0:w.cell? ⟨p,0,none⟩=some x0) (h1:w.cell? ⟨p,1,none⟩=some x1) (hq:w.cell? ⟨q,0,none⟩=some y)
 (f0:w.frozen? ⟨p,0,none⟩=false) (f1:w.frozen? ⟨p,1,none⟩=false) (fq:w.frozen? ⟨q,0,none⟩=false) (hpq:¬p=q) :
 CallsD prog 191 #[.pointer (some ⟨p,0,none⟩),.pointer (some ⟨q,0,none⟩)] (.panicking ({ v:=.iface 26 (.int .i64 c),recovered:=false } :: older)) w λe u' w' =>
  e=.returned (.tuple #[])∧u'=.panicking ({ v:=.iface 26 (.int .i64 c),recovered:=true } :: older)∧w'=((w.setCell ⟨p,0,none⟩ (.string ⟨#[]⟩)).setCell ⟨p,1,none⟩ (.slice none 0 0)).setCell ⟨q,0,none⟩ (.int .i64 c):=by
 have hta:∀(W:World),(Instr.typeAssert (.iface 26 (.int .i64 c)) 20 26 true).run prog W=.ok (.tuple #[.int .i64 c,.bool true]) W:=λ_=>by kernel_rfl
 have hqp:¬q=p:=λe=>hpq e.symm
 refine callsD_of_wpS func191 rfl λc₀ cs hu=>?_
 apply wpS_seq
 apply wpS_region
 simp[wpOpsS,go_sem,recoverD,hu,ntmps191,Exit.thenS];refine wpS_of_wp ?_;go_wp2;simp[bodyPostS,results,Tryz.results191]
theorem Ms {b:Nat} {x0 x1 z0 y0 y1 z1:Value} {T U:TypeId} (h:W.heap[b]? = some (.cells #[x0,x1] T (0,0))) (h':W.heap[b+1]? = some (.cells #[z0] U (0,0))) :
 (((W.setCell ⟨b,0,none⟩ y0).setCell ⟨b,1,none⟩ y1).setCell ⟨b+1,0,none⟩ z1).heap[b]? = some (.cells #[y0,y1] T (0,0))∧(((W.setCell ⟨b,0,none⟩ y0).setCell ⟨b,1,none⟩ y1).setCell ⟨b+1,0,none⟩ z1).heap[b+1]? = some (.cells #[z1] U (0,0)):=by
 have g1:=heap_setCell_same W b 0 _ _ y0 h;have g2:=heap_setCell_same _ b 1 _ _ y1 g1;have o1:Only (λk=>k=b) W ((W.setCell ⟨b,0,none⟩ y0).setCell ⟨b,1,none⟩ y1):=((Only.refl (λk=>k=b) W).setCell (p:=⟨b,0,none⟩) (λ_=>rfl) _).setCell (p:=⟨b,1,none⟩) (λ_=>rfl) _;have g3:=o1.heap h' (λe=>by omega);have o2:Only (λk=>k=b+1) ((W.setCell ⟨b,0,none⟩ y0).setCell ⟨b,1,none⟩ y1) (((W.setCell ⟨b,0,none⟩ y0).setCell ⟨b,1,none⟩ y1).setCell ⟨b+1,0,none⟩ z1):=(Only.refl (λk=>k=b+1) _).setCell (p:=⟨b+1,0,none⟩) (λ_=>rfl) _;exact⟨o2.heap (by simpa using g2) (λe=>by omega),by have:=heap_setCell_same _ (b+1) 0 _ _ z1 g3;simpa using this⟩
theorem Ar (v:Value) (ys:LI) (w:World) (h:Bs .u8 w v ys) (hr:∀y∈ys,0<=y∧y<=255) (hl:ys.length<=1000000000) (hT:Tab w) :
 Calls prog 143 #[v] w λe w'=>∃u,e=.returned (.tuple #[.agg #[.string (strOfNums (DECC ys).1.1),u],.int .i64 (DECC ys).2])∧w'.ownsRow w.heap.size 60 2 u (DECC ys).1.2.length (QO (DECC ys).1.2)∧N0 w w':=by
 have hmf:∀(fn:Fn) (first cap:Array Value) (w:World),(Instr.makeFunc fn first cap).run prog w=.ok (.func fn first cap) w:=λ_ _ _ _=>rfl
 have NW:Hid (∀W,N0 w W->Calls prog 59 #[v] W λe w'=>∃R v',e=.returned (.pointer (some ⟨R,0,none⟩))∧CurAt 146 w' R v' ys∧N0 W w'∧W.heap.size<=R∧R<w'.heap.size∧(∀k,v'.ownBlock=some k->W.heap.size<=k∧k<w'.heap.size)) :=
  λW o=>Uu v ys W (h.past o) hr (by omega)
 have HT:=Qa hT;have h3:=Qa hl;have hw0:=hT.pos;obtain⟨D,hD⟩:=EX (DECC ys)
 have HE:Hid (D.2≠0->D.1=QM):=by simp only[Hid];rw[hD];exact rC
 have HD:=Qa hD;rw[<-hD];clear h hr hT hl hD
 go_enter_defers func143,ntmps143
 go_wp2_with fail;refine (NW.o _ ((VG.alloc _).alloc _)).mono ?_;rintro e w1 ⟨R,v',rfl,c1,o1,h4,hR2,h2⟩
 have hR1':w.heap.size+2<=R:=by simpa using h4
 have g0:=o1.heap (Y0 (o:=.cells #[.int .i64 0] 26) (heap_alloc_new w (.cells #[.string ⟨#[]⟩,.slice none 0 0] 46))) (λf=>f);have g1:=o1.heap (YH (W:=w.alloc (.cells #[.string ⟨#[]⟩,.slice none 0 0] 46)) (o:=.cells #[.int .i64 0] 26) (k:=w.heap.size+1) (by simp)) (λf=>f);have oo:N0 w w1:=Only.same ((VG.alloc _).alloc _) o1;have RD:=Qa (tW c1 (λk hk=>(h2 k hk).2) h3.o (HT.o.past oo) (by omega) hR2);rw[<-HD.o] at RD;have O1:=Qa oo;have G0:=Qa g0;have G1:=Qa g1;clear c1 o1 h2 g0 g1 oo NW h4 h3;go_wp2_with fail;refine RD.o.mono ?_;rintro e w2 ⟨hh,o2⟩;have K0:=o2.heap G0.o (λe=>by omega);have K1:=o2.heap G1.o (λe=>by omega)
 have O2:Hid (N0 w w2):=by
  have s1:=O1.o;exact s1.trans o2 (λk hk e=>by omega)
 clear o2 RD G0 G1
 rcases hh with ⟨hd,u,rfl,ownu⟩ | ⟨hd,rfl⟩
 ·obtain⟨au,cu,eu⟩:=(Sps.of_own ownu).len
  subst eu;obtain⟨q1,q2,q3,q4⟩:=Qs K0;obtain⟨p1,p2⟩:=UE K1;obtain⟨F0,F1⟩:=Ms (y0:=.string (strOfNums D.1.1)) (y1:=.slice au D.1.2.length cu) (z1:=.int .i64 0) K0 K1
  have ob:Only (λk=>k=w.heap.size∨k=w.heap.size+1) w2 (((w2.setCell ⟨w.heap.size,0,none⟩ (.string (strOfNums D.1.1))).setCell ⟨w.heap.size,1,none⟩ (.slice au D.1.2.length cu)).setCell ⟨w.heap.size+1,0,none⟩ (.int .i64 0)) :=
   (((Only.refl (λk=>k=w.heap.size∨k=w.heap.size+1) w2).setCell (p:=⟨w.heap.size,0,none⟩) (λ_=>.inl rfl) _).setCell (p:=⟨w.heap.size,1,none⟩) (λ_=>.inl rfl) _).setCell (p:=⟨w.heap.size+1,0,none⟩) (λ_=>.inr rfl) _
  have ow:=Qa (ob.own (Qr ownu O1.o.size) (λk hk e=>by have:=(ownu.lt k hk).1;omega));have ox:=Qa (O2.o.trans ob (λk hk e=>by omega));have h0:=Qa (Zx F0);have h1:=Qa (Px F1);clear F0 F1 ob ownu K0 K1;go_wp2;refine leaves_cons (f:=191) (args:=#[.pointer (some ⟨w.heap.size,0,none⟩),.pointer (some ⟨w.heap.size+1,0,none⟩)]) (by simp) (by simp[go_sem]) ?_;refine (tC w.heap.size (w.heap.size+1) _).mono ?_;rintro e u' w'' ⟨rfl,rfl,rfl⟩;refine⟨_,Pv Tryz.results143 _ _ rfl rfl h0.o h1.o,?_⟩;exact⟨_,by rw[hd],ow.o,ox.o⟩
 ·have hn:=HE.o hd
  obtain⟨q1,q2,q3,q4⟩:=Qs K0;obtain⟨p1,p2⟩:=UE K1;obtain⟨F0,F1⟩:=Ms (y0:=.string ⟨#[]⟩) (y1:=.slice none 0 0) (z1:=.int .i64 D.2) K0 K1
  have ob:Only (λk=>k=w.heap.size∨k=w.heap.size+1) w2 (((w2.setCell ⟨w.heap.size,0,none⟩ (.string ⟨#[]⟩)).setCell ⟨w.heap.size,1,none⟩ (.slice none 0 0)).setCell ⟨w.heap.size+1,0,none⟩ (.int .i64 D.2)) :=
   (((Only.refl (λk=>k=w.heap.size∨k=w.heap.size+1) w2).setCell (p:=⟨w.heap.size,0,none⟩) (λ_=>.inl rfl) _).setCell (p:=⟨w.heap.size,1,none⟩) (λ_=>.inl rfl) _).setCell (p:=⟨w.heap.size+1,0,none⟩) (λ_=>.inr rfl) _
  have ox:=Qa (O2.o.trans ob (λk hk e=>by omega));have h0:=Qa (Zx F0);have h1:=Qa (Px F1);have CE:=Qa (wo w.heap.size (w.heap.size+1) D.2 [] w2 _ _ _ q1 q2 p1 q3 q4 p2 (by omega));clear F0 F1 ob K0 K1;unfold pan;go_wp2;refine leaves_cons (f:=191) (args:=#[.pointer (some ⟨w.heap.size,0,none⟩),.pointer (some ⟨w.heap.size+1,0,none⟩)]) (by simp) (by simp[go_sem]) ?_;refine CE.o.mono ?_;rintro e u' w'' ⟨rfl,rfl,rfl⟩;refine⟨_,Pv Tryz.results143 _ _ rfl rfl h0.o h1.o,?_⟩;rw[hn];exact⟨_,rfl,Xh,ox.o⟩
theorem jc (t:ByteArray) (s:List (Int × Int)) (vp:Value) (w:World) (h0:Yp (sb t,s)=0) (hg:Gs s) (h:Bs .u8 w vp (PADL (Qy (sb t,s)))) (hT:Tab w) :
 Calls prog 102 #[.agg #[.string t,.int .i64 (QR (Qy (sb t,s)).length:Int)],vp] w λe w'=>∃u,e=.returned (.tuple #[.agg #[.string t,u],.int .i64 0])∧w'.ownsRow w.heap.size 60 2 u s.length (QO s)∧N0 w w':=by
 obtain⟨q1,q2,q3,q4⟩:=Ze h0;have g:CG (sb t,s):=⟨Vk t,hg⟩;have b8:U8 (Qy (sb t,s)):=Xo g;have p8:U8 (PADL (Qy (sb t,s))):=ZF b8
 have pl:(PADL (Qy (sb t,s))).length<=4194304:=by rw[K9 _ q4];exact Zl _
 have hD:DECC (Qy (sb t,s))=((sb t,s),0):=Bh q1 q2 hg;obtain⟨b,hb⟩:=EX (Qy (sb t,s));rw[<-hb] at b8 p8 pl hD h q4 ⊢;have U:=Qa (λW (o:N0 w W)=>pK vp _ W (h.past o) p8 (by omega));rw[show Kx (PADL b)=b by unfold Kx;rw[if_pos (Hz b q4),JH b q4],show Ks (PADL b)=0 by unfold Ks;rw[if_pos (Hz b q4)]] at U;have D:=Qa (λW (v:Value) (o:N0 w W) (hv:Bs .u8 W v b)=>Ar v b W hv b8 (by omega) (hT.past o));simp only[hD] at D;rw[of_sb] at D;have K:=Qa (λW=>Z4 (b.length:Int) W);rw[show YK (b.length:Int)=0 by unfold YK;rw[if_neg (by omega),if_neg (by omega)],show UZ (b.length:Int)=QR b.length by unfold UZ;rw[if_pos (by omega)];rfl] at K;obtain⟨m,hm⟩:=EX b.length;obtain⟨n,hn⟩:=EX (QR b.length);rw[<-hn] at K ⊢;rw[<-hm] at K;have HM:=Qa hm;obtain⟨W0,h2⟩:=EX ((w.alloc (.cells #[.string t,.int .i64 (n:Int)] 93)).alloc (.cells #[.string ⟨#[]⟩,.slice none 0 0] 46))
 have o0:N0 w W0:=by rw[h2];exact (VG.alloc _).alloc _
 have ge:W0.heap[w.heap.size]? = some (.cells #[.string t,.int .i64 (n:Int)] 93 (0,0)):=by rw[h2];exact Y0 (heap_alloc_new _ _)
 have gc:W0.heap[w.heap.size+1]? = some (.cells #[.string ⟨#[]⟩,.slice none 0 0] 46 (0,0)):=by rw[h2];exact YH (by simp)
 have U0:=Qa (U.o W0 o0);have G0:=Qa (Vz ge (Vz gc (Vz o0 h2)));clear hn hm hb hD pl p8 b8 g q1 q2 q3 q4 h0 hg h hT U ge gc o0 h2;go_enter func102,ntmps102;go_wp2_with fail;rw[<-G0.o.2.2.2];refine U0.o.mono ?_;rintro e w1 ⟨r,rfl,b1,nc1,lo1,o1⟩;obtain⟨a1,c1,rfl,hc1⟩:=b1.formN (n:=m) HM.o.symm;have D1:=Qa (D.o w1 (.slice a1 m c1) (G0.o.2.2.1.same o1) b1);have H1:=Qa (Vz o1 b1);clear o1 b1 nc1 lo1 hc1 U0 D;go_wp2_with fail;refine D1.o.mono ?_;rintro e w2 ⟨u,rfl,h1,o2⟩;have K2:=Qa (λW=>K.o W);obtain⟨a2,c2,rfl⟩:=(Sps.of_own h1).len;have H2:=Qa (Vz h1 (H1.o.1.same o2));obtain⟨W3,h3⟩:=EX (w2.alloc (.cells #[.string t,.slice a2 s.length c2] 46))
 have o3:N0 w2 W3:=by rw[h3];exact VG.alloc _
 have gn:W3.heap[w2.heap.size]? = some (.cells #[.string t,.slice a2 s.length c2] 46 (0,0)):=by rw[h3];exact heap_alloc_new _ _
 have K3:=Qa (K2.o W3);have H3:=Qa (Vz gn (Vz o3 h3));have HS:=Qa H1.o.1.size;clear h1 o2 D1 H1 K K2 gn o3 h3;go_wp2_with fail;rw[<-H3.o.2.2];refine K3.o.mono ?_;rintro e w4 ⟨rfl,o4⟩;have hld:=Zx (o4.heap H3.o.1 (λf=>f));obtain⟨c0,c1,_,_⟩:=Qs (o4.heap H3.o.1 (λf=>f));have oT:=(H2.o.2.same H3.o.2.1).same o4;obtain⟨d0,d1,_,_⟩:=Qs (oT.heap G0.o.1 (λf=>f));obtain⟨z0,z1,f0,f1⟩:=Qs (oT.heap G0.o.2.1 (λf=>f));obtain⟨g5,o5⟩:=put2 (oT.heap G0.o.2.1 (λf=>f)) (.string t) (.slice a2 s.length c2)
 have h4:W0.heap.size=w.heap.size+2:=by rw[G0.o.2.2.2];simp
 have F:=Qa (Vz (Zx g5) (Vz o5 (Vz h4 (Vz oT o4))));clear K3 o4 oT g5 o5 h4;go_wp2;refine bodyPost_ret (Kz rfl _ _ rfl rfl F.o.1) rfl ⟨_,rfl,?_,?_⟩
 ·refine Qr (F.o.2.1.own (F.o.2.2.2.2.own (H3.o.2.1.own H2.o.1 (λ_ _ f=>f)) (λ_ _ f=>f)) (λk hk e=>Ef H2.o.1 (b:=w.heap.size+1) (by have:=HS.o;have:=F.o.2.2.1;omega) (by rw[hk,e]))) ?_
  ·have:=HS.o;have:=F.o.2.2.1;omega
 ·exact (G0.o.2.2.1.same F.o.2.2.2.1).trans F.o.2.1 (λi hi e=>by omega)
theorem Tryz.sizeEn22:(prog.info? 93).map (·.size)=some 2:=by kernel_rfl
theorem FD {b:Nat} {x y:Value} (h:W.heap[b]? = some (.cells #[x,y] 93 (0,0))):(loadVar 93 ⟨b,0,none⟩).run prog W=.ok (.agg #[x,y]) W :=
 run_loadVar_row W b 93 93 _ (0,0) _ h underlying93 rfl Tryz.sizeEn22
theorem tT (vk vs:Value) (k:LI) (v i:Int) (t:ByteArray) (s:List (Int × Int)) (w:World) (bk:Bs .u8 w vk k) (k8:U8 k) (h0:Ym k i (sb t,s)=0) (hg:Gs s)
 (hs:Bs .u8 w vs (Yd k v i (sb t,s))) (ns:NoCap vs) (hT:Tab w) :
 Calls prog 66 #[vk,.int .u64 v,.int .i64 i,.agg #[.string t,.int .i64 (Ye k i (sb t,s))],vs] w λe w'=>∃u,e=.returned (.tuple #[.agg #[.string t,u],.int .i64 0])∧w'.ownsRow w.heap.size 60 2 u s.length (QO s)∧N0 w w':=by
 obtain⟨hh,hi,hp⟩:=Hm h0;obtain⟨q1,q2,q3,q4⟩:=Ze hp;rw[QX] at q1
 have eT:Yd k v i (sb t,s)=YG (QP k 2 []) (QZ k v i) (Q5 v i (sb t)) (PADL (Qy (sb t,s))):=by unfold Yd;rw[if_pos h0]
 have eB:Ye k i (sb t,s)=(QR (Qy (sb t,s)).length:Int):=by unfold Ye;rw[if_pos h0]
 rw[eB];rw[eT] at hs;have g:CG (sb t,s):=⟨Vk t,hg⟩;have p8:U8 (PADL (Qy (sb t,s))):=ZF (Xo g)
 have pl:(PADL (Qy (sb t,s))).length<=4194304:=by rw[K9 _ q4];exact Zl _
 have hbl:(Q5 v i (sb t)).length<=200:=by have:=Aj (v:=v) (i:=i) (t:=sb t) (by rw[QX];omega);rw[QX] at this;omega
 have hd:U8 (Q5 v i (sb t)):=SW (Vk t);have kn:KN (QP k 2 []) (QZ k v i):=⟨UY _ _ _,Vg _ _ _⟩;have hal:=VJ (QP k 2 []) (QZ k v i) (Q5 v i (sb t)) (PADL (Qy (sb t,s)));have hf:=NL (QP k 2 []) (QZ k v i) (Q5 v i (sb t)) (PADL (Qy (sb t,s))) p8;have ha:=px (QP k 2 []) (QZ k v i) (Q5 v i (sb t)) (PADL (Qy (sb t,s)));have hl:=th (QP k 2 []) (QZ k v i) (Q5 v i (sb t)) (PADL (Qy (sb t,s))) p8;have OP:=Qa (λ(W:World) (a b c:Value) (h1:Bs .u8 W a (QP k 2 [])) (h2:Bs .u8 W b (QZ k v i)) (h3:Bs .u8 W c (Q5 v i (sb t))) (n3:NoCap c) (o:N0 w W)=>xT a b c vs _ _ _ _ (Vf _ _ _) (Ak _ _ _) hd hf (by omega) (by omega) W h1 h2 h3 n3 (hs.past o) ns)
 simp only[show WH (QP k 2 []) (QZ k v i) (Q5 v i (sb t)) (YG (QP k 2 []) (QZ k v i) (Q5 v i (sb t)) (PADL (Qy (sb t,s))))=0 by unfold WH;rw[if_pos kn,if_pos (by omega),if_pos ha],
  show Wo (QP k 2 []) (QZ k v i) (Q5 v i (sb t)) (YG (QP k 2 []) (QZ k v i) (Q5 v i (sb t)) (PADL (Qy (sb t,s))))=PADL (Qy (sb t,s)) by unfold Wo;rw[if_pos kn,if_pos (by omega),if_pos ha,hl]] at OP
 have UN:=Qa (λ(W:World) (x:Value) (o:N0 w W) (h:Bs .u8 W x (PADL (Qy (sb t,s))))=>jc t s x W hp hg h (hT.past o));have BS:=Qa (λW=>Rk v i t hi (by omega) W);obtain⟨n,hn⟩:=EX (QR (Qy (sb t,s)).length);rw[<-hn] at UN ⊢;obtain⟨W0,h8⟩:=EX ((w.alloc (.cells #[.string t,.int .i64 (n:Int)] 93)).alloc (.cells #[.string ⟨#[]⟩,.slice none 0 0] 46))
 have o0:N0 w W0:=by rw[h8];exact (VG.alloc _).alloc _
 have ge:W0.heap[w.heap.size]? = some (.cells #[.string t,.int .i64 (n:Int)] 93 (0,0)):=by rw[h8];exact Y0 (heap_alloc_new _ _)
 have gc:W0.heap[w.heap.size+1]? = some (.cells #[.string ⟨#[]⟩,.slice none 0 0] 46 (0,0)):=by rw[h8];exact YH (by simp)
 have A:=Qa (ND vk k v i k8 W0 (bk.past o0) hh hi);have L:=Qa (Vz (UY k 2 []) (Vg k v i));have G0:=Qa (Vz ge (Vz gc (Vz o0 h8)))
 have d1:decide (64<(t.size:Int))=false:=by simp;omega
 have d2:decide (64<t.size)=false:=by simp;omega
 clear bk k8 h0 hg hs ns hT hh hi hp q1 q2 q3 q4 eT eB g p8 pl hbl hd kn hal hf ha hl hn ge gc o0 h8;generalize QP k 2 []=k1 at *;generalize QZ k v i=k2 at *;generalize Q5 v i (sb t)=X at *;generalize PADL (Qy (sb t,s))=p at *;go_enter func66,ntmps66;go_wp2_with fail;rw[<-G0.o.2.2.2];refine A.o.mono ?_;rintro e w1 ⟨a,b,rfl,h9,h4,o1⟩;have B1:Hid (Bs .u8 w1 a k1∧Bs .u8 w1 b k2):=⟨Bs.of_own (k:=.u8) (E:=5) (lo:=W0.heap.size) (by rw[L.o.1];exact h9),Bs.of_own (k:=.u8) (E:=5) (lo:=W0.heap.size) (by rw[L.o.2];exact h4)⟩;obtain⟨c0,c1,_,_⟩:=Qs (o1.heap G0.o.1 (λf=>f));have hj:=Qa (BS.o w1);have O1:=Qa o1;clear h9 h4 o1 A BS L;go_wp2_with fail;refine hj.o.mono ?_;rintro e w2 ⟨x2,rfl,h5,o2⟩;have hm:=Qa (OP.o w2 a b x2 (B1.o.1.past o2) (B1.o.2.past o2) (Bs.of_own h5) (NoCap.of_own h5) (G0.o.2.2.1.same (O1.o.same o2)));have O2:=Qa (O1.o.same o2);clear h5 o2 hj B1 O1 OP c0 c1;go_wp2_with fail;refine hm.o.mono ?_;rintro e w3 ⟨x3,rfl,h7,o3⟩;have oT:=O2.o.same o3;have he:=Qa (UN.o w3 x3 (G0.o.2.2.1.same oT) (Bs.of_own h7));have hld:=FD (oT.heap G0.o.1 (λf=>f));obtain⟨e0,e1,_,_⟩:=Qs (oT.heap G0.o.1 (λf=>f));have O3:=Qa oT;clear h7 o3 hm O2 UN oT;go_wp2_with fail;refine he.o.mono ?_;rintro e w4 ⟨u,rfl,h6,o4⟩;obtain⟨a4,c4,rfl⟩:=(Sps.of_own h6).len;have oT:=O3.o.same o4;obtain⟨z0,z1,f0,f1⟩:=Qs (oT.heap G0.o.2.1 (λf=>f));obtain⟨g5,o5⟩:=put2 (oT.heap G0.o.2.1 (λf=>f)) (.string t) (.slice a4 s.length c4)
 have hb:W0.heap.size=w.heap.size+2:=by rw[G0.o.2.2.2];simp
 have F:=Qa (Vz (Zx g5) (Vz o5 (Vz hb (Vz oT (Vz h6 O3.o.size)))));clear he o4 oT g5 o5 hb h6 hld e0 e1;go_wp2;refine bodyPost_ret (Kz rfl _ _ rfl rfl F.o.1) rfl ⟨_,rfl,?_,?_⟩
 ·refine Qr (F.o.2.1.own F.o.2.2.2.2.1 (λk hk e=>Ef F.o.2.2.2.2.1 (b:=w.heap.size+1) (by have:=F.o.2.2.2.2.2;have:=F.o.2.2.1;omega) (by rw[hk,e]))) ?_
  have:=F.o.2.2.2.2.2;have:=F.o.2.2.1;omega
 ·exact (G0.o.2.2.1.same F.o.2.2.2.1).trans F.o.2.1 (λi hi e=>by omega)
def YS (s:List (ByteArray × Value)):List Value:=s.flatMap λp=>[.string p.1,p.2]
abbrev KZ:ByteArray × Value:=(⟨#[]⟩,.slice none 0 0)
theorem KT (p:ByteArray × Value) (s:List (ByteArray × Value)):YS (p :: s)=.string p.1 :: p.2 :: YS s:=rfl
theorem Gn (s:List (ByteArray × Value)):(YS s).length=s.length*2:=by
 induction s with
 | nil=>rfl
 | cons p s ih=>rw[KT];simp only[Qk,ih];omega
theorem X0 (s:List (ByteArray × Value)):∀(j:Nat),j<s.length->(YS s)[j*2]? = some (.string (s.getD j KZ).1)∧(YS s)[j*2+1]? = some (s.getD j KZ).2:=by
 induction s with
 | nil=>intro j hj;simp at hj
 | cons p s ih =>
  intro j hj
  cases j with
  | zero=>rw[KT];exact⟨rfl,rfl⟩
  | succ j =>
   have hj':j<s.length:=by simpa using hj
   obtain⟨h0,h1⟩:=ih j hj';rw[KT,show (j+1)*2=j*2+1+1 by omega];simp only[List.getElem?_cons_succ,List.getD_cons_succ];exact⟨h0,h1⟩
theorem qQ (s:List (ByteArray × Value)):∀(j:Nat) (a:ByteArray) (b:Value),j<s.length->((YS s).set (j*2) (.string a)).set (j*2+1) b=YS (s.set j (a,b)):=by
 induction s with
 | nil=>intro j a b h;simp at h
 | cons p s ih =>
  intro j a b h
  cases j with
  | zero=>simp[KT]
  | succ j =>
   have:=ih j a b (by simpa using h);rw[KT,Qo,KT,<-this,show (j+1)*2=j*2+1+1 by omega];simp only[Qo]
theorem zk (n:Nat):YS (List.replicate n KZ)=(madeCells #[Value.string ⟨#[]⟩,Value.slice none 0 0] (n*2)).toList:=by
 unfold madeCells
 apply List.ext_getElem?
 intro i;have hl:=Gn (List.replicate n KZ);rw[List.length_replicate] at hl
 by_cases h:i<n*2
 ·obtain⟨h0,h1⟩:=X0 (List.replicate n KZ) (i / 2) (by simp;omega)
  have hg:(List.replicate n KZ).getD (i / 2) KZ=KZ:=by
   rw[Qc,List.getElem?_replicate];split <;> rfl
  rw[hg] at h0 h1
  rcases Nat.mod_two_eq_zero_or_one i with hm | hm
  ·rw[show i / 2*2=i by omega] at h0
   rw[h0];simp[h,hm]
  ·rw[show i / 2*2+1=i by omega] at h1
   rw[h1];simp[h,hm]
 ·rw[List.getElem?_eq_none (by omega),List.getElem?_eq_none (by simp;omega)]
def CD (w:World) (lo N n k:Nat) (cs:List Qj):Prop :=
 ∃ps:List (ByteArray × Value),ps.length=k∧(∀j p,ps[j]? = some p->p.1=strOfNums (cs.getD j Qw).1∧w.ownsRow lo 60 2 p.2 (cs.getD j Qw).2.length (QO (cs.getD j Qw).2)) ∧
  w.ownsRow N 46 2 (.slice (some ⟨N,0,none⟩) n n) n (YS (ps++List.replicate (n - k) KZ))
theorem CD.past {lo N n k:Nat} {cs:List Qj} (h:CD w lo N n k cs) (o:N0 w w'):CD w' lo N n k cs:=by
 obtain⟨ps,h1,h2,h3⟩:=h;exact⟨ps,h1,λj p hp=>⟨(h2 j p hp).1,o.own (h2 j p hp).2 (λ_ _ f=>f)⟩,o.own h3 (λ_ _ f=>f)⟩
theorem CD.cell {lo N n k:Nat} {cs:List Qj} (h:CD w lo N n k cs) (hk:k<n):w.cell? ⟨N,k*2,none⟩=some (.string ⟨#[]⟩)∧w.cell? ⟨N,k*2+1,none⟩=some (.slice none 0 0)∧w.frozen? ⟨N,k*2,none⟩=false∧w.frozen? ⟨N,k*2+1,none⟩=false:=by
 obtain⟨ps,h1,h2,h3⟩:=h;have ha:=X0 (ps++List.replicate (n - k) KZ) k (by simp;omega)
 have hg:(ps++List.replicate (n - k) KZ).getD k KZ=KZ:=by
  rw[Qc,List.getElem?_append_right (by omega),List.getElem?_replicate];split <;> rfl
 rw[hg] at ha;refine⟨?_,?_,h3.frozenAt _,h3.frozenAt _⟩
 ·rw[World.ownsRow.cellAt h3 (k*2) (by omega),ha.1]
 ·rw[World.ownsRow.cellAt h3 (k*2+1) (by omega),ha.2]
theorem CD.block {lo N n k:Nat} {cs:List Qj} (h:CD w lo N n k cs):∃c,w.heap[N]? = some (.cells c 46):=by
 obtain⟨ps,_,_,h3⟩:=h
 rcases h3.2 with ⟨e,_⟩ | ⟨g,cap,cur,e,_,hg,_⟩
 ·cases e
 ·cases e;exact⟨_,hg⟩
theorem Xi {lo N n j:Nat} {v u:Value} {c:Array Value} {f:Nat × Nat} {xs:List Value} (h:w.ownsRow lo 60 2 v n xs) (hN:w.heap[N]? = some (.cells c 46 f)):(w.setCell ⟨N,j,none⟩ u).ownsRow lo 60 2 v n xs:=by
 refine ownsRow_setCell_other h (λe=>?_) u
 rcases h.2 with ⟨rfl,_⟩ | ⟨g,cap,cur,rfl,_,hg,_⟩
 ·cases e
 ·cases e
  rw[hN] at hg
  cases hg
theorem CD.store {lo N n k:Nat} {cs:List Qj} (h:CD w lo N n k cs) (hk:k<n) {x:Value} {t:ByteArray} (ht:t=strOfNums (cs.getD k Qw).1) (hx:w.ownsRow lo 60 2 x (cs.getD k Qw).2.length (QO (cs.getD k Qw).2)) :
 CD ((w.setCell ⟨N,k*2,none⟩ (.string t)).setCell ⟨N,k*2+1,none⟩ x) lo N n (k+1) cs:=by
 obtain⟨c,hb⟩:=h.block;have h0:=heap_setCell_same w N (k*2) _ _ (.string t) hb;obtain⟨ps,h1,h2,h3⟩:=h;have g1:=(World.ownsRow.stored h3 (k*2) (.string t)).1;have g2:=(g1.stored (k*2+1) x).1;rw[qQ _ _ _ _ (by simp;omega)] at g2;obtain⟨m,hm⟩:∃m,n - k=m+1:=⟨n - k - 1,by omega⟩;rw[hm,List.replicate_succ,List.set_append_right _ _ (by omega),h1,Nat.sub_self,Qn] at g2;refine⟨ps++[(t,x)],by simp[h1],λj p hp=>?_,?_⟩
 ·by_cases hj:j<ps.length
  ·rw[List.getElem?_append_left hj] at hp
   exact⟨(h2 j p hp).1,Xi (Xi (h2 j p hp).2 hb) h0⟩
  ·rw[List.getElem?_append_right (by omega)] at hp
   obtain⟨i,hi⟩:∃i,j=ps.length+i:=⟨j - ps.length,by omega⟩;subst hi;rw[Nat.add_sub_cancel_left] at hp
   cases i with
   | zero =>
    cases hp
    rw[Nat.add_zero,h1];exact⟨ht,Xi (Xi hx hb) h0⟩
   | succ i=>simp at hp
 ·rw[show n - (k+1)=m by omega,List.append_assoc]
  exact g2
theorem vh (w:World) (lo n:Nat) (hn:n<=1000000000) (cs:List Qj):∃wm,(Instr.makeSlice 32 (.int .i64 (n:Int)) (.int .i64 (n:Int))).run prog w=.ok (.slice (some ⟨w.heap.size,0,none⟩) n n) wm∧CD wm lo w.heap.size n 0 cs∧N0 w wm:=by
 obtain⟨i0,hi,hz0,hz1,hz2⟩:=info_parts Tryz.infoCk;obtain⟨wm,hmk,h0,hgr⟩:=run_make_full (P:=prog) w w.heap.size 32 46 i0 (.agg #[.string ⟨#[]⟩,.slice none 0 0]) 2 underlying32 hi hz0 hz1 .i64 .i64 n (by rw[hz2];omega) (by unfold maxLen;omega) (Nat.le_refl _);refine⟨wm,hmk,⟨[],rfl,λj p hp=>by simp at hp,?_⟩,VG.grown hgr (λk _ e=>by cases e)⟩;rw[List.nil_append,Nat.sub_zero,zk];exact h0
theorem CD.chs {lo N n R:Nat} {cs:List Qj} (h:CD w lo N n n cs) (hn:n=cs.length) (hR:R<lo) (hRN:R≠N) (o:Only (λk=>k=R) w w'):Chs w' (.slice (some ⟨N,0,none⟩) n n) cs:=by
 obtain⟨ps,h1,h2,h3⟩:=h;subst hn;rw[Nat.sub_self,List.replicate_zero,List.append_nil] at h3;have h4:=o.own h3 (λk hk e=>hRN (by cases hk;exact e.symm));refine⟨_,_,rfl,Zu,λ_=>⟨N,0,rfl,λj hj=>?_⟩⟩
 have h0:j<ps.length:=by omega
 obtain⟨e1,e2⟩:=h2 j _ (Qh h0);obtain⟨a1,a2⟩:=X0 ps j h0
 have hg:ps.getD j KZ=ps[j]:=by rw[Qc,Qh h0,Option.getD_some]
 rw[hg] at a1 a2;have hl:=Gn ps;refine⟨ps[j].2,?_,?_,Sps.of_own (o.own e2 (λk hk e=>Ef e2 (b:=R) hR (by rw[hk,e])))⟩
 ·rw[Nat.zero_add,World.ownsRow.cellAt h4 (j*2) (by omega),a1,e1]
 ·rw[Nat.zero_add,World.ownsRow.cellAt h4 (j*2+1) (by omega),a2]
theorem YZ {q:Addr} {u:Value} (h:w.cell? q=some u) {S:Nat->Prop} (o:Only S w w') (hs:¬S q.block):w'.cell? q=some u:=by
 rw[<-h];exact World.cell?_of_block (o.block _ (World.block_lt_of_cell? w _ h) hs)
theorem IA (vk:Value) (k:LI) (mm:MAN) (v:Nat) (l:List Qj) (w:World) (bk:Bs .u8 w vk k) (k8:U8 k) (hg:CL l) (hl:l.length<=1048576) (h0:Ya k 0 l=0) (hv:mm.ver=v) (k1:mm.es=Uz k l l.length) (hT:Tab w) :
 Jn vk mm (QI k v l l.length) l w:=by
 intro W x vp ve vr a vs lo oW hm hL own;have hf:=hm.form;obtain⟨n,hn⟩:=EX l.length
 have hr:(QI k v l l.length).length=n:=by rw[VP,hn]
 have hz:mm.es.length=n:=by rw[k1,Vb,hn]
 obtain⟨ap,cp,ep⟩:=hm.prev.len;obtain⟨ae,ce,ee⟩:=hm.es.len;obtain⟨ar,cr,er⟩:=hm.root.len;rw[hr] at own;obtain⟨aa,ca,ea⟩:=QK own;rw[hz] at ee;subst ep ee er hf ea;obtain⟨W0,he⟩:=EX (W.alloc (.cells #[.int .u64 mm.ver,.slice ap mm.prev.length cp,.slice ae n ce,.slice ar mm.root.length cr] 69))
 have o0:N0 W W0:=by rw[he];exact VG.alloc _
 have gm:W0.heap[W.heap.size]? = some (.cells #[.int .u64 mm.ver,.slice ap mm.prev.length cp,.slice ae n ce,.slice ar mm.root.length cr] 69 (0,0)):=by rw[he];exact heap_alloc_new _ _
 obtain⟨wm,ka,k2,om⟩:=vh W0 W.heap.size n (by omega) l;obtain⟨N,hN⟩:=EX W0.heap.size;rw[<-hN] at ka k2
 have k6:W0.heap.size=W.heap.size+1:=by rw[he];simp
 have S0:Hid (CD wm W.heap.size N n 0 l∧N0 W wm):=⟨k2,o0.same om⟩;have GM:=Qa (om.heap gm (λf=>f));have HH:=Qa (Vz (bk.past oW) (Vz k8 (Vz hg (hT.past oW))));have HE:=Qa hm.es;have HL:=Qa (Vz hL own);have HN:=Qa (Vz hn (Vz hN k6));have HS:=Qa (Vz h0 (Vz hv (Vz k1 (Vz hr hz))))
 have hnb:n<=1048576:=by omega
 clear bk k8 hg hl h0 hv k1 hT oW hm hL own hr hz o0 gm k2 om hN k6;subst he;clear hn;go_enter func41,ntmps41;go_wp2
 go_loopw [18] (λi wr=>∃j:Nat,j<=n∧i=.int .i64 j∧Hid (CD wr W.heap.size N n j l∧N0 W wr∧wr.heap[W.heap.size]? = some (.cells #[.int .u64 mm.ver,.slice ap mm.prev.length cp,.slice ae n ce,.slice ar mm.root.length cr] 69 (0,0)))) (λi _=>n - (intOf i).toNat)
 case atStart=>exact⟨0,Nat.zero_le _,rfl,S0.o.1,S0.o.2,GM.o⟩
 case round =>
  obtain⟨j,hj,rfl,hS⟩:=hrel;clear S0 ka GM
  by_cases hlt:j<n
  ·have dlt:decide ((j:Int)<(n:Int))=true:=Qe (by omega)
   have dlt':decide (j<n)=true:=Qe hlt
   have h9:j<l.length:=by rw[<-HN.o.1];exact hlt
   obtain⟨c,hc⟩:=EX (l.getD j Qw);obtain⟨ho,k9,kd⟩:=HH.o.2.2.1.at h9;have k3:=ZY l 0 HS.o.1 j h9;rw[Nat.zero_add] at k3;obtain⟨hs,hq⟩:=JE k3;have hw:=SQ k v l (j:=j) (k:=l.length) h9;have hh:=LF k l (j:=j) (k:=l.length) h9;rw[<-HS.o.2.2.1] at hh;rw[<-hc] at ho k9 kd hs hq hw hh;obtain⟨t,ht⟩:=EX (strOfNums c.1)
   have k0:sb t=c.1:=by rw[ht,sb_of ho.t8]
   have hk:(sb t,c.2)=c:=by rw[k0]
   -- the sealed chunk
   have h8:=hS.o.2.1.own HL.o.2 (λ_ _ f=>f)
   obtain⟨g,rfl,hgW⟩:∃g,aa=some ⟨g,0,none⟩∧g<W.heap.size:=by
    rcases HL.o.2.2 with ⟨e,h⟩ | ⟨g,hp,cur,e,_,hg',_⟩
    ·exact absurd hlt (by omega)
    ·cases e;exact⟨g,rfl,(Array.getElem?_eq_some_iff.1 hg').1⟩
   have hvl:vs.length=n:=by rw[HL.o.1.1,HS.o.2.2.2.1]
   obtain⟨u,hu⟩:∃u,vs[j]? = some u:=⟨_,Qh (by omega)⟩;have sc:=World.ownsRow.cellAt h8 j (by omega);rw[hu] at sc;obtain⟨lu,h3⟩:=HL.o.1.2 j u hu;rw[hw] at h3
   -- its entry
   obtain⟨b,off,hp,ee,h7,h6⟩:=(HE.o.past hS.o.2.1).at j (by rw[HS.o.2.2.2.2];exact hlt);simp only[Value.slice.injEq] at ee;obtain⟨rfl,-,rfl⟩:=ee;obtain⟨b',off',kc,ee,k7,_⟩:=HE.o.at j (by rw[HS.o.2.2.2.2];exact hlt);simp only[Value.slice.injEq,Option.some.injEq,Addr.mk.injEq] at ee
   have hbW:b<W.heap.size:=by
    obtain⟨⟨rfl,rfl,_⟩,_⟩:=ee;exact World.block_lt_of_cell? W _ k7
   rw[hh] at h7 h6;rw[<-ht] at h7;obtain⟨⟨y0,_,y2,_⟩,_⟩:=Yg hS.o.2.2
   have i0:(0:Int)<=(j:Int):=by omega
   have i1:(j:Int)<(n:Int):=by omega
   have TA:=Qa (TV vk k t HH.o.2.1 wr (HH.o.1.past hS.o.2.1));rw[k0,hs] at TA
   have HT8:Hid (U8 (QT k 1 c.1)):=by
    show U8 _
    unfold QT;split
    ·split
     ·exact Vf _ _ _
     ·intro y hy;cases hy
    ·intro y hy;cases hy
   have UN:=Qa (λ(W':World) (x:Value) (o:N0 wr W') (h:Bs .u8 W' x (QH k c))=>tT x u (QH k c) v j t c.2 W' h HT8.o (by rw[hk];exact hq) ho.gs (by rw[hk];exact (Bs.of_own (k:=.u8) (E:=5) h3).past (hS.o.2.1.same o)) (NoCap.of_own h3) (HH.o.2.2.2.past (hS.o.2.1.same o)));rw[hk] at UN;obtain⟨k5,hd⟩:=EX (Ye (QH k c) j c);rw[<-hd] at h6 UN;simp only at h6;obtain⟨vv,k4⟩:∃vv:Int,vv=(v:Int):=⟨_,rfl⟩;rw[<-k4] at UN;rw[show ((mm.ver:Nat):Int)=vv by rw[HS.o.2.1,k4]] at y0
   have hNW:W.heap.size<N:=by have:=HN.o.2;omega
   have KS:Hid (∀W',Only (λk=>k=N) wr W'->W'.cell? ⟨W.heap.size,0,none⟩=some (.int .u64 vv)∧W'.cell? ⟨W.heap.size,2,none⟩=some (.slice (some ⟨b,off,none⟩) n ce)∧W'.cell? ⟨b,off+j*2,none⟩=some (.string t)∧W'.cell? ⟨b,off+j*2+1,none⟩=some (.int .i64 k5)) :=
    λW' o=>⟨YZ y0 o (λe=>by have e':W.heap.size=N:=e;omega),YZ y2 o (λe=>by have e':W.heap.size=N:=e;omega),YZ h7 o (λe=>by have e':b=N:=e;omega),YZ h6 o (λe=>by have e':b=N:=e;omega)⟩
   have H3:=Qa (Vz hS.o.1 (Vz hS.o.2.1 (Vz hS.o.2.2 (Vz hc ht))));clear h9 ho k9 kd k3 hs hq hw hh k0 hk h8 hvl hu h3 ee k7 hd k4 hS hc ht;go_wp2_with fail;refine TA.o.mono ?_;rintro e w3 ⟨x3,rfl,ha,o3⟩;have B3:=Qa (show Bs .u8 w3 x3 (QH k c) from Bs.of_own ha);have O3:=Qa o3;obtain⟨y0,y2,h7,h6⟩:=KS.o w3 (o3.mono (λ_ _ f=>f.elim));clear ha o3 TA sc
   have ck2:((j:Int)*2).toNat=j*2:=by omega
   go_wp2_with fail
   go_region_held3 (λW'=>W'.cell? ⟨W.heap.size,0,none⟩=some (.int .u64 vv)∧W'.cell? ⟨W.heap.size,2,none⟩=some (.slice (some ⟨b,off,none⟩) n ce)∧W'.cell? ⟨b,off+j*2,none⟩=some (.string t)∧W'.cell? ⟨b,off+j*2+1,none⟩=some (.int .i64 k5))
    (first | assumption | exact⟨y0,y2,h7,h6⟩ | exact KS.o _ (O3.o.drew.mono (λ_ _ f=>f.elim)) | exact KS.o _ (O4.o.mono (λ_ _ f=>f.elim)) | exact KS.o _ (((O4.o.mono (T:=λk=>k=N) (λ_ _ f=>f.elim)).setCell (p:=⟨N,j*2,none⟩) (λ_=>rfl) _).setCell (p:=⟨N,j*2+1,none⟩) (λ_=>rfl) _))
    ((go_at_call 66;refine (UN.o _ x3 O3.o.drew (B3.o.past VG.drew)).mono ?_;rintro e w4 ⟨u4,rfl,h5,o4⟩;(obtain⟨a4,c4,e4⟩:=(Sps.of_own h5).len);subst e4;have O4:=Qa (O3.o.drew.same o4);have L4:=Qa (H3.o.1.past O4.o);have h4:=Qa h5;clear h5 o4 UN;obtain⟨z0,z1,z2,z3⟩:=L4.o.cell hlt))
   have hx:W.heap.size<=w3.heap.size:=by have h1:=H3.o.2.1.size;have h2:=O3.o.size;omega
   have hNW2:W.heap.size<=N:=by omega
   have FF:Hid (CD ((w4.setCell ⟨N,j*2,none⟩ (.string t)).setCell ⟨N,j*2+1,none⟩ (.slice a4 c.2.length c4)) W.heap.size N n (j+1) l∧N0 W ((w4.setCell ⟨N,j*2,none⟩ (.string t)).setCell ⟨N,j*2+1,none⟩ (.slice a4 c.2.length c4))∧((w4.setCell ⟨N,j*2,none⟩ (.string t)).setCell ⟨N,j*2+1,none⟩ (.slice a4 c.2.length c4)).heap[W.heap.size]? = some (.cells #[.int .u64 mm.ver,.slice ap mm.prev.length cp,.slice (some ⟨b,off,none⟩) n ce,.slice ar mm.root.length cr] 69 (0,0))):=by
    refine⟨L4.o.store hlt (by rw[H3.o.2.2.2.2,H3.o.2.2.2.1]) (by rw[<-H3.o.2.2.2.1];exact Qr h4.o hx),?_,?_⟩
    ·exact ((H3.o.2.1.same O4.o).setCell (p:=⟨N,j*2,none⟩) (λhb=>by simp only at hb;omega) _).setCell (p:=⟨N,j*2+1,none⟩) (λhb=>by simp only at hb;omega) _
    ·exact (((Only.refl (λk=>k=N) w4).setCell (p:=⟨N,j*2,none⟩) (λ_=>rfl) _).setCell (p:=⟨N,j*2+1,none⟩) (λ_=>rfl) _).heap (O4.o.heap H3.o.2.2.1 (λf=>f)) (λe=>by omega)
   clear h4 L4 O4 z0 z1 z2 z3 KS y0 y2 h7 h6 B3 O3;go_wp2
   go_roundw
   case rel=>exact⟨j+1,by omega,by go_num,FF⟩
   case measure=>simp[intOf];omega
  ·obtain rfl:j=n:=by omega
   have dlt:decide ((j:Int)<(j:Int))=false:=Qi (by omega);have F:=Qa (Vz hS.o.1 hS.o.2.1);clear hS;go_wp2;go_ret2;refine⟨_,rfl,λW' R hR o=>F.o.1.chs HN.o.1 hR (by have:=HN.o.2;omega) o,F.o.2⟩
end Go.Proofs.YtiochaeeoelmjaaGreatDoor
