import Derived.Test.YteciafpneamfaaaGreatDoorG39
namespace Go.Proofs.YteciafpneamfaaaGreatDoor
set_option maxHeartbeats 4000000
set_option maxRecDepth 100000
open Go.RowKit _root_.Go.Proofs.Tryz
variable {w w' W:World} {v:Value} {ys xs l:LI} {R n p k g B:Nat} {P:Program} {ls:List (LI)} {E:TypeId}
theorem DA (h:ys.length<8):QW 8 ys=(0,0,2):=by
 unfold QW;rw[if_neg (by omega),if_pos (by omega)]
theorem Na (h:8<=ys.length):QW 8 ys=((num (ys.take 8):Int),8,0):=by
 unfold QW;rw[if_neg (by omega),if_neg (by omega)]
 rfl
def rF11 (ys:LI) (n:Nat):LI × Int:=if ys.length<8*n then ([],2) else (rd8 n ys,0)
def RD11 (ys:LI) (n tag:Nat):LI × Int :=
 if tag=2 then DEC10 ys n else if tag=3 then DEC9 ys n else
 if tag=1 then (if ys.length<8 then ([],2) else (List.replicate n ((num (ys.take 8):Nat):Int),0)) else rF11 ys n
theorem DG (ys:LI) (n:Nat):RD11 ys n 0=rF11 ys n:=rfl
theorem Gd (ys:LI) (n:Nat):RD11 ys n 1=if ys.length<8 then ([],2) else (List.replicate n ((num (ys.take 8):Nat):Int),0):=rfl
theorem jU (ys:LI) (n:Nat):RD11 ys n 2=DEC10 ys n:=rfl
theorem jY (ys:LI) (n:Nat):RD11 ys n 3=DEC9 ys n:=rfl
theorem wT (hr:∀y∈ys,0<=y∧y<=255):(num (ys.take 8):Int)<=18446744073709551615:=by
 have h1:=Wv (ys.take 8) (λy hy=>hr y (List.mem_of_mem_take hy));have h2:(256:Nat)^(ys.take 8).length<=256^8:=Nat.pow_le_pow_right (by omega) (by rw[Qg];omega)
 have h3:(256:Nat)^8=18446744073709551616:=by decide
 omega
theorem qN {n t:Nat} (hr:∀y∈ys,0<=y∧y<=255) (ht:t<=3):U64 (RD11 ys n t).1:=by
 have nl:U64 []:=λx hx=>by simp at hx
 rcases Wx ht with rfl | rfl | rfl | rfl
 ·rw[DG];unfold rF11
  by_cases c:ys.length<8*n
  ·rw[if_pos c];exact nl
  ·rw[if_neg c];exact KT n ys hr
 ·rw[Gd]
  by_cases c:ys.length<8
  ·rw[if_pos c];exact nl
  ·rw[if_neg c]
   intro x hx;rw[List.eq_of_mem_replicate hx];have:=wT hr;omega
 ·rw[jU]
  by_cases c:(DEC10 ys n).2=0
  ·exact (Pj hr c).2.2.2.1
  ·rw[po c];exact nl
 ·rw[jY]
  by_cases c:(DEC9 ys n).2=0
  ·exact (Th c).2.2.2.1
  ·rw[zE c];exact nl
theorem R11_0 (ys:LI) (n:Nat):Yl ys n 0=if ys.length<8*n then ([],2) else if 8*n<ys.length then ([],3) else (rd8 n ys,0):=rfl
theorem R11_1 (ys:LI) (n:Nat):Yl ys n 1=if ys.length<8 then ([],2) else if 8<ys.length then ([],3) else (List.replicate n ((num (ys.take 8):Nat):Int),0):=rfl
theorem Ep {n t:Nat} (hn:n<=65536) (ht:t<=3):Yl ys n t=RD11 ys n t∨(Yl ys n t=([],3)∧(RD11 ys n t).2=0∧(ENC11 (RD11 ys n t).1).1.length<ys.length+1):=by
 rcases Wx ht with rfl | rfl | rfl | rfl
 ·rw[DG,R11_0,rF11]
  by_cases c:ys.length<8*n
  ·rw[if_pos c,if_pos c];exact .inl rfl
  ·rw[if_neg c,if_neg c]
   by_cases c2:8*n<ys.length
   ·rw[if_pos c2]
    have hl:=(Z7 (l:=rd8 n ys) (by rw[Wo];exact hn)).1;rw[Wo] at hl;exact .inr ⟨rfl,rfl,by simp only;omega⟩
   ·rw[if_neg c2];exact .inl rfl
 ·rw[Gd,R11_1]
  by_cases c:ys.length<8
  ·rw[if_pos c,if_pos c];exact .inl rfl
  ·rw[if_neg c,if_neg c]
   by_cases c2:8<ys.length
   ·rw[if_pos c2]
    generalize ((num (ys.take 8):Nat):Int)=v;refine .inr ⟨rfl,rfl,?_⟩;simp only
    rcases n with _ | n
    ·have hl:=(Z7 (l:=List.replicate 0 v) (by simp)).1
     simp only[List.length_replicate] at hl;omega
    ·have hl:=vL v n (by omega)
     omega
   ·rw[if_neg c2];exact .inl rfl
 ·exact .inl rfl
 ·exact .inl rfl
theorem Ej {b:LI} (hn:n<=65536) (hne:b≠[]) (h3:b.getD 0 0<=3) :
 DEC11 b n=if (RD11 (b.drop 1) n (b.getD 0 0).toNat).2≠0 then ([],(RD11 (b.drop 1) n (b.getD 0 0).toNat).2) else
  if (ENC11 (RD11 (b.drop 1) n (b.getD 0 0).toNat).1).1=b then ((RD11 (b.drop 1) n (b.getD 0 0).toNat).1,0) else ([],3):=by
 unfold DEC11;rw[if_neg (by omega),if_neg hne,if_neg (by omega),Int.toNat_natCast]
 have hlb:(b.drop 1).length+1=b.length:=by
  have:=List.length_pos_iff.2 hne;rw[Qm];omega
 rcases Ep (ys:=b.drop 1) hn (show (b.getD 0 0).toNat<=3 by omega) with e | ⟨e1,e2,e3⟩
 ·rw[e]
 ·rw[hlb] at e3
  have hx:¬(ENC11 (RD11 (b.drop 1) n (b.getD 0 0).toNat).1).1=b:=λe=>by rw[e] at e3;omega
  rw[e1,if_pos (show (([],3):LI × Int).2≠0 by decide),if_neg (λc=>c e2),if_neg hx]
theorem By (h:CurAt 112 w R v ys) (hvb:∀k,v.ownBlock=some k->k<w.heap.size) (n:Nat) (hn:n<=65536) :
 Calls prog 231 #[.pointer (some ⟨R,0,none⟩),.int .i64 n] w λe w'=>∃u,e=.returned (.tuple #[u,.int .i64 (rF11 ys n).2])∧w'.ownsRow w.heap.size 23 1 u (rF11 ys n).1.length ((rF11 ys n).1.map (Value.int .u64))∧Only (λk=>k=R) w w':=by
 obtain⟨i0,hi,hz0,hz1,hz2⟩:=info_parts Tryz.infoU64;have hR:R<w.heap.size:=(Array.getElem?_eq_some_iff.1 h.cell).1;have HC:=Qa h;have HVB:=Qa hvb;clear h hvb;go_enter func231,ntmps231;go_wp2
 go_loopw [6,10] (λs i wr=>∃(k:Nat) (v':Value),k<=n∧i=.int .i64 k∧wr.ownsRow w.heap.size 23 1 s k ((rd8 k ys).map (Value.int .u64))∧CurAt 112 wr R v' (ys.drop (8*k))∧v'.ownBlock=v.ownBlock∧8*k<=ys.length∧Only (λk=>k=R) w wr) (λ_ i _=>n - (intOf i).toNat)
 case atStart=>exact⟨0,v,Nat.zero_le _,rfl,World.ownsRow_nil _ _ _ _,HC.o,rfl,by omega,Only.refl _ _⟩
 case round =>
  obtain⟨k,v',hk,rfl,h2,h1,h7,h8,h5⟩:=hrel;have h0:=Qa h2;have h6:=Qa h5;have hg:=Qa h7
  by_cases hlt:k<n
  ·have dlt:decide ((k:Int)<(n:Int))=true:=by simp;omega
   have FX:=Qa (Ke h1 8)
   by_cases hs:(ys.drop (8*k)).length<8
   ·rw[DA hs] at FX
    have HR:Hid (rF11 ys n=([],2)):=by
     simp only[Hid];unfold rF11;rw[Qm] at hs;rw[if_pos (by omega)]
    clear h2 h1 h7 h5 hs HC;go_wp2_with fail;refine FX.o.mono ?_;rintro e w2 ⟨rfl,v2,_,_,o2⟩;have O2:=Qa (h6.o.trans o2 (λ_ _ e=>e));clear FX o2 h0;go_wp2;go_ret2;rw[HR.o];exact⟨_,rfl,World.ownsRow_nil _ _ _ _,O2.o⟩
   ·rw[Na (by omega)] at FX
    have h9:8*(k+1)<=ys.length:=by rw[Qm] at hs;omega
    have HST:Hid ((rd8 (k+1) ys).map (Value.int .u64)=(rd8 k ys).map (Value.int .u64)++[.int .u64 ((num ((ys.drop (8*k)).take 8):Nat):Int)]):=by
     simp only[Hid];rw[Gh,List.map_append];rfl
    have hd:Hid ((ys.drop (8*k)).drop 8=ys.drop (8*(k+1))):=by
     simp only[Hid];rw[List.drop_drop,Nat.mul_add]
    rw[hd.o] at FX;generalize ((num ((ys.drop (8*k)).take 8):Nat):Int)=x at *;clear h2 h1 h7 h5 hs HC hd;go_wp2_with fail;refine FX.o.mono ?_;rintro e w2 ⟨rfl,v2,h4,hf,o2⟩;have O2:=Qa (h6.o.trans o2 (λ_ _ e=>e));have h3:=o2.own h0.o (λq hq e=>by have:=(h0.o.lt q hq).1;omega);have ha:=Qa h4;have he:=Qa (hf.trans hg.o);have hsz:=O2.o.size;clear FX o2 h0 h6 hg h4 hf;go_wp2_with (at_builtin;refine wpList_append_lies _ rfl _ _ _ rfl w.heap.size 23 i0 (.int .u64 0) 1 8 underlying161 hi hz0 hz1 hz2 rfl (by omega) _ k _ rfl (h3.alloc _) ⟨w2.heap.size,0,none⟩ 1 1 [.int .u64 x] rfl rfl ?c1 ?c2 (by omega) ?c3 ?c4 ?c5 (w2.heap.size+1) (by simp) ?_)
    case c1=>exact cell_one_new _ _ _
    case c2=>intro u hu;simp at hu;subst hu;rfl
    case c3=>unfold maxLen;omega
    case c4=>omega
    case c5=>simp;omega
    intro gg cap1 w3 hown1 hgrow hat hg1;have o3:=Qa (((Only.refl (λq=>w.heap.size<=q) w2).alloc _).grown hgrow (λp _ hp=>(h3.lt p hp).1))
    have hb:Hid (w3.ownsRow w.heap.size 23 1 (.slice (some ⟨gg,0,none⟩) (k+1) cap1) (k+1) ((rd8 (k+1) ys).map (Value.int .u64))):=by
     simp only[Hid];rw[HST.o];exact hown1
    clear h3 hown1 hgrow hat;go_wp2
    go_roundw
    case rel =>
     refine⟨k+1,v2,by omega,by go_num,hb.o,ha.o.keep o3.o (by omega) (λq hq e=>?_),he.o,h9,O2.o.trans o3.o (λq hq e=>absurd e (by omega))⟩;rw[he.o] at hq;have:=HVB.o q hq;omega
    case measure=>simp[intOf];omega
  ·obtain rfl:k=n:=by omega
   have dlt:decide ((k:Int)<(k:Int))=false:=by simp
   have HR:Hid (rF11 ys k=(rd8 k ys,0)):=by
    simp only[Hid];unfold rF11;rw[if_neg (by omega)]
   clear h2 h1 h7 h5 HC;go_wp2;go_ret2;rw[HR.o];refine⟨_,rfl,?_,h6.o⟩;rw[Wo];exact h0.o
theorem yw (ys:LI):Q8 ys.length ys=(ys,ys.length,0):=by
 unfold Q8;rw[if_neg (by omega),if_neg (by omega)];simp
theorem Du (h:CurAt 112 w R v ys) :
 Calls prog 229 #[.pointer (some ⟨R,0,none⟩)] w λe w'=>∃u,e=.returned u∧Bs .u8 w' u ys∧Only (λk=>k=R) w w':=by
 have L:=Qa (Vu h);have B:=Wt h ys.length;rw[yw] at B;have B:=Qa B;clear h;go_enter func229,ntmps229;go_wp2_with fail;refine L.o.mono ?_;rintro e w1 ⟨rfl,rfl⟩;clear L;go_wp2_with fail;refine B.o.mono ?_;rintro e w2 ⟨u,rfl,bs,_,_,v2,_,_,o2⟩;have F:=Qa (And.intro bs o2);obtain⟨f1,c1,e1⟩:=bs.len;subst e1;clear B bs o2;go_wp2;go_ret;exact⟨_,rfl,F.o⟩
theorem zb (h:CurAt 112 w R v ys) (hvb:∀k,v.ownBlock=some k->k<w.heap.size) (n:Nat) (hn:n<=65536) :
 Calls prog 203 #[.pointer (some ⟨R,0,none⟩),.int .i64 n,.int .i64 0] w λe w'=>∃u,e=.returned (.tuple #[u,.int .i64 (rF11 ys n).2])∧w'.ownsRow w.heap.size 23 1 u (rF11 ys n).1.length ((rF11 ys n).1.map (Value.int .u64))∧Only (λk=>k=R) w w':=by
 have A:=Qa (By h hvb n hn);clear h hvb hn;generalize rF11 ys n=X at *;obtain⟨X1,X2⟩:=X;simp only at A ⊢;go_enter func203,ntmps203;go_wp2_with fail;refine A.o.mono ?_;rintro e w1 ⟨u,rfl,h0,o1⟩;have F:=Qa (And.intro h0 o1);clear A h0 o1;go_wp2;go_ret2;exact⟨u,rfl,F.o.1,F.o.2⟩
theorem FT (h:CurAt 112 w R v ys) (n:Nat) (hn:n<=65536) :
 Calls prog 203 #[.pointer (some ⟨R,0,none⟩),.int .i64 n,.int .i64 1] w λe w'=>∃u,e=.returned (.tuple #[u,.int .i64 (RD11 ys n 1).2])∧w'.ownsRow w.heap.size 23 1 u (RD11 ys n 1).1.length ((RD11 ys n 1).1.map (Value.int .u64))∧Only (λk=>k=R) w w':=by
 have FX:=Qa (Ke h 8);rw[Gd]
 by_cases hs:ys.length<8
 ·rw[DA hs] at FX
  rw[if_pos hs];clear h hs;go_enter func203,ntmps203;go_wp2_with fail;refine FX.o.mono ?_;rintro e w1 ⟨rfl,v2,_,_,o1⟩;have O1:=Qa o1;clear FX o1;go_wp2;go_ret2;exact⟨_,rfl,World.ownsRow_nil _ _ _ _,O1.o⟩
 ·rw[Na (by omega)] at FX
  rw[if_neg hs];generalize ((num (ys.take 8):Nat):Int)=x at *;clear h hs;obtain⟨G,hG⟩:=EX (List.replicate n x);rw[<-hG];have HG:=Qa hG;clear hG;go_enter func203,ntmps203;go_wp2_with fail;refine FX.o.mono ?_;rintro e w1 ⟨rfl,v2,_,_,o1⟩;have O1:=Qa o1;have RP:=Qa (uH w1.heap.size x n (w1.alloc (.cells #[.int .u64 x] 23)) (Boxed.new w1 23 (.int .u64 x)).cell hn);clear FX o1;go_wp2_with fail;refine RP.o.mono ?_;rintro e w2 ⟨u,rfl,h0,o2⟩
  have F:Hid (w2.ownsRow w.heap.size 23 1 u G.length (G.map (Value.int .u64))∧Only (λk=>k=R) w w2):=by
   simp only[Hid];rw[HG.o,List.length_replicate];have hsz:=O1.o.size;exact⟨Qr h0 (by simp;omega),O1.o.trans (T:=λ_=>False) (((Only.refl _ w1).alloc _).same o2) (λ_ _ f=>f.elim)⟩
  clear RP h0 o2 O1;go_wp2;go_ret2;exact⟨u,rfl,F.o.1,F.o.2⟩
theorem zf (h:CurAt 112 w R v ys) (hl:ys.length<=1000000000) (n:Nat) :
 Calls prog 203 #[.pointer (some ⟨R,0,none⟩),.int .i64 n,.int .i64 2] w λe w'=>∃u,e=.returned (.tuple #[u,.int .i64 (DEC10 ys n).2])∧w'.ownsRow w.heap.size 23 1 u (DEC10 ys n).1.length ((DEC10 ys n).1.map (Value.int .u64))∧Only (λk=>k=R) w w':=by
 have HR:=Qa h.rng;have A:=Qa (Du h);obtain⟨X,hX⟩:=EX (DEC10 ys n);rw[<-hX];obtain⟨X1,X2⟩:=X;have HX:=Qa hX;clear h hX;go_enter func203,ntmps203;go_wp2_with fail;refine A.o.mono ?_;rintro e w1 ⟨u1,rfl,b1,o1⟩;have B:=Qa (Ek u1 ys n w1 b1 HR.o hl);have O1:=Qa o1;obtain⟨f1,c1,e1⟩:=b1.len;subst e1;clear A b1 o1;rw[<-HX.o] at B;simp only at B;obtain⟨q,hq⟩:=EX ys.length;rw[<-hq] at B ⊢;clear hq hl;go_wp2_with fail;refine B.o.mono ?_;rintro e w2 ⟨u,rfl,h0,o2⟩;have F:=Qa (And.intro (Qr h0 O1.o.size) (O1.o.trans (T:=λ_=>False) o2 (λ_ _ f=>f.elim)));clear B h0 o2 O1;go_wp2;go_ret2;exact⟨u,rfl,F.o.1,F.o.2⟩
theorem FE (h:CurAt 112 w R v ys) (hl:ys.length<=1000000000) (hT:Tab w) (hR0:0<R) (n:Nat) :
 Calls prog 203 #[.pointer (some ⟨R,0,none⟩),.int .i64 n,.int .i64 3] w λe w'=>∃u,e=.returned (.tuple #[u,.int .i64 (DEC9 ys n).2])∧w'.ownsRow w.heap.size 23 1 u (DEC9 ys n).1.length ((DEC9 ys n).1.map (Value.int .u64))∧Only (λk=>k=R) w w':=by
 have HR:=Qa h.rng;have A:=Qa (Du h);have HT:=Qa hT;obtain⟨X,hX⟩:=EX (DEC9 ys n);rw[<-hX];obtain⟨X1,X2⟩:=X;have HX:=Qa hX;clear h hT hX;go_enter func203,ntmps203;go_wp2_with fail;refine A.o.mono ?_;rintro e w1 ⟨u1,rfl,b1,o1⟩;have B:=Qa (qo u1 ys n w1 b1 HR.o hl (HT.o.keep o1 (by omega)));have O1:=Qa o1;obtain⟨f1,c1,e1⟩:=b1.len;subst e1;clear A b1 o1;rw[<-HX.o] at B;simp only at B;obtain⟨q,hq⟩:=EX ys.length;rw[<-hq] at B ⊢;clear hq hl;go_wp2_with fail;refine B.o.mono ?_;rintro e w2 ⟨u,rfl,h0,o2⟩;have F:=Qa (And.intro (Qr h0 O1.o.size) (O1.o.trans (T:=λ_=>False) o2 (λ_ _ f=>f.elim)));clear B h0 o2 O1;go_wp2;go_ret2;exact⟨u,rfl,F.o.1,F.o.2⟩
theorem vu (h:CurAt 112 w R v ys) (hvb:∀k,v.ownBlock=some k->k<w.heap.size) (hl:ys.length<=1000000000) (hT:Tab w) (hR0:0<R) (n t:Nat) (hn:n<=65536) (ht:t<=3) :
 Calls prog 203 #[.pointer (some ⟨R,0,none⟩),.int .i64 n,.int .i64 t] w λe w'=>∃u,e=.returned (.tuple #[u,.int .i64 (RD11 ys n t).2])∧w'.ownsRow w.heap.size 23 1 u (RD11 ys n t).1.length ((RD11 ys n t).1.map (Value.int .u64))∧Only (λk=>k=R) w w':=by
 rcases Wx ht with rfl | rfl | rfl | rfl
 ·exact zb h hvb n hn
 ·exact FT h n hn
 ·exact zf h hl n
 ·exact FE h hl hT hR0 n
theorem vY (v:Value) (n:Int) (w:World) (h:n<0∨65536<n):Calls prog 173 #[v,.int .i64 n] w λe w'=>e=.returned (.tuple #[.slice none 0 0,.int .i64 1])∧w=w':=by
 by_cases h0:n<0
 ·have d0:decide (n<0)=true:=Qc h0
  clear h h0;go_enter func173,ntmps173;go_wp2;go_ret2;exact⟨rfl,rfl⟩
 ·have d0:decide (n<0)=false:=Qh h0
  have d1:decide (65536<n)=true:=Qc (by omega);clear h h0;go_enter func173,ntmps173;go_wp2;go_ret2;exact⟨rfl,rfl⟩
theorem Ok:sByte []=(0,0,2):=rfl
theorem M0 {b:LI} (h:b≠[]):sByte b=(b.getD 0 0,1,0):=by
 unfold sByte;rw[if_neg (by have:=List.length_pos_iff.2 h;omega)]
theorem Im (v:Value) (n:Nat) (w:World) (h:Bs .u8 w v []) (hn:n<=65536):Calls prog 173 #[v,.int .i64 n] w λe w'=>e=.returned (.tuple #[.slice none 0 0,.int .i64 2])∧N0 w w':=by
 have d0:decide ((n:Int)<0)=false:=by simp
 have d1:decide (65536<(n:Int))=false:=by simp;omega
 have NR:=Qa (Ut v [] w h (by simp) (by simp));clear h hn;go_enter func173,ntmps173;go_wp2_with fail;refine NR.o.mono ?_;rintro e w1 ⟨R,v1,rfl,r1,o1,g1,g2,g3⟩;have B:=Us r1;rw[Ok] at B;have B:=Qa B;have O1:=Qa o1;clear NR r1 o1 g3;go_wp2_with fail;refine B.o.mono ?_;rintro e w2 ⟨rfl,v2,_,_,o2⟩;have O2:=Qa (O1.o.trans o2 (λk hk e=>by omega));clear B O1 o2;go_wp2;go_ret2;exact⟨rfl,O2.o⟩
theorem CQ (v:Value) (b:LI) (n:Nat) (w:World) (h:Bs .u8 w v b) (hr:∀y∈b,0<=y∧y<=255) (hl:b.length<=1000000000) (hn:n<=65536) (hne:b≠[]) (h3:3<b.getD 0 0):Calls prog 173 #[v,.int .i64 n] w λe w'=>e=.returned (.tuple #[.slice none 0 0,.int .i64 3])∧N0 w w':=by
 have d0:decide ((n:Int)<0)=false:=by simp
 have d1:decide (65536<(n:Int))=false:=by simp;omega
 have NR:=Qa (Ut v b w h hr (by omega));have HS:=Qa (M0 hne);obtain⟨x,hx⟩:=EX (b.getD 0 0);rw[<-hx] at HS h3
 have hb:x<=255:=by rw[hx];exact (hr _ (ZY hne)).2
 clear h hn hr hx;go_enter func173,ntmps173;go_wp2_with fail;refine NR.o.mono ?_;rintro e w1 ⟨R,v1,rfl,r1,o1,g1,g2,g3⟩;have B:=Us r1;rw[HS.o] at B;have B:=Qa B;have O1:=Qa o1;clear NR r1 o1 g3;go_wp2_with fail;refine B.o.mono ?_;rintro e w2 ⟨rfl,v2,_,_,o2⟩;have O2:=Qa (O1.o.trans o2 (λk hk e=>by omega));have T:=Qa (LR x w2 (.inr h3));clear B O1 o2;go_wp2_with fail;refine T.o.mono ?_;rintro e w3 ⟨rfl,rfl⟩;clear T;go_wp2;go_ret2;exact⟨rfl,O2.o⟩
theorem yv (v:Value) (b:LI) (n:Nat) (w:World) (h:Bs .u8 w v b) (hr:∀y∈b,0<=y∧y<=255) (hl:b.length<=1000000000) (hT:Tab w) (hn:n<=65536) (hne:b≠[]) (h3:b.getD 0 0<=3) :
 Calls prog 173 #[v,.int .i64 n] w λe w'=>∃u,e=.returned (.tuple #[u,.int .i64 (DEC11 b n).2])∧w'.ownsRow w.heap.size 23 1 u (DEC11 b n).1.length ((DEC11 b n).1.map (Value.int .u64))∧N0 w w':=by
 obtain⟨D,hD⟩:=EX (DEC11 b n);rw[<-hD];rw[Ej hn hne h3] at hD
 have d0:decide ((n:Int)<0)=false:=by simp
 have d1:decide (65536<(n:Int))=false:=by simp;omega
 have NR:=Qa (Ut v b w h hr (by omega));have HS:=Qa (M0 hne);have hb0:=(hr _ (ZY hne)).1;obtain⟨t,ht⟩:=EX ((b.getD 0 0).toNat)
 have hx:b.getD 0 0=(t:Int):=by omega
 rw[<-ht] at hD;rw[hx] at HS
 have h8:t<=3:=by omega
 have HL:=Qa hl;have HT:=Qa hT;have HB:=Qa h;have HR:=Qa hr;have HU:=Qa (qN (ys:=b.drop 1) (n:=n) (λy hy=>hr y (List.mem_of_mem_drop hy)) h8);have HD:=Qa hD;have hw0:=hT.pos;clear h hr hl hT hD hx ht hb0 h3 hne;go_enter func173,ntmps173;go_wp2_with fail;refine NR.o.mono ?_;rintro e w1 ⟨R,v1,rfl,r1,o1,g1,g2,g3⟩;have BY:=Us r1;rw[HS.o] at BY;have BY:=Qa BY;have O1:=Qa o1;have G3:=Qa g3;clear NR r1 o1 g3 HS;go_wp2_with fail;refine BY.o.mono ?_;rintro e w2 ⟨rfl,v2,r2,h7,o2⟩;have O2:=Qa (O1.o.trans o2 (λk hk e=>by omega));have S2:=O2.o.size;have hs12:=o2.size;have TG:=Qa (KH (t:Int) w2 (by omega) (by omega));have RA:=Qa (vu r2 (λk hk=>by rw[h7] at hk;have:=(G3.o k hk).2;omega) (by have:=HL.o;rw[Qm];omega) (HT.o.past O2.o) (by omega) n t hn h8);clear BY O1 o2 r2 h7 G3;go_wp2_with fail;refine TG.o.mono ?_;rintro e w3 ⟨rfl,rfl⟩;clear TG;go_wp2_with fail;refine RA.o.mono ?_;rintro e w4 ⟨u,rfl,h4,o4⟩;have B4:=Qa ((O2.o.low (Nat.le_refl _)).trans (o4.below (B:=w.heap.size) S2 (λk e=>by omega)));have h2:=Qa (Qr h4 S2);clear RA o4 O2 h4
 by_cases hb:(RD11 (b.drop 1) n t).2≠0
 ·have h0:Hid (D=([],(RD11 (b.drop 1) n t).2)):=by simp only[Hid];rw[HD.o,if_pos hb]
  have dc:((RD11 (b.drop 1) n t).2 != 0)=true:=by simpa using hb
  obtain⟨c,hc⟩:=EX ((RD11 (b.drop 1) n t).2);rw[<-hc] at h0 dc ⊢;clear HD hb hc;go_wp2;go_ret2;have hD:=h0.o;subst hD;exact⟨_,rfl,World.ownsRow_nil _ _ _ _,YU B4.o⟩
 ·have hz:(RD11 (b.drop 1) n t).2=0:=by simpa using hb
  rw[hz];obtain⟨L,hL⟩:=EX ((RD11 (b.drop 1) n t).1)
  have h0:Hid (D=if (ENC11 L).1=b then (L,0) else ([],3)):=by simp only[Hid];rw[HD.o,if_neg hb,<-hL]
  rw[<-hL] at h2 HU;have EN:=Qa (Ny u L w4 (Bs.of_own h2.o) HU.o (HT.o.below B4.o hw0));clear HD hb hz hL;obtain⟨a6,c6,e6⟩:=(Bs.of_own h2.o).len;subst e6;obtain⟨m,hm⟩:=EX L.length;rw[<-hm] at EN ⊢;have HM:=Qa hm;clear hm;go_wp2_with fail;refine EN.o.mono ?_;rintro e w5 ⟨v3,rfl,h1,o3⟩;have EQ:=Qa (UZ v3 v (ENC11 L).1 b w5 (Bs.of_own h1) ((HB.o.later B4.o).past o3) (Mr L) HR.o);have O3:=Qa ((YU B4.o).same o3);have OW3:=Qa (o3.own h2.o (λ_ _ f=>f));obtain⟨a7,c7,e7⟩:=(Bs.of_own h1).len;subst e7;clear EN h1 o3 h2;generalize (ENC11 L).2=EC at *;generalize (ENC11 L).1=E at *
  by_cases he:E=b
  ·rw[Qc he] at EQ
   have hD:=h0.o;rw[if_pos he] at hD;clear h0 he;have h6:=Qa hD;clear hD;obtain⟨m2,h5⟩:=EX E.length;rw[<-h5] at EQ ⊢;clear h5;go_wp2_with fail;refine EQ.o.mono ?_;rintro e w6 ⟨rfl,rfl⟩;clear EQ;go_wp2;go_ret2;have hD:=h6.o;subst hD;exact⟨_,rfl,by have:=OW3.o;rw[HM.o];exact this,O3.o⟩
  ·rw[Qh he] at EQ
   have hD:=h0.o;rw[if_neg he] at hD;clear h0 he;have h6:=Qa hD;clear hD;obtain⟨m2,h5⟩:=EX E.length;rw[<-h5] at EQ ⊢;clear h5;go_wp2_with fail;refine EQ.o.mono ?_;rintro e w6 ⟨rfl,rfl⟩;clear EQ;go_wp2;go_ret2;have hD:=h6.o;subst hD;exact⟨_,rfl,World.ownsRow_nil _ _ _ _,O3.o⟩
theorem kC (v:Value) (b:LI) (n:Int) (w:World) (h:Bs .u8 w v b) (hr:∀y∈b,0<=y∧y<=255) (hl:b.length<=1000000000) (hT:Tab w) :
 Calls prog 173 #[v,.int .i64 n] w λe w'=>∃u,e=.returned (.tuple #[u,.int .i64 (DEC11 b n).2])∧w'.ownsRow w.heap.size 23 1 u (DEC11 b n).1.length ((DEC11 b n).1.map (Value.int .u64))∧N0 w w':=by
 by_cases hn:n<0∨65536<n
 ·have e:DEC11 b n=([],1):=if_pos hn
  rw[e];refine (vY v n w hn).mono ?_;rintro e w' ⟨rfl,rfl⟩;exact⟨_,rfl,World.ownsRow_nil _ _ _ _,Only.refl _ _⟩
 ·obtain⟨N,rfl⟩:=Int.eq_ofNat_of_zero_le (show 0<=n by omega)
  by_cases hne:b=[]
  ·subst hne
   have e:DEC11 [] N=([],2):=by unfold DEC11;rw[if_neg hn,if_pos rfl]
   rw[e];refine (Im v N w h (by omega)).mono ?_;rintro e w' ⟨rfl,o⟩;exact⟨_,rfl,World.ownsRow_nil _ _ _ _,o⟩
  ·by_cases h3:3<b.getD 0 0
   ·have e:DEC11 b N=([],3):=by unfold DEC11;rw[if_neg hn,if_neg hne,if_pos h3]
    rw[e];refine (CQ v b N w h hr hl (by omega) hne h3).mono ?_;rintro e w' ⟨rfl,o⟩;exact⟨_,rfl,World.ownsRow_nil _ _ _ _,o⟩
   ·exact yv v b N w h hr hl hT (by omega) hne (by omega)
section
attribute [local go_sem ↓] Go.wp_at_zero Go.wp_at_succ
def RP (w:World) (R:Nat) (D:(LI × List (Int × Int)) × Int):Ending->World->Prop:=λe w' =>
 ((D.2=0∧∃u,e=.returned (.agg #[.string (strOfNums D.1.1),u])∧w'.ownsRow w.heap.size 89 2 u D.1.2.length (Yc D.1.2))∨(D.2≠0∧e=pan D.2))∧Only (λk=>k=R) w w'
theorem RP.no {D:(LI × List (Int × Int)) × Int} {c:Int} (h:D=(QM,c)) (hc:c≠0) (o:Only (λk=>k=R) w w'):RP w R D (.panicked [{ v:=.iface 29 (.int .i64 c),recovered:=false }]) w':=by
 subst h;exact⟨.inr ⟨hc,rfl⟩,o⟩
theorem RP.yes {D:(LI × List (Int × Int)) × Int} {tn:LI} {s:List (Int × Int)} {u:Value} (h:D=((tn,s),0)) (ho:w'.ownsRow w.heap.size 89 2 u s.length (Yc s)) (o:Only (λk=>k=R) w w'):RP w R D (.returned (.agg #[.string (strOfNums tn),u])) w':=by
 subst h;exact⟨.inl ⟨rfl,u,rfl,ho⟩,o⟩
theorem rM {c:Int} (h:Qp 64 ys=([],0,c)) (hc:c≠0):C1 DEC8 DEC11 ys=(QM,c):=by unfold C1;rw[h,if_pos (by simpa using hc)]
theorem C1_ok {ys tn:LI} (h:Qp 64 ys=(tn,k,0)):C1 DEC8 DEC11 ys=C2 DEC8 DEC11 tn (ys.drop k):=by unfold C1;rw[h,if_neg (by simp)]
theorem pr {tn ys:LI} {c:Int} (h:Qe ys=(0,0,c)) (hc:c≠0):C2 DEC8 DEC11 tn ys=(QM,c):=by unfold C2;rw[h,if_pos (by simpa using hc)]
theorem jx {tn ys:LI} (h:Qe ys=((n:Int),k,0)) (hn:65536<n):C2 DEC8 DEC11 tn ys=(QM,4):=by unfold C2;rw[h,if_neg (by simp),if_pos (by simp only;omega)]
theorem C2_ok {tn ys:LI} (h:Qe ys=((n:Int),k,0)) (hn:n<=65536):C2 DEC8 DEC11 tn ys=C3 DEC8 DEC11 tn n (ys.drop k):=by unfold C2;rw[h,if_neg (by simp),if_neg (by simp only;omega)]
theorem zk {tn ys:LI} {n c:Int} (h:Qp (MOST n) ys=([],0,c)) (hc:c≠0):C3 DEC8 DEC11 tn n ys=(QM,c):=by unfold C3;rw[h,if_pos (by simpa using hc)]
theorem C3_ok {tn ys ti:LI} {n:Int} (h:Qp (MOST n) ys=(ti,k,0)):C3 DEC8 DEC11 tn n ys=C4 DEC8 DEC11 tn n ti (ys.drop k):=by unfold C3;rw[h,if_neg (by simp)]
theorem j6 {tn ti ys:LI} {n c:Int} (h:Qp (MOST n) ys=([],0,c)) (hc:c≠0):C4 DEC8 DEC11 tn n ti ys=(QM,c):=by unfold C4;rw[h,if_pos (by simpa using hc)]
theorem C4_ok {tn ti ys va:LI} {n:Int} (h:Qp (MOST n) ys=(va,k,0)):C4 DEC8 DEC11 tn n ti ys=C5 DEC8 DEC11 tn n ti va (ys.drop k):=by unfold C4;rw[h,if_neg (by simp)]
theorem Cj {tn ti va r:LI} {n:Int} (h:r≠[]):C5 DEC8 DEC11 tn n ti va r=(QM,3):=by unfold C5;rw[if_pos h]
theorem C5_d8 {tn ti va:LI} {n:Int} (h:(DEC8 ti n).2≠0):C5 DEC8 DEC11 tn n ti va []=(QM,(DEC8 ti n).2):=by unfold C5;rw[if_neg (by simp),if_pos h]
theorem rg {tn ti va:LI} {n:Int} (h:(DEC8 ti n).2=0) (h':(DEC11 va n).2≠0):C5 DEC8 DEC11 tn n ti va []=(QM,(DEC11 va n).2):=by unfold C5;rw[if_neg (by simp),if_neg (by rw[h];simp),if_pos h']
theorem jB {tn ti va:LI} {n:Int} (h:(DEC8 ti n).2=0) (h':(DEC11 va n).2=0):C5 DEC8 DEC11 tn n ti va []=((tn,(DEC8 ti n).1.zip (DEC11 va n).1),0):=by unfold C5;rw[if_neg (by simp),if_neg (by rw[h];simp),if_neg (by rw[h'];simp)]
theorem uB {y:Int} {r:LI} (h:y≠1):DECC (y :: r)=(QM,3):=by unfold DECC DEC12;rw[if_neg (List.cons_ne_nil _ _),List.getD_cons_zero,if_pos h]
theorem On {r:LI}:DECC (1 :: r)=C1 DEC8 DEC11 r:=by unfold DECC DEC12;rw[if_neg (List.cons_ne_nil _ _),List.getD_cons_zero,if_neg (by simp)];rfl
theorem Hh {b t ys:LI} (hr:∀y∈ys,0<=y∧y<=255) (e:ys=blk b++t):∀y∈b,0<=y∧y<=255:=λy hy=>hr y (by rw[e];unfold blk;simp[hy])
theorem xp {xs zs:LI} (h:xs.length=zs.length):(xs.zip zs).map Prod.fst=xs:=List.map_fst_zip (by omega)
theorem jI {xs zs:LI} (h:xs.length=zs.length):(xs.zip zs).map Prod.snd=zs:=List.map_snd_zip (by omega)
theorem Tryz.sizeCh:(prog.info? 42).map (·.size)=some 2:=by kernel_rfl
theorem XW {x y:Value} {T:TypeId} (h:W.heap[B]? = some (.cells #[x,y] T (0,0))):W.cell? ⟨B,0,none⟩=some x∧W.cell? ⟨B,1,none⟩=some y∧W.frozen? ⟨B,0,none⟩=false∧W.frozen? ⟨B,1,none⟩=false :=
 ⟨by simp[World.cell?,h],by simp[World.cell?,h],by simp[World.frozen?,h],by simp[World.frozen?,h]⟩
theorem Ar (h:CurAt 112 w R v ys) (hvb:∀k,v.ownBlock=some k->k<w.heap.size) (hl:ys.length<=1000000000) (hT:Tab w) (hR0:0<R) (hRl:R<w.heap.size) :
 Calls prog 146 #[.pointer (some ⟨R,0,none⟩)] w (RP w R (DECC ys)):=by
 obtain⟨D,hD⟩:=EX (DECC ys);rw[<-hD];have HD:=Qa hD;obtain⟨K,hK⟩:=EX (RP w R D);rw[<-hK];have HK:=Qa hK;clear hD hK
 have BY:Hid (∀W,N0 w W->Calls prog 164 #[.pointer (some ⟨R,0,none⟩)] W λe w'=>e=.returned (.tuple #[.int .u8 (sByte ys).1,.int .i64 (sByte ys).2.2]) ∧
  ∃v2,CurAt 112 w' R v2 (ys.drop (sByte ys).2.1)∧v2.ownBlock=v.ownBlock∧Only (λk=>k=R) W w'):=by
  intro W o;refine (Us (h.keep o (λf=>f) (λ_ _ f=>f))).mono ?_;rintro e w' ⟨rfl,v2,c2,e2,o2⟩;exact⟨rfl,v2,c2,e2,o2⟩
 have HT:=Qa hT;have HVB:=Qa hvb;have HY:=Qa h.rng;have HL:=Qa hl;clear h hvb hl hT
 cases ys with
 | nil =>
  have e0:sByte []=(0,0,2):=rfl;rw[e0] at BY;have ED:Hid (D=(QM,2)):=HD.o;clear HD;go_enter func146,ntmps146;go_wp2_with fail;refine (BY.o _ ((Only.refl _ _).alloc _)).mono ?_;rintro e w1 ⟨rfl,v2,_,_,o1⟩;have O1:=Qa (((Only.refl (λk=>k=R) w).alloc _).trans o1 (λ_ _ e=>e));clear o1 BY;go_wp2_with fail;refine (pG _ 2 w1 (by omega)).mono ?_;rintro e w' ⟨rfl,rfl⟩;unfold pan;go_wp2;exact⟨rfl,by rw[HK.o];exact RP.no ED.o (by omega) O1.o⟩
 | cons y r =>
  have e0:sByte (y :: r)=(y,1,0):=by simp[sByte]
  rw[e0] at BY;simp only[List.drop_succ_cons,List.drop_zero] at BY;have hy:=HY.o y (by simp)
  have HR:Hid (∀z∈r,0<=z∧z<=255):=λz hz=>HY.o z (by simp[hz])
  have ke:Hid (r.length<=1000000000):=by have:=HL.o;simp only[Hid,Qj] at *;omega
  clear HL HY
  by_cases hy1:y≠1
  ·have hd:(y != 1)=true:=by simpa using hy1
   have ED:Hid (D=(QM,3)):=by have:=HD.o;simp only[Hid];rw[this,uB hy1]
   clear HD;go_enter func146,ntmps146;go_wp2_with fail;refine (BY.o _ ((Only.refl _ _).alloc _)).mono ?_;rintro e w1 ⟨rfl,v2,_,_,o1⟩;have O1:=Qa (((Only.refl (λk=>k=R) w).alloc _).trans o1 (λ_ _ e=>e));clear o1 BY;go_wp2_with fail;refine (Ds _ w1).mono ?_;rintro e w' ⟨rfl,rfl⟩;go_wp2;exact⟨rfl,by rw[HK.o];exact RP.no ED.o (by omega) O1.o⟩
  ·obtain rfl:y=1:=by simpa using hy1
   have hm:Hid (D=C1 DEC8 DEC11 r):=by have:=HD.o;simp only[Hid];rw[this,On]
   clear HD hy1 hy;go_enter func146,ntmps146;go_wp2_with fail;refine (BY.o _ ((Only.refl _ _).alloc _)).mono ?_;rintro e w1 ⟨rfl,v2,c2,e2,o1⟩;have BL:=Qa (Zf c2 64 (by omega));have O1:=Qa (((Only.refl (λk=>k=R) w).alloc _).trans o1 (λ_ _ e=>e));have RS:=Qa (o1.heap (heap_alloc_new w _) (λe=>by omega));clear o1 BY c2 e2;go_wp2_with fail;refine (Ds _ w1).mono ?_;rintro e w' ⟨rfl,rfl⟩
   rcases Ze (n:=64) HR.o (by omega) (by omega) with ⟨c,eb,hc⟩ | ⟨tn,k1,eb,hl1,hk1,_,er1,_⟩
   ·rw[eb] at BL
    have ED:Hid (D=(QM,c)):=by have:=hm.o;simp only[Hid];rw[this,rM eb (by omega)]
    clear hm eb;go_wp2_with fail;refine BL.o.mono ?_;rintro e w2 ⟨vt,rfl,_,_,_,v3,_,_,o2⟩;have O2:=Qa (O1.o.trans o2 (λ_ _ e=>e));clear o2 BL;go_wp2_with fail;refine (JP _ c w2 (by omega)).mono ?_;rintro e w' ⟨rfl,rfl⟩;unfold pan;go_wp2;exact⟨rfl,by rw[HK.o];exact RP.no ED.o (by omega) O2.o⟩
   ·rw[eb] at BL
    have h4:Hid (D=C2 DEC8 DEC11 tn (r.drop k1)):=by have:=hm.o;simp only[Hid];rw[this,C1_ok eb]
    have RT:=Qa (Hh HR.o er1);have hp:=Qa (Hx (k:=k1) HR.o)
    have hv:Hid ((r.drop k1).length<=1000000000):=by have:=ke.o;simp only[Hid,Qm];omega
    clear hm eb er1 HR ke;go_wp2_with fail;refine BL.o.mono ?_;rintro e w2 ⟨vt,rfl,bt,nt,lt,v3,c3,_,o2⟩;have O2:=Qa (O1.o.trans o2 (λ_ _ e=>e));have hw:=Qa (o2.heap RS.o (λe=>by omega));have BT:=Qa bt
    have NT:Hid (∀k,vt.ownBlock=some k->¬k=R):=λk hk e=>by have:=lt k hk;have:=O1.o.size;omega
    have h7:=Qa c3;clear o2 BL bt nt lt c3 O1 RS;generalize r.drop k1=y2 at *;go_wp2_with fail;refine (Jh _ w2).mono ?_;rintro e w' ⟨rfl,rfl⟩
    rcases Ua hp.o with ⟨c,eb,hc⟩ | ⟨n,k2,eb,_,_,_,er2⟩
    ·have ED:Hid (D=(QM,c)):=by have:=h4.o;simp only[Hid];rw[this,pr eb (by omega)]
     have RC:=Qa (xH h7.o eb (by omega));clear h4 eb h7;go_wp2_with fail;refine RC.o.mono ?_;rintro e w3 ⟨rfl,o3⟩;have O3:=Qa (O2.o.trans o3 (λ_ _ e=>e));clear o3 RC;unfold pan;go_wp2;exact⟨rfl,by rw[HK.o];exact RP.no ED.o (by omega) O3.o⟩
    by_cases hn:65536<n
    ·have ED:Hid (D=(QM,4)):=by have:=h4.o;simp only[Hid];rw[this,jx eb hn]
     have RC:=Qa (Ia h7.o eb hn);clear h4 eb h7 er2;go_wp2_with fail;refine RC.o.mono ?_;rintro e w3 ⟨rfl,o3⟩;have O3:=Qa (O2.o.trans o3 (λ_ _ e=>e));clear o3 RC;unfold pan;go_wp2;exact⟨rfl,by rw[HK.o];exact RP.no ED.o (by omega) O3.o⟩
    have hs:n<=65536:=by omega
    have he:Hid (D=C3 DEC8 DEC11 tn n (y2.drop k2)):=by have:=h4.o;simp only[Hid];rw[this,C2_ok eb hs]
    have RC:=Qa (xD h7.o eb hs);have hh:=Qa (Hx (k:=k2) hp.o)
    have k9:Hid ((y2.drop k2).length<=1000000000):=by have:=hv.o;simp only[Hid,Qm] at *;omega
    clear h4 eb h7 er2 hp hv hn;go_wp2_with fail;refine RC.o.mono ?_;rintro e w3 ⟨rfl,v4,c4,_,o3⟩;have hM:=Gi hs;have O3:=Qa (O2.o.trans o3 (λ_ _ e=>e));have kb:=Qa (o3.heap hw.o (λe=>by omega));have kd:=Qa (BT.o.keep o3 NT.o);generalize y2.drop k2=y3 at *;have BL:=Qa (Zf c4 (MOST n) (by omega));clear o3 RC c4 hw BT O2;go_wp2_with fail;refine (Tf n _).mono ?_;rintro e w' ⟨rfl,rfl⟩;have k5:=Qa hM
    rcases Ze (n:=MOST n) hh.o (by omega) (by omega) with ⟨c,eb,hc⟩ | ⟨ti,k3,eb,hl3,hk3,_,er3,_⟩
    ·rw[eb] at BL
     have ED:Hid (D=(QM,c)):=by have:=he.o;simp only[Hid];rw[this,zk eb (by omega)]
     clear he eb hM;go_wp2_with fail;refine BL.o.mono ?_;rintro e w4 ⟨vi,rfl,_,_,_,v5,_,_,o4⟩;have O4:=Qa (O3.o.trans o4 (λ_ _ e=>e));clear o4 BL;go_wp2_with fail;refine (JP _ c w4 (by omega)).mono ?_;rintro e w' ⟨rfl,rfl⟩;unfold pan;go_wp2;exact⟨rfl,by rw[HK.o];exact RP.no ED.o (by omega) O4.o⟩
    rw[eb] at BL
    have hj:Hid (D=C4 DEC8 DEC11 tn n ti (y3.drop k3)):=by have:=he.o;simp only[Hid];rw[this,C3_ok eb]
    have k8:=Qa (Hh hh.o er3);have hr:=Qa (Hx (k:=k3) hh.o)
    have HL4:Hid ((y3.drop k3).length<=1000000000):=by have:=k9.o;simp only[Hid,Qm] at *;omega
    have HLI:Hid (ti.length<=1000000):=by simp only[Hid];omega
    clear he eb er3 hh k9 hM hl3 hk3;go_wp2_with fail;refine BL.o.mono ?_;rintro e w4 ⟨vi,rfl,bi,ni,li,v5,c5,_,o4⟩;have O4:=Qa (O3.o.trans o4 (λ_ _ e=>e));have kc:=Qa (o4.heap kb.o (λe=>by omega));have kf:=Qa (kd.o.keep o4 NT.o);have BI:=Qa bi
    have NI:Hid (∀k,vi.ownBlock=some k->¬k=R):=λk hk e=>by have:=li k hk;have:=O3.o.size;omega
    generalize y3.drop k3=y4 at *;have h6:=Qa (Zf c5 (MOST n) (by have:=k5.o;omega));clear o4 BL bi ni li c5 kb kd O3;go_wp2_with fail;refine (Jh _ w4).mono ?_;rintro e w' ⟨rfl,rfl⟩;go_wp2_with fail;refine (Tf n _).mono ?_;rintro e w' ⟨rfl,rfl⟩;have hM:=k5.o
    rcases Ze (n:=MOST n) hr.o (by omega) (by omega) with ⟨c,eb,hc⟩ | ⟨va,k4,eb,hl4,hk4,_,er4,_⟩
    ·rw[eb] at h6
     have ED:Hid (D=(QM,c)):=by have:=hj.o;simp only[Hid];rw[this,j6 eb (by omega)]
     clear hj eb hM;go_wp2_with fail;refine h6.o.mono ?_;rintro e w5 ⟨vv,rfl,_,_,_,v6,_,_,o5⟩;have O5:=Qa (O4.o.trans o5 (λ_ _ e=>e));clear o5 h6;go_wp2_with fail;refine (JP _ c w5 (by omega)).mono ?_;rintro e w' ⟨rfl,rfl⟩;unfold pan;go_wp2;exact⟨rfl,by rw[HK.o];exact RP.no ED.o (by omega) O5.o⟩
    rw[eb] at h6
    have h2:Hid (D=C5 DEC8 DEC11 tn n ti va (y4.drop k4)):=by have:=hj.o;simp only[Hid];rw[this,C4_ok eb]
    have hx:=Qa (Hh hr.o er4)
    have HLV:Hid (va.length<=1000000):=by simp only[Hid];omega
    clear hj eb er4 hr HL4 hM hl4 hk4;go_wp2_with fail;refine h6.o.mono ?_;rintro e w5 ⟨vv,rfl,bv,nv,lv,v6,c6,_,o5⟩;have O5:=Qa (O4.o.trans o5 (λ_ _ e=>e));have ka:=Qa (o5.heap kc.o (λe=>by omega));have hu:=Qa (kf.o.keep o5 NT.o);have k7:=Qa (BI.o.keep o5 NI.o);have BV:=Qa bv;have T5:=Qa (HT.o.keep O5.o (λe=>by omega));generalize y4.drop k4=y5 at *;have EN:=Qa (JI c6);clear o5 h6 bv nv lv c6 kc kf BI O4;go_wp2_with fail;refine (Jh _ w5).mono ?_;rintro e w' ⟨rfl,rfl⟩;go_wp2_with fail;refine EN.o.mono ?_;rintro e w' ⟨rfl,rfl⟩
    by_cases h5:y5≠[]
    ·have ED:Hid (D=(QM,3)):=by have:=h2.o;simp only[Hid];rw[this,Cj h5]
     have ev:endV y5=3:=by unfold endV;rw[if_pos (by cases y5 with | nil=>exact absurd rfl h5 | cons a b=>simp)]
     rw[ev];clear h2 EN;go_wp2_with fail;refine (Vc 3 w5 (by omega)).mono ?_;rintro e w' ⟨rfl,rfl⟩;unfold pan;go_wp2;exact⟨rfl,by rw[HK.o];exact RP.no ED.o (by omega) O5.o⟩
    obtain rfl:y5=[]:=Classical.not_not.1 h5;have ev:endV []=0:=rfl;rw[ev];clear EN h5 ev;go_wp2_with fail;refine (K9 w5).mono ?_;rintro e w' ⟨rfl,rfl⟩;have E8:=Qa (OJ vi ti n w5 k7.o k8.o (by have:=HLI.o;omega))
    by_cases h8:(DEC8 ti n).2≠0
    ·have ED:Hid (D=(QM,(DEC8 ti n).2)):=by have:=h2.o;simp only[Hid];rw[this,C5_d8 h8]
     clear h2;generalize (DEC8 ti n).2=c at *;go_wp2_with fail;refine E8.o.mono ?_;rintro e w6 ⟨u8,rfl,_,o6⟩;have O6:=Qa (O5.o.trans o6 (λ_ _ f=>f.elim));clear o6 E8;go_wp2_with fail;refine (AM _ c w6 h8).mono ?_;rintro e w' ⟨rfl,rfl⟩;unfold pan;go_wp2;exact⟨rfl,by rw[HK.o];exact RP.no ED.o h8 O6.o⟩
    have hg:(DEC8 ti n).2=0:=Classical.not_not.1 h8;have K8:=Qa (Px k8.o hg);rw[hg] at E8;have H8:=Qa hg;clear h8 hg;go_wp2_with fail;refine E8.o.mono ?_;rintro e w6 ⟨u8,rfl,ha,o6⟩;have O6:=Qa (O5.o.trans o6 (λ_ _ f=>f.elim));have kg:=Qa (o6.heap ka.o (λf=>f));have kh:=Qa (hu.o.past o6);have BX:=Qa (Bs.of_own ha);have h9:=Qa (kC vv va n w6 (BV.o.past o6) hx.o (by have:=HLV.o;omega) (T5.o.past o6));clear o6 E8 ha ka hu O5 k7 BV T5;go_wp2_with fail;refine (yW _ w6).mono ?_;rintro e w' ⟨rfl,rfl⟩
    by_cases h11:(DEC11 va n).2≠0
    ·have ED:Hid (D=(QM,(DEC11 va n).2)):=by have:=h2.o;simp only[Hid];rw[this,rg H8.o h11]
     clear h2;generalize (DEC11 va n).2=c at *;go_wp2_with fail;refine h9.o.mono ?_;rintro e w7 ⟨k0,rfl,_,o7⟩;have O7:=Qa (O6.o.trans o7 (λ_ _ f=>f.elim));clear o7 h9;go_wp2_with fail;refine (Ao _ c w7 h11).mono ?_;rintro e w' ⟨rfl,rfl⟩;unfold pan;go_wp2;exact⟨rfl,by rw[HK.o];exact RP.no ED.o h11 O7.o⟩
    have h1:(DEC11 va n).2=0:=Classical.not_not.1 h11;have ki:=Qa (Mv hx.o h1)
    have ED:Hid (D=((tn,(DEC8 ti n).1.zip (DEC11 va n).1),0)):=by have:=h2.o;simp only[Hid];rw[this,jB H8.o h1]
    rw[h1] at h9;clear h11 h1 h2;go_wp2_with fail;refine h9.o.mono ?_;rintro e w7 ⟨k0,rfl,h3,o7⟩;have O7:=Qa (O6.o.trans o7 (λ_ _ f=>f.elim));have hq:=o7.heap kg.o (λf=>f);have ho:=Qa (kh.o.past o7)
    have hf:(DEC8 ti n).1.length=(DEC11 va n).1.length:=by have:=K8.o.2.2.1;have:=ki.o.2.2.1;omega
    have od:N0 w7 w7.drew:=(Only.refl _ _).drew;have TG:=Qa (xM u8 k0 ((DEC8 ti n).1.zip (DEC11 va n).1) w7.drew (by rw[xp hf];exact (BX.o.past o7).past od) (by rw[jI hf];exact (Bs.of_own h3).past od) (by have:=K8.o.2.2.1;rw[List.length_zip];omega));have HX:=Qa hf;clear o7 h9 h3 od hf kg kh O6 BX K8 ki H8;generalize (DEC8 ti n).1.zip (DEC11 va n).1=s at *;go_wp2_with fail;refine (Fr _ w7).mono ?_;rintro e w' ⟨rfl,rfl⟩;have hB:=XW hq;obtain⟨q1,q2,q3,q4⟩:=hB;have cv7:(convert 22 9 vt).run prog w7=.ok (.string (strOfNums tn)) w7:=V8 w7 vt tn ho.o;have cv7d:(convert 22 9 vt).run prog w7.drew=.ok (.string (strOfNums tn)) w7.drew:=V8 w7.drew vt tn (ho.o.past (Only.refl _ _).drew);have k6:=Qa hq;clear hq;go_wp2_with fail
    go_region_with (first|(go_at_call 174;refine TG.o.mono ?_;rintro e w8 ⟨u,rfl,h0,ht⟩;have o8:=Only.same ((Only.refl (λ_=>False) w7).drew) ht;clear ht;(obtain⟨au,cu,eu⟩:=(Sps.of_own h0).len);subst eu;have cv8:(convert 22 9 vt).run prog w8=.ok (.string (strOfNums tn)) w8:=V8 w8 vt tn (ho.o.past o8);(obtain⟨p1,p2,p3,p4⟩:=XW (o8.heap k6.o (λf=>f)))))
    all_goals
     have hBl:w.heap.size<w7.heap.size:=World.block_lt_of_cell? w7 _ q1;have g0:=o8.heap k6.o (λf=>f);have g1:=heap_setCell_same w8 w.heap.size 0 _ _ (Value.string (strOfNums tn)) g0;have g2:=heap_setCell_same _ w.heap.size 1 _ _ (Value.slice au s.length cu) g1;have ob:Only (λk=>k=w.heap.size) w8 ((w8.setCell ⟨w.heap.size,0,none⟩ (Value.string (strOfNums tn))).setCell ⟨w.heap.size,1,none⟩ (Value.slice au s.length cu)):=((Only.refl (λk=>k=w.heap.size) w8).setCell (p:=⟨w.heap.size,0,none⟩) (λ_=>rfl) _).setCell (p:=⟨w.heap.size,1,none⟩) (λ_=>rfl) _;have ow:=ob.own (Qr h0 (show w.heap.size<=w7.drew.heap.size from Nat.le_of_lt hBl)) (λk hk e=>by have:=(h0.lt k hk).1;simp only[World.drew] at this;omega);have oo:Only (λk=>k=R) w ((w8.setCell ⟨w.heap.size,0,none⟩ (Value.string (strOfNums tn))).setCell ⟨w.heap.size,1,none⟩ (Value.slice au s.length cu)):=((O7.o.trans o8 (λ_ _ f=>f.elim)).setCell (p:=⟨w.heap.size,0,none⟩) (λhb=>absurd hb (Nat.lt_irrefl _)) _).setCell (p:=⟨w.heap.size,1,none⟩) (λhb=>absurd hb (Nat.lt_irrefl _)) _
     have FIN:Hid (K (.returned (.agg #[.string (strOfNums tn),.slice au s.length cu])) ((w8.setCell ⟨w.heap.size,0,none⟩ (Value.string (strOfNums tn))).setCell ⟨w.heap.size,1,none⟩ (Value.slice au s.length cu))):=by
      simp only[Hid];rw[HK.o];exact RP.yes ED.o ow oo
     have G2:=Qa g2;clear g0 g1 g2 ob ow oo h0 o8;go_wp2;exact bodyPost_ret (results_cell_row rfl _ _ w.heap.size 42 _ (0,0) _ rfl G2.o underlying42 rfl Tryz.sizeCh) rfl FIN.o
end
theorem qe (p q:Nat) (w:World) :
 CallsD prog 145 #[.pointer (some ⟨p,0,none⟩),.pointer (some ⟨q,0,none⟩)] .returning w λe u' w'=>e=.returned (.tuple #[])∧u'=.returning∧w=w':=by
 refine callsD_of_wpS func145 rfl λc₀ cs hu=>?_
 apply wpS_seq
 apply wpS_region
 simp[wpOpsS,go_sem,recoverD,hu,ntmps145,Exit.thenS];refine wpS_of_wp ?_;go_wp2
 cases c₀
 simp_all [bodyPostS,results,Tryz.results145]
theorem vz (p q:Nat) (c:Int) (older:List PanicEntry) (w:World) (x0 x1 y:Value) (h0:w.cell? ⟨p,0,none⟩=some x0) (h1:w.cell? ⟨p,1,none⟩=some x1) (hq:w.cell? ⟨q,0,none⟩=some y)
 (f0:w.frozen? ⟨p,0,none⟩=false) (f1:w.frozen? ⟨p,1,none⟩=false) (fq:w.frozen? ⟨q,0,none⟩=false) (hpq:¬p=q) :
 CallsD prog 145 #[.pointer (some ⟨p,0,none⟩),.pointer (some ⟨q,0,none⟩)] (.panicking ({ v:=.iface 29 (.int .i64 c),recovered:=false } :: older)) w λe u' w' =>
  e=.returned (.tuple #[])∧u'=.panicking ({ v:=.iface 29 (.int .i64 c),recovered:=true } :: older)∧w'=((w.setCell ⟨p,0,none⟩ (.string ⟨#[]⟩)).setCell ⟨p,1,none⟩ (.slice none 0 0)).setCell ⟨q,0,none⟩ (.int .i64 c):=by
 have hta:∀(W:World),(Instr.typeAssert (.iface 29 (.int .i64 c)) 20 29 true).run prog W=.ok (.tuple #[.int .i64 c,.bool true]) W:=λ_=>by kernel_rfl
 have hqp:¬q=p:=λe=>hpq e.symm
 refine callsD_of_wpS func145 rfl λc₀ cs hu=>?_
 apply wpS_seq
 apply wpS_region
 simp[wpOpsS,go_sem,recoverD,hu,ntmps145,Exit.thenS];refine wpS_of_wp ?_;go_wp2;simp[bodyPostS,results,Tryz.results145]
theorem Pl {fn:Func} {p q:Tmp} {ty ty2:TypeId} (h:fn.results=#[.cell p ty,.cell q ty2]) (tmps:Array Value) (w:World) {a b:Addr} {v1 v2:Value}
 (hp:tmps.getD p undef=.pointer (some a)) (hq:tmps.getD q undef=.pointer (some b)) (h1:(loadVar ty a).run P w=.ok v1 w) (h2:(loadVar ty2 b).run P w=.ok v2 w) :
 (results fn tmps).run P w=.ok (.tuple #[v1,v2]) w:=by
 have hp':tmps[p]?.getD undef=.pointer (some a):=by simpa using hp
 have hq':tmps[q]?.getD undef=.pointer (some b):=by simpa using hq
 simp[results,h,hp',hq',asAddr,h1,h2]
theorem Tz {b:Nat} {c:Int} (h:W.heap[b]? = some (.cells #[.int .i64 c] 29 (0,0))):(loadVar 29 ⟨b,0,none⟩).run prog W=.ok (.int .i64 c) W:=by
 have hc:W.cell? ⟨b,0,none⟩=some (.int .i64 c):=by simp[World.cell?,h]
 simp[go_sem,hc]
theorem R9 {b:Nat} {x y:Value} (h:W.heap[b]? = some (.cells #[x,y] 42 (0,0))):(loadVar 42 ⟨b,0,none⟩).run prog W=.ok (.agg #[x,y]) W :=
 run_loadVar_row W b 42 42 _ (0,0) _ h underlying42 rfl Tryz.sizeCh
theorem Lz {b:Nat} {x0 x1 z0 y0 y1 z1:Value} {T U:TypeId} (h:W.heap[b]? = some (.cells #[x0,x1] T (0,0))) (h':W.heap[b+1]? = some (.cells #[z0] U (0,0))) :
 (((W.setCell ⟨b,0,none⟩ y0).setCell ⟨b,1,none⟩ y1).setCell ⟨b+1,0,none⟩ z1).heap[b]? = some (.cells #[y0,y1] T (0,0))∧(((W.setCell ⟨b,0,none⟩ y0).setCell ⟨b,1,none⟩ y1).setCell ⟨b+1,0,none⟩ z1).heap[b+1]? = some (.cells #[z1] U (0,0)):=by
 have g1:=heap_setCell_same W b 0 _ _ y0 h;have g2:=heap_setCell_same _ b 1 _ _ y1 g1;have o1:Only (λk=>k=b) W ((W.setCell ⟨b,0,none⟩ y0).setCell ⟨b,1,none⟩ y1):=((Only.refl (λk=>k=b) W).setCell (p:=⟨b,0,none⟩) (λ_=>rfl) _).setCell (p:=⟨b,1,none⟩) (λ_=>rfl) _;have g3:=o1.heap h' (λe=>by omega);have o2:Only (λk=>k=b+1) ((W.setCell ⟨b,0,none⟩ y0).setCell ⟨b,1,none⟩ y1) (((W.setCell ⟨b,0,none⟩ y0).setCell ⟨b,1,none⟩ y1).setCell ⟨b+1,0,none⟩ z1):=(Only.refl (λk=>k=b+1) _).setCell (p:=⟨b+1,0,none⟩) (λ_=>rfl) _;exact⟨o2.heap (by simpa using g2) (λe=>by omega),by have:=heap_setCell_same _ (b+1) 0 _ _ z1 g3;simpa using this⟩
theorem FL (v:Value) (ys:LI) (w:World) (h:Bs .u8 w v ys) (hr:∀y∈ys,0<=y∧y<=255) (hl:ys.length<=1000000000) (hT:Tab w) :
 Calls prog 106 #[v] w λe w'=>∃u,e=.returned (.tuple #[.agg #[.string (strOfNums (DECC ys).1.1),u],.int .i64 (DECC ys).2])∧w'.ownsRow w.heap.size 89 2 u (DECC ys).1.2.length (Yc (DECC ys).1.2)∧N0 w w':=by
 have hmf:∀(fn:Fn) (first cap:Array Value) (w:World),(Instr.makeFunc fn first cap).run prog w=.ok (.func fn first cap) w:=λ_ _ _ _=>rfl
 have NW:Hid (∀W,N0 w W->Calls prog 39 #[v] W λe w'=>∃R v',e=.returned (.pointer (some ⟨R,0,none⟩))∧CurAt 112 w' R v' ys∧N0 W w'∧W.heap.size<=R∧R<w'.heap.size∧(∀k,v'.ownBlock=some k->W.heap.size<=k∧k<w'.heap.size)) :=
  λW o=>Ut v ys W (h.past o) hr (by omega)
 have HT:=Qa hT;have h3:=Qa hl;have hw0:=hT.pos;obtain⟨D,hD⟩:=EX (DECC ys)
 have HE:Hid (D.2≠0->D.1=QM):=by simp only[Hid];rw[hD];exact Ef
 have HD:=Qa hD;rw[<-hD];clear h hr hT hl hD
 go_enter_defers func106,ntmps106
 go_wp2_with fail;refine (NW.o _ (((Only.refl _ _).alloc _).alloc _)).mono ?_;rintro e w1 ⟨R,v',rfl,c1,o1,h4,hR2,h2⟩
 have hR1':w.heap.size+2<=R:=by simpa using h4
 have g0:=o1.heap (Ub (o:=.cells #[.int .i64 0] 29) (heap_alloc_new w (.cells #[.string ⟨#[]⟩,.slice none 0 0] 42))) (λf=>f);have g1:=o1.heap (YS (W:=w.alloc (.cells #[.string ⟨#[]⟩,.slice none 0 0] 42)) (o:=.cells #[.int .i64 0] 29) (k:=w.heap.size+1) (by simp)) (λf=>f);have oo:N0 w w1:=Only.same (((Only.refl _ _).alloc _).alloc _) o1;have RD:=Qa (Ar c1 (λk hk=>(h2 k hk).2) h3.o (HT.o.past oo) (by omega) hR2);rw[<-HD.o] at RD;have O1:=Qa oo;have G0:=Qa g0;have G1:=Qa g1;clear c1 o1 h2 g0 g1 oo NW h4 h3;go_wp2_with fail;refine RD.o.mono ?_;rintro e w2 ⟨hh,o2⟩;have K0:=o2.heap G0.o (λe=>by omega);have K1:=o2.heap G1.o (λe=>by omega)
 have O2:Hid (N0 w w2):=by
  have s1:=O1.o;exact s1.trans o2 (λk hk e=>by omega)
 clear o2 RD G0 G1
 rcases hh with ⟨hd,u,rfl,ownu⟩ | ⟨hd,rfl⟩
 ·obtain⟨au,cu,eu⟩:=(Sps.of_own ownu).len
  subst eu;obtain⟨q1,q2,q3,q4⟩:=XW K0;obtain⟨p1,p2⟩:=UC K1;obtain⟨F0,F1⟩:=Lz (y0:=.string (strOfNums D.1.1)) (y1:=.slice au D.1.2.length cu) (z1:=.int .i64 0) K0 K1
  have ob:Only (λk=>k=w.heap.size∨k=w.heap.size+1) w2 (((w2.setCell ⟨w.heap.size,0,none⟩ (.string (strOfNums D.1.1))).setCell ⟨w.heap.size,1,none⟩ (.slice au D.1.2.length cu)).setCell ⟨w.heap.size+1,0,none⟩ (.int .i64 0)) :=
   (((Only.refl (λk=>k=w.heap.size∨k=w.heap.size+1) w2).setCell (p:=⟨w.heap.size,0,none⟩) (λ_=>.inl rfl) _).setCell (p:=⟨w.heap.size,1,none⟩) (λ_=>.inl rfl) _).setCell (p:=⟨w.heap.size+1,0,none⟩) (λ_=>.inr rfl) _
  have ow:=Qa (ob.own (Qr ownu O1.o.size) (λk hk e=>by have:=(ownu.lt k hk).1;omega));have ox:=Qa (O2.o.trans ob (λk hk e=>by omega));have h0:=Qa (R9 F0);have h1:=Qa (Tz F1);clear F0 F1 ob ownu K0 K1;go_wp2;refine leaves_cons (f:=145) (args:=#[.pointer (some ⟨w.heap.size,0,none⟩),.pointer (some ⟨w.heap.size+1,0,none⟩)]) (by simp) (by simp[go_sem]) ?_;refine (qe w.heap.size (w.heap.size+1) _).mono ?_;rintro e u' w'' ⟨rfl,rfl,rfl⟩;refine⟨_,Pl Tryz.results106 _ _ rfl rfl h0.o h1.o,?_⟩;exact⟨_,by rw[hd],ow.o,ox.o⟩
 ·have hn:=HE.o hd
  obtain⟨q1,q2,q3,q4⟩:=XW K0;obtain⟨p1,p2⟩:=UC K1;obtain⟨F0,F1⟩:=Lz (y0:=.string ⟨#[]⟩) (y1:=.slice none 0 0) (z1:=.int .i64 D.2) K0 K1
  have ob:Only (λk=>k=w.heap.size∨k=w.heap.size+1) w2 (((w2.setCell ⟨w.heap.size,0,none⟩ (.string ⟨#[]⟩)).setCell ⟨w.heap.size,1,none⟩ (.slice none 0 0)).setCell ⟨w.heap.size+1,0,none⟩ (.int .i64 D.2)) :=
   (((Only.refl (λk=>k=w.heap.size∨k=w.heap.size+1) w2).setCell (p:=⟨w.heap.size,0,none⟩) (λ_=>.inl rfl) _).setCell (p:=⟨w.heap.size,1,none⟩) (λ_=>.inl rfl) _).setCell (p:=⟨w.heap.size+1,0,none⟩) (λ_=>.inr rfl) _
  have ox:=Qa (O2.o.trans ob (λk hk e=>by omega));have h0:=Qa (R9 F0);have h1:=Qa (Tz F1);have CE:=Qa (vz w.heap.size (w.heap.size+1) D.2 [] w2 _ _ _ q1 q2 p1 q3 q4 p2 (by omega));clear F0 F1 ob K0 K1;unfold pan;go_wp2;refine leaves_cons (f:=145) (args:=#[.pointer (some ⟨w.heap.size,0,none⟩),.pointer (some ⟨w.heap.size+1,0,none⟩)]) (by simp) (by simp[go_sem]) ?_;refine CE.o.mono ?_;rintro e u' w'' ⟨rfl,rfl,rfl⟩;refine⟨_,Pl Tryz.results106 _ _ rfl rfl h0.o h1.o,?_⟩;rw[hn];exact⟨_,rfl,World.ownsRow_nil _ _ _ _,ox.o⟩
end Go.Proofs.YteciafpneamfaaaGreatDoor
