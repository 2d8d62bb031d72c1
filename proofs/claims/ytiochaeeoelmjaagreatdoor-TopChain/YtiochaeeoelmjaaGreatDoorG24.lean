import Derived.Test.YtiochaeeoelmjaaGreatDoorG8
import Derived.Test.YtiochaeeoelmjaaGreatDoorG12
import Derived.Test.YtiochaeeoelmjaaGreatDoorG13
import Derived.Test.YtiochaeeoelmjaaGreatDoorG4
import Derived.Test.YtiochaeeoelmjaaGreatDoorG22
import Derived.Test.YtiochaeeoelmjaaGreatDoorG17
namespace Go.Proofs.YtiochaeeoelmjaaGreatDoor
set_option maxHeartbeats 4000000
set_option maxRecDepth 100000
open Go.RowKit _root_.Go.Proofs.Tryz
variable {w w' W:World} {v:Value} {ys xs l:LI} {R n p k g B:Nat} {P:Program} {ls:List (LI)} {E:TypeId}
def kb (n:Int) (i:Nat):Int:=IntKind.u8.wrap (IntKind.u64.wrap n / 2^(8*i))
def KP (n:Int) (k:Nat):LI:=(List.range k).map (kb n)++List.replicate (32 - k) 0
def Va (n:Int):LI:=KP n 8
theorem Pc {n:Int} (h:k<=32):(KP n k).length=32:=by unfold KP;simp;omega
theorem Mx (n:Int):(Va n).length=32:=Pc (by decide)
theorem kb_u8 (n:Int) (i:Nat):0<=kb n i∧kb n i<=255:=by
 unfold kb;generalize IntKind.u64.wrap n / 2^(8*i)=x;simp[IntKind.wrap,IntKind.bits,IntKind.signed];omega
theorem Sv (n:Int):U8 (Va n):=λy hy=>by
 unfold Va KP at hy
 rcases List.mem_append.1 hy with h | h
 ·obtain⟨i,_,rfl⟩:=List.mem_map.1 h
  exact kb_u8 n i
 ·have:=List.eq_of_mem_replicate h;omega
theorem Fk (n:Int) (k:Nat) (h:k<32):(KP n k).set k (kb n k)=KP n (k+1):=by
 unfold KP;obtain⟨m,hm⟩:∃m,32 - k=m+1:=⟨31 - k,by omega⟩;rw[hm,List.replicate_succ,List.set_append_right _ _ (by simp),List.length_map,List.length_range,Nat.sub_self,Qn,List.range_succ,List.map_append,show 32 - (k+1)=m by omega,List.append_assoc]
 rfl
theorem Tn (n:Int) (w:World):Calls prog 7 #[.int .i64 n] w λe w'=>e=.returned (.slice (some ⟨w.heap.size,0,none⟩) 32 32)∧Blk w' w.heap.size 5 (bl (Va n))∧N0 w w':=by
 obtain⟨wm,h1,h0,om⟩:=Z7 w 32 (by omega);rw[show ((32:Nat):Int)=32 from rfl] at h1;obtain⟨N,hN⟩:=EX w.heap.size;rw[<-hN] at h1 h0 ⊢;have S0:Hid (Blk wm N 5 (bl (KP n 0))∧N0 w wm):=⟨by unfold KP;simpa using h0,om⟩;have HN:=Qa hN;clear h0 om hN;go_enter func7,ntmps7;go_wp2
 go_loopw [4] (λi wr=>∃k:Nat,k<=8∧i=.int .i64 k∧Hid (Blk wr N 5 (bl (KP n k))∧N0 w wr)) (λi _=>8 - (intOf i).toNat)
 case atStart=>exact⟨0,Nat.zero_le _,rfl,S0⟩
 case round =>
  obtain⟨k,hk,rfl,hS⟩:=hrel;clear S0 h1
  by_cases hlt:k<8
  ·have i1:(k:Int)<8:=by omega
   have i2:(k:Int)<32:=by omega
   have hb:=hS.o.1
   have c0:wr.cell? ⟨N,k,none⟩=some (.int .u8 ((KP n k).getD k 0)):=by rw[hb.cell,bl_at _ _ (by rw[Pc (by omega)];omega)]
   have f0:=hb.froz k
   have N1:Hid (Blk (wr.setCell ⟨N,k,none⟩ (.int .u8 (kb n k))) N 5 (bl (KP n (k+1)))∧N0 w (wr.setCell ⟨N,k,none⟩ (.int .u8 (kb n k)))):=by
    refine⟨?_,hS.o.2.setCell (p:=⟨N,k,none⟩) (λ(h:N<w.heap.size)=>absurd h (by have:=HN.o;omega)) _⟩;have:=hb.set k (.int .u8 (kb n k));rw[V7,Fk n k (by omega)] at this;exact this
   clear hb hS;go_wp2
   go_roundw
   case rel=>exact⟨k+1,by omega,by go_num,N1⟩
   case measure=>simp[intOf];omega
  ·obtain rfl:k=8:=by omega
   go_wp2;go_ret;exact⟨rfl,hS.o⟩
theorem GF (h:n<=16383):(gs n).length<=2:=Nat.le_trans (pE h) (by rw[WG (by omega),UJ (by omega)];decide)
theorem AV {tn:LI} {s:List (Int × Int)} (ht:tn.length<=64) (hs:s.length<=200):(ENCC tn s).1.length<=2+tn.length+3+2*(3+(1+8*s.length)):=by
 rw[V4 ht (by omega),LC (by omega)];have h8:=(Ht (l:=s.map Prod.fst) (by rw[List.length_map];omega)).1;have h11:=(Zk (l:=s.map Prod.snd) (by rw[List.length_map];omega)).1;rw[List.length_map] at h8 h11;have g8:=GF (n:=(e8c (s.map Prod.fst)).length) (by unfold e8c;omega);have g11:=GF (n:=(e11c (s.map Prod.snd)).length) (by unfold e11c;omega);have gn:=GF (n:=s.length) (by omega);unfold blk e8c e11c at *;simp only[Qk,Qb] at *;omega
theorem gj {tn:LI} {s:List (Int × Int)} (hs:s.length<=65536) (h:tn.length<=64):(ENCC tn s).2=0:=by rw[V4 h hs]
theorem jk {tn:LI} {s:List (Int × Int)} (ht:∀y∈tn,0<=y∧y<=255) (h1:tn.length<=64) (h2:s.length<=65536) (hg:Gs s):∀y∈(ENCC tn s).1,0<=y∧y<=255:=by
 rw[V4 h1 h2];intro y hy;simp only[List.mem_cons,List.mem_append] at hy
 rcases hy with rfl | hy | hy | hy | hy
 ·omega
 ·exact Kk tn ht y hy
 ·exact UU _ y hy
 ·exact Kk _ (Ns hg.1) y hy
 ·exact Kk _ (TQ _) y hy
abbrev Qj:=LI × List (Int × Int)
def Q5 (v i:Int) (t:LI):LI:=fixL v 8++(fixL i 4++blk t)
def Qy (c:Qj):LI:=(ENCC c.1 c.2).1
def Yp (c:Qj):Int:=if (ENCC c.1 c.2).2=0 then Uh (Qy c) else (ENCC c.1 c.2).2
def XM (c:Qj):LI:=if Yp c=0 then PADL (Qy c) else []
def KO (c:Qj):Int:=if Yp c=0 then (QR (Qy c).length:Int) else 0
def Ym (k:LI) (i:Int) (c:Qj):Int:=if k.length=32 then (if Uy i then Yp c else 1) else 1
def Yd (k:LI) (v i:Int) (c:Qj):LI:=if Ym k i c=0 then YG (QP k 2 []) (QZ k v i) (Q5 v i c.1) (PADL (Qy c)) else []
def Ye (k:LI) (i:Int) (c:Qj):Int:=if Ym k i c=0 then (QR (Qy c).length:Int) else 0
structure CG (c:Qj):Prop where
 t8:U8 c.1
 gs:Gs c.2
theorem SW {v i:Int} {t:LI} (h:U8 t):U8 (Q5 v i t):=λy hy=>by
 rcases List.mem_append.1 hy with h1 | h1
 ·exact US _ _ y h1
 ·rcases List.mem_append.1 h1 with h1 | h1
  ·exact US _ _ y h1
  ·exact Kk _ h y h1
theorem Aj {v i:Int} {t:LI} (h:t.length<=1000000):(Q5 v i t).length<=t.length+22:=by
 have:=U2 t h;simp only[Q5,Qb,Qv];omega
theorem Ze {c:Qj} (h:Yp c=0):c.1.length<=64∧c.2.length<=65536∧(ENCC c.1 c.2).2=0∧(Qy c).length<=4194300:=by
 unfold Yp at h
 by_cases h1:(ENCC c.1 c.2).2=0
 ·rw[if_pos h1] at h
  have h3:¬(64<c.1.length∨65536<c.2.length):=λq=>by rw[GK q] at h1;cases h1
  refine⟨by omega,by omega,h1,?_⟩;unfold Uh at h
  by_cases h2:(Qy c).length<=4194300
  ·exact h2
  ·rw[if_neg h2] at h;cases h
 ·rw[if_neg h1] at h;exact absurd h h1
theorem Hm {k:LI} {i:Int} {c:Qj} (h:Ym k i c=0):k.length=32∧Uy i∧Yp c=0:=by
 unfold Ym at h
 by_cases h1:k.length=32
 ·rw[if_pos h1] at h
  by_cases h2:Uy i
  ·rw[if_pos h2] at h;exact⟨h1,h2,h⟩
  ·rw[if_neg h2] at h;cases h
 ·rw[if_neg h1] at h;cases h
theorem Xo {c:Qj} (g:CG c):U8 (Qy c):=by
 by_cases h:64<c.1.length∨65536<c.2.length
 ·unfold Qy;rw[GK h];intro y hy;cases hy
 ·exact jk g.t8 (by omega) (by omega) g.gs
theorem MB {k:LI} {v i:Int} {c:Qj} (h:Ym k i c=0):(Yd k v i c).length=Uo (Qy c).length+16:=by
 unfold Yd;rw[if_pos h,VJ,K9 _ (Ze (Hm h).2.2).2.2.2]
theorem yF {k:LI} {v i:Int} {c:Qj} (g:CG c):U8 (Yd k v i c):=by
 unfold Yd
 split
 ·exact NL _ _ _ _ (ZF (Xo g))
 ·intro y hy;cases hy
theorem DG {k:LI} {v i:Int} {c:Qj}:(Yd k v i c).length<=4194320:=by
 by_cases h:Ym k i c=0
 ·rw[MB h];have:=Zl (Qy c).length;omega
 ·unfold Yd;rw[if_neg h];simp
theorem wA {k:LI} {i:Int} {c:Qj}:0<=Ye k i c∧Ye k i c<=8:=by
 unfold Ye
 split
 ·have:=RY (Qy c).length;omega
 ·omega
def QH (m:LI) (c:Qj):LI:=QT m 1 c.1
def YR (m:LI) (i:Nat) (c:Qj):Int:=if QS m c.1=0 then Ym (QH m c) i c else QS m c.1
def Ya (m:LI):Nat->List Qj->Int
 | _,[]=>0
 | i,c :: l=>if YR m i c=0 then Ya m (i+1) l else YR m i c
abbrev Qw:Qj:=([],[])
def QI (m:LI) (v:Nat) (l:List Qj) (k:Nat):List (LI):=(List.range k).map λi=>Yd (QH m (l.getD i Qw)) v i (l.getD i Qw)
def Uz (m:LI) (l:List Qj) (k:Nat):List (LI × Int):=(List.range k).map λi=>((l.getD i Qw).1,Ye (QH m (l.getD i Qw)) i (l.getD i Qw))
theorem VP (m:LI) (v:Nat) (l:List Qj) (k:Nat):(QI m v l k).length=k:=by simp[QI]
theorem Vb (m:LI) (l:List Qj) (k:Nat):(Uz m l k).length=k:=by simp[Uz]
theorem SQ (m:LI) (v:Nat) (l:List Qj) {k j:Nat} (h:j<k):(QI m v l k).getD j []=Yd (QH m (l.getD j Qw)) v j (l.getD j Qw):=by simp[QI,List.getD_eq_getElem?_getD,h]
theorem LF (m:LI) (l:List Qj) {k j:Nat} (h:j<k):(Uz m l k).getD j ([],0)=((l.getD j Qw).1,Ye (QH m (l.getD j Qw)) j (l.getD j Qw)):=by simp[Uz,List.getD_eq_getElem?_getD,h]
theorem tI {m:LI} {l:List Qj} (h:k<l.length):Ya m k (l.drop k)=if YR m k (l.getD k Qw)=0 then Ya m (k+1) (l.drop (k+1)) else YR m k (l.getD k Qw):=by
 rw[List.drop_eq_getElem_cons h,Ya,Qc,Qh h,Option.getD_some]
theorem ZY {m:LI}:∀(l:List Qj) (k:Nat),Ya m k l=0->∀j,j<l.length->YR m (k+j) (l.getD j Qw)=0
 | [],_,_,j,h=>by simp at h
 | c :: l,k,h0,j,h=>by
  rw[Ya] at h0
  by_cases h1:YR m k c=0
  ·rw[if_pos h1] at h0
   cases j with
   | zero=>simpa using h1
   | succ j =>
    have:=ZY l (k+1) h0 j (by simpa using h);rw[show k+(j+1)=k+1+j by omega]
    simpa using this
  ·rw[if_neg h1] at h0;exact absurd h0 h1
theorem JE {m:LI} {i:Nat} {c:Qj} (h:YR m i c=0):QS m c.1=0∧Ym (QH m c) i c=0:=by
 unfold YR at h
 by_cases h1:QS m c.1=0
 ·rw[if_pos h1] at h;exact⟨h1,h⟩
 ·rw[if_neg h1] at h;exact absurd h h1
def QG (l:List (LI)):LI:=YC (l.map LEAF)
theorem Um (l:List (LI)):(QG l).length=32:=by
 unfold QG
 rcases l with _ | ⟨a,_ | ⟨b,t⟩⟩
 ·exact Y2 _
 ·rw[RX (by simp)];exact Hl _
 ·exact xD (by simp)
def WP (r:LI):LI:=if r.length=0 then List.replicate 32 0 else r
theorem Tp {r:LI} (h:r.length=0∨r.length=32):(WP r).length=32:=by
 unfold WP;split
 ·simp
 ·omega
theorem LJ {r:LI} (h:U8 r):U8 (WP r):=by
 unfold WP;split
 ·intro y hy;have:=List.eq_of_mem_replicate hy;omega
 ·exact h
abbrev Yl:=Nat × LI
abbrev Kc (s:Yl):Prop:=s.2.length=0∨s.2.length=32
def QD (m:LI) (r:LI) (v:Nat) (l:List Qj):MAN:=⟨v,WP r,Uz m l l.length,QG (QI m v l l.length)⟩
def Ug (m:LI) (s:Yl) (v n:Nat):Int :=
 if m.length=32∧Kc s∧v≠18446744073709551615 then (if 0<s.2.length∧v<=s.1 then 6 else if 1048576<n then 4 else 0) else 1
def Yc (m:LI) (s:Yl) (v:Nat) (l:List Qj):Int:=if Ug m s v l.length=0 then Ya m 0 l else Ug m s v l.length
def QJ (m:LI) (s:Yl) (v:Nat) (l:List Qj):LI:=MENC (QD m s.2 v l)++MACL (Yz m) (MENC (QD m s.2 v l))
def Q9 (m:LI) (s:Yl) (v:Nat) (l:List Qj):LI:=if Yc m s v l=0 then blk (QJ m s v l)++(QI m v l l.length).flatten else []
def UP (m:LI) (s:Yl) (v:Nat) (l:List Qj):Yl:=if Yc m s v l=0 then (v,QG (QI m v l l.length)) else (0,[])
theorem VY {m:LI} {s:Yl} {v n:Nat} (h:Ug m s v n=0):m.length=32∧Kc s∧v≠18446744073709551615∧¬(0<s.2.length∧v<=s.1)∧n<=1048576:=by
 unfold Ug at h
 by_cases h1:m.length=32∧Kc s∧v≠18446744073709551615
 ·rw[if_pos h1] at h
  by_cases h2:0<s.2.length∧v<=s.1
  ·rw[if_pos h2] at h;cases h
  ·rw[if_neg h2] at h
   by_cases h3:1048576<n
   ·rw[if_pos h3] at h;cases h
   ·exact⟨h1.1,h1.2.1,h1.2.2,h2,by omega⟩
 ·rw[if_neg h1] at h;cases h
theorem V3 {m:LI} {s:Yl} {v:Nat} {l:List Qj} (h:Yc m s v l=0):Ug m s v l.length=0∧Ya m 0 l=0:=by
 unfold Yc at h
 by_cases h1:Ug m s v l.length=0
 ·rw[if_pos h1] at h;exact⟨h1,h⟩
 ·rw[if_neg h1] at h;exact absurd h h1
theorem Da (l:List (LI)):R8 (l.map LEAF):=λx hx=>by
 obtain⟨a,_,rfl⟩:=List.mem_map.1 hx;exact⟨Tb _,by rw[Hl];omega⟩
theorem Zn (l:List (LI)):U8 (QG l):=(VA (Da l)).1
theorem Ab {m:LI} {l:List Qj} (hl:∀c∈l,CG c) {k:Nat}:∀e∈Uz m l k,U8 e.1:=λe he=>by
 obtain⟨i,hi,rfl⟩:=List.mem_map.1 he
 show U8 (l.getD i Qw).1
 by_cases h:i<l.length
 ·rw[Qc,Qh h]
  exact (hl _ (List.getElem_mem h)).t8
 ·rw[Qc,List.getElem?_eq_none (by omega)];intro y hy;cases hy
theorem CP {m:LI} {s:Yl} {v:Nat} {l:List Qj} (hv:v<18446744073709551616) (s8:U8 s.2) (hl:∀c∈l,CG c):Mok (QD m s.2 v l):=⟨hv,LJ s8,Zn _,Ab hl⟩
theorem VH {m:LI} {s:Yl} {v:Nat} {l:List Qj} (hv:v<18446744073709551616) (s8:U8 s.2) (hl:∀c∈l,CG c) (h:Yc m s v l=0):Ut (QD m s.2 v l):=by
 obtain⟨h1,h2⟩:=V3 h;obtain⟨_,m2,m3,_,m5⟩:=VY h1;refine⟨?_,⟨Tp m2,LJ s8⟩,⟨Um _,Zn _⟩,?_,λe he=>?_⟩
 ·show v<18446744073709551615;omega
 ·show (Uz m l l.length).length<=1048576;rw[Vb];exact m5
 ·refine⟨⟨?_,Ab hl e he⟩,?_⟩
  ·obtain⟨i,hi,rfl⟩:=List.mem_map.1 he
   have:=ZY l 0 h2 i (by simpa using hi);rw[Nat.zero_add] at this;exact (Ze (Hm (JE this).2).2.2).1
  ·obtain⟨i,hi,rfl⟩:=List.mem_map.1 he
   exact wA
def CUT:List (LI × Int)->LI->Option (List (LI) × LI)
 | [],r=>some ([],r)
 | e :: es,r=>if r.length<(Yb e.2).toNat+16 then none else
  match CUT es (r.drop ((Yb e.2).toNat+16)) with
  | none=>none
  | some x=>some (r.take ((Yb e.2).toNat+16) :: x.1,x.2)
theorem DT:∀(es:List (LI × Int)) (ls:List (LI)) (t:LI),es.length=ls.length->(∀j,j<es.length->(ls.getD j []).length=(Yb (es.getD j ([],0)).2).toNat+16)->CUT es (ls.flatten++t)=some (ls,t)
 | [],[],t,_,_=>rfl
 | [],_ :: _,_,h,_=>by simp at h
 | _ :: _,[],_,h,_=>by simp at h
 | e :: es,a :: ls,t,h,hj=>by
  have h0:a.length=(Yb e.2).toNat+16:=by simpa using hj 0 (by simp)
  rw[CUT,if_neg (by simp only[List.flatten_cons,List.append_assoc,Qb];omega),List.flatten_cons,List.append_assoc,List.drop_append_of_le_length (by omega),List.take_append_of_le_length (by omega)];rw[<-h0,List.drop_length,List.take_length,List.nil_append,DT es ls t (by simpa using h) (λj hj'=>by simpa using hj (j+1) (by simpa using hj'))]
def Wv (b:LI):Except Int (MAN × LI × List (LI)) :=
 if (Qp 268435456 b).2.2≠0 then .error (Qp 268435456 b).2.2
 else if (Qp 268435456 b).1.length<32 then .error 2
 else match MDEC ((Qp 268435456 b).1.take ((Qp 268435456 b).1.length - 32)) with
  | .error e=>.error e
  | .ok m=>match CUT m.es (b.drop (Qp 268435456 b).2.1) with
   | none=>.error 2
   | some x=>if x.2=[] then .ok (m,(Qp 268435456 b).1,x.1) else .error 3
theorem pD {x t:LI} (hx:x.length<=n) (hn:n<18446744073709551616):Qp n (blk x++t)=(x,(blk x).length,0):=by
 unfold Qp blk;have hg:=Ua x.length (x++t) (by omega);rw[List.append_assoc,hg,if_neg (by omega),if_neg (by simp),if_neg (by simp only;omega),if_neg (by simp only[Qb];omega)];simp only[Prod.mk.injEq,and_true];refine⟨?_,?_⟩
 ·rw[List.drop_left,show ((x.length:Int)).toNat=x.length by omega,List.take_left]
 ·rw[Qb];omega
theorem lw {m:MAN} {tg:LI} (g:Ut m) (ht:tg.length=32) (hn:(MENC m).length+32<=268435456) (he:m.es.length=ls.length) (hj:∀j,j<m.es.length->(ls.getD j []).length=(Yb (m.es.getD j ([],0)).2).toNat+16) :
 Wv (blk (MENC m++tg)++ls.flatten)=.ok (m,MENC m++tg,ls):=by
 have hl:(MENC m++tg).length=(MENC m).length+32:=by rw[Qb,ht]
 have hb:=pD (n:=268435456) (x:=MENC m++tg) (t:=ls.flatten) (by omega) (by omega);have hc:=DT m.es ls [] he hj;rw[List.append_nil] at hc;unfold Wv;rw[show ((268435456:Nat):Int)=268435456 from rfl] at hb;rw[hb,if_neg (by simp),if_neg (by simp only;omega)];simp only;rw[hl,Nat.add_sub_cancel,List.take_left,Lc g,List.drop_left];simp only;rw[hc]
 rfl
theorem Us {fn:Func} {a b c:Tmp} (h:fn.results=#[.tmp a,.tmp b,.tmp c]) (tmps:Array Value) (P:Program) (w:World):(results fn tmps).run P w=.ok (.tuple #[tmps.getD a undef,tmps.getD b undef,tmps.getD c undef]) w:=by
 simp[results,h]
theorem Oa {v0 v1 v2:Value} {l0 l1 l2:LI} (hB:W.heap[B]? = some (.cells #[v0,v1,v2] 23 (0,0)))
 (b0:Bs .u8 W v0 l0) (b1:Bs .u8 W v1 l1) (b2:Bs .u8 W v2 l2) (n0:NoCap v0) (n1:NoCap v1) (n2:NoCap v2) (hp:0<l0.length) (hl:(l0++(l1++l2)).length<=140737488355328) :
 Calls prog 28 #[.slice (some ⟨B,0,none⟩) 3 3] W λe w'=>∃v',e=.returned v'∧w'.ownsRow W.heap.size 5 1 v' (l0++(l1++l2)).length (bl (l0++(l1++l2)))∧N0 W w':=by
 have h0:cat (five l0 l1 l2 [] []) 3=l0++(l1++l2):=by simp[cat,List.range_succ,five]
 have:=VN B 3 (five v0 v1 v2 v2 v2) (five l0 l1 l2 [] []) W (by omega) (by omega)
  (λi hi=>by
   have e:W.cell? ⟨B,i,none⟩=(#[v0,v1,v2]:Array Value)[i]?:=by unfold World.cell?;simp only;rw[hB];rfl
   rw[e]
   match i,hi with
   | 0,_=>rfl
   | 1,_=>rfl
   | 2,_=>rfl)
  (λi hi=>by
   match i,hi with
   | 0,_=>exact b0
   | 1,_=>exact b1
   | 2,_=>exact b2)
  (λi hi=>by
   match i,hi with
   | 0,_=>exact n0
   | 1,_=>exact n1
   | 2,_=>exact n2)
  (by rw[h0];simp only[Qb];omega) (by rw[h0];exact hl)
 rw[h0] at this;exact this
theorem Rk (v i:Int) (t:ByteArray) (hi:Uy i) (ht:t.size<=1000000) (w:World) :
 Calls prog 71 #[.int .u64 v,.int .i64 i,.string t] w λe w'=>∃u,e=.returned u∧w'.ownsRow w.heap.size 5 1 u (Q5 v i (sb t)).length (bl (Q5 v i (sb t)))∧N0 w w':=by
 have hw:IntKind.u64.wrap i=i:=by rw[IntKind.wrap_u64];omega
 have A:=Qa (UB v 8 w (by decide));have B:=Qa (λW=>UB i 4 W (by decide));rw[show ((8:Nat):Int)=8 from rfl,Qv] at A;rw[show ((4:Nat):Int)=4 from rfl,Qv] at B;have ha:=Z6 t;have h7:=U2 (sb t) (by rw[QX];exact ht);rw[QX] at h7;have HX:Hid (fixL v 8++(fixL i 4++blk (sb t))=Q5 v i (sb t)∧(fixL v 8).length=8∧(fixL i 4).length=4∧(blk (sb t)).length<=1000010):=⟨rfl,Qv _ _,Qv _ _,by omega⟩;have K:=Qa (λ(W:World) (u:Value) (h:Bs .u8 W u (sb t)) (n:NoCap u)=>Ke u (sb t) W h n (by rw[QX];exact ht));obtain⟨X,hX⟩:=EX (fixL v 8);obtain⟨Y,hY⟩:=EX (fixL i 4);obtain⟨Z,hZ⟩:=EX (blk (sb t));rw[<-hX] at A HX;rw[<-hY] at B HX;simp only[<-hZ] at K HX;clear hX hY hZ hi ht h7;go_enter func71,ntmps71;go_wp2_with fail;refine A.o.mono ?_;rintro e w1 ⟨v1,rfl,h4,o1⟩;obtain⟨a1,c1,rfl⟩:=QK h4;have B1:=Qa (B.o w1);have h9:=Qa h4;have O1:=Qa o1;clear h4 o1 A B;go_wp2_with fail;refine B1.o.mono ?_;rintro e w2 ⟨v2,rfl,h5,o2⟩;obtain⟨a2,c2,rfl⟩:=QK h5;obtain⟨c,hc⟩:=EX (grownCap w2 t.size 0 5);have h8:=grownCap_ge w2 t.size 0 5;have hcw:=ha w2;rw[<-hc] at h8 hcw;have oz:N0 w2 (w2.drew.alloc (Wk t c)):=VG.drew.alloc _;have K1:=Qa (K.o (w2.drew.alloc (Wk t c)) (.slice (some ⟨w2.heap.size,0,none⟩) t.size c) (Xn (YH rfl) (by omega)) (NoCap.some _ _ _));have R:=Qa (Vz ((h9.o:w1.ownsRow w.heap.size 5 1 _ 8 (X.map (Value.int .u8)))) (Vz h5 (Vz o2 (Vz oz (O1.o.same (o2.same oz))))));clear h5 o2 oz B1 h9 O1 h8 ha hc;go_wp2_with fail;refine K1.o.mono ?_;rintro e w3 ⟨v3,rfl,h0,o3⟩;obtain⟨a3,c3,rfl⟩:=QK h0;obtain⟨r1,r2,r3,r4,r5⟩:=R.o;have oa:N0 w3 (w3.alloc (.cells #[.slice a1 8 c1,.slice a2 4 c2,.slice a3 Z.length c3] 23)):=VG.alloc _
 have C:=Qa (Oa (heap_alloc_new w3 (.cells #[.slice a1 8 c1,.slice a2 4 c2,.slice a3 Z.length c3] 23))
  ((Bs.of_own (k:=.u8) (E:=5) (lo:=w.heap.size) (by rw[HX.o.2.1];exact r1)).past (r3.same (r4.same (o3.same oa))))
  ((Bs.of_own (k:=.u8) (E:=5) (lo:=w1.heap.size) (by rw[HX.o.2.2.1];exact r2)).past (r4.same (o3.same oa)))
  ((Bs.of_own (k:=.u8) h0).past oa) (NoCap.of_own r1) (NoCap.of_own r2) (NoCap.of_own h0) (by have:=HX.o.2.1;omega) (by have h1:=HX.o.2.1;have h2:=HX.o.2.2.1;have h3:=HX.o.2.2.2;simp only[Qb];omega))
 rw[HX.o.1] at C;have O3:=Qa (r5.same (o3.same oa));obtain⟨m,hm⟩:=EX Z.length;rw[<-hm] at C O3 ⊢;clear h0 o3 oa r1 r2 r3 r4 r5 R K1 K hm;go_wp2_with fail;refine C.o.mono ?_;rintro e w4 ⟨v4,rfl,h6,o4⟩;have F:=Qa (Vz (Qr h6 O3.o.size) (O3.o.same o4));clear h6 o4 C O3;go_wp2;go_ret;exact⟨_,rfl,F.o⟩
theorem ND (vk:Value) (k:LI) (v i:Int) (k8:U8 k) (w:World) (bk:Bs .u8 w vk k) (h32:k.length=32) (hi:Uy i) :
 Calls prog 68 #[vk,.int .u64 v,.int .i64 i] w λe w'=>∃a b,e=.returned (.tuple #[a,b,.int .i64 0])∧w'.ownsRow w.heap.size 5 1 a 32 (bl (QP k 2 []))∧w'.ownsRow w.heap.size 5 1 b 12 (bl (QZ k v i))∧N0 w w':=by
 have A:=Qa (Rd vk k k8 w bk)
 have e1:QT k 2 []=QP k 2 []:=by unfold QT;rw[if_pos h32];rfl
 have e2:U7 k v i=QZ k v i:=by unfold U7;rw[if_pos h32,if_pos hi]
 have e3:UD k i=0:=by unfold UD;rw[if_pos h32,if_pos hi]
 have B:=Qa (λW (o:N0 w W)=>MC vk k v i k8 W (bk.past o) ⟨by omega,by omega⟩);rw[Xf h32,e1,UY] at A;simp only[e2,e3,Vg] at B;clear e1 e2 e3 k8 bk h32 hi;go_enter func68,ntmps68;go_wp2_with fail;refine A.o.mono ?_;rintro e w1 ⟨a,rfl,h0,o1⟩;have B1:=Qa (B.o w1 o1);have F1:=Qa (Vz h0 o1);clear h0 o1 A B;go_wp2_with fail;refine B1.o.mono ?_;rintro e w2 ⟨b,rfl,h1,o2⟩;have F2:=Qa (Vz (o2.own F1.o.1 (λ_ _ f=>f)) (Vz (Qr h1 F1.o.2.size) (F1.o.2.same o2)));clear h1 o2 B1 F1;go_wp2;exact bodyPost_ret (Us rfl _ _ _) rfl ⟨_,_,rfl,F2.o⟩
theorem Ii (vk:Value) (k:LI) (v i:Int) (k8:U8 k) (w:World) (bk:Bs .u8 w vk k) (hb:-9223372036854775808<=i∧i<=9223372036854775807) (h:¬(k.length=32∧Uy i)) :
 Calls prog 68 #[vk,.int .u64 v,.int .i64 i] w λe w'=>e=.returned (.tuple #[.slice none 0 0,.slice none 0 0,.int .i64 1])∧N0 w w':=by
 have A:=Qa (Rd vk k k8 w bk)
 by_cases h32:k.length=32
 ·have hi:¬Uy i:=λq=>h ⟨h32,q⟩
  have e3:UD k i=1:=by unfold UD;rw[if_pos h32,if_neg hi]
  have B:=Qa (λW (o:N0 w W)=>MC vk k v i k8 W (bk.past o) hb);rw[Xf h32] at A;simp only[e3] at B;clear e3 k8 bk h32 hi hb h;go_enter func68,ntmps68;go_wp2_with fail;refine A.o.mono ?_;rintro e w1 ⟨a,rfl,h0,o1⟩;have B1:=Qa (B.o w1 o1);have F1:=Qa o1;clear h0 o1 A B;go_wp2_with fail;refine B1.o.mono ?_;rintro e w2 ⟨b,rfl,h1,o2⟩;have F2:=Qa (F1.o.same o2);clear h1 o2 B1 F1;go_wp2;exact bodyPost_ret (Us rfl _ _ _) rfl ⟨rfl,F2.o⟩
 ·rw[Hi h32] at A
  clear k8 bk h32 hb h;go_enter func68,ntmps68;go_wp2_with fail;refine A.o.mono ?_;rintro e w1 ⟨a,rfl,h0,o1⟩;have F1:=Qa o1;clear h0 o1 A;go_wp2;exact bodyPost_ret (Us rfl _ _ _) rfl ⟨rfl,F1.o⟩
theorem vB (t:ByteArray) (u:Value) (s:List (Int × Int)) (w:World) (h:Sps w u s) (hg:Gs s) (hm:s.length<=maxLen) (hm2:t.size<=maxLen) (hT:Tab w) :
 Calls prog 69 #[.agg #[.string t,u]] w λe w'=>∃v n,e=.returned (.tuple #[v,.int .i64 n,.int .i64 (Yp (sb t,s))])∧w'.ownsRow w.heap.size 5 1 v (XM (sb t,s)).length (bl (XM (sb t,s)))∧(Yp (sb t,s)=0->n=KO (sb t,s))∧N0 w w':=by
 obtain⟨au,nu,cu,rfl⟩:∃a n c,u=.slice a n c:=by obtain⟨a,c,e,_⟩:=h;exact⟨_,_,_,e⟩
 have oA:N0 w (w.alloc (.cells #[.string t,.slice au nu cu] 46)):=VG.alloc _;have A:=Qa (CH t (.slice au nu cu) s (w.alloc (.cells #[.string t,.slice au nu cu] 46)) (h.past oA) hg hm hm2 (hT.past oA));have OA:=Qa oA;obtain⟨b,hb⟩:=EX (Qy (sb t,s));obtain⟨c,hc⟩:=EX ((ENCC (sb t) s).2);rw[<-hc,show (ENCC (sb t) s).1=b from hb.symm] at A
 have eE:Yp (sb t,s)=if c=0 then Uh b else c:=by rw[hc,hb];rfl
 have eT:XM (sb t,s)=if Yp (sb t,s)=0 then PADL b else []:=by rw[hb];rfl
 have eB:KO (sb t,s)=if Yp (sb t,s)=0 then (QR b.length:Int) else 0:=by rw[hb];rfl
 clear h hg hm hm2 hT oA hb hc
 by_cases h0:c=0
 ·rw[if_pos h0] at eE
  subst h0;have K:=Qa (λW=>Z4 (b.length:Int) W)
  by_cases h1:b.length<=4194300
  ·have e0:Uh b=0:=by unfold Uh;rw[if_pos h1]
   rw[e0] at eE;rw[eE,if_pos rfl] at eT eB;have P:=Qa (λ(W:World) (v:Value) (h:Bs .u8 W v b)=>Sk v b W h)
   have q1:YK (b.length:Int)=0:=by unfold YK;rw[if_neg (by omega),if_neg (by omega)]
   have q2:UZ (b.length:Int)=QR b.length:=by unfold UZ;rw[if_pos (by omega)];rfl
   simp only[e0,show KD b=PADL b by unfold KD;rw[if_pos h1]] at P;simp only[q1,q2] at K;rw[eE,eT];rw[<-eB] at K;clear h1 e0 q1 q2 eE eT eB;obtain⟨n,hn⟩:=EX b.length;obtain⟨bk,h4⟩:=EX (KO (sb t,s));rw[<-h4] at K ⊢;rw[<-hn] at K A;clear h4;go_enter func69,ntmps69;go_wp2_with fail;refine A.o.mono ?_;rintro e w1 ⟨v1,rfl,h2,o1⟩;have K1:=Qa (K.o w1);have P1:=Qa (λW (o:N0 w1 W)=>P.o W v1 ((Bs.of_own (k:=.u8) (E:=5) (lo:=(w.alloc (.cells #[.string t,.slice au nu cu] 46)).heap.size) (by rw[<-hn];exact h2)).past o));obtain⟨a1,c1,rfl⟩:=QK h2;have O1:=Qa (OA.o.same o1);clear h2 o1 A K P OA hn;go_wp2_with fail;refine K1.o.mono ?_;rintro e w2 ⟨rfl,o2⟩;have P2:=Qa (P1.o w2 o2);have O2:=Qa (O1.o.same o2);clear o2 P1 K1 O1;go_wp2_with fail;refine P2.o.mono ?_;rintro e w3 ⟨v3,rfl,h3,o3⟩;have F:=Qa (Vz (Qr h3 O2.o.size) (O2.o.same o3));clear h3 o3 P2 O2;go_wp2;exact bodyPost_ret (Us rfl _ _ _) rfl ⟨_,_,rfl,F.o.1,λ_=>rfl,F.o.2⟩
  ·have e0:Uh b=4:=by unfold Uh;rw[if_neg h1]
   rw[e0] at eE;rw[eE,if_neg (by decide)] at eT
   have q1:YK (b.length:Int)=4:=by unfold YK;rw[if_neg (by omega),if_pos (by omega)]
   simp only[q1] at K;rw[eE,eT];clear h1 e0 q1 eE eT eB;obtain⟨n,hn⟩:=EX b.length;rw[<-hn] at K A;clear hn;go_enter func69,ntmps69;go_wp2_with fail;refine A.o.mono ?_;rintro e w1 ⟨v1,rfl,h2,o1⟩;have K1:=Qa (K.o w1);obtain⟨a1,c1,rfl⟩:=QK h2;have O1:=Qa (OA.o.same o1);clear h2 o1 A K OA;go_wp2_with fail;refine K1.o.mono ?_;rintro e w2 ⟨rfl,o2⟩;have O2:=Qa (O1.o.same o2);clear o2 K1 O1;go_wp2;exact bodyPost_ret (Us rfl _ _ _) rfl ⟨_,_,rfl,Xh,λq=>absurd q (by decide),O2.o⟩
 ·rw[if_neg h0] at eE
  rw[eE,if_neg h0] at eT;rw[eE,eT]
  have hne:(c != 0)=true:=by simpa using h0
  have h0':=Qa h0;clear eE eT eB h0;go_enter func69,ntmps69;go_wp2_with fail;refine A.o.mono ?_;rintro e w1 ⟨v1,rfl,h2,o1⟩;have O1:=Qa (OA.o.same o1);clear h2 o1 A OA;go_wp2;exact bodyPost_ret (Us rfl _ _ _) rfl ⟨_,_,rfl,Xh,λq=>absurd q h0'.o,O1.o⟩
theorem Tryz.sizeCk:(prog.info? 46).map (·.size)=some 2:=by kernel_rfl
theorem Zx {b:Nat} {x y:Value} (h:W.heap[b]? = some (.cells #[x,y] 46 (0,0))):(loadVar 46 ⟨b,0,none⟩).run prog W=.ok (.agg #[x,y]) W :=
 run_loadVar_row W b 46 46 _ (0,0) _ h underlying46 rfl Tryz.sizeCk
theorem Qs {x y:Value} {T:TypeId} (h:W.heap[B]? = some (.cells #[x,y] T (0,0))):W.cell? ⟨B,0,none⟩=some x∧W.cell? ⟨B,1,none⟩=some y∧W.frozen? ⟨B,0,none⟩=false∧W.frozen? ⟨B,1,none⟩=false :=
 ⟨by simp[World.cell?,h],by simp[World.cell?,h],by simp[World.frozen?,h],by simp[World.frozen?,h]⟩
theorem rj (vk:Value) (k:LI) (v i:Int) (t:ByteArray) (u:Value) (s:List (Int × Int)) (w:World) (bk:Bs .u8 w vk k) (k8:U8 k) (hb:-9223372036854775808<=i∧i<=9223372036854775807)
 (h:Sps w u s) (hg:Gs s) (hm:s.length<=maxLen) (hm2:t.size<=maxLen) (hT:Tab w) :
 Calls prog 45 #[vk,.int .u64 v,.int .i64 i,.agg #[.string t,u]] w λe w'=>∃x,e=.returned (.tuple #[x,.int .i64 (Ye k i (sb t,s)),.int .i64 (Ym k i (sb t,s))])∧w'.ownsRow w.heap.size 5 1 x (Yd k v i (sb t,s)).length (bl (Yd k v i (sb t,s)))∧N0 w w':=by
 obtain⟨au,nu,cu,rfl⟩:∃a n c,u=.slice a n c:=by obtain⟨a,c,e,_⟩:=h;exact⟨_,_,_,e⟩
 have oA:N0 w (w.alloc (.cells #[.string t,.slice au nu cu] 46)):=VG.alloc _;have G0:=Qa (heap_alloc_new w (.cells #[.string t,.slice au nu cu] 46));have OA:=Qa oA
 by_cases h1:k.length=32∧Uy i
 ·obtain⟨hd,hi⟩:=h1
  have A:=Qa (ND vk k v i k8 _ (bk.past oA) hd hi);have P:=Qa (λW (o:N0 w W)=>vB t (.slice au nu cu) s W (h.past o) hg hm hm2 (hT.past o))
  have eE:Ym k i (sb t,s)=Yp (sb t,s):=by unfold Ym;rw[if_pos hd,if_pos hi]
  have eT:Yd k v i (sb t,s)=if Yp (sb t,s)=0 then YG (QP k 2 []) (QZ k v i) (Q5 v i (sb t)) (PADL (Qy (sb t,s))) else []:=by unfold Yd;rw[eE]
  have eB:Ye k i (sb t,s)=if Yp (sb t,s)=0 then KO (sb t,s) else 0:=by unfold Ye KO;rw[eE];split <;> rfl
  have eP:XM (sb t,s)=if Yp (sb t,s)=0 then PADL (Qy (sb t,s)) else []:=rfl
  have h8:U8 (Qy (sb t,s)):=Xo ⟨Vk t,hg⟩
  by_cases h0:Yp (sb t,s)=0
  ·obtain⟨q1,q2,q3,q4⟩:=Ze h0
   rw[QX] at q1;rw[if_pos h0] at eT eB eP;rw[eE,h0,eT,eB];simp only[h0,eP] at P;have hf:U8 (PADL (Qy (sb t,s))):=ZF h8
   have hpl:(PADL (Qy (sb t,s))).length<=4194304:=by rw[K9 _ q4];exact Zl _
   have BS:=Qa (λW=>Rk v i t hi (by omega) W)
   have hbl:(Q5 v i (sb t)).length<=200:=by have:=Aj (v:=v) (i:=i) (t:=sb t) (by rw[QX];omega);rw[QX] at this;omega
   have hl:U8 (Q5 v i (sb t)):=SW (Vk t);have hn:=VJ (QP k 2 []) (QZ k v i) (Q5 v i (sb t)) (PADL (Qy (sb t,s)));have kn:KN (QP k 2 []) (QZ k v i):=⟨UY _ _ _,Vg _ _ _⟩;have SL:=Qa (λ(W:World) (a b c d:Value) (h1:Bs .u8 W a (QP k 2 [])) (h2:Bs .u8 W b (QZ k v i)) (h3:Bs .u8 W c (Q5 v i (sb t))) (n3:NoCap c) (h4:Bs .u8 W d (PADL (Qy (sb t,s))))=>xt a b c d _ _ _ _ kn (Vf _ _ _) (Ak _ _ _) hl hf (by omega) (by omega) W h1 h2 h3 n3 h4);simp only[<-hn] at SL;have L:=Qa (Vz (UY k 2 []) (Vg k v i));clear eE eT eB eP h0 q1 q2 q3 q4 hf hpl hbl hl hn kn h8 bk k8 hb h hg hm hm2 hT hd hi oA;generalize YG (QP k 2 []) (QZ k v i) (Q5 v i (sb t)) (PADL (Qy (sb t,s)))=Y at *;generalize QP k 2 []=k1 at *;generalize QZ k v i=k2 at *;generalize Q5 v i (sb t)=X at *;generalize PADL (Qy (sb t,s))=p at *;generalize KO (sb t,s)=n at *;go_enter func45,ntmps45;go_wp2_with fail;refine A.o.mono ?_;rintro e w1 ⟨a,b,rfl,h6,h5,o1⟩;have G1:=o1.heap G0.o (λf=>f);have hk:=Zx G1;obtain⟨c0,c1,_,_⟩:=Qs G1;have P1:=Qa (P.o w1 (OA.o.same o1));have B1:Hid (Bs .u8 w1 a k1∧Bs .u8 w1 b k2):=⟨Bs.of_own (k:=.u8) (E:=5) (lo:=(w.alloc (.cells #[.string t,.slice au nu cu] 46)).heap.size) (by rw[L.o.1];exact h6),Bs.of_own (k:=.u8) (E:=5) (lo:=(w.alloc (.cells #[.string t,.slice au nu cu] 46)).heap.size) (by rw[L.o.2];exact h5)⟩;have O1:=Qa (OA.o.same o1);have H1:=Qa G1;clear h6 h5 o1 A P OA G0 G1 L;go_wp2_with fail;refine P1.o.mono ?_;rintro e w2 ⟨x2,n2,rfl,h7,he,o2⟩;obtain rfl:=he trivial;have G2:=o2.heap H1.o (λf=>f);clear c0 c1 hk;obtain⟨c0,c1,_,_⟩:=Qs G2;have hh:=Qa (BS.o w2);have B2:=Qa (Vz (B1.o.1.past o2) (Vz (B1.o.2.past o2) (show Bs .u8 w2 x2 p from Bs.of_own h7)));have O2:=Qa (O1.o.same o2);clear h7 he o2 P1 B1 O1 G2 H1 BS;go_wp2_with fail;refine hh.o.mono ?_;rintro e w3 ⟨x3,rfl,h9,o3⟩;have hj:=Qa (SL.o w3 a b x3 x2 (B2.o.1.past o3) (B2.o.2.1.past o3) (Bs.of_own h9) (NoCap.of_own h9) (B2.o.2.2.past o3));have O3:=Qa (O2.o.same o3);clear h9 o3 hh B2 O2 SL c0 c1;go_wp2_with fail;refine hj.o.mono ?_;rintro e w4 ⟨x4,rfl,ha,o4⟩;have F:=Qa (Vz (Qr ha O3.o.size) (O3.o.same o4));clear ha o4 hj O3;go_wp2;exact bodyPost_ret (Us rfl _ _ _) rfl ⟨_,rfl,F.o⟩
  ·rw[if_neg h0] at eT eB eP
   rw[eE,eT,eB]
   have hne:(Yp (sb t,s) != 0)=true:=by simpa using h0
   clear eE eT eB eP h8 bk k8 hb h hg hm hm2 hT hd hi oA;generalize Yp (sb t,s)=c at *;clear h0;go_enter func45,ntmps45;go_wp2_with fail;refine A.o.mono ?_;rintro e w1 ⟨a,b,rfl,h6,h5,o1⟩;have G1:=o1.heap G0.o (λf=>f);have hk:=Zx G1;obtain⟨c0,c1,_,_⟩:=Qs G1;have P1:=Qa (P.o w1 (OA.o.same o1));have O1:=Qa (OA.o.same o1);clear h6 h5 o1 A P OA G0 G1;go_wp2_with fail;refine P1.o.mono ?_;rintro e w2 ⟨x2,n2,rfl,h7,he,o2⟩;have O2:=Qa (O1.o.same o2);clear h7 he o2 P1 O1;go_wp2;exact bodyPost_ret (Us rfl _ _ _) rfl ⟨_,rfl,Xh,O2.o⟩
 ·have A:=Qa (Ii vk k v i k8 _ (bk.past oA) hb h1)
  have eE:Ym k i (sb t,s)=1:=by
   unfold Ym
   by_cases q:k.length=32
   ·rw[if_pos q,if_neg (λz=>h1 ⟨q,z⟩)]
   ·rw[if_neg q]
  have eT:Yd k v i (sb t,s)=[]:=by unfold Yd;rw[eE];rfl
  have eB:Ye k i (sb t,s)=0:=by unfold Ye;rw[eE];rfl
  rw[eE,eT,eB];clear eE eT eB bk k8 hb h hg hm hm2 hT h1 oA G0;go_enter func45,ntmps45;go_wp2_with fail;refine A.o.mono ?_;rintro e w1 ⟨rfl,o1⟩;have O1:=Qa (OA.o.same o1);clear o1 A OA;go_wp2;exact bodyPost_ret (Us rfl _ _ _) rfl ⟨_,rfl,Xh,O1.o⟩
theorem Tryz.sizeStt:(prog.info? 31).map (·.size)=some 2:=by kernel_rfl
theorem VT {b:Nat} {x y:Value} (h:W.heap[b]? = some (.cells #[x,y] 31 (0,0))):(loadVar 31 ⟨b,0,none⟩).run prog W=.ok (.agg #[x,y]) W :=
 run_loadVar_row W b 31 31 _ (0,0) _ h underlying31 rfl Tryz.sizeStt
theorem Xa (x:Value) (ao:Option Addr) (n c:Nat) (w:World) :
 Calls prog 43 #[.agg #[x,.slice ao n c]] w λe w'=>e=.returned (.bool (decide (0<n)))∧N0 w w':=by
 have O:=Qa ((Only.refl (λ_=>False) w).alloc (.cells #[x,.slice ao n c] 31))
 have e:decide ((0:Int)<(n:Int))=decide (0<n):=by simp
 go_enter func43,ntmps43;go_wp2;go_ret;exact⟨by simp,O.o⟩
theorem JI (x:Value) (ao:Option Addr) (n c:Nat) (w:World) :
 Calls prog 37 #[.agg #[x,.slice ao n c]] w λe w'=>e=.returned (.bool (decide (n=0∨n=32)))∧N0 w w':=by
 have G0:=Qa (heap_alloc_new w (.cells #[x,.slice ao n c] 31));have O:=Qa ((Only.refl (λ_=>False) w).alloc (.cells #[x,.slice ao n c] 31));have A:=Qa (Xa x ao n c (w.alloc (.cells #[x,.slice ao n c] 31)))
 by_cases h:0<n
 ·rw[Qe h] at A
  have e:decide (n=0∨n=32)=((n:Int) == 32):=by
   by_cases q:n=32
   ·subst q;rfl
   ·rw[Qi (by omega)];symm;rw[beq_eq_false_iff_ne];omega
  rw[e];obtain⟨b,hb⟩:=EX (((n:Int) == 32));rw[<-hb];have HB:=Qa hb.symm;clear h e hb;go_enter func37,ntmps37;go_wp2_with fail;refine A.o.mono ?_;rintro e w1 ⟨rfl,o1⟩;obtain⟨c0,c1,_,_⟩:=Qs (o1.heap G0.o (λf=>f));have F:=Qa (O.o.same o1);clear A O o1 G0;go_wp2;go_ret;exact⟨by rw[<-HB.o];simp,F.o⟩
 ·rw[Qi h] at A
  rw[Qe (by omega:n=0∨n=32)];clear h;go_enter func37,ntmps37;go_wp2_with fail;refine A.o.mono ?_;rintro e w1 ⟨rfl,o1⟩;have F:=Qa (O.o.same o1);clear A O o1 G0;go_wp2;go_ret;exact⟨rfl,F.o⟩
theorem tP (am:Option Addr) (M cm p:Nat) (ao:Option Addr) (n c v q:Nat) (w:World) :
 Calls prog 21 #[.slice am M cm,.agg #[.int .u64 p,.slice ao n c],.int .u64 v,.int .i64 q] w λe w' =>
  e=.returned (.int .i64 (if M=32∧(n=0∨n=32)∧v≠18446744073709551615 then (if 0<n∧v<=p then 6 else if 1048576<q then 4 else 0) else 1))∧N0 w w':=by
 have G0:=Qa (heap_alloc_new w (.cells #[.int .u64 p,.slice ao n c] 31));have O:=Qa ((Only.refl (λ_=>False) w).alloc (.cells #[.int .u64 p,.slice ao n c] 31));have R:=Qa (JI (.int .u64 p) ao n c (w.alloc (.cells #[.int .u64 p,.slice ao n c] 31)));have A:=Qa (λW=>Xa (.int .u64 p) ao n c W)
 by_cases hM:M=32
 ·have d1:((M:Int) != 32)=false:=by subst hM;rfl
  by_cases hr:n=0∨n=32
  ·rw[Qe hr] at R
   by_cases hv:v=18446744073709551615
   ·have d2:((v:Int) == 18446744073709551615)=true:=by subst hv;rfl
    rw[if_neg (λh=>h.2.2 hv)];clear hM hr hv A;go_enter func21,ntmps21;go_wp2_with fail;refine R.o.mono ?_;rintro e w1 ⟨rfl,o1⟩;have F:=Qa (O.o.same o1);clear R O o1 G0;go_wp2;go_ret;exact⟨rfl,F.o⟩
   ·have d2:((v:Int) == 18446744073709551615)=false:=by rw[beq_eq_false_iff_ne];omega
    rw[if_pos ⟨hM,hr,hv⟩];obtain⟨t,ht⟩:=EX (decide (0<n));simp only[<-ht] at A
    have e0:(if 0<n∧v<=p then (6:Int) else if 1048576<q then 4 else 0)=if t=true∧v<=p then 6 else if 1048576<q then 4 else 0:=by rw[ht];simp
    rw[e0];clear hM hr hv ht e0
    by_cases h1:t=true∧v<=p
    ·obtain⟨rfl,h2⟩:=h1
     rw[if_pos ⟨rfl,h2⟩];have d3:decide (v<=p)=true:=Qe h2;have d4:decide ((v:Int)<=(p:Int))=true:=Qe (by omega);clear h2;go_enter func21,ntmps21;go_wp2_with fail;refine R.o.mono ?_;rintro e w1 ⟨rfl,o1⟩;have G1:=o1.heap G0.o (λf=>f);obtain⟨c0,c1,_,_⟩:=Qs G1;have A1:=Qa (A.o w1);have F:=Qa (O.o.same o1);have H1:=Qa G1;clear R O o1 G0 G1 A;go_wp2_with fail;refine A1.o.mono ?_;rintro e w2 ⟨rfl,o2⟩;clear c0 c1;obtain⟨c0,c1,_,_⟩:=Qs (o2.heap H1.o (λf=>f));have F2:=Qa (F.o.same o2);clear F o2 A1 H1;go_wp2;go_ret;exact⟨rfl,F2.o⟩
    ·rw[if_neg h1]
     obtain⟨z,hz⟩:=EX (decide (1048576<q))
     have hz2:decide ((1048576:Int)<(q:Int))=z:=by rw[hz];exact decide_eq_decide.2 (by omega)
     have e0:(if 1048576<q then (4:Int) else 0)=if z=true then 4 else 0:=by rw[hz];simp
     rw[e0];have hz3:=hz.symm;clear e0 hz
     cases ht:t with
     | false =>
      subst ht
      cases z
      all_goals (
       clear h1;go_enter func21,ntmps21;go_wp2_with fail;refine R.o.mono ?_;rintro e w1 ⟨rfl,o1⟩;have G1:=o1.heap G0.o (λf=>f);obtain⟨c0,c1,_,_⟩:=Qs G1;have A1:=Qa (A.o w1);have F:=Qa (O.o.same o1);clear R O o1 G0 G1 A;go_wp2_with fail;refine A1.o.mono ?_;rintro e w2 ⟨rfl,o2⟩;have F2:=Qa (F.o.same o2);clear F o2 A1;go_wp2;go_ret
       exact⟨rfl,F2.o⟩)
     | true =>
      subst ht;have d3:decide (v<=p)=false:=Qi (λh=>h1 ⟨rfl,h⟩);have d4:decide ((v:Int)<=(p:Int))=false:=Qi (λh=>h1 ⟨rfl,by omega⟩)
      cases z
      all_goals (
       clear h1;go_enter func21,ntmps21;go_wp2_with fail;refine R.o.mono ?_;rintro e w1 ⟨rfl,o1⟩;have G1:=o1.heap G0.o (λf=>f);obtain⟨c0,c1,_,_⟩:=Qs G1;have A1:=Qa (A.o w1);have F:=Qa (O.o.same o1);have H1:=Qa G1;clear R O o1 G0 G1 A;go_wp2_with fail;refine A1.o.mono ?_;rintro e w2 ⟨rfl,o2⟩;clear c0 c1;obtain⟨c0,c1,_,_⟩:=Qs (o2.heap H1.o (λf=>f));have F2:=Qa (F.o.same o2);clear F o2 A1 H1;go_wp2;go_ret
       exact⟨rfl,F2.o⟩)
  ·rw[Qi hr] at R
   rw[if_neg (λh=>hr h.2.1)];clear hM hr A;go_enter func21,ntmps21;go_wp2_with fail;refine R.o.mono ?_;rintro e w1 ⟨rfl,o1⟩;have F:=Qa (O.o.same o1);clear R O o1 G0;go_wp2;go_ret;exact⟨rfl,F.o⟩
 ·have d1:((M:Int) != 32)=true:=by rw[bne_iff_ne];omega
  rw[if_neg (λh=>hM h.1)];clear hM A R G0;go_enter func21,ntmps21;go_wp2;go_ret;exact⟨rfl,O.o⟩
theorem yT (x vr:Value) (r:LI) (w:World) (hr:Bs .u8 w vr r) (nr:NoCap vr) :
 Calls prog 24 #[.agg #[x,vr]] w λe w'=>∃u,e=.returned u∧Bs .u8 w' u (WP r)∧NoCap u∧N0 w w':=by
 obtain⟨ao,c,rfl⟩:=hr.len;have G0:=Qa (heap_alloc_new w (.cells #[x,.slice ao r.length c] 31));have oA:N0 w (w.alloc (.cells #[x,.slice ao r.length c] 31)):=VG.alloc _;have A:=Qa (Xa x ao r.length c (w.alloc (.cells #[x,.slice ao r.length c] 31)));have O:=Qa oA;have B:=Qa (Vz (hr.past oA) nr)
 by_cases h:r.length=0
 ·rw[Qi (by omega:¬0<r.length)] at A
  have e:WP r=List.replicate 32 0:=if_pos h;rw[e];have MK:=Qa (λW=>Z7 W 32 (by omega));obtain⟨n,hn⟩:=EX r.length;rw[<-hn] at A O G0 ⊢;clear hr nr h e B hn oA;go_enter func24,ntmps24;go_wp2_with fail;refine A.o.mono ?_;rintro e w1 ⟨rfl,o1⟩;obtain⟨wm,hmk,h0,om⟩:=MK.o w1;rw[show ((32:Nat):Int)=32 from rfl] at hmk;have F:=Qa (Vz (h0.bs 32 (by simp)) (O.o.same (o1.same om)));clear A O o1 G0 MK h0 om;go_wp2;go_ret;exact⟨_,rfl,F.o.1,NoCap.some _ _ _,F.o.2⟩
 ·rw[Qe (by omega:0<r.length)] at A
  have e:WP r=r:=if_neg h;rw[e];obtain⟨n,hn⟩:=EX r.length;rw[<-hn] at A O G0 B ⊢;clear hr nr h e hn oA;go_enter func24,ntmps24;go_wp2_with fail;refine A.o.mono ?_;rintro e w1 ⟨rfl,o1⟩;obtain⟨c0,c1,_,_⟩:=Qs (o1.heap G0.o (λf=>f));have F:=Qa (Vz (B.o.1.past o1) (Vz B.o.2 (O.o.same o1)));clear A O o1 G0 B;go_wp2;go_ret;exact⟨_,rfl,F.o.1,F.o.2⟩
theorem Tryz.infoRows:(prog.info? 23).map (λi=>(i.zero,i.size,i.bytes))=some (some (.slice none 0 0),1,24):=by kernel_rfl
theorem Fx (w:World) (t:TypeId) (vs:List Value) {base:Nat} (hb:base<=w.heap.size) (hl:vs.length<=maxLen):(w.alloc (.cells vs.toArray t)).ownsRow base t 1 (.slice (some ⟨w.heap.size,0,none⟩) vs.length vs.length) vs.length vs :=
 ⟨(Nat.mul_one _).symm,.inr ⟨w.heap.size,vs.length,vs.toArray,rfl,hb,Blk.new w t vs,Zu,hl,by rw[List.size_toArray,Nat.mul_one],by rw[Nat.mul_one];exact List.take_length⟩⟩
def VS (w:World) (u:Value) (ys:List Value):Prop :=
 ∃ao cap,u=.slice ao ys.length cap∧NoCap u∧(∀y∈ys,y.oneCell'=true)∧(ao=none->ys=[])∧∀ad,ao=some ad->∀j y,ys[j]? = some y->w.cell? (ad.add j)=some y
theorem VS.of_own {lo n:Nat} {e:TypeId} {u:Value} {ys:List Value} (h:w.ownsRow lo e 1 u n ys) (h1:∀y∈ys,y.oneCell'=true):VS w u ys:=by
 have hl:=h.1
 rcases h.2 with ⟨rfl,h0⟩ | ⟨g,cap,cur,rfl,hb,hg,hc,r⟩
 ·have:ys=[]:=List.eq_nil_of_length_eq_zero (by omega)
  subst this;exact⟨none,0,rfl,NoCap.nil,h1,λ_=>rfl,λad e=>by cases e⟩
 ·refine⟨_,cap,by rw[show ys.length=n by omega],NoCap.some _ _ _,h1,λe=>by (cases e),λad e j y hy=>?_⟩
  cases e
  have hj:=(List.getElem?_eq_some_iff.1 hy).1;have:=h.cellAt j (by omega);rw[Go.WideShapes.add_plain,Nat.zero_add,this,hy]
theorem Is {P:Program} {w:World} {o:Oper} {a:Act} {K:Act->World->Prop} {Q:Exit->Act->World->Prop} (s x:Operand) (t:TypeId)
 (ho:o.op=.call { callee:=.builtin .append,args:=#[s,x],argTypes:=#[t,t] })
 (base:Nat) (e:TypeId) (i:TypeInfo) (z:Value) (bytes:Nat) (ht:P.underlying t=some (.slice e)) (hi:P.info? e=some i) (hz:i.zero=some z)
 (hsize:i.size=1) (hby:i.bytes=bytes) (hzs:z.cells.size=1)
 (v:Value) (n:Nat) (xs:List Value) (hs:a.eval s=v) (hown:w.ownsRow base e 1 v n xs)
 (u:Value) (ys:List Value) (hx:a.eval x=u) (hb:VS w u ys)
 (h63:n+ys.length<=maxLen) (hbytes:(n+ys.length)*bytes<=140737488355328) (hbase:base<=w.heap.size)
 (h:∀v' w',w'.ownsRow base e 1 v' (n+ys.length) (xs++ys)->w.grownBy w' v.ownBlock->K (a.put o.dst v') w') :
 Oper.wp P o a w K Q:=by
 obtain⟨ao,cap,rfl,hnc,h4,h3,h2⟩:=hb
 cases ao with
 | none =>
  have h0:ys=[]:=h3 rfl;subst h0;have hc:cap=0:=hnc _ _ rfl;subst hc;have h1:=run_append_owned_none (P:=P) (w:=w) base t o.type e i 1 ht hi v n xs hown;have hK:=h v w (by simpa using hown) (World.grownBy.refl _ _);unfold Oper.wp;simp[execOp,ho,resolve,invoke,builtin,hs,hx,h1,Result.andThen];exact hK
 | some ad =>
  obtain⟨v',w',h1,r1,r2,_⟩:=run_append_own_at (P:=P) w base t o.type e i z 1 bytes ht hi hz hsize hby hzs (by omega) v n xs hown ad ys.length cap ys (by simp) (h2 ad rfl) h4 h63 hbytes hbase;unfold Oper.wp;simp[execOp,ho,resolve,invoke,builtin,hs,hx,h1,Result.andThen];exact h v' w' r1 r2
theorem Rc {P:Program} (w:World) {ops:Array Oper} {rest:List Oper} {o:Oper} {a:Act} {Q:Exit->Act->World->Prop} (hw:Region.wanted o (yielded ops a.tmps)=true) (s x:Operand) (t:TypeId)
 (ho:o.op=.call { callee:=.builtin .append,args:=#[s,x],argTypes:=#[t,t] })
 (base:Nat) (e:TypeId) (i:TypeInfo) (z:Value) (bytes:Nat) (ht:P.underlying t=some (.slice e)) (hi:P.info? e=some i) (hz:i.zero=some z)
 (hsize:i.size=1) (hby:i.bytes=bytes) (hzs:z.cells.size=1)
 (v:Value) (n:Nat) (xs:List Value) (hs:a.eval s=v) (hown:w.ownsRow base e 1 v n xs)
 (u:Value) (ys:List Value) (hx:a.eval x=u) (hb:VS w u ys)
 (h63:n+ys.length<=maxLen) (hbytes:(n+ys.length)*bytes<=140737488355328) (hbase:base<=w.heap.size)
 (h:∀v' w',w'.ownsRow base e 1 v' (n+ys.length) (xs++ys)->w.grownBy w' v.ownBlock->wpList P ops Q rest (a.put o.dst v') w') :
 wpList P ops Q (o :: rest) a w:=by
 refine wpList_step λK hK=>?_
 rw[if_pos hw];exact Is s x t ho base e i z bytes ht hi hz hsize hby hzs v n xs hs hown u ys hx hb h63 hbytes hbase (λv' w' h1 h2=>hK _ _ (h v' w' h1 h2))
def LO (w:World) (vs:List Value) (ls:List (LI)):Prop:=vs.length=ls.length∧∀j u,vs[j]? = some u->∃lo,w.ownsRow lo 5 1 u (ls.getD j []).length (bl (ls.getD j []))
theorem LO.nil (w:World):LO w [] []:=⟨rfl,λj u h=>by simp at h⟩
theorem LO.one {lo:Nat} {u:Value} (h:w.ownsRow lo 5 1 u l.length (bl l)):LO w [u] [l]:=⟨rfl,λj v hv=>by
 cases j with
 | zero=>simp at hv;subst hv;exact⟨lo,h⟩
 | succ j=>simp at hv⟩
theorem LO.app {vs us:List Value} {ls ms:List (LI)} (h:LO w vs ls) (k:LO w us ms):LO w (vs++us) (ls++ms):=⟨by rw[Qb,Qb,h.1,k.1],λj u hu=>by
 have hl:=h.1
 by_cases hj:j<vs.length
 ·rw[List.getElem?_append_left hj] at hu
  rw[Qc,List.getElem?_append_left (by omega),<-Qc];exact h.2 j u hu
 ·rw[List.getElem?_append_right (by omega)] at hu
  rw[Qc,List.getElem?_append_right (by omega),<-Qc,<-hl]
  exact k.2 _ u hu⟩
theorem LO.past {vs:List Value} (h:LO w vs ls) (o:N0 w w'):LO w' vs ls:=⟨h.1,λj u hu=>by
 obtain⟨lo,h1⟩:=h.2 j u hu
 exact⟨lo,o.own h1 (λ_ _ f=>f)⟩⟩
theorem LO.grown {vs:List Value} (h:LO w vs ls) {base n:Nat} {v:Value} {xs:List Value} (hv:w.ownsRow base 23 1 v n xs) (g:w.grownBy w' v.ownBlock):LO w' vs ls:=⟨h.1,λj u hu=>by
 obtain⟨lo,h1⟩:=h.2 j u hu;refine⟨lo,((Only.refl (λk=>v.ownBlock=some k) w).grown g (λ_ _ e=>e)).own h1 (λk hk e=>?_)⟩
 rcases hv.2 with ⟨rfl,_⟩ | ⟨b,cap,cur,rfl,_,hb,_⟩
 ·cases e
 ·cases e
  rcases h1.2 with ⟨rfl,_⟩ | ⟨b',cap',cur',rfl,_,hb',_⟩
  ·cases hk
  ·cases hk
   rw[hb] at hb'
   cases hb'⟩
theorem LO.one' {vs:List Value} (h:LO w vs ls):∀y∈vs,y.oneCell'=true:=λy hy=>by
 obtain⟨j,hj,rfl⟩:=List.mem_iff_getElem.1 hy;obtain⟨lo,h1⟩:=h.2 j _ (Qh hj)
 rcases h1.2 with ⟨e,_⟩ | ⟨b,cap,cur,e,_⟩
 ·rw[e];rfl
 ·rw[e];rfl
theorem LO.rl {lo:Nat} {vs:List Value} (h:LO w vs ls) (ho:w.ownsRow lo 23 1 v vs.length vs):RL w v ls∧NoCap v:=⟨RL.of_own (lo:=lo) (vs:=vs) (by rw[<-h.1];exact ho) (λj u hu=>by
 obtain⟨lo',h1⟩:=h.2 j u hu
 exact⟨Bs.of_own (k:=.u8) (E:=5) (lo:=lo') h1,NoCap.of_own h1⟩),NoCap.of_own ho⟩
abbrev NIL:Value:=.slice none 0 0
theorem Nv (w:World) (n:Nat) (hn:n<=1000000000):∃wm,(Instr.makeSlice 62 (.int .i64 (n:Int)) (.int .i64 (n:Int))).run prog w=.ok (.slice (some ⟨w.heap.size,0,none⟩) n n) wm∧wm.ownsRow w.heap.size 23 1 (.slice (some ⟨w.heap.size,0,none⟩) n n) n (List.replicate n NIL)∧N0 w wm:=by
 obtain⟨i0,hi,hz0,hz1,hz2⟩:=info_parts Tryz.infoRows;obtain⟨wm,hmk,h0,hgr⟩:=run_make_full (P:=prog) w w.heap.size 62 23 i0 (.slice none 0 0) 1 underlying62 hi hz0 hz1 .i64 .i64 n (by rw[hz2];omega) (by unfold maxLen;omega) Zu;refine⟨wm,hmk,?_,VG.grown hgr (λk _ e=>by cases e)⟩;rw[Nat.mul_one,show (Value.slice none 0 0).cells=#[Value.slice none 0 0] from rfl,toList_madeCells_one] at h0;exact h0
theorem LO.set {vs:List Value} (h:LO w vs ls) {base g n cap k:Nat} {xs:List Value} (hv:w.ownsRow base 23 1 (.slice (some ⟨g,0,none⟩) n cap) n xs) (u:Value):LO (w.setCell ⟨g,k,none⟩ u) vs ls :=
 h.grown hv (hv.stored k u).2
structure LD (w:World) (N n k:Nat) (ls:Nat->LI):Prop where
 ex:∃vs:List Value,LO w vs ((List.range k).map ls)∧w.ownsRow N 23 1 (.slice (some ⟨N,0,none⟩) n n) n (vs++List.replicate (n - k) NIL)
theorem LD.past {N n k:Nat} {ls:Nat->LI} (h:LD w N n k ls) (o:N0 w w'):LD w' N n k ls:=by
 obtain⟨vs,h1,h2⟩:=h.ex;exact⟨vs,h1.past o,o.own h2 (λ_ _ f=>f)⟩
theorem LD.cell {N n k:Nat} {ls:Nat->LI} (h:LD w N n k ls) (hk:k<n):w.cell? ⟨N,k,none⟩=some NIL∧w.frozen? ⟨N,k,none⟩=false:=by
 obtain⟨vs,h1,h2⟩:=h.ex
 have hl:vs.length=k:=by rw[h1.1];simp
 refine⟨?_,h2.frozenAt _⟩;rw[h2.cellAt k (by omega),List.getElem?_append_right (by omega),List.getElem?_replicate,if_pos (by omega)]
theorem LD.store {N n k lo:Nat} {ls:Nat->LI} {u:Value} (h:LD w N n k ls) (hk:k<n) (hu:w.ownsRow lo 5 1 u (ls k).length (bl (ls k))):LD (w.setCell ⟨N,k,none⟩ u) N n (k+1) ls:=by
 obtain⟨vs,h1,h2⟩:=h.ex
 have hl:vs.length=k:=by rw[h1.1];simp
 refine⟨vs++[u],?_,?_⟩
 ·have:=(h1.app (LO.one hu)).set (k:=k) h2 u
  rw[List.range_succ,List.map_append];exact this
 ·have:=(h2.stored k u).1
  obtain⟨m,hm⟩:∃m,n - k=m+1:=⟨n - k - 1,by omega⟩;rw[hm,List.replicate_succ,List.set_append_right _ _ (by omega),hl,Nat.sub_self,Qn] at this;rw[show n - (k+1)=m by omega,List.append_assoc];exact this
theorem LD.all {N n:Nat} {ls:Nat->LI} (h:LD w N n n ls):RL w (.slice (some ⟨N,0,none⟩) n n) ((List.range n).map ls):=by
 obtain⟨vs,h1,h2⟩:=h.ex
 have hl:vs.length=n:=by rw[h1.1];simp
 rw[Nat.sub_self,List.replicate_zero,List.append_nil] at h2;exact (h1.rl (lo:=N) (by rw[hl];exact h2)).1
theorem LD.nought {N n:Nat} {ls:Nat->LI} (h:w.ownsRow N 23 1 (.slice (some ⟨N,0,none⟩) n n) n (List.replicate n NIL)):LD w N n 0 ls:=⟨[],LO.nil w,by simpa using h⟩
theorem qK (l:List (LI)) (f:LI->LI):(List.range l.length).map (λi=>f (l.getD i []))=l.map f:=by
 refine List.ext_getElem (by simp) (λi h1 h2=>?_)
 have h:i<l.length:=by simpa using h2
 simp[List.getD_eq_getElem?_getD,List.getElem?_eq_getElem h]
theorem Lp (v:Value) (ls:List (LI)) (w:World) (h:RL w v ls) (h8:R8 ls) (hl:ls.length<=1000000000) :
 Calls prog 23 #[v] w λe w'=>∃u,e=.returned u∧w'.ownsRow w.heap.size 5 1 u 32 (bl (QG ls))∧N0 w w':=by
 obtain⟨wm,h6,h1,om⟩:=Nv w ls.length hl;obtain⟨ao,cap,rfl,h5⟩:=h.len;have H:=Qa h;have H8:=Qa h8;have RT:=Qa (λ(W:World) (u:Value) (r:RL W u (ls.map LEAF))=>xr (ls.map LEAF) u W (by rw[List.length_map];exact hl) (Da ls) r);have eR:YC (ls.map LEAF)=QG ls:=rfl;have eL:=Um ls;simp only[eR,eL] at RT;obtain⟨N,hN⟩:=EX w.heap.size;rw[<-hN] at h6 h1 ⊢;have L0:Hid (LD wm N ls.length 0 (λi=>LEAF (ls.getD i []))∧N0 w wm):=⟨LD.nought h1,om⟩;have MA:=Qa (qK ls LEAF);obtain⟨n,hn⟩:=EX ls.length;rw[<-hn] at h6 L0 MA h5 ⊢
 have hnb:n<=1000000000:=by omega
 have h2:=Qa (Vz hN hn);clear h h8 hl h1 om eR eL hN hn;go_enter func23,ntmps23;go_wp2
 go_loopw [11] (λi wr=>∃k:Nat,k<=n∧i=.int .i64 k∧Hid (LD wr N n k (λi=>LEAF (ls.getD i []))∧N0 w wr)) (λi _=>n - (intOf i).toNat)
 case atStart=>exact⟨0,Nat.zero_le _,rfl,L0⟩
 case round =>
  obtain⟨k,hk,rfl,hS⟩:=hrel;clear L0 h6
  by_cases hlt:k<n
  ·have dlt:decide ((k:Int)<(n:Int))=true:=Qe (by omega)
   have dlt':decide (k<n)=true:=Qe hlt;obtain⟨b,off,h4,ea,_⟩:=(H.o.past hS.o.2).form (show ls.length=n from h2.o.2.symm) (by omega)
   obtain⟨rfl,_,rfl⟩:ao=some ⟨b,off,none⟩∧n=n∧cap=h4:=by have:=h2.o.2;rw[<-this] at ea;simpa using ea
   have h9:RL wr (.slice (some ⟨b,off,none⟩) n cap) ls:=by have:=H.o.past hS.o.2;rw[<-h2.o.2] at this;exact this
   obtain⟨u,hu,h7,hnu⟩:=h9.at k (by rw[<-h2.o.2];exact hlt);have A:=Qa (rI u (ls.getD k []) wr h7 (H8.o.at k).1 (by have:=(H8.o.at k).2;omega))
   have i0:(0:Int)<=(k:Int):=by omega
   have i1:(k:Int)<(n:Int):=by omega
   clear h9 h7 hnu ea;go_wp2_with fail;refine A.o.mono ?_;rintro e w4 ⟨v4,rfl,h0,o4⟩;have h3:=hS.o.1.past o4;obtain⟨hc,hf⟩:=h3.cell hlt
   have F:Hid (LD (w4.setCell ⟨N,k,none⟩ v4) N n (k+1) (λi=>LEAF (ls.getD i []))∧N0 w (w4.setCell ⟨N,k,none⟩ v4)) :=
    ⟨h3.store hlt (lo:=wr.heap.size) (by rw[Hl];exact h0),(hS.o.2.same o4).setCell (λhb=>by have:=h2.o.1;simp only at hb;omega) _⟩
   obtain⟨a4,c4,rfl⟩:=QK h0;clear h0 o4 A hS h3 hu;go_wp2
   go_roundw
   case rel=>exact⟨k+1,by omega,by go_num,F⟩
   case measure=>simp[intOf];omega
  ·obtain rfl:k=n:=by omega
   have dlt:decide ((k:Int)<(k:Int))=false:=Qi (by omega);have A:=Qa (RT.o wr (.slice (some ⟨N,0,none⟩) k k) (by have:=hS.o.1.all;rw[MA.o] at this;exact this));have O:=Qa hS.o.2;clear hS;go_wp2_with fail;refine A.o.mono ?_;rintro e w4 ⟨v4,rfl,h0,o4⟩;have F:=Qa (Vz (Qr h0 (show N<=wr.heap.size from by have:=h2.o.1;have:=O.o.size;omega)) (O.o.same o4));obtain⟨a4,c4,rfl⟩:=QK h0;clear h0 o4 A O;go_wp2;go_ret;exact⟨_,rfl,F.o⟩
def Chs (w:World) (v:Value) (l:List Qj):Prop :=
 ∃ao cap,v=.slice ao l.length cap∧l.length<=cap∧(l≠[]->∃b off,ao=some ⟨b,off,none⟩∧∀j,j<l.length->∃u,
  w.cell? ⟨b,off+j*2,none⟩=some (.string (strOfNums (l.getD j Qw).1))∧w.cell? ⟨b,off+j*2+1,none⟩=some u∧Sps w u (l.getD j Qw).2)
theorem Chs.past {l:List Qj} (h:Chs w v l) (o:N0 w w'):Chs w' v l:=by
 obtain⟨ao,cap,rfl,hc,hr⟩:=h;refine⟨ao,cap,rfl,hc,λhx=>?_⟩;obtain⟨b,off,rfl,h0⟩:=hr hx;refine⟨b,off,rfl,λj hj=>?_⟩;obtain⟨u,h1,h2,h3⟩:=h0 j hj;exact⟨u,Uw h1 o,Uw h2 o,h3.past o⟩
theorem Chs.len {l:List Qj} (h:Chs w v l):∃ao cap,v=.slice ao l.length cap∧l.length<=cap:=by
 obtain⟨ao,cap,e,h,_⟩:=h;exact⟨ao,cap,e,h⟩
theorem Chs.at {ao:Option Addr} {n cap:Nat} {l:List Qj} (h:Chs w (.slice ao n cap) l) (j:Nat) (hj:j<l.length):∃b off u,ao=some ⟨b,off,none⟩ ∧
 w.cell? ⟨b,off+j*2,none⟩=some (.string (strOfNums (l.getD j Qw).1))∧w.cell? ⟨b,off+j*2+1,none⟩=some u∧Sps w u (l.getD j Qw).2:=by
 obtain⟨ao',cap',e,hc,hr⟩:=h
 cases e
 obtain⟨b,off,rfl,h0⟩:=hr (λe=>by rw[e] at hj;simp at hj);obtain⟨u,h1,h2,h3⟩:=h0 j hj;exact⟨b,off,u,rfl,h1,h2,h3⟩
def CL (l:List Qj):Prop:=∀c∈l,CG c∧c.1.length<=maxLen∧c.2.length<=maxLen
theorem CL.at {l:List Qj} (h:CL l) {j:Nat} (hj:j<l.length):CG (l.getD j Qw)∧(l.getD j Qw).1.length<=maxLen∧(l.getD j Qw).2.length<=maxLen:=by
 rw[Qc,Qh hj];exact h _ (List.getElem_mem hj)
theorem FE (s:List (LI × Int)):∀(j:Nat) (a:LI) (b:Int),j<s.length->((YJ s).set (j*2) (.string (strOfNums a))).set (j*2+1) (.int .i64 b)=YJ (s.set j (a,b)):=by
 induction s with
 | nil=>intro j a b h;simp at h
 | cons p s ih =>
  intro j a b h
  cases j with
  | zero=>simp[Vx]
  | succ j =>
   have:=ih j a b (by simpa using h);rw[Vx,Qo,Vx,<-this,show (j+1)*2=j*2+1+1 by omega];simp only[Qo]
theorem q9 (n:Nat):YJ (List.replicate n ([],0))=(madeCells #[Value.string ⟨#[]⟩,Value.int .i64 0] (n*2)).toList:=by
 unfold madeCells
 apply List.ext_getElem?
 intro i;have hl:=xx (List.replicate n (([]:LI),(0:Int)));rw[List.length_replicate] at hl
 by_cases h:i<n*2
 ·obtain⟨h0,h1⟩:=Tc (List.replicate n (([]:LI),(0:Int))) (i / 2) (by simp;omega)
  have hg:(List.replicate n (([]:LI),(0:Int))).getD (i / 2) ([],0)=([],0):=by
   rw[Qc,List.getElem?_replicate];split <;> rfl
  rw[hg] at h0 h1;have es:strOfNums []=⟨#[]⟩:=rfl;rw[es] at h0
  rcases Nat.mod_two_eq_zero_or_one i with hm | hm
  ·rw[show i / 2*2=i by omega] at h0
   rw[h0];simp[h,hm]
  ·rw[show i / 2*2+1=i by omega] at h1
   rw[h1];simp[h,hm]
 ·rw[List.getElem?_eq_none (by omega),List.getElem?_eq_none (by simp;omega)]
def ED (w:World) (N n k:Nat) (es:Nat->LI × Int):Prop:=w.ownsRow N 93 2 (.slice (some ⟨N,0,none⟩) n n) n (YJ ((List.range k).map es++List.replicate (n - k) ([],0)))
theorem gF (w:World) (n:Nat) (hn:n<=1000000000) (es:Nat->LI × Int):∃wm,(Instr.makeSlice 63 (.int .i64 (n:Int)) (.int .i64 (n:Int))).run prog w=.ok (.slice (some ⟨w.heap.size,0,none⟩) n n) wm∧ED wm w.heap.size n 0 es∧N0 w wm:=by
 obtain⟨i0,hi,hz0,hz1,hz2⟩:=info_parts Tryz.infoEn;obtain⟨wm,hmk,h0,hgr⟩:=run_make_full (P:=prog) w w.heap.size 63 93 i0 (.agg #[.string ⟨#[]⟩,.int .i64 0]) 2 underlying63 hi hz0 hz1 .i64 .i64 n (by rw[hz2];omega) (by unfold maxLen;omega) Zu;refine⟨wm,hmk,?_,VG.grown hgr (λk _ e=>by cases e)⟩;unfold ED;rw[List.range_zero,List.map_nil,List.nil_append,Nat.sub_zero,q9];exact h0
theorem ED.past {N n k:Nat} {es:Nat->LI × Int} (h:ED w N n k es) (o:N0 w w'):ED w' N n k es:=o.own h (λ_ _ f=>f)
theorem ED.cell {N n k:Nat} {es:Nat->LI × Int} (h:ED w N n k es) (hk:k<n):w.cell? ⟨N,k*2,none⟩=some (.string ⟨#[]⟩)∧w.cell? ⟨N,k*2+1,none⟩=some (.int .i64 0)∧w.frozen? ⟨N,k*2,none⟩=false∧w.frozen? ⟨N,k*2+1,none⟩=false:=by
 have ha:=Tc ((List.range k).map es++List.replicate (n - k) ([],0)) k (by simp;omega)
 have hg:((List.range k).map es++List.replicate (n - k) ([],0)).getD k ([],0)=([],0):=by
  rw[Qc,List.getElem?_append_right (by simp),List.getElem?_replicate];split <;> rfl
 rw[hg] at ha;refine⟨?_,?_,h.frozenAt _,h.frozenAt _⟩
 ·rw[World.ownsRow.cellAt h (k*2) (by omega),ha.1];rfl
 ·rw[World.ownsRow.cellAt h (k*2+1) (by omega),ha.2]
theorem ED.store {N n k:Nat} {es:Nat->LI × Int} (h:ED w N n k es) (hk:k<n):ED ((w.setCell ⟨N,k*2,none⟩ (.string (strOfNums (es k).1))).setCell ⟨N,k*2+1,none⟩ (.int .i64 (es k).2)) N n (k+1) es:=by
 have h1:=(World.ownsRow.stored h (k*2) (.string (strOfNums (es k).1))).1;have h2:=(h1.stored (k*2+1) (.int .i64 (es k).2)).1;rw[FE _ _ _ _ (by simp;omega)] at h2;unfold ED;obtain⟨m,hm⟩:∃m,n - k=m+1:=⟨n - k - 1,by omega⟩;rw[hm,List.replicate_succ,List.set_append_right _ _ (by simp)] at h2;rw[show n - (k+1)=m by omega,List.range_succ,List.map_append,List.append_assoc]
 simpa using h2
theorem ED.other {N n k:Nat} {es:Nat->LI × Int} (h:ED w N n k es) {a:Addr} (ha:a.block≠N) (u:Value):ED (w.setCell a u) N n k es :=
 ownsRow_setCell_other h (by simp only[Value.ownBlock];exact λe=>ha (by cases e;rfl)) u
theorem LD.other {N n k:Nat} {ls:Nat->LI} {t:TypeId} {cs:Array Value} {f:Nat × Nat} (h:LD w N n k ls) (hB:w.heap[B]? = some (.cells cs t f)) (ht:t≠5) (hN:B≠N) (j:Nat) (u:Value):LD (w.setCell ⟨B,j,none⟩ u) N n k ls:=by
 obtain⟨vs,h1,h2⟩:=h.ex;refine⟨vs,⟨h1.1,λi x hx=>?_⟩,ownsRow_setCell_other h2 (by simp only[Value.ownBlock];exact λe=>hN (by cases e;rfl)) u⟩;obtain⟨lo,h3⟩:=h1.2 i x hx;refine⟨lo,ownsRow_setCell_other h3 (λe=>?_) u⟩
 rcases h3.2 with ⟨rfl,_⟩ | ⟨g,cap,cur,rfl,_,hg,_⟩
 ·cases e
 ·cases e
  rw[hB] at hg
  cases hg
  exact ht rfl
theorem ED.block {N n k:Nat} {es:Nat->LI × Int} (h:ED w N n k es):∃cs,w.heap[N]? = some (.cells cs 93):=by
 rcases h.2 with ⟨e,_⟩ | ⟨g,cap,cur,e,_,hg,_⟩
 ·cases e
 ·cases e;exact⟨_,hg⟩
abbrev slf (m:LI) (v:Nat) (l:List Qj) (k:Nat):LI:=Yd (QH m (l.getD k Qw)) v k (l.getD k Qw)
abbrev enf (m:LI) (l:List Qj) (k:Nat):LI × Int:=((l.getD k Qw).1,Ye (QH m (l.getD k Qw)) k (l.getD k Qw))
def uP (w w':World) (m:LI) (v:Nat) (l:List Qj) (a b:Value):Prop :=
 Ya m 0 l=0->∃N1 N2,a=.slice (some ⟨N1,0,none⟩) l.length l.length∧b=.slice (some ⟨N2,0,none⟩) l.length l.length∧w.heap.size<=N1∧w.heap.size<=N2∧LD w' N1 l.length l.length (slf m v l)∧ED w' N2 l.length l.length (enf m l)
theorem XF {lo g n c size:Nat} {xs:List Value} (h:w.ownsRow lo E size (.slice (some ⟨g,0,none⟩) n c) n xs):g<w.heap.size:=by
 rcases h.2 with ⟨e,_⟩ | ⟨g',c',cur,e,_,hg,_⟩
 ·cases e
 ·cases e;exact (Array.getElem?_eq_some_iff.1 hg).1
theorem LD.lt {N n k:Nat} {ls:Nat->LI} (h:LD w N n k ls):N<w.heap.size:=by
 obtain⟨vs,_,h2⟩:=h.ex;exact XF h2
theorem ED.lt {N n k:Nat} {es:Nat->LI × Int} (h:ED w N n k es):N<w.heap.size:=XF h
theorem jT {N1 N2 n k lo:Nat} {ls:Nat->LI} {es:Nat->LI × Int} (h1:LD w N1 n k ls) (h2:ED w N2 n k es) (hne:N1≠N2) (hk:k<n) {x:Value} (hx:w.ownsRow lo 5 1 x (ls k).length (bl (ls k))) {t:ByteArray} (ht:t=strOfNums (es k).1) {b:Int} (hb:b=(es k).2) :
 LD (((w.setCell ⟨N1,k,none⟩ x).setCell ⟨N2,k*2,none⟩ (.string t)).setCell ⟨N2,k*2+1,none⟩ (.int .i64 b)).drew N1 n (k+1) ls∧ED (((w.setCell ⟨N1,k,none⟩ x).setCell ⟨N2,k*2,none⟩ (.string t)).setCell ⟨N2,k*2+1,none⟩ (.int .i64 b)).drew N2 n (k+1) es:=by
 subst ht hb;have e1:ED (w.setCell ⟨N1,k,none⟩ x) N2 n k es:=h2.other hne x;have l1:=h1.store hk hx;obtain⟨cs,hb⟩:=e1.block;have hb2:=heap_setCell_same _ N2 (k*2) _ _ (.string (strOfNums (es k).1)) hb;exact⟨((l1.other hb (by decide) (λe=>hne e.symm) (k*2) _).other hb2 (by decide) (λe=>hne e.symm) (k*2+1) _).past VG.drew,(e1.store hk).past VG.drew⟩
theorem qN (vm vl:Value) (m:LI) (v:Nat) (l:List Qj) (w:World) (bm:Bs .u8 w vm m) (m8:U8 m) (hc:Chs w vl l) (hg:CL l) (hl:l.length<=1048576) (hT:Tab w) :
 Calls prog 22 #[vm,.int .u64 v,vl] w λe w'=>∃a b,e=.returned (.tuple #[a,b,.int .i64 (Ya m 0 l)])∧uP w w' m v l a b∧(Ya m 0 l≠0->a=NIL∧b=NIL)∧N0 w w':=by
 obtain⟨ao,cap,rfl,hx⟩:=hc.len;obtain⟨n,hn⟩:=EX l.length;obtain⟨w1,hh,h3,k6⟩:=Nv w n (by omega);obtain⟨w2,hd,h8,hz⟩:=gF w1 n (by omega) (enf m l);obtain⟨N1,hw⟩:=EX w.heap.size;obtain⟨N2,k3⟩:=EX w1.heap.size;rw[<-hw] at hh h3;rw[<-k3] at hd h8
 have hj:N1<N2:=by
  have:w.heap.size<w1.heap.size:=by
   rcases h3.2 with ⟨e,_⟩ | ⟨g,c,cur,e,_,hg',_⟩
   ·cases e
   ·cases e;rw[<-hw];exact (Array.getElem?_eq_some_iff.1 hg').1
  omega
 have S0:Hid (LD w2 N1 n 0 (slf m v l)∧ED w2 N2 n 0 (enf m l)∧N0 w w2∧Ya m 0 l=Ya m 0 (l.drop 0)):=⟨(LD.nought h3).past hz,h8,k6.same hz,rfl⟩;have HH:=Qa (Vz bm (Vz m8 (Vz hg hT)));have HC:=Qa hc;have HN:=Qa (Vz hn (Vz hw (show w.heap.size<=N2 by omega)))
 have hnb:n<=1048576:=by omega
 have hm:N1≠N2:=by omega
 have k5:N2≠N1:=by omega
 rw[<-hn] at hx;rw[<-hn] at HC;rw[<-hn];obtain⟨E,hE⟩:=EX (Ya m 0 l);rw[<-hE] at S0 ⊢;have HE:=Qa hE;clear hc hg hl bm m8 hT h3 h8 k6 hz hw k3 hn hj hE;go_enter func22,ntmps22;go_wp2
 go_loopw [25] (λi wr=>∃k:Nat,k<=n∧i=.int .i64 k∧Hid (LD wr N1 n k (slf m v l)∧ED wr N2 n k (enf m l)∧N0 w wr∧E=Ya m k (l.drop k))) (λi _=>n - (intOf i).toNat)
 case atStart=>exact⟨0,Nat.zero_le _,rfl,S0⟩
 case round =>
  obtain⟨k,hk,rfl,hS⟩:=hrel;clear S0 hh hd
  by_cases hlt:k<n
  ·have dlt:decide ((k:Int)<(n:Int))=true:=Qe (by omega)
   have dlt':decide (k<n)=true:=Qe hlt
   have hu:k<l.length:=by rw[<-HN.o.1];exact hlt
   obtain⟨b,off,u,ea,hf,k0,hs⟩:=(HC.o.past hS.o.2.2.1).at k hu;subst ea;obtain⟨hv,k1,k2⟩:=HH.o.2.2.1.at hu;obtain⟨c,ho⟩:=EX (l.getD k Qw)
   have h4:E=if YR m k c=0 then Ya m (k+1) (l.drop (k+1)) else YR m k c:=by rw[hS.o.2.2.2,tI hu,ho]
   have h9:slf m v l k=Yd (QH m c) v k c:=by rw[ho]
   have ha:enf m l k=(c.1,Ye (QH m c) k c):=by rw[ho]
   rw[<-ho] at hf hs hv k1 k2;obtain⟨t,ht⟩:=EX (strOfNums c.1)
   have hr:sb t=c.1:=by rw[ht,sb_of hv.t8]
   have k4:t.size<=maxLen:=by rw[<-QX,hr];exact k1
   rw[<-ht] at hf
   have hsl:∃au nu cu,u=.slice au nu cu:=by obtain⟨a,c',e,_⟩:=hs;exact⟨_,_,_,e⟩
   obtain⟨au,nu,cu,rfl⟩:=hsl
   have i0:(0:Int)<=(k:Int):=by omega
   have i1:(k:Int)<(n:Int):=by omega
   obtain⟨wb,hp⟩:=EX (wr.alloc (.cells #[.string t,.slice au nu cu] 46))
   have ob:N0 wr wb:=by rw[hp];exact VG.alloc _
   have G0:=Qa (show wb.heap[wr.heap.size]? = some (.cells #[.string t,.slice au nu cu] 46 (0,0)) by rw[hp];exact heap_alloc_new _ _);obtain⟨q0,q1,_,_⟩:=Qs G0.o;have TA:=Qa (TV vm m t HH.o.2.1 wb (HH.o.1.past (hS.o.2.2.1.same ob)));rw[hr] at TA;have HB:=Qa (Vz hp ob)
   have hB1:¬wr.heap.size=N1:=by have:=hS.o.1.lt;omega
   have hB2:¬wr.heap.size=N2:=by have:=hS.o.2.1.lt;omega
   have h7:=Qa (Vz (hS.o.1.past ob) (Vz (hS.o.2.1.past ob) (hS.o.2.2.1.same ob)));have HX:=Qa (Vz (hs.past ob) (Vz hv (Vz k2 k4)));have HQ:=Qa (Vz h9 (Vz ha (Vz hr ht)));clear hp ob hs hv k2 k4 k1 hS ho h9 ha hu hr ht
   by_cases h1:QS m c.1=0
   ·rw[h1] at TA
    have HT8:Hid (U8 (QT m 1 c.1)):=by
     show U8 _
     unfold QT;split
     ·split
      ·exact Vf _ _ _
      ·intro y hy;cases hy
     ·intro y hy;cases hy
    have SL:=Qa (λ(W:World) (x:Value) (o:N0 wb W) (h:Bs .u8 W x (QH m c))=>rj x (QH m c) v k t (.slice au nu cu) c.2 W h HT8.o ⟨by omega,by omega⟩ (HX.o.1.past o) HX.o.2.1.gs HX.o.2.2.1 HX.o.2.2.2 (HH.o.2.2.2.past (h7.o.2.2.same o)));simp only[show (sb t,c.2)=c from by rw[HQ.o.2.2.1]] at SL
    have eC:YR m k c=Ym (QH m c) k c:=by unfold YR;rw[if_pos h1]
    rw[eC] at h4
    by_cases h2:Ym (QH m c) k c=0
    ·rw[if_pos h2] at h4
     rw[h2] at SL;clear h1 h2 eC;go_wp2_with fail;rw[<-HB.o.1];refine TA.o.mono ?_;rintro e w3 ⟨x3,rfl,h0,o3⟩;have he:=Qa (SL.o w3 x3 o3 (Bs.of_own h0));have G3:=Qa (o3.heap G0.o (λf=>f));obtain⟨p0,p1,_,_⟩:=Qs G3.o;have hq:=Qa (Vz (h7.o.1.past o3) (Vz (h7.o.2.1.past o3) (h7.o.2.2.same o3)));clear h0 o3 TA SL G0 h7 q0 q1 hf k0 HX;go_wp2_with fail;refine he.o.mono ?_;rintro e w4 ⟨x4,rfl,h5,o4⟩;clear p0 p1;have G4:=o4.heap G3.o (λf=>f);obtain⟨p0,p1,_,_⟩:=Qs G4;obtain⟨a4,c4,rfl⟩:=QK h5;have LS:=hq.o.1.past o4;have ES:=hq.o.2.1.past o4;obtain⟨r0,r1⟩:=LS.cell hlt;obtain⟨f0,f1,f2,f3⟩:=ES.cell hlt;have F:=Qa (Vz LS (Vz ES (Vz (hq.o.2.2.same o4) h5)));clear LS ES h5 o4 he hq G3 G4
     have ck2:((k:Int)*2).toNat=k*2:=by omega
     have FF:Hid (LD (((w4.setCell ⟨N1,k,none⟩ (.slice a4 (Yd (QH m c) (v:Int) (k:Int) c).length c4)).setCell ⟨N2,k*2,none⟩ (.string t)).setCell ⟨N2,k*2+1,none⟩ (.int .i64 (Ye (QH m c) (k:Int) c))).drew N1 n (k+1) (slf m v l) ∧
      ED (((w4.setCell ⟨N1,k,none⟩ (.slice a4 (Yd (QH m c) (v:Int) (k:Int) c).length c4)).setCell ⟨N2,k*2,none⟩ (.string t)).setCell ⟨N2,k*2+1,none⟩ (.int .i64 (Ye (QH m c) (k:Int) c))).drew N2 n (k+1) (enf m l) ∧
      N0 w (((w4.setCell ⟨N1,k,none⟩ (.slice a4 (Yd (QH m c) (v:Int) (k:Int) c).length c4)).setCell ⟨N2,k*2,none⟩ (.string t)).setCell ⟨N2,k*2+1,none⟩ (.int .i64 (Ye (QH m c) (k:Int) c))).drew∧E=Ya m (k+1) (l.drop (k+1))):=by
      have q:=jT (x:=.slice a4 (Yd (QH m c) (v:Int) (k:Int) c).length c4) (t:=t) (b:=Ye (QH m c) (k:Int) c) F.o.1 F.o.2.1 hm hlt (lo:=w3.heap.size) (by rw[HQ.o.1];exact F.o.2.2.2) (by rw[HQ.o.2.1];exact HQ.o.2.2.2) (by rw[HQ.o.2.1]);refine⟨q.1,q.2,((((F.o.2.2.1).setCell (p:=⟨N1,k,none⟩) (λhb=>?_) _).setCell (p:=⟨N2,k*2,none⟩) (λhb=>?_) _).setCell (p:=⟨N2,k*2+1,none⟩) (λhb=>?_) _).drew,h4⟩
      ·have:=HN.o.2.1;simp only at hb;omega
      ·have:=HN.o.2.2;simp only at hb;omega
      ·have:=HN.o.2.2;simp only at hb;omega
     clear F h4;generalize Ye (QH m c) (k:Int) c=bk at *;generalize (Yd (QH m c) (v:Int) (k:Int) c).length=sl at *;go_wp2;go_region;go_wp2
     go_roundw
     case rel=>exact⟨k+1,by omega,by go_num,FF⟩
     case measure=>simp[intOf];omega
    ·rw[if_neg h2] at h4
     have hne:(Ym (QH m c) k c != 0)=true:=by simpa using h2
     have h6:¬E=0:=by rw[h4];exact h2
     have HF:=Qa (Vz h4 h6);clear h1 h2 eC h4 h6;generalize Ym (QH m c) (k:Int) c=er at *;go_wp2_with fail;rw[<-HB.o.1];refine TA.o.mono ?_;rintro e w3 ⟨x3,rfl,h0,o3⟩;have he:=Qa (SL.o w3 x3 o3 (Bs.of_own h0));have G3:=Qa (o3.heap G0.o (λf=>f));obtain⟨p0,p1,_,_⟩:=Qs G3.o;have O3:=Qa (h7.o.2.2.same o3);clear h0 o3 TA SL G0 h7 q0 q1 hf k0 HX;go_wp2_with fail;refine he.o.mono ?_;rintro e w4 ⟨x4,rfl,h5,o4⟩;have O4:=Qa (O3.o.same o4);clear h5 o4 he O3;go_wp2;exact bodyPost_ret (Us rfl _ _ _) rfl ⟨_,_,by rw[HF.o.1];rfl,λq=>absurd (HE.o.trans q) HF.o.2,λ_=>⟨rfl,rfl⟩,O4.o⟩
   ·have eC:YR m k c=QS m c.1:=by unfold YR;rw[if_neg h1]
    rw[eC,if_neg h1] at h4
    have hne:(QS m c.1 != 0)=true:=by simpa using h1
    have h6:¬E=0:=by rw[h4];exact h1
    have HF:=Qa (Vz h4 h6);clear h1 eC h4 h6;generalize QS m c.1=er at *;go_wp2_with fail;rw[<-HB.o.1];refine TA.o.mono ?_;rintro e w3 ⟨x3,rfl,h0,o3⟩;have O3:=Qa (h7.o.2.2.same o3);clear h0 o3 TA G0 h7 q0 q1 hf k0 HX;go_wp2;exact bodyPost_ret (Us rfl _ _ _) rfl ⟨_,_,by rw[HF.o.1];rfl,λq=>absurd (HE.o.trans q) HF.o.2,λ_=>⟨rfl,rfl⟩,O3.o⟩
  ·obtain rfl:k=n:=by omega
   have dlt:decide ((k:Int)<(k:Int))=false:=Qi (by omega)
   have e0:E=0:=by rw[hS.o.2.2.2,HN.o.1,List.drop_length];rfl
   subst e0;have F:=Qa (Vz hS.o.1 (Vz hS.o.2.1 hS.o.2.2.1));clear hS;go_wp2;exact bodyPost_ret (Us rfl _ _ _) rfl ⟨_,_,rfl,λ_=>⟨N1,N2,by rw[<-HN.o.1];rfl,by rw[<-HN.o.1];rfl,by have:=HN.o.2.1;omega,HN.o.2.2,by rw[<-HN.o.1];exact F.o.1,by rw[<-HN.o.1];exact F.o.2.1⟩,λq=>absurd rfl q,F.o.2.2⟩
end Go.Proofs.YtiochaeeoelmjaaGreatDoor
