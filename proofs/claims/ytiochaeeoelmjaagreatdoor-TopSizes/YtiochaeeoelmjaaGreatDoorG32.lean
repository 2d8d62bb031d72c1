import Derived.Test.YtiochaeeoelmjaaGreatDoorG21
import Derived.Test.YtiochaeeoelmjaaGreatDoorG7
import Derived.Test.YtiochaeeoelmjaaGreatDoorG26
import Derived.Test.YtiochaeeoelmjaaGreatDoorG13
import Derived.Test.YtiochaeeoelmjaaGreatDoorG5
import Derived.Test.YtiochaeeoelmjaaGreatDoorG19
import Derived.Test.YtiochaeeoelmjaaGreatDoorG11
import Derived.Test.YtiochaeeoelmjaaGreatDoorG17
import Derived.Test.YtiochaeeoelmjaaGreatDoorG30
import Derived.Test.YtiochaeeoelmjaaGreatDoorG18
import Derived.Test.YtiochaeeoelmjaaGreatDoorG24
import Derived.Test.YtiochaeeoelmjaaGreatDoorG10
import Derived.Deep.RegionHeld3
import Derived.Deep.RegionLaw
namespace Go.Proofs.YtiochaeeoelmjaaGreatDoor
set_option maxHeartbeats 2000000
set_option maxRecDepth 100000
open Go.RowKit _root_.Go.Proofs.Tryz
variable {w w' W:World} {v:Value} {ys xs l:LI} {R n p k g B:Nat} {P:Program} {ls:List (LI)} {E:TypeId}
def kb (n:Int) (i:Nat):Int:=IntKind.u8.wrap (IntKind.u64.wrap n / 2^(8*i))
def KP (n:Int) (k:Nat):LI:=(List.range k).map (kb n)++List.replicate (32 - k) 0
def Wh (n:Int):LI:=KP n 8
theorem RJ {n:Int} (h:k<=32):(KP n k).length=32:=by unfold KP;simp;omega
theorem XV (n:Int):(Wh n).length=32:=RJ (by decide)
theorem kb_u8 (n:Int) (i:Nat):0<=kb n i∧kb n i<=255:=by
 unfold kb;generalize IntKind.u64.wrap n / 2^(8*i)=x;simp[IntKind.wrap,IntKind.bits,IntKind.signed];omega
theorem Jk (n:Int):U8 (Wh n):=λy hy=>by
 unfold Wh KP at hy
 rcases List.mem_append.1 hy with h | h
 ·obtain⟨i,_,rfl⟩:=List.mem_map.1 h
  exact kb_u8 n i
 ·have:=List.eq_of_mem_replicate h;omega
theorem NE (n:Int) (k:Nat) (h:k<32):(KP n k).set k (kb n k)=KP n (k+1):=by
 unfold KP;obtain⟨m,hm⟩:∃m,32 - k=m+1:=⟨31 - k,by omega⟩;rw[hm,List.replicate_succ,List.set_append_right _ _ (by simp),List.length_map,List.length_range,Nat.sub_self,Qk,List.range_succ,List.map_append,show 32 - (k+1)=m by omega,List.append_assoc]
 rfl
theorem ZS (n:Int) (w:World):Calls prog 7 #[.int .i64 n] w λe w'=>e=.returned (.slice (some ⟨w.heap.size,0,none⟩) 32 32)∧Blk w' w.heap.size 5 (bl (Wh n))∧N0 w w':=by
 obtain⟨wm,h0,h1,om⟩:=VC w 32 (by omega);rw[show ((32:Nat):Int)=32 from rfl] at h0;obtain⟨N,hN⟩:=EX w.heap.size;rw[<-hN] at h0 h1 ⊢;have S0:Hid (Blk wm N 5 (bl (KP n 0))∧N0 w wm):=⟨by unfold KP;simpa using h1,om⟩;have HN:=Qa hN;clear h1 om hN;go_enter func7,ntmps7;go_wp2
 go_loopw [4] (λi wr=>∃k:Nat,k<=8∧i=.int .i64 k∧Hid (Blk wr N 5 (bl (KP n k))∧N0 w wr)) (λi _=>8 - (intOf i).toNat)
 case atStart=>exact⟨0,Nat.zero_le _,rfl,S0⟩
 case round =>
  obtain⟨k,hk,rfl,hS⟩:=hrel;clear S0 h0
  by_cases hlt:k<8
  ·have i1:(k:Int)<8:=by omega
   have i2:(k:Int)<32:=by omega
   have hb:=hS.o.1
   have c0:wr.cell? ⟨N,k,none⟩=some (.int .u8 ((KP n k).getD k 0)):=by rw[hb.cell,bl_at _ _ (by rw[RJ (by omega)];omega)]
   have f0:=hb.froz k
   have N1:Hid (Blk (wr.setCell ⟨N,k,none⟩ (.int .u8 (kb n k))) N 5 (bl (KP n (k+1)))∧N0 w (wr.setCell ⟨N,k,none⟩ (.int .u8 (kb n k)))):=by
    refine⟨?_,hS.o.2.setCell (p:=⟨N,k,none⟩) (λ(h:N<w.heap.size)=>absurd h (by have:=HN.o;omega)) _⟩;have:=hb.set k (.int .u8 (kb n k));rw[Vm,NE n k (by omega)] at this;exact this
   clear hb hS;go_wp2
   go_roundw
   case rel=>exact⟨k+1,by omega,by go_num,N1⟩
   case measure=>simp[intOf];omega
  ·obtain rfl:k=8:=by omega
   go_wp2;go_ret;exact⟨rfl,hS.o⟩
theorem XF (h:n<=16383):(gs n).length<=2:=Nat.le_trans (um h) (by rw[U7 (by omega),Um (by omega)];decide)
theorem qy {tn:LI} {s:List (Int × Int)} (ht:tn.length<=64) (hs:s.length<=200):(ENCC tn s).1.length<=2+tn.length+3+2*(3+(1+8*s.length)):=by
 rw[KQ ht (by omega),RA (by omega)];have h8:=(Ln (l:=s.map Prod.fst) (by rw[List.length_map];omega)).1;have h11:=(TV (l:=s.map Prod.snd) (by rw[List.length_map];omega)).1;rw[List.length_map] at h8 h11;have g8:=XF (n:=(e8c (s.map Prod.fst)).length) (by unfold e8c;omega);have g11:=XF (n:=(e11c (s.map Prod.snd)).length) (by unfold e11c;omega);have gn:=XF (n:=s.length) (by omega);unfold blk e8c e11c at *;simp only[Ql,Qb] at *;omega
theorem Dz {tn:LI} {s:List (Int × Int)} (hs:s.length<=65536) (h:tn.length<=64):(ENCC tn s).2=0:=by rw[KQ h hs]
theorem SH {tn:LI} {s:List (Int × Int)} (ht:∀y∈tn,0<=y∧y<=255) (h1:tn.length<=64) (h2:s.length<=65536) (hg:Gs s):∀y∈(ENCC tn s).1,0<=y∧y<=255:=by
 rw[KQ h1 h2];intro y hy;simp only[List.mem_cons,List.mem_append] at hy
 rcases hy with rfl | hy | hy | hy | hy
 ·omega
 ·exact Wu tn ht y hy
 ·exact Uc _ y hy
 ·exact Wu _ (OR hg.1) y hy
 ·exact Wu _ (DB _) y hy
abbrev Qi:=LI × List (Int × Int)
def YO (v i:Int) (t:LI):LI:=fixL v 8++(fixL i 4++blk t)
def QF (c:Qi):LI:=(ENCC c.1 c.2).1
def Yl (c:Qi):Int:=if (ENCC c.1 c.2).2=0 then Us (QF c) else (ENCC c.1 c.2).2
def Vt (c:Qi):LI:=if Yl c=0 then PADL (QF c) else []
def Ko (c:Qi):Int:=if Yl c=0 then (QK (QF c).length:Int) else 0
def Yg (k:LI) (i:Int) (c:Qi):Int:=if k.length=32 then (if Y6 i then Yl c else 1) else 1
def QR (k:LI) (v i:Int) (c:Qi):LI:=if Yg k i c=0 then UG (Ya k 2 []) (YI k v i) (YO v i c.1) (PADL (QF c)) else []
def QU (k:LI) (i:Int) (c:Qi):Int:=if Yg k i c=0 then (QK (QF c).length:Int) else 0
structure CG (c:Qi):Prop where
 t8:U8 c.1
 gs:Gs c.2
theorem Fz {v i:Int} {t:LI} (h:U8 t):U8 (YO v i t):=λy hy=>by
 rcases List.mem_append.1 hy with h1 | h1
 ·exact Uk _ _ y h1
 ·rcases List.mem_append.1 h1 with h1 | h1
  ·exact Uk _ _ y h1
  ·exact Wu _ h y h1
theorem Cd {v i:Int} {t:LI} (h:t.length<=1000000):(YO v i t).length<=t.length+22:=by
 have:=UW t h;simp only[YO,Qb,Qx];omega
theorem X0 {c:Qi} (h:Yl c=0):c.1.length<=64∧c.2.length<=65536∧(ENCC c.1 c.2).2=0∧(QF c).length<=4194300:=by
 unfold Yl at h
 by_cases h1:(ENCC c.1 c.2).2=0
 ·rw[if_pos h1] at h
  have h3:¬(64<c.1.length∨65536<c.2.length):=λq=>by rw[Xj q] at h1;cases h1
  refine⟨by omega,by omega,h1,?_⟩;unfold Us at h
  by_cases h2:(QF c).length<=4194300
  ·exact h2
  ·rw[if_neg h2] at h;cases h
 ·rw[if_neg h1] at h;exact absurd h h1
theorem Tf {k:LI} {i:Int} {c:Qi} (h:Yg k i c=0):k.length=32∧Y6 i∧Yl c=0:=by
 unfold Yg at h
 by_cases h1:k.length=32
 ·rw[if_pos h1] at h
  by_cases h2:Y6 i
  ·rw[if_pos h2] at h;exact⟨h1,h2,h⟩
  ·rw[if_neg h2] at h;cases h
 ·rw[if_neg h1] at h;cases h
theorem Ru {c:Qi} (g:CG c):U8 (QF c):=by
 by_cases h:64<c.1.length∨65536<c.2.length
 ·unfold QF;rw[Xj h];intro y hy;cases hy
 ·exact SH g.t8 (by omega) (by omega) g.gs
theorem Xo {k:LI} {v i:Int} {c:Qi} (h:Yg k i c=0):(QR k v i c).length=YX (QF c).length+16:=by
 unfold QR;rw[if_pos h,Ta,XY _ (X0 (Tf h).2.2).2.2.2]
theorem SX {k:LI} {v i:Int} {c:Qi} (g:CG c):U8 (QR k v i c):=by
 unfold QR
 split
 ·exact Ck _ _ _ _ (Ha (Ru g))
 ·intro y hy;cases hy
theorem Pk {k:LI} {v i:Int} {c:Qi}:(QR k v i c).length<=4194320:=by
 by_cases h:Yg k i c=0
 ·rw[Xo h];have:=ZT (QF c).length;omega
 ·unfold QR;rw[if_neg h];simp
theorem Oz {k:LI} {i:Int} {c:Qi}:0<=QU k i c∧QU k i c<=8:=by
 unfold QU
 split
 ·have:=TJ (QF c).length;omega
 ·omega
def Qt (m:LI) (c:Qi):LI:=QL m 1 c.1
def Yw (m:LI) (i:Nat) (c:Qi):Int:=if QC m c.1=0 then Yg (Qt m c) i c else QC m c.1
def QS (m:LI):Nat->List Qi->Int
 | _,[]=>0
 | i,c :: l=>if Yw m i c=0 then QS m (i+1) l else Yw m i c
abbrev Qg:Qi:=([],[])
def QW (m:LI) (v:Nat) (l:List Qi) (k:Nat):List (LI):=(List.range k).map λi=>QR (Qt m (l.getD i Qg)) v i (l.getD i Qg)
def Yp (m:LI) (l:List Qi) (k:Nat):List (LI × Int):=(List.range k).map λi=>((l.getD i Qg).1,QU (Qt m (l.getD i Qg)) i (l.getD i Qg))
theorem JH (m:LI) (v:Nat) (l:List Qi) (k:Nat):(QW m v l k).length=k:=by simp[QW]
theorem KH (m:LI) (l:List Qi) (k:Nat):(Yp m l k).length=k:=by simp[Yp]
theorem Dv (m:LI) (v:Nat) (l:List Qi) {k j:Nat} (h:j<k):(QW m v l k).getD j []=QR (Qt m (l.getD j Qg)) v j (l.getD j Qg):=by simp[QW,List.getD_eq_getElem?_getD,h]
theorem BI (m:LI) (l:List Qi) {k j:Nat} (h:j<k):(Yp m l k).getD j ([],0)=((l.getD j Qg).1,QU (Qt m (l.getD j Qg)) j (l.getD j Qg)):=by simp[Yp,List.getD_eq_getElem?_getD,h]
theorem Io {m:LI} {l:List Qi} (h:k<l.length):QS m k (l.drop k)=if Yw m k (l.getD k Qg)=0 then QS m (k+1) (l.drop (k+1)) else Yw m k (l.getD k Qg):=by
 rw[List.drop_eq_getElem_cons h,QS,Qc,Qe h,Option.getD_some]
theorem Jc {m:LI}:∀(l:List Qi) (k:Nat),QS m k l=0->∀j,j<l.length->Yw m (k+j) (l.getD j Qg)=0
 | [],_,_,j,h=>by simp at h
 | c :: l,k,h0,j,h=>by
  rw[QS] at h0
  by_cases h1:Yw m k c=0
  ·rw[if_pos h1] at h0
   cases j with
   | zero=>simpa using h1
   | succ j =>
    have:=Jc l (k+1) h0 j (by simpa using h);rw[show k+(j+1)=k+1+j by omega]
    simpa using this
  ·rw[if_neg h1] at h0;exact absurd h0 h1
theorem Ge {m:LI} {i:Nat} {c:Qi} (h:Yw m i c=0):QC m c.1=0∧Yg (Qt m c) i c=0:=by
 unfold Yw at h
 by_cases h1:QC m c.1=0
 ·rw[if_pos h1] at h;exact⟨h1,h⟩
 ·rw[if_neg h1] at h;exact absurd h h1
def QT (l:List (LI)):LI:=Ym (l.map LEAF)
theorem UQ (l:List (LI)):(QT l).length=32:=by
 unfold QT
 rcases l with _ | ⟨a,_ | ⟨b,t⟩⟩
 ·exact YK _
 ·rw[Li (by simp)];exact XD _
 ·exact Mg (by simp)
def US (r:LI):LI:=if r.length=0 then List.replicate 32 0 else r
theorem Tc {r:LI} (h:r.length=0∨r.length=32):(US r).length=32:=by
 unfold US;split
 ·simp
 ·omega
theorem Tb {r:LI} (h:U8 r):U8 (US r):=by
 unfold US;split
 ·intro y hy;have:=List.eq_of_mem_replicate hy;omega
 ·exact h
abbrev YA:=Nat × LI
abbrev WH (s:YA):Prop:=s.2.length=0∨s.2.length=32
def QH (m:LI) (r:LI) (v:Nat) (l:List Qi):MAN:=⟨v,US r,Yp m l l.length,QT (QW m v l l.length)⟩
def Yt (m:LI) (s:YA) (v n:Nat):Int :=
 if m.length=32∧WH s∧v≠18446744073709551615 then (if 0<s.2.length∧v<=s.1 then 6 else if 1048576<n then 4 else 0) else 1
def QX (m:LI) (s:YA) (v:Nat) (l:List Qi):Int:=if Yt m s v l.length=0 then QS m 0 l else Yt m s v l.length
def QI (m:LI) (s:YA) (v:Nat) (l:List Qi):LI:=MENC (QH m s.2 v l)++MACL (Ye m) (MENC (QH m s.2 v l))
def Q0 (m:LI) (s:YA) (v:Nat) (l:List Qi):LI:=if QX m s v l=0 then blk (QI m s v l)++(QW m v l l.length).flatten else []
def YY (m:LI) (s:YA) (v:Nat) (l:List Qi):YA:=if QX m s v l=0 then (v,QT (QW m v l l.length)) else (0,[])
theorem Jg {m:LI} {s:YA} {v n:Nat} (h:Yt m s v n=0):m.length=32∧WH s∧v≠18446744073709551615∧¬(0<s.2.length∧v<=s.1)∧n<=1048576:=by
 unfold Yt at h
 by_cases h1:m.length=32∧WH s∧v≠18446744073709551615
 ·rw[if_pos h1] at h
  by_cases h2:0<s.2.length∧v<=s.1
  ·rw[if_pos h2] at h;cases h
  ·rw[if_neg h2] at h
   by_cases h3:1048576<n
   ·rw[if_pos h3] at h;cases h
   ·exact⟨h1.1,h1.2.1,h1.2.2,h2,by omega⟩
 ·rw[if_neg h1] at h;cases h
theorem X7 {m:LI} {s:YA} {v:Nat} {l:List Qi} (h:QX m s v l=0):Yt m s v l.length=0∧QS m 0 l=0:=by
 unfold QX at h
 by_cases h1:Yt m s v l.length=0
 ·rw[if_pos h1] at h;exact⟨h1,h⟩
 ·rw[if_neg h1] at h;exact absurd h h1
theorem JW (l:List (LI)):R8 (l.map LEAF):=λx hx=>by
 obtain⟨a,_,rfl⟩:=List.mem_map.1 hx;exact⟨Jp _,by rw[XD];omega⟩
theorem Zi (l:List (LI)):U8 (QT l):=(Vb (JW l)).1
theorem Px {m:LI} {l:List Qi} (hl:∀c∈l,CG c) {k:Nat}:∀e∈Yp m l k,U8 e.1:=λe he=>by
 obtain⟨i,hi,rfl⟩:=List.mem_map.1 he
 show U8 (l.getD i Qg).1
 by_cases h:i<l.length
 ·rw[Qc,Qe h]
  exact (hl _ (List.getElem_mem h)).t8
 ·rw[Qc,List.getElem?_eq_none (by omega)];intro y hy;cases hy
theorem Ew {m:LI} {s:YA} {v:Nat} {l:List Qi} (hv:v<18446744073709551616) (s8:U8 s.2) (hl:∀c∈l,CG c):Mok (QH m s.2 v l):=⟨hv,Tb s8,Zi _,Px hl⟩
theorem Vl {m:LI} {s:YA} {v:Nat} {l:List Qi} (hv:v<18446744073709551616) (s8:U8 s.2) (hl:∀c∈l,CG c) (h:QX m s v l=0):Y8 (QH m s.2 v l):=by
 obtain⟨h1,h2⟩:=X7 h;obtain⟨_,m2,m3,_,m5⟩:=Jg h1;refine⟨?_,⟨Tc m2,Tb s8⟩,⟨UQ _,Zi _⟩,?_,λe he=>?_⟩
 ·show v<18446744073709551615;omega
 ·show (Yp m l l.length).length<=1048576;rw[KH];exact m5
 ·refine⟨⟨?_,Px hl e he⟩,?_⟩
  ·obtain⟨i,hi,rfl⟩:=List.mem_map.1 he
   have:=Jc l 0 h2 i (by simpa using hi);rw[Nat.zero_add] at this;exact (X0 (Tf (Ge this).2).2.2).1
  ·obtain⟨i,hi,rfl⟩:=List.mem_map.1 he
   exact Oz
def CUT:List (LI × Int)->LI->Option (List (LI) × LI)
 | [],r=>some ([],r)
 | e :: es,r=>if r.length<(QV e.2).toNat+16 then none else
  match CUT es (r.drop ((QV e.2).toNat+16)) with
  | none=>none
  | some x=>some (r.take ((QV e.2).toNat+16) :: x.1,x.2)
theorem Lk:∀(es:List (LI × Int)) (ls:List (LI)) (t:LI),es.length=ls.length->(∀j,j<es.length->(ls.getD j []).length=(QV (es.getD j ([],0)).2).toNat+16)->CUT es (ls.flatten++t)=some (ls,t)
 | [],[],t,_,_=>rfl
 | [],_ :: _,_,h,_=>by simp at h
 | _ :: _,[],_,h,_=>by simp at h
 | e :: es,a :: ls,t,h,hj=>by
  have h0:a.length=(QV e.2).toNat+16:=by simpa using hj 0 (by simp)
  rw[CUT,if_neg (by simp only[List.flatten_cons,List.append_assoc,Qb];omega),List.flatten_cons,List.append_assoc,List.drop_append_of_le_length (by omega),List.take_append_of_le_length (by omega)];rw[<-h0,List.drop_length,List.take_length,List.nil_append,Lk es ls t (by simpa using h) (λj hj'=>by simpa using hj (j+1) (by simpa using hj'))]
def We (b:LI):Except Int (MAN × LI × List (LI)) :=
 if (Qo 268435456 b).2.2≠0 then .error (Qo 268435456 b).2.2
 else if (Qo 268435456 b).1.length<32 then .error 2
 else match MDEC ((Qo 268435456 b).1.take ((Qo 268435456 b).1.length - 32)) with
  | .error e=>.error e
  | .ok m=>match CUT m.es (b.drop (Qo 268435456 b).2.1) with
   | none=>.error 2
   | some x=>if x.2=[] then .ok (m,(Qo 268435456 b).1,x.1) else .error 3
theorem FL {x t:LI} (hx:x.length<=n) (hn:n<18446744073709551616):Qo n (blk x++t)=(x,(blk x).length,0):=by
 unfold Qo blk;have hg:=VX x.length (x++t) (by omega);rw[List.append_assoc,hg,if_neg (by omega),if_neg (by simp),if_neg (by simp only;omega),if_neg (by simp only[Qb];omega)];simp only[Prod.mk.injEq,and_true];refine⟨?_,?_⟩
 ·rw[List.drop_left,show ((x.length:Int)).toNat=x.length by omega,List.take_left]
 ·rw[Qb];omega
theorem yW {m:MAN} {tg:LI} (g:Y8 m) (ht:tg.length=32) (hn:(MENC m).length+32<=268435456) (he:m.es.length=ls.length) (hj:∀j,j<m.es.length->(ls.getD j []).length=(QV (m.es.getD j ([],0)).2).toNat+16) :
 We (blk (MENC m++tg)++ls.flatten)=.ok (m,MENC m++tg,ls):=by
 have hl:(MENC m++tg).length=(MENC m).length+32:=by rw[Qb,ht]
 have hb:=FL (n:=268435456) (x:=MENC m++tg) (t:=ls.flatten) (by omega) (by omega);have hc:=Lk m.es ls [] he hj;rw[List.append_nil] at hc;unfold We;rw[show ((268435456:Nat):Int)=268435456 from rfl] at hb;rw[hb,if_neg (by simp),if_neg (by simp only;omega)];simp only;rw[hl,Nat.add_sub_cancel,List.take_left,Lm g,List.drop_left];simp only;rw[hc]
 rfl
theorem Y5 {fn:Func} {a b c:Tmp} (h:fn.results=#[.tmp a,.tmp b,.tmp c]) (tmps:Array Value) (P:Program) (w:World):(results fn tmps).run P w=.ok (.tuple #[tmps.getD a undef,tmps.getD b undef,tmps.getD c undef]) w:=by
 simp[results,h]
theorem AE {v0 v1 v2:Value} {l0 l1 l2:LI} (hB:W.heap[B]? = some (.cells #[v0,v1,v2] 23 (0,0)))
 (b0:Bs .u8 W v0 l0) (b1:Bs .u8 W v1 l1) (b2:Bs .u8 W v2 l2) (n0:NoCap v0) (n1:NoCap v1) (n2:NoCap v2) (hp:0<l0.length) (hl:(l0++(l1++l2)).length<=140737488355328) :
 Calls prog 28 #[.slice (some ⟨B,0,none⟩) 3 3] W λe w'=>∃v',e=.returned v'∧w'.ownsRow W.heap.size 5 1 v' (l0++(l1++l2)).length (bl (l0++(l1++l2)))∧N0 W w':=by
 have h0:cat (five l0 l1 l2 [] []) 3=l0++(l1++l2):=by simp[cat,List.range_succ,five]
 have:=Vf B 3 (five v0 v1 v2 v2 v2) (five l0 l1 l2 [] []) W (by omega) (by omega)
  (λi hi=>by
   have e:W.cell? ⟨B,i,none⟩=(#[v0,v1,v2]:Array Value)[i]?:=by unfold World.cell?;simp only;rw[hB];rfl
   rw[e]
   match i,hi with
   | 0,_=>rfl
   | 1,_=>rfl
   | 2,_=>rfl)
  (λi hi=>by
   match i,hi with
   | 0,_=>exact b0
   | 1,_=>exact b1
   | 2,_=>exact b2)
  (λi hi=>by
   match i,hi with
   | 0,_=>exact n0
   | 1,_=>exact n1
   | 2,_=>exact n2)
  (by rw[h0];simp only[Qb];omega) (by rw[h0];exact hl)
 rw[h0] at this;exact this
theorem yv (v i:Int) (t:ByteArray) (hi:Y6 i) (ht:t.size<=1000000) (w:World) :
 Calls prog 71 #[.int .u64 v,.int .i64 i,.string t] w λe w'=>∃u,e=.returned u∧w'.ownsRow w.heap.size 5 1 u (YO v i (sb t)).length (bl (YO v i (sb t)))∧N0 w w':=by
 have hw:IntKind.u64.wrap i=i:=by rw[IntKind.wrap_u64];omega
 have A:=Qa (Ue v 8 w (by decide));have B:=Qa (λW=>Ue i 4 W (by decide));rw[show ((8:Nat):Int)=8 from rfl,Qx] at A;rw[show ((4:Nat):Int)=4 from rfl,Qx] at B;have ha:=VN t;have h6:=UW (sb t) (by rw[QQ];exact ht);rw[QQ] at h6;have HX:Hid (fixL v 8++(fixL i 4++blk (sb t))=YO v i (sb t)∧(fixL v 8).length=8∧(fixL i 4).length=4∧(blk (sb t)).length<=1000010):=⟨rfl,Qx _ _,Qx _ _,by omega⟩;have K:=Qa (λ(W:World) (u:Value) (h:Bs .u8 W u (sb t)) (n:NoCap u)=>Wy u (sb t) W h n (by rw[QQ];exact ht));obtain⟨X,hX⟩:=EX (fixL v 8);obtain⟨Y,hY⟩:=EX (fixL i 4);obtain⟨Z,hZ⟩:=EX (blk (sb t));rw[<-hX] at A HX;rw[<-hY] at B HX;simp only[<-hZ] at K HX;clear hX hY hZ hi ht h6;go_enter func71,ntmps71;go_wp2_with fail;refine A.o.mono ?_;rintro e w1 ⟨v1,rfl,h4,o1⟩;obtain⟨a1,c1,rfl⟩:=QB h4;have B1:=Qa (B.o w1);have h9:=Qa h4;have O1:=Qa o1;clear h4 o1 A B;go_wp2_with fail;refine B1.o.mono ?_;rintro e w2 ⟨v2,rfl,h5,o2⟩;obtain⟨a2,c2,rfl⟩:=QB h5;obtain⟨c,hc⟩:=EX (grownCap w2 t.size 0 5);have h8:=grownCap_ge w2 t.size 0 5;have hcw:=ha w2;rw[<-hc] at h8 hcw;have oz:N0 w2 (w2.drew.alloc (UE t c)):=(Only.refl _ _).drew.alloc _;have K1:=Qa (K.o (w2.drew.alloc (UE t c)) (.slice (some ⟨w2.heap.size,0,none⟩) t.size c) (Zm (Uq rfl) (by omega)) (NoCap.some _ _ _));have R:=Qa (And.intro ((h9.o:w1.ownsRow w.heap.size 5 1 _ 8 (X.map (Value.int .u8)))) (And.intro h5 (And.intro o2 (And.intro oz (O1.o.same (o2.same oz))))));clear h5 o2 oz B1 h9 O1 h8 ha hc;go_wp2_with fail;refine K1.o.mono ?_;rintro e w3 ⟨v3,rfl,h0,o3⟩;obtain⟨a3,c3,rfl⟩:=QB h0;obtain⟨r1,r2,r3,r4,r5⟩:=R.o;have oa:N0 w3 (w3.alloc (.cells #[.slice a1 8 c1,.slice a2 4 c2,.slice a3 Z.length c3] 23)):=(Only.refl _ _).alloc _
 have C:=Qa (AE (heap_alloc_new w3 (.cells #[.slice a1 8 c1,.slice a2 4 c2,.slice a3 Z.length c3] 23))
  ((Bs.of_own (k:=.u8) (E:=5) (lo:=w.heap.size) (by rw[HX.o.2.1];exact r1)).past (r3.same (r4.same (o3.same oa))))
  ((Bs.of_own (k:=.u8) (E:=5) (lo:=w1.heap.size) (by rw[HX.o.2.2.1];exact r2)).past (r4.same (o3.same oa)))
  ((Bs.of_own (k:=.u8) h0).past oa) (NoCap.of_own r1) (NoCap.of_own r2) (NoCap.of_own h0) (by have:=HX.o.2.1;omega) (by have h1:=HX.o.2.1;have h2:=HX.o.2.2.1;have h3:=HX.o.2.2.2;simp only[Qb];omega))
 rw[HX.o.1] at C;have O3:=Qa (r5.same (o3.same oa));obtain⟨m,hm⟩:=EX Z.length;rw[<-hm] at C O3 ⊢;clear h0 o3 oa r1 r2 r3 r4 r5 R K1 K hm;go_wp2_with fail;refine C.o.mono ?_;rintro e w4 ⟨v4,rfl,h7,o4⟩;have F:=Qa (And.intro (Qv h7 O3.o.size) (O3.o.same o4));clear h7 o4 C O3;go_wp2;go_ret;exact⟨_,rfl,F.o⟩
theorem DT (vk:Value) (k:LI) (v i:Int) (k8:U8 k) (w:World) (bk:Bs .u8 w vk k) (h32:k.length=32) (hi:Y6 i) :
 Calls prog 68 #[vk,.int .u64 v,.int .i64 i] w λe w'=>∃a b,e=.returned (.tuple #[a,b,.int .i64 0])∧w'.ownsRow w.heap.size 5 1 a 32 (bl (Ya k 2 []))∧w'.ownsRow w.heap.size 5 1 b 12 (bl (YI k v i))∧N0 w w':=by
 have A:=Qa (JM vk k k8 w bk)
 have e1:QL k 2 []=Ya k 2 []:=by unfold QL;rw[if_pos h32];rfl
 have e2:Ut k v i=YI k v i:=by unfold Ut;rw[if_pos h32,if_pos hi]
 have e3:Uf k i=0:=by unfold Uf;rw[if_pos h32,if_pos hi]
 have B:=Qa (λW (o:N0 w W)=>Rj vk k v i k8 W (bk.past o) ⟨by omega,by omega⟩);rw[Zr h32,e1,U1] at A;simp only[e2,e3,VE] at B;clear e1 e2 e3 k8 bk h32 hi;go_enter func68,ntmps68;go_wp2_with fail;refine A.o.mono ?_;rintro e w1 ⟨a,rfl,h0,o1⟩;have B1:=Qa (B.o w1 o1);have F1:=Qa (And.intro h0 o1);clear h0 o1 A B;go_wp2_with fail;refine B1.o.mono ?_;rintro e w2 ⟨b,rfl,h1,o2⟩;have F2:=Qa (And.intro (o2.own F1.o.1 (λ_ _ f=>f)) (And.intro (Qv h1 F1.o.2.size) (F1.o.2.same o2)));clear h1 o2 B1 F1;go_wp2;exact bodyPost_ret (Y5 rfl _ _ _) rfl ⟨_,_,rfl,F2.o⟩
theorem Ok (vk:Value) (k:LI) (v i:Int) (k8:U8 k) (w:World) (bk:Bs .u8 w vk k) (hb:-9223372036854775808<=i∧i<=9223372036854775807) (h:¬(k.length=32∧Y6 i)) :
 Calls prog 68 #[vk,.int .u64 v,.int .i64 i] w λe w'=>e=.returned (.tuple #[.slice none 0 0,.slice none 0 0,.int .i64 1])∧N0 w w':=by
 have A:=Qa (JM vk k k8 w bk)
 by_cases h32:k.length=32
 ·have hi:¬Y6 i:=λq=>h ⟨h32,q⟩
  have e3:Uf k i=1:=by unfold Uf;rw[if_pos h32,if_neg hi]
  have B:=Qa (λW (o:N0 w W)=>Rj vk k v i k8 W (bk.past o) hb);rw[Zr h32] at A;simp only[e3] at B;clear e3 k8 bk h32 hi hb h;go_enter func68,ntmps68;go_wp2_with fail;refine A.o.mono ?_;rintro e w1 ⟨a,rfl,h0,o1⟩;have B1:=Qa (B.o w1 o1);have F1:=Qa o1;clear h0 o1 A B;go_wp2_with fail;refine B1.o.mono ?_;rintro e w2 ⟨b,rfl,h1,o2⟩;have F2:=Qa (F1.o.same o2);clear h1 o2 B1 F1;go_wp2;exact bodyPost_ret (Y5 rfl _ _ _) rfl ⟨rfl,F2.o⟩
 ·rw[Z5 h32] at A
  clear k8 bk h32 hb h;go_enter func68,ntmps68;go_wp2_with fail;refine A.o.mono ?_;rintro e w1 ⟨a,rfl,h0,o1⟩;have F1:=Qa o1;clear h0 o1 A;go_wp2;exact bodyPost_ret (Y5 rfl _ _ _) rfl ⟨rfl,F1.o⟩
theorem qp (t:ByteArray) (u:Value) (s:List (Int × Int)) (w:World) (h:Sps w u s) (hg:Gs s) (hm:s.length<=maxLen) (hm2:t.size<=maxLen) (hT:Tab w) :
 Calls prog 69 #[.agg #[.string t,u]] w λe w'=>∃v n,e=.returned (.tuple #[v,.int .i64 n,.int .i64 (Yl (sb t,s))])∧w'.ownsRow w.heap.size 5 1 v (Vt (sb t,s)).length (bl (Vt (sb t,s)))∧(Yl (sb t,s)=0->n=Ko (sb t,s))∧N0 w w':=by
 obtain⟨au,nu,cu,rfl⟩:∃a n c,u=.slice a n c:=by obtain⟨a,c,e,_⟩:=h;exact⟨_,_,_,e⟩
 have oA:N0 w (w.alloc (.cells #[.string t,.slice au nu cu] 46)):=(Only.refl _ _).alloc _;have A:=Qa (JJ t (.slice au nu cu) s (w.alloc (.cells #[.string t,.slice au nu cu] 46)) (h.past oA) hg hm hm2 (hT.past oA));have OA:=Qa oA;obtain⟨b,hb⟩:=EX (QF (sb t,s));obtain⟨c,hc⟩:=EX ((ENCC (sb t) s).2);rw[<-hc,show (ENCC (sb t) s).1=b from hb.symm] at A
 have eE:Yl (sb t,s)=if c=0 then Us b else c:=by rw[hc,hb];rfl
 have eT:Vt (sb t,s)=if Yl (sb t,s)=0 then PADL b else []:=by rw[hb];rfl
 have eB:Ko (sb t,s)=if Yl (sb t,s)=0 then (QK b.length:Int) else 0:=by rw[hb];rfl
 clear h hg hm hm2 hT oA hb hc
 by_cases h0:c=0
 ·rw[if_pos h0] at eE
  subst h0;have K:=Qa (λW=>VP (b.length:Int) W)
  by_cases h1:b.length<=4194300
  ·have e0:Us b=0:=by unfold Us;rw[if_pos h1]
   rw[e0] at eE;rw[eE,if_pos rfl] at eT eB;have P:=Qa (λ(W:World) (v:Value) (h:Bs .u8 W v b)=>IL v b W h)
   have q1:Yo (b.length:Int)=0:=by unfold Yo;rw[if_neg (by omega),if_neg (by omega)]
   have q2:Uy (b.length:Int)=QK b.length:=by unfold Uy;rw[if_pos (by omega)];rfl
   simp only[e0,show WX b=PADL b by unfold WX;rw[if_pos h1]] at P;simp only[q1,q2] at K;rw[eE,eT];rw[<-eB] at K;clear h1 e0 q1 q2 eE eT eB;obtain⟨n,hn⟩:=EX b.length;obtain⟨bk,h4⟩:=EX (Ko (sb t,s));rw[<-h4] at K ⊢;rw[<-hn] at K A;clear h4;go_enter func69,ntmps69;go_wp2_with fail;refine A.o.mono ?_;rintro e w1 ⟨v1,rfl,h2,o1⟩;have K1:=Qa (K.o w1);have P1:=Qa (λW (o:N0 w1 W)=>P.o W v1 ((Bs.of_own (k:=.u8) (E:=5) (lo:=(w.alloc (.cells #[.string t,.slice au nu cu] 46)).heap.size) (by rw[<-hn];exact h2)).past o));obtain⟨a1,c1,rfl⟩:=QB h2;have O1:=Qa (OA.o.same o1);clear h2 o1 A K P OA hn;go_wp2_with fail;refine K1.o.mono ?_;rintro e w2 ⟨rfl,o2⟩;have P2:=Qa (P1.o w2 o2);have O2:=Qa (O1.o.same o2);clear o2 P1 K1 O1;go_wp2_with fail;refine P2.o.mono ?_;rintro e w3 ⟨v3,rfl,h3,o3⟩;have F:=Qa (And.intro (Qv h3 O2.o.size) (O2.o.same o3));clear h3 o3 P2 O2;go_wp2;exact bodyPost_ret (Y5 rfl _ _ _) rfl ⟨_,_,rfl,F.o.1,λ_=>rfl,F.o.2⟩
  ·have e0:Us b=4:=by unfold Us;rw[if_neg h1]
   rw[e0] at eE;rw[eE,if_neg (by decide)] at eT
   have q1:Yo (b.length:Int)=4:=by unfold Yo;rw[if_neg (by omega),if_pos (by omega)]
   simp only[q1] at K;rw[eE,eT];clear h1 e0 q1 eE eT eB;obtain⟨n,hn⟩:=EX b.length;rw[<-hn] at K A;clear hn;go_enter func69,ntmps69;go_wp2_with fail;refine A.o.mono ?_;rintro e w1 ⟨v1,rfl,h2,o1⟩;have K1:=Qa (K.o w1);obtain⟨a1,c1,rfl⟩:=QB h2;have O1:=Qa (OA.o.same o1);clear h2 o1 A K OA;go_wp2_with fail;refine K1.o.mono ?_;rintro e w2 ⟨rfl,o2⟩;have O2:=Qa (O1.o.same o2);clear o2 K1 O1;go_wp2;exact bodyPost_ret (Y5 rfl _ _ _) rfl ⟨_,_,rfl,World.ownsRow_nil _ _ _ _,λq=>absurd q (by decide),O2.o⟩
 ·rw[if_neg h0] at eE
  rw[eE,if_neg h0] at eT;rw[eE,eT]
  have hne:(c != 0)=true:=by simpa using h0
  have h0':=Qa h0;clear eE eT eB h0;go_enter func69,ntmps69;go_wp2_with fail;refine A.o.mono ?_;rintro e w1 ⟨v1,rfl,h2,o1⟩;have O1:=Qa (OA.o.same o1);clear h2 o1 A OA;go_wp2;exact bodyPost_ret (Y5 rfl _ _ _) rfl ⟨_,_,rfl,World.ownsRow_nil _ _ _ _,λq=>absurd q h0'.o,O1.o⟩
theorem Tryz.sizeCk:(prog.info? 46).map (·.size)=some 2:=by kernel_rfl
theorem PF {b:Nat} {x y:Value} (h:W.heap[b]? = some (.cells #[x,y] 46 (0,0))):(loadVar 46 ⟨b,0,none⟩).run prog W=.ok (.agg #[x,y]) W :=
 run_loadVar_row W b 46 46 _ (0,0) _ h underlying46 rfl Tryz.sizeCk
theorem Qz {x y:Value} {T:TypeId} (h:W.heap[B]? = some (.cells #[x,y] T (0,0))):W.cell? ⟨B,0,none⟩=some x∧W.cell? ⟨B,1,none⟩=some y∧W.frozen? ⟨B,0,none⟩=false∧W.frozen? ⟨B,1,none⟩=false :=
 ⟨by simp[World.cell?,h],by simp[World.cell?,h],by simp[World.frozen?,h],by simp[World.frozen?,h]⟩
theorem yd (vk:Value) (k:LI) (v i:Int) (t:ByteArray) (u:Value) (s:List (Int × Int)) (w:World) (bk:Bs .u8 w vk k) (k8:U8 k) (hb:-9223372036854775808<=i∧i<=9223372036854775807)
 (h:Sps w u s) (hg:Gs s) (hm:s.length<=maxLen) (hm2:t.size<=maxLen) (hT:Tab w) :
 Calls prog 45 #[vk,.int .u64 v,.int .i64 i,.agg #[.string t,u]] w λe w'=>∃x,e=.returned (.tuple #[x,.int .i64 (QU k i (sb t,s)),.int .i64 (Yg k i (sb t,s))])∧w'.ownsRow w.heap.size 5 1 x (QR k v i (sb t,s)).length (bl (QR k v i (sb t,s)))∧N0 w w':=by
 obtain⟨au,nu,cu,rfl⟩:∃a n c,u=.slice a n c:=by obtain⟨a,c,e,_⟩:=h;exact⟨_,_,_,e⟩
 have oA:N0 w (w.alloc (.cells #[.string t,.slice au nu cu] 46)):=(Only.refl _ _).alloc _;have G0:=Qa (heap_alloc_new w (.cells #[.string t,.slice au nu cu] 46));have OA:=Qa oA
 by_cases h1:k.length=32∧Y6 i
 ·obtain⟨hd,hi⟩:=h1
  have A:=Qa (DT vk k v i k8 _ (bk.past oA) hd hi);have P:=Qa (λW (o:N0 w W)=>qp t (.slice au nu cu) s W (h.past o) hg hm hm2 (hT.past o))
  have eE:Yg k i (sb t,s)=Yl (sb t,s):=by unfold Yg;rw[if_pos hd,if_pos hi]
  have eT:QR k v i (sb t,s)=if Yl (sb t,s)=0 then UG (Ya k 2 []) (YI k v i) (YO v i (sb t)) (PADL (QF (sb t,s))) else []:=by unfold QR;rw[eE]
  have eB:QU k i (sb t,s)=if Yl (sb t,s)=0 then Ko (sb t,s) else 0:=by unfold QU Ko;rw[eE];split <;> rfl
  have eP:Vt (sb t,s)=if Yl (sb t,s)=0 then PADL (QF (sb t,s)) else []:=rfl
  have h8:U8 (QF (sb t,s)):=Ru ⟨Z6 t,hg⟩
  by_cases h0:Yl (sb t,s)=0
  ·obtain⟨q1,q2,q3,q4⟩:=X0 h0
   rw[QQ] at q1;rw[if_pos h0] at eT eB eP;rw[eE,h0,eT,eB];simp only[h0,eP] at P;have hl:U8 (PADL (QF (sb t,s))):=Ha h8
   have hpl:(PADL (QF (sb t,s))).length<=4194304:=by rw[XY _ q4];exact ZT _
   have BS:=Qa (λW=>yv v i t hi (by omega) W)
   have hbl:(YO v i (sb t)).length<=200:=by have:=Cd (v:=v) (i:=i) (t:=sb t) (by rw[QQ];omega);rw[QQ] at this;omega
   have hj:U8 (YO v i (sb t)):=Fz (Z6 t);have hh:=Ta (Ya k 2 []) (YI k v i) (YO v i (sb t)) (PADL (QF (sb t,s)));have kn:KN (Ya k 2 []) (YI k v i):=⟨U1 _ _ _,VE _ _ _⟩;have SL:=Qa (λ(W:World) (a b c d:Value) (h1:Bs .u8 W a (Ya k 2 [])) (h2:Bs .u8 W b (YI k v i)) (h3:Bs .u8 W c (YO v i (sb t))) (n3:NoCap c) (h4:Bs .u8 W d (PADL (QF (sb t,s))))=>Cj a b c d _ _ _ _ kn (VQ _ _ _) (Np _ _ _) hj hl (by omega) (by omega) W h1 h2 h3 n3 h4);simp only[<-hh] at SL;have L:=Qa (And.intro (U1 k 2 []) (VE k v i));clear eE eT eB eP h0 q1 q2 q3 q4 hl hpl hbl hj hh kn h8 bk k8 hb h hg hm hm2 hT hd hi oA;generalize UG (Ya k 2 []) (YI k v i) (YO v i (sb t)) (PADL (QF (sb t,s)))=Y at *;generalize Ya k 2 []=k1 at *;generalize YI k v i=k2 at *;generalize YO v i (sb t)=X at *;generalize PADL (QF (sb t,s))=p at *;generalize Ko (sb t,s)=n at *;go_enter func45,ntmps45;go_wp2_with fail;refine A.o.mono ?_;rintro e w1 ⟨a,b,rfl,h6,h5,o1⟩;have G1:=o1.heap G0.o (λf=>f);have hk:=PF G1;obtain⟨c0,c1,_,_⟩:=Qz G1;have P1:=Qa (P.o w1 (OA.o.same o1));have B1:Hid (Bs .u8 w1 a k1∧Bs .u8 w1 b k2):=⟨Bs.of_own (k:=.u8) (E:=5) (lo:=(w.alloc (.cells #[.string t,.slice au nu cu] 46)).heap.size) (by rw[L.o.1];exact h6),Bs.of_own (k:=.u8) (E:=5) (lo:=(w.alloc (.cells #[.string t,.slice au nu cu] 46)).heap.size) (by rw[L.o.2];exact h5)⟩;have O1:=Qa (OA.o.same o1);have H1:=Qa G1;clear h6 h5 o1 A P OA G0 G1 L;go_wp2_with fail;refine P1.o.mono ?_;rintro e w2 ⟨x2,n2,rfl,h7,he,o2⟩;obtain rfl:=he trivial;have G2:=o2.heap H1.o (λf=>f);clear c0 c1 hk;obtain⟨c0,c1,_,_⟩:=Qz G2;have hf:=Qa (BS.o w2);have B2:=Qa (And.intro (B1.o.1.past o2) (And.intro (B1.o.2.past o2) (show Bs .u8 w2 x2 p from Bs.of_own h7)));have O2:=Qa (O1.o.same o2);clear h7 he o2 P1 B1 O1 G2 H1 BS;go_wp2_with fail;refine hf.o.mono ?_;rintro e w3 ⟨x3,rfl,h9,o3⟩;have hn:=Qa (SL.o w3 a b x3 x2 (B2.o.1.past o3) (B2.o.2.1.past o3) (Bs.of_own h9) (NoCap.of_own h9) (B2.o.2.2.past o3));have O3:=Qa (O2.o.same o3);clear h9 o3 hf B2 O2 SL c0 c1;go_wp2_with fail;refine hn.o.mono ?_;rintro e w4 ⟨x4,rfl,ha,o4⟩;have F:=Qa (And.intro (Qv ha O3.o.size) (O3.o.same o4));clear ha o4 hn O3;go_wp2;exact bodyPost_ret (Y5 rfl _ _ _) rfl ⟨_,rfl,F.o⟩
  ·rw[if_neg h0] at eT eB eP
   rw[eE,eT,eB]
   have hne:(Yl (sb t,s) != 0)=true:=by simpa using h0
   clear eE eT eB eP h8 bk k8 hb h hg hm hm2 hT hd hi oA;generalize Yl (sb t,s)=c at *;clear h0;go_enter func45,ntmps45;go_wp2_with fail;refine A.o.mono ?_;rintro e w1 ⟨a,b,rfl,h6,h5,o1⟩;have G1:=o1.heap G0.o (λf=>f);have hk:=PF G1;obtain⟨c0,c1,_,_⟩:=Qz G1;have P1:=Qa (P.o w1 (OA.o.same o1));have O1:=Qa (OA.o.same o1);clear h6 h5 o1 A P OA G0 G1;go_wp2_with fail;refine P1.o.mono ?_;rintro e w2 ⟨x2,n2,rfl,h7,he,o2⟩;have O2:=Qa (O1.o.same o2);clear h7 he o2 P1 O1;go_wp2;exact bodyPost_ret (Y5 rfl _ _ _) rfl ⟨_,rfl,World.ownsRow_nil _ _ _ _,O2.o⟩
 ·have A:=Qa (Ok vk k v i k8 _ (bk.past oA) hb h1)
  have eE:Yg k i (sb t,s)=1:=by
   unfold Yg
   by_cases q:k.length=32
   ·rw[if_pos q,if_neg (λz=>h1 ⟨q,z⟩)]
   ·rw[if_neg q]
  have eT:QR k v i (sb t,s)=[]:=by unfold QR;rw[eE];rfl
  have eB:QU k i (sb t,s)=0:=by unfold QU;rw[eE];rfl
  rw[eE,eT,eB];clear eE eT eB bk k8 hb h hg hm hm2 hT h1 oA G0;go_enter func45,ntmps45;go_wp2_with fail;refine A.o.mono ?_;rintro e w1 ⟨rfl,o1⟩;have O1:=Qa (OA.o.same o1);clear o1 A OA;go_wp2;exact bodyPost_ret (Y5 rfl _ _ _) rfl ⟨_,rfl,World.ownsRow_nil _ _ _ _,O1.o⟩
theorem Tryz.sizeStt:(prog.info? 31).map (·.size)=some 2:=by kernel_rfl
theorem V4 {b:Nat} {x y:Value} (h:W.heap[b]? = some (.cells #[x,y] 31 (0,0))):(loadVar 31 ⟨b,0,none⟩).run prog W=.ok (.agg #[x,y]) W :=
 run_loadVar_row W b 31 31 _ (0,0) _ h underlying31 rfl Tryz.sizeStt
theorem Zk (x:Value) (ao:Option Addr) (n c:Nat) (w:World) :
 Calls prog 43 #[.agg #[x,.slice ao n c]] w λe w'=>e=.returned (.bool (decide (0<n)))∧N0 w w':=by
 have O:=Qa ((Only.refl (λ_=>False) w).alloc (.cells #[x,.slice ao n c] 31))
 have e:decide ((0:Int)<(n:Int))=decide (0<n):=by simp
 go_enter func43,ntmps43;go_wp2;go_ret;exact⟨by simp,O.o⟩
theorem Rl (x:Value) (ao:Option Addr) (n c:Nat) (w:World) :
 Calls prog 37 #[.agg #[x,.slice ao n c]] w λe w'=>e=.returned (.bool (decide (n=0∨n=32)))∧N0 w w':=by
 have G0:=Qa (heap_alloc_new w (.cells #[x,.slice ao n c] 31));have O:=Qa ((Only.refl (λ_=>False) w).alloc (.cells #[x,.slice ao n c] 31));have A:=Qa (Zk x ao n c (w.alloc (.cells #[x,.slice ao n c] 31)))
 by_cases h:0<n
 ·rw[Qf h] at A
  have e:decide (n=0∨n=32)=((n:Int) == 32):=by
   by_cases q:n=32
   ·subst q;rfl
   ·rw[Qj (by omega)];symm;rw[beq_eq_false_iff_ne];omega
  rw[e];obtain⟨b,hb⟩:=EX (((n:Int) == 32));rw[<-hb];have HB:=Qa hb.symm;clear h e hb;go_enter func37,ntmps37;go_wp2_with fail;refine A.o.mono ?_;rintro e w1 ⟨rfl,o1⟩;obtain⟨c0,c1,_,_⟩:=Qz (o1.heap G0.o (λf=>f));have F:=Qa (O.o.same o1);clear A O o1 G0;go_wp2;go_ret;exact⟨by rw[<-HB.o];simp,F.o⟩
 ·rw[Qj h] at A
  rw[Qf (by omega:n=0∨n=32)];clear h;go_enter func37,ntmps37;go_wp2_with fail;refine A.o.mono ?_;rintro e w1 ⟨rfl,o1⟩;have F:=Qa (O.o.same o1);clear A O o1 G0;go_wp2;go_ret;exact⟨rfl,F.o⟩
theorem Sy (am:Option Addr) (M cm p:Nat) (ao:Option Addr) (n c v q:Nat) (w:World) :
 Calls prog 21 #[.slice am M cm,.agg #[.int .u64 p,.slice ao n c],.int .u64 v,.int .i64 q] w λe w' =>
  e=.returned (.int .i64 (if M=32∧(n=0∨n=32)∧v≠18446744073709551615 then (if 0<n∧v<=p then 6 else if 1048576<q then 4 else 0) else 1))∧N0 w w':=by
 have G0:=Qa (heap_alloc_new w (.cells #[.int .u64 p,.slice ao n c] 31));have O:=Qa ((Only.refl (λ_=>False) w).alloc (.cells #[.int .u64 p,.slice ao n c] 31));have R:=Qa (Rl (.int .u64 p) ao n c (w.alloc (.cells #[.int .u64 p,.slice ao n c] 31)));have A:=Qa (λW=>Zk (.int .u64 p) ao n c W)
 by_cases hM:M=32
 ·have d1:((M:Int) != 32)=false:=by subst hM;rfl
  by_cases hr:n=0∨n=32
  ·rw[Qf hr] at R
   by_cases hv:v=18446744073709551615
   ·have d2:((v:Int) == 18446744073709551615)=true:=by subst hv;rfl
    rw[if_neg (λh=>h.2.2 hv)];clear hM hr hv A;go_enter func21,ntmps21;go_wp2_with fail;refine R.o.mono ?_;rintro e w1 ⟨rfl,o1⟩;have F:=Qa (O.o.same o1);clear R O o1 G0;go_wp2;go_ret;exact⟨rfl,F.o⟩
   ·have d2:((v:Int) == 18446744073709551615)=false:=by rw[beq_eq_false_iff_ne];omega
    rw[if_pos ⟨hM,hr,hv⟩];obtain⟨t,ht⟩:=EX (decide (0<n));simp only[<-ht] at A
    have e0:(if 0<n∧v<=p then (6:Int) else if 1048576<q then 4 else 0)=if t=true∧v<=p then 6 else if 1048576<q then 4 else 0:=by rw[ht];simp
    rw[e0];clear hM hr hv ht e0
    by_cases h1:t=true∧v<=p
    ·obtain⟨rfl,h2⟩:=h1
     rw[if_pos ⟨rfl,h2⟩];have d3:decide (v<=p)=true:=Qf h2;have d4:decide ((v:Int)<=(p:Int))=true:=Qf (by omega);clear h2;go_enter func21,ntmps21;go_wp2_with fail;refine R.o.mono ?_;rintro e w1 ⟨rfl,o1⟩;have G1:=o1.heap G0.o (λf=>f);obtain⟨c0,c1,_,_⟩:=Qz G1;have A1:=Qa (A.o w1);have F:=Qa (O.o.same o1);have H1:=Qa G1;clear R O o1 G0 G1 A;go_wp2_with fail;refine A1.o.mono ?_;rintro e w2 ⟨rfl,o2⟩;clear c0 c1;obtain⟨c0,c1,_,_⟩:=Qz (o2.heap H1.o (λf=>f));have F2:=Qa (F.o.same o2);clear F o2 A1 H1;go_wp2;go_ret;exact⟨rfl,F2.o⟩
    ·rw[if_neg h1]
     obtain⟨z,hz⟩:=EX (decide (1048576<q))
     have hz2:decide ((1048576:Int)<(q:Int))=z:=by rw[hz];exact decide_eq_decide.2 (by omega)
     have e0:(if 1048576<q then (4:Int) else 0)=if z=true then 4 else 0:=by rw[hz];simp
     rw[e0];have hz3:=hz.symm;clear e0 hz
     cases ht:t with
     | false =>
      subst ht
      cases z
      all_goals (
       clear h1;go_enter func21,ntmps21;go_wp2_with fail;refine R.o.mono ?_;rintro e w1 ⟨rfl,o1⟩;have G1:=o1.heap G0.o (λf=>f);obtain⟨c0,c1,_,_⟩:=Qz G1;have A1:=Qa (A.o w1);have F:=Qa (O.o.same o1);clear R O o1 G0 G1 A;go_wp2_with fail;refine A1.o.mono ?_;rintro e w2 ⟨rfl,o2⟩;have F2:=Qa (F.o.same o2);clear F o2 A1;go_wp2;go_ret
       exact⟨rfl,F2.o⟩)
     | true =>
      subst ht;have d3:decide (v<=p)=false:=Qj (λh=>h1 ⟨rfl,h⟩);have d4:decide ((v:Int)<=(p:Int))=false:=Qj (λh=>h1 ⟨rfl,by omega⟩)
      cases z
      all_goals (
       clear h1;go_enter func21,ntmps21;go_wp2_with fail;refine R.o.mono ?_;rintro e w1 ⟨rfl,o1⟩;have G1:=o1.heap G0.o (λf=>f);obtain⟨c0,c1,_,_⟩:=Qz G1;have A1:=Qa (A.o w1);have F:=Qa (O.o.same o1);have H1:=Qa G1;clear R O o1 G0 G1 A;go_wp2_with fail;refine A1.o.mono ?_;rintro e w2 ⟨rfl,o2⟩;clear c0 c1;obtain⟨c0,c1,_,_⟩:=Qz (o2.heap H1.o (λf=>f));have F2:=Qa (F.o.same o2);clear F o2 A1 H1;go_wp2;go_ret
       exact⟨rfl,F2.o⟩)
  ·rw[Qj hr] at R
   rw[if_neg (λh=>hr h.2.1)];clear hM hr A;go_enter func21,ntmps21;go_wp2_with fail;refine R.o.mono ?_;rintro e w1 ⟨rfl,o1⟩;have F:=Qa (O.o.same o1);clear R O o1 G0;go_wp2;go_ret;exact⟨rfl,F.o⟩
 ·have d1:((M:Int) != 32)=true:=by rw[bne_iff_ne];omega
  rw[if_neg (λh=>hM h.1)];clear hM A R G0;go_enter func21,ntmps21;go_wp2;go_ret;exact⟨rfl,O.o⟩
theorem yt (x vr:Value) (r:LI) (w:World) (hr:Bs .u8 w vr r) (nr:NoCap vr) :
 Calls prog 24 #[.agg #[x,vr]] w λe w'=>∃u,e=.returned u∧Bs .u8 w' u (US r)∧NoCap u∧N0 w w':=by
 obtain⟨ao,c,rfl⟩:=hr.len;have G0:=Qa (heap_alloc_new w (.cells #[x,.slice ao r.length c] 31));have oA:N0 w (w.alloc (.cells #[x,.slice ao r.length c] 31)):=(Only.refl _ _).alloc _;have A:=Qa (Zk x ao r.length c (w.alloc (.cells #[x,.slice ao r.length c] 31)));have O:=Qa oA;have B:=Qa (And.intro (hr.past oA) nr)
 by_cases h:r.length=0
 ·rw[Qj (by omega:¬0<r.length)] at A
  have e:US r=List.replicate 32 0:=if_pos h;rw[e];have MK:=Qa (λW=>VC W 32 (by omega));obtain⟨n,hn⟩:=EX r.length;rw[<-hn] at A O G0 ⊢;clear hr nr h e B hn oA;go_enter func24,ntmps24;go_wp2_with fail;refine A.o.mono ?_;rintro e w1 ⟨rfl,o1⟩;obtain⟨wm,hmk,h0,om⟩:=MK.o w1;rw[show ((32:Nat):Int)=32 from rfl] at hmk;have F:=Qa (And.intro (h0.bs 32 (by simp)) (O.o.same (o1.same om)));clear A O o1 G0 MK h0 om;go_wp2;go_ret;exact⟨_,rfl,F.o.1,NoCap.some _ _ _,F.o.2⟩
 ·rw[Qf (by omega:0<r.length)] at A
  have e:US r=r:=if_neg h;rw[e];obtain⟨n,hn⟩:=EX r.length;rw[<-hn] at A O G0 B ⊢;clear hr nr h e hn oA;go_enter func24,ntmps24;go_wp2_with fail;refine A.o.mono ?_;rintro e w1 ⟨rfl,o1⟩;obtain⟨c0,c1,_,_⟩:=Qz (o1.heap G0.o (λf=>f));have F:=Qa (And.intro (B.o.1.past o1) (And.intro B.o.2 (O.o.same o1)));clear A O o1 G0 B;go_wp2;go_ret;exact⟨_,rfl,F.o.1,F.o.2⟩
theorem Tryz.infoRows:(prog.info? 23).map (λi=>(i.zero,i.size,i.bytes))=some (some (.slice none 0 0),1,24):=by kernel_rfl
theorem Mj (w:World) (t:TypeId) (vs:List Value) {base:Nat} (hb:base<=w.heap.size) (hl:vs.length<=maxLen):(w.alloc (.cells vs.toArray t)).ownsRow base t 1 (.slice (some ⟨w.heap.size,0,none⟩) vs.length vs.length) vs.length vs :=
 ⟨(Nat.mul_one _).symm,.inr ⟨w.heap.size,vs.length,vs.toArray,rfl,hb,Blk.new w t vs,Nat.le_refl _,hl,by rw[List.size_toArray,Nat.mul_one],by rw[Nat.mul_one];exact List.take_length⟩⟩
def VS (w:World) (u:Value) (ys:List Value):Prop :=
 ∃ao cap,u=.slice ao ys.length cap∧NoCap u∧(∀y∈ys,y.oneCell'=true)∧(ao=none->ys=[])∧∀ad,ao=some ad->∀j y,ys[j]? = some y->w.cell? (ad.add j)=some y
theorem VS.of_own {lo n:Nat} {e:TypeId} {u:Value} {ys:List Value} (h:w.ownsRow lo e 1 u n ys) (h1:∀y∈ys,y.oneCell'=true):VS w u ys:=by
 have hl:=h.1
 rcases h.2 with ⟨rfl,h0⟩ | ⟨g,cap,cur,rfl,hb,hg,hc,r⟩
 ·have:ys=[]:=List.eq_nil_of_length_eq_zero (by omega)
  subst this;exact⟨none,0,rfl,NoCap.nil,h1,λ_=>rfl,λad e=>by cases e⟩
 ·refine⟨_,cap,by rw[show ys.length=n by omega],NoCap.some _ _ _,h1,λe=>by (cases e),λad e j y hy=>?_⟩
  cases e
  have hj:=(List.getElem?_eq_some_iff.1 hy).1;have:=h.cellAt j (by omega);rw[Go.WideShapes.add_plain,Nat.zero_add,this,hy]
theorem ud {P:Program} {w:World} {o:Oper} {a:Act} {K:Act->World->Prop} {Q:Exit->Act->World->Prop} (s x:Operand) (t:TypeId)
 (ho:o.op=.call { callee:=.builtin .append,args:=#[s,x],argTypes:=#[t,t] })
 (base:Nat) (e:TypeId) (i:TypeInfo) (z:Value) (bytes:Nat) (ht:P.underlying t=some (.slice e)) (hi:P.info? e=some i) (hz:i.zero=some z)
 (hsize:i.size=1) (hby:i.bytes=bytes) (hzs:z.cells.size=1)
 (v:Value) (n:Nat) (xs:List Value) (hs:a.eval s=v) (hown:w.ownsRow base e 1 v n xs)
 (u:Value) (ys:List Value) (hx:a.eval x=u) (hb:VS w u ys)
 (h63:n+ys.length<=maxLen) (hbytes:(n+ys.length)*bytes<=140737488355328) (hbase:base<=w.heap.size)
 (h:∀v' w',w'.ownsRow base e 1 v' (n+ys.length) (xs++ys)->w.grownBy w' v.ownBlock->K (a.put o.dst v') w') :
 Oper.wp P o a w K Q:=by
 obtain⟨ao,cap,rfl,hnc,h4,h3,h2⟩:=hb
 cases ao with
 | none =>
  have h0:ys=[]:=h3 rfl;subst h0;have hc:cap=0:=hnc _ _ rfl;subst hc;have h1:=run_append_owned_none (P:=P) (w:=w) base t o.type e i 1 ht hi v n xs hown;have hK:=h v w (by simpa using hown) (World.grownBy.refl _ _);unfold Oper.wp;simp[execOp,ho,resolve,invoke,builtin,hs,hx,h1,Result.andThen];exact hK
 | some ad =>
  obtain⟨v',w',h1,r1,r2,_⟩:=run_append_own_at (P:=P) w base t o.type e i z 1 bytes ht hi hz hsize hby hzs (by omega) v n xs hown ad ys.length cap ys (by simp) (h2 ad rfl) h4 h63 hbytes hbase;unfold Oper.wp;simp[execOp,ho,resolve,invoke,builtin,hs,hx,h1,Result.andThen];exact h v' w' r1 r2
theorem Lp {P:Program} (w:World) {ops:Array Oper} {rest:List Oper} {o:Oper} {a:Act} {Q:Exit->Act->World->Prop} (hw:Region.wanted o (yielded ops a.tmps)=true) (s x:Operand) (t:TypeId)
 (ho:o.op=.call { callee:=.builtin .append,args:=#[s,x],argTypes:=#[t,t] })
 (base:Nat) (e:TypeId) (i:TypeInfo) (z:Value) (bytes:Nat) (ht:P.underlying t=some (.slice e)) (hi:P.info? e=some i) (hz:i.zero=some z)
 (hsize:i.size=1) (hby:i.bytes=bytes) (hzs:z.cells.size=1)
 (v:Value) (n:Nat) (xs:List Value) (hs:a.eval s=v) (hown:w.ownsRow base e 1 v n xs)
 (u:Value) (ys:List Value) (hx:a.eval x=u) (hb:VS w u ys)
 (h63:n+ys.length<=maxLen) (hbytes:(n+ys.length)*bytes<=140737488355328) (hbase:base<=w.heap.size)
 (h:∀v' w',w'.ownsRow base e 1 v' (n+ys.length) (xs++ys)->w.grownBy w' v.ownBlock->wpList P ops Q rest (a.put o.dst v') w') :
 wpList P ops Q (o :: rest) a w:=by
 refine wpList_step λK hK=>?_
 rw[if_pos hw];exact ud s x t ho base e i z bytes ht hi hz hsize hby hzs v n xs hs hown u ys hx hb h63 hbytes hbase (λv' w' h1 h2=>hK _ _ (h v' w' h1 h2))
def LO (w:World) (vs:List Value) (ls:List (LI)):Prop:=vs.length=ls.length∧∀j u,vs[j]? = some u->∃lo,w.ownsRow lo 5 1 u (ls.getD j []).length (bl (ls.getD j []))
theorem LO.nil (w:World):LO w [] []:=⟨rfl,λj u h=>by simp at h⟩
theorem LO.one {lo:Nat} {u:Value} (h:w.ownsRow lo 5 1 u l.length (bl l)):LO w [u] [l]:=⟨rfl,λj v hv=>by
 cases j with
 | zero=>simp at hv;subst hv;exact⟨lo,h⟩
 | succ j=>simp at hv⟩
theorem LO.app {vs us:List Value} {ls ms:List (LI)} (h:LO w vs ls) (k:LO w us ms):LO w (vs++us) (ls++ms):=⟨by rw[Qb,Qb,h.1,k.1],λj u hu=>by
 have hl:=h.1
 by_cases hj:j<vs.length
 ·rw[List.getElem?_append_left hj] at hu
  rw[Qc,List.getElem?_append_left (by omega),<-Qc];exact h.2 j u hu
 ·rw[List.getElem?_append_right (by omega)] at hu
  rw[Qc,List.getElem?_append_right (by omega),<-Qc,<-hl]
  exact k.2 _ u hu⟩
theorem LO.past {vs:List Value} (h:LO w vs ls) (o:N0 w w'):LO w' vs ls:=⟨h.1,λj u hu=>by
 obtain⟨lo,h1⟩:=h.2 j u hu
 exact⟨lo,o.own h1 (λ_ _ f=>f)⟩⟩
theorem LO.grown {vs:List Value} (h:LO w vs ls) {base n:Nat} {v:Value} {xs:List Value} (hv:w.ownsRow base 23 1 v n xs) (g:w.grownBy w' v.ownBlock):LO w' vs ls:=⟨h.1,λj u hu=>by
 obtain⟨lo,h1⟩:=h.2 j u hu;refine⟨lo,((Only.refl (λk=>v.ownBlock=some k) w).grown g (λ_ _ e=>e)).own h1 (λk hk e=>?_)⟩
 rcases hv.2 with ⟨rfl,_⟩ | ⟨b,cap,cur,rfl,_,hb,_⟩
 ·cases e
 ·cases e
  rcases h1.2 with ⟨rfl,_⟩ | ⟨b',cap',cur',rfl,_,hb',_⟩
  ·cases hk
  ·cases hk
   rw[hb] at hb'
   cases hb'⟩
theorem LO.one' {vs:List Value} (h:LO w vs ls):∀y∈vs,y.oneCell'=true:=λy hy=>by
 obtain⟨j,hj,rfl⟩:=List.mem_iff_getElem.1 hy;obtain⟨lo,h1⟩:=h.2 j _ (Qe hj)
 rcases h1.2 with ⟨e,_⟩ | ⟨b,cap,cur,e,_⟩
 ·rw[e];rfl
 ·rw[e];rfl
theorem LO.rl {lo:Nat} {vs:List Value} (h:LO w vs ls) (ho:w.ownsRow lo 23 1 v vs.length vs):RL w v ls∧NoCap v:=⟨RL.of_own (lo:=lo) (vs:=vs) (by rw[<-h.1];exact ho) (λj u hu=>by
 obtain⟨lo',h1⟩:=h.2 j u hu
 exact⟨Bs.of_own (k:=.u8) (E:=5) (lo:=lo') h1,NoCap.of_own h1⟩),NoCap.of_own ho⟩
end Go.Proofs.YtiochaeeoelmjaaGreatDoor
