import Derived.Test.YtoflhbghdlaeaaaGreatDoorG21
import Derived.Test.YtoflhbghdlaeaaaGreatDoorG34
import Derived.Test.YtoflhbghdlaeaaaGreatDoorG22
import Derived.Test.YtoflhbghdlaeaaaGreatDoorG28
import Derived.Test.YtoflhbghdlaeaaaGreatDoorG14
namespace Go.Proofs.YtoflhbghdlaeaaaGreatDoor
set_option maxHeartbeats 2000000
set_option maxRecDepth 100000
open Go.RowKit _root_.Go.Proofs.Tryz
variable {w w' W:World} {v:Value} {ys xs l:LI} {R n p k g B:Nat} {P:Program} {ls:List (LI)} {E:TypeId}
def kb (n:Int) (i:Nat):Int:=IntKind.u8.wrap (IntKind.u64.wrap n / 2^(8*i))
def KP (n:Int) (k:Nat):LI:=(List.range k).map (kb n)++List.replicate (32 - k) 0
def KG (n:Int):LI:=KP n 8
theorem LK {n:Int} (h:k<=32):(KP n k).length=32:=by unfold KP;simp;omega
theorem Pg (n:Int):(KG n).length=32:=LK (by decide)
theorem kb_u8 (n:Int) (i:Nat):0<=kb n i∧kb n i<=255:=by
 unfold kb;generalize IntKind.u64.wrap n / 2^(8*i)=x;simp[IntKind.wrap,IntKind.bits,IntKind.signed];omega
theorem RQ (n:Int):U8 (KG n):=λy hy=>by
 unfold KG KP at hy
 rcases List.mem_append.1 hy with h | h
 ·obtain⟨i,_,rfl⟩:=List.mem_map.1 h
  exact kb_u8 n i
 ·have:=List.eq_of_mem_replicate h;omega
theorem kK (n:Int) (k:Nat) (h:k<32):(KP n k).set k (kb n k)=KP n (k+1):=by
 unfold KP;obtain⟨m,hm⟩:∃m,32 - k=m+1:=⟨31 - k,by omega⟩;rw[hm,List.replicate_succ,List.set_append_right _ _ (by simp),List.length_map,List.length_range,Nat.sub_self,Qj,List.range_succ,List.map_append,show 32 - (k+1)=m by omega,List.append_assoc]
 rfl
theorem GJ (n:Int) (w:World):Calls prog 6 #[.int .i64 n] w λe w'=>e=.returned (.slice (some ⟨w.heap.size,0,none⟩) 32 32)∧Blk w' w.heap.size 5 (bl (KG n))∧N0 w w':=by
 obtain⟨wm,h1,h0,om⟩:=XN w 32 (by omega);rw[show ((32:Nat):Int)=32 from rfl] at h1;obtain⟨N,hN⟩:=EX w.heap.size;rw[<-hN] at h1 h0 ⊢;have S0:Hid (Blk wm N 5 (bl (KP n 0))∧N0 w wm):=⟨by unfold KP;simpa using h0,om⟩;have HN:=Qa hN;clear h0 om hN;go_enter func6,ntmps6;go_wp2
 go_loopw [4] (λi wr=>∃k:Nat,k<=8∧i=.int .i64 k∧Hid (Blk wr N 5 (bl (KP n k))∧N0 w wr)) (λi _=>8 - (intOf i).toNat)
 case atStart=>exact⟨0,Nat.zero_le _,rfl,S0⟩
 case round =>
  obtain⟨k,hk,rfl,hS⟩:=hrel;clear S0 h1
  by_cases hlt:k<8
  ·have i1:(k:Int)<8:=by omega
   have i2:(k:Int)<32:=by omega
   have hb:=hS.o.1
   have c0:wr.cell? ⟨N,k,none⟩=some (.int .u8 ((KP n k).getD k 0)):=by rw[hb.cell,bl_at _ _ (by rw[LK (by omega)];omega)]
   have f0:=hb.froz k
   have N1:Hid (Blk (wr.setCell ⟨N,k,none⟩ (.int .u8 (kb n k))) N 5 (bl (KP n (k+1)))∧N0 w (wr.setCell ⟨N,k,none⟩ (.int .u8 (kb n k)))):=by
    refine⟨?_,hS.o.2.setCell (p:=⟨N,k,none⟩) (λ(h:N<w.heap.size)=>absurd h (by have:=HN.o;omega)) _⟩;have:=hb.set k (.int .u8 (kb n k));rw[Vy,kK n k (by omega)] at this;exact this
   clear hb hS;go_wp2
   go_roundw
   case rel=>exact⟨k+1,by omega,by go_num,N1⟩
   case measure=>simp[intOf];omega
  ·obtain rfl:k=8:=by omega
   go_wp2;go_ret;exact⟨rfl,hS.o⟩
theorem JS (h:n<=16383):(gs n).length<=2:=Nat.le_trans (qW h) (by rw[Wn (by omega),UE (by omega)];decide)
theorem AZ {tn:LI} {s:List (Int × Int)} (ht:tn.length<=64) (hs:s.length<=200):(ENCC tn s).1.length<=2+tn.length+3+2*(3+(1+8*s.length)):=by
 rw[Vd ht (by omega),Lh (by omega)];have h8:=(Nj (l:=s.map Prod.fst) (by rw[List.length_map];omega)).1;have h11:=(Lg (l:=s.map Prod.snd) (by rw[List.length_map];omega)).1;rw[List.length_map] at h8 h11;have g8:=JS (n:=(e8c (s.map Prod.fst)).length) (by unfold e8c;omega);have g11:=JS (n:=(e11c (s.map Prod.snd)).length) (by unfold e11c;omega);have gn:=JS (n:=s.length) (by omega);unfold blk e8c e11c at *;simp only[Qi,Qc] at *;omega
theorem Ap {tn:LI} {s:List (Int × Int)} (hs:s.length<=65536) (h:tn.length<=64):(ENCC tn s).2=0:=by rw[Vd h hs]
theorem Ey {tn:LI} {s:List (Int × Int)} (ht:∀y∈tn,0<=y∧y<=255) (h1:tn.length<=64) (h2:s.length<=65536) (hg:Gs s):∀y∈(ENCC tn s).1,0<=y∧y<=255:=by
 rw[Vd h1 h2];intro y hy;simp only[List.mem_cons,List.mem_append] at hy
 rcases hy with rfl | hy | hy | hy | hy
 ·omega
 ·exact Wh tn ht y hy
 ·exact YW _ y hy
 ·exact Wh _ (Eo hg.1) y hy
 ·exact Wh _ (uD _) y hy
abbrev Qk:=LI × List (Int × Int)
def YX (v i:Int) (t:LI):LI:=fixL v 8++(fixL i 4++blk t)
def Q0 (c:Qk):LI:=(ENCC c.1 c.2).1
def Yo (c:Qk):Int:=if (ENCC c.1 c.2).2=0 then Uo (Q0 c) else (ENCC c.1 c.2).2
def Z7 (c:Qk):LI:=if Yo c=0 then PADL (Q0 c) else []
def Kv (c:Qk):Int:=if Yo c=0 then (QV (Q0 c).length:Int) else 0
def Yg (k:LI) (i:Int) (c:Qk):Int:=if k.length=32 then (if Un i then Yo c else 1) else 1
def Ya (k:LI) (v i:Int) (c:Qk):LI:=if Yg k i c=0 then U0 (Yc k 2 []) (YM k v i) (YX v i c.1) (PADL (Q0 c)) else []
def Yq (k:LI) (i:Int) (c:Qk):Int:=if Yg k i c=0 then (QV (Q0 c).length:Int) else 0
structure CG (c:Qk):Prop where
 t8:U8 c.1
 gs:Gs c.2
theorem DW {v i:Int} {t:LI} (h:U8 t):U8 (YX v i t):=λy hy=>by
 rcases List.mem_append.1 hy with h1 | h1
 ·exact Ur _ _ y h1
 ·rcases List.mem_append.1 h1 with h1 | h1
  ·exact Ur _ _ y h1
  ·exact Wh _ h y h1
theorem Ao {v i:Int} {t:LI} (h:t.length<=1000000):(YX v i t).length<=t.length+22:=by
 have:=Ut t h;simp only[YX,Qc,QD];omega
theorem Jv {c:Qk} (h:Yo c=0):c.1.length<=64∧c.2.length<=65536∧(ENCC c.1 c.2).2=0∧(Q0 c).length<=4194300:=by
 unfold Yo at h
 by_cases h1:(ENCC c.1 c.2).2=0
 ·rw[if_pos h1] at h
  have h3:¬(64<c.1.length∨65536<c.2.length):=λq=>by rw[JP q] at h1;cases h1
  refine⟨by omega,by omega,h1,?_⟩;unfold Uo at h
  by_cases h2:(Q0 c).length<=4194300
  ·exact h2
  ·rw[if_neg h2] at h;cases h
 ·rw[if_neg h1] at h;exact absurd h h1
theorem Ha {k:LI} {i:Int} {c:Qk} (h:Yg k i c=0):k.length=32∧Un i∧Yo c=0:=by
 unfold Yg at h
 by_cases h1:k.length=32
 ·rw[if_pos h1] at h
  by_cases h2:Un i
  ·rw[if_pos h2] at h;exact⟨h1,h2,h⟩
  ·rw[if_neg h2] at h;cases h
 ·rw[if_neg h1] at h;cases h
theorem L4 {c:Qk} (g:CG c):U8 (Q0 c):=by
 by_cases h:64<c.1.length∨65536<c.2.length
 ·unfold Q0;rw[JP h];intro y hy;cases hy
 ·exact Ey g.t8 (by omega) (by omega) g.gs
theorem LH {k:LI} {v i:Int} {c:Qk} (h:Yg k i c=0):(Ya k v i c).length=Uc (Q0 c).length+16:=by
 unfold Ya;rw[if_pos h,Tf,Gb _ (Jv (Ha h).2.2).2.2.2]
theorem Fl {k:LI} {v i:Int} {c:Qk} (g:CG c):U8 (Ya k v i c):=by
 unfold Ya
 split
 ·exact DA _ _ _ _ (Ni (L4 g))
 ·intro y hy;cases hy
theorem Rg {k:LI} {v i:Int} {c:Qk}:(Ya k v i c).length<=4194320:=by
 by_cases h:Yg k i c=0
 ·rw[LH h];have:=JU (Q0 c).length;omega
 ·unfold Ya;rw[if_neg h];simp
theorem uj {k:LI} {i:Int} {c:Qk}:0<=Yq k i c∧Yq k i c<=8:=by
 unfold Yq
 split
 ·have:=Rt (Q0 c).length;omega
 ·omega
def QN (m:LI) (c:Qk):LI:=QT m 1 c.1
def YD (m:LI) (i:Nat) (c:Qk):Int:=if QL m c.1=0 then Yg (QN m c) i c else QL m c.1
def QZ (m:LI):Nat->List Qk->Int
 | _,[]=>0
 | i,c :: l=>if YD m i c=0 then QZ m (i+1) l else YD m i c
abbrev Qz:Qk:=([],[])
def Q8 (m:LI) (v:Nat) (l:List Qk) (k:Nat):List (LI):=(List.range k).map λi=>Ya (QN m (l.getD i Qz)) v i (l.getD i Qz)
def UH (m:LI) (l:List Qk) (k:Nat):List (LI × Int):=(List.range k).map λi=>((l.getD i Qz).1,Yq (QN m (l.getD i Qz)) i (l.getD i Qz))
theorem VQ (m:LI) (v:Nat) (l:List Qk) (k:Nat):(Q8 m v l k).length=k:=by simp[Q8]
theorem VE (m:LI) (l:List Qk) (k:Nat):(UH m l k).length=k:=by simp[UH]
theorem uR (m:LI) (v:Nat) (l:List Qk) {k j:Nat} (h:j<k):(Q8 m v l k).getD j []=Ya (QN m (l.getD j Qz)) v j (l.getD j Qz):=by simp[Q8,List.getD_eq_getElem?_getD,h]
theorem wU (m:LI) (l:List Qk) {k j:Nat} (h:j<k):(UH m l k).getD j ([],0)=((l.getD j Qz).1,Yq (QN m (l.getD j Qz)) j (l.getD j Qz)):=by simp[UH,List.getD_eq_getElem?_getD,h]
theorem A4 {m:LI} {l:List Qk} (h:k<l.length):QZ m k (l.drop k)=if YD m k (l.getD k Qz)=0 then QZ m (k+1) (l.drop (k+1)) else YD m k (l.getD k Qz):=by
 rw[List.drop_eq_getElem_cons h,QZ,Qd,Qg h,Option.getD_some]
theorem XV {m:LI}:∀(l:List Qk) (k:Nat),QZ m k l=0->∀j,j<l.length->YD m (k+j) (l.getD j Qz)=0
 | [],_,_,j,h=>by simp at h
 | c :: l,k,h0,j,h=>by
  rw[QZ] at h0
  by_cases h1:YD m k c=0
  ·rw[if_pos h1] at h0
   cases j with
   | zero=>simpa using h1
   | succ j =>
    have:=XV l (k+1) h0 j (by simpa using h);rw[show k+(j+1)=k+1+j by omega]
    simpa using this
  ·rw[if_neg h1] at h0;exact absurd h0 h1
theorem L5 {m:LI} {i:Nat} {c:Qk} (h:YD m i c=0):QL m c.1=0∧Yg (QN m c) i c=0:=by
 unfold YD at h
 by_cases h1:QL m c.1=0
 ·rw[if_pos h1] at h;exact⟨h1,h⟩
 ·rw[if_neg h1] at h;exact absurd h h1
def QM (l:List (LI)):LI:=QB (l.map LEAF)
theorem UM (l:List (LI)):(QM l).length=32:=by
 unfold QM
 rcases l with _ | ⟨a,_ | ⟨b,t⟩⟩
 ·exact YN _
 ·rw[V4 (by simp)];exact Ky _
 ·exact NF (by simp)
def Wk (r:LI):LI:=if r.length=0 then List.replicate 32 0 else r
theorem NO {r:LI} (h:r.length=0∨r.length=32):(Wk r).length=32:=by
 unfold Wk;split
 ·simp
 ·omega
theorem L7 {r:LI} (h:U8 r):U8 (Wk r):=by
 unfold Wk;split
 ·intro y hy;have:=List.eq_of_mem_replicate hy;omega
 ·exact h
abbrev Yx:=Nat × LI
abbrev Vm (s:Yx):Prop:=s.2.length=0∨s.2.length=32
def QP (m:LI) (r:LI) (v:Nat) (l:List Qk):MAN:=⟨v,Wk r,UH m l l.length,QM (Q8 m v l l.length)⟩
def Y4 (m:LI) (s:Yx) (v n:Nat):Int :=
 if m.length=32∧Vm s∧v≠18446744073709551615 then (if 0<s.2.length∧v<=s.1 then 6 else if 1048576<n then 4 else 0) else 1
def Ym (m:LI) (s:Yx) (v:Nat) (l:List Qk):Int:=if Y4 m s v l.length=0 then QZ m 0 l else Y4 m s v l.length
def QJ (m:LI) (s:Yx) (v:Nat) (l:List Qk):LI:=MENC (QP m s.2 v l)++MACL (Yn m) (MENC (QP m s.2 v l))
def YB (m:LI) (s:Yx) (v:Nat) (l:List Qk):LI:=if Ym m s v l=0 then blk (QJ m s v l)++(Q8 m v l l.length).flatten else []
def Uy (m:LI) (s:Yx) (v:Nat) (l:List Qk):Yx:=if Ym m s v l=0 then (v,QM (Q8 m v l l.length)) else (0,[])
theorem Jg {m:LI} {s:Yx} {v n:Nat} (h:Y4 m s v n=0):m.length=32∧Vm s∧v≠18446744073709551615∧¬(0<s.2.length∧v<=s.1)∧n<=1048576:=by
 unfold Y4 at h
 by_cases h1:m.length=32∧Vm s∧v≠18446744073709551615
 ·rw[if_pos h1] at h
  by_cases h2:0<s.2.length∧v<=s.1
  ·rw[if_pos h2] at h;cases h
  ·rw[if_neg h2] at h
   by_cases h3:1048576<n
   ·rw[if_pos h3] at h;cases h
   ·exact⟨h1.1,h1.2.1,h1.2.2,h2,by omega⟩
 ·rw[if_neg h1] at h;cases h
theorem Gc {m:LI} {s:Yx} {v:Nat} {l:List Qk} (h:Ym m s v l=0):Y4 m s v l.length=0∧QZ m 0 l=0:=by
 unfold Ym at h
 by_cases h1:Y4 m s v l.length=0
 ·rw[if_pos h1] at h;exact⟨h1,h⟩
 ·rw[if_neg h1] at h;exact absurd h h1
theorem KE (l:List (LI)):R8 (l.map LEAF):=λx hx=>by
 obtain⟨a,_,rfl⟩:=List.mem_map.1 hx;exact⟨V3 _,by rw[Ky];omega⟩
theorem KJ (l:List (LI)):U8 (QM l):=(KC (KE l)).1
theorem Lo {m:LI} {l:List Qk} (hl:∀c∈l,CG c) {k:Nat}:∀e∈UH m l k,U8 e.1:=λe he=>by
 obtain⟨i,hi,rfl⟩:=List.mem_map.1 he
 show U8 (l.getD i Qz).1
 by_cases h:i<l.length
 ·rw[Qd,Qg h]
  exact (hl _ (List.getElem_mem h)).t8
 ·rw[Qd,List.getElem?_eq_none (by omega)];intro y hy;cases hy
theorem qj {m:LI} {s:Yx} {v:Nat} {l:List Qk} (hv:v<18446744073709551616) (s8:U8 s.2) (hl:∀c∈l,CG c):Mok (QP m s.2 v l):=⟨hv,L7 s8,KJ _,Lo hl⟩
theorem V0 {m:LI} {s:Yx} {v:Nat} {l:List Qk} (hv:v<18446744073709551616) (s8:U8 s.2) (hl:∀c∈l,CG c) (h:Ym m s v l=0):Uh (QP m s.2 v l):=by
 obtain⟨h1,h2⟩:=Gc h;obtain⟨_,m2,m3,_,m5⟩:=Jg h1;refine⟨?_,⟨NO m2,L7 s8⟩,⟨UM _,KJ _⟩,?_,λe he=>?_⟩
 ·show v<18446744073709551615;omega
 ·show (UH m l l.length).length<=1048576;rw[VE];exact m5
 ·refine⟨⟨?_,Lo hl e he⟩,?_⟩
  ·obtain⟨i,hi,rfl⟩:=List.mem_map.1 he
   have:=XV l 0 h2 i (by simpa using hi);rw[Nat.zero_add] at this;exact (Jv (Ha (L5 this).2).2.2).1
  ·obtain⟨i,hi,rfl⟩:=List.mem_map.1 he
   exact uj
def CUT:List (LI × Int)->LI->Option (List (LI) × LI)
 | [],r=>some ([],r)
 | e :: es,r=>if r.length<(QO e.2).toNat+16 then none else
  match CUT es (r.drop ((QO e.2).toNat+16)) with
  | none=>none
  | some x=>some (r.take ((QO e.2).toNat+16) :: x.1,x.2)
theorem RG:∀(es:List (LI × Int)) (ls:List (LI)) (t:LI),es.length=ls.length->(∀j,j<es.length->(ls.getD j []).length=(QO (es.getD j ([],0)).2).toNat+16)->CUT es (ls.flatten++t)=some (ls,t)
 | [],[],t,_,_=>rfl
 | [],_ :: _,_,h,_=>by simp at h
 | _ :: _,[],_,h,_=>by simp at h
 | e :: es,a :: ls,t,h,hj=>by
  have h0:a.length=(QO e.2).toNat+16:=by simpa using hj 0 (by simp)
  rw[CUT,if_neg (by simp only[List.flatten_cons,List.append_assoc,Qc];omega),List.flatten_cons,List.append_assoc,List.drop_append_of_le_length (by omega),List.take_append_of_le_length (by omega)];rw[<-h0,List.drop_length,List.take_length,List.nil_append,RG es ls t (by simpa using h) (λj hj'=>by simpa using hj (j+1) (by simpa using hj'))]
def UQ (b:LI):Except Int (MAN × LI × List (LI)) :=
 if (Qq 268435456 b).2.2≠0 then .error (Qq 268435456 b).2.2
 else if (Qq 268435456 b).1.length<32 then .error 2
 else match MDEC ((Qq 268435456 b).1.take ((Qq 268435456 b).1.length - 32)) with
  | .error e=>.error e
  | .ok m=>match CUT m.es (b.drop (Qq 268435456 b).2.1) with
   | none=>.error 2
   | some x=>if x.2=[] then .ok (m,(Qq 268435456 b).1,x.1) else .error 3
theorem Rn {x t:LI} (hx:x.length<=n) (hn:n<18446744073709551616):Qq n (blk x++t)=(x,(blk x).length,0):=by
 unfold Qq blk;have hg:=Ke x.length (x++t) (by omega);rw[List.append_assoc,hg,if_neg (by omega),if_neg (by simp),if_neg (by simp only;omega),if_neg (by simp only[Qc];omega)];simp only[Prod.mk.injEq,and_true];refine⟨?_,?_⟩
 ·rw[List.drop_left,show ((x.length:Int)).toNat=x.length by omega,List.take_left]
 ·rw[Qc];omega
theorem Ck {m:MAN} {tg:LI} (g:Uh m) (ht:tg.length=32) (hn:(MENC m).length+32<=268435456) (he:m.es.length=ls.length) (hj:∀j,j<m.es.length->(ls.getD j []).length=(QO (m.es.getD j ([],0)).2).toNat+16) :
 UQ (blk (MENC m++tg)++ls.flatten)=.ok (m,MENC m++tg,ls):=by
 have hl:(MENC m++tg).length=(MENC m).length+32:=by rw[Qc,ht]
 have hb:=Rn (n:=268435456) (x:=MENC m++tg) (t:=ls.flatten) (by omega) (by omega);have hc:=RG m.es ls [] he hj;rw[List.append_nil] at hc;unfold UQ;rw[show ((268435456:Nat):Int)=268435456 from rfl] at hb;rw[hb,if_neg (by simp),if_neg (by simp only;omega)];simp only;rw[hl,Nat.add_sub_cancel,List.take_left,RX g,List.drop_left];simp only;rw[hc]
 rfl
theorem Ua {fn:Func} {a b c:Tmp} (h:fn.results=#[.tmp a,.tmp b,.tmp c]) (tmps:Array Value) (P:Program) (w:World):(results fn tmps).run P w=.ok (.tuple #[tmps.getD a undef,tmps.getD b undef,tmps.getD c undef]) w:=by
 simp[results,h]
theorem we {v0 v1 v2:Value} {l0 l1 l2:LI} (hB:W.heap[B]? = some (.cells #[v0,v1,v2] 23 (0,0)))
 (b0:Bs .u8 W v0 l0) (b1:Bs .u8 W v1 l1) (b2:Bs .u8 W v2 l2) (n0:NoCap v0) (n1:NoCap v1) (n2:NoCap v2) (hp:0<l0.length) (hl:(l0++(l1++l2)).length<=140737488355328) :
 Calls prog 22 #[.slice (some ⟨B,0,none⟩) 3 3] W λe w'=>∃v',e=.returned v'∧w'.ownsRow W.heap.size 5 1 v' (l0++(l1++l2)).length (bl (l0++(l1++l2)))∧N0 W w':=by
 have h0:cat (five l0 l1 l2 [] []) 3=l0++(l1++l2):=by simp[cat,List.range_succ,five]
 have:=VC B 3 (five v0 v1 v2 v2 v2) (five l0 l1 l2 [] []) W (by omega) (by omega)
  (λi hi=>by
   have e:W.cell? ⟨B,i,none⟩=(#[v0,v1,v2]:Array Value)[i]?:=by unfold World.cell?;simp only;rw[hB];rfl
   rw[e]
   match i,hi with
   | 0,_=>rfl
   | 1,_=>rfl
   | 2,_=>rfl)
  (λi hi=>by
   match i,hi with
   | 0,_=>exact b0
   | 1,_=>exact b1
   | 2,_=>exact b2)
  (λi hi=>by
   match i,hi with
   | 0,_=>exact n0
   | 1,_=>exact n1
   | 2,_=>exact n2)
  (by rw[h0];simp only[Qc];omega) (by rw[h0];exact hl)
 rw[h0] at this;exact this
theorem yk (v i:Int) (t:ByteArray) (hi:Un i) (ht:t.size<=1000000) (w:World) :
 Calls prog 79 #[.int .u64 v,.int .i64 i,.string t] w λe w'=>∃u,e=.returned u∧w'.ownsRow w.heap.size 5 1 u (YX v i (sb t)).length (bl (YX v i (sb t)))∧N0 w w':=by
 have hw:IntKind.u64.wrap i=i:=by rw[IntKind.wrap_u64];omega
 have A:=Qa (Ux v 8 w (by decide));have B:=Qa (λW=>Ux i 4 W (by decide));rw[show ((8:Nat):Int)=8 from rfl,QD] at A;rw[show ((4:Nat):Int)=4 from rfl,QD] at B;have ha:=ZK t;have h7:=Ut (sb t) (by rw[QX];exact ht);rw[QX] at h7;have HX:Hid (fixL v 8++(fixL i 4++blk (sb t))=YX v i (sb t)∧(fixL v 8).length=8∧(fixL i 4).length=4∧(blk (sb t)).length<=1000010):=⟨rfl,QD _ _,QD _ _,by omega⟩;have K:=Qa (λ(W:World) (u:Value) (h:Bs .u8 W u (sb t)) (n:NoCap u)=>Wb u (sb t) W h n (by rw[QX];exact ht));obtain⟨X,hX⟩:=EX (fixL v 8);obtain⟨Y,hY⟩:=EX (fixL i 4);obtain⟨Z,hZ⟩:=EX (blk (sb t));rw[<-hX] at A HX;rw[<-hY] at B HX;simp only[<-hZ] at K HX;clear hX hY hZ hi ht h7;go_enter func79,ntmps79;go_wp2_with fail;refine A.o.mono ?_;rintro e w1 ⟨v1,rfl,h4,o1⟩;obtain⟨a1,c1,rfl⟩:=Qm h4;have B1:=Qa (B.o w1);have h9:=Qa h4;have O1:=Qa o1;clear h4 o1 A B;go_wp2_with fail;refine B1.o.mono ?_;rintro e w2 ⟨v2,rfl,h5,o2⟩;obtain⟨a2,c2,rfl⟩:=Qm h5;obtain⟨c,hc⟩:=EX (grownCap w2 t.size 0 5);have h8:=grownCap_ge w2 t.size 0 5;have hcw:=ha w2;rw[<-hc] at h8 hcw;have oz:N0 w2 (w2.drew.alloc (UY t c)):=(Only.refl _ _).drew.alloc _;have K1:=Qa (K.o (w2.drew.alloc (UY t c)) (.slice (some ⟨w2.heap.size,0,none⟩) t.size c) (Zx (YV rfl) (by omega)) (NoCap.some _ _ _));have R:=Qa (And.intro ((h9.o:w1.ownsRow w.heap.size 5 1 _ 8 (X.map (Value.int .u8)))) (And.intro h5 (And.intro o2 (And.intro oz (O1.o.same (o2.same oz))))));clear h5 o2 oz B1 h9 O1 h8 ha hc;go_wp2_with fail;refine K1.o.mono ?_;rintro e w3 ⟨v3,rfl,h0,o3⟩;obtain⟨a3,c3,rfl⟩:=Qm h0;obtain⟨r1,r2,r3,r4,r5⟩:=R.o;have oa:N0 w3 (w3.alloc (.cells #[.slice a1 8 c1,.slice a2 4 c2,.slice a3 Z.length c3] 23)):=(Only.refl _ _).alloc _
 have C:=Qa (we (heap_alloc_new w3 (.cells #[.slice a1 8 c1,.slice a2 4 c2,.slice a3 Z.length c3] 23))
  ((Bs.of_own (k:=.u8) (E:=5) (lo:=w.heap.size) (by rw[HX.o.2.1];exact r1)).past (r3.same (r4.same (o3.same oa))))
  ((Bs.of_own (k:=.u8) (E:=5) (lo:=w1.heap.size) (by rw[HX.o.2.2.1];exact r2)).past (r4.same (o3.same oa)))
  ((Bs.of_own (k:=.u8) h0).past oa) (NoCap.of_own r1) (NoCap.of_own r2) (NoCap.of_own h0) (by have:=HX.o.2.1;omega) (by have h1:=HX.o.2.1;have h2:=HX.o.2.2.1;have h3:=HX.o.2.2.2;simp only[Qc];omega))
 rw[HX.o.1] at C;have O3:=Qa (r5.same (o3.same oa));obtain⟨m,hm⟩:=EX Z.length;rw[<-hm] at C O3 ⊢;clear h0 o3 oa r1 r2 r3 r4 r5 R K1 K hm;go_wp2_with fail;refine C.o.mono ?_;rintro e w4 ⟨v4,rfl,h6,o4⟩;have F:=Qa (And.intro (Qu h6 O3.o.size) (O3.o.same o4));clear h6 o4 C O3;go_wp2;go_ret;exact⟨_,rfl,F.o⟩
theorem vD (vk:Value) (k:LI) (v i:Int) (k8:U8 k) (w:World) (bk:Bs .u8 w vk k) (h32:k.length=32) (hi:Un i) :
 Calls prog 76 #[vk,.int .u64 v,.int .i64 i] w λe w'=>∃a b,e=.returned (.tuple #[a,b,.int .i64 0])∧w'.ownsRow w.heap.size 5 1 a 32 (bl (Yc k 2 []))∧w'.ownsRow w.heap.size 5 1 b 12 (bl (YM k v i))∧N0 w w':=by
 have A:=Qa (He vk k k8 w bk)
 have e1:QT k 2 []=Yc k 2 []:=by unfold QT;rw[if_pos h32];rfl
 have e2:US k v i=YM k v i:=by unfold US;rw[if_pos h32,if_pos hi]
 have e3:Uv k i=0:=by unfold Uv;rw[if_pos h32,if_pos hi]
 have B:=Qa (λW (o:N0 w W)=>PO vk k v i k8 W (bk.past o) ⟨by omega,by omega⟩);rw[Z6 h32,e1,Wf] at A;simp only[e2,e3,Zz] at B;clear e1 e2 e3 k8 bk h32 hi;go_enter func76,ntmps76;go_wp2_with fail;refine A.o.mono ?_;rintro e w1 ⟨a,rfl,h0,o1⟩;have B1:=Qa (B.o w1 o1);have F1:=Qa (And.intro h0 o1);clear h0 o1 A B;go_wp2_with fail;refine B1.o.mono ?_;rintro e w2 ⟨b,rfl,h1,o2⟩;have F2:=Qa (And.intro (o2.own F1.o.1 (λ_ _ f=>f)) (And.intro (Qu h1 F1.o.2.size) (F1.o.2.same o2)));clear h1 o2 B1 F1;go_wp2;exact bodyPost_ret (Ua rfl _ _ _) rfl ⟨_,_,rfl,F2.o⟩
theorem MG (vk:Value) (k:LI) (v i:Int) (k8:U8 k) (w:World) (bk:Bs .u8 w vk k) (hb:-9223372036854775808<=i∧i<=9223372036854775807) (h:¬(k.length=32∧Un i)) :
 Calls prog 76 #[vk,.int .u64 v,.int .i64 i] w λe w'=>e=.returned (.tuple #[.slice none 0 0,.slice none 0 0,.int .i64 1])∧N0 w w':=by
 have A:=Qa (He vk k k8 w bk)
 by_cases h32:k.length=32
 ·have hi:¬Un i:=λq=>h ⟨h32,q⟩
  have e3:Uv k i=1:=by unfold Uv;rw[if_pos h32,if_neg hi]
  have B:=Qa (λW (o:N0 w W)=>PO vk k v i k8 W (bk.past o) hb);rw[Z6 h32] at A;simp only[e3] at B;clear e3 k8 bk h32 hi hb h;go_enter func76,ntmps76;go_wp2_with fail;refine A.o.mono ?_;rintro e w1 ⟨a,rfl,h0,o1⟩;have B1:=Qa (B.o w1 o1);have F1:=Qa o1;clear h0 o1 A B;go_wp2_with fail;refine B1.o.mono ?_;rintro e w2 ⟨b,rfl,h1,o2⟩;have F2:=Qa (F1.o.same o2);clear h1 o2 B1 F1;go_wp2;exact bodyPost_ret (Ua rfl _ _ _) rfl ⟨rfl,F2.o⟩
 ·rw[Jh h32] at A
  clear k8 bk h32 hb h;go_enter func76,ntmps76;go_wp2_with fail;refine A.o.mono ?_;rintro e w1 ⟨a,rfl,h0,o1⟩;have F1:=Qa o1;clear h0 o1 A;go_wp2;exact bodyPost_ret (Ua rfl _ _ _) rfl ⟨rfl,F1.o⟩
theorem wA (t:ByteArray) (u:Value) (s:List (Int × Int)) (w:World) (h:Sps w u s) (hg:Gs s) (hm:s.length<=maxLen) (hm2:t.size<=maxLen) (hT:Tab w) :
 Calls prog 77 #[.agg #[.string t,u]] w λe w'=>∃v n,e=.returned (.tuple #[v,.int .i64 n,.int .i64 (Yo (sb t,s))])∧w'.ownsRow w.heap.size 5 1 v (Z7 (sb t,s)).length (bl (Z7 (sb t,s)))∧(Yo (sb t,s)=0->n=Kv (sb t,s))∧N0 w w':=by
 obtain⟨au,nu,cu,rfl⟩:∃a n c,u=.slice a n c:=by obtain⟨a,c,e,_⟩:=h;exact⟨_,_,_,e⟩
 have oA:N0 w (w.alloc (.cells #[.string t,.slice au nu cu] 61)):=(Only.refl _ _).alloc _;have A:=Qa (IE t (.slice au nu cu) s (w.alloc (.cells #[.string t,.slice au nu cu] 61)) (h.past oA) hg hm hm2 (hT.past oA));have OA:=Qa oA;obtain⟨b,hb⟩:=EX (Q0 (sb t,s));obtain⟨c,hc⟩:=EX ((ENCC (sb t) s).2);rw[<-hc,show (ENCC (sb t) s).1=b from hb.symm] at A
 have eE:Yo (sb t,s)=if c=0 then Uo b else c:=by rw[hc,hb];rfl
 have eT:Z7 (sb t,s)=if Yo (sb t,s)=0 then PADL b else []:=by rw[hb];rfl
 have eB:Kv (sb t,s)=if Yo (sb t,s)=0 then (QV b.length:Int) else 0:=by rw[hb];rfl
 clear h hg hm hm2 hT oA hb hc
 by_cases h0:c=0
 ·rw[if_pos h0] at eE
  subst h0;have K:=Qa (λW=>Xw (b.length:Int) W)
  by_cases h1:b.length<=4194300
  ·have e0:Uo b=0:=by unfold Uo;rw[if_pos h1]
   rw[e0] at eE;rw[eE,if_pos rfl] at eT eB;have P:=Qa (λ(W:World) (v:Value) (h:Bs .u8 W v b)=>BI v b W h)
   have q1:YI (b.length:Int)=0:=by unfold YI;rw[if_neg (by omega),if_neg (by omega)]
   have q2:Wd (b.length:Int)=QV b.length:=by unfold Wd;rw[if_pos (by omega)];rfl
   simp only[e0,show KV b=PADL b by unfold KV;rw[if_pos h1]] at P;simp only[q1,q2] at K;rw[eE,eT];rw[<-eB] at K;clear h1 e0 q1 q2 eE eT eB;obtain⟨n,hn⟩:=EX b.length;obtain⟨bk,h4⟩:=EX (Kv (sb t,s));rw[<-h4] at K ⊢;rw[<-hn] at K A;clear h4;go_enter func77,ntmps77;go_wp2_with fail;refine A.o.mono ?_;rintro e w1 ⟨v1,rfl,h2,o1⟩;have K1:=Qa (K.o w1);have P1:=Qa (λW (o:N0 w1 W)=>P.o W v1 ((Bs.of_own (k:=.u8) (E:=5) (lo:=(w.alloc (.cells #[.string t,.slice au nu cu] 61)).heap.size) (by rw[<-hn];exact h2)).past o));obtain⟨a1,c1,rfl⟩:=Qm h2;have O1:=Qa (OA.o.same o1);clear h2 o1 A K P OA hn;go_wp2_with fail;refine K1.o.mono ?_;rintro e w2 ⟨rfl,o2⟩;have P2:=Qa (P1.o w2 o2);have O2:=Qa (O1.o.same o2);clear o2 P1 K1 O1;go_wp2_with fail;refine P2.o.mono ?_;rintro e w3 ⟨v3,rfl,h3,o3⟩;have F:=Qa (And.intro (Qu h3 O2.o.size) (O2.o.same o3));clear h3 o3 P2 O2;go_wp2;exact bodyPost_ret (Ua rfl _ _ _) rfl ⟨_,_,rfl,F.o.1,λ_=>rfl,F.o.2⟩
  ·have e0:Uo b=4:=by unfold Uo;rw[if_neg h1]
   rw[e0] at eE;rw[eE,if_neg (by decide)] at eT
   have q1:YI (b.length:Int)=4:=by unfold YI;rw[if_neg (by omega),if_pos (by omega)]
   simp only[q1] at K;rw[eE,eT];clear h1 e0 q1 eE eT eB;obtain⟨n,hn⟩:=EX b.length;rw[<-hn] at K A;clear hn;go_enter func77,ntmps77;go_wp2_with fail;refine A.o.mono ?_;rintro e w1 ⟨v1,rfl,h2,o1⟩;have K1:=Qa (K.o w1);obtain⟨a1,c1,rfl⟩:=Qm h2;have O1:=Qa (OA.o.same o1);clear h2 o1 A K OA;go_wp2_with fail;refine K1.o.mono ?_;rintro e w2 ⟨rfl,o2⟩;have O2:=Qa (O1.o.same o2);clear o2 K1 O1;go_wp2;exact bodyPost_ret (Ua rfl _ _ _) rfl ⟨_,_,rfl,World.ownsRow_nil _ _ _ _,λq=>absurd q (by decide),O2.o⟩
 ·rw[if_neg h0] at eE
  rw[eE,if_neg h0] at eT;rw[eE,eT]
  have hne:(c != 0)=true:=by simpa using h0
  have h0':=Qa h0;clear eE eT eB h0;go_enter func77,ntmps77;go_wp2_with fail;refine A.o.mono ?_;rintro e w1 ⟨v1,rfl,h2,o1⟩;have O1:=Qa (OA.o.same o1);clear h2 o1 A OA;go_wp2;exact bodyPost_ret (Ua rfl _ _ _) rfl ⟨_,_,rfl,World.ownsRow_nil _ _ _ _,λq=>absurd q h0'.o,O1.o⟩
theorem Tryz.sizeCk:(prog.info? 61).map (·.size)=some 2:=by kernel_rfl
theorem Hr {b:Nat} {x y:Value} (h:W.heap[b]? = some (.cells #[x,y] 61 (0,0))):(loadVar 61 ⟨b,0,none⟩).run prog W=.ok (.agg #[x,y]) W :=
 run_loadVar_row W b 61 61 _ (0,0) _ h underlying61 rfl Tryz.sizeCk
theorem QE {x y:Value} {T:TypeId} (h:W.heap[B]? = some (.cells #[x,y] T (0,0))):W.cell? ⟨B,0,none⟩=some x∧W.cell? ⟨B,1,none⟩=some y∧W.frozen? ⟨B,0,none⟩=false∧W.frozen? ⟨B,1,none⟩=false :=
 ⟨by simp[World.cell?,h],by simp[World.cell?,h],by simp[World.frozen?,h],by simp[World.frozen?,h]⟩
theorem yQ (vk:Value) (k:LI) (v i:Int) (t:ByteArray) (u:Value) (s:List (Int × Int)) (w:World) (bk:Bs .u8 w vk k) (k8:U8 k) (hb:-9223372036854775808<=i∧i<=9223372036854775807)
 (h:Sps w u s) (hg:Gs s) (hm:s.length<=maxLen) (hm2:t.size<=maxLen) (hT:Tab w) :
 Calls prog 45 #[vk,.int .u64 v,.int .i64 i,.agg #[.string t,u]] w λe w'=>∃x,e=.returned (.tuple #[x,.int .i64 (Yq k i (sb t,s)),.int .i64 (Yg k i (sb t,s))])∧w'.ownsRow w.heap.size 5 1 x (Ya k v i (sb t,s)).length (bl (Ya k v i (sb t,s)))∧N0 w w':=by
 obtain⟨au,nu,cu,rfl⟩:∃a n c,u=.slice a n c:=by obtain⟨a,c,e,_⟩:=h;exact⟨_,_,_,e⟩
 have oA:N0 w (w.alloc (.cells #[.string t,.slice au nu cu] 61)):=(Only.refl _ _).alloc _;have G0:=Qa (heap_alloc_new w (.cells #[.string t,.slice au nu cu] 61));have OA:=Qa oA
 by_cases h1:k.length=32∧Un i
 ·obtain⟨hd,hi⟩:=h1
  have A:=Qa (vD vk k v i k8 _ (bk.past oA) hd hi);have P:=Qa (λW (o:N0 w W)=>wA t (.slice au nu cu) s W (h.past o) hg hm hm2 (hT.past o))
  have eE:Yg k i (sb t,s)=Yo (sb t,s):=by unfold Yg;rw[if_pos hd,if_pos hi]
  have eT:Ya k v i (sb t,s)=if Yo (sb t,s)=0 then U0 (Yc k 2 []) (YM k v i) (YX v i (sb t)) (PADL (Q0 (sb t,s))) else []:=by unfold Ya;rw[eE]
  have eB:Yq k i (sb t,s)=if Yo (sb t,s)=0 then Kv (sb t,s) else 0:=by unfold Yq Kv;rw[eE];split <;> rfl
  have eP:Z7 (sb t,s)=if Yo (sb t,s)=0 then PADL (Q0 (sb t,s)) else []:=rfl
  have h8:U8 (Q0 (sb t,s)):=L4 ⟨Gg t,hg⟩
  by_cases h0:Yo (sb t,s)=0
  ·obtain⟨q1,q2,q3,q4⟩:=Jv h0
   rw[QX] at q1;rw[if_pos h0] at eT eB eP;rw[eE,h0,eT,eB];simp only[h0,eP] at P;have hf:U8 (PADL (Q0 (sb t,s))):=Ni h8
   have hpl:(PADL (Q0 (sb t,s))).length<=4194304:=by rw[Gb _ q4];exact JU _
   have BS:=Qa (λW=>yk v i t hi (by omega) W)
   have hbl:(YX v i (sb t)).length<=200:=by have:=Ao (v:=v) (i:=i) (t:=sb t) (by rw[QX];omega);rw[QX] at this;omega
   have hl:U8 (YX v i (sb t)):=DW (Gg t);have hn:=Tf (Yc k 2 []) (YM k v i) (YX v i (sb t)) (PADL (Q0 (sb t,s)));have kn:KN (Yc k 2 []) (YM k v i):=⟨Wf _ _ _,Zz _ _ _⟩;have SL:=Qa (λ(W:World) (a b c d:Value) (h1:Bs .u8 W a (Yc k 2 [])) (h2:Bs .u8 W b (YM k v i)) (h3:Bs .u8 W c (YX v i (sb t))) (n3:NoCap c) (h4:Bs .u8 W d (PADL (Q0 (sb t,s))))=>kJ a b c d _ _ _ _ kn (ZQ _ _ _) (EJ _ _ _) hl hf (by omega) (by omega) W h1 h2 h3 n3 h4);simp only[<-hn] at SL;have L:=Qa (And.intro (Wf k 2 []) (Zz k v i));clear eE eT eB eP h0 q1 q2 q3 q4 hf hpl hbl hl hn kn h8 bk k8 hb h hg hm hm2 hT hd hi oA;generalize U0 (Yc k 2 []) (YM k v i) (YX v i (sb t)) (PADL (Q0 (sb t,s)))=Y at *;generalize Yc k 2 []=k1 at *;generalize YM k v i=k2 at *;generalize YX v i (sb t)=X at *;generalize PADL (Q0 (sb t,s))=p at *;generalize Kv (sb t,s)=n at *;go_enter func45,ntmps45;go_wp2_with fail;refine A.o.mono ?_;rintro e w1 ⟨a,b,rfl,h6,h5,o1⟩;have G1:=o1.heap G0.o (λf=>f);have hk:=Hr G1;obtain⟨c0,c1,_,_⟩:=QE G1;have P1:=Qa (P.o w1 (OA.o.same o1));have B1:Hid (Bs .u8 w1 a k1∧Bs .u8 w1 b k2):=⟨Bs.of_own (k:=.u8) (E:=5) (lo:=(w.alloc (.cells #[.string t,.slice au nu cu] 61)).heap.size) (by rw[L.o.1];exact h6),Bs.of_own (k:=.u8) (E:=5) (lo:=(w.alloc (.cells #[.string t,.slice au nu cu] 61)).heap.size) (by rw[L.o.2];exact h5)⟩;have O1:=Qa (OA.o.same o1);have H1:=Qa G1;clear h6 h5 o1 A P OA G0 G1 L;go_wp2_with fail;refine P1.o.mono ?_;rintro e w2 ⟨x2,n2,rfl,h7,he,o2⟩;obtain rfl:=he trivial;have G2:=o2.heap H1.o (λf=>f);clear c0 c1 hk;obtain⟨c0,c1,_,_⟩:=QE G2;have hh:=Qa (BS.o w2);have B2:=Qa (And.intro (B1.o.1.past o2) (And.intro (B1.o.2.past o2) (show Bs .u8 w2 x2 p from Bs.of_own h7)));have O2:=Qa (O1.o.same o2);clear h7 he o2 P1 B1 O1 G2 H1 BS;go_wp2_with fail;refine hh.o.mono ?_;rintro e w3 ⟨x3,rfl,h9,o3⟩;have hj:=Qa (SL.o w3 a b x3 x2 (B2.o.1.past o3) (B2.o.2.1.past o3) (Bs.of_own h9) (NoCap.of_own h9) (B2.o.2.2.past o3));have O3:=Qa (O2.o.same o3);clear h9 o3 hh B2 O2 SL c0 c1;go_wp2_with fail;refine hj.o.mono ?_;rintro e w4 ⟨x4,rfl,ha,o4⟩;have F:=Qa (And.intro (Qu ha O3.o.size) (O3.o.same o4));clear ha o4 hj O3;go_wp2;exact bodyPost_ret (Ua rfl _ _ _) rfl ⟨_,rfl,F.o⟩
  ·rw[if_neg h0] at eT eB eP
   rw[eE,eT,eB]
   have hne:(Yo (sb t,s) != 0)=true:=by simpa using h0
   clear eE eT eB eP h8 bk k8 hb h hg hm hm2 hT hd hi oA;generalize Yo (sb t,s)=c at *;clear h0;go_enter func45,ntmps45;go_wp2_with fail;refine A.o.mono ?_;rintro e w1 ⟨a,b,rfl,h6,h5,o1⟩;have G1:=o1.heap G0.o (λf=>f);have hk:=Hr G1;obtain⟨c0,c1,_,_⟩:=QE G1;have P1:=Qa (P.o w1 (OA.o.same o1));have O1:=Qa (OA.o.same o1);clear h6 h5 o1 A P OA G0 G1;go_wp2_with fail;refine P1.o.mono ?_;rintro e w2 ⟨x2,n2,rfl,h7,he,o2⟩;have O2:=Qa (O1.o.same o2);clear h7 he o2 P1 O1;go_wp2;exact bodyPost_ret (Ua rfl _ _ _) rfl ⟨_,rfl,World.ownsRow_nil _ _ _ _,O2.o⟩
 ·have A:=Qa (MG vk k v i k8 _ (bk.past oA) hb h1)
  have eE:Yg k i (sb t,s)=1:=by
   unfold Yg
   by_cases q:k.length=32
   ·rw[if_pos q,if_neg (λz=>h1 ⟨q,z⟩)]
   ·rw[if_neg q]
  have eT:Ya k v i (sb t,s)=[]:=by unfold Ya;rw[eE];rfl
  have eB:Yq k i (sb t,s)=0:=by unfold Yq;rw[eE];rfl
  rw[eE,eT,eB];clear eE eT eB bk k8 hb h hg hm hm2 hT h1 oA G0;go_enter func45,ntmps45;go_wp2_with fail;refine A.o.mono ?_;rintro e w1 ⟨rfl,o1⟩;have O1:=Qa (OA.o.same o1);clear o1 A OA;go_wp2;exact bodyPost_ret (Ua rfl _ _ _) rfl ⟨_,rfl,World.ownsRow_nil _ _ _ _,O1.o⟩
theorem Tryz.sizeStt:(prog.info? 26).map (·.size)=some 2:=by kernel_rfl
theorem ZO {b:Nat} {x y:Value} (h:W.heap[b]? = some (.cells #[x,y] 26 (0,0))):(loadVar 26 ⟨b,0,none⟩).run prog W=.ok (.agg #[x,y]) W :=
 run_loadVar_row W b 26 26 _ (0,0) _ h underlying26 rfl Tryz.sizeStt
theorem Zp (x:Value) (ao:Option Addr) (n c:Nat) (w:World) :
 Calls prog 43 #[.agg #[x,.slice ao n c]] w λe w'=>e=.returned (.bool (decide (0<n)))∧N0 w w':=by
 have O:=Qa ((Only.refl (λ_=>False) w).alloc (.cells #[x,.slice ao n c] 26))
 have e:decide ((0:Int)<(n:Int))=decide (0<n):=by simp
 go_enter func43,ntmps43;go_wp2;go_ret;exact⟨by simp,O.o⟩
theorem P9 (x:Value) (ao:Option Addr) (n c:Nat) (w:World) :
 Calls prog 39 #[.agg #[x,.slice ao n c]] w λe w'=>e=.returned (.bool (decide (n=0∨n=32)))∧N0 w w':=by
 have G0:=Qa (heap_alloc_new w (.cells #[x,.slice ao n c] 26));have O:=Qa ((Only.refl (λ_=>False) w).alloc (.cells #[x,.slice ao n c] 26));have A:=Qa (Zp x ao n c (w.alloc (.cells #[x,.slice ao n c] 26)))
 by_cases h:0<n
 ·rw[Qe h] at A
  have e:decide (n=0∨n=32)=((n:Int) == 32):=by
   by_cases q:n=32
   ·subst q;rfl
   ·rw[Qb (by omega)];symm;rw[beq_eq_false_iff_ne];omega
  rw[e];obtain⟨b,hb⟩:=EX (((n:Int) == 32));rw[<-hb];have HB:=Qa hb.symm;clear h e hb;go_enter func39,ntmps39;go_wp2_with fail;refine A.o.mono ?_;rintro e w1 ⟨rfl,o1⟩;obtain⟨c0,c1,_,_⟩:=QE (o1.heap G0.o (λf=>f));have F:=Qa (O.o.same o1);clear A O o1 G0;go_wp2;go_ret;exact⟨by rw[<-HB.o];simp,F.o⟩
 ·rw[Qb h] at A
  rw[Qe (by omega:n=0∨n=32)];clear h;go_enter func39,ntmps39;go_wp2_with fail;refine A.o.mono ?_;rintro e w1 ⟨rfl,o1⟩;have F:=Qa (O.o.same o1);clear A O o1 G0;go_wp2;go_ret;exact⟨rfl,F.o⟩
theorem AW (am:Option Addr) (M cm p:Nat) (ao:Option Addr) (n c v q:Nat) (w:World) :
 Calls prog 15 #[.slice am M cm,.agg #[.int .u64 p,.slice ao n c],.int .u64 v,.int .i64 q] w λe w' =>
  e=.returned (.int .i64 (if M=32∧(n=0∨n=32)∧v≠18446744073709551615 then (if 0<n∧v<=p then 6 else if 1048576<q then 4 else 0) else 1))∧N0 w w':=by
 have G0:=Qa (heap_alloc_new w (.cells #[.int .u64 p,.slice ao n c] 26));have O:=Qa ((Only.refl (λ_=>False) w).alloc (.cells #[.int .u64 p,.slice ao n c] 26));have R:=Qa (P9 (.int .u64 p) ao n c (w.alloc (.cells #[.int .u64 p,.slice ao n c] 26)));have A:=Qa (λW=>Zp (.int .u64 p) ao n c W)
 by_cases hM:M=32
 ·have d1:((M:Int) != 32)=false:=by subst hM;rfl
  by_cases hr:n=0∨n=32
  ·rw[Qe hr] at R
   by_cases hv:v=18446744073709551615
   ·have d2:((v:Int) == 18446744073709551615)=true:=by subst hv;rfl
    rw[if_neg (λh=>h.2.2 hv)];clear hM hr hv A;go_enter func15,ntmps15;go_wp2_with fail;refine R.o.mono ?_;rintro e w1 ⟨rfl,o1⟩;have F:=Qa (O.o.same o1);clear R O o1 G0;go_wp2;go_ret;exact⟨rfl,F.o⟩
   ·have d2:((v:Int) == 18446744073709551615)=false:=by rw[beq_eq_false_iff_ne];omega
    rw[if_pos ⟨hM,hr,hv⟩];obtain⟨t,ht⟩:=EX (decide (0<n));simp only[<-ht] at A
    have e0:(if 0<n∧v<=p then (6:Int) else if 1048576<q then 4 else 0)=if t=true∧v<=p then 6 else if 1048576<q then 4 else 0:=by rw[ht];simp
    rw[e0];clear hM hr hv ht e0
    by_cases h1:t=true∧v<=p
    ·obtain⟨rfl,h2⟩:=h1
     rw[if_pos ⟨rfl,h2⟩];have d3:decide (v<=p)=true:=Qe h2;have d4:decide ((v:Int)<=(p:Int))=true:=Qe (by omega);clear h2;go_enter func15,ntmps15;go_wp2_with fail;refine R.o.mono ?_;rintro e w1 ⟨rfl,o1⟩;have G1:=o1.heap G0.o (λf=>f);obtain⟨c0,c1,_,_⟩:=QE G1;have A1:=Qa (A.o w1);have F:=Qa (O.o.same o1);have H1:=Qa G1;clear R O o1 G0 G1 A;go_wp2_with fail;refine A1.o.mono ?_;rintro e w2 ⟨rfl,o2⟩;clear c0 c1;obtain⟨c0,c1,_,_⟩:=QE (o2.heap H1.o (λf=>f));have F2:=Qa (F.o.same o2);clear F o2 A1 H1;go_wp2;go_ret;exact⟨rfl,F2.o⟩
    ·rw[if_neg h1]
     obtain⟨z,hz⟩:=EX (decide (1048576<q))
     have hz2:decide ((1048576:Int)<(q:Int))=z:=by rw[hz];exact decide_eq_decide.2 (by omega)
     have e0:(if 1048576<q then (4:Int) else 0)=if z=true then 4 else 0:=by rw[hz];simp
     rw[e0];have hz3:=hz.symm;clear e0 hz
     cases ht:t with
     | false =>
      subst ht
      cases z
      all_goals (
       clear h1;go_enter func15,ntmps15;go_wp2_with fail;refine R.o.mono ?_;rintro e w1 ⟨rfl,o1⟩;have G1:=o1.heap G0.o (λf=>f);obtain⟨c0,c1,_,_⟩:=QE G1;have A1:=Qa (A.o w1);have F:=Qa (O.o.same o1);clear R O o1 G0 G1 A;go_wp2_with fail;refine A1.o.mono ?_;rintro e w2 ⟨rfl,o2⟩;have F2:=Qa (F.o.same o2);clear F o2 A1;go_wp2;go_ret
       exact⟨rfl,F2.o⟩)
     | true =>
      subst ht;have d3:decide (v<=p)=false:=Qb (λh=>h1 ⟨rfl,h⟩);have d4:decide ((v:Int)<=(p:Int))=false:=Qb (λh=>h1 ⟨rfl,by omega⟩)
      cases z
      all_goals (
       clear h1;go_enter func15,ntmps15;go_wp2_with fail;refine R.o.mono ?_;rintro e w1 ⟨rfl,o1⟩;have G1:=o1.heap G0.o (λf=>f);obtain⟨c0,c1,_,_⟩:=QE G1;have A1:=Qa (A.o w1);have F:=Qa (O.o.same o1);have H1:=Qa G1;clear R O o1 G0 G1 A;go_wp2_with fail;refine A1.o.mono ?_;rintro e w2 ⟨rfl,o2⟩;clear c0 c1;obtain⟨c0,c1,_,_⟩:=QE (o2.heap H1.o (λf=>f));have F2:=Qa (F.o.same o2);clear F o2 A1 H1;go_wp2;go_ret
       exact⟨rfl,F2.o⟩)
  ·rw[Qb hr] at R
   rw[if_neg (λh=>hr h.2.1)];clear hM hr A;go_enter func15,ntmps15;go_wp2_with fail;refine R.o.mono ?_;rintro e w1 ⟨rfl,o1⟩;have F:=Qa (O.o.same o1);clear R O o1 G0;go_wp2;go_ret;exact⟨rfl,F.o⟩
 ·have d1:((M:Int) != 32)=true:=by rw[bne_iff_ne];omega
  rw[if_neg (λh=>hM h.1)];clear hM A R G0;go_enter func15,ntmps15;go_wp2;go_ret;exact⟨rfl,O.o⟩
theorem Mi (x vr:Value) (r:LI) (w:World) (hr:Bs .u8 w vr r) (nr:NoCap vr) :
 Calls prog 18 #[.agg #[x,vr]] w λe w'=>∃u,e=.returned u∧Bs .u8 w' u (Wk r)∧NoCap u∧N0 w w':=by
 obtain⟨ao,c,rfl⟩:=hr.len;have G0:=Qa (heap_alloc_new w (.cells #[x,.slice ao r.length c] 26));have oA:N0 w (w.alloc (.cells #[x,.slice ao r.length c] 26)):=(Only.refl _ _).alloc _;have A:=Qa (Zp x ao r.length c (w.alloc (.cells #[x,.slice ao r.length c] 26)));have O:=Qa oA;have B:=Qa (And.intro (hr.past oA) nr)
 by_cases h:r.length=0
 ·rw[Qb (by omega:¬0<r.length)] at A
  have e:Wk r=List.replicate 32 0:=if_pos h;rw[e];have MK:=Qa (λW=>XN W 32 (by omega));obtain⟨n,hn⟩:=EX r.length;rw[<-hn] at A O G0 ⊢;clear hr nr h e B hn oA;go_enter func18,ntmps18;go_wp2_with fail;refine A.o.mono ?_;rintro e w1 ⟨rfl,o1⟩;obtain⟨wm,hmk,h0,om⟩:=MK.o w1;rw[show ((32:Nat):Int)=32 from rfl] at hmk;have F:=Qa (And.intro (h0.bs 32 (by simp)) (O.o.same (o1.same om)));clear A O o1 G0 MK h0 om;go_wp2;go_ret;exact⟨_,rfl,F.o.1,NoCap.some _ _ _,F.o.2⟩
 ·rw[Qe (by omega:0<r.length)] at A
  have e:Wk r=r:=if_neg h;rw[e];obtain⟨n,hn⟩:=EX r.length;rw[<-hn] at A O G0 B ⊢;clear hr nr h e hn oA;go_enter func18,ntmps18;go_wp2_with fail;refine A.o.mono ?_;rintro e w1 ⟨rfl,o1⟩;obtain⟨c0,c1,_,_⟩:=QE (o1.heap G0.o (λf=>f));have F:=Qa (And.intro (B.o.1.past o1) (And.intro B.o.2 (O.o.same o1)));clear A O o1 G0 B;go_wp2;go_ret;exact⟨_,rfl,F.o.1,F.o.2⟩
abbrev NIL:Value:=.slice none 0 0
theorem JK (w:World) (n:Nat) (hn:n<=1000000000):∃wm,(Instr.makeSlice 38 (.int .i64 (n:Int)) (.int .i64 (n:Int))).run prog w=.ok (.slice (some ⟨w.heap.size,0,none⟩) n n) wm∧wm.ownsRow w.heap.size 23 1 (.slice (some ⟨w.heap.size,0,none⟩) n n) n (List.replicate n NIL)∧N0 w wm:=by
 obtain⟨i0,hi,hz0,hz1,hz2⟩:=info_parts Tryz.infoRows;obtain⟨wm,hmk,h0,hgr⟩:=run_make_full (P:=prog) w w.heap.size 38 23 i0 (.slice none 0 0) 1 underlying38 hi hz0 hz1 .i64 .i64 n (by rw[hz2];omega) (by unfold maxLen;omega) (Nat.le_refl _);refine⟨wm,hmk,?_,(Only.refl _ _).grown hgr (λk _ e=>by cases e)⟩;rw[Nat.mul_one,show (Value.slice none 0 0).cells=#[Value.slice none 0 0] from rfl,toList_madeCells_one] at h0;exact h0
theorem LO.set {vs:List Value} (h:LO w vs ls) {base g n cap k:Nat} {xs:List Value} (hv:w.ownsRow base 23 1 (.slice (some ⟨g,0,none⟩) n cap) n xs) (u:Value):LO (w.setCell ⟨g,k,none⟩ u) vs ls :=
 h.grown hv (hv.stored k u).2
structure LD (w:World) (N n k:Nat) (ls:Nat->LI):Prop where
 ex:∃vs:List Value,LO w vs ((List.range k).map ls)∧w.ownsRow N 23 1 (.slice (some ⟨N,0,none⟩) n n) n (vs++List.replicate (n - k) NIL)
theorem LD.past {N n k:Nat} {ls:Nat->LI} (h:LD w N n k ls) (o:N0 w w'):LD w' N n k ls:=by
 obtain⟨vs,h1,h2⟩:=h.ex;exact⟨vs,h1.past o,o.own h2 (λ_ _ f=>f)⟩
theorem LD.cell {N n k:Nat} {ls:Nat->LI} (h:LD w N n k ls) (hk:k<n):w.cell? ⟨N,k,none⟩=some NIL∧w.frozen? ⟨N,k,none⟩=false:=by
 obtain⟨vs,h1,h2⟩:=h.ex
 have hl:vs.length=k:=by rw[h1.1];simp
 refine⟨?_,h2.frozenAt _⟩;rw[h2.cellAt k (by omega),List.getElem?_append_right (by omega),List.getElem?_replicate,if_pos (by omega)]
theorem LD.store {N n k lo:Nat} {ls:Nat->LI} {u:Value} (h:LD w N n k ls) (hk:k<n) (hu:w.ownsRow lo 5 1 u (ls k).length (bl (ls k))):LD (w.setCell ⟨N,k,none⟩ u) N n (k+1) ls:=by
 obtain⟨vs,h1,h2⟩:=h.ex
 have hl:vs.length=k:=by rw[h1.1];simp
 refine⟨vs++[u],?_,?_⟩
 ·have:=(h1.app (LO.one hu)).set (k:=k) h2 u
  rw[List.range_succ,List.map_append];exact this
 ·have:=(h2.stored k u).1
  obtain⟨m,hm⟩:∃m,n - k=m+1:=⟨n - k - 1,by omega⟩;rw[hm,List.replicate_succ,List.set_append_right _ _ (by omega),hl,Nat.sub_self,Qj] at this;rw[show n - (k+1)=m by omega,List.append_assoc];exact this
theorem LD.all {N n:Nat} {ls:Nat->LI} (h:LD w N n n ls):RL w (.slice (some ⟨N,0,none⟩) n n) ((List.range n).map ls):=by
 obtain⟨vs,h1,h2⟩:=h.ex
 have hl:vs.length=n:=by rw[h1.1];simp
 rw[Nat.sub_self,List.replicate_zero,List.append_nil] at h2;exact (h1.rl (lo:=N) (by rw[hl];exact h2)).1
theorem LD.nought {N n:Nat} {ls:Nat->LI} (h:w.ownsRow N 23 1 (.slice (some ⟨N,0,none⟩) n n) n (List.replicate n NIL)):LD w N n 0 ls:=⟨[],LO.nil w,by simpa using h⟩
theorem XL (l:List (LI)) (f:LI->LI):(List.range l.length).map (λi=>f (l.getD i []))=l.map f:=by
 refine List.ext_getElem (by simp) (λi h1 h2=>?_)
 have h:i<l.length:=by simpa using h2
 simp[List.getD_eq_getElem?_getD,List.getElem?_eq_getElem h]
theorem Ny (v:Value) (ls:List (LI)) (w:World) (h:RL w v ls) (h8:R8 ls) (hl:ls.length<=1000000000) :
 Calls prog 17 #[v] w λe w'=>∃u,e=.returned u∧w'.ownsRow w.heap.size 5 1 u 32 (bl (QM ls))∧N0 w w':=by
 obtain⟨wm,h6,h1,om⟩:=JK w ls.length hl;obtain⟨ao,cap,rfl,h5⟩:=h.len;have H:=Qa h;have H8:=Qa h8;have RT:=Qa (λ(W:World) (u:Value) (r:RL W u (ls.map LEAF))=>GY (ls.map LEAF) u W (by rw[List.length_map];exact hl) (KE ls) r);have eR:QB (ls.map LEAF)=QM ls:=rfl;have eL:=UM ls;simp only[eR,eL] at RT;obtain⟨N,hN⟩:=EX w.heap.size;rw[<-hN] at h6 h1 ⊢;have L0:Hid (LD wm N ls.length 0 (λi=>LEAF (ls.getD i []))∧N0 w wm):=⟨LD.nought h1,om⟩;have MA:=Qa (XL ls LEAF);obtain⟨n,hn⟩:=EX ls.length;rw[<-hn] at h6 L0 MA h5 ⊢
 have hnb:n<=1000000000:=by omega
 have h2:=Qa (And.intro hN hn);clear h h8 hl h1 om eR eL hN hn;go_enter func17,ntmps17;go_wp2
 go_loopw [11] (λi wr=>∃k:Nat,k<=n∧i=.int .i64 k∧Hid (LD wr N n k (λi=>LEAF (ls.getD i []))∧N0 w wr)) (λi _=>n - (intOf i).toNat)
 case atStart=>exact⟨0,Nat.zero_le _,rfl,L0⟩
 case round =>
  obtain⟨k,hk,rfl,hS⟩:=hrel;clear L0 h6
  by_cases hlt:k<n
  ·have dlt:decide ((k:Int)<(n:Int))=true:=Qe (by omega)
   have dlt':decide (k<n)=true:=Qe hlt;obtain⟨b,off,h4,ea,_⟩:=(H.o.past hS.o.2).form (show ls.length=n from h2.o.2.symm) (by omega)
   obtain⟨rfl,_,rfl⟩:ao=some ⟨b,off,none⟩∧n=n∧cap=h4:=by have:=h2.o.2;rw[<-this] at ea;simpa using ea
   have h9:RL wr (.slice (some ⟨b,off,none⟩) n cap) ls:=by have:=H.o.past hS.o.2;rw[<-h2.o.2] at this;exact this
   obtain⟨u,hu,h7,hnu⟩:=h9.at k (by rw[<-h2.o.2];exact hlt);have A:=Qa (Zm u (ls.getD k []) wr h7 (H8.o.at k).1 (by have:=(H8.o.at k).2;omega))
   have i0:(0:Int)<=(k:Int):=by omega
   have i1:(k:Int)<(n:Int):=by omega
   clear h9 h7 hnu ea;go_wp2_with fail;refine A.o.mono ?_;rintro e w4 ⟨v4,rfl,h0,o4⟩;have h3:=hS.o.1.past o4;obtain⟨hc,hf⟩:=h3.cell hlt
   have F:Hid (LD (w4.setCell ⟨N,k,none⟩ v4) N n (k+1) (λi=>LEAF (ls.getD i []))∧N0 w (w4.setCell ⟨N,k,none⟩ v4)) :=
    ⟨h3.store hlt (lo:=wr.heap.size) (by rw[Ky];exact h0),(hS.o.2.same o4).setCell (λhb=>by have:=h2.o.1;simp only at hb;omega) _⟩
   obtain⟨a4,c4,rfl⟩:=Qm h0;clear h0 o4 A hS h3 hu;go_wp2
   go_roundw
   case rel=>exact⟨k+1,by omega,by go_num,F⟩
   case measure=>simp[intOf];omega
  ·obtain rfl:k=n:=by omega
   have dlt:decide ((k:Int)<(k:Int))=false:=Qb (by omega);have A:=Qa (RT.o wr (.slice (some ⟨N,0,none⟩) k k) (by have:=hS.o.1.all;rw[MA.o] at this;exact this));have O:=Qa hS.o.2;clear hS;go_wp2_with fail;refine A.o.mono ?_;rintro e w4 ⟨v4,rfl,h0,o4⟩;have F:=Qa (And.intro (Qu h0 (show N<=wr.heap.size from by have:=h2.o.1;have:=O.o.size;omega)) (O.o.same o4));obtain⟨a4,c4,rfl⟩:=Qm h0;clear h0 o4 A O;go_wp2;go_ret;exact⟨_,rfl,F.o⟩
end Go.Proofs.YtoflhbghdlaeaaaGreatDoor
