import Derived.Test.YteciafpneamfaaaGreatDoorG11
import Derived.Test.YteciafpneamfaaaGreatDoorG17
import Derived.Test.YteciafpneamfaaaGreatDoorG33
import Derived.Test.YteciafpneamfaaaGreatDoorG18
import Derived.Test.YteciafpneamfaaaGreatDoorG24
namespace Go.Proofs.YteciafpneamfaaaGreatDoor
set_option maxHeartbeats 1600000
set_option maxRecDepth 100000
open Go.RowKit _root_.Go.Proofs.Tryz
variable {w w' W:World} {v:Value} {ys xs l:LI} {R n p k g B:Nat} {P:Program} {ls:List (LI)} {E:TypeId}
theorem jQ {tn:LI} {s:List (Int × Int)} (ht:∀y∈tn,0<=y∧y<=255) (h1:tn.length<=64) (h2:s.length<=65536) (hg:Gs s):∀y∈(ENCC tn s).1,0<=y∧y<=255:=by
 rw[Gg h1 h2];intro y hy;simp only[List.mem_cons,List.mem_append] at hy
 rcases hy with rfl | hy | hy | hy | hy
 ·omega
 ·exact WX tn ht y hy
 ·exact UO _ y hy
 ·exact WX _ (LC hg.1) y hy
 ·exact WX _ (Mr _) y hy
abbrev Qk:=LI × List (Int × Int)
def Q5 (v i:Int) (t:LI):LI:=fixL v 8++(fixL i 4++blk t)
def Qy (c:Qk):LI:=(ENCC c.1 c.2).1
def YC (c:Qk):Int:=if (ENCC c.1 c.2).2=0 then Uu (Qy c) else (ENCC c.1 c.2).2
def Xk (c:Qk):LI:=if YC c=0 then PADL (Qy c) else []
def Vn (c:Qk):Int:=if YC c=0 then (QO (Qy c).length:Int) else 0
def YF (k:LI) (i:Int) (c:Qk):Int:=if k.length=32 then (if Uw i then YC c else 1) else 1
def Yb (k:LI) (v i:Int) (c:Qk):LI:=if YF k i c=0 then YJ (QN k 2 []) (Q6 k v i) (Q5 v i c.1) (PADL (Qy c)) else []
def Ye (k:LI) (i:Int) (c:Qk):Int:=if YF k i c=0 then (QO (Qy c).length:Int) else 0
structure CG (c:Qk):Prop where
 t8:U8 c.1
 gs:Gs c.2
theorem Mb {v i:Int} {t:LI} (h:U8 t):U8 (Q5 v i t):=λy hy=>by
 rcases List.mem_append.1 hy with h1 | h1
 ·exact UM _ _ y h1
 ·rcases List.mem_append.1 h1 with h1 | h1
  ·exact UM _ _ y h1
  ·exact WX _ h y h1
theorem NS {v i:Int} {t:LI} (h:t.length<=1000000):(Q5 v i t).length<=t.length+22:=by
 have:=UW t h;simp only[Q5,Qb,Qt];omega
theorem ZD {c:Qk} (h:YC c=0):c.1.length<=64∧c.2.length<=65536∧(ENCC c.1 c.2).2=0∧(Qy c).length<=4194300:=by
 unfold YC at h
 by_cases h1:(ENCC c.1 c.2).2=0
 ·rw[if_pos h1] at h
  have h3:¬(64<c.1.length∨65536<c.2.length):=λq=>by rw[JK q] at h1;cases h1
  refine⟨by omega,by omega,h1,?_⟩;unfold Uu at h
  by_cases h2:(Qy c).length<=4194300
  ·exact h2
  ·rw[if_neg h2] at h;cases h
 ·rw[if_neg h1] at h;exact absurd h h1
theorem J5 {k:LI} {i:Int} {c:Qk} (h:YF k i c=0):k.length=32∧Uw i∧YC c=0:=by
 unfold YF at h
 by_cases h1:k.length=32
 ·rw[if_pos h1] at h
  by_cases h2:Uw i
  ·rw[if_pos h2] at h;exact⟨h1,h2,h⟩
  ·rw[if_neg h2] at h;cases h
 ·rw[if_neg h1] at h;cases h
theorem XT {c:Qk} (g:CG c):U8 (Qy c):=by
 by_cases h:64<c.1.length∨65536<c.2.length
 ·unfold Qy;rw[JK h];intro y hy;cases hy
 ·exact jQ g.t8 (by omega) (by omega) g.gs
theorem St {k:LI} {v i:Int} {c:Qk} (h:YF k i c=0):(Yb k v i c).length=Ui (Qy c).length+16:=by
 unfold Yb;rw[if_pos h,VG,KX _ (ZD (J5 h).2.2).2.2.2]
theorem rQ {k:LI} {v i:Int} {c:Qk} (g:CG c):U8 (Yb k v i c):=by
 unfold Yb
 split
 ·exact Sl _ _ _ _ (ZC (XT g))
 ·intro y hy;cases hy
theorem NL {k:LI} {v i:Int} {c:Qk}:(Yb k v i c).length<=4194320:=by
 by_cases h:YF k i c=0
 ·rw[St h];have:=VX (Qy c).length;omega
 ·unfold Yb;rw[if_neg h];simp
theorem Av {k:LI} {i:Int} {c:Qk}:0<=Ye k i c∧Ye k i c<=8:=by
 unfold Ye
 split
 ·have:=LH (Qy c).length;omega
 ·omega
def QR (m:LI) (c:Qk):LI:=QX m 1 c.1
def Y6 (m:LI) (i:Nat) (c:Qk):Int:=if QU m c.1=0 then YF (QR m c) i c else QU m c.1
def Yg (m:LI):Nat->List Qk->Int
 | _,[]=>0
 | i,c :: l=>if Y6 m i c=0 then Yg m (i+1) l else Y6 m i c
abbrev Qv:Qk:=([],[])
def QF (m:LI) (v:Nat) (l:List Qk) (k:Nat):List (LI):=(List.range k).map λi=>Yb (QR m (l.getD i Qv)) v i (l.getD i Qv)
def Um (m:LI) (l:List Qk) (k:Nat):List (LI × Int):=(List.range k).map λi=>((l.getD i Qv).1,Ye (QR m (l.getD i Qv)) i (l.getD i Qv))
theorem Zq (m:LI) (v:Nat) (l:List Qk) (k:Nat):(QF m v l k).length=k:=by simp[QF]
theorem KJ (m:LI) (l:List Qk) (k:Nat):(Um m l k).length=k:=by simp[Um]
theorem Rn (m:LI) (v:Nat) (l:List Qk) {k j:Nat} (h:j<k):(QF m v l k).getD j []=Yb (QR m (l.getD j Qv)) v j (l.getD j Qv):=by simp[QF,List.getD_eq_getElem?_getD,h]
theorem Pn (m:LI) (l:List Qk) {k j:Nat} (h:j<k):(Um m l k).getD j ([],0)=((l.getD j Qv).1,Ye (QR m (l.getD j Qv)) j (l.getD j Qv)):=by simp[Um,List.getD_eq_getElem?_getD,h]
theorem xA {m:LI} {l:List Qk} (h:k<l.length):Yg m k (l.drop k)=if Y6 m k (l.getD k Qv)=0 then Yg m (k+1) (l.drop (k+1)) else Y6 m k (l.getD k Qv):=by
 rw[List.drop_eq_getElem_cons h,Yg,Qd,Qi h,Option.getD_some]
theorem XY {m:LI}:∀(l:List Qk) (k:Nat),Yg m k l=0->∀j,j<l.length->Y6 m (k+j) (l.getD j Qv)=0
 | [],_,_,j,h=>by simp at h
 | c :: l,k,h0,j,h=>by
  rw[Yg] at h0
  by_cases h1:Y6 m k c=0
  ·rw[if_pos h1] at h0
   cases j with
   | zero=>simpa using h1
   | succ j =>
    have:=XY l (k+1) h0 j (by simpa using h);rw[show k+(j+1)=k+1+j by omega]
    simpa using this
  ·rw[if_neg h1] at h0;exact absurd h0 h1
theorem Ta {m:LI} {i:Nat} {c:Qk} (h:Y6 m i c=0):QU m c.1=0∧YF (QR m c) i c=0:=by
 unfold Y6 at h
 by_cases h1:QU m c.1=0
 ·rw[if_pos h1] at h;exact⟨h1,h⟩
 ·rw[if_neg h1] at h;exact absurd h h1
def QD (l:List (LI)):LI:=YB (l.map LEAF)
theorem US (l:List (LI)):(QD l).length=32:=by
 unfold QD
 rcases l with _ | ⟨a,_ | ⟨b,t⟩⟩
 ·exact YW _
 ·rw[MD (by simp)];exact GJ _
 ·exact gG (by simp)
def WQ (r:LI):LI:=if r.length=0 then List.replicate 32 0 else r
theorem SQ {r:LI} (h:r.length=0∨r.length=32):(WQ r).length=32:=by
 unfold WQ;split
 ·simp
 ·omega
theorem Lu {r:LI} (h:U8 r):U8 (WQ r):=by
 unfold WQ;split
 ·intro y hy;have:=List.eq_of_mem_replicate hy;omega
 ·exact h
abbrev Yf:=Nat × LI
abbrev ZI (s:Yf):Prop:=s.2.length=0∨s.2.length=32
def Qz (m:LI) (r:LI) (v:Nat) (l:List Qk):MAN:=⟨v,WQ r,Um m l l.length,QD (QF m v l l.length)⟩
def Un (m:LI) (s:Yf) (v n:Nat):Int :=
 if m.length=32∧ZI s∧v≠18446744073709551615 then (if 0<s.2.length∧v<=s.1 then 6 else if 1048576<n then 4 else 0) else 1
def QP (m:LI) (s:Yf) (v:Nat) (l:List Qk):Int:=if Un m s v l.length=0 then Yg m 0 l else Un m s v l.length
def QI (m:LI) (s:Yf) (v:Nat) (l:List Qk):LI:=MENC (Qz m s.2 v l)++MACL (Yv m) (MENC (Qz m s.2 v l))
def QT (m:LI) (s:Yf) (v:Nat) (l:List Qk):LI:=if QP m s v l=0 then blk (QI m s v l)++(QF m v l l.length).flatten else []
def YN (m:LI) (s:Yf) (v:Nat) (l:List Qk):Yf:=if QP m s v l=0 then (v,QD (QF m v l l.length)) else (0,[])
theorem Kv {m:LI} {s:Yf} {v n:Nat} (h:Un m s v n=0):m.length=32∧ZI s∧v≠18446744073709551615∧¬(0<s.2.length∧v<=s.1)∧n<=1048576:=by
 unfold Un at h
 by_cases h1:m.length=32∧ZI s∧v≠18446744073709551615
 ·rw[if_pos h1] at h
  by_cases h2:0<s.2.length∧v<=s.1
  ·rw[if_pos h2] at h;cases h
  ·rw[if_neg h2] at h
   by_cases h3:1048576<n
   ·rw[if_pos h3] at h;cases h
   ·exact⟨h1.1,h1.2.1,h1.2.2,h2,by omega⟩
 ·rw[if_neg h1] at h;cases h
theorem KC {m:LI} {s:Yf} {v:Nat} {l:List Qk} (h:QP m s v l=0):Un m s v l.length=0∧Yg m 0 l=0:=by
 unfold QP at h
 by_cases h1:Un m s v l.length=0
 ·rw[if_pos h1] at h;exact⟨h1,h⟩
 ·rw[if_neg h1] at h;exact absurd h h1
theorem Sp (l:List (LI)):R8 (l.map LEAF):=λx hx=>by
 obtain⟨a,_,rfl⟩:=List.mem_map.1 hx;exact⟨Gz _,by rw[GJ];omega⟩
theorem VO (l:List (LI)):U8 (QD l):=(VY (Sp l)).1
theorem Mt {m:LI} {l:List Qk} (hl:∀c∈l,CG c) {k:Nat}:∀e∈Um m l k,U8 e.1:=λe he=>by
 obtain⟨i,hi,rfl⟩:=List.mem_map.1 he
 show U8 (l.getD i Qv).1
 by_cases h:i<l.length
 ·rw[Qd,Qi h]
  exact (hl _ (List.getElem_mem h)).t8
 ·rw[Qd,List.getElem?_eq_none (by omega)];intro y hy;cases hy
theorem BO {m:LI} {s:Yf} {v:Nat} {l:List Qk} (hv:v<18446744073709551616) (s8:U8 s.2) (hl:∀c∈l,CG c):Mok (Qz m s.2 v l):=⟨hv,Lu s8,VO _,Mt hl⟩
theorem VT {m:LI} {s:Yf} {v:Nat} {l:List Qk} (hv:v<18446744073709551616) (s8:U8 s.2) (hl:∀c∈l,CG c) (h:QP m s v l=0):Uv (Qz m s.2 v l):=by
 obtain⟨h1,h2⟩:=KC h;obtain⟨_,m2,m3,_,m5⟩:=Kv h1;refine⟨?_,⟨SQ m2,Lu s8⟩,⟨US _,VO _⟩,?_,λe he=>?_⟩
 ·show v<18446744073709551615;omega
 ·show (Um m l l.length).length<=1048576;rw[KJ];exact m5
 ·refine⟨⟨?_,Mt hl e he⟩,?_⟩
  ·obtain⟨i,hi,rfl⟩:=List.mem_map.1 he
   have:=XY l 0 h2 i (by simpa using hi);rw[Nat.zero_add] at this;exact (ZD (J5 (Ta this).2).2.2).1
  ·obtain⟨i,hi,rfl⟩:=List.mem_map.1 he
   exact Av
def CUT:List (LI × Int)->LI->Option (List (LI) × LI)
 | [],r=>some ([],r)
 | e :: es,r=>if r.length<(Q9 e.2).toNat+16 then none else
  match CUT es (r.drop ((Q9 e.2).toNat+16)) with
  | none=>none
  | some x=>some (r.take ((Q9 e.2).toNat+16) :: x.1,x.2)
theorem Tq:∀(es:List (LI × Int)) (ls:List (LI)) (t:LI),es.length=ls.length->(∀j,j<es.length->(ls.getD j []).length=(Q9 (es.getD j ([],0)).2).toNat+16)->CUT es (ls.flatten++t)=some (ls,t)
 | [],[],t,_,_=>rfl
 | [],_ :: _,_,h,_=>by simp at h
 | _ :: _,[],_,h,_=>by simp at h
 | e :: es,a :: ls,t,h,hj=>by
  have h0:a.length=(Q9 e.2).toNat+16:=by simpa using hj 0 (by simp)
  rw[CUT,if_neg (by simp only[List.flatten_cons,List.append_assoc,Qb];omega),List.flatten_cons,List.append_assoc,List.drop_append_of_le_length (by omega),List.take_append_of_le_length (by omega)];rw[<-h0,List.drop_length,List.take_length,List.nil_append,Tq es ls t (by simpa using h) (λj hj'=>by simpa using hj (j+1) (by simpa using hj'))]
def Wh (b:LI):Except Int (MAN × LI × List (LI)) :=
 if (Qp 268435456 b).2.2≠0 then .error (Qp 268435456 b).2.2
 else if (Qp 268435456 b).1.length<32 then .error 2
 else match MDEC ((Qp 268435456 b).1.take ((Qp 268435456 b).1.length - 32)) with
  | .error e=>.error e
  | .ok m=>match CUT m.es (b.drop (Qp 268435456 b).2.1) with
   | none=>.error 2
   | some x=>if x.2=[] then .ok (m,(Qp 268435456 b).1,x.1) else .error 3
theorem Au {x t:LI} (hx:x.length<=n) (hn:n<18446744073709551616):Qp n (blk x++t)=(x,(blk x).length,0):=by
 unfold Qp blk;have hg:=Y4 x.length (x++t) (by omega);rw[List.append_assoc,hg,if_neg (by omega),if_neg (by simp),if_neg (by simp only;omega),if_neg (by simp only[Qb];omega)];simp only[Prod.mk.injEq,and_true];refine⟨?_,?_⟩
 ·rw[List.drop_left,show ((x.length:Int)).toNat=x.length by omega,List.take_left]
 ·rw[Qb];omega
theorem uU {m:MAN} {tg:LI} (g:Uv m) (ht:tg.length=32) (hn:(MENC m).length+32<=268435456) (he:m.es.length=ls.length) (hj:∀j,j<m.es.length->(ls.getD j []).length=(Q9 (m.es.getD j ([],0)).2).toNat+16) :
 Wh (blk (MENC m++tg)++ls.flatten)=.ok (m,MENC m++tg,ls):=by
 have hl:(MENC m++tg).length=(MENC m).length+32:=by rw[Qb,ht]
 have hb:=Au (n:=268435456) (x:=MENC m++tg) (t:=ls.flatten) (by omega) (by omega);have hc:=Tq m.es ls [] he hj;rw[List.append_nil] at hc;unfold Wh;rw[show ((268435456:Nat):Int)=268435456 from rfl] at hb;rw[hb,if_neg (by simp),if_neg (by simp only;omega)];simp only;rw[hl,Nat.add_sub_cancel,List.take_left,NV g,List.drop_left];simp only;rw[hc]
 rfl
theorem Uq {fn:Func} {a b c:Tmp} (h:fn.results=#[.tmp a,.tmp b,.tmp c]) (tmps:Array Value) (P:Program) (w:World):(results fn tmps).run P w=.ok (.tuple #[tmps.getD a undef,tmps.getD b undef,tmps.getD c undef]) w:=by
 simp[results,h]
theorem rT {v0 v1 v2:Value} {l0 l1 l2:LI} (hB:W.heap[B]? = some (.cells #[v0,v1,v2] 22 (0,0)))
 (b0:Bs .u8 W v0 l0) (b1:Bs .u8 W v1 l1) (b2:Bs .u8 W v2 l2) (n0:NoCap v0) (n1:NoCap v1) (n2:NoCap v2) (hp:0<l0.length) (hl:(l0++(l1++l2)).length<=140737488355328) :
 Calls prog 19 #[.slice (some ⟨B,0,none⟩) 3 3] W λe w'=>∃v',e=.returned v'∧w'.ownsRow W.heap.size 5 1 v' (l0++(l1++l2)).length (bl (l0++(l1++l2)))∧N0 W w':=by
 have h0:cat (five l0 l1 l2 [] []) 3=l0++(l1++l2):=by simp[cat,List.range_succ,five]
 have:=VP B 3 (five v0 v1 v2 v2 v2) (five l0 l1 l2 [] []) W (by omega) (by omega)
  (λi hi=>by
   have e:W.cell? ⟨B,i,none⟩=(#[v0,v1,v2]:Array Value)[i]?:=by unfold World.cell?;simp only;rw[hB];rfl
   rw[e]
   match i,hi with
   | 0,_=>rfl
   | 1,_=>rfl
   | 2,_=>rfl)
  (λi hi=>by
   match i,hi with
   | 0,_=>exact b0
   | 1,_=>exact b1
   | 2,_=>exact b2)
  (λi hi=>by
   match i,hi with
   | 0,_=>exact n0
   | 1,_=>exact n1
   | 2,_=>exact n2)
  (by rw[h0];simp only[Qb];omega) (by rw[h0];exact hl)
 rw[h0] at this;exact this
theorem TD (v i:Int) (t:ByteArray) (hi:Uw i) (ht:t.size<=1000000) (w:World) :
 Calls prog 51 #[.int .u64 v,.int .i64 i,.string t] w λe w'=>∃u,e=.returned u∧w'.ownsRow w.heap.size 5 1 u (Q5 v i (sb t)).length (bl (Q5 v i (sb t)))∧N0 w w':=by
 have hw:IntKind.u64.wrap i=i:=by rw[IntKind.wrap_u64];omega
 have A:=Qa (UF v 8 w (by decide));have B:=Qa (λW=>UF i 4 W (by decide));rw[show ((8:Nat):Int)=8 from rfl,Qt] at A;rw[show ((4:Nat):Int)=4 from rfl,Qt] at B;have h9:=XE t;have h7:=UW (sb t) (by rw[QS];exact ht);rw[QS] at h7;have HX:Hid (fixL v 8++(fixL i 4++blk (sb t))=Q5 v i (sb t)∧(fixL v 8).length=8∧(fixL i 4).length=4∧(blk (sb t)).length<=1000010):=⟨rfl,Qt _ _,Qt _ _,by omega⟩;have K:=Qa (λ(W:World) (u:Value) (h:Bs .u8 W u (sb t)) (n:NoCap u)=>Kb u (sb t) W h n (by rw[QS];exact ht));obtain⟨X,hX⟩:=EX (fixL v 8);obtain⟨Y,hY⟩:=EX (fixL i 4);obtain⟨Z,hZ⟩:=EX (blk (sb t));rw[<-hX] at A HX;rw[<-hY] at B HX;simp only[<-hZ] at K HX;clear hX hY hZ hi ht h7;go_enter func51,ntmps51;go_wp2_with fail;refine A.o.mono ?_;rintro e w1 ⟨v1,rfl,h4,o1⟩;obtain⟨a1,c1,rfl⟩:=QJ h4;have B1:=Qa (B.o w1);have h8:=Qa h4;have O1:=Qa o1;clear h4 o1 A B;go_wp2_with fail;refine B1.o.mono ?_;rintro e w2 ⟨v2,rfl,h5,o2⟩;obtain⟨a2,c2,rfl⟩:=QJ h5;obtain⟨c,hc⟩:=EX (grownCap w2 t.size 0 5);have ha:=grownCap_ge w2 t.size 0 5;have hcw:=h9 w2;rw[<-hc] at ha hcw;have oz:N0 w2 (w2.drew.alloc (Wq t c)):=(Only.refl _ _).drew.alloc _;have K1:=Qa (K.o (w2.drew.alloc (Wq t c)) (.slice (some ⟨w2.heap.size,0,none⟩) t.size c) (XK (YS rfl) (by omega)) (NoCap.some _ _ _));have R:=Qa (And.intro ((h8.o:w1.ownsRow w.heap.size 5 1 _ 8 (X.map (Value.int .u8)))) (And.intro h5 (And.intro o2 (And.intro oz (O1.o.same (o2.same oz))))));clear h5 o2 oz B1 h8 O1 ha h9 hc;go_wp2_with fail;refine K1.o.mono ?_;rintro e w3 ⟨v3,rfl,h0,o3⟩;obtain⟨a3,c3,rfl⟩:=QJ h0;obtain⟨r1,r2,r3,r4,r5⟩:=R.o;have oa:N0 w3 (w3.alloc (.cells #[.slice a1 8 c1,.slice a2 4 c2,.slice a3 Z.length c3] 22)):=(Only.refl _ _).alloc _
 have C:=Qa (rT (heap_alloc_new w3 (.cells #[.slice a1 8 c1,.slice a2 4 c2,.slice a3 Z.length c3] 22))
  ((Bs.of_own (k:=.u8) (E:=5) (lo:=w.heap.size) (by rw[HX.o.2.1];exact r1)).past (r3.same (r4.same (o3.same oa))))
  ((Bs.of_own (k:=.u8) (E:=5) (lo:=w1.heap.size) (by rw[HX.o.2.2.1];exact r2)).past (r4.same (o3.same oa)))
  ((Bs.of_own (k:=.u8) h0).past oa) (NoCap.of_own r1) (NoCap.of_own r2) (NoCap.of_own h0) (by have:=HX.o.2.1;omega) (by have h1:=HX.o.2.1;have h2:=HX.o.2.2.1;have h3:=HX.o.2.2.2;simp only[Qb];omega))
 rw[HX.o.1] at C;have O3:=Qa (r5.same (o3.same oa));obtain⟨m,hm⟩:=EX Z.length;rw[<-hm] at C O3 ⊢;clear h0 o3 oa r1 r2 r3 r4 r5 R K1 K hm;go_wp2_with fail;refine C.o.mono ?_;rintro e w4 ⟨v4,rfl,h6,o4⟩;have F:=Qa (And.intro (Qr h6 O3.o.size) (O3.o.same o4));clear h6 o4 C O3;go_wp2;go_ret;exact⟨_,rfl,F.o⟩
theorem N5 (vk:Value) (k:LI) (v i:Int) (k8:U8 k) (w:World) (bk:Bs .u8 w vk k) (h32:k.length=32) (hi:Uw i) :
 Calls prog 48 #[vk,.int .u64 v,.int .i64 i] w λe w'=>∃a b,e=.returned (.tuple #[a,b,.int .i64 0])∧w'.ownsRow w.heap.size 5 1 a 32 (bl (QN k 2 []))∧w'.ownsRow w.heap.size 5 1 b 12 (bl (Q6 k v i))∧N0 w w':=by
 have A:=Qa (LZ vk k k8 w bk)
 have e1:QX k 2 []=QN k 2 []:=by unfold QX;rw[if_pos h32];rfl
 have e2:UT k v i=Q6 k v i:=by unfold UT;rw[if_pos h32,if_pos hi]
 have e3:Uy k i=0:=by unfold Uy;rw[if_pos h32,if_pos hi]
 have B:=Qa (λW (o:N0 w W)=>Lm vk k v i k8 W (bk.past o) ⟨by omega,by omega⟩);rw[XH h32,e1,We] at A;simp only[e2,e3,Vt] at B;clear e1 e2 e3 k8 bk h32 hi;go_enter func48,ntmps48;go_wp2_with fail;refine A.o.mono ?_;rintro e w1 ⟨a,rfl,h1,o1⟩;have B1:=Qa (B.o w1 o1);have F1:=Qa (And.intro h1 o1);clear h1 o1 A B;go_wp2_with fail;refine B1.o.mono ?_;rintro e w2 ⟨b,rfl,h0,o2⟩;have F2:=Qa (And.intro (o2.own F1.o.1 (λ_ _ f=>f)) (And.intro (Qr h0 F1.o.2.size) (F1.o.2.same o2)));clear h0 o2 B1 F1;go_wp2;exact bodyPost_ret (Uq rfl _ _ _) rfl ⟨_,_,rfl,F2.o⟩
theorem yL (vk:Value) (k:LI) (v i:Int) (k8:U8 k) (w:World) (bk:Bs .u8 w vk k) (hb:-9223372036854775808<=i∧i<=9223372036854775807) (h:¬(k.length=32∧Uw i)) :
 Calls prog 48 #[vk,.int .u64 v,.int .i64 i] w λe w'=>e=.returned (.tuple #[.slice none 0 0,.slice none 0 0,.int .i64 1])∧N0 w w':=by
 have A:=Qa (LZ vk k k8 w bk)
 by_cases h32:k.length=32
 ·have hi:¬Uw i:=λq=>h ⟨h32,q⟩
  have e3:Uy k i=1:=by unfold Uy;rw[if_pos h32,if_neg hi]
  have B:=Qa (λW (o:N0 w W)=>Lm vk k v i k8 W (bk.past o) hb);rw[XH h32] at A;simp only[e3] at B;clear e3 k8 bk h32 hi hb h;go_enter func48,ntmps48;go_wp2_with fail;refine A.o.mono ?_;rintro e w1 ⟨a,rfl,h0,o1⟩;have B1:=Qa (B.o w1 o1);have F1:=Qa o1;clear h0 o1 A B;go_wp2_with fail;refine B1.o.mono ?_;rintro e w2 ⟨b,rfl,h1,o2⟩;have F2:=Qa (F1.o.same o2);clear h1 o2 B1 F1;go_wp2;exact bodyPost_ret (Uq rfl _ _ _) rfl ⟨rfl,F2.o⟩
 ·rw[Hf h32] at A
  clear k8 bk h32 hb h;go_enter func48,ntmps48;go_wp2_with fail;refine A.o.mono ?_;rintro e w1 ⟨a,rfl,h0,o1⟩;have F1:=Qa o1;clear h0 o1 A;go_wp2;exact bodyPost_ret (Uq rfl _ _ _) rfl ⟨rfl,F1.o⟩
theorem qM (t:ByteArray) (u:Value) (s:List (Int × Int)) (w:World) (h:Sps w u s) (hg:Gs s) (hm:s.length<=maxLen) (hm2:t.size<=maxLen) (hT:Tab w) :
 Calls prog 49 #[.agg #[.string t,u]] w λe w'=>∃v n,e=.returned (.tuple #[v,.int .i64 n,.int .i64 (YC (sb t,s))])∧w'.ownsRow w.heap.size 5 1 v (Xk (sb t,s)).length (bl (Xk (sb t,s)))∧(YC (sb t,s)=0->n=Vn (sb t,s))∧N0 w w':=by
 obtain⟨au,nu,cu,rfl⟩:∃a n c,u=.slice a n c:=by obtain⟨a,c,e,_⟩:=h;exact⟨_,_,_,e⟩
 have oA:N0 w (w.alloc (.cells #[.string t,.slice au nu cu] 42)):=(Only.refl _ _).alloc _;have A:=Qa (vZ t (.slice au nu cu) s (w.alloc (.cells #[.string t,.slice au nu cu] 42)) (h.past oA) hg hm hm2 (hT.past oA));have OA:=Qa oA;obtain⟨b,hb⟩:=EX (Qy (sb t,s));obtain⟨c,hc⟩:=EX ((ENCC (sb t) s).2);rw[<-hc,show (ENCC (sb t) s).1=b from hb.symm] at A
 have eE:YC (sb t,s)=if c=0 then Uu b else c:=by rw[hc,hb];rfl
 have eT:Xk (sb t,s)=if YC (sb t,s)=0 then PADL b else []:=by rw[hb];rfl
 have eB:Vn (sb t,s)=if YC (sb t,s)=0 then (QO b.length:Int) else 0:=by rw[hb];rfl
 clear h hg hm hm2 hT oA hb hc
 by_cases h0:c=0
 ·rw[if_pos h0] at eE
  subst h0;have K:=Qa (λW=>Z3 (b.length:Int) W)
  by_cases h1:b.length<=4194300
  ·have e0:Uu b=0:=by unfold Uu;rw[if_pos h1]
   rw[e0] at eE;rw[eE,if_pos rfl] at eT eB;have P:=Qa (λ(W:World) (v:Value) (h:Bs .u8 W v b)=>Tt v b W h)
   have q1:YL (b.length:Int)=0:=by unfold YL;rw[if_neg (by omega),if_neg (by omega)]
   have q2:UR (b.length:Int)=QO b.length:=by unfold UR;rw[if_pos (by omega)];rfl
   simp only[e0,show Kt b=PADL b by unfold Kt;rw[if_pos h1]] at P;simp only[q1,q2] at K;rw[eE,eT];rw[<-eB] at K;clear h1 e0 q1 q2 eE eT eB;obtain⟨n,hn⟩:=EX b.length;obtain⟨bk,h4⟩:=EX (Vn (sb t,s));rw[<-h4] at K ⊢;rw[<-hn] at K A;clear h4;go_enter func49,ntmps49;go_wp2_with fail;refine A.o.mono ?_;rintro e w1 ⟨v1,rfl,h2,o1⟩;have K1:=Qa (K.o w1);have P1:=Qa (λW (o:N0 w1 W)=>P.o W v1 ((Bs.of_own (k:=.u8) (E:=5) (lo:=(w.alloc (.cells #[.string t,.slice au nu cu] 42)).heap.size) (by rw[<-hn];exact h2)).past o));obtain⟨a1,c1,rfl⟩:=QJ h2;have O1:=Qa (OA.o.same o1);clear h2 o1 A K P OA hn;go_wp2_with fail;refine K1.o.mono ?_;rintro e w2 ⟨rfl,o2⟩;have P2:=Qa (P1.o w2 o2);have O2:=Qa (O1.o.same o2);clear o2 P1 K1 O1;go_wp2_with fail;refine P2.o.mono ?_;rintro e w3 ⟨v3,rfl,h3,o3⟩;have F:=Qa (And.intro (Qr h3 O2.o.size) (O2.o.same o3));clear h3 o3 P2 O2;go_wp2;exact bodyPost_ret (Uq rfl _ _ _) rfl ⟨_,_,rfl,F.o.1,λ_=>rfl,F.o.2⟩
  ·have e0:Uu b=4:=by unfold Uu;rw[if_neg h1]
   rw[e0] at eE;rw[eE,if_neg (by decide)] at eT
   have q1:YL (b.length:Int)=4:=by unfold YL;rw[if_neg (by omega),if_pos (by omega)]
   simp only[q1] at K;rw[eE,eT];clear h1 e0 q1 eE eT eB;obtain⟨n,hn⟩:=EX b.length;rw[<-hn] at K A;clear hn;go_enter func49,ntmps49;go_wp2_with fail;refine A.o.mono ?_;rintro e w1 ⟨v1,rfl,h2,o1⟩;have K1:=Qa (K.o w1);obtain⟨a1,c1,rfl⟩:=QJ h2;have O1:=Qa (OA.o.same o1);clear h2 o1 A K OA;go_wp2_with fail;refine K1.o.mono ?_;rintro e w2 ⟨rfl,o2⟩;have O2:=Qa (O1.o.same o2);clear o2 K1 O1;go_wp2;exact bodyPost_ret (Uq rfl _ _ _) rfl ⟨_,_,rfl,World.ownsRow_nil _ _ _ _,λq=>absurd q (by decide),O2.o⟩
 ·rw[if_neg h0] at eE
  rw[eE,if_neg h0] at eT;rw[eE,eT]
  have hne:(c != 0)=true:=by simpa using h0
  have h0':=Qa h0;clear eE eT eB h0;go_enter func49,ntmps49;go_wp2_with fail;refine A.o.mono ?_;rintro e w1 ⟨v1,rfl,h2,o1⟩;have O1:=Qa (OA.o.same o1);clear h2 o1 A OA;go_wp2;exact bodyPost_ret (Uq rfl _ _ _) rfl ⟨_,_,rfl,World.ownsRow_nil _ _ _ _,λq=>absurd q h0'.o,O1.o⟩
theorem Tryz.sizeCk:(prog.info? 42).map (·.size)=some 2:=by kernel_rfl
theorem VH {b:Nat} {x y:Value} (h:W.heap[b]? = some (.cells #[x,y] 42 (0,0))):(loadVar 42 ⟨b,0,none⟩).run prog W=.ok (.agg #[x,y]) W :=
 run_loadVar_row W b 42 42 _ (0,0) _ h underlying42 rfl Tryz.sizeCk
theorem Qw {x y:Value} {T:TypeId} (h:W.heap[B]? = some (.cells #[x,y] T (0,0))):W.cell? ⟨B,0,none⟩=some x∧W.cell? ⟨B,1,none⟩=some y∧W.frozen? ⟨B,0,none⟩=false∧W.frozen? ⟨B,1,none⟩=false :=
 ⟨by simp[World.cell?,h],by simp[World.cell?,h],by simp[World.frozen?,h],by simp[World.frozen?,h]⟩
theorem gu (vk:Value) (k:LI) (v i:Int) (t:ByteArray) (u:Value) (s:List (Int × Int)) (w:World) (bk:Bs .u8 w vk k) (k8:U8 k) (hb:-9223372036854775808<=i∧i<=9223372036854775807)
 (h:Sps w u s) (hg:Gs s) (hm:s.length<=maxLen) (hm2:t.size<=maxLen) (hT:Tab w) :
 Calls prog 29 #[vk,.int .u64 v,.int .i64 i,.agg #[.string t,u]] w λe w'=>∃x,e=.returned (.tuple #[x,.int .i64 (Ye k i (sb t,s)),.int .i64 (YF k i (sb t,s))])∧w'.ownsRow w.heap.size 5 1 x (Yb k v i (sb t,s)).length (bl (Yb k v i (sb t,s)))∧N0 w w':=by
 obtain⟨au,nu,cu,rfl⟩:∃a n c,u=.slice a n c:=by obtain⟨a,c,e,_⟩:=h;exact⟨_,_,_,e⟩
 have oA:N0 w (w.alloc (.cells #[.string t,.slice au nu cu] 42)):=(Only.refl _ _).alloc _;have G0:=Qa (heap_alloc_new w (.cells #[.string t,.slice au nu cu] 42));have OA:=Qa oA
 by_cases h1:k.length=32∧Uw i
 ·obtain⟨he,hi⟩:=h1
  have A:=Qa (N5 vk k v i k8 _ (bk.past oA) he hi);have P:=Qa (λW (o:N0 w W)=>qM t (.slice au nu cu) s W (h.past o) hg hm hm2 (hT.past o))
  have eE:YF k i (sb t,s)=YC (sb t,s):=by unfold YF;rw[if_pos he,if_pos hi]
  have eT:Yb k v i (sb t,s)=if YC (sb t,s)=0 then YJ (QN k 2 []) (Q6 k v i) (Q5 v i (sb t)) (PADL (Qy (sb t,s))) else []:=by unfold Yb;rw[eE]
  have eB:Ye k i (sb t,s)=if YC (sb t,s)=0 then Vn (sb t,s) else 0:=by unfold Ye Vn;rw[eE];split <;> rfl
  have eP:Xk (sb t,s)=if YC (sb t,s)=0 then PADL (Qy (sb t,s)) else []:=rfl
  have h8:U8 (Qy (sb t,s)):=XT ⟨Kr t,hg⟩
  by_cases h0:YC (sb t,s)=0
  ·obtain⟨q1,q2,q3,q4⟩:=ZD h0
   rw[QS] at q1;rw[if_pos h0] at eT eB eP;rw[eE,h0,eT,eB];simp only[h0,eP] at P;have hk:U8 (PADL (Qy (sb t,s))):=ZC h8
   have hpl:(PADL (Qy (sb t,s))).length<=4194304:=by rw[KX _ q4];exact VX _
   have BS:=Qa (λW=>TD v i t hi (by omega) W)
   have hbl:(Q5 v i (sb t)).length<=200:=by have:=NS (v:=v) (i:=i) (t:=sb t) (by rw[QS];omega);rw[QS] at this;omega
   have hh:U8 (Q5 v i (sb t)):=Mb (Kr t);have hl:=VG (QN k 2 []) (Q6 k v i) (Q5 v i (sb t)) (PADL (Qy (sb t,s)));have kn:KN (QN k 2 []) (Q6 k v i):=⟨We _ _ _,Vt _ _ _⟩;have SL:=Qa (λ(W:World) (a b c d:Value) (h1:Bs .u8 W a (QN k 2 [])) (h2:Bs .u8 W b (Q6 k v i)) (h3:Bs .u8 W c (Q5 v i (sb t))) (n3:NoCap c) (h4:Bs .u8 W d (PADL (Qy (sb t,s))))=>zw a b c d _ _ _ _ kn (Vx _ _ _) (MP _ _ _) hh hk (by omega) (by omega) W h1 h2 h3 n3 h4);simp only[<-hl] at SL;have L:=Qa (And.intro (We k 2 []) (Vt k v i));clear eE eT eB eP h0 q1 q2 q3 q4 hk hpl hbl hh hl kn h8 bk k8 hb h hg hm hm2 hT he hi oA;generalize YJ (QN k 2 []) (Q6 k v i) (Q5 v i (sb t)) (PADL (Qy (sb t,s)))=Y at *;generalize QN k 2 []=k1 at *;generalize Q6 k v i=k2 at *;generalize Q5 v i (sb t)=X at *;generalize PADL (Qy (sb t,s))=p at *;generalize Vn (sb t,s)=n at *;go_enter func29,ntmps29;go_wp2_with fail;refine A.o.mono ?_;rintro e w1 ⟨a,b,rfl,h6,h5,o1⟩;have G1:=o1.heap G0.o (λf=>f);have hf:=VH G1;obtain⟨c0,c1,_,_⟩:=Qw G1;have P1:=Qa (P.o w1 (OA.o.same o1));have B1:Hid (Bs .u8 w1 a k1∧Bs .u8 w1 b k2):=⟨Bs.of_own (k:=.u8) (E:=5) (lo:=(w.alloc (.cells #[.string t,.slice au nu cu] 42)).heap.size) (by rw[L.o.1];exact h6),Bs.of_own (k:=.u8) (E:=5) (lo:=(w.alloc (.cells #[.string t,.slice au nu cu] 42)).heap.size) (by rw[L.o.2];exact h5)⟩;have O1:=Qa (OA.o.same o1);have H1:=Qa G1;clear h6 h5 o1 A P OA G0 G1 L;go_wp2_with fail;refine P1.o.mono ?_;rintro e w2 ⟨x2,n2,rfl,h7,hd,o2⟩;obtain rfl:=hd trivial;have G2:=o2.heap H1.o (λf=>f);clear c0 c1 hf;obtain⟨c0,c1,_,_⟩:=Qw G2;have hj:=Qa (BS.o w2);have B2:=Qa (And.intro (B1.o.1.past o2) (And.intro (B1.o.2.past o2) (show Bs .u8 w2 x2 p from Bs.of_own h7)));have O2:=Qa (O1.o.same o2);clear h7 hd o2 P1 B1 O1 G2 H1 BS;go_wp2_with fail;refine hj.o.mono ?_;rintro e w3 ⟨x3,rfl,h9,o3⟩;have hn:=Qa (SL.o w3 a b x3 x2 (B2.o.1.past o3) (B2.o.2.1.past o3) (Bs.of_own h9) (NoCap.of_own h9) (B2.o.2.2.past o3));have O3:=Qa (O2.o.same o3);clear h9 o3 hj B2 O2 SL c0 c1;go_wp2_with fail;refine hn.o.mono ?_;rintro e w4 ⟨x4,rfl,ha,o4⟩;have F:=Qa (And.intro (Qr ha O3.o.size) (O3.o.same o4));clear ha o4 hn O3;go_wp2;exact bodyPost_ret (Uq rfl _ _ _) rfl ⟨_,rfl,F.o⟩
  ·rw[if_neg h0] at eT eB eP
   rw[eE,eT,eB]
   have hne:(YC (sb t,s) != 0)=true:=by simpa using h0
   clear eE eT eB eP h8 bk k8 hb h hg hm hm2 hT he hi oA;generalize YC (sb t,s)=c at *;clear h0;go_enter func29,ntmps29;go_wp2_with fail;refine A.o.mono ?_;rintro e w1 ⟨a,b,rfl,h6,h5,o1⟩;have G1:=o1.heap G0.o (λf=>f);have hf:=VH G1;obtain⟨c0,c1,_,_⟩:=Qw G1;have P1:=Qa (P.o w1 (OA.o.same o1));have O1:=Qa (OA.o.same o1);clear h6 h5 o1 A P OA G0 G1;go_wp2_with fail;refine P1.o.mono ?_;rintro e w2 ⟨x2,n2,rfl,h7,hd,o2⟩;have O2:=Qa (O1.o.same o2);clear h7 hd o2 P1 O1;go_wp2;exact bodyPost_ret (Uq rfl _ _ _) rfl ⟨_,rfl,World.ownsRow_nil _ _ _ _,O2.o⟩
 ·have A:=Qa (yL vk k v i k8 _ (bk.past oA) hb h1)
  have eE:YF k i (sb t,s)=1:=by
   unfold YF
   by_cases q:k.length=32
   ·rw[if_pos q,if_neg (λz=>h1 ⟨q,z⟩)]
   ·rw[if_neg q]
  have eT:Yb k v i (sb t,s)=[]:=by unfold Yb;rw[eE];rfl
  have eB:Ye k i (sb t,s)=0:=by unfold Ye;rw[eE];rfl
  rw[eE,eT,eB];clear eE eT eB bk k8 hb h hg hm hm2 hT h1 oA G0;go_enter func29,ntmps29;go_wp2_with fail;refine A.o.mono ?_;rintro e w1 ⟨rfl,o1⟩;have O1:=Qa (OA.o.same o1);clear o1 A OA;go_wp2;exact bodyPost_ret (Uq rfl _ _ _) rfl ⟨_,rfl,World.ownsRow_nil _ _ _ _,O1.o⟩
theorem Tryz.sizeStt:(prog.info? 25).map (·.size)=some 2:=by kernel_rfl
theorem Vr {b:Nat} {x y:Value} (h:W.heap[b]? = some (.cells #[x,y] 25 (0,0))):(loadVar 25 ⟨b,0,none⟩).run prog W=.ok (.agg #[x,y]) W :=
 run_loadVar_row W b 25 25 _ (0,0) _ h underlying25 rfl Tryz.sizeStt
theorem XL (x:Value) (ao:Option Addr) (n c:Nat) (w:World) :
 Calls prog 27 #[.agg #[x,.slice ao n c]] w λe w'=>e=.returned (.bool (decide (0<n)))∧N0 w w':=by
 have O:=Qa ((Only.refl (λ_=>False) w).alloc (.cells #[x,.slice ao n c] 25))
 have e:decide ((0:Int)<(n:Int))=decide (0<n):=by simp
 go_enter func27,ntmps27;go_wp2;go_ret;exact⟨by simp,O.o⟩
theorem Hk (x:Value) (ao:Option Addr) (n c:Nat) (w:World) :
 Calls prog 20 #[.agg #[x,.slice ao n c]] w λe w'=>e=.returned (.bool (decide (n=0∨n=32)))∧N0 w w':=by
 have G0:=Qa (heap_alloc_new w (.cells #[x,.slice ao n c] 25));have O:=Qa ((Only.refl (λ_=>False) w).alloc (.cells #[x,.slice ao n c] 25));have A:=Qa (XL x ao n c (w.alloc (.cells #[x,.slice ao n c] 25)))
 by_cases h:0<n
 ·rw[Qc h] at A
  have e:decide (n=0∨n=32)=((n:Int) == 32):=by
   by_cases q:n=32
   ·subst q;rfl
   ·rw[Qh (by omega)];symm;rw[beq_eq_false_iff_ne];omega
  rw[e];obtain⟨b,hb⟩:=EX (((n:Int) == 32));rw[<-hb];have HB:=Qa hb.symm;clear h e hb;go_enter func20,ntmps20;go_wp2_with fail;refine A.o.mono ?_;rintro e w1 ⟨rfl,o1⟩;obtain⟨c0,c1,_,_⟩:=Qw (o1.heap G0.o (λf=>f));have F:=Qa (O.o.same o1);clear A O o1 G0;go_wp2;go_ret;exact⟨by rw[<-HB.o];simp,F.o⟩
 ·rw[Qh h] at A
  rw[Qc (by omega:n=0∨n=32)];clear h;go_enter func20,ntmps20;go_wp2_with fail;refine A.o.mono ?_;rintro e w1 ⟨rfl,o1⟩;have F:=Qa (O.o.same o1);clear A O o1 G0;go_wp2;go_ret;exact⟨rfl,F.o⟩
theorem A7 (am:Option Addr) (M cm p:Nat) (ao:Option Addr) (n c v q:Nat) (w:World) :
 Calls prog 12 #[.slice am M cm,.agg #[.int .u64 p,.slice ao n c],.int .u64 v,.int .i64 q] w λe w' =>
  e=.returned (.int .i64 (if M=32∧(n=0∨n=32)∧v≠18446744073709551615 then (if 0<n∧v<=p then 6 else if 1048576<q then 4 else 0) else 1))∧N0 w w':=by
 have G0:=Qa (heap_alloc_new w (.cells #[.int .u64 p,.slice ao n c] 25));have O:=Qa ((Only.refl (λ_=>False) w).alloc (.cells #[.int .u64 p,.slice ao n c] 25));have R:=Qa (Hk (.int .u64 p) ao n c (w.alloc (.cells #[.int .u64 p,.slice ao n c] 25)));have A:=Qa (λW=>XL (.int .u64 p) ao n c W)
 by_cases hM:M=32
 ·have d1:((M:Int) != 32)=false:=by subst hM;rfl
  by_cases hr:n=0∨n=32
  ·rw[Qc hr] at R
   by_cases hv:v=18446744073709551615
   ·have d2:((v:Int) == 18446744073709551615)=true:=by subst hv;rfl
    rw[if_neg (λh=>h.2.2 hv)];clear hM hr hv A;go_enter func12,ntmps12;go_wp2_with fail;refine R.o.mono ?_;rintro e w1 ⟨rfl,o1⟩;have F:=Qa (O.o.same o1);clear R O o1 G0;go_wp2;go_ret;exact⟨rfl,F.o⟩
   ·have d2:((v:Int) == 18446744073709551615)=false:=by rw[beq_eq_false_iff_ne];omega
    rw[if_pos ⟨hM,hr,hv⟩];obtain⟨t,ht⟩:=EX (decide (0<n));simp only[<-ht] at A
    have e0:(if 0<n∧v<=p then (6:Int) else if 1048576<q then 4 else 0)=if t=true∧v<=p then 6 else if 1048576<q then 4 else 0:=by rw[ht];simp
    rw[e0];clear hM hr hv ht e0
    by_cases h1:t=true∧v<=p
    ·obtain⟨rfl,h2⟩:=h1
     rw[if_pos ⟨rfl,h2⟩];have d3:decide (v<=p)=true:=Qc h2;have d4:decide ((v:Int)<=(p:Int))=true:=Qc (by omega);clear h2;go_enter func12,ntmps12;go_wp2_with fail;refine R.o.mono ?_;rintro e w1 ⟨rfl,o1⟩;have G1:=o1.heap G0.o (λf=>f);obtain⟨c0,c1,_,_⟩:=Qw G1;have A1:=Qa (A.o w1);have F:=Qa (O.o.same o1);have H1:=Qa G1;clear R O o1 G0 G1 A;go_wp2_with fail;refine A1.o.mono ?_;rintro e w2 ⟨rfl,o2⟩;clear c0 c1;obtain⟨c0,c1,_,_⟩:=Qw (o2.heap H1.o (λf=>f));have F2:=Qa (F.o.same o2);clear F o2 A1 H1;go_wp2;go_ret;exact⟨rfl,F2.o⟩
    ·rw[if_neg h1]
     obtain⟨z,hz⟩:=EX (decide (1048576<q))
     have hz2:decide ((1048576:Int)<(q:Int))=z:=by rw[hz];exact decide_eq_decide.2 (by omega)
     have e0:(if 1048576<q then (4:Int) else 0)=if z=true then 4 else 0:=by rw[hz];simp
     rw[e0];have hz3:=hz.symm;clear e0 hz
     cases ht:t with
     | false =>
      subst ht
      cases z
      all_goals (
       clear h1;go_enter func12,ntmps12;go_wp2_with fail;refine R.o.mono ?_;rintro e w1 ⟨rfl,o1⟩;have G1:=o1.heap G0.o (λf=>f);obtain⟨c0,c1,_,_⟩:=Qw G1;have A1:=Qa (A.o w1);have F:=Qa (O.o.same o1);clear R O o1 G0 G1 A;go_wp2_with fail;refine A1.o.mono ?_;rintro e w2 ⟨rfl,o2⟩;have F2:=Qa (F.o.same o2);clear F o2 A1;go_wp2;go_ret
       exact⟨rfl,F2.o⟩)
     | true =>
      subst ht;have d3:decide (v<=p)=false:=Qh (λh=>h1 ⟨rfl,h⟩);have d4:decide ((v:Int)<=(p:Int))=false:=Qh (λh=>h1 ⟨rfl,by omega⟩)
      cases z
      all_goals (
       clear h1;go_enter func12,ntmps12;go_wp2_with fail;refine R.o.mono ?_;rintro e w1 ⟨rfl,o1⟩;have G1:=o1.heap G0.o (λf=>f);obtain⟨c0,c1,_,_⟩:=Qw G1;have A1:=Qa (A.o w1);have F:=Qa (O.o.same o1);have H1:=Qa G1;clear R O o1 G0 G1 A;go_wp2_with fail;refine A1.o.mono ?_;rintro e w2 ⟨rfl,o2⟩;clear c0 c1;obtain⟨c0,c1,_,_⟩:=Qw (o2.heap H1.o (λf=>f));have F2:=Qa (F.o.same o2);clear F o2 A1 H1;go_wp2;go_ret
       exact⟨rfl,F2.o⟩)
  ·rw[Qh hr] at R
   rw[if_neg (λh=>hr h.2.1)];clear hM hr A;go_enter func12,ntmps12;go_wp2_with fail;refine R.o.mono ?_;rintro e w1 ⟨rfl,o1⟩;have F:=Qa (O.o.same o1);clear R O o1 G0;go_wp2;go_ret;exact⟨rfl,F.o⟩
 ·have d1:((M:Int) != 32)=true:=by rw[bne_iff_ne];omega
  rw[if_neg (λh=>hM h.1)];clear hM A R G0;go_enter func12,ntmps12;go_wp2;go_ret;exact⟨rfl,O.o⟩
theorem uN (x vr:Value) (r:LI) (w:World) (hr:Bs .u8 w vr r) (nr:NoCap vr) :
 Calls prog 15 #[.agg #[x,vr]] w λe w'=>∃u,e=.returned u∧Bs .u8 w' u (WQ r)∧NoCap u∧N0 w w':=by
 obtain⟨ao,c,rfl⟩:=hr.len;have G0:=Qa (heap_alloc_new w (.cells #[x,.slice ao r.length c] 25));have oA:N0 w (w.alloc (.cells #[x,.slice ao r.length c] 25)):=(Only.refl _ _).alloc _;have A:=Qa (XL x ao r.length c (w.alloc (.cells #[x,.slice ao r.length c] 25)));have O:=Qa oA;have B:=Qa (And.intro (hr.past oA) nr)
 by_cases h:r.length=0
 ·rw[Qh (by omega:¬0<r.length)] at A
  have e:WQ r=List.replicate 32 0:=if_pos h;rw[e];have MK:=Qa (λW=>Hw W 32 (by omega));obtain⟨n,hn⟩:=EX r.length;rw[<-hn] at A O G0 ⊢;clear hr nr h e B hn oA;go_enter func15,ntmps15;go_wp2_with fail;refine A.o.mono ?_;rintro e w1 ⟨rfl,o1⟩;obtain⟨wm,hmk,h0,om⟩:=MK.o w1;rw[show ((32:Nat):Int)=32 from rfl] at hmk;have F:=Qa (And.intro (h0.bs 32 (by simp)) (O.o.same (o1.same om)));clear A O o1 G0 MK h0 om;go_wp2;go_ret;exact⟨_,rfl,F.o.1,NoCap.some _ _ _,F.o.2⟩
 ·rw[Qc (by omega:0<r.length)] at A
  have e:WQ r=r:=if_neg h;rw[e];obtain⟨n,hn⟩:=EX r.length;rw[<-hn] at A O G0 B ⊢;clear hr nr h e hn oA;go_enter func15,ntmps15;go_wp2_with fail;refine A.o.mono ?_;rintro e w1 ⟨rfl,o1⟩;obtain⟨c0,c1,_,_⟩:=Qw (o1.heap G0.o (λf=>f));have F:=Qa (And.intro (B.o.1.past o1) (And.intro B.o.2 (O.o.same o1)));clear A O o1 G0 B;go_wp2;go_ret;exact⟨_,rfl,F.o.1,F.o.2⟩
theorem Tryz.infoRows:(prog.info? 22).map (λi=>(i.zero,i.size,i.bytes))=some (some (.slice none 0 0),1,24):=by kernel_rfl
theorem jn (w:World) (t:TypeId) (vs:List Value) {base:Nat} (hb:base<=w.heap.size) (hl:vs.length<=maxLen):(w.alloc (.cells vs.toArray t)).ownsRow base t 1 (.slice (some ⟨w.heap.size,0,none⟩) vs.length vs.length) vs.length vs :=
 ⟨(Nat.mul_one _).symm,.inr ⟨w.heap.size,vs.length,vs.toArray,rfl,hb,Blk.new w t vs,Nat.le_refl _,hl,by rw[List.size_toArray,Nat.mul_one],by rw[Nat.mul_one];exact List.take_length⟩⟩
def VS (w:World) (u:Value) (ys:List Value):Prop :=
 ∃ao cap,u=.slice ao ys.length cap∧NoCap u∧(∀y∈ys,y.oneCell'=true)∧(ao=none->ys=[])∧∀ad,ao=some ad->∀j y,ys[j]? = some y->w.cell? (ad.add j)=some y
theorem VS.of_own {lo n:Nat} {e:TypeId} {u:Value} {ys:List Value} (h:w.ownsRow lo e 1 u n ys) (h1:∀y∈ys,y.oneCell'=true):VS w u ys:=by
 have hl:=h.1
 rcases h.2 with ⟨rfl,h0⟩ | ⟨g,cap,cur,rfl,hb,hg,hc,r⟩
 ·have:ys=[]:=List.eq_nil_of_length_eq_zero (by omega)
  subst this;exact⟨none,0,rfl,NoCap.nil,h1,λ_=>rfl,λad e=>by cases e⟩
 ·refine⟨_,cap,by rw[show ys.length=n by omega],NoCap.some _ _ _,h1,λe=>by (cases e),λad e j y hy=>?_⟩
  cases e
  have hj:=(List.getElem?_eq_some_iff.1 hy).1;have:=h.cellAt j (by omega);rw[Go.WideShapes.add_plain,Nat.zero_add,this,hy]
theorem In {P:Program} {w:World} {o:Oper} {a:Act} {K:Act->World->Prop} {Q:Exit->Act->World->Prop} (s x:Operand) (t:TypeId)
 (ho:o.op=.call { callee:=.builtin .append,args:=#[s,x],argTypes:=#[t,t] })
 (base:Nat) (e:TypeId) (i:TypeInfo) (z:Value) (bytes:Nat) (ht:P.underlying t=some (.slice e)) (hi:P.info? e=some i) (hz:i.zero=some z)
 (hsize:i.size=1) (hby:i.bytes=bytes) (hzs:z.cells.size=1)
 (v:Value) (n:Nat) (xs:List Value) (hs:a.eval s=v) (hown:w.ownsRow base e 1 v n xs)
 (u:Value) (ys:List Value) (hx:a.eval x=u) (hb:VS w u ys)
 (h63:n+ys.length<=maxLen) (hbytes:(n+ys.length)*bytes<=140737488355328) (hbase:base<=w.heap.size)
 (h:∀v' w',w'.ownsRow base e 1 v' (n+ys.length) (xs++ys)->w.grownBy w' v.ownBlock->K (a.put o.dst v') w') :
 Oper.wp P o a w K Q:=by
 obtain⟨ao,cap,rfl,hnc,h4,h3,h2⟩:=hb
 cases ao with
 | none =>
  have h0:ys=[]:=h3 rfl;subst h0;have hc:cap=0:=hnc _ _ rfl;subst hc;have h1:=run_append_owned_none (P:=P) (w:=w) base t o.type e i 1 ht hi v n xs hown;have hK:=h v w (by simpa using hown) (World.grownBy.refl _ _);unfold Oper.wp;simp[execOp,ho,resolve,invoke,builtin,hs,hx,h1,Result.andThen];exact hK
 | some ad =>
  obtain⟨v',w',h1,r1,r2,_⟩:=run_append_own_at (P:=P) w base t o.type e i z 1 bytes ht hi hz hsize hby hzs (by omega) v n xs hown ad ys.length cap ys (by simp) (h2 ad rfl) h4 h63 hbytes hbase;unfold Oper.wp;simp[execOp,ho,resolve,invoke,builtin,hs,hx,h1,Result.andThen];exact h v' w' r1 r2
theorem Mx {P:Program} (w:World) {ops:Array Oper} {rest:List Oper} {o:Oper} {a:Act} {Q:Exit->Act->World->Prop} (hw:Region.wanted o (yielded ops a.tmps)=true) (s x:Operand) (t:TypeId)
 (ho:o.op=.call { callee:=.builtin .append,args:=#[s,x],argTypes:=#[t,t] })
 (base:Nat) (e:TypeId) (i:TypeInfo) (z:Value) (bytes:Nat) (ht:P.underlying t=some (.slice e)) (hi:P.info? e=some i) (hz:i.zero=some z)
 (hsize:i.size=1) (hby:i.bytes=bytes) (hzs:z.cells.size=1)
 (v:Value) (n:Nat) (xs:List Value) (hs:a.eval s=v) (hown:w.ownsRow base e 1 v n xs)
 (u:Value) (ys:List Value) (hx:a.eval x=u) (hb:VS w u ys)
 (h63:n+ys.length<=maxLen) (hbytes:(n+ys.length)*bytes<=140737488355328) (hbase:base<=w.heap.size)
 (h:∀v' w',w'.ownsRow base e 1 v' (n+ys.length) (xs++ys)->w.grownBy w' v.ownBlock->wpList P ops Q rest (a.put o.dst v') w') :
 wpList P ops Q (o :: rest) a w:=by
 refine wpList_step λK hK=>?_
 rw[if_pos hw];exact In s x t ho base e i z bytes ht hi hz hsize hby hzs v n xs hs hown u ys hx hb h63 hbytes hbase (λv' w' h1 h2=>hK _ _ (h v' w' h1 h2))
def LO (w:World) (vs:List Value) (ls:List (LI)):Prop:=vs.length=ls.length∧∀j u,vs[j]? = some u->∃lo,w.ownsRow lo 5 1 u (ls.getD j []).length (bl (ls.getD j []))
theorem LO.nil (w:World):LO w [] []:=⟨rfl,λj u h=>by simp at h⟩
theorem LO.one {lo:Nat} {u:Value} (h:w.ownsRow lo 5 1 u l.length (bl l)):LO w [u] [l]:=⟨rfl,λj v hv=>by
 cases j with
 | zero=>simp at hv;subst hv;exact⟨lo,h⟩
 | succ j=>simp at hv⟩
theorem LO.app {vs us:List Value} {ls ms:List (LI)} (h:LO w vs ls) (k:LO w us ms):LO w (vs++us) (ls++ms):=⟨by rw[Qb,Qb,h.1,k.1],λj u hu=>by
 have hl:=h.1
 by_cases hj:j<vs.length
 ·rw[List.getElem?_append_left hj] at hu
  rw[Qd,List.getElem?_append_left (by omega),<-Qd];exact h.2 j u hu
 ·rw[List.getElem?_append_right (by omega)] at hu
  rw[Qd,List.getElem?_append_right (by omega),<-Qd,<-hl]
  exact k.2 _ u hu⟩
theorem LO.past {vs:List Value} (h:LO w vs ls) (o:N0 w w'):LO w' vs ls:=⟨h.1,λj u hu=>by
 obtain⟨lo,h1⟩:=h.2 j u hu
 exact⟨lo,o.own h1 (λ_ _ f=>f)⟩⟩
theorem LO.grown {vs:List Value} (h:LO w vs ls) {base n:Nat} {v:Value} {xs:List Value} (hv:w.ownsRow base 22 1 v n xs) (g:w.grownBy w' v.ownBlock):LO w' vs ls:=⟨h.1,λj u hu=>by
 obtain⟨lo,h1⟩:=h.2 j u hu;refine⟨lo,((Only.refl (λk=>v.ownBlock=some k) w).grown g (λ_ _ e=>e)).own h1 (λk hk e=>?_)⟩
 rcases hv.2 with ⟨rfl,_⟩ | ⟨b,cap,cur,rfl,_,hb,_⟩
 ·cases e
 ·cases e
  rcases h1.2 with ⟨rfl,_⟩ | ⟨b',cap',cur',rfl,_,hb',_⟩
  ·cases hk
  ·cases hk
   rw[hb] at hb'
   cases hb'⟩
theorem LO.one' {vs:List Value} (h:LO w vs ls):∀y∈vs,y.oneCell'=true:=λy hy=>by
 obtain⟨j,hj,rfl⟩:=List.mem_iff_getElem.1 hy;obtain⟨lo,h1⟩:=h.2 j _ (Qi hj)
 rcases h1.2 with ⟨e,_⟩ | ⟨b,cap,cur,e,_⟩
 ·rw[e];rfl
 ·rw[e];rfl
theorem LO.rl {lo:Nat} {vs:List Value} (h:LO w vs ls) (ho:w.ownsRow lo 22 1 v vs.length vs):RL w v ls∧NoCap v:=⟨RL.of_own (lo:=lo) (vs:=vs) (by rw[<-h.1];exact ho) (λj u hu=>by
 obtain⟨lo',h1⟩:=h.2 j u hu
 exact⟨Bs.of_own (k:=.u8) (E:=5) (lo:=lo') h1,NoCap.of_own h1⟩),NoCap.of_own ho⟩
end Go.Proofs.YteciafpneamfaaaGreatDoor
