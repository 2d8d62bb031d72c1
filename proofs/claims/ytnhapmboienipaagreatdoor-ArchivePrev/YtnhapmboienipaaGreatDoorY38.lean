import Derived.Test.YtnhapmboienipaaGreatDoorY32
import Derived.Test.YtnhapmboienipaaGreatDoorY15
import Derived.Test.YtnhapmboienipaaGreatDoorY5
import Derived.Test.YtnhapmboienipaaGreatDoorY22
import Derived.Test.YtnhapmboienipaaGreatDoorY13
import Derived.Test.YtnhapmboienipaaGreatDoorY20
import Derived.Test.YtnhapmboienipaaGreatDoorY36
import Derived.Test.YtnhapmboienipaaGreatDoorY21
import Derived.Test.YtnhapmboienipaaGreatDoorY29
namespace Go.Proofs.YtnhapmboienipaaGreatDoor
set_option maxHeartbeats 1600000
set_option maxRecDepth 100000
open Go.RowKit _root_.Go.Proofs.Tryz
theorem QmA {n:Nat} (h:n≤16383):(gs n).length≤2:=Nat.le_trans (Qte h) (by rw [QdT (by omega),Qa7 (by omega)];decide)
theorem QmB {tn:List Int} {s:List (Int × Int)} (ht:tn.length≤64) (hs:s.length≤200):(ENCC tn s).1.length≤2+tn.length+3+2*(3+(1+8*s.length)):=by
 rw [QfJ ht (by omega),Qgq (by omega)];have h8:=(Qjc (l:=s.map Prod.fst) (by rw [List.length_map];omega)).1;have h11:=(Qhq (l:=s.map Prod.snd) (by rw [List.length_map];omega)).1;rw [List.length_map] at h8 h11;have g8:=QmA (n:=(e8c (s.map Prod.fst)).length) (by unfold e8c;omega);have g11:=QmA (n:=(e11c (s.map Prod.snd)).length) (by unfold e11c;omega);have gn:=QmA (n:=s.length) (by omega);unfold blk e8c e11c at *;simp only [Yah,Yae] at *;omega
theorem Qpg {tn:List Int} {s:List (Int × Int)} (hs:s.length≤200):(ENCC tn s).1.length≤4000:=by
 by_cases h:64<tn.length
 ·rw [Qdf (.inl h)];simp
 ·have:=QmB (tn:=tn) (s:=s) (by omega) hs;omega
theorem Qkr {tn:List Int} {s:List (Int × Int)} (ht:∀y∈tn,0≤y∧y≤255) (h1:tn.length≤64) (h2:s.length≤65536) (hg:Gs s):∀y∈(ENCC tn s).1,0≤y∧y≤255:=by
 rw [QfJ h1 h2];intro y hy;simp only [List.mem_cons,List.mem_append] at hy
 rcases hy with rfl | hy | hy | hy | hy
 ·omega
 ·exact Qby tn ht y hy
 ·exact Qa8 _ y hy
 ·exact Qby _ (QoS hg.1) y hy
 ·exact Qby _ (QnQ _) y hy
abbrev CHK:=List Int × List (Int × Int)
def BSD (v i:Int) (t:List Int):List Int:=fixL v 8++(fixL i 4++blk t)
def CBY (c:CHK):List Int:=(ENCC c.1 c.2).1
def PCe (c:CHK):Int:=if (ENCC c.1 c.2).2=0 then PDe (CBY c) else (ENCC c.1 c.2).2
def PCt (c:CHK):List Int:=if PCe c=0 then PADL (CBY c) else []
def PCb (c:CHK):Int:=if PCe c=0 then (PBK (CBY c).length:Int) else 0
def SEe (k:List Int) (i:Int) (c:CHK):Int:=if k.length=32 then (if KIX i then PCe c else 1) else 1
def SEt (k:List Int) (v i:Int) (c:CHK):List Int:=if SEe k i c=0 then ASL (KDV k 2 []) (KNC k v i) (BSD v i c.1) (PADL (CBY c)) else []
def SEb (k:List Int) (i:Int) (c:CHK):Int:=if SEe k i c=0 then (PBK (CBY c).length:Int) else 0
structure CG (c:CHK):Prop where
 t8:U8 c.1
 gs:Gs c.2
theorem Qto {v i:Int} {t:List Int} (h:U8 t):U8 (BSD v i t):=fun y hy=>by
 rcases List.mem_append.1 hy with h1 | h1
 ·exact QaG _ _ y h1
 ·rcases List.mem_append.1 h1 with h1 | h1
  ·exact QaG _ _ y h1
  ·exact Qby _ h y h1
theorem Qq9 {v i:Int} {t:List Int} (h:t.length≤1000000):(BSD v i t).length≤t.length+22:=by
 have:=QbL t h;simp only [BSD,Yae,Qag];omega
theorem Qk2 {c:CHK} (h:PCe c=0):c.1.length≤64∧c.2.length≤65536∧(ENCC c.1 c.2).2=0∧(CBY c).length≤4194300:=by
 unfold PCe at h
 by_cases h1:(ENCC c.1 c.2).2=0
 ·rw [if_pos h1] at h
  have h3:¬(64<c.1.length∨65536<c.2.length):=fun q=>by rw [Qdf q] at h1;cases h1
  refine ⟨by omega,by omega,h1,?_⟩;unfold PDe at h
  by_cases h2:(CBY c).length≤4194300
  ·exact h2
  ·rw [if_neg h2] at h;cases h
 ·rw [if_neg h1] at h;exact absurd h h1
theorem Qqq {k:List Int} {i:Int} {c:CHK} (h:SEe k i c=0):k.length=32∧KIX i∧PCe c=0:=by
 unfold SEe at h
 by_cases h1:k.length=32
 ·rw [if_pos h1] at h
  by_cases h2:KIX i
  ·rw [if_pos h2] at h;exact ⟨h1,h2,h⟩
  ·rw [if_neg h2] at h;cases h
 ·rw [if_neg h1] at h;cases h
theorem Qqr {c:CHK} (g:CG c):U8 (CBY c):=by
 by_cases h:64<c.1.length∨65536<c.2.length
 ·unfold CBY;rw [Qdf h];intro y hy;cases hy
 ·exact Qkr g.t8 (by omega) (by omega) g.gs
theorem Qhu {k:List Int} {v i:Int} {c:CHK} (h:SEe k i c=0):(SEt k v i c).length=PLN (CBY c).length+16:=by
 unfold SEt;rw [if_pos h,Qk8,QfW _ (Qk2 (Qqq h).2.2).2.2.2]
theorem Qtp {k:List Int} {v i:Int} {c:CHK} (g:CG c):U8 (SEt k v i c):=by
 unfold SEt
 split
 ·exact Qty _ _ _ _ (QmV (Qqr g))
 ·intro y hy;cases hy
theorem Qqs {k:List Int} {v i:Int} {c:CHK}:(SEt k v i c).length≤4194320:=by
 by_cases h:SEe k i c=0
 ·rw [Qhu h];have:=QmT (CBY c).length;omega
 ·unfold SEt;rw [if_neg h];simp
theorem Qtq {k:List Int} {i:Int} {c:CHK}:0≤SEb k i c∧SEb k i c≤8:=by
 unfold SEb
 split
 ·have:=QqX (CBY c).length;omega
 ·omega
def TKY (m:List Int) (c:CHK):List Int:=KDt m 1 c.1
def CEe (m:List Int) (i:Nat) (c:CHK):Int:=if KDe m c.1=0 then SEe (TKY m c) i c else KDe m c.1
def SAe (m:List Int):Nat→List CHK→Int
 | _,[]=>0
 | i,c :: l=>if CEe m i c=0 then SAe m (i+1) l else CEe m i c
abbrev NCH:CHK:=([],[])
def SAt (m:List Int) (v:Nat) (l:List CHK) (k:Nat):List (List Int):=(List.range k).map fun i=>SEt (TKY m (l.getD i NCH)) v i (l.getD i NCH)
def SAn (m:List Int) (l:List CHK) (k:Nat):List (List Int × Int):=(List.range k).map fun i=>((l.getD i NCH).1,SEb (TKY m (l.getD i NCH)) i (l.getD i NCH))
theorem Qd6 (m:List Int) (v:Nat) (l:List CHK) (k:Nat):(SAt m v l k).length=k:=by simp [SAt]
theorem Qd7 (m:List Int) (l:List CHK) (k:Nat):(SAn m l k).length=k:=by simp [SAn]
theorem Qqt (m:List Int) (v:Nat) (l:List CHK) {k j:Nat} (h:j<k):(SAt m v l k).getD j []=SEt (TKY m (l.getD j NCH)) v j (l.getD j NCH):=by simp [SAt,List.getD_eq_getElem?_getD,h]
theorem Qtr (m:List Int) (l:List CHK) {k j:Nat} (h:j<k):(SAn m l k).getD j ([],0)=((l.getD j NCH).1,SEb (TKY m (l.getD j NCH)) j (l.getD j NCH)):=by simp [SAn,List.getD_eq_getElem?_getD,h]
theorem Qn1 {m:List Int} {l:List CHK} {k:Nat} (h:k<l.length):SAe m k (l.drop k)=if CEe m k (l.getD k NCH)=0 then SAe m (k+1) (l.drop (k+1)) else CEe m k (l.getD k NCH):=by
 rw [List.drop_eq_getElem_cons h,SAe,Yad,Yaf h,Option.getD_some]
theorem Qhv {m:List Int}:∀(l:List CHK) (k:Nat),SAe m k l=0→∀j,j<l.length→CEe m (k+j) (l.getD j NCH)=0
 | [],_,_,j,h=>by simp at h
 | c :: l,k,h0,j,h=>by
  rw [SAe] at h0
  by_cases h1:CEe m k c=0
  ·rw [if_pos h1] at h0
   cases j with
   | zero=>simpa using h1
   | succ j =>
    have:=Qhv l (k+1) h0 j (by simpa using h);rw [show k+(j+1)=k+1+j by omega]
    simpa using this
  ·rw [if_neg h1] at h0;exact absurd h0 h1
theorem Qqu {m:List Int} {i:Nat} {c:CHK} (h:CEe m i c=0):KDe m c.1=0∧SEe (TKY m c) i c=0:=by
 unfold CEe at h
 by_cases h1:KDe m c.1=0
 ·rw [if_pos h1] at h;exact ⟨h1,h⟩
 ·rw [if_neg h1] at h;exact absurd h h1
def RTF (l:List (List Int)):List Int:=TOP (l.map LEAF)
theorem Qbd (l:List (List Int)):(RTF l).length=32:=by
 unfold RTF
 rcases l with _ | ⟨a,_ | ⟨b,t⟩⟩
 ·exact QaR _
 ·rw [Qil (by simp)];exact Qdk _
 ·exact Qsn (by simp)
def PRV (r:List Int):List Int:=if r.length=0 then List.replicate 32 0 else r
theorem Qhw {r:List Int} (h:r.length=0∨r.length=32):(PRV r).length=32:=by
 unfold PRV;split
 ·simp
 ·omega
theorem Qqv {r:List Int} (h:U8 r):U8 (PRV r):=by
 unfold PRV;split
 ·intro y hy;have:=List.eq_of_mem_replicate hy;omega
 ·exact h
abbrev STT:=Nat × List Int
abbrev SRT (s:STT):Prop:=s.2.length=0∨s.2.length=32
def ARm (m:List Int) (r:List Int) (v:Nat) (l:List CHK):MAN:=⟨v,PRV r,SAn m l l.length,RTF (SAt m v l l.length)⟩
def MBe (m:List Int) (s:STT) (v n:Nat):Int :=
 if m.length=32∧SRT s∧v≠18446744073709551615 then (if 0<s.2.length∧v≤s.1 then 6 else if 1048576<n then 4 else 0) else 1
def ARe (m:List Int) (s:STT) (v:Nat) (l:List CHK):Int:=if MBe m s v l.length=0 then SAe m 0 l else MBe m s v l.length
def ARg (m:List Int) (s:STT) (v:Nat) (l:List CHK):List Int:=MENC (ARm m s.2 v l)++MACL (MKY m) (MENC (ARm m s.2 v l))
def ARt (m:List Int) (s:STT) (v:Nat) (l:List CHK):List Int:=if ARe m s v l=0 then blk (ARg m s v l)++(SAt m v l l.length).flatten else []
def ARr (m:List Int) (s:STT) (v:Nat) (l:List CHK):STT:=if ARe m s v l=0 then (v,RTF (SAt m v l l.length)) else (0,[])
theorem QiH {m:List Int} {s:STT} {v n:Nat} (h:MBe m s v n=0):m.length=32∧SRT s∧v≠18446744073709551615∧¬(0<s.2.length∧v≤s.1)∧n≤1048576:=by
 unfold MBe at h
 by_cases h1:m.length=32∧SRT s∧v≠18446744073709551615
 ·rw [if_pos h1] at h
  by_cases h2:0<s.2.length∧v≤s.1
  ·rw [if_pos h2] at h;cases h
  ·rw [if_neg h2] at h
   by_cases h3:1048576<n
   ·rw [if_pos h3] at h;cases h
   ·exact ⟨h1.1,h1.2.1,h1.2.2,h2,by omega⟩
 ·rw [if_neg h1] at h;cases h
theorem QiI {m:List Int} {s:STT} {v:Nat} {l:List CHK} (h:ARe m s v l=0):MBe m s v l.length=0∧SAe m 0 l=0:=by
 unfold ARe at h
 by_cases h1:MBe m s v l.length=0
 ·rw [if_pos h1] at h;exact ⟨h1,h⟩
 ·rw [if_neg h1] at h;exact absurd h h1
theorem Qk3 (l:List (List Int)):R8 (l.map LEAF):=fun x hx=>by
 obtain ⟨a,_,rfl⟩:=List.mem_map.1 hx;exact ⟨Qfh _,by rw [Qdk];omega⟩
theorem QiJ (l:List (List Int)):U8 (RTF l):=(Qg0 (Qk3 l)).1
theorem Qqw {m:List Int} {l:List CHK} (hl:∀c∈l,CG c) {k:Nat}:∀e∈SAn m l k,U8 e.1:=fun e he=>by
 obtain ⟨i,hi,rfl⟩:=List.mem_map.1 he
 show U8 (l.getD i NCH).1
 by_cases h:i<l.length
 ·rw [Yad,Yaf h]
  exact (hl _ (List.getElem_mem h)).t8
 ·rw [Yad,List.getElem?_eq_none (by omega)];intro y hy;cases hy
theorem Qts {m:List Int} {s:STT} {v:Nat} {l:List CHK} (hv:v<18446744073709551616) (s8:U8 s.2) (hl:∀c∈l,CG c):Mok (ARm m s.2 v l):=⟨hv,Qqv s8,QiJ _,Qqw hl⟩
theorem Qc2 {m:List Int} {s:STT} {v:Nat} {l:List CHK} (hv:v<18446744073709551616) (s8:U8 s.2) (hl:∀c∈l,CG c) (h:ARe m s v l=0):MGD (ARm m s.2 v l):=by
 obtain ⟨h1,h2⟩:=QiI h;obtain ⟨_,m2,m3,_,m5⟩:=QiH h1;refine ⟨?_,⟨Qhw m2,Qqv s8⟩,⟨Qbd _,QiJ _⟩,?_,fun e he=>?_⟩
 ·show v<18446744073709551615;omega
 ·show (SAn m l l.length).length≤1048576;rw [Qd7];exact m5
 ·refine ⟨⟨?_,Qqw hl e he⟩,?_⟩
  ·obtain ⟨i,hi,rfl⟩:=List.mem_map.1 he
   have:=Qhv l 0 h2 i (by simpa using hi);rw [Nat.zero_add] at this;exact (Qk2 (Qqq (Qqu this).2).2.2).1
  ·obtain ⟨i,hi,rfl⟩:=List.mem_map.1 he
   exact Qtq
def CUT:List (List Int × Int)→List Int→Option (List (List Int) × List Int)
 | [],r=>some ([],r)
 | e :: es,r=>if r.length<(SZV e.2).toNat+16 then none else
  match CUT es (r.drop ((SZV e.2).toNat+16)) with
  | none=>none
  | some x=>some (r.take ((SZV e.2).toNat+16) :: x.1,x.2)
theorem QiK:∀(es:List (List Int × Int)) (ls:List (List Int)) (t:List Int),es.length=ls.length→(∀j,j<es.length→(ls.getD j []).length=(SZV (es.getD j ([],0)).2).toNat+16)→CUT es (ls.flatten++t)=some (ls,t)
 | [],[],t,_,_=>rfl
 | [],_ :: _,_,h,_=>by simp at h
 | _ :: _,[],_,h,_=>by simp at h
 | e :: es,a :: ls,t,h,hj=>by
  have h0:a.length=(SZV e.2).toNat+16:=by simpa using hj 0 (by simp)
  rw [CUT,if_neg (by simp only [List.flatten_cons,List.append_assoc,Yae];omega),List.flatten_cons,List.append_assoc,List.drop_append_of_le_length (by omega),List.take_append_of_le_length (by omega)];rw [←h0,List.drop_length,List.take_length,List.nil_append,QiK es ls t (by simpa using h) (fun j hj'=>by simpa using hj (j+1) (by simpa using hj'))]
def SPX (b:List Int):Except Int (MAN × List Int × List (List Int)) :=
 if (Qam 268435456 b).2.2≠0 then .error (Qam 268435456 b).2.2
 else if (Qam 268435456 b).1.length<32 then .error 2
 else match MDEC ((Qam 268435456 b).1.take ((Qam 268435456 b).1.length - 32)) with
  | .error e=>.error e
  | .ok m=>match CUT m.es (b.drop (Qam 268435456 b).2.1) with
   | none=>.error 2
   | some x=>if x.2=[] then .ok (m,(Qam 268435456 b).1,x.1) else .error 3
theorem QjW {n:Nat} {x t:List Int} (hx:x.length≤n) (hn:n<18446744073709551616):Qam n (blk x++t)=(x,(blk x).length,0):=by
 unfold Qam blk;have hg:=Qcx x.length (x++t) (by omega);rw [List.append_assoc,hg,if_neg (by omega),if_neg (by simp),if_neg (by simp only;omega),if_neg (by simp only [Yae];omega)];simp only [Prod.mk.injEq,and_true];refine ⟨?_,?_⟩
 ·rw [List.drop_left,show ((x.length:Int)).toNat=x.length by omega,List.take_left]
 ·rw [Yae];omega
theorem Qn2 {m:MAN} {tg:List Int} {ls:List (List Int)} (g:MGD m) (ht:tg.length=32) (hn:(MENC m).length+32≤268435456) (he:m.es.length=ls.length) (hj:∀j,j<m.es.length→(ls.getD j []).length=(SZV (m.es.getD j ([],0)).2).toNat+16) :
  SPX (blk (MENC m++tg)++ls.flatten)=.ok (m,MENC m++tg,ls):=by
 have hl:(MENC m++tg).length=(MENC m).length+32:=by rw [Yae,ht]
 have hb:=QjW (n:=268435456) (x:=MENC m++tg) (t:=ls.flatten) (by omega) (by omega);have hc:=QiK m.es ls [] he hj;rw [List.append_nil] at hc;unfold SPX;rw [show ((268435456:Nat):Int)=268435456 from rfl] at hb;rw [hb,if_neg (by simp),if_neg (by simp only;omega)];simp only;rw [hl,Nat.add_sub_cancel,List.take_left,QgY g,List.drop_left];simp only;rw [hc]
 rfl
theorem QaJ {fn:Func} {a b c:Tmp} (h:fn.results=#[.tmp a,.tmp b,.tmp c]) (tmps:Array Value) (P:Program) (w:World):(results fn tmps).run P w=.ok (.tuple #[tmps.getD a undef,tmps.getD b undef,tmps.getD c undef]) w:=by
 simp [results,h]
theorem Qf9 {W:World} {B:Nat} {v0 v1 v2:Value} {l0 l1 l2:List Int} (hB:W.heap[B]? = some (.cells #[v0,v1,v2] 22 (0,0)))
  (b0:Bs .u8 W v0 l0) (b1:Bs .u8 W v1 l1) (b2:Bs .u8 W v2 l2) (n0:NoCap v0) (n1:NoCap v1) (n2:NoCap v2) (hp:0<l0.length) (hl:(l0++(l1++l2)).length≤140737488355328) :
  Calls prog 25 #[.slice (some ⟨B,0,none⟩) 3 3] W fun e w'=>∃v',e=.returned v'∧w'.ownsRow W.heap.size 5 1 v' (l0++(l1++l2)).length (bl (l0++(l1++l2)))∧Only (fun _=>False) W w':=by
 have hcat:cat (five l0 l1 l2 [] []) 3=l0++(l1++l2):=by simp [cat,List.range_succ,five]
 have:=Qc4 B 3 (five v0 v1 v2 v2 v2) (five l0 l1 l2 [] []) W (by omega) (by omega)
  (fun i hi=>by
   have e:W.cell? ⟨B,i,none⟩=(#[v0,v1,v2]:Array Value)[i]?:=by unfold World.cell?;simp only;rw [hB];rfl
   rw [e]
   match i,hi with
   | 0,_=>rfl
   | 1,_=>rfl
   | 2,_=>rfl)
  (fun i hi=>by
   match i,hi with
   | 0,_=>exact b0
   | 1,_=>exact b1
   | 2,_=>exact b2)
  (fun i hi=>by
   match i,hi with
   | 0,_=>exact n0
   | 1,_=>exact n1
   | 2,_=>exact n2)
  (by rw [hcat];simp only [Yae];omega) (by rw [hcat];exact hl)
 rw [hcat] at this;exact this
theorem QjV (v i:Int) (t:ByteArray) (hi:KIX i) (ht:t.size≤1000000) (w:World) :
  Calls prog 68 #[.int .u64 v,.int .i64 i,.string t] w fun e w'=>∃u,e=.returned u∧w'.ownsRow w.heap.size 5 1 u (BSD v i (sb t)).length (bl (BSD v i (sb t)))∧Only (fun _=>False) w w':=by
 have hw:IntKind.u64.wrap i=i:=by rw [IntKind.wrap_u64];omega
 have A:=Qaa (Qbx v 8 w (by decide));have B:=Qaa (fun W=>Qbx i 4 W (by decide));rw [show ((8:Nat):Int)=8 from rfl,Qag] at A;rw [show ((4:Nat):Int)=4 from rfl,Qag] at B;have hcv:=QcG t;have hlen:=QbL (sb t) (by rw [QaE];exact ht);rw [QaE] at hlen;have HX:Hid (fixL v 8++(fixL i 4++blk (sb t))=BSD v i (sb t)∧(fixL v 8).length=8∧(fixL i 4).length=4∧(blk (sb t)).length≤1000010):=⟨rfl,Qag _ _,Qag _ _,by omega⟩;have K:=Qaa (fun (W:World) (u:Value) (h:Bs .u8 W u (sb t)) (n:NoCap u)=>QcW u (sb t) W h n (by rw [QaE];exact ht));obtain ⟨X,hX⟩:∃X,X=fixL v 8:=⟨_,rfl⟩;obtain ⟨Y,hY⟩:∃Y,Y=fixL i 4:=⟨_,rfl⟩;obtain ⟨Z,hZ⟩:∃Z,Z=blk (sb t):=⟨_,rfl⟩;rw [←hX] at A HX;rw [←hY] at B HX;simp only [←hZ] at K HX;clear hX hY hZ hi ht hlen;go_enter func68,ntmps68;go_wp2_with fail;refine A.out.mono ?_;rintro e w1 ⟨v1,rfl,own1,o1⟩;obtain ⟨a1,c1,rfl⟩:=Qad own1;have B1:=Qaa (B.out w1);have OW1:=Qaa own1;have O1:=Qaa o1;clear own1 o1 A B;go_wp2_with fail;refine B1.out.mono ?_;rintro e w2 ⟨v2,rfl,own2,o2⟩;obtain ⟨a2,c2,rfl⟩:=Qad own2;obtain ⟨c,hc⟩:∃c,c=grownCap w2 t.size 0 5:=⟨_,rfl⟩;have hge:=grownCap_ge w2 t.size 0 5;have hcw:=hcv w2;rw [←hc] at hge hcw;have oz:Only (fun _=>False) w2 (w2.drew.alloc (Qbs t c)):=(Only.refl _ _).drew.alloc _;have K1:=Qaa (K.out (w2.drew.alloc (Qbs t c)) (.slice (some ⟨w2.heap.size,0,none⟩) t.size c) (Qb6 (Qas rfl) (by omega)) (NoCap.some _ _ _));have R:=Qaa (And.intro ((OW1.out:w1.ownsRow w.heap.size 5 1 _ 8 (X.map (Value.int .u8)))) (And.intro own2 (And.intro o2 (And.intro oz (O1.out.same (o2.same oz))))));clear own2 o2 oz B1 OW1 O1 hge hcv hc;go_wp2_with fail;refine K1.out.mono ?_;rintro e w3 ⟨v3,rfl,own3,o3⟩;obtain ⟨a3,c3,rfl⟩:=Qad own3;obtain ⟨r1,r2,r3,r4,r5⟩:=R.out;have oa:Only (fun _=>False) w3 (w3.alloc (.cells #[.slice a1 8 c1,.slice a2 4 c2,.slice a3 Z.length c3] 22)):=(Only.refl _ _).alloc _
 have C:=Qaa (Qf9 (heap_alloc_new w3 (.cells #[.slice a1 8 c1,.slice a2 4 c2,.slice a3 Z.length c3] 22))
  ((Bs.of_own (k:=.u8) (E:=5) (lo:=w.heap.size) (by rw [HX.out.2.1];exact r1)).past (r3.same (r4.same (o3.same oa))))
  ((Bs.of_own (k:=.u8) (E:=5) (lo:=w1.heap.size) (by rw [HX.out.2.2.1];exact r2)).past (r4.same (o3.same oa)))
  ((Bs.of_own (k:=.u8) own3).past oa) (NoCap.of_own r1) (NoCap.of_own r2) (NoCap.of_own own3) (by have:=HX.out.2.1;omega) (by have h1:=HX.out.2.1;have h2:=HX.out.2.2.1;have h3:=HX.out.2.2.2;simp only [Yae];omega))
 rw [HX.out.1] at C;have O3:=Qaa (r5.same (o3.same oa));obtain ⟨m,hm⟩:∃m,m=Z.length:=⟨_,rfl⟩;rw [←hm] at C O3 ⊢;clear own3 o3 oa r1 r2 r3 r4 r5 R K1 K hm;go_wp2_with fail;refine C.out.mono ?_;rintro e w4 ⟨v4,rfl,own4,o4⟩;have F:=Qaa (And.intro (Qaf own4 O3.out.size) (O3.out.same o4));clear own4 o4 C O3;go_wp2;go_ret;exact ⟨_,rfl,F.out⟩
theorem Qtm (vk:Value) (k:List Int) (v i:Int) (k8:U8 k) (w:World) (bk:Bs .u8 w vk k) (h32:k.length=32) (hi:KIX i) :
  Calls prog 65 #[vk,.int .u64 v,.int .i64 i] w fun e w'=>∃a b,e=.returned (.tuple #[a,b,.int .i64 0])∧w'.ownsRow w.heap.size 5 1 a 32 (bl (KDV k 2 []))∧w'.ownsRow w.heap.size 5 1 b 12 (bl (KNC k v i))∧Only (fun _=>False) w w':=by
 have A:=Qaa (QgT vk k k8 w bk)
 have e1:KDt k 2 []=KDV k 2 []:=by unfold KDt;rw [if_pos h32];rfl
 have e2:KNt k v i=KNC k v i:=by unfold KNt;rw [if_pos h32,if_pos hi]
 have e3:KNe k i=0:=by unfold KNe;rw [if_pos h32,if_pos hi]
 have B:=Qaa (fun W (o:Only (fun _=>False) w W)=>QgU vk k v i k8 W (bk.past o) ⟨by omega,by omega⟩);rw [Qji h32,e1,QcX] at A;simp only [e2,e3,QfM] at B;clear e1 e2 e3 k8 bk h32 hi;go_enter func65,ntmps65;go_wp2_with fail;refine A.out.mono ?_;rintro e w1 ⟨a,rfl,own1,o1⟩;have B1:=Qaa (B.out w1 o1);have F1:=Qaa (And.intro own1 o1);clear own1 o1 A B;go_wp2_with fail;refine B1.out.mono ?_;rintro e w2 ⟨b,rfl,own2,o2⟩;have F2:=Qaa (And.intro (o2.own F1.out.1 (fun _ _ f=>f)) (And.intro (Qaf own2 F1.out.2.size) (F1.out.2.same o2)));clear own2 o2 B1 F1;go_wp2;exact bodyPost_ret (QaJ rfl _ _ _) rfl ⟨_,_,rfl,F2.out⟩
theorem Qtn (vk:Value) (k:List Int) (v i:Int) (k8:U8 k) (w:World) (bk:Bs .u8 w vk k) (hb:-9223372036854775808≤i∧i≤9223372036854775807) (h:¬(k.length=32∧KIX i)) :
  Calls prog 65 #[vk,.int .u64 v,.int .i64 i] w fun e w'=>e=.returned (.tuple #[.slice none 0 0,.slice none 0 0,.int .i64 1])∧Only (fun _=>False) w w':=by
 have A:=Qaa (QgT vk k k8 w bk)
 by_cases h32:k.length=32
 ·have hi:¬KIX i:=fun q=>h ⟨h32,q⟩
  have e3:KNe k i=1:=by unfold KNe;rw [if_pos h32,if_neg hi]
  have B:=Qaa (fun W (o:Only (fun _=>False) w W)=>QgU vk k v i k8 W (bk.past o) hb);rw [Qji h32] at A;simp only [e3] at B;clear e3 k8 bk h32 hi hb h;go_enter func65,ntmps65;go_wp2_with fail;refine A.out.mono ?_;rintro e w1 ⟨a,rfl,own1,o1⟩;have B1:=Qaa (B.out w1 o1);have F1:=Qaa o1;clear own1 o1 A B;go_wp2_with fail;refine B1.out.mono ?_;rintro e w2 ⟨b,rfl,own2,o2⟩;have F2:=Qaa (F1.out.same o2);clear own2 o2 B1 F1;go_wp2;exact bodyPost_ret (QaJ rfl _ _ _) rfl ⟨rfl,F2.out⟩
 ·rw [Qmp h32] at A
  clear k8 bk h32 hb h;go_enter func65,ntmps65;go_wp2_with fail;refine A.out.mono ?_;rintro e w1 ⟨a,rfl,own1,o1⟩;have F1:=Qaa o1;clear own1 o1 A;go_wp2;exact bodyPost_ret (QaJ rfl _ _ _) rfl ⟨rfl,F1.out⟩
theorem Qn0 (t:ByteArray) (u:Value) (s:List (Int × Int)) (w:World) (h:Sps w u s) (hg:Gs s) (hm:s.length≤maxLen) (hm2:t.size≤maxLen) (hT:Tab w) :
  Calls prog 66 #[.agg #[.string t,u]] w fun e w'=>∃v n,e=.returned (.tuple #[v,.int .i64 n,.int .i64 (PCe (sb t,s))])∧w'.ownsRow w.heap.size 5 1 v (PCt (sb t,s)).length (bl (PCt (sb t,s)))∧(PCe (sb t,s)=0→n=PCb (sb t,s))∧Only (fun _=>False) w w':=by
 obtain ⟨au,nu,cu,rfl⟩:∃a n c,u=.slice a n c:=by obtain ⟨a,c,e,_⟩:=h;exact ⟨_,_,_,e⟩
 have oA:Only (fun _=>False) w (w.alloc (.cells #[.string t,.slice au nu cu] 50)):=(Only.refl _ _).alloc _;have A:=Qaa (QgV t (.slice au nu cu) s (w.alloc (.cells #[.string t,.slice au nu cu] 50)) (h.past oA) hg hm hm2 (hT.past oA));have OA:=Qaa oA;obtain ⟨b,hb⟩:∃b,b=CBY (sb t,s):=⟨_,rfl⟩;obtain ⟨c,hc⟩:∃c,c=(ENCC (sb t) s).2:=⟨_,rfl⟩;rw [←hc,show (ENCC (sb t) s).1=b from hb.symm] at A
 have eE:PCe (sb t,s)=if c=0 then PDe b else c:=by rw [hc,hb];rfl
 have eT:PCt (sb t,s)=if PCe (sb t,s)=0 then PADL b else []:=by rw [hb];rfl
 have eB:PCb (sb t,s)=if PCe (sb t,s)=0 then (PBK b.length:Int) else 0:=by rw [hb];rfl
 clear h hg hm hm2 hT oA hb hc
 by_cases h0:c=0
 ·rw [if_pos h0] at eE
  subst h0;have K:=Qaa (fun W=>QdH (b.length:Int) W)
  by_cases h1:b.length≤4194300
  ·have e0:PDe b=0:=by unfold PDe;rw [if_pos h1]
   rw [e0] at eE;rw [eE,if_pos rfl] at eT eB;have P:=Qaa (fun (W:World) (v:Value) (h:Bs .u8 W v b)=>Qst v b W h)
   have q1:BKE (b.length:Int)=0:=by unfold BKE;rw [if_neg (by omega),if_neg (by omega)]
   have q2:BKV (b.length:Int)=PBK b.length:=by unfold BKV;rw [if_pos (by omega)];rfl
   simp only [e0,show PDt b=PADL b by unfold PDt;rw [if_pos h1]] at P;simp only [q1,q2] at K;rw [eE,eT];rw [←eB] at K;clear h1 e0 q1 q2 eE eT eB;obtain ⟨n,hn⟩:∃n,n=b.length:=⟨_,rfl⟩;obtain ⟨bk,hbk⟩:∃k,k=PCb (sb t,s):=⟨_,rfl⟩;rw [←hbk] at K ⊢;rw [←hn] at K A;clear hbk;go_enter func66,ntmps66;go_wp2_with fail;refine A.out.mono ?_;rintro e w1 ⟨v1,rfl,own1,o1⟩;have K1:=Qaa (K.out w1);have P1:=Qaa (fun W (o:Only (fun _=>False) w1 W)=>P.out W v1 ((Bs.of_own (k:=.u8) (E:=5) (lo:=(w.alloc (.cells #[.string t,.slice au nu cu] 50)).heap.size) (by rw [←hn];exact own1)).past o));obtain ⟨a1,c1,rfl⟩:=Qad own1;have O1:=Qaa (OA.out.same o1);clear own1 o1 A K P OA hn;go_wp2_with fail;refine K1.out.mono ?_;rintro e w2 ⟨rfl,o2⟩;have P2:=Qaa (P1.out w2 o2);have O2:=Qaa (O1.out.same o2);clear o2 P1 K1 O1;go_wp2_with fail;refine P2.out.mono ?_;rintro e w3 ⟨v3,rfl,own3,o3⟩;have F:=Qaa (And.intro (Qaf own3 O2.out.size) (O2.out.same o3));clear own3 o3 P2 O2;go_wp2;exact bodyPost_ret (QaJ rfl _ _ _) rfl ⟨_,_,rfl,F.out.1,fun _=>rfl,F.out.2⟩
  ·have e0:PDe b=4:=by unfold PDe;rw [if_neg h1]
   rw [e0] at eE;rw [eE,if_neg (by decide)] at eT
   have q1:BKE (b.length:Int)=4:=by unfold BKE;rw [if_neg (by omega),if_pos (by omega)]
   simp only [q1] at K;rw [eE,eT];clear h1 e0 q1 eE eT eB;obtain ⟨n,hn⟩:∃n,n=b.length:=⟨_,rfl⟩;rw [←hn] at K A;clear hn;go_enter func66,ntmps66;go_wp2_with fail;refine A.out.mono ?_;rintro e w1 ⟨v1,rfl,own1,o1⟩;have K1:=Qaa (K.out w1);obtain ⟨a1,c1,rfl⟩:=Qad own1;have O1:=Qaa (OA.out.same o1);clear own1 o1 A K OA;go_wp2_with fail;refine K1.out.mono ?_;rintro e w2 ⟨rfl,o2⟩;have O2:=Qaa (O1.out.same o2);clear o2 K1 O1;go_wp2;exact bodyPost_ret (QaJ rfl _ _ _) rfl ⟨_,_,rfl,World.ownsRow_nil _ _ _ _,fun q=>absurd q (by decide),O2.out⟩
 ·rw [if_neg h0] at eE
  rw [eE,if_neg h0] at eT;rw [eE,eT]
  have hne:(c != 0)=true:=by simpa using h0
  have h0':=Qaa h0;clear eE eT eB h0;go_enter func66,ntmps66;go_wp2_with fail;refine A.out.mono ?_;rintro e w1 ⟨v1,rfl,own1,o1⟩;have O1:=Qaa (OA.out.same o1);clear own1 o1 A OA;go_wp2;exact bodyPost_ret (QaJ rfl _ _ _) rfl ⟨_,_,rfl,World.ownsRow_nil _ _ _ _,fun q=>absurd q h0'.out,O1.out⟩
theorem Tryz.sizeCk:(prog.info? 50).map (·.size)=some 2:=by kernel_rfl
theorem QiG {W:World} {b:Nat} {x y:Value} (h:W.heap[b]? = some (.cells #[x,y] 50 (0,0))):(loadVar 50 ⟨b,0,none⟩).run prog W=.ok (.agg #[x,y]) W :=
 run_loadVar_row W b 50 50 _ (0,0) _ h underlying50 rfl Tryz.sizeCk
theorem Qar {W:World} {B:Nat} {x y:Value} {T:TypeId} (h:W.heap[B]? = some (.cells #[x,y] T (0,0))):W.cell? ⟨B,0,none⟩=some x∧W.cell? ⟨B,1,none⟩=some y∧W.frozen? ⟨B,0,none⟩=false∧W.frozen? ⟨B,1,none⟩=false :=
 ⟨by simp [World.cell?,h],by simp [World.cell?,h],by simp [World.frozen?,h],by simp [World.frozen?,h]⟩
theorem Qk1 (vk:Value) (k:List Int) (v i:Int) (t:ByteArray) (u:Value) (s:List (Int × Int)) (w:World) (bk:Bs .u8 w vk k) (k8:U8 k) (hb:-9223372036854775808≤i∧i≤9223372036854775807)
  (h:Sps w u s) (hg:Gs s) (hm:s.length≤maxLen) (hm2:t.size≤maxLen) (hT:Tab w) :
  Calls prog 42 #[vk,.int .u64 v,.int .i64 i,.agg #[.string t,u]] w fun e w'=>∃x,e=.returned (.tuple #[x,.int .i64 (SEb k i (sb t,s)),.int .i64 (SEe k i (sb t,s))])∧w'.ownsRow w.heap.size 5 1 x (SEt k v i (sb t,s)).length (bl (SEt k v i (sb t,s)))∧Only (fun _=>False) w w':=by
 obtain ⟨au,nu,cu,rfl⟩:∃a n c,u=.slice a n c:=by obtain ⟨a,c,e,_⟩:=h;exact ⟨_,_,_,e⟩
 have oA:Only (fun _=>False) w (w.alloc (.cells #[.string t,.slice au nu cu] 50)):=(Only.refl _ _).alloc _;have G0:=Qaa (heap_alloc_new w (.cells #[.string t,.slice au nu cu] 50));have OA:=Qaa oA
 by_cases h1:k.length=32∧KIX i
 ·obtain ⟨h32,hi⟩:=h1
  have A:=Qaa (Qtm vk k v i k8 _ (bk.past oA) h32 hi);have P:=Qaa (fun W (o:Only (fun _=>False) w W)=>Qn0 t (.slice au nu cu) s W (h.past o) hg hm hm2 (hT.past o))
  have eE:SEe k i (sb t,s)=PCe (sb t,s):=by unfold SEe;rw [if_pos h32,if_pos hi]
  have eT:SEt k v i (sb t,s)=if PCe (sb t,s)=0 then ASL (KDV k 2 []) (KNC k v i) (BSD v i (sb t)) (PADL (CBY (sb t,s))) else []:=by unfold SEt;rw [eE]
  have eB:SEb k i (sb t,s)=if PCe (sb t,s)=0 then PCb (sb t,s) else 0:=by unfold SEb PCb;rw [eE];split <;> rfl
  have eP:PCt (sb t,s)=if PCe (sb t,s)=0 then PADL (CBY (sb t,s)) else []:=rfl
  have h8:U8 (CBY (sb t,s)):=Qqr ⟨Qd5 t,hg⟩
  by_cases h0:PCe (sb t,s)=0
  ·obtain ⟨q1,q2,q3,q4⟩:=Qk2 h0
   rw [QaE] at q1;rw [if_pos h0] at eT eB eP;rw [eE,h0,eT,eB];simp only [h0,eP] at P;have hp8:U8 (PADL (CBY (sb t,s))):=QmV h8
   have hpl:(PADL (CBY (sb t,s))).length≤4194304:=by rw [QfW _ q4];exact QmT _
   have BS:=Qaa (fun W=>QjV v i t hi (by omega) W)
   have hbl:(BSD v i (sb t)).length≤200:=by have:=Qq9 (v:=v) (i:=i) (t:=sb t) (by rw [QaE];omega);rw [QaE] at this;omega
   have hb8:U8 (BSD v i (sb t)):=Qto (Qd5 t);have hal:=Qk8 (KDV k 2 []) (KNC k v i) (BSD v i (sb t)) (PADL (CBY (sb t,s)));have kn:KN (KDV k 2 []) (KNC k v i):=⟨QcX _ _ _,QfM _ _ _⟩;have SL:=Qaa (fun (W:World) (a b c d:Value) (h1:Bs .u8 W a (KDV k 2 [])) (h2:Bs .u8 W b (KNC k v i)) (h3:Bs .u8 W c (BSD v i (sb t))) (n3:NoCap c) (h4:Bs .u8 W d (PADL (CBY (sb t,s))))=>Qta a b c d _ _ _ _ kn (Qjl _ _ _) (Qt8 _ _ _) hb8 hp8 (by omega) (by omega) W h1 h2 h3 n3 h4);simp only [←hal] at SL;have L:=Qaa (And.intro (QcX k 2 []) (QfM k v i));clear eE eT eB eP h0 q1 q2 q3 q4 hp8 hpl hbl hb8 hal kn h8 bk k8 hb h hg hm hm2 hT h32 hi oA;generalize ASL (KDV k 2 []) (KNC k v i) (BSD v i (sb t)) (PADL (CBY (sb t,s)))=Y at *;generalize KDV k 2 []=k1 at *;generalize KNC k v i=k2 at *;generalize BSD v i (sb t)=X at *;generalize PADL (CBY (sb t,s))=p at *;generalize PCb (sb t,s)=n at *;go_enter func42,ntmps42;go_wp2_with fail;refine A.out.mono ?_;rintro e w1 ⟨a,b,rfl,own1,own1',o1⟩;have G1:=o1.heap G0.out (fun f=>f);have hld:=QiG G1;obtain ⟨c0,c1,_,_⟩:=Qar G1;have P1:=Qaa (P.out w1 (OA.out.same o1));have B1:Hid (Bs .u8 w1 a k1∧Bs .u8 w1 b k2):=⟨Bs.of_own (k:=.u8) (E:=5) (lo:=(w.alloc (.cells #[.string t,.slice au nu cu] 50)).heap.size) (by rw [L.out.1];exact own1),Bs.of_own (k:=.u8) (E:=5) (lo:=(w.alloc (.cells #[.string t,.slice au nu cu] 50)).heap.size) (by rw [L.out.2];exact own1')⟩;have O1:=Qaa (OA.out.same o1);have H1:=Qaa G1;clear own1 own1' o1 A P OA G0 G1 L;go_wp2_with fail;refine P1.out.mono ?_;rintro e w2 ⟨x2,n2,rfl,own2,hn2,o2⟩;obtain rfl:=hn2 trivial;have G2:=o2.heap H1.out (fun f=>f);clear c0 c1 hld;obtain ⟨c0,c1,_,_⟩:=Qar G2;have BS1:=Qaa (BS.out w2);have B2:=Qaa (And.intro (B1.out.1.past o2) (And.intro (B1.out.2.past o2) (show Bs .u8 w2 x2 p from Bs.of_own own2)));have O2:=Qaa (O1.out.same o2);clear own2 hn2 o2 P1 B1 O1 G2 H1 BS;go_wp2_with fail;refine BS1.out.mono ?_;rintro e w3 ⟨x3,rfl,own3,o3⟩;have SL1:=Qaa (SL.out w3 a b x3 x2 (B2.out.1.past o3) (B2.out.2.1.past o3) (Bs.of_own own3) (NoCap.of_own own3) (B2.out.2.2.past o3));have O3:=Qaa (O2.out.same o3);clear own3 o3 BS1 B2 O2 SL c0 c1;go_wp2_with fail;refine SL1.out.mono ?_;rintro e w4 ⟨x4,rfl,own4,o4⟩;have F:=Qaa (And.intro (Qaf own4 O3.out.size) (O3.out.same o4));clear own4 o4 SL1 O3;go_wp2;exact bodyPost_ret (QaJ rfl _ _ _) rfl ⟨_,rfl,F.out⟩
  ·rw [if_neg h0] at eT eB eP
   rw [eE,eT,eB]
   have hne:(PCe (sb t,s) != 0)=true:=by simpa using h0
   clear eE eT eB eP h8 bk k8 hb h hg hm hm2 hT h32 hi oA;generalize PCe (sb t,s)=c at *;clear h0;go_enter func42,ntmps42;go_wp2_with fail;refine A.out.mono ?_;rintro e w1 ⟨a,b,rfl,own1,own1',o1⟩;have G1:=o1.heap G0.out (fun f=>f);have hld:=QiG G1;obtain ⟨c0,c1,_,_⟩:=Qar G1;have P1:=Qaa (P.out w1 (OA.out.same o1));have O1:=Qaa (OA.out.same o1);clear own1 own1' o1 A P OA G0 G1;go_wp2_with fail;refine P1.out.mono ?_;rintro e w2 ⟨x2,n2,rfl,own2,hn2,o2⟩;have O2:=Qaa (O1.out.same o2);clear own2 hn2 o2 P1 O1;go_wp2;exact bodyPost_ret (QaJ rfl _ _ _) rfl ⟨_,rfl,World.ownsRow_nil _ _ _ _,O2.out⟩
 ·have A:=Qaa (Qtn vk k v i k8 _ (bk.past oA) hb h1)
  have eE:SEe k i (sb t,s)=1:=by
   unfold SEe
   by_cases q:k.length=32
   ·rw [if_pos q,if_neg (fun z=>h1 ⟨q,z⟩)]
   ·rw [if_neg q]
  have eT:SEt k v i (sb t,s)=[]:=by unfold SEt;rw [eE];rfl
  have eB:SEb k i (sb t,s)=0:=by unfold SEb;rw [eE];rfl
  rw [eE,eT,eB];clear eE eT eB bk k8 hb h hg hm hm2 hT h1 oA G0;go_enter func42,ntmps42;go_wp2_with fail;refine A.out.mono ?_;rintro e w1 ⟨rfl,o1⟩;have O1:=Qaa (OA.out.same o1);clear o1 A OA;go_wp2;exact bodyPost_ret (QaJ rfl _ _ _) rfl ⟨_,rfl,World.ownsRow_nil _ _ _ _,O1.out⟩
theorem Tryz.sizeStt:(prog.info? 25).map (·.size)=some 2:=by kernel_rfl
theorem Qcu {W:World} {b:Nat} {x y:Value} (h:W.heap[b]? = some (.cells #[x,y] 25 (0,0))):(loadVar 25 ⟨b,0,none⟩).run prog W=.ok (.agg #[x,y]) W :=
 run_loadVar_row W b 25 25 _ (0,0) _ h underlying25 rfl Tryz.sizeStt
theorem Qcv (x:Value) (ao:Option Addr) (n c:Nat) (w:World) :
  Calls prog 40 #[.agg #[x,.slice ao n c]] w fun e w'=>e=.returned (.bool (decide (0<n)))∧Only (fun _=>False) w w':=by
 have O:=Qaa ((Only.refl (fun _=>False) w).alloc (.cells #[x,.slice ao n c] 25))
 have e:decide ((0:Int)<(n:Int))=decide (0<n):=by simp
 go_enter func40,ntmps40;go_wp2;go_ret;exact ⟨by simp,O.out⟩
theorem Qd8 (x:Value) (ao:Option Addr) (n c:Nat) (w:World) :
  Calls prog 26 #[.agg #[x,.slice ao n c]] w fun e w'=>e=.returned (.bool (decide (n=0∨n=32)))∧Only (fun _=>False) w w':=by
 have G0:=Qaa (heap_alloc_new w (.cells #[x,.slice ao n c] 25));have O:=Qaa ((Only.refl (fun _=>False) w).alloc (.cells #[x,.slice ao n c] 25));have A:=Qaa (Qcv x ao n c (w.alloc (.cells #[x,.slice ao n c] 25)))
 by_cases h:0<n
 ·rw [Yaj h] at A
  have e:decide (n=0∨n=32)=((n:Int) == 32):=by
   by_cases q:n=32
   ·subst q;rfl
   ·rw [Yak (by omega)];symm;rw [beq_eq_false_iff_ne];omega
  rw [e];obtain ⟨b,hb⟩:∃b,b=((n:Int) == 32):=⟨_,rfl⟩;rw [←hb];have HB:=Qaa hb.symm;clear h e hb;go_enter func26,ntmps26;go_wp2_with fail;refine A.out.mono ?_;rintro e w1 ⟨rfl,o1⟩;obtain ⟨c0,c1,_,_⟩:=Qar (o1.heap G0.out (fun f=>f));have F:=Qaa (O.out.same o1);clear A O o1 G0;go_wp2;go_ret;exact ⟨by rw [←HB.out];simp,F.out⟩
 ·rw [Yak h] at A
  rw [Yaj (by omega:n=0∨n=32)];clear h;go_enter func26,ntmps26;go_wp2_with fail;refine A.out.mono ?_;rintro e w1 ⟨rfl,o1⟩;have F:=Qaa (O.out.same o1);clear A O o1 G0;go_wp2;go_ret;exact ⟨rfl,F.out⟩
theorem Qra (am:Option Addr) (M cm p:Nat) (ao:Option Addr) (n c v q:Nat) (w:World) :
  Calls prog 18 #[.slice am M cm,.agg #[.int .u64 p,.slice ao n c],.int .u64 v,.int .i64 q] w fun e w' =>
   e=.returned (.int .i64 (if M=32∧(n=0∨n=32)∧v≠18446744073709551615 then (if 0<n∧v≤p then 6 else if 1048576<q then 4 else 0) else 1))∧Only (fun _=>False) w w':=by
 have G0:=Qaa (heap_alloc_new w (.cells #[.int .u64 p,.slice ao n c] 25));have O:=Qaa ((Only.refl (fun _=>False) w).alloc (.cells #[.int .u64 p,.slice ao n c] 25));have R:=Qaa (Qd8 (.int .u64 p) ao n c (w.alloc (.cells #[.int .u64 p,.slice ao n c] 25)));have A:=Qaa (fun W=>Qcv (.int .u64 p) ao n c W)
 by_cases hM:M=32
 ·have d1:((M:Int) != 32)=false:=by subst hM;rfl
  by_cases hr:n=0∨n=32
  ·rw [Yaj hr] at R
   by_cases hv:v=18446744073709551615
   ·have d2:((v:Int) == 18446744073709551615)=true:=by subst hv;rfl
    rw [if_neg (fun h=>h.2.2 hv)];clear hM hr hv A;go_enter func18,ntmps18;go_wp2_with fail;refine R.out.mono ?_;rintro e w1 ⟨rfl,o1⟩;have F:=Qaa (O.out.same o1);clear R O o1 G0;go_wp2;go_ret;exact ⟨rfl,F.out⟩
   ·have d2:((v:Int) == 18446744073709551615)=false:=by rw [beq_eq_false_iff_ne];omega
    rw [if_pos ⟨hM,hr,hv⟩];obtain ⟨t,ht⟩:∃t,t=decide (0<n):=⟨_,rfl⟩;simp only [←ht] at A
    have e0:(if 0<n∧v≤p then (6:Int) else if 1048576<q then 4 else 0)=if t=true∧v≤p then 6 else if 1048576<q then 4 else 0:=by rw [ht];simp
    rw [e0];clear hM hr hv ht e0
    by_cases h1:t=true∧v≤p
    ·obtain ⟨rfl,h2⟩:=h1
     rw [if_pos ⟨rfl,h2⟩];have d3:decide (v≤p)=true:=Yaj h2;have d4:decide ((v:Int)≤(p:Int))=true:=Yaj (by omega);clear h2;go_enter func18,ntmps18;go_wp2_with fail;refine R.out.mono ?_;rintro e w1 ⟨rfl,o1⟩;have G1:=o1.heap G0.out (fun f=>f);obtain ⟨c0,c1,_,_⟩:=Qar G1;have A1:=Qaa (A.out w1);have F:=Qaa (O.out.same o1);have H1:=Qaa G1;clear R O o1 G0 G1 A;go_wp2_with fail;refine A1.out.mono ?_;rintro e w2 ⟨rfl,o2⟩;clear c0 c1;obtain ⟨c0,c1,_,_⟩:=Qar (o2.heap H1.out (fun f=>f));have F2:=Qaa (F.out.same o2);clear F o2 A1 H1;go_wp2;go_ret;exact ⟨rfl,F2.out⟩
    ·rw [if_neg h1]
     obtain ⟨z,hz⟩:∃z,z=decide (1048576<q):=⟨_,rfl⟩
     have hz2:decide ((1048576:Int)<(q:Int))=z:=by rw [hz];exact decide_eq_decide.2 (by omega)
     have e0:(if 1048576<q then (4:Int) else 0)=if z=true then 4 else 0:=by rw [hz];simp
     rw [e0];have hz3:=hz.symm;clear e0 hz
     cases ht:t with
     | false =>
      subst ht
      cases z
      all_goals (
       clear h1;go_enter func18,ntmps18;go_wp2_with fail;refine R.out.mono ?_;rintro e w1 ⟨rfl,o1⟩;have G1:=o1.heap G0.out (fun f=>f);obtain ⟨c0,c1,_,_⟩:=Qar G1;have A1:=Qaa (A.out w1);have F:=Qaa (O.out.same o1);clear R O o1 G0 G1 A;go_wp2_with fail;refine A1.out.mono ?_;rintro e w2 ⟨rfl,o2⟩;have F2:=Qaa (F.out.same o2);clear F o2 A1;go_wp2;go_ret
       exact ⟨rfl,F2.out⟩)
     | true =>
      subst ht;have d3:decide (v≤p)=false:=Yak (fun h=>h1 ⟨rfl,h⟩);have d4:decide ((v:Int)≤(p:Int))=false:=Yak (fun h=>h1 ⟨rfl,by omega⟩)
      cases z
      all_goals (
       clear h1;go_enter func18,ntmps18;go_wp2_with fail;refine R.out.mono ?_;rintro e w1 ⟨rfl,o1⟩;have G1:=o1.heap G0.out (fun f=>f);obtain ⟨c0,c1,_,_⟩:=Qar G1;have A1:=Qaa (A.out w1);have F:=Qaa (O.out.same o1);have H1:=Qaa G1;clear R O o1 G0 G1 A;go_wp2_with fail;refine A1.out.mono ?_;rintro e w2 ⟨rfl,o2⟩;clear c0 c1;obtain ⟨c0,c1,_,_⟩:=Qar (o2.heap H1.out (fun f=>f));have F2:=Qaa (F.out.same o2);clear F o2 A1 H1;go_wp2;go_ret
       exact ⟨rfl,F2.out⟩)
  ·rw [Yak hr] at R
   rw [if_neg (fun h=>hr h.2.1)];clear hM hr A;go_enter func18,ntmps18;go_wp2_with fail;refine R.out.mono ?_;rintro e w1 ⟨rfl,o1⟩;have F:=Qaa (O.out.same o1);clear R O o1 G0;go_wp2;go_ret;exact ⟨rfl,F.out⟩
 ·have d1:((M:Int) != 32)=true:=by rw [bne_iff_ne];omega
  rw [if_neg (fun h=>hM h.1)];clear hM A R G0;go_enter func18,ntmps18;go_wp2;go_ret;exact ⟨rfl,O.out⟩
theorem Qn3 (x vr:Value) (r:List Int) (w:World) (hr:Bs .u8 w vr r) (nr:NoCap vr) :
  Calls prog 21 #[.agg #[x,vr]] w fun e w'=>∃u,e=.returned u∧Bs .u8 w' u (PRV r)∧NoCap u∧Only (fun _=>False) w w':=by
 obtain ⟨ao,c,rfl⟩:=hr.len;have G0:=Qaa (heap_alloc_new w (.cells #[x,.slice ao r.length c] 25));have oA:Only (fun _=>False) w (w.alloc (.cells #[x,.slice ao r.length c] 25)):=(Only.refl _ _).alloc _;have A:=Qaa (Qcv x ao r.length c (w.alloc (.cells #[x,.slice ao r.length c] 25)));have O:=Qaa oA;have B:=Qaa (And.intro (hr.past oA) nr)
 by_cases h:r.length=0
 ·rw [Yak (by omega:¬0<r.length)] at A
  have e:PRV r=List.replicate 32 0:=if_pos h;rw [e];have MK:=Qaa (fun W=>QjL W 32 (by omega));obtain ⟨n,hn⟩:∃n,n=r.length:=⟨_,rfl⟩;rw [←hn] at A O G0 ⊢;clear hr nr h e B hn oA;go_enter func21,ntmps21;go_wp2_with fail;refine A.out.mono ?_;rintro e w1 ⟨rfl,o1⟩;obtain ⟨wm,hmk,hbk,om⟩:=MK.out w1;rw [show ((32:Nat):Int)=32 from rfl] at hmk;have F:=Qaa (And.intro (hbk.bs 32 (by simp)) (O.out.same (o1.same om)));clear A O o1 G0 MK hbk om;go_wp2;go_ret;exact ⟨_,rfl,F.out.1,NoCap.some _ _ _,F.out.2⟩
 ·rw [Yaj (by omega:0<r.length)] at A
  have e:PRV r=r:=if_neg h;rw [e];obtain ⟨n,hn⟩:∃n,n=r.length:=⟨_,rfl⟩;rw [←hn] at A O G0 B ⊢;clear hr nr h e hn oA;go_enter func21,ntmps21;go_wp2_with fail;refine A.out.mono ?_;rintro e w1 ⟨rfl,o1⟩;obtain ⟨c0,c1,_,_⟩:=Qar (o1.heap G0.out (fun f=>f));have F:=Qaa (And.intro (B.out.1.past o1) (And.intro B.out.2 (O.out.same o1)));clear A O o1 G0 B;go_wp2;go_ret;exact ⟨_,rfl,F.out.1,F.out.2⟩
end Go.Proofs.YtnhapmboienipaaGreatDoor
