import Derived.Test.YtnhapmboienipaaGreatDoorY2
import Derived.Test.YtnhapmboienipaaGreatDoorY30
import Derived.Test.YtnhapmboienipaaGreatDoorY31
import Derived.Test.YtnhapmboienipaaGreatDoorY5
import Derived.Laws.IdiomStrings
import Derived.Laws.BytesArg
import Derived.Deep.SlicePairs
import Derived.OpenShut
import Derived.BigRegion
import Derived.Test.YtnhapmboienipaaGreatDoorY4
import Derived.Test.YtnhapmboienipaaGreatDoorY18
import Derived.Test.YtnhapmboienipaaGreatDoorY3
import Derived.Deep.RegionHeld3
import Derived.Test.YtnhapmboienipaaGreatDoorProg
import Derived.Test.YtnhapmboienipaaGreatDoorY1
import Derived.WalkSpells
namespace Go.Proofs.YtnhapmboienipaaGreatDoor
set_option maxHeartbeats 1600000
set_option maxRecDepth 100000
open Go.RowKit _root_.Go.Proofs.Tryz
def dct:List Int→List Int→List Int
 | d,[]=>d
 | d,x :: t=>if x∈d then dct d t else dct (d++[x]) t
def dic (l:List Int):List Int:=dct [] l
theorem Qor (l:List Int) (y:Int):∀d,dct d (l++[y])=if y∈dct d l then dct d l else dct d l++[y]:=by
 induction l with
 | nil=>intro d;rfl
 | cons x t ih =>
  intro d;rw [List.cons_append,dct,dct]
  by_cases h:x∈d
  ·rw [if_pos h,if_pos h,ih]
  ·rw [if_neg h,if_neg h,ih]
theorem Qrm (l:List Int):∀(d:List Int) (y:Int),y∈dct d l↔y∈d∨y∈l:=by
 induction l with
 | nil=>intro d y;simp [dct]
 | cons x t ih =>
  intro d y;rw [dct]
  by_cases h:x∈d
  ·rw [if_pos h,ih,List.mem_cons]
   constructor
   ·rintro (h1 | h1)
    ·exact .inl h1
    ·exact .inr (.inr h1)
   ·rintro (h1 | rfl | h1)
    ·exact .inl h1
    ·exact .inl h
    ·exact .inr h1
  ·rw [if_neg h,ih,List.mem_cons,List.mem_append]
   constructor
   ·rintro ((h1 | h1) | h1)
    ·exact .inl h1
    ·exact .inr (.inl (by simpa using h1))
    ·exact .inr (.inr h1)
   ·rintro (h1 | rfl | h1)
    ·exact .inl (.inl h1)
    ·exact .inl (.inr (by simp))
    ·exact .inr h1
theorem Qlz (l:List Int):∀d:List Int,d.Nodup→(dct d l).Nodup:=by
 induction l with
 | nil=>intro d h;exact h
 | cons x t ih =>
  intro d h;rw [dct]
  by_cases hx:x∈d
  ·rw [if_pos hx];exact ih d h
  ·rw [if_neg hx]
   refine ih _ (List.nodup_append.2 ⟨h,by simp,?_⟩);intro a ha b hb e;simp at hb;subst hb e;exact hx ha
theorem Qrn (l:List Int):∀d:List Int,(dct d l).length≤d.length+l.length:=by
 induction l with
 | nil=>intro d;simp [dct]
 | cons x t ih =>
  intro d;rw [dct]
  by_cases h:x∈d
  ·rw [if_pos h];have:=ih d;simp only [Yah];omega
  ·rw [if_neg h];have:=ih (d++[x]);simp only [Yah,Yae,List.length_nil] at *;omega
theorem QlA (l:List Int) (y:Int):y∈dic l↔y∈l:=by unfold dic;rw [Qrm];simp
theorem QlB (l:List Int):(dic l).Nodup:=Qlz l [] List.nodup_nil
theorem QfB (l:List Int):(dic l).length≤l.length:=by have:=Qrn l [];simpa [dic] using this
theorem Qro {l:List Int} (hu:U64 l):U64 (dic l):=fun y hy=>hu y ((QlA l y).1 hy)
theorem Qos (l:List Int) (y:Int):dic (l++[y])=if y∈dic l then dic l else dic l++[y]:=Qor l y []
def plc (d:List Int) (v:Int):Nat:=d.idxOf v
theorem QtL {d:List Int} {v:Int} (h:v∈d):plc d v<d.length:=List.idxOf_lt_length_of_mem h
def wP (k:Nat):Nat:=if k=0 then 0 else wid (k - 1)
theorem wP_lt {k p:Nat} (h:p<k):p<2^wP k:=by
 unfold wP;rw [if_neg (by omega)];have:=(Qan (k - 1) (wid (k - 1))).1 (Nat.le_refl _);omega
theorem wP_le {k:Nat} (h:k≤65536):wP k≤16:=by
 unfold wP
 by_cases h0:k=0
 ·rw [if_pos h0];omega
 ·rw [if_neg h0];exact (Qan _ 16).2 (by omega)
def bitsP (w:Nat) (ps:List Nat):List Bool:=ps.flatMap fun p=>Qaj p w
theorem Qj8 (w p:Nat) (ps:List Nat):bitsP w (p :: ps)=Qaj p w++bitsP w ps:=rfl
theorem Qgs (w:Nat) (ps:List Nat):(bitsP w ps).length=ps.length*w:=by
 induction ps with
 | nil=>simp [bitsP]
 | cons p t ih=>rw [Qj8,Yae,Qao,ih,Yah,Nat.succ_mul];omega
theorem Qj9 (w:Nat) (ps:List Nat) (p:Nat):bitsP w (ps++[p])=bitsP w ps++Qaj p w:=by simp [bitsP]
def fx8 (d:List Int):List Int:=d.flatMap fun v=>fixL v 8
theorem Qot (v:Int) (d:List Int):fx8 (v :: d)=fixL v 8++fx8 d:=rfl
theorem Qou (d:List Int) (v:Int):fx8 (d++[v])=fx8 d++fixL v 8:=by simp [fx8]
theorem Qdu (d:List Int):(fx8 d).length=8*d.length:=by
 induction d with
 | nil=>rfl
 | cons v t ih=>rw [Qot,Yae,Qag,ih,Yah];omega
def Qee (d l:List Int):List Bool:=bitsP (wP d.length) (l.map (plc d))
def ENC10 (l:List Int):List Int × Int:=if 65536<l.length then ([],4) else (gs (dic l).length++(fx8 (dic l)++QaD (Qee (dic l) l)),0)
theorem Qi2 {l:List Int} (h:l.length≤65536):ENC10 l=(gs (dic l).length++(fx8 (dic l)++QaD (Qee (dic l) l)),0):=if_neg (by omega)
theorem Qka (d l:List Int):(Qee d l).length=l.length*wP d.length:=by unfold Qee;rw [Qgs,List.length_map]
theorem QtM {l:List Int} (hl:l.length≤65536):(dic l).length<18446744073709551616:=by have:=QfB l;omega
theorem QlC (l:List Int):∀y∈(ENC10 l).1,0≤y∧y≤255:=by
 unfold ENC10
 by_cases h:65536<l.length
 ·rw [if_pos h];intro y hy;simp at hy
 ·rw [if_neg h]
  intro y hy
  rcases List.mem_append.1 hy with h1 | h1
  ·exact Qa8 _ y h1
  ·rcases List.mem_append.1 h1 with h2 | h2
   ·obtain ⟨v,_,hv⟩:=List.mem_flatMap.1 h2
    unfold fixL at hv;obtain ⟨j,_,rfl⟩:=List.mem_map.1 hv;exact Qdt v _
   ·exact Qdr _ y h2
def QuK (l:List Int) (k:Nat):Nat:=(dic (l.take k)).length
def QjS (l:List Int):Bool:=l.all fun x=>x == l.getD 0 0
abbrev Qa9 (l:List Int):Prop:=QjS l=true
theorem QeT {l:List Int}:Qa9 l↔∀x∈l,x=l.getD 0 0:=by
 unfold Qa9 QjS;rw [List.all_eq_true];exact ⟨fun h x hx=>by simpa using h x hx,fun h x hx=>by simpa using h x hx⟩
def W11 (l:List Int) (tag:Nat):List Int × Int :=
 if tag=0 then (fx8 l,0) else if tag=1 then (if l=[]∨¬Qa9 l then ([],1) else (fixL (l.getD 0 0) 8,0)) else if tag=2 then ENC10 l else ENC9 l
def WAY11 (l:List Int) (tag:Int):List Int × Int:=if tag<0∨3<tag then ([],1) else if 65536<l.length then ([],4) else W11 l tag.toNat
def QaS (l:List Int):Nat→Nat × List Int
 | 0=>(0,(W11 l 0).1)
 | t+1=>if (W11 l (t+1)).2=0∧(W11 l (t+1)).1.length<(QaS l t).2.length then (t+1,(W11 l (t+1)).1) else QaS l t
def ENC11 (l:List Int):List Int × Int:=if 65536<l.length then ([],4) else (((QaS l 3).1:Int) :: (QaS l 3).2,0)
theorem W11_0 (l:List Int):W11 l 0=(fx8 l,0):=rfl
theorem W11_1 (l:List Int):W11 l 1=if l=[]∨¬Qa9 l then ([],1) else (fixL (l.getD 0 0) 8,0):=rfl
theorem W11_2 (l:List Int):W11 l 2=ENC10 l:=rfl
theorem W11_3 (l:List Int):W11 l 3=ENC9 l:=rfl
theorem QeU {t:Nat} (h:t≤3):t=0∨t=1∨t=2∨t=3:=by omega
theorem Qtg (l:List Int):∀y∈fx8 l,0≤y∧y≤255:=by
 intro y hy;obtain ⟨v,_,hv⟩:=List.mem_flatMap.1 hy;exact QaG v 8 y hv
theorem Qth {l:List Int} {t:Nat} (ht:t≤3):∀y∈(W11 l t).1,0≤y∧y≤255:=by
 rcases QeU ht with rfl | rfl | rfl | rfl
 ·exact Qtg l
 ·rw [W11_1]
  by_cases c:l=[]∨¬Qa9 l
  ·rw [if_pos c];intro y hy;simp at hy
  ·rw [if_neg c];exact QaG _ 8
 ·exact QlC l
 ·exact QoL l
theorem Qc0 (l:List Int):∀t,(QaS l t).1≤t∧W11 l (QaS l t).1=((QaS l t).2,0)∧∀s,s≤t→(W11 l s).2=0→(QaS l t).2.length≤(W11 l s).1.length
 | 0=>⟨Nat.le_refl _,rfl,fun s hs _=>by
  obtain rfl:s=0:=by omega
  exact Nat.le_refl _⟩
 | t+1=>by
  obtain ⟨h1,h2,h3⟩:=Qc0 l t;rw [QaS]
  by_cases c:(W11 l (t+1)).2=0∧(W11 l (t+1)).1.length<(QaS l t).2.length
  ·rw [if_pos c]
   refine ⟨Nat.le_refl _,Prod.ext rfl c.1,fun s hs he=>?_⟩
   rcases Nat.lt_or_ge s (t+1) with e | e
   ·have:=h3 s (by omega) he;simp only;omega
   ·obtain rfl:s=t+1:=by omega
    exact Nat.le_refl _
  ·rw [if_neg c]
   refine ⟨by omega,h2,fun s hs he=>?_⟩
   rcases Nat.lt_or_ge s (t+1) with e | e
   ·exact h3 s (by omega) he
   ·obtain rfl:s=t+1:=by omega
    rcases Nat.lt_or_ge (W11 l (t+1)).1.length (QaS l t).2.length with e2 | e2
    ·exact absurd ⟨he,e2⟩ c
    ·exact e2
theorem QjT {l:List Int} (hl:l.length≤65536):ENC11 l=(((QaS l 3).1:Int) :: (QaS l 3).2,0):=if_neg (by omega)
theorem Qhq {l:List Int} (hl:l.length≤65536):(ENC11 l).1.length≤1+8*l.length∧0<(ENC11 l).1.length:=by
 have h:=(Qc0 l 3).2.2 0 (by omega) rfl;rw [W11_0] at h;simp only [Qdu] at h;rw [QjT hl];simp only [Yah];omega
theorem QnQ (l:List Int):∀y∈(ENC11 l).1,0≤y∧y≤255:=by
 unfold ENC11
 by_cases h:65536<l.length
 ·rw [if_pos h];intro y hy;simp at hy
 ·rw [if_neg h]
  obtain ⟨h1,h2,_⟩:=Qc0 l 3;intro y hy
  rcases List.mem_cons.1 hy with rfl | hy
  ·omega
  ·have:=Qth (l:=l) h1
   rw [h2] at this;exact this y hy
theorem QeV {l:List Int} (hl:l.length≤65536) (t:Nat) (ht:t≤3):WAY11 l t=W11 l t:=by
 unfold WAY11;rw [if_neg (by omega),if_neg (by omega),Int.toNat_natCast]
theorem Qhr {l:List Int} {tag:Int}:(WAY11 l tag).1.length≤2000000:=by
 unfold WAY11
 by_cases c:tag<0∨3<tag
 ·rw [if_pos c];simp
 ·rw [if_neg c]
  by_cases hl:65536<l.length
  ·rw [if_pos hl];simp
  ·rw [if_neg hl]
   rcases QeU (t:=tag.toNat) (by omega) with e | e | e | e <;> rw [e]
   ·rw [W11_0];simp only [Qdu];omega
   ·rw [W11_1];split <;> simp [Qag]
   ·rw [W11_2,Qi2 (by omega)]
    have h1:=QaC (QtM (l:=l) (by omega));have h2:=QfB l;have h3:=wP_le (k:=(dic l).length) (by omega)
    have h4:(Qee (dic l) l).length≤65536*16:=by rw [Qka];exact Nat.mul_le_mul (by omega) h3
    simp only [Yae,Qdu,QaI];unfold nb;omega
   ·rw [W11_3,QlT (by omega)]
    have:=(QtV l).1;simp only [QaI];unfold nb;omega
def e8c (l:List Int):List Int:=(ENC8 l).1
def e11c (l:List Int):List Int:=(ENC11 l).1
def ENCC (tn:List Int) (s:List (Int × Int)):List Int × Int:=ENC12 e8c e11c tn s
def Gs (s:List (Int × Int)):Prop:=I64s (s.map Prod.fst)∧U64 (s.map Prod.snd)
theorem Qdf {tn:List Int} {s:List (Int × Int)} (h:64<tn.length∨65536<s.length):ENCC tn s=([],4):=if_pos h
theorem QfJ {tn:List Int} {s:List (Int × Int)} (h:tn.length≤64) (h':s.length≤65536):ENCC tn s=(1 :: (blk tn++(gs s.length++(blk (e8c (s.map Prod.fst))++blk (e11c (s.map Prod.snd))))),0):=if_neg (by omega)
section
open Go.ChangeShapes Go.WideShapes
def Sps (w:World) (v:Value) (s:List (Int × Int)):Prop :=
 ∃ao cap,v=.slice ao s.length cap∧s.length≤cap∧(s≠[]→∃b off,ao=some ⟨b,off,none⟩∧∀j,j<s.length →
  w.cell? ⟨b,off+j*2,none⟩=some (.int .i64 (s.getD j (0,0)).1)∧w.cell? ⟨b,off+j*2+1,none⟩=some (.int .u64 (s.getD j (0,0)).2))
theorem Sps.len {w:World} {v:Value} {s:List (Int × Int)} (h:Sps w v s):∃ao cap,v=.slice ao s.length cap:=by
 obtain ⟨ao,cap,rfl,_⟩:=h;exact ⟨ao,cap,rfl⟩
theorem Sps.nil (w:World):Sps w (.slice none 0 0) []:=⟨none,0,rfl,Nat.le_refl _,fun h=>absurd rfl h⟩
theorem Sps.at {w:World} {v:Value} {s:List (Int × Int)} (h:Sps w v s) (j:Nat) (hj:j<s.length) :
  ∃b off cap,v=.slice (some ⟨b,off,none⟩) s.length cap∧w.cell? ⟨b,off+j*2,none⟩=some (.int .i64 (s.getD j (0,0)).1)∧w.cell? ⟨b,off+j*2+1,none⟩=some (.int .u64 (s.getD j (0,0)).2):=by
 obtain ⟨ao,cap,rfl,_,hr⟩:=h;obtain ⟨b,off,rfl,hc⟩:=hr (by intro h0;subst h0;simp at hj);exact ⟨b,off,cap,rfl,hc j hj⟩
theorem Sps.keep {w w':World} {v:Value} {s:List (Int × Int)} (h:Sps w v s) {S:Nat→Prop} (ho:Only S w w') (hs:∀b,v.ownBlock=some b→¬S b):Sps w' v s:=by
 obtain ⟨ao,cap,rfl,hl,hr⟩:=h;refine ⟨ao,cap,rfl,hl,fun hne=>?_⟩;obtain ⟨b,off,rfl,hc⟩:=hr hne;refine ⟨b,off,rfl,fun j hj=>?_⟩;have hb:¬S b:=hs b rfl;obtain ⟨h0,h1⟩:=hc j hj;have hlt:b<w.heap.size:=World.block_lt_of_cell? w _ h0;have e:=ho.block b hlt hb;exact ⟨by rw [←h0];unfold World.cell?;rw [e],by rw [←h1];unfold World.cell?;rw [e]⟩
theorem Sps.past {w w':World} {v:Value} {s:List (Int × Int)} (h:Sps w v s) (o:Only (fun _=>False) w w'):Sps w' v s:=h.keep o (fun _ _ f=>f)
theorem Qpf {H:Type} {enc:TypeId × Value→H} {W:World} {fuel:Nat} {u:Value} {x:DataW H × List MemPlace}
  (hf:DataW.trod enc prog W 0 (fun _=>true) true fuel 48 [u]=some x):∃s:List (Int × Int),Sps W u s∧Gs s∧s.length≤maxLen:=by
 rcases Deep.open_slice_pairs underlying48 underlying91 (by kernel_rfl) rfl rfl (by kernel_rfl) (by kernel_rfl) hf with ⟨hcs,_⟩ | ⟨x,l,c,m,n,V0,V1,D0,D1,P0,P1,hcs,_,hl,hm,hmm,_,hi⟩
 ·simp at hcs
  subst hcs;exact ⟨[],Sps.nil _,⟨by simp [I64s],by simp [U64]⟩,by simp⟩
 ·simp at hcs
  subst hcs;simp only [if_true] at hmm;rw [hmm] at hi;clear hmm
  have each:∀i,i<l→∃q:Int × Int,W.cell? (x.add (i*2))=some (.int .i64 q.1)∧W.cell? (x.add (i*2+1))=some (.int .u64 q.2)∧(Lit.int .i64 q.1).wf=true∧(Lit.int .u64 q.2).wf=true:=by
   intro i hlt;obtain ⟨c0,c1,t0,t1⟩:=hi i (by omega);obtain ⟨q0,e0,_,w0⟩:=DataW.trod_int underlying3 t0;obtain ⟨q1,e1,_,w1⟩:=DataW.trod_int underlying23 t1;simp at e0 e1;exact ⟨(q0,q1),by rw [c0,e0],by rw [c1,e1],w0,w1⟩
  obtain ⟨q,hq⟩:=Deep.choose_lt each
  have hget:∀j,j<l→((List.range l).map q).getD j (0,0)=q j:=fun j hj=>by
   rw [Yad];simp [hj]
  refine ⟨(List.range l).map q,⟨some x,c,by simp,by simpa using hl,fun hne=>?_⟩,⟨?_,?_⟩,by simp;omega⟩
  ·have hp:0<l:=by
    cases l with
    | zero=>simp at hne
    | succ n=>omega
   obtain ⟨b,off,spot⟩:=x
   have hspot:spot=none:=by simpa [Addr.add] using World.cell?_spot (hq 0 hp).1
   subst hspot;refine ⟨b,off,rfl,fun j hj=>?_⟩
   have hj':j<l:=by simpa using hj
   rw [hget j hj'];have h0:=(hq j hj').1;have h1:=(hq j hj').2.1;rw [Go.WideShapes.add_plain] at h0 h1;exact ⟨h0,by rw [Nat.add_assoc];exact h1⟩
  ·intro y hy
   simp only [List.mem_map,List.mem_range] at hy;obtain ⟨_,⟨j,hj,rfl⟩,rfl⟩:=hy
   simpa [G64,Lit.wf,IntKind.min,IntKind.max,IntKind.signed,IntKind.bits] using (hq j hj).2.2.1
  ·intro y hy
   simp only [List.mem_map,List.mem_range] at hy;obtain ⟨_,⟨j,hj,rfl⟩,rfl⟩:=hy
   simpa [Lit.wf,IntKind.min,IntKind.max,IntKind.signed,IntKind.bits] using (hq j hj).2.2.2
end
def prt (l:List Int) (n k:Nat):List Int:=l.take k++List.replicate (n - k) 0
theorem Qms (l:List Int) (k:Nat) (hk:k≤l.length):(prt l l.length k).length=l.length:=by
 simp [prt];omega
theorem Qjj (kd:IntKind) (l:List Int) (n:Nat):(prt l n 0).map (Value.int kd)=(madeCells #[Value.int kd 0] (n*1)).toList:=by
 simp only [prt,List.take_zero,List.nil_append,Nat.sub_zero,List.map_replicate];unfold madeCells
 apply List.ext_getElem
 ·simp
 ·intro i h1 h2
  simp [Nat.mod_one]
theorem Qmt (l:List Int):prt l l.length l.length=l:=by simp [prt]
theorem Qjk (l:List Int) (k:Nat) (h:k<l.length):(prt l l.length k).set k (l.getD k 0)=prt l l.length (k+1):=by
 unfold prt;obtain ⟨m,hm⟩:∃m,l.length - k=m+1:=⟨l.length - k - 1,by omega⟩;rw [hm,show l.length - (k+1)=m by omega,List.replicate_succ,List.set_append_right _ _ (by simp;omega)];rw [List.take_succ_eq_append_getElem h]
 have e:k - (l.take k).length=0:=by simp;omega
 rw [e,Yab,List.append_assoc];simp [List.getD_eq_getElem?_getD,List.getElem?_eq_getElem h]
theorem pgetD (s:List (Int × Int)) (k:Nat):((s.map Prod.fst).getD k 0=(s.getD k (0,0)).1)∧((s.map Prod.snd).getD k 0=(s.getD k (0,0)).2):=by
 rw [Yad,Yad,Yad,List.getElem?_map,List.getElem?_map]
 cases s[k]? <;> exact ⟨rfl,rfl⟩
theorem Qmu (v:Value) (s:List (Int × Int)) (w:World) (h:Sps w v s) (hl:s.length≤65536) :
  Calls prog 133 #[v] w fun e w'=>∃u1 u2,e=.returned (.tuple #[u1,u2])∧Bs .i64 w' u1 (s.map Prod.fst)∧Bs .u64 w' u2 (s.map Prod.snd)∧Only (fun _=>False) w w':=by
 obtain ⟨i0,hi,hz0,hz1,hz2⟩:=info_parts Tryz.infoI64;obtain ⟨j0,hj,gz0,gz1,gz2⟩:=info_parts Tryz.infoU64;have HB:=Qaa h;obtain ⟨ao,cap,rfl⟩:=h.len;obtain ⟨n,hn⟩:∃n,n=s.length:=⟨_,rfl⟩;rw [←hn] at hl HB;rw [←hn];have HN:=Qaa hn;obtain ⟨wm,hmk,hown0,hgr⟩:=run_make_full (P:=prog) w w.heap.size 175 3 i0 (.int .i64 0) 1 underlying175 hi hz0 hz1 .i64 .i64 n (by rw [hz2];omega) (by unfold maxLen;omega) (Nat.le_refl _);obtain ⟨wk,hmk2,hown1,hgr1⟩:=run_make_full (P:=prog) wm wm.heap.size 176 23 j0 (.int .u64 0) 1 underlying176 hj gz0 gz1 .i64 .i64 n (by rw [gz2];omega) (by unfold maxLen;omega) (Nat.le_refl _)
 have START:Hid (wk.ownsRow w.heap.size 3 1 (.slice (some ⟨w.heap.size,0,none⟩) n n) n ((prt (s.map Prod.fst) n 0).map (Value.int .i64))∧wk.ownsRow wm.heap.size 23 1 (.slice (some ⟨wm.heap.size,0,none⟩) n n) n ((prt (s.map Prod.snd) n 0).map (Value.int .u64))∧Only (fun _=>False) w wk∧w.heap.size<wm.heap.size):=by
  rw [show (Value.int .u64 0).cells=#[Value.int .u64 0] from rfl] at hown1;rw [show (Value.int .i64 0).cells=#[Value.int .i64 0] from rfl] at hown0;rw [Qjj,Qjj];have o1:Only (fun _=>False) w wm:=(Only.refl _ _).grown hgr (fun _ _ e=>by cases e);have o2:Only (fun _=>False) wm wk:=(Only.refl _ _).grown hgr1 (fun _ _ e=>by cases e);exact ⟨o2.own hown0 (fun _ _ f=>f),hown1,o1.same o2,(hown0.lt _ rfl).2⟩
 clear hown0 hgr hown1 hgr1;obtain ⟨N,hN⟩:∃N,N=w.heap.size:=⟨_,rfl⟩;obtain ⟨M,hM⟩:∃M,M=wm.heap.size:=⟨_,rfl⟩;rw [←hN] at hmk START;rw [←hM] at hmk2 START;have HNN:=Qaa hN;have HMM:=Qaa hM;clear h hn hN hM;go_enter func133,ntmps133;go_wp2
 go_loopw [16] (fun i wr=>∃k:Nat,k≤n∧i=.int .i64 k∧wr.ownsRow N 3 1 (.slice (some ⟨N,0,none⟩) n n) n ((prt (s.map Prod.fst) n k).map (Value.int .i64))∧wr.ownsRow M 23 1 (.slice (some ⟨M,0,none⟩) n n) n ((prt (s.map Prod.snd) n k).map (Value.int .u64))∧Only (fun _=>False) w wr) (fun i _=>n - (intOf i).toNat)
 case atStart=>exact ⟨0,Nat.zero_le _,rfl,START.out.1,START.out.2.1,START.out.2.2.1⟩
 case round =>
  obtain ⟨k,hk,rfl,hown,hown2,hon⟩:=hrel;have HNM:N<M:=START.out.2.2.2;clear START hmk hmk2;have HOWN:=Qaa hown;have HOWN2:=Qaa hown2;have HON:=Qaa hon
  by_cases hlt:k<n
  ·have dlt:decide ((k:Int)<(n:Int))=true:=by simp;omega
   have dlt2:(k:Int)<(n:Int):=by omega
   have hkl:k<s.length:=by rw [←HN.out];exact hlt
   obtain ⟨b,off,cap',e1,hc0,hc1⟩:=(HB.out.past hon).at k hkl
   have ea:ao=some ⟨b,off,none⟩:=by simp at e1;exact e1.1
   subst ea;clear e1
   have hcell:∃y,wr.cell? ⟨N,k,none⟩=some (.int .i64 y):=by
    have hz:=Qms (s.map Prod.fst) k (by simp;omega);rw [List.length_map,←HN.out] at hz;refine ⟨(prt (s.map Prod.fst) n k).getD k 0,?_⟩;rw [hown.cellAt k (by omega),List.getElem?_map,Yaf (by rw [hz];omega),Yad,Yaf (by rw [hz];omega)]
    rfl
   have hcell2:∃y,wr.cell? ⟨M,k,none⟩=some (.int .u64 y):=by
    have hz:=Qms (s.map Prod.snd) k (by simp;omega);rw [List.length_map,←HN.out] at hz;refine ⟨(prt (s.map Prod.snd) n k).getD k 0,?_⟩;rw [hown2.cellAt k (by omega),List.getElem?_map,Yaf (by rw [hz];omega),Yad,Yaf (by rw [hz];omega)]
    rfl
   obtain ⟨y,hy⟩:=hcell;obtain ⟨y2,hy2⟩:=hcell2;have hfr:wr.frozen? ⟨N,k,none⟩=false:=hown.frozenAt _;have hfr2:wr.frozen? ⟨M,k,none⟩=false:=hown2.frozenAt _;have hNlt:N<wr.heap.size:=(hown.lt _ rfl).2;have hMlt:M<wr.heap.size:=(hown2.lt _ rfl).2
   have hstep:Hid (((prt (s.map Prod.fst) n k).map (Value.int .i64)).set k (.int .i64 (s.getD k (0,0)).1)=(prt (s.map Prod.fst) n (k+1)).map (Value.int .i64)):=by
    simp only [Hid];rw [←List.map_set,←(pgetD s k).1];have:=Qjk (s.map Prod.fst) k (by simpa using hkl);rw [List.length_map,←HN.out] at this;rw [this]
   have hstep2:Hid (((prt (s.map Prod.snd) n k).map (Value.int .u64)).set k (.int .u64 (s.getD k (0,0)).2)=(prt (s.map Prod.snd) n (k+1)).map (Value.int .u64)):=by
    simp only [Hid];rw [←List.map_set,←(pgetD s k).2];have:=Qjk (s.map Prod.snd) k (by simpa using hkl);rw [List.length_map,←HN.out] at this;rw [this]
   generalize (s.getD k (0,0)).1=x at *;generalize (s.getD k (0,0)).2=z at *
   have ne1:¬N=M:=by omega
   have ne2:¬M=N:=by omega
   have ne3:¬N=wr.heap.size:=by omega
   have ne4:¬M=wr.heap.size:=by omega
   have ne5:¬wr.heap.size=N:=by omega
   have ne6:¬wr.heap.size=M:=by omega
   have hk0:(0:Int)≤(k:Int):=by omega
   clear hown hown2 hon HB hkl;go_wp2;go_region;go_wp2
   go_roundw
   case rel =>
    have e1:=(HOWN.out.stored k (.int .i64 x)).1;rw [hstep.out] at e1;have o1:Only (fun b=>b=N) wr (wr.setCell ⟨N,k,none⟩ (.int .i64 x)):=(Only.refl (fun b=>b=N) wr).setCell (p:=⟨N,k,none⟩) (fun _=>rfl) _;have e2:=((o1.own HOWN2.out (fun b hb e=>by cases hb;exact ne2 e)).stored k (.int .u64 z)).1;rw [hstep2.out] at e2;have o2:Only (fun b=>b=M) (wr.setCell ⟨N,k,none⟩ (.int .i64 x)) ((wr.setCell ⟨N,k,none⟩ (.int .i64 x)).setCell ⟨M,k,none⟩ (.int .u64 z)):=(Only.refl (fun b=>b=M) _).setCell (p:=⟨M,k,none⟩) (fun _=>rfl) _;have o3:Only (fun _=>False) ((wr.setCell ⟨N,k,none⟩ (.int .i64 x)).setCell ⟨M,k,none⟩ (.int .u64 z)) ((((wr.setCell ⟨N,k,none⟩ (.int .i64 x)).setCell ⟨M,k,none⟩ (.int .u64 z)).alloc (Obj.cells #[Value.int IntKind.i64 x,Value.int IntKind.u64 z] 91)).drew):=((Only.refl _ _).alloc _).drew;have hNw:=HNN.out;have hMN:=HNM;refine ⟨k+1,by omega,by go_num,o3.own (o2.own e1 (fun b hb e=>by cases hb;exact ne1 e)) (fun _ _ f=>f),o3.own e2 (fun _ _ f=>f),?_⟩;exact ((HON.out.trans o1 (fun b hb e=>by omega)).trans o2 (fun b hb e=>by omega)).trans o3 (fun _ _ f=>f)
   case measure=>simp [intOf];omega
  ·obtain rfl:k=n:=by omega
   have dlt:decide ((k:Int)<(k:Int))=false:=by simp
   have F:Hid (Bs .i64 wr (.slice (some ⟨N,0,none⟩) k k) (s.map Prod.fst)∧Bs .u64 wr (.slice (some ⟨M,0,none⟩) k k) (s.map Prod.snd)):=by
    have h1:=HOWN.out;have h2:=HOWN2.out;have e1:=Qmt (s.map Prod.fst);have e2:=Qmt (s.map Prod.snd);rw [List.length_map,←HN.out] at e1 e2;rw [e1] at h1;rw [e2] at h2;refine ⟨Bs.of_own (lo:=N) (E:=3) ?_,Bs.of_own (lo:=M) (E:=23) ?_⟩
    ·rw [List.length_map,←HN.out];exact h1
    ·rw [List.length_map,←HN.out];exact h2
   clear hown hown2 hon;go_wp2;go_ret2;exact ⟨_,_,rfl,F.out.1,F.out.2,HON.out⟩
section
open Go.Shelf
attribute [local go_sem] Oper.semAt_some
theorem QhQ (F:Fence) (n:Nat) (h3:F.fn 248) (hro:F.round=none) (ao:Option Addr) (cap:Nat) (w:World) :
  CallsIn F n prog 248 #[.slice ao 0 cap] w fun e W'=>e=.returned (.tuple #[.int .u64 0,.int .u64 0])∧Below w.heap.size w W':=by
 refine callsIn_of_wp_marks func248 rfl h3 ?_ hro;simp only [ntmps248,List.size_toArray,Yah,List.length_nil,Nat.reduceAdd,Nat.reduceSub,Array.replicate_succ,Array.replicate_zero,List.push_toArray,List.append_toArray,List.nil_append,List.cons_append]
 gi_wp2
 have bA:=(Boxed.new w 23 (.int .u64 0)).alloc (.cells #[.int .u64 0] 23);have bC:=Boxed.new (w.alloc (.cells #[.int .u64 0] 23)) 23 (.int .u64 0);rw [World.size_alloc] at bC;have r1:=bA.cell;have r3:=bC.cell;refine ⟨.tuple #[.int .u64 0,.int .u64 0],?_,rfl,((Below.refl _ w).alloc (Nat.le_refl _) _).alloc (by simp) _⟩;simp [results,Tryz.f248,go_sem,r1,r3]
theorem Qrw (v:Value) (xs:List Int) (w:World) (h:Bs .u64 w v xs) (hl:xs.length≤1000000000) :
  Calls prog 248 #[v] w fun e w'=>e=.returned (.tuple #[.int .u64 (lo xs),.int .u64 (hi xs)])∧Only (fun _=>False) w w':=by
 obtain ⟨ao,cap,rfl,hc,hr⟩:=h
 refine ((callsIn_wide (n:=3)).1 ?_:Calls prog 248 #[.slice ao xs.length cap] w fun e w'=>e=.returned (.tuple #[.int .u64 (lo xs),.int .u64 (hi xs)])∧Below w.heap.size w w').mono fun e w' h=>⟨h.1,Qav h.2⟩
 cases xs with
 | nil=>exact QhQ _ _ trivial rfl ao cap w
 | cons x0 zs =>
  obtain ⟨b,off,rfl,hcell⟩:=hr (by simp);have c0:w.cell? ⟨b,off,none⟩=some (.int .u64 x0):=hcell 0 (by simp)
  by_cases h1:cap=1
  ·subst h1
   have h0:zs=[]:=List.eq_nil_of_length_eq_zero (by rw [Yah] at hc;omega);subst h0;exact QhP _ _ trivial trivial trivial rfl (by omega) b off x0 w c0
  ·refine Qrv _ _ trivial trivial trivial rfl (by omega) b off cap zs x0 w c0 (by rw [Yah] at hl;omega) (by rw [Yah] at hc;omega) h1 ?_
   refine ⟨_,_,rfl,fun _=>⟨b,off+1,rfl,World.block_lt_of_cell? w _ c0,fun j hj=>?_⟩⟩;have:=hcell (j+1) (by rw [Yah];omega);rw [show off+1+j=off+(j+1) by omega,this];simp [List.getD_eq_getElem?_getD]
end
theorem QeE (x y z:List Int):cat (fun i=>if i=0 then x else if i=1 then y else z) 3=x++y++z:=by
 rw [QbG,QbG,QbG,QiW];simp
theorem Qsp (v:Value) (xs:List Int) (w:World) (h:Bs .u64 w v xs) (hu:U64 xs) (hl:xs.length≤65536) :
  Calls prog 223 #[v] w fun e w'=>∃v',e=.returned (.tuple #[v',.int .i64 0])∧w'.ownsRow w.heap.size 5 1 v' (PK xs).length ((PK xs).map (Value.int .u8))∧Only (fun _=>False) w w':=by
 have A:=Qaa (Qrw v xs w h (by omega));have HBS:=Qaa h;have HU:=Qaa hu;obtain ⟨l1,l2,l3⟩:=lohi hu;have HW:=Qaa (wd_le hu);have hwd:Hid (wd xs=wid (hi xs - lo xs).toNat):=rfl;obtain ⟨ao,cap,rfl⟩:=h.len
 have d0:decide (65536<(xs.length:Int))=false:=by simp;omega
 obtain ⟨m,hm⟩:∃m,m=xs.length:=⟨_,rfl⟩;rw [←hm] at A HBS hl d0 ⊢;have HM:=Qaa hm;clear h hu hm;obtain ⟨a,ha⟩:∃a,a=lo xs:=⟨_,rfl⟩;obtain ⟨c,hc⟩:∃c,c=hi xs:=⟨_,rfl⟩;rw [←ha,←hc] at A hwd l2;rw [←ha] at l1;rw [←hc] at l3;have HA:=Qaa ha;have HCC:=Qaa hc;clear ha hc;go_enter func223,ntmps223;go_wp2_with fail;refine A.out.mono ?_;rintro e w1 ⟨rfl,o1⟩;clear A;have HO:=Qaa o1;have BW:=Qaa (Qcb (c - a) w1 (by omega) (by omega));clear o1;go_wp2_with fail;refine BW.out.mono ?_;rintro e w1' ⟨rfl,rfl⟩;clear BW;rw [←hwd.out];have hq:=HW.out;obtain ⟨q,hqd⟩:∃q,q=wd xs:=⟨_,rfl⟩;rw [←hqd] at hq ⊢;have HQ:=Qaa hqd;clear hqd hwd HW
 have hq2:(q:Int)≤64:=by omega
 have W0:=Qaa (WrAt.new (T:=278) (E:=5) w1);have HB0:Hid (Below w1.heap.size w1 (w1.alloc (.cells #[.slice none 0 0,.int .i64 0] 278))):=(Below.refl _ _).alloc (Nat.le_refl _) _;have HSZ:=HO.out.size;go_wp2
 go_loopw [24] (fun i wr=>∃k:Nat,k≤m∧i=.int .i64 k∧Below w1.heap.size w1 wr∧∃vw,WrAt 278 5 wr (w1.heap.size+1) w1.heap.size vw (ups a q (xs.take k))) (fun i _=>m - (intOf i).toNat)
 case atStart=>exact ⟨0,Nat.zero_le _,rfl,HB0.out,_,W0.out⟩
 case round =>
  obtain ⟨k,hk,rfl,hbw,vw,hwr⟩:=hrel;clear W0 HB0;have HBW:=Qaa hbw;have HWR:=Qaa hwr
  by_cases hlt:k<m
  ·have hkx:k<xs.length:=by rw [←HM.out];exact hlt
   have hb1:=(HBS.out.keep HO.out (fun _ _ f=>f)).later hbw;obtain ⟨b,off,cap',e1,c0⟩:=hb1.at k hkx;simp only [Value.slice.injEq] at e1;obtain ⟨rfl,e2,rfl⟩:=e1;clear e2
   have hxm:xs.getD k 0∈xs:=by rw [Yad,Yaf hkx];simp
   obtain ⟨x0,x1⟩:=HU.out _ hxm;have x2:=lo_le xs _ hxm;rw [←HA.out] at x2;have x3:=Qrz xs _ hxm;rw [←HA.out,←HQ.out] at x3
   have htk:Hid (ups a q (xs.take (k+1))=ups a q (xs.take k)++Qaj (xs.getD k 0 - a).toNat q):=by
    simp only [Hid];rw [Qa4 xs k hkx,QoC]
   have hln:(ups a q (xs.take k)).length≤1000000000:=by
    rw [Qfa,Yag];have:min k xs.length*q≤65536*64:=Nat.mul_le_mul (by omega) hq;omega
   obtain ⟨x,hx⟩:∃x,x=xs.getD k 0:=⟨_,rfl⟩;rw [←hx] at c0 x0 x1 x2 x3 htk;have PU:=Qaa (QcO hwr (x - a) q (by omega) hq2 (by omega) (by omega) (by omega) hln)
   have dlt:decide ((k:Int)<(m:Int))=true:=by simp;omega
   clear hb1 hx hxm x3 hln hwr hbw hkx;go_wp2_with fail;refine PU.out.mono ?_;rintro e w2 ⟨rfl,vw2,hw2,on2,st2⟩;have HB2:=Qaa (HBW.out.trans (on2.below (B:=w1.heap.size) HBW.out.size (HWR.out.foot_ge (Nat.le_refl _))));have HW2:=Qaa hw2;clear PU hw2 on2 st2;go_wp2
   go_roundw
   case rel=>exact ⟨k+1,by omega,by simp,HB2.out,vw2,by rw [htk.out];simpa using HW2.out⟩
   case measure=>simp [intOf];omega
  ·obtain rfl:k=m:=by omega
   have dlt:decide ((k:Int)<(k:Int))=false:=by simp
   have AP:=Qaa (Qaz (.slice none 0 0) [] a wr (Bs.nil _ _) NoCap.nil (by simp) l1 (by omega));clear hwr hbw;go_wp2_with fail;refine AP.out.mono ?_;rintro e w3 ⟨v3,rfl,own3,on3⟩;clear AP;rw [List.nil_append] at own3
   have hq256:(q:Int)<256:=by omega
   have HG10:=Qaa (QaC (v:=a.toNat) (by omega));have W3:=HWR.out.keep ((on3.trans ((Only.refl (fun _=>False) w3).alloc (.cells #[.int .u8 q] 5)) (fun _ _ f=>f))) (fun f=>f) (fun _ _ f=>f)
   have hup:Hid (ups a q (xs.take k)=up xs):=by
    simp only [Hid];rw [HM.out,List.take_length,up,←HA.out,←HQ.out]
   rw [hup.out] at W3
   have hlen:(up xs).length≤65536*64:=by rw [Qgv,←HQ.out,←HM.out];exact Nat.mul_le_mul hl hq
   have BY:=Qaa (QdU W3 (by omega));have O3:=Qaa on3;have W3':=Qaa own3;have HLEN:=Qaa hlen;clear on3 own3 W3 hlen;go_wp2_with fail;refine BY.out.mono ?_;rintro e w4 ⟨v4,rfl,own4,on4⟩;have own3:=on4.own (((Only.refl (fun _=>False) w3).alloc (.cells #[.int .u8 q] 5)).own W3'.out (fun _ _ f=>f)) (fun _ _ f=>f);clear BY;have b1:Bs .u8 w4 (.slice (some ⟨w3.heap.size,0,none⟩) 1 1) [(q:Int)]:=(Bs.lit .u8 w3 5 [(q:Int)]).keep on4 (fun _ _ f=>f);have hbl:Below w4.heap.size w4 (w4.alloc (.cells #[v3,.slice (some ⟨w3.heap.size,0,none⟩) 1 1,v4] 22)):=(Below.refl _ _).alloc (Nat.le_refl _) _
   have CC:=Qaa (Qc4 w4.heap.size 3 (fun i=>if i=0 then v3 else if i=1 then .slice (some ⟨w3.heap.size,0,none⟩) 1 1 else v4) (fun i=>if i=0 then gs a.toNat else if i=1 then [(q:Int)] else QaD (up xs)) (w4.alloc (.cells #[v3,.slice (some ⟨w3.heap.size,0,none⟩) 1 1,v4] 22)) (by omega) (by omega)
    (by
     intro i hi
     have:i=0∨i=1∨i=2:=by omega
     rcases this with rfl | rfl | rfl <;> go_cell)
    (by
     intro i hi
     have:i=0∨i=1∨i=2:=by omega
     rcases this with rfl | rfl | rfl
     ·exact (Bs.of_own own3).later hbl
     ·exact b1.later hbl
     ·exact (Bs.of_own own4).later hbl)
    (by
     intro i hi
     have:i=0∨i=1∨i=2:=by omega
     rcases this with rfl | rfl | rfl
     ·exact NoCap.of_own own3
     ·exact NoCap.some _ _ _
     ·exact NoCap.of_own own4)
    (by rw [QeE];simp;omega)
    (by
     rw [QeE,Yae,Yae,QaI,nb]
     have:=HLEN.out;have:=HG10.out;simp;omega))
   rw [QeE] at CC;have O4:=Qaa on4;obtain ⟨f3,cp3,hv3⟩:=(Bs.of_own own3).len;obtain ⟨f4,cp4,hv4⟩:=(Bs.of_own own4).len;subst hv3 hv4;clear own3 own4 on4 b1 hbl;go_wp2_with fail;refine CC.out.mono ?_;rintro e w5 ⟨v5,rfl,own5,on5⟩
   have hpk:gs a.toNat++[(q:Int)]++QaD (up xs)=PK xs:=by unfold PK;rw [←HA.out,←HQ.out];simp
   rw [hpk] at own5;have s4:=O4.out.size;have s3:=O3.out.size;have sr:=HBW.out.size;simp only [World.size_alloc] at own5 s4;have own6:=Qaa (Qaf own5 (show w.heap.size≤w4.heap.size+1 by omega));have bl:Hid (Below w.heap.size w w5):=((((HO.out.low (Nat.le_refl _)).trans (HBW.out.mono HSZ)).trans (O3.out.low (by omega))).trans ((((Below.refl _ w3).alloc (by omega) _)).trans (O4.out.low (by simp;omega)))).trans (((Below.refl _ w4).alloc (by omega) _).trans (on5.low (by simp;omega)));clear own5 on5 CC hpk;obtain ⟨f5,cp5,hv5⟩:=(Bs.of_own own6.out).len;subst hv5;go_wp2;go_ret2;exact ⟨_,rfl,own6.out,Qav bl.out⟩
theorem dclo (c:Nat) (x a:Int) (w:World) (hc:w.cell? ⟨c,0,none⟩=some (.int .i64 a)) (hf:w.frozen? ⟨c,0,none⟩=false) :
  Calls prog 247 #[.int .i64 x,.pointer (some ⟨c,0,none⟩)] w fun e w'=>e=.returned (.int .i64 (wrap64 (x - a)))∧w'=w.setCell ⟨c,0,none⟩ (.int .i64 x):=by
 go_enter func247,ntmps247;go_wp2;go_ret;exact ⟨rfl,rfl⟩
theorem Qlx {f:Int→List Int→List Int} {st:Int→Int→Int × Int} (hf:∀a x t,f a (x :: t)=(st a x).1 :: f (st a x).2 t) (xs:List Int) (j:Nat) (a:Int) (hj:j<xs.length) :
  (xs.set j (st a (xs.getD j 0)).1).take (j+1)++f (st a (xs.getD j 0)).2 ((xs.set j (st a (xs.getD j 0)).1).drop (j+1))=xs.take j++f a (xs.drop j):=by
 have e1:xs.drop j=xs.getD j 0 :: xs.drop (j+1):=by
  rw [Yad,Yaf hj];exact List.drop_eq_getElem_cons hj
 rw [e1,hf,List.take_add_one,List.take_set_of_le (Nat.le_refl _),List.drop_set_of_lt (Nat.lt_succ_self _),List.getElem?_set_self hj];simp
theorem rep_d (lo c st n:Nat) (a0:Int) (v:Value) (xs:List Int) (w:World) (hn:xs.length=n) (hown:w.ownsRow lo 3 1 v n (xs.map (Value.int .i64)))
  (hc:w.cell? ⟨c,0,none⟩=some (.int .i64 a0)) (hf:w.frozen? ⟨c,0,none⟩=false) (hne:∀k,v.ownBlock=some k→k≠c) (hl:n≤1000000) (hs:st≤1000000) :
  Calls prog 221 #[v,.int .i64 st,.func (.func 247) #[] #[.pointer (some ⟨c,0,none⟩)]] w fun e w'=>e=.returned (.tuple #[]) ∧
   w'.ownsRow lo 3 1 v n ((xs.take st++dif a0 (xs.drop st)).map (Value.int .i64))∧Only (fun k=>v.ownBlock=some k∨k=c) w w':=by
 have hform:v=.slice none 0 0∧n=0∨∃g cap,v=.slice (some ⟨g,0,none⟩) n cap:=by
  rcases hown.2 with h | ⟨g,cap,cur,h,_⟩
  ·exact .inl h
  ·exact .inr ⟨g,cap,h⟩
 obtain ⟨fin,hfin⟩:∃fin,fin=xs.take st++dif a0 (xs.drop st):=⟨_,rfl⟩;rw [←hfin]
 rcases hform with ⟨rfl,rfl⟩ | ⟨g,cap,rfl⟩
 ·have hx:xs=[]:=List.eq_nil_of_length_eq_zero hn
  subst hx
  have hfin':fin=[]:=by rw [hfin];simp [dif]
  subst hfin';have H:=Qaa hown;clear hown hfin hc hf hne hn;go_enter func221,ntmps221;go_wp2
  go_loop [6] (fun i=>i=.int .i64 st) (fun _=>0)
  case atStart=>rfl
  case round =>
   subst hrel;go_wp2
   go_end0
   exact ⟨rfl,H.out,Only.refl _ _⟩
 ·have hgc:g≠c:=hne g rfl
  have START:=Qaa (And.intro hown (And.intro hc hf));have HF:=Qaa hfin;have HN:=Qaa hn;clear hown hc hf hfin hne hn;go_enter func221,ntmps221;go_wp2
  go_loopw [6] (fun i wr=>∃(j:Nat) (ys:List Int) (a:Int),j≤1000000∧i=.int .i64 j∧ys.length=n∧wr.ownsRow lo 3 1 (.slice (some ⟨g,0,none⟩) n cap) n (ys.map (Value.int .i64)) ∧
    wr.cell? ⟨c,0,none⟩=some (.int .i64 a)∧wr.frozen? ⟨c,0,none⟩=false∧fin=ys.take j++dif a (ys.drop j)∧Only (fun k=>k=g∨k=c) w wr) (fun i _=>n - (intOf i).toNat)
  case atStart=>exact ⟨st,xs,a0,hs,rfl,HN.out,START.out.1,START.out.2.1,START.out.2.2,HF.out,Only.refl _ _⟩
  case round =>
   obtain ⟨j,ys,a,hj,rfl,hyl,hown,hc,hf,hfin,hon⟩:=hrel;clear START HF HN
   by_cases hlt:j<n
   ·have hcell:wr.cell? ⟨g,j,none⟩=some (.int .i64 (ys.getD j 0)):=by
     rw [hown.cellAt j (by omega),List.getElem?_map,Yaf (by omega),Yad,Yaf (by omega)]
     rfl
    have hrnd:=Qlx (f:=dif) (st:=fun a x=>(wrap64 (x - a),x)) (fun _ _ _=>rfl) ys j a (by omega);obtain ⟨y,hy⟩:∃y,y=ys.getD j 0:=⟨_,rfl⟩;rw [←hy] at hcell hrnd;have A:=Qaa (dclo c y a wr hc hf)
    have hcell2:(wr.setCell ⟨c,0,none⟩ (.int .i64 (y))).cell? ⟨g,j,none⟩=some (.int .i64 y):=by
     rw [World.cell?_setCell_other (h:=by intro h;exact hgc (by cases h;rfl))];exact hcell
    have hfr2:(wr.setCell ⟨c,0,none⟩ (.int .i64 (y))).frozen? ⟨g,j,none⟩=false:=by
     rw [World.frozen?_setCell];exact hown.frozenAt _
    have hon2:Only (fun k=>k=g∨k=c) w (wr.setCell ⟨c,0,none⟩ (.int .i64 (y))):=hon.setCell (fun _=>.inr rfl) _
    have hown2:(wr.setCell ⟨c,0,none⟩ (.int .i64 (y))).ownsRow lo 3 1 (.slice (some ⟨g,0,none⟩) n cap) n (ys.map (Value.int .i64)) :=
     ((Only.refl (fun k=>k=c) wr).setCell (p:=⟨c,0,none⟩) (fun _=>rfl) _).own hown (fun k hk=>by simp [Value.ownBlock] at hk;omega)
    have hc2:(wr.setCell ⟨c,0,none⟩ (.int .i64 (y))).cell? ⟨c,0,none⟩=some (.int .i64 (y)):=World.cell?_setCell_same _ _ _ hc
    have hf2:(wr.setCell ⟨c,0,none⟩ (.int .i64 (y))).frozen? ⟨c,0,none⟩=false:=by rw [World.frozen?_setCell];exact hf
    have H:=Qaa (And.intro hon2 (And.intro hown2 (And.intro hc2 (And.intro hf2 (And.intro hfin hrnd)))))
    have i0:(0:Int)≤(j:Int):=by omega
    have i1:(j:Int)<(n:Int):=by omega
    clear hown hc hf hfin hon hon2 hown2 hc2 hf2 hrnd;have HY:=Qaa hy;have HYL:=Qaa hyl;clear hy hyl;go_wp2_with fail;refine A.out.mono ?_;rintro e w1 ⟨rfl,rfl⟩;clear A;go_wp2
    go_roundw
    case rel =>
     refine ⟨j+1,ys.set j (wrap64 (y - a)),y,by omega,by go_num,by rw [List.length_set];exact HYL.out,?_,?_,?_,?_,?_⟩
     ·have h1:=(H.out.2.1.stored j (.int .i64 (wrap64 (y - a)))).1
      rw [←List.map_set] at h1;exact h1
     ·rw [World.cell?_setCell_other (h:=by intro h;exact hgc (by cases h;rfl))];exact H.out.2.2.1
     ·rw [World.frozen?_setCell];exact H.out.2.2.2.1
     ·rw [H.out.2.2.2.2.1];exact H.out.2.2.2.2.2.symm
     ·exact H.out.1.setCell (fun _=>.inl rfl) _
    case measure=>simp [intOf];omega
   ·have e1:fin=ys:=by
     rw [hfin,List.drop_of_length_le (by omega),List.take_of_length_le (by omega)];simp [dif]
    subst e1;have H:=Qaa (And.intro hown hon);clear hown hon hc hf hfin;have HYL:=Qaa hyl;clear hyl;go_wp2
    go_end0
    exact ⟨rfl,H.out.1,H.out.2.mono (fun i _ h=>h.imp (fun e=>by rw [e];rfl) id)⟩
theorem Tryz.infoCI:(prog.info? 3).map (fun i=>(i.zero,i.size,i.bytes))=some (some (.int .i64 0),1,8):=by kernel_rfl
theorem Qj4 (c:Nat) (w:World):Calls prog 220 #[.slice none 0 c] w fun e w'=>e=.returned (.slice none 0 0)∧w=w':=by
 have hnil:∀W,(binOp .eql 175 (.slice none 0 c) (.slice none 0 0)).run prog W=.ok (.bool true) W:=fun W=>by
  rw [Lib.run_eql_slice_nil W 175 3 none 0 c 0 0 underlying175];rfl
 go_enter func220,ntmps220;go_wp2;go_ret;exact ⟨rfl,rfl⟩
theorem QhI (ad:Addr) (m c:Nat) (news:List Value) (w:World) (hl:news.length=m) (hnews:∀j u,news[j]? = some u→w.cell? (ad.add j)=some u) (h1:∀u∈news,u.oneCell'=true) (hm:m≤1000000) :
  Calls prog 220 #[.slice (some ad) m c] w fun e w'=>∃v',e=.returned v'∧w'.ownsRow w.heap.size 3 1 v' m news∧Only (fun _=>False) w w'∧v'≠.slice none 0 0:=by
 obtain ⟨i0,hi,hz0,hz1,hz2⟩:=info_parts Tryz.infoCI
 have hnil:∀W,(binOp .eql 175 (.slice (some ad) m c) (.slice none 0 0)).run prog W=.ok (.bool false) W:=fun W=>by
  rw [Lib.run_eql_slice_nil W 175 3 (some ad) m c 0 0 underlying175];rfl
 have ho:=World.ownsRow_made (base:=w.heap.size) (e:=3) (size:=1) w #[] 0 (Nat.le_refl _) (by unfold maxLen;omega) rfl;have HN:Hid (∀j u,news[j]? = some u→w.cell? (ad.add j)=some u):=hnews;clear hnews;go_enter func220,ntmps220;go_wp2_with (at_builtin;refine wpList_append_own_at _ rfl _ _ _ rfl w.heap.size 3 i0 (.int .i64 0) 1 8 underlying175 hi hz0 hz1 hz2 rfl (by omega) (.slice (some ⟨w.heap.size,0,none⟩) 0 0) 0 [] rfl ho ad m c news rfl ?c0 ?c1 h1 ?c3 ?c4 ?c5 ?_)
 case c0=>omega
 case c1 =>
  intro j u hu;have h0:=HN.out j u hu;rw [World.cell?_of_block (Below.heap_alloc w _ _ (World.block_lt_of_cell? w _ h0))];exact h0
 case c3=>unfold maxLen;omega
 case c4=>omega
 case c5=>simp
 intro v' w1 hown1 hgrow hnn hat
 have FIN:Hid (w1.ownsRow w.heap.size 3 1 v' m news∧Only (fun _=>False) w w1∧v'≠.slice none 0 0):=by
  refine ⟨by simpa using hown1,((Only.refl _ _).alloc _).grown hgrow (fun k hk e=>?_),hnn⟩;simp [Value.ownBlock] at e;omega
 clear hown1 hgrow hnn hat ho;go_wp2;go_ret;exact ⟨v',rfl,FIN.out⟩
theorem Qlm (v:Value) (xs:List Int) (w:World) (h:Bs .i64 w v xs) (hm:xs.length≤1000000) :
  Calls prog 220 #[v] w fun e w'=>∃v',e=.returned v'∧w'.ownsRow w.heap.size 3 1 v' xs.length (xs.map (Value.int .i64))∧Only (fun _=>False) w w':=by
 obtain ⟨ao,cap,rfl,hc,hr⟩:=h
 cases ao with
 | none =>
  have hx:xs=[]:=by
   cases xs with
   | nil=>rfl
   | cons a t=>obtain ⟨b,off,h,_⟩:=hr (by simp);cases h
  subst hx;refine (Qj4 cap w).mono ?_;rintro e w' ⟨rfl,rfl⟩;exact ⟨_,rfl,World.ownsRow_nil _ _ _ _,Only.refl _ _⟩
 | some ad =>
  refine (QhI ad xs.length cap (xs.map (Value.int .i64)) w (by simp) ?_ (QaP _ _) hm).mono ?_
  ·intro j u hu
   have hj:j<xs.length:=by
    have:=(List.getElem?_eq_some_iff.1 hu).1
    simpa using this
   obtain ⟨b,off,hb,hcell⟩:=hr (by intro h;subst h;simp at hj)
   cases hb
   have hadd:(⟨b,off,none⟩:Addr).add j=⟨b,off+j,none⟩:=by unfold Addr.add;split <;> simp_all
   rw [hadd,hcell j hj];rw [←hu];simp [List.getElem?_eq_getElem hj]
  ·rintro e w' ⟨v',rfl,h1,h2,_⟩
   exact ⟨v',rfl,h1,h2⟩
theorem Qgr {w:World} {lo:Nat} {E:TypeId} {size:Nat} {v:Value} {n:Nat} {xs:List Value} (h:w.ownsRow lo E size v n xs) {b:Nat} (hb:v.ownBlock=some b):lo≤b∧b<w.heap.size:=by
 rcases h.2 with ⟨rfl,_⟩ | ⟨g,cap,cur,rfl,hg,hh,_⟩
 ·simp [Value.ownBlock] at hb
 ·simp [Value.ownBlock] at hb
  subst hb;exact ⟨hg,(Array.getElem?_eq_some_iff.1 hh).1⟩
theorem Qop (k:Nat) (w:World) (hk:k≤3):Calls prog 219 #[.int .i64 k] w fun e w'=>e=.returned (.bool true)∧w=w':=by
 have h1:decide ((0:Int)≤k)=true:=Yaj (by omega);have h2:decide ((k:Int)≤3)=true:=Yaj (by omega);go_enter func219,ntmps219;go_wp2;go_ret;exact ⟨rfl,rfl⟩
theorem Qoq (w:World):(w.alloc (.cells #[.int .i64 0] 3)).cell? ⟨w.heap.size,0,none⟩=some (.int .i64 0) ∧
  (w.alloc (.cells #[.int .i64 0] 3)).frozen? ⟨w.heap.size,0,none⟩=false∧Only (fun _=>False) w (w.alloc (.cells #[.int .i64 0] 3)) :=
 ⟨by rw [World.cell?_alloc_at _ _ _ _ rfl];rfl,World.frozen?_alloc_at _ _ _ _ rfl,(Only.refl _ _).alloc _⟩
theorem Qed (w:World):Calls prog 222 #[] w fun e w'=>e=.returned (.func (.func 247) #[] #[.pointer (some ⟨w.heap.size,0,none⟩)]) ∧
  w'.cell? ⟨w.heap.size,0,none⟩=some (.int .i64 0)∧w'.frozen? ⟨w.heap.size,0,none⟩=false∧Only (fun _=>False) w w':=by
 have hmf:∀(fn:Fn) (first cap:Array Value) (w:World),(Instr.makeFunc fn first cap).run prog w=.ok (.func fn first cap) w:=fun _ _ _ _=>rfl
 have H:=Qaa (Qoq w);go_enter func222,ntmps222;go_wp2;go_ret;exact ⟨rfl,H.out⟩
theorem Qrl (v:Value) (xs:List Int) (k:Nat) (w:World) (hb:Bs .i64 w v xs) (hl:xs.length≤1000000) (hk:k≤3) :
  Calls prog 192 #[v,.int .i64 k] w fun e w'=>∃v',e=.returned (.tuple #[v',.int .i64 0])∧w'.ownsRow w.heap.size 3 1 v' xs.length ((D k xs).map (Value.int .i64))∧Only (fun _=>False) w w':=by
 have A0:=Qaa (Qop k w hk);have A1:=Qaa (Qlm v xs w hb hl);obtain ⟨n,hn⟩:∃n,n=xs.length:=⟨_,rfl⟩;rw [←hn] at hl A1 ⊢;obtain ⟨N,hN⟩:∃N,N=w.heap.size:=⟨_,rfl⟩;rw [←hN] at A1 ⊢;have HN:=Qaa (And.intro hn hN);clear hn hN hb;go_enter func192,ntmps192;go_wp2_with fail;refine A0.out.mono ?_;rintro e w1 ⟨rfl,rfl⟩;clear A0;go_wp2_with fail;refine A1.out.mono ?_;rintro e w1 ⟨v',rfl,own1,on1⟩;have H1:=Qaa (And.intro own1 on1);clear A1 own1 on1;go_wp2
 go_loopw [14] (fun i wr=>∃j:Nat,j≤k∧i=.int .i64 j∧wr.ownsRow N 3 1 v' n ((D j xs).map (Value.int .i64))∧Only (fun _=>False) w wr) (fun i _=>k - (intOf i).toNat)
 case atStart=>exact ⟨0,Nat.zero_le _,rfl,H1.out⟩
 case round =>
  obtain ⟨j,hj,rfl,hown,hon⟩:=hrel;clear H1
  by_cases hlt:j<k
  ·have H:=Qaa (And.intro hown hon)
   clear hown hon;have A2:=Qaa (Qed wr);go_wp2_with fail;refine A2.out.mono ?_;rintro e w2 ⟨rfl,hc,hf,on2⟩;have hown2:=on2.own H.out.1 (fun _ _ f=>f)
   have hln:(D j xs).length=n:=by rw [Qd0];exact HN.out.1.symm
   have A3:=Qaa (rep_d N wr.heap.size j n 0 v' (D j xs) w2 hln hown2 hc hf (fun b hb=>Nat.ne_of_lt (Qgr H.out.1 hb).2) hl (by omega));have H2:=Qaa (And.intro on2 hown2);clear A2 hc hf on2 hown2;go_wp2_with fail;refine A3.out.mono ?_;rintro e w3 ⟨rfl,hown3,on3⟩;have H3:=Qaa (And.intro hown3 on3);clear A3 hown3 on3;go_wp2
   go_roundw
   case rel =>
    refine ⟨j+1,by omega,by go_num,H3.out.1,?_⟩;have o2:=H.out.2.trans H2.out.1 (fun _ _ f=>f);refine o2.trans H3.out.2 (fun i hi h=>?_)
    rcases h with h | h
    ·have:=(Qgr H.out.1 h).1
     have:=HN.out.2;omega
    ·have:=H.out.2.size
     omega
   case measure=>simp [intOf];omega
  ·have e1:j=k:=by omega
   subst e1;have H:=Qaa (And.intro hown hon);clear hown hon;go_wp2;go_ret2;exact ⟨_,rfl,H.out⟩
end Go.Proofs.YtnhapmboienipaaGreatDoor
