import Derived.Deep.AppendLies
import Derived.Laws.AppendOwnNone
import Derived.OpenShut
import Derived.RangeFuncNested
import Derived.RangeFuncBound
import Derived.Shelf.RegionOpen
import Derived.OwnWalkIn
import Derived.LoopNIn
import Derived.LoopIn
import Derived.Test.YtoflhbghdlaeaaaGreatDoorProg
import Derived.WalkSpells
namespace Go.Proofs.YtoflhbghdlaeaaaGreatDoor
set_option maxHeartbeats 2000000
set_option maxRecDepth 100000
open Go.RowKit _root_.Go.Proofs.Tryz
theorem _root_.Go.RowKit.Hid.o {p:Prop} (h:Hid p):p:=h
abbrev LI:=List Int
variable {w w' W:World} {v:Value} {ys xs l:LI} {R n p k g B:Nat} {P:Program} {ls:List (LI)} {E:TypeId}
theorem EX {α:Sort _} (a:α):∃x,x=a:=⟨a,rfl⟩
theorem Qp {α:Type _} (l:List α) (i:Nat) (a:α):l.toArray.setIfInBounds i a=(l.set i a).toArray:=List.setIfInBounds_toArray l i a
theorem Qj {α:Type _} {x:α} {xs:List α} {a:α}:(x :: xs).set 0 a=a :: xs:=rfl
theorem Qn {α:Type _} {x:α} {xs:List α} {i:Nat} {a:α}:(x :: xs).set (i+1) a=x :: xs.set i a:=rfl
theorem Qd {α:Type _} {l:List α} {i:Nat} {a:α}:l.getD i a=l[i]?.getD a:=List.getD_eq_getElem?_getD
theorem Qc {α:Type _} {l m:List α}:(l++m).length=l.length+m.length:=List.length_append
theorem Qg {α:Type _} {l:List α} {i:Nat} (h:i<l.length):l[i]? = some l[i]:=List.getElem?_eq_getElem h
theorem Qf {α:Type _} {i:Nat} {l:List α}:(List.take i l).length=min i l.length:=List.length_take
theorem Qi {α:Type _} {a:α} {l:List α}:(a :: l).length=l.length+1:=rfl
theorem Qo {α:Type _} {i:Nat} {l:List α}:(List.drop i l).length=l.length - i:=List.length_drop
theorem Qe {p:Prop} [inst:Decidable p] (h:p):decide p=true:=decide_eq_true h
theorem Qb {p:Prop} [inst:Decidable p] (h:¬p):decide p=false:=decide_eq_false h
theorem Qa {p:Prop} (h:p):Hid p:=h
theorem YP {k:IntKind} {a b:Int} (h:a=b):Ending.returned (.int k a)=.returned (.int k b):=by rw[h]
structure Only (S:Nat->Prop) (w w':World):Prop where
 os:w'.os=w.os
 tape:w'.tape=w.tape
 output:w'.output=w.output
 size:w.heap.size<=w'.heap.size
 block:∀k,k<w.heap.size->¬S k->w'.heap[k]? = w.heap[k]?
abbrev N0:=Only (fun _=>False)
theorem Only.refl (S:Nat->Prop) (w:World):Only S w w:=⟨rfl,rfl,rfl,Nat.le_refl _,λ_ _ _=>rfl⟩
theorem Only.trans {S T:Nat->Prop} {a b c:World} (h:Only S a b) (k:Only T b c) (hT:∀i,i<a.heap.size->T i->S i):Only S a c :=
 ⟨k.os.trans h.os,k.tape.trans h.tape,k.output.trans h.output,Nat.le_trans h.size k.size,
  λi hi hs=>(k.block i (Nat.lt_of_lt_of_le hi h.size) (λt=>hs (hT i hi t))).trans (h.block i hi hs)⟩
theorem Only.mono {S T:Nat->Prop} {a b:World} (h:Only S a b) (hT:∀i,i<a.heap.size->S i->T i):Only T a b :=
 ⟨h.os,h.tape,h.output,h.size,λi hi hs=>h.block i hi (λs=>hs (hT i hi s))⟩
theorem Only.drew {S:Nat->Prop} {a b:World} (h:Only S a b):Only S a b.drew:=⟨h.os,h.tape,h.output,h.size,h.block⟩
theorem Only.alloc {S:Nat->Prop} {a b:World} (h:Only S a b) (o:Obj):Only S a (b.alloc o) :=
 h.trans (T:=λ_=>False) ⟨rfl,rfl,rfl,by simp,λk hk _=>Below.heap_alloc _ _ _ hk⟩ (λ_ _ f=>f.elim)
theorem Only.setCell {S:Nat->Prop} {a b:World} (h:Only S a b) {p:Addr} (hp:p.block<a.heap.size->S p.block) (u:Value):Only S a (b.setCell p u) :=
 h.trans (T:=λk=>k=p.block) ⟨rfl,rfl,rfl,by simp[World.setCell],λk _ hk=>Below.heap_setCell _ _ _ _ hk⟩ (λ_ hi e=>by subst e;exact hp hi)
theorem Only.grown {S:Nat->Prop} {a b c:World} {row:Option Nat} (h:Only S a b) (hg:b.grownBy c row) (hr:∀k,k<a.heap.size->row=some k->S k):Only S a c :=
 h.trans (T:=λk=>row=some k) ⟨hg.os,hg.tape,hg.output,hg.size,λk hk hs=>hg.block k hk (λe=>hs e.symm)⟩ hr
theorem Only.below {S:Nat->Prop} {a b:World} (h:Only S a b) {B:Nat} (hB:B<=a.heap.size) (hS:∀k,S k->B<=k):Below B a b :=
 ⟨h.os,h.tape,h.output,h.size,λk hk=>h.block k (by omega) (λs=>by have:=hS k s;omega)⟩
theorem Only.heap {S:Nat->Prop} {a b:World} (h:Only S a b) {k:Nat} {o:Obj} (hk:a.heap[k]? = some o) (hs:¬S k):b.heap[k]? = some o:=by
 rw[h.block k (Array.getElem?_eq_some_iff.1 hk).1 hs];exact hk
theorem Only.own {S:Nat->Prop} {a b:World} (h:Only S a b) {base:Nat} {e:TypeId} {size:Nat} {v:Value} {n:Nat} {xs:List Value} (ho:a.ownsRow base e size v n xs)
 (hs:∀k,v.ownBlock=some k->¬S k):b.ownsRow base e size v n xs:=by
 refine⟨ho.1,?_⟩
 rcases ho.2 with hn | ⟨g,cap,cur,rfl,hb,hg,rest⟩
 ·exact .inl hn
 ·exact .inr ⟨g,cap,cur,rfl,hb,h.heap hg (hs g rfl),rest⟩
theorem Only.drewN {S:Nat->Prop} {a b:World} (h:Only S a b) (n:Nat):Only S a (b.drewN n):=⟨h.os,h.tape,h.output,h.size,h.block⟩
def Bs (k:IntKind) (w:World) (v:Value) (xs:LI):Prop :=
 ∃ao cap,v=.slice ao xs.length cap∧xs.length<=cap∧(xs≠[]->∃b off,ao=some ⟨b,off,none⟩∧∀j,j<xs.length->w.cell? ⟨b,off+j,none⟩=some (.int k (xs.getD j 0)))
theorem Bs.of_own {k:IntKind} {lo:Nat} (h:w.ownsRow lo E 1 v xs.length (xs.map (Value.int k))):Bs k w v xs:=by
 rcases h.2 with ⟨rfl,h0⟩ | ⟨g,cap,cur,rfl,_,_,hc,_⟩
 ·have:xs=[]:=List.eq_nil_of_length_eq_zero h0
  subst this;exact⟨none,0,rfl,Nat.le_refl _,λh=>absurd rfl h⟩
 ·refine⟨_,cap,rfl,hc,λ_=>⟨g,0,rfl,λj hj=>?_⟩⟩
  rw[Nat.zero_add,h.cellAt j (by omega)];simp[List.getElem?_eq_getElem hj]
theorem Bs.keep {k:IntKind} (h:Bs k w v xs) {S:Nat->Prop} (ho:Only S w w') (hs:∀b,v.ownBlock=some b->¬S b):Bs k w' v xs:=by
 obtain⟨ao,cap,rfl,hc,hr⟩:=h;refine⟨ao,cap,rfl,hc,λhx=>?_⟩;obtain⟨b,off,rfl,h1⟩:=hr hx;refine⟨b,off,rfl,λj hj=>?_⟩;have h0:=h1 j hj;rw[<-h0];exact World.cell?_of_block (ho.block b (World.block_lt_of_cell? w _ h0) (hs b rfl))
theorem Uw (h:Below w.heap.size w w'):N0 w w':=⟨h.os,h.tape,h.output,h.size,λk hk _=>h.block k hk⟩
theorem Only.low (h:N0 w w') {N:Nat} (hN:N<=w.heap.size):Below N w w':=h.below hN (λ_ f=>f.elim)
theorem K9 (k:IntKind) (xs:LI):∀u∈xs.map (Value.int k),u.oneCell'=true:=by
 intro u hu;simp at hu;obtain⟨x,_,rfl⟩:=hu;rfl
theorem Bs.len {k:IntKind} (h:Bs k w v xs):∃ao cap,v=.slice ao xs.length cap:=by
 obtain⟨ao,cap,rfl,_⟩:=h;exact⟨ao,cap,rfl⟩
theorem Bs.later {k:IntKind} (h:Bs k w v xs) (hb:Below w.heap.size w w'):Bs k w' v xs:=by
 obtain⟨ao,cap,rfl,hc,hr⟩:=h;refine⟨ao,cap,rfl,hc,λhx=>?_⟩;obtain⟨b,off,rfl,h0⟩:=hr hx;exact⟨b,off,rfl,λj hj=>(hb.cell (p:=⟨b,off+j,none⟩) (World.block_lt_of_cell? w _ (h0 j hj))).trans (h0 j hj)⟩
theorem Bs.at {k:IntKind} (h:Bs k w v xs) (j:Nat) (hj:j<xs.length):∃b off cap,v=.slice (some ⟨b,off,none⟩) xs.length cap∧w.cell? ⟨b,off+j,none⟩=some (.int k (xs.getD j 0)):=by
 obtain⟨ao,cap,rfl,hc,hr⟩:=h;obtain⟨b,off,rfl,h1⟩:=hr (by intro h0;subst h0;simp at hj);exact⟨b,off,cap,rfl,h1 j hj⟩
theorem Bs.cut0 {k:IntKind} {ao:Option Addr} {m n:Nat} (h:Bs k w (.slice ao m n) xs) (hn:n<=m):Bs k w (.slice ao (m - n) 0) (xs.drop n):=by
 obtain⟨ao',cap,e,hc,_⟩:=h;simp at e;obtain⟨rfl,rfl,rfl⟩:=e;have hx:xs.drop n=[]:=List.drop_of_length_le (by omega);rw[hx];exact⟨ao,0,by simp;omega,Nat.le_refl _,λh=>absurd rfl h⟩
theorem Bs.cut {k:IntKind} {ao:Option Addr} {m cap n:Nat} (h:Bs k w (.slice ao m cap) xs) (hn:n<=m):Bs k w (.slice (ao.map (λx=>x.add n)) (m - n) (cap - n)) (xs.drop n):=by
 obtain⟨ao',cap',e,hc,hr⟩:=h;simp at e;obtain⟨rfl,rfl,rfl⟩:=e;refine⟨_,cap - n,by rw[Qo],by rw[Qo];omega,λhne=>?_⟩
 have hlt:n<xs.length:=by
  rcases Nat.lt_or_ge n xs.length with h | h
  ·exact h
  ·exact absurd (List.drop_of_length_le h) hne
 obtain⟨b,off,rfl,h1⟩:=hr (by intro h0;subst h0;simp at hlt)
 have h2:(⟨b,off,none⟩:Addr).add n=⟨b,off+n,none⟩:=by unfold Addr.add;split <;> simp_all
 refine⟨b,off+n,by simp[h2],λj hj=>?_⟩;rw[Qo] at hj;rw[Nat.add_assoc,h1 (n+j) (by omega)];simp[List.getD_eq_getElem?_getD]
theorem yz (ao:Option Addr) (m cap n m' cap':Nat):(Value.slice (ao.map (λx=>x.add n)) m cap).ownBlock=(Value.slice ao m' cap').ownBlock:=by
 cases ao with
 | none=>rfl
 | some a =>
  simp only[Option.map_some,Value.ownBlock]
  congr 1
  unfold Addr.add
  split <;> rfl
def NoCap (v:Value):Prop:=∀m c,v=.slice none m c->c=0
theorem NoCap.nil:NoCap (.slice none 0 0):=λm c e=>by cases e;rfl
theorem NoCap.some (a:Addr) (m c:Nat):NoCap (.slice (some a) m c):=λm c e=>by cases e
theorem NoCap.of_own {lo:Nat} {size:Nat} {xs:List Value} (h:w.ownsRow lo E size v n xs):NoCap v:=by
 rcases h.2 with ⟨rfl,_⟩ | ⟨g,cap,cur,rfl,_⟩
 ·exact NoCap.nil
 ·exact NoCap.some _ _ _
theorem Bs.nil (k:IntKind) (w:World):Bs k w (.slice none 0 0) []:=⟨none,0,rfl,Nat.le_refl _,λh=>absurd rfl h⟩
theorem Bs.news {k:IntKind} {ad:Addr} {m cap:Nat} (h:Bs k w (.slice (some ad) m cap) xs):∀j u,(xs.map (Value.int k))[j]? = some u->w.cell? (ad.add j)=some u:=by
 intro j u hu
 have hj:j<xs.length:=by
  have:=(List.getElem?_eq_some_iff.1 hu).1
  simpa using this
 obtain⟨b,off,cap',e1,hc⟩:=h.at j hj;simp at e1;obtain⟨rfl,_,_⟩:=e1
 have h0:(⟨b,off,none⟩:Addr).add j=⟨b,off+j,none⟩:=by unfold Addr.add;split <;> simp_all
 rw[h0,hc,<-hu];simp[List.getElem?_eq_getElem hj]
theorem Bs.head {k:IntKind} {ao:Option Addr} {m cap n:Nat} (h:Bs k w (.slice ao m cap) xs) (hn:n<=m):Bs k w (.slice ao n cap) (xs.take n):=by
 obtain⟨ao',cap',e,hc,hr⟩:=h;simp at e;obtain⟨rfl,rfl,rfl⟩:=e
 have h1:(xs.take n).length=n:=by rw[Qf];omega
 refine⟨_,cap,by rw[h1],by omega,λhne=>?_⟩;obtain⟨b,off,rfl,h2⟩:=hr (by intro h0;subst h0;simp at hne);refine⟨b,off,rfl,λj hj=>?_⟩;rw[h1] at hj;rw[h2 j (by omega)]
 congr 2
 rw[Qd,Qd,List.getElem?_take,if_pos hj]
theorem Qu {lo lo':Nat} {size:Nat} {xs:List Value} (h:w.ownsRow lo E size v n xs) (hl:lo'<=lo):w.ownsRow lo' E size v n xs:=by
 refine⟨h.1,?_⟩
 rcases h.2 with h | ⟨g,cap,cur,e,h,r⟩
 ·exact .inl h
 ·exact .inr ⟨g,cap,cur,e,by omega,r⟩
theorem Bs.lit (k:IntKind) (w:World) (E:TypeId) (xs:LI):Bs k (w.alloc (.cells (xs.map (Value.int k)).toArray E)) (.slice (some ⟨w.heap.size,0,none⟩) xs.length xs.length) xs:=by
 refine⟨_,_,rfl,Nat.le_refl _,λ_=>⟨w.heap.size,0,rfl,λj hj=>?_⟩⟩;unfold World.cell?;simp only[heap_alloc_new];simp[List.getElem?_eq_getElem hj]
theorem Bs.litN (k:IntKind) (w:World) (E:TypeId) (xs:LI) (N n:Nat) (hN:w.heap.size=N) (hn:xs.length=n):Bs k (w.alloc (.cells (xs.map (Value.int k)).toArray E)) (.slice (some ⟨N,0,none⟩) n n) xs:=by
 subst hN hn;exact Bs.lit k w E xs
theorem Xb (n:Int) (k:Nat) (hk:k<=62):bits .and .i64 n ((2^k - 1:Nat):Int)=n % ((2^k:Nat):Int):=by
 have hp:2^k<=2^62:=Nat.pow_le_pow_right (by omega) hk
 have h62:(2:Nat)^62=4611686018427387904:=by decide
 have h0:=Nat.two_pow_pos k;have hm:(BitVec.ofInt 64 ((2^k - 1:Nat):Int)).toNat=2^k - 1:=ofInt_u64 _ (by omega);have hd:(2^k:Nat)∣18446744073709551616:=⟨2^(64 - k),by rw[<-Nat.pow_add,show k+(64 - k)=64 by omega]⟩
 have key:(BitVec.ofInt 64 n &&& BitVec.ofInt 64 ((2^k - 1:Nat):Int)).toNat=(n % 18446744073709551616).toNat % 2^k:=by
  rw[BitVec.toNat_and,BitVec.toNat_ofInt,hm,Nat.and_two_pow_sub_one_eq_mod];rfl
 show IntKind.i64.wrap ((BitVec.ofInt 64 n &&& BitVec.ofInt 64 ((2^k - 1:Nat):Int)).toNat:Nat)=_
 have hlt:=Nat.mod_lt (n % 18446744073709551616).toNat h0;rw[key,IntKind.wrap_i64]
 have e:(((n % 18446744073709551616).toNat % 2^k:Nat):Int)=n % ((2^k:Nat):Int):=by
  rw[Int.natCast_emod,Int.toNat_of_nonneg (by omega)];exact Int.emod_emod_of_dvd n (Int.natCast_dvd_natCast.2 hd)
 rw[<-e];omega
theorem Yh {P:Program} (w:World) {ops:Array Oper} {rest:List Oper} {o:Oper} {a:Act} {Q:Exit->Act->World->Prop} (hgd:o.guard=none) (s x:Operand) (t:TypeId)
 (ho:o.op=.call { callee:=.builtin .append,args:=#[s,x],argTypes:=#[t,t] })
 (base:Nat) (e:TypeId) (i:TypeInfo) (z:Value) (bytes:Nat) (ht:P.underlying t=some (.slice e)) (hi:P.info? e=some i) (hz:i.zero=some z)
 (hsize:i.size=1) (hby:i.bytes=bytes) (hzs:z.cells.size=1)
 (v:Value) (n:Nat) (xs:List Value) (hs:a.eval s=v) (hown:w.ownsRow base e 1 v n xs)
 (k:IntKind) (u:Value) (ys:LI) (hx:a.eval x=u) (hb:Bs k w u ys) (hnc:NoCap u)
 (h63:n+ys.length<=maxLen) (hbytes:(n+ys.length)*bytes<=140737488355328) (hbase:base<=w.heap.size)
 (h:∀v' w',w'.ownsRow base e 1 v' (n+ys.length) (xs++ys.map (Value.int k))->w.grownBy w' v.ownBlock->(v'=.slice none 0 0↔v=.slice none 0 0∧ys.length=0)->(v'.ownBlock=v.ownBlock∨v'.ownBlock=some w.heap.size)->wpList P ops Q rest (a.put o.dst v') w') :
 wpList P ops Q (o :: rest) a w:=by
 obtain⟨ao,cap,rfl⟩:=hb.len
 cases ao with
 | none =>
  have h0:ys=[]:=by
   obtain⟨ao',cap',e1,_,hr⟩:=hb
   rcases ys with _ | ⟨y,ys⟩
   ·rfl
   ·obtain⟨b,off,e2,_⟩:=hr (by simp)
    simp at e1;rw[<-e1.1] at e2;cases e2
  subst h0;have hc:cap=0:=hnc _ _ rfl;subst hc;refine wpList_append_own_none hgd s x t ho base e i 1 ht hi v n xs hs hown hx (h v w (by simpa using hown) ?_ (by simp) (.inl rfl));exact World.grownBy.refl _ _
 | some ad =>
  refine wpList_append_own_at w hgd s x t ho base e i z 1 bytes ht hi hz hsize hby hzs (by omega) v n xs hs hown ad ys.length cap (ys.map (Value.int k)) hx (by simp) hb.news (K9 _ _) h63 hbytes hbase h
def U64 (xs:LI):Prop:=∀x∈xs,0<=x∧x<=18446744073709551615
theorem Only.same {a b c:World} (h:N0 a b) (k:N0 b c):N0 a c:=h.trans k (λ_ _ f=>f)
theorem Bs.past {k:IntKind} (h:Bs k w v xs) (o:N0 w w'):Bs k w' v xs:=h.keep o (λ_ _ f=>f)
def slen:Value->Nat
 | .slice _ n _=>n
 | _=>0
theorem Bs.blk_lt {k:IntKind} (h:Bs k w v xs) (hx:xs≠[]):∀j,v.ownBlock=some j->j<w.heap.size:=by
 obtain⟨ao,cap,rfl,hc,hr⟩:=h;obtain⟨b,off,rfl,h0⟩:=hr hx;intro j hj;simp[Value.ownBlock] at hj;subst hj;exact World.block_lt_of_cell? w _ (h0 0 (List.length_pos_iff.2 hx))
theorem Bs.formN {k:IntKind} (h:Bs k w v xs) {n:Nat} (hn:xs.length=n):∃ao cap,v=.slice ao n cap∧n<=cap:=by
 obtain⟨ao,cap,e,hc,_⟩:=h;exact⟨ao,cap,by rw[e,hn],by omega⟩
theorem Bs.room {k:IntKind} {ao:Option Addr} {m cap:Nat} (h:Bs k w (.slice ao m cap) xs):m<=cap:=by
 obtain⟨ao',cap',e,hc,_⟩:=h;simp at e;obtain⟨rfl,rfl,rfl⟩:=e;exact hc
theorem NoCap.cut {ao:Option Addr} {m cap:Nat} (h:NoCap (.slice ao m cap)) (m':Nat):NoCap (.slice ao m' cap):=λ_ _ e=>by
 cases e;exact h _ _ rfl
section
open Go.Shelf
attribute [local go_sem] Oper.semAt_some
def upto {α:Type} (f:Nat->α) (k:Nat):List α:=(List.range k).map f
theorem GQ {α:Type} (f:Nat->α) (k:Nat):upto f (k+1)=upto f k++[f k]:=by simp[upto,List.range_succ]
theorem Fz {α:Type} (f:Nat->α) (k:Nat):(upto f k).length=k:=by simp[upto]
theorem Rv (zs:LI) {k:Nat} (hk:k<=zs.length):upto (λj=>zs[j]?.getD 0) k=zs.take k:=by
 apply List.ext_getElem
 ·simp[upto,hk]
 ·intro i h1 h2
  have:i<zs.length:=by simp[upto] at h1;omega
  simp[upto,this]
theorem Bb (zs:LI):upto (λj=>zs[j]?.getD 0) zs.length=zs:=by rw[Rv zs (Nat.le_refl _),List.take_length]
theorem Ib (F:Fence) (n:Nat) (h7:F.fn 302) (hro:F.round=none) (hn:1<=n) (l Bs n₀ b off h1 cap:Nat) (zs:LI) (hreach:h1*8<=140737488351232) (hb:b<n₀) (J Jx:LI->World->Prop)
 (hY:∀pre x W,J pre W->pre.length<h1->YieldAt F (n - 1) prog l #[.int .u64 x] W λe W' =>
  (e=.returned (.bool true)∧J (pre++[x]) W'∧Below n₀ W W')∨(e=.returned (.bool false)∧Jx (pre++[x]) W'))
 (W:World) (hBs:W.cell? ⟨Bs,0,none⟩=some (.slice (some ⟨b,off,none⟩) h1 cap)) (hc:∀j,j<h1->W.cell? ⟨b,off+j,none⟩=some (.int .u64 (zs[j]?.getD 0))) (h0:J [] W) :
 CallsIn F n prog 302 #[.func (.yield l) #[] #[],.pointer (some ⟨Bs,0,none⟩)] W λe W'=>(∃v,e=.returned v) ∧
  ((∃ys,ys=upto (λj=>zs[j]?.getD 0) h1∧J ys W')∨(∃pre,(∃k,k<=h1∧pre=upto (λj=>zs[j]?.getD 0) k)∧Jx pre W')):=by
 refine callsIn_of_wp func302 rfl h7 ?_ hro;simp only[ntmps302,List.size_toArray,Qi,List.length_nil,Nat.reduceAdd,Nat.reduceSub,Array.replicate_succ,Array.replicate_zero,List.push_toArray,List.append_toArray,List.nil_append,List.cons_append]
 gi_wp2
 gi_loopw [7] (λi wr=>∃k:Nat,k<=h1∧i=.int .i64 k∧J (upto (λj=>zs[j]?.getD 0) k) wr∧Below n₀ W wr)
  (λi _=>h1 - (intOf i).toNat)
 case atStart=>exact⟨0,Nat.zero_le _,rfl,h0,Below.refl _ _⟩
 case round =>
  obtain⟨k,hk,rfl,h4,h5⟩:=hrel
  have hcx:k<h1->wr.cell? ⟨b,off+k,none⟩=some (.int .u64 (zs[k]?.getD 0)):=λh=>(h5.cell (p:=⟨b,off+k,none⟩) hb).trans (hc k h)
  by_cases hlt:k<h1
  ·obtain⟨fn,tmps,h2,body,hy,hR⟩:=hY _ (zs[k]?.getD 0) wr h4 (by rw[Fz];exact hlt)
   have hcx':=hcx hlt
   gi_wp2
   refine hR.mono ?_;rintro e W3 (⟨rfl,hJ3,hk3⟩ | ⟨rfl,h3⟩)
   ·gi_wp2
    go_roundw
    case rel=>exact⟨k+1,by omega,by simp,by rw[GQ];exact hJ3,h5.trans hk3⟩
    case measure=>simp[intOf];omega
   ·gi_wp2
    refine bodyPost_ret (results_none rfl _ _ _) rfl ?_;exact⟨⟨_,rfl⟩,.inr ⟨_,⟨k+1,by omega,(GQ _ _).symm⟩,h3⟩⟩
  ·obtain rfl:k=h1:=by omega
   gi_wp2
   go_end0
   exact⟨⟨_,rfl⟩,.inl ⟨_,rfl,h4⟩⟩
theorem FT (F:Fence) (n:Nat) (h7:F.fn 302) (hro:F.round=none) (l Bs cap:Nat) (ao:Option Addr) (J:LI->World->Prop) (W:World) (hBs:W.cell? ⟨Bs,0,none⟩=some (.slice ao 0 cap)) (h0:J [] W) :
 CallsIn F n prog 302 #[.func (.yield l) #[] #[],.pointer (some ⟨Bs,0,none⟩)] W λe W'=>(∃v,e=.returned v)∧J [] W':=by
 refine callsIn_of_wp func302 rfl h7 ?_ hro;simp only[ntmps302,List.size_toArray,Qi,List.length_nil,Nat.reduceAdd,Nat.reduceSub,Array.replicate_succ,Array.replicate_zero,List.push_toArray,List.append_toArray,List.nil_append,List.cons_append]
 gi_wp2
 gi_loopw [7] (λi wr=>i=.int .i64 0∧J [] wr) (λ_ _=>0)
 case atStart=>exact⟨rfl,h0⟩
 case round =>
  obtain⟨rfl,hJs⟩:=hrel
  gi_wp2
  go_end0
  exact⟨⟨_,rfl⟩,hJs⟩
theorem Tv (F:Fence) (n:Nat) (h5:F.fn 283) (hro:F.round=none) (a:Option Addr) (len cap:Nat) (w:World) :
 CallsIn F n prog 283 #[.slice a len cap] w λe w'=>e=.returned (.func (.func 302) #[] #[.pointer (some ⟨w.heap.size,0,none⟩)])∧w'=w.alloc (.cells #[.slice a len cap] 201):=by
 refine callsIn_of_wp func283 rfl h5 ?_ hro;simp only[ntmps283,List.size_toArray,Qi,List.length_nil,Nat.reduceAdd,Nat.reduceSub,Array.replicate_succ,Array.replicate_zero,List.push_toArray,List.append_toArray,List.nil_append,List.cons_append]
 gi_wp2
 go_ret;exact⟨rfl,rfl⟩
def Low (n₀:Nat) (W:World) (sv:Value) (zs:LI):Prop :=
 ∃ao cap,sv=.slice ao zs.length cap∧(zs≠[]->∃b off,ao=some ⟨b,off,none⟩∧b<n₀∧∀j,j<zs.length->W.cell? ⟨b,off+j,none⟩=some (.int .u64 (zs[j]?.getD 0)))
theorem Low.below {n₀:Nat} {A B:World} (h:Below n₀ A B) {sv:Value} {zs:LI}:Low n₀ A sv zs->Low n₀ B sv zs:=by
 rintro⟨ao,cap,rfl,hr⟩;refine⟨ao,cap,rfl,λhne=>?_⟩;obtain⟨b,off,rfl,hb,hc⟩:=hr hne;exact⟨b,off,rfl,hb,λj hj=>(h.cell (p:=⟨b,off+j,none⟩) hb).trans (hc j hj)⟩
theorem NE (F:Fence) (n:Nat) (h7:F.fn 302) (hro:F.round=none) (hn:1<=n) (Bs n₀:Nat) (sv:Value) (zs:LI) (hreach:zs.length*8<=140737488351232) (w:World) (hBs:Bs<w.heap.size) (hn₀:n₀<=w.heap.size)
 (hc:w.cell? ⟨Bs,0,none⟩=some sv) (hI:Low n₀ w sv zs) :
 SeqStopsK F n prog 302 #[.pointer (some ⟨Bs,0,none⟩)] (λx:Int=>#[Value.int .u64 x]) (Below n₀) (λys=>ys=zs) (λpre=>pre <+: zs) zs.length w:=λl J Jx W hW _ _ hY h0=>by
 have h1:=(hW.cell (p:=⟨Bs,0,none⟩) hBs).trans hc;obtain⟨ao,cap,rfl,hr⟩:=hI.below (hW.mono hn₀)
 by_cases hne:zs=[]
 ·subst hne
  exact (FT F n h7 hro l Bs cap ao J W h1 h0).mono λe W' ⟨he,hj⟩=>⟨he,.inl ⟨_,rfl,hj⟩⟩
 ·obtain⟨b,off,rfl,hb,hcs⟩:=hr hne
  refine (Ib F n h7 hro hn l Bs n₀ b off zs.length cap zs hreach hb J Jx hY W h1 hcs h0).mono ?_;rintro e W' ⟨he,⟨ys,rfl,hj⟩ | ⟨pre,⟨k,hk,rfl⟩,hj⟩⟩
  ·exact⟨he,.inl ⟨_,Bb zs,hj⟩⟩
  ·exact⟨he,.inr ⟨_,by rw[Rv zs hk];exact List.take_prefix _ _,hj⟩⟩
end
def wid (v:Nat):Nat:=if v=0 then 0 else v.log2+1
theorem Yd (v n:Nat):wid v<=n↔v<2^n:=by
 unfold wid
 by_cases h:v=0
 ·subst h;simp[Nat.two_pow_pos]
 ·rw[if_neg h];rw[<-Nat.log2_lt h];omega
theorem Ew {v n:Nat} (h:∀m,n<=m↔v<2^m):wid v=n:=by
 have h1:wid v<=n:=(Yd v n).2 ((h n).1 (Nat.le_refl _));have h2:n<=wid v:=(h (wid v)).2 ((Yd v (wid v)).1 (Nat.le_refl _));omega
theorem Pz (v k:Nat) (h:2^k<=v):wid v=wid (v / 2^k)+k:=by
 refine Ew λm=>?_
 by_cases hm:k<=m
 ·have e:2^m=2^(m - k)*2^k:=by rw[<-Nat.pow_add];congr 1;omega
  rw[e,<-Nat.div_lt_iff_lt_mul (Nat.two_pow_pos k),<-Yd];omega
 ·have:2^m<=2^k:=Nat.pow_le_pow_right (by omega) (by omega)
  constructor
  ·intro hk;omega
  ·intro hk;omega
theorem Wz (v:Nat) (h:v<18446744073709551616):wid v<=64:=(Yd v 64).2 (by simpa using h)
def QfQ:ByteArray:=⟨#[0,1,2,2,3,3,3,3,4,4,4,4,4,4,4,4,5,5,5,5,5,5,5,5,5,5,5,5,5,5,5,5,6,6,6,6,6,6,6,6,6,6,6,6,6,6,6,6,6,6,6,6,6,6,6,6,6,6,6,6,6,6,6,6,7,7,7,7,7,7,7,7,7,7,7,7,7,7,7,7,7,7,7,7,7,7,7,7,7,7,7,7,7,7,7,7,7,7,7,7,7,7,7,7,7,7,7,7,7,7,7,7,7,7,7,7,7,7,7,7,7,7,7,7,7,7,7,7,8,8,8,8,8,8,8,8,8,8,8,8,8,8,8,8,8,8,8,8,8,8,8,8,8,8,8,8,8,8,8,8,8,8,8,8,8,8,8,8,8,8,8,8,8,8,8,8,8,8,8,8,8,8,8,8,8,8,8,8,8,8,8,8,8,8,8,8,8,8,8,8,8,8,8,8,8,8,8,8,8,8,8,8,8,8,8,8,8,8,8,8,8,8,8,8,8,8,8,8,8,8,8,8,8,8,8,8,8,8,8,8,8,8,8,8,8,8,8,8,8,8,8,8,8,8,8,8]⟩
theorem Id:∀k:Fin 256,(QfQ.data.toList.getD k.val 0).toNat=wid k.val:=by decide +kernel
theorem Ig (k:Nat) (h:k<256) (hk:k<QfQ.size):(QfQ[k]'hk).toNat=wid k:=by
 have:=Id ⟨k,h⟩;simp only at this;rw[<-this]
 congr 1
 show QfQ.data[k]'hk=_
 rw[Qd,Qg (by simpa using hk)];simp
theorem wG (k:Nat) (h:k<256) (hk:k<(⟨#[0,1,2,2,3,3,3,3,4,4,4,4,4,4,4,4,5,5,5,5,5,5,5,5,5,5,5,5,5,5,5,5,6,6,6,6,6,6,6,6,6,6,6,6,6,6,6,6,6,6,6,6,6,6,6,6,6,6,6,6,6,6,6,6,7,7,7,7,7,7,7,7,7,7,7,7,7,7,7,7,7,7,7,7,7,7,7,7,7,7,7,7,7,7,7,7,7,7,7,7,7,7,7,7,7,7,7,7,7,7,7,7,7,7,7,7,7,7,7,7,7,7,7,7,7,7,7,7,8,8,8,8,8,8,8,8,8,8,8,8,8,8,8,8,8,8,8,8,8,8,8,8,8,8,8,8,8,8,8,8,8,8,8,8,8,8,8,8,8,8,8,8,8,8,8,8,8,8,8,8,8,8,8,8,8,8,8,8,8,8,8,8,8,8,8,8,8,8,8,8,8,8,8,8,8,8,8,8,8,8,8,8,8,8,8,8,8,8,8,8,8,8,8,8,8,8,8,8,8,8,8,8,8,8,8,8,8,8,8,8,8,8,8,8,8,8,8,8,8,8,8,8,8,8,8,8]⟩:ByteArray).size):((⟨#[0,1,2,2,3,3,3,3,4,4,4,4,4,4,4,4,5,5,5,5,5,5,5,5,5,5,5,5,5,5,5,5,6,6,6,6,6,6,6,6,6,6,6,6,6,6,6,6,6,6,6,6,6,6,6,6,6,6,6,6,6,6,6,6,7,7,7,7,7,7,7,7,7,7,7,7,7,7,7,7,7,7,7,7,7,7,7,7,7,7,7,7,7,7,7,7,7,7,7,7,7,7,7,7,7,7,7,7,7,7,7,7,7,7,7,7,7,7,7,7,7,7,7,7,7,7,7,7,8,8,8,8,8,8,8,8,8,8,8,8,8,8,8,8,8,8,8,8,8,8,8,8,8,8,8,8,8,8,8,8,8,8,8,8,8,8,8,8,8,8,8,8,8,8,8,8,8,8,8,8,8,8,8,8,8,8,8,8,8,8,8,8,8,8,8,8,8,8,8,8,8,8,8,8,8,8,8,8,8,8,8,8,8,8,8,8,8,8,8,8,8,8,8,8,8,8,8,8,8,8,8,8,8,8,8,8,8,8,8,8,8,8,8,8,8,8,8,8,8,8,8,8,8,8,8,8]⟩:ByteArray)[k]'hk).toNat=wid k:=Ig k h hk
theorem Wg (k:Nat) (h:k<256):wid k<=8:=(Yd k 8).2 (by simpa using h)
theorem Uk (v m:Int) (k:Nat) (hm:m=((2^k:Nat):Int)) (h0:0<=v) (h:m<=v):wid v.toNat=wid (v / m).toNat+k:=by
 subst hm
 have e:(v / ((2^k:Nat):Int)).toNat=v.toNat / 2^k:=by
  obtain⟨n,rfl⟩:=Int.eq_ofNat_of_zero_le h0;rw[<-Int.natCast_ediv];rfl
 rw[e];exact Pz _ _ (by omega)
theorem WD (a:Int) (n:Nat) (ha:n<=8) (h:0<=a) (h2:a<=56):wrap64 (a+wrap64 n)=a+n:=by
 rw[IntWalk.wrap64_in (n:Int) (by omega),IntWalk.wrap64_in _ (by omega)]
theorem F7 (n:Nat) (ha:n<=8):wrap64 (wrap64 n)=n:=by
 rw[IntWalk.wrap64_in (n:Int) (by omega),IntWalk.wrap64_in _ (by omega)]
theorem Hx (v:Int) (w:World) (h0:0<=v) (h1:v<=18446744073709551615) :
 Calls prog 150 #[.int .u64 v] w λe w'=>e=.returned (.int .i64 (wid v.toNat))∧w=w':=by
 go_enter func150,ntmps150;go_wp2
 all_goals go_ret
 all_goals refine⟨YP ?_,rfl⟩
 all_goals rw[wG _ (by omega)]
 ·rw[WD _ _ (Wg _ (by omega)) (by omega) (by omega),Uk v 4294967296 32 rfl (by omega) (by omega),Uk (v / 4294967296) 65536 16 rfl (by omega) (by omega),Uk ((v / 4294967296) / 65536) 256 8 rfl (by omega) (by omega)];omega
 ·rw[WD _ _ (Wg _ (by omega)) (by omega) (by omega),Uk v 4294967296 32 rfl (by omega) (by omega),Uk (v / 4294967296) 65536 16 rfl (by omega) (by omega)];omega
 ·rw[WD _ _ (Wg _ (by omega)) (by omega) (by omega),Uk v 4294967296 32 rfl (by omega) (by omega),Uk (v / 4294967296) 256 8 rfl (by omega) (by omega)];omega
 ·rw[WD _ _ (Wg _ (by omega)) (by omega) (by omega),Uk v 4294967296 32 rfl (by omega) (by omega)];omega
 ·rw[WD _ _ (Wg _ (by omega)) (by omega) (by omega),Uk v 65536 16 rfl (by omega) (by omega),Uk (v / 65536) 256 8 rfl (by omega) (by omega)];omega
 ·rw[WD _ _ (Wg _ (by omega)) (by omega) (by omega),Uk v 65536 16 rfl (by omega) (by omega)];omega
 ·rw[WD _ _ (Wg _ (by omega)) (by omega) (by omega),Uk v 256 8 rfl (by omega) (by omega)];omega
 ·exact F7 _ (Wg _ (by omega))
theorem VI (v:Int) (w:World) (h0:0<=v) (h1:v<=18446744073709551615) :
 Calls prog 260 #[.int .u64 v] w λe w'=>e=.returned (.int .i64 (wid v.toNat))∧w=w':=by
 go_enter func260,ntmps260;go_wp2_with (go_at_call 150;refine (Hx _ _ h0 h1).mono ?_;rintro e w' ⟨rfl,rfl⟩);go_ret;exact⟨rfl,rfl⟩
theorem An (n:Int) (w:World) (h0:0<=n) (h1:n<=64) :
 Calls prog 284 #[.int .i64 n] w λe w'=>e=.returned (.bool true)∧w=w':=by
 go_enter func284,ntmps284;go_wp2;go_ret;exact⟨rfl,rfl⟩
def Yb (l:List Bool) (j:Nat):Nat :=
 (l.getD (8*j) false).toNat*128+(l.getD (8*j+1) false).toNat*64+(l.getD (8*j+2) false).toNat*32+(l.getD (8*j+3) false).toNat*16 +
 (l.getD (8*j+4) false).toNat*8+(l.getD (8*j+5) false).toNat*4+(l.getD (8*j+6) false).toNat*2+(l.getD (8*j+7) false).toNat
def nb (l:List Bool):Nat:=(l.length+7) / 8
def Ub (l:List Bool):List Value:=(List.range (nb l)).map λj=>.int .u8 (Yb l j)
theorem YC (b:Bool):b.toNat<=1:=by cases b <;> simp
theorem Xq (l:List Bool) (j:Nat):Yb l j<256:=by
 unfold Yb;have h0:=YC (l.getD (8*j) false);have h1:=YC (l.getD (8*j+1) false);have h2:=YC (l.getD (8*j+2) false);have h3:=YC (l.getD (8*j+3) false);have h4:=YC (l.getD (8*j+4) false);have h5:=YC (l.getD (8*j+5) false);have h6:=YC (l.getD (8*j+6) false);have h7:=YC (l.getD (8*j+7) false);omega
theorem AM (l:List Bool) (i:Nat) (h:l.length<=i):l.getD i false=false:=by
 rw[Qd,List.getElem?_eq_none h];rfl
theorem TK (l:List Bool) (b:Bool) (i:Nat):(l++[b]).getD i false=if i=l.length then b else l.getD i false:=by
 rw[Qd,Qd,List.getElem?_append]
 by_cases h:i<l.length
 ·rw[if_pos h,if_neg (by omega)]
 ·rw[if_neg h]
  by_cases h2:i=l.length
  ·subst h2;simp
  ·rw[if_neg h2,List.getElem?_eq_none (by simp;omega),List.getElem?_eq_none (by omega)]
theorem LT (l:List Bool) (b:Bool) (j:Nat) (h:j≠l.length / 8):Yb (l++[b]) j=Yb l j:=by
 simp only[Yb,TK]
 repeat rw[if_neg (by omega)]
theorem Ph (l:List Bool) (b:Bool) (j r:Nat) (h:l.length=8*j+r) (hr:r<8) :
 Yb (l++[b]) j=Yb l j+b.toNat*2^(7 - r)∧Yb l j % 2^(8 - r)=0:=by
 have e:r=0∨r=1∨r=2∨r=3∨r=4∨r=5∨r=6∨r=7:=by omega
 have ho:∀i,l.length<=i->l.getD i false=false:=AM l;have h0:=YC (l.getD (8*j) false);have h1:=YC (l.getD (8*j+1) false);have h2:=YC (l.getD (8*j+2) false);have h3:=YC (l.getD (8*j+3) false);have h4:=YC (l.getD (8*j+4) false);have h5:=YC (l.getD (8*j+5) false);have h6:=YC (l.getD (8*j+6) false);have h7:=YC (l.getD (8*j+7) false);simp only[Yb,TK,h]
 rcases e with rfl | rfl | rfl | rfl | rfl | rfl | rfl | rfl
 ·rw[ho (8*j) (by omega),ho (8*j+1) (by omega),ho (8*j+2) (by omega),ho (8*j+3) (by omega),ho (8*j+4) (by omega),ho (8*j+5) (by omega),ho (8*j+6) (by omega),ho (8*j+7) (by omega)]
  simp
 ·rw[ho (8*j+1) (by omega),ho (8*j+2) (by omega),ho (8*j+3) (by omega),ho (8*j+4) (by omega),ho (8*j+5) (by omega),ho (8*j+6) (by omega),ho (8*j+7) (by omega)]
  simp <;> omega
 ·rw[ho (8*j+2) (by omega),ho (8*j+3) (by omega),ho (8*j+4) (by omega),ho (8*j+5) (by omega),ho (8*j+6) (by omega),ho (8*j+7) (by omega)]
  simp <;> omega
 ·rw[ho (8*j+3) (by omega),ho (8*j+4) (by omega),ho (8*j+5) (by omega),ho (8*j+6) (by omega),ho (8*j+7) (by omega)]
  simp <;> omega
 ·rw[ho (8*j+4) (by omega),ho (8*j+5) (by omega),ho (8*j+6) (by omega),ho (8*j+7) (by omega)]
  simp <;> omega
 ·rw[ho (8*j+5) (by omega),ho (8*j+6) (by omega),ho (8*j+7) (by omega)]
  simp <;> omega
 ·rw[ho (8*j+6) (by omega),ho (8*j+7) (by omega)]
  simp <;> omega
 ·rw[ho (8*j+7) (by omega)]
  simp <;> omega
theorem Nh (l:List Bool) (b:Bool) (n:Nat) (hn:l.length=n) :
 bits .or .u8 (Yb l (n / 8)) ((b.toNat:Int)*2^(7 - n % 8) % 256)=Yb (l++[b]) (n / 8):=by
 obtain⟨h1,h2⟩:=Ph l b (n / 8) (n % 8) (by omega) (by omega)
 have hp:2^(7 - n % 8)<=128:=by
  have:2^(7 - n % 8)<=2^7:=Nat.pow_le_pow_right (by omega) (by omega)
  simpa using this
 have hb:=YC b
 have hm:b.toNat*2^(7 - n % 8)<=128:=by
  have:=Nat.mul_le_mul_right (2^(7 - n % 8)) hb;omega
 have e:((b.toNat:Int)*2^(7 - n % 8) % 256)=((b.toNat*2^(7 - n % 8):Nat):Int):=by
  have:((b.toNat:Int)*2^(7 - n % 8))=((b.toNat*2^(7 - n % 8):Nat):Int):=by simp
  rw[this];omega
 rw[e,u8_or_nat _ _ (Xq _ _) (by omega),h1,nat_join (8 - n % 8) _ _ h2]
 have:2^(8 - n % 8)=2*2^(7 - n % 8):=by
  rw[show 8 - n % 8=(7 - n % 8)+1 by omega,Nat.pow_succ];omega
 have h1:b.toNat*2^(7 - n % 8)<=1*2^(7 - n % 8):=Nat.mul_le_mul_right _ hb;have h2:=Nat.two_pow_pos (7 - n % 8);omega
theorem JV (l:List Bool):(Ub l).length=nb l:=by simp[Ub]
theorem Vh (l:List Bool) (i:Nat):(Ub l)[i]? = if i<nb l then some (.int .u8 (Yb l i)) else none:=by
 unfold Ub
 by_cases h:i<nb l
 ·simp[h]
 ·simp[h]
theorem yb (l:List Bool) (b:Bool) (h:l.length % 8≠0):(Ub l).set (l.length / 8) (.int .u8 (Yb (l++[b]) (l.length / 8)))=Ub (l++[b]):=by
 have hn:nb (l++[b])=nb l:=by unfold nb;simp;omega
 apply List.ext_getElem?
 intro i;rw[List.getElem?_set,Vh,Vh,JV,hn]
 by_cases hi:l.length / 8=i
 ·subst hi;rw[if_pos rfl]
 ·rw[if_neg hi,LT _ _ _ (Ne.symm hi)]
theorem vz (l:List Bool) (b:Bool) (h:l.length % 8=0):(Ub l++[Value.int .u8 0]).set (l.length / 8) (.int .u8 (Yb (l++[b]) (l.length / 8)))=Ub (l++[b]):=by
 have hn:nb (l++[b])=nb l+1:=by unfold nb;simp;omega
 have hj:l.length / 8=nb l:=by unfold nb;omega
 apply List.ext_getElem?
 intro i;rw[List.getElem?_set,Qc,JV,List.getElem?_append,Vh,Vh,JV,hn]
 by_cases hi:l.length / 8=i
 ·subst hi;rw[if_pos rfl,hj];simp
 ·rw[if_neg hi,LT _ _ _ (Ne.symm hi)]
  by_cases h1:i<nb l
  ·rw[if_pos h1,if_pos h1,if_pos (by omega)]
  ·rw[if_neg h1,if_neg (by omega),List.getElem?_eq_none (by simp;omega)]
theorem Tc (l:List Bool) (b:Bool):nb (l++[b])=if l.length % 8=0 then nb l+1 else nb l:=by
 unfold nb;simp;split <;> omega
structure WrAt (T E:TypeId) (w:World) (lo B:Nat) (v:Value) (l:List Bool):Prop where
 own:w.ownsRow lo E 1 v (nb l) (Ub l)
 cell:w.heap[B]? = some (.cells #[v,.int .i64 l.length] T (0,0))
 lt:B<lo
 le:lo<=w.heap.size
def Foot (B:Nat) (v:Value) (k:Nat):Prop:=k=B∨v.ownBlock=some k
def Stays (w:World) (v v':Value):Prop:=v'.ownBlock=v.ownBlock∨∀k,v'.ownBlock=some k->w.heap.size<=k
theorem WrAt.keep {T E:TypeId} {lo B:Nat} {l:List Bool} (h:WrAt T E w lo B v l) {S:Nat->Prop} (ho:Only S w w') (hB:¬S B) (hv:∀k,v.ownBlock=some k->¬S k):WrAt T E w' lo B v l :=
 ⟨ho.own h.own hv,ho.heap h.cell hB,h.lt,Nat.le_trans h.le ho.size⟩
theorem WrAt.new {T E:TypeId} (w:World):WrAt T E (w.alloc (.cells #[.slice none 0 0,.int .i64 0] T)) (w.heap.size+1) w.heap.size (.slice none 0 0) [] :=
 ⟨by simpa [nb,Ub] using World.ownsRow_nil _ _ _ _,heap_alloc_new w _,by omega,by simp⟩
theorem Stays.refl (w:World) (v:Value):Stays w v v:=.inl rfl
theorem Stays.trans {a b c:Value} (h:Stays w a b) (k:Stays w' b c) (hs:w.heap.size<=w'.heap.size):Stays w a c:=by
 rcases k with k | k
 ·rcases h with h | h
  ·exact .inl (k.trans h)
  ·exact .inr λi hi=>h i (by rw[<-k];exact hi)
 ·exact .inr λi hi=>Nat.le_trans hs (k i hi)
theorem Hk {v v':Value} (hs:Stays w v v'):∀i,i<w.heap.size->Foot B v' i->Foot B v i:=by
 intro i hi h
 rcases h with h | h
 ·exact .inl h
 ·rcases hs with hs | hs
  ·exact .inr (by rw[<-hs];exact h)
  ·have:=hs i h;omega
theorem Tryz.info5:(prog.info? 5).map (λi=>(i.zero,i.size,i.bytes))=some (some (.int .u8 0),1,1):=by kernel_rfl
theorem QU {a b:Value} {T:TypeId} (h:w.heap[B]? = some (.cells #[a,b] T (0,0))) :
 w.cell? ⟨B,0,none⟩=some a∧w.cell? ⟨B,1,none⟩=some b∧w.frozen? ⟨B,0,none⟩=false∧w.frozen? ⟨B,1,none⟩=false :=
 ⟨by simp[World.cell?,h],by simp[World.cell?,h],by simp[World.frozen?,h],by simp[World.frozen?,h]⟩
theorem IC (B g cap m n:Nat) (x bit:Int) (w:World) (hne:B≠g)
 (h0:w.cell? ⟨B,0,none⟩=some (.slice (some ⟨g,0,none⟩) m cap)) (h1:w.cell? ⟨B,1,none⟩=some (.int .i64 n))
 (f1:w.frozen? ⟨B,1,none⟩=false) (hx:w.cell? ⟨g,n / 8,none⟩=some (.int .u8 x)) (fx:w.frozen? ⟨g,n / 8,none⟩=false)
 (hn:n<=1000000000000) (hm:n / 8<m) (hr:((n:Int) % 8 == 0)=false) :
 Calls prog 285 #[.pointer (some ⟨B,0,none⟩),.int .u8 bit] w λe w'=>e=.returned (.tuple #[]) ∧
  w'=((w.setCell ⟨g,n / 8,none⟩ (.int .u8 (bits .or .u8 x (bit*2^(7 - n % 8) % 256)))).setCell ⟨B,1,none⟩ (.int .i64 ((n:Int)+1))).drew:=by
 have hi0:(0:Int)<=(n:Int) / 8:=by omega
 have hi1:(n:Int) / 8<(m:Int):=by omega
 go_enter func285,ntmps285;go_wp2;go_region
 all_goals go_wp2
 all_goals go_end0
 all_goals exact⟨rfl,rfl⟩
theorem Eu (lo B n m:Nat) (v:Value) (xs:List Value) (bit:Int) (w:World) (hB:w.heap[B]? = some (.cells #[v,.int .i64 n] 292 (0,0))) (hlt:B<lo) (hle:lo<=w.heap.size)
 (hown:w.ownsRow lo 5 1 v m xs) (hn:n<=1000000000000) (hm:n=8*m) (hr:((n:Int) % 8 == 0)=true) :
 Calls prog 285 #[.pointer (some ⟨B,0,none⟩),.int .u8 bit] w λe w'=>e=.returned (.tuple #[]) ∧
  ∃g cap w1,w1.ownsRow lo 5 1 (.slice (some ⟨g,0,none⟩) (m+1) cap) (m+1) (xs++[.int .u8 0])∧(w.alloc (.cells #[.int .u8 0] 5)).grownBy w1 v.ownBlock∧(v.ownBlock=some g∨g=w.heap.size+1) ∧
  w'=(((w1.setCell ⟨B,0,none⟩ (.slice (some ⟨g,0,none⟩) (m+1) cap)).setCell ⟨g,n / 8,none⟩ (.int .u8 (bits .or .u8 0 (bit*2^(7 - n % 8) % 256)))).setCell ⟨B,1,none⟩ (.int .i64 ((n:Int)+1))).drew:=by
 obtain⟨i0,hi,hz0,hz1,hz2⟩:=info_parts Tryz.info5;obtain⟨c0,c1,f0,f1⟩:=QU hB
 have h0:B<w.heap.size:=by omega
 have hBo:v.ownBlock≠some B:=λe=>by have:=(hown.lt B e).1;omega
 have HM:Hid (n=8*m):=hm;clear hm;go_enter func285,ntmps285;go_wp2_with (at_builtin;refine wpList_append_lies _ rfl _ _ _ rfl lo 5 i0 (.int .u8 0) 1 1 underlying23 hi hz0 hz1 hz2 rfl (by omega) v m xs rfl (hown.alloc _) ⟨w.heap.size,0,none⟩ 1 1 [.int .u8 0] rfl rfl ?c1 ?c2 (by omega) ?c3 ?c4 ?c5 (w.heap.size+1) (by simp) ?_)
 case c1=>exact cell_one_new _ _ _
 case c2=>intro u hu;simp at hu;subst hu;rfl
 case c3=>have:=HM.o;unfold maxLen;omega
 case c4=>have:=HM.o;omega
 case c5=>simp;omega
 intro g cap w1 hown1 hgrow hat hg1
 have h2:w1.heap[B]? = some (.cells #[v,.int .i64 n] 292 (0,0)):=by
  rw[hgrow.block B (by simp;omega) (λe=>hBo e.symm),Below.heap_alloc w _ B h0];exact hB
 obtain⟨k0,k1,e0,e1⟩:=QU h2
 have hne:B≠g:=by have:=(hown1.lt g rfl).1;omega
 have hrow:w1.cell? ⟨g,n / 8,none⟩=some (.int .u8 0):=by
  rw[hown1.cellAt (n / 8) (by have:=HM.o;omega)]
  have:xs.length=n / 8:=by have:=hown.1;have:=HM.o;omega
  rw[List.getElem?_append_right (by omega)];simp[this]
 have hfr:w1.frozen? ⟨g,n / 8,none⟩=false:=hown1.frozenAt _
 have hi0:(0:Int)<=(n:Int) / 8:=by omega
 have hi1:(n:Int) / 8<((m+1:Nat):Int):=by have:=HM.o;omega
 have hi2:(n:Int) / 8<(m:Int)+1:=by have:=HM.o;omega
 have h1:Hid (w1.ownsRow lo 5 1 (.slice (some ⟨g,0,none⟩) (m+1) cap) (m+1) (xs++[.int .u8 0])∧(w.alloc (.cells #[.int .u8 0] 5)).grownBy w1 v.ownBlock∧(v.ownBlock=some g∨g=w.heap.size+1)):=⟨hown1,hgrow,hat⟩;clear hown1 hgrow hat hown h2;go_wp2;go_region
 all_goals go_wp2
 all_goals go_end0
 all_goals exact⟨rfl,g,cap,w1,h1.o.1,h1.o.2.1,h1.o.2.2,rfl⟩
theorem VB {a b:Value} {T:TypeId} (h:w.heap[B]? = some (.cells #[a,b] T (0,0))) (c:Value) :
 (w.setCell ⟨B,0,none⟩ c).heap[B]? = some (.cells #[c,b] T (0,0))∧(w.setCell ⟨B,1,none⟩ c).heap[B]? = some (.cells #[a,c] T (0,0)):=by
 have h0:=heap_setCell_same w B 0 #[a,b] T c h;have h1:=heap_setCell_same w B 1 #[a,b] T c h;exact⟨by simpa using h0,by simpa using h1⟩
theorem Tb (l:List Bool) (b:Bool):((l++[b]).length:Int)=(l.length:Int)+1:=by simp
theorem wK {lo B:Nat} {l:List Bool} (h:WrAt 292 5 w lo B v l) (b:Bool) (bit:Int) (hb:bit=(b.toNat:Int)) (hl:l.length<=1000000000000) :
 Calls prog 285 #[.pointer (some ⟨B,0,none⟩),.int .u8 bit] w λe w'=>e=.returned (.tuple #[]) ∧
  ∃v',WrAt 292 5 w' lo B v' (l++[b])∧Only (Foot B v) w w'∧Stays w v v':=by
 subst hb;have h5:B<w.heap.size:=Nat.lt_of_lt_of_le h.lt h.le
 by_cases hr:l.length % 8=0
 ·have hm:l.length=8*nb l:=by unfold nb;omega
  refine (Eu lo B l.length (nb l) v (Ub l) b.toNat w h.cell h.lt h.le h.own hl hm (by rw[beq_iff_eq];omega)).mono ?_;rintro e w' ⟨rfl,g,cap,w1,h2,h0,h1,rfl⟩;refine⟨rfl,.slice (some ⟨g,0,none⟩) (nb l+1) cap,?_,?_,?_⟩
  ·have h4:B≠g:=by have:=(h2.lt g rfl).1;have:=h.lt;omega
   have hBo:v.ownBlock≠some B:=λe=>by have:=(h.own.lt B e).1;have:=h.lt;omega
   have hB1:w1.heap[B]? = some (.cells #[v,.int .i64 l.length] 292 (0,0)):=by
    rw[h0.block B (by simp;omega) (λe=>hBo e.symm),Below.heap_alloc w _ B h5];exact h.cell
   have hz:Yb l (l.length / 8)=0:=by
    have:=(Ph l b (l.length / 8) 0 (by omega) (by omega)).2;have:=Xq l (l.length / 8);omega
   have h3:=Nh l b l.length rfl;rw[hz] at h3;rw[show ((0:Nat):Int)=0 from rfl] at h3;refine⟨?_,?_,h.lt,?_⟩
   ·have o1:=ownsRow_setCell_below h2 (a:=⟨B,0,none⟩) h.lt (.slice (some ⟨g,0,none⟩) (nb l+1) cap)
    have o2:=(o1.stored (l.length / 8) (.int .u8 (bits .or .u8 0 (b.toNat*2^(7 - l.length % 8) % 256)))).1;have o3:=ownsRow_setCell_below o2 (a:=⟨B,1,none⟩) h.lt (.int .i64 ((l.length:Int)+1));have o4:=o3.drew;rw[h3,vz l b hr] at o4
    have en:nb (l++[b])=nb l+1:=by rw[Tc,if_pos hr]
    rw[h3,en];exact o4
   ·have q1:=(VB hB1 (.slice (some ⟨g,0,none⟩) (nb l+1) cap)).1
    have q2:((w1.setCell ⟨B,0,none⟩ (.slice (some ⟨g,0,none⟩) (nb l+1) cap)).setCell ⟨g,l.length / 8,none⟩ (.int .u8 (bits .or .u8 0 (b.toNat*2^(7 - l.length % 8) % 256)))).heap[B]? = some (.cells #[.slice (some ⟨g,0,none⟩) (nb l+1) cap,.int .i64 l.length] 292 (0,0)):=by
     rw[Below.heap_setCell _ _ _ _ h4];exact q1
    have q3:=(VB q2 (.int .i64 ((l.length:Int)+1))).2;rw[Tb];exact q3
   ·have:=h0.size
    simp at this
    show lo<=(World.setCell _ _ _).heap.size
    simp[World.setCell];have:=h.le;omega
  ·have a1:Only (Foot B v) w w1:=((Only.refl _ _).alloc _).grown h0 (λk _ e=>.inr e)
   refine (((a1.setCell (λ_=>.inl rfl) _).setCell (λhlt=>?_) _).setCell (λ_=>.inl rfl) _).drew
   rcases h1 with h1 | h1
   ·exact .inr h1
   ·subst h1;simp at hlt;omega
  ·rcases h1 with h1 | h1
   ·exact .inl h1.symm
   ·exact .inr λk hk=>by simp[Value.ownBlock] at hk;omega
 ·have hn0:0<nb l:=by unfold nb;omega
  obtain⟨g,cap,rfl,hg0,hg1⟩:=h.own.form hn0;obtain⟨c0,c1,f0,f1⟩:=QU h.cell
  have h4:B≠g:=by have:=h.lt;omega
  have h6:w.cell? ⟨g,l.length / 8,none⟩=some (.int .u8 (Yb l (l.length / 8))):=by
   rw[h.own.cellAt _ (by unfold nb;omega),Vh,if_pos (by unfold nb;omega)]
  refine (IC B g cap (nb l) l.length (Yb l (l.length / 8)) b.toNat w h4 c0 c1 f1 h6 (h.own.frozenAt _) hl (by unfold nb;omega) (by rw[beq_eq_false_iff_ne];omega)).mono ?_;rintro e w' ⟨rfl,rfl⟩;have h3:=Nh l b l.length rfl;refine⟨rfl,.slice (some ⟨g,0,none⟩) (nb l) cap,?_,?_,.inl rfl⟩
  ·refine⟨?_,?_,h.lt,?_⟩
   ·have o2:=(h.own.stored (l.length / 8) (.int .u8 (bits .or .u8 (Yb l (l.length / 8)) (b.toNat*2^(7 - l.length % 8) % 256)))).1
    have o3:=ownsRow_setCell_below o2 (a:=⟨B,1,none⟩) h.lt (.int .i64 ((l.length:Int)+1));have o4:=o3.drew;rw[h3,yb l b hr] at o4
    have en:nb (l++[b])=nb l:=by rw[Tc,if_neg hr]
    rw[h3,en];exact o4
   ·have q2:(w.setCell ⟨g,l.length / 8,none⟩ (.int .u8 (bits .or .u8 (Yb l (l.length / 8)) (b.toNat*2^(7 - l.length % 8) % 256)))).heap[B]? = some (.cells #[.slice (some ⟨g,0,none⟩) (nb l) cap,.int .i64 l.length] 292 (0,0)):=by
     rw[Below.heap_setCell _ _ _ _ h4];exact h.cell
    have q3:=(VB q2 (.int .i64 ((l.length:Int)+1))).2;rw[Tb];exact q3
   ·show lo<=(World.setCell _ _ _).heap.size
    simp[World.setCell];exact h.le
  ·exact (((Only.refl _ _).setCell (λ_=>.inr rfl) _).setCell (λ_=>.inl rfl) _).drew
def Qr (v n:Nat):List Bool:=(List.range n).map λi=>v.testBit (n - 1 - i)
theorem Ip (x:Int) (j:Nat) (x0:0<=x) (x1:x<=18446744073709551615):bits .and .u64 (x / 2^j) 1 % 256=((x.toNat.testBit j).toNat:Int):=by
 obtain⟨m,rfl⟩:=Int.eq_ofNat_of_zero_le x0
 have e:((m:Int) / 2^j)=((m / 2^j:Nat):Int):=by simp
 have h:=Nat.div_le_self m (2^j);rw[e,show (1:Int)=((1:Nat):Int) from rfl,u64_and_nat _ _ (by omega) (by omega),nat_mask1,Int.toNat_natCast,Nat.testBit_eq_decide_div_mod_eq]
 by_cases h1:m / 2^j % 2=1
 ·simp[h1]
 ·have:m / 2^j % 2=0:=by omega
  simp[this]
theorem wO (v n k:Nat) (h:k<n):(Qr v n).take (k+1)=(Qr v n).take k++[v.testBit (n - 1 - k)]:=by
 have hl:(Qr v n).length=n:=by simp[Qr]
 rw[List.take_succ_eq_append_getElem (by omega)];simp[Qr]
theorem Ug (v n:Nat):(Qr v n).length=n:=by simp[Qr]
theorem U9 {lo B:Nat} {l:List Bool} (h:WrAt 292 5 w lo B v l) (x width:Int) (h0:0<=width) (h1:width<=64) (x0:0<=x) (x1:x<=18446744073709551615) (hw:(wid x.toNat:Int)<=width)
 (hl:l.length<=1000000000) :
 Calls prog 261 #[.pointer (some ⟨B,0,none⟩),.int .u64 x,.int .i64 width] w λe w'=>e=.returned (.int .i64 0) ∧
  ∃v',WrAt 292 5 w' lo B v' (l++Qr x.toNat width.toNat)∧Only (Foot B v) w w'∧Stays w v v':=by
 obtain⟨n,rfl⟩:=Int.eq_ofNat_of_zero_le h0;have HW:Hid (WrAt 292 5 w lo B v l):=h
 have hd:decide (n<wid x.toNat)=false:=by simp;omega
 clear h;go_enter func261,ntmps261;go_wp2_with (first|(go_at_call 284;refine (An _ _ h0 h1).mono ?_;rintro e w' ⟨rfl,rfl⟩)|(go_at_call 260;refine (VI _ _ x0 x1).mono ?_;rintro e w' ⟨rfl,rfl⟩))
 go_loopw [22] (λi wr=>∃(k:Nat) (v':Value),k<=n∧i=.int .i64 k∧WrAt 292 5 wr lo B v' (l++(Qr x.toNat n).take k)∧Only (Foot B v) w wr∧Stays w v v') (λi _=>n - (intOf i).toNat)
 case atStart=>exact⟨0,v,Nat.zero_le _,rfl,by simpa using HW.o,Only.refl _ _,Stays.refl _ _⟩
 case round =>
  obtain⟨k,v',hk,rfl,h8,h2,h3⟩:=hrel
  by_cases hlt:k<n
  ·have h4:(l++(Qr x.toNat n).take k).length<=1000000000000:=by simp[Ug];omega
   have HB:Hid (bits .and .u64 (x / 2^(n - 1 - k)) 1 % 256=((x.toNat.testBit (n - 1 - k)).toNat:Int)):=Ip x _ x0 x1;go_wp2_with (go_at_call 285;refine (wK h8 (x.toNat.testBit (n - 1 - k)) _ HB.o h4).mono ?_;rintro e w2 ⟨rfl,v2,h7,h5,h6⟩)
   go_roundw
   case rel=>exact⟨k+1,v2,by omega,by go_num,by rw[wO _ _ _ hlt,<-List.append_assoc];exact h7,h2.trans h5 (Hk h3),h3.trans h6 h2.size⟩
   case measure=>simp[intOf];omega
  ·go_wp2
   go_ret
   have hkn:k=n:=by omega
   subst hkn;exact⟨rfl,v',by simpa [List.take_of_length_le (Nat.le_of_eq (Ug x.toNat k))] using h8,h2,h3⟩
theorem Tryz.infoC8:(prog.info? 5).map (λi=>(i.zero,i.size,i.bytes))=some (some (.int .u8 0),1,1):=by kernel_rfl
theorem OI (c:Nat) (w:World):Calls prog 62 #[.slice none 0 c] w λe w'=>e=.returned (.slice none 0 0)∧w=w':=by
 have hnil:∀W,(binOp .eql 23 (.slice none 0 c) (.slice none 0 0)).run prog W=.ok (.bool true) W:=λW=>by
  rw[Lib.run_eql_slice_nil W 23 5 none 0 c 0 0 underlying23];rfl
 go_enter func62,ntmps62;go_wp2;go_ret;exact⟨rfl,rfl⟩
theorem wh (ad:Addr) (m c:Nat) (news:List Value) (w:World) (hl:news.length=m) (hnews:∀j u,news[j]? = some u->w.cell? (ad.add j)=some u) (h1:∀u∈news,u.oneCell'=true) (hm:m<=140737488355328) :
 Calls prog 62 #[.slice (some ad) m c] w λe w'=>∃v',e=.returned v'∧w'.ownsRow w.heap.size 5 1 v' m news∧N0 w w'∧v'≠.slice none 0 0:=by
 obtain⟨i0,hi,hz0,hz1,hz2⟩:=info_parts Tryz.infoC8
 have hnil:∀W,(binOp .eql 23 (.slice (some ad) m c) (.slice none 0 0)).run prog W=.ok (.bool false) W:=λW=>by
  rw[Lib.run_eql_slice_nil W 23 5 (some ad) m c 0 0 underlying23];rfl
 have ho:=World.ownsRow_made (base:=w.heap.size) (e:=5) (size:=1) w #[] 0 (Nat.le_refl _) (by unfold maxLen;omega) rfl;have HN:Hid (∀j u,news[j]? = some u->w.cell? (ad.add j)=some u):=hnews;clear hnews;go_enter func62,ntmps62;go_wp2_with (at_builtin;refine wpList_append_own_at _ rfl _ _ _ rfl w.heap.size 5 i0 (.int .u8 0) 1 1 underlying23 hi hz0 hz1 hz2 rfl (by omega) (.slice (some ⟨w.heap.size,0,none⟩) 0 0) 0 [] rfl ho ad m c news rfl ?c0 ?c1 h1 ?c3 ?c4 ?c5 ?_)
 case c0=>omega
 case c1 =>
  intro j u hu;have h0:=HN.o j u hu;rw[World.cell?_of_block (Below.heap_alloc w _ _ (World.block_lt_of_cell? w _ h0))];exact h0
 case c3=>unfold maxLen;omega
 case c4=>omega
 case c5=>simp
 intro v' w1 hown1 hgrow hnn hat
 have FIN:Hid (w1.ownsRow w.heap.size 5 1 v' m news∧N0 w w1∧v'≠.slice none 0 0):=by
  refine⟨by simpa using hown1,((Only.refl _ _).alloc _).grown hgrow (λk hk e=>?_),hnn⟩;simp[Value.ownBlock] at e;omega
 clear hown1 hgrow hnn hat ho;go_wp2;go_ret;exact⟨v',rfl,FIN.o⟩
theorem KI (v:Value) (xs:LI) (w:World) (h:Bs .u8 w v xs) (hm:xs.length<=140737488355328) :
 Calls prog 62 #[v] w λe w'=>∃v',e=.returned v'∧w'.ownsRow w.heap.size 5 1 v' xs.length (xs.map (Value.int .u8))∧N0 w w':=by
 obtain⟨ao,cap,rfl,hc,hr⟩:=h
 cases ao with
 | none =>
  have hx:xs=[]:=by
   cases xs with
   | nil=>rfl
   | cons a t=>obtain⟨b,off,h,_⟩:=hr (by simp);cases h
  subst hx;refine (OI cap w).mono ?_;rintro e w' ⟨rfl,rfl⟩;exact⟨_,rfl,World.ownsRow_nil _ _ _ _,Only.refl _ _⟩
 | some ad =>
  refine (wh ad xs.length cap (xs.map (Value.int .u8)) w (by simp) ?_ (K9 _ _) hm).mono ?_
  ·intro j u hu
   have hj:j<xs.length:=by
    have:=(List.getElem?_eq_some_iff.1 hu).1
    simpa using this
   obtain⟨b,off,hb,h0⟩:=hr (by intro h;subst h;simp at hj)
   cases hb
   have h3:(⟨b,off,none⟩:Addr).add j=⟨b,off+j,none⟩:=by unfold Addr.add;split <;> simp_all
   rw[h3,h0 j hj];rw[<-hu];simp[List.getElem?_eq_getElem hj]
  ·rintro e w' ⟨v',rfl,h1,h2,_⟩
   exact⟨v',rfl,h1,h2⟩
def QR (l:List Bool):LI:=(List.range (nb l)).map λj=>(Yb l j:Int)
theorem DJ (l:List Bool):(QR l).map (Value.int .u8)=Ub l:=by simp[QR,Ub,List.map_map,Function.comp_def]
theorem Ka (l:List Bool):(QR l).length=nb l:=by simp[QR]
theorem WrAt.bs {T E:TypeId} {lo B:Nat} {l:List Bool} (h:WrAt T E w lo B v l):Bs .u8 w v (QR l) :=
 Bs.of_own (by rw[DJ,Ka];exact h.own)
theorem ZU {lo B:Nat} {l:List Bool} (h:WrAt 292 5 w lo B v l) (hl:l.length<=1000000000000) :
 Calls prog 262 #[.pointer (some ⟨B,0,none⟩)] w λe w'=>∃v',e=.returned v'∧w'.ownsRow w.heap.size 5 1 v' (QR l).length ((QR l).map (Value.int .u8))∧N0 w w':=by
 obtain⟨c0,c1,f0,f1⟩:=QU h.cell;have HB:Hid (Bs .u8 w v (QR l)):=h.bs
 have hle:(QR l).length<=140737488355328:=by rw[Ka];unfold nb;omega
 clear h;go_enter func262,ntmps262;go_wp2_with (go_at_call 62;refine (KI v (QR l) _ HB.o hle).mono ?_;rintro e w' ⟨v',rfl,h1,h2⟩);go_ret;exact⟨v',rfl,h1,h2⟩
theorem WrAt.foot_ge {T E:TypeId} {lo B:Nat} {l:List Bool} (h:WrAt T E w lo B v l) {N:Nat} (hB:N<=B):∀k,Foot B v k->N<=k:=by
 intro k hk
 rcases hk with rfl | hk
 ·exact hB
 ·have:=(h.own.lt k hk).1;have:=h.lt;omega
def bitB (ys:LI) (i:Nat):Bool:=((ys.getD (i / 8) 0).toNat).testBit (7 - i % 8)
def Xg (ys:LI):List Bool:=(List.range (8*ys.length)).map (bitB ys)
def bnum (l:List Bool):Nat:=l.foldl (λa b=>2*a+b.toNat) 0
theorem JO (l:List Bool):∀y∈QR l,0<=y∧y<=255:=by
 intro y hy;simp only[QR,List.mem_map] at hy;obtain⟨j,_,rfl⟩:=hy;have:=Xq l j;omega
def fits (x:Int × Int):Prop:=0<=x.2∧x.2<=64∧(wid x.1.toNat:Int)<=x.2
end Go.Proofs.YtoflhbghdlaeaaaGreatDoor
