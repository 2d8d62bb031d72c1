import Derived.Deep.AppendLies
import Derived.Laws.AppendOwnNone
import Derived.OpenShut
import Derived.RangeFuncNested
import Derived.RangeFuncBound
import Derived.Shelf.RegionOpen
import Derived.OwnWalkIn
import Derived.LoopNIn
import Derived.LoopIn
import Derived.Test.YtiochaeeoelmjaaGreatDoorProg
import Derived.WalkSpells
namespace Go.Proofs.YtiochaeeoelmjaaGreatDoor
set_option maxHeartbeats 2000000
set_option maxRecDepth 100000
open Go.RowKit _root_.Go.Proofs.Tryz
theorem _root_.Go.RowKit.Hid.o {p:Prop} (h:Hid p):p:=h
abbrev LI:=List Int
variable {w w' W:World} {v:Value} {ys xs l:LI} {R n p k g B:Nat} {P:Program} {ls:List (LI)} {E:TypeId}
theorem EX {α:Sort _} (a:α):∃x,x=a:=⟨a,rfl⟩
theorem Qq {α:Type _} (l:List α) (i:Nat) (a:α):l.toArray.setIfInBounds i a=(l.set i a).toArray:=List.setIfInBounds_toArray l i a
theorem Qn {α:Type _} {x:α} {xs:List α} {a:α}:(x :: xs).set 0 a=a :: xs:=rfl
theorem Qo {α:Type _} {x:α} {xs:List α} {i:Nat} {a:α}:(x :: xs).set (i+1) a=x :: xs.set i a:=rfl
theorem Qc {α:Type _} {l:List α} {i:Nat} {a:α}:l.getD i a=l[i]?.getD a:=List.getD_eq_getElem?_getD
theorem Qb {α:Type _} {l m:List α}:(l++m).length=l.length+m.length:=List.length_append
theorem Qh {α:Type _} {l:List α} {i:Nat} (h:i<l.length):l[i]? = some l[i]:=List.getElem?_eq_getElem h
theorem Qg {α:Type _} {i:Nat} {l:List α}:(List.take i l).length=min i l.length:=List.length_take
theorem Qk {α:Type _} {a:α} {l:List α}:(a :: l).length=l.length+1:=rfl
theorem Qm {α:Type _} {i:Nat} {l:List α}:(List.drop i l).length=l.length - i:=List.length_drop
theorem Qe {p:Prop} [inst:Decidable p] (h:p):decide p=true:=decide_eq_true h
theorem Qi {p:Prop} [inst:Decidable p] (h:¬p):decide p=false:=decide_eq_false h
theorem Qa {p:Prop} (h:p):Hid p:=h
theorem YN {k:IntKind} {a b:Int} (h:a=b):Ending.returned (.int k a)=.returned (.int k b):=by rw[h]
structure Only (S:Nat->Prop) (w w':World):Prop where
 os:w'.os=w.os
 tape:w'.tape=w.tape
 output:w'.output=w.output
 size:w.heap.size<=w'.heap.size
 block:∀k,k<w.heap.size->¬S k->w'.heap[k]? = w.heap[k]?
abbrev N0:=Only (fun _=>False)
theorem Only.refl (S:Nat->Prop) (w:World):Only S w w:=⟨rfl,rfl,rfl,Nat.le_refl _,λ_ _ _=>rfl⟩
theorem Vz {a b:Prop} (x:a) (y:b):a∧b:=⟨x,y⟩
theorem VG {S:Nat->Prop} {w:World}:Only S w w:=Only.refl S w
theorem Zu {n:Nat}:n<=n:=Nat.le_refl n
theorem Xh {w:World} {b:Nat} {e:TypeId} {s:Nat}:w.ownsRow b e s (.slice none 0 0) 0 []:=World.ownsRow_nil w b e s
theorem Only.trans {S T:Nat->Prop} {a b c:World} (h:Only S a b) (k:Only T b c) (hT:∀i,i<a.heap.size->T i->S i):Only S a c :=
 ⟨k.os.trans h.os,k.tape.trans h.tape,k.output.trans h.output,Nat.le_trans h.size k.size,
  λi hi hs=>(k.block i (Nat.lt_of_lt_of_le hi h.size) (λt=>hs (hT i hi t))).trans (h.block i hi hs)⟩
theorem Only.mono {S T:Nat->Prop} {a b:World} (h:Only S a b) (hT:∀i,i<a.heap.size->S i->T i):Only T a b :=
 ⟨h.os,h.tape,h.output,h.size,λi hi hs=>h.block i hi (λs=>hs (hT i hi s))⟩
theorem Only.drew {S:Nat->Prop} {a b:World} (h:Only S a b):Only S a b.drew:=⟨h.os,h.tape,h.output,h.size,h.block⟩
theorem Only.alloc {S:Nat->Prop} {a b:World} (h:Only S a b) (o:Obj):Only S a (b.alloc o) :=
 h.trans (T:=λ_=>False) ⟨rfl,rfl,rfl,by simp,λk hk _=>Below.heap_alloc _ _ _ hk⟩ (λ_ _ f=>f.elim)
theorem Only.setCell {S:Nat->Prop} {a b:World} (h:Only S a b) {p:Addr} (hp:p.block<a.heap.size->S p.block) (u:Value):Only S a (b.setCell p u) :=
 h.trans (T:=λk=>k=p.block) ⟨rfl,rfl,rfl,by simp[World.setCell],λk _ hk=>Below.heap_setCell _ _ _ _ hk⟩ (λ_ hi e=>by subst e;exact hp hi)
theorem Only.grown {S:Nat->Prop} {a b c:World} {row:Option Nat} (h:Only S a b) (hg:b.grownBy c row) (hr:∀k,k<a.heap.size->row=some k->S k):Only S a c :=
 h.trans (T:=λk=>row=some k) ⟨hg.os,hg.tape,hg.output,hg.size,λk hk hs=>hg.block k hk (λe=>hs e.symm)⟩ hr
theorem Only.below {S:Nat->Prop} {a b:World} (h:Only S a b) {B:Nat} (hB:B<=a.heap.size) (hS:∀k,S k->B<=k):Below B a b :=
 ⟨h.os,h.tape,h.output,h.size,λk hk=>h.block k (by omega) (λs=>by have:=hS k s;omega)⟩
theorem Only.heap {S:Nat->Prop} {a b:World} (h:Only S a b) {k:Nat} {o:Obj} (hk:a.heap[k]? = some o) (hs:¬S k):b.heap[k]? = some o:=by
 rw[h.block k (Array.getElem?_eq_some_iff.1 hk).1 hs];exact hk
theorem Only.own {S:Nat->Prop} {a b:World} (h:Only S a b) {base:Nat} {e:TypeId} {size:Nat} {v:Value} {n:Nat} {xs:List Value} (ho:a.ownsRow base e size v n xs)
 (hs:∀k,v.ownBlock=some k->¬S k):b.ownsRow base e size v n xs:=by
 refine⟨ho.1,?_⟩
 rcases ho.2 with hn | ⟨g,cap,cur,rfl,hb,hg,rest⟩
 ·exact .inl hn
 ·exact .inr ⟨g,cap,cur,rfl,hb,h.heap hg (hs g rfl),rest⟩
theorem Only.drewN {S:Nat->Prop} {a b:World} (h:Only S a b) (n:Nat):Only S a (b.drewN n):=⟨h.os,h.tape,h.output,h.size,h.block⟩
def Bs (k:IntKind) (w:World) (v:Value) (xs:LI):Prop :=
 ∃ao cap,v=.slice ao xs.length cap∧xs.length<=cap∧(xs≠[]->∃b off,ao=some ⟨b,off,none⟩∧∀j,j<xs.length->w.cell? ⟨b,off+j,none⟩=some (.int k (xs.getD j 0)))
theorem Bs.of_own {k:IntKind} {lo:Nat} (h:w.ownsRow lo E 1 v xs.length (xs.map (Value.int k))):Bs k w v xs:=by
 rcases h.2 with ⟨rfl,h0⟩ | ⟨g,cap,cur,rfl,_,_,hc,_⟩
 ·have:xs=[]:=List.eq_nil_of_length_eq_zero h0
  subst this;exact⟨none,0,rfl,Zu,λh=>absurd rfl h⟩
 ·refine⟨_,cap,rfl,hc,λ_=>⟨g,0,rfl,λj hj=>?_⟩⟩
  rw[Nat.zero_add,h.cellAt j (by omega)];simp[List.getElem?_eq_getElem hj]
theorem Bs.keep {k:IntKind} (h:Bs k w v xs) {S:Nat->Prop} (ho:Only S w w') (hs:∀b,v.ownBlock=some b->¬S b):Bs k w' v xs:=by
 obtain⟨ao,cap,rfl,hc,hr⟩:=h;refine⟨ao,cap,rfl,hc,λhx=>?_⟩;obtain⟨b,off,rfl,h1⟩:=hr hx;refine⟨b,off,rfl,λj hj=>?_⟩;have h0:=h1 j hj;rw[<-h0];exact World.cell?_of_block (ho.block b (World.block_lt_of_cell? w _ h0) (hs b rfl))
theorem YW (h:Below w.heap.size w w'):N0 w w':=⟨h.os,h.tape,h.output,h.size,λk hk _=>h.block k hk⟩
theorem Only.low (h:N0 w w') {N:Nat} (hN:N<=w.heap.size):Below N w w':=h.below hN (λ_ f=>f.elim)
theorem KF (k:IntKind) (xs:LI):∀u∈xs.map (Value.int k),u.oneCell'=true:=by
 intro u hu;simp at hu;obtain⟨x,_,rfl⟩:=hu;rfl
theorem Bs.len {k:IntKind} (h:Bs k w v xs):∃ao cap,v=.slice ao xs.length cap:=by
 obtain⟨ao,cap,rfl,_⟩:=h;exact⟨ao,cap,rfl⟩
theorem Bs.later {k:IntKind} (h:Bs k w v xs) (hb:Below w.heap.size w w'):Bs k w' v xs:=by
 obtain⟨ao,cap,rfl,hc,hr⟩:=h;refine⟨ao,cap,rfl,hc,λhx=>?_⟩;obtain⟨b,off,rfl,h0⟩:=hr hx;exact⟨b,off,rfl,λj hj=>(hb.cell (p:=⟨b,off+j,none⟩) (World.block_lt_of_cell? w _ (h0 j hj))).trans (h0 j hj)⟩
theorem Bs.at {k:IntKind} (h:Bs k w v xs) (j:Nat) (hj:j<xs.length):∃b off cap,v=.slice (some ⟨b,off,none⟩) xs.length cap∧w.cell? ⟨b,off+j,none⟩=some (.int k (xs.getD j 0)):=by
 obtain⟨ao,cap,rfl,hc,hr⟩:=h;obtain⟨b,off,rfl,h1⟩:=hr (by intro h0;subst h0;simp at hj);exact⟨b,off,cap,rfl,h1 j hj⟩
theorem Bs.cut0 {k:IntKind} {ao:Option Addr} {m n:Nat} (h:Bs k w (.slice ao m n) xs) (hn:n<=m):Bs k w (.slice ao (m - n) 0) (xs.drop n):=by
 obtain⟨ao',cap,e,hc,_⟩:=h;simp at e;obtain⟨rfl,rfl,rfl⟩:=e;have hx:xs.drop n=[]:=List.drop_of_length_le (by omega);rw[hx];exact⟨ao,0,by simp;omega,Nat.le_refl _,λh=>absurd rfl h⟩
theorem Bs.cut {k:IntKind} {ao:Option Addr} {m cap n:Nat} (h:Bs k w (.slice ao m cap) xs) (hn:n<=m):Bs k w (.slice (ao.map (λx=>x.add n)) (m - n) (cap - n)) (xs.drop n):=by
 obtain⟨ao',cap',e,hc,hr⟩:=h;simp at e;obtain⟨rfl,rfl,rfl⟩:=e;refine⟨_,cap - n,by rw[Qm],by rw[Qm];omega,λhne=>?_⟩
 have hlt:n<xs.length:=by
  rcases Nat.lt_or_ge n xs.length with h | h
  ·exact h
  ·exact absurd (List.drop_of_length_le h) hne
 obtain⟨b,off,rfl,h1⟩:=hr (by intro h0;subst h0;simp at hlt)
 have h2:(⟨b,off,none⟩:Addr).add n=⟨b,off+n,none⟩:=by unfold Addr.add;split <;> simp_all
 refine⟨b,off+n,by simp[h2],λj hj=>?_⟩;rw[Qm] at hj;rw[Nat.add_assoc,h1 (n+j) (by omega)];simp[List.getD_eq_getElem?_getD]
theorem xd (ao:Option Addr) (m cap n m' cap':Nat):(Value.slice (ao.map (λx=>x.add n)) m cap).ownBlock=(Value.slice ao m' cap').ownBlock:=by
 cases ao with
 | none=>rfl
 | some a =>
  simp only[Option.map_some,Value.ownBlock]
  congr 1
  unfold Addr.add
  split <;> rfl
def NoCap (v:Value):Prop:=∀m c,v=.slice none m c->c=0
theorem NoCap.nil:NoCap (.slice none 0 0):=λm c e=>by cases e;rfl
theorem NoCap.some (a:Addr) (m c:Nat):NoCap (.slice (some a) m c):=λm c e=>by cases e
theorem NoCap.of_own {lo:Nat} {size:Nat} {xs:List Value} (h:w.ownsRow lo E size v n xs):NoCap v:=by
 rcases h.2 with ⟨rfl,_⟩ | ⟨g,cap,cur,rfl,_⟩
 ·exact NoCap.nil
 ·exact NoCap.some _ _ _
theorem Bs.nil (k:IntKind) (w:World):Bs k w (.slice none 0 0) []:=⟨none,0,rfl,Zu,λh=>absurd rfl h⟩
theorem Bs.news {k:IntKind} {ad:Addr} {m cap:Nat} (h:Bs k w (.slice (some ad) m cap) xs):∀j u,(xs.map (Value.int k))[j]? = some u->w.cell? (ad.add j)=some u:=by
 intro j u hu
 have hj:j<xs.length:=by
  have:=(List.getElem?_eq_some_iff.1 hu).1
  simpa using this
 obtain⟨b,off,cap',e1,hc⟩:=h.at j hj;simp at e1;obtain⟨rfl,_,_⟩:=e1
 have h0:(⟨b,off,none⟩:Addr).add j=⟨b,off+j,none⟩:=by unfold Addr.add;split <;> simp_all
 rw[h0,hc,<-hu];simp[List.getElem?_eq_getElem hj]
theorem Bs.head {k:IntKind} {ao:Option Addr} {m cap n:Nat} (h:Bs k w (.slice ao m cap) xs) (hn:n<=m):Bs k w (.slice ao n cap) (xs.take n):=by
 obtain⟨ao',cap',e,hc,hr⟩:=h;simp at e;obtain⟨rfl,rfl,rfl⟩:=e
 have h1:(xs.take n).length=n:=by rw[Qg];omega
 refine⟨_,cap,by rw[h1],by omega,λhne=>?_⟩;obtain⟨b,off,rfl,h2⟩:=hr (by intro h0;subst h0;simp at hne);refine⟨b,off,rfl,λj hj=>?_⟩;rw[h1] at hj;rw[h2 j (by omega)]
 congr 2
 rw[Qc,Qc,List.getElem?_take,if_pos hj]
theorem Qr {lo lo':Nat} {size:Nat} {xs:List Value} (h:w.ownsRow lo E size v n xs) (hl:lo'<=lo):w.ownsRow lo' E size v n xs:=by
 refine⟨h.1,?_⟩
 rcases h.2 with h | ⟨g,cap,cur,e,h,r⟩
 ·exact .inl h
 ·exact .inr ⟨g,cap,cur,e,by omega,r⟩
theorem Bs.lit (k:IntKind) (w:World) (E:TypeId) (xs:LI):Bs k (w.alloc (.cells (xs.map (Value.int k)).toArray E)) (.slice (some ⟨w.heap.size,0,none⟩) xs.length xs.length) xs:=by
 refine⟨_,_,rfl,Nat.le_refl _,λ_=>⟨w.heap.size,0,rfl,λj hj=>?_⟩⟩;unfold World.cell?;simp only[heap_alloc_new];simp[List.getElem?_eq_getElem hj]
theorem Bs.litN (k:IntKind) (w:World) (E:TypeId) (xs:LI) (N n:Nat) (hN:w.heap.size=N) (hn:xs.length=n):Bs k (w.alloc (.cells (xs.map (Value.int k)).toArray E)) (.slice (some ⟨N,0,none⟩) n n) xs:=by
 subst hN hn;exact Bs.lit k w E xs
theorem Jh (n:Int) (k:Nat) (hk:k<=62):bits .and .i64 n ((2^k - 1:Nat):Int)=n % ((2^k:Nat):Int):=by
 have hp:2^k<=2^62:=Nat.pow_le_pow_right (by omega) hk
 have h62:(2:Nat)^62=4611686018427387904:=by decide
 have h0:=Nat.two_pow_pos k;have hm:(BitVec.ofInt 64 ((2^k - 1:Nat):Int)).toNat=2^k - 1:=ofInt_u64 _ (by omega);have hd:(2^k:Nat)∣18446744073709551616:=⟨2^(64 - k),by rw[<-Nat.pow_add,show k+(64 - k)=64 by omega]⟩
 have key:(BitVec.ofInt 64 n &&& BitVec.ofInt 64 ((2^k - 1:Nat):Int)).toNat=(n % 18446744073709551616).toNat % 2^k:=by
  rw[BitVec.toNat_and,BitVec.toNat_ofInt,hm,Nat.and_two_pow_sub_one_eq_mod];rfl
 show IntKind.i64.wrap ((BitVec.ofInt 64 n &&& BitVec.ofInt 64 ((2^k - 1:Nat):Int)).toNat:Nat)=_
 have hlt:=Nat.mod_lt (n % 18446744073709551616).toNat h0;rw[key,IntKind.wrap_i64]
 have e:(((n % 18446744073709551616).toNat % 2^k:Nat):Int)=n % ((2^k:Nat):Int):=by
  rw[Int.natCast_emod,Int.toNat_of_nonneg (by omega)];exact Int.emod_emod_of_dvd n (Int.natCast_dvd_natCast.2 hd)
 rw[<-e];omega
theorem Yr {P:Program} (w:World) {ops:Array Oper} {rest:List Oper} {o:Oper} {a:Act} {Q:Exit->Act->World->Prop} (hgd:o.guard=none) (s x:Operand) (t:TypeId)
 (ho:o.op=.call { callee:=.builtin .append,args:=#[s,x],argTypes:=#[t,t] })
 (base:Nat) (e:TypeId) (i:TypeInfo) (z:Value) (bytes:Nat) (ht:P.underlying t=some (.slice e)) (hi:P.info? e=some i) (hz:i.zero=some z)
 (hsize:i.size=1) (hby:i.bytes=bytes) (hzs:z.cells.size=1)
 (v:Value) (n:Nat) (xs:List Value) (hs:a.eval s=v) (hown:w.ownsRow base e 1 v n xs)
 (k:IntKind) (u:Value) (ys:LI) (hx:a.eval x=u) (hb:Bs k w u ys) (hnc:NoCap u)
 (h63:n+ys.length<=maxLen) (hbytes:(n+ys.length)*bytes<=140737488355328) (hbase:base<=w.heap.size)
 (h:∀v' w',w'.ownsRow base e 1 v' (n+ys.length) (xs++ys.map (Value.int k))->w.grownBy w' v.ownBlock->(v'=.slice none 0 0↔v=.slice none 0 0∧ys.length=0)->(v'.ownBlock=v.ownBlock∨v'.ownBlock=some w.heap.size)->wpList P ops Q rest (a.put o.dst v') w') :
 wpList P ops Q (o :: rest) a w:=by
 obtain⟨ao,cap,rfl⟩:=hb.len
 cases ao with
 | none =>
  have h0:ys=[]:=by
   obtain⟨ao',cap',e1,_,hr⟩:=hb
   rcases ys with _ | ⟨y,ys⟩
   ·rfl
   ·obtain⟨b,off,e2,_⟩:=hr (by simp)
    simp at e1;rw[<-e1.1] at e2;cases e2
  subst h0;have hc:cap=0:=hnc _ _ rfl;subst hc;refine wpList_append_own_none hgd s x t ho base e i 1 ht hi v n xs hs hown hx (h v w (by simpa using hown) ?_ (by simp) (.inl rfl));exact World.grownBy.refl _ _
 | some ad =>
  refine wpList_append_own_at w hgd s x t ho base e i z 1 bytes ht hi hz hsize hby hzs (by omega) v n xs hs hown ad ys.length cap (ys.map (Value.int k)) hx (by simp) hb.news (KF _ _) h63 hbytes hbase h
def U64 (xs:LI):Prop:=∀x∈xs,0<=x∧x<=18446744073709551615
theorem Only.same {a b c:World} (h:N0 a b) (k:N0 b c):N0 a c:=h.trans k (λ_ _ f=>f)
theorem Bs.past {k:IntKind} (h:Bs k w v xs) (o:N0 w w'):Bs k w' v xs:=h.keep o (λ_ _ f=>f)
def slen:Value->Nat
 | .slice _ n _=>n
 | _=>0
theorem Bs.blk_lt {k:IntKind} (h:Bs k w v xs) (hx:xs≠[]):∀j,v.ownBlock=some j->j<w.heap.size:=by
 obtain⟨ao,cap,rfl,hc,hr⟩:=h;obtain⟨b,off,rfl,h0⟩:=hr hx;intro j hj;simp[Value.ownBlock] at hj;subst hj;exact World.block_lt_of_cell? w _ (h0 0 (List.length_pos_iff.2 hx))
theorem Bs.formN {k:IntKind} (h:Bs k w v xs) {n:Nat} (hn:xs.length=n):∃ao cap,v=.slice ao n cap∧n<=cap:=by
 obtain⟨ao,cap,e,hc,_⟩:=h;exact⟨ao,cap,by rw[e,hn],by omega⟩
theorem Bs.room {k:IntKind} {ao:Option Addr} {m cap:Nat} (h:Bs k w (.slice ao m cap) xs):m<=cap:=by
 obtain⟨ao',cap',e,hc,_⟩:=h;simp at e;obtain⟨rfl,rfl,rfl⟩:=e;exact hc
theorem NoCap.cut {ao:Option Addr} {m cap:Nat} (h:NoCap (.slice ao m cap)) (m':Nat):NoCap (.slice ao m' cap):=λ_ _ e=>by
 cases e;exact h _ _ rfl
section
open Go.Shelf
attribute [local go_sem] Oper.semAt_some
def upto {α:Type} (f:Nat->α) (k:Nat):List α:=(List.range k).map f
theorem Mu {α:Type} (f:Nat->α) (k:Nat):upto f (k+1)=upto f k++[f k]:=by simp[upto,List.range_succ]
theorem we {α:Type} (f:Nat->α) (k:Nat):(upto f k).length=k:=by simp[upto]
theorem DW (zs:LI) {k:Nat} (hk:k<=zs.length):upto (λj=>zs[j]?.getD 0) k=zs.take k:=by
 apply List.ext_getElem
 ·simp[upto,hk]
 ·intro i h1 h2
  have:i<zs.length:=by simp[upto] at h1;omega
  simp[upto,this]
theorem jI (zs:LI):upto (λj=>zs[j]?.getD 0) zs.length=zs:=by rw[DW zs Zu,List.take_length]
theorem t7 (F:Fence) (n:Nat) (h7:F.fn 243) (hro:F.round=none) (hn:1<=n) (l Bs n₀ b off h1 cap:Nat) (zs:LI) (hreach:h1*8<=140737488351232) (hb:b<n₀) (J Jx:LI->World->Prop)
 (hY:∀pre x W,J pre W->pre.length<h1->YieldAt F (n - 1) prog l #[.int .u64 x] W λe W' =>
  (e=.returned (.bool true)∧J (pre++[x]) W'∧Below n₀ W W')∨(e=.returned (.bool false)∧Jx (pre++[x]) W'))
 (W:World) (hBs:W.cell? ⟨Bs,0,none⟩=some (.slice (some ⟨b,off,none⟩) h1 cap)) (hc:∀j,j<h1->W.cell? ⟨b,off+j,none⟩=some (.int .u64 (zs[j]?.getD 0))) (h0:J [] W) :
 CallsIn F n prog 243 #[.func (.yield l) #[] #[],.pointer (some ⟨Bs,0,none⟩)] W λe W'=>(∃v,e=.returned v) ∧
  ((∃ys,ys=upto (λj=>zs[j]?.getD 0) h1∧J ys W')∨(∃pre,(∃k,k<=h1∧pre=upto (λj=>zs[j]?.getD 0) k)∧Jx pre W')):=by
 refine callsIn_of_wp func243 rfl h7 ?_ hro;simp only[ntmps243,List.size_toArray,Qk,List.length_nil,Nat.reduceAdd,Nat.reduceSub,Array.replicate_succ,Array.replicate_zero,List.push_toArray,List.append_toArray,List.nil_append,List.cons_append]
 gi_wp2
 gi_loopw [7] (λi wr=>∃k:Nat,k<=h1∧i=.int .i64 k∧J (upto (λj=>zs[j]?.getD 0) k) wr∧Below n₀ W wr)
  (λi _=>h1 - (intOf i).toNat)
 case atStart=>exact⟨0,Nat.zero_le _,rfl,h0,Below.refl _ _⟩
 case round =>
  obtain⟨k,hk,rfl,h4,h5⟩:=hrel
  have hcx:k<h1->wr.cell? ⟨b,off+k,none⟩=some (.int .u64 (zs[k]?.getD 0)):=λh=>(h5.cell (p:=⟨b,off+k,none⟩) hb).trans (hc k h)
  by_cases hlt:k<h1
  ·obtain⟨fn,tmps,h2,body,hy,hR⟩:=hY _ (zs[k]?.getD 0) wr h4 (by rw[we];exact hlt)
   have hcx':=hcx hlt
   gi_wp2
   refine hR.mono ?_;rintro e W3 (⟨rfl,hJ3,hk3⟩ | ⟨rfl,h3⟩)
   ·gi_wp2
    go_roundw
    case rel=>exact⟨k+1,by omega,by simp,by rw[Mu];exact hJ3,h5.trans hk3⟩
    case measure=>simp[intOf];omega
   ·gi_wp2
    refine bodyPost_ret (results_none rfl _ _ _) rfl ?_;exact⟨⟨_,rfl⟩,.inr ⟨_,⟨k+1,by omega,(Mu _ _).symm⟩,h3⟩⟩
  ·obtain rfl:k=h1:=by omega
   gi_wp2
   go_end0
   exact⟨⟨_,rfl⟩,.inl ⟨_,rfl,h4⟩⟩
theorem Bj (F:Fence) (n:Nat) (h7:F.fn 243) (hro:F.round=none) (l Bs cap:Nat) (ao:Option Addr) (J:LI->World->Prop) (W:World) (hBs:W.cell? ⟨Bs,0,none⟩=some (.slice ao 0 cap)) (h0:J [] W) :
 CallsIn F n prog 243 #[.func (.yield l) #[] #[],.pointer (some ⟨Bs,0,none⟩)] W λe W'=>(∃v,e=.returned v)∧J [] W':=by
 refine callsIn_of_wp func243 rfl h7 ?_ hro;simp only[ntmps243,List.size_toArray,Qk,List.length_nil,Nat.reduceAdd,Nat.reduceSub,Array.replicate_succ,Array.replicate_zero,List.push_toArray,List.append_toArray,List.nil_append,List.cons_append]
 gi_wp2
 gi_loopw [7] (λi wr=>i=.int .i64 0∧J [] wr) (λ_ _=>0)
 case atStart=>exact⟨rfl,h0⟩
 case round =>
  obtain⟨rfl,hJs⟩:=hrel
  gi_wp2
  go_end0
  exact⟨⟨_,rfl⟩,hJs⟩
theorem N9 (F:Fence) (n:Nat) (h5:F.fn 205) (hro:F.round=none) (a:Option Addr) (len cap:Nat) (w:World) :
 CallsIn F n prog 205 #[.slice a len cap] w λe w'=>e=.returned (.func (.func 243) #[] #[.pointer (some ⟨w.heap.size,0,none⟩)])∧w'=w.alloc (.cells #[.slice a len cap] 76):=by
 refine callsIn_of_wp func205 rfl h5 ?_ hro;simp only[ntmps205,List.size_toArray,Qk,List.length_nil,Nat.reduceAdd,Nat.reduceSub,Array.replicate_succ,Array.replicate_zero,List.push_toArray,List.append_toArray,List.nil_append,List.cons_append]
 gi_wp2
 go_ret;exact⟨rfl,rfl⟩
def Low (n₀:Nat) (W:World) (sv:Value) (zs:LI):Prop :=
 ∃ao cap,sv=.slice ao zs.length cap∧(zs≠[]->∃b off,ao=some ⟨b,off,none⟩∧b<n₀∧∀j,j<zs.length->W.cell? ⟨b,off+j,none⟩=some (.int .u64 (zs[j]?.getD 0)))
theorem Low.below {n₀:Nat} {A B:World} (h:Below n₀ A B) {sv:Value} {zs:LI}:Low n₀ A sv zs->Low n₀ B sv zs:=by
 rintro⟨ao,cap,rfl,hr⟩;refine⟨ao,cap,rfl,λhne=>?_⟩;obtain⟨b,off,rfl,hb,hc⟩:=hr hne;exact⟨b,off,rfl,hb,λj hj=>(h.cell (p:=⟨b,off+j,none⟩) hb).trans (hc j hj)⟩
theorem MD (F:Fence) (n:Nat) (h7:F.fn 243) (hro:F.round=none) (hn:1<=n) (Bs n₀:Nat) (sv:Value) (zs:LI) (hreach:zs.length*8<=140737488351232) (w:World) (hBs:Bs<w.heap.size) (hn₀:n₀<=w.heap.size)
 (hc:w.cell? ⟨Bs,0,none⟩=some sv) (hI:Low n₀ w sv zs) :
 SeqStopsK F n prog 243 #[.pointer (some ⟨Bs,0,none⟩)] (λx:Int=>#[Value.int .u64 x]) (Below n₀) (λys=>ys=zs) (λpre=>pre <+: zs) zs.length w:=λl J Jx W hW _ _ hY h0=>by
 have h1:=(hW.cell (p:=⟨Bs,0,none⟩) hBs).trans hc;obtain⟨ao,cap,rfl,hr⟩:=hI.below (hW.mono hn₀)
 by_cases hne:zs=[]
 ·subst hne
  exact (Bj F n h7 hro l Bs cap ao J W h1 h0).mono λe W' ⟨he,hj⟩=>⟨he,.inl ⟨_,rfl,hj⟩⟩
 ·obtain⟨b,off,rfl,hb,hcs⟩:=hr hne
  refine (t7 F n h7 hro hn l Bs n₀ b off zs.length cap zs hreach hb J Jx hY W h1 hcs h0).mono ?_;rintro e W' ⟨he,⟨ys,rfl,hj⟩ | ⟨pre,⟨k,hk,rfl⟩,hj⟩⟩
  ·exact⟨he,.inl ⟨_,jI zs,hj⟩⟩
  ·exact⟨he,.inr ⟨_,by rw[DW zs hk];exact List.take_prefix _ _,hj⟩⟩
end
def wid (v:Nat):Nat:=if v=0 then 0 else v.log2+1
theorem Yi (v n:Nat):wid v<=n↔v<2^n:=by
 unfold wid
 by_cases h:v=0
 ·subst h;simp[Nat.two_pow_pos]
 ·rw[if_neg h];rw[<-Nat.log2_lt h];omega
theorem uI {v n:Nat} (h:∀m,n<=m↔v<2^m):wid v=n:=by
 have h1:wid v<=n:=(Yi v n).2 ((h n).1 Zu);have h2:n<=wid v:=(h (wid v)).2 ((Yi v (wid v)).1 Zu);omega
theorem Ml (v k:Nat) (h:2^k<=v):wid v=wid (v / 2^k)+k:=by
 refine uI λm=>?_
 by_cases hm:k<=m
 ·have e:2^m=2^(m - k)*2^k:=by rw[<-Nat.pow_add];congr 1;omega
  rw[e,<-Nat.div_lt_iff_lt_mul (Nat.two_pow_pos k),<-Yi];omega
 ·have:2^m<=2^k:=Nat.pow_le_pow_right (by omega) (by omega)
  constructor
  ·intro hk;omega
  ·intro hk;omega
theorem Ki (v:Nat) (h:v<18446744073709551616):wid v<=64:=(Yi v 64).2 (by simpa using h)
def Qhf:ByteArray:=⟨#[0,1,2,2,3,3,3,3,4,4,4,4,4,4,4,4,5,5,5,5,5,5,5,5,5,5,5,5,5,5,5,5,6,6,6,6,6,6,6,6,6,6,6,6,6,6,6,6,6,6,6,6,6,6,6,6,6,6,6,6,6,6,6,6,7,7,7,7,7,7,7,7,7,7,7,7,7,7,7,7,7,7,7,7,7,7,7,7,7,7,7,7,7,7,7,7,7,7,7,7,7,7,7,7,7,7,7,7,7,7,7,7,7,7,7,7,7,7,7,7,7,7,7,7,7,7,7,7,8,8,8,8,8,8,8,8,8,8,8,8,8,8,8,8,8,8,8,8,8,8,8,8,8,8,8,8,8,8,8,8,8,8,8,8,8,8,8,8,8,8,8,8,8,8,8,8,8,8,8,8,8,8,8,8,8,8,8,8,8,8,8,8,8,8,8,8,8,8,8,8,8,8,8,8,8,8,8,8,8,8,8,8,8,8,8,8,8,8,8,8,8,8,8,8,8,8,8,8,8,8,8,8,8,8,8,8,8,8,8,8,8,8,8,8,8,8,8,8,8,8,8,8,8,8,8,8]⟩
theorem tf:∀k:Fin 256,(Qhf.data.toList.getD k.val 0).toNat=wid k.val:=by decide +kernel
theorem As (k:Nat) (h:k<256) (hk:k<Qhf.size):(Qhf[k]'hk).toNat=wid k:=by
 have:=tf ⟨k,h⟩;simp only at this;rw[<-this]
 congr 1
 show Qhf.data[k]'hk=_
 rw[Qc,Qh (by simpa using hk)];simp
theorem uC (k:Nat) (h:k<256) (hk:k<(⟨#[0,1,2,2,3,3,3,3,4,4,4,4,4,4,4,4,5,5,5,5,5,5,5,5,5,5,5,5,5,5,5,5,6,6,6,6,6,6,6,6,6,6,6,6,6,6,6,6,6,6,6,6,6,6,6,6,6,6,6,6,6,6,6,6,7,7,7,7,7,7,7,7,7,7,7,7,7,7,7,7,7,7,7,7,7,7,7,7,7,7,7,7,7,7,7,7,7,7,7,7,7,7,7,7,7,7,7,7,7,7,7,7,7,7,7,7,7,7,7,7,7,7,7,7,7,7,7,7,8,8,8,8,8,8,8,8,8,8,8,8,8,8,8,8,8,8,8,8,8,8,8,8,8,8,8,8,8,8,8,8,8,8,8,8,8,8,8,8,8,8,8,8,8,8,8,8,8,8,8,8,8,8,8,8,8,8,8,8,8,8,8,8,8,8,8,8,8,8,8,8,8,8,8,8,8,8,8,8,8,8,8,8,8,8,8,8,8,8,8,8,8,8,8,8,8,8,8,8,8,8,8,8,8,8,8,8,8,8,8,8,8,8,8,8,8,8,8,8,8,8,8,8,8,8,8,8]⟩:ByteArray).size):((⟨#[0,1,2,2,3,3,3,3,4,4,4,4,4,4,4,4,5,5,5,5,5,5,5,5,5,5,5,5,5,5,5,5,6,6,6,6,6,6,6,6,6,6,6,6,6,6,6,6,6,6,6,6,6,6,6,6,6,6,6,6,6,6,6,6,7,7,7,7,7,7,7,7,7,7,7,7,7,7,7,7,7,7,7,7,7,7,7,7,7,7,7,7,7,7,7,7,7,7,7,7,7,7,7,7,7,7,7,7,7,7,7,7,7,7,7,7,7,7,7,7,7,7,7,7,7,7,7,7,8,8,8,8,8,8,8,8,8,8,8,8,8,8,8,8,8,8,8,8,8,8,8,8,8,8,8,8,8,8,8,8,8,8,8,8,8,8,8,8,8,8,8,8,8,8,8,8,8,8,8,8,8,8,8,8,8,8,8,8,8,8,8,8,8,8,8,8,8,8,8,8,8,8,8,8,8,8,8,8,8,8,8,8,8,8,8,8,8,8,8,8,8,8,8,8,8,8,8,8,8,8,8,8,8,8,8,8,8,8,8,8,8,8,8,8,8,8,8,8,8,8,8,8,8,8,8,8]⟩:ByteArray)[k]'hk).toNat=wid k:=As k h hk
theorem WD (k:Nat) (h:k<256):wid k<=8:=(Yi k 8).2 (by simpa using h)
theorem Uq (v m:Int) (k:Nat) (hm:m=((2^k:Nat):Int)) (h0:0<=v) (h:m<=v):wid v.toNat=wid (v / m).toNat+k:=by
 subst hm
 have e:(v / ((2^k:Nat):Int)).toNat=v.toNat / 2^k:=by
  obtain⟨n,rfl⟩:=Int.eq_ofNat_of_zero_le h0;rw[<-Int.natCast_ediv];rfl
 rw[e];exact Ml _ _ (by omega)
theorem Kp (a:Int) (n:Nat) (ha:n<=8) (h:0<=a) (h2:a<=56):wrap64 (a+wrap64 n)=a+n:=by
 rw[IntWalk.wrap64_in (n:Int) (by omega),IntWalk.wrap64_in _ (by omega)]
theorem zT (n:Nat) (ha:n<=8):wrap64 (wrap64 n)=n:=by
 rw[IntWalk.wrap64_in (n:Int) (by omega),IntWalk.wrap64_in _ (by omega)]
theorem PI (v:Int) (w:World) (h0:0<=v) (h1:v<=18446744073709551615) :
 Calls prog 202 #[.int .u64 v] w λe w'=>e=.returned (.int .i64 (wid v.toNat))∧w=w':=by
 go_enter func202,ntmps202;go_wp2
 all_goals go_ret
 all_goals refine⟨YN ?_,rfl⟩
 all_goals rw[uC _ (by omega)]
 ·rw[Kp _ _ (WD _ (by omega)) (by omega) (by omega),Uq v 4294967296 32 rfl (by omega) (by omega),Uq (v / 4294967296) 65536 16 rfl (by omega) (by omega),Uq ((v / 4294967296) / 65536) 256 8 rfl (by omega) (by omega)];omega
 ·rw[Kp _ _ (WD _ (by omega)) (by omega) (by omega),Uq v 4294967296 32 rfl (by omega) (by omega),Uq (v / 4294967296) 65536 16 rfl (by omega) (by omega)];omega
 ·rw[Kp _ _ (WD _ (by omega)) (by omega) (by omega),Uq v 4294967296 32 rfl (by omega) (by omega),Uq (v / 4294967296) 256 8 rfl (by omega) (by omega)];omega
 ·rw[Kp _ _ (WD _ (by omega)) (by omega) (by omega),Uq v 4294967296 32 rfl (by omega) (by omega)];omega
 ·rw[Kp _ _ (WD _ (by omega)) (by omega) (by omega),Uq v 65536 16 rfl (by omega) (by omega),Uq (v / 65536) 256 8 rfl (by omega) (by omega)];omega
 ·rw[Kp _ _ (WD _ (by omega)) (by omega) (by omega),Uq v 65536 16 rfl (by omega) (by omega)];omega
 ·rw[Kp _ _ (WD _ (by omega)) (by omega) (by omega),Uq v 256 8 rfl (by omega) (by omega)];omega
 ·exact zT _ (WD _ (by omega))
theorem V2 (v:Int) (w:World) (h0:0<=v) (h1:v<=18446744073709551615) :
 Calls prog 171 #[.int .u64 v] w λe w'=>e=.returned (.int .i64 (wid v.toNat))∧w=w':=by
 go_enter func171,ntmps171;go_wp2_with (go_at_call 202;refine (PI _ _ h0 h1).mono ?_;rintro e w' ⟨rfl,rfl⟩);go_ret;exact⟨rfl,rfl⟩
theorem JW (n:Int) (w:World) (h0:0<=n) (h1:n<=64) :
 Calls prog 206 #[.int .i64 n] w λe w'=>e=.returned (.bool true)∧w=w':=by
 go_enter func206,ntmps206;go_wp2;go_ret;exact⟨rfl,rfl⟩
def Yf (l:List Bool) (j:Nat):Nat :=
 (l.getD (8*j) false).toNat*128+(l.getD (8*j+1) false).toNat*64+(l.getD (8*j+2) false).toNat*32+(l.getD (8*j+3) false).toNat*16 +
 (l.getD (8*j+4) false).toNat*8+(l.getD (8*j+5) false).toNat*4+(l.getD (8*j+6) false).toNat*2+(l.getD (8*j+7) false).toNat
def nb (l:List Bool):Nat:=(l.length+7) / 8
def Ui (l:List Bool):List Value:=(List.range (nb l)).map λj=>.int .u8 (Yf l j)
theorem YD (b:Bool):b.toNat<=1:=by cases b <;> simp
theorem Gm (l:List Bool) (j:Nat):Yf l j<256:=by
 unfold Yf;have h0:=YD (l.getD (8*j) false);have h1:=YD (l.getD (8*j+1) false);have h2:=YD (l.getD (8*j+2) false);have h3:=YD (l.getD (8*j+3) false);have h4:=YD (l.getD (8*j+4) false);have h5:=YD (l.getD (8*j+5) false);have h6:=YD (l.getD (8*j+6) false);have h7:=YD (l.getD (8*j+7) false);omega
theorem Le (l:List Bool) (i:Nat) (h:l.length<=i):l.getD i false=false:=by
 rw[Qc,List.getElem?_eq_none h];rfl
theorem Mo (l:List Bool) (b:Bool) (i:Nat):(l++[b]).getD i false=if i=l.length then b else l.getD i false:=by
 rw[Qc,Qc,List.getElem?_append]
 by_cases h:i<l.length
 ·rw[if_pos h,if_neg (by omega)]
 ·rw[if_neg h]
  by_cases h2:i=l.length
  ·subst h2;simp
  ·rw[if_neg h2,List.getElem?_eq_none (by simp;omega),List.getElem?_eq_none (by omega)]
theorem Ny (l:List Bool) (b:Bool) (j:Nat) (h:j≠l.length / 8):Yf (l++[b]) j=Yf l j:=by
 simp only[Yf,Mo]
 repeat rw[if_neg (by omega)]
theorem NP (l:List Bool) (b:Bool) (j r:Nat) (h:l.length=8*j+r) (hr:r<8) :
 Yf (l++[b]) j=Yf l j+b.toNat*2^(7 - r)∧Yf l j % 2^(8 - r)=0:=by
 have e:r=0∨r=1∨r=2∨r=3∨r=4∨r=5∨r=6∨r=7:=by omega
 have ho:∀i,l.length<=i->l.getD i false=false:=Le l;have h0:=YD (l.getD (8*j) false);have h1:=YD (l.getD (8*j+1) false);have h2:=YD (l.getD (8*j+2) false);have h3:=YD (l.getD (8*j+3) false);have h4:=YD (l.getD (8*j+4) false);have h5:=YD (l.getD (8*j+5) false);have h6:=YD (l.getD (8*j+6) false);have h7:=YD (l.getD (8*j+7) false);simp only[Yf,Mo,h]
 rcases e with rfl | rfl | rfl | rfl | rfl | rfl | rfl | rfl
 ·rw[ho (8*j) (by omega),ho (8*j+1) (by omega),ho (8*j+2) (by omega),ho (8*j+3) (by omega),ho (8*j+4) (by omega),ho (8*j+5) (by omega),ho (8*j+6) (by omega),ho (8*j+7) (by omega)]
  simp
 ·rw[ho (8*j+1) (by omega),ho (8*j+2) (by omega),ho (8*j+3) (by omega),ho (8*j+4) (by omega),ho (8*j+5) (by omega),ho (8*j+6) (by omega),ho (8*j+7) (by omega)]
  simp <;> omega
 ·rw[ho (8*j+2) (by omega),ho (8*j+3) (by omega),ho (8*j+4) (by omega),ho (8*j+5) (by omega),ho (8*j+6) (by omega),ho (8*j+7) (by omega)]
  simp <;> omega
 ·rw[ho (8*j+3) (by omega),ho (8*j+4) (by omega),ho (8*j+5) (by omega),ho (8*j+6) (by omega),ho (8*j+7) (by omega)]
  simp <;> omega
 ·rw[ho (8*j+4) (by omega),ho (8*j+5) (by omega),ho (8*j+6) (by omega),ho (8*j+7) (by omega)]
  simp <;> omega
 ·rw[ho (8*j+5) (by omega),ho (8*j+6) (by omega),ho (8*j+7) (by omega)]
  simp <;> omega
 ·rw[ho (8*j+6) (by omega),ho (8*j+7) (by omega)]
  simp <;> omega
 ·rw[ho (8*j+7) (by omega)]
  simp <;> omega
theorem TY (l:List Bool) (b:Bool) (n:Nat) (hn:l.length=n) :
 bits .or .u8 (Yf l (n / 8)) ((b.toNat:Int)*2^(7 - n % 8) % 256)=Yf (l++[b]) (n / 8):=by
 obtain⟨h1,h2⟩:=NP l b (n / 8) (n % 8) (by omega) (by omega)
 have hp:2^(7 - n % 8)<=128:=by
  have:2^(7 - n % 8)<=2^7:=Nat.pow_le_pow_right (by omega) (by omega)
  simpa using this
 have hb:=YD b
 have hm:b.toNat*2^(7 - n % 8)<=128:=by
  have:=Nat.mul_le_mul_right (2^(7 - n % 8)) hb;omega
 have e:((b.toNat:Int)*2^(7 - n % 8) % 256)=((b.toNat*2^(7 - n % 8):Nat):Int):=by
  have:((b.toNat:Int)*2^(7 - n % 8))=((b.toNat*2^(7 - n % 8):Nat):Int):=by simp
  rw[this];omega
 rw[e,u8_or_nat _ _ (Gm _ _) (by omega),h1,nat_join (8 - n % 8) _ _ h2]
 have:2^(8 - n % 8)=2*2^(7 - n % 8):=by
  rw[show 8 - n % 8=(7 - n % 8)+1 by omega,Nat.pow_succ];omega
 have h1:b.toNat*2^(7 - n % 8)<=1*2^(7 - n % 8):=Nat.mul_le_mul_right _ hb;have h2:=Nat.two_pow_pos (7 - n % 8);omega
theorem Js (l:List Bool):(Ui l).length=nb l:=by simp[Ui]
theorem VM (l:List Bool) (i:Nat):(Ui l)[i]? = if i<nb l then some (.int .u8 (Yf l i)) else none:=by
 unfold Ui
 by_cases h:i<nb l
 ·simp[h]
 ·simp[h]
theorem yj (l:List Bool) (b:Bool) (h:l.length % 8≠0):(Ui l).set (l.length / 8) (.int .u8 (Yf (l++[b]) (l.length / 8)))=Ui (l++[b]):=by
 have hn:nb (l++[b])=nb l:=by unfold nb;simp;omega
 apply List.ext_getElem?
 intro i;rw[List.getElem?_set,VM,VM,Js,hn]
 by_cases hi:l.length / 8=i
 ·subst hi;rw[if_pos rfl]
 ·rw[if_neg hi,Ny _ _ _ (Ne.symm hi)]
theorem On (l:List Bool) (b:Bool) (h:l.length % 8=0):(Ui l++[Value.int .u8 0]).set (l.length / 8) (.int .u8 (Yf (l++[b]) (l.length / 8)))=Ui (l++[b]):=by
 have hn:nb (l++[b])=nb l+1:=by unfold nb;simp;omega
 have hj:l.length / 8=nb l:=by unfold nb;omega
 apply List.ext_getElem?
 intro i;rw[List.getElem?_set,Qb,Js,List.getElem?_append,VM,VM,Js,hn]
 by_cases hi:l.length / 8=i
 ·subst hi;rw[if_pos rfl,hj];simp
 ·rw[if_neg hi,Ny _ _ _ (Ne.symm hi)]
  by_cases h1:i<nb l
  ·rw[if_pos h1,if_pos h1,if_pos (by omega)]
  ·rw[if_neg h1,if_neg (by omega),List.getElem?_eq_none (by simp;omega)]
theorem Nk (l:List Bool) (b:Bool):nb (l++[b])=if l.length % 8=0 then nb l+1 else nb l:=by
 unfold nb;simp;split <;> omega
structure WrAt (T E:TypeId) (w:World) (lo B:Nat) (v:Value) (l:List Bool):Prop where
 own:w.ownsRow lo E 1 v (nb l) (Ui l)
 cell:w.heap[B]? = some (.cells #[v,.int .i64 l.length] T (0,0))
 lt:B<lo
 le:lo<=w.heap.size
def Foot (B:Nat) (v:Value) (k:Nat):Prop:=k=B∨v.ownBlock=some k
def Stays (w:World) (v v':Value):Prop:=v'.ownBlock=v.ownBlock∨∀k,v'.ownBlock=some k->w.heap.size<=k
theorem WrAt.keep {T E:TypeId} {lo B:Nat} {l:List Bool} (h:WrAt T E w lo B v l) {S:Nat->Prop} (ho:Only S w w') (hB:¬S B) (hv:∀k,v.ownBlock=some k->¬S k):WrAt T E w' lo B v l :=
 ⟨ho.own h.own hv,ho.heap h.cell hB,h.lt,Nat.le_trans h.le ho.size⟩
theorem WrAt.new {T E:TypeId} (w:World):WrAt T E (w.alloc (.cells #[.slice none 0 0,.int .i64 0] T)) (w.heap.size+1) w.heap.size (.slice none 0 0) [] :=
 ⟨by simpa [nb,Ui] using Xh,heap_alloc_new w _,by omega,by simp⟩
theorem Stays.refl (w:World) (v:Value):Stays w v v:=.inl rfl
theorem Stays.trans {a b c:Value} (h:Stays w a b) (k:Stays w' b c) (hs:w.heap.size<=w'.heap.size):Stays w a c:=by
 rcases k with k | k
 ·rcases h with h | h
  ·exact .inl (k.trans h)
  ·exact .inr λi hi=>h i (by rw[<-k];exact hi)
 ·exact .inr λi hi=>Nat.le_trans hs (k i hi)
theorem Sr {v v':Value} (hs:Stays w v v'):∀i,i<w.heap.size->Foot B v' i->Foot B v i:=by
 intro i hi h
 rcases h with h | h
 ·exact .inl h
 ·rcases hs with hs | hs
  ·exact .inr (by rw[<-hs];exact h)
  ·have:=hs i h;omega
theorem Tryz.info5:(prog.info? 5).map (λi=>(i.zero,i.size,i.bytes))=some (some (.int .u8 0),1,1):=by kernel_rfl
theorem Qu {a b:Value} {T:TypeId} (h:w.heap[B]? = some (.cells #[a,b] T (0,0))) :
 w.cell? ⟨B,0,none⟩=some a∧w.cell? ⟨B,1,none⟩=some b∧w.frozen? ⟨B,0,none⟩=false∧w.frozen? ⟨B,1,none⟩=false :=
 ⟨by simp[World.cell?,h],by simp[World.cell?,h],by simp[World.frozen?,h],by simp[World.frozen?,h]⟩
theorem Oi (B g cap m n:Nat) (x bit:Int) (w:World) (hne:B≠g)
 (h0:w.cell? ⟨B,0,none⟩=some (.slice (some ⟨g,0,none⟩) m cap)) (h1:w.cell? ⟨B,1,none⟩=some (.int .i64 n))
 (f1:w.frozen? ⟨B,1,none⟩=false) (hx:w.cell? ⟨g,n / 8,none⟩=some (.int .u8 x)) (fx:w.frozen? ⟨g,n / 8,none⟩=false)
 (hn:n<=1000000000000) (hm:n / 8<m) (hr:((n:Int) % 8 == 0)=false) :
 Calls prog 207 #[.pointer (some ⟨B,0,none⟩),.int .u8 bit] w λe w'=>e=.returned (.tuple #[]) ∧
  w'=((w.setCell ⟨g,n / 8,none⟩ (.int .u8 (bits .or .u8 x (bit*2^(7 - n % 8) % 256)))).setCell ⟨B,1,none⟩ (.int .i64 ((n:Int)+1))).drew:=by
 have hi0:(0:Int)<=(n:Int) / 8:=by omega
 have hi1:(n:Int) / 8<(m:Int):=by omega
 go_enter func207,ntmps207;go_wp2;go_region
 all_goals go_wp2
 all_goals go_end0
 all_goals exact⟨rfl,rfl⟩
theorem Bc (lo B n m:Nat) (v:Value) (xs:List Value) (bit:Int) (w:World) (hB:w.heap[B]? = some (.cells #[v,.int .i64 n] 214 (0,0))) (hlt:B<lo) (hle:lo<=w.heap.size)
 (hown:w.ownsRow lo 5 1 v m xs) (hn:n<=1000000000000) (hm:n=8*m) (hr:((n:Int) % 8 == 0)=true) :
 Calls prog 207 #[.pointer (some ⟨B,0,none⟩),.int .u8 bit] w λe w'=>e=.returned (.tuple #[]) ∧
  ∃g cap w1,w1.ownsRow lo 5 1 (.slice (some ⟨g,0,none⟩) (m+1) cap) (m+1) (xs++[.int .u8 0])∧(w.alloc (.cells #[.int .u8 0] 5)).grownBy w1 v.ownBlock∧(v.ownBlock=some g∨g=w.heap.size+1) ∧
  w'=(((w1.setCell ⟨B,0,none⟩ (.slice (some ⟨g,0,none⟩) (m+1) cap)).setCell ⟨g,n / 8,none⟩ (.int .u8 (bits .or .u8 0 (bit*2^(7 - n % 8) % 256)))).setCell ⟨B,1,none⟩ (.int .i64 ((n:Int)+1))).drew:=by
 obtain⟨i0,hi,hz0,hz1,hz2⟩:=info_parts Tryz.info5;obtain⟨c0,c1,f0,f1⟩:=Qu hB
 have h0:B<w.heap.size:=by omega
 have hBo:v.ownBlock≠some B:=λe=>by have:=(hown.lt B e).1;omega
 have HM:Hid (n=8*m):=hm;clear hm;go_enter func207,ntmps207;go_wp2_with (at_builtin;refine wpList_append_lies _ rfl _ _ _ rfl lo 5 i0 (.int .u8 0) 1 1 underlying23 hi hz0 hz1 hz2 rfl (by omega) v m xs rfl (hown.alloc _) ⟨w.heap.size,0,none⟩ 1 1 [.int .u8 0] rfl rfl ?c1 ?c2 (by omega) ?c3 ?c4 ?c5 (w.heap.size+1) (by simp) ?_)
 case c1=>exact cell_one_new _ _ _
 case c2=>intro u hu;simp at hu;subst hu;rfl
 case c3=>have:=HM.o;unfold maxLen;omega
 case c4=>have:=HM.o;omega
 case c5=>simp;omega
 intro g cap w1 hown1 hgrow hat hg1
 have h2:w1.heap[B]? = some (.cells #[v,.int .i64 n] 214 (0,0)):=by
  rw[hgrow.block B (by simp;omega) (λe=>hBo e.symm),Below.heap_alloc w _ B h0];exact hB
 obtain⟨k0,k1,e0,e1⟩:=Qu h2
 have hne:B≠g:=by have:=(hown1.lt g rfl).1;omega
 have hrow:w1.cell? ⟨g,n / 8,none⟩=some (.int .u8 0):=by
  rw[hown1.cellAt (n / 8) (by have:=HM.o;omega)]
  have:xs.length=n / 8:=by have:=hown.1;have:=HM.o;omega
  rw[List.getElem?_append_right (by omega)];simp[this]
 have hfr:w1.frozen? ⟨g,n / 8,none⟩=false:=hown1.frozenAt _
 have hi0:(0:Int)<=(n:Int) / 8:=by omega
 have hi1:(n:Int) / 8<((m+1:Nat):Int):=by have:=HM.o;omega
 have hi2:(n:Int) / 8<(m:Int)+1:=by have:=HM.o;omega
 have h1:Hid (w1.ownsRow lo 5 1 (.slice (some ⟨g,0,none⟩) (m+1) cap) (m+1) (xs++[.int .u8 0])∧(w.alloc (.cells #[.int .u8 0] 5)).grownBy w1 v.ownBlock∧(v.ownBlock=some g∨g=w.heap.size+1)):=⟨hown1,hgrow,hat⟩;clear hown1 hgrow hat hown h2;go_wp2;go_region
 all_goals go_wp2
 all_goals go_end0
 all_goals exact⟨rfl,g,cap,w1,h1.o.1,h1.o.2.1,h1.o.2.2,rfl⟩
theorem Vy {a b:Value} {T:TypeId} (h:w.heap[B]? = some (.cells #[a,b] T (0,0))) (c:Value) :
 (w.setCell ⟨B,0,none⟩ c).heap[B]? = some (.cells #[c,b] T (0,0))∧(w.setCell ⟨B,1,none⟩ c).heap[B]? = some (.cells #[a,c] T (0,0)):=by
 have h0:=heap_setCell_same w B 0 #[a,b] T c h;have h1:=heap_setCell_same w B 1 #[a,b] T c h;exact⟨by simpa using h0,by simpa using h1⟩
theorem PX (l:List Bool) (b:Bool):((l++[b]).length:Int)=(l.length:Int)+1:=by simp
theorem zj {lo B:Nat} {l:List Bool} (h:WrAt 214 5 w lo B v l) (b:Bool) (bit:Int) (hb:bit=(b.toNat:Int)) (hl:l.length<=1000000000000) :
 Calls prog 207 #[.pointer (some ⟨B,0,none⟩),.int .u8 bit] w λe w'=>e=.returned (.tuple #[]) ∧
  ∃v',WrAt 214 5 w' lo B v' (l++[b])∧Only (Foot B v) w w'∧Stays w v v':=by
 subst hb;have h5:B<w.heap.size:=Nat.lt_of_lt_of_le h.lt h.le
 by_cases hr:l.length % 8=0
 ·have hm:l.length=8*nb l:=by unfold nb;omega
  refine (Bc lo B l.length (nb l) v (Ui l) b.toNat w h.cell h.lt h.le h.own hl hm (by rw[beq_iff_eq];omega)).mono ?_;rintro e w' ⟨rfl,g,cap,w1,h2,h0,h1,rfl⟩;refine⟨rfl,.slice (some ⟨g,0,none⟩) (nb l+1) cap,?_,?_,?_⟩
  ·have h4:B≠g:=by have:=(h2.lt g rfl).1;have:=h.lt;omega
   have hBo:v.ownBlock≠some B:=λe=>by have:=(h.own.lt B e).1;have:=h.lt;omega
   have hB1:w1.heap[B]? = some (.cells #[v,.int .i64 l.length] 214 (0,0)):=by
    rw[h0.block B (by simp;omega) (λe=>hBo e.symm),Below.heap_alloc w _ B h5];exact h.cell
   have hz:Yf l (l.length / 8)=0:=by
    have:=(NP l b (l.length / 8) 0 (by omega) (by omega)).2;have:=Gm l (l.length / 8);omega
   have h3:=TY l b l.length rfl;rw[hz] at h3;rw[show ((0:Nat):Int)=0 from rfl] at h3;refine⟨?_,?_,h.lt,?_⟩
   ·have o1:=ownsRow_setCell_below h2 (a:=⟨B,0,none⟩) h.lt (.slice (some ⟨g,0,none⟩) (nb l+1) cap)
    have o2:=(o1.stored (l.length / 8) (.int .u8 (bits .or .u8 0 (b.toNat*2^(7 - l.length % 8) % 256)))).1;have o3:=ownsRow_setCell_below o2 (a:=⟨B,1,none⟩) h.lt (.int .i64 ((l.length:Int)+1));have o4:=o3.drew;rw[h3,On l b hr] at o4
    have en:nb (l++[b])=nb l+1:=by rw[Nk,if_pos hr]
    rw[h3,en];exact o4
   ·have q1:=(Vy hB1 (.slice (some ⟨g,0,none⟩) (nb l+1) cap)).1
    have q2:((w1.setCell ⟨B,0,none⟩ (.slice (some ⟨g,0,none⟩) (nb l+1) cap)).setCell ⟨g,l.length / 8,none⟩ (.int .u8 (bits .or .u8 0 (b.toNat*2^(7 - l.length % 8) % 256)))).heap[B]? = some (.cells #[.slice (some ⟨g,0,none⟩) (nb l+1) cap,.int .i64 l.length] 214 (0,0)):=by
     rw[Below.heap_setCell _ _ _ _ h4];exact q1
    have q3:=(Vy q2 (.int .i64 ((l.length:Int)+1))).2;rw[PX];exact q3
   ·have:=h0.size
    simp at this
    show lo<=(World.setCell _ _ _).heap.size
    simp[World.setCell];have:=h.le;omega
  ·have a1:Only (Foot B v) w w1:=(VG.alloc _).grown h0 (λk _ e=>.inr e)
   refine (((a1.setCell (λ_=>.inl rfl) _).setCell (λhlt=>?_) _).setCell (λ_=>.inl rfl) _).drew
   rcases h1 with h1 | h1
   ·exact .inr h1
   ·subst h1;simp at hlt;omega
  ·rcases h1 with h1 | h1
   ·exact .inl h1.symm
   ·exact .inr λk hk=>by simp[Value.ownBlock] at hk;omega
 ·have hn0:0<nb l:=by unfold nb;omega
  obtain⟨g,cap,rfl,hg0,hg1⟩:=h.own.form hn0;obtain⟨c0,c1,f0,f1⟩:=Qu h.cell
  have h4:B≠g:=by have:=h.lt;omega
  have h6:w.cell? ⟨g,l.length / 8,none⟩=some (.int .u8 (Yf l (l.length / 8))):=by
   rw[h.own.cellAt _ (by unfold nb;omega),VM,if_pos (by unfold nb;omega)]
  refine (Oi B g cap (nb l) l.length (Yf l (l.length / 8)) b.toNat w h4 c0 c1 f1 h6 (h.own.frozenAt _) hl (by unfold nb;omega) (by rw[beq_eq_false_iff_ne];omega)).mono ?_;rintro e w' ⟨rfl,rfl⟩;have h3:=TY l b l.length rfl;refine⟨rfl,.slice (some ⟨g,0,none⟩) (nb l) cap,?_,?_,.inl rfl⟩
  ·refine⟨?_,?_,h.lt,?_⟩
   ·have o2:=(h.own.stored (l.length / 8) (.int .u8 (bits .or .u8 (Yf l (l.length / 8)) (b.toNat*2^(7 - l.length % 8) % 256)))).1
    have o3:=ownsRow_setCell_below o2 (a:=⟨B,1,none⟩) h.lt (.int .i64 ((l.length:Int)+1));have o4:=o3.drew;rw[h3,yj l b hr] at o4
    have en:nb (l++[b])=nb l:=by rw[Nk,if_neg hr]
    rw[h3,en];exact o4
   ·have q2:(w.setCell ⟨g,l.length / 8,none⟩ (.int .u8 (bits .or .u8 (Yf l (l.length / 8)) (b.toNat*2^(7 - l.length % 8) % 256)))).heap[B]? = some (.cells #[.slice (some ⟨g,0,none⟩) (nb l) cap,.int .i64 l.length] 214 (0,0)):=by
     rw[Below.heap_setCell _ _ _ _ h4];exact h.cell
    have q3:=(Vy q2 (.int .i64 ((l.length:Int)+1))).2;rw[PX];exact q3
   ·show lo<=(World.setCell _ _ _).heap.size
    simp[World.setCell];exact h.le
  ·exact ((VG.setCell (λ_=>.inr rfl) _).setCell (λ_=>.inl rfl) _).drew
def Ql (v n:Nat):List Bool:=(List.range n).map λi=>v.testBit (n - 1 - i)
theorem zc (x:Int) (j:Nat) (x0:0<=x) (x1:x<=18446744073709551615):bits .and .u64 (x / 2^j) 1 % 256=((x.toNat.testBit j).toNat:Int):=by
 obtain⟨m,rfl⟩:=Int.eq_ofNat_of_zero_le x0
 have e:((m:Int) / 2^j)=((m / 2^j:Nat):Int):=by simp
 have h:=Nat.div_le_self m (2^j);rw[e,show (1:Int)=((1:Nat):Int) from rfl,u64_and_nat _ _ (by omega) (by omega),nat_mask1,Int.toNat_natCast,Nat.testBit_eq_decide_div_mod_eq]
 by_cases h1:m / 2^j % 2=1
 ·simp[h1]
 ·have:m / 2^j % 2=0:=by omega
  simp[this]
theorem zD (v n k:Nat) (h:k<n):(Ql v n).take (k+1)=(Ql v n).take k++[v.testBit (n - 1 - k)]:=by
 have hl:(Ql v n).length=n:=by simp[Ql]
 rw[List.take_succ_eq_append_getElem (by omega)];simp[Ql]
theorem Yo (v n:Nat):(Ql v n).length=n:=by simp[Ql]
theorem We {lo B:Nat} {l:List Bool} (h:WrAt 214 5 w lo B v l) (x width:Int) (h0:0<=width) (h1:width<=64) (x0:0<=x) (x1:x<=18446744073709551615) (hw:(wid x.toNat:Int)<=width)
 (hl:l.length<=1000000000) :
 Calls prog 172 #[.pointer (some ⟨B,0,none⟩),.int .u64 x,.int .i64 width] w λe w'=>e=.returned (.int .i64 0) ∧
  ∃v',WrAt 214 5 w' lo B v' (l++Ql x.toNat width.toNat)∧Only (Foot B v) w w'∧Stays w v v':=by
 obtain⟨n,rfl⟩:=Int.eq_ofNat_of_zero_le h0;have HW:Hid (WrAt 214 5 w lo B v l):=h
 have hd:decide (n<wid x.toNat)=false:=by simp;omega
 clear h;go_enter func172,ntmps172;go_wp2_with (first|(go_at_call 206;refine (JW _ _ h0 h1).mono ?_;rintro e w' ⟨rfl,rfl⟩)|(go_at_call 171;refine (V2 _ _ x0 x1).mono ?_;rintro e w' ⟨rfl,rfl⟩))
 go_loopw [22] (λi wr=>∃(k:Nat) (v':Value),k<=n∧i=.int .i64 k∧WrAt 214 5 wr lo B v' (l++(Ql x.toNat n).take k)∧Only (Foot B v) w wr∧Stays w v v') (λi _=>n - (intOf i).toNat)
 case atStart=>exact⟨0,v,Nat.zero_le _,rfl,by simpa using HW.o,VG,Stays.refl _ _⟩
 case round =>
  obtain⟨k,v',hk,rfl,h8,h2,h3⟩:=hrel
  by_cases hlt:k<n
  ·have h4:(l++(Ql x.toNat n).take k).length<=1000000000000:=by simp[Yo];omega
   have HB:Hid (bits .and .u64 (x / 2^(n - 1 - k)) 1 % 256=((x.toNat.testBit (n - 1 - k)).toNat:Int)):=zc x _ x0 x1;go_wp2_with (go_at_call 207;refine (zj h8 (x.toNat.testBit (n - 1 - k)) _ HB.o h4).mono ?_;rintro e w2 ⟨rfl,v2,h7,h5,h6⟩)
   go_roundw
   case rel=>exact⟨k+1,v2,by omega,by go_num,by rw[zD _ _ _ hlt,<-List.append_assoc];exact h7,h2.trans h5 (Sr h3),h3.trans h6 h2.size⟩
   case measure=>simp[intOf];omega
  ·go_wp2
   go_ret
   have hkn:k=n:=by omega
   subst hkn;exact⟨rfl,v',by simpa [List.take_of_length_le (Nat.le_of_eq (Yo x.toNat k))] using h8,h2,h3⟩
theorem Tryz.infoC8:(prog.info? 5).map (λi=>(i.zero,i.size,i.bytes))=some (some (.int .u8 0),1,1):=by kernel_rfl
theorem vC (c:Nat) (w:World):Calls prog 93 #[.slice none 0 c] w λe w'=>e=.returned (.slice none 0 0)∧w=w':=by
 have hnil:∀W,(binOp .eql 23 (.slice none 0 c) (.slice none 0 0)).run prog W=.ok (.bool true) W:=λW=>by
  rw[Lib.run_eql_slice_nil W 23 5 none 0 c 0 0 underlying23];rfl
 go_enter func93,ntmps93;go_wp2;go_ret;exact⟨rfl,rfl⟩
theorem ql (ad:Addr) (m c:Nat) (news:List Value) (w:World) (hl:news.length=m) (hnews:∀j u,news[j]? = some u->w.cell? (ad.add j)=some u) (h1:∀u∈news,u.oneCell'=true) (hm:m<=140737488355328) :
 Calls prog 93 #[.slice (some ad) m c] w λe w'=>∃v',e=.returned v'∧w'.ownsRow w.heap.size 5 1 v' m news∧N0 w w'∧v'≠.slice none 0 0:=by
 obtain⟨i0,hi,hz0,hz1,hz2⟩:=info_parts Tryz.infoC8
 have hnil:∀W,(binOp .eql 23 (.slice (some ad) m c) (.slice none 0 0)).run prog W=.ok (.bool false) W:=λW=>by
  rw[Lib.run_eql_slice_nil W 23 5 (some ad) m c 0 0 underlying23];rfl
 have ho:=World.ownsRow_made (base:=w.heap.size) (e:=5) (size:=1) w #[] 0 Zu (by unfold maxLen;omega) rfl;have HN:Hid (∀j u,news[j]? = some u->w.cell? (ad.add j)=some u):=hnews;clear hnews;go_enter func93,ntmps93;go_wp2_with (at_builtin;refine wpList_append_own_at _ rfl _ _ _ rfl w.heap.size 5 i0 (.int .u8 0) 1 1 underlying23 hi hz0 hz1 hz2 rfl (by omega) (.slice (some ⟨w.heap.size,0,none⟩) 0 0) 0 [] rfl ho ad m c news rfl ?c0 ?c1 h1 ?c3 ?c4 ?c5 ?_)
 case c0=>omega
 case c1 =>
  intro j u hu;have h0:=HN.o j u hu;rw[World.cell?_of_block (Below.heap_alloc w _ _ (World.block_lt_of_cell? w _ h0))];exact h0
 case c3=>unfold maxLen;omega
 case c4=>omega
 case c5=>simp
 intro v' w1 hown1 hgrow hnn hat
 have FIN:Hid (w1.ownsRow w.heap.size 5 1 v' m news∧N0 w w1∧v'≠.slice none 0 0):=by
  refine⟨by simpa using hown1,(VG.alloc _).grown hgrow (λk hk e=>?_),hnn⟩;simp[Value.ownBlock] at e;omega
 clear hown1 hgrow hnn hat ho;go_wp2;go_ret;exact⟨v',rfl,FIN.o⟩
theorem Kb (v:Value) (xs:LI) (w:World) (h:Bs .u8 w v xs) (hm:xs.length<=140737488355328) :
 Calls prog 93 #[v] w λe w'=>∃v',e=.returned v'∧w'.ownsRow w.heap.size 5 1 v' xs.length (xs.map (Value.int .u8))∧N0 w w':=by
 obtain⟨ao,cap,rfl,hc,hr⟩:=h
 cases ao with
 | none =>
  have hx:xs=[]:=by
   cases xs with
   | nil=>rfl
   | cons a t=>obtain⟨b,off,h,_⟩:=hr (by simp);cases h
  subst hx;refine (vC cap w).mono ?_;rintro e w' ⟨rfl,rfl⟩;exact⟨_,rfl,Xh,VG⟩
 | some ad =>
  refine (ql ad xs.length cap (xs.map (Value.int .u8)) w (by simp) ?_ (KF _ _) hm).mono ?_
  ·intro j u hu
   have hj:j<xs.length:=by
    have:=(List.getElem?_eq_some_iff.1 hu).1
    simpa using this
   obtain⟨b,off,hb,h0⟩:=hr (by intro h;subst h;simp at hj)
   cases hb
   have h3:(⟨b,off,none⟩:Addr).add j=⟨b,off+j,none⟩:=by unfold Addr.add;split <;> simp_all
   rw[h3,h0 j hj];rw[<-hu];simp[List.getElem?_eq_getElem hj]
  ·rintro e w' ⟨v',rfl,h1,h2,_⟩
   exact⟨v',rfl,h1,h2⟩
def QF (l:List Bool):LI:=(List.range (nb l)).map λj=>(Yf l j:Int)
theorem Ig (l:List Bool):(QF l).map (Value.int .u8)=Ui l:=by simp[QF,Ui,List.map_map,Function.comp_def]
theorem UM (l:List Bool):(QF l).length=nb l:=by simp[QF]
theorem WrAt.bs {T E:TypeId} {lo B:Nat} {l:List Bool} (h:WrAt T E w lo B v l):Bs .u8 w v (QF l) :=
 Bs.of_own (by rw[Ig,UM];exact h.own)
theorem ZM {lo B:Nat} {l:List Bool} (h:WrAt 214 5 w lo B v l) (hl:l.length<=1000000000000) :
 Calls prog 173 #[.pointer (some ⟨B,0,none⟩)] w λe w'=>∃v',e=.returned v'∧w'.ownsRow w.heap.size 5 1 v' (QF l).length ((QF l).map (Value.int .u8))∧N0 w w':=by
 obtain⟨c0,c1,f0,f1⟩:=Qu h.cell;have HB:Hid (Bs .u8 w v (QF l)):=h.bs
 have hle:(QF l).length<=140737488355328:=by rw[UM];unfold nb;omega
 clear h;go_enter func173,ntmps173;go_wp2_with (go_at_call 93;refine (Kb v (QF l) _ HB.o hle).mono ?_;rintro e w' ⟨v',rfl,h1,h2⟩);go_ret;exact⟨v',rfl,h1,h2⟩
theorem WrAt.foot_ge {T E:TypeId} {lo B:Nat} {l:List Bool} (h:WrAt T E w lo B v l) {N:Nat} (hB:N<=B):∀k,Foot B v k->N<=k:=by
 intro k hk
 rcases hk with rfl | hk
 ·exact hB
 ·have:=(h.own.lt k hk).1;have:=h.lt;omega
def bitB (ys:LI) (i:Nat):Bool:=((ys.getD (i / 8) 0).toNat).testBit (7 - i % 8)
def Qf (ys:LI):List Bool:=(List.range (8*ys.length)).map (bitB ys)
def bnum (l:List Bool):Nat:=l.foldl (λa b=>2*a+b.toNat) 0
theorem ZD (l:List Bool) (b:Bool):bnum (l++[b])=2*bnum l+b.toNat:=by simp[bnum]
theorem Wi (l:List Bool):bnum l<2^l.length:=by
 induction h:l.length generalizing l with
 | zero =>
  have:l=[]:=List.eq_nil_of_length_eq_zero h;subst this;simp[bnum]
 | succ n ih =>
  have h1:l≠[]:=by intro h0;subst h0;simp at h
  obtain⟨t,b,rfl⟩:∃t b,l=t++[b]:=⟨l.dropLast,l.getLast h1,(List.dropLast_concat_getLast h1).symm⟩;have:=ih t (by simp at h;omega);rw[ZD,Nat.pow_succ];have:=YD b;omega
theorem WE (ys:LI):(Qf ys).length=8*ys.length:=by simp[Qf]
theorem KR (ys:LI) (i:Nat) (h:i<8*ys.length):(Qf ys)[i]? = some (bitB ys i):=by simp[Qf,h]
structure RdAt (T:TypeId) (w:World) (R:Nat) (v:Value) (ys:LI) (p:Nat):Prop where
 bs:Bs .u8 w v ys
 rng:∀y∈ys,0<=y∧y<=255
 cell:w.heap[R]? = some (.cells #[v,.int .i64 p] T (0,0))
 ap:v.ownBlock≠some R
 le:p<=8*ys.length
 len:ys.length<=1000000000000
theorem RdAt.keep {T:TypeId} (h:RdAt T w R v ys p) {S:Nat->Prop} (ho:Only S w w') (hR:¬S R) (hv:∀k,v.ownBlock=some k->¬S k):RdAt T w' R v ys p :=
 ⟨h.bs.keep ho hv,h.rng,ho.heap h.cell hR,h.ap,h.le,h.len⟩
theorem RdAt.form {T:TypeId} (h:RdAt T w R v ys p):∃ao cap,v=.slice ao ys.length cap:=by
 obtain⟨ao,cap,rfl,_⟩:=h.bs;exact⟨ao,cap,rfl⟩
theorem py (R g off m cap:Nat) (y q:Int) (w:World) (hq:0<=q) (hq2:q<=1000000000000000)
 (h0:w.cell? ⟨R,0,none⟩=some (.slice (some ⟨g,off,none⟩) m cap)) (hi:q / 8<(m:Int)) (hx:w.cell? ⟨g,off+q.toNat / 8,none⟩=some (.int .u8 y)) :
 Calls prog 288 #[.pointer (some ⟨R,0,none⟩),.int .i64 q] w λe w'=>e=.returned (.int .u8 (bits .and .u8 (y / 2^(7 - q.toNat % 8)) 1))∧w=w':=by
 obtain⟨n,rfl⟩:=Int.eq_ofNat_of_zero_le hq;simp only[Int.toNat_natCast] at hx
 have hi0:(0:Int)<=(n:Int) / 8:=by omega
 go_enter func288,ntmps288;go_wp2;go_ret;exact⟨rfl,rfl⟩
theorem qx (y:Int) (j:Nat) (y0:0<=y) (y1:y<=255):bits .and .u8 (y / 2^j) 1=((y.toNat.testBit j).toNat:Int):=by
 obtain⟨m,rfl⟩:=Int.eq_ofNat_of_zero_le y0
 have e:((m:Int) / 2^j)=((m / 2^j:Nat):Int):=by simp
 have h:=Nat.div_le_self m (2^j);rw[e,show (1:Int)=((1:Nat):Int) from rfl,u8_and_nat _ _ (by omega) (by omega),nat_mask1,Int.toNat_natCast,Nat.testBit_eq_decide_div_mod_eq]
 by_cases h1:m / 2^j % 2=1
 ·simp[h1]
 ·have:m / 2^j % 2=0:=by omega
  simp[this]
theorem yP (h:RdAt 317 w R v ys p) (q:Int) (q0:0<=q) (q1:q<8*(ys.length:Int)) :
 Calls prog 288 #[.pointer (some ⟨R,0,none⟩),.int .i64 q] w λe w'=>e=.returned (.int .u8 ((bitB ys q.toNat).toNat:Int))∧w=w':=by
 have hne:ys≠[]:=by intro h0;subst h0;simp at q1;omega
 obtain⟨ao,cap,rfl,hcap,hr⟩:=h.bs;obtain⟨b,off,rfl,h1⟩:=hr hne
 have hj:q.toNat / 8<ys.length:=by omega
 have hc:=h1 (q.toNat / 8) hj
 have hy:0<=ys.getD (q.toNat / 8) 0∧ys.getD (q.toNat / 8) 0<=255:=by
  refine h.rng _ ?_;rw[Qc,Qh hj];simp
 have hl:=h.len;refine (py R b off ys.length cap (ys.getD (q.toNat / 8) 0) q w q0 (by omega) (Qu h.cell).1 (by omega) hc).mono ?_;rintro e w' ⟨rfl,rfl⟩;refine⟨YN ?_,rfl⟩;rw[qx _ _ hy.1 hy.2];rfl
theorem kH (R m cap p:Nat) (ao:Option Addr) (w:World) (hm:m<=140737488355328) (hp:p<=8*m)
 (h0:w.cell? ⟨R,0,none⟩=some (.slice ao m cap)) (h1:w.cell? ⟨R,1,none⟩=some (.int .i64 p)) :
 Calls prog 284 #[.pointer (some ⟨R,0,none⟩)] w λe w'=>e=.returned (.int .i64 (8*(m:Int) - p))∧N0 w w':=by
 go_enter func284,ntmps284;go_wp2;go_quiet (fail);go_wp2;go_ret;exact⟨rfl,VG.drewN _⟩
theorem Za (h:RdAt 317 w R v ys p) :
 Calls prog 284 #[.pointer (some ⟨R,0,none⟩)] w λe w'=>e=.returned (.int .i64 (8*(ys.length:Int) - p))∧N0 w w':=by
 obtain⟨ao,cap,rfl⟩:=h.form;have hl:=h.len;exact kH R ys.length cap p ao w (by omega) h.le (Qu h.cell).1 (Qu h.cell).2.1
theorem kE (h:RdAt 317 w R v ys p) (width:Int) (h0:0<=width) (h1:width<=64) (hs:8*(ys.length:Int) - p<width) :
 Calls prog 285 #[.pointer (some ⟨R,0,none⟩),.int .i64 width] w λe w'=>e=.returned (.tuple #[.int .u64 0,.int .i64 2])∧N0 w w':=by
 have HR:=Qa h;clear h;go_enter func285,ntmps285;go_wp2_with fail;refine (JW _ _ h0 h1).mono ?_;rintro e w' ⟨rfl,rfl⟩;go_wp2_with fail;refine (Za HR.o).mono ?_;rintro e w1 ⟨rfl,ho⟩;go_wp2;go_ret2;exact⟨rfl,ho⟩
theorem rF (a:Nat) (b:Bool) (h:a<=9223372036854775807):bits .or .u64 ((a:Int)*2) (IntKind.u64.wrap (b.toNat:Int))=((2*a+b.toNat:Nat):Int):=by
 have hb:=YD b
 have e1:IntKind.u64.wrap (b.toNat:Int)=((b.toNat:Nat):Int):=by rw[IntKind.wrap_u64];omega
 have e2:((a:Int)*2)=((2*a:Nat):Int):=by omega
 rw[e1,e2,u64_or_nat _ _ (by omega) (by omega),nat_join 1 _ _ (by omega) (by omega)]
theorem Cj (ys:LI) (p k:Nat) (h:p+k<8*ys.length):((Qf ys).drop p).take (k+1)=((Qf ys).drop p).take k++[bitB ys (p+k)]:=by
 have hl:k<((Qf ys).drop p).length:=by rw[Qm,WE];omega
 rw[List.take_succ_eq_append_getElem hl]
 congr 2
 have:=KR ys (p+k) h;rw[List.getElem_drop];exact (List.getElem?_eq_some_iff.1 this).2
theorem If (l:List Bool) (h:l.length<=63):bnum l<=9223372036854775807:=by
 have h1:=Wi l;have h2:2^l.length<=2^63:=Nat.pow_le_pow_right (by omega) h;omega
theorem RdAt.moved {T:TypeId} (h:RdAt T w R v ys p) (q:Nat) (hq:q<=8*ys.length) (z:Int) (hz:z=(q:Int)) (e:w'=w.setCell ⟨R,1,none⟩ (.int .i64 z)) :
 RdAt T w' R v ys q∧Only (λk=>k=R) w w':=by
 subst e;subst hz;have ho:Only (λk=>k=R) w (w.setCell ⟨R,1,none⟩ (.int .i64 (q:Int))):=Only.setCell (S:=λk=>k=R) (p:=⟨R,1,none⟩) VG (λ_=>rfl) _;exact⟨⟨h.bs.keep ho (λk hk e=>h.ap (by rw[<-e];exact hk)),h.rng,(Vy h.cell _).2,h.ap,hq,h.len⟩,ho⟩
theorem Jj (h:RdAt 317 w R v ys p) (width:Int) (h0:0<=width) (h1:width<=64) (hs:(p:Int)+width<=8*(ys.length:Int)) :
 Calls prog 285 #[.pointer (some ⟨R,0,none⟩),.int .i64 width] w λe w'=>e=.returned (.tuple #[.int .u64 (bnum (((Qf ys).drop p).take width.toNat)),.int .i64 0]) ∧
  RdAt 317 w' R v ys (p+width.toNat)∧Only (λk=>k=R) w w':=by
 obtain⟨n,rfl⟩:=Int.eq_ofNat_of_zero_le h0;rw[Int.toNat_natCast];have HR:=Qa h;have hp:=h.le;have hlen:=h.len;clear h;go_enter func285,ntmps285;go_wp2_with fail;refine (JW _ _ h0 h1).mono ?_;rintro e w' ⟨rfl,rfl⟩;go_wp2_with fail;refine (Za HR.o).mono ?_;rintro e w1 ⟨rfl,ho⟩;have h2:=Qa (HR.o.keep ho (λf=>f) (λ_ _ f=>f));obtain⟨c0,c1,f0,f1⟩:=Qu h2.o.cell;have HO:=Qa ho;clear HR ho
 have hd:decide (8*(ys.length:Int) - (p:Int)<(n:Int))=false:=by simp;omega
 go_wp2
 go_loop [6,20] (λa i=>∃k:Nat,k<=n∧i=.int .i64 k∧a=.int .u64 (bnum (((Qf ys).drop p).take k))) (λ_ i=>n - (intOf i).toNat)
 case atStart=>exact⟨0,Nat.zero_le _,rfl,rfl⟩
 case round =>
  obtain⟨k,hk,rfl,rfl⟩:=hrel
  by_cases hlt:k<n
  ·have hb:(bnum (((Qf ys).drop p).take k):Int)<=9223372036854775807:=by
    have:=If (((Qf ys).drop p).take k) (by rw[Qg];omega);omega
   have HS:=Qa (rF (bnum (((Qf ys).drop p).take k)) (bitB ys (p+k)) (by omega));go_wp2_with fail;refine (yP h2.o _ (by omega) (by omega)).mono ?_;rintro e wz ⟨rfl,rfl⟩;go_wp2
   go_round
   case rel =>
    refine⟨k+1,by omega,by go_num,?_⟩;rw[HS.o,Cj ys p k (by omega),ZD]
   case measure=>simp[intOf];omega
  ·go_wp2
   go_ret2
   have hkn:k=n:=by omega
   subst hkn;obtain⟨m1,m2⟩:=h2.o.moved (p+k) (by omega) ((p:Int)+k) (by omega) rfl;exact⟨rfl,m1,(HO.o.mono (T:=λk=>k=R) (λ_ _ f=>f.elim)).trans m2 (λ_ _ h=>h)⟩
theorem XP (v:Value) (ys:LI) (w:World) (h:Bs .u8 w v ys) (hr:∀y∈ys,0<=y∧y<=255) (hl:ys.length<=1000000000000) :
 Calls prog 275 #[v] w λe w'=>∃R v',e=.returned (.pointer (some ⟨R,0,none⟩))∧RdAt 317 w' R v' ys 0∧N0 w w'∧w.heap.size<=R∧R<w'.heap.size∧(∀k,v'.ownBlock=some k->w.heap.size<=k∧k<w'.heap.size):=by
 have HB:=Qa h;have HR:=Qa hr;clear h hr;go_enter func275,ntmps275;go_wp2_with fail;refine (Kb v ys _ HB.o (by omega)).mono ?_;rintro e w1 ⟨v',rfl,h0,ho⟩;have h1:=Bs.of_own h0;have h2:=h0.lt;obtain⟨ao,cap,rfl,_⟩:=id h1;have HBS:=Qa h1;have h3:=Qa h2;have HO:=Qa ho;clear h0 ho h1 h2;go_wp2;go_ret;have oa:N0 w1 (w1.alloc (.cells #[.slice ao ys.length cap,.int .i64 0] 317)):=VG.alloc _;refine⟨w1.heap.size,.slice ao ys.length cap,rfl,⟨HBS.o.keep oa (λ_ _ f=>f),HR.o,heap_alloc_new w1 _,?_,Nat.zero_le _,hl⟩,HO.o.trans oa (λ_ _ f=>f),HO.o.size,by simp,?_⟩
 ·intro e
  have:=(h3.o _ e).2;omega
 ·intro k hk
  have:=h3.o k hk;simp;omega
theorem yE (a b:List Bool):bnum (a++b)=bnum a*2^b.length+bnum b:=by
 induction h:b.length generalizing b with
 | zero =>
  have:b=[]:=List.eq_nil_of_length_eq_zero h;subst this;simp[bnum]
 | succ n ih =>
  have h1:b≠[]:=by intro h0;subst h0;simp at h
  obtain⟨t,c,rfl⟩:∃t c,b=t++[c]:=⟨b.dropLast,b.getLast h1,(List.dropLast_concat_getLast h1).symm⟩;have hi:=ih t (by simp at h;omega);rw[<-List.append_assoc,ZD,ZD,hi,Nat.pow_succ,Nat.mul_add]
  have:2*(bnum a*2^n)=bnum a*(2^n*2):=by rw[Nat.mul_comm (2^n) 2,Nat.mul_left_comm]
  omega
theorem Cy (v n:Nat):Ql v (n+1)=Ql (v / 2) n++[v.testBit 0]:=by
 apply List.ext_getElem?
 intro i;rw[List.getElem?_append];simp only[Ql,List.length_map,List.length_range,List.getElem?_map]
 by_cases hi:i<n
 ·rw[if_pos hi,List.getElem?_range (by omega),List.getElem?_range hi]
  simp only[Option.map_some];rw[show n+1 - 1 - i=(n - 1 - i)+1 by omega,Nat.testBit_succ]
 ·rw[if_neg hi]
  by_cases h2:i=n
  ·subst h2;rw[List.getElem?_range (by omega)];simp
  ·rw[List.getElem?_eq_none (by simp;omega),List.getElem?_eq_none (by simp;omega)];rfl
theorem GE (v n:Nat):bnum (Ql v n)=v % 2^n:=by
 induction n generalizing v with
 | zero=>simp[Ql,bnum,Nat.mod_one]
 | succ n ih =>
  rw[Cy,ZD,ih,Nat.pow_succ,Nat.mul_comm (2^n) 2,Nat.mod_mul,Nat.testBit_zero]
  have:(decide (v % 2=1)).toNat=v % 2:=by
   rcases Nat.mod_two_eq_zero_or_one v with h | h <;> simp[h]
  omega
theorem Ta (l:List Bool):Qf (QF l)=l++List.replicate (8*nb l - l.length) false:=by
 have hn:l.length<=8*nb l:=by unfold nb;omega
 apply List.ext_getElem?
 intro i
 by_cases hi:i<8*nb l
 ·rw[KR _ _ (by rw[UM];exact hi)]
  have hj:i / 8<nb l:=by omega
  have e:(l++List.replicate (8*nb l - l.length) false)[i]? = some (l.getD i false):=by
   rw[List.getElem?_append]
   by_cases h1:i<l.length
   ·rw[if_pos h1,Qc,Qh h1];rfl
   ·rw[if_neg h1,List.getElem?_replicate,if_pos (by omega),Le l i (by omega)]
  rw[e]
  congr 1
  unfold bitB
  have e2:(QF l).getD (i / 8) 0=(Yf l (i / 8):Int):=by
   rw[Qc];simp[QF,hj]
  rw[e2,Int.toNat_natCast]
  have key:∀(b0 b1 b2 b3 b4 b5 b6 b7:Bool) (r:Fin 8),(b0.toNat*128+b1.toNat*64+b2.toNat*32+b3.toNat*16+b4.toNat*8+b5.toNat*4+b6.toNat*2+b7.toNat).testBit (7 - r.val)=[b0,b1,b2,b3,b4,b5,b6,b7].getD r.val false:=by decide +kernel
  have hk:=key (l.getD (8*(i / 8)) false) (l.getD (8*(i / 8)+1) false) (l.getD (8*(i / 8)+2) false) (l.getD (8*(i / 8)+3) false) (l.getD (8*(i / 8)+4) false) (l.getD (8*(i / 8)+5) false) (l.getD (8*(i / 8)+6) false) (l.getD (8*(i / 8)+7) false) ⟨i % 8,by omega⟩;simp only at hk;unfold Yf;rw[hk]
  have hr:i % 8=0∨i % 8=1∨i % 8=2∨i % 8=3∨i % 8=4∨i % 8=5∨i % 8=6∨i % 8=7:=by omega
  rcases hr with h | h | h | h | h | h | h | h <;> rw[h] <;> simp only[List.getD_cons_zero,List.getD_cons_succ] <;> congr 1 <;> omega
 ·rw[List.getElem?_eq_none (by rw[WE,UM];omega),List.getElem?_eq_none (by simp;omega)]
theorem GW (l:List Bool):∀y∈QF l,0<=y∧y<=255:=by
 intro y hy;simp only[QF,List.mem_map] at hy;obtain⟨j,_,rfl⟩:=hy;have:=Gm l j;omega
def fits (x:Int × Int):Prop:=0<=x.2∧x.2<=64∧(wid x.1.toNat:Int)<=x.2
theorem eight (l:List Bool) (j:Nat) (h:8*j+8<=l.length):(l.drop (8*j)).take 8=[l.getD (8*j) false,l.getD (8*j+1) false,l.getD (8*j+2) false,l.getD (8*j+3) false,l.getD (8*j+4) false,l.getD (8*j+5) false,l.getD (8*j+6) false,l.getD (8*j+7) false]:=by
 have hg:∀i,i<8->((l.drop (8*j)).take 8)[i]? = some (l.getD (8*j+i) false):=λi hi=>by
  rw[List.getElem?_take,if_pos hi,List.getElem?_drop,Qc,Qh (show 8*j+i<l.length by omega)];rfl
 apply List.ext_getElem?
 intro i
 by_cases hi:i<8
 ·rw[hg i hi]
  have hr:i=0∨i=1∨i=2∨i=3∨i=4∨i=5∨i=6∨i=7:=by omega
  rcases hr with rfl | rfl | rfl | rfl | rfl | rfl | rfl | rfl <;> rfl
 ·rw[List.getElem?_eq_none (by rw[Qg];omega),List.getElem?_eq_none (by simp;omega)]
theorem Rn (a b:LI):Qf (a++b)=Qf a++Qf b:=by
 apply List.ext_getElem?
 intro i;rw[List.getElem?_append,WE]
 by_cases h:i<8*a.length
 ·rw[if_pos h,KR _ _ (by rw[Qb];omega),KR _ _ h]
  congr 1
  unfold bitB
  congr 2
  rw[Qc,Qc,List.getElem?_append,if_pos (by omega)]
 ·rw[if_neg h]
  by_cases h2:i<8*(a++b).length
  ·rw[KR _ _ h2,KR _ _ (by rw[Qb] at h2;omega)]
   congr 1
   unfold bitB;rw[Qc,Qc,List.getElem?_append,if_neg (by omega),show (i - 8*a.length) / 8=i / 8 - a.length by omega,show (i - 8*a.length) % 8=i % 8 by omega]
  ·rw[List.getElem?_eq_none (by rw[WE];omega),List.getElem?_eq_none (by rw[WE];rw[Qb] at h2;omega)]
theorem Tryz.infoU8:(prog.info? 5).map (λi=>(i.zero,i.size,i.bytes))=some (some (.int .u8 0),1,1):=by kernel_rfl
def gsF:Nat->Nat->LI
 | 0,v=>[(v:Int)]
 | f+1,v=>if v<128 then [(v:Int)] else ((v % 128+128:Nat):Int) :: gsF f (v / 128)
def gs (v:Nat):LI:=gsF v v
theorem jW (f:Nat):∀(g v:Nat),v<=f->v<=g->gsF f v=gsF g v:=by
 induction f with
 | zero =>
  intro g v h _
  obtain rfl:v=0:=by omega
  cases g with
  | zero=>rfl
  | succ g=>simp[gsF]
 | succ f ih =>
  intro g v h h2
  cases g with
  | zero =>
   obtain rfl:v=0:=by omega
   simp[gsF]
  | succ g =>
   simp only[gsF]
   by_cases hv:v<128
   ·rw[if_pos hv,if_pos hv]
   ·rw[if_neg hv,if_neg hv,ih g (v / 128) (by omega) (by omega)]
theorem UJ {v:Nat} (h:v<128):gs v=[(v:Int)]:=by
 unfold gs
 cases v with
 | zero=>rfl
 | succ v=>rw[gsF,if_pos h]
theorem WG {v:Nat} (h:128<=v):gs v=((v % 128+128:Nat):Int) :: gs (v / 128):=by
 unfold gs;obtain⟨u,rfl⟩:∃u,v=u+1:=⟨v - 1,by omega⟩;rw[gsF,if_neg (by omega),jW u ((u+1) / 128) ((u+1) / 128) (by omega) Zu]
theorem Zc (v:Nat):0<(gs v).length:=by
 rcases Nat.lt_or_ge v 128 with h | h
 ·rw[UJ h];simp
 ·rw[WG h];simp
theorem J4 (v:Nat):(gs v).length=(max (wid v) 1+6) / 7:=by
 induction v using Nat.strongRecOn with
 | _ v ih =>
  rcases Nat.lt_or_ge v 128 with h | h
  ·rw[UJ h]
   have:wid v<=7:=(Yi v 7).2 (by simpa using h);simp;omega
  ·rw[WG h,Qk,ih (v / 128) (by omega)]
   have h1:=Ml v 7 (by simpa using h);rw[show (2:Nat)^7=128 from rfl] at h1
   have h2:0<wid (v / 128):=by
    rcases Nat.eq_zero_or_pos (wid (v / 128)) with h0 | h0
    ·have:=(Yi (v / 128) 0).1 (by omega)
     simp at this;omega
    ·exact h0
   omega
theorem MG {a b:Nat} (h:a<=b):wid a<=wid b:=(Yi a (wid b)).2 (Nat.lt_of_le_of_lt h ((Yi b (wid b)).1 Zu))
theorem pE {a b:Nat} (h:a<=b):(gs a).length<=(gs b).length:=by
 have:=MG h;rw[J4,J4];omega
theorem Yu {v:Nat} (h:v<18446744073709551616):(gs v).length<=10:=by
 have:=Ki v h;rw[J4];omega
theorem UU (v:Nat):∀x∈gs v,0<=x∧x<=255:=by
 induction v using Nat.strongRecOn with
 | _ v ih =>
  rcases Nat.lt_or_ge v 128 with h | h
  ·rw[UJ h]
   intro x hx;simp at hx;omega
  ·rw[WG h]
   intro x hx
   rcases List.mem_cons.1 hx with hx | hx
   ·omega
   ·exact ih (v / 128) (by omega) x hx
def rd (i:Nat) (acc:Int):LI->Int × Int × Int
 | []=>(0,0,2)
 | c :: t=>if i=9∧1<c then (0,0,3) else if 128<=c then rd (i+1) (acc+c % 128*128^i) t else if c=0∧0<i then (0,0,3) else (acc+c*128^i,(i:Int)+1,0)
theorem RK (i:Nat) (acc:Int):rd i acc []=(0,0,2):=rfl
theorem KH (i:Nat) (acc c:Int) (t:LI):rd i acc (c :: t)=if i=9∧1<c then (0,0,3) else if 128<=c then rd (i+1) (acc+c % 128*128^i) t else if c=0∧0<i then (0,0,3) else (acc+c*128^i,(i:Int)+1,0):=rfl
theorem Tg {i v:Nat} (hi:i<=9) (hv:v<2^(64 - 7*i)) (h:128<=v):i<=8∧v / 128<2^(64 - 7*(i+1)):=by
 have hi8:i<=8:=by
  rcases Nat.lt_or_ge i 9 with h9 | h9
  ·omega
  ·have:i=9:=by omega
   subst this;simp at hv;omega
 refine⟨hi8,?_⟩
 have e:2^(64 - 7*i)=2^(64 - 7*(i+1))*128:=by
  rw[show 64 - 7*i=64 - 7*(i+1)+7 by omega,Nat.pow_add]
 omega
theorem rd_gs (t:LI) (v:Nat):∀(i:Nat) (acc:Int),i<=9->v<2^(64 - 7*i)->(0<i->0<v)->rd i acc (gs v++t)=(acc+v*128^i,(i:Int)+(gs v).length,0):=by
 induction v using Nat.strongRecOn with
 | _ v ih =>
  intro i acc hi hv h0
  rcases Nat.lt_or_ge v 128 with h | h
  ·rw[UJ h,List.singleton_append,KH,if_neg,if_neg (by omega),if_neg]
   ·rfl
   ·intro hc;have:=h0 hc.2;omega
   ·rintro⟨rfl,hc⟩
    simp at hv;omega
  ·obtain⟨hi8,hlt⟩:=Tg hi hv h
   rw[WG h,List.cons_append,KH,if_neg (by omega),if_pos (by omega),ih (v / 128) (by omega) (i+1) _ (by omega) hlt (by omega)];refine Prod.ext ?_ (Prod.ext ?_ rfl)
   ·simp only
    rw[Int.pow_succ]
    have e:(((v % 128+128:Nat):Int)) % 128=((v % 128:Nat):Int):=by omega
    have e2:(v:Int)=((v % 128:Nat):Int)+128*((v / 128:Nat):Int):=by omega
    rw[e];generalize (128:Int)^i=p;generalize ((v % 128:Nat):Int)=a at e2 ⊢;generalize ((v / 128:Nat):Int)=b at e2 ⊢;rw[e2,Int.add_mul,Int.mul_comm p 128,<-Int.mul_assoc,Int.mul_comm b 128,Int.add_assoc]
   ·simp only[Qk]
    omega
theorem Iz (v:Nat):∀(i k:Nat) (acc:Int),i<=9->v<2^(64 - 7*i)->k<(gs v).length->rd i acc ((gs v).take k)=(0,0,2):=by
 induction v using Nat.strongRecOn with
 | _ v ih =>
  intro i k acc hi hv hk
  rcases Nat.lt_or_ge v 128 with h | h
  ·rw[UJ h] at hk ⊢
   simp at hk;subst hk
   rfl
  ·obtain⟨hi8,hlt⟩:=Tg hi hv h
   rw[WG h] at hk ⊢
   cases k with
   | zero=>rfl
   | succ k =>
    rw[List.take_succ_cons,KH,if_neg (by omega),if_pos (by omega),ih (v / 128) (by omega) (i+1) k _ (by omega) hlt (by simpa using hk)]
theorem rd_ok (xs:LI):∀(i:Nat) (acc r n:Int),i<=9->(∀x∈xs,0<=x∧x<=255)->rd i acc xs=(r,n,0) ->
 ∃v k:Nat,r=acc+v*128^i∧n=(i:Int)+k∧1<=k∧k<=xs.length∧gs v=xs.take k∧(0<i->0<v)∧v<2^(64 - 7*i):=by
 induction xs with
 | nil=>intro i acc r n _ _ h;simp[RK] at h
 | cons c t ih =>
  intro i acc r n hi hx h;have hc:=hx c (by simp);rw[KH] at h
  by_cases h1:i=9∧1<c
  ·rw[if_pos h1] at h;simp at h
  ·rw[if_neg h1] at h
   by_cases h2:128<=c
   ·rw[if_pos h2] at h
    have hi8:i+1<=9:=by omega
    obtain⟨v,k,hr,hn,hk1,hk2,hg,hv0,hv⟩:=ih (i+1) _ r n hi8 (λx hx'=>hx x (by simp[hx'])) h;have hvp:=hv0 (by omega);refine⟨c.toNat % 128+128*v,k+1,?_,by omega,by omega,by simp;omega,?_,λ_=>by omega,?_⟩
    ·rw[hr,Int.pow_succ]
     have e:((c.toNat % 128+128*v:Nat):Int)=c % 128+128*(v:Int):=by omega
     rw[e];generalize (128:Int)^i=p;rw[Int.add_mul,Int.mul_comm p 128,<-Int.mul_assoc,Int.mul_comm (v:Int) 128,Int.add_assoc]
    ·rw[WG (by omega),List.take_succ_cons,<-hg]
     congr 1
     ·omega
     ·congr 1;omega
    ·have e:2^(64 - 7*i)=2^(64 - 7*(i+1))*128:=by
      rw[show 64 - 7*i=64 - 7*(i+1)+7 by omega,Nat.pow_add]
     omega
   ·rw[if_neg h2] at h
    by_cases h3:c=0∧0<i
    ·rw[if_pos h3] at h;simp at h
    ·rw[if_neg h3] at h
     simp only[Prod.mk.injEq] at h;refine⟨c.toNat,1,?_,by omega,by omega,by simp,?_,λ_=>by omega,?_⟩
     ·rw[<-h.1,Int.toNat_of_nonneg hc.1]
     ·rw[UJ (by omega)]
      simp[Int.toNat_of_nonneg hc.1]
     ·by_cases h9:i=9
      ·subst h9;simp;omega
      ·have:2^7<=2^(64 - 7*i):=Nat.pow_le_pow_right (by omega) (by omega)
       have:(2:Nat)^7=128:=rfl;omega
theorem rT (xs:LI):∀(i:Nat) (acc:Int),(rd i acc xs).2.2=0∨((rd i acc xs).1=0∧(rd i acc xs).2.1=0∧((rd i acc xs).2.2=2∨(rd i acc xs).2.2=3)):=by
 induction xs with
 | nil=>intro i acc;right;simp[RK]
 | cons c t ih =>
  intro i acc;rw[KH]
  by_cases h1:i=9∧1<c
  ·rw[if_pos h1];right;simp
  ·rw[if_neg h1]
   by_cases h2:128<=c
   ·rw[if_pos h2];exact ih _ _
   ·rw[if_neg h2]
    by_cases h3:c=0∧0<i
    ·rw[if_pos h3];right;simp
    ·rw[if_neg h3];left;rfl
def allG (l:LI):LI:=l.flatMap λx=>gs x.toNat
theorem IE (l:LI) (k:Nat) (h:k<l.length):allG (l.take (k+1))=allG (l.take k)++gs (l.getD k 0).toNat:=by
 rw[List.take_succ_eq_append_getElem h,Qc,Qh h];unfold allG;rw[List.flatMap_append,List.flatMap_singleton];rfl
theorem Md (l:LI) (h:∀x∈l,0<=x∧x<=18446744073709551615):(allG l).length<=10*l.length:=by
 induction l with
 | nil=>simp[allG]
 | cons a t ih =>
  have ha:=h a (by simp);have h1:=Yu (v:=a.toNat) (by omega);have h2:=ih (λx hx=>h x (by simp[hx]));simp only[allG,List.flatMap_cons,Qb,Qk] at h2 ⊢;omega
def zig (n:Int):Int:=if 0<=n then 2*n else -2*n - 1
def zag (v:Int):Int:=if v % 2=0 then v / 2 else -(v / 2) - 1
theorem gG (n:Int):zag (zig n)=n:=by
 unfold zag zig
 split <;> split <;> omega
theorem Ty (n:Int) (h0:-9223372036854775808<=n) (h1:n<=9223372036854775807):0<=zig n∧zig n<=18446744073709551615:=by
 unfold zig;split <;> omega
theorem Sc (v:Int) (h0:0<=v) (h1:v<=18446744073709551615):-9223372036854775808<=zag v∧zag v<=9223372036854775807:=by
 unfold zag;split <;> omega
theorem OT (l:LI):∀x∈allG l,0<=x∧x<=255:=by
 intro x hx;simp only[allG,List.mem_flatMap] at hx;obtain⟨y,_,hy⟩:=hx;exact UU _ x hy
theorem tL (l:LI) (k:Nat) (h:∀x∈l,0<=x∧x<=18446744073709551615):(allG (l.take k)).length<=10*l.length:=by
 have h1:=Md (l.take k) (λx hx=>h x (List.mem_of_mem_take hx))
 have h2:(l.take k).length<=l.length:=by rw[Qg];omega
 omega
end Go.Proofs.YtiochaeeoelmjaaGreatDoor
