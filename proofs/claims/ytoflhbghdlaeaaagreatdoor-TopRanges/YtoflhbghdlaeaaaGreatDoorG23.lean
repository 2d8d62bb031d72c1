import Derived.Test.YtoflhbghdlaeaaaGreatDoorG5
namespace Go.Proofs.YtoflhbghdlaeaaaGreatDoor
set_option maxHeartbeats 1600000
set_option maxRecDepth 100000
open Go.RowKit _root_.Go.Proofs.Tryz
theorem Zg (z:Value) (k:Nat):(Builtin.zeroCells #[z] k).toList=List.replicate k z:=by
 apply List.ext_getElem
 ·simp[Builtin.zeroCells]
 ·intro j h1 h2
  simp[Builtin.zeroCells,Nat.mod_one]
theorem yf {P:Program} (w:World) (base:Nat) (t tn ty e:TypeId) (i:TypeInfo) (z:Value) (kq kn:IntKind) (bytes:Nat) (ht:P.underlying t=some (.slice e)) (htn:P.underlying tn=some (.int kn)) (hi:P.info? e=some i) (hz:i.zero=some z)
 (hsize:i.size=1) (hby:i.bytes=bytes) (hzc:z.cells=#[z]) (hz1:z.oneCell'=true) (g n cap:Nat) (xs:List Value) (hown:w.ownsRow base e 1 (.slice (some ⟨g,0,none⟩) n cap) n xs)
 (k:Nat) (h0:0<k) (h63:n+k<=maxLen) (hbytes:(n+k)*bytes<=140737488355328) (hbase:base<=w.heap.size) :
 ∃v' w',(Builtin.append_ #[t,tn] ty #[.slice (some ⟨g,0,none⟩) n cap,.int kq k]).run P w=.ok v' w'∧w'.ownsRow base e 1 v' (n+k) (xs++List.replicate k z)∧w.grownBy w' (some g):=by
 subst hby
 have h1:(xs++List.replicate k z).length=(n+k)*1:=by rw[Qc,hown.1,List.length_replicate];omega
 have hk2:k*i.bytes<=281474976710656:=by
  have:k*i.bytes<=(n+k)*i.bytes:=Nat.mul_le_mul_right _ (by omega);omega
 rcases hown.2 with ⟨hv,_⟩ | ⟨g',cap',cur,hv,hbg,hg,hnc,hcm,hcs,htake⟩
 ·cases hv
 ·simp only[Value.slice.injEq,Option.some.injEq,Addr.mk.injEq] at hv
  obtain⟨⟨rfl,_⟩,_,rfl⟩:=hv
  by_cases hroom:n+k<=cap
  ·have h3:=run_storeCells_at P g (n*1) e (List.replicate k z) 0 cur w hg (by simp[hcs];omega) (by intro u hu;rw[List.eq_of_mem_replicate hu];exact hz1)
   simp only[Nat.add_zero] at h3
   have hk:k≠0:=by omega
   have hw:IntKind.i64.wrap (k:Int)=k:=by rw[IntKind.wrap_i64];simp only[maxLen] at h63;omega
   have h6:¬(281474976710656<(k:Int)*(i.bytes:Int)):=by
    rw[<-Int.natCast_mul];omega
   have h5:¬((k:Int)<0):=by omega
   have hzl:=Zg z k;refine⟨.slice (some ⟨g,0,none⟩) (n+k) cap,w.setRow g (cur.toList.take (n*1)++List.replicate k z++cur.toList.drop (n*1+(List.replicate k z).length)).toArray,?_,⟨h1,.inr ⟨g,cap,_,rfl,hbg,setRow_heap w g cur _ e _ hg,hroom,hcm,?_,?_⟩⟩,⟨rfl,rfl,rfl,by simp,λj _ hj=>setRow_other w g j _ (λe=>hj (by rw[e]))⟩⟩
   ·simp[Builtin.append_,run_underlying ht,run_underlying htn,sizeOf,typeInfo,zeroValue,hi,hz,hsize,asInt,asIntOf,hw,h5,hk,h6,hroom,Addr.add_lit,hzc,hzl]
    simp at h3;rw[h3]
    rfl
   ·simp only[List.size_toArray,Qc,Qf,Qo,Array.length_toList,List.length_replicate]
    omega
   ·rw[htake,<-h1]
    exact List.take_left
  ·have h2:∀j u,xs[j]? = some u->w.drew.cell? ((⟨g,0,none⟩:Addr).add j)=some u:=hown.cells (g:=g) rfl
   have hf:=run_firstCells_some (P:=P) w.drew i.size n ⟨g,0,none⟩ n cap xs (by rw[hsize];exact hown.1) h2;have hr:=Lib.run_append_grow_zeros (P:=P) w t tn ty e i z kq kn ht htn hi hz (some ⟨g,0,none⟩) n cap xs hf k h0 (by omega) (by omega) (by simp only[maxLen] at h63;omega) hk2 (growslice_fits (by omega) hbytes);have hge:=grownCap_ge w (n+k) cap e;have h4:grownCap w (n+k) cap e<=maxLen:=grownCap_le_maxLen w (n+k) cap e h63;refine⟨_,_,hr,⟨h1,.inr ⟨w.heap.size,_,_,rfl,hbase,heap_alloc_new w.drew _,hge,h4,?_,?_⟩⟩,⟨rfl,rfl,rfl,by simp,λj hj _=>Below.heap_alloc _ _ _ hj⟩⟩
   ·simp only[Array.size_append,List.size_toArray,size_zeroCells,hzc,hown.1]
    simp;omega
   ·simp only[Array.toList_append,hzc,Zg]
    rw[<-h1];exact List.take_left
theorem Tn {P:Program} (w:World) (t tn ty e:TypeId) (i:TypeInfo) (kq kn:IntKind) (ht:P.underlying t=some (.slice e)) (htn:P.underlying tn=some (.int kn)) (hi:P.info? e=some i)
 (ao:Option Addr) (n cap:Nat) (hn:n<=cap) :
 (Builtin.append_ #[t,tn] ty #[.slice ao n cap,.int kq 0]).run P w=.ok (.slice ao n cap) w:=by
 have hw:IntKind.i64.wrap 0=0:=by rw[IntKind.wrap_i64];omega
 simp[Builtin.append_,run_underlying ht,run_underlying htn,sizeOf,typeInfo,hi,asInt,asIntOf,hw,hn]
 cases ao with
 | none=>rfl
 | some a=>simp[storeCells]
theorem BM {P:Program} (w:World) {ops:Array Oper} {rest:List Oper} {o:Oper} {a:Act} {Q:Exit->Act->World->Prop} (hg:o.guard=none) (s x:Operand) (t tn:TypeId)
 (ho:o.op=.call { callee:=.builtin .append,args:=#[s,x],argTypes:=#[t,tn] }) (vs vx:Value) (hs:a.eval s=vs) (hx:a.eval x=vx)
 (v':Value) (w':World) (hr:(Builtin.append_ #[t,tn] o.type #[vs,vx]).run P w=.ok v' w') (h:wpList P ops Q rest (a.put o.dst v') w'):wpList P ops Q (o :: rest) a w :=
 wpList_plain hg λ_ hK=>Lib.wp_append_run w s x t tn ho vs vx hs hx v' w' hr (hK _ _ h)
theorem q9 (w:World) (base:Nat) (v:Value) (n:Nat) (xs:LI) (own:w.ownsRow base 5 1 v n (bl xs)) (k:Nat) (hk:n+k<=1000000000000) (hbase:base<=w.heap.size) :
 ∃v' w',(Builtin.append_ #[23,3] 23 #[v,.int .i64 (k:Int)]).run prog w=.ok v' w'∧w'.ownsRow base 5 1 v' (n+k) (bl (xs++List.replicate k 0))∧w.grownBy w' v.ownBlock:=by
 obtain⟨i0,hi,h5,hz1,h4⟩:=info_parts Tryz.infoU8
 have hxn:xs.length=n:=by have:=own.1;rw[Qs] at this;omega
 by_cases h0:k=0
 ·subst h0
  rcases own.2 with ⟨rfl,hz⟩ | ⟨g,cap',cur,rfl,_,_,hc,_⟩
  ·refine⟨_,_,Tn (P:=prog) w 23 3 23 5 i0 .i64 .i64 underlying23 underlying3 hi none 0 0 (Nat.le_refl _),?_,World.grownBy.refl _ _⟩
   rw[List.replicate_zero,List.append_nil];exact own
  ·refine⟨_,_,Tn (P:=prog) w 23 3 23 5 i0 .i64 .i64 underlying23 underlying3 hi _ n cap' hc,?_,World.grownBy.refl _ _⟩
   rw[List.replicate_zero,List.append_nil];exact own
 ·rcases own.2 with ⟨rfl,hz⟩ | ⟨g,cap',cur,rfl,_⟩
  ·subst hz
   have hx:xs=[]:=List.eq_nil_of_length_eq_zero hxn;subst hx;have hge:=grownCap_ge w k 0 5;have hcm:=grownCap_le_maxLen w k 0 5 (by unfold maxLen;omega);refine⟨_,_,Lib.run_append_nil_zeros (P:=prog) w 23 3 23 5 i0 (.int .u8 0) .i64 .i64 underlying23 underlying3 hi h5 k (by omega) (by omega) (by omega) (by rw[h4];omega),⟨by simp[Qs],.inr ⟨w.heap.size,_,_,by rw[Nat.zero_add],hbase,heap_alloc_new w.drew _,by rw[Nat.zero_add];exact hge,hcm,?_,?_⟩⟩,⟨rfl,rfl,rfl,by simp,λj hj _=>Below.heap_alloc _ _ _ hj⟩⟩
   ·simp only[Array.size_append,size_zeroCells,show (Value.int .u8 0).cells=#[.int .u8 0] from rfl]
    simp;omega
   ·simp only[Array.toList_append,show (Value.int .u8 0).cells=#[.int .u8 0] from rfl,Zg,List.nil_append]
    rw[show (0+k)*1=(List.replicate k (Value.int .u8 0)).length by simp,List.take_left];simp[bl]
  ·obtain⟨v5,w5,h1,h2,h3⟩:=yf (P:=prog) w base 23 3 23 5 i0 (.int .u8 0) .i64 .i64 1 underlying23 underlying3 hi h5 hz1 h4 rfl rfl g n cap' _ own k (by omega) (by simp only[maxLen];omega) (by omega) hbase
   refine⟨v5,w5,h1,?_,h3⟩;unfold bl at *;rw[List.map_append,List.map_replicate];exact h2
structure Q4 where
 a:Nat
 b:Nat
 c:Nat
 d:Nat
def half (q:Q4) (m1 m2:Nat):Q4 :=
 let a:=(q.a+q.b) % 4294967296
 let d:=rotw (q.d ^^^ a) m1
 let c:=(q.c+d) % 4294967296
 let b:=rotw (q.b ^^^ c) m2
 ⟨a,b,c,d⟩
def qrt (q:Q4):Q4:=half (half q 16 20) 24 25
def turnW (s:List Nat) (i j k l:Nat):List Nat :=
 let q:=qrt ⟨s.getD i 0,s.getD j 0,s.getD k 0,s.getD l 0⟩
 (((s.set i q.a).set j q.b).set k q.c).set l q.d
def fours:List (Nat × Nat × Nat × Nat):=[(0,4,8,12),(1,5,9,13),(2,6,10,14),(3,7,11,15),(0,5,10,15),(1,6,11,12),(2,7,8,13),(3,4,9,14)]
def turnP (s:List Nat) (p:Nat × Nat × Nat × Nat):List Nat:=turnW s p.1 p.2.1 p.2.2.1 p.2.2.2
def dblR (s:List Nat):List Nat:=fours.foldl turnP s
def dbls:Nat->List Nat->List Nat
 | 0,s=>s
 | n+1,s=>dblR (dbls n s)
def ld4 (b:LI) (t:Nat):Nat:=(b.getD (4*t) 0).toNat+(b.getD (4*t+1) 0).toNat*256+(b.getD (4*t+2) 0).toNat*65536+(b.getD (4*t+3) 0).toNat*16777216
def ldW (b:LI) (n:Nat):List Nat:=(List.range n).map (ld4 b)
def le4 (x:Nat):LI:=[((x % 256:Nat):Int),((x / 256 % 256:Nat):Int),((x / 65536 % 256:Nat):Int),((x / 16777216 % 256:Nat):Int)]
def ccW:List Nat:=[0x61707865,0x3320646e,0x79622d32,0x6b206574]
def ccF (key:LI) (ctr:Nat) (nonce:LI):List Nat:=ccW++ldW key 8++[ctr]++ldW nonce 3
def ccS (s:List Nat):List Nat:=(List.range 16).map λi=>((dbls 10 s).getD i 0+s.getD i 0) % 4294967296
def Q9 (key:LI) (ctr:Nat) (nonce:LI):LI:=(ccS (ccF key ctr nonce)).flatMap le4
theorem Pw (x:Nat):(le4 x).length=4:=rfl
theorem OL (x:Nat):U8 (le4 x):=λy hy=>by
 simp only[le4,List.mem_cons,List.not_mem_nil,or_false] at hy
 rcases hy with rfl | rfl | rfl | rfl <;> omega
theorem Jl (s:List Nat):(s.flatMap le4).length=4*s.length:=by
 induction s with
 | nil=>rfl
 | cons x s ih=>rw[List.flatMap_cons,Qc,ih,Pw,Qi];omega
theorem AR (s:List Nat):U8 (s.flatMap le4):=by
 induction s with
 | nil=>intro y hy;cases hy
 | cons x s ih=>rw[List.flatMap_cons];exact (OL x).app ih
theorem UJ (b:LI) (n:Nat):(ldW b n).length=n:=by simp[ldW]
theorem WQ (key:LI) (ctr:Nat) (nonce:LI):(ccF key ctr nonce).length=16:=by
 simp[ccF,ccW,UJ]
theorem Gp (s:List Nat):(ccS s).length=16:=by simp[ccS]
theorem Kj (key:LI) (ctr:Nat) (nonce:LI):(Q9 key ctr nonce).length=64:=by
 unfold Q9;rw[Jl,Gp]
theorem Jd (key:LI) (ctr:Nat) (nonce:LI):U8 (Q9 key ctr nonce):=AR _
theorem Sy (b:LI) (h:U8 b) (t:Nat):ld4 b t<4294967296:=by
 have h0:=h.at (4*t);have h1:=h.at (4*t+1);have h2:=h.at (4*t+2);have h3:=h.at (4*t+3);unfold ld4;omega
theorem TQ (b:LI) (h:U8 b) (n:Nat):W32 (ldW b n):=λx hx=>by
 obtain⟨t,_,rfl⟩:=List.mem_map.1 hx;exact Sy b h t
theorem T6 (key:LI) (hk:U8 key) (ctr:Nat) (hc:ctr<4294967296) (nonce:LI) (hn:U8 nonce):W32 (ccF key ctr nonce):=by
 have h0:W32 ccW:=λx hx=>by
  simp only[ccW,List.mem_cons,List.not_mem_nil,or_false] at hx
  rcases hx with rfl | rfl | rfl | rfl <;> decide
 exact ((h0.app (TQ key hk 8)).app (W32.one hc)).app (TQ nonce hn 3)
def Q4.ok (q:Q4):Prop:=q.a<4294967296∧q.b<4294967296∧q.c<4294967296∧q.d<4294967296
theorem VR (x n:Nat) (hx:x<4294967296):rotw x n<4294967296:=by
 unfold rotw;exact Nat.or_lt_two_pow (n:=32) (Nat.lt_of_le_of_lt (Nat.div_le_self _ _) hx) (Nat.mod_lt _ (by decide))
theorem Hg (q:Q4) (m1 m2:Nat) (h:q.ok):(half q m1 m2).ok:=by
 have ha:(q.a+q.b) % 4294967296<4294967296:=Nat.mod_lt _ (by decide);have hd:=VR (q.d ^^^ ((q.a+q.b) % 4294967296)) m1 (Nat.xor_lt_two_pow (n:=32) h.2.2.2 ha);have hc:(q.c+rotw (q.d ^^^ ((q.a+q.b) % 4294967296)) m1) % 4294967296<4294967296:=Nat.mod_lt _ (by decide);exact⟨ha,VR _ m2 (Nat.xor_lt_two_pow (n:=32) h.2.1 hc),hc,hd⟩
theorem Fg (q:Q4) (h:q.ok):(qrt q).ok:=Hg _ _ _ (Hg _ _ _ h)
theorem W32.set {s:List Nat} (h:W32 s) (i x:Nat) (hx:x<4294967296):W32 (s.set i x):=λy hy=>by
 rcases List.mem_or_eq_of_mem_set hy with h1 | h1
 ·exact h y h1
 ·subst h1;exact hx
theorem UX {s:List Nat} (h:W32 s) (i j k l:Nat):W32 (turnW s i j k l):=by
 have q:=Fg ⟨s.getD i 0,s.getD j 0,s.getD k 0,s.getD l 0⟩ ⟨h.at i,h.at j,h.at k,h.at l⟩;exact (((h.set i _ q.1).set j _ q.2.1).set k _ q.2.2.1).set l _ q.2.2.2
theorem U4 (s:List Nat) (i j k l:Nat):(turnW s i j k l).length=s.length:=by simp[turnW]
theorem ui (ps:List (Nat × Nat × Nat × Nat)):∀s:List Nat,(ps.foldl turnP s).length=s.length:=by
 induction ps with
 | nil=>intro s;rfl
 | cons p ps ih=>intro s;rw[List.foldl_cons,ih];exact U4 _ _ _ _ _
theorem Fu (ps:List (Nat × Nat × Nat × Nat)):∀s:List Nat,W32 s->W32 (ps.foldl turnP s):=by
 induction ps with
 | nil=>intro s h;exact h
 | cons p ps ih=>intro s h;rw[List.foldl_cons];exact ih _ (UX h _ _ _ _)
theorem V5 (n:Nat) (s:List Nat):(dbls n s).length=s.length:=by
 induction n with
 | zero=>rfl
 | succ n ih=>rw[dbls,dblR,ui,ih]
theorem LU (n:Nat) (s:List Nat) (h:W32 s):W32 (dbls n s):=by
 induction n with
 | zero=>exact h
 | succ n ih=>exact Fu _ _ ih
def xorL (a b:LI):LI:=List.zipWith (λx y=>((x.toNat ^^^ y.toNat:Nat):Int)) a b
def ksb (key:LI) (ctr:Nat) (nonce:LI) (i:Nat):Int:=(Q9 key (ctr+i / 64) nonce).getD (i % 64) 0
def ksL (key:LI) (ctr:Nat) (nonce:LI) (n:Nat):LI:=(List.range n).map (ksb key ctr nonce)
def YA (key:LI) (ctr:Nat) (nonce b:LI):LI:=xorL b (ksL key ctr nonce b.length)
abbrev fitsC (ctr n:Nat):Prop:=ctr+(n+63) / 64<=4294967296
theorem R9 (key:LI) (ctr:Nat) (nonce:LI) (n:Nat):(ksL key ctr nonce n).length=n:=by simp[ksL]
theorem yh (key:LI) (ctr:Nat) (nonce:LI) (i:Nat):0<=ksb key ctr nonce i∧ksb key ctr nonce i<=255:=(Jd _ _ _).at _
theorem Z4 (a b:LI):(xorL a b).length=min a.length b.length:=List.length_zipWith ..
theorem Wt (key:LI) (ctr:Nat) (nonce b:LI):(YA key ctr nonce b).length=b.length:=by
 unfold YA;rw[Z4,R9,Nat.min_self]
theorem NM (key:LI) (ctr:Nat) (nonce b:LI) (i:Nat) (hi:i<b.length):(YA key ctr nonce b).getD i 0=(((b.getD i 0).toNat ^^^ (ksb key ctr nonce i).toNat:Nat):Int):=by
 unfold YA xorL;rw[Qd,Qg (by rw[List.length_zipWith,R9];omega),List.getElem_zipWith,Qd,Qg hi];simp[ksL]
theorem Et (x y:Int) (hx:0<=x∧x<=255) (hy:0<=y∧y<=255):x.toNat ^^^ y.toNat<256:=Nat.xor_lt_two_pow (n:=8) (by omega) (by omega)
theorem Hf (key:LI) (ctr:Nat) (nonce b:LI) (h:U8 b):U8 (YA key ctr nonce b):=λy hy=>by
 obtain⟨i,hi,rfl⟩:=List.getElem_of_mem hy
 have hi2:i<b.length:=by rw[Wt] at hi;exact hi
 have e:=NM key ctr nonce b i hi2;rw[Qd,Qg hi] at e;simp only[Option.getD_some] at e;rw[e];have:=Et _ _ (h.at i) (yh key ctr nonce i);omega
theorem q8 {a b:LI} (hl:a.length=b.length) (h:∀i,i<a.length->a.getD i 0=b.getD i 0):a=b:=by
 apply List.ext_getElem hl
 intro i h1 h2;have:=h i h1
 rwa [Qd,Qd,Qg h1,Qg h2] at this
def nv:LI->Nat
 | []=>0
 | d :: l=>d.toNat+256*nv l
theorem L6 (a b:LI):nv (a++b)=nv a+256^a.length*nv b:=by
 induction a with
 | nil=>simp[nv]
 | cons d a ih =>
  simp only[List.cons_append,nv,ih,Qi,Nat.pow_succ];rw[Nat.mul_add,<-Nat.mul_assoc,Nat.mul_comm 256 (256^a.length)];omega
theorem kX (d:Int):nv [d]=d.toNat:=by simp[nv]
theorem nv_lt (a:LI) (h:U8 a):nv a<256^a.length:=by
 induction a with
 | nil=>simp[nv]
 | cons d a ih =>
  have h1:=h d (by simp);have h2:=ih (λy hy=>h y (by simp[hy]));simp only[nv,Qi,Nat.pow_succ];omega
theorem Hb (a:LI) (d:Int):nv (a++[d])=nv a+256^a.length*d.toNat:=by rw[L6,kX]
theorem Mp (n:Nat):nv (List.replicate n 0)=0:=by
 induction n with
 | zero=>rfl
 | succ n ih=>simp[List.replicate_succ,nv,ih]
theorem U8.set {a:LI} (h:U8 a) (i:Nat) (d:Int) (hd:0<=d∧d<=255):U8 (a.set i d):=λy hy=>by
 rcases List.mem_or_eq_of_mem_set hy with h1 | h1
 ·exact h y h1
 ·subst h1;exact hd
def leB:Nat->Nat->LI
 | 0,_=>[]
 | n+1,x=>((x % 256:Nat):Int) :: leB n (x / 256)
theorem Kr (n x:Nat):(leB n x).length=n:=by
 induction n generalizing x with
 | zero=>rfl
 | succ n ih=>simp[leB,ih]
theorem Vt (n x:Nat):U8 (leB n x):=by
 induction n generalizing x with
 | zero=>intro y hy;cases hy
 | succ n ih =>
  intro y hy;simp only[leB,List.mem_cons] at hy
  rcases hy with rfl | hy
  ·omega
  ·exact ih _ y hy
theorem Tp (n x:Nat):nv (leB n x)=x % 256^n:=by
 induction n generalizing x with
 | zero=>simp[leB,nv,Nat.mod_one]
 | succ n ih =>
  simp only[leB,nv,ih,Int.toNat_natCast];rw[Nat.pow_succ,Nat.mul_comm (256^n) 256,Nat.mod_mul]
theorem Ms {a b:LI} (ha:U8 a) (hb:U8 b) (hl:a.length=b.length) (h:nv a=nv b):a=b:=by
 induction a generalizing b with
 | nil=>cases b with
  | nil=>rfl
  | cons y b=>simp at hl
 | cons x a ih=>cases b with
  | nil=>simp at hl
  | cons y b =>
   have hx:=ha x (by simp);have hy:=hb y (by simp);simp only[nv] at h
   have h1:x=y:=by omega
   subst h1;rw[ih (b:=b) (λz hz=>ha z (List.mem_cons_of_mem _ hz)) (λz hz=>hb z (List.mem_cons_of_mem _ hz)) (by simpa using hl) (by omega)]
def PP:Nat:=1361129467683753853853498429727072845819
def Wv (key:LI):LI:=(List.range 16).map λi=>if i % 4=3 then key.getD i 0 % 16 else if i % 4=0∧0<i then key.getD i 0 - key.getD i 0 % 4 else key.getD i 0
def piece (xs:LI) (k:Nat):Nat:=nv ((xs.drop (16*k)).take 16)+256^(min 16 (xs.length - 16*k))
def pacc (r:Nat) (xs:LI):Nat->Nat
 | 0=>0
 | k+1=>(pacc r xs k+piece xs k)*r % PP
def WU (key xs:LI):LI:=leB 16 (pacc (nv (Wv key)) xs ((xs.length+15) / 16)+nv (key.drop 16))
theorem ug (key xs:LI):(WU key xs).length=16:=Kr _ _
theorem FA (key xs:LI):U8 (WU key xs):=Vt _ _
theorem Gm (key:LI):(Wv key).length=16:=by simp[Wv]
theorem Sf (key:LI) (h:U8 key):U8 (Wv key):=λy hy=>by
 obtain⟨i,_,rfl⟩:=List.mem_map.1 hy;have:=h.at i
 split
 ·omega
 ·split <;> omega
theorem Jp:PP+5=2^130:=by decide +kernel
theorem Rk (low high:Nat):(low+5*high) % PP=(low+2^130*high) % PP:=by
 rw[<-Jp,Nat.add_mul,show low+(PP*high+5*high)=low+5*high+PP*high by omega,Nat.add_mul_mod_self_left]
theorem Me (x:Nat) (h:x<2^130):x % PP=if x<PP then x else x - PP:=by
 have h1:=Jp
 have h2:5<PP:=by decide
 by_cases hx:x<PP
 ·rw[if_pos hx,Nat.mod_eq_of_lt hx]
 ·rw[if_neg hx,Nat.mod_eq_sub_mod (by omega),Nat.mod_eq_of_lt (by omega)]
def flN (n:Nat):Nat:=(16 - n % 16) % 16
def fl (b:LI):LI:=b++List.replicate (flN b.length) 0
def UC (ad c:LI):LI:=((fl ad++fl c)++leB 8 ad.length)++leB 8 c.length
def Kf (key nonce:LI):LI:=(Q9 key 0 nonce).take 32
def Kq (key nonce ad c:LI):LI:=WU (Kf key nonce) (UC ad c)
def U0 (key nonce ad p:LI):LI:=YA key 1 nonce p++Kq key nonce ad (YA key 1 nonce p)
theorem Xa (n:Nat):flN n<=15:=by unfold flN;omega
theorem Jc (b:LI):(fl b).length=b.length+flN b.length:=by simp[fl]
theorem fl_u8 (b:LI) (h:U8 b):U8 (fl b):=h.app (λy hy=>by have:=List.eq_of_mem_replicate hy;omega)
theorem Io (ad c:LI) (ha:U8 ad) (hc:U8 c):U8 (UC ad c):=(((fl_u8 ad ha).app (fl_u8 c hc)).app (Vt _ _)).app (Vt _ _)
theorem vE (ad c:LI):(UC ad c).length<=ad.length+c.length+46:=by
 have h1:=Xa ad.length;have h2:=Xa c.length;simp only[UC,Qc,Jc,Kr];omega
theorem EP (key nonce:LI):(Kf key nonce).length=32:=by rw[Kf,Qf,Kj];rfl
theorem AT (key nonce:LI):U8 (Kf key nonce):=(Jd _ _ _).take _
theorem Vg (key nonce ad c:LI):(Kq key nonce ad c).length=16:=ug _ _
theorem Ii (key nonce ad c:LI):U8 (Kq key nonce ad c):=FA _ _
theorem Tf (key nonce ad p:LI):(U0 key nonce ad p).length=p.length+16:=by rw[U0,Qc,Wt,Vg]
theorem DA (key nonce ad p:LI) (h:U8 p):U8 (U0 key nonce ad p):=(Hf _ _ _ _ h).app (Ii _ _ _ _)
theorem qp (n x:Nat):leB (n+1) x=leB n x++[((x / 256^n % 256:Nat):Int)]:=by
 induction n generalizing x with
 | zero=>simp[leB]
 | succ n ih =>
  show ((x % 256:Nat):Int) :: leB (n+1) (x / 256)=((x % 256:Nat):Int) :: leB n (x / 256)++_
  rw[ih,Nat.div_div_eq_div_mul,Nat.pow_succ,Nat.mul_comm (256^n) 256];rfl
theorem kW (m k:Nat):((m / 256^k % 256:Nat):Int)=(m:Int) / 2^(8*k) % 256:=by
 have h:(256:Nat)^k=2^(8*k):=by rw[Nat.pow_mul]
 rw[h];simp
theorem Only.fresh {lo:Nat} {a b c:World} (h:N0 a b) (hl:a.heap.size<=lo) (k:Only (λk=>lo<=k) b c):N0 a c:=h.trans k (λi hi e=>by omega)
theorem F9 (n:Nat) (hn:n<=1000000000000) (w:World):Calls prog 171 #[.int .i64 (n:Int)] w λe w'=>e=.returned (.int .i64 ((flN n:Nat):Int))∧w=w':=by
 obtain⟨r,hr⟩:=EX (n % 16)
 have e1:(n:Int) % 16=(r:Int):=by omega
 have hr16:r<16:=by omega
 have HF:Hid (flN n=(16 - r) % 16):=by show _=_;unfold flN;rw[hr]
 clear hr;go_enter func171,ntmps171;go_wp2;go_ret;refine⟨YP ?_,rfl⟩;rw[HF.o];omega
theorem uz (v:Value) (lo n m:Nat) (xs:LI) (hm:m<=1000000000000) (hn:n<=1000000000000) (w:World) (h0:w.ownsRow lo 5 1 v n (bl xs)) (hlo:lo<=w.heap.size) :
 Calls prog 172 #[v,.int .i64 (m:Int)] w λe w'=>∃v',e=.returned v'∧w'.ownsRow lo 5 1 v' (n+8) (bl (xs++leB 8 m))∧Only (λk=>lo<=k) w w':=by
 obtain⟨i0,hi,hz0,hz1,hz2⟩:=info_parts Tryz.infoU8
 have S0:Hid (w.ownsRow lo 5 1 v (n+0) (bl (xs++leB 0 m))):=by
  show World.ownsRow _ _ _ _ _ _ _
  rw[show leB 0 m=[] from rfl,List.append_nil];exact h0
 clear h0;go_enter func172,ntmps172;go_wp2
 go_loopw [0,6] (λo i wr=>∃k:Nat,k<=8∧i=.int .i64 k∧wr.ownsRow lo 5 1 o (n+k) (bl (xs++leB k m))∧Only (λk=>lo<=k) w wr) (λ_ i _=>8 - (intOf i).toNat)
 case atStart=>exact⟨0,by omega,rfl,S0.o,Only.refl _ _⟩
 case round =>
  obtain⟨k,hk,rfl,h0,h2⟩:=hrel;have hsz:=h2.size
  by_cases hlt:k<8
  ·obtain⟨ao1,cap1,rfl⟩:=Qm h0
   have HX:Hid (bl (xs++leB (k+1) m)=bl (xs++leB k m)++[(m:Int) / 2^(8*k) % 256].map (Value.int .u8)):=by
    show _=_
    rw[qp,kW,<-List.append_assoc];exact List.map_append ..
   obtain⟨L,hL⟩:=EX (bl (xs++leB k m));rw[<-hL] at h0 HX;have h1:=Qa h0;have h3:=Qa h2;obtain⟨s,hs⟩:=EX (8*k)
   have s2:(k:Int)*8=(s:Int):=by omega
   have s3:(s:Int)<=56:=by omega
   rw[<-hs] at HX;obtain⟨q,hq⟩:=EX (n+k)
   have hql:q<=1000000000100:=by omega
   rw[<-hq] at h1 ⊢;obtain⟨x,hx⟩:=EX ((m:Int) / 2^s % 256);have BL:=Qa (Bs.litN .u8 wr 5 [(m:Int) / 2^s % 256] _ _ rfl rfl);have HQ:=Qa hq;clear h0 h2 hs hL hx hq;go_wp2_with (at_builtin;refine Yh _ rfl _ _ 23 rfl lo 5 i0 (.int .u8 0) 1 underlying23 hi hz0 hz1 hz2 rfl _ q L rfl (h1.o.alloc _) .u8 _ [(m:Int) / 2^s % 256] rfl BL.o (NoCap.some _ _ _) (by simp[maxLen];omega) (by simp;omega) (by simp;omega) ?_;intro v' w3 hown' hgrow2 hnil2 hob2)
   have M1:Hid (w3.ownsRow lo 5 1 v' (n+(k+1)) (bl (xs++leB (k+1) m))∧Only (λk=>lo<=k) w w3):=by
    refine⟨?_,(h3.o.alloc _).grown hgrow2 (λj hj e=>(h1.o.lt j e).1)⟩;rw[HX.o,show n+(k+1)=q+1 by rw[HQ.o];omega];exact hown'
   clear hown' hgrow2 hnil2 hob2 h1 h3 BL HX;go_wp2
   go_roundw
   case rel=>exact⟨k+1,by omega,by go_num,M1.o⟩
   case measure=>simp[intOf];omega
  ·obtain rfl:k=8:=by omega
   have F1:=Qa (And.intro h0 h2);clear h0 h2;go_wp2;go_ret;exact⟨_,rfl,F1.o⟩
def pfl (ls:Nat->LI):Nat->LI
 | 0=>[]
 | k+1=>pfl ls k++fl (ls k)
def pln (ls:Nat->LI):Nat->LI
 | 0=>[]
 | k+1=>pln ls k++leB 8 (ls k).length
def vG (w:World) (p n:Nat) (ls:Nat->LI):Prop:=∀i,i<n->∃u,w.cell? ⟨p,i,none⟩=some u∧Bs .u8 w u (ls i)∧NoCap u∧(ls i).length<=100000000000
theorem Ry {w w':World} {q:Addr} {u:Value} (h:w.cell? q=some u) (o:N0 w w'):w'.cell? q=some u:=by
 rw[<-h];exact World.cell?_of_block (o.block _ (World.block_lt_of_cell? w _ h) (λf=>f))
theorem IH (ls:Nat->LI) (k:Nat):(pln ls k).length=8*k:=by
 induction k with
 | zero=>rfl
 | succ k ih=>rw[pln,Qc,ih,Kr];omega
theorem yc (ls:Nat->LI) (n k:Nat) (h:∀i,i<n->(ls i).length<=100000000000) (hk:k<=n):(pfl ls k).length<=100000000015*k:=by
 induction k with
 | zero=>exact Nat.zero_le _
 | succ k ih =>
  have h1:=ih (by omega);have h2:=h k (by omega);have h3:=Xa (ls k).length;rw[pfl,Qc,Jc];omega
theorem Po (a b:LI):bl (a++b)=bl a++bl b:=List.map_append ..
theorem Se (p n:Nat) (ls:Nat->LI) (hn:n<=2) (w:World) (hp:vG w p n ls) :
 Calls prog 121 #[.slice (some ⟨p,0,none⟩) n n] w λe w'=>∃v,e=.returned v∧w'.ownsRow w.heap.size 5 1 v (pfl ls n++pln ls n).length (bl (pfl ls n++pln ls n))∧N0 w w':=by
 obtain⟨i0,hi,hz0,hz1,hz2⟩:=info_parts Tryz.infoU8;have HP:=Qa hp
 have HL:Hid (∀k,k<=n->(pfl ls k).length<=100000000015*k):=λk hk=>yc ls n k (λi hi=>by obtain⟨_,_,_,_,h⟩:=hp i hi;exact h) hk
 clear hp;go_enter func121,ntmps121;go_wp2
 go_loopw [3,10] (λo i wr=>∃k:Nat,k<=n∧i=.int .i64 k∧wr.ownsRow w.heap.size 5 1 o (pfl ls k).length (bl (pfl ls k))∧N0 w wr) (λ_ i _=>n - (intOf i).toNat)
 case atStart=>exact⟨0,by omega,rfl,World.ownsRow_nil ..,Only.refl _ _⟩
 case round =>
  obtain⟨k,hk,rfl,h0,h4⟩:=hrel;have hsz:=h4.size
  by_cases hlt:k<n
  ·obtain⟨u,hu,h9,he,hg⟩:=HP.o k hlt
   have h6:=HL.o k hk;have hc:wr.cell? ⟨p,k,none⟩=some u:=Ry hu h4;obtain⟨ua,uc,rfl⟩:=h9.len;have BU:=Qa (And.intro (h9.past h4) he)
   have HX:Hid (bl (pfl ls (k+1))=bl ((pfl ls k++ls k)++List.replicate (flN (ls k).length) 0)∧(pfl ls (k+1)).length=(pfl ls k).length+(ls k).length+flN (ls k).length):=by
    refine⟨?_,?_⟩
    ·rw[pfl,fl,List.append_assoc]
    ·rw[pfl,Qc,Jc];omega
   obtain⟨m,hm⟩:=EX ((ls k).length);have HM:=Qa hm
   have hml:m<=100000000000:=by omega
   obtain⟨q,hq⟩:=EX ((pfl ls k).length)
   have hql:q<=200000000030:=by omega
   have A:=Qa (F9 m (by omega));have hf:=Xa m;rw[<-hm] at HX;obtain⟨f,hh⟩:=EX (flN m);rw[<-hh] at A HX hf;rw[<-hq] at h0 HX;rw[<-hm] at hc BU;have h8:=Qa h0;have hb:=Qa h4
   have i0':(0:Int)<=(k:Int):=by omega
   have i1:(k:Int)<(n:Int):=by omega
   have ZR:Hid (∀(v1:Value) (w1:World),w1.ownsRow w.heap.size 5 1 v1 (q+m) (bl (pfl ls k++ls k))->w.heap.size<=w1.heap.size->∃v' w',(Builtin.append_ #[23,3] 23 #[v1,.int .i64 (f:Int)]).run prog w1=.ok v' w'∧w'.ownsRow w.heap.size 5 1 v' (q+m+f) (bl ((pfl ls k++ls k)++List.replicate f 0))∧w1.grownBy w' v1.ownBlock):=λv1 w1 h1 h2=>q9 w1 w.heap.size v1 (q+m) _ h1 f (by omega) h2
   clear hm hq hh h0 h4 hu h9 he hg h6
   go_wp2_with (first
    | (at_builtin;refine Yh _ rfl _ _ 23 rfl w.heap.size 5 i0 (.int .u8 0) 1 underlying23 hi hz0 hz1 hz2 rfl u3 q (bl (pfl ls k)) rfl h8.o .u8 (.slice ua m uc) (ls k) rfl BU.o.1 BU.o.2 (by rw[<-HM.o];unfold maxLen;omega) (by rw[<-HM.o];omega) (by omega) ?_;intro v1 w1 h3 hgrow1 hnil1 hob1))
   have O1:Hid (N0 w w1):=hb.o.grown hgrow1 (λj hj e=>by have:=(h8.o.lt j e).1;omega)
   have W1:Hid (w1.ownsRow w.heap.size 5 1 v1 (q+m) (bl (pfl ls k++ls k))):=by
    show World.ownsRow _ _ _ _ _ _ _
    rw[Po,HM.o];exact h3
   clear h3 hgrow1 hnil1 hob1 h8 hb BU;refine (A.o w1).mono ?_;rintro e w2 ⟨rfl,rfl⟩;obtain⟨v3,w3,hd,h7,h5⟩:=ZR.o v1 w1 W1.o O1.o.size;go_wp2_with (first|(at_builtin;refine BM _ rfl _ _ 23 3 rfl v1 (.int .i64 (f:Int)) rfl rfl v3 w3 hd ?_))
   have N1:Hid (w3.ownsRow w.heap.size 5 1 v3 (pfl ls (k+1)).length (bl (pfl ls (k+1)))∧N0 w w3):=by
    refine⟨?_,O1.o.grown h5 (λj hj e=>by have:=(W1.o.lt j e).1;omega)⟩;rw[HX.o.1,HX.o.2];exact h7
   clear hd h7 h5 W1 O1 A ZR HX;go_wp2
   go_roundw
   case rel=>exact⟨k+1,by omega,by go_num,N1.o⟩
   case measure=>simp[intOf];omega
  ·obtain rfl:k=n:=by omega
   have h6:=HL.o k hk
   have S0:Hid (wr.ownsRow w.heap.size 5 1 u3 (pfl ls k++pln ls 0).length (bl (pfl ls k++pln ls 0))∧N0 w wr):=by
    rw[pln,List.append_nil];exact⟨h0,h4⟩
   have HLE:=Qa h6;clear h0 h4 hsz h6 HL;go_wp2
   go_loopw [3,25] (λo i wr=>∃j:Nat,j<=k∧i=.int .i64 j∧wr.ownsRow w.heap.size 5 1 o (pfl ls k++pln ls j).length (bl (pfl ls k++pln ls j))∧N0 w wr) (λ_ i _=>k - (intOf i).toNat)
   case atStart=>exact⟨0,by omega,rfl,S0.o⟩
   case round =>
    obtain⟨j,hj,rfl,h0,h4⟩:=hrel;clear S0
    by_cases hlt:j<k
    ·obtain⟨u,hu,h9,he,hg⟩:=HP.o j hlt
     have hc:wr.cell? ⟨p,j,none⟩=some u:=Ry hu h4;obtain⟨ua,uc,rfl⟩:=h9.len
     have hl:(pfl ls k++pln ls j).length<=1000000000000:=by
      have h1:=HLE.o;rw[Qc,IH];omega
     have A:=Qa (uz u3 w.heap.size (pfl ls k++pln ls j).length (ls j).length (pfl ls k++pln ls j) (by omega) hl wr h0 h4.size)
     have HX:Hid (pfl ls k++pln ls (j+1)=(pfl ls k++pln ls j)++leB 8 (ls j).length∧(pfl ls k++pln ls (j+1)).length=(pfl ls k++pln ls j).length+8):=by
      refine⟨?_,?_⟩
      ·rw[pln,List.append_assoc]
      ·rw[pln,<-List.append_assoc,Qc,Kr]
     have hb:=Qa h4;obtain⟨m,hm⟩:=EX ((ls j).length);rw[<-hm] at A HX hc
     have i0':(0:Int)<=(j:Int):=by omega
     have i1:(j:Int)<(k:Int):=by omega
     clear h0 h4 hu h9 he hg hl hm;go_wp2_with fail;refine A.o.mono ?_;rintro e w1 ⟨v1,rfl,h3,ha⟩
     have N1:Hid (w1.ownsRow w.heap.size 5 1 v1 (pfl ls k++pln ls (j+1)).length (bl (pfl ls k++pln ls (j+1)))∧N0 w w1):=by
      refine⟨?_,hb.o.fresh (Nat.le_refl _) ha⟩;rw[HX.o.2,HX.o.1];exact h3
     clear h3 ha HX hb A;go_wp2
     go_roundw
     case rel=>exact⟨j+1,by omega,by go_num,N1.o⟩
     case measure=>simp[intOf];omega
    ·obtain rfl:j=k:=by omega
     have F1:=Qa (And.intro h0 h4);clear h0 h4;go_wp2;go_ret;exact⟨_,rfl,F1.o⟩
theorem uZ (p:Nat) (va vc:Value) (ad c:LI) (w:World) (hb:Blk w p 23 [va,vc]) (ba:Bs .u8 w va ad) (na:NoCap va) (la:ad.length<=100000000000) (bc:Bs .u8 w vc c) (nc:NoCap vc) (lc:c.length<=100000000000) :
 Calls prog 121 #[.slice (some ⟨p,0,none⟩) 2 2] w λe w'=>∃v,e=.returned v∧w'.ownsRow w.heap.size 5 1 v (UC ad c).length (bl (UC ad c))∧N0 w w':=by
 have h:=Se p 2 (λi=>if i=0 then ad else c) (Nat.le_refl _) w (λi hi=>by
  by_cases h0:i=0
  ·subst h0
   exact⟨va,by rw[hb.cell];rfl,ba,na,la⟩
  ·obtain rfl:i=1:=by omega
   exact⟨vc,by rw[hb.cell];rfl,bc,nc,lc⟩)
 have e:pfl (λi=>if i=0 then ad else c) 2++pln (λi=>if i=0 then ad else c) 2=UC ad c:=by
  simp[pfl,pln,UC]
 rw[e] at h;exact h
theorem MC (n:Nat) (h2:n<=31):bits .and .u64 (n:Int) 31=(n:Int):=by
 rw[show (31:Int)=((31:Nat):Int) from rfl,u64_and_nat _ _ (by omega) (by omega),show (31:Nat)=2^5 - 1 from rfl,Nat.and_two_pow_sub_one_eq_mod];omega
theorem BZ (x s m:Nat) (hx:x<4294967296) (h1:1<=s) (h2:s<=31) (hm:m=32 - s):bits .or .u32 ((x:Int)*2^s % 4294967296) ((x:Int) / 2^(32 - s))=((rotw x m:Nat):Int):=by
 subst hm
 rw[show ((x:Int)*2^s % 4294967296)=((x*2^s % 4294967296:Nat):Int) by simp,show ((x:Int) / 2^(32 - s))=((x / 2^(32 - s):Nat):Int) by simp,
  u32_or_nat _ _ (Nat.mod_lt _ (by decide)) (XG _ _ hx)]
 unfold rotw;rw[Nat.or_comm,show 32 - (32 - s)=s by omega]
theorem ZS (x n m:Nat) (w:World) (hx:x<4294967296) (h1:1<=n) (h2:n<=31) (hm:m=32 - n) :
 Calls prog 194 #[.int .u32 x,.int .i64 n] w λe w'=>e=.returned (.int .u32 (rotw x m:Nat))∧w=w':=by
 have hb:=MC n h2
 have hw:IntKind.u64.wrap (n:Int)=(n:Int):=by simp[IntKind.wrap,IntKind.bits,IntKind.signed];omega
 have HL:=Qa (BZ x n m hx h1 h2 hm);clear hm;go_enter func194,ntmps194;go_wp2;go_ret;exact⟨YP HL.o,rfl⟩
theorem Vp (a b:Nat):IntKind.u32.wrap ((a:Int)+(b:Int))=(((a+b) % 4294967296:Nat):Int):=by
 rw[IntKind.wrap_u32'];omega
theorem E9 {fn:Func} {a b c d:Tmp} (h:fn.results=#[.tmp a,.tmp b,.tmp c,.tmp d]) (tmps:Array Value) (P:Program) (w:World):(results fn tmps).run P w=.ok (.tuple #[tmps.getD a undef,tmps.getD b undef,tmps.getD c undef,tmps.getD d undef]) w:=by
 simp[results,h]
def q4v (q:Q4):Value:=.tuple #[.int .u32 (q.a:Nat),.int .u32 (q.b:Nat),.int .u32 (q.c:Nat),.int .u32 (q.d:Nat)]
structure Steps (a b c d a1 x1 d1 c1 x2 b1 a2 x3 d2 c2 x4 b2:Nat):Prop where
 s1:IntKind.u32.wrap ((a:Int)+(b:Int))=(a1:Int)
 s2:bits .xor .u32 (d:Int) (a1:Int)=(x1:Int)
 s3:d1=rotw x1 16
 s4:IntKind.u32.wrap ((c:Int)+(d1:Int))=(c1:Int)
 s5:bits .xor .u32 (b:Int) (c1:Int)=(x2:Int)
 s6:b1=rotw x2 20
 s7:IntKind.u32.wrap ((a1:Int)+(b1:Int))=(a2:Int)
 s8:bits .xor .u32 (d1:Int) (a2:Int)=(x3:Int)
 s9:d2=rotw x3 24
 s10:IntKind.u32.wrap ((c1:Int)+(d2:Int))=(c2:Int)
 s11:bits .xor .u32 (b1:Int) (c2:Int)=(x4:Int)
 s12:b2=rotw x4 25
 l1:x1<4294967296
 l2:x2<4294967296
 l3:x3<4294967296
 l4:x4<4294967296
 q:qrt ⟨a,b,c,d⟩=⟨a2,b2,c2,d2⟩
theorem steps (a b c d:Nat) (_ha:a<4294967296) (hb:b<4294967296) (_hc:c<4294967296) (hd:d<4294967296):∃a1 x1 d1 c1 x2 b1 a2 x3 d2 c2 x4 b2,Steps a b c d a1 x1 d1 c1 x2 b1 a2 x3 d2 c2 x4 b2:=by
 have la:(a+b) % 4294967296<4294967296:=Nat.mod_lt _ (by decide);have l1:=UW hd la;have ld:=VR _ 16 l1;have lc:(c+rotw (d ^^^ ((a+b) % 4294967296)) 16) % 4294967296<4294967296:=Nat.mod_lt _ (by decide);have l2:=UW hb lc;have lb:=VR _ 20 l2;have h0:((a+b) % 4294967296+rotw (b ^^^ ((c+rotw (d ^^^ ((a+b) % 4294967296)) 16) % 4294967296)) 20) % 4294967296<4294967296:=Nat.mod_lt _ (by decide);have l3:=UW ld h0;have ld2:=VR _ 24 l3;have h1:((c+rotw (d ^^^ ((a+b) % 4294967296)) 16) % 4294967296+rotw (rotw (d ^^^ ((a+b) % 4294967296)) 16 ^^^ (((a+b) % 4294967296+rotw (b ^^^ ((c+rotw (d ^^^ ((a+b) % 4294967296)) 16) % 4294967296)) 20) % 4294967296)) 24) % 4294967296<4294967296:=Nat.mod_lt _ (by decide);have l4:=UW lb h1;exact⟨_,_,_,_,_,_,_,_,_,_,_,_,Vp _ _,u32_xor_nat _ _ hd la,rfl,Vp _ _,u32_xor_nat _ _ hb lc,rfl,Vp _ _,u32_xor_nat _ _ ld h0,rfl,Vp _ _,u32_xor_nat _ _ lb h1,rfl,l1,l2,l3,l4,rfl⟩
theorem qU (a b c d:Nat) (w:World) (ha:a<4294967296) (hb:b<4294967296) (hc:c<4294967296) (hd:d<4294967296) :
 Calls prog 216 #[.int .u32 a,.int .u32 b,.int .u32 c,.int .u32 d] w λe w'=>e=.returned (q4v (qrt ⟨a,b,c,d⟩))∧w=w':=by
 obtain⟨a1,x1,d1,c1,x2,b1,a2,x3,d2,c2,x4,b2,S⟩:=steps a b c d ha hb hc hd;have A:=Qa (ZS x1 16 16 w S.l1 (by decide) (by decide) rfl);have B:=Qa (ZS x2 12 20 w S.l2 (by decide) (by decide) rfl);have C:=Qa (ZS x3 8 24 w S.l3 (by decide) (by decide) rfl);have D:=Qa (ZS x4 7 25 w S.l4 (by decide) (by decide) rfl);rw[<-S.s3] at A;rw[<-S.s6] at B;rw[<-S.s9] at C;rw[<-S.s12] at D;rw[S.q];obtain⟨s1,s2,-,s4,s5,-,s7,s8,-,s10,s11,-,-,-,-,-,-⟩:=S;clear ha hb hc hd;go_enter func216,ntmps216;go_wp2_with fail;refine A.o.mono ?_;rintro e w1 ⟨rfl,rfl⟩;go_wp2_with fail;refine B.o.mono ?_;rintro e w1 ⟨rfl,rfl⟩;go_wp2_with fail;refine C.o.mono ?_;rintro e w1 ⟨rfl,rfl⟩;go_wp2_with fail;refine D.o.mono ?_;rintro e w1 ⟨rfl,rfl⟩;go_wp2
 try simp only[Exit.inBlock,Exit.then]
 exact bodyPost_ret (E9 rfl _ _ _) rfl ⟨rfl,rfl⟩
section
set_option linter.unusedSimpArgs false
theorem vK {T G:Prop} (h:T->G) (t:T):G:=h t
theorem Dj {P:Program} {md:Region.Mode} {ops:Array Oper} {Q:Exit->Act->World->Prop} {n:Nat} {l l':Array Bool} {a:Act} {w:World} (e:l=l') (h:wpAny P md ops Q n l' a w):wpAny P md ops Q n l a w:=by rw[e];exact h
theorem Ek (g i j k l a b c d qa qb qc qd:Nat) (w:World)
 (hi:(i:Int)<16) (hj:(j:Int)<16) (hk:(k:Int)<16) (hl:(l:Int)<16) (hi0:(0:Int)<=i) (hj0:(0:Int)<=j) (hk0:(0:Int)<=k) (hl0:(0:Int)<=l)
 (QA:Hid (∀W:World,Calls prog 216 #[.int .u32 a,.int .u32 b,.int .u32 c,.int .u32 d] W λe w'=>e=.returned (.tuple #[.int .u32 (qa:Nat),.int .u32 (qb:Nat),.int .u32 (qc:Nat),.int .u32 (qd:Nat)])∧W=w'))
 (ci:w.cell? ⟨g,i,none⟩=some (.int .u32 a)) (cj:w.cell? ⟨g,j,none⟩=some (.int .u32 b)) (ck:w.cell? ⟨g,k,none⟩=some (.int .u32 c)) (cl:w.cell? ⟨g,l,none⟩=some (.int .u32 d))
 (nij:¬i=j) (nik:¬i=k) (nil:¬i=l) (njk:¬j=k) (njl:¬j=l) (nkl:¬k=l)
 (fi:∀n,w.frozen? ⟨g,n,none⟩=false) :
 Calls prog 215 #[.int .i64 i,.int .i64 j,.int .i64 k,.int .i64 l,.pointer (some ⟨g,0,none⟩)] w λe w'=>e=.returned (.tuple #[])∧w'=((((w.drew.setCell ⟨g,i,none⟩ (.int .u32 qa)).setCell ⟨g,j,none⟩ (.int .u32 qb)).setCell ⟨g,k,none⟩ (.int .u32 qc)).setCell ⟨g,l,none⟩ (.int .u32 qd)):=by
 have f0:=fi i;have f1:=fi j;have f2:=fi k;have f3:=fi l;clear fi;go_enter func215,ntmps215;refine wp_region_any (by kernel_rfl) ?_
 change wpAny _ _ _ _ _ _ _ (World.drew _)
 refine wpAny_take (i:=0) (v:=?v0) rfl (by kernel_rfl) (by kernel_rfl) (by kernel_rfl) (λ_ _ _ h=>h) (Or.inl ⟨by rfl,?h0⟩) ?r0
 case h0=>(intro w;go_simp;try with_reducible rfl)
 try simp only[Act.put,Qp,Qj,Qn]
 refine wpAny_take (i:=1) (v:=?v1) rfl (by kernel_rfl) (by kernel_rfl) (by kernel_rfl) (λ_ _ _ h=>h) (Or.inl ⟨by rfl,?h1⟩) ?r1
 case h1=>(intro w;go_simp;try with_reducible rfl)
 try simp only[Act.put,Qp,Qj,Qn]
 refine wpAny_take (i:=2) (v:=?v2) rfl (by kernel_rfl) (by kernel_rfl) (by kernel_rfl) (λ_ _ _ h=>h) (Or.inl ⟨by rfl,?h2⟩) ?r2
 case h2=>(intro w;go_simp;try with_reducible rfl)
 try simp only[Act.put,Qp,Qj,Qn]
 refine wpAny_take (i:=3) (v:=?v3) rfl (by kernel_rfl) (by kernel_rfl) (by kernel_rfl) (λ_ _ _ h=>h) (Or.inl ⟨by rfl,?h3⟩) ?r3
 case h3=>(intro w;go_simp;try with_reducible rfl)
 try simp only[Act.put,Qp,Qj,Qn]
 refine wpAny_take (i:=4) (v:=?v4) rfl (by kernel_rfl) (by kernel_rfl) (by kernel_rfl) (λ_ _ _ h=>h) (Or.inl ⟨by rfl,?h4⟩) ?r4
 case h4=>(intro w;go_simp;try with_reducible rfl)
 try simp only[Act.put,Qp,Qj,Qn]
 refine wpAny_take (i:=5) (v:=?v5) rfl (by kernel_rfl) (by kernel_rfl) (by kernel_rfl) (λ_ _ _ h=>h) (Or.inl ⟨by rfl,?h5⟩) ?r5
 case h5=>(intro w;go_simp;try with_reducible rfl)
 try simp only[Act.put,Qp,Qj,Qn]
 refine wpAny_take (i:=7) (v:=?v7) rfl (by kernel_rfl) (by kernel_rfl) (by kernel_rfl) (λ_ _ _ h=>h) (Or.inl ⟨by rfl,?h7⟩) ?r7
 case h7=>(intro w;go_simp;try with_reducible rfl)
 try simp only[Act.put,Qp,Qj,Qn]
 refine wpAny_take (i:=8) (v:=?v8) rfl (by kernel_rfl) (by kernel_rfl) (by kernel_rfl) (λ_ _ _ h=>h) (Or.inl ⟨by rfl,?h8⟩) ?r8
 case h8=>(intro w;go_simp;try with_reducible rfl)
 try simp only[Act.put,Qp,Qj,Qn]
 refine wpAny_take (i:=10) (v:=?v10) rfl (by kernel_rfl) (by kernel_rfl) (by kernel_rfl) (λ_ _ _ h=>h) (Or.inl ⟨by rfl,?h10⟩) ?r10
 case h10=>(intro w;go_simp;try with_reducible rfl)
 try simp only[Act.put,Qp,Qj,Qn]
 refine wpAny_take (i:=11) (v:=?v11) rfl (by kernel_rfl) (by kernel_rfl) (by kernel_rfl) (λ_ _ _ h=>h) (Or.inl ⟨by rfl,?h11⟩) ?r11
 case h11=>(intro w;go_simp;try with_reducible rfl)
 try simp only[Act.put,Qp,Qj,Qn]
 refine wpAny_take (i:=13) (v:=?v13) rfl (by kernel_rfl) (by kernel_rfl) (by kernel_rfl) (λ_ _ _ h=>h) (Or.inl ⟨by rfl,?h13⟩) ?r13
 case h13=>(intro w;go_simp;try with_reducible rfl)
 try simp only[Act.put,Qp,Qj,Qn]
 refine wpAny_take (i:=14) (v:=?v14) rfl (by kernel_rfl) (by kernel_rfl) (by kernel_rfl) (λ_ _ _ h=>h) (Or.inl ⟨by rfl,?h14⟩) ?r14
 case h14=>(intro w;go_simp;try with_reducible rfl)
 try simp only[Act.put,Qp,Qj,Qn]
 refine vK (T:=?T) (λREST=>?main) ?rest
 case main =>
  repeat' (first
   | (have _:True:=(λ_=>trivial) hK;rw[if_pos (by rfl)];go_simp;refine hK _ _ ?_;clear hK K;try simp only[Act.put,Qp,Qj,Qn])
   | (have _:=ha;have _:=hb;have _:=h6;have _:=h9;refine Dj (l':=#[true,true,true,true,true,true,true,true,true,true,true,true,true,true,true,true,false,false,false,false,false,false,false,false,false,false,false,false,false,false]) (by kernel_rfl) ?_;exact REST)
   | (have _:=ha;have _:=hb;have _:=h6;refine wpAny_ready (rs:=[15]) (by kernel_rfl) (by simp) ?_;refine AllReady.cons rfl (λK hK=>?_) AllReady.nil;have h9:=trivial)
   | (have _:=ha;have _:=hb;have _:=h9;refine wpAny_ready (rs:=[12]) (by kernel_rfl) (by simp) ?_;refine AllReady.cons rfl (λK hK=>?_) AllReady.nil;have h6:=trivial)
   | (have _:=ha;have _:=h6;have _:=h9;refine wpAny_ready (rs:=[9]) (by kernel_rfl) (by simp) ?_;refine AllReady.cons rfl (λK hK=>?_) AllReady.nil;have hb:=trivial)
   | (have _:=hb;have _:=h6;have _:=h9;refine wpAny_ready (rs:=[6]) (by kernel_rfl) (by simp) ?_;refine AllReady.cons rfl (λK hK=>?_) AllReady.nil;have ha:=trivial)
   | (have _:=ha;have _:=hb;refine wpAny_ready (rs:=[12,15]) (by kernel_rfl) (by simp) ?_;refine AllReady.cons rfl (λK hK=>?_) (AllReady.cons rfl (λK hK=>?_) AllReady.nil);have h6:=trivial;rotate_left;have h9:=trivial)
   | (have _:=ha;have _:=h6;refine wpAny_ready (rs:=[9,15]) (by kernel_rfl) (by simp) ?_;refine AllReady.cons rfl (λK hK=>?_) (AllReady.cons rfl (λK hK=>?_) AllReady.nil);have hb:=trivial;rotate_left;have h9:=trivial)
   | (have _:=ha;have _:=h9;refine wpAny_ready (rs:=[9,12]) (by kernel_rfl) (by simp) ?_;refine AllReady.cons rfl (λK hK=>?_) (AllReady.cons rfl (λK hK=>?_) AllReady.nil);have hb:=trivial;rotate_left;have h6:=trivial)
   | (have _:=hb;have _:=h6;refine wpAny_ready (rs:=[6,15]) (by kernel_rfl) (by simp) ?_;refine AllReady.cons rfl (λK hK=>?_) (AllReady.cons rfl (λK hK=>?_) AllReady.nil);have ha:=trivial;rotate_left;have h9:=trivial)
   | (have _:=hb;have _:=h9;refine wpAny_ready (rs:=[6,12]) (by kernel_rfl) (by simp) ?_;refine AllReady.cons rfl (λK hK=>?_) (AllReady.cons rfl (λK hK=>?_) AllReady.nil);have ha:=trivial;rotate_left;have h6:=trivial)
   | (have _:=h6;have _:=h9;refine wpAny_ready (rs:=[6,9]) (by kernel_rfl) (by simp) ?_;refine AllReady.cons rfl (λK hK=>?_) (AllReady.cons rfl (λK hK=>?_) AllReady.nil);have ha:=trivial;rotate_left;have hb:=trivial)
   | (have _:=ha;refine wpAny_ready (rs:=[9,12,15]) (by kernel_rfl) (by simp) ?_;refine AllReady.cons rfl (λK hK=>?_) (AllReady.cons rfl (λK hK=>?_) (AllReady.cons rfl (λK hK=>?_) AllReady.nil));have hb:=trivial;rotate_left;have h6:=trivial;rotate_left;have h9:=trivial)
   | (have _:=hb;refine wpAny_ready (rs:=[6,12,15]) (by kernel_rfl) (by simp) ?_;refine AllReady.cons rfl (λK hK=>?_) (AllReady.cons rfl (λK hK=>?_) (AllReady.cons rfl (λK hK=>?_) AllReady.nil));have ha:=trivial;rotate_left;have h6:=trivial;rotate_left;have h9:=trivial)
   | (have _:=h6;refine wpAny_ready (rs:=[6,9,15]) (by kernel_rfl) (by simp) ?_;refine AllReady.cons rfl (λK hK=>?_) (AllReady.cons rfl (λK hK=>?_) (AllReady.cons rfl (λK hK=>?_) AllReady.nil));have ha:=trivial;rotate_left;have hb:=trivial;rotate_left;have h9:=trivial)
   | (have _:=h9;refine wpAny_ready (rs:=[6,9,12]) (by kernel_rfl) (by simp) ?_;refine AllReady.cons rfl (λK hK=>?_) (AllReady.cons rfl (λK hK=>?_) (AllReady.cons rfl (λK hK=>?_) AllReady.nil));have ha:=trivial;rotate_left;have hb:=trivial;rotate_left;have h6:=trivial)
   | (refine wpAny_ready (rs:=[6,9,12,15]) (by kernel_rfl) (by simp) ?_;refine AllReady.cons rfl (λK hK=>?_) (AllReady.cons rfl (λK hK=>?_) (AllReady.cons rfl (λK hK=>?_) (AllReady.cons rfl (λK hK=>?_) AllReady.nil)));have ha:=trivial;rotate_left;have hb:=trivial;rotate_left;have h6:=trivial;rotate_left;have h9:=trivial))
 case rest =>
  refine wpAny_ready (rs:=[16]) (by kernel_rfl) (by simp) ?_;refine AllReady.cons rfl (λK hK=>?_) AllReady.nil
  go_simp
  go_wp2_with (go_at_call 216;refine (QA.o _).mono ?_;rintro e w2 ⟨rfl,rfl⟩);refine wpAny_take (i:=17) (v:=?v17) rfl (by kernel_rfl) (by kernel_rfl) (by kernel_rfl) (λ_ _ _ h=>h) (Or.inl ⟨by rfl,?h17⟩) ?r17
  case h17=>(intro w;go_simp;try with_reducible rfl)
  try simp only[Act.put,Qp,Qj,Qn]
  refine wpAny_take (i:=18) (v:=?v18) rfl (by kernel_rfl) (by kernel_rfl) (by kernel_rfl) (λ_ _ _ h=>h) (Or.inl ⟨by rfl,?h18⟩) ?r18
  case h18=>(intro w;go_simp;try with_reducible rfl)
  try simp only[Act.put,Qp,Qj,Qn]
  refine wpAny_take (i:=19) (v:=?v19) rfl (by kernel_rfl) (by kernel_rfl) (by kernel_rfl) (λ_ _ _ h=>h) (Or.inl ⟨by rfl,?h19⟩) ?r19
  case h19=>(intro w;go_simp;try with_reducible rfl)
  try simp only[Act.put,Qp,Qj,Qn]
  refine wpAny_take (i:=20) (v:=?v20) rfl (by kernel_rfl) (by kernel_rfl) (by kernel_rfl) (λ_ _ _ h=>h) (Or.inl ⟨by rfl,?h20⟩) ?r20
  case h20=>(intro w;go_simp;try with_reducible rfl)
  try simp only[Act.put,Qp,Qj,Qn]
  refine wpAny_take (i:=21) (v:=?v21) rfl (by kernel_rfl) (by kernel_rfl) (by kernel_rfl) (λ_ _ _ h=>h) (Or.inl ⟨by rfl,?h21⟩) ?r21
  case h21=>(intro w;go_simp;try with_reducible rfl)
  try simp only[Act.put,Qp,Qj,Qn]
  refine wpAny_take (i:=22) (v:=?v22) rfl (by kernel_rfl) (by kernel_rfl) (by kernel_rfl) (λ_ _ _ h=>h) (Or.inl ⟨by rfl,?h22⟩) ?r22
  case h22=>(intro w;go_simp;try with_reducible rfl)
  try simp only[Act.put,Qp,Qj,Qn]
  refine wpAny_ready (rs:=[23]) (by kernel_rfl) (by simp) ?_;refine AllReady.cons rfl (λK hK=>?_) AllReady.nil;rw[if_pos (by rfl)]
  go_simp
  refine hK _ _ ?_;clear hK K;refine wpAny_take (i:=24) (v:=?v24) rfl (by kernel_rfl) (by kernel_rfl) (by kernel_rfl) (λ_ _ _ h=>h) (Or.inl ⟨by rfl,?h24⟩) ?r24
  case h24=>(intro w;go_simp;try with_reducible rfl)
  try simp only[Act.put,Qp,Qj,Qn]
  refine wpAny_ready (rs:=[25]) (by kernel_rfl) (by simp) ?_;refine AllReady.cons rfl (λK hK=>?_) AllReady.nil;rw[if_pos (by rfl)]
  go_simp
  refine hK _ _ ?_;clear hK K;refine wpAny_take (i:=26) (v:=?v26) rfl (by kernel_rfl) (by kernel_rfl) (by kernel_rfl) (λ_ _ _ h=>h) (Or.inl ⟨by rfl,?h26⟩) ?r26
  case h26=>(intro w;go_simp;try with_reducible rfl)
  try simp only[Act.put,Qp,Qj,Qn]
  refine wpAny_ready (rs:=[27]) (by kernel_rfl) (by simp) ?_;refine AllReady.cons rfl (λK hK=>?_) AllReady.nil;rw[if_pos (by rfl)]
  go_simp
  refine hK _ _ ?_;clear hK K;refine wpAny_take (i:=28) (v:=?v28) rfl (by kernel_rfl) (by kernel_rfl) (by kernel_rfl) (λ_ _ _ h=>h) (Or.inl ⟨by rfl,?h28⟩) ?r28
  case h28=>(intro w;go_simp;try with_reducible rfl)
  try simp only[Act.put,Qp,Qj,Qn]
  refine wpAny_ready (rs:=[29]) (by kernel_rfl) (by simp) ?_;refine AllReady.cons rfl (λK hK=>?_) AllReady.nil;rw[if_pos (by rfl)]
  go_simp
  refine hK _ _ ?_;clear hK K;refine wpAny_done (by kernel_rfl) ?_ _
  go_end0
  exact⟨rfl,rfl⟩
end
end Go.Proofs.YtoflhbghdlaeaaaGreatDoor
