import Derived.Test.YtiochaeeoelmjaaGreatDoorG4
namespace Go.Proofs.YtiochaeeoelmjaaGreatDoor
set_option maxHeartbeats 1600000
set_option maxRecDepth 100000
open Go.RowKit _root_.Go.Proofs.Tryz
theorem Xr (z:Value) (k:Nat):(Builtin.zeroCells #[z] k).toList=List.replicate k z:=by
 apply List.ext_getElem
 ·simp[Builtin.zeroCells]
 ·intro j h1 h2
  simp[Builtin.zeroCells,Nat.mod_one]
theorem OI {P:Program} (w:World) (base:Nat) (t tn ty e:TypeId) (i:TypeInfo) (z:Value) (kq kn:IntKind) (bytes:Nat) (ht:P.underlying t=some (.slice e)) (htn:P.underlying tn=some (.int kn)) (hi:P.info? e=some i) (hz:i.zero=some z)
 (hsize:i.size=1) (hby:i.bytes=bytes) (hzc:z.cells=#[z]) (hz1:z.oneCell'=true) (g n cap:Nat) (xs:List Value) (hown:w.ownsRow base e 1 (.slice (some ⟨g,0,none⟩) n cap) n xs)
 (k:Nat) (h0:0<k) (h63:n+k<=maxLen) (hbytes:(n+k)*bytes<=140737488355328) (hbase:base<=w.heap.size) :
 ∃v' w',(Builtin.append_ #[t,tn] ty #[.slice (some ⟨g,0,none⟩) n cap,.int kq k]).run P w=.ok v' w'∧w'.ownsRow base e 1 v' (n+k) (xs++List.replicate k z)∧w.grownBy w' (some g):=by
 subst hby
 have h1:(xs++List.replicate k z).length=(n+k)*1:=by rw[Qb,hown.1,List.length_replicate];omega
 have hk2:k*i.bytes<=281474976710656:=by
  have:k*i.bytes<=(n+k)*i.bytes:=Nat.mul_le_mul_right _ (by omega);omega
 rcases hown.2 with ⟨hv,_⟩ | ⟨g',cap',cur,hv,hbg,hg,hnc,hcm,hcs,htake⟩
 ·cases hv
 ·simp only[Value.slice.injEq,Option.some.injEq,Addr.mk.injEq] at hv
  obtain⟨⟨rfl,_⟩,_,rfl⟩:=hv
  by_cases hroom:n+k<=cap
  ·have h3:=run_storeCells_at P g (n*1) e (List.replicate k z) 0 cur w hg (by simp[hcs];omega) (by intro u hu;rw[List.eq_of_mem_replicate hu];exact hz1)
   simp only[Nat.add_zero] at h3
   have hk:k≠0:=by omega
   have hw:IntKind.i64.wrap (k:Int)=k:=by rw[IntKind.wrap_i64];simp only[maxLen] at h63;omega
   have h6:¬(281474976710656<(k:Int)*(i.bytes:Int)):=by
    rw[<-Int.natCast_mul];omega
   have h5:¬((k:Int)<0):=by omega
   have hzl:=Xr z k;refine⟨.slice (some ⟨g,0,none⟩) (n+k) cap,w.setRow g (cur.toList.take (n*1)++List.replicate k z++cur.toList.drop (n*1+(List.replicate k z).length)).toArray,?_,⟨h1,.inr ⟨g,cap,_,rfl,hbg,setRow_heap w g cur _ e _ hg,hroom,hcm,?_,?_⟩⟩,⟨rfl,rfl,rfl,by simp,λj _ hj=>setRow_other w g j _ (λe=>hj (by rw[e]))⟩⟩
   ·simp[Builtin.append_,run_underlying ht,run_underlying htn,sizeOf,typeInfo,zeroValue,hi,hz,hsize,asInt,asIntOf,hw,h5,hk,h6,hroom,Addr.add_lit,hzc,hzl]
    simp at h3;rw[h3]
    rfl
   ·simp only[List.size_toArray,Qb,Qg,Qm,Array.length_toList,List.length_replicate]
    omega
   ·rw[htake,<-h1]
    exact List.take_left
  ·have h2:∀j u,xs[j]? = some u->w.drew.cell? ((⟨g,0,none⟩:Addr).add j)=some u:=hown.cells (g:=g) rfl
   have hf:=run_firstCells_some (P:=P) w.drew i.size n ⟨g,0,none⟩ n cap xs (by rw[hsize];exact hown.1) h2;have hr:=Lib.run_append_grow_zeros (P:=P) w t tn ty e i z kq kn ht htn hi hz (some ⟨g,0,none⟩) n cap xs hf k h0 (by omega) (by omega) (by simp only[maxLen] at h63;omega) hk2 (growslice_fits (by omega) hbytes);have hge:=grownCap_ge w (n+k) cap e;have h4:grownCap w (n+k) cap e<=maxLen:=grownCap_le_maxLen w (n+k) cap e h63;refine⟨_,_,hr,⟨h1,.inr ⟨w.heap.size,_,_,rfl,hbase,heap_alloc_new w.drew _,hge,h4,?_,?_⟩⟩,⟨rfl,rfl,rfl,by simp,λj hj _=>Below.heap_alloc _ _ _ hj⟩⟩
   ·simp only[Array.size_append,List.size_toArray,size_zeroCells,hzc,hown.1]
    simp;omega
   ·simp only[Array.toList_append,hzc,Xr]
    rw[<-h1];exact List.take_left
theorem RH {P:Program} (w:World) (t tn ty e:TypeId) (i:TypeInfo) (kq kn:IntKind) (ht:P.underlying t=some (.slice e)) (htn:P.underlying tn=some (.int kn)) (hi:P.info? e=some i)
 (ao:Option Addr) (n cap:Nat) (hn:n<=cap) :
 (Builtin.append_ #[t,tn] ty #[.slice ao n cap,.int kq 0]).run P w=.ok (.slice ao n cap) w:=by
 have hw:IntKind.i64.wrap 0=0:=by rw[IntKind.wrap_i64];omega
 simp[Builtin.append_,run_underlying ht,run_underlying htn,sizeOf,typeInfo,hi,asInt,asIntOf,hw,hn]
 cases ao with
 | none=>rfl
 | some a=>simp[storeCells]
theorem qf {P:Program} (w:World) {ops:Array Oper} {rest:List Oper} {o:Oper} {a:Act} {Q:Exit->Act->World->Prop} (hg:o.guard=none) (s x:Operand) (t tn:TypeId)
 (ho:o.op=.call { callee:=.builtin .append,args:=#[s,x],argTypes:=#[t,tn] }) (vs vx:Value) (hs:a.eval s=vs) (hx:a.eval x=vx)
 (v':Value) (w':World) (hr:(Builtin.append_ #[t,tn] o.type #[vs,vx]).run P w=.ok v' w') (h:wpList P ops Q rest (a.put o.dst v') w'):wpList P ops Q (o :: rest) a w :=
 wpList_plain hg λ_ hK=>Lib.wp_append_run w s x t tn ho vs vx hs hx v' w' hr (hK _ _ h)
theorem IG (w:World) (base:Nat) (v:Value) (n:Nat) (xs:LI) (own:w.ownsRow base 5 1 v n (bl xs)) (k:Nat) (hk:n+k<=1000000000000) (hbase:base<=w.heap.size) :
 ∃v' w',(Builtin.append_ #[23,3] 23 #[v,.int .i64 (k:Int)]).run prog w=.ok v' w'∧w'.ownsRow base 5 1 v' (n+k) (bl (xs++List.replicate k 0))∧w.grownBy w' v.ownBlock:=by
 obtain⟨i0,hi,h5,hz1,h4⟩:=info_parts Tryz.infoU8
 have hxn:xs.length=n:=by have:=own.1;rw[Qt] at this;omega
 by_cases h0:k=0
 ·subst h0
  rcases own.2 with ⟨rfl,hz⟩ | ⟨g,cap',cur,rfl,_,_,hc,_⟩
  ·refine⟨_,_,RH (P:=prog) w 23 3 23 5 i0 .i64 .i64 underlying23 underlying3 hi none 0 0 Zu,?_,World.grownBy.refl _ _⟩
   rw[List.replicate_zero,List.append_nil];exact own
  ·refine⟨_,_,RH (P:=prog) w 23 3 23 5 i0 .i64 .i64 underlying23 underlying3 hi _ n cap' hc,?_,World.grownBy.refl _ _⟩
   rw[List.replicate_zero,List.append_nil];exact own
 ·rcases own.2 with ⟨rfl,hz⟩ | ⟨g,cap',cur,rfl,_⟩
  ·subst hz
   have hx:xs=[]:=List.eq_nil_of_length_eq_zero hxn;subst hx;have hge:=grownCap_ge w k 0 5;have hcm:=grownCap_le_maxLen w k 0 5 (by unfold maxLen;omega);refine⟨_,_,Lib.run_append_nil_zeros (P:=prog) w 23 3 23 5 i0 (.int .u8 0) .i64 .i64 underlying23 underlying3 hi h5 k (by omega) (by omega) (by omega) (by rw[h4];omega),⟨by simp[Qt],.inr ⟨w.heap.size,_,_,by rw[Nat.zero_add],hbase,heap_alloc_new w.drew _,by rw[Nat.zero_add];exact hge,hcm,?_,?_⟩⟩,⟨rfl,rfl,rfl,by simp,λj hj _=>Below.heap_alloc _ _ _ hj⟩⟩
   ·simp only[Array.size_append,size_zeroCells,show (Value.int .u8 0).cells=#[.int .u8 0] from rfl]
    simp;omega
   ·simp only[Array.toList_append,show (Value.int .u8 0).cells=#[.int .u8 0] from rfl,Xr,List.nil_append]
    rw[show (0+k)*1=(List.replicate k (Value.int .u8 0)).length by simp,List.take_left];simp[bl]
  ·obtain⟨v5,w5,h1,h2,h3⟩:=OI (P:=prog) w base 23 3 23 5 i0 (.int .u8 0) .i64 .i64 1 underlying23 underlying3 hi h5 hz1 h4 rfl rfl g n cap' _ own k (by omega) (by simp only[maxLen];omega) (by omega) hbase
   refine⟨v5,w5,h1,?_,h3⟩;unfold bl at *;rw[List.map_append,List.map_replicate];exact h2
structure Q4 where
 a:Nat
 b:Nat
 c:Nat
 d:Nat
def half (q:Q4) (m1 m2:Nat):Q4 :=
 let a:=(q.a+q.b) % 4294967296
 let d:=rotw (q.d ^^^ a) m1
 let c:=(q.c+d) % 4294967296
 let b:=rotw (q.b ^^^ c) m2
 ⟨a,b,c,d⟩
def qrt (q:Q4):Q4:=half (half q 16 20) 24 25
def turnW (s:List Nat) (i j k l:Nat):List Nat :=
 let q:=qrt ⟨s.getD i 0,s.getD j 0,s.getD k 0,s.getD l 0⟩
 (((s.set i q.a).set j q.b).set k q.c).set l q.d
def fours:List (Nat × Nat × Nat × Nat):=[(0,4,8,12),(1,5,9,13),(2,6,10,14),(3,7,11,15),(0,5,10,15),(1,6,11,12),(2,7,8,13),(3,4,9,14)]
def turnP (s:List Nat) (p:Nat × Nat × Nat × Nat):List Nat:=turnW s p.1 p.2.1 p.2.2.1 p.2.2.2
def dblR (s:List Nat):List Nat:=fours.foldl turnP s
def dbls:Nat->List Nat->List Nat
 | 0,s=>s
 | n+1,s=>dblR (dbls n s)
def ld4 (b:LI) (t:Nat):Nat:=(b.getD (4*t) 0).toNat+(b.getD (4*t+1) 0).toNat*256+(b.getD (4*t+2) 0).toNat*65536+(b.getD (4*t+3) 0).toNat*16777216
def ldW (b:LI) (n:Nat):List Nat:=(List.range n).map (ld4 b)
def le4 (x:Nat):LI:=[((x % 256:Nat):Int),((x / 256 % 256:Nat):Int),((x / 65536 % 256:Nat):Int),((x / 16777216 % 256:Nat):Int)]
def ccW:List Nat:=[0x61707865,0x3320646e,0x79622d32,0x6b206574]
def ccF (key:LI) (ctr:Nat) (nonce:LI):List Nat:=ccW++ldW key 8++[ctr]++ldW nonce 3
def ccS (s:List Nat):List Nat:=(List.range 16).map λi=>((dbls 10 s).getD i 0+s.getD i 0) % 4294967296
def Yk (key:LI) (ctr:Nat) (nonce:LI):LI:=(ccS (ccF key ctr nonce)).flatMap le4
theorem MX (x:Nat):(le4 x).length=4:=rfl
theorem Az (x:Nat):U8 (le4 x):=λy hy=>by
 simp only[le4,List.mem_cons,List.not_mem_nil,or_false] at hy
 rcases hy with rfl | rfl | rfl | rfl <;> omega
theorem Hq (s:List Nat):(s.flatMap le4).length=4*s.length:=by
 induction s with
 | nil=>rfl
 | cons x s ih=>rw[List.flatMap_cons,Qb,ih,MX,Qk];omega
theorem ww (s:List Nat):U8 (s.flatMap le4):=by
 induction s with
 | nil=>intro y hy;cases hy
 | cons x s ih=>rw[List.flatMap_cons];exact (Az x).app ih
theorem U6 (b:LI) (n:Nat):(ldW b n).length=n:=by simp[ldW]
theorem Kj (key:LI) (ctr:Nat) (nonce:LI):(ccF key ctr nonce).length=16:=by
 simp[ccF,ccW,U6]
theorem Hb (s:List Nat):(ccS s).length=16:=by simp[ccS]
theorem Ky (key:LI) (ctr:Nat) (nonce:LI):(Yk key ctr nonce).length=64:=by
 unfold Yk;rw[Hq,Hb]
theorem Jm (key:LI) (ctr:Nat) (nonce:LI):U8 (Yk key ctr nonce):=ww _
theorem xB (b:LI) (h:U8 b) (t:Nat):ld4 b t<4294967296:=by
 have h0:=h.at (4*t);have h1:=h.at (4*t+1);have h2:=h.at (4*t+2);have h3:=h.at (4*t+3);unfold ld4;omega
theorem MO (b:LI) (h:U8 b) (n:Nat):W32 (ldW b n):=λx hx=>by
 obtain⟨t,_,rfl⟩:=List.mem_map.1 hx;exact xB b h t
theorem PY (key:LI) (hk:U8 key) (ctr:Nat) (hc:ctr<4294967296) (nonce:LI) (hn:U8 nonce):W32 (ccF key ctr nonce):=by
 have h0:W32 ccW:=λx hx=>by
  simp only[ccW,List.mem_cons,List.not_mem_nil,or_false] at hx
  rcases hx with rfl | rfl | rfl | rfl <;> decide
 exact ((h0.app (MO key hk 8)).app (W32.one hc)).app (MO nonce hn 3)
def Q4.ok (q:Q4):Prop:=q.a<4294967296∧q.b<4294967296∧q.c<4294967296∧q.d<4294967296
theorem Sf (q:Q4) (m1 m2:Nat) (h:q.ok):(half q m1 m2).ok:=by
 have ha:(q.a+q.b) % 4294967296<4294967296:=Nat.mod_lt _ (by decide);have hd:=YO (q.d ^^^ ((q.a+q.b) % 4294967296)) m1 (Nat.xor_lt_two_pow (n:=32) h.2.2.2 ha);have hc:(q.c+rotw (q.d ^^^ ((q.a+q.b) % 4294967296)) m1) % 4294967296<4294967296:=Nat.mod_lt _ (by decide);exact⟨ha,YO _ m2 (Nat.xor_lt_two_pow (n:=32) h.2.1 hc),hc,hd⟩
theorem Ed (q:Q4) (h:q.ok):(qrt q).ok:=Sf _ _ _ (Sf _ _ _ h)
theorem W32.set {s:List Nat} (h:W32 s) (i x:Nat) (hx:x<4294967296):W32 (s.set i x):=λy hy=>by
 rcases List.mem_or_eq_of_mem_set hy with h1 | h1
 ·exact h y h1
 ·subst h1;exact hx
theorem Wu {s:List Nat} (h:W32 s) (i j k l:Nat):W32 (turnW s i j k l):=by
 have q:=Ed ⟨s.getD i 0,s.getD j 0,s.getD k 0,s.getD l 0⟩ ⟨h.at i,h.at j,h.at k,h.at l⟩;exact (((h.set i _ q.1).set j _ q.2.1).set k _ q.2.2.1).set l _ q.2.2.2
theorem Wm (s:List Nat) (i j k l:Nat):(turnW s i j k l).length=s.length:=by simp[turnW]
theorem Iu (ps:List (Nat × Nat × Nat × Nat)):∀s:List Nat,(ps.foldl turnP s).length=s.length:=by
 induction ps with
 | nil=>intro s;rfl
 | cons p ps ih=>intro s;rw[List.foldl_cons,ih];exact Wm _ _ _ _ _
theorem zv (ps:List (Nat × Nat × Nat × Nat)):∀s:List Nat,W32 s->W32 (ps.foldl turnP s):=by
 induction ps with
 | nil=>intro s h;exact h
 | cons p ps ih=>intro s h;rw[List.foldl_cons];exact ih _ (Wu h _ _ _ _)
theorem Xc (n:Nat) (s:List Nat):(dbls n s).length=s.length:=by
 induction n with
 | zero=>rfl
 | succ n ih=>rw[dbls,dblR,Iu,ih]
theorem Sw (n:Nat) (s:List Nat) (h:W32 s):W32 (dbls n s):=by
 induction n with
 | zero=>exact h
 | succ n ih=>exact zv _ _ ih
def xorL (a b:LI):LI:=List.zipWith (λx y=>((x.toNat ^^^ y.toNat:Nat):Int)) a b
def ksb (key:LI) (ctr:Nat) (nonce:LI) (i:Nat):Int:=(Yk key (ctr+i / 64) nonce).getD (i % 64) 0
def ksL (key:LI) (ctr:Nat) (nonce:LI) (n:Nat):LI:=(List.range n).map (ksb key ctr nonce)
def Q8 (key:LI) (ctr:Nat) (nonce b:LI):LI:=xorL b (ksL key ctr nonce b.length)
abbrev fitsC (ctr n:Nat):Prop:=ctr+(n+63) / 64<=4294967296
theorem Me (key:LI) (ctr:Nat) (nonce:LI) (n:Nat):(ksL key ctr nonce n).length=n:=by simp[ksL]
theorem EW (key:LI) (ctr:Nat) (nonce:LI) (i:Nat):0<=ksb key ctr nonce i∧ksb key ctr nonce i<=255:=(Jm _ _ _).at _
theorem ZQ (a b:LI):(xorL a b).length=min a.length b.length:=List.length_zipWith ..
theorem YP (key:LI) (ctr:Nat) (nonce b:LI):(Q8 key ctr nonce b).length=b.length:=by
 unfold Q8;rw[ZQ,Me,Nat.min_self]
theorem XQ (key:LI) (ctr:Nat) (nonce b:LI) (i:Nat) (hi:i<b.length):(Q8 key ctr nonce b).getD i 0=(((b.getD i 0).toNat ^^^ (ksb key ctr nonce i).toNat:Nat):Int):=by
 unfold Q8 xorL;rw[Qc,Qh (by rw[List.length_zipWith,Me];omega),List.getElem_zipWith,Qc,Qh hi];simp[ksL]
theorem jC (x y:Int) (hx:0<=x∧x<=255) (hy:0<=y∧y<=255):x.toNat ^^^ y.toNat<256:=Nat.xor_lt_two_pow (n:=8) (by omega) (by omega)
theorem NV (key:LI) (ctr:Nat) (nonce b:LI) (h:U8 b):U8 (Q8 key ctr nonce b):=λy hy=>by
 obtain⟨i,hi,rfl⟩:=List.getElem_of_mem hy
 have hi2:i<b.length:=by rw[YP] at hi;exact hi
 have e:=XQ key ctr nonce b i hi2;rw[Qc,Qh hi] at e;simp only[Option.getD_some] at e;rw[e];have:=jC _ _ (h.at i) (EW key ctr nonce i);omega
theorem Pi {a b:LI} (hl:a.length=b.length) (h:∀i,i<a.length->a.getD i 0=b.getD i 0):a=b:=by
 apply List.ext_getElem hl
 intro i h1 h2;have:=h i h1
 rwa [Qc,Qc,Qh h1,Qh h2] at this
theorem uJ (key:LI) (ctr:Nat) (nonce b:LI) (h:U8 b):Q8 key ctr nonce (Q8 key ctr nonce b)=b:=by
 refine Pi (by rw[YP,YP]) (λi hi=>?_);rw[YP,YP] at hi;rw[XQ _ _ _ _ i (by rw[YP];exact hi),XQ _ _ _ _ i hi,Int.toNat_natCast,Nat.xor_assoc,Nat.xor_self,Nat.xor_zero];have:=h.at i;omega
def nv:LI->Nat
 | []=>0
 | d :: l=>d.toNat+256*nv l
theorem Rh (a b:LI):nv (a++b)=nv a+256^a.length*nv b:=by
 induction a with
 | nil=>simp[nv]
 | cons d a ih =>
  simp only[List.cons_append,nv,ih,Qk,Nat.pow_succ];rw[Nat.mul_add,<-Nat.mul_assoc,Nat.mul_comm 256 (256^a.length)];omega
theorem yv (d:Int):nv [d]=d.toNat:=by simp[nv]
theorem nv_lt (a:LI) (h:U8 a):nv a<256^a.length:=by
 induction a with
 | nil=>simp[nv]
 | cons d a ih =>
  have h1:=h d (by simp);have h2:=ih (λy hy=>h y (by simp[hy]));simp only[nv,Qk,Nat.pow_succ];omega
theorem Tm (a:LI) (d:Int):nv (a++[d])=nv a+256^a.length*d.toNat:=by rw[Rh,yv]
theorem xK (n:Nat):nv (List.replicate n 0)=0:=by
 induction n with
 | zero=>rfl
 | succ n ih=>simp[List.replicate_succ,nv,ih]
theorem U8.set {a:LI} (h:U8 a) (i:Nat) (d:Int) (hd:0<=d∧d<=255):U8 (a.set i d):=λy hy=>by
 rcases List.mem_or_eq_of_mem_set hy with h1 | h1
 ·exact h y h1
 ·subst h1;exact hd
def leB:Nat->Nat->LI
 | 0,_=>[]
 | n+1,x=>((x % 256:Nat):Int) :: leB n (x / 256)
theorem Vn (n x:Nat):(leB n x).length=n:=by
 induction n generalizing x with
 | zero=>rfl
 | succ n ih=>simp[leB,ih]
theorem VQ (n x:Nat):U8 (leB n x):=by
 induction n generalizing x with
 | zero=>intro y hy;cases hy
 | succ n ih =>
  intro y hy;simp only[leB,List.mem_cons] at hy
  rcases hy with rfl | hy
  ·omega
  ·exact ih _ y hy
theorem DB (n x:Nat):nv (leB n x)=x % 256^n:=by
 induction n generalizing x with
 | zero=>simp[leB,nv,Nat.mod_one]
 | succ n ih =>
  simp only[leB,nv,ih,Int.toNat_natCast];rw[Nat.pow_succ,Nat.mul_comm (256^n) 256,Nat.mod_mul]
theorem Bu {a b:LI} (ha:U8 a) (hb:U8 b) (hl:a.length=b.length) (h:nv a=nv b):a=b:=by
 induction a generalizing b with
 | nil=>cases b with
  | nil=>rfl
  | cons y b=>simp at hl
 | cons x a ih=>cases b with
  | nil=>simp at hl
  | cons y b =>
   have hx:=ha x (by simp);have hy:=hb y (by simp);simp only[nv] at h
   have h1:x=y:=by omega
   subst h1;rw[ih (b:=b) (λz hz=>ha z (List.mem_cons_of_mem _ hz)) (λz hz=>hb z (List.mem_cons_of_mem _ hz)) (by simpa using hl) (by omega)]
def PP:Nat:=1361129467683753853853498429727072845819
def WM (key:LI):LI:=(List.range 16).map λi=>if i % 4=3 then key.getD i 0 % 16 else if i % 4=0∧0<i then key.getD i 0 - key.getD i 0 % 4 else key.getD i 0
def piece (xs:LI) (k:Nat):Nat:=nv ((xs.drop (16*k)).take 16)+256^(min 16 (xs.length - 16*k))
def pacc (r:Nat) (xs:LI):Nat->Nat
 | 0=>0
 | k+1=>(pacc r xs k+piece xs k)*r % PP
def Kt (key xs:LI):LI:=leB 16 (pacc (nv (WM key)) xs ((xs.length+15) / 16)+nv (key.drop 16))
theorem xE (key xs:LI):(Kt key xs).length=16:=Vn _ _
theorem Iq (key xs:LI):U8 (Kt key xs):=VQ _ _
theorem Hv (key:LI):(WM key).length=16:=by simp[WM]
theorem rB (key:LI) (h:U8 key):U8 (WM key):=λy hy=>by
 obtain⟨i,_,rfl⟩:=List.mem_map.1 hy;have:=h.at i
 split
 ·omega
 ·split <;> omega
theorem JK:PP+5=2^130:=by decide +kernel
theorem Sn (low high:Nat):(low+5*high) % PP=(low+2^130*high) % PP:=by
 rw[<-JK,Nat.add_mul,show low+(PP*high+5*high)=low+5*high+PP*high by omega,Nat.add_mul_mod_self_left]
theorem jj (x:Nat) (h:x<2^130):x % PP=if x<PP then x else x - PP:=by
 have h1:=JK
 have h2:5<PP:=by decide
 by_cases hx:x<PP
 ·rw[if_pos hx,Nat.mod_eq_of_lt hx]
 ·rw[if_neg hx,Nat.mod_eq_sub_mod (by omega),Nat.mod_eq_of_lt (by omega)]
def flN (n:Nat):Nat:=(16 - n % 16) % 16
def fl (b:LI):LI:=b++List.replicate (flN b.length) 0
def Uv (ad c:LI):LI:=((fl ad++fl c)++leB 8 ad.length)++leB 8 c.length
def WQ (key nonce:LI):LI:=(Yk key 0 nonce).take 32
def UV (key nonce ad c:LI):LI:=Kt (WQ key nonce) (Uv ad c)
def YG (key nonce ad p:LI):LI:=Q8 key 1 nonce p++UV key nonce ad (Q8 key 1 nonce p)
def Wq (key nonce s:LI):LI:=Q8 key 1 nonce (s.take (s.length - 16))
abbrev Uc (key nonce ad s:LI):Prop:=UV key nonce ad (s.take (s.length - 16))=s.drop (s.length - 16)
theorem X7 (n:Nat):flN n<=15:=by unfold flN;omega
theorem Gk (b:LI):(fl b).length=b.length+flN b.length:=by simp[fl]
theorem fl_u8 (b:LI) (h:U8 b):U8 (fl b):=h.app (λy hy=>by have:=List.eq_of_mem_replicate hy;omega)
theorem LW (ad c:LI) (ha:U8 ad) (hc:U8 c):U8 (Uv ad c):=(((fl_u8 ad ha).app (fl_u8 c hc)).app (VQ _ _)).app (VQ _ _)
theorem Rj (ad c:LI):(Uv ad c).length<=ad.length+c.length+46:=by
 have h1:=X7 ad.length;have h2:=X7 c.length;simp only[Uv,Qb,Gk,Vn];omega
theorem TF (key nonce:LI):(WQ key nonce).length=32:=by rw[WQ,Qg,Ky];rfl
theorem Dd (key nonce:LI):U8 (WQ key nonce):=(Jm _ _ _).take _
theorem Ko (key nonce ad c:LI):(UV key nonce ad c).length=16:=xE _ _
theorem Pd (key nonce ad c:LI):U8 (UV key nonce ad c):=Iq _ _
theorem VJ (key nonce ad p:LI):(YG key nonce ad p).length=p.length+16:=by rw[YG,Qb,YP,Ko]
theorem NL (key nonce ad p:LI) (h:U8 p):U8 (YG key nonce ad p):=(NV _ _ _ _ h).app (Pd _ _ _ _)
theorem Ln (key nonce ad p:LI):(YG key nonce ad p).take p.length=Q8 key 1 nonce p:=by
 rw[YG,List.take_append_of_le_length (by rw[YP];exact Zu),List.take_of_length_le (by rw[YP];exact Zu)]
theorem jA (key nonce ad p:LI):(YG key nonce ad p).drop p.length=UV key nonce ad (Q8 key 1 nonce p):=by
 rw[YG,List.drop_append_of_le_length (by rw[YP];exact Zu),List.drop_of_length_le (by rw[YP];exact Zu),List.nil_append]
theorem px (key nonce ad p:LI):Uc key nonce ad (YG key nonce ad p):=by
 unfold Uc;rw[VJ,Nat.add_sub_cancel,Ln,jA]
theorem th (key nonce ad p:LI) (h:U8 p):Wq key nonce (YG key nonce ad p)=p:=by
 unfold Wq;rw[VJ,Nat.add_sub_cancel,Ln,uJ _ _ _ _ h]
theorem rP (n x:Nat):leB (n+1) x=leB n x++[((x / 256^n % 256:Nat):Int)]:=by
 induction n generalizing x with
 | zero=>simp[leB]
 | succ n ih =>
  show ((x % 256:Nat):Int) :: leB (n+1) (x / 256)=((x % 256:Nat):Int) :: leB n (x / 256)++_
  rw[ih,Nat.div_div_eq_div_mul,Nat.pow_succ,Nat.mul_comm (256^n) 256];rfl
theorem OY (m k:Nat):((m / 256^k % 256:Nat):Int)=(m:Int) / 2^(8*k) % 256:=by
 have h:(256:Nat)^k=2^(8*k):=by rw[Nat.pow_mul]
 rw[h];simp
theorem Only.fresh {lo:Nat} {a b c:World} (h:N0 a b) (hl:a.heap.size<=lo) (k:Only (λk=>lo<=k) b c):N0 a c:=h.trans k (λi hi e=>by omega)
theorem wj (n:Nat) (hn:n<=1000000000000) (w:World):Calls prog 159 #[.int .i64 (n:Int)] w λe w'=>e=.returned (.int .i64 ((flN n:Nat):Int))∧w=w':=by
 obtain⟨r,hr⟩:=EX (n % 16)
 have e1:(n:Int) % 16=(r:Int):=by omega
 have hr16:r<16:=by omega
 have HF:Hid (flN n=(16 - r) % 16):=by show _=_;unfold flN;rw[hr]
 clear hr;go_enter func159,ntmps159;go_wp2;go_ret;refine⟨YN ?_,rfl⟩;rw[HF.o];omega
theorem F4 (v:Value) (lo n m:Nat) (xs:LI) (hm:m<=1000000000000) (hn:n<=1000000000000) (w:World) (h0:w.ownsRow lo 5 1 v n (bl xs)) (hlo:lo<=w.heap.size) :
 Calls prog 160 #[v,.int .i64 (m:Int)] w λe w'=>∃v',e=.returned v'∧w'.ownsRow lo 5 1 v' (n+8) (bl (xs++leB 8 m))∧Only (λk=>lo<=k) w w':=by
 obtain⟨i0,hi,hz0,hz1,hz2⟩:=info_parts Tryz.infoU8
 have S0:Hid (w.ownsRow lo 5 1 v (n+0) (bl (xs++leB 0 m))):=by
  show World.ownsRow _ _ _ _ _ _ _
  rw[show leB 0 m=[] from rfl,List.append_nil];exact h0
 clear h0;go_enter func160,ntmps160;go_wp2
 go_loopw [0,6] (λo i wr=>∃k:Nat,k<=8∧i=.int .i64 k∧wr.ownsRow lo 5 1 o (n+k) (bl (xs++leB k m))∧Only (λk=>lo<=k) w wr) (λ_ i _=>8 - (intOf i).toNat)
 case atStart=>exact⟨0,by omega,rfl,S0.o,VG⟩
 case round =>
  obtain⟨k,hk,rfl,h0,h2⟩:=hrel;have hsz:=h2.size
  by_cases hlt:k<8
  ·obtain⟨ao1,cap1,rfl⟩:=QK h0
   have HX:Hid (bl (xs++leB (k+1) m)=bl (xs++leB k m)++[(m:Int) / 2^(8*k) % 256].map (Value.int .u8)):=by
    show _=_
    rw[rP,OY,<-List.append_assoc];exact List.map_append ..
   obtain⟨L,hL⟩:=EX (bl (xs++leB k m));rw[<-hL] at h0 HX;have h1:=Qa h0;have h3:=Qa h2;obtain⟨s,hs⟩:=EX (8*k)
   have s2:(k:Int)*8=(s:Int):=by omega
   have s3:(s:Int)<=56:=by omega
   rw[<-hs] at HX;obtain⟨q,hq⟩:=EX (n+k)
   have hql:q<=1000000000100:=by omega
   rw[<-hq] at h1 ⊢;obtain⟨x,hx⟩:=EX ((m:Int) / 2^s % 256);have BL:=Qa (Bs.litN .u8 wr 5 [(m:Int) / 2^s % 256] _ _ rfl rfl);have HQ:=Qa hq;clear h0 h2 hs hL hx hq;go_wp2_with (at_builtin;refine Yr _ rfl _ _ 23 rfl lo 5 i0 (.int .u8 0) 1 underlying23 hi hz0 hz1 hz2 rfl _ q L rfl (h1.o.alloc _) .u8 _ [(m:Int) / 2^s % 256] rfl BL.o (NoCap.some _ _ _) (by simp[maxLen];omega) (by simp;omega) (by simp;omega) ?_;intro v' w3 hown' hgrow2 hnil2 hob2)
   have M1:Hid (w3.ownsRow lo 5 1 v' (n+(k+1)) (bl (xs++leB (k+1) m))∧Only (λk=>lo<=k) w w3):=by
    refine⟨?_,(h3.o.alloc _).grown hgrow2 (λj hj e=>(h1.o.lt j e).1)⟩;rw[HX.o,show n+(k+1)=q+1 by rw[HQ.o];omega];exact hown'
   clear hown' hgrow2 hnil2 hob2 h1 h3 BL HX;go_wp2
   go_roundw
   case rel=>exact⟨k+1,by omega,by go_num,M1.o⟩
   case measure=>simp[intOf];omega
  ·obtain rfl:k=8:=by omega
   have F1:=Qa (Vz h0 h2);clear h0 h2;go_wp2;go_ret;exact⟨_,rfl,F1.o⟩
def pfl (ls:Nat->LI):Nat->LI
 | 0=>[]
 | k+1=>pfl ls k++fl (ls k)
def pln (ls:Nat->LI):Nat->LI
 | 0=>[]
 | k+1=>pln ls k++leB 8 (ls k).length
def lz (w:World) (p n:Nat) (ls:Nat->LI):Prop:=∀i,i<n->∃u,w.cell? ⟨p,i,none⟩=some u∧Bs .u8 w u (ls i)∧NoCap u∧(ls i).length<=100000000000
theorem Nz {w w':World} {q:Addr} {u:Value} (h:w.cell? q=some u) (o:N0 w w'):w'.cell? q=some u:=by
 rw[<-h];exact World.cell?_of_block (o.block _ (World.block_lt_of_cell? w _ h) (λf=>f))
theorem Ov (ls:Nat->LI) (k:Nat):(pln ls k).length=8*k:=by
 induction k with
 | zero=>rfl
 | succ k ih=>rw[pln,Qb,ih,Vn];omega
theorem AX (ls:Nat->LI) (n k:Nat) (h:∀i,i<n->(ls i).length<=100000000000) (hk:k<=n):(pfl ls k).length<=100000000015*k:=by
 induction k with
 | zero=>exact Nat.zero_le _
 | succ k ih =>
  have h1:=ih (by omega);have h2:=h k (by omega);have h3:=X7 (ls k).length;rw[pfl,Qb,Gk];omega
theorem Lg (a b:LI):bl (a++b)=bl a++bl b:=List.map_append ..
theorem uq (p n:Nat) (ls:Nat->LI) (hn:n<=2) (w:World) (hp:lz w p n ls) :
 Calls prog 111 #[.slice (some ⟨p,0,none⟩) n n] w λe w'=>∃v,e=.returned v∧w'.ownsRow w.heap.size 5 1 v (pfl ls n++pln ls n).length (bl (pfl ls n++pln ls n))∧N0 w w':=by
 obtain⟨i0,hi,hz0,hz1,hz2⟩:=info_parts Tryz.infoU8;have HP:=Qa hp
 have HL:Hid (∀k,k<=n->(pfl ls k).length<=100000000015*k):=λk hk=>AX ls n k (λi hi=>by obtain⟨_,_,_,_,h⟩:=hp i hi;exact h) hk
 clear hp;go_enter func111,ntmps111;go_wp2
 go_loopw [3,10] (λo i wr=>∃k:Nat,k<=n∧i=.int .i64 k∧wr.ownsRow w.heap.size 5 1 o (pfl ls k).length (bl (pfl ls k))∧N0 w wr) (λ_ i _=>n - (intOf i).toNat)
 case atStart=>exact⟨0,by omega,rfl,Xh,VG⟩
 case round =>
  obtain⟨k,hk,rfl,h0,h4⟩:=hrel;have hsz:=h4.size
  by_cases hlt:k<n
  ·obtain⟨u,hu,h9,he,hg⟩:=HP.o k hlt
   have h6:=HL.o k hk;have hc:wr.cell? ⟨p,k,none⟩=some u:=Nz hu h4;obtain⟨ua,uc,rfl⟩:=h9.len;have BU:=Qa (Vz (h9.past h4) he)
   have HX:Hid (bl (pfl ls (k+1))=bl ((pfl ls k++ls k)++List.replicate (flN (ls k).length) 0)∧(pfl ls (k+1)).length=(pfl ls k).length+(ls k).length+flN (ls k).length):=by
    refine⟨?_,?_⟩
    ·rw[pfl,fl,List.append_assoc]
    ·rw[pfl,Qb,Gk];omega
   obtain⟨m,hm⟩:=EX ((ls k).length);have HM:=Qa hm
   have hml:m<=100000000000:=by omega
   obtain⟨q,hq⟩:=EX ((pfl ls k).length)
   have hql:q<=200000000030:=by omega
   have A:=Qa (wj m (by omega));have hf:=X7 m;rw[<-hm] at HX;obtain⟨f,hh⟩:=EX (flN m);rw[<-hh] at A HX hf;rw[<-hq] at h0 HX;rw[<-hm] at hc BU;have h8:=Qa h0;have hb:=Qa h4
   have i0':(0:Int)<=(k:Int):=by omega
   have i1:(k:Int)<(n:Int):=by omega
   have ZR:Hid (∀(v1:Value) (w1:World),w1.ownsRow w.heap.size 5 1 v1 (q+m) (bl (pfl ls k++ls k))->w.heap.size<=w1.heap.size->∃v' w',(Builtin.append_ #[23,3] 23 #[v1,.int .i64 (f:Int)]).run prog w1=.ok v' w'∧w'.ownsRow w.heap.size 5 1 v' (q+m+f) (bl ((pfl ls k++ls k)++List.replicate f 0))∧w1.grownBy w' v1.ownBlock):=λv1 w1 h1 h2=>IG w1 w.heap.size v1 (q+m) _ h1 f (by omega) h2
   clear hm hq hh h0 h4 hu h9 he hg h6
   go_wp2_with (first
    | (at_builtin;refine Yr _ rfl _ _ 23 rfl w.heap.size 5 i0 (.int .u8 0) 1 underlying23 hi hz0 hz1 hz2 rfl u3 q (bl (pfl ls k)) rfl h8.o .u8 (.slice ua m uc) (ls k) rfl BU.o.1 BU.o.2 (by rw[<-HM.o];unfold maxLen;omega) (by rw[<-HM.o];omega) (by omega) ?_;intro v1 w1 h3 hgrow1 hnil1 hob1))
   have O1:Hid (N0 w w1):=hb.o.grown hgrow1 (λj hj e=>by have:=(h8.o.lt j e).1;omega)
   have W1:Hid (w1.ownsRow w.heap.size 5 1 v1 (q+m) (bl (pfl ls k++ls k))):=by
    show World.ownsRow _ _ _ _ _ _ _
    rw[Lg,HM.o];exact h3
   clear h3 hgrow1 hnil1 hob1 h8 hb BU;refine (A.o w1).mono ?_;rintro e w2 ⟨rfl,rfl⟩;obtain⟨v3,w3,hd,h7,h5⟩:=ZR.o v1 w1 W1.o O1.o.size;go_wp2_with (first|(at_builtin;refine qf _ rfl _ _ 23 3 rfl v1 (.int .i64 (f:Int)) rfl rfl v3 w3 hd ?_))
   have N1:Hid (w3.ownsRow w.heap.size 5 1 v3 (pfl ls (k+1)).length (bl (pfl ls (k+1)))∧N0 w w3):=by
    refine⟨?_,O1.o.grown h5 (λj hj e=>by have:=(W1.o.lt j e).1;omega)⟩;rw[HX.o.1,HX.o.2];exact h7
   clear hd h7 h5 W1 O1 A ZR HX;go_wp2
   go_roundw
   case rel=>exact⟨k+1,by omega,by go_num,N1.o⟩
   case measure=>simp[intOf];omega
  ·obtain rfl:k=n:=by omega
   have h6:=HL.o k hk
   have S0:Hid (wr.ownsRow w.heap.size 5 1 u3 (pfl ls k++pln ls 0).length (bl (pfl ls k++pln ls 0))∧N0 w wr):=by
    rw[pln,List.append_nil];exact⟨h0,h4⟩
   have HLE:=Qa h6;clear h0 h4 hsz h6 HL;go_wp2
   go_loopw [3,25] (λo i wr=>∃j:Nat,j<=k∧i=.int .i64 j∧wr.ownsRow w.heap.size 5 1 o (pfl ls k++pln ls j).length (bl (pfl ls k++pln ls j))∧N0 w wr) (λ_ i _=>k - (intOf i).toNat)
   case atStart=>exact⟨0,by omega,rfl,S0.o⟩
   case round =>
    obtain⟨j,hj,rfl,h0,h4⟩:=hrel;clear S0
    by_cases hlt:j<k
    ·obtain⟨u,hu,h9,he,hg⟩:=HP.o j hlt
     have hc:wr.cell? ⟨p,j,none⟩=some u:=Nz hu h4;obtain⟨ua,uc,rfl⟩:=h9.len
     have hl:(pfl ls k++pln ls j).length<=1000000000000:=by
      have h1:=HLE.o;rw[Qb,Ov];omega
     have A:=Qa (F4 u3 w.heap.size (pfl ls k++pln ls j).length (ls j).length (pfl ls k++pln ls j) (by omega) hl wr h0 h4.size)
     have HX:Hid (pfl ls k++pln ls (j+1)=(pfl ls k++pln ls j)++leB 8 (ls j).length∧(pfl ls k++pln ls (j+1)).length=(pfl ls k++pln ls j).length+8):=by
      refine⟨?_,?_⟩
      ·rw[pln,List.append_assoc]
      ·rw[pln,<-List.append_assoc,Qb,Vn]
     have hb:=Qa h4;obtain⟨m,hm⟩:=EX ((ls j).length);rw[<-hm] at A HX hc
     have i0':(0:Int)<=(j:Int):=by omega
     have i1:(j:Int)<(k:Int):=by omega
     clear h0 h4 hu h9 he hg hl hm;go_wp2_with fail;refine A.o.mono ?_;rintro e w1 ⟨v1,rfl,h3,ha⟩
     have N1:Hid (w1.ownsRow w.heap.size 5 1 v1 (pfl ls k++pln ls (j+1)).length (bl (pfl ls k++pln ls (j+1)))∧N0 w w1):=by
      refine⟨?_,hb.o.fresh Zu ha⟩;rw[HX.o.2,HX.o.1];exact h3
     clear h3 ha HX hb A;go_wp2
     go_roundw
     case rel=>exact⟨j+1,by omega,by go_num,N1.o⟩
     case measure=>simp[intOf];omega
    ·obtain rfl:j=k:=by omega
     have F1:=Qa (Vz h0 h4);clear h0 h4;go_wp2;go_ret;exact⟨_,rfl,F1.o⟩
theorem Lj (p:Nat) (va vc:Value) (ad c:LI) (w:World) (hb:Blk w p 23 [va,vc]) (ba:Bs .u8 w va ad) (na:NoCap va) (la:ad.length<=100000000000) (bc:Bs .u8 w vc c) (nc:NoCap vc) (lc:c.length<=100000000000) :
 Calls prog 111 #[.slice (some ⟨p,0,none⟩) 2 2] w λe w'=>∃v,e=.returned v∧w'.ownsRow w.heap.size 5 1 v (Uv ad c).length (bl (Uv ad c))∧N0 w w':=by
 have h:=uq p 2 (λi=>if i=0 then ad else c) Zu w (λi hi=>by
  by_cases h0:i=0
  ·subst h0
   exact⟨va,by rw[hb.cell];rfl,ba,na,la⟩
  ·obtain rfl:i=1:=by omega
   exact⟨vc,by rw[hb.cell];rfl,bc,nc,lc⟩)
 have e:pfl (λi=>if i=0 then ad else c) 2++pln (λi=>if i=0 then ad else c) 2=Uv ad c:=by
  simp[pfl,pln,Uv]
 rw[e] at h;exact h
theorem xP (n:Nat) (h2:n<=31):bits .and .u64 (n:Int) 31=(n:Int):=by
 rw[show (31:Int)=((31:Nat):Int) from rfl,u64_and_nat _ _ (by omega) (by omega),show (31:Nat)=2^5 - 1 from rfl,Nat.and_two_pow_sub_one_eq_mod];omega
theorem yp (x s m:Nat) (hx:x<4294967296) (h1:1<=s) (h2:s<=31) (hm:m=32 - s):bits .or .u32 ((x:Int)*2^s % 4294967296) ((x:Int) / 2^(32 - s))=((rotw x m:Nat):Int):=by
 subst hm
 rw[show ((x:Int)*2^s % 4294967296)=((x*2^s % 4294967296:Nat):Int) by simp,show ((x:Int) / 2^(32 - s))=((x / 2^(32 - s):Nat):Int) by simp,
  u32_or_nat _ _ (Nat.mod_lt _ (by decide)) (J6 _ _ hx)]
 unfold rotw;rw[Nat.or_comm,show 32 - (32 - s)=s by omega]
theorem Xl (x n m:Nat) (w:World) (hx:x<4294967296) (h1:1<=n) (h2:n<=31) (hm:m=32 - n) :
 Calls prog 248 #[.int .u32 x,.int .i64 n] w λe w'=>e=.returned (.int .u32 (rotw x m:Nat))∧w=w':=by
 have hb:=xP n h2
 have hw:IntKind.u64.wrap (n:Int)=(n:Int):=by simp[IntKind.wrap,IntKind.bits,IntKind.signed];omega
 have HL:=Qa (yp x n m hx h1 h2 hm);clear hm;go_enter func248,ntmps248;go_wp2;go_ret;exact⟨YN HL.o,rfl⟩
theorem Zw (a b:Nat):IntKind.u32.wrap ((a:Int)+(b:Int))=(((a+b) % 4294967296:Nat):Int):=by
 rw[IntKind.wrap_u32'];omega
theorem tG {fn:Func} {a b c d:Tmp} (h:fn.results=#[.tmp a,.tmp b,.tmp c,.tmp d]) (tmps:Array Value) (P:Program) (w:World):(results fn tmps).run P w=.ok (.tuple #[tmps.getD a undef,tmps.getD b undef,tmps.getD c undef,tmps.getD d undef]) w:=by
 simp[results,h]
def q4v (q:Q4):Value:=.tuple #[.int .u32 (q.a:Nat),.int .u32 (q.b:Nat),.int .u32 (q.c:Nat),.int .u32 (q.d:Nat)]
structure Steps (a b c d a1 x1 d1 c1 x2 b1 a2 x3 d2 c2 x4 b2:Nat):Prop where
 s1:IntKind.u32.wrap ((a:Int)+(b:Int))=(a1:Int)
 s2:bits .xor .u32 (d:Int) (a1:Int)=(x1:Int)
 s3:d1=rotw x1 16
 s4:IntKind.u32.wrap ((c:Int)+(d1:Int))=(c1:Int)
 s5:bits .xor .u32 (b:Int) (c1:Int)=(x2:Int)
 s6:b1=rotw x2 20
 s7:IntKind.u32.wrap ((a1:Int)+(b1:Int))=(a2:Int)
 s8:bits .xor .u32 (d1:Int) (a2:Int)=(x3:Int)
 s9:d2=rotw x3 24
 s10:IntKind.u32.wrap ((c1:Int)+(d2:Int))=(c2:Int)
 s11:bits .xor .u32 (b1:Int) (c2:Int)=(x4:Int)
 s12:b2=rotw x4 25
 l1:x1<4294967296
 l2:x2<4294967296
 l3:x3<4294967296
 l4:x4<4294967296
 q:qrt ⟨a,b,c,d⟩=⟨a2,b2,c2,d2⟩
theorem steps (a b c d:Nat) (_ha:a<4294967296) (hb:b<4294967296) (_hc:c<4294967296) (hd:d<4294967296):∃a1 x1 d1 c1 x2 b1 a2 x3 d2 c2 x4 b2,Steps a b c d a1 x1 d1 c1 x2 b1 a2 x3 d2 c2 x4 b2:=by
 have la:(a+b) % 4294967296<4294967296:=Nat.mod_lt _ (by decide);have l1:=Wn hd la;have ld:=YO _ 16 l1;have lc:(c+rotw (d ^^^ ((a+b) % 4294967296)) 16) % 4294967296<4294967296:=Nat.mod_lt _ (by decide);have l2:=Wn hb lc;have lb:=YO _ 20 l2;have h0:((a+b) % 4294967296+rotw (b ^^^ ((c+rotw (d ^^^ ((a+b) % 4294967296)) 16) % 4294967296)) 20) % 4294967296<4294967296:=Nat.mod_lt _ (by decide);have l3:=Wn ld h0;have ld2:=YO _ 24 l3;have h1:((c+rotw (d ^^^ ((a+b) % 4294967296)) 16) % 4294967296+rotw (rotw (d ^^^ ((a+b) % 4294967296)) 16 ^^^ (((a+b) % 4294967296+rotw (b ^^^ ((c+rotw (d ^^^ ((a+b) % 4294967296)) 16) % 4294967296)) 20) % 4294967296)) 24) % 4294967296<4294967296:=Nat.mod_lt _ (by decide);have l4:=Wn lb h1;exact⟨_,_,_,_,_,_,_,_,_,_,_,_,Zw _ _,u32_xor_nat _ _ hd la,rfl,Zw _ _,u32_xor_nat _ _ hb lc,rfl,Zw _ _,u32_xor_nat _ _ ld h0,rfl,Zw _ _,u32_xor_nat _ _ lb h1,rfl,l1,l2,l3,l4,rfl⟩
theorem Fa (a b c d:Nat) (w:World) (ha:a<4294967296) (hb:b<4294967296) (hc:c<4294967296) (hd:d<4294967296) :
 Calls prog 229 #[.int .u32 a,.int .u32 b,.int .u32 c,.int .u32 d] w λe w'=>e=.returned (q4v (qrt ⟨a,b,c,d⟩))∧w=w':=by
 obtain⟨a1,x1,d1,c1,x2,b1,a2,x3,d2,c2,x4,b2,S⟩:=steps a b c d ha hb hc hd;have A:=Qa (Xl x1 16 16 w S.l1 (by decide) (by decide) rfl);have B:=Qa (Xl x2 12 20 w S.l2 (by decide) (by decide) rfl);have C:=Qa (Xl x3 8 24 w S.l3 (by decide) (by decide) rfl);have D:=Qa (Xl x4 7 25 w S.l4 (by decide) (by decide) rfl);rw[<-S.s3] at A;rw[<-S.s6] at B;rw[<-S.s9] at C;rw[<-S.s12] at D;rw[S.q];obtain⟨s1,s2,-,s4,s5,-,s7,s8,-,s10,s11,-,-,-,-,-,-⟩:=S;clear ha hb hc hd;go_enter func229,ntmps229;go_wp2_with fail;refine A.o.mono ?_;rintro e w1 ⟨rfl,rfl⟩;go_wp2_with fail;refine B.o.mono ?_;rintro e w1 ⟨rfl,rfl⟩;go_wp2_with fail;refine C.o.mono ?_;rintro e w1 ⟨rfl,rfl⟩;go_wp2_with fail;refine D.o.mono ?_;rintro e w1 ⟨rfl,rfl⟩;go_wp2
 try simp only[Exit.inBlock,Exit.then]
 exact bodyPost_ret (tG rfl _ _ _) rfl ⟨rfl,rfl⟩
section
set_option linter.unusedSimpArgs false
theorem Bw {T G:Prop} (h:T->G) (t:T):G:=h t
theorem vj {P:Program} {md:Region.Mode} {ops:Array Oper} {Q:Exit->Act->World->Prop} {n:Nat} {l l':Array Bool} {a:Act} {w:World} (e:l=l') (h:wpAny P md ops Q n l' a w):wpAny P md ops Q n l a w:=by rw[e];exact h
theorem qB (g i j k l a b c d qa qb qc qd:Nat) (w:World)
 (hi:(i:Int)<16) (hj:(j:Int)<16) (hk:(k:Int)<16) (hl:(l:Int)<16) (hi0:(0:Int)<=i) (hj0:(0:Int)<=j) (hk0:(0:Int)<=k) (hl0:(0:Int)<=l)
 (QA:Hid (∀W:World,Calls prog 229 #[.int .u32 a,.int .u32 b,.int .u32 c,.int .u32 d] W λe w'=>e=.returned (.tuple #[.int .u32 (qa:Nat),.int .u32 (qb:Nat),.int .u32 (qc:Nat),.int .u32 (qd:Nat)])∧W=w'))
 (ci:w.cell? ⟨g,i,none⟩=some (.int .u32 a)) (cj:w.cell? ⟨g,j,none⟩=some (.int .u32 b)) (ck:w.cell? ⟨g,k,none⟩=some (.int .u32 c)) (cl:w.cell? ⟨g,l,none⟩=some (.int .u32 d))
 (nij:¬i=j) (nik:¬i=k) (nil:¬i=l) (njk:¬j=k) (njl:¬j=l) (nkl:¬k=l)
 (fi:∀n,w.frozen? ⟨g,n,none⟩=false) :
 Calls prog 228 #[.int .i64 i,.int .i64 j,.int .i64 k,.int .i64 l,.pointer (some ⟨g,0,none⟩)] w λe w'=>e=.returned (.tuple #[])∧w'=((((w.drew.setCell ⟨g,i,none⟩ (.int .u32 qa)).setCell ⟨g,j,none⟩ (.int .u32 qb)).setCell ⟨g,k,none⟩ (.int .u32 qc)).setCell ⟨g,l,none⟩ (.int .u32 qd)):=by
 have f0:=fi i;have f1:=fi j;have f2:=fi k;have f3:=fi l;clear fi;go_enter func228,ntmps228;refine wp_region_any (by kernel_rfl) ?_
 change wpAny _ _ _ _ _ _ _ (World.drew _)
 refine wpAny_take (i:=0) (v:=?v0) rfl (by kernel_rfl) (by kernel_rfl) (by kernel_rfl) (λ_ _ _ h=>h) (Or.inl ⟨by rfl,?h0⟩) ?r0
 case h0=>(intro w;go_simp;try with_reducible rfl)
 try simp only[Act.put,Qq,Qn,Qo]
 refine wpAny_take (i:=1) (v:=?v1) rfl (by kernel_rfl) (by kernel_rfl) (by kernel_rfl) (λ_ _ _ h=>h) (Or.inl ⟨by rfl,?h1⟩) ?r1
 case h1=>(intro w;go_simp;try with_reducible rfl)
 try simp only[Act.put,Qq,Qn,Qo]
 refine wpAny_take (i:=2) (v:=?v2) rfl (by kernel_rfl) (by kernel_rfl) (by kernel_rfl) (λ_ _ _ h=>h) (Or.inl ⟨by rfl,?h2⟩) ?r2
 case h2=>(intro w;go_simp;try with_reducible rfl)
 try simp only[Act.put,Qq,Qn,Qo]
 refine wpAny_take (i:=3) (v:=?v3) rfl (by kernel_rfl) (by kernel_rfl) (by kernel_rfl) (λ_ _ _ h=>h) (Or.inl ⟨by rfl,?h3⟩) ?r3
 case h3=>(intro w;go_simp;try with_reducible rfl)
 try simp only[Act.put,Qq,Qn,Qo]
 refine wpAny_take (i:=4) (v:=?v4) rfl (by kernel_rfl) (by kernel_rfl) (by kernel_rfl) (λ_ _ _ h=>h) (Or.inl ⟨by rfl,?h4⟩) ?r4
 case h4=>(intro w;go_simp;try with_reducible rfl)
 try simp only[Act.put,Qq,Qn,Qo]
 refine wpAny_take (i:=5) (v:=?v5) rfl (by kernel_rfl) (by kernel_rfl) (by kernel_rfl) (λ_ _ _ h=>h) (Or.inl ⟨by rfl,?h5⟩) ?r5
 case h5=>(intro w;go_simp;try with_reducible rfl)
 try simp only[Act.put,Qq,Qn,Qo]
 refine wpAny_take (i:=7) (v:=?v7) rfl (by kernel_rfl) (by kernel_rfl) (by kernel_rfl) (λ_ _ _ h=>h) (Or.inl ⟨by rfl,?h7⟩) ?r7
 case h7=>(intro w;go_simp;try with_reducible rfl)
 try simp only[Act.put,Qq,Qn,Qo]
 refine wpAny_take (i:=8) (v:=?v8) rfl (by kernel_rfl) (by kernel_rfl) (by kernel_rfl) (λ_ _ _ h=>h) (Or.inl ⟨by rfl,?h8⟩) ?r8
 case h8=>(intro w;go_simp;try with_reducible rfl)
 try simp only[Act.put,Qq,Qn,Qo]
 refine wpAny_take (i:=10) (v:=?v10) rfl (by kernel_rfl) (by kernel_rfl) (by kernel_rfl) (λ_ _ _ h=>h) (Or.inl ⟨by rfl,?h10⟩) ?r10
 case h10=>(intro w;go_simp;try with_reducible rfl)
 try simp only[Act.put,Qq,Qn,Qo]
 refine wpAny_take (i:=11) (v:=?v11) rfl (by kernel_rfl) (by kernel_rfl) (by kernel_rfl) (λ_ _ _ h=>h) (Or.inl ⟨by rfl,?h11⟩) ?r11
 case h11=>(intro w;go_simp;try with_reducible rfl)
 try simp only[Act.put,Qq,Qn,Qo]
 refine wpAny_take (i:=13) (v:=?v13) rfl (by kernel_rfl) (by kernel_rfl) (by kernel_rfl) (λ_ _ _ h=>h) (Or.inl ⟨by rfl,?h13⟩) ?r13
 case h13=>(intro w;go_simp;try with_reducible rfl)
 try simp only[Act.put,Qq,Qn,Qo]
 refine wpAny_take (i:=14) (v:=?v14) rfl (by kernel_rfl) (by kernel_rfl) (by kernel_rfl) (λ_ _ _ h=>h) (Or.inl ⟨by rfl,?h14⟩) ?r14
 case h14=>(intro w;go_simp;try with_reducible rfl)
 try simp only[Act.put,Qq,Qn,Qo]
 refine Bw (T:=?T) (λREST=>?main) ?rest
 case main =>
  repeat' (first
   | (have _:True:=(λ_=>trivial) hK;rw[if_pos (by rfl)];go_simp;refine hK _ _ ?_;clear hK K;try simp only[Act.put,Qq,Qn,Qo])
   | (have _:=ha;have _:=hb;have _:=h6;have _:=h9;refine vj (l':=#[true,true,true,true,true,true,true,true,true,true,true,true,true,true,true,true,false,false,false,false,false,false,false,false,false,false,false,false,false,false]) (by kernel_rfl) ?_;exact REST)
   | (have _:=ha;have _:=hb;have _:=h6;refine wpAny_ready (rs:=[15]) (by kernel_rfl) (by simp) ?_;refine AllReady.cons rfl (λK hK=>?_) AllReady.nil;have h9:=trivial)
   | (have _:=ha;have _:=hb;have _:=h9;refine wpAny_ready (rs:=[12]) (by kernel_rfl) (by simp) ?_;refine AllReady.cons rfl (λK hK=>?_) AllReady.nil;have h6:=trivial)
   | (have _:=ha;have _:=h6;have _:=h9;refine wpAny_ready (rs:=[9]) (by kernel_rfl) (by simp) ?_;refine AllReady.cons rfl (λK hK=>?_) AllReady.nil;have hb:=trivial)
   | (have _:=hb;have _:=h6;have _:=h9;refine wpAny_ready (rs:=[6]) (by kernel_rfl) (by simp) ?_;refine AllReady.cons rfl (λK hK=>?_) AllReady.nil;have ha:=trivial)
   | (have _:=ha;have _:=hb;refine wpAny_ready (rs:=[12,15]) (by kernel_rfl) (by simp) ?_;refine AllReady.cons rfl (λK hK=>?_) (AllReady.cons rfl (λK hK=>?_) AllReady.nil);have h6:=trivial;rotate_left;have h9:=trivial)
   | (have _:=ha;have _:=h6;refine wpAny_ready (rs:=[9,15]) (by kernel_rfl) (by simp) ?_;refine AllReady.cons rfl (λK hK=>?_) (AllReady.cons rfl (λK hK=>?_) AllReady.nil);have hb:=trivial;rotate_left;have h9:=trivial)
   | (have _:=ha;have _:=h9;refine wpAny_ready (rs:=[9,12]) (by kernel_rfl) (by simp) ?_;refine AllReady.cons rfl (λK hK=>?_) (AllReady.cons rfl (λK hK=>?_) AllReady.nil);have hb:=trivial;rotate_left;have h6:=trivial)
   | (have _:=hb;have _:=h6;refine wpAny_ready (rs:=[6,15]) (by kernel_rfl) (by simp) ?_;refine AllReady.cons rfl (λK hK=>?_) (AllReady.cons rfl (λK hK=>?_) AllReady.nil);have ha:=trivial;rotate_left;have h9:=trivial)
   | (have _:=hb;have _:=h9;refine wpAny_ready (rs:=[6,12]) (by kernel_rfl) (by simp) ?_;refine AllReady.cons rfl (λK hK=>?_) (AllReady.cons rfl (λK hK=>?_) AllReady.nil);have ha:=trivial;rotate_left;have h6:=trivial)
   | (have _:=h6;have _:=h9;refine wpAny_ready (rs:=[6,9]) (by kernel_rfl) (by simp) ?_;refine AllReady.cons rfl (λK hK=>?_) (AllReady.cons rfl (λK hK=>?_) AllReady.nil);have ha:=trivial;rotate_left;have hb:=trivial)
   | (have _:=ha;refine wpAny_ready (rs:=[9,12,15]) (by kernel_rfl) (by simp) ?_;refine AllReady.cons rfl (λK hK=>?_) (AllReady.cons rfl (λK hK=>?_) (AllReady.cons rfl (λK hK=>?_) AllReady.nil));have hb:=trivial;rotate_left;have h6:=trivial;rotate_left;have h9:=trivial)
   | (have _:=hb;refine wpAny_ready (rs:=[6,12,15]) (by kernel_rfl) (by simp) ?_;refine AllReady.cons rfl (λK hK=>?_) (AllReady.cons rfl (λK hK=>?_) (AllReady.cons rfl (λK hK=>?_) AllReady.nil));have ha:=trivial;rotate_left;have h6:=trivial;rotate_left;have h9:=trivial)
   | (have _:=h6;refine wpAny_ready (rs:=[6,9,15]) (by kernel_rfl) (by simp) ?_;refine AllReady.cons rfl (λK hK=>?_) (AllReady.cons rfl (λK hK=>?_) (AllReady.cons rfl (λK hK=>?_) AllReady.nil));have ha:=trivial;rotate_left;have hb:=trivial;rotate_left;have h9:=trivial)
   | (have _:=h9;refine wpAny_ready (rs:=[6,9,12]) (by kernel_rfl) (by simp) ?_;refine AllReady.cons rfl (λK hK=>?_) (AllReady.cons rfl (λK hK=>?_) (AllReady.cons rfl (λK hK=>?_) AllReady.nil));have ha:=trivial;rotate_left;have hb:=trivial;rotate_left;have h6:=trivial)
   | (refine wpAny_ready (rs:=[6,9,12,15]) (by kernel_rfl) (by simp) ?_;refine AllReady.cons rfl (λK hK=>?_) (AllReady.cons rfl (λK hK=>?_) (AllReady.cons rfl (λK hK=>?_) (AllReady.cons rfl (λK hK=>?_) AllReady.nil)));have ha:=trivial;rotate_left;have hb:=trivial;rotate_left;have h6:=trivial;rotate_left;have h9:=trivial))
 case rest =>
  refine wpAny_ready (rs:=[16]) (by kernel_rfl) (by simp) ?_;refine AllReady.cons rfl (λK hK=>?_) AllReady.nil
  go_simp
  go_wp2_with (go_at_call 229;refine (QA.o _).mono ?_;rintro e w2 ⟨rfl,rfl⟩);refine wpAny_take (i:=17) (v:=?v17) rfl (by kernel_rfl) (by kernel_rfl) (by kernel_rfl) (λ_ _ _ h=>h) (Or.inl ⟨by rfl,?h17⟩) ?r17
  case h17=>(intro w;go_simp;try with_reducible rfl)
  try simp only[Act.put,Qq,Qn,Qo]
  refine wpAny_take (i:=18) (v:=?v18) rfl (by kernel_rfl) (by kernel_rfl) (by kernel_rfl) (λ_ _ _ h=>h) (Or.inl ⟨by rfl,?h18⟩) ?r18
  case h18=>(intro w;go_simp;try with_reducible rfl)
  try simp only[Act.put,Qq,Qn,Qo]
  refine wpAny_take (i:=19) (v:=?v19) rfl (by kernel_rfl) (by kernel_rfl) (by kernel_rfl) (λ_ _ _ h=>h) (Or.inl ⟨by rfl,?h19⟩) ?r19
  case h19=>(intro w;go_simp;try with_reducible rfl)
  try simp only[Act.put,Qq,Qn,Qo]
  refine wpAny_take (i:=20) (v:=?v20) rfl (by kernel_rfl) (by kernel_rfl) (by kernel_rfl) (λ_ _ _ h=>h) (Or.inl ⟨by rfl,?h20⟩) ?r20
  case h20=>(intro w;go_simp;try with_reducible rfl)
  try simp only[Act.put,Qq,Qn,Qo]
  refine wpAny_take (i:=21) (v:=?v21) rfl (by kernel_rfl) (by kernel_rfl) (by kernel_rfl) (λ_ _ _ h=>h) (Or.inl ⟨by rfl,?h21⟩) ?r21
  case h21=>(intro w;go_simp;try with_reducible rfl)
  try simp only[Act.put,Qq,Qn,Qo]
  refine wpAny_take (i:=22) (v:=?v22) rfl (by kernel_rfl) (by kernel_rfl) (by kernel_rfl) (λ_ _ _ h=>h) (Or.inl ⟨by rfl,?h22⟩) ?r22
  case h22=>(intro w;go_simp;try with_reducible rfl)
  try simp only[Act.put,Qq,Qn,Qo]
  refine wpAny_ready (rs:=[23]) (by kernel_rfl) (by simp) ?_;refine AllReady.cons rfl (λK hK=>?_) AllReady.nil;rw[if_pos (by rfl)]
  go_simp
  refine hK _ _ ?_;clear hK K;refine wpAny_take (i:=24) (v:=?v24) rfl (by kernel_rfl) (by kernel_rfl) (by kernel_rfl) (λ_ _ _ h=>h) (Or.inl ⟨by rfl,?h24⟩) ?r24
  case h24=>(intro w;go_simp;try with_reducible rfl)
  try simp only[Act.put,Qq,Qn,Qo]
  refine wpAny_ready (rs:=[25]) (by kernel_rfl) (by simp) ?_;refine AllReady.cons rfl (λK hK=>?_) AllReady.nil;rw[if_pos (by rfl)]
  go_simp
  refine hK _ _ ?_;clear hK K;refine wpAny_take (i:=26) (v:=?v26) rfl (by kernel_rfl) (by kernel_rfl) (by kernel_rfl) (λ_ _ _ h=>h) (Or.inl ⟨by rfl,?h26⟩) ?r26
  case h26=>(intro w;go_simp;try with_reducible rfl)
  try simp only[Act.put,Qq,Qn,Qo]
  refine wpAny_ready (rs:=[27]) (by kernel_rfl) (by simp) ?_;refine AllReady.cons rfl (λK hK=>?_) AllReady.nil;rw[if_pos (by rfl)]
  go_simp
  refine hK _ _ ?_;clear hK K;refine wpAny_take (i:=28) (v:=?v28) rfl (by kernel_rfl) (by kernel_rfl) (by kernel_rfl) (λ_ _ _ h=>h) (Or.inl ⟨by rfl,?h28⟩) ?r28
  case h28=>(intro w;go_simp;try with_reducible rfl)
  try simp only[Act.put,Qq,Qn,Qo]
  refine wpAny_ready (rs:=[29]) (by kernel_rfl) (by simp) ?_;refine AllReady.cons rfl (λK hK=>?_) AllReady.nil;rw[if_pos (by rfl)]
  go_simp
  refine hK _ _ ?_;clear hK K;refine wpAny_done (by kernel_rfl) ?_ _
  go_end0
  exact⟨rfl,rfl⟩
end
theorem tclo (g:Nat) (s:List Nat) (hs:s.length=16) (h32:W32 s) (i j k l:Nat) (hi:i<16) (hj:j<16) (hk:k<16) (hl:l<16)
 (nij:¬i=j) (nik:¬i=k) (nil:¬i=l) (njk:¬j=k) (njl:¬j=l) (nkl:¬k=l) (w:World) (hb:Blk w g 190 (wl s)) :
 Calls prog 228 #[.int .i64 i,.int .i64 j,.int .i64 k,.int .i64 l,.pointer (some ⟨g,0,none⟩)] w λe w'=>e=.returned (.tuple #[])∧Blk w' g 190 (wl (turnW s i j k l))∧Only (λx=>x=g) w w':=by
 have hc:∀n,n<16->w.cell? ⟨g,n,none⟩=some (.int .u32 ((s.getD n 0:Nat):Int)):=λn hn=>by rw[hb.cell,wl_at s n (by omega)]
 have QA:Hid (∀W:World,Calls prog 229 #[.int .u32 (s.getD i 0:Nat),.int .u32 (s.getD j 0:Nat),.int .u32 (s.getD k 0:Nat),.int .u32 (s.getD l 0:Nat)] W λe w'=>e=.returned (q4v (qrt ⟨s.getD i 0,s.getD j 0,s.getD k 0,s.getD l 0⟩))∧W=w') :=
  λW=>Fa _ _ _ _ W (h32.at i) (h32.at j) (h32.at k) (h32.at l)
 refine (qB g i j k l _ _ _ _ _ _ _ _ w (by omega) (by omega) (by omega) (by omega) (by omega) (by omega) (by omega) (by omega) QA (hc i hi) (hc j hj) (hc k hk) (hc l hl) nij nik nil njk njl nkl (λn=>hb.froz n)).mono ?_;rintro e w' ⟨rfl,rfl⟩;refine⟨rfl,?_,?_⟩
 ·have h:=(((hb.drew.set i (.int .u32 ((qrt ⟨s.getD i 0,s.getD j 0,s.getD k 0,s.getD l 0⟩).a:Nat))).set j (.int .u32 ((qrt ⟨s.getD i 0,s.getD j 0,s.getD k 0,s.getD l 0⟩).b:Nat))).set k (.int .u32 ((qrt ⟨s.getD i 0,s.getD j 0,s.getD k 0,s.getD l 0⟩).c:Nat))).set l (.int .u32 ((qrt ⟨s.getD i 0,s.getD j 0,s.getD k 0,s.getD l 0⟩).d:Nat))
  rw[Wc,Wc,Wc,Wc] at h;exact h
 ·exact (((((Only.refl (λx=>x=g) w).drew).setCell (p:=⟨g,i,none⟩) (λ_=>rfl) _).setCell (p:=⟨g,j,none⟩) (λ_=>rfl) _).setCell (p:=⟨g,k,none⟩) (λ_=>rfl) _).setCell (p:=⟨g,l,none⟩) (λ_=>rfl) _
theorem OL (s:List Nat) (i j k l:Nat):turnP s (i,j,k,l)=turnW s i j k l:=rfl
theorem Fq {s0 s1 s2 s3 s4 s5 s6 s7 s8:List Nat} (h1:s1=turnW s0 0 4 8 12) (h2:s2=turnW s1 1 5 9 13) (h3:s3=turnW s2 2 6 10 14) (h4:s4=turnW s3 3 7 11 15) (h5:s5=turnW s4 0 5 10 15) (h6:s6=turnW s5 1 6 11 12) (h7:s7=turnW s6 2 7 8 13) (h8:s8=turnW s7 3 4 9 14):dblR s0=s8:=by
 rw[h8,h7,h6,h5,h4,h3,h2,h1];simp only[dblR,fours,List.foldl_cons,List.foldl_nil,OL]
theorem Tryz.size44:(prog.info? 190).map (·.size)=some 16:=by kernel_rfl
def zW:List Value:=wl (List.replicate 16 0)
theorem Tryz.zero44:(prog.info? 190).map (λi=>(i.zero,i.size))=some (some (.agg zW.toArray),16):=by kernel_rfl
theorem JX:zW.length=16:=rfl
theorem Og (s:List Nat) (hs:s.length=16) (h32:W32 s) (w:World):Calls prog 195 #[.agg (wl s).toArray] w λe w'=>e=.returned (.agg (wl (dbls 10 s)).toArray)∧N0 w w':=by
 have hmf:∀(fn:Fn) (first cap:Array Value) (w:World),(Instr.makeFunc fn first cap).run prog w=.ok (.func fn first cap) w:=λ_ _ _ _=>rfl
 have hk:=(zero_of_info (P:=prog) Tryz.zero44).1;obtain⟨Z,hZ⟩:=EX zW;rw[<-hZ] at hk;have HZ:=Qa hZ;obtain⟨D,hD⟩:=EX (wl (dbls 10 s))
 have hh:Hid ((prog.info? 190).map (·.size)=some D.toArray.size):=by
  show _=_
  rw[hD];simp[QV,Xc,hs,Tryz.size44]
 have HZ2:Hid (Z.toArray.size=D.toArray.size):=by
  show _=_
  rw[hD,hZ];simp[QV,Xc,hs,JX]
 have HA:Hid (D.toArray.all (·.oneCell')=true):=by
  show _=_
  rw[hD];exact UC _
 rw[<-hD];have HD:=Qa hD;have HS:=Qa (Vz hs h32);obtain⟨B,hB⟩:=EX (wl s);have HB:=Qa hB;rw[<-hB];clear hZ hD hB hs h32;go_enter func195,ntmps195;go_wp2_with fail
 have S0:Hid (Blk ((w.alloc (.cells B.toArray 190)).alloc (.cells Z.toArray 190)) w.heap.size 190 (wl (dbls 0 s))):=by
  show Blk _ _ _ (wl s)
  rw[<-HB.o];exact (Blk.new w 190 B).alloc _
 have R0:Hid (Blk ((w.alloc (.cells B.toArray 190)).alloc (.cells Z.toArray 190)) (w.heap.size+1) 190 Z):=by
  have:=Blk.new (w.alloc (.cells B.toArray 190)) 190 Z;rw[size_alloc] at this;exact this
 have O0:Hid (N0 w ((w.alloc (.cells B.toArray 190)).alloc (.cells Z.toArray 190))):=(VG.alloc _).alloc _;obtain⟨G,hG⟩:=EX w.heap.size;obtain⟨R,hR⟩:=EX (w.heap.size+1);obtain⟨W0,h6⟩:=EX ((w.alloc (.cells B.toArray 190)).alloc (.cells Z.toArray 190));rw[<-hG,<-h6] at S0;rw[<-hR,<-h6] at R0;rw[<-h6] at O0;rw[<-hR,<-hG,<-h6];have HG:Hid (w.heap.size<=G∧w.heap.size<=R∧R≠G):=⟨by omega,by omega,by omega⟩;clear hG hR h6 hk
 go_loopw [5] (λi wr=>∃n:Nat,n<=10∧i=.int .i64 n∧Blk wr G 190 (wl (dbls n s))∧Blk wr R 190 Z∧N0 w wr) (λi _=>10 - (intOf i).toNat)
 case atStart=>exact⟨0,by omega,rfl,S0.o,R0.o,O0.o⟩
 case round =>
  obtain⟨n,hn,rfl,hS,hR,hO⟩:=hrel;clear S0 R0 O0
  by_cases hlt:n<10
  ·obtain⟨s0,h4⟩:=EX (dbls n s)
   have L0:s0.length=16:=by rw[h4,Xc];exact HS.o.1
   have K0:W32 s0:=by rw[h4];exact Sw n s HS.o.2
   have E0:Hid (dbls (n+1) s=dblR s0):=by
    show _=_
    rw[h4];rfl
   rw[<-h4] at hS;have B0:=Qa (Vz hS (Vz L0 K0));have RO:=Qa (Vz hR hO)
   have i1:(n:Int)<10:=by omega
   clear h4 L0 K0 hS hR hO;go_wp2_with fail;refine (tclo G s0 B0.o.2.1 B0.o.2.2 0 4 8 12 (by decide) (by decide) (by decide) (by decide) (by decide) (by decide) (by decide) (by decide) (by decide) (by decide) _ B0.o.1).mono ?_;rintro e w1 ⟨rfl,b1,o1⟩;obtain⟨s1,h8⟩:=EX (turnW s0 0 4 8 12);have B1:Hid (Blk w1 G 190 (wl s1)∧s1.length=16∧W32 s1):=⟨by rw[h8];exact b1,by rw[h8,Wm];exact B0.o.2.1,by rw[h8];exact Wu B0.o.2.2 _ _ _ _⟩;have hf:Hid (Blk w1 R 190 Z∧N0 w w1):=⟨RO.o.1.keep o1 HG.o.2.2,RO.o.2.trans o1 (λi hi e=>by have:=HG.o.1;omega)⟩;have E1:=Qa h8;clear h8 b1 o1 B0 RO;go_wp2_with fail;refine (tclo G s1 B1.o.2.1 B1.o.2.2 1 5 9 13 (by decide) (by decide) (by decide) (by decide) (by decide) (by decide) (by decide) (by decide) (by decide) (by decide) _ B1.o.1).mono ?_;rintro e w2 ⟨rfl,b2,o2⟩;obtain⟨s2,h2⟩:=EX (turnW s1 1 5 9 13);have B2:Hid (Blk w2 G 190 (wl s2)∧s2.length=16∧W32 s2):=⟨by rw[h2];exact b2,by rw[h2,Wm];exact B1.o.2.1,by rw[h2];exact Wu B1.o.2.2 _ _ _ _⟩;have he:Hid (Blk w2 R 190 Z∧N0 w w2):=⟨hf.o.1.keep o2 HG.o.2.2,hf.o.2.trans o2 (λi hi e=>by have:=HG.o.1;omega)⟩;have E2:=Qa h2;clear h2 b2 o2 B1 hf;go_wp2_with fail;refine (tclo G s2 B2.o.2.1 B2.o.2.2 2 6 10 14 (by decide) (by decide) (by decide) (by decide) (by decide) (by decide) (by decide) (by decide) (by decide) (by decide) _ B2.o.1).mono ?_;rintro e w3 ⟨rfl,b3,o3⟩;obtain⟨s3,h0⟩:=EX (turnW s2 2 6 10 14);have B3:Hid (Blk w3 G 190 (wl s3)∧s3.length=16∧W32 s3):=⟨by rw[h0];exact b3,by rw[h0,Wm];exact B2.o.2.1,by rw[h0];exact Wu B2.o.2.2 _ _ _ _⟩;have hd:Hid (Blk w3 R 190 Z∧N0 w w3):=⟨he.o.1.keep o3 HG.o.2.2,he.o.2.trans o3 (λi hi e=>by have:=HG.o.1;omega)⟩;have E3:=Qa h0;clear h0 b3 o3 B2 he;go_wp2_with fail;refine (tclo G s3 B3.o.2.1 B3.o.2.2 3 7 11 15 (by decide) (by decide) (by decide) (by decide) (by decide) (by decide) (by decide) (by decide) (by decide) (by decide) _ B3.o.1).mono ?_;rintro e w4 ⟨rfl,b4,o4⟩;obtain⟨s4,h7⟩:=EX (turnW s3 3 7 11 15);have B4:Hid (Blk w4 G 190 (wl s4)∧s4.length=16∧W32 s4):=⟨by rw[h7];exact b4,by rw[h7,Wm];exact B3.o.2.1,by rw[h7];exact Wu B3.o.2.2 _ _ _ _⟩;have hj:Hid (Blk w4 R 190 Z∧N0 w w4):=⟨hd.o.1.keep o4 HG.o.2.2,hd.o.2.trans o4 (λi hi e=>by have:=HG.o.1;omega)⟩;have E4:=Qa h7;clear h7 b4 o4 B3 hd;go_wp2_with fail;refine (tclo G s4 B4.o.2.1 B4.o.2.2 0 5 10 15 (by decide) (by decide) (by decide) (by decide) (by decide) (by decide) (by decide) (by decide) (by decide) (by decide) _ B4.o.1).mono ?_;rintro e w5 ⟨rfl,b5,o5⟩;obtain⟨s5,h3⟩:=EX (turnW s4 0 5 10 15);have B5:Hid (Blk w5 G 190 (wl s5)∧s5.length=16∧W32 s5):=⟨by rw[h3];exact b5,by rw[h3,Wm];exact B4.o.2.1,by rw[h3];exact Wu B4.o.2.2 _ _ _ _⟩;have hg:Hid (Blk w5 R 190 Z∧N0 w w5):=⟨hj.o.1.keep o5 HG.o.2.2,hj.o.2.trans o5 (λi hi e=>by have:=HG.o.1;omega)⟩;have E5:=Qa h3;clear h3 b5 o5 B4 hj;go_wp2_with fail;refine (tclo G s5 B5.o.2.1 B5.o.2.2 1 6 11 12 (by decide) (by decide) (by decide) (by decide) (by decide) (by decide) (by decide) (by decide) (by decide) (by decide) _ B5.o.1).mono ?_;rintro e w6 ⟨rfl,b6,o6⟩;obtain⟨s6,h1⟩:=EX (turnW s5 1 6 11 12);have B6:Hid (Blk w6 G 190 (wl s6)∧s6.length=16∧W32 s6):=⟨by rw[h1];exact b6,by rw[h1,Wm];exact B5.o.2.1,by rw[h1];exact Wu B5.o.2.2 _ _ _ _⟩;have hb:Hid (Blk w6 R 190 Z∧N0 w w6):=⟨hg.o.1.keep o6 HG.o.2.2,hg.o.2.trans o6 (λi hi e=>by have:=HG.o.1;omega)⟩;have E6:=Qa h1;clear h1 b6 o6 B5 hg;go_wp2_with fail;refine (tclo G s6 B6.o.2.1 B6.o.2.2 2 7 8 13 (by decide) (by decide) (by decide) (by decide) (by decide) (by decide) (by decide) (by decide) (by decide) (by decide) _ B6.o.1).mono ?_;rintro e w7 ⟨rfl,b7,o7⟩;obtain⟨s7,h9⟩:=EX (turnW s6 2 7 8 13);have B7:Hid (Blk w7 G 190 (wl s7)∧s7.length=16∧W32 s7):=⟨by rw[h9];exact b7,by rw[h9,Wm];exact B6.o.2.1,by rw[h9];exact Wu B6.o.2.2 _ _ _ _⟩;have ha:Hid (Blk w7 R 190 Z∧N0 w w7):=⟨hb.o.1.keep o7 HG.o.2.2,hb.o.2.trans o7 (λi hi e=>by have:=HG.o.1;omega)⟩;have E7:=Qa h9;clear h9 b7 o7 B6 hb;go_wp2_with fail;refine (tclo G s7 B7.o.2.1 B7.o.2.2 3 4 9 14 (by decide) (by decide) (by decide) (by decide) (by decide) (by decide) (by decide) (by decide) (by decide) (by decide) _ B7.o.1).mono ?_;rintro e w8 ⟨rfl,b8,o8⟩;obtain⟨s8,h5⟩:=EX (turnW s7 3 4 9 14);have B8:Hid (Blk w8 G 190 (wl s8)∧s8.length=16∧W32 s8):=⟨by rw[h5];exact b8,by rw[h5,Wm];exact B7.o.2.1,by rw[h5];exact Wu B7.o.2.2 _ _ _ _⟩;have hl:Hid (Blk w8 R 190 Z∧N0 w w8):=⟨ha.o.1.keep o8 HG.o.2.2,ha.o.2.trans o8 (λi hi e=>by have:=HG.o.1;omega)⟩;have E8:=Qa h5;clear h5 b8 o8 B7 ha
   have EN:Hid (dbls (n+1) s=s8):=by
    show _=_
    rw[E0.o];exact Fq E1.o E2.o E3.o E4.o E5.o E6.o E7.o E8.o
   go_wp2
   go_roundw
   case rel=>exact⟨n+1,by omega,by go_num,by rw[EN.o];exact B8.o.1,hl.o.1,hl.o.2⟩
   case measure=>simp[intOf];omega
  ·obtain rfl:n=10:=by omega
   rw[<-HD.o] at hS;have S2:=Qa hS;have R2:=Qa hR;have O2:=Qa hO;clear hS hR hO;go_wp2_with (first|(refine wpList_load_row rfl 190 (.tmp 1) rfl G rfl 190 D.toArray (0,0) _ S2.o underlying190 rfl hh.o ?_)|(refine wpList_store_row rfl 190 (.tmp 2) (.tmp 24) rfl R D.toArray rfl rfl 190 Z.toArray R2.o hh.o HZ2.o HA.o ?_));refine bodyPost_ret (v:=.agg D.toArray) (results_cell_row rfl _ _ R 190 D.toArray (0,0) _ rfl (R2.o.row D) underlying190 rfl hh.o) rfl ⟨rfl,?_⟩;exact O2.o.setRow (λh=>absurd h (by have:=HG.o.2.1;omega)) _
def bpart (s:List Nat) (i:Nat):LI:=(s.take i).flatMap le4
theorem zC (s:List Nat) (i:Nat) (hi:i<=s.length):(bpart s i).length=4*i:=by
 unfold bpart;rw[Hq,Qg];omega
theorem Ci (s:List Nat) (i:Nat) (hi:i<s.length):bpart s (i+1)=bpart s i++le4 (s.getD i 0):=by
 unfold bpart;rw[Zb s i hi,List.flatMap_append];simp
theorem Co (s:List Nat) (n:Nat) (hn:s.length<=n):bpart s n=s.flatMap le4:=by
 unfold bpart;rw[List.take_of_length_le hn]
theorem vZ (x j:Nat) (hj:j<4):(le4 x).take (j+1)=(le4 x).take j++[(le4 x).getD j 0]:=by
 have:j=0∨j=1∨j=2∨j=3:=by omega
 rcases this with rfl | rfl | rfl | rfl <;> rfl
theorem F6 (P Q:LI) (k n:Nat) (y:Int) (hn:n=k+1) (hP:P.length=Q.length):(P++List.replicate n 0).set Q.length y=(P++[y])++List.replicate k 0:=by
 subst hn;rw[<-hP,List.set_append_right _ _ (Nat.le_refl _),Nat.sub_self,List.replicate_succ,Qn];simp
theorem Tryz.size42:(prog.info? 161).map (·.size)=some 64:=by kernel_rfl
def zB:List Value:=bl (List.replicate 64 0)
theorem Tryz.zero42:(prog.info? 161).map (λi=>(i.zero,i.size))=some (some (.agg zB.toArray),64):=by kernel_rfl
theorem JY:zB.length=64:=rfl
theorem GZ (s:LI):(bl s).toArray.all (·.oneCell')=true:=all_oneCell_toArray (UL s)
theorem Ei (s:List Nat) (i:Nat) (hi:i<16):(ccS s).getD i 0=((dbls 10 s).getD i 0+s.getD i 0) % 4294967296:=by
 simp[ccS,List.getD_eq_getElem?_getD,hi]
theorem gi (c j:Nat) (hj:j<4):(le4 c).getD j 0=((c / 256^j % 256:Nat):Int):=by
 have:j=0∨j=1∨j=2∨j=3:=by omega
 rcases this with rfl | rfl | rfl | rfl <;> simp[le4]
theorem yk (s:List Nat) (hs:s.length=16) (j:Nat) (hj:j<16) (w:World):(Instr.index 190 (.agg (wl s).toArray) (.int .i64 j)).run prog w=.ok (.int .u32 ((s.getD j 0:Nat):Int)) w :=
 Kw 190 159 16 (wl s) j _ underlying190 Tryz.agg29 Tryz.one29 hj (wl_at s j (by omega)) w
theorem Pn (s:List Nat) (hs:s.length=16) (h32:W32 s) (w:World):Calls prog 150 #[.agg (wl s).toArray] w λe w'=>e=.returned (.agg (bl ((ccS s).flatMap le4)).toArray)∧N0 w w':=by
 have h9:=(zero_of_info (P:=prog) Tryz.zero42).1;obtain⟨Z,hZ⟩:=EX zB;rw[<-hZ] at h9;have HZ:=Qa hZ;obtain⟨D,hD⟩:=EX (bl ((ccS s).flatMap le4))
 have hd:D.length=64:=by rw[hD,Qt,Hq,Hb]
 have h5:Hid ((prog.info? 161).map (·.size)=some D.toArray.size):=by
  show _=_
  rw[Tryz.size42];simp[hd]
 have HZ2:Hid (Z.toArray.size=D.toArray.size):=by
  show _=_
  rw[hZ];simp[hd,JY]
 have HA:Hid (D.toArray.all (·.oneCell')=true):=by
  show _=_
  rw[hD];exact GZ _
 rw[<-hD];have HD:=Qa hD;have HS:=Qa (Vz hs h32);obtain⟨B,hB⟩:=EX (wl s);have HB:=Qa hB
 have HB1:Hid ((prog.info? 190).map (·.size)=some B.toArray.size):=by
  show _=_
  rw[hB];simp[QV,hs,Tryz.size44]
 rw[<-hB];clear hZ hD hB hs h32;go_enter func150,ntmps150;go_wp2_with (first|(refine wpList_load_row rfl 190 (.tmp 1) rfl w.heap.size rfl 190 B.toArray (0,0) _ (((Blk.new w 190 B).alloc _).alloc _) underlying190 rfl HB1.o ?_))
 have K0:Hid (Blk (((w.alloc (.cells B.toArray 190)).alloc (.cells Z.toArray 161)).alloc (.cells Z.toArray 161)) w.heap.size 190 B∧Blk (((w.alloc (.cells B.toArray 190)).alloc (.cells Z.toArray 161)).alloc (.cells Z.toArray 161)) (w.heap.size+1) 161 Z∧Blk (((w.alloc (.cells B.toArray 190)).alloc (.cells Z.toArray 161)).alloc (.cells Z.toArray 161)) (w.heap.size+1+1) 161 Z∧N0 w (((w.alloc (.cells B.toArray 190)).alloc (.cells Z.toArray 161)).alloc (.cells Z.toArray 161))):=by
  refine⟨((Blk.new w 190 B).alloc _).alloc _,?_,?_,((VG.alloc _).alloc _).alloc _⟩
  ·have:=(Blk.new (w.alloc (.cells B.toArray 190)) 161 Z).alloc (.cells Z.toArray 161)
   rw[size_alloc] at this;exact this
  ·have:=Blk.new ((w.alloc (.cells B.toArray 190)).alloc (.cells Z.toArray 161)) 161 Z
   rw[size_alloc,size_alloc] at this;exact this
 obtain⟨X,hX⟩:=EX (w.heap.size+1+1);rw[<-hX] at K0 ⊢;obtain⟨R,hR⟩:=EX (w.heap.size+1);rw[<-hR] at K0 ⊢;obtain⟨F,hF⟩:=EX w.heap.size;have HG:Hid (w.heap.size<=F∧w.heap.size<=R∧w.heap.size<=X∧F≠X∧R≠X):=⟨by omega,by omega,by omega,by omega,by omega⟩;rw[<-hF] at K0 ⊢;obtain⟨W0,hg⟩:=EX ((((w.alloc (.cells B.toArray 190)).alloc (.cells Z.toArray 161)).alloc (.cells Z.toArray 161)));rw[<-hg] at K0 ⊢;clear hX hR hF hg h9;have TC:=Og s HS.o.1 HS.o.2 W0;rw[<-HB.o] at TC;refine TC.mono ?_;clear TC;rintro e w1 ⟨rfl,o1⟩;obtain⟨T,hT⟩:=EX (dbls 10 s);have HX:=Qa (yk (dbls 10 s) (by rw[Xc];exact HS.o.1));have HT:=Qa (Sw 10 s HS.o.2);obtain⟨C,hC⟩:=EX (ccS s)
 have HC:Hid (C.length=16∧∀i,i<16->C.getD i 0=((dbls 10 s).getD i 0+s.getD i 0) % 4294967296):=by
  rw[hC];exact⟨Hb s,Ei s⟩
 rw[<-hC] at HD;rw[<-hT] at HX HT HC ⊢;obtain⟨TA,hf⟩:=EX (wl T);rw[<-hf] at HX ⊢
 have K1:Hid (Blk w1 F 190 B∧Blk w1 R 161 Z∧Blk w1 X 161 (bl (bpart C 0++List.replicate 64 0))∧N0 w w1):=by
  refine⟨K0.o.1.past o1,K0.o.2.1.past o1,?_,K0.o.2.2.2.same o1⟩;have:=K0.o.2.2.1.past o1;rw[HZ.o] at this;exact this
 clear K0 o1 hT hC hf;go_wp2
 go_loopw [9] (λi wr=>∃n:Nat,n<=16∧i=.int .i64 n∧Blk wr F 190 B∧Blk wr R 161 Z∧Blk wr X 161 (bl (bpart C n++List.replicate (64 - 4*n) 0))∧N0 w wr) (λi _=>16 - (intOf i).toNat)
 case atStart=>exact⟨0,by omega,rfl,K1.o⟩
 case round =>
  obtain⟨n,hn,rfl,k1,k2,k3,k4⟩:=hrel;clear K1
  by_cases hlt:n<16
  ·have h6:=HX.o n hlt
   have ha:wr.cell? ⟨F,n,none⟩=some (.int .u32 ((s.getD n 0:Nat):Int)):=by
    rw[k1.cell,HB.o,wl_at s n (by rw[HS.o.1];exact hlt)]
   obtain⟨c,hc⟩:=EX (C.getD n 0)
   have h2:IntKind.u32.wrap (((T.getD n 0:Nat):Int)+((s.getD n 0:Nat):Int))=(c:Int):=by
    rw[Zw,hc,HC.o.2 n hlt]
   have hc32:c<4294967296:=by rw[hc,HC.o.2 n hlt];exact Nat.mod_lt _ (by decide)
   obtain⟨tn,h8⟩:=EX (T.getD n 0);obtain⟨sn,hb⟩:=EX (s.getD n 0);rw[<-h8] at h6 h2;rw[<-hb] at ha h2
   have i1:(n:Int)<16:=by omega
   have HK:=Qa (Vz k1 (Vz k2 (Vz k3 k4)));have HCN:=Qa hc;clear h8 hb hc k1 k2 k3 k4;go_wp2
   go_loopw [18] (λi wr=>∃j:Nat,j<=4∧i=.int .i64 j∧Blk wr F 190 B∧Blk wr R 161 Z∧Blk wr X 161 (bl ((bpart C n++(le4 c).take j)++List.replicate (64 - 4*n - j) 0))∧N0 w wr) (λi _=>4 - (intOf i).toNat)
   case atStart=>exact⟨0,by omega,rfl,HK.o.1,HK.o.2.1,by rw[List.take_zero,List.append_nil];exact HK.o.2.2.1,HK.o.2.2.2⟩
   case round =>
    obtain⟨j,hj,rfl,k1,k2,k3,k4⟩:=hrel;clear HK ha h6 h2
    by_cases hlj:j<4
    ·have he:(bpart C n).length=4*n:=zC C n (by rw[HC.o.1];omega)
     have h3:(bpart C n++(le4 c).take j).length=n*4+j:=by
      rw[Qb,he,Qg,MX];omega
     have h7:wr.cell? ⟨X,n*4+j,none⟩=some (.int .u8 (((bpart C n++(le4 c).take j)++List.replicate (64 - 4*n - j) 0).getD (n*4+j) 0)):=by
      rw[k3.cell,bl_at _ _ (by rw[Qb,h3,List.length_replicate];omega)]
     have hfx:=k3.froz (n*4+j);obtain⟨z,hz⟩:=EX (((bpart C n++(le4 c).take j)++List.replicate (64 - 4*n - j) 0).getD (n*4+j) 0);rw[<-hz] at h7;have h1:=gi c j hlj;obtain⟨y,hy⟩:=EX ((le4 c).getD j 0)
     have N1:Hid (Blk (wr.setCell ⟨X,n*4+j,none⟩ (.int .u8 y)) F 190 B∧Blk (wr.setCell ⟨X,n*4+j,none⟩ (.int .u8 y)) R 161 Z∧Blk (wr.setCell ⟨X,n*4+j,none⟩ (.int .u8 y)) X 161 (bl ((bpart C n++(le4 c).take (j+1))++List.replicate (64 - 4*n - (j+1)) 0))∧N0 w (wr.setCell ⟨X,n*4+j,none⟩ (.int .u8 y))):=by
      have oc:=(Only.refl (λk=>k=X) wr).setCell (p:=⟨X,n*4+j,none⟩) (λ_=>rfl) (.int .u8 y);refine⟨k1.keep oc HG.o.2.2.2.1,k2.keep oc HG.o.2.2.2.2,?_,k4.trans oc (λi hi e=>by have:=HG.o.2.2.1;omega)⟩;have h:=k3.set (n*4+j) (.int .u8 y);rw[V7,<-h3,F6 _ _ (64 - 4*n - (j+1)) _ y (by omega) rfl,h3,List.append_assoc (bpart C n),hy,<-vZ c j hlj] at h;rw[hy];exact h
     rw[<-hy] at h1
     have i2:(j:Int)<4:=by omega
     clear hz hy k1 k2 k3 k4 he h3
     have h4:j=0∨j=1∨j=2∨j=3:=by omega
     rcases h4 with rfl | rfl | rfl | rfl
     ·have h0:y=(c:Int) % 256:=by rw[h1];simp
      rw[h0] at N1;clear h1 h0;simp only[Nat.add_zero] at h7 hfx N1;go_wp2
      go_roundw
      case rel=>exact⟨1,by omega,by go_num,N1.o.1,N1.o.2.1,N1.o.2.2.1,N1.o.2.2.2⟩
      case measure=>simp[intOf]
     ·have h0:y=(c:Int) / 256 % 256:=by rw[h1];simp
      rw[h0] at N1;clear h1 h0;go_wp2
      go_roundw
      case rel=>exact⟨2,by omega,by go_num,N1.o.1,N1.o.2.1,N1.o.2.2.1,N1.o.2.2.2⟩
      case measure=>simp[intOf]
     ·have h0:y=(c:Int) / 65536 % 256:=by rw[h1];simp
      rw[h0] at N1;clear h1 h0;go_wp2
      go_roundw
      case rel=>exact⟨3,by omega,by go_num,N1.o.1,N1.o.2.1,N1.o.2.2.1,N1.o.2.2.2⟩
      case measure=>simp[intOf]
     ·have h0:y=(c:Int) / 16777216:=by rw[h1];simp;omega
      rw[h0] at N1;clear h1 h0;go_wp2
      go_roundw
      case rel=>exact⟨4,by omega,by go_num,N1.o.1,N1.o.2.1,N1.o.2.2.1,N1.o.2.2.2⟩
      case measure=>simp[intOf]
    ·obtain rfl:j=4:=by omega
     have N2:Hid (Blk wr F 190 B∧Blk wr R 161 Z∧Blk wr X 161 (bl (bpart C (n+1)++List.replicate (64 - 4*(n+1)) 0))∧N0 w wr):=by
      refine⟨k1,k2,?_,k4⟩;rw[Ci C n (by rw[HC.o.1];exact hlt),<-HCN.o,show 64 - 4*(n+1)=64 - 4*n - 4 by omega];exact k3
     clear k1 k2 k3 k4;go_wp2
     go_roundw
     case rel=>exact⟨n+1,by omega,by go_num,N2.o⟩
     case measure=>simp[intOf];omega
  ·obtain rfl:n=16:=by omega
   have S2:Hid (Blk wr X 161 D):=by
    rw[HD.o,<-Co C 16 (by rw[HC.o.1];exact Zu)];have:=k3;rw[show 64 - 4*16=0 from rfl,List.replicate_zero,List.append_nil] at this;exact this
   have R2:=Qa k2;have O2:=Qa k4;clear k1 k2 k3 k4;go_wp2_with (first|(refine wpList_load_row rfl 161 (.tmp 3) rfl X rfl 161 D.toArray (0,0) _ S2.o underlying161 rfl h5.o ?_)|(refine wpList_store_row rfl 161 (.tmp 2) (.tmp 33) rfl R D.toArray rfl rfl 161 Z.toArray R2.o h5.o HZ2.o HA.o ?_));refine bodyPost_ret (v:=.agg D.toArray) (results_cell_row rfl _ _ R 161 D.toArray (0,0) _ rfl (R2.o.row D) underlying161 rfl h5.o) rfl ⟨rfl,?_⟩;exact O2.o.setRow (λh=>absurd h (by have:=HG.o.2.1;omega)) _
end Go.Proofs.YtiochaeeoelmjaaGreatDoor
