import Derived.Test.YtnhapmboienipaaGreatDoorY1
import Derived.Lib.AppendZerosOnto
import Derived.Test.YtnhapmboienipaaGreatDoorY5
import Derived.Test.YtnhapmboienipaaGreatDoorY2
import Derived.Test.YtnhapmboienipaaGreatDoorProg
namespace Go.Proofs.YtnhapmboienipaaGreatDoor
set_option maxHeartbeats 1600000
set_option maxRecDepth 100000
open Go.RowKit _root_.Go.Proofs.Tryz
theorem Qbt (z:Value) (k:Nat):(Builtin.zeroCells #[z] k).toList=List.replicate k z:=by
 apply List.ext_getElem
 ·simp [Builtin.zeroCells]
 ·intro j h1 h2
  simp [Builtin.zeroCells,Nat.mod_one]
theorem QcM {P:Program} (w:World) (base:Nat) (t tn ty e:TypeId) (i:TypeInfo) (z:Value) (kq kn:IntKind) (bytes:Nat) (ht:P.underlying t=some (.slice e)) (htn:P.underlying tn=some (.int kn)) (hi:P.info? e=some i) (hz:i.zero=some z)
  (hsize:i.size=1) (hby:i.bytes=bytes) (hzc:z.cells=#[z]) (hz1:z.oneCell'=true) (g n cap:Nat) (xs:List Value) (hown:w.ownsRow base e 1 (.slice (some ⟨g,0,none⟩) n cap) n xs)
  (k:Nat) (h0:0<k) (h63:n+k≤maxLen) (hbytes:(n+k)*bytes≤140737488355328) (hbase:base≤w.heap.size) :
  ∃v' w',(Builtin.append_ #[t,tn] ty #[.slice (some ⟨g,0,none⟩) n cap,.int kq k]).run P w=.ok v' w'∧w'.ownsRow base e 1 v' (n+k) (xs++List.replicate k z)∧w.grownBy w' (some g):=by
 subst hby
 have hlen:(xs++List.replicate k z).length=(n+k)*1:=by rw [Yae,hown.1,List.length_replicate];omega
 have hk2:k*i.bytes≤281474976710656:=by
  have:k*i.bytes≤(n+k)*i.bytes:=Nat.mul_le_mul_right _ (by omega);omega
 rcases hown.2 with ⟨hv,_⟩ | ⟨g',cap',cur,hv,hbg,hg,hnc,hcm,hcs,htake⟩
 ·cases hv
 ·simp only [Value.slice.injEq,Option.some.injEq,Addr.mk.injEq] at hv
  obtain ⟨⟨rfl,_⟩,_,rfl⟩:=hv
  by_cases hroom:n+k≤cap
  ·have hst:=run_storeCells_at P g (n*1) e (List.replicate k z) 0 cur w hg (by simp [hcs];omega) (by intro u hu;rw [List.eq_of_mem_replicate hu];exact hz1)
   simp only [Nat.add_zero] at hst
   have hk:k≠0:=by omega
   have hw:IntKind.i64.wrap (k:Int)=k:=by rw [IntKind.wrap_i64];simp only [maxLen] at h63;omega
   have h48i:¬(281474976710656<(k:Int)*(i.bytes:Int)):=by
    rw [←Int.natCast_mul];omega
   have hneg:¬((k:Int)<0):=by omega
   have hzl:=Qbt z k;refine ⟨.slice (some ⟨g,0,none⟩) (n+k) cap,w.setRow g (cur.toList.take (n*1)++List.replicate k z++cur.toList.drop (n*1+(List.replicate k z).length)).toArray,?_,⟨hlen,.inr ⟨g,cap,_,rfl,hbg,setRow_heap w g cur _ e _ hg,hroom,hcm,?_,?_⟩⟩,⟨rfl,rfl,rfl,by simp,fun j _ hj=>setRow_other w g j _ (fun e=>hj (by rw [e]))⟩⟩
   ·simp [Builtin.append_,run_underlying ht,run_underlying htn,sizeOf,typeInfo,zeroValue,hi,hz,hsize,asInt,asIntOf,hw,hneg,hk,h48i,hroom,Addr.add_lit,hzc,hzl]
    simp at hst;rw [hst]
    rfl
   ·simp only [List.size_toArray,Yae,Yag,Yai,Array.length_toList,List.length_replicate]
    omega
   ·rw [htake,←hlen]
    exact List.take_left
  ·have holds:∀j u,xs[j]? = some u→w.drew.cell? ((⟨g,0,none⟩:Addr).add j)=some u:=hown.cells (g:=g) rfl
   have hf:=run_firstCells_some (P:=P) w.drew i.size n ⟨g,0,none⟩ n cap xs (by rw [hsize];exact hown.1) holds;have hr:=Lib.run_append_grow_zeros (P:=P) w t tn ty e i z kq kn ht htn hi hz (some ⟨g,0,none⟩) n cap xs hf k h0 (by omega) (by omega) (by simp only [maxLen] at h63;omega) hk2 (growslice_fits (by omega) hbytes);have hge:=grownCap_ge w (n+k) cap e;have hcm2:grownCap w (n+k) cap e≤maxLen:=grownCap_le_maxLen w (n+k) cap e h63;refine ⟨_,_,hr,⟨hlen,.inr ⟨w.heap.size,_,_,rfl,hbase,heap_alloc_new w.drew _,hge,hcm2,?_,?_⟩⟩,⟨rfl,rfl,rfl,by simp,fun j hj _=>Below.heap_alloc _ _ _ hj⟩⟩
   ·simp only [Array.size_append,List.size_toArray,size_zeroCells,hzc,hown.1]
    simp;omega
   ·simp only [Array.toList_append,hzc,Qbt]
    rw [←hlen];exact List.take_left
theorem Qba {P:Program} (w:World) (t tn ty e:TypeId) (i:TypeInfo) (kq kn:IntKind) (ht:P.underlying t=some (.slice e)) (htn:P.underlying tn=some (.int kn)) (hi:P.info? e=some i)
  (ao:Option Addr) (n cap:Nat) (hn:n≤cap) :
  (Builtin.append_ #[t,tn] ty #[.slice ao n cap,.int kq 0]).run P w=.ok (.slice ao n cap) w:=by
 have hw:IntKind.i64.wrap 0=0:=by rw [IntKind.wrap_i64];omega
 simp [Builtin.append_,run_underlying ht,run_underlying htn,sizeOf,typeInfo,hi,asInt,asIntOf,hw,hn]
 cases ao with
 | none=>rfl
 | some a=>simp [storeCells]
theorem Qc1 {P:Program} (w:World) {ops:Array Oper} {rest:List Oper} {o:Oper} {a:Act} {Q:Exit→Act→World→Prop} (hg:o.guard=none) (s x:Operand) (t tn:TypeId)
  (ho:o.op=.call { callee:=.builtin .append,args:=#[s,x],argTypes:=#[t,tn] }) (vs vx:Value) (hs:a.eval s=vs) (hx:a.eval x=vx)
  (v':Value) (w':World) (hr:(Builtin.append_ #[t,tn] o.type #[vs,vx]).run P w=.ok v' w') (h:wpList P ops Q rest (a.put o.dst v') w'):wpList P ops Q (o :: rest) a w :=
 wpList_plain hg fun _ hK=>Lib.wp_append_run w s x t tn ho vs vx hs hx v' w' hr (hK _ _ h)
theorem QnZ (w:World) (base:Nat) (v:Value) (n:Nat) (xs:List Int) (own:w.ownsRow base 5 1 v n (bl xs)) (k:Nat) (hk:n+k≤1000000000000) (hbase:base≤w.heap.size) :
  ∃v' w',(Builtin.append_ #[22,3] 22 #[v,.int .i64 (k:Int)]).run prog w=.ok v' w'∧w'.ownsRow base 5 1 v' (n+k) (bl (xs++List.replicate k 0))∧w.grownBy w' v.ownBlock:=by
 obtain ⟨i0,hi,hz0,hz1,hz2⟩:=info_parts Tryz.infoU8
 have hxn:xs.length=n:=by have:=own.1;rw [Qal] at this;omega
 by_cases h0:k=0
 ·subst h0
  rcases own.2 with ⟨rfl,hz⟩ | ⟨g,cap',cur,rfl,_,_,hc,_⟩
  ·refine ⟨_,_,Qba (P:=prog) w 22 3 22 5 i0 .i64 .i64 underlying22 underlying3 hi none 0 0 (Nat.le_refl _),?_,World.grownBy.refl _ _⟩
   rw [List.replicate_zero,List.append_nil];exact own
  ·refine ⟨_,_,Qba (P:=prog) w 22 3 22 5 i0 .i64 .i64 underlying22 underlying3 hi _ n cap' hc,?_,World.grownBy.refl _ _⟩
   rw [List.replicate_zero,List.append_nil];exact own
 ·rcases own.2 with ⟨rfl,hz⟩ | ⟨g,cap',cur,rfl,_⟩
  ·subst hz
   have hx:xs=[]:=List.eq_nil_of_length_eq_zero hxn;subst hx;have hge:=grownCap_ge w k 0 5;have hcm:=grownCap_le_maxLen w k 0 5 (by unfold maxLen;omega);refine ⟨_,_,Lib.run_append_nil_zeros (P:=prog) w 22 3 22 5 i0 (.int .u8 0) .i64 .i64 underlying22 underlying3 hi hz0 k (by omega) (by omega) (by omega) (by rw [hz2];omega),⟨by simp [Qal],.inr ⟨w.heap.size,_,_,by rw [Nat.zero_add],hbase,heap_alloc_new w.drew _,by rw [Nat.zero_add];exact hge,hcm,?_,?_⟩⟩,⟨rfl,rfl,rfl,by simp,fun j hj _=>Below.heap_alloc _ _ _ hj⟩⟩
   ·simp only [Array.size_append,size_zeroCells,show (Value.int .u8 0).cells=#[.int .u8 0] from rfl]
    simp;omega
   ·simp only [Array.toList_append,show (Value.int .u8 0).cells=#[.int .u8 0] from rfl,Qbt,List.nil_append]
    rw [show (0+k)*1=(List.replicate k (Value.int .u8 0)).length by simp,List.take_left];simp [bl]
  ·obtain ⟨v5,w5,h1,h2,h3⟩:=QcM (P:=prog) w base 22 3 22 5 i0 (.int .u8 0) .i64 .i64 1 underlying22 underlying3 hi hz0 hz1 hz2 rfl rfl g n cap' _ own k (by omega) (by simp only [maxLen];omega) (by omega) hbase
   refine ⟨v5,w5,h1,?_,h3⟩;unfold bl at *;rw [List.map_append,List.map_replicate];exact h2
structure Q4 where
 a:Nat
 b:Nat
 c:Nat
 d:Nat
def half (q:Q4) (m1 m2:Nat):Q4 :=
 let a:=(q.a+q.b) % 4294967296
 let d:=rotw (q.d ^^^ a) m1
 let c:=(q.c+d) % 4294967296
 let b:=rotw (q.b ^^^ c) m2
 ⟨a,b,c,d⟩
def qrt (q:Q4):Q4:=half (half q 16 20) 24 25
def turnW (s:List Nat) (i j k l:Nat):List Nat :=
 let q:=qrt ⟨s.getD i 0,s.getD j 0,s.getD k 0,s.getD l 0⟩
 (((s.set i q.a).set j q.b).set k q.c).set l q.d
def fours:List (Nat × Nat × Nat × Nat):=[(0,4,8,12),(1,5,9,13),(2,6,10,14),(3,7,11,15),(0,5,10,15),(1,6,11,12),(2,7,8,13),(3,4,9,14)]
def turnP (s:List Nat) (p:Nat × Nat × Nat × Nat):List Nat:=turnW s p.1 p.2.1 p.2.2.1 p.2.2.2
def dblR (s:List Nat):List Nat:=fours.foldl turnP s
def dbls:Nat→List Nat→List Nat
 | 0,s=>s
 | n+1,s=>dblR (dbls n s)
def ld4 (b:List Int) (t:Nat):Nat:=(b.getD (4*t) 0).toNat+(b.getD (4*t+1) 0).toNat*256+(b.getD (4*t+2) 0).toNat*65536+(b.getD (4*t+3) 0).toNat*16777216
def ldW (b:List Int) (n:Nat):List Nat:=(List.range n).map (ld4 b)
def le4 (x:Nat):List Int:=[((x % 256:Nat):Int),((x / 256 % 256:Nat):Int),((x / 65536 % 256:Nat):Int),((x / 16777216 % 256:Nat):Int)]
def ccW:List Nat:=[0x61707865,0x3320646e,0x79622d32,0x6b206574]
def ccF (key:List Int) (ctr:Nat) (nonce:List Int):List Nat:=ccW++ldW key 8++[ctr]++ldW nonce 3
def ccS (s:List Nat):List Nat:=(List.range 16).map fun i=>((dbls 10 s).getD i 0+s.getD i 0) % 4294967296
def BLK (key:List Int) (ctr:Nat) (nonce:List Int):List Int:=(ccS (ccF key ctr nonce)).flatMap le4
theorem Qln (x:Nat):(le4 x).length=4:=rfl
theorem QtF (x:Nat):U8 (le4 x):=fun y hy=>by
 simp only [le4,List.mem_cons,List.not_mem_nil,or_false] at hy
 rcases hy with rfl | rfl | rfl | rfl <;> omega
theorem Qcd (s:List Nat):(s.flatMap le4).length=4*s.length:=by
 induction s with
 | nil=>rfl
 | cons x s ih=>rw [List.flatMap_cons,Yae,ih,Qln,Yah];omega
theorem QhJ (s:List Nat):U8 (s.flatMap le4):=by
 induction s with
 | nil=>intro y hy;cases hy
 | cons x s ih=>rw [List.flatMap_cons];exact (QtF x).app ih
theorem QbK (b:List Int) (n:Nat):(ldW b n).length=n:=by simp [ldW]
theorem QcT (key:List Int) (ctr:Nat) (nonce:List Int):(ccF key ctr nonce).length=16:=by
 simp [ccF,ccW,QbK]
theorem QhK (s:List Nat):(ccS s).length=16:=by simp [ccS]
theorem QcU (key:List Int) (ctr:Nat) (nonce:List Int):(BLK key ctr nonce).length=64:=by
 unfold BLK;rw [Qcd,QhK]
theorem Qlo (key:List Int) (ctr:Nat) (nonce:List Int):U8 (BLK key ctr nonce):=QhJ _
theorem QtG (b:List Int) (h:U8 b) (t:Nat):ld4 b t<4294967296:=by
 have h0:=h.at (4*t);have h1:=h.at (4*t+1);have h2:=h.at (4*t+2);have h3:=h.at (4*t+3);unfold ld4;omega
theorem Qlp (b:List Int) (h:U8 b) (n:Nat):W32 (ldW b n):=fun x hx=>by
 obtain ⟨t,_,rfl⟩:=List.mem_map.1 hx;exact QtG b h t
theorem Qlq (key:List Int) (hk:U8 key) (ctr:Nat) (hc:ctr<4294967296) (nonce:List Int) (hn:U8 nonce):W32 (ccF key ctr nonce):=by
 have h0:W32 ccW:=fun x hx=>by
  simp only [ccW,List.mem_cons,List.not_mem_nil,or_false] at hx
  rcases hx with rfl | rfl | rfl | rfl <;> decide
 exact ((h0.app (Qlp key hk 8)).app (W32.one hc)).app (Qlp nonce hn 3)
def Q4.ok (q:Q4):Prop:=q.a<4294967296∧q.b<4294967296∧q.c<4294967296∧q.d<4294967296
theorem Qce (x n:Nat) (hx:x<4294967296):rotw x n<4294967296:=by
 unfold rotw;exact Nat.or_lt_two_pow (n:=32) (Nat.lt_of_le_of_lt (Nat.div_le_self _ _) hx) (Nat.mod_lt _ (by decide))
theorem Qlr (q:Q4) (m1 m2:Nat) (h:q.ok):(half q m1 m2).ok:=by
 have ha:(q.a+q.b) % 4294967296<4294967296:=Nat.mod_lt _ (by decide);have hd:=Qce (q.d ^^^ ((q.a+q.b) % 4294967296)) m1 (Nat.xor_lt_two_pow (n:=32) h.2.2.2 ha);have hc:(q.c+rotw (q.d ^^^ ((q.a+q.b) % 4294967296)) m1) % 4294967296<4294967296:=Nat.mod_lt _ (by decide);exact ⟨ha,Qce _ m2 (Nat.xor_lt_two_pow (n:=32) h.2.1 hc),hc,hd⟩
theorem QtH (q:Q4) (h:q.ok):(qrt q).ok:=Qlr _ _ _ (Qlr _ _ _ h)
theorem W32.set {s:List Nat} (h:W32 s) (i x:Nat) (hx:x<4294967296):W32 (s.set i x):=fun y hy=>by
 rcases List.mem_or_eq_of_mem_set hy with h1 | h1
 ·exact h y h1
 ·subst h1;exact hx
theorem Qa2 {s:List Nat} (h:W32 s) (i j k l:Nat):W32 (turnW s i j k l):=by
 have q:=QtH ⟨s.getD i 0,s.getD j 0,s.getD k 0,s.getD l 0⟩ ⟨h.at i,h.at j,h.at k,h.at l⟩;exact (((h.set i _ q.1).set j _ q.2.1).set k _ q.2.2.1).set l _ q.2.2.2
theorem Qa3 (s:List Nat) (i j k l:Nat):(turnW s i j k l).length=s.length:=by simp [turnW]
theorem Qls (ps:List (Nat × Nat × Nat × Nat)):∀s:List Nat,(ps.foldl turnP s).length=s.length:=by
 induction ps with
 | nil=>intro s;rfl
 | cons p ps ih=>intro s;rw [List.foldl_cons,ih];exact Qa3 _ _ _ _ _
theorem Qlt (ps:List (Nat × Nat × Nat × Nat)):∀s:List Nat,W32 s→W32 (ps.foldl turnP s):=by
 induction ps with
 | nil=>intro s h;exact h
 | cons p ps ih=>intro s h;rw [List.foldl_cons];exact ih _ (Qa2 h _ _ _ _)
theorem QdW (n:Nat) (s:List Nat):(dbls n s).length=s.length:=by
 induction n with
 | zero=>rfl
 | succ n ih=>rw [dbls,dblR,Qls,ih]
theorem QiZ (n:Nat) (s:List Nat) (h:W32 s):W32 (dbls n s):=by
 induction n with
 | zero=>exact h
 | succ n ih=>exact Qlt _ _ ih
def xorL (a b:List Int):List Int:=List.zipWith (fun x y=>((x.toNat ^^^ y.toNat:Nat):Int)) a b
def ksb (key:List Int) (ctr:Nat) (nonce:List Int) (i:Nat):Int:=(BLK key (ctr+i / 64) nonce).getD (i % 64) 0
def ksL (key:List Int) (ctr:Nat) (nonce:List Int) (n:Nat):List Int:=(List.range n).map (ksb key ctr nonce)
def STR (key:List Int) (ctr:Nat) (nonce b:List Int):List Int:=xorL b (ksL key ctr nonce b.length)
abbrev fitsC (ctr n:Nat):Prop:=ctr+(n+63) / 64≤4294967296
theorem Qlu (key:List Int) (ctr:Nat) (nonce:List Int) (n:Nat):(ksL key ctr nonce n).length=n:=by simp [ksL]
theorem QtI (key:List Int) (ctr:Nat) (nonce:List Int) (i:Nat):0≤ksb key ctr nonce i∧ksb key ctr nonce i≤255:=(Qlo _ _ _).at _
theorem QdX (a b:List Int):(xorL a b).length=min a.length b.length:=List.length_zipWith ..
theorem Qcf (key:List Int) (ctr:Nat) (nonce b:List Int):(STR key ctr nonce b).length=b.length:=by
 unfold STR;rw [QdX,Qlu,Nat.min_self]
theorem QqA (key:List Int) (ctr:Nat) (nonce b:List Int) (i:Nat) (hi:i<b.length):(STR key ctr nonce b).getD i 0=(((b.getD i 0).toNat ^^^ (ksb key ctr nonce i).toNat:Nat):Int):=by
 unfold STR xorL;rw [Yad,Yaf (by rw [List.length_zipWith,Qlu];omega),List.getElem_zipWith,Yad,Yaf hi];simp [ksL]
theorem QhL (x y:Int) (hx:0≤x∧x≤255) (hy:0≤y∧y≤255):x.toNat ^^^ y.toNat<256:=Nat.xor_lt_two_pow (n:=8) (by omega) (by omega)
theorem QqB (key:List Int) (ctr:Nat) (nonce b:List Int) (h:U8 b):U8 (STR key ctr nonce b):=fun y hy=>by
 obtain ⟨i,hi,rfl⟩:=List.getElem_of_mem hy
 have hi2:i<b.length:=by rw [Qcf] at hi;exact hi
 have e:=QqA key ctr nonce b i hi2;rw [Yad,Yaf hi] at e;simp only [Option.getD_some] at e;rw [e];have:=QhL _ _ (h.at i) (QtI key ctr nonce i);omega
theorem Qoj {a b:List Int} (hl:a.length=b.length) (h:∀i,i<a.length→a.getD i 0=b.getD i 0):a=b:=by
 apply List.ext_getElem hl
 intro i h1 h2;have:=h i h1
 rwa [Yad,Yad,Yaf h1,Yaf h2] at this
def nv:List Int→Nat
 | []=>0
 | d :: l=>d.toNat+256*nv l
theorem Qq0 (a b:List Int):nv (a++b)=nv a+256^a.length*nv b:=by
 induction a with
 | nil=>simp [nv]
 | cons d a ih =>
  simp only [List.cons_append,nv,ih,Yah,Nat.pow_succ];rw [Nat.mul_add,←Nat.mul_assoc,Nat.mul_comm 256 (256^a.length)];omega
theorem Qus (d:Int):nv [d]=d.toNat:=by simp [nv]
theorem nv_lt (a:List Int) (h:U8 a):nv a<256^a.length:=by
 induction a with
 | nil=>simp [nv]
 | cons d a ih =>
  have h1:=h d (by simp);have h2:=ih (fun y hy=>h y (by simp [hy]));simp only [nv,Yah,Nat.pow_succ];omega
theorem Qm8 (a:List Int) (d:Int):nv (a++[d])=nv a+256^a.length*d.toNat:=by rw [Qq0,Qus]
theorem QpI (n:Nat):nv (List.replicate n 0)=0:=by
 induction n with
 | zero=>rfl
 | succ n ih=>simp [List.replicate_succ,nv,ih]
theorem U8.set {a:List Int} (h:U8 a) (i:Nat) (d:Int) (hd:0≤d∧d≤255):U8 (a.set i d):=fun y hy=>by
 rcases List.mem_or_eq_of_mem_set hy with h1 | h1
 ·exact h y h1
 ·subst h1;exact hd
def leB:Nat→Nat→List Int
 | 0,_=>[]
 | n+1,x=>((x % 256:Nat):Int) :: leB n (x / 256)
theorem QdB (n x:Nat):(leB n x).length=n:=by
 induction n generalizing x with
 | zero=>rfl
 | succ n ih=>simp [leB,ih]
theorem Qg8 (n x:Nat):U8 (leB n x):=by
 induction n generalizing x with
 | zero=>intro y hy;cases hy
 | succ n ih =>
  intro y hy;simp only [leB,List.mem_cons] at hy
  rcases hy with rfl | hy
  ·omega
  ·exact ih _ y hy
theorem Qq1 (n x:Nat):nv (leB n x)=x % 256^n:=by
 induction n generalizing x with
 | zero=>simp [leB,nv,Nat.mod_one]
 | succ n ih =>
  simp only [leB,nv,ih,Int.toNat_natCast];rw [Nat.pow_succ,Nat.mul_comm (256^n) 256,Nat.mod_mul]
theorem Qut {a b:List Int} (ha:U8 a) (hb:U8 b) (hl:a.length=b.length) (h:nv a=nv b):a=b:=by
 induction a generalizing b with
 | nil=>cases b with
  | nil=>rfl
  | cons y b=>simp at hl
 | cons x a ih=>cases b with
  | nil=>simp at hl
  | cons y b =>
   have hx:=ha x (by simp);have hy:=hb y (by simp);simp only [nv] at h
   have h1:x=y:=by omega
   subst h1;rw [ih (b:=b) (fun z hz=>ha z (List.mem_cons_of_mem _ hz)) (fun z hz=>hb z (List.mem_cons_of_mem _ hz)) (by simpa using hl) (by omega)]
def PP:Nat:=1361129467683753853853498429727072845819
def QdS (key:List Int):List Int:=(List.range 16).map fun i=>if i % 4=3 then key.getD i 0 % 16 else if i % 4=0∧0<i then key.getD i 0 - key.getD i 0 % 4 else key.getD i 0
def piece (xs:List Int) (k:Nat):Nat:=nv ((xs.drop (16*k)).take 16)+256^(min 16 (xs.length - 16*k))
def pacc (r:Nat) (xs:List Int):Nat→Nat
 | 0=>0
 | k+1=>(pacc r xs k+piece xs k)*r % PP
def TAG (key xs:List Int):List Int:=leB 16 (pacc (nv (QdS key)) xs ((xs.length+15) / 16)+nv (key.drop 16))
theorem QsF (key xs:List Int):(TAG key xs).length=16:=QdB _ _
theorem Quu (key xs:List Int):U8 (TAG key xs):=Qg8 _ _
theorem QdC (key:List Int):(QdS key).length=16:=by simp [QdS]
theorem Qm9 (key:List Int) (h:U8 key):U8 (QdS key):=fun y hy=>by
 obtain ⟨i,_,rfl⟩:=List.mem_map.1 hy;have:=h.at i
 split
 ·omega
 ·split <;> omega
theorem Qna:PP+5=2^130:=by decide +kernel
theorem Qjz (low high:Nat):(low+5*high) % PP=(low+2^130*high) % PP:=by
 rw [←Qna,Nat.add_mul,show low+(PP*high+5*high)=low+5*high+PP*high by omega,Nat.add_mul_mod_self_left]
theorem QpJ (x:Nat) (h:x<2^130):x % PP=if x<PP then x else x - PP:=by
 have h1:=Qna
 have h2:5<PP:=by decide
 by_cases hx:x<PP
 ·rw [if_pos hx,Nat.mod_eq_of_lt hx]
 ·rw [if_neg hx,Nat.mod_eq_sub_mod (by omega),Nat.mod_eq_of_lt (by omega)]
def flN (n:Nat):Nat:=(16 - n % 16) % 16
def fl (b:List Int):List Int:=b++List.replicate (flN b.length) 0
def ATX (ad c:List Int):List Int:=((fl ad++fl c)++leB 8 ad.length)++leB 8 c.length
def AKY (key nonce:List Int):List Int:=(BLK key 0 nonce).take 32
def ATG (key nonce ad c:List Int):List Int:=TAG (AKY key nonce) (ATX ad c)
def ASL (key nonce ad p:List Int):List Int:=STR key 1 nonce p++ATG key nonce ad (STR key 1 nonce p)
theorem QiN (n:Nat):flN n≤15:=by unfold flN;omega
theorem Qk7 (b:List Int):(fl b).length=b.length+flN b.length:=by simp [fl]
theorem fl_u8 (b:List Int) (h:U8 b):U8 (fl b):=h.app (fun y hy=>by have:=List.eq_of_mem_replicate hy;omega)
theorem Qtv (ad c:List Int) (ha:U8 ad) (hc:U8 c):U8 (ATX ad c):=(((fl_u8 ad ha).app (fl_u8 c hc)).app (Qg8 _ _)).app (Qg8 _ _)
theorem Qrd (ad c:List Int):(ATX ad c).length≤ad.length+c.length+46:=by
 have h1:=QiN ad.length;have h2:=QiN c.length;simp only [ATX,Yae,Qk7,QdB];omega
theorem Qre (key nonce:List Int):(AKY key nonce).length=32:=by rw [AKY,Yag,QcU];rfl
theorem Qtw (key nonce:List Int):U8 (AKY key nonce):=(Qlo _ _ _).take _
theorem Qd9 (key nonce ad c:List Int):(ATG key nonce ad c).length=16:=QsF _ _
theorem Qtx (key nonce ad c:List Int):U8 (ATG key nonce ad c):=Quu _ _
theorem Qk8 (key nonce ad p:List Int):(ASL key nonce ad p).length=p.length+16:=by rw [ASL,Yae,Qcf,Qd9]
theorem Qty (key nonce ad p:List Int) (h:U8 p):U8 (ASL key nonce ad p):=(QqB _ _ _ _ h).app (Qtx _ _ _ _)
theorem Qn6 (n x:Nat):leB (n+1) x=leB n x++[((x / 256^n % 256:Nat):Int)]:=by
 induction n generalizing x with
 | zero=>simp [leB]
 | succ n ih =>
  show ((x % 256:Nat):Int) :: leB (n+1) (x / 256)=((x % 256:Nat):Int) :: leB n (x / 256)++_
  rw [ih,Nat.div_div_eq_div_mul,Nat.pow_succ,Nat.mul_comm (256^n) 256];rfl
theorem Qr7 (m k:Nat):((m / 256^k % 256:Nat):Int)=(m:Int) / 2^(8*k) % 256:=by
 have h:(256:Nat)^k=2^(8*k):=by rw [Nat.pow_mul]
 rw [h];simp
theorem Only.fresh {lo:Nat} {a b c:World} (h:Only (fun _=>False) a b) (hl:a.heap.size≤lo) (k:Only (fun k=>lo≤k) b c):Only (fun _=>False) a c:=h.trans k (fun i hi e=>by omega)
theorem Qh9 (n:Nat) (hn:n≤1000000000000) (w:World):Calls prog 149 #[.int .i64 (n:Int)] w fun e w'=>e=.returned (.int .i64 ((flN n:Nat):Int))∧w=w':=by
 obtain ⟨r,hr⟩:∃r,r=n % 16:=⟨_,rfl⟩
 have e1:(n:Int) % 16=(r:Int):=by omega
 have hr16:r<16:=by omega
 have HF:Hid (flN n=(16 - r) % 16):=by show _=_;unfold flN;rw [hr]
 clear hr;go_enter func149,ntmps149;go_wp2;go_ret;refine ⟨Qa0 ?_,rfl⟩;rw [HF.out];omega
theorem Qph (v:Value) (lo n m:Nat) (xs:List Int) (hm:m≤1000000000000) (hn:n≤1000000000000) (w:World) (hown:w.ownsRow lo 5 1 v n (bl xs)) (hlo:lo≤w.heap.size) :
  Calls prog 150 #[v,.int .i64 (m:Int)] w fun e w'=>∃v',e=.returned v'∧w'.ownsRow lo 5 1 v' (n+8) (bl (xs++leB 8 m))∧Only (fun k=>lo≤k) w w':=by
 obtain ⟨i0,hi,hz0,hz1,hz2⟩:=info_parts Tryz.infoU8
 have S0:Hid (w.ownsRow lo 5 1 v (n+0) (bl (xs++leB 0 m))):=by
  show World.ownsRow _ _ _ _ _ _ _
  rw [show leB 0 m=[] from rfl,List.append_nil];exact hown
 clear hown;go_enter func150,ntmps150;go_wp2
 go_loopw [0,6] (fun o i wr=>∃k:Nat,k≤8∧i=.int .i64 k∧wr.ownsRow lo 5 1 o (n+k) (bl (xs++leB k m))∧Only (fun k=>lo≤k) w wr) (fun _ i _=>8 - (intOf i).toNat)
 case atStart=>exact ⟨0,by omega,rfl,S0.out,Only.refl _ _⟩
 case round =>
  obtain ⟨k,hk,rfl,hown,hon⟩:=hrel;have hsz:=hon.size
  by_cases hlt:k<8
  ·obtain ⟨ao1,cap1,rfl⟩:=Qad hown
   have HX:Hid (bl (xs++leB (k+1) m)=bl (xs++leB k m)++[(m:Int) / 2^(8*k) % 256].map (Value.int .u8)):=by
    show _=_
    rw [Qn6,Qr7,←List.append_assoc];exact List.map_append ..
   obtain ⟨L,hL⟩:∃L,L=bl (xs++leB k m):=⟨_,rfl⟩;rw [←hL] at hown HX;have HOWN:=Qaa hown;have HON:=Qaa hon;obtain ⟨s,hs⟩:∃s,s=8*k:=⟨_,rfl⟩
   have s2:(k:Int)*8=(s:Int):=by omega
   have s3:(s:Int)≤56:=by omega
   rw [←hs] at HX;obtain ⟨q,hq⟩:∃q,q=n+k:=⟨_,rfl⟩
   have hql:q≤1000000000100:=by omega
   rw [←hq] at HOWN ⊢;obtain ⟨x,hx⟩:∃x,x=(m:Int) / 2^s % 256:=⟨_,rfl⟩;have BL:=Qaa (Bs.litN .u8 wr 5 [(m:Int) / 2^s % 256] _ _ rfl rfl);have HQ:=Qaa hq;clear hown hon hs hL hx hq;go_wp2_with (at_builtin;refine Qab _ rfl _ _ 22 rfl lo 5 i0 (.int .u8 0) 1 underlying22 hi hz0 hz1 hz2 rfl _ q L rfl (HOWN.out.alloc _) .u8 _ [(m:Int) / 2^s % 256] rfl BL.out (NoCap.some _ _ _) (by simp [maxLen];omega) (by simp;omega) (by simp;omega) ?_;intro v' w3 hown' hgrow2 hnil2 hob2)
   have M1:Hid (w3.ownsRow lo 5 1 v' (n+(k+1)) (bl (xs++leB (k+1) m))∧Only (fun k=>lo≤k) w w3):=by
    refine ⟨?_,(HON.out.alloc _).grown hgrow2 (fun j hj e=>(HOWN.out.lt j e).1)⟩;rw [HX.out,show n+(k+1)=q+1 by rw [HQ.out];omega];exact hown'
   clear hown' hgrow2 hnil2 hob2 HOWN HON BL HX;go_wp2
   go_roundw
   case rel=>exact ⟨k+1,by omega,by go_num,M1.out⟩
   case measure=>simp [intOf];omega
  ·obtain rfl:k=8:=by omega
   have F1:=Qaa (And.intro hown hon);clear hown hon;go_wp2;go_ret;exact ⟨_,rfl,F1.out⟩
def pfl (ls:Nat→List Int):Nat→List Int
 | 0=>[]
 | k+1=>pfl ls k++fl (ls k)
def pln (ls:Nat→List Int):Nat→List Int
 | 0=>[]
 | k+1=>pln ls k++leB 8 (ls k).length
def Pcs (w:World) (p n:Nat) (ls:Nat→List Int):Prop:=∀i,i<n→∃u,w.cell? ⟨p,i,none⟩=some u∧Bs .u8 w u (ls i)∧NoCap u∧(ls i).length≤100000000000
theorem Qfn {w w':World} {q:Addr} {u:Value} (h:w.cell? q=some u) (o:Only (fun _=>False) w w'):w'.cell? q=some u:=by
 rw [←h];exact World.cell?_of_block (o.block _ (World.block_lt_of_cell? w _ h) (fun f=>f))
theorem Qs8 (ls:Nat→List Int) (k:Nat):(pln ls k).length=8*k:=by
 induction k with
 | zero=>rfl
 | succ k ih=>rw [pln,Yae,ih,QdB];omega
theorem Qs9 (ls:Nat→List Int) (n k:Nat) (h:∀i,i<n→(ls i).length≤100000000000) (hk:k≤n):(pfl ls k).length≤100000000015*k:=by
 induction k with
 | zero=>exact Nat.zero_le _
 | succ k ih =>
  have h1:=ih (by omega);have h2:=h k (by omega);have h3:=QiN (ls k).length;rw [pfl,Yae,Qk7];omega
theorem Qq5 (a b:List Int):bl (a++b)=bl a++bl b:=List.map_append ..
theorem QkP (p n:Nat) (ls:Nat→List Int) (hn:n≤2) (w:World) (hp:Pcs w p n ls) :
  Calls prog 103 #[.slice (some ⟨p,0,none⟩) n n] w fun e w'=>∃v,e=.returned v∧w'.ownsRow w.heap.size 5 1 v (pfl ls n++pln ls n).length (bl (pfl ls n++pln ls n))∧Only (fun _=>False) w w':=by
 obtain ⟨i0,hi,hz0,hz1,hz2⟩:=info_parts Tryz.infoU8;have HP:=Qaa hp
 have HL:Hid (∀k,k≤n→(pfl ls k).length≤100000000015*k):=fun k hk=>Qs9 ls n k (fun i hi=>by obtain ⟨_,_,_,_,h⟩:=hp i hi;exact h) hk
 clear hp;go_enter func103,ntmps103;go_wp2
 go_loopw [3,10] (fun o i wr=>∃k:Nat,k≤n∧i=.int .i64 k∧wr.ownsRow w.heap.size 5 1 o (pfl ls k).length (bl (pfl ls k))∧Only (fun _=>False) w wr) (fun _ i _=>n - (intOf i).toNat)
 case atStart=>exact ⟨0,by omega,rfl,World.ownsRow_nil ..,Only.refl _ _⟩
 case round =>
  obtain ⟨k,hk,rfl,hown,hon⟩:=hrel;have hsz:=hon.size
  by_cases hlt:k<n
  ·obtain ⟨u,hu,hbu,hnc,hll⟩:=HP.out k hlt
   have hlen:=HL.out k hk;have hc:wr.cell? ⟨p,k,none⟩=some u:=Qfn hu hon;obtain ⟨ua,uc,rfl⟩:=hbu.len;have BU:=Qaa (And.intro (hbu.past hon) hnc)
   have HX:Hid (bl (pfl ls (k+1))=bl ((pfl ls k++ls k)++List.replicate (flN (ls k).length) 0)∧(pfl ls (k+1)).length=(pfl ls k).length+(ls k).length+flN (ls k).length):=by
    refine ⟨?_,?_⟩
    ·rw [pfl,fl,List.append_assoc]
    ·rw [pfl,Yae,Qk7];omega
   obtain ⟨m,hm⟩:∃m,m=(ls k).length:=⟨_,rfl⟩;have HM:=Qaa hm
   have hml:m≤100000000000:=by omega
   obtain ⟨q,hq⟩:∃q,q=(pfl ls k).length:=⟨_,rfl⟩
   have hql:q≤200000000030:=by omega
   have A:=Qaa (Qh9 m (by omega));have hf:=QiN m;rw [←hm] at HX;obtain ⟨f,hff⟩:∃f,f=flN m:=⟨_,rfl⟩;rw [←hff] at A HX hf;rw [←hq] at hown HX;rw [←hm] at hc BU;have HOWN:=Qaa hown;have HON:=Qaa hon
   have i0':(0:Int)≤(k:Int):=by omega
   have i1:(k:Int)<(n:Int):=by omega
   have ZR:Hid (∀(v1:Value) (w1:World),w1.ownsRow w.heap.size 5 1 v1 (q+m) (bl (pfl ls k++ls k))→w.heap.size≤w1.heap.size→∃v' w',(Builtin.append_ #[22,3] 22 #[v1,.int .i64 (f:Int)]).run prog w1=.ok v' w'∧w'.ownsRow w.heap.size 5 1 v' (q+m+f) (bl ((pfl ls k++ls k)++List.replicate f 0))∧w1.grownBy w' v1.ownBlock):=fun v1 w1 h1 h2=>QnZ w1 w.heap.size v1 (q+m) _ h1 f (by omega) h2
   clear hm hq hff hown hon hu hbu hnc hll hlen
   go_wp2_with (first
    | (at_builtin;refine Qab _ rfl _ _ 22 rfl w.heap.size 5 i0 (.int .u8 0) 1 underlying22 hi hz0 hz1 hz2 rfl u3 q (bl (pfl ls k)) rfl HOWN.out .u8 (.slice ua m uc) (ls k) rfl BU.out.1 BU.out.2 (by rw [←HM.out];unfold maxLen;omega) (by rw [←HM.out];omega) (by omega) ?_;intro v1 w1 hown1 hgrow1 hnil1 hob1))
   have O1:Hid (Only (fun _=>False) w w1):=HON.out.grown hgrow1 (fun j hj e=>by have:=(HOWN.out.lt j e).1;omega)
   have W1:Hid (w1.ownsRow w.heap.size 5 1 v1 (q+m) (bl (pfl ls k++ls k))):=by
    show World.ownsRow _ _ _ _ _ _ _
    rw [Qq5,HM.out];exact hown1
   clear hown1 hgrow1 hnil1 hob1 HOWN HON BU;refine (A.out w1).mono ?_;rintro e w2 ⟨rfl,rfl⟩;obtain ⟨v3,w3,hrun,hown3,hgrow3⟩:=ZR.out v1 w1 W1.out O1.out.size;go_wp2_with (first|(at_builtin;refine Qc1 _ rfl _ _ 22 3 rfl v1 (.int .i64 (f:Int)) rfl rfl v3 w3 hrun ?_))
   have N1:Hid (w3.ownsRow w.heap.size 5 1 v3 (pfl ls (k+1)).length (bl (pfl ls (k+1)))∧Only (fun _=>False) w w3):=by
    refine ⟨?_,O1.out.grown hgrow3 (fun j hj e=>by have:=(W1.out.lt j e).1;omega)⟩;rw [HX.out.1,HX.out.2];exact hown3
   clear hrun hown3 hgrow3 W1 O1 A ZR HX;go_wp2
   go_roundw
   case rel=>exact ⟨k+1,by omega,by go_num,N1.out⟩
   case measure=>simp [intOf];omega
  ·obtain rfl:k=n:=by omega
   have hlen:=HL.out k hk
   have S0:Hid (wr.ownsRow w.heap.size 5 1 u3 (pfl ls k++pln ls 0).length (bl (pfl ls k++pln ls 0))∧Only (fun _=>False) w wr):=by
    rw [pln,List.append_nil];exact ⟨hown,hon⟩
   have HLE:=Qaa hlen;clear hown hon hsz hlen HL;go_wp2
   go_loopw [3,25] (fun o i wr=>∃j:Nat,j≤k∧i=.int .i64 j∧wr.ownsRow w.heap.size 5 1 o (pfl ls k++pln ls j).length (bl (pfl ls k++pln ls j))∧Only (fun _=>False) w wr) (fun _ i _=>k - (intOf i).toNat)
   case atStart=>exact ⟨0,by omega,rfl,S0.out⟩
   case round =>
    obtain ⟨j,hj,rfl,hown,hon⟩:=hrel;clear S0
    by_cases hlt:j<k
    ·obtain ⟨u,hu,hbu,hnc,hll⟩:=HP.out j hlt
     have hc:wr.cell? ⟨p,j,none⟩=some u:=Qfn hu hon;obtain ⟨ua,uc,rfl⟩:=hbu.len
     have hle:(pfl ls k++pln ls j).length≤1000000000000:=by
      have h1:=HLE.out;rw [Yae,Qs8];omega
     have A:=Qaa (Qph u3 w.heap.size (pfl ls k++pln ls j).length (ls j).length (pfl ls k++pln ls j) (by omega) hle wr hown hon.size)
     have HX:Hid (pfl ls k++pln ls (j+1)=(pfl ls k++pln ls j)++leB 8 (ls j).length∧(pfl ls k++pln ls (j+1)).length=(pfl ls k++pln ls j).length+8):=by
      refine ⟨?_,?_⟩
      ·rw [pln,List.append_assoc]
      ·rw [pln,←List.append_assoc,Yae,QdB]
     have HON:=Qaa hon;obtain ⟨m,hm⟩:∃m,m=(ls j).length:=⟨_,rfl⟩;rw [←hm] at A HX hc
     have i0':(0:Int)≤(j:Int):=by omega
     have i1:(j:Int)<(k:Int):=by omega
     clear hown hon hu hbu hnc hll hle hm;go_wp2_with fail;refine A.out.mono ?_;rintro e w1 ⟨v1,rfl,hown1,hon1⟩
     have N1:Hid (w1.ownsRow w.heap.size 5 1 v1 (pfl ls k++pln ls (j+1)).length (bl (pfl ls k++pln ls (j+1)))∧Only (fun _=>False) w w1):=by
      refine ⟨?_,HON.out.fresh (Nat.le_refl _) hon1⟩;rw [HX.out.2,HX.out.1];exact hown1
     clear hown1 hon1 HX HON A;go_wp2
     go_roundw
     case rel=>exact ⟨j+1,by omega,by go_num,N1.out⟩
     case measure=>simp [intOf];omega
    ·obtain rfl:j=k:=by omega
     have F1:=Qaa (And.intro hown hon);clear hown hon;go_wp2;go_ret;exact ⟨_,rfl,F1.out⟩
theorem QkQ (p:Nat) (va vc:Value) (ad c:List Int) (w:World) (hb:Blk w p 22 [va,vc]) (ba:Bs .u8 w va ad) (na:NoCap va) (la:ad.length≤100000000000) (bc:Bs .u8 w vc c) (nc:NoCap vc) (lc:c.length≤100000000000) :
  Calls prog 103 #[.slice (some ⟨p,0,none⟩) 2 2] w fun e w'=>∃v,e=.returned v∧w'.ownsRow w.heap.size 5 1 v (ATX ad c).length (bl (ATX ad c))∧Only (fun _=>False) w w':=by
 have h:=QkP p 2 (fun i=>if i=0 then ad else c) (Nat.le_refl _) w (fun i hi=>by
  by_cases h0:i=0
  ·subst h0
   exact ⟨va,by rw [hb.cell];rfl,ba,na,la⟩
  ·obtain rfl:i=1:=by omega
   exact ⟨vc,by rw [hb.cell];rfl,bc,nc,lc⟩)
 have e:pfl (fun i=>if i=0 then ad else c) 2++pln (fun i=>if i=0 then ad else c) 2=ATX ad c:=by
  simp [pfl,pln,ATX]
 rw [e] at h;exact h
theorem Quv (n:Nat) (h2:n≤31):bits .and .u64 (n:Int) 31=(n:Int):=by
 rw [show (31:Int)=((31:Nat):Int) from rfl,u64_and_nat _ _ (by omega) (by omega),show (31:Nat)=2^5 - 1 from rfl,Nat.and_two_pow_sub_one_eq_mod];omega
theorem Qne (x s m:Nat) (hx:x<4294967296) (h1:1≤s) (h2:s≤31) (hm:m=32 - s):bits .or .u32 ((x:Int)*2^s % 4294967296) ((x:Int) / 2^(32 - s))=((rotw x m:Nat):Int):=by
 subst hm
 rw [show ((x:Int)*2^s % 4294967296)=((x*2^s % 4294967296:Nat):Int) by simp,show ((x:Int) / 2^(32 - s))=((x / 2^(32 - s):Nat):Int) by simp,
  u32_or_nat _ _ (Nat.mod_lt _ (by decide)) (QjN _ _ hx)]
 unfold rotw;rw [Nat.or_comm,show 32 - (32 - s)=s by omega]
theorem Qd4 (x n m:Nat) (w:World) (hx:x<4294967296) (h1:1≤n) (h2:n≤31) (hm:m=32 - n) :
  Calls prog 231 #[.int .u32 x,.int .i64 n] w fun e w'=>e=.returned (.int .u32 (rotw x m:Nat))∧w=w':=by
 have hb:=Quv n h2
 have hw:IntKind.u64.wrap (n:Int)=(n:Int):=by simp [IntKind.wrap,IntKind.bits,IntKind.signed];omega
 have HL:=Qaa (Qne x n m hx h1 h2 hm);clear hm;go_enter func231,ntmps231;go_wp2;go_ret;exact ⟨Qa0 HL.out,rfl⟩
theorem QeK (a b:Nat):IntKind.u32.wrap ((a:Int)+(b:Int))=(((a+b) % 4294967296:Nat):Int):=by
 rw [IntKind.wrap_u32'];omega
theorem Qhb {fn:Func} {a b c d:Tmp} (h:fn.results=#[.tmp a,.tmp b,.tmp c,.tmp d]) (tmps:Array Value) (P:Program) (w:World):(results fn tmps).run P w=.ok (.tuple #[tmps.getD a undef,tmps.getD b undef,tmps.getD c undef,tmps.getD d undef]) w:=by
 simp [results,h]
def q4v (q:Q4):Value:=.tuple #[.int .u32 (q.a:Nat),.int .u32 (q.b:Nat),.int .u32 (q.c:Nat),.int .u32 (q.d:Nat)]
structure Steps (a b c d a1 x1 d1 c1 x2 b1 a2 x3 d2 c2 x4 b2:Nat):Prop where
 s1:IntKind.u32.wrap ((a:Int)+(b:Int))=(a1:Int)
 s2:bits .xor .u32 (d:Int) (a1:Int)=(x1:Int)
 s3:d1=rotw x1 16
 s4:IntKind.u32.wrap ((c:Int)+(d1:Int))=(c1:Int)
 s5:bits .xor .u32 (b:Int) (c1:Int)=(x2:Int)
 s6:b1=rotw x2 20
 s7:IntKind.u32.wrap ((a1:Int)+(b1:Int))=(a2:Int)
 s8:bits .xor .u32 (d1:Int) (a2:Int)=(x3:Int)
 s9:d2=rotw x3 24
 s10:IntKind.u32.wrap ((c1:Int)+(d2:Int))=(c2:Int)
 s11:bits .xor .u32 (b1:Int) (c2:Int)=(x4:Int)
 s12:b2=rotw x4 25
 l1:x1<4294967296
 l2:x2<4294967296
 l3:x3<4294967296
 l4:x4<4294967296
 q:qrt ⟨a,b,c,d⟩=⟨a2,b2,c2,d2⟩
theorem steps (a b c d:Nat) (_ha:a<4294967296) (hb:b<4294967296) (_hc:c<4294967296) (hd:d<4294967296):∃a1 x1 d1 c1 x2 b1 a2 x3 d2 c2 x4 b2,Steps a b c d a1 x1 d1 c1 x2 b1 a2 x3 d2 c2 x4 b2:=by
 have la:(a+b) % 4294967296<4294967296:=Nat.mod_lt _ (by decide);have l1:=Qdq hd la;have ld:=Qce _ 16 l1;have lc:(c+rotw (d ^^^ ((a+b) % 4294967296)) 16) % 4294967296<4294967296:=Nat.mod_lt _ (by decide);have l2:=Qdq hb lc;have lb:=Qce _ 20 l2;have la2:((a+b) % 4294967296+rotw (b ^^^ ((c+rotw (d ^^^ ((a+b) % 4294967296)) 16) % 4294967296)) 20) % 4294967296<4294967296:=Nat.mod_lt _ (by decide);have l3:=Qdq ld la2;have ld2:=Qce _ 24 l3;have lc2:((c+rotw (d ^^^ ((a+b) % 4294967296)) 16) % 4294967296+rotw (rotw (d ^^^ ((a+b) % 4294967296)) 16 ^^^ (((a+b) % 4294967296+rotw (b ^^^ ((c+rotw (d ^^^ ((a+b) % 4294967296)) 16) % 4294967296)) 20) % 4294967296)) 24) % 4294967296<4294967296:=Nat.mod_lt _ (by decide);have l4:=Qdq lb lc2;exact ⟨_,_,_,_,_,_,_,_,_,_,_,_,QeK _ _,u32_xor_nat _ _ hd la,rfl,QeK _ _,u32_xor_nat _ _ hb lc,rfl,QeK _ _,u32_xor_nat _ _ ld la2,rfl,QeK _ _,u32_xor_nat _ _ lb lc2,rfl,l1,l2,l3,l4,rfl⟩
theorem Qir (a b c d:Nat) (w:World) (ha:a<4294967296) (hb:b<4294967296) (hc:c<4294967296) (hd:d<4294967296) :
  Calls prog 201 #[.int .u32 a,.int .u32 b,.int .u32 c,.int .u32 d] w fun e w'=>e=.returned (q4v (qrt ⟨a,b,c,d⟩))∧w=w':=by
 obtain ⟨a1,x1,d1,c1,x2,b1,a2,x3,d2,c2,x4,b2,S⟩:=steps a b c d ha hb hc hd;have A:=Qaa (Qd4 x1 16 16 w S.l1 (by decide) (by decide) rfl);have B:=Qaa (Qd4 x2 12 20 w S.l2 (by decide) (by decide) rfl);have C:=Qaa (Qd4 x3 8 24 w S.l3 (by decide) (by decide) rfl);have D:=Qaa (Qd4 x4 7 25 w S.l4 (by decide) (by decide) rfl);rw [←S.s3] at A;rw [←S.s6] at B;rw [←S.s9] at C;rw [←S.s12] at D;rw [S.q];obtain ⟨s1,s2,-,s4,s5,-,s7,s8,-,s10,s11,-,-,-,-,-,-⟩:=S;clear ha hb hc hd;go_enter func201,ntmps201;go_wp2_with fail;refine A.out.mono ?_;rintro e w1 ⟨rfl,rfl⟩;go_wp2_with fail;refine B.out.mono ?_;rintro e w1 ⟨rfl,rfl⟩;go_wp2_with fail;refine C.out.mono ?_;rintro e w1 ⟨rfl,rfl⟩;go_wp2_with fail;refine D.out.mono ?_;rintro e w1 ⟨rfl,rfl⟩;go_wp2
 try simp only [Exit.inBlock,Exit.then]
 exact bodyPost_ret (Qhb rfl _ _ _) rfl ⟨rfl,rfl⟩
end Go.Proofs.YtnhapmboienipaaGreatDoor
