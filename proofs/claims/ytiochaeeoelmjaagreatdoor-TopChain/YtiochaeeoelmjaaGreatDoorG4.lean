import Derived.Test.YtiochaeeoelmjaaGreatDoorG2
import Derived.Deep.WholeRow
import Derived.Great.BuildSlice
import Derived.Deep.RegionHeld3
import Derived.Deep.RegionLaw
namespace Go.Proofs.YtiochaeeoelmjaaGreatDoor
set_option maxHeartbeats 1600000
set_option maxRecDepth 100000
open Go.RowKit _root_.Go.Proofs.Tryz
variable {w w' W:World} {v:Value} {ys xs l:LI} {R n p k g B:Nat} {P:Program} {ls:List (LI)} {E:TypeId}
def w32:Nat:=4294967296
def rotw (x n:Nat):Nat:=(x / 2^n) ||| (x*2^(32 - n) % 4294967296)
def shK:List Nat:=[0x428a2f98,0x71374491,0xb5c0fbcf,0xe9b5dba5,0x3956c25b,0x59f111f1,0x923f82a4,0xab1c5ed5,
 0xd807aa98,0x12835b01,0x243185be,0x550c7dc3,0x72be5d74,0x80deb1fe,0x9bdc06a7,0xc19bf174,
 0xe49b69c1,0xefbe4786,0x0fc19dc6,0x240ca1cc,0x2de92c6f,0x4a7484aa,0x5cb0a9dc,0x76f988da,
 0x983e5152,0xa831c66d,0xb00327c8,0xbf597fc7,0xc6e00bf3,0xd5a79147,0x06ca6351,0x14292967,
 0x27b70a85,0x2e1b2138,0x4d2c6dfc,0x53380d13,0x650a7354,0x766a0abb,0x81c2c92e,0x92722c85,
 0xa2bfe8a1,0xa81a664b,0xc24b8b70,0xc76c51a3,0xd192e819,0xd6990624,0xf40e3585,0x106aa070,
 0x19a4c116,0x1e376c08,0x2748774c,0x34b0bcb5,0x391c0cb3,0x4ed8aa4a,0x5b9cca4f,0x682e6ff3,
 0x748f82ee,0x78a5636f,0x84c87814,0x8cc70208,0x90befffa,0xa4506ceb,0xbef9a3f7,0xc67178f2]
def shH:List Nat:=[0x6a09e667,0xbb67ae85,0x3c6ef372,0xa54ff53a,0x510e527f,0x9b05688c,0x1f83d9ab,0x5be0cd19]
def sg0 (y:Nat):Nat:=rotw y 7 ^^^ rotw y 18 ^^^ (y / 8)
def sg1 (x:Nat):Nat:=rotw x 17 ^^^ rotw x 19 ^^^ (x / 1024)
def V8 (a:Nat):Nat:=rotw a 2 ^^^ rotw a 13 ^^^ rotw a 22
def Vj (e:Nat):Nat:=rotw e 6 ^^^ rotw e 11 ^^^ rotw e 25
def chw (e f g:Nat):Nat:=(e &&& f) ^^^ ((4294967295 - e) &&& g)
def majw (a b c:Nat):Nat:=(a &&& b) ^^^ (a &&& c) ^^^ (b &&& c)
def wd4 (b:LI) (t:Nat):Nat:=(b.getD (4*t) 0).toNat*16777216+(b.getD (4*t+1) 0).toNat*65536+(b.getD (4*t+2) 0).toNat*256+(b.getD (4*t+3) 0).toNat
def nextw (w:List Nat):Nat:=(sg1 (w.getD (w.length - 2) 0)+w.getD (w.length - 7) 0+sg0 (w.getD (w.length - 15) 0)+w.getD (w.length - 16) 0) % 4294967296
def wext:Nat->List Nat->List Nat
 | 0,w=>w
 | n+1,w=>wext n (w++[nextw w])
def wds (b:LI):List Nat:=wext 48 ((List.range 16).map (wd4 b))
def rnd (s:List Nat) (k w:Nat):List Nat :=
 [(s.getD 7 0+Vj (s.getD 4 0)+chw (s.getD 4 0) (s.getD 5 0) (s.getD 6 0)+k+w+V8 (s.getD 0 0)+majw (s.getD 0 0) (s.getD 1 0) (s.getD 2 0)) % 4294967296,
 s.getD 0 0,s.getD 1 0,s.getD 2 0,(s.getD 3 0+s.getD 7 0+Vj (s.getD 4 0)+chw (s.getD 4 0) (s.getD 5 0) (s.getD 6 0)+k+w) % 4294967296,s.getD 4 0,s.getD 5 0,s.getD 6 0]
def rnds (s:List Nat) (w:List Nat) (t:Nat):List Nat:=(List.range t).foldl (λs i=>rnd s (shK.getD i 0) (w.getD i 0)) s
def thru (s:List Nat) (b:LI):List Nat:=(List.range 8).map λi=>(s.getD i 0+(rnds s (wds b) 64).getD i 0) % 4294967296
def zpad (n:Nat):Nat:=(119 - n % 64) % 64
def be8 (v:Nat):LI:=(List.range 8).map λi=>((v / 256^(7 - i) % 256:Nat):Int)
def be4 (v:Nat):LI:=(List.range 4).map λi=>((v / 256^(3 - i) % 256:Nat):Int)
def padS (b:LI):LI:=b++128 :: (List.replicate (zpad b.length) 0++be8 (8*b.length))
def thrus (s:List Nat) (p:LI) (k:Nat):List Nat:=(List.range k).foldl (λs i=>thru s ((p.drop (64*i)).take 64)) s
def QL (b:LI):LI:=(thrus shH (padS b) ((padS b).length / 64)).flatMap be4
theorem Hx (v:Nat):(be8 v).length=8:=by simp[be8]
theorem VU (s:List Nat) (b:LI):(thru s b).length=8:=by simp[thru]
theorem Pq (s:List Nat) (w:List Nat) (t:Nat):rnds s w (t+1)=rnd (rnds s w t) (shK.getD t 0) (w.getD t 0):=by
 unfold rnds;rw[List.range_succ,List.foldl_append];rfl
theorem ZU (s:List Nat) (p:LI) (k:Nat):thrus s p (k+1)=thru (thrus s p k) ((p.drop (64*k)).take 64):=by
 unfold thrus;rw[List.range_succ,List.foldl_append];rfl
theorem Ag (s:List Nat) (p:LI):thrus s p 0=s:=rfl
theorem uW (s:List Nat) (b:LI):∀x∈thru s b,x<4294967296:=by
 intro x hx;simp only[thru,List.mem_map] at hx;obtain⟨i,_,rfl⟩:=hx;exact Nat.mod_lt _ (by decide)
theorem tp (p:LI) (k:Nat):(thrus shH p k).length=8:=by
 cases k with
 | zero=>rfl
 | succ k=>rw[ZU];exact VU _ _
theorem zZ (v:Nat):(be4 v).length=4:=by simp[be4]
theorem qL (l:List Nat):(l.flatMap be4).length=4*l.length:=by
 induction l with
 | nil=>rfl
 | cons a t ih=>rw[List.flatMap_cons,Qb,zZ,ih,Qk];omega
theorem Y2 (b:LI):(QL b).length=32:=by unfold QL;rw[qL,tp]
theorem tq (v:Nat):∀y∈be4 v,0<=y∧y<=255:=by
 intro y hy;simp only[be4,List.mem_map] at hy;obtain⟨i,_,rfl⟩:=hy;have:v / 256^(3 - i) % 256<256:=Nat.mod_lt _ (by decide);omega
theorem ZV (b:LI):∀y∈QL b,0<=y∧y<=255:=by
 intro y hy;simp only[QL,List.mem_flatMap] at hy;obtain⟨v,_,h⟩:=hy;exact tq v y h
def U8 (b:LI):Prop:=∀y∈b,0<=y∧y<=255
theorem U8.at {b:LI} (h:U8 b) (j:Nat):0<=b.getD j 0∧b.getD j 0<=255:=by
 rw[Qc]
 by_cases hj:j<b.length
 ·rw[Qh hj];exact h _ (List.getElem_mem hj)
 ·rw[List.getElem?_eq_none (by omega)];decide
theorem U8.app {a b:LI} (h:U8 a) (k:U8 b):U8 (a++b):=λy hy=>by
 rcases List.mem_append.1 hy with h1 | h1
 ·exact h y h1
 ·exact k y h1
theorem U8.take {a:LI} (h:U8 a) (n:Nat):U8 (a.take n):=λy hy=>h y (List.mem_of_mem_take hy)
theorem U8.drop {a:LI} (h:U8 a) (n:Nat):U8 (a.drop n):=λy hy=>h y (List.mem_of_mem_drop hy)
def W32 (s:List Nat):Prop:=∀x∈s,x<4294967296
theorem W32.at {s:List Nat} (h:W32 s) (j:Nat):s.getD j 0<4294967296:=by
 rw[Qc]
 by_cases hj:j<s.length
 ·rw[Qh hj];exact h _ (List.getElem_mem hj)
 ·rw[List.getElem?_eq_none (by omega)];decide
theorem W32.app {a b:List Nat} (h:W32 a) (k:W32 b):W32 (a++b):=λy hy=>by
 rcases List.mem_append.1 hy with h1 | h1
 ·exact h y h1
 ·exact k y h1
theorem W32.one {x:Nat} (h:x<4294967296):W32 [x]:=λy hy=>by simp at hy;subst hy;exact h
def accw (b:LI) (k:Nat):Nat->Nat
 | 0=>0
 | m+1=>accw b k m*256+(b.getD (4*k+m) 0).toNat
theorem TP (b:LI) (h:U8 b) (k:Nat):∀m,accw b k m<256^m:=by
 intro m
 induction m with
 | zero=>exact Nat.zero_lt_one
 | succ m ih =>
  have:=h.at (4*k+m);have e:256^(m+1)=256^m*256:=Nat.pow_succ ..
  show accw b k m*256+(b.getD (4*k+m) 0).toNat < _
  rw[e];omega
theorem ML (b:LI) (k:Nat):accw b k 4=wd4 b k:=by
 simp only[accw,wd4,Nat.add_zero];omega
def wpart (b:LI) (i:Nat):List Nat:=(List.range 64).map λk=>accw b k (min 4 (i - 4*k))
theorem qu (b:LI) (i:Nat):(wpart b i).length=64:=by simp[wpart]
theorem zV (b:LI) (i k:Nat) (hk:k<64):(wpart b i).getD k 0=accw b k (min 4 (i - 4*k)):=by
 simp[wpart,List.getD_eq_getElem?_getD,hk]
theorem El (b:LI):wpart b 0=List.replicate 64 0:=by
 apply List.ext_getElem
 ·simp[wpart]
 ·intro i h1 h2
  simp only[wpart,List.getElem_map,List.getElem_range,List.getElem_replicate];rw[show min 4 (0 - 4*i)=0 by omega];rfl
theorem C7 (b:LI) (i:Nat) (_hi:i<64):(wpart b i).getD (i / 4) 0=accw b (i / 4) (i % 4):=by
 rw[zV b i _ (by omega),show min 4 (i - 4*(i / 4))=i % 4 by omega]
theorem Au (b:LI) (i:Nat) (_hi:i<64):wpart b (i+1)=(wpart b i).set (i / 4) (accw b (i / 4) (i % 4)*256+(b.getD i 0).toNat):=by
 apply List.ext_getElem
 ·simp[wpart]
 ·intro k h1 h2
  have hk:k<64:=by simpa [wpart] using h1
  rw[List.getElem_set]
  by_cases e:i / 4=k
  ·rw[if_pos e]
   simp only[wpart,List.getElem_map,List.getElem_range];subst e;rw[show min 4 (i+1 - 4*(i / 4))=i % 4+1 by omega]
   show accw b (i / 4) (i % 4)*256+(b.getD (4*(i / 4)+i % 4) 0).toNat=_
   rw[show 4*(i / 4)+i % 4=i by omega]
  ·rw[if_neg e]
   simp only[wpart,List.getElem_map,List.getElem_range];rw[show min 4 (i+1 - 4*k)=min 4 (i - 4*k) by omega]
theorem pQ (b:LI):wpart b 64=(List.range 16).map (wd4 b)++List.replicate 48 0:=by
 apply List.ext_getElem
 ·simp[wpart]
 ·intro k h1 h2
  have hk:k<64:=by simpa [wpart] using h1
  by_cases h:k<16
  ·rw[List.getElem_append_left (by simpa using h)]
   simp only[wpart,List.getElem_map,List.getElem_range];rw[show min 4 (64 - 4*k)=4 by omega,ML]
  ·rw[List.getElem_append_right (by simp;omega)]
   simp only[wpart,List.getElem_map,List.getElem_range,List.getElem_replicate];rw[show min 4 (64 - 4*k)=0 by omega];rfl
theorem vU (b:LI) (h:U8 b) (k:Nat):wd4 b k<4294967296:=by rw[<-ML];exact TP b h k 4
theorem Nm:∀(n:Nat) (w:List Nat),wext (n+1) w=wext n w++[nextw (wext n w)]:=by
 intro n
 induction n with
 | zero=>intro w;rfl
 | succ n ih=>intro w;rw[show wext (n+1+1) w=wext (n+1) (w++[nextw w]) from rfl,ih];rfl
theorem xN (n:Nat) (w:List Nat):(wext n w).length=w.length+n:=by
 induction n with
 | zero=>rfl
 | succ n ih=>rw[Nm,Qb,ih];rfl
theorem zq (w:List Nat):nextw w<4294967296:=Nat.mod_lt _ (by decide)
def wv (b:LI) (t:Nat):List Nat:=wext (t - 16) ((List.range 16).map (wd4 b))
theorem Dt (b:LI) (t:Nat) (h:16<=t):(wv b t).length=t:=by simp[wv,xN];omega
theorem MZ (b:LI) (t:Nat) (h:16<=t):wv b (t+1)=wv b t++[nextw (wv b t)]:=by
 unfold wv;rw[show t+1 - 16=(t - 16)+1 by omega,Nm]
theorem Cg (b:LI):wv b 64=wds b:=rfl
theorem Zm (b:LI):(wds b).length=64:=Dt b 64 (by decide)
theorem Sm (b:LI) (h:U8 b) (n:Nat):W32 (wv b (16+n)):=by
 induction n with
 | zero =>
  intro x hx;simp[wv,wext] at hx;obtain⟨k,_,rfl⟩:=hx;exact vU b h k
 | succ n ih =>
  rw[<-Nat.add_assoc,MZ b _ (by omega)];exact ih.app (W32.one (zq _))
theorem OG (b:LI) (h:U8 b):W32 (wds b):=Sm b h 48
theorem Fj (V:List Nat) (t x:Nat) (hV:V.length=t) (ht:t<64):(V++List.replicate (64 - t) 0).set t x=(V++[x])++List.replicate (64 - (t+1)) 0:=by
 subst hV;rw[List.set_append_right _ _ (Nat.le_refl _),Nat.sub_self,show 64 - V.length=(64 - (V.length+1))+1 by omega,List.replicate_succ,Qn];simp
theorem jN (V z:List Nat) (k:Nat) (h:k<V.length):(V++z).getD k 0=V.getD k 0:=by
 rw[Qc,Qc,List.getElem?_append_left h]
theorem uf (V:List Nat) (t:Nat) (hV:V.length=t):nextw V=(sg1 (V.getD (t - 2) 0)+V.getD (t - 7) 0+sg0 (V.getD (t - 15) 0)+V.getD (t - 16) 0) % 4294967296:=by
 subst hV;rfl
theorem zu (x b:Nat) (hb:b<256):(x*256) ||| b=x*256+b:=by
 have:=Nat.two_pow_add_eq_or_of_lt (i:=8) (b:=b) (by simpa using hb) x;rw[Nat.mul_comm x 256];exact this.symm
theorem Wn {x y:Nat} (hx:x<4294967296) (hy:y<4294967296):x ^^^ y<4294967296:=Nat.xor_lt_two_pow (n:=32) hx hy
theorem J6 (x n:Nat) (hx:x<4294967296):x / 2^n<4294967296:=Nat.lt_of_le_of_lt (Nat.div_le_self _ _) hx
def keyS (key:LI):LI:=if 64<key.length then QL key else key
def pad64 (key:LI):LI:=keyS key++List.replicate (64 - (keyS key).length) 0
def xorB (x:Nat) (l:LI):LI:=l.map λy=>((y.toNat ^^^ x:Nat):Int)
def MACL (key b:LI):LI:=QL (xorB 92 (pad64 key)++QL (xorB 54 (pad64 key)++b))
theorem Y6 (key b:LI):(MACL key b).length=32:=Y2 _
theorem VX (key b:LI):U8 (MACL key b):=ZV _
theorem rV (key:LI):(keyS key).length<=64:=by
 unfold keyS
 by_cases h:64<key.length
 ·rw[if_pos h,Y2];decide
 ·rw[if_neg h];omega
theorem jp {key:LI} (h:U8 key):U8 (keyS key):=by
 unfold keyS
 by_cases hk:64<key.length
 ·rw[if_pos hk];exact ZV _
 ·rw[if_neg hk];exact h
theorem Te (key:LI):(pad64 key).length=64:=by
 have:=rV key;unfold pad64;rw[Qb,List.length_replicate];omega
theorem vT (n:Nat):U8 (List.replicate n 0):=λy hy=>by
 rw[List.mem_replicate] at hy;obtain⟨_,rfl⟩:=hy;decide
theorem vV {key:LI} (h:U8 key):U8 (pad64 key):=(jp h).app (vT _)
theorem Kd (x:Nat) (l:LI):(xorB x l).length=l.length:=List.length_map ..
theorem Ow (x:Nat) (hx:x<256) {l:LI} (h:U8 l):U8 (xorB x l):=λy hy=>by
 obtain⟨z,hz,rfl⟩:=List.mem_map.1 hy;have h1:=h z hz;have:z.toNat ^^^ x<256:=Nat.xor_lt_two_pow (n:=8) (by omega) hx;omega
def tpc (key info:LI):Nat->LI
 | 0=>[]
 | i+1=>MACL key (tpc key info i++info++[(((i+1) % 256:Nat):Int)])
def tcat (key info:LI):Nat->LI
 | 0=>[]
 | i+1=>tcat key info i++tpc key info (i+1)
theorem Zz (key info:LI) (i:Nat):(tpc key info (i+1)).length=32:=Y6 _ _
theorem ZI (key info:LI) (i:Nat):(tcat key info i).length=32*i:=by
 induction i with
 | zero=>rfl
 | succ i ih=>rw[tcat,Qb,ih,Zz];omega
theorem ue (key info:LI) (i d:Nat):(tcat key info (i+d)).take (32*i)=tcat key info i:=by
 induction d with
 | zero=>exact List.take_of_length_le (Nat.le_of_eq (ZI _ _ _))
 | succ d ih =>
  rw[<-Nat.add_assoc,tcat,List.take_append_of_le_length (by rw[ZI];omega),ih]
def EXPL (key info:LI) (n:Nat):LI:=(tcat key info ((n+31) / 32)).take n
theorem Av (key info:LI) (n:Nat):(EXPL key info n).length=n:=by
 unfold EXPL;rw[Qg,ZI];omega
theorem je (key info:LI) (i:Nat):U8 (tcat key info i):=by
 induction i with
 | zero=>intro y hy;cases hy
 | succ i ih=>exact ih.app (VX _ _)
theorem xg (key info:LI) (n:Nat):U8 (EXPL key info n):=(je _ _ _).take _
def fixB (v:Int) (i:Nat):Int:=v / 2^(8*i) % 256
def fixAt (v:Int) (n k:Nat):LI:=(List.range n).map λj=>if n<=j+k then fixB v (n - 1 - j) else 0
def fixL (v:Int) (n:Nat):LI:=(List.range n).map λj=>fixB v (n - 1 - j)
theorem Zs (v:Int) (n k:Nat):(fixAt v n k).length=n:=by simp[fixAt]
theorem Qv (v:Int) (n:Nat):(fixL v n).length=n:=by simp[fixL]
theorem wV (v:Int) (n:Nat):(fixAt v n 0).map (Value.int .u8)=(madeCells #[Value.int .u8 0] (n*1)).toList:=by
 apply List.ext_getElem?
 intro i
 by_cases h:i<n
 ·simp[fixAt,madeCells,h,Nat.mod_one]
  omega
 ·simp[fixAt,madeCells,h]
theorem lB (v:Int) (n:Nat):fixAt v n n=fixL v n:=by
 unfold fixAt fixL
 apply List.map_congr_left
 intro j _;rw[if_pos (by omega)]
theorem kR (v:Int) (n k:Nat) (h:k<n):(fixAt v n k).set (n - 1 - k) (fixB v k)=fixAt v n (k+1):=by
 apply List.ext_getElem?
 intro i;rw[List.getElem?_set,Zs]
 by_cases hi:i<n
 ·by_cases he:n - 1 - k=i
  ·subst he
   rw[if_pos rfl,if_pos hi];simp only[fixAt,List.getElem?_map,List.getElem?_range hi,Option.map_some];rw[if_pos (by omega),show n - 1 - (n - 1 - k)=k by omega]
  ·rw[if_neg he]
   simp only[fixAt,List.getElem?_map,List.getElem?_range hi,Option.map_some]
   by_cases h1:n<=i+k
   ·rw[if_pos h1,if_pos (by omega)]
   ·rw[if_neg h1,if_neg (by omega)]
 ·rw[if_neg (by omega),List.getElem?_eq_none (by rw[Zs];omega),List.getElem?_eq_none (by rw[Zs];omega)]
theorem Ji (v:Int) (i:Nat):0<=fixB v i∧fixB v i<=255:=by unfold fixB;omega
theorem US (v:Int) (n:Nat):∀y∈fixL v n,0<=y∧y<=255:=by
 intro y hy;simp only[fixL,List.mem_map] at hy;obtain⟨j,_,rfl⟩:=hy;exact Ji _ _
theorem UB (v:Int) (n:Nat) (w:World) (h:n<=8) :
 Calls prog 79 #[.int .u64 v,.int .i64 n] w λe w'=>∃u,e=.returned u∧w'.ownsRow w.heap.size 5 1 u (fixL v n).length ((fixL v n).map (Value.int .u8))∧N0 w w':=by
 obtain⟨i0,hi,hz0,hz1,hz2⟩:=info_parts Tryz.infoU8;obtain⟨wm,h7,h3,h6⟩:=run_make_full (P:=prog) w w.heap.size 23 5 i0 (.int .u8 0) 1 underlying23 hi hz0 hz1 .i64 .i64 n (by rw[hz2];omega) (by unfold maxLen;omega) Zu
 have h0:Hid (wm.ownsRow w.heap.size 5 1 (.slice (some ⟨w.heap.size,0,none⟩) n n) n ((fixAt v n 0).map (Value.int .u8))∧N0 w wm):=by
  rw[show (Value.int .u8 0).cells=#[Value.int .u8 0] from rfl] at h3;rw[wV];exact⟨h3,VG.grown h6 (λ_ _ e=>by cases e)⟩
 clear h3 h6
 have d0:decide ((n:Int)<0)=false:=by simp
 have d8:decide (8<(n:Int))=false:=Qi (by omega);obtain⟨N,hN⟩:=EX w.heap.size;rw[<-hN] at h7 h0;rw[<-hN];have HN:=Qa hN;clear hN;go_enter func79,ntmps79;go_wp2
 go_loopw [17] (λi wr=>∃k:Nat,k<=n∧i=.int .i64 k∧wr.ownsRow N 5 1 (.slice (some ⟨N,0,none⟩) n n) n ((fixAt v n k).map (Value.int .u8))∧N0 w wr) (λi _=>n - (intOf i).toNat)
 case atStart=>exact⟨0,Nat.zero_le _,rfl,h0.o.1,h0.o.2⟩
 case round =>
  obtain⟨k,hk,rfl,h2,h5⟩:=hrel;clear h0 h7
  by_cases hlt:k<n
  ·have h4:∃y,wr.cell? ⟨N,n - 1 - k,none⟩=some (.int .u8 y):=by
    refine⟨(fixAt v n k).getD (n - 1 - k) 0,?_⟩;rw[h2.cellAt (n - 1 - k) (by omega),List.getElem?_map,Qh (by rw[Zs];omega),Qc,Qh (by rw[Zs];omega)]
    rfl
   obtain⟨y,hy⟩:=h4;have hfr:wr.frozen? ⟨N,n - 1 - k,none⟩=false:=h2.frozenAt _
   have i0:(0:Int)<=(n:Int) - 1 - k:=by omega
   have i1:(n:Int) - 1 - k<(n:Int):=by omega
   have it:((n:Int) - 1 - k).toNat=n - 1 - k:=by omega
   have H:=Qa (Vz h2 h5);clear h2 h5;go_wp2
   go_roundw
   case rel =>
    refine⟨k+1,by omega,by go_num,?_,?_⟩
    ·have h1:=(H.o.1.stored (n - 1 - k) (.int .u8 (fixB v k))).1
     rw[<-List.map_set,kR v n k hlt] at h1;exact h1
    ·refine H.o.2.setCell (λhb=>?_) _
     have:=HN.o;simp only at hb;omega
   case measure=>simp[intOf];omega
  ·have hkn:k=n:=by omega
   subst hkn;have H:=Qa (Vz h2 h5);clear h2 h5;go_wp2;go_ret;rw[Qv,<-lB];exact⟨_,rfl,H.o⟩
def blk (b:LI):LI:=gs b.length++b
theorem U2 (b:LI) (h:b.length<=1000000):(blk b).length<=b.length+10:=by
 have:=Yu (v:=b.length) (by omega);simp only[blk,Qb];omega
theorem Kk (b:LI) (hr:∀y∈b,0<=y∧y<=255):∀y∈blk b,0<=y∧y<=255:=by
 intro y hy;simp only[blk,List.mem_append] at hy
 rcases hy with hy | hy
 ·exact UU _ y hy
 ·exact hr y hy
theorem Ke (vb:Value) (ys:LI) (w:World) (hb:Bs .u8 w vb ys) (nb:NoCap vb) (hl:ys.length<=1000000) :
 Calls prog 27 #[vb] w λe w'=>∃v',e=.returned v'∧w'.ownsRow w.heap.size 5 1 v' (blk ys).length ((blk ys).map (Value.int .u8))∧N0 w w':=by
 have HB:=Qa hb;have NB:=Qa nb;have A:=Qa (UO (.slice none 0 0) [] ys.length w (Bs.nil _ _) NoCap.nil (by simp) (by omega) (by omega));rw[List.nil_append,Int.toNat_natCast] at A;have H10:=Qa (Yu (v:=ys.length) (by omega));have HP:=Qa (Zc ys.length);obtain⟨ab,cb,rfl⟩:=hb.len;clear hb nb;go_enter func27,ntmps27;go_wp2_with fail;refine A.o.mono ?_;rintro e w1 ⟨v1,rfl,h0,h1⟩;have h3:Below w1.heap.size w1 (w1.alloc (.cells #[v1,.slice ab ys.length cb] 23)):=(Below.refl _ _).alloc (Nat.le_refl _) _;have CC:=Qa (Ka w1.heap.size v1 (.slice ab ys.length cb) (gs ys.length) ys (w1.alloc (.cells #[v1,.slice ab ys.length cb] 23)) (by go_cell) (by go_cell) ((Bs.of_own h0).later h3) ((HB.o.later (h1.low (Nat.le_refl _))).later h3) (NoCap.of_own h0) NB.o (by have:=HP.o;omega) (by have:=H10.o;omega));have O1:=Qa h1;have F1:Hid (∃ao c,v1=.slice ao (gs ys.length).length c):=(Bs.of_own h0).len;clear h0 h1 h3 A;obtain⟨ao1,c1,hv1⟩:=F1.o;subst hv1;go_wp2_with fail;refine CC.o.mono ?_;rintro e w2 ⟨v',rfl,h2,h4⟩
 have F:Hid (w2.ownsRow w.heap.size 5 1 v' (blk ys).length ((blk ys).map (Value.int .u8))∧N0 w w2) :=
  ⟨Qr h2 (by have:=O1.o.size;simp;omega),(O1.o.alloc _).trans h4 (λ_ _ f=>f)⟩
 clear h2 h4 CC O1;go_wp2;go_ret;exact⟨_,rfl,F.o⟩
theorem LC {b:LI} (h:b.length<=127):blk b=(b.length:Int) :: b:=by
 unfold blk;rw[UJ (by omega)]
 rfl
def sb (s:ByteArray):LI:=s.data.toList.map λc=>(c.toNat:Int)
theorem QX (s:ByteArray):(sb s).length=s.size:=by simp[sb]
theorem Vk (s:ByteArray):∀y∈sb s,0<=y∧y<=255:=by
 intro y hy;simp only[sb,List.mem_map] at hy;obtain⟨c,_,rfl⟩:=hy;have:=c.toNat_lt;omega
theorem of_sb (s:ByteArray):strOfNums (sb s)=s:=by
 unfold strOfNums sb;rw[List.map_map]
 have:s.data.toList.map ((λn:Int=>UInt8.ofNat n.toNat) ∘ λc:UInt8=>(c.toNat:Int))=s.data.toList:=by
  refine (List.map_congr_left (g:=id) (λx _=>?_)).trans (List.map_id _);simp
 rw[this]
theorem sb_of (h:∀y∈l,0<=y∧y<=255):sb (strOfNums l)=l:=by
 unfold strOfNums sb;rw[List.map_map];refine (List.map_congr_left (g:=id) (λx hx=>?_)).trans (List.map_id _);have:=h x hx;simp only[Function.comp,id];rw[UInt8.toNat_ofNat'];omega
theorem zg {s t:ByteArray} (h:sb s=sb t):s=t:=by rw[<-of_sb s,<-of_sb t,h]
def Ud (p:Int) (nm:LI):LI:=p :: blk nm
def QP (key:LI) (p:Int) (nm:LI):LI:=EXPL key (Ud p nm) 32
def U5 (v i:Int):LI:=fixL v 8++fixL i 4
def QZ (key:LI) (v i:Int):LI:=(MACL (QP key 3 []) (U5 v i)).take 12
def QT (key:LI) (p:Int) (nm:LI):LI:=if key.length=32 then (if nm.length<=64 then QP key p nm else []) else []
def QS (key nm:LI):Int:=if key.length=32 then (if nm.length<=64 then 0 else 4) else 1
abbrev Uy (i:Int):Prop:=0<=i∧i<1048576
def U7 (key:LI) (v i:Int):LI:=if key.length=32 then (if Uy i then QZ key v i else []) else []
def UD (key:LI) (i:Int):Int:=if key.length=32 then (if Uy i then 0 else 1) else 1
theorem Eh (p:Int) (nm:LI) (h:nm.length<=127):Ud p nm=p :: (nm.length:Int) :: nm:=by rw[Ud,LC h]
theorem AM (p:Int) (nm:LI) (h:nm.length<=127):(Ud p nm).length=nm.length+2:=by rw[Eh p nm h];simp
theorem AU {p:Int} {nm:LI} (hp:0<=p∧p<=255) (h:U8 nm):U8 (Ud p nm):=λy hy=>by
 rcases List.mem_cons.1 hy with rfl | hy
 ·exact hp
 ·exact Kk nm h y hy
theorem UY (key:LI) (p:Int) (nm:LI):(QP key p nm).length=32:=Av _ _ _
theorem Vf (key:LI) (p:Int) (nm:LI):U8 (QP key p nm):=xg _ _ _
theorem TJ (v i:Int):(U5 v i).length=12:=by simp[U5,Qv]
theorem vA (v i:Int):U8 (U5 v i):=by
 intro y hy
 rcases List.mem_append.1 hy with h | h
 ·exact US _ _ y h
 ·exact US _ _ y h
theorem Vg (key:LI) (v i:Int):(QZ key v i).length=12:=by rw[QZ,Qg,Y6];rfl
theorem Ak (key:LI) (v i:Int):U8 (QZ key v i):=(VX _ _).take _
theorem ZJ (w:World) (v:Value) (xs:LI) (h:Bs .u8 w v xs):(convert 23 9 v).run prog w=.ok (.string (strOfNums xs)) w:=by
 obtain⟨ao,cap,rfl,hl,hc⟩:=h
 cases ao with
 | none =>
  have hx:xs=[]:=by
   by_cases hx:xs=[]
   ·exact hx
   ·obtain⟨b,off,e,_⟩:=hc hx;cases e
  subst hx;rw[run_convert_bytes_nil w 23 5 underlying23 underlying5 _ _ _ underlying9]
  rfl
 | some a =>
  by_cases hx:xs=[]
  ·subst hx
   obtain⟨b,off,h1⟩:=a;rw[run_convert_bytes_string w 23 9 5 _ _ _ underlying23 underlying5 underlying9];have hl0:=run_loadCells_list (P:=prog) w ⟨b,off,h1⟩ [] (λj u hj=>by simp at hj);rw[List.length_nil] at *;rw[run_bytesToString w _ 0 cap [] (by simpa using hl0)]
   rfl
  ·obtain⟨b,off,e,h0⟩:=hc hx
   cases e
   exact run_convert_bytes_arg w 23 5 underlying23 underlying5 b off xs.length cap xs rfl h0 _ underlying9
def Wk (t:ByteArray) (c:Nat):Obj:=.cells (bytesRow t c) 5 ((bytesRow t c).size,(bytesRow t c).size+1)
theorem Z6 (t:ByteArray) (W:World):(convert 9 23 (.string t)).run prog W=.ok (.slice (some ⟨W.heap.size,0,none⟩) t.size (grownCap W t.size 0 5)) (W.drew.alloc (Wk t (grownCap W t.size 0 5))) :=
 run_bytes_of_string (P:=prog) W 9 23 5 t underlying9 underlying23 underlying5
theorem Xn {t:ByteArray} {b c:Nat} (h:W.heap[b]? = some (Wk t c)) (hc:t.size<=c):Bs .u8 W (.slice (some ⟨b,0,none⟩) t.size c) (sb t):=by
 refine⟨some _,_,by rw[QX],by rw[QX];omega,λ_=>⟨b,0,rfl,λj hj=>?_⟩⟩;rw[QX] at hj
 have e:W.cell? ⟨b,0+j,none⟩=(bytesRow t c)[j]?:=by rw[Nat.zero_add];unfold World.cell?;simp only;rw[h];rfl
 rw[e];simp[bytesRow,Array.getElem?_append,hj,sb,List.getD_eq_getElem?_getD]
theorem Y0 {x o:Obj} (h:W.heap[k]? = some x):(W.alloc o).heap[k]? = some x:=by
 have hk:k<W.heap.size:=by
  rcases Nat.lt_or_ge k W.heap.size with h' | h'
  ·exact h'
  ·rw[Array.getElem?_eq_none h'] at h;cases h
 show (W.heap.push o)[k]? = _
 rw[Array.getElem?_push,if_neg (by omega)];exact h
theorem YH {o:Obj} (h:W.heap.size=k):(W.alloc o).heap[k]? = some o:=by subst h;exact heap_alloc_new W o
theorem ZH {x:Obj} (h:W.heap[k]? = some x):W.drew.heap[k]? = some x:=h
def wl (s:List Nat):List Value:=s.map λx=>Value.int .u32 ((x:Nat):Int)
def bl (p:LI):List Value:=p.map (Value.int .u8)
theorem QV (s:List Nat):(wl s).length=s.length:=List.length_map ..
theorem Qt (s:LI):(bl s).length=s.length:=List.length_map ..
theorem wl_at (s:List Nat) (j:Nat) (h:j<s.length):(wl s)[j]? = some (.int .u32 ((s.getD j 0:Nat):Int)):=by
 simp[wl,List.getD_eq_getElem?_getD,List.getElem?_eq_getElem h]
theorem bl_at (s:LI) (j:Nat) (h:j<s.length):(bl s)[j]? = some (.int .u8 (s.getD j 0)):=by
 simp[bl,List.getD_eq_getElem?_getD,List.getElem?_eq_getElem h]
theorem Li (s:List Nat):∀v∈wl s,v.oneCell'=true:=by
 intro u hu;simp[wl] at hu;obtain⟨x,_,rfl⟩:=hu;rfl
theorem UL (s:LI):∀v∈bl s,v.oneCell'=true:=KF _ _
theorem UC (s:List Nat):(wl s).toArray.all (·.oneCell')=true:=all_oneCell_toArray (Li s)
theorem Wc (s:List Nat) (i x:Nat):(wl s).set i (.int .u32 ((x:Nat):Int))=wl (s.set i x):=by
 simp[wl,List.map_set]
def Blk (w:World) (g:Nat) (t:TypeId) (cs:List Value):Prop:=w.heap[g]? = some (.cells cs.toArray t (0,0))
theorem Blk.keep {t:TypeId} {cs:List Value} (h:Blk w g t cs) {S:Nat->Prop} (o:Only S w w') (hs:¬S g):Blk w' g t cs:=Only.heap o h hs
theorem Blk.past {t:TypeId} {cs:List Value} (h:Blk w g t cs) (o:N0 w w'):Blk w' g t cs:=h.keep o (λf=>f)
theorem Blk.lt {t:TypeId} {cs:List Value} (h:Blk w g t cs):g<w.heap.size:=(Array.getElem?_eq_some_iff.1 h).1
theorem Blk.cell {t:TypeId} {cs:List Value} (h:Blk w g t cs) (j:Nat):w.cell? ⟨g,j,none⟩=cs[j]?:=by
 rw[cell_of_row w g j _ t _ h];simp
theorem Blk.froz {t:TypeId} {cs:List Value} (h:Blk w g t cs) (j:Nat):w.frozen? ⟨g,j,none⟩=false:=frozen_of_row w g j _ t h
theorem Blk.set {t:TypeId} {cs:List Value} (h:Blk w g t cs) (j:Nat) (v:Value):Blk (w.setCell ⟨g,j,none⟩ v) g t (cs.set j v):=by
 have:=heap_setCell_same w g j _ t v h
 simpa [Blk] using this
theorem Blk.drew {t:TypeId} {cs:List Value} (h:Blk w g t cs):Blk w.drew g t cs:=h
theorem Blk.alloc {t:TypeId} {cs:List Value} (h:Blk w g t cs) (o:Obj):Blk (w.alloc o) g t cs:=h.past (VG.alloc o)
theorem Blk.new (w:World) (t:TypeId) (cs:List Value):Blk (w.alloc (.cells cs.toArray t)) w.heap.size t cs:=heap_alloc_last w _
theorem Blk.row {t:TypeId} {cs:List Value} (h:Blk w g t cs) (vs:List Value):Blk (w.setRow g vs.toArray) g t vs:=setRow_heap w g _ _ t _ h
theorem Only.setRow {S:Nat->Prop} {a b:World} (h:Only S a b) {g:Nat} (hp:g<a.heap.size->S g) (cs:Array Value):Only S a (b.setRow g cs) :=
 h.trans (T:=λk=>k=g) ⟨rfl,rfl,rfl,by simp,λk _ hk=>setRow_other b g k cs hk⟩ (λ_ hi e=>by subst e;exact hp hi)
theorem Blk.there {t:TypeId} {cs:List Value} (h:Blk w g t cs) (o n:Nat) (hn:o+n<=cs.length):w.there g o n:=λj hj=>by
 rw[h.cell,h.froz,Qh (by omega)];exact⟨rfl,rfl⟩
theorem Blk.range {t:TypeId} {a b c:List Value} (h:Blk w g t (a++b++c)):w.rangeAt g a.length b:=λj v hv=>by
 have hj:=(List.getElem?_eq_some_iff.1 hv).1;rw[h.cell,List.getElem?_append_left (by simp;omega),List.getElem?_append_right (by omega),Nat.add_sub_cancel_left];exact hv
theorem Blk.rangeN {t:TypeId} {a b c:List Value} (h:Blk w g t (a++b++c)) {n:Nat} (hn:a.length=n):w.rangeAt g n b:=by
 subst hn;exact h.range
theorem Td (a b c vs:List Value) (hv:vs.length=b.length):∀(w:World) (g:Nat) (t:TypeId),Blk w g t (a++b++c)->Blk (w.setCells g a.length vs) g t (a++vs++c):=by
 induction vs generalizing a b with
 | nil =>
  intro w g t h
  cases b with
  | nil=>exact h
  | cons y b=>simp at hv
 | cons v vs ih =>
  intro w g t h
  cases b with
  | nil=>simp at hv
  | cons y b =>
   have h2:Blk (w.setCell ⟨g,a.length,none⟩ v) g t ((a++[v])++b++c):=by
    have:=h.set a.length v
    simpa [List.set_append] using this
   have:=ih (a++[v]) b (by simpa using hv) _ g t h2
   simpa [World.setCells] using this
theorem Only.setCells {S:Nat->Prop} {a:World} (hp:g<a.heap.size->S g) (vs:List Value):∀(o:Nat) (b:World),Only S a b->Only S a (b.setCells g o vs):=by
 induction vs with
 | nil=>intro o b h;exact h
 | cons v vs ih =>
  intro o b h;exact ih (o+1) _ (h.setCell (p:=⟨g,o,none⟩) hp v)
theorem KC {ops:Array Oper} {rest:List Oper} {o:Oper} {a:Act} {Q:Exit->Act->World->Prop} (hg:o.guard=none) (t:TypeId) (parts:Array (Nat × Operand)) (ho:o.op=.build t parts)
 (cells:Array Value) (hc:P.built t (parts.map λ(i,x)=>(i,a.eval x)).toList=some cells) (h:wpList P ops Q rest (a.put o.dst (.agg cells)) w):wpList P ops Q (o :: rest) a w :=
 wpList_build hg t parts ho (by rw[hc];rfl) (by rw[hc];exact h)
theorem Kw (t e:TypeId) (n:Nat) (cs:List Value) (j:Nat) (u:Value) (h:prog.underlying t=some (.array n e)) (ha:(∀w,(isAgg e).run prog w=.ok false w)) (hs:(prog.info? e).map (·.size)=some 1) (hj:j<n) (hu:cs[j]? = some u) (w:World) :
 (Instr.index t (.agg cs.toArray) (.int .i64 j)).run prog w=.ok u w:=by
 have h1:(0:Int)<=(j:Int)∧(j:Int)<(n:Int):=by omega
 cases hq:prog.info? e with
 | none=>simp[hq] at hs
 | some i =>
  have hi:i.size=1:=by simpa [hq] using hs
  simp[Instr.index,run_underlying h,asIntOf,h1,sizeOf,typeInfo,hq,hi,ha,hu,go_sem];omega
theorem size_alloc (w:World) (o:Obj):(w.alloc o).heap.size=w.heap.size+1:=Array.size_push ..
theorem Zb (s:List Nat) (j:Nat) (h:j<s.length):s.take (j+1)=s.take j++[s.getD j 0]:=by
 rw[List.take_add_one,Qh h,Qc,Qh h];rfl
theorem Tryz.agg29 (w:World):(isAgg 159).run prog w=.ok false w:=by kernel_rfl
theorem Tryz.agg5 (w:World):(isAgg 5).run prog w=.ok false w:=by kernel_rfl
theorem Tryz.one29:(prog.info? 159).map (·.size)=some 1:=by kernel_rfl
theorem Tryz.one5:(prog.info? 5).map (·.size)=some 1:=by kernel_rfl
def wi (s:List Nat):LI:=s.map λx=>((x:Nat):Int)
theorem tu (w:World) (G i j:Nat) (v:Value) (h:¬i=j):(w.setCell ⟨G,i,none⟩ v).cell? ⟨G,j,none⟩=w.cell? ⟨G,j,none⟩:=World.cell?_setCell_other _ _ _ _ (λe=>h (by cases e;rfl))
theorem Np {base g:Nat} {cs:List Value} (h:Blk w g E cs) (hb:base<=g) (hm:n<=maxLen) (hc:cs.length=n) :
 w.ownsRow base E 1 (.slice (some ⟨g,0,none⟩) n n) n cs :=
 ⟨by omega,.inr ⟨g,n,cs.toArray,rfl,hb,h,Nat.le_refl _,hm,by simpa using hc,by simp[<-hc]⟩⟩
theorem V7 (s:LI) (i:Nat) (x:Int):(bl s).set i (.int .u8 x)=bl (s.set i x):=by simp[bl,List.map_set]
theorem Bs.offB {T:TypeId} {cs:List Value} (hb:Bs .u8 w v ys) (hB:Blk w g T cs) (hc:∀y∈cs,∀x,y≠.int .u8 x) (o:Only (λk=>k=g) w w'):Bs .u8 w' v ys:=by
 obtain⟨ao,cap,rfl,hl,hr⟩:=hb;refine⟨ao,cap,rfl,hl,λhne=>?_⟩;obtain⟨b,off,rfl,h⟩:=hr hne;refine⟨b,off,rfl,λj hj=>?_⟩;have h0:=h j hj
 by_cases hbg:b=g
 ·subst hbg
  rw[hB.cell] at h0;exact absurd rfl (hc _ (List.mem_of_getElem? h0) _)
 ·rw[<-h0]
  exact World.cell?_of_block (o.block b (World.block_lt_of_cell? w _ h0) hbg)
theorem QK {lo:Nat} {xs:List Value} (h:w.ownsRow lo E 1 v n xs):∃ao cap,v=.slice ao n cap:=by
 rcases h.2 with ⟨rfl,rfl⟩ | ⟨g,cap,cur,rfl,_⟩
 ·exact⟨none,0,rfl⟩
 ·exact⟨_,cap,rfl⟩
theorem vN (p:Int) (t:ByteArray) (ht:t.size<=1000) (w:World) :
 Calls prog 104 #[.int .u8 p,.string t] w λe w'=>∃v,e=.returned v∧w'.ownsRow w.heap.size 5 1 v (Ud p (sb t)).length (bl (Ud p (sb t)))∧N0 w w':=by
 have hcv:=Z6 t;have h2:=grownCap_ge (w.alloc (.cells #[.int .u8 p] 5)) t.size 0 5;obtain⟨c,hc⟩:=EX (grownCap (w.alloc (.cells #[.int .u8 p] 5)) t.size 0 5);rw[<-hc] at h2;have o1:N0 w (w.alloc (.cells #[.int .u8 p] 5)):=VG.alloc _;have b0:Bs .u8 (w.alloc (.cells #[.int .u8 p] 5)) (.slice (some ⟨w.heap.size,0,none⟩) 1 1) [p]:=Bs.lit .u8 w 5 [p];have o2:N0 (w.alloc (.cells #[.int .u8 p] 5)) ((w.alloc (.cells #[.int .u8 p] 5)).alloc (Wk t c)).drew:=(VG.alloc _).drew;have A:=Qa (Ke (.slice (some ⟨w.heap.size+1,0,none⟩) t.size c) (sb t) ((w.alloc (.cells #[.int .u8 p] 5)).alloc (Wk t c)).drew (Xn (ZH (YH (by simp))) (by omega)) (NoCap.some _ _ _) (by rw[QX];omega))
 have HL:Hid ((blk (sb t)).length<=2000):=by
  have:=U2 (sb t) (by rw[QX];omega);rw[QX] at this
  show _<=_
  omega
 have P0:=Qa (Vz (b0.past o2) (o1.same o2));have HX:Hid ([p]++blk (sb t)=Ud p (sb t)):=rfl;obtain⟨X,hX⟩:=EX (blk (sb t));rw[<-hX] at A HL HX;clear o1 b0 o2 h2 hX;go_enter func104,ntmps104;go_wp2_with fail;rw[<-hc];refine A.o.mono ?_;rintro e w1 ⟨v1,rfl,h0,o1⟩;obtain⟨a1,c1,rfl⟩:=QK h0;have oa:N0 w1 (w1.alloc (.cells #[.slice (some ⟨w.heap.size,0,none⟩) 1 1,.slice a1 X.length c1] 23)):=VG.alloc _;have C:=Qa (Ka w1.heap.size (.slice (some ⟨w.heap.size,0,none⟩) 1 1) (.slice a1 X.length c1) [p] X (w1.alloc (.cells #[.slice (some ⟨w.heap.size,0,none⟩) 1 1,.slice a1 X.length c1] 23)) (by go_cell) (by go_cell) (P0.o.1.past (o1.same oa)) ((Bs.of_own (k:=.u8) h0).past oa) (NoCap.some _ _ _) (NoCap.of_own h0) (by simp only[Qk];omega) (by have:=HL.o;simp only[Qk,List.length_nil];omega));rw[HX.o] at C;have O1:=Qa (P0.o.2.same (o1.same oa));obtain⟨m,hm⟩:=EX X.length;rw[<-hm] at C O1 ⊢;clear h0 o1 oa A P0 hm hcv hc;go_wp2_with fail;refine C.o.mono ?_;rintro e w2 ⟨v2,rfl,h1,o2⟩;have F:=Qa (Vz (Qr h1 O1.o.size) (O1.o.same o2));clear h1 o2 C O1;go_wp2;go_ret;exact⟨_,rfl,F.o⟩
theorem yR (v i:Int) (hi:0<=i∧i<=9223372036854775807) (w:World) :
 Calls prog 145 #[.int .u64 v,.int .i64 i] w λe w'=>∃u,e=.returned u∧w'.ownsRow w.heap.size 5 1 u 12 (bl (U5 v i))∧N0 w w':=by
 have hw:IntKind.u64.wrap i=i:=by rw[IntKind.wrap_u64];omega
 have A:=Qa (UB v 8 w (by decide));have B:=Qa (λW=>UB i 4 W (by decide));rw[show ((8:Nat):Int)=8 from rfl,Qv] at A;rw[show ((4:Nat):Int)=4 from rfl,Qv] at B;have HX:Hid (fixL v 8++fixL i 4=U5 v i∧(fixL v 8++fixL i 4).length=12∧(fixL v 8).length=8∧(fixL i 4).length=4):=⟨rfl,TJ v i,Qv _ _,Qv _ _⟩;obtain⟨X,hX⟩:=EX (fixL v 8);obtain⟨Y,hY⟩:=EX (fixL i 4);rw[<-hX] at A HX;rw[<-hY] at B HX;clear hX hY hi;go_enter func145,ntmps145;go_wp2_with fail;refine A.o.mono ?_;rintro e w1 ⟨v1,rfl,h1,o1⟩;obtain⟨a1,c1,rfl⟩:=QK h1;have B1:=Qa (B.o w1);have h3:=Qa h1;have O1:=Qa o1;clear h1 o1 A B;go_wp2_with fail;refine B1.o.mono ?_;rintro e w2 ⟨v2,rfl,h0,o2⟩;obtain⟨a2,c2,rfl⟩:=QK h0;have oa:N0 w2 (w2.alloc (.cells #[.slice a1 8 c1,.slice a2 4 c2] 23)):=VG.alloc _;have C:=Qa (Ka w2.heap.size (.slice a1 8 c1) (.slice a2 4 c2) X Y (w2.alloc (.cells #[.slice a1 8 c1,.slice a2 4 c2] 23)) (by go_cell) (by go_cell) ((Bs.of_own (k:=.u8) (E:=5) (lo:=w.heap.size) (by rw[HX.o.2.2.1];exact h3.o)).past (o2.same oa)) ((Bs.of_own (k:=.u8) (E:=5) (lo:=w1.heap.size) (by rw[HX.o.2.2.2];exact h0)).past oa) (NoCap.of_own h3.o) (NoCap.of_own h0) (by have:=HX.o.2.2.1;omega) (by have:=HX.o.2.2.1;have:=HX.o.2.2.2;omega));rw[HX.o.2.1,HX.o.1] at C;have O2:=Qa (O1.o.same (o2.same oa));clear h0 o2 oa B1 h3 O1;go_wp2_with fail;refine C.o.mono ?_;rintro e w3 ⟨v3,rfl,h2,o3⟩;have F:=Qa (Vz (Qr h2 O2.o.size) (O2.o.same o3));clear h2 o3 C O2;go_wp2;go_ret;exact⟨_,rfl,F.o⟩
theorem and31 (n:Nat) (h1:1<=n) (h2:n<=31):bits .and .u64 (IntKind.u64.wrap (-(n:Int))) 31=((32 - n:Nat):Int):=by
 have e:IntKind.u64.wrap (-(n:Int))=((18446744073709551616 - n:Nat):Int):=by
  simp[IntKind.wrap,IntKind.bits,IntKind.signed];omega
 rw[e,show (31:Int)=((31:Nat):Int) from rfl,u64_and_nat _ _ (by omega) (by omega),show (31:Nat)=2^5 - 1 from rfl,Nat.and_two_pow_sub_one_eq_mod];omega
theorem YO (x n:Nat) (hx:x<4294967296):rotw x n<4294967296:=by
 unfold rotw;exact Nat.or_lt_two_pow (n:=32) (J6 x n hx) (Nat.mod_lt _ (by decide))
theorem Kr {x:Nat} (y:Nat) (hx:x<4294967296):x &&& y<4294967296:=Nat.lt_of_le_of_lt Nat.and_le_left hx
theorem um (x n:Nat) (w:World) (hx:x<4294967296) (h1:1<=n) (h2:n<=31) :
 Calls prog 248 #[.int .u32 x,.int .i64 (-(n:Int))] w λe w'=>e=.returned (.int .u32 (rotw x n:Nat))∧w=w':=by
 have hb:=and31 n h1 h2;obtain⟨s,hs⟩:=EX (32 - n);rw[<-hs] at hb
 have h3:1<=s:=by omega
 have h4:s<=31:=by omega
 have HS:Hid (n=32 - s):=(by omega:n=32 - s);clear hs h1 h2;go_enter func248,ntmps248;go_wp2;go_ret;refine⟨YN ?_,rfl⟩
 rw[show ((x:Int)*2^s % 4294967296)=((x*2^s % 4294967296:Nat):Int) by simp,show ((x:Int) / 2^(32 - s))=((x / 2^(32 - s):Nat):Int) by simp,
  u32_or_nat _ _ (Nat.mod_lt _ (by decide)) (J6 _ _ hx),HS.o]
 unfold rotw;rw[Nat.or_comm,show 32 - (32 - s)=s by omega]
theorem U3 (x n:Nat) (w:World) (hx:x<4294967296) (h1:1<=n) (h2:n<=31) :
 Calls prog 233 #[.int .u32 x,.int .i64 n] w λe w'=>e=.returned (.int .u32 (rotw x n:Nat))∧w=w':=by
 have A:=Qa (um x n w hx h1 h2);go_enter func233,ntmps233;go_wp2_with fail;refine A.o.mono ?_;rintro e w1 ⟨rfl,rfl⟩;go_wp2;go_ret;exact⟨rfl,rfl⟩
theorem pJ (x:Nat) (hx:x<4294967296):bits .xor .u32 (bits .xor .u32 (rotw x 7:Nat) (rotw x 18:Nat)) ((x:Int) / 8)=(sg0 x:Nat):=by
 rw[show ((x:Int) / 8)=((x / 8:Nat):Int) from rfl,u32_xor_nat _ _ (YO _ _ hx) (YO _ _ hx),u32_xor_nat _ _ (Wn (YO _ _ hx) (YO _ _ hx)) (by omega)];rfl
theorem gV (x:Nat) (hx:x<4294967296):bits .xor .u32 (bits .xor .u32 (rotw x 17:Nat) (rotw x 19:Nat)) ((x:Int) / 1024)=(sg1 x:Nat):=by
 rw[show ((x:Int) / 1024)=((x / 1024:Nat):Int) from rfl,u32_xor_nat _ _ (YO _ _ hx) (YO _ _ hx),u32_xor_nat _ _ (Wn (YO _ _ hx) (YO _ _ hx)) (by omega)];rfl
theorem Fc (x:Nat) (hx:x<4294967296):bits .xor .u32 (bits .xor .u32 (rotw x 2:Nat) (rotw x 13:Nat)) (rotw x 22:Nat)=(V8 x:Nat):=by
 rw[u32_xor_nat _ _ (YO _ _ hx) (YO _ _ hx),u32_xor_nat _ _ (Wn (YO _ _ hx) (YO _ _ hx)) (YO _ _ hx)];rfl
theorem Oo (x:Nat) (hx:x<4294967296):bits .xor .u32 (bits .xor .u32 (rotw x 6:Nat) (rotw x 11:Nat)) (rotw x 25:Nat)=(Vj x:Nat):=by
 rw[u32_xor_nat _ _ (YO _ _ hx) (YO _ _ hx),u32_xor_nat _ _ (Wn (YO _ _ hx) (YO _ _ hx)) (YO _ _ hx)];rfl
theorem kI (x:Nat) (w:World) (hx:x<4294967296) :
 Calls prog 232 #[.int .u32 x] w λe w'=>e=.returned (.int .u32 (sg0 x:Nat))∧w=w':=by
 have A:=Qa (U3 x 7 w hx (by decide) (by decide));have B:=Qa (U3 x 18 w hx (by decide) (by decide));have H:=Qa (pJ x hx);go_enter func232,ntmps232;go_wp2_with fail;refine A.o.mono ?_;rintro e w1 ⟨rfl,rfl⟩;go_wp2_with fail;refine B.o.mono ?_;rintro e w1 ⟨rfl,rfl⟩;go_wp2;go_ret;exact⟨YN H.o,rfl⟩
theorem I8 (x:Nat) (w:World) (hx:x<4294967296) :
 Calls prog 231 #[.int .u32 x] w λe w'=>e=.returned (.int .u32 (sg1 x:Nat))∧w=w':=by
 have A:=Qa (U3 x 17 w hx (by decide) (by decide));have B:=Qa (U3 x 19 w hx (by decide) (by decide));have H:=Qa (gV x hx);go_enter func231,ntmps231;go_wp2_with fail;refine A.o.mono ?_;rintro e w1 ⟨rfl,rfl⟩;go_wp2_with fail;refine B.o.mono ?_;rintro e w1 ⟨rfl,rfl⟩;go_wp2;go_ret;exact⟨YN H.o,rfl⟩
theorem FG (x:Nat) (w:World) (hx:x<4294967296) :
 Calls prog 200 #[.int .u32 x] w λe w'=>e=.returned (.int .u32 (V8 x:Nat))∧w=w':=by
 have A:=Qa (U3 x 2 w hx (by decide) (by decide));have B:=Qa (U3 x 13 w hx (by decide) (by decide));have C:=Qa (U3 x 22 w hx (by decide) (by decide));have H:=Qa (Fc x hx);go_enter func200,ntmps200;go_wp2_with fail;refine A.o.mono ?_;rintro e w1 ⟨rfl,rfl⟩;go_wp2_with fail;refine B.o.mono ?_;rintro e w1 ⟨rfl,rfl⟩;go_wp2_with fail;refine C.o.mono ?_;rintro e w1 ⟨rfl,rfl⟩;go_wp2;go_ret;exact⟨YN H.o,rfl⟩
theorem jF (x:Nat) (w:World) (hx:x<4294967296) :
 Calls prog 199 #[.int .u32 x] w λe w'=>e=.returned (.int .u32 (Vj x:Nat))∧w=w':=by
 have A:=Qa (U3 x 6 w hx (by decide) (by decide));have B:=Qa (U3 x 11 w hx (by decide) (by decide));have C:=Qa (U3 x 25 w hx (by decide) (by decide));have H:=Qa (Oo x hx);go_enter func199,ntmps199;go_wp2_with fail;refine A.o.mono ?_;rintro e w1 ⟨rfl,rfl⟩;go_wp2_with fail;refine B.o.mono ?_;rintro e w1 ⟨rfl,rfl⟩;go_wp2_with fail;refine C.o.mono ?_;rintro e w1 ⟨rfl,rfl⟩;go_wp2;go_ret;exact⟨YN H.o,rfl⟩
theorem Tryz.size30:(prog.info? 160).map (·.size)=some 8:=by kernel_rfl
theorem Tryz.size31:(prog.info? 161).map (·.size)=some 64:=by kernel_rfl
theorem Tryz.size52:(prog.info? 245).map (·.size)=some 64:=by kernel_rfl
theorem Tryz.size33:(prog.info? 163).map (·.size)=some 73:=by kernel_rfl
theorem re (w:World):Calls prog 161 #[] w λe w'=>e=.returned (.agg (wl shH).toArray)∧N0 w w':=by
 go_enter func161,ntmps161;go_wp2_with (first|(refine KC rfl 160 _ rfl (wl shH).toArray (by kernel_rfl) ?_)|(refine wpList_store_row rfl 160 (.tmp 0) (.tmp 1) rfl w.heap.size (wl shH).toArray rfl rfl 160 (wl (List.replicate 8 0)).toArray (heap_alloc_last w _) Tryz.size30 rfl (UC _) ?_));refine bodyPost_ret (v:=.agg (wl shH).toArray) (results_cell_row rfl _ _ w.heap.size 160 (wl shH).toArray (0,0) _ rfl (setRow_heap _ _ _ _ 160 _ (heap_alloc_last w _)) underlying160 rfl Tryz.size30) rfl ⟨rfl,?_⟩;exact (VG.alloc _).setRow (λh=>absurd h (Nat.lt_irrefl _)) _
def zK:List Value:=wl (List.replicate 64 0)
theorem zn (w:World):Calls prog 198 #[] w λe w'=>e=.returned (.agg (wl shK).toArray)∧N0 w w':=by
 go_enter func198,ntmps198;go_wp2_with (first|(refine KC rfl 245 _ rfl (wl shK).toArray (by kernel_rfl) ?_)|(refine wpList_store_row rfl 245 (.tmp 0) (.tmp 1) rfl w.heap.size (wl shK).toArray rfl rfl 245 zK.toArray (heap_alloc_last w _) Tryz.size52 (by kernel_rfl) (UC _) ?_));refine bodyPost_ret (v:=.agg (wl shK).toArray) (results_cell_row rfl _ _ w.heap.size 245 (wl shK).toArray (0,0) _ rfl (setRow_heap _ _ zK.toArray _ 245 _ (heap_alloc_last w _)) underlying245 rfl Tryz.size52) rfl ⟨rfl,?_⟩;exact (VG.alloc _).setRow (λh=>absurd h (Nat.lt_irrefl _)) _
theorem ix_w8 (s:List Nat) (hs:s.length=8) (j:Nat) (hj:j<8) (w:World):(Instr.index 160 (.agg (wl s).toArray) (.int .i64 j)).run prog w=.ok (.int .u32 ((s.getD j 0:Nat):Int)) w :=
 Kw 160 159 8 (wl s) j _ underlying160 Tryz.agg29 Tryz.one29 hj (wl_at s j (by omega)) w
theorem ut (s:List Nat) (hs:s.length=64) (j:Nat) (hj:j<64) (w:World):(Instr.index 245 (.agg (wl s).toArray) (.int .i64 j)).run prog w=.ok (.int .u32 ((s.getD j 0:Nat):Int)) w :=
 Kw 245 159 64 (wl s) j _ underlying245 Tryz.agg29 Tryz.one29 hj (wl_at s j (by omega)) w
theorem pF (s:LI) (hs:s.length=64) (j:Nat) (hj:j<64) (w:World):(Instr.index 161 (.agg (bl s).toArray) (.int .i64 j)).run prog w=.ok (.int .u8 (s.getD j 0)) w :=
 Kw 161 5 64 (bl s) j _ underlying161 Tryz.agg5 Tryz.one5 hj (bl_at s j (by omega)) w
theorem rm (s:List Nat) (j:Nat) (h:j<s.length):(s.take (j+1)).flatMap be4=(s.take j).flatMap be4++be4 (s.getD j 0):=by
 rw[Zb s j h,List.flatMap_append];simp
theorem IK (x:Nat):be4 x=[((x / 16777216 % 256:Nat):Int),((x / 65536 % 256:Nat):Int),((x / 256 % 256:Nat):Int),((x % 256:Nat):Int)]:=by
 have:List.range 4=[0,1,2,3]:=rfl;unfold be4;rw[this];simp
def z32:List Value:=bl (List.replicate 32 0)
theorem mk32 (w:World):(Instr.makeSlice 23 (.int .i64 0) (.int .i64 32)).run prog w=.ok (.slice (some ⟨w.heap.size,0,none⟩) 0 32) (w.alloc (.cells z32.toArray 5)):=by kernel_rfl
theorem jR (s:List Nat) (hs:s.length=8) (w:World):Calls prog 164 #[.agg (wl s).toArray] w λe w'=>∃v,e=.returned v∧w'.ownsRow w.heap.size 5 1 v 32 ((s.flatMap be4).map (Value.int .u8))∧N0 w w':=by
 obtain⟨i0,hi,hz0,hz1,hz2⟩:=info_parts Tryz.infoU8;have HX:=Qa (ix_w8 s hs);have FX:=Qa (rm s)
 have HF:Hid ((s.take 8).flatMap be4=s.flatMap be4):=by rw[List.take_of_length_le (by omega)];rfl
 have HL:=Qa hs;have hmk:=mk32;generalize hC:(wl s).toArray=C at *
 have h4:(prog.info? 160).map (·.size)=some C.size:=by rw[<-hC];simp[QV,hs,Tryz.size30]
 have HSZ:=Qa h4;clear hC hs h4;go_enter func164,ntmps164;go_wp2_with (refine wpList_load_row rfl 160 _ rfl w.heap.size rfl 160 C (0,0) _ (heap_alloc2_old w _ _) underlying160 rfl HSZ.o ?_)
 obtain⟨F,hF⟩:∃F:Nat->List Value,F=λj=>((s.take j).flatMap be4).map (Value.int .u8):=⟨_,rfl⟩
 have F0:Hid (F 0=[]):=by rw[hF];rfl
 have F8:Hid (F 8=(s.flatMap be4).map (Value.int .u8)):=by rw[hF,<-HF.o];rfl
 have FN:Hid (∀j,j<8->F (j+1)=F j++(be4 (s.getD j 0)).map (Value.int .u8)):=λj hj=>by
  rw[hF];simp only;rw[FX.o j (by rw[HL.o];exact hj),List.map_append]
 clear hF FX HF
 go_loopw [3,8] (λo i wr=>∃j:Nat,j<=8∧i=.int .i64 j∧wr.ownsRow w.heap.size 5 1 o (4*j) (F j)∧N0 w wr) (λ_ i _=>8 - (intOf i).toNat)
 case atStart =>
  refine⟨0,by omega,rfl,?_,(VG.alloc _).alloc _⟩;rw[F0.o];have:=World.ownsRow_made (base:=w.heap.size) (e:=5) (size:=1) (w.alloc (.cells C 160)) z32.toArray 32 ((Only.refl (λ_=>False) w).alloc _).size (by decide) rfl;rw[size_alloc] at this;exact this
 case round =>
  obtain⟨j,hj,rfl,h1,h2⟩:=hrel;have h4:=h2.size;have h3:=Qa h2;have h0:=Qa h1;clear h2 h1
  by_cases hlt:j<8
  ·obtain⟨x,hx⟩:=EX (s.getD j 0)
   have hix:=HX.o j hlt;have h5:=FN.o j hlt;rw[<-hx] at hix h5;have h6:=Qa h5
   have i1:(j:Int)<8:=by omega
   clear hx h5;have BL:=Qa (Bs.litN .u8 wr 5 [(x:Int) / 16777216 % 256,(x:Int) / 65536 % 256,(x:Int) / 256 % 256,(x:Int) % 256] _ _ rfl rfl);go_wp2_with (at_builtin;refine Yr _ rfl _ _ 23 rfl w.heap.size 5 i0 (.int .u8 0) 1 underlying23 hi hz0 hz1 hz2 rfl _ (4*j) (F j) rfl (h0.o.alloc _) .u8 _ [(x:Int) / 16777216 % 256,(x:Int) / 65536 % 256,(x:Int) / 256 % 256,(x:Int) % 256] rfl BL.o (NoCap.some _ _ _) (by simp[maxLen];omega) (by simp;omega) (by simp;omega) ?_;intro v' w2 hown' hgrow2 hnil2 hob2)
   have N1:Hid (w2.ownsRow w.heap.size 5 1 v' (4*(j+1)) (F (j+1))):=by
    rw[h6.o,IK];exact hown'
   have N2:Hid (N0 w w2):=(h3.o.alloc _).grown hgrow2 (λk hk e=>by have:=h0.o.lt k e;omega);clear hown' hgrow2 hnil2 hob2 h0 h3 BL h6;go_wp2
   go_roundw
   case rel=>exact⟨j+1,by omega,by go_num,N1.o,N2.o⟩
   case measure=>simp[intOf];omega
  ·go_wp2
   go_ret
   obtain rfl:j=8:=by omega
   rw[F8.o] at h0;exact⟨_,rfl,h0.o,h3.o⟩
theorem Tryz.zero52:(prog.info? 245).map (λi=>(i.zero,i.size))=some (some (.agg zK.toArray),64):=by kernel_rfl
theorem sum4 (a b c d:Nat):IntKind.u32.wrap (IntKind.u32.wrap (IntKind.u32.wrap ((a:Int)+b)+c)+d)=(((a+b+c+d) % 4294967296:Nat):Int):=by
 rw[IntKind.wrap_u32',IntKind.wrap_u32',IntKind.wrap_u32'];omega
theorem A8 (a:Nat) (y:Int) (ha:a<16777216) (h0:0<=y) (h1:y<=255):bits .or .u32 ((a:Int)*256) y=((a*256+y.toNat:Nat):Int):=by
 obtain⟨b,rfl⟩:=Int.eq_ofNat_of_zero_le h0;rw[show ((a:Int)*256)=((a*256:Nat):Int) by simp];have:=u32_or_nat (a*256) b (by omega) (by omega);rw[this,zu a b (by omega)]
 rfl
theorem qo (p:LI) (hp:p.length=64) (h8:U8 p) (w:World):Calls prog 197 #[.agg (bl p).toArray] w λe w'=>e=.returned (.agg (wl (wds p)).toArray)∧N0 w w':=by
 have HX:=Qa (pF p hp);have H8:=Qa h8
 have hu:(prog.info? 161).map (·.size)=some (bl p).toArray.size:=by simp[Qt,hp,Tryz.size31]
 have hh:=Qa hu;obtain⟨B,hB⟩:=EX (bl p);rw[<-hB] at HX hh ⊢;have hs:=(zero_of_info (P:=prog) Tryz.zero52).1;obtain⟨Z,hZ⟩:=EX zK;rw[<-hZ] at hs;have HZ:=Qa hZ
 have k0:(prog.info? 245).map (·.size)=some (wl (wds p)).toArray.size:=by simp[QV,Zm,Tryz.size52]
 have hd:=Qa k0
 have hw:Hid (Z.toArray.size=(wl (wds p)).toArray.size):=by
  show _=_
  rw[HZ.o];simp[QV,Zm,zK]
 have HA:=Qa (UC (wds p));obtain⟨D,hD⟩:=EX (wl (wds p));rw[<-hD] at hd hw HA ⊢;have HD:=Qa hD.symm;clear hB hu h8 hp hZ hD k0;go_enter func197,ntmps197;go_wp2_with (refine wpList_load_row rfl 161 _ rfl w.heap.size rfl 161 B.toArray (0,0) _ (((Blk.new w 161 B).alloc _).alloc _) underlying161 rfl hh.o ?_)
 have S0:Hid (Blk (((w.alloc (.cells B.toArray 161)).alloc (.cells Z.toArray 245)).alloc (.cells Z.toArray 245)) (w.heap.size+1+1) 245 (wl (wpart p 0))):=by
  have:=Blk.new ((w.alloc (.cells B.toArray 161)).alloc (.cells Z.toArray 245)) 245 Z;rw[size_alloc,size_alloc] at this;rw[El];rw[HZ.o] at this ⊢;exact this
 have R0:Hid (Blk (((w.alloc (.cells B.toArray 161)).alloc (.cells Z.toArray 245)).alloc (.cells Z.toArray 245)) (w.heap.size+1) 245 Z):=by
  have:=(Blk.new (w.alloc (.cells B.toArray 161)) 245 Z).alloc (.cells Z.toArray 245);rw[size_alloc] at this;exact this
 have O0:Hid (N0 w (((w.alloc (.cells B.toArray 161)).alloc (.cells Z.toArray 245)).alloc (.cells Z.toArray 245))):=((VG.alloc _).alloc _).alloc _;obtain⟨G,hG⟩:=EX (w.heap.size+1+1);obtain⟨R,hR⟩:=EX (w.heap.size+1);obtain⟨W0,h9⟩:=EX ((((w.alloc (.cells B.toArray 161)).alloc (.cells Z.toArray 245)).alloc (.cells Z.toArray 245)));rw[<-hG,<-h9] at S0;rw[<-hR,<-h9] at R0;rw[<-h9] at O0;rw[<-hG,<-hR,<-h9];have HG:Hid (w.heap.size<=G∧w.heap.size<=R∧R≠G):=⟨by omega,by omega,by omega⟩;clear hG hR h9 hs
 go_loopw [8] (λi wr=>∃j:Nat,j<=64∧i=.int .i64 j∧Blk wr G 245 (wl (wpart p j))∧Blk wr R 245 Z∧N0 w wr) (λi _=>64 - (intOf i).toNat)
 case atStart=>exact⟨0,by omega,rfl,S0.o,R0.o,O0.o⟩
 case round =>
  obtain⟨j,hj,rfl,hS,hR,hO⟩:=hrel;clear S0 R0 O0
  by_cases hlt:j<64
  ·obtain⟨y,hy⟩:=EX (p.getD j 0)
   obtain⟨a,ha⟩:=EX (accw p (j / 4) (j % 4));have hix:=HX.o j hlt;have hr:=H8.o.at j;rw[<-hy] at hix hr;obtain⟨y0,y1⟩:=hr
   have h0:wr.cell? ⟨G,j / 4,none⟩=some (.int .u32 (a:Int)):=by
    rw[hS.cell,wl_at _ _ (by rw[qu];omega),C7 p j hlt,<-ha]
   have hfr:wr.frozen? ⟨G,j / 4,none⟩=false:=hS.froz _
   have hal:a<16777216:=by
    have h1:=TP p H8.o (j / 4) (j % 4);rw[<-ha] at h1;have h2:256^(j % 4)<=256^3:=Nat.pow_le_pow_right (by decide) (by omega)
    have h3:256^3=16777216:=by decide
    omega
   have i0:(0:Int)<=(j:Int):=by omega
   have i1:(j:Int)<64:=by omega
   have hor:=A8 a y hal y0 y1;obtain⟨q,hq⟩:∃q:Nat,q=a*256+y.toNat:=⟨_,rfl⟩;rw[<-hq] at hor
   have N1:Hid (Blk (wr.setCell ⟨G,j / 4,none⟩ (.int .u32 (q:Int))) G 245 (wl (wpart p (j+1)))):=by
    have:=hS.set (j / 4) (.int .u32 (q:Int));rw[Wc] at this;rw[Au p j hlt,<-ha,<-hy,<-hq];exact this
   have h4:=(Only.refl (λk=>k=G) wr).setCell (p:=⟨G,j / 4,none⟩) (λ_=>rfl) (.int .u32 (q:Int));have N2:=Qa (hR.keep h4 HG.o.2.2);have N3:=Qa (hO.trans h4 (λi hi e=>by have:=HG.o.1;omega));clear ha hy hS hR hO h4 hq;go_wp2
   go_roundw
   case rel=>exact⟨j+1,by omega,by go_num,N1.o,N2.o,N3.o⟩
   case measure=>simp[intOf];omega
  ·obtain rfl:j=64:=by omega
   have S1:Hid (Blk wr G 245 (wl (wv p 16++List.replicate 48 0))):=by
    show _
    rw[pQ] at hS;exact hS
   have R1:=Qa hR;have O1:=Qa hO;obtain⟨W1,hW1⟩:=EX wr;subst hW1;clear hS hR hO HX hh;go_wp2
   go_loopw [6] (λi wr=>∃t:Nat,16<=t∧t<=64∧i=.int .i64 t∧Blk wr G 245 (wl (wv p t++List.replicate (64 - t) 0))∧Blk wr R 245 Z∧N0 w wr) (λi _=>64 - (intOf i).toNat)
   case atStart=>exact⟨16,by omega,by omega,rfl,S1.o,R1.o,O1.o⟩
   case round =>
    obtain⟨t,ht,ht2,rfl,hS,hR,hO⟩:=hrel;clear S1 R1 O1
    by_cases hlt:t<64
    ·have hl:=Dt p t ht
     have h6:W32 (wv p t):=by
      have:=Sm p H8.o (t - 16)
      rwa [show 16+(t - 16)=t by omega] at this
     have h0:∀k,k<t->wr.cell? ⟨G,k,none⟩=some (.int .u32 (((wv p t).getD k 0:Nat):Int)):=λk hk=>by
      rw[hS.cell,wl_at _ _ (by simp;omega),jN _ _ _ (by omega)]
     have hb:=uf (wv p t) t hl;obtain⟨a2,e2⟩:=EX ((wv p t).getD (t - 2) 0);obtain⟨a7,e7⟩:=EX ((wv p t).getD (t - 7) 0);obtain⟨hm,he⟩:=EX ((wv p t).getD (t - 15) 0);obtain⟨ho,hf⟩:=EX ((wv p t).getD (t - 16) 0);have c2:=h0 (t - 2) (by omega);have c7:=h0 (t - 7) (by omega);have k1:=h0 (t - 15) (by omega);have hv:=h0 (t - 16) (by omega);have b2:=h6.at (t - 2);have hg:=h6.at (t - 15);rw[<-e2] at c2 b2;rw[<-e7] at c7;rw[<-he] at k1 hg;rw[<-hf] at hv;rw[<-e2,<-e7,<-he,<-hf] at hb;have hfr:wr.frozen? ⟨G,t,none⟩=false:=hS.froz _
     have hz:∃v,wr.cell? ⟨G,t,none⟩=some v:=by
      rw[hS.cell];exact⟨_,Qh (by rw[QV];simp;omega)⟩
     obtain⟨vt,hz⟩:=hz
     have i2:(0:Int)<=(t:Int) - 16:=by omega
     have i3:(t:Int)<64:=by omega
     have b1:=Qa b2;have b3:=Qa hg;have HNX:=Qa hb;obtain⟨V,hV⟩:=EX (IntKind.u32.wrap (IntKind.u32.wrap (IntKind.u32.wrap (((sg1 a2:Nat):Int)+a7)+((sg0 hm:Nat):Int))+ho))
     have HV:V=((nextw (wv p t):Nat):Int):=by rw[hV,sum4,hb]
     have N1:Hid (Blk (wr.setCell ⟨G,t,none⟩ (.int .u32 V)).drew G 245 (wl (wv p (t+1)++List.replicate (64 - (t+1)) 0))):=by
      have:=hS.set t (.int .u32 V);rw[HV,Wc,Fj _ t _ hl hlt,<-MZ p t ht,<-HV] at this;exact this.drew
     have h4:=(Only.refl (λk=>k=G) wr).setCell (p:=⟨G,t,none⟩) (λ_=>rfl) (.int .u32 V);have N2:=Qa (hR.keep h4.drew HG.o.2.2);have N3:=Qa (hO.trans h4.drew (λi hi e=>by have:=HG.o.1;omega));rw[hV] at N1 N2 N3;clear HV h4 hV HNX V;clear e2 e7 he hf h0 hl h6 hb hS hR hO b2 hg;obtain⟨k2,f2⟩:=EX (t - 2);obtain⟨k7,f7⟩:=EX (t - 7);obtain⟨h5,hx⟩:=EX (t - 15);obtain⟨h7,hn⟩:=EX (t - 16);rw[<-f2] at c2;rw[<-f7] at c7;rw[<-hx] at k1;rw[<-hn] at hv
     have m2:(k2:Int)<64:=by omega
     have n2:¬t=k2:=by omega
     have o2:¬k2=t:=by omega
     have m7:(k7:Int)<64:=by omega
     have n7:¬t=k7:=by omega
     have o7:¬k7=t:=by omega
     have m15:(h5:Int)<64:=by omega
     have n15:¬t=h5:=by omega
     have o15:¬h5=t:=by omega
     have m16:(h7:Int)<64:=by omega
     have n16:¬t=h7:=by omega
     have o16:¬h7=t:=by omega
     have g2:(t:Int) - 2=(k2:Int):=by omega
     have g7:(t:Int) - 7=(k7:Int):=by omega
     have g15:(t:Int) - 15=(h5:Int):=by omega
     have g16:(t:Int) - 16=(h7:Int):=by omega
     have r2:IntKind.i64.wrap (k2:Int)=(k2:Int):=by rw[IntKind.wrap_i64];omega
     have r7:IntKind.i64.wrap (k7:Int)=(k7:Int):=by rw[IntKind.wrap_i64];omega
     have r15:IntKind.i64.wrap (h5:Int)=(h5:Int):=by rw[IntKind.wrap_i64];omega
     have r16:IntKind.i64.wrap (h7:Int)=(h7:Int):=by rw[IntKind.wrap_i64];omega
     clear f2 f7 hx hn i2;go_wp2;go_region_held3 (λW=>W.cell? ⟨G,k2,none⟩=some (Value.int .u32 a2)∧W.cell? ⟨G,k7,none⟩=some (Value.int .u32 a7)∧W.cell? ⟨G,h5,none⟩=some (Value.int .u32 hm)∧W.cell? ⟨G,h7,none⟩=some (Value.int .u32 ho)) (simp[*,tu]) (first|(go_at_call 231;refine (I8 a2 _ b1.o).mono ?_;rintro e w2 ⟨rfl,rfl⟩)|(go_at_call 232;refine (kI hm _ b3.o).mono ?_;rintro e w2 ⟨rfl,rfl⟩));go_wp2
     go_roundw
     case rel=>((repeat apply Exists.intro);exact⟨⟨t+1,by omega,by omega,by go_num,N1.o,N2.o,N3.o⟩,rfl⟩)
     case measure=>simp[intOf];omega
    ·obtain rfl:t=64:=by omega
     have S2:Hid (Blk wr G 245 (wl (wds p))):=by
      show _
      rw[Cg,Nat.sub_self,List.replicate_zero,List.append_nil] at hS;exact hS
     have R2:=Qa hR;have O2:=Qa hO;rw[HD.o] at S2;clear hS hR hO;go_wp2_with (first|(refine wpList_load_row rfl 245 (.tmp 3) rfl G rfl 245 D.toArray (0,0) _ S2.o underlying245 rfl hd.o ?_)|(refine wpList_store_row rfl 245 (.tmp 2) (.tmp 51) rfl R D.toArray rfl rfl 245 Z.toArray R2.o hd.o hw.o HA.o ?_));refine bodyPost_ret (v:=.agg D.toArray) (results_cell_row rfl _ _ R 245 D.toArray (0,0) _ rfl (R2.o.row D) underlying245 rfl hd.o) rfl ⟨rfl,?_⟩;exact O2.o.setRow (λh=>absurd h (by have:=HG.o.2.1;omega)) _
theorem kT (s:List Nat) (k w:Nat) (h:W32 s):W32 (rnd s k w):=by
 intro x hx;simp only[rnd,List.mem_cons,List.not_mem_nil,or_false] at hx
 rcases hx with rfl | rfl | rfl | rfl | rfl | rfl | rfl | rfl
 ·exact Nat.mod_lt _ (by decide)
 ·exact h.at 0
 ·exact h.at 1
 ·exact h.at 2
 ·exact Nat.mod_lt _ (by decide)
 ·exact h.at 4
 ·exact h.at 5
 ·exact h.at 6
theorem wq (s:List Nat) (w:List Nat) (h:W32 s) (t:Nat):W32 (rnds s w t):=by
 induction t with
 | zero=>exact h
 | succ t ih=>rw[Pq];exact kT _ _ _ ih
theorem rM:W32 shH:=by unfold W32 shH;decide
theorem Cx (s:List Nat) (b:LI):W32 (thru s b):=uW s b
theorem pG (e f g:Nat) (he:e<4294967296) (hf:f<4294967296) (hg:g<4294967296) :
 bits .xor .u32 (bits .and .u32 (e:Int) (f:Int)) (bits .and .u32 ((4294967295 - e:Nat):Int) (g:Int))=((chw e f g:Nat):Int):=by
 rw[u32_and_nat _ _ he hf,u32_and_nat _ _ (by omega) hg,u32_xor_nat _ _ (Kr _ he) (Kr _ (by omega))];rfl
theorem uk (a b c:Nat) (ha:a<4294967296) (hb:b<4294967296) (hc:c<4294967296) :
 bits .xor .u32 (bits .xor .u32 (bits .and .u32 (a:Int) (b:Int)) (bits .and .u32 (a:Int) (c:Int))) (bits .and .u32 (b:Int) (c:Int))=((majw a b c:Nat):Int):=by
 rw[u32_and_nat _ _ ha hb,u32_and_nat _ _ ha hc,u32_and_nat _ _ hb hc,u32_xor_nat _ _ (Kr _ ha) (Kr _ ha),u32_xor_nat _ _ (Wn (Kr _ ha) (Kr _ ha)) (Kr _ hb)];rfl
def t1w (s:List Nat) (k w:Nat):Nat:=(s.getD 7 0+Vj (s.getD 4 0)+chw (s.getD 4 0) (s.getD 5 0) (s.getD 6 0)+k+w) % 4294967296
def t2w (s:List Nat):Nat:=(V8 (s.getD 0 0)+majw (s.getD 0 0) (s.getD 1 0) (s.getD 2 0)) % 4294967296
theorem rnd_t (s:List Nat) (k w:Nat):rnd s k w=[(t1w s k w+t2w s) % 4294967296,s.getD 0 0,s.getD 1 0,s.getD 2 0,(s.getD 3 0+t1w s k w) % 4294967296,s.getD 4 0,s.getD 5 0,s.getD 6 0]:=by
 unfold rnd t1w t2w
 congr 1
 ·omega
 ·congr 4
  omega
theorem sum5 (a b c d e:Nat):IntKind.u32.wrap (IntKind.u32.wrap (IntKind.u32.wrap (IntKind.u32.wrap ((a:Int)+b)+c)+d)+e)=(((a+b+c+d+e) % 4294967296:Nat):Int):=by
 rw[IntKind.wrap_u32',IntKind.wrap_u32',IntKind.wrap_u32',IntKind.wrap_u32'];omega
theorem sum2 (a b:Nat):IntKind.u32.wrap ((a:Int)+b)=(((a+b) % 4294967296:Nat):Int):=by
 rw[IntKind.wrap_u32'];omega
theorem getD8 (s:List Nat) (h:s.length=8):s=[s.getD 0 0,s.getD 1 0,s.getD 2 0,s.getD 3 0,s.getD 4 0,s.getD 5 0,s.getD 6 0,s.getD 7 0]:=by
 match s,h with
 | [a,b,c,d,e,f,g,h],_=>rfl
def addp (s r:List Nat) (i:Nat):List Nat:=(List.range 8).map λk=>if k<i then (s.getD k 0+r.getD k 0) % 4294967296 else s.getD k 0
theorem wD (s r:List Nat) (i:Nat):(addp s r i).length=8:=by simp[addp]
theorem C0 (s r:List Nat) (h:s.length=8):addp s r 0=s:=by
 have:List.range 8=[0,1,2,3,4,5,6,7]:=rfl;rw[getD8 s h];unfold addp;rw[this]
 rfl
theorem Fg (s:List Nat) (b:LI):addp s (rnds s (wds b) 64) 8=thru s b:=by
 unfold addp thru
 apply List.map_congr_left
 intro k hk;rw[if_pos (List.mem_range.1 hk)]
theorem Eo (s r:List Nat) (i:Nat) (hi:i<8):(addp s r i).getD i 0=s.getD i 0:=by
 simp[addp,List.getD_eq_getElem?_getD,hi]
theorem AQ (s r:List Nat) (i:Nat) (_hi:i<8):addp s r (i+1)=(addp s r i).set i ((s.getD i 0+r.getD i 0) % 4294967296):=by
 apply List.ext_getElem
 ·simp[addp]
 ·intro k h1 h2
  rw[List.getElem_set]
  by_cases e:i=k
  ·subst e;simp[addp]
  ·rw[if_neg e]
   simp only[addp,List.getElem_map,List.getElem_range]
   by_cases h:k<i
   ·rw[if_pos h,if_pos (by omega)]
   ·rw[if_neg h,if_neg (by omega)]
def z8:List Value:=wl (List.replicate 8 0)
theorem Tryz.zero30:(prog.info? 160).map (λi=>(i.zero,i.size))=some (some (.agg z8.toArray),8):=by kernel_rfl
structure Tw (w:World) (N M R:Nat) (s W:List Nat) (wr:World):Prop where
 st:Blk wr N 160 (wl s)
 ws:Blk wr M 245 (wl W)
 rs:Blk wr R 160 z8
 on:N0 w wr
theorem Tw.past {N M R:Nat} {s W:List Nat} {wr wr':World} (h:Tw w N M R s W wr) (o:N0 wr wr'):Tw w N M R s W wr' :=
 ⟨h.st.past o,h.ws.past o,h.rs.past o,h.on.same o⟩
theorem Fi (e:Nat) (he:e<4294967296):bits .xor .u32 4294967295 (e:Int)=((4294967295 - e:Nat):Int):=by
 have:=u32_xor_nat 4294967295 e (by decide) he;rw[show ((4294967295:Nat):Int)=4294967295 from rfl] at this;rw[this]
 congr 1
 apply Nat.eq_of_testBit_eq
 intro i;rw[show 4294967295 - e=2^32 - (e+1) by omega,Nat.testBit_two_pow_sub_succ he,Nat.testBit_xor,show 4294967295=2^32 - 1 from rfl,Nat.testBit_two_pow_sub_one]
 by_cases hi:i<32
 ·simp[hi]
 ·have:e.testBit i=false:=Nat.testBit_lt_two_pow (Nat.lt_of_lt_of_le he (show 2^32<=2^i from Nat.pow_le_pow_right (by decide) (by omega)))
  simp[hi,this]
theorem Cp (s:List Nat) (p:LI) (hs:s.length=8) (hw:W32 s) (hp:p.length=64) (h8:U8 p) (w:World) :
 Calls prog 162 #[.agg (wl s).toArray,.agg (bl p).toArray] w λe w'=>e=.returned (.agg (wl (thru s p)).toArray)∧N0 w w':=by
 have kd:(prog.info? 161).map (·.size)=some (bl p).toArray.size:=by simp[Qt,hp,Tryz.size31]
 have k4:=Qa kd;have RW:=Qa (qo p hp h8);have HWL:=Qa (Zm p);have HW:=Qa (OG p h8);have HS:=Qa (Vz hs hw);have kc:=(zero_of_info (P:=prog) Tryz.zero30).1;have kf:=(zero_of_info (P:=prog) Tryz.zero52).1;obtain⟨B,hB⟩:=EX (bl p);obtain⟨Z,hZ⟩:=EX zK;obtain⟨Y,hY⟩:=EX z8;obtain⟨D,hD⟩:=EX (wl (wds p));obtain⟨S,hS⟩:=EX (wl s);obtain⟨T,hT⟩:=EX (wl (thru s p))
 have ks:(prog.info? 245).map (·.size)=some (wl (wds p)).toArray.size:=by simp[QV,Zm,Tryz.size52]
 have kn:zK.toArray.size=(wl (wds p)).toArray.size:=by simp[QV,Zm,zK]
 have HA:=Qa (UC (wds p));have h2:=Qa ks;have h3:=Qa kn;rw[<-hZ] at kf h3;rw[<-hY] at kc;rw[<-hB] at k4 RW ⊢;rw[<-hD] at h2 h3 HA RW;rw[<-hS,<-hT];have HD:=Qa hD;have HY:=Qa hY;have HSS:=Qa hS;have h7:=Qa hT;clear kd ks kn hB hZ hY hD hS hT hs hw hp h8;go_enter func162,ntmps162;go_wp2_with (first|(refine wpList_load_row rfl 161 (.tmp 3) rfl (w.heap.size+1) rfl 161 B.toArray (0,0) _ (Blk.alloc (by have:=Blk.new (w.alloc (.cells S.toArray 160)) 161 B;rw[size_alloc] at this;exact this) _) underlying161 rfl k4.o ?_) | fail);refine (RW.o _).mono ?_;rintro e w1 ⟨rfl,h9⟩;have q1:Blk w1 w.heap.size 160 S:=(((Blk.new w 160 S).alloc (.cells B.toArray 161)).alloc (.cells Y.toArray 160)).past h9
 have q2:Blk w1 (w.heap.size+1+1) 160 Y:=by
  have:=Blk.new ((w.alloc (.cells S.toArray 160)).alloc (.cells B.toArray 161)) 160 Y;rw[size_alloc,size_alloc] at this;exact this.past h9
 have q3:N0 w w1:=(((VG.alloc _).alloc _).alloc _).same h9;have q4:w.heap.size+1+1<w1.heap.size:=q2.lt;have q5:N0 w1 ((w1.alloc (.cells Z.toArray 245)).setRow w1.heap.size D.toArray):=(VG.alloc _).setRow (λh=>absurd h (Nat.lt_irrefl _)) _
 have TW:Hid (Tw w w.heap.size w1.heap.size (w.heap.size+1+1) s (wds p) ((w1.alloc (.cells Z.toArray 245)).setRow w1.heap.size D.toArray)):=by
  refine⟨?_,?_,?_,q3.same q5⟩
  ·rw[<-HSS.o];exact q1.past q5
  ·rw[<-HD.o];exact (Blk.new w1 245 Z).row D
  ·rw[<-HY.o];exact q2.past q5
 have h4:Hid (w.heap.size≠w1.heap.size∧w.heap.size≠w.heap.size+1+1∧w.heap.size+1+1≠w1.heap.size∧w.heap.size<=w.heap.size+1+1):=⟨by omega,by omega,by omega,by omega⟩;clear h9 q1 q2 q3 q4 q5 RW kc k4;go_wp2_with (refine wpList_store_row rfl 245 (.tmp 5) (.tmp 21) rfl w1.heap.size D.toArray rfl rfl 245 Z.toArray (Blk.new w1 245 Z) h2.o h3.o HA.o ?_);obtain⟨M,hM⟩:=EX w1.heap.size;obtain⟨R,hR⟩:=EX (w.heap.size+1+1);obtain⟨N,hN⟩:=EX w.heap.size;obtain⟨W2,k1⟩:=EX (((w1.alloc (.cells Z.toArray 245)).setRow w1.heap.size D.toArray));rw[<-k1,<-hM,<-hR] at TW;rw[<-hM,<-hR] at h4;rw[<-hN] at TW h4;rw[<-k1,<-hM,<-hR,<-hN];have HN:=Qa hN;clear hM hR hN k1 kf HA h2 h3;obtain⟨x0,ho⟩:=EX (s.getD 0 0)
 have c0:W2.cell? ⟨N,0,none⟩=some (.int .u32 (x0:Int)):=by
  rw[TW.o.st.cell,wl_at _ _ (by rw[HS.o.1];decide),<-ho]
 have kl:=Qa ho;clear ho;obtain⟨x1,k9⟩:=EX (s.getD 1 0)
 have c1:W2.cell? ⟨N,1,none⟩=some (.int .u32 (x1:Int)):=by
  rw[TW.o.st.cell,wl_at _ _ (by rw[HS.o.1];decide),<-k9]
 have kh:=Qa k9;clear k9;obtain⟨x2,hh⟩:=EX (s.getD 2 0)
 have c2:W2.cell? ⟨N,2,none⟩=some (.int .u32 (x2:Int)):=by
  rw[TW.o.st.cell,wl_at _ _ (by rw[HS.o.1];decide),<-hh]
 have kr:=Qa hh;clear hh;obtain⟨x3,hu⟩:=EX (s.getD 3 0)
 have c3:W2.cell? ⟨N,3,none⟩=some (.int .u32 (x3:Int)):=by
  rw[TW.o.st.cell,wl_at _ _ (by rw[HS.o.1];decide),<-hu]
 have kj:=Qa hu;clear hu;obtain⟨x4,hl⟩:=EX (s.getD 4 0)
 have c4:W2.cell? ⟨N,4,none⟩=some (.int .u32 (x4:Int)):=by
  rw[TW.o.st.cell,wl_at _ _ (by rw[HS.o.1];decide),<-hl]
 have kp:=Qa hl;clear hl;obtain⟨x5,hm⟩:=EX (s.getD 5 0)
 have c5:W2.cell? ⟨N,5,none⟩=some (.int .u32 (x5:Int)):=by
  rw[TW.o.st.cell,wl_at _ _ (by rw[HS.o.1];decide),<-hm]
 have kg:=Qa hm;clear hm;obtain⟨x6,k3⟩:=EX (s.getD 6 0)
 have c6:W2.cell? ⟨N,6,none⟩=some (.int .u32 (x6:Int)):=by
  rw[TW.o.st.cell,wl_at _ _ (by rw[HS.o.1];decide),<-k3]
 have ki:=Qa k3;clear k3;obtain⟨x7,k5⟩:=EX (s.getD 7 0)
 have c7:W2.cell? ⟨N,7,none⟩=some (.int .u32 (x7:Int)):=by
  rw[TW.o.st.cell,wl_at _ _ (by rw[HS.o.1];decide),<-k5]
 have ko:=Qa k5;clear k5;go_quiet (fail);go_wp2;go_quiet (fail);go_wp2_with fail;refine (zn _).mono ?_;rintro e w3 ⟨rfl,ka⟩;have kk:=Qa (TW.o.past (((Only.refl (λ_=>False) W2).drewN _).same ka));clear ka TW c0 c1 c2 c3 c4 c5 c6 c7;have k7:=Qa (ut shK rfl);obtain⟨KK,kt⟩:=EX (wl shK);rw[<-kt] at k7 ⊢;clear kt;go_wp2
 have kq:Hid ([x0,x1,x2,x3,x4,x5,x6,x7]=s):=by
  show _=_
  rw[kl.o,kh.o,kr.o,kj.o,kp.o,kg.o,ki.o,ko.o];exact (getD8 s HS.o.1).symm
 clear kl kh kr kj kp kg ki ko
 go_loopw [39,6,7,8,9,10,11,12,13] (λi a b c d e f g h wr=>∃(t y0 y1 y2 y3 y4 y5 y6 y7:Nat),t<=64∧[y0,y1,y2,y3,y4,y5,y6,y7]=rnds s (wds p) t∧i=.int .i64 t∧a=.int .u32 y0∧b=.int .u32 y1∧c=.int .u32 y2∧d=.int .u32 y3∧e=.int .u32 y4∧f=.int .u32 y5∧g=.int .u32 y6∧h=.int .u32 y7∧Tw w N M R s (wds p) wr) (λi _ _ _ _ _ _ _ _ _=>64 - (intOf i).toNat)
 case atStart =>
  exact⟨0,x0,x1,x2,x3,x4,x5,x6,x7,by omega,kq.o,rfl,rfl,rfl,rfl,rfl,rfl,rfl,rfl,rfl,kk.o⟩
 case round =>
  obtain⟨t,y0,y1,y2,y3,y4,y5,y6,y7,ht,hr,rfl,rfl,rfl,rfl,rfl,rfl,rfl,rfl,rfl,h0⟩:=hrel;have HR:=Qa hr;clear hr kk kq
  by_cases hlt:t<64
  ·have h1:W32 [y0,y1,y2,y3,y4,y5,y6,y7]:=by rw[HR.o];exact wq _ _ HS.o.2 _
   have b0:=h1.at 0;have b1:=h1.at 1;have b2:=h1.at 2;have b4:=h1.at 4;have b5:=h1.at 5;have b6:=h1.at 6
   change y0 < _ at b0
   change y1 < _ at b1
   change y2 < _ at b2
   change y4 < _ at b4
   change y5 < _ at b5
   change y6 < _ at b6
   obtain⟨k,hk⟩:=EX (shK.getD t 0);obtain⟨x,hx⟩:=EX ((wds p).getD t 0);have hg:=k7.o t hlt
   have hcx:wr.cell? ⟨M,t,none⟩=some (.int .u32 (x:Int)):=by
    rw[h0.ws.cell,wl_at _ _ (by rw[HWL.o];exact hlt),<-hx]
   rw[<-hk] at hg
   have i0:(0:Int)<=(t:Int):=by omega
   have i1:(t:Int)<64:=by omega
   have k0:rnds s (wds p) (t+1)=rnd [y0,y1,y2,y3,y4,y5,y6,y7] k x:=by rw[Pq,<-HR.o,<-hk,<-hx]
   rw[rnd_t] at k0;have km:=Qa h0;obtain⟨ny,hy⟩:=EX (4294967295 - y4);have hs1:IntKind.u32.signed=false:=rfl;have hs2:IntKind.u32.max=4294967295:=rfl
   have hs3:bits .xor .u32 4294967295 (y4:Int)=(ny:Int):=by rw[Fi y4 b4,hy]
   obtain⟨ch,k6⟩:=EX (chw y4 y5 y6);obtain⟨mj,hv⟩:=EX (majw y0 y1 y2);obtain⟨g1,hz⟩:=EX (Vj y4);obtain⟨g0,hn⟩:=EX (V8 y0);obtain⟨T1,k8⟩:=EX ((y7+g1+ch+k+x) % 4294967296);obtain⟨T2,h5⟩:=EX ((g0+mj) % 4294967296);obtain⟨n0,hd⟩:=EX ((T1+T2) % 4294967296);obtain⟨n4,he⟩:=EX ((y3+T1) % 4294967296)
   have NX:Hid (rnds s (wds p) (t+1)=[n0,y0,y1,y2,n4,y4,y5,y6]):=by
    show _=_
    rw[k0];simp only[t1w,t2w,List.getD_cons_zero,List.getD_cons_succ];rw[<-k6,<-hv,<-hz,<-hn,<-k8,<-h5,<-hd,<-he]
   have S1:=Qa (jF y4 · b4);have S0:=Qa (FG y0 · b0);rw[<-hz] at S1;rw[<-hn] at S0
   have p1:bits .xor .u32 (bits .and .u32 (y4:Int) (y5:Int)) (bits .and .u32 (ny:Int) (y6:Int))=(ch:Int):=by rw[hy,k6,pG y4 y5 y6 b4 b5 b6]
   have p2:bits .xor .u32 (bits .xor .u32 (bits .and .u32 (y0:Int) (y1:Int)) (bits .and .u32 (y0:Int) (y2:Int))) (bits .and .u32 (y1:Int) (y2:Int))=(mj:Int):=by rw[hv,uk y0 y1 y2 b0 b1 b2]
   have p3:IntKind.u32.wrap (IntKind.u32.wrap (IntKind.u32.wrap (IntKind.u32.wrap ((y7:Int)+g1)+ch)+k)+x)=(T1:Int):=by rw[sum5,k8]
   have p4:IntKind.u32.wrap ((g0:Int)+mj)=(T2:Int):=by rw[sum2,h5]
   have p5:IntKind.u32.wrap ((T1:Int)+T2)=(n0:Int):=by rw[sum2,hd]
   have p6:IntKind.u32.wrap ((y3:Int)+T1)=(n4:Int):=by rw[sum2,he]
   have p7:((g0:Int)+mj) % 4294967296=(T2:Int):=by rw[h5];omega
   have p8:((T1:Int)+T2) % 4294967296=(n0:Int):=by rw[hd];omega
   have p9:((y3:Int)+T1) % 4294967296=(n4:Int):=by rw[he];omega
   have km:=Qa h0;clear hy k6 hv hz hn k8 h5 hd he hk hx h1 k0 b0 b1 b2 b4 b5 b6 h0;go_wp2;go_region_held3 (λW=>W.cell? ⟨M,t,none⟩=some (Value.int .u32 x)) (go_keep) (first|(go_at_call 199;refine (S1.o _).mono ?_;rintro e w2 ⟨rfl,rfl⟩));go_wp2_with fail;refine (S0.o _).mono ?_;rintro e w2 ⟨rfl,rfl⟩;go_wp2
   go_roundw
   case rel=>exact⟨t+1,n0,y0,y1,y2,n4,y4,y5,y6,by omega,NX.o.symm,by go_num,rfl,rfl,rfl,rfl,rfl,rfl,rfl,rfl,km.o.past VG.drew⟩
   case measure=>simp[intOf];omega
  ·obtain rfl:t=64:=by omega
   have HB:Hid (prog.built 160 [(0,.int .u32 (y0:Int)),(1,.int .u32 (y1:Int)),(2,.int .u32 (y2:Int)),(3,.int .u32 (y3:Int)),(4,.int .u32 (y4:Int)),(5,.int .u32 (y5:Int)),(6,.int .u32 (y6:Int)),(7,.int .u32 (y7:Int))]=some (wl [y0,y1,y2,y3,y4,y5,y6,y7]).toArray):=by
    show _=_
    kernel_rfl
   have k2:=Qa (ix_w8 [y0,y1,y2,y3,y4,y5,y6,y7] rfl);obtain⟨r,hr⟩:=EX ([y0,y1,y2,y3,y4,y5,y6,y7]);rw[<-hr] at HB k2 HR;obtain⟨C,hC⟩:=EX ((wl r).toArray);rw[<-hC] at HB k2
   have ke:Hid (Tw w N M R (addp s r 0) (wds p) wr):=by
    show _
    rw[C0 s r HS.o.1];exact h0
   obtain⟨W4,hW4⟩:=EX wr;subst hW4;clear hr hC h0 k7;go_wp2_with (refine KC rfl 160 _ rfl C (Eq.trans (congrArg (prog.built 160) (by kernel_rfl)) HB.o) ?_)
   go_loopw [98] (λi wr=>∃j:Nat,j<=8∧i=.int .i64 j∧Tw w N M R (addp s r j) (wds p) wr) (λi _=>8 - (intOf i).toNat)
   case atStart=>exact⟨0,by omega,rfl,ke.o⟩
   case round =>
    obtain⟨j,hj,rfl,h0⟩:=hrel;clear ke
    by_cases hlt:j<8
    ·obtain⟨a,ha⟩:=EX (s.getD j 0)
     obtain⟨b,hb⟩:=EX (r.getD j 0);have hg:=k2.o j hlt;rw[<-hb] at hg
     have hc:wr.cell? ⟨N,j,none⟩=some (.int .u32 (a:Int)):=by
      rw[h0.st.cell,wl_at _ _ (by rw[wD];exact hlt),Eo _ _ _ hlt,<-ha]
     have hf:wr.frozen? ⟨N,j,none⟩=false:=h0.st.froz _;obtain⟨q,hq⟩:=EX ((a+b) % 4294967296)
     have p1:IntKind.u32.wrap ((a:Int)+b)=(q:Int):=by rw[sum2,hq]
     have p2:((a:Int)+b) % 4294967296=(q:Int):=by rw[hq];omega
     have h6:=(Only.refl (λk=>k=N) wr).setCell (p:=⟨N,j,none⟩) (λ_=>rfl) (.int .u32 (q:Int))
     have TN:Hid (Tw w N M R (addp s r (j+1)) (wds p) (wr.setCell ⟨N,j,none⟩ (.int .u32 (q:Int)))):=by
      refine⟨?_,h0.ws.keep h6 (λe=>h4.o.1 e.symm),h0.rs.keep h6 (λe=>h4.o.2.1 e.symm),h0.on.trans h6 (λi hi e=>by have:=HN.o;omega)⟩;have:=h0.st.set j (.int .u32 (q:Int));rw[Wc] at this;rw[AQ _ _ _ hlt,<-ha,<-hb,<-hq];exact this
     have i0:(0:Int)<=(j:Int):=by omega
     have i1:(j:Int)<8:=by omega
     clear ha hb hq h0 h6;go_wp2
     go_roundw
     case rel=>exact⟨j+1,by omega,by go_num,TN.o⟩
     case measure=>simp[intOf];omega
    ·obtain rfl:j=8:=by omega
     have S2:Hid (Blk wr N 160 T):=by
      show _
      have:=h0.st;rw[HR.o,Fg,<-h7.o] at this;exact this
     have R2:=Qa h0.rs;have O2:=Qa h0.on
     have h2:Hid ((prog.info? 160).map (·.size)=some T.toArray.size):=by
      show _=_
      rw[h7.o,Tryz.size30];simp[QV,VU]
     have h3:Hid (z8.toArray.size=T.toArray.size):=by
      show _=_
      rw[h7.o];simp[QV,VU,z8]
     have HA:Hid (T.toArray.all (·.oneCell')=true):=by
      show _=_
      rw[h7.o];exact UC _
     clear h0;go_wp2_with (first|(refine wpList_load_row rfl 160 (.tmp 2) rfl N rfl 160 T.toArray (0,0) _ S2.o underlying160 rfl h2.o ?_)|(refine wpList_store_row rfl 160 (.tmp 4) (.tmp 109) rfl R T.toArray rfl rfl 160 z8.toArray R2.o h2.o h3.o HA.o ?_));refine bodyPost_ret (v:=.agg T.toArray) (results_cell_row rfl _ _ R 160 T.toArray (0,0) _ rfl (R2.o.row T) underlying160 rfl h2.o) rfl ⟨rfl,?_⟩;exact O2.o.setRow (λh=>absurd h (by have:=h4.o.2.2.2;have:=HN.o;omega)) _
end Go.Proofs.YtiochaeeoelmjaaGreatDoor
