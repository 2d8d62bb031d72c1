import Derived.Laws.BitsAllLaws
import Derived.Test.YtnhapmboienipaaGreatDoorY3
import Derived.Test.YtnhapmboienipaaGreatDoorY1
import Derived.Laws.IdiomStrings
import Derived.Laws.BytesArg
import Derived.Test.YtnhapmboienipaaGreatDoorProg
import Derived.OpenShut
import Derived.Test.YtnhapmboienipaaGreatDoorY2
import Derived.Deep.WholeRow
import Derived.Deep.MidRow
import Derived.Great.BuildSlice
import Derived.Deep.RegionHeld3
import Derived.Deep.RegionLaw
namespace Go.Proofs.YtnhapmboienipaaGreatDoor
set_option maxHeartbeats 1600000
set_option maxRecDepth 100000
open Go.RowKit _root_.Go.Proofs.Tryz
def w32:Nat:=4294967296
def rotw (x n:Nat):Nat:=(x / 2^n) ||| (x*2^(32 - n) % 4294967296)
def shK:List Nat:=[0x428a2f98,0x71374491,0xb5c0fbcf,0xe9b5dba5,0x3956c25b,0x59f111f1,0x923f82a4,0xab1c5ed5,
 0xd807aa98,0x12835b01,0x243185be,0x550c7dc3,0x72be5d74,0x80deb1fe,0x9bdc06a7,0xc19bf174,
 0xe49b69c1,0xefbe4786,0x0fc19dc6,0x240ca1cc,0x2de92c6f,0x4a7484aa,0x5cb0a9dc,0x76f988da,
 0x983e5152,0xa831c66d,0xb00327c8,0xbf597fc7,0xc6e00bf3,0xd5a79147,0x06ca6351,0x14292967,
 0x27b70a85,0x2e1b2138,0x4d2c6dfc,0x53380d13,0x650a7354,0x766a0abb,0x81c2c92e,0x92722c85,
 0xa2bfe8a1,0xa81a664b,0xc24b8b70,0xc76c51a3,0xd192e819,0xd6990624,0xf40e3585,0x106aa070,
 0x19a4c116,0x1e376c08,0x2748774c,0x34b0bcb5,0x391c0cb3,0x4ed8aa4a,0x5b9cca4f,0x682e6ff3,
 0x748f82ee,0x78a5636f,0x84c87814,0x8cc70208,0x90befffa,0xa4506ceb,0xbef9a3f7,0xc67178f2]
def shH:List Nat:=[0x6a09e667,0xbb67ae85,0x3c6ef372,0xa54ff53a,0x510e527f,0x9b05688c,0x1f83d9ab,0x5be0cd19]
def sg0 (y:Nat):Nat:=rotw y 7 ^^^ rotw y 18 ^^^ (y / 8)
def sg1 (x:Nat):Nat:=rotw x 17 ^^^ rotw x 19 ^^^ (x / 1024)
def Sg0 (a:Nat):Nat:=rotw a 2 ^^^ rotw a 13 ^^^ rotw a 22
def Sg1 (e:Nat):Nat:=rotw e 6 ^^^ rotw e 11 ^^^ rotw e 25
def chw (e f g:Nat):Nat:=(e &&& f) ^^^ ((4294967295 - e) &&& g)
def majw (a b c:Nat):Nat:=(a &&& b) ^^^ (a &&& c) ^^^ (b &&& c)
def wd4 (b:List Int) (t:Nat):Nat:=(b.getD (4*t) 0).toNat*16777216+(b.getD (4*t+1) 0).toNat*65536+(b.getD (4*t+2) 0).toNat*256+(b.getD (4*t+3) 0).toNat
def nextw (w:List Nat):Nat:=(sg1 (w.getD (w.length - 2) 0)+w.getD (w.length - 7) 0+sg0 (w.getD (w.length - 15) 0)+w.getD (w.length - 16) 0) % 4294967296
def wext:Nat→List Nat→List Nat
 | 0,w=>w
 | n+1,w=>wext n (w++[nextw w])
def wds (b:List Int):List Nat:=wext 48 ((List.range 16).map (wd4 b))
def rnd (s:List Nat) (k w:Nat):List Nat :=
 [(s.getD 7 0+Sg1 (s.getD 4 0)+chw (s.getD 4 0) (s.getD 5 0) (s.getD 6 0)+k+w+Sg0 (s.getD 0 0)+majw (s.getD 0 0) (s.getD 1 0) (s.getD 2 0)) % 4294967296,
 s.getD 0 0,s.getD 1 0,s.getD 2 0,(s.getD 3 0+s.getD 7 0+Sg1 (s.getD 4 0)+chw (s.getD 4 0) (s.getD 5 0) (s.getD 6 0)+k+w) % 4294967296,s.getD 4 0,s.getD 5 0,s.getD 6 0]
def rnds (s:List Nat) (w:List Nat) (t:Nat):List Nat:=(List.range t).foldl (fun s i=>rnd s (shK.getD i 0) (w.getD i 0)) s
def thru (s:List Nat) (b:List Int):List Nat:=(List.range 8).map fun i=>(s.getD i 0+(rnds s (wds b) 64).getD i 0) % 4294967296
def zpad (n:Nat):Nat:=(119 - n % 64) % 64
def be8 (v:Nat):List Int:=(List.range 8).map fun i=>((v / 256^(7 - i) % 256:Nat):Int)
def be4 (v:Nat):List Int:=(List.range 4).map fun i=>((v / 256^(3 - i) % 256:Nat):Int)
def padS (b:List Int):List Int:=b++128 :: (List.replicate (zpad b.length) 0++be8 (8*b.length))
def thrus (s:List Nat) (p:List Int) (k:Nat):List Nat:=(List.range k).foldl (fun s i=>thru s ((p.drop (64*i)).take 64)) s
def SHA (b:List Int):List Int:=(thrus shH (padS b) ((padS b).length / 64)).flatMap be4
theorem QjG (n:Nat):(n+1+zpad n) % 64=56:=by unfold zpad;omega
theorem QeL (v:Nat):(be8 v).length=8:=by simp [be8]
theorem Qf4 (b:List Int):(padS b).length=b.length+1+zpad b.length+8:=by
 unfold padS;simp only [Yae,Yah,List.length_replicate,QeL];omega
theorem QpW (b:List Int):(padS b).length % 64=0:=by
 rw [Qf4];have:=QjG b.length;omega
theorem QcH (s:List Nat) (b:List Int):(thru s b).length=8:=by simp [thru]
theorem QeM (s:List Nat) (w:List Nat) (t:Nat):rnds s w (t+1)=rnd (rnds s w t) (shK.getD t 0) (w.getD t 0):=by
 unfold rnds;rw [List.range_succ,List.foldl_append];rfl
theorem Qbu (s:List Nat) (p:List Int) (k:Nat):thrus s p (k+1)=thru (thrus s p k) ((p.drop (64*k)).take 64):=by
 unfold thrus;rw [List.range_succ,List.foldl_append];rfl
theorem Qfm (s:List Nat) (p:List Int):thrus s p 0=s:=rfl
theorem QsW (s:List Nat) (b:List Int):∀x∈thru s b,x<4294967296:=by
 intro x hx;simp only [thru,List.mem_map] at hx;obtain ⟨i,_,rfl⟩:=hx;exact Nat.mod_lt _ (by decide)
theorem Qcr (p:List Int) (k:Nat):(thrus shH p k).length=8:=by
 cases k with
 | zero=>rfl
 | succ k=>rw [Qbu];exact QcH _ _
theorem QsX (v:Nat):(be4 v).length=4:=by simp [be4]
theorem Qns (l:List Nat):(l.flatMap be4).length=4*l.length:=by
 induction l with
 | nil=>rfl
 | cons a t ih=>rw [List.flatMap_cons,Yae,QsX,ih,Yah];omega
theorem QaR (b:List Int):(SHA b).length=32:=by unfold SHA;rw [Qns,Qcr]
theorem Qnt (v:Nat):∀y∈be4 v,0≤y∧y≤255:=by
 intro y hy;simp only [be4,List.mem_map] at hy;obtain ⟨i,_,rfl⟩:=hy;have:v / 256^(3 - i) % 256<256:=Nat.mod_lt _ (by decide);omega
theorem Qdp (b:List Int):∀y∈SHA b,0≤y∧y≤255:=by
 intro y hy;simp only [SHA,List.mem_flatMap] at hy;obtain ⟨v,_,h⟩:=hy;exact Qnt v y h
def U8 (b:List Int):Prop:=∀y∈b,0≤y∧y≤255
theorem U8.at {b:List Int} (h:U8 b) (j:Nat):0≤b.getD j 0∧b.getD j 0≤255:=by
 rw [Yad]
 by_cases hj:j<b.length
 ·rw [Yaf hj];exact h _ (List.getElem_mem hj)
 ·rw [List.getElem?_eq_none (by omega)];decide
theorem U8.app {a b:List Int} (h:U8 a) (k:U8 b):U8 (a++b):=fun y hy=>by
 rcases List.mem_append.1 hy with h1 | h1
 ·exact h y h1
 ·exact k y h1
theorem U8.take {a:List Int} (h:U8 a) (n:Nat):U8 (a.take n):=fun y hy=>h y (List.mem_of_mem_take hy)
theorem U8.drop {a:List Int} (h:U8 a) (n:Nat):U8 (a.drop n):=fun y hy=>h y (List.mem_of_mem_drop hy)
def W32 (s:List Nat):Prop:=∀x∈s,x<4294967296
theorem W32.at {s:List Nat} (h:W32 s) (j:Nat):s.getD j 0<4294967296:=by
 rw [Yad]
 by_cases hj:j<s.length
 ·rw [Yaf hj];exact h _ (List.getElem_mem hj)
 ·rw [List.getElem?_eq_none (by omega)];decide
theorem W32.app {a b:List Nat} (h:W32 a) (k:W32 b):W32 (a++b):=fun y hy=>by
 rcases List.mem_append.1 hy with h1 | h1
 ·exact h y h1
 ·exact k y h1
theorem W32.one {x:Nat} (h:x<4294967296):W32 [x]:=fun y hy=>by simp at hy;subst hy;exact h
def accw (b:List Int) (k:Nat):Nat→Nat
 | 0=>0
 | m+1=>accw b k m*256+(b.getD (4*k+m) 0).toNat
theorem QnF (b:List Int) (h:U8 b) (k:Nat):∀m,accw b k m<256^m:=by
 intro m
 induction m with
 | zero=>exact Nat.zero_lt_one
 | succ m ih =>
  have:=h.at (4*k+m);have e:256^(m+1)=256^m*256:=Nat.pow_succ ..
  show accw b k m*256+(b.getD (4*k+m) 0).toNat < _
  rw [e];omega
theorem Qhm (b:List Int) (k:Nat):accw b k 4=wd4 b k:=by
 simp only [accw,wd4,Nat.add_zero];omega
def wpart (b:List Int) (i:Nat):List Nat:=(List.range 64).map fun k=>accw b k (min 4 (i - 4*k))
theorem QnG (b:List Int) (i:Nat):(wpart b i).length=64:=by simp [wpart]
theorem Qp6 (b:List Int) (i k:Nat) (hk:k<64):(wpart b i).getD k 0=accw b k (min 4 (i - 4*k)):=by
 simp [wpart,List.getD_eq_getElem?_getD,hk]
theorem QkK (b:List Int):wpart b 0=List.replicate 64 0:=by
 apply List.ext_getElem
 ·simp [wpart]
 ·intro i h1 h2
  simp only [wpart,List.getElem_map,List.getElem_range,List.getElem_replicate];rw [show min 4 (0 - 4*i)=0 by omega];rfl
theorem QkL (b:List Int) (i:Nat) (_hi:i<64):(wpart b i).getD (i / 4) 0=accw b (i / 4) (i % 4):=by
 rw [Qp6 b i _ (by omega),show min 4 (i - 4*(i / 4))=i % 4 by omega]
theorem QkM (b:List Int) (i:Nat) (_hi:i<64):wpart b (i+1)=(wpart b i).set (i / 4) (accw b (i / 4) (i % 4)*256+(b.getD i 0).toNat):=by
 apply List.ext_getElem
 ·simp [wpart]
 ·intro k h1 h2
  have hk:k<64:=by simpa [wpart] using h1
  rw [List.getElem_set]
  by_cases e:i / 4=k
  ·rw [if_pos e]
   simp only [wpart,List.getElem_map,List.getElem_range];subst e;rw [show min 4 (i+1 - 4*(i / 4))=i % 4+1 by omega]
   show accw b (i / 4) (i % 4)*256+(b.getD (4*(i / 4)+i % 4) 0).toNat=_
   rw [show 4*(i / 4)+i % 4=i by omega]
  ·rw [if_neg e]
   simp only [wpart,List.getElem_map,List.getElem_range];rw [show min 4 (i+1 - 4*k)=min 4 (i - 4*k) by omega]
theorem QnH (b:List Int):wpart b 64=(List.range 16).map (wd4 b)++List.replicate 48 0:=by
 apply List.ext_getElem
 ·simp [wpart]
 ·intro k h1 h2
  have hk:k<64:=by simpa [wpart] using h1
  by_cases h:k<16
  ·rw [List.getElem_append_left (by simpa using h)]
   simp only [wpart,List.getElem_map,List.getElem_range];rw [show min 4 (64 - 4*k)=4 by omega,Qhm]
  ·rw [List.getElem_append_right (by simp;omega)]
   simp only [wpart,List.getElem_map,List.getElem_range,List.getElem_replicate];rw [show min 4 (64 - 4*k)=0 by omega];rfl
theorem QuB (b:List Int) (h:U8 b) (k:Nat):wd4 b k<4294967296:=by rw [←Qhm];exact QnF b h k 4
theorem Qhn:∀(n:Nat) (w:List Nat),wext (n+1) w=wext n w++[nextw (wext n w)]:=by
 intro n
 induction n with
 | zero=>intro w;rfl
 | succ n ih=>intro w;rw [show wext (n+1+1) w=wext (n+1) (w++[nextw w]) from rfl,ih];rfl
theorem Qp7 (n:Nat) (w:List Nat):(wext n w).length=w.length+n:=by
 induction n with
 | zero=>rfl
 | succ n ih=>rw [Qhn,Yae,ih];rfl
theorem Qp8 (w:List Nat):nextw w<4294967296:=Nat.mod_lt _ (by decide)
def wv (b:List Int) (t:Nat):List Nat:=wext (t - 16) ((List.range 16).map (wd4 b))
theorem QnI (b:List Int) (t:Nat) (h:16≤t):(wv b t).length=t:=by simp [wv,Qp7];omega
theorem QiA (b:List Int) (t:Nat) (h:16≤t):wv b (t+1)=wv b t++[nextw (wv b t)]:=by
 unfold wv;rw [show t+1 - 16=(t - 16)+1 by omega,Qhn]
theorem Qq4 (b:List Int):wv b 64=wds b:=rfl
theorem QdF (b:List Int):(wds b).length=64:=QnI b 64 (by decide)
theorem QnJ (b:List Int) (h:U8 b) (n:Nat):W32 (wv b (16+n)):=by
 induction n with
 | zero =>
  intro x hx;simp [wv,wext] at hx;obtain ⟨k,_,rfl⟩:=hx;exact QuB b h k
 | succ n ih =>
  rw [←Nat.add_assoc,QiA b _ (by omega)];exact ih.app (W32.one (Qp8 _))
theorem Qs4 (b:List Int) (h:U8 b):W32 (wds b):=QnJ b h 48
theorem Qp9 (V:List Nat) (t x:Nat) (hV:V.length=t) (ht:t<64):(V++List.replicate (64 - t) 0).set t x=(V++[x])++List.replicate (64 - (t+1)) 0:=by
 subst hV;rw [List.set_append_right _ _ (Nat.le_refl _),Nat.sub_self,show 64 - V.length=(64 - (V.length+1))+1 by omega,List.replicate_succ,Yab];simp
theorem QnK (V z:List Nat) (k:Nat) (h:k<V.length):(V++z).getD k 0=V.getD k 0:=by
 rw [Yad,Yad,List.getElem?_append_left h]
theorem QjM (V:List Nat) (t:Nat) (hV:V.length=t):nextw V=(sg1 (V.getD (t - 2) 0)+V.getD (t - 7) 0+sg0 (V.getD (t - 15) 0)+V.getD (t - 16) 0) % 4294967296:=by
 subst hV;rfl
theorem Qs5 (x b:Nat) (hb:b<256):(x*256) ||| b=x*256+b:=by
 have:=Nat.two_pow_add_eq_or_of_lt (i:=8) (b:=b) (by simpa using hb) x;rw [Nat.mul_comm x 256];exact this.symm
theorem Qdq {x y:Nat} (hx:x<4294967296) (hy:y<4294967296):x ^^^ y<4294967296:=Nat.xor_lt_two_pow (n:=32) hx hy
theorem QjN (x n:Nat) (hx:x<4294967296):x / 2^n<4294967296:=Nat.lt_of_le_of_lt (Nat.div_le_self _ _) hx
def keyS (key:List Int):List Int:=if 64<key.length then SHA key else key
def pad64 (key:List Int):List Int:=keyS key++List.replicate (64 - (keyS key).length) 0
def xorB (x:Nat) (l:List Int):List Int:=l.map fun y=>((y.toNat ^^^ x:Nat):Int)
def MACL (key b:List Int):List Int:=SHA (xorB 92 (pad64 key)++SHA (xorB 54 (pad64 key)++b))
theorem QaN (key b:List Int):(MACL key b).length=32:=QaR _
theorem Qeh (key b:List Int):U8 (MACL key b):=Qdp _
theorem QoM (key:List Int):(keyS key).length≤64:=by
 unfold keyS
 by_cases h:64<key.length
 ·rw [if_pos h,QaR];decide
 ·rw [if_neg h];omega
theorem QrJ {key:List Int} (h:U8 key):U8 (keyS key):=by
 unfold keyS
 by_cases hk:64<key.length
 ·rw [if_pos hk];exact Qdp _
 ·rw [if_neg hk];exact h
theorem Qei (key:List Int):(pad64 key).length=64:=by
 have:=QoM key;unfold pad64;rw [Yae,List.length_replicate];omega
theorem QoN (n:Nat):U8 (List.replicate n 0):=fun y hy=>by
 rw [List.mem_replicate] at hy;obtain ⟨_,rfl⟩:=hy;decide
theorem QoO {key:List Int} (h:U8 key):U8 (pad64 key):=(QrJ h).app (QoN _)
theorem QbZ (x:Nat) (l:List Int):(xorB x l).length=l.length:=List.length_map ..
theorem QrK (x:Nat) (hx:x<256) {l:List Int} (h:U8 l):U8 (xorB x l):=fun y hy=>by
 obtain ⟨z,hz,rfl⟩:=List.mem_map.1 hy;have h1:=h z hz;have:z.toNat ^^^ x<256:=Nat.xor_lt_two_pow (n:=8) (by omega) hx;omega
def tpc (key info:List Int):Nat→List Int
 | 0=>[]
 | i+1=>MACL key (tpc key info i++info++[(((i+1) % 256:Nat):Int)])
def tcat (key info:List Int):Nat→List Int
 | 0=>[]
 | i+1=>tcat key info i++tpc key info (i+1)
theorem Qej (key info:List Int) (i:Nat):(tpc key info (i+1)).length=32:=QaN _ _
theorem Qc8 (key info:List Int) (i:Nat):(tcat key info i).length=32*i:=by
 induction i with
 | zero=>rfl
 | succ i ih=>rw [tcat,Yae,ih,Qej];omega
theorem QhY (key info:List Int) (i d:Nat):(tcat key info (i+d)).take (32*i)=tcat key info i:=by
 induction d with
 | zero=>exact List.take_of_length_le (Nat.le_of_eq (Qc8 _ _ _))
 | succ d ih =>
  rw [←Nat.add_assoc,tcat,List.take_append_of_le_length (by rw [Qc8];omega),ih]
def EXPL (key info:List Int) (n:Nat):List Int:=(tcat key info ((n+31) / 32)).take n
theorem QoP (key info:List Int) (n:Nat):(EXPL key info n).length=n:=by
 unfold EXPL;rw [Yag,Qc8];omega
theorem QrL (key info:List Int) (i:Nat):U8 (tcat key info i):=by
 induction i with
 | zero=>intro y hy;cases hy
 | succ i ih=>exact ih.app (Qeh _ _)
theorem QrM (key info:List Int) (n:Nat):U8 (EXPL key info n):=(QrL _ _ _).take _
def fixB (v:Int) (i:Nat):Int:=v / 2^(8*i) % 256
def fixAt (v:Int) (n k:Nat):List Int:=(List.range n).map fun j=>if n≤j+k then fixB v (n - 1 - j) else 0
def fixL (v:Int) (n:Nat):List Int:=(List.range n).map fun j=>fixB v (n - 1 - j)
theorem Qcg (v:Int) (n k:Nat):(fixAt v n k).length=n:=by simp [fixAt]
theorem Qag (v:Int) (n:Nat):(fixL v n).length=n:=by simp [fixL]
theorem Qj5 (v:Int) (n:Nat):(fixAt v n 0).map (Value.int .u8)=(madeCells #[Value.int .u8 0] (n*1)).toList:=by
 apply List.ext_getElem?
 intro i
 by_cases h:i<n
 ·simp [fixAt,madeCells,h,Nat.mod_one]
  omega
 ·simp [fixAt,madeCells,h]
theorem Qlw (v:Int) (n:Nat):fixAt v n n=fixL v n:=by
 unfold fixAt fixL
 apply List.map_congr_left
 intro j _;rw [if_pos (by omega)]
theorem Qj6 (v:Int) (n k:Nat) (h:k<n):(fixAt v n k).set (n - 1 - k) (fixB v k)=fixAt v n (k+1):=by
 apply List.ext_getElem?
 intro i;rw [List.getElem?_set,Qcg]
 by_cases hi:i<n
 ·by_cases he:n - 1 - k=i
  ·subst he
   rw [if_pos rfl,if_pos hi];simp only [fixAt,List.getElem?_map,List.getElem?_range hi,Option.map_some];rw [if_pos (by omega),show n - 1 - (n - 1 - k)=k by omega]
  ·rw [if_neg he]
   simp only [fixAt,List.getElem?_map,List.getElem?_range hi,Option.map_some]
   by_cases h1:n≤i+k
   ·rw [if_pos h1,if_pos (by omega)]
   ·rw [if_neg h1,if_neg (by omega)]
 ·rw [if_neg (by omega),List.getElem?_eq_none (by rw [Qcg];omega),List.getElem?_eq_none (by rw [Qcg];omega)]
theorem Qdt (v:Int) (i:Nat):0≤fixB v i∧fixB v i≤255:=by unfold fixB;omega
theorem QaG (v:Int) (n:Nat):∀y∈fixL v n,0≤y∧y≤255:=by
 intro y hy;simp only [fixL,List.mem_map] at hy;obtain ⟨j,_,rfl⟩:=hy;exact Qdt _ _
theorem Qbx (v:Int) (n:Nat) (w:World) (h:n≤8) :
  Calls prog 76 #[.int .u64 v,.int .i64 n] w fun e w'=>∃u,e=.returned u∧w'.ownsRow w.heap.size 5 1 u (fixL v n).length ((fixL v n).map (Value.int .u8))∧Only (fun _=>False) w w':=by
 obtain ⟨i0,hi,hz0,hz1,hz2⟩:=info_parts Tryz.infoU8;obtain ⟨wm,hmk,hown0,hgr⟩:=run_make_full (P:=prog) w w.heap.size 22 5 i0 (.int .u8 0) 1 underlying22 hi hz0 hz1 .i64 .i64 n (by rw [hz2];omega) (by unfold maxLen;omega) (Nat.le_refl _)
 have START:Hid (wm.ownsRow w.heap.size 5 1 (.slice (some ⟨w.heap.size,0,none⟩) n n) n ((fixAt v n 0).map (Value.int .u8))∧Only (fun _=>False) w wm):=by
  rw [show (Value.int .u8 0).cells=#[Value.int .u8 0] from rfl] at hown0;rw [Qj5];exact ⟨hown0,(Only.refl _ _).grown hgr (fun _ _ e=>by cases e)⟩
 clear hown0 hgr
 have d0:decide ((n:Int)<0)=false:=by simp
 have d8:decide (8<(n:Int))=false:=Yak (by omega);obtain ⟨N,hN⟩:∃N,N=w.heap.size:=⟨_,rfl⟩;rw [←hN] at hmk START;rw [←hN];have HN:=Qaa hN;clear hN;go_enter func76,ntmps76;go_wp2
 go_loopw [17] (fun i wr=>∃k:Nat,k≤n∧i=.int .i64 k∧wr.ownsRow N 5 1 (.slice (some ⟨N,0,none⟩) n n) n ((fixAt v n k).map (Value.int .u8))∧Only (fun _=>False) w wr) (fun i _=>n - (intOf i).toNat)
 case atStart=>exact ⟨0,Nat.zero_le _,rfl,START.out.1,START.out.2⟩
 case round =>
  obtain ⟨k,hk,rfl,hown,hon⟩:=hrel;clear START hmk
  by_cases hlt:k<n
  ·have hcell:∃y,wr.cell? ⟨N,n - 1 - k,none⟩=some (.int .u8 y):=by
    refine ⟨(fixAt v n k).getD (n - 1 - k) 0,?_⟩;rw [hown.cellAt (n - 1 - k) (by omega),List.getElem?_map,Yaf (by rw [Qcg];omega),Yad,Yaf (by rw [Qcg];omega)]
    rfl
   obtain ⟨y,hy⟩:=hcell;have hfr:wr.frozen? ⟨N,n - 1 - k,none⟩=false:=hown.frozenAt _
   have i0:(0:Int)≤(n:Int) - 1 - k:=by omega
   have i1:(n:Int) - 1 - k<(n:Int):=by omega
   have it:((n:Int) - 1 - k).toNat=n - 1 - k:=by omega
   have H:=Qaa (And.intro hown hon);clear hown hon;go_wp2
   go_roundw
   case rel =>
    refine ⟨k+1,by omega,by go_num,?_,?_⟩
    ·have h1:=(H.out.1.stored (n - 1 - k) (.int .u8 (fixB v k))).1
     rw [←List.map_set,Qj6 v n k hlt] at h1;exact h1
    ·refine H.out.2.setCell (fun hb=>?_) _
     have:=HN.out;simp only at hb;omega
   case measure=>simp [intOf];omega
  ·have hkn:k=n:=by omega
   subst hkn;have H:=Qaa (And.intro hown hon);clear hown hon;go_wp2;go_ret;rw [Qag,←Qlw];exact ⟨_,rfl,H.out⟩
def blk (b:List Int):List Int:=gs b.length++b
theorem QbL (b:List Int) (h:b.length≤1000000):(blk b).length≤b.length+10:=by
 have:=QaC (v:=b.length) (by omega);simp only [blk,Yae];omega
theorem Qby (b:List Int) (hr:∀y∈b,0≤y∧y≤255):∀y∈blk b,0≤y∧y≤255:=by
 intro y hy;simp only [blk,List.mem_append] at hy
 rcases hy with hy | hy
 ·exact Qa8 _ y hy
 ·exact hr y hy
theorem QcW (vb:Value) (ys:List Int) (w:World) (hb:Bs .u8 w vb ys) (nb:NoCap vb) (hl:ys.length≤1000000) :
  Calls prog 24 #[vb] w fun e w'=>∃v',e=.returned v'∧w'.ownsRow w.heap.size 5 1 v' (blk ys).length ((blk ys).map (Value.int .u8))∧Only (fun _=>False) w w':=by
 have HB:=Qaa hb;have NB:=Qaa nb;have A:=Qaa (Qaz (.slice none 0 0) [] ys.length w (Bs.nil _ _) NoCap.nil (by simp) (by omega) (by omega));rw [List.nil_append,Int.toNat_natCast] at A;have H10:=Qaa (QaC (v:=ys.length) (by omega));have HP:=Qaa (Qfo ys.length);obtain ⟨ab,cb,rfl⟩:=hb.len;clear hb nb;go_enter func24,ntmps24;go_wp2_with fail;refine A.out.mono ?_;rintro e w1 ⟨v1,rfl,hown1,hon1⟩;have hbl:Below w1.heap.size w1 (w1.alloc (.cells #[v1,.slice ab ys.length cb] 22)):=(Below.refl _ _).alloc (Nat.le_refl _) _;have CC:=Qaa (Qa1 w1.heap.size v1 (.slice ab ys.length cb) (gs ys.length) ys (w1.alloc (.cells #[v1,.slice ab ys.length cb] 22)) (by go_cell) (by go_cell) ((Bs.of_own hown1).later hbl) ((HB.out.later (hon1.low (Nat.le_refl _))).later hbl) (NoCap.of_own hown1) NB.out (by have:=HP.out;omega) (by have:=H10.out;omega));have O1:=Qaa hon1;have F1:Hid (∃ao c,v1=.slice ao (gs ys.length).length c):=(Bs.of_own hown1).len;clear hown1 hon1 hbl A;obtain ⟨ao1,c1,hv1⟩:=F1.out;subst hv1;go_wp2_with fail;refine CC.out.mono ?_;rintro e w2 ⟨v',rfl,hown,hon⟩
 have F:Hid (w2.ownsRow w.heap.size 5 1 v' (blk ys).length ((blk ys).map (Value.int .u8))∧Only (fun _=>False) w w2) :=
  ⟨Qaf hown (by have:=O1.out.size;simp;omega),(O1.out.alloc _).trans hon (fun _ _ f=>f)⟩
 clear hown hon CC O1;go_wp2;go_ret;exact ⟨_,rfl,F.out⟩
theorem Qgq {b:List Int} (h:b.length≤127):blk b=(b.length:Int) :: b:=by
 unfold blk;rw [Qa7 (by omega)]
 rfl
def sb (s:ByteArray):List Int:=s.data.toList.map fun c=>(c.toNat:Int)
theorem QaE (s:ByteArray):(sb s).length=s.size:=by simp [sb]
theorem Qd5 (s:ByteArray):∀y∈sb s,0≤y∧y≤255:=by
 intro y hy;simp only [sb,List.mem_map] at hy;obtain ⟨c,_,rfl⟩:=hy;have:=c.toNat_lt;omega
theorem of_sb (s:ByteArray):strOfNums (sb s)=s:=by
 unfold strOfNums sb;rw [List.map_map]
 have:s.data.toList.map ((fun n:Int=>UInt8.ofNat n.toNat) ∘ fun c:UInt8=>(c.toNat:Int))=s.data.toList:=by
  refine (List.map_congr_left (g:=id) (fun x _=>?_)).trans (List.map_id _);simp
 rw [this]
theorem sb_of {l:List Int} (h:∀y∈l,0≤y∧y≤255):sb (strOfNums l)=l:=by
 unfold strOfNums sb;rw [List.map_map];refine (List.map_congr_left (g:=id) (fun x hx=>?_)).trans (List.map_id _);have:=h x hx;simp only [Function.comp,id];rw [UInt8.toNat_ofNat'];omega
theorem Quz {s t:ByteArray} (h:sb s=sb t):s=t:=by rw [←of_sb s,←of_sb t,h]
def KTX (p:Int) (nm:List Int):List Int:=p :: blk nm
def KDV (key:List Int) (p:Int) (nm:List Int):List Int:=EXPL key (KTX p nm) 32
def NTX (v i:Int):List Int:=fixL v 8++fixL i 4
def KNC (key:List Int) (v i:Int):List Int:=(MACL (KDV key 3 []) (NTX v i)).take 12
def KDt (key:List Int) (p:Int) (nm:List Int):List Int:=if key.length=32 then (if nm.length≤64 then KDV key p nm else []) else []
def KDe (key nm:List Int):Int:=if key.length=32 then (if nm.length≤64 then 0 else 4) else 1
abbrev KIX (i:Int):Prop:=0≤i∧i<1048576
def KNt (key:List Int) (v i:Int):List Int:=if key.length=32 then (if KIX i then KNC key v i else []) else []
def KNe (key:List Int) (i:Int):Int:=if key.length=32 then (if KIX i then 0 else 1) else 1
theorem Qmy (p:Int) (nm:List Int) (h:nm.length≤127):KTX p nm=p :: (nm.length:Int) :: nm:=by rw [KTX,Qgq h]
theorem Qr6 (p:Int) (nm:List Int) (h:nm.length≤127):(KTX p nm).length=nm.length+2:=by rw [Qmy p nm h];simp
theorem Qt6 {p:Int} {nm:List Int} (hp:0≤p∧p≤255) (h:U8 nm):U8 (KTX p nm):=fun y hy=>by
 rcases List.mem_cons.1 hy with rfl | hy
 ·exact hp
 ·exact Qby nm h y hy
theorem QcX (key:List Int) (p:Int) (nm:List Int):(KDV key p nm).length=32:=QoP _ _ _
theorem Qjl (key:List Int) (p:Int) (nm:List Int):U8 (KDV key p nm):=QrM _ _ _
theorem Qmz (v i:Int):(NTX v i).length=12:=by simp [NTX,Qag]
theorem Qt7 (v i:Int):U8 (NTX v i):=by
 intro y hy
 rcases List.mem_append.1 hy with h | h
 ·exact QaG _ _ y h
 ·exact QaG _ _ y h
theorem QfM (key:List Int) (v i:Int):(KNC key v i).length=12:=by rw [KNC,Yag,QaN];rfl
theorem Qt8 (key:List Int) (v i:Int):U8 (KNC key v i):=(Qeh _ _).take _
theorem Qhk (w:World) (v:Value) (xs:List Int) (h:Bs .u8 w v xs):(convert 22 9 v).run prog w=.ok (.string (strOfNums xs)) w:=by
 obtain ⟨ao,cap,rfl,hl,hc⟩:=h
 cases ao with
 | none =>
  have hx:xs=[]:=by
   by_cases hx:xs=[]
   ·exact hx
   ·obtain ⟨b,off,e,_⟩:=hc hx;cases e
  subst hx;rw [run_convert_bytes_nil w 22 5 underlying22 underlying5 _ _ _ underlying9]
  rfl
 | some a =>
  by_cases hx:xs=[]
  ·subst hx
   obtain ⟨b,off,spot⟩:=a;rw [run_convert_bytes_string w 22 9 5 _ _ _ underlying22 underlying5 underlying9];have hl0:=run_loadCells_list (P:=prog) w ⟨b,off,spot⟩ [] (fun j u hj=>by simp at hj);rw [List.length_nil] at *;rw [run_bytesToString w _ 0 cap [] (by simpa using hl0)]
   rfl
  ·obtain ⟨b,off,e,hcell⟩:=hc hx
   cases e
   exact run_convert_bytes_arg w 22 5 underlying22 underlying5 b off xs.length cap xs rfl hcell _ underlying9
def Qbs (t:ByteArray) (c:Nat):Obj:=.cells (bytesRow t c) 5 ((bytesRow t c).size,(bytesRow t c).size+1)
theorem QcG (t:ByteArray) (W:World):(convert 9 22 (.string t)).run prog W=.ok (.slice (some ⟨W.heap.size,0,none⟩) t.size (grownCap W t.size 0 5)) (W.drew.alloc (Qbs t (grownCap W t.size 0 5))) :=
 run_bytes_of_string (P:=prog) W 9 22 5 t underlying9 underlying22 underlying5
theorem Qb6 {W:World} {t:ByteArray} {b c:Nat} (h:W.heap[b]? = some (Qbs t c)) (hc:t.size≤c):Bs .u8 W (.slice (some ⟨b,0,none⟩) t.size c) (sb t):=by
 refine ⟨some _,_,by rw [QaE],by rw [QaE];omega,fun _=>⟨b,0,rfl,fun j hj=>?_⟩⟩;rw [QaE] at hj
 have e:W.cell? ⟨b,0+j,none⟩=(bytesRow t c)[j]?:=by rw [Nat.zero_add];unfold World.cell?;simp only;rw [h];rfl
 rw [e];simp [bytesRow,Array.getElem?_append,hj,sb,List.getD_eq_getElem?_getD]
theorem Qaq {W:World} {k:Nat} {x o:Obj} (h:W.heap[k]? = some x):(W.alloc o).heap[k]? = some x:=by
 have hk:k<W.heap.size:=by
  rcases Nat.lt_or_ge k W.heap.size with h' | h'
  ·exact h'
  ·rw [Array.getElem?_eq_none h'] at h;cases h
 show (W.heap.push o)[k]? = _
 rw [Array.getElem?_push,if_neg (by omega)];exact h
theorem Qas {W:World} {k:Nat} {o:Obj} (h:W.heap.size=k):(W.alloc o).heap[k]? = some o:=by subst h;exact heap_alloc_new W o
theorem Qbk {W:World} {k:Nat} {x:Obj} (h:W.heap[k]? = some x):W.drew.heap[k]? = some x:=h
def wl (s:List Nat):List Value:=s.map fun x=>Value.int .u32 ((x:Nat):Int)
def bl (p:List Int):List Value:=p.map (Value.int .u8)
theorem Qaw (s:List Nat):(wl s).length=s.length:=List.length_map ..
theorem Qal (s:List Int):(bl s).length=s.length:=List.length_map ..
theorem wl_at (s:List Nat) (j:Nat) (h:j<s.length):(wl s)[j]? = some (.int .u32 ((s.getD j 0:Nat):Int)):=by
 simp [wl,List.getD_eq_getElem?_getD,List.getElem?_eq_getElem h]
theorem bl_at (s:List Int) (j:Nat) (h:j<s.length):(bl s)[j]? = some (.int .u8 (s.getD j 0)):=by
 simp [bl,List.getD_eq_getElem?_getD,List.getElem?_eq_getElem h]
theorem Qqz (s:List Nat):∀v∈wl s,v.oneCell'=true:=by
 intro u hu;simp [wl] at hu;obtain ⟨x,_,rfl⟩:=hu;rfl
theorem Qb7 (s:List Int):∀v∈bl s,v.oneCell'=true:=QaP _ _
theorem Qb8 (s:List Nat):(wl s).toArray.all (·.oneCell')=true:=all_oneCell_toArray (Qqz s)
theorem Qla (s t:List Nat):wl (s++t)=wl s++wl t:=List.map_append ..
theorem QcN (s:List Nat) (i x:Nat):(wl s).set i (.int .u32 ((x:Nat):Int))=wl (s.set i x):=by
 simp [wl,List.map_set]
def Blk (w:World) (g:Nat) (t:TypeId) (cs:List Value):Prop:=w.heap[g]? = some (.cells cs.toArray t (0,0))
theorem Blk.keep {w w':World} {g:Nat} {t:TypeId} {cs:List Value} (h:Blk w g t cs) {S:Nat→Prop} (o:Only S w w') (hs:¬S g):Blk w' g t cs:=Only.heap o h hs
theorem Blk.past {w w':World} {g:Nat} {t:TypeId} {cs:List Value} (h:Blk w g t cs) (o:Only (fun _=>False) w w'):Blk w' g t cs:=h.keep o (fun f=>f)
theorem Blk.lt {w:World} {g:Nat} {t:TypeId} {cs:List Value} (h:Blk w g t cs):g<w.heap.size:=(Array.getElem?_eq_some_iff.1 h).1
theorem Blk.cell {w:World} {g:Nat} {t:TypeId} {cs:List Value} (h:Blk w g t cs) (j:Nat):w.cell? ⟨g,j,none⟩=cs[j]?:=by
 rw [cell_of_row w g j _ t _ h];simp
theorem Blk.froz {w:World} {g:Nat} {t:TypeId} {cs:List Value} (h:Blk w g t cs) (j:Nat):w.frozen? ⟨g,j,none⟩=false:=frozen_of_row w g j _ t h
theorem Blk.set {w:World} {g:Nat} {t:TypeId} {cs:List Value} (h:Blk w g t cs) (j:Nat) (v:Value):Blk (w.setCell ⟨g,j,none⟩ v) g t (cs.set j v):=by
 have:=heap_setCell_same w g j _ t v h
 simpa [Blk] using this
theorem Blk.drew {w:World} {g:Nat} {t:TypeId} {cs:List Value} (h:Blk w g t cs):Blk w.drew g t cs:=h
theorem Blk.alloc {w:World} {g:Nat} {t:TypeId} {cs:List Value} (h:Blk w g t cs) (o:Obj):Blk (w.alloc o) g t cs:=h.past ((Only.refl _ _).alloc o)
theorem Blk.new (w:World) (t:TypeId) (cs:List Value):Blk (w.alloc (.cells cs.toArray t)) w.heap.size t cs:=heap_alloc_last w _
theorem Blk.row {w:World} {g:Nat} {t:TypeId} {cs:List Value} (h:Blk w g t cs) (vs:List Value):Blk (w.setRow g vs.toArray) g t vs:=setRow_heap w g _ _ t _ h
theorem Only.setRow {S:Nat→Prop} {a b:World} (h:Only S a b) {g:Nat} (hp:g<a.heap.size→S g) (cs:Array Value):Only S a (b.setRow g cs) :=
 h.trans (T:=fun k=>k=g) ⟨rfl,rfl,rfl,by simp,fun k _ hk=>setRow_other b g k cs hk⟩ (fun _ hi e=>by subst e;exact hp hi)
theorem Blk.there {w:World} {g:Nat} {t:TypeId} {cs:List Value} (h:Blk w g t cs) (o n:Nat) (hn:o+n≤cs.length):w.there g o n:=fun j hj=>by
 rw [h.cell,h.froz,Yaf (by omega)];exact ⟨rfl,rfl⟩
theorem Blk.range {w:World} {g:Nat} {t:TypeId} {a b c:List Value} (h:Blk w g t (a++b++c)):w.rangeAt g a.length b:=fun j v hv=>by
 have hj:=(List.getElem?_eq_some_iff.1 hv).1;rw [h.cell,List.getElem?_append_left (by simp;omega),List.getElem?_append_right (by omega),Nat.add_sub_cancel_left];exact hv
theorem Blk.rangeN {w:World} {g:Nat} {t:TypeId} {a b c:List Value} (h:Blk w g t (a++b++c)) {n:Nat} (hn:a.length=n):w.rangeAt g n b:=by
 subst hn;exact h.range
theorem Qfw (a b c vs:List Value) (hv:vs.length=b.length):∀(w:World) (g:Nat) (t:TypeId),Blk w g t (a++b++c)→Blk (w.setCells g a.length vs) g t (a++vs++c):=by
 induction vs generalizing a b with
 | nil =>
  intro w g t h
  cases b with
  | nil=>exact h
  | cons y b=>simp at hv
 | cons v vs ih =>
  intro w g t h
  cases b with
  | nil=>simp at hv
  | cons y b =>
   have h2:Blk (w.setCell ⟨g,a.length,none⟩ v) g t ((a++[v])++b++c):=by
    have:=h.set a.length v
    simpa [List.set_append] using this
   have:=ih (a++[v]) b (by simpa using hv) _ g t h2
   simpa [World.setCells] using this
theorem Only.setCells {S:Nat→Prop} {a:World} {g:Nat} (hp:g<a.heap.size→S g) (vs:List Value):∀(o:Nat) (b:World),Only S a b→Only S a (b.setCells g o vs):=by
 induction vs with
 | nil=>intro o b h;exact h
 | cons v vs ih =>
  intro o b h;exact ih (o+1) _ (h.setCell (p:=⟨g,o,none⟩) hp v)
theorem Qax {P:Program} {ops:Array Oper} {rest:List Oper} {o:Oper} {a:Act} {w:World} {Q:Exit→Act→World→Prop} (hg:o.guard=none) (t:TypeId) (parts:Array (Nat × Operand)) (ho:o.op=.build t parts)
  (cells:Array Value) (hc:P.built t (parts.map fun (i,x)=>(i,a.eval x)).toList=some cells) (h:wpList P ops Q rest (a.put o.dst (.agg cells)) w):wpList P ops Q (o :: rest) a w :=
 wpList_build hg t parts ho (by rw [hc];rfl) (by rw [hc];exact h)
theorem QaB (t e:TypeId) (n:Nat) (cs:List Value) (j:Nat) (u:Value) (h:prog.underlying t=some (.array n e)) (ha:(∀w,(isAgg e).run prog w=.ok false w)) (hs:(prog.info? e).map (·.size)=some 1) (hj:j<n) (hu:cs[j]? = some u) (w:World) :
  (Instr.index t (.agg cs.toArray) (.int .i64 j)).run prog w=.ok u w:=by
 have h1:(0:Int)≤(j:Int)∧(j:Int)<(n:Int):=by omega
 cases hq:prog.info? e with
 | none=>simp [hq] at hs
 | some i =>
  have hi:i.size=1:=by simpa [hq] using hs
  simp [Instr.index,run_underlying h,asIntOf,h1,sizeOf,typeInfo,hq,hi,ha,hu,go_sem];omega
theorem size_alloc (w:World) (o:Obj):(w.alloc o).heap.size=w.heap.size+1:=Array.size_push ..
theorem QbP (s:List Nat) (j:Nat) (h:j<s.length):s.take (j+1)=s.take j++[s.getD j 0]:=by
 rw [List.take_add_one,Yaf h,Yad,Yaf h];rfl
theorem Tryz.agg29 (w:World):(isAgg 134).run prog w=.ok false w:=by kernel_rfl
theorem Tryz.agg5 (w:World):(isAgg 5).run prog w=.ok false w:=by kernel_rfl
theorem Tryz.one29:(prog.info? 134).map (·.size)=some 1:=by kernel_rfl
theorem Tryz.one5:(prog.info? 5).map (·.size)=some 1:=by kernel_rfl
theorem Tryz.infoU32:(prog.info? 134).map (fun i=>(i.zero,i.size,i.bytes))=some (some (.int .u32 0),1,4):=by kernel_rfl
def wi (s:List Nat):List Int:=s.map fun x=>((x:Nat):Int)
theorem Qbv (s:List Nat):(wi s).length=s.length:=List.length_map ..
theorem wi_at (s:List Nat) (j:Nat):(wi s).getD j 0=((s.getD j 0:Nat):Int):=by
 simp only [wi,Yad,List.getElem?_map]
 cases s[j]? <;> rfl
theorem Qlb (s:List Nat):(wi s).map (Value.int .u32)=wl s:=by simp [wi,wl]
theorem Bs.of_wl {w:World} {g:Nat} {E:TypeId} {s:List Nat} (h:Blk w g E (wl s)) (n:Nat) (hn:s.length=n):Bs .u32 w (.slice (some ⟨g,0,none⟩) n n) (wi s):=by
 refine ⟨_,n,by rw [Qbv,hn],by rw [Qbv,hn];exact Nat.le_refl _,fun _=>⟨g,0,rfl,fun j hj=>?_⟩⟩;rw [Qbv] at hj;rw [Nat.zero_add,h.cell,wl_at s j hj,wi_at]
theorem QaZ {w:World} {b off:Nat} {n cap:Nat} {s:List Nat} (h:Bs .u32 w (.slice (some ⟨b,off,none⟩) n cap) (wi s)) (j:Nat) (hj:j<s.length):w.cell? ⟨b,off+j,none⟩=some (.int .u32 ((s.getD j 0:Nat):Int)):=by
 obtain ⟨b',off',cap',e,hc⟩:=h.at j (by rw [Qbv];exact hj);simp at e;obtain ⟨⟨rfl,rfl⟩,_,rfl⟩:=e;rw [hc,wi_at]
theorem Qn8 (w:World) (G i j:Nat) (v:Value) (h:¬i=j):(w.setCell ⟨G,i,none⟩ v).cell? ⟨G,j,none⟩=w.cell? ⟨G,j,none⟩:=World.cell?_setCell_other _ _ _ _ (fun e=>h (by cases e;rfl))
theorem Qe5 {w:World} {base g:Nat} {E:TypeId} {cs:List Value} {n:Nat} (h:Blk w g E cs) (hb:base≤g) (hm:n≤maxLen) (hc:cs.length=n) :
  w.ownsRow base E 1 (.slice (some ⟨g,0,none⟩) n n) n cs :=
 ⟨by omega,.inr ⟨g,n,cs.toArray,rfl,hb,h,Nat.le_refl _,hm,by simpa using hc,by simp [←hc]⟩⟩
theorem QiQ (s:List Int) (i:Nat) (x:Int):(bl s).set i (.int .u8 x)=bl (s.set i x):=by simp [bl,List.map_set]
theorem Bs.offB {w w':World} {g:Nat} {T:TypeId} {cs:List Value} {v:Value} {ys:List Int} (hb:Bs .u8 w v ys) (hB:Blk w g T cs) (hc:∀y∈cs,∀x,y≠.int .u8 x) (o:Only (fun k=>k=g) w w'):Bs .u8 w' v ys:=by
 obtain ⟨ao,cap,rfl,hl,hr⟩:=hb;refine ⟨ao,cap,rfl,hl,fun hne=>?_⟩;obtain ⟨b,off,rfl,h⟩:=hr hne;refine ⟨b,off,rfl,fun j hj=>?_⟩;have h0:=h j hj
 by_cases hbg:b=g
 ·subst hbg
  rw [hB.cell] at h0;exact absurd rfl (hc _ (List.mem_of_getElem? h0) _)
 ·rw [←h0]
  exact World.cell?_of_block (o.block b (World.block_lt_of_cell? w _ h0) hbg)
theorem Qgg {P:Program} {w:World} {o:Oper} {a:Act} {K:Act→World→Prop} {Q:Exit→Act→World→Prop} (s x:Operand) (t:TypeId)
  (ho:o.op=.call { callee:=.builtin .append,args:=#[s,x],argTypes:=#[t,t] })
  (base:Nat) (e:TypeId) (i:TypeInfo) (z:Value) (bytes:Nat) (ht:P.underlying t=some (.slice e)) (hi:P.info? e=some i) (hz:i.zero=some z)
  (hsize:i.size=1) (hby:i.bytes=bytes) (hzs:z.cells.size=1)
  (v:Value) (n:Nat) (xs:List Value) (hs:a.eval s=v) (hown:w.ownsRow base e 1 v n xs)
  (k:IntKind) (u:Value) (ys:List Int) (hx:a.eval x=u) (hb:Bs k w u ys) (hnc:NoCap u)
  (h63:n+ys.length≤maxLen) (hbytes:(n+ys.length)*bytes≤140737488355328) (hbase:base≤w.heap.size)
  (h:∀v' w',w'.ownsRow base e 1 v' (n+ys.length) (xs++ys.map (Value.int k))→w.grownBy w' v.ownBlock→K (a.put o.dst v') w') :
  Oper.wp P o a w K Q:=by
 obtain ⟨ao,cap,rfl⟩:=hb.len
 cases ao with
 | none =>
  have h0:ys=[]:=by
   obtain ⟨ao',cap',e1,_,hr⟩:=hb
   rcases ys with _ | ⟨y,ys⟩
   ·rfl
   ·obtain ⟨b,off,e2,_⟩:=hr (by simp)
    simp at e1;rw [←e1.1] at e2;cases e2
  subst h0;have hc:cap=0:=hnc _ _ rfl;subst hc;have hrun:=run_append_owned_none (P:=P) (w:=w) base t o.type e i 1 ht hi v n xs hown;have hK:=h v w (by simpa using hown) (World.grownBy.refl _ _);unfold Oper.wp;simp [execOp,ho,resolve,invoke,builtin,hs,hx,hrun,Result.andThen];exact hK
 | some ad =>
  obtain ⟨v',w',hrun,r1,r2,_⟩:=run_append_own_at (P:=P) w base t o.type e i z 1 bytes ht hi hz hsize hby hzs (by omega) v n xs hown ad ys.length cap (ys.map (Value.int k)) (by simp) hb.news (QaP _ _) h63 hbytes hbase;unfold Oper.wp;simp [execOp,ho,resolve,invoke,builtin,hs,hx,hrun,Result.andThen];exact h v' w' r1 r2
theorem Qbf {P:Program} {w:World} {ops:Array Oper} {o:Oper} {a:Act} {K:Act→World→Prop} {Q:Exit→Act→World→Prop} {E:Prop} (hgd:o.guard=none) (s x:Operand) (t:TypeId)
  (ho:o.op=.call { callee:=.builtin .append,args:=#[s,x],argTypes:=#[t,t] })
  (base:Nat) (e:TypeId) (i:TypeInfo) (z:Value) (bytes:Nat) (ht:P.underlying t=some (.slice e)) (hi:P.info? e=some i) (hz:i.zero=some z)
  (hsize:i.size=1) (hby:i.bytes=bytes) (hzs:z.cells.size=1)
  (v:Value) (n:Nat) (xs:List Value) (hs:a.eval s=v) (hown:w.ownsRow base e 1 v n xs)
  (k:IntKind) (u:Value) (ys:List Int) (hx:a.eval x=u) (hb:Bs k w u ys) (hnc:NoCap u)
  (h63:n+ys.length≤maxLen) (hbytes:(n+ys.length)*bytes≤140737488355328) (hbase:base≤w.heap.size)
  (h:∀v' w',w'.ownsRow base e 1 v' (n+ys.length) (xs++ys.map (Value.int k))→w.grownBy w' v.ownBlock→K (a.put o.dst v') w') :
  if Region.wanted o (yielded ops a.tmps)=true then Oper.wp P o a w K Q else E:=by
 have hw:Region.wanted o (yielded ops a.tmps)=true:=by simp [Region.wanted,hgd]
 rw [if_pos hw];exact Qgg s x t ho base e i z bytes ht hi hz hsize hby hzs v n xs hs hown k u ys hx hb hnc h63 hbytes hbase h
theorem QiO {p:List Int} (h:U8 p) (j:Nat):∃a:Nat,p.getD j 0=(a:Int)∧a<256:=by
 have:=h.at j;exact ⟨(p.getD j 0).toNat,by omega,by omega⟩
theorem Qe4 {α:Type} (f:Nat→α) (t:Nat):(List.range (t+1)).map f=(List.range t).map f++[f t]:=by
 rw [List.range_succ,List.map_append];rfl
theorem QbO {W W4:World} {row:Option Nat} (h:W.grownBy W4 row) {b o:Nat} {v:Value} (hb:row≠some b) (hc:W.cell? ⟨b,o,none⟩=some v):W4.cell? ⟨b,o,none⟩=some v:=by
 rw [←hc];exact World.cell?_of_block (h.block b (World.block_lt_of_cell? W _ hc) (fun e=>hb e.symm))
theorem Qad {w:World} {lo:Nat} {E:TypeId} {v:Value} {n:Nat} {xs:List Value} (h:w.ownsRow lo E 1 v n xs):∃ao cap,v=.slice ao n cap:=by
 rcases h.2 with ⟨rfl,rfl⟩ | ⟨g,cap,cur,rfl,_⟩
 ·exact ⟨none,0,rfl⟩
 ·exact ⟨_,cap,rfl⟩
theorem Qpe (p:Int) (t:ByteArray) (ht:t.size≤1000) (w:World) :
  Calls prog 94 #[.int .u8 p,.string t] w fun e w'=>∃v,e=.returned v∧w'.ownsRow w.heap.size 5 1 v (KTX p (sb t)).length (bl (KTX p (sb t)))∧Only (fun _=>False) w w':=by
 have hcv:=QcG t;have hge:=grownCap_ge (w.alloc (.cells #[.int .u8 p] 5)) t.size 0 5;obtain ⟨c,hc⟩:∃c,c=grownCap (w.alloc (.cells #[.int .u8 p] 5)) t.size 0 5:=⟨_,rfl⟩;rw [←hc] at hge;have o1:Only (fun _=>False) w (w.alloc (.cells #[.int .u8 p] 5)):=(Only.refl _ _).alloc _;have b0:Bs .u8 (w.alloc (.cells #[.int .u8 p] 5)) (.slice (some ⟨w.heap.size,0,none⟩) 1 1) [p]:=Bs.lit .u8 w 5 [p];have o2:Only (fun _=>False) (w.alloc (.cells #[.int .u8 p] 5)) ((w.alloc (.cells #[.int .u8 p] 5)).alloc (Qbs t c)).drew:=((Only.refl _ _).alloc _).drew;have A:=Qaa (QcW (.slice (some ⟨w.heap.size+1,0,none⟩) t.size c) (sb t) ((w.alloc (.cells #[.int .u8 p] 5)).alloc (Qbs t c)).drew (Qb6 (Qbk (Qas (by simp))) (by omega)) (NoCap.some _ _ _) (by rw [QaE];omega))
 have HL:Hid ((blk (sb t)).length≤2000):=by
  have:=QbL (sb t) (by rw [QaE];omega);rw [QaE] at this
  show _≤_
  omega
 have P0:=Qaa (And.intro (b0.past o2) (o1.same o2));have HX:Hid ([p]++blk (sb t)=KTX p (sb t)):=rfl;obtain ⟨X,hX⟩:∃X,X=blk (sb t):=⟨_,rfl⟩;rw [←hX] at A HL HX;clear o1 b0 o2 hge hX;go_enter func94,ntmps94;go_wp2_with fail;rw [←hc];refine A.out.mono ?_;rintro e w1 ⟨v1,rfl,own1,o1⟩;obtain ⟨a1,c1,rfl⟩:=Qad own1;have oa:Only (fun _=>False) w1 (w1.alloc (.cells #[.slice (some ⟨w.heap.size,0,none⟩) 1 1,.slice a1 X.length c1] 22)):=(Only.refl _ _).alloc _;have C:=Qaa (Qa1 w1.heap.size (.slice (some ⟨w.heap.size,0,none⟩) 1 1) (.slice a1 X.length c1) [p] X (w1.alloc (.cells #[.slice (some ⟨w.heap.size,0,none⟩) 1 1,.slice a1 X.length c1] 22)) (by go_cell) (by go_cell) (P0.out.1.past (o1.same oa)) ((Bs.of_own (k:=.u8) own1).past oa) (NoCap.some _ _ _) (NoCap.of_own own1) (by simp only [Yah];omega) (by have:=HL.out;simp only [Yah,List.length_nil];omega));rw [HX.out] at C;have O1:=Qaa (P0.out.2.same (o1.same oa));obtain ⟨m,hm⟩:∃m,m=X.length:=⟨_,rfl⟩;rw [←hm] at C O1 ⊢;clear own1 o1 oa A P0 hm hcv hc;go_wp2_with fail;refine C.out.mono ?_;rintro e w2 ⟨v2,rfl,own2,o2⟩;have F:=Qaa (And.intro (Qaf own2 O1.out.size) (O1.out.same o2));clear own2 o2 C O1;go_wp2;go_ret;exact ⟨_,rfl,F.out⟩
theorem Qmx (v i:Int) (hi:0≤i∧i≤9223372036854775807) (w:World) :
  Calls prog 132 #[.int .u64 v,.int .i64 i] w fun e w'=>∃u,e=.returned u∧w'.ownsRow w.heap.size 5 1 u 12 (bl (NTX v i))∧Only (fun _=>False) w w':=by
 have hw:IntKind.u64.wrap i=i:=by rw [IntKind.wrap_u64];omega
 have A:=Qaa (Qbx v 8 w (by decide));have B:=Qaa (fun W=>Qbx i 4 W (by decide));rw [show ((8:Nat):Int)=8 from rfl,Qag] at A;rw [show ((4:Nat):Int)=4 from rfl,Qag] at B;have HX:Hid (fixL v 8++fixL i 4=NTX v i∧(fixL v 8++fixL i 4).length=12∧(fixL v 8).length=8∧(fixL i 4).length=4):=⟨rfl,Qmz v i,Qag _ _,Qag _ _⟩;obtain ⟨X,hX⟩:∃X,X=fixL v 8:=⟨_,rfl⟩;obtain ⟨Y,hY⟩:∃Y,Y=fixL i 4:=⟨_,rfl⟩;rw [←hX] at A HX;rw [←hY] at B HX;clear hX hY hi;go_enter func132,ntmps132;go_wp2_with fail;refine A.out.mono ?_;rintro e w1 ⟨v1,rfl,own1,o1⟩;obtain ⟨a1,c1,rfl⟩:=Qad own1;have B1:=Qaa (B.out w1);have OW1:=Qaa own1;have O1:=Qaa o1;clear own1 o1 A B;go_wp2_with fail;refine B1.out.mono ?_;rintro e w2 ⟨v2,rfl,own2,o2⟩;obtain ⟨a2,c2,rfl⟩:=Qad own2;have oa:Only (fun _=>False) w2 (w2.alloc (.cells #[.slice a1 8 c1,.slice a2 4 c2] 22)):=(Only.refl _ _).alloc _;have C:=Qaa (Qa1 w2.heap.size (.slice a1 8 c1) (.slice a2 4 c2) X Y (w2.alloc (.cells #[.slice a1 8 c1,.slice a2 4 c2] 22)) (by go_cell) (by go_cell) ((Bs.of_own (k:=.u8) (E:=5) (lo:=w.heap.size) (by rw [HX.out.2.2.1];exact OW1.out)).past (o2.same oa)) ((Bs.of_own (k:=.u8) (E:=5) (lo:=w1.heap.size) (by rw [HX.out.2.2.2];exact own2)).past oa) (NoCap.of_own OW1.out) (NoCap.of_own own2) (by have:=HX.out.2.2.1;omega) (by have:=HX.out.2.2.1;have:=HX.out.2.2.2;omega));rw [HX.out.2.1,HX.out.1] at C;have O2:=Qaa (O1.out.same (o2.same oa));clear own2 o2 oa B1 OW1 O1;go_wp2_with fail;refine C.out.mono ?_;rintro e w3 ⟨v3,rfl,own3,o3⟩;have F:=Qaa (And.intro (Qaf own3 O2.out.size) (O2.out.same o3));clear own3 o3 C O2;go_wp2;go_ret;exact ⟨_,rfl,F.out⟩
end Go.Proofs.YtnhapmboienipaaGreatDoor
