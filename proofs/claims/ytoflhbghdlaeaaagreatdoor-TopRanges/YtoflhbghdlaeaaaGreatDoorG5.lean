import Derived.Test.YtoflhbghdlaeaaaGreatDoorG3
import Derived.Deep.WholeRow
import Derived.Great.BuildSlice
import Derived.Deep.RegionHeld3
import Derived.Deep.RegionLaw
namespace Go.Proofs.YtoflhbghdlaeaaaGreatDoor
set_option maxHeartbeats 1600000
set_option maxRecDepth 100000
open Go.RowKit _root_.Go.Proofs.Tryz
variable {w w' W:World} {v:Value} {ys xs l:LI} {R n p k g B:Nat} {P:Program} {ls:List (LI)} {E:TypeId}
def w32:Nat:=4294967296
def rotw (x n:Nat):Nat:=(x / 2^n) ||| (x*2^(32 - n) % 4294967296)
def shK:List Nat:=[0x428a2f98,0x71374491,0xb5c0fbcf,0xe9b5dba5,0x3956c25b,0x59f111f1,0x923f82a4,0xab1c5ed5,
 0xd807aa98,0x12835b01,0x243185be,0x550c7dc3,0x72be5d74,0x80deb1fe,0x9bdc06a7,0xc19bf174,
 0xe49b69c1,0xefbe4786,0x0fc19dc6,0x240ca1cc,0x2de92c6f,0x4a7484aa,0x5cb0a9dc,0x76f988da,
 0x983e5152,0xa831c66d,0xb00327c8,0xbf597fc7,0xc6e00bf3,0xd5a79147,0x06ca6351,0x14292967,
 0x27b70a85,0x2e1b2138,0x4d2c6dfc,0x53380d13,0x650a7354,0x766a0abb,0x81c2c92e,0x92722c85,
 0xa2bfe8a1,0xa81a664b,0xc24b8b70,0xc76c51a3,0xd192e819,0xd6990624,0xf40e3585,0x106aa070,
 0x19a4c116,0x1e376c08,0x2748774c,0x34b0bcb5,0x391c0cb3,0x4ed8aa4a,0x5b9cca4f,0x682e6ff3,
 0x748f82ee,0x78a5636f,0x84c87814,0x8cc70208,0x90befffa,0xa4506ceb,0xbef9a3f7,0xc67178f2]
def shH:List Nat:=[0x6a09e667,0xbb67ae85,0x3c6ef372,0xa54ff53a,0x510e527f,0x9b05688c,0x1f83d9ab,0x5be0cd19]
def sg0 (y:Nat):Nat:=rotw y 7 ^^^ rotw y 18 ^^^ (y / 8)
def sg1 (x:Nat):Nat:=rotw x 17 ^^^ rotw x 19 ^^^ (x / 1024)
def Vz (a:Nat):Nat:=rotw a 2 ^^^ rotw a 13 ^^^ rotw a 22
def KL (e:Nat):Nat:=rotw e 6 ^^^ rotw e 11 ^^^ rotw e 25
def chw (e f g:Nat):Nat:=(e &&& f) ^^^ ((4294967295 - e) &&& g)
def majw (a b c:Nat):Nat:=(a &&& b) ^^^ (a &&& c) ^^^ (b &&& c)
def wd4 (b:LI) (t:Nat):Nat:=(b.getD (4*t) 0).toNat*16777216+(b.getD (4*t+1) 0).toNat*65536+(b.getD (4*t+2) 0).toNat*256+(b.getD (4*t+3) 0).toNat
def nextw (w:List Nat):Nat:=(sg1 (w.getD (w.length - 2) 0)+w.getD (w.length - 7) 0+sg0 (w.getD (w.length - 15) 0)+w.getD (w.length - 16) 0) % 4294967296
def wext:Nat->List Nat->List Nat
 | 0,w=>w
 | n+1,w=>wext n (w++[nextw w])
def wds (b:LI):List Nat:=wext 48 ((List.range 16).map (wd4 b))
def rnd (s:List Nat) (k w:Nat):List Nat :=
 [(s.getD 7 0+KL (s.getD 4 0)+chw (s.getD 4 0) (s.getD 5 0) (s.getD 6 0)+k+w+Vz (s.getD 0 0)+majw (s.getD 0 0) (s.getD 1 0) (s.getD 2 0)) % 4294967296,
 s.getD 0 0,s.getD 1 0,s.getD 2 0,(s.getD 3 0+s.getD 7 0+KL (s.getD 4 0)+chw (s.getD 4 0) (s.getD 5 0) (s.getD 6 0)+k+w) % 4294967296,s.getD 4 0,s.getD 5 0,s.getD 6 0]
def rnds (s:List Nat) (w:List Nat) (t:Nat):List Nat:=(List.range t).foldl (λs i=>rnd s (shK.getD i 0) (w.getD i 0)) s
def thru (s:List Nat) (b:LI):List Nat:=(List.range 8).map λi=>(s.getD i 0+(rnds s (wds b) 64).getD i 0) % 4294967296
def zpad (n:Nat):Nat:=(119 - n % 64) % 64
def be8 (v:Nat):LI:=(List.range 8).map λi=>((v / 256^(7 - i) % 256:Nat):Int)
def be4 (v:Nat):LI:=(List.range 4).map λi=>((v / 256^(3 - i) % 256:Nat):Int)
def padS (b:LI):LI:=b++128 :: (List.replicate (zpad b.length) 0++be8 (8*b.length))
def thrus (s:List Nat) (p:LI) (k:Nat):List Nat:=(List.range k).foldl (λs i=>thru s ((p.drop (64*i)).take 64)) s
def QH (b:LI):LI:=(thrus shH (padS b) ((padS b).length / 64)).flatMap be4
theorem JJ (v:Nat):(be8 v).length=8:=by simp[be8]
theorem Vx (s:List Nat) (b:LI):(thru s b).length=8:=by simp[thru]
theorem LR (s:List Nat) (w:List Nat) (t:Nat):rnds s w (t+1)=rnd (rnds s w t) (shK.getD t 0) (w.getD t 0):=by
 unfold rnds;rw[List.range_succ,List.foldl_append];rfl
theorem Z5 (s:List Nat) (p:LI) (k:Nat):thrus s p (k+1)=thru (thrus s p k) ((p.drop (64*k)).take 64):=by
 unfold thrus;rw[List.range_succ,List.foldl_append];rfl
theorem RA (s:List Nat) (p:LI):thrus s p 0=s:=rfl
theorem AE (s:List Nat) (b:LI):∀x∈thru s b,x<4294967296:=by
 intro x hx;simp only[thru,List.mem_map] at hx;obtain⟨i,_,rfl⟩:=hx;exact Nat.mod_lt _ (by decide)
theorem Bh (p:LI) (k:Nat):(thrus shH p k).length=8:=by
 cases k with
 | zero=>rfl
 | succ k=>rw[Z5];exact Vx _ _
theorem wN (v:Nat):(be4 v).length=4:=by simp[be4]
theorem Ba (l:List Nat):(l.flatMap be4).length=4*l.length:=by
 induction l with
 | nil=>rfl
 | cons a t ih=>rw[List.flatMap_cons,Qc,wN,ih,Qi];omega
theorem YN (b:LI):(QH b).length=32:=by unfold QH;rw[Ba,Bh]
theorem kC (v:Nat):∀y∈be4 v,0<=y∧y<=255:=by
 intro y hy;simp only[be4,List.mem_map] at hy;obtain⟨i,_,rfl⟩:=hy;have:v / 256^(3 - i) % 256<256:=Nat.mod_lt _ (by decide);omega
theorem Zv (b:LI):∀y∈QH b,0<=y∧y<=255:=by
 intro y hy;simp only[QH,List.mem_flatMap] at hy;obtain⟨v,_,h⟩:=hy;exact kC v y h
def U8 (b:LI):Prop:=∀y∈b,0<=y∧y<=255
theorem U8.at {b:LI} (h:U8 b) (j:Nat):0<=b.getD j 0∧b.getD j 0<=255:=by
 rw[Qd]
 by_cases hj:j<b.length
 ·rw[Qg hj];exact h _ (List.getElem_mem hj)
 ·rw[List.getElem?_eq_none (by omega)];decide
theorem U8.app {a b:LI} (h:U8 a) (k:U8 b):U8 (a++b):=λy hy=>by
 rcases List.mem_append.1 hy with h1 | h1
 ·exact h y h1
 ·exact k y h1
theorem U8.take {a:LI} (h:U8 a) (n:Nat):U8 (a.take n):=λy hy=>h y (List.mem_of_mem_take hy)
theorem U8.drop {a:LI} (h:U8 a) (n:Nat):U8 (a.drop n):=λy hy=>h y (List.mem_of_mem_drop hy)
def W32 (s:List Nat):Prop:=∀x∈s,x<4294967296
theorem W32.at {s:List Nat} (h:W32 s) (j:Nat):s.getD j 0<4294967296:=by
 rw[Qd]
 by_cases hj:j<s.length
 ·rw[Qg hj];exact h _ (List.getElem_mem hj)
 ·rw[List.getElem?_eq_none (by omega)];decide
theorem W32.app {a b:List Nat} (h:W32 a) (k:W32 b):W32 (a++b):=λy hy=>by
 rcases List.mem_append.1 hy with h1 | h1
 ·exact h y h1
 ·exact k y h1
theorem W32.one {x:Nat} (h:x<4294967296):W32 [x]:=λy hy=>by simp at hy;subst hy;exact h
def accw (b:LI) (k:Nat):Nat->Nat
 | 0=>0
 | m+1=>accw b k m*256+(b.getD (4*k+m) 0).toNat
theorem LA (b:LI) (h:U8 b) (k:Nat):∀m,accw b k m<256^m:=by
 intro m
 induction m with
 | zero=>exact Nat.zero_lt_one
 | succ m ih =>
  have:=h.at (4*k+m);have e:256^(m+1)=256^m*256:=Nat.pow_succ ..
  show accw b k m*256+(b.getD (4*k+m) 0).toNat < _
  rw[e];omega
theorem Ty (b:LI) (k:Nat):accw b k 4=wd4 b k:=by
 simp only[accw,wd4,Nat.add_zero];omega
def wpart (b:LI) (i:Nat):List Nat:=(List.range 64).map λk=>accw b k (min 4 (i - 4*k))
theorem wu (b:LI) (i:Nat):(wpart b i).length=64:=by simp[wpart]
theorem Mn (b:LI) (i k:Nat) (hk:k<64):(wpart b i).getD k 0=accw b k (min 4 (i - 4*k)):=by
 simp[wpart,List.getD_eq_getElem?_getD,hk]
theorem wL (b:LI):wpart b 0=List.replicate 64 0:=by
 apply List.ext_getElem
 ·simp[wpart]
 ·intro i h1 h2
  simp only[wpart,List.getElem_map,List.getElem_range,List.getElem_replicate];rw[show min 4 (0 - 4*i)=0 by omega];rfl
theorem Sz (b:LI) (i:Nat) (_hi:i<64):(wpart b i).getD (i / 4) 0=accw b (i / 4) (i % 4):=by
 rw[Mn b i _ (by omega),show min 4 (i - 4*(i / 4))=i % 4 by omega]
theorem yl (b:LI) (i:Nat) (_hi:i<64):wpart b (i+1)=(wpart b i).set (i / 4) (accw b (i / 4) (i % 4)*256+(b.getD i 0).toNat):=by
 apply List.ext_getElem
 ·simp[wpart]
 ·intro k h1 h2
  have hk:k<64:=by simpa [wpart] using h1
  rw[List.getElem_set]
  by_cases e:i / 4=k
  ·rw[if_pos e]
   simp only[wpart,List.getElem_map,List.getElem_range];subst e;rw[show min 4 (i+1 - 4*(i / 4))=i % 4+1 by omega]
   show accw b (i / 4) (i % 4)*256+(b.getD (4*(i / 4)+i % 4) 0).toNat=_
   rw[show 4*(i / 4)+i % 4=i by omega]
  ·rw[if_neg e]
   simp only[wpart,List.getElem_map,List.getElem_range];rw[show min 4 (i+1 - 4*k)=min 4 (i - 4*k) by omega]
theorem vi (b:LI):wpart b 64=(List.range 16).map (wd4 b)++List.replicate 48 0:=by
 apply List.ext_getElem
 ·simp[wpart]
 ·intro k h1 h2
  have hk:k<64:=by simpa [wpart] using h1
  by_cases h:k<16
  ·rw[List.getElem_append_left (by simpa using h)]
   simp only[wpart,List.getElem_map,List.getElem_range];rw[show min 4 (64 - 4*k)=4 by omega,Ty]
  ·rw[List.getElem_append_right (by simp;omega)]
   simp only[wpart,List.getElem_map,List.getElem_range,List.getElem_replicate];rw[show min 4 (64 - 4*k)=0 by omega];rfl
theorem uK (b:LI) (h:U8 b) (k:Nat):wd4 b k<4294967296:=by rw[<-Ty];exact LA b h k 4
theorem G9:∀(n:Nat) (w:List Nat),wext (n+1) w=wext n w++[nextw (wext n w)]:=by
 intro n
 induction n with
 | zero=>intro w;rfl
 | succ n ih=>intro w;rw[show wext (n+1+1) w=wext (n+1) (w++[nextw w]) from rfl,ih];rfl
theorem AV (n:Nat) (w:List Nat):(wext n w).length=w.length+n:=by
 induction n with
 | zero=>rfl
 | succ n ih=>rw[G9,Qc,ih];rfl
theorem Bo (w:List Nat):nextw w<4294967296:=Nat.mod_lt _ (by decide)
def wv (b:LI) (t:Nat):List Nat:=wext (t - 16) ((List.range 16).map (wd4 b))
theorem Rf (b:LI) (t:Nat) (h:16<=t):(wv b t).length=t:=by simp[wv,AV];omega
theorem LW (b:LI) (t:Nat) (h:16<=t):wv b (t+1)=wv b t++[nextw (wv b t)]:=by
 unfold wv;rw[show t+1 - 16=(t - 16)+1 by omega,G9]
theorem yM (b:LI):wv b 64=wds b:=rfl
theorem Vi (b:LI):(wds b).length=64:=Rf b 64 (by decide)
theorem Rl (b:LI) (h:U8 b) (n:Nat):W32 (wv b (16+n)):=by
 induction n with
 | zero =>
  intro x hx;simp[wv,wext] at hx;obtain⟨k,_,rfl⟩:=hx;exact uK b h k
 | succ n ih =>
  rw[<-Nat.add_assoc,LW b _ (by omega)];exact ih.app (W32.one (Bo _))
theorem FV (b:LI) (h:U8 b):W32 (wds b):=Rl b h 48
theorem Bl (V:List Nat) (t x:Nat) (hV:V.length=t) (ht:t<64):(V++List.replicate (64 - t) 0).set t x=(V++[x])++List.replicate (64 - (t+1)) 0:=by
 subst hV;rw[List.set_append_right _ _ (Nat.le_refl _),Nat.sub_self,show 64 - V.length=(64 - (V.length+1))+1 by omega,List.replicate_succ,Qj];simp
theorem OJ (V z:List Nat) (k:Nat) (h:k<V.length):(V++z).getD k 0=V.getD k 0:=by
 rw[Qd,Qd,List.getElem?_append_left h]
theorem qB (V:List Nat) (t:Nat) (hV:V.length=t):nextw V=(sg1 (V.getD (t - 2) 0)+V.getD (t - 7) 0+sg0 (V.getD (t - 15) 0)+V.getD (t - 16) 0) % 4294967296:=by
 subst hV;rfl
theorem OY (x b:Nat) (hb:b<256):(x*256) ||| b=x*256+b:=by
 have:=Nat.two_pow_add_eq_or_of_lt (i:=8) (b:=b) (by simpa using hb) x;rw[Nat.mul_comm x 256];exact this.symm
theorem UW {x y:Nat} (hx:x<4294967296) (hy:y<4294967296):x ^^^ y<4294967296:=Nat.xor_lt_two_pow (n:=32) hx hy
theorem XG (x n:Nat) (hx:x<4294967296):x / 2^n<4294967296:=Nat.lt_of_le_of_lt (Nat.div_le_self _ _) hx
def keyS (key:LI):LI:=if 64<key.length then QH key else key
def pad64 (key:LI):LI:=keyS key++List.replicate (64 - (keyS key).length) 0
def xorB (x:Nat) (l:LI):LI:=l.map λy=>((y.toNat ^^^ x:Nat):Int)
def MACL (key b:LI):LI:=QH (xorB 92 (pad64 key)++QH (xorB 54 (pad64 key)++b))
theorem Y3 (key b:LI):(MACL key b).length=32:=YN _
theorem VW (key b:LI):U8 (MACL key b):=Zv _
theorem IX (key:LI):(keyS key).length<=64:=by
 unfold keyS
 by_cases h:64<key.length
 ·rw[if_pos h,YN];decide
 ·rw[if_neg h];omega
theorem Dy {key:LI} (h:U8 key):U8 (keyS key):=by
 unfold keyS
 by_cases hk:64<key.length
 ·rw[if_pos hk];exact Zv _
 ·rw[if_neg hk];exact h
theorem JE (key:LI):(pad64 key).length=64:=by
 have:=IX key;unfold pad64;rw[Qc,List.length_replicate];omega
theorem Eg (n:Nat):U8 (List.replicate n 0):=λy hy=>by
 rw[List.mem_replicate] at hy;obtain⟨_,rfl⟩:=hy;decide
theorem yC {key:LI} (h:U8 key):U8 (pad64 key):=(Dy h).app (Eg _)
theorem WM (x:Nat) (l:LI):(xorB x l).length=l.length:=List.length_map ..
theorem Ai (x:Nat) (hx:x<256) {l:LI} (h:U8 l):U8 (xorB x l):=λy hy=>by
 obtain⟨z,hz,rfl⟩:=List.mem_map.1 hy;have h1:=h z hz;have:z.toNat ^^^ x<256:=Nat.xor_lt_two_pow (n:=8) (by omega) hx;omega
def tpc (key info:LI):Nat->LI
 | 0=>[]
 | i+1=>MACL key (tpc key info i++info++[(((i+1) % 256:Nat):Int)])
def tcat (key info:LI):Nat->LI
 | 0=>[]
 | i+1=>tcat key info i++tpc key info (i+1)
theorem VH (key info:LI) (i:Nat):(tpc key info (i+1)).length=32:=Y3 _ _
theorem Vw (key info:LI) (i:Nat):(tcat key info i).length=32*i:=by
 induction i with
 | zero=>rfl
 | succ i ih=>rw[tcat,Qc,ih,VH];omega
theorem qT (key info:LI) (i d:Nat):(tcat key info (i+d)).take (32*i)=tcat key info i:=by
 induction d with
 | zero=>exact List.take_of_length_le (Nat.le_of_eq (Vw _ _ _))
 | succ d ih =>
  rw[<-Nat.add_assoc,tcat,List.take_append_of_le_length (by rw[Vw];omega),ih]
def EXPL (key info:LI) (n:Nat):LI:=(tcat key info ((n+31) / 32)).take n
theorem Sl (key info:LI) (n:Nat):(EXPL key info n).length=n:=by
 unfold EXPL;rw[Qf,Vw];omega
theorem OZ (key info:LI) (i:Nat):U8 (tcat key info i):=by
 induction i with
 | zero=>intro y hy;cases hy
 | succ i ih=>exact ih.app (VW _ _)
theorem wz (key info:LI) (n:Nat):U8 (EXPL key info n):=(OZ _ _ _).take _
def fixB (v:Int) (i:Nat):Int:=v / 2^(8*i) % 256
def fixAt (v:Int) (n k:Nat):LI:=(List.range n).map λj=>if n<=j+k then fixB v (n - 1 - j) else 0
def fixL (v:Int) (n:Nat):LI:=(List.range n).map λj=>fixB v (n - 1 - j)
theorem Vs (v:Int) (n k:Nat):(fixAt v n k).length=n:=by simp[fixAt]
theorem QD (v:Int) (n:Nat):(fixL v n).length=n:=by simp[fixL]
theorem MY (v:Int) (n:Nat):(fixAt v n 0).map (Value.int .u8)=(madeCells #[Value.int .u8 0] (n*1)).toList:=by
 apply List.ext_getElem?
 intro i
 by_cases h:i<n
 ·simp[fixAt,madeCells,h,Nat.mod_one]
  omega
 ·simp[fixAt,madeCells,h]
theorem OF (v:Int) (n:Nat):fixAt v n n=fixL v n:=by
 unfold fixAt fixL
 apply List.map_congr_left
 intro j _;rw[if_pos (by omega)]
theorem My (v:Int) (n k:Nat) (h:k<n):(fixAt v n k).set (n - 1 - k) (fixB v k)=fixAt v n (k+1):=by
 apply List.ext_getElem?
 intro i;rw[List.getElem?_set,Vs]
 by_cases hi:i<n
 ·by_cases he:n - 1 - k=i
  ·subst he
   rw[if_pos rfl,if_pos hi];simp only[fixAt,List.getElem?_map,List.getElem?_range hi,Option.map_some];rw[if_pos (by omega),show n - 1 - (n - 1 - k)=k by omega]
  ·rw[if_neg he]
   simp only[fixAt,List.getElem?_map,List.getElem?_range hi,Option.map_some]
   by_cases h1:n<=i+k
   ·rw[if_pos h1,if_pos (by omega)]
   ·rw[if_neg h1,if_neg (by omega)]
 ·rw[if_neg (by omega),List.getElem?_eq_none (by rw[Vs];omega),List.getElem?_eq_none (by rw[Vs];omega)]
theorem JR (v:Int) (i:Nat):0<=fixB v i∧fixB v i<=255:=by unfold fixB;omega
theorem Ur (v:Int) (n:Nat):∀y∈fixL v n,0<=y∧y<=255:=by
 intro y hy;simp only[fixL,List.mem_map] at hy;obtain⟨j,_,rfl⟩:=hy;exact JR _ _
theorem Ux (v:Int) (n:Nat) (w:World) (h:n<=8) :
 Calls prog 84 #[.int .u64 v,.int .i64 n] w λe w'=>∃u,e=.returned u∧w'.ownsRow w.heap.size 5 1 u (fixL v n).length ((fixL v n).map (Value.int .u8))∧N0 w w':=by
 obtain⟨i0,hi,hz0,hz1,hz2⟩:=info_parts Tryz.infoU8;obtain⟨wm,h7,h3,h6⟩:=run_make_full (P:=prog) w w.heap.size 23 5 i0 (.int .u8 0) 1 underlying23 hi hz0 hz1 .i64 .i64 n (by rw[hz2];omega) (by unfold maxLen;omega) (Nat.le_refl _)
 have h0:Hid (wm.ownsRow w.heap.size 5 1 (.slice (some ⟨w.heap.size,0,none⟩) n n) n ((fixAt v n 0).map (Value.int .u8))∧N0 w wm):=by
  rw[show (Value.int .u8 0).cells=#[Value.int .u8 0] from rfl] at h3;rw[MY];exact⟨h3,(Only.refl _ _).grown h6 (λ_ _ e=>by cases e)⟩
 clear h3 h6
 have d0:decide ((n:Int)<0)=false:=by simp
 have d8:decide (8<(n:Int))=false:=Qb (by omega);obtain⟨N,hN⟩:=EX w.heap.size;rw[<-hN] at h7 h0;rw[<-hN];have HN:=Qa hN;clear hN;go_enter func84,ntmps84;go_wp2
 go_loopw [17] (λi wr=>∃k:Nat,k<=n∧i=.int .i64 k∧wr.ownsRow N 5 1 (.slice (some ⟨N,0,none⟩) n n) n ((fixAt v n k).map (Value.int .u8))∧N0 w wr) (λi _=>n - (intOf i).toNat)
 case atStart=>exact⟨0,Nat.zero_le _,rfl,h0.o.1,h0.o.2⟩
 case round =>
  obtain⟨k,hk,rfl,h2,h5⟩:=hrel;clear h0 h7
  by_cases hlt:k<n
  ·have h4:∃y,wr.cell? ⟨N,n - 1 - k,none⟩=some (.int .u8 y):=by
    refine⟨(fixAt v n k).getD (n - 1 - k) 0,?_⟩;rw[h2.cellAt (n - 1 - k) (by omega),List.getElem?_map,Qg (by rw[Vs];omega),Qd,Qg (by rw[Vs];omega)]
    rfl
   obtain⟨y,hy⟩:=h4;have hfr:wr.frozen? ⟨N,n - 1 - k,none⟩=false:=h2.frozenAt _
   have i0:(0:Int)<=(n:Int) - 1 - k:=by omega
   have i1:(n:Int) - 1 - k<(n:Int):=by omega
   have it:((n:Int) - 1 - k).toNat=n - 1 - k:=by omega
   have H:=Qa (And.intro h2 h5);clear h2 h5;go_wp2
   go_roundw
   case rel =>
    refine⟨k+1,by omega,by go_num,?_,?_⟩
    ·have h1:=(H.o.1.stored (n - 1 - k) (.int .u8 (fixB v k))).1
     rw[<-List.map_set,My v n k hlt] at h1;exact h1
    ·refine H.o.2.setCell (λhb=>?_) _
     have:=HN.o;simp only at hb;omega
   case measure=>simp[intOf];omega
  ·have hkn:k=n:=by omega
   subst hkn;have H:=Qa (And.intro h2 h5);clear h2 h5;go_wp2;go_ret;rw[QD,<-OF];exact⟨_,rfl,H.o⟩
def blk (b:LI):LI:=gs b.length++b
theorem Ut (b:LI) (h:b.length<=1000000):(blk b).length<=b.length+10:=by
 have:=Q6 (v:=b.length) (by omega);simp only[blk,Qc];omega
theorem Wh (b:LI) (hr:∀y∈b,0<=y∧y<=255):∀y∈blk b,0<=y∧y<=255:=by
 intro y hy;simp only[blk,List.mem_append] at hy
 rcases hy with hy | hy
 ·exact YW _ y hy
 ·exact hr y hy
theorem Wb (vb:Value) (ys:LI) (w:World) (hb:Bs .u8 w vb ys) (nb:NoCap vb) (hl:ys.length<=1000000) :
 Calls prog 21 #[vb] w λe w'=>∃v',e=.returned v'∧w'.ownsRow w.heap.size 5 1 v' (blk ys).length ((blk ys).map (Value.int .u8))∧N0 w w':=by
 have HB:=Qa hb;have NB:=Qa nb;have A:=Qa (Um (.slice none 0 0) [] ys.length w (Bs.nil _ _) NoCap.nil (by simp) (by omega) (by omega));rw[List.nil_append,Int.toNat_natCast] at A;have H10:=Qa (Q6 (v:=ys.length) (by omega));have HP:=Qa (Vb ys.length);obtain⟨ab,cb,rfl⟩:=hb.len;clear hb nb;go_enter func21,ntmps21;go_wp2_with fail;refine A.o.mono ?_;rintro e w1 ⟨v1,rfl,h0,h1⟩;have h3:Below w1.heap.size w1 (w1.alloc (.cells #[v1,.slice ab ys.length cb] 23)):=(Below.refl _ _).alloc (Nat.le_refl _) _;have CC:=Qa (WJ w1.heap.size v1 (.slice ab ys.length cb) (gs ys.length) ys (w1.alloc (.cells #[v1,.slice ab ys.length cb] 23)) (by go_cell) (by go_cell) ((Bs.of_own h0).later h3) ((HB.o.later (h1.low (Nat.le_refl _))).later h3) (NoCap.of_own h0) NB.o (by have:=HP.o;omega) (by have:=H10.o;omega));have O1:=Qa h1;have F1:Hid (∃ao c,v1=.slice ao (gs ys.length).length c):=(Bs.of_own h0).len;clear h0 h1 h3 A;obtain⟨ao1,c1,hv1⟩:=F1.o;subst hv1;go_wp2_with fail;refine CC.o.mono ?_;rintro e w2 ⟨v',rfl,h2,h4⟩
 have F:Hid (w2.ownsRow w.heap.size 5 1 v' (blk ys).length ((blk ys).map (Value.int .u8))∧N0 w w2) :=
  ⟨Qu h2 (by have:=O1.o.size;simp;omega),(O1.o.alloc _).trans h4 (λ_ _ f=>f)⟩
 clear h2 h4 CC O1;go_wp2;go_ret;exact⟨_,rfl,F.o⟩
theorem Lh {b:LI} (h:b.length<=127):blk b=(b.length:Int) :: b:=by
 unfold blk;rw[UE (by omega)]
 rfl
def sb (s:ByteArray):LI:=s.data.toList.map λc=>(c.toNat:Int)
theorem QX (s:ByteArray):(sb s).length=s.size:=by simp[sb]
theorem Gg (s:ByteArray):∀y∈sb s,0<=y∧y<=255:=by
 intro y hy;simp only[sb,List.mem_map] at hy;obtain⟨c,_,rfl⟩:=hy;have:=c.toNat_lt;omega
theorem of_sb (s:ByteArray):strOfNums (sb s)=s:=by
 unfold strOfNums sb;rw[List.map_map]
 have:s.data.toList.map ((λn:Int=>UInt8.ofNat n.toNat) ∘ λc:UInt8=>(c.toNat:Int))=s.data.toList:=by
  refine (List.map_congr_left (g:=id) (λx _=>?_)).trans (List.map_id _);simp
 rw[this]
theorem sb_of (h:∀y∈l,0<=y∧y<=255):sb (strOfNums l)=l:=by
 unfold strOfNums sb;rw[List.map_map];refine (List.map_congr_left (g:=id) (λx hx=>?_)).trans (List.map_id _);have:=h x hx;simp only[Function.comp,id];rw[UInt8.toNat_ofNat'];omega
theorem On {s t:ByteArray} (h:sb s=sb t):s=t:=by rw[<-of_sb s,<-of_sb t,h]
def YY (p:Int) (nm:LI):LI:=p :: blk nm
def Yc (key:LI) (p:Int) (nm:LI):LI:=EXPL key (YY p nm) 32
def UO (v i:Int):LI:=fixL v 8++fixL i 4
def YM (key:LI) (v i:Int):LI:=(MACL (Yc key 3 []) (UO v i)).take 12
def QT (key:LI) (p:Int) (nm:LI):LI:=if key.length=32 then (if nm.length<=64 then Yc key p nm else []) else []
def QL (key nm:LI):Int:=if key.length=32 then (if nm.length<=64 then 0 else 4) else 1
abbrev Un (i:Int):Prop:=0<=i∧i<1048576
def US (key:LI) (v i:Int):LI:=if key.length=32 then (if Un i then YM key v i else []) else []
def Uv (key:LI) (i:Int):Int:=if key.length=32 then (if Un i then 0 else 1) else 1
theorem uT (p:Int) (nm:LI) (h:nm.length<=127):YY p nm=p :: (nm.length:Int) :: nm:=by rw[YY,Lh h]
theorem N7 (p:Int) (nm:LI) (h:nm.length<=127):(YY p nm).length=nm.length+2:=by rw[uT p nm h];simp
theorem yv {p:Int} {nm:LI} (hp:0<=p∧p<=255) (h:U8 nm):U8 (YY p nm):=λy hy=>by
 rcases List.mem_cons.1 hy with rfl | hy
 ·exact hp
 ·exact Wh nm h y hy
theorem Wf (key:LI) (p:Int) (nm:LI):(Yc key p nm).length=32:=Sl _ _ _
theorem ZQ (key:LI) (p:Int) (nm:LI):U8 (Yc key p nm):=wz _ _ _
theorem PF (v i:Int):(UO v i).length=12:=by simp[UO,QD]
theorem wX (v i:Int):U8 (UO v i):=by
 intro y hy
 rcases List.mem_append.1 hy with h | h
 ·exact Ur _ _ y h
 ·exact Ur _ _ y h
theorem Zz (key:LI) (v i:Int):(YM key v i).length=12:=by rw[YM,Qf,Y3];rfl
theorem EJ (key:LI) (v i:Int):U8 (YM key v i):=(VW _ _).take _
theorem Gv (w:World) (v:Value) (xs:LI) (h:Bs .u8 w v xs):(convert 23 9 v).run prog w=.ok (.string (strOfNums xs)) w:=by
 obtain⟨ao,cap,rfl,hl,hc⟩:=h
 cases ao with
 | none =>
  have hx:xs=[]:=by
   by_cases hx:xs=[]
   ·exact hx
   ·obtain⟨b,off,e,_⟩:=hc hx;cases e
  subst hx;rw[run_convert_bytes_nil w 23 5 underlying23 underlying5 _ _ _ underlying9]
  rfl
 | some a =>
  by_cases hx:xs=[]
  ·subst hx
   obtain⟨b,off,h1⟩:=a;rw[run_convert_bytes_string w 23 9 5 _ _ _ underlying23 underlying5 underlying9];have hl0:=run_loadCells_list (P:=prog) w ⟨b,off,h1⟩ [] (λj u hj=>by simp at hj);rw[List.length_nil] at *;rw[run_bytesToString w _ 0 cap [] (by simpa using hl0)]
   rfl
  ·obtain⟨b,off,e,h0⟩:=hc hx
   cases e
   exact run_convert_bytes_arg w 23 5 underlying23 underlying5 b off xs.length cap xs rfl h0 _ underlying9
def UY (t:ByteArray) (c:Nat):Obj:=.cells (bytesRow t c) 5 ((bytesRow t c).size,(bytesRow t c).size+1)
theorem ZK (t:ByteArray) (W:World):(convert 9 23 (.string t)).run prog W=.ok (.slice (some ⟨W.heap.size,0,none⟩) t.size (grownCap W t.size 0 5)) (W.drew.alloc (UY t (grownCap W t.size 0 5))) :=
 run_bytes_of_string (P:=prog) W 9 23 5 t underlying9 underlying23 underlying5
theorem Zx {t:ByteArray} {b c:Nat} (h:W.heap[b]? = some (UY t c)) (hc:t.size<=c):Bs .u8 W (.slice (some ⟨b,0,none⟩) t.size c) (sb t):=by
 refine⟨some _,_,by rw[QX],by rw[QX];omega,λ_=>⟨b,0,rfl,λj hj=>?_⟩⟩;rw[QX] at hj
 have e:W.cell? ⟨b,0+j,none⟩=(bytesRow t c)[j]?:=by rw[Nat.zero_add];unfold World.cell?;simp only;rw[h];rfl
 rw[e];simp[bytesRow,Array.getElem?_append,hj,sb,List.getD_eq_getElem?_getD]
theorem Yr {x o:Obj} (h:W.heap[k]? = some x):(W.alloc o).heap[k]? = some x:=by
 have hk:k<W.heap.size:=by
  rcases Nat.lt_or_ge k W.heap.size with h' | h'
  ·exact h'
  ·rw[Array.getElem?_eq_none h'] at h;cases h
 show (W.heap.push o)[k]? = _
 rw[Array.getElem?_push,if_neg (by omega)];exact h
theorem YV {o:Obj} (h:W.heap.size=k):(W.alloc o).heap[k]? = some o:=by subst h;exact heap_alloc_new W o
theorem VK {x:Obj} (h:W.heap[k]? = some x):W.drew.heap[k]? = some x:=h
def wl (s:List Nat):List Value:=s.map λx=>Value.int .u32 ((x:Nat):Int)
def bl (p:LI):List Value:=p.map (Value.int .u8)
theorem QQ (s:List Nat):(wl s).length=s.length:=List.length_map ..
theorem Qs (s:LI):(bl s).length=s.length:=List.length_map ..
theorem wl_at (s:List Nat) (j:Nat) (h:j<s.length):(wl s)[j]? = some (.int .u32 ((s.getD j 0:Nat):Int)):=by
 simp[wl,List.getD_eq_getElem?_getD,List.getElem?_eq_getElem h]
theorem bl_at (s:LI) (j:Nat) (h:j<s.length):(bl s)[j]? = some (.int .u8 (s.getD j 0)):=by
 simp[bl,List.getD_eq_getElem?_getD,List.getElem?_eq_getElem h]
theorem Pq (s:List Nat):∀v∈wl s,v.oneCell'=true:=by
 intro u hu;simp[wl] at hu;obtain⟨x,_,rfl⟩:=hu;rfl
theorem Us (s:LI):∀v∈bl s,v.oneCell'=true:=K9 _ _
theorem UB (s:List Nat):(wl s).toArray.all (·.oneCell')=true:=all_oneCell_toArray (Pq s)
theorem UP (s:List Nat) (i x:Nat):(wl s).set i (.int .u32 ((x:Nat):Int))=wl (s.set i x):=by
 simp[wl,List.map_set]
def Blk (w:World) (g:Nat) (t:TypeId) (cs:List Value):Prop:=w.heap[g]? = some (.cells cs.toArray t (0,0))
theorem Blk.keep {t:TypeId} {cs:List Value} (h:Blk w g t cs) {S:Nat->Prop} (o:Only S w w') (hs:¬S g):Blk w' g t cs:=Only.heap o h hs
theorem Blk.past {t:TypeId} {cs:List Value} (h:Blk w g t cs) (o:N0 w w'):Blk w' g t cs:=h.keep o (λf=>f)
theorem Blk.lt {t:TypeId} {cs:List Value} (h:Blk w g t cs):g<w.heap.size:=(Array.getElem?_eq_some_iff.1 h).1
theorem Blk.cell {t:TypeId} {cs:List Value} (h:Blk w g t cs) (j:Nat):w.cell? ⟨g,j,none⟩=cs[j]?:=by
 rw[cell_of_row w g j _ t _ h];simp
theorem Blk.froz {t:TypeId} {cs:List Value} (h:Blk w g t cs) (j:Nat):w.frozen? ⟨g,j,none⟩=false:=frozen_of_row w g j _ t h
theorem Blk.set {t:TypeId} {cs:List Value} (h:Blk w g t cs) (j:Nat) (v:Value):Blk (w.setCell ⟨g,j,none⟩ v) g t (cs.set j v):=by
 have:=heap_setCell_same w g j _ t v h
 simpa [Blk] using this
theorem Blk.drew {t:TypeId} {cs:List Value} (h:Blk w g t cs):Blk w.drew g t cs:=h
theorem Blk.alloc {t:TypeId} {cs:List Value} (h:Blk w g t cs) (o:Obj):Blk (w.alloc o) g t cs:=h.past ((Only.refl _ _).alloc o)
theorem Blk.new (w:World) (t:TypeId) (cs:List Value):Blk (w.alloc (.cells cs.toArray t)) w.heap.size t cs:=heap_alloc_last w _
theorem Blk.row {t:TypeId} {cs:List Value} (h:Blk w g t cs) (vs:List Value):Blk (w.setRow g vs.toArray) g t vs:=setRow_heap w g _ _ t _ h
theorem Only.setRow {S:Nat->Prop} {a b:World} (h:Only S a b) {g:Nat} (hp:g<a.heap.size->S g) (cs:Array Value):Only S a (b.setRow g cs) :=
 h.trans (T:=λk=>k=g) ⟨rfl,rfl,rfl,by simp,λk _ hk=>setRow_other b g k cs hk⟩ (λ_ hi e=>by subst e;exact hp hi)
theorem Blk.there {t:TypeId} {cs:List Value} (h:Blk w g t cs) (o n:Nat) (hn:o+n<=cs.length):w.there g o n:=λj hj=>by
 rw[h.cell,h.froz,Qg (by omega)];exact⟨rfl,rfl⟩
theorem Blk.range {t:TypeId} {a b c:List Value} (h:Blk w g t (a++b++c)):w.rangeAt g a.length b:=λj v hv=>by
 have hj:=(List.getElem?_eq_some_iff.1 hv).1;rw[h.cell,List.getElem?_append_left (by simp;omega),List.getElem?_append_right (by omega),Nat.add_sub_cancel_left];exact hv
theorem Blk.rangeN {t:TypeId} {a b c:List Value} (h:Blk w g t (a++b++c)) {n:Nat} (hn:a.length=n):w.rangeAt g n b:=by
 subst hn;exact h.range
theorem Gf (a b c vs:List Value) (hv:vs.length=b.length):∀(w:World) (g:Nat) (t:TypeId),Blk w g t (a++b++c)->Blk (w.setCells g a.length vs) g t (a++vs++c):=by
 induction vs generalizing a b with
 | nil =>
  intro w g t h
  cases b with
  | nil=>exact h
  | cons y b=>simp at hv
 | cons v vs ih =>
  intro w g t h
  cases b with
  | nil=>simp at hv
  | cons y b =>
   have h2:Blk (w.setCell ⟨g,a.length,none⟩ v) g t ((a++[v])++b++c):=by
    have:=h.set a.length v
    simpa [List.set_append] using this
   have:=ih (a++[v]) b (by simpa using hv) _ g t h2
   simpa [World.setCells] using this
theorem Only.setCells {S:Nat->Prop} {a:World} (hp:g<a.heap.size->S g) (vs:List Value):∀(o:Nat) (b:World),Only S a b->Only S a (b.setCells g o vs):=by
 induction vs with
 | nil=>intro o b h;exact h
 | cons v vs ih =>
  intro o b h;exact ih (o+1) _ (h.setCell (p:=⟨g,o,none⟩) hp v)
theorem Kh {ops:Array Oper} {rest:List Oper} {o:Oper} {a:Act} {Q:Exit->Act->World->Prop} (hg:o.guard=none) (t:TypeId) (parts:Array (Nat × Operand)) (ho:o.op=.build t parts)
 (cells:Array Value) (hc:P.built t (parts.map λ(i,x)=>(i,a.eval x)).toList=some cells) (h:wpList P ops Q rest (a.put o.dst (.agg cells)) w):wpList P ops Q (o :: rest) a w :=
 wpList_build hg t parts ho (by rw[hc];rfl) (by rw[hc];exact h)
theorem WN (t e:TypeId) (n:Nat) (cs:List Value) (j:Nat) (u:Value) (h:prog.underlying t=some (.array n e)) (ha:(∀w,(isAgg e).run prog w=.ok false w)) (hs:(prog.info? e).map (·.size)=some 1) (hj:j<n) (hu:cs[j]? = some u) (w:World) :
 (Instr.index t (.agg cs.toArray) (.int .i64 j)).run prog w=.ok u w:=by
 have h1:(0:Int)<=(j:Int)∧(j:Int)<(n:Int):=by omega
 cases hq:prog.info? e with
 | none=>simp[hq] at hs
 | some i =>
  have hi:i.size=1:=by simpa [hq] using hs
  simp[Instr.index,run_underlying h,asIntOf,h1,sizeOf,typeInfo,hq,hi,ha,hu,go_sem];omega
theorem size_alloc (w:World) (o:Obj):(w.alloc o).heap.size=w.heap.size+1:=Array.size_push ..
theorem VJ (s:List Nat) (j:Nat) (h:j<s.length):s.take (j+1)=s.take j++[s.getD j 0]:=by
 rw[List.take_add_one,Qg h,Qd,Qg h];rfl
theorem Tryz.agg29 (w:World):(isAgg 115).run prog w=.ok false w:=by kernel_rfl
theorem Tryz.agg5 (w:World):(isAgg 5).run prog w=.ok false w:=by kernel_rfl
theorem Tryz.one29:(prog.info? 115).map (·.size)=some 1:=by kernel_rfl
theorem Tryz.one5:(prog.info? 5).map (·.size)=some 1:=by kernel_rfl
def wi (s:List Nat):LI:=s.map λx=>((x:Nat):Int)
theorem Cc (w:World) (G i j:Nat) (v:Value) (h:¬i=j):(w.setCell ⟨G,i,none⟩ v).cell? ⟨G,j,none⟩=w.cell? ⟨G,j,none⟩:=World.cell?_setCell_other _ _ _ _ (λe=>h (by cases e;rfl))
theorem Hi {base g:Nat} {cs:List Value} (h:Blk w g E cs) (hb:base<=g) (hm:n<=maxLen) (hc:cs.length=n) :
 w.ownsRow base E 1 (.slice (some ⟨g,0,none⟩) n n) n cs :=
 ⟨by omega,.inr ⟨g,n,cs.toArray,rfl,hb,h,Nat.le_refl _,hm,by simpa using hc,by simp[<-hc]⟩⟩
theorem Vy (s:LI) (i:Nat) (x:Int):(bl s).set i (.int .u8 x)=bl (s.set i x):=by simp[bl,List.map_set]
theorem Bs.offB {T:TypeId} {cs:List Value} (hb:Bs .u8 w v ys) (hB:Blk w g T cs) (hc:∀y∈cs,∀x,y≠.int .u8 x) (o:Only (λk=>k=g) w w'):Bs .u8 w' v ys:=by
 obtain⟨ao,cap,rfl,hl,hr⟩:=hb;refine⟨ao,cap,rfl,hl,λhne=>?_⟩;obtain⟨b,off,rfl,h⟩:=hr hne;refine⟨b,off,rfl,λj hj=>?_⟩;have h0:=h j hj
 by_cases hbg:b=g
 ·subst hbg
  rw[hB.cell] at h0;exact absurd rfl (hc _ (List.mem_of_getElem? h0) _)
 ·rw[<-h0]
  exact World.cell?_of_block (o.block b (World.block_lt_of_cell? w _ h0) hbg)
theorem Qm {lo:Nat} {xs:List Value} (h:w.ownsRow lo E 1 v n xs):∃ao cap,v=.slice ao n cap:=by
 rcases h.2 with ⟨rfl,rfl⟩ | ⟨g,cap,cur,rfl,_⟩
 ·exact⟨none,0,rfl⟩
 ·exact⟨_,cap,rfl⟩
theorem SY (p:Int) (t:ByteArray) (ht:t.size<=1000) (w:World) :
 Calls prog 112 #[.int .u8 p,.string t] w λe w'=>∃v,e=.returned v∧w'.ownsRow w.heap.size 5 1 v (YY p (sb t)).length (bl (YY p (sb t)))∧N0 w w':=by
 have hcv:=ZK t;have h2:=grownCap_ge (w.alloc (.cells #[.int .u8 p] 5)) t.size 0 5;obtain⟨c,hc⟩:=EX (grownCap (w.alloc (.cells #[.int .u8 p] 5)) t.size 0 5);rw[<-hc] at h2;have o1:N0 w (w.alloc (.cells #[.int .u8 p] 5)):=(Only.refl _ _).alloc _;have b0:Bs .u8 (w.alloc (.cells #[.int .u8 p] 5)) (.slice (some ⟨w.heap.size,0,none⟩) 1 1) [p]:=Bs.lit .u8 w 5 [p];have o2:N0 (w.alloc (.cells #[.int .u8 p] 5)) ((w.alloc (.cells #[.int .u8 p] 5)).alloc (UY t c)).drew:=((Only.refl _ _).alloc _).drew;have A:=Qa (Wb (.slice (some ⟨w.heap.size+1,0,none⟩) t.size c) (sb t) ((w.alloc (.cells #[.int .u8 p] 5)).alloc (UY t c)).drew (Zx (VK (YV (by simp))) (by omega)) (NoCap.some _ _ _) (by rw[QX];omega))
 have HL:Hid ((blk (sb t)).length<=2000):=by
  have:=Ut (sb t) (by rw[QX];omega);rw[QX] at this
  show _<=_
  omega
 have P0:=Qa (And.intro (b0.past o2) (o1.same o2));have HX:Hid ([p]++blk (sb t)=YY p (sb t)):=rfl;obtain⟨X,hX⟩:=EX (blk (sb t));rw[<-hX] at A HL HX;clear o1 b0 o2 h2 hX;go_enter func112,ntmps112;go_wp2_with fail;rw[<-hc];refine A.o.mono ?_;rintro e w1 ⟨v1,rfl,h0,o1⟩;obtain⟨a1,c1,rfl⟩:=Qm h0;have oa:N0 w1 (w1.alloc (.cells #[.slice (some ⟨w.heap.size,0,none⟩) 1 1,.slice a1 X.length c1] 23)):=(Only.refl _ _).alloc _;have C:=Qa (WJ w1.heap.size (.slice (some ⟨w.heap.size,0,none⟩) 1 1) (.slice a1 X.length c1) [p] X (w1.alloc (.cells #[.slice (some ⟨w.heap.size,0,none⟩) 1 1,.slice a1 X.length c1] 23)) (by go_cell) (by go_cell) (P0.o.1.past (o1.same oa)) ((Bs.of_own (k:=.u8) h0).past oa) (NoCap.some _ _ _) (NoCap.of_own h0) (by simp only[Qi];omega) (by have:=HL.o;simp only[Qi,List.length_nil];omega));rw[HX.o] at C;have O1:=Qa (P0.o.2.same (o1.same oa));obtain⟨m,hm⟩:=EX X.length;rw[<-hm] at C O1 ⊢;clear h0 o1 oa A P0 hm hcv hc;go_wp2_with fail;refine C.o.mono ?_;rintro e w2 ⟨v2,rfl,h1,o2⟩;have F:=Qa (And.intro (Qu h1 O1.o.size) (O1.o.same o2));clear h1 o2 C O1;go_wp2;go_ret;exact⟨_,rfl,F.o⟩
theorem SJ (v i:Int) (hi:0<=i∧i<=9223372036854775807) (w:World) :
 Calls prog 154 #[.int .u64 v,.int .i64 i] w λe w'=>∃u,e=.returned u∧w'.ownsRow w.heap.size 5 1 u 12 (bl (UO v i))∧N0 w w':=by
 have hw:IntKind.u64.wrap i=i:=by rw[IntKind.wrap_u64];omega
 have A:=Qa (Ux v 8 w (by decide));have B:=Qa (λW=>Ux i 4 W (by decide));rw[show ((8:Nat):Int)=8 from rfl,QD] at A;rw[show ((4:Nat):Int)=4 from rfl,QD] at B;have HX:Hid (fixL v 8++fixL i 4=UO v i∧(fixL v 8++fixL i 4).length=12∧(fixL v 8).length=8∧(fixL i 4).length=4):=⟨rfl,PF v i,QD _ _,QD _ _⟩;obtain⟨X,hX⟩:=EX (fixL v 8);obtain⟨Y,hY⟩:=EX (fixL i 4);rw[<-hX] at A HX;rw[<-hY] at B HX;clear hX hY hi;go_enter func154,ntmps154;go_wp2_with fail;refine A.o.mono ?_;rintro e w1 ⟨v1,rfl,h1,o1⟩;obtain⟨a1,c1,rfl⟩:=Qm h1;have B1:=Qa (B.o w1);have h3:=Qa h1;have O1:=Qa o1;clear h1 o1 A B;go_wp2_with fail;refine B1.o.mono ?_;rintro e w2 ⟨v2,rfl,h0,o2⟩;obtain⟨a2,c2,rfl⟩:=Qm h0;have oa:N0 w2 (w2.alloc (.cells #[.slice a1 8 c1,.slice a2 4 c2] 23)):=(Only.refl _ _).alloc _;have C:=Qa (WJ w2.heap.size (.slice a1 8 c1) (.slice a2 4 c2) X Y (w2.alloc (.cells #[.slice a1 8 c1,.slice a2 4 c2] 23)) (by go_cell) (by go_cell) ((Bs.of_own (k:=.u8) (E:=5) (lo:=w.heap.size) (by rw[HX.o.2.2.1];exact h3.o)).past (o2.same oa)) ((Bs.of_own (k:=.u8) (E:=5) (lo:=w1.heap.size) (by rw[HX.o.2.2.2];exact h0)).past oa) (NoCap.of_own h3.o) (NoCap.of_own h0) (by have:=HX.o.2.2.1;omega) (by have:=HX.o.2.2.1;have:=HX.o.2.2.2;omega));rw[HX.o.2.1,HX.o.1] at C;have O2:=Qa (O1.o.same (o2.same oa));clear h0 o2 oa B1 h3 O1;go_wp2_with fail;refine C.o.mono ?_;rintro e w3 ⟨v3,rfl,h2,o3⟩;have F:=Qa (And.intro (Qu h2 O2.o.size) (O2.o.same o3));clear h2 o3 C O2;go_wp2;go_ret;exact⟨_,rfl,F.o⟩
theorem and31 (n:Nat) (h1:1<=n) (h2:n<=31):bits .and .u64 (IntKind.u64.wrap (-(n:Int))) 31=((32 - n:Nat):Int):=by
 have e:IntKind.u64.wrap (-(n:Int))=((18446744073709551616 - n:Nat):Int):=by
  simp[IntKind.wrap,IntKind.bits,IntKind.signed];omega
 rw[e,show (31:Int)=((31:Nat):Int) from rfl,u64_and_nat _ _ (by omega) (by omega),show (31:Nat)=2^5 - 1 from rfl,Nat.and_two_pow_sub_one_eq_mod];omega
theorem Ys (x n:Nat) (hx:x<4294967296):rotw x n<4294967296:=by
 unfold rotw;exact Nat.or_lt_two_pow (n:=32) (XG x n hx) (Nat.mod_lt _ (by decide))
theorem Ki {x:Nat} (y:Nat) (hx:x<4294967296):x &&& y<4294967296:=Nat.lt_of_le_of_lt Nat.and_le_left hx
theorem yU (x n:Nat) (w:World) (hx:x<4294967296) (h1:1<=n) (h2:n<=31) :
 Calls prog 194 #[.int .u32 x,.int .i64 (-(n:Int))] w λe w'=>e=.returned (.int .u32 (rotw x n:Nat))∧w=w':=by
 have hb:=and31 n h1 h2;obtain⟨s,hs⟩:=EX (32 - n);rw[<-hs] at hb
 have h3:1<=s:=by omega
 have h4:s<=31:=by omega
 have HS:Hid (n=32 - s):=(by omega:n=32 - s);clear hs h1 h2;go_enter func194,ntmps194;go_wp2;go_ret;refine⟨YP ?_,rfl⟩
 rw[show ((x:Int)*2^s % 4294967296)=((x*2^s % 4294967296:Nat):Int) by simp,show ((x:Int) / 2^(32 - s))=((x / 2^(32 - s):Nat):Int) by simp,
  u32_or_nat _ _ (Nat.mod_lt _ (by decide)) (XG _ _ hx),HS.o]
 unfold rotw;rw[Nat.or_comm,show 32 - (32 - s)=s by omega]
theorem UK (x n:Nat) (w:World) (hx:x<4294967296) (h1:1<=n) (h2:n<=31) :
 Calls prog 182 #[.int .u32 x,.int .i64 n] w λe w'=>e=.returned (.int .u32 (rotw x n:Nat))∧w=w':=by
 have A:=Qa (yU x n w hx h1 h2);go_enter func182,ntmps182;go_wp2_with fail;refine A.o.mono ?_;rintro e w1 ⟨rfl,rfl⟩;go_wp2;go_ret;exact⟨rfl,rfl⟩
theorem I0 (x:Nat) (hx:x<4294967296):bits .xor .u32 (bits .xor .u32 (rotw x 7:Nat) (rotw x 18:Nat)) ((x:Int) / 8)=(sg0 x:Nat):=by
 rw[show ((x:Int) / 8)=((x / 8:Nat):Int) from rfl,u32_xor_nat _ _ (Ys _ _ hx) (Ys _ _ hx),u32_xor_nat _ _ (UW (Ys _ _ hx) (Ys _ _ hx)) (by omega)];rfl
theorem Av (x:Nat) (hx:x<4294967296):bits .xor .u32 (bits .xor .u32 (rotw x 17:Nat) (rotw x 19:Nat)) ((x:Int) / 1024)=(sg1 x:Nat):=by
 rw[show ((x:Int) / 1024)=((x / 1024:Nat):Int) from rfl,u32_xor_nat _ _ (Ys _ _ hx) (Ys _ _ hx),u32_xor_nat _ _ (UW (Ys _ _ hx) (Ys _ _ hx)) (by omega)];rfl
theorem yY (x:Nat) (hx:x<4294967296):bits .xor .u32 (bits .xor .u32 (rotw x 2:Nat) (rotw x 13:Nat)) (rotw x 22:Nat)=(Vz x:Nat):=by
 rw[u32_xor_nat _ _ (Ys _ _ hx) (Ys _ _ hx),u32_xor_nat _ _ (UW (Ys _ _ hx) (Ys _ _ hx)) (Ys _ _ hx)];rfl
theorem Cw (x:Nat) (hx:x<4294967296):bits .xor .u32 (bits .xor .u32 (rotw x 6:Nat) (rotw x 11:Nat)) (rotw x 25:Nat)=(KL x:Nat):=by
 rw[u32_xor_nat _ _ (Ys _ _ hx) (Ys _ _ hx),u32_xor_nat _ _ (UW (Ys _ _ hx) (Ys _ _ hx)) (Ys _ _ hx)];rfl
theorem uW (x:Nat) (w:World) (hx:x<4294967296) :
 Calls prog 181 #[.int .u32 x] w λe w'=>e=.returned (.int .u32 (sg0 x:Nat))∧w=w':=by
 have A:=Qa (UK x 7 w hx (by decide) (by decide));have B:=Qa (UK x 18 w hx (by decide) (by decide));have H:=Qa (I0 x hx);go_enter func181,ntmps181;go_wp2_with fail;refine A.o.mono ?_;rintro e w1 ⟨rfl,rfl⟩;go_wp2_with fail;refine B.o.mono ?_;rintro e w1 ⟨rfl,rfl⟩;go_wp2;go_ret;exact⟨YP H.o,rfl⟩
theorem Oa (x:Nat) (w:World) (hx:x<4294967296) :
 Calls prog 180 #[.int .u32 x] w λe w'=>e=.returned (.int .u32 (sg1 x:Nat))∧w=w':=by
 have A:=Qa (UK x 17 w hx (by decide) (by decide));have B:=Qa (UK x 19 w hx (by decide) (by decide));have H:=Qa (Av x hx);go_enter func180,ntmps180;go_wp2_with fail;refine A.o.mono ?_;rintro e w1 ⟨rfl,rfl⟩;go_wp2_with fail;refine B.o.mono ?_;rintro e w1 ⟨rfl,rfl⟩;go_wp2;go_ret;exact⟨YP H.o,rfl⟩
theorem FJ (x:Nat) (w:World) (hx:x<4294967296) :
 Calls prog 148 #[.int .u32 x] w λe w'=>e=.returned (.int .u32 (Vz x:Nat))∧w=w':=by
 have A:=Qa (UK x 2 w hx (by decide) (by decide));have B:=Qa (UK x 13 w hx (by decide) (by decide));have C:=Qa (UK x 22 w hx (by decide) (by decide));have H:=Qa (yY x hx);go_enter func148,ntmps148;go_wp2_with fail;refine A.o.mono ?_;rintro e w1 ⟨rfl,rfl⟩;go_wp2_with fail;refine B.o.mono ?_;rintro e w1 ⟨rfl,rfl⟩;go_wp2_with fail;refine C.o.mono ?_;rintro e w1 ⟨rfl,rfl⟩;go_wp2;go_ret;exact⟨YP H.o,rfl⟩
theorem uI (x:Nat) (w:World) (hx:x<4294967296) :
 Calls prog 147 #[.int .u32 x] w λe w'=>e=.returned (.int .u32 (KL x:Nat))∧w=w':=by
 have A:=Qa (UK x 6 w hx (by decide) (by decide));have B:=Qa (UK x 11 w hx (by decide) (by decide));have C:=Qa (UK x 25 w hx (by decide) (by decide));have H:=Qa (Cw x hx);go_enter func147,ntmps147;go_wp2_with fail;refine A.o.mono ?_;rintro e w1 ⟨rfl,rfl⟩;go_wp2_with fail;refine B.o.mono ?_;rintro e w1 ⟨rfl,rfl⟩;go_wp2_with fail;refine C.o.mono ?_;rintro e w1 ⟨rfl,rfl⟩;go_wp2;go_ret;exact⟨YP H.o,rfl⟩
theorem Tryz.size30:(prog.info? 116).map (·.size)=some 8:=by kernel_rfl
theorem Tryz.size31:(prog.info? 117).map (·.size)=some 64:=by kernel_rfl
theorem Tryz.size52:(prog.info? 190).map (·.size)=some 64:=by kernel_rfl
theorem Tryz.size33:(prog.info? 119).map (·.size)=some 73:=by kernel_rfl
theorem Du (w:World):Calls prog 103 #[] w λe w'=>e=.returned (.agg (wl shH).toArray)∧N0 w w':=by
 go_enter func103,ntmps103;go_wp2_with (first|(refine Kh rfl 116 _ rfl (wl shH).toArray (by kernel_rfl) ?_)|(refine wpList_store_row rfl 116 (.tmp 0) (.tmp 1) rfl w.heap.size (wl shH).toArray rfl rfl 116 (wl (List.replicate 8 0)).toArray (heap_alloc_last w _) Tryz.size30 rfl (UB _) ?_));refine bodyPost_ret (v:=.agg (wl shH).toArray) (results_cell_row rfl _ _ w.heap.size 116 (wl shH).toArray (0,0) _ rfl (setRow_heap _ _ _ _ 116 _ (heap_alloc_last w _)) underlying116 rfl Tryz.size30) rfl ⟨rfl,?_⟩;exact ((Only.refl _ _).alloc _).setRow (λh=>absurd h (Nat.lt_irrefl _)) _
def zK:List Value:=wl (List.replicate 64 0)
theorem AC (w:World):Calls prog 146 #[] w λe w'=>e=.returned (.agg (wl shK).toArray)∧N0 w w':=by
 go_enter func146,ntmps146;go_wp2_with (first|(refine Kh rfl 190 _ rfl (wl shK).toArray (by kernel_rfl) ?_)|(refine wpList_store_row rfl 190 (.tmp 0) (.tmp 1) rfl w.heap.size (wl shK).toArray rfl rfl 190 zK.toArray (heap_alloc_last w _) Tryz.size52 (by kernel_rfl) (UB _) ?_));refine bodyPost_ret (v:=.agg (wl shK).toArray) (results_cell_row rfl _ _ w.heap.size 190 (wl shK).toArray (0,0) _ rfl (setRow_heap _ _ zK.toArray _ 190 _ (heap_alloc_last w _)) underlying190 rfl Tryz.size52) rfl ⟨rfl,?_⟩;exact ((Only.refl _ _).alloc _).setRow (λh=>absurd h (Nat.lt_irrefl _)) _
theorem ix_w8 (s:List Nat) (hs:s.length=8) (j:Nat) (hj:j<8) (w:World):(Instr.index 116 (.agg (wl s).toArray) (.int .i64 j)).run prog w=.ok (.int .u32 ((s.getD j 0:Nat):Int)) w :=
 WN 116 115 8 (wl s) j _ underlying116 Tryz.agg29 Tryz.one29 hj (wl_at s j (by omega)) w
theorem qo (s:List Nat) (hs:s.length=64) (j:Nat) (hj:j<64) (w:World):(Instr.index 190 (.agg (wl s).toArray) (.int .i64 j)).run prog w=.ok (.int .u32 ((s.getD j 0:Nat):Int)) w :=
 WN 190 115 64 (wl s) j _ underlying190 Tryz.agg29 Tryz.one29 hj (wl_at s j (by omega)) w
theorem qY (s:LI) (hs:s.length=64) (j:Nat) (hj:j<64) (w:World):(Instr.index 117 (.agg (bl s).toArray) (.int .i64 j)).run prog w=.ok (.int .u8 (s.getD j 0)) w :=
 WN 117 5 64 (bl s) j _ underlying117 Tryz.agg5 Tryz.one5 hj (bl_at s j (by omega)) w
theorem Ah (s:List Nat) (j:Nat) (h:j<s.length):(s.take (j+1)).flatMap be4=(s.take j).flatMap be4++be4 (s.getD j 0):=by
 rw[VJ s j h,List.flatMap_append];simp
theorem ud (x:Nat):be4 x=[((x / 16777216 % 256:Nat):Int),((x / 65536 % 256:Nat):Int),((x / 256 % 256:Nat):Int),((x % 256:Nat):Int)]:=by
 have:List.range 4=[0,1,2,3]:=rfl;unfold be4;rw[this];simp
def z32:List Value:=bl (List.replicate 32 0)
theorem mk32 (w:World):(Instr.makeSlice 23 (.int .i64 0) (.int .i64 32)).run prog w=.ok (.slice (some ⟨w.heap.size,0,none⟩) 0 32) (w.alloc (.cells z32.toArray 5)):=by kernel_rfl
theorem AK (s:List Nat) (hs:s.length=8) (w:World):Calls prog 106 #[.agg (wl s).toArray] w λe w'=>∃v,e=.returned v∧w'.ownsRow w.heap.size 5 1 v 32 ((s.flatMap be4).map (Value.int .u8))∧N0 w w':=by
 obtain⟨i0,hi,hz0,hz1,hz2⟩:=info_parts Tryz.infoU8;have HX:=Qa (ix_w8 s hs);have FX:=Qa (Ah s)
 have HF:Hid ((s.take 8).flatMap be4=s.flatMap be4):=by rw[List.take_of_length_le (by omega)];rfl
 have HL:=Qa hs;have hmk:=mk32;generalize hC:(wl s).toArray=C at *
 have h4:(prog.info? 116).map (·.size)=some C.size:=by rw[<-hC];simp[QQ,hs,Tryz.size30]
 have HSZ:=Qa h4;clear hC hs h4;go_enter func106,ntmps106;go_wp2_with (refine wpList_load_row rfl 116 _ rfl w.heap.size rfl 116 C (0,0) _ (heap_alloc2_old w _ _) underlying116 rfl HSZ.o ?_)
 obtain⟨F,hF⟩:∃F:Nat->List Value,F=λj=>((s.take j).flatMap be4).map (Value.int .u8):=⟨_,rfl⟩
 have F0:Hid (F 0=[]):=by rw[hF];rfl
 have F8:Hid (F 8=(s.flatMap be4).map (Value.int .u8)):=by rw[hF,<-HF.o];rfl
 have FN:Hid (∀j,j<8->F (j+1)=F j++(be4 (s.getD j 0)).map (Value.int .u8)):=λj hj=>by
  rw[hF];simp only;rw[FX.o j (by rw[HL.o];exact hj),List.map_append]
 clear hF FX HF
 go_loopw [3,8] (λo i wr=>∃j:Nat,j<=8∧i=.int .i64 j∧wr.ownsRow w.heap.size 5 1 o (4*j) (F j)∧N0 w wr) (λ_ i _=>8 - (intOf i).toNat)
 case atStart =>
  refine⟨0,by omega,rfl,?_,((Only.refl _ _).alloc _).alloc _⟩;rw[F0.o];have:=World.ownsRow_made (base:=w.heap.size) (e:=5) (size:=1) (w.alloc (.cells C 116)) z32.toArray 32 ((Only.refl (λ_=>False) w).alloc _).size (by decide) rfl;rw[size_alloc] at this;exact this
 case round =>
  obtain⟨j,hj,rfl,h1,h2⟩:=hrel;have h4:=h2.size;have h3:=Qa h2;have h0:=Qa h1;clear h2 h1
  by_cases hlt:j<8
  ·obtain⟨x,hx⟩:=EX (s.getD j 0)
   have hix:=HX.o j hlt;have h5:=FN.o j hlt;rw[<-hx] at hix h5;have h6:=Qa h5
   have i1:(j:Int)<8:=by omega
   clear hx h5;have BL:=Qa (Bs.litN .u8 wr 5 [(x:Int) / 16777216 % 256,(x:Int) / 65536 % 256,(x:Int) / 256 % 256,(x:Int) % 256] _ _ rfl rfl);go_wp2_with (at_builtin;refine Yh _ rfl _ _ 23 rfl w.heap.size 5 i0 (.int .u8 0) 1 underlying23 hi hz0 hz1 hz2 rfl _ (4*j) (F j) rfl (h0.o.alloc _) .u8 _ [(x:Int) / 16777216 % 256,(x:Int) / 65536 % 256,(x:Int) / 256 % 256,(x:Int) % 256] rfl BL.o (NoCap.some _ _ _) (by simp[maxLen];omega) (by simp;omega) (by simp;omega) ?_;intro v' w2 hown' hgrow2 hnil2 hob2)
   have N1:Hid (w2.ownsRow w.heap.size 5 1 v' (4*(j+1)) (F (j+1))):=by
    rw[h6.o,ud];exact hown'
   have N2:Hid (N0 w w2):=(h3.o.alloc _).grown hgrow2 (λk hk e=>by have:=h0.o.lt k e;omega);clear hown' hgrow2 hnil2 hob2 h0 h3 BL h6;go_wp2
   go_roundw
   case rel=>exact⟨j+1,by omega,by go_num,N1.o,N2.o⟩
   case measure=>simp[intOf];omega
  ·go_wp2
   go_ret
   obtain rfl:j=8:=by omega
   rw[F8.o] at h0;exact⟨_,rfl,h0.o,h3.o⟩
end Go.Proofs.YtoflhbghdlaeaaaGreatDoor
