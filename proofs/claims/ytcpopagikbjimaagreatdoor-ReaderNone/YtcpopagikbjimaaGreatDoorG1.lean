import Derived.WalkKit
import Derived.Deep.AppendLies
import Derived.Laws.AppendOwnNone
import Derived.BigQuiet
import Derived.OpenShut
import Derived.Test.YtcpopagikbjimaaGreatDoorProg
namespace Go.Proofs.YtcpopagikbjimaaGreatDoor
set_option maxHeartbeats 400000
set_option maxRecDepth 100000
open Go.RowKit
def w32 : Nat:=4294967296
def rotw (x n : Nat) : Nat:=(x / 2 ^ n) ||| (x * 2 ^ (32 - n) % 4294967296)
def shK : List Nat:=[0x428a2f98,0x71374491,0xb5c0fbcf,0xe9b5dba5,0x3956c25b,0x59f111f1,0x923f82a4,0xab1c5ed5,
 0xd807aa98,0x12835b01,0x243185be,0x550c7dc3,0x72be5d74,0x80deb1fe,0x9bdc06a7,0xc19bf174,
 0xe49b69c1,0xefbe4786,0x0fc19dc6,0x240ca1cc,0x2de92c6f,0x4a7484aa,0x5cb0a9dc,0x76f988da,
 0x983e5152,0xa831c66d,0xb00327c8,0xbf597fc7,0xc6e00bf3,0xd5a79147,0x06ca6351,0x14292967,
 0x27b70a85,0x2e1b2138,0x4d2c6dfc,0x53380d13,0x650a7354,0x766a0abb,0x81c2c92e,0x92722c85,
 0xa2bfe8a1,0xa81a664b,0xc24b8b70,0xc76c51a3,0xd192e819,0xd6990624,0xf40e3585,0x106aa070,
 0x19a4c116,0x1e376c08,0x2748774c,0x34b0bcb5,0x391c0cb3,0x4ed8aa4a,0x5b9cca4f,0x682e6ff3,
 0x748f82ee,0x78a5636f,0x84c87814,0x8cc70208,0x90befffa,0xa4506ceb,0xbef9a3f7,0xc67178f2]
def shH : List Nat:=[0x6a09e667,0xbb67ae85,0x3c6ef372,0xa54ff53a,0x510e527f,0x9b05688c,0x1f83d9ab,0x5be0cd19]
def sg0 (y : Nat) : Nat:=rotw y 7 ^^^ rotw y 18 ^^^ (y / 8)
def sg1 (x : Nat) : Nat:=rotw x 17 ^^^ rotw x 19 ^^^ (x / 1024)
def Sg0 (a : Nat) : Nat:=rotw a 2 ^^^ rotw a 13 ^^^ rotw a 22
def Sg1 (e : Nat) : Nat:=rotw e 6 ^^^ rotw e 11 ^^^ rotw e 25
def chw (e f g : Nat) : Nat:=(e &&& f) ^^^ ((4294967295 - e) &&& g)
def majw (a b c : Nat) : Nat:=(a &&& b) ^^^ (a &&& c) ^^^ (b &&& c)
def wd4 (b : List Int) (t : Nat) : Nat:=(b.getD (4 * t) 0).toNat * 16777216 + (b.getD (4 * t + 1) 0).toNat * 65536 + (b.getD (4 * t + 2) 0).toNat * 256 + (b.getD (4 * t + 3) 0).toNat
def nextw (w : List Nat) : Nat:=(sg1 (w.getD (w.length - 2) 0) + w.getD (w.length - 7) 0 + sg0 (w.getD (w.length - 15) 0) + w.getD (w.length - 16) 0) % 4294967296
def wext : Nat → List Nat → List Nat
 | 0,w => w
 | n + 1,w => wext n (w ++ [nextw w])
def wds (b : List Int) : List Nat:=wext 48 ((List.range 16).map (wd4 b))
def rnd (s : List Nat) (k w : Nat) : List Nat :=
 [(s.getD 7 0 + Sg1 (s.getD 4 0) + chw (s.getD 4 0) (s.getD 5 0) (s.getD 6 0) + k + w + Sg0 (s.getD 0 0) + majw (s.getD 0 0) (s.getD 1 0) (s.getD 2 0)) % 4294967296,
 s.getD 0 0,s.getD 1 0,s.getD 2 0,(s.getD 3 0 + s.getD 7 0 + Sg1 (s.getD 4 0) + chw (s.getD 4 0) (s.getD 5 0) (s.getD 6 0) + k + w) % 4294967296,s.getD 4 0,s.getD 5 0,s.getD 6 0]
def rnds (s : List Nat) (w : List Nat) (t : Nat) : List Nat:=(List.range t).foldl (fun s i => rnd s (shK.getD i 0) (w.getD i 0)) s
def thru (s : List Nat) (b : List Int) : List Nat:=(List.range 8).map fun i => (s.getD i 0 + (rnds s (wds b) 64).getD i 0) % 4294967296
def zpad (n : Nat) : Nat:=(119 - n % 64) % 64
def be8 (v : Nat) : List Int:=(List.range 8).map fun i => ((v / 256 ^ (7 - i) % 256 : Nat) : Int)
def be4 (v : Nat) : List Int:=(List.range 4).map fun i => ((v / 256 ^ (3 - i) % 256 : Nat) : Int)
def padS (b : List Int) : List Int:=b ++ 128 :: (List.replicate (zpad b.length) 0 ++ be8 (8 * b.length))
def thrus (s : List Nat) (p : List Int) (k : Nat) : List Nat:=(List.range k).foldl (fun s i => thru s ((p.drop (64 * i)).take 64)) s
def SHA (b : List Int) : List Int:=(thrus shH (padS b) ((padS b).length / 64)).flatMap be4
theorem QfB (n : Nat) : (n + 1 + zpad n) % 64 = 56:=by unfold zpad;omega
theorem QcP (v : Nat) : (be8 v).length = 8:=by simp [be8]
theorem QdA (b : List Int) : (padS b).length = b.length + 1 + zpad b.length + 8:=by
 unfold padS;simp only [List.length_append,List.length_cons,List.length_replicate,QcP];omega
theorem QiY (b : List Int) : (padS b).length % 64 = 0:=by
 rw [QdA];have:=QfB b.length;omega
theorem Qb4 (s : List Nat) (b : List Int) : (thru s b).length = 8:=by simp [thru]
theorem QcQ (s : List Nat) (w : List Nat) (t : Nat) : rnds s w (t + 1) = rnd (rnds s w t) (shK.getD t 0) (w.getD t 0):=by
 unfold rnds;rw [List.range_succ,List.foldl_append];rfl
theorem QaZ (s : List Nat) (p : List Int) (k : Nat) : thrus s p (k + 1) = thru (thrus s p k) ((p.drop (64 * k)).take 64):=by
 unfold thrus;rw [List.range_succ,List.foldl_append];rfl
theorem Qc8 (s : List Nat) (p : List Int) : thrus s p 0 = s:=rfl
theorem Qkr (s : List Nat) (b : List Int) : ∀ x ∈ thru s b,x < 4294967296:=by
 intro x hx;simp only [thru,List.mem_map] at hx;obtain ⟨i,_,rfl⟩:=hx;exact Nat.mod_lt _ (by decide)
theorem QbC (p : List Int) (k : Nat) : (thrus shH p k).length = 8:=by
 cases k with
 | zero => rfl
 | succ k => rw [QaZ];exact Qb4 _ _
theorem Qks (v : Nat) : (be4 v).length = 4:=by simp [be4]
theorem Qhw (l : List Nat) : (l.flatMap be4).length = 4 * l.length:=by
 induction l with
 | nil => rfl
 | cons a t ih => rw [List.flatMap_cons,List.length_append,Qks,ih,List.length_cons];omega
theorem Qan (b : List Int) : (SHA b).length = 32:=by unfold SHA;rw [Qhw,QbC]
theorem Qhx (v : Nat) : ∀ y ∈ be4 v,0 ≤ y ∧ y ≤ 255:=by
 intro y hy;simp only [be4,List.mem_map] at hy;obtain ⟨i,_,rfl⟩:=hy;have : v / 256 ^ (3 - i) % 256 < 256:=Nat.mod_lt _ (by decide);omega
theorem QaR (b : List Int) : ∀ y ∈ SHA b,0 ≤ y ∧ y ≤ 255:=by
 intro y hy;simp only [SHA,List.mem_flatMap] at hy;obtain ⟨v,_,h⟩:=hy;exact Qhx v y h
def U8 (b : List Int) : Prop:=∀ y ∈ b,0 ≤ y ∧ y ≤ 255
theorem U8.at {b : List Int} (h : U8 b) (j : Nat) : 0 ≤ b.getD j 0 ∧ b.getD j 0 ≤ 255:=by
 rw [List.getD_eq_getElem?_getD]
 by_cases hj : j < b.length
 ·rw [List.getElem?_eq_getElem hj];exact h _ (List.getElem_mem hj)
 ·rw [List.getElem?_eq_none (by omega)];decide
theorem U8.app {a b : List Int} (h : U8 a) (k : U8 b) : U8 (a ++ b):=fun y hy => by
 rcases List.mem_append.1 hy with h1 | h1
 ·exact h y h1
 ·exact k y h1
theorem U8.take {a : List Int} (h : U8 a) (n : Nat) : U8 (a.take n):=fun y hy => h y (List.mem_of_mem_take hy)
theorem U8.drop {a : List Int} (h : U8 a) (n : Nat) : U8 (a.drop n):=fun y hy => h y (List.mem_of_mem_drop hy)
def W32 (s : List Nat) : Prop:=∀ x ∈ s,x < 4294967296
theorem W32.at {s : List Nat} (h : W32 s) (j : Nat) : s.getD j 0 < 4294967296:=by
 rw [List.getD_eq_getElem?_getD]
 by_cases hj : j < s.length
 ·rw [List.getElem?_eq_getElem hj];exact h _ (List.getElem_mem hj)
 ·rw [List.getElem?_eq_none (by omega)];decide
theorem W32.app {a b : List Nat} (h : W32 a) (k : W32 b) : W32 (a ++ b):=fun y hy => by
 rcases List.mem_append.1 hy with h1 | h1
 ·exact h y h1
 ·exact k y h1
theorem W32.one {x : Nat} (h : x < 4294967296) : W32 [x]:=fun y hy => by simp at hy;subst hy;exact h
def accw (b : List Int) (k : Nat) : Nat → Nat
 | 0 => 0
 | m + 1 => accw b k m * 256 + (b.getD (4 * k + m) 0).toNat
theorem QhF (b : List Int) (h : U8 b) (k : Nat) : ∀ m,accw b k m < 256 ^ m:=by
 intro m
 induction m with
 | zero => exact Nat.zero_lt_one
 | succ m ih =>
  have:=h.at (4 * k + m);have e : 256 ^ (m + 1) = 256 ^ m * 256:=Nat.pow_succ ..
  show accw b k m * 256 + (b.getD (4 * k + m) 0).toNat < _
  rw [e];omega
theorem Qep (b : List Int) (k : Nat) : accw b k 4 = wd4 b k:=by
 simp only [accw,wd4,Nat.add_zero];omega
def wpart (b : List Int) (i : Nat) : List Nat:=(List.range 64).map fun k => accw b k (min 4 (i - 4 * k))
theorem QhG (b : List Int) (i : Nat) : (wpart b i).length = 64:=by simp [wpart]
theorem Qi2 (b : List Int) (i k : Nat) (hk : k < 64) : (wpart b i).getD k 0 = accw b k (min 4 (i - 4 * k)):=by
 simp [wpart,List.getD_eq_getElem?_getD,hk]
theorem Qf9 (b : List Int) : wpart b 0 = List.replicate 64 0:=by
 apply List.ext_getElem
 ·simp [wpart]
 ·intro i h1 h2
  simp only [wpart,List.getElem_map,List.getElem_range,List.getElem_replicate];rw [show min 4 (0 - 4 * i) = 0 by omega];rfl
theorem Qga (b : List Int) (i : Nat) (_hi : i < 64) : (wpart b i).getD (i / 4) 0 = accw b (i / 4) (i % 4):=by
 rw [Qi2 b i _ (by omega),show min 4 (i - 4 * (i / 4)) = i % 4 by omega]
theorem Qgb (b : List Int) (i : Nat) (_hi : i < 64) : wpart b (i + 1) = (wpart b i).set (i / 4) (accw b (i / 4) (i % 4) * 256 + (b.getD i 0).toNat):=by
 apply List.ext_getElem
 ·simp [wpart]
 ·intro k h1 h2
  have hk : k < 64:=by simpa [wpart] using h1
  rw [List.getElem_set]
  by_cases e : i / 4 = k
  ·rw [if_pos e]
   simp only [wpart,List.getElem_map,List.getElem_range];subst e;rw [show min 4 (i + 1 - 4 * (i / 4)) = i % 4 + 1 by omega]
   show accw b (i / 4) (i % 4) * 256 + (b.getD (4 * (i / 4) + i % 4) 0).toNat = _
   rw [show 4 * (i / 4) + i % 4 = i by omega]
  ·rw [if_neg e]
   simp only [wpart,List.getElem_map,List.getElem_range];rw [show min 4 (i + 1 - 4 * k) = min 4 (i - 4 * k) by omega]
theorem QhH (b : List Int) : wpart b 64 = (List.range 16).map (wd4 b) ++ List.replicate 48 0:=by
 apply List.ext_getElem
 ·simp [wpart]
 ·intro k h1 h2
  have hk : k < 64:=by simpa [wpart] using h1
  by_cases h : k < 16
  ·rw [List.getElem_append_left (by simpa using h)]
   simp only [wpart,List.getElem_map,List.getElem_range];rw [show min 4 (64 - 4 * k) = 4 by omega,Qep]
  ·rw [List.getElem_append_right (by simp;omega)]
   simp only [wpart,List.getElem_map,List.getElem_range,List.getElem_replicate];rw [show min 4 (64 - 4 * k) = 0 by omega];rfl
theorem Qk4 (b : List Int) (h : U8 b) (k : Nat) : wd4 b k < 4294967296:=by rw [← Qep];exact QhF b h k 4
theorem Qeq : ∀ (n : Nat) (w : List Nat),wext (n + 1) w = wext n w ++ [nextw (wext n w)]:=by
 intro n
 induction n with
 | zero => intro w;rfl
 | succ n ih => intro w;rw [show wext (n + 1 + 1) w = wext (n + 1) (w ++ [nextw w]) from rfl,ih];rfl
theorem Qi3 (n : Nat) (w : List Nat) : (wext n w).length = w.length + n:=by
 induction n with
 | zero => rfl
 | succ n ih => rw [Qeq,List.length_append,ih];rfl
theorem Qi4 (w : List Nat) : nextw w < 4294967296:=Nat.mod_lt _ (by decide)
def wv (b : List Int) (t : Nat) : List Nat:=wext (t - 16) ((List.range 16).map (wd4 b))
theorem QhI (b : List Int) (t : Nat) (h : 16 ≤ t) : (wv b t).length = t:=by simp [wv,Qi3];omega
theorem Qe2 (b : List Int) (t : Nat) (h : 16 ≤ t) : wv b (t + 1) = wv b t ++ [nextw (wv b t)]:=by
 unfold wv;rw [show t + 1 - 16 = (t - 16) + 1 by omega,Qeq]
theorem QjB (b : List Int) : wv b 64 = wds b:=rfl
theorem Qcc (b : List Int) : (wds b).length = 64:=QhI b 64 (by decide)
theorem QhJ (b : List Int) (h : U8 b) (n : Nat) : W32 (wv b (16 + n)):=by
 induction n with
 | zero =>
  intro x hx;simp [wv,wext] at hx;obtain ⟨k,_,rfl⟩:=hx;exact Qk4 b h k
 | succ n ih =>
  rw [← Nat.add_assoc,Qe2 b _ (by omega)];exact ih.app (W32.one (Qi4 _))
theorem Qkx (b : List Int) (h : U8 b) : W32 (wds b):=QhJ b h 48
theorem Qi5 (V : List Nat) (t x : Nat) (hV : V.length = t) (ht : t < 64) : (V ++ List.replicate (64 - t) 0).set t x = (V ++ [x]) ++ List.replicate (64 - (t + 1)) 0:=by
 subst hV;rw [List.set_append_right _ _ (Nat.le_refl _),Nat.sub_self,show 64 - V.length = (64 - (V.length + 1)) + 1 by omega,List.replicate_succ,List.set_cons_zero];simp
theorem QhK (V z : List Nat) (k : Nat) (h : k < V.length) : (V ++ z).getD k 0 = V.getD k 0:=by
 rw [List.getD_eq_getElem?_getD,List.getD_eq_getElem?_getD,List.getElem?_append_left h]
theorem QfE (V : List Nat) (t : Nat) (hV : V.length = t) : nextw V = (sg1 (V.getD (t - 2) 0) + V.getD (t - 7) 0 + sg0 (V.getD (t - 15) 0) + V.getD (t - 16) 0) % 4294967296:=by
 subst hV;rfl
theorem Qky (x b : Nat) (hb : b < 256) : (x * 256) ||| b = x * 256 + b:=by
 have:=Nat.two_pow_add_eq_or_of_lt (i:=8) (b:=b) (by simpa using hb) x;rw [Nat.mul_comm x 256];exact this.symm
theorem Qb5 {x y : Nat} (hx : x < 4294967296) (hy : y < 4294967296) : x ^^^ y < 4294967296:=Nat.xor_lt_two_pow (n:=32) hx hy
theorem QhL (x n : Nat) (hx : x < 4294967296) : x / 2 ^ n < 4294967296:=Nat.lt_of_le_of_lt (Nat.div_le_self _ _) hx
def keyS (key : List Int) : List Int:=if 64 < key.length then SHA key else key
def pad64 (key : List Int) : List Int:=keyS key ++ List.replicate (64 - (keyS key).length) 0
def xorB (x : Nat) (l : List Int) : List Int:=l.map fun y => ((y.toNat ^^^ x : Nat) : Int)
def MACL (key b : List Int) : List Int:=SHA (xorB 92 (pad64 key) ++ SHA (xorB 54 (pad64 key) ++ b))
theorem Qa8 (key b : List Int) : (MACL key b).length = 32:=Qan _
theorem Qcy (key b : List Int) : U8 (MACL key b):=QaR _
theorem Qh4 (key : List Int) : (keyS key).length ≤ 64:=by
 unfold keyS
 by_cases h : 64 < key.length
 ·rw [if_pos h,Qan];decide
 ·rw [if_neg h];omega
theorem QjK {key : List Int} (h : U8 key) : U8 (keyS key):=by
 unfold keyS
 by_cases hk : 64 < key.length
 ·rw [if_pos hk];exact QaR _
 ·rw [if_neg hk];exact h
theorem QaP (key : List Int) : (pad64 key).length = 64:=by
 have:=Qh4 key;unfold pad64;rw [List.length_append,List.length_replicate];omega
theorem Qh5 (n : Nat) : U8 (List.replicate n 0):=fun y hy => by
 rw [List.mem_replicate] at hy;obtain ⟨_,rfl⟩:=hy;decide
theorem Qfi {key : List Int} (h : U8 key) : U8 (pad64 key):=(QjK h).app (Qh5 _)
theorem QaM (x : Nat) (l : List Int) : (xorB x l).length = l.length:=List.length_map ..
theorem Qgx (x : Nat) (hx : x < 256) {l : List Int} (h : U8 l) : U8 (xorB x l):=fun y hy => by
 obtain ⟨z,hz,rfl⟩:=List.mem_map.1 hy;have h1:=h z hz;have : z.toNat ^^^ x < 256:=Nat.xor_lt_two_pow (n:=8) (by omega) hx;omega
def tpc (key info : List Int) : Nat → List Int
 | 0 => []
 | i + 1 => MACL key (tpc key info i ++ info ++ [(((i + 1) % 256 : Nat) : Int)])
def tcat (key info : List Int) : Nat → List Int
 | 0 => []
 | i + 1 => tcat key info i ++ tpc key info (i + 1)
theorem QbM (key info : List Int) (i : Nat) : (tpc key info (i + 1)).length = 32:=Qa8 _ _
theorem Qbj (key info : List Int) (i : Nat) : (tcat key info i).length = 32 * i:=by
 induction i with
 | zero => rfl
 | succ i ih => rw [tcat,List.length_append,ih,QbM];omega
theorem QeE (key info : List Int) (i d : Nat) : (tcat key info (i + d)).take (32 * i) = tcat key info i:=by
 induction d with
 | zero => exact List.take_of_length_le (Nat.le_of_eq (Qbj _ _ _))
 | succ d ih =>
  rw [← Nat.add_assoc,tcat,List.take_append_of_le_length (by rw [Qbj];omega),ih]
def EXPL (key info : List Int) (n : Nat) : List Int:=(tcat key info ((n + 31) / 32)).take n
theorem Qh6 (key info : List Int) (n : Nat) : (EXPL key info n).length = n:=by
 unfold EXPL;rw [List.length_take,Qbj];omega
theorem QjL (key info : List Int) (i : Nat) : U8 (tcat key info i):=by
 induction i with
 | zero => intro y hy;cases hy
 | succ i ih => exact ih.app (Qcy _ _)
theorem QjM (key info : List Int) (n : Nat) : U8 (EXPL key info n):=(QjL _ _ _).take _
theorem Qaa {p : Prop} (h : p) : Hid p:=h
theorem Qbt {k : IntKind} {a b : Int} (h : a = b) : Ending.returned (.int k a) = .returned (.int k b):=by rw [h]
structure Only (S : Nat → Prop) (w w' : World) : Prop where
 os : w'.os = w.os
 tape : w'.tape = w.tape
 output : w'.output = w.output
 size : w.heap.size ≤ w'.heap.size
 block : ∀ k,k < w.heap.size → ¬ S k → w'.heap[k]? = w.heap[k]?
theorem Only.refl (S : Nat → Prop) (w : World) : Only S w w:=⟨rfl,rfl,rfl,Nat.le_refl _,fun _ _ _ => rfl⟩
theorem Only.trans {S T : Nat → Prop} {a b c : World} (h : Only S a b) (k : Only T b c) (hT : ∀ i,i < a.heap.size → T i → S i) : Only S a c :=
 ⟨k.os.trans h.os,k.tape.trans h.tape,k.output.trans h.output,Nat.le_trans h.size k.size,
  fun i hi hs => (k.block i (Nat.lt_of_lt_of_le hi h.size) (fun t => hs (hT i hi t))).trans (h.block i hi hs)⟩
theorem Only.mono {S T : Nat → Prop} {a b : World} (h : Only S a b) (hT : ∀ i,i < a.heap.size → S i → T i) : Only T a b :=
 ⟨h.os,h.tape,h.output,h.size,fun i hi hs => h.block i hi (fun s => hs (hT i hi s))⟩
theorem Only.drew {S : Nat → Prop} {a b : World} (h : Only S a b) : Only S a b.drew:=⟨h.os,h.tape,h.output,h.size,h.block⟩
theorem Only.alloc {S : Nat → Prop} {a b : World} (h : Only S a b) (o : Obj) : Only S a (b.alloc o) :=
 h.trans (T:=fun _ => False) ⟨rfl,rfl,rfl,by simp,fun k hk _ => Below.heap_alloc _ _ _ hk⟩ (fun _ _ f => f.elim)
theorem Only.setCell {S : Nat → Prop} {a b : World} (h : Only S a b) {p : Addr} (hp : p.block < a.heap.size → S p.block) (u : Value) : Only S a (b.setCell p u) :=
 h.trans (T:=fun k => k = p.block) ⟨rfl,rfl,rfl,by simp [World.setCell],fun k _ hk => Below.heap_setCell _ _ _ _ hk⟩ (fun _ hi e => by subst e;exact hp hi)
theorem Only.grown {S : Nat → Prop} {a b c : World} {row : Option Nat} (h : Only S a b) (hg : b.grownBy c row) (hr : ∀ k,k < a.heap.size → row = some k → S k) : Only S a c :=
 h.trans (T:=fun k => row = some k) ⟨hg.os,hg.tape,hg.output,hg.size,fun k hk hs => hg.block k hk (fun e => hs e.symm)⟩ hr
theorem Only.below {S : Nat → Prop} {a b : World} (h : Only S a b) {B : Nat} (hB : B ≤ a.heap.size) (hS : ∀ k,S k → B ≤ k) : Below B a b :=
 ⟨h.os,h.tape,h.output,h.size,fun k hk => h.block k (by omega) (fun s => by have:=hS k s;omega)⟩
theorem Only.heap {S : Nat → Prop} {a b : World} (h : Only S a b) {k : Nat} {o : Obj} (hk : a.heap[k]? = some o) (hs : ¬ S k) : b.heap[k]? = some o:=by
 rw [h.block k (Array.getElem?_eq_some_iff.1 hk).1 hs];exact hk
theorem Only.own {S : Nat → Prop} {a b : World} (h : Only S a b) {base : Nat} {e : TypeId} {size : Nat} {v : Value} {n : Nat} {xs : List Value} (ho : a.ownsRow base e size v n xs)
  (hs : ∀ k,v.ownBlock = some k → ¬ S k) : b.ownsRow base e size v n xs:=by
 refine ⟨ho.1,?_⟩
 rcases ho.2 with hn | ⟨g,cap,cur,rfl,hb,hg,rest⟩
 ·exact .inl hn
 ·exact .inr ⟨g,cap,cur,rfl,hb,h.heap hg (hs g rfl),rest⟩
theorem Only.drewN {S : Nat → Prop} {a b : World} (h : Only S a b) (n : Nat) : Only S a (b.drewN n):=⟨h.os,h.tape,h.output,h.size,h.block⟩
def Bs (k : IntKind) (w : World) (v : Value) (xs : List Int) : Prop :=
 ∃ ao cap,v = .slice ao xs.length cap ∧ xs.length ≤ cap ∧ (xs ≠ [] → ∃ b off,ao = some ⟨b,off,none⟩ ∧ ∀ j,j < xs.length → w.cell? ⟨b,off + j,none⟩ = some (.int k (xs.getD j 0)))
theorem Bs.of_own {k : IntKind} {w : World} {lo : Nat} {E : TypeId} {v : Value} {xs : List Int} (h : w.ownsRow lo E 1 v xs.length (xs.map (Value.int k))) : Bs k w v xs:=by
 rcases h.2 with ⟨rfl,h0⟩ | ⟨g,cap,cur,rfl,_,_,hc,_⟩
 ·have : xs = []:=List.eq_nil_of_length_eq_zero h0
  subst this;exact ⟨none,0,rfl,Nat.le_refl _,fun h => absurd rfl h⟩
 ·refine ⟨_,cap,rfl,hc,fun _ => ⟨g,0,rfl,fun j hj => ?_⟩⟩
  rw [Nat.zero_add,h.cellAt j (by omega)];simp [List.getElem?_eq_getElem hj]
theorem Bs.keep {k : IntKind} {w w' : World} {v : Value} {xs : List Int} (h : Bs k w v xs) {S : Nat → Prop} (ho : Only S w w') (hs : ∀ b,v.ownBlock = some b → ¬ S b) : Bs k w' v xs:=by
 obtain ⟨ao,cap,rfl,hc,hr⟩:=h;refine ⟨ao,cap,rfl,hc,fun hx => ?_⟩;obtain ⟨b,off,rfl,hcell⟩:=hr hx;refine ⟨b,off,rfl,fun j hj => ?_⟩;have h0:=hcell j hj;rw [← h0];exact World.cell?_of_block (ho.block b (World.block_lt_of_cell? w _ h0) (hs b rfl))
theorem QaW {w w' : World} (h : Below w.heap.size w w') : Only (fun _ => False) w w':=⟨h.os,h.tape,h.output,h.size,fun k hk _ => h.block k hk⟩
theorem Only.low {w w' : World} (h : Only (fun _ => False) w w') {N : Nat} (hN : N ≤ w.heap.size) : Below N w w':=h.below hN (fun _ f => f.elim)
theorem QaD (k : IntKind) (xs : List Int) : ∀ u ∈ xs.map (Value.int k),u.oneCell' = true:=by
 intro u hu;simp at hu;obtain ⟨x,_,rfl⟩:=hu;rfl
theorem Bs.len {k : IntKind} {w : World} {v : Value} {xs : List Int} (h : Bs k w v xs) : ∃ ao cap,v = .slice ao xs.length cap:=by
 obtain ⟨ao,cap,rfl,_⟩:=h;exact ⟨ao,cap,rfl⟩
theorem Bs.later {k : IntKind} {w w' : World} {v : Value} {xs : List Int} (h : Bs k w v xs) (hb : Below w.heap.size w w') : Bs k w' v xs:=by
 obtain ⟨ao,cap,rfl,hc,hr⟩:=h;refine ⟨ao,cap,rfl,hc,fun hx => ?_⟩;obtain ⟨b,off,rfl,hcell⟩:=hr hx;exact ⟨b,off,rfl,fun j hj => (hb.cell (p:=⟨b,off + j,none⟩) (World.block_lt_of_cell? w _ (hcell j hj))).trans (hcell j hj)⟩
theorem Bs.at {k : IntKind} {w : World} {v : Value} {xs : List Int} (h : Bs k w v xs) (j : Nat) (hj : j < xs.length) : ∃ b off cap,v = .slice (some ⟨b,off,none⟩) xs.length cap ∧ w.cell? ⟨b,off + j,none⟩ = some (.int k (xs.getD j 0)):=by
 obtain ⟨ao,cap,rfl,hc,hr⟩:=h;obtain ⟨b,off,rfl,hcell⟩:=hr (by intro h0;subst h0;simp at hj);exact ⟨b,off,cap,rfl,hcell j hj⟩
theorem Bs.cut0 {k : IntKind} {w : World} {ao : Option Addr} {m n : Nat} {xs : List Int} (h : Bs k w (.slice ao m n) xs) (hn : n ≤ m) : Bs k w (.slice ao (m - n) 0) (xs.drop n):=by
 obtain ⟨ao',cap,e,hc,_⟩:=h;simp at e;obtain ⟨rfl,rfl,rfl⟩:=e;have hx : xs.drop n = []:=List.drop_of_length_le (by omega);rw [hx];exact ⟨ao,0,by simp;omega,Nat.le_refl _,fun h => absurd rfl h⟩
theorem Bs.cut {k : IntKind} {w : World} {ao : Option Addr} {m cap n : Nat} {xs : List Int} (h : Bs k w (.slice ao m cap) xs) (hn : n ≤ m) : Bs k w (.slice (ao.map (fun x => x.add n)) (m - n) (cap - n)) (xs.drop n):=by
 obtain ⟨ao',cap',e,hc,hr⟩:=h;simp at e;obtain ⟨rfl,rfl,rfl⟩:=e;refine ⟨_,cap - n,by rw [List.length_drop],by rw [List.length_drop];omega,fun hne => ?_⟩
 have hlt : n < xs.length:=by
  rcases Nat.lt_or_ge n xs.length with h | h
  ·exact h
  ·exact absurd (List.drop_of_length_le h) hne
 obtain ⟨b,off,rfl,hcell⟩:=hr (by intro h0;subst h0;simp at hlt)
 have hadd : (⟨b,off,none⟩ : Addr).add n = ⟨b,off + n,none⟩:=by unfold Addr.add;split <;> simp_all
 refine ⟨b,off + n,by simp [hadd],fun j hj => ?_⟩;rw [List.length_drop] at hj;rw [Nat.add_assoc,hcell (n + j) (by omega)];simp [List.getD_eq_getElem?_getD]
theorem Qey (ao : Option Addr) (m cap n m' cap' : Nat) : (Value.slice (ao.map (fun x => x.add n)) m cap).ownBlock = (Value.slice ao m' cap').ownBlock:=by
 cases ao with
 | none => rfl
 | some a =>
  simp only [Option.map_some,Value.ownBlock]
  congr 1
  unfold Addr.add
  split <;> rfl
def NoCap (v : Value) : Prop:=∀ m c,v = .slice none m c → c = 0
theorem NoCap.nil : NoCap (.slice none 0 0):=fun m c e => by cases e;rfl
theorem NoCap.some (a : Addr) (m c : Nat) : NoCap (.slice (some a) m c):=fun m c e => by cases e
theorem NoCap.of_own {w : World} {lo : Nat} {E : TypeId} {size : Nat} {v : Value} {n : Nat} {xs : List Value} (h : w.ownsRow lo E size v n xs) : NoCap v:=by
 rcases h.2 with ⟨rfl,_⟩ | ⟨g,cap,cur,rfl,_⟩
 ·exact NoCap.nil
 ·exact NoCap.some _ _ _
theorem Bs.nil (k : IntKind) (w : World) : Bs k w (.slice none 0 0) []:=⟨none,0,rfl,Nat.le_refl _,fun h => absurd rfl h⟩
theorem Bs.news {k : IntKind} {w : World} {ad : Addr} {m cap : Nat} {xs : List Int} (h : Bs k w (.slice (some ad) m cap) xs) : ∀ j u,(xs.map (Value.int k))[j]? = some u → w.cell? (ad.add j) = some u:=by
 intro j u hu
 have hj : j < xs.length:=by
  have:=(List.getElem?_eq_some_iff.1 hu).1
  simpa using this
 obtain ⟨b,off,cap',e1,hc⟩:=h.at j hj;simp at e1;obtain ⟨rfl,_,_⟩:=e1
 have hadd : (⟨b,off,none⟩ : Addr).add j = ⟨b,off + j,none⟩:=by unfold Addr.add;split <;> simp_all
 rw [hadd,hc,← hu];simp [List.getElem?_eq_getElem hj]
theorem Bs.length {k : IntKind} {w : World} {ao : Option Addr} {m cap : Nat} {xs : List Int} (h : Bs k w (.slice ao m cap) xs) : m = xs.length:=by
 obtain ⟨ao',cap',e,_⟩:=h;simp at e;exact e.2.1
theorem Bs.head {k : IntKind} {w : World} {ao : Option Addr} {m cap n : Nat} {xs : List Int} (h : Bs k w (.slice ao m cap) xs) (hn : n ≤ m) : Bs k w (.slice ao n cap) (xs.take n):=by
 obtain ⟨ao',cap',e,hc,hr⟩:=h;simp at e;obtain ⟨rfl,rfl,rfl⟩:=e
 have hlen : (xs.take n).length = n:=by rw [List.length_take];omega
 refine ⟨_,cap,by rw [hlen],by omega,fun hne => ?_⟩;obtain ⟨b,off,rfl,hcell⟩:=hr (by intro h0;subst h0;simp at hne);refine ⟨b,off,rfl,fun j hj => ?_⟩;rw [hlen] at hj;rw [hcell j (by omega)]
 congr 2
 rw [List.getD_eq_getElem?_getD,List.getD_eq_getElem?_getD,List.getElem?_take,if_pos hj]
theorem Qal {w : World} {lo lo' : Nat} {E : TypeId} {size : Nat} {v : Value} {n : Nat} {xs : List Value} (h : w.ownsRow lo E size v n xs) (hl : lo' ≤ lo) : w.ownsRow lo' E size v n xs:=by
 refine ⟨h.1,?_⟩
 rcases h.2 with h | ⟨g,cap,cur,e,h,r⟩
 ·exact .inl h
 ·exact .inr ⟨g,cap,cur,e,by omega,r⟩
theorem Bs.lit (k : IntKind) (w : World) (E : TypeId) (xs : List Int) : Bs k (w.alloc (.cells (xs.map (Value.int k)).toArray E)) (.slice (some ⟨w.heap.size,0,none⟩) xs.length xs.length) xs:=by
 refine ⟨_,_,rfl,Nat.le_refl _,fun _ => ⟨w.heap.size,0,rfl,fun j hj => ?_⟩⟩;unfold World.cell?;simp only [heap_alloc_new];simp [List.getElem?_eq_getElem hj]
theorem Bs.litN (k : IntKind) (w : World) (E : TypeId) (xs : List Int) (N n : Nat) (hN : w.heap.size = N) (hn : xs.length = n) : Bs k (w.alloc (.cells (xs.map (Value.int k)).toArray E)) (.slice (some ⟨N,0,none⟩) n n) xs:=by
 subst hN hn;exact Bs.lit k w E xs
theorem Qac {P : Program} (w : World) {ops : Array Oper} {rest : List Oper} {o : Oper} {a : Act} {Q : Exit → Act → World → Prop} (hgd : o.guard = none) (s x : Operand) (t : TypeId)
  (ho : o.op = .call { callee:=.builtin .append,args:=#[s,x],argTypes:=#[t,t] })
  (base : Nat) (e : TypeId) (i : TypeInfo) (z : Value) (bytes : Nat) (ht : P.underlying t = some (.slice e)) (hi : P.info? e = some i) (hz : i.zero = some z)
  (hsize : i.size = 1) (hby : i.bytes = bytes) (hzs : z.cells.size = 1)
  (v : Value) (n : Nat) (xs : List Value) (hs : a.eval s = v) (hown : w.ownsRow base e 1 v n xs)
  (k : IntKind) (u : Value) (ys : List Int) (hx : a.eval x = u) (hb : Bs k w u ys) (hnc : NoCap u)
  (h63 : n + ys.length ≤ maxLen) (hbytes : (n + ys.length) * bytes ≤ 140737488355328) (hbase : base ≤ w.heap.size)
  (h : ∀ v' w',w'.ownsRow base e 1 v' (n + ys.length) (xs ++ ys.map (Value.int k)) → w.grownBy w' v.ownBlock → (v' = .slice none 0 0 ↔ v = .slice none 0 0 ∧ ys.length = 0) → (v'.ownBlock = v.ownBlock ∨ v'.ownBlock = some w.heap.size) → wpList P ops Q rest (a.put o.dst v') w') :
  wpList P ops Q (o :: rest) a w:=by
 obtain ⟨ao,cap,rfl⟩:=hb.len
 cases ao with
 | none =>
  have h0 : ys = []:=by
   obtain ⟨ao',cap',e1,_,hr⟩:=hb
   rcases ys with _ | ⟨y,ys⟩
   ·rfl
   ·obtain ⟨b,off,e2,_⟩:=hr (by simp)
    simp at e1;rw [← e1.1] at e2;cases e2
  subst h0;have hc : cap = 0:=hnc _ _ rfl;subst hc;refine wpList_append_own_none hgd s x t ho base e i 1 ht hi v n xs hs hown hx (h v w (by simpa using hown) ?_ (by simp) (.inl rfl));exact World.grownBy.refl _ _
 | some ad =>
  refine wpList_append_own_at w hgd s x t ho base e i z 1 bytes ht hi hz hsize hby hzs (by omega) v n xs hs hown ad ys.length cap (ys.map (Value.int k)) hx (by simp) hb.news (QaD _ _) h63 hbytes hbase h
theorem Only.same {a b c : World} (h : Only (fun _ => False) a b) (k : Only (fun _ => False) b c) : Only (fun _ => False) a c:=h.trans k (fun _ _ f => f)
theorem Bs.past {k : IntKind} {w w' : World} {v : Value} {xs : List Int} (h : Bs k w v xs) (o : Only (fun _ => False) w w') : Bs k w' v xs:=h.keep o (fun _ _ f => f)
def slen : Value → Nat
 | .slice _ n _ => n
 | _ => 0
theorem Bs.blk_lt {k : IntKind} {w : World} {v : Value} {xs : List Int} (h : Bs k w v xs) (hx : xs ≠ []) : ∀ j,v.ownBlock = some j → j < w.heap.size:=by
 obtain ⟨ao,cap,rfl,hc,hr⟩:=h;obtain ⟨b,off,rfl,hcell⟩:=hr hx;intro j hj;simp [Value.ownBlock] at hj;subst hj;exact World.block_lt_of_cell? w _ (hcell 0 (List.length_pos_iff.2 hx))
theorem Bs.formN {k : IntKind} {w : World} {v : Value} {xs : List Int} (h : Bs k w v xs) {n : Nat} (hn : xs.length = n) : ∃ ao cap,v = .slice ao n cap ∧ n ≤ cap:=by
 obtain ⟨ao,cap,e,hc,_⟩:=h;exact ⟨ao,cap,by rw [e,hn],by omega⟩
theorem Bs.nocap {k : IntKind} {w : World} {v : Value} {xs : List Int} (h : Bs k w v xs) (hx : xs ≠ []) : NoCap v:=by
 obtain ⟨ao,cap,rfl,_,hr⟩:=h;obtain ⟨b,off,rfl,_⟩:=hr hx;exact NoCap.some _ _ _
theorem Bs.room {k : IntKind} {w : World} {ao : Option Addr} {m cap : Nat} {xs : List Int} (h : Bs k w (.slice ao m cap) xs) : m ≤ cap:=by
 obtain ⟨ao',cap',e,hc,_⟩:=h;simp at e;obtain ⟨rfl,rfl,rfl⟩:=e;exact hc
theorem NoCap.cut {ao : Option Addr} {m cap : Nat} (h : NoCap (.slice ao m cap)) (m' : Nat) : NoCap (.slice ao m' cap):=fun _ _ e => by
 cases e;exact h _ _ rfl
theorem Tryz.infoU8 : (Tryz.prog.info? 5).map (fun i => (i.zero,i.size,i.bytes)) = some (some (.int .u8 0),1,1):=by kernel_rfl
def wid (v : Nat) : Nat:=if v = 0 then 0 else v.log2 + 1
theorem QaE (v n : Nat) : wid v ≤ n ↔ v < 2 ^ n:=by
 unfold wid
 by_cases h : v = 0
 ·subst h;simp [Nat.two_pow_pos]
 ·rw [if_neg h];rw [← Nat.log2_lt h];omega
theorem QjU {v n : Nat} (h : ∀ m,n ≤ m ↔ v < 2 ^ m) : wid v = n:=by
 have h1 : wid v ≤ n:=(QaE v n).2 ((h n).1 (Nat.le_refl _));have h2 : n ≤ wid v:=(h (wid v)).2 ((QaE v (wid v)).1 (Nat.le_refl _));omega
theorem QgP (v k : Nat) (h : 2 ^ k ≤ v) : wid v = wid (v / 2 ^ k) + k:=by
 refine QjU fun m => ?_
 by_cases hm : k ≤ m
 ·have e : 2 ^ m = 2 ^ (m - k) * 2 ^ k:=by rw [← Nat.pow_add];congr 1;omega
  rw [e,← Nat.div_lt_iff_lt_mul (Nat.two_pow_pos k),← QaE];omega
 ·have : 2 ^ m ≤ 2 ^ k:=Nat.pow_le_pow_right (by omega) (by omega)
  constructor
  ·intro hk;omega
  ·intro hk;omega
theorem Qil (v : Nat) (h : v < 18446744073709551616) : wid v ≤ 64:=(QaE v 64).2 (by simpa using h)
def Qdm : ByteArray:=⟨#[0,1,2,2,3,3,3,3,4,4,4,4,4,4,4,4,5,5,5,5,5,5,5,5,5,5,5,5,5,5,5,5,6,6,6,6,6,6,6,6,6,6,6,6,6,6,6,6,6,6,6,6,6,6,6,6,6,6,6,6,6,6,6,6,7,7,7,7,7,7,7,7,7,7,7,7,7,7,7,7,7,7,7,7,7,7,7,7,7,7,7,7,7,7,7,7,7,7,7,7,7,7,7,7,7,7,7,7,7,7,7,7,7,7,7,7,7,7,7,7,7,7,7,7,7,7,7,7,8,8,8,8,8,8,8,8,8,8,8,8,8,8,8,8,8,8,8,8,8,8,8,8,8,8,8,8,8,8,8,8,8,8,8,8,8,8,8,8,8,8,8,8,8,8,8,8,8,8,8,8,8,8,8,8,8,8,8,8,8,8,8,8,8,8,8,8,8,8,8,8,8,8,8,8,8,8,8,8,8,8,8,8,8,8,8,8,8,8,8,8,8,8,8,8,8,8,8,8,8,8,8,8,8,8,8,8,8,8,8,8,8,8,8,8,8,8,8,8,8,8,8,8,8,8,8,8]⟩
theorem QeN : ∀ k : Fin 256,(Qdm.data.toList.getD k.val 0).toNat = wid k.val:=by decide +kernel
theorem QfW (k : Nat) (h : k < 256) (hk : k < Qdm.size) : (Qdm[k]'hk).toNat = wid k:=by
 have:=QeN ⟨k,h⟩;simp only at this;rw [← this]
 congr 1
 show Qdm.data[k]'hk = _
 rw [List.getD_eq_getElem?_getD,List.getElem?_eq_getElem (by simpa using hk)];simp
theorem Qik (k : Nat) (h : k < 256) (hk : k < (⟨#[0,1,2,2,3,3,3,3,4,4,4,4,4,4,4,4,5,5,5,5,5,5,5,5,5,5,5,5,5,5,5,5,6,6,6,6,6,6,6,6,6,6,6,6,6,6,6,6,6,6,6,6,6,6,6,6,6,6,6,6,6,6,6,6,7,7,7,7,7,7,7,7,7,7,7,7,7,7,7,7,7,7,7,7,7,7,7,7,7,7,7,7,7,7,7,7,7,7,7,7,7,7,7,7,7,7,7,7,7,7,7,7,7,7,7,7,7,7,7,7,7,7,7,7,7,7,7,7,8,8,8,8,8,8,8,8,8,8,8,8,8,8,8,8,8,8,8,8,8,8,8,8,8,8,8,8,8,8,8,8,8,8,8,8,8,8,8,8,8,8,8,8,8,8,8,8,8,8,8,8,8,8,8,8,8,8,8,8,8,8,8,8,8,8,8,8,8,8,8,8,8,8,8,8,8,8,8,8,8,8,8,8,8,8,8,8,8,8,8,8,8,8,8,8,8,8,8,8,8,8,8,8,8,8,8,8,8,8,8,8,8,8,8,8,8,8,8,8,8,8,8,8,8,8,8,8]⟩ : ByteArray).size) : ((⟨#[0,1,2,2,3,3,3,3,4,4,4,4,4,4,4,4,5,5,5,5,5,5,5,5,5,5,5,5,5,5,5,5,6,6,6,6,6,6,6,6,6,6,6,6,6,6,6,6,6,6,6,6,6,6,6,6,6,6,6,6,6,6,6,6,7,7,7,7,7,7,7,7,7,7,7,7,7,7,7,7,7,7,7,7,7,7,7,7,7,7,7,7,7,7,7,7,7,7,7,7,7,7,7,7,7,7,7,7,7,7,7,7,7,7,7,7,7,7,7,7,7,7,7,7,7,7,7,7,8,8,8,8,8,8,8,8,8,8,8,8,8,8,8,8,8,8,8,8,8,8,8,8,8,8,8,8,8,8,8,8,8,8,8,8,8,8,8,8,8,8,8,8,8,8,8,8,8,8,8,8,8,8,8,8,8,8,8,8,8,8,8,8,8,8,8,8,8,8,8,8,8,8,8,8,8,8,8,8,8,8,8,8,8,8,8,8,8,8,8,8,8,8,8,8,8,8,8,8,8,8,8,8,8,8,8,8,8,8,8,8,8,8,8,8,8,8,8,8,8,8,8,8,8,8,8,8]⟩ : ByteArray)[k]'hk).toNat = wid k:=QfW k h hk
theorem Qbz (k : Nat) (h : k < 256) : wid k ≤ 8:=(QaE k 8).2 (by simpa using h)
theorem Qbq (v m : Int) (k : Nat) (hm : m = ((2 ^ k : Nat) : Int)) (h0 : 0 ≤ v) (h : m ≤ v) : wid v.toNat = wid (v / m).toNat + k:=by
 subst hm
 have e : (v / ((2 ^ k : Nat) : Int)).toNat = v.toNat / 2 ^ k:=by
  obtain ⟨n,rfl⟩:=Int.eq_ofNat_of_zero_le h0;rw [← Int.natCast_ediv];rfl
 rw [e];exact QgP _ _ (by omega)
theorem QcH (a : Int) (n : Nat) (ha : n ≤ 8) (h : 0 ≤ a) (h2 : a ≤ 56) : wrap64 (a + wrap64 n) = a + n:=by
 rw [IntWalk.wrap64_in (n : Int) (by omega),IntWalk.wrap64_in _ (by omega)]
theorem QjR (n : Nat) (ha : n ≤ 8) : wrap64 (wrap64 n) = n:=by
 rw [IntWalk.wrap64_in (n : Int) (by omega),IntWalk.wrap64_in _ (by omega)]
theorem QgN (v : Int) (w : World) (h0 : 0 ≤ v) (h1 : v ≤ 18446744073709551615) :
  Calls Tryz.prog 198 #[.int .u64 v] w fun e w' => e = .returned (.int .i64 (wid v.toNat)) ∧ w = w':=by
 go_enter Tryz.func198,Tryz.ntmps198;go_wp2
 all_goals go_ret
 all_goals refine ⟨Qbt ?_,rfl⟩
 all_goals rw [Qik _ (by omega)]
 ·rw [QcH _ _ (Qbz _ (by omega)) (by omega) (by omega),Qbq v 4294967296 32 rfl (by omega) (by omega),Qbq (v / 4294967296) 65536 16 rfl (by omega) (by omega),Qbq ((v / 4294967296) / 65536) 256 8 rfl (by omega) (by omega)];omega
 ·rw [QcH _ _ (Qbz _ (by omega)) (by omega) (by omega),Qbq v 4294967296 32 rfl (by omega) (by omega),Qbq (v / 4294967296) 65536 16 rfl (by omega) (by omega)];omega
 ·rw [QcH _ _ (Qbz _ (by omega)) (by omega) (by omega),Qbq v 4294967296 32 rfl (by omega) (by omega),Qbq (v / 4294967296) 256 8 rfl (by omega) (by omega)];omega
 ·rw [QcH _ _ (Qbz _ (by omega)) (by omega) (by omega),Qbq v 4294967296 32 rfl (by omega) (by omega)];omega
 ·rw [QcH _ _ (Qbz _ (by omega)) (by omega) (by omega),Qbq v 65536 16 rfl (by omega) (by omega),Qbq (v / 65536) 256 8 rfl (by omega) (by omega)];omega
 ·rw [QcH _ _ (Qbz _ (by omega)) (by omega) (by omega),Qbq v 65536 16 rfl (by omega) (by omega)];omega
 ·rw [QcH _ _ (Qbz _ (by omega)) (by omega) (by omega),Qbq v 256 8 rfl (by omega) (by omega)];omega
 ·exact QjR _ (Qbz _ (by omega))
def gsF : Nat → Nat → List Int
 | 0,v => [(v : Int)]
 | f + 1,v => if v < 128 then [(v : Int)] else ((v % 128 + 128 : Nat) : Int) :: gsF f (v / 128)
def gs (v : Nat) : List Int:=gsF v v
theorem Qi6 (f : Nat) : ∀ (g v : Nat),v ≤ f → v ≤ g → gsF f v = gsF g v:=by
 induction f with
 | zero =>
  intro g v h _
  obtain rfl : v = 0:=by omega
  cases g with
  | zero => rfl
  | succ g => simp [gsF]
 | succ f ih =>
  intro g v h h2
  cases g with
  | zero =>
   obtain rfl : v = 0:=by omega
   simp [gsF]
  | succ g =>
   simp only [gsF]
   by_cases hv : v < 128
   ·rw [if_pos hv,if_pos hv]
   ·rw [if_neg hv,if_neg hv,ih g (v / 128) (by omega) (by omega)]
theorem QaO {v : Nat} (h : v < 128) : gs v = [(v : Int)]:=by
 unfold gs
 cases v with
 | zero => rfl
 | succ v => rw [gsF,if_pos h]
theorem Qcl {v : Nat} (h : 128 ≤ v) : gs v = ((v % 128 + 128 : Nat) : Int) :: gs (v / 128):=by
 unfold gs;obtain ⟨u,rfl⟩ : ∃ u,v = u + 1:=⟨v - 1,by omega⟩;rw [gsF,if_neg (by omega),Qi6 u ((u + 1) / 128) ((u + 1) / 128) (by omega) (Nat.le_refl _)]
theorem QfG (v : Nat) : 0 < (gs v).length:=by
 rcases Nat.lt_or_ge v 128 with h | h
 ·rw [QaO h];simp
 ·rw [Qcl h];simp
theorem Qk6 (v : Nat) : (gs v).length = (max (wid v) 1 + 6) / 7:=by
 induction v using Nat.strongRecOn with
 | _ v ih =>
  rcases Nat.lt_or_ge v 128 with h | h
  ·rw [QaO h]
   have : wid v ≤ 7:=(QaE v 7).2 (by simpa using h);simp;omega
  ·rw [Qcl h,List.length_cons,ih (v / 128) (by omega)]
   have h1:=QgP v 7 (by simpa using h);rw [show (2 : Nat) ^ 7 = 128 from rfl] at h1
   have h2 : 0 < wid (v / 128):=by
    rcases Nat.eq_zero_or_pos (wid (v / 128)) with h0 | h0
    ·have:=(QaE (v / 128) 0).1 (by omega)
     simp at this;omega
    ·exact h0
   omega
theorem Qa5 {v : Nat} (h : v < 18446744073709551616) : (gs v).length ≤ 10:=by
 have:=Qil v h;rw [Qk6];omega
theorem Qcp (v : Nat) : ∀ x ∈ gs v,0 ≤ x ∧ x ≤ 255:=by
 induction v using Nat.strongRecOn with
 | _ v ih =>
  rcases Nat.lt_or_ge v 128 with h | h
  ·rw [QaO h]
   intro x hx;simp at hx;omega
  ·rw [Qcl h]
   intro x hx
   rcases List.mem_cons.1 hx with hx | hx
   ·omega
   ·exact ih (v / 128) (by omega) x hx
def rd (i : Nat) (acc : Int) : List Int → Int × Int × Int
 | [] => (0,0,2)
 | c :: t => if i = 9 ∧ 1 < c then (0,0,3) else if 128 ≤ c then rd (i + 1) (acc + c % 128 * 128 ^ i) t else if c = 0 ∧ 0 < i then (0,0,3) else (acc + c * 128 ^ i,(i : Int) + 1,0)
theorem QjC (i : Nat) (acc : Int) : rd i acc [] = (0,0,2):=rfl
theorem Qcd (i : Nat) (acc c : Int) (t : List Int) : rd i acc (c :: t) = if i = 9 ∧ 1 < c then (0,0,3) else if 128 ≤ c then rd (i + 1) (acc + c % 128 * 128 ^ i) t else if c = 0 ∧ 0 < i then (0,0,3) else (acc + c * 128 ^ i,(i : Int) + 1,0):=rfl
theorem Qeu {i v : Nat} (hi : i ≤ 9) (hv : v < 2 ^ (64 - 7 * i)) (h : 128 ≤ v) : i ≤ 8 ∧ v / 128 < 2 ^ (64 - 7 * (i + 1)):=by
 have hi8 : i ≤ 8:=by
  rcases Nat.lt_or_ge i 9 with h9 | h9
  ·omega
  ·have : i = 9:=by omega
   subst this;simp at hv;omega
 refine ⟨hi8,?_⟩
 have e : 2 ^ (64 - 7 * i) = 2 ^ (64 - 7 * (i + 1)) * 128:=by
  rw [show 64 - 7 * i = 64 - 7 * (i + 1) + 7 by omega,Nat.pow_add]
 omega
theorem rd_gs (t : List Int) (v : Nat) : ∀ (i : Nat) (acc : Int),i ≤ 9 → v < 2 ^ (64 - 7 * i) → (0 < i → 0 < v) → rd i acc (gs v ++ t) = (acc + v * 128 ^ i,(i : Int) + (gs v).length,0):=by
 induction v using Nat.strongRecOn with
 | _ v ih =>
  intro i acc hi hv h0
  rcases Nat.lt_or_ge v 128 with h | h
  ·rw [QaO h,List.singleton_append,Qcd,if_neg,if_neg (by omega),if_neg]
   ·rfl
   ·intro hc;have:=h0 hc.2;omega
   ·rintro ⟨rfl,hc⟩
    simp at hv;omega
  ·obtain ⟨hi8,hlt⟩:=Qeu hi hv h
   rw [Qcl h,List.cons_append,Qcd,if_neg (by omega),if_pos (by omega),ih (v / 128) (by omega) (i + 1) _ (by omega) hlt (by omega)];refine Prod.ext ?_ (Prod.ext ?_ rfl)
   ·simp only
    rw [Int.pow_succ]
    have e : (((v % 128 + 128 : Nat) : Int)) % 128 = ((v % 128 : Nat) : Int):=by omega
    have e2 : (v : Int) = ((v % 128 : Nat) : Int) + 128 * ((v / 128 : Nat) : Int):=by omega
    rw [e];generalize (128 : Int) ^ i = p;generalize ((v % 128 : Nat) : Int) = a at e2 ⊢;generalize ((v / 128 : Nat) : Int) = b at e2 ⊢;rw [e2,Int.add_mul,Int.mul_comm p 128,← Int.mul_assoc,Int.mul_comm b 128,Int.add_assoc]
   ·simp only [List.length_cons]
    omega
theorem Qi7 (v : Nat) : ∀ (i k : Nat) (acc : Int),i ≤ 9 → v < 2 ^ (64 - 7 * i) → k < (gs v).length → rd i acc ((gs v).take k) = (0,0,2):=by
 induction v using Nat.strongRecOn with
 | _ v ih =>
  intro i k acc hi hv hk
  rcases Nat.lt_or_ge v 128 with h | h
  ·rw [QaO h] at hk ⊢
   simp at hk;subst hk
   rfl
  ·obtain ⟨hi8,hlt⟩:=Qeu hi hv h
   rw [Qcl h] at hk ⊢
   cases k with
   | zero => rfl
   | succ k =>
    rw [List.take_succ_cons,Qcd,if_neg (by omega),if_pos (by omega),ih (v / 128) (by omega) (i + 1) k _ (by omega) hlt (by simpa using hk)]
theorem rd_ok (xs : List Int) : ∀ (i : Nat) (acc r n : Int),i ≤ 9 → (∀ x ∈ xs,0 ≤ x ∧ x ≤ 255) → rd i acc xs = (r,n,0) →
  ∃ v k : Nat,r = acc + v * 128 ^ i ∧ n = (i : Int) + k ∧ 1 ≤ k ∧ k ≤ xs.length ∧ gs v = xs.take k ∧ (0 < i → 0 < v) ∧ v < 2 ^ (64 - 7 * i):=by
 induction xs with
 | nil => intro i acc r n _ _ h;simp [QjC] at h
 | cons c t ih =>
  intro i acc r n hi hx h;have hc:=hx c (by simp);rw [Qcd] at h
  by_cases h1 : i = 9 ∧ 1 < c
  ·rw [if_pos h1] at h;simp at h
  ·rw [if_neg h1] at h
   by_cases h2 : 128 ≤ c
   ·rw [if_pos h2] at h
    have hi8 : i + 1 ≤ 9:=by omega
    obtain ⟨v,k,hr,hn,hk1,hk2,hg,hv0,hv⟩:=ih (i + 1) _ r n hi8 (fun x hx' => hx x (by simp [hx'])) h;have hvp:=hv0 (by omega);refine ⟨c.toNat % 128 + 128 * v,k + 1,?_,by omega,by omega,by simp;omega,?_,fun _ => by omega,?_⟩
    ·rw [hr,Int.pow_succ]
     have e : ((c.toNat % 128 + 128 * v : Nat) : Int) = c % 128 + 128 * (v : Int):=by omega
     rw [e];generalize (128 : Int) ^ i = p;rw [Int.add_mul,Int.mul_comm p 128,← Int.mul_assoc,Int.mul_comm (v : Int) 128,Int.add_assoc]
    ·rw [Qcl (by omega),List.take_succ_cons,← hg]
     congr 1
     ·omega
     ·congr 1;omega
    ·have e : 2 ^ (64 - 7 * i) = 2 ^ (64 - 7 * (i + 1)) * 128:=by
      rw [show 64 - 7 * i = 64 - 7 * (i + 1) + 7 by omega,Nat.pow_add]
     omega
   ·rw [if_neg h2] at h
    by_cases h3 : c = 0 ∧ 0 < i
    ·rw [if_pos h3] at h;simp at h
    ·rw [if_neg h3] at h
     simp only [Prod.mk.injEq] at h;refine ⟨c.toNat,1,?_,by omega,by omega,by simp,?_,fun _ => by omega,?_⟩
     ·rw [← h.1,Int.toNat_of_nonneg hc.1]
     ·rw [QaO (by omega)]
      simp [Int.toNat_of_nonneg hc.1]
     ·by_cases h9 : i = 9
      ·subst h9;simp;omega
      ·have : 2 ^ 7 ≤ 2 ^ (64 - 7 * i):=Nat.pow_le_pow_right (by omega) (by omega)
       have : (2 : Nat) ^ 7 = 128:=rfl;omega
theorem Qk7 (xs : List Int) : ∀ (i : Nat) (acc : Int),(rd i acc xs).2.2 = 0 ∨ ((rd i acc xs).1 = 0 ∧ (rd i acc xs).2.1 = 0 ∧ ((rd i acc xs).2.2 = 2 ∨ (rd i acc xs).2.2 = 3)):=by
 induction xs with
 | nil => intro i acc;right;simp [QjC]
 | cons c t ih =>
  intro i acc;rw [Qcd]
  by_cases h1 : i = 9 ∧ 1 < c
  ·rw [if_pos h1];right;simp
  ·rw [if_neg h1]
   by_cases h2 : 128 ≤ c
   ·rw [if_pos h2];exact ih _ _
   ·rw [if_neg h2]
    by_cases h3 : c = 0 ∧ 0 < i
    ·rw [if_pos h3];right;simp
    ·rw [if_neg h3];left;rfl
def allG (l : List Int) : List Int:=l.flatMap fun x => gs x.toNat
def zig (n : Int) : Int:=if 0 ≤ n then 2 * n else -2 * n - 1
def zag (v : Int) : Int:=if v % 2 = 0 then v / 2 else -(v / 2) - 1
theorem and7 (x : Nat) (h : x < 18446744073709551616) : bits .and .u64 (x : Int) 127 = ((x % 128 : Nat) : Int):=by
 rw [show (127 : Int) = ((127 : Nat) : Int) from rfl,u64_and_nat _ _ h (by omega),nat_mask7]
theorem Qgd (v : Int) (w : World) (h0 : 0 ≤ v) (h1 : v ≤ 18446744073709551615) :
  Calls Tryz.prog 204 #[.int .u64 v] w fun e w' => ∃ v',e = .returned v' ∧ w'.ownsRow w.heap.size 5 1 v' (gs v.toNat).length ((gs v.toNat).map (Value.int .u8)) ∧ Only (fun _ => False) w w':=by
 obtain ⟨i0,hi,hz0,hz1,hz2⟩:=info_parts Tryz.infoU8
 have hmk : ∀ w,(Instr.makeSlice 22 (.int .i64 0) (.int .i64 10)).run Tryz.prog w = .ok (.slice (some ⟨w.heap.size,0,none⟩) 0 10) (w.alloc (.cells #[.int .u8 0,.int .u8 0,.int .u8 0,.int .u8 0,.int .u8 0,.int .u8 0,.int .u8 0,.int .u8 0,.int .u8 0,.int .u8 0] 5)):=fun _ => by kernel_rfl
 have START : Hid ((w.alloc (.cells #[.int .u8 0,.int .u8 0,.int .u8 0,.int .u8 0,.int .u8 0,.int .u8 0,.int .u8 0,.int .u8 0,.int .u8 0,.int .u8 0] 5)).ownsRow w.heap.size 5 1 (.slice (some ⟨w.heap.size,0,none⟩) 0 10) 0 []) :=
  World.ownsRow_made w _ 10 (Nat.le_refl _) (by unfold maxLen;omega) rfl
 have H10:=Qaa (Qa5 (v:=v.toNat) (by omega));go_enter Tryz.func204,Tryz.ntmps204;go_wp2
 go_loopw [0,3] (fun a o wr => ∃ (x k : Nat) (p : List Int),a = .int .u64 x ∧ x < 18446744073709551616 ∧ p ++ gs x = gs v.toNat ∧ k = p.length ∧ wr.ownsRow w.heap.size 5 1 o k (p.map (Value.int .u8)) ∧ Below w.heap.size w wr) (fun a _ _ => (intOf a).toNat)
 case atStart => exact ⟨v.toNat,0,[],by rw [Int.toNat_of_nonneg h0],by omega,rfl,rfl,START.out,(Below.refl _ _).alloc (Nat.le_refl _) _⟩
 case round =>
  obtain ⟨x,k,p,rfl,hx,hp,hk,hown,hbel⟩:=hrel
  have hk9 : k ≤ 9:=by
   have h:=congrArg List.length hp;have:=H10.out;have:=QfG x;rw [List.length_append] at h;omega
  have HP:=Qaa hp;have HK:=Qaa hk;have hsz:=hbel.size;clear hp hk START
  by_cases hlt : 127 < x
  ·have hlt' : decide (127 < (x : Int)) = true:=by simp;omega
   have B7:=and7 x hx;obtain ⟨r,hr⟩ : ∃ r : Nat,r = x % 128:=⟨_,rfl⟩
   have hr1 : r < 128:=by omega
   rw [← hr] at B7;have HR:=Qaa hr;clear hr;go_wp2_with (at_builtin;refine wpList_append_lies _ rfl _ _ _ rfl w.heap.size 5 i0 (.int .u8 0) 1 1 Tryz.underlying22 hi hz0 hz1 hz2 rfl (by omega) _ k (p.map (Value.int .u8)) rfl (hown.alloc _) ⟨wr.heap.size,0,none⟩ 1 1 [.int .u8 ((r : Int) + 128)] rfl rfl ?c1 ?c2 (by omega) ?c3 ?c4 ?c5 (wr.heap.size + 1) (by simp) ?_)
   case c1 => exact cell_one_new _ _ _
   case c2 => intro u hu;simp at hu;subst hu;rfl
   case c3 => unfold maxLen;omega
   case c4 => omega
   case c5 => simp;omega
   intro g cap1 w1 hown1 hgrow hat hg1;have hb1 : Below w.heap.size w w1:=(hbel.alloc hbel.size _).grown hgrow (by simp;omega) (fun q hq => (hown.lt q hq).1)
   have hown2 : w1.ownsRow w.heap.size 5 1 (.slice (some ⟨g,0,none⟩) (k + 1) cap1) (k + 1) ((p ++ [(r : Int) + 128]).map (Value.int .u8)):=by
    rw [List.map_append];exact hown1
   clear hown hown1 hgrow hat hbel;go_wp2
   go_roundw
   case rel =>
    refine ⟨x / 128,k + 1,p ++ [(r : Int) + 128],by go_num,by omega,?_,by rw [List.length_append,← HK.out];rfl,hown2,hb1⟩;rw [← HP.out,Qcl (v:=x) (by omega),← HR.out];simp
   case measure => simp [intOf];omega
  ·have hlt' : decide (127 < (x : Int)) = false:=by simp;omega
   go_wp2_with (at_builtin;refine wpList_append_lies _ rfl _ _ _ rfl w.heap.size 5 i0 (.int .u8 0) 1 1 Tryz.underlying22 hi hz0 hz1 hz2 rfl (by omega) _ k (p.map (Value.int .u8)) rfl (hown.alloc _) ⟨wr.heap.size,0,none⟩ 1 1 [.int .u8 (x : Int)] rfl rfl ?c1 ?c2 (by omega) ?c3 ?c4 ?c5 (wr.heap.size + 1) (by simp) ?_)
   case c1 => exact cell_one_new _ _ _
   case c2 => intro u hu;simp at hu;subst hu;rfl
   case c3 => unfold maxLen;omega
   case c4 => omega
   case c5 => simp;omega
   intro g cap1 w1 hown1 hgrow hat hg1;have hb1 : Below w.heap.size w w1:=(hbel.alloc hbel.size _).grown hgrow (by simp;omega) (fun q hq => (hown.lt q hq).1)
   have hown2 : Hid (w1.ownsRow w.heap.size 5 1 (.slice (some ⟨g,0,none⟩) (k + 1) cap1) (gs v.toNat).length ((gs v.toNat).map (Value.int .u8))):=by
    rw [← HP.out,QaO (v:=x) (by omega),List.length_append,← HK.out,List.map_append];exact hown1
   have hb2:=Qaa hb1;clear hown hown1 hgrow hat hbel hb1;go_wp2;go_ret;exact ⟨_,rfl,hown2.out,QaW hb2.out⟩
end Go.Proofs.YtcpopagikbjimaaGreatDoor
