import Derived.Test.YtcpopagikbjimaaGreatDoorG8
import Derived.Deep.CutRange
import Derived.Test.YtcpopagikbjimaaGreatDoorG20
namespace Go.Proofs.YtcpopagikbjimaaGreatDoor
set_option maxHeartbeats 4000000
set_option maxRecDepth 100000
open Go.RowKit
structure Q4 where
 a : Nat
 b : Nat
 c : Nat
 d : Nat
def half (q : Q4) (m1 m2 : Nat) : Q4 :=
 let a:=(q.a + q.b) % 4294967296
 let d:=rotw (q.d ^^^ a) m1
 let c:=(q.c + d) % 4294967296
 let b:=rotw (q.b ^^^ c) m2
 ⟨a,b,c,d⟩
def qrt (q : Q4) : Q4:=half (half q 16 20) 24 25
theorem Qcs (x n : Nat) (hx : x < 4294967296) : rotw x n < 4294967296:=by
 unfold rotw;exact Nat.or_lt_two_pow (n:=32) (Nat.lt_of_le_of_lt (Nat.div_le_self _ _) hx) (Nat.mod_lt _ (by decide))
def nv : List Int → Nat
 | [] => 0
 | d :: l => d.toNat + 256 * nv l
def piece (xs : List Int) (k : Nat) : Nat:=nv ((xs.drop (16 * k)).take 16) + 256 ^ (min 16 (xs.length - 16 * k))
def flN (n : Nat) : Nat:=(16 - n % 16) % 16
def fl (b : List Int) : List Int:=b ++ List.replicate (flN b.length) 0
abbrev CHK:=List Int × List (Int × Int)
abbrev NCH : CHK:=([],[])
def RTF (l : List (List Int)) : List Int:=TOP (l.map LEAF)
theorem Qgf (l : List (List Int)) : (RTF l).length = 32:=by
 unfold RTF
 rcases l with _ | ⟨a,_ | ⟨b,t⟩⟩
 ·exact Qan _
 ·rw [QgY (by simp)];exact Qdr _
 ·exact Qj5 (by simp)
abbrev STT:=Nat × List Int
theorem Qgg (l : List (List Int)) : R8 (l.map LEAF):=fun x hx => by
 obtain ⟨a,_,rfl⟩:=List.mem_map.1 hx;exact ⟨QgW _,by rw [Qdr];omega⟩
theorem QkB (l : List (List Int)) : U8 (RTF l):=(Qd4 (Qgg l)).1
def CUT : List (List Int × Int) → List Int → Option (List (List Int) × List Int)
 | [],r => some ([],r)
 | e :: es,r => if r.length < (SZV e.2).toNat + 16 then none else
  match CUT es (r.drop ((SZV e.2).toNat + 16)) with
  | none => none
  | some x => some (r.take ((SZV e.2).toNat + 16) :: x.1,x.2)
theorem Qe5 : ∀ (es : List (List Int × Int)) (ls : List (List Int)) (t : List Int),es.length = ls.length → (∀ j,j < es.length → (ls.getD j []).length = (SZV (es.getD j ([],0)).2).toNat + 16) → CUT es (ls.flatten ++ t) = some (ls,t)
 | [],[],t,_,_ => rfl
 | [],_ :: _,_,h,_ => by simp at h
 | _ :: _,[],_,h,_ => by simp at h
 | e :: es,a :: ls,t,h,hj => by
  have h0 : a.length = (SZV e.2).toNat + 16:=by simpa using hj 0 (by simp)
  rw [CUT,if_neg (by simp only [List.flatten_cons,List.append_assoc,List.length_append];omega),List.flatten_cons,List.append_assoc,List.drop_append_of_le_length (by omega),List.take_append_of_le_length (by omega)];rw [← h0,List.drop_length,List.take_length,List.nil_append,Qe5 es ls t (by simpa using h) (fun j hj' => by simpa using hj (j + 1) (by simpa using hj'))]
def SPX (b : List Int) : Except Int (MAN × List Int × List (List Int)) :=
 if (Qae 268435456 b).2.2 ≠ 0 then .error (Qae 268435456 b).2.2
 else if (Qae 268435456 b).1.length < 32 then .error 2
 else match MDEC ((Qae 268435456 b).1.take ((Qae 268435456 b).1.length - 32)) with
  | .error e => .error e
  | .ok m => match CUT m.es (b.drop (Qae 268435456 b).2.1) with
   | none => .error 2
   | some x => if x.2 = [] then .ok (m,(Qae 268435456 b).1,x.1) else .error 3
theorem QfJ {n : Nat} {x t : List Int} (hx : x.length ≤ n) (hn : n < 18446744073709551616) : Qae n (blk x ++ t) = (x,(blk x).length,0):=by
 unfold Qae blk;have hg:=QbD x.length (x ++ t) (by omega);rw [List.append_assoc,hg,if_neg (by omega),if_neg (by simp),if_neg (by simp only;omega),if_neg (by simp only [List.length_append];omega)];simp only [Prod.mk.injEq,and_true];refine ⟨?_,?_⟩
 ·rw [List.drop_left,show ((x.length : Int)).toNat = x.length by omega,List.take_left]
 ·rw [List.length_append];omega
theorem QhN {m : MAN} {tg : List Int} {ls : List (List Int)} (g : MGD m) (ht : tg.length = 32) (hn : (MENC m).length + 32 ≤ 268435456) (he : m.es.length = ls.length) (hj : ∀ j,j < m.es.length → (ls.getD j []).length = (SZV (m.es.getD j ([],0)).2).toNat + 16) :
  SPX (blk (MENC m ++ tg) ++ ls.flatten) = .ok (m,MENC m ++ tg,ls):=by
 have hl : (MENC m ++ tg).length = (MENC m).length + 32:=by rw [List.length_append,ht]
 have hb:=QfJ (n:=268435456) (x:=MENC m ++ tg) (t:=ls.flatten) (by omega) (by omega);have hc:=Qe5 m.es ls [] he hj;rw [List.append_nil] at hc;unfold SPX;rw [show ((268435456 : Nat) : Int) = 268435456 from rfl] at hb;rw [hb,if_neg (by simp),if_neg (by simp only;omega)];simp only;rw [hl,Nat.add_sub_cancel,List.take_left,Qd3 g,List.drop_left];simp only;rw [hc]
 rfl
theorem Qdu (a b : Nat) : IntKind.u32.wrap ((a : Int) + (b : Int)) = (((a + b) % 4294967296 : Nat) : Int):=by
 rw [IntKind.wrap_u32'];omega
structure Steps (a b c d a1 x1 d1 c1 x2 b1 a2 x3 d2 c2 x4 b2 : Nat) : Prop where
 s1 : IntKind.u32.wrap ((a : Int) + (b : Int)) = (a1 : Int)
 s2 : bits .xor .u32 (d : Int) (a1 : Int) = (x1 : Int)
 s3 : d1 = rotw x1 16
 s4 : IntKind.u32.wrap ((c : Int) + (d1 : Int)) = (c1 : Int)
 s5 : bits .xor .u32 (b : Int) (c1 : Int) = (x2 : Int)
 s6 : b1 = rotw x2 20
 s7 : IntKind.u32.wrap ((a1 : Int) + (b1 : Int)) = (a2 : Int)
 s8 : bits .xor .u32 (d1 : Int) (a2 : Int) = (x3 : Int)
 s9 : d2 = rotw x3 24
 s10 : IntKind.u32.wrap ((c1 : Int) + (d2 : Int)) = (c2 : Int)
 s11 : bits .xor .u32 (b1 : Int) (c2 : Int) = (x4 : Int)
 s12 : b2 = rotw x4 25
 l1 : x1 < 4294967296
 l2 : x2 < 4294967296
 l3 : x3 < 4294967296
 l4 : x4 < 4294967296
 q : qrt ⟨a,b,c,d⟩ = ⟨a2,b2,c2,d2⟩
theorem steps (a b c d : Nat) (_ha : a < 4294967296) (hb : b < 4294967296) (_hc : c < 4294967296) (hd : d < 4294967296) : ∃ a1 x1 d1 c1 x2 b1 a2 x3 d2 c2 x4 b2,Steps a b c d a1 x1 d1 c1 x2 b1 a2 x3 d2 c2 x4 b2:=by
 have la : (a + b) % 4294967296 < 4294967296:=Nat.mod_lt _ (by decide);have l1:=Qb5 hd la;have ld:=Qcs _ 16 l1;have lc : (c + rotw (d ^^^ ((a + b) % 4294967296)) 16) % 4294967296 < 4294967296:=Nat.mod_lt _ (by decide);have l2:=Qb5 hb lc;have lb:=Qcs _ 20 l2;have la2 : ((a + b) % 4294967296 + rotw (b ^^^ ((c + rotw (d ^^^ ((a + b) % 4294967296)) 16) % 4294967296)) 20) % 4294967296 < 4294967296:=Nat.mod_lt _ (by decide);have l3:=Qb5 ld la2;have ld2:=Qcs _ 24 l3;have lc2 : ((c + rotw (d ^^^ ((a + b) % 4294967296)) 16) % 4294967296 + rotw (rotw (d ^^^ ((a + b) % 4294967296)) 16 ^^^ (((a + b) % 4294967296 + rotw (b ^^^ ((c + rotw (d ^^^ ((a + b) % 4294967296)) 16) % 4294967296)) 20) % 4294967296)) 24) % 4294967296 < 4294967296:=Nat.mod_lt _ (by decide);have l4:=Qb5 lb lc2;exact ⟨_,_,_,_,_,_,_,_,_,_,_,_,Qdu _ _,u32_xor_nat _ _ hd la,rfl,Qdu _ _,u32_xor_nat _ _ hb lc,rfl,Qdu _ _,u32_xor_nat _ _ ld la2,rfl,Qdu _ _,u32_xor_nat _ _ lb lc2,rfl,l1,l2,l3,l4,rfl⟩
abbrev KN (key nonce : List Int) : Prop:=key.length = 32 ∧ nonce.length = 12
theorem QhD (w : World) (n : Nat) (hn : n ≤ 1000000000000) : ∃ wm,(Instr.makeSlice 22 (.int .i64 (n : Int)) (.int .i64 (n : Int))).run Tryz.prog w = .ok (.slice (some ⟨w.heap.size,0,none⟩) n n) wm ∧ Blk wm w.heap.size 5 (bl (List.replicate n 0)) ∧ Only (fun _ => False) w wm:=by
 obtain ⟨i0,hi,hz0,hz1,hz2⟩:=info_parts Tryz.infoU8;obtain ⟨wm,hmk,hown,hgr⟩:=run_make_full (P:=Tryz.prog) w w.heap.size 22 5 i0 (.int .u8 0) 1 Tryz.underlying22 hi hz0 hz1 .i64 .i64 n (by rw [hz2];omega) (by unfold maxLen;omega) (Nat.le_refl _);refine ⟨wm,hmk,?_,(Only.refl _ _).grown hgr (fun k _ e => by cases e)⟩
 rcases hown.2 with ⟨h',_⟩ | ⟨g',cap',cur,h',_,hg,_,_,hcs,ht⟩
 ·simp at h'
 ·simp only [Value.slice.injEq,Option.some.injEq,Addr.mk.injEq,and_true,true_and] at h'
  obtain ⟨rfl,rfl⟩:=h'
  have e1 : cur = (bl (List.replicate n 0)).toArray:=by
   apply Array.toList_inj.1
   rw [List.take_of_length_le (by simp;omega)] at ht;rw [ht,Nat.mul_one,show (Value.int .u8 0).cells = #[.int .u8 0] from rfl,toList_madeCells_one];simp [bl]
  rw [e1] at hg;exact hg
theorem Qi1 (wm : World) (G n bc : Nat) (co : Option Addr) (xs : List Int) (hn : xs.length = n) (hb : Blk wm G 5 (bl (List.replicate n 0))) (hs : 0 < n → ∃ ad,co = some ad ∧ ∀ j v,(bl xs)[j]? = some v → wm.cell? (ad.add j) = some v) :
  ∃ w2,(Builtin.copy_ #[22,22] 3 #[.slice (some ⟨G,0,none⟩) n n,.slice co n bc]).run Tryz.prog wm = .ok (.int .i64 (n : Int)) w2 ∧ Blk w2 G 5 (bl xs) ∧ Only (fun k => k = G) wm w2:=by
 by_cases h0 : n = 0
 ·subst h0
  have hx : xs = []:=List.eq_nil_of_length_eq_zero hn;subst hx;exact ⟨wm,run_copy_none (P:=Tryz.prog) wm 22 22 3 5 _ _ 0 0 0 bc Tryz.underlying22 Tryz.one5 rfl,hb,Only.refl _ _⟩
 ·obtain ⟨ad,rfl,hsrc⟩:=hs (by omega)
  have hl : (bl xs).length = n:=by rw [Qah,hn]
  have hrun:=run_copy_row (P:=Tryz.prog) wm 22 22 3 5 G 0 n n ad n bc (bl (List.replicate n 0)).toArray 5 (bl xs) Tryz.underlying22 Tryz.one5 hb (by rw [hl];exact (Nat.min_self n).symm) hsrc (by simp [Qah,hn]) (Qcf xs)
  have e : (bl (List.replicate n 0)).toArray.toList.take 0 ++ bl xs ++ (bl (List.replicate n 0)).toArray.toList.drop (0 + (bl xs).length) = bl xs:=by
   rw [List.take_zero,List.nil_append,List.drop_of_length_le (by simp [Qah,hn]),List.append_nil]
  rw [e,hl] at hrun;exact ⟨_,hrun,hb.row (bl xs),(Only.refl (fun k => k = G) wm).setRow (fun _ => rfl) _⟩
def LV : List Nat → Nat
 | [] => 0
 | x :: l => x + 67108864 * LV l
def ul (s : List Nat) : List Value:=s.map fun x => Value.int .u64 ((x : Nat) : Int)
theorem wrap64 (n : Nat) (h : n < 18446744073709551616) : IntKind.u64.wrap (n : Int) = (n : Int):=by rw [IntKind.wrap_u64];omega
def c1 (xs : List Int) : Nat → List Int
 | 0 => xs
 | j + 1 => (c1 xs j).set (4 * j + 3) ((c1 xs j).getD (4 * j + 3) 0 % 16)
def c2 (xs : List Int) : Nat → List Int
 | 0 => c1 xs 4
 | j + 1 => (c2 xs j).set (4 * j + 4) ((c2 xs j).getD (4 * j + 4) 0 - (c2 xs j).getD (4 * j + 4) 0 % 4)
def i4 : List Value:=[.int .i64 3,.int .i64 7,.int .i64 11,.int .i64 15]
def i3 : List Value:=[.int .i64 4,.int .i64 8,.int .i64 12]
def ME (key : List Int) : Int:=if key.length = 32 then 0 else 1
theorem Qas {W : World} {B : Nat} {x y : Value} {T : TypeId} (h : W.heap[B]? = some (.cells #[x,y] T (0,0))) : W.cell? ⟨B,0,none⟩ = some x ∧ W.cell? ⟨B,1,none⟩ = some y ∧ W.frozen? ⟨B,0,none⟩ = false ∧ W.frozen? ⟨B,1,none⟩ = false :=
 ⟨by simp [World.cell?,h],by simp [World.cell?,h],by simp [World.frozen?,h],by simp [World.frozen?,h]⟩
theorem Tryz.sizeStt : (Tryz.prog.info? 28).map (·.size) = some 2:=by kernel_rfl
theorem Qcm {W : World} {b : Nat} {x y : Value} (h : W.heap[b]? = some (.cells #[x,y] 28 (0,0))) : (loadVar 28 ⟨b,0,none⟩).run Tryz.prog W = .ok (.agg #[x,y]) W :=
 run_loadVar_row W b 28 28 _ (0,0) _ h Tryz.underlying28 rfl Tryz.sizeStt
theorem QcU (x : Value) (ao : Option Addr) (n c : Nat) (w : World) :
  Calls Tryz.prog 41 #[.agg #[x,.slice ao n c]] w fun e w' => e = .returned (.bool (decide (0 < n))) ∧ Only (fun _ => False) w w':=by
 have O:=Qaa ((Only.refl (fun _ => False) w).alloc (.cells #[x,.slice ao n c] 28))
 have e : decide ((0 : Int) < (n : Int)) = decide (0 < n):=by simp
 go_enter Tryz.func41,Tryz.ntmps41;go_wp2;go_ret;exact ⟨by simp,O.out⟩
theorem QdC (x : Value) (ao : Option Addr) (n c : Nat) (w : World) :
  Calls Tryz.prog 22 #[.agg #[x,.slice ao n c]] w fun e w' => e = .returned (.bool (decide (n = 0 ∨ n = 32))) ∧ Only (fun _ => False) w w':=by
 have G0:=Qaa (heap_alloc_new w (.cells #[x,.slice ao n c] 28));have O:=Qaa ((Only.refl (fun _ => False) w).alloc (.cells #[x,.slice ao n c] 28));have A:=Qaa (QcU x ao n c (w.alloc (.cells #[x,.slice ao n c] 28)))
 by_cases h : 0 < n
 ·rw [decide_eq_true h] at A
  have e : decide (n = 0 ∨ n = 32) = ((n : Int) == 32):=by
   by_cases q : n = 32
   ·subst q;rfl
   ·rw [decide_eq_false (by omega)];symm;rw [beq_eq_false_iff_ne];omega
  rw [e];obtain ⟨b,hb⟩ : ∃ b,b = ((n : Int) == 32):=⟨_,rfl⟩;rw [← hb];have HB:=Qaa hb.symm;clear h e hb;go_enter Tryz.func22,Tryz.ntmps22;go_wp2_with fail;refine A.out.mono ?_;rintro e w1 ⟨rfl,o1⟩;obtain ⟨c0,c1,_,_⟩:=Qas (o1.heap G0.out (fun f => f));have F:=Qaa (O.out.same o1);clear A O o1 G0;go_wp2;go_ret;exact ⟨by rw [← HB.out];simp,F.out⟩
 ·rw [decide_eq_false h] at A
  rw [decide_eq_true (by omega : n = 0 ∨ n = 32)];clear h;go_enter Tryz.func22,Tryz.ntmps22;go_wp2_with fail;refine A.out.mono ?_;rintro e w1 ⟨rfl,o1⟩;have F:=Qaa (O.out.same o1);clear A O o1 G0;go_wp2;go_ret;exact ⟨rfl,F.out⟩
abbrev NIL : Value:=.slice none 0 0
theorem QjD (w : World) (n : Nat) (hn : n ≤ 1000000000) : ∃ wm,(Instr.makeSlice 45 (.int .i64 (n : Int)) (.int .i64 (n : Int))).run Tryz.prog w = .ok (.slice (some ⟨w.heap.size,0,none⟩) n n) wm ∧ wm.ownsRow w.heap.size 22 1 (.slice (some ⟨w.heap.size,0,none⟩) n n) n (List.replicate n NIL) ∧ Only (fun _ => False) w wm:=by
 obtain ⟨i0,hi,hz0,hz1,hz2⟩:=info_parts Tryz.infoRows;obtain ⟨wm,hmk,hown,hgr⟩:=run_make_full (P:=Tryz.prog) w w.heap.size 45 22 i0 (.slice none 0 0) 1 Tryz.underlying45 hi hz0 hz1 .i64 .i64 n (by rw [hz2];omega) (by unfold maxLen;omega) (Nat.le_refl _);refine ⟨wm,hmk,?_,(Only.refl _ _).grown hgr (fun k _ e => by cases e)⟩;rw [Nat.mul_one,show (Value.slice none 0 0).cells = #[Value.slice none 0 0] from rfl,toList_madeCells_one] at hown;exact hown
theorem LO.set {w : World} {vs : List Value} {ls : List (List Int)} (h : LO w vs ls) {base g n cap k : Nat} {xs : List Value} (hv : w.ownsRow base 22 1 (.slice (some ⟨g,0,none⟩) n cap) n xs) (u : Value) : LO (w.setCell ⟨g,k,none⟩ u) vs ls :=
 h.grown hv (hv.stored k u).2
structure LD (w : World) (N n k : Nat) (ls : Nat → List Int) : Prop where
 ex : ∃ vs : List Value,LO w vs ((List.range k).map ls) ∧ w.ownsRow N 22 1 (.slice (some ⟨N,0,none⟩) n n) n (vs ++ List.replicate (n - k) NIL)
theorem LD.past {w w' : World} {N n k : Nat} {ls : Nat → List Int} (h : LD w N n k ls) (o : Only (fun _ => False) w w') : LD w' N n k ls:=by
 obtain ⟨vs,h1,h2⟩:=h.ex;exact ⟨vs,h1.past o,o.own h2 (fun _ _ f => f)⟩
theorem LD.cell {w : World} {N n k : Nat} {ls : Nat → List Int} (h : LD w N n k ls) (hk : k < n) : w.cell? ⟨N,k,none⟩ = some NIL ∧ w.frozen? ⟨N,k,none⟩ = false:=by
 obtain ⟨vs,h1,h2⟩:=h.ex
 have hl : vs.length = k:=by rw [h1.1];simp
 refine ⟨?_,h2.frozenAt _⟩;rw [h2.cellAt k (by omega),List.getElem?_append_right (by omega),List.getElem?_replicate,if_pos (by omega)]
theorem LD.store {w : World} {N n k lo : Nat} {ls : Nat → List Int} {u : Value} (h : LD w N n k ls) (hk : k < n) (hu : w.ownsRow lo 5 1 u (ls k).length (bl (ls k))) : LD (w.setCell ⟨N,k,none⟩ u) N n (k + 1) ls:=by
 obtain ⟨vs,h1,h2⟩:=h.ex
 have hl : vs.length = k:=by rw [h1.1];simp
 refine ⟨vs ++ [u],?_,?_⟩
 ·have:=(h1.app (LO.one hu)).set (k:=k) h2 u
  rw [List.range_succ,List.map_append];exact this
 ·have:=(h2.stored k u).1
  obtain ⟨m,hm⟩ : ∃ m,n - k = m + 1:=⟨n - k - 1,by omega⟩;rw [hm,List.replicate_succ,List.set_append_right _ _ (by omega),hl,Nat.sub_self,List.set_cons_zero] at this;rw [show n - (k + 1) = m by omega,List.append_assoc];exact this
theorem LD.all {w : World} {N n : Nat} {ls : Nat → List Int} (h : LD w N n n ls) : RL w (.slice (some ⟨N,0,none⟩) n n) ((List.range n).map ls):=by
 obtain ⟨vs,h1,h2⟩:=h.ex
 have hl : vs.length = n:=by rw [h1.1];simp
 rw [Nat.sub_self,List.replicate_zero,List.append_nil] at h2;exact (h1.rl (lo:=N) (by rw [hl];exact h2)).1
theorem LD.nought {w : World} {N n : Nat} {ls : Nat → List Int} (h : w.ownsRow N 22 1 (.slice (some ⟨N,0,none⟩) n n) n (List.replicate n NIL)) : LD w N n 0 ls:=⟨[],LO.nil w,by simpa using h⟩
theorem QkC (l : List (List Int)) (f : List Int → List Int) : (List.range l.length).map (fun i => f (l.getD i [])) = l.map f:=by
 refine List.ext_getElem (by simp) (fun i h1 h2 => ?_)
 have h : i < l.length:=by simpa using h2
 simp [List.getD_eq_getElem?_getD,List.getElem?_eq_getElem h]
theorem QfK (v : Value) (ls : List (List Int)) (w : World) (h : RL w v ls) (h8 : R8 ls) (hl : ls.length ≤ 1000000000) :
  Calls Tryz.prog 26 #[v] w fun e w' => ∃ u,e = .returned u ∧ w'.ownsRow w.heap.size 5 1 u 32 (bl (RTF ls)) ∧ Only (fun _ => False) w w':=by
 obtain ⟨wm,hmk,hown,om⟩:=QjD w ls.length hl;obtain ⟨ao,cap,rfl,hcap⟩:=h.len;have H:=Qaa h;have H8:=Qaa h8;have RT:=Qaa (fun (W : World) (u : Value) (r : RL W u (ls.map LEAF)) => Qit (ls.map LEAF) u W (by rw [List.length_map];exact hl) (Qgg ls) r);have eR : TOP (ls.map LEAF) = RTF ls:=rfl;have eL:=Qgf ls;simp only [eR,eL] at RT;obtain ⟨N,hN⟩ : ∃ N,N = w.heap.size:=⟨_,rfl⟩;rw [← hN] at hmk hown ⊢;have L0 : Hid (LD wm N ls.length 0 (fun i => LEAF (ls.getD i [])) ∧ Only (fun _ => False) w wm):=⟨LD.nought hown,om⟩;have MA:=Qaa (QkC ls LEAF);obtain ⟨n,hn⟩ : ∃ n,n = ls.length:=⟨_,rfl⟩;rw [← hn] at hmk L0 MA hcap ⊢
 have hnb : n ≤ 1000000000:=by omega
 have HNN:=Qaa (And.intro hN hn);clear h h8 hl hown om eR eL hN hn;go_enter Tryz.func26,Tryz.ntmps26;go_wp2
 go_loopw [11] (fun i wr => ∃ k : Nat,k ≤ n ∧ i = .int .i64 k ∧ Hid (LD wr N n k (fun i => LEAF (ls.getD i [])) ∧ Only (fun _ => False) w wr)) (fun i _ => n - (intOf i).toNat)
 case atStart => exact ⟨0,Nat.zero_le _,rfl,L0⟩
 case round =>
  obtain ⟨k,hk,rfl,hS⟩:=hrel;clear L0 hmk
  by_cases hlt : k < n
  ·have dlt : decide ((k : Int) < (n : Int)) = true:=decide_eq_true (by omega)
   have dlt' : decide (k < n) = true:=decide_eq_true hlt;obtain ⟨b,off,cap',ea,_⟩:=(H.out.past hS.out.2).form (show ls.length = n from HNN.out.2.symm) (by omega)
   obtain ⟨rfl,_,rfl⟩ : ao = some ⟨b,off,none⟩ ∧ n = n ∧ cap = cap':=by have:=HNN.out.2;rw [← this] at ea;simpa using ea
   have hRL : RL wr (.slice (some ⟨b,off,none⟩) n cap) ls:=by have:=H.out.past hS.out.2;rw [← HNN.out.2] at this;exact this
   obtain ⟨u,hu,hbu,hnu⟩:=hRL.at k (by rw [← HNN.out.2];exact hlt);have A:=Qaa (Qiw u (ls.getD k []) wr hbu (H8.out.at k).1 (by have:=(H8.out.at k).2;omega))
   have i0 : (0 : Int) ≤ (k : Int):=by omega
   have i1 : (k : Int) < (n : Int):=by omega
   clear hRL hbu hnu ea;go_wp2_with fail;refine A.out.mono ?_;rintro e w4 ⟨v4,rfl,own4,o4⟩;have hS4:=hS.out.1.past o4;obtain ⟨hc,hf⟩:=hS4.cell hlt
   have F : Hid (LD (w4.setCell ⟨N,k,none⟩ v4) N n (k + 1) (fun i => LEAF (ls.getD i [])) ∧ Only (fun _ => False) w (w4.setCell ⟨N,k,none⟩ v4)) :=
    ⟨hS4.store hlt (lo:=wr.heap.size) (by rw [Qdr];exact own4),(hS.out.2.same o4).setCell (fun hb => by have:=HNN.out.1;simp only at hb;omega) _⟩
   obtain ⟨a4,c4,rfl⟩:=Qad own4;clear own4 o4 A hS hS4 hu;go_wp2
   go_roundw
   case rel => exact ⟨k + 1,by omega,by go_num,F⟩
   case measure => simp [intOf];omega
  ·obtain rfl : k = n:=by omega
   have dlt : decide ((k : Int) < (k : Int)) = false:=decide_eq_false (by omega);have A:=Qaa (RT.out wr (.slice (some ⟨N,0,none⟩) k k) (by have:=hS.out.1.all;rw [MA.out] at this;exact this));have O:=Qaa hS.out.2;clear hS;go_wp2_with fail;refine A.out.mono ?_;rintro e w4 ⟨v4,rfl,own4,o4⟩;have F:=Qaa (And.intro (Qal own4 (show N ≤ wr.heap.size from by have:=HNN.out.1;have:=O.out.size;omega)) (O.out.same o4));obtain ⟨a4,c4,rfl⟩:=Qad own4;clear own4 o4 A O;go_wp2;go_ret;exact ⟨_,rfl,F.out⟩
def Chs (w : World) (v : Value) (l : List CHK) : Prop :=
 ∃ ao cap,v = .slice ao l.length cap ∧ l.length ≤ cap ∧ (l ≠ [] → ∃ b off,ao = some ⟨b,off,none⟩ ∧ ∀ j,j < l.length → ∃ u,
  w.cell? ⟨b,off + j * 2,none⟩ = some (.string (strOfNums (l.getD j NCH).1)) ∧ w.cell? ⟨b,off + j * 2 + 1,none⟩ = some u ∧ Sps w u (l.getD j NCH).2)
theorem Chs.past {w w' : World} {v : Value} {l : List CHK} (h : Chs w v l) (o : Only (fun _ => False) w w') : Chs w' v l:=by
 obtain ⟨ao,cap,rfl,hc,hr⟩:=h;refine ⟨ao,cap,rfl,hc,fun hx => ?_⟩;obtain ⟨b,off,rfl,hcell⟩:=hr hx;refine ⟨b,off,rfl,fun j hj => ?_⟩;obtain ⟨u,h1,h2,h3⟩:=hcell j hj;exact ⟨u,Qar h1 o,Qar h2 o,h3.past o⟩
theorem Chs.len {w : World} {v : Value} {l : List CHK} (h : Chs w v l) : ∃ ao cap,v = .slice ao l.length cap ∧ l.length ≤ cap:=by
 obtain ⟨ao,cap,e,h,_⟩:=h;exact ⟨ao,cap,e,h⟩
theorem Qbs {P : Program} {fn : Func} {a b c : Tmp} {ty : TypeId} (h : fn.results = #[.tmp a,.cell b ty,.tmp c]) (tmps : Array Value) (w : World) {ad : Addr} {v1 v2 v3 : Value}
  (h1 : tmps.getD a undef = v1) (h2 : tmps.getD b undef = .pointer (some ad)) (h3 : tmps.getD c undef = v3) (hl : (loadVar ty ad).run P w = .ok v2 w) :
  (results fn tmps).run P w = .ok (.tuple #[v1,v2,v3]) w:=by
 have h1' : tmps[a]?.getD undef = v1:=by simpa using h1
 have h2' : tmps[b]?.getD undef = .pointer (some ad):=by simpa using h2
 have h3' : tmps[c]?.getD undef = v3:=by simpa using h3
 simp [results,h,h1',h2',h3',asAddr,hl]
theorem put2 {W : World} {B : Nat} {x0 x1 : Value} {E : TypeId} (h : W.heap[B]? = some (.cells #[x0,x1] E (0,0))) (y0 y1 : Value) :
  ((W.setCell ⟨B,0,none⟩ y0).setCell ⟨B,1,none⟩ y1).heap[B]? = some (.cells #[y0,y1] E (0,0)) ∧ Only (fun k => k = B) W ((W.setCell ⟨B,0,none⟩ y0).setCell ⟨B,1,none⟩ y1):=by
 have g1:=heap_setCell_same W B 0 _ _ y0 h;have g2:=heap_setCell_same _ B 1 _ _ y1 g1;exact ⟨by simpa using g2,((Only.refl (fun k => k = B) W).setCell (p:=⟨B,0,none⟩) (fun _ => rfl) _).setCell (p:=⟨B,1,none⟩) (fun _ => rfl) _⟩
theorem QfL {m : MAN} (h : MGD m) (h1 : m.es.length ≤ 100) : (MENC m).length ≤ 10000:=by
 obtain ⟨g1,g2,g3,g4,g5⟩:=h;have hT0:=QeP m
 have hTl : (MTN m).length ≤ 1048576:=by omega
 have q1:=Qjr (MTN m) _ (Nat.le_refl _) hTl (fun x hx => by
  obtain ⟨e,he',rfl⟩:=List.mem_map.1 ((Qbl _ _).1 hx)
  exact (g5 e he').1.1)
 have q2:=Qjs (MTN m) m.es _ (Nat.le_refl _) g4 (fun e he' => Qdq he') hTl;rw [QgR] at q1;rw [QgS] at q2;unfold MENC;simp only [List.length_append,Qa7,g2.1,g3.1,MHD,List.length_cons,List.length_nil] at q1 q2 ⊢;omega
theorem Qew {w w' : World} {N lo n size : Nat} {E T : TypeId} {v : Value} {xs : List Value} {f : Nat × Nat} {cs : Array Value} (o : Only (fun k => k = N) w w') (hN : w.heap[N]? = some (.cells cs T f)) (hT : T ≠ E) (h : w.ownsRow lo E size v n xs) : w'.ownsRow lo E size v n xs :=
 o.own h (fun k hk e => by
  subst e
  rcases h.2 with ⟨rfl,_⟩ | ⟨g,cap,cur,rfl,_,hg,_⟩
  ·cases hk
  ·cases hk;rw [hN] at hg;cases hg;exact hT rfl)
theorem LO.ne {w w' : World} {N : Nat} {T : TypeId} {f : Nat × Nat} {vs : List Value} {ls : List (List Int)} (h : LO w vs ls) (o : Only (fun k => k = N) w w') {cs : Array Value} (hN : w.heap[N]? = some (.cells cs T f)) (hT : T ≠ 5) : LO w' vs ls :=
 ⟨h.1,fun j u hu => by obtain ⟨lo,h1⟩:=h.2 j u hu;exact ⟨lo,Qew o hN hT h1⟩⟩
theorem Qe6 {e : List Int × Int} {es : List (List Int × Int)} {ys t : List Int} {ls : List (List Int)} (h : CUT (e :: es) ys = some (ls,t)) :
  ∃ l ls',ls = l :: ls' ∧ ¬ ys.length < (SZV e.2).toNat + 16 ∧ l = ys.take ((SZV e.2).toNat + 16) ∧ CUT es (ys.drop ((SZV e.2).toNat + 16)) = some (ls',t):=by
 rw [CUT] at h
 by_cases h1 : ys.length < (SZV e.2).toNat + 16
 ·rw [if_pos h1] at h;cases h
 ·rw [if_neg h1] at h
  cases h2 : CUT es (ys.drop ((SZV e.2).toNat + 16)) with
  | none => rw [h2] at h;cases h
  | some x =>
   rw [h2] at h;simp only [Option.some.injEq,Prod.mk.injEq] at h;exact ⟨_,x.1,h.1.symm,h1,rfl,by rw [← h.2]⟩
theorem Qgh : ∀ (es : List (List Int × Int)) {ys t : List Int} {ls : List (List Int)},CUT es ys = some (ls,t) → ls.length = es.length
 | [],ys,t,ls,h => by simp [CUT] at h;rw [h.1];rfl
 | e :: es,ys,t,ls,h => by
  obtain ⟨l,ls',rfl,_,_,h2⟩:=Qe6 h;simp [Qgh es h2]
theorem QdD {R : Nat} {v : Value} {ys t : List Int} (es : List (List Int × Int)) (ls : List (List Int)) (ve : Value) (w : World) (hC : CurAt 111 w R v ys) (hvb : ∀ k,v.ownBlock = some k → k < w.heap.size) (hE : Ens w ve es) (hEb : ∀ k,ve.ownBlock = some k → ¬ k = R) (hcut : CUT es ys = some (ls,t)) (hb : ∀ e ∈ es,0 ≤ e.2 ∧ e.2 ≤ 8) (hn : es.length ≤ 1048576) :
  Calls Tryz.prog 45 #[.func (.func 46) #[.pointer (some ⟨R,0,none⟩)] #[],ve] w fun e w' => ∃ a,e = .returned (.tuple #[a,.int .i64 0]) ∧ (∃ vs,LO w' vs ls ∧ w'.ownsRow w.heap.size 22 1 a ls.length vs) ∧ (∃ v2,CurAt 111 w' R v2 t ∧ v2.ownBlock = v.ownBlock) ∧ Only (fun k => k = R) w w':=by
 obtain ⟨ae,ce,rfl⟩:=hE.len;obtain ⟨i0,hi,hz0,hz1,hz2⟩:=info_parts Tryz.infoRows;have hRw : R < w.heap.size:=(Array.getElem?_eq_some_iff.1 hC.cell).1;have hll:=Qgh es hcut;obtain ⟨n,hnn⟩ : ∃ n,n = es.length:=⟨_,rfl⟩
 have S0 : Hid (∃ (rv : Value) (vs : List Value) (v2 : Value) (rest : List Int),.slice none 0 0 = rv ∧ w.ownsRow w.heap.size 22 1 rv 0 vs ∧ LO w vs (ls.take 0) ∧ CurAt 111 w R v2 rest ∧ v2.ownBlock = v.ownBlock ∧ CUT (es.drop 0) rest = some (ls.drop 0,t) ∧ Only (fun k => k = R) w w) :=
  ⟨_,[],v,ys,rfl,World.ownsRow_nil _ _ _ _,LO.nil w,hC,rfl,hcut,Only.refl _ _⟩
 have HE:=Qaa (And.intro hE (And.intro hEb (And.intro hb (And.intro hvb (And.intro hRw hll)))));have HN:=Qaa hnn
 have hnb : n ≤ 1048576:=by omega
 rw [← hnn] at HE ⊢;clear hC hvb hE hEb hcut hb hn hRw hll hnn;go_enter Tryz.func45,Tryz.ntmps45;go_wp2
 go_loopw [6,13] (fun rv i wr => ∃ k : Nat,k ≤ n ∧ i = .int .i64 k ∧ Hid (∃ (vs : List Value) (v2 : Value) (rest : List Int),wr.ownsRow w.heap.size 22 1 rv k vs ∧ LO wr vs (ls.take k) ∧ CurAt 111 wr R v2 rest ∧ v2.ownBlock = v.ownBlock ∧ CUT (es.drop k) rest = some (ls.drop k,t) ∧ Only (fun k => k = R) w wr)) (fun _ i _ => n - (intOf i).toNat)
 case atStart =>
  obtain ⟨rv,vs,v2,rest,rfl,h⟩:=S0.out;exact ⟨0,Nat.zero_le _,rfl,vs,v2,rest,h⟩
 case round =>
  obtain ⟨k,hk,rfl,hS⟩:=hrel;clear S0
  by_cases hlt : k < n
  ·have dlt : decide ((k : Int) < (n : Int)) = true:=decide_eq_true (by omega)
   have dlt' : decide (k < n) = true:=decide_eq_true hlt;obtain ⟨vs,v2,rest,ow,lo,cu,hv2,hcut,o⟩:=hS.out
   have hke : k < es.length:=by rw [← HN.out];exact hlt
   rw [List.drop_eq_getElem_cons hke] at hcut;obtain ⟨l,ls',hls,hnl,hl,hcut'⟩:=Qe6 hcut
   have hkl : k < ls.length:=by have:=HE.out.2.2.2.2.2;omega
   have hge : es[k] = es.getD k ([],0):=by rw [List.getD_eq_getElem?_getD,List.getElem?_eq_getElem hke];rfl
   rw [hge] at hnl hl hcut';have hbk:=HE.out.2.2.1 _ (List.getElem_mem hke);rw [hge] at hbk;obtain ⟨b,off,cap',ee,hc0,hc1⟩:=(HE.out.1.keep o (fun q hq => HE.out.2.1 q hq)).at k hke
   obtain rfl : ae = some ⟨b,off,none⟩:=by simp at ee;exact ee.1
   clear ee;obtain ⟨e,hee⟩ : ∃ e,e = es.getD k ([],0):=⟨_,rfl⟩;rw [← hee] at hnl hl hcut' hbk hc0 hc1;obtain ⟨T,hT⟩ : ∃ T,T = strOfNums e.1:=⟨_,rfl⟩;rw [← hT] at hc0
   obtain ⟨z,hz⟩ : ∃ z : Nat,SZV e.2 = (z : Int) ∧ z ≤ 4194304:=by
    refine ⟨PSZ e.2.toNat,?_,?_⟩
    ·unfold SZV;rw [if_pos hbk]
    ·unfold PSZ
     have : e.2.toNat ≤ 8:=by omega
     have h4 : 4 ^ e.2.toNat ≤ 4 ^ 8:=Nat.pow_le_pow_right (by decide) this
     have : (4 : Nat) ^ 8 = 65536:=by decide
     omega
   have hzn : (SZV e.2).toNat + 16 = z + 16:=by rw [hz.1];rfl
   rw [hzn] at hnl hl hcut';obtain ⟨wb,hwb⟩ : ∃ wb,wb = wr.alloc (.cells #[.string T,.int .i64 e.2] 61):=⟨_,rfl⟩
   have ob : Only (fun _ => False) wr wb:=by rw [hwb];exact (Only.refl _ _).alloc _
   obtain ⟨q0,q1,_,_⟩:=Qas (show wb.heap[wr.heap.size]? = some (.cells #[.string T,.int .i64 e.2] 61 (0,0)) by rw [hwb];exact heap_alloc_new _ _);have SZ:=Qaa (Qes e.2 wb);rw [hz.1] at SZ;have hzz:=hz.2;have HB:=Qaa hwb;have cub:=cu.keep ob (fun f => f) (fun _ _ f => f);have BY:=Qaa (fun (W : World) (oW : Only (fun _ => False) wb W) => QdK (cub.keep oW (fun f => f) (fun _ _ f => f)) ((z + 16 : Nat) : Int));rw [Qbk hnl,← hl] at BY
   have e16 : ((z + 16 : Nat) : Int) = (z : Int) + 16:=by omega
   rw [e16] at BY;have D:=Qaa (And.intro (ob.own ow (fun _ _ f => f)) (And.intro (lo.past ob) (And.intro hv2 (And.intro (o.trans (T:=fun _ => False) ob (fun _ _ f => f.elim)) cub.cell))));have HX:=Qaa (And.intro hls hcut')
   have i0' : (0 : Int) ≤ (k : Int):=by omega
   have i1' : (k : Int) < (n : Int):=by omega
   clear hS ow lo cu hv2 hcut o hke hls hnl hl hcut' hkl hge hbk hee hT hz hzn hwb ob cub e16;go_wp2_with fail;rw [← HB.out];refine SZ.out.mono ?_;rintro e1 w1 ⟨rfl,o1⟩;have BY1:=Qaa (BY.out w1 o1);have D1:=Qaa (And.intro (o1.own D.out.1 (fun _ _ f => f)) (And.intro (D.out.2.1.past o1) (And.intro D.out.2.2.1 (And.intro (D.out.2.2.2.1.trans (T:=fun _ => False) o1 (fun _ _ f => f.elim)) (o1.heap D.out.2.2.2.2 (fun f => f))))));clear o1 SZ BY D q0 q1 hc0 hc1;go_wp2_with fail;refine BY1.out.mono ?_;rintro e2 w2 ⟨v1,rfl,own2,v3,cu3,hv3,o2⟩;obtain ⟨a1,c1,rfl⟩:=Qad own2;obtain ⟨m,hm⟩ : ∃ m,m = l.length:=⟨_,rfl⟩;obtain ⟨W3,hW3⟩ : ∃ W,W = w2.alloc (.cells #[.slice a1 m c1] 22):=⟨_,rfl⟩
   have o3 : Only (fun _ => False) w2 W3:=by rw [hW3];exact (Only.refl _ _).alloc _
   have hV : VS W3 (.slice (some ⟨w2.heap.size,0,none⟩) 1 1) [.slice a1 m c1]:=VS.of_own (lo:=w2.heap.size) (n:=1) (e:=22) (by rw [hW3];exact Qgi w2 22 [.slice a1 m c1] (Nat.le_refl _) (show 1 ≤ maxLen by unfold maxLen;decide)) (fun y hy => by simp at hy;subst hy;rfl)
   have hneT : (111 : Nat) ≠ 22:=by decide
   have ow3:=o3.own (Qew o2 D1.out.2.2.2.2 hneT D1.out.1) (fun _ _ f => f);have lo3:=(D1.out.2.1.ne o2 D1.out.2.2.2.2 (by decide)).past o3;have E3:=Qaa (And.intro ow3 (And.intro lo3 (And.intro (cu3.keep o3 (fun f => f) (fun _ _ f => f)) (And.intro (hv3.trans D1.out.2.2.1) (And.intro (((D1.out.2.2.2.1).trans o2 (fun _ _ e => e)).trans (T:=fun _ => False) o3 (fun _ _ f => f.elim)) (o3.own own2 (fun _ _ f => f)))))));have HV:=Qaa (And.intro hV (And.intro hW3 hm))
   have bs : Hid (w.heap.size ≤ W3.heap.size):=by show _ ≤ _;have:=E3.out.2.2.2.2.1.size;omega
   have hkm : k + 1 ≤ maxLen:=by unfold maxLen;omega
   rw [← hm];clear own2 cu3 hv3 o2 o3 hV ow3 lo3 BY1 D1 hW3 hm hneT;go_wp2_with (at_builtin;rw [← HV.out.2.1];refine Qbp _ rfl _ _ 45 rfl w.heap.size 22 i0 NIL 24 Tryz.underlying45 hi hz0 hz1 hz2 rfl _ k vs rfl E3.out.1 _ [.slice a1 m c1] rfl HV.out.1 hkm (by simp only [List.length_cons,List.length_nil];omega) bs.out ?_);intro v' w4 own4 g4
   have F : Hid (∃ (vs : List Value) (v2 : Value) (rest : List Int),w4.ownsRow w.heap.size 22 1 v' (k + 1) vs ∧ LO w4 vs (ls.take (k + 1)) ∧ CurAt 111 w4 R v2 rest ∧ v2.ownBlock = v.ownBlock ∧ CUT (es.drop (k + 1)) rest = some (ls.drop (k + 1),t) ∧ Only (fun k => k = R) w w4):=by
    obtain ⟨ow,lo,cu,hv,o,ob⟩:=E3.out;have hg:=(Only.refl (fun q => u6.ownBlock = some q) W3).grown g4 (fun _ _ e => e)
    have hRu : ¬ u6.ownBlock = some R:=fun e => by have:=(ow.lt R e).1;have:=HE.out.2.2.2.2.1;omega
    have hd:=HX.out.1
    have e1 : ls.take (k + 1) = ls.take k ++ [l]:=by
     rw [List.take_add_one]
     congr 1
     have : ls[k]? = some l:=by have:=List.getElem?_drop (xs:=ls) (i:=k) (j:=0);rw [hd] at this;simpa using this.symm
     rw [this];rfl
    have e2 : ls.drop (k + 1) = ls':=by rw [← List.drop_drop,hd];rfl
    refine ⟨vs ++ [.slice a1 m c1],v3,_,own4,?_,cu.keep hg hRu (fun q hq e => ?_),hv,by rw [e2];exact HX.out.2,o.grown g4 (fun q hq e => ?_)⟩
    ·rw [e1]
     have:=(LO.one ob).grown ow g4;rw [HV.out.2.2];exact (lo.grown ow g4).app this
    ·rw [hv] at hq
     have:=HE.out.2.2.2.1 q hq;have:=(ow.lt q e).1;omega
    ·have:=(ow.lt q e).1
     omega
   obtain ⟨a4,c4,rfl⟩:=Qad own4;clear own4 g4 E3 HV bs hkm HX;go_wp2
   go_roundw
   case rel => exact ⟨k + 1,by omega,by go_num,F⟩
   case measure => simp [intOf];omega
  ·obtain rfl : k = n:=by omega
   have dlt : decide ((k : Int) < (k : Int)) = false:=decide_eq_false (by omega);obtain ⟨vs,v2,rest,ow,lo,cu,hv2,hcut,o⟩:=hS.out;rw [HN.out,List.drop_length] at hcut;have hl : ls.length = k:=HE.out.2.2.2.2.2;rw [← HN.out,← hl,List.drop_length] at hcut;rw [← hl,List.take_length] at lo
   have hr : rest = t:=by simp [CUT] at hcut;exact hcut
   subst hr;have F:=Qaa (And.intro (show ∃ vs,LO wr vs ls ∧ wr.ownsRow w.heap.size 22 1 _ ls.length vs from ⟨vs,lo,by rw [hl];exact ow⟩) (And.intro (show ∃ v2,CurAt 111 wr R v2 rest ∧ v2.ownBlock = v.ownBlock from ⟨v2,cu,hv2⟩) o));clear hS ow lo cu hv2 hcut o;go_wp2;go_ret2;exact ⟨_,rfl,F.out⟩
def NZ {α : Type} (b : Int) (r : RDG α) : Prop:=∀ ys,U8 ys → (∀ c,r ys = .error c → c ≠ b) ∧ (∀ x t,r ys = .ok (x,t) → U8 t)
theorem NZ.bytes {b : Int} (hb : b ≠ 2 ∧ b ≠ 3 ∧ b ≠ 4) (n : Nat) : NZ b (rdB n):=by
 intro ys h
 by_cases hl : ys.length < n
 ·rw [Qa3 hl]
  exact ⟨fun c e => by injection e with e;omega,fun x t e => by cases e⟩
 ·rw [QaX hl]
  exact ⟨fun c e => (by cases e),fun x t e => by injection e with e;injection e with e1 e2;rw [← e2];exact QaL h n⟩
theorem NZ.varint {b : Int} (hb : b ≠ 2 ∧ b ≠ 3 ∧ b ≠ 4) : NZ b rdV:=by
 intro ys h
 rcases Qam h with ⟨c,hs,hc⟩ | ⟨a,k,hs,_⟩
 ·rw [QcA hs (by omega)]
  exact ⟨fun c' e => by injection e with e;omega,fun x t e => by cases e⟩
 ·rw [Qbw hs]
  exact ⟨fun c e => (by cases e),fun x t e => by injection e with e;injection e with e1 e2;rw [← e2];exact QaL h k⟩
theorem NZ.block {b : Int} (hb : b ≠ 2 ∧ b ≠ 3 ∧ b ≠ 4) : NZ b (rdK 64):=by
 intro ys h
 rcases QbF (n:=64) h (by decide) (by decide) with ⟨c,hs,hc⟩ | ⟨b',k,hs,_⟩
 ·rw [QeH (n:=64) hs (by omega)]
  exact ⟨fun c' e => by injection e with e;omega,fun x t e => by cases e⟩
 ·rw [Qfk (n:=64) hs]
  exact ⟨fun c e => (by cases e),fun x t e => by injection e with e;injection e with e1 e2;rw [← e2];exact QaL h k⟩
theorem NZ.need {b : Int} {α : Type} {r : RDG α} (h : NZ b r) (c : α → Bool) {e : Int} (he : e ≠ b) : NZ b (QaQ r c e):=by
 intro ys hu;obtain ⟨h1,h2⟩:=h ys hu
 cases hr : r ys with
 | error c' =>
  rw [QaN hr];exact ⟨fun c e => by injection e with e;rw [← e];exact h1 c' hr,fun x t e => by cases e⟩
 | ok x =>
  obtain ⟨x,t⟩:=x
  by_cases hc : c x = true
  ·rw [QaS hr hc]
   exact ⟨fun c e => (by cases e),fun x' t' e => by injection e with e;injection e with e1 e2;rw [← e2];exact h2 x t hr⟩
  ·rw [Qbe hr (by simpa using hc)]
   exact ⟨fun c e' => by injection e' with e';rw [← e'];exact he,fun x t e => by cases e⟩
theorem NZ.as {b : Int} {α β : Type} {r : RDG α} (h : NZ b r) (f : α → β) : NZ b (rdAs r f):=by
 intro ys hu;obtain ⟨h1,h2⟩:=h ys hu
 cases hr : r ys with
 | error c' =>
  rw [QgG hr];exact ⟨fun c e => by injection e with e;rw [← e];exact h1 c' hr,fun x t e => by cases e⟩
 | ok x =>
  obtain ⟨x,t⟩:=x;rw [as_ok hr];exact ⟨fun c e => (by cases e),fun x' t' e => by injection e with e;injection e with e1 e2;rw [← e2];exact h2 x t hr⟩
theorem NZ.then' {b : Int} {α β : Type} {r1 : RDG α} {r2 : α → RDG β} (h1 : NZ b r1) (h2 : ∀ x,NZ b (r2 x)) : NZ b (QaI r1 r2):=by
 intro ys hu;obtain ⟨a1,a2⟩:=h1 ys hu
 cases hr : r1 ys with
 | error c' =>
  rw [Qax hr];exact ⟨fun c e => by injection e with e;rw [← e];exact a1 c' hr,fun x t e => by cases e⟩
 | ok x =>
  obtain ⟨x,t⟩:=x;obtain ⟨b1,b2⟩:=h2 x t (a2 x t hr)
  cases hs : r2 x t with
  | error c' =>
   rw [Qap hr hs];exact ⟨fun c e => by injection e with e;rw [← e];exact b1 c' hs,fun x t e => by cases e⟩
  | ok y =>
   obtain ⟨y,t'⟩:=y;rw [Qa2 hr hs];exact ⟨fun c e => (by cases e),fun x' t'' e => by injection e with e;injection e with e1 e2;rw [← e2];exact b2 y t' hs⟩
theorem NZ.rep {b : Int} {σ α : Type} {r : σ → RDG α} (nx : σ → α → σ) (h : ∀ s,NZ b (r s)) : ∀ (n : Nat) (s : σ),NZ b (rdRep r nx n s)
 | 0,s => fun ys hu => by
  show (∀ c,(Except.ok ([],ys) : Except Int (List α × List Int)) = .error c → c ≠ b) ∧ _
  exact ⟨fun c e => (by cases e),fun x t e => by injection e with e;injection e with e1 e2;rw [← e2];exact hu⟩
 | n + 1,s => fun ys hu => by
  obtain ⟨a1,a2⟩:=h s ys hu
  cases hr : r s ys with
  | error c' =>
   rw [Qb7 hr];exact ⟨fun c e => by injection e with e;rw [← e];exact a1 c' hr,fun x t e => by cases e⟩
  | ok x =>
   obtain ⟨x,t⟩:=x;rw [QdU hr];obtain ⟨b1,b2⟩:=NZ.rep nx h n (nx s x) t (a2 x t hr)
   cases hs : rdRep r nx n (nx s x) t with
   | error c' =>
    exact ⟨fun c e => by simp only [pre] at e;injection e with e;rw [← e];exact b1 c' hs,fun x t e => by simp only [pre] at e;cases e⟩
   | ok y =>
    obtain ⟨y,t'⟩:=y;exact ⟨fun c e => (by simp only [pre] at e;cases e),fun x' t'' e => by simp only [pre] at e;injection e with e;injection e with e1 e2;rw [← e2];exact b2 y t' hs⟩
theorem NZ.man {b : Int} (hb : b ≠ 2 ∧ b ≠ 3 ∧ b ≠ 4) : NZ b MRD :=
 NZ.then' ((NZ.bytes hb 4).need _ hb.2.1.symm) fun _ => NZ.then' (((NZ.bytes hb 8).need _ hb.2.1.symm).as _) fun _ => NZ.then' (NZ.bytes hb 32) fun _ =>
  NZ.then' (NZ.then' ((NZ.varint hb).need _ hb.2.2.symm) fun n => NZ.rep _ (fun _ => (NZ.block hb).need _ hb.2.1.symm) n []) fun _ =>
   NZ.then' (NZ.then' ((NZ.varint hb).need _ hb.2.2.symm) fun n => NZ.rep _ (fun _ => NZ.then' ((NZ.varint hb).need _ hb.2.1.symm) fun _ => (NZ.bytes hb 1).need _ hb.2.1.symm) n ()) fun _ => NZ.bytes hb 32
theorem Qj7 {b : Int} (hb : b ≠ 2 ∧ b ≠ 3 ∧ b ≠ 4) {ys : List Int} (h : U8 ys) : MDEC ys ≠ .error b:=by
 intro e;obtain ⟨h1,_⟩:=NZ.man hb ys h;unfold MDEC at e
 cases hr : MRD ys with
 | error c => rw [hr] at e;injection e with e;exact h1 c hr e
 | ok x =>
  obtain ⟨⟨hd,v,p,d,a,r⟩,rest⟩:=x;rw [hr] at e;simp only at e
  by_cases q1 : rest = []
  ·rw [if_pos q1] at e
   by_cases q2 : QaH d.2.length a.2 = true
   ·rw [if_pos q2] at e;cases e
   ·rw [if_neg q2] at e;injection e with e;omega
  ·rw [if_neg q1] at e;injection e with e;omega
theorem Qj8 {ys : List Int} (h : U8 ys) : MDEC ys ≠ .error 0:=Qj7 (by decide) h
theorem QiB (ys : List Int) (h8 : U8 ys) : (MDe ys = 0 ∧ MGD (MDv ys) ∧ MENC (MDv ys) = ys) ∨ (MDv ys = ⟨0,[],[],[]⟩ ∧ ∃ c,MDEC ys = .error c ∧ MDe ys = c):=by
 cases h : MDEC ys with
 | ok m =>
  obtain ⟨e1,e2⟩:=MD_ok h;rw [e1];exact .inl ⟨e2,QcL h8 h⟩
 | error c =>
  obtain ⟨e1,e2⟩:=Qfo h;exact .inr ⟨e1,c,rfl,e2⟩
theorem MGD.ok {m : MAN} (h : MGD m) : Mok m:=⟨by have:=h.1;omega,h.2.1.2,h.2.2.1.2,fun e he => (h.2.2.2.2 e he).1.2⟩
theorem QiC {m : MAN} (h : MGD m) : MDv (MENC m) = m ∧ MDe (MENC m) = 0:=MD_ok (Qd3 h)
theorem Qex {P : Program} {fn : Func} {a b c : Tmp} {ty : TypeId} (h : fn.results = #[.cell a ty,.tmp b,.tmp c]) (tmps : Array Value) (w : World) {ad : Addr} {v1 v2 v3 : Value}
  (h1 : tmps.getD a undef = .pointer (some ad)) (h2 : tmps.getD b undef = v2) (h3 : tmps.getD c undef = v3) (hl : (loadVar ty ad).run P w = .ok v1 w) :
  (results fn tmps).run P w = .ok (.tuple #[v1,v2,v3]) w:=by
 have h1' : tmps[a]?.getD undef = .pointer (some ad):=by simpa using h1
 have h2' : tmps[b]?.getD undef = v2:=by simpa using h2
 have h3' : tmps[c]?.getD undef = v3:=by simpa using h3
 simp [results,h,h1',h2',h3',asAddr,hl]
theorem Bs.recap {k : IntKind} {w : World} {ao : Option Addr} {n c c' : Nat} {xs : List Int} (h : Bs k w (.slice ao n c) xs) (hc : n ≤ c') : Bs k w (.slice ao n c') xs:=by
 obtain ⟨ao',cap',e,h1,h2⟩:=h;simp at e;obtain ⟨rfl,rfl,rfl⟩:=e;exact ⟨_,_,rfl,hc,h2⟩
theorem Mnw.lowS {a b w' : World} {x : Value} {m : MAN} {vp ve vr : Value} (h : Mnw b w' x m vp ve vr) (o : a.heap.size ≤ b.heap.size) : Mnw a w' x m vp ve vr :=
 ⟨h.mf,h.np,h.nr,fun k hk => by have:=h.bp k hk;omega,fun k hk => by have:=h.be k hk;omega,fun k hk => by have:=h.br k hk;omega⟩
theorem Mnw.past {a w w' : World} {x : Value} {m : MAN} {vp ve vr : Value} (h : Mnw a w x m vp ve vr) (o : Only (fun _ => False) w w') : Mnw a w' x m vp ve vr:=⟨h.mf.past o,h.np,h.nr,h.bp,h.be,h.br⟩
theorem QjE {R : Nat} {v : Value} {ys sg : List Int} {k : Nat} {m : MAN} (w : World) (hvb : ∀ b,v.ownBlock = some b → b < w.heap.size) (hC : CurAt 111 w R v ys) (hs : Qae 268435456 ys = (sg,k,0)) (h32 : 32 ≤ sg.length) (hm : MDEC (sg.take (sg.length - 32)) = .ok m) (h8 : U8 sg) :
  Calls Tryz.prog 43 #[.func (.func 44) #[.pointer (some ⟨R,0,none⟩)] #[]] w fun e w' => ∃ x vp ve vr u,e = .returned (.tuple #[x,u,.int .i64 0]) ∧ Mnw w w' x m vp ve vr ∧ Bs .u8 w' u sg ∧ NoCap u ∧ (∀ q,u.ownBlock = some q → w.heap.size ≤ q) ∧ (∃ v2,CurAt 111 w' R v2 (ys.drop k) ∧ v2.ownBlock = v.ownBlock) ∧ Only (fun k => k = R) w w':=by
 have hRw : R < w.heap.size:=(Array.getElem?_eq_some_iff.1 hC.cell).1;have hlen:=hC.len;obtain ⟨w0,hw0⟩ : ∃ w0,w0 = w.alloc (.cells #[.int .u64 0,.slice none 0 0,.slice none 0 0,.slice none 0 0] 44):=⟨_,rfl⟩
 have o0 : Only (fun _ => False) w w0:=by rw [hw0];exact (Only.refl _ _).alloc _
 have g0 : Hid (w0.heap[w.heap.size]? = some (.cells #[.int .u64 0,.slice none 0 0,.slice none 0 0,.slice none 0 0] 44 (0,0))):=by show _ = _;rw [hw0];exact heap_alloc_new _ _
 have BL:=Qaa (QdL (hC.keep o0 (fun f => f) (fun _ _ f => f)) 268435456 (by omega));rw [hs] at BL
 have hle : sg.length ≤ 268435456:=by
  have:=hs;unfold Qae at this;rw [if_neg (by omega)] at this
  split at this
  ·rename_i q;simp only [Prod.mk.injEq] at this;rw [← this.1];simp
  ·split at this
   ·simp only [Prod.mk.injEq] at this;omega
   ·split at this
    ·simp only [Prod.mk.injEq] at this;omega
    ·simp only [Prod.mk.injEq] at this;rw [← this.1,List.length_take];omega
 obtain ⟨e1,e2⟩:=MD_ok hm;have DE:=Qaa (fun (W : World) (u : Value) (h : Bs .u8 W u (sg.take (sg.length - 32))) => Qc1 u _ W h (h8.take _) (by rw [List.length_take];omega));rw [e1,e2] at DE;obtain ⟨q,hq⟩ : ∃ q,q = sg.length:=⟨_,rfl⟩;obtain ⟨p,hp⟩ : ∃ p,p = q - 32:=⟨_,rfl⟩;rw [← hq,← hp] at DE;have HQ:=Qaa (And.intro hq (show p ≤ sg.length by omega))
 have hsub : (q : Int) - 32 = (p : Int):=by omega
 have dn : decide ((p : Int) < 0) = false:=decide_eq_false (by omega)
 have j0 : (0 : Int) ≤ (p : Int):=by omega
 have j1 : (p : Int) ≤ (q : Int):=by omega
 have hqb : q ≤ 268435456:=by omega
 have HW:=Qaa (And.intro hw0 o0);have HR:=Qaa hRw;have HV:=Qaa hvb;clear hC hvb hs h32 hm h8 hlen hw0 o0 hle e1 e2 hq hp hRw;go_enter Tryz.func43,Tryz.ntmps43;go_wp2_with fail;rw [← HW.out.1];refine BL.out.mono ?_;rintro e w1 ⟨v1,rfl,b1,n1,lo1,v2,cu1,hv2,o1⟩;obtain ⟨a1,c1,rfl,hc1⟩:=b1.formN (n:=q) HQ.out.1.symm;have DE1:=Qaa (DE.out w1 (.slice a1 p p) ((b1.head (n:=p) (by omega)).recap (Nat.le_refl _)));have H1:=Qaa (And.intro b1 (And.intro n1 (And.intro lo1 (And.intro cu1 (And.intro hv2 o1)))))
 have j2 : (p : Int) ≤ (c1 : Int):=by omega
 clear b1 n1 lo1 cu1 hv2 o1 BL DE;go_wp2_with fail;refine DE1.out.mono ?_;rintro e w2 ⟨x,vp,ve,vr,rfl,mn,o2⟩;have hf:=mn.mf.form;obtain ⟨ap,cp,ep⟩:=mn.mf.prev.len;obtain ⟨ae,ce,ee⟩:=mn.mf.es.len;obtain ⟨ar,cr,er⟩:=mn.mf.root.len;subst ep ee er hf;have RN:=HR.out;have gm:=o2.heap (H1.out.2.2.2.2.2.heap g0.out (fun e => by omega)) (fun f => f);obtain ⟨W3,hW3⟩ : ∃ W,W = w2.alloc (.cells #[.int .u64 m.ver,.slice ap m.prev.length cp,.slice ae m.es.length ce,.slice ar m.root.length cr] 44):=⟨_,rfl⟩
 have o3 : Only (fun _ => False) w2 W3:=by rw [hW3];exact (Only.refl _ _).alloc _
 have gb:=Qaa (show W3.heap[w2.heap.size]? = some (.cells #[.int .u64 m.ver,.slice ap m.prev.length cp,.slice ae m.es.length ce,.slice ar m.root.length cr] 44 (0,0)) by rw [hW3];exact heap_alloc_new _ _);have hld:=Qag gb.out;obtain ⟨⟨y0,y1,y2,y3⟩,_⟩:=Qaq gb.out;have g3:=o3.heap gm (fun f => f);obtain ⟨⟨z0,z1,z2,z3⟩,f0,f1,f2,f3⟩:=Qaq g3;have P4:=put4 g3 (.int .u64 m.ver) (.slice ap m.prev.length cp) (.slice ae m.es.length ce) (.slice ar m.root.length cr);have hs1:=H1.out.2.2.2.2.2.size
 have hs0 : w0.heap.size = w.heap.size + 1:=by rw [HW.out.1];simp
 have oT : Only (fun k => k = R) w W3:=((HW.out.2.mono (T:=fun k => k = R) (fun _ _ f => f.elim)).trans H1.out.2.2.2.2.2 (fun _ _ e => e)).trans (o2.same o3) (fun _ _ f => f.elim);have mnX:=((mn.past o3).keep (B:=w.heap.size) P4.2 (by omega)).lowS (a:=w) (by omega);have F:=Qaa (And.intro (Qag P4.1) (And.intro mnX (And.intro ((H1.out.1.past (o2.same o3)).keep P4.2 (fun b hb e => by have:=H1.out.2.2.1 b hb;omega)) (And.intro H1.out.2.1 (And.intro (show ∀ b,(Value.slice a1 q c1).ownBlock = some b → w.heap.size ≤ b from fun b hb => by have:=H1.out.2.2.1 b hb;omega) (And.intro (show ∃ v2',CurAt 111 _ R v2' (ys.drop k) ∧ v2'.ownBlock = v.ownBlock from ⟨v2,(H1.out.2.2.2.1.keep (o2.same o3) (fun f => f) (fun _ _ f => f)).keep P4.2 (by omega) (fun b hb e => by have:=HV.out b (by rw [← H1.out.2.2.2.2.1];exact hb);omega),H1.out.2.2.2.2.1⟩) (oT.trans P4.2 (fun i hi e => by omega))))))));clear mn o2 gm o3 g3 P4 hs1 hs0 oT mnX H1 DE1 RN;subst hW3;go_wp2;refine bodyPost_ret (Qex rfl _ _ rfl rfl rfl F.out.1) rfl ⟨_,_,_,_,_,rfl,F.out.2.1,F.out.2.2.1,F.out.2.2.2.1,F.out.2.2.2.2.1,F.out.2.2.2.2.2⟩
theorem Qaz {P : Program} {fn : Func} {a b c d : Tmp} {ty : TypeId} (h : fn.results = #[.cell a ty,.tmp b,.tmp c,.tmp d]) (tmps : Array Value) (w : World) {ad : Addr} {v1 v2 v3 v4 : Value}
  (h1 : tmps.getD a undef = .pointer (some ad)) (h2 : tmps.getD b undef = v2) (h3 : tmps.getD c undef = v3) (h4 : tmps.getD d undef = v4) (hl : (loadVar ty ad).run P w = .ok v1 w) :
  (results fn tmps).run P w = .ok (.tuple #[v1,v2,v3,v4]) w:=by
 have h1' : tmps[a]?.getD undef = .pointer (some ad):=by simpa using h1
 have h2' : tmps[b]?.getD undef = v2:=by simpa using h2
 have h3' : tmps[c]?.getD undef = v3:=by simpa using h3
 have h4' : tmps[d]?.getD undef = v4:=by simpa using h4
 simp [results,h,h1',h2',h3',h4',asAddr,hl]
theorem Qjd {b sg : List Int} {m : MAN} {ls : List (List Int)} (h : SPX b = .ok (m,sg,ls)) :
  ∃ k,Qae 268435456 b = (sg,k,0) ∧ 32 ≤ sg.length ∧ MDEC (sg.take (sg.length - 32)) = .ok m ∧ CUT m.es (b.drop k) = some (ls,[]):=by
 obtain ⟨sg',k,c,hs⟩ : ∃ x k c,Qae 268435456 b = (x,k,c):=⟨_,_,_,rfl⟩;unfold SPX at h;rw [hs] at h ⊢;simp only at h
 by_cases h1 : c = 0
 ·rw [if_neg (by simpa using h1)] at h
  by_cases h2 : sg'.length < 32
  ·rw [if_pos h2] at h;cases h
  ·rw [if_neg h2] at h
   cases h3 : MDEC (sg'.take (sg'.length - 32)) with
   | error e => rw [h3] at h;cases h
   | ok m' =>
    rw [h3] at h;simp only at h
    cases h4 : CUT m'.es (b.drop k) with
    | none => rw [h4] at h;cases h
    | some x =>
     rw [h4] at h;simp only at h
     by_cases h5 : x.2 = []
     ·rw [if_pos h5] at h
      simp only [Except.ok.injEq,Prod.mk.injEq] at h;obtain ⟨rfl,rfl,rfl⟩:=h;exact ⟨k,by rw [h1],by omega,h3,by rw [← h5,h4]⟩
     ·rw [if_neg h5] at h;cases h
 ·rw [if_pos h1] at h;cases h
theorem Qcq {n : Int} {b sg : List Int} {k : Nat} {c : Int} (h8 : U8 b) (h : Qae n b = (sg,k,c)) : U8 sg:=by
 have nl : U8 []:=fun y hy => by cases hy
 unfold Qae at h
 split at h
 ·simp only [Prod.mk.injEq] at h;rw [← h.1];exact nl
 ·split at h
  ·simp only [Prod.mk.injEq] at h;rw [← h.1];exact nl
  ·split at h
   ·simp only [Prod.mk.injEq] at h;rw [← h.1];exact nl
   ·split at h
    ·simp only [Prod.mk.injEq] at h;rw [← h.1];exact nl
    ·simp only [Prod.mk.injEq] at h;rw [← h.1];exact (h8.drop _).take _
structure SPW (w w' : World) (x vp ve vr u a : Value) (m : MAN) (sg : List Int) (ls : List (List Int)) : Prop where
 mn : Mnw w w' x m vp ve vr
 sg : Bs .u8 w' u sg
 nu : NoCap u
 ls : ∃ vs,LO w' vs ls ∧ w'.ownsRow w.heap.size 22 1 a ls.length vs
 o : Only (fun _ => False) w w'
theorem Qe7 (vb : Value) (b : List Int) (w : World) (hb : Bs .u8 w vb b) (h8 : U8 b) (hl : b.length ≤ 1000000000000) {m : MAN} {sg : List Int} {ls : List (List Int)} (hx : SPX b = .ok (m,sg,ls)) :
  Calls Tryz.prog 23 #[vb] w fun e w' => ∃ x vp ve vr u a,e = .returned (.tuple #[x,u,a,.int .i64 0]) ∧ SPW w w' x vp ve vr u a m sg ls:=by
 obtain ⟨k,hs,h32,hm,hcut⟩:=Qjd hx;have hsg:=Qcq h8 hs;have hG:=(QcL (hsg.take _) hm).1;obtain ⟨w0,hw0⟩ : ∃ w0,w0 = w.alloc (.cells #[.int .u64 0,.slice none 0 0,.slice none 0 0,.slice none 0 0] 44):=⟨_,rfl⟩
 have o0 : Only (fun _ => False) w w0:=by rw [hw0];exact (Only.refl _ _).alloc _
 have g0 : Hid (w0.heap[w.heap.size]? = some (.cells #[.int .u64 0,.slice none 0 0,.slice none 0 0,.slice none 0 0] 44 (0,0))):=by show _ = _;rw [hw0];exact heap_alloc_new _ _
 have NW:=Qaa (Qjf vb b w0 (hb.past o0) h8 hl);have HW:=Qaa (And.intro hw0 (And.intro o0 (show w0.heap.size = w.heap.size + 1 by rw [hw0];simp)));have HX:=Qaa (And.intro hs (And.intro h32 (And.intro hm (And.intro hcut (And.intro hsg hG)))));clear hb h8 hl hx hs h32 hm hcut hsg hG hw0 o0;go_enter Tryz.func23,Tryz.ntmps23;go_wp2_with fail;rw [← HW.out.1];refine NW.out.mono ?_;rintro e w1 ⟨R,v',rfl,cu,o1,r0,r1,hv⟩;have CM:=Qaa (QjE w1 (fun q hq => (hv q hq).2) cu HX.out.1 HX.out.2.1 HX.out.2.2.1 HX.out.2.2.2.2.1);have H1:=Qaa (And.intro o1 (And.intro r0 (And.intro r1 hv)));clear cu o1 r0 r1 hv NW;go_wp2_with fail;refine CM.out.mono ?_;rintro e w2 ⟨x,vp,ve,vr,u,rfl,mn,bu,nu,lu,⟨v2,cu,hv2⟩,o2⟩;have hf:=mn.mf.form;obtain ⟨ap,cp,ep⟩:=mn.mf.prev.len;obtain ⟨ae,ce,ee⟩:=mn.mf.es.len;obtain ⟨ar,cr,er⟩:=mn.mf.root.len;obtain ⟨au,cau,eu⟩:=bu.len;subst ep ee er hf eu;obtain ⟨W3,hW3⟩ : ∃ W,W = w2.alloc (.cells #[.int .u64 m.ver,.slice ap m.prev.length cp,.slice ae m.es.length ce,.slice ar m.root.length cr] 44):=⟨_,rfl⟩
 have o3 : Only (fun _ => False) w2 W3:=by rw [hW3];exact (Only.refl _ _).alloc _
 have gb:=show W3.heap[w2.heap.size]? = some (.cells #[.int .u64 m.ver,.slice ap m.prev.length cp,.slice ae m.es.length ce,.slice ar m.root.length cr] 44 (0,0)) by rw [hW3];exact heap_alloc_new _ _
 obtain ⟨⟨y0,y1,y2,y3⟩,_⟩:=Qaq gb;have CC:=Qaa (QdD (t:=[]) m.es ls (.slice ae m.es.length ce) W3 (cu.keep o3 (fun f => f) (fun _ _ f => f)) (fun q hq => by rw [hv2] at hq;have:=(H1.out.2.2.2 q hq).2;have:=o2.size;have:=o3.size;omega) (mn.mf.es.past o3) (fun q hq e => by have:=mn.be q hq;have:=H1.out.2.2.1;omega) HX.out.2.2.2.1 (fun e he => (HX.out.2.2.2.2.2.2.2.2.2 e he).2) HX.out.2.2.2.2.2.2.2.2.1);have gz:=o3.heap (o2.heap (H1.out.1.heap g0.out (fun f => f)) (fun e => by have:=H1.out.2.1;have:=HW.out.2.2;omega)) (fun f => f);have H3:=Qaa (And.intro (mn.past o3) (And.intro (bu.past o3) (And.intro nu (And.intro lu (And.intro (o2.trans (T:=fun _ => False) o3 (fun _ _ f => f.elim)) (And.intro gb (And.intro gz (show R < w2.heap.size by have:=H1.out.2.2.1;have:=o2.size;omega))))))));clear mn bu nu lu cu hv2 o2 o3 gb gz CM;subst hW3;go_wp2_with fail;refine CC.out.mono ?_;rintro e w4 ⟨a,rfl,hls,⟨v3,cu3,hv3⟩,o4⟩;have EN:=Qaa (QjF cu3);rw [show endV [] = 0 from rfl] at EN;obtain ⟨vs,lo,own⟩:=hls;obtain ⟨a4,c4,ea4⟩:=Qad own;subst ea4;have gb4:=o4.heap H3.out.2.2.2.2.2.1 (fun e => by have:=H3.out.2.2.2.2.2.2.2;omega);have hld:=Qag gb4;obtain ⟨⟨x0,x1,x2,x3⟩,_⟩:=Qaq gb4;have gz4:=o4.heap H3.out.2.2.2.2.2.2.1 (fun e => by have:=H1.out.2.1;have:=HW.out.2.2;omega);obtain ⟨⟨z0,z1,z2,z3⟩,f0,f1,f2,f3⟩:=Qaq gz4;have P4:=put4 gz4 (.int .u64 m.ver) (.slice ap m.prev.length cp) (.slice ae m.es.length ce) (.slice ar m.root.length cr)
 have F:=Qaa (And.intro (Qag P4.1) (show SPW w _ (.agg #[.int .u64 m.ver,.slice ap m.prev.length cp,.slice ae m.es.length ce,.slice ar m.root.length cr]) (.slice ap m.prev.length cp) (.slice ae m.es.length ce) (.slice ar m.root.length cr) (.slice au sg.length cau) (.slice a4 ls.length c4) m sg ls from by
  have q1:=H1.out.2.1;have q2:=HW.out.2.2;have q3:=H1.out.1.size;have q4:=H3.out.2.2.2.2.1.size;refine ⟨((H3.out.1.keep o4 H1.out.2.2.1).keep P4.2 (by omega)).lowS (by omega),(H3.out.2.1.keep o4 (fun q hq e => ?_)).keep P4.2 (fun q hq e => ?_),H3.out.2.2.1,⟨vs,lo.ne P4.2 gz4 (by decide),Qal (Qew P4.2 gz4 (by decide) own) (by omega)⟩,?_⟩
  ·have:=H3.out.2.2.2.1 q hq;have:=H1.out.2.2.1;omega
  ·have:=H3.out.2.2.2.1 q hq;omega
  ·exact ((HW.out.2.1.trans H1.out.1 (fun _ _ f => f.elim)).trans (H3.out.2.2.2.2.1.trans o4 (fun _ _ e => e)) (fun i hi e => by omega)).trans P4.2 (fun i hi e => by omega)))
 clear lo own gb4 gz4 P4 o4 CC H3 H1 y0 y1 y2 y3;go_wp2_with fail;refine EN.out.mono ?_;rintro e w5 ⟨rfl,rfl⟩;clear EN cu3;go_wp2;exact bodyPost_ret (Qaz rfl _ _ rfl rfl rfl rfl F.out.1) rfl ⟨_,_,_,_,_,_,rfl,F.out.2⟩
end Go.Proofs.YtcpopagikbjimaaGreatDoor
