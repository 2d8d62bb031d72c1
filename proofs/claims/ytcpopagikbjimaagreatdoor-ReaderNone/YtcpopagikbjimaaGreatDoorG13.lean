import Derived.Shelf.Bytes.SlSmallAll
import Derived.Test.YtcpopagikbjimaaGreatDoorG12
import Derived.Lib.TrailingZeros
import Derived.Deep.DrawnRows
namespace Go.Proofs.YtcpopagikbjimaaGreatDoor
set_option maxHeartbeats 800000
set_option maxRecDepth 100000
open Go.RowKit
def runR : Int → Nat → List Int → List Int
 | v,k,[] => gs v.toNat ++ gs k
 | v,k,x :: t => if x = v then runR v (k + 1) t else gs v.toNat ++ gs k ++ runR x 0 t
def runE : List Int → List Int
 | [] => []
 | x :: t => runR x 0 t
def runOn (acc : List Int) (v : Int) : Bool:=decide (0 < acc.length) && (acc.getD (acc.length - 1) 0 == v)
def runD : Nat → List Int → List Int → Nat → List Int × Int
 | 0,_,_,_ => ([],3)
 | f + 1,acc,ys,n =>
  if acc.length < n then
   if (Qab ys).2.2 ≠ 0 then ([],(Qab ys).2.2)
   else if (Qab (ys.drop (Qab ys).2.1)).2.2 ≠ 0 then ([],(Qab (ys.drop (Qab ys).2.1)).2.2)
   else if n - acc.length ≤ (Qab (ys.drop (Qab ys).2.1)).1.toNat ∨ runOn acc (Qab ys).1 = true then ([],3)
   else runD f (acc ++ List.replicate ((Qab (ys.drop (Qab ys).2.1)).1.toNat + 1) (Qab ys).1) ((ys.drop (Qab ys).2.1).drop (Qab (ys.drop (Qab ys).2.1)).2.1) n
  else if 0 < ys.length then ([],3) else (acc,0)
def QkX (ys : List Int) (n : Nat) : List Int × Int:=runD (n + 1) [] ys n
def ends (l : List Int) : Nat:=l.countP fun y => decide (y < 128)
def Qci : (List Int × List (Int × Int)):=([],[])
def MOST (n : Int) : Int:=if n < 0 then 1 else 1 + 8 * min n 65536
section
variable (e8 e11 : List Int → List Int) (d8 d11 : List Int → Int → List Int × Int)
def C5 (tn : List Int) (n : Int) (ti va rest : List Int) : (List Int × List (Int × Int)) × Int :=
 if rest ≠ [] then (Qci,3) else if (d8 ti n).2 ≠ 0 then (Qci,(d8 ti n).2) else if (d11 va n).2 ≠ 0 then (Qci,(d11 va n).2) else ((tn,(d8 ti n).1.zip (d11 va n).1),0)
def C4 (tn : List Int) (n : Int) (ti ys : List Int) : (List Int × List (Int × Int)) × Int :=
 if (Qae (MOST n) ys).2.2 ≠ 0 then (Qci,(Qae (MOST n) ys).2.2) else C5 d8 d11 tn n ti (Qae (MOST n) ys).1 (ys.drop (Qae (MOST n) ys).2.1)
def C3 (tn : List Int) (n : Int) (ys : List Int) : (List Int × List (Int × Int)) × Int :=
 if (Qae (MOST n) ys).2.2 ≠ 0 then (Qci,(Qae (MOST n) ys).2.2) else C4 d8 d11 tn n (Qae (MOST n) ys).1 (ys.drop (Qae (MOST n) ys).2.1)
def C2 (tn : List Int) (ys : List Int) : (List Int × List (Int × Int)) × Int :=
 if (Qab ys).2.2 ≠ 0 then (Qci,(Qab ys).2.2) else if 65536 < (Qab ys).1 then (Qci,4) else C3 d8 d11 tn (Qab ys).1 (ys.drop (Qab ys).2.1)
def C1 (ys : List Int) : (List Int × List (Int × Int)) × Int :=
 if (Qae 64 ys).2.2 ≠ 0 then (Qci,(Qae 64 ys).2.2) else C2 d8 d11 (Qae 64 ys).1 (ys.drop (Qae 64 ys).2.1)
end
variable {e8 e11 : List Int → List Int} {d8 d11 : List Int → Int → List Int × Int} {G8 G11 : List Int → Prop}
def dif : Int → List Int → List Int
 | _,[] => []
 | a,x :: t => wrap64 (x - a) :: dif x t
def sm : Int → List Int → List Int
 | _,[] => []
 | a,x :: t => wrap64 (a + x) :: sm (wrap64 (a + x)) t
def bh (f : List Int → List Int) (s : Nat) (l : List Int) : List Int:=l.take s ++ f (l.drop s)
def D : Nat → List Int → List Int
 | 0,l => l
 | k + 1,l => bh (dif 0) k (D k l)
def S : Nat → List Int → List Int
 | 0,l => l
 | k + 1,l => S k (bh (sm 0) k l)
def ap (s : Int) : Int → Nat → List Int
 | _,0 => []
 | x,n + 1 => x :: ap s (wrap64 (x + s)) n
def QkE (l : List Bool) (j : Nat) : Nat :=
 (l.getD (8 * j) false).toNat * 128 + (l.getD (8 * j + 1) false).toNat * 64 + (l.getD (8 * j + 2) false).toNat * 32 + (l.getD (8 * j + 3) false).toNat * 16 +
 (l.getD (8 * j + 4) false).toNat * 8 + (l.getD (8 * j + 5) false).toNat * 4 + (l.getD (8 * j + 6) false).toNat * 2 + (l.getD (8 * j + 7) false).toNat
def nb (l : List Bool) : Nat:=(l.length + 7) / 8
theorem Qfa {w : World} {B : Nat} {a b : Value} {T : TypeId} (h : w.heap[B]? = some (.cells #[a,b] T (0,0))) (c : Value) :
  (w.setCell ⟨B,0,none⟩ c).heap[B]? = some (.cells #[c,b] T (0,0)) ∧ (w.setCell ⟨B,1,none⟩ c).heap[B]? = some (.cells #[a,c] T (0,0)):=by
 have h0:=heap_setCell_same w B 0 #[a,b] T c h;have h1:=heap_setCell_same w B 1 #[a,b] T c h;exact ⟨by simpa using h0,by simpa using h1⟩
def Qcg (v n : Nat) : List Bool:=(List.range n).map fun i => v.testBit (n - 1 - i)
def Qgo (l : List Bool) : List Int:=(List.range (nb l)).map fun j => (QkE l j : Int)
def bitB (ys : List Int) (i : Nat) : Bool:=((ys.getD (i / 8) 0).toNat).testBit (7 - i % 8)
def Qdb (ys : List Int) : List Bool:=(List.range (8 * ys.length)).map (bitB ys)
def bnum (l : List Bool) : Nat:=l.foldl (fun a b => 2 * a + b.toNat) 0
def fits (x : Int × Int) : Prop:=0 ≤ x.2 ∧ x.2 ≤ 64 ∧ (wid x.1.toNat : Int) ≤ x.2
def pb (x : Int × Int) : List Bool:=if 0 ≤ x.2 ∧ x.2 ≤ 64 ∧ (wid x.1.toNat : Int) ≤ x.2 then Qcg x.1.toNat x.2.toNat else []
theorem eight (l : List Bool) (j : Nat) (h : 8 * j + 8 ≤ l.length) : (l.drop (8 * j)).take 8 = [l.getD (8 * j) false,l.getD (8 * j + 1) false,l.getD (8 * j + 2) false,l.getD (8 * j + 3) false,l.getD (8 * j + 4) false,l.getD (8 * j + 5) false,l.getD (8 * j + 6) false,l.getD (8 * j + 7) false]:=by
 have hg : ∀ i,i < 8 → ((l.drop (8 * j)).take 8)[i]? = some (l.getD (8 * j + i) false):=fun i hi => by
  rw [List.getElem?_take,if_pos hi,List.getElem?_drop,List.getD_eq_getElem?_getD,List.getElem?_eq_getElem (show 8 * j + i < l.length by omega)];rfl
 apply List.ext_getElem?
 intro i
 by_cases hi : i < 8
 ·rw [hg i hi]
  have hr : i = 0 ∨ i = 1 ∨ i = 2 ∨ i = 3 ∨ i = 4 ∨ i = 5 ∨ i = 6 ∨ i = 7:=by omega
  rcases hr with rfl | rfl | rfl | rfl | rfl | rfl | rfl | rfl <;> rfl
 ·rw [List.getElem?_eq_none (by rw [List.length_take];omega),List.getElem?_eq_none (by simp;omega)]
def loF (a : Int) (l : List Int) : Int:=l.foldl (fun m x => min m x) a
def hiF (a : Int) (l : List Int) : Int:=l.foldl (fun m x => max m x) a
def lo (l : List Int) : Int:=loF (l.getD 0 0) (l.drop 1)
def hi (l : List Int) : Int:=hiF (l.getD 0 0) (l.drop 1)
def wd (l : List Int) : Nat:=wid (hi l - lo l).toNat
def ups (a : Int) (w : Nat) (t : List Int) : List Bool:=t.flatMap fun x => Qcg (x - a).toNat w
def up (l : List Int) : List Bool:=ups (lo l) (wd l) l
def PK (l : List Int) : List Int:=gs (lo l).toNat ++ ((wd l : Int) :: Qgo (up l))
def nums (a : Nat) (w : Nat) (l : List Bool) (n : Nat) : List Int:=(List.range n).map fun i => (((a + bnum ((l.drop (i * w)).take w)) % 18446744073709551616 : Nat) : Int)
def rdl (b : List Int) (n : Nat) : Int × List Int :=
 if (Qab b).2.2 ≠ 0 then ((Qab b).2.2,[]) else
 if (b.drop (Qab b).2.1).length = 0 then (2,[]) else
 if 64 < (b.drop (Qab b).2.1).getD 0 0 then (3,[]) else
 if 8 * (b.drop ((Qab b).2.1 + 1)).length < n * ((b.drop (Qab b).2.1).getD 0 0).toNat then (2,[]) else
 (0,nums (Qab b).1.toNat ((b.drop (Qab b).2.1).getD 0 0).toNat (Qdb (b.drop ((Qab b).2.1 + 1))) n)
def UN (b : List Int) (n : Int) : Int × List Int :=
 if n < 0 ∨ 65536 < n then (1,[]) else
 if (rdl b n.toNat).1 ≠ 0 then ((rdl b n.toNat).1,[]) else
 if PK (rdl b n.toNat).2 = b then (0,(rdl b n.toNat).2) else (3,[])
def tab : List (Nat × Nat):=[(240,0),(120,0),(60,1),(30,2),(20,3),(15,4),(12,5),(10,6),(8,7),(7,8),(6,10),(5,12),(4,15),(3,20),(2,30),(1,60)]
def cn (s : Nat) : Nat:=(tab.getD s (0,0)).1
def swi (s : Nat) : Nat:=(tab.getD s (0,0)).2
def small (w : Nat) (xs : List Int) : Bool:=xs.all fun x => decide (x < 2 ^ w)
def fitB (xs : List Int) (s : Nat) : Bool:=decide (cn s ≤ xs.length) && small (swi s) (xs.take (cn s))
def Qjz : Nat → Nat → List Int → Nat
 | 0,s,_ => s
 | f + 1,s,xs => if fitB xs s = true then s else Qjz f (s + 1) xs
def least (xs : List Int) : Nat:=Qjz 15 0 xs
def wacc (a w : Nat) (zs : List Int) : Nat:=zs.foldl (fun a z => a * 2 ^ w + z.toNat) a
def wordN (s w : Nat) (zs : List Int) : Nat:=wacc s w zs * 2 ^ (60 - zs.length * w)
def numAt (v w i : Nat) : Nat:=v / 2 ^ (60 - (i + 1) * w) % 2 ^ w
def nms (v : Nat) : List Int:=(List.range (cn (v / 2 ^ 60))).map fun i => (numAt v (swi (v / 2 ^ 60)) i : Int)
theorem Qbo (va : Value) (xs : List Int) (v : Int) (w : World) (ha : Bs .u8 w va xs) (na : NoCap va) (hl : xs.length ≤ 1000000000) (h0 : 0 ≤ v) (h1 : v ≤ 18446744073709551615) :
  Calls Tryz.prog 65 #[va,.int .u64 v] w fun e w' => ∃ v',e = .returned v' ∧ w'.ownsRow w.heap.size 5 1 v' (xs ++ gs v.toNat).length ((xs ++ gs v.toNat).map (Value.int .u8)) ∧ Only (fun _ => False) w w':=by
 obtain ⟨i0,hi,hz0,hz1,hz2⟩:=info_parts Tryz.infoU8;have ho:=World.ownsRow_made (base:=w.heap.size) (e:=5) (size:=1) w #[] 0 (Nat.le_refl _) (by unfold maxLen;omega) rfl;have H10:=Qaa (Qa5 (v:=v.toNat) (by omega));have HA:=Qaa (ha.later ((Below.refl _ _).alloc (Nat.le_refl _) (.cells #[] 5)));have NA:=Qaa na;obtain ⟨aa,ca,rfl⟩:=ha.len;obtain ⟨m,hm⟩ : ∃ m,m = xs.length:=⟨_,rfl⟩;rw [← hm] at hl HA NA;rw [← hm];have HM:=Qaa hm;clear ha na hm;go_enter Tryz.func65,Tryz.ntmps65;go_wp2_with (at_builtin;refine Qac _ rfl _ _ _ rfl w.heap.size 5 i0 (.int .u8 0) 1 Tryz.underlying22 hi hz0 hz1 hz2 rfl _ 0 [] rfl ho .u8 _ xs rfl HA.out NA.out ?c3 ?c4 ?c5 ?_)
 case c3 => rw [← HM.out];unfold maxLen;omega
 case c4 => rw [← HM.out];omega
 case c5 => simp
 intro v' w1 hown1 hgrow _ _;rw [← HM.out] at hown1
 have START : Hid (w1.ownsRow w.heap.size 5 1 v' m (xs.map (Value.int .u8)) ∧ Below w.heap.size w w1):=by
  refine ⟨hown1,((Below.refl _ _).alloc (Nat.le_refl _) _).grown hgrow (by simp) (fun q hq => ?_)⟩;simp [Value.ownBlock] at hq;omega
 clear hown1 hgrow ho;go_wp2
 go_loopw [1,5] (fun a o wr => ∃ (x k : Nat) (p : List Int),a = .int .u64 x ∧ x < 18446744073709551616 ∧ p ++ gs x = gs v.toNat ∧ k = m + p.length ∧ wr.ownsRow w.heap.size 5 1 o k ((xs ++ p).map (Value.int .u8)) ∧ Below w.heap.size w wr) (fun a _ _ => (intOf a).toNat)
 case atStart => exact ⟨v.toNat,m,[],by rw [Int.toNat_of_nonneg h0],by omega,rfl,rfl,by rw [List.append_nil];exact START.out.1,START.out.2⟩
 case round =>
  obtain ⟨x,k,p,rfl,hx,hp,hk,hown,hbel⟩:=hrel
  have hk9 : k ≤ m + 9:=by
   have h:=congrArg List.length hp;have:=H10.out;have:=QfG x;rw [List.length_append] at h;omega
  have HP:=Qaa hp;have HK:=Qaa hk;have hsz:=hbel.size;clear hp hk START
  by_cases hlt : 127 < x
  ·have hlt' : decide (0 < (x : Int) / 128) = true:=by simp;omega
   obtain ⟨r,hr⟩ : ∃ r : Nat,r = x % 128:=⟨_,rfl⟩
   have hr1 : r < 128:=by omega
   have hr2 : ((x : Int) % 128) = (r : Int):=by omega
   have HR:=Qaa hr;clear hr;go_wp2_with (at_builtin;refine wpList_append_lies _ rfl _ _ _ rfl w.heap.size 5 i0 (.int .u8 0) 1 1 Tryz.underlying22 hi hz0 hz1 hz2 rfl (by omega) _ k ((xs ++ p).map (Value.int .u8)) rfl (hown.alloc _) ⟨wr.heap.size,0,none⟩ 1 1 [.int .u8 ((r : Int) + 128)] rfl rfl ?c1 ?c2 (by omega) ?c3 ?c4 ?c5 (wr.heap.size + 1) (by simp) ?_)
   case c1 => exact cell_one_new _ _ _
   case c2 => intro u hu;simp at hu;subst hu;rfl
   case c3 => unfold maxLen;omega
   case c4 => omega
   case c5 => simp;omega
   intro g cap1 w1 hown1 hgrow hat hg1;have hb1 : Below w.heap.size w w1:=(hbel.alloc hbel.size _).grown hgrow (by simp;omega) (fun q hq => (hown.lt q hq).1)
   have hown2 : w1.ownsRow w.heap.size 5 1 (.slice (some ⟨g,0,none⟩) (k + 1) cap1) (k + 1) ((xs ++ (p ++ [(r : Int) + 128])).map (Value.int .u8)):=by
    rw [List.map_append,List.map_append];exact hown1
   clear hown hown1 hgrow hat hbel;go_wp2
   go_roundw
   case rel =>
    refine ⟨x / 128,k + 1,p ++ [(r : Int) + 128],by go_num,by omega,?_,by rw [List.length_append,HK.out];rfl,hown2,hb1⟩;rw [← HP.out,Qcl (v:=x) (by omega),← HR.out];simp
   case measure => simp [intOf];omega
  ·have hlt' : decide (0 < (x : Int) / 128) = false:=by simp;omega
   go_wp2_with (at_builtin;refine wpList_append_lies _ rfl _ _ _ rfl w.heap.size 5 i0 (.int .u8 0) 1 1 Tryz.underlying22 hi hz0 hz1 hz2 rfl (by omega) _ k ((xs ++ p).map (Value.int .u8)) rfl (hown.alloc _) ⟨wr.heap.size,0,none⟩ 1 1 [.int .u8 (x : Int)] rfl rfl ?c1 ?c2 (by omega) ?c3 ?c4 ?c5 (wr.heap.size + 1) (by simp) ?_)
   case c1 => exact cell_one_new _ _ _
   case c2 => intro u hu;simp at hu;subst hu;rfl
   case c3 => unfold maxLen;omega
   case c4 => omega
   case c5 => simp;omega
   intro g cap1 w1 hown1 hgrow hat hg1;have hb1 : Below w.heap.size w w1:=(hbel.alloc hbel.size _).grown hgrow (by simp;omega) (fun q hq => (hown.lt q hq).1)
   have hown2 : Hid (w1.ownsRow w.heap.size 5 1 (.slice (some ⟨g,0,none⟩) (k + 1) cap1) (xs ++ gs v.toNat).length ((xs ++ gs v.toNat).map (Value.int .u8))):=by
    have e : (xs ++ gs v.toNat).length = k + 1:=by
     rw [← HP.out,QaO (v:=x) (by omega),List.length_append,List.length_append,← HM.out,HK.out];rfl
    rw [e,← HP.out,QaO (v:=x) (by omega),List.map_append,List.map_append];exact hown1
   have hb2:=Qaa hb1;clear hown hown1 hgrow hat hbel hb1;go_wp2;go_ret;exact ⟨_,rfl,hown2.out,QaW hb2.out⟩
theorem Qgc (k acc : Nat) (c : Int) (hk : k ≤ 9) (hacc : acc < 128 ^ k) (c0 : 0 ≤ c) (c1 : c ≤ 255) (h9 : k = 9 → c ≤ 1) :
  IntKind.u64.wrap ((acc : Int) + IntKind.u64.wrap (c % 128 * 2 ^ (7 * k))) = ((acc + (c % 128).toNat * 128 ^ k : Nat) : Int) ∧ acc + (c % 128).toNat * 128 ^ k < 128 ^ (k + 1):=by
 obtain ⟨m,rfl⟩:=Int.eq_ofNat_of_zero_le c0
 have e : ((m : Int) % 128).toNat = m % 128:=by omega
 have e2 : ((m : Int) % 128) = ((m % 128 : Nat) : Int):=by omega
 rw [e,e2]
 have p1 : (2 : Nat) ^ (7 * k) = 128 ^ k:=by rw [Nat.pow_mul]
 have w2 : ((m % 128 : Nat) : Int) * 2 ^ (7 * k) = ((m % 128 * 128 ^ k : Nat) : Int):=by
  rw [← p1];simp
 have hlt : acc + m % 128 * 128 ^ k < 18446744073709551616:=by
  rcases Nat.lt_or_ge k 9 with h | h
  ·have h1 : m % 128 * 128 ^ k ≤ 127 * 128 ^ k:=Nat.mul_le_mul_right _ (by omega)
   have h2 : 128 ^ k ≤ 128 ^ 8:=Nat.pow_le_pow_right (by omega) (by omega)
   have h3 : (128 : Nat) ^ 8 = 72057594037927936:=by decide
   omega
  ·have hk : k = 9:=by omega
   subst hk;have:=h9 rfl
   have h3 : (128 : Nat) ^ 9 = 9223372036854775808:=by decide
   have h1 : m % 128 * 128 ^ 9 ≤ 1 * 128 ^ 9:=Nat.mul_le_mul_right _ (by omega);omega
 have w3 : IntKind.u64.wrap ((m % 128 * 128 ^ k : Nat) : Int) = ((m % 128 * 128 ^ k : Nat) : Int):=by rw [IntKind.wrap_u64];omega
 have w4 : IntKind.u64.wrap ((acc : Int) + ((m % 128 * 128 ^ k : Nat) : Int)) = ((acc + m % 128 * 128 ^ k : Nat) : Int):=by rw [IntKind.wrap_u64];omega
 rw [w2,w3,w4];refine ⟨rfl,?_⟩;rw [Nat.pow_succ];have h1 : m % 128 * 128 ^ k ≤ 127 * 128 ^ k:=Nat.mul_le_mul_right _ (by omega);omega
theorem Qi8 (va : Value) (xs : List Int) (w : World) (ha : Bs .u8 w va xs) (hr : ∀ x ∈ xs,0 ≤ x ∧ x ≤ 255) :
  Calls Tryz.prog 66 #[va] w fun e w' => e = .returned (rdVal (rd 0 0 xs)) ∧ w = w':=by
 have HA:=Qaa ha;have HR:=Qaa hr;obtain ⟨aa,ca,rfl⟩:=ha.len;obtain ⟨n,hn⟩ : ∃ n,n = xs.length:=⟨_,rfl⟩;rw [← hn] at HA;rw [← hn];have HN:=Qaa hn;obtain ⟨R,hR⟩ : ∃ R,R = rd 0 0 xs:=⟨_,rfl⟩;rw [← hR];have HRD:=Qaa hR;clear ha hr hn hR;go_enter Tryz.func66,Tryz.ntmps66;go_wp2
 go_loop [5,6] (fun a i => ∃ (k : Nat) (acc : Nat),k ≤ n ∧ k ≤ 9 ∧ i = .int .i64 k ∧ a = .int .u64 acc ∧ acc < 128 ^ k ∧ rd k acc (xs.drop k) = R) (fun _ i => n - (intOf i).toNat)
 case atStart => exact ⟨0,0,by omega,by omega,rfl,rfl,by simp,by simpa using HRD.out.symm⟩
 case round =>
  obtain ⟨k,acc,hk,hk9,rfl,rfl,hacc,hrd⟩:=hrel
  by_cases hlt : k < n
  ·obtain ⟨b,off,cap',e1,hc⟩:=HA.out.at k (by rw [← HN.out];exact hlt)
   have ea : aa = some ⟨b,off,none⟩:=by simp at e1;exact e1.1
   subst ea;clear e1;have hcr:=HR.out (xs.getD k 0) (by rw [List.getD_eq_getElem?_getD,List.getElem?_eq_getElem (by rw [← HN.out];exact hlt)];simp);rw [rd_at xs k _ (by rw [← HN.out];exact hlt)] at hrd;generalize xs.getD k 0 = c at hc hcr hrd;have HD:=Qaa hrd;have HACC:=Qaa hacc;clear hrd hacc
   have i0 : (0 : Int) ≤ (k : Int):=by omega
   have i1 : (k : Int) < (n : Int):=by omega
   by_cases hF : k = 9 ∧ 1 < c
   ·obtain ⟨rfl,h1c⟩:=hF
    have hRR : R = (0,0,3):=by have:=HD.out;rw [if_pos ⟨rfl,h1c⟩] at this;exact this.symm
    subst hRR;go_wp2
    go_ret3
    exact ⟨rfl,rfl⟩
   ·have OS:=Qaa (Qgc k acc c hk9 HACC.out hcr.1 hcr.2 (by omega))
    by_cases h128 : 128 ≤ c
    ·have d9 : ((k : Int) == 9) = false:=by simp;omega
     go_wp2
     go_round
     case rel =>
      refine ⟨k + 1,acc + (c % 128).toNat * 128 ^ k,by omega,by omega,by go_num,by rw [OS.out.1],OS.out.2,?_⟩;have:=HD.out;rw [if_neg hF,if_pos h128] at this;rw [QfI k acc c];exact this
     case measure => simp [intOf];omega
    ·have d128 : decide (c < 128) = true:=by simp;omega
     by_cases h0 : c = 0 ∧ 0 < k
     ·obtain ⟨rfl,hk0⟩:=h0
      have hRR : R = (0,0,3):=by have:=HD.out;rw [if_neg hF,if_neg h128,if_pos ⟨rfl,hk0⟩] at this;exact this.symm
      subst hRR
      by_cases h9 : k = 9
      ·subst h9
       go_wp2
       go_ret3
       exact ⟨rfl,rfl⟩
      ·have d9 : ((k : Int) == 9) = false:=by simp;omega
       have dk : decide (0 < (k : Int)) = true:=by simp;omega
       go_wp2
       go_ret3
       exact ⟨rfl,rfl⟩
     ·have hRR : R = (acc + c * 128 ^ k,(k : Int) + 1,0):=by have:=HD.out;rw [if_neg hF,if_neg h128,if_neg h0] at this;exact this.symm
      subst hRR;have VS:=Qaa (QfH k acc c hcr.1 (by omega));have O9:=Qaa (OS.out.1.trans VS.out)
      by_cases h9 : k = 9
      ·subst h9
       have hc0 : (c == 0) = false:=by simp;omega
       have hc1 : decide (1 < c) = false:=by simp;omega
       go_wp2
       go_ret3
       refine ⟨Qc9 ?_ rfl rfl,rfl⟩;have ha:=HACC.out
       have h3 : (128 : Nat) ^ 9 = 9223372036854775808:=by decide
       have hc2 : c = 1:=by simp at hc0 hc1;omega
       rw [h3] at ha;rw [IntKind.wrap_u64,hc2];simp only;omega
      ·have d9 : ((k : Int) == 9) = false:=by simp;omega
       by_cases hc0 : c = 0
       ·have dk : decide (0 < (k : Int)) = false:=by simp;omega
        subst hc0;go_wp2
        go_ret3
        refine ⟨Qc9 ?_ rfl rfl,rfl⟩;have:=O9.out;rw [show (0 : Int) % 128 * 2 ^ (7 * k) = 0 by simp,show IntKind.u64.wrap 0 = 0 from rfl,Int.add_zero] at this
        simpa using this
       ·have dc : (c == 0) = false:=by simp;omega
        go_wp2
        all_goals go_ret3
        all_goals exact ⟨Qc9 O9.out rfl rfl,rfl⟩
  ·have hkn : k = n:=by omega
   subst hkn
   have hRR : R = (0,0,2):=by rw [← hrd,List.drop_of_length_le (by rw [← HN.out];omega)];rfl
   subst hRR;clear hrd hacc;go_wp2
   go_ret3
   exact ⟨rfl,rfl⟩
theorem Qi9 (va : Value) (xs : List Int) (w : World) {a b c : Int} (h : rd 0 0 xs = (a,b,c)) (ha : Bs .u8 w va xs) (hr : ∀ x ∈ xs,0 ≤ x ∧ x ≤ 255) :
  Calls Tryz.prog 66 #[va] w fun e w' => e = .returned (.tuple #[.int .u64 a,.int .i64 b,.int .i64 c]) ∧ w = w':=by
 have:=Qi8 va xs w ha hr;rw [h] at this;exact this
theorem NoCap.rest {ao : Option Addr} {m cap n m' : Nat} (h : NoCap (.slice ao m cap)) : NoCap (.slice (if cap = n then ao else ao.map (fun x => x.add n)) m' (cap - n)):=by
 cases ao with
 | none =>
  have:=h m cap rfl;subst this;intro a b e;simp at e;omega
 | some x =>
  split
  ·exact NoCap.some _ _ _
  ·exact NoCap.some _ _ _
def wd0 (xs : List Int) : Nat:=wordN (least xs) (swi (least xs)) (xs.take (cn (least xs)))
def encF : Nat → List Int → List Int
 | 0,_ => []
 | f + 1,xs => if xs = [] then [] else fixL (wd0 xs) 8 ++ encF f (xs.drop (cn (least xs)))
def enc (xs : List Int) : List Int:=encF xs.length xs
def rdF : Nat → Nat → List Int → List Int → List Int × List Int × Int
 | 0,_,acc,ys => (acc,ys,0)
 | f + 1,n,acc,ys => if acc.length < n then (if ys.length < 8 then ([],ys,2) else rdF f n (acc ++ nms (num (ys.take 8))) (ys.drop 8)) else (acc,ys,0)
def rdA (n : Nat) (ys : List Int) : List Int × List Int × Int:=rdF (ys.length + 1) n [] ys
def dec (ys : List Int) (n : Nat) : List Int × Int :=
 if (rdA n ys).2.2 ≠ 0 then ([],2) else if n < (rdA n ys).1.length then ([],3) else if enc (rdA n ys).1 = ys then ((rdA n ys).1,0) else ([],3)
theorem Qff : ∀ (xs ys : List Int),(∀ x ∈ xs,0 ≤ x ∧ x ≤ 255) → (∀ y ∈ ys,0 ≤ y ∧ y ≤ 255) → (xs.map fun n => UInt8.ofNat n.toNat) = (ys.map fun n => UInt8.ofNat n.toNat) → xs = ys
 | [],[],_,_,_ => rfl
 | [],y :: ys,_,_,h => by simp at h
 | x :: xs,[],_,_,h => by simp at h
 | x :: xs,y :: ys,hx,hy,h => by
  simp only [List.map_cons,List.cons.injEq] at h;have h1:=hx x List.mem_cons_self;have h2:=hy y List.mem_cons_self
  have e : x.toNat % 256 = y.toNat % 256:=by
   have:=congrArg UInt8.toNat h.1
   simpa using this
  have e2 : x = y:=by omega
  rw [e2,Qff xs ys (fun a ha => hx a (List.mem_cons_of_mem _ ha)) (fun a ha => hy a (List.mem_cons_of_mem _ ha)) h.2]
theorem Qh3 (xs ys : List Int) (hx : ∀ x ∈ xs,0 ≤ x ∧ x ≤ 255) (hy : ∀ y ∈ ys,0 ≤ y ∧ y ≤ 255) : ((strOfNums xs).toList == (strOfNums ys).toList) = decide (xs = ys):=by
 rw [Lib.strOfNums_toList,Lib.strOfNums_toList]
 by_cases h : xs = ys
 ·subst h;simp
 ·rw [decide_eq_false h]
  have : Lib.bytesOf xs ≠ Lib.bytesOf ys:=fun e => h (Qff xs ys hx hy e)
  simp [this]
theorem Qji (src dst e : TypeId) (va : Value) (xs : List Int) (w : World) (h : Bs .u8 w va xs) (hs : Tryz.prog.underlying src = some (.slice e)) (he : Tryz.prog.underlying e = some (.int .u8)) (hd : Tryz.prog.underlying dst = some .string) :
  (convert src dst va).run Tryz.prog w = .ok (.string (strOfNums xs)) w:=by
 obtain ⟨ao,cap,rfl,hc,hr⟩:=h
 by_cases h0 : xs = []
 ·subst h0
  exact run_convert_bytes_zero w src e hs he ao cap dst hd
 ·obtain ⟨b,off,rfl,hcell⟩:=hr h0
  exact run_convert_bytes_arg (P:=Tryz.prog) w src e hs he b off _ cap xs rfl hcell dst hd
theorem Qfg (va vb : Value) (xs ys : List Int) (w : World) (ha : Bs .u8 w va xs) (hb : Bs .u8 w vb ys) (hx : ∀ x ∈ xs,0 ≤ x ∧ x ≤ 255) (hy : ∀ y ∈ ys,0 ≤ y ∧ y ≤ 255) :
  Calls Tryz.prog 25 #[va,vb] w fun e w' => e = .returned (.bool (decide (xs = ys))) ∧ w = w':=by
 have h1:=Qji 22 9 5 va xs w ha Tryz.underlying22 Tryz.underlying5 Tryz.underlying9;have h2:=Qji 22 9 5 vb ys w hb Tryz.underlying22 Tryz.underlying5 Tryz.underlying9;rw [← Qh3 xs ys hx hy];clear ha hb hx hy;go_enter Tryz.func25,Tryz.ntmps25;go_wp2;go_ret;exact ⟨rfl,rfl⟩
theorem Qkp (va vb : Value) (xs : List Int) (w : World) (ha : Bs .u8 w va xs) (hb : Bs .u8 w vb xs) (hl : xs.length ≤ 140737488355328) :
  Calls Tryz.prog 38 #[va,vb] w fun e w' => e = .returned (.bool true) ∧ Only (fun _ => False) w w':=by
 obtain ⟨aoa,ca,rfl,hca,hra⟩:=ha;obtain ⟨aob,cb,rfl,hcb,hrb⟩:=hb
 have hbn : ((xs.length : Int) != (xs.length : Int)) = false:=by simp
 by_cases hx : xs = []
 ·subst hx
  clear hra hrb;simp only [List.length_nil];go_enter Tryz.func38,Tryz.ntmps38;go_wp2
  go_loop [5] (fun i => i = .int .i64 0) (fun _ => 0)
  case atStart => rfl
  case round =>
   subst hrel;go_wp2;go_ret;exact ⟨rfl,Only.refl _ _⟩
 ·obtain ⟨ba,oa,rfl,hcella⟩:=hra hx
  obtain ⟨bb,ob,rfl,hcellb⟩:=hrb hx;clear hra hrb hx;obtain ⟨n,hn⟩ : ∃ n,n = xs.length:=⟨_,rfl⟩;rw [← hn] at hbn hca hcb hcella hcellb hl ⊢;have HA : Hid (∀ j,j < n → w.cell? ⟨ba,oa + j,none⟩ = some (.int .u8 (xs.getD j 0))):=hcella;have HB : Hid (∀ j,j < n → w.cell? ⟨bb,ob + j,none⟩ = some (.int .u8 (xs.getD j 0))):=hcellb;clear hcella hcellb hn;go_enter Tryz.func38,Tryz.ntmps38;go_wp2
  go_loopw [5] (fun i wr => ∃ k : Nat,k ≤ n ∧ i = .int .i64 k ∧ Only (fun _ => False) w wr) (fun i _ => n - (intOf i).toNat)
  case atStart => exact ⟨0,Nat.zero_le _,rfl,Only.refl _ _⟩
  case round =>
   obtain ⟨k,hk,rfl,hon⟩:=hrel
   by_cases hlt : k < n
   ·obtain ⟨y,hy⟩ : ∃ y,y = xs.getD k 0:=⟨_,rfl⟩
    have h1 : wr.cell? ⟨ba,oa + k,none⟩ = some (.int .u8 y):=by
     have:=HA.out k hlt;rw [World.cell?_of_block (hon.block ba (World.block_lt_of_cell? w _ this) (fun f => f)),hy];exact this
    have h2 : wr.cell? ⟨bb,ob + k,none⟩ = some (.int .u8 y):=by
     have:=HB.out k hlt;rw [World.cell?_of_block (hon.block bb (World.block_lt_of_cell? w _ this) (fun f => f)),hy];exact this
    have i0 : (0 : Int) ≤ (k : Int):=by omega
    have i1 : (k : Int) < (n : Int):=by omega
    have hy1 : (y != y) = false:=by simp
    clear hy;go_wp2;go_quiet (fail);go_wp2
    go_roundw
    case rel => exact ⟨k + 1,by omega,by go_num,hon.drewN nq⟩
    case measure => simp [intOf];omega
   ·go_wp2
    go_ret;exact ⟨rfl,hon⟩
theorem QiW (va vb : Value) (xs ys : List Int) (w : World) (ha : Bs .u8 w va xs) (hb : Bs .u8 w vb ys) (h : xs.length ≠ ys.length) :
  Calls Tryz.prog 38 #[va,vb] w fun e w' => e = .returned (.bool false) ∧ Only (fun _ => False) w w':=by
 obtain ⟨aoa,ca,rfl⟩:=ha.len;obtain ⟨aob,cb,rfl⟩:=hb.len
 have hbn : ((xs.length : Int) != (ys.length : Int)) = true:=by simp;omega
 clear ha hb h;generalize xs.length = n at *;generalize ys.length = m at *;go_enter Tryz.func38,Tryz.ntmps38;go_wp2;go_ret;exact ⟨rfl,Only.refl _ _⟩
theorem Qkq (va vb : Value) (xs ys : List Int) (w : World) (ha : Bs .u8 w va xs) (hb : Bs .u8 w vb ys) (hlen : ys.length = xs.length) (hl : xs.length ≤ 140737488355328) (hne : xs ≠ ys) :
  Calls Tryz.prog 38 #[va,vb] w fun e w' => e = .returned (.bool false) ∧ Only (fun _ => False) w w':=by
 obtain ⟨aoa,ca,rfl,hca,hra⟩:=ha;obtain ⟨aob,cb,rfl,hcb,hrb⟩:=hb
 have hx : xs ≠ []:=by
  intro h0;subst h0;exact hne (List.eq_nil_of_length_eq_zero hlen).symm
 have hy : ys ≠ []:=by
  intro h0;subst h0;exact hx (List.eq_nil_of_length_eq_zero hlen.symm)
 obtain ⟨ba,oa,rfl,hcella⟩:=hra hx;obtain ⟨bb,ob,rfl,hcellb⟩:=hrb hy
 have HD : Hid (¬ ∀ j,j < xs.length → xs.getD j 0 = ys.getD j 0):=by
  intro h
  apply hne
  apply List.ext_getElem hlen.symm
  intro i h1 h2;have:=h i h1;rw [List.getD_eq_getElem?_getD,List.getD_eq_getElem?_getD,List.getElem?_eq_getElem h1,List.getElem?_eq_getElem h2] at this;exact this
 rw [hlen] at hcb hcellb ⊢
 have hbn : ((xs.length : Int) != (xs.length : Int)) = false:=by simp
 clear hra hrb hx hy hne hlen;obtain ⟨n,hn⟩ : ∃ n,n = xs.length:=⟨_,rfl⟩;rw [← hn] at hbn hca hcb hcella hcellb hl HD ⊢;have HA : Hid (∀ j,j < n → w.cell? ⟨ba,oa + j,none⟩ = some (.int .u8 (xs.getD j 0))):=hcella;have HB : Hid (∀ j,j < n → w.cell? ⟨bb,ob + j,none⟩ = some (.int .u8 (ys.getD j 0))):=hcellb;clear hcella hcellb hn;go_enter Tryz.func38,Tryz.ntmps38;go_wp2
 go_loopw [5] (fun i wr => ∃ k : Nat,k ≤ n ∧ i = .int .i64 k ∧ Only (fun _ => False) w wr ∧ ∀ j,j < k → xs.getD j 0 = ys.getD j 0) (fun i _ => n - (intOf i).toNat)
 case atStart => exact ⟨0,Nat.zero_le _,rfl,Only.refl _ _,fun j hj => absurd hj (by omega)⟩
 case round =>
  obtain ⟨k,hk,rfl,hon,hall⟩:=hrel;have HALL:=Qaa hall;clear hall
  by_cases hlt : k < n
  ·obtain ⟨y,hy⟩ : ∃ y,y = xs.getD k 0:=⟨_,rfl⟩
   obtain ⟨z,hz⟩ : ∃ z,z = ys.getD k 0:=⟨_,rfl⟩
   have h1 : wr.cell? ⟨ba,oa + k,none⟩ = some (.int .u8 y):=by
    have:=HA.out k hlt;rw [World.cell?_of_block (hon.block ba (World.block_lt_of_cell? w _ this) (fun f => f)),hy];exact this
   have h2 : wr.cell? ⟨bb,ob + k,none⟩ = some (.int .u8 z):=by
    have:=HB.out k hlt;rw [World.cell?_of_block (hon.block bb (World.block_lt_of_cell? w _ this) (fun f => f)),hz];exact this
   have i0 : (0 : Int) ≤ (k : Int):=by omega
   have i1 : (k : Int) < (n : Int):=by omega
   by_cases hyz : y = z
   ·have HE:=Qaa (show xs.getD k 0 = ys.getD k 0 by rw [← hy,← hz];exact hyz)
    subst hyz
    have hy1 : (y != y) = false:=by simp
    clear hy hz;go_wp2;go_quiet (fail);go_wp2
    go_roundw
    case rel => exact ⟨k + 1,by omega,by go_num,hon.drewN nq,fun j hj => by
     rcases Nat.lt_or_ge j k with h | h
     ·exact HALL.out j h
     ·rw [show j = k by omega];exact HE.out⟩
    case measure => simp [intOf];omega
   ·have hy1 : (y != z) = true:=by simpa using hyz
    clear hy hz hyz;go_wp2;go_quiet (fail);go_wp2;go_ret;exact ⟨rfl,hon.drewN nq⟩
  ·exact absurd (fun j hj => HALL.out j (by omega)) HD.out
theorem QiX (va vb : Value) (xs ys : List Int) (w : World) (ha : Bs .u8 w va xs) (hb : Bs .u8 w vb ys) (hl : xs.length ≤ 140737488355328) :
  Calls Tryz.prog 38 #[va,vb] w fun e w' => e = .returned (.bool (decide (xs = ys))) ∧ Only (fun _ => False) w w':=by
 by_cases h : xs = ys
 ·subst h
  rw [decide_eq_true rfl];exact Qkp va vb xs w ha hb hl
 ·rw [decide_eq_false h]
  by_cases hlen : ys.length = xs.length
  ·exact Qkq va vb xs ys w ha hb hlen hl h
  ·exact QiW va vb xs ys w ha hb (fun e => hlen e.symm)
def ENC (xs : List Int) : List Int × Int:=if 65536 < xs.length then ([],4) else if small 60 xs = true then (enc xs,0) else ([],1)
def DEC (ys : List Int) (n : Int) : List Int × Int:=if n < 0 ∨ 65536 < n then ([],1) else dec ys n.toNat
def RUND (ys : List Int) (n : Int) : List Int × Int:=if n < 0 ∨ 65536 < n then ([],1) else QkX ys n.toNat
def u64o (x : Int) : Int:=x % 18446744073709551616
def zsn (l : List Int) : List Int:=l.map zig
def zgn (l : List Int) : List Int:=l.map zag
def fx (l : List Int) : List Int:=l.flatMap fun x => fixL (u64o x) 8
def tms (tag : Nat) : Nat:=if tag = 3 ∨ tag = 4 then 2 else 1
def WOTH (z : List Int) (tag : Nat) : List Int × Int:=if tag = 2 then (PK z,0) else if tag = 3 then ENC z else if tag = 4 then (runE z,0) else (allG z,0)
def WAY (l : List Int) (tag : Nat) : List Int × Int :=
 if l = [] then ([],0) else if tag = 0 then (fx l,0) else
 if (WOTH ((zsn (D (tms tag) l)).drop 1) tag).2 ≠ 0 then ([],(WOTH ((zsn (D (tms tag) l)).drop 1) tag).2) else
 (gs ((zsn (D (tms tag) l)).getD 0 0).toNat ++ (WOTH ((zsn (D (tms tag) l)).drop 1) tag).1,0)
def fxN (ys : List Int) (n : Nat) : List Int:=(List.range n).map fun i => (num ((ys.drop (8 * i)).take 8) : Int)
def rFx (ys : List Int) (n : Nat) : List Int × Int:=if ys.length < 8 * n then ([],2) else (fxN ys n,0)
def rVs : Nat → List Int → List Int → List Int × List Int × Int
 | 0,acc,ys => (acc,ys,0)
 | n + 1,acc,ys => if (Qab ys).2.2 ≠ 0 then ([],ys,(Qab ys).2.2) else rVs n (acc ++ [(Qab ys).1]) (ys.drop (Qab ys).2.1)
def OTH (ys : List Int) (m tag : Nat) : List Int × Int :=
 if tag = 2 then ((UN ys m).2,(UN ys m).1) else if tag = 3 then DEC ys m else if tag = 4 then RUND ys m else ((rVs m [] ys).1,(rVs m [] ys).2.2)
def s64 (x : Int) : Int:=wrap64 x
def READ (ys : List Int) (n tag : Nat) : List Int × Int :=
 if n = 0 then ([],0) else if tag = 0 then ((rFx ys n).1.map s64,(rFx ys n).2) else
 if (Qab ys).2.2 ≠ 0 then ([],(Qab ys).2.2) else
 if (OTH (ys.drop (Qab ys).2.1) (n - 1) tag).2 ≠ 0 then ([],(OTH (ys.drop (Qab ys).2.1) (n - 1) tag).2) else
 (S (tms tag) (zag (Qab ys).1 :: zgn (OTH (ys.drop (Qab ys).2.1) (n - 1) tag).1),0)
def tzF : Nat → Nat → Nat
 | 0,_ => 0
 | f + 1,x => if x % 2 = 0 then tzF f (x / 2) + 1 else 0
def tz (x : Nat) : Nat:=tzF 64 x
def ldz (x : Nat) : Nat:=min (64 - wid x) 31
abbrev fitsW (x a z : Nat) : Prop:=a ≤ 64 - wid x ∧ z ≤ tz x
def newW (x : Nat) : List Bool:=true :: true :: (Qcg (ldz x) 5 ++ (Qcg (63 - ldz x - tz x) 6 ++ Qcg (x / 2 ^ tz x) (64 - ldz x - tz x)))
def gx (x : Nat) (wn : Option (Nat × Nat)) : List Bool × Option (Nat × Nat) :=
 if x = 0 then ([false],wn) else
 match wn with
 | none => (newW x,some (ldz x,tz x))
 | some (a,z) => if fitsW x a z then (true :: false :: Qcg (x / 2 ^ z) (64 - a - z),some (a,z)) else (newW x,some (ldz x,tz x))
def gE : Nat → Option (Nat × Nat) → List Int → List Bool
 | _,_,[] => []
 | p,wn,y :: t => (gx (p ^^^ y.toNat) wn).1 ++ gE y.toNat (gx (p ^^^ y.toNat) wn).2 t
def GB : List Int → List Bool
 | [] => []
 | y :: t => Qcg y.toNat 64 ++ gE y.toNat none t
def gR (wn : Option (Nat × Nat)) : List Bool → Nat × Option (Nat × Nat) × List Bool × Int
 | [] => (0,wn,[],2)
 | false :: r => (0,wn,r,0)
 | [true] => (0,wn,[],2)
 | true :: false :: r =>
  match wn with
  | none => (0,none,r,3)
  | some (a,z) => if r.length < 64 - a - z then (0,wn,r,2) else (bnum (r.take (64 - a - z)) * 2 ^ z,wn,r.drop (64 - a - z),0)
 | true :: true :: r =>
  if r.length < 5 then (0,wn,r,2) else
  if r.length < 11 then (0,wn,r,2) else
  if 63 < bnum (r.take 5) + bnum ((r.drop 5).take 6) then (0,wn,r,3) else
  if r.length < 12 + bnum ((r.drop 5).take 6) then (0,wn,r,2) else
  (bnum ((r.drop 11).take (bnum ((r.drop 5).take 6) + 1)) * 2 ^ (63 - bnum (r.take 5) - bnum ((r.drop 5).take 6)),some (bnum (r.take 5),63 - bnum (r.take 5) - bnum ((r.drop 5).take 6)),r.drop (12 + bnum ((r.drop 5).take 6)),0)
def ENC9 (l : List Int) : List Int × Int:=if 65536 < l.length then ([],4) else (Qgo (GB l),0)
def dct : List Int → List Int → List Int
 | d,[] => d
 | d,x :: t => if x ∈ d then dct d t else dct (d ++ [x]) t
def dic (l : List Int) : List Int:=dct [] l
def plc (d : List Int) (v : Int) : Nat:=d.idxOf v
def wP (k : Nat) : Nat:=if k = 0 then 0 else wid (k - 1)
def bitsP (w : Nat) (ps : List Nat) : List Bool:=ps.flatMap fun p => Qcg p w
def rdP (w : Nat) : Nat → List Bool → List Nat
 | 0,_ => []
 | n + 1,k => bnum (k.take w) :: rdP w n (k.drop w)
def fx8 (d : List Int) : List Int:=d.flatMap fun v => fixL v 8
def rd8 : Nat → List Int → List Int
 | 0,_ => []
 | n + 1,b => ((num (b.take 8) : Nat) : Int) :: rd8 n (b.drop 8)
def QkI (d l : List Int) : List Bool:=bitsP (wP d.length) (l.map (plc d))
def ENC10 (l : List Int) : List Int × Int:=if 65536 < l.length then ([],4) else (gs (dic l).length ++ (fx8 (dic l) ++ Qgo (QkI (dic l) l)),0)
def Qk8 (l : List Int) (k : Nat) : Nat:=(dic (l.take k)).length
def Qja (l : List Int) : Bool:=l.all fun x => x == l.getD 0 0
abbrev Qkz (l : List Int) : Prop:=Qja l = true
def W11 (l : List Int) (tag : Nat) : List Int × Int :=
 if tag = 0 then (fx8 l,0) else if tag = 1 then (if l = [] ∨ ¬ Qkz l then ([],1) else (fixL (l.getD 0 0) 8,0)) else if tag = 2 then ENC10 l else ENC9 l
section
open Go.ChangeShapes Go.WideShapes
def Sps (w : World) (v : Value) (s : List (Int × Int)) : Prop :=
 ∃ ao cap,v = .slice ao s.length cap ∧ s.length ≤ cap ∧ (s ≠ [] → ∃ b off,ao = some ⟨b,off,none⟩ ∧ ∀ j,j < s.length →
  w.cell? ⟨b,off + j * 2,none⟩ = some (.int .i64 (s.getD j (0,0)).1) ∧ w.cell? ⟨b,off + j * 2 + 1,none⟩ = some (.int .u64 (s.getD j (0,0)).2))
theorem Sps.keep {w w' : World} {v : Value} {s : List (Int × Int)} (h : Sps w v s) {S : Nat → Prop} (ho : Only S w w') (hs : ∀ b,v.ownBlock = some b → ¬ S b) : Sps w' v s:=by
 obtain ⟨ao,cap,rfl,hl,hr⟩:=h;refine ⟨ao,cap,rfl,hl,fun hne => ?_⟩;obtain ⟨b,off,rfl,hc⟩:=hr hne;refine ⟨b,off,rfl,fun j hj => ?_⟩;have hb : ¬ S b:=hs b rfl;obtain ⟨h0,h1⟩:=hc j hj;have hlt : b < w.heap.size:=World.block_lt_of_cell? w _ h0;have e:=ho.block b hlt hb;exact ⟨by rw [← h0];unfold World.cell?;rw [e],by rw [← h1];unfold World.cell?;rw [e]⟩
theorem Sps.past {w w' : World} {v : Value} {s : List (Int × Int)} (h : Sps w v s) (o : Only (fun _ => False) w w') : Sps w' v s:=h.keep o (fun _ _ f => f)
end
def Tab (w : World) : Prop:=∀ j,j < 64 → w.cell? ⟨0,j,none⟩ = some (.int .u8 ((Lib.deBruijn64tab.getD j 0 : Nat) : Int))
def W2 (wn : Option (Nat × Nat)) (a d : Nat) : Prop:=(wn = none ∧ a = 0 ∧ d = 0) ∨ ∃ z,wn = some (a,z) ∧ a ≤ 31 ∧ a + z + d = 64 ∧ 0 < d
theorem QaG {w : World} {K : Nat} {a b : Value} {T : TypeId} (x y : Value) (h : w.heap[K]? = some (.cells #[a,b] T (0,0))) :
  ((w.setCell ⟨K,0,none⟩ x).setCell ⟨K,1,none⟩ y).heap[K]? = some (.cells #[x,y] T (0,0)):=(Qfa ((Qfa h x).1) y).2
section
attribute [local go_sem ↓] Go.wp_at_zero Go.wp_at_succ
def five {α : Type} (a b c d e : α) : Nat → α
 | 0 => a
 | 1 => b
 | 2 => c
 | 3 => d
 | _ => e
end
end Go.Proofs.YtcpopagikbjimaaGreatDoor
