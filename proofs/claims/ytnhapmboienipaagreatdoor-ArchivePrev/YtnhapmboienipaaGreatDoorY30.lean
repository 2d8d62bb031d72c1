import Derived.Test.YtnhapmboienipaaGreatDoorY14
import Derived.WalkKit
import Derived.Test.YtnhapmboienipaaGreatDoorY1
import Derived.Test.YtnhapmboienipaaGreatDoorProg
import Derived.Test.YtnhapmboienipaaGreatDoorY5
import Derived.Deep.WholeRow
import Derived.Test.YtnhapmboienipaaGreatDoorY2
import Derived.Deep.RegionLaw
import Derived.BigRegion
import Derived.ScopeJumps
import Derived.WalkMore
namespace Go.Proofs.YtnhapmboienipaaGreatDoor
set_option maxHeartbeats 800000
set_option maxRecDepth 100000
open Go.RowKit _root_.Go.Proofs.Tryz
def runR:Int→Nat→List Int→List Int
 | v,k,[]=>gs v.toNat++gs k
 | v,k,x :: t=>if x=v then runR v (k+1) t else gs v.toNat++gs k++runR x 0 t
def runE:List Int→List Int
 | []=>[]
 | x :: t=>runR x 0 t
def Qfl (v:Int) (t:List Int):Prop:=∀x r,t=x :: r→x≠v
theorem Qhe (v:Int):Qfl v []:=fun x r h=>by cases h
theorem QpP (v:Int) (i:Nat):∀(k:Nat) (r:List Int),runR v k (List.replicate i v++r)=runR v (k+i) r:=by
 induction i with
 | zero=>intro k r;rfl
 | succ i ih =>
  intro k r;rw [List.replicate_succ,List.cons_append,runR,if_pos rfl,ih,Nat.add_assoc,Nat.add_comm 1 i]
theorem QpQ {v:Int} {t:List Int} (h:Qfl v t) (k:Nat):runR v k t=gs v.toNat++gs k++runE t:=by
 cases t with
 | nil=>simp [runR,runE]
 | cons x r=>rw [runR,if_neg (h x r rfl),runE]
theorem QcF {v:Int} {t:List Int} (h:Qfl v t) (m:Nat):runE (List.replicate (m+1) v++t)=gs v.toNat++gs m++runE t:=by
 rw [List.replicate_succ,List.cons_append,runE,QpP,Nat.zero_add,QpQ h]
theorem Qhf:∀(l:List Int),l≠[]→∃v m t,l=List.replicate (m+1) v++t∧Qfl v t
 | [],h=>absurd rfl h
 | [x],_=>⟨x,0,[],rfl,Qhe x⟩
 | x :: y :: t,_=>by
  obtain ⟨v,m,t',e,ha⟩:=Qhf (y :: t) (by simp)
  by_cases h:x=v
  ·exact ⟨v,m+1,t',by rw [h,e,List.replicate_succ (n:=m+1)];rfl,ha⟩
  ·refine ⟨x,0,y :: t,rfl,fun a r e2=>?_⟩
   have:y=v:=by
    rw [List.replicate_succ] at e;simp at e;exact e.1
   simp at e2;rw [←e2.1,this]
   exact fun h2=>h h2.symm
theorem Qnj {P:List Int→Prop} (h0:P []) (h1:∀v m t,Qfl v t→P t→P (List.replicate (m+1) v++t)) (l:List Int):P l:=by
 induction hn:l.length using Nat.strongRecOn generalizing l with
 | _ n ih =>
  by_cases hl:l=[]
  ·subst hl;exact h0
  ·obtain ⟨v,m,t,rfl,ha⟩:=Qhf l hl
   refine h1 v m t ha (ih t.length ?_ t rfl);rw [←hn,Yae,List.length_replicate];omega
theorem U64.tail {v:Int} {m:Nat} {t:List Int} (h:U64 (List.replicate (m+1) v++t)):U64 t:=fun x hx=>h x (by simp [hx])
theorem U64.head {v:Int} {m:Nat} {t:List Int} (h:U64 (List.replicate (m+1) v++t)):0≤v∧v≤18446744073709551615:=h v (by simp)
theorem QkF (l:List Int):∀y∈runE l,0≤y∧y≤255:=by
 induction l using Qnj with
 | h0=>intro y hy;cases hy
 | h1 v m t ha ih =>
  rw [QcF ha];intro y hy
  rcases List.mem_append.1 hy with hy | hy
  ·rcases List.mem_append.1 hy with hy | hy
   ·exact Qa8 _ y hy
   ·exact Qa8 _ y hy
  ·exact ih y hy
theorem QjC (l:List Int):U64 l→l.length<18446744073709551616→(runE l).length≤20*l.length:=by
 induction l using Qnj with
 | h0=>intro _ _;simp [runE]
 | h1 v m t ha ih =>
  intro hu hl;rw [Yae,List.length_replicate] at hl;have hv:=hu.head;have h1:=QaC (v:=v.toNat) (by omega);have h2:=QaC (v:=m) (by omega);have h3:=ih hu.tail (by omega);rw [QcF ha,Yae,Yae,Yae,List.length_replicate];omega
theorem QpR (v:Int) (m:Nat):runE (List.replicate (m+1) v)=gs v.toNat++gs m:=by
 have:=QcF (Qhe v) m;rw [List.append_nil] at this;rw [this];simp [runE]
theorem Qnk {l:List Int} {i:Nat} (h0:0<i) (hi:i<l.length) (hs:∀j,j<i→l.getD j 0=l.getD 0 0) (hd:l.getD i 0≠l.getD 0 0):runE l=gs (l.getD 0 0).toNat++gs (i - 1)++runE (l.drop i):=by
 have e:l=List.replicate (i - 1+1) (l.getD 0 0)++l.drop i:=by
  have ht:l.take i=List.replicate (i - 1+1) (l.getD 0 0):=by
   apply List.ext_getElem
   ·rw [Yag,List.length_replicate];omega
   ·intro j h1 h2
    rw [Yag] at h1;have:=hs j (by omega);rw [List.getElem_take,List.getElem_replicate,←this,Yad,Yaf (by omega)]
    rfl
  rw [←ht,List.take_append_drop]
 have ha:Qfl (l.getD 0 0) (l.drop i):=by
  intro x r e2;have:=List.drop_eq_getElem_cons hi;rw [this] at e2
  injection e2 with e3 _
  rw [←e3];rw [Yad,Yaf hi] at hd;exact hd
 have key:=QcF ha (i - 1);rw [←e] at key;exact key
theorem QpS {l:List Int} (h0:0<l.length) (hs:∀j,j<l.length→l.getD j 0=l.getD 0 0):runE l=gs (l.getD 0 0).toNat++gs (l.length - 1):=by
 have e:l=List.replicate (l.length - 1+1) (l.getD 0 0):=by
  apply List.ext_getElem
  ·rw [List.length_replicate];omega
  ·intro j h1 h2
   have:=hs j h1;rw [List.getElem_replicate,←this,Yad,Yaf h1]
   rfl
 have key:=QpR (l.getD 0 0) (l.length - 1);rw [←e] at key;exact key
def runOn (acc:List Int) (v:Int):Bool:=decide (0<acc.length) && (acc.getD (acc.length - 1) 0 == v)
def runD:Nat→List Int→List Int→Nat→List Int × Int
 | 0,_,_,_=>([],3)
 | f+1,acc,ys,n =>
  if acc.length<n then
   if (Qac ys).2.2≠0 then ([],(Qac ys).2.2)
   else if (Qac (ys.drop (Qac ys).2.1)).2.2≠0 then ([],(Qac (ys.drop (Qac ys).2.1)).2.2)
   else if n - acc.length≤(Qac (ys.drop (Qac ys).2.1)).1.toNat∨runOn acc (Qac ys).1=true then ([],3)
   else runD f (acc++List.replicate ((Qac (ys.drop (Qac ys).2.1)).1.toNat+1) (Qac ys).1) ((ys.drop (Qac ys).2.1).drop (Qac (ys.drop (Qac ys).2.1)).2.1) n
  else if 0<ys.length then ([],3) else (acc,0)
def Quw (ys:List Int) (n:Nat):List Int × Int:=runD (n+1) [] ys n
def ends (l:List Int):Nat:=l.countP fun y=>decide (y<128)
def QdO:(List Int × List (Int × Int)):=([],[])
def MOST (n:Int):Int:=if n<0 then 1 else 1+8*min n 65536
section
variable (e8 e11:List Int→List Int) (d8 d11:List Int→Int→List Int × Int)
def ENC12 (tn:List Int) (s:List (Int × Int)):List Int × Int :=
 if 64<tn.length∨65536<s.length then ([],4) else (1 :: (blk tn++(gs s.length++(blk (e8 (s.map Prod.fst))++blk (e11 (s.map Prod.snd))))),0)
def C5 (tn:List Int) (n:Int) (ti va rest:List Int):(List Int × List (Int × Int)) × Int :=
 if rest≠[] then (QdO,3) else if (d8 ti n).2≠0 then (QdO,(d8 ti n).2) else if (d11 va n).2≠0 then (QdO,(d11 va n).2) else ((tn,(d8 ti n).1.zip (d11 va n).1),0)
def C4 (tn:List Int) (n:Int) (ti ys:List Int):(List Int × List (Int × Int)) × Int :=
 if (Qam (MOST n) ys).2.2≠0 then (QdO,(Qam (MOST n) ys).2.2) else C5 d8 d11 tn n ti (Qam (MOST n) ys).1 (ys.drop (Qam (MOST n) ys).2.1)
def C3 (tn:List Int) (n:Int) (ys:List Int):(List Int × List (Int × Int)) × Int :=
 if (Qam (MOST n) ys).2.2≠0 then (QdO,(Qam (MOST n) ys).2.2) else C4 d8 d11 tn n (Qam (MOST n) ys).1 (ys.drop (Qam (MOST n) ys).2.1)
def C2 (tn:List Int) (ys:List Int):(List Int × List (Int × Int)) × Int :=
 if (Qac ys).2.2≠0 then (QdO,(Qac ys).2.2) else if 65536<(Qac ys).1 then (QdO,4) else C3 d8 d11 tn (Qac ys).1 (ys.drop (Qac ys).2.1)
def C1 (ys:List Int):(List Int × List (Int × Int)) × Int :=
 if (Qam 64 ys).2.2≠0 then (QdO,(Qam 64 ys).2.2) else C2 d8 d11 (Qam 64 ys).1 (ys.drop (Qam 64 ys).2.1)
end
variable {e8 e11:List Int→List Int} {d8 d11:List Int→Int→List Int × Int} {G8 G11:List Int→Prop}
def G64 (x:Int):Prop:=-9223372036854775808≤x∧x≤9223372036854775807
theorem w64_g (x:Int):G64 (wrap64 x):=by unfold G64 wrap64;omega
def dif:Int→List Int→List Int
 | _,[]=>[]
 | a,x :: t=>wrap64 (x - a) :: dif x t
def sm:Int→List Int→List Int
 | _,[]=>[]
 | a,x :: t=>wrap64 (a+x) :: sm (wrap64 (a+x)) t
def bh (f:List Int→List Int) (s:Nat) (l:List Int):List Int:=l.take s++f (l.drop s)
def D:Nat→List Int→List Int
 | 0,l=>l
 | k+1,l=>bh (dif 0) k (D k l)
def S:Nat→List Int→List Int
 | 0,l=>l
 | k+1,l=>S k (bh (sm 0) k l)
theorem Qkb (a:Int) (l:List Int):(dif a l).length=l.length:=by
 induction l generalizing a with
 | nil=>rfl
 | cons x t ih=>simp [dif,ih]
theorem dif_g (a:Int) (l:List Int):∀x∈dif a l,G64 x:=by
 induction l generalizing a with
 | nil=>intro x hx;simp [dif] at hx
 | cons y t ih =>
  intro x hx;simp only [dif,List.mem_cons] at hx
  rcases hx with rfl | hx
  ·exact w64_g _
  ·exact ih _ x hx
theorem QlE {f:List Int→List Int} (hf:∀l,(f l).length=l.length) (s:Nat) (l:List Int):(bh f s l).length=l.length:=by
 simp only [bh,Yae,Yag,hf,Yai];omega
theorem bh_g {f:List Int→List Int} (hf:∀l,∀x∈f l,G64 x) (s:Nat) (l:List Int) (h:∀x∈l,G64 x):∀x∈bh f s l,G64 x:=by
 intro x hx;simp only [bh,List.mem_append] at hx
 rcases hx with hx | hx
 ·exact h x (List.mem_of_mem_take hx)
 ·exact hf _ x hx
theorem Qd0 (k:Nat) (l:List Int):(D k l).length=l.length:=by
 induction k with
 | zero=>rfl
 | succ k ih=>rw [D,QlE (Qkb 0),ih]
theorem D_g (k:Nat) (l:List Int) (h:∀x∈l,G64 x):∀x∈D k l,G64 x:=by
 induction k with
 | zero=>exact h
 | succ k ih=>exact bh_g (dif_g 0) k _ ih
def ap (s:Int):Int→Nat→List Int
 | _,0=>[]
 | x,n+1=>x :: ap s (wrap64 (x+s)) n
theorem Tryz.infoI64:(prog.info? 3).map (fun i=>(i.zero,i.size,i.bytes))=some (some (.int .i64 0),1,8):=by kernel_rfl
theorem Tryz.infoU64:(prog.info? 23).map (fun i=>(i.zero,i.size,i.bytes))=some (some (.int .u64 0),1,8):=by kernel_rfl
def tab:List (Nat × Nat):=[(240,0),(120,0),(60,1),(30,2),(20,3),(15,4),(12,5),(10,6),(8,7),(7,8),(6,10),(5,12),(4,15),(3,20),(2,30),(1,60)]
def cn (s:Nat):Nat:=(tab.getD s (0,0)).1
def swi (s:Nat):Nat:=(tab.getD s (0,0)).2
theorem QpX:∀s:Fin 16,1≤cn s.val∧cn s.val≤240∧swi s.val≤60∧cn s.val*swi s.val≤60∧(s.val<15→swi s.val≤30∧2≤cn s.val):=by decide +kernel
theorem QcZ (s:Nat) (h:s<16):1≤cn s∧cn s≤240∧swi s≤60∧cn s*swi s≤60∧(s<15→swi s≤30∧2≤cn s):=QpX ⟨s,h⟩
def Up (w:Nat) (xs:List Int):Prop:=∀x∈xs,0≤x∧x<2^w
theorem QpY {a b:Nat} (h:a≤b):(2:Int)^a≤2^b:=by
 have:2^a≤2^b:=Nat.pow_le_pow_right (by omega) h
 have e1:((2^a:Nat):Int)=2^a:=by simp
 have e2:((2^b:Nat):Int)=2^b:=by simp
 omega
theorem Up.take {a:Nat} {xs:List Int} (h:Up a xs) (n:Nat):Up a (xs.take n):=fun x hx=>h x (List.mem_of_mem_take hx)
theorem Up.drop {a:Nat} {xs:List Int} (h:Up a xs) (n:Nat):Up a (xs.drop n):=fun x hx=>h x (List.mem_of_mem_drop hx)
def small (w:Nat) (xs:List Int):Bool:=xs.all fun x=>decide (x<2^w)
theorem Qf5 {w:Nat} {xs:List Int} (h:small w xs=true) (h0:∀x∈xs,0≤x):Up w xs:=fun x hx=>⟨h0 x hx,by
 have:=List.all_eq_true.1 h x hx
 simpa using this⟩
theorem QjH {w:Nat} {xs:List Int} (h:Up w xs):small w xs=true:=by
 unfold small;rw [List.all_eq_true];intro x hx
 simpa using (h x hx).2
theorem QkI (w:Nat) (xs:List Int) (x:Int):small w (xs++[x])=(small w xs && decide (x<2^w)):=by simp [small]
theorem QpZ {w:Nat} {xs:List Int} {k:Nat} (hk:k<xs.length) (h:¬xs.getD k 0<2^w):small w xs=false:=by
 rw [Bool.eq_false_iff];intro hs;have:=List.all_eq_true.1 hs (xs.getD k 0) (by rw [Yad,Yaf hk];simp);simp only [decide_eq_true_eq] at this;exact h this
def fitB (xs:List Int) (s:Nat):Bool:=decide (cn s≤xs.length) && small (swi s) (xs.take (cn s))
def QbF:Nat→Nat→List Int→Nat
 | 0,s,_=>s
 | f+1,s,xs=>if fitB xs s=true then s else QbF f (s+1) xs
def least (xs:List Int):Nat:=QbF 15 0 xs
theorem fit15 {xs:List Int} (h:xs≠[]) (hu:Up 60 xs):fitB xs 15=true:=by
 have:0<xs.length:=List.length_pos_iff.2 h;have e1:cn 15=1:=rfl;have e2:swi 15=60:=rfl;unfold fitB;rw [e1,e2,QjH (hu.take 1)];simp;omega
theorem QdD {xs:List Int} {s:Nat} (h:fitB xs s=true) (f:Nat):QbF f s xs=s:=by
 cases f with
 | zero=>rfl
 | succ f=>simp [QbF,h]
theorem Qix {xs:List Int} {s:Nat} (h:fitB xs s=false) (hs:s<15):QbF (15 - s) s xs=QbF (15 - (s+1)) (s+1) xs:=by
 obtain ⟨f,hf⟩:∃f,15 - s=f+1:=⟨14 - s,by omega⟩;rw [hf,show 15 - (s+1)=f by omega];simp [QbF,h]
theorem QeO {xs:List Int} (h:fitB xs 15=true):∀f s,s+f=15→QbF f s xs<16∧fitB xs (QbF f s xs)=true
 | 0,s,e=>by
  obtain rfl:s=15:=by omega
  exact ⟨by simp [QbF],h⟩
 | f+1,s,e=>by
  by_cases hs:fitB xs s=true
  ·rw [QdD hs]
   exact ⟨by omega,hs⟩
  ·have:QbF (f+1) s xs=QbF f (s+1) xs:=by simp [QbF,hs]
   rw [this];exact QeO h f (s+1) (by omega)
theorem QbW {xs:List Int} (h:xs≠[]) (hu:Up 60 xs):least xs<16∧cn (least xs)≤xs.length∧Up (swi (least xs)) (xs.take (cn (least xs))):=by
 obtain ⟨h1,h2⟩:=QeO (fit15 h hu) 15 0 rfl;unfold fitB at h2;rw [Bool.and_eq_true,decide_eq_true_eq] at h2;exact ⟨h1,h2.1,Qf5 h2.2 (fun x hx=>(hu.take _ x hx).1)⟩
def wacc (a w:Nat) (zs:List Int):Nat:=zs.foldl (fun a z=>a*2^w+z.toNat) a
theorem Qnv (a w:Nat) (zs:List Int) (z:Int):wacc a w (zs++[z])=wacc a w zs*2^w+z.toNat:=by simp [wacc]
theorem Qnw (a w:Nat) (zs:List Int) (z:Int):wacc a w (z :: zs)=wacc (a*2^w+z.toNat) w zs:=rfl
theorem QjI {w:Nat} {z:Int} (h:0≤z∧z<2^w):z.toNat<2^w:=by
 have e:((2^w:Nat):Int)=2^w:=by simp
 omega
theorem QdE (w:Nat):∀(zs:List Int) (a:Nat),Up w zs→∃r,wacc a w zs=a*2^(zs.length*w)+r∧r<2^(zs.length*w)
 | [],a,_=>⟨0,by simp [wacc],by simp⟩
 | z :: zs,a,h=>by
  obtain ⟨r,h1,h2⟩:=QdE w zs (a*2^w+z.toNat) (fun x hx=>h x (List.mem_cons_of_mem _ hx));have hz:=QjI (h z List.mem_cons_self);refine ⟨z.toNat*2^(zs.length*w)+r,?_,?_⟩
  ·rw [Qnw,h1,Yah,Nat.add_mul,Nat.mul_assoc,←Nat.pow_add,Nat.add_assoc]
   congr 3
   rw [Nat.add_mul];omega
  ·rw [Yah,Nat.add_mul,Nat.one_mul,Nat.pow_add,Nat.mul_comm (2^(zs.length*w)) (2^w)]
   have h3:(z.toNat+1)*2^(zs.length*w)≤2^w*2^(zs.length*w):=Nat.mul_le_mul_right _ hz;rw [Nat.add_mul,Nat.one_mul] at h3;omega
def wordN (s w:Nat) (zs:List Int):Nat:=wacc s w zs*2^(60 - zs.length*w)
theorem Qp0 {s w:Nat} {zs:List Int} (hs:s<16) (h:Up w zs) (hw:zs.length*w≤60):wordN s w zs<18446744073709551616:=by
 obtain ⟨r,h1,h2⟩:=QdE w zs s h
 have e:2^(zs.length*w)*2^(60 - zs.length*w)=2^60:=by rw [←Nat.pow_add];congr 1;omega
 have h3:wacc s w zs<16*2^(zs.length*w):=by
  have:(s+1)*2^(zs.length*w)≤16*2^(zs.length*w):=Nat.mul_le_mul_right _ (by omega);rw [Nat.add_mul,Nat.one_mul] at this;omega
 have h4:=Nat.mul_lt_mul_of_pos_right h3 (Nat.two_pow_pos (60 - zs.length*w));rw [Nat.mul_assoc,e] at h4
 have e60:(2:Nat)^60=1152921504606846976:=by decide
 unfold wordN;omega
def numAt (v w i:Nat):Nat:=v / 2^(60 - (i+1)*w) % 2^w
def nms (v:Nat):List Int:=(List.range (cn (v / 2^60))).map fun i=>(numAt v (swi (v / 2^60)) i:Int)
def Qat:Array Value:=#[.int .i64 240,.int .i64 0,.int .i64 120,.int .i64 0,.int .i64 60,.int .i64 1,.int .i64 30,.int .i64 2,.int .i64 20,.int .i64 3,.int .i64 15,.int .i64 4,.int .i64 12,.int .i64 5,.int .i64 10,.int .i64 6,.int .i64 8,.int .i64 7,.int .i64 7,.int .i64 8,.int .i64 6,.int .i64 10,.int .i64 5,.int .i64 12,.int .i64 4,.int .i64 15,.int .i64 3,.int .i64 20,.int .i64 2,.int .i64 30,.int .i64 1,.int .i64 60]
def zeroCells:Array Value:=#[.int .i64 0,.int .i64 0,.int .i64 0,.int .i64 0,.int .i64 0,.int .i64 0,.int .i64 0,.int .i64 0,.int .i64 0,.int .i64 0,.int .i64 0,.int .i64 0,.int .i64 0,.int .i64 0,.int .i64 0,.int .i64 0,.int .i64 0,.int .i64 0,.int .i64 0,.int .i64 0,.int .i64 0,.int .i64 0,.int .i64 0,.int .i64 0,.int .i64 0,.int .i64 0,.int .i64 0,.int .i64 0,.int .i64 0,.int .i64 0,.int .i64 0,.int .i64 0]
theorem Tryz.size45:(prog.info? 304).map (·.size)=some Qat.size:=by kernel_rfl
theorem Qhg:zeroCells.size=Qat.size:=by kernel_rfl
theorem QjD:Qat.all (·.oneCell')=true:=by kernel_rfl
theorem Qhh {fn:Func} {p:Tmp} {ty:TypeId} (h:fn.results=#[.cell p ty]) (tmps:Array Value) (P:Program) (w:World) {a:Addr} {v:Value} (ha:tmps[p]?.getD undef=.pointer (some a)) (hl:(loadVar ty a).run P w=.ok v w) :
  (results fn tmps).run P w=.ok v w:=by
 simp only [results,h];simp [ha,asAddr,hl]
theorem Qhi (w:World):Calls prog 275 #[] w fun e w'=>e=.returned (.agg Qat)∧w'=w.alloc (.cells Qat 304):=by
 go_enter func275,ntmps275;go_wp2_with (refine wpList_store_row rfl 304 (.tmp 0) (.tmp 17) rfl w.heap.size Qat rfl rfl 304 zeroCells (heap_alloc_last w _) Tryz.size45 Qhg QjD ?_);rw [World.setRow_alloc_new];refine bodyPost_ret (v:=.agg Qat) (Qhh rfl _ _ _ rfl ?_) rfl ⟨rfl,rfl⟩;exact run_loadVar_new w 304 Qat 16 303 underlying304 Tryz.size45
theorem QsK (s:Nat) (h:s<16) (w:World):(Instr.index 304 (.agg Qat) (.int .i64 s)).run prog w=.ok (.agg #[.int .i64 (cn s),.int .i64 (swi s)]) w:=by
 obtain rfl | rfl | rfl | rfl | rfl | rfl | rfl | rfl | rfl | rfl | rfl | rfl | rfl | rfl | rfl | rfl:s=0∨s=1∨s=2∨s=3∨s=4∨s=5∨s=6∨s=7∨s=8∨s=9∨s=10∨s=11∨s=12∨s=13∨s=14∨s=15:=by omega
 all_goals kernel_rfl
theorem QsL (s:Nat) (w:World) (h:s<16):Calls prog 254 #[.int .i64 s] w fun e w'=>e=.returned (.tuple #[.int .i64 (cn s),.int .i64 (swi s)])∧Only (fun _=>False) w w':=by
 have d0:decide ((s:Int)<0)=false:=by simp
 have d1:decide (16≤(s:Int))=false:=by simp;omega
 have A:=Qaa (Qhi w);have hix:=QsK s h;go_enter func254,ntmps254;go_wp2_with fail;refine A.out.mono ?_;rintro e w1 ⟨rfl,hw1⟩
 have O1:Hid (Only (fun _=>False) w w1):=by rw [hw1];exact (Only.refl _ _).alloc _
 clear hw1 A;go_wp2;go_quiet (fail);go_wp2;go_ret2;exact ⟨rfl,(O1.out.alloc _).drewN nq⟩
theorem Qfy (l:List Int) (k:Nat) (h:k<l.length):l.getD k 0∈l:=by
 rw [Yad,Yaf h];simp
theorem Qc6 (v:Value) (xs:List Int) (q:Nat) (w:World) (h:Bs .u64 w v xs) (hu:∀x∈xs,0≤x∧x≤18446744073709551615) (hq:q≤60) (hl:xs.length≤140737488355328) :
  Calls prog 252 #[v,.int .i64 q] w fun e w'=>e=.returned (.bool (small q xs))∧w=w':=by
 obtain ⟨ao,cap,rfl⟩:=h.len;have HB:=Qaa h;have HU:=Qaa hu;obtain ⟨m,hm⟩:∃m,m=xs.length:=⟨_,rfl⟩;rw [←hm] at HB hl ⊢;have HM:=Qaa hm;clear h hu hm
 have hq2:(q:Int)≤60:=by omega
 go_enter func252,ntmps252;go_wp2
 go_loop [9] (fun i=>∃k:Nat,k≤m∧i=.int .i64 k∧small q (xs.take k)=true) (fun i=>m - (intOf i).toNat)
 case atStart=>exact ⟨0,Nat.zero_le _,rfl,by simp [small]⟩
 case round =>
  obtain ⟨k,hk,rfl,hs⟩:=hrel;have HS:=Qaa hs;clear hs
  by_cases hlt:k<m
  ·have hkx:k<xs.length:=by rw [←HM.out];exact hlt
   obtain ⟨b,off,cap',e1,c0⟩:=(HB.out).at k hkx;simp only [Value.slice.injEq] at e1;obtain ⟨rfl,e2,rfl⟩:=e1;clear e2;obtain ⟨x0,x1⟩:=HU.out _ (Qfy xs k hkx)
   have hsn:Hid (small q (xs.take (k+1))=(small q (xs.take k) && decide (xs.getD k 0<2^q))):=by
    simp only [Hid];rw [Qa4 xs k hkx,QkI]
   have hno:Hid (¬xs.getD k 0<2^q→small q xs=false):=QpZ hkx;obtain ⟨x,hx⟩:∃x,x=xs.getD k 0:=⟨_,rfl⟩;rw [←hx] at c0 x0 x1 hsn hno;clear hx hkx
   have i0:(0:Int)≤(k:Int):=by omega
   have i1:(k:Int)<(m:Int):=by omega
   by_cases hf:x<2^q
   ·have hdv:x / 2^q=0:=Int.ediv_eq_zero_of_lt x0 hf
    have d1:(x / 2^q != 0)=false:=by rw [hdv];rfl
    have HF:=Qaa hf;clear hf hdv;go_wp2
    go_round
    case rel=>exact ⟨k+1,by omega,by go_num,by rw [hsn.out,HS.out];simpa using HF.out⟩
    case measure=>simp [intOf];omega
   ·have hdv:x / 2^q≠0:=by
     intro h0
     apply hf
     have:=Int.lt_ediv_add_one_mul_self x (show (0:Int)<2^q by have:=QpY (Nat.zero_le q);omega);rw [h0] at this
     simpa using this
    have d1:(x / 2^q != 0)=true:=by simpa using hdv
    have HF:=Qaa (hno.out hf);clear hf hdv;go_wp2;go_ret;exact ⟨by rw [HF.out];rfl,rfl⟩
  ·have hkm:k=m:=by omega
   subst hkm;go_wp2;go_ret;have:=HS.out;rw [HM.out,List.take_length] at this;exact ⟨by rw [this];rfl,rfl⟩
theorem Bs.cap_le {k:IntKind} {w:World} {ao:Option Addr} {m cap:Nat} {xs:List Int} (h:Bs k w (.slice ao m cap) xs):m≤cap:=by
 obtain ⟨ao',cap',e,hc,_⟩:=h;simp at e;omega
theorem Qc7 {w:World} {N s:Nat} (h:w.heap[N]? = some (.cells Qat 304 (0,0))) (hs:s<16):w.cell? ⟨N,s*2,none⟩=some (.int .i64 (cn s))∧w.cell? ⟨N,s*2+1,none⟩=some (.int .i64 (swi s)):=by
 simp only [World.cell?,h]
 obtain rfl | rfl | rfl | rfl | rfl | rfl | rfl | rfl | rfl | rfl | rfl | rfl | rfl | rfl | rfl | rfl:s=0∨s=1∨s=2∨s=3∨s=4∨s=5∨s=6∨s=7∨s=8∨s=9∨s=10∨s=11∨s=12∨s=13∨s=14∨s=15:=by omega
 all_goals exact ⟨by kernel_rfl,by kernel_rfl⟩
def LsJ (w:World) (N:Nat) (v:Value) (xs:List Int) (a':Act) (w':World):Prop :=
 Only (fun _=>False) w w'∧w'.heap[N]? = some (.cells Qat 304 (0,0))∧∃(s:Nat) (u5 u6 u8 u9 u10 u11 u12 u13 u14 u15 u16 u17 u18 u19 u20 u21 u22 u23 u24 u25 u26 u27 u28 u29 u30:Value),
   a'={ tmps:=#[v,undef,.int .i64 0,.pointer (some ⟨N,0,none⟩),.int .i64 s,u5,u6,.agg Qat,u8,u9,u10,u11,u12,u13,u14,u15,u16,u17,u18,u19,u20,u21,u22,u23,u24,u25,u26,u27,u28,u29,u30],defers:=[] }∧s≤15∧QbF (15 - s) s xs=least xs
def lsMu (a':Act) (_:World):Nat:=(15 - intOf (a'.tmps.getD 4 undef)).toNat
theorem QfF {w w':World} {N:Nat} {v:Value} {xs:List Int} {s:Nat} (on:Only (fun _=>False) w w') (hN:w'.heap[N]? = some (.cells Qat 304 (0,0))) (hs:s≤15) (hl:QbF (15 - s) s xs=least xs) (hf:fitB xs s=false) (f15:fitB xs 15=true) (nq:Nat) (u5 u6 u8 u9 u10 u11 u12 u13 u14 u15 u16 u17 u18 u19 u20 u21 u22 u23 u24 u25 u26 u27 u28 u29 u30:Value) :
  LsJ w N v xs { tmps:=#[v,undef,.int .i64 0,.pointer (some ⟨N,0,none⟩),.int .i64 ((s:Int)+1),u5,u6,.agg Qat,u8,u9,u10,u11,u12,u13,u14,u15,u16,u17,u18,u19,u20,u21,u22,u23,u24,u25,u26,u27,u28,u29,u30],defers:=[] } (w'.drewN nq):=by
 have h15:s<15:=by
  rcases Nat.lt_or_ge s 15 with h | h
  ·exact h
  ·rw [show s=15 by omega,f15] at hf;cases hf
 refine ⟨on.drewN nq,hN,s+1,u5,u6,u8,u9,u10,u11,u12,u13,u14,u15,u16,u17,u18,u19,u20,u21,u22,u23,u24,u25,u26,u27,u28,u29,u30,?_,by omega,?_⟩
 ·rw [Int.natCast_add];rfl
 ·rw [←hl,Qix hf h15]
theorem QlH {s:Nat} {xs:List Int} (hs:s≤15) (hf:fitB xs s=false) (f15:fitB xs 15=true):(15 - ((s:Int)+1)).toNat<(15 - (s:Int)).toNat:=by
 have h15:s<15:=by
  rcases Nat.lt_or_ge s 15 with h | h
  ·exact h
  ·rw [show s=15 by omega,f15] at hf;cases hf
 omega
theorem Qgu (v:Value) (xs:List Int) (w:World) (h:Bs .u64 w v xs) (hu:Up 60 xs) (hne:xs≠[]) (hl:xs.length≤65536) :
  Calls prog 253 #[v] w fun e w'=>e=.returned (.int .i64 (least xs))∧Only (fun _=>False) w w':=by
 obtain ⟨ao,cap,rfl⟩:=h.len;have HB:=Qaa h;have HU:=Qaa hu;have hcap:=h.cap_le;have F15:=Qaa (fit15 hne hu);obtain ⟨m,hm⟩:∃m,m=xs.length:=⟨_,rfl⟩;rw [←hm] at HB hl hcap ⊢;have HM:=Qaa hm;clear h hu hm hne;have A:=Qaa (Qhi w);obtain ⟨N,hN⟩:∃N,N=w.heap.size+1:=⟨_,rfl⟩;have HN:=Qaa hN;clear hN;go_enter func253,ntmps253;go_wp2;refine wp_scope_jumps 0 (LsJ w N (.slice ao m cap) xs) lsMu rfl ?_ ?_
 ·go_wp2_with fail
  refine A.out.mono ?_;rintro e w1 ⟨rfl,hw1⟩
  have O1:Hid (Only (fun _=>False) w w1∧w1.heap.size=N):=by rw [hw1];exact ⟨(Only.refl _ _).alloc _,by rw [HN.out];simp⟩
  clear hw1 A;go_wp2_with (refine wpList_store_row rfl 304 (.tmp 3) (.tmp 7) rfl w1.heap.size Qat rfl rfl 304 zeroCells (heap_alloc_last w1 _) Tryz.size45 Qhg QjD ?_);rw [World.setRow_alloc_new];obtain ⟨w2,hw2⟩:∃w2,w2=w1.alloc (.cells Qat 304):=⟨_,rfl⟩;rw [←hw2,O1.out.2]
  have HON:Hid (Only (fun _=>False) w w2∧w2.heap[N]? = some (.cells Qat 304 (0,0))):=by
   rw [hw2,←O1.out.2];exact ⟨O1.out.1.alloc _,heap_alloc_last w1 _⟩
  clear hw2 O1;have c0:w2.cell? ⟨N,0,none⟩=some (.int .i64 240):=(Qc7 HON.out.2 (s:=0) (by omega)).1;have c1:w2.cell? ⟨N,1,none⟩=some (.int .i64 0):=(Qc7 HON.out.2 (s:=0) (by omega)).2
  go_step3
  have AF:=Qaa (fun (hx:240≤m) (nq:Nat)=>Qc6 (.slice ao (240) cap) (xs.take (240)) (swi 0) (w2.drewN nq) (((HB.out.head (n:=240) hx).keep HON.out.1 (fun _ _ f=>f)).keep ((Only.refl (fun _=>False) _).drewN nq) (fun _ _ f=>f)) (fun x hx=>⟨(HU.out x (List.mem_of_mem_take hx)).1,by have:=(HU.out x (List.mem_of_mem_take hx)).2;omega⟩) (QcZ 0 (by omega)).2.2.1 (by rw [Yag,←HM.out];omega));rw [show swi 0=0 from rfl] at AF
  by_cases hc:m<240
  ·have dc:decide ((m:Int)<240)=true:=by simp;omega
   have HF:Hid (fitB xs 0=false):=by simp only [Hid,fitB];rw [Yak (by rw [←HM.out];show ¬240≤m;omega)];rfl
   clear AF;go_wp2;go_quiet (fail);go_wp2
   go_step3
   exact @And.intro (0=0) (LsJ w N (.slice ao m cap) xs _ _) rfl (QfF (s:=0) HON.out.1 HON.out.2 (by omega) rfl HF.out F15.out _ _ _ _ _ _ _ _ _ _ _ _ _ _ _ _ _ _ _ _ _ _ _ _ _ _)
  ·have dc:decide ((m:Int)<240)=false:=by simp;omega
   have j0:(0:Int)≤240:=by omega
   have j1:240≤(m:Int):=by omega
   have j2:240≤(cap:Int):=by omega
   have AG:=Qaa (AF.out (by omega))
   have HFE:Hid (fitB xs 0=small (swi 0) (xs.take (cn 0))):=by simp only [Hid,fitB];rw [Yaj (by rw [←HM.out];show 240≤m;omega)];rfl
   rw [show swi 0=0 from rfl,show cn 0=240 from rfl] at HFE;clear AF
   cases hsm:small 0 (xs.take 240)
   ·rw [hsm] at AG HFE
    clear hsm;go_wp2;go_quiet (fail);go_wp2_with fail;refine (AG.out nq).mono ?_;rintro e w3 ⟨rfl,rfl⟩;go_wp2
    go_step3
    exact @And.intro (0=0) (LsJ w N (.slice ao m cap) xs _ _) rfl (QfF (s:=0) HON.out.1 HON.out.2 (by omega) rfl HFE.out F15.out _ _ _ _ _ _ _ _ _ _ _ _ _ _ _ _ _ _ _ _ _ _ _ _ _ _)
   ·rw [hsm] at AG HFE
    clear hsm;go_wp2;go_quiet (fail);go_wp2_with fail;refine (AG.out nq).mono ?_;rintro e w3 ⟨rfl,rfl⟩;go_wp2;simp only [Exit.jump];go_ret;refine ⟨Qa0 ?_,HON.out.1.drewN nq⟩;rw [show least xs=0 from QdD HFE.out 15];rfl
 ·rintro a' w' ⟨on,hN,s,u5,u6,u8,u9,u10,u11,u12,u13,u14,u15,u16,u17,u18,u19,u20,u21,u22,u23,u24,u25,u26,u27,u28,u29,u30,rfl,hs,hleast⟩
  have c0:=(Qc7 hN (s:=s) (by omega)).1;have c1:=(Qc7 hN (s:=s) (by omega)).2;have HON:=Qaa (And.intro on hN);have HL:=Qaa hleast
  have s0:(0:Int)≤(s:Int):=by omega
  have s1:(s:Int)<16:=by omega
  clear on hN hleast;have AF:=Qaa (fun (hx:cn s≤m) (nq:Nat)=>Qc6 (.slice ao (cn s) cap) (xs.take (cn s)) (swi s) (w'.drewN nq) (((HB.out.head (n:=cn s) hx).keep HON.out.1 (fun _ _ f=>f)).keep ((Only.refl (fun _=>False) _).drewN nq) (fun _ _ f=>f)) (fun x hx=>⟨(HU.out x (List.mem_of_mem_take hx)).1,by have:=(HU.out x (List.mem_of_mem_take hx)).2;omega⟩) (QcZ s (by omega)).2.2.1 (by rw [Yag,←HM.out];omega))
  by_cases hc:m<cn s
  ·have dc:decide ((m:Int)<((cn s:Nat):Int))=true:=by simp;omega
   have dn:decide (m<cn s)=true:=Yaj hc
   have HF:Hid (fitB xs s=false):=by simp only [Hid,fitB];rw [Yak (by rw [←HM.out];omega)];rfl
   clear AF;go_wp2;go_quiet (fail);go_wp2
   go_step3
   exact @And.intro (0=0) (LsJ w N (.slice ao m cap) xs _ _∧_) rfl ⟨QfF HON.out.1 HON.out.2 hs HL.out HF.out F15.out _ _ _ _ _ _ _ _ _ _ _ _ _ _ _ _ _ _ _ _ _ _ _ _ _ _,QlH hs HF.out F15.out⟩
  ·have dc:decide ((m:Int)<((cn s:Nat):Int))=false:=by simp;omega
   have dn:decide (m<cn s)=false:=Yak hc
   have j0:(0:Int)≤((cn s:Nat):Int):=by omega
   have j1:((cn s:Nat):Int)≤(m:Int):=by omega
   have j2:((cn s:Nat):Int)≤(cap:Int):=by omega
   have AG:=Qaa (AF.out (by omega))
   have HFE:Hid (fitB xs s=small (swi s) (xs.take (cn s))):=by simp only [Hid,fitB];rw [Yaj (by rw [←HM.out];omega)];rfl
   clear AF
   cases hsm:small (swi s) (xs.take (cn s))
   ·rw [hsm] at AG HFE
    clear hsm;go_wp2;go_quiet (fail);go_wp2_with fail;refine (AG.out nq).mono ?_;rintro e w3 ⟨rfl,rfl⟩;go_wp2
    go_step3
    exact @And.intro (0=0) (LsJ w N (.slice ao m cap) xs _ _∧_) rfl ⟨QfF HON.out.1 HON.out.2 hs HL.out HFE.out F15.out _ _ _ _ _ _ _ _ _ _ _ _ _ _ _ _ _ _ _ _ _ _ _ _ _ _,QlH hs HFE.out F15.out⟩
   ·rw [hsm] at AG HFE
    clear hsm;go_wp2;go_quiet (fail);go_wp2_with fail;refine (AG.out nq).mono ?_;rintro e w3 ⟨rfl,rfl⟩;go_wp2;simp only [Exit.jump];go_ret;refine ⟨Qa0 ?_,HON.out.1.drewN nq⟩;rw [←HL.out,QdD HFE.out]
def wd0 (xs:List Int):Nat:=wordN (least xs) (swi (least xs)) (xs.take (cn (least xs)))
def encF:Nat→List Int→List Int
 | 0,_=>[]
 | f+1,xs=>if xs=[] then [] else fixL (wd0 xs) 8++encF f (xs.drop (cn (least xs)))
def enc (xs:List Int):List Int:=encF xs.length xs
theorem QcI (f:Nat):encF f []=[]:=by cases f <;> simp [encF]
theorem Qhl:∀(f g:Nat) (xs:List Int),Up 60 xs→xs.length≤f→xs.length≤g→encF f xs=encF g xs
 | 0,g,xs,_,hf,_=>by
  have:xs=[]:=List.eq_nil_of_length_eq_zero (by omega);rw [this,QcI,QcI]
 | f+1,0,xs,_,_,hg=>by
  have:xs=[]:=List.eq_nil_of_length_eq_zero (by omega);rw [this,QcI,QcI]
 | f+1,g+1,xs,hu,hf,hg=>by
  by_cases h:xs=[]
  ·rw [h,QcI,QcI]
  ·have h1:=(QcZ _ (QbW h hu).1).1
   simp only [encF,h,if_false];rw [Qhl f g (xs.drop (cn (least xs))) (hu.drop _) (by rw [Yai];omega) (by rw [Yai];omega)]
theorem Qiy:enc []=[]:=rfl
theorem Qf6 {xs:List Int} (h:xs≠[]) (hu:Up 60 xs):enc xs=fixL (wd0 xs) 8++enc (xs.drop (cn (least xs))):=by
 have hl:0<xs.length:=List.length_pos_iff.2 h;have h1:=(QcZ _ (QbW h hu).1).1;obtain ⟨f,hf⟩:∃f,xs.length=f+1:=⟨xs.length - 1,by omega⟩;unfold enc;rw [hf];simp only [encF,h,if_false];rw [Qhl f (xs.drop (cn (least xs))).length _ (hu.drop _) (by rw [Yai];omega) (Nat.le_refl _)]
theorem Qnx:∀(n:Nat) (xs:List Int),xs.length=n→Up 60 xs→(enc xs).length % 8=0∧(enc xs).length≤8*xs.length∧xs.length≤30*(enc xs).length:=by
 intro n
 induction n using Nat.strongRecOn with
 | _ n ih =>
  intro xs hn hu
  by_cases h:xs=[]
  ·subst h;simp [Qiy]
  ·obtain ⟨h1,h2,h3⟩:=QbW h hu
   have h4:=QcZ _ h1;obtain ⟨a,b,c⟩:=ih (xs.drop (cn (least xs))).length (by rw [Yai];omega) _ rfl (hu.drop _);rw [Qf6 h hu,Yae,Qag];rw [Yai] at b c;omega
theorem Qny:∀(n:Nat) (xs:List Int),xs.length=n→Up 60 xs→∀y∈enc xs,0≤y∧y≤255:=by
 intro n
 induction n using Nat.strongRecOn with
 | _ n ih =>
  intro xs hn hu y hy
  by_cases h:xs=[]
  ·subst h;simp [Qiy] at hy
  ·obtain ⟨h1,h2,h3⟩:=QbW h hu
   have h4:=QcZ _ h1;rw [Qf6 h hu,List.mem_append] at hy
   rcases hy with hy | hy
   ·exact QaG _ _ y hy
   ·exact ih (xs.drop (cn (least xs))).length (by rw [Yai];omega) _ rfl (hu.drop _) y hy
def rdF:Nat→Nat→List Int→List Int→List Int × List Int × Int
 | 0,_,acc,ys=>(acc,ys,0)
 | f+1,n,acc,ys=>if acc.length<n then (if ys.length<8 then ([],ys,2) else rdF f n (acc++nms (num (ys.take 8))) (ys.drop 8)) else (acc,ys,0)
def rdA (n:Nat) (ys:List Int):List Int × List Int × Int:=rdF (ys.length+1) n [] ys
def dec (ys:List Int) (n:Nat):List Int × Int :=
 if (rdA n ys).2.2≠0 then ([],2) else if n<(rdA n ys).1.length then ([],3) else if enc (rdA n ys).1=ys then ((rdA n ys).1,0) else ([],3)
end Go.Proofs.YtnhapmboienipaaGreatDoor
