import Derived.Test.YtoflhbghdlaeaaaGreatDoorG16
import Derived.Shelf.Bytes.SlSmallAll
namespace Go.Proofs.YtoflhbghdlaeaaaGreatDoor
set_option maxHeartbeats 800000
set_option maxRecDepth 100000
open Go.RowKit _root_.Go.Proofs.Tryz
variable {w w' W:World} {v:Value} {ys xs l:LI} {R n p k g B:Nat} {P:Program} {ls:List (LI)} {E:TypeId}
def runR:Int->Nat->LI->LI
 | v,k,[]=>gs v.toNat++gs k
 | v,k,x :: t=>if x=v then runR v (k+1) t else gs v.toNat++gs k++runR x 0 t
def runE:LI->LI
 | []=>[]
 | x :: t=>runR x 0 t
def KM (v:Int) (t:LI):Prop:=∀x r,t=x :: r->x≠v
theorem TV (v:Int):KM v []:=λx r h=>by cases h
theorem Al (v:Int) (i:Nat):∀(k:Nat) (r:LI),runR v k (List.replicate i v++r)=runR v (k+i) r:=by
 induction i with
 | zero=>intro k r;rfl
 | succ i ih =>
  intro k r;rw[List.replicate_succ,List.cons_append,runR,if_pos rfl,ih,Nat.add_assoc,Nat.add_comm 1 i]
theorem qu {v:Int} {t:LI} (h:KM v t) (k:Nat):runR v k t=gs v.toNat++gs k++runE t:=by
 cases t with
 | nil=>simp[runR,runE]
 | cons x r=>rw[runR,if_neg (h x r rfl),runE]
theorem Xf {v:Int} {t:LI} (h:KM v t) (m:Nat):runE (List.replicate (m+1) v++t)=gs v.toNat++gs m++runE t:=by
 rw[List.replicate_succ,List.cons_append,runE,Al,Nat.zero_add,qu h]
theorem Hh:∀(l:LI),l≠[]->∃v m t,l=List.replicate (m+1) v++t∧KM v t
 | [],h=>absurd rfl h
 | [x],_=>⟨x,0,[],rfl,TV x⟩
 | x :: y :: t,_=>by
  obtain⟨v,m,t',e,ha⟩:=Hh (y :: t) (by simp)
  by_cases h:x=v
  ·exact⟨v,m+1,t',by rw[h,e,List.replicate_succ (n:=m+1)];rfl,ha⟩
  ·refine⟨x,0,y :: t,rfl,λa r e2=>?_⟩
   have:y=v:=by
    rw[List.replicate_succ] at e;simp at e;exact e.1
   simp at e2;rw[<-e2.1,this]
   exact λh2=>h h2.symm
theorem Rb {P:LI->Prop} (h0:P []) (h1:∀v m t,KM v t->P t->P (List.replicate (m+1) v++t)) (l:LI):P l:=by
 induction hn:l.length using Nat.strongRecOn generalizing l with
 | _ n ih =>
  by_cases hl:l=[]
  ·subst hl;exact h0
  ·obtain⟨v,m,t,rfl,ha⟩:=Hh l hl
   refine h1 v m t ha (ih t.length ?_ t rfl);rw[<-hn,Qc,List.length_replicate];omega
theorem U64.tail {v:Int} {m:Nat} {t:LI} (h:U64 (List.replicate (m+1) v++t)):U64 t:=λx hx=>h x (by simp[hx])
theorem U64.head {v:Int} {m:Nat} {t:LI} (h:U64 (List.replicate (m+1) v++t)):0<=v∧v<=18446744073709551615:=h v (by simp)
theorem Am (l:LI):∀y∈runE l,0<=y∧y<=255:=by
 induction l using Rb with
 | h0=>intro y hy;cases hy
 | h1 v m t ha ih =>
  rw[Xf ha];intro y hy
  rcases List.mem_append.1 hy with hy | hy
  ·rcases List.mem_append.1 hy with hy | hy
   ·exact YW _ y hy
   ·exact YW _ y hy
  ·exact ih y hy
theorem T8 (l:LI):U64 l->l.length<18446744073709551616->(runE l).length<=20*l.length:=by
 induction l using Rb with
 | h0=>intro _ _;simp[runE]
 | h1 v m t ha ih =>
  intro hu hl;rw[Qc,List.length_replicate] at hl;have hv:=hu.head;have h1:=Q6 (v:=v.toNat) (by omega);have h2:=Q6 (v:=m) (by omega);have h3:=ih hu.tail (by omega);rw[Xf ha,Qc,Qc,Qc,List.length_replicate];omega
theorem Ot (v:Int) (m:Nat):runE (List.replicate (m+1) v)=gs v.toNat++gs m:=by
 have:=Xf (TV v) m;rw[List.append_nil] at this;rw[this];simp[runE]
theorem SI {i:Nat} (h0:0<i) (hi:i<l.length) (hs:∀j,j<i->l.getD j 0=l.getD 0 0) (hd:l.getD i 0≠l.getD 0 0):runE l=gs (l.getD 0 0).toNat++gs (i - 1)++runE (l.drop i):=by
 have e:l=List.replicate (i - 1+1) (l.getD 0 0)++l.drop i:=by
  have ht:l.take i=List.replicate (i - 1+1) (l.getD 0 0):=by
   apply List.ext_getElem
   ·rw[Qf,List.length_replicate];omega
   ·intro j h1 h2
    rw[Qf] at h1;have:=hs j (by omega);rw[List.getElem_take,List.getElem_replicate,<-this,Qd,Qg (by omega)]
    rfl
  rw[<-ht,List.take_append_drop]
 have ha:KM (l.getD 0 0) (l.drop i):=by
  intro x r e2;have:=List.drop_eq_getElem_cons hi;rw[this] at e2
  injection e2 with e3 _
  rw[<-e3];rw[Qd,Qg hi] at hd;exact hd
 have h3:=Xf ha (i - 1);rw[<-e] at h3;exact h3
theorem Od (h0:0<l.length) (hs:∀j,j<l.length->l.getD j 0=l.getD 0 0):runE l=gs (l.getD 0 0).toNat++gs (l.length - 1):=by
 have e:l=List.replicate (l.length - 1+1) (l.getD 0 0):=by
  apply List.ext_getElem
  ·rw[List.length_replicate];omega
  ·intro j h1 h2
   have:=hs j h1;rw[List.getElem_replicate,<-this,Qd,Qg h1]
   rfl
 have h3:=Ot (l.getD 0 0) (l.length - 1);rw[<-e] at h3;exact h3
def runOn (acc:LI) (v:Int):Bool:=decide (0<acc.length) && (acc.getD (acc.length - 1) 0 == v)
def runD:Nat->LI->LI->Nat->LI × Int
 | 0,_,_,_=>([],3)
 | f+1,acc,ys,n =>
  if acc.length<n then
   if (Qh ys).2.2≠0 then ([],(Qh ys).2.2)
   else if (Qh (ys.drop (Qh ys).2.1)).2.2≠0 then ([],(Qh (ys.drop (Qh ys).2.1)).2.2)
   else if n - acc.length<=(Qh (ys.drop (Qh ys).2.1)).1.toNat∨runOn acc (Qh ys).1=true then ([],3)
   else runD f (acc++List.replicate ((Qh (ys.drop (Qh ys).2.1)).1.toNat+1) (Qh ys).1) ((ys.drop (Qh ys).2.1).drop (Qh (ys.drop (Qh ys).2.1)).2.1) n
  else if 0<ys.length then ([],3) else (acc,0)
def yS (ys:LI) (n:Nat):LI × Int:=runD (n+1) [] ys n
def ends (l:LI):Nat:=l.countP λy=>decide (y<128)
def Wp:(LI × List (Int × Int)):=([],[])
def MOST (n:Int):Int:=if n<0 then 1 else 1+8*min n 65536
section
variable (e8 e11:LI->LI) (d8 d11:LI->Int->LI × Int)
def ENC12 (tn:LI) (s:List (Int × Int)):LI × Int :=
 if 64<tn.length∨65536<s.length then ([],4) else (1 :: (blk tn++(gs s.length++(blk (e8 (s.map Prod.fst))++blk (e11 (s.map Prod.snd))))),0)
def C5 (tn:LI) (n:Int) (ti va rest:LI):(LI × List (Int × Int)) × Int :=
 if rest≠[] then (Wp,3) else if (d8 ti n).2≠0 then (Wp,(d8 ti n).2) else if (d11 va n).2≠0 then (Wp,(d11 va n).2) else ((tn,(d8 ti n).1.zip (d11 va n).1),0)
def C4 (tn:LI) (n:Int) (ti ys:LI):(LI × List (Int × Int)) × Int :=
 if (Qq (MOST n) ys).2.2≠0 then (Wp,(Qq (MOST n) ys).2.2) else C5 d8 d11 tn n ti (Qq (MOST n) ys).1 (ys.drop (Qq (MOST n) ys).2.1)
def C3 (tn:LI) (n:Int) (ys:LI):(LI × List (Int × Int)) × Int :=
 if (Qq (MOST n) ys).2.2≠0 then (Wp,(Qq (MOST n) ys).2.2) else C4 d8 d11 tn n (Qq (MOST n) ys).1 (ys.drop (Qq (MOST n) ys).2.1)
def C2 (tn:LI) (ys:LI):(LI × List (Int × Int)) × Int :=
 if (Qh ys).2.2≠0 then (Wp,(Qh ys).2.2) else if 65536<(Qh ys).1 then (Wp,4) else C3 d8 d11 tn (Qh ys).1 (ys.drop (Qh ys).2.1)
def C1 (ys:LI):(LI × List (Int × Int)) × Int :=
 if (Qq 64 ys).2.2≠0 then (Wp,(Qq 64 ys).2.2) else C2 d8 d11 (Qq 64 ys).1 (ys.drop (Qq 64 ys).2.1)
end
variable {e8 e11:LI->LI} {d8 d11:LI->Int->LI × Int} {G8 G11:LI->Prop}
def U5 (x:Int):Prop:=-9223372036854775808<=x∧x<=9223372036854775807
theorem w64_g (x:Int):U5 (wrap64 x):=by unfold U5 wrap64;omega
def dif:Int->LI->LI
 | _,[]=>[]
 | a,x :: t=>wrap64 (x - a) :: dif x t
def sm:Int->LI->LI
 | _,[]=>[]
 | a,x :: t=>wrap64 (a+x) :: sm (wrap64 (a+x)) t
def bh (f:LI->LI) (s:Nat) (l:LI):LI:=l.take s++f (l.drop s)
def D:Nat->LI->LI
 | 0,l=>l
 | k+1,l=>bh (dif 0) k (D k l)
def S:Nat->LI->LI
 | 0,l=>l
 | k+1,l=>S k (bh (sm 0) k l)
theorem Dc (a:Int) (l:LI):(dif a l).length=l.length:=by
 induction l generalizing a with
 | nil=>rfl
 | cons x t ih=>simp[dif,ih]
theorem dif_g (a:Int) (l:LI):∀x∈dif a l,U5 x:=by
 induction l generalizing a with
 | nil=>intro x hx;simp[dif] at hx
 | cons y t ih =>
  intro x hx;simp only[dif,List.mem_cons] at hx
  rcases hx with rfl | hx
  ·exact w64_g _
  ·exact ih _ x hx
theorem Fj {f:LI->LI} (hf:∀l,(f l).length=l.length) (s:Nat) (l:LI):(bh f s l).length=l.length:=by
 simp only[bh,Qc,Qf,hf,Qo];omega
theorem bh_g {f:LI->LI} (hf:∀l,∀x∈f l,U5 x) (s:Nat) (l:LI) (h:∀x∈l,U5 x):∀x∈bh f s l,U5 x:=by
 intro x hx;simp only[bh,List.mem_append] at hx
 rcases hx with hx | hx
 ·exact h x (List.mem_of_mem_take hx)
 ·exact hf _ x hx
theorem Zl (k:Nat) (l:LI):(D k l).length=l.length:=by
 induction k with
 | zero=>rfl
 | succ k ih=>rw[D,Fj (Dc 0),ih]
theorem D_g (k:Nat) (l:LI) (h:∀x∈l,U5 x):∀x∈D k l,U5 x:=by
 induction k with
 | zero=>exact h
 | succ k ih=>exact bh_g (dif_g 0) k _ ih
def ap (s:Int):Int->Nat->LI
 | _,0=>[]
 | x,n+1=>x :: ap s (wrap64 (x+s)) n
theorem Tryz.infoI64:(prog.info? 3).map (λi=>(i.zero,i.size,i.bytes))=some (some (.int .i64 0),1,8):=by kernel_rfl
theorem Tryz.infoU64:(prog.info? 24).map (λi=>(i.zero,i.size,i.bytes))=some (some (.int .u64 0),1,8):=by kernel_rfl
def tab:List (Nat × Nat):=[(240,0),(120,0),(60,1),(30,2),(20,3),(15,4),(12,5),(10,6),(8,7),(7,8),(6,10),(5,12),(4,15),(3,20),(2,30),(1,60)]
def cn (s:Nat):Nat:=(tab.getD s (0,0)).1
def swi (s:Nat):Nat:=(tab.getD s (0,0)).2
theorem uQ:∀s:Fin 16,1<=cn s.val∧cn s.val<=240∧swi s.val<=60∧cn s.val*swi s.val<=60∧(s.val<15->swi s.val<=30∧2<=cn s.val):=by decide +kernel
theorem Kn (s:Nat) (h:s<16):1<=cn s∧cn s<=240∧swi s<=60∧cn s*swi s<=60∧(s<15->swi s<=30∧2<=cn s):=uQ ⟨s,h⟩
def Up (w:Nat) (xs:LI):Prop:=∀x∈xs,0<=x∧x<2^w
theorem Ag {a b:Nat} (h:a<=b):(2:Int)^a<=2^b:=by
 have:2^a<=2^b:=Nat.pow_le_pow_right (by omega) h
 have e1:((2^a:Nat):Int)=2^a:=by simp
 have e2:((2^b:Nat):Int)=2^b:=by simp
 omega
theorem Up.take {a:Nat} (h:Up a xs) (n:Nat):Up a (xs.take n):=λx hx=>h x (List.mem_of_mem_take hx)
theorem Up.drop {a:Nat} (h:Up a xs) (n:Nat):Up a (xs.drop n):=λx hx=>h x (List.mem_of_mem_drop hx)
def small (w:Nat) (xs:LI):Bool:=xs.all λx=>decide (x<2^w)
theorem Jy {w:Nat} (h:small w xs=true) (h0:∀x∈xs,0<=x):Up w xs:=λx hx=>⟨h0 x hx,by
 have:=List.all_eq_true.1 h x hx
 simpa using this⟩
theorem Tg {w:Nat} (h:Up w xs):small w xs=true:=by
 unfold small;rw[List.all_eq_true];intro x hx
 simpa using (h x hx).2
theorem qm (w:Nat) (xs:LI) (x:Int):small w (xs++[x])=(small w xs && decide (x<2^w)):=by simp[small]
theorem Sc {w:Nat} (hk:k<xs.length) (h:¬xs.getD k 0<2^w):small w xs=false:=by
 rw[Bool.eq_false_iff];intro hs;have:=List.all_eq_true.1 hs (xs.getD k 0) (by rw[Qd,Qg hk];simp);simp only[decide_eq_true_eq] at this;exact h this
def fitB (xs:LI) (s:Nat):Bool:=decide (cn s<=xs.length) && small (swi s) (xs.take (cn s))
def YO:Nat->Nat->LI->Nat
 | 0,s,_=>s
 | f+1,s,xs=>if fitB xs s=true then s else YO f (s+1) xs
def least (xs:LI):Nat:=YO 15 0 xs
theorem fit15 (h:xs≠[]) (hu:Up 60 xs):fitB xs 15=true:=by
 have:0<xs.length:=List.length_pos_iff.2 h;have e1:cn 15=1:=rfl;have e2:swi 15=60:=rfl;unfold fitB;rw[e1,e2,Tg (hu.take 1)];simp;omega
theorem XI {s:Nat} (h:fitB xs s=true) (f:Nat):YO f s xs=s:=by
 cases f with
 | zero=>rfl
 | succ f=>simp[YO,h]
theorem DB {s:Nat} (h:fitB xs s=false) (hs:s<15):YO (15 - s) s xs=YO (15 - (s+1)) (s+1) xs:=by
 obtain⟨f,hf⟩:∃f,15 - s=f+1:=⟨14 - s,by omega⟩;rw[hf,show 15 - (s+1)=f by omega];simp[YO,h]
theorem Tj (h:fitB xs 15=true):∀f s,s+f=15->YO f s xs<16∧fitB xs (YO f s xs)=true
 | 0,s,e=>by
  obtain rfl:s=15:=by omega
  exact⟨by simp[YO],h⟩
 | f+1,s,e=>by
  by_cases hs:fitB xs s=true
  ·rw[XI hs]
   exact⟨by omega,hs⟩
  ·have:YO (f+1) s xs=YO f (s+1) xs:=by simp[YO,hs]
   rw[this];exact Tj h f (s+1) (by omega)
theorem Vv (h:xs≠[]) (hu:Up 60 xs):least xs<16∧cn (least xs)<=xs.length∧Up (swi (least xs)) (xs.take (cn (least xs))):=by
 obtain⟨h1,h2⟩:=Tj (fit15 h hu) 15 0 rfl;unfold fitB at h2;rw[Bool.and_eq_true,decide_eq_true_eq] at h2;exact⟨h1,h2.1,Jy h2.2 (λx hx=>(hu.take _ x hx).1)⟩
def wacc (a w:Nat) (zs:LI):Nat:=zs.foldl (λa z=>a*2^w+z.toNat) a
theorem kH (a w:Nat) (zs:LI) (z:Int):wacc a w (zs++[z])=wacc a w zs*2^w+z.toNat:=by simp[wacc]
theorem BX (a w:Nat) (zs:LI) (z:Int):wacc a w (z :: zs)=wacc (a*2^w+z.toNat) w zs:=rfl
theorem Hd {w:Nat} {z:Int} (h:0<=z∧z<2^w):z.toNat<2^w:=by
 have e:((2^w:Nat):Int)=2^w:=by simp
 omega
theorem Jm (w:Nat):∀(zs:LI) (a:Nat),Up w zs->∃r,wacc a w zs=a*2^(zs.length*w)+r∧r<2^(zs.length*w)
 | [],a,_=>⟨0,by simp[wacc],by simp⟩
 | z :: zs,a,h=>by
  obtain⟨r,h1,h2⟩:=Jm w zs (a*2^w+z.toNat) (λx hx=>h x (List.mem_cons_of_mem _ hx));have hz:=Hd (h z List.mem_cons_self);refine⟨z.toNat*2^(zs.length*w)+r,?_,?_⟩
  ·rw[BX,h1,Qi,Nat.add_mul,Nat.mul_assoc,<-Nat.pow_add,Nat.add_assoc]
   congr 3
   rw[Nat.add_mul];omega
  ·rw[Qi,Nat.add_mul,Nat.one_mul,Nat.pow_add,Nat.mul_comm (2^(zs.length*w)) (2^w)]
   have h3:(z.toNat+1)*2^(zs.length*w)<=2^w*2^(zs.length*w):=Nat.mul_le_mul_right _ hz;rw[Nat.add_mul,Nat.one_mul] at h3;omega
def wordN (s w:Nat) (zs:LI):Nat:=wacc s w zs*2^(60 - zs.length*w)
theorem wq {s w:Nat} {zs:LI} (hs:s<16) (h:Up w zs) (hw:zs.length*w<=60):wordN s w zs<18446744073709551616:=by
 obtain⟨r,h1,h2⟩:=Jm w zs s h
 have e:2^(zs.length*w)*2^(60 - zs.length*w)=2^60:=by rw[<-Nat.pow_add];congr 1;omega
 have h3:wacc s w zs<16*2^(zs.length*w):=by
  have:(s+1)*2^(zs.length*w)<=16*2^(zs.length*w):=Nat.mul_le_mul_right _ (by omega);rw[Nat.add_mul,Nat.one_mul] at this;omega
 have h4:=Nat.mul_lt_mul_of_pos_right h3 (Nat.two_pow_pos (60 - zs.length*w));rw[Nat.mul_assoc,e] at h4
 have e60:(2:Nat)^60=1152921504606846976:=by decide
 unfold wordN;omega
def numAt (v w i:Nat):Nat:=v / 2^(60 - (i+1)*w) % 2^w
def nms (v:Nat):LI:=(List.range (cn (v / 2^60))).map λi=>(numAt v (swi (v / 2^60)) i:Int)
def Qas:Array Value:=#[.int .i64 240,.int .i64 0,.int .i64 120,.int .i64 0,.int .i64 60,.int .i64 1,.int .i64 30,.int .i64 2,.int .i64 20,.int .i64 3,.int .i64 15,.int .i64 4,.int .i64 12,.int .i64 5,.int .i64 10,.int .i64 6,.int .i64 8,.int .i64 7,.int .i64 7,.int .i64 8,.int .i64 6,.int .i64 10,.int .i64 5,.int .i64 12,.int .i64 4,.int .i64 15,.int .i64 3,.int .i64 20,.int .i64 2,.int .i64 30,.int .i64 1,.int .i64 60]
def zeroCells:Array Value:=#[.int .i64 0,.int .i64 0,.int .i64 0,.int .i64 0,.int .i64 0,.int .i64 0,.int .i64 0,.int .i64 0,.int .i64 0,.int .i64 0,.int .i64 0,.int .i64 0,.int .i64 0,.int .i64 0,.int .i64 0,.int .i64 0,.int .i64 0,.int .i64 0,.int .i64 0,.int .i64 0,.int .i64 0,.int .i64 0,.int .i64 0,.int .i64 0,.int .i64 0,.int .i64 0,.int .i64 0,.int .i64 0,.int .i64 0,.int .i64 0,.int .i64 0,.int .i64 0]
theorem Tryz.size45:(prog.info? 318).map (·.size)=some Qas.size:=by kernel_rfl
theorem NG:zeroCells.size=Qas.size:=by kernel_rfl
theorem Nw:Qas.all (·.oneCell')=true:=by kernel_rfl
theorem Ed {fn:Func} {p:Tmp} {ty:TypeId} (h:fn.results=#[.cell p ty]) (tmps:Array Value) (P:Program) (w:World) {a:Addr} {v:Value} (ha:tmps[p]?.getD undef=.pointer (some a)) (hl:(loadVar ty a).run P w=.ok v w) :
 (results fn tmps).run P w=.ok v w:=by
 simp only[results,h];simp[ha,asAddr,hl]
theorem Nt (w:World):Calls prog 286 #[] w λe w'=>e=.returned (.agg Qas)∧w'=w.alloc (.cells Qas 318):=by
 go_enter func286,ntmps286;go_wp2_with (refine wpList_store_row rfl 318 (.tmp 0) (.tmp 17) rfl w.heap.size Qas rfl rfl 318 zeroCells (heap_alloc_last w _) Tryz.size45 NG Nw ?_);rw[World.setRow_alloc_new];refine bodyPost_ret (v:=.agg Qas) (Ed rfl _ _ _ rfl ?_) rfl ⟨rfl,rfl⟩;exact run_loadVar_new w 318 Qas 16 317 underlying318 Tryz.size45
theorem uo (s:Nat) (h:s<16) (w:World):(Instr.index 318 (.agg Qas) (.int .i64 s)).run prog w=.ok (.agg #[.int .i64 (cn s),.int .i64 (swi s)]) w:=by
 obtain rfl | rfl | rfl | rfl | rfl | rfl | rfl | rfl | rfl | rfl | rfl | rfl | rfl | rfl | rfl | rfl:s=0∨s=1∨s=2∨s=3∨s=4∨s=5∨s=6∨s=7∨s=8∨s=9∨s=10∨s=11∨s=12∨s=13∨s=14∨s=15:=by omega
 all_goals kernel_rfl
theorem FG (s:Nat) (w:World) (h:s<16):Calls prog 265 #[.int .i64 s] w λe w'=>e=.returned (.tuple #[.int .i64 (cn s),.int .i64 (swi s)])∧N0 w w':=by
 have d0:decide ((s:Int)<0)=false:=by simp
 have d1:decide (16<=(s:Int))=false:=by simp;omega
 have A:=Qa (Nt w);have hix:=uo s h;go_enter func265,ntmps265;go_wp2_with fail;refine A.o.mono ?_;rintro e w1 ⟨rfl,h0⟩
 have O1:Hid (N0 w w1):=by rw[h0];exact (Only.refl _ _).alloc _
 clear h0 A;go_wp2;go_quiet (fail);go_wp2;go_ret2;exact⟨rfl,(O1.o.alloc _).drewN nq⟩
theorem XQ (l:LI) (k:Nat) (h:k<l.length):l.getD k 0∈l:=by
 rw[Qd,Qg h];simp
theorem ZW (v:Value) (xs:LI) (q:Nat) (w:World) (h:Bs .u64 w v xs) (hu:∀x∈xs,0<=x∧x<=18446744073709551615) (hq:q<=60) (hl:xs.length<=140737488355328) :
 Calls prog 263 #[v,.int .i64 q] w λe w'=>e=.returned (.bool (small q xs))∧w=w':=by
 obtain⟨ao,cap,rfl⟩:=h.len;have HB:=Qa h;have HU:=Qa hu;obtain⟨m,hm⟩:=EX xs.length;rw[<-hm] at HB hl ⊢;have HM:=Qa hm;clear h hu hm
 have hq2:(q:Int)<=60:=by omega
 go_enter func263,ntmps263;go_wp2
 go_loop [9] (λi=>∃k:Nat,k<=m∧i=.int .i64 k∧small q (xs.take k)=true) (λi=>m - (intOf i).toNat)
 case atStart=>exact⟨0,Nat.zero_le _,rfl,by simp[small]⟩
 case round =>
  obtain⟨k,hk,rfl,hs⟩:=hrel;have HS:=Qa hs;clear hs
  by_cases hlt:k<m
  ·have h1:k<xs.length:=by rw[<-HM.o];exact hlt
   obtain⟨b,off,cap',e1,c0⟩:=(HB.o).at k h1;simp only[Value.slice.injEq] at e1;obtain⟨rfl,e2,rfl⟩:=e1;clear e2;obtain⟨x0,x1⟩:=HU.o _ (XQ xs k h1)
   have h4:Hid (small q (xs.take (k+1))=(small q (xs.take k) && decide (xs.getD k 0<2^q))):=by
    simp only[Hid];rw[UU xs k h1,qm]
   have h3:Hid (¬xs.getD k 0<2^q->small q xs=false):=Sc h1;obtain⟨x,hx⟩:=EX (xs.getD k 0);rw[<-hx] at c0 x0 x1 h4 h3;clear hx h1
   have i0:(0:Int)<=(k:Int):=by omega
   have i1:(k:Int)<(m:Int):=by omega
   by_cases hf:x<2^q
   ·have h2:x / 2^q=0:=Int.ediv_eq_zero_of_lt x0 hf
    have d1:(x / 2^q != 0)=false:=by rw[h2];rfl
    have HF:=Qa hf;clear hf h2;go_wp2
    go_round
    case rel=>exact⟨k+1,by omega,by go_num,by rw[h4.o,HS.o];simpa using HF.o⟩
    case measure=>simp[intOf];omega
   ·have h2:x / 2^q≠0:=by
     intro h0
     apply hf
     have:=Int.lt_ediv_add_one_mul_self x (show (0:Int)<2^q by have:=Ag (Nat.zero_le q);omega);rw[h0] at this
     simpa using this
    have d1:(x / 2^q != 0)=true:=by simpa using h2
    have HF:=Qa (h3.o hf);clear hf h2;go_wp2;go_ret;exact⟨by rw[HF.o];rfl,rfl⟩
  ·have hkm:k=m:=by omega
   subst hkm;go_wp2;go_ret;have:=HS.o;rw[HM.o,List.take_length] at this;exact⟨by rw[this];rfl,rfl⟩
theorem Bs.cap_le {k:IntKind} {ao:Option Addr} {m cap:Nat} (h:Bs k w (.slice ao m cap) xs):m<=cap:=by
 obtain⟨ao',cap',e,hc,_⟩:=h;simp at e;omega
theorem ZD {N s:Nat} (h:w.heap[N]? = some (.cells Qas 318 (0,0))) (hs:s<16):w.cell? ⟨N,s*2,none⟩=some (.int .i64 (cn s))∧w.cell? ⟨N,s*2+1,none⟩=some (.int .i64 (swi s)):=by
 simp only[World.cell?,h]
 obtain rfl | rfl | rfl | rfl | rfl | rfl | rfl | rfl | rfl | rfl | rfl | rfl | rfl | rfl | rfl | rfl:s=0∨s=1∨s=2∨s=3∨s=4∨s=5∨s=6∨s=7∨s=8∨s=9∨s=10∨s=11∨s=12∨s=13∨s=14∨s=15:=by omega
 all_goals exact⟨by kernel_rfl,by kernel_rfl⟩
def KQ (w:World) (N:Nat) (v:Value) (xs:LI) (a':Act) (w':World):Prop :=
 N0 w w'∧w'.heap[N]? = some (.cells Qas 318 (0,0))∧∃(s:Nat) (u5 u6 u8 u9 u10 u11 u12 u13 u14 u15 u16 u17 u18 u19 u20 u21 u22 u23 u24 u25 u26 u27 u28 u29 u30:Value),
  a'={ tmps:=#[v,undef,.int .i64 0,.pointer (some ⟨N,0,none⟩),.int .i64 s,u5,u6,.agg Qas,u8,u9,u10,u11,u12,u13,u14,u15,u16,u17,u18,u19,u20,u21,u22,u23,u24,u25,u26,u27,u28,u29,u30],defers:=[] }∧s<=15∧YO (15 - s) s xs=least xs
def lsMu (a':Act) (_:World):Nat:=(15 - intOf (a'.tmps.getD 4 undef)).toNat
theorem Z8 {N:Nat} {s:Nat} (on:N0 w w') (hN:w'.heap[N]? = some (.cells Qas 318 (0,0))) (hs:s<=15) (hl:YO (15 - s) s xs=least xs) (hf:fitB xs s=false) (f15:fitB xs 15=true) (nq:Nat) (u5 u6 u8 u9 u10 u11 u12 u13 u14 u15 u16 u17 u18 u19 u20 u21 u22 u23 u24 u25 u26 u27 u28 u29 u30:Value) :
 KQ w N v xs { tmps:=#[v,undef,.int .i64 0,.pointer (some ⟨N,0,none⟩),.int .i64 ((s:Int)+1),u5,u6,.agg Qas,u8,u9,u10,u11,u12,u13,u14,u15,u16,u17,u18,u19,u20,u21,u22,u23,u24,u25,u26,u27,u28,u29,u30],defers:=[] } (w'.drewN nq):=by
 have h15:s<15:=by
  rcases Nat.lt_or_ge s 15 with h | h
  ·exact h
  ·rw[show s=15 by omega,f15] at hf;cases hf
 refine⟨on.drewN nq,hN,s+1,u5,u6,u8,u9,u10,u11,u12,u13,u14,u15,u16,u17,u18,u19,u20,u21,u22,u23,u24,u25,u26,u27,u28,u29,u30,?_,by omega,?_⟩
 ·rw[Int.natCast_add];rfl
 ·rw[<-hl,DB hf h15]
theorem TD {s:Nat} (hs:s<=15) (hf:fitB xs s=false) (f15:fitB xs 15=true):(15 - ((s:Int)+1)).toNat<(15 - (s:Int)).toNat:=by
 have h15:s<15:=by
  rcases Nat.lt_or_ge s 15 with h | h
  ·exact h
  ·rw[show s=15 by omega,f15] at hf;cases hf
 omega
theorem vg (v:Value) (xs:LI) (w:World) (h:Bs .u64 w v xs) (hu:Up 60 xs) (hne:xs≠[]) (hl:xs.length<=65536) :
 Calls prog 264 #[v] w λe w'=>e=.returned (.int .i64 (least xs))∧N0 w w':=by
 obtain⟨ao,cap,rfl⟩:=h.len;have HB:=Qa h;have HU:=Qa hu;have h5:=h.cap_le;have h3:=Qa (fit15 hne hu);obtain⟨m,hm⟩:=EX xs.length;rw[<-hm] at HB hl h5 ⊢;have HM:=Qa hm;clear h hu hm hne;have A:=Qa (Nt w);obtain⟨N,hN⟩:=EX (w.heap.size+1);have HN:=Qa hN;clear hN;go_enter func264,ntmps264;go_wp2;refine wp_scope_jumps 0 (KQ w N (.slice ao m cap) xs) lsMu rfl ?_ ?_
 ·go_wp2_with fail
  refine A.o.mono ?_;rintro e w1 ⟨rfl,h6⟩
  have O1:Hid (N0 w w1∧w1.heap.size=N):=by rw[h6];exact⟨(Only.refl _ _).alloc _,by rw[HN.o];simp⟩
  clear h6 A;go_wp2_with (refine wpList_store_row rfl 318 (.tmp 3) (.tmp 7) rfl w1.heap.size Qas rfl rfl 318 zeroCells (heap_alloc_last w1 _) Tryz.size45 NG Nw ?_);rw[World.setRow_alloc_new];obtain⟨w2,h4⟩:=EX (w1.alloc (.cells Qas 318));rw[<-h4,O1.o.2]
  have h0:Hid (N0 w w2∧w2.heap[N]? = some (.cells Qas 318 (0,0))):=by
   rw[h4,<-O1.o.2];exact⟨O1.o.1.alloc _,heap_alloc_last w1 _⟩
  clear h4 O1;have c0:w2.cell? ⟨N,0,none⟩=some (.int .i64 240):=(ZD h0.o.2 (s:=0) (by omega)).1;have c1:w2.cell? ⟨N,1,none⟩=some (.int .i64 0):=(ZD h0.o.2 (s:=0) (by omega)).2
  go_step3
  have AF:=Qa (λ(hx:240<=m) (nq:Nat)=>ZW (.slice ao (240) cap) (xs.take (240)) (swi 0) (w2.drewN nq) (((HB.o.head (n:=240) hx).keep h0.o.1 (λ_ _ f=>f)).keep ((Only.refl (λ_=>False) _).drewN nq) (λ_ _ f=>f)) (λx hx=>⟨(HU.o x (List.mem_of_mem_take hx)).1,by have:=(HU.o x (List.mem_of_mem_take hx)).2;omega⟩) (Kn 0 (by omega)).2.2.1 (by rw[Qf,<-HM.o];omega));rw[show swi 0=0 from rfl] at AF
  by_cases hc:m<240
  ·have dc:decide ((m:Int)<240)=true:=by simp;omega
   have HF:Hid (fitB xs 0=false):=by simp only[Hid,fitB];rw[Qb (by rw[<-HM.o];show ¬240<=m;omega)];rfl
   clear AF;go_wp2;go_quiet (fail);go_wp2
   go_step3
   exact @And.intro (0=0) (KQ w N (.slice ao m cap) xs _ _) rfl (Z8 (s:=0) h0.o.1 h0.o.2 (by omega) rfl HF.o h3.o _ _ _ _ _ _ _ _ _ _ _ _ _ _ _ _ _ _ _ _ _ _ _ _ _ _)
  ·have dc:decide ((m:Int)<240)=false:=by simp;omega
   have j0:(0:Int)<=240:=by omega
   have j1:240<=(m:Int):=by omega
   have j2:240<=(cap:Int):=by omega
   have AG:=Qa (AF.o (by omega))
   have h1:Hid (fitB xs 0=small (swi 0) (xs.take (cn 0))):=by simp only[Hid,fitB];rw[Qe (by rw[<-HM.o];show 240<=m;omega)];rfl
   rw[show swi 0=0 from rfl,show cn 0=240 from rfl] at h1;clear AF
   cases hsm:small 0 (xs.take 240)
   ·rw[hsm] at AG h1
    clear hsm;go_wp2;go_quiet (fail);go_wp2_with fail;refine (AG.o nq).mono ?_;rintro e w3 ⟨rfl,rfl⟩;go_wp2
    go_step3
    exact @And.intro (0=0) (KQ w N (.slice ao m cap) xs _ _) rfl (Z8 (s:=0) h0.o.1 h0.o.2 (by omega) rfl h1.o h3.o _ _ _ _ _ _ _ _ _ _ _ _ _ _ _ _ _ _ _ _ _ _ _ _ _ _)
   ·rw[hsm] at AG h1
    clear hsm;go_wp2;go_quiet (fail);go_wp2_with fail;refine (AG.o nq).mono ?_;rintro e w3 ⟨rfl,rfl⟩;go_wp2;simp only[Exit.jump];go_ret;refine⟨YP ?_,h0.o.1.drewN nq⟩;rw[show least xs=0 from XI h1.o 15];rfl
 ·rintro a' w' ⟨on,hN,s,u5,u6,u8,u9,u10,u11,u12,u13,u14,u15,u16,u17,u18,u19,u20,u21,u22,u23,u24,u25,u26,u27,u28,u29,u30,rfl,hs,h2⟩
  have c0:=(ZD hN (s:=s) (by omega)).1;have c1:=(ZD hN (s:=s) (by omega)).2;have h0:=Qa (And.intro on hN);have HL:=Qa h2
  have s0:(0:Int)<=(s:Int):=by omega
  have s1:(s:Int)<16:=by omega
  clear on hN h2;have AF:=Qa (λ(hx:cn s<=m) (nq:Nat)=>ZW (.slice ao (cn s) cap) (xs.take (cn s)) (swi s) (w'.drewN nq) (((HB.o.head (n:=cn s) hx).keep h0.o.1 (λ_ _ f=>f)).keep ((Only.refl (λ_=>False) _).drewN nq) (λ_ _ f=>f)) (λx hx=>⟨(HU.o x (List.mem_of_mem_take hx)).1,by have:=(HU.o x (List.mem_of_mem_take hx)).2;omega⟩) (Kn s (by omega)).2.2.1 (by rw[Qf,<-HM.o];omega))
  by_cases hc:m<cn s
  ·have dc:decide ((m:Int)<((cn s:Nat):Int))=true:=by simp;omega
   have dn:decide (m<cn s)=true:=Qe hc
   have HF:Hid (fitB xs s=false):=by simp only[Hid,fitB];rw[Qb (by rw[<-HM.o];omega)];rfl
   clear AF;go_wp2;go_quiet (fail);go_wp2
   go_step3
   exact @And.intro (0=0) (KQ w N (.slice ao m cap) xs _ _∧_) rfl ⟨Z8 h0.o.1 h0.o.2 hs HL.o HF.o h3.o _ _ _ _ _ _ _ _ _ _ _ _ _ _ _ _ _ _ _ _ _ _ _ _ _ _,TD hs HF.o h3.o⟩
  ·have dc:decide ((m:Int)<((cn s:Nat):Int))=false:=by simp;omega
   have dn:decide (m<cn s)=false:=Qb hc
   have j0:(0:Int)<=((cn s:Nat):Int):=by omega
   have j1:((cn s:Nat):Int)<=(m:Int):=by omega
   have j2:((cn s:Nat):Int)<=(cap:Int):=by omega
   have AG:=Qa (AF.o (by omega))
   have h1:Hid (fitB xs s=small (swi s) (xs.take (cn s))):=by simp only[Hid,fitB];rw[Qe (by rw[<-HM.o];omega)];rfl
   clear AF
   cases hsm:small (swi s) (xs.take (cn s))
   ·rw[hsm] at AG h1
    clear hsm;go_wp2;go_quiet (fail);go_wp2_with fail;refine (AG.o nq).mono ?_;rintro e w3 ⟨rfl,rfl⟩;go_wp2
    go_step3
    exact @And.intro (0=0) (KQ w N (.slice ao m cap) xs _ _∧_) rfl ⟨Z8 h0.o.1 h0.o.2 hs HL.o h1.o h3.o _ _ _ _ _ _ _ _ _ _ _ _ _ _ _ _ _ _ _ _ _ _ _ _ _ _,TD hs h1.o h3.o⟩
   ·rw[hsm] at AG h1
    clear hsm;go_wp2;go_quiet (fail);go_wp2_with fail;refine (AG.o nq).mono ?_;rintro e w3 ⟨rfl,rfl⟩;go_wp2;simp only[Exit.jump];go_ret;refine⟨YP ?_,h0.o.1.drewN nq⟩;rw[<-HL.o,XI h1.o]
def wd0 (xs:LI):Nat:=wordN (least xs) (swi (least xs)) (xs.take (cn (least xs)))
def encF:Nat->LI->LI
 | 0,_=>[]
 | f+1,xs=>if xs=[] then [] else fixL (wd0 xs) 8++encF f (xs.drop (cn (least xs)))
def enc (xs:LI):LI:=encF xs.length xs
theorem Kp (f:Nat):encF f []=[]:=by cases f <;> simp[encF]
theorem Lr:∀(f g:Nat) (xs:LI),Up 60 xs->xs.length<=f->xs.length<=g->encF f xs=encF g xs
 | 0,g,xs,_,hf,_=>by
  have:xs=[]:=List.eq_nil_of_length_eq_zero (by omega);rw[this,Kp,Kp]
 | f+1,0,xs,_,_,hg=>by
  have:xs=[]:=List.eq_nil_of_length_eq_zero (by omega);rw[this,Kp,Kp]
 | f+1,g+1,xs,hu,hf,hg=>by
  by_cases h:xs=[]
  ·rw[h,Kp,Kp]
  ·have h1:=(Kn _ (Vv h hu).1).1
   simp only[encF,h,if_false];rw[Lr f g (xs.drop (cn (least xs))) (hu.drop _) (by rw[Qo];omega) (by rw[Qo];omega)]
theorem Gl:enc []=[]:=rfl
theorem Xv (h:xs≠[]) (hu:Up 60 xs):enc xs=fixL (wd0 xs) 8++enc (xs.drop (cn (least xs))):=by
 have hl:0<xs.length:=List.length_pos_iff.2 h;have h1:=(Kn _ (Vv h hu).1).1;obtain⟨f,hf⟩:∃f,xs.length=f+1:=⟨xs.length - 1,by omega⟩;unfold enc;rw[hf];simp only[encF,h,if_false];rw[Lr f (xs.drop (cn (least xs))).length _ (hu.drop _) (by rw[Qo];omega) (Nat.le_refl _)]
theorem Nc:∀(n:Nat) (xs:LI),xs.length=n->Up 60 xs->(enc xs).length % 8=0∧(enc xs).length<=8*xs.length∧xs.length<=30*(enc xs).length:=by
 intro n
 induction n using Nat.strongRecOn with
 | _ n ih =>
  intro xs hn hu
  by_cases h:xs=[]
  ·subst h;simp[Gl]
  ·obtain⟨h1,h2,h3⟩:=Vv h hu
   have h4:=Kn _ h1;obtain⟨a,b,c⟩:=ih (xs.drop (cn (least xs))).length (by rw[Qo];omega) _ rfl (hu.drop _);rw[Xv h hu,Qc,QD];rw[Qo] at b c;omega
theorem vB:∀(n:Nat) (xs:LI),xs.length=n->Up 60 xs->∀y∈enc xs,0<=y∧y<=255:=by
 intro n
 induction n using Nat.strongRecOn with
 | _ n ih =>
  intro xs hn hu y hy
  by_cases h:xs=[]
  ·subst h;simp[Gl] at hy
  ·obtain⟨h1,h2,h3⟩:=Vv h hu
   have h4:=Kn _ h1;rw[Xv h hu,List.mem_append] at hy
   rcases hy with hy | hy
   ·exact Ur _ _ y hy
   ·exact ih (xs.drop (cn (least xs))).length (by rw[Qo];omega) _ rfl (hu.drop _) y hy
def rdF:Nat->Nat->LI->LI->LI × LI × Int
 | 0,_,acc,ys=>(acc,ys,0)
 | f+1,n,acc,ys=>if acc.length<n then (if ys.length<8 then ([],ys,2) else rdF f n (acc++nms (num (ys.take 8))) (ys.drop 8)) else (acc,ys,0)
def rdA (n:Nat) (ys:LI):LI × LI × Int:=rdF (ys.length+1) n [] ys
def dec (ys:LI) (n:Nat):LI × Int :=
 if (rdA n ys).2.2≠0 then ([],2) else if n<(rdA n ys).1.length then ([],3) else if enc (rdA n ys).1=ys then ((rdA n ys).1,0) else ([],3)
theorem NV (q:Nat):((2^q:Nat):Int)=(2:Int)^q:=by simp
theorem wrapU {x:Int} (h0:0<=x) (h1:x<=18446744073709551615):IntKind.u64.wrap x=x:=by
 rw[IntKind.wrap_u64];omega
theorem Dp {s q:Nat} {zs:LI} (hs:s<16) (h:Up q zs) (k:Nat) (hk:k<=zs.length):wacc s q (zs.take k)<2^(4+k*q):=by
 obtain⟨r,h1,h2⟩:=Jm q (zs.take k) s (h.take k)
 have hl:(zs.take k).length=k:=by rw[Qf];omega
 rw[hl] at h1 h2;have:(s+1)*2^(k*q)<=16*2^(k*q):=Nat.mul_le_mul_right _ (by omega);rw[Nat.add_mul,Nat.one_mul] at this;rw[Nat.pow_add,show (2:Nat)^4=16 from rfl];omega
theorem Do {s q:Nat} {zs:LI} (hs:s<16) (h:Up q zs) (hw:zs.length*q<=60) (k:Nat) (hk:k<zs.length) :
 (wacc s q (zs.take k):Int)*2^q<=18446744073709551615∧bits .or .u64 ((wacc s q (zs.take k):Int)*2^q) (zs.getD k 0)=(wacc s q (zs.take (k+1)):Int):=by
 have h1:=Dp hs h k (by omega);have hz:=h _ (XQ zs k hk);have hn:=Hd hz;have hkq:(k+1)*q<=60:=Nat.le_trans (Nat.mul_le_mul_right q (by omega)) hw
 have h2:wacc s q (zs.take k)*2^q<2^64:=by
  have:=Nat.mul_lt_mul_of_pos_right h1 (Nat.two_pow_pos q);rw[<-Nat.pow_add] at this;exact Nat.lt_of_lt_of_le this (Nat.pow_le_pow_right (by omega) (by rw[Nat.add_mul] at hkq;omega))
 have e64:(2:Nat)^64=18446744073709551616:=by decide
 have hq:2^q<=2^60:=Nat.pow_le_pow_right (by omega) (by
  have:1*q<=(k+1)*q:=Nat.mul_le_mul_right q (by omega)
  omega)
 have e60:(2:Nat)^60=1152921504606846976:=by decide
 rw[UU zs k hk,kH];generalize zs.getD k 0=z at *;generalize wacc s q (zs.take k)=a at *;obtain⟨m,rfl⟩:=Int.eq_ofNat_of_zero_le hz.1;rw[Int.toNat_natCast] at hn ⊢
 have e2:((a:Int)*2^q)=((a*2^q:Nat):Int):=by simp
 rw[e2];refine⟨by omega,?_⟩;rw[u64_or_nat _ _ (by omega) (by omega),nat_join q _ _ (Nat.mul_mod_left _ _) hn]
theorem MZ (s q:Nat) (v:Value) (zs:LI) (w:World) (h:Bs .u64 w v zs) (hs:s<16) (hu:Up q zs) (hw:zs.length*q<=60) (hq:q<=60) (hl:zs.length<=240) :
 Calls prog 266 #[.int .i64 s,v,.int .i64 q] w λe w'=>e=.returned (.int .u64 (wordN s q zs))∧w=w':=by
 obtain⟨ao,cap,rfl⟩:=h.len;have HB:=Qa h;have HU:=Qa hu;have HW:=Qa hw
 have h2:Hid ((wacc s q zs:Int)*2^(60 - zs.length*q)=(wordN s q zs:Int)):=by simp only[Hid,wordN];simp
 have FLT:Hid (wordN s q zs<18446744073709551616):=wq hs hu hw;obtain⟨m,hm⟩:=EX zs.length;rw[<-hm] at HB hl h2 ⊢;have HM:=Qa hm
 have p0:(0:Int)<=(m:Int)*(q:Int):=by rw[<-Int.natCast_mul];omega
 have p1:(m:Int)*(q:Int)<=60:=by rw[<-Int.natCast_mul,hm];omega
 clear h hu hm hw
 have hq2:(q:Int)<=60:=by omega
 have hs2:(s:Int)<=15:=by omega
 go_enter func266,ntmps266;go_wp2
 go_loop [7,14] (λa i=>∃k:Nat,k<=m∧i=.int .i64 k∧a=.int .u64 (wacc s q (zs.take k))) (λ_ i=>m - (intOf i).toNat)
 case atStart=>exact⟨0,Nat.zero_le _,rfl,rfl⟩
 case round =>
  obtain⟨k,hk,rfl,rfl⟩:=hrel
  by_cases hlt:k<m
  ·have h0:k<zs.length:=by rw[<-HM.o];exact hlt
   obtain⟨b,off,cap',e1,c0⟩:=(HB.o).at k h0;simp only[Value.slice.injEq] at e1;obtain⟨rfl,e2,rfl⟩:=e1;clear e2;obtain⟨hsh,h3⟩:=Do hs HU.o HW.o k h0;have hz:=HU.o _ (XQ zs k h0);have h1:=Qa h3;generalize zs.getD k 0=x at c0 h1 hz;generalize wacc s q (zs.take k)=a at hsh h1
   have i0:(0:Int)<=(k:Int):=by omega
   have i1:(k:Int)<(m:Int):=by omega
   have hz0:=hz.1;clear h3 h0 hz
   have h00:0<=(a:Int)*2^q:=by rw[<-NV,<-Int.natCast_mul];omega
   go_wp2
   go_round
   case rel=>exact⟨k+1,by omega,by go_num,by rw[h1.o]⟩
   case measure=>simp[intOf];omega
  ·have hkm:k=m:=by omega
   subst hkm;rw[HM.o,List.take_length,<-HM.o];generalize wacc s q zs=a at h2;go_wp2;go_ret;refine⟨YP ?_,rfl⟩;rw[h2.o,wrapU (by omega) (by have:=FLT.o;omega)]
theorem Cp (v:Value) (xs:LI) (w:World) (h:Bs .u64 w v xs) (hl:65536<xs.length) :
 Calls prog 236 #[v] w λe w'=>e=.returned (.tuple #[.slice none 0 0,.int .i64 4])∧w=w':=by
 obtain⟨ao,cap,rfl⟩:=h.len
 have d:decide (65536<(xs.length:Int))=true:=by simp;omega
 generalize xs.length=n at *;clear h;go_enter func236,ntmps236;go_wp2;go_ret2;exact⟨rfl,rfl⟩
theorem Fc (v:Value) (xs:LI) (w:World) (h:Bs .u64 w v xs) (hu:∀x∈xs,0<=x∧x<=18446744073709551615) (hl:xs.length<=65536) (hs:small 60 xs=false) :
 Calls prog 236 #[v] w λe w'=>e=.returned (.tuple #[.slice none 0 0,.int .i64 1])∧w=w':=by
 have A:=Qa (ZW v xs 60 w h hu (by omega) (by omega));rw[hs] at A;obtain⟨ao,cap,rfl⟩:=h.len
 have d:decide (65536<(xs.length:Int))=false:=by simp;omega
 generalize xs.length=n at *;clear h;go_enter func236,ntmps236;go_wp2_with fail;refine A.o.mono ?_;rintro e w1 ⟨rfl,rfl⟩;go_wp2;go_ret2;exact⟨rfl,rfl⟩
theorem F3 (v:Value) (xs:LI) (w:World) (h:Bs .u64 w v xs) (hu:Up 60 xs) (hl:xs.length<=65536) :
 Calls prog 236 #[v] w λe w'=>∃v',e=.returned (.tuple #[v',.int .i64 0])∧w'.ownsRow w.heap.size 5 1 v' (enc xs).length ((enc xs).map (Value.int .u8))∧N0 w w':=by
 obtain⟨i0,hi,hv,k0,hy⟩:=info_parts Tryz.infoU8;have A:=Qa (ZW v xs 60 w h (λx hx=>⟨(hu x hx).1,by have:=(hu x hx).2;omega⟩) (by omega) (by omega));rw[Tg hu] at A;have hw:=Qa (Nc xs.length xs rfl hu).2.1;obtain⟨ao,cap,rfl⟩:=h.len;have HB:=Qa h;have HU:=Qa hu
 have d:decide (65536<(xs.length:Int))=false:=by simp;omega
 obtain⟨m,hm⟩:=EX xs.length;rw[<-hm] at HB hl d A hw ⊢;have HM:=Qa hm;clear h hu hm;go_enter func236,ntmps236;go_wp2_with fail;refine A.o.mono ?_;rintro e w1 ⟨rfl,rfl⟩;clear A;go_wp2
 go_loopw [0,4] (λl o wr=>∃(zs h0:LI) (ao:Option Addr) (cap:Nat),h0++enc zs=enc xs∧Up 60 zs∧l=.slice ao zs.length cap∧zs.length<=m∧Bs .u64 w (.slice ao zs.length cap) zs∧wr.ownsRow w.heap.size 5 1 o h0.length (h0.map (Value.int .u8))∧N0 w wr) (λl _ _=>(match l with | .slice _ n _=>n | _=>0))
 case atStart=>exact⟨xs,[],ao,cap,rfl,HU.o,by rw[HM.o],by rw[<-HM.o];omega,by rw[<-HM.o];exact HB.o,World.ownsRow_nil _ _ _ _,Only.refl _ _⟩
 case round =>
  obtain⟨zs,h0,ao,cap,h2,he,rfl,hzm,h8,h4,ha⟩:=hrel;clear HB HU
  by_cases hz:zs=[]
  ·subst hz
   have d0:decide (0<(([]:LI).length:Int))=false:=by simp
   rw[Gl,List.append_nil] at h2;rw[h2] at h4;obtain⟨a6,c6,e6⟩:=(Bs.of_own h4).len;subst e6;have H:=Qa (And.intro h4 ha);clear h4 ha h2 h8;simp only[List.length_nil];go_wp2;go_ret2;exact⟨_,rfl,H.o⟩
  ·have hp:0<zs.length:=List.length_pos_iff.2 hz
   obtain⟨f1,f2,f3⟩:=Vv hz he;obtain⟨g1,g2,g3,g4,_⟩:=Kn _ f1;have LS:=Qa (vg _ zs wr (h8.keep ha (λ_ _ f=>f)) he hz (by omega))
   have hr:(zs.take (cn (least zs))).length=cn (least zs):=by rw[Qf];omega
   have WF:Hid (∀w2,N0 w w2->Calls prog 266 #[.int .i64 (least zs),.slice ao (cn (least zs)) cap,.int .i64 (swi (least zs))] w2 λe w'=>e=.returned (.int .u64 (wd0 zs))∧w2=w') :=
    λw2 o2=>MZ (least zs) (swi (least zs)) _ (zs.take (cn (least zs))) w2 ((h8.head (n:=cn (least zs)) f2).keep o2 (λ_ _ f=>f)) f1 f3 (by rw[hr];exact g4) g3 (by rw[hr];omega)
   have RM:Hid (∀w2,Calls prog 265 #[.int .i64 (least zs)] w2 λe w'=>e=.returned (.tuple #[.int .i64 (cn (least zs)),.int .i64 (swi (least zs))])∧N0 w2 w'):=λw2=>FG (least zs) w2 f1
   have ES:Hid (h0++fixL (wd0 zs) 8++enc (zs.drop (cn (least zs)))=enc xs):=by simp only[Hid];rw[<-h2,Xv hz he,List.append_assoc]
   have ht:Hid (Up 60 (zs.drop (cn (least zs)))):=he.drop _
   have hj:Hid (h0.length<=8*m):=by
    have h1:=congrArg List.length h2;rw[Qc] at h1;have:=hw.o;simp only[Hid];omega
   have ho:=h8.cap_le;have hs:=Qa h8;have h5:=Qa h4;have hh:=Qa ha;obtain⟨n,hn⟩:=EX zs.length;have h9:=Qa hn;rw[<-hn] at LS ho hs hp hzm f2 ⊢;generalize cn (least zs)=c at *;generalize swi (least zs)=q at *;generalize least zs=s at *;generalize wd0 zs=x at *
   have d0:decide (0<(n:Int))=true:=by simp;omega
   have j0:(0:Int)<=(c:Int):=by omega
   have j1:(c:Int)<=(n:Int):=by omega
   have j2:(c:Int)<=(cap:Int):=by omega
   clear h8 h4 ha h2 he hn hz f1 f3 g4 hr
   by_cases hcc:cap=c
   ·subst hcc
    go_wp2_with fail;refine LS.o.mono ?_;rintro e w2 ⟨rfl,o2⟩;have O2:=Qa (hh.o.trans o2 (λ_ _ f=>f));have hg:=Qa (o2.own h5.o (λ_ _ f=>f));clear o2 LS hh h5;go_wp2_with fail;refine (RM.o w2).mono ?_;rintro e w3 ⟨rfl,o3⟩;have O3:=Qa (O2.o.trans o3 (λ_ _ f=>f));have hb:=Qa (o3.own hg.o (λ_ _ f=>f));clear o3 O2 hg RM;go_wp2_with fail;refine (WF.o w3 O3.o).mono ?_;rintro e w3' ⟨rfl,rfl⟩;clear WF;go_wp2_with fail;refine (Ux x 8 w3 (by omega)).mono ?_;rintro e w4 ⟨u,rfl,h3,o4⟩;have ow:=o4.own hb.o (λ_ _ f=>f);have h7:=Bs.of_own h3;have hf:=Qa (NoCap.of_own h3);have hd:=Qa h7;have hq:w.heap.size<=w4.heap.size:=Nat.le_trans O3.o.size o4.size;have O4:=Qa (O3.o.trans o4 (λ_ _ f=>f));obtain⟨a4,c4,e4⟩:=h7.len;subst e4;clear o4 h3 O3 hb h7;rw[QD] at hd hf;go_wp2_with (at_builtin;refine Yh _ rfl _ _ _ rfl w.heap.size 5 i0 (.int .u8 0) 1 underlying23 hi hv k0 hy rfl _ _ _ rfl ow .u8 _ (fixL x 8) rfl hd.o hf.o ?c3 ?c4 hq ?_)
    case c3=>have:=hj.o;rw[QD];unfold maxLen;omega
    case c4=>have:=hj.o;rw[QD];omega
    intro v6 w6 own6 hgrow6 _ _
    have h6:Hid (w6.ownsRow w.heap.size 5 1 v6 (h0++fixL x 8).length ((h0++fixL x 8).map (Value.int .u8))):=by
     simp only[Hid];rw[Qc,List.map_append];exact own6
    have O6:=Qa (O4.o.grown hgrow6 (λk hk e=>absurd (ow.lt k e).1 (by omega)));clear ow own6 hgrow6;go_wp2
    go_roundw
    case rel =>
     refine⟨zs.drop cap,h0++fixL x 8,ao,0,ES.o,ht.o,?_,by rw[Qo,<-h9.o];omega,?_,h6.o,O6.o⟩
     ·rw[Qo,<-h9.o,show n - cap=0 by omega]
     ·rw[Qo,<-h9.o]
      exact (Nat.sub_self cap▸hs.o.cut0 f2)
    case measure =>
     simp only[];omega
   ·go_wp2_with fail
    refine LS.o.mono ?_;rintro e w2 ⟨rfl,o2⟩;have O2:=Qa (hh.o.trans o2 (λ_ _ f=>f));have hg:=Qa (o2.own h5.o (λ_ _ f=>f));clear o2 LS hh h5;go_wp2_with fail;refine (RM.o w2).mono ?_;rintro e w3 ⟨rfl,o3⟩;have O3:=Qa (O2.o.trans o3 (λ_ _ f=>f));have hb:=Qa (o3.own hg.o (λ_ _ f=>f));clear o3 O2 hg RM;go_wp2_with fail;refine (WF.o w3 O3.o).mono ?_;rintro e w3' ⟨rfl,rfl⟩;clear WF;go_wp2_with fail;refine (Ux x 8 w3 (by omega)).mono ?_;rintro e w4 ⟨u,rfl,h3,o4⟩;have ow:=o4.own hb.o (λ_ _ f=>f);have h7:=Bs.of_own h3;have hf:=Qa (NoCap.of_own h3);have hd:=Qa h7;have hq:w.heap.size<=w4.heap.size:=Nat.le_trans O3.o.size o4.size;have O4:=Qa (O3.o.trans o4 (λ_ _ f=>f));obtain⟨a4,c4,e4⟩:=h7.len;subst e4;clear o4 h3 O3 hb h7;rw[QD] at hd hf;go_wp2_with (at_builtin;refine Yh _ rfl _ _ _ rfl w.heap.size 5 i0 (.int .u8 0) 1 underlying23 hi hv k0 hy rfl _ _ _ rfl ow .u8 _ (fixL x 8) rfl hd.o hf.o ?c3 ?c4 hq ?_)
    case c3=>have:=hj.o;rw[QD];unfold maxLen;omega
    case c4=>have:=hj.o;rw[QD];omega
    intro v6 w6 own6 hgrow6 _ _
    have h6:Hid (w6.ownsRow w.heap.size 5 1 v6 (h0++fixL x 8).length ((h0++fixL x 8).map (Value.int .u8))):=by
     simp only[Hid];rw[Qc,List.map_append];exact own6
    have O6:=Qa (O4.o.grown hgrow6 (λk hk e=>absurd (ow.lt k e).1 (by omega)));clear ow own6 hgrow6;go_wp2
    go_roundw
    case rel =>
     refine⟨zs.drop c,h0++fixL x 8,ao.map (λx=>x.add c),cap - c,ES.o,ht.o,?_,by rw[Qo,<-h9.o];omega,?_,h6.o,O6.o⟩
     ·rw[Qo,<-h9.o]
     ·rw[Qo,<-h9.o]
      exact hs.o.cut f2
    case measure =>
     simp only[];omega
theorem GW:∀(xs ys:LI),(∀x∈xs,0<=x∧x<=255)->(∀y∈ys,0<=y∧y<=255)->(xs.map λn=>UInt8.ofNat n.toNat)=(ys.map λn=>UInt8.ofNat n.toNat)->xs=ys
 | [],[],_,_,_=>rfl
 | [],y :: ys,_,_,h=>by simp at h
 | x :: xs,[],_,_,h=>by simp at h
 | x :: xs,y :: ys,hx,hy,h=>by
  simp only[List.map_cons,List.cons.injEq] at h;have h1:=hx x List.mem_cons_self;have h2:=hy y List.mem_cons_self
  have e:x.toNat % 256=y.toNat % 256:=by
   have:=congrArg UInt8.toNat h.1
   simpa using this
  have e2:x=y:=by omega
  rw[e2,GW xs ys (λa ha=>hx a (List.mem_cons_of_mem _ ha)) (λa ha=>hy a (List.mem_cons_of_mem _ ha)) h.2]
theorem vF (xs ys:LI) (hx:∀x∈xs,0<=x∧x<=255) (hy:∀y∈ys,0<=y∧y<=255):((strOfNums xs).toList == (strOfNums ys).toList)=decide (xs=ys):=by
 rw[Lib.strOfNums_toList,Lib.strOfNums_toList]
 by_cases h:xs=ys
 ·subst h;simp
 ·rw[Qb h]
  have:Lib.bytesOf xs≠Lib.bytesOf ys:=λe=>h (GW xs ys hx hy e)
  simp[this]
theorem NH (src dst e:TypeId) (va:Value) (xs:LI) (w:World) (h:Bs .u8 w va xs) (hs:prog.underlying src=some (.slice e)) (he:prog.underlying e=some (.int .u8)) (hd:prog.underlying dst=some .string) :
 (convert src dst va).run prog w=.ok (.string (strOfNums xs)) w:=by
 obtain⟨ao,cap,rfl,hc,hr⟩:=h
 by_cases h0:xs=[]
 ·subst h0
  exact run_convert_bytes_zero w src e hs he ao cap dst hd
 ·obtain⟨b,off,rfl,h1⟩:=hr h0
  exact run_convert_bytes_arg (P:=prog) w src e hs he b off _ cap xs rfl h1 dst hd
theorem NL (va vb:Value) (xs ys:LI) (w:World) (ha:Bs .u8 w va xs) (hb:Bs .u8 w vb ys) (hx:∀x∈xs,0<=x∧x<=255) (hy:∀y∈ys,0<=y∧y<=255) :
 Calls prog 41 #[va,vb] w λe w'=>e=.returned (.bool (decide (xs=ys)))∧w=w':=by
 have h1:=NH 23 9 5 va xs w ha underlying23 underlying5 underlying9;have h2:=NH 23 9 5 vb ys w hb underlying23 underlying5 underlying9;rw[<-vF xs ys hx hy];clear ha hb hx hy;go_enter func41,ntmps41;go_wp2;go_ret;exact⟨rfl,rfl⟩
theorem AN (va vb:Value) (xs:LI) (w:World) (ha:Bs .u8 w va xs) (hb:Bs .u8 w vb xs) (hl:xs.length<=140737488355328) :
 Calls prog 36 #[va,vb] w λe w'=>e=.returned (.bool true)∧N0 w w':=by
 obtain⟨aoa,ca,rfl,hca,h5⟩:=ha;obtain⟨aob,cb,rfl,hcb,h6⟩:=hb
 have hbn:((xs.length:Int) != (xs.length:Int))=false:=by simp
 by_cases hx:xs=[]
 ·subst hx
  clear h5 h6;simp only[List.length_nil];go_enter func36,ntmps36;go_wp2
  go_loop [5] (λi=>i=.int .i64 0) (λ_=>0)
  case atStart=>rfl
  case round =>
   subst hrel;go_wp2;go_ret;exact⟨rfl,Only.refl _ _⟩
 ·obtain⟨ba,oa,rfl,h3⟩:=h5 hx
  obtain⟨bb,ob,rfl,h0⟩:=h6 hx;clear h5 h6 hx;obtain⟨n,hn⟩:=EX xs.length;rw[<-hn] at hbn hca hcb h3 h0 hl ⊢;have HA:Hid (∀j,j<n->w.cell? ⟨ba,oa+j,none⟩=some (.int .u8 (xs.getD j 0))):=h3;have HB:Hid (∀j,j<n->w.cell? ⟨bb,ob+j,none⟩=some (.int .u8 (xs.getD j 0))):=h0;clear h3 h0 hn;go_enter func36,ntmps36;go_wp2
  go_loopw [5] (λi wr=>∃k:Nat,k<=n∧i=.int .i64 k∧N0 w wr) (λi _=>n - (intOf i).toNat)
  case atStart=>exact⟨0,Nat.zero_le _,rfl,Only.refl _ _⟩
  case round =>
   obtain⟨k,hk,rfl,h4⟩:=hrel
   by_cases hlt:k<n
   ·obtain⟨y,hy⟩:=EX (xs.getD k 0)
    have h1:wr.cell? ⟨ba,oa+k,none⟩=some (.int .u8 y):=by
     have:=HA.o k hlt;rw[World.cell?_of_block (h4.block ba (World.block_lt_of_cell? w _ this) (λf=>f)),hy];exact this
    have h2:wr.cell? ⟨bb,ob+k,none⟩=some (.int .u8 y):=by
     have:=HB.o k hlt;rw[World.cell?_of_block (h4.block bb (World.block_lt_of_cell? w _ this) (λf=>f)),hy];exact this
    have i0:(0:Int)<=(k:Int):=by omega
    have i1:(k:Int)<(n:Int):=by omega
    have hy1:(y != y)=false:=by simp
    clear hy;go_wp2;go_quiet (fail);go_wp2
    go_roundw
    case rel=>exact⟨k+1,by omega,by go_num,h4.drewN nq⟩
    case measure=>simp[intOf];omega
   ·go_wp2
    go_ret;exact⟨rfl,h4⟩
def Y7 (xs:LI):LI × Int:=if 65536<xs.length then ([],4) else if small 60 xs=true then (enc xs,0) else ([],1)
def qF (ys:LI) (n:Int):LI × Int:=if n<0∨65536<n then ([],1) else dec ys n.toNat
theorem wo (v:Value) (xs:LI) (w:World) (h:Bs .u64 w v xs) (hu:U64 xs) :
 Calls prog 236 #[v] w λe w'=>∃v',e=.returned (.tuple #[v',.int .i64 (Y7 xs).2])∧w'.ownsRow w.heap.size 5 1 v' (Y7 xs).1.length ((Y7 xs).1.map (Value.int .u8))∧N0 w w':=by
 unfold Y7
 by_cases hl:65536<xs.length
 ·rw[if_pos hl]
  refine (Cp v xs w h hl).mono ?_;rintro e w' ⟨rfl,rfl⟩;exact⟨_,rfl,World.ownsRow_nil _ _ _ _,Only.refl _ _⟩
 ·rw[if_neg hl]
  by_cases hs:small 60 xs=true
  ·rw[if_pos hs]
   exact F3 v xs w h (Jy hs (λx hx=>(hu x hx).1)) (by omega)
  ·rw[if_neg hs]
   refine (Fc v xs w h hu (by omega) (by simpa using hs)).mono ?_;rintro e w' ⟨rfl,rfl⟩;exact⟨_,rfl,World.ownsRow_nil _ _ _ _,Only.refl _ _⟩
theorem Hv (h0:∀x∈xs,0<=x) (h:(Y7 xs).2=0):Y7 xs=(enc xs,0)∧Up 60 xs∧xs.length<=65536:=by
 unfold Y7 at *
 by_cases hl:65536<xs.length
 ·rw[if_pos hl] at h;cases h
 ·rw[if_neg hl] at h ⊢
  by_cases hs:small 60 xs=true
  ·rw[if_pos hs];exact⟨rfl,Jy hs h0,by omega⟩
  ·rw[if_neg hs] at h;cases h
theorem DQ (h0:∀x∈xs,0<=x):(Y7 xs).1.length<=600000:=by
 by_cases h:(Y7 xs).2=0
 ·obtain⟨e,hu,hl⟩:=Hv h0 h
  rw[e];have:=(Nc xs.length xs rfl hu).2.1;simp only;omega
 ·unfold Y7 at *
  by_cases hl:65536<xs.length
  ·rw[if_pos hl];decide
  ·rw[if_neg hl] at h ⊢
   by_cases hs:small 60 xs=true
   ·rw[if_pos hs] at h;exact absurd rfl h
   ·rw[if_neg hs];decide
end Go.Proofs.YtoflhbghdlaeaaaGreatDoor
