import Derived.Test.YtoflhbghdlaeaaaGreatDoorG8
import Derived.Test.YtoflhbghdlaeaaaGreatDoorG16
namespace Go.Proofs.YtoflhbghdlaeaaaGreatDoor
set_option maxHeartbeats 1000000
set_option maxRecDepth 100000
open Go.RowKit _root_.Go.Proofs.Tryz
section
open Go.Shelf
attribute [local go_sem] Oper.semAt_some
theorem SK (t:Nat):Qt (t+1)=Qt t*4:=by unfold Qt;rw[Nat.pow_succ];omega
theorem NJ {t:Nat} (h:t<=9):(t<9∧Qt t<=4194304∧64<=Qt t)∨(t=9∧Qt t=16777216):=by
 rcases (show t=0∨t=1∨t=2∨t=3∨t=4∨t=5∨t=6∨t=7∨t=8∨t=9 by omega) with rfl | rfl | rfl | rfl | rfl | rfl | rfl | rfl | rfl | rfl <;> decide
theorem PN (n:Nat) (w:World):CallsIn Fence.wide n prog 98 #[] w λe w'=>e=.returned (.func (.func 139) #[] #[])∧w'=w:=by
 refine callsIn_of_wp func98 rfl trivial ?_ rfl;simp only[ntmps98,List.size_toArray,List.length_nil,Nat.reduceSub,Array.replicate_succ,Array.replicate_zero,List.push_toArray,List.append_toArray,List.nil_append]
 gi_wp2
 go_ret;exact⟨rfl,rfl⟩
theorem Pr (n L:Nat) (J Jx:Nat->World->Prop)
 (hY:∀(s:Nat) A,s<9->J s A->YieldAt Fence.wide (n - 1) prog L #[.int .i64 (s:Int),.int .i64 (Qt s:Int)] A λe B =>
  (e=.returned (.bool true)∧J (s+1) B)∨(e=.returned (.bool false)∧Jx (s+1) B))
 (W:World) (h0:J 0 W) :
 CallsIn Fence.wide n prog 139 #[.func (.yield L) #[] #[]] W λe B=>(∃v,e=.returned v)∧(J 9 B∨∃s,Jx s B):=by
 have HY:=Qa hY;have H0:=Qa h0;clear hY h0;refine callsIn_of_wp func139 rfl trivial ?_ rfl;simp only[ntmps139,List.size_toArray,Qi,List.length_nil,Nat.reduceAdd,Nat.reduceSub,Array.replicate_succ,Array.replicate_zero,List.push_toArray,List.append_toArray,List.nil_append,List.cons_append]
 gi_wp2
 gi_loopw [2,3] (λk z wr=>∃t q:Nat,t<=9∧k=.int .i64 t∧z=.int .i64 q∧Hid (q=Qt t)∧Hid (J t wr)) (λk _ _=>9 - (intOf k).toNat)
 case atStart=>exact⟨0,64,by omega,rfl,rfl,rfl,H0⟩
 case round =>
  obtain⟨t,q,ht,rfl,rfl,HQ,HT⟩:=hrel
  rcases NJ ht with ⟨hlt,hle,hge⟩ | ⟨heq,hgr⟩
  ·rw[<-HQ.o] at hle hge
   have dle:decide ((q:Int)<=4194304)=true:=Qe (by omega);obtain⟨fn,tmps,h2,body,hy,hR⟩:=HY.o t wr hlt HT.o;rw[<-HQ.o] at hy;have HR:=Qa hR;clear hR HT
   gi_wp2_with fail
   refine⟨(λh=>by cases h),HR.o.mono ?_⟩;rintro e w3 (⟨rfl,h1⟩ | ⟨rfl,h1⟩)
   ·have H3:=Qa h1
    clear HR h1
    gi_wp2
    go_roundw
    case rel=>exact⟨t+1,q*4,by omega,by go_num,by go_num,by show _=_;rw[HQ.o,SK],H3⟩
    case measure=>simp[intOf];omega
   ·have H3:=Qa h1
    clear HR h1
    gi_wp2
    refine bodyPost_ret (results_none rfl _ _ _) rfl ?_;exact⟨⟨_,rfl⟩,.inr ⟨_,H3.o⟩⟩
  ·rw[<-HQ.o] at hgr
   have dle:decide ((q:Int)<=4194304)=false:=Qb (by omega);subst heq
   gi_wp2
   go_end0
   exact⟨⟨_,rfl⟩,.inl HT.o⟩
end
section
open Go.Shelf
attribute [local go_sem] Oper.semAt_some
theorem V9 {P:Program} {fn:Func} {p:Tmp} {ty:TypeId} (h:fn.results=#[.cell p ty]) (tmps:Array Value) (w:World) {a:Addr} {v:Value} (ha:tmps[p]?.getD undef=.pointer (some a)) (hl:(loadVar ty a).run P w=.ok v w) :
 (results fn tmps).run P w=.ok v w:=by
 simp only[results,h];simp[ha,asAddr,hl]
theorem X1 {P:Program} {fn:Func} {p q:Tmp} {ty ty2:TypeId} (h:fn.results=#[.cell p ty,.cell q ty2]) (tmps:Array Value) (w:World) {a b:Addr} {v1 v2:Value}
 (hp:tmps[p]?.getD undef=.pointer (some a)) (hq:tmps[q]?.getD undef=.pointer (some b)) (h1:(loadVar ty a).run P w=.ok v1 w) (h2:(loadVar ty2 b).run P w=.ok v2 w) :
 (results fn tmps).run P w=.ok (.tuple #[v1,v2]) w:=by
 simp[results,h,hp,hq,asAddr,h1,h2]
theorem Vk {W:World} {b:Nat} {c:Int} (h:Boxed W b 3 (.int .i64 c)):(loadVar 3 ⟨b,0,none⟩).run prog W=.ok (.int .i64 c) W:=by
 have hc:=h.cell;simp[go_sem,hc]
theorem Gj {W:World} {b:Nat} {c:Int} (h:Boxed W b 27 (.int .i64 c)):(loadVar 27 ⟨b,0,none⟩).run prog W=.ok (.int .i64 c) W:=by
 have hc:=h.cell;simp[go_sem,hc]
def QO (k:Int):Int:=if 0<=k∧k<=8 then (Qt k.toNat:Int) else 0
theorem Zu (k:Int) (w:World):Calls prog 65 #[.int .i64 k] w λe w'=>e=.returned (.int .i64 (QO k))∧N0 w w':=by
 refine (callsIn_wide (n:=5)).1 ?_;refine callsIn_of_wp_marks func65 rfl trivial ?_ rfl;simp only[ntmps65,List.size_toArray,Qi,List.length_nil,Nat.reduceAdd,Nat.reduceSub,Array.replicate_succ,Array.replicate_zero,List.push_toArray,List.append_toArray,List.nil_append,List.cons_append]
 gi_wp2_with fail
 refine⟨trivial,(PN _ _).mono ?_⟩;rintro e w2 ⟨rfl,rfl⟩
 gi_wp2_with fail
 obtain⟨W0,h4⟩:∃W0,(w.alloc (.cells #[.int .i64 k] 3)).alloc (.cells #[.int .i64 0] 3)=W0:=⟨_,rfl⟩
 have o0:N0 w W0:=by rw[<-h4];exact ((Only.refl _ w).alloc _).alloc _
 have hsz:W0.heap.size=w.heap.size+1+1:=by rw[<-h4];simp
 have bK:Boxed W0 w.heap.size 3 (.int .i64 k):=by rw[<-h4];exact (Boxed.new w 3 (.int .i64 k)).alloc _
 have bR:Boxed W0 (w.heap.size+1) 3 (.int .i64 0):=by
  have h:=Boxed.new (w.alloc (.cells #[.int .i64 k] 3)) 3 (.int .i64 0);rw[World.size_alloc,h4] at h;exact h
 rw[h4]
 refine Jz (c:=.ret) (gf:=139) (lb:=#[]) rfl (enters_of func139 (by kernel_rfl) rfl)
  (λx:Nat × Nat=>#[.int .i64 (x.1:Int),.int .i64 (x.2:Int)]) (λ_=>rfl)
  (λs A=>(∀j:Nat,j<s->(j:Int)≠k)∧N0 W0 A)
  (λs A=>(0<=k∧k<=8)∧Only (λj=>j=w.heap.size+1) W0 A∧Boxed A (w.heap.size+1) 3 (.int .i64 (Qt k.toNat:Int)))
  (λs x s' A=>s'=s+1∧s<9∧x.1=s∧x.2=Qt s) 0 9
  (λs A B r hi hl o=>⟨hi.1,hi.2.trans o (λi hi e=>by omega)⟩) (λs A B r hi hl o=>⟨hi.1,hi.2.1.trans o (λi hi e=>by omega),QI hi.2.2 o (by omega)⟩) (λs A B hi o=>⟨hi.1,hi.2.same o⟩)
  (λs x s' A B r hv hl o=>hv) ⟨λj hj=>by omega,Only.refl _ _⟩
  ?hit (λx=>{ tmps:=#[.int .i64 k,.pointer (some ⟨w.heap.size,0,none⟩),.pointer (some ⟨w.heap.size+1,0,none⟩),.int .i64 (x.1:Int),.int .i64 (x.2:Int),.func (.func 139) #[] #[],.int .i64 (x.1:Int),.int .i64 (x.2:Int),undef,undef,undef,undef],defers:=[] }) ?assign ?body ?done ?stop
 case hit =>
  intro J Jx W hJ hJo hY h0 hW;refine Pr 4 (W0.heap.size+1) J Jx (λs A h9 hs=>?_) W h0;obtain⟨fn,tmps,assign,body,hy,hR⟩:=hY s (s,Qt s) (s+1) A hs ⟨rfl,h9,rfl,rfl⟩;refine⟨fn,tmps,assign,body,hy,hR.mono ?_⟩;rintro e B (⟨h1,h2,_⟩ | h)
  ·exact .inl ⟨h1,h2⟩
  ·exact .inr h
 case assign =>
  intro x W K hK
  gi_wp2
  exact hK
 case body =>
  rintro s ⟨x1,x2⟩ s' W ⟨hs,hq⟩ ⟨rfl,h9,h8,h7⟩;simp only at h8 h7;subst h8 h7;have hck:=(QI bK hq (λf=>f)).cell;have h3:=QI bR hq (λf=>f);have ha:=h3.cell;have hfr:=h3.frozen
  by_cases heq:(x1:Int)=k
  ·have d1:((x1:Int) == k)=true:=by simpa using heq
   have o5:Only (λj=>j=w.heap.size+1) W (W.setCell ⟨w.heap.size+1,0,none⟩ (.int .i64 (Qt x1:Int))):=(Only.refl (λj=>j=w.heap.size+1) W).setCell (p:=⟨w.heap.size+1,0,none⟩) (λ_=>rfl) _
   have h6:Hid (Only (λj=>j<W0.heap.size) W (W.setCell ⟨w.heap.size+1,0,none⟩ (.int .i64 (Qt x1:Int)))∧(0<=k∧k<=8)∧Only (λj=>j=w.heap.size+1) W0 (W.setCell ⟨w.heap.size+1,0,none⟩ (.int .i64 (Qt x1:Int)))∧Boxed (W.setCell ⟨w.heap.size+1,0,none⟩ (.int .i64 (Qt x1:Int))) (w.heap.size+1) 3 (.int .i64 (Qt k.toNat:Int))):=by
    refine⟨o5.mono (λj _ e=>by omega),by omega,(hq.mono (λ_ _ f=>f.elim)).trans o5 (λ_ _ e=>e),?_⟩
    have:k.toNat=x1:=by omega
    rw[this];exact h3.set _
   generalize Qt x1=q at *;clear hs hq h3 o5 heq
   gi_wp2
   exact⟨rfl,h6.o⟩
  ·have d1:((x1:Int) == k)=false:=by simpa using heq
   have h6:Hid (Only (λj=>j<W0.heap.size) W W∧(∀j:Nat,j<x1+1->(j:Int)≠k)∧N0 W0 W):=by
    refine⟨Only.refl _ _,λj hj e=>?_,hq⟩
    rcases Nat.lt_or_ge j x1 with h | h
    ·exact hs j h e
    ·exact heq (by omega)
   generalize Qt x1=q at *;clear hs hq h3 heq
   gi_wp2
   exact h6.o
 case done =>
  intro W hi hD
  have hS:QO k=0:=by
   unfold QO;rw[if_neg];rintro⟨h1,h2⟩;exact hi.1 k.toNat (by omega) (by omega)
  have h3:=QI bR hi.2 (λf=>f);have ha:=h3.cell;have hfr:=h3.frozen;have HI:=Qa hi.2;have HD:=Qa hD;have h5:=Qa h3;have HS:=Qa hS;clear hi hD h3 hS
  gi_wp2
  have o5:Only (λj=>j=w.heap.size+1) W (W.setCell ⟨w.heap.size+1,0,none⟩ (.int .i64 0)):=(Only.refl (λj=>j=w.heap.size+1) W).setCell (p:=⟨w.heap.size+1,0,none⟩) (λ_=>rfl) _;have hD5:=o5.heap HD.o (by omega);have o6:Only (λj=>j=W0.heap.size) (W.setCell ⟨w.heap.size+1,0,none⟩ (.int .i64 0)) ((W.setCell ⟨w.heap.size+1,0,none⟩ (.int .i64 0)).putObj W0.heap.size (.deferred none)):=(Only.refl _ _).putObj _ _ (λ_=>rfl);refine⟨by simp,.inl ⟨_,_,rfl,run_takeDeferred hD5,?_⟩⟩;refine⟨.int .i64 0,V9 rfl _ _ rfl (Vk (QI (h5.o.set _) o6 (by omega))),?_,?_⟩
  ·rw[HS.o]
  ·exact ((o0.same HI.o).trans o5 (λj _ e=>by omega)).trans o6 (λj _ e=>by omega)
 case stop =>
  intro s W hi hD;have hS:QO k=(Qt k.toNat:Int):=if_pos hi.1;have ha:=hi.2.2.cell;have HI:=Qa hi.2.1;have HD:=Qa hD;have h5:=Qa hi.2.2;have HS:=Qa hS;clear hi hD hS;generalize Qt k.toNat=q at *
  gi_wp2
  have o6:Only (λj=>j=W0.heap.size) W (W.putObj W0.heap.size (.deferred none)):=(Only.refl _ _).putObj _ _ (λ_=>rfl);refine⟨by simp,.inl ⟨_,_,rfl,run_takeDeferred HD.o,?_⟩⟩;refine⟨.int .i64 (q:Int),V9 rfl _ _ rfl (Vk (QI h5.o o6 (by omega))),?_,?_⟩
  ·rw[HS.o]
  ·exact (o0.trans HI.o (λj _ e=>by omega)).trans o6 (λj _ e=>by omega)
def Wd (n:Int):Int:=if 0<=n∧n<=4194300 then (QV n.toNat:Int) else 0
def YI (n:Int):Int:=if n<0 then 1 else if 4194300<n then 4 else 0
theorem vj {s n:Nat} (h9:s<9) (h:n+4<=Qt s) (hb:∀j,j<s->Qt j<n+4):QV n=s:=by
 have hc:=NT n
 rcases (show s=0∨s=1∨s=2∨s=3∨s=4∨s=5∨s=6∨s=7∨s=8 by omega) with rfl | rfl | rfl | rfl | rfl | rfl | rfl | rfl | rfl
 ·simp only[Qt,Nat.reducePow,Nat.reduceMul] at h
  omega
 ·have:=hb 0 (by omega)
  simp only[Qt,Nat.reducePow,Nat.reduceMul] at h this;omega
 ·have:=hb 1 (by omega)
  simp only[Qt,Nat.reducePow,Nat.reduceMul] at h this;omega
 ·have:=hb 2 (by omega)
  simp only[Qt,Nat.reducePow,Nat.reduceMul] at h this;omega
 ·have:=hb 3 (by omega)
  simp only[Qt,Nat.reducePow,Nat.reduceMul] at h this;omega
 ·have:=hb 4 (by omega)
  simp only[Qt,Nat.reducePow,Nat.reduceMul] at h this;omega
 ·have:=hb 5 (by omega)
  simp only[Qt,Nat.reducePow,Nat.reduceMul] at h this;omega
 ·have:=hb 6 (by omega)
  simp only[Qt,Nat.reducePow,Nat.reduceMul] at h this;omega
 ·have:=hb 7 (by omega)
  simp only[Qt,Nat.reducePow,Nat.reduceMul] at h this;omega
theorem Xw (n:Int) (w:World):Calls prog 116 #[.int .i64 n] w λe w'=>e=.returned (.tuple #[.int .i64 (Wd n),.int .i64 (YI n)])∧N0 w w':=by
 obtain⟨W0,h5⟩:∃W0,((w.alloc (.cells #[.int .i64 n] 3)).alloc (.cells #[.int .i64 0] 3)).alloc (.cells #[.int .i64 0] 27)=W0:=⟨_,rfl⟩
 have o0:N0 w W0:=by rw[<-h5];exact (((Only.refl _ w).alloc _).alloc _).alloc _
 have hsz:W0.heap.size=w.heap.size+1+1+1:=by rw[<-h5];simp
 have bN:Boxed W0 w.heap.size 3 (.int .i64 n):=by rw[<-h5];exact ((Boxed.new w 3 (.int .i64 n)).alloc _).alloc _
 have bR:Boxed W0 (w.heap.size+1) 3 (.int .i64 0):=by
  have h:=(Boxed.new (w.alloc (.cells #[.int .i64 n] 3)) 3 (.int .i64 0)).alloc (.cells #[.int .i64 0] 27);rw[World.size_alloc,h5] at h;exact h
 have bE:Boxed W0 (w.heap.size+1+1) 27 (.int .i64 0):=by
  have h:=Boxed.new ((w.alloc (.cells #[.int .i64 n] 3)).alloc (.cells #[.int .i64 0] 3)) 27 (.int .i64 0);rw[World.size_alloc,World.size_alloc,h5] at h;exact h
 have hh:∀(V:World) (x y:Int),Boxed V (w.heap.size+1) 3 (.int .i64 0)->Boxed V (w.heap.size+1+1) 27 (.int .i64 0) ->
  Only (λj=>j=w.heap.size+1∨j=w.heap.size+1+1) V ((V.setCell ⟨w.heap.size+1,0,none⟩ (.int .i64 x)).setCell ⟨w.heap.size+1+1,0,none⟩ (.int .i64 y)) ∧
  Boxed ((V.setCell ⟨w.heap.size+1,0,none⟩ (.int .i64 x)).setCell ⟨w.heap.size+1+1,0,none⟩ (.int .i64 y)) (w.heap.size+1) 3 (.int .i64 x) ∧
  Boxed ((V.setCell ⟨w.heap.size+1,0,none⟩ (.int .i64 x)).setCell ⟨w.heap.size+1+1,0,none⟩ (.int .i64 y)) (w.heap.size+1+1) 27 (.int .i64 y):=by
  intro V x y h1 h2;have oa:Only (λj=>j=w.heap.size+1) V (V.setCell ⟨w.heap.size+1,0,none⟩ (.int .i64 x)):=(Only.refl (λj=>j=w.heap.size+1) V).setCell (p:=⟨w.heap.size+1,0,none⟩) (λ_=>rfl) _;have ob:Only (λj=>j=w.heap.size+1+1) (V.setCell ⟨w.heap.size+1,0,none⟩ (.int .i64 x)) ((V.setCell ⟨w.heap.size+1,0,none⟩ (.int .i64 x)).setCell ⟨w.heap.size+1+1,0,none⟩ (.int .i64 y)):=(Only.refl (λj=>j=w.heap.size+1+1) _).setCell (p:=⟨w.heap.size+1+1,0,none⟩) (λ_=>rfl) _;exact⟨(oa.mono (T:=λj=>j=w.heap.size+1∨j=w.heap.size+1+1) (λ_ _ e=>.inl e)).trans ob (λ_ _ e=>.inr e),QI (h1.set _) ob (by omega),(QI h2 oa (by omega)).set _⟩
 have h6:=Qa hh;clear hh
 by_cases hn:n<0
 ·have d1:decide (n<0)=true:=Qe hn
  have HV:Hid (Wd n=0∧YI n=1):=⟨if_neg (by omega),if_pos hn⟩
  have h3:Boxed (((w.alloc (.cells #[.int .i64 n] 3)).alloc (.cells #[.int .i64 0] 3)).alloc (.cells #[.int .i64 1] 27)) (w.heap.size+1) 3 (.int .i64 0):=by
   have h:=(Boxed.new (w.alloc (.cells #[.int .i64 n] 3)) 3 (.int .i64 0)).alloc (.cells #[.int .i64 1] 27);rw[World.size_alloc] at h;exact h
  have h4:Boxed (((w.alloc (.cells #[.int .i64 n] 3)).alloc (.cells #[.int .i64 0] 3)).alloc (.cells #[.int .i64 1] 27)) (w.heap.size+1+1) 27 (.int .i64 1):=by
   have h:=Boxed.new ((w.alloc (.cells #[.int .i64 n] 3)).alloc (.cells #[.int .i64 0] 3)) 27 (.int .i64 1);rw[World.size_alloc,World.size_alloc] at h;exact h
  have F:=Qa (And.intro h3 h4);clear h3 h4 o0 hn hsz bN bR bE h5 h6;refine (callsIn_wide (n:=5)).1 ?_;refine callsIn_of_wp_marks func116 rfl trivial ?_ rfl;simp only[ntmps116,List.size_toArray,Qi,List.length_nil,Nat.reduceAdd,Nat.reduceSub,Array.replicate_succ,Array.replicate_zero,List.push_toArray,List.append_toArray,List.nil_append,List.cons_append]
  gi_wp2
  refine⟨.tuple #[.int .i64 0,.int .i64 1],X1 rfl _ _ rfl rfl (Vk F.o.1) (Gj F.o.2),?_,?_⟩
  ·rw[HV.o.1,HV.o.2]
  ·exact (((Only.refl _ w).alloc _).alloc _).alloc _
 have d1:decide (n<0)=false:=Qb hn;obtain⟨n,rfl⟩:=Int.eq_ofNat_of_zero_le (Int.not_lt.1 hn);have HW0:=Qa h5;clear h5;refine (callsIn_wide (n:=5)).1 ?_;refine callsIn_of_wp_marks func116 rfl trivial ?_ rfl;simp only[ntmps116,List.size_toArray,Qi,List.length_nil,Nat.reduceAdd,Nat.reduceSub,Array.replicate_succ,Array.replicate_zero,List.push_toArray,List.append_toArray,List.nil_append,List.cons_append]
 gi_wp2_with fail
 refine⟨trivial,(PN _ _).mono ?_⟩;rintro e w2 ⟨rfl,rfl⟩
 gi_wp2_with fail
 rw[HW0.o]
 refine Jz (c:=.ret) (gf:=139) (lb:=#[]) rfl (enters_of func139 (by kernel_rfl) rfl)
  (λx:Nat × Nat=>#[.int .i64 (x.1:Int),.int .i64 (x.2:Int)]) (λ_=>rfl)
  (λs A=>(∀j:Nat,j<s->Qt j<n+4)∧N0 W0 A)
  (λs A=>n<=4194300∧Only (λj=>j=w.heap.size+1∨j=w.heap.size+1+1) W0 A∧Boxed A (w.heap.size+1) 3 (.int .i64 (QV n:Int))∧Boxed A (w.heap.size+1+1) 27 (.int .i64 0))
  (λs x s' A=>s'=s+1∧s<9∧x.1=s∧x.2=Qt s) 0 9
  (λs A B r hi hl o=>⟨hi.1,hi.2.trans o (λi hi e=>by omega)⟩) (λs A B r hi hl o=>⟨hi.1,hi.2.1.trans o (λi hi e=>by omega),QI hi.2.2.1 o (by omega),QI hi.2.2.2 o (by omega)⟩) (λs A B hi o=>⟨hi.1,hi.2.same o⟩)
  (λs x s' A B r hv hl o=>hv) ⟨λj hj=>by omega,Only.refl _ _⟩
  ?hit (λx=>{ tmps:=#[.int .i64 (n:Int),.pointer (some ⟨w.heap.size,0,none⟩),.pointer (some ⟨w.heap.size+1,0,none⟩),.pointer (some ⟨w.heap.size+1+1,0,none⟩),.int .i64 (x.1:Int),.int .i64 (x.2:Int),.int .i64 (n:Int),.bool false,.func (.func 139) #[] #[],.int .i64 (x.1:Int),.int .i64 (x.2:Int),undef,undef,undef,undef,undef],defers:=[] }) ?assign ?body ?done ?stop
 case hit =>
  intro J Jx W hJ hJo hY h0 hW;refine Pr 4 (W0.heap.size+1) J Jx (λs A h9 hs=>?_) W h0;obtain⟨fn,tmps,assign,body,hy,hR⟩:=hY s (s,Qt s) (s+1) A hs ⟨rfl,h9,rfl,rfl⟩;refine⟨fn,tmps,assign,body,hy,hR.mono ?_⟩;rintro e B (⟨h1,h2,_⟩ | h)
  ·exact .inl ⟨h1,h2⟩
  ·exact .inr h
 case assign =>
  intro x W K hK
  gi_wp2
  exact hK
 case body =>
  rintro s ⟨x1,x2⟩ s' W ⟨hs,hq⟩ ⟨rfl,h9,hf,he⟩;simp only at hf he;subst hf he;have hck:=(QI bN hq (λf=>f)).cell;have h3:=QI bR hq (λf=>f);have h4:=QI bE hq (λf=>f);have hcr:=h3.cell;have hfr:=h3.frozen;have hce:=h4.cell;have hfe:=h4.frozen;have hg:=NJ (t:=x1) (by omega)
  by_cases hle:n+4<=Qt x1
  ·have e1:=vj h9 hle hs
   obtain⟨f1,f2,f3⟩:=h6.o W (x1:Int) 0 h3 h4
   have hd:Hid (Only (λj=>j<W0.heap.size) W ((W.setCell ⟨w.heap.size+1,0,none⟩ (.int .i64 (x1:Int))).setCell ⟨w.heap.size+1+1,0,none⟩ (.int .i64 0))∧n<=4194300∧Only (λj=>j=w.heap.size+1∨j=w.heap.size+1+1) W0 ((W.setCell ⟨w.heap.size+1,0,none⟩ (.int .i64 (x1:Int))).setCell ⟨w.heap.size+1+1,0,none⟩ (.int .i64 0)) ∧
    Boxed ((W.setCell ⟨w.heap.size+1,0,none⟩ (.int .i64 (x1:Int))).setCell ⟨w.heap.size+1+1,0,none⟩ (.int .i64 0)) (w.heap.size+1) 3 (.int .i64 (QV n:Int))∧Boxed ((W.setCell ⟨w.heap.size+1,0,none⟩ (.int .i64 (x1:Int))).setCell ⟨w.heap.size+1+1,0,none⟩ (.int .i64 0)) (w.heap.size+1+1) 27 (.int .i64 0)):=by
    refine⟨f1.mono (λj _ e=>by omega),by omega,(hq.mono (λ_ _ f=>f.elim)).trans f1 (λ_ _ e=>e),?_,f3⟩;rw[e1];exact f2
   have d2:decide ((n:Int)<=(Qt x1:Int) - 4)=true:=Qe (by omega);generalize Qt x1=q at *;clear hs hq h3 h4 f1 f2 f3 e1 hle
   have ha:64<=q∧q<=4194304:=by omega
   clear hg
   gi_wp2
   exact⟨rfl,hd.o⟩
  ·have hd:Hid (Only (λj=>j<W0.heap.size) W W∧(∀j:Nat,j<x1+1->Qt j<n+4)∧N0 W0 W):=by
    refine⟨Only.refl _ _,λj hj=>?_,hq⟩
    rcases Nat.lt_or_ge j x1 with h | h
    ·exact hs j h
    ·obtain rfl:j=x1:=by omega
     omega
   have d2:decide ((n:Int)<=(Qt x1:Int) - 4)=false:=Qb (by omega);clear hs;generalize Qt x1=q at *;clear hq h3 h4 hle
   have ha:64<=q∧q<=4194304:=by omega
   clear hg
   gi_wp2
   exact hd.o
 case done =>
  intro W hi hD;have h8:=hi.1 8 (by omega);simp only[Qt,Nat.reducePow,Nat.reduceMul] at h8;have HV:Hid (Wd n=0∧YI n=4):=⟨if_neg (by omega),by show YI _=_;unfold YI;rw[if_neg (by omega),if_pos (by omega)]⟩;have h3:=QI bR hi.2 (λf=>f);have h4:=QI bE hi.2 (λf=>f);have hcr:=h3.cell;have hfr:=h3.frozen;have hce:=h4.cell;have hfe:=h4.frozen;have HI:=Qa hi.2;have HD:=Qa hD;have hb:=Qa h3;have h7:=Qa h4;clear hi hD h3 h4 h8
  gi_wp2
  obtain⟨f1,f2,f3⟩:=h6.o W 0 4 hb.o h7.o;obtain⟨V,hV⟩:=EX ((W.setCell ⟨w.heap.size+1,0,none⟩ (.int .i64 0)).setCell ⟨w.heap.size+1+1,0,none⟩ (.int .i64 4));rw[<-hV] at f1 f2 f3 ⊢;have hD5:=f1.heap HD.o (by omega);have o6:Only (λj=>j=W0.heap.size) V (V.putObj W0.heap.size (.deferred none)):=(Only.refl _ _).putObj _ _ (λ_=>rfl);refine⟨by simp,.inl ⟨_,_,rfl,run_takeDeferred hD5,?_⟩⟩;refine⟨.tuple #[.int .i64 0,.int .i64 4],X1 rfl _ _ rfl rfl (Vk (QI f2 o6 (by omega))) (Gj (QI f3 o6 (by omega))),?_,?_⟩
  ·rw[HV.o.1,HV.o.2]
  ·exact ((o0.same HI.o).trans f1 (λj _ e=>by omega)).trans o6 (λj _ e=>by omega)
 case stop =>
  intro s W hi hD;have HV:Hid (Wd n=(QV n:Int)∧YI n=0):=⟨if_pos (by have:=hi.1;omega),by show YI _=_;unfold YI;rw[if_neg (by omega),if_neg (by have:=hi.1;omega)]⟩;have HI:=Qa hi.2.1;have HD:=Qa hD;have hb:=Qa hi.2.2.1;have h7:=Qa hi.2.2.2;clear hi hD;generalize QV n=q at *
  gi_wp2
  have o6:Only (λj=>j=W0.heap.size) W (W.putObj W0.heap.size (.deferred none)):=(Only.refl _ _).putObj _ _ (λ_=>rfl);refine⟨by simp,.inl ⟨_,_,rfl,run_takeDeferred HD.o,?_⟩⟩;refine⟨.tuple #[.int .i64 (q:Int),.int .i64 0],X1 rfl _ _ rfl rfl (Vk (QI hb.o o6 (by omega))) (Gj (QI h7.o o6 (by omega))),?_,?_⟩
  ·rw[HV.o.1,HV.o.2]
  ·exact (o0.trans HI.o (λj _ e=>by omega)).trans o6 (λj _ e=>by omega)
end
end Go.Proofs.YtoflhbghdlaeaaaGreatDoor
