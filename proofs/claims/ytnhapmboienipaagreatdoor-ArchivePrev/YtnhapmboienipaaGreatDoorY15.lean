import Derived.Test.YtnhapmboienipaaGreatDoorY14
import Derived.Test.YtnhapmboienipaaGreatDoorY5
import Derived.Laws.Strings
import Derived.Test.YtnhapmboienipaaGreatDoorY10
namespace Go.Proofs.YtnhapmboienipaaGreatDoor
set_option maxHeartbeats 1000000
set_option maxRecDepth 100000
open Go.RowKit _root_.Go.Proofs.Tryz
def Sts (w:World) (v:Value) (T:List (List Int)):Prop :=
 ∃ao cap,v=.slice ao T.length cap∧T.length≤cap∧(T≠[]→∃b off,ao=some ⟨b,off,none⟩∧∀j,j<T.length→w.cell? ⟨b,off+j,none⟩=some (.string (strOfNums (T.getD j []))))
theorem Sts.len {w:World} {v:Value} {T:List (List Int)} (h:Sts w v T):∃ao cap,v=.slice ao T.length cap:=by
 obtain ⟨ao,cap,rfl,_⟩:=h;exact ⟨ao,cap,rfl⟩
theorem Sts.nil (w:World):Sts w (.slice none 0 0) []:=⟨none,0,rfl,Nat.le_refl _,fun h=>absurd rfl h⟩
theorem Sts.at {w:World} {v:Value} {T:List (List Int)} (h:Sts w v T) (j:Nat) (hj:j<T.length) :
  ∃b off cap,v=.slice (some ⟨b,off,none⟩) T.length cap∧w.cell? ⟨b,off+j,none⟩=some (.string (strOfNums (T.getD j []))):=by
 obtain ⟨ao,cap,rfl,_,hr⟩:=h;obtain ⟨b,off,rfl,hc⟩:=hr (by intro h0;subst h0;simp at hj);exact ⟨b,off,cap,rfl,hc j hj⟩
theorem Sts.keep {w w':World} {v:Value} {T:List (List Int)} (h:Sts w v T) {S:Nat→Prop} (ho:Only S w w') (hs:∀b,v.ownBlock=some b→¬S b):Sts w' v T:=by
 obtain ⟨ao,cap,rfl,hl,hr⟩:=h;refine ⟨ao,cap,rfl,hl,fun hne=>?_⟩;obtain ⟨b,off,rfl,hc⟩:=hr hne;refine ⟨b,off,rfl,fun j hj=>?_⟩;have hb:¬S b:=hs b rfl;have h0:=hc j hj;have hlt:b<w.heap.size:=World.block_lt_of_cell? w _ h0;have e:=ho.block b hlt hb;rw [←h0];unfold World.cell?;rw [e]
theorem Sts.past {w w':World} {v:Value} {T:List (List Int)} (h:Sts w v T) (o:Only (fun _=>False) w w'):Sts w' v T:=h.keep o (fun _ _ f=>f)
abbrev QcS (T:List (List Int)):List Value:=T.map fun x=>Value.string (strOfNums x)
theorem Sts.of_own {w:World} {lo:Nat} {E:TypeId} {v:Value} {T:List (List Int)} (h:w.ownsRow lo E 1 v T.length (QcS T)):Sts w v T:=by
 rcases h.2 with ⟨rfl,hn⟩ | ⟨g,cap,cur,rfl,_,hg,hnc,_,hcs,htk⟩
 ·have:T=[]:=List.eq_nil_of_length_eq_zero hn
  subst this;exact Sts.nil w
 ·refine ⟨_,cap,rfl,hnc,fun _=>⟨g,0,rfl,fun j hj=>?_⟩⟩
  have hc:w.cell? ⟨g,0+j,none⟩=(QcS T)[j]?:=by
   rw [←htk,List.getElem?_take_of_lt (by omega)];simp [World.cell?,hg]
  rw [hc];simp [QcS,List.getD_eq_getElem?_getD,List.getElem?_eq_getElem hj]
theorem Qtd {w:World} {lo:Nat} {E:TypeId} {size:Nat} {v:Value} {n:Nat} {xs:List Value} (h:w.ownsRow lo E size v n xs) {b:Nat} (hb:b<lo):some b≠v.ownBlock:=by
 intro e;have:=(h.lt b e.symm).1;omega
theorem QfQ:∀(x y:List UInt8),Op.bytesLess x y=lexB (x.map fun c=>(c.toNat:Int)) (y.map fun c=>(c.toNat:Int))
 | _,[]=>by cases ‹List UInt8› <;> rfl
 | [],_ :: _=>rfl
 | a :: x,b :: y=>by
  have h1:decide (a<b)=decide ((a.toNat:Int)<(b.toNat:Int)):=by
   rw [decide_eq_decide,UInt8.lt_iff_toNat_lt];omega
  have h2:(a == b)=decide ((a.toNat:Int)=(b.toNat:Int)):=by
   rw [Bool.eq_iff_iff,beq_iff_eq,decide_eq_true_eq]
   constructor
   ·rintro rfl;rfl
   ·intro h;exact UInt8.toNat_inj.1 (by omega)
  simp only [Op.bytesLess,List.map_cons,lexB,←QfQ x y,h1,h2]
theorem Qr9 (s t:ByteArray):Op.bytesLess s.toList t.toList=lexB (sb s) (sb t):=by
 rw [QfQ,ByteArray.toList_eq,ByteArray.toList_eq];rfl
theorem eq_sb (s t:ByteArray):(s.toList == t.toList)=decide (sb s=sb t):=by
 rw [Bool.eq_iff_iff,beq_iff_eq,decide_eq_true_eq]
 constructor
 ·intro h
  unfold sb;rw [←ByteArray.toList_eq,←ByteArray.toList_eq,h]
 ·intro h
  rw [Quz h]
theorem Qks {l:List (List UInt8)} (h:l.Pairwise fun x y=>Op.bytesLess y x=false) (hn:l.Nodup):RIS (l.map fun s=>s.map fun c=>(c.toNat:Int)):=by
 unfold RIS;rw [List.pairwise_map];refine (h.and hn).imp (fun {a b} k=>?_)
 rcases Qdw (a.map fun c=>(c.toNat:Int)) (b.map fun c=>(c.toNat:Int)) with e | e | e
 ·refine absurd ?_ k.2
  have hi:∀(x y:List UInt8),(x.map fun c=>(c.toNat:Int))=(y.map fun c=>(c.toNat:Int))→x=y:=by
   intro x
   induction x with
   | nil=>intro y hy;cases y with
    | nil=>rfl
    | cons b y=>simp at hy
   | cons a x ih=>intro y hy;cases y with
    | nil=>simp at hy
    | cons b y =>
     simp only [List.map_cons,List.cons.injEq] at hy;rw [ih y hy.2,UInt8.toNat_inj.1 (show a.toNat=b.toNat by omega)]
  exact hi a b e
 ·exact e
 ·rw [←QfQ,k.1] at e;cases e
section
open Go.Shelf
def Qf3 {σ:Type} (B:Nat) (I Ix:σ→World→Prop) (s:σ) (W:World):Exit→Act→World→Prop
 | .normal,_,W'=>Only (fun k=>k<B) W W'∧I s W'
 | .ret,_,W'=>Only (fun k=>k<B) W W'∧Ix s W'
 | _,_,_=>False
theorem Qhj {σ α:Type} {P:Program} {n:Nat} {g:Operand} {ps:Array Tmp} {assign body:Code} {Q:Exit→Act→World→Prop} {a:Act} {w:World}
  {gf:Nat} {lb:Array Value} (hg:a.eval g=.func (.func gf) #[] lb) (eg:∀args w,(callFunc gf args).run P w=.ok (.enter gf args) w)
  (encs:α→Array Value) (hps:∀x,(encs x).size=ps.size) (I Ix:σ→World→Prop) (V:σ→α→σ→World→Prop) (s0 s1:σ)
  (hI:∀s A B r,I s A→A.heap[w.heap.size+1]? = some (.loop r)→Only (fun k=>k=w.heap.size+1) A B→I s B)
  (hIx:∀s A B r,Ix s A→A.heap[w.heap.size+1]? = some (.loop r)→Only (fun k=>k=w.heap.size+1) A B→Ix s B)
  (hIn:∀s A B,I s A→Only (fun _=>False) A B→I s B)
  (hV:∀s x s' A B r,V s x s' A→A.heap[w.heap.size+1]? = some (.loop r)→Only (fun k=>k=w.heap.size+1) A B→V s x s' B)
  (h0:I s0 w)
  (hit:∀(J Jx:σ→World→Prop) (W:World),(∀s A,J s A→I s A)→(∀s A B,J s A→Only (fun _=>False) A B→J s B) →
   (∀s x s' A,J s A→V s x s' A→YieldAt Fence.wide (n - 1 - 1) P (w.heap.size+1) (encs x) A fun e B =>
    (e=.returned (.bool true)∧J s' B∧Only (fun k=>k<w.heap.size∨k=w.heap.size+1) A B)∨(e=.returned (.bool false)∧Jx s' B))→J s0 W→w.heap.size+2≤W.heap.size →
   CallsIn Fence.wide (n - 1) P gf (#[.func (.yield (w.heap.size+1)) #[] #[]]++lb) W fun e B=>(∃v,e=.returned v)∧(J s1 B∨∃s,Jx s B))
  (a₁:α→Act)
  (hassign:∀(x:α) (W:World) (K:Act→World→Prop),K (a₁ x) W →
   assign.wpIn (Fence.wide.inRound (w.heap.size+1)) (n - 1 - 1) P (Exit.then K (fun _ _ _=>False)) { tmps:=(ps.zip (encs x)).foldl (fun t (p,v)=>t.setIfInBounds p v) a.tmps,defers:=[] } W)
  (hbody:∀(s:σ) (x:α) (s':σ) (W:World),I s W→V s x s' W→body.wpIn (Fence.wide.inRound (w.heap.size+1)) (n - 1 - 1) P (Qf3 w.heap.size I Ix s' W) (a₁ x) W)
  (hdone:∀(W:World),I s1 W→W.heap[w.heap.size]? = some (.deferred (some []))→Q .normal { a with defers:={ target:=.collected w.heap.size,args:=#[] } :: a.defers } W)
  (hstop:∀(s:σ) (W:World),Ix s W→W.heap[w.heap.size]? = some (.deferred (some []))→Code.ret.wpIn Fence.wide n P Q { a with defers:={ target:=.collected w.heap.size,args:=#[] } :: a.defers } W) :
  (Code.rangeFunc g ps assign body).wpIn Fence.wide n P Q a w:=by
 refine wpIn_rangeFunc fun fn hfn=>?_
 obtain ⟨rc,hrc⟩:∃rc:LoopState→Option Code→Loop,rc=fun st pe=>{ state:=st,pending:=pe,fn,tmps:=a.tmps,params:=ps,assign,body,defers:=w.heap.size }:=⟨_,rfl⟩
 obtain ⟨W1,hW1⟩:∃W1,(w.alloc (.deferred (some []))).alloc (.loop (rc .ready none))=W1:=⟨_,rfl⟩
 have hL:W1.heap[w.heap.size+1]? = some (.loop (rc .ready none)):=by
  have:=World.alloc_heap_new (w.alloc (.deferred (some []))) (.loop (rc .ready none));rw [World.size_alloc,hW1] at this;exact this
 have hD:W1.heap[w.heap.size]? = some (.deferred (some [])):=by
  rw [←hW1];exact (Below.heap_alloc _ _ _ (by simp)).trans (World.alloc_heap_new w _)
 have hO:Only (fun _=>False) w W1:=by
  rw [←hW1];exact ((Only.refl _ w).alloc _).alloc _
 have hS1:w.heap.size+2≤W1.heap.size:=by rw [←hW1];simp
 refine ⟨w.heap.size+1,[{ target:=.collected w.heap.size,args:=#[] }],W1,{ target:=.fn (.func gf) lb,args:=#[.func (.yield (w.heap.size+1)) #[] #[]] },W1,gf,#[.func (.yield (w.heap.size+1)) #[] #[]]++lb,W1,?_,?_,fun _ _=>trivial,?_,(fun h=>by cases h),?_⟩
 ·rw [←hW1,hrc]
  exact run_enterLoop_outer _ _ _ _ _
 ·simp only [resolve,hg]
  simp [go_sem]
 ·simp [invoke,go_sem,eg]
 refine (hit (fun s W=>I s W∧W.heap[w.heap.size+1]? = some (.loop (rc .ready none))∧W.heap[w.heap.size]? = some (.deferred (some [])))
  (fun s W=>Ix s W∧W.heap[w.heap.size+1]? = some (.loop (rc .done (some .ret)))∧W.heap[w.heap.size]? = some (.deferred (some []))) W1 (fun _ _ h=>h.1)
  (fun s A B h o=>⟨hIn s A B h.1 o,o.heap h.2.1 (fun f=>f),o.heap h.2.2 (fun f=>f)⟩) ?_ ⟨hIn _ _ _ h0 hO,hL,hD⟩ hS1).mono ?_
 ·rintro s x s' A ⟨hi,hl,hd⟩ hv
  have hlt:w.heap.size+1<A.heap.size:=(Array.getElem?_eq_some_iff.1 hl).1;have hy:=run_yield (P:=P) (args:=encs x) hl (by rw [hrc];exact hps x);rw [hrc] at hy;refine ⟨fn,_,assign,body,hy,roundIn_of_wpIn hfn (hassign x A _ ⟨_,run_beginRound hl (by rw [hrc]),?_⟩)⟩;obtain ⟨A2,hA2⟩:∃A2,A.putObj (w.heap.size+1) (.loop { rc .ready none with state:=.busy })=A2:=⟨_,rfl⟩
  have o2:Only (fun k=>k=w.heap.size+1) A A2:=by rw [←hA2];exact (Only.refl _ A).putObj _ _ (fun _=>rfl)
  have l2:A2.heap[w.heap.size+1]? = some (.loop { rc .ready none with state:=.busy }):=by rw [←hA2];exact World.putObj_heap_same hlt
  have d2:A2.heap[w.heap.size]? = some (.deferred (some [])):=o2.heap hd (by omega);rw [hA2];refine wpIn_mono (hbody s x s' A2 (hI s A A2 _ hi hl o2) (hV s x s' A A2 _ hv hl o2)) ?_;intro ex a3 A3 h
  cases ex
  case normal =>
   obtain ⟨o3,i3⟩:=h;have l3:=o3.heap l2 (by omega);have d3:=o3.heap d2 (by omega);have hr:=run_endRound (P:=P) none l3
   have h4:A3.putObj (w.heap.size+1) (.loop (rc .ready none))=A3.putObj (w.heap.size+1) (.loop { rc .ready none with state:=if (none:Option Code).isNone then .ready else .done,pending:=none }):=by rw [hrc];rfl
   have o4:Only (fun k=>k=w.heap.size+1) A3 (A3.putObj (w.heap.size+1) (.loop (rc .ready none))):=(Only.refl _ A3).putObj _ _ (fun _=>rfl);refine ⟨_,_,hr,.inl ⟨rfl,?_⟩⟩
   have h5:(I s' (A3.putObj (w.heap.size+1) (.loop (rc .ready none)))∧(A3.putObj (w.heap.size+1) (.loop (rc .ready none))).heap[w.heap.size+1]? = some (.loop (rc .ready none))∧(A3.putObj (w.heap.size+1) (.loop (rc .ready none))).heap[w.heap.size]? = some (.deferred (some []))) ∧
     Only (fun k=>k<w.heap.size∨k=w.heap.size+1) A (A3.putObj (w.heap.size+1) (.loop (rc .ready none))) :=
    ⟨⟨hI s' A3 _ _ i3 l3 o4,World.putObj_heap_same (Array.getElem?_eq_some_iff.1 l3).1,o4.heap d3 (by omega)⟩,
     ((o2.mono (T:=fun k=>k<w.heap.size∨k=w.heap.size+1) (fun _ _ e=>.inr e)).trans o3 (fun _ _ e=>.inl e)).trans o4 (fun _ _ e=>.inr e)⟩
   rw [h4] at h5;exact h5
  case ret =>
   obtain ⟨o3,i3⟩:=h;have l3:=o3.heap l2 (by omega);have d3:=o3.heap d2 (by omega);have hr:=run_endRound (P:=P) (some .ret) l3
   have h4:A3.putObj (w.heap.size+1) (.loop (rc .done (some .ret)))=A3.putObj (w.heap.size+1) (.loop { rc .ready none with state:=if (some Code.ret:Option Code).isNone then .ready else .done,pending:=some .ret }):=by rw [hrc];rfl
   have o4:Only (fun k=>k=w.heap.size+1) A3 (A3.putObj (w.heap.size+1) (.loop (rc .done (some .ret)))):=(Only.refl _ A3).putObj _ _ (fun _=>rfl);refine ⟨_,_,hr,.inr ⟨rfl,?_⟩⟩
   have h5:Ix s' (A3.putObj (w.heap.size+1) (.loop (rc .done (some .ret))))∧(A3.putObj (w.heap.size+1) (.loop (rc .done (some .ret)))).heap[w.heap.size+1]? = some (.loop (rc .done (some .ret)))∧(A3.putObj (w.heap.size+1) (.loop (rc .done (some .ret)))).heap[w.heap.size]? = some (.deferred (some [])) :=
    ⟨hIx s' A3 _ _ i3 l3 o4,World.putObj_heap_same (Array.getElem?_eq_some_iff.1 l3).1,o4.heap d3 (by omega)⟩
   rw [h4] at h5;exact h5
  all_goals exact h.elim
 ·rintro e A ⟨⟨v,rfl⟩,⟨hi,hl,hd⟩ | ⟨s,hi,hl,hd⟩⟩
  ·have hr:=run_endLoop (P:=P) hl (by rw [hrc];simp)
   have hp:(rc .ready none).pending=none:=by rw [hrc]
   refine ⟨none,_,by rw [hr,hp],hdone _ (hI _ _ _ _ hi hl ((Only.refl _ A).putObj _ _ (fun _=>rfl))) ?_⟩;exact (World.putObj_heap_other (by omega)).trans hd
  ·have hr:=run_endLoop (P:=P) hl (by rw [hrc];simp)
   have hp:(rc .done (some .ret)).pending=some .ret:=by rw [hrc]
   refine ⟨some .ret,_,by rw [hr,hp],hstop s _ (hIx _ _ _ _ hi hl ((Only.refl _ A).putObj _ _ (fun _=>rfl))) ?_⟩;exact (World.putObj_heap_other (by omega)).trans hd
end
def PSZ (k:Nat):Nat:=64*4^k
def PBK (n:Nat):Nat:=if n≤60 then 0 else if n≤252 then 1 else if n≤1020 then 2 else if n≤4092 then 3 else if n≤16380 then 4 else if n≤65532 then 5 else if n≤262140 then 6 else if n≤1048572 then 7 else 8
theorem QqX (n:Nat):PBK n≤8:=by unfold PBK;(repeat' split) <;> omega
def PLN (n:Nat):Nat:=PSZ (PBK n)
theorem Qjw (n:Nat):PLN n=if n≤60 then 64 else if n≤252 then 256 else if n≤1020 then 1024 else if n≤4092 then 4096 else if n≤16380 then 16384 else if n≤65532 then 65536 else if n≤262140 then 262144 else if n≤1048572 then 1048576 else 4194304:=by
 unfold PLN PBK;repeat' split
 all_goals rfl
theorem QmS (n:Nat) (h:n≤4194300):n+4≤PLN n:=by rw [Qjw];(repeat' split) <;> omega
theorem QmT (n:Nat):PLN n≤4194304:=by rw [Qjw];(repeat' split) <;> omega
theorem Qsw (n:Nat):64≤PLN n:=by rw [Qjw];(repeat' split) <;> omega
theorem QmU (n:Nat):(n≤60∧PBK n=0)∨(60<n∧n≤252∧PBK n=1)∨(252<n∧n≤1020∧PBK n=2)∨(1020<n∧n≤4092∧PBK n=3)∨(4092<n∧n≤16380∧PBK n=4)∨(16380<n∧n≤65532∧PBK n=5)∨(65532<n∧n≤262140∧PBK n=6)∨(262140<n∧n≤1048572∧PBK n=7)∨(1048572<n∧PBK n=8):=by
 unfold PBK;(repeat' split) <;> omega
def PADL (b:List Int):List Int:=fixL (b.length:Int) 4++b++List.replicate (PLN b.length - 4 - b.length) 0
theorem QfW (b:List Int) (h:b.length≤4194300):(PADL b).length=PLN b.length:=by
 have:=QmS b.length h;simp only [PADL,Yae,Qag,List.length_replicate];omega
theorem QmV {b:List Int} (h:U8 b):U8 (PADL b):=by
 unfold PADL;refine U8.app (U8.app (QaG _ _) h) ?_;intro y hy;have:=List.eq_of_mem_replicate hy;omega
def PDt (b:List Int):List Int:=if b.length≤4194300 then PADL b else []
def PDe (b:List Int):Int:=if b.length≤4194300 then 0 else 4
section
open Go.Shelf
attribute [local go_sem] Oper.semAt_some
theorem QpL (t:Nat):PSZ (t+1)=PSZ t*4:=by unfold PSZ;rw [Nat.pow_succ];omega
theorem Qg9 {t:Nat} (h:t≤9):(t<9∧PSZ t≤4194304∧64≤PSZ t)∨(t=9∧PSZ t=16777216):=by
 rcases (show t=0∨t=1∨t=2∨t=3∨t=4∨t=5∨t=6∨t=7∨t=8∨t=9 by omega) with rfl | rfl | rfl | rfl | rfl | rfl | rfl | rfl | rfl | rfl <;> decide
theorem QjB (n:Nat) (w:World):CallsIn Fence.wide n prog 89 #[] w fun e w'=>e=.returned (.func (.func 128) #[] #[])∧w'=w:=by
 refine callsIn_of_wp func89 rfl trivial ?_ rfl;simp only [ntmps89,List.size_toArray,List.length_nil,Nat.reduceSub,Array.replicate_succ,Array.replicate_zero,List.push_toArray,List.append_toArray,List.nil_append]
 gi_wp2
 go_ret;exact ⟨rfl,rfl⟩
theorem Qha (n L:Nat) (J Jx:Nat→World→Prop)
  (hY:∀(s:Nat) A,s<9→J s A→YieldAt Fence.wide (n - 1) prog L #[.int .i64 (s:Int),.int .i64 (PSZ s:Int)] A fun e B =>
   (e=.returned (.bool true)∧J (s+1) B)∨(e=.returned (.bool false)∧Jx (s+1) B))
  (W:World) (h0:J 0 W) :
  CallsIn Fence.wide n prog 128 #[.func (.yield L) #[] #[]] W fun e B=>(∃v,e=.returned v)∧(J 9 B∨∃s,Jx s B):=by
 have HY:=Qaa hY;have H0:=Qaa h0;clear hY h0;refine callsIn_of_wp func128 rfl trivial ?_ rfl;simp only [ntmps128,List.size_toArray,Yah,List.length_nil,Nat.reduceAdd,Nat.reduceSub,Array.replicate_succ,Array.replicate_zero,List.push_toArray,List.append_toArray,List.nil_append,List.cons_append]
 gi_wp2
 gi_loopw [2,3] (fun k z wr=>∃t q:Nat,t≤9∧k=.int .i64 t∧z=.int .i64 q∧Hid (q=PSZ t)∧Hid (J t wr)) (fun k _ _=>9 - (intOf k).toNat)
 case atStart=>exact ⟨0,64,by omega,rfl,rfl,rfl,H0⟩
 case round =>
  obtain ⟨t,q,ht,rfl,rfl,HQ,HT⟩:=hrel
  rcases Qg9 ht with ⟨hlt,hle,hge⟩ | ⟨heq,hgr⟩
  ·rw [←HQ.out] at hle hge
   have dle:decide ((q:Int)≤4194304)=true:=Yaj (by omega);obtain ⟨fn,tmps,assign,body,hy,hR⟩:=HY.out t wr hlt HT.out;rw [←HQ.out] at hy;have HR:=Qaa hR;clear hR HT
   gi_wp2_with fail
   refine ⟨(fun h=>by cases h),HR.out.mono ?_⟩;rintro e w3 (⟨rfl,hJ3⟩ | ⟨rfl,hJ3⟩)
   ·have H3:=Qaa hJ3
    clear HR hJ3
    gi_wp2
    go_roundw
    case rel=>exact ⟨t+1,q*4,by omega,by go_num,by go_num,by show _=_;rw [HQ.out,QpL],H3⟩
    case measure=>simp [intOf];omega
   ·have H3:=Qaa hJ3
    clear HR hJ3
    gi_wp2
    refine bodyPost_ret (results_none rfl _ _ _) rfl ?_;exact ⟨⟨_,rfl⟩,.inr ⟨_,H3.out⟩⟩
  ·rw [←HQ.out] at hgr
   have dle:decide ((q:Int)≤4194304)=false:=Yak (by omega);subst heq
   gi_wp2
   go_end0
   exact ⟨⟨_,rfl⟩,.inl HT.out⟩
end
section
open Go.Shelf
attribute [local go_sem] Oper.semAt_some
theorem QcJ {P:Program} {fn:Func} {p:Tmp} {ty:TypeId} (h:fn.results=#[.cell p ty]) (tmps:Array Value) (w:World) {a:Addr} {v:Value} (ha:tmps[p]?.getD undef=.pointer (some a)) (hl:(loadVar ty a).run P w=.ok v w) :
  (results fn tmps).run P w=.ok v w:=by
 simp only [results,h];simp [ha,asAddr,hl]
theorem QdG {P:Program} {fn:Func} {p q:Tmp} {ty ty2:TypeId} (h:fn.results=#[.cell p ty,.cell q ty2]) (tmps:Array Value) (w:World) {a b:Addr} {v1 v2:Value}
  (hp:tmps[p]?.getD undef=.pointer (some a)) (hq:tmps[q]?.getD undef=.pointer (some b)) (h1:(loadVar ty a).run P w=.ok v1 w) (h2:(loadVar ty2 b).run P w=.ok v2 w) :
  (results fn tmps).run P w=.ok (.tuple #[v1,v2]) w:=by
 simp [results,h,hp,hq,asAddr,h1,h2]
theorem Qcs {W:World} {b:Nat} {c:Int} (h:Boxed W b 3 (.int .i64 c)):(loadVar 3 ⟨b,0,none⟩).run prog W=.ok (.int .i64 c) W:=by
 have hc:=h.cell;simp [go_sem,hc]
theorem QeP {W:World} {b:Nat} {c:Int} (h:Boxed W b 29 (.int .i64 c)):(loadVar 29 ⟨b,0,none⟩).run prog W=.ok (.int .i64 c) W:=by
 have hc:=h.cell;simp [go_sem,hc]
def SZV (k:Int):Int:=if 0≤k∧k≤8 then (PSZ k.toNat:Int) else 0
theorem QeQ (k:Int) (w:World):Calls prog 59 #[.int .i64 k] w fun e w'=>e=.returned (.int .i64 (SZV k))∧Only (fun _=>False) w w':=by
 refine (callsIn_wide (n:=5)).1 ?_;refine callsIn_of_wp_marks func59 rfl trivial ?_ rfl;simp only [ntmps59,List.size_toArray,Yah,List.length_nil,Nat.reduceAdd,Nat.reduceSub,Array.replicate_succ,Array.replicate_zero,List.push_toArray,List.append_toArray,List.nil_append,List.cons_append]
 gi_wp2_with fail
 refine ⟨trivial,(QjB _ _).mono ?_⟩;rintro e w2 ⟨rfl,rfl⟩
 gi_wp2_with fail
 obtain ⟨W0,hW0⟩:∃W0,(w.alloc (.cells #[.int .i64 k] 3)).alloc (.cells #[.int .i64 0] 3)=W0:=⟨_,rfl⟩
 have o0:Only (fun _=>False) w W0:=by rw [←hW0];exact ((Only.refl _ w).alloc _).alloc _
 have hsz:W0.heap.size=w.heap.size+1+1:=by rw [←hW0];simp
 have bK:Boxed W0 w.heap.size 3 (.int .i64 k):=by rw [←hW0];exact (Boxed.new w 3 (.int .i64 k)).alloc _
 have bR:Boxed W0 (w.heap.size+1) 3 (.int .i64 0):=by
  have h:=Boxed.new (w.alloc (.cells #[.int .i64 k] 3)) 3 (.int .i64 0);rw [World.size_alloc,hW0] at h;exact h
 rw [hW0]
 refine Qhj (gf:=128) (lb:=#[]) rfl (enters_of func128 (by kernel_rfl) rfl)
  (fun x:Nat × Nat=>#[.int .i64 (x.1:Int),.int .i64 (x.2:Int)]) (fun _=>rfl)
  (fun s A=>(∀j:Nat,j<s→(j:Int)≠k)∧Only (fun _=>False) W0 A)
  (fun s A=>(0≤k∧k≤8)∧Only (fun j=>j=w.heap.size+1) W0 A∧Boxed A (w.heap.size+1) 3 (.int .i64 (PSZ k.toNat:Int)))
  (fun s x s' A=>s'=s+1∧s<9∧x.1=s∧x.2=PSZ s) 0 9
  (fun s A B r hi hl o=>⟨hi.1,hi.2.trans o (fun i hi e=>by omega)⟩) (fun s A B r hi hl o=>⟨hi.1,hi.2.1.trans o (fun i hi e=>by omega),Qak hi.2.2 o (by omega)⟩) (fun s A B hi o=>⟨hi.1,hi.2.same o⟩)
  (fun s x s' A B r hv hl o=>hv) ⟨fun j hj=>by omega,Only.refl _ _⟩
  ?hit (fun x=>{ tmps:=#[.int .i64 k,.pointer (some ⟨w.heap.size,0,none⟩),.pointer (some ⟨w.heap.size+1,0,none⟩),.int .i64 (x.1:Int),.int .i64 (x.2:Int),.func (.func 128) #[] #[],.int .i64 (x.1:Int),.int .i64 (x.2:Int),undef,undef,undef,undef],defers:=[] }) ?assign ?body ?done ?stop
 case hit =>
  intro J Jx W hJ hJo hY h0 hW;refine Qha 4 (W0.heap.size+1) J Jx (fun s A h9 hs=>?_) W h0;obtain ⟨fn,tmps,assign,body,hy,hR⟩:=hY s (s,PSZ s) (s+1) A hs ⟨rfl,h9,rfl,rfl⟩;refine ⟨fn,tmps,assign,body,hy,hR.mono ?_⟩;rintro e B (⟨h1,h2,_⟩ | h)
  ·exact .inl ⟨h1,h2⟩
  ·exact .inr h
 case assign =>
  intro x W K hK
  gi_wp2
  exact hK
 case body =>
  rintro s ⟨x1,x2⟩ s' W ⟨hs,hq⟩ ⟨rfl,h9,hx1,hx2⟩;simp only at hx1 hx2;subst hx1 hx2;have hck:=(Qak bK hq (fun f=>f)).cell;have bR':=Qak bR hq (fun f=>f);have hcr:=bR'.cell;have hfr:=bR'.frozen
  by_cases heq:(x1:Int)=k
  ·have d1:((x1:Int) == k)=true:=by simpa using heq
   have o5:Only (fun j=>j=w.heap.size+1) W (W.setCell ⟨w.heap.size+1,0,none⟩ (.int .i64 (PSZ x1:Int))):=(Only.refl (fun j=>j=w.heap.size+1) W).setCell (p:=⟨w.heap.size+1,0,none⟩) (fun _=>rfl) _
   have FIN:Hid (Only (fun j=>j<W0.heap.size) W (W.setCell ⟨w.heap.size+1,0,none⟩ (.int .i64 (PSZ x1:Int)))∧(0≤k∧k≤8)∧Only (fun j=>j=w.heap.size+1) W0 (W.setCell ⟨w.heap.size+1,0,none⟩ (.int .i64 (PSZ x1:Int)))∧Boxed (W.setCell ⟨w.heap.size+1,0,none⟩ (.int .i64 (PSZ x1:Int))) (w.heap.size+1) 3 (.int .i64 (PSZ k.toNat:Int))):=by
    refine ⟨o5.mono (fun j _ e=>by omega),by omega,(hq.mono (fun _ _ f=>f.elim)).trans o5 (fun _ _ e=>e),?_⟩
    have:k.toNat=x1:=by omega
    rw [this];exact bR'.set _
   generalize PSZ x1=q at *;clear hs hq bR' o5 heq
   gi_wp2
   exact FIN.out
  ·have d1:((x1:Int) == k)=false:=by simpa using heq
   have FIN:Hid (Only (fun j=>j<W0.heap.size) W W∧(∀j:Nat,j<x1+1→(j:Int)≠k)∧Only (fun _=>False) W0 W):=by
    refine ⟨Only.refl _ _,fun j hj e=>?_,hq⟩
    rcases Nat.lt_or_ge j x1 with h | h
    ·exact hs j h e
    ·exact heq (by omega)
   generalize PSZ x1=q at *;clear hs hq bR' heq
   gi_wp2
   exact FIN.out
 case done =>
  intro W hi hD
  have hS:SZV k=0:=by
   unfold SZV;rw [if_neg];rintro ⟨h1,h2⟩;exact hi.1 k.toNat (by omega) (by omega)
  have bR':=Qak bR hi.2 (fun f=>f);have hcr:=bR'.cell;have hfr:=bR'.frozen;have HI:=Qaa hi.2;have HD:=Qaa hD;have HBR:=Qaa bR';have HS:=Qaa hS;clear hi hD bR' hS
  gi_wp2
  have o5:Only (fun j=>j=w.heap.size+1) W (W.setCell ⟨w.heap.size+1,0,none⟩ (.int .i64 0)):=(Only.refl (fun j=>j=w.heap.size+1) W).setCell (p:=⟨w.heap.size+1,0,none⟩) (fun _=>rfl) _;have hD5:=o5.heap HD.out (by omega);have o6:Only (fun j=>j=W0.heap.size) (W.setCell ⟨w.heap.size+1,0,none⟩ (.int .i64 0)) ((W.setCell ⟨w.heap.size+1,0,none⟩ (.int .i64 0)).putObj W0.heap.size (.deferred none)):=(Only.refl _ _).putObj _ _ (fun _=>rfl);refine ⟨by simp,.inl ⟨_,_,rfl,run_takeDeferred hD5,?_⟩⟩;refine ⟨.int .i64 0,QcJ rfl _ _ rfl (Qcs (Qak (HBR.out.set _) o6 (by omega))),?_,?_⟩
  ·rw [HS.out]
  ·exact ((o0.same HI.out).trans o5 (fun j _ e=>by omega)).trans o6 (fun j _ e=>by omega)
 case stop =>
  intro s W hi hD;have hS:SZV k=(PSZ k.toNat:Int):=if_pos hi.1;have hcr:=hi.2.2.cell;have HI:=Qaa hi.2.1;have HD:=Qaa hD;have HBR:=Qaa hi.2.2;have HS:=Qaa hS;clear hi hD hS;generalize PSZ k.toNat=q at *
  gi_wp2
  have o6:Only (fun j=>j=W0.heap.size) W (W.putObj W0.heap.size (.deferred none)):=(Only.refl _ _).putObj _ _ (fun _=>rfl);refine ⟨by simp,.inl ⟨_,_,rfl,run_takeDeferred HD.out,?_⟩⟩;refine ⟨.int .i64 (q:Int),QcJ rfl _ _ rfl (Qcs (Qak HBR.out o6 (by omega))),?_,?_⟩
  ·rw [HS.out]
  ·exact (o0.trans HI.out (fun j _ e=>by omega)).trans o6 (fun j _ e=>by omega)
def BKV (n:Int):Int:=if 0≤n∧n≤4194300 then (PBK n.toNat:Int) else 0
def BKE (n:Int):Int:=if n<0 then 1 else if 4194300<n then 4 else 0
theorem QuC {s n:Nat} (h9:s<9) (h:n+4≤PSZ s) (hb:∀j,j<s→PSZ j<n+4):PBK n=s:=by
 have hc:=QmU n
 rcases (show s=0∨s=1∨s=2∨s=3∨s=4∨s=5∨s=6∨s=7∨s=8 by omega) with rfl | rfl | rfl | rfl | rfl | rfl | rfl | rfl | rfl
 ·simp only [PSZ,Nat.reducePow,Nat.reduceMul] at h
  omega
 ·have:=hb 0 (by omega)
  simp only [PSZ,Nat.reducePow,Nat.reduceMul] at h this;omega
 ·have:=hb 1 (by omega)
  simp only [PSZ,Nat.reducePow,Nat.reduceMul] at h this;omega
 ·have:=hb 2 (by omega)
  simp only [PSZ,Nat.reducePow,Nat.reduceMul] at h this;omega
 ·have:=hb 3 (by omega)
  simp only [PSZ,Nat.reducePow,Nat.reduceMul] at h this;omega
 ·have:=hb 4 (by omega)
  simp only [PSZ,Nat.reducePow,Nat.reduceMul] at h this;omega
 ·have:=hb 5 (by omega)
  simp only [PSZ,Nat.reducePow,Nat.reduceMul] at h this;omega
 ·have:=hb 6 (by omega)
  simp only [PSZ,Nat.reducePow,Nat.reduceMul] at h this;omega
 ·have:=hb 7 (by omega)
  simp only [PSZ,Nat.reducePow,Nat.reduceMul] at h this;omega
theorem QdH (n:Int) (w:World):Calls prog 98 #[.int .i64 n] w fun e w'=>e=.returned (.tuple #[.int .i64 (BKV n),.int .i64 (BKE n)])∧Only (fun _=>False) w w':=by
 obtain ⟨W0,hW0⟩:∃W0,((w.alloc (.cells #[.int .i64 n] 3)).alloc (.cells #[.int .i64 0] 3)).alloc (.cells #[.int .i64 0] 29)=W0:=⟨_,rfl⟩
 have o0:Only (fun _=>False) w W0:=by rw [←hW0];exact (((Only.refl _ w).alloc _).alloc _).alloc _
 have hsz:W0.heap.size=w.heap.size+1+1+1:=by rw [←hW0];simp
 have bN:Boxed W0 w.heap.size 3 (.int .i64 n):=by rw [←hW0];exact ((Boxed.new w 3 (.int .i64 n)).alloc _).alloc _
 have bR:Boxed W0 (w.heap.size+1) 3 (.int .i64 0):=by
  have h:=(Boxed.new (w.alloc (.cells #[.int .i64 n] 3)) 3 (.int .i64 0)).alloc (.cells #[.int .i64 0] 29);rw [World.size_alloc,hW0] at h;exact h
 have bE:Boxed W0 (w.heap.size+1+1) 29 (.int .i64 0):=by
  have h:=Boxed.new ((w.alloc (.cells #[.int .i64 n] 3)).alloc (.cells #[.int .i64 0] 3)) 29 (.int .i64 0);rw [World.size_alloc,World.size_alloc,hW0] at h;exact h
 have ONE:∀(V:World) (x y:Int),Boxed V (w.heap.size+1) 3 (.int .i64 0)→Boxed V (w.heap.size+1+1) 29 (.int .i64 0) →
   Only (fun j=>j=w.heap.size+1∨j=w.heap.size+1+1) V ((V.setCell ⟨w.heap.size+1,0,none⟩ (.int .i64 x)).setCell ⟨w.heap.size+1+1,0,none⟩ (.int .i64 y)) ∧
   Boxed ((V.setCell ⟨w.heap.size+1,0,none⟩ (.int .i64 x)).setCell ⟨w.heap.size+1+1,0,none⟩ (.int .i64 y)) (w.heap.size+1) 3 (.int .i64 x) ∧
   Boxed ((V.setCell ⟨w.heap.size+1,0,none⟩ (.int .i64 x)).setCell ⟨w.heap.size+1+1,0,none⟩ (.int .i64 y)) (w.heap.size+1+1) 29 (.int .i64 y):=by
  intro V x y h1 h2;have oa:Only (fun j=>j=w.heap.size+1) V (V.setCell ⟨w.heap.size+1,0,none⟩ (.int .i64 x)):=(Only.refl (fun j=>j=w.heap.size+1) V).setCell (p:=⟨w.heap.size+1,0,none⟩) (fun _=>rfl) _;have ob:Only (fun j=>j=w.heap.size+1+1) (V.setCell ⟨w.heap.size+1,0,none⟩ (.int .i64 x)) ((V.setCell ⟨w.heap.size+1,0,none⟩ (.int .i64 x)).setCell ⟨w.heap.size+1+1,0,none⟩ (.int .i64 y)):=(Only.refl (fun j=>j=w.heap.size+1+1) _).setCell (p:=⟨w.heap.size+1+1,0,none⟩) (fun _=>rfl) _;exact ⟨(oa.mono (T:=fun j=>j=w.heap.size+1∨j=w.heap.size+1+1) (fun _ _ e=>.inl e)).trans ob (fun _ _ e=>.inr e),Qak (h1.set _) ob (by omega),(Qak h2 oa (by omega)).set _⟩
 have HONE:=Qaa ONE;clear ONE
 by_cases hn:n<0
 ·have d1:decide (n<0)=true:=Yaj hn
  have HV:Hid (BKV n=0∧BKE n=1):=⟨if_neg (by omega),if_pos hn⟩
  have bR':Boxed (((w.alloc (.cells #[.int .i64 n] 3)).alloc (.cells #[.int .i64 0] 3)).alloc (.cells #[.int .i64 1] 29)) (w.heap.size+1) 3 (.int .i64 0):=by
   have h:=(Boxed.new (w.alloc (.cells #[.int .i64 n] 3)) 3 (.int .i64 0)).alloc (.cells #[.int .i64 1] 29);rw [World.size_alloc] at h;exact h
  have bE':Boxed (((w.alloc (.cells #[.int .i64 n] 3)).alloc (.cells #[.int .i64 0] 3)).alloc (.cells #[.int .i64 1] 29)) (w.heap.size+1+1) 29 (.int .i64 1):=by
   have h:=Boxed.new ((w.alloc (.cells #[.int .i64 n] 3)).alloc (.cells #[.int .i64 0] 3)) 29 (.int .i64 1);rw [World.size_alloc,World.size_alloc] at h;exact h
  have F:=Qaa (And.intro bR' bE');clear bR' bE' o0 hn hsz bN bR bE hW0 HONE;refine (callsIn_wide (n:=5)).1 ?_;refine callsIn_of_wp_marks func98 rfl trivial ?_ rfl;simp only [ntmps98,List.size_toArray,Yah,List.length_nil,Nat.reduceAdd,Nat.reduceSub,Array.replicate_succ,Array.replicate_zero,List.push_toArray,List.append_toArray,List.nil_append,List.cons_append]
  gi_wp2
  refine ⟨.tuple #[.int .i64 0,.int .i64 1],QdG rfl _ _ rfl rfl (Qcs F.out.1) (QeP F.out.2),?_,?_⟩
  ·rw [HV.out.1,HV.out.2]
  ·exact (((Only.refl _ w).alloc _).alloc _).alloc _
 have d1:decide (n<0)=false:=Yak hn;obtain ⟨n,rfl⟩:=Int.eq_ofNat_of_zero_le (Int.not_lt.1 hn);have HW0:=Qaa hW0;clear hW0;refine (callsIn_wide (n:=5)).1 ?_;refine callsIn_of_wp_marks func98 rfl trivial ?_ rfl;simp only [ntmps98,List.size_toArray,Yah,List.length_nil,Nat.reduceAdd,Nat.reduceSub,Array.replicate_succ,Array.replicate_zero,List.push_toArray,List.append_toArray,List.nil_append,List.cons_append]
 gi_wp2_with fail
 refine ⟨trivial,(QjB _ _).mono ?_⟩;rintro e w2 ⟨rfl,rfl⟩
 gi_wp2_with fail
 rw [HW0.out]
 refine Qhj (gf:=128) (lb:=#[]) rfl (enters_of func128 (by kernel_rfl) rfl)
  (fun x:Nat × Nat=>#[.int .i64 (x.1:Int),.int .i64 (x.2:Int)]) (fun _=>rfl)
  (fun s A=>(∀j:Nat,j<s→PSZ j<n+4)∧Only (fun _=>False) W0 A)
  (fun s A=>n≤4194300∧Only (fun j=>j=w.heap.size+1∨j=w.heap.size+1+1) W0 A∧Boxed A (w.heap.size+1) 3 (.int .i64 (PBK n:Int))∧Boxed A (w.heap.size+1+1) 29 (.int .i64 0))
  (fun s x s' A=>s'=s+1∧s<9∧x.1=s∧x.2=PSZ s) 0 9
  (fun s A B r hi hl o=>⟨hi.1,hi.2.trans o (fun i hi e=>by omega)⟩) (fun s A B r hi hl o=>⟨hi.1,hi.2.1.trans o (fun i hi e=>by omega),Qak hi.2.2.1 o (by omega),Qak hi.2.2.2 o (by omega)⟩) (fun s A B hi o=>⟨hi.1,hi.2.same o⟩)
  (fun s x s' A B r hv hl o=>hv) ⟨fun j hj=>by omega,Only.refl _ _⟩
  ?hit (fun x=>{ tmps:=#[.int .i64 (n:Int),.pointer (some ⟨w.heap.size,0,none⟩),.pointer (some ⟨w.heap.size+1,0,none⟩),.pointer (some ⟨w.heap.size+1+1,0,none⟩),.int .i64 (x.1:Int),.int .i64 (x.2:Int),.int .i64 (n:Int),.bool false,.func (.func 128) #[] #[],.int .i64 (x.1:Int),.int .i64 (x.2:Int),undef,undef,undef,undef,undef],defers:=[] }) ?assign ?body ?done ?stop
 case hit =>
  intro J Jx W hJ hJo hY h0 hW;refine Qha 4 (W0.heap.size+1) J Jx (fun s A h9 hs=>?_) W h0;obtain ⟨fn,tmps,assign,body,hy,hR⟩:=hY s (s,PSZ s) (s+1) A hs ⟨rfl,h9,rfl,rfl⟩;refine ⟨fn,tmps,assign,body,hy,hR.mono ?_⟩;rintro e B (⟨h1,h2,_⟩ | h)
  ·exact .inl ⟨h1,h2⟩
  ·exact .inr h
 case assign =>
  intro x W K hK
  gi_wp2
  exact hK
 case body =>
  rintro s ⟨x1,x2⟩ s' W ⟨hs,hq⟩ ⟨rfl,h9,hx1,hx2⟩;simp only at hx1 hx2;subst hx1 hx2;have hck:=(Qak bN hq (fun f=>f)).cell;have bR':=Qak bR hq (fun f=>f);have bE':=Qak bE hq (fun f=>f);have hcr:=bR'.cell;have hfr:=bR'.frozen;have hce:=bE'.cell;have hfe:=bE'.frozen;have hps:=Qg9 (t:=x1) (by omega)
  by_cases hle:n+4≤PSZ x1
  ·have e1:=QuC h9 hle hs
   obtain ⟨f1,f2,f3⟩:=HONE.out W (x1:Int) 0 bR' bE'
   have FIN:Hid (Only (fun j=>j<W0.heap.size) W ((W.setCell ⟨w.heap.size+1,0,none⟩ (.int .i64 (x1:Int))).setCell ⟨w.heap.size+1+1,0,none⟩ (.int .i64 0))∧n≤4194300∧Only (fun j=>j=w.heap.size+1∨j=w.heap.size+1+1) W0 ((W.setCell ⟨w.heap.size+1,0,none⟩ (.int .i64 (x1:Int))).setCell ⟨w.heap.size+1+1,0,none⟩ (.int .i64 0)) ∧
     Boxed ((W.setCell ⟨w.heap.size+1,0,none⟩ (.int .i64 (x1:Int))).setCell ⟨w.heap.size+1+1,0,none⟩ (.int .i64 0)) (w.heap.size+1) 3 (.int .i64 (PBK n:Int))∧Boxed ((W.setCell ⟨w.heap.size+1,0,none⟩ (.int .i64 (x1:Int))).setCell ⟨w.heap.size+1+1,0,none⟩ (.int .i64 0)) (w.heap.size+1+1) 29 (.int .i64 0)):=by
    refine ⟨f1.mono (fun j _ e=>by omega),by omega,(hq.mono (fun _ _ f=>f.elim)).trans f1 (fun _ _ e=>e),?_,f3⟩;rw [e1];exact f2
   have d2:decide ((n:Int)≤(PSZ x1:Int) - 4)=true:=Yaj (by omega);generalize PSZ x1=q at *;clear hs hq bR' bE' f1 f2 f3 e1 hle
   have hq64:64≤q∧q≤4194304:=by omega
   clear hps
   gi_wp2
   exact FIN.out
  ·have FIN:Hid (Only (fun j=>j<W0.heap.size) W W∧(∀j:Nat,j<x1+1→PSZ j<n+4)∧Only (fun _=>False) W0 W):=by
    refine ⟨Only.refl _ _,fun j hj=>?_,hq⟩
    rcases Nat.lt_or_ge j x1 with h | h
    ·exact hs j h
    ·obtain rfl:j=x1:=by omega
     omega
   have d2:decide ((n:Int)≤(PSZ x1:Int) - 4)=false:=Yak (by omega);clear hs;generalize PSZ x1=q at *;clear hq bR' bE' hle
   have hq64:64≤q∧q≤4194304:=by omega
   clear hps
   gi_wp2
   exact FIN.out
 case done =>
  intro W hi hD;have h8:=hi.1 8 (by omega);simp only [PSZ,Nat.reducePow,Nat.reduceMul] at h8;have HV:Hid (BKV n=0∧BKE n=4):=⟨if_neg (by omega),by show BKE _=_;unfold BKE;rw [if_neg (by omega),if_pos (by omega)]⟩;have bR':=Qak bR hi.2 (fun f=>f);have bE':=Qak bE hi.2 (fun f=>f);have hcr:=bR'.cell;have hfr:=bR'.frozen;have hce:=bE'.cell;have hfe:=bE'.frozen;have HI:=Qaa hi.2;have HD:=Qaa hD;have HBR:=Qaa bR';have HBE:=Qaa bE';clear hi hD bR' bE' h8
  gi_wp2
  obtain ⟨f1,f2,f3⟩:=HONE.out W 0 4 HBR.out HBE.out;obtain ⟨V,hV⟩:∃V,V=(W.setCell ⟨w.heap.size+1,0,none⟩ (.int .i64 0)).setCell ⟨w.heap.size+1+1,0,none⟩ (.int .i64 4):=⟨_,rfl⟩;rw [←hV] at f1 f2 f3 ⊢;have hD5:=f1.heap HD.out (by omega);have o6:Only (fun j=>j=W0.heap.size) V (V.putObj W0.heap.size (.deferred none)):=(Only.refl _ _).putObj _ _ (fun _=>rfl);refine ⟨by simp,.inl ⟨_,_,rfl,run_takeDeferred hD5,?_⟩⟩;refine ⟨.tuple #[.int .i64 0,.int .i64 4],QdG rfl _ _ rfl rfl (Qcs (Qak f2 o6 (by omega))) (QeP (Qak f3 o6 (by omega))),?_,?_⟩
  ·rw [HV.out.1,HV.out.2]
  ·exact ((o0.same HI.out).trans f1 (fun j _ e=>by omega)).trans o6 (fun j _ e=>by omega)
 case stop =>
  intro s W hi hD;have HV:Hid (BKV n=(PBK n:Int)∧BKE n=0):=⟨if_pos (by have:=hi.1;omega),by show BKE _=_;unfold BKE;rw [if_neg (by omega),if_neg (by have:=hi.1;omega)]⟩;have HI:=Qaa hi.2.1;have HD:=Qaa hD;have HBR:=Qaa hi.2.2.1;have HBE:=Qaa hi.2.2.2;clear hi hD;generalize PBK n=q at *
  gi_wp2
  have o6:Only (fun j=>j=W0.heap.size) W (W.putObj W0.heap.size (.deferred none)):=(Only.refl _ _).putObj _ _ (fun _=>rfl);refine ⟨by simp,.inl ⟨_,_,rfl,run_takeDeferred HD.out,?_⟩⟩;refine ⟨.tuple #[.int .i64 (q:Int),.int .i64 0],QdG rfl _ _ rfl rfl (Qcs (Qak HBR.out o6 (by omega))) (QeP (Qak HBE.out o6 (by omega))),?_,?_⟩
  ·rw [HV.out.1,HV.out.2]
  ·exact (o0.trans HI.out (fun j _ e=>by omega)).trans o6 (fun j _ e=>by omega)
end
end Go.Proofs.YtnhapmboienipaaGreatDoor
