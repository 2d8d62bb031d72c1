import Derived.Test.YtoflhbghdlaeaaaGreatDoorG19
namespace Go.Proofs.YtoflhbghdlaeaaaGreatDoor
set_option maxHeartbeats 4000000
set_option maxRecDepth 100000
open Go.RowKit _root_.Go.Proofs.Tryz
variable {w w' W:World} {v:Value} {ys xs l:LI} {R n p k g B:Nat} {P:Program} {ls:List (LI)} {E:TypeId}
def cat (ls:Nat->LI) (k:Nat):LI:=(List.range k).flatMap ls
theorem Pd (ls:Nat->LI):cat ls 0=[]:=rfl
theorem Wa (ls:Nat->LI) (k:Nat):cat ls (k+1)=cat ls k++ls k:=by simp[cat,List.range_succ]
theorem RJ (ls:Nat->LI) {k m:Nat} (h:k<=m):(cat ls k).length<=(cat ls m).length:=by
 induction m with
 | zero=>rw[Nat.le_zero.1 h];exact Nat.le_refl _
 | succ m ih =>
  rcases Nat.lt_or_ge k (m+1) with h' | h'
  ·have:=ih (by omega);rw[Wa,Qc];omega
  ·rw[show k=m+1 by omega];exact Nat.le_refl _
theorem XZ (B m C:Nat) (vs:Nat->Value) (ls:Nat->LI) (w:World) (hm:m<=1000) (hm0:0<m) (hc:∀i,i<m->w.cell? ⟨B,i,none⟩=some (vs i)) (hb:∀i,i<m->Bs .u8 w (vs i) (ls i)) (nc:∀i,i<m->NoCap (vs i))
 (hp:0<(cat ls m).length) (hl:(cat ls m).length<=140737488355328) :
 Calls prog 22 #[.slice (some ⟨B,0,none⟩) m C] w λe w'=>∃v',e=.returned v'∧w'.ownsRow w.heap.size 5 1 v' (cat ls m).length ((cat ls m).map (Value.int .u8))∧N0 w w':=by
 obtain⟨i0,hi,hz0,hz1,hz2⟩:=info_parts Tryz.infoU8;have HC:=Qa hc;have HB:=Qa hb;have NC:=Qa nc;have HP:=Qa hp;have HL:=Qa hl;have hBw:B<w.heap.size:=World.block_lt_of_cell? w _ (hc 0 hm0);clear hc hb nc hp hl;go_enter func22,ntmps22;go_wp2
 go_loop [3,11] (λs i=>∃k:Nat,k<=m∧i=.int .i64 k∧s=.int .i64 (cat ls k).length) (λ_ i=>m - (intOf i).toNat)
 case atStart=>exact⟨0,Nat.zero_le _,rfl,rfl⟩
 case round =>
  obtain⟨k,hk,rfl,rfl⟩:=hrel
  by_cases hlt:k<m
  ·obtain⟨ao,cap,e1⟩:=(HB.o k hlt).len
   have c0:=HC.o k hlt;rw[e1] at c0
   have h0:Hid ((cat ls (k+1)).length=(cat ls k).length+(ls k).length):=by simp only[Hid];rw[Wa,Qc]
   have h2:=RJ ls (show k+1<=m by omega);rw[h0.o] at h2;have HX:=HL.o;obtain⟨s,hs⟩:=EX ((cat ls k).length);obtain⟨n,hn⟩:=EX ((ls k).length);rw[<-hs,<-hn] at h2 h0;rw[<-hn] at c0;rw[<-hs]
   have hb2:s+n<=140737488355328:=by omega
   have dlt:decide ((k:Int)<(m:Int))=true:=by simp;omega
   have d0:decide ((s:Int)+n<0)=false:=by simp;omega
   clear e1 hs hn h2 HX;go_wp2
   go_round
   case rel=>exact⟨k+1,by omega,by simp,by rw[h0.o];simp⟩
   case measure=>simp[intOf];omega
  ·obtain rfl:k=m:=by omega
   have dlt:decide ((k:Int)<(k:Int))=false:=by simp
   obtain⟨s,hs⟩:=EX ((cat ls k).length);have HS:=Qa hs;rw[<-hs]
   have hs0:0<s:=by rw[hs];exact HP.o
   have hs1:s<=140737488355328:=by rw[hs];exact HL.o
   have GN:=Qa (GC s w hs0 hs1);clear hs;go_wp2_with fail;refine GN.o.mono ?_;rintro e w2 ⟨G,rfl,h3,ha⟩;have h6:Below w.heap.size w w2:=ha.low (Nat.le_refl _);clear GN ha;go_wp2
   go_loopw [6,27] (λo i wr=>Below w.heap.size w wr∧∃j:Nat,j<=k∧i=.int .i64 j∧wr.ownsRow w.heap.size 5 1 o (cat ls j).length ((cat ls j).map (Value.int .u8))) (λ_ i _=>k - (intOf i).toNat)
   case atStart=>exact⟨h6,0,Nat.zero_le _,rfl,h3⟩
   case round =>
    obtain⟨h4,j,hj,rfl,h1⟩:=hrel;clear h6 h3;have hd:=h4.size
    by_cases hlt:j<k
    ·obtain⟨ao,cap,e1⟩:=(HB.o j hlt).len
     have c0:=(h4.cell (p:=⟨B,j,none⟩) hBw).trans (HC.o j hlt);have h9:=Qa ((HB.o j hlt).later h4);have h7:=Qa (NC.o j hlt);rw[e1] at c0 h9 h7;have h0:Hid (cat ls (j+1)=cat ls j++ls j):=Wa ls j;have h2:=RJ ls (show j+1<=k by omega);rw[h0.o,Qc] at h2;have HX:=HL.o;obtain⟨n,hn⟩:=EX ((ls j).length);rw[<-hn] at c0 h9 h7
     have h8:decide ((j:Int)<(k:Int))=true:=by simp;omega
     clear e1 hn;have h5:=Qa h2;clear h2 HX;go_wp2_with (at_builtin;refine Yh _ rfl _ _ _ rfl w.heap.size 5 i0 (.int .u8 0) 1 underlying23 hi hz0 hz1 hz2 rfl _ _ _ rfl h1 .u8 _ (ls j) rfl h9.o h7.o ?c3 ?c4 hd ?_)
     case c3=>have:=h5.o;have:=HL.o;unfold maxLen;omega
     case c4=>have:=h5.o;have:=HL.o;omega
     intro v' w3 hown2 hgrow _ _;have hb3:Below w.heap.size w w3:=h4.grown hgrow hd (λq hq=>(h1.lt q hq).1);rw[<-List.map_append,<-Qc,<-h0.o] at hown2;clear h1 hgrow;go_wp2
     go_roundw
     case rel=>exact⟨hb3,j+1,by omega,by simp,hown2⟩
     case measure=>simp[intOf];omega
    ·obtain rfl:j=k:=by omega
     have h8:decide ((j:Int)<(j:Int))=false:=by simp
     go_wp2;go_ret;exact⟨_,rfl,h1,Uw h4⟩
theorem VC (B m:Nat) (vs:Nat->Value) (ls:Nat->LI) (w:World) (hm:m<=1000) (hm0:0<m) (hc:∀i,i<m->w.cell? ⟨B,i,none⟩=some (vs i)) (hb:∀i,i<m->Bs .u8 w (vs i) (ls i)) (nc:∀i,i<m->NoCap (vs i))
 (hp:0<(cat ls m).length) (hl:(cat ls m).length<=140737488355328) :
 Calls prog 22 #[.slice (some ⟨B,0,none⟩) m m] w λe w'=>∃v',e=.returned v'∧w'.ownsRow w.heap.size 5 1 v' (cat ls m).length ((cat ls m).map (Value.int .u8))∧N0 w w' :=
 XZ B m m vs ls w hm hm0 hc hb nc hp hl
section
open Go.Maps
def Q7 (m:MAN):Int :=
 if m.ver=18446744073709551615∨m.prev.length≠32∨m.root.length≠32 then 1
 else if m.es.any (λe=>!okB e.2)=true then 1
 else if 1048576<m.es.length∨m.es.any (λe=>decide (64<e.1.length))=true then 4 else 0
def Yu (m:MAN):LI:=if Q7 m=0 then MENC m else []
theorem JI {m:MAN} (hk:Mok m):Q7 m=0↔Uh m:=by
 unfold Q7
 constructor
 ·intro h
  by_cases h1:m.ver=18446744073709551615∨m.prev.length≠32∨m.root.length≠32
  ·rw[if_pos h1] at h;cases h
  ·rw[if_neg h1] at h
   by_cases h2:m.es.any (λe=>!okB e.2)=true
   ·rw[if_pos h2] at h;cases h
   ·rw[if_neg h2] at h
    by_cases h3:1048576<m.es.length∨m.es.any (λe=>decide (64<e.1.length))=true
    ·rw[if_pos h3] at h;cases h
    ·have hv:=hk.ver
     refine⟨by omega,⟨by omega,hk.prev⟩,⟨by omega,hk.root⟩,by omega,λe he=>⟨⟨?_,hk.es e he⟩,?_⟩⟩
     ·have h4:¬m.es.any (λe=>decide (64<e.1.length))=true:=λq=>h3 (.inr q)
      rw[List.any_eq_true] at h4
      exact Nat.le_of_not_lt λq=>h4 ⟨e,he,by simpa using q⟩
     ·rw[List.any_eq_true] at h2
      by_cases q:0<=e.2∧e.2<=8
      ·exact q
      ·exact absurd ⟨e,he,by simp only[okB,Qb q,Bool.not_false]⟩ h2
 ·rintro⟨h1,h2,h3,h4,h5⟩
  have q2:¬m.es.any (λe=>!okB e.2)=true:=by
   rw[List.any_eq_true];rintro⟨e,he,q⟩;have:=(h5 e he).2;rw[okB,Qe this] at q
   cases q
  have q3:¬m.es.any (λe=>decide (64<e.1.length))=true:=by
   rw[List.any_eq_true];rintro⟨e,he,q⟩;have:=(h5 e he).1.1;have:=of_decide_eq_true q;omega
  rw[if_neg (by have:=h2.1;have:=h3.1;omega),if_neg q2,if_neg (λq=>q.elim (λq=>by omega) q3)]
theorem heap4 {x0 x1 x2 x3:Value} (h:W.heap[B]? = some (.cells #[x0,x1,x2,x3] 37 (0,0))):W.cell? ⟨B,0,none⟩=some x0∧W.cell? ⟨B,1,none⟩=some x1∧W.cell? ⟨B,2,none⟩=some x2∧W.cell? ⟨B,3,none⟩=some x3 :=
 ⟨by simp[World.cell?,h],by simp[World.cell?,h],by simp[World.cell?,h],by simp[World.cell?,h]⟩
def six {α:Type} (a b c d e f:α):Nat->α
 | 0=>a
 | 1=>b
 | 2=>c
 | 3=>d
 | 4=>e
 | _=>f
theorem Xm (a b c d e f:LI):cat (six a b c d e f) 6=a++(b++(c++(d++(e++f)))):=by
 simp[cat,List.range_succ,six]
theorem uC {v0 v1 v2 v3 v4 v5:Value} {l0 l1 l2 l3 l4 l5:LI} (hB:W.heap[B]? = some (.cells #[v0,v1,v2,v3,v4,v5] 23 (0,0)))
 (b0:Bs .u8 W v0 l0) (b1:Bs .u8 W v1 l1) (b2:Bs .u8 W v2 l2) (b3:Bs .u8 W v3 l3) (b4:Bs .u8 W v4 l4) (b5:Bs .u8 W v5 l5) (n0:NoCap v0) (n1:NoCap v1) (n2:NoCap v2) (n3:NoCap v3) (n4:NoCap v4) (n5:NoCap v5)
 (hp:0<l0.length) (hl:(l0++(l1++(l2++(l3++(l4++l5))))).length<=140737488355328) :
 Calls prog 22 #[.slice (some ⟨B,0,none⟩) 6 6] W λe w'=>∃v',e=.returned v'∧w'.ownsRow W.heap.size 5 1 v' (l0++(l1++(l2++(l3++(l4++l5))))).length ((l0++(l1++(l2++(l3++(l4++l5))))).map (Value.int .u8))∧N0 W w':=by
 have:=VC B 6 (six v0 v1 v2 v3 v4 v5) (six l0 l1 l2 l3 l4 l5) W (by omega) (by omega)
  (λi hi=>by
   have e:W.cell? ⟨B,i,none⟩=(#[v0,v1,v2,v3,v4,v5]:Array Value)[i]?:=by unfold World.cell?;simp only;rw[hB];rfl
   rw[e]
   match i,hi with
   | 0,_=>rfl
   | 1,_=>rfl
   | 2,_=>rfl
   | 3,_=>rfl
   | 4,_=>rfl
   | 5,_=>rfl)
  (λi hi=>by
   match i,hi with
   | 0,_=>exact b0
   | 1,_=>exact b1
   | 2,_=>exact b2
   | 3,_=>exact b3
   | 4,_=>exact b4
   | 5,_=>exact b5)
  (λi hi=>by
   match i,hi with
   | 0,_=>exact n0
   | 1,_=>exact n1
   | 2,_=>exact n2
   | 3,_=>exact n3
   | 4,_=>exact n4
   | 5,_=>exact n5)
  (by rw[Xm];simp only[Qc];omega) (by rw[Xm];exact hl)
 rw[Xm] at this;exact this
theorem keep4 {w3 W W':World} {x0 x1 x2 x3:Value} (h:N0 w3 W∧W.cell? ⟨B,0,none⟩=some x0∧W.cell? ⟨B,1,none⟩=some x1∧W.cell? ⟨B,2,none⟩=some x2∧W.cell? ⟨B,3,none⟩=some x3) (o:N0 W W') :
 N0 w3 W'∧W'.cell? ⟨B,0,none⟩=some x0∧W'.cell? ⟨B,1,none⟩=some x1∧W'.cell? ⟨B,2,none⟩=some x2∧W'.cell? ⟨B,3,none⟩=some x3:=by
 obtain⟨h1,h2,h3,h4,h5⟩:=h;have hb:B<W.heap.size:=World.block_lt_of_cell? W _ h2;have e:=o.block B hb (λf=>f);exact⟨h1.same o,by rw[<-h2];unfold World.cell?;rw[e],by rw[<-h3];unfold World.cell?;rw[e],by rw[<-h4];unfold World.cell?;rw[e],by rw[<-h5];unfold World.cell?;rw[e]⟩
theorem La {b:Nat} {C:Array Value} (h:W.heap[b]? = some (.cells C 5 (0,0))):(W.freeze ⟨b,C.size,none⟩ 1).heap[b]? = some (.cells C 5 (C.size,C.size+1))∧Only (λk=>k=b) W (W.freeze ⟨b,C.size,none⟩ 1):=by
 have hb:b<W.heap.size:=(Array.getElem?_eq_some_iff.1 h).1;unfold World.freeze;rw[if_neg (by decide)];refine⟨?_,⟨rfl,rfl,rfl,by simp,λk hk hne=>?_⟩⟩
 ·simp[Array.getElem?_modify,h]
 ·have:¬b=k:=λe=>hne e.symm
  simp[Array.getElem?_modify,this]
theorem IY {b:Nat} {C:Array Value} (h:W.heap[b]? = some (.cells C 5 (0,0))) {v:Value} {xs:LI} (hv:Bs .u8 W v xs):Bs .u8 (W.freeze ⟨b,C.size,none⟩ 1) v xs:=by
 obtain⟨m1,m2⟩:=La h;obtain⟨ao,cap,rfl,hl,hr⟩:=hv;refine⟨ao,cap,rfl,hl,λhne=>?_⟩;obtain⟨c,off,rfl,hc⟩:=hr hne;refine⟨c,off,rfl,λj hj=>?_⟩;have h0:=hc j hj
 by_cases e:c=b
 ·subst e
  rw[<-h0];simp only[World.cell?,m1,h]
 ·have hlt:c<W.heap.size:=World.block_lt_of_cell? W _ h0
  have e2:=m2.block c hlt e;rw[<-h0];unfold World.cell?;rw[e2]
theorem Mt {b:Nat} {C:Array Value} (n c:Nat) (h:W.heap[b]? = some (.cells C 5 (0,0))):(convert 23 23 (.slice (some ⟨b,0,none⟩) n c)).run prog W=.ok (.slice (some ⟨b,0,none⟩) n c) (W.freeze ⟨b,C.size,none⟩ 1):=by
 have hsh:W.shape? b=some (5,C.size):=by unfold World.shape?;rw[h]
 simp[convert,run_underlying underlying23,run_underlying underlying5,markStringish,hsh]
theorem wg {o:Oper} {a:Act} {K:Act->World->Prop} {Q:Exit->Act->World->Prop} (w3:World) {b:Nat}
 (hb:w.heap[b]? = some (.cells #[.int .u8 67,.int .u8 83,.int .u8 75,.int .u8 49] 5 (0,0))) (h3:w3.heap.size<=b) (o3:N0 w3 w)
 (h:∀w',N0 w3 w'->Bs .u8 w' (.slice (some ⟨b,0,none⟩) 4 4) QW->(∀v xs,Bs .u8 w v xs->Bs .u8 w' v xs)->K (a.put o.dst (.slice (some ⟨b,0,none⟩) 4 4)) w') :
 Oper.upon prog o a K Q (((convert 23 23 (.slice (some ⟨b,0,none⟩) 4 4)).run prog w).andThen λa w'=>.ok (.value a) w'):=by
 obtain⟨m1,m2⟩:=La hb;have hK:=h (w.freeze ⟨b,4,none⟩ 1) (o3.trans m2 (λi hi e=>by omega)) ?_ (λv xs hv=>IY hb hv)
 ·rw[Mt 4 4 hb]
  exact hK
 ·refine⟨some _,4,rfl,Nat.le_refl _,λ_=>⟨b,0,rfl,λj hj=>?_⟩⟩
  have hj':j<4:=hj;have h0:(w.freeze ⟨b,4,none⟩ 1).heap[b]? = _:=m1
  match j,hj' with
  | 0,_=>simp[World.cell?,h0,QW]
  | 1,_=>simp[World.cell?,h0,QW]
  | 2,_=>simp[World.cell?,h0,QW]
  | 3,_=>simp[World.cell?,h0,QW]
theorem wR (ver:Nat) (ap ar:Option Addr) (pl pc rl rc:Nat) (ve:Value) (w:World) (h:ver=18446744073709551615∨pl≠32∨rl≠32) :
 Calls prog 47 #[.agg #[.int .u64 ver,.slice ap pl pc,ve,.slice ar rl rc]] w λe w'=>e=.returned (.tuple #[.slice none 0 0,.int .i64 1])∧N0 w w':=by
 by_cases h1:ver=18446744073709551615
 ·have d1:((ver:Int) == 18446744073709551615)=true:=by simp;omega
  clear h1 h;go_enter func47,ntmps47;go_wp2;go_ret2;exact⟨rfl,(Only.refl _ _).alloc _⟩
 ·have d1:((ver:Int) == 18446744073709551615)=false:=by rw[beq_eq_false_iff_ne];omega
  by_cases h2:pl=32
  ·have h3:rl≠32:=by omega
   have d2:((pl:Int) != 32)=false:=by subst h2;decide
   have d3:((rl:Int) != 32)=true:=by simp;omega
   clear h1 h2 h3 h;go_enter func47,ntmps47;go_wp2;go_ret2;exact⟨rfl,(Only.refl _ _).alloc _⟩
  ·have d2:((pl:Int) != 32)=true:=by simp;omega
   clear h1 h2 h;go_enter func47,ntmps47;go_wp2;go_ret2;exact⟨rfl,(Only.refl _ _).alloc _⟩
theorem uU (x vp ve vr:Value) (m:MAN) (w:World) (h:Mf w x m vp ve vr) (hk:Mok m) (np:NoCap vp) (nr:NoCap vr) (hm63:m.es.length<=9223372036854775806) (h0:Q7 m≠0) :
 Calls prog 47 #[x] w λe w'=>∃u,e=.returned (.tuple #[u,.int .i64 (Q7 m)])∧w'.ownsRow w.heap.size 5 1 u (Yu m).length ((Yu m).map (Value.int .u8))∧N0 w w':=by
 obtain⟨rfl,hp,he,hr⟩:=h;obtain⟨ap,pc,e1⟩:=hp.len;obtain⟨ar,rc,e2⟩:=hr.len;subst e1 e2
 by_cases h1:m.ver=18446744073709551615∨m.prev.length≠32∨m.root.length≠32
 ·have e1:Q7 m=1:=by unfold Q7;rw[if_pos h1]
  have e2:Yu m=[]:=by unfold Yu;rw[e1];rfl
  rw[e1,e2];refine (wR _ _ _ _ _ _ _ _ w h1).mono ?_;rintro e w' ⟨rfl,o⟩;exact⟨_,rfl,World.ownsRow_nil _ _ _ _,o⟩
 ·have d1:((m.ver:Int) == 18446744073709551615)=false:=by rw[beq_eq_false_iff_ne];omega
  have l1:m.prev.length=32:=by omega
  have l2:m.root.length=32:=by omega
  rw[l1] at hp np;rw[l2] at hr nr;rw[l1,l2];have e32:((32:Nat):Int)=32:=rfl;obtain⟨ao,cap,e3⟩:=he.len;subst e3;have oa:N0 w (w.alloc (.cells #[.int .u64 m.ver,.slice ap 32 pc,.slice ao m.es.length cap,.slice ar 32 rc] 37)):=(Only.refl _ _).alloc _;have A:=Qa (Gu _ _ _ (he.past oa) hm63);have OA:=Qa oa;have HE:=Qa he;have HP:=Qa hp;have HR:=Qa hr;have K0:=Qa (heap_alloc_new w (.cells #[.int .u64 m.ver,.slice ap 32 pc,.slice ao m.es.length cap,.slice ar 32 rc] 37))
  by_cases h2:m.es.any (λe=>!okB e.2)=true
  ·have e1:Q7 m=1:=by unfold Q7;rw[if_neg h1,if_pos h2]
   have e2:Yu m=[]:=by unfold Yu;rw[e1];rfl
   rw[e1,e2];rw[h2] at A;clear h1 h2 e1 e2 oa he hp hr l1 l2;go_enter func47,ntmps47;go_wp2_with fail;refine A.o.mono ?_;rintro e w1 ⟨rfl,o1⟩;have O:=Qa (OA.o.same o1);clear A o1;go_wp2;go_ret2;exact⟨_,rfl,World.ownsRow_nil _ _ _ _,O.o⟩
  ·have h5:m.es.any (λe=>!okB e.2)=false:=by simpa using h2
   rw[h5] at A;have B:=Qa (λW o=>Pp _ _ W (he.past (oa.same o)) hm63 hk.es)
   by_cases h3:1048576<m.es.length
   ·have e1:Q7 m=4:=by unfold Q7;rw[if_neg h1,if_neg h2,if_pos (.inl h3)]
    have e2:Yu m=[]:=by unfold Yu;rw[e1];rfl
    rw[e1,e2]
    have d3:decide ((1048576:Int)<(m.es.length:Int))=true:=by simp;omega
    have d4:decide ((1048576:Nat)<m.es.length)=true:=by simp;omega
    clear h1 h2 e1 e2 oa he hp hr l1 l2 h5 hk;generalize m.es.length=n at *;go_enter func47,ntmps47;go_wp2_with fail;refine A.o.mono ?_;rintro e w1 ⟨rfl,o1⟩;obtain⟨c0,c1,c2,c3⟩:=heap4 (o1.heap K0.o (λf=>f));have O:=Qa (OA.o.same o1);clear A o1;go_wp2;go_ret2;exact⟨_,rfl,World.ownsRow_nil _ _ _ _,O.o⟩
   ·have d3:decide ((1048576:Int)<(m.es.length:Int))=false:=by simp;omega
    have d4:decide ((1048576:Nat)<m.es.length)=false:=by simp;omega
    by_cases h4:m.es.any (λe=>decide (64<e.1.length))=true
    ·have e1:Q7 m=4:=by unfold Q7;rw[if_neg h1,if_neg h2,if_pos (.inr h4)]
     have e2:Yu m=[]:=by unfold Yu;rw[e1];rfl
     rw[e1,e2];rw[h4] at B;clear h1 h2 e1 e2 oa he hp hr l1 l2 h5 hk h4;generalize m.es.length=n at *;go_enter func47,ntmps47;go_wp2_with fail;refine A.o.mono ?_;rintro e w1 ⟨rfl,o1⟩;obtain⟨c0,c1,c2,c3⟩:=heap4 (o1.heap K0.o (λf=>f));have C:=Qa (B.o w1 o1);have O:=Qa (OA.o.same o1);clear A o1 B;go_wp2_with fail;refine C.o.mono ?_;rintro e w2 ⟨rfl,o2⟩;have O2:=Qa (O.o.same o2);clear C o2;go_wp2;go_ret2;exact⟨_,rfl,World.ownsRow_nil _ _ _ _,O2.o⟩
    ·exact absurd (by unfold Q7;rw[if_neg h1,if_neg h2,if_neg (λq=>q.elim h3 h4)]) h0
end
section
open Go.Maps
theorem Zw {o:Oper} {a:Act} {W:World} {K:Act->World->Prop} {Q:Exit->Act->World->Prop} (n:Nat) (xs:Array Operand) (ts:Array TypeId)
 (ho:o.op=.call { callee:=.value (.func n),args:=xs,argTypes:=ts }) (hf:∀vs W,(callFunc n vs).run prog W=.ok (.enter n vs) W) (vs:Array Value) (hx:xs.map a.eval=vs) {R:Value->World->Prop}
 (hc:Calls prog n vs W λe w'=>∃r,e=.returned r∧R r w') (h:∀r w',R r w'->K (a.put o.dst r) w'):Oper.wp prog o a W K Q:=by
 subst hx;unfold Oper.wp;have e:a.eval (Operand.func n)=.func (.func n) #[] #[]:=rfl;have hf2:=hf (xs.map a.eval) W;simp[execOp,ho,resolve,invoke,e,Oper.upon,Deferred.ofValue,hf2];refine Calls.mono hc ?_;rintro e w' ⟨r,rfl,hR⟩;exact h r w' hR
theorem Eb (vs:Array Value) (W:World):(callFunc 22 vs).run prog W=.ok (.enter 22 vs) W:=by kernel_rfl
theorem qx (vs:Array Value) (W:World):(callFunc 84 vs).run prog W=.ok (.enter 84 vs) W:=by kernel_rfl
theorem ya (vs:Array Value) (W:World):(callFunc 85 vs).run prog W=.ok (.enter 85 vs) W:=by kernel_rfl
theorem MD (vs:Array Value) (W:World):(callFunc 86 vs).run prog W=.ok (.enter 86 vs) W:=by kernel_rfl
theorem qG {o:Oper} {a:Act} {K:Act->World->Prop} {Q:Exit->Act->World->Prop} (ho:o.op=.buildSlice 23 4 #[(0,Operand.const (Value.int IntKind.u8 67)),(1,Operand.const (Value.int IntKind.u8 83)),(2,Operand.const (Value.int IntKind.u8 75)),(3,Operand.const (Value.int IntKind.u8 49))])
 (h:K (a.put o.dst (.slice (some ⟨W.heap.size,0,none⟩) 4 4)) (W.alloc (.cells #[.int .u8 67,.int .u8 83,.int .u8 75,.int .u8 49] 5))):Oper.wp prog o a W K Q:=by
 obtain⟨dst,op,ty,pos,af,gd⟩:=o;simp only at ho;subst ho
 go_simp
 exact h
theorem Aj {o:Oper} {a:Act} {K:Act->World->Prop} {Q:Exit->Act->World->Prop} {p0 p1 p2 p3 p4 p5:Option Addr} {n0 n1 n2 n3 n4 n5 c0 c1 c2 c3 c4 c5:Nat} (ho:o.op=.buildSlice 38 6 #[(0,Operand.tmp 40),(1,Operand.tmp 43),(2,Operand.tmp 45),(3,Operand.tmp 47),(4,Operand.tmp 51),(5,Operand.tmp 53)])
 (h0:a.eval (.tmp 40)=(.slice p0 n0 c0)) (h1:a.eval (.tmp 43)=(.slice p1 n1 c1)) (h2:a.eval (.tmp 45)=(.slice p2 n2 c2)) (h3:a.eval (.tmp 47)=(.slice p3 n3 c3)) (h4:a.eval (.tmp 51)=(.slice p4 n4 c4)) (h5:a.eval (.tmp 53)=(.slice p5 n5 c5))
 (h:K (a.put o.dst (.slice (some ⟨W.heap.size,0,none⟩) 6 6)) (W.alloc (.cells #[(.slice p0 n0 c0),(.slice p1 n1 c1),(.slice p2 n2 c2),(.slice p3 n3 c3),(.slice p4 n4 c4),(.slice p5 n5 c5)] 23))):Oper.wp prog o a W K Q:=by
 obtain⟨dst,op,ty,pos,af,gd⟩:=o;simp only at ho;subst ho;simp only[Act.eval] at h0 h1 h2 h3 h4 h5
 have e0:a.tmps[40]?.getD undef=(.slice p0 n0 c0):=by simpa using h0
 have e1:a.tmps[43]?.getD undef=(.slice p1 n1 c1):=by simpa using h1
 have e2:a.tmps[45]?.getD undef=(.slice p2 n2 c2):=by simpa using h2
 have e3:a.tmps[47]?.getD undef=(.slice p3 n3 c3):=by simpa using h3
 have e4:a.tmps[51]?.getD undef=(.slice p4 n4 c4):=by simpa using h4
 have e5:a.tmps[53]?.getD undef=(.slice p5 n5 c5):=by simpa using h5
 unfold Oper.wp;simp[execOp,e0,e1,e2,e3,e4,e5,go_sem];exact h
theorem vu {o:Oper} {a:Act} {K:Act->World->Prop} {Q:Exit->Act->World->Prop} (x:Operand) (ho:o.op=.convert 23 23 x) (w3:World) {b:Nat}
 (hx:a.eval x=.slice (some ⟨b,0,none⟩) 4 4) (hb:w.heap[b]? = some (.cells #[.int .u8 67,.int .u8 83,.int .u8 75,.int .u8 49] 5 (0,0))) (h3:w3.heap.size<=b) (o3:N0 w3 w)
 (h:∀w',N0 w3 w'->Bs .u8 w' (.slice (some ⟨b,0,none⟩) 4 4) QW->(∀v xs,Bs .u8 w v xs->Bs .u8 w' v xs)->K (a.put o.dst (.slice (some ⟨b,0,none⟩) 4 4)) w'):Oper.wp prog o a w K Q:=by
 unfold Oper.wp;simp[execOp,ho,hx];exact wg w3 hb h3 o3 h
abbrev o0mi : Oper:={ dst:=some 40,op:=Op.convert 23 23 (Operand.tmp 39),type:=23,pos:="manifest.go:35",after:=#[{ on:=0,ground:=Ground.data }],guard:=none }
abbrev o1mi : Oper:={ dst:=some 51,op:=Op.call { callee:=Callee.value (Operand.func 86),args:=#[Operand.tmp 49,Operand.tmp 50],argTypes:=#[35,133] },type:=23,pos:="manifest.go:40",after:=#[{ on:=10,ground:=Ground.data },{ on:=11,ground:=Ground.data },{ on:=8,ground:=Ground.chain }],guard:=none }
abbrev o2mi : Oper:={ dst:=some 54,op:=Op.buildSlice 38 6 #[(0,Operand.tmp 40),(1,Operand.tmp 43),(2,Operand.tmp 45),(3,Operand.tmp 47),(4,Operand.tmp 51),(5,Operand.tmp 53)],type:=38,pos:="manifest.go:35",after:=#[{ on:=1,ground:=Ground.data },{ on:=4,ground:=Ground.data },{ on:=6,ground:=Ground.data },{ on:=8,ground:=Ground.data },{ on:=12,ground:=Ground.data },{ on:=14,ground:=Ground.data }],guard:=none }
abbrev o3mi : Oper:={ dst:=some 55,op:=Op.call { callee:=Callee.value (Operand.func 22),args:=#[Operand.tmp 54],argTypes:=#[38] },type:=23,pos:="manifest.go:35",after:=#[{ on:=15,ground:=Ground.data },{ on:=12,ground:=Ground.chain }],guard:=none }
abbrev o6mi : Oper:={ dst:=some 47,op:=Op.call { callee:=Callee.value (Operand.func 85),args:=#[Operand.tmp 46],argTypes:=#[58] },type:=23,pos:="manifest.go:39",after:=#[{ on:=7,ground:=Ground.data },{ on:=4,ground:=Ground.chain }],guard:=none }
abbrev o7mi : Oper:={ dst:=some 39,op:=Op.buildSlice 23 4 #[(0,Operand.const (Value.int IntKind.u8 67)),(1,Operand.const (Value.int IntKind.u8 83)),(2,Operand.const (Value.int IntKind.u8 75)),(3,Operand.const (Value.int IntKind.u8 49))],type:=23,pos:="manifest.go:35",after:=#[],guard:=none }
abbrev o8mi : Oper:={ dst:=some 43,op:=Op.call { callee:=Callee.value (Operand.func 84),args:=#[Operand.tmp 42,Operand.const (Value.int IntKind.i64 8)],argTypes:=#[24,3] },type:=23,pos:="manifest.go:37",after:=#[{ on:=3,ground:=Ground.data }],guard:=none }
abbrev o4mi : Oper:={ dst:=some 2,op:=Op.assign (Operand.tmp 55),type:=23,pos:="manifest.go:35",after:=#[{ on:=16,ground:=Ground.data },{ on:=16,ground:=Ground.chain },{ on:=0,ground:=Ground.phase },{ on:=1,ground:=Ground.phase },{ on:=2,ground:=Ground.phase },{ on:=3,ground:=Ground.phase },{ on:=4,ground:=Ground.phase },{ on:=5,ground:=Ground.phase },{ on:=6,ground:=Ground.phase },{ on:=7,ground:=Ground.phase },{ on:=8,ground:=Ground.phase },{ on:=9,ground:=Ground.phase },{ on:=10,ground:=Ground.phase },{ on:=11,ground:=Ground.phase },{ on:=12,ground:=Ground.phase },{ on:=13,ground:=Ground.phase },{ on:=14,ground:=Ground.phase },{ on:=15,ground:=Ground.phase },{ on:=16,ground:=Ground.phase }],guard:=none }
abbrev o5mi : Oper:={ dst:=some 3,op:=Op.assign (Operand.const (Value.int IntKind.i64 0)),type:=27,pos:="manifest.go:35",after:=#[{ on:=17,ground:=Ground.chain },{ on:=0,ground:=Ground.phase },{ on:=1,ground:=Ground.phase },{ on:=2,ground:=Ground.phase },{ on:=3,ground:=Ground.phase },{ on:=4,ground:=Ground.phase },{ on:=5,ground:=Ground.phase },{ on:=6,ground:=Ground.phase },{ on:=7,ground:=Ground.phase },{ on:=8,ground:=Ground.phase },{ on:=9,ground:=Ground.phase },{ on:=10,ground:=Ground.phase },{ on:=11,ground:=Ground.phase },{ on:=12,ground:=Ground.phase },{ on:=13,ground:=Ground.phase },{ on:=14,ground:=Ground.phase },{ on:=15,ground:=Ground.phase },{ on:=16,ground:=Ground.phase },{ on:=17,ground:=Ground.phase }],guard:=none }
theorem newAt {S:Nat->Prop} (_:Only S w W) (o:Obj):(W.alloc o).heap[W.heap.size]? = some o:=heap_alloc_new W o
theorem OK {S:Nat->Prop} (_:Only S w W) (o:Obj):N0 W (W.alloc o):=(Only.refl _ _).alloc _
theorem Bd {S:Nat->Prop} (_:Only S w W):∃X,X=W:=⟨_,rfl⟩
theorem Og (x vp ve vr:Value) (m:MAN) (w:World) (h:Mf w x m vp ve vr) (hk:Mok m) (np:NoCap vp) (nr:NoCap vr) (hm63:m.es.length<=9223372036854775806) (e1:Q7 m=0) :
 Calls prog 47 #[x] w λe w'=>∃u,e=.returned (.tuple #[u,.int .i64 0])∧w'.ownsRow w.heap.size 5 1 u (MENC m).length ((MENC m).map (Value.int .u8))∧N0 w w':=by
 obtain⟨rfl,hp,he,hr⟩:=h;obtain⟨ap,pc,e1'⟩:=hp.len;obtain⟨ar,rc,e2'⟩:=hr.len;subst e1' e2';have hG:=(JI hk).1 e1;obtain⟨g1,g2,g3,g4,g5⟩:=hG
 have d1:((m.ver:Int) == 18446744073709551615)=false:=by rw[beq_eq_false_iff_ne];omega
 have l1:m.prev.length=32:=g2.1;have l2:m.root.length=32:=g3.1;rw[l1] at hp np;rw[l2] at hr nr;rw[l1,l2];have e32:((32:Nat):Int)=32:=rfl;obtain⟨ao,cap,e3⟩:=he.len;subst e3;have oa:N0 w (w.alloc (.cells #[.int .u64 m.ver,.slice ap 32 pc,.slice ao m.es.length cap,.slice ar 32 rc] 37)):=(Only.refl _ _).alloc _;have A:=Qa (Gu _ _ _ (he.past oa) hm63);have OA:=Qa oa;have HE:=Qa he;have HP:=Qa hp;have HR:=Qa hr;have K0:=Qa (heap_alloc_new w (.cells #[.int .u64 m.ver,.slice ap 32 pc,.slice ao m.es.length cap,.slice ar 32 rc] 37))
 have hl:m.es.any (λe=>!okB e.2)=false:=by
  rw[List.any_eq_false];intro e h1 q;rw[okB,Qe (g5 e h1).2] at q
  cases q
 rw[hl] at A;have B:=Qa (λW o=>Pp _ _ W (he.past (oa.same o)) hm63 hk.es)
 have d3:decide ((1048576:Int)<(m.es.length:Int))=false:=by simp;omega
 have d4:decide ((1048576:Nat)<m.es.length)=false:=by simp;omega
 have hj:m.es.any (λe=>decide (64<e.1.length))=false:=by
  rw[List.any_eq_false];intro e h1 q;have:=(g5 e h1).1.1;have:=of_decide_eq_true q;omega
 rw[hj] at B
 have h8:∀e∈m.es,e.1.length<=maxLen:=λe he=>by have:=(g5 e he).1.1;unfold maxLen;omega
 have h7:=Qa (λW o=>CP _ _ W (he.past (oa.same o)) hk.es g4 h8)
 have h2:Hid (∀x∈QC m,U8 x∧x.length<=64):=λx hx=>by
  obtain⟨e,h1,rfl⟩:=List.mem_map.1 ((UF _ _).1 hx);exact⟨(g5 e h1).1.2,(g5 e h1).1.1⟩
 have h9:Hid (∀e∈m.es,e.1∈QC m):=λe h1=>VU h1
 have hb:Hid (∀e∈m.es,e.1.length<=maxLen∧0<=e.2∧e.2<=8):=λe h1=>⟨h8 e h1,(g5 e h1).2⟩
 have h5:(QC m).length<=1048576:=Nat.le_trans (Ve m) g4
 have ho:Hid (MENC m=QW++(fixL (m.ver:Int) 8++(m.prev++(Yz (QC m) (QC m).length++(Ye (QC m) m.es m.es.length++m.root))))):=by
  simp only[Hid];rw[XX,JZ];rfl
 have h4:Hid ((QW++(fixL (m.ver:Int) 8++(m.prev++(Yz (QC m) (QC m).length++(Ye (QC m) m.es m.es.length++m.root))))).length<=140737488355328):=by
  have q1:=ZH (QC m) _ (Nat.le_refl _) h5 (λx hx=>(h2.o x hx).2);have q2:=ZM (QC m) m.es _ (Nat.le_refl _) g4 h9.o h5;simp only[Hid,Qc,QD,l1,l2,QW,Qi,List.length_nil];omega
 change Hid (∀(W:World),Only (λx=>False) _ W->Calls prog 83 #[Value.slice ao m.es.length cap] W λe w'=>∃vt,e=Ending.returned (Value.tuple #[vt,Value.map (some W.heap.size)])∧TOrd W w' (QC m) vt (W.heap.size+1) m.es.length (QC m).length) at h7
 rw[ho.o];have HF:=Qa (λW=>Ux (m.ver:Int) 8 W (by decide));rw[show ((8:Nat):Int)=8 from rfl] at HF;obtain⟨T,hT⟩:=EX (QC m);rw[<-hT] at h7 h2 h9 h5 h4;rw[<-hT];obtain⟨pv,hf⟩:=EX m.prev;rw[<-hf] at HP h4;rw[<-hf];obtain⟨rt,ha⟩:=EX m.root;rw[<-ha] at HR h4;rw[<-ha];obtain⟨vn,hd⟩:=EX m.ver;rw[<-hd] at h4 HF K0 OA A B h7 d1;rw[<-hd];obtain⟨E,hE⟩:=EX m.es;rw[<-hE] at HE h9 hb h4 K0 OA A B h7 d3 d4 g4;rw[<-hE];clear e1 oa he hp hr l1 l2 hl hj g1 g2 g3 g5 h8 hk ho hT hf ha hd hE hm63;obtain⟨n,hn⟩:=EX E.length;have HN:=Qa hn;rw[<-hn] at HE K0 OA A B h7 d3 d4 g4 h4;rw[<-hn];clear hn;go_enter func47,ntmps47;go_wp2_with fail;refine A.o.mono ?_;rintro e w1 ⟨rfl,o1⟩;have K1:=o1.heap K0.o (λf=>f);obtain⟨c0,c1,c2,c3⟩:=heap4 K1;have C:=Qa (B.o w1 o1);have O:=Qa o1;have hg:=Qa K1;clear A o1 B K0 K1;go_wp2_with fail;refine C.o.mono ?_;rintro e w2 ⟨rfl,o2⟩;have K2:=o2.heap hg.o (λf=>f);have O2:=O.o.same o2;have D:=Qa (h7.o w2 O2);clear C o2 h7 c0 c1 c2 c3 hg O;obtain⟨c0,c1,c2,c3⟩:=heap4 K2;have hm:=Qa K2;have hh:=Qa O2;clear K2 O2
 go_upto_region 7 with fail
 go_cut [1,2,3,4,5] from 6 (λp r0 r1 t mp W=>p=.pointer (some ⟨w.heap.size,0,none⟩)∧r0=.slice none 0 0∧r1=.int .i64 0∧mp=.map (some w2.heap.size)∧TOrd w2 W T t (w2.heap.size+1) n T.length)
 case first =>
  go_wp2_with fail;refine D.o.mono ?_;rintro e w3 ⟨vt,rfl,h0⟩;have HO:=Qa h0;clear h0 D;go_wp2_with fail
  go_meet
  exact⟨rfl,rfl,rfl,rfl,HO.o⟩
 case rest =>
  obtain⟨rfl,rfl,rfl,rfl,h0⟩:=hcut;obtain⟨w3,hw3⟩:=EX wc;subst hw3;have o3:=h0.on;have ST:=Qa (Sts.of_own h0.row);have hq:=Qa h0.at;have K3:=o3.heap hm.o (λf=>f);have O3:=Qa (OA.o.same (hh.o.same o3));clear D c0 c1 c2 c3 h0 hm o3;obtain⟨c0,c1,c2,c3⟩:=heap4 K3;clear K3;obtain⟨at1,ct1,et1⟩:=ST.o.len;subst et1;obtain⟨tn,h6⟩:=EX T.length;rw[<-h6] at ST h5;have TB:=Qa (λW o=>uv _ T W (ST.o.past o) h2.o (by rw[<-h6];exact h5))
  have EB:Hid (∀W,N0 w3 W->Calls prog 86 #[.slice ao n cap,.map (some w2.heap.size)] W λe w'=>∃u,e=.returned u∧w'.ownsRow W.heap.size 5 1 u (Ye T E n).length ((Ye T E n).map (Value.int .u8))∧N0 W w'):=by
   intro W o;obtain⟨D',hm',ha'⟩:=hq.o;have:=CH _ E T _ _ D' W (HE.o.past (O3.o.same o)) (XB hm' o (λf=>f)) ha' h9.o hb.o (by rw[<-HN.o];exact g4) (by rw[<-h6];exact h5);rw[<-HN.o] at this;exact this
  have HP3:=Qa (HP.o.past O3.o);have HR3:=Qa (HR.o.past O3.o);rw[<-h6];rw[<-h6] at TB h4;have HTN:=Qa h6;clear h6 h2 h9 hb hq HE HP HR ST OA hh;go_wp2_with fail;have h3:N0 w3 w3∧w3.cell? ⟨w.heap.size,0,none⟩=some (.int .u64 vn)∧w3.cell? ⟨w.heap.size,1,none⟩=some (.slice ap 32 pc)∧w3.cell? ⟨w.heap.size,2,none⟩=some (.slice ao n cap)∧w3.cell? ⟨w.heap.size,3,none⟩=some (.slice ar 32 rc):=⟨Only.refl _ _,c0,c1,c2,c3⟩;clear c0 c1 c2 c3 d1 d3 d4 e32;clear g4 h5;refine wp_region_held_drew (S:=λW=>N0 w3 W∧W.cell? ⟨w.heap.size,0,none⟩=some (.int .u64 vn)∧W.cell? ⟨w.heap.size,1,none⟩=some (.slice ap 32 pc)∧W.cell? ⟨w.heap.size,2,none⟩=some (.slice ao n cap)∧W.cell? ⟨w.heap.size,3,none⟩=some (.slice ar 32 rc)) (by kernel_rfl) (keep4 h3 (Only.refl _ _).drew) (λhH0=>?_)
  try simp only[Act.put,Qp,Qj,Qn]
  have C : Only (fun _ => False) w3 w3.drew:=(Only.refl _ _).drew;have hH:=hH0;refine wpAnyH_take (i:=2) (oi:={ dst:=some 41,op:=Op.fieldAddr 37 (Operand.tmp 1) 0,type:=0,pos:="manifest.go:35",after:=#[],guard:=none }) (v:=?_) rfl (by kernel_rfl) (by kernel_rfl) (by kernel_rfl) (fun _ _ _ h => h) (Or.inl ⟨by rfl,?_⟩) hH ?_
  rotate_left
  ·intro w hSw;(try dsimp only at hSw);go_simp;try with_reducible rfl
  try simp only[Act.put,Qp,Qj,Qn]
  refine wpAnyH_take (i:=3) (oi:={ dst:=some 42,op:=Op.load 24 (Operand.tmp 41),type:=24,pos:="manifest.go:35",after:=#[{ on:=2,ground:=Ground.data }],guard:=none }) (v:=?_) rfl (by kernel_rfl) (by kernel_rfl) (by kernel_rfl) (fun _ _ _ h => h) (Or.inl ⟨by rfl,?_⟩) hH ?_
  rotate_left
  ·intro w hSw;(try dsimp only at hSw);go_simp;try with_reducible rfl
  try simp only[Act.put,Qp,Qj,Qn]
  refine wpAnyH_take (i:=5) (oi:={ dst:=some 44,op:=Op.fieldAddr 37 (Operand.tmp 1) 1,type:=0,pos:="manifest.go:35",after:=#[],guard:=none }) (v:=?_) rfl (by kernel_rfl) (by kernel_rfl) (by kernel_rfl) (fun _ _ _ h => h) (Or.inl ⟨by rfl,?_⟩) hH ?_
  rotate_left
  ·intro w hSw;(try dsimp only at hSw);go_simp;try with_reducible rfl
  try simp only[Act.put,Qp,Qj,Qn]
  refine wpAnyH_take (i:=6) (oi:={ dst:=some 45,op:=Op.load 23 (Operand.tmp 44),type:=23,pos:="manifest.go:35",after:=#[{ on:=5,ground:=Ground.data }],guard:=none }) (v:=?_) rfl (by kernel_rfl) (by kernel_rfl) (by kernel_rfl) (fun _ _ _ h => h) (Or.inl ⟨by rfl,?_⟩) hH ?_
  rotate_left
  ·intro w hSw;(try dsimp only at hSw);go_simp;try with_reducible rfl
  try simp only[Act.put,Qp,Qj,Qn]
  refine wpAnyH_take (i:=7) (oi:={ dst:=some 46,op:=Op.move (Operand.tmp 4),type:=58,pos:="manifest.go:35",after:=#[],guard:=none }) (v:=?_) rfl (by kernel_rfl) (by kernel_rfl) (by kernel_rfl) (fun _ _ _ h => h) (Or.inl ⟨by rfl,?_⟩) hH ?_
  rotate_left
  ·intro w hSw;(try dsimp only at hSw);go_simp;try with_reducible rfl
  try simp only[Act.put,Qp,Qj,Qn]
  refine wpAnyH_take (i:=9) (oi:={ dst:=some 48,op:=Op.fieldAddr 37 (Operand.tmp 1) 2,type:=0,pos:="manifest.go:35",after:=#[],guard:=none }) (v:=?_) rfl (by kernel_rfl) (by kernel_rfl) (by kernel_rfl) (fun _ _ _ h => h) (Or.inl ⟨by rfl,?_⟩) hH ?_
  rotate_left
  ·intro w hSw;(try dsimp only at hSw);go_simp;try with_reducible rfl
  try simp only[Act.put,Qp,Qj,Qn]
  refine wpAnyH_take (i:=10) (oi:={ dst:=some 49,op:=Op.load 35 (Operand.tmp 48),type:=35,pos:="manifest.go:35",after:=#[{ on:=9,ground:=Ground.data }],guard:=none }) (v:=?_) rfl (by kernel_rfl) (by kernel_rfl) (by kernel_rfl) (fun _ _ _ h => h) (Or.inl ⟨by rfl,?_⟩) hH ?_
  rotate_left
  ·intro w hSw;(try dsimp only at hSw);go_simp;try with_reducible rfl
  try simp only[Act.put,Qp,Qj,Qn]
  refine wpAnyH_take (i:=11) (oi:={ dst:=some 50,op:=Op.move (Operand.tmp 5),type:=133,pos:="manifest.go:35",after:=#[],guard:=none }) (v:=?_) rfl (by kernel_rfl) (by kernel_rfl) (by kernel_rfl) (fun _ _ _ h => h) (Or.inl ⟨by rfl,?_⟩) hH ?_
  rotate_left
  ·intro w hSw;(try dsimp only at hSw);go_simp;try with_reducible rfl
  try simp only[Act.put,Qp,Qj,Qn]
  refine wpAnyH_take (i:=13) (oi:={ dst:=some 52,op:=Op.fieldAddr 37 (Operand.tmp 1) 3,type:=0,pos:="manifest.go:35",after:=#[],guard:=none }) (v:=?_) rfl (by kernel_rfl) (by kernel_rfl) (by kernel_rfl) (fun _ _ _ h => h) (Or.inl ⟨by rfl,?_⟩) hH ?_
  rotate_left
  ·intro w hSw;(try dsimp only at hSw);go_simp;try with_reducible rfl
  try simp only[Act.put,Qp,Qj,Qn]
  refine wpAnyH_take (i:=14) (oi:={ dst:=some 53,op:=Op.load 23 (Operand.tmp 52),type:=23,pos:="manifest.go:35",after:=#[{ on:=13,ground:=Ground.data }],guard:=none }) (v:=?_) rfl (by kernel_rfl) (by kernel_rfl) (by kernel_rfl) (fun _ _ _ h => h) (Or.inl ⟨by rfl,?_⟩) hH ?_
  rotate_left
  ·intro w hSw;(try dsimp only at hSw);go_simp;try with_reducible rfl
  try simp only[Act.put,Qp,Qj,Qn]
  repeat' (first
   | ((first
    | (have _:=m7;clear m7;rw[if_pos (by rfl)];refine qG rfl ?_;have G7:=Only.size C;have H7:=newAt C (.cells #[.int .u8 67,.int .u8 83,.int .u8 75,.int .u8 49] 5);have oq:=OK C (.cells #[.int .u8 67,.int .u8 83,.int .u8 75,.int .u8 49] 5);have C:=Only.alloc C (.cells #[.int .u8 67,.int .u8 83,.int .u8 75,.int .u8 49] 5);refine hK.out _ _ (keep4 h3 C) (λhH=>?_);clear hK K;(try have B8:=Bs.past B8 oq);(try have B6:=Bs.past B6 oq);(try have B1:=Bs.past B1 oq))
    | (have _:=m0;clear m0;rw[if_pos (by rfl)];refine vu (.tmp 39) rfl w3 rfl H7 G7 C ?_;intro W C B0 kz;refine hK.out _ _ (keep4 h3 C) (λhH=>?_);clear hK K;(try have B8:=kz _ _ B8);(try have B6:=kz _ _ B6);(try have B1:=kz _ _ B1))
    | (have _:=m8;clear m8;rw[if_pos (by rfl)];refine Zw 84 #[.tmp 42,.const (Value.int IntKind.i64 8)] #[24,3] rfl qx #[.int .u64 vn,.int .i64 8] (by kernel_rfl) (HF.o _) ?_;rintro v W ⟨ow,oq⟩;have C:=Only.same C oq;refine hK.out _ _ (keep4 h3 C) (λhH=>?_);clear hK K;(try have B0:=Bs.past B0 oq);(try have B8:=Bs.past B8 oq);(try have B6:=Bs.past B6 oq);(try have B1:=Bs.past B1 oq);(try have H7:=Only.heap oq H7 (λf=>f));have B8:Bs .u8 W v (fixL (vn:Int) 8):=Bs.of_own ow;have N8:=NoCap.of_own ow;clear ow)
    | (have _:=m6;clear m6;rw[if_pos (by rfl)];refine Zw 85 #[.tmp 46] #[58] rfl ya #[.slice at1 tn ct1] (by kernel_rfl) (TB.o _ C) ?_;rintro v W ⟨ow,oq⟩;have C:=Only.same C oq;refine hK.out _ _ (keep4 h3 C) (λhH=>?_);clear hK K;(try have B0:=Bs.past B0 oq);(try have B8:=Bs.past B8 oq);(try have B6:=Bs.past B6 oq);(try have B1:=Bs.past B1 oq);(try have H7:=Only.heap oq H7 (λf=>f));have B6:Bs .u8 W v (Yz T tn):=Bs.of_own ow;have N6:=NoCap.of_own ow;clear ow)
    | (have _:=m1;clear m1;rw[if_pos (by rfl)];refine Zw 86 #[.tmp 49,.tmp 50] #[35,133] rfl MD #[.slice ao n cap,.map (some w2.heap.size)] (by kernel_rfl) (EB.o _ C) ?_;rintro v W ⟨ow,oq⟩;have C:=Only.same C oq;refine hK.out _ _ (keep4 h3 C) (λhH=>?_);clear hK K;(try have B0:=Bs.past B0 oq);(try have B8:=Bs.past B8 oq);(try have B6:=Bs.past B6 oq);(try have B1:=Bs.past B1 oq);(try have H7:=Only.heap oq H7 (λf=>f));have B1:Bs .u8 W v (Ye T E n):=Bs.of_own ow;have N1:=NoCap.of_own ow;clear ow)
    | (have _:=m2;clear m2;rw[if_pos (by rfl)];obtain⟨x8,y8,e8⟩:=Bs.len B8;subst e8;obtain⟨x6,y6,e6⟩:=Bs.len B6;subst e6;obtain⟨x1,y1,e1⟩:=Bs.len B1;subst e1;obtain⟨Z,hZ⟩:=Bd C;subst hZ;have Z2:=C;refine Aj rfl rfl rfl rfl rfl rfl rfl ?_;refine hK.out _ _ (keep4 h3 (Only.alloc C _)) (λhH=>?_);clear hK K)
    | (
    have _:=m3;clear m3;rw[if_pos (by rfl)];refine Zw 22 #[.tmp 54] #[38] rfl Eb #[.slice (some ⟨Z.heap.size,0,none⟩) 6 6] (by kernel_rfl) (uC (heap_alloc_new Z _) (Bs.past B0 ((Only.refl _ _).alloc _)) (Bs.past B8 ((Only.refl _ _).alloc _)) (HP3.o.past (Only.alloc C _)) (Bs.past B6 ((Only.refl _ _).alloc _)) (Bs.past B1 ((Only.refl _ _).alloc _)) (HR3.o.past (Only.alloc C _)) (NoCap.some _ _ _) N8 np N6 N1 nr (by simp[QW]) h4.o) ?_;rintro v W ⟨ow,oq⟩;have D:=Only.same (Only.alloc C _) oq;refine hK.out _ _ (keep4 h3 D) (λhH=>?_);clear hK K
    try simp only[Act.put,Qp,Qj,Qn]
    refine wpAnyH_take (i:=17) (oi:=o4mi) (v:=?_) rfl (by kernel_rfl) (by kernel_rfl) (by kernel_rfl) (λ_ _ _ h=>h) (Or.inl ⟨by rfl,?_⟩) hH ?_
    rotate_left
    ·intro w hSw;(try dsimp only at hSw);go_simp;try with_reducible rfl
    try simp only[Act.put,Qp,Qj,Qn]
    refine wpAnyH_take (i:=18) (oi:=o5mi) (v:=?_) rfl (by kernel_rfl) (by kernel_rfl) (by kernel_rfl) (λ_ _ _ h=>h) (Or.inl ⟨by rfl,?_⟩) hH ?_
    rotate_left
    ·intro w hSw;(try dsimp only at hSw);go_simp;try with_reducible rfl
    try simp only[Act.put,Qp,Qj,Qn]
    refine wpAnyH_done (by kernel_rfl) ?_ _;have FZ:=Qa (And.intro (Qu ow (Nat.le_trans O3.o.size (Only.size (Only.alloc C _)))) (Only.same O3.o D));rw[HTN.o] at FZ;clear hH0;go_wp2;go_ret2
    exact⟨v,rfl,FZ.o⟩));try simp only[Act.put,Qp,Qj,Qn])
   | (have _:=Z2;refine wpAnyH_ready (rs:=[16]) (by kernel_rfl) (by simp) (AllReadyH.cons (o:=o3mi) rfl (λK hK=>(λ(m3:True)=>?_) trivial) AllReadyH.nil))
   | (have _:=B1;have _:=B0;refine wpAnyH_ready (rs:=[15]) (by kernel_rfl) (by simp) (AllReadyH.cons (o:=o2mi) rfl (λK hK=>(λ(m2:True)=>?_) trivial) AllReadyH.nil))
   | (have _:=B1;have _:=H7;refine wpAnyH_ready (rs:=[1]) (by kernel_rfl) (by simp) (AllReadyH.cons (o:=o0mi) rfl (λK hK=>(λ(m0:True)=>?_) trivial) AllReadyH.nil))
   | (have _:=B1;refine wpAnyH_ready (rs:=[0]) (by kernel_rfl) (by simp) (AllReadyH.cons (o:=o7mi) rfl (λK hK=>(λ(m7:True)=>?_) trivial) AllReadyH.nil))
   | (have _:=B6;have _:=B0;refine wpAnyH_ready (rs:=[12]) (by kernel_rfl) (by simp) (AllReadyH.cons (o:=o1mi) rfl (λK hK=>(λ(m1:True)=>?_) trivial) AllReadyH.nil))
   | (have _:=B6;have _:=H7;refine wpAnyH_ready (rs:=[1,12]) (by kernel_rfl) (by simp) (AllReadyH.cons (o:=o0mi) rfl (λK hK=>(λ(m0:True)=>?_) trivial) (AllReadyH.cons (o:=o1mi) rfl (λK hK=>(λ(m1:True)=>?_) trivial) AllReadyH.nil)))
   | (have _:=B6;refine wpAnyH_ready (rs:=[0,12]) (by kernel_rfl) (by simp) (AllReadyH.cons (o:=o7mi) rfl (λK hK=>(λ(m7:True)=>?_) trivial) (AllReadyH.cons (o:=o1mi) rfl (λK hK=>(λ(m1:True)=>?_) trivial) AllReadyH.nil)))
   | (have _:=B8;have _:=B0;refine wpAnyH_ready (rs:=[8]) (by kernel_rfl) (by simp) (AllReadyH.cons (o:=o6mi) rfl (λK hK=>(λ(m6:True)=>?_) trivial) AllReadyH.nil))
   | (have _:=B8;have _:=H7;refine wpAnyH_ready (rs:=[1,8]) (by kernel_rfl) (by simp) (AllReadyH.cons (o:=o0mi) rfl (λK hK=>(λ(m0:True)=>?_) trivial) (AllReadyH.cons (o:=o6mi) rfl (λK hK=>(λ(m6:True)=>?_) trivial) AllReadyH.nil)))
   | (have _:=B8;refine wpAnyH_ready (rs:=[0,8]) (by kernel_rfl) (by simp) (AllReadyH.cons (o:=o7mi) rfl (λK hK=>(λ(m7:True)=>?_) trivial) (AllReadyH.cons (o:=o6mi) rfl (λK hK=>(λ(m6:True)=>?_) trivial) AllReadyH.nil)))
   | (have _:=B0;refine wpAnyH_ready (rs:=[4]) (by kernel_rfl) (by simp) (AllReadyH.cons (o:=o8mi) rfl (λK hK=>(λ(m8:True)=>?_) trivial) AllReadyH.nil))
   | (have _:=H7;refine wpAnyH_ready (rs:=[1,4]) (by kernel_rfl) (by simp) (AllReadyH.cons (o:=o0mi) rfl (λK hK=>(λ(m0:True)=>?_) trivial) (AllReadyH.cons (o:=o8mi) rfl (λK hK=>(λ(m8:True)=>?_) trivial) AllReadyH.nil)))
   | (refine wpAnyH_ready (rs:=[0,4]) (by kernel_rfl) (by simp) (AllReadyH.cons (o:=o7mi) rfl (λK hK=>(λ(m7:True)=>?_) trivial) (AllReadyH.cons (o:=o8mi) rfl (λK hK=>(λ(m8:True)=>?_) trivial) AllReadyH.nil))))
theorem Tu (x vp ve vr:Value) (m:MAN) (w:World) (h:Mf w x m vp ve vr) (hk:Mok m) (np:NoCap vp) (nr:NoCap vr) (hm63:m.es.length<=9223372036854775806) :
 Calls prog 47 #[x] w λe w'=>∃u,e=.returned (.tuple #[u,.int .i64 (Q7 m)])∧w'.ownsRow w.heap.size 5 1 u (Yu m).length ((Yu m).map (Value.int .u8))∧N0 w w':=by
 by_cases e1:Q7 m=0
 ·have e2:Yu m=MENC m:=by unfold Yu;rw[if_pos e1]
  rw[e1,e2];exact Og x vp ve vr m w h hk np nr hm63 e1
 ·exact uU x vp ve vr m w h hk np nr hm63 e1
end
end Go.Proofs.YtoflhbghdlaeaaaGreatDoor
