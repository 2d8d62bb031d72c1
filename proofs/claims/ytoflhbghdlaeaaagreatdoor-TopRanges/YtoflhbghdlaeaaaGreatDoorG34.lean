import Derived.Test.YtoflhbghdlaeaaaGreatDoorG33
import Derived.Deep.DrawnRows
namespace Go.Proofs.YtoflhbghdlaeaaaGreatDoor
set_option maxHeartbeats 4000000
set_option maxRecDepth 100000
open Go.RowKit _root_.Go.Proofs.Tryz
variable {w w' W:World} {v:Value} {ys xs l:LI} {R n p k g B:Nat} {P:Program} {ls:List (LI)} {E:TypeId}
section
open Go.Shelf
attribute [local go_sem] Oper.semAt_some
def pk11 (l:LI) (t:Nat):LI:=((Q5 l t).1:Int) :: (Q5 l t).2
def Sh11 (lo:Nat) (l:LI) (t:Nat) (A:World) (sv:Value):Prop :=
 (t=0∧sv=.slice none 0 0)∨∃s,t=s+1∧A.ownsRow lo 5 1 sv (pk11 l s).length ((pk11 l s).map (Value.int .u8))
def In11 (W0:World) (Bx lo:Nat) (l:LI) (t:Nat) (A:World):Prop:=Only (λk=>k=Bx) W0 A∧∃sv,Boxed A Bx 23 sv∧Sh11 lo l t A sv
theorem Sh11.keep {lo:Nat} {t:Nat} {A B:World} {sv:Value} (h:Sh11 lo l t A sv) {S:Nat->Prop} (o:Only S A B) (hs:∀k,sv.ownBlock=some k->¬S k):Sh11 lo l t B sv:=by
 rcases h with h | ⟨s,e,h⟩
 ·exact .inl h
 ·exact .inr ⟨s,e,o.own h hs⟩
theorem In11.past {W0:World} {Bx lo:Nat} {t:Nat} {A B:World} (h:In11 W0 Bx lo l t A) (o:N0 A B):In11 W0 Bx lo l t B:=by
 obtain⟨h1,sv,h2,h3⟩:=h;exact⟨h1.trans o (λ_ _ f=>f.elim),sv,QI h2 o (λf=>f),h3.keep o (λ_ _ f=>f)⟩
theorem In11.loop {W0:World} {Bx lo:Nat} {t:Nat} {A B:World} (h:In11 W0 Bx lo l t A) {L:Nat} {r:Loop} (hl:A.heap[L]? = some (.loop r)) (o:Only (λk=>k=L) A B) (hL:W0.heap.size<=L):In11 W0 Bx lo l t B:=by
 obtain⟨h1,sv,h2,h3⟩:=h;refine⟨h1.trans o (λk hk e=>by omega),sv,QI h2 o (λe=>?_),h3.keep o (λk hk e=>?_)⟩
 ·subst e
  rw[show A.heap[Bx]? = _ from h2] at hl;cases hl
 ·subst e
  rcases h3 with ⟨_,rfl⟩ | ⟨s,_,ho⟩
  ·cases hk
  ·rcases ho.2 with ⟨rfl,_⟩ | ⟨g,cap,cur,rfl,_,hg,_⟩
   ·cases hk
   ·obtain rfl:g=k:=by simpa [Value.ownBlock] using hk
    rw[hg] at hl;cases hl
theorem In11.skip {W0:World} {Bx lo:Nat} {t:Nat} {A:World} (h:In11 W0 Bx lo l t A) (he:(QK l t).2≠0):In11 W0 Bx lo l (t+1) A:=by
 obtain⟨h1,sv,h2,h3⟩:=h;refine⟨h1,sv,h2,?_⟩
 rcases h3 with ⟨rfl,_⟩ | ⟨s,rfl,ho⟩
 ·exact absurd rfl he
 ·refine .inr ⟨s+1,rfl,?_⟩
  have e:pk11 l (s+1)=pk11 l s:=by
   unfold pk11;rw[Q5,if_neg (λc=>he c.1)]
  rw[e];exact ho
theorem In11.stays {W0:World} {Bx lo:Nat} {s:Nat} {A:World} (h:In11 W0 Bx lo l (s+1) A) (hc:¬(QK l (s+1)).1.length<(Q5 l s).2.length):In11 W0 Bx lo l (s+1+1) A:=by
 obtain⟨h1,sv,h2,h3⟩:=h;refine⟨h1,sv,h2,?_⟩
 rcases h3 with ⟨e,_⟩ | ⟨s',e,ho⟩
 ·omega
 ·obtain rfl:s=s':=by omega
  refine .inr ⟨s+1,rfl,?_⟩
  have e:pk11 l (s+1)=pk11 l s:=by
   unfold pk11;rw[Q5,if_neg (λc=>hc c.2)]
  rw[e];exact ho
theorem In11.stored {W0 W A:World} {Bx lo:Nat} {t:Nat} (h:In11 W0 Bx lo l t W) (hBx:Bx<W0.heap.size) (o:N0 W A) (hlo:lo<=W.heap.size)
 (own:A.ownsRow W.heap.size 5 1 v (pk11 l t).length ((pk11 l t).map (Value.int .u8))):Only (λk=>k<W0.heap.size) W (A.setCell ⟨Bx,0,none⟩ v)∧In11 W0 Bx lo l (t+1) (A.setCell ⟨Bx,0,none⟩ v):=by
 obtain⟨h1,sv,h2,h3⟩:=h;have hBW:Bx<W.heap.size:=h2.lt;have o2:Only (λk=>k=Bx) A (A.setCell ⟨Bx,0,none⟩ v):=(Only.refl (λk=>k=Bx) A).setCell (p:=⟨Bx,0,none⟩) (λ_=>rfl) v;refine⟨(o.mono (λ_ _ f=>f.elim)).trans o2 (λk _ e=>by omega),h1.trans ((o.mono (T:=λk=>k=Bx) (λ_ _ f=>f.elim)).trans o2 (λ_ _ e=>e)) (λ_ _ e=>e),v,(QI h2 o (λf=>f)).set v,.inr ⟨t,rfl,?_⟩⟩;exact o2.own (Qu own hlo) (λk hk e=>by have:=(own.lt k hk).1;omega)
theorem PR (W:World) (x:Int) (u:Value) (Y:LI) (hb:Bs .u8 W u Y) (hn:NoCap u) (hl:Y.length<=2000000) :
 Calls prog 22 #[.slice (some ⟨W.heap.size+1,0,none⟩) 2 2] ((W.alloc (.cells #[.int .u8 x] 5)).alloc (.cells #[.slice (some ⟨W.heap.size,0,none⟩) 1 1,u] 23)) λe w' =>
  ∃g c,e=.returned (.slice (some ⟨g,0,none⟩) (Y.length+1) c)∧w'.ownsRow W.heap.size 5 1 (.slice (some ⟨g,0,none⟩) (Y.length+1) c) (x :: Y).length ((x :: Y).map (Value.int .u8))∧N0 W w':=by
 obtain⟨W2,h0⟩:∃W2,(W.alloc (.cells #[.int .u8 x] 5)).alloc (.cells #[.slice (some ⟨W.heap.size,0,none⟩) 1 1,u] 23)=W2:=⟨_,rfl⟩
 have o2:N0 W W2:=by rw[<-h0];exact ((Only.refl _ W).alloc _).alloc _
 have hL:Bs .u8 W2 (.slice (some ⟨W.heap.size,0,none⟩) 1 1) [x]:=by
  rw[<-h0];exact (Bs.lit .u8 W 5 [x]).past ((Only.refl _ _).alloc _)
 have hH:W2.heap[W.heap.size+1]? = some (.cells #[.slice (some ⟨W.heap.size,0,none⟩) 1 1,u] 23 (0,0)):=by
  have:=World.alloc_heap_new (W.alloc (.cells #[.int .u8 x] 5)) (.cells #[.slice (some ⟨W.heap.size,0,none⟩) 1 1,u] 23);rw[World.size_alloc,h0] at this;exact this
 have ec:cat (λi=>if i=0 then [x] else Y) 2=x :: Y:=by rw[Wa,Wa,Pd];rfl
 have hBB:∀i,i<2->Bs .u8 W2 (if i=0 then .slice (some ⟨W.heap.size,0,none⟩) 1 1 else u) (if i=0 then [x] else Y):=by
  intro i hi
  rcases (show i=0∨i=1 by omega) with rfl | rfl
  ·exact hL
  ·exact hb.past o2
 have hNN:∀i,i<2->NoCap (if i=0 then .slice (some ⟨W.heap.size,0,none⟩) 1 1 else u):=by
  intro i hi
  rcases (show i=0∨i=1 by omega) with rfl | rfl
  ·exact NoCap.some _ _ _
  ·exact hn
 have C:=VC (W.heap.size+1) 2 (λi=>if i=0 then .slice (some ⟨W.heap.size,0,none⟩) 1 1 else u) (λi=>if i=0 then [x] else Y) W2 (by omega) (by omega)
  (λi hi=>by rcases (show i=0∨i=1 by omega) with rfl | rfl <;> simp[World.cell?,hH])
  hBB hNN
  (by rw[ec,Qi];omega) (by rw[ec,Qi];omega)
 rw[ec] at C;rw[h0];refine C.mono ?_;rintro e w' ⟨v',rfl,own,o⟩;have h1:w'.ownsRow W2.heap.size 5 1 v' (Y.length+1) ((x :: Y).map (Value.int .u8)):=own;obtain⟨g,c,rfl⟩:=ownsRow_succ h1;exact⟨g,c,rfl,Qu own o2.size,o2.same o⟩
theorem D4 (v:Value) (l:LI) (w:World) (h:Bs .u64 w v l) (hl:65536<l.length) :
 Calls prog 157 #[v] w λe w'=>e=.returned (.tuple #[.slice none 0 0,.int .i64 4])∧w=w':=by
 obtain⟨ao,cap,rfl⟩:=h.len;have d1:decide ((65536:Int)<(l.length:Int))=true:=Qe (by omega);have d1':decide (65536<l.length)=true:=Qe hl;clear h hl;refine (callsIn_wide (n:=5)).1 ?_;refine callsIn_of_wp_marks func157 rfl trivial ?_ rfl;simp only[ntmps157,List.size_toArray,Qi,List.length_nil,Nat.reduceAdd,Nat.reduceSub,Array.replicate_succ,Array.replicate_zero,List.push_toArray,List.append_toArray,List.nil_append,List.cons_append]
 gi_wp2
 refine⟨.tuple #[.slice none 0 0,.int .i64 4],?_,rfl,rfl⟩;simp[results,Tryz.f157,go_sem]
theorem Sq (v:Value) (l:LI) (w:World) (h:Bs .u64 w v l) (hu:U64 l) (hl:l.length<=65536) (hT:Tab w) :
 Calls prog 157 #[v] w λe w'=>∃u,e=.returned (.tuple #[u,.int .i64 0])∧w'.ownsRow w.heap.size 5 1 u (pk11 l 3).length ((pk11 l 3).map (Value.int .u8))∧N0 w w':=by
 have HB:=Qa h;have HT:=Qa hT;obtain⟨ao,cap,rfl⟩:=h.len;obtain⟨m,hm⟩:=EX l.length;rw[<-hm] at HB;rw[<-hm];have HM:=Qa hm;have HL:=Qa hl;have d1:decide ((65536:Int)<(m:Int))=false:=Qb (by omega);have d1':decide (65536<m)=false:=Qb (by omega);have h0w:=hT.pos;clear h hm hT hl;refine (callsIn_wide (n:=5)).1 ?_;refine callsIn_of_wp_marks func157 rfl trivial ?_ rfl;simp only[ntmps157,List.size_toArray,Qi,List.length_nil,Nat.reduceAdd,Nat.reduceSub,Array.replicate_succ,Array.replicate_zero,List.push_toArray,List.append_toArray,List.nil_append,List.cons_append]
 gi_wp2_with fail
 refine⟨trivial,(Ay _ _ _ _ _).mono ?_⟩;rintro e w2 ⟨rfl,rfl⟩
 gi_wp2_with fail
 obtain⟨W0,h5⟩:∃W0,(w.alloc (.cells #[.slice none 0 0] 23)).alloc (.cells #[.slice ao m cap] 201)=W0:=⟨_,rfl⟩
 have o0:N0 w W0:=by rw[<-h5];exact ((Only.refl _ w).alloc _).alloc _
 have hsz:W0.heap.size=w.heap.size+1+1:=by rw[<-h5];simp
 have bX:Boxed W0 w.heap.size 23 (.slice none 0 0):=by rw[<-h5];exact (Boxed.new w 23 (.slice none 0 0)).alloc _
 have bV:Boxed W0 (w.heap.size+1) 201 (.slice ao m cap):=by
  rw[<-h5];have h:=Boxed.new (w.alloc (.cells #[.slice none 0 0] 23)) 201 (.slice ao m cap);rw[World.size_alloc] at h;exact h
 rw[h5];have HI0:In11 W0 w.heap.size w.heap.size l 0 W0:=⟨Only.refl _ _,_,bX,.inl ⟨rfl,rfl⟩⟩
 refine Bt (gf:=212) (lb:=#[.pointer (some ⟨w.heap.size+1,0,none⟩)]) rfl (enters_of func212 (by kernel_rfl) rfl)
  (λx:Nat × Value=>#[.int .i64 x.1,x.2]) (λ_=>rfl) (In11 W0 w.heap.size w.heap.size l) (λs x s' A=>x.1=s∧s'=s+1∧s<=3∧(QK l s).2=0∧Bs .u8 A x.2 (QK l s).1∧NoCap x.2) 0 4
  (λs A B r hi hl o=>hi.loop hl o (by omega)) (λs A B hi o=>hi.past o) (λs x s' A B r hv hl o=>⟨hv.1,hv.2.1,hv.2.2.1,hv.2.2.2.1,hv.2.2.2.2.1.loop hl o,hv.2.2.2.2.2⟩) HI0
  ?hit (λx=>{ tmps:=#[.slice ao m cap,undef,.slice none 0 0,.int .i64 0,.pointer (some ⟨w.heap.size,0,none⟩),.int .i64 x.1,x.2,.slice ao m cap,.int .i64 m,.bool false,.slice ao m cap,
   .func (.func 212) #[] #[.pointer (some ⟨w.heap.size+1,0,none⟩)],.int .i64 x.1,x.2,undef,undef,undef,undef,undef,undef,undef,undef,undef,undef,undef,undef,undef,undef,undef,undef,undef],defers:=[] }) ?assign ?body ?done
 case hit =>
  intro J W hJ hJo hJs hY h0;refine wj 4 (W0.heap.size+1) (w.heap.size+1) (.slice ao m cap) l hu HL.o J (λs A hs=>?_) hJo (λs A h3 hs he=>hJs s (s+1) A hs ((hJ s A hs).skip he)) (λs u A h3 hs he hb hn=>hY s (s,u) (s+1) A hs ⟨rfl,rfl,h3,he,hb,hn⟩) W h0;have o:=(hJ s A hs).1;have o':N0 w A:=o0.trans o (λk hk e=>by omega);exact⟨QI bV o (by omega),HB.o.past o',HT.o.past o'⟩
 case assign =>
  intro x W K hK
  gi_wp2
  exact hK
 case body =>
  rintro s ⟨s',u⟩ s'' W hi ⟨rfl,rfl,h3,he,hb,hn⟩;simp only at hb hn h3 he;have HI:=Qa hi;obtain⟨o1,sv,bx,hd⟩:=hi;have hc:=bx.cell;have hf:=bx.frozen
  have hg:w.heap.size<=W.heap.size:=by have:=o1.size;omega
  obtain⟨au,cu,eu⟩:=hb.len;subst eu
  rcases hd with ⟨rfl,rfl⟩ | ⟨s,rfl,ho⟩
  ·have h7:∀W,(binOp .eql 23 (.slice none 0 0) (.slice none 0 0)).run prog W=.ok (.bool true) W:=λW=>by
    rw[Lib.run_eql_slice_nil W 23 5 none 0 0 0 0 underlying23];rfl
   obtain⟨Y,hY⟩:=EX ((QK l 0).1);rw[<-hY] at hb hn
   have h9:Hid (pk11 l 0=0 :: Y):=by simp only[Hid];rw[hY];rfl
   have HB':=Qa hb;have HN':=Qa hn;rw[<-hY];have CT:=Qa (PR W 0 (.slice au Y.length cu) Y hb hn (by rw[hY,<-JB HL.o 0 (by omega)];exact Ho));have h6:=Qa bx;clear bx hb hn he h3 hY
   gi_wp2_with fail
   refine⟨trivial,(CallsIn.inRound _ (callsIn_wide.2 CT.o)).mono ?_⟩;rintro e w4 ⟨g,c,rfl,h1,o4⟩;have h4:=QI h6.o o4 (λf=>f);rw[<-h9.o] at h1;have ha:=Qa (HI.o.stored (by omega) o4 hg h1);have hc4:=h4.cell;have hf4:=h4.frozen;clear h1 o4 h4 CT h6 hc hf
   gi_wp2
   exact ha.o
  ·obtain⟨Y,hY⟩:=EX ((QK l (s+1)).1)
   rw[<-hY] at hb hn;have h2:(pk11 l s).length=(Q5 l s).2.length+1:=rfl;obtain⟨q,hq⟩:=EX ((Q5 l s).2.length);rw[h2,<-hq] at ho;obtain⟨g0,c0,esv⟩:=ownsRow_succ ho;subst esv
   have h7:∀W,(binOp .eql 23 (.slice (some ⟨g0,0,none⟩) (q+1) c0) (.slice none 0 0)).run prog W=.ok (.bool false) W:=λW=>by
    rw[Lib.run_eql_slice_nil W 23 5 (some ⟨g0,0,none⟩) (q+1) c0 0 0 underlying23];rfl
   have hYl:Y.length<=2000000:=by rw[hY,<-JB HL.o (s+1) h3];exact Ho
   by_cases hcmp:Y.length<q
   ·have h9:Hid (pk11 l (s+1)=((s:Int)+1) :: Y):=by
     simp only[Hid];unfold pk11;rw[Q5,if_pos ⟨he,by rw[<-hY,<-hq];exact hcmp⟩,<-hY]
     rfl
    have CT:=Qa (PR W ((s:Int)+1) (.slice au Y.length cu) Y hb hn hYl);rw[<-hY];have dd:decide ((1:Int)+(Y.length:Int)<((q+1:Nat):Int))=true:=Qe (by omega);have dd2:decide ((1:Int)+(Y.length:Int)<(q:Int)+1)=true:=Qe (by omega);have h6:=Qa bx;clear bx hb hn he hY h2 hq ho hcmp
    gi_wp2_with fail
    refine⟨trivial,(CallsIn.inRound _ (callsIn_wide.2 CT.o)).mono ?_⟩;rintro e w4 ⟨g,c,rfl,h1,o4⟩;have h4:=QI h6.o o4 (λf=>f);rw[<-h9.o] at h1;have ha:=Qa (HI.o.stored (by omega) o4 hg h1);have hc4:=h4.cell;have hf4:=h4.frozen;clear h1 o4 h4 CT h6 hc hf
    gi_wp2
    exact ha.o
   ·have HST:=Qa (HI.o.stays (by rw[<-hY,<-hq];exact hcmp))
    rw[<-hY];have dd:decide ((1:Int)+(Y.length:Int)<((q+1:Nat):Int))=false:=Qb (by omega);have dd2:decide ((1:Int)+(Y.length:Int)<(q:Int)+1)=false:=Qb (by omega);clear bx hb hn he hY h2 hq ho hcmp
    gi_wp2
    exact⟨Only.refl _ _,HST.o⟩
 case done =>
  intro W hi hD;obtain⟨o1,sv,bx,hd⟩:=hi;have hc:=bx.cell
  rcases hd with ⟨e,_⟩ | ⟨s,e,ho⟩
  ·cases e
  ·obtain rfl:s=3:=by omega
   clear e;have HO:=Qa ho;have h2:(pk11 l 3).length=(Q5 l 3).2.length+1:=rfl;rw[h2] at ho;obtain⟨g,h8,e2⟩:=ownsRow_succ ho;subst e2;clear h2 ho;have O1:=Qa o1;have HD:=Qa hD;clear o1 bx
   gi_wp2
   refine⟨by simp,.inl ⟨_,_,rfl,run_takeDeferred HD.o,?_⟩⟩;refine⟨.tuple #[.slice (some ⟨g,0,none⟩) ((Q5 l 3).2.length+1) h8,.int .i64 0],?_,_,rfl,ownsRow_putObj HO.o _ HD.o rfl,?_⟩
   ·simp[results,Tryz.f157,go_sem]
   ·exact (o0.trans O1.o (λk hk e=>by omega)).putObj _ _ (λhk=>by omega)
theorem FC (v:Value) (l:LI) (w:World) (h:Bs .u64 w v l) (hu:U64 l) (hT:Tab w) :
 Calls prog 157 #[v] w λe w'=>∃u,e=.returned (.tuple #[u,.int .i64 (ENC11 l).2])∧w'.ownsRow w.heap.size 5 1 u (ENC11 l).1.length ((ENC11 l).1.map (Value.int .u8))∧N0 w w':=by
 by_cases hl:65536<l.length
 ·have e:ENC11 l=([],4):=if_pos hl
  rw[e];refine (D4 v l w h hl).mono ?_;rintro e w' ⟨rfl,rfl⟩;exact⟨_,rfl,World.ownsRow_nil _ _ _ _,Only.refl _ _⟩
 ·rw[Hq (by omega)]
  exact Sq v l w h hu (by omega) hT
end
section
attribute [local go_sem ↓] Go.wp_at_zero Go.wp_at_succ
theorem yR (t:ByteArray) (u:Value) (s:List (Int × Int)) (w:World) (h:Sps w u s) (hl:64<t.size∨65536<s.length) (hm:s.length<=maxLen) (hm2:t.size<=maxLen) :
 Calls prog 115 #[.agg #[.string t,u]] w λe w'=>e=.returned (.tuple #[.slice none 0 0,.int .i64 4])∧N0 w w':=by
 unfold maxLen at hm hm2;obtain⟨ao,cap,rfl⟩:=h.len;clear h;generalize s.length=n at *
 by_cases h1:64<t.size
 ·have d1:decide (64<(t.size:Int))=true:=by simp;omega
  have d2:decide (64<t.size)=true:=by simp;omega
  go_enter func115,ntmps115;go_wp2;go_ret2;exact⟨rfl,(Only.refl _ _).alloc _⟩
 ·have h2:65536<n:=by omega
  have d1:decide (64<(t.size:Int))=false:=by simp;omega
  have d2:decide (64<t.size)=false:=by simp;omega
  have d3:decide (65536<(n:Int))=true:=by simp;omega
  have d4:decide (65536<n)=true:=by simp;omega
  go_enter func115,ntmps115;go_wp2;go_ret2;exact⟨rfl,(Only.refl _ _).alloc _⟩
theorem Zc {w3 W W':World} {x y:Value} (h:N0 w3 W∧W.cell? ⟨B,0,none⟩=some x∧W.cell? ⟨B,1,none⟩=some y) (o:N0 W W') :
 N0 w3 W'∧W'.cell? ⟨B,0,none⟩=some x∧W'.cell? ⟨B,1,none⟩=some y:=by
 obtain⟨h1,h2,h3⟩:=h;have hb:B<W.heap.size:=World.block_lt_of_cell? W _ h2;have e:=o.block B hb (λf=>f);exact⟨h1.same o,by rw[<-h2];unfold World.cell?;rw[e],by rw[<-h3];unfold World.cell?;rw[e]⟩
def five {α:Type} (a b c d e:α):Nat->α
 | 0=>a
 | 1=>b
 | 2=>c
 | 3=>d
 | _=>e
theorem Jo (a b c d e:LI):cat (five a b c d e) 5=a++(b++(c++(d++e))):=by
 simp[cat,List.range_succ,five]
theorem Ov {X:Nat} (h:W.heap[X]? = some (.cells #[.int .u8 1] 5 (0,0))):Bs .u8 W (.slice (some ⟨X,0,none⟩) 1 1) [1]:=by
 refine⟨some _,1,rfl,Nat.le_refl _,λ_=>⟨X,0,rfl,λj hj=>?_⟩⟩
 have:j=0:=by simpa using hj
 subst this;simp[World.cell?,h]
theorem Sb {v0 v1 v2 v3 v4:Value} {l0 l1 l2 l3 l4:LI} (hB:W.heap[B]? = some (.cells #[v0,v1,v2,v3,v4] 23 (0,0)))
 (b0:Bs .u8 W v0 l0) (b1:Bs .u8 W v1 l1) (b2:Bs .u8 W v2 l2) (b3:Bs .u8 W v3 l3) (b4:Bs .u8 W v4 l4) (n0:NoCap v0) (n1:NoCap v1) (n2:NoCap v2) (n3:NoCap v3) (n4:NoCap v4)
 (hp:0<l0.length) (hl:(l0++(l1++(l2++(l3++l4)))).length<=140737488355328) :
 Calls prog 22 #[.slice (some ⟨B,0,none⟩) 5 5] W λe w'=>∃v',e=.returned v'∧w'.ownsRow W.heap.size 5 1 v' (l0++(l1++(l2++(l3++l4)))).length ((l0++(l1++(l2++(l3++l4)))).map (Value.int .u8))∧N0 W w':=by
 have:=VC B 5 (five v0 v1 v2 v3 v4) (five l0 l1 l2 l3 l4) W (by omega) (by omega)
  (λi hi=>by
   have e:W.cell? ⟨B,i,none⟩=(#[v0,v1,v2,v3,v4]:Array Value)[i]?:=by unfold World.cell?;simp only;rw[hB];rfl
   rw[e]
   match i,hi with
   | 0,_=>rfl
   | 1,_=>rfl
   | 2,_=>rfl
   | 3,_=>rfl
   | 4,_=>rfl)
  (λi hi=>by
   match i,hi with
   | 0,_=>exact b0
   | 1,_=>exact b1
   | 2,_=>exact b2
   | 3,_=>exact b3
   | 4,_=>exact b4)
  (λi hi=>by
   match i,hi with
   | 0,_=>exact n0
   | 1,_=>exact n1
   | 2,_=>exact n2
   | 3,_=>exact n3
   | 4,_=>exact n4)
  (by rw[Jo];simp only[Qc];omega) (by rw[Jo];exact hl)
 rw[Jo] at this;exact this
theorem MJ (t:ByteArray) (u:Value) (s:List (Int × Int)) (w:World) (h:Sps w u s) (hg:Gs s) (ht:t.size<=64) (hl:s.length<=65536) (hT:Tab w) :
 Calls prog 115 #[.agg #[.string t,u]] w λe w'=>∃v',e=.returned (.tuple #[v',.int .i64 0])∧w'.ownsRow w.heap.size 5 1 v' (ENCC (sb t) s).1.length ((ENCC (sb t) s).1.map (Value.int .u8))∧N0 w w':=by
 rw[Vd (by rw[QX];omega) hl];obtain⟨x8,h7⟩:=EX (e8c (s.map Prod.fst));obtain⟨h2,h4⟩:=EX (e11c (s.map Prod.snd));rw[<-h7,<-h4];have X8:=Qa h7;have hf:=Qa h4;clear h7 h4;have HS:=Qa h;have HG:=Qa hg;have HT:=Qa hT;have hcv:=ZK t;obtain⟨ao,cap,rfl⟩:=h.len;obtain⟨n,hn⟩:=EX s.length;rw[<-hn] at hl HS;rw[<-hn];have HN:=Qa hn
 have d1:decide (64<(t.size:Int))=false:=by simp;omega
 have d2:decide (64<t.size)=false:=by simp;omega
 have d3:decide (65536<(n:Int))=false:=by simp;omega
 have d4:decide (65536<n)=false:=by simp;omega
 have oa:N0 w (w.alloc (.cells #[.string t,.slice ao n cap] 61)):=(Only.refl _ _).alloc _;have AP:=Qa (IV (.slice ao n cap) s _ (HS.o.past oa) (by rw[<-hn];exact hl));have OA:=Qa oa;clear h hg hT hn oa;go_enter func115,ntmps115;go_wp2_with fail;refine AP.o.mono ?_;rintro e w1 ⟨u1,u2,rfl,b1,b2,o1⟩;obtain⟨a1,c1,e1⟩:=b1.len;obtain⟨a2,c2,e2⟩:=b2.len;subst e1 e2;have T1:=HT.o.past (OA.o.same o1);have B2:=Qa b2
 have hs:N0 (w.alloc (.cells #[.string t,.slice ao n cap] 61)) w1∧w1.cell? ⟨w.heap.size,0,none⟩=some (.string t)∧w1.cell? ⟨w.heap.size,1,none⟩=some (.slice ao n cap) :=
  Zc ⟨Only.refl _ _,by go_cell,by go_cell⟩ o1
 have E8:=Qa (qz _ _ w1 b1 HG.o.1)
 have e8:(ENC8 (s.map Prod.fst)).2=0:=by unfold ENC8;rw[if_neg (by rw[List.length_map,<-HN.o];omega)]
 have ho:(ENC11 (s.map Prod.snd)).2=0:=by unfold ENC11;rw[if_neg (by rw[List.length_map,<-HN.o];omega)]
 have l8:(e8c (s.map Prod.fst)).length<=600000:=by
  have:=(Nj (l:=s.map Prod.fst) (by rw[List.length_map,<-HN.o];exact hl)).1;rw[List.length_map,<-HN.o] at this
  show (ENC8 (s.map Prod.fst)).1.length<=600000
  omega
 have hp:(e11c (s.map Prod.snd)).length<=600000:=by
  have:=(Lg (l:=s.map Prod.snd) (by rw[List.length_map,<-HN.o];exact hl)).1;rw[List.length_map,<-HN.o] at this
  show (ENC11 (s.map Prod.snd)).1.length<=600000
  omega
 rw[e8] at E8
 have hr:Hid (∀W,N0 w1 W->Calls prog 157 #[.slice a2 (s.map Prod.snd).length c2] W λe w'=>∃u,e=.returned (.tuple #[u,.int .i64 0])∧w'.ownsRow W.heap.size 5 1 u (e11c (s.map Prod.snd)).length ((e11c (s.map Prod.snd)).map (Value.int .u8))∧N0 W w'):=by
  intro W o;have:=FC (.slice a2 (s.map Prod.snd).length c2) (s.map Prod.snd) W (B2.o.past o) HG.o.2 (T1.past o);rw[ho] at this;exact this
 have O1:=Qa (OA.o.same o1);have hh:=Qa hs;have L8:=Qa l8;have h6:=Qa hp;have eB:=EX w.heap.size;clear b1 b2 o1 AP hs T1 e8 ho l8 hp HS OA HT;generalize (s.map Prod.fst).length=n1 at *;generalize (s.map Prod.snd).length=n2 at *;go_wp2_with fail;refine E8.o.mono ?_;rintro e w2 ⟨v8,rfl,h1,o2⟩;obtain⟨a8,c8,e1⟩:=(Bs.of_own h1).len;subst e1;have B8:Hid (Bs .u8 w2 (.slice a8 (ENC8 (s.map Prod.fst)).1.length c8) (e8c (s.map Prod.fst))∧NoCap (.slice a8 (ENC8 (s.map Prod.fst)).1.length c8)):=⟨Bs.of_own h1,NoCap.of_own h1⟩;have O2:=Qa (O1.o.same o2);have hk:=Qa (Zc hh.o o2);have EV:=Qa (hr.o w2 o2);clear h1 o2 E8 hr hh;generalize (ENC8 (s.map Prod.fst)).1.length=m8 at *;go_wp2_with fail;refine EV.o.mono ?_;rintro e w3 ⟨v11,rfl,h0,o3⟩;obtain⟨hj,hq,e1⟩:=(Bs.of_own h0).len;subst e1;have hb:Hid (Bs .u8 w3 (.slice a8 m8 c8) (e8c (s.map Prod.fst))∧NoCap (.slice a8 m8 c8)):=⟨B8.o.1.past o3,B8.o.2⟩;have h8:Hid (Bs .u8 w3 (.slice hj (e11c (s.map Prod.snd)).length hq) (e11c (s.map Prod.snd))∧NoCap (.slice hj (e11c (s.map Prod.snd)).length hq)):=⟨Bs.of_own h0,NoCap.of_own h0⟩;have O3:=Qa (O2.o.same o3);have HC3:=(Zc hk.o o3).2;clear h0 o3 EV hk B8;rw[<-X8.o] at hb L8;rw[<-hf.o] at h8 h6;rw[<-hf.o];generalize hm11:h2.length=m11 at *;have h3:=Qa hm11;clear hm11 HG
 have HLL:Hid (([1]++(blk (sb t)++(gs n++(blk x8++blk h2)))).length<=140737488355328):=by
  have q1:=Ut (sb t) (by rw[QX];omega);have q2:=Ut x8 (by have:=L8.o;omega);have q3:=Ut h2 (by have:=h6.o;have:=h3.o;omega);have q4:=Q6 (v:=n) (by omega);have q5:=L8.o;have q6:=h6.o;have q7:=h3.o;rw[QX] at q1;simp only[Hid,Qc,Qi,List.length_nil];omega
 have hwn:IntKind.u64.wrap (n:Int)=n:=by rw[IntKind.wrap_u64];omega
 obtain⟨he,hm⟩:=HC3;clear O1 O2;go_wp2_with fail;have hS3:N0 w3 w3∧w3.cell? ⟨w.heap.size,0,none⟩=some (Value.string t)∧w3.cell? ⟨w.heap.size,1,none⟩=some (Value.slice ao n cap):=⟨Only.refl _ _,he,hm⟩;clear he hm
 go_region_held (λW=>N0 w3 W∧W.cell? ⟨w.heap.size,0,none⟩=some (Value.string t)∧W.cell? ⟨w.heap.size,1,none⟩=some (Value.slice ao n cap)) ((refine Zc hS3 ?_;(repeat (first | with_reducible exact Only.refl _ _ | assumption|(with_reducible refine Only.drew ?_)|(with_reducible refine Only.alloc ?_ _)|(with_reducible apply Only.same;case k=>assumption)))))
  (first
   | (go_at_call 51;refine (Um (.slice none 0 0) [] n _ (Bs.nil _ _) NoCap.nil (by simp) (by omega) (by omega)).mono ?_;rintro e wv ⟨vv,rfl,h5,ov⟩;rw[List.nil_append,Int.toNat_natCast] at h5;(obtain⟨av,cv,ev⟩:=(Bs.of_own h5).len);subst ev)
   | (go_at_call_of 21 (t.size);refine (Wb _ (sb t) _ (Zx (by (repeat (first | (with_reducible refine YV ?_;simp;done) | (with_reducible refine VK ?_) | (with_reducible refine Yr ?_)))) (grownCap_ge _ _ _ _)) (NoCap.some _ _ _) (by rw[QX];omega)).mono ?_;rintro e wt ⟨vt,rfl,h9,ot⟩;(obtain⟨at1,ct,et⟩:=(Bs.of_own h9).len);subst et)
   | (go_at_call_of 21 m8;refine (Wb _ x8 _ (hb.o.1.past (by (repeat (first | with_reducible exact Only.refl _ _ | assumption | (with_reducible refine Only.drew ?_) | (with_reducible refine Only.alloc ?_ _) | (with_reducible apply Only.same;case k=>assumption))))) hb.o.2 (by have:=L8.o;omega)).mono ?_;rintro e w8 ⟨v8,rfl,h1,o8⟩;(obtain⟨ab8,cb8,eb8⟩:=(Bs.of_own h1).len);subst eb8)
   | (go_at_call_of 21 m11;refine (Wb _ h2 _ (h8.o.1.past (by (repeat (first | with_reducible exact Only.refl _ _ | assumption | (with_reducible refine Only.drew ?_) | (with_reducible refine Only.alloc ?_ _) | (with_reducible apply Only.same;case k=>assumption))))) h8.o.2 (by have:=h6.o;have:=h3.o;omega)).mono ?_;rintro e wp ⟨vp,rfl,hd,op⟩;(obtain⟨ap,cp,ep⟩:=(Bs.of_own hd).len);subst ep)
   | (go_at_call 22;refine Calls.mono (Sb (l0:=[1]) (l1:=blk (sb t)) (l2:=gs n) (l3:=blk x8) (l4:=blk h2) (by (repeat (first | (with_reducible refine YV ?_;simp;done) | (with_reducible refine VK ?_) | (with_reducible refine Yr ?_)))) (by (repeat (first | (with_reducible refine Ov ?_;(repeat (first | (with_reducible refine YV ?_;simp;done) | (with_reducible refine VK ?_) | (with_reducible refine Yr ?_)));done) | (with_reducible refine Bs.past ?_ ((Only.refl _ _).drew)) | (with_reducible refine Bs.past ?_ ((Only.refl _ _).alloc _)) | (with_reducible apply Bs.past;case o=>assumption)))) (by (repeat (first | (with_reducible apply Bs.of_own;assumption) | (with_reducible refine Bs.past ?_ ((Only.refl _ _).drew)) | (with_reducible refine Bs.past ?_ ((Only.refl _ _).alloc _)) | (with_reducible apply Bs.past;case o=>assumption)))) (by (repeat (first | (with_reducible apply Bs.of_own;assumption) | (with_reducible refine Bs.past ?_ ((Only.refl _ _).drew)) | (with_reducible refine Bs.past ?_ ((Only.refl _ _).alloc _)) | (with_reducible apply Bs.past;case o=>assumption)))) (by (repeat (first | (with_reducible apply Bs.of_own;assumption) | (with_reducible refine Bs.past ?_ ((Only.refl _ _).drew)) | (with_reducible refine Bs.past ?_ ((Only.refl _ _).alloc _)) | (with_reducible apply Bs.past;case o=>assumption)))) (by (repeat (first | (with_reducible apply Bs.of_own;assumption) | (with_reducible refine Bs.past ?_ ((Only.refl _ _).drew)) | (with_reducible refine Bs.past ?_ ((Only.refl _ _).alloc _)) | (with_reducible apply Bs.past;case o=>assumption)))) (NoCap.some _ _ _) (by (with_reducible exact NoCap.of_own (by assumption))) (by (with_reducible exact NoCap.of_own (by assumption))) (by (with_reducible exact NoCap.of_own (by assumption))) (by (with_reducible exact NoCap.of_own (by assumption))) (by simp) HLL.o) ?_;rintro e wc ⟨vc,rfl,ha,oc⟩))
 all_goals
  go_wp2;go_ret2;refine⟨vc,rfl,Qu (show World.ownsRow _ _ _ _ _ (1 :: (blk (sb t)++(gs n++(blk x8++blk h2)))).length ((1 :: (blk (sb t)++(gs n++(blk x8++blk h2)))).map (Value.int .u8)) from ha) (Nat.le_trans O3.o.size (Only.size (S:=λ_=>False) ?_)),Only.same O3.o ?_⟩
  all_goals (repeat (first | with_reducible exact Only.refl _ _ | assumption|(with_reducible refine Only.drew ?_)|(with_reducible refine Only.alloc ?_ _)|(with_reducible apply Only.same;case k=>assumption)))
theorem IE (t:ByteArray) (u:Value) (s:List (Int × Int)) (w:World) (h:Sps w u s) (hg:Gs s) (hm:s.length<=maxLen) (hm2:t.size<=maxLen) (hT:Tab w) :
 Calls prog 115 #[.agg #[.string t,u]] w λe w'=>∃v',e=.returned (.tuple #[v',.int .i64 (ENCC (sb t) s).2])∧w'.ownsRow w.heap.size 5 1 v' (ENCC (sb t) s).1.length ((ENCC (sb t) s).1.map (Value.int .u8))∧N0 w w':=by
 by_cases hl:64<t.size∨65536<s.length
 ·rw[JP (by rw[QX];exact hl)]
  refine (yR t u s w h hl hm hm2).mono ?_;rintro e w' ⟨rfl,o⟩;exact⟨_,rfl,World.ownsRow_nil _ _ _ _,o⟩
 ·have e:(ENCC (sb t) s).2=0:=by rw[Vd (by rw[QX];omega) (by omega)]
  rw[e];exact MJ t u s w h hg (by omega) (by omega) hT
end
end Go.Proofs.YtoflhbghdlaeaaaGreatDoor
