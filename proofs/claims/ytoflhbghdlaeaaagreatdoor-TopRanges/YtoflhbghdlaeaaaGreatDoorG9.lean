import Derived.Test.YtoflhbghdlaeaaaGreatDoorG8
namespace Go.Proofs.YtoflhbghdlaeaaaGreatDoor
set_option maxHeartbeats 4000000
set_option maxRecDepth 100000
open Go.RowKit _root_.Go.Proofs.Tryz
section
open Go.Shelf
attribute [local go_sem] Oper.semAt_some
theorem Bz (w:World) (c:Nat) (hc:c<=100000):(Instr.makeSlice 23 (.int .i64 0) (.int .i64 (c:Int))).run prog w=.ok (.slice (some ⟨w.heap.size,0,none⟩) 0 c) (w.alloc (.cells (bl (List.replicate c 0)).toArray 5)):=by
 obtain⟨i0,hi,hz0,hz1,hz2⟩:=info_parts Tryz.infoU8;have:=run_make (P:=prog) w 23 5 i0 (.int .u8 0) underlying23 hi hz0 .i64 .i64 0 c (by omega) (by omega) (by rw[hz2];omega) (by omega)
 have e:madeCells (Value.int .u8 0).cells ((c:Int).toNat*i0.size)=(bl (List.replicate c 0)).toArray:=by
  apply Array.toList_inj.1
  rw[show (Value.int .u8 0).cells=#[.int .u8 0] from rfl,toList_madeCells_one];simp[bl,hz1]
 rw[e] at this;exact this
theorem Lc (key info:LI) (n s:Nat) (h:n<=32*s):(tcat key info s).take n=EXPL key info n:=by
 unfold EXPL;obtain⟨d,hd⟩:∃d,s=(n+31) / 32+d:=⟨s - (n+31) / 32,by omega⟩;rw[hd,<-qT key info ((n+31) / 32) d,List.take_take,Nat.min_eq_left (by omega)]
def Oq (W0:World) (Bx Gr lo n:Nat) (A:World) (m:Nat) (xs:LI):Prop :=
 Only (λk=>k=Bx∨k=Gr) W0 A∧Boxed A Bx 23 (.slice (some ⟨Gr,0,none⟩) m n)∧A.ownsRow lo 5 1 (.slice (some ⟨Gr,0,none⟩) m n) m (xs.map (Value.int .u8))
theorem Oq.past {W0:World} {Bx Gr lo n m:Nat} {A B:World} {xs:LI} (h:Oq W0 Bx Gr lo n A m xs) (o:N0 A B):Oq W0 Bx Gr lo n B m xs :=
 ⟨h.1.trans o (λ_ _ f=>f.elim),QI h.2.1 o (λf=>f),o.own h.2.2 (λ_ _ f=>f)⟩
theorem Oq.loop {W0:World} {Bx Gr lo n m:Nat} {A B:World} {xs:LI} (h:Oq W0 Bx Gr lo n A m xs) {L:Nat} (o:Only (λk=>k=L) A B) (hL:W0.heap.size<=L) (hx:Bx<W0.heap.size) (hr:Gr<W0.heap.size):Oq W0 Bx Gr lo n B m xs :=
 ⟨h.1.trans o (λk hk e=>by omega),QI h.2.1 o (by omega),o.own h.2.2 (λk hk e=>by simp[Value.ownBlock] at hk;omega)⟩
theorem Oq.stored {W0 W w4:World} {Bx Gr lo n m m':Nat} {xs ys:LI} (h:Oq W0 Bx Gr lo n W m xs) (hne:Bx≠Gr) (hx:Bx<W0.heap.size) (hr:Gr<W0.heap.size)
 (own:w4.ownsRow lo 5 1 (.slice (some ⟨Gr,0,none⟩) m' n) m' (ys.map (Value.int .u8))) (hg:W.drew.grownBy w4 (some Gr)) :
 Only (λk=>k<W0.heap.size) W (w4.setCell ⟨Bx,0,none⟩ (.slice (some ⟨Gr,0,none⟩) m' n))∧Oq W0 Bx Gr lo n (w4.setCell ⟨Bx,0,none⟩ (.slice (some ⟨Gr,0,none⟩) m' n)) m' ys:=by
 have o4:Only (λk=>k=Gr) W w4:=((Only.refl (λk=>k=Gr) W).drew).grown hg (λk _ e=>by cases e;rfl);have o5:Only (λk=>k=Bx) w4 (w4.setCell ⟨Bx,0,none⟩ (.slice (some ⟨Gr,0,none⟩) m' n)):=(Only.refl (λk=>k=Bx) w4).setCell (p:=⟨Bx,0,none⟩) (λ_=>rfl) _;refine⟨(o4.mono (T:=λk=>k<W0.heap.size) (λk _ e=>by omega)).trans o5 (λk _ e=>by omega),?_,(QI h.2.1 o4 (by omega)).set _,o5.own own (λk hk e=>by simp[Value.ownBlock] at hk;omega)⟩;exact (h.1.trans o4 (λk _ e=>.inr e)).trans o5 (λk _ e=>.inl e)
theorem Is (aov:Option Addr) (lv cv:Nat) (aou:Option Addr) (lu cu:Nat) (key info:LI) (n:Nat) (w:World) (hb:Bs .u8 w (.slice aov lv cv) key) (h8:U8 key) (hk:key.length<=1000000000) (hu:Bs .u8 w (.slice aou lu cu) info) (ka:U8 info) (hl:info.length<=1000000000) (hn:n<=8160) :
 Calls prog 111 #[.slice aov lv cv,.slice aou lu cu,.int .i64 (n:Int)] w λe w'=>∃r,e=.returned (.tuple #[r,.int .i64 0])∧w'.ownsRow w.heap.size 5 1 r n ((EXPL key info n).map (Value.int .u8))∧N0 w w':=by
 obtain⟨i0,hi,hz0,kc,hz2⟩:=info_parts Tryz.infoU8;have HB:=Qa (And.intro hb (And.intro h8 (And.intro hk (And.intro hu (And.intro ka hl)))));have d1:decide ((n:Int)<0)=false:=Qb (by omega);have d2:decide ((8160:Int)<(n:Int))=false:=Qb (by omega);have d2':decide (8160<n)=false:=Qb (by omega);obtain⟨Z,hZ⟩:=EX ((bl (List.replicate n 0)).toArray);have hmk:=Bz (w.alloc (.cells #[.int .i64 (n:Int)] 3)) n (by omega);rw[<-hZ,size_alloc] at hmk;have HZ:=Qa hZ;clear hb h8 hk hu ka hl hZ;refine (callsIn_wide (n:=5)).1 ?_;refine callsIn_of_wp_marks func111 rfl trivial ?_ rfl;simp only[ntmps111,List.size_toArray,Qi,List.length_nil,Nat.reduceAdd,Nat.reduceSub,Array.replicate_succ,Array.replicate_zero,List.push_toArray,List.append_toArray,List.nil_append,List.cons_append]
 gi_wp2_with fail
 refine⟨trivial,(wa _ _ _ _ _ _ _ _).mono ?_⟩;rintro e w2 ⟨rfl,rfl⟩
 gi_wp2_with fail
 obtain⟨W0,h9⟩:∃W0,((((w.alloc (.cells #[.int .i64 (n:Int)] 3)).alloc (.cells Z 5)).alloc (.cells #[.slice (some ⟨w.heap.size+1,0,none⟩) 0 n] 23)).alloc (.cells #[.slice aov lv cv] 23)).alloc (.cells #[.slice aou lu cu] 23)=W0:=⟨_,rfl⟩
 have o0:N0 w W0:=by rw[<-h9];exact (((((Only.refl _ w).alloc _).alloc _).alloc _).alloc _).alloc _
 have hy:W0.heap.size=w.heap.size+1+1+1+1+1:=by rw[<-h9];simp
 have bN:Boxed W0 w.heap.size 3 (.int .i64 (n:Int)):=by rw[<-h9];exact ((((Boxed.new w 3 (.int .i64 (n:Int))).alloc _).alloc _).alloc _).alloc _
 have bX:Boxed W0 (w.heap.size+1+1) 23 (.slice (some ⟨w.heap.size+1,0,none⟩) 0 n):=by
  have h:=((Boxed.new ((w.alloc (.cells #[.int .i64 (n:Int)] 3)).alloc (.cells Z 5)) 23 (.slice (some ⟨w.heap.size+1,0,none⟩) 0 n)).alloc (.cells #[.slice aov lv cv] 23)).alloc (.cells #[.slice aou lu cu] 23);rw[World.size_alloc,World.size_alloc,h9] at h;exact h
 have bK:Boxed W0 (w.heap.size+1+1+1) 23 (.slice aov lv cv):=by
  have h:=(Boxed.new (((w.alloc (.cells #[.int .i64 (n:Int)] 3)).alloc (.cells Z 5)).alloc (.cells #[.slice (some ⟨w.heap.size+1,0,none⟩) 0 n] 23)) 23 (.slice aov lv cv)).alloc (.cells #[.slice aou lu cu] 23);rw[World.size_alloc,World.size_alloc,World.size_alloc,h9] at h;exact h
 have bI:Boxed W0 (w.heap.size+1+1+1+1) 23 (.slice aou lu cu):=by
  have h:=Boxed.new ((((w.alloc (.cells #[.int .i64 (n:Int)] 3)).alloc (.cells Z 5)).alloc (.cells #[.slice (some ⟨w.heap.size+1,0,none⟩) 0 n] 23)).alloc (.cells #[.slice aov lv cv] 23)) 23 (.slice aou lu cu);rw[World.size_alloc,World.size_alloc,World.size_alloc,World.size_alloc,h9] at h;exact h
 have bG:Blk W0 (w.heap.size+1) 5 (bl (List.replicate n 0)):=by
  have h:=(((Blk.new (w.alloc (.cells #[.int .i64 (n:Int)] 3)) 5 (bl (List.replicate n 0))).alloc (.cells #[.slice (some ⟨w.heap.size+1,0,none⟩) 0 n] 23)).alloc (.cells #[.slice aov lv cv] 23)).alloc (.cells #[.slice aou lu cu] 23);rw[<-HZ.o,World.size_alloc,h9] at h;exact h
 have oG:W0.ownsRow w.heap.size 5 1 (.slice (some ⟨w.heap.size+1,0,none⟩) 0 n) 0 ([]:List Value):=by
  have h:=T5 (base:=w.heap.size) (n:=0) (cap:=n) bG (by omega) (Nat.zero_le _) (by simp only[maxLen];omega) (by rw[Qs,List.length_replicate]);rw[List.take_zero] at h;exact h
 rw[h9];have HI0:(0=0∨32*0<n)∧Oq W0 (w.heap.size+1+1) (w.heap.size+1) w.heap.size n W0 (32*0) (tcat key info 0):=⟨.inl rfl,Only.refl _ _,bX,oG⟩
 refine Jz (c:=.exit 0) (gf:=186) (lb:=#[.pointer (some ⟨w.heap.size+1+1+1,0,none⟩),.pointer (some ⟨w.heap.size+1+1+1+1,0,none⟩)]) rfl (enters_of func186 (by kernel_rfl) rfl)
  (λx:Nat × Nat=>#[.slice (some ⟨x.1,0,none⟩) 32 x.2]) (λ_=>rfl)
  (λs A=>(s=0∨32*s<n)∧Oq W0 (w.heap.size+1+1) (w.heap.size+1) w.heap.size n A (32*s) (tcat key info s))
  (λ_ A=>Oq W0 (w.heap.size+1+1) (w.heap.size+1) w.heap.size n A n (EXPL key info n))
  (λs x s' A=>s'=s+1∧s<255∧Bs .u8 A (.slice (some ⟨x.1,0,none⟩) 32 x.2) (tpc key info (s+1))∧W0.heap.size+2<=x.1) 0 255
  (λs A B r hi hl o=>⟨hi.1,hi.2.loop o (by omega) (by omega) (by omega)⟩) (λs A B r hi hl o=>Oq.loop hi o (by omega) (by omega) (by omega)) (λs A B hi o=>⟨hi.1,hi.2.past o⟩)
  (λs x s' A B r hv hl o=>⟨hv.1,hv.2.1,hv.2.2.1.loop hl o,hv.2.2.2⟩) HI0
  ?hit (λx=>{ tmps:=#[.slice aov lv cv,.slice aou lu cu,.int .i64 (n:Int),undef,undef,.pointer (some ⟨w.heap.size,0,none⟩),.slice none 0 0,.int .i64 0,.pointer (some ⟨w.heap.size+1+1,0,none⟩),.slice (some ⟨x.1,0,none⟩) 32 x.2,.int .i64 (n:Int),.bool false,.bool false,.int .i64 (n:Int),.bool false,.bool false,.int .i64 (n:Int),.slice (some ⟨w.heap.size+1,0,none⟩) 0 n,.slice aov lv cv,.slice aou lu cu,.func (.func 186) #[] #[.pointer (some ⟨w.heap.size+1+1+1,0,none⟩),.pointer (some ⟨w.heap.size+1+1+1+1,0,none⟩)],.slice (some ⟨x.1,0,none⟩) 32 x.2,undef,undef,undef,undef,undef,undef,undef,undef,undef,undef,undef,undef,undef,undef,undef,undef],defers:=[] }) ?assign ?body ?done ?stop
 case hit =>
  intro J Jx W hJ hJo hY h0 hW;refine SM 4 (W0.heap.size+1) (w.heap.size+1+1+1) (w.heap.size+1+1+1+1) W0.heap.size (.slice aov lv cv) aou lu cu key info HB.o.2.1 (by have:=HB.o.2.2.1;omega) HB.o.2.2.2.2.1 HB.o.2.2.2.2.2 J Jx (λs A hs=>?_) hJo (λs g c A h3 hs hb hg=>hY s (g,c) (s+1) A hs ⟨rfl,h3,hb,hg⟩) W h0 hW;have o:=(hJ s A hs).2.1;have o':N0 w A:=o0.trans o (λk hk e=>by omega);exact⟨QI bK o (by omega),QI bI o (by omega),HB.o.1.past o',HB.o.2.2.2.1.past o'⟩
 case assign =>
  intro x W K hK
  gi_wp2
  exact hK
 case body =>
  rintro s ⟨g,cp⟩ s' W ⟨hs,hq⟩ ⟨rfl,k1,hd,hg⟩;simp only at hd hg;have hj:=hq.2.1.cell;have k6:=(QI bN hq.1 (by omega)).cell
  have k5:32<=cp:=by
   obtain⟨_,_,e,h,_⟩:=hd;simp at e;obtain⟨_,_,rfl⟩:=e;rw[VH] at h;exact h
  obtain⟨a,ha⟩:=EX (32*s);have HA:=Qa ha
  have k0:a<=n:=by omega
  rw[<-ha] at hj hq;obtain⟨XS,hp⟩:=EX (tcat key info s);rw[<-hp] at hq;have HXS:=Qa hp
  have hT:tcat key info (s+1)=XS++tpc key info (s+1):=by rw[hp];rfl
  have HT:=Qa hT;have k4:(tpc key info (s+1)).length=32:=VH _ _ _;obtain⟨T,k2⟩:=EX (tpc key info (s+1));rw[<-k2] at hd k4 HT;have HQ:=Qa hq;have HS:=Qa (And.intro hs (And.intro k1 hg));have hz:=Qa hy
  have h32:(32:Int)<=(cp:Int):=by omega
  obtain⟨r,hr⟩:∃r:Nat,r=n - a:=⟨_,rfl⟩
  have hf:(n:Int) - (a:Int)=(r:Int):=by omega
  have HR:=Qa (And.intro hr k0)
  have hwr:IntKind.i64.wrap (r:Int)=(r:Int):=by rw[IntKind.wrap_i64];omega
  by_cases hmin:r<32
  ·have HC:Hid ((((T.take r).map (Value.int .u8)).length=r*1)∧∀j v,((T.take r).map (Value.int .u8))[j]? = some v->W.drew.cell? ((⟨g,0,none⟩:Addr).add j)=some v):=by
    refine⟨by rw[List.length_map,Qf,k4];omega,?_⟩;exact (hd.head (n:=r) (by omega)).news
   have he:Hid (a+r<=n):=by show _<=_;omega
   have m1:(r:Int)<32:=by omega
   have m2:¬(32:Int)<(r:Int):=by omega
   have m3:(r:Int)<=(cp:Int):=by omega
   have dm:decide ((r:Int)<32)=true:=Qe m1;clear hs hq hd hg ha k0 hp hT k2 hy hr k5
   gi_wp2_with fail
   refine wpIn_mono (Q:=Exit.then (λa1 W1=>a1={ tmps:=#[.slice aov lv cv,.slice aou lu cu,.int .i64 (n:Int),undef,undef,.pointer (some ⟨w.heap.size,0,none⟩),.slice none 0 0,.int .i64 0,.pointer (some ⟨w.heap.size+1+1,0,none⟩),.slice (some ⟨g,0,none⟩) 32 cp,.int .i64 (n:Int),.bool false,.bool false,.int .i64 (n:Int),.bool false,.bool false,.int .i64 (n:Int),.slice (some ⟨w.heap.size+1,0,none⟩) 0 n,.slice aov lv cv,.slice aou lu cu,.func (.func 186) #[] #[.pointer (some ⟨w.heap.size+1+1+1,0,none⟩),.pointer (some ⟨w.heap.size+1+1+1+1,0,none⟩)],.slice (some ⟨g,0,none⟩) 32 cp,.slice (some ⟨w.heap.size+1,0,none⟩) a n,.slice (some ⟨g,0,none⟩) 32 cp,.slice (some ⟨g,0,none⟩) 32 cp,.int .i64 32,.int .i64 (n:Int),.slice (some ⟨w.heap.size+1,0,none⟩) a n,.int .i64 (a:Int),.int .i64 (r:Int),.int .i64 (r:Int),.slice (some ⟨g,0,none⟩) r cp,.slice (some ⟨w.heap.size+1,0,none⟩) (a+r) n,undef,undef,undef,undef,undef],defers:=[] }∧∃w4,w4.ownsRow w.heap.size 5 1 (.slice (some ⟨w.heap.size+1,0,none⟩) (a+r) n) (a+r) (XS.map (Value.int .u8)++(T.take r).map (Value.int .u8))∧W.drew.grownBy w4 (some (w.heap.size+1))∧W1=w4.setCell ⟨w.heap.size+1+1,0,none⟩ (.slice (some ⟨w.heap.size+1,0,none⟩) (a+r) n)) (λ_ _ _=>False)) ?hr ?hq
   case hr =>
    refine Nm 10 (by kernel_rfl) (λ⟨_,_,h⟩=>h) (by kernel_rfl) (by kernel_rfl) ?_;simp only[List.take_succ_cons,List.take_zero,List.drop_succ_cons,List.drop_zero]
    repeat still_step
    refine wpStill_nil ?_;refine wpList_append_fits _ rfl _ _ 23 rfl w.heap.size 5 i0 1 underlying23 hi kc (w.heap.size+1) a n (XS.map (Value.int .u8)) rfl HQ.o.2.2 ⟨g,0,none⟩ r cp ((T.take r).map (Value.int .u8)) rfl HC.o.1 HC.o.2 (K9 _ _) he.o ?_;intro w4 h5 h4;have hc4:w4.cell? ⟨w.heap.size+1+1,0,none⟩=some (.slice (some ⟨w.heap.size+1,0,none⟩) a n):=(World.cell?_of_block (h4.block (w.heap.size+1+1) HQ.o.2.1.lt (λe=>by have:=Option.some.inj e;omega))).trans hj;have hf4:w4.frozen? ⟨w.heap.size+1+1,0,none⟩=false:=((show Boxed W.drew (w.heap.size+1+1) 23 (.slice (some ⟨w.heap.size+1,0,none⟩) a n) from HQ.o.2.1).kept (W':=w4) h4 (λe=>by have:=Option.some.inj e;omega)).frozen;go_wp2;exact⟨trivial,w4,h5,h4,rfl⟩
   intro ex a1 W1 h
   cases ex
   all_goals first | exact False.elim h | skip
   obtain⟨rfl,w4,h5,h4,rfl⟩:=h
   have hh:w.heap.size+1+1≠w.heap.size+1:=by omega
   have h6:=HQ.o.stored (m':=a+r) (ys:=XS++T.take r) hh (by have:=hz.o;omega) (by have:=hz.o;omega) (by rw[List.map_append];exact h5) h4;obtain⟨W5,ht⟩:=EX (w4.setCell ⟨w.heap.size+1+1,0,none⟩ (.slice (some ⟨w.heap.size+1,0,none⟩) (a+r) n));rw[<-ht] at h6 ⊢;have ho:=h6.2.2.1.cell;have hn5:=(QI bN h6.2.1 (by omega)).cell;have h7:=Qa h6;clear h6 ht h5 h4 hj k6 HQ HC
   have e1:XS++T.take r=EXPL key info n:=by
    have h1:=HA.o;have h2:=HR.o
    have k7:XS.length=a:=by rw[HXS.o,Vw,h1]
    have hx:XS.take n=XS:=List.take_of_length_le (by rw[k7];exact h2.2);rw[<-Lc key info n (s+1) (by omega),HT.o,List.take_append,hx,k7,<-h2.1]
   have hw:a+r=n:=by have:=HR.o;omega
   rw[e1] at h7;obtain⟨m,hm⟩:=EX (a+r);rw[<-hm] at h7 ho hw ⊢
   have k9:((m:Int) == (n:Int))=true:=by rw[hw];simp
   have HM:=Qa hw;clear hm hw e1 hf
   gi_wp2
   refine⟨rfl,h7.o.1,?_⟩;have:=h7.o.2;rw[HM.o] at this;exact this
  ·have HC:Hid (((T.map (Value.int .u8)).length=32*1)∧∀j v,(T.map (Value.int .u8))[j]? = some v->W.drew.cell? ((⟨g,0,none⟩:Addr).add j)=some v):=by
    refine⟨by rw[List.length_map,k4],?_⟩;exact hd.news
   have he:Hid (a+32<=n):=by show _<=_;omega
   have m1:¬(r:Int)<32:=by omega
   have m2:(32:Int)<=(r:Int):=by omega
   have dm:(if (r:Int)<32 then (r:Int) else 32)=32:=if_neg m1;clear m1;clear hs hq hd hg ha k0 hp hT k2 hy hr k5
   gi_wp2_with fail
   refine wpIn_mono (Q:=Exit.then (λa1 W1=>a1={ tmps:=#[.slice aov lv cv,.slice aou lu cu,.int .i64 (n:Int),undef,undef,.pointer (some ⟨w.heap.size,0,none⟩),.slice none 0 0,.int .i64 0,.pointer (some ⟨w.heap.size+1+1,0,none⟩),.slice (some ⟨g,0,none⟩) 32 cp,.int .i64 (n:Int),.bool false,.bool false,.int .i64 (n:Int),.bool false,.bool false,.int .i64 (n:Int),.slice (some ⟨w.heap.size+1,0,none⟩) 0 n,.slice aov lv cv,.slice aou lu cu,.func (.func 186) #[] #[.pointer (some ⟨w.heap.size+1+1+1,0,none⟩),.pointer (some ⟨w.heap.size+1+1+1+1,0,none⟩)],.slice (some ⟨g,0,none⟩) 32 cp,.slice (some ⟨w.heap.size+1,0,none⟩) a n,.slice (some ⟨g,0,none⟩) 32 cp,.slice (some ⟨g,0,none⟩) 32 cp,.int .i64 32,.int .i64 (n:Int),.slice (some ⟨w.heap.size+1,0,none⟩) a n,.int .i64 (a:Int),.int .i64 (r:Int),.int .i64 32,.slice (some ⟨g,0,none⟩) 32 cp,.slice (some ⟨w.heap.size+1,0,none⟩) (a+32) n,undef,undef,undef,undef,undef],defers:=[] }∧∃w4,w4.ownsRow w.heap.size 5 1 (.slice (some ⟨w.heap.size+1,0,none⟩) (a+32) n) (a+32) (XS.map (Value.int .u8)++(T).map (Value.int .u8))∧W.drew.grownBy w4 (some (w.heap.size+1))∧W1=w4.setCell ⟨w.heap.size+1+1,0,none⟩ (.slice (some ⟨w.heap.size+1,0,none⟩) (a+32) n)) (λ_ _ _=>False)) ?hr2 ?hq2
   case hr2 =>
    refine Nm 10 (by kernel_rfl) (λ⟨_,_,h⟩=>h) (by kernel_rfl) (by kernel_rfl) ?_;simp only[List.take_succ_cons,List.take_zero,List.drop_succ_cons,List.drop_zero]
    repeat still_step
    refine wpStill_nil ?_;refine wpList_append_fits _ rfl _ _ 23 rfl w.heap.size 5 i0 1 underlying23 hi kc (w.heap.size+1) a n (XS.map (Value.int .u8)) rfl HQ.o.2.2 ⟨g,0,none⟩ 32 cp ((T).map (Value.int .u8)) rfl HC.o.1 HC.o.2 (K9 _ _) he.o ?_;intro w4 h5 h4;have hc4:w4.cell? ⟨w.heap.size+1+1,0,none⟩=some (.slice (some ⟨w.heap.size+1,0,none⟩) a n):=(World.cell?_of_block (h4.block (w.heap.size+1+1) HQ.o.2.1.lt (λe=>by have:=Option.some.inj e;omega))).trans hj;have hf4:w4.frozen? ⟨w.heap.size+1+1,0,none⟩=false:=((show Boxed W.drew (w.heap.size+1+1) 23 (.slice (some ⟨w.heap.size+1,0,none⟩) a n) from HQ.o.2.1).kept (W':=w4) h4 (λe=>by have:=Option.some.inj e;omega)).frozen;go_wp2;exact⟨trivial,w4,h5,h4,rfl⟩
   intro ex a1 W1 h
   cases ex
   all_goals first | exact False.elim h | skip
   obtain⟨rfl,w4,h5,h4,rfl⟩:=h
   have hh:w.heap.size+1+1≠w.heap.size+1:=by omega
   have h6:=HQ.o.stored (m':=a+32) (ys:=XS++T) hh (by have:=hz.o;omega) (by have:=hz.o;omega) (by rw[List.map_append];exact h5) h4;obtain⟨W5,ht⟩:=EX (w4.setCell ⟨w.heap.size+1+1,0,none⟩ (.slice (some ⟨w.heap.size+1,0,none⟩) (a+32) n));rw[<-ht] at h6 ⊢;have ho:=h6.2.2.1.cell;have hn5:=(QI bN h6.2.1 (by omega)).cell;have h7:=Qa h6;clear h6 ht h5 h4 hj k6 HQ HC;rw[<-HT.o] at h7
   have k3:32*(s+1)=a+32:=by have:=HA.o;omega
   by_cases heq:a+32=n
   ·have e1:tcat key info (s+1)=EXPL key info n:=by
     rw[<-Lc key info n (s+1) (by omega),List.take_of_length_le (by rw[Vw];omega)]
    rw[e1] at h7;obtain⟨m,hm⟩:=EX (a+32);rw[<-hm] at h7 ho heq ⊢
    have k9:((m:Int) == (n:Int))=true:=by rw[heq];simp
    have HM:=Qa heq;clear hm heq e1 hf k3
    gi_wp2
    refine⟨rfl,h7.o.1,?_⟩;have:=h7.o.2;rw[HM.o] at this;exact this
   ·have k8:32*(s+1)<n:=by have:=HR.o;omega
    have HLT:=Qa k8;rw[<-k3] at h7 ho ⊢;obtain⟨m,hm⟩:=EX (32*(s+1));rw[<-hm] at h7 ho ⊢
    have k9:((m:Int) == (n:Int))=false:=by rw[beq_eq_false_iff_ne];omega
    have HM:=Qa hm;clear hm heq hf k3 k8
    gi_wp2
    refine⟨h7.o.1,.inr HLT.o,?_⟩;rw[<-HM.o];exact h7.o.2
 case done =>
  intro W hi hD
  rcases hi.1 with h | h
  ·cases h
  ·exact absurd h (by omega)
 case stop =>
  intro s W hi hD;rw[hy] at hD;have hc:=hi.2.1.cell;have HO:=Qa hi.2.2;have O1:=Qa hi.1;have HD:=Qa hD;clear hi hD
  gi_wp2
  refine⟨by simp,.inl ⟨_,_,rfl,run_takeDeferred HD.o,?_⟩⟩;refine⟨.tuple #[.slice (some ⟨w.heap.size+1,0,none⟩) n n,.int .i64 0],?_,_,rfl,ownsRow_putObj HO.o _ HD.o rfl,?_⟩
  ·simp[results,Tryz.f111,go_sem]
  ·exact (o0.trans O1.o (λk hk e=>by omega)).putObj _ _ (λhk=>by omega)
end
theorem Cq (vk:Value) (key:LI) (p:Int) (t:ByteArray) (hk:key.length=32) (k8:U8 key) (hp:0<=p∧p<=255) (ht:t.size<=64) (w:World) (bk:Bs .u8 w vk key) :
 Calls prog 75 #[vk,.int .u8 p,.string t] w λe w'=>∃v,e=.returned (.tuple #[v,.int .i64 0])∧w'.ownsRow w.heap.size 5 1 v 32 (bl (Yc key p (sb t)))∧N0 w w':=by
 have I:=Qa (SY p t (by omega) w)
 have d1:decide (64<(t.size:Int))=false:=by simp;omega
 have d2:decide (64<t.size)=false:=by simp;omega
 obtain⟨ko,kc,rfl,_⟩:=bk.formN hk
 have HL:Hid ((YY p (sb t)).length<=66∧U8 (YY p (sb t))):=by
  refine⟨?_,yv hp (Gg t)⟩;rw[N7 _ _ (by rw[QX];omega),QX];omega
 have E:=Qa (λ(a:Option Addr) (l c:Nat) (W:World) (o:N0 w W) (b:Bs .u8 W (.slice a l c) (YY p (sb t)))=>Is ko 32 kc a l c key (YY p (sb t)) 32 W (bk.past o) k8 (by omega) b HL.o.2 (by have:=HL.o.1;omega) (by decide));rw[show ((32:Nat):Int)=32 from rfl] at E;have HX:Hid (EXPL key (YY p (sb t)) 32=Yc key p (sb t)):=rfl;rw[HX.o] at E;obtain⟨X,hX⟩:=EX (YY p (sb t));rw[<-hX] at I HL E;clear bk k8 hk hp hX HX;go_enter func75,ntmps75;go_wp2_with fail;refine I.o.mono ?_;rintro e w1 ⟨v1,rfl,h0,o1⟩;obtain⟨a1,c1,rfl⟩:=Qm h0;have E1:=Qa (E.o a1 X.length c1 w1 o1 (Bs.of_own (k:=.u8) h0));have O1:=Qa o1;obtain⟨m,hm⟩:=EX X.length;rw[<-hm] at E1 ⊢;clear h0 o1 I E hm;go_wp2_with fail;refine E1.o.mono ?_;rintro e w2 ⟨v2,rfl,h1,o2⟩;have F:=Qa (And.intro (Qu h1 O1.o.size) (O1.o.same o2));clear h1 o2 E1 O1;go_wp2;go_ret2;exact⟨_,rfl,F.o⟩
theorem qX (ko:Option Addr) (kl kc:Nat) (p:Value) (t:ByteArray) (h:kl≠32) (w:World) :
 Calls prog 75 #[.slice ko kl kc,p,.string t] w λe w'=>e=.returned (.tuple #[.slice none 0 0,.int .i64 1])∧N0 w w':=by
 have h3:((kl:Int) != 32)=true:=by simp;omega
 clear h;go_enter func75,ntmps75;go_wp2;go_ret2;exact⟨rfl,Only.refl _ _⟩
theorem kY (ko:Option Addr) (kc:Nat) (p:Value) (t:ByteArray) (h:64<t.size) (w:World) :
 Calls prog 75 #[.slice ko 32 kc,p,.string t] w λe w'=>e=.returned (.tuple #[.slice none 0 0,.int .i64 4])∧N0 w w':=by
 have d1:decide (64<(t.size:Int))=true:=by simp;omega
 have d2:decide (64<t.size)=true:=by simp;omega
 go_enter func75,ntmps75;go_wp2;go_ret2;exact⟨rfl,Only.refl _ _⟩
theorem Td (vk:Value) (key:LI) (p:Int) (t:ByteArray) (k8:U8 key) (hp:0<=p∧p<=255) (w:World) (bk:Bs .u8 w vk key) :
 Calls prog 75 #[vk,.int .u8 p,.string t] w λe w'=>∃v,e=.returned (.tuple #[v,.int .i64 (QL key (sb t))])∧w'.ownsRow w.heap.size 5 1 v (QT key p (sb t)).length (bl (QT key p (sb t)))∧N0 w w':=by
 by_cases hk:key.length=32
 ·by_cases ht:t.size<=64
  ·have e1:QL key (sb t)=0:=by unfold QL;rw[if_pos hk,QX,if_pos ht]
   have e2:QT key p (sb t)=Yc key p (sb t):=by unfold QT;rw[if_pos hk,QX,if_pos ht]
   rw[e1,e2,Wf];exact Cq vk key p t hk k8 hp ht w bk
  ·have e1:QL key (sb t)=4:=by unfold QL;rw[if_pos hk,QX,if_neg ht]
   have e2:QT key p (sb t)=[]:=by unfold QT;rw[if_pos hk,QX,if_neg ht]
   rw[e1,e2];obtain⟨ko,kc,rfl,_⟩:=bk.formN hk;exact (kY ko kc (.int .u8 p) t (by omega) w).mono (λ_ _ ⟨h1,h2⟩=>⟨_,h1,World.ownsRow_nil ..,h2⟩)
 ·have e1:QL key (sb t)=1:=by unfold QL;rw[if_neg hk]
  have e2:QT key p (sb t)=[]:=by unfold QT;rw[if_neg hk]
  rw[e1,e2];obtain⟨ko,kc,rfl⟩:=bk.len;exact (qX ko key.length kc (.int .u8 p) t hk w).mono (λ_ _ ⟨h1,h2⟩=>⟨_,h1,World.ownsRow_nil ..,h2⟩)
theorem Ou:sb ⟨#[]⟩=[]:=rfl
theorem Zj (vk:Value) (key:LI) (p:Int) (k8:U8 key) (hp:0<=p∧p<=255) (w:World) (bk:Bs .u8 w vk key) :
 Calls prog 75 #[vk,.int .u8 p,.string ⟨#[]⟩] w λe w'=>∃v,e=.returned (.tuple #[v,.int .i64 (QL key [])])∧w'.ownsRow w.heap.size 5 1 v (QT key p []).length (bl (QT key p []))∧N0 w w':=by
 have:=Td vk key p ⟨#[]⟩ k8 hp w bk;rw[Ou] at this;exact this
theorem Ij (vk:Value) (key:LI) (t:ByteArray) (k8:U8 key) (w:World) (bk:Bs .u8 w vk key) :
 Calls prog 44 #[vk,.string t] w λe w'=>∃v,e=.returned (.tuple #[v,.int .i64 (QL key (sb t))])∧w'.ownsRow w.heap.size 5 1 v (QT key 1 (sb t)).length (bl (QT key 1 (sb t)))∧N0 w w':=by
 have A:=Qa (Td vk key 1 t k8 (by decide) w bk);obtain⟨E,hE⟩:=EX (QL key (sb t));rw[<-hE] at A ⊢;clear k8 bk hE;go_enter func44,ntmps44;go_wp2_with fail;refine A.o.mono ?_;rintro e w1 ⟨v1,rfl,h0,o1⟩;have F:=Qa (And.intro h0 o1);clear h0 o1 A;go_wp2;go_ret2;exact⟨_,rfl,F.o⟩
theorem He (vk:Value) (key:LI) (k8:U8 key) (w:World) (bk:Bs .u8 w vk key) :
 Calls prog 113 #[vk] w λe w'=>∃v,e=.returned (.tuple #[v,.int .i64 (QL key [])])∧w'.ownsRow w.heap.size 5 1 v (QT key 2 []).length (bl (QT key 2 []))∧N0 w w':=by
 have A:=Qa (Zj vk key 2 k8 (by decide) w bk);obtain⟨E,hE⟩:=EX (QL key []);rw[<-hE] at A ⊢;clear k8 bk hE;go_enter func113,ntmps113;go_wp2_with fail;refine A.o.mono ?_;rintro e w1 ⟨v1,rfl,h0,o1⟩;have F:=Qa (And.intro h0 o1);clear h0 o1 A;go_wp2;go_ret2;exact⟨_,rfl,F.o⟩
theorem LQ (vk:Value) (key:LI) (k8:U8 key) (w:World) (bk:Bs .u8 w vk key) :
 Calls prog 46 #[vk] w λe w'=>∃v,e=.returned (.tuple #[v,.int .i64 (QL key [])])∧w'.ownsRow w.heap.size 5 1 v (QT key 4 []).length (bl (QT key 4 []))∧N0 w w':=by
 have A:=Qa (Zj vk key 4 k8 (by decide) w bk);obtain⟨E,hE⟩:=EX (QL key []);rw[<-hE] at A ⊢;clear k8 bk hE;go_enter func46,ntmps46;go_wp2_with fail;refine A.o.mono ?_;rintro e w1 ⟨v1,rfl,h0,o1⟩;have F:=Qa (And.intro h0 o1);clear h0 o1 A;go_wp2;go_ret2;exact⟨_,rfl,F.o⟩
theorem PO (vk:Value) (key:LI) (v i:Int) (k8:U8 key) (w:World) (bk:Bs .u8 w vk key) (hi:-9223372036854775808<=i∧i<=9223372036854775807) :
 Calls prog 114 #[vk,.int .u64 v,.int .i64 i] w λe w'=>∃r,e=.returned (.tuple #[r,.int .i64 (Uv key i)])∧w'.ownsRow w.heap.size 5 1 r (US key v i).length (bl (US key v i))∧N0 w w':=by
 by_cases hk:key.length=32
 ·have A:=Qa (Zj vk key 3 k8 (by decide) w bk)
  rw[show QL key []=0 by unfold QL;rw[if_pos hk];rfl,show QT key 3 []=Yc key 3 [] by unfold QT;rw[if_pos hk];rfl,Wf] at A
  by_cases hx:Un i
  ·rw[show Uv key i=0 by unfold Uv;rw[if_pos hk,if_pos hx],show US key v i=YM key v i by unfold US;rw[if_pos hk,if_pos hx],Zz]
   have P:=Qa (λW=>SJ v i ⟨hx.1,hi.2⟩ W);have d1:decide (i<0)=false:=Qb (by have:=hx.1;omega);have d2:decide (1048576<=i)=false:=Qb (by have:=hx.2;omega);have HK:Hid ((Yc key 3 []).length=32∧U8 (Yc key 3 [])∧(UO v i).length=12∧U8 (UO v i)∧YM key v i=(MACL (Yc key 3 []) (UO v i)).take 12):=⟨Wf _ _ _,ZQ _ _ _,PF _ _,wX _ _,rfl⟩;obtain⟨K,hK⟩:=EX (Yc key 3 []);obtain⟨T,hT⟩:=EX (UO v i);rw[<-hK] at A HK;rw[<-hT] at P HK;clear bk k8 hk hi hx hK hT;go_enter func114,ntmps114;go_wp2_with fail;refine A.o.mono ?_;rintro e w1 ⟨v1,rfl,h1,o1⟩;have B1:Hid (Bs .u8 w1 v1 K):=Bs.of_own (k:=.u8) (E:=5) (lo:=w.heap.size) (by rw[HK.o.1];exact h1);have O1:=Qa o1;have P1:=Qa (P.o w1);clear h1 o1 A P;go_wp2_with fail;refine P1.o.mono ?_;rintro e w2 ⟨v2,rfl,h4,o2⟩;have M:=Qa (Xk v1 v2 K T w2 (B1.o.past o2) HK.o.2.1 (by rw[HK.o.1];decide) (Bs.of_own (k:=.u8) (E:=5) (lo:=w1.heap.size) (by rw[HK.o.2.2.1];exact h4)) HK.o.2.2.2.1 (by rw[HK.o.2.2.1];decide));have O2:=Qa (O1.o.same o2);clear h4 o2 P1 B1 O1;go_wp2_with fail;refine M.o.mono ?_;rintro e w3 ⟨v3,rfl,h2,o3⟩;obtain⟨a3,c3,rfl⟩:=Qm h2;have b3:Bs .u8 w3 (.slice a3 32 c3) (MACL K T):=Bs.of_own (k:=.u8) (E:=5) (lo:=w2.heap.size) (by rw[Y3];exact h2);obtain⟨_,_,e3,hc3⟩:=b3.formN (Y3 _ _)
   cases e3
   have hc4:(12:Int)<=(c3:Int):=by omega
   have C:=Qa (KI (.slice a3 12 c3) ((MACL K T).take 12) w3 (b3.head (by decide)) (by rw[Qf];omega));rw[show ((MACL K T).take 12).length=12 by rw[Qf,Y3];rfl,<-HK.o.2.2.2.2] at C;have O3:=Qa (O2.o.same o3);clear h2 o3 b3 hc3 M O2;go_wp2_with fail;refine C.o.mono ?_;rintro e w4 ⟨v4,rfl,h3,o4⟩;have F:=Qa (And.intro (Qu h3 O3.o.size) (O3.o.same o4));clear h3 o4 C O3;go_wp2;go_ret2;exact⟨_,rfl,F.o⟩
  ·rw[show Uv key i=1 by unfold Uv;rw[if_pos hk,if_neg hx],show US key v i=[] by unfold US;rw[if_pos hk,if_neg hx]]
   clear bk k8 hk;go_enter func114,ntmps114;go_wp2_with fail;refine A.o.mono ?_;rintro e w1 ⟨v1,rfl,h1,o1⟩;have F:=Qa o1;clear h1 o1 A
   by_cases h0:i<0
   ·have d1:decide (i<0)=true:=Qe h0
    clear hx h0 hi;go_wp2;go_ret2;exact⟨_,rfl,World.ownsRow_nil ..,F.o⟩
   ·have d1:decide (i<0)=false:=Qb h0
    have d2:decide (1048576<=i)=true:=Qe (by unfold Un at hx;omega);clear hx h0 hi;go_wp2;go_ret2;exact⟨_,rfl,World.ownsRow_nil ..,F.o⟩
 ·have A:=Qa (Zj vk key 3 k8 (by decide) w bk)
  rw[show QL key []=1 by unfold QL;rw[if_neg hk]] at A;rw[show Uv key i=1 by unfold Uv;rw[if_neg hk],show US key v i=[] by unfold US;rw[if_neg hk]];clear bk k8 hk hi;go_enter func114,ntmps114;go_wp2_with fail;refine A.o.mono ?_;rintro e w1 ⟨v1,rfl,h1,o1⟩;have F:=Qa o1;clear h1 o1 A;go_wp2;go_ret2;exact⟨_,rfl,World.ownsRow_nil ..,F.o⟩
end Go.Proofs.YtoflhbghdlaeaaaGreatDoor
