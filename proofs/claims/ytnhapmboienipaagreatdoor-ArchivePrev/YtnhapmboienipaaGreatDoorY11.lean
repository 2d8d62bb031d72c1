import Derived.Test.YtnhapmboienipaaGreatDoorY10
import Derived.Test.YtnhapmboienipaaGreatDoorY7
import Derived.Test.YtnhapmboienipaaGreatDoorY5
import Derived.Test.YtnhapmboienipaaGreatDoorY9
import Derived.Test.YtnhapmboienipaaGreatDoorY2
namespace Go.Proofs.YtnhapmboienipaaGreatDoor
set_option maxHeartbeats 4000000
set_option maxRecDepth 100000
open Go.RowKit _root_.Go.Proofs.Tryz
section
open Go.Shelf
attribute [local go_sem] Oper.semAt_some
theorem QtO (w:World) (c:Nat) (hc:c≤100000):(Instr.makeSlice 22 (.int .i64 0) (.int .i64 (c:Int))).run prog w=.ok (.slice (some ⟨w.heap.size,0,none⟩) 0 c) (w.alloc (.cells (bl (List.replicate c 0)).toArray 5)):=by
 obtain ⟨i0,hi,hz0,hz1,hz2⟩:=info_parts Tryz.infoU8;have:=run_make (P:=prog) w 22 5 i0 (.int .u8 0) underlying22 hi hz0 .i64 .i64 0 c (by omega) (by omega) (by rw [hz2];omega) (by omega)
 have e:madeCells (Value.int .u8 0).cells ((c:Int).toNat*i0.size)=(bl (List.replicate c 0)).toArray:=by
  apply Array.toList_inj.1
  rw [show (Value.int .u8 0).cells=#[.int .u8 0] from rfl,toList_madeCells_one];simp [bl,hz1]
 rw [e] at this;exact this
theorem Qi8 (key info:List Int) (n s:Nat) (h:n≤32*s):(tcat key info s).take n=EXPL key info n:=by
 unfold EXPL;obtain ⟨d,hd⟩:∃d,s=(n+31) / 32+d:=⟨s - (n+31) / 32,by omega⟩;rw [hd,←QhY key info ((n+31) / 32) d,List.take_take,Nat.min_eq_left (by omega)]
def Oq (W0:World) (Bx Gr lo n:Nat) (A:World) (m:Nat) (xs:List Int):Prop :=
 Only (fun k=>k=Bx∨k=Gr) W0 A∧Boxed A Bx 22 (.slice (some ⟨Gr,0,none⟩) m n)∧A.ownsRow lo 5 1 (.slice (some ⟨Gr,0,none⟩) m n) m (xs.map (Value.int .u8))
theorem Oq.past {W0:World} {Bx Gr lo n m:Nat} {A B:World} {xs:List Int} (h:Oq W0 Bx Gr lo n A m xs) (o:Only (fun _=>False) A B):Oq W0 Bx Gr lo n B m xs :=
 ⟨h.1.trans o (fun _ _ f=>f.elim),Qak h.2.1 o (fun f=>f),o.own h.2.2 (fun _ _ f=>f)⟩
theorem Oq.loop {W0:World} {Bx Gr lo n m:Nat} {A B:World} {xs:List Int} (h:Oq W0 Bx Gr lo n A m xs) {L:Nat} (o:Only (fun k=>k=L) A B) (hL:W0.heap.size≤L) (hx:Bx<W0.heap.size) (hr:Gr<W0.heap.size):Oq W0 Bx Gr lo n B m xs :=
 ⟨h.1.trans o (fun k hk e=>by omega),Qak h.2.1 o (by omega),o.own h.2.2 (fun k hk e=>by simp [Value.ownBlock] at hk;omega)⟩
theorem Oq.stored {W0 W w4:World} {Bx Gr lo n m m':Nat} {xs ys:List Int} (h:Oq W0 Bx Gr lo n W m xs) (hne:Bx≠Gr) (hx:Bx<W0.heap.size) (hr:Gr<W0.heap.size)
  (own:w4.ownsRow lo 5 1 (.slice (some ⟨Gr,0,none⟩) m' n) m' (ys.map (Value.int .u8))) (hg:W.drew.grownBy w4 (some Gr)) :
  Only (fun k=>k<W0.heap.size) W (w4.setCell ⟨Bx,0,none⟩ (.slice (some ⟨Gr,0,none⟩) m' n))∧Oq W0 Bx Gr lo n (w4.setCell ⟨Bx,0,none⟩ (.slice (some ⟨Gr,0,none⟩) m' n)) m' ys:=by
 have o4:Only (fun k=>k=Gr) W w4:=((Only.refl (fun k=>k=Gr) W).drew).grown hg (fun k _ e=>by cases e;rfl);have o5:Only (fun k=>k=Bx) w4 (w4.setCell ⟨Bx,0,none⟩ (.slice (some ⟨Gr,0,none⟩) m' n)):=(Only.refl (fun k=>k=Bx) w4).setCell (p:=⟨Bx,0,none⟩) (fun _=>rfl) _;refine ⟨(o4.mono (T:=fun k=>k<W0.heap.size) (fun k _ e=>by omega)).trans o5 (fun k _ e=>by omega),?_,(Qak h.2.1 o4 (by omega)).set _,o5.own own (fun k hk e=>by simp [Value.ownBlock] at hk;omega)⟩;exact (h.1.trans o4 (fun k _ e=>.inr e)).trans o5 (fun k _ e=>.inl e)
theorem QlG (aov:Option Addr) (lv cv:Nat) (aou:Option Addr) (lu cu:Nat) (key info:List Int) (n:Nat) (w:World) (hb:Bs .u8 w (.slice aov lv cv) key) (h8:U8 key) (hk:key.length≤1000000000) (hu:Bs .u8 w (.slice aou lu cu) info) (hu8:U8 info) (hl:info.length≤1000000000) (hn:n≤8160) :
  Calls prog 93 #[.slice aov lv cv,.slice aou lu cu,.int .i64 (n:Int)] w fun e w'=>∃r,e=.returned (.tuple #[r,.int .i64 0])∧w'.ownsRow w.heap.size 5 1 r n ((EXPL key info n).map (Value.int .u8))∧Only (fun _=>False) w w':=by
 obtain ⟨i0,hi,hz0,hz1,hz2⟩:=info_parts Tryz.infoU8;have HB:=Qaa (And.intro hb (And.intro h8 (And.intro hk (And.intro hu (And.intro hu8 hl)))));have d1:decide ((n:Int)<0)=false:=Yak (by omega);have d2:decide ((8160:Int)<(n:Int))=false:=Yak (by omega);have d2':decide (8160<n)=false:=Yak (by omega);obtain ⟨Z,hZ⟩:∃Z,Z=(bl (List.replicate n 0)).toArray:=⟨_,rfl⟩;have hmk:=QtO (w.alloc (.cells #[.int .i64 (n:Int)] 3)) n (by omega);rw [←hZ,size_alloc] at hmk;have HZ:=Qaa hZ;clear hb h8 hk hu hu8 hl hZ;refine (callsIn_wide (n:=5)).1 ?_;refine callsIn_of_wp_marks func93 rfl trivial ?_ rfl;simp only [ntmps93,List.size_toArray,Yah,List.length_nil,Nat.reduceAdd,Nat.reduceSub,Array.replicate_succ,Array.replicate_zero,List.push_toArray,List.append_toArray,List.nil_append,List.cons_append]
 gi_wp2_with fail
 refine ⟨trivial,(QmR _ _ _ _ _ _ _ _).mono ?_⟩;rintro e w2 ⟨rfl,rfl⟩
 gi_wp2_with fail
 obtain ⟨W0,hW0⟩:∃W0,((((w.alloc (.cells #[.int .i64 (n:Int)] 3)).alloc (.cells Z 5)).alloc (.cells #[.slice (some ⟨w.heap.size+1,0,none⟩) 0 n] 22)).alloc (.cells #[.slice aov lv cv] 22)).alloc (.cells #[.slice aou lu cu] 22)=W0:=⟨_,rfl⟩
 have o0:Only (fun _=>False) w W0:=by rw [←hW0];exact (((((Only.refl _ w).alloc _).alloc _).alloc _).alloc _).alloc _
 have hsz:W0.heap.size=w.heap.size+1+1+1+1+1:=by rw [←hW0];simp
 have bN:Boxed W0 w.heap.size 3 (.int .i64 (n:Int)):=by rw [←hW0];exact ((((Boxed.new w 3 (.int .i64 (n:Int))).alloc _).alloc _).alloc _).alloc _
 have bX:Boxed W0 (w.heap.size+1+1) 22 (.slice (some ⟨w.heap.size+1,0,none⟩) 0 n):=by
  have h:=((Boxed.new ((w.alloc (.cells #[.int .i64 (n:Int)] 3)).alloc (.cells Z 5)) 22 (.slice (some ⟨w.heap.size+1,0,none⟩) 0 n)).alloc (.cells #[.slice aov lv cv] 22)).alloc (.cells #[.slice aou lu cu] 22);rw [World.size_alloc,World.size_alloc,hW0] at h;exact h
 have bK:Boxed W0 (w.heap.size+1+1+1) 22 (.slice aov lv cv):=by
  have h:=(Boxed.new (((w.alloc (.cells #[.int .i64 (n:Int)] 3)).alloc (.cells Z 5)).alloc (.cells #[.slice (some ⟨w.heap.size+1,0,none⟩) 0 n] 22)) 22 (.slice aov lv cv)).alloc (.cells #[.slice aou lu cu] 22);rw [World.size_alloc,World.size_alloc,World.size_alloc,hW0] at h;exact h
 have bI:Boxed W0 (w.heap.size+1+1+1+1) 22 (.slice aou lu cu):=by
  have h:=Boxed.new ((((w.alloc (.cells #[.int .i64 (n:Int)] 3)).alloc (.cells Z 5)).alloc (.cells #[.slice (some ⟨w.heap.size+1,0,none⟩) 0 n] 22)).alloc (.cells #[.slice aov lv cv] 22)) 22 (.slice aou lu cu);rw [World.size_alloc,World.size_alloc,World.size_alloc,World.size_alloc,hW0] at h;exact h
 have bG:Blk W0 (w.heap.size+1) 5 (bl (List.replicate n 0)):=by
  have h:=(((Blk.new (w.alloc (.cells #[.int .i64 (n:Int)] 3)) 5 (bl (List.replicate n 0))).alloc (.cells #[.slice (some ⟨w.heap.size+1,0,none⟩) 0 n] 22)).alloc (.cells #[.slice aov lv cv] 22)).alloc (.cells #[.slice aou lu cu] 22);rw [←HZ.out,World.size_alloc,hW0] at h;exact h
 have oG:W0.ownsRow w.heap.size 5 1 (.slice (some ⟨w.heap.size+1,0,none⟩) 0 n) 0 ([]:List Value):=by
  have h:=Qef (base:=w.heap.size) (n:=0) (cap:=n) bG (by omega) (Nat.zero_le _) (by simp only [maxLen];omega) (by rw [Qal,List.length_replicate]);rw [List.take_zero] at h;exact h
 rw [hW0];have HI0:(0=0∨32*0<n)∧Oq W0 (w.heap.size+1+1) (w.heap.size+1) w.heap.size n W0 (32*0) (tcat key info 0):=⟨.inl rfl,Only.refl _ _,bX,oG⟩
 refine Qit (gf:=166) (lb:=#[.pointer (some ⟨w.heap.size+1+1+1,0,none⟩),.pointer (some ⟨w.heap.size+1+1+1+1,0,none⟩)]) rfl (enters_of func166 (by kernel_rfl) rfl)
  (fun x:Nat × Nat=>#[.slice (some ⟨x.1,0,none⟩) 32 x.2]) (fun _=>rfl)
  (fun s A=>(s=0∨32*s<n)∧Oq W0 (w.heap.size+1+1) (w.heap.size+1) w.heap.size n A (32*s) (tcat key info s))
  (fun _ A=>Oq W0 (w.heap.size+1+1) (w.heap.size+1) w.heap.size n A n (EXPL key info n))
  (fun s x s' A=>s'=s+1∧s<255∧Bs .u8 A (.slice (some ⟨x.1,0,none⟩) 32 x.2) (tpc key info (s+1))∧W0.heap.size+2≤x.1) 0 255
  (fun s A B r hi hl o=>⟨hi.1,hi.2.loop o (by omega) (by omega) (by omega)⟩) (fun s A B r hi hl o=>Oq.loop hi o (by omega) (by omega) (by omega)) (fun s A B hi o=>⟨hi.1,hi.2.past o⟩)
  (fun s x s' A B r hv hl o=>⟨hv.1,hv.2.1,hv.2.2.1.loop hl o,hv.2.2.2⟩) HI0
  ?hit (fun x=>{ tmps:=#[.slice aov lv cv,.slice aou lu cu,.int .i64 (n:Int),undef,undef,.pointer (some ⟨w.heap.size,0,none⟩),.slice none 0 0,.int .i64 0,.pointer (some ⟨w.heap.size+1+1,0,none⟩),.slice (some ⟨x.1,0,none⟩) 32 x.2,.int .i64 (n:Int),.bool false,.bool false,.int .i64 (n:Int),.bool false,.bool false,.int .i64 (n:Int),.slice (some ⟨w.heap.size+1,0,none⟩) 0 n,.slice aov lv cv,.slice aou lu cu,.func (.func 166) #[] #[.pointer (some ⟨w.heap.size+1+1+1,0,none⟩),.pointer (some ⟨w.heap.size+1+1+1+1,0,none⟩)],.slice (some ⟨x.1,0,none⟩) 32 x.2,undef,undef,undef,undef,undef,undef,undef,undef,undef,undef,undef,undef,undef,undef,undef,undef],defers:=[] }) ?assign ?body ?done ?stop
 case hit =>
  intro J Jx W hJ hJo hY h0 hW;refine Qky 4 (W0.heap.size+1) (w.heap.size+1+1+1) (w.heap.size+1+1+1+1) W0.heap.size (.slice aov lv cv) aou lu cu key info HB.out.2.1 (by have:=HB.out.2.2.1;omega) HB.out.2.2.2.2.1 HB.out.2.2.2.2.2 J Jx (fun s A hs=>?_) hJo (fun s g c A h3 hs hb hg=>hY s (g,c) (s+1) A hs ⟨rfl,h3,hb,hg⟩) W h0 hW;have o:=(hJ s A hs).2.1;have o':Only (fun _=>False) w A:=o0.trans o (fun k hk e=>by omega);exact ⟨Qak bK o (by omega),Qak bI o (by omega),HB.out.1.past o',HB.out.2.2.2.1.past o'⟩
 case assign =>
  intro x W K hK
  gi_wp2
  exact hK
 case body =>
  rintro s ⟨g,cp⟩ s' W ⟨hs,hq⟩ ⟨rfl,h255,hbs,hg⟩;simp only at hbs hg;have hcx:=hq.2.1.cell;have hcn:=(Qak bN hq.1 (by omega)).cell
  have hcp:32≤cp:=by
   obtain ⟨_,_,e,h,_⟩:=hbs;simp at e;obtain ⟨_,_,rfl⟩:=e;rw [Qej] at h;exact h
  obtain ⟨a,ha⟩:∃a,a=32*s:=⟨_,rfl⟩;have HA:=Qaa ha
  have han:a≤n:=by omega
  rw [←ha] at hcx hq;obtain ⟨XS,hXS⟩:∃XS,XS=tcat key info s:=⟨_,rfl⟩;rw [←hXS] at hq;have HXS:=Qaa hXS
  have hT:tcat key info (s+1)=XS++tpc key info (s+1):=by rw [hXS];rfl
  have HT:=Qaa hT;have htl:(tpc key info (s+1)).length=32:=Qej _ _ _;obtain ⟨T,hTT⟩:∃T,T=tpc key info (s+1):=⟨_,rfl⟩;rw [←hTT] at hbs htl HT;have HQ:=Qaa hq;have HS:=Qaa (And.intro hs (And.intro h255 hg));have HSZ:=Qaa hsz
  have h32:(32:Int)≤(cp:Int):=by omega
  obtain ⟨r,hr⟩:∃r:Nat,r=n - a:=⟨_,rfl⟩
  have hsub:(n:Int) - (a:Int)=(r:Int):=by omega
  have HR:=Qaa (And.intro hr han)
  have hwr:IntKind.i64.wrap (r:Int)=(r:Int):=by rw [IntKind.wrap_i64];omega
  by_cases hmin:r<32
  ·have HC:Hid ((((T.take r).map (Value.int .u8)).length=r*1)∧∀j v,((T.take r).map (Value.int .u8))[j]? = some v→W.drew.cell? ((⟨g,0,none⟩:Addr).add j)=some v):=by
    refine ⟨by rw [List.length_map,Yag,htl];omega,?_⟩;exact (hbs.head (n:=r) (by omega)).news
   have HFIT:Hid (a+r≤n):=by show _≤_;omega
   have m1:(r:Int)<32:=by omega
   have m2:¬(32:Int)<(r:Int):=by omega
   have m3:(r:Int)≤(cp:Int):=by omega
   have dm:decide ((r:Int)<32)=true:=Yaj m1;clear hs hq hbs hg ha han hXS hT hTT hsz hr hcp
   gi_wp2_with fail
   refine wpIn_mono (Q:=Exit.then (fun a1 W1=>a1={ tmps:=#[.slice aov lv cv,.slice aou lu cu,.int .i64 (n:Int),undef,undef,.pointer (some ⟨w.heap.size,0,none⟩),.slice none 0 0,.int .i64 0,.pointer (some ⟨w.heap.size+1+1,0,none⟩),.slice (some ⟨g,0,none⟩) 32 cp,.int .i64 (n:Int),.bool false,.bool false,.int .i64 (n:Int),.bool false,.bool false,.int .i64 (n:Int),.slice (some ⟨w.heap.size+1,0,none⟩) 0 n,.slice aov lv cv,.slice aou lu cu,.func (.func 166) #[] #[.pointer (some ⟨w.heap.size+1+1+1,0,none⟩),.pointer (some ⟨w.heap.size+1+1+1+1,0,none⟩)],.slice (some ⟨g,0,none⟩) 32 cp,.slice (some ⟨w.heap.size+1,0,none⟩) a n,.slice (some ⟨g,0,none⟩) 32 cp,.slice (some ⟨g,0,none⟩) 32 cp,.int .i64 32,.int .i64 (n:Int),.slice (some ⟨w.heap.size+1,0,none⟩) a n,.int .i64 (a:Int),.int .i64 (r:Int),.int .i64 (r:Int),.slice (some ⟨g,0,none⟩) r cp,.slice (some ⟨w.heap.size+1,0,none⟩) (a+r) n,undef,undef,undef,undef,undef],defers:=[] }∧∃w4,w4.ownsRow w.heap.size 5 1 (.slice (some ⟨w.heap.size+1,0,none⟩) (a+r) n) (a+r) (XS.map (Value.int .u8)++(T.take r).map (Value.int .u8))∧W.drew.grownBy w4 (some (w.heap.size+1))∧W1=w4.setCell ⟨w.heap.size+1+1,0,none⟩ (.slice (some ⟨w.heap.size+1,0,none⟩) (a+r) n)) (fun _ _ _=>False)) ?hr ?hq
   case hr =>
    refine Qca 10 (by kernel_rfl) (fun ⟨_,_,h⟩=>h) (by kernel_rfl) (by kernel_rfl) ?_;simp only [List.take_succ_cons,List.take_zero,List.drop_succ_cons,List.drop_zero]
    repeat still_step
    refine wpStill_nil ?_;refine wpList_append_fits _ rfl _ _ 22 rfl w.heap.size 5 i0 1 underlying22 hi hz1 (w.heap.size+1) a n (XS.map (Value.int .u8)) rfl HQ.out.2.2 ⟨g,0,none⟩ r cp ((T.take r).map (Value.int .u8)) rfl HC.out.1 HC.out.2 (QaP _ _) HFIT.out ?_;intro w4 hown4 hgrow4;have hc4:w4.cell? ⟨w.heap.size+1+1,0,none⟩=some (.slice (some ⟨w.heap.size+1,0,none⟩) a n):=(World.cell?_of_block (hgrow4.block (w.heap.size+1+1) HQ.out.2.1.lt (fun e=>by have:=Option.some.inj e;omega))).trans hcx;have hf4:w4.frozen? ⟨w.heap.size+1+1,0,none⟩=false:=((show Boxed W.drew (w.heap.size+1+1) 22 (.slice (some ⟨w.heap.size+1,0,none⟩) a n) from HQ.out.2.1).kept (W':=w4) hgrow4 (fun e=>by have:=Option.some.inj e;omega)).frozen;go_wp2;exact ⟨trivial,w4,hown4,hgrow4,rfl⟩
   intro ex a1 W1 h
   cases ex
   all_goals first | exact False.elim h | skip
   obtain ⟨rfl,w4,hown4,hgrow4,rfl⟩:=h
   have hne1:w.heap.size+1+1≠w.heap.size+1:=by omega
   have FIN0:=HQ.out.stored (m':=a+r) (ys:=XS++T.take r) hne1 (by have:=HSZ.out;omega) (by have:=HSZ.out;omega) (by rw [List.map_append];exact hown4) hgrow4;obtain ⟨W5,hW5⟩:∃W5,W5=w4.setCell ⟨w.heap.size+1+1,0,none⟩ (.slice (some ⟨w.heap.size+1,0,none⟩) (a+r) n):=⟨_,rfl⟩;rw [←hW5] at FIN0 ⊢;have hx5:=FIN0.2.2.1.cell;have hn5:=(Qak bN FIN0.2.1 (by omega)).cell;have FIN:=Qaa FIN0;clear FIN0 hW5 hown4 hgrow4 hcx hcn HQ HC
   have e1:XS++T.take r=EXPL key info n:=by
    have h1:=HA.out;have h2:=HR.out
    have hxl:XS.length=a:=by rw [HXS.out,Qc8,h1]
    have hx:XS.take n=XS:=List.take_of_length_le (by rw [hxl];exact h2.2);rw [←Qi8 key info n (s+1) (by omega),HT.out,List.take_append,hx,hxl,←h2.1]
   have hne:a+r=n:=by have:=HR.out;omega
   rw [e1] at FIN;obtain ⟨m,hm⟩:∃m,m=a+r:=⟨_,rfl⟩;rw [←hm] at FIN hx5 hne ⊢
   have hd1:((m:Int) == (n:Int))=true:=by rw [hne];simp
   have HM:=Qaa hne;clear hm hne e1 hsub
   gi_wp2
   refine ⟨rfl,FIN.out.1,?_⟩;have:=FIN.out.2;rw [HM.out] at this;exact this
  ·have HC:Hid (((T.map (Value.int .u8)).length=32*1)∧∀j v,(T.map (Value.int .u8))[j]? = some v→W.drew.cell? ((⟨g,0,none⟩:Addr).add j)=some v):=by
    refine ⟨by rw [List.length_map,htl],?_⟩;exact hbs.news
   have HFIT:Hid (a+32≤n):=by show _≤_;omega
   have m1:¬(r:Int)<32:=by omega
   have m2:(32:Int)≤(r:Int):=by omega
   have dm:(if (r:Int)<32 then (r:Int) else 32)=32:=if_neg m1;clear m1;clear hs hq hbs hg ha han hXS hT hTT hsz hr hcp
   gi_wp2_with fail
   refine wpIn_mono (Q:=Exit.then (fun a1 W1=>a1={ tmps:=#[.slice aov lv cv,.slice aou lu cu,.int .i64 (n:Int),undef,undef,.pointer (some ⟨w.heap.size,0,none⟩),.slice none 0 0,.int .i64 0,.pointer (some ⟨w.heap.size+1+1,0,none⟩),.slice (some ⟨g,0,none⟩) 32 cp,.int .i64 (n:Int),.bool false,.bool false,.int .i64 (n:Int),.bool false,.bool false,.int .i64 (n:Int),.slice (some ⟨w.heap.size+1,0,none⟩) 0 n,.slice aov lv cv,.slice aou lu cu,.func (.func 166) #[] #[.pointer (some ⟨w.heap.size+1+1+1,0,none⟩),.pointer (some ⟨w.heap.size+1+1+1+1,0,none⟩)],.slice (some ⟨g,0,none⟩) 32 cp,.slice (some ⟨w.heap.size+1,0,none⟩) a n,.slice (some ⟨g,0,none⟩) 32 cp,.slice (some ⟨g,0,none⟩) 32 cp,.int .i64 32,.int .i64 (n:Int),.slice (some ⟨w.heap.size+1,0,none⟩) a n,.int .i64 (a:Int),.int .i64 (r:Int),.int .i64 32,.slice (some ⟨g,0,none⟩) 32 cp,.slice (some ⟨w.heap.size+1,0,none⟩) (a+32) n,undef,undef,undef,undef,undef],defers:=[] }∧∃w4,w4.ownsRow w.heap.size 5 1 (.slice (some ⟨w.heap.size+1,0,none⟩) (a+32) n) (a+32) (XS.map (Value.int .u8)++(T).map (Value.int .u8))∧W.drew.grownBy w4 (some (w.heap.size+1))∧W1=w4.setCell ⟨w.heap.size+1+1,0,none⟩ (.slice (some ⟨w.heap.size+1,0,none⟩) (a+32) n)) (fun _ _ _=>False)) ?hr2 ?hq2
   case hr2 =>
    refine Qca 10 (by kernel_rfl) (fun ⟨_,_,h⟩=>h) (by kernel_rfl) (by kernel_rfl) ?_;simp only [List.take_succ_cons,List.take_zero,List.drop_succ_cons,List.drop_zero]
    repeat still_step
    refine wpStill_nil ?_;refine wpList_append_fits _ rfl _ _ 22 rfl w.heap.size 5 i0 1 underlying22 hi hz1 (w.heap.size+1) a n (XS.map (Value.int .u8)) rfl HQ.out.2.2 ⟨g,0,none⟩ 32 cp ((T).map (Value.int .u8)) rfl HC.out.1 HC.out.2 (QaP _ _) HFIT.out ?_;intro w4 hown4 hgrow4;have hc4:w4.cell? ⟨w.heap.size+1+1,0,none⟩=some (.slice (some ⟨w.heap.size+1,0,none⟩) a n):=(World.cell?_of_block (hgrow4.block (w.heap.size+1+1) HQ.out.2.1.lt (fun e=>by have:=Option.some.inj e;omega))).trans hcx;have hf4:w4.frozen? ⟨w.heap.size+1+1,0,none⟩=false:=((show Boxed W.drew (w.heap.size+1+1) 22 (.slice (some ⟨w.heap.size+1,0,none⟩) a n) from HQ.out.2.1).kept (W':=w4) hgrow4 (fun e=>by have:=Option.some.inj e;omega)).frozen;go_wp2;exact ⟨trivial,w4,hown4,hgrow4,rfl⟩
   intro ex a1 W1 h
   cases ex
   all_goals first | exact False.elim h | skip
   obtain ⟨rfl,w4,hown4,hgrow4,rfl⟩:=h
   have hne1:w.heap.size+1+1≠w.heap.size+1:=by omega
   have FIN0:=HQ.out.stored (m':=a+32) (ys:=XS++T) hne1 (by have:=HSZ.out;omega) (by have:=HSZ.out;omega) (by rw [List.map_append];exact hown4) hgrow4;obtain ⟨W5,hW5⟩:∃W5,W5=w4.setCell ⟨w.heap.size+1+1,0,none⟩ (.slice (some ⟨w.heap.size+1,0,none⟩) (a+32) n):=⟨_,rfl⟩;rw [←hW5] at FIN0 ⊢;have hx5:=FIN0.2.2.1.cell;have hn5:=(Qak bN FIN0.2.1 (by omega)).cell;have FIN:=Qaa FIN0;clear FIN0 hW5 hown4 hgrow4 hcx hcn HQ HC;rw [←HT.out] at FIN
   have hs1:32*(s+1)=a+32:=by have:=HA.out;omega
   by_cases heq:a+32=n
   ·have e1:tcat key info (s+1)=EXPL key info n:=by
     rw [←Qi8 key info n (s+1) (by omega),List.take_of_length_le (by rw [Qc8];omega)]
    rw [e1] at FIN;obtain ⟨m,hm⟩:∃m,m=a+32:=⟨_,rfl⟩;rw [←hm] at FIN hx5 heq ⊢
    have hd1:((m:Int) == (n:Int))=true:=by rw [heq];simp
    have HM:=Qaa heq;clear hm heq e1 hsub hs1
    gi_wp2
    refine ⟨rfl,FIN.out.1,?_⟩;have:=FIN.out.2;rw [HM.out] at this;exact this
   ·have hlt:32*(s+1)<n:=by have:=HR.out;omega
    have HLT:=Qaa hlt;rw [←hs1] at FIN hx5 ⊢;obtain ⟨m,hm⟩:∃m,m=32*(s+1):=⟨_,rfl⟩;rw [←hm] at FIN hx5 ⊢
    have hd1:((m:Int) == (n:Int))=false:=by rw [beq_eq_false_iff_ne];omega
    have HM:=Qaa hm;clear hm heq hsub hs1 hlt
    gi_wp2
    refine ⟨FIN.out.1,.inr HLT.out,?_⟩;rw [←HM.out];exact FIN.out.2
 case done =>
  intro W hi hD
  rcases hi.1 with h | h
  ·cases h
  ·exact absurd h (by omega)
 case stop =>
  intro s W hi hD;rw [hsz] at hD;have hc:=hi.2.1.cell;have HO:=Qaa hi.2.2;have O1:=Qaa hi.1;have HD:=Qaa hD;clear hi hD
  gi_wp2
  refine ⟨by simp,.inl ⟨_,_,rfl,run_takeDeferred HD.out,?_⟩⟩;refine ⟨.tuple #[.slice (some ⟨w.heap.size+1,0,none⟩) n n,.int .i64 0],?_,_,rfl,ownsRow_putObj HO.out _ HD.out rfl,?_⟩
  ·simp [results,Tryz.f93,go_sem]
  ·exact (o0.trans O1.out (fun k hk e=>by omega)).putObj _ _ (fun hk=>by omega)
end
theorem Qmw (vk:Value) (key:List Int) (p:Int) (t:ByteArray) (hk:key.length=32) (k8:U8 key) (hp:0≤p∧p≤255) (ht:t.size≤64) (w:World) (bk:Bs .u8 w vk key) :
  Calls prog 64 #[vk,.int .u8 p,.string t] w fun e w'=>∃v,e=.returned (.tuple #[v,.int .i64 0])∧w'.ownsRow w.heap.size 5 1 v 32 (bl (KDV key p (sb t)))∧Only (fun _=>False) w w':=by
 have I:=Qaa (Qpe p t (by omega) w)
 have d1:decide (64<(t.size:Int))=false:=by simp;omega
 have d2:decide (64<t.size)=false:=by simp;omega
 obtain ⟨ko,kc,rfl,_⟩:=bk.formN hk
 have HL:Hid ((KTX p (sb t)).length≤66∧U8 (KTX p (sb t))):=by
  refine ⟨?_,Qt6 hp (Qd5 t)⟩;rw [Qr6 _ _ (by rw [QaE];omega),QaE];omega
 have E:=Qaa (fun (a:Option Addr) (l c:Nat) (W:World) (o:Only (fun _=>False) w W) (b:Bs .u8 W (.slice a l c) (KTX p (sb t)))=>QlG ko 32 kc a l c key (KTX p (sb t)) 32 W (bk.past o) k8 (by omega) b HL.out.2 (by have:=HL.out.1;omega) (by decide));rw [show ((32:Nat):Int)=32 from rfl] at E;have HX:Hid (EXPL key (KTX p (sb t)) 32=KDV key p (sb t)):=rfl;rw [HX.out] at E;obtain ⟨X,hX⟩:∃X,X=KTX p (sb t):=⟨_,rfl⟩;rw [←hX] at I HL E;clear bk k8 hk hp hX HX;go_enter func64,ntmps64;go_wp2_with fail;refine I.out.mono ?_;rintro e w1 ⟨v1,rfl,own1,o1⟩;obtain ⟨a1,c1,rfl⟩:=Qad own1;have E1:=Qaa (E.out a1 X.length c1 w1 o1 (Bs.of_own (k:=.u8) own1));have O1:=Qaa o1;obtain ⟨m,hm⟩:∃m,m=X.length:=⟨_,rfl⟩;rw [←hm] at E1 ⊢;clear own1 o1 I E hm;go_wp2_with fail;refine E1.out.mono ?_;rintro e w2 ⟨v2,rfl,own2,o2⟩;have F:=Qaa (And.intro (Qaf own2 O1.out.size) (O1.out.same o2));clear own2 o2 E1 O1;go_wp2;go_ret2;exact ⟨_,rfl,F.out⟩
theorem Qkp (ko:Option Addr) (kl kc:Nat) (p:Value) (t:ByteArray) (h:kl≠32) (w:World) :
  Calls prog 64 #[.slice ko kl kc,p,.string t] w fun e w'=>e=.returned (.tuple #[.slice none 0 0,.int .i64 1])∧Only (fun _=>False) w w':=by
 have h3:((kl:Int) != 32)=true:=by simp;omega
 clear h;go_enter func64,ntmps64;go_wp2;go_ret2;exact ⟨rfl,Only.refl _ _⟩
theorem Qh6 (ko:Option Addr) (kc:Nat) (p:Value) (t:ByteArray) (h:64<t.size) (w:World) :
  Calls prog 64 #[.slice ko 32 kc,p,.string t] w fun e w'=>e=.returned (.tuple #[.slice none 0 0,.int .i64 4])∧Only (fun _=>False) w w':=by
 have d1:decide (64<(t.size:Int))=true:=by simp;omega
 have d2:decide (64<t.size)=true:=by simp;omega
 go_enter func64,ntmps64;go_wp2;go_ret2;exact ⟨rfl,Only.refl _ _⟩
theorem Qfe (vk:Value) (key:List Int) (p:Int) (t:ByteArray) (k8:U8 key) (hp:0≤p∧p≤255) (w:World) (bk:Bs .u8 w vk key) :
  Calls prog 64 #[vk,.int .u8 p,.string t] w fun e w'=>∃v,e=.returned (.tuple #[v,.int .i64 (KDe key (sb t))])∧w'.ownsRow w.heap.size 5 1 v (KDt key p (sb t)).length (bl (KDt key p (sb t)))∧Only (fun _=>False) w w':=by
 by_cases hk:key.length=32
 ·by_cases ht:t.size≤64
  ·have e1:KDe key (sb t)=0:=by unfold KDe;rw [if_pos hk,QaE,if_pos ht]
   have e2:KDt key p (sb t)=KDV key p (sb t):=by unfold KDt;rw [if_pos hk,QaE,if_pos ht]
   rw [e1,e2,QcX];exact Qmw vk key p t hk k8 hp ht w bk
  ·have e1:KDe key (sb t)=4:=by unfold KDe;rw [if_pos hk,QaE,if_neg ht]
   have e2:KDt key p (sb t)=[]:=by unfold KDt;rw [if_pos hk,QaE,if_neg ht]
   rw [e1,e2];obtain ⟨ko,kc,rfl,_⟩:=bk.formN hk;exact (Qh6 ko kc (.int .u8 p) t (by omega) w).mono (fun _ _ ⟨h1,h2⟩=>⟨_,h1,World.ownsRow_nil ..,h2⟩)
 ·have e1:KDe key (sb t)=1:=by unfold KDe;rw [if_neg hk]
  have e2:KDt key p (sb t)=[]:=by unfold KDt;rw [if_neg hk]
  rw [e1,e2];obtain ⟨ko,kc,rfl⟩:=bk.len;exact (Qkp ko key.length kc (.int .u8 p) t hk w).mono (fun _ _ ⟨h1,h2⟩=>⟨_,h1,World.ownsRow_nil ..,h2⟩)
theorem Qr4:sb ⟨#[]⟩=[]:=rfl
theorem Qb1 (vk:Value) (key:List Int) (p:Int) (k8:U8 key) (hp:0≤p∧p≤255) (w:World) (bk:Bs .u8 w vk key) :
  Calls prog 64 #[vk,.int .u8 p,.string ⟨#[]⟩] w fun e w'=>∃v,e=.returned (.tuple #[v,.int .i64 (KDe key [])])∧w'.ownsRow w.heap.size 5 1 v (KDt key p []).length (bl (KDt key p []))∧Only (fun _=>False) w w':=by
 have:=Qfe vk key p ⟨#[]⟩ k8 hp w bk;rw [Qr4] at this;exact this
theorem Qkq (vk:Value) (key:List Int) (t:ByteArray) (k8:U8 key) (w:World) (bk:Bs .u8 w vk key) :
  Calls prog 41 #[vk,.string t] w fun e w'=>∃v,e=.returned (.tuple #[v,.int .i64 (KDe key (sb t))])∧w'.ownsRow w.heap.size 5 1 v (KDt key 1 (sb t)).length (bl (KDt key 1 (sb t)))∧Only (fun _=>False) w w':=by
 have A:=Qaa (Qfe vk key 1 t k8 (by decide) w bk);obtain ⟨E,hE⟩:∃E,E=KDe key (sb t):=⟨_,rfl⟩;rw [←hE] at A ⊢;clear k8 bk hE;go_enter func41,ntmps41;go_wp2_with fail;refine A.out.mono ?_;rintro e w1 ⟨v1,rfl,own1,o1⟩;have F:=Qaa (And.intro own1 o1);clear own1 o1 A;go_wp2;go_ret2;exact ⟨_,rfl,F.out⟩
theorem QgT (vk:Value) (key:List Int) (k8:U8 key) (w:World) (bk:Bs .u8 w vk key) :
  Calls prog 95 #[vk] w fun e w'=>∃v,e=.returned (.tuple #[v,.int .i64 (KDe key [])])∧w'.ownsRow w.heap.size 5 1 v (KDt key 2 []).length (bl (KDt key 2 []))∧Only (fun _=>False) w w':=by
 have A:=Qaa (Qb1 vk key 2 k8 (by decide) w bk);obtain ⟨E,hE⟩:∃E,E=KDe key []:=⟨_,rfl⟩;rw [←hE] at A ⊢;clear k8 bk hE;go_enter func95,ntmps95;go_wp2_with fail;refine A.out.mono ?_;rintro e w1 ⟨v1,rfl,own1,o1⟩;have F:=Qaa (And.intro own1 o1);clear own1 o1 A;go_wp2;go_ret2;exact ⟨_,rfl,F.out⟩
theorem Qdg (vk:Value) (key:List Int) (k8:U8 key) (w:World) (bk:Bs .u8 w vk key) :
  Calls prog 45 #[vk] w fun e w'=>∃v,e=.returned (.tuple #[v,.int .i64 (KDe key [])])∧w'.ownsRow w.heap.size 5 1 v (KDt key 4 []).length (bl (KDt key 4 []))∧Only (fun _=>False) w w':=by
 have A:=Qaa (Qb1 vk key 4 k8 (by decide) w bk);obtain ⟨E,hE⟩:∃E,E=KDe key []:=⟨_,rfl⟩;rw [←hE] at A ⊢;clear k8 bk hE;go_enter func45,ntmps45;go_wp2_with fail;refine A.out.mono ?_;rintro e w1 ⟨v1,rfl,own1,o1⟩;have F:=Qaa (And.intro own1 o1);clear own1 o1 A;go_wp2;go_ret2;exact ⟨_,rfl,F.out⟩
theorem QgU (vk:Value) (key:List Int) (v i:Int) (k8:U8 key) (w:World) (bk:Bs .u8 w vk key) (hi:-9223372036854775808≤i∧i≤9223372036854775807) :
  Calls prog 96 #[vk,.int .u64 v,.int .i64 i] w fun e w'=>∃r,e=.returned (.tuple #[r,.int .i64 (KNe key i)])∧w'.ownsRow w.heap.size 5 1 r (KNt key v i).length (bl (KNt key v i))∧Only (fun _=>False) w w':=by
 by_cases hk:key.length=32
 ·have A:=Qaa (Qb1 vk key 3 k8 (by decide) w bk)
  rw [show KDe key []=0 by unfold KDe;rw [if_pos hk];rfl,show KDt key 3 []=KDV key 3 [] by unfold KDt;rw [if_pos hk];rfl,QcX] at A
  by_cases hx:KIX i
  ·rw [show KNe key i=0 by unfold KNe;rw [if_pos hk,if_pos hx],show KNt key v i=KNC key v i by unfold KNt;rw [if_pos hk,if_pos hx],QfM]
   have P:=Qaa (fun W=>Qmx v i ⟨hx.1,hi.2⟩ W);have d1:decide (i<0)=false:=Yak (by have:=hx.1;omega);have d2:decide (1048576≤i)=false:=Yak (by have:=hx.2;omega);have HK:Hid ((KDV key 3 []).length=32∧U8 (KDV key 3 [])∧(NTX v i).length=12∧U8 (NTX v i)∧KNC key v i=(MACL (KDV key 3 []) (NTX v i)).take 12):=⟨QcX _ _ _,Qjl _ _ _,Qmz _ _,Qt7 _ _,rfl⟩;obtain ⟨K,hK⟩:∃K,K=KDV key 3 []:=⟨_,rfl⟩;obtain ⟨T,hT⟩:∃T,T=NTX v i:=⟨_,rfl⟩;rw [←hK] at A HK;rw [←hT] at P HK;clear bk k8 hk hi hx hK hT;go_enter func96,ntmps96;go_wp2_with fail;refine A.out.mono ?_;rintro e w1 ⟨v1,rfl,own1,o1⟩;have B1:Hid (Bs .u8 w1 v1 K):=Bs.of_own (k:=.u8) (E:=5) (lo:=w.heap.size) (by rw [HK.out.1];exact own1);have O1:=Qaa o1;have P1:=Qaa (P.out w1);clear own1 o1 A P;go_wp2_with fail;refine P1.out.mono ?_;rintro e w2 ⟨v2,rfl,own2,o2⟩;have M:=Qaa (QnL v1 v2 K T w2 (B1.out.past o2) HK.out.2.1 (by rw [HK.out.1];decide) (Bs.of_own (k:=.u8) (E:=5) (lo:=w1.heap.size) (by rw [HK.out.2.2.1];exact own2)) HK.out.2.2.2.1 (by rw [HK.out.2.2.1];decide));have O2:=Qaa (O1.out.same o2);clear own2 o2 P1 B1 O1;go_wp2_with fail;refine M.out.mono ?_;rintro e w3 ⟨v3,rfl,own3,o3⟩;obtain ⟨a3,c3,rfl⟩:=Qad own3;have b3:Bs .u8 w3 (.slice a3 32 c3) (MACL K T):=Bs.of_own (k:=.u8) (E:=5) (lo:=w2.heap.size) (by rw [QaN];exact own3);obtain ⟨_,_,e3,hc3⟩:=b3.formN (QaN _ _)
   cases e3
   have hc4:(12:Int)≤(c3:Int):=by omega
   have C:=Qaa (Qcw (.slice a3 12 c3) ((MACL K T).take 12) w3 (b3.head (by decide)) (by rw [Yag];omega));rw [show ((MACL K T).take 12).length=12 by rw [Yag,QaN];rfl,←HK.out.2.2.2.2] at C;have O3:=Qaa (O2.out.same o3);clear own3 o3 b3 hc3 M O2;go_wp2_with fail;refine C.out.mono ?_;rintro e w4 ⟨v4,rfl,own4,o4⟩;have F:=Qaa (And.intro (Qaf own4 O3.out.size) (O3.out.same o4));clear own4 o4 C O3;go_wp2;go_ret2;exact ⟨_,rfl,F.out⟩
  ·rw [show KNe key i=1 by unfold KNe;rw [if_pos hk,if_neg hx],show KNt key v i=[] by unfold KNt;rw [if_pos hk,if_neg hx]]
   clear bk k8 hk;go_enter func96,ntmps96;go_wp2_with fail;refine A.out.mono ?_;rintro e w1 ⟨v1,rfl,own1,o1⟩;have F:=Qaa o1;clear own1 o1 A
   by_cases h0:i<0
   ·have d1:decide (i<0)=true:=Yaj h0
    clear hx h0 hi;go_wp2;go_ret2;exact ⟨_,rfl,World.ownsRow_nil ..,F.out⟩
   ·have d1:decide (i<0)=false:=Yak h0
    have d2:decide (1048576≤i)=true:=Yaj (by unfold KIX at hx;omega);clear hx h0 hi;go_wp2;go_ret2;exact ⟨_,rfl,World.ownsRow_nil ..,F.out⟩
 ·have A:=Qaa (Qb1 vk key 3 k8 (by decide) w bk)
  rw [show KDe key []=1 by unfold KDe;rw [if_neg hk]] at A;rw [show KNe key i=1 by unfold KNe;rw [if_neg hk],show KNt key v i=[] by unfold KNt;rw [if_neg hk]];clear bk k8 hk hi;go_enter func96,ntmps96;go_wp2_with fail;refine A.out.mono ?_;rintro e w1 ⟨v1,rfl,own1,o1⟩;have F:=Qaa o1;clear own1 o1 A;go_wp2;go_ret2;exact ⟨_,rfl,World.ownsRow_nil ..,F.out⟩
end Go.Proofs.YtnhapmboienipaaGreatDoor
