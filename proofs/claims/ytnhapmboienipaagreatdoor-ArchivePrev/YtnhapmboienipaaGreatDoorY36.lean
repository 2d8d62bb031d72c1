import Derived.Test.YtnhapmboienipaaGreatDoorY35
import Derived.Test.YtnhapmboienipaaGreatDoorY10
import Derived.Test.YtnhapmboienipaaGreatDoorY18
import Derived.Test.YtnhapmboienipaaGreatDoorY32
import Derived.Test.YtnhapmboienipaaGreatDoorY33
import Derived.Deep.RegionHeld
import Derived.Deep.DrawnRows
import Derived.Deep.RegionWith
namespace Go.Proofs.YtnhapmboienipaaGreatDoor
set_option maxHeartbeats 4000000
set_option maxRecDepth 100000
open Go.RowKit _root_.Go.Proofs.Tryz
section
open Go.Shelf
attribute [local go_sem] Oper.semAt_some
theorem Qqj (n:Nat) (a:Option Addr) (len cap:Nat) (w:World) :
  CallsIn Fence.wide n prog 168 #[.slice a len cap] w fun e w'=>e=.returned (.func (.func 197) #[] #[.pointer (some ⟨w.heap.size,0,none⟩)])∧w'=w.alloc (.cells #[.slice a len cap] 176):=by
 refine callsIn_of_wp func168 rfl trivial ?_ rfl;simp only [ntmps168,List.size_toArray,Yah,List.length_nil,Nat.reduceAdd,Nat.reduceSub,Array.replicate_succ,Array.replicate_zero,List.push_toArray,List.append_toArray,List.nil_append,List.cons_append]
 gi_wp2
 go_ret;exact ⟨rfl,rfl⟩
theorem QnR (n L Bv:Nat) (v:Value) (l:List Int) (hu:U64 l) (hl:l.length≤65536) (J:Nat→World→Prop)
  (hJ:∀s A,J s A→Boxed A Bv 176 v∧Bs .u64 A v l∧Tab A)
  (hJo:∀s A B,J s A→Only (fun _=>False) A B→J s B)
  (hJs:∀s A,s≤3→J s A→(W11 l s).2≠0→J (s+1) A)
  (hY:∀(s:Nat) u A,s≤3→J s A→(W11 l s).2=0→Bs .u8 A u (W11 l s).1→NoCap u→YieldAt Fence.wide (n - 1) prog L #[.int .i64 s,u] A fun e B=>e=.returned (.bool true)∧J (s+1) B)
  (W:World) (h0:J 0 W) :
  CallsIn Fence.wide n prog 197 #[.func (.yield L) #[] #[],.pointer (some ⟨Bv,0,none⟩)] W fun e B=>(∃v,e=.returned v)∧J 4 B:=by
 have HJ:=Qaa hJ;have HJo:=Qaa hJo;have HJs:=Qaa hJs;have HY:=Qaa hY;have H0:=Qaa h0;clear hJ hJo hJs hY h0;refine callsIn_of_wp func197 rfl trivial ?_ rfl;simp only [ntmps197,List.size_toArray,Yah,List.length_nil,Nat.reduceAdd,Nat.reduceSub,Array.replicate_succ,Array.replicate_zero,List.push_toArray,List.append_toArray,List.nil_append,List.cons_append]
 gi_wp2
 gi_loopw [6] (fun i wr=>∃t:Nat,t≤4∧i=.int .i64 t∧Hid (J t wr)) (fun i _=>4 - (intOf i).toNat)
 case atStart=>exact ⟨0,by omega,rfl,H0⟩
 case round =>
  obtain ⟨t,ht,rfl,HT⟩:=hrel
  by_cases hlt:t<4
  ·have dlt:decide ((t:Int)<4)=true:=Yaj (by omega)
   obtain ⟨hbx,hbs,htab⟩:=HJ.out t wr HT.out;have hc:=hbx.cell;have A:=Qaa (QnW v l t wr hbs hu htab hl (by omega))
   by_cases he:(W11 l t).2=0
   ·have HE:=Qaa he
    rw [he] at A;clear hbx hbs htab he
    gi_wp2_with fail
    refine ⟨trivial,(fun h=>by cases h),(callsIn_wide.2 A.out).mono ?_⟩;rintro e w2 ⟨u,rfl,own2,o2⟩;obtain ⟨fn,tmps,assign,body,hy,hR⟩:=HY.out t u w2 (by omega) (HJo.out _ _ _ HT.out o2) HE.out (Bs.of_own own2) (NoCap.of_own own2);have HR:=Qaa hR;clear own2 o2 A hR
    gi_wp2
    refine ⟨(fun h=>by cases h),HR.out.mono ?_⟩;rintro e w3 ⟨rfl,hJ3⟩;have H3:=Qaa hJ3;clear HR hJ3
    gi_wp2
    go_roundw
    case rel=>exact ⟨t+1,by omega,by go_num,H3⟩
    case measure=>simp [intOf];omega
   ·have HE:=Qaa he
    have de:((W11 l t).2 == 0)=false:=by simp [he]
    obtain ⟨c,hcc⟩:∃c,c=(W11 l t).2:=⟨_,rfl⟩;rw [←hcc] at A de;clear hbx hbs htab he hcc
    gi_wp2_with fail
    refine ⟨trivial,(fun h=>by cases h),(callsIn_wide.2 A.out).mono ?_⟩;rintro e w2 ⟨u,rfl,own2,o2⟩;have H3:=Qaa (HJs.out t w2 (by omega) (HJo.out _ _ _ HT.out o2) HE.out);clear own2 o2 A
    gi_wp2
    refine ⟨fun _ h=>(by cases h),?_⟩
    gi_wp2
    go_roundw
    case rel=>exact ⟨t+1,by omega,by go_num,H3⟩
    case measure=>simp [intOf];omega
  ·obtain rfl:t=4:=by omega
   gi_wp2
   go_end0
   exact ⟨⟨_,rfl⟩,HT.out⟩
end
section
open Go.Shelf
attribute [local go_sem] Oper.semAt_some
def pk11 (l:List Int) (t:Nat):List Int:=((QaS l t).1:Int) :: (QaS l t).2
def Sh11 (lo:Nat) (l:List Int) (t:Nat) (A:World) (sv:Value):Prop :=
 (t=0∧sv=.slice none 0 0)∨∃s,t=s+1∧A.ownsRow lo 5 1 sv (pk11 l s).length ((pk11 l s).map (Value.int .u8))
def In11 (W0:World) (Bx lo:Nat) (l:List Int) (t:Nat) (A:World):Prop:=Only (fun k=>k=Bx) W0 A∧∃sv,Boxed A Bx 22 sv∧Sh11 lo l t A sv
theorem Sh11.keep {lo:Nat} {l:List Int} {t:Nat} {A B:World} {sv:Value} (h:Sh11 lo l t A sv) {S:Nat→Prop} (o:Only S A B) (hs:∀k,sv.ownBlock=some k→¬S k):Sh11 lo l t B sv:=by
 rcases h with h | ⟨s,e,h⟩
 ·exact .inl h
 ·exact .inr ⟨s,e,o.own h hs⟩
theorem In11.past {W0:World} {Bx lo:Nat} {l:List Int} {t:Nat} {A B:World} (h:In11 W0 Bx lo l t A) (o:Only (fun _=>False) A B):In11 W0 Bx lo l t B:=by
 obtain ⟨h1,sv,h2,h3⟩:=h;exact ⟨h1.trans o (fun _ _ f=>f.elim),sv,Qak h2 o (fun f=>f),h3.keep o (fun _ _ f=>f)⟩
theorem In11.loop {W0:World} {Bx lo:Nat} {l:List Int} {t:Nat} {A B:World} (h:In11 W0 Bx lo l t A) {L:Nat} {r:Loop} (hl:A.heap[L]? = some (.loop r)) (o:Only (fun k=>k=L) A B) (hL:W0.heap.size≤L):In11 W0 Bx lo l t B:=by
 obtain ⟨h1,sv,h2,h3⟩:=h;refine ⟨h1.trans o (fun k hk e=>by omega),sv,Qak h2 o (fun e=>?_),h3.keep o (fun k hk e=>?_)⟩
 ·subst e
  rw [show A.heap[Bx]? = _ from h2] at hl;cases hl
 ·subst e
  rcases h3 with ⟨_,rfl⟩ | ⟨s,_,ho⟩
  ·cases hk
  ·rcases ho.2 with ⟨rfl,_⟩ | ⟨g,cap,cur,rfl,_,hg,_⟩
   ·cases hk
   ·obtain rfl:g=k:=by simpa [Value.ownBlock] using hk
    rw [hg] at hl;cases hl
theorem In11.skip {W0:World} {Bx lo:Nat} {l:List Int} {t:Nat} {A:World} (h:In11 W0 Bx lo l t A) (he:(W11 l t).2≠0):In11 W0 Bx lo l (t+1) A:=by
 obtain ⟨h1,sv,h2,h3⟩:=h;refine ⟨h1,sv,h2,?_⟩
 rcases h3 with ⟨rfl,_⟩ | ⟨s,rfl,ho⟩
 ·exact absurd rfl he
 ·refine .inr ⟨s+1,rfl,?_⟩
  have e:pk11 l (s+1)=pk11 l s:=by
   unfold pk11;rw [QaS,if_neg (fun c=>he c.1)]
  rw [e];exact ho
theorem In11.stays {W0:World} {Bx lo:Nat} {l:List Int} {s:Nat} {A:World} (h:In11 W0 Bx lo l (s+1) A) (hc:¬(W11 l (s+1)).1.length<(QaS l s).2.length):In11 W0 Bx lo l (s+1+1) A:=by
 obtain ⟨h1,sv,h2,h3⟩:=h;refine ⟨h1,sv,h2,?_⟩
 rcases h3 with ⟨e,_⟩ | ⟨s',e,ho⟩
 ·omega
 ·obtain rfl:s=s':=by omega
  refine .inr ⟨s+1,rfl,?_⟩
  have e:pk11 l (s+1)=pk11 l s:=by
   unfold pk11;rw [QaS,if_neg (fun c=>hc c.2)]
  rw [e];exact ho
theorem In11.stored {W0 W A:World} {Bx lo:Nat} {l:List Int} {t:Nat} {v:Value} (h:In11 W0 Bx lo l t W) (hBx:Bx<W0.heap.size) (o:Only (fun _=>False) W A) (hlo:lo≤W.heap.size)
  (own:A.ownsRow W.heap.size 5 1 v (pk11 l t).length ((pk11 l t).map (Value.int .u8))):Only (fun k=>k<W0.heap.size) W (A.setCell ⟨Bx,0,none⟩ v)∧In11 W0 Bx lo l (t+1) (A.setCell ⟨Bx,0,none⟩ v):=by
 obtain ⟨h1,sv,h2,h3⟩:=h;have hBW:Bx<W.heap.size:=h2.lt;have o2:Only (fun k=>k=Bx) A (A.setCell ⟨Bx,0,none⟩ v):=(Only.refl (fun k=>k=Bx) A).setCell (p:=⟨Bx,0,none⟩) (fun _=>rfl) v;refine ⟨(o.mono (fun _ _ f=>f.elim)).trans o2 (fun k _ e=>by omega),h1.trans ((o.mono (T:=fun k=>k=Bx) (fun _ _ f=>f.elim)).trans o2 (fun _ _ e=>e)) (fun _ _ e=>e),v,(Qak h2 o (fun f=>f)).set v,.inr ⟨t,rfl,?_⟩⟩;exact o2.own (Qaf own hlo) (fun k hk e=>by have:=(own.lt k hk).1;omega)
theorem Qfp (W:World) (x:Int) (u:Value) (Y:List Int) (hb:Bs .u8 W u Y) (hn:NoCap u) (hl:Y.length≤2000000) :
  Calls prog 25 #[.slice (some ⟨W.heap.size+1,0,none⟩) 2 2] ((W.alloc (.cells #[.int .u8 x] 5)).alloc (.cells #[.slice (some ⟨W.heap.size,0,none⟩) 1 1,u] 22)) fun e w' =>
   ∃g c,e=.returned (.slice (some ⟨g,0,none⟩) (Y.length+1) c)∧w'.ownsRow W.heap.size 5 1 (.slice (some ⟨g,0,none⟩) (Y.length+1) c) (x :: Y).length ((x :: Y).map (Value.int .u8))∧Only (fun _=>False) W w':=by
 obtain ⟨W2,hW2⟩:∃W2,(W.alloc (.cells #[.int .u8 x] 5)).alloc (.cells #[.slice (some ⟨W.heap.size,0,none⟩) 1 1,u] 22)=W2:=⟨_,rfl⟩
 have o2:Only (fun _=>False) W W2:=by rw [←hW2];exact ((Only.refl _ W).alloc _).alloc _
 have hL:Bs .u8 W2 (.slice (some ⟨W.heap.size,0,none⟩) 1 1) [x]:=by
  rw [←hW2];exact (Bs.lit .u8 W 5 [x]).past ((Only.refl _ _).alloc _)
 have hH:W2.heap[W.heap.size+1]? = some (.cells #[.slice (some ⟨W.heap.size,0,none⟩) 1 1,u] 22 (0,0)):=by
  have:=World.alloc_heap_new (W.alloc (.cells #[.int .u8 x] 5)) (.cells #[.slice (some ⟨W.heap.size,0,none⟩) 1 1,u] 22);rw [World.size_alloc,hW2] at this;exact this
 have ec:cat (fun i=>if i=0 then [x] else Y) 2=x :: Y:=by rw [QbG,QbG,QiW];rfl
 have hBB:∀i,i<2→Bs .u8 W2 (if i=0 then .slice (some ⟨W.heap.size,0,none⟩) 1 1 else u) (if i=0 then [x] else Y):=by
  intro i hi
  rcases (show i=0∨i=1 by omega) with rfl | rfl
  ·exact hL
  ·exact hb.past o2
 have hNN:∀i,i<2→NoCap (if i=0 then .slice (some ⟨W.heap.size,0,none⟩) 1 1 else u):=by
  intro i hi
  rcases (show i=0∨i=1 by omega) with rfl | rfl
  ·exact NoCap.some _ _ _
  ·exact hn
 have C:=Qc4 (W.heap.size+1) 2 (fun i=>if i=0 then .slice (some ⟨W.heap.size,0,none⟩) 1 1 else u) (fun i=>if i=0 then [x] else Y) W2 (by omega) (by omega)
  (fun i hi=>by rcases (show i=0∨i=1 by omega) with rfl | rfl <;> simp [World.cell?,hH])
  hBB hNN
  (by rw [ec,Yah];omega) (by rw [ec,Yah];omega)
 rw [ec] at C;rw [hW2];refine C.mono ?_;rintro e w' ⟨v',rfl,own,o⟩;have own':w'.ownsRow W2.heap.size 5 1 v' (Y.length+1) ((x :: Y).map (Value.int .u8)):=own;obtain ⟨g,c,rfl⟩:=ownsRow_succ own';exact ⟨g,c,rfl,Qaf own o2.size,o2.same o⟩
theorem Qf7 (v:Value) (l:List Int) (w:World) (h:Bs .u64 w v l) (hl:65536<l.length) :
  Calls prog 135 #[v] w fun e w'=>e=.returned (.tuple #[.slice none 0 0,.int .i64 4])∧w=w':=by
 obtain ⟨ao,cap,rfl⟩:=h.len;have d1:decide ((65536:Int)<(l.length:Int))=true:=Yaj (by omega);have d1':decide (65536<l.length)=true:=Yaj hl;clear h hl;refine (callsIn_wide (n:=5)).1 ?_;refine callsIn_of_wp_marks func135 rfl trivial ?_ rfl;simp only [ntmps135,List.size_toArray,Yah,List.length_nil,Nat.reduceAdd,Nat.reduceSub,Array.replicate_succ,Array.replicate_zero,List.push_toArray,List.append_toArray,List.nil_append,List.cons_append]
 gi_wp2
 refine ⟨.tuple #[.slice none 0 0,.int .i64 4],?_,rfl,rfl⟩;simp [results,Tryz.f135,go_sem]
theorem QiC (v:Value) (l:List Int) (w:World) (h:Bs .u64 w v l) (hu:U64 l) (hl:l.length≤65536) (hT:Tab w) :
  Calls prog 135 #[v] w fun e w'=>∃u,e=.returned (.tuple #[u,.int .i64 0])∧w'.ownsRow w.heap.size 5 1 u (pk11 l 3).length ((pk11 l 3).map (Value.int .u8))∧Only (fun _=>False) w w':=by
 have HB:=Qaa h;have HT:=Qaa hT;obtain ⟨ao,cap,rfl⟩:=h.len;obtain ⟨m,hm⟩:∃m,m=l.length:=⟨_,rfl⟩;rw [←hm] at HB;rw [←hm];have HM:=Qaa hm;have HL:=Qaa hl;have d1:decide ((65536:Int)<(m:Int))=false:=Yak (by omega);have d1':decide (65536<m)=false:=Yak (by omega);have h0w:=hT.pos;clear h hm hT hl;refine (callsIn_wide (n:=5)).1 ?_;refine callsIn_of_wp_marks func135 rfl trivial ?_ rfl;simp only [ntmps135,List.size_toArray,Yah,List.length_nil,Nat.reduceAdd,Nat.reduceSub,Array.replicate_succ,Array.replicate_zero,List.push_toArray,List.append_toArray,List.nil_append,List.cons_append]
 gi_wp2_with fail
 refine ⟨trivial,(Qqj _ _ _ _ _).mono ?_⟩;rintro e w2 ⟨rfl,rfl⟩
 gi_wp2_with fail
 obtain ⟨W0,hW0⟩:∃W0,(w.alloc (.cells #[.slice none 0 0] 22)).alloc (.cells #[.slice ao m cap] 176)=W0:=⟨_,rfl⟩
 have o0:Only (fun _=>False) w W0:=by rw [←hW0];exact ((Only.refl _ w).alloc _).alloc _
 have hsz:W0.heap.size=w.heap.size+1+1:=by rw [←hW0];simp
 have bX:Boxed W0 w.heap.size 22 (.slice none 0 0):=by rw [←hW0];exact (Boxed.new w 22 (.slice none 0 0)).alloc _
 have bV:Boxed W0 (w.heap.size+1) 176 (.slice ao m cap):=by
  rw [←hW0];have h:=Boxed.new (w.alloc (.cells #[.slice none 0 0] 22)) 176 (.slice ao m cap);rw [World.size_alloc] at h;exact h
 rw [hW0];have HI0:In11 W0 w.heap.size w.heap.size l 0 W0:=⟨Only.refl _ _,_,bX,.inl ⟨rfl,rfl⟩⟩
 refine QkG (gf:=197) (lb:=#[.pointer (some ⟨w.heap.size+1,0,none⟩)]) rfl (enters_of func197 (by kernel_rfl) rfl)
  (fun x:Nat × Value=>#[.int .i64 x.1,x.2]) (fun _=>rfl) (In11 W0 w.heap.size w.heap.size l) (fun s x s' A=>x.1=s∧s'=s+1∧s≤3∧(W11 l s).2=0∧Bs .u8 A x.2 (W11 l s).1∧NoCap x.2) 0 4
  (fun s A B r hi hl o=>hi.loop hl o (by omega)) (fun s A B hi o=>hi.past o) (fun s x s' A B r hv hl o=>⟨hv.1,hv.2.1,hv.2.2.1,hv.2.2.2.1,hv.2.2.2.2.1.loop hl o,hv.2.2.2.2.2⟩) HI0
  ?hit (fun x=>{ tmps:=#[.slice ao m cap,undef,.slice none 0 0,.int .i64 0,.pointer (some ⟨w.heap.size,0,none⟩),.int .i64 x.1,x.2,.slice ao m cap,.int .i64 m,.bool false,.slice ao m cap,
   .func (.func 197) #[] #[.pointer (some ⟨w.heap.size+1,0,none⟩)],.int .i64 x.1,x.2,undef,undef,undef,undef,undef,undef,undef,undef,undef,undef,undef,undef,undef,undef,undef,undef,undef],defers:=[] }) ?assign ?body ?done
 case hit =>
  intro J W hJ hJo hJs hY h0;refine QnR 4 (W0.heap.size+1) (w.heap.size+1) (.slice ao m cap) l hu HL.out J (fun s A hs=>?_) hJo (fun s A h3 hs he=>hJs s (s+1) A hs ((hJ s A hs).skip he)) (fun s u A h3 hs he hb hn=>hY s (s,u) (s+1) A hs ⟨rfl,rfl,h3,he,hb,hn⟩) W h0;have o:=(hJ s A hs).1;have o':Only (fun _=>False) w A:=o0.trans o (fun k hk e=>by omega);exact ⟨Qak bV o (by omega),HB.out.past o',HT.out.past o'⟩
 case assign =>
  intro x W K hK
  gi_wp2
  exact hK
 case body =>
  rintro s ⟨s',u⟩ s'' W hi ⟨rfl,rfl,h3,he,hb,hn⟩;simp only at hb hn h3 he;have HI:=Qaa hi;obtain ⟨o1,sv,bx,hsh⟩:=hi;have hc:=bx.cell;have hf:=bx.frozen
  have hlo:w.heap.size≤W.heap.size:=by have:=o1.size;omega
  obtain ⟨au,cu,eu⟩:=hb.len;subst eu
  rcases hsh with ⟨rfl,rfl⟩ | ⟨s,rfl,ho⟩
  ·have hnil:∀W,(binOp .eql 22 (.slice none 0 0) (.slice none 0 0)).run prog W=.ok (.bool true) W:=fun W=>by
    rw [Lib.run_eql_slice_nil W 22 5 none 0 0 0 0 underlying22];rfl
   obtain ⟨Y,hY⟩:∃Y,Y=(W11 l 0).1:=⟨_,rfl⟩;rw [←hY] at hb hn
   have HPK:Hid (pk11 l 0=0 :: Y):=by simp only [Hid];rw [hY];rfl
   have HB':=Qaa hb;have HN':=Qaa hn;rw [←hY];have CT:=Qaa (Qfp W 0 (.slice au Y.length cu) Y hb hn (by rw [hY,←QeV HL.out 0 (by omega)];exact Qhr));have HBX:=Qaa bx;clear bx hb hn he h3 hY
   gi_wp2_with fail
   refine ⟨trivial,(CallsIn.inRound _ (callsIn_wide.2 CT.out)).mono ?_⟩;rintro e w4 ⟨g,c,rfl,own4,o4⟩;have bx4:=Qak HBX.out o4 (fun f=>f);rw [←HPK.out] at own4;have FIN:=Qaa (HI.out.stored (by omega) o4 hlo own4);have hc4:=bx4.cell;have hf4:=bx4.frozen;clear own4 o4 bx4 CT HBX hc hf
   gi_wp2
   exact FIN.out
  ·obtain ⟨Y,hY⟩:∃Y,Y=(W11 l (s+1)).1:=⟨_,rfl⟩
   rw [←hY] at hb hn;have hlen:(pk11 l s).length=(QaS l s).2.length+1:=rfl;obtain ⟨q,hq⟩:∃q,q=(QaS l s).2.length:=⟨_,rfl⟩;rw [hlen,←hq] at ho;obtain ⟨g0,c0,esv⟩:=ownsRow_succ ho;subst esv
   have hnil:∀W,(binOp .eql 22 (.slice (some ⟨g0,0,none⟩) (q+1) c0) (.slice none 0 0)).run prog W=.ok (.bool false) W:=fun W=>by
    rw [Lib.run_eql_slice_nil W 22 5 (some ⟨g0,0,none⟩) (q+1) c0 0 0 underlying22];rfl
   have hYl:Y.length≤2000000:=by rw [hY,←QeV HL.out (s+1) h3];exact Qhr
   by_cases hcmp:Y.length<q
   ·have HPK:Hid (pk11 l (s+1)=((s:Int)+1) :: Y):=by
     simp only [Hid];unfold pk11;rw [QaS,if_pos ⟨he,by rw [←hY,←hq];exact hcmp⟩,←hY]
     rfl
    have CT:=Qaa (Qfp W ((s:Int)+1) (.slice au Y.length cu) Y hb hn hYl);rw [←hY];have dd:decide ((1:Int)+(Y.length:Int)<((q+1:Nat):Int))=true:=Yaj (by omega);have dd2:decide ((1:Int)+(Y.length:Int)<(q:Int)+1)=true:=Yaj (by omega);have HBX:=Qaa bx;clear bx hb hn he hY hlen hq ho hcmp
    gi_wp2_with fail
    refine ⟨trivial,(CallsIn.inRound _ (callsIn_wide.2 CT.out)).mono ?_⟩;rintro e w4 ⟨g,c,rfl,own4,o4⟩;have bx4:=Qak HBX.out o4 (fun f=>f);rw [←HPK.out] at own4;have FIN:=Qaa (HI.out.stored (by omega) o4 hlo own4);have hc4:=bx4.cell;have hf4:=bx4.frozen;clear own4 o4 bx4 CT HBX hc hf
    gi_wp2
    exact FIN.out
   ·have HST:=Qaa (HI.out.stays (by rw [←hY,←hq];exact hcmp))
    rw [←hY];have dd:decide ((1:Int)+(Y.length:Int)<((q+1:Nat):Int))=false:=Yak (by omega);have dd2:decide ((1:Int)+(Y.length:Int)<(q:Int)+1)=false:=Yak (by omega);clear bx hb hn he hY hlen hq ho hcmp
    gi_wp2
    exact ⟨Only.refl _ _,HST.out⟩
 case done =>
  intro W hi hD;obtain ⟨o1,sv,bx,hsh⟩:=hi;have hc:=bx.cell
  rcases hsh with ⟨e,_⟩ | ⟨s,e,ho⟩
  ·cases e
  ·obtain rfl:s=3:=by omega
   clear e;have HO:=Qaa ho;have hlen:(pk11 l 3).length=(QaS l 3).2.length+1:=rfl;rw [hlen] at ho;obtain ⟨g,cap',e2⟩:=ownsRow_succ ho;subst e2;clear hlen ho;have O1:=Qaa o1;have HD:=Qaa hD;clear o1 bx
   gi_wp2
   refine ⟨by simp,.inl ⟨_,_,rfl,run_takeDeferred HD.out,?_⟩⟩;refine ⟨.tuple #[.slice (some ⟨g,0,none⟩) ((QaS l 3).2.length+1) cap',.int .i64 0],?_,_,rfl,ownsRow_putObj HO.out _ HD.out rfl,?_⟩
   ·simp [results,Tryz.f135,go_sem]
   ·exact (o0.trans O1.out (fun k hk e=>by omega)).putObj _ _ (fun hk=>by omega)
theorem Qhs (v:Value) (l:List Int) (w:World) (h:Bs .u64 w v l) (hu:U64 l) (hT:Tab w) :
  Calls prog 135 #[v] w fun e w'=>∃u,e=.returned (.tuple #[u,.int .i64 (ENC11 l).2])∧w'.ownsRow w.heap.size 5 1 u (ENC11 l).1.length ((ENC11 l).1.map (Value.int .u8))∧Only (fun _=>False) w w':=by
 by_cases hl:65536<l.length
 ·have e:ENC11 l=([],4):=if_pos hl
  rw [e];refine (Qf7 v l w h hl).mono ?_;rintro e w' ⟨rfl,rfl⟩;exact ⟨_,rfl,World.ownsRow_nil _ _ _ _,Only.refl _ _⟩
 ·rw [QjT (by omega)]
  exact QiC v l w h hu (by omega) hT
end
section
attribute [local go_sem ↓] Go.wp_at_zero Go.wp_at_succ
theorem QfK (t:ByteArray) (u:Value) (s:List (Int × Int)) (w:World) (h:Sps w u s) (hl:64<t.size∨65536<s.length) (hm:s.length≤maxLen) (hm2:t.size≤maxLen) :
  Calls prog 97 #[.agg #[.string t,u]] w fun e w'=>e=.returned (.tuple #[.slice none 0 0,.int .i64 4])∧Only (fun _=>False) w w':=by
 unfold maxLen at hm hm2;obtain ⟨ao,cap,rfl⟩:=h.len;clear h;generalize s.length=n at *
 by_cases h1:64<t.size
 ·have d1:decide (64<(t.size:Int))=true:=by simp;omega
  have d2:decide (64<t.size)=true:=by simp;omega
  go_enter func97,ntmps97;go_wp2;go_ret2;exact ⟨rfl,(Only.refl _ _).alloc _⟩
 ·have h2:65536<n:=by omega
  have d1:decide (64<(t.size:Int))=false:=by simp;omega
  have d2:decide (64<t.size)=false:=by simp;omega
  have d3:decide (65536<(n:Int))=true:=by simp;omega
  have d4:decide (65536<n)=true:=by simp;omega
  go_enter func97,ntmps97;go_wp2;go_ret2;exact ⟨rfl,(Only.refl _ _).alloc _⟩
theorem Qd1 {w3 W W':World} {B:Nat} {x y:Value} (h:Only (fun _=>False) w3 W∧W.cell? ⟨B,0,none⟩=some x∧W.cell? ⟨B,1,none⟩=some y) (o:Only (fun _=>False) W W') :
  Only (fun _=>False) w3 W'∧W'.cell? ⟨B,0,none⟩=some x∧W'.cell? ⟨B,1,none⟩=some y:=by
 obtain ⟨h1,h2,h3⟩:=h;have hb:B<W.heap.size:=World.block_lt_of_cell? W _ h2;have e:=o.block B hb (fun f=>f);exact ⟨h1.same o,by rw [←h2];unfold World.cell?;rw [e],by rw [←h3];unfold World.cell?;rw [e]⟩
def five {α:Type} (a b c d e:α):Nat→α
 | 0=>a
 | 1=>b
 | 2=>c
 | 3=>d
 | _=>e
theorem QfL (a b c d e:List Int):cat (five a b c d e) 5=a++(b++(c++(d++e))):=by
 simp [cat,List.range_succ,five]
theorem Qr5 {W:World} {X:Nat} (h:W.heap[X]? = some (.cells #[.int .u8 1] 5 (0,0))):Bs .u8 W (.slice (some ⟨X,0,none⟩) 1 1) [1]:=by
 refine ⟨some _,1,rfl,Nat.le_refl _,fun _=>⟨X,0,rfl,fun j hj=>?_⟩⟩
 have:j=0:=by simpa using hj
 subst this;simp [World.cell?,h]
theorem Qh7 {W:World} {B:Nat} {v0 v1 v2 v3 v4:Value} {l0 l1 l2 l3 l4:List Int} (hB:W.heap[B]? = some (.cells #[v0,v1,v2,v3,v4] 22 (0,0)))
  (b0:Bs .u8 W v0 l0) (b1:Bs .u8 W v1 l1) (b2:Bs .u8 W v2 l2) (b3:Bs .u8 W v3 l3) (b4:Bs .u8 W v4 l4) (n0:NoCap v0) (n1:NoCap v1) (n2:NoCap v2) (n3:NoCap v3) (n4:NoCap v4)
  (hp:0<l0.length) (hl:(l0++(l1++(l2++(l3++l4)))).length≤140737488355328) :
  Calls prog 25 #[.slice (some ⟨B,0,none⟩) 5 5] W fun e w'=>∃v',e=.returned v'∧w'.ownsRow W.heap.size 5 1 v' (l0++(l1++(l2++(l3++l4)))).length ((l0++(l1++(l2++(l3++l4)))).map (Value.int .u8))∧Only (fun _=>False) W w':=by
 have:=Qc4 B 5 (five v0 v1 v2 v3 v4) (five l0 l1 l2 l3 l4) W (by omega) (by omega)
  (fun i hi=>by
   have e:W.cell? ⟨B,i,none⟩=(#[v0,v1,v2,v3,v4]:Array Value)[i]?:=by unfold World.cell?;simp only;rw [hB];rfl
   rw [e]
   match i,hi with
   | 0,_=>rfl
   | 1,_=>rfl
   | 2,_=>rfl
   | 3,_=>rfl
   | 4,_=>rfl)
  (fun i hi=>by
   match i,hi with
   | 0,_=>exact b0
   | 1,_=>exact b1
   | 2,_=>exact b2
   | 3,_=>exact b3
   | 4,_=>exact b4)
  (fun i hi=>by
   match i,hi with
   | 0,_=>exact n0
   | 1,_=>exact n1
   | 2,_=>exact n2
   | 3,_=>exact n3
   | 4,_=>exact n4)
  (by rw [QfL];simp only [Yae];omega) (by rw [QfL];exact hl)
 rw [QfL] at this;exact this
theorem Qh8 (t:ByteArray) (u:Value) (s:List (Int × Int)) (w:World) (h:Sps w u s) (hg:Gs s) (ht:t.size≤64) (hl:s.length≤65536) (hT:Tab w) :
  Calls prog 97 #[.agg #[.string t,u]] w fun e w'=>∃v',e=.returned (.tuple #[v',.int .i64 0])∧w'.ownsRow w.heap.size 5 1 v' (ENCC (sb t) s).1.length ((ENCC (sb t) s).1.map (Value.int .u8))∧Only (fun _=>False) w w':=by
 rw [QfJ (by rw [QaE];omega) hl];obtain ⟨x8,hx8⟩:∃x8,x8=e8c (s.map Prod.fst):=⟨_,rfl⟩;obtain ⟨x11,hx11⟩:∃x11,x11=e11c (s.map Prod.snd):=⟨_,rfl⟩;rw [←hx8,←hx11];have X8:=Qaa hx8;have X11:=Qaa hx11;clear hx8 hx11;have HS:=Qaa h;have HG:=Qaa hg;have HT:=Qaa hT;have hcv:=QcG t;obtain ⟨ao,cap,rfl⟩:=h.len;obtain ⟨n,hn⟩:∃n,n=s.length:=⟨_,rfl⟩;rw [←hn] at hl HS;rw [←hn];have HN:=Qaa hn
 have d1:decide (64<(t.size:Int))=false:=by simp;omega
 have d2:decide (64<t.size)=false:=by simp;omega
 have d3:decide (65536<(n:Int))=false:=by simp;omega
 have d4:decide (65536<n)=false:=by simp;omega
 have oa:Only (fun _=>False) w (w.alloc (.cells #[.string t,.slice ao n cap] 50)):=(Only.refl _ _).alloc _;have AP:=Qaa (Qmu (.slice ao n cap) s _ (HS.out.past oa) (by rw [←hn];exact hl));have OA:=Qaa oa;clear h hg hT hn oa;go_enter func97,ntmps97;go_wp2_with fail;refine AP.out.mono ?_;rintro e w1 ⟨u1,u2,rfl,b1,b2,o1⟩;obtain ⟨a1,c1,e1⟩:=b1.len;obtain ⟨a2,c2,e2⟩:=b2.len;subst e1 e2;have T1:=HT.out.past (OA.out.same o1);have B2:=Qaa b2
 have hc1:Only (fun _=>False) (w.alloc (.cells #[.string t,.slice ao n cap] 50)) w1∧w1.cell? ⟨w.heap.size,0,none⟩=some (.string t)∧w1.cell? ⟨w.heap.size,1,none⟩=some (.slice ao n cap) :=
  Qd1 ⟨Only.refl _ _,by go_cell,by go_cell⟩ o1
 have E8:=Qaa (Qh3 _ _ w1 b1 HG.out.1)
 have e8:(ENC8 (s.map Prod.fst)).2=0:=by unfold ENC8;rw [if_neg (by rw [List.length_map,←HN.out];omega)]
 have e11:(ENC11 (s.map Prod.snd)).2=0:=by unfold ENC11;rw [if_neg (by rw [List.length_map,←HN.out];omega)]
 have l8:(e8c (s.map Prod.fst)).length≤600000:=by
  have:=(Qjc (l:=s.map Prod.fst) (by rw [List.length_map,←HN.out];exact hl)).1;rw [List.length_map,←HN.out] at this
  show (ENC8 (s.map Prod.fst)).1.length≤600000
  omega
 have l11:(e11c (s.map Prod.snd)).length≤600000:=by
  have:=(Qhq (l:=s.map Prod.snd) (by rw [List.length_map,←HN.out];exact hl)).1;rw [List.length_map,←HN.out] at this
  show (ENC11 (s.map Prod.snd)).1.length≤600000
  omega
 rw [e8] at E8
 have E11:Hid (∀W,Only (fun _=>False) w1 W→Calls prog 135 #[.slice a2 (s.map Prod.snd).length c2] W fun e w'=>∃u,e=.returned (.tuple #[u,.int .i64 0])∧w'.ownsRow W.heap.size 5 1 u (e11c (s.map Prod.snd)).length ((e11c (s.map Prod.snd)).map (Value.int .u8))∧Only (fun _=>False) W w'):=by
  intro W o;have:=Qhs (.slice a2 (s.map Prod.snd).length c2) (s.map Prod.snd) W (B2.out.past o) HG.out.2 (T1.past o);rw [e11] at this;exact this
 have O1:=Qaa (OA.out.same o1);have HC1:=Qaa hc1;have L8:=Qaa l8;have L11:=Qaa l11;have eB:∃B,B=w.heap.size:=⟨_,rfl⟩;clear b1 b2 o1 AP hc1 T1 e8 e11 l8 l11 HS OA HT;generalize (s.map Prod.fst).length=n1 at *;generalize (s.map Prod.snd).length=n2 at *;go_wp2_with fail;refine E8.out.mono ?_;rintro e w2 ⟨v8,rfl,own8,o2⟩;obtain ⟨a8,c8,e1⟩:=(Bs.of_own own8).len;subst e1;have B8:Hid (Bs .u8 w2 (.slice a8 (ENC8 (s.map Prod.fst)).1.length c8) (e8c (s.map Prod.fst))∧NoCap (.slice a8 (ENC8 (s.map Prod.fst)).1.length c8)):=⟨Bs.of_own own8,NoCap.of_own own8⟩;have O2:=Qaa (O1.out.same o2);have HC2:=Qaa (Qd1 HC1.out o2);have EV:=Qaa (E11.out w2 o2);clear own8 o2 E8 E11 HC1;generalize (ENC8 (s.map Prod.fst)).1.length=m8 at *;go_wp2_with fail;refine EV.out.mono ?_;rintro e w3 ⟨v11,rfl,own11,o3⟩;obtain ⟨a11,c11,e1⟩:=(Bs.of_own own11).len;subst e1;have B8':Hid (Bs .u8 w3 (.slice a8 m8 c8) (e8c (s.map Prod.fst))∧NoCap (.slice a8 m8 c8)):=⟨B8.out.1.past o3,B8.out.2⟩;have B11:Hid (Bs .u8 w3 (.slice a11 (e11c (s.map Prod.snd)).length c11) (e11c (s.map Prod.snd))∧NoCap (.slice a11 (e11c (s.map Prod.snd)).length c11)):=⟨Bs.of_own own11,NoCap.of_own own11⟩;have O3:=Qaa (O2.out.same o3);have HC3:=(Qd1 HC2.out o3).2;clear own11 o3 EV HC2 B8;rw [←X8.out] at B8' L8;rw [←X11.out] at B11 L11;rw [←X11.out];generalize hm11:x11.length=m11 at *;have HM11:=Qaa hm11;clear hm11 HG
 have HLL:Hid (([1]++(blk (sb t)++(gs n++(blk x8++blk x11)))).length≤140737488355328):=by
  have q1:=QbL (sb t) (by rw [QaE];omega);have q2:=QbL x8 (by have:=L8.out;omega);have q3:=QbL x11 (by have:=L11.out;have:=HM11.out;omega);have q4:=QaC (v:=n) (by omega);have q5:=L8.out;have q6:=L11.out;have q7:=HM11.out;rw [QaE] at q1;simp only [Hid,Yae,Yah,List.length_nil];omega
 have hwn:IntKind.u64.wrap (n:Int)=n:=by rw [IntKind.wrap_u64];omega
 obtain ⟨hca,hcb⟩:=HC3;clear O1 O2;go_wp2_with fail;have hS3:Only (fun _=>False) w3 w3∧w3.cell? ⟨w.heap.size,0,none⟩=some (Value.string t)∧w3.cell? ⟨w.heap.size,1,none⟩=some (Value.slice ao n cap):=⟨Only.refl _ _,hca,hcb⟩;clear hca hcb
 go_region_held (fun W=>Only (fun _=>False) w3 W∧W.cell? ⟨w.heap.size,0,none⟩=some (Value.string t)∧W.cell? ⟨w.heap.size,1,none⟩=some (Value.slice ao n cap)) ((refine Qd1 hS3 ?_;(repeat (first | with_reducible exact Only.refl _ _ | assumption|(with_reducible refine Only.drew ?_)|(with_reducible refine Only.alloc ?_ _)|(with_reducible apply Only.same;case k=>assumption)))))
  (first
   | (go_at_call 50;refine (Qaz (.slice none 0 0) [] n _ (Bs.nil _ _) NoCap.nil (by simp) (by omega) (by omega)).mono ?_;rintro e wv ⟨vv,rfl,ownv,ov⟩;rw [List.nil_append,Int.toNat_natCast] at ownv;(obtain ⟨av,cv,ev⟩:=(Bs.of_own ownv).len);subst ev)
   | (go_at_call_of 24 (t.size);refine (QcW _ (sb t) _ (Qb6 (by (repeat (first | (with_reducible refine Qas ?_;simp;done) | (with_reducible refine Qbk ?_) | (with_reducible refine Qaq ?_)))) (grownCap_ge _ _ _ _)) (NoCap.some _ _ _) (by rw [QaE];omega)).mono ?_;rintro e wt ⟨vt,rfl,ownt,ot⟩;(obtain ⟨at1,ct,et⟩:=(Bs.of_own ownt).len);subst et)
   | (go_at_call_of 24 m8;refine (QcW _ x8 _ (B8'.out.1.past (by (repeat (first | with_reducible exact Only.refl _ _ | assumption | (with_reducible refine Only.drew ?_) | (with_reducible refine Only.alloc ?_ _) | (with_reducible apply Only.same;case k=>assumption))))) B8'.out.2 (by have:=L8.out;omega)).mono ?_;rintro e w8 ⟨v8,rfl,own8,o8⟩;(obtain ⟨ab8,cb8,eb8⟩:=(Bs.of_own own8).len);subst eb8)
   | (go_at_call_of 24 m11;refine (QcW _ x11 _ (B11.out.1.past (by (repeat (first | with_reducible exact Only.refl _ _ | assumption | (with_reducible refine Only.drew ?_) | (with_reducible refine Only.alloc ?_ _) | (with_reducible apply Only.same;case k=>assumption))))) B11.out.2 (by have:=L11.out;have:=HM11.out;omega)).mono ?_;rintro e wp ⟨vp,rfl,ownp,op⟩;(obtain ⟨ap,cp,ep⟩:=(Bs.of_own ownp).len);subst ep)
   | (go_at_call 25;refine Calls.mono (Qh7 (l0:=[1]) (l1:=blk (sb t)) (l2:=gs n) (l3:=blk x8) (l4:=blk x11) (by (repeat (first | (with_reducible refine Qas ?_;simp;done) | (with_reducible refine Qbk ?_) | (with_reducible refine Qaq ?_)))) (by (repeat (first | (with_reducible refine Qr5 ?_;(repeat (first | (with_reducible refine Qas ?_;simp;done) | (with_reducible refine Qbk ?_) | (with_reducible refine Qaq ?_)));done) | (with_reducible refine Bs.past ?_ ((Only.refl _ _).drew)) | (with_reducible refine Bs.past ?_ ((Only.refl _ _).alloc _)) | (with_reducible apply Bs.past;case o=>assumption)))) (by (repeat (first | (with_reducible apply Bs.of_own;assumption) | (with_reducible refine Bs.past ?_ ((Only.refl _ _).drew)) | (with_reducible refine Bs.past ?_ ((Only.refl _ _).alloc _)) | (with_reducible apply Bs.past;case o=>assumption)))) (by (repeat (first | (with_reducible apply Bs.of_own;assumption) | (with_reducible refine Bs.past ?_ ((Only.refl _ _).drew)) | (with_reducible refine Bs.past ?_ ((Only.refl _ _).alloc _)) | (with_reducible apply Bs.past;case o=>assumption)))) (by (repeat (first | (with_reducible apply Bs.of_own;assumption) | (with_reducible refine Bs.past ?_ ((Only.refl _ _).drew)) | (with_reducible refine Bs.past ?_ ((Only.refl _ _).alloc _)) | (with_reducible apply Bs.past;case o=>assumption)))) (by (repeat (first | (with_reducible apply Bs.of_own;assumption) | (with_reducible refine Bs.past ?_ ((Only.refl _ _).drew)) | (with_reducible refine Bs.past ?_ ((Only.refl _ _).alloc _)) | (with_reducible apply Bs.past;case o=>assumption)))) (NoCap.some _ _ _) (by (with_reducible exact NoCap.of_own (by assumption))) (by (with_reducible exact NoCap.of_own (by assumption))) (by (with_reducible exact NoCap.of_own (by assumption))) (by (with_reducible exact NoCap.of_own (by assumption))) (by simp) HLL.out) ?_;rintro e wc ⟨vc,rfl,ownc,oc⟩))
 all_goals
  go_wp2;go_ret2;refine ⟨vc,rfl,Qaf (show World.ownsRow _ _ _ _ _ (1 :: (blk (sb t)++(gs n++(blk x8++blk x11)))).length ((1 :: (blk (sb t)++(gs n++(blk x8++blk x11)))).map (Value.int .u8)) from ownc) (Nat.le_trans O3.out.size (Only.size (S:=fun _=>False) ?_)),Only.same O3.out ?_⟩
  all_goals (repeat (first | with_reducible exact Only.refl _ _ | assumption|(with_reducible refine Only.drew ?_)|(with_reducible refine Only.alloc ?_ _)|(with_reducible apply Only.same;case k=>assumption)))
theorem QgV (t:ByteArray) (u:Value) (s:List (Int × Int)) (w:World) (h:Sps w u s) (hg:Gs s) (hm:s.length≤maxLen) (hm2:t.size≤maxLen) (hT:Tab w) :
  Calls prog 97 #[.agg #[.string t,u]] w fun e w'=>∃v',e=.returned (.tuple #[v',.int .i64 (ENCC (sb t) s).2])∧w'.ownsRow w.heap.size 5 1 v' (ENCC (sb t) s).1.length ((ENCC (sb t) s).1.map (Value.int .u8))∧Only (fun _=>False) w w':=by
 by_cases hl:64<t.size∨65536<s.length
 ·rw [Qdf (by rw [QaE];exact hl)]
  refine (QfK t u s w h hl hm hm2).mono ?_;rintro e w' ⟨rfl,o⟩;exact ⟨_,rfl,World.ownsRow_nil _ _ _ _,o⟩
 ·have e:(ENCC (sb t) s).2=0:=by rw [QfJ (by rw [QaE];omega) (by omega)]
  rw [e];exact Qh8 t u s w h hg (by omega) (by omega) hT
end
end Go.Proofs.YtnhapmboienipaaGreatDoor
