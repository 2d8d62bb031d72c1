import Derived.Test.YtoflhbghdlaeaaaGreatDoorG12
namespace Go.Proofs.YtoflhbghdlaeaaaGreatDoor
set_option maxHeartbeats 1600000
set_option maxRecDepth 100000
open Go.RowKit _root_.Go.Proofs.Tryz
section
set_option linter.unusedVariables false
theorem box3 (w:World) (a b c:Value) (ta tb tc:TypeId) :
 Blk (((w.alloc (.cells #[a] ta)).alloc (.cells #[b] tb)).alloc (.cells #[c] tc)) w.heap.size ta [a]
 ∧ Blk (((w.alloc (.cells #[a] ta)).alloc (.cells #[b] tb)).alloc (.cells #[c] tc)) (w.heap.size+1) tb [b]
 ∧ Blk (((w.alloc (.cells #[a] ta)).alloc (.cells #[b] tb)).alloc (.cells #[c] tc)) (w.heap.size+1+1) tc [c]
 ∧ N0 w (((w.alloc (.cells #[a] ta)).alloc (.cells #[b] tb)).alloc (.cells #[c] tc)):=by
 refine⟨((Blk.new w ta [a]).alloc _).alloc _,(Blk.newAt (size_alloc _ _) tb [b]).alloc _,Blk.newAt (by rw[size_alloc,size_alloc]) tc [c],(((Only.refl _ _).alloc _).alloc _).alloc _⟩
theorem ww (n i:Nat) (vx vp:Value) (x p:List (LI)) (x8:R8 x) (p8:R8 p) (hn:n<=1048576) (hx0:0<x.length) (hin:i+x.length<=n) (hpl:p.length<=1000000000) (w:World) (rx:RL w vx x) (rp:RL w vp p) :
 Calls prog 67 #[.int .i64 n,.int .i64 i,vx,vp] w λe w'=>∃v,e=.returned (.tuple #[v,.int .i64 (if p.length=MANY n i (i+x.length - 1) then 0 else 8)])∧Bs .u8 w' v (if p.length=MANY n i (i+x.length - 1) then MADE n i x p else [])∧NoCap v∧N0 w w':=by
 obtain⟨B0,B1,B2,O0⟩:=box3 w (.int .i64 (i:Int)) vx vp 3 38 38;obtain⟨j,hj⟩:=EX (i+x.length - 1);rw[<-hj]
 have W3:=Qa (λ(W:World) (o:N0 (((w.alloc (.cells #[.int .i64 (i:Int)] 3)).alloc (.cells #[vx] 38)).alloc (.cells #[vp] 38)) W) (hp:p.length=MANY n i j) =>
  Fp n i j (w.heap.size+1) w.heap.size W.heap.size (w.heap.size+1+1) vx vp x p (((w.alloc (.cells #[.int .i64 (i:Int)] 3)).alloc (.cells #[vx] 38)).alloc (.cells #[vp] 38)) (W.alloc (.cells #[.int .i64 0] 3)) x8 p8 (by omega) hx0 hin hj hp (rx.past O0) (rp.past O0) (B1.cell 0) (B0.cell 0) (B2.cell 0) o.size (o.alloc _) (Blk.new W 3 [.int .i64 0]))
 have C0:Hid (∀W,N0 (((w.alloc (.cells #[.int .i64 (i:Int)] 3)).alloc (.cells #[vx] 38)).alloc (.cells #[vp] 38)) W->W.cell? ⟨w.heap.size,0,none⟩=some (.int .i64 (i:Int))):=λW o=>(B0.past o).cell 0
 have C2:Hid (∀W,N0 (((w.alloc (.cells #[.int .i64 (i:Int)] 3)).alloc (.cells #[vx] 38)).alloc (.cells #[vp] 38)) W->W.cell? ⟨w.heap.size+1+1,0,none⟩=some vp):=λW o=>(B2.past o).cell 0
 have PL:=Qa (λ(W:World)=>EZ n i j (by omega) (by omega) (by omega) W);obtain⟨m,hm⟩:=EX x.length;obtain⟨lx,cx,h2,_⟩:=rx.len;obtain⟨lp,cp,h4,_⟩:=rp.len;obtain⟨z,hz⟩:=EX p.length;obtain⟨y,hy⟩:=EX (MANY n i j)
 have h1:y<=n:=by rw[hy];exact Ue (n+1) 0 n i j (by omega)
 rw[<-hz,<-hy] at W3;rw[<-hy] at PL;rw[<-hz,<-hy];rw[<-hm] at h2 hx0 hin hj;rw[<-hz] at h4 hpl;subst h2;subst h4;obtain⟨Y,hY⟩:=EX (MADE n i x p);rw[<-hY] at W3 ⊢;have HO:=Qa O0;have d1:decide ((n:Int)<1)=false:=Qb (by omega);have d2:decide ((1048576:Int)<(n:Int))=false:=Qb (by omega)
 have d3:((m:Int) == 0)=false:=by rw[beq_eq_false_iff_ne];omega
 have d4:decide ((i:Int)<0)=false:=Qb (by omega);obtain⟨s,hs⟩:=EX (n - m)
 have e1:(n:Int) - (m:Int)=(s:Int):=by omega
 have d5:decide ((s:Int)<(i:Int))=false:=Qb (by omega);have d5':decide (s<i)=false:=Qb (by omega);obtain⟨t,ht⟩:=EX (i+m)
 have e2:(i:Int)+(m:Int)=(t:Int):=by omega
 have e3:(t:Int) - 1=(j:Int):=by omega
 have b1:(s:Int)<=1048576:=by omega
 have b2:(t:Int)<=1048576:=by omega
 have b3:(j:Int)<=1048576:=by omega
 have w1:IntKind.i64.wrap (s:Int)=(s:Int):=by rw[IntKind.wrap_i64];omega
 have k0:=C0.o _ (Only.refl _ _);have k2:=C2.o _ (Only.refl _ _)
 by_cases hzy:z=y
 ·have e9:((z:Int) != (y:Int))=false:=by simp;omega
  rw[if_pos hzy,if_pos hzy];have W4:=Qa (λ(W:World) (o:N0 (((w.alloc (.cells #[.int .i64 (i:Int)] 3)).alloc (.cells #[.slice lx m cx] 38)).alloc (.cells #[.slice lp z cp] 38)) W)=>W3.o W o hzy);clear x8 p8 hn hx0 hin hpl rx rp B0 B1 B2 O0 hm hz hy h1 hj hY hs ht hzy W3;go_enter func67,ntmps67;go_wp2_with fail;go_region_held3 (λW=>W.cell? ⟨w.heap.size,0,none⟩=some (.int .i64 (i:Int))∧W.cell? ⟨w.heap.size+1+1,0,none⟩=some (.slice lp z cp)) (go_keep) (first|(go_at_call 99;refine (PL.o _).mono ?_;rintro e w4 ⟨rfl,o4⟩;have O4:=Qa (((Only.refl (λ_=>False) _).drew).same o4);have h3:=C0.o _ O4.o;have h0:=C2.o _ O4.o;clear o4 PL));have k9:=C0.o (w4.alloc (.cells #[.int .i64 0] 3)) (O4.o.alloc _);clear k0 k2;go_wp2_with fail;refine (W4.o w4 O4.o).mono ?_;rintro e w5 ⟨v5,rfl,r1,r2,o5⟩;have F:Hid (Bs .u8 w5 v5 Y∧NoCap v5∧N0 w w5):=⟨r1,r2,(((HO.o.same O4.o).alloc _)).trans o5 (λi hi e=>by have:=HO.o.size;have:=O4.o.size;omega)⟩;obtain⟨ao5,cap5,e5⟩:=r1.len;subst e5;clear r1 r2 o5 W4 O4 HO C0 C2 h3 h0 k9;go_wp2;go_ret2;exact⟨_,rfl,F.o⟩
 ·have e9:((z:Int) != (y:Int))=true:=by simp;omega
  rw[if_neg hzy,if_neg hzy];clear x8 p8 hn hx0 hin hpl rx rp B0 B1 B2 O0 hm hz hy h1 hj hY hs ht hzy W3;go_enter func67,ntmps67;go_wp2_with fail;go_region_held3 (λW=>W.cell? ⟨w.heap.size,0,none⟩=some (.int .i64 (i:Int))∧W.cell? ⟨w.heap.size+1+1,0,none⟩=some (.slice lp z cp)) (go_keep) (first|(go_at_call 99;refine (PL.o _).mono ?_;rintro e w4 ⟨rfl,o4⟩;have O4:=Qa (((Only.refl (λ_=>False) _).drew).same o4);have h3:=C0.o _ O4.o;have h0:=C2.o _ O4.o;clear o4 PL));have F:=Qa (HO.o.same O4.o);go_wp2;go_ret2;exact⟨_,rfl,Bs.nil _ _,NoCap.nil,F.o⟩
theorem DI (n i:Int) (vx vp:Value) (x p:List (LI)) (x8:R8 x) (p8:R8 p) (hxl:x.length<=1000000000) (hpl:p.length<=1000000000) (w:World) (rx:RL w vx x) (rp:RL w vp p) :
 Calls prog 67 #[.int .i64 n,.int .i64 i,vx,vp] w λe w'=>∃v,e=.returned (.tuple #[v,.int .i64 (Ul n i x p)])∧Bs .u8 w' v (Y5 n i x p)∧NoCap v∧N0 w w':=by
 by_cases h:Wx n i x
 ·obtain⟨n',rfl⟩:=Int.eq_ofNat_of_zero_le (show 0<=n by have:=h.1;omega)
  obtain⟨i',rfl⟩:=Int.eq_ofNat_of_zero_le h.2.2.2.1;have A:=ww n' i' vx vp x p x8 p8 (by have:=h.2.1;omega) h.2.2.1 (by have:=h.2.2.2.2;omega) hpl w rx rp
  by_cases hz:p.length=MANY n' i' (i'+x.length - 1)
  ·rw[if_pos hz,if_pos hz] at A
   obtain⟨e1,e2⟩:=Lt (p:=p) h hz;rw[e1,e2];exact A
  ·rw[if_neg hz,if_neg hz] at A
   obtain⟨e1,e2⟩:=wZ (p:=p) h hz;rw[e1,e2];exact A
 ·obtain⟨e1,e2⟩:=uA (p:=p) h
  rw[e1,e2];obtain⟨lx,cx,rfl,_⟩:=rx.len;obtain⟨lp,cp,rfl,_⟩:=rp.len
  by_cases h1:n<1∨1048576<n∨x.length=0
  ·refine (uM n i lx x.length cx _ h1 ⟨_,_,_,rfl⟩ w).mono ?_
   rintro e w' ⟨rfl,o⟩;exact⟨_,rfl,Bs.nil _ _,NoCap.nil,o⟩
  ·refine (ux n i lx x.length cx _ (by omega) (by omega) (by omega) hxl (by unfold Wx at h;omega) ⟨_,_,_,rfl⟩ w).mono ?_
   rintro e w' ⟨rfl,o⟩;exact⟨_,rfl,Bs.nil _ _,NoCap.nil,o⟩
def WG (r:LI) (n i:Int) (x p:List (LI)):Bool:=decide (Ul n i x p=0) && decide (Y5 n i x p=r)
theorem Mj (vr:Value) (r:LI) (n i:Int) (vx vp:Value) (x p:List (LI)) (r8:U8 r) (x8:R8 x) (p8:R8 p) (hxl:x.length<=1000000000) (hpl:p.length<=1000000000) (w:World) (hr:Bs .u8 w vr r) (rx:RL w vx x) (rp:RL w vp p) :
 Calls prog 34 #[vr,.int .i64 n,.int .i64 i,vx,vp] w λe w'=>e=.returned (.bool (WG r n i x p))∧N0 w w':=by
 have A:=Qa (DI n i vx vp x p x8 p8 hxl hpl w rx rp);have S:=Qa (λ(v:Value) (W:World) (hb:Bs .u8 W v (Y5 n i x p)) (o:N0 w W)=>LY v vr (Y5 n i x p) r W hb (hr.past o) (GR x8 p8).1 r8 (by have:=(GR (n:=n) (i:=i) x8 p8).2;omega));unfold WG;obtain⟨D,hD⟩:=EX (decide (Y5 n i x p=r));rw[<-hD] at S ⊢;obtain⟨E,hE⟩:=EX (Ul n i x p);rw[<-hE] at A ⊢;obtain⟨lx,cx,rfl,_⟩:=rx.len;obtain⟨lp,cp,rfl,_⟩:=rp.len;obtain⟨ar,cr,rfl⟩:=hr.len;obtain⟨n1,h1⟩:=EX x.length;obtain⟨n2,h2⟩:=EX p.length;obtain⟨n3,h3⟩:=EX r.length;rw[<-h1,<-h2] at A;rw[<-h3] at S;rw[<-h1,<-h2,<-h3];clear r8 x8 p8 hxl hpl hr rx rp h1 h2 h3 hD hE
 by_cases hz:E=0
 ·have e1:(E == 0)=true:=beq_iff_eq.2 hz
  have e2:decide (E=0)=true:=Qe hz;rw[e2,Bool.true_and];clear e2;subst hz;go_enter func34,ntmps34;go_wp2_with fail;refine A.o.mono ?_;rintro e w1 ⟨v1,rfl,r1,r2,o1⟩;have B:=Qa (S.o v1 w1 r1 o1);obtain⟨ao1,h0,e1⟩:=r1.len;have O1:=Qa o1;subst e1;clear A S r1 r2 o1;go_wp2_with fail;refine B.o.mono ?_;rintro e w2 ⟨rfl,o2⟩;have F:=Qa (O1.o.same o2);clear B o2 O1;go_wp2;go_ret;exact⟨rfl,F.o⟩
 ·have e1:(E == 0)=false:=by rw[beq_eq_false_iff_ne];exact hz
  have e2:decide (E=0)=false:=Qb hz;rw[e2,Bool.false_and];clear S e2;go_enter func34,ntmps34;go_wp2_with fail;refine A.o.mono ?_;rintro e w1 ⟨v1,rfl,r1,r2,o1⟩;obtain⟨ao1,h0,e1⟩:=r1.len;have O1:=Qa o1;subst e1;clear A r1 r2 o1;go_wp2;go_ret;exact⟨rfl,O1.o⟩
end
end Go.Proofs.YtoflhbghdlaeaaaGreatDoor
