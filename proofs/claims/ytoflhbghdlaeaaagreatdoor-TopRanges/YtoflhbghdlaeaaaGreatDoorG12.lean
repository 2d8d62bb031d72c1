import Derived.Test.YtoflhbghdlaeaaaGreatDoorG11
import Derived.Laws.EntriesVeiled
import Derived.Test.YtoflhbghdlaeaaaGreatDoorG8
namespace Go.Proofs.YtoflhbghdlaeaaaGreatDoor
set_option maxHeartbeats 1600000
set_option maxRecDepth 100000
open Go.RowKit _root_.Go.Proofs.Tryz
variable {w w' W:World} {v:Value} {ys xs l:LI} {R n p k g B:Nat} {P:Program} {ls:List (LI)} {E:TypeId}
theorem Mr (i:Nat) (x:List (LI)) (t:Nat) (h:i<=t):(List.replicate i []++x).getD t []=x.getD (t - i) []:=by
 rw[Qd,Qd,List.getElem?_append_right (by rw[List.length_replicate];exact h),List.length_replicate]
theorem Mc (i:Nat) (x:List (LI)) (lo hi:Nat) (h:i<=lo):Qx (List.replicate i []++x) lo hi=Qx x (lo - i) (hi - i):=by
 unfold Qx;rw[List.drop_append,List.length_replicate,List.drop_of_length_le (by rw[List.length_replicate];exact h),List.nil_append]
 congr 1;omega
theorem wB {f lo hi i:Nat} {x p:List (LI)} (hlt:lo<hi) (hf:hi - lo<f) (h1:i<=lo) (h2:hi<=i+x.length):Qw f lo hi i x p=(QB (Qx x (lo - i) (hi - i)),p):=by
 rw[Xc f (List.replicate i []++x) lo hi i x p hlt hf (by rw[Qc,List.length_replicate];exact h2) h1 h2 (λt a b=>(Mr i x t a).symm),Mc _ _ _ _ h1]
theorem Te {f lo hi i:Nat} {x p:List (LI)} (a:Nat) (h0:0<x.length) (hlt:lo<hi) (hf:hi - lo<f):(Qw f lo hi i x (p.drop a)).2=p.drop (a+Ql f lo hi i (i+x.length - 1)):=by
 have h1:=J6 f lo hi i x x p p a rfl;have h2:=JC f lo hi i x x p p a h0 hlt hf;rw[<-h1.2.2.1,h2]
theorem VP:∀(f lo hi i:Nat) (x p:List (LI)),R8 x->R8 p->U8 (Qw f lo hi i x p).1∧(Qw f lo hi i x p).1.length<=1000000000
 | 0,_,_,_,_,_,_,_=>⟨λy hy=>by simp[Qw] at hy,by simp[Qw]⟩
 | f+1,lo,hi,i,x,p,hx,hp=>by
  unfold Qw
  split
  ·simp only;rw[Zr];exact hp.at 0
  ·split
   ·exact hx.at _
   ·exact⟨V3 _,by rw[Zb];decide⟩
theorem GO (p:List (LI)) (a:Nat):(p.drop a).headD []=p.getD a []:=by
 rw[List.headD_eq_head?_getD,List.head?_drop,Qd]
structure WK (w:World) (b0 b1 b2 b3 b4 b5 i j:Nat) (fa fb fc fp:Value):Prop where
 c0:w.cell? ⟨b0,0,none⟩=some (.int .i64 i)
 c1:w.cell? ⟨b1,0,none⟩=some (.int .i64 j)
 c2:w.cell? ⟨b2,0,none⟩=some fa
 c3:w.cell? ⟨b3,0,none⟩=some fb
 c4:w.cell? ⟨b4,0,none⟩=some fc
 c5:w.cell? ⟨b5,0,none⟩=some fp
theorem WK.past {b0 b1 b2 b3 b4 b5 i j:Nat} {fa fb fc fp:Value} (h:WK w b0 b1 b2 b3 b4 b5 i j fa fb fc fp) (o:N0 w w'):WK w' b0 b1 b2 b3 b4 b5 i j fa fb fc fp :=
 ⟨Qv h.c0 o,Qv h.c1 o,Qv h.c2 o,Qv h.c3 o,Qv h.c4 o,Qv h.c5 o⟩
theorem Ue:∀(f lo hi i j:Nat),lo<hi->Ql f lo hi i j<=hi - lo
 | 0,_,_,_,_,_=>Nat.zero_le _
 | f+1,lo,hi,i,j,h=>by
  unfold Ql
  split
  ·omega
  ·split
   ·omega
   ·have h3:2<=hi - lo:=Kb h (by assumption) (by assumption)
    have a:=YK h3;have b:=Y8 (hi - lo);have:=Ue f lo (lo+HALF (hi - lo)) i j (by omega);have:=Ue f (lo+HALF (hi - lo)) hi i j (by omega);omega
theorem pl1 (x y:Int) (w:World):Calls prog 140 #[.int .i64 x,.int .i64 y] w λe w'=>e=.returned (.int .i64 0)∧w=w':=by
 go_enter func140,ntmps140;go_wp2;go_ret;exact⟨rfl,rfl⟩
theorem pl2 (x y:Int) (w:World):Calls prog 141 #[.int .i64 x,.int .i64 y] w λe w'=>e=.returned (.int .i64 1)∧w=w':=by
 go_enter func141,ntmps141;go_wp2;go_ret;exact⟨rfl,rfl⟩
theorem pl3 (x y:Nat) (w:World) (hx:x<=1000000000) (hy:y<=1000000000):Calls prog 142 #[.int .i64 x,.int .i64 y] w λe w'=>e=.returned (.int .i64 ((x+y:Nat):Int))∧w=w':=by
 go_enter func142,ntmps142;go_wp2;go_ret;exact⟨YP (by omega),rfl⟩
theorem plp (b0 b1 b2 b3 b4 b5 i j:Nat) (hij:i<=j):∀(k lo hi:Nat) (w:World),lo<hi->hi - lo<=k->hi<=1000000000 ->
 WK w b0 b1 b2 b3 b4 b5 i j (.func (.func 140) #[] #[]) (.func (.func 141) #[] #[]) (.func (.func 142) #[] #[]) (.func (.func 179) #[] #[.pointer (some ⟨b0,0,none⟩),.pointer (some ⟨b1,0,none⟩),.pointer (some ⟨b2,0,none⟩),.pointer (some ⟨b3,0,none⟩),.pointer (some ⟨b4,0,none⟩),.pointer (some ⟨b5,0,none⟩)]) ->
 Calls prog 179 #[.int .i64 lo,.int .i64 hi,.pointer (some ⟨b0,0,none⟩),.pointer (some ⟨b1,0,none⟩),.pointer (some ⟨b2,0,none⟩),.pointer (some ⟨b3,0,none⟩),.pointer (some ⟨b4,0,none⟩),.pointer (some ⟨b5,0,none⟩)] w
  λe w'=>e=.returned (.int .i64 ((Ql (k+1) lo hi i j:Nat):Int))∧N0 w w':=by
 intro k
 induction k with
 | zero=>intro lo hi w h1 h2;omega
 | succ k ih =>
  intro lo hi w hlt hk hh hw;have HW:=Qa hw;obtain⟨c0,c1,c2,c3,c4,c5⟩:=hw;obtain⟨x,hx⟩:=EX (hi - 1)
  have ex:(hi:Int) - 1=(x:Int):=by omega
  by_cases hA:i<=lo∧hi<=j+1
  ·skip
   have e:Ql (k+1+1) lo hi i j=0:=by rw[Ql,if_pos hA]
   rw[e];have A:=Qa (pl1 lo hi w);have d1:decide (i<=lo)=true:=Qe (by omega);have h0:decide ((i:Int)<=(lo:Int))=true:=Qe (by omega);have d2:decide (x<=j)=true:=Qe (by omega);have h8:decide ((x:Int)<=(j:Int))=true:=Qe (by omega)
   have h4:(x:Int)<=1000000000:=by omega
   have h6:(lo:Int)<=1000000000:=by omega
   have h5:(hi:Int)<=1000000000:=by omega
   clear ih hlt hk hh hx hA HW e hij;go_enter func179,ntmps179;go_wp2_with fail;refine A.o.mono ?_;rintro e w1 ⟨rfl,rfl⟩;go_wp2;go_ret;exact⟨rfl,Only.refl _ _⟩
  ·by_cases hB:j<lo∨hi<=i
   ·by_cases hB1:hi<=i
    ·skip
     have e:Ql (k+1+1) lo hi i j=1:=by rw[Ql,if_neg hA,if_pos hB]
     rw[e];have A:=Qa (pl2 lo hi w);have d1:decide (i<=lo)=false:=Qb (by omega);have h0:decide ((i:Int)<=(lo:Int))=false:=Qb (by omega);have d3:decide (x<i)=true:=Qe (by omega);have h7:decide ((x:Int)<(i:Int))=true:=Qe (by omega)
     have h4:(x:Int)<=1000000000:=by omega
     have h6:(lo:Int)<=1000000000:=by omega
     have h5:(hi:Int)<=1000000000:=by omega
     clear ih hlt hk hh hx hA HW e hij hB hB1;go_enter func179,ntmps179;go_wp2_with fail;refine A.o.mono ?_;rintro e w1 ⟨rfl,rfl⟩;go_wp2;go_ret;exact⟨rfl,Only.refl _ _⟩
    ·skip
     have e:Ql (k+1+1) lo hi i j=1:=by rw[Ql,if_neg hA,if_pos hB]
     rw[e];have A:=Qa (pl2 lo hi w);have d1:decide (i<=lo)=true:=Qe (by omega);have h0:decide ((i:Int)<=(lo:Int))=true:=Qe (by omega);have d2:decide (x<=j)=false:=Qb (by omega);have h8:decide ((x:Int)<=(j:Int))=false:=Qb (by omega);have d3:decide (x<i)=false:=Qb (by omega);have h7:decide ((x:Int)<(i:Int))=false:=Qb (by omega);have d4:decide (j<lo)=true:=Qe (by omega);have h9:decide ((j:Int)<(lo:Int))=true:=Qe (by omega)
     have h4:(x:Int)<=1000000000:=by omega
     have h6:(lo:Int)<=1000000000:=by omega
     have h5:(hi:Int)<=1000000000:=by omega
     clear ih hlt hk hh hx hA HW e hij hB hB1;go_enter func179,ntmps179;go_wp2_with fail;refine A.o.mono ?_;rintro e w1 ⟨rfl,rfl⟩;go_wp2;go_ret;exact⟨rfl,Only.refl _ _⟩
   ·have h3:=Kb hlt hA hB
    by_cases hC:i<=lo
    ·skip
     obtain⟨n,hn⟩:=EX (hi - lo);obtain⟨q,hq⟩:=EX (HALF n);have q1:=Y8 n;have q2:=YK (n:=n) (by omega);rw[<-hq] at q1 q2;obtain⟨m,hm⟩:=EX (lo+q)
     have es:(hi:Int) - (lo:Int)=(n:Int):=by omega
     have em:(lo:Int)+(q:Int)=(m:Int):=by omega
     have AL:=Qa (λ(W:World)=>WE n (by omega) (by omega) W);rw[<-hq] at AL
     have e:Ql (k+1+1) lo hi i j=Ql (k+1) lo m i j+Ql (k+1) m hi i j:=by rw[Ql,if_neg hA,if_neg hB,hm,hq,hn]
     rw[e];have s1:=Ue (k+1) lo m i j (by omega);have s2:=Ue (k+1) m hi i j (by omega);have T1:=Qa (λW (o:N0 w W)=>ih lo m W (by omega) (by omega) (by omega) (HW.o.past o));have T2:=Qa (λW (o:N0 w W)=>ih m hi W (by omega) (by omega) (by omega) (HW.o.past o));obtain⟨y,hy⟩:=EX (Ql (k+1) lo m i j);obtain⟨z,hz⟩:=EX (Ql (k+1) m hi i j);rw[<-hy] at T1 s1 ⊢;rw[<-hz] at T2 s2 ⊢;have T3:=Qa (λ(W:World)=>pl3 y z W (by omega) (by omega))
     have hqb:(q:Int)<=1000000000:=by omega
     have hmb:(m:Int)<=1000000000:=by omega
     have hnb:(n:Int)<=1000000000:=by omega
     have d1:decide (i<=lo)=true:=Qe (by omega);have h0:decide ((i:Int)<=(lo:Int))=true:=Qe (by omega);have d2:decide (x<=j)=false:=Qb (by omega);have h8:decide ((x:Int)<=(j:Int))=false:=Qb (by omega);have d3:decide (x<i)=false:=Qb (by omega);have h7:decide ((x:Int)<(i:Int))=false:=Qb (by omega);have d4:decide (j<lo)=false:=Qb (by omega);have h9:decide ((j:Int)<(lo:Int))=false:=Qb (by omega)
     have h4:(x:Int)<=1000000000:=by omega
     have h6:(lo:Int)<=1000000000:=by omega
     have h5:(hi:Int)<=1000000000:=by omega
     clear ih hlt hk hh hx hA HW e hij hB hC h3 hn hq hm hy hz s1 s2 q1 q2;go_enter func179,ntmps179;go_wp2_with fail;refine (AL.o _).mono ?_;rintro e w1 ⟨rfl,rfl⟩;clear AL;go_wp2_with fail;go_region_held3 (λW=>W.cell? ⟨b4,0,none⟩=some (.func (.func 142) #[] #[])∧W.cell? ⟨b5,0,none⟩=some (.func (.func 179) #[] #[.pointer (some ⟨b0,0,none⟩),.pointer (some ⟨b1,0,none⟩),.pointer (some ⟨b2,0,none⟩),.pointer (some ⟨b3,0,none⟩),.pointer (some ⟨b4,0,none⟩),.pointer (some ⟨b5,0,none⟩)])) (go_keep) (first|(go_at_call 179;refine (T1.o _ ((Only.refl _ _).drew)).mono ?_;rintro e w1 ⟨rfl,o1⟩;have O1:=Qa (((Only.refl (λ_=>False) w).drew).same o1);have k4:=Qv c4 O1.o;have k5:=Qv c5 O1.o;clear o1 T1)|(go_at_call 179;refine (T2.o _ O1.o).mono ?_;rintro e w2 ⟨rfl,o2⟩;have O2:=Qa (O1.o.same o2);have k4':=Qv c4 O2.o;have k5':=Qv c5 O2.o;clear o2 T2)|(go_at_call 142;refine (T3.o _).mono ?_;rintro e w3 ⟨rfl,rfl⟩;clear T3));go_wp2;go_ret;exact⟨rfl,O2.o⟩
    ·skip
     obtain⟨n,hn⟩:=EX (hi - lo);obtain⟨q,hq⟩:=EX (HALF n);have q1:=Y8 n;have q2:=YK (n:=n) (by omega);rw[<-hq] at q1 q2;obtain⟨m,hm⟩:=EX (lo+q)
     have es:(hi:Int) - (lo:Int)=(n:Int):=by omega
     have em:(lo:Int)+(q:Int)=(m:Int):=by omega
     have AL:=Qa (λ(W:World)=>WE n (by omega) (by omega) W);rw[<-hq] at AL
     have e:Ql (k+1+1) lo hi i j=Ql (k+1) lo m i j+Ql (k+1) m hi i j:=by rw[Ql,if_neg hA,if_neg hB,hm,hq,hn]
     rw[e];have s1:=Ue (k+1) lo m i j (by omega);have s2:=Ue (k+1) m hi i j (by omega);have T1:=Qa (λW (o:N0 w W)=>ih lo m W (by omega) (by omega) (by omega) (HW.o.past o));have T2:=Qa (λW (o:N0 w W)=>ih m hi W (by omega) (by omega) (by omega) (HW.o.past o));obtain⟨y,hy⟩:=EX (Ql (k+1) lo m i j);obtain⟨z,hz⟩:=EX (Ql (k+1) m hi i j);rw[<-hy] at T1 s1 ⊢;rw[<-hz] at T2 s2 ⊢;have T3:=Qa (λ(W:World)=>pl3 y z W (by omega) (by omega))
     have hqb:(q:Int)<=1000000000:=by omega
     have hmb:(m:Int)<=1000000000:=by omega
     have hnb:(n:Int)<=1000000000:=by omega
     have d1:decide (i<=lo)=false:=Qb (by omega);have h0:decide ((i:Int)<=(lo:Int))=false:=Qb (by omega);have d3:decide (x<i)=false:=Qb (by omega);have h7:decide ((x:Int)<(i:Int))=false:=Qb (by omega);have d4:decide (j<lo)=false:=Qb (by omega);have h9:decide ((j:Int)<(lo:Int))=false:=Qb (by omega)
     have h4:(x:Int)<=1000000000:=by omega
     have h6:(lo:Int)<=1000000000:=by omega
     have h5:(hi:Int)<=1000000000:=by omega
     clear ih hlt hk hh hx hA HW e hij hB hC h3 hn hq hm hy hz s1 s2 q1 q2;go_enter func179,ntmps179;go_wp2_with fail;refine (AL.o _).mono ?_;rintro e w1 ⟨rfl,rfl⟩;clear AL;go_wp2_with fail;go_region_held3 (λW=>W.cell? ⟨b4,0,none⟩=some (.func (.func 142) #[] #[])∧W.cell? ⟨b5,0,none⟩=some (.func (.func 179) #[] #[.pointer (some ⟨b0,0,none⟩),.pointer (some ⟨b1,0,none⟩),.pointer (some ⟨b2,0,none⟩),.pointer (some ⟨b3,0,none⟩),.pointer (some ⟨b4,0,none⟩),.pointer (some ⟨b5,0,none⟩)])) (go_keep) (first|(go_at_call 179;refine (T1.o _ ((Only.refl _ _).drew)).mono ?_;rintro e w1 ⟨rfl,o1⟩;have O1:=Qa (((Only.refl (λ_=>False) w).drew).same o1);have k4:=Qv c4 O1.o;have k5:=Qv c5 O1.o;clear o1 T1)|(go_at_call 179;refine (T2.o _ O1.o).mono ?_;rintro e w2 ⟨rfl,o2⟩;have O2:=Qa (O1.o.same o2);have k4':=Qv c4 O2.o;have k5':=Qv c5 O2.o;clear o2 T2)|(go_at_call 142;refine (T3.o _).mono ?_;rintro e w3 ⟨rfl,rfl⟩;clear T3));go_wp2;go_ret;exact⟨rfl,O2.o⟩
theorem Blk.newAt {G:Nat} (h:w.heap.size=G) (t:TypeId) (cs:List Value):Blk (w.alloc (.cells cs.toArray t)) G t cs:=by
 subst h;exact Blk.new w t cs
theorem WK.made (w:World) (i j:Nat) (fa fb fc fp:Value) (tf tg th:TypeId) :
 WK ((((((w.alloc (.cells #[.int .i64 (i:Int)] 3)).alloc (.cells #[.int .i64 (j:Int)] 3)).alloc (.cells #[fa] tf)).alloc (.cells #[fb] tf)).alloc (.cells #[fc] tg)).alloc (.cells #[fp] th)) w.heap.size (w.heap.size+1) (w.heap.size+1+1) (w.heap.size+1+1+1) (w.heap.size+1+1+1+1) (w.heap.size+1+1+1+1+1) i j fa fb fc fp
 ∧ N0 w ((((((w.alloc (.cells #[.int .i64 (i:Int)] 3)).alloc (.cells #[.int .i64 (j:Int)] 3)).alloc (.cells #[fa] tf)).alloc (.cells #[fb] tf)).alloc (.cells #[fc] tg)).alloc (.cells #[fp] th)):=by
 obtain⟨w1,h1⟩:=EX (w.alloc (.cells #[.int .i64 (i:Int)] 3));obtain⟨w2,h2⟩:=EX (w1.alloc (.cells #[.int .i64 (j:Int)] 3));obtain⟨w3,h3⟩:=EX (w2.alloc (.cells #[fa] tf));obtain⟨w4,h4⟩:=EX (w3.alloc (.cells #[fb] tf));obtain⟨w5,h5⟩:=EX (w4.alloc (.cells #[fc] tg));obtain⟨w6,h6⟩:=EX (w5.alloc (.cells #[fp] th));rw[<-h1,<-h2,<-h3,<-h4,<-h5,<-h6]
 have s1:w1.heap.size=w.heap.size+1:=by rw[h1,size_alloc]
 have s2:w2.heap.size=w.heap.size+1+1:=by rw[h2,size_alloc,s1]
 have s3:w3.heap.size=w.heap.size+1+1+1:=by rw[h3,size_alloc,s2]
 have s4:w4.heap.size=w.heap.size+1+1+1+1:=by rw[h4,size_alloc,s3]
 have s5:w5.heap.size=w.heap.size+1+1+1+1+1:=by rw[h5,size_alloc,s4]
 have o2:N0 w1 w2:=by rw[h2];exact (Only.refl _ _).alloc _
 have o3:N0 w2 w3:=by rw[h3];exact (Only.refl _ _).alloc _
 have o4:N0 w3 w4:=by rw[h4];exact (Only.refl _ _).alloc _
 have o5:N0 w4 w5:=by rw[h5];exact (Only.refl _ _).alloc _
 have o6:N0 w5 w6:=by rw[h6];exact (Only.refl _ _).alloc _
 have o1:N0 w w1:=by rw[h1];exact (Only.refl _ _).alloc _
 have b1:Blk w1 w.heap.size 3 [.int .i64 (i:Int)]:=by rw[h1];exact Blk.new w 3 [.int .i64 (i:Int)]
 have b2:Blk w2 (w.heap.size+1) 3 [.int .i64 (j:Int)]:=by rw[h2];exact Blk.newAt s1 3 [.int .i64 (j:Int)]
 have b3:Blk w3 (w.heap.size+1+1) tf [fa]:=by rw[h3];exact Blk.newAt s2 tf [fa]
 have b4:Blk w4 (w.heap.size+1+1+1) tf [fb]:=by rw[h4];exact Blk.newAt s3 tf [fb]
 have b5:Blk w5 (w.heap.size+1+1+1+1) tg [fc]:=by rw[h5];exact Blk.newAt s4 tg [fc]
 have b6:Blk w6 (w.heap.size+1+1+1+1+1) th [fp]:=by rw[h6];exact Blk.newAt s5 th [fp]
 exact⟨⟨(((((b1.past o2).past o3).past o4).past o5).past o6).cell 0,((((b2.past o3).past o4).past o5).past o6).cell 0,(((b3.past o4).past o5).past o6).cell 0,((b4.past o5).past o6).cell 0,(b5.past o6).cell 0,b6.cell 0⟩,((((o1.same o2).same o3).same o4).same o5).same o6⟩
theorem YH {q:Addr} {u:Value} (h:w.cell? q=some u) {S:Nat->Prop} (o:Only S w w') (hs:¬S q.block):w'.cell? q=some u:=by
 rw[<-h];exact World.cell?_of_block (o.block _ (World.block_lt_of_cell? w _ h) hs)
theorem WK.keep {b0 b1 b2 b3 b4 b5 i j:Nat} {fa fb fc fp:Value} (h:WK w b0 b1 b2 b3 b4 b5 i j fa fb fc fp) {T:Nat} (o:Only (λk=>k=T) w w') (h0:b0≠T) (h1:b1≠T) (h2:b2≠T) (h3:b3≠T) (h4:b4≠T) (h5:b5≠T):WK w' b0 b1 b2 b3 b4 b5 i j fa fb fc fp :=
 ⟨YH h.c0 o h0,YH h.c1 o h1,YH h.c2 o h2,YH h.c3 o h3,YH h.c4 o h4,YH h.c5 o h5⟩
theorem Bs.off_num {T:Nat} {a:Int} (hB:Blk w T 3 [.int .i64 a]) (hb:Bs .u8 w v xs) (hx:xs≠[]):∀b,v.ownBlock=some b->¬b=T:=by
 obtain⟨ao,cap,rfl,hc,hr⟩:=hb;obtain⟨b,off,rfl,h1⟩:=hr hx;intro k hk e;simp[Value.ownBlock] at hk;subst hk;subst e;have h0:=h1 0 (List.length_pos_iff.2 hx);rw[hB.cell] at h0
 cases off with
 | zero=>simp at h0
 | succ m=>simp at h0
theorem RL.off_num {T:Nat} {a:Int} {b off n cap:Nat} (hB:Blk w T 3 [.int .i64 a]) (hb:RL w (.slice (some ⟨b,off,none⟩) n cap) ls) (h0:0<ls.length):b≠T:=by
 rintro rfl;obtain⟨u,h1,h2,_⟩:=hb.at 0 h0;obtain⟨ao,c,rfl⟩:=h2.len;rw[hB.cell] at h1
 cases off with
 | zero=>simp at h1
 | succ m=>simp at h1
theorem reb1 (cl ci i lo hi:Nat) (v:Value) (x:List (LI)) (w:World) (h8:R8 x) (hx:x.length<=1000000000) (hr:RL w v x) (h1:i<=lo) (hlt:lo<hi) (h2:hi<=i+x.length) (hh:hi<=1000000000)
 (c0:w.cell? ⟨cl,0,none⟩=some v) (c1:w.cell? ⟨ci,0,none⟩=some (.int .i64 i)) :
 Calls prog 100 #[.int .i64 lo,.int .i64 hi,.pointer (some ⟨cl,0,none⟩),.pointer (some ⟨ci,0,none⟩)] w λe w'=>∃v',e=.returned v'∧w'.ownsRow w.heap.size 5 1 v' (QB (Qx x (lo - i) (hi - i))).length (bl (QB (Qx x (lo - i) (hi - i))))∧N0 w w':=by
 obtain⟨n,hn⟩:∃n,x.length=n:=⟨_,rfl⟩;obtain⟨b,off,cap,rfl,h3⟩:=hr.form hn (by omega);obtain⟨p,hp⟩:=EX (lo - i);obtain⟨q,hq⟩:=EX (hi - i);rw[<-hp,<-hq];have hl:=Ko x p q (by omega);have A:=Qa (JH (q - p) (Qx x p q) _ w (by omega) (by omega) (by omega) (λl hl=>h8 l (List.mem_of_mem_drop (List.mem_of_mem_take hl))) (hr.part p q (by omega) (by omega)));obtain⟨Y,hY⟩:=EX (QB (Qx x p q));rw[<-hY] at A ⊢
 have e1:(lo:Int) - (i:Int)=(p:Int):=by omega
 have e2:(hi:Int) - (i:Int)=(q:Int):=by omega
 have a0:(0:Int)<=(p:Int):=by omega
 have a1:(p:Int)<=(q:Int):=by omega
 have a2:(q:Int)<=(cap:Int):=by omega
 have a3:¬cap=p:=by omega
 have hpb:(p:Int)<=1000000000:=by omega
 have hqb:(q:Int)<=1000000000:=by omega
 clear h8 hx hr h1 hlt h2 hn h3 hp hq hl hY hh;go_enter func100,ntmps100;go_wp2_with fail;refine A.o.mono ?_;rintro e w4 ⟨v4,rfl,h0,h4⟩;have F1:=Qa h0;have F2:=Qa h4;obtain⟨ao4,cap4,e4⟩:=Qm h0;subst e4;clear h0 h4 A;go_wp2;go_ret;exact⟨_,rfl,F1.o,F2.o⟩
theorem reb2 (T cp a:Nat) (lo hi:Int) (v:Value) (p:List (LI)) (w:World) (hr:RL w v p) (ha:a<p.length) (hl:a<=1000000000) (hT:Blk w T 3 [.int .i64 (a:Int)]) (hne:cp≠T)
 (c0:w.cell? ⟨cp,0,none⟩=some v) :
 Calls prog 101 #[.int .i64 lo,.int .i64 hi,.pointer (some ⟨T,0,none⟩),.pointer (some ⟨cp,0,none⟩)] w λe w'=>∃v',e=.returned v'∧Bs .u8 w' v' (p.getD a [])∧NoCap v'∧Blk w' T 3 [.int .i64 ((a+1:Nat):Int)]∧Only (λk=>k=T) w w':=by
 obtain⟨n,hn⟩:∃n,p.length=n:=⟨_,rfl⟩;obtain⟨b,off,cap,rfl,h1⟩:=hr.form hn (by omega);obtain⟨u,hu,h0,nu⟩:=hr.at a ha;have h4:=hr.off_num hT (by omega);have oS:Only (λk=>k=T) w (w.setCell ⟨T,0,none⟩ (.int .i64 ((a+1:Nat):Int))):=Only.setCell (S:=λk=>k=T) (p:=⟨T,0,none⟩) (Only.refl _ _) (λ_=>rfl) _;have h2:=hT.set 0 (.int .i64 ((a+1:Nat):Int));have hc:=hT.cell 0;have hf:=hT.froz 0;have F1:=Qa (And.intro (h0.keepE oS (λhx=>Bs.off_num hT h0 hx)) (And.intro nu (And.intro h2 oS)));have k0:=YH c0 oS hne;have k1:=YH hu oS h4;have k2:=h2.cell 0;obtain⟨ao,cu,rfl⟩:=h0.len;obtain⟨m,hm⟩:=EX ((p.getD a []).length);obtain⟨a',h3⟩:∃a',a'=a+1:=⟨_,rfl⟩;rw[<-hm] at F1 k1;rw[<-h3] at F1 k0 k1 k2 ⊢
 have e1:(a:Int)+1=(a':Int):=by omega
 have e2:(a':Int) - 1=(a:Int):=by omega
 have i0:(0:Int)<=(a:Int):=by omega
 have i1:(a:Int)<(n:Int):=by omega
 have hab:(a':Int)<=1000000001:=by omega
 simp only[List.getElem?_cons_zero] at hc;simp only[Qj,List.getElem?_cons_zero] at k2;clear hr ha hn h1 h0 nu h4 oS h2 hm h3 hu hT c0 hl;go_enter func101,ntmps101;go_wp2;go_ret;exact⟨_,rfl,F1.o⟩
theorem rbp (b0 b1 b2 b3 b4 b5 i j cl ci T cp:Nat) (vx vp:Value) (x p:List (LI)) (w0:World) (x8:R8 x) (p8:R8 p) (hx:x.length<=1000000000) (hpl:p.length<=1000000000) (hx0:0<x.length) (hj:j=i+x.length - 1) (rx:RL w0 vx x) (rp:RL w0 vp p)
 (hcl:w0.cell? ⟨cl,0,none⟩=some vx) (hci:w0.cell? ⟨ci,0,none⟩=some (.int .i64 i)) (hcp:w0.cell? ⟨cp,0,none⟩=some vp) (hT:w0.heap.size<=T) (n0:b0≠T) (n1:b1≠T) (n2:b2≠T) (n3:b3≠T) (n4:b4≠T) (n5:b5≠T) :
 ∀(k lo hi a:Nat) (w:World),lo<hi->hi - lo<=k->hi<=1000000000->a+Ql (k+1) lo hi i j<=p.length->N0 w0 w->Blk w T 3 [.int .i64 (a:Int)] ->
 WK w b0 b1 b2 b3 b4 b5 i j (.func (.func 100) #[] #[.pointer (some ⟨cl,0,none⟩),.pointer (some ⟨ci,0,none⟩)]) (.func (.func 101) #[] #[.pointer (some ⟨T,0,none⟩),.pointer (some ⟨cp,0,none⟩)]) (.func (.func 72) #[] #[]) (.func (.func 144) #[] #[.pointer (some ⟨b0,0,none⟩),.pointer (some ⟨b1,0,none⟩),.pointer (some ⟨b2,0,none⟩),.pointer (some ⟨b3,0,none⟩),.pointer (some ⟨b4,0,none⟩),.pointer (some ⟨b5,0,none⟩)]) ->
 Calls prog 144 #[.int .i64 lo,.int .i64 hi,.pointer (some ⟨b0,0,none⟩),.pointer (some ⟨b1,0,none⟩),.pointer (some ⟨b2,0,none⟩),.pointer (some ⟨b3,0,none⟩),.pointer (some ⟨b4,0,none⟩),.pointer (some ⟨b5,0,none⟩)] w
  λe w'=>∃v,e=.returned v∧Bs .u8 w' v (Qw (k+1) lo hi i x (p.drop a)).1∧NoCap v∧Blk w' T 3 [.int .i64 ((a+Ql (k+1) lo hi i j:Nat):Int)]∧Only (λk=>k=T) w w':=by
 intro k
 induction k with
 | zero=>intro lo hi a w h1 h2;omega
 | succ k ih =>
  intro lo hi a w hlt hk hh ham ho hbT hw;have HW:=Qa hw;obtain⟨c0,c1,c2,c3,c4,c5⟩:=hw;obtain⟨x0,h8⟩:=EX (hi - 1)
  have ex:(hi:Int) - 1=(x0:Int):=by omega
  by_cases hA:i<=lo∧hi<=j+1
  ·skip
   have e:Ql (k+1+1) lo hi i j=0:=by rw[Ql,if_pos hA]
   rw[e,wB hlt (by omega) hA.1 (by omega)];have A:=Qa (reb1 cl ci i lo hi vx x w x8 hx (rx.past ho) hA.1 hlt (by omega) hh (Qv hcl ho) (Qv hci ho));obtain⟨Y,hY⟩:=EX (QB (Qx x (lo - i) (hi - i)));rw[<-hY] at A;simp only;rw[<-hY];have HB:=Qa hbT;have d1:decide (i<=lo)=true:=Qe (by omega);have hd:decide ((i:Int)<=(lo:Int))=true:=Qe (by omega);have d2:decide (x0<=j)=true:=Qe (by omega);have hv:decide ((x0:Int)<=(j:Int))=true:=Qe (by omega)
   have he:(x0:Int)<=1000000000:=by omega
   have hf:(lo:Int)<=1000000000:=by omega
   have ha:(hi:Int)<=1000000000:=by omega
   clear ih hlt hk hh h8 hA HW e ham ho hbT x8 p8 hx hpl hx0 hj rx rp hcl hci hcp hT n0 n1 n2 n3 n4 n5 hY;go_enter func144,ntmps144;go_wp2_with fail;refine A.o.mono ?_;rintro e w1 ⟨v1,rfl,h6,o1⟩;have F:Hid (Bs .u8 w1 v1 Y∧NoCap v1∧Blk w1 T 3 [.int .i64 ((a+0:Nat):Int)]∧Only (λk=>k=T) w w1):=⟨Vl h6,NoCap.of_own h6,HB.o.past o1,o1.mono (λ_ _ f=>f.elim)⟩;obtain⟨h9,h5,e1⟩:=Qm h6;subst e1;clear A o1 h6 HB;go_wp2;go_ret;exact⟨_,rfl,F.o⟩
  ·by_cases hB:j<lo∨hi<=i
   ·by_cases hB1:hi<=i
    ·skip
     have e:Ql (k+1+1) lo hi i j=1:=by rw[Ql,if_neg hA,if_pos hB]
     have e':(Qw (k+1+1) lo hi i x (p.drop a)).1=p.getD a []:=by rw[Qw,if_pos (by omega)];exact GO p a
     rw[e,e'];rw[e] at ham;have A:=Qa (reb2 T cp a lo hi vp p w (rp.past ho) (by omega) (by omega) hbT (λh=>by have:cp<w0.heap.size:=World.block_lt_of_cell? w0 _ hcp;omega) (Qv hcp ho));obtain⟨Y,hY⟩:=EX (p.getD a []);rw[<-hY] at A ⊢;have d1:decide (i<=lo)=false:=Qb (by omega);have hd:decide ((i:Int)<=(lo:Int))=false:=Qb (by omega);have d3:decide (x0<i)=true:=Qe (by omega);have hp:decide ((x0:Int)<(i:Int))=true:=Qe (by omega)
     have he:(x0:Int)<=1000000000:=by omega
     have hf:(lo:Int)<=1000000000:=by omega
     have ha:(hi:Int)<=1000000000:=by omega
     clear ih hlt hk hh h8 hA HW e ham ho hbT x8 p8 hx hpl hx0 hj rx rp hcl hci hcp hT n0 n1 n2 n3 n4 n5 e' hB hB1 hY;go_enter func144,ntmps144;go_wp2_with fail;refine A.o.mono ?_;rintro e w1 ⟨v1,rfl,r1⟩;have F:=Qa r1;obtain⟨h9,h5,e1⟩:=r1.1.len;subst e1;clear A r1;go_wp2;go_ret;exact⟨_,rfl,F.o⟩
    ·skip
     have e:Ql (k+1+1) lo hi i j=1:=by rw[Ql,if_neg hA,if_pos hB]
     have e':(Qw (k+1+1) lo hi i x (p.drop a)).1=p.getD a []:=by rw[Qw,if_pos (by omega)];exact GO p a
     rw[e,e'];rw[e] at ham;have A:=Qa (reb2 T cp a lo hi vp p w (rp.past ho) (by omega) (by omega) hbT (λh=>by have:cp<w0.heap.size:=World.block_lt_of_cell? w0 _ hcp;omega) (Qv hcp ho));obtain⟨Y,hY⟩:=EX (p.getD a []);rw[<-hY] at A ⊢;have d1:decide (i<=lo)=true:=Qe (by omega);have hd:decide ((i:Int)<=(lo:Int))=true:=Qe (by omega);have d2:decide (x0<=j)=false:=Qb (by omega);have hv:decide ((x0:Int)<=(j:Int))=false:=Qb (by omega);have d3:decide (x0<i)=false:=Qb (by omega);have hp:decide ((x0:Int)<(i:Int))=false:=Qb (by omega);have d4:decide (j<lo)=true:=Qe (by omega);have hy:decide ((j:Int)<(lo:Int))=true:=Qe (by omega)
     have he:(x0:Int)<=1000000000:=by omega
     have hf:(lo:Int)<=1000000000:=by omega
     have ha:(hi:Int)<=1000000000:=by omega
     clear ih hlt hk hh h8 hA HW e ham ho hbT x8 p8 hx hpl hx0 hj rx rp hcl hci hcp hT n0 n1 n2 n3 n4 n5 e' hB hB1 hY;go_enter func144,ntmps144;go_wp2_with fail;refine A.o.mono ?_;rintro e w1 ⟨v1,rfl,r1⟩;have F:=Qa r1;obtain⟨h9,h5,e1⟩:=r1.1.len;subst e1;clear A r1;go_wp2;go_ret;exact⟨_,rfl,F.o⟩
   ·have h3:=Kb hlt hA hB
    by_cases hC:i<=lo
    ·skip
     obtain⟨n,hn⟩:=EX (hi - lo);obtain⟨q,hq⟩:=EX (HALF n);have q1:=Y8 n;have q2:=YK (n:=n) (by omega);rw[<-hq] at q1 q2;obtain⟨m,hm⟩:=EX (lo+q)
     have es:(hi:Int) - (lo:Int)=(n:Int):=by omega
     have em:(lo:Int)+(q:Int)=(m:Int):=by omega
     have AL:=Qa (λ(W:World)=>WE n (by omega) (by omega) W);rw[<-hq] at AL
     have e:Ql (k+1+1) lo hi i j=Ql (k+1) lo m i j+Ql (k+1) m hi i j:=by rw[Ql,if_neg hA,if_neg hB,hm,hq,hn]
     have u1:=Te (f:=k+1) (lo:=lo) (hi:=m) (i:=i) (x:=x) (p:=p) a hx0 (by omega) (by omega);rw[<-hj] at u1
     have e':(Qw (k+1+1) lo hi i x (p.drop a)).1=NODE (Qw (k+1) lo m i x (p.drop a)).1 (Qw (k+1) m hi i x (p.drop (a+Ql (k+1) lo m i j))).1:=by
      rw[Qw,if_neg (by omega),if_neg (by omega),<-hn,<-hq,<-hm,u1]
     rw[e,e'];rw[e] at ham;have g1:=VP (k+1) lo m i x (p.drop a) x8 (p8.drop _);have g2:=VP (k+1) m hi i x (p.drop (a+Ql (k+1) lo m i j)) x8 (p8.drop _);have T1:=Qa (λ(W:World) (o:Only (λk=>k=T) w W) (b:Blk W T 3 [.int .i64 (a:Int)])=>ih lo m a W (by omega) (by omega) (by omega) (by omega) (ho.trans o (λi hi e=>by omega)) b (HW.o.keep o n0 n1 n2 n3 n4 n5));have T2:=Qa (λ(W:World) (o:Only (λk=>k=T) w W) (b:Blk W T 3 [.int .i64 ((a+Ql (k+1) lo m i j:Nat):Int)])=>ih m hi (a+Ql (k+1) lo m i j) W (by omega) (by omega) (by omega) (by omega) (ho.trans o (λi hi e=>by omega)) b (HW.o.keep o n0 n1 n2 n3 n4 n5));have T3:=Qa (λ(vl vr:Value) (W:World) (hb:Bs .u8 W vl (Qw (k+1) lo m i x (p.drop a)).1) (hr:Bs .u8 W vr (Qw (k+1) m hi i x (p.drop (a+Ql (k+1) lo m i j))).1)=>XK vl vr _ _ W hb hr g1.1 g2.1 g1.2 g2.2);rw[<-Nat.add_assoc];obtain⟨Y,hY⟩:=EX ((Qw (k+1) lo m i x (p.drop a)).1);obtain⟨Z,hZ⟩:=EX ((Qw (k+1) m hi i x (p.drop (a+Ql (k+1) lo m i j))).1);obtain⟨a1,h4⟩:=EX (a+Ql (k+1) lo m i j);obtain⟨a2,h7⟩:=EX (a1+Ql (k+1) m hi i j);rw[<-h4] at hZ T2 T3;rw[<-hY,<-hZ] at T3;rw[<-hY,<-h4] at T1;rw[<-hZ,<-h7] at T2;rw[<-hY,<-h4,<-hZ,<-h7]
     have hqb:(q:Int)<=1000000000:=by omega
     have hmb:(m:Int)<=1000000000:=by omega
     have hnb:(n:Int)<=1000000000:=by omega
     have HB:=Qa hbT;have N4:=Qa n4;have N5:=Qa n5;have d1:decide (i<=lo)=true:=Qe (by omega);have hd:decide ((i:Int)<=(lo:Int))=true:=Qe (by omega);have d2:decide (x0<=j)=false:=Qb (by omega);have hv:decide ((x0:Int)<=(j:Int))=false:=Qb (by omega);have d3:decide (x0<i)=false:=Qb (by omega);have hp:decide ((x0:Int)<(i:Int))=false:=Qb (by omega);have d4:decide (j<lo)=false:=Qb (by omega);have hy:decide ((j:Int)<(lo:Int))=false:=Qb (by omega)
     have he:(x0:Int)<=1000000000:=by omega
     have hf:(lo:Int)<=1000000000:=by omega
     have ha:(hi:Int)<=1000000000:=by omega
     clear ih hlt hk hh h8 hA HW e ham ho hbT x8 p8 hx hpl hx0 hj rx rp hcl hci hcp hT n0 n1 n2 n3 n4 n5 e' hB hC h3 hn hq hm hY hZ h4 h7 u1 g1 g2 q1 q2;go_enter func144,ntmps144;go_wp2_with fail;refine (AL.o _).mono ?_;rintro e w1 ⟨rfl,rfl⟩;clear AL;go_wp2_with fail;go_region_held3 (λW=>W.cell? ⟨b4,0,none⟩=some (.func (.func 72) #[] #[])∧W.cell? ⟨b5,0,none⟩=some (.func (.func 144) #[] #[.pointer (some ⟨b0,0,none⟩),.pointer (some ⟨b1,0,none⟩),.pointer (some ⟨b2,0,none⟩),.pointer (some ⟨b3,0,none⟩),.pointer (some ⟨b4,0,none⟩),.pointer (some ⟨b5,0,none⟩)])) (go_keep) (first|(go_at_call 144;refine (T1.o _ ((Only.refl _ _).drew) HB.o.drew).mono ?_;rintro e w1 ⟨v1,rfl,r1,r2,r3,o1⟩;have O1:=Qa (((Only.refl (λk=>k=T) w).drew).trans o1 (λ_ _ f=>f));have k4:=YH c4 O1.o N4.o;have k5:=YH c5 O1.o N5.o;have B1:=Qa r1;have K1:=Qa r3;obtain⟨h9,h5,e1⟩:=r1.len;subst e1;clear o1 T1 r1 r2 r3 HB)|(go_at_call 144;refine (T2.o _ O1.o K1.o).mono ?_;rintro e w2 ⟨v2,rfl,r1,r2,r3,o2⟩;have O2:=Qa (O1.o.trans o2 (λ_ _ f=>f));have hu:=YH c4 O2.o N4.o;have hg:=YH c5 O2.o N5.o;have B2:=Qa r1;have K2:=Qa r3;have hs:=Qa (B1.o.keepE o2 (λhx=>Bs.off_num K1.o B1.o hx));obtain⟨ao2,ht,e2⟩:=r1.len;subst e2;clear o2 T2 r1 r2 r3 B1 K1)|(go_at_call 72;refine (T3.o _ _ _ hs.o B2.o).mono ?_;rintro e w3 ⟨v3,rfl,h0,o3⟩;have F:Hid (Bs .u8 w3 v3 (NODE Y Z)∧NoCap v3∧Blk w3 T 3 [.int .i64 (a2:Int)]∧Only (λk=>k=T) w w3):=⟨Vl h0,NoCap.of_own h0,K2.o.past o3,O2.o.trans o3 (λ_ _ f=>f.elim)⟩;obtain⟨ao3,hl,e3⟩:=Qm h0;subst e3;have k6:=Qv hu o3;have k7:=Qv hg o3;clear T3 h0 o3));go_wp2;go_ret;exact⟨_,rfl,F.o⟩
    ·skip
     obtain⟨n,hn⟩:=EX (hi - lo);obtain⟨q,hq⟩:=EX (HALF n);have q1:=Y8 n;have q2:=YK (n:=n) (by omega);rw[<-hq] at q1 q2;obtain⟨m,hm⟩:=EX (lo+q)
     have es:(hi:Int) - (lo:Int)=(n:Int):=by omega
     have em:(lo:Int)+(q:Int)=(m:Int):=by omega
     have AL:=Qa (λ(W:World)=>WE n (by omega) (by omega) W);rw[<-hq] at AL
     have e:Ql (k+1+1) lo hi i j=Ql (k+1) lo m i j+Ql (k+1) m hi i j:=by rw[Ql,if_neg hA,if_neg hB,hm,hq,hn]
     have u1:=Te (f:=k+1) (lo:=lo) (hi:=m) (i:=i) (x:=x) (p:=p) a hx0 (by omega) (by omega);rw[<-hj] at u1
     have e':(Qw (k+1+1) lo hi i x (p.drop a)).1=NODE (Qw (k+1) lo m i x (p.drop a)).1 (Qw (k+1) m hi i x (p.drop (a+Ql (k+1) lo m i j))).1:=by
      rw[Qw,if_neg (by omega),if_neg (by omega),<-hn,<-hq,<-hm,u1]
     rw[e,e'];rw[e] at ham;have g1:=VP (k+1) lo m i x (p.drop a) x8 (p8.drop _);have g2:=VP (k+1) m hi i x (p.drop (a+Ql (k+1) lo m i j)) x8 (p8.drop _);have T1:=Qa (λ(W:World) (o:Only (λk=>k=T) w W) (b:Blk W T 3 [.int .i64 (a:Int)])=>ih lo m a W (by omega) (by omega) (by omega) (by omega) (ho.trans o (λi hi e=>by omega)) b (HW.o.keep o n0 n1 n2 n3 n4 n5));have T2:=Qa (λ(W:World) (o:Only (λk=>k=T) w W) (b:Blk W T 3 [.int .i64 ((a+Ql (k+1) lo m i j:Nat):Int)])=>ih m hi (a+Ql (k+1) lo m i j) W (by omega) (by omega) (by omega) (by omega) (ho.trans o (λi hi e=>by omega)) b (HW.o.keep o n0 n1 n2 n3 n4 n5));have T3:=Qa (λ(vl vr:Value) (W:World) (hb:Bs .u8 W vl (Qw (k+1) lo m i x (p.drop a)).1) (hr:Bs .u8 W vr (Qw (k+1) m hi i x (p.drop (a+Ql (k+1) lo m i j))).1)=>XK vl vr _ _ W hb hr g1.1 g2.1 g1.2 g2.2);rw[<-Nat.add_assoc];obtain⟨Y,hY⟩:=EX ((Qw (k+1) lo m i x (p.drop a)).1);obtain⟨Z,hZ⟩:=EX ((Qw (k+1) m hi i x (p.drop (a+Ql (k+1) lo m i j))).1);obtain⟨a1,h4⟩:=EX (a+Ql (k+1) lo m i j);obtain⟨a2,h7⟩:=EX (a1+Ql (k+1) m hi i j);rw[<-h4] at hZ T2 T3;rw[<-hY,<-hZ] at T3;rw[<-hY,<-h4] at T1;rw[<-hZ,<-h7] at T2;rw[<-hY,<-h4,<-hZ,<-h7]
     have hqb:(q:Int)<=1000000000:=by omega
     have hmb:(m:Int)<=1000000000:=by omega
     have hnb:(n:Int)<=1000000000:=by omega
     have HB:=Qa hbT;have N4:=Qa n4;have N5:=Qa n5;have d1:decide (i<=lo)=false:=Qb (by omega);have hd:decide ((i:Int)<=(lo:Int))=false:=Qb (by omega);have d3:decide (x0<i)=false:=Qb (by omega);have hp:decide ((x0:Int)<(i:Int))=false:=Qb (by omega);have d4:decide (j<lo)=false:=Qb (by omega);have hy:decide ((j:Int)<(lo:Int))=false:=Qb (by omega)
     have he:(x0:Int)<=1000000000:=by omega
     have hf:(lo:Int)<=1000000000:=by omega
     have ha:(hi:Int)<=1000000000:=by omega
     clear ih hlt hk hh h8 hA HW e ham ho hbT x8 p8 hx hpl hx0 hj rx rp hcl hci hcp hT n0 n1 n2 n3 n4 n5 e' hB hC h3 hn hq hm hY hZ h4 h7 u1 g1 g2 q1 q2;go_enter func144,ntmps144;go_wp2_with fail;refine (AL.o _).mono ?_;rintro e w1 ⟨rfl,rfl⟩;clear AL;go_wp2_with fail;go_region_held3 (λW=>W.cell? ⟨b4,0,none⟩=some (.func (.func 72) #[] #[])∧W.cell? ⟨b5,0,none⟩=some (.func (.func 144) #[] #[.pointer (some ⟨b0,0,none⟩),.pointer (some ⟨b1,0,none⟩),.pointer (some ⟨b2,0,none⟩),.pointer (some ⟨b3,0,none⟩),.pointer (some ⟨b4,0,none⟩),.pointer (some ⟨b5,0,none⟩)])) (go_keep) (first|(go_at_call 144;refine (T1.o _ ((Only.refl _ _).drew) HB.o.drew).mono ?_;rintro e w1 ⟨v1,rfl,r1,r2,r3,o1⟩;have O1:=Qa (((Only.refl (λk=>k=T) w).drew).trans o1 (λ_ _ f=>f));have k4:=YH c4 O1.o N4.o;have k5:=YH c5 O1.o N5.o;have B1:=Qa r1;have K1:=Qa r3;obtain⟨h9,h5,e1⟩:=r1.len;subst e1;clear o1 T1 r1 r2 r3 HB)|(go_at_call 144;refine (T2.o _ O1.o K1.o).mono ?_;rintro e w2 ⟨v2,rfl,r1,r2,r3,o2⟩;have O2:=Qa (O1.o.trans o2 (λ_ _ f=>f));have hu:=YH c4 O2.o N4.o;have hg:=YH c5 O2.o N5.o;have B2:=Qa r1;have K2:=Qa r3;have hs:=Qa (B1.o.keepE o2 (λhx=>Bs.off_num K1.o B1.o hx));obtain⟨ao2,ht,e2⟩:=r1.len;subst e2;clear o2 T2 r1 r2 r3 B1 K1)|(go_at_call 72;refine (T3.o _ _ _ hs.o B2.o).mono ?_;rintro e w3 ⟨v3,rfl,h0,o3⟩;have F:Hid (Bs .u8 w3 v3 (NODE Y Z)∧NoCap v3∧Blk w3 T 3 [.int .i64 (a2:Int)]∧Only (λk=>k=T) w w3):=⟨Vl h0,NoCap.of_own h0,K2.o.past o3,O2.o.trans o3 (λ_ _ f=>f.elim)⟩;obtain⟨ao3,hl,e3⟩:=Qm h0;subst e3;have k6:=Qv hu o3;have k7:=Qv hg o3;clear T3 h0 o3));go_wp2;go_ret;exact⟨_,rfl,F.o⟩
theorem MV (n i j:Nat) (hij:i<=j) (h0:0<n) (hn:n<=1000000000) (w:World) :
 Calls prog 143 #[.int .i64 n,.int .i64 i,.int .i64 j,.func (.func 140) #[] #[],.func (.func 141) #[] #[],.func (.func 142) #[] #[]] w
  λe w'=>e=.returned (.int .i64 ((MANY n i j:Nat):Int))∧N0 w w':=by
 have A:=Qa (λ(b0 b1 b2 b3 b4 b5:Nat) (W:World)=>plp b0 b1 b2 b3 b4 b5 i j hij n 0 n W h0 (by omega) hn);rw[show ((0:Nat):Int)=0 from rfl] at A;obtain⟨y,hy⟩:=EX (MANY n i j);have e:Ql (n+1) 0 n i j=y:=hy.symm;rw[e] at A;rw[<-hy];obtain⟨m4,m5⟩:=WK.made w i j (.func (.func 140) #[] #[]) (.func (.func 141) #[] #[]) (.func (.func 142) #[] #[]) (.func (.func 179) #[] #[.pointer (some ⟨w.heap.size,0,none⟩),.pointer (some ⟨w.heap.size+1,0,none⟩),.pointer (some ⟨w.heap.size+1+1,0,none⟩),.pointer (some ⟨w.heap.size+1+1+1,0,none⟩),.pointer (some ⟨w.heap.size+1+1+1+1,0,none⟩),.pointer (some ⟨w.heap.size+1+1+1+1+1,0,none⟩)]) 188 188 188;have M4:=Qa m4;have M5:=Qa m5;have R:=Qa (A.o _ _ _ _ _ _ _ M4.o);clear hij h0 hn hy e m4 m5 A M4;go_enter func143,ntmps143;go_wp2_with fail;refine R.o.mono ?_;rintro e w1 ⟨rfl,o1⟩;have F:=Qa (M5.o.same o1);clear R o1 M5;go_wp2;go_ret;exact⟨rfl,F.o⟩
theorem EZ (n i j:Nat) (hij:i<=j) (h0:0<n) (hn:n<=1000000000) (w:World) :
 Calls prog 99 #[.int .i64 n,.int .i64 i,.int .i64 j] w λe w'=>e=.returned (.int .i64 ((MANY n i j:Nat):Int))∧N0 w w':=by
 have A:=Qa (MV n i j hij h0 hn w);obtain⟨y,hy⟩:=EX (MANY n i j);rw[<-hy] at A ⊢;clear hy hij h0 hn;go_enter func99,ntmps99;go_wp2_with fail;refine A.o.mono ?_;rintro e w1 ⟨rfl,o1⟩;have F:=Qa o1;clear A o1;go_wp2;go_ret;exact⟨rfl,F.o⟩
theorem Fp (n i j cl ci T cp:Nat) (vx vp:Value) (x p:List (LI)) (w0 w:World) (x8:R8 x) (p8:R8 p) (hn:n<=1000000000) (hx0:0<x.length) (hin:i+x.length<=n) (hj:j=i+x.length - 1) (hp:p.length=MANY n i j) (rx:RL w0 vx x) (rp:RL w0 vp p)
 (hcl:w0.cell? ⟨cl,0,none⟩=some vx) (hci:w0.cell? ⟨ci,0,none⟩=some (.int .i64 i)) (hcp:w0.cell? ⟨cp,0,none⟩=some vp) (hT:w0.heap.size<=T) (ho:N0 w0 w) (hbT:Blk w T 3 [.int .i64 0]) :
 Calls prog 102 #[.int .i64 n,.int .i64 i,.int .i64 j,.func (.func 100) #[] #[.pointer (some ⟨cl,0,none⟩),.pointer (some ⟨ci,0,none⟩)],.func (.func 101) #[] #[.pointer (some ⟨T,0,none⟩),.pointer (some ⟨cp,0,none⟩)],.func (.func 72) #[] #[]] w
  λe w'=>∃v,e=.returned v∧Bs .u8 w' v (MADE n i x p)∧NoCap v∧Only (λk=>k=T) w w':=by
 have hlt:=hbT.lt;have hmn:MANY n i j<=n:=Ue (n+1) 0 n i j (by omega);have A:=Qa (λ(b0 b1 b2 b3 b4 b5:Nat) (n0:b0≠T) (n1:b1≠T) (n2:b2≠T) (n3:b3≠T) (n4:b4≠T) (n5:b5≠T) (W:World) (o:N0 w W)=>rbp b0 b1 b2 b3 b4 b5 i j cl ci T cp vx vp x p w0 x8 p8 (by omega) (by omega) hx0 hj rx rp hcl hci hcp hT n0 n1 n2 n3 n4 n5 n 0 n 0 W (by omega) (by omega) hn (by rw[Nat.zero_add];exact Nat.le_of_eq hp.symm) (ho.same o) (hbT.past o));rw[show ((0:Nat):Int)=0 from rfl] at A;obtain⟨Y,hY⟩:=EX (MADE n i x p)
 have e:(Qw (n+1) 0 n i x (p.drop 0)).1=Y:=by rw[hY,List.drop_zero];rfl
 rw[e] at A;rw[<-hY];obtain⟨m4,m5⟩:=WK.made w i j (.func (.func 100) #[] #[.pointer (some ⟨cl,0,none⟩),.pointer (some ⟨ci,0,none⟩)]) (.func (.func 101) #[] #[.pointer (some ⟨T,0,none⟩),.pointer (some ⟨cp,0,none⟩)]) (.func (.func 72) #[] #[]) (.func (.func 144) #[] #[.pointer (some ⟨w.heap.size,0,none⟩),.pointer (some ⟨w.heap.size+1,0,none⟩),.pointer (some ⟨w.heap.size+1+1,0,none⟩),.pointer (some ⟨w.heap.size+1+1+1,0,none⟩),.pointer (some ⟨w.heap.size+1+1+1+1,0,none⟩),.pointer (some ⟨w.heap.size+1+1+1+1+1,0,none⟩)]) 153 91 153;have M5:=Qa m5;have R:=Qa (A.o _ _ _ _ _ _ (by omega) (by omega) (by omega) (by omega) (by omega) (by omega) _ m5 m4);clear x8 p8 hn hx0 hin hj hp rx rp hcl hci hcp hT ho hbT hlt hmn hY e m4 m5 A;go_enter func102,ntmps102;go_wp2_with fail;refine R.o.mono ?_;rintro e w1 ⟨v1,rfl,r1,r2,r3,o1⟩;have F:=Qa (And.intro r1 (And.intro r2 ((M5.o.mono (λ_ _ f=>f.elim)).trans o1 (λ_ _ f=>f))));obtain⟨ao1,cap1,e1⟩:=r1.len;subst e1;clear R r1 r2 r3 o1 M5;go_wp2;go_ret;exact⟨_,rfl,F.o⟩
abbrev Wx (n i:Int) (x:List (LI)):Prop:=1<=n∧n<=1048576∧0<x.length∧0<=i∧i+x.length<=n
def Ul (n i:Int) (x p:List (LI)):Int:=if Wx n i x then (if p.length=MANY n.toNat i.toNat (i.toNat+x.length - 1) then 0 else 8) else 1
def Y5 (n i:Int) (x p:List (LI)):LI:=if Ul n i x p=0 then MADE n.toNat i.toNat x p else []
theorem uA {n i:Int} {x p:List (LI)} (h:¬Wx n i x):Ul n i x p=1∧Y5 n i x p=[]:=by
 have e:Ul n i x p=1:=if_neg h;exact⟨e,by unfold Y5;rw[e];rfl⟩
theorem wZ {n i:Int} {x p:List (LI)} (h:Wx n i x) (hp:p.length≠MANY n.toNat i.toNat (i.toNat+x.length - 1)):Ul n i x p=8∧Y5 n i x p=[]:=by
 have e:Ul n i x p=8:=by unfold Ul;rw[if_pos h,if_neg hp]
 exact⟨e,by unfold Y5;rw[e];rfl⟩
theorem Lt {n i:Int} {x p:List (LI)} (h:Wx n i x) (hp:p.length=MANY n.toNat i.toNat (i.toNat+x.length - 1)):Ul n i x p=0∧Y5 n i x p=MADE n.toNat i.toNat x p:=by
 have e:Ul n i x p=0:=by unfold Ul;rw[if_pos h,if_pos hp]
 exact⟨e,by unfold Y5;rw[if_pos e]⟩
theorem GR {n i:Int} {x p:List (LI)} (hx:R8 x) (hp:R8 p):U8 (Y5 n i x p)∧(Y5 n i x p).length<=1000000000:=by
 unfold Y5
 split
 ·exact VP _ _ _ _ _ _ hx hp
 ·exact⟨λy hy=>by simp at hy,by simp⟩
theorem uM (n i:Int) (lx:Option Addr) (m cx:Nat) (vp:Value) (hb:n<1∨1048576<n∨m=0) (hp:∃ao l c,vp=.slice ao l c) (w:World) :
 Calls prog 67 #[.int .i64 n,.int .i64 i,.slice lx m cx,vp] w λe w'=>e=.returned (.tuple #[.slice none 0 0,.int .i64 1])∧N0 w w':=by
 obtain⟨ao,l,c,rfl⟩:=hp;have O:=Qa ((((Only.refl (λ_=>False) w).alloc (.cells #[.int .i64 i] 3)).alloc (.cells #[.slice lx m cx] 38)).alloc (.cells #[.slice ao l c] 38))
 by_cases h1:n<1
 ·have d1:decide (n<1)=true:=Qe h1
  clear hb;go_enter func67,ntmps67;go_wp2;go_ret2;exact⟨rfl,O.o⟩
 ·have d1:decide (n<1)=false:=Qb h1
  by_cases h2:1048576<n
  ·have d2:decide (1048576<n)=true:=Qe h2
   clear hb;go_enter func67,ntmps67;go_wp2;go_ret2;exact⟨rfl,O.o⟩
  ·have d2:decide (1048576<n)=false:=Qb h2
   obtain rfl:m=0:=by omega
   clear hb;go_enter func67,ntmps67;go_wp2;go_ret2;exact⟨rfl,O.o⟩
theorem ux (n i:Int) (lx:Option Addr) (m cx:Nat) (vp:Value) (h1:1<=n) (h2:n<=1048576) (h3:0<m) (hm:m<=1000000000) (hb:i<0∨n<i+m) (hp:∃ao l c,vp=.slice ao l c) (w:World) :
 Calls prog 67 #[.int .i64 n,.int .i64 i,.slice lx m cx,vp] w λe w'=>e=.returned (.tuple #[.slice none 0 0,.int .i64 1])∧N0 w w':=by
 obtain⟨ao,l,c,rfl⟩:=hp;have O:=Qa ((((Only.refl (λ_=>False) w).alloc (.cells #[.int .i64 i] 3)).alloc (.cells #[.slice lx m cx] 38)).alloc (.cells #[.slice ao l c] 38));have d1:decide (n<1)=false:=Qb (by omega);have d2:decide (1048576<n)=false:=Qb (by omega)
 have d3:((m:Int) == 0)=false:=by rw[beq_eq_false_iff_ne];omega
 obtain⟨s,hs⟩:∃s:Int,n - m=s:=⟨_,rfl⟩
 by_cases h4:i<0
 ·have d4:decide (i<0)=true:=Qe h4
  clear hb hs;go_enter func67,ntmps67;go_wp2;go_ret2;exact⟨rfl,O.o⟩
 ·have d4:decide (i<0)=false:=Qb h4
  have d5:decide (s<i)=true:=Qe (by omega)
  have s1:s<=1048576:=by omega
  have s2:-1000000000<=s:=by omega
  clear hb;go_enter func67,ntmps67;go_wp2;go_ret2;exact⟨rfl,O.o⟩
end Go.Proofs.YtoflhbghdlaeaaaGreatDoor
