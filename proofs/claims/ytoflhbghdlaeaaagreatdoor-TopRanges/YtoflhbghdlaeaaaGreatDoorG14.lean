import Derived.Test.YtoflhbghdlaeaaaGreatDoorG12
namespace Go.Proofs.YtoflhbghdlaeaaaGreatDoor
set_option maxHeartbeats 1600000
set_option maxRecDepth 100000
open Go.RowKit _root_.Go.Proofs.Tryz
variable {w w' W:World} {v:Value} {ys xs l:LI} {R n p k g B:Nat} {P:Program} {ls:List (LI)} {E:TypeId}
theorem Tryz.infoRows:(prog.info? 23).map (λi=>(i.zero,i.size,i.bytes))=some (some (.slice none 0 0),1,24):=by kernel_rfl
theorem VN (w:World) (t:TypeId) (vs:List Value) {base:Nat} (hb:base<=w.heap.size) (hl:vs.length<=maxLen):(w.alloc (.cells vs.toArray t)).ownsRow base t 1 (.slice (some ⟨w.heap.size,0,none⟩) vs.length vs.length) vs.length vs :=
 ⟨(Nat.mul_one _).symm,.inr ⟨w.heap.size,vs.length,vs.toArray,rfl,hb,Blk.new w t vs,Nat.le_refl _,hl,by rw[List.size_toArray,Nat.mul_one],by rw[Nat.mul_one];exact List.take_length⟩⟩
def VS (w:World) (u:Value) (ys:List Value):Prop :=
 ∃ao cap,u=.slice ao ys.length cap∧NoCap u∧(∀y∈ys,y.oneCell'=true)∧(ao=none->ys=[])∧∀ad,ao=some ad->∀j y,ys[j]? = some y->w.cell? (ad.add j)=some y
theorem VS.past {u:Value} {ys:List Value} (h:VS w u ys) (o:N0 w w'):VS w' u ys:=by
 obtain⟨ao,cap,e,h1,h2,h3,h4⟩:=h;exact⟨ao,cap,e,h1,h2,h3,λad ha j y hy=>Qv (h4 ad ha j y hy) o⟩
theorem VS.of_own {lo n:Nat} {e:TypeId} {u:Value} {ys:List Value} (h:w.ownsRow lo e 1 u n ys) (h1:∀y∈ys,y.oneCell'=true):VS w u ys:=by
 have hl:=h.1
 rcases h.2 with ⟨rfl,h0⟩ | ⟨g,cap,cur,rfl,hb,hg,hc,r⟩
 ·have:ys=[]:=List.eq_nil_of_length_eq_zero (by omega)
  subst this;exact⟨none,0,rfl,NoCap.nil,h1,λ_=>rfl,λad e=>by cases e⟩
 ·refine⟨_,cap,by rw[show ys.length=n by omega],NoCap.some _ _ _,h1,λe=>by (cases e),λad e j y hy=>?_⟩
  cases e
  have hj:=(List.getElem?_eq_some_iff.1 hy).1;have:=h.cellAt j (by omega);rw[Go.WideShapes.add_plain,Nat.zero_add,this,hy]
theorem Dr {P:Program} {w:World} {o:Oper} {a:Act} {K:Act->World->Prop} {Q:Exit->Act->World->Prop} (s x:Operand) (t:TypeId)
 (ho:o.op=.call { callee:=.builtin .append,args:=#[s,x],argTypes:=#[t,t] })
 (base:Nat) (e:TypeId) (i:TypeInfo) (z:Value) (bytes:Nat) (ht:P.underlying t=some (.slice e)) (hi:P.info? e=some i) (hz:i.zero=some z)
 (hsize:i.size=1) (hby:i.bytes=bytes) (hzs:z.cells.size=1)
 (v:Value) (n:Nat) (xs:List Value) (hs:a.eval s=v) (hown:w.ownsRow base e 1 v n xs)
 (u:Value) (ys:List Value) (hx:a.eval x=u) (hb:VS w u ys)
 (h63:n+ys.length<=maxLen) (hbytes:(n+ys.length)*bytes<=140737488355328) (hbase:base<=w.heap.size)
 (h:∀v' w',w'.ownsRow base e 1 v' (n+ys.length) (xs++ys)->w.grownBy w' v.ownBlock->K (a.put o.dst v') w') :
 Oper.wp P o a w K Q:=by
 obtain⟨ao,cap,rfl,hnc,h4,h3,h2⟩:=hb
 cases ao with
 | none =>
  have h0:ys=[]:=h3 rfl;subst h0;have hc:cap=0:=hnc _ _ rfl;subst hc;have h1:=run_append_owned_none (P:=P) (w:=w) base t o.type e i 1 ht hi v n xs hown;have hK:=h v w (by simpa using hown) (World.grownBy.refl _ _);unfold Oper.wp;simp[execOp,ho,resolve,invoke,builtin,hs,hx,h1,Result.andThen];exact hK
 | some ad =>
  obtain⟨v',w',h1,r1,r2,_⟩:=run_append_own_at (P:=P) w base t o.type e i z 1 bytes ht hi hz hsize hby hzs (by omega) v n xs hown ad ys.length cap ys (by simp) (h2 ad rfl) h4 h63 hbytes hbase;unfold Oper.wp;simp[execOp,ho,resolve,invoke,builtin,hs,hx,h1,Result.andThen];exact h v' w' r1 r2
theorem Kd {P:Program} (w:World) {ops:Array Oper} {rest:List Oper} {o:Oper} {a:Act} {Q:Exit->Act->World->Prop} (hw:Region.wanted o (yielded ops a.tmps)=true) (s x:Operand) (t:TypeId)
 (ho:o.op=.call { callee:=.builtin .append,args:=#[s,x],argTypes:=#[t,t] })
 (base:Nat) (e:TypeId) (i:TypeInfo) (z:Value) (bytes:Nat) (ht:P.underlying t=some (.slice e)) (hi:P.info? e=some i) (hz:i.zero=some z)
 (hsize:i.size=1) (hby:i.bytes=bytes) (hzs:z.cells.size=1)
 (v:Value) (n:Nat) (xs:List Value) (hs:a.eval s=v) (hown:w.ownsRow base e 1 v n xs)
 (u:Value) (ys:List Value) (hx:a.eval x=u) (hb:VS w u ys)
 (h63:n+ys.length<=maxLen) (hbytes:(n+ys.length)*bytes<=140737488355328) (hbase:base<=w.heap.size)
 (h:∀v' w',w'.ownsRow base e 1 v' (n+ys.length) (xs++ys)->w.grownBy w' v.ownBlock->wpList P ops Q rest (a.put o.dst v') w') :
 wpList P ops Q (o :: rest) a w:=by
 refine wpList_step λK hK=>?_
 rw[if_pos hw];exact Dr s x t ho base e i z bytes ht hi hz hsize hby hzs v n xs hs hown u ys hx hb h63 hbytes hbase (λv' w' h1 h2=>hK _ _ (h v' w' h1 h2))
def LO (w:World) (vs:List Value) (ls:List (LI)):Prop:=vs.length=ls.length∧∀j u,vs[j]? = some u->∃lo,w.ownsRow lo 5 1 u (ls.getD j []).length (bl (ls.getD j []))
theorem LO.nil (w:World):LO w [] []:=⟨rfl,λj u h=>by simp at h⟩
theorem LO.one {lo:Nat} {u:Value} (h:w.ownsRow lo 5 1 u l.length (bl l)):LO w [u] [l]:=⟨rfl,λj v hv=>by
 cases j with
 | zero=>simp at hv;subst hv;exact⟨lo,h⟩
 | succ j=>simp at hv⟩
theorem LO.app {vs us:List Value} {ls ms:List (LI)} (h:LO w vs ls) (k:LO w us ms):LO w (vs++us) (ls++ms):=⟨by rw[Qc,Qc,h.1,k.1],λj u hu=>by
 have hl:=h.1
 by_cases hj:j<vs.length
 ·rw[List.getElem?_append_left hj] at hu
  rw[Qd,List.getElem?_append_left (by omega),<-Qd];exact h.2 j u hu
 ·rw[List.getElem?_append_right (by omega)] at hu
  rw[Qd,List.getElem?_append_right (by omega),<-Qd,<-hl]
  exact k.2 _ u hu⟩
theorem LO.past {vs:List Value} (h:LO w vs ls) (o:N0 w w'):LO w' vs ls:=⟨h.1,λj u hu=>by
 obtain⟨lo,h1⟩:=h.2 j u hu
 exact⟨lo,o.own h1 (λ_ _ f=>f)⟩⟩
theorem LO.grown {vs:List Value} (h:LO w vs ls) {base n:Nat} {v:Value} {xs:List Value} (hv:w.ownsRow base 23 1 v n xs) (g:w.grownBy w' v.ownBlock):LO w' vs ls:=⟨h.1,λj u hu=>by
 obtain⟨lo,h1⟩:=h.2 j u hu;refine⟨lo,((Only.refl (λk=>v.ownBlock=some k) w).grown g (λ_ _ e=>e)).own h1 (λk hk e=>?_)⟩
 rcases hv.2 with ⟨rfl,_⟩ | ⟨b,cap,cur,rfl,_,hb,_⟩
 ·cases e
 ·cases e
  rcases h1.2 with ⟨rfl,_⟩ | ⟨b',cap',cur',rfl,_,hb',_⟩
  ·cases hk
  ·cases hk
   rw[hb] at hb'
   cases hb'⟩
theorem LO.one' {vs:List Value} (h:LO w vs ls):∀y∈vs,y.oneCell'=true:=λy hy=>by
 obtain⟨j,hj,rfl⟩:=List.mem_iff_getElem.1 hy;obtain⟨lo,h1⟩:=h.2 j _ (Qg hj)
 rcases h1.2 with ⟨e,_⟩ | ⟨b,cap,cur,e,_⟩
 ·rw[e];rfl
 ·rw[e];rfl
theorem LO.rl {lo:Nat} {vs:List Value} (h:LO w vs ls) (ho:w.ownsRow lo 23 1 v vs.length vs):RL w v ls∧NoCap v:=⟨RL.of_own (lo:=lo) (vs:=vs) (by rw[<-h.1];exact ho) (λj u hu=>by
 obtain⟨lo',h1⟩:=h.2 j u hu
 exact⟨Bs.of_own (k:=.u8) (E:=5) (lo:=lo') h1,NoCap.of_own h1⟩),NoCap.of_own ho⟩
theorem pv1 (x y:Int) (w:World):Calls prog 57 #[.int .i64 x,.int .i64 y] w λe w'=>e=.returned (.slice none 0 0)∧w=w':=by
 go_enter func57,ntmps57;go_wp2;go_ret;exact⟨rfl,rfl⟩
theorem pv2 (cl lo hi:Nat) (v:Value) (l:List (LI)) (w:World) (h8:R8 l) (hl:l.length<=1000000000) (hr:RL w v l) (hlt:lo<hi) (h2:hi<=l.length) (c0:w.cell? ⟨cl,0,none⟩=some v) :
 Calls prog 58 #[.int .i64 lo,.int .i64 hi,.pointer (some ⟨cl,0,none⟩)] w λe w'=>∃v',e=.returned v'∧∃vs,w'.ownsRow w.heap.size 23 1 v' vs.length vs∧LO w' vs [QB (Qx l lo hi)]∧N0 w w':=by
 obtain⟨n,hn⟩:∃n,l.length=n:=⟨_,rfl⟩;obtain⟨b,off,cap,rfl,h3⟩:=hr.form hn (by omega);have hpl:=Ko l lo hi (by omega);have A:=Qa (JH (hi - lo) (Qx l lo hi) _ w (by omega) (by omega) (by omega) (λx hx=>h8 x (List.mem_of_mem_drop (List.mem_of_mem_take hx))) (hr.part lo hi (by omega) (by omega)));obtain⟨Y,hY⟩:=EX (QB (Qx l lo hi));rw[<-hY] at A ⊢
 have a0:(0:Int)<=(lo:Int):=by omega
 have a1:(lo:Int)<=(hi:Int):=by omega
 have a2:(hi:Int)<=(cap:Int):=by omega
 have a3:¬cap=lo:=by omega
 clear h8 hl hr hlt h2 hn h3 hpl hY;go_enter func58,ntmps58;go_wp2_with fail;refine A.o.mono ?_;rintro e w4 ⟨v4,rfl,h0,h1⟩;have oA:N0 w4 (w4.alloc (.cells #[v4] 23)):=(Only.refl _ _).alloc _
 have F:Hid (∃vs,(w4.alloc (.cells #[v4] 23)).ownsRow w.heap.size 23 1 (.slice (some ⟨w4.heap.size,0,none⟩) 1 1) vs.length vs∧LO (w4.alloc (.cells #[v4] 23)) vs [Y]∧N0 w (w4.alloc (.cells #[v4] 23))) :=
  ⟨[v4],VN w4 23 [v4] h1.size (show 1<=maxLen by unfold maxLen;decide),LO.one (oA.own h0 (λ_ _ f=>f)),h1.same oA⟩
 obtain⟨ao4,cap4,e4⟩:=Qm h0;subst e4;clear h0 h1 A oA;go_wp2;go_ret;exact⟨_,rfl,F.o⟩
theorem pv3 (base:Nat) (vl vr:Value) (xs ys:List Value) (w:World) (h1:w.ownsRow base 23 1 vl xs.length xs) (h2:VS w vr ys) (hb:base<=w.heap.size) (hl:xs.length<=1000000000) (hl':ys.length<=1000000000) :
 Calls prog 59 #[vl,vr] w λe w'=>∃v',e=.returned v'∧w'.ownsRow base 23 1 v' (xs.length+ys.length) (xs++ys)∧w.grownBy w' vl.ownBlock:=by
 obtain⟨i0,hi,hz0,hz1,hz2⟩:=info_parts Tryz.infoRows;have H1:=Qa h1;have H2:=Qa h2;obtain⟨ao,cap,e1⟩:=Qm h1;obtain⟨ao2,cap2,e2,_⟩:=h2;obtain⟨m,hm⟩:=EX xs.length;obtain⟨m2,h0⟩:=EX ys.length
 have B1:Hid (xs.length+ys.length<=maxLen):=by show _<=_;unfold maxLen;omega
 have B2:Hid ((xs.length+ys.length)*24<=140737488355328):=by show _<=_;omega
 subst e1;subst e2;have HB:=Qa hb;rw[<-hm] at H1 B1 B2;rw[<-h0] at H2 B1 B2;rw[<-hm,<-h0];have HM:=Qa h0;clear h1 hl hl' hb hm h0;go_enter func59,ntmps59;go_wp2_with (at_builtin;refine Kd w rfl (.tmp 5) (.tmp 6) 38 rfl base 23 i0 (.slice none 0 0) 24 underlying38 hi hz0 hz1 hz2 rfl _ m xs rfl H1.o _ ys rfl H2.o (by rw[<-HM.o];exact B1.o) (by rw[<-HM.o];exact B2.o) HB.o ?_);rw[<-HM.o];intro v' w' r1 r2;have F:=Qa (And.intro r1 r2);obtain⟨ao3,cap3,e3⟩:=Qm r1;subst e3;clear r1 r2;go_wp2;go_ret;exact⟨_,rfl,F.o⟩
theorem pvp (b0 b1 b2 b3 b4 b5 i j cl:Nat) (vl:Value) (l:List (LI)) (w0:World) (l8:R8 l) (hl:l.length<=1000000000) (hij:i<=j) (rl:RL w0 vl l) (hcl:w0.cell? ⟨cl,0,none⟩=some vl) :
 ∀(k lo hi:Nat) (w:World),lo<hi->hi - lo<=k->hi<=l.length->N0 w0 w ->
 WK w b0 b1 b2 b3 b4 b5 i j (.func (.func 57) #[] #[]) (.func (.func 58) #[] #[.pointer (some ⟨cl,0,none⟩)]) (.func (.func 59) #[] #[]) (.func (.func 94) #[] #[.pointer (some ⟨b0,0,none⟩),.pointer (some ⟨b1,0,none⟩),.pointer (some ⟨b2,0,none⟩),.pointer (some ⟨b3,0,none⟩),.pointer (some ⟨b4,0,none⟩),.pointer (some ⟨b5,0,none⟩)]) ->
 Calls prog 94 #[.int .i64 lo,.int .i64 hi,.pointer (some ⟨b0,0,none⟩),.pointer (some ⟨b1,0,none⟩),.pointer (some ⟨b2,0,none⟩),.pointer (some ⟨b3,0,none⟩),.pointer (some ⟨b4,0,none⟩),.pointer (some ⟨b5,0,none⟩)] w
  λe w'=>∃v,e=.returned v∧∃vs,w'.ownsRow w.heap.size 23 1 v vs.length vs∧LO w' vs (QG (k+1) l lo hi i j)∧N0 w w':=by
 intro k
 induction k with
 | zero=>intro lo hi w h1 h2;omega
 | succ k ih =>
  intro lo hi w hlt hk hh ho hw;have HW:=Qa hw;obtain⟨c0,c1,c2,c3,c4,c5⟩:=hw;obtain⟨x,hx⟩:=EX (hi - 1)
  have ex:(hi:Int) - 1=(x:Int):=by omega
  by_cases hA:i<=lo∧hi<=j+1
  ·skip
   have e:QG (k+1+1) l lo hi i j=[]:=by rw[QG,if_pos hA]
   rw[e];have A:=Qa (pv1 lo hi w);have d1:decide (i<=lo)=true:=Qe (by omega);have he:decide ((i:Int)<=(lo:Int))=true:=Qe (by omega);have d2:decide (x<=j)=true:=Qe (by omega);have hu:decide ((x:Int)<=(j:Int))=true:=Qe (by omega)
   have hf:(x:Int)<=1000000000:=by omega
   have hg:(lo:Int)<=1000000000:=by omega
   have hd:(hi:Int)<=1000000000:=by omega
   clear ih hlt hk hh hx hA HW e ho l8 hl hij rl hcl;go_enter func94,ntmps94;go_wp2_with fail;refine A.o.mono ?_;rintro e w1 ⟨rfl,rfl⟩;go_wp2;go_ret;exact⟨_,rfl,[],⟨rfl,.inl ⟨rfl,rfl⟩⟩,LO.nil _,Only.refl _ _⟩
  ·by_cases hB:j<lo∨hi<=i
   ·by_cases hB1:hi<=i
    ·skip
     have e:QG (k+1+1) l lo hi i j=[QB (Qx l lo hi)]:=by rw[QG,if_neg hA,if_pos hB]
     rw[e];have A:=Qa (pv2 cl lo hi vl l w l8 hl (rl.past ho) hlt hh (Qv hcl ho));obtain⟨Y,hY⟩:=EX (QB (Qx l lo hi));rw[<-hY] at A ⊢;have d1:decide (i<=lo)=false:=Qb (by omega);have he:decide ((i:Int)<=(lo:Int))=false:=Qb (by omega);have d3:decide (x<i)=true:=Qe (by omega);have hr:decide ((x:Int)<(i:Int))=true:=Qe (by omega)
     have hf:(x:Int)<=1000000000:=by omega
     have hg:(lo:Int)<=1000000000:=by omega
     have hd:(hi:Int)<=1000000000:=by omega
     clear ih hlt hk hh hx hA HW e ho l8 hl hij rl hcl hB hB1 hY;go_enter func94,ntmps94;go_wp2_with fail;refine A.o.mono ?_;rintro e w1 ⟨v1,rfl,h7,h0,r1⟩;have F:Hid (∃vs,w1.ownsRow w.heap.size 23 1 v1 vs.length vs∧LO w1 vs [Y]∧N0 w w1):=⟨h7,h0,r1⟩;obtain⟨hj,h9,e1⟩:=Qm h0;subst e1;clear A r1 h0;go_wp2;go_ret;exact⟨_,rfl,F.o⟩
    ·skip
     have e:QG (k+1+1) l lo hi i j=[QB (Qx l lo hi)]:=by rw[QG,if_neg hA,if_pos hB]
     rw[e];have A:=Qa (pv2 cl lo hi vl l w l8 hl (rl.past ho) hlt hh (Qv hcl ho));obtain⟨Y,hY⟩:=EX (QB (Qx l lo hi));rw[<-hY] at A ⊢;have d1:decide (i<=lo)=true:=Qe (by omega);have he:decide ((i:Int)<=(lo:Int))=true:=Qe (by omega);have d2:decide (x<=j)=false:=Qb (by omega);have hu:decide ((x:Int)<=(j:Int))=false:=Qb (by omega);have d3:decide (x<i)=false:=Qb (by omega);have hr:decide ((x:Int)<(i:Int))=false:=Qb (by omega);have d4:decide (j<lo)=true:=Qe (by omega);have hv:decide ((j:Int)<(lo:Int))=true:=Qe (by omega)
     have hf:(x:Int)<=1000000000:=by omega
     have hg:(lo:Int)<=1000000000:=by omega
     have hd:(hi:Int)<=1000000000:=by omega
     clear ih hlt hk hh hx hA HW e ho l8 hl hij rl hcl hB hB1 hY;go_enter func94,ntmps94;go_wp2_with fail;refine A.o.mono ?_;rintro e w1 ⟨v1,rfl,h7,h0,r1⟩;have F:Hid (∃vs,w1.ownsRow w.heap.size 23 1 v1 vs.length vs∧LO w1 vs [Y]∧N0 w w1):=⟨h7,h0,r1⟩;obtain⟨hj,h9,e1⟩:=Qm h0;subst e1;clear A r1 h0;go_wp2;go_ret;exact⟨_,rfl,F.o⟩
   ·have h3:=Kb hlt hA hB
    by_cases hC:i<=lo
    ·skip
     obtain⟨n,hn⟩:=EX (hi - lo);obtain⟨q,hq⟩:=EX (HALF n);have q1:=Y8 n;have q2:=YK (n:=n) (by omega);rw[<-hq] at q1 q2;obtain⟨m,hm⟩:=EX (lo+q)
     have es:(hi:Int) - (lo:Int)=(n:Int):=by omega
     have em:(lo:Int)+(q:Int)=(m:Int):=by omega
     have AL:=Qa (λ(W:World)=>WE n (by omega) (by omega) W);rw[<-hq] at AL
     have e:QG (k+1+1) l lo hi i j=QG (k+1) l lo m i j++QG (k+1) l m hi i j:=by rw[QG,if_neg hA,if_neg hB,hm,hq,hn]
     rw[e];have s1:=Ue (k+1) lo m i j (by omega);have s2:=Ue (k+1) m hi i j (by omega);rw[<-VA (k+1) l] at s1 s2;have T1:=Qa (λW (o:N0 w W)=>ih lo m W (by omega) (by omega) (by omega) (ho.same o) (HW.o.past o));have T2:=Qa (λW (o:N0 w W)=>ih m hi W (by omega) (by omega) (by omega) (ho.same o) (HW.o.past o));obtain⟨Y,hY⟩:=EX (QG (k+1) l lo m i j);obtain⟨Z,hZ⟩:=EX (QG (k+1) l m hi i j);rw[<-hY] at T1 s1 ⊢;rw[<-hZ] at T2 s2 ⊢;have T3:=Qa (λ(vl vr:Value) (xs ys:List Value) (W:World) (h1:W.ownsRow w.heap.size 23 1 vl xs.length xs) (l1:xs.length=Y.length) (h2:VS W vr ys) (l2:ys.length=Z.length) (hb:w.heap.size<=W.heap.size)=>pv3 w.heap.size vl vr xs ys W h1 h2 hb (by omega) (by omega))
     have hqb:(q:Int)<=1000000000:=by omega
     have hmb:(m:Int)<=1000000000:=by omega
     have hnb:(n:Int)<=1000000000:=by omega
     have d1:decide (i<=lo)=true:=Qe (by omega);have he:decide ((i:Int)<=(lo:Int))=true:=Qe (by omega);have d2:decide (x<=j)=false:=Qb (by omega);have hu:decide ((x:Int)<=(j:Int))=false:=Qb (by omega);have d3:decide (x<i)=false:=Qb (by omega);have hr:decide ((x:Int)<(i:Int))=false:=Qb (by omega);have d4:decide (j<lo)=false:=Qb (by omega);have hv:decide ((j:Int)<(lo:Int))=false:=Qb (by omega)
     have hf:(x:Int)<=1000000000:=by omega
     have hg:(lo:Int)<=1000000000:=by omega
     have hd:(hi:Int)<=1000000000:=by omega
     clear ih hlt hk hh hx hA HW e ho l8 hl hij rl hcl hB hC h3 hn hq hm hY hZ s1 s2 q1 q2;go_enter func94,ntmps94;go_wp2_with fail;refine (AL.o _).mono ?_;rintro e w1 ⟨rfl,rfl⟩;clear AL;go_wp2_with fail;go_region_held3 (λW=>W.cell? ⟨b4,0,none⟩=some (.func (.func 59) #[] #[])∧W.cell? ⟨b5,0,none⟩=some (.func (.func 94) #[] #[.pointer (some ⟨b0,0,none⟩),.pointer (some ⟨b1,0,none⟩),.pointer (some ⟨b2,0,none⟩),.pointer (some ⟨b3,0,none⟩),.pointer (some ⟨b4,0,none⟩),.pointer (some ⟨b5,0,none⟩)])) (go_keep) (first|(go_at_call 94;refine (T1.o _ ((Only.refl _ _).drew)).mono ?_;rintro e w1 ⟨v1,rfl,h7,h0,ha,o1⟩;have O1:=Qa (((Only.refl (λ_=>False) w).drew).same o1);have k4:=Qv c4 O1.o;have k5:=Qv c5 O1.o;have R1:=Qa (And.intro (Qu h0 (Nat.le_refl w.heap.size)) ha);obtain⟨hj,h9,e1⟩:=Qm h0;subst e1;clear o1 T1 h0 ha)|(go_at_call 94;refine (T2.o _ O1.o).mono ?_;rintro e w2 ⟨v2,rfl,hs,h5,h8,o2⟩;have O2:=Qa (O1.o.same o2);have k4':=Qv c4 O2.o;have k5':=Qv c5 O2.o;have h6:=Qa (And.intro (o2.own R1.o.1 (λ_ _ f=>f)) (R1.o.2.past o2));have R2:=Qa (And.intro (VS.of_own h5 h8.one') h8);obtain⟨ao2,ht,e2⟩:=Qm h5;subst e2;clear o2 T2 h5 h8 R1)|(go_at_call 59;refine (T3.o _ _ _ _ _ h6.o.1 h6.o.2.1 R2.o.1 R2.o.2.1 O2.o.size).mono ?_;rintro e w3 ⟨v3,rfl,h4,g3⟩;have O3:=Qa (O2.o.grown g3 (λk hk e=>absurd ((h6.o.1).lt k e).1 (by omega)));have k6:=Qv c4 O3.o;have k7:=Qv c5 O3.o;have F:Hid (∃vs,w3.ownsRow w.heap.size 23 1 v3 vs.length vs∧LO w3 vs (Y++Z)∧N0 w w3):=⟨h7++hs,by rw[Qc];exact h4,(h6.o.2.grown h6.o.1 g3).app (R2.o.2.grown h6.o.1 g3),O3.o⟩;obtain⟨ao3,hp,e3⟩:=Qm h4;subst e3;clear T3 h4 g3));go_wp2;go_ret;exact⟨_,rfl,F.o⟩
    ·skip
     obtain⟨n,hn⟩:=EX (hi - lo);obtain⟨q,hq⟩:=EX (HALF n);have q1:=Y8 n;have q2:=YK (n:=n) (by omega);rw[<-hq] at q1 q2;obtain⟨m,hm⟩:=EX (lo+q)
     have es:(hi:Int) - (lo:Int)=(n:Int):=by omega
     have em:(lo:Int)+(q:Int)=(m:Int):=by omega
     have AL:=Qa (λ(W:World)=>WE n (by omega) (by omega) W);rw[<-hq] at AL
     have e:QG (k+1+1) l lo hi i j=QG (k+1) l lo m i j++QG (k+1) l m hi i j:=by rw[QG,if_neg hA,if_neg hB,hm,hq,hn]
     rw[e];have s1:=Ue (k+1) lo m i j (by omega);have s2:=Ue (k+1) m hi i j (by omega);rw[<-VA (k+1) l] at s1 s2;have T1:=Qa (λW (o:N0 w W)=>ih lo m W (by omega) (by omega) (by omega) (ho.same o) (HW.o.past o));have T2:=Qa (λW (o:N0 w W)=>ih m hi W (by omega) (by omega) (by omega) (ho.same o) (HW.o.past o));obtain⟨Y,hY⟩:=EX (QG (k+1) l lo m i j);obtain⟨Z,hZ⟩:=EX (QG (k+1) l m hi i j);rw[<-hY] at T1 s1 ⊢;rw[<-hZ] at T2 s2 ⊢;have T3:=Qa (λ(vl vr:Value) (xs ys:List Value) (W:World) (h1:W.ownsRow w.heap.size 23 1 vl xs.length xs) (l1:xs.length=Y.length) (h2:VS W vr ys) (l2:ys.length=Z.length) (hb:w.heap.size<=W.heap.size)=>pv3 w.heap.size vl vr xs ys W h1 h2 hb (by omega) (by omega))
     have hqb:(q:Int)<=1000000000:=by omega
     have hmb:(m:Int)<=1000000000:=by omega
     have hnb:(n:Int)<=1000000000:=by omega
     have d1:decide (i<=lo)=false:=Qb (by omega);have he:decide ((i:Int)<=(lo:Int))=false:=Qb (by omega);have d3:decide (x<i)=false:=Qb (by omega);have hr:decide ((x:Int)<(i:Int))=false:=Qb (by omega);have d4:decide (j<lo)=false:=Qb (by omega);have hv:decide ((j:Int)<(lo:Int))=false:=Qb (by omega)
     have hf:(x:Int)<=1000000000:=by omega
     have hg:(lo:Int)<=1000000000:=by omega
     have hd:(hi:Int)<=1000000000:=by omega
     clear ih hlt hk hh hx hA HW e ho l8 hl hij rl hcl hB hC h3 hn hq hm hY hZ s1 s2 q1 q2;go_enter func94,ntmps94;go_wp2_with fail;refine (AL.o _).mono ?_;rintro e w1 ⟨rfl,rfl⟩;clear AL;go_wp2_with fail;go_region_held3 (λW=>W.cell? ⟨b4,0,none⟩=some (.func (.func 59) #[] #[])∧W.cell? ⟨b5,0,none⟩=some (.func (.func 94) #[] #[.pointer (some ⟨b0,0,none⟩),.pointer (some ⟨b1,0,none⟩),.pointer (some ⟨b2,0,none⟩),.pointer (some ⟨b3,0,none⟩),.pointer (some ⟨b4,0,none⟩),.pointer (some ⟨b5,0,none⟩)])) (go_keep) (first|(go_at_call 94;refine (T1.o _ ((Only.refl _ _).drew)).mono ?_;rintro e w1 ⟨v1,rfl,h7,h0,ha,o1⟩;have O1:=Qa (((Only.refl (λ_=>False) w).drew).same o1);have k4:=Qv c4 O1.o;have k5:=Qv c5 O1.o;have R1:=Qa (And.intro (Qu h0 (Nat.le_refl w.heap.size)) ha);obtain⟨hj,h9,e1⟩:=Qm h0;subst e1;clear o1 T1 h0 ha)|(go_at_call 94;refine (T2.o _ O1.o).mono ?_;rintro e w2 ⟨v2,rfl,hs,h5,h8,o2⟩;have O2:=Qa (O1.o.same o2);have k4':=Qv c4 O2.o;have k5':=Qv c5 O2.o;have h6:=Qa (And.intro (o2.own R1.o.1 (λ_ _ f=>f)) (R1.o.2.past o2));have R2:=Qa (And.intro (VS.of_own h5 h8.one') h8);obtain⟨ao2,ht,e2⟩:=Qm h5;subst e2;clear o2 T2 h5 h8 R1)|(go_at_call 59;refine (T3.o _ _ _ _ _ h6.o.1 h6.o.2.1 R2.o.1 R2.o.2.1 O2.o.size).mono ?_;rintro e w3 ⟨v3,rfl,h4,g3⟩;have O3:=Qa (O2.o.grown g3 (λk hk e=>absurd ((h6.o.1).lt k e).1 (by omega)));have k6:=Qv c4 O3.o;have k7:=Qv c5 O3.o;have F:Hid (∃vs,w3.ownsRow w.heap.size 23 1 v3 vs.length vs∧LO w3 vs (Y++Z)∧N0 w w3):=⟨h7++hs,by rw[Qc];exact h4,(h6.o.2.grown h6.o.1 g3).app (R2.o.2.grown h6.o.1 g3),O3.o⟩;obtain⟨ao3,hp,e3⟩:=Qm h4;subst e3;clear T3 h4 g3));go_wp2;go_ret;exact⟨_,rfl,F.o⟩
section
set_option linter.unusedVariables false
theorem DU (i j cl:Nat) (vl:Value) (l:List (LI)) (w0 w:World) (l8:R8 l) (hl:l.length<=1000000000) (h0:0<l.length) (hij:i<=j) (rl:RL w0 vl l) (hcl:w0.cell? ⟨cl,0,none⟩=some vl) (ho:N0 w0 w) :
 Calls prog 60 #[.int .i64 l.length,.int .i64 i,.int .i64 j,.func (.func 57) #[] #[],.func (.func 58) #[] #[.pointer (some ⟨cl,0,none⟩)],.func (.func 59) #[] #[]] w
  λe w'=>∃v,e=.returned v∧∃vs,w'.ownsRow w.heap.size 23 1 v vs.length vs∧LO w' vs (WALKL l i j)∧N0 w w':=by
 have A:=Qa (λ(b0 b1 b2 b3 b4 b5:Nat) (W:World) (o:N0 w W)=>pvp b0 b1 b2 b3 b4 b5 i j cl vl l w0 l8 hl hij rl hcl l.length 0 l.length W h0 (by omega) (Nat.le_refl _) (ho.same o));rw[show ((0:Nat):Int)=0 from rfl] at A;obtain⟨Y,hY⟩:=EX (WALKL l i j);have e:QG (l.length+1) l 0 l.length i j=Y:=hY.symm;rw[e] at A;rw[<-hY];obtain⟨m4,m5⟩:=WK.made w i j (.func (.func 57) #[] #[]) (.func (.func 58) #[] #[.pointer (some ⟨cl,0,none⟩)]) (.func (.func 59) #[] #[]) (.func (.func 94) #[] #[.pointer (some ⟨w.heap.size,0,none⟩),.pointer (some ⟨w.heap.size+1,0,none⟩),.pointer (some ⟨w.heap.size+1+1,0,none⟩),.pointer (some ⟨w.heap.size+1+1+1,0,none⟩),.pointer (some ⟨w.heap.size+1+1+1+1,0,none⟩),.pointer (some ⟨w.heap.size+1+1+1+1+1,0,none⟩)]) 100 101 100;have M5:=Qa m5;have R:=Qa (A.o _ _ _ _ _ _ _ m5 m4);obtain⟨n,hn⟩:=EX l.length;rw[<-hn] at R ⊢;clear l8 hl h0 hij rl hcl ho hY e m4 m5 A hn;go_enter func60,ntmps60;go_wp2_with fail;refine R.o.mono ?_;rintro e w1 ⟨v1,rfl,vs1,h1,h2,o1⟩;have F:Hid (∃vs,w1.ownsRow w.heap.size 23 1 v1 vs.length vs∧LO w1 vs Y∧N0 w w1):=⟨vs1,Qu h1 M5.o.size,h2,M5.o.same o1⟩;obtain⟨ao1,cap1,e1⟩:=Qm h1;subst e1;clear R h1 h2 o1 M5;go_wp2;go_ret;exact⟨_,rfl,F.o⟩
abbrev Zk (l:List (LI)) (i j:Int):Prop:=0<=i∧i<=j∧j<l.length
def Xh (l:List (LI)) (i j:Int):Int:=if Zk l i j then 0 else 1
def ZX (l:List (LI)) (i j:Int):List (LI):=if Zk l i j then WALKL l i.toNat j.toNat else []
theorem DG (ao:Option Addr) (m cap:Nat) (i j:Int) (h:¬(0<=i∧i<=j∧j<m)) (w:World) :
 Calls prog 24 #[.slice ao m cap,.int .i64 i,.int .i64 j] w λe w'=>e=.returned (.tuple #[.slice none 0 0,.int .i64 1])∧N0 w w':=by
 have O:=Qa ((Only.refl (λ_=>False) w).alloc (.cells #[.slice ao m cap] 38))
 by_cases h1:i<0
 ·have d1:decide (i<0)=true:=Qe h1
  clear h;go_enter func24,ntmps24;go_wp2;go_ret2;exact⟨rfl,O.o⟩
 ·have d1:decide (i<0)=false:=Qb h1
  by_cases h2:j<i
  ·have d2:decide (j<i)=true:=Qe h2
   clear h;go_enter func24,ntmps24;go_wp2;go_ret2;exact⟨rfl,O.o⟩
  ·have d2:decide (j<i)=false:=Qb h2
   have d3:decide ((m:Int)<=j)=true:=Qe (by omega);clear h;go_enter func24,ntmps24;go_wp2;go_ret2;exact⟨rfl,O.o⟩
theorem kF (vl:Value) (l:List (LI)) (i j:Nat) (hij:i<=j) (hj:j<l.length) (l8:R8 l) (hl:l.length<=1000000000) (w:World) (rl:RL w vl l) :
 Calls prog 24 #[vl,.int .i64 i,.int .i64 j] w λe w'=>∃v,e=.returned (.tuple #[v,.int .i64 0])∧∃vs,w'.ownsRow w.heap.size 23 1 v vs.length vs∧LO w' vs (WALKL l i j)∧N0 w w':=by
 have oA:N0 w (w.alloc (.cells #[vl] 38)):=(Only.refl _ _).alloc _;have A:=Qa (DU i j w.heap.size vl l (w.alloc (.cells #[vl] 38)) (w.alloc (.cells #[vl] 38)) l8 hl (by omega) hij (rl.past oA) ((Blk.new w 38 [vl]).cell 0) (Only.refl _ _));have O:=Qa oA;obtain⟨n,hn⟩:=EX l.length;obtain⟨ao,cap,e,_⟩:=rl.len;subst e;rw[<-hn] at A O hj ⊢;obtain⟨Y,hY⟩:=EX (WALKL l i j);rw[<-hY] at A ⊢;have d1:decide ((i:Int)<0)=false:=Qb (by omega);have d2:decide ((j:Int)<(i:Int))=false:=Qb (by omega);have d2':decide (j<i)=false:=Qb (by omega);have d3:decide ((n:Int)<=(j:Int))=false:=Qb (by omega);have d3':decide (n<=j)=false:=Qb (by omega);clear hij hj l8 hl rl oA hn hY;go_enter func24,ntmps24;go_wp2_with fail;refine A.o.mono ?_;rintro e w1 ⟨v1,rfl,vs1,h0,h1,o1⟩;have F:Hid (∃vs,w1.ownsRow w.heap.size 23 1 v1 vs.length vs∧LO w1 vs Y∧N0 w w1):=⟨vs1,Qu h0 O.o.size,h1,O.o.same o1⟩;obtain⟨ao1,cap1,e1⟩:=Qm h0;subst e1;clear A h0 h1 o1 O;go_wp2;go_ret2;exact⟨_,rfl,F.o⟩
theorem NY (vl:Value) (l:List (LI)) (i j:Int) (l8:R8 l) (hl:l.length<=1000000000) (w:World) (rl:RL w vl l) :
 Calls prog 24 #[vl,.int .i64 i,.int .i64 j] w λe w'=>∃v,e=.returned (.tuple #[v,.int .i64 (Xh l i j)])∧RL w' v (ZX l i j)∧NoCap v∧N0 w w':=by
 by_cases h:Zk l i j
 ·have e1:Xh l i j=0:=if_pos h
  have e2:ZX l i j=WALKL l i.toNat j.toNat:=if_pos h;rw[e1,e2];obtain⟨i',rfl⟩:=Int.eq_ofNat_of_zero_le h.1;obtain⟨j',rfl⟩:=Int.eq_ofNat_of_zero_le (show 0<=j by have:=h.1;have:=h.2.1;omega);refine (kF vl l i' j' (by have:=h.2.1;omega) (by have:=h.2.2;omega) l8 hl w rl).mono ?_;rintro e w1 ⟨v1,rfl,vs1,h0,h1,o1⟩;exact⟨v1,rfl,(h1.rl h0).1,(h1.rl h0).2,o1⟩
 ·have e1:Xh l i j=1:=if_neg h
  have e2:ZX l i j=[]:=if_neg h;rw[e1,e2];obtain⟨ao,cap,rfl,_⟩:=rl.len;refine (DG ao l.length cap i j h w).mono ?_;rintro e w1 ⟨rfl,o1⟩;exact⟨_,rfl,RL.nil _,NoCap.nil,o1⟩
end
end Go.Proofs.YtoflhbghdlaeaaaGreatDoor
