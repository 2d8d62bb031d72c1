import Derived.Test.YtoflhbghdlaeaaaGreatDoorG7
import Derived.StillTailTactics
namespace Go.Proofs.YtoflhbghdlaeaaaGreatDoor
set_option maxHeartbeats 2000000
set_option maxRecDepth 100000
open Go.RowKit _root_.Go.Proofs.Tryz
variable {w w' W:World} {v:Value} {ys xs l:LI} {R n p k g B:Nat} {P:Program} {ls:List (LI)} {E:TypeId}
theorem Rq (v:Value) (key:LI) (p n:Nat) (ls:Nat->LI) (w:World) (hb:Bs .u8 w v key) (h8:U8 key) (hk:key.length<=10000000000) (hp:Ps w p n ls) (hl:(pcat ls n).length<=10000000000) (hn:n<=1000) :
 Calls prog 87 #[v,.slice (some ⟨p,0,none⟩) n n] w λe w'=>∃u,e=.returned u∧w'.ownsRow w.heap.size 5 1 u 32 ((MACL key (pcat ls n)).map (Value.int .u8))∧N0 w w':=by
 have A:=Qa (F5 v key w hb h8 (by omega));have hs:=(zero_of_info (P:=prog) Tryz.zero42h).1;obtain⟨Z,hZ⟩:=EX z64;rw[<-hZ] at hs;obtain⟨k,h3⟩:=EX (pad64 key)
 have h6:k.length=64:=by rw[h3,JE]
 have hf:U8 k:=by rw[h3];exact yC h8
 have hM:MACL key (pcat ls n)=QH (xorB 92 k++QH (xorB 54 k++pcat ls n)):=by rw[h3];rfl
 rw[hM];rw[<-h3] at A
 have HX:Hid (∀x W,x<256->Calls prog 129 #[.agg (bl k).toArray,.int .u8 ((x:Nat):Int)] W λe w'=>e=.returned (.agg (bl (xorB x k)).toArray)∧N0 W w'):=λx W hx=>Iu k h6 hf x hx W
 have HL:Hid (∀x,(xorB x k).length=64):=λx=>by rw[WM,h6]
 have H8:Hid (∀x,x<256->U8 (xorB x k)):=λx hx=>Ai x hx hf
 obtain⟨C,hC⟩:=EX (bl k)
 have hg:C.length=64:=by rw[hC,Qs,h6]
 have hh:Hid ((prog.info? 117).map (·.size)=some C.toArray.size):=by
  show _=_
  rw[List.size_toArray,hg];exact Tryz.size31
 have HZ2:Hid (Z.toArray.size=C.toArray.size):=by
  show _=_
  rw[List.size_toArray,List.size_toArray,hg,hZ];simp[z64,Qs]
 have HA:Hid (C.toArray.all (·.oneCell')=true):=by
  show _=_
  rw[hC];exact all_oneCell_toArray (Us _)
 rw[<-hC] at A HX;have HP:=Qa (And.intro hp hl);clear hZ h3 h6 hf hM hC hg hb h8 hp hl;go_enter func87,ntmps87;go_wp2_with fail;refine A.o.mono ?_;rintro e w1 ⟨rfl,hj⟩;obtain⟨G,hG⟩:=EX w1.heap.size;obtain⟨W2,h5⟩:=EX ((w1.alloc (.cells Z.toArray 117)).setRow w1.heap.size C.toArray);have HN:=Qa (Blk.new w1 117 Z)
 have hv:Blk W2 G 117 C:=by rw[h5,hG];exact (Blk.new w1 117 Z).row C
 have hw:N0 w W2:=by rw[h5];exact (hj.alloc _).setRow (λh=>absurd h (by have:=hj.size;omega)) _
 have M1:=Qa (HX.o 54 W2 (by decide));have hy:=Qa hv;have hr:=Qa hw;have hu:=Qa h5.symm;have HG:=Qa hG.symm;have h2:Hid (Blk ((w1.alloc (.cells Z.toArray 117)).setRow w1.heap.size C.toArray) w1.heap.size 117 C):=(Blk.new w1 117 Z).row C;clear A hj hv hw h5 hG;go_wp2_with (first|(refine wpList_store_row rfl 117 (.tmp 5) (.tmp 8) rfl w1.heap.size C.toArray rfl rfl 117 Z.toArray HN.o hh.o HZ2.o HA.o ?_)|(refine wpList_load_row rfl 117 (.tmp 5) rfl w1.heap.size rfl 117 C.toArray (0,0) _ h2.o underlying117 rfl hh.o ?_));rw[hu.o,HG.o];refine M1.o.mono ?_;rintro e w3 ⟨rfl,ha⟩;have O3:=Qa (hr.o.same ha);have hq:=Qa (hy.o.past ha);have S1:=Qa (Lf (xorB 54 k) (HL.o 54) (H8.o 54 (by decide)) p n ls w3 (HP.o.1.past O3.o) HP.o.2 hn);clear M1 ha hy hr hu HG h2 HN hs;go_wp2_with fail;refine S1.o.mono ?_;rintro e w4 ⟨v4,rfl,h1,h9⟩;have O4:=Qa (O3.o.same h9);have hz:=Qa (hq.o.past h9);have b4:Bs .u8 w4 v4 (QH (xorB 54 k++pcat ls n)):=Bs.of_own (by rw[YN];exact h1);have hd:U8 (QH (xorB 54 k++pcat ls n)):=Zv _;have h7:(QH (xorB 54 k++pcat ls n)).length=32:=YN _;obtain⟨I,hI⟩:=EX (QH (xorB 54 k++pcat ls n));rw[<-hI] at b4 hd h7;have HI:=Qa hI;have M2:=Qa (HX.o 92 w4 (by decide));have HB:=Qa (And.intro b4 (And.intro hd h7));obtain⟨ht,h4,e4⟩:=b4.len;rw[h7] at e4;subst e4;clear S1 h1 h9 b4 hd h7 O3 hq hI;go_wp2_with (refine wpList_load_row rfl 117 (.tmp 5) rfl G rfl 117 C.toArray (0,0) _ hz.o underlying117 rfl hh.o ?_);refine M2.o.mono ?_;rintro e w5 ⟨rfl,he⟩;have O5:N0 w (w5.alloc (.cells #[.slice ht 32 h4] 23)):=(O4.o.same he).alloc _;have S2:=Qa (Lf (xorB 92 k) (HL.o 92) (H8.o 92 (by decide)) w5.heap.size 1 (λ_=>I) (w5.alloc (.cells #[.slice ht 32 h4] 23)) (Ps.one (HB.o.1.past he) HB.o.2.1) (by rw[KH,HB.o.2.2];decide) (by decide));rw[KH] at S2;have hm:=Qa O5;clear M2 he O5 O4 hz HB;go_wp2_with fail;refine S2.o.mono ?_;rintro e w6 ⟨v6,rfl,h0,ho⟩;have F1:=Qa (Qu h0 hm.o.size);have F2:=Qa (hm.o.same ho);obtain⟨ao6,cap6,e6⟩:=(Bs.of_own (k:=.u8) (xs:=QH (xorB 92 k++I)) (by rw[YN];exact h0)).len;subst e6;clear h0 ho S2 hm;go_wp2;go_ret;exact⟨_,rfl,by rw[<-HI.o];exact F1.o,F2.o⟩
theorem Xk (v u:Value) (key b:LI) (w:World) (hb:Bs .u8 w v key) (h8:U8 key) (hk:key.length<=10000000000) (hu:Bs .u8 w u b) (hu8:U8 b) (hl:b.length<=10000000000) :
 Calls prog 48 #[v,u] w λe w'=>∃r,e=.returned r∧w'.ownsRow w.heap.size 5 1 r 32 ((MACL key b).map (Value.int .u8))∧N0 w w':=by
 have h2:N0 w (w.alloc (.cells #[u] 23)):=(Only.refl _ _).alloc _;have A:=Qa (Rq v key w.heap.size 1 (λ_=>b) (w.alloc (.cells #[u] 23)) (hb.past h2) h8 hk (Ps.one hu hu8) (by rw[KH];exact hl) (by decide));rw[KH] at A;have h1:=Qa h2;obtain⟨aou,capu,rfl⟩:=hu.len;obtain⟨m,hm⟩:=EX b.length;rw[<-hm] at A h1 ⊢;clear h2 hb h8 hk hu hu8 hl hm;go_enter func48,ntmps48;go_wp2_with fail;refine A.o.mono ?_;rintro e w6 ⟨v6,rfl,h0,h3⟩;have F1:=Qa (Qu h0 h1.o.size);have F2:=Qa (h1.o.same h3);obtain⟨ao6,cap6,e6⟩:=(Bs.of_own (k:=.u8) (xs:=MACL key b) (by rw[Y3];exact h0)).len;subst e6;clear h0 h3 A h1;go_wp2;go_ret;exact⟨_,rfl,F1.o,F2.o⟩
theorem Fa (xs ys:LI) (j:Nat) (hx:j<xs.length) (hy:j<ys.length):xs.take (j+1)=ys.take (j+1)↔xs.take j=ys.take j∧xs.getD j 0=ys.getD j 0:=by
 rw[List.take_add_one,List.take_add_one,Qg hx,Qg hy,Qd,Qd,Qg hx,Qg hy];simp only[Option.toList_some,Option.getD_some]
 constructor
 ·intro h
  have:=List.append_inj h (by rw[Qf,Qf];omega);exact⟨this.1,by simpa using this.2⟩
 ·rintro⟨h1,h2⟩;rw[h1,h2]
theorem NR (a b:Nat):a ^^^ b=0↔a=b:=by
 constructor
 ·intro h
  have:a ^^^ (a ^^^ b)=a ^^^ 0:=by rw[h]
  rw[<-Nat.xor_assoc,Nat.xor_self,Nat.zero_xor,Nat.xor_zero] at this;exact this.symm
 ·rintro rfl;exact Nat.xor_self _
theorem BH (a b:Nat):a ||| b=0↔a=0∧b=0:=by
 constructor
 ·intro h
  have h1:a<=a ||| b:=Nat.left_le_or
  have h2:b<=a ||| b:=Nat.right_le_or
  omega
 ·rintro⟨rfl,rfl⟩;rfl
theorem OV (va vb:Value) (xs ys:LI) (w:World) (ha:Bs .u8 w va xs) (hb:Bs .u8 w vb ys) (hx8:U8 xs) (hy8:U8 ys) (hl:xs.length<=140737488355328) :
 Calls prog 68 #[va,vb] w λe w'=>e=.returned (.bool (decide (xs=ys)))∧∃m,w'=w.drewN m:=by
 by_cases hne:xs.length=ys.length
 case neg =>
  have hd:decide (xs=ys)=false:=Qb (λh=>hne (by rw[h]));rw[hd];obtain⟨aoa,ca,rfl,_⟩:=ha;obtain⟨aob,cb,rfl,_⟩:=hb
  have hg:((xs.length:Int) != (ys.length:Int))=true:=by simp;omega
  obtain⟨n,hn⟩:=EX xs.length;obtain⟨m,hm⟩:=EX ys.length;rw[<-hn,<-hm] at hg ⊢;clear hn hm hne hd hx8 hy8 hl;go_enter func68,ntmps68;go_wp2;go_ret;exact⟨rfl,0,rfl⟩
 obtain⟨aoa,ca,rfl,hca,h8⟩:=ha;obtain⟨aob,cb,rfl,hh,h5⟩:=hb
 have hg:((xs.length:Int) != (xs.length:Int))=false:=by simp
 rw[<-hne] at hh h5 ⊢;obtain⟨D,hD⟩:=EX (decide (xs=ys));rw[<-hD]
 by_cases hx:xs=[]
 ·subst hx
  have hy:ys=[]:=List.eq_nil_of_length_eq_zero (by rw[<-hne];rfl);subst hy;clear h8 h5;simp only[List.length_nil]
  have HD:Hid (D=true):=by show _=_;rw[hD];rfl
  clear hD;go_enter func68,ntmps68;go_wp2
  go_loop [5,14] (λd i=>d=.int .u8 0∧i=.int .i64 0) (λ_ _=>0)
  case atStart=>exact⟨rfl,rfl⟩
  case round =>
   obtain⟨rfl,rfl⟩:=hrel;go_wp2;go_ret;exact⟨by rw[HD.o];rfl,0,rfl⟩
 ·obtain⟨ba,oa,rfl,h4⟩:=h8 hx
  obtain⟨bb,ob,rfl,h3⟩:=h5 (λh=>hx (List.eq_nil_of_length_eq_zero (by rw[hne,h];rfl)));clear h8 h5 hx;obtain⟨n,hn⟩:=EX xs.length
  have ho:n=ys.length:=by omega
  rw[<-hn] at hg hca hh h4 hl ⊢;rw[<-hn] at h3;have HA:Hid (∀j,j<n->w.cell? ⟨ba,oa+j,none⟩=some (.int .u8 (xs.getD j 0))):=h4;have HB:Hid (∀j,j<n->w.cell? ⟨bb,ob+j,none⟩=some (.int .u8 (ys.getD j 0))):=h3;have HN:Hid (n=xs.length∧n=ys.length∧U8 xs∧U8 ys):=⟨hn,ho,hx8,hy8⟩;have HD:=Qa hD;clear h4 h3 hn ho hne hx8 hy8 hD;go_enter func68,ntmps68;go_wp2
  go_loopw [5,14] (λd i wr=>∃(k q:Nat),k<=n∧i=.int .i64 k∧d=.int .u8 q∧q<256∧Hid (q=0↔xs.take k=ys.take k)∧∃m,wr=w.drewN m) (λ_ i _=>n - (intOf i).toNat)
  case atStart=>exact⟨0,0,Nat.zero_le _,rfl,rfl,by decide,⟨λ_=>rfl,λ_=>rfl⟩,0,rfl⟩
  case round =>
   obtain⟨k,q,hk,rfl,rfl,hq,HQ,md,h9⟩:=hrel
   have hj:N0 w wr:=by rw[h9];exact (Only.refl _ _).drewN md
   have hr:=Qa h9;clear h9
   by_cases hlt:k<n
   ·obtain⟨x,hx⟩:=EX (xs.getD k 0)
    obtain⟨y,hy⟩:=EX (ys.getD k 0)
    have h1:wr.cell? ⟨ba,oa+k,none⟩=some (.int .u8 x):=by
     have:=HA.o k hlt;rw[World.cell?_of_block (hj.block ba (World.block_lt_of_cell? w _ this) (λf=>f)),hx];exact this
    have h2:wr.cell? ⟨bb,ob+k,none⟩=some (.int .u8 y):=by
     have:=HB.o k hlt;rw[World.cell?_of_block (hj.block bb (World.block_lt_of_cell? w _ this) (λf=>f)),hy];exact this
    have rx:=HN.o.2.2.1.at k;have ry:=HN.o.2.2.2.at k;rw[<-hx] at rx;rw[<-hy] at ry;have h7:=u8_xor x y rx.1 (by omega) ry.1 (by omega);have h6:x.toNat ^^^ y.toNat<256:=Nat.xor_lt_two_pow (n:=8) (by omega) (by omega);have hp:=u8_or_nat q (x.toNat ^^^ y.toNat) hq h6
    have hf:q ||| (x.toNat ^^^ y.toNat)<256:=Nat.or_lt_two_pow (n:=8) hq h6
    have NQ:Hid (q ||| (x.toNat ^^^ y.toNat)=0↔xs.take (k+1)=ys.take (k+1)):=by
     show _↔_
     rw[Fa xs ys k (by have:=HN.o.1;omega) (by have:=HN.o.2.1;omega),BH,NR,HQ.o,<-hx,<-hy]
     constructor
     ·rintro⟨h1,h2⟩;exact⟨h1,by omega⟩
     ·rintro⟨h1,h2⟩;exact⟨h1,by rw[h2]⟩
    obtain⟨z,hz⟩:=EX (x.toNat ^^^ y.toNat);rw[<-hz] at h7 hp hf NQ
    obtain⟨q',hs⟩:∃q',q'=q ||| z:=⟨_,rfl⟩
    rw[<-hs] at hp hf NQ
    have i0:(0:Int)<=(k:Int):=by omega
    have i1:(k:Int)<(n:Int):=by omega
    clear hx hy hz hs rx ry h6 HQ;go_wp2;go_quiet (fail);go_wp2
    go_roundw
    case rel=>exact⟨k+1,q',by omega,by go_num,by go_num,hf,NQ,md+nq,by rw[hr.o,World.drewN_drewN]⟩
    case measure=>simp[intOf];omega
   ·obtain rfl:k=n:=by omega
    have HE:Hid (((q:Int) == 0)=D):=by
     show _=_
     rw[HD.o];have e:=HQ.o;rw[List.take_of_length_le (by have:=HN.o.1;omega),List.take_of_length_le (by have:=HN.o.2.1;omega)] at e
     by_cases h0:q=0
     ·rw[Qe (e.1 h0),h0];rfl
     ·rw[Qb (λh=>h0 (e.2 h))];rw[beq_eq_false_iff_ne];omega
    have he:=HE.o;clear HQ HE hlt;go_wp2;go_ret;exact⟨rfl,md,hr.o⟩
theorem LY (va vb:Value) (xs ys:LI) (w:World) (ha:Bs .u8 w va xs) (hb:Bs .u8 w vb ys) (hx8:U8 xs) (hy8:U8 ys) (hl:xs.length<=140737488355328) :
 Calls prog 68 #[va,vb] w λe w'=>e=.returned (.bool (decide (xs=ys)))∧N0 w w':=by
 refine (OV va vb xs ys w ha hb hx8 hy8 hl).mono ?_;rintro e w' ⟨rfl,m,rfl⟩;exact⟨rfl,(Only.refl _ _).drewN m⟩
theorem L9 {lo:Nat} {k b:LI} (h:w.ownsRow lo 5 1 v 32 ((MACL k b).map (Value.int .u8))):Bs .u8 w v (MACL k b)∧∃g cap,v=.slice (some ⟨g,0,none⟩) 32 cap∧lo<=g:=by
 refine⟨Bs.of_own (by rw[Y3];exact h),?_⟩
 rcases h.2 with ⟨_,h0⟩ | ⟨g,cap,cur,hv,hb,_⟩
 ·cases h0
 ·exact⟨g,cap,hv,hb⟩
theorem Bu (v u t:Value) (key b tag:LI) (w:World) (hb:Bs .u8 w v key) (h8:U8 key) (hk:key.length<=10000000000) (hu:Bs .u8 w u b) (hu8:U8 b) (hl:b.length<=10000000000) (ht:Bs .u8 w t tag) (ht8:U8 tag) :
 Calls prog 108 #[v,u,t] w λe w'=>e=.returned (.bool (decide (MACL key b=tag)))∧N0 w w':=by
 have A:=Qa (Xk v u key b w hb h8 hk hu hu8 hl);have HT:=Qa (And.intro ht ht8);obtain⟨D,hD⟩:=EX (decide (MACL key b=tag));rw[<-hD];have HD:=Qa hD;clear hb h8 hk hu hu8 hl ht ht8 hD;go_enter func108,ntmps108;go_wp2_with fail;refine A.o.mono ?_;rintro e w1 ⟨v1,rfl,h0,h1⟩;obtain⟨b1,g1,c1,rfl,_⟩:=L9 h0;have S:=Qa (LY (.slice (some ⟨g1,0,none⟩) 32 c1) t (MACL key b) tag w1 b1 (HT.o.1.past h1) (VW _ _) HT.o.2 (by rw[Y3];decide));rw[<-HD.o] at S;have O1:=Qa h1;clear A h0 h1 b1 HT HD;go_wp2_with fail;refine S.o.mono ?_;rintro e w2 ⟨rfl,h2⟩;have F:=Qa (O1.o.same h2);clear S h2 O1;go_wp2;go_ret;exact⟨rfl,F.o⟩
section
open Go.Shelf
theorem Only.putObj {S:Nat->Prop} {a b:World} (h:Only S a b) (l:Nat) (o:Obj) (hl:l<a.heap.size->S l):Only S a (b.putObj l o) :=
 h.grown (grownBy_putObj' b l o) (λk hk e=>by cases e;exact hl hk)
theorem Bs.loop {k:IntKind} {A B:World} (h:Bs k A v xs) {l:Nat} {r:Loop} (hl:A.heap[l]? = some (.loop r)) (o:Only (λj=>j=l) A B):Bs k B v xs:=by
 obtain⟨ao,cap,rfl,hc,hr⟩:=h;refine⟨ao,cap,rfl,hc,λhx=>?_⟩;obtain⟨b,off,rfl,h1⟩:=hr hx;refine⟨b,off,rfl,λj hj=>?_⟩;have h0:=h1 j hj;rw[<-h0];refine World.cell?_of_block (o.block b (World.block_lt_of_cell? A _ h0) ?_);intro e;subst e;obtain⟨o',h2,hc'⟩:=cells_of_cell h0;rw[hl] at h2;cases h2;cases hc'
theorem QI {A B:World} {b:Nat} {t:TypeId} (h:Boxed A b t v) {S:Nat->Prop} (o:Only S A B) (hs:¬S b):Boxed B b t v:=o.heap h hs
def uf {σ:Type} (B:Nat) (I:σ->World->Prop) (s:σ) (W:World):Exit->Act->World->Prop
 | .normal,_,W'=>Only (λk=>k<B) W W'∧I s W'
 | _,_,_=>False
theorem Bt {σ α:Type} {g:Operand} {ps:Array Tmp} {assign body:Code} {Q:Exit->Act->World->Prop} {a:Act}
 {gf:Nat} {lb:Array Value} (hg:a.eval g=.func (.func gf) #[] lb) (eg:∀args w,(callFunc gf args).run P w=.ok (.enter gf args) w)
 (encs:α->Array Value) (hps:∀x,(encs x).size=ps.size) (I:σ->World->Prop) (V:σ->α->σ->World->Prop) (s0 s1:σ)
 (hI:∀s A B r,I s A->A.heap[w.heap.size+1]? = some (.loop r)->Only (λk=>k=w.heap.size+1) A B->I s B)
 (hIn:∀s A B,I s A->N0 A B->I s B)
 (hV:∀s x s' A B r,V s x s' A->A.heap[w.heap.size+1]? = some (.loop r)->Only (λk=>k=w.heap.size+1) A B->V s x s' B)
 (h0:I s0 w)
 (hit:∀(J:σ->World->Prop) (W:World),(∀s A,J s A->I s A)->(∀s A B,J s A->N0 A B->J s B)->(∀s s' A,J s A->I s' A->J s' A) ->
  (∀s x s' A,J s A->V s x s' A->YieldAt Fence.wide (n - 1 - 1) P (w.heap.size+1) (encs x) A λe B=>e=.returned (.bool true)∧J s' B)->J s0 W ->
  CallsIn Fence.wide (n - 1) P gf (#[.func (.yield (w.heap.size+1)) #[] #[]]++lb) W λe B=>(∃v,e=.returned v)∧J s1 B)
 (a₁:α->Act)
 (hassign:∀(x:α) (W:World) (K:Act->World->Prop),K (a₁ x) W ->
  assign.wpIn (Fence.wide.inRound (w.heap.size+1)) (n - 1 - 1) P (Exit.then K (λ_ _ _=>False)) { tmps:=(ps.zip (encs x)).foldl (λt (p,v)=>t.setIfInBounds p v) a.tmps,defers:=[] } W)
 (hbody:∀(s:σ) (x:α) (s':σ) (W:World),I s W->V s x s' W->body.wpIn (Fence.wide.inRound (w.heap.size+1)) (n - 1 - 1) P (uf w.heap.size I s' W) (a₁ x) W)
 (hdone:∀(W:World),I s1 W->W.heap[w.heap.size]? = some (.deferred (some []))->Q .normal { a with defers:={ target:=.collected w.heap.size,args:=#[] } :: a.defers } W) :
 (Code.rangeFunc g ps assign body).wpIn Fence.wide n P Q a w:=by
 refine wpIn_rangeFunc λfn hfn=>?_
 obtain⟨rc,h1⟩:∃rc:LoopState->Option Code->Loop,rc=λst pe=>{ state:=st,pending:=pe,fn,tmps:=a.tmps,params:=ps,assign,body,defers:=w.heap.size }:=⟨_,rfl⟩
 obtain⟨W1,h2⟩:∃W1,(w.alloc (.deferred (some []))).alloc (.loop (rc .ready none))=W1:=⟨_,rfl⟩
 have hL:W1.heap[w.heap.size+1]? = some (.loop (rc .ready none)):=by
  have:=World.alloc_heap_new (w.alloc (.deferred (some []))) (.loop (rc .ready none));rw[World.size_alloc,h2] at this;exact this
 have hD:W1.heap[w.heap.size]? = some (.deferred (some [])):=by
  rw[<-h2];exact (Below.heap_alloc _ _ _ (by simp)).trans (World.alloc_heap_new w _)
 have hO:N0 w W1:=by
  rw[<-h2];exact ((Only.refl _ w).alloc _).alloc _
 refine⟨w.heap.size+1,[{ target:=.collected w.heap.size,args:=#[] }],W1,{ target:=.fn (.func gf) lb,args:=#[.func (.yield (w.heap.size+1)) #[] #[]] },W1,gf,#[.func (.yield (w.heap.size+1)) #[] #[]]++lb,W1,?_,?_,λ_ _=>trivial,?_,(λh=>by cases h),?_⟩
 ·rw[<-h2,h1]
  exact run_enterLoop_outer _ _ _ _ _
 ·simp only[resolve,hg]
  simp[go_sem]
 ·simp[invoke,go_sem,eg]
 refine (hit (λs W=>I s W∧W.heap[w.heap.size+1]? = some (.loop (rc .ready none))∧W.heap[w.heap.size]? = some (.deferred (some []))) W1 (λ_ _ h=>h.1)
  (λs A B h o=>⟨hIn s A B h.1 o,o.heap h.2.1 (λf=>f),o.heap h.2.2 (λf=>f)⟩) (λ_ _ _ h i=>⟨i,h.2⟩) ?_ ⟨hIn _ _ _ h0 hO,hL,hD⟩).mono ?_
 ·rintro s x s' A ⟨hi,hl,hd⟩ hv
  have hlt:w.heap.size+1<A.heap.size:=(Array.getElem?_eq_some_iff.1 hl).1;have hy:=run_yield (P:=P) (args:=encs x) hl (by rw[h1];exact hps x);rw[h1] at hy;refine⟨fn,_,assign,body,hy,roundIn_of_wpIn hfn (hassign x A _ ⟨_,run_beginRound hl (by rw[h1]),?_⟩)⟩;obtain⟨A2,h3⟩:∃A2,A.putObj (w.heap.size+1) (.loop { rc .ready none with state:=.busy })=A2:=⟨_,rfl⟩
  have o2:Only (λk=>k=w.heap.size+1) A A2:=by rw[<-h3];exact (Only.refl _ A).putObj _ _ (λ_=>rfl)
  have l2:A2.heap[w.heap.size+1]? = some (.loop { rc .ready none with state:=.busy }):=by rw[<-h3];exact World.putObj_heap_same hlt
  have d2:A2.heap[w.heap.size]? = some (.deferred (some [])):=o2.heap hd (by omega);rw[h3];refine wpIn_mono (hbody s x s' A2 (hI s A A2 _ hi hl o2) (hV s x s' A A2 _ hv hl o2)) ?_;intro ex a3 A3 h
  cases ex
  case normal =>
   obtain⟨o3,i3⟩:=h;have l3:=o3.heap l2 (by omega);have d3:=o3.heap d2 (by omega);have hr:=run_endRound (P:=P) none l3
   have h4:A3.putObj (w.heap.size+1) (.loop (rc .ready none))=A3.putObj (w.heap.size+1) (.loop { rc .ready none with state:=if (none:Option Code).isNone then .ready else .done,pending:=none }):=by rw[h1];rfl
   have o4:Only (λk=>k=w.heap.size+1) A3 (A3.putObj (w.heap.size+1) (.loop (rc .ready none))):=(Only.refl _ A3).putObj _ _ (λ_=>rfl);refine⟨_,_,hr,rfl,?_⟩
   have h5:I s' (A3.putObj (w.heap.size+1) (.loop (rc .ready none)))∧(A3.putObj (w.heap.size+1) (.loop (rc .ready none))).heap[w.heap.size+1]? = some (.loop (rc .ready none))∧(A3.putObj (w.heap.size+1) (.loop (rc .ready none))).heap[w.heap.size]? = some (.deferred (some [])) :=
    ⟨hI s' A3 _ _ i3 l3 o4,World.putObj_heap_same (Array.getElem?_eq_some_iff.1 l3).1,o4.heap d3 (by omega)⟩
   rw[h4] at h5;exact h5
  all_goals exact h.elim
 ·rintro e A ⟨⟨v,rfl⟩,hi,hl,hd⟩
  have hr:=run_endLoop (P:=P) hl (by rw[h1];simp)
  have hp:(rc .ready none).pending=none:=by rw[h1]
  refine⟨none,_,by rw[hr,hp],hdone _ (hI _ _ _ _ hi hl ((Only.refl _ A).putObj _ _ (λ_=>rfl))) ?_⟩;exact (World.putObj_heap_other (by omega)).trans hd
end
section
open Go.Shelf
def Ik {σ:Type} (c:Code) (B:Nat) (I Ix:σ->World->Prop) (s:σ) (W:World):Exit->Act->World->Prop
 | .normal,_,W'=>Only (λk=>k<B) W W'∧I s W'
 | .ret,_,W'=>c=.ret∧Only (λk=>k<B) W W'∧Ix s W'
 | .exit id,_,W'=>c=.exit id∧Only (λk=>k<B) W W'∧Ix s W'
 | _,_,_=>False
theorem Jz {σ α:Type} {c:Code} {g:Operand} {ps:Array Tmp} {assign body:Code} {Q:Exit->Act->World->Prop} {a:Act}
 {gf:Nat} {lb:Array Value} (hg:a.eval g=.func (.func gf) #[] lb) (eg:∀args w,(callFunc gf args).run P w=.ok (.enter gf args) w)
 (encs:α->Array Value) (hps:∀x,(encs x).size=ps.size) (I Ix:σ->World->Prop) (V:σ->α->σ->World->Prop) (s0 s1:σ)
 (hI:∀s A B r,I s A->A.heap[w.heap.size+1]? = some (.loop r)->Only (λk=>k=w.heap.size+1) A B->I s B)
 (hIx:∀s A B r,Ix s A->A.heap[w.heap.size+1]? = some (.loop r)->Only (λk=>k=w.heap.size+1) A B->Ix s B)
 (hIn:∀s A B,I s A->N0 A B->I s B)
 (hV:∀s x s' A B r,V s x s' A->A.heap[w.heap.size+1]? = some (.loop r)->Only (λk=>k=w.heap.size+1) A B->V s x s' B)
 (h0:I s0 w)
 (hit:∀(J Jx:σ->World->Prop) (W:World),(∀s A,J s A->I s A)->(∀s A B,J s A->N0 A B->J s B) ->
  (∀s x s' A,J s A->V s x s' A->YieldAt Fence.wide (n - 1 - 1) P (w.heap.size+1) (encs x) A λe B =>
   (e=.returned (.bool true)∧J s' B∧Only (λk=>k<w.heap.size∨k=w.heap.size+1) A B)∨(e=.returned (.bool false)∧Jx s' B))->J s0 W->w.heap.size+2<=W.heap.size ->
  CallsIn Fence.wide (n - 1) P gf (#[.func (.yield (w.heap.size+1)) #[] #[]]++lb) W λe B=>(∃v,e=.returned v)∧(J s1 B∨∃s,Jx s B))
 (a₁:α->Act)
 (hassign:∀(x:α) (W:World) (K:Act->World->Prop),K (a₁ x) W ->
  assign.wpIn (Fence.wide.inRound (w.heap.size+1)) (n - 1 - 1) P (Exit.then K (λ_ _ _=>False)) { tmps:=(ps.zip (encs x)).foldl (λt (p,v)=>t.setIfInBounds p v) a.tmps,defers:=[] } W)
 (hbody:∀(s:σ) (x:α) (s':σ) (W:World),I s W->V s x s' W->body.wpIn (Fence.wide.inRound (w.heap.size+1)) (n - 1 - 1) P (Ik c w.heap.size I Ix s' W) (a₁ x) W)
 (hdone:∀(W:World),I s1 W->W.heap[w.heap.size]? = some (.deferred (some []))->Q .normal { a with defers:={ target:=.collected w.heap.size,args:=#[] } :: a.defers } W)
 (hstop:∀(s:σ) (W:World),Ix s W->W.heap[w.heap.size]? = some (.deferred (some []))->c.wpIn Fence.wide n P Q { a with defers:={ target:=.collected w.heap.size,args:=#[] } :: a.defers } W) :
 (Code.rangeFunc g ps assign body).wpIn Fence.wide n P Q a w:=by
 refine wpIn_rangeFunc λfn hfn=>?_
 obtain⟨rc,h1⟩:∃rc:LoopState->Option Code->Loop,rc=λst pe=>{ state:=st,pending:=pe,fn,tmps:=a.tmps,params:=ps,assign,body,defers:=w.heap.size }:=⟨_,rfl⟩
 obtain⟨W1,h2⟩:∃W1,(w.alloc (.deferred (some []))).alloc (.loop (rc .ready none))=W1:=⟨_,rfl⟩
 have hL:W1.heap[w.heap.size+1]? = some (.loop (rc .ready none)):=by
  have:=World.alloc_heap_new (w.alloc (.deferred (some []))) (.loop (rc .ready none));rw[World.size_alloc,h2] at this;exact this
 have hD:W1.heap[w.heap.size]? = some (.deferred (some [])):=by
  rw[<-h2];exact (Below.heap_alloc _ _ _ (by simp)).trans (World.alloc_heap_new w _)
 have hO:N0 w W1:=by
  rw[<-h2];exact ((Only.refl _ w).alloc _).alloc _
 have hS1:w.heap.size+2<=W1.heap.size:=by rw[<-h2];simp
 refine⟨w.heap.size+1,[{ target:=.collected w.heap.size,args:=#[] }],W1,{ target:=.fn (.func gf) lb,args:=#[.func (.yield (w.heap.size+1)) #[] #[]] },W1,gf,#[.func (.yield (w.heap.size+1)) #[] #[]]++lb,W1,?_,?_,λ_ _=>trivial,?_,(λh=>by cases h),?_⟩
 ·rw[<-h2,h1]
  exact run_enterLoop_outer _ _ _ _ _
 ·simp only[resolve,hg]
  simp[go_sem]
 ·simp[invoke,go_sem,eg]
 refine (hit (λs W=>I s W∧W.heap[w.heap.size+1]? = some (.loop (rc .ready none))∧W.heap[w.heap.size]? = some (.deferred (some [])))
  (λs W=>Ix s W∧W.heap[w.heap.size+1]? = some (.loop (rc .done (some c)))∧W.heap[w.heap.size]? = some (.deferred (some []))) W1 (λ_ _ h=>h.1)
  (λs A B h o=>⟨hIn s A B h.1 o,o.heap h.2.1 (λf=>f),o.heap h.2.2 (λf=>f)⟩) ?_ ⟨hIn _ _ _ h0 hO,hL,hD⟩ hS1).mono ?_
 ·rintro s x s' A ⟨hi,hl,hd⟩ hv
  have hlt:w.heap.size+1<A.heap.size:=(Array.getElem?_eq_some_iff.1 hl).1;have hy:=run_yield (P:=P) (args:=encs x) hl (by rw[h1];exact hps x);rw[h1] at hy;refine⟨fn,_,assign,body,hy,roundIn_of_wpIn hfn (hassign x A _ ⟨_,run_beginRound hl (by rw[h1]),?_⟩)⟩;obtain⟨A2,h3⟩:∃A2,A.putObj (w.heap.size+1) (.loop { rc .ready none with state:=.busy })=A2:=⟨_,rfl⟩
  have o2:Only (λk=>k=w.heap.size+1) A A2:=by rw[<-h3];exact (Only.refl _ A).putObj _ _ (λ_=>rfl)
  have l2:A2.heap[w.heap.size+1]? = some (.loop { rc .ready none with state:=.busy }):=by rw[<-h3];exact World.putObj_heap_same hlt
  have d2:A2.heap[w.heap.size]? = some (.deferred (some [])):=o2.heap hd (by omega);rw[h3];refine wpIn_mono (hbody s x s' A2 (hI s A A2 _ hi hl o2) (hV s x s' A A2 _ hv hl o2)) ?_;intro ex a3 A3 h
  cases ex
  case normal =>
   obtain⟨o3,i3⟩:=h;have l3:=o3.heap l2 (by omega);have d3:=o3.heap d2 (by omega);have hr:=run_endRound (P:=P) none l3
   have h4:A3.putObj (w.heap.size+1) (.loop (rc .ready none))=A3.putObj (w.heap.size+1) (.loop { rc .ready none with state:=if (none:Option Code).isNone then .ready else .done,pending:=none }):=by rw[h1];rfl
   have o4:Only (λk=>k=w.heap.size+1) A3 (A3.putObj (w.heap.size+1) (.loop (rc .ready none))):=(Only.refl _ A3).putObj _ _ (λ_=>rfl);refine⟨_,_,hr,.inl ⟨rfl,?_⟩⟩
   have h5:(I s' (A3.putObj (w.heap.size+1) (.loop (rc .ready none)))∧(A3.putObj (w.heap.size+1) (.loop (rc .ready none))).heap[w.heap.size+1]? = some (.loop (rc .ready none))∧(A3.putObj (w.heap.size+1) (.loop (rc .ready none))).heap[w.heap.size]? = some (.deferred (some []))) ∧
    Only (λk=>k<w.heap.size∨k=w.heap.size+1) A (A3.putObj (w.heap.size+1) (.loop (rc .ready none))) :=
    ⟨⟨hI s' A3 _ _ i3 l3 o4,World.putObj_heap_same (Array.getElem?_eq_some_iff.1 l3).1,o4.heap d3 (by omega)⟩,
     ((o2.mono (T:=λk=>k<w.heap.size∨k=w.heap.size+1) (λ_ _ e=>.inr e)).trans o3 (λ_ _ e=>.inl e)).trans o4 (λ_ _ e=>.inr e)⟩
   rw[h4] at h5;exact h5
  all_goals first
  | exact h.elim
  | (obtain⟨hc,o3,i3⟩:=h;have l3:=o3.heap l2 (by omega);have d3:=o3.heap d2 (by omega);have hr:=run_endRound (P:=P) (some c) l3;have h4:A3.putObj (w.heap.size+1) (.loop (rc .done (some c)))=A3.putObj (w.heap.size+1) (.loop { rc .ready none with state:=if (some c:Option Code).isNone then .ready else .done,pending:=some c }):=(by rw[h1];rfl);have o4:Only (λk=>k=w.heap.size+1) A3 (A3.putObj (w.heap.size+1) (.loop (rc .done (some c)))):=(Only.refl _ A3).putObj _ _ (λ_=>rfl);have h5:Ix s' (A3.putObj (w.heap.size+1) (.loop (rc .done (some c))))∧(A3.putObj (w.heap.size+1) (.loop (rc .done (some c)))).heap[w.heap.size+1]? = some (.loop (rc .done (some c)))∧(A3.putObj (w.heap.size+1) (.loop (rc .done (some c)))).heap[w.heap.size]? = some (.deferred (some [])):=⟨hIx s' A3 _ _ i3 l3 o4,World.putObj_heap_same (Array.getElem?_eq_some_iff.1 l3).1,o4.heap d3 (by omega)⟩;rw[h4] at h5;subst hc;exact⟨_,_,hr,.inr ⟨rfl,h5⟩⟩)
 ·rintro e A ⟨⟨v,rfl⟩,⟨hi,hl,hd⟩ | ⟨s,hi,hl,hd⟩⟩
  ·have hr:=run_endLoop (P:=P) hl (by rw[h1];simp)
   have hp:(rc .ready none).pending=none:=by rw[h1]
   refine⟨none,_,by rw[hr,hp],hdone _ (hI _ _ _ _ hi hl ((Only.refl _ A).putObj _ _ (λ_=>rfl))) ?_⟩;exact (World.putObj_heap_other (by omega)).trans hd
  ·have hr:=run_endLoop (P:=P) hl (by rw[h1];simp)
   have hp:(rc .done (some c)).pending=some c:=by rw[h1]
   refine⟨some c,_,by rw[hr,hp],hstop s _ (hIx _ _ _ _ hi hl ((Only.refl _ A).putObj _ _ (λ_=>rfl))) ?_⟩;exact (World.putObj_heap_other (by omega)).trans hd
end
section
open Go.Shelf
theorem I9 {n l:Nat} {o:Oper} {a:Act} {K:Act->World->Prop} {Q:Exit->Act->World->Prop} (hnd:∀c,o.op≠.defer c) (h:o.wp P a w K Q):o.wpIn (Fence.wide.inRound l) n P a w K Q:=by
 refine⟨λ_ _=>trivial,?_⟩;rw[Oper.semAt_eq _ _ _ hnd];unfold Oper.wp at h;generalize (execOp a.eval o).run P w=r at *
 cases r with
 | ok x w' =>
  cases x with
  | value v=>exact h
  | skip=>exact h
  | defer d=>exact h
  | enter f args=>exact⟨(λh=>by cases h),CallsIn.inRound l (callsIn_wide.2 h)⟩
  | row row args=>exact⟨(λh=>by cases h),λc cs _=>by
   obtain⟨v,w',r,s⟩:=h c cs
   exact⟨v,w',r,stepsIn_wide.2 s⟩⟩
  | _=>exact False.elim h
 | halt x w'=>cases x <;> first | exact h | exact False.elim h
theorem vH {n l:Nat} {md:Region.Mode} {ops:Array Oper} {Q:Exit->Act->World->Prop} (hQ:¬LetsOut Q) (hnd:∀(i:Nat) (o:Oper),ops[i]? = some o->∀c,o.op≠.defer c) :
 ∀(fuel:Nat) (h0:Array Bool) (a:Act) (w:World),wpAny P md ops Q fuel h0 a w->wpAnyIn (Fence.wide.inRound l) n P md ops Q fuel h0 a w:=by
 intro fuel
 induction fuel with
 | zero=>intro h0 a w h;exact h
 | succ fuel ih =>
  intro h0 a w h;refine⟨h.1,λi hi=>?_⟩;have h1:=h.2 i hi;unfold wpOp at h1;unfold wpOpIn
  cases ho:ops[i]? with
  | none=>simp only[ho] at h1 ⊢;exact ih _ _ _ h1
  | some o =>
   simp only[ho] at h1 ⊢
   by_cases hw:Region.wanted o (yielded ops a.tmps)=true
   ·rw[if_pos hw] at h1 ⊢
    exact Oper.wpIn_mono (λa w=>ih _ a w) (I9 (hnd i o ho) (h1.resolve_right (λc=>hQ c.2)))
   ·rw[if_neg hw] at h1 ⊢
    exact⟨λ_ _=>trivial,ih _ _ _ h1⟩
def Lz (l:List Oper):Bool:=l.all λo=>match o.op with | .defer _=>false | _=>true
theorem yV {l:List Oper} (h:Lz l=true) (i:Nat) (o:Oper) (ho:l.toArray[i]? = some o) (c:Call):o.op≠.defer c:=λe=>by
 have hm:o∈l:=by
  have:=Array.mem_of_getElem? ho
  simpa using this
 have:=List.all_eq_true.1 h o hm;rw[e] at this
 cases this
theorem Nm {k L id:Nat} {Q:Exit->Act->World->Prop} {a:Act} {l:List Oper} (n:Nat) (hm:P.follows .mixedOrders=true) (hQ:¬LetsOut Q) (hnd:Lz l=true) (hB:Region.lexTailB .any l.toArray n=true)
 (h:wpStill P l.toArray { w with drawn:=w.drawn+1 } (λa'=>wpList P l.toArray Q (l.drop n) a' { w with drawn:=w.drawn+1 }) (l.take n) a):(Code.region id l.toArray true).wpIn (Fence.wide.inRound L) k P Q a w:=by
 simp only[Region.lexTailB,Bool.and_eq_true,decide_eq_true_eq] at hB;obtain⟨⟨⟨⟨h1,hn⟩,hs⟩,hc⟩,h3⟩:=hB
 have hn':n<l.length:=by simpa using hn
 have h0:(l.take n).length=n:=by simp;omega
 have h4:(l.drop n).length=l.toArray.size - n:=by simp
 have h2:HeadInv .any l.toArray n (Array.replicate l.toArray.size false) :=
  ⟨by simp,λj oj _ hl=>(by rw[getD_replicate_false] at hl;cases hl),λt _ ht=>Go.getD_in (by simpa using ht) (getD_replicate_false _ _)⟩
 have H:=wpAnyL_lex (md:=.any) (g:=l.toArray.size - n) h1 hs hc hn (l.take n) 0 _ a (λj hj=>by
  have hj':j<n:=by rw[h0] at hj;exact hj
  simp[hj']) (by simpa using h0) h2 (by rw[h0];exact h3) h
 refine wpIn_region_any hm (vH hQ (yV hnd) _ _ _ _ ?_)
 have:=wpAny_of_head (Q':=Q) (g:=l.toArray.size - n) (λlisted a' hL=>by
  have:=wpAny_of_seq (md:=.any) (Q':=Q) (l.drop n) n listed a' { w with drawn:=w.drawn+1 } (λj=>by simp[List.getElem?_drop]) (by rw[h4];exact hL.1) hL.2
  rwa [h4] at this) _ _ _ H
 rw[h0,show n+(l.toArray.size - n)=l.toArray.size by omega] at this;exact this
end
section
open Go.Shelf
attribute [local go_sem] Oper.semAt_some
theorem Sj (key info:LI) (j:Nat):U8 (tpc key info j):=by
 cases j with
 | zero=>intro y hy;cases hy
 | succ j=>exact VW _ _
theorem kT (key info:LI) (j:Nat):(tpc key info j).length<=32:=by
 cases j with
 | zero=>exact Nat.zero_le _
 | succ j=>exact Nat.le_of_eq (VH _ _ _)
def three (a b c:LI) (i:Nat):LI:=if i=0 then a else if i=1 then b else c
theorem Lx (a b c:LI):pcat (three a b c) 3=a++b++c:=by
 show ((([]++a)++b)++c:LI)=_
 rw[List.nil_append]
theorem Ps.three {p u q:Value} {a b c:LI} (ha:Bs .u8 w p a) (hb:Bs .u8 w u b) (hc:Bs .u8 w q c) (a8:U8 a) (b8:U8 b) (c8:U8 c) (G:Nat) (hG:w.heap.size=G) :
 Ps (w.alloc (.cells #[p,u,q] 23)) G 3 (three a b c):=λi hi=>by
 subst hG;have o:N0 w (w.alloc (.cells #[p,u,q] 23)):=(Only.refl _ _).alloc _;have hB:=Blk.new w 23 [p,u,q]
 rcases (show i=0∨i=1∨i=2 by omega) with rfl | rfl | rfl
 ·exact⟨p,hB.cell 0,ha.past o,a8⟩
 ·exact⟨u,hB.cell 1,hb.past o,b8⟩
 ·exact⟨q,hB.cell 2,hc.past o,c8⟩
theorem wa (n:Nat) (a:Option Addr) (len cap:Nat) (b:Option Addr) (len' cap':Nat) (w:World) :
 CallsIn Fence.wide n prog 153 #[.slice a len cap,.slice b len' cap'] w λe w'=>e=.returned (.func (.func 186) #[] #[.pointer (some ⟨w.heap.size,0,none⟩),.pointer (some ⟨w.heap.size+1,0,none⟩)])∧w'=(w.alloc (.cells #[.slice a len cap] 23)).alloc (.cells #[.slice b len' cap'] 23):=by
 refine callsIn_of_wp func153 rfl trivial ?_ rfl;simp only[ntmps153,List.size_toArray,Qi,List.length_nil,Nat.reduceAdd,Nat.reduceSub,Array.replicate_succ,Array.replicate_zero,List.push_toArray,List.append_toArray,List.nil_append,List.cons_append]
 gi_wp2
 go_ret;exact⟨rfl,rfl⟩
theorem SM (n L Bk Bi B0:Nat) (v:Value) (ua:Option Addr) (ul uc:Nat) (key info:LI) (h8:U8 key) (hk:key.length<=10000000000) (hj:U8 info) (hl:info.length<=1000000000) (J Jx:Nat->World->Prop)
 (hJ:∀s A,J s A->Boxed A Bk 23 v∧Boxed A Bi 23 (.slice ua ul uc)∧Bs .u8 A v key∧Bs .u8 A (.slice ua ul uc) info)
 (hJo:∀s A B,J s A->N0 A B->J s B)
 (hY:∀(s:Nat) g c A,s<255->J s A->Bs .u8 A (.slice (some ⟨g,0,none⟩) 32 c) (tpc key info (s+1))->B0+2<=g->YieldAt Fence.wide (n - 1) prog L #[.slice (some ⟨g,0,none⟩) 32 c] A λe B =>
  (e=.returned (.bool true)∧J (s+1) B∧Only (λk=>k<B0∨k=B0+1) A B)∨(e=.returned (.bool false)∧Jx (s+1) B))
 (W:World) (h0:J 0 W) (hW:B0+2<=W.heap.size) :
 CallsIn Fence.wide n prog 186 #[.func (.yield L) #[] #[],.pointer (some ⟨Bk,0,none⟩),.pointer (some ⟨Bi,0,none⟩)] W λe B=>(∃v,e=.returned v)∧(J 255 B∨∃s,Jx s B):=by
 have HJ:=Qa hJ;have HJo:=Qa hJo;have HY:=Qa hY;have H0:=Qa h0;have HW:=Qa hW;have HK:=Qa (And.intro h8 (And.intro hk (And.intro hj hl)));clear hJ hJo hY h0 hW h8 hk hj hl;refine callsIn_of_wp func186 rfl trivial ?_ rfl;simp only[ntmps186,List.size_toArray,Qi,List.length_nil,Nat.reduceAdd,Nat.reduceSub,Array.replicate_succ,Array.replicate_zero,List.push_toArray,List.append_toArray,List.nil_append,List.cons_append]
 gi_wp2
 gi_loopw [4,6] (λp i wr=>∃t:Nat,t<=255∧i=.int .i64 t∧Hid (J t wr)∧Hid (Bs .u8 wr p (tpc key info t))∧Hid (∀k,p.ownBlock=some k->B0+2<=k)∧Hid (B0+2<=wr.heap.size)) (λ_ i _=>255 - (intOf i).toNat)
 case atStart=>exact⟨0,by omega,rfl,H0,Bs.nil _ _,(λk h=>by cases h),HW⟩
 case round =>
  obtain⟨t,ht,rfl,HT,HP,HQ,HS⟩:=hrel
  by_cases hlt:t<255
  ·have dlt:decide ((t:Int)<255)=true:=Qe (by omega)
   obtain⟨hf,ha,h9,h7⟩:=HJ.o t wr HT.o;have hc1:=hf.cell;have hc2:=ha.cell;obtain⟨b,hb⟩:∃b:Int,b=(t:Int)+1:=⟨_,rfl⟩
   have he:b=(((t+1) % 256:Nat):Int):=by omega
   obtain⟨pa,pc,ep⟩:=HP.o.len;obtain⟨m,hm⟩:=EX ((tpc key info t).length);rw[<-hm] at ep;subst ep;have o1:N0 wr (wr.alloc (.cells #[.int .u8 b] 5)):=(Only.refl _ _).alloc _;have o2:N0 wr ((wr.alloc (.cells #[.int .u8 b] 5)).alloc (.cells #[.slice pa m pc,.slice ua ul uc,.slice (some ⟨wr.heap.size,0,none⟩) 1 1] 23)):=o1.alloc _;have hh:=Ps.three (HP.o.past o1) (h7.past o1) (Bs.litN .u8 wr 5 [b] _ _ rfl rfl) (Sj _ _ _) HK.o.2.2.1 (λy hy=>by rw[List.mem_singleton] at hy;subst hy;omega) (wr.heap.size+1) (size_alloc _ _)
   have A:=Qa (Rq v key (wr.heap.size+1) 3 (three (tpc key info t) info [b]) ((wr.alloc (.cells #[.int .u8 b] 5)).alloc (.cells #[.slice pa m pc,.slice ua ul uc,.slice (some ⟨wr.heap.size,0,none⟩) 1 1] 23)) (h9.past o2) HK.o.1 HK.o.2.1 hh (by
    have h1:=kT key info t;have h2:=HK.o.2.2.2
    rw[Lx,Qc,Qc];simp only[List.length_singleton];omega) (by decide))
   have hM:MACL key (pcat (three (tpc key info t) info [b]) 3)=tpc key info (t+1):=by rw[Lx,he];rfl
   rw[hM,hb] at A;have O2:=Qa o2;rw[hb] at O2;clear hf ha h9 h7 hb he hm o1 o2 hh hM
   gi_wp2_with fail
   refine⟨trivial,(λh=>by cases h),(callsIn_wide.2 A.o).mono ?_⟩;rintro e w2 ⟨r,rfl,h3,h5⟩;have hsz:=O2.o.size;have hs2:=h5.size;have hS:=HS.o;have b2:Bs .u8 w2 r (tpc key info (t+1)):=Bs.of_own (by rw[VH];exact h3)
   have hd:=λk hk=>(h3.lt k hk)
   obtain⟨ra,rc,er⟩:=Qm h3;subst er
   obtain⟨g,hg⟩:∃g,ra=some ⟨g,0,none⟩:=by
    rcases h3.2 with ⟨_,h0⟩ | ⟨g,cap,cur,hv,_⟩
    ·cases h0
    ·simp at hv;exact⟨g,hv.1⟩
   subst hg;have hgB:=hd g rfl;obtain⟨fn,tmps,h6,body,hy,hR⟩:=HY.o t g rc w2 hlt (HJo.o _ _ _ HT.o (O2.o.same h5)) b2 (by omega);have HR:=Qa hR;have H2:=Qa (And.intro b2 (show B0+2<=g by omega))
   have HS2:Hid (B0+2<=w2.heap.size):=by show _<=_;omega
   clear h3 h5 A hR b2 hd hsz hs2 hS hgB hc1 hc2 HT HP HQ HS O2
   gi_wp2
   refine⟨(λh=>by cases h),HR.o.mono ?_⟩;rintro e w3 (⟨rfl,h4,o3⟩ | ⟨rfl,h4⟩)
   ·have H3:=Qa h4
    have N2:=Qa (H2.o.1.keep o3 (λk hk=>by
     have h2:=H2.o.2;simp[Value.ownBlock] at hk
     omega))
    have N3:Hid (∀k,(Value.slice (some ⟨g,0,none⟩) 32 rc).ownBlock=some k->B0+2<=k):=λk hk=>by
     have h2:=H2.o.2;simp[Value.ownBlock] at hk;omega
    have N4:Hid (B0+2<=w3.heap.size):=by
     have h1:=HS2.o;have h2:=o3.size
     show _<=_
     omega
    clear HR h4 o3
    gi_wp2
    go_roundw
    case rel=>exact⟨t+1,by omega,by go_num,H3,N2,N3,N4⟩
    case measure=>simp[intOf];omega
   ·have H3:=Qa h4
    clear HR h4
    gi_wp2
    refine bodyPost_ret (results_none rfl _ _ _) rfl ?_;exact⟨⟨_,rfl⟩,.inr ⟨_,H3.o⟩⟩
  ·obtain rfl:t=255:=by omega
   gi_wp2
   go_end0
   exact⟨⟨_,rfl⟩,.inl HT.o⟩
end
end Go.Proofs.YtoflhbghdlaeaaaGreatDoor
