import Derived.Test.YtiochaeeoelmjaaGreatDoorG5
import Derived.Test.YtiochaeeoelmjaaGreatDoorG16
import Derived.Deep.CutRange
namespace Go.Proofs.YtiochaeeoelmjaaGreatDoor
set_option maxHeartbeats 1600000
set_option maxRecDepth 100000
open Go.RowKit _root_.Go.Proofs.Tryz
def z17:List Value:=bl (List.replicate 17 0)
theorem Tryz.zero50:(prog.info? 244).map (λi=>(i.zero,i.size))=some (some (.agg z17.toArray),17):=by kernel_rfl
theorem Ku {o:Oper} {a:Act} {W:World} {K:Act->World->Prop} {Q:Exit->Act->World->Prop} (n:Nat) (xs:Array Operand) (ts:Array TypeId)
 (ho:o.op=.call { callee:=.value (.func n),args:=xs,argTypes:=ts }) (hf:∀vs W,(callFunc n vs).run prog W=.ok (.enter n vs) W) (vs:Array Value) (r:Value) (hx:xs.map a.eval=vs) {R:World->Prop}
 (hc:Calls prog n vs W λe w'=>e=.returned r∧R w') (h:∀w',R w'->K (a.put o.dst r) w'):Oper.wp prog o a W K Q:=by
 subst hx;unfold Oper.wp;have e:a.eval (Operand.func n)=.func (.func n) #[] #[]:=rfl;have hf2:=hf (xs.map a.eval) W;simp[execOp,ho,resolve,invoke,e,Oper.upon,Deferred.ofValue,hf2];refine Calls.mono hc ?_;rintro e w' ⟨rfl,hR⟩;exact h w' hR
theorem OV (vs:Array Value) (W:World):(callFunc 153 vs).run prog W=.ok (.enter 153 vs) W:=by kernel_rfl
theorem SY (vs:Array Value) (W:World):(callFunc 155 vs).run prog W=.ok (.enter 155 vs) W:=by kernel_rfl
theorem kX (vs:Array Value) (W:World):(callFunc 196 vs).run prog W=.ok (.enter 196 vs) W:=by kernel_rfl
theorem Blk.setAll {w:World} {g:Nat} {t:TypeId} {cs vs:List Value} (h:Blk w g t cs) (hl:vs.length=cs.length):Blk (w.setCells g 0 vs) g t vs:=by
 have:=Td [] cs [] vs hl w g t (by simpa using h)
 simpa using this
theorem Bf (xs:LI) (k q:Nat) (hq:q=min 16 (xs.drop (16*k)).length):((xs.drop (16*k)).take q++List.replicate (17 - q) 0).set q 1=pby xs k:=by
 have hl:((xs.drop (16*k)).take q).length=q:=by rw[Qg];omega
 have e:17 - q=(16 - q)+1:=by omega
 rw[List.set_append_right _ _ (by omega),hl,Nat.sub_self,e,List.replicate_succ,Qn,pby]
 have h1:(xs.drop (16*k)).take q=(xs.drop (16*k)).take 16:=by
  by_cases h:(xs.drop (16*k)).length<=16
  ·rw[List.take_of_length_le (by omega),List.take_of_length_le h]
  ·rw[show q=16 by omega]
 rw[h1,List.append_assoc]
 congr 2
 rw[Qm] at hq;rw[hq]
 rfl
def pslen:Value->Nat
 | .slice _ n _=>n
 | _=>0
abbrev o0ga : Oper:={ dst:=some 21,op:=Op.call { callee:=Callee.value (Operand.func 155),args:=#[Operand.tmp 18,Operand.tmp 20],argTypes:=#[195,195] },type:=195,pos:="poly.go:51",after:=#[{ on:=0,ground:=Ground.data },{ on:=2,ground:=Ground.data },{ on:=2,ground:=Ground.chain }],guard:=none }
abbrev o1ga : Oper:={ dst:=some 23,op:=Op.call { callee:=Callee.value (Operand.func 196),args:=#[Operand.tmp 21,Operand.tmp 22],argTypes:=#[195,195] },type:=195,pos:="poly.go:51",after:=#[{ on:=3,ground:=Ground.data },{ on:=4,ground:=Ground.data },{ on:=3,ground:=Ground.chain }],guard:=none }
abbrev o2ga : Oper:={ dst:=none,op:=Op.store 195 (Operand.tmp 5) (Operand.tmp 23),type:=0,pos:="poly.go:51",after:=#[{ on:=5,ground:=Ground.data },{ on:=5,ground:=Ground.chain },{ on:=0,ground:=Ground.phase },{ on:=1,ground:=Ground.phase },{ on:=2,ground:=Ground.phase },{ on:=3,ground:=Ground.phase },{ on:=4,ground:=Ground.phase },{ on:=5,ground:=Ground.phase }],guard:=none }
abbrev o3ga : Oper:={ dst:=some 22,op:=Op.load 195 (Operand.tmp 3),type:=195,pos:="poly.go:51",after:=#[],guard:=none }
abbrev o4ga : Oper:={ dst:=some 18,op:=Op.load 195 (Operand.tmp 5),type:=195,pos:="poly.go:51",after:=#[],guard:=none }
abbrev o5ga : Oper:={ dst:=some 20,op:=Op.call { callee:=Callee.value (Operand.func 153),args:=#[Operand.tmp 19],argTypes:=#[23] },type:=195,pos:="poly.go:51",after:=#[{ on:=1,ground:=Ground.data }],guard:=none }
theorem zN (v:Value) (xs:LI) (hl:xs.length<=1000000000000) (h8:U8 xs) (r:List Nat) (hr:r.length=5) (lr:LB 67108864 r) (w:World) (hb:Bs .u8 w v xs) :
 Calls prog 157 #[v,.agg (ul r).toArray] w λe w'=>e=.returned (.agg (ul (gth r xs ((xs.length+15) / 16))).toArray)∧N0 w w':=by
 have k6:=(zero_of_info (P:=prog) Tryz.zero34).1;have hzw:=(zero_of_info (P:=prog) Tryz.zero50).1;obtain⟨Z,hZ⟩:=EX z5;rw[<-hZ] at k6;obtain⟨Y,hY⟩:=EX z17;rw[<-hY] at hzw;obtain⟨D,hD⟩:=EX (ul (gth r xs ((xs.length+15) / 16)))
 have hf:Hid ((prog.info? 195).map (·.size)=some D.toArray.size∧Z.toArray.size=D.toArray.size∧D.toArray.all (·.oneCell')=true):=by
  rw[hD,hZ];exact⟨YV _ (Wj _ _ _),by simp[QY,Wj,UT],Ul _⟩
 rw[<-hD];have HD:=Qa (Vz hD (Vz hZ hY));have HX:=Qa (Vz h8 (Vz hr lr));obtain⟨B,hB⟩:=EX (ul r);have HB:Hid (B=ul r∧B.length=5):=⟨hB,by rw[hB,QY,hr]⟩;rw[<-hB]
 have K0:Hid (Blk (((w.alloc (.cells B.toArray 195)).alloc (.cells Z.toArray 195)).alloc (.cells Z.toArray 195)) w.heap.size 195 B∧Blk (((w.alloc (.cells B.toArray 195)).alloc (.cells Z.toArray 195)).alloc (.cells Z.toArray 195)) (w.heap.size+1) 195 Z∧Blk (((w.alloc (.cells B.toArray 195)).alloc (.cells Z.toArray 195)).alloc (.cells Z.toArray 195)) (w.heap.size+1+1) 195 (ul (gth r xs 0))∧N0 w (((w.alloc (.cells B.toArray 195)).alloc (.cells Z.toArray 195)).alloc (.cells Z.toArray 195))):=by
  refine⟨((Blk.new w 195 B).alloc _).alloc _,?_,?_,((VG.alloc _).alloc _).alloc _⟩
  ·have:=(Blk.new (w.alloc (.cells B.toArray 195)) 195 Z).alloc (.cells Z.toArray 195)
   rw[size_alloc] at this;exact this
  ·have:=Blk.new ((w.alloc (.cells B.toArray 195)).alloc (.cells Z.toArray 195)) 195 Z
   rw[size_alloc,size_alloc] at this;rw[HD.o.2.1] at this ⊢;exact this
 have B0:=Qa hb;obtain⟨n,hn⟩:=EX xs.length;have HN:=Qa hn;rw[<-hn] at hl;clear hZ hY hD hB hb hr lr h8 hn;go_enter func157,ntmps157;go_wp2;obtain⟨A,hA⟩:=EX (w.heap.size+1+1);rw[<-hA] at K0 ⊢;obtain⟨R,hR⟩:=EX (w.heap.size+1);rw[<-hR] at K0 ⊢;obtain⟨H,hH⟩:=EX w.heap.size;have HG:Hid (w.heap.size<=A∧w.heap.size<=R∧R≠A∧H≠A):=⟨by omega,by omega,by omega,by omega⟩;rw[<-hH] at K0 ⊢;obtain⟨W0,kf⟩:=EX (((w.alloc (.cells B.toArray 195)).alloc (.cells Z.toArray 195)).alloc (.cells Z.toArray 195));rw[<-kf] at K0 ⊢;clear hA hR hH kf k6
 go_loopw [6] (λo wr=>∃k:Nat,Bs .u8 w o (xs.drop (16*k))∧16*k<=n+15∧Blk wr H 195 B∧Blk wr R 195 Z∧Blk wr A 195 (ul (gth r xs k))∧N0 w wr) (λo _=>pslen o)
 case atStart=>exact⟨0,B0.o,by omega,K0.o⟩
 case round =>
  obtain⟨k,h5,hk,k1,k2,k3,k4⟩:=hrel;clear K0 B0;obtain⟨ao,cap,rfl⟩:=h5.len;have h7:=h5.past k4
  have h0:(xs.drop (16*k)).length=n - 16*k:=by rw[Qm,HN.o]
  have k0:(xs.drop (16*k)).length<=cap:=by
   obtain⟨_,_,e,h,_⟩:=h7
   cases e;exact h
  by_cases hlt:16*k<n
  ·obtain⟨q,hq⟩:=EX (min 16 (xs.drop (16*k)).length)
   obtain⟨W1,ho⟩:=EX (wr.alloc (.cells Y.toArray 244))
   have ke:Blk W1 wr.heap.size 244 (bl (List.replicate 17 0)):=by
    have:=Blk.new wr 244 Y;rw[ho];rw[HD.o.2.2] at this ⊢;exact this
   have hx:N0 wr W1:=by rw[ho];exact VG.alloc _
   obtain⟨w3,h3,hh,kg⟩:=NE 244 17 17 _ (xs.drop (16*k)) W1 wr.heap.size 16 q ke (h7.past hx) hq (by decide)
   have he:q<=16∧0<q∧q<=n - 16*k:=by omega
   have h9:((xs.drop (16*k)).take q++List.replicate (17 - q) 0).length=17:=by
    rw[Qb,Qg,List.length_replicate];omega
   have kc:w3.cell? ⟨wr.heap.size,q,none⟩=some (.int .u8 (((xs.drop (16*k)).take q++List.replicate (17 - q) 0).getD q 0)):=by
    rw[hh.cell,bl_at _ _ (by rw[h9];omega)]
   have hf3:=hh.froz q;obtain⟨z,hz⟩:=EX (((xs.drop (16*k)).take q++List.replicate (17 - q) 0).getD q 0);rw[<-hz] at kc;have h6:N0 wr w3:=hx.trans kg (λi hi e=>by omega);obtain⟨W4,hj⟩:=EX (w3.setCell ⟨wr.heap.size,q,none⟩ (.int .u8 1))
   have k8:Blk W4 wr.heap.size 244 (bl (pby xs k)):=by
    have h:=hh.set q (.int .u8 1);rw[V7,Bf xs k q hq] at h;rw[hj];exact h
   have h4:N0 wr W4:=by
    rw[hj];exact h6.setCell (p:=⟨wr.heap.size,q,none⟩) (λh=>absurd h (Nat.lt_irrefl _)) _
   have hy:=h7.past h4;have K4:Hid (Blk W4 H 195 B∧Blk W4 R 195 Z∧Blk W4 A 195 (ul (gth r xs k))∧N0 w W4):=⟨k1.past h4,k2.past h4,k3.past h4,k4.same h4⟩;have oD:N0 W4 W4.drew:=VG.drew;have NU:=Qa (λW (o:N0 W4 W)=>(Gj _ (pby xs k) (by rw[Gi];decide) (zl xs HX.o.1 k) W (Bs.of_bytes (k8.past o) 17 (Gi _ _))).mono (λ_ w' (h:_∧_)=>Vz h.1 (o.same h.2)));have lg:=GR r xs HX.o.2.2 k;have lp:=XL (C:=134217728) lg (KI (pby xs k)) (by decide);have PL:=Qa (λW (o:N0 W4 W)=>(Hk (gth r xs k) (nmb (pby xs k)) (Wj _ _ _) (UG _) (lg.mono (by decide)) ((KI _).mono (by decide)) W).mono (λ_ w' (h:_∧_)=>Vz h.1 (o.same h.2)));have TI:=Qa (λW (o:N0 W4 W)=>(lA (pls (gth r xs k) (nmb (pby xs k))) r (YE _ _) HX.o.2.1 lp HX.o.2.2 W).mono (λ_ w' (h:_∧_)=>Vz h.1 (o.same h.2)));have eN:ptms (pls (gth r xs k) (nmb (pby xs k))) r=gth r xs (k+1):=rfl;rw[eN,<-HB.o.1] at TI
   have hd:(ul (gth r xs k)).length=5:=by rw[QY,Wj]
   have ha:(ul (gth r xs (k+1))).length=5:=by rw[QY,Wj]
   have hw:∀v∈ul (gth r xs (k+1)),v.oneCell'=true:=Mi _;obtain⟨AA,kj⟩:=EX (ul (gth r xs k));obtain⟨NN,hu⟩:=EX (ul (gth r xs (k+1)));obtain⟨ht,ka⟩:∃ht,ht=ul (pls (gth r xs k) (nmb (pby xs k))):=⟨_,rfl⟩;obtain⟨MM,k9⟩:=EX (ul (nmb (pby xs k)));rw[<-kj] at PL K4 hd;rw[<-hu] at TI ha hw;rw[<-ka] at PL TI;rw[<-k9] at NU PL
   have rA:Hid (∀W,N0 W4 W->W.rangeAt A 0 AA):=λW o=>by
    have:=Blk.range (a:=[]) (b:=AA) (c:=[]) (w:=W) (g:=A) (t:=195) (by simpa using K4.o.2.2.1.past o)
    simpa using this
   have rH:Hid (∀W,N0 W4 W->W.rangeAt H 0 B):=λW o=>by
    have:=Blk.range (a:=[]) (b:=B) (c:=[]) (w:=W) (g:=H) (t:=195) (by simpa using K4.o.1.past o)
    simpa using this
   have iA:Hid ((prog.info? 195).map (·.size)=some AA.length∧(prog.info? 195).map (·.size)=some B.length∧(prog.info? 195).map (·.size)=some NN.toArray.size∧NN.toArray.all (·.oneCell')=true):=by
    refine⟨by rw[hd];exact Tryz.size34,by rw[HB.o.2];exact Tryz.size34,by rw[List.size_toArray,ha];exact Tryz.size34,all_oneCell_toArray hw⟩
   have tA:Hid (∀W,N0 W4 W->W.there A 0 NN.toArray.size):=λW o=>(K4.o.2.2.1.past o).there 0 NN.toArray.size (by rw[List.size_toArray,ha,hd];decide)
   have kd:Hid (∀W,N0 W4 W->Blk (W.setCells A 0 NN) H 195 B∧Blk (W.setCells A 0 NN) R 195 Z∧Blk (W.setCells A 0 NN) A 195 (ul (gth r xs (k+1)))∧N0 w (W.setCells A 0 NN)):=λW o=>by
    have oc:Only (λk=>k=A) W (W.setCells A 0 NN):=Only.setCells (S:=λk=>k=A) (λ_=>rfl) _ 0 W VG;refine⟨(K4.o.1.past o).keep oc HG.o.2.2.2,(K4.o.2.1.past o).keep oc HG.o.2.2.1,?_,(K4.o.2.2.2.same o).trans oc (λi hi e=>by have:=HG.o.1;omega)⟩;rw[<-hu];exact (K4.o.2.2.1.past o).setAll (by rw[hd,ha])
   rw[ho] at h3;obtain⟨m,hm⟩:=EX ((xs.drop (16*k)).length);have HM:=Qa (Vz hm (Vz hq h0));rw[<-hm] at k0 h3 h5 ⊢;have kk:=Qa h5
   have i0:(0:Int)<(m:Int):=by omega
   have i1:(q:Int)<17:=by omega
   have i2:(0:Int)<=(q:Int):=by omega
   have i3:(q:Int)<=(m:Int):=by omega
   have i4:(m:Int)<=(cap:Int):=by omega
   have HQ:=Qa he;clear ho ke hx hh kg h9 hz h6 k8 h4 hy lg lp eN ka k9 kj hu hd ha hw k1 k2 k3 k4 h7 h5 hq h0 hm he K4;go_wp2_with fail;rw[<-hj];clear hj kc hf3 h3
   go_cut [] from 10 to 26 (λW=>∃V,N0 W4 V∧W=V.setCells A 0 NN)
   case first =>
    refine wp_region_any (by kernel_rfl) ?_
    change wpAny _ _ _ _ _ _ _ (World.drew _)
    refine wpAny_take (i:=1) (oi:={ dst:=some 19,op:=Op.slice 244 (Operand.tmp 7) none none none,type:=23,pos:="poly.go:51",after:=#[],guard:=none }) (v:=?tv1) rfl (by kernel_rfl) (by kernel_rfl) (by kernel_rfl) (fun _ _ _ h => h) (Or.inl ⟨by rfl,?th1⟩) ?tr1
    case th1=>(intro w;go_simp;try with_reducible rfl)
    try simp only[Act.put,Qq,Qn,Qo]
    have O:=oD
    repeat' (first
    | ((first
     | (have _:=m4;clear m4;rw[if_pos (by rfl)];refine wp_load_mid 195 (.tmp 5) rfl A 0 rfl AA _ (rA.o _ O) underlying195 rfl iA.o.1 ?_;refine hK _ _ ?_;clear hK K;have hp:=trivial)
     | (have _:=m3;clear m3;rw[if_pos (by rfl)];refine wp_load_mid 195 (.tmp 3) rfl H 0 rfl B _ (rH.o _ O) underlying195 rfl iA.o.2.1 ?_;refine hK _ _ ?_;clear hK K;have hg:=trivial)
     | (have _:=m5;clear m5;rw[if_pos (by rfl)];refine Ku 153 #[.tmp 19] #[23] rfl OV #[.slice (some ⟨wr.heap.size,0,none⟩) 17 17] (.agg MM.toArray) (by kernel_rfl) (NU.o _ O) ?_;intro W O;refine hK _ _ ?_;clear hK K;have hs:=trivial)
     | (have _:=m0;clear m0;rw[if_pos (by rfl)];refine Ku 155 #[.tmp 18,.tmp 20] #[195,195] rfl SY #[.agg AA.toArray,.agg MM.toArray] (.agg ht.toArray) (by kernel_rfl) (PL.o _ O) ?_;intro W O;refine hK _ _ ?_;clear hK K;have ki:=trivial)
     | (have _:=m1;clear m1;rw[if_pos (by rfl)];refine Ku 196 #[.tmp 21,.tmp 22] #[195,195] rfl kX #[.agg ht.toArray,.agg B.toArray] (.agg NN.toArray) (by kernel_rfl) (TI.o _ O) ?_;intro W O;refine hK _ _ ?_;clear hK K;have z_5:=trivial)
     | (have _:=m2;clear m2;rw[if_pos (by rfl)];refine wp_store_mid 195 (.tmp 5) (.tmp 23) rfl A 0 NN.toArray rfl rfl (tA.o _ O) iA.o.2.2.1 iA.o.2.2.2 ?_;refine hK _ _ ?_;clear hK K;simp only[Act.put];refine wpAny_done (by kernel_rfl) ?_ _;go_wp2;go_meet;case rel=>exact⟨_,O,rfl⟩));try simp only[Act.put,Qq,Qn,Qo])
    | (have _:=z_5;refine wpAny_ready (rs:=[6]) (by kernel_rfl) (by simp) (AllReady.cons (o:=o2ga) rfl (λK hK=>(λ(m2:True)=>?_) trivial) AllReady.nil))
    | (have _:=ki;have _:=hg;refine wpAny_ready (rs:=[5]) (by kernel_rfl) (by simp) (AllReady.cons (o:=o1ga) rfl (λK hK=>(λ(m1:True)=>?_) trivial) AllReady.nil))
    | (have _:=ki;refine wpAny_ready (rs:=[4]) (by kernel_rfl) (by simp) (AllReady.cons (o:=o3ga) rfl (λK hK=>(λ(m3:True)=>?_) trivial) AllReady.nil))
    | (have _:=hp;have _:=hs;have _:=hg;refine wpAny_ready (rs:=[3]) (by kernel_rfl) (by simp) (AllReady.cons (o:=o0ga) rfl (λK hK=>(λ(m0:True)=>?_) trivial) AllReady.nil))
    | (have _:=hp;have _:=hs;refine wpAny_ready (rs:=[3,4]) (by kernel_rfl) (by simp) (AllReady.cons (o:=o0ga) rfl (λK hK=>(λ(m0:True)=>?_) trivial) (AllReady.cons (o:=o3ga) rfl (λK hK=>(λ(m3:True)=>?_) trivial) AllReady.nil)))
    | (have _:=hp;have _:=hg;refine wpAny_ready (rs:=[2]) (by kernel_rfl) (by simp) (AllReady.cons (o:=o5ga) rfl (λK hK=>(λ(m5:True)=>?_) trivial) AllReady.nil))
    | (have _:=hp;refine wpAny_ready (rs:=[2,4]) (by kernel_rfl) (by simp) (AllReady.cons (o:=o5ga) rfl (λK hK=>(λ(m5:True)=>?_) trivial) (AllReady.cons (o:=o3ga) rfl (λK hK=>(λ(m3:True)=>?_) trivial) AllReady.nil)))
    | (have _:=hs;have _:=hg;refine wpAny_ready (rs:=[0]) (by kernel_rfl) (by simp) (AllReady.cons (o:=o4ga) rfl (λK hK=>(λ(m4:True)=>?_) trivial) AllReady.nil))
    | (have _:=hs;refine wpAny_ready (rs:=[0,4]) (by kernel_rfl) (by simp) (AllReady.cons (o:=o4ga) rfl (λK hK=>(λ(m4:True)=>?_) trivial) (AllReady.cons (o:=o3ga) rfl (λK hK=>(λ(m3:True)=>?_) trivial) AllReady.nil)))
    | (have _:=hg;refine wpAny_ready (rs:=[0,2]) (by kernel_rfl) (by simp) (AllReady.cons (o:=o4ga) rfl (λK hK=>(λ(m4:True)=>?_) trivial) (AllReady.cons (o:=o5ga) rfl (λK hK=>(λ(m5:True)=>?_) trivial) AllReady.nil)))
    | (refine wpAny_ready (rs:=[0,2,4]) (by kernel_rfl) (by simp) (AllReady.cons (o:=o4ga) rfl (λK hK=>(λ(m4:True)=>?_) trivial) (AllReady.cons (o:=o5ga) rfl (λK hK=>(λ(m5:True)=>?_) trivial) (AllReady.cons (o:=o3ga) rfl (λK hK=>(λ(m3:True)=>?_) trivial) AllReady.nil)))))
   case rest =>
    obtain⟨V,oV,rfl⟩:=hcut;have hv:=Qa (kd.o V oV);clear rA rH iA tA kd TI PL NU;obtain⟨W9,kh⟩:=EX (V.setCells A 0 NN);rw[<-kh] at hv ⊢;clear kh oV
    by_cases hcq:cap=q
    ·subst hcq
     have hmq:m=cap:=by omega
     subst hmq;have C:=Qa (kk.o.cut0 (n:=m) Zu);rw[List.drop_drop,Nat.sub_self] at C
     have E8:Hid (xs.drop (16*k+m)=xs.drop (16*(k+1))∧16*(k+1)<=n+15∧0<m):=by
      have h1:=HM.o;have h2:=HQ.o;refine⟨?_,by omega,by omega⟩;rw[List.drop_of_length_le (by have:=HN.o;omega),List.drop_of_length_le (by have:=HN.o;omega)]
     rw[E8.o.1] at C;go_wp2
     go_roundw
     case rel=>exact⟨k+1,C.o,E8.o.2.1,hv.o⟩
     case measure =>
      have:=E8.o.2.2;simp only[pslen];omega
    ·have C:=Qa (kk.o.cut (n:=q) (by omega))
     rw[List.drop_drop] at C
     have E8:Hid (xs.drop (16*k+q)=xs.drop (16*(k+1))∧16*(k+1)<=n+15∧0<m∧0<q):=by
      have h1:=HM.o;have h2:=HQ.o;refine⟨?_,by omega,by omega,by omega⟩
      by_cases h16:q=16
      ·rw[h16,show 16*k+16=16*(k+1) by omega]
      ·rw[List.drop_of_length_le (by have:=HN.o;omega),List.drop_of_length_le (by have:=HN.o;omega)]
     rw[E8.o.1] at C
     have i5:¬(cap:Int)=(q:Int):=by omega
     go_wp2
     go_roundw
     case rel=>exact⟨k+1,C.o,E8.o.2.1,hv.o⟩
     case measure =>
      have:=E8.o.2.2;simp only[pslen];omega
  ·have k7:(xs.drop (16*k)).length=0:=by omega
   rw[k7]
   have k5:k=(n+15) / 16:=by omega
   have S2:Hid (Blk wr A 195 D):=by
    have h:=k3;rw[k5,HN.o,<-HD.o.1] at h;exact h
   have R2:=Qa k2;have O2:=Qa k4;clear k1 k2 k3 k4 k5 h0 k0 h7 h5 k7;go_wp2_with (first|(refine wpList_load_row rfl 195 (.tmp 5) rfl A rfl 195 D.toArray (0,0) _ S2.o underlying195 rfl hf.o.1 ?_)|(refine wpList_store_row rfl 195 (.tmp 4) (.tmp 27) rfl R D.toArray rfl rfl 195 Z.toArray R2.o hf.o.1 hf.o.2.1 hf.o.2.2 ?_));refine bodyPost_ret (v:=.agg D.toArray) (results_cell_row rfl _ _ R 195 D.toArray (0,0) _ rfl (R2.o.row D) underlying195 rfl hf.o.1) rfl ⟨rfl,?_⟩;exact O2.o.setRow (λh=>absurd h (by have:=HG.o.2.1;omega)) _
theorem Cw {o:Oper} {a:Act} {W:World} {K:Act->World->Prop} {Q:Exit->Act->World->Prop} (ho:o.op=.alloc 195)
 (h:K (a.put o.dst (.pointer (some ⟨W.heap.size,0,none⟩))) (W.alloc (.cells z5.toArray 195))):Oper.wp prog o a W K Q:=by
 unfold Oper.wp execOp;have hzv:=(zero_of_info (P:=prog) Tryz.zero34).1;simp[ho,Instr.alloc,hzv,go_sem];exact h
theorem CY (vs:Array Value) (W:World):(callFunc 157 vs).run prog W=.ok (.enter 157 vs) W:=by kernel_rfl
theorem Ev (vs:Array Value) (W:World):(callFunc 156 vs).run prog W=.ok (.enter 156 vs) W:=by kernel_rfl
theorem ri (vs:Array Value) (W:World):(callFunc 154 vs).run prog W=.ok (.enter 154 vs) W:=by kernel_rfl
theorem rQ {W5 W:World} (_o:N0 W5 W):Blk (W.alloc (.cells z5.toArray 195)) W.heap.size 195 z5:=Blk.new W 195 z5
abbrev o0mc : Oper:={ dst:=some 8,op:=Op.alloc 195,type:=0,pos:="poly.go:27",after:=#[],guard:=none }
abbrev o1mc : Oper:={ dst:=some 26,op:=Op.call { callee:=Callee.value (Operand.func 154),args:=#[Operand.tmp 25],argTypes:=#[195] },type:=197,pos:="poly.go:27",after:=#[{ on:=5,ground:=Ground.data },{ on:=5,ground:=Ground.chain }],guard:=none }
abbrev o2mc : Oper:={ dst:=some 19,op:=Op.move (Operand.tmp 26),type:=197,pos:="poly.go:27",after:=#[{ on:=6,ground:=Ground.data }],guard:=none }
abbrev o3mc : Oper:={ dst:=some 27,op:=Op.extract (Operand.tmp 19) 0,type:=195,pos:="poly.go:27",after:=#[{ on:=7,ground:=Ground.data }],guard:=none }
abbrev o4mc : Oper:={ dst:=some 28,op:=Op.extract (Operand.tmp 19) 1,type:=29,pos:="poly.go:27",after:=#[{ on:=7,ground:=Ground.data },{ on:=11,ground:=Ground.gcOnly Departure.lateStores }],guard:=none }
abbrev o5mc : Oper:={ dst:=none,op:=Op.store 195 (Operand.tmp 8) (Operand.tmp 27),type:=0,pos:="poly.go:27",after:=#[{ on:=10,ground:=Ground.data },{ on:=8,ground:=Ground.data },{ on:=6,ground:=Ground.chain },{ on:=0,ground:=Ground.phase },{ on:=1,ground:=Ground.phase },{ on:=2,ground:=Ground.phase },{ on:=3,ground:=Ground.phase },{ on:=4,ground:=Ground.phase },{ on:=5,ground:=Ground.phase },{ on:=6,ground:=Ground.phase },{ on:=7,ground:=Ground.phase },{ on:=8,ground:=Ground.phase },{ on:=9,ground:=Ground.textOnly Departure.lateStores },{ on:=10,ground:=Ground.phase }],guard:=none }
abbrev o6mc : Oper:={ dst:=some 9,op:=Op.assign (Operand.tmp 28),type:=29,pos:="poly.go:27",after:=#[{ on:=9,ground:=Ground.data },{ on:=11,ground:=Ground.chain },{ on:=0,ground:=Ground.phase },{ on:=1,ground:=Ground.phase },{ on:=2,ground:=Ground.phase },{ on:=3,ground:=Ground.phase },{ on:=4,ground:=Ground.phase },{ on:=5,ground:=Ground.phase },{ on:=6,ground:=Ground.phase },{ on:=7,ground:=Ground.phase },{ on:=8,ground:=Ground.phase },{ on:=9,ground:=Ground.phase },{ on:=10,ground:=Ground.phase },{ on:=11,ground:=Ground.phase }],guard:=none }
abbrev o7mc : Oper:={ dst:=some 25,op:=Op.call { callee:=Callee.value (Operand.func 155),args:=#[Operand.tmp 23,Operand.tmp 24],argTypes:=#[195,195] },type:=195,pos:="poly.go:27",after:=#[{ on:=3,ground:=Ground.data },{ on:=4,ground:=Ground.data },{ on:=3,ground:=Ground.chain }],guard:=none }
abbrev o8mc : Oper:={ dst:=some 23,op:=Op.call { callee:=Callee.value (Operand.func 156),args:=#[Operand.tmp 22],argTypes:=#[195] },type:=195,pos:="poly.go:27",after:=#[{ on:=2,ground:=Ground.data },{ on:=2,ground:=Ground.chain }],guard:=none }
abbrev o9mc : Oper:={ dst:=some 22,op:=Op.call { callee:=Callee.value (Operand.func 157),args:=#[Operand.tmp 20,Operand.tmp 21],argTypes:=#[23,195] },type:=195,pos:="poly.go:27",after:=#[{ on:=0,ground:=Ground.data },{ on:=1,ground:=Ground.data }],guard:=none }
theorem Aa (vk vb:Value) (key xs:LI) (hk:key.length=32) (k8:U8 key) (x8:U8 xs) (hl:xs.length<=1000000000000) (w:World) (bk:Bs .u8 w vk key) (bb:Bs .u8 w vb xs) :
 Calls prog 110 #[vk,vb] w λe w'=>∃v,e=.returned (.tuple #[v,.int .i64 0])∧w'.ownsRow w.heap.size 5 1 v 16 (bl (Kt key xs))∧N0 w w':=by
 have hzv:=(zero_of_info (P:=prog) Tryz.zero34).1;obtain⟨Z,hZ⟩:=EX z5;rw[<-hZ] at hzv;have HZ:=Qa hZ;obtain⟨ao,kc,rfl⟩:=bk.len;rw[hk] at bk ⊢
 have hkc:32<=kc:=by
  obtain⟨_,_,e,h,_⟩:=bk;simp at e;omega
 have h4:(key.take 16).length=16:=by rw[Qg,hk];rfl
 have h8:(key.drop 16).length=16:=by rw[Qm,hk]
 have MU:=Qa (kG _ (key.take 16) h4 (k8.take 16) w (bk.head (n:=16) (by decide)));have NU:=Qa (λW (o:N0 w W)=>Gj _ (key.drop 16) (by rw[h8];decide) (k8.drop 16) W ((bk.cut (n:=16) (by decide)).past o));obtain⟨r,hr⟩:=EX (nmb (c2 (key.take 16) 3));obtain⟨s,hs⟩:=EX (nmb (key.drop 16))
 have h2:r.length=5∧LB 67108864 r:=by rw[hr];exact⟨UG _,KI _⟩
 have h1:s.length=5∧LB 67108864 s:=by rw[hs];exact⟨UG _,KI _⟩
 have h9:=z7 key xs hk k8 x8;rw[<-hr] at MU h9;rw[<-hs] at NU h9;have GA:=Qa (λW (o:N0 w W)=>zN vb xs hl x8 r h2.1 h2.2 W (bb.past o));obtain⟨g,hg⟩:=EX (gth r xs ((xs.length+15) / 16))
 have ha:g.length=5∧LB 67108864 g:=by rw[hg];exact⟨Wj _ _ _,GR _ _ h2.2 _⟩
 rw[<-hg] at GA h9;have LE:=Qa (λ(W:World)=>zr g ha.1 ha.2 W);have lp:=XL (C:=9223372036854775808) (T6 g) h1.2 (by decide);have PL:=Qa (λ(W:World)=>Hk (lst g) s (V1 g ha.1) h1.1 ((T6 g).mono (by decide)) (h1.2.mono (by decide)) W);have SE:=Qa (λ(W:World)=>VL (pls (lst g) s) (YE _ _) lp W);have TA:=Qa (λ(W:World)=>O8 (sdg (pls (lst g) s) 0) (by rw[YT,YE]) (Wz _ _) W);rw[h9] at TA
 have HD:Hid ((prog.info? 195).map (·.size)=some (ul r).toArray.size∧Z.toArray.size=(ul r).toArray.size∧(ul r).toArray.all (·.oneCell')=true∧(prog.info? 195).map (·.size)=some (ul s).toArray.size∧Z.toArray.size=(ul s).toArray.size∧(ul s).toArray.all (·.oneCell')=true):=by
  rw[hZ];exact⟨YV _ h2.1,by simp[QY,h2.1,UT],Ul _,YV _ h1.1,by simp[QY,h1.1,UT],Ul _⟩
 obtain⟨RR,hd⟩:=EX (ul r);obtain⟨SS,he⟩:=EX (ul s);rw[<-hd,<-he] at HD;rw[<-hd] at MU GA;rw[<-he] at NU PL
 have i1:¬(kc:Int)=16:=by omega
 have i2:(32:Int)<=(kc:Int):=by omega
 have i3:(16:Int)<=(kc:Int):=by omega
 have i4:¬kc=16:=by omega
 obtain⟨TT,h0⟩:=EX (ul (sdg (pls (lst g) s) 0))
 have TL:Hid ((sdg (pls (lst g) s) 0).length=5):=by
  show _=_
  rw[YT,YE]
 obtain⟨GG,ht⟩:=EX (ul g);obtain⟨LG,hm⟩:=EX (ul (lst g));obtain⟨PG,hv⟩:=EX (ul (pls (lst g) s));obtain⟨tc,hh⟩:=EX (scy (pls (lst g) s) 0);rw[<-ht] at GA LE;rw[<-hm] at LE PL;rw[<-hv] at PL SE;rw[<-h0,<-hh] at SE;rw[<-h0] at TA;clear ht hm hv hh
 have HL:Hid (RR.length=5∧SS.length=5):=by rw[hd,he,QY,QY];exact⟨h2.1,h1.1⟩
 clear h4 h8 hr hs h9 hg ha lp hd he h2 h1 hZ;go_enter func110,ntmps110;go_wp2_with fail;refine MU.o.mono ?_;rintro e w1 ⟨rfl,o1⟩;have h6:Hid (N0 w ((w1.alloc (.cells Z.toArray 195)).setRow w1.heap.size RR.toArray)):=o1.same ((VG.alloc _).setRow (λh=>absurd h (Nat.lt_irrefl _)) _);have B2:Hid (Blk ((w1.alloc (.cells Z.toArray 195)).setRow w1.heap.size RR.toArray) w1.heap.size 195 RR):=(Blk.new w1 195 Z).row RR;go_wp2_with (first|(refine wpList_store_row rfl 195 (.tmp 6) (.tmp 15) rfl w1.heap.size RR.toArray rfl rfl 195 Z.toArray (Blk.new w1 195 Z) HD.o.1 HD.o.2.1 HD.o.2.2.1 ?_));obtain⟨RB,hu⟩:=EX w1.heap.size;rw[<-hu] at h6 B2 ⊢;obtain⟨W2,hj⟩:=EX ((w1.alloc (.cells Z.toArray 195)).setRow RB RR.toArray);rw[<-hj] at h6 B2 ⊢;clear hj hu MU o1;refine (NU.o W2 h6.o).mono ?_;rintro e w3 ⟨rfl,o3⟩;have o4:N0 W2 ((w3.alloc (.cells Z.toArray 195)).setRow w3.heap.size SS.toArray):=o3.same ((VG.alloc _).setRow (λh=>absurd h (Nat.lt_irrefl _)) _);have K5:Hid (Blk ((w3.alloc (.cells Z.toArray 195)).setRow w3.heap.size SS.toArray) RB 195 RR∧Blk ((w3.alloc (.cells Z.toArray 195)).setRow w3.heap.size SS.toArray) w3.heap.size 195 SS∧N0 w ((w3.alloc (.cells Z.toArray 195)).setRow w3.heap.size SS.toArray)):=⟨B2.o.past o4,(Blk.new w3 195 Z).row SS,h6.o.same o4⟩;go_wp2_with (first|(refine wpList_store_row rfl 195 (.tmp 7) (.tmp 18) rfl w3.heap.size SS.toArray rfl rfl 195 Z.toArray (Blk.new w3 195 Z) HD.o.2.2.2.1 HD.o.2.2.2.2.1 HD.o.2.2.2.2.2 ?_));obtain⟨SB,hp⟩:=EX w3.heap.size;rw[<-hp] at K5 ⊢;obtain⟨W5,hn⟩:=EX ((w3.alloc (.cells Z.toArray 195)).setRow SB SS.toArray);rw[<-hn] at K5 ⊢;clear hn hp NU o3 o4 B2 h6
 -- BYHAND
 have h5:Hid (0+TT.toArray.size<=z5.length∧(prog.info? 195).map (·.size)=some TT.toArray.size∧TT.toArray.all (·.oneCell')=true∧TT.length=5):=by
  rw[h0];refine⟨?_,YV _ TL.o,Ul _,by rw[QY];exact TL.o⟩;rw[List.size_toArray,QY,TL.o];decide
 have FIN:Hid (∀W N,N0 W5 W->Blk W N 195 z5->W5.heap.size<=N->Blk (W.setCells N 0 TT.toArray.toList) N 195 TT∧N0 W5 (W.setCells N 0 TT.toArray.toList)):=λW N o b hN=>by
  refine⟨?_,Only.setCells (S:=λ_=>False) (λh=>absurd h (by omega)) _ 0 W o⟩;exact b.setAll (by rw[h5.o.2.2.2];rfl)
 have rR:Hid (∀W,N0 W5 W->W.rangeAt RB 0 RR):=λW o=>by
  have:=Blk.range (a:=[]) (b:=RR) (c:=[]) (w:=W) (g:=RB) (t:=195) (by simpa using K5.o.1.past o)
  simpa using this
 have rS:Hid (∀W,N0 W5 W->W.rangeAt SB 0 SS):=λW o=>by
  have:=Blk.range (a:=[]) (b:=SS) (c:=[]) (w:=W) (g:=SB) (t:=195) (by simpa using K5.o.2.1.past o)
  simpa using this
 have iR:Hid ((prog.info? 195).map (·.size)=some RR.length∧(prog.info? 195).map (·.size)=some SS.length):=by rw[HL.o.1,HL.o.2];exact⟨Tryz.size34,Tryz.size34⟩
 have O5:=Qa K5.o.2.2
 have GS:Hid (∀W,N0 W5 W->Calls prog 157 #[vb,.agg RR.toArray] W λe w'=>e=.returned (.agg GG.toArray)∧(N0 W5 w'∧N0 W w')):=λW o=>(GA.o W (O5.o.same o)).mono λ_ w' (h:_∧_)=>⟨h.1,o.same h.2,h.2⟩
 have LS:Hid (∀W,N0 W5 W->Calls prog 156 #[.agg GG.toArray] W λe w'=>e=.returned (.agg LG.toArray)∧(N0 W5 w'∧N0 W w')):=λW o=>(LE.o W).mono λ_ w' (h:_∧_)=>⟨h.1,o.same h.2,h.2⟩
 have PS:Hid (∀W,N0 W5 W->Calls prog 155 #[.agg LG.toArray,.agg SS.toArray] W λe w'=>e=.returned (.agg PG.toArray)∧(N0 W5 w'∧N0 W w')):=λW o=>(PL.o W).mono λ_ w' (h:_∧_)=>⟨h.1,o.same h.2,h.2⟩
 have SS2:Hid (∀W,N0 W5 W->Calls prog 154 #[.agg PG.toArray] W λe w'=>e=.returned (.tuple #[.agg TT.toArray,.int .u64 (tc:Nat)])∧(N0 W5 w'∧N0 W w')):=λW o=>(SE.o W).mono λ_ w' (h:_∧_)=>⟨h.1,o.same h.2,h.2⟩
 clear GA LE PL SE h0;simp only[Act.put]
 go_cut [8] from 10 (λp W=>∃N,p=.pointer (some ⟨N,0,none⟩)∧Blk W N 195 TT∧N0 W5 W)
 case first =>
  refine wp_region_held_drew (S:=λW=>N0 W5 W) (by kernel_rfl) VG.drew (λhH0=>?_)
  try simp only[Act.put,Qq,Qn,Qo]
  refine wpAnyH_take (i:=0) (oi:={ dst:=some 20,op:=Op.move (Operand.tmp 1),type:=23,pos:="poly.go:27",after:=#[],guard:=none }) (v:=?tv1) rfl (by kernel_rfl) (by kernel_rfl) (by kernel_rfl) (fun _ _ _ h => h) (Or.inl ⟨by rfl,?th1⟩) hH0 ?tr1
  case th1=>(intro w hSw;go_simp;try with_reducible rfl)
  try simp only[Act.put,Qq,Qn,Qo]
  refine wpAnyH_take (i:=1) (oi:={ dst:=some 21,op:=Op.load 195 (Operand.tmp 6),type:=195,pos:="poly.go:27",after:=#[],guard:=none }) (v:=.agg RR.toArray) rfl (by kernel_rfl) (by kernel_rfl) (by kernel_rfl) (fun _ _ _ h => h) (yieldsIf_load_mid (by rfl) 195 (.tmp 6) rfl RB 0 rfl RR _ (fun W h => rR.out W h) underlying195 rfl iR.out.1) hH0 ?_
  try simp only[Act.put,Qq,Qn,Qo]
  refine wpAnyH_take (i:=4) (oi:={ dst:=some 24,op:=Op.load 195 (Operand.tmp 7),type:=195,pos:="poly.go:27",after:=#[],guard:=none }) (v:=.agg SS.toArray) rfl (by kernel_rfl) (by kernel_rfl) (by kernel_rfl) (fun _ _ _ h => h) (yieldsIf_load_mid (by rfl) 195 (.tmp 7) rfl SB 0 rfl SS _ (fun W h => rS.out W h) underlying195 rfl iR.out.2) hH0 ?_
  try simp only[Act.put,Qq,Qn,Qo]
  have O:=hH0
  repeat' (first
   | ((first
    | (have _:=m9;clear m9;rw[if_pos (by rfl)];refine Ku 157 #[.tmp 20,.tmp 21] #[23,195] rfl CY #[vb,.agg RR.toArray] (.agg GG.toArray) (by kernel_rfl) (GS.o _ O) ?_;rintro W ⟨O,P⟩;refine hK.out _ _ O (λ_=>?_);clear hK K;(try have BA:=BA.past P);have hf:=trivial)
    | (have _:=m8;clear m8;rw[if_pos (by rfl)];refine Ku 156 #[.tmp 22] #[195] rfl Ev #[.agg GG.toArray] (.agg LG.toArray) (by kernel_rfl) (LS.o _ O) ?_;rintro W ⟨O,P⟩;refine hK.out _ _ O (λ_=>?_);clear hK K;(try have BA:=BA.past P);have hq:=trivial)
    | (have _:=m7;clear m7;rw[if_pos (by rfl)];refine Ku 155 #[.tmp 23,.tmp 24] #[195,195] rfl SY #[.agg LG.toArray,.agg SS.toArray] (.agg PG.toArray) (by kernel_rfl) (PS.o _ O) ?_;rintro W ⟨O,P⟩;refine hK.out _ _ O (λ_=>?_);clear hK K;(try have BA:=BA.past P);have hw:=trivial)
    | (have _:=m1;clear m1;rw[if_pos (by rfl)];refine Ku 154 #[.tmp 25] #[195] rfl ri #[.agg PG.toArray] (.tuple #[.agg TT.toArray,.int .u64 (tc:Nat)]) (by kernel_rfl) (SS2.o _ O) ?_;rintro W ⟨O,P⟩;refine hK.out _ _ O (λ_=>?_);clear hK K;(try have BA:=BA.past P);have hx:=trivial;try simp only[Act.put,Qq,Qn,Qo];refine wpAnyH_take (i:=7) (oi:=o2mc) (v:=?_) rfl (by kernel_rfl) (by kernel_rfl) (by kernel_rfl) (λ_ _ _ h=>h) (Or.inl ⟨by rfl,?_⟩) O ?_;rotate_left;(focus (intro w hSw;go_simp;try with_reducible rfl));try simp only[Act.put,Qq,Qn,Qo];refine wpAnyH_take (i:=8) (oi:=o3mc) (v:=?_) rfl (by kernel_rfl) (by kernel_rfl) (by kernel_rfl) (λ_ _ _ h=>h) (Or.inl ⟨by rfl,?_⟩) O ?_;rotate_left;(focus (intro w hSw;go_simp;try with_reducible rfl));try simp only[Act.put,Qq,Qn,Qo];refine wpAnyH_take (i:=9) (oi:=o4mc) (v:=?_) rfl (by kernel_rfl) (by kernel_rfl) (by kernel_rfl) (λ_ _ _ h=>h) (Or.inl ⟨by rfl,?_⟩) O ?_;rotate_left;(focus (intro w hSw;go_simp;try with_reducible rfl));try simp only[Act.put,Qq,Qn,Qo])
    | (have _:=m0;clear m0;rw[if_pos (by rfl)];refine Cw rfl ?_;have BA:=rQ O;have BN:=O.size;have O:=O.alloc (.cells z5.toArray 195);refine hK.out _ _ O (λ_=>?_);clear hK K;have h7:=trivial)
    | (have _:=m5;clear m5;rw[if_pos (by rfl)];refine wp_store_mid 195 (.tmp 8) (.tmp 27) rfl _ 0 TT.toArray rfl rfl (BA.there 0 _ h5.o.1) h5.o.2.1 h5.o.2.2.1 ?_;have FN:=FIN.o _ _ O BA BN;refine hK.out _ _ FN.2 (λhH=>?_);clear hK K;simp only[Act.put];refine wpAnyH_take (i:=12) (oi:=o6mc) (v:=?_) rfl (by kernel_rfl) (by kernel_rfl) (by kernel_rfl) (λ_ _ _ h=>h) (Or.inl ⟨by rfl,?_⟩) hH ?_;rotate_left;(focus (intro w hSw;go_simp;try with_reducible rfl));try simp only[Act.put,Qq,Qn,Qo];refine wpAnyH_done (by kernel_rfl) ?_ _;go_wp2;go_meet;case rel=>exact⟨_,rfl,FN.1,FN.2⟩));try simp only[Act.put,Qq,Qn,Qo])
   | (have _:=hx;have _:=h7;refine wpAnyH_ready (rs:=[11]) (by kernel_rfl) (by simp) (AllReadyH.cons (o:=o5mc) rfl (λK hK=>(λ(m5:True)=>?_) trivial) AllReadyH.nil))
   | (have _:=hx;refine wpAnyH_ready (rs:=[10]) (by kernel_rfl) (by simp) (AllReadyH.cons (o:=o0mc) rfl (λK hK=>(λ(m0:True)=>?_) trivial) AllReadyH.nil))
   | (have _:=hw;have _:=h7;refine wpAnyH_ready (rs:=[6]) (by kernel_rfl) (by simp) (AllReadyH.cons (o:=o1mc) rfl (λK hK=>(λ(m1:True)=>?_) trivial) AllReadyH.nil))
   | (have _:=hw;refine wpAnyH_ready (rs:=[6,10]) (by kernel_rfl) (by simp) (AllReadyH.cons (o:=o1mc) rfl (λK hK=>(λ(m1:True)=>?_) trivial) (AllReadyH.cons (o:=o0mc) rfl (λK hK=>(λ(m0:True)=>?_) trivial) AllReadyH.nil)))
   | (have _:=hq;have _:=h7;refine wpAnyH_ready (rs:=[5]) (by kernel_rfl) (by simp) (AllReadyH.cons (o:=o7mc) rfl (λK hK=>(λ(m7:True)=>?_) trivial) AllReadyH.nil))
   | (have _:=hq;refine wpAnyH_ready (rs:=[5,10]) (by kernel_rfl) (by simp) (AllReadyH.cons (o:=o7mc) rfl (λK hK=>(λ(m7:True)=>?_) trivial) (AllReadyH.cons (o:=o0mc) rfl (λK hK=>(λ(m0:True)=>?_) trivial) AllReadyH.nil)))
   | (have _:=hf;have _:=h7;refine wpAnyH_ready (rs:=[3]) (by kernel_rfl) (by simp) (AllReadyH.cons (o:=o8mc) rfl (λK hK=>(λ(m8:True)=>?_) trivial) AllReadyH.nil))
   | (have _:=hf;refine wpAnyH_ready (rs:=[3,10]) (by kernel_rfl) (by simp) (AllReadyH.cons (o:=o8mc) rfl (λK hK=>(λ(m8:True)=>?_) trivial) (AllReadyH.cons (o:=o0mc) rfl (λK hK=>(λ(m0:True)=>?_) trivial) AllReadyH.nil)))
   | (have _:=h7;refine wpAnyH_ready (rs:=[2]) (by kernel_rfl) (by simp) (AllReadyH.cons (o:=o9mc) rfl (λK hK=>(λ(m9:True)=>?_) trivial) AllReadyH.nil))
   | (refine wpAnyH_ready (rs:=[2,10]) (by kernel_rfl) (by simp) (AllReadyH.cons (o:=o9mc) rfl (λK hK=>(λ(m9:True)=>?_) trivial) (AllReadyH.cons (o:=o0mc) rfl (λK hK=>(λ(m0:True)=>?_) trivial) AllReadyH.nil))))
 case rest =>
  obtain⟨N,rfl,hb,ho⟩:=hcut;have B9:=Qa hb;have O9:=Qa (O5.o.same ho);clear hb ho;go_wp2_with (first|(refine wpList_load_row rfl 195 (.tmp 8) rfl N rfl 195 TT.toArray (0,0) _ B9.o underlying195 rfl h5.o.2.1 ?_));refine (TA.o wc).mono ?_;rintro e w9 ⟨v,rfl,h3,o9⟩;have F1:Hid (w9.ownsRow w.heap.size 5 1 v 16 (bl (Kt key xs))∧N0 w w9):=⟨Qr h3 O9.o.size,O9.o.same o9⟩;clear h3 o9 TA;go_wp2;go_ret2;exact⟨_,rfl,F1.o⟩
def ME (key:LI):Int:=if key.length=32 then 0 else 1
theorem J5 (vk vn:Value) (key nonce:LI) (h:KN key nonce) (k8:U8 key) (n8:U8 nonce) (w:World) (bk:Bs .u8 w vk key) (bn:Bs .u8 w vn nonce) :
 Calls prog 108 #[vk,vn] w λe w'=>∃v,e=.returned (.tuple #[v,.int .i64 0])∧Bs .u8 w' v (WQ key nonce)∧NoCap v∧N0 w w':=by
 have A:=Qa (De vk vn key nonce 0 (by decide) k8 n8 w bk bn);rw[show Zg key nonce=0 from if_pos h,show ZW key 0 nonce=Yk key 0 nonce from if_pos h,show ((0:Nat):Int)=0 from rfl] at A;clear bk bn k8 n8 h;go_enter func108,ntmps108;go_wp2_with fail;refine A.o.mono ?_;rintro e w1 ⟨v,rfl,b1,h0,o1⟩;obtain⟨ao,cap,rfl,hc⟩:=b1.formN (Ky _ _ _)
 have hc1:(32:Int)<=(cap:Int):=by omega
 have F1:Hid (Bs .u8 w1 (.slice ao 32 cap) (WQ key nonce)∧NoCap (.slice ao 32 cap)∧N0 w w1):=⟨b1.head (by decide),h0.cut 32,o1⟩;clear b1 h0 o1 A;go_wp2;go_ret2;exact⟨_,rfl,F1.o⟩
theorem I2 (vk vn:Value) (key nonce:LI) (h:¬KN key nonce) (k8:U8 key) (n8:U8 nonce) (w:World) (bk:Bs .u8 w vk key) (bn:Bs .u8 w vn nonce) :
 Calls prog 108 #[vk,vn] w λe w'=>e=.returned (.tuple #[.slice none 0 0,.int .i64 1])∧N0 w w':=by
 have A:=Qa (De vk vn key nonce 0 (by decide) k8 n8 w bk bn);rw[show Zg key nonce=1 from if_neg h,show ((0:Nat):Int)=0 from rfl] at A;clear bk bn k8 n8 h;go_enter func108,ntmps108;go_wp2_with fail;refine A.o.mono ?_;rintro e w1 ⟨v,rfl,b1,nc1,o1⟩;have F1:=Qa o1;clear b1 nc1 o1 A;go_wp2;go_ret2;exact⟨rfl,F1.o⟩
theorem Z3 (n:Nat) (h:n<=100000000000):fitsC 1 n:=by unfold fitsC;omega
theorem R9 {key nonce:LI} (h:KN key nonce) {n:Nat} (hf:fitsC 1 n):WZ key 1 nonce n=0:=by unfold WZ;rw[if_pos h,if_pos hf]
theorem SR1L {key nonce xs:LI} (h:KN key nonce) (hf:fitsC 1 xs.length):Wh key 1 nonce xs=Q8 key 1 nonce xs:=by unfold Wh;rw[if_pos h,if_pos hf]
theorem xt (vk vn va vp:Value) (key nonce ad p:LI) (h:KN key nonce) (k8:U8 key) (n8:U8 nonce) (a8:U8 ad) (p8:U8 p) (la:ad.length<=100000000000) (lp:p.length<=100000000000) (w:World) (bk:Bs .u8 w vk key) (bn:Bs .u8 w vn nonce) (ba:Bs .u8 w va ad) (na:NoCap va) (bp:Bs .u8 w vp p) :
 Calls prog 70 #[vk,vn,va,vp] w λe w'=>∃v,e=.returned (.tuple #[v,.int .i64 0])∧w'.ownsRow w.heap.size 5 1 v (p.length+16) (bl (YG key nonce ad p))∧N0 w w':=by
 obtain⟨i0,hi,hz0,hz1,hz2⟩:=info_parts Tryz.infoU8;have T:=Qa (J5 vk vn key nonce h k8 n8 w bk bn);have S:=Qa (λW (o:N0 w W)=>Rr vk vn vp key nonce p 1 (by decide) k8 n8 p8 (by omega) W (bk.past o) (bn.past o) (bp.past o));simp only[R9 h (Z3 _ lp),SR1L h (Z3 _ lp),YP,show ((1:Nat):Int)=1 from rfl] at S;have HA:=Qa (Vz ba (Vz na (Vz a8 la)));obtain⟨ao,ac,rfl⟩:=ba.len;obtain⟨C,hC⟩:=EX (Q8 key 1 nonce p);simp only[<-hC] at S
 have C8:Hid (U8 C∧C.length=p.length∧YG key nonce ad p=C++UV key nonce ad C):=by
  refine⟨?_,?_,?_⟩
  ·rw[hC];exact NV _ _ _ _ p8
  ·rw[hC,YP]
  ·rw[hC];rfl
 obtain⟨n,hn⟩:=EX p.length;rw[<-hn] at C8 S lp ⊢;clear bk bn ba na bp k8 n8 a8 p8 h la hC hn;go_enter func70,ntmps70;go_wp2_with fail;refine T.o.mono ?_;rintro e w1 ⟨v1,rfl,b1,nc1,o1⟩;have B1:=Qa b1;have O1:=Qa o1;clear b1 nc1 o1 T;go_wp2_with fail;refine (S.o w1 O1.o).mono ?_;rintro e w2 ⟨v2,rfl,h0,o2⟩;have B2:=Qa (B1.o.past o2);have O2:=Qa (O1.o.same o2);obtain⟨co,cc,rfl⟩:=QK h0;have W2:=Qa h0;have Z2:=Qa o2.size;have Z1:=Qa O1.o.size
 have M:Hid (∀W:World,N0 w2 W->W=w2.alloc (.cells #[.slice ao ad.length ac,.slice co n cc] 23)->Calls prog 111 #[.slice (some ⟨w2.heap.size,0,none⟩) 2 2] W λe w'=>∃v,e=.returned v∧w'.ownsRow W.heap.size 5 1 v (Uv ad C).length (bl (Uv ad C))∧N0 W w'):=λW o e=>by
  subst e;exact Lj w2.heap.size _ _ ad C _ (Blk.new w2 23 [_,_]) (HA.o.1.past (O2.o.same o)) HA.o.2.1 HA.o.2.2.2 (Bs.of_own (k:=.u8) (E:=5) (lo:=w1.heap.size) (by rw[C8.o.2.1];exact o.own h0 (λ_ _ f=>f))) (NoCap.of_own h0) (by rw[C8.o.2.1];exact lp)
 have oa:=(Only.refl (λ_=>False) w2).alloc (.cells #[.slice ao ad.length ac,.slice co n cc] 23);have M2:=Qa (M.o _ oa rfl);obtain⟨m,hm⟩:=EX ad.length;rw[<-hm] at M2 oa ⊢;have OA:=Qa oa;clear h0 o2 S O1 B1 M oa hm;go_wp2_with fail;refine M2.o.mono ?_;rintro e w3 ⟨v3,rfl,h6,o3⟩;have O3:=Qa (OA.o.same o3)
 have P:=Qa (Aa v1 v3 (WQ key nonce) (Uv ad C) (TF _ _) (Dd _ _) (LW ad C HA.o.2.2.1 C8.o.1) (by
  have h1:=Rj ad C;have h2:=HA.o.2.2.2;have h3:=C8.o.2.1
  omega) w3 (B2.o.past O3.o) (Bs.of_own (k:=.u8) (E:=5) h6))
 clear h6 o3 M2 OA B2;go_wp2_with fail;refine P.o.mono ?_;rintro e w4 ⟨v4,rfl,h4,o4⟩;have O4:=Qa (O3.o.same o4);have W4:Hid (w4.ownsRow w1.heap.size 5 1 (.slice co n cc) n (bl C)):=O4.o.own W2.o (λ_ _ f=>f);have B4:Hid (Bs .u8 w4 v4 (UV key nonce ad C)∧NoCap v4):=⟨Bs.of_own (k:=.u8) (E:=5) (lo:=w3.heap.size) (by rw[Ko];exact h4),NoCap.of_own h4⟩;have hle:w1.heap.size<=w4.heap.size:=Nat.le_trans Z2.o O4.o.size;clear h4 o4 P O3;go_wp2_with (at_builtin;refine Yr _ rfl _ _ 23 rfl w1.heap.size 5 i0 (.int .u8 0) 1 underlying23 hi hz0 hz1 hz2 rfl (.slice co n cc) n (bl C) rfl W4.o .u8 v4 (UV key nonce ad C) rfl B4.o.1 B4.o.2 (by rw[Ko];unfold maxLen;omega) (by rw[Ko];omega) hle ?_;intro v5 w5 hown5 hgrow5 hnil5 hob5)
 have F1:Hid (w5.ownsRow w.heap.size 5 1 v5 (n+16) (bl (YG key nonce ad p))∧N0 w w5):=by
  refine⟨Qr ?_ Z1.o,(O2.o.same O4.o).grown hgrow5 (λj hj e=>by have:=(W4.o.lt j e).1;have:=Z1.o;omega)⟩;have h5:=hown5;rw[Ko] at h5;rw[C8.o.2.2,Lg];exact h5
 clear hown5 hgrow5 hnil5 hob5 W4 B4 O4;go_wp2;go_ret2;exact⟨_,rfl,F1.o⟩
def Wo (key nonce ad s:LI):LI:=if KN key nonce then (if 16<=s.length then (if Uc key nonce ad s then Wq key nonce s else []) else []) else []
def WH (key nonce ad s:LI):Int:=if KN key nonce then (if 16<=s.length then (if Uc key nonce ad s then 0 else 5) else 2) else 1
theorem BM (vk vn va vs:Value) (key nonce:LI) (h:¬KN key nonce) (k8:U8 key) (n8:U8 nonce) (w:World) (bk:Bs .u8 w vk key) (bn:Bs .u8 w vn nonce) :
 Calls prog 101 #[vk,vn,va,vs] w λe w'=>e=.returned (.tuple #[.slice none 0 0,.int .i64 1])∧N0 w w':=by
 have T:=Qa (I2 vk vn key nonce h k8 n8 w bk bn);clear bk bn k8 n8 h;go_enter func101,ntmps101;go_wp2_with fail;refine T.o.mono ?_;rintro e w1 ⟨rfl,o1⟩;have F1:=Qa o1;clear o1 T;go_wp2;go_ret2;exact⟨rfl,F1.o⟩
theorem EY (vk vn va:Value) (so:Option Addr) (n sc:Nat) (hn:n<16) (key nonce:LI) (h:KN key nonce) (k8:U8 key) (n8:U8 nonce) (w:World) (bk:Bs .u8 w vk key) (bn:Bs .u8 w vn nonce) :
 Calls prog 101 #[vk,vn,va,.slice so n sc] w λe w'=>e=.returned (.tuple #[.slice none 0 0,.int .i64 2])∧N0 w w':=by
 have T:=Qa (J5 vk vn key nonce h k8 n8 w bk bn)
 have h1:(n:Int) - 16<0:=by omega
 clear bk bn k8 n8 h;go_enter func101,ntmps101;go_wp2_with fail;refine T.o.mono ?_;rintro e w1 ⟨v1,rfl,b1,nc1,o1⟩;have F1:=Qa o1;clear o1 T b1 nc1;go_wp2;go_ret2;exact⟨rfl,F1.o⟩
theorem jX (vk vn va vs:Value) (key nonce ad s:LI) (h:KN key nonce) (h16:16<=s.length) (k8:U8 key) (n8:U8 nonce) (a8:U8 ad) (s8:U8 s) (la:ad.length<=100000000000) (ls:s.length<=100000000000) (w:World) (bk:Bs .u8 w vk key) (bn:Bs .u8 w vn nonce) (ba:Bs .u8 w va ad) (na:NoCap va) (bs:Bs .u8 w vs s) (ns:NoCap vs) :
 Calls prog 101 #[vk,vn,va,vs] w λe w'=>∃v,e=.returned (.tuple #[v,.int .i64 (if Uc key nonce ad s then 0 else 5)])∧w'.ownsRow w.heap.size 5 1 v (if Uc key nonce ad s then Wq key nonce s else []).length (bl (if Uc key nonce ad s then Wq key nonce s else []))∧N0 w w':=by
 have T:=Qa (J5 vk vn key nonce h k8 n8 w bk bn);obtain⟨q,hq⟩:=EX (s.length - 16);obtain⟨C,hC⟩:=EX (s.take q);obtain⟨R,hR⟩:=EX (s.drop q)
 have h9:C.length=q:=by rw[hC,Qg];omega
 have hRl:R.length=16:=by rw[hR,Qm];omega
 have C8:U8 C:=by rw[hC];exact s8.take _
 have R8:U8 R:=by rw[hR];exact s8.drop _
 have h6:Hid (Uc key nonce ad s↔UV key nonce ad C=R):=by
  show _↔_
  unfold Uc;rw[<-hq,<-hC,<-hR]
 have h8:Hid (Wq key nonce s=Q8 key 1 nonce C):=by
  show _=_
  unfold Wq;rw[<-hq,<-hC]
 obtain⟨E,hE⟩:∃E:Int,E=if Uc key nonce ad s then 0 else 5:=⟨_,rfl⟩
 obtain⟨L,hL⟩:∃L:LI,L=if Uc key nonce ad s then Wq key nonce s else []:=⟨_,rfl⟩
 rw[<-hE,<-hL];have HE:=Qa hE;have HL:=Qa hL;clear hE hL
 obtain⟨so,n,sc,hv,hsc⟩:∃so n sc,vs=.slice so n sc∧n=s.length:=by
  obtain⟨so,sc,e⟩:=bs.len;exact⟨so,s.length,sc,e,rfl⟩
 subst hv
 obtain⟨g,off,rfl⟩:∃g off,so=some ⟨g,off,none⟩:=by
  obtain⟨g,off,c,e,_⟩:=bs.at 0 (by omega);simp at e;exact⟨g,off,e.1⟩
 have h7:n<=sc:=bs.room
 have bC:Bs .u8 w (.slice (some ⟨g,off,none⟩) q sc) C:=by rw[hC];exact bs.head (by omega)
 have bR:Bs .u8 w (.slice (some ⟨g,off+q,none⟩) 16 (sc - q)) R:=by
  have:=bs.cut (n:=q) (by omega);rw[<-hR,show n - q=16 by omega] at this
  simpa [Addr.add_lit] using this
 have S:=Qa (λW (o:N0 w W)=>Rr vk vn _ key nonce C 1 (by decide) k8 n8 C8 (by omega) W (bk.past o) (bn.past o) (bC.past o));simp only[R9 h (Z3 _ (show C.length<=100000000000 by omega)),SR1L h (Z3 _ (show C.length<=100000000000 by omega)),show ((1:Nat):Int)=1 from rfl] at S;have HA:=Qa (Vz ba (Vz na (Vz a8 la)));have HC:=Qa (Vz bC (Vz h9 C8));have HR:=Qa (Vz bR R8);obtain⟨ao,ac,rfl⟩:=ba.len
 have hsub:(n:Int) - 16=(q:Int):=by omega
 have c1:(q:Int)<=(sc:Int):=by omega
 have c2:(q:Int)<=(n:Int):=by omega
 have c0:(0:Int)<=(q:Int):=by omega
 have c3:¬sc=q:=by omega
 have hnq:n - q=16:=by omega
 have hql:q<=100000000000:=by omega
 clear bk bn ba na bs ns k8 n8 a8 s8 h la hC hR hq hsc h16 h9 hRl C8 R8 bC bR ls h7;go_enter func101,ntmps101;go_wp2_with fail;refine T.o.mono ?_;rintro e w1 ⟨v1,rfl,b1,nc1,o1⟩;have B1:=Qa b1;have O1:=Qa o1;have oa:=(Only.refl (λ_=>False) w1).alloc (.cells #[.slice ao ad.length ac,.slice (some ⟨g,off,none⟩) q sc] 23);have M2:=Qa (Lj w1.heap.size _ _ ad C _ (Blk.new w1 23 [.slice ao ad.length ac,.slice (some ⟨g,off,none⟩) q sc]) (HA.o.1.past (o1.same oa)) HA.o.2.1 HA.o.2.2.2 (HC.o.1.past (o1.same oa)) (NoCap.some _ _ _) (by rw[HC.o.2.1];exact hql));obtain⟨m,hm⟩:=EX ad.length;rw[<-hm] at M2 oa ⊢;have OA:=Qa oa;clear b1 nc1 o1 T oa hm;go_wp2_with fail;refine M2.o.mono ?_;rintro e w3 ⟨v3,rfl,h0,o3⟩;have O3:=Qa (O1.o.same (OA.o.same o3))
 have P:=Qa (Aa v1 v3 (WQ key nonce) (Uv ad C) (TF _ _) (Dd _ _) (LW ad C HA.o.2.2.1 HC.o.2.2) (by
  have h1:=Rj ad C;have h2:=HA.o.2.2.2;have h3:=HC.o.2.1
  omega) w3 (B1.o.past (OA.o.same o3)) (Bs.of_own (k:=.u8) (E:=5) h0))
 clear h0 o3 M2 OA B1 O1;go_wp2_with fail;refine P.o.mono ?_;rintro e w4 ⟨v4,rfl,h4,o4⟩;have O4:=Qa (O3.o.same o4);have H:=Qa (Dq v4 (.slice (some ⟨g,off+q,none⟩) 16 (sc - q)) (UV key nonce ad C) R w4 (Bs.of_own (k:=.u8) (E:=5) (lo:=w3.heap.size) (by rw[Ko];exact h4)) (HR.o.1.past O4.o) (Pd _ _ _ _) HR.o.2 (by rw[Ko];decide));clear h4 o4 P O3
 by_cases hok:Uc key nonce ad s
 ·rw[Qe (h6.o.1 hok)] at H
  have hE:=HE.o;have hL:=HL.o;rw[if_pos hok] at hE hL;rw[h8.o] at hL;subst hE;subst hL;clear hok HE HL h6 h8;go_wp2_with fail;refine H.o.mono ?_;rintro e w5 ⟨rfl,o5⟩;have O5:=Qa (O4.o.same o5);have Z:=Qa O5.o.size;clear o5 H O4;go_wp2_with fail;refine (S.o w5 O5.o).mono ?_;rintro e w6 ⟨v6,rfl,h5,o6⟩;have F1:Hid (w6.ownsRow w.heap.size 5 1 v6 (Q8 key 1 nonce C).length (bl (Q8 key 1 nonce C))∧N0 w w6):=⟨Qr h5 Z.o,O5.o.same o6⟩;clear h5 o6 S;go_wp2;go_ret2;exact⟨_,rfl,F1.o⟩
 ·rw[Qi (λe=>hok (h6.o.2 e))] at H
  have hE:=HE.o;have hL:=HL.o;rw[if_neg hok] at hE hL;subst hE;subst hL;clear hok HE HL h6 h8;go_wp2_with fail;refine H.o.mono ?_;rintro e w5 ⟨rfl,o5⟩;have O5:=Qa (O4.o.same o5);clear o5 H O4 S;go_wp2;go_ret2;exact⟨_,rfl,Xh,O5.o⟩
theorem xT (vk vn va vs:Value) (key nonce ad s:LI) (k8:U8 key) (n8:U8 nonce) (a8:U8 ad) (s8:U8 s) (la:ad.length<=100000000000) (ls:s.length<=100000000000) (w:World) (bk:Bs .u8 w vk key) (bn:Bs .u8 w vn nonce) (ba:Bs .u8 w va ad) (na:NoCap va) (bs:Bs .u8 w vs s) (ns:NoCap vs) :
 Calls prog 101 #[vk,vn,va,vs] w λe w'=>∃v,e=.returned (.tuple #[v,.int .i64 (WH key nonce ad s)])∧w'.ownsRow w.heap.size 5 1 v (Wo key nonce ad s).length (bl (Wo key nonce ad s))∧N0 w w':=by
 by_cases h:KN key nonce
 ·by_cases h16:16<=s.length
  ·have e1:WH key nonce ad s=if Uc key nonce ad s then 0 else 5:=by unfold WH;rw[if_pos h,if_pos h16]
   have e2:Wo key nonce ad s=if Uc key nonce ad s then Wq key nonce s else []:=by unfold Wo;rw[if_pos h,if_pos h16]
   rw[e1,e2];exact jX vk vn va vs key nonce ad s h h16 k8 n8 a8 s8 la ls w bk bn ba na bs ns
  ·have e1:WH key nonce ad s=2:=by unfold WH;rw[if_pos h,if_neg h16]
   have e2:Wo key nonce ad s=[]:=by unfold Wo;rw[if_pos h,if_neg h16]
   rw[e1,e2];obtain⟨so,sc,rfl⟩:=bs.len;exact (EY vk vn va so s.length sc (by omega) key nonce h k8 n8 w bk bn).mono (λ_ _ ⟨h1,h2⟩=>⟨_,h1,Xh,h2⟩)
 ·rw[show WH key nonce ad s=1 from if_neg h,show Wo key nonce ad s=[] from if_neg h]
  exact (BM vk vn va vs key nonce h k8 n8 w bk bn).mono (λ_ _ ⟨h1,h2⟩=>⟨_,h1,Xh,h2⟩)
end Go.Proofs.YtiochaeeoelmjaaGreatDoor
