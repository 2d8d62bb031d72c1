import Derived.Test.YtnhapmboienipaaGreatDoorY27
import Derived.Deep.RegionHeld3
import Derived.Deep.Cut
import Derived.Deep.CutRange
namespace Go.Proofs.YtnhapmboienipaaGreatDoor
set_option maxHeartbeats 1600000
set_option maxRecDepth 100000
open Go.RowKit _root_.Go.Proofs.Tryz
def z17:List Value:=bl (List.replicate 17 0)
theorem Tryz.zero50:(prog.info? 220).map (fun i=>(i.zero,i.size))=some (some (.agg z17.toArray),17):=by kernel_rfl
theorem Qah {o:Oper} {a:Act} {W:World} {K:Act→World→Prop} {Q:Exit→Act→World→Prop} (n:Nat) (xs:Array Operand) (ts:Array TypeId)
  (ho:o.op=.call { callee:=.value (.func n),args:=xs,argTypes:=ts }) (hf:∀vs W,(callFunc n vs).run prog W=.ok (.enter n vs) W) (vs:Array Value) (r:Value) (hx:xs.map a.eval=vs) {R:World→Prop}
  (hc:Calls prog n vs W fun e w'=>e=.returned r∧R w') (h:∀w',R w'→K (a.put o.dst r) w'):Oper.wp prog o a W K Q:=by
 subst hx;unfold Oper.wp;have e:a.eval (Operand.func n)=.func (.func n) #[] #[]:=rfl;have hf2:=hf (xs.map a.eval) W;simp [execOp,ho,resolve,invoke,e,Oper.upon,Deferred.ofValue,hf2];refine Calls.mono hc ?_;rintro e w' ⟨rfl,hR⟩;exact h w' hR
theorem Qeg (vs:Array Value) (W:World):(callFunc 143 vs).run prog W=.ok (.enter 143 vs) W:=by kernel_rfl
theorem Qbm (vs:Array Value) (W:World):(callFunc 145 vs).run prog W=.ok (.enter 145 vs) W:=by kernel_rfl
theorem Qch (vs:Array Value) (W:World):(callFunc 171 vs).run prog W=.ok (.enter 171 vs) W:=by kernel_rfl
theorem Blk.setAll {w:World} {g:Nat} {t:TypeId} {cs vs:List Value} (h:Blk w g t cs) (hl:vs.length=cs.length):Blk (w.setCells g 0 vs) g t vs:=by
 have:=Qfw [] cs [] vs hl w g t (by simpa using h)
 simpa using this
theorem QoI (xs:List Int) (k q:Nat) (hq:q=min 16 (xs.drop (16*k)).length):((xs.drop (16*k)).take q++List.replicate (17 - q) 0).set q 1=pby xs k:=by
 have hl:((xs.drop (16*k)).take q).length=q:=by rw [Yag];omega
 have e:17 - q=(16 - q)+1:=by omega
 rw [List.set_append_right _ _ (by omega),hl,Nat.sub_self,e,List.replicate_succ,Yab,pby]
 have h1:(xs.drop (16*k)).take q=(xs.drop (16*k)).take 16:=by
  by_cases h:(xs.drop (16*k)).length≤16
  ·rw [List.take_of_length_le (by omega),List.take_of_length_le h]
  ·rw [show q=16 by omega]
 rw [h1,List.append_assoc]
 congr 2
 rw [Yai] at hq;rw [hq]
 rfl
def pslen:Value→Nat
 | .slice _ n _=>n
 | _=>0
abbrev o0ga : Oper:={ dst:=some 21,op:=Op.call { callee:=Callee.value (Operand.func 145),args:=#[Operand.tmp 18,Operand.tmp 20],argTypes:=#[188,188] },type:=188,pos:="poly.go:51",after:=#[{ on:=0,ground:=Ground.data },{ on:=2,ground:=Ground.data },{ on:=2,ground:=Ground.chain }],guard:=none }
abbrev o1ga : Oper:={ dst:=some 23,op:=Op.call { callee:=Callee.value (Operand.func 171),args:=#[Operand.tmp 21,Operand.tmp 22],argTypes:=#[188,188] },type:=188,pos:="poly.go:51",after:=#[{ on:=3,ground:=Ground.data },{ on:=4,ground:=Ground.data },{ on:=3,ground:=Ground.chain }],guard:=none }
abbrev o2ga : Oper:={ dst:=none,op:=Op.store 188 (Operand.tmp 5) (Operand.tmp 23),type:=0,pos:="poly.go:51",after:=#[{ on:=5,ground:=Ground.data },{ on:=5,ground:=Ground.chain },{ on:=0,ground:=Ground.phase },{ on:=1,ground:=Ground.phase },{ on:=2,ground:=Ground.phase },{ on:=3,ground:=Ground.phase },{ on:=4,ground:=Ground.phase },{ on:=5,ground:=Ground.phase }],guard:=none }
abbrev o3ga : Oper:={ dst:=some 22,op:=Op.load 188 (Operand.tmp 3),type:=188,pos:="poly.go:51",after:=#[],guard:=none }
abbrev o4ga : Oper:={ dst:=some 18,op:=Op.load 188 (Operand.tmp 5),type:=188,pos:="poly.go:51",after:=#[],guard:=none }
abbrev o5ga : Oper:={ dst:=some 20,op:=Op.call { callee:=Callee.value (Operand.func 143),args:=#[Operand.tmp 19],argTypes:=#[22] },type:=188,pos:="poly.go:51",after:=#[{ on:=1,ground:=Ground.data }],guard:=none }
theorem Qgz (v:Value) (xs:List Int) (hl:xs.length≤1000000000000) (h8:U8 xs) (r:List Nat) (hr:r.length=5) (lr:LB 67108864 r) (w:World) (hb:Bs .u8 w v xs) :
  Calls prog 147 #[v,.agg (ul r).toArray] w fun e w'=>e=.returned (.agg (ul (gth r xs ((xs.length+15) / 16))).toArray)∧Only (fun _=>False) w w':=by
 have hzv:=(zero_of_info (P:=prog) Tryz.zero34).1;have hzw:=(zero_of_info (P:=prog) Tryz.zero50).1;obtain ⟨Z,hZ⟩:∃Z,Z=z5:=⟨_,rfl⟩;rw [←hZ] at hzv;obtain ⟨Y,hY⟩:∃Y,Y=z17:=⟨_,rfl⟩;rw [←hY] at hzw;obtain ⟨D,hD⟩:∃D,D=ul (gth r xs ((xs.length+15) / 16)):=⟨_,rfl⟩
 have HZ1:Hid ((prog.info? 188).map (·.size)=some D.toArray.size∧Z.toArray.size=D.toArray.size∧D.toArray.all (·.oneCell')=true):=by
  rw [hD,hZ];exact ⟨QaW _ (Qb5 _ _ _),by simp [QaF,Qb5,Qct],QbX _⟩
 rw [←hD];have HD:=Qaa (And.intro hD (And.intro hZ hY));have HX:=Qaa (And.intro h8 (And.intro hr lr));obtain ⟨B,hB⟩:∃B,B=ul r:=⟨_,rfl⟩;have HB:Hid (B=ul r∧B.length=5):=⟨hB,by rw [hB,QaF,hr]⟩;rw [←hB]
 have K0:Hid (Blk (((w.alloc (.cells B.toArray 188)).alloc (.cells Z.toArray 188)).alloc (.cells Z.toArray 188)) w.heap.size 188 B∧Blk (((w.alloc (.cells B.toArray 188)).alloc (.cells Z.toArray 188)).alloc (.cells Z.toArray 188)) (w.heap.size+1) 188 Z∧Blk (((w.alloc (.cells B.toArray 188)).alloc (.cells Z.toArray 188)).alloc (.cells Z.toArray 188)) (w.heap.size+1+1) 188 (ul (gth r xs 0))∧Only (fun _=>False) w (((w.alloc (.cells B.toArray 188)).alloc (.cells Z.toArray 188)).alloc (.cells Z.toArray 188))):=by
  refine ⟨((Blk.new w 188 B).alloc _).alloc _,?_,?_,(((Only.refl _ _).alloc _).alloc _).alloc _⟩
  ·have:=(Blk.new (w.alloc (.cells B.toArray 188)) 188 Z).alloc (.cells Z.toArray 188)
   rw [size_alloc] at this;exact this
  ·have:=Blk.new ((w.alloc (.cells B.toArray 188)).alloc (.cells Z.toArray 188)) 188 Z
   rw [size_alloc,size_alloc] at this;rw [HD.out.2.1] at this ⊢;exact this
 have B0:=Qaa hb;obtain ⟨n,hn⟩:∃n,n=xs.length:=⟨_,rfl⟩;have HN:=Qaa hn;rw [←hn] at hl;clear hZ hY hD hB hb hr lr h8 hn;go_enter func147,ntmps147;go_wp2;obtain ⟨A,hA⟩:∃A,A=w.heap.size+1+1:=⟨_,rfl⟩;rw [←hA] at K0 ⊢;obtain ⟨R,hR⟩:∃R,R=w.heap.size+1:=⟨_,rfl⟩;rw [←hR] at K0 ⊢;obtain ⟨H,hH⟩:∃H,H=w.heap.size:=⟨_,rfl⟩;have HG:Hid (w.heap.size≤A∧w.heap.size≤R∧R≠A∧H≠A):=⟨by omega,by omega,by omega,by omega⟩;rw [←hH] at K0 ⊢;obtain ⟨W0,hW0⟩:∃W0,W0=((w.alloc (.cells B.toArray 188)).alloc (.cells Z.toArray 188)).alloc (.cells Z.toArray 188):=⟨_,rfl⟩;rw [←hW0] at K0 ⊢;clear hA hR hH hW0 hzv
 go_loopw [6] (fun o wr=>∃k:Nat,Bs .u8 w o (xs.drop (16*k))∧16*k≤n+15∧Blk wr H 188 B∧Blk wr R 188 Z∧Blk wr A 188 (ul (gth r xs k))∧Only (fun _=>False) w wr) (fun o _=>pslen o)
 case atStart=>exact ⟨0,B0.out,by omega,K0.out⟩
 case round =>
  obtain ⟨k,hbw,hk,k1,k2,k3,k4⟩:=hrel;clear K0 B0;obtain ⟨ao,cap,rfl⟩:=hbw.len;have hbs:=hbw.past k4
  have hlen:(xs.drop (16*k)).length=n - 16*k:=by rw [Yai,HN.out]
  have hcp:(xs.drop (16*k)).length≤cap:=by
   obtain ⟨_,_,e,h,_⟩:=hbs
   cases e;exact h
  by_cases hlt:16*k<n
  ·obtain ⟨q,hq⟩:∃q,q=min 16 (xs.drop (16*k)).length:=⟨_,rfl⟩
   obtain ⟨W1,hW1⟩:∃W1,W1=wr.alloc (.cells Y.toArray 220):=⟨_,rfl⟩
   have hP1:Blk W1 wr.heap.size 220 (bl (List.replicate 17 0)):=by
    have:=Blk.new wr 220 Y;rw [hW1];rw [HD.out.2.2] at this ⊢;exact this
   have hO1:Only (fun _=>False) wr W1:=by rw [hW1];exact (Only.refl _ _).alloc _
   obtain ⟨w3,hcpy,hB3,hO3⟩:=Qg4 220 17 17 _ (xs.drop (16*k)) W1 wr.heap.size 16 q hP1 (hbs.past hO1) hq (by decide)
   have hq16:q≤16∧0<q∧q≤n - 16*k:=by omega
   have hl17:((xs.drop (16*k)).take q++List.replicate (17 - q) 0).length=17:=by
    rw [Yae,Yag,List.length_replicate];omega
   have hc3:w3.cell? ⟨wr.heap.size,q,none⟩=some (.int .u8 (((xs.drop (16*k)).take q++List.replicate (17 - q) 0).getD q 0)):=by
    rw [hB3.cell,bl_at _ _ (by rw [hl17];omega)]
   have hf3:=hB3.froz q;obtain ⟨z,hz⟩:∃z,z=((xs.drop (16*k)).take q++List.replicate (17 - q) 0).getD q 0:=⟨_,rfl⟩;rw [←hz] at hc3;have hlow:Only (fun _=>False) wr w3:=hO1.trans hO3 (fun i hi e=>by omega);obtain ⟨W4,hW4⟩:∃W4,W4=w3.setCell ⟨wr.heap.size,q,none⟩ (.int .u8 1):=⟨_,rfl⟩
   have hP4:Blk W4 wr.heap.size 220 (bl (pby xs k)):=by
    have h:=hB3.set q (.int .u8 1);rw [QiB,QoI xs k q hq] at h;rw [hW4];exact h
   have hO4:Only (fun _=>False) wr W4:=by
    rw [hW4];exact hlow.setCell (p:=⟨wr.heap.size,q,none⟩) (fun h=>absurd h (Nat.lt_irrefl _)) _
   have hbs4:=hbs.past hO4;have K4:Hid (Blk W4 H 188 B∧Blk W4 R 188 Z∧Blk W4 A 188 (ul (gth r xs k))∧Only (fun _=>False) w W4):=⟨k1.past hO4,k2.past hO4,k3.past hO4,k4.same hO4⟩;have oD:Only (fun _=>False) W4 W4.drew:=(Only.refl _ _).drew;have NU:=Qaa (fun (W:World) (o:Only (fun _=>False) W4 W)=>(Qco _ (pby xs k) (by rw [Qip];decide) (Quq xs HX.out.1 k) W (Bs.of_bytes (hP4.past o) 17 (Qip _ _))).mono (fun _ w' (h:_∧_)=>And.intro h.1 (o.same h.2)));have lg:=Qm7 r xs HX.out.2.2 k;have lp:=Qjy (C:=134217728) lg (Qfj (pby xs k)) (by decide);have PL:=Qaa (fun (W:World) (o:Only (fun _=>False) W4 W)=>(Qf1 (gth r xs k) (nmb (pby xs k)) (Qb5 _ _ _) (QbD _) (lg.mono (by decide)) ((Qfj _).mono (by decide)) W).mono (fun _ w' (h:_∧_)=>And.intro h.1 (o.same h.2)));have TI:=Qaa (fun (W:World) (o:Only (fun _=>False) W4 W)=>(QkR (pls (gth r xs k) (nmb (pby xs k))) r (QaL _ _) HX.out.2.1 lp HX.out.2.2 W).mono (fun _ w' (h:_∧_)=>And.intro h.1 (o.same h.2)));have eN:ptms (pls (gth r xs k) (nmb (pby xs k))) r=gth r xs (k+1):=rfl;rw [eN,←HB.out.1] at TI
   have HAL:(ul (gth r xs k)).length=5:=by rw [QaF,Qb5]
   have HNL:(ul (gth r xs (k+1))).length=5:=by rw [QaF,Qb5]
   have HN1:∀v∈ul (gth r xs (k+1)),v.oneCell'=true:=Qq7 _;obtain ⟨AA,hAA⟩:∃AA,AA=ul (gth r xs k):=⟨_,rfl⟩;obtain ⟨NN,hNN⟩:∃NN,NN=ul (gth r xs (k+1)):=⟨_,rfl⟩;obtain ⟨PL',hPL⟩:∃PL',PL'=ul (pls (gth r xs k) (nmb (pby xs k))):=⟨_,rfl⟩;obtain ⟨MM,hMM⟩:∃MM,MM=ul (nmb (pby xs k)):=⟨_,rfl⟩;rw [←hAA] at PL K4 HAL;rw [←hNN] at TI HNL HN1;rw [←hPL] at PL TI;rw [←hMM] at NU PL
   have rA:Hid (∀W,Only (fun _=>False) W4 W→W.rangeAt A 0 AA):=fun W o=>by
    have:=Blk.range (a:=[]) (b:=AA) (c:=[]) (w:=W) (g:=A) (t:=188) (by simpa using K4.out.2.2.1.past o)
    simpa using this
   have rH:Hid (∀W,Only (fun _=>False) W4 W→W.rangeAt H 0 B):=fun W o=>by
    have:=Blk.range (a:=[]) (b:=B) (c:=[]) (w:=W) (g:=H) (t:=188) (by simpa using K4.out.1.past o)
    simpa using this
   have iA:Hid ((prog.info? 188).map (·.size)=some AA.length∧(prog.info? 188).map (·.size)=some B.length∧(prog.info? 188).map (·.size)=some NN.toArray.size∧NN.toArray.all (·.oneCell')=true):=by
    refine ⟨by rw [HAL];exact Tryz.size34,by rw [HB.out.2];exact Tryz.size34,by rw [List.size_toArray,HNL];exact Tryz.size34,all_oneCell_toArray HN1⟩
   have tA:Hid (∀W,Only (fun _=>False) W4 W→W.there A 0 NN.toArray.size):=fun W o=>(K4.out.2.2.1.past o).there 0 NN.toArray.size (by rw [List.size_toArray,HNL,HAL];decide)
   have FIN:Hid (∀W,Only (fun _=>False) W4 W→Blk (W.setCells A 0 NN) H 188 B∧Blk (W.setCells A 0 NN) R 188 Z∧Blk (W.setCells A 0 NN) A 188 (ul (gth r xs (k+1)))∧Only (fun _=>False) w (W.setCells A 0 NN)):=fun W o=>by
    have oc:Only (fun k=>k=A) W (W.setCells A 0 NN):=Only.setCells (S:=fun k=>k=A) (fun _=>rfl) _ 0 W (Only.refl _ _);refine ⟨(K4.out.1.past o).keep oc HG.out.2.2.2,(K4.out.2.1.past o).keep oc HG.out.2.2.1,?_,(K4.out.2.2.2.same o).trans oc (fun i hi e=>by have:=HG.out.1;omega)⟩;rw [←hNN];exact (K4.out.2.2.1.past o).setAll (by rw [HAL,HNL])
   rw [hW1] at hcpy;obtain ⟨m,hm⟩:∃m,m=(xs.drop (16*k)).length:=⟨_,rfl⟩;have HM:=Qaa (And.intro hm (And.intro hq hlen));rw [←hm] at hcp hcpy hbw ⊢;have HBW:=Qaa hbw
   have i0:(0:Int)<(m:Int):=by omega
   have i1:(q:Int)<17:=by omega
   have i2:(0:Int)≤(q:Int):=by omega
   have i3:(q:Int)≤(m:Int):=by omega
   have i4:(m:Int)≤(cap:Int):=by omega
   have HQ:=Qaa hq16;clear hW1 hP1 hO1 hB3 hO3 hl17 hz hlow hP4 hO4 hbs4 lg lp eN hPL hMM hAA hNN HAL HNL HN1 k1 k2 k3 k4 hbs hbw hq hlen hm hq16 K4;go_wp2_with fail;rw [←hW4];clear hW4 hc3 hf3 hcpy
   go_cut [] from 10 to 26 (fun W=>∃V,Only (fun _=>False) W4 V∧W=V.setCells A 0 NN)
   case first =>
    refine wp_region_any (by kernel_rfl) ?_
    change wpAny _ _ _ _ _ _ _ (World.drew _)
    refine wpAny_take (i:=1) (oi:={ dst:=some 19,op:=Op.slice 220 (Operand.tmp 7) none none none,type:=22,pos:="poly.go:51",after:=#[],guard:=none }) (v:=?tv1) rfl (by kernel_rfl) (by kernel_rfl) (by kernel_rfl) (fun _ _ _ h => h) (Or.inl ⟨by rfl,?th1⟩) ?tr1
    case th1=>(intro w;go_simp;try with_reducible rfl)
    try simp only [Act.put,Yaa,Yab,Yac]
    refine wpAny_ready (rs:=[0,2,4]) (by kernel_rfl) (by simp) ?_;refine (AllReady.cons (o:=o4ga) rfl (fun K hK=>?_) (AllReady.cons (o:=o5ga) rfl (fun K hK=>?_) (AllReady.cons (o:=o3ga) rfl (fun K hK=>?_) AllReady.nil)))
    ·rw [if_pos (by rfl)]
     refine wp_load_mid 188 (.tmp 5) rfl A 0 rfl AA _ (rA.out _ oD) underlying188 rfl iA.out.1 ?_;refine hK _ _ ?_;clear hK K
     try simp only [Act.put,Yaa,Yab,Yac]
     refine wpAny_ready (rs:=[2,4]) (by kernel_rfl) (by simp) ?_;refine (AllReady.cons (o:=o5ga) rfl (fun K hK=>?_) (AllReady.cons (o:=o3ga) rfl (fun K hK=>?_) AllReady.nil))
     ·rw [if_pos (by rfl)]
      refine Qah 143 #[.tmp 19] #[22] rfl Qeg #[.slice (some ⟨wr.heap.size,0,none⟩) 17 17] (.agg MM.toArray) (by kernel_rfl) (NU.out _ oD) ?_;intro w5 o5;refine hK _ _ ?_;clear hK K
      try simp only [Act.put,Yaa,Yab,Yac]
      refine wpAny_ready (rs:=[3,4]) (by kernel_rfl) (by simp) ?_;refine (AllReady.cons (o:=o0ga) rfl (fun K hK=>?_) (AllReady.cons (o:=o3ga) rfl (fun K hK=>?_) AllReady.nil))
      ·rw [if_pos (by rfl)]
       refine Qah 145 #[.tmp 18,.tmp 20] #[188,188] rfl Qbm #[.agg AA.toArray,.agg MM.toArray] (.agg PL'.toArray) (by kernel_rfl) (PL.out _ o5) ?_;intro w6 o6;refine hK _ _ ?_;clear hK K
       try simp only [Act.put,Yaa,Yab,Yac]
       refine wpAny_ready (rs:=[4]) (by kernel_rfl) (by simp) ?_;refine (AllReady.cons (o:=o3ga) rfl (fun K hK=>?_) AllReady.nil)
       ·rw [if_pos (by rfl)]
        refine wp_load_mid 188 (.tmp 3) rfl H 0 rfl B _ (rH.out _ o6) underlying188 rfl iA.out.2.1 ?_;refine hK _ _ ?_;clear hK K
        try simp only [Act.put,Yaa,Yab,Yac]
        refine wpAny_ready (rs:=[5]) (by kernel_rfl) (by simp) ?_;refine (AllReady.cons (o:=o1ga) rfl (fun K hK=>?_) AllReady.nil)
        ·rw [if_pos (by rfl)]
         refine Qah 171 #[.tmp 21,.tmp 22] #[188,188] rfl Qch #[.agg PL'.toArray,.agg B.toArray] (.agg NN.toArray) (by kernel_rfl) (TI.out _ o6) ?_;intro w7 o7;refine hK _ _ ?_;clear hK K
         try simp only [Act.put,Yaa,Yab,Yac]
         refine wpAny_ready (rs:=[6]) (by kernel_rfl) (by simp) ?_;refine (AllReady.cons (o:=o2ga) rfl (fun K hK=>?_) AllReady.nil)
         ·rw [if_pos (by rfl)]
          refine wp_store_mid 188 (.tmp 5) (.tmp 23) rfl A 0 NN.toArray rfl rfl (tA.out _ o7) iA.out.2.2.1 iA.out.2.2.2 ?_;refine hK _ _ ?_;clear hK K;simp only [Act.put];refine wpAny_done (by kernel_rfl) ?_ _;go_wp2
          go_meet
          case rel=>exact ⟨_,o7,rfl⟩
      ·rw [if_pos (by rfl)]
       refine wp_load_mid 188 (.tmp 3) rfl H 0 rfl B _ (rH.out _ o5) underlying188 rfl iA.out.2.1 ?_;refine hK _ _ ?_;clear hK K
       try simp only [Act.put,Yaa,Yab,Yac]
       refine wpAny_ready (rs:=[3]) (by kernel_rfl) (by simp) ?_;refine (AllReady.cons (o:=o0ga) rfl (fun K hK=>?_) AllReady.nil)
       ·rw [if_pos (by rfl)]
        refine Qah 145 #[.tmp 18,.tmp 20] #[188,188] rfl Qbm #[.agg AA.toArray,.agg MM.toArray] (.agg PL'.toArray) (by kernel_rfl) (PL.out _ o5) ?_;intro w6 o6;refine hK _ _ ?_;clear hK K
        try simp only [Act.put,Yaa,Yab,Yac]
        refine wpAny_ready (rs:=[5]) (by kernel_rfl) (by simp) ?_;refine (AllReady.cons (o:=o1ga) rfl (fun K hK=>?_) AllReady.nil)
        ·rw [if_pos (by rfl)]
         refine Qah 171 #[.tmp 21,.tmp 22] #[188,188] rfl Qch #[.agg PL'.toArray,.agg B.toArray] (.agg NN.toArray) (by kernel_rfl) (TI.out _ o6) ?_;intro w7 o7;refine hK _ _ ?_;clear hK K
         try simp only [Act.put,Yaa,Yab,Yac]
         refine wpAny_ready (rs:=[6]) (by kernel_rfl) (by simp) ?_;refine (AllReady.cons (o:=o2ga) rfl (fun K hK=>?_) AllReady.nil)
         ·rw [if_pos (by rfl)]
          refine wp_store_mid 188 (.tmp 5) (.tmp 23) rfl A 0 NN.toArray rfl rfl (tA.out _ o7) iA.out.2.2.1 iA.out.2.2.2 ?_;refine hK _ _ ?_;clear hK K;simp only [Act.put];refine wpAny_done (by kernel_rfl) ?_ _;go_wp2
          go_meet
          case rel=>exact ⟨_,o7,rfl⟩
     ·rw [if_pos (by rfl)]
      refine wp_load_mid 188 (.tmp 3) rfl H 0 rfl B _ (rH.out _ oD) underlying188 rfl iA.out.2.1 ?_;refine hK _ _ ?_;clear hK K
      try simp only [Act.put,Yaa,Yab,Yac]
      refine wpAny_ready (rs:=[2]) (by kernel_rfl) (by simp) ?_;refine (AllReady.cons (o:=o5ga) rfl (fun K hK=>?_) AllReady.nil)
      ·rw [if_pos (by rfl)]
       refine Qah 143 #[.tmp 19] #[22] rfl Qeg #[.slice (some ⟨wr.heap.size,0,none⟩) 17 17] (.agg MM.toArray) (by kernel_rfl) (NU.out _ oD) ?_;intro w5 o5;refine hK _ _ ?_;clear hK K
       try simp only [Act.put,Yaa,Yab,Yac]
       refine wpAny_ready (rs:=[3]) (by kernel_rfl) (by simp) ?_;refine (AllReady.cons (o:=o0ga) rfl (fun K hK=>?_) AllReady.nil)
       ·rw [if_pos (by rfl)]
        refine Qah 145 #[.tmp 18,.tmp 20] #[188,188] rfl Qbm #[.agg AA.toArray,.agg MM.toArray] (.agg PL'.toArray) (by kernel_rfl) (PL.out _ o5) ?_;intro w6 o6;refine hK _ _ ?_;clear hK K
        try simp only [Act.put,Yaa,Yab,Yac]
        refine wpAny_ready (rs:=[5]) (by kernel_rfl) (by simp) ?_;refine (AllReady.cons (o:=o1ga) rfl (fun K hK=>?_) AllReady.nil)
        ·rw [if_pos (by rfl)]
         refine Qah 171 #[.tmp 21,.tmp 22] #[188,188] rfl Qch #[.agg PL'.toArray,.agg B.toArray] (.agg NN.toArray) (by kernel_rfl) (TI.out _ o6) ?_;intro w7 o7;refine hK _ _ ?_;clear hK K
         try simp only [Act.put,Yaa,Yab,Yac]
         refine wpAny_ready (rs:=[6]) (by kernel_rfl) (by simp) ?_;refine (AllReady.cons (o:=o2ga) rfl (fun K hK=>?_) AllReady.nil)
         ·rw [if_pos (by rfl)]
          refine wp_store_mid 188 (.tmp 5) (.tmp 23) rfl A 0 NN.toArray rfl rfl (tA.out _ o7) iA.out.2.2.1 iA.out.2.2.2 ?_;refine hK _ _ ?_;clear hK K;simp only [Act.put];refine wpAny_done (by kernel_rfl) ?_ _;go_wp2
          go_meet
          case rel=>exact ⟨_,o7,rfl⟩
    ·rw [if_pos (by rfl)]
     refine Qah 143 #[.tmp 19] #[22] rfl Qeg #[.slice (some ⟨wr.heap.size,0,none⟩) 17 17] (.agg MM.toArray) (by kernel_rfl) (NU.out _ oD) ?_;intro w5 o5;refine hK _ _ ?_;clear hK K
     try simp only [Act.put,Yaa,Yab,Yac]
     refine wpAny_ready (rs:=[0,4]) (by kernel_rfl) (by simp) ?_;refine (AllReady.cons (o:=o4ga) rfl (fun K hK=>?_) (AllReady.cons (o:=o3ga) rfl (fun K hK=>?_) AllReady.nil))
     ·rw [if_pos (by rfl)]
      refine wp_load_mid 188 (.tmp 5) rfl A 0 rfl AA _ (rA.out _ o5) underlying188 rfl iA.out.1 ?_;refine hK _ _ ?_;clear hK K
      try simp only [Act.put,Yaa,Yab,Yac]
      refine wpAny_ready (rs:=[3,4]) (by kernel_rfl) (by simp) ?_;refine (AllReady.cons (o:=o0ga) rfl (fun K hK=>?_) (AllReady.cons (o:=o3ga) rfl (fun K hK=>?_) AllReady.nil))
      ·rw [if_pos (by rfl)]
       refine Qah 145 #[.tmp 18,.tmp 20] #[188,188] rfl Qbm #[.agg AA.toArray,.agg MM.toArray] (.agg PL'.toArray) (by kernel_rfl) (PL.out _ o5) ?_;intro w6 o6;refine hK _ _ ?_;clear hK K
       try simp only [Act.put,Yaa,Yab,Yac]
       refine wpAny_ready (rs:=[4]) (by kernel_rfl) (by simp) ?_;refine (AllReady.cons (o:=o3ga) rfl (fun K hK=>?_) AllReady.nil)
       ·rw [if_pos (by rfl)]
        refine wp_load_mid 188 (.tmp 3) rfl H 0 rfl B _ (rH.out _ o6) underlying188 rfl iA.out.2.1 ?_;refine hK _ _ ?_;clear hK K
        try simp only [Act.put,Yaa,Yab,Yac]
        refine wpAny_ready (rs:=[5]) (by kernel_rfl) (by simp) ?_;refine (AllReady.cons (o:=o1ga) rfl (fun K hK=>?_) AllReady.nil)
        ·rw [if_pos (by rfl)]
         refine Qah 171 #[.tmp 21,.tmp 22] #[188,188] rfl Qch #[.agg PL'.toArray,.agg B.toArray] (.agg NN.toArray) (by kernel_rfl) (TI.out _ o6) ?_;intro w7 o7;refine hK _ _ ?_;clear hK K
         try simp only [Act.put,Yaa,Yab,Yac]
         refine wpAny_ready (rs:=[6]) (by kernel_rfl) (by simp) ?_;refine (AllReady.cons (o:=o2ga) rfl (fun K hK=>?_) AllReady.nil)
         ·rw [if_pos (by rfl)]
          refine wp_store_mid 188 (.tmp 5) (.tmp 23) rfl A 0 NN.toArray rfl rfl (tA.out _ o7) iA.out.2.2.1 iA.out.2.2.2 ?_;refine hK _ _ ?_;clear hK K;simp only [Act.put];refine wpAny_done (by kernel_rfl) ?_ _;go_wp2
          go_meet
          case rel=>exact ⟨_,o7,rfl⟩
      ·rw [if_pos (by rfl)]
       refine wp_load_mid 188 (.tmp 3) rfl H 0 rfl B _ (rH.out _ o5) underlying188 rfl iA.out.2.1 ?_;refine hK _ _ ?_;clear hK K
       try simp only [Act.put,Yaa,Yab,Yac]
       refine wpAny_ready (rs:=[3]) (by kernel_rfl) (by simp) ?_;refine (AllReady.cons (o:=o0ga) rfl (fun K hK=>?_) AllReady.nil)
       ·rw [if_pos (by rfl)]
        refine Qah 145 #[.tmp 18,.tmp 20] #[188,188] rfl Qbm #[.agg AA.toArray,.agg MM.toArray] (.agg PL'.toArray) (by kernel_rfl) (PL.out _ o5) ?_;intro w6 o6;refine hK _ _ ?_;clear hK K
        try simp only [Act.put,Yaa,Yab,Yac]
        refine wpAny_ready (rs:=[5]) (by kernel_rfl) (by simp) ?_;refine (AllReady.cons (o:=o1ga) rfl (fun K hK=>?_) AllReady.nil)
        ·rw [if_pos (by rfl)]
         refine Qah 171 #[.tmp 21,.tmp 22] #[188,188] rfl Qch #[.agg PL'.toArray,.agg B.toArray] (.agg NN.toArray) (by kernel_rfl) (TI.out _ o6) ?_;intro w7 o7;refine hK _ _ ?_;clear hK K
         try simp only [Act.put,Yaa,Yab,Yac]
         refine wpAny_ready (rs:=[6]) (by kernel_rfl) (by simp) ?_;refine (AllReady.cons (o:=o2ga) rfl (fun K hK=>?_) AllReady.nil)
         ·rw [if_pos (by rfl)]
          refine wp_store_mid 188 (.tmp 5) (.tmp 23) rfl A 0 NN.toArray rfl rfl (tA.out _ o7) iA.out.2.2.1 iA.out.2.2.2 ?_;refine hK _ _ ?_;clear hK K;simp only [Act.put];refine wpAny_done (by kernel_rfl) ?_ _;go_wp2
          go_meet
          case rel=>exact ⟨_,o7,rfl⟩
     ·rw [if_pos (by rfl)]
      refine wp_load_mid 188 (.tmp 3) rfl H 0 rfl B _ (rH.out _ o5) underlying188 rfl iA.out.2.1 ?_;refine hK _ _ ?_;clear hK K
      try simp only [Act.put,Yaa,Yab,Yac]
      refine wpAny_ready (rs:=[0]) (by kernel_rfl) (by simp) ?_;refine (AllReady.cons (o:=o4ga) rfl (fun K hK=>?_) AllReady.nil)
      ·rw [if_pos (by rfl)]
       refine wp_load_mid 188 (.tmp 5) rfl A 0 rfl AA _ (rA.out _ o5) underlying188 rfl iA.out.1 ?_;refine hK _ _ ?_;clear hK K
       try simp only [Act.put,Yaa,Yab,Yac]
       refine wpAny_ready (rs:=[3]) (by kernel_rfl) (by simp) ?_;refine (AllReady.cons (o:=o0ga) rfl (fun K hK=>?_) AllReady.nil)
       ·rw [if_pos (by rfl)]
        refine Qah 145 #[.tmp 18,.tmp 20] #[188,188] rfl Qbm #[.agg AA.toArray,.agg MM.toArray] (.agg PL'.toArray) (by kernel_rfl) (PL.out _ o5) ?_;intro w6 o6;refine hK _ _ ?_;clear hK K
        try simp only [Act.put,Yaa,Yab,Yac]
        refine wpAny_ready (rs:=[5]) (by kernel_rfl) (by simp) ?_;refine (AllReady.cons (o:=o1ga) rfl (fun K hK=>?_) AllReady.nil)
        ·rw [if_pos (by rfl)]
         refine Qah 171 #[.tmp 21,.tmp 22] #[188,188] rfl Qch #[.agg PL'.toArray,.agg B.toArray] (.agg NN.toArray) (by kernel_rfl) (TI.out _ o6) ?_;intro w7 o7;refine hK _ _ ?_;clear hK K
         try simp only [Act.put,Yaa,Yab,Yac]
         refine wpAny_ready (rs:=[6]) (by kernel_rfl) (by simp) ?_;refine (AllReady.cons (o:=o2ga) rfl (fun K hK=>?_) AllReady.nil)
         ·rw [if_pos (by rfl)]
          refine wp_store_mid 188 (.tmp 5) (.tmp 23) rfl A 0 NN.toArray rfl rfl (tA.out _ o7) iA.out.2.2.1 iA.out.2.2.2 ?_;refine hK _ _ ?_;clear hK K;simp only [Act.put];refine wpAny_done (by kernel_rfl) ?_ _;go_wp2
          go_meet
          case rel=>exact ⟨_,o7,rfl⟩
    ·rw [if_pos (by rfl)]
     refine wp_load_mid 188 (.tmp 3) rfl H 0 rfl B _ (rH.out _ oD) underlying188 rfl iA.out.2.1 ?_;refine hK _ _ ?_;clear hK K
     try simp only [Act.put,Yaa,Yab,Yac]
     refine wpAny_ready (rs:=[0,2]) (by kernel_rfl) (by simp) ?_;refine (AllReady.cons (o:=o4ga) rfl (fun K hK=>?_) (AllReady.cons (o:=o5ga) rfl (fun K hK=>?_) AllReady.nil))
     ·rw [if_pos (by rfl)]
      refine wp_load_mid 188 (.tmp 5) rfl A 0 rfl AA _ (rA.out _ oD) underlying188 rfl iA.out.1 ?_;refine hK _ _ ?_;clear hK K
      try simp only [Act.put,Yaa,Yab,Yac]
      refine wpAny_ready (rs:=[2]) (by kernel_rfl) (by simp) ?_;refine (AllReady.cons (o:=o5ga) rfl (fun K hK=>?_) AllReady.nil)
      ·rw [if_pos (by rfl)]
       refine Qah 143 #[.tmp 19] #[22] rfl Qeg #[.slice (some ⟨wr.heap.size,0,none⟩) 17 17] (.agg MM.toArray) (by kernel_rfl) (NU.out _ oD) ?_;intro w5 o5;refine hK _ _ ?_;clear hK K
       try simp only [Act.put,Yaa,Yab,Yac]
       refine wpAny_ready (rs:=[3]) (by kernel_rfl) (by simp) ?_;refine (AllReady.cons (o:=o0ga) rfl (fun K hK=>?_) AllReady.nil)
       ·rw [if_pos (by rfl)]
        refine Qah 145 #[.tmp 18,.tmp 20] #[188,188] rfl Qbm #[.agg AA.toArray,.agg MM.toArray] (.agg PL'.toArray) (by kernel_rfl) (PL.out _ o5) ?_;intro w6 o6;refine hK _ _ ?_;clear hK K
        try simp only [Act.put,Yaa,Yab,Yac]
        refine wpAny_ready (rs:=[5]) (by kernel_rfl) (by simp) ?_;refine (AllReady.cons (o:=o1ga) rfl (fun K hK=>?_) AllReady.nil)
        ·rw [if_pos (by rfl)]
         refine Qah 171 #[.tmp 21,.tmp 22] #[188,188] rfl Qch #[.agg PL'.toArray,.agg B.toArray] (.agg NN.toArray) (by kernel_rfl) (TI.out _ o6) ?_;intro w7 o7;refine hK _ _ ?_;clear hK K
         try simp only [Act.put,Yaa,Yab,Yac]
         refine wpAny_ready (rs:=[6]) (by kernel_rfl) (by simp) ?_;refine (AllReady.cons (o:=o2ga) rfl (fun K hK=>?_) AllReady.nil)
         ·rw [if_pos (by rfl)]
          refine wp_store_mid 188 (.tmp 5) (.tmp 23) rfl A 0 NN.toArray rfl rfl (tA.out _ o7) iA.out.2.2.1 iA.out.2.2.2 ?_;refine hK _ _ ?_;clear hK K;simp only [Act.put];refine wpAny_done (by kernel_rfl) ?_ _;go_wp2
          go_meet
          case rel=>exact ⟨_,o7,rfl⟩
     ·rw [if_pos (by rfl)]
      refine Qah 143 #[.tmp 19] #[22] rfl Qeg #[.slice (some ⟨wr.heap.size,0,none⟩) 17 17] (.agg MM.toArray) (by kernel_rfl) (NU.out _ oD) ?_;intro w5 o5;refine hK _ _ ?_;clear hK K
      try simp only [Act.put,Yaa,Yab,Yac]
      refine wpAny_ready (rs:=[0]) (by kernel_rfl) (by simp) ?_;refine (AllReady.cons (o:=o4ga) rfl (fun K hK=>?_) AllReady.nil)
      ·rw [if_pos (by rfl)]
       refine wp_load_mid 188 (.tmp 5) rfl A 0 rfl AA _ (rA.out _ o5) underlying188 rfl iA.out.1 ?_;refine hK _ _ ?_;clear hK K
       try simp only [Act.put,Yaa,Yab,Yac]
       refine wpAny_ready (rs:=[3]) (by kernel_rfl) (by simp) ?_;refine (AllReady.cons (o:=o0ga) rfl (fun K hK=>?_) AllReady.nil)
       ·rw [if_pos (by rfl)]
        refine Qah 145 #[.tmp 18,.tmp 20] #[188,188] rfl Qbm #[.agg AA.toArray,.agg MM.toArray] (.agg PL'.toArray) (by kernel_rfl) (PL.out _ o5) ?_;intro w6 o6;refine hK _ _ ?_;clear hK K
        try simp only [Act.put,Yaa,Yab,Yac]
        refine wpAny_ready (rs:=[5]) (by kernel_rfl) (by simp) ?_;refine (AllReady.cons (o:=o1ga) rfl (fun K hK=>?_) AllReady.nil)
        ·rw [if_pos (by rfl)]
         refine Qah 171 #[.tmp 21,.tmp 22] #[188,188] rfl Qch #[.agg PL'.toArray,.agg B.toArray] (.agg NN.toArray) (by kernel_rfl) (TI.out _ o6) ?_;intro w7 o7;refine hK _ _ ?_;clear hK K
         try simp only [Act.put,Yaa,Yab,Yac]
         refine wpAny_ready (rs:=[6]) (by kernel_rfl) (by simp) ?_;refine (AllReady.cons (o:=o2ga) rfl (fun K hK=>?_) AllReady.nil)
         ·rw [if_pos (by rfl)]
          refine wp_store_mid 188 (.tmp 5) (.tmp 23) rfl A 0 NN.toArray rfl rfl (tA.out _ o7) iA.out.2.2.1 iA.out.2.2.2 ?_;refine hK _ _ ?_;clear hK K;simp only [Act.put];refine wpAny_done (by kernel_rfl) ?_ _;go_wp2
          go_meet
          case rel=>exact ⟨_,o7,rfl⟩
   case rest =>
    obtain ⟨V,oV,rfl⟩:=hcut;have fin:=Qaa (FIN.out V oV);clear rA rH iA tA FIN TI PL NU;obtain ⟨W9,hW9⟩:∃W9,W9=V.setCells A 0 NN:=⟨_,rfl⟩;rw [←hW9] at fin ⊢;clear hW9 oV
    by_cases hcq:cap=q
    ·subst hcq
     have hmq:m=cap:=by omega
     subst hmq;have C:=Qaa (HBW.out.cut0 (n:=m) (Nat.le_refl _));rw [List.drop_drop,Nat.sub_self] at C
     have E8:Hid (xs.drop (16*k+m)=xs.drop (16*(k+1))∧16*(k+1)≤n+15∧0<m):=by
      have h1:=HM.out;have h2:=HQ.out;refine ⟨?_,by omega,by omega⟩;rw [List.drop_of_length_le (by have:=HN.out;omega),List.drop_of_length_le (by have:=HN.out;omega)]
     rw [E8.out.1] at C;go_wp2
     go_roundw
     case rel=>exact ⟨k+1,C.out,E8.out.2.1,fin.out⟩
     case measure =>
      have:=E8.out.2.2;simp only [pslen];omega
    ·have C:=Qaa (HBW.out.cut (n:=q) (by omega))
     rw [List.drop_drop] at C
     have E8:Hid (xs.drop (16*k+q)=xs.drop (16*(k+1))∧16*(k+1)≤n+15∧0<m∧0<q):=by
      have h1:=HM.out;have h2:=HQ.out;refine ⟨?_,by omega,by omega,by omega⟩
      by_cases h16:q=16
      ·rw [h16,show 16*k+16=16*(k+1) by omega]
      ·rw [List.drop_of_length_le (by have:=HN.out;omega),List.drop_of_length_le (by have:=HN.out;omega)]
     rw [E8.out.1] at C
     have i5:¬(cap:Int)=(q:Int):=by omega
     go_wp2
     go_roundw
     case rel=>exact ⟨k+1,C.out,E8.out.2.1,fin.out⟩
     case measure =>
      have:=E8.out.2.2;simp only [pslen];omega
  ·have hm0:(xs.drop (16*k)).length=0:=by omega
   rw [hm0]
   have hkk:k=(n+15) / 16:=by omega
   have S2:Hid (Blk wr A 188 D):=by
    have h:=k3;rw [hkk,HN.out,←HD.out.1] at h;exact h
   have R2:=Qaa k2;have O2:=Qaa k4;clear k1 k2 k3 k4 hkk hlen hcp hbs hbw hm0;go_wp2_with (first|(refine wpList_load_row rfl 188 (.tmp 5) rfl A rfl 188 D.toArray (0,0) _ S2.out underlying188 rfl HZ1.out.1 ?_)|(refine wpList_store_row rfl 188 (.tmp 4) (.tmp 27) rfl R D.toArray rfl rfl 188 Z.toArray R2.out HZ1.out.1 HZ1.out.2.1 HZ1.out.2.2 ?_));refine bodyPost_ret (v:=.agg D.toArray) (results_cell_row rfl _ _ R 188 D.toArray (0,0) _ rfl (R2.out.row D) underlying188 rfl HZ1.out.1) rfl ⟨rfl,?_⟩;exact O2.out.setRow (fun h=>absurd h (by have:=HG.out.2.1;omega)) _
theorem QbV {o:Oper} {a:Act} {W:World} {K:Act→World→Prop} {Q:Exit→Act→World→Prop} (ho:o.op=.alloc 188)
  (h:K (a.put o.dst (.pointer (some ⟨W.heap.size,0,none⟩))) (W.alloc (.cells z5.toArray 188))):Oper.wp prog o a W K Q:=by
 unfold Oper.wp execOp;have hzv:=(zero_of_info (P:=prog) Tryz.zero34).1;simp [ho,Instr.alloc,hzv,go_sem];exact h
theorem Qnu (vs:Array Value) (W:World):(callFunc 147 vs).run prog W=.ok (.enter 147 vs) W:=by kernel_rfl
theorem Qiw (vs:Array Value) (W:World):(callFunc 146 vs).run prog W=.ok (.enter 146 vs) W:=by kernel_rfl
theorem QeN (vs:Array Value) (W:World):(callFunc 144 vs).run prog W=.ok (.enter 144 vs) W:=by kernel_rfl
end Go.Proofs.YtnhapmboienipaaGreatDoor
