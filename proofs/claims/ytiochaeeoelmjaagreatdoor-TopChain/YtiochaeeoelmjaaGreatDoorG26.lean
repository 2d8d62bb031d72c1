import Derived.Test.YtiochaeeoelmjaaGreatDoorG24
import Derived.Test.YtiochaeeoelmjaaGreatDoorG25
namespace Go.Proofs.YtiochaeeoelmjaaGreatDoor
set_option maxHeartbeats 4000000
set_option maxRecDepth 100000
open Go.RowKit _root_.Go.Proofs.Tryz
theorem Vr {m:LI} (h:m.length=32):Yc m (0,[]) 1 []=0:=by
 unfold Yc Ug;rw[if_pos (c:=m.length=32∧Kc (0,[])∧1≠18446744073709551615) ⟨h,.inl rfl,by decide⟩]
 rfl
theorem Gg:∀c∈([]:List Qj),CG c:=λc h=>by cases h
theorem AR1_m (m:LI):QD m [] 1 []=⟨1,List.replicate 32 0,[],QG []⟩:=rfl
theorem pZ {m:LI} (h:m.length=32):(Q9 m (0,[]) 1 []).length=111:=by
 have e1:(MENC (QD m [] 1 [])).length=78:=by
  rw[AR1_m];have e2:QC ⟨1,List.replicate 32 0,[],QG []⟩=[]:=List.eq_nil_of_length_eq_zero (by have:=Zy ⟨1,List.replicate 32 0,[],QG []⟩;simpa using this)
  have e3:(gs 0).length=1:=by rw[UJ (by omega)];rfl
  unfold MENC;rw[e2];simp only[Qb,Qv,List.length_replicate,List.length_nil,List.map_nil,List.flatten_nil,Um,Q6,Qk,e3]
 have e4:(QJ m (0,[]) 1 []).length=110:=by unfold QJ;rw[Qb,Y6];show (MENC (QD m [] 1 [])).length+32=_;rw[e1]
 unfold Q9;rw[if_pos (Vr h),Qb];unfold blk;rw[Qb,e4,UJ (by omega)]
 rfl
theorem OO {m:LI} (h:m.length=32):Wa m (1,QG []) (QD m [] 1 []) (QJ m (0,[]) 1 [])=0:=by
 unfold Wa;rw[if_pos (Hp (s:=(0,[])) (by decide) (λy hy=>by cases hy) Gg (Vr h)),AR1_m];simp
theorem FO (w:World) (hT:Tab w):Calls prog 6 #[] w λe w'=>e=.returned (.bool true)∧N0 w w':=by
 have h3:U8 []:=λy hy=>by cases hy
 have k8:=Sv 1;have h0:=Mx 1;obtain⟨K,hK⟩:=EX (Va 1);have KA:=Qa (λW=>Tn 1 W);rw[<-hK] at k8 h0;simp only[<-hK] at KA;have BD:=Qa (λ(W:World) (v:Value) (o:N0 w W) (b:Bs .u8 W v K)=>PM v NIL NIL K [] 0 1 [] W b k8 (Bs.nil _ _) NoCap.nil h3 ⟨_,0,rfl,Nat.le_refl _,λh=>absurd rfl h⟩ (λc h=>by cases h) (by simp) (by decide) (hT.past o));have ha:=X9 (m:=K) (s:=(0,[])) (v:=1) (by decide) h3 Gg (by simp) (Vr h0);have h8:=AR_u8 (m:=K) (s:=(0,[])) (v:=1) (by decide) h3 Gg (Vr h0);have h2:=pZ h0;have OP:=Qa (λ(W:World) (vk vt vb:Value) (bk:Bs .u8 W vk K) (bt:Bs .u8 W vt (QG [])) (bb:Bs .u8 W vb (Q9 K (0,[]) 1 []))=>Pr vk vt vb K (QG []) _ _ 1 _ _ [] W bk k8 bt (Zn _) bb h8.2 (by rw[h2];omega) h0 (.inr (Um _)) ha (λx hx=>by cases hx) (by simp[QI]) rfl (OO h0) (ye _ _ _));have e1:UP K (0,[]) 1 []=(1,QG []):=if_pos (Vr h0);simp only[Vr h0,e1,show ((0:Nat):Int)=0 from rfl,show ((1:Nat):Int)=1 from rfl] at BD;simp only[show (QD K [] 1 []).ver=1 from rfl,show (QD K [] 1 []).root=QG [] from rfl,show ((1:Nat):Int)=1 from rfl] at OP;obtain⟨A,hA⟩:=EX (Q9 K (0,[]) 1 []);obtain⟨R,hR⟩:=EX (QG []);simp only[<-hA,<-hR] at BD OP;rw[<-hA] at h2;have HL:=Qa h2;have HK:=Qa h0;clear ha h8 h2 e1 hA hR hT h3 hK k8 h0;go_enter func6,ntmps6;go_wp2_with fail;refine (KA.o w).mono ?_;rintro e w0 ⟨rfl,h5,o0⟩;have h9:=Qa (BD.o w0 _ o0 (h5.bs 32 HK.o));have O0:=Qa o0;clear h5 o0 BD;go_wp2_with fail;refine h9.o.mono ?_;rintro e w1 ⟨u,ru,rfl,bu⟩;obtain⟨au,cu,rfl⟩:=(Bs.of_own (k:=.u8) (E:=5) bu.t).len;obtain⟨ar,cr,rfl⟩:=bu.r.len;obtain⟨W2,h1⟩:=EX (w1.alloc (.cells #[.int .u64 1,.slice ar R.length cr] 31))
 have o2:N0 w1 W2:=by rw[h1];exact VG.alloc _
 have g2:=show W2.heap[w1.heap.size]? = some (.cells #[.int .u64 1,.slice ar R.length cr] 31 (0,0)) by rw[h1];exact heap_alloc_new _ _
 obtain⟨c0,c1,_,_⟩:=Qs g2;have H2:=Qa (Vz (O0.o.same (bu.o.same o2)) (Vz g2 (Vz (bu.r.past o2) ((Bs.of_own (k:=.u8) (E:=5) bu.t).past o2))));have h6:=Qa h1;clear bu o2 g2 h9 O0 h1;go_wp2_with fail;rw[<-h6.o];obtain⟨M,hM⟩:=EX w1.heap.size;rw[<-hM] at H2 c0 c1 ⊢;have KS:=Qa (λ(W:World) (o:Only (λk=>¬k=M) W2 W)=>(show W.cell? ⟨M,0,none⟩=some (.int .u64 1)∧W.cell? ⟨M,1,none⟩=some (.slice ar R.length cr) from have h:=Qs (o.heap H2.o.2.1 (λf=>f rfl));⟨h.1,h.2.1⟩));have hM2:M<W2.heap.size:=(Array.getElem?_eq_some_iff.1 H2.o.2.1).1;have CR:Hid (N0 W2 W2.drew):=VG.drew;clear h6 hM
 go_region_held3 (λW'=>W'.cell? ⟨M,0,none⟩=some (.int .u64 1)∧W'.cell? ⟨M,1,none⟩=some (.slice ar R.length cr))
  (first | assumption | exact KS.o _ (CR.o.mono (λ_ _ f=>f.elim)) | exact KS.o _ ((CR.o.alloc _).mono (λ_ _ f=>f.elim)) | exact KS.o _ (((CR.o.mono (T:=λk=>¬k=M) (λ_ _ f=>f.elim)).setCell (p:=⟨_,0,none⟩) (λ_=>by simp only;omega) _).setCell (p:=⟨_,1,none⟩) (λ_=>by simp only;omega) _))
  (first|(go_at_call 7;refine (KA.o _).mono ?_;rintro e w4 ⟨rfl,h4,o4⟩;(first|(have g4:=Qa (o4.heap (heap_alloc_new W2.drew _) (λf=>f));have CR:=Qa ((CR.o.alloc _).same o4)) | have CR:=Qa (CR.o.same o4));have hz:=Nat.lt_of_lt_of_le hM2 CR.o.size;have hz4:=CR.o.size;(first | have B4:Hid (Bs .u8 w4 (.slice (some ⟨W2.heap.size,0,none⟩) 32 32) K):=h4.bs 32 HK.o | have B4:Hid (Bs .u8 w4 (.slice (some ⟨W2.heap.size+1,0,none⟩) 32 32) K):=(by have h:=h4.bs 32 HK.o;have e:(W2.alloc (.cells #[.int .u64 0,.slice none 0 0] 31)).heap.size=W2.heap.size+1:=Array.size_push ..;show Bs _ _ _ _;rw[<-e];exact h));clear h4 o4)|(go_at_call 17;refine (OP.o _ _ _ _ (by first | exact B4.o | exact B4.o.past (VG.alloc _)) (H2.o.2.2.1.past (by first | exact CR.o | exact CR.o.alloc _)) (H2.o.2.2.2.past (by first | exact CR.o | exact CR.o.alloc _))).mono ?_;rintro e w5 ⟨c,rv,rfl,hb,h7,_,o5⟩;(first|(have CR:=Qa (CR.o.same o5);have g5:w5.heap[W2.heap.size]? = some (.cells #[.int .u64 0,.slice none 0 0] 31 (0,0)):=o5.heap g4.o (λf=>f);obtain⟨_,_,_,_⟩:=Qs g5)|(have CR:=Qa ((CR.o.alloc _).same o5);have g5:=o5.heap (heap_alloc_new w4 _) (λf=>f);obtain⟨_,_,_,_⟩:=Qs g5) | have CR:=Qa (CR.o.same o5));(obtain⟨ac,cc,rfl,_⟩:=hb.len);(obtain⟨av,cv,rfl⟩:=h7.len);clear hb h7 o5 OP))
 all_goals
  have l1:(A.length:Int)=111:=by rw[HL.o];rfl
  go_wp2;go_ret;refine⟨rfl,H2.o.1.same ?_⟩
  first
  | exact CR.o.alloc _
  | exact (CR.o.setCell (p:=⟨_,0,none⟩) (λh=>absurd h (by simp only;omega)) _).setCell (p:=⟨_,1,none⟩) (λh=>absurd h (by simp only;omega)) _
  | exact ((CR.o.alloc _).setCell (p:=⟨_,0,none⟩) (λh=>absurd h (by have:=CR.o.size;simp only;omega)) _).setCell (p:=⟨_,1,none⟩) (λh=>absurd h (by have:=CR.o.size;simp only;omega)) _
end Go.Proofs.YtiochaeeoelmjaaGreatDoor
