import Derived.Test.YtoflhbghdlaeaaaGreatDoorG18
namespace Go.Proofs.YtoflhbghdlaeaaaGreatDoor
set_option maxHeartbeats 4000000
set_option maxRecDepth 100000
open Go.RowKit _root_.Go.Proofs.Tryz
variable {w w' W:World} {v:Value} {ys xs l:LI} {R n p k g B:Nat} {P:Program} {ls:List (LI)} {E:TypeId}
section
open Go.Maps
theorem law9:Keyed prog 9:=string_keyed underlying9
theorem AH (w:World):(zeroValue 3).run prog w=.ok (.int .i64 0) w:=by kernel_rfl
theorem RU {y:Nat} (h:y<=1048576):(Lit.int .i64 (y:Int)).wf=true:=by
 have e1:IntKind.i64.min=-9223372036854775808:=by decide
 have e2:IntKind.i64.max=9223372036854775807:=by decide
 simp only[Lit.wf,e1,e2,Bool.and_eq_true,decide_eq_true_eq];omega
structure TMap (w wr:World) (es:List (LI × Int)) (k:Nat):Prop where
 map:∃D,wr.ownsMap prog 9 (plainElem (H:=Unit) prog 3) w.heap.size k D∧HasT D ((es.map Prod.fst).take k)
 on:N0 w wr
theorem Fi (es:List (LI × Int)) (k:Nat) (h:k<es.length):(es.map Prod.fst).take (k+1)=(es.map Prod.fst).take k++[(es.getD k ([],0)).1]:=by
 rw[List.take_succ_eq_append_getElem (by simpa using h),List.getElem_map,Qd,Qg h]
 rfl
theorem Tt (v:Value) (es:List (LI × Int)) (w:World) (h:Ens w v es) (hu:VM es) (hl:es.length<=1048576) (hx:∀e∈es,e.1.length<=maxLen) :
 Calls prog 124 #[v] w λe w'=>e=.returned (.map (some w.heap.size))∧TMap w w' es es.length:=by
 have hmm:=@run_makeMap prog;obtain⟨ao,cap,rfl⟩:=h.len;have HB:=Qa h;have HU:=Qa hu;have HX:=Qa hx;obtain⟨m,hm⟩:=EX es.length;rw[<-hm] at HB hl;rw[<-hm];have HM:=Qa hm
 have F0:Hid (TMap w (w.alloc (.map #[] 0)) es 0) :=
  ⟨⟨_,World.ownsMap_made _ _ _ _,λx _=>by simp[Maps.has]⟩,(Only.refl _ _).alloc _⟩
 clear h hm hu hx;go_enter func124,ntmps124;go_wp2
 go_loopw [9] (λi wr=>∃k:Nat,k<=m∧i=.int .i64 k∧TMap w wr es k) (λi _=>m - (intOf i).toNat)
 case atStart=>exact⟨0,Nat.zero_le _,rfl,F0.o⟩
 case round =>
  clear F0;obtain⟨k,hk,rfl,⟨D,h0,hT⟩,h3⟩:=hrel
  by_cases hlt:k<m
  ·have h1:k<es.length:=by rw[<-HM.o];exact hlt
   obtain⟨b,off,cap',e,hc0,hc1⟩:=(HB.o.past h3).at k h1;simp only[Value.slice.injEq] at e;obtain⟨rfl,hmx,rfl⟩:=e;clear hmx;have h2:es.getD k ([],0)∈es:=Ud h1;have ST:=Qa (Fi es k h1);obtain⟨x,hx⟩:=EX (es.getD k ([],0));rw[<-hx] at ST hc0 hc1 h2;have h4:keyOf prog 9 (.string (strOfNums x.1))=some (kS x.1):=J8 underlying9 _ (HX.o x h2);have XU:=Qa (HU.o x h2);have HT:=Qa hT;have HO:=Qa h3
   have i1:(k:Int)<(m:Int):=by omega
   have hlo:=h0.lt;clear hx hT h3 h2 h1 HB
   go_wp2_with (first
    | (at_mapUpdate;refine wpList_mapUpdate_own _ rfl _ _ _ 133 rfl 9 3 law9 underlying133 (plainElem (H:=Unit) prog 3) w.heap.size k _ rfl (h0.alloc _) (by unfold maxLen;omega) _ _ _ rfl rfl h4 _ [] (plainElem_int underlying3 (RU (y:=0) (by omega))) ?_;intro w1 hown1 hgrow1)
    | fail)
   go_roundw
   case rel =>
    refine⟨k+1,by omega,by go_num,⟨_,hown1,?_⟩,(HO.o.alloc _).grown hgrow1 (λj hj e=>by injection e;omega)⟩;rw[ST.o];exact HT.o.put h0.isMap XU.o _
   case measure=>simp[intOf];omega
  ·obtain rfl:k=m:=by omega
   have HF:Hid (TMap w wr es k):=⟨⟨D,h0,hT⟩,h3⟩;clear h0 hT h3;go_wp2;go_ret;exact⟨rfl,HF.o⟩
theorem XB {H:Type} {k:TypeId} {R:Value->Option (DataW H × List MemPlace)} {b n:Nat} {D:DataW H} (h:w.ownsMap P k R b n D) {S:Nat->Prop} (o:Only S w w') (hs:¬S b):w'.ownsMap P k R b n D:=by
 obtain⟨es,h0,hb,F,hl,hD⟩:=h;exact⟨es,h0,o.heap hb hs,F,hl,hD⟩
theorem RIS.apart {T:List (LI)} (h:RIS T) {i j:Nat} (hij:i<j) (hj:j<T.length):T.getD i []≠T.getD j []:=by
 have h1:=List.pairwise_iff_getElem.1 h i j (by omega) hj hij;rw[Qd,Qd,Qg hj,Qg (by omega)];exact ZZ h1
structure TOrd (w wr:World) (T:List (LI)) (vt:Value) (lo N k:Nat):Prop where
 map:∃D,wr.ownsMap prog 9 (plainElem (H:=Unit) prog 3) w.heap.size (N+k) D∧∀j,j<k->∀z,D.atKey (kS (T.getD j [])) z=.lit (.int .i64 (j:Int))
 row:wr.ownsRow lo 9 1 vt T.length (UL T)
 on:N0 w wr
theorem TOrd.at {w wr:World} {T:List (LI)} {vt:Value} {lo N:Nat} (h:TOrd w wr T vt lo N T.length):∃D,wr.ownsMap prog 9 (plainElem (H:=Unit) prog 3) w.heap.size (N+T.length) D∧Py D T:=by
 obtain⟨D,hm,ha⟩:=h.map;refine⟨D,hm,λx hx z=>?_⟩;have:=ha (YU T x) (Wq hx) z;rw[ZF hx] at this;exact this
theorem CP (v:Value) (es:List (LI × Int)) (w:World) (h:Ens w v es) (hu:VM es) (hl:es.length<=1048576) (hx:∀e∈es,e.1.length<=maxLen) :
 Calls prog 83 #[v] w λe w'=>∃vt,e=.returned (.tuple #[vt,.map (some w.heap.size)])∧TOrd w w' (Yl (es.map Prod.fst)) vt (w.heap.size+1) es.length (Yl (es.map Prod.fst)).length:=by
 have A:=Qa (Tt v es w h hu hl hx)
 have HU:Hid (∀x∈es.map Prod.fst,U8 x):=λx hx=>by obtain⟨e,he,rfl⟩:=List.mem_map.1 hx;exact hu e he
 have HX:Hid (∀x∈Yl (es.map Prod.fst),U8 x∧x.length<=maxLen):=λx hx'=>by
  obtain⟨e,he,rfl⟩:=List.mem_map.1 ((UF _ _).1 hx');exact⟨hu e he,hx e he⟩
 have HL:Hid ((Yl (es.map Prod.fst)).length<=es.length):=by have:=Ti (es.map Prod.fst);rw[List.length_map] at this;exact this
 have HR:=Qa (Va (es.map Prod.fst));obtain⟨m,hm⟩:=EX es.length;rw[<-hm] at hl A HL;rw[<-hm]
 have hf:Hid ((es.map Prod.fst).take m=es.map Prod.fst):=by
  rw[hm];have:(es.map Prod.fst).take (es.map Prod.fst).length=es.map Prod.fst:=List.take_length;rw[List.length_map] at this;exact this
 obtain⟨T,h8⟩:=EX (Yl (es.map Prod.fst));have HTT:=Qa h8;rw[<-h8] at HX HL HR;rw[<-h8];clear hm h hu hx h8;go_enter func83,ntmps83;go_wp2_with fail;refine A.o.mono ?_;rintro e w1 ⟨rfl,⟨D,h0,hT⟩,h6⟩;rw[hf.o] at hT;obtain⟨hb,hd,ha⟩:=Rs underlying9 h0;have SZ:=Ld HU.o hT hb hd ha;have SO:=Qa (λss hp=>Pe HU.o hT hb hd (ss:=ss) hp);have HT:=Qa hT;rw[<-HTT.o] at SZ SO;have hlT:=HL.o
 have ms:Maps.size D<=1048576:=by omega
 have C:=Qa (FL w.heap.size m D _ w1 h0 (by unfold maxLen;omega) (by omega));have HO:=Qa h6;have s1:=h0.lt;clear A hT hb hd h6 hf HU;go_wp2_with fail;refine (Mo w.heap.size w1).mono ?_;rintro e w2 ⟨rfl,rfl⟩;go_wp2_with fail;refine C.o.mono ?_;rintro e w3 ⟨vt,ss,rfl,hp,h2,_,ho⟩
 have hg:ss.length=T.length:=by rw[hp.length_eq,ha,SZ]
 have hh:=SO.o ss hp;rw[Fw,hh,hg] at h2;have o3:=Uw ho;have h5:=XB (h0.alloc (.cells #[.map (some w.heap.size)] 133)) o3 (λf=>f);have h3:w3.ownsRow (w.heap.size+1) 9 1 vt T.length (UL T):=Qu h2 (by simp;omega);have F0:Hid (TOrd w w3 T vt (w.heap.size+1) m 0):=⟨⟨D,h5,λj hj=>absurd hj (Nat.not_lt_zero _)⟩,h3,Only.same (HO.o.alloc _) o3⟩;obtain⟨av,cv,ev⟩:=(Sts.of_own h3).len;obtain⟨n,hn⟩:=EX T.length;have HN:=Qa hn;rw[<-hn] at ev hlT;subst ev;clear h0 h5 h2 h3 ho hp hg hh SO C o3 s1 ha SZ HT HO hn ms;go_wp2
 go_loopw [15] (λi wr=>∃k:Nat,k<=n∧i=.int .i64 k∧TOrd w wr T (.slice av n cv) (w.heap.size+1) m k) (λi _=>n - (intOf i).toNat)
 case atStart=>exact⟨0,Nat.zero_le _,rfl,F0.o⟩
 case round =>
  clear F0;obtain⟨k,hk,rfl,⟨D',h0,h9⟩,h2,h6⟩:=hrel
  by_cases hlt:k<n
  ·have h4:k<T.length:=by rw[<-HN.o];exact hlt
   obtain⟨b,off,cap',e,hc0⟩:=(Sts.of_own h2).at k h4;simp only[Value.slice.injEq] at e;obtain⟨rfl,hmx,rfl⟩:=e;clear hmx;obtain⟨xu,xl⟩:=HX.o _ (Ud (s:=T) (d:=[]) h4);have h7:keyOf prog 9 (.string (strOfNums (T.getD k [])))=some (kS (T.getD k [])):=J8 underlying9 _ xl;have BL:=Qa (Az h2 (Nat.lt_succ_self w.heap.size))
   have HA:Hid (∀j,j<k->kS (T.getD j [])≠kS (T.getD k [])):=λj hj=>kS_ne (HX.o _ (Ud (by omega))).1 xu (HR.o.apart hj h4)
   have HAT:=Qa h9;have HRW:=Qa h2;obtain⟨x,hx⟩:=EX (T.getD k []);have HXX:=Qa hx;rw[<-hx] at hc0 h7 HA;have HO:=Qa h6
   have i1:(k:Int)<(n:Int):=by omega
   have IM:=Qa h0.isMap;clear hx h6 h4 xu xl h2 h9
   go_wp2_with (first
    | (at_mapUpdate;refine wpList_mapUpdate_own _ rfl _ _ _ 133 rfl 9 3 law9 underlying133 (plainElem (H:=Unit) prog 3) w.heap.size (m+k) _ rfl h0 (by unfold maxLen;omega) _ _ _ rfl rfl h7 _ [] (plainElem_int underlying3 (RU (y:=k) (by omega))) ?_;intro w1 hown1 hgrow1)
    | fail)
   go_roundw
   case rel =>
    refine⟨k+1,by omega,by go_num,⟨_,hown1,λj hj z=>?_⟩,HRW.o.kept hgrow1 (Or.inr BL.o.symm),HO.o.grown hgrow1 (λj hj e=>by injection e;omega)⟩
    rcases Nat.lt_succ_iff_lt_or_eq.1 hj with h1 | rfl
    ·rw[atKey_put_other (HA.o j h1)]
     exact HAT.o j h1 z
    ·rw[<-HXX.o,atKey_put_same IM.o (Rh x)]
   case measure=>simp[intOf];omega
  ·obtain rfl:k=n:=by omega
   have HF:Hid (TOrd w wr T (.slice av k cv) (w.heap.size+1) m k):=⟨⟨D',h0,h9⟩,h2,h6⟩;clear h0 h9 h2 h6;go_wp2;go_ret2;exact⟨_,rfl,by rw[<-HN.o];exact HF.o⟩
end
section
open Go.Maps
theorem Tryz.sizeMf:(prog.info? 37).map (·.size)=some 4:=by kernel_rfl
theorem Yt {b:Nat} {x0 x1 x2 x3:Value} (h:W.heap[b]? = some (.cells #[x0,x1,x2,x3] 37 (0,0))):(loadVar 37 ⟨b,0,none⟩).run prog W=.ok (.agg #[x0,x1,x2,x3]) W :=
 run_loadVar_row W b 37 37 _ (0,0) _ h underlying37 rfl Tryz.sizeMf
theorem QY {x0 x1 x2 x3:Value} (h:W.heap[B]? = some (.cells #[x0,x1,x2,x3] E (0,0))):(W.cell? ⟨B,0,none⟩=some x0∧W.cell? ⟨B,1,none⟩=some x1∧W.cell? ⟨B,2,none⟩=some x2∧W.cell? ⟨B,3,none⟩=some x3)∧(W.frozen? ⟨B,0,none⟩=false∧W.frozen? ⟨B,1,none⟩=false∧W.frozen? ⟨B,2,none⟩=false∧W.frozen? ⟨B,3,none⟩=false) :=
 ⟨⟨by simp[World.cell?,h],by simp[World.cell?,h],by simp[World.cell?,h],by simp[World.cell?,h]⟩,by simp[World.frozen?,h],by simp[World.frozen?,h],by simp[World.frozen?,h],by simp[World.frozen?,h]⟩
theorem put4 {x0 x1 x2 x3:Value} (h:W.heap[B]? = some (.cells #[x0,x1,x2,x3] E (0,0))) (y0 y1 y2 y3:Value) :
 ((((W.setCell ⟨B,0,none⟩ y0).setCell ⟨B,1,none⟩ y1).setCell ⟨B,2,none⟩ y2).setCell ⟨B,3,none⟩ y3).heap[B]? = some (.cells #[y0,y1,y2,y3] E (0,0))∧Only (λk=>k=B) W ((((W.setCell ⟨B,0,none⟩ y0).setCell ⟨B,1,none⟩ y1).setCell ⟨B,2,none⟩ y2).setCell ⟨B,3,none⟩ y3):=by
 have g1:=heap_setCell_same W B 0 _ _ y0 h;have g2:=heap_setCell_same _ B 1 _ _ y1 g1;have g3:=heap_setCell_same _ B 2 _ _ y2 g2;have g4:=heap_setCell_same _ B 3 _ _ y3 g3;exact⟨by simpa using g4,((((Only.refl (λk=>k=B) W).setCell (p:=⟨B,0,none⟩) (λ_=>rfl) _).setCell (p:=⟨B,1,none⟩) (λ_=>rfl) _).setCell (p:=⟨B,2,none⟩) (λ_=>rfl) _).setCell (p:=⟨B,3,none⟩) (λ_=>rfl) _⟩
theorem Ga (h:ys.length<n):YG (n:Int) ys=([],0,2):=by unfold YG;rw[if_neg (by omega),if_pos (by omega)]
theorem KT (h:¬ys.length<n):YG (n:Int) ys=(ys.take n,n,0):=by unfold YG;rw[if_neg (by omega),if_neg (by omega),Int.toNat_natCast]
theorem ur (h:ys.length<8):Y6 8 ys=(0,0,2):=by unfold Y6;rw[if_neg (by omega),if_pos (by omega)]
theorem GK (h:¬ys.length<8):Y6 8 ys=((num (ys.take 8):Int),8,0):=by unfold Y6;rw[if_neg (by omega),if_neg (by omega)];rfl
theorem MQ {x:LI} (h:U8 x):((strOfNums x).toList == [67,83,75,49])=decide (x=QW):=by
 rw[show ([67,83,75,49]:List UInt8)=(⟨#[67,83,75,49]⟩:ByteArray).toList by rw[ByteArray.toList_eq],eq_sb,sb_of h];rfl
def RMan (w:World) (R:Nat) (ys:LI) (e:Ending) (w':World):Prop :=
 Only (λk=>k=R) w w'∧((∃c,c≠0∧MDEC ys=.error c∧e=mpan c)∨∃m x vp ve vr,MDEC ys=.ok m∧e=.returned x∧Mf w' x m vp ve vr∧NoCap vp∧NoCap vr∧(∀k,vp.ownBlock=some k->w.heap.size<=k)∧(∀k,vr.ownBlock=some k->w.heap.size<=k)∧(∀k,ve.ownBlock=some k->w.heap.size<=k))
theorem kO (h:CurAt 108 w R v ys) (hR:R<w.heap.size) (hvb:∀j,v.ownBlock=some j->j<w.heap.size) :
 Calls prog 97 #[.pointer (some ⟨R,0,none⟩)] w (RMan w R ys):=by
 obtain⟨K,hK⟩:=EX (RMan w R ys);rw[<-hK];have HK:=Qa hK;have HV:=Qa hvb
 have h1:Hid (∀c w',c≠0->MDEC ys=.error c->Only (λj=>j=R) w w'->K (.panicked [{ v:=.iface 27 (.int .i64 c),recovered:=false }]) w'):=by
  intro c w' hc he ho;rw[HK.o];exact⟨ho,.inl ⟨c,hc,he,rfl⟩⟩
 have oa:Only (λj=>j=R) w (w.alloc (.cells #[.int .u64 0,.slice none 0 0,.slice none 0 0,.slice none 0 0] 37)):=(Only.refl _ _).alloc _;have c0:=h.keep (S:=λ_=>False) ((Only.refl _ w).alloc (.cells #[.int .u64 0,.slice none 0 0,.slice none 0 0,.slice none 0 0] 37)) (λf=>f) (λ_ _ f=>f);have G0:=Qa (heap_alloc_new w (.cells #[.int .u64 0,.slice none 0 0,.slice none 0 0,.slice none 0 0] 37));have A:=Qa (Jw c0 ((4:Nat):Int));rw[show ((4:Nat):Int)=4 from rfl] at A;have ha:=h.rng;have kq:=h.len;have OA:=Qa oa;clear h hvb hK oa c0;go_enter func97,ntmps97;go_wp2_with fail;refine A.o.mono ?_;rintro e w1 ⟨v1,rfl,b1,nc1,nb1,vc1,c1,ki,o1⟩
 have hs1:w.heap.size+1<=w1.heap.size:=by have:=o1.size;simpa using this
 have O1:=Qa (OA.o.trans o1 (λi _ e=>e));have G1:=Qa (o1.heap G0.o (λe=>by omega));clear A o1 OA G0 nb1 nc1
 by_cases h4:ys.length<4
 ·rw[show (4:Int)=((4:Nat):Int) from rfl,Ga h4]
  have FN:=Qa (h1.o 2 w1 (by decide) (M1 (qD h4)) O1.o);clear b1 c1;go_wp2_with fail;refine (Zi v1 2 w1 (by decide)).mono ?_;rintro e w' ⟨rfl,rfl⟩;unfold mpan;go_wp2;exact⟨rfl,FN.o⟩
 have e4:=KT (n:=4) h4;rw[show ((4:Nat):Int)=4 from rfl] at e4;rw[e4] at b1 c1;rw[e4];have hcv:=Gv w1 v1 _ b1;have hz:=MQ (x:=ys.take 4) (λy hy=>ha y (List.mem_of_mem_take hy));generalize hx4:ys.take 4=x4 at *;have hm:=Qa hx4;have C1:=Qa (And.intro c1 ki);clear e4 b1 c1 ki hx4;go_wp2_with fail;refine (ZN v1 w1).mono ?_;rintro e w' ⟨rfl,rfl⟩
 by_cases hm4:x4=QW
 ·rw[Qe hm4] at hz
  have H1:=Qa (hd_ok h4 (hm.o.trans hm4));clear hm hm4 h4;go_wp2_with fail;refine (Uf 3 w1).mono ?_;rintro e w' ⟨rfl,rfl⟩;have B:=Qa (Ie C1.o.1 8);obtain⟨y1,hq⟩:=EX (ys.drop 4)
  have kg:∀y∈y1,0<=y∧y<=255:=λy hy=>ha y (by rw[hq] at hy;exact List.mem_of_mem_drop hy)
  rw[<-hq] at B H1;clear hcv hz hq ha;go_wp2_with fail;refine B.o.mono ?_;rintro e w2 ⟨rfl,kd,c2,ka,o2⟩;have hs2:=o2.size;have O2:=Qa (O1.o.trans o2 (λi _ e=>e));have G2:=Qa (o2.heap G1.o (λe=>by omega));have C2:=Qa (And.intro c2 (ka.trans C1.o.2));clear B o2 c2 ka C1 O1 G1
  by_cases h8:y1.length<8
  ·rw[ur h8]
   have FN:=Qa (h1.o 2 w2 (by decide) (M2 H1.o (Cg h8)) O2.o);clear C2;go_wp2_with fail;refine (J7 _ 2 w2 (by decide)).mono ?_;rintro e w' ⟨rfl,rfl⟩;unfold mpan;go_wp2;exact⟨rfl,FN.o⟩
  rw[GK h8] at C2;rw[GK h8];go_wp2_with fail;refine (VT _ w2).mono ?_;rintro e w' ⟨rfl,rfl⟩
  by_cases hv:num (y1.take 8)=18446744073709551615
  ·have d1:((num (y1.take 8):Int) != 18446744073709551615)=false:=by rw[hv];rfl
   have FN:=Qa (h1.o 3 w2 (by decide) (M2 H1.o (In h8 hv)) O2.o);clear C2 hv;go_wp2_with fail;refine (UG 3 w2).mono ?_;rintro e w' ⟨rfl,rfl⟩;unfold mpan;go_wp2;exact⟨rfl,FN.o⟩
  have d1:((num (y1.take 8):Int) != 18446744073709551615)=true:=by simp;omega
  have H2:=Qa (kE h8 hv);generalize num (y1.take 8)=ver at *;obtain⟨y2,hl⟩:=EX (y1.drop 8)
  have kf:∀y∈y2,0<=y∧y<=255:=λy hy=>kg y (by rw[hl] at hy;exact List.mem_of_mem_drop hy)
  have k7:Hid (CurAt 108 w2 R kd y2∧kd.ownBlock=v.ownBlock):=by rw[hl];exact C2.o
  rw[<-hl] at H2;clear C2 hl kg h8 hv;go_wp2_with fail;refine (Uf 3 w2).mono ?_;rintro e w' ⟨rfl,rfl⟩;have B:=Qa (Jw k7.o.1 ((32:Nat):Int));rw[show ((32:Nat):Int)=32 from rfl] at B;go_wp2_with fail;refine B.o.mono ?_;rintro e w3 ⟨vp,rfl,bp,kl,ky,vc3,c3,kh,o3⟩;have hs3b:=o3.size;have O3:=Qa (O2.o.trans o3 (λi _ e=>e));have G3:=Qa (o3.heap G2.o (λe=>by omega));clear B o3 G2
  by_cases h32:y2.length<32
  ·have h0:=Ga h32
   rw[show ((32:Nat):Int)=32 from rfl] at h0;rw[h0];have FN:=Qa (h1.o 2 w3 (by decide) (M3 H1.o H2.o (ZI h32)) O3.o);clear bp c3;go_wp2_with fail;refine (Zi vp 2 w3 (by decide)).mono ?_;rintro e w' ⟨rfl,rfl⟩;unfold mpan;go_wp2;exact⟨rfl,FN.o⟩
  have h0:=KT h32;rw[show ((32:Nat):Int)=32 from rfl] at h0;rw[h0] at bp c3;rw[h0];have H3:=Qa (KB h32);obtain⟨y3,hn⟩:=EX (y2.drop 32)
  have HR3:∀y∈y3,0<=y∧y<=255:=λy hy=>kf y (by rw[hn] at hy;exact List.mem_of_mem_drop hy)
  rw[<-hn] at H3
  have kv:CurAt 108 w3 R vc3 y3:=by rw[hn];exact c3
  generalize y2.take 32=prv at *;have hs3:=O3.o.size;have h7:=kh.trans k7.o.2;have hw2:=O2.o.size;have D:=Qa (Ma kv (by omega) (λj hj=>by rw[h7] at hj;have:=HV.o j hj;omega));obtain⟨h3,h5,epv⟩:=bp.len;subst epv;have PV:=Qa (And.intro bp (And.intro kl ky));have k6:=Qa h7;clear h0 c3 kv bp kl ky kh h7 hn h32 k7 kf O2;go_wp2_with fail;refine (ZN (.slice h3 prv.length h5) w3).mono ?_;rintro e w' ⟨rfl,rfl⟩;go_wp2_with fail;refine D.o.mono ?_;rintro e w4 ⟨o4,⟨c,k5,hr,rfl⟩ | ⟨d,y4,hr,⟨vt,rfl,h2,hdl,kt⟩,vc4,c4,hp⟩⟩
  ·have FN:=Qa (h1.o c w4 k5 (M4 H1.o H2.o H3.o hr) (O3.o.trans o4 (λi _ e=>e)))
   clear D o4 hr;unfold mpan;go_wp2;exact⟨rfl,FN.o⟩
  have H4:=Qa hr;have RS:=Qa (wS HR3 hr);have O4:=Qa (O3.o.trans o4 (λi _ e=>e));have G4:=Qa (o4.heap G3.o (λe=>by omega));have hs4:=o4.size;have k9:=Sts.of_own h2;have kk:Hid (Bs .u8 w4 (.slice h3 prv.length h5) prv):=PV.o.1.keep o4 (λj hj e=>by have:=PV.o.2.2 j hj;omega);have E5:=Qa (Dx (vt:=vt) c4 (by omega) (λj hj=>by rw[hp,k6.o] at hj;have:=HV.o j hj;omega) k9 (λj hj e=>by have:=(h2.lt j hj).1;omega) hdl);have RT:=Qa h2;have hs:=Qa kt;have OB4:=Qa (hp.trans k6.o);clear D o4 hr h2 c4 hp k9 kt G3 k6;go_wp2_with fail;refine E5.o.mono ?_;rintro e w5 ⟨o5,⟨c,k5,hr,rfl⟩ | ⟨a,y5,hr,⟨ve,rfl,hd,hal,kn⟩,vc5,c5,ob5⟩⟩
  ·have FN:=Qa (h1.o c w5 k5 (M5 H1.o H2.o H3.o H4.o hr) (O4.o.trans o5 (λi _ e=>e)))
   clear E5 o5 hr;unfold mpan;go_wp2;exact⟨rfl,FN.o⟩
  have H5:=Qa hr;have O5:=Qa (O4.o.trans o5 (λi _ e=>e));have G5:=Qa (o5.heap G4.o (λe=>by omega));have hs5:=o5.size;have kw:Hid (Bs .u8 w5 (.slice h3 prv.length h5) prv):=kk.o.keep o5 (λj hj e=>by have:=PV.o.2.2 j hj;omega);have B:=Qa (Jw c5 ((32:Nat):Int));rw[show ((32:Nat):Int)=32 from rfl] at B;have RE:=Qa hd;have hh:=Qa kn;have k8:=Qa (o5.own RT.o (λj hj e=>by have:=(RT.o.lt j hj).1;omega));clear E5 o5 hr hd ob5 kn G4 kk RT;go_wp2_with fail;refine B.o.mono ?_;rintro e w6 ⟨vr,rfl,br,kr,ku,vc6,c6,ob6,o6⟩;have O6:=Qa (O5.o.trans o6 (λi _ e=>e));have G6:=Qa (o6.heap G5.o (λe=>by omega));have hs6:=o6.size;have ke:Hid (Bs .u8 w6 (.slice h3 prv.length h5) prv):=kw.o.keep o6 (λj hj e=>by have:=PV.o.2.2 j hj;omega);have hb:=Qa (o6.own RE.o (λj hj e=>by have:=(RE.o.lt j hj).1;omega));have kx:=Qa (o6.own k8.o (λj hj e=>by have:=(k8.o.lt j hj).1;omega));clear B o6 ob6 c5 G5 kw RE k8
  by_cases h32:y5.length<32
  ·have h0:=Ga h32
   rw[show ((32:Nat):Int)=32 from rfl] at h0;rw[h0];have FN:=Qa (h1.o 2 w6 (by decide) (M6 H1.o H2.o H3.o H4.o H5.o (ZI h32)) O6.o);clear br c6;go_wp2_with fail;refine (Zi vr 2 w6 (by decide)).mono ?_;rintro e w' ⟨rfl,rfl⟩;unfold mpan;go_wp2;exact⟨rfl,FN.o⟩
  have h0:=KT h32;rw[show ((32:Nat):Int)=32 from rfl] at h0;rw[h0] at br c6;rw[h0];have H6:=Qa (Mall H1.o H2.o H3.o H4.o H5.o (KB h32));generalize y5.take 32=rt at *;obtain⟨y6,k4⟩:=EX (y5.drop 32);rw[<-k4] at H6
  have kc:CurAt 108 w6 R vc6 y6:=by rw[k4];exact c6
  have LL:=Qa (wV kc);obtain⟨hg,hf,erv⟩:=br.len;subst erv;have RV:=Qa (And.intro br (And.intro kr ku));clear h0 c6 kc br kr ku k4 h32 H1 H2 H3 H5;go_wp2_with fail;refine (ZN (.slice hg rt.length hf) w6).mono ?_;rintro e w' ⟨rfl,rfl⟩;go_wp2_with fail;refine LL.o.mono ?_;rintro e w' ⟨rfl,rfl⟩;clear LL
  by_cases h6:y6=[]
  ·have d6:((y6.length:Int) == 0)=true:=by rw[h6];rfl
   obtain⟨ev,cv,ee⟩:=(Ens.of_own (s:=a.2.map (Yi d.2)) (by rw[List.length_map];exact hb.o)).len;rw[List.length_map] at ee;subst ee
   have TO:=Qa (Tt (.slice ev a.2.length cv) (a.2.map (Yi d.2)) w6 (Ens.of_own (by rw[List.length_map];exact hb.o)) (λe he=>by
    obtain⟨t,ht,rfl⟩:=List.mem_map.1 he
    exact (hs.o _ (Ud (hh.o t ht))).1) (by rw[List.length_map];exact hal) (λe he=>by
    obtain⟨t,ht,rfl⟩:=List.mem_map.1 he;have:=(hs.o _ (Ud (d:=[]) (hh.o t ht))).2
    unfold maxLen Yi;simp only;omega))
   go_wp2_with fail;refine (Uf 3 w6).mono ?_;rintro e w' ⟨rfl,rfl⟩;go_wp2_with fail;refine TO.o.mono ?_;rintro e w7 ⟨rfl,⟨Dm,h9,hT⟩,o7⟩;obtain⟨ko,kp,kj⟩:=Rs underlying9 h9
   have ks:((a.2.map (Yi d.2)).map Prod.fst).take (a.2.map (Yi d.2)).length=(a.2.map (Yi d.2)).map Prod.fst:=by
    have:((a.2.map (Yi d.2)).map Prod.fst).take ((a.2.map (Yi d.2)).map Prod.fst).length=_:=List.take_length
    rwa [List.length_map] at this
   rw[ks] at hT
   have SZ:=Ld (λx hx=>by
    obtain⟨e,he,rfl⟩:=List.mem_map.1 hx;obtain⟨t,ht,rfl⟩:=List.mem_map.1 he
    exact (hs.o _ (Ud (hh.o t ht))).1) hT ko kp kj
   have UI:=um RS.o hh.o;rw[<-SZ] at UI
   have hlen:=λty=>h9.len underlying133 ty
   obtain⟨at1,ct1,km⟩:=(Sts.of_own kx.o).len;generalize Maps.size Dm=sz at *;have O7:=Qa (O6.o.trans o7 (λi _ f=>f.elim));have G7:=o7.heap G6.o (λf=>f);clear TO ko kp kj hT ks SZ h9
   by_cases hu:sz=d.2.length
   ·have hU:=UI.1 hu
    have d7:((sz:Int) == (d.2.length:Int))=true:=by rw[hu];simp
    obtain⟨⟨k0,k1,k2,k3⟩,f0,f1,f2,f3⟩:=QY G7;subst km
    have FIN:Hid (∀x,x=Value.agg #[.int .u64 (ver:Nat),(.slice h3 prv.length h5),.slice ev a.2.length cv,(.slice hg rt.length hf)]->∀w',w'=((((w7.setCell ⟨w.heap.size,0,none⟩ (.int .u64 ver)).setCell ⟨w.heap.size,1,none⟩ (.slice h3 prv.length h5)).setCell ⟨w.heap.size,2,none⟩ (.slice ev a.2.length cv)).setCell ⟨w.heap.size,3,none⟩ (.slice hg rt.length hf))->(loadVar 37 ⟨w.heap.size,0,none⟩).run prog w'=.ok x w'∧RMan w R ys (.returned x) w'):=by
     intro x hx w' hw';obtain⟨g,og⟩:=put4 G7 (.int .u64 ver) (.slice h3 prv.length h5) (.slice ev a.2.length cv) (.slice hg rt.length hf);rw[<-hw'] at g og;subst hx;have hw:Only (λk=>k=w.heap.size) w6 w':=(o7.mono (λ_ _ f=>f.elim)).trans og (λi _ e=>e);refine⟨Yt g,O7.o.trans og (λi hi e=>by omega),.inr ⟨_,_,(.slice h3 prv.length h5),.slice ev a.2.length cv,(.slice hg rt.length hf),M9 H6.o h6 hU,rfl,⟨rfl,ke.o.keep hw (λj hj e=>by have:=PV.o.2.2 j hj;omega),?_,RV.o.1.keep hw (λj hj e=>by have:=RV.o.2.2 j hj;omega)⟩,PV.o.2.1,RV.o.2.1,λk hk=>by have:=PV.o.2.2 k hk;omega,λk hk=>by have:=RV.o.2.2 k hk;omega,λk hk=>by have:=(hb.o.lt k hk).1;omega⟩⟩;exact (Ens.of_own (s:=a.2.map (Yi d.2)) (by rw[List.length_map];exact hb.o)).keep hw (λj hj e=>by have:=(hb.o.lt j hj).1;omega)
    have hKK:=HK.o;clear HK h1 UI hu hU O7 hb kx ke RV PV G7;subst hKK
    go_wp2_with (first
     | (go_at_call 133;refine (Uf 3 w7).mono ?_;rintro e w' ⟨rfl,rfl⟩)
     | fail)
    obtain⟨fl,fr⟩:=FIN.o _ rfl _ rfl;exact bodyPost_ret (V9 Tryz.results97 _ _ rfl fl) rfl fr
   ·have d7:((sz:Int) == (d.2.length:Int))=false:=by rw[beq_eq_false_iff_ne];omega
    have FN:=Qa (h1.o 3 w7 (by decide) (M8 H6.o h6 (λq=>hu (UI.2 q))) O7.o);subst km;clear h1 UI hu O7;go_wp2_with fail;refine (UG 3 w7).mono ?_;rintro e w' ⟨rfl,rfl⟩;unfold mpan;go_wp2;exact⟨rfl,FN.o⟩
  ·have d6:((y6.length:Int) == 0)=false:=by
    rw[beq_eq_false_iff_ne];intro e;exact h6 (List.eq_nil_of_length_eq_zero (by omega))
   have FN:=Qa (h1.o 3 w6 (by decide) (M7 H6.o h6) O6.o);clear h1;go_wp2_with fail;refine (UG 3 w6).mono ?_;rintro e w' ⟨rfl,rfl⟩;unfold mpan;go_wp2;exact⟨rfl,FN.o⟩
 ·rw[Qb hm4] at hz
  have FN:=Qa (h1.o 3 w1 (by decide) (M1 (hd_no h4 (λe=>hm4 (hm.o.symm.trans e)))) O1.o);clear h1 hm hm4;go_wp2_with fail;refine (UG 3 w1).mono ?_;rintro e w' ⟨rfl,rfl⟩;unfold mpan;go_wp2;exact⟨rfl,FN.o⟩
end
def Yj (ys:LI):MAN:=match MDEC ys with
 | .ok m=>m
 | .error _=>⟨0,[],[],[]⟩
def Y0 (ys:LI):Int:=match MDEC ys with
 | .ok _=>0
 | .error c=>c
theorem MD_ok {m:MAN} (h:MDEC ys=.ok m):Yj ys=m∧Y0 ys=0:=by unfold Yj Y0;rw[h];exact⟨rfl,rfl⟩
theorem kZ {c:Int} (h:MDEC ys=.error c):Yj ys=⟨0,[],[],[]⟩∧Y0 ys=c:=by unfold Yj Y0;rw[h];exact⟨rfl,rfl⟩
abbrev Pm:Value:=.agg #[.int .u64 0,.slice none 0 0,.slice none 0 0,.slice none 0 0]
structure Mnw (w w':World) (x:Value) (m:MAN) (vp ve vr:Value):Prop where
 mf:Mf w' x m vp ve vr
 np:NoCap vp
 nr:NoCap vr
 bp:∀k,vp.ownBlock=some k->w.heap.size<=k
 be:∀k,ve.ownBlock=some k->w.heap.size<=k
 br:∀k,vr.ownBlock=some k->w.heap.size<=k
theorem Mnw.zero (w w':World):Mnw w w' Pm ⟨0,[],[],[]⟩ (.slice none 0 0) (.slice none 0 0) (.slice none 0 0) :=
 ⟨⟨rfl,Bs.nil _ _,Ens.nil _,Bs.nil _ _⟩,NoCap.nil,NoCap.nil,Kl _,Kl _,Kl _⟩
theorem Mnw.keep {w w' w'':World} {x:Value} {m:MAN} {vp ve vr:Value} (h:Mnw w w' x m vp ve vr) {B:Nat} (o:Only (λk=>k=B) w' w'') (hB:B<w.heap.size):Mnw w w'' x m vp ve vr :=
 ⟨⟨h.mf.form,h.mf.prev.keep o (λk hk e=>by have:=h.bp k hk;omega),h.mf.es.keep o (λk hk e=>by have:=h.be k hk;omega),h.mf.root.keep o (λk hk e=>by have:=h.br k hk;omega)⟩,h.np,h.nr,h.bp,h.be,h.br⟩
theorem Mnw.low {w0 w w':World} {x:Value} {m:MAN} {vp ve vr:Value} (h:Mnw w w' x m vp ve vr) (hl:w0.heap.size<=w.heap.size):Mnw w0 w' x m vp ve vr :=
 ⟨h.mf,h.np,h.nr,λk hk=>Nat.le_trans hl (h.bp k hk),λk hk=>Nat.le_trans hl (h.be k hk),λk hk=>Nat.le_trans hl (h.br k hk)⟩
theorem wW (B:Nat) (v:Value) (ys:LI) (w:World) (hB:w.heap[B]? = some (.cells #[v] 23 (0,0))) (h:Bs .u8 w v ys) (hr:U8 ys) (hl:ys.length<=1000000000000) :
 Calls prog 96 #[.pointer (some ⟨B,0,none⟩)] w λe w'=>N0 w w'∧((Y0 ys≠0∧Yj ys=⟨0,[],[],[]⟩∧e=mpan (Y0 ys))∨(Y0 ys=0∧∃x vp ve vr,e=.returned x∧Mnw w w' x (Yj ys) vp ve vr)):=by
 obtain⟨cB,_⟩:=U3 hB
 have cB1:(w.alloc (.cells #[.int .u64 0,.slice none 0 0,.slice none 0 0,.slice none 0 0] 37)).cell? ⟨B,0,none⟩=some v:=by
  have:=Yr (o:=.cells #[.int .u64 0,.slice none 0 0,.slice none 0 0,.slice none 0 0] 37) hB;simp[World.cell?,this]
 have oa:N0 w (w.alloc (.cells #[.int .u64 0,.slice none 0 0,.slice none 0 0,.slice none 0 0] 37)):=(Only.refl _ _).alloc _;have A:=Qa (Xy v ys _ (h.past oa) hr hl);have G0:=Qa (heap_alloc_new w (.cells #[.int .u64 0,.slice none 0 0,.slice none 0 0,.slice none 0 0] 37));have OA:=Qa oa;obtain⟨av,cv,ev⟩:=h.len;subst ev;clear h hB cB oa;go_enter func96,ntmps96;go_wp2_with fail;refine A.o.mono ?_;rintro e w1 ⟨R,v',rfl,c1,o1,h2,hR2,h1⟩
 have hR1':w.heap.size+1<=R:=by simpa using h2
 have RD:=Qa (kO c1 hR2 (λj hj=>(h1 j hj).2));have O1:=Qa (OA.o.same o1);have G1:=Qa (o1.heap G0.o (λf=>f));have hs1:=O1.o.size;clear A c1 o1 h1 h2 G0 OA;go_wp2_with fail;refine RD.o.mono ?_;rintro e w2 ⟨o2,⟨c,hc0,hd,rfl⟩ | ⟨m,x,vp,ve,vr,hd,rfl,h0,np,nr,bp,br,be⟩⟩
 ·obtain⟨e1,e2⟩:=kZ hd
  have F:=Qa (And.intro (O1.o.trans o2 (λi hi e=>by omega)) (And.intro e1 e2));clear RD o2 hd e1 e2;unfold mpan;go_wp2;refine⟨rfl,F.o.1,.inl ⟨by rw[F.o.2.2];exact hc0,F.o.2.1,by rw[F.o.2.2];rfl⟩⟩
 ·obtain⟨e1,e2⟩:=MD_ok hd
  have G2:=o2.heap G1.o (λe=>by omega);obtain⟨⟨k0,k1,k2,k3⟩,f0,f1,f2,f3⟩:=QY G2;obtain⟨ap,pc,ep⟩:=h0.prev.len;obtain⟨ae,ec,ee⟩:=h0.es.len;obtain⟨ar,rc,er⟩:=h0.root.len;subst ep ee er;have hx:=h0.form;subst hx;obtain⟨g,og⟩:=put4 G2 (.int .u64 m.ver) (.slice ap m.prev.length pc) (.slice ae m.es.length ec) (.slice ar m.root.length rc)
  have F:=Qa (And.intro (Yt g) (And.intro ((O1.o.trans o2 (λi hi e=>by omega)).trans og (λi hi e=>by omega)) (show Mnw w _ _ m _ _ _ from
   ⟨⟨rfl,h0.prev.keep og (λk hk e=>by have:=bp k hk;omega),h0.es.keep og (λk hk e=>by have:=be k hk;omega),h0.root.keep og (λk hk e=>by have:=br k hk;omega)⟩,np,nr,λk hk=>by have:=bp k hk;omega,λk hk=>by have:=be k hk;omega,λk hk=>by have:=br k hk;omega⟩)))
  have ME:=Qa (And.intro e1 e2);clear RD o2 hd e1 e2 h0 np nr bp br be g og G2;go_wp2;refine bodyPost_ret (V9 Tryz.results96 _ _ rfl F.o.1) rfl ?_;refine⟨F.o.2.1,.inr ⟨ME.o.2,_,.slice ap m.prev.length pc,.slice ae m.es.length ec,.slice ar m.root.length rc,rfl,?_⟩⟩;rw[ME.o.1];exact F.o.2.2
theorem Dk (q:Nat) (w:World) :
 CallsD prog 131 #[.pointer (some ⟨q,0,none⟩)] .returning w λe u' w'=>e=.returned (.tuple #[])∧u'=.returning∧w=w':=by
 refine callsD_of_wpS func131 rfl λc₀ cs hu=>?_
 apply wpS_seq
 apply wpS_region
 simp[wpOpsS,go_sem,recoverD,hu,ntmps131,Exit.thenS];refine wpS_of_wp ?_;go_wp2
 cases c₀
 simp_all [bodyPostS,results,Tryz.results131]
theorem F6 (q:Nat) (c:Int) (older:List PanicEntry) (w:World) (y:Value) (hq:w.cell? ⟨q,0,none⟩=some y) (fq:w.frozen? ⟨q,0,none⟩=false) :
 CallsD prog 131 #[.pointer (some ⟨q,0,none⟩)] (.panicking ({ v:=.iface 27 (.int .i64 c),recovered:=false } :: older)) w λe u' w' =>
  e=.returned (.tuple #[])∧u'=.panicking ({ v:=.iface 27 (.int .i64 c),recovered:=true } :: older)∧w'=w.setCell ⟨q,0,none⟩ (.int .i64 c):=by
 have hta:∀(W:World),(Instr.typeAssert (.iface 27 (.int .i64 c)) 20 27 true).run prog W=.ok (.tuple #[.int .i64 c,.bool true]) W:=λ_=>by kernel_rfl
 refine callsD_of_wpS func131 rfl λc₀ cs hu=>?_
 apply wpS_seq
 apply wpS_region
 simp[wpOpsS,go_sem,recoverD,hu,ntmps131,Exit.thenS];refine wpS_of_wp ?_;go_wp2;simp[bodyPostS,results,Tryz.results131]
theorem Hu {fn:Func} {p q:Tmp} {ty ty2:TypeId} (h:fn.results=#[.cell p ty,.cell q ty2]) (tmps:Array Value) (w:World) {a b:Addr} {v1 v2:Value}
 (hp:tmps.getD p undef=.pointer (some a)) (hq:tmps.getD q undef=.pointer (some b)) (h1:(loadVar ty a).run P w=.ok v1 w) (h2:(loadVar ty2 b).run P w=.ok v2 w) :
 (results fn tmps).run P w=.ok (.tuple #[v1,v2]) w:=by
 have hp':tmps[p]?.getD undef=.pointer (some a):=by simpa using hp
 have hq':tmps[q]?.getD undef=.pointer (some b):=by simpa using hq
 simp[results,h,hp',hq',asAddr,h1,h2]
theorem Wy {fn:Func} {p q:Tmp} {ty:TypeId} (h:fn.results=#[.cell p ty,.tmp q]) (tmps:Array Value) (w:World) {a:Addr} {v1 v2:Value}
 (hp:tmps.getD p undef=.pointer (some a)) (hq:tmps.getD q undef=v2) (h1:(loadVar ty a).run P w=.ok v1 w) :
 (results fn tmps).run P w=.ok (.tuple #[v1,v2]) w:=by
 have hp':tmps[p]?.getD undef=.pointer (some a):=by simpa using hp
 have hq':tmps[q]?.getD undef=v2:=by simpa using hq
 simp[results,h,hp',hq',asAddr,h1]
theorem GM {b:Nat} {c:Int} (h:W.heap[b]? = some (.cells #[.int .i64 c] 27 (0,0))):(loadVar 27 ⟨b,0,none⟩).run prog W=.ok (.int .i64 c) W:=by
 have hc:W.cell? ⟨b,0,none⟩=some (.int .i64 c):=by simp[World.cell?,h]
 simp[go_sem,hc]
theorem qg (B:Nat) (v:Value) (ys:LI) (w:World) (hB:w.heap[B]? = some (.cells #[v] 23 (0,0))) (h:Bs .u8 w v ys) (hr:U8 ys) (hl:ys.length<=1000000000000) :
 Calls prog 95 #[.func (.func 96) #[] #[.pointer (some ⟨B,0,none⟩)]] w λe w'=>∃x vp ve vr,e=.returned (.tuple #[x,.int .i64 (Y0 ys)])∧Mnw w w' x (Yj ys) vp ve vr∧N0 w w':=by
 have hmf:∀(fn:Fn) (first cap:Array Value) (w:World),(Instr.makeFunc fn first cap).run prog w=.ok (.func fn first cap) w:=λ_ _ _ _=>rfl
 have oa:N0 w ((w.alloc (.cells #[.int .u64 0,.slice none 0 0,.slice none 0 0,.slice none 0 0] 37)).alloc (.cells #[.int .i64 0] 27)):=((Only.refl _ _).alloc _).alloc _;have RD:=Qa (wW B v ys _ (oa.heap hB (λf=>f)) (h.past oa) hr hl);have g0:=Yr (o:=.cells #[.int .i64 0] 27) (heap_alloc_new w (.cells #[.int .u64 0,.slice none 0 0,.slice none 0 0,.slice none 0 0] 37));have g1:=YV (W:=w.alloc (.cells #[.int .u64 0,.slice none 0 0,.slice none 0 0,.slice none 0 0] 37)) (o:=.cells #[.int .i64 0] 27) (k:=w.heap.size+1) (by simp);have OA:=Qa oa;obtain⟨c,hc⟩:=EX (Y0 ys);obtain⟨m,hm⟩:=EX (Yj ys);rw[<-hc,<-hm] at RD;rw[<-hc,<-hm];clear hc hm;have G0:=Qa g0;have G1:=Qa g1;clear h hB oa g0 g1
 go_enter_defers func95,ntmps95
 go_wp2_with fail;refine RD.o.mono ?_;rintro e w2 ⟨o2,hh⟩;have K0:=o2.heap G0.o (λf=>f);have K1:=o2.heap G1.o (λf=>f);have O2:=Qa (OA.o.same o2);have hs2:=o2.size;clear o2 RD G0 G1 OA
 rcases hh with ⟨he,hm,rfl⟩ | ⟨he,x,vp,ve,vr,rfl,mn⟩
 ·obtain⟨p1,p2⟩:=U3 K1
  have o3:Only (λk=>k=w.heap.size+1) w2 (w2.setCell ⟨w.heap.size+1,0,none⟩ (.int .i64 c)):=(Only.refl (λk=>k=w.heap.size+1) w2).setCell (p:=⟨w.heap.size+1,0,none⟩) (λ_=>rfl) _;have F0:=Qa (Yt (o3.heap K0 (λe=>by omega)));have F1:=Qa (GM (Gn K1 (.int .i64 c)));have OX:=Qa (O2.o.trans o3 (λi hi e=>by omega));have CE:=Qa (F6 (w.heap.size+1) c [] w2 _ p1 p2);have HM:=Qa hm;clear K0 K1 o3 hm;unfold mpan;go_wp2;refine leaves_cons (f:=131) (args:=#[.pointer (some ⟨w.heap.size+1,0,none⟩)]) (by simp) (by simp[go_sem]) ?_;refine CE.o.mono ?_;rintro e u' w'' ⟨rfl,rfl,rfl⟩;refine⟨_,Hu Tryz.results95 _ _ rfl rfl F0.o F1.o,?_⟩;refine⟨_,.slice none 0 0,.slice none 0 0,.slice none 0 0,rfl,?_,OX.o⟩;rw[HM.o];exact Mnw.zero _ _
 ·obtain⟨ap,pc,ep⟩:=mn.mf.prev.len
  obtain⟨ae,ec,ee⟩:=mn.mf.es.len;obtain⟨ar,rc,er⟩:=mn.mf.root.len;subst ep ee er;have hx:=mn.mf.form;subst hx;obtain⟨⟨k0,k1,k2,k3⟩,f0,f1,f2,f3⟩:=QY K0;obtain⟨p1,p2⟩:=U3 K1;obtain⟨g,og⟩:=put4 K0 (.int .u64 m.ver) (.slice ap m.prev.length pc) (.slice ae m.es.length ec) (.slice ar m.root.length rc);have h0:=og.heap K1 (λe=>by omega);generalize hW3:((((w2.setCell ⟨w.heap.size,0,none⟩ (.int .u64 m.ver)).setCell ⟨w.heap.size,1,none⟩ (.slice ap m.prev.length pc)).setCell ⟨w.heap.size,2,none⟩ (.slice ae m.es.length ec)).setCell ⟨w.heap.size,3,none⟩ (.slice ar m.root.length rc))=w3 at *;have o3:Only (λk=>k=w.heap.size+1) w3 (w3.setCell ⟨w.heap.size+1,0,none⟩ (.int .i64 0)):=(Only.refl (λk=>k=w.heap.size+1) w3).setCell (p:=⟨w.heap.size+1,0,none⟩) (λ_=>rfl) _;have F0:=Qa (Yt (o3.heap g (λe=>by omega)));have F1:=Qa (GM (Gn h0 (.int .i64 0)));have OX:=Qa ((O2.o.trans og (λi hi e=>by omega)).trans o3 (λi hi e=>by omega));have MN:=Qa (((mn.keep og (by simp;omega)).keep o3 (by simp)).low (w0:=w) (by simp;omega));have HE:=Qa he;rw[<-hW3] at F0 F1 OX MN;clear K0 K1 h0 o3 g og mn he hW3;go_wp2;refine leaves_cons (f:=131) (args:=#[.pointer (some ⟨w.heap.size+1,0,none⟩)]) (by simp) (by simp[go_sem]) ?_;refine (Dk (w.heap.size+1) _).mono ?_;rintro e u' w'' ⟨rfl,rfl,rfl⟩;refine⟨_,Hu Tryz.results95 _ _ rfl rfl F0.o F1.o,?_⟩;refine⟨_,.slice ap m.prev.length pc,.slice ae m.es.length ec,.slice ar m.root.length rc,by rw[HE.o],?_,OX.o⟩;exact MN.o
theorem Jt (v:Value) (ys:LI) (w:World) (h:Bs .u8 w v ys) (hr:U8 ys) (hl:ys.length<=1000000000000) :
 Calls prog 63 #[v] w λe w'=>∃x vp ve vr,e=.returned (.tuple #[x,.int .i64 (Y0 ys)])∧Mnw w w' x (Yj ys) vp ve vr∧N0 w w':=by
 have hmf:∀(fn:Fn) (first cap:Array Value) (w:World),(Instr.makeFunc fn first cap).run prog w=.ok (.func fn first cap) w:=λ_ _ _ _=>rfl
 obtain⟨av,cv,ev⟩:=h.len;subst ev;have oa:N0 w ((w.alloc (.cells #[.slice av ys.length cv] 23)).alloc (.cells #[.int .u64 0,.slice none 0 0,.slice none 0 0,.slice none 0 0] 37)):=((Only.refl _ _).alloc _).alloc _;have g0:=Yr (o:=.cells #[.int .u64 0,.slice none 0 0,.slice none 0 0,.slice none 0 0] 37) (heap_alloc_new w (.cells #[.slice av ys.length cv] 23));have g1:=YV (W:=w.alloc (.cells #[.slice av ys.length cv] 23)) (o:=.cells #[.int .u64 0,.slice none 0 0,.slice none 0 0,.slice none 0 0] 37) (k:=w.heap.size+1) (by simp);have RD:=Qa (qg w.heap.size _ ys _ g0 (h.past oa) hr hl);have G1:=Qa g1;have OA:=Qa oa;obtain⟨c,hc⟩:=EX (Y0 ys);obtain⟨m,hm⟩:=EX (Yj ys);rw[<-hc,<-hm] at RD;rw[<-hc,<-hm];clear hc hm;clear h oa g0 g1 hr hl;go_enter func63,ntmps63;go_wp2_with fail;refine RD.o.mono ?_;rintro e w2 ⟨x,vp,ve,vr,rfl,mn,o2⟩;have K1:=o2.heap G1.o (λf=>f);have hs2:=o2.size;obtain⟨ap,pc,ep⟩:=mn.mf.prev.len;obtain⟨ae,ec,ee⟩:=mn.mf.es.len;obtain⟨ar,rc,er⟩:=mn.mf.root.len;subst ep ee er;have hx:=mn.mf.form;subst hx;obtain⟨⟨k0,k1,k2,k3⟩,f0,f1,f2,f3⟩:=QY K1;obtain⟨g,og⟩:=put4 K1 (.int .u64 m.ver) (.slice ap m.prev.length pc) (.slice ae m.es.length ec) (.slice ar m.root.length rc);have F:=Qa (And.intro (Yt g) (And.intro ((OA.o.same o2).trans og (λi hi e=>by omega)) ((mn.keep og (by simp)).low (w0:=w) (by simp;omega))));clear RD K1 o2 mn g og G1 OA;go_wp2;refine bodyPost_ret (Wy Tryz.results63 _ _ rfl rfl F.o.1) rfl ?_;refine⟨_,.slice ap m.prev.length pc,.slice ae m.es.length ec,.slice ar m.root.length rc,rfl,?_,F.o.2.1⟩;exact F.o.2.2
section
open Go.Maps
def Yz (T:List (LI)) (k:Nat):LI:=gs T.length++((T.take k).map blk).flatten
theorem yO (T:List (LI)):Yz T 0=gs T.length:=by simp[Yz]
theorem XX (T:List (LI)):Yz T T.length=gs T.length++(T.map blk).flatten:=by rw[Yz,List.take_length]
theorem PZ {α:Type} (l:List α) (k:Nat) (d:α) (h:k<l.length):l.take (k+1)=l.take k++[l.getD k d]:=by
 rw[List.take_succ_eq_append_getElem h,Qd,Qg h];rfl
theorem ym (T:List (LI)) (k:Nat) (h:k<T.length):Yz T (k+1)=Yz T k++blk (T.getD k []):=by
 rw[Yz,PZ T k [] h,List.map_append,List.flatten_append,Yz];simp
theorem XH {α:Type} (f:α->LI) (B:Nat):∀(l:List α),(∀x∈l,(f x).length<=B)->((l.map f).flatten).length<=l.length*B
 | [],_=>by simp
 | x :: l,h=>by
  have h1:=XH f B l (λy hy=>h y (List.mem_cons_of_mem _ hy));have h2:=h x List.mem_cons_self;simp only[List.map_cons,List.flatten_cons,Qc,Qi];rw[Nat.succ_mul];omega
theorem ZH (T:List (LI)) (k:Nat) (hk:k<=T.length) (hn:T.length<=1048576) (hl:∀x∈T,x.length<=64):(Yz T k).length<=10+k*74:=by
 have h1:=Q6 (v:=T.length) (by omega)
 have h2:=XH blk 74 (T.take k) (λx hx=>by
  have h3:=hl x (List.mem_of_mem_take hx);have h4:=Ut x (by omega)
  omega)
 rw[Qf,Nat.min_eq_left hk] at h2;rw[Yz,Qc];omega
theorem uv (v:Value) (T:List (LI)) (w:World) (h:Sts w v T) (hu:∀x∈T,U8 x∧x.length<=64) (hl:T.length<=1048576) :
 Calls prog 85 #[v] w λe w'=>∃u,e=.returned u∧w'.ownsRow w.heap.size 5 1 u (Yz T T.length).length ((Yz T T.length).map (Value.int .u8))∧N0 w w':=by
 obtain⟨i0,hi,hz0,hz1,hz2⟩:=info_parts Tryz.infoU8;obtain⟨ao,cap,rfl⟩:=h.len;have A:=Qa (Um (.slice none 0 0) [] (T.length:Int) w (Bs.nil _ _) NoCap.nil (by simp) (by omega) (by omega));rw[List.nil_append,Int.toNat_natCast,<-yO] at A;have HB:=Qa h;have HU:=Qa hu;have HS:=Qa (ym T);have HLE:=Qa (λk hk=>ZH T k hk hl (λx hx=>(hu x hx).2));obtain⟨n,hn⟩:=EX T.length;rw[<-hn] at HB hl A;have HN:=Qa hn;rw[<-hn]
 have hw:IntKind.u64.wrap (n:Int)=n:=by rw[IntKind.wrap_u64];omega
 clear h hu hn;go_enter func85,ntmps85;go_wp2_with fail;refine A.o.mono ?_;rintro e w0 ⟨u0,rfl,h1,o0⟩;have F0:=Qa (And.intro h1 o0);clear h1 o0 A;go_wp2
 go_loopw [3,12] (λu i wr=>∃k:Nat,k<=n∧i=.int .i64 k∧wr.ownsRow w.heap.size 5 1 u (Yz T k).length ((Yz T k).map (Value.int .u8))∧N0 w wr) (λ_ i _=>n - (intOf i).toNat)
 case atStart=>exact⟨0,Nat.zero_le _,rfl,F0.o⟩
 case round =>
  clear F0;obtain⟨k,hk,rfl,own,on⟩:=hrel
  by_cases hlt:k<n
  ·have h0:k<T.length:=by rw[<-HN.o];exact hlt
   obtain⟨b,off,cap',e,hc0⟩:=(HB.o.past on).at k h0;simp only[Value.slice.injEq] at e;obtain⟨rfl,hmx,rfl⟩:=e;clear hmx;obtain⟨xu,xl⟩:=HU.o _ (Ud (s:=T) (d:=[]) h0);have SC:=Qa (HS.o k h0);have LE:=HLE.o k (by omega);have h4:=sb_of xu;obtain⟨x,hx⟩:=EX (T.getD k []);rw[<-hx] at hc0 SC xu xl h4;have hcv:=ZK (strOfNums x);have hsz:(strOfNums x).size=x.length:=LZ x;have h5:=grownCap_ge wr (strOfNums x).size 0 5;obtain⟨c,hc⟩:=EX (grownCap wr (strOfNums x).size 0 5);rw[<-hc] at h5;have o2:N0 wr (wr.alloc (UY (strOfNums x) c)).drew:=((Only.refl _ _).alloc _).drew;have B:=Qa (Wb (.slice (some ⟨wr.heap.size,0,none⟩) (strOfNums x).size c) x (wr.alloc (UY (strOfNums x) c)).drew (by have:=Zx (VK (YV (W:=wr) (o:=UY (strOfNums x) c) rfl)) (by omega:(strOfNums x).size<=c);rw[h4] at this;exact this) (NoCap.some _ _ _) (by omega));have HBL:=Ut x (by omega);obtain⟨X,hX⟩:=EX (blk x);rw[<-hX] at B SC HBL;obtain⟨Y,hY⟩:=EX (Yz T k);rw[<-hY] at own SC LE;have OWN:=Qa (o2.own own (λ_ _ f=>f));have ON:=Qa (on.same o2)
   have i1:(k:Int)<(n:Int):=by omega
   have hsl:=on.size;clear hx hX hY own on o2 h0 xu h4 h5 hsz;go_wp2_with fail;rw[<-hc];refine B.o.mono ?_;rintro e w1 ⟨v1,rfl,h2,o1⟩;have h3:=o1.own OWN.o (λ_ _ f=>f);have BS1:=Bs.of_own (k:=.u8) h2;have NC1:=NoCap.of_own h2;have s1:=o1.size;clear hcv hc;go_wp2_with (at_builtin;refine Yh _ rfl _ _ 23 rfl w.heap.size 5 i0 (.int .u8 0) 1 underlying23 hi hz0 hz1 hz2 rfl _ Y.length (Y.map (Value.int .u8)) rfl h3 .u8 _ X rfl BS1 NC1 (by unfold maxLen;omega) (by omega) (by simp at s1;omega) ?_;intro v2 w2 own2 gr2 _ _)
   go_roundw
   case rel =>
    refine⟨k+1,by omega,by go_num,?_,(ON.o.same o1).grown gr2 (λj hj e=>by have:=(h3.lt j e).1;omega)⟩;rw[SC.o,Qc,List.map_append];exact own2
   case measure=>simp[intOf];omega
  ·obtain rfl:k=n:=by omega
   have F:=Qa (And.intro own on);clear own on HB;go_wp2;go_ret;exact⟨_,rfl,F.o⟩
def Ye (T:List (LI)) (es:List (LI × Int)) (k:Nat):LI:=gs es.length++((es.take k).map (U1 T)).flatten
theorem Mk (T:List (LI)) (es:List (LI × Int)):Ye T es 0=gs es.length:=by simp[Ye]
theorem JZ (T:List (LI)) (es:List (LI × Int)):Ye T es es.length=gs es.length++(es.map (U1 T)).flatten:=by rw[Ye,List.take_length]
theorem BQ (T:List (LI)) (es:List (LI × Int)) (k:Nat) (h:k<es.length):Ye T es (k+1)=Ye T es k++(gs (YU T (es.getD k ([],0)).1)++[(es.getD k ([],0)).2]):=by
 rw[Ye,PZ es k ([],0) h,List.map_append,List.flatten_append,Ye];simp[U1]
theorem ZM (T:List (LI)) (es:List (LI × Int)) (k:Nat) (hk:k<=es.length) (hn:es.length<=1048576) (hT:∀e∈es,e.1∈T) (hl:T.length<=1048576):(Ye T es k).length<=10+k*11:=by
 have h1:=Q6 (v:=es.length) (by omega)
 have h2:=XH (U1 T) 11 (es.take k) (λe he=>by
  have h3:=Wq (hT e (List.mem_of_mem_take he));have h4:=Q6 (v:=YU T e.1) (by omega)
  simp only[U1,Qc,List.length_singleton];omega)
 rw[Qf,Nat.min_eq_left hk] at h2;rw[Ye,Qc];omega
theorem CH (v:Value) (es:List (LI × Int)) (T:List (LI)) (mb N:Nat) (D:DataW Unit) (w:World) (h:Ens w v es) (hm:w.ownsMap prog 9 (plainElem (H:=Unit) prog 3) mb N D) (ha:Py D T)
 (hT:∀e∈es,e.1∈T) (hx:∀e∈es,e.1.length<=maxLen∧0<=e.2∧e.2<=8) (hl:es.length<=1048576) (hlT:T.length<=1048576) :
 Calls prog 86 #[v,.map (some mb)] w λe w'=>∃u,e=.returned u∧w'.ownsRow w.heap.size 5 1 u (Ye T es es.length).length ((Ye T es es.length).map (Value.int .u8))∧N0 w w':=by
 obtain⟨i0,hi,h9,hg,he⟩:=info_parts Tryz.infoU8;obtain⟨ao,cap,rfl⟩:=h.len;have A:=Qa (Um (.slice none 0 0) [] (es.length:Int) w (Bs.nil _ _) NoCap.nil (by simp) (by omega) (by omega));rw[List.nil_append,Int.toNat_natCast,<-Mk T] at A;have HB:=Qa h;have HM:=Qa hm;have HA:=Qa ha;have HT:=Qa hT;have HX:=Qa hx;have HS:=Qa (BQ T es);have HLE:=Qa (λk hk=>ZM T es k hk hl hT hlT);obtain⟨n,hn⟩:=EX es.length;rw[<-hn] at HB hl A;have HN:=Qa hn;rw[<-hn]
 have hw:IntKind.u64.wrap (n:Int)=n:=by rw[IntKind.wrap_u64];omega
 clear h hm ha hT hx hn;go_enter func86,ntmps86;go_wp2_with fail;refine A.o.mono ?_;rintro e w0 ⟨u0,rfl,h6,o0⟩;have F0:=Qa (And.intro h6 o0);clear h6 o0 A;go_wp2;clear hw
 go_loopw [5,14] (λu i wr=>∃k:Nat,k<=n∧i=.int .i64 k∧wr.ownsRow w.heap.size 5 1 u (Ye T es k).length ((Ye T es k).map (Value.int .u8))∧N0 w wr) (λ_ i _=>n - (intOf i).toNat)
 case atStart=>exact⟨0,Nat.zero_le _,rfl,F0.o⟩
 case round =>
  clear F0;obtain⟨k,hk,rfl,own,on⟩:=hrel
  by_cases hlt:k<n
  ·have h1:k<es.length:=by rw[<-HN.o];exact hlt
   obtain⟨b,off,cap',e,hd,ho⟩:=(HB.o.past on).at k h1;simp only[Value.slice.injEq] at e;obtain⟨rfl,hmx,rfl⟩:=e;clear hmx;have h0:es.getD k ([],0)∈es:=Ud h1;have SC:=Qa (HS.o k h1);have LE:=HLE.o k (by omega);obtain⟨x,hx⟩:=EX (es.getD k ([],0));rw[<-hx] at hd ho SC h0;obtain⟨xl,x0,x8⟩:=HX.o x h0;have h2:=Qa (HA.o x.1 (HT.o x h0) (.lit (.int .i64 0)));have hpl:=Wq (HT.o x h0);have h7:keyOf prog 9 (.string (strOfNums x.1))=some (kS x.1):=J8 underlying9 _ xl;have h4:=Q6 (v:=YU T x.1) (by omega);obtain⟨p,hp⟩:=EX (YU T x.1);rw[<-hp] at h2 hpl SC h4;have B:=Qa (λW=>Um (.slice none 0 0) [] (p:Int) W (Bs.nil _ _) NoCap.nil (by simp) (by omega) (by omega));rw[List.nil_append,Int.toNat_natCast] at B;obtain⟨X,hX⟩:=EX (gs p);rw[<-hX] at B SC h4;obtain⟨Y,hY⟩:=EX (Ye T es k);rw[<-hY] at own SC LE;have h5:=XB HM.o on (λf=>f);have hh:=Qa own;have ON:=Qa on
   have i1:(k:Int)<(n:Int):=by omega
   have hsl:=on.size
   have hw:IntKind.u64.wrap (p:Int)=p:=by rw[IntKind.wrap_u64];omega
   have hw8:IntKind.u8.wrap x.2=x.2:=by rw[IntKind.wrap_u8];omega
   clear hx hX hY own on h1 h0 hp
   go_wp2_with (first
    | (at_lookup;refine wpList_lookup_own_int _ rfl _ _ 133 rfl 9 3 .i64 law9 underlying133 underlying3 (AH _) mb N _ rfl (h5.alloc _) _ _ rfl h7 ?_;intro c hat hwc;obtain rfl:c=(p:Int):=(by have:=hat.symm.trans h2.o;simpa using this);clear hat hwc h2)
    | fail)
   refine (B.o _).mono ?_;rintro e w1 ⟨v1,rfl,h8,o1⟩;have ob:N0 wr (wr.alloc (.cells #[.string (strOfNums x.1),.int .i64 x.2] 88)):=(Only.refl _ _).alloc _;have o2:=ob.same o1;have h3:=o2.own hh.o (λ_ _ f=>f);have hf:=Bs.of_own (k:=.u8) h8;have hb:=NoCap.of_own h8;have s1:=o2.size;have K1:=o1.heap (heap_alloc_new wr (.cells #[.string (strOfNums x.1),.int .i64 x.2] 88)) (λf=>f)
   have cb:w1.cell? ⟨wr.heap.size,1,none⟩=some (.int .i64 x.2):=by simp[World.cell?,K1]
   have KN:Hid (∀j,j=wr.heap.size->some j≠u5.ownBlock):=by
    intro j hj e;have:=hh.o.lt j e.symm;omega
   clear hd ho h7 h5 B;clear cb
   go_wp2_with (first
    | (at_builtin;refine Yh _ rfl _ _ 23 rfl w.heap.size 5 i0 (.int .u8 0) 1 underlying23 hi h9 hg he rfl u5 Y.length (Y.map (Value.int .u8)) rfl h3 .u8 _ X rfl hf hb (by unfold maxLen;omega) (by omega) (by omega) ?_;intro v2 w2 own2 gr2 _ _;have cb2:w2.cell? ⟨wr.heap.size,1,none⟩=some (.int .i64 x.2):=(by have K2:=((Only.refl (λj=>u5.ownBlock=some j) w1).grown gr2 (λj _ e=>e)).heap K1 (λe=>KN.o _ rfl e.symm);simp[World.cell?,K2]);clear K1 KN hf hb)
    | (at_builtin;refine Yh _ rfl _ _ 23 rfl w.heap.size 5 i0 (.int .u8 0) 1 underlying23 hi h9 hg he rfl v2 (Y.length+X.length) _ rfl (own2.alloc _) .u8 (.slice (some ⟨w2.heap.size,0,none⟩) 1 1) [x.2] rfl (Bs.litN .u8 w2 5 [x.2] _ _ rfl rfl) (NoCap.some _ _ _) (by unfold maxLen;simp;omega) (by simp;omega) (by have:=gr2.size;simp;omega) ?_;intro v3 w3 own3 gr3 _ _)
    | fail)
   go_roundw
   case rel =>
    refine⟨k+1,by omega,by go_num,?_,(((ON.o.same o2).grown gr2 (λj hj e=>by have:=(h3.lt j e).1;omega)).alloc _).grown gr3 (λj hj e=>by have:=(own2.lt j e).1;omega)⟩;rw[SC.o]
    have e1:(Y++(X++[x.2])).length=Y.length+X.length+1:=by simp;omega
    rw[e1,<-List.append_assoc,List.map_append,List.map_append];exact own3
   case measure=>simp[intOf];omega
  ·obtain rfl:k=n:=by omega
   have F:=Qa (And.intro own on);clear own on HB;go_wp2;go_ret;exact⟨_,rfl,F.o⟩
end
end Go.Proofs.YtoflhbghdlaeaaaGreatDoor
