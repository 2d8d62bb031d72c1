import Derived.Test.YtnhapmboienipaaGreatDoorY26
import Derived.Laws.CopyOwn
namespace Go.Proofs.YtnhapmboienipaaGreatDoor
set_option maxHeartbeats 1600000
set_option maxRecDepth 100000
open Go.RowKit _root_.Go.Proofs.Tryz
theorem Qqd (a r:List Nat) (i j:Nat) (hj:j<5):wdI a r (5*i+(j+1))=(wdI a r (5*i+j)).set (i+j) ((wdI a r (5*i+j)).getD (i+j) 0+a.getD i 0*r.getD j 0):=by
 show wdI a r (5*i+j+1)=_
 rw [wdI,show (5*i+j) / 5=i by omega,show (5*i+j) % 5=j by omega]
theorem QkR (a r:List Nat) (ha:a.length=5) (hr:r.length=5) (la:LB 134217728 a) (lr:LB 67108864 r) (w:World) :
  Calls prog 171 #[.agg (ul a).toArray,.agg (ul r).toArray] w fun e w'=>e=.returned (.agg (ul (ptms a r)).toArray)∧Only (fun _=>False) w w':=by
 have hzv:=(zero_of_info (P:=prog) Tryz.zero34).1;have hzw:=(zero_of_info (P:=prog) Tryz.zero53).1;obtain ⟨Z,hZ⟩:∃Z,Z=z5:=⟨_,rfl⟩;rw [←hZ] at hzv;obtain ⟨Y,hY⟩:∃Y,Y=z10:=⟨_,rfl⟩;rw [←hY] at hzw;obtain ⟨D,hD⟩:∃D,D=ul (ptms a r):=⟨_,rfl⟩
 have HZ1:Hid ((prog.info? 188).map (·.size)=some D.toArray.size):=by
  show _=_
  rw [hD];simp [QaF,Qio,Tryz.size34]
 have HZ2:Hid (Z.toArray.size=D.toArray.size):=by
  show _=_
  rw [hD,hZ];simp [QaF,Qio,Qct]
 have HA:Hid (D.toArray.all (·.oneCell')=true):=by
  show _=_
  rw [hD];exact QbX _
 rw [←hD];have HD:=Qaa (And.intro hD (And.intro hZ hY));have HS:=Qaa (And.intro ha (And.intro hr (And.intro la lr)));have XA:=Qaa (ix_u5 a ha);have XR:=Qaa (ix_u5 r hr);have HSZ:=Qaa (And.intro (QaW a ha) (QaW r hr));obtain ⟨A,hA⟩:∃A,A=ul a:=⟨_,rfl⟩;obtain ⟨B,hB⟩:∃B,B=ul r:=⟨_,rfl⟩;have HB:=Qaa (And.intro hA hB);rw [←hA] at XA HSZ;rw [←hB] at XR HSZ;rw [←hA,←hB];clear hZ hY hD hB hA ha hr la lr
 have K0:Hid (Blk ((((w.alloc (.cells A.toArray 188)).alloc (.cells B.toArray 188)).alloc (.cells Z.toArray 188)).alloc (.cells Y.toArray 246)) w.heap.size 188 A∧Blk ((((w.alloc (.cells A.toArray 188)).alloc (.cells B.toArray 188)).alloc (.cells Z.toArray 188)).alloc (.cells Y.toArray 246)) (w.heap.size+1) 188 B∧Blk ((((w.alloc (.cells A.toArray 188)).alloc (.cells B.toArray 188)).alloc (.cells Z.toArray 188)).alloc (.cells Y.toArray 246)) (w.heap.size+1+1) 188 Z∧Blk ((((w.alloc (.cells A.toArray 188)).alloc (.cells B.toArray 188)).alloc (.cells Z.toArray 188)).alloc (.cells Y.toArray 246)) (w.heap.size+1+1+1) 246 (ul (wdI a r (5*0)))∧Only (fun _=>False) w ((((w.alloc (.cells A.toArray 188)).alloc (.cells B.toArray 188)).alloc (.cells Z.toArray 188)).alloc (.cells Y.toArray 246))):=by
  refine ⟨(((Blk.new w 188 A).alloc _).alloc _).alloc _,?_,?_,?_,((((Only.refl _ _).alloc _).alloc _).alloc _).alloc _⟩
  ·have:=((Blk.new (w.alloc (.cells A.toArray 188)) 188 B).alloc (.cells Z.toArray 188)).alloc (.cells Y.toArray 246)
   rw [size_alloc] at this;exact this
  ·have:=(Blk.new ((w.alloc (.cells A.toArray 188)).alloc (.cells B.toArray 188)) 188 Z).alloc (.cells Y.toArray 246)
   rw [size_alloc,size_alloc] at this;exact this
  ·have:=Blk.new (((w.alloc (.cells A.toArray 188)).alloc (.cells B.toArray 188)).alloc (.cells Z.toArray 188)) 246 Y
   rw [size_alloc,size_alloc,size_alloc] at this;rw [HD.out.2.2] at this ⊢;exact this
 go_enter func171,ntmps171;go_wp2_with (first|(refine wpList_load_row rfl 188 (.tmp 2) rfl w.heap.size rfl 188 A.toArray (0,0) _ K0.out.1 underlying188 rfl HSZ.out.1 ?_));obtain ⟨X,hX⟩:∃X,X=w.heap.size+1+1+1:=⟨_,rfl⟩;rw [←hX] at K0 ⊢;obtain ⟨R,hR⟩:∃R,R=w.heap.size+1+1:=⟨_,rfl⟩;rw [←hR] at K0 ⊢;obtain ⟨H,hH⟩:∃H,H=w.heap.size+1:=⟨_,rfl⟩;rw [←hH] at K0 ⊢;obtain ⟨G,hG⟩:∃G,G=w.heap.size:=⟨_,rfl⟩;have HG:Hid (w.heap.size≤X∧w.heap.size≤R∧R≠X∧H≠X):=⟨by omega,by omega,by omega,by omega⟩;rw [←hG] at K0 ⊢;obtain ⟨W0,hW0⟩:∃W0,W0=(((w.alloc (.cells A.toArray 188)).alloc (.cells B.toArray 188)).alloc (.cells Z.toArray 188)).alloc (.cells Y.toArray 246):=⟨_,rfl⟩;rw [←hW0] at K0 ⊢;have K1:=Qaa K0.out.2;clear hG hR hW0 hzw hH hX K0
 go_loopw [13] (fun i wr=>∃n:Nat,n≤5∧i=.int .i64 n∧Blk wr H 188 B∧Blk wr R 188 Z∧Blk wr X 246 (ul (wdI a r (5*n)))∧Only (fun _=>False) w wr) (fun i _=>5 - (intOf i).toNat)
 case atStart=>exact ⟨0,by omega,rfl,K1.out⟩
 case round =>
  obtain ⟨n,hn,rfl,k1,k2,k3,k4⟩:=hrel;clear K1
  by_cases hlt:n<5
  ·have hix:=XA.out n hlt
   have hlx:=HS.out.2.2.1 n;obtain ⟨x,hx⟩:∃x,x=a.getD n 0:=⟨_,rfl⟩;rw [←hx] at hix hlx;have HX:=Qaa hx
   have i1:(n:Int)<5:=by omega
   have HK:=Qaa (And.intro k1 (And.intro k2 (And.intro k3 k4)));clear hx k1 k2 k3 k4;go_wp2_with (first|(refine wpList_load_row rfl 188 (.tmp 3) rfl H rfl 188 B.toArray (0,0) _ HK.out.1 underlying188 rfl HSZ.out.2 ?_))
   go_loopw [18] (fun i wr=>∃j:Nat,j≤5∧i=.int .i64 j∧Blk wr H 188 B∧Blk wr R 188 Z∧Blk wr X 246 (ul (wdI a r (5*n+j)))∧Only (fun _=>False) w wr) (fun i _=>5 - (intOf i).toNat)
   case atStart=>exact ⟨0,by omega,rfl,HK.out⟩
   case round =>
    obtain ⟨j,hj,rfl,k1,k2,k3,k4⟩:=hrel;clear HK hix
    by_cases hlj:j<5
    ·have hjx:=XR.out j hlj
     have hly:=HS.out.2.2.2 j;have hle:=Qm2 a r HS.out.2.2.1 HS.out.2.2.2 (5*n+j) (n+j);have hst:=Qqd a r n j hlj
     have hc:wr.cell? ⟨X,n+j,none⟩=some (.int .u64 (((wdI a r (5*n+j)).getD (n+j) 0:Nat):Int)):=by
      rw [k3.cell,ul_at _ _ (by rw [QfZ];omega)]
     have hf:=k3.froz (n+j);obtain ⟨y,hy⟩:∃y,y=r.getD j 0:=⟨_,rfl⟩;obtain ⟨z,hz⟩:∃z,z=(wdI a r (5*n+j)).getD (n+j) 0:=⟨_,rfl⟩;rw [←hy] at hjx hly hst;rw [←hz] at hle hst hc;rw [←HX.out] at hst;have hxy:x*y≤134217728*67108864:=Nat.mul_le_mul (by omega) (by omega);obtain ⟨t,ht⟩:∃t,t=x*y:=⟨_,rfl⟩;rw [←ht] at hxy hst
     have hti:(x:Int)*(y:Int)=(t:Int):=by rw [ht];simp
     have hml:IntKind.u64.wrap ((x:Int)*(y:Int))=(t:Int):=by rw [hti,wrap64 t (by omega)]
     obtain ⟨v,hv⟩:∃v,v=z+t:=⟨_,rfl⟩;rw [←hv] at hst
     have hadd:IntKind.u64.wrap ((z:Int)+(t:Int))=(v:Int):=by
      rw [show ((z:Int)+(t:Int))=((v:Nat):Int) by omega,wrap64 v (by omega)]
     have N1:Hid (Blk (wr.setCell ⟨X,n+j,none⟩ (.int .u64 (v:Int))) H 188 B∧Blk (wr.setCell ⟨X,n+j,none⟩ (.int .u64 (v:Int))) R 188 Z∧Blk (wr.setCell ⟨X,n+j,none⟩ (.int .u64 (v:Int))) X 246 (ul (wdI a r (5*n+(j+1))))∧Only (fun _=>False) w (wr.setCell ⟨X,n+j,none⟩ (.int .u64 (v:Int)))):=by
      have oc:=(Only.refl (fun k=>k=X) wr).setCell (p:=⟨X,n+j,none⟩) (fun _=>rfl) (.int .u64 (v:Int));refine ⟨k1.keep oc HG.out.2.2.2,k2.keep oc HG.out.2.2.1,?_,k4.trans oc (fun i hi e=>by have:=HG.out.1;omega)⟩;have h:=k3.set (n+j) (.int .u64 (v:Int));rw [QeS,←hst] at h;exact h
     have i2:(j:Int)<5:=by omega
     have hsum:IntKind.i64.wrap ((n:Int)+(j:Int))=((n+j:Nat):Int):=by rw [IntKind.wrap_i64];omega
     clear k1 k2 k3 k4 hle hst hly hy hz hxy ht hti hv;go_wp2
     go_roundw
     case rel=>exact ⟨j+1,by omega,by go_num,N1.out⟩
     case measure=>simp [intOf];omega
    ·obtain rfl:j=5:=by omega
     have N2:=Qaa (And.intro k1 (And.intro k2 (And.intro k3 k4)));clear k1 k2 k3 k4;go_wp2
     go_roundw
     case rel=>exact ⟨n+1,by omega,by go_num,N2.out⟩
     case measure=>simp [intOf];omega
  ·obtain rfl:n=5:=by omega
   have HK:=Qaa (And.intro k2 (And.intro k3 k4));obtain ⟨T,hT⟩:∃T,T=otr (wdI a r 25):=⟨_,rfl⟩
   have HT:Hid (T.length=5∧(∀i,i<5→T.getD i 0=(wdI a r 25).getD i 0+5*(wdI a r 25).getD (i+5) 0)∧LB 9223372036854775808 T∧crI 3 T=ptms a r):=by
    rw [hT];exact ⟨QdA _,QeG _,Qm6 a r HS.out.2.2.1 HS.out.2.2.2,rfl⟩
   have HW:=Qaa (Qm2 a r HS.out.2.2.1 HS.out.2.2.2 25);have HWL:=Qaa (QfZ a r 25);obtain ⟨V,hV⟩:∃V,V=wdI a r 25:=⟨_,rfl⟩;rw [show 5*5=25 from rfl,←hV] at HK;rw [←hV] at HT HW HWL;clear k1 k2 k3 k4 hT hV;go_wp2
   have K2:Hid (Blk (wr.alloc (.cells Z.toArray 188)) R 188 Z∧Blk (wr.alloc (.cells Z.toArray 188)) X 246 (ul V)∧Blk (wr.alloc (.cells Z.toArray 188)) wr.heap.size 188 (ul (T.take 0++(List.replicate 5 0).drop 0))∧Only (fun _=>False) w (wr.alloc (.cells Z.toArray 188))):=by
    refine ⟨HK.out.1.alloc _,HK.out.2.1.alloc _,?_,HK.out.2.2.alloc _⟩;have:=Blk.new wr 188 Z;rw [HD.out.2.1] at this ⊢;exact this
   have HR:Hid (w.heap.size≤wr.heap.size∧R≠wr.heap.size∧X≠wr.heap.size):=by
    have h1:=HK.out.2.2.size;have h2:=HK.out.1.lt;have h3:=HK.out.2.1.lt;exact ⟨h1,by omega,by omega⟩
   obtain ⟨Q,hQ⟩:∃Q,Q=wr.heap.size:=⟨_,rfl⟩;rw [←hQ] at K2 HR ⊢;obtain ⟨W2,hW2⟩:∃W2,W2=wr.alloc (.cells Z.toArray 188):=⟨_,rfl⟩;rw [←hW2] at K2 ⊢;clear hQ hW2 HK
   go_loopw [34] (fun i wr=>∃n:Nat,n≤5∧i=.int .i64 n∧Blk wr R 188 Z∧Blk wr X 246 (ul V)∧Blk wr Q 188 (ul (T.take n++(List.replicate 5 0).drop n))∧Only (fun _=>False) w wr) (fun i _=>5 - (intOf i).toNat)
   case atStart=>exact ⟨0,by omega,rfl,K2.out⟩
   case round =>
    obtain ⟨n,hn,rfl,k1,k2,k3,k4⟩:=hrel;clear K2
    by_cases hlt:n<5
    ·have hll:=Qnd T (List.replicate 5 0) n 5 HT.out.1 (by simp) hn
     have hc1:wr.cell? ⟨X,n,none⟩=some (.int .u64 ((V.getD n 0:Nat):Int)):=by
      rw [k2.cell,ul_at _ _ (by rw [HWL.out];omega)]
     have hc2:wr.cell? ⟨X,n+5,none⟩=some (.int .u64 ((V.getD (n+5) 0:Nat):Int)):=by
      rw [k2.cell,ul_at _ _ (by rw [HWL.out];omega)]
     have hc3:wr.cell? ⟨Q,n,none⟩=some (.int .u64 (((T.take n++(List.replicate 5 0).drop n).getD n 0:Nat):Int)):=by
      rw [k3.cell,ul_at _ _ (by rw [hll];exact hlt)]
     have hf:=k3.froz n;have hsn:=Qq2 T (List.replicate 5 0) n (by simpa using hlt) (by rw [HT.out.1];exact hlt);rw [HT.out.2.1 n hlt] at hsn;have hx:=HW.out n;have hy:=HW.out (n+5);obtain ⟨x,hxx⟩:∃x,x=V.getD n 0:=⟨_,rfl⟩;obtain ⟨y,hyy⟩:∃y,y=V.getD (n+5) 0:=⟨_,rfl⟩;obtain ⟨z,hzz⟩:∃z,z=(T.take n++(List.replicate 5 0).drop n).getD n 0:=⟨_,rfl⟩;rw [←hxx] at hc1 hsn hx;rw [←hyy] at hc2 hsn hy;rw [←hzz] at hc3;obtain ⟨v,hv⟩:∃v,v=x+5*y:=⟨_,rfl⟩;rw [←hv] at hsn
     have hml:IntKind.u64.wrap (5*(y:Int))=5*(y:Int):=by
      rw [show (5*(y:Int))=((5*y:Nat):Int) by omega,wrap64 _ (by omega)]
     have hadd:IntKind.u64.wrap ((x:Int)+5*(y:Int))=(v:Int):=by
      rw [show ((x:Int)+5*(y:Int))=((v:Nat):Int) by omega,wrap64 v (by omega)]
     have N1:Hid (Blk (wr.drew.setCell ⟨Q,n,none⟩ (.int .u64 (v:Int))) R 188 Z∧Blk (wr.drew.setCell ⟨Q,n,none⟩ (.int .u64 (v:Int))) X 246 (ul V)∧Blk (wr.drew.setCell ⟨Q,n,none⟩ (.int .u64 (v:Int))) Q 188 (ul (T.take (n+1)++(List.replicate 5 0).drop (n+1)))∧Only (fun _=>False) w (wr.drew.setCell ⟨Q,n,none⟩ (.int .u64 (v:Int)))):=by
      have oc:=((Only.refl (fun k=>k=Q) wr).drew).setCell (p:=⟨Q,n,none⟩) (fun _=>rfl) (.int .u64 (v:Int));refine ⟨k1.keep oc HR.out.2.1,k2.keep oc HR.out.2.2,?_,k4.trans oc (fun i hi e=>by have:=HR.out.1;omega)⟩;have h:=k3.drew.set n (.int .u64 (v:Int));rw [QeS,hsn] at h;exact h
     have i1:(n:Int)<5:=by omega
     have hsum:IntKind.i64.wrap ((n:Int)+5)=((n+5:Nat):Int):=by rw [IntKind.wrap_i64];omega
     have hXQ:¬X=Q:=HR.out.2.2;clear k1 k2 k3 k4 hll hsn hx hy hxx hyy hzz hv;go_wp2_with fail;go_region
     all_goals go_wp2
     all_goals go_roundw
     case rel=>exact ⟨n+1,by omega,by go_num,N1.out⟩
     case measure=>simp [intOf];omega
    ·obtain rfl:n=5:=by omega
     have CA:=Qaa (QhH T HT.out.1 HT.out.2.2.1 wr);rw [HT.out.2.2.2,←HD.out.1] at CA;have HN:=Qaa (QaW T HT.out.1)
     have S2:Hid (Blk wr Q 188 (ul T)):=by
      have h:=k3;rw [List.take_of_length_le (by rw [HT.out.1];exact Nat.le_refl _),List.drop_of_length_le (by simp),List.append_nil] at h;exact h
     have R1:=Qaa k1;have O1:=Qaa k4;obtain ⟨TT,hTT⟩:∃TT,TT=ul T:=⟨_,rfl⟩;rw [←hTT] at CA HN S2;clear k1 k2 k3 k4 hTT;go_wp2_with (first|(refine wpList_load_row rfl 188 (.tmp 10) rfl Q rfl 188 TT.toArray (0,0) _ S2.out underlying188 rfl HN.out ?_));refine CA.out.mono ?_;rintro e w1 ⟨rfl,o1⟩;have R2:=Qaa (R1.out.past o1);have O2:=Qaa (O1.out.same o1);clear o1 S2 R1 O1 CA;go_wp2_with (first|(refine wpList_store_row rfl 188 (.tmp 4) (.tmp 50) rfl R D.toArray rfl rfl 188 Z.toArray R2.out HZ1.out HZ2.out HA.out ?_));refine bodyPost_ret (v:=.agg D.toArray) (results_cell_row rfl _ _ R 188 D.toArray (0,0) _ rfl (R2.out.row D) underlying188 rfl HZ1.out) rfl ⟨rfl,?_⟩;exact O2.out.setRow (fun h=>absurd h (by have:=HG.out.2.1;omega)) _
theorem Qco (v:Value) (xs:List Int) (hl:xs.length≤17) (h8:U8 xs) (w:World) (hb:Bs .u8 w v xs) :
  Calls prog 143 #[v] w fun e w'=>e=.returned (.agg (ul (nmb xs)).toArray)∧Only (fun _=>False) w w':=by
 have hzv:=(zero_of_info (P:=prog) Tryz.zero34).1;obtain ⟨Z,hZ⟩:∃Z,Z=z5:=⟨_,rfl⟩;rw [←hZ] at hzv;obtain ⟨D,hD⟩:∃D,D=ul (nmb xs):=⟨_,rfl⟩
 have HZ1:Hid ((prog.info? 188).map (·.size)=some D.toArray.size):=by
  show _=_
  rw [hD];simp [QaF,QbD,Tryz.size34]
 have HZ2:Hid (Z.toArray.size=D.toArray.size):=by
  show _=_
  rw [hD,hZ];simp [QaF,QbD,Qct]
 have HA:Hid (D.toArray.all (·.oneCell')=true):=by
  show _=_
  rw [hD];exact QbX _
 rw [←hD];have HD:=Qaa (And.intro hD hZ);obtain ⟨ao,cap,rfl⟩:=hb.len
 have HBS:Hid (∀j,j<xs.length→∃b off,ao=some ⟨b,off,none⟩∧w.cell? ⟨b,off+j,none⟩=some (.int .u8 (xs.getD j 0))):=fun j hj=>by
  obtain ⟨b',off',cap',e,hc⟩:=hb.at j hj;simp at e;exact ⟨b',off',e.1,hc⟩
 have H8:=Qaa (And.intro h8 hl);obtain ⟨m,hm⟩:∃m,m=xs.length:=⟨_,rfl⟩;have HM:=Qaa hm;rw [←hm] at hl HBS ⊢;clear hZ hD hb h8 hm;go_enter func143,ntmps143;go_wp2_with fail
 have S0:Hid (Blk ((w.alloc (.cells Z.toArray 188)).alloc (.cells Z.toArray 188)) w.heap.size 188 Z∧Blk ((w.alloc (.cells Z.toArray 188)).alloc (.cells Z.toArray 188)) (w.heap.size+1) 188 (ul (rawI xs 0))∧Only (fun _=>False) w ((w.alloc (.cells Z.toArray 188)).alloc (.cells Z.toArray 188))):=by
  refine ⟨(Blk.new w 188 Z).alloc _,?_,((Only.refl _ _).alloc _).alloc _⟩;have:=Blk.new (w.alloc (.cells Z.toArray 188)) 188 Z;rw [size_alloc,HD.out.2] at this;rw [HD.out.2];exact this
 obtain ⟨G,hG⟩:∃G,G=w.heap.size+1:=⟨_,rfl⟩;rw [←hG] at S0 ⊢;obtain ⟨R,hR⟩:∃R,R=w.heap.size:=⟨_,rfl⟩;have HG:Hid (w.heap.size≤G∧w.heap.size≤R∧R≠G):=⟨by omega,by omega,by omega⟩;rw [←hR] at S0 ⊢;obtain ⟨W0,hW0⟩:∃W0,W0=(w.alloc (.cells Z.toArray 188)).alloc (.cells Z.toArray 188):=⟨_,rfl⟩;rw [←hW0] at S0 ⊢;clear hG hR hW0 hzv
 go_loopw [9] (fun i wr=>∃n:Nat,n≤m∧i=.int .i64 n∧Blk wr R 188 Z∧Blk wr G 188 (ul (rawI xs n))∧Only (fun _=>False) w wr) (fun i _=>m - (intOf i).toNat)
 case atStart=>exact ⟨0,by omega,rfl,S0.out⟩
 case round =>
  obtain ⟨n,hn,rfl,hR,hS,hO⟩:=hrel;clear S0
  by_cases hlt:n<m
  ·obtain ⟨b,off,rfl,hc0⟩:=HBS.out n hlt
   have hcb:wr.cell? ⟨b,off+n,none⟩=some (.int .u8 (xs.getD n 0)):=by
    rw [World.cell?_of_block (hO.block b (World.block_lt_of_cell? w _ hc0) (fun f=>f))];exact hc0
   obtain ⟨y,hy⟩:=Int.eq_ofNat_of_zero_le (H8.out.1.at n).1;have hy2:=(H8.out.1.at n).2;rw [hy] at hcb hy2;obtain ⟨q,hq⟩:∃q,q=8*n / 26:=⟨_,rfl⟩;obtain ⟨r,hr⟩:∃r,r=8*n % 26:=⟨_,rfl⟩
   have hq5:q<5:=by omega
   have hc:wr.cell? ⟨G,q,none⟩=some (.int .u64 (((rawI xs n).getD q 0:Nat):Int)):=by
    rw [hS.cell,ul_at _ _ (by rw [Qb4];exact hq5)]
   have hlx:=Qm0 xs H8.out.1 n q;have hf:=hS.froz q;obtain ⟨x,hx⟩:∃x,x=(rawI xs n).getD q 0:=⟨_,rfl⟩;rw [←hx] at hc hlx;have hpw:2^r≤2^25:=Nat.pow_le_pow_right (by decide) (by omega);obtain ⟨t,ht⟩:∃t,t=y*2^r:=⟨_,rfl⟩
   have htl:t≤255*33554432:=by rw [ht];exact Nat.mul_le_mul (by omega) hpw
   have hti:(y:Int)*2^r=(t:Int):=by rw [ht];simp
   have s1:IntKind.u64.wrap ((y:Int)*2^r)=(t:Int):=by rw [hti,wrap64 t (by omega)]
   have s2:((y:Int)*2^r) % 18446744073709551616=(t:Int):=by rw [hti];omega
   obtain ⟨v,hv⟩:∃v,v=x+t:=⟨_,rfl⟩
   have hadd:IntKind.u64.wrap ((x:Int)+(t:Int))=(v:Int):=by
    rw [show ((x:Int)+(t:Int))=((v:Nat):Int) by omega,wrap64 v (by omega)]
   have hsn:(rawI xs n).set q v=rawI xs (n+1):=by
    rw [rawI,←hq,←hr,←hx,hy,hv,ht];rfl
   have N1:Hid (Blk (wr.drew.setCell ⟨G,q,none⟩ (.int .u64 (v:Int))) R 188 Z∧Blk (wr.drew.setCell ⟨G,q,none⟩ (.int .u64 (v:Int))) G 188 (ul (rawI xs (n+1)))∧Only (fun _=>False) w (wr.drew.setCell ⟨G,q,none⟩ (.int .u64 (v:Int)))):=by
    have oc:=((Only.refl (fun k=>k=G) wr).drew).setCell (p:=⟨G,q,none⟩) (fun _=>rfl) (.int .u64 (v:Int));refine ⟨hR.keep oc HG.out.2.2,?_,hO.trans oc (fun i hi e=>by have:=HG.out.1;omega)⟩;have h:=hS.drew.set q (.int .u64 (v:Int));rw [QeS,hsn] at h;exact h
   have hmul:IntKind.i64.wrap ((n:Int)*8)=((8*n:Nat):Int):=by rw [IntKind.wrap_i64];omega
   have hm2:(n:Int)*8=((8*n:Nat):Int):=by omega
   obtain ⟨p,hp⟩:∃p,p=8*n:=⟨_,rfl⟩;rw [←hp] at hmul hm2 hq hr
   have hdv:(p:Int).tdiv 26=(q:Int):=by rw [Int.tdiv_eq_ediv_of_nonneg (by omega)];omega
   have hdv2:(p:Int) / 26=(q:Int):=by omega
   have hmd:(p:Int).tmod 26=(r:Int):=by rw [Int.tmod_eq_emod_of_nonneg (by omega)];omega
   have hmd2:(p:Int) % 26=(r:Int):=by omega
   have hq6:(q:Int)<5:=by omega
   have hr6:(r:Int)≤64:=by omega
   have i1:(n:Int)<m:=by omega
   clear hS hR hO hc0 hy hlx hx hpw ht htl hti hv hsn hq hr hp HBS;go_wp2_with fail;go_region
   all_goals go_wp2
   all_goals go_roundw
   case rel=>exact ⟨n+1,by omega,by go_num,N1.out⟩
   case measure=>simp [intOf];omega
  ·obtain rfl:n=m:=by omega
   have A:=Qaa (QbE (rawI xs n) (Qb4 _ _) ((Qm0 xs H8.out.1 n).mono (by have:=H8.out.2;have:=HM.out;omega)) wr)
   have HN:Hid ((prog.info? 188).map (·.size)=some (ul (rawI xs n)).toArray.size∧(ul (rawI xs n)).toArray.size=D.toArray.size):=by
    refine ⟨QaW _ (Qb4 _ _),?_⟩;rw [HD.out.1];simp [QaF,Qb4,QbD]
   have S1:=Qaa hS;have R1:=Qaa hR;have O1:=Qaa hO
   have ED:ul (sdg (rawI xs n) 0)=D:=by rw [HD.out.1,nmb,HM.out]
   rw [ED] at A;obtain ⟨NN,hNN⟩:∃NN,NN=ul (rawI xs n):=⟨_,rfl⟩;rw [←hNN] at A HN S1;clear hS hR hO ED hNN;go_wp2_with (first|(refine wpList_load_row rfl 188 (.tmp 3) rfl G rfl 188 NN.toArray (0,0) _ S1.out underlying188 rfl HN.out.1 ?_));refine A.out.mono ?_;rintro e w1 ⟨rfl,o1⟩;have S2:=Qaa (S1.out.past o1);have R2:=Qaa (R1.out.past o1);have O2:=Qaa (O1.out.same o1);have S3:=Qaa (S2.out.row D);have R3:Hid (Blk (w1.setRow G D.toArray) R 188 Z):=R2.out.keep ((Only.refl (fun k=>k=G) _).setRow (fun _=>rfl) _) HG.out.2.2;clear o1 S1 R1 O1 A;go_wp2_with (first|(refine wpList_store_row rfl 188 (.tmp 3) (.tmp 31) rfl G D.toArray rfl rfl 188 NN.toArray S2.out HZ1.out HN.out.2 HA.out ?_)|(refine wpList_load_row rfl 188 (.tmp 3) rfl G rfl 188 D.toArray (0,0) _ S3.out underlying188 rfl HZ1.out ?_)|(refine wpList_store_row rfl 188 (.tmp 2) (.tmp 33) rfl R D.toArray rfl rfl 188 Z.toArray R3.out HZ1.out HZ2.out HA.out ?_));refine bodyPost_ret (v:=.agg D.toArray) (results_cell_row rfl _ _ R 188 D.toArray (0,0) _ rfl (R3.out.row D) underlying188 rfl HZ1.out) rfl ⟨rfl,?_⟩;exact (O2.out.setRow (fun h=>absurd h (by have:=HG.out.1;omega)) _).setRow (fun h=>absurd h (by have:=HG.out.2.1;omega)) _
theorem Qg2 (s:List Int) (i j:Nat) (x:Int):(s.set i x).getD j 0=if i=j∧i<s.length then x else s.getD j 0:=by
 simp only [Yad,List.getElem?_set]
 by_cases h:i=j
 ·subst h
  by_cases h2:i<s.length
  ·simp [h2]
  ·simp [h2]
 ·simp [h]
def c1 (xs:List Int):Nat→List Int
 | 0=>xs
 | j+1=>(c1 xs j).set (4*j+3) ((c1 xs j).getD (4*j+3) 0 % 16)
def c2 (xs:List Int):Nat→List Int
 | 0=>c1 xs 4
 | j+1=>(c2 xs j).set (4*j+4) ((c2 xs j).getD (4*j+4) 0 - (c2 xs j).getD (4*j+4) 0 % 4)
theorem QmM (xs:List Int) (j:Nat):(c1 xs j).length=xs.length:=by
 induction j with
 | zero=>rfl
 | succ j ih=>rw [c1,List.length_set,ih]
theorem Qg3 (xs:List Int) (j:Nat):(c2 xs j).length=xs.length:=by
 induction j with
 | zero=>exact QmM xs 4
 | succ j ih=>rw [c2,List.length_set,ih]
theorem c1_u8 (xs:List Int) (h:U8 xs) (j:Nat):U8 (c1 xs j):=by
 induction j with
 | zero=>exact h
 | succ j ih=>exact ih.set _ _ (by have:=ih.at (4*j+3);omega)
theorem c2_u8 (xs:List Int) (h:U8 xs) (j:Nat):U8 (c2 xs j):=by
 induction j with
 | zero=>exact c1_u8 xs h 4
 | succ j ih=>exact ih.set _ _ (by have:=ih.at (4*j+4);omega)
theorem c1_at (xs:List Int) (hl:xs.length=16) (j:Nat) (hj:j≤4) (i:Nat):(c1 xs j).getD i 0=if i % 4=3∧i / 4<j then xs.getD i 0 % 16 else xs.getD i 0:=by
 induction j with
 | zero=>simp [c1]
 | succ j ih =>
  rw [c1,Qg2,QmM,hl]
  by_cases h:4*j+3=i
  ·subst h
   rw [if_pos ⟨rfl,by omega⟩,ih (by omega),if_neg (by omega),if_pos (by omega)]
  ·rw [if_neg (fun e=>h e.1),ih (by omega)]
   by_cases h2:i % 4=3∧i / 4<j
   ·rw [if_pos h2,if_pos (by omega)]
   ·rw [if_neg h2,if_neg (by omega)]
theorem c2_at (xs:List Int) (hl:xs.length=16) (j:Nat) (hj:j≤3) (i:Nat) (hi:i<16):(c2 xs j).getD i 0=if i % 4=3 then xs.getD i 0 % 16 else if i % 4=0∧0<i∧i / 4≤j then xs.getD i 0 - xs.getD i 0 % 4 else xs.getD i 0:=by
 induction j with
 | zero =>
  rw [c2,c1_at xs hl 4 (by decide)]
  by_cases h:i % 4=3
  ·rw [if_pos (by omega),if_pos h]
  ·rw [if_neg (by omega),if_neg h,if_neg (by omega)]
 | succ j ih =>
  rw [c2,Qg2,Qg3,hl];have h1:=ih (by omega)
  by_cases h:4*j+4=i
  ·subst h
   rw [if_pos ⟨rfl,by omega⟩,h1,if_neg (by omega),if_neg (by omega),if_neg (by omega),if_pos (by omega)]
  ·rw [if_neg (fun e=>h e.1),h1]
   by_cases h2:i % 4=3
   ·rw [if_pos h2,if_pos h2]
   ·rw [if_neg h2,if_neg h2]
    by_cases h3:i % 4=0∧0<i∧i / 4≤j
    ·rw [if_pos h3,if_pos (by omega)]
    ·rw [if_neg h3,if_neg (by omega)]
theorem QpA (key:List Int) (hk:16≤key.length):c2 (key.take 16) 3=QdS key:=by
 have hl:(key.take 16).length=16:=by rw [Yag];omega
 apply List.ext_getElem
 ·rw [Qg3,hl,QdC]
 ·intro i h1 h2
  have hi:i<16:=by rw [QdC] at h2;exact h2
  have e1:=c2_at (key.take 16) hl 3 (by decide) i hi;rw [Yad,Yaf h1] at e1
  have e2:(key.take 16).getD i 0=key.getD i 0:=by simp [List.getD_eq_getElem?_getD,hi]
  rw [e2] at e1;refine Eq.trans e1 ?_;simp only [QdS,List.getElem_map,List.getElem_range]
  by_cases h3:i % 4=3
  ·rw [if_pos h3,if_pos h3]
  ·rw [if_neg h3,if_neg h3]
   by_cases h4:i % 4=0∧0<i
   ·rw [if_pos (by omega),if_pos h4]
   ·rw [if_neg (by omega),if_neg h4]
theorem QmN:∀x:Fin 256,x.val &&& 15=x.val % 16:=by decide +kernel
theorem Qkx:∀x:Fin 256,x.val &&& 252=x.val - x.val % 4:=by decide +kernel
theorem and15 (x:Int) (h:0≤x∧x≤255):bits .and .u8 x 15=x % 16:=by
 obtain ⟨n,rfl⟩:=Int.eq_ofNat_of_zero_le h.1;rw [show (15:Int)=((15:Nat):Int) from rfl,u8_and_nat _ _ (by omega) (by decide),QmN ⟨n,by omega⟩];simp
theorem Quj (x:Int) (h:0≤x∧x≤255):bits .and .u8 x 252=x - x % 4:=by
 obtain ⟨n,rfl⟩:=Int.eq_ofNat_of_zero_le h.1;rw [show (252:Int)=((252:Nat):Int) from rfl,u8_and_nat _ _ (by omega) (by decide),Qkx ⟨n,by omega⟩];show ((n - n % 4:Nat):Int)=_;omega
def z16:List Value:=bl (List.replicate 16 0)
theorem Tryz.zero46:(prog.info? 217).map (fun i=>(i.zero,i.size))=some (some (.agg z16.toArray),16):=by kernel_rfl
theorem Qg4 (t:TypeId) (N cap:Nat) (v:Value) (xs:List Int) (W:World) (G L k:Nat) (hN:Blk W G t (bl (List.replicate N 0))) (hb:Bs .u8 W v xs) (hk:k=min L xs.length) (hL:L≤N) :
  ∃w3,(Builtin.copy_ #[22,22] 3 #[.slice (some ⟨G,0,none⟩) L cap,v]).run prog W=.ok (.int .i64 (k:Int)) w3∧Blk w3 G t (bl (xs.take k++List.replicate (N - k) 0))∧Only (fun k=>k=G) W w3:=by
 have hb0:=hb;obtain ⟨ao,vc,rfl,hc,hr⟩:=hb
 by_cases h0:xs=[]
 ·subst h0
  simp only [List.length_nil] at hk
  obtain rfl:k=0:=by omega
  refine ⟨W,run_copy_none (P:=prog) W 22 22 3 5 _ _ L cap 0 vc underlying22 Tryz.one5 (Nat.zero_min _),?_,Only.refl _ _⟩
  simpa using hN
 ·obtain ⟨b,off,rfl,hcell⟩:=hr h0
  have hkl:(bl (xs.take k)).length=k:=by rw [Qal,Yag];omega
  have hrun:=run_copy_row (P:=prog) W 22 22 3 5 G 0 L cap ⟨b,off,none⟩ xs.length vc (bl (List.replicate N 0)).toArray t (bl (xs.take k)) underlying22 Tryz.one5 hN
   (by rw [hkl];exact hk.trans (Nat.min_comm _ _)) (fun j u hu=>by
    have hj:j<k:=by have:=(List.getElem?_eq_some_iff.1 hu).1;rwa [hkl] at this
    refine hb0.news j u ?_;rw [←hu]
    simp only [bl,List.getElem?_map,List.getElem?_take,if_pos hj]) (by rw [hkl];simp [Qal];omega) (Qb7 _)
  rw [show goInt ((bl (xs.take k)).length:Int)=.int .i64 (k:Int) by rw [hkl];rfl] at hrun;refine ⟨_,hrun,?_,(Only.refl (fun k=>k=G) W).setRow (fun _=>rfl) _⟩
  have e:bl (xs.take k++List.replicate (N - k) 0)=(bl (List.replicate N 0)).toArray.toList.take 0++bl (xs.take k)++(bl (List.replicate N 0)).toArray.toList.drop (0+(bl (xs.take k)).length):=by
   show _=List.take 0 (bl (List.replicate N 0))++bl (xs.take k)++List.drop (0+(bl (xs.take k)).length) (bl (List.replicate N 0))
   rw [hkl,Nat.zero_add,List.take_zero,List.nil_append];unfold bl;rw [List.map_append,List.map_replicate,List.map_replicate,List.drop_replicate]
  rw [e];exact hN.row _
def i4:List Value:=[.int .i64 3,.int .i64 7,.int .i64 11,.int .i64 15]
def i3:List Value:=[.int .i64 4,.int .i64 8,.int .i64 12]
theorem Tryz.agg3 (w:World):(isAgg 3).run prog w=.ok false w:=by kernel_rfl
theorem Tryz.one3:(prog.info? 3).map (·.size)=some 1:=by kernel_rfl
theorem ix_i4 (j:Nat) (hj:j<4) (w:World):(Instr.index 218 (.agg i4.toArray) (.int .i64 j)).run prog w=.ok (.int .i64 ((4*j+3:Nat):Int)) w :=
 QaB 218 3 4 i4 j _ underlying218 Tryz.agg3 Tryz.one3 hj (by
  have:j=0∨j=1∨j=2∨j=3:=by omega
  rcases this with rfl | rfl | rfl | rfl <;> rfl) w
theorem ix_i3 (j:Nat) (hj:j<3) (w:World):(Instr.index 219 (.agg i3.toArray) (.int .i64 j)).run prog w=.ok (.int .i64 ((4*j+4:Nat):Int)) w :=
 QaB 219 3 3 i3 j _ underlying219 Tryz.agg3 Tryz.one3 hj (by
  have:j=0∨j=1∨j=2:=by omega
  rcases this with rfl | rfl | rfl <;> rfl) w
theorem Bs.of_bytes {w:World} {g:Nat} {E:TypeId} {s:List Int} (h:Blk w g E (bl s)) (n:Nat) (hn:s.length=n):Bs .u8 w (.slice (some ⟨g,0,none⟩) n n) s:=by
 refine ⟨_,n,by rw [hn],by rw [hn];exact Nat.le_refl _,fun _=>⟨g,0,rfl,fun j hj=>?_⟩⟩;rw [Nat.zero_add,h.cell,bl_at s j hj]
theorem Qe0 (v:Value) (xs:List Int) (hl:xs.length=16) (h8:U8 xs) (w:World) (hb:Bs .u8 w v xs) :
  Calls prog 142 #[v] w fun e w'=>e=.returned (.agg (ul (nmb (c2 xs 3))).toArray)∧Only (fun _=>False) w w':=by
 have hzv:=(zero_of_info (P:=prog) Tryz.zero34).1;have hzw:=(zero_of_info (P:=prog) Tryz.zero46).1;obtain ⟨Z,hZ⟩:∃Z,Z=z5:=⟨_,rfl⟩;rw [←hZ] at hzv;obtain ⟨Y,hY⟩:∃Y,Y=z16:=⟨_,rfl⟩;rw [←hY] at hzw;obtain ⟨D,hD⟩:∃D,D=ul (nmb (c2 xs 3)):=⟨_,rfl⟩
 have HZ1:Hid ((prog.info? 188).map (·.size)=some D.toArray.size∧Z.toArray.size=D.toArray.size∧D.toArray.all (·.oneCell')=true):=by
  rw [hD,hZ];exact ⟨QaW _ (QbD _),by simp [QaF,QbD,Qct],QbX _⟩
 rw [←hD];have HD:=Qaa hD;obtain ⟨W1,hW1⟩:∃W1,W1=(w.alloc (.cells Z.toArray 188)).alloc (.cells Y.toArray 217):=⟨_,rfl⟩
 have hB1:Blk W1 w.heap.size 188 Z:=by rw [hW1];exact (Blk.new w 188 Z).alloc _
 have hB2:Blk W1 (w.heap.size+1) 217 (bl (List.replicate 16 0)):=by
  have:=Blk.new (w.alloc (.cells Z.toArray 188)) 217 Y;rw [size_alloc] at this;rw [hW1];rw [hY] at this ⊢;exact this
 have hO1:Only (fun _=>False) w W1:=by rw [hW1];exact ((Only.refl _ _).alloc _).alloc _
 obtain ⟨w3,hcp,hB3,hO3⟩:=Qg4 217 16 16 v xs W1 (w.heap.size+1) 16 16 hB2 (hb.past hO1) (by rw [hl];rfl) (Nat.le_refl _);obtain ⟨ao,cap,rfl⟩:=hb.len;rw [hl] at hcp ⊢
 have K0:Hid (Blk w3 w.heap.size 188 Z∧Blk w3 (w.heap.size+1) 217 (bl (c1 xs 0))∧Only (fun _=>False) w w3):=by
  refine ⟨hB1.keep hO3 (by omega),?_,hO1.trans hO3 (fun k hk e=>by omega)⟩;have h:=hB3;rw [List.take_of_length_le (by omega),Nat.sub_self,List.replicate_zero,List.append_nil] at h;exact h
 have H8:=Qaa (And.intro h8 hl);rw [hW1] at hcp;clear hZ hY hD hW1 hB1 hB2 hO1 hB3 hO3 hb h8 hl;go_enter func142,ntmps142;go_wp2_with (first|(refine Qax rfl 218 _ rfl i4.toArray (by kernel_rfl) ?_));obtain ⟨G,hG⟩:∃G,G=w.heap.size+1:=⟨_,rfl⟩;rw [←hG] at K0 ⊢;obtain ⟨R,hR⟩:∃R,R=w.heap.size:=⟨_,rfl⟩;have HG:Hid (w.heap.size≤G∧w.heap.size≤R∧R≠G):=⟨by omega,by omega,by omega⟩;rw [←hR] at K0 ⊢;have X4:=Qaa ix_i4;have X3:=Qaa ix_i3;obtain ⟨I4,hI4⟩:∃I4,I4=i4:=⟨_,rfl⟩;rw [←hI4] at X4 ⊢;clear hG hR hzv hzw hI4 hcp
 go_loopw [12] (fun i wr=>∃n:Nat,n≤4∧i=.int .i64 n∧Blk wr R 188 Z∧Blk wr G 217 (bl (c1 xs n))∧Only (fun _=>False) w wr) (fun i _=>4 - (intOf i).toNat)
 case atStart=>exact ⟨0,by omega,rfl,K0.out⟩
 case round =>
  obtain ⟨n,hn,rfl,k1,k2,k3⟩:=hrel;clear K0
  by_cases hlt:n<4
  ·have hix:=X4.out n hlt
   have hu:=c1_u8 xs H8.out.1 n
   have hc:wr.cell? ⟨G,4*n+3,none⟩=some (.int .u8 ((c1 xs n).getD (4*n+3) 0)):=by
    rw [k2.cell,bl_at _ _ (by rw [QmM,H8.out.2];omega)]
   have hf:=k2.froz (4*n+3);have hand:=and15 _ (hu.at (4*n+3));have hsn:(c1 xs n).set (4*n+3) ((c1 xs n).getD (4*n+3) 0 % 16)=c1 xs (n+1):=rfl;obtain ⟨x,hx⟩:∃x,x=(c1 xs n).getD (4*n+3) 0:=⟨_,rfl⟩;rw [←hx] at hc hand hsn;obtain ⟨y,hy⟩:∃y,y=x % 16:=⟨_,rfl⟩;rw [←hy] at hand hsn;obtain ⟨p,hp⟩:∃p,p=4*n+3:=⟨_,rfl⟩;rw [←hp] at hix hc hf hsn
   have N1:Hid (Blk (wr.setCell ⟨G,p,none⟩ (.int .u8 y)) R 188 Z∧Blk (wr.setCell ⟨G,p,none⟩ (.int .u8 y)) G 217 (bl (c1 xs (n+1)))∧Only (fun _=>False) w (wr.setCell ⟨G,p,none⟩ (.int .u8 y))):=by
    have oc:=(Only.refl (fun k=>k=G) wr).setCell (p:=⟨G,p,none⟩) (fun _=>rfl) (.int .u8 y);refine ⟨k1.keep oc HG.out.2.2,?_,k3.trans oc (fun i hi e=>by have:=HG.out.1;omega)⟩;have h:=k2.set p (.int .u8 y);rw [QiB,hsn] at h;exact h
   have i1:(n:Int)<4:=by omega
   have i2:(p:Int)<16:=by omega
   clear k1 k2 k3 hu hsn hx hy hp;go_wp2
   go_roundw
   case rel=>exact ⟨n+1,by omega,by go_num,N1.out⟩
   case measure=>simp [intOf];omega
  ·obtain rfl:n=4:=by omega
   have K1:Hid (Blk wr R 188 Z∧Blk wr G 217 (bl (c2 xs 0))∧Only (fun _=>False) w wr):=⟨k1,k2,k3⟩;clear k1 k2 k3;go_wp2_with (first|(refine Qax rfl 219 _ rfl i3.toArray (by kernel_rfl) ?_));obtain ⟨I3,hI3⟩:∃I3,I3=i3:=⟨_,rfl⟩;rw [←hI3] at X3 ⊢;clear hI3 X4
   go_loopw [22] (fun i wr=>∃n:Nat,n≤3∧i=.int .i64 n∧Blk wr R 188 Z∧Blk wr G 217 (bl (c2 xs n))∧Only (fun _=>False) w wr) (fun i _=>3 - (intOf i).toNat)
   case atStart=>exact ⟨0,by omega,rfl,K1.out⟩
   case round =>
    obtain ⟨n,hn,rfl,k1,k2,k3⟩:=hrel;clear K1
    by_cases hlt:n<3
    ·have hix:=X3.out n hlt
     have hu:=c2_u8 xs H8.out.1 n
     have hc:wr.cell? ⟨G,4*n+4,none⟩=some (.int .u8 ((c2 xs n).getD (4*n+4) 0)):=by
      rw [k2.cell,bl_at _ _ (by rw [Qg3,H8.out.2];omega)]
     have hf:=k2.froz (4*n+4);have hand:=Quj _ (hu.at (4*n+4));have hsn:(c2 xs n).set (4*n+4) ((c2 xs n).getD (4*n+4) 0 - (c2 xs n).getD (4*n+4) 0 % 4)=c2 xs (n+1):=rfl;obtain ⟨x,hx⟩:∃x,x=(c2 xs n).getD (4*n+4) 0:=⟨_,rfl⟩;rw [←hx] at hc hand hsn;obtain ⟨y,hy⟩:∃y,y=x - x % 4:=⟨_,rfl⟩;rw [←hy] at hand hsn;obtain ⟨p,hp⟩:∃p,p=4*n+4:=⟨_,rfl⟩;rw [←hp] at hix hc hf hsn
     have N1:Hid (Blk (wr.setCell ⟨G,p,none⟩ (.int .u8 y)) R 188 Z∧Blk (wr.setCell ⟨G,p,none⟩ (.int .u8 y)) G 217 (bl (c2 xs (n+1)))∧Only (fun _=>False) w (wr.setCell ⟨G,p,none⟩ (.int .u8 y))):=by
      have oc:=(Only.refl (fun k=>k=G) wr).setCell (p:=⟨G,p,none⟩) (fun _=>rfl) (.int .u8 y);refine ⟨k1.keep oc HG.out.2.2,?_,k3.trans oc (fun i hi e=>by have:=HG.out.1;omega)⟩;have h:=k2.set p (.int .u8 y);rw [QiB,hsn] at h;exact h
     have i1:(n:Int)<3:=by omega
     have i2:(p:Int)<16:=by omega
     clear k1 k2 k3 hu hsn hx hy hp;go_wp2
     go_roundw
     case rel=>exact ⟨n+1,by omega,by go_num,N1.out⟩
     case measure=>simp [intOf];omega
    ·obtain rfl:n=3:=by omega
     have A:=Qaa (Qco _ (c2 xs 3) (by rw [Qg3,H8.out.2];decide) (c2_u8 xs H8.out.1 3) wr (Bs.of_bytes k2 16 (by rw [Qg3,H8.out.2])));rw [←HD.out] at A;have R1:=Qaa k1;have O1:=Qaa k3;clear k1 k2 k3;go_wp2_with fail;refine A.out.mono ?_;rintro e w1 ⟨rfl,o1⟩;have R2:=Qaa (R1.out.past o1);have O2:=Qaa (O1.out.same o1);clear o1 R1 O1 A;go_wp2_with (first|(refine wpList_store_row rfl 188 (.tmp 2) (.tmp 32) rfl R D.toArray rfl rfl 188 Z.toArray R2.out HZ1.out.1 HZ1.out.2.1 HZ1.out.2.2 ?_));refine bodyPost_ret (v:=.agg D.toArray) (results_cell_row rfl _ _ R 188 D.toArray (0,0) _ rfl (R2.out.row D) underlying188 rfl HZ1.out.1) rfl ⟨rfl,?_⟩;exact O2.out.setRow (fun h=>absurd h (by have:=HG.out.2.1;omega)) _
theorem QmO (key xs:List Int) (hk:key.length=32) (k8:U8 key) (x8:U8 xs) :
  leB 16 (LV (sdg (pls (lst (gth (nmb (c2 (key.take 16) 3)) xs ((xs.length+15) / 16))) (nmb (key.drop 16))) 0))=TAG key xs:=by
 have hc:=QpA key (by omega);have hcl:(QdS key).length=16:=QdC key
 have p16:(256:Nat)^16<2^130:=by decide +kernel
 have h1:LV (nmb (c2 (key.take 16) 3))=nv (QdS key):=by
  rw [hc];refine Qm1 _ (by rw [hcl];decide) ?_;have:=nv_lt _ (Qm9 key k8);rw [hcl] at this;omega
 have hdl:(key.drop 16).length=16:=by rw [Yai,hk]
 have h2:LV (nmb (key.drop 16))=nv (key.drop 16):=by
  refine Qm1 _ (by rw [hdl];decide) ?_;have:=nv_lt _ (k8.drop 16);rw [hdl] at this;omega
 have h3:=QsE (nmb (c2 (key.take 16) 3)) xs (QbD _) x8 ((xs.length+15) / 16);have h4:=Qur (gth (nmb (c2 (key.take 16) 3)) xs ((xs.length+15) / 16)) (Qb5 _ _ _) (Qm7 _ _ (Qfj _) _);have h5:=Qcp (pls (lst (gth (nmb (c2 (key.take 16) 3)) xs ((xs.length+15) / 16))) (nmb (key.drop 16))) (QaL _ _);rw [QmZ _ _ (QeI _ (Qb5 _ _ _)) (QbD _),h4,h3,h1,h2] at h5;unfold TAG;rw [←h5.1];refine Qut (Qg8 _ _) (Qg8 _ _) (by rw [QdB,QdB]) ?_;rw [Qq1,Qq1,show (2:Nat)^130=256^16*4 by decide +kernel,Nat.mul_assoc,Nat.add_mul_mod_self_left]
end Go.Proofs.YtnhapmboienipaaGreatDoor
