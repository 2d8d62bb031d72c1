import Derived.Test.YtnhapmboienipaaGreatDoorY23
namespace Go.Proofs.YtnhapmboienipaaGreatDoor
set_option maxHeartbeats 1600000
set_option maxRecDepth 100000
open Go.RowKit _root_.Go.Proofs.Tryz
def bpart (s:List Nat) (i:Nat):List Int:=(s.take i).flatMap le4
theorem Qlh (s:List Nat) (i:Nat) (hi:i≤s.length):(bpart s i).length=4*i:=by
 unfold bpart;rw [Qcd,Yag];omega
theorem Qj2 (s:List Nat) (i:Nat) (hi:i<s.length):bpart s (i+1)=bpart s i++le4 (s.getD i 0):=by
 unfold bpart;rw [QbP s i hi,List.flatMap_append];simp
theorem Qli (s:List Nat) (n:Nat) (hn:s.length≤n):bpart s n=s.flatMap le4:=by
 unfold bpart;rw [List.take_of_length_le hn]
theorem Qfx (x j:Nat) (hj:j<4):(le4 x).take (j+1)=(le4 x).take j++[(le4 x).getD j 0]:=by
 have:j=0∨j=1∨j=2∨j=3:=by omega
 rcases this with rfl | rfl | rfl | rfl <;> rfl
theorem Qog (P Q:List Int) (k n:Nat) (y:Int) (hn:n=k+1) (hP:P.length=Q.length):(P++List.replicate n 0).set Q.length y=(P++[y])++List.replicate k 0:=by
 subst hn;rw [←hP,List.set_append_right _ _ (Nat.le_refl _),Nat.sub_self,List.replicate_succ,Yab];simp
theorem Tryz.size42:(prog.info? 145).map (·.size)=some 64:=by kernel_rfl
def zB:List Value:=bl (List.replicate 64 0)
theorem Tryz.zero42:(prog.info? 145).map (fun i=>(i.zero,i.size))=some (some (.agg zB.toArray),64):=by kernel_rfl
theorem Qlj:zB.length=64:=rfl
theorem Qlk (s:List Int):(bl s).toArray.all (·.oneCell')=true:=all_oneCell_toArray (Qb7 s)
theorem QtB (s:List Nat) (i:Nat) (hi:i<16):(ccS s).getD i 0=((dbls 10 s).getD i 0+s.getD i 0) % 4294967296:=by
 simp [ccS,List.getD_eq_getElem?_getD,hi]
theorem Qrj (c j:Nat) (hj:j<4):(le4 c).getD j 0=((c / 256^j % 256:Nat):Int):=by
 have:j=0∨j=1∨j=2∨j=3:=by omega
 rcases this with rfl | rfl | rfl | rfl <;> simp [le4]
theorem QtC (s:List Nat) (hs:s.length=16) (j:Nat) (hj:j<16) (w:World):(Instr.index 183 (.agg (wl s).toArray) (.int .i64 j)).run prog w=.ok (.int .u32 ((s.getD j 0:Nat):Int)) w :=
 QaB 183 134 16 (wl s) j _ underlying183 Tryz.agg29 Tryz.one29 hj (wl_at s j (by omega)) w
theorem Qeb (s:List Nat) (hs:s.length=16) (h32:W32 s) (w:World):Calls prog 140 #[.agg (wl s).toArray] w fun e w'=>e=.returned (.agg (bl ((ccS s).flatMap le4)).toArray)∧Only (fun _=>False) w w':=by
 have hzv:=(zero_of_info (P:=prog) Tryz.zero42).1;obtain ⟨Z,hZ⟩:∃Z,Z=zB:=⟨_,rfl⟩;rw [←hZ] at hzv;have HZ:=Qaa hZ;obtain ⟨D,hD⟩:∃D,D=bl ((ccS s).flatMap le4):=⟨_,rfl⟩
 have hDl:D.length=64:=by rw [hD,Qal,Qcd,QhK]
 have HZ1:Hid ((prog.info? 145).map (·.size)=some D.toArray.size):=by
  show _=_
  rw [Tryz.size42];simp [hDl]
 have HZ2:Hid (Z.toArray.size=D.toArray.size):=by
  show _=_
  rw [hZ];simp [hDl,Qlj]
 have HA:Hid (D.toArray.all (·.oneCell')=true):=by
  show _=_
  rw [hD];exact Qlk _
 rw [←hD];have HD:=Qaa hD;have HS:=Qaa (And.intro hs h32);obtain ⟨B,hB⟩:∃B,B=wl s:=⟨_,rfl⟩;have HB:=Qaa hB
 have HB1:Hid ((prog.info? 183).map (·.size)=some B.toArray.size):=by
  show _=_
  rw [hB];simp [Qaw,hs,Tryz.size44]
 rw [←hB];clear hZ hD hB hs h32;go_enter func140,ntmps140;go_wp2_with (first|(refine wpList_load_row rfl 183 (.tmp 1) rfl w.heap.size rfl 183 B.toArray (0,0) _ (((Blk.new w 183 B).alloc _).alloc _) underlying183 rfl HB1.out ?_))
 have K0:Hid (Blk (((w.alloc (.cells B.toArray 183)).alloc (.cells Z.toArray 145)).alloc (.cells Z.toArray 145)) w.heap.size 183 B∧Blk (((w.alloc (.cells B.toArray 183)).alloc (.cells Z.toArray 145)).alloc (.cells Z.toArray 145)) (w.heap.size+1) 145 Z∧Blk (((w.alloc (.cells B.toArray 183)).alloc (.cells Z.toArray 145)).alloc (.cells Z.toArray 145)) (w.heap.size+1+1) 145 Z∧Only (fun _=>False) w (((w.alloc (.cells B.toArray 183)).alloc (.cells Z.toArray 145)).alloc (.cells Z.toArray 145))):=by
  refine ⟨((Blk.new w 183 B).alloc _).alloc _,?_,?_,(((Only.refl _ _).alloc _).alloc _).alloc _⟩
  ·have:=(Blk.new (w.alloc (.cells B.toArray 183)) 145 Z).alloc (.cells Z.toArray 145)
   rw [size_alloc] at this;exact this
  ·have:=Blk.new ((w.alloc (.cells B.toArray 183)).alloc (.cells Z.toArray 145)) 145 Z
   rw [size_alloc,size_alloc] at this;exact this
 obtain ⟨X,hX⟩:∃X,X=w.heap.size+1+1:=⟨_,rfl⟩;rw [←hX] at K0 ⊢;obtain ⟨R,hR⟩:∃R,R=w.heap.size+1:=⟨_,rfl⟩;rw [←hR] at K0 ⊢;obtain ⟨F,hF⟩:∃F,F=w.heap.size:=⟨_,rfl⟩;have HG:Hid (w.heap.size≤F∧w.heap.size≤R∧w.heap.size≤X∧F≠X∧R≠X):=⟨by omega,by omega,by omega,by omega,by omega⟩;rw [←hF] at K0 ⊢;obtain ⟨W0,hW0⟩:∃W0,W0=(((w.alloc (.cells B.toArray 183)).alloc (.cells Z.toArray 145)).alloc (.cells Z.toArray 145)):=⟨_,rfl⟩;rw [←hW0] at K0 ⊢;clear hX hR hF hW0 hzv;have TC:=QkU s HS.out.1 HS.out.2 W0;rw [←HB.out] at TC;refine TC.mono ?_;clear TC;rintro e w1 ⟨rfl,o1⟩;obtain ⟨T,hT⟩:∃T,T=dbls 10 s:=⟨_,rfl⟩;have HX:=Qaa (QtC (dbls 10 s) (by rw [QdW];exact HS.out.1));have HT:=Qaa (QiZ 10 s HS.out.2);obtain ⟨C,hC⟩:∃C,C=ccS s:=⟨_,rfl⟩
 have HC:Hid (C.length=16∧∀i,i<16→C.getD i 0=((dbls 10 s).getD i 0+s.getD i 0) % 4294967296):=by
  rw [hC];exact ⟨QhK s,QtB s⟩
 rw [←hC] at HD;rw [←hT] at HX HT HC ⊢;obtain ⟨TA,hTA⟩:∃TA,TA=wl T:=⟨_,rfl⟩;rw [←hTA] at HX ⊢
 have K1:Hid (Blk w1 F 183 B∧Blk w1 R 145 Z∧Blk w1 X 145 (bl (bpart C 0++List.replicate 64 0))∧Only (fun _=>False) w w1):=by
  refine ⟨K0.out.1.past o1,K0.out.2.1.past o1,?_,K0.out.2.2.2.same o1⟩;have:=K0.out.2.2.1.past o1;rw [HZ.out] at this;exact this
 clear K0 o1 hT hC hTA;go_wp2
 go_loopw [9] (fun i wr=>∃n:Nat,n≤16∧i=.int .i64 n∧Blk wr F 183 B∧Blk wr R 145 Z∧Blk wr X 145 (bl (bpart C n++List.replicate (64 - 4*n) 0))∧Only (fun _=>False) w wr) (fun i _=>16 - (intOf i).toNat)
 case atStart=>exact ⟨0,by omega,rfl,K1.out⟩
 case round =>
  obtain ⟨n,hn,rfl,k1,k2,k3,k4⟩:=hrel;clear K1
  by_cases hlt:n<16
  ·have hix:=HX.out n hlt
   have hcf:wr.cell? ⟨F,n,none⟩=some (.int .u32 ((s.getD n 0:Nat):Int)):=by
    rw [k1.cell,HB.out,wl_at s n (by rw [HS.out.1];exact hlt)]
   obtain ⟨c,hc⟩:∃c,c=C.getD n 0:=⟨_,rfl⟩
   have hadd:IntKind.u32.wrap (((T.getD n 0:Nat):Int)+((s.getD n 0:Nat):Int))=(c:Int):=by
    rw [QeK,hc,HC.out.2 n hlt]
   have hc32:c<4294967296:=by rw [hc,HC.out.2 n hlt];exact Nat.mod_lt _ (by decide)
   obtain ⟨tn,htn⟩:∃tn,tn=T.getD n 0:=⟨_,rfl⟩;obtain ⟨sn,hsn⟩:∃sn,sn=s.getD n 0:=⟨_,rfl⟩;rw [←htn] at hix hadd;rw [←hsn] at hcf hadd
   have i1:(n:Int)<16:=by omega
   have HK:=Qaa (And.intro k1 (And.intro k2 (And.intro k3 k4)));have HCN:=Qaa hc;clear htn hsn hc k1 k2 k3 k4;go_wp2
   go_loopw [18] (fun i wr=>∃j:Nat,j≤4∧i=.int .i64 j∧Blk wr F 183 B∧Blk wr R 145 Z∧Blk wr X 145 (bl ((bpart C n++(le4 c).take j)++List.replicate (64 - 4*n - j) 0))∧Only (fun _=>False) w wr) (fun i _=>4 - (intOf i).toNat)
   case atStart=>exact ⟨0,by omega,rfl,HK.out.1,HK.out.2.1,by rw [List.take_zero,List.append_nil];exact HK.out.2.2.1,HK.out.2.2.2⟩
   case round =>
    obtain ⟨j,hj,rfl,k1,k2,k3,k4⟩:=hrel;clear HK hcf hix hadd
    by_cases hlj:j<4
    ·have hbl:(bpart C n).length=4*n:=Qlh C n (by rw [HC.out.1];omega)
     have htl:(bpart C n++(le4 c).take j).length=n*4+j:=by
      rw [Yae,hbl,Yag,Qln];omega
     have hcx:wr.cell? ⟨X,n*4+j,none⟩=some (.int .u8 (((bpart C n++(le4 c).take j)++List.replicate (64 - 4*n - j) 0).getD (n*4+j) 0)):=by
      rw [k3.cell,bl_at _ _ (by rw [Yae,htl,List.length_replicate];omega)]
     have hfx:=k3.froz (n*4+j);obtain ⟨z,hz⟩:∃z,z=((bpart C n++(le4 c).take j)++List.replicate (64 - 4*n - j) 0).getD (n*4+j) 0:=⟨_,rfl⟩;rw [←hz] at hcx;have hby:=Qrj c j hlj;obtain ⟨y,hy⟩:∃y,y=(le4 c).getD j 0:=⟨_,rfl⟩
     have N1:Hid (Blk (wr.setCell ⟨X,n*4+j,none⟩ (.int .u8 y)) F 183 B∧Blk (wr.setCell ⟨X,n*4+j,none⟩ (.int .u8 y)) R 145 Z∧Blk (wr.setCell ⟨X,n*4+j,none⟩ (.int .u8 y)) X 145 (bl ((bpart C n++(le4 c).take (j+1))++List.replicate (64 - 4*n - (j+1)) 0))∧Only (fun _=>False) w (wr.setCell ⟨X,n*4+j,none⟩ (.int .u8 y))):=by
      have oc:=(Only.refl (fun k=>k=X) wr).setCell (p:=⟨X,n*4+j,none⟩) (fun _=>rfl) (.int .u8 y);refine ⟨k1.keep oc HG.out.2.2.2.1,k2.keep oc HG.out.2.2.2.2,?_,k4.trans oc (fun i hi e=>by have:=HG.out.2.2.1;omega)⟩;have h:=k3.set (n*4+j) (.int .u8 y);rw [QiQ,←htl,Qog _ _ (64 - 4*n - (j+1)) _ y (by omega) rfl,htl,List.append_assoc (bpart C n),hy,←Qfx c j hlj] at h;rw [hy];exact h
     rw [←hy] at hby
     have i2:(j:Int)<4:=by omega
     clear hz hy k1 k2 k3 k4 hbl htl
     have h4:j=0∨j=1∨j=2∨j=3:=by omega
     rcases h4 with rfl | rfl | rfl | rfl
     ·have hyy:y=(c:Int) % 256:=by rw [hby];simp
      rw [hyy] at N1;clear hby hyy;simp only [Nat.add_zero] at hcx hfx N1;go_wp2
      go_roundw
      case rel=>exact ⟨1,by omega,by go_num,N1.out.1,N1.out.2.1,N1.out.2.2.1,N1.out.2.2.2⟩
      case measure=>simp [intOf]
     ·have hyy:y=(c:Int) / 256 % 256:=by rw [hby];simp
      rw [hyy] at N1;clear hby hyy;go_wp2
      go_roundw
      case rel=>exact ⟨2,by omega,by go_num,N1.out.1,N1.out.2.1,N1.out.2.2.1,N1.out.2.2.2⟩
      case measure=>simp [intOf]
     ·have hyy:y=(c:Int) / 65536 % 256:=by rw [hby];simp
      rw [hyy] at N1;clear hby hyy;go_wp2
      go_roundw
      case rel=>exact ⟨3,by omega,by go_num,N1.out.1,N1.out.2.1,N1.out.2.2.1,N1.out.2.2.2⟩
      case measure=>simp [intOf]
     ·have hyy:y=(c:Int) / 16777216:=by rw [hby];simp;omega
      rw [hyy] at N1;clear hby hyy;go_wp2
      go_roundw
      case rel=>exact ⟨4,by omega,by go_num,N1.out.1,N1.out.2.1,N1.out.2.2.1,N1.out.2.2.2⟩
      case measure=>simp [intOf]
    ·obtain rfl:j=4:=by omega
     have N2:Hid (Blk wr F 183 B∧Blk wr R 145 Z∧Blk wr X 145 (bl (bpart C (n+1)++List.replicate (64 - 4*(n+1)) 0))∧Only (fun _=>False) w wr):=by
      refine ⟨k1,k2,?_,k4⟩;rw [Qj2 C n (by rw [HC.out.1];exact hlt),←HCN.out,show 64 - 4*(n+1)=64 - 4*n - 4 by omega];exact k3
     clear k1 k2 k3 k4;go_wp2
     go_roundw
     case rel=>exact ⟨n+1,by omega,by go_num,N2.out⟩
     case measure=>simp [intOf];omega
  ·obtain rfl:n=16:=by omega
   have S2:Hid (Blk wr X 145 D):=by
    rw [HD.out,←Qli C 16 (by rw [HC.out.1];exact Nat.le_refl _)];have:=k3;rw [show 64 - 4*16=0 from rfl,List.replicate_zero,List.append_nil] at this;exact this
   have R2:=Qaa k2;have O2:=Qaa k4;clear k1 k2 k3 k4;go_wp2_with (first|(refine wpList_load_row rfl 145 (.tmp 3) rfl X rfl 145 D.toArray (0,0) _ S2.out underlying145 rfl HZ1.out ?_)|(refine wpList_store_row rfl 145 (.tmp 2) (.tmp 33) rfl R D.toArray rfl rfl 145 Z.toArray R2.out HZ1.out HZ2.out HA.out ?_));refine bodyPost_ret (v:=.agg D.toArray) (results_cell_row rfl _ _ R 145 D.toArray (0,0) _ rfl (R2.out.row D) underlying145 rfl HZ1.out) rfl ⟨rfl,?_⟩;exact O2.out.setRow (fun h=>absurd h (by have:=HG.out.2.1;omega)) _
def lacc (b:List Int):Nat→Nat
 | 0=>0
 | m+1=>lacc b m+(b.getD m 0).toNat*256^m
theorem QlL (b:List Int) (h:U8 b):∀m,lacc b m<256^m:=by
 intro m
 induction m with
 | zero=>exact Nat.zero_lt_one
 | succ m ih =>
  have:=h.at m;have e:256^(m+1)=256^m*256:=Nat.pow_succ ..
  show lacc b m+(b.getD m 0).toNat*256^m < _
  have hm:(b.getD m 0).toNat*256^m≤255*256^m:=Nat.mul_le_mul_right _ (by omega);omega
theorem QlM (b:List Int):lacc b 4=ld4 b 0:=by
 simp [lacc,ld4]
theorem QrA (a y m:Nat) (ha:a<2^m):a ||| y*2^m=a+y*2^m:=by
 have:=Nat.two_pow_add_eq_or_of_lt ha y;rw [Nat.or_comm,Nat.mul_comm y,←this,Nat.add_comm]
theorem QlN (b:List Int) (h:U8 b) (m:Nat) (hm:m<4):bits .or .u32 ((lacc b m:Nat):Int) (b.getD m 0*256^m)=((lacc b (m+1):Nat):Int):=by
 have h0:=h.at m;obtain ⟨y,hy⟩:=Int.eq_ofNat_of_zero_le h0.1;have hl:=QlL b h m;have hl2:=QlL b h (m+1)
 have e:(256:Nat)^m=2^(8*m):=by rw [Nat.pow_mul]
 have h4:(256:Nat)^(m+1)≤256^4:=Nat.pow_le_pow_right (by decide) (by omega)
 have h5:(256:Nat)^4=4294967296:=by decide
 have hle:lacc b m≤lacc b (m+1):=Nat.le_add_right _ _
 have hs:lacc b (m+1)=lacc b m+y*256^m:=by
  show lacc b m+(b.getD m 0).toNat*256^m=_
  rw [hy];rfl
 rw [hy,show ((y:Int)*256^m)=((y*256^m:Nat):Int) by simp,u32_or_nat _ _ (by omega) (by omega),hs]
 congr 1
 rw [e];exact QrA _ _ _ (by rw [←e];exact hl)
theorem QoD (b:List Int) (h:U8 b):bits .or .u32 ((lacc b 0:Nat):Int) (b.getD 0 0)=((lacc b 1:Nat):Int):=by
 have:=QlN b h 0 (by decide)
 rwa [Int.pow_zero,Int.mul_one] at this
theorem QlO (y:Int) (hy:0≤y∧y≤255):y*256 % 4294967296=y*256∧y*65536 % 4294967296=y*65536∧y*16777216 % 4294967296=y*16777216:=by omega
theorem QlP (v:Value) (xs:List Int) (h8:U8 xs) (hl:4≤xs.length) (w:World) (hb:Bs .u8 w v xs) :
  Calls prog 199 #[v] w fun e w'=>e=.returned (.int .u32 (ld4 xs 0:Nat))∧w=w':=by
 obtain ⟨b,off,cap,rfl,_⟩:=hb.at 0 (by omega)
 have HB:Hid (∀j,j<4→w.cell? ⟨b,off+j,none⟩=some (.int .u8 (xs.getD j 0))):=fun j hj=>by
  obtain ⟨b',off',cap',e,hc⟩:=hb.at j (by omega);simp at e;obtain ⟨⟨rfl,rfl⟩,_⟩:=e;exact hc
 have HF:=Qaa (QlM xs);have H8:=Qaa h8;obtain ⟨n,hn⟩:∃n,n=xs.length:=⟨_,rfl⟩;rw [←hn] at hl ⊢;clear hb hn h8;go_enter func199,ntmps199;go_wp2
 go_loopw [3,5] (fun o i wr=>∃j:Nat,j≤4∧i=.int .i64 j∧o=.int .u32 (lacc xs j:Nat)∧w=wr) (fun _ i _=>4 - (intOf i).toNat)
 case atStart=>exact ⟨0,by omega,rfl,rfl,rfl⟩
 case round =>
  obtain ⟨j,hj,rfl,rfl,rfl⟩:=hrel
  by_cases hlt:j<4
  ·have hc:=HB.out j hlt
   have hy:=H8.out.at j;have hs:=QlO _ hy;have ho:=QlN xs H8.out j hlt;have ho0:=QoD xs H8.out;obtain ⟨y,hyy⟩:∃y,y=xs.getD j 0:=⟨_,rfl⟩;obtain ⟨q,hq⟩:∃q:Nat,q=lacc xs (j+1):=⟨_,rfl⟩;obtain ⟨A,hA⟩:∃A:Nat,A=lacc xs j:=⟨_,rfl⟩
   have i1:(j:Int)<4:=by omega
   have i2:(j:Int)<n:=by omega
   rw [←hyy] at hc hy hs ho;rw [←hq,←hA] at ho;rw [←hA];obtain ⟨y0,y1⟩:=hy;obtain ⟨t1,t2,t3⟩:=hs;have HQ:=Qaa hq;clear hyy hq hA ho0 HB H8
   have h4:j=0∨j=1∨j=2∨j=3:=by omega
   rcases h4 with rfl | rfl | rfl | rfl
   ·simp only [Nat.add_zero] at hc
    simp at ho;go_wp2
    go_roundw
    case rel=>exact ⟨1,by omega,by go_num,by rw [HQ.out],trivial⟩
    case measure=>simp [intOf]
   ·simp at ho
    go_wp2
    go_roundw
    case rel=>exact ⟨2,by omega,by go_num,by rw [HQ.out],trivial⟩
    case measure=>simp [intOf]
   ·simp at ho
    go_wp2
    go_roundw
    case rel=>exact ⟨3,by omega,by go_num,by rw [HQ.out],trivial⟩
    case measure=>simp [intOf]
   ·simp at ho
    go_wp2
    go_roundw
    case rel=>exact ⟨4,by omega,by go_num,by rw [HQ.out],trivial⟩
    case measure=>simp [intOf]
  ·obtain rfl:j=4:=by omega
   rw [HF.out];go_wp2;go_ret;exact ⟨rfl,rfl⟩
theorem QoE (xs:List Int) (j:Nat):ldW xs (j+1)=ldW xs j++[ld4 xs j]:=by
 simp [ldW,List.range_succ]
theorem QoF (xs:List Int) (j:Nat):ld4 (xs.drop (j*4)) 0=ld4 xs j:=by
 rw [Nat.mul_comm j 4];simp only [ld4,Yad,List.getElem?_drop,Nat.mul_zero,Nat.zero_add,Nat.add_zero]
theorem QoG (A M C:List Nat) (xs:List Int) (j:Nat) (hj:j<M.length) :
  (A++(ldW xs j++M.drop j)++C).set (A.length+j) (ld4 xs j)=A++(ldW xs (j+1)++M.drop (j+1))++C:=by
 have e:M.drop j=M[j] :: M.drop (j+1):=List.drop_eq_getElem_cons hj;rw [List.append_assoc,List.set_append_right _ _ (by omega),Nat.add_sub_cancel_left,List.append_assoc,List.set_append_right _ _ (by rw [QbK];omega),QbK,Nat.sub_self,e,List.cons_append,Yab,QoE];simp
theorem QdK (g off n cap:Nat) (A M C:List Nat) (v:Value) (xs:List Int) (hA:A.length=off) (hM:M.length=n) (hx:xs.length=4*n) (hn:n≤16) (h8:U8 xs) (w:World) (hb:Bs .u8 w v xs)
  (hv:∀k,v.ownBlock=some k→¬k=g) (hB:Blk w g 183 (wl (A++M++C))) :
  Calls prog 169 #[.slice (some ⟨g,off,none⟩) n cap,v] w fun e w'=>e=.returned (.tuple #[])∧Blk w' g 183 (wl (A++ldW xs n++C))∧Only (fun k=>k=g) w w':=by
 obtain ⟨ao,vc,rfl⟩:=hb.len
 have hcap:xs.length≤vc:=by obtain ⟨_,_,e,h,_⟩:=hb;cases e;exact h
 have HB:=Qaa hb;have HV:=Qaa hv;have H0:=Qaa hB;have H8:=Qaa h8;have HM:=Qaa (And.intro hA hM);obtain ⟨m,hm⟩:∃m,m=xs.length:=⟨_,rfl⟩;have HXM:=Qaa hm;rw [←hm] at hx hcap ⊢;clear hb hv hB hA hM h8 hm;go_enter func169,ntmps169;go_wp2
 go_loopw [7] (fun i wr=>∃j:Nat,j≤n∧i=.int .i64 j∧Blk wr g 183 (wl (A++(ldW xs j++M.drop j)++C))∧Only (fun k=>k=g) w wr) (fun i _=>n - (intOf i).toNat)
 case atStart=>exact ⟨0,by omega,rfl,H0.out,Only.refl _ _⟩
 case round =>
  obtain ⟨j,hj,rfl,hS,hO⟩:=hrel
  by_cases hlt:j<n
  ·have hbr:Bs .u8 wr (.slice ao m vc) xs:=by
    have:=HB.out.keep hO (fun k hk e=>HV.out k hk e);rw [←HXM.out] at this;exact this
   have hcu:=hbr.cut (n:=j*4) (by omega);have A30:=Qaa (QlP _ _ (H8.out.drop (j*4)) (by rw [Yai,←HXM.out];omega) wr hcu);rw [QoF] at A30
   have hlen:off+j<(A++(ldW xs j++M.drop j)++C).length:=by
    have h1:=HM.out.1;have h2:=HM.out.2;rw [Yae,Yae,Yae,QbK,Yai];omega
   have hc:wr.cell? ⟨g,off+j,none⟩=some (.int .u32 (((A++(ldW xs j++M.drop j)++C).getD (off+j) 0:Nat):Int)):=by rw [hS.cell,wl_at _ _ hlen]
   obtain ⟨z,hz⟩:∃z,z=(A++(ldW xs j++M.drop j)++C).getD (off+j) 0:=⟨_,rfl⟩;rw [←hz] at hc;have hf:=hS.froz (off+j);obtain ⟨x,hxx⟩:∃x,x=ld4 xs j:=⟨_,rfl⟩;rw [←hxx] at A30
   have N1:Hid (Blk (wr.setCell ⟨g,off+j,none⟩ (.int .u32 (x:Int))) g 183 (wl (A++(ldW xs (j+1)++M.drop (j+1))++C))):=by
    have:=hS.set (off+j) (.int .u32 (x:Int));rw [QcN,hxx,←HM.out.1,QoG A M C xs j (by rw [HM.out.2];exact hlt)] at this;rw [hxx,←HM.out.1];exact this
   have N2:=Qaa (hO.setCell (p:=⟨g,off+j,none⟩) (fun _=>rfl) (.int .u32 (x:Int)))
   have i1:(j:Int)<n:=by omega
   have i2:(0:Int)≤(j:Int)*4:=by omega
   have i3:(j:Int)*4≤m:=by omega
   have i4:(m:Int)≤vc:=by omega
   have i5:¬vc=j*4:=by omega
   have hw1:IntKind.i64.wrap ((j:Int)*4)=(j:Int)*4:=by rw [IntKind.wrap_i64];omega
   clear hS hO hbr hcu hlen hz hxx hx;go_wp2_with fail;refine A30.out.mono ?_;rintro e w1 ⟨rfl,rfl⟩;go_wp2
   go_roundw
   case rel=>exact ⟨j+1,by omega,by go_num,N1.out,N2.out⟩
   case measure=>simp [intOf];omega
  ·obtain rfl:j=n:=by omega
   have F1:Hid (Blk wr g 183 (wl (A++ldW xs j++C))):=by
    have:=hS;rw [List.drop_of_length_le (by rw [HM.out.2];exact Nat.le_refl _),List.append_nil] at this;exact this
   have F2:=Qaa hO;clear hS hO;go_wp2
   go_end0
   exact ⟨rfl,F1.out,F2.out⟩
theorem Qgy {xs:List Int} {n:Nat} (h:xs.length=n+1):xs≠[]:=fun e=>by subst e;simp at h
theorem QoH (X:List Nat) (hX:X.length=12) (c:Nat):(X++List.replicate 4 0).set 12 c=X++[c]++List.replicate 3 0:=by
 rw [←hX,List.set_append_right _ _ (Nat.le_refl _),Nat.sub_self,show List.replicate 4 0=0 :: List.replicate 3 0 from rfl,Yab];simp
theorem QcP (vk vn:Value) (key nonce:List Int) (ctr:Nat) (hk:key.length=32) (hn:nonce.length=12) (k8:U8 key) (n8:U8 nonce) (w:World) (bk:Bs .u8 w vk key) (bn:Bs .u8 w vn nonce) :
  Calls prog 139 #[vk,.int .u32 ctr,vn] w fun e w'=>e=.returned (.agg (wl (ccF key ctr nonce)).toArray)∧Only (fun _=>False) w w':=by
 have hzv:=(zero_of_info (P:=prog) Tryz.zero44).1;obtain ⟨Z,hZ⟩:∃Z,Z=zW:=⟨_,rfl⟩;rw [←hZ] at hzv;have HZ:=Qaa hZ;clear hZ;obtain ⟨D,hD'⟩:∃D,D=wl (ccF key ctr nonce):=⟨_,rfl⟩;rw [←hD'];have HD:=Qaa hD';clear hD';go_enter func139,ntmps139;go_wp2_with (first|(refine Qax rfl 183 _ rfl (wl (ccW++List.replicate 12 0)).toArray (by kernel_rfl) ?_)|(refine wpList_store_row rfl 183 (.tmp 7) (.tmp 8) rfl (w.heap.size+1) (wl (ccW++List.replicate 12 0)).toArray rfl rfl 183 Z.toArray (heap_alloc2_new w _ _) Tryz.size44 (by rw [HZ.out];rfl) (Qb8 _) ?_))
 have B1:Hid (Blk (((w.alloc (.cells Z.toArray 183)).alloc (.cells Z.toArray 183)).setRow (w.heap.size+1) (wl (ccW++[0,0,0,0,0,0,0,0,0,0,0,0])).toArray) (w.heap.size+1) 183 (wl (ccW++List.replicate 8 0++List.replicate 4 0))):=by
  have h:=Blk.new (w.alloc (.cells Z.toArray 183)) 183 Z;rw [size_alloc] at h;exact h.row (wl (ccW++[0,0,0,0,0,0,0,0,0,0,0,0]))
 have O1:Hid (Only (fun _=>False) w (((w.alloc (.cells Z.toArray 183)).alloc (.cells Z.toArray 183)).setRow (w.heap.size+1) (wl (ccW++[0,0,0,0,0,0,0,0,0,0,0,0])).toArray)) :=
  (((Only.refl _ _).alloc _).alloc _).setRow (fun h=>absurd h (by omega)) _
 have R1:Hid (Blk (((w.alloc (.cells Z.toArray 183)).alloc (.cells Z.toArray 183)).setRow (w.heap.size+1) (wl (ccW++[0,0,0,0,0,0,0,0,0,0,0,0])).toArray) w.heap.size 183 Z):=by
  have h:=(Blk.new w 183 Z).alloc (.cells Z.toArray 183);exact h.keep ((Only.refl (fun k=>k=w.heap.size+1) _).setRow (fun _=>rfl) _) (by omega)
 obtain ⟨G,hG⟩:∃G,G=w.heap.size+1:=⟨_,rfl⟩;obtain ⟨R,hR⟩:∃R,R=w.heap.size:=⟨_,rfl⟩;have HG:Hid (w.heap.size≤G∧w.heap.size≤R∧R≠G):=⟨by omega,by omega,by omega⟩;rw [←hG] at B1 O1 R1 ⊢;rw [←hR] at R1 ⊢;obtain ⟨Y,hY⟩:∃Y,Y=wl (ccW++[0,0,0,0,0,0,0,0,0,0,0,0]):=⟨_,rfl⟩;rw [←hY] at B1 O1 R1 ⊢;obtain ⟨W1,hW1⟩:∃W1,W1=((w.alloc (.cells Z.toArray 183)).alloc (.cells Z.toArray 183)).setRow G Y.toArray:=⟨_,rfl⟩;rw [←hW1] at B1 O1 R1 ⊢;clear hW1 hY hG hR hzv;refine (QdK G 4 8 12 ccW (List.replicate 8 0) (List.replicate 4 0) vk key rfl rfl hk (by decide) k8 W1 (bk.past O1.out) (fun k hk2 e=>by have:=bk.blk_lt (Qgy hk) k hk2;have:=HG.out.1;omega) B1.out).mono ?_;rintro e w2 ⟨rfl,b2,o2⟩
 have hc:w2.cell? ⟨G,12,none⟩=some (.int .u32 (((ccW++ldW key 8++List.replicate 4 0).getD 12 0:Nat):Int)):=by rw [b2.cell,wl_at _ _ (by simp [ccW,QbK])]
 obtain ⟨z,hz⟩:∃z,z=(ccW++ldW key 8++List.replicate 4 0).getD 12 0:=⟨_,rfl⟩;rw [←hz] at hc;have hf:=b2.froz 12
 have B2:Hid (Blk (w2.setCell ⟨G,12,none⟩ (.int .u32 (ctr:Int))) G 183 (wl ((ccW++ldW key 8++[ctr])++List.replicate 3 0++[]))):=by
  have h:=b2.set 12 (.int .u32 (ctr:Int));rw [QcN,QoH _ (by simp [ccW,QbK])] at h;rw [List.append_nil];exact h
 have oc:=(Only.refl (fun k=>k=G) w2).setCell (p:=⟨G,12,none⟩) (fun _=>rfl) (.int .u32 (ctr:Int));have R2:=Qaa ((R1.out.keep o2 HG.out.2.2).keep oc HG.out.2.2);have O2:=Qaa ((O1.out.trans o2 (fun i hi e=>by have:=HG.out.1;omega)).trans oc (fun i hi e=>by have:=HG.out.1;omega));clear hz b2 o2 oc B1 O1 R1;go_wp2_with fail;obtain ⟨W2,hW2⟩:∃W2,W2=w2.setCell ⟨G,12,none⟩ (.int .u32 (ctr:Int)):=⟨_,rfl⟩;rw [←hW2] at B2 R2 O2 ⊢;clear hW2 hc hf;refine (QdK G 13 3 3 (ccW++ldW key 8++[ctr]) (List.replicate 3 0) [] vn nonce (by simp [ccW,QbK]) rfl hn (by decide) n8 W2 (bn.past O2.out) (fun k hk2 e=>by have:=bn.blk_lt (Qgy hn) k hk2;have:=HG.out.1;omega) B2.out).mono ?_;rintro e w3 ⟨rfl,b3,o3⟩;rw [List.append_nil] at b3;have hD:=HD.out
 have B3:Hid (Blk w3 G 183 D):=by
  show Blk _ _ _ _
  rw [hD];exact b3
 have R3:=Qaa (R2.out.keep o3 HG.out.2.2);have O3:=Qaa (O2.out.trans o3 (fun i hi e=>by have:=HG.out.1;omega))
 have HZ1:Hid ((prog.info? 183).map (·.size)=some D.toArray.size):=by
  show _=_
  rw [hD];simp [Qaw,QcT,Tryz.size44]
 have HZ2:Hid (Z.toArray.size=D.toArray.size):=by
  show _=_
  rw [hD,HZ.out];simp [Qaw,QcT,QnN]
 have HA:Hid (D.toArray.all (·.oneCell')=true):=by
  show _=_
  rw [hD];exact Qb8 _
 clear hD b3 o3 B2 R2 O2;go_wp2_with (first|(refine wpList_load_row rfl 183 (.tmp 7) rfl G rfl 183 D.toArray (0,0) _ B3.out underlying183 rfl HZ1.out ?_)|(refine wpList_store_row rfl 183 (.tmp 6) (.tmp 17) rfl R D.toArray rfl rfl 183 Z.toArray R3.out HZ1.out HZ2.out HA.out ?_));refine bodyPost_ret (v:=.agg D.toArray) (results_cell_row rfl _ _ R 183 D.toArray (0,0) _ rfl (R3.out.row D) underlying183 rfl HZ1.out) rfl ⟨rfl,?_⟩;exact O3.out.setRow (fun h=>absurd h (by have:=HG.out.2.1;omega)) _
abbrev KN (key nonce:List Int):Prop:=key.length=32∧nonce.length=12
theorem QlZ (ao bo:Option Addr) (kl kc nl nc:Nat) (w:World):Calls prog 137 #[.slice ao kl kc,.slice bo nl nc] w fun e w'=>e=.returned (.bool (decide (kl=32∧nl=12)))∧w=w':=by
 by_cases h1:kl=32
 ·subst h1
  by_cases h2:nl=12
  ·subst h2
   go_enter func137,ntmps137;go_wp2;go_ret;exact ⟨rfl,rfl⟩
  ·have e1:((nl:Int) == 12)=false:=by rw [beq_eq_false_iff_ne];omega
   have e2:decide (32=32∧nl=12)=false:=Yak (fun h=>h2 h.2);rw [e2];go_enter func137,ntmps137;go_wp2;go_ret;exact ⟨rfl,rfl⟩
 ·have e1:((kl:Int) == 32)=false:=by rw [beq_eq_false_iff_ne];omega
  have e2:decide (kl=32∧nl=12)=false:=Yak (fun h=>h1 h.1);rw [e2];go_enter func137,ntmps137;go_wp2;go_ret;exact ⟨rfl,rfl⟩
theorem QfI (n:Nat) (hn:n≤1000000000000) (w:World):Calls prog 138 #[.int .i64 n] w fun e w'=>e=.returned (.int .u64 (((n+63) / 64:Nat):Int))∧w=w':=by
 have h1:IntKind.u64.wrap (n:Int)=(n:Int):=by simp [IntKind.wrap,IntKind.bits,IntKind.signed];omega
 have h2:IntKind.u64.wrap ((n:Int)+64)=((n+64:Nat):Int):=by simp [IntKind.wrap,IntKind.bits,IntKind.signed];omega
 have h3:IntKind.u64.wrap (((n+64:Nat):Int) - 1)=((n+63:Nat):Int):=by simp [IntKind.wrap,IntKind.bits,IntKind.signed];omega
 go_enter func138,ntmps138;go_wp2;go_ret;refine ⟨Qa0 ?_,rfl⟩;omega
theorem QgE (M K:List Int) (j:Nat) (h1:j<M.length) (h2:j<K.length):xorL (M.take (j+1)) (K.take (j+1))=xorL (M.take j) (K.take j)++[(((M.getD j 0).toNat ^^^ (K.getD j 0).toNat:Nat):Int)]:=by
 unfold xorL;rw [List.take_add_one,List.take_add_one,Yaf h1,Yaf h2,List.zipWith_append (by rw [Yag,Yag];omega),Yad,Yad,Yaf h1,Yaf h2]
 rfl
theorem QgF (P A M:List Int) (j:Nat) (x:Int) (hA:A.length=j) (hj:j<M.length):(P++(A++M.drop j)).set (P.length+j) x=P++((A++[x])++M.drop (j+1)):=by
 have e:M.drop j=M[j] :: M.drop (j+1):=List.drop_eq_getElem_cons hj;rw [List.set_append_right _ _ (by omega),Nat.add_sub_cancel_left,List.set_append_right _ _ (by omega),hA,Nat.sub_self,e,Yab];simp
theorem Ql0 (P A M:List Int) (j:Nat) (hA:A.length=j):(P++(A++M.drop j)).getD (P.length+j) 0=M.getD j 0:=by
 rw [Yad,List.getElem?_append_right (by omega),Nat.add_sub_cancel_left,List.getElem?_append_right (by omega),hA,Nat.sub_self,List.getElem?_drop,Nat.add_zero,←Yad]
theorem QqN (y z:Int) (hy:0≤y∧y≤255) (hz:0≤z∧z≤255):bits .xor .u8 y z=((y.toNat ^^^ z.toNat:Nat):Int):=by
 obtain ⟨a,rfl⟩:=Int.eq_ofNat_of_zero_le hy.1;obtain ⟨b,rfl⟩:=Int.eq_ofNat_of_zero_le hz.1;exact u8_xor_nat a b (by omega) (by omega)
theorem QrN (g off m cap:Nat) (P M ks:List Int) (hP:P.length=off) (hM:M.length=m) (hk:ks.length=64) (hm:m≤64) (m8:U8 M) (k8:U8 ks) (w:World) (hB:Blk w g 5 (bl (P++M))) :
  Calls prog 141 #[.slice (some ⟨g,off,none⟩) m cap,.agg (bl ks).toArray] w fun e w'=>e=.returned (.int .i64 (m:Nat))∧Blk w' g 5 (bl (P++(xorL (M.take m) (ks.take m)++M.drop m)))∧Only (fun k=>k=g) w w':=by
 have hlt:=hB.lt;have H0:=Qaa hB;have HM:=Qaa (And.intro hP (And.intro hM (And.intro hk (And.intro m8 k8))));obtain ⟨K,hK⟩:∃K,K=bl ks:=⟨_,rfl⟩;rw [←hK];have HK:=Qaa hK
 have hmm:¬(64:Int)<m:=by omega
 clear hB hP hM hk m8 k8 hK;go_enter func141,ntmps141;go_wp2
 have S0:Hid (Blk (w.alloc (.cells K.toArray 145)) g 5 (bl (P++(xorL (M.take 0) (ks.take 0)++M.drop 0)))∧Blk (w.alloc (.cells K.toArray 145)) w.heap.size 145 K∧Only (fun k=>k=g) w (w.alloc (.cells K.toArray 145))) :=
  ⟨H0.out.alloc _,Blk.new w 145 K,(Only.refl _ _).alloc _⟩
 obtain ⟨N,hN⟩:∃N,N=w.heap.size:=⟨_,rfl⟩;have HN:Hid (w.heap.size≤N∧g≠N):=⟨by omega,by omega⟩;obtain ⟨W0,hW0⟩:∃W0,W0=w.alloc (.cells K.toArray 145):=⟨_,rfl⟩;rw [←hN,←hW0] at S0;rw [←hN,←hW0];clear hN hW0 hlt
 go_loopw [11] (fun i wr=>∃j:Nat,j≤m∧i=.int .i64 j∧Blk wr g 5 (bl (P++(xorL (M.take j) (ks.take j)++M.drop j)))∧Blk wr N 145 K∧Only (fun k=>k=g) w wr) (fun i _=>m - (intOf i).toNat)
 case atStart=>exact ⟨0,by omega,rfl,S0.out⟩
 case round =>
  obtain ⟨j,hj,rfl,k1,k2,k3⟩:=hrel;clear S0
  by_cases hlj:j<m
  ·have hjm:j<M.length:=by rw [HM.out.2.1];omega
   have hxl:(xorL (M.take j) (ks.take j)).length=j:=by
    rw [QdX,Yag,Yag,HM.out.2.2.1];omega
   have hc1:wr.cell? ⟨g,off+j,none⟩=some (.int .u8 (M.getD j 0)):=by
    rw [k1.cell,bl_at _ _ (by rw [Yae,Yae,hxl,Yai,HM.out.1];omega),←HM.out.1,Ql0 P _ M j hxl]
   have hc2:wr.cell? ⟨N,j,none⟩=some (.int .u8 (ks.getD j 0)):=by
    rw [k2.cell,HK.out,bl_at _ _ (by rw [HM.out.2.2.1];omega)]
   have hf:=k1.froz (off+j);have hx:=QqN _ _ (HM.out.2.2.2.1.at j) (HM.out.2.2.2.2.at j);have hxn:=QgE M ks j hjm (by rw [HM.out.2.2.1];omega);obtain ⟨x,hxx⟩:∃x,x=(((M.getD j 0).toNat ^^^ (ks.getD j 0).toNat:Nat):Int):=⟨_,rfl⟩;rw [←hxx] at hx hxn;obtain ⟨y,hy⟩:∃y,y=M.getD j 0:=⟨_,rfl⟩;obtain ⟨z,hz⟩:∃z,z=ks.getD j 0:=⟨_,rfl⟩;rw [←hy] at hc1 hx;rw [←hz] at hc2 hx;have oc:=((Only.refl (fun k=>k=g) wr).drew).setCell (p:=⟨g,off+j,none⟩) (fun _=>rfl) (.int .u8 x)
   have N1:Hid (Blk (wr.drew.setCell ⟨g,off+j,none⟩ (.int .u8 x)) g 5 (bl (P++(xorL (M.take (j+1)) (ks.take (j+1))++M.drop (j+1))))∧Blk (wr.drew.setCell ⟨g,off+j,none⟩ (.int .u8 x)) N 145 K∧Only (fun k=>k=g) w (wr.drew.setCell ⟨g,off+j,none⟩ (.int .u8 x))):=by
    refine ⟨?_,k2.keep oc (fun e=>HN.out.2 e.symm),k3.trans oc (fun i _ e=>e)⟩;have h:=k1.drew.set (off+j) (.int .u8 x);rw [QiQ,←HM.out.1,QgF P _ M j x hxl hjm,←hxn] at h;rw [←HM.out.1];exact h
   have i1:(j:Int)<m:=by omega
   have i2:(j:Int)<64:=by omega
   have i3:(j:Int)<m:=by omega
   have hgN:¬g=N:=HN.out.2;clear hxx hy hz oc hxn k1 k2 k3 hxl hjm;go_wp2_with fail;go_region
   all_goals go_wp2
   all_goals go_roundw
   case rel=>exact ⟨j+1,by omega,by go_num,N1.out⟩
   case measure=>simp [intOf];omega
  ·obtain rfl:j=m:=by omega
   have F1:=Qaa (And.intro k1 k3);clear k1 k2 k3;go_wp2;go_ret;exact ⟨rfl,F1.out⟩
theorem QrO (g off m cap:Nat) (P M ks:List Int) (hP:P.length=off) (hM:M.length=m) (hk:ks.length=64) (hm:64<m) (m8:U8 M) (k8:U8 ks) (w:World) (hB:Blk w g 5 (bl (P++M))) :
  Calls prog 141 #[.slice (some ⟨g,off,none⟩) m cap,.agg (bl ks).toArray] w fun e w'=>e=.returned (.int .i64 (64:Nat))∧Blk w' g 5 (bl (P++(xorL (M.take 64) (ks.take 64)++M.drop 64)))∧Only (fun k=>k=g) w w':=by
 have hlt:=hB.lt;have H0:=Qaa hB;have HM:=Qaa (And.intro hP (And.intro hM (And.intro hk (And.intro m8 k8))));obtain ⟨K,hK⟩:∃K,K=bl ks:=⟨_,rfl⟩;rw [←hK];have HK:=Qaa hK
 have hmm:(64:Int)<m:=by omega
 clear hB hP hM hk m8 k8 hK;go_enter func141,ntmps141;go_wp2
 have S0:Hid (Blk (w.alloc (.cells K.toArray 145)) g 5 (bl (P++(xorL (M.take 0) (ks.take 0)++M.drop 0)))∧Blk (w.alloc (.cells K.toArray 145)) w.heap.size 145 K∧Only (fun k=>k=g) w (w.alloc (.cells K.toArray 145))) :=
  ⟨H0.out.alloc _,Blk.new w 145 K,(Only.refl _ _).alloc _⟩
 obtain ⟨N,hN⟩:∃N,N=w.heap.size:=⟨_,rfl⟩;have HN:Hid (w.heap.size≤N∧g≠N):=⟨by omega,by omega⟩;obtain ⟨W0,hW0⟩:∃W0,W0=w.alloc (.cells K.toArray 145):=⟨_,rfl⟩;rw [←hN,←hW0] at S0;rw [←hN,←hW0];clear hN hW0 hlt
 go_loopw [11] (fun i wr=>∃j:Nat,j≤64∧i=.int .i64 j∧Blk wr g 5 (bl (P++(xorL (M.take j) (ks.take j)++M.drop j)))∧Blk wr N 145 K∧Only (fun k=>k=g) w wr) (fun i _=>64 - (intOf i).toNat)
 case atStart=>exact ⟨0,by omega,rfl,S0.out⟩
 case round =>
  obtain ⟨j,hj,rfl,k1,k2,k3⟩:=hrel;clear S0
  by_cases hlj:j<64
  ·have hjm:j<M.length:=by rw [HM.out.2.1];omega
   have hxl:(xorL (M.take j) (ks.take j)).length=j:=by
    rw [QdX,Yag,Yag,HM.out.2.2.1];omega
   have hc1:wr.cell? ⟨g,off+j,none⟩=some (.int .u8 (M.getD j 0)):=by
    rw [k1.cell,bl_at _ _ (by rw [Yae,Yae,hxl,Yai,HM.out.1];omega),←HM.out.1,Ql0 P _ M j hxl]
   have hc2:wr.cell? ⟨N,j,none⟩=some (.int .u8 (ks.getD j 0)):=by
    rw [k2.cell,HK.out,bl_at _ _ (by rw [HM.out.2.2.1];omega)]
   have hf:=k1.froz (off+j);have hx:=QqN _ _ (HM.out.2.2.2.1.at j) (HM.out.2.2.2.2.at j);have hxn:=QgE M ks j hjm (by rw [HM.out.2.2.1];omega);obtain ⟨x,hxx⟩:∃x,x=(((M.getD j 0).toNat ^^^ (ks.getD j 0).toNat:Nat):Int):=⟨_,rfl⟩;rw [←hxx] at hx hxn;obtain ⟨y,hy⟩:∃y,y=M.getD j 0:=⟨_,rfl⟩;obtain ⟨z,hz⟩:∃z,z=ks.getD j 0:=⟨_,rfl⟩;rw [←hy] at hc1 hx;rw [←hz] at hc2 hx;have oc:=((Only.refl (fun k=>k=g) wr).drew).setCell (p:=⟨g,off+j,none⟩) (fun _=>rfl) (.int .u8 x)
   have N1:Hid (Blk (wr.drew.setCell ⟨g,off+j,none⟩ (.int .u8 x)) g 5 (bl (P++(xorL (M.take (j+1)) (ks.take (j+1))++M.drop (j+1))))∧Blk (wr.drew.setCell ⟨g,off+j,none⟩ (.int .u8 x)) N 145 K∧Only (fun k=>k=g) w (wr.drew.setCell ⟨g,off+j,none⟩ (.int .u8 x))):=by
    refine ⟨?_,k2.keep oc (fun e=>HN.out.2 e.symm),k3.trans oc (fun i _ e=>e)⟩;have h:=k1.drew.set (off+j) (.int .u8 x);rw [QiQ,←HM.out.1,QgF P _ M j x hxl hjm,←hxn] at h;rw [←HM.out.1];exact h
   have i1:(j:Int)<64:=by omega
   have i2:(j:Int)<64:=by omega
   have i3:(j:Int)<m:=by omega
   have hgN:¬g=N:=HN.out.2;clear hxx hy hz oc hxn k1 k2 k3 hxl hjm;go_wp2_with fail;go_region
   all_goals go_wp2
   all_goals go_roundw
   case rel=>exact ⟨j+1,by omega,by go_num,N1.out⟩
   case measure=>simp [intOf];omega
  ·obtain rfl:j=64:=by omega
   have F1:=Qaa (And.intro k1 k3);clear k1 k2 k3;go_wp2;go_ret;exact ⟨rfl,F1.out⟩
theorem QoQ (g off m cap r:Nat) (P M ks:List Int) (hP:P.length=off) (hM:M.length=m) (hk:ks.length=64) (hr:r=min m 64) (m8:U8 M) (k8:U8 ks) (w:World) (hB:Blk w g 5 (bl (P++M))) :
  Calls prog 141 #[.slice (some ⟨g,off,none⟩) m cap,.agg (bl ks).toArray] w fun e w'=>e=.returned (.int .i64 (r:Nat))∧Blk w' g 5 (bl (P++(xorL (M.take r) (ks.take r)++M.drop r)))∧Only (fun k=>k=g) w w':=by
 by_cases h:m≤64
 ·obtain rfl:r=m:=by omega
  exact QrN g off r cap P M ks hP hM hk h m8 k8 w hB
 ·obtain rfl:r=64:=by omega
  exact QrO g off m cap P M ks hP hM hk (by omega) m8 k8 w hB
def BLt (key:List Int) (ctr:Nat) (nonce:List Int):List Int:=if KN key nonce then BLK key ctr nonce else []
def BLe (key nonce:List Int):Int:=if KN key nonce then 0 else 1
theorem Bs.of_bl {w:World} {g:Nat} {E:TypeId} {s:List Int} (h:Blk w g E (bl s)) (n:Nat) (hn:s.length=n):Bs .u8 w (.slice (some ⟨g,0,none⟩) n n) s:=by
 refine ⟨_,n,by rw [hn],by rw [hn];exact Nat.le_refl _,fun _=>⟨g,0,rfl,fun j hj=>?_⟩⟩;rw [Nat.zero_add,h.cell,bl_at s j hj]
theorem Ql1 (vk vn:Value) (key nonce:List Int) (ctr:Nat) (hc:ctr<4294967296) (k8:U8 key) (n8:U8 nonce) (w:World) (bk:Bs .u8 w vk key) (bn:Bs .u8 w vn nonce) :
  Calls prog 136 #[vk,.int .u32 ctr,vn] w fun e w'=>∃v,e=.returned (.tuple #[v,.int .i64 (BLe key nonce)])∧Bs .u8 w' v (BLt key ctr nonce)∧NoCap v∧Only (fun _=>False) w w':=by
 obtain ⟨ao,kc,rfl⟩:=bk.len;obtain ⟨bo,nc,rfl⟩:=bn.len;have A:=Qaa (QlZ ao bo key.length kc nonce.length nc w)
 by_cases h:KN key nonce
 ·have e1:decide (key.length=32∧nonce.length=12)=true:=Yaj h
  rw [e1] at A;have EB:BLe key nonce=0:=if_pos h;have EL:BLt key ctr nonce=BLK key ctr nonce:=if_pos h;rw [EB,EL];have HL:=Qaa (QcU key ctr nonce);have F:=Qaa (QcP _ _ key nonce ctr h.1 h.2 k8 n8 w bk bn)
  have O:Hid (∀W:World,Calls prog 140 #[.agg (wl (ccF key ctr nonce)).toArray] W fun e w'=>e=.returned (.agg (bl (BLK key ctr nonce)).toArray)∧Only (fun _=>False) W w') :=
   fun W=>Qeb (ccF key ctr nonce) (QcT _ _ _) (Qlq key k8 ctr hc nonce n8) W
  have hzv:=(zero_of_info (P:=prog) Tryz.zero42).1;obtain ⟨Z,hZ⟩:∃Z,Z=zB:=⟨_,rfl⟩;rw [←hZ] at hzv;obtain ⟨L,hL⟩:∃L,L=BLK key ctr nonce:=⟨_,rfl⟩;rw [←hL] at HL O ⊢;obtain ⟨FW,hFW⟩:∃FW,FW=wl (ccF key ctr nonce):=⟨_,rfl⟩;rw [←hFW] at F O;obtain ⟨D,hD⟩:∃D,D=bl L:=⟨_,rfl⟩;rw [←hD] at O
  have HZ1:Hid ((prog.info? 145).map (·.size)=some D.toArray.size∧Z.toArray.size=D.toArray.size∧D.toArray.all (·.oneCell')=true):=by
   refine ⟨?_,?_,?_⟩
   ·rw [Tryz.size42,hD];simp [Qal,HL.out]
   ·rw [hD,hZ];simp [Qal,HL.out,Qlj]
   ·rw [hD];exact Qlk _
  have HD:=Qaa hD;clear hL hFW hZ hD bk bn k8 n8 h e1 EB EL hc;go_enter func136,ntmps136;go_wp2_with fail;refine A.out.mono ?_;rintro e w1 ⟨rfl,rfl⟩;go_wp2_with fail;refine F.out.mono ?_;rintro e w2 ⟨rfl,o2⟩;go_wp2_with fail;refine (O.out w2).mono ?_;rintro e w3 ⟨rfl,o3⟩;have O3:=Qaa (o2.same o3);clear o2 o3 A F O;go_wp2_with (first|(refine wpList_store_row rfl 145 (.tmp 8) (.tmp 17) rfl w3.heap.size D.toArray rfl rfl 145 Z.toArray (Blk.new w3 145 Z) HZ1.out.1 HZ1.out.2.1 HZ1.out.2.2 ?_));go_ret2;have hb:Blk ((w3.alloc (.cells Z.toArray 145)).setRow w3.heap.size D.toArray) w3.heap.size 145 D:=(Blk.new w3 145 Z).row D;refine ⟨_,rfl,?_,NoCap.some _ _ _,?_⟩
  ·rw [HD.out] at hb ⊢
   exact Bs.of_bl hb 64 HL.out
  ·exact (O3.out.alloc _).setRow (fun h=>absurd h (by have:=O3.out.size;omega)) _
 ·have e1:decide (key.length=32∧nonce.length=12)=false:=Yak h
  rw [e1] at A;have EB:BLe key nonce=1:=if_neg h;have EL:BLt key ctr nonce=[]:=if_neg h;rw [EB,EL];clear bk bn k8 n8 h e1 EB EL hc;go_enter func136,ntmps136;go_wp2_with fail;refine A.out.mono ?_;rintro e w1 ⟨rfl,rfl⟩;go_wp2;go_ret2;exact ⟨_,rfl,Bs.nil _ _,NoCap.nil,Only.refl _ _⟩
end Go.Proofs.YtnhapmboienipaaGreatDoor
