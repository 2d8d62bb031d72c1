import Derived.Test.YteciafpneamfaaaGreatDoorG22
import Derived.Deep.CutRange
namespace Go.Proofs.YteciafpneamfaaaGreatDoor
set_option maxHeartbeats 1600000
set_option maxRecDepth 100000
open Go.RowKit _root_.Go.Proofs.Tryz
theorem Rp (s:LI) (i j:Nat) (x:Int):(s.set i x).getD j 0=if i=j∧i<s.length then x else s.getD j 0:=by
 simp only[Qd,List.getElem?_set]
 by_cases h:i=j
 ·subst h
  by_cases h2:i<s.length
  ·simp[h2]
  ·simp[h2]
 ·simp[h]
def c1 (xs:LI):Nat->LI
 | 0=>xs
 | j+1=>(c1 xs j).set (4*j+3) ((c1 xs j).getD (4*j+3) 0 % 16)
def c2 (xs:LI):Nat->LI
 | 0=>c1 xs 4
 | j+1=>(c2 xs j).set (4*j+4) ((c2 xs j).getD (4*j+4) 0 - (c2 xs j).getD (4*j+4) 0 % 4)
theorem Jv (xs:LI) (j:Nat):(c1 xs j).length=xs.length:=by
 induction j with
 | zero=>rfl
 | succ j ih=>rw[c1,List.length_set,ih]
theorem VZ (xs:LI) (j:Nat):(c2 xs j).length=xs.length:=by
 induction j with
 | zero=>exact Jv xs 4
 | succ j ih=>rw[c2,List.length_set,ih]
theorem c1_u8 (xs:LI) (h:U8 xs) (j:Nat):U8 (c1 xs j):=by
 induction j with
 | zero=>exact h
 | succ j ih=>exact ih.set _ _ (by have:=ih.at (4*j+3);omega)
theorem c2_u8 (xs:LI) (h:U8 xs) (j:Nat):U8 (c2 xs j):=by
 induction j with
 | zero=>exact c1_u8 xs h 4
 | succ j ih=>exact ih.set _ _ (by have:=ih.at (4*j+4);omega)
theorem c1_at (xs:LI) (hl:xs.length=16) (j:Nat) (hj:j<=4) (i:Nat):(c1 xs j).getD i 0=if i % 4=3∧i / 4<j then xs.getD i 0 % 16 else xs.getD i 0:=by
 induction j with
 | zero=>simp[c1]
 | succ j ih =>
  rw[c1,Rp,Jv,hl]
  by_cases h:4*j+3=i
  ·subst h
   rw[if_pos ⟨rfl,by omega⟩,ih (by omega),if_neg (by omega),if_pos (by omega)]
  ·rw[if_neg (λe=>h e.1),ih (by omega)]
   by_cases h2:i % 4=3∧i / 4<j
   ·rw[if_pos h2,if_pos (by omega)]
   ·rw[if_neg h2,if_neg (by omega)]
theorem c2_at (xs:LI) (hl:xs.length=16) (j:Nat) (hj:j<=3) (i:Nat) (hi:i<16):(c2 xs j).getD i 0=if i % 4=3 then xs.getD i 0 % 16 else if i % 4=0∧0<i∧i / 4<=j then xs.getD i 0 - xs.getD i 0 % 4 else xs.getD i 0:=by
 induction j with
 | zero =>
  rw[c2,c1_at xs hl 4 (by decide)]
  by_cases h:i % 4=3
  ·rw[if_pos (by omega),if_pos h]
  ·rw[if_neg (by omega),if_neg h,if_neg (by omega)]
 | succ j ih =>
  rw[c2,Rp,VZ,hl];have h1:=ih (by omega)
  by_cases h:4*j+4=i
  ·subst h
   rw[if_pos ⟨rfl,by omega⟩,h1,if_neg (by omega),if_neg (by omega),if_neg (by omega),if_pos (by omega)]
  ·rw[if_neg (λe=>h e.1),h1]
   by_cases h2:i % 4=3
   ·rw[if_pos h2,if_pos h2]
   ·rw[if_neg h2,if_neg h2]
    by_cases h3:i % 4=0∧0<i∧i / 4<=j
    ·rw[if_pos h3,if_pos (by omega)]
    ·rw[if_neg h3,if_neg (by omega)]
theorem Cq (key:LI) (hk:16<=key.length):c2 (key.take 16) 3=WV key:=by
 have hl:(key.take 16).length=16:=by rw[Qg];omega
 apply List.ext_getElem
 ·rw[VZ,hl,JE]
 ·intro i h1 h2
  have hi:i<16:=by rw[JE] at h2;exact h2
  have e1:=c2_at (key.take 16) hl 3 (by decide) i hi;rw[Qd,Qi h1] at e1
  have e2:(key.take 16).getD i 0=key.getD i 0:=by simp[List.getD_eq_getElem?_getD,hi]
  rw[e2] at e1;refine Eq.trans e1 ?_;simp only[WV,List.getElem_map,List.getElem_range]
  by_cases h3:i % 4=3
  ·rw[if_pos h3,if_pos h3]
  ·rw[if_neg h3,if_neg h3]
   by_cases h4:i % 4=0∧0<i
   ·rw[if_pos (by omega),if_pos h4]
   ·rw[if_neg (by omega),if_neg h4]
theorem zS:∀x:Fin 256,x.val &&& 15=x.val % 16:=by decide +kernel
theorem Od:∀x:Fin 256,x.val &&& 252=x.val - x.val % 4:=by decide +kernel
theorem and15 (x:Int) (h:0<=x∧x<=255):bits .and .u8 x 15=x % 16:=by
 obtain⟨n,rfl⟩:=Int.eq_ofNat_of_zero_le h.1;rw[show (15:Int)=((15:Nat):Int) from rfl,u8_and_nat _ _ (by omega) (by decide),zS ⟨n,by omega⟩];simp
theorem IR (x:Int) (h:0<=x∧x<=255):bits .and .u8 x 252=x - x % 4:=by
 obtain⟨n,rfl⟩:=Int.eq_ofNat_of_zero_le h.1;rw[show (252:Int)=((252:Nat):Int) from rfl,u8_and_nat _ _ (by omega) (by decide),Od ⟨n,by omega⟩];show ((n - n % 4:Nat):Int)=_;omega
def z16:List Value:=bl (List.replicate 16 0)
theorem Tryz.zero46:(prog.info? 206).map (λi=>(i.zero,i.size))=some (some (.agg z16.toArray),16):=by kernel_rfl
theorem Ac (t:TypeId) (N cap:Nat) (v:Value) (xs:LI) (W:World) (G L k:Nat) (hN:Blk W G t (bl (List.replicate N 0))) (hb:Bs .u8 W v xs) (hk:k=min L xs.length) (hL:L<=N) :
 ∃w3,(Builtin.copy_ #[22,22] 3 #[.slice (some ⟨G,0,none⟩) L cap,v]).run prog W=.ok (.int .i64 (k:Int)) w3∧Blk w3 G t (bl (xs.take k++List.replicate (N - k) 0))∧Only (λk=>k=G) W w3:=by
 have hb0:=hb;obtain⟨ao,vc,rfl,hc,hr⟩:=hb
 by_cases h0:xs=[]
 ·subst h0
  simp only[List.length_nil] at hk
  obtain rfl:k=0:=by omega
  refine⟨W,run_copy_none (P:=prog) W 22 22 3 5 _ _ L cap 0 vc underlying22 Tryz.one5 (Nat.zero_min _),?_,Only.refl _ _⟩
  simpa using hN
 ·obtain⟨b,off,rfl,h3⟩:=hr h0
  have h2:(bl (xs.take k)).length=k:=by rw[Qs,Qg];omega
  have h1:=run_copy_row (P:=prog) W 22 22 3 5 G 0 L cap ⟨b,off,none⟩ xs.length vc (bl (List.replicate N 0)).toArray t (bl (xs.take k)) underlying22 Tryz.one5 hN
   (by rw[h2];exact hk.trans (Nat.min_comm _ _)) (λj u hu=>by
    have hj:j<k:=by have:=(List.getElem?_eq_some_iff.1 hu).1;rwa [h2] at this
    refine hb0.news j u ?_;rw[<-hu]
    simp only[bl,List.getElem?_map,List.getElem?_take,if_pos hj]) (by rw[h2];simp[Qs];omega) (UK _)
  rw[show goInt ((bl (xs.take k)).length:Int)=.int .i64 (k:Int) by rw[h2];rfl] at h1;refine⟨_,h1,?_,(Only.refl (λk=>k=G) W).setRow (λ_=>rfl) _⟩
  have e:bl (xs.take k++List.replicate (N - k) 0)=(bl (List.replicate N 0)).toArray.toList.take 0++bl (xs.take k)++(bl (List.replicate N 0)).toArray.toList.drop (0+(bl (xs.take k)).length):=by
   show _=List.take 0 (bl (List.replicate N 0))++bl (xs.take k)++List.drop (0+(bl (xs.take k)).length) (bl (List.replicate N 0))
   rw[h2,Nat.zero_add,List.take_zero,List.nil_append];unfold bl;rw[List.map_append,List.map_replicate,List.map_replicate,List.drop_replicate]
  rw[e];exact hN.row _
def i4:List Value:=[.int .i64 3,.int .i64 7,.int .i64 11,.int .i64 15]
def i3:List Value:=[.int .i64 4,.int .i64 8,.int .i64 12]
theorem Tryz.agg3 (w:World):(isAgg 3).run prog w=.ok false w:=by kernel_rfl
theorem Tryz.one3:(prog.info? 3).map (·.size)=some 1:=by kernel_rfl
theorem ix_i4 (j:Nat) (hj:j<4) (w:World):(Instr.index 207 (.agg i4.toArray) (.int .i64 j)).run prog w=.ok (.int .i64 ((4*j+3:Nat):Int)) w :=
 KF 207 3 4 i4 j _ underlying207 Tryz.agg3 Tryz.one3 hj (by
  have:j=0∨j=1∨j=2∨j=3:=by omega
  rcases this with rfl | rfl | rfl | rfl <;> rfl) w
theorem ix_i3 (j:Nat) (hj:j<3) (w:World):(Instr.index 208 (.agg i3.toArray) (.int .i64 j)).run prog w=.ok (.int .i64 ((4*j+4:Nat):Int)) w :=
 KF 208 3 3 i3 j _ underlying208 Tryz.agg3 Tryz.one3 hj (by
  have:j=0∨j=1∨j=2:=by omega
  rcases this with rfl | rfl | rfl <;> rfl) w
theorem Bs.of_bytes {w:World} {g:Nat} {E:TypeId} {s:LI} (h:Blk w g E (bl s)) (n:Nat) (hn:s.length=n):Bs .u8 w (.slice (some ⟨g,0,none⟩) n n) s:=by
 refine⟨_,n,by rw[hn],by rw[hn];exact Nat.le_refl _,λ_=>⟨g,0,rfl,λj hj=>?_⟩⟩;rw[Nat.zero_add,h.cell,bl_at s j hj]
theorem Iu (v:Value) (xs:LI) (hl:xs.length=16) (h8:U8 xs) (w:World) (hb:Bs .u8 w v xs) :
 Calls prog 118 #[v] w λe w'=>e=.returned (.agg (ul (nmb (c2 xs 3))).toArray)∧N0 w w':=by
 have hd:=(zero_of_info (P:=prog) Tryz.zero34).1;have hh:=(zero_of_info (P:=prog) Tryz.zero46).1;obtain⟨Z,hZ⟩:=EX z5;rw[<-hZ] at hd;obtain⟨Y,hY⟩:=EX z16;rw[<-hY] at hh;obtain⟨D,hD⟩:=EX (ul (nmb (c2 xs 3)))
 have h3:Hid ((prog.info? 173).map (·.size)=some D.toArray.size∧Z.toArray.size=D.toArray.size∧D.toArray.all (·.oneCell')=true):=by
  rw[hD,hZ];exact⟨YR _ (UJ _),by simp[QZ,UJ,UD],Uf _⟩
 rw[<-hD];have HD:=Qa hD;obtain⟨W1,h2⟩:=EX ((w.alloc (.cells Z.toArray 173)).alloc (.cells Y.toArray 206))
 have he:Blk W1 w.heap.size 173 Z:=by rw[h2];exact (Blk.new w 173 Z).alloc _
 have hg:Blk W1 (w.heap.size+1) 206 (bl (List.replicate 16 0)):=by
  have:=Blk.new (w.alloc (.cells Z.toArray 173)) 206 Y;rw[size_alloc] at this;rw[h2];rw[hY] at this ⊢;exact this
 have h4:N0 w W1:=by rw[h2];exact ((Only.refl _ _).alloc _).alloc _
 obtain⟨w3,h5,hj,h6⟩:=Ac 206 16 16 v xs W1 (w.heap.size+1) 16 16 hg (hb.past h4) (by rw[hl];rfl) (Nat.le_refl _);obtain⟨ao,cap,rfl⟩:=hb.len;rw[hl] at h5 ⊢
 have K0:Hid (Blk w3 w.heap.size 173 Z∧Blk w3 (w.heap.size+1) 206 (bl (c1 xs 0))∧N0 w w3):=by
  refine⟨he.keep h6 (by omega),?_,h4.trans h6 (λk hk e=>by omega)⟩;have h:=hj;rw[List.take_of_length_le (by omega),Nat.sub_self,List.replicate_zero,List.append_nil] at h;exact h
 have H8:=Qa (And.intro h8 hl);rw[h2] at h5;clear hZ hY hD h2 he hg h4 hj h6 hb h8 hl;go_enter func118,ntmps118;go_wp2_with (first|(refine Ky rfl 207 _ rfl i4.toArray (by kernel_rfl) ?_));obtain⟨G,hG⟩:=EX (w.heap.size+1);rw[<-hG] at K0 ⊢;obtain⟨R,hR⟩:=EX w.heap.size;have HG:Hid (w.heap.size<=G∧w.heap.size<=R∧R≠G):=⟨by omega,by omega,by omega⟩;rw[<-hR] at K0 ⊢;have X4:=Qa ix_i4;have X3:=Qa ix_i3;obtain⟨I4,h9⟩:=EX i4;rw[<-h9] at X4 ⊢;clear hG hR hd hh h9 h5
 go_loopw [12] (λi wr=>∃n:Nat,n<=4∧i=.int .i64 n∧Blk wr R 173 Z∧Blk wr G 206 (bl (c1 xs n))∧N0 w wr) (λi _=>4 - (intOf i).toNat)
 case atStart=>exact⟨0,by omega,rfl,K0.o⟩
 case round =>
  obtain⟨n,hn,rfl,k1,k2,k3⟩:=hrel;clear K0
  by_cases hlt:n<4
  ·have h7:=X4.o n hlt
   have hu:=c1_u8 xs H8.o.1 n
   have hc:wr.cell? ⟨G,4*n+3,none⟩=some (.int .u8 ((c1 xs n).getD (4*n+3) 0)):=by
    rw[k2.cell,bl_at _ _ (by rw[Jv,H8.o.2];omega)]
   have hf:=k2.froz (4*n+3);have h1:=and15 _ (hu.at (4*n+3));have h0:(c1 xs n).set (4*n+3) ((c1 xs n).getD (4*n+3) 0 % 16)=c1 xs (n+1):=rfl;obtain⟨x,hx⟩:=EX ((c1 xs n).getD (4*n+3) 0);rw[<-hx] at hc h1 h0;obtain⟨y,hy⟩:=EX (x % 16);rw[<-hy] at h1 h0;obtain⟨p,hp⟩:=EX (4*n+3);rw[<-hp] at h7 hc hf h0
   have N1:Hid (Blk (wr.setCell ⟨G,p,none⟩ (.int .u8 y)) R 173 Z∧Blk (wr.setCell ⟨G,p,none⟩ (.int .u8 y)) G 206 (bl (c1 xs (n+1)))∧N0 w (wr.setCell ⟨G,p,none⟩ (.int .u8 y))):=by
    have oc:=(Only.refl (λk=>k=G) wr).setCell (p:=⟨G,p,none⟩) (λ_=>rfl) (.int .u8 y);refine⟨k1.keep oc HG.o.2.2,?_,k3.trans oc (λi hi e=>by have:=HG.o.1;omega)⟩;have h:=k2.set p (.int .u8 y);rw[JO,h0] at h;exact h
   have i1:(n:Int)<4:=by omega
   have i2:(p:Int)<16:=by omega
   clear k1 k2 k3 hu h0 hx hy hp;go_wp2
   go_roundw
   case rel=>exact⟨n+1,by omega,by go_num,N1.o⟩
   case measure=>simp[intOf];omega
  ·obtain rfl:n=4:=by omega
   have K1:Hid (Blk wr R 173 Z∧Blk wr G 206 (bl (c2 xs 0))∧N0 w wr):=⟨k1,k2,k3⟩;clear k1 k2 k3;go_wp2_with (first|(refine Ky rfl 208 _ rfl i3.toArray (by kernel_rfl) ?_));obtain⟨I3,ha⟩:=EX i3;rw[<-ha] at X3 ⊢;clear ha X4
   go_loopw [22] (λi wr=>∃n:Nat,n<=3∧i=.int .i64 n∧Blk wr R 173 Z∧Blk wr G 206 (bl (c2 xs n))∧N0 w wr) (λi _=>3 - (intOf i).toNat)
   case atStart=>exact⟨0,by omega,rfl,K1.o⟩
   case round =>
    obtain⟨n,hn,rfl,k1,k2,k3⟩:=hrel;clear K1
    by_cases hlt:n<3
    ·have h7:=X3.o n hlt
     have hu:=c2_u8 xs H8.o.1 n
     have hc:wr.cell? ⟨G,4*n+4,none⟩=some (.int .u8 ((c2 xs n).getD (4*n+4) 0)):=by
      rw[k2.cell,bl_at _ _ (by rw[VZ,H8.o.2];omega)]
     have hf:=k2.froz (4*n+4);have h1:=IR _ (hu.at (4*n+4));have h0:(c2 xs n).set (4*n+4) ((c2 xs n).getD (4*n+4) 0 - (c2 xs n).getD (4*n+4) 0 % 4)=c2 xs (n+1):=rfl;obtain⟨x,hx⟩:=EX ((c2 xs n).getD (4*n+4) 0);rw[<-hx] at hc h1 h0;obtain⟨y,hy⟩:=EX (x - x % 4);rw[<-hy] at h1 h0;obtain⟨p,hp⟩:=EX (4*n+4);rw[<-hp] at h7 hc hf h0
     have N1:Hid (Blk (wr.setCell ⟨G,p,none⟩ (.int .u8 y)) R 173 Z∧Blk (wr.setCell ⟨G,p,none⟩ (.int .u8 y)) G 206 (bl (c2 xs (n+1)))∧N0 w (wr.setCell ⟨G,p,none⟩ (.int .u8 y))):=by
      have oc:=(Only.refl (λk=>k=G) wr).setCell (p:=⟨G,p,none⟩) (λ_=>rfl) (.int .u8 y);refine⟨k1.keep oc HG.o.2.2,?_,k3.trans oc (λi hi e=>by have:=HG.o.1;omega)⟩;have h:=k2.set p (.int .u8 y);rw[JO,h0] at h;exact h
     have i1:(n:Int)<3:=by omega
     have i2:(p:Int)<16:=by omega
     clear k1 k2 k3 hu h0 hx hy hp;go_wp2
     go_roundw
     case rel=>exact⟨n+1,by omega,by go_num,N1.o⟩
     case measure=>simp[intOf];omega
    ·obtain rfl:n=3:=by omega
     have A:=Qa (Hd _ (c2 xs 3) (by rw[VZ,H8.o.2];decide) (c2_u8 xs H8.o.1 3) wr (Bs.of_bytes k2 16 (by rw[VZ,H8.o.2])));rw[<-HD.o] at A;have R1:=Qa k1;have O1:=Qa k3;clear k1 k2 k3;go_wp2_with fail;refine A.o.mono ?_;rintro e w1 ⟨rfl,o1⟩;have R2:=Qa (R1.o.past o1);have O2:=Qa (O1.o.same o1);clear o1 R1 O1 A;go_wp2_with (first|(refine wpList_store_row rfl 173 (.tmp 2) (.tmp 32) rfl R D.toArray rfl rfl 173 Z.toArray R2.o h3.o.1 h3.o.2.1 h3.o.2.2 ?_));refine bodyPost_ret (v:=.agg D.toArray) (results_cell_row rfl _ _ R 173 D.toArray (0,0) _ rfl (R2.o.row D) underlying173 rfl h3.o.1) rfl ⟨rfl,?_⟩;exact O2.o.setRow (λh=>absurd h (by have:=HG.o.2.1;omega)) _
theorem II (key xs:LI) (hk:key.length=32) (k8:U8 key) (x8:U8 xs) :
 leB 16 (LV (sdg (pls (lst (gth (nmb (c2 (key.take 16) 3)) xs ((xs.length+15) / 16))) (nmb (key.drop 16))) 0))=Kf key xs:=by
 have hc:=Cq key (by omega);have h6:(WV key).length=16:=JE key
 have p16:(256:Nat)^16<2^130:=by decide +kernel
 have h1:LV (nmb (c2 (key.take 16) 3))=nv (WV key):=by
  rw[hc];refine Hr _ (by rw[h6];decide) ?_;have:=nv_lt _ (qh key k8);rw[h6] at this;omega
 have h0:(key.drop 16).length=16:=by rw[Qm,hk]
 have h2:LV (nmb (key.drop 16))=nv (key.drop 16):=by
  refine Hr _ (by rw[h0];decide) ?_;have:=nv_lt _ (k8.drop 16);rw[h0] at this;omega
 have h3:=xj (nmb (c2 (key.take 16) 3)) xs (UJ _) x8 ((xs.length+15) / 16);have h4:=xU (gth (nmb (c2 (key.take 16) 3)) xs ((xs.length+15) / 16)) (Wg _ _ _) (GW _ _ (Vj _) _);have h5:=WD (pls (lst (gth (nmb (c2 (key.take 16) 3)) xs ((xs.length+15) / 16))) (nmb (key.drop 16))) (YH _ _);rw[Gy _ _ (Zu _ (Wg _ _ _)) (UJ _),h4,h3,h1,h2] at h5;unfold Kf;rw[<-h5.1];refine tE (V3 _ _) (V3 _ _) (by rw[KW,KW]) ?_;rw[Tr,Tr,show (2:Nat)^130=256^16*4 by decide +kernel,Nat.mul_assoc,Nat.add_mul_mod_self_left]
def z17:List Value:=bl (List.replicate 17 0)
theorem Tryz.zero50:(prog.info? 209).map (λi=>(i.zero,i.size))=some (some (.agg z17.toArray),17):=by kernel_rfl
theorem Kp {o:Oper} {a:Act} {W:World} {K:Act->World->Prop} {Q:Exit->Act->World->Prop} (n:Nat) (xs:Array Operand) (ts:Array TypeId)
 (ho:o.op=.call { callee:=.value (.func n),args:=xs,argTypes:=ts }) (hf:∀vs W,(callFunc n vs).run prog W=.ok (.enter n vs) W) (vs:Array Value) (r:Value) (hx:xs.map a.eval=vs) {R:World->Prop}
 (hc:Calls prog n vs W λe w'=>e=.returned r∧R w') (h:∀w',R w'->K (a.put o.dst r) w'):Oper.wp prog o a W K Q:=by
 subst hx;unfold Oper.wp;have e:a.eval (Operand.func n)=.func (.func n) #[] #[]:=rfl;have hf2:=hf (xs.map a.eval) W;simp[execOp,ho,resolve,invoke,e,Oper.upon,Deferred.ofValue,hf2];refine Calls.mono hc ?_;rintro e w' ⟨rfl,hR⟩;exact h w' hR
theorem kF (vs:Array Value) (W:World):(callFunc 119 vs).run prog W=.ok (.enter 119 vs) W:=by kernel_rfl
theorem Sx (vs:Array Value) (W:World):(callFunc 121 vs).run prog W=.ok (.enter 121 vs) W:=by kernel_rfl
theorem Oi (vs:Array Value) (W:World):(callFunc 152 vs).run prog W=.ok (.enter 152 vs) W:=by kernel_rfl
theorem Blk.setAll {w:World} {g:Nat} {t:TypeId} {cs vs:List Value} (h:Blk w g t cs) (hl:vs.length=cs.length):Blk (w.setCells g 0 vs) g t vs:=by
 have:=Hg [] cs [] vs hl w g t (by simpa using h)
 simpa using this
theorem IE (xs:LI) (k q:Nat) (hq:q=min 16 (xs.drop (16*k)).length):((xs.drop (16*k)).take q++List.replicate (17 - q) 0).set q 1=pby xs k:=by
 have hl:((xs.drop (16*k)).take q).length=q:=by rw[Qg];omega
 have e:17 - q=(16 - q)+1:=by omega
 rw[List.set_append_right _ _ (by omega),hl,Nat.sub_self,e,List.replicate_succ,Qn,pby]
 have h1:(xs.drop (16*k)).take q=(xs.drop (16*k)).take 16:=by
  by_cases h:(xs.drop (16*k)).length<=16
  ·rw[List.take_of_length_le (by omega),List.take_of_length_le h]
  ·rw[show q=16 by omega]
 rw[h1,List.append_assoc]
 congr 2
 rw[Qm] at hq;rw[hq]
 rfl
def pslen:Value->Nat
 | .slice _ n _=>n
 | _=>0
abbrev o0ga : Oper:={ dst:=some 21,op:=Op.call { callee:=Callee.value (Operand.func 121),args:=#[Operand.tmp 18,Operand.tmp 20],argTypes:=#[173,173] },type:=173,pos:="poly.go:51",after:=#[{ on:=0,ground:=Ground.data },{ on:=2,ground:=Ground.data },{ on:=2,ground:=Ground.chain }],guard:=none }
abbrev o1ga : Oper:={ dst:=some 23,op:=Op.call { callee:=Callee.value (Operand.func 152),args:=#[Operand.tmp 21,Operand.tmp 22],argTypes:=#[173,173] },type:=173,pos:="poly.go:51",after:=#[{ on:=3,ground:=Ground.data },{ on:=4,ground:=Ground.data },{ on:=3,ground:=Ground.chain }],guard:=none }
abbrev o2ga : Oper:={ dst:=none,op:=Op.store 173 (Operand.tmp 5) (Operand.tmp 23),type:=0,pos:="poly.go:51",after:=#[{ on:=5,ground:=Ground.data },{ on:=5,ground:=Ground.chain },{ on:=0,ground:=Ground.phase },{ on:=1,ground:=Ground.phase },{ on:=2,ground:=Ground.phase },{ on:=3,ground:=Ground.phase },{ on:=4,ground:=Ground.phase },{ on:=5,ground:=Ground.phase }],guard:=none }
abbrev o3ga : Oper:={ dst:=some 22,op:=Op.load 173 (Operand.tmp 3),type:=173,pos:="poly.go:51",after:=#[],guard:=none }
abbrev o4ga : Oper:={ dst:=some 18,op:=Op.load 173 (Operand.tmp 5),type:=173,pos:="poly.go:51",after:=#[],guard:=none }
abbrev o5ga : Oper:={ dst:=some 20,op:=Op.call { callee:=Callee.value (Operand.func 119),args:=#[Operand.tmp 19],argTypes:=#[22] },type:=173,pos:="poly.go:51",after:=#[{ on:=1,ground:=Ground.data }],guard:=none }
theorem rk (v:Value) (xs:LI) (hl:xs.length<=1000000000000) (h8:U8 xs) (r:List Nat) (hr:r.length=5) (lr:LB 67108864 r) (w:World) (hb:Bs .u8 w v xs) :
 Calls prog 123 #[v,.agg (ul r).toArray] w λe w'=>e=.returned (.agg (ul (gth r xs ((xs.length+15) / 16))).toArray)∧N0 w w':=by
 have k7:=(zero_of_info (P:=prog) Tryz.zero34).1;have hzw:=(zero_of_info (P:=prog) Tryz.zero50).1;obtain⟨Z,hZ⟩:=EX z5;rw[<-hZ] at k7;obtain⟨Y,hY⟩:=EX z17;rw[<-hY] at hzw;obtain⟨D,hD⟩:=EX (ul (gth r xs ((xs.length+15) / 16)))
 have hd:Hid ((prog.info? 173).map (·.size)=some D.toArray.size∧Z.toArray.size=D.toArray.size∧D.toArray.all (·.oneCell')=true):=by
  rw[hD,hZ];exact⟨YR _ (Wg _ _ _),by simp[QZ,Wg,UD],Uf _⟩
 rw[<-hD];have HD:=Qa (And.intro hD (And.intro hZ hY));have HX:=Qa (And.intro h8 (And.intro hr lr));obtain⟨B,hB⟩:=EX (ul r);have HB:Hid (B=ul r∧B.length=5):=⟨hB,by rw[hB,QZ,hr]⟩;rw[<-hB]
 have K0:Hid (Blk (((w.alloc (.cells B.toArray 173)).alloc (.cells Z.toArray 173)).alloc (.cells Z.toArray 173)) w.heap.size 173 B∧Blk (((w.alloc (.cells B.toArray 173)).alloc (.cells Z.toArray 173)).alloc (.cells Z.toArray 173)) (w.heap.size+1) 173 Z∧Blk (((w.alloc (.cells B.toArray 173)).alloc (.cells Z.toArray 173)).alloc (.cells Z.toArray 173)) (w.heap.size+1+1) 173 (ul (gth r xs 0))∧N0 w (((w.alloc (.cells B.toArray 173)).alloc (.cells Z.toArray 173)).alloc (.cells Z.toArray 173))):=by
  refine⟨((Blk.new w 173 B).alloc _).alloc _,?_,?_,(((Only.refl _ _).alloc _).alloc _).alloc _⟩
  ·have:=(Blk.new (w.alloc (.cells B.toArray 173)) 173 Z).alloc (.cells Z.toArray 173)
   rw[size_alloc] at this;exact this
  ·have:=Blk.new ((w.alloc (.cells B.toArray 173)).alloc (.cells Z.toArray 173)) 173 Z
   rw[size_alloc,size_alloc] at this;rw[HD.o.2.1] at this ⊢;exact this
 have B0:=Qa hb;obtain⟨n,hn⟩:=EX xs.length;have HN:=Qa hn;rw[<-hn] at hl;clear hZ hY hD hB hb hr lr h8 hn;go_enter func123,ntmps123;go_wp2;obtain⟨A,hA⟩:=EX (w.heap.size+1+1);rw[<-hA] at K0 ⊢;obtain⟨R,hR⟩:=EX (w.heap.size+1);rw[<-hR] at K0 ⊢;obtain⟨H,hH⟩:=EX w.heap.size;have HG:Hid (w.heap.size<=A∧w.heap.size<=R∧R≠A∧H≠A):=⟨by omega,by omega,by omega,by omega⟩;rw[<-hH] at K0 ⊢;obtain⟨W0,ka⟩:=EX (((w.alloc (.cells B.toArray 173)).alloc (.cells Z.toArray 173)).alloc (.cells Z.toArray 173));rw[<-ka] at K0 ⊢;clear hA hR hH ka k7
 go_loopw [6] (λo wr=>∃k:Nat,Bs .u8 w o (xs.drop (16*k))∧16*k<=n+15∧Blk wr H 173 B∧Blk wr R 173 Z∧Blk wr A 173 (ul (gth r xs k))∧N0 w wr) (λo _=>pslen o)
 case atStart=>exact⟨0,B0.o,by omega,K0.o⟩
 case round =>
  obtain⟨k,h5,hk,k1,k2,k3,k4⟩:=hrel;clear K0 B0;obtain⟨ao,cap,rfl⟩:=h5.len;have he:=h5.past k4
  have h0:(xs.drop (16*k)).length=n - 16*k:=by rw[Qm,HN.o]
  have kg:(xs.drop (16*k)).length<=cap:=by
   obtain⟨_,_,e,h,_⟩:=he
   cases e;exact h
  by_cases hlt:16*k<n
  ·obtain⟨q,hq⟩:=EX (min 16 (xs.drop (16*k)).length)
   obtain⟨W1,ho⟩:=EX (wr.alloc (.cells Y.toArray 209))
   have kf:Blk W1 wr.heap.size 209 (bl (List.replicate 17 0)):=by
    have:=Blk.new wr 209 Y;rw[ho];rw[HD.o.2.2] at this ⊢;exact this
   have hx:N0 wr W1:=by rw[ho];exact (Only.refl _ _).alloc _
   obtain⟨w3,h3,hj,kc⟩:=Ac 209 17 17 _ (xs.drop (16*k)) W1 wr.heap.size 16 q kf (he.past hx) hq (by decide)
   have hg:q<=16∧0<q∧q<=n - 16*k:=by omega
   have hf:((xs.drop (16*k)).take q++List.replicate (17 - q) 0).length=17:=by
    rw[Qb,Qg,List.length_replicate];omega
   have ke:w3.cell? ⟨wr.heap.size,q,none⟩=some (.int .u8 (((xs.drop (16*k)).take q++List.replicate (17 - q) 0).getD q 0)):=by
    rw[hj.cell,bl_at _ _ (by rw[hf];omega)]
   have hf3:=hj.froz q;obtain⟨z,hz⟩:=EX (((xs.drop (16*k)).take q++List.replicate (17 - q) 0).getD q 0);rw[<-hz] at ke;have h9:N0 wr w3:=hx.trans kc (λi hi e=>by omega);obtain⟨W4,hp⟩:=EX (w3.setCell ⟨wr.heap.size,q,none⟩ (.int .u8 1))
   have kh:Blk W4 wr.heap.size 209 (bl (pby xs k)):=by
    have h:=hj.set q (.int .u8 1);rw[JO,IE xs k q hq] at h;rw[hp];exact h
   have h4:N0 wr W4:=by
    rw[hp];exact h9.setCell (p:=⟨wr.heap.size,q,none⟩) (λh=>absurd h (Nat.lt_irrefl _)) _
   have hv:=he.past h4;have K4:Hid (Blk W4 H 173 B∧Blk W4 R 173 Z∧Blk W4 A 173 (ul (gth r xs k))∧N0 w W4):=⟨k1.past h4,k2.past h4,k3.past h4,k4.same h4⟩;have oD:N0 W4 W4.drew:=(Only.refl _ _).drew;have NU:=Qa (λW (o:N0 W4 W)=>(Hd _ (pby xs k) (by rw[Jf];decide) (A9 xs HX.o.1 k) W (Bs.of_bytes (kh.past o) 17 (Jf _ _))).mono (λ_ w' (h:_∧_)=>And.intro h.1 (o.same h.2)));have lg:=GW r xs HX.o.2.2 k;have lp:=Xe (C:=134217728) lg (Vj (pby xs k)) (by decide);have PL:=Qa (λW (o:N0 W4 W)=>(GK (gth r xs k) (nmb (pby xs k)) (Wg _ _ _) (UJ _) (lg.mono (by decide)) ((Vj _).mono (by decide)) W).mono (λ_ w' (h:_∧_)=>And.intro h.1 (o.same h.2)));have TI:=Qa (λW (o:N0 W4 W)=>(I5 (pls (gth r xs k) (nmb (pby xs k))) r (YH _ _) HX.o.2.1 lp HX.o.2.2 W).mono (λ_ w' (h:_∧_)=>And.intro h.1 (o.same h.2)));have eN:ptms (pls (gth r xs k) (nmb (pby xs k))) r=gth r xs (k+1):=rfl;rw[eN,<-HB.o.1] at TI
   have ha:(ul (gth r xs k)).length=5:=by rw[QZ,Wg]
   have h7:(ul (gth r xs (k+1))).length=5:=by rw[QZ,Wg]
   have hu:∀v∈ul (gth r xs (k+1)),v.oneCell'=true:=To _;obtain⟨AA,kd⟩:=EX (ul (gth r xs k));obtain⟨NN,hy⟩:=EX (ul (gth r xs (k+1)));obtain⟨hh,kj⟩:∃hh,hh=ul (pls (gth r xs k) (nmb (pby xs k))):=⟨_,rfl⟩;obtain⟨MM,k0⟩:=EX (ul (nmb (pby xs k)));rw[<-kd] at PL K4 ha;rw[<-hy] at TI h7 hu;rw[<-kj] at PL TI;rw[<-k0] at NU PL
   have rA:Hid (∀W,N0 W4 W->W.rangeAt A 0 AA):=λW o=>by
    have:=Blk.range (a:=[]) (b:=AA) (c:=[]) (w:=W) (g:=A) (t:=173) (by simpa using K4.o.2.2.1.past o)
    simpa using this
   have rH:Hid (∀W,N0 W4 W->W.rangeAt H 0 B):=λW o=>by
    have:=Blk.range (a:=[]) (b:=B) (c:=[]) (w:=W) (g:=H) (t:=173) (by simpa using K4.o.1.past o)
    simpa using this
   have iA:Hid ((prog.info? 173).map (·.size)=some AA.length∧(prog.info? 173).map (·.size)=some B.length∧(prog.info? 173).map (·.size)=some NN.toArray.size∧NN.toArray.all (·.oneCell')=true):=by
    refine⟨by rw[ha];exact Tryz.size34,by rw[HB.o.2];exact Tryz.size34,by rw[List.size_toArray,h7];exact Tryz.size34,all_oneCell_toArray hu⟩
   have tA:Hid (∀W,N0 W4 W->W.there A 0 NN.toArray.size):=λW o=>(K4.o.2.2.1.past o).there 0 NN.toArray.size (by rw[List.size_toArray,h7,ha];decide)
   have k5:Hid (∀W,N0 W4 W->Blk (W.setCells A 0 NN) H 173 B∧Blk (W.setCells A 0 NN) R 173 Z∧Blk (W.setCells A 0 NN) A 173 (ul (gth r xs (k+1)))∧N0 w (W.setCells A 0 NN)):=λW o=>by
    have oc:Only (λk=>k=A) W (W.setCells A 0 NN):=Only.setCells (S:=λk=>k=A) (λ_=>rfl) _ 0 W (Only.refl _ _);refine⟨(K4.o.1.past o).keep oc HG.o.2.2.2,(K4.o.2.1.past o).keep oc HG.o.2.2.1,?_,(K4.o.2.2.2.same o).trans oc (λi hi e=>by have:=HG.o.1;omega)⟩;rw[<-hy];exact (K4.o.2.2.1.past o).setAll (by rw[ha,h7])
   rw[ho] at h3;obtain⟨m,hm⟩:=EX ((xs.drop (16*k)).length);have HM:=Qa (And.intro hm (And.intro hq h0));rw[<-hm] at kg h3 h5 ⊢;have ki:=Qa h5
   have i0:(0:Int)<(m:Int):=by omega
   have i1:(q:Int)<17:=by omega
   have i2:(0:Int)<=(q:Int):=by omega
   have i3:(q:Int)<=(m:Int):=by omega
   have i4:(m:Int)<=(cap:Int):=by omega
   have HQ:=Qa hg;clear ho kf hx hj kc hf hz h9 kh h4 hv lg lp eN kj k0 kd hy ha h7 hu k1 k2 k3 k4 he h5 hq h0 hm hg K4;go_wp2_with fail;rw[<-hp];clear hp ke hf3 h3
   go_cut [] from 10 to 26 (λW=>∃V,N0 W4 V∧W=V.setCells A 0 NN)
   case first =>
    refine wp_region_any (by kernel_rfl) ?_
    change wpAny _ _ _ _ _ _ _ (World.drew _)
    refine wpAny_take (i:=1) (oi:={ dst:=some 19,op:=Op.slice 209 (Operand.tmp 7) none none none,type:=22,pos:="poly.go:51",after:=#[],guard:=none }) (v:=?tv1) rfl (by kernel_rfl) (by kernel_rfl) (by kernel_rfl) (fun _ _ _ h => h) (Or.inl ⟨by rfl,?th1⟩) ?tr1
    case th1=>(intro w;go_simp;try with_reducible rfl)
    try simp only[Act.put,Qq,Qn,Qo]
    have O:=oD
    repeat' (first
    | ((first
     | (have _:=m4;clear m4;rw[if_pos (by rfl)];refine wp_load_mid 173 (.tmp 5) rfl A 0 rfl AA _ (rA.o _ O) underlying173 rfl iA.o.1 ?_;refine hK _ _ ?_;clear hK K;have hs:=trivial)
     | (have _:=m3;clear m3;rw[if_pos (by rfl)];refine wp_load_mid 173 (.tmp 3) rfl H 0 rfl B _ (rH.o _ O) underlying173 rfl iA.o.2.1 ?_;refine hK _ _ ?_;clear hK K;have h6:=trivial)
     | (have _:=m5;clear m5;rw[if_pos (by rfl)];refine Kp 119 #[.tmp 19] #[22] rfl kF #[.slice (some ⟨wr.heap.size,0,none⟩) 17 17] (.agg MM.toArray) (by kernel_rfl) (NU.o _ O) ?_;intro W O;refine hK _ _ ?_;clear hK K;have ht:=trivial)
     | (have _:=m0;clear m0;rw[if_pos (by rfl)];refine Kp 121 #[.tmp 18,.tmp 20] #[173,173] rfl Sx #[.agg AA.toArray,.agg MM.toArray] (.agg hh.toArray) (by kernel_rfl) (PL.o _ O) ?_;intro W O;refine hK _ _ ?_;clear hK K;have k6:=trivial)
     | (have _:=m1;clear m1;rw[if_pos (by rfl)];refine Kp 152 #[.tmp 21,.tmp 22] #[173,173] rfl Oi #[.agg hh.toArray,.agg B.toArray] (.agg NN.toArray) (by kernel_rfl) (TI.o _ O) ?_;intro W O;refine hK _ _ ?_;clear hK K;have z_5:=trivial)
     | (have _:=m2;clear m2;rw[if_pos (by rfl)];refine wp_store_mid 173 (.tmp 5) (.tmp 23) rfl A 0 NN.toArray rfl rfl (tA.o _ O) iA.o.2.2.1 iA.o.2.2.2 ?_;refine hK _ _ ?_;clear hK K;simp only[Act.put];refine wpAny_done (by kernel_rfl) ?_ _;go_wp2;go_meet;case rel=>exact⟨_,O,rfl⟩));try simp only[Act.put,Qq,Qn,Qo])
    | (have _:=z_5;refine wpAny_ready (rs:=[6]) (by kernel_rfl) (by simp) (AllReady.cons (o:=o2ga) rfl (λK hK=>(λ(m2:True)=>?_) trivial) AllReady.nil))
    | (have _:=k6;have _:=h6;refine wpAny_ready (rs:=[5]) (by kernel_rfl) (by simp) (AllReady.cons (o:=o1ga) rfl (λK hK=>(λ(m1:True)=>?_) trivial) AllReady.nil))
    | (have _:=k6;refine wpAny_ready (rs:=[4]) (by kernel_rfl) (by simp) (AllReady.cons (o:=o3ga) rfl (λK hK=>(λ(m3:True)=>?_) trivial) AllReady.nil))
    | (have _:=hs;have _:=ht;have _:=h6;refine wpAny_ready (rs:=[3]) (by kernel_rfl) (by simp) (AllReady.cons (o:=o0ga) rfl (λK hK=>(λ(m0:True)=>?_) trivial) AllReady.nil))
    | (have _:=hs;have _:=ht;refine wpAny_ready (rs:=[3,4]) (by kernel_rfl) (by simp) (AllReady.cons (o:=o0ga) rfl (λK hK=>(λ(m0:True)=>?_) trivial) (AllReady.cons (o:=o3ga) rfl (λK hK=>(λ(m3:True)=>?_) trivial) AllReady.nil)))
    | (have _:=hs;have _:=h6;refine wpAny_ready (rs:=[2]) (by kernel_rfl) (by simp) (AllReady.cons (o:=o5ga) rfl (λK hK=>(λ(m5:True)=>?_) trivial) AllReady.nil))
    | (have _:=hs;refine wpAny_ready (rs:=[2,4]) (by kernel_rfl) (by simp) (AllReady.cons (o:=o5ga) rfl (λK hK=>(λ(m5:True)=>?_) trivial) (AllReady.cons (o:=o3ga) rfl (λK hK=>(λ(m3:True)=>?_) trivial) AllReady.nil)))
    | (have _:=ht;have _:=h6;refine wpAny_ready (rs:=[0]) (by kernel_rfl) (by simp) (AllReady.cons (o:=o4ga) rfl (λK hK=>(λ(m4:True)=>?_) trivial) AllReady.nil))
    | (have _:=ht;refine wpAny_ready (rs:=[0,4]) (by kernel_rfl) (by simp) (AllReady.cons (o:=o4ga) rfl (λK hK=>(λ(m4:True)=>?_) trivial) (AllReady.cons (o:=o3ga) rfl (λK hK=>(λ(m3:True)=>?_) trivial) AllReady.nil)))
    | (have _:=h6;refine wpAny_ready (rs:=[0,2]) (by kernel_rfl) (by simp) (AllReady.cons (o:=o4ga) rfl (λK hK=>(λ(m4:True)=>?_) trivial) (AllReady.cons (o:=o5ga) rfl (λK hK=>(λ(m5:True)=>?_) trivial) AllReady.nil)))
    | (refine wpAny_ready (rs:=[0,2,4]) (by kernel_rfl) (by simp) (AllReady.cons (o:=o4ga) rfl (λK hK=>(λ(m4:True)=>?_) trivial) (AllReady.cons (o:=o5ga) rfl (λK hK=>(λ(m5:True)=>?_) trivial) (AllReady.cons (o:=o3ga) rfl (λK hK=>(λ(m3:True)=>?_) trivial) AllReady.nil)))))
   case rest =>
    obtain⟨V,oV,rfl⟩:=hcut;have hw:=Qa (k5.o V oV);clear rA rH iA tA k5 TI PL NU;obtain⟨W9,k8⟩:=EX (V.setCells A 0 NN);rw[<-k8] at hw ⊢;clear k8 oV
    by_cases hcq:cap=q
    ·subst hcq
     have hmq:m=cap:=by omega
     subst hmq;have C:=Qa (ki.o.cut0 (n:=m) (Nat.le_refl _));rw[List.drop_drop,Nat.sub_self] at C
     have E8:Hid (xs.drop (16*k+m)=xs.drop (16*(k+1))∧16*(k+1)<=n+15∧0<m):=by
      have h1:=HM.o;have h2:=HQ.o;refine⟨?_,by omega,by omega⟩;rw[List.drop_of_length_le (by have:=HN.o;omega),List.drop_of_length_le (by have:=HN.o;omega)]
     rw[E8.o.1] at C;go_wp2
     go_roundw
     case rel=>exact⟨k+1,C.o,E8.o.2.1,hw.o⟩
     case measure =>
      have:=E8.o.2.2;simp only[pslen];omega
    ·have C:=Qa (ki.o.cut (n:=q) (by omega))
     rw[List.drop_drop] at C
     have E8:Hid (xs.drop (16*k+q)=xs.drop (16*(k+1))∧16*(k+1)<=n+15∧0<m∧0<q):=by
      have h1:=HM.o;have h2:=HQ.o;refine⟨?_,by omega,by omega,by omega⟩
      by_cases h16:q=16
      ·rw[h16,show 16*k+16=16*(k+1) by omega]
      ·rw[List.drop_of_length_le (by have:=HN.o;omega),List.drop_of_length_le (by have:=HN.o;omega)]
     rw[E8.o.1] at C
     have i5:¬(cap:Int)=(q:Int):=by omega
     go_wp2
     go_roundw
     case rel=>exact⟨k+1,C.o,E8.o.2.1,hw.o⟩
     case measure =>
      have:=E8.o.2.2;simp only[pslen];omega
  ·have k9:(xs.drop (16*k)).length=0:=by omega
   rw[k9]
   have kb:k=(n+15) / 16:=by omega
   have S2:Hid (Blk wr A 173 D):=by
    have h:=k3;rw[kb,HN.o,<-HD.o.1] at h;exact h
   have R2:=Qa k2;have O2:=Qa k4;clear k1 k2 k3 k4 kb h0 kg he h5 k9;go_wp2_with (first|(refine wpList_load_row rfl 173 (.tmp 5) rfl A rfl 173 D.toArray (0,0) _ S2.o underlying173 rfl hd.o.1 ?_)|(refine wpList_store_row rfl 173 (.tmp 4) (.tmp 27) rfl R D.toArray rfl rfl 173 Z.toArray R2.o hd.o.1 hd.o.2.1 hd.o.2.2 ?_));refine bodyPost_ret (v:=.agg D.toArray) (results_cell_row rfl _ _ R 173 D.toArray (0,0) _ rfl (R2.o.row D) underlying173 rfl hd.o.1) rfl ⟨rfl,?_⟩;exact O2.o.setRow (λh=>absurd h (by have:=HG.o.2.1;omega)) _
theorem Oa {o:Oper} {a:Act} {W:World} {K:Act->World->Prop} {Q:Exit->Act->World->Prop} (ho:o.op=.alloc 173)
 (h:K (a.put o.dst (.pointer (some ⟨W.heap.size,0,none⟩))) (W.alloc (.cells z5.toArray 173))):Oper.wp prog o a W K Q:=by
 unfold Oper.wp execOp;have hzv:=(zero_of_info (P:=prog) Tryz.zero34).1;simp[ho,Instr.alloc,hzv,go_sem];exact h
theorem uJ (vs:Array Value) (W:World):(callFunc 123 vs).run prog W=.ok (.enter 123 vs) W:=by kernel_rfl
theorem vV (vs:Array Value) (W:World):(callFunc 122 vs).run prog W=.ok (.enter 122 vs) W:=by kernel_rfl
theorem vj (vs:Array Value) (W:World):(callFunc 120 vs).run prog W=.ok (.enter 120 vs) W:=by kernel_rfl
end Go.Proofs.YteciafpneamfaaaGreatDoor
