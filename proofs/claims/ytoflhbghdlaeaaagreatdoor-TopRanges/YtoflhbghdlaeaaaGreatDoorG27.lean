import Derived.Test.YtoflhbghdlaeaaaGreatDoorG26
import Derived.Deep.CutRange
namespace Go.Proofs.YtoflhbghdlaeaaaGreatDoor
set_option maxHeartbeats 1600000
set_option maxRecDepth 100000
open Go.RowKit _root_.Go.Proofs.Tryz
theorem Re (s:LI) (i j:Nat) (x:Int):(s.set i x).getD j 0=if i=j∧i<s.length then x else s.getD j 0:=by
 simp only[Qd,List.getElem?_set]
 by_cases h:i=j
 ·subst h
  by_cases h2:i<s.length
  ·simp[h2]
  ·simp[h2]
 ·simp[h]
def c1 (xs:LI):Nat->LI
 | 0=>xs
 | j+1=>(c1 xs j).set (4*j+3) ((c1 xs j).getD (4*j+3) 0 % 16)
def c2 (xs:LI):Nat->LI
 | 0=>c1 xs 4
 | j+1=>(c2 xs j).set (4*j+4) ((c2 xs j).getD (4*j+4) 0 - (c2 xs j).getD (4*j+4) 0 % 4)
theorem Gt (xs:LI) (j:Nat):(c1 xs j).length=xs.length:=by
 induction j with
 | zero=>rfl
 | succ j ih=>rw[c1,List.length_set,ih]
theorem VL (xs:LI) (j:Nat):(c2 xs j).length=xs.length:=by
 induction j with
 | zero=>exact Gt xs 4
 | succ j ih=>rw[c2,List.length_set,ih]
theorem c1_u8 (xs:LI) (h:U8 xs) (j:Nat):U8 (c1 xs j):=by
 induction j with
 | zero=>exact h
 | succ j ih=>exact ih.set _ _ (by have:=ih.at (4*j+3);omega)
theorem c2_u8 (xs:LI) (h:U8 xs) (j:Nat):U8 (c2 xs j):=by
 induction j with
 | zero=>exact c1_u8 xs h 4
 | succ j ih=>exact ih.set _ _ (by have:=ih.at (4*j+4);omega)
theorem c1_at (xs:LI) (hl:xs.length=16) (j:Nat) (hj:j<=4) (i:Nat):(c1 xs j).getD i 0=if i % 4=3∧i / 4<j then xs.getD i 0 % 16 else xs.getD i 0:=by
 induction j with
 | zero=>simp[c1]
 | succ j ih =>
  rw[c1,Re,Gt,hl]
  by_cases h:4*j+3=i
  ·subst h
   rw[if_pos ⟨rfl,by omega⟩,ih (by omega),if_neg (by omega),if_pos (by omega)]
  ·rw[if_neg (λe=>h e.1),ih (by omega)]
   by_cases h2:i % 4=3∧i / 4<j
   ·rw[if_pos h2,if_pos (by omega)]
   ·rw[if_neg h2,if_neg (by omega)]
theorem c2_at (xs:LI) (hl:xs.length=16) (j:Nat) (hj:j<=3) (i:Nat) (hi:i<16):(c2 xs j).getD i 0=if i % 4=3 then xs.getD i 0 % 16 else if i % 4=0∧0<i∧i / 4<=j then xs.getD i 0 - xs.getD i 0 % 4 else xs.getD i 0:=by
 induction j with
 | zero =>
  rw[c2,c1_at xs hl 4 (by decide)]
  by_cases h:i % 4=3
  ·rw[if_pos (by omega),if_pos h]
  ·rw[if_neg (by omega),if_neg h,if_neg (by omega)]
 | succ j ih =>
  rw[c2,Re,VL,hl];have h1:=ih (by omega)
  by_cases h:4*j+4=i
  ·subst h
   rw[if_pos ⟨rfl,by omega⟩,h1,if_neg (by omega),if_neg (by omega),if_neg (by omega),if_pos (by omega)]
  ·rw[if_neg (λe=>h e.1),h1]
   by_cases h2:i % 4=3
   ·rw[if_pos h2,if_pos h2]
   ·rw[if_neg h2,if_neg h2]
    by_cases h3:i % 4=0∧0<i∧i / 4<=j
    ·rw[if_pos h3,if_pos (by omega)]
    ·rw[if_neg h3,if_neg (by omega)]
theorem OR (key:LI) (hk:16<=key.length):c2 (key.take 16) 3=Wv key:=by
 have hl:(key.take 16).length=16:=by rw[Qf];omega
 apply List.ext_getElem
 ·rw[VL,hl,Gm]
 ·intro i h1 h2
  have hi:i<16:=by rw[Gm] at h2;exact h2
  have e1:=c2_at (key.take 16) hl 3 (by decide) i hi;rw[Qd,Qg h1] at e1
  have e2:(key.take 16).getD i 0=key.getD i 0:=by simp[List.getD_eq_getElem?_getD,hi]
  rw[e2] at e1;refine Eq.trans e1 ?_;simp only[Wv,List.getElem_map,List.getElem_range]
  by_cases h3:i % 4=3
  ·rw[if_pos h3,if_pos h3]
  ·rw[if_neg h3,if_neg h3]
   by_cases h4:i % 4=0∧0<i
   ·rw[if_pos (by omega),if_pos h4]
   ·rw[if_neg (by omega),if_neg h4]
theorem Oh:∀x:Fin 256,x.val &&& 15=x.val % 16:=by decide +kernel
theorem uq:∀x:Fin 256,x.val &&& 252=x.val - x.val % 4:=by decide +kernel
theorem and15 (x:Int) (h:0<=x∧x<=255):bits .and .u8 x 15=x % 16:=by
 obtain⟨n,rfl⟩:=Int.eq_ofNat_of_zero_le h.1;rw[show (15:Int)=((15:Nat):Int) from rfl,u8_and_nat _ _ (by omega) (by decide),Oh ⟨n,by omega⟩];simp
theorem O8 (x:Int) (h:0<=x∧x<=255):bits .and .u8 x 252=x - x % 4:=by
 obtain⟨n,rfl⟩:=Int.eq_ofNat_of_zero_le h.1;rw[show (252:Int)=((252:Nat):Int) from rfl,u8_and_nat _ _ (by omega) (by decide),uq ⟨n,by omega⟩];show ((n - n % 4:Nat):Int)=_;omega
def z16:List Value:=bl (List.replicate 16 0)
theorem Tryz.zero46:(prog.info? 238).map (λi=>(i.zero,i.size))=some (some (.agg z16.toArray),16):=by kernel_rfl
theorem Pi (t:TypeId) (N cap:Nat) (v:Value) (xs:LI) (W:World) (G L k:Nat) (hN:Blk W G t (bl (List.replicate N 0))) (hb:Bs .u8 W v xs) (hk:k=min L xs.length) (hL:L<=N) :
 ∃w3,(Builtin.copy_ #[23,23] 3 #[.slice (some ⟨G,0,none⟩) L cap,v]).run prog W=.ok (.int .i64 (k:Int)) w3∧Blk w3 G t (bl (xs.take k++List.replicate (N - k) 0))∧Only (λk=>k=G) W w3:=by
 have hb0:=hb;obtain⟨ao,vc,rfl,hc,hr⟩:=hb
 by_cases h0:xs=[]
 ·subst h0
  simp only[List.length_nil] at hk
  obtain rfl:k=0:=by omega
  refine⟨W,run_copy_none (P:=prog) W 23 23 3 5 _ _ L cap 0 vc underlying23 Tryz.one5 (Nat.zero_min _),?_,Only.refl _ _⟩
  simpa using hN
 ·obtain⟨b,off,rfl,h3⟩:=hr h0
  have h2:(bl (xs.take k)).length=k:=by rw[Qs,Qf];omega
  have h1:=run_copy_row (P:=prog) W 23 23 3 5 G 0 L cap ⟨b,off,none⟩ xs.length vc (bl (List.replicate N 0)).toArray t (bl (xs.take k)) underlying23 Tryz.one5 hN
   (by rw[h2];exact hk.trans (Nat.min_comm _ _)) (λj u hu=>by
    have hj:j<k:=by have:=(List.getElem?_eq_some_iff.1 hu).1;rwa [h2] at this
    refine hb0.news j u ?_;rw[<-hu]
    simp only[bl,List.getElem?_map,List.getElem?_take,if_pos hj]) (by rw[h2];simp[Qs];omega) (Us _)
  rw[show goInt ((bl (xs.take k)).length:Int)=.int .i64 (k:Int) by rw[h2];rfl] at h1;refine⟨_,h1,?_,(Only.refl (λk=>k=G) W).setRow (λ_=>rfl) _⟩
  have e:bl (xs.take k++List.replicate (N - k) 0)=(bl (List.replicate N 0)).toArray.toList.take 0++bl (xs.take k)++(bl (List.replicate N 0)).toArray.toList.drop (0+(bl (xs.take k)).length):=by
   show _=List.take 0 (bl (List.replicate N 0))++bl (xs.take k)++List.drop (0+(bl (xs.take k)).length) (bl (List.replicate N 0))
   rw[h2,Nat.zero_add,List.take_zero,List.nil_append];unfold bl;rw[List.map_append,List.map_replicate,List.map_replicate,List.drop_replicate]
  rw[e];exact hN.row _
def i4:List Value:=[.int .i64 3,.int .i64 7,.int .i64 11,.int .i64 15]
def i3:List Value:=[.int .i64 4,.int .i64 8,.int .i64 12]
theorem Tryz.agg3 (w:World):(isAgg 3).run prog w=.ok false w:=by kernel_rfl
theorem Tryz.one3:(prog.info? 3).map (·.size)=some 1:=by kernel_rfl
theorem ix_i4 (j:Nat) (hj:j<4) (w:World):(Instr.index 239 (.agg i4.toArray) (.int .i64 j)).run prog w=.ok (.int .i64 ((4*j+3:Nat):Int)) w :=
 WN 239 3 4 i4 j _ underlying239 Tryz.agg3 Tryz.one3 hj (by
  have:j=0∨j=1∨j=2∨j=3:=by omega
  rcases this with rfl | rfl | rfl | rfl <;> rfl) w
theorem ix_i3 (j:Nat) (hj:j<3) (w:World):(Instr.index 240 (.agg i3.toArray) (.int .i64 j)).run prog w=.ok (.int .i64 ((4*j+4:Nat):Int)) w :=
 WN 240 3 3 i3 j _ underlying240 Tryz.agg3 Tryz.one3 hj (by
  have:j=0∨j=1∨j=2:=by omega
  rcases this with rfl | rfl | rfl <;> rfl) w
theorem Bs.of_bytes {w:World} {g:Nat} {E:TypeId} {s:LI} (h:Blk w g E (bl s)) (n:Nat) (hn:s.length=n):Bs .u8 w (.slice (some ⟨g,0,none⟩) n n) s:=by
 refine⟨_,n,by rw[hn],by rw[hn];exact Nat.le_refl _,λ_=>⟨g,0,rfl,λj hj=>?_⟩⟩;rw[Nat.zero_add,h.cell,bl_at s j hj]
theorem kL (v:Value) (xs:LI) (hl:xs.length=16) (h8:U8 xs) (w:World) (hb:Bs .u8 w v xs) :
 Calls prog 164 #[v] w λe w'=>e=.returned (.agg (ul (nmb (c2 xs 3))).toArray)∧N0 w w':=by
 have hd:=(zero_of_info (P:=prog) Tryz.zero34).1;have ha:=(zero_of_info (P:=prog) Tryz.zero46).1;obtain⟨Z,hZ⟩:=EX z5;rw[<-hZ] at hd;obtain⟨Y,hY⟩:=EX z16;rw[<-hY] at ha;obtain⟨D,hD⟩:=EX (ul (nmb (c2 xs 3)))
 have h3:Hid ((prog.info? 213).map (·.size)=some D.toArray.size∧Z.toArray.size=D.toArray.size∧D.toArray.all (·.oneCell')=true):=by
  rw[hD,hZ];exact⟨YJ _ (Uq _),by simp[QS,Uq,Uz],Y9 _⟩
 rw[<-hD];have HD:=Qa hD;obtain⟨W1,h2⟩:=EX ((w.alloc (.cells Z.toArray 213)).alloc (.cells Y.toArray 238))
 have h9:Blk W1 w.heap.size 213 Z:=by rw[h2];exact (Blk.new w 213 Z).alloc _
 have he:Blk W1 (w.heap.size+1) 238 (bl (List.replicate 16 0)):=by
  have:=Blk.new (w.alloc (.cells Z.toArray 213)) 238 Y;rw[size_alloc] at this;rw[h2];rw[hY] at this ⊢;exact this
 have h6:N0 w W1:=by rw[h2];exact ((Only.refl _ _).alloc _).alloc _
 obtain⟨w3,h5,hj,h7⟩:=Pi 238 16 16 v xs W1 (w.heap.size+1) 16 16 he (hb.past h6) (by rw[hl];rfl) (Nat.le_refl _);obtain⟨ao,cap,rfl⟩:=hb.len;rw[hl] at h5 ⊢
 have K0:Hid (Blk w3 w.heap.size 213 Z∧Blk w3 (w.heap.size+1) 238 (bl (c1 xs 0))∧N0 w w3):=by
  refine⟨h9.keep h7 (by omega),?_,h6.trans h7 (λk hk e=>by omega)⟩;have h:=hj;rw[List.take_of_length_le (by omega),Nat.sub_self,List.replicate_zero,List.append_nil] at h;exact h
 have H8:=Qa (And.intro h8 hl);rw[h2] at h5;clear hZ hY hD h2 h9 he h6 hj h7 hb h8 hl;go_enter func164,ntmps164;go_wp2_with (first|(refine Kh rfl 239 _ rfl i4.toArray (by kernel_rfl) ?_));obtain⟨G,hG⟩:=EX (w.heap.size+1);rw[<-hG] at K0 ⊢;obtain⟨R,hR⟩:=EX w.heap.size;have HG:Hid (w.heap.size<=G∧w.heap.size<=R∧R≠G):=⟨by omega,by omega,by omega⟩;rw[<-hR] at K0 ⊢;have X4:=Qa ix_i4;have X3:=Qa ix_i3;obtain⟨I4,hh⟩:=EX i4;rw[<-hh] at X4 ⊢;clear hG hR hd ha hh h5
 go_loopw [12] (λi wr=>∃n:Nat,n<=4∧i=.int .i64 n∧Blk wr R 213 Z∧Blk wr G 238 (bl (c1 xs n))∧N0 w wr) (λi _=>4 - (intOf i).toNat)
 case atStart=>exact⟨0,by omega,rfl,K0.o⟩
 case round =>
  obtain⟨n,hn,rfl,k1,k2,k3⟩:=hrel;clear K0
  by_cases hlt:n<4
  ·have h4:=X4.o n hlt
   have hu:=c1_u8 xs H8.o.1 n
   have hc:wr.cell? ⟨G,4*n+3,none⟩=some (.int .u8 ((c1 xs n).getD (4*n+3) 0)):=by
    rw[k2.cell,bl_at _ _ (by rw[Gt,H8.o.2];omega)]
   have hf:=k2.froz (4*n+3);have h1:=and15 _ (hu.at (4*n+3));have h0:(c1 xs n).set (4*n+3) ((c1 xs n).getD (4*n+3) 0 % 16)=c1 xs (n+1):=rfl;obtain⟨x,hx⟩:=EX ((c1 xs n).getD (4*n+3) 0);rw[<-hx] at hc h1 h0;obtain⟨y,hy⟩:=EX (x % 16);rw[<-hy] at h1 h0;obtain⟨p,hp⟩:=EX (4*n+3);rw[<-hp] at h4 hc hf h0
   have N1:Hid (Blk (wr.setCell ⟨G,p,none⟩ (.int .u8 y)) R 213 Z∧Blk (wr.setCell ⟨G,p,none⟩ (.int .u8 y)) G 238 (bl (c1 xs (n+1)))∧N0 w (wr.setCell ⟨G,p,none⟩ (.int .u8 y))):=by
    have oc:=(Only.refl (λk=>k=G) wr).setCell (p:=⟨G,p,none⟩) (λ_=>rfl) (.int .u8 y);refine⟨k1.keep oc HG.o.2.2,?_,k3.trans oc (λi hi e=>by have:=HG.o.1;omega)⟩;have h:=k2.set p (.int .u8 y);rw[X0,h0] at h;exact h
   have i1:(n:Int)<4:=by omega
   have i2:(p:Int)<16:=by omega
   clear k1 k2 k3 hu h0 hx hy hp;go_wp2
   go_roundw
   case rel=>exact⟨n+1,by omega,by go_num,N1.o⟩
   case measure=>simp[intOf];omega
  ·obtain rfl:n=4:=by omega
   have K1:Hid (Blk wr R 213 Z∧Blk wr G 238 (bl (c2 xs 0))∧N0 w wr):=⟨k1,k2,k3⟩;clear k1 k2 k3;go_wp2_with (first|(refine Kh rfl 240 _ rfl i3.toArray (by kernel_rfl) ?_));obtain⟨I3,hg⟩:=EX i3;rw[<-hg] at X3 ⊢;clear hg X4
   go_loopw [22] (λi wr=>∃n:Nat,n<=3∧i=.int .i64 n∧Blk wr R 213 Z∧Blk wr G 238 (bl (c2 xs n))∧N0 w wr) (λi _=>3 - (intOf i).toNat)
   case atStart=>exact⟨0,by omega,rfl,K1.o⟩
   case round =>
    obtain⟨n,hn,rfl,k1,k2,k3⟩:=hrel;clear K1
    by_cases hlt:n<3
    ·have h4:=X3.o n hlt
     have hu:=c2_u8 xs H8.o.1 n
     have hc:wr.cell? ⟨G,4*n+4,none⟩=some (.int .u8 ((c2 xs n).getD (4*n+4) 0)):=by
      rw[k2.cell,bl_at _ _ (by rw[VL,H8.o.2];omega)]
     have hf:=k2.froz (4*n+4);have h1:=O8 _ (hu.at (4*n+4));have h0:(c2 xs n).set (4*n+4) ((c2 xs n).getD (4*n+4) 0 - (c2 xs n).getD (4*n+4) 0 % 4)=c2 xs (n+1):=rfl;obtain⟨x,hx⟩:=EX ((c2 xs n).getD (4*n+4) 0);rw[<-hx] at hc h1 h0;obtain⟨y,hy⟩:=EX (x - x % 4);rw[<-hy] at h1 h0;obtain⟨p,hp⟩:=EX (4*n+4);rw[<-hp] at h4 hc hf h0
     have N1:Hid (Blk (wr.setCell ⟨G,p,none⟩ (.int .u8 y)) R 213 Z∧Blk (wr.setCell ⟨G,p,none⟩ (.int .u8 y)) G 238 (bl (c2 xs (n+1)))∧N0 w (wr.setCell ⟨G,p,none⟩ (.int .u8 y))):=by
      have oc:=(Only.refl (λk=>k=G) wr).setCell (p:=⟨G,p,none⟩) (λ_=>rfl) (.int .u8 y);refine⟨k1.keep oc HG.o.2.2,?_,k3.trans oc (λi hi e=>by have:=HG.o.1;omega)⟩;have h:=k2.set p (.int .u8 y);rw[X0,h0] at h;exact h
     have i1:(n:Int)<3:=by omega
     have i2:(p:Int)<16:=by omega
     clear k1 k2 k3 hu h0 hx hy hp;go_wp2
     go_roundw
     case rel=>exact⟨n+1,by omega,by go_num,N1.o⟩
     case measure=>simp[intOf];omega
    ·obtain rfl:n=3:=by omega
     have A:=Qa (J4 _ (c2 xs 3) (by rw[VL,H8.o.2];decide) (c2_u8 xs H8.o.1 3) wr (Bs.of_bytes k2 16 (by rw[VL,H8.o.2])));rw[<-HD.o] at A;have R1:=Qa k1;have O1:=Qa k3;clear k1 k2 k3;go_wp2_with fail;refine A.o.mono ?_;rintro e w1 ⟨rfl,o1⟩;have R2:=Qa (R1.o.past o1);have O2:=Qa (O1.o.same o1);clear o1 R1 O1 A;go_wp2_with (first|(refine wpList_store_row rfl 213 (.tmp 2) (.tmp 32) rfl R D.toArray rfl rfl 213 Z.toArray R2.o h3.o.1 h3.o.2.1 h3.o.2.2 ?_));refine bodyPost_ret (v:=.agg D.toArray) (results_cell_row rfl _ _ R 213 D.toArray (0,0) _ rfl (R2.o.row D) underlying213 rfl h3.o.1) rfl ⟨rfl,?_⟩;exact O2.o.setRow (λh=>absurd h (by have:=HG.o.2.1;omega)) _
theorem yy (key xs:LI) (hk:key.length=32) (k8:U8 key) (x8:U8 xs) :
 leB 16 (LV (sdg (pls (lst (gth (nmb (c2 (key.take 16) 3)) xs ((xs.length+15) / 16))) (nmb (key.drop 16))) 0))=WU key xs:=by
 have hc:=OR key (by omega);have h0:(Wv key).length=16:=Gm key
 have p16:(256:Nat)^16<2^130:=by decide +kernel
 have h1:LV (nmb (c2 (key.take 16) 3))=nv (Wv key):=by
  rw[hc];refine XD _ (by rw[h0];decide) ?_;have:=nv_lt _ (Sf key k8);rw[h0] at this;omega
 have h6:(key.drop 16).length=16:=by rw[Qo,hk]
 have h2:LV (nmb (key.drop 16))=nv (key.drop 16):=by
  refine XD _ (by rw[h6];decide) ?_;have:=nv_lt _ (k8.drop 16);rw[h6] at this;omega
 have h3:=Oi (nmb (c2 (key.take 16) 3)) xs (Uq _) x8 ((xs.length+15) / 16);have h4:=Ak (gth (nmb (c2 (key.take 16) 3)) xs ((xs.length+15) / 16)) (U6 _ _ _) (J1 _ _ (KY _) _);have h5:=Wr (pls (lst (gth (nmb (c2 (key.take 16) 3)) xs ((xs.length+15) / 16))) (nmb (key.drop 16))) (Yw _ _);rw[Xt _ _ (VO _ (U6 _ _ _)) (Uq _),h4,h3,h1,h2] at h5;unfold WU;rw[<-h5.1];refine Ms (Vt _ _) (Vt _ _) (by rw[Kr,Kr]) ?_;rw[Tp,Tp,show (2:Nat)^130=256^16*4 by decide +kernel,Nat.mul_assoc,Nat.add_mul_mod_self_left]
def z17:List Value:=bl (List.replicate 17 0)
theorem Tryz.zero50:(prog.info? 241).map (λi=>(i.zero,i.size))=some (some (.agg z17.toArray),17):=by kernel_rfl
theorem WV {o:Oper} {a:Act} {W:World} {K:Act->World->Prop} {Q:Exit->Act->World->Prop} (n:Nat) (xs:Array Operand) (ts:Array TypeId)
 (ho:o.op=.call { callee:=.value (.func n),args:=xs,argTypes:=ts }) (hf:∀vs W,(callFunc n vs).run prog W=.ok (.enter n vs) W) (vs:Array Value) (r:Value) (hx:xs.map a.eval=vs) {R:World->Prop}
 (hc:Calls prog n vs W λe w'=>e=.returned r∧R w') (h:∀w',R w'->K (a.put o.dst r) w'):Oper.wp prog o a W K Q:=by
 subst hx;unfold Oper.wp;have e:a.eval (Operand.func n)=.func (.func n) #[] #[]:=rfl;have hf2:=hf (xs.map a.eval) W;simp[execOp,ho,resolve,invoke,e,Oper.upon,Deferred.ofValue,hf2];refine Calls.mono hc ?_;rintro e w' ⟨rfl,hR⟩;exact h w' hR
theorem DZ (vs:Array Value) (W:World):(callFunc 165 vs).run prog W=.ok (.enter 165 vs) W:=by kernel_rfl
theorem L3 (vs:Array Value) (W:World):(callFunc 167 vs).run prog W=.ok (.enter 167 vs) W:=by kernel_rfl
theorem Cj (vs:Array Value) (W:World):(callFunc 191 vs).run prog W=.ok (.enter 191 vs) W:=by kernel_rfl
theorem Blk.setAll {w:World} {g:Nat} {t:TypeId} {cs vs:List Value} (h:Blk w g t cs) (hl:vs.length=cs.length):Blk (w.setCells g 0 vs) g t vs:=by
 have:=Gf [] cs [] vs hl w g t (by simpa using h)
 simpa using this
theorem AS (xs:LI) (k q:Nat) (hq:q=min 16 (xs.drop (16*k)).length):((xs.drop (16*k)).take q++List.replicate (17 - q) 0).set q 1=pby xs k:=by
 have hl:((xs.drop (16*k)).take q).length=q:=by rw[Qf];omega
 have e:17 - q=(16 - q)+1:=by omega
 rw[List.set_append_right _ _ (by omega),hl,Nat.sub_self,e,List.replicate_succ,Qj,pby]
 have h1:(xs.drop (16*k)).take q=(xs.drop (16*k)).take 16:=by
  by_cases h:(xs.drop (16*k)).length<=16
  ·rw[List.take_of_length_le (by omega),List.take_of_length_le h]
  ·rw[show q=16 by omega]
 rw[h1,List.append_assoc]
 congr 2
 rw[Qo] at hq;rw[hq]
 rfl
def pslen:Value->Nat
 | .slice _ n _=>n
 | _=>0
abbrev o0ga : Oper:={ dst:=some 21,op:=Op.call { callee:=Callee.value (Operand.func 167),args:=#[Operand.tmp 18,Operand.tmp 20],argTypes:=#[213,213] },type:=213,pos:="poly.go:51",after:=#[{ on:=0,ground:=Ground.data },{ on:=2,ground:=Ground.data },{ on:=2,ground:=Ground.chain }],guard:=none }
abbrev o1ga : Oper:={ dst:=some 23,op:=Op.call { callee:=Callee.value (Operand.func 191),args:=#[Operand.tmp 21,Operand.tmp 22],argTypes:=#[213,213] },type:=213,pos:="poly.go:51",after:=#[{ on:=3,ground:=Ground.data },{ on:=4,ground:=Ground.data },{ on:=3,ground:=Ground.chain }],guard:=none }
abbrev o2ga : Oper:={ dst:=none,op:=Op.store 213 (Operand.tmp 5) (Operand.tmp 23),type:=0,pos:="poly.go:51",after:=#[{ on:=5,ground:=Ground.data },{ on:=5,ground:=Ground.chain },{ on:=0,ground:=Ground.phase },{ on:=1,ground:=Ground.phase },{ on:=2,ground:=Ground.phase },{ on:=3,ground:=Ground.phase },{ on:=4,ground:=Ground.phase },{ on:=5,ground:=Ground.phase }],guard:=none }
abbrev o3ga : Oper:={ dst:=some 22,op:=Op.load 213 (Operand.tmp 3),type:=213,pos:="poly.go:51",after:=#[],guard:=none }
abbrev o4ga : Oper:={ dst:=some 18,op:=Op.load 213 (Operand.tmp 5),type:=213,pos:="poly.go:51",after:=#[],guard:=none }
abbrev o5ga : Oper:={ dst:=some 20,op:=Op.call { callee:=Callee.value (Operand.func 165),args:=#[Operand.tmp 19],argTypes:=#[23] },type:=213,pos:="poly.go:51",after:=#[{ on:=1,ground:=Ground.data }],guard:=none }
theorem uO (v:Value) (xs:LI) (hl:xs.length<=1000000000000) (h8:U8 xs) (r:List Nat) (hr:r.length=5) (lr:LB 67108864 r) (w:World) (hb:Bs .u8 w v xs) :
 Calls prog 169 #[v,.agg (ul r).toArray] w λe w'=>e=.returned (.agg (ul (gth r xs ((xs.length+15) / 16))).toArray)∧N0 w w':=by
 have k6:=(zero_of_info (P:=prog) Tryz.zero34).1;have hzw:=(zero_of_info (P:=prog) Tryz.zero50).1;obtain⟨Z,hZ⟩:=EX z5;rw[<-hZ] at k6;obtain⟨Y,hY⟩:=EX z17;rw[<-hY] at hzw;obtain⟨D,hD⟩:=EX (ul (gth r xs ((xs.length+15) / 16)))
 have hf:Hid ((prog.info? 213).map (·.size)=some D.toArray.size∧Z.toArray.size=D.toArray.size∧D.toArray.all (·.oneCell')=true):=by
  rw[hD,hZ];exact⟨YJ _ (U6 _ _ _),by simp[QS,U6,Uz],Y9 _⟩
 rw[<-hD];have HD:=Qa (And.intro hD (And.intro hZ hY));have HX:=Qa (And.intro h8 (And.intro hr lr));obtain⟨B,hB⟩:=EX (ul r);have HB:Hid (B=ul r∧B.length=5):=⟨hB,by rw[hB,QS,hr]⟩;rw[<-hB]
 have K0:Hid (Blk (((w.alloc (.cells B.toArray 213)).alloc (.cells Z.toArray 213)).alloc (.cells Z.toArray 213)) w.heap.size 213 B∧Blk (((w.alloc (.cells B.toArray 213)).alloc (.cells Z.toArray 213)).alloc (.cells Z.toArray 213)) (w.heap.size+1) 213 Z∧Blk (((w.alloc (.cells B.toArray 213)).alloc (.cells Z.toArray 213)).alloc (.cells Z.toArray 213)) (w.heap.size+1+1) 213 (ul (gth r xs 0))∧N0 w (((w.alloc (.cells B.toArray 213)).alloc (.cells Z.toArray 213)).alloc (.cells Z.toArray 213))):=by
  refine⟨((Blk.new w 213 B).alloc _).alloc _,?_,?_,(((Only.refl _ _).alloc _).alloc _).alloc _⟩
  ·have:=(Blk.new (w.alloc (.cells B.toArray 213)) 213 Z).alloc (.cells Z.toArray 213)
   rw[size_alloc] at this;exact this
  ·have:=Blk.new ((w.alloc (.cells B.toArray 213)).alloc (.cells Z.toArray 213)) 213 Z
   rw[size_alloc,size_alloc] at this;rw[HD.o.2.1] at this ⊢;exact this
 have B0:=Qa hb;obtain⟨n,hn⟩:=EX xs.length;have HN:=Qa hn;rw[<-hn] at hl;clear hZ hY hD hB hb hr lr h8 hn;go_enter func169,ntmps169;go_wp2;obtain⟨A,hA⟩:=EX (w.heap.size+1+1);rw[<-hA] at K0 ⊢;obtain⟨R,hR⟩:=EX (w.heap.size+1);rw[<-hR] at K0 ⊢;obtain⟨H,hH⟩:=EX w.heap.size;have HG:Hid (w.heap.size<=A∧w.heap.size<=R∧R≠A∧H≠A):=⟨by omega,by omega,by omega,by omega⟩;rw[<-hH] at K0 ⊢;obtain⟨W0,kf⟩:=EX (((w.alloc (.cells B.toArray 213)).alloc (.cells Z.toArray 213)).alloc (.cells Z.toArray 213));rw[<-kf] at K0 ⊢;clear hA hR hH kf k6
 go_loopw [6] (λo wr=>∃k:Nat,Bs .u8 w o (xs.drop (16*k))∧16*k<=n+15∧Blk wr H 213 B∧Blk wr R 213 Z∧Blk wr A 213 (ul (gth r xs k))∧N0 w wr) (λo _=>pslen o)
 case atStart=>exact⟨0,B0.o,by omega,K0.o⟩
 case round =>
  obtain⟨k,h5,hk,k1,k2,k3,k4⟩:=hrel;clear K0 B0;obtain⟨ao,cap,rfl⟩:=h5.len;have h7:=h5.past k4
  have h0:(xs.drop (16*k)).length=n - 16*k:=by rw[Qo,HN.o]
  have k0:(xs.drop (16*k)).length<=cap:=by
   obtain⟨_,_,e,h,_⟩:=h7
   cases e;exact h
  by_cases hlt:16*k<n
  ·obtain⟨q,hq⟩:=EX (min 16 (xs.drop (16*k)).length)
   obtain⟨W1,ho⟩:=EX (wr.alloc (.cells Y.toArray 241))
   have ke:Blk W1 wr.heap.size 241 (bl (List.replicate 17 0)):=by
    have:=Blk.new wr 241 Y;rw[ho];rw[HD.o.2.2] at this ⊢;exact this
   have hx:N0 wr W1:=by rw[ho];exact (Only.refl _ _).alloc _
   obtain⟨w3,h3,hh,kg⟩:=Pi 241 17 17 _ (xs.drop (16*k)) W1 wr.heap.size 16 q ke (h7.past hx) hq (by decide)
   have he:q<=16∧0<q∧q<=n - 16*k:=by omega
   have h9:((xs.drop (16*k)).take q++List.replicate (17 - q) 0).length=17:=by
    rw[Qc,Qf,List.length_replicate];omega
   have kc:w3.cell? ⟨wr.heap.size,q,none⟩=some (.int .u8 (((xs.drop (16*k)).take q++List.replicate (17 - q) 0).getD q 0)):=by
    rw[hh.cell,bl_at _ _ (by rw[h9];omega)]
   have hf3:=hh.froz q;obtain⟨z,hz⟩:=EX (((xs.drop (16*k)).take q++List.replicate (17 - q) 0).getD q 0);rw[<-hz] at kc;have h6:N0 wr w3:=hx.trans kg (λi hi e=>by omega);obtain⟨W4,hj⟩:=EX (w3.setCell ⟨wr.heap.size,q,none⟩ (.int .u8 1))
   have k8:Blk W4 wr.heap.size 241 (bl (pby xs k)):=by
    have h:=hh.set q (.int .u8 1);rw[X0,AS xs k q hq] at h;rw[hj];exact h
   have h4:N0 wr W4:=by
    rw[hj];exact h6.setCell (p:=⟨wr.heap.size,q,none⟩) (λh=>absurd h (Nat.lt_irrefl _)) _
   have hy:=h7.past h4;have K4:Hid (Blk W4 H 213 B∧Blk W4 R 213 Z∧Blk W4 A 213 (ul (gth r xs k))∧N0 w W4):=⟨k1.past h4,k2.past h4,k3.past h4,k4.same h4⟩;have oD:N0 W4 W4.drew:=(Only.refl _ _).drew;have NU:=Qa (λW (o:N0 W4 W)=>(J4 _ (pby xs k) (by rw[XY];decide) (IL xs HX.o.1 k) W (Bs.of_bytes (k8.past o) 17 (XY _ _))).mono (λ_ w' (h:_∧_)=>And.intro h.1 (o.same h.2)));have lg:=J1 r xs HX.o.2.2 k;have lp:=Zq (C:=134217728) lg (KY (pby xs k)) (by decide);have PL:=Qa (λW (o:N0 W4 W)=>(Ji (gth r xs k) (nmb (pby xs k)) (U6 _ _ _) (Uq _) (lg.mono (by decide)) ((KY _).mono (by decide)) W).mono (λ_ w' (h:_∧_)=>And.intro h.1 (o.same h.2)));have TI:=Qa (λW (o:N0 W4 W)=>(Sh (pls (gth r xs k) (nmb (pby xs k))) r (Yw _ _) HX.o.2.1 lp HX.o.2.2 W).mono (λ_ w' (h:_∧_)=>And.intro h.1 (o.same h.2)));have eN:ptms (pls (gth r xs k) (nmb (pby xs k))) r=gth r xs (k+1):=rfl;rw[eN,<-HB.o.1] at TI
   have hd:(ul (gth r xs k)).length=5:=by rw[QS,U6]
   have ha:(ul (gth r xs (k+1))).length=5:=by rw[QS,U6]
   have hw:∀v∈ul (gth r xs (k+1)),v.oneCell'=true:=Rx _;obtain⟨AA,kj⟩:=EX (ul (gth r xs k));obtain⟨NN,hu⟩:=EX (ul (gth r xs (k+1)));obtain⟨ht,ka⟩:∃ht,ht=ul (pls (gth r xs k) (nmb (pby xs k))):=⟨_,rfl⟩;obtain⟨MM,k9⟩:=EX (ul (nmb (pby xs k)));rw[<-kj] at PL K4 hd;rw[<-hu] at TI ha hw;rw[<-ka] at PL TI;rw[<-k9] at NU PL
   have rA:Hid (∀W,N0 W4 W->W.rangeAt A 0 AA):=λW o=>by
    have:=Blk.range (a:=[]) (b:=AA) (c:=[]) (w:=W) (g:=A) (t:=213) (by simpa using K4.o.2.2.1.past o)
    simpa using this
   have rH:Hid (∀W,N0 W4 W->W.rangeAt H 0 B):=λW o=>by
    have:=Blk.range (a:=[]) (b:=B) (c:=[]) (w:=W) (g:=H) (t:=213) (by simpa using K4.o.1.past o)
    simpa using this
   have iA:Hid ((prog.info? 213).map (·.size)=some AA.length∧(prog.info? 213).map (·.size)=some B.length∧(prog.info? 213).map (·.size)=some NN.toArray.size∧NN.toArray.all (·.oneCell')=true):=by
    refine⟨by rw[hd];exact Tryz.size34,by rw[HB.o.2];exact Tryz.size34,by rw[List.size_toArray,ha];exact Tryz.size34,all_oneCell_toArray hw⟩
   have tA:Hid (∀W,N0 W4 W->W.there A 0 NN.toArray.size):=λW o=>(K4.o.2.2.1.past o).there 0 NN.toArray.size (by rw[List.size_toArray,ha,hd];decide)
   have kd:Hid (∀W,N0 W4 W->Blk (W.setCells A 0 NN) H 213 B∧Blk (W.setCells A 0 NN) R 213 Z∧Blk (W.setCells A 0 NN) A 213 (ul (gth r xs (k+1)))∧N0 w (W.setCells A 0 NN)):=λW o=>by
    have oc:Only (λk=>k=A) W (W.setCells A 0 NN):=Only.setCells (S:=λk=>k=A) (λ_=>rfl) _ 0 W (Only.refl _ _);refine⟨(K4.o.1.past o).keep oc HG.o.2.2.2,(K4.o.2.1.past o).keep oc HG.o.2.2.1,?_,(K4.o.2.2.2.same o).trans oc (λi hi e=>by have:=HG.o.1;omega)⟩;rw[<-hu];exact (K4.o.2.2.1.past o).setAll (by rw[hd,ha])
   rw[ho] at h3;obtain⟨m,hm⟩:=EX ((xs.drop (16*k)).length);have HM:=Qa (And.intro hm (And.intro hq h0));rw[<-hm] at k0 h3 h5 ⊢;have kk:=Qa h5
   have i0:(0:Int)<(m:Int):=by omega
   have i1:(q:Int)<17:=by omega
   have i2:(0:Int)<=(q:Int):=by omega
   have i3:(q:Int)<=(m:Int):=by omega
   have i4:(m:Int)<=(cap:Int):=by omega
   have HQ:=Qa he;clear ho ke hx hh kg h9 hz h6 k8 h4 hy lg lp eN ka k9 kj hu hd ha hw k1 k2 k3 k4 h7 h5 hq h0 hm he K4;go_wp2_with fail;rw[<-hj];clear hj kc hf3 h3
   go_cut [] from 10 to 26 (λW=>∃V,N0 W4 V∧W=V.setCells A 0 NN)
   case first =>
    refine wp_region_any (by kernel_rfl) ?_
    change wpAny _ _ _ _ _ _ _ (World.drew _)
    refine wpAny_take (i:=1) (oi:={ dst:=some 19,op:=Op.slice 241 (Operand.tmp 7) none none none,type:=23,pos:="poly.go:51",after:=#[],guard:=none }) (v:=?tv1) rfl (by kernel_rfl) (by kernel_rfl) (by kernel_rfl) (fun _ _ _ h => h) (Or.inl ⟨by rfl,?th1⟩) ?tr1
    case th1=>(intro w;go_simp;try with_reducible rfl)
    try simp only[Act.put,Qp,Qj,Qn]
    have O:=oD
    repeat' (first
    | ((first
     | (have _:=m4;clear m4;rw[if_pos (by rfl)];refine wp_load_mid 213 (.tmp 5) rfl A 0 rfl AA _ (rA.o _ O) underlying213 rfl iA.o.1 ?_;refine hK _ _ ?_;clear hK K;have hp:=trivial)
     | (have _:=m3;clear m3;rw[if_pos (by rfl)];refine wp_load_mid 213 (.tmp 3) rfl H 0 rfl B _ (rH.o _ O) underlying213 rfl iA.o.2.1 ?_;refine hK _ _ ?_;clear hK K;have hg:=trivial)
     | (have _:=m5;clear m5;rw[if_pos (by rfl)];refine WV 165 #[.tmp 19] #[23] rfl DZ #[.slice (some ⟨wr.heap.size,0,none⟩) 17 17] (.agg MM.toArray) (by kernel_rfl) (NU.o _ O) ?_;intro W O;refine hK _ _ ?_;clear hK K;have hs:=trivial)
     | (have _:=m0;clear m0;rw[if_pos (by rfl)];refine WV 167 #[.tmp 18,.tmp 20] #[213,213] rfl L3 #[.agg AA.toArray,.agg MM.toArray] (.agg ht.toArray) (by kernel_rfl) (PL.o _ O) ?_;intro W O;refine hK _ _ ?_;clear hK K;have ki:=trivial)
     | (have _:=m1;clear m1;rw[if_pos (by rfl)];refine WV 191 #[.tmp 21,.tmp 22] #[213,213] rfl Cj #[.agg ht.toArray,.agg B.toArray] (.agg NN.toArray) (by kernel_rfl) (TI.o _ O) ?_;intro W O;refine hK _ _ ?_;clear hK K;have z_5:=trivial)
     | (have _:=m2;clear m2;rw[if_pos (by rfl)];refine wp_store_mid 213 (.tmp 5) (.tmp 23) rfl A 0 NN.toArray rfl rfl (tA.o _ O) iA.o.2.2.1 iA.o.2.2.2 ?_;refine hK _ _ ?_;clear hK K;simp only[Act.put];refine wpAny_done (by kernel_rfl) ?_ _;go_wp2;go_meet;case rel=>exact⟨_,O,rfl⟩));try simp only[Act.put,Qp,Qj,Qn])
    | (have _:=z_5;refine wpAny_ready (rs:=[6]) (by kernel_rfl) (by simp) (AllReady.cons (o:=o2ga) rfl (λK hK=>(λ(m2:True)=>?_) trivial) AllReady.nil))
    | (have _:=ki;have _:=hg;refine wpAny_ready (rs:=[5]) (by kernel_rfl) (by simp) (AllReady.cons (o:=o1ga) rfl (λK hK=>(λ(m1:True)=>?_) trivial) AllReady.nil))
    | (have _:=ki;refine wpAny_ready (rs:=[4]) (by kernel_rfl) (by simp) (AllReady.cons (o:=o3ga) rfl (λK hK=>(λ(m3:True)=>?_) trivial) AllReady.nil))
    | (have _:=hp;have _:=hs;have _:=hg;refine wpAny_ready (rs:=[3]) (by kernel_rfl) (by simp) (AllReady.cons (o:=o0ga) rfl (λK hK=>(λ(m0:True)=>?_) trivial) AllReady.nil))
    | (have _:=hp;have _:=hs;refine wpAny_ready (rs:=[3,4]) (by kernel_rfl) (by simp) (AllReady.cons (o:=o0ga) rfl (λK hK=>(λ(m0:True)=>?_) trivial) (AllReady.cons (o:=o3ga) rfl (λK hK=>(λ(m3:True)=>?_) trivial) AllReady.nil)))
    | (have _:=hp;have _:=hg;refine wpAny_ready (rs:=[2]) (by kernel_rfl) (by simp) (AllReady.cons (o:=o5ga) rfl (λK hK=>(λ(m5:True)=>?_) trivial) AllReady.nil))
    | (have _:=hp;refine wpAny_ready (rs:=[2,4]) (by kernel_rfl) (by simp) (AllReady.cons (o:=o5ga) rfl (λK hK=>(λ(m5:True)=>?_) trivial) (AllReady.cons (o:=o3ga) rfl (λK hK=>(λ(m3:True)=>?_) trivial) AllReady.nil)))
    | (have _:=hs;have _:=hg;refine wpAny_ready (rs:=[0]) (by kernel_rfl) (by simp) (AllReady.cons (o:=o4ga) rfl (λK hK=>(λ(m4:True)=>?_) trivial) AllReady.nil))
    | (have _:=hs;refine wpAny_ready (rs:=[0,4]) (by kernel_rfl) (by simp) (AllReady.cons (o:=o4ga) rfl (λK hK=>(λ(m4:True)=>?_) trivial) (AllReady.cons (o:=o3ga) rfl (λK hK=>(λ(m3:True)=>?_) trivial) AllReady.nil)))
    | (have _:=hg;refine wpAny_ready (rs:=[0,2]) (by kernel_rfl) (by simp) (AllReady.cons (o:=o4ga) rfl (λK hK=>(λ(m4:True)=>?_) trivial) (AllReady.cons (o:=o5ga) rfl (λK hK=>(λ(m5:True)=>?_) trivial) AllReady.nil)))
    | (refine wpAny_ready (rs:=[0,2,4]) (by kernel_rfl) (by simp) (AllReady.cons (o:=o4ga) rfl (λK hK=>(λ(m4:True)=>?_) trivial) (AllReady.cons (o:=o5ga) rfl (λK hK=>(λ(m5:True)=>?_) trivial) (AllReady.cons (o:=o3ga) rfl (λK hK=>(λ(m3:True)=>?_) trivial) AllReady.nil)))))
   case rest =>
    obtain⟨V,oV,rfl⟩:=hcut;have hv:=Qa (kd.o V oV);clear rA rH iA tA kd TI PL NU;obtain⟨W9,kh⟩:=EX (V.setCells A 0 NN);rw[<-kh] at hv ⊢;clear kh oV
    by_cases hcq:cap=q
    ·subst hcq
     have hmq:m=cap:=by omega
     subst hmq;have C:=Qa (kk.o.cut0 (n:=m) (Nat.le_refl _));rw[List.drop_drop,Nat.sub_self] at C
     have E8:Hid (xs.drop (16*k+m)=xs.drop (16*(k+1))∧16*(k+1)<=n+15∧0<m):=by
      have h1:=HM.o;have h2:=HQ.o;refine⟨?_,by omega,by omega⟩;rw[List.drop_of_length_le (by have:=HN.o;omega),List.drop_of_length_le (by have:=HN.o;omega)]
     rw[E8.o.1] at C;go_wp2
     go_roundw
     case rel=>exact⟨k+1,C.o,E8.o.2.1,hv.o⟩
     case measure =>
      have:=E8.o.2.2;simp only[pslen];omega
    ·have C:=Qa (kk.o.cut (n:=q) (by omega))
     rw[List.drop_drop] at C
     have E8:Hid (xs.drop (16*k+q)=xs.drop (16*(k+1))∧16*(k+1)<=n+15∧0<m∧0<q):=by
      have h1:=HM.o;have h2:=HQ.o;refine⟨?_,by omega,by omega,by omega⟩
      by_cases h16:q=16
      ·rw[h16,show 16*k+16=16*(k+1) by omega]
      ·rw[List.drop_of_length_le (by have:=HN.o;omega),List.drop_of_length_le (by have:=HN.o;omega)]
     rw[E8.o.1] at C
     have i5:¬(cap:Int)=(q:Int):=by omega
     go_wp2
     go_roundw
     case rel=>exact⟨k+1,C.o,E8.o.2.1,hv.o⟩
     case measure =>
      have:=E8.o.2.2;simp only[pslen];omega
  ·have k7:(xs.drop (16*k)).length=0:=by omega
   rw[k7]
   have k5:k=(n+15) / 16:=by omega
   have S2:Hid (Blk wr A 213 D):=by
    have h:=k3;rw[k5,HN.o,<-HD.o.1] at h;exact h
   have R2:=Qa k2;have O2:=Qa k4;clear k1 k2 k3 k4 k5 h0 k0 h7 h5 k7;go_wp2_with (first|(refine wpList_load_row rfl 213 (.tmp 5) rfl A rfl 213 D.toArray (0,0) _ S2.o underlying213 rfl hf.o.1 ?_)|(refine wpList_store_row rfl 213 (.tmp 4) (.tmp 27) rfl R D.toArray rfl rfl 213 Z.toArray R2.o hf.o.1 hf.o.2.1 hf.o.2.2 ?_));refine bodyPost_ret (v:=.agg D.toArray) (results_cell_row rfl _ _ R 213 D.toArray (0,0) _ rfl (R2.o.row D) underlying213 rfl hf.o.1) rfl ⟨rfl,?_⟩;exact O2.o.setRow (λh=>absurd h (by have:=HG.o.2.1;omega)) _
theorem By {o:Oper} {a:Act} {W:World} {K:Act->World->Prop} {Q:Exit->Act->World->Prop} (ho:o.op=.alloc 213)
 (h:K (a.put o.dst (.pointer (some ⟨W.heap.size,0,none⟩))) (W.alloc (.cells z5.toArray 213))):Oper.wp prog o a W K Q:=by
 unfold Oper.wp execOp;have hzv:=(zero_of_info (P:=prog) Tryz.zero34).1;simp[ho,Instr.alloc,hzv,go_sem];exact h
theorem AI (vs:Array Value) (W:World):(callFunc 169 vs).run prog W=.ok (.enter 169 vs) W:=by kernel_rfl
theorem qE (vs:Array Value) (W:World):(callFunc 168 vs).run prog W=.ok (.enter 168 vs) W:=by kernel_rfl
theorem Ev (vs:Array Value) (W:World):(callFunc 166 vs).run prog W=.ok (.enter 166 vs) W:=by kernel_rfl
end Go.Proofs.YtoflhbghdlaeaaaGreatDoor
