import Derived.Test.YtiochaeeoelmjaaGreatDoorG14
import Derived.Test.YtiochaeeoelmjaaGreatDoorG4
namespace Go.Proofs.YtiochaeeoelmjaaGreatDoor
set_option maxHeartbeats 1600000
set_option maxRecDepth 100000
open Go.RowKit _root_.Go.Proofs.Tryz
variable {w w' W:World} {v:Value} {ys xs l:LI} {R n p k g B:Nat} {P:Program} {ls:List (LI)} {E:TypeId}
def lacc (b:LI):Nat->Nat
 | 0=>0
 | m+1=>lacc b m+(b.getD m 0).toNat*256^m
theorem PZ (b:LI) (h:U8 b):∀m,lacc b m<256^m:=by
 intro m
 induction m with
 | zero=>exact Nat.zero_lt_one
 | succ m ih =>
  have:=h.at m;have e:256^(m+1)=256^m*256:=Nat.pow_succ ..
  show lacc b m+(b.getD m 0).toNat*256^m < _
  have hm:(b.getD m 0).toNat*256^m<=255*256^m:=Nat.mul_le_mul_right _ (by omega);omega
theorem pj (b:LI):lacc b 4=ld4 b 0:=by
 simp[lacc,ld4]
theorem Oj (a y m:Nat) (ha:a<2^m):a ||| y*2^m=a+y*2^m:=by
 have:=Nat.two_pow_add_eq_or_of_lt ha y;rw[Nat.or_comm,Nat.mul_comm y,<-this,Nat.add_comm]
theorem Tx (b:LI) (h:U8 b) (m:Nat) (hm:m<4):bits .or .u32 ((lacc b m:Nat):Int) (b.getD m 0*256^m)=((lacc b (m+1):Nat):Int):=by
 have h0:=h.at m;obtain⟨y,hy⟩:=Int.eq_ofNat_of_zero_le h0.1;have hl:=PZ b h m;have hl2:=PZ b h (m+1)
 have e:(256:Nat)^m=2^(8*m):=by rw[Nat.pow_mul]
 have h4:(256:Nat)^(m+1)<=256^4:=Nat.pow_le_pow_right (by decide) (by omega)
 have h5:(256:Nat)^4=4294967296:=by decide
 have hle:lacc b m<=lacc b (m+1):=Nat.le_add_right _ _
 have hs:lacc b (m+1)=lacc b m+y*256^m:=by
  show lacc b m+(b.getD m 0).toNat*256^m=_
  rw[hy];rfl
 rw[hy,show ((y:Int)*256^m)=((y*256^m:Nat):Int) by simp,u32_or_nat _ _ (by omega) (by omega),hs]
 congr 1
 rw[e];exact Oj _ _ _ (by rw[<-e];exact hl)
theorem wK (b:LI) (h:U8 b):bits .or .u32 ((lacc b 0:Nat):Int) (b.getD 0 0)=((lacc b 1:Nat):Int):=by
 have:=Tx b h 0 (by decide)
 rwa [Int.pow_zero,Int.mul_one] at this
theorem wa (y:Int) (hy:0<=y∧y<=255):y*256 % 4294967296=y*256∧y*65536 % 4294967296=y*65536∧y*16777216 % 4294967296=y*16777216:=by omega
theorem IB (v:Value) (xs:LI) (h8:U8 xs) (hl:4<=xs.length) (w:World) (hb:Bs .u8 w v xs) :
 Calls prog 227 #[v] w λe w'=>e=.returned (.int .u32 (ld4 xs 0:Nat))∧w=w':=by
 obtain⟨b,off,cap,rfl,_⟩:=hb.at 0 (by omega)
 have HB:Hid (∀j,j<4->w.cell? ⟨b,off+j,none⟩=some (.int .u8 (xs.getD j 0))):=λj hj=>by
  obtain⟨b',off',cap',e,hc⟩:=hb.at j (by omega);simp at e;obtain⟨⟨rfl,rfl⟩,_⟩:=e;exact hc
 have HF:=Qa (pj xs);have H8:=Qa h8;obtain⟨n,hn⟩:=EX xs.length;rw[<-hn] at hl ⊢;clear hb hn h8;go_enter func227,ntmps227;go_wp2
 go_loopw [3,5] (λo i wr=>∃j:Nat,j<=4∧i=.int .i64 j∧o=.int .u32 (lacc xs j:Nat)∧w=wr) (λ_ i _=>4 - (intOf i).toNat)
 case atStart=>exact⟨0,by omega,rfl,rfl,rfl⟩
 case round =>
  obtain⟨j,hj,rfl,rfl,rfl⟩:=hrel
  by_cases hlt:j<4
  ·have hc:=HB.o j hlt
   have hy:=H8.o.at j;have hs:=wa _ hy;have ho:=Tx xs H8.o j hlt;have ho0:=wK xs H8.o;obtain⟨y,h0⟩:=EX (xs.getD j 0);obtain⟨q,hq⟩:∃q:Nat,q=lacc xs (j+1):=⟨_,rfl⟩;obtain⟨A,hA⟩:∃A:Nat,A=lacc xs j:=⟨_,rfl⟩
   have i1:(j:Int)<4:=by omega
   have i2:(j:Int)<n:=by omega
   rw[<-h0] at hc hy hs ho;rw[<-hq,<-hA] at ho;rw[<-hA];obtain⟨y0,y1⟩:=hy;obtain⟨t1,t2,t3⟩:=hs;have HQ:=Qa hq;clear h0 hq hA ho0 HB H8
   have h4:j=0∨j=1∨j=2∨j=3:=by omega
   rcases h4 with rfl | rfl | rfl | rfl
   ·simp only[Nat.add_zero] at hc
    simp at ho;go_wp2
    go_roundw
    case rel=>exact⟨1,by omega,by go_num,by rw[HQ.o],trivial⟩
    case measure=>simp[intOf]
   ·simp at ho
    go_wp2
    go_roundw
    case rel=>exact⟨2,by omega,by go_num,by rw[HQ.o],trivial⟩
    case measure=>simp[intOf]
   ·simp at ho
    go_wp2
    go_roundw
    case rel=>exact⟨3,by omega,by go_num,by rw[HQ.o],trivial⟩
    case measure=>simp[intOf]
   ·simp at ho
    go_wp2
    go_roundw
    case rel=>exact⟨4,by omega,by go_num,by rw[HQ.o],trivial⟩
    case measure=>simp[intOf]
  ·obtain rfl:j=4:=by omega
   rw[HF.o];go_wp2;go_ret;exact⟨rfl,rfl⟩
theorem Et (xs:LI) (j:Nat):ldW xs (j+1)=ldW xs j++[ld4 xs j]:=by
 simp[ldW,List.range_succ]
theorem zO (xs:LI) (j:Nat):ld4 (xs.drop (j*4)) 0=ld4 xs j:=by
 rw[Nat.mul_comm j 4];simp only[ld4,Qc,List.getElem?_drop,Nat.mul_zero,Nat.zero_add,Nat.add_zero]
theorem wU (A M C:List Nat) (xs:LI) (j:Nat) (hj:j<M.length) :
 (A++(ldW xs j++M.drop j)++C).set (A.length+j) (ld4 xs j)=A++(ldW xs (j+1)++M.drop (j+1))++C:=by
 have e:M.drop j=M[j] :: M.drop (j+1):=List.drop_eq_getElem_cons hj;rw[List.append_assoc,List.set_append_right _ _ (by omega),Nat.add_sub_cancel_left,List.append_assoc,List.set_append_right _ _ (by rw[U6];omega),U6,Nat.sub_self,e,List.cons_append,Qn,Et];simp
theorem RJ (g off n cap:Nat) (A M C:List Nat) (v:Value) (xs:LI) (hA:A.length=off) (hM:M.length=n) (hx:xs.length=4*n) (hn:n<=16) (h8:U8 xs) (w:World) (hb:Bs .u8 w v xs)
 (hv:∀k,v.ownBlock=some k->¬k=g) (hB:Blk w g 190 (wl (A++M++C))) :
 Calls prog 194 #[.slice (some ⟨g,off,none⟩) n cap,v] w λe w'=>e=.returned (.tuple #[])∧Blk w' g 190 (wl (A++ldW xs n++C))∧Only (λk=>k=g) w w':=by
 obtain⟨ao,vc,rfl⟩:=hb.len
 have h4:xs.length<=vc:=by obtain⟨_,_,e,h,_⟩:=hb;cases e;exact h
 have HB:=Qa hb;have HV:=Qa hv;have H0:=Qa hB;have H8:=Qa h8;have HM:=Qa (Vz hA hM);obtain⟨m,hm⟩:=EX xs.length;have h9:=Qa hm;rw[<-hm] at hx h4 ⊢;clear hb hv hB hA hM h8 hm;go_enter func194,ntmps194;go_wp2
 go_loopw [7] (λi wr=>∃j:Nat,j<=n∧i=.int .i64 j∧Blk wr g 190 (wl (A++(ldW xs j++M.drop j)++C))∧Only (λk=>k=g) w wr) (λi _=>n - (intOf i).toNat)
 case atStart=>exact⟨0,by omega,rfl,H0.o,VG⟩
 case round =>
  obtain⟨j,hj,rfl,hS,hO⟩:=hrel
  by_cases hlt:j<n
  ·have h6:Bs .u8 wr (.slice ao m vc) xs:=by
    have:=HB.o.keep hO (λk hk e=>HV.o k hk e);rw[<-h9.o] at this;exact this
   have h7:=h6.cut (n:=j*4) (by omega);have h5:=Qa (IB _ _ (H8.o.drop (j*4)) (by rw[Qm,<-h9.o];omega) wr h7);rw[zO] at h5
   have h0:off+j<(A++(ldW xs j++M.drop j)++C).length:=by
    have h1:=HM.o.1;have h2:=HM.o.2;rw[Qb,Qb,Qb,U6,Qm];omega
   have hc:wr.cell? ⟨g,off+j,none⟩=some (.int .u32 (((A++(ldW xs j++M.drop j)++C).getD (off+j) 0:Nat):Int)):=by rw[hS.cell,wl_at _ _ h0]
   obtain⟨z,hz⟩:=EX ((A++(ldW xs j++M.drop j)++C).getD (off+j) 0);rw[<-hz] at hc;have hf:=hS.froz (off+j);obtain⟨x,h3⟩:=EX (ld4 xs j);rw[<-h3] at h5
   have N1:Hid (Blk (wr.setCell ⟨g,off+j,none⟩ (.int .u32 (x:Int))) g 190 (wl (A++(ldW xs (j+1)++M.drop (j+1))++C))):=by
    have:=hS.set (off+j) (.int .u32 (x:Int));rw[Wc,h3,<-HM.o.1,wU A M C xs j (by rw[HM.o.2];exact hlt)] at this;rw[h3,<-HM.o.1];exact this
   have N2:=Qa (hO.setCell (p:=⟨g,off+j,none⟩) (λ_=>rfl) (.int .u32 (x:Int)))
   have i1:(j:Int)<n:=by omega
   have i2:(0:Int)<=(j:Int)*4:=by omega
   have i3:(j:Int)*4<=m:=by omega
   have i4:(m:Int)<=vc:=by omega
   have i5:¬vc=j*4:=by omega
   have hw1:IntKind.i64.wrap ((j:Int)*4)=(j:Int)*4:=by rw[IntKind.wrap_i64];omega
   clear hS hO h6 h7 h0 hz h3 hx;go_wp2_with fail;refine h5.o.mono ?_;rintro e w1 ⟨rfl,rfl⟩;go_wp2
   go_roundw
   case rel=>exact⟨j+1,by omega,by go_num,N1.o,N2.o⟩
   case measure=>simp[intOf];omega
  ·obtain rfl:j=n:=by omega
   have F1:Hid (Blk wr g 190 (wl (A++ldW xs j++C))):=by
    have:=hS;rw[List.drop_of_length_le (by rw[HM.o.2];exact Zu),List.append_nil] at this;exact this
   have F2:=Qa hO;clear hS hO;go_wp2
   go_end0
   exact⟨rfl,F1.o,F2.o⟩
theorem Ph (h:xs.length=n+1):xs≠[]:=λe=>by subst e;simp at h
theorem qr (X:List Nat) (hX:X.length=12) (c:Nat):(X++List.replicate 4 0).set 12 c=X++[c]++List.replicate 3 0:=by
 rw[<-hX,List.set_append_right _ _ (Nat.le_refl _),Nat.sub_self,show List.replicate 4 0=0 :: List.replicate 3 0 from rfl,Qn];simp
theorem Dh (vk vn:Value) (key nonce:LI) (ctr:Nat) (hk:key.length=32) (hn:nonce.length=12) (k8:U8 key) (n8:U8 nonce) (w:World) (bk:Bs .u8 w vk key) (bn:Bs .u8 w vn nonce) :
 Calls prog 149 #[vk,.int .u32 ctr,vn] w λe w'=>e=.returned (.agg (wl (ccF key ctr nonce)).toArray)∧N0 w w':=by
 have h4:=(zero_of_info (P:=prog) Tryz.zero44).1;obtain⟨Z,hZ⟩:=EX zW;rw[<-hZ] at h4;have HZ:=Qa hZ;clear hZ;obtain⟨D,h1⟩:=EX (wl (ccF key ctr nonce));rw[<-h1];have HD:=Qa h1;clear h1;go_enter func149,ntmps149;go_wp2_with (first|(refine KC rfl 190 _ rfl (wl (ccW++List.replicate 12 0)).toArray (by kernel_rfl) ?_)|(refine wpList_store_row rfl 190 (.tmp 7) (.tmp 8) rfl (w.heap.size+1) (wl (ccW++List.replicate 12 0)).toArray rfl rfl 190 Z.toArray (heap_alloc2_new w _ _) Tryz.size44 (by rw[HZ.o];rfl) (UC _) ?_))
 have B1:Hid (Blk (((w.alloc (.cells Z.toArray 190)).alloc (.cells Z.toArray 190)).setRow (w.heap.size+1) (wl (ccW++[0,0,0,0,0,0,0,0,0,0,0,0])).toArray) (w.heap.size+1) 190 (wl (ccW++List.replicate 8 0++List.replicate 4 0))):=by
  have h:=Blk.new (w.alloc (.cells Z.toArray 190)) 190 Z;rw[size_alloc] at h;exact h.row (wl (ccW++[0,0,0,0,0,0,0,0,0,0,0,0]))
 have O1:Hid (N0 w (((w.alloc (.cells Z.toArray 190)).alloc (.cells Z.toArray 190)).setRow (w.heap.size+1) (wl (ccW++[0,0,0,0,0,0,0,0,0,0,0,0])).toArray)) :=
  ((VG.alloc _).alloc _).setRow (λh=>absurd h (by omega)) _
 have R1:Hid (Blk (((w.alloc (.cells Z.toArray 190)).alloc (.cells Z.toArray 190)).setRow (w.heap.size+1) (wl (ccW++[0,0,0,0,0,0,0,0,0,0,0,0])).toArray) w.heap.size 190 Z):=by
  have h:=(Blk.new w 190 Z).alloc (.cells Z.toArray 190);exact h.keep ((Only.refl (λk=>k=w.heap.size+1) _).setRow (λ_=>rfl) _) (by omega)
 obtain⟨G,hG⟩:=EX (w.heap.size+1);obtain⟨R,hR⟩:=EX w.heap.size;have HG:Hid (w.heap.size<=G∧w.heap.size<=R∧R≠G):=⟨by omega,by omega,by omega⟩;rw[<-hG] at B1 O1 R1 ⊢;rw[<-hR] at R1 ⊢;obtain⟨Y,hY⟩:=EX (wl (ccW++[0,0,0,0,0,0,0,0,0,0,0,0]));rw[<-hY] at B1 O1 R1 ⊢;obtain⟨W1,h3⟩:=EX (((w.alloc (.cells Z.toArray 190)).alloc (.cells Z.toArray 190)).setRow G Y.toArray);rw[<-h3] at B1 O1 R1 ⊢;clear h3 hY hG hR h4;refine (RJ G 4 8 12 ccW (List.replicate 8 0) (List.replicate 4 0) vk key rfl rfl hk (by decide) k8 W1 (bk.past O1.o) (λk hk2 e=>by have:=bk.blk_lt (Ph hk) k hk2;have:=HG.o.1;omega) B1.o).mono ?_;rintro e w2 ⟨rfl,b2,o2⟩
 have hc:w2.cell? ⟨G,12,none⟩=some (.int .u32 (((ccW++ldW key 8++List.replicate 4 0).getD 12 0:Nat):Int)):=by rw[b2.cell,wl_at _ _ (by simp[ccW,U6])]
 obtain⟨z,hz⟩:=EX ((ccW++ldW key 8++List.replicate 4 0).getD 12 0);rw[<-hz] at hc;have hf:=b2.froz 12
 have B2:Hid (Blk (w2.setCell ⟨G,12,none⟩ (.int .u32 (ctr:Int))) G 190 (wl ((ccW++ldW key 8++[ctr])++List.replicate 3 0++[]))):=by
  have h:=b2.set 12 (.int .u32 (ctr:Int));rw[Wc,qr _ (by simp[ccW,U6])] at h;rw[List.append_nil];exact h
 have oc:=(Only.refl (λk=>k=G) w2).setCell (p:=⟨G,12,none⟩) (λ_=>rfl) (.int .u32 (ctr:Int));have R2:=Qa ((R1.o.keep o2 HG.o.2.2).keep oc HG.o.2.2);have O2:=Qa ((O1.o.trans o2 (λi hi e=>by have:=HG.o.1;omega)).trans oc (λi hi e=>by have:=HG.o.1;omega));clear hz b2 o2 oc B1 O1 R1;go_wp2_with fail;obtain⟨W2,h2⟩:=EX (w2.setCell ⟨G,12,none⟩ (.int .u32 (ctr:Int)));rw[<-h2] at B2 R2 O2 ⊢;clear h2 hc hf;refine (RJ G 13 3 3 (ccW++ldW key 8++[ctr]) (List.replicate 3 0) [] vn nonce (by simp[ccW,U6]) rfl hn (by decide) n8 W2 (bn.past O2.o) (λk hk2 e=>by have:=bn.blk_lt (Ph hn) k hk2;have:=HG.o.1;omega) B2.o).mono ?_;rintro e w3 ⟨rfl,b3,o3⟩;rw[List.append_nil] at b3;have hD:=HD.o
 have B3:Hid (Blk w3 G 190 D):=by
  show Blk _ _ _ _
  rw[hD];exact b3
 have R3:=Qa (R2.o.keep o3 HG.o.2.2);have O3:=Qa (O2.o.trans o3 (λi hi e=>by have:=HG.o.1;omega))
 have h0:Hid ((prog.info? 190).map (·.size)=some D.toArray.size):=by
  show _=_
  rw[hD];simp[QV,Kj,Tryz.size44]
 have HZ2:Hid (Z.toArray.size=D.toArray.size):=by
  show _=_
  rw[hD,HZ.o];simp[QV,Kj,JX]
 have HA:Hid (D.toArray.all (·.oneCell')=true):=by
  show _=_
  rw[hD];exact UC _
 clear hD b3 o3 B2 R2 O2;go_wp2_with (first|(refine wpList_load_row rfl 190 (.tmp 7) rfl G rfl 190 D.toArray (0,0) _ B3.o underlying190 rfl h0.o ?_)|(refine wpList_store_row rfl 190 (.tmp 6) (.tmp 17) rfl R D.toArray rfl rfl 190 Z.toArray R3.o h0.o HZ2.o HA.o ?_));refine bodyPost_ret (v:=.agg D.toArray) (results_cell_row rfl _ _ R 190 D.toArray (0,0) _ rfl (R3.o.row D) underlying190 rfl h0.o) rfl ⟨rfl,?_⟩;exact O3.o.setRow (λh=>absurd h (by have:=HG.o.2.1;omega)) _
abbrev KN (key nonce:LI):Prop:=key.length=32∧nonce.length=12
theorem DL (ao bo:Option Addr) (kl kc nl nc:Nat) (w:World):Calls prog 147 #[.slice ao kl kc,.slice bo nl nc] w λe w'=>e=.returned (.bool (decide (kl=32∧nl=12)))∧w=w':=by
 by_cases h1:kl=32
 ·subst h1
  by_cases h2:nl=12
  ·subst h2
   go_enter func147,ntmps147;go_wp2;go_ret;exact⟨rfl,rfl⟩
  ·have e1:((nl:Int) == 12)=false:=by rw[beq_eq_false_iff_ne];omega
   have e2:decide (32=32∧nl=12)=false:=Qi (λh=>h2 h.2);rw[e2];go_enter func147,ntmps147;go_wp2;go_ret;exact⟨rfl,rfl⟩
 ·have e1:((kl:Int) == 32)=false:=by rw[beq_eq_false_iff_ne];omega
  have e2:decide (kl=32∧nl=12)=false:=Qi (λh=>h1 h.1);rw[e2];go_enter func147,ntmps147;go_wp2;go_ret;exact⟨rfl,rfl⟩
theorem uE (n:Nat) (hn:n<=1000000000000) (w:World):Calls prog 148 #[.int .i64 n] w λe w'=>e=.returned (.int .u64 (((n+63) / 64:Nat):Int))∧w=w':=by
 have h1:IntKind.u64.wrap (n:Int)=(n:Int):=by simp[IntKind.wrap,IntKind.bits,IntKind.signed];omega
 have h2:IntKind.u64.wrap ((n:Int)+64)=((n+64:Nat):Int):=by simp[IntKind.wrap,IntKind.bits,IntKind.signed];omega
 have h3:IntKind.u64.wrap (((n+64:Nat):Int) - 1)=((n+63:Nat):Int):=by simp[IntKind.wrap,IntKind.bits,IntKind.signed];omega
 go_enter func148,ntmps148;go_wp2;go_ret;refine⟨YN ?_,rfl⟩;omega
theorem MW (M K:LI) (j:Nat) (h1:j<M.length) (h2:j<K.length):xorL (M.take (j+1)) (K.take (j+1))=xorL (M.take j) (K.take j)++[(((M.getD j 0).toNat ^^^ (K.getD j 0).toNat:Nat):Int)]:=by
 unfold xorL;rw[List.take_add_one,List.take_add_one,Qh h1,Qh h2,List.zipWith_append (by rw[Qg,Qg];omega),Qc,Qc,Qh h1,Qh h2]
 rfl
theorem Nq (P A M:LI) (j:Nat) (x:Int) (hA:A.length=j) (hj:j<M.length):(P++(A++M.drop j)).set (P.length+j) x=P++((A++[x])++M.drop (j+1)):=by
 have e:M.drop j=M[j] :: M.drop (j+1):=List.drop_eq_getElem_cons hj;rw[List.set_append_right _ _ (by omega),Nat.add_sub_cancel_left,List.set_append_right _ _ (by omega),hA,Nat.sub_self,e,Qn];simp
theorem Pu (P A M:LI) (j:Nat) (hA:A.length=j):(P++(A++M.drop j)).getD (P.length+j) 0=M.getD j 0:=by
 rw[Qc,List.getElem?_append_right (by omega),Nat.add_sub_cancel_left,List.getElem?_append_right (by omega),hA,Nat.sub_self,List.getElem?_drop,Nat.add_zero,<-Qc]
theorem Aq (y z:Int) (hy:0<=y∧y<=255) (hz:0<=z∧z<=255):bits .xor .u8 y z=((y.toNat ^^^ z.toNat:Nat):Int):=by
 obtain⟨a,rfl⟩:=Int.eq_ofNat_of_zero_le hy.1;obtain⟨b,rfl⟩:=Int.eq_ofNat_of_zero_le hz.1;exact u8_xor_nat a b (by omega) (by omega)
theorem yq (g off m cap:Nat) (P M ks:LI) (hP:P.length=off) (hM:M.length=m) (hk:ks.length=64) (hm:m<=64) (m8:U8 M) (k8:U8 ks) (w:World) (hB:Blk w g 5 (bl (P++M))) :
 Calls prog 151 #[.slice (some ⟨g,off,none⟩) m cap,.agg (bl ks).toArray] w λe w'=>e=.returned (.int .i64 (m:Nat))∧Blk w' g 5 (bl (P++(xorL (M.take m) (ks.take m)++M.drop m)))∧Only (λk=>k=g) w w':=by
 have hlt:=hB.lt;have H0:=Qa hB;have HM:=Qa (Vz hP (Vz hM (Vz hk (Vz m8 k8))));obtain⟨K,hK⟩:=EX (bl ks);rw[<-hK];have HK:=Qa hK
 have hmm:¬(64:Int)<m:=by omega
 clear hB hP hM hk m8 k8 hK;go_enter func151,ntmps151;go_wp2
 have S0:Hid (Blk (w.alloc (.cells K.toArray 161)) g 5 (bl (P++(xorL (M.take 0) (ks.take 0)++M.drop 0)))∧Blk (w.alloc (.cells K.toArray 161)) w.heap.size 161 K∧Only (λk=>k=g) w (w.alloc (.cells K.toArray 161))) :=
  ⟨H0.o.alloc _,Blk.new w 161 K,VG.alloc _⟩
 obtain⟨N,hN⟩:=EX w.heap.size;have HN:Hid (w.heap.size<=N∧g≠N):=⟨by omega,by omega⟩;obtain⟨W0,h1⟩:=EX (w.alloc (.cells K.toArray 161));rw[<-hN,<-h1] at S0;rw[<-hN,<-h1];clear hN h1 hlt
 go_loopw [11] (λi wr=>∃j:Nat,j<=m∧i=.int .i64 j∧Blk wr g 5 (bl (P++(xorL (M.take j) (ks.take j)++M.drop j)))∧Blk wr N 161 K∧Only (λk=>k=g) w wr) (λi _=>m - (intOf i).toNat)
 case atStart=>exact⟨0,by omega,rfl,S0.o⟩
 case round =>
  obtain⟨j,hj,rfl,k1,k2,k3⟩:=hrel;clear S0
  by_cases hlj:j<m
  ·have h3:j<M.length:=by rw[HM.o.2.1];omega
   have h0:(xorL (M.take j) (ks.take j)).length=j:=by
    rw[ZQ,Qg,Qg,HM.o.2.2.1];omega
   have hc1:wr.cell? ⟨g,off+j,none⟩=some (.int .u8 (M.getD j 0)):=by
    rw[k1.cell,bl_at _ _ (by rw[Qb,Qb,h0,Qm,HM.o.1];omega),<-HM.o.1,Pu P _ M j h0]
   have hc2:wr.cell? ⟨N,j,none⟩=some (.int .u8 (ks.getD j 0)):=by
    rw[k2.cell,HK.o,bl_at _ _ (by rw[HM.o.2.2.1];omega)]
   have hf:=k1.froz (off+j);have hx:=Aq _ _ (HM.o.2.2.2.1.at j) (HM.o.2.2.2.2.at j);have h2:=MW M ks j h3 (by rw[HM.o.2.2.1];omega);obtain⟨x,h4⟩:=EX ((((M.getD j 0).toNat ^^^ (ks.getD j 0).toNat:Nat):Int));rw[<-h4] at hx h2;obtain⟨y,hy⟩:=EX (M.getD j 0);obtain⟨z,hz⟩:=EX (ks.getD j 0);rw[<-hy] at hc1 hx;rw[<-hz] at hc2 hx;have oc:=((Only.refl (λk=>k=g) wr).drew).setCell (p:=⟨g,off+j,none⟩) (λ_=>rfl) (.int .u8 x)
   have N1:Hid (Blk (wr.drew.setCell ⟨g,off+j,none⟩ (.int .u8 x)) g 5 (bl (P++(xorL (M.take (j+1)) (ks.take (j+1))++M.drop (j+1))))∧Blk (wr.drew.setCell ⟨g,off+j,none⟩ (.int .u8 x)) N 161 K∧Only (λk=>k=g) w (wr.drew.setCell ⟨g,off+j,none⟩ (.int .u8 x))):=by
    refine⟨?_,k2.keep oc (λe=>HN.o.2 e.symm),k3.trans oc (λi _ e=>e)⟩;have h:=k1.drew.set (off+j) (.int .u8 x);rw[V7,<-HM.o.1,Nq P _ M j x h0 h3,<-h2] at h;rw[<-HM.o.1];exact h
   have i1:(j:Int)<m:=by omega
   have i2:(j:Int)<64:=by omega
   have i3:(j:Int)<m:=by omega
   have hgN:¬g=N:=HN.o.2;clear h4 hy hz oc h2 k1 k2 k3 h0 h3;go_wp2_with fail;go_region
   all_goals go_wp2
   all_goals go_roundw
   case rel=>exact⟨j+1,by omega,by go_num,N1.o⟩
   case measure=>simp[intOf];omega
  ·obtain rfl:j=m:=by omega
   have F1:=Qa (Vz k1 k3);clear k1 k2 k3;go_wp2;go_ret;exact⟨rfl,F1.o⟩
theorem wI (g off m cap:Nat) (P M ks:LI) (hP:P.length=off) (hM:M.length=m) (hk:ks.length=64) (hm:64<m) (m8:U8 M) (k8:U8 ks) (w:World) (hB:Blk w g 5 (bl (P++M))) :
 Calls prog 151 #[.slice (some ⟨g,off,none⟩) m cap,.agg (bl ks).toArray] w λe w'=>e=.returned (.int .i64 (64:Nat))∧Blk w' g 5 (bl (P++(xorL (M.take 64) (ks.take 64)++M.drop 64)))∧Only (λk=>k=g) w w':=by
 have hlt:=hB.lt;have H0:=Qa hB;have HM:=Qa (Vz hP (Vz hM (Vz hk (Vz m8 k8))));obtain⟨K,hK⟩:=EX (bl ks);rw[<-hK];have HK:=Qa hK
 have hmm:(64:Int)<m:=by omega
 clear hB hP hM hk m8 k8 hK;go_enter func151,ntmps151;go_wp2
 have S0:Hid (Blk (w.alloc (.cells K.toArray 161)) g 5 (bl (P++(xorL (M.take 0) (ks.take 0)++M.drop 0)))∧Blk (w.alloc (.cells K.toArray 161)) w.heap.size 161 K∧Only (λk=>k=g) w (w.alloc (.cells K.toArray 161))) :=
  ⟨H0.o.alloc _,Blk.new w 161 K,VG.alloc _⟩
 obtain⟨N,hN⟩:=EX w.heap.size;have HN:Hid (w.heap.size<=N∧g≠N):=⟨by omega,by omega⟩;obtain⟨W0,h1⟩:=EX (w.alloc (.cells K.toArray 161));rw[<-hN,<-h1] at S0;rw[<-hN,<-h1];clear hN h1 hlt
 go_loopw [11] (λi wr=>∃j:Nat,j<=64∧i=.int .i64 j∧Blk wr g 5 (bl (P++(xorL (M.take j) (ks.take j)++M.drop j)))∧Blk wr N 161 K∧Only (λk=>k=g) w wr) (λi _=>64 - (intOf i).toNat)
 case atStart=>exact⟨0,by omega,rfl,S0.o⟩
 case round =>
  obtain⟨j,hj,rfl,k1,k2,k3⟩:=hrel;clear S0
  by_cases hlj:j<64
  ·have h3:j<M.length:=by rw[HM.o.2.1];omega
   have h0:(xorL (M.take j) (ks.take j)).length=j:=by
    rw[ZQ,Qg,Qg,HM.o.2.2.1];omega
   have hc1:wr.cell? ⟨g,off+j,none⟩=some (.int .u8 (M.getD j 0)):=by
    rw[k1.cell,bl_at _ _ (by rw[Qb,Qb,h0,Qm,HM.o.1];omega),<-HM.o.1,Pu P _ M j h0]
   have hc2:wr.cell? ⟨N,j,none⟩=some (.int .u8 (ks.getD j 0)):=by
    rw[k2.cell,HK.o,bl_at _ _ (by rw[HM.o.2.2.1];omega)]
   have hf:=k1.froz (off+j);have hx:=Aq _ _ (HM.o.2.2.2.1.at j) (HM.o.2.2.2.2.at j);have h2:=MW M ks j h3 (by rw[HM.o.2.2.1];omega);obtain⟨x,h4⟩:=EX ((((M.getD j 0).toNat ^^^ (ks.getD j 0).toNat:Nat):Int));rw[<-h4] at hx h2;obtain⟨y,hy⟩:=EX (M.getD j 0);obtain⟨z,hz⟩:=EX (ks.getD j 0);rw[<-hy] at hc1 hx;rw[<-hz] at hc2 hx;have oc:=((Only.refl (λk=>k=g) wr).drew).setCell (p:=⟨g,off+j,none⟩) (λ_=>rfl) (.int .u8 x)
   have N1:Hid (Blk (wr.drew.setCell ⟨g,off+j,none⟩ (.int .u8 x)) g 5 (bl (P++(xorL (M.take (j+1)) (ks.take (j+1))++M.drop (j+1))))∧Blk (wr.drew.setCell ⟨g,off+j,none⟩ (.int .u8 x)) N 161 K∧Only (λk=>k=g) w (wr.drew.setCell ⟨g,off+j,none⟩ (.int .u8 x))):=by
    refine⟨?_,k2.keep oc (λe=>HN.o.2 e.symm),k3.trans oc (λi _ e=>e)⟩;have h:=k1.drew.set (off+j) (.int .u8 x);rw[V7,<-HM.o.1,Nq P _ M j x h0 h3,<-h2] at h;rw[<-HM.o.1];exact h
   have i1:(j:Int)<64:=by omega
   have i2:(j:Int)<64:=by omega
   have i3:(j:Int)<m:=by omega
   have hgN:¬g=N:=HN.o.2;clear h4 hy hz oc h2 k1 k2 k3 h0 h3;go_wp2_with fail;go_region
   all_goals go_wp2
   all_goals go_roundw
   case rel=>exact⟨j+1,by omega,by go_num,N1.o⟩
   case measure=>simp[intOf];omega
  ·obtain rfl:j=64:=by omega
   have F1:=Qa (Vz k1 k3);clear k1 k2 k3;go_wp2;go_ret;exact⟨rfl,F1.o⟩
theorem FV (g off m cap r:Nat) (P M ks:LI) (hP:P.length=off) (hM:M.length=m) (hk:ks.length=64) (hr:r=min m 64) (m8:U8 M) (k8:U8 ks) (w:World) (hB:Blk w g 5 (bl (P++M))) :
 Calls prog 151 #[.slice (some ⟨g,off,none⟩) m cap,.agg (bl ks).toArray] w λe w'=>e=.returned (.int .i64 (r:Nat))∧Blk w' g 5 (bl (P++(xorL (M.take r) (ks.take r)++M.drop r)))∧Only (λk=>k=g) w w':=by
 by_cases h:m<=64
 ·obtain rfl:r=m:=by omega
  exact yq g off r cap P M ks hP hM hk h m8 k8 w hB
 ·obtain rfl:r=64:=by omega
  exact wI g off m cap P M ks hP hM hk (by omega) m8 k8 w hB
def ZW (key:LI) (ctr:Nat) (nonce:LI):LI:=if KN key nonce then Yk key ctr nonce else []
def Zg (key nonce:LI):Int:=if KN key nonce then 0 else 1
theorem Bs.of_bl {s:LI} (h:Blk w g E (bl s)) (n:Nat) (hn:s.length=n):Bs .u8 w (.slice (some ⟨g,0,none⟩) n n) s:=by
 refine⟨_,n,by rw[hn],by rw[hn];exact Zu,λ_=>⟨g,0,rfl,λj hj=>?_⟩⟩;rw[Nat.zero_add,h.cell,bl_at s j hj]
theorem De (vk vn:Value) (key nonce:LI) (ctr:Nat) (hc:ctr<4294967296) (k8:U8 key) (n8:U8 nonce) (w:World) (bk:Bs .u8 w vk key) (bn:Bs .u8 w vn nonce) :
 Calls prog 146 #[vk,.int .u32 ctr,vn] w λe w'=>∃v,e=.returned (.tuple #[v,.int .i64 (Zg key nonce)])∧Bs .u8 w' v (ZW key ctr nonce)∧NoCap v∧N0 w w':=by
 obtain⟨ao,kc,rfl⟩:=bk.len;obtain⟨bo,nc,rfl⟩:=bn.len;have A:=Qa (DL ao bo key.length kc nonce.length nc w)
 by_cases h:KN key nonce
 ·have e1:decide (key.length=32∧nonce.length=12)=true:=Qe h
  rw[e1] at A;have EB:Zg key nonce=0:=if_pos h;have EL:ZW key ctr nonce=Yk key ctr nonce:=if_pos h;rw[EB,EL];have HL:=Qa (Ky key ctr nonce);have F:=Qa (Dh _ _ key nonce ctr h.1 h.2 k8 n8 w bk bn)
  have O:Hid (∀W:World,Calls prog 150 #[.agg (wl (ccF key ctr nonce)).toArray] W λe w'=>e=.returned (.agg (bl (Yk key ctr nonce)).toArray)∧N0 W w') :=
   λW=>Pn (ccF key ctr nonce) (Kj _ _ _) (PY key k8 ctr hc nonce n8) W
  have hzv:=(zero_of_info (P:=prog) Tryz.zero42).1;obtain⟨Z,hZ⟩:=EX zB;rw[<-hZ] at hzv;obtain⟨L,hL⟩:=EX (Yk key ctr nonce);rw[<-hL] at HL O ⊢;obtain⟨FW,h1⟩:=EX (wl (ccF key ctr nonce));rw[<-h1] at F O;obtain⟨D,hD⟩:=EX (bl L);rw[<-hD] at O
  have h0:Hid ((prog.info? 161).map (·.size)=some D.toArray.size∧Z.toArray.size=D.toArray.size∧D.toArray.all (·.oneCell')=true):=by
   refine⟨?_,?_,?_⟩
   ·rw[Tryz.size42,hD];simp[Qt,HL.o]
   ·rw[hD,hZ];simp[Qt,HL.o,JY]
   ·rw[hD];exact GZ _
  have HD:=Qa hD;clear hL h1 hZ hD bk bn k8 n8 h e1 EB EL hc;go_enter func146,ntmps146;go_wp2_with fail;refine A.o.mono ?_;rintro e w1 ⟨rfl,rfl⟩;go_wp2_with fail;refine F.o.mono ?_;rintro e w2 ⟨rfl,o2⟩;go_wp2_with fail;refine (O.o w2).mono ?_;rintro e w3 ⟨rfl,o3⟩;have O3:=Qa (o2.same o3);clear o2 o3 A F O;go_wp2_with (first|(refine wpList_store_row rfl 161 (.tmp 8) (.tmp 17) rfl w3.heap.size D.toArray rfl rfl 161 Z.toArray (Blk.new w3 161 Z) h0.o.1 h0.o.2.1 h0.o.2.2 ?_));go_ret2;have hb:Blk ((w3.alloc (.cells Z.toArray 161)).setRow w3.heap.size D.toArray) w3.heap.size 161 D:=(Blk.new w3 161 Z).row D;refine⟨_,rfl,?_,NoCap.some _ _ _,?_⟩
  ·rw[HD.o] at hb ⊢
   exact Bs.of_bl hb 64 HL.o
  ·exact (O3.o.alloc _).setRow (λh=>absurd h (by have:=O3.o.size;omega)) _
 ·have e1:decide (key.length=32∧nonce.length=12)=false:=Qi h
  rw[e1] at A;have EB:Zg key nonce=1:=if_neg h;have EL:ZW key ctr nonce=[]:=if_neg h;rw[EB,EL];clear bk bn k8 n8 h e1 EB EL hc;go_enter func146,ntmps146;go_wp2_with fail;refine A.o.mono ?_;rintro e w1 ⟨rfl,rfl⟩;go_wp2;go_ret2;exact⟨_,rfl,Bs.nil _ _,NoCap.nil,VG⟩
def Wh (key:LI) (ctr:Nat) (nonce xs:LI):LI:=if KN key nonce then (if fitsC ctr xs.length then Q8 key ctr nonce xs else []) else []
def WZ (key:LI) (ctr:Nat) (nonce:LI) (n:Nat):Int:=if KN key nonce then (if fitsC ctr n then 0 else 4) else 1
theorem Z7 (w:World) (n:Nat) (hn:n<=1000000000000):∃wm,(Instr.makeSlice 23 (.int .i64 (n:Int)) (.int .i64 (n:Int))).run prog w=.ok (.slice (some ⟨w.heap.size,0,none⟩) n n) wm∧Blk wm w.heap.size 5 (bl (List.replicate n 0))∧N0 w wm:=by
 obtain⟨i0,hi,hz0,hz1,hz2⟩:=info_parts Tryz.infoU8;obtain⟨wm,hmk,h0,hgr⟩:=run_make_full (P:=prog) w w.heap.size 23 5 i0 (.int .u8 0) 1 underlying23 hi hz0 hz1 .i64 .i64 n (by rw[hz2];omega) (by unfold maxLen;omega) Zu;refine⟨wm,hmk,?_,VG.grown hgr (λk _ e=>by cases e)⟩
 rcases h0.2 with ⟨h',_⟩ | ⟨g',cap',cur,h',_,hg,_,_,hcs,ht⟩
 ·simp at h'
 ·simp only[Value.slice.injEq,Option.some.injEq,Addr.mk.injEq,and_true,true_and] at h'
  obtain⟨rfl,rfl⟩:=h'
  have e1:cur=(bl (List.replicate n 0)).toArray:=by
   apply Array.toList_inj.1
   rw[List.take_of_length_le (by simp;omega)] at ht;rw[ht,Nat.mul_one,show (Value.int .u8 0).cells=#[.int .u8 0] from rfl,toList_madeCells_one];simp[bl]
  rw[e1] at hg;exact hg
theorem Ee (key:LI) (ctr:Nat) (nonce xs:LI) (k r:Nat) (hk:64*k<xs.length) (hr:r=min (xs.length - 64*k) 64) :
 (Q8 key ctr nonce xs).take (64*k+r)=(Q8 key ctr nonce xs).take (64*k)++xorL ((xs.drop (64*k)).take r) ((Yk key (ctr+k) nonce).take r):=by
 have hB:=Ky key (ctr+k) nonce;have hS:=YP key ctr nonce xs
 have hx:(xorL ((xs.drop (64*k)).take r) ((Yk key (ctr+k) nonce).take r)).length=r:=by
  rw[ZQ,Qg,Qg,Qm,hB];omega
 refine Pi (by rw[Qb,hx,Qg,Qg,hS];omega) (λi hi=>?_);rw[Qg,hS] at hi
 have e1:((Q8 key ctr nonce xs).take (64*k+r)).getD i 0=(Q8 key ctr nonce xs).getD i 0:=by
  rw[Qc,Qc,List.getElem?_take_of_lt (by omega)]
 rw[e1]
 by_cases h:i<64*k
 ·rw[Qc,Qc,List.getElem?_append_left (by rw[Qg,hS];omega),List.getElem?_take_of_lt h]
 ·have e2:((Q8 key ctr nonce xs).take (64*k)++xorL ((xs.drop (64*k)).take r) ((Yk key (ctr+k) nonce).take r)).getD i 0=(xorL ((xs.drop (64*k)).take r) ((Yk key (ctr+k) nonce).take r)).getD (i - 64*k) 0:=by
   rw[Qc,Qc,List.getElem?_append_right (by rw[Qg,hS];omega),Qg,hS,Nat.min_eq_left (by omega)]
  rw[e2,XQ _ _ _ _ i (by omega)];unfold xorL ksb;rw[Qc (l:=List.zipWith _ _ _),Qh (by unfold xorL at hx;rw[hx];omega),List.getElem_zipWith];simp only[List.getElem_take,List.getElem_drop,Option.getD_some];rw[show i / 64=k by omega,show i % 64=i - 64*k by omega,Qc,Qc,Qh (by omega),Qh (by omega)];simp only[Option.getD_some,show 64*k+(i - 64*k)=i by omega]
theorem Bz (key:LI) (c:Nat) (nonce:LI):(ccF key c nonce).getD 12 0=c:=by
 unfold ccF;rw[Qc,List.append_assoc,List.getElem?_append_right (by simp[ccW,U6])];simp[ccW,U6]
theorem gu (key:LI) (c d:Nat) (nonce:LI):(ccF key c nonce).set 12 d=ccF key d nonce:=by
 unfold ccF
 have hl:(ccW++ldW key 8).length=12:=by simp[ccW,U6]
 rw[List.append_assoc (ccW++ldW key 8),List.set_append_right _ _ (by omega),hl];simp
theorem ET (c k:Nat):IntKind.u32.wrap (((c+k) % 4294967296:Nat)+1:Int)=(((c+(k+1)) % 4294967296:Nat):Int):=by
 rw[IntKind.wrap_u32'];omega
theorem T7 (wm:World) (G n bc:Nat) (co:Option Addr) (xs:LI) (hn:xs.length=n) (hb:Blk wm G 5 (bl (List.replicate n 0))) (hs:0<n->∃ad,co=some ad∧∀j v,(bl xs)[j]? = some v->wm.cell? (ad.add j)=some v) :
 ∃w2,(Builtin.copy_ #[23,23] 3 #[.slice (some ⟨G,0,none⟩) n n,.slice co n bc]).run prog wm=.ok (.int .i64 (n:Int)) w2∧Blk w2 G 5 (bl xs)∧Only (λk=>k=G) wm w2:=by
 by_cases h0:n=0
 ·subst h0
  have hx:xs=[]:=List.eq_nil_of_length_eq_zero hn;subst hx;exact⟨wm,run_copy_none (P:=prog) wm 23 23 3 5 _ _ 0 0 0 bc underlying23 Tryz.one5 rfl,hb,VG⟩
 ·obtain⟨ad,rfl,h2⟩:=hs (by omega)
  have hl:(bl xs).length=n:=by rw[Qt,hn]
  have h1:=run_copy_row (P:=prog) wm 23 23 3 5 G 0 n n ad n bc (bl (List.replicate n 0)).toArray 5 (bl xs) underlying23 Tryz.one5 hb (by rw[hl];exact (Nat.min_self n).symm) h2 (by simp[Qt,hn]) (UL xs)
  have e:(bl (List.replicate n 0)).toArray.toList.take 0++bl xs++(bl (List.replicate n 0)).toArray.toList.drop (0+(bl xs).length)=bl xs:=by
   rw[List.take_zero,List.nil_append,List.drop_of_length_le (by simp[Qt,hn]),List.append_nil]
  rw[e,hl] at h1;exact⟨_,h1,hb.row (bl xs),(Only.refl (λk=>k=G) wm).setRow (λ_=>rfl) _⟩
theorem Rr (vk vn vb:Value) (key nonce xs:LI) (ctr:Nat) (hc:ctr<4294967296) (k8:U8 key) (n8:U8 nonce) (x8:U8 xs) (hl:xs.length<=1000000000000) (w:World) (bk:Bs .u8 w vk key) (bn:Bs .u8 w vn nonce) (bb:Bs .u8 w vb xs) :
 Calls prog 109 #[vk,.int .u32 ctr,vn,vb] w λe w'=>∃v,e=.returned (.tuple #[v,.int .i64 (WZ key ctr nonce xs.length)])∧w'.ownsRow w.heap.size 5 1 v (Wh key ctr nonce xs).length (bl (Wh key ctr nonce xs))∧N0 w w':=by
 have h6:=Qa (Vz bk bn);obtain⟨ao,kc,rfl⟩:=bk.len;obtain⟨bo,nc,rfl⟩:=bn.len;obtain⟨co,bc,rfl⟩:=bb.len;have A:=Qa (DL ao bo key.length kc nonce.length nc w)
 by_cases h:KN key nonce
 ·have e1:decide (key.length=32∧nonce.length=12)=true:=Qe h
  rw[e1] at A;have BF:=Qa (uE xs.length hl w);obtain⟨q,hq⟩:=EX ((xs.length+63) / 64);rw[<-hq] at BF
  have hx:IntKind.u64.wrap (4294967296 - (ctr:Int))=((4294967296 - ctr:Nat):Int):=by simp[IntKind.wrap,IntKind.bits,IntKind.signed];omega
  have hcv:IntKind.u64.wrap (ctr:Int)=(ctr:Int):=by simp[IntKind.wrap,IntKind.bits,IntKind.signed];omega
  by_cases hf:fitsC ctr xs.length
  ·have EB:WZ key ctr nonce xs.length=0:=by unfold WZ;rw[if_pos h,if_pos hf]
   have EL:Wh key ctr nonce xs=Q8 key ctr nonce xs:=by unfold Wh;rw[if_pos h,if_pos hf]
   obtain⟨S,hS⟩:=EX (Q8 key ctr nonce xs);rw[EB,EL,<-hS];have HS:=Qa hS;clear hS
   have hgt:¬(((4294967296 - ctr:Nat):Int)<(q:Int)):=by unfold fitsC at hf;omega
   obtain⟨n,hn⟩:=EX xs.length
   have hl2:n<=1000000000000:=by rw[hn];exact hl
   obtain⟨wm,kd,hy,he⟩:=Z7 w n hl2;have HX:=Qa (Vz hn (Vz x8 (Vz bb (Vz hf (Vz k8 n8)))));rw[<-hn] at BF ⊢;obtain⟨G,hG⟩:=EX w.heap.size;rw[<-hG] at kd hy
   have hs:Hid (∀j v,(bl xs)[j]? = some v->∃ad,co=some ad∧wm.cell? (ad.add j)=some v):=λj v hv=>by
    have hb:=bb.past he
    have hj:j<xs.length:=by have:=(List.getElem?_eq_some_iff.1 hv).1;rwa [Qt] at this
    obtain⟨b,off,cap,e,h3⟩:=hb.at j hj;simp at e;obtain⟨rfl,_⟩:=e;rw[bl_at xs j hj] at hv
    cases hv
    exact⟨_,rfl,by rw[Addr.add_mid];exact h3⟩
   have HP:Hid (0<(bl xs).length->∃ad,co=some ad∧∀j v,(bl xs)[j]? = some v->wm.cell? (ad.add j)=some v):=λhp=>by
    obtain⟨ad,rfl,_⟩:=hs.o 0 (bl xs)[0] (Qh hp);refine⟨ad,rfl,λj v hv=>?_⟩;obtain⟨ad',e,h3⟩:=hs.o j v hv
    cases e
    exact h3
   obtain⟨w2,hcp,ke,kf⟩:=T7 wm G n bc co xs hn.symm hy (λhp=>HP.o (by rw[Qt,<-hn];exact hp));have O2:Hid (N0 w w2):=he.trans kf (λi hi e=>by omega);have B2:=Qa ke;have ka:Hid (w.heap.size<=G∧w.heap.size=G):=⟨by omega,hG.symm⟩;have F:=Qa (λW (hw:N0 w W)=>Dh _ _ key nonce ctr h.1 h.2 k8 n8 W (h6.o.1.past hw) (h6.o.2.past hw))
   have OB:Hid (∀(W:World) (c:Nat),c<4294967296->Calls prog 150 #[.agg (wl (ccF key c nonce)).toArray] W λe w'=>e=.returned (.agg (bl (Yk key c nonce)).toArray)∧N0 W w') :=
    λW c hc'=>Pn (ccF key c nonce) (Kj _ _ _) (PY key k8 c hc' nonce n8) W
   have hzv:=(zero_of_info (P:=prog) Tryz.zero42).1;have k7:=(zero_of_info (P:=prog) Tryz.zero44).1;obtain⟨Z,hZ⟩:=EX zB;rw[<-hZ] at hzv;obtain⟨Y,hY⟩:=EX zW;rw[<-hY] at k7;have HZ:=Qa (Vz hZ hY)
   have h8:Hid (∀c,(prog.info? 161).map (·.size)=some (bl (Yk key c nonce)).toArray.size∧Z.toArray.size=(bl (Yk key c nonce)).toArray.size∧(bl (Yk key c nonce)).toArray.all (·.oneCell')=true):=by
    intro c;refine⟨?_,?_,?_⟩
    ·rw[Tryz.size42];simp[Qt,Ky]
    ·rw[hZ];simp[Qt,Ky,JY]
    ·exact GZ _
   have h7:Hid (∀c,(prog.info? 190).map (·.size)=some (wl (ccF key c nonce)).toArray.size∧Y.toArray.size=(wl (ccF key c nonce)).toArray.size∧(wl (ccF key c nonce)).toArray.all (·.oneCell')=true):=by
    intro c;refine⟨?_,?_,?_⟩
    ·rw[Tryz.size44];simp[QV,Kj]
    ·rw[hY];simp[QV,Kj,JX]
    ·exact UC _
   have HKN:=Qa h;clear bk bn bb k8 n8 x8 h e1 EB EL hf hn hl hy hZ hY hq hs hG HP ke kf he;go_enter func109,ntmps109;go_wp2_with fail;refine A.o.mono ?_;rintro e w1 ⟨rfl,rfl⟩;go_wp2_with fail;refine BF.o.mono ?_;rintro e w1 ⟨rfl,rfl⟩;go_wp2_with fail;refine (F.o w2 O2.o).mono ?_;rintro e w3 ⟨rfl,o3⟩;have O3:=Qa (O2.o.same o3);have B3:=Qa (B2.o.past o3);clear o3 A BF F O2 B2 kd hcp hx hcv;go_wp2_with (first|(refine wpList_store_row rfl 190 (.tmp 11) (.tmp 34) rfl w3.heap.size (wl (ccF key ctr nonce)).toArray rfl rfl 190 Y.toArray (Blk.new w3 190 Y) (h7.o ctr).1 (h7.o ctr).2.1 (h7.o ctr).2.2 ?_));obtain⟨FB,k6⟩:=EX w3.heap.size
   have K4:Hid (Blk ((w3.alloc (.cells Y.toArray 190)).setRow w3.heap.size (wl (ccF key ctr nonce)).toArray) w3.heap.size 190 (wl (ccF key ((ctr+0) % 4294967296) nonce))∧Blk ((w3.alloc (.cells Y.toArray 190)).setRow w3.heap.size (wl (ccF key ctr nonce)).toArray) G 5 (bl (S.take (min n (64*0))++xs.drop (min n (64*0))))∧N0 w ((w3.alloc (.cells Y.toArray 190)).setRow w3.heap.size (wl (ccF key ctr nonce)).toArray)):=by
    have hg:=B3.o.lt;refine⟨?_,?_,(O3.o.alloc _).setRow (λh=>absurd h (by have:=O3.o.size;omega)) _⟩
    ·rw[Nat.add_zero,Nat.mod_eq_of_lt hc]
     exact (Blk.new w3 190 Y).row _
    ·rw[Nat.mul_zero,Nat.min_zero,List.take_zero,List.drop_zero,List.nil_append]
     exact (B3.o.alloc _).keep ((Only.refl (λk=>k=w3.heap.size) _).setRow (λ_=>rfl) _) (by omega)
   have k0:Hid (w.heap.size<=FB∧G≠FB):=by
    have:=B3.o.lt;have:=O3.o.size;exact⟨by omega,by omega⟩
   rw[<-k6] at K4 ⊢;obtain⟨W4,k9⟩:=EX ((w3.alloc (.cells Y.toArray 190)).setRow FB (wl (ccF key ctr nonce)).toArray);rw[<-k9] at K4 ⊢;obtain⟨CF,k5⟩:=EX (wl (ccF key ctr nonce));rw[<-k5];clear k9 k6 k5 O3 B3 k7
   go_loopw [12] (λo wr=>∃(k:Nat) (ro:Option Addr) (cap:Nat),o=.slice ro (n - min n (64*k)) cap∧(64*k<n->ro=some ⟨G,64*k,none⟩∧cap=n - 64*k)∧Blk wr FB 190 (wl (ccF key ((ctr+k) % 4294967296) nonce))∧Blk wr G 5 (bl (S.take (min n (64*k))++xs.drop (min n (64*k))))∧N0 w wr) (λo _=>slen o)
   case atStart=>exact⟨0,some ⟨G,0,none⟩,n,by rw[Nat.mul_zero,Nat.min_zero,Nat.sub_zero],λ_=>⟨rfl,rfl⟩,K4.o⟩
   case round =>
    obtain⟨k,ro,cap,rfl,hk,k1,k2,k3⟩:=hrel;clear K4
    by_cases hlt:64*k<n
    ·obtain⟨rfl,rfl⟩:=hk hlt
     have h0:min n (64*k)=64*k:=by omega
     rw[h0] at k2 ⊢
     have k4:ctr+k<4294967296:=by
      have h1:=HX.o.2.2.2.1;have h2:=HX.o.1;unfold fitsC at h1;omega
     rw[Nat.mod_eq_of_lt k4] at k1;obtain⟨m,hm⟩:=EX (n - 64*k);rw[<-hm];obtain⟨r,hr⟩:=EX (min m 64)
     have hm0:(0:Int)<(m:Int):=by omega
     have HK:=Qa (Vz k1 (Vz k2 k3));have ht:=Qa (Vz hm hr)
     have hr1:(r:Int)<=(m:Int):=by omega
     have hr2:(0:Int)<=(r:Int):=by omega
     clear hk k1 k2 k3 h0 hm hr;go_wp2_with (first|(refine wpList_load_row rfl 190 (.tmp 11) rfl FB rfl 190 (wl (ccF key (ctr+k) nonce)).toArray (0,0) _ HK.o.1 underlying190 rfl (h7.o (ctr+k)).1 ?_));refine (OB.o wr (ctr+k) k4).mono ?_;rintro e w5 ⟨rfl,o5⟩;go_wp2_with (first|(refine wpList_store_row rfl 161 (.tmp 13) (.tmp 40) rfl w5.heap.size (bl (Yk key (ctr+k) nonce)).toArray rfl rfl 161 Z.toArray (Blk.new w5 161 Z) (h8.o (ctr+k)).1 (h8.o (ctr+k)).2.1 (h8.o (ctr+k)).2.2 ?_)|(refine wpList_load_row rfl 161 (.tmp 13) rfl w5.heap.size rfl 161 (bl (Yk key (ctr+k) nonce)).toArray (0,0) _ ((Blk.new w5 161 Z).row _) underlying161 rfl (h8.o (ctr+k)).1 ?_));obtain⟨W6,ha⟩:=EX ((w5.alloc (.cells Z.toArray 161)).setRow w5.heap.size (bl (Yk key (ctr+k) nonce)).toArray)
     have K6:Hid (Blk W6 FB 190 (wl (ccF key (ctr+k) nonce))∧Blk W6 G 5 (bl (S.take (64*k)++xs.drop (64*k)))∧N0 w W6):=by
      have o6:N0 w5 W6:=by
       rw[ha];exact (VG.alloc _).setRow (λh=>absurd h (Nat.lt_irrefl _)) _
      have hz:=o5.same o6;exact⟨HK.o.1.past hz,HK.o.2.1.past hz,HK.o.2.2.same hz⟩
     rw[<-ha];obtain⟨KS,hd⟩:=EX (Yk key (ctr+k) nonce);have hh:=Qa hd;rw[<-hd];clear ha o5 HK hd;refine (FV G (64*k) m m r (S.take (64*k)) (xs.drop (64*k)) KS (by rw[Qg,HS.o,YP,<-HX.o.1];omega) (by rw[Qm,<-HX.o.1,ht.o.1]) (by rw[hh.o,Ky]) ht.o.2 (HX.o.2.1.drop _) (by rw[hh.o];exact Jm _ _ _) W6 K6.o.2.1).mono ?_;rintro e w7 ⟨rfl,b7,o7⟩;have h9:=ht.o
     have E7:min n (64*(k+1))=64*k+r:=by omega
     have K7:Hid (Blk w7 FB 190 (wl (ccF key (ctr+k) nonce))∧Blk w7 G 5 (bl (S.take (min n (64*(k+1)))++xs.drop (min n (64*(k+1)))))∧N0 w w7):=by
      refine⟨K6.o.1.keep o7 (λe=>k0.o.2 e.symm),?_,K6.o.2.2.trans o7 (λi hi e=>by have:=ka.o.1;omega)⟩;rw[E7,HS.o,Ee key ctr nonce xs k r (by rw[<-HX.o.1];exact hlt) (by rw[<-HX.o.1,<-h9.1];exact h9.2),<-HS.o,<-hh.o,List.append_assoc,<-List.drop_drop];exact b7
     have hcc:w7.cell? ⟨FB,12,none⟩=some (.int .u32 ((ctr+k:Nat):Int)):=by
      rw[K7.o.1.cell,wl_at _ _ (by rw[Kj];decide),Bz]
     have hfz:=K7.o.1.froz 12;have ho:=ET ctr k;rw[Nat.mod_eq_of_lt k4] at ho;obtain⟨cn,h5⟩:=EX ((ctr+(k+1)) % 4294967296);rw[<-h5] at ho
     have K8:Hid (Blk (w7.setCell ⟨FB,12,none⟩ (.int .u32 (cn:Int))) FB 190 (wl (ccF key ((ctr+(k+1)) % 4294967296) nonce))∧Blk (w7.setCell ⟨FB,12,none⟩ (.int .u32 (cn:Int))) G 5 (bl (S.take (min n (64*(k+1)))++xs.drop (min n (64*(k+1)))))∧N0 w (w7.setCell ⟨FB,12,none⟩ (.int .u32 (cn:Int)))):=by
      have oc:=(Only.refl (λk=>k=FB) w7).setCell (p:=⟨FB,12,none⟩) (λ_=>rfl) (.int .u32 (cn:Int));refine⟨?_,K7.o.2.1.keep oc k0.o.2,K7.o.2.2.trans oc (λi hi e=>by have:=k0.o.1;omega)⟩;have h:=K7.o.1.set 12 (.int .u32 (cn:Int));rw[Wc,gu] at h;rw[<-h5];exact h
     obtain⟨cc,h4⟩:=EX (ctr+k);rw[<-h4] at hcc ho
     by_cases hlast:m=r
     ·have E8:Hid (n - min n (64*(k+1))=0∧¬64*(k+1)<n∧0<m):=⟨by omega,by omega,by omega⟩
      have hu:m - r=0:=by omega
      clear K6 K7 b7 o7 h9 E7 h5 h4;go_wp2
      go_roundw
      case rel=>exact⟨k+1,_,_,by rw[E8.o.1],λh=>absurd h E8.o.2.1,K8.o⟩
      case measure =>
       have:=E8.o.2.2;simp only[slen];omega
     ·have E8:Hid (n - min n (64*(k+1))=m - r∧64*(k+1)=64*k+r∧n - 64*(k+1)=m - r∧0<m∧0<r):=⟨by omega,by omega,by omega,by omega,by omega⟩
      clear K6 K7 b7 o7 h9 E7 h5 h4;go_wp2
      go_roundw
      case rel=>exact⟨k+1,_,_,by rw[E8.o.1],λh=>⟨by rw[E8.o.2.1],by rw[E8.o.2.2.1]⟩,K8.o⟩
      case measure =>
       have:=E8.o.2.2.2;simp only[slen];omega
    ·have h0:min n (64*k)=n:=by omega
     rw[h0] at k2 ⊢
     have F1:Hid (wr.ownsRow w.heap.size 5 1 (.slice (some ⟨G,0,none⟩) n n) S.length (bl S)):=by
      have h:=k2
      have kg:S.length=n:=by rw[HS.o,YP,<-HX.o.1]
      rw[List.take_of_length_le (by rw[HS.o,YP,<-HX.o.1];exact Zu),List.drop_of_length_le (by rw[<-HX.o.1];exact Zu),List.append_nil] at h
      show World.ownsRow _ _ _ _ _ _ _
      rw[kg];exact Np h ka.o.1 (by unfold maxLen;omega) (by rw[Qt,kg])
     have F2:=Qa k3;rw[Nat.sub_self];clear hk k1 k2 k3 h0;go_wp2;go_ret2;exact⟨_,rfl,F1.o,F2.o⟩
  ·have EB:WZ key ctr nonce xs.length=4:=by unfold WZ;rw[if_pos h,if_neg hf]
   have EL:Wh key ctr nonce xs=[]:=by unfold Wh;rw[if_pos h,if_neg hf]
   rw[EB,EL]
   have hgt:((4294967296 - ctr:Nat):Int)<(q:Int):=by unfold fitsC at hf;omega
   obtain⟨n,hn⟩:=EX xs.length;rw[<-hn] at BF ⊢;clear bk bn bb k8 n8 x8 h e1 EB EL hf hn hl hq h6;go_enter func109,ntmps109;go_wp2_with fail;refine A.o.mono ?_;rintro e w1 ⟨rfl,rfl⟩;go_wp2_with fail;refine BF.o.mono ?_;rintro e w1 ⟨rfl,rfl⟩;go_wp2;go_ret2;exact⟨_,rfl,Xh,VG⟩
 ·have e1:decide (key.length=32∧nonce.length=12)=false:=Qi h
  rw[e1] at A;have EB:WZ key ctr nonce xs.length=1:=if_neg h;have EL:Wh key ctr nonce xs=[]:=if_neg h;rw[EB,EL];clear bk bn bb k8 n8 x8 h e1 EB EL hl h6;go_enter func109,ntmps109;go_wp2_with fail;refine A.o.mono ?_;rintro e w1 ⟨rfl,rfl⟩;go_wp2;go_ret2;exact⟨_,rfl,Xh,VG⟩
def LV:List Nat->Nat
 | []=>0
 | x :: l=>x+67108864*LV l
theorem Ja (a b:List Nat):LV (a++b)=LV a+67108864^a.length*LV b:=by
 induction a with
 | nil=>simp[LV]
 | cons d a ih =>
  simp only[List.cons_append,LV,ih,Qk,Nat.pow_succ];rw[Nat.mul_add,<-Nat.mul_assoc,Nat.mul_comm 67108864 (67108864^a.length)];omega
theorem JB (s:List Nat) (i:Nat) (h:i<s.length):LV (s.take (i+1))=LV (s.take i)+67108864^i*s.getD i 0:=by
 rw[List.take_add_one,Qh h,Qc,Qh h,Ja,Qg,Nat.min_eq_left (Nat.le_of_lt h)];simp[LV]
theorem X5 (s:List Nat) (i d:Nat) (h:i<s.length):LV (s.set i (s.getD i 0+d))=LV s+67108864^i*d:=by
 induction s generalizing i with
 | nil=>simp at h
 | cons x s ih =>
  cases i with
  | zero=>simp[LV];omega
  | succ i =>
   have:=ih i (by simpa using h);simp only[Qo,LV,List.getD_cons_succ,this,Nat.mul_add,Nat.pow_succ];rw[<-Nat.mul_assoc,Nat.mul_comm 67108864 (67108864^i)];omega
def LB (B:Nat) (s:List Nat):Prop:=∀j,s.getD j 0<B
theorem LB.mono {A B:Nat} {s:List Nat} (h:LB A s) (hb:A<=B):LB B s:=λj=>Nat.lt_of_lt_of_le (h j) hb
theorem LB.tail {B x:Nat} {s:List Nat} (h:LB B (x :: s)):LB B s:=λj=>by
 have:=h (j+1)
 rwa [List.getD_cons_succ] at this
theorem LB.head {B x:Nat} {s:List Nat} (h:LB B (x :: s)):x<B:=h 0
theorem LB.cons {B x:Nat} {s:List Nat} (h:x<B) (k:LB B s):LB B (x :: s):=λj=>by
 cases j with
 | zero=>exact h
 | succ j=>rw[List.getD_cons_succ];exact k j
theorem LB.nil (h:0<B):LB B []:=λj=>by simpa using h
theorem J8 (s:List Nat) (i j x:Nat):(s.set i x).getD j 0=if i=j∧i<s.length then x else s.getD j 0:=by
 simp only[Qc,List.getElem?_set]
 by_cases h:i=j
 ·subst h
  by_cases h2:i<s.length
  ·simp[h2]
  ·simp[h2]
 ·simp[h]
theorem LB.set {s:List Nat} (h:LB B s) (i x:Nat) (hx:x<B):LB B (s.set i x):=λj=>by
 rw[J8]
 split
 ·exact hx
 ·exact h j
theorem LV_lt (s:List Nat) (h:LB 67108864 s):LV s<67108864^s.length:=by
 induction s with
 | nil=>simp[LV]
 | cons x s ih =>
  have h1:=h.head;have h2:=ih h.tail;simp only[LV,Qk,Nat.pow_succ];omega
def sdg:List Nat->Nat->List Nat
 | [],_=>[]
 | x :: l,c=>(x+c) % 67108864 :: sdg l ((x+c) / 67108864)
def scy:List Nat->Nat->Nat
 | [],c=>c
 | x :: l,c=>scy l ((x+c) / 67108864)
theorem YT (l:List Nat) (c:Nat):(sdg l c).length=l.length:=by
 induction l generalizing c with
 | nil=>rfl
 | cons x l ih=>simp[sdg,ih]
theorem Wz (l:List Nat) (c:Nat):LB 67108864 (sdg l c):=by
 induction l generalizing c with
 | nil=>exact LB.nil (by decide)
 | cons x l ih=>exact LB.cons (Nat.mod_lt _ (by decide)) (ih _)
theorem qg (l:List Nat) (c:Nat):LV (sdg l c)+67108864^l.length*scy l c=LV l+c:=by
 induction l generalizing c with
 | nil=>simp[LV,sdg,scy]
 | cons x l ih =>
  have h:=ih ((x+c) / 67108864);simp only[LV,sdg,scy,Qk,Nat.pow_succ];rw[Nat.mul_comm (67108864^l.length) 67108864,Nat.mul_assoc];omega
theorem Ej (l:List Nat) (x c:Nat):sdg (l++[x]) c=sdg l c++[(x+scy l c) % 67108864]:=by
 induction l generalizing c with
 | nil=>rfl
 | cons y l ih=>simp[sdg,scy,ih]
theorem Id (l:List Nat) (x c:Nat):scy (l++[x]) c=(x+scy l c) / 67108864:=by
 induction l generalizing c with
 | nil=>rfl
 | cons y l ih=>simp[scy,ih]
theorem VZ (l:List Nat) (c:Nat) (h:LB 9223372036854775808 l) (hc:c<274877906944):scy l c<274877906944:=by
 induction l generalizing c with
 | nil=>exact hc
 | cons x l ih =>
  have:=h.head;exact ih _ h.tail (by omega)
theorem LB.take {s:List Nat} (h:LB B s) (hB:0<B) (n:Nat):LB B (s.take n):=λj=>by
 simp only[Qc,List.getElem?_take]
 split
 ·have:=h j
  rwa [Qc] at this
 ·simpa using hB
theorem XI:(67108864:Nat)^5=2^130:=by decide +kernel
theorem WX (s:List Nat) (hs:s.length=5):LV (sdg s 0)+2^130*scy s 0=LV s∧LV (sdg s 0)<2^130:=by
 have h1:=qg s 0;have h2:=LV_lt _ (Wz s 0);rw[YT,hs,XI] at h2;rw[hs,XI] at h1;exact⟨h1,h2⟩
theorem Dx (s:List Nat) (hs:s.length=5) (h:LV s<2^130):scy s 0=0:=by
 have h1:=(WX s hs).1;generalize scy s 0=c at *
 rcases c with _ | c
 ·rfl
 ·rw[Nat.mul_add] at h1;omega
theorem qh (s:List Nat) (hs:s.length=5) (h:LV s<2^130):LV (sdg s 0)=LV s:=by
 have h1:=(WX s hs).1;rw[Dx s hs h] at h1;omega
def pls (a b:List Nat):List Nat:=(List.range 5).map λi=>a.getD i 0+b.getD i 0
theorem YE (a b:List Nat):(pls a b).length=5:=by simp[pls]
theorem Kn (a b:List Nat) (i:Nat) (h:i<5):(pls a b).getD i 0=a.getD i 0+b.getD i 0:=by
 simp[pls,List.getD_eq_getElem?_getD,h]
theorem vY (a:List Nat) (h:a.length=5):a=[a.getD 0 0,a.getD 1 0,a.getD 2 0,a.getD 3 0,a.getD 4 0]:=by
 rcases a with _ | ⟨a0,_ | ⟨a1,_ | ⟨a2,_ | ⟨a3,_ | ⟨a4,_ | ⟨a5,a⟩⟩⟩⟩⟩⟩ <;> simp at h
 rfl
theorem KM (a:List Nat) (h:a.length=5):LV a=a.getD 0 0+67108864*(a.getD 1 0+67108864*(a.getD 2 0+67108864*(a.getD 3 0+67108864*a.getD 4 0))):=by
 have e:=congrArg LV (vY a h);simp only[LV,Nat.mul_zero,Nat.add_zero] at e;exact e
theorem Jy (a b:List Nat) (ha:a.length=5) (hb:b.length=5):LV (pls a b)=LV a+LV b:=by
 rw[KM _ (YE a b),KM a ha,KM b hb];simp only[Kn _ _ _ (show 0<5 by decide),Kn _ _ _ (show 1<5 by decide),Kn _ _ _ (show 2<5 by decide),Kn _ _ _ (show 3<5 by decide),Kn _ _ _ (show 4<5 by decide)];omega
theorem Pf (s:List Nat) (j:Nat) (h:s.length<=j):s.getD j 0=0:=by
 rw[Qc,List.getElem?_eq_none h];rfl
theorem XL {A B C:Nat} {a b:List Nat} (ha:LB A a) (hb:LB B b) (hc:A+B<=C):LB C (pls a b):=λj=>by
 have h1:=ha j;have h2:=hb j
 by_cases h:j<5
 ·rw[Kn _ _ _ h];omega
 ·rw[Pf _ _ (by rw[YE];omega)];omega
theorem Zr (n B:Nat) (hB:0<B):LB B (List.replicate n 0):=λj=>by
 rw[Qc,List.getElem?_replicate]
 split <;> simpa using hB
def rawI (b:LI):Nat->List Nat
 | 0=>List.replicate 5 0
 | i+1=>(rawI b i).set (8*i / 26) ((rawI b i).getD (8*i / 26) 0+(b.getD i 0).toNat*2^(8*i % 26))
theorem KE (b:LI) (i:Nat):(rawI b i).length=5:=by
 induction i with
 | zero=>rfl
 | succ i ih=>simp[rawI,ih]
theorem xS (b:LI) (i:Nat) (hi:i<=17) (hb:i<=b.length):LV (rawI b i)=nv (b.take i):=by
 induction i with
 | zero=>simp[rawI,nv,LV]
 | succ i ih =>
  rw[rawI,X5 _ _ _ (by rw[KE];omega),ih (by omega) (by omega)]
  have e:b.take (i+1)=b.take i++[b.getD i 0]:=by
   rw[List.take_add_one,Qh (by omega),Qc,Qh (by omega)];rfl
  rw[e,Tm,Qg,Nat.min_eq_left (by omega)]
  congr 1
  rw[Nat.mul_comm (b.getD i 0).toNat,<-Nat.mul_assoc]
  congr 1
  rw[show (67108864:Nat)=2^26 from rfl,show (256:Nat)=2^8 from rfl,<-Nat.pow_mul,<-Nat.pow_mul,<-Nat.pow_add]
  congr 1
  omega
theorem Nd (b:LI) (h8:U8 b) (i:Nat):LB (8589934592*i+1) (rawI b i):=by
 induction i with
 | zero =>
  exact Zr _ _ (by decide)
 | succ i ih =>
  intro j;have h1:=h8.at i;have h2:=ih (8*i / 26);have h3:=ih j;have h4:(b.getD i 0).toNat*2^(8*i % 26)<=255*2^25:=Nat.mul_le_mul (by omega) (Nat.pow_le_pow_right (by decide) (by omega));rw[rawI,J8]
  split <;> omega
def nmb (b:LI):List Nat:=sdg (rawI b b.length) 0
theorem UG (b:LI):(nmb b).length=5:=by rw[nmb,YT,KE]
theorem KI (b:LI):LB 67108864 (nmb b):=Wz _ _
theorem Ge (b:LI) (hl:b.length<=17) (h:nv b<2^130):LV (nmb b)=nv b:=by
 have e:=xS b b.length hl Zu;rw[List.take_length] at e;rw[nmb,qh _ (KE _ _) (by rw[e];exact h),e]
def wdI (a r:List Nat):Nat->List Nat
 | 0=>List.replicate 10 0
 | k+1=>(wdI a r k).set (k / 5+k % 5) ((wdI a r k).getD (k / 5+k % 5) 0+a.getD (k / 5) 0*r.getD (k % 5) 0)
theorem XY (a r:List Nat) (k:Nat):(wdI a r k).length=10:=by
 induction k with
 | zero=>rfl
 | succ i ih=>simp[wdI,ih]
theorem Jb (a r:List Nat) (ha:LB 134217728 a) (hr:LB 67108864 r) (k:Nat):LB (9007199254740992*k+1) (wdI a r k):=by
 induction k with
 | zero =>
  exact Zr _ _ (by decide)
 | succ k ih =>
  intro j;have h2:=ih (k / 5+k % 5);have h3:=ih j;have h5:=ha (k / 5);have h6:=hr (k % 5);have h4:a.getD (k / 5) 0*r.getD (k % 5) 0<=134217728*67108864:=Nat.mul_le_mul (by omega) (by omega);rw[wdI,J8]
  split <;> omega
theorem tK (a r:List Nat) (ha:a.length=5) (hr:r.length=5) (k:Nat) (hk:k<=25) :
 LV (wdI a r k)=LV (a.take (k / 5))*LV r+67108864^(k / 5)*a.getD (k / 5) 0*LV (r.take (k % 5)):=by
 induction k with
 | zero=>simp[wdI,LV]
 | succ k ih =>
  have h1:=ih (by omega);rw[wdI,X5 _ _ _ (by rw[XY];omega),h1];have hn:=JB r (k % 5) (by omega)
  have e:67108864^(k / 5+k % 5)*(a.getD (k / 5) 0*r.getD (k % 5) 0)=67108864^(k / 5)*a.getD (k / 5) 0*(67108864^(k % 5)*r.getD (k % 5) 0):=by
   rw[Nat.pow_add];generalize 67108864^(k / 5)=A;generalize 67108864^(k % 5)=B;generalize a.getD (k / 5) 0=x;generalize r.getD (k % 5) 0=y;rw[Nat.mul_assoc,Nat.mul_assoc,Nat.mul_left_comm B]
  rw[e,Nat.add_assoc,<-Nat.mul_add,<-hn]
  by_cases h5:k % 5=4
  ·have e1:(k+1) / 5=k / 5+1:=by omega
   have e2:(k+1) % 5=0:=by omega
   have e3:r.take (k % 5+1)=r:=List.take_of_length_le (by omega);have e4:LV (r.take 0)=0:=rfl;rw[e1,e2,e3,e4,JB a (k / 5) (by omega),Nat.add_mul,Nat.mul_zero,Nat.add_zero]
  ·have e1:(k+1) / 5=k / 5:=by omega
   have e2:(k+1) % 5=k % 5+1:=by omega
   rw[e1,e2]
theorem wd_LV (a r:List Nat) (ha:a.length=5) (hr:r.length=5):LV (wdI a r 25)=LV a*LV r:=by
 have h:=tK a r ha hr 25 (by decide);rw[show 25 / 5=5 from rfl,show 25 % 5=0 from rfl,List.take_of_length_le (by omega)] at h
 simpa [LV] using h
def otr (W:List Nat):List Nat:=(List.range 5).map λi=>W.getD i 0+5*W.getD (i+5) 0
theorem KY (W:List Nat):(otr W).length=5:=by simp[otr]
theorem Kg (W:List Nat) (i:Nat) (h:i<5):(otr W).getD i 0=W.getD i 0+5*W.getD (i+5) 0:=by
 simp[otr,List.getD_eq_getElem?_getD,h]
theorem ly {W:List Nat} (h:LB B W) (hB:0<B):LB (6*B) (otr W):=λj=>by
 by_cases hj:j<5
 ·have h1:=h j
  have h2:=h (j+5);rw[Kg _ _ hj];omega
 ·rw[Pf _ _ (by rw[KY];omega)];omega
theorem Cd (W:List Nat) (hW:W.length=10):LV (otr W) % PP=LV W % PP:=by
 have h1:LV W=LV (W.take 5)+2^130*LV (W.drop 5):=by
  have h:=Ja (W.take 5) (W.drop 5);rw[List.take_append_drop,Qg,hW,show min 5 10=5 from rfl,XI] at h;exact h
 have a1:(W.take 5).length=5:=by rw[Qg,hW];rfl
 have a2:(W.drop 5).length=5:=by rw[Qm,hW]
 have t (i:Nat) (hi:i<5):(W.take 5).getD i 0=W.getD i 0:=by
  simp[List.getD_eq_getElem?_getD,hi]
 have d (i:Nat):(W.drop 5).getD i 0=W.getD (i+5) 0:=by
  simp[List.getD_eq_getElem?_getD,List.getElem?_drop,Nat.add_comm]
 have h2:LV (otr W)=LV (W.take 5)+5*LV (W.drop 5):=by
  rw[KM _ (KY W),KM _ a1,KM _ a2]
  simp only[Kg _ _ (show 0<5 by decide),Kg _ _ (show 1<5 by decide),Kg _ _ (show 2<5 by decide),Kg _ _ (show 3<5 by decide),Kg _ _ (show 4<5 by decide),
   t 0 (by decide),t 1 (by decide),t 2 (by decide),t 3 (by decide),t 4 (by decide),d]
  omega
 rw[h1,h2,Sn]
def crr (s:List Nat):List Nat:=(sdg s 0).set 0 ((sdg s 0).getD 0 0+5*scy s 0)
theorem ZL (s:List Nat):(crr s).length=s.length:=by rw[crr,List.length_set,YT]
theorem Jd (s:List Nat) (hs:s.length=5):LV (crr s)=LV (sdg s 0)+5*scy s 0:=by
 rw[crr,X5 _ _ _ (by rw[YT,hs];decide),Nat.pow_zero,Nat.one_mul]
theorem wQ (s:List Nat) (hs:s.length=5):LV (crr s) % PP=LV s % PP:=by
 rw[Jd s hs,Sn,(WX s hs).1]
theorem zL (s:List Nat) (h:LB 9223372036854775808 s):LB 4398046511104 (crr s):=by
 have h1:=VZ s 0 h (by decide);have h2:=Wz s 0 0;exact ((Wz s 0).mono (by decide)).set _ _ (by omega)
theorem EG (s:List Nat) (hs:s.length=5) (h:LB 9223372036854775808 s):LV (crr s)<2^130+2199023255552:=by
 have h1:=VZ s 0 h (by decide);have h2:=(WX s hs).2;rw[Jd s hs];omega
theorem wJ (s:List Nat) (hs:s.length=5) (h:LV s<2^130+2199023255552):LV (crr s)<2^130:=by
 have h1:=WX s hs;rw[Jd s hs]
 have h3:(2:Nat)^130=1361129467683753853853498429727072845824:=by decide +kernel
 rw[h3] at *;omega
theorem IF (s:List Nat) (hs:s.length=5) (h:LV s<2^130):crr s=sdg s 0:=by
 rw[crr,Dx s hs h,Nat.mul_zero,Nat.add_zero];have hl:=YT s 0;rw[hs] at hl;generalize sdg s 0=t at *
 rcases t with _ | ⟨x,t⟩
 ·rfl
 ·rfl
def crI:Nat->List Nat->List Nat
 | 0,s=>s
 | k+1,s=>crr (crI k s)
theorem VO (k:Nat) (s:List Nat):(crI k s).length=s.length:=by
 induction k with
 | zero=>rfl
 | succ k ih=>rw[crI,ZL,ih]
theorem BP (k:Nat) (s:List Nat) (h:LB 9223372036854775808 s):LB 9223372036854775808 (crI k s):=by
 induction k with
 | zero=>exact h
 | succ k ih=>exact (zL _ ih).mono (by decide)
theorem jS (k:Nat) (s:List Nat) (hs:s.length=5):LV (crI k s) % PP=LV s % PP:=by
 induction k with
 | zero=>rfl
 | succ k ih=>rw[crI,wQ _ (by rw[VO,hs]),ih]
theorem Om (s:List Nat) (hs:s.length=5) (h:LB 9223372036854775808 s):LB 67108864 (crI 3 s):=by
 have h1:=EG s hs h;have h2:=wJ (crr s) (by rw[ZL,hs]) h1
 show LB 67108864 (crr (crr (crr s)))
 rw[IF _ (by rw[ZL,ZL,hs]) h2];exact Wz _ _
def ptms (a r:List Nat):List Nat:=crI 3 (otr (wdI a r 25))
theorem Hc (a r:List Nat):(ptms a r).length=5:=by rw[ptms,VO,KY]
theorem Pw (a r:List Nat) (ha:LB 134217728 a) (hr:LB 67108864 r):LB 9223372036854775808 (otr (wdI a r 25)):=(ly (Jb a r ha hr 25) (by decide)).mono (by decide)
theorem AZ (a r:List Nat) (ha:LB 134217728 a) (hr:LB 67108864 r):LB 67108864 (ptms a r):=Om _ (KY _) (Pw a r ha hr)
theorem xV (a r:List Nat) (ha:a.length=5) (hr:r.length=5):LV (ptms a r) % PP=LV a*LV r % PP:=by
 rw[ptms,jS _ _ (KY _),Cd _ (XY _ _ _),wd_LV a r ha hr]
def pby (xs:LI) (k:Nat):LI:=((xs.drop (16*k)).take 16++[1])++List.replicate (16 - min 16 (xs.length - 16*k)) 0
theorem Gi (xs:LI) (k:Nat):(pby xs k).length=17:=by
 simp only[pby,Qb,Qg,Qm,List.length_replicate,List.length_singleton];omega
theorem zl (xs:LI) (h8:U8 xs) (k:Nat):U8 (pby xs k):=by
 refine (((h8.drop _).take _).app (λy hy=>by simp at hy;omega)).app (λy hy=>?_);have:=List.eq_of_mem_replicate hy;omega
theorem PE (xs:LI) (k:Nat):nv (pby xs k)=piece xs k:=by
 rw[pby,Rh,xK,Tm,piece,Qg,Qm];simp
theorem ln (xs:LI) (h8:U8 xs) (k:Nat):piece xs k<2^130:=by
 have h1:=nv_lt _ ((h8.drop (16*k)).take 16);have h2:256^((xs.drop (16*k)).take 16).length<=256^16:=Nat.pow_le_pow_right (by decide) (by rw[Qg];omega);have h3:256^(min 16 (xs.length - 16*k))<=256^16:=Nat.pow_le_pow_right (by decide) (by omega)
 have h4:(256:Nat)^16+256^16<2^130:=by decide +kernel
 unfold piece;omega
def gth (r:List Nat) (xs:LI):Nat->List Nat
 | 0=>List.replicate 5 0
 | k+1=>ptms (pls (gth r xs k) (nmb (pby xs k))) r
theorem Wj (r:List Nat) (xs:LI) (k:Nat):(gth r xs k).length=5:=by
 cases k with
 | zero=>rfl
 | succ k=>exact Hc _ _
theorem GR (r:List Nat) (xs:LI) (hr:LB 67108864 r) (k:Nat):LB 67108864 (gth r xs k):=by
 induction k with
 | zero=>exact Zr _ _ (by decide)
 | succ k ih=>exact AZ _ _ (XL ih (KI _) (by decide)) hr
theorem Oh (r:List Nat) (xs:LI) (hr:r.length=5) (h8:U8 xs) (k:Nat):LV (gth r xs k) % PP=pacc (LV r) xs k:=by
 induction k with
 | zero=>simp[gth,pacc,LV]
 | succ k ih =>
  rw[gth,xV _ _ (YE _ _) hr,Jy _ _ (Wj _ _ _) (UG _),Ge _ (by rw[Gi];decide) (by rw[PE];exact ln xs h8 k),PE,pacc,<-ih,Nat.mul_mod,Nat.mul_mod (LV (gth r xs k) % PP+piece xs k),Nat.mod_add_mod]
def lst (a:List Nat):List Nat:=sdg (a.set 0 (a.getD 0 0+5*scy (pls a [5,0,0,0,0]) 0)) 0
theorem V1 (a:List Nat) (h:a.length=5):(lst a).length=5:=by rw[lst,YT,List.length_set,h]
theorem T6 (a:List Nat):LB 67108864 (lst a):=Wz _ _
theorem qH (a:List Nat) (ha:a.length=5) (hb:LB 67108864 a):LV (lst a)=LV a % PP:=by
 have h1:=LV_lt a hb;rw[ha,XI] at h1;have h2:=WX (pls a [5,0,0,0,0]) (YE _ _);rw[Jy a _ ha rfl,show LV [5,0,0,0,0]=5 from rfl] at h2;have h3:=WX (a.set 0 (a.getD 0 0+5*scy (pls a [5,0,0,0,0]) 0)) (by rw[List.length_set,ha]);rw[X5 _ _ _ (by rw[ha];decide),Nat.pow_zero,Nat.one_mul] at h3;rw[jj _ h1];have hp:=JK;unfold lst;generalize sdg (a.set 0 (a.getD 0 0+5*scy (pls a [5,0,0,0,0]) 0)) 0=t at *;generalize scy (a.set 0 (a.getD 0 0+5*scy (pls a [5,0,0,0,0]) 0)) 0=d at *;generalize scy (pls a [5,0,0,0,0]) 0=c at *;generalize sdg (pls a [5,0,0,0,0]) 0=u at *
 have e:(2:Nat)^130=1361129467683753853853498429727072845824:=by decide +kernel
 rw[e] at *
 split <;> omega
def ul (s:List Nat):List Value:=s.map λx=>Value.int .u64 ((x:Nat):Int)
theorem QY (s:List Nat):(ul s).length=s.length:=List.length_map ..
theorem ul_at (s:List Nat) (j:Nat) (h:j<s.length):(ul s)[j]? = some (.int .u64 ((s.getD j 0:Nat):Int)):=by
 simp[ul,List.getD_eq_getElem?_getD,List.getElem?_eq_getElem h]
theorem Mi (s:List Nat):∀v∈ul s,v.oneCell'=true:=by
 intro u hu;simp[ul] at hu;obtain⟨x,_,rfl⟩:=hu;rfl
theorem Ul (s:List Nat):(ul s).toArray.all (·.oneCell')=true:=all_oneCell_toArray (Mi s)
theorem Kl (s:List Nat) (i x:Nat):(ul s).set i (.int .u64 ((x:Nat):Int))=ul (s.set i x):=by
 simp[ul,List.map_set]
theorem Tryz.size34:(prog.info? 195).map (·.size)=some 5:=by kernel_rfl
theorem Tryz.agg32 (w:World):(isAgg 29).run prog w=.ok false w:=by kernel_rfl
theorem Tryz.one32:(prog.info? 29).map (·.size)=some 1:=by kernel_rfl
def z5:List Value:=ul (List.replicate 5 0)
def z10:List Value:=ul (List.replicate 10 0)
theorem Tryz.zero34:(prog.info? 195).map (λi=>(i.zero,i.size))=some (some (.agg z5.toArray),5):=by kernel_rfl
theorem Tryz.zero53:(prog.info? 278).map (λi=>(i.zero,i.size))=some (some (.agg z10.toArray),10):=by kernel_rfl
theorem UT:z5.length=5:=rfl
theorem YV (s:List Nat) (h:s.length=5):(prog.info? 195).map (·.size)=some (ul s).toArray.size:=by simp[QY,h,Tryz.size34]
theorem ix_u5 (s:List Nat) (hs:s.length=5) (j:Nat) (hj:j<5) (w:World):(Instr.index 195 (.agg (ul s).toArray) (.int .i64 j)).run prog w=.ok (.int .u64 ((s.getD j 0:Nat):Int)) w :=
 Kw 195 29 5 (ul s) j _ underlying195 Tryz.agg32 Tryz.one32 hj (ul_at s j (by omega)) w
theorem IV {fn:Func} {p u:Tmp} {ty:TypeId} (h:fn.results=#[.cell p ty,.tmp u]) (tmps:Array Value) (w:World) (g:Nat) (t:TypeId) (cs:Array Value) (fr:Nat × Nat) (d:TypeDesc)
 (hp:tmps.getD p undef=.pointer (some ⟨g,0,none⟩)) (hg:w.heap[g]? = some (.cells cs t fr))
 (hu:P.underlying ty=some d) (hd:(match d with | .struct _ | .array _ _=>true | _=>false)=true) (hi:(P.info? ty).map (·.size)=some cs.size) :
 (results fn tmps).run P w=.ok (.tuple #[.agg cs,tmps.getD u undef]) w:=by
 have hp':tmps[p]?.getD undef=.pointer (some ⟨g,0,none⟩):=by simpa using hp
 simp[results,h,hp',asAddr,run_loadVar_row w g t ty cs fr d hg hu hd hi]
theorem wrap64 (n:Nat) (h:n<18446744073709551616):IntKind.u64.wrap (n:Int)=(n:Int):=by rw[IntKind.wrap_u64];omega
theorem and26 (v:Nat) (h:v<18446744073709551616):bits .and .u64 (v:Int) 67108863=((v % 67108864:Nat):Int):=by
 rw[show (67108863:Int)=((67108863:Nat):Int) from rfl,u64_and_nat _ _ h (by decide),show (67108863:Nat)=2^26 - 1 from rfl,Nat.and_two_pow_sub_one_eq_mod]
theorem td (w:World) (G i:Nat) (t:TypeId) (cs:List Value) (h:Blk w G t cs) (hi:i<cs.length) (v:Value):(w.setCell ⟨G,i,none⟩ v).cell? ⟨G,i,none⟩=some v:=by
 rw[(h.set i v).cell,List.getElem?_set_self (by simpa using hi)]
theorem Ce (s:List Nat) (i:Nat) (hi:i<s.length):(sdg (s.take i) 0++s.drop i).set i ((s.getD i 0+scy (s.take i) 0) % 67108864)=sdg (s.take (i+1)) 0++s.drop (i+1):=by
 have hl:(sdg (s.take i) 0).length=i:=by rw[YT,Qg];omega
 rw[Zb s i hi,Ej,List.set_append_right _ _ (by omega),hl,Nat.sub_self,List.drop_eq_getElem_cons hi,Qn,List.append_assoc]
 rfl
theorem rX (s:List Nat) (i:Nat) (hi:i<s.length):(sdg (s.take i) 0++s.drop i).getD i 0=s.getD i 0:=by
 have hl:(sdg (s.take i) 0).length=i:=by rw[YT,Qg];omega
 simp only[Qc];rw[List.getElem?_append_right (by omega),hl,Nat.sub_self,List.getElem?_drop,Nat.add_zero]
theorem VL (s:List Nat) (hs:s.length=5) (hb:LB 9223372036854775808 s) (w:World) :
 Calls prog 154 #[.agg (ul s).toArray] w λe w'=>e=.returned (.tuple #[.agg (ul (sdg s 0)).toArray,.int .u64 (scy s 0:Nat)])∧N0 w w':=by
 have hg:=(zero_of_info (P:=prog) Tryz.zero34).1;obtain⟨Z,hZ⟩:=EX z5;rw[<-hZ] at hg;obtain⟨D,hD⟩:=EX (ul (sdg s 0))
 have h9:Hid ((prog.info? 195).map (·.size)=some D.toArray.size):=by
  show _=_
  rw[hD];simp[QY,YT,hs,Tryz.size34]
 have HZ2:Hid (Z.toArray.size=D.toArray.size):=by
  show _=_
  rw[hD,hZ];simp[QY,YT,hs,UT]
 have HA:Hid (D.toArray.all (·.oneCell')=true):=by
  show _=_
  rw[hD];exact Ul _
 rw[<-hD];have HD:=Qa hD;have HS:=Qa (Vz hs hb);obtain⟨B,hB⟩:=EX (ul s);have HB:=Qa hB;rw[<-hB];obtain⟨C,hC⟩:=EX (scy s 0);rw[<-hC];have HC:=Qa hC;clear hZ hD hB hC hs hb;go_enter func154,ntmps154;go_wp2_with fail
 have S0:Hid (Blk ((w.alloc (.cells B.toArray 195)).alloc (.cells Z.toArray 195)) w.heap.size 195 (ul (sdg (s.take 0) 0++s.drop 0))):=by
  show Blk _ _ _ (ul s)
  rw[<-HB.o];exact (Blk.new w 195 B).alloc _
 have R0:Hid (Blk ((w.alloc (.cells B.toArray 195)).alloc (.cells Z.toArray 195)) (w.heap.size+1) 195 Z):=by
  have:=Blk.new (w.alloc (.cells B.toArray 195)) 195 Z;rw[size_alloc] at this;exact this
 have O0:Hid (N0 w ((w.alloc (.cells B.toArray 195)).alloc (.cells Z.toArray 195))):=(VG.alloc _).alloc _;obtain⟨G,hG⟩:=EX w.heap.size;obtain⟨R,hR⟩:=EX (w.heap.size+1);obtain⟨W0,h3⟩:=EX ((w.alloc (.cells B.toArray 195)).alloc (.cells Z.toArray 195));rw[<-hG,<-h3] at S0;rw[<-hR,<-h3] at R0;rw[<-h3] at O0;rw[<-hR,<-hG,<-h3];have HG:Hid (w.heap.size<=G∧w.heap.size<=R∧R≠G):=⟨by omega,by omega,by omega⟩;clear hG hR h3 hg
 go_loopw [4,6] (λc i wr=>∃n:Nat,n<=5∧i=.int .i64 n∧c=.int .u64 (scy (s.take n) 0:Nat)∧Blk wr G 195 (ul (sdg (s.take n) 0++s.drop n))∧Blk wr R 195 Z∧N0 w wr) (λ_ i _=>5 - (intOf i).toNat)
 case atStart=>exact⟨0,by omega,rfl,rfl,S0.o,R0.o,O0.o⟩
 case round =>
  obtain⟨n,hn,rfl,rfl,hS,hR,hO⟩:=hrel;clear S0 R0 O0
  by_cases hlt:n<5
  ·have h4:n<s.length:=by rw[HS.o.1];exact hlt
   have h5:(sdg (s.take n) 0++s.drop n).length=5:=by
    rw[Qb,YT,Qg,Qm,HS.o.1];omega
   have hx:=HS.o.2 n;have he:=VZ (s.take n) 0 (HS.o.2.take (by decide) n) (by decide)
   have hc:wr.cell? ⟨G,n,none⟩=some (.int .u64 ((s.getD n 0:Nat):Int)):=by
    rw[hS.cell,ul_at _ _ (by rw[h5];exact hlt),rX s n h4]
   have hf:=hS.froz n;have h2:=Ce s n h4
   have h1:scy (s.take (n+1)) 0=(s.getD n 0+scy (s.take n) 0) / 67108864:=by rw[Zb s n h4,Id]
   obtain⟨x,hh⟩:=EX (s.getD n 0);obtain⟨c,h6⟩:=EX (scy (s.take n) 0);rw[<-hh] at hc h2 h1 hx;rw[<-h6] at h2 h1 he;rw[<-h6];obtain⟨v,hv⟩:=EX (x+c);rw[<-hv] at h2 h1
   have h0:v<18446744073709551616:=by omega
   have hadd:IntKind.u64.wrap ((x:Int)+(c:Int))=(v:Int):=by
    rw[show ((x:Int)+(c:Int))=((v:Nat):Int) by omega,wrap64 v h0]
   have h7:=and26 v h0;obtain⟨d,hd⟩:=EX (v % 67108864);obtain⟨q,hq⟩:=EX (v / 67108864);rw[<-hd] at h7 h2;rw[<-hq] at h1
   have hqq:(v:Int) / 67108864=(q:Int):=by omega
   have ha:=hS.set n (.int .u64 (v:Int));have hc1:=td wr G n 195 _ hS (by rw[QY,h5];exact hlt) (.int .u64 (v:Int));have hf1:=ha.froz n;have h8:=ha.set n (.int .u64 (d:Int));rw[List.set_set,Kl,h2] at h8
   have N1:Hid (Blk ((wr.setCell ⟨G,n,none⟩ (.int .u64 (v:Int))).setCell ⟨G,n,none⟩ (.int .u64 (d:Int))) G 195 (ul (sdg (s.take (n+1)) 0++s.drop (n+1)))∧Blk ((wr.setCell ⟨G,n,none⟩ (.int .u64 (v:Int))).setCell ⟨G,n,none⟩ (.int .u64 (d:Int))) R 195 Z∧N0 w ((wr.setCell ⟨G,n,none⟩ (.int .u64 (v:Int))).setCell ⟨G,n,none⟩ (.int .u64 (d:Int)))):=by
    have oc:=((Only.refl (λk=>k=G) wr).setCell (p:=⟨G,n,none⟩) (λ_=>rfl) (.int .u64 (v:Int))).setCell (p:=⟨G,n,none⟩) (λ_=>rfl) (.int .u64 (d:Int));exact⟨h8,hR.keep oc HG.o.2.2,hO.trans oc (λi hi e=>by have:=HG.o.1;omega)⟩
   have HCN:=Qa h1
   have i1:(n:Int)<5:=by omega
   clear hS hR hO h5 h4 hx he h2 hh h6 hv hd hq ha h8 h1 h0;go_wp2
   go_roundw
   case rel=>exact⟨n+1,by omega,by go_num,by rw[HCN.o],N1.o.1,N1.o.2.1,N1.o.2.2⟩
   case measure=>simp[intOf];omega
  ·obtain rfl:n=5:=by omega
   have S2:Hid (Blk wr G 195 D):=by
    have h:=hS;rw[List.take_of_length_le (by rw[HS.o.1];exact Zu),List.drop_of_length_le (by rw[HS.o.1];exact Zu),List.append_nil,<-HD.o] at h;exact h
   have R2:=Qa hR;have O2:=Qa hO
   have E1:scy (s.take 5) 0=C:=by rw[List.take_of_length_le (by rw[HS.o.1];exact Zu),HC.o]
   rw[E1];clear hS hR hO E1;go_wp2_with (first|(refine wpList_load_row rfl 195 (.tmp 1) rfl G rfl 195 D.toArray (0,0) _ S2.o underlying195 rfl h9.o ?_)|(refine wpList_store_row rfl 195 (.tmp 2) (.tmp 25) rfl R D.toArray rfl rfl 195 Z.toArray R2.o h9.o HZ2.o HA.o ?_));refine bodyPost_ret (IV rfl _ _ R 195 D.toArray (0,0) _ rfl (R2.o.row D) underlying195 rfl h9.o) rfl ⟨rfl,?_⟩;exact O2.o.setRow (λh=>absurd h (by have:=HG.o.2.1;omega)) _
end Go.Proofs.YtiochaeeoelmjaaGreatDoor
