import Derived.Test.YteciafpneamfaaaGreatDoorG20
import Derived.Laws.CopyOwn
namespace Go.Proofs.YteciafpneamfaaaGreatDoor
set_option maxHeartbeats 1600000
set_option maxRecDepth 100000
open Go.RowKit _root_.Go.Proofs.Tryz
def Wp (key:LI) (ctr:Nat) (nonce xs:LI):LI:=if KN key nonce then (if fitsC ctr xs.length then Ya key ctr nonce xs else []) else []
def WE (key:LI) (ctr:Nat) (nonce:LI) (n:Nat):Int:=if KN key nonce then (if fitsC ctr n then 0 else 4) else 1
theorem Hw (w:World) (n:Nat) (hn:n<=1000000000000):∃wm,(Instr.makeSlice 22 (.int .i64 (n:Int)) (.int .i64 (n:Int))).run prog w=.ok (.slice (some ⟨w.heap.size,0,none⟩) n n) wm∧Blk wm w.heap.size 5 (bl (List.replicate n 0))∧N0 w wm:=by
 obtain⟨i0,hi,hz0,hz1,hz2⟩:=info_parts Tryz.infoU8;obtain⟨wm,hmk,h0,hgr⟩:=run_make_full (P:=prog) w w.heap.size 22 5 i0 (.int .u8 0) 1 underlying22 hi hz0 hz1 .i64 .i64 n (by rw[hz2];omega) (by unfold maxLen;omega) (Nat.le_refl _);refine⟨wm,hmk,?_,(Only.refl _ _).grown hgr (λk _ e=>by cases e)⟩
 rcases h0.2 with ⟨h',_⟩ | ⟨g',cap',cur,h',_,hg,_,_,hcs,ht⟩
 ·simp at h'
 ·simp only[Value.slice.injEq,Option.some.injEq,Addr.mk.injEq,and_true,true_and] at h'
  obtain⟨rfl,rfl⟩:=h'
  have e1:cur=(bl (List.replicate n 0)).toArray:=by
   apply Array.toList_inj.1
   rw[List.take_of_length_le (by simp;omega)] at ht;rw[ht,Nat.mul_one,show (Value.int .u8 0).cells=#[.int .u8 0] from rfl,toList_madeCells_one];simp[bl]
  rw[e1] at hg;exact hg
theorem kG (key:LI) (ctr:Nat) (nonce xs:LI) (k r:Nat) (hk:64*k<xs.length) (hr:r=min (xs.length - 64*k) 64) :
 (Ya key ctr nonce xs).take (64*k+r)=(Ya key ctr nonce xs).take (64*k)++xorL ((xs.drop (64*k)).take r) ((Yi key (ctr+k) nonce).take r):=by
 have hB:=Kj key (ctr+k) nonce;have hS:=YQ key ctr nonce xs
 have hx:(xorL ((xs.drop (64*k)).take r) ((Yi key (ctr+k) nonce).take r)).length=r:=by
  rw[XX,Qg,Qg,Qm,hB];omega
 refine DP (by rw[Qb,hx,Qg,Qg,hS];omega) (λi hi=>?_);rw[Qg,hS] at hi
 have e1:((Ya key ctr nonce xs).take (64*k+r)).getD i 0=(Ya key ctr nonce xs).getD i 0:=by
  rw[Qd,Qd,List.getElem?_take_of_lt (by omega)]
 rw[e1]
 by_cases h:i<64*k
 ·rw[Qd,Qd,List.getElem?_append_left (by rw[Qg,hS];omega),List.getElem?_take_of_lt h]
 ·have e2:((Ya key ctr nonce xs).take (64*k)++xorL ((xs.drop (64*k)).take r) ((Yi key (ctr+k) nonce).take r)).getD i 0=(xorL ((xs.drop (64*k)).take r) ((Yi key (ctr+k) nonce).take r)).getD (i - 64*k) 0:=by
   rw[Qd,Qd,List.getElem?_append_right (by rw[Qg,hS];omega),Qg,hS,Nat.min_eq_left (by omega)]
  rw[e2,Z0 _ _ _ _ i (by omega)];unfold xorL ksb;rw[Qd (l:=List.zipWith _ _ _),Qi (by unfold xorL at hx;rw[hx];omega),List.getElem_zipWith];simp only[List.getElem_take,List.getElem_drop,Option.getD_some];rw[show i / 64=k by omega,show i % 64=i - 64*k by omega,Qd,Qd,Qi (by omega),Qi (by omega)];simp only[Option.getD_some,show 64*k+(i - 64*k)=i by omega]
theorem jN (key:LI) (c:Nat) (nonce:LI):(ccF key c nonce).getD 12 0=c:=by
 unfold ccF;rw[Qd,List.append_assoc,List.getElem?_append_right (by simp[ccW,U5])];simp[ccW,U5]
theorem xx (key:LI) (c d:Nat) (nonce:LI):(ccF key c nonce).set 12 d=ccF key d nonce:=by
 unfold ccF
 have hl:(ccW++ldW key 8).length=12:=by simp[ccW,U5]
 rw[List.append_assoc (ccW++ldW key 8),List.set_append_right _ _ (by omega),hl];simp
theorem vU (c k:Nat):IntKind.u32.wrap (((c+k) % 4294967296:Nat)+1:Int)=(((c+(k+1)) % 4294967296:Nat):Int):=by
 rw[IntKind.wrap_u32'];omega
theorem rN (wm:World) (G n bc:Nat) (co:Option Addr) (xs:LI) (hn:xs.length=n) (hb:Blk wm G 5 (bl (List.replicate n 0))) (hs:0<n->∃ad,co=some ad∧∀j v,(bl xs)[j]? = some v->wm.cell? (ad.add j)=some v) :
 ∃w2,(Builtin.copy_ #[22,22] 3 #[.slice (some ⟨G,0,none⟩) n n,.slice co n bc]).run prog wm=.ok (.int .i64 (n:Int)) w2∧Blk w2 G 5 (bl xs)∧Only (λk=>k=G) wm w2:=by
 by_cases h0:n=0
 ·subst h0
  have hx:xs=[]:=List.eq_nil_of_length_eq_zero hn;subst hx;exact⟨wm,run_copy_none (P:=prog) wm 22 22 3 5 _ _ 0 0 0 bc underlying22 Tryz.one5 rfl,hb,Only.refl _ _⟩
 ·obtain⟨ad,rfl,h2⟩:=hs (by omega)
  have hl:(bl xs).length=n:=by rw[Qs,hn]
  have h1:=run_copy_row (P:=prog) wm 22 22 3 5 G 0 n n ad n bc (bl (List.replicate n 0)).toArray 5 (bl xs) underlying22 Tryz.one5 hb (by rw[hl];exact (Nat.min_self n).symm) h2 (by simp[Qs,hn]) (UK xs)
  have e:(bl (List.replicate n 0)).toArray.toList.take 0++bl xs++(bl (List.replicate n 0)).toArray.toList.drop (0+(bl xs).length)=bl xs:=by
   rw[List.take_zero,List.nil_append,List.drop_of_length_le (by simp[Qs,hn]),List.append_nil]
  rw[e,hl] at h1;exact⟨_,h1,hb.row (bl xs),(Only.refl (λk=>k=G) wm).setRow (λ_=>rfl) _⟩
theorem DY (vk vn vb:Value) (key nonce xs:LI) (ctr:Nat) (hc:ctr<4294967296) (k8:U8 key) (n8:U8 nonce) (x8:U8 xs) (hl:xs.length<=1000000000000) (w:World) (bk:Bs .u8 w vk key) (bn:Bs .u8 w vn nonce) (bb:Bs .u8 w vb xs) :
 Calls prog 84 #[vk,.int .u32 ctr,vn,vb] w λe w'=>∃v,e=.returned (.tuple #[v,.int .i64 (WE key ctr nonce xs.length)])∧w'.ownsRow w.heap.size 5 1 v (Wp key ctr nonce xs).length (bl (Wp key ctr nonce xs))∧N0 w w':=by
 have h9:=Qa (And.intro bk bn);obtain⟨ao,kc,rfl⟩:=bk.len;obtain⟨bo,nc,rfl⟩:=bn.len;obtain⟨co,bc,rfl⟩:=bb.len;have A:=Qa (LX ao bo key.length kc nonce.length nc w)
 by_cases h:KN key nonce
 ·have e1:decide (key.length=32∧nonce.length=12)=true:=Qc h
  rw[e1] at A;have BF:=Qa (IZ xs.length hl w);obtain⟨q,hq⟩:=EX ((xs.length+63) / 64);rw[<-hq] at BF
  have ho:IntKind.u64.wrap (4294967296 - (ctr:Int))=((4294967296 - ctr:Nat):Int):=by simp[IntKind.wrap,IntKind.bits,IntKind.signed];omega
  have hcv:IntKind.u64.wrap (ctr:Int)=(ctr:Int):=by simp[IntKind.wrap,IntKind.bits,IntKind.signed];omega
  by_cases hf:fitsC ctr xs.length
  ·have EB:WE key ctr nonce xs.length=0:=by unfold WE;rw[if_pos h,if_pos hf]
   have EL:Wp key ctr nonce xs=Ya key ctr nonce xs:=by unfold Wp;rw[if_pos h,if_pos hf]
   obtain⟨S,hS⟩:=EX (Ya key ctr nonce xs);rw[EB,EL,<-hS];have HS:=Qa hS;clear hS
   have hgt:¬(((4294967296 - ctr:Nat):Int)<(q:Int)):=by unfold fitsC at hf;omega
   obtain⟨n,hn⟩:=EX xs.length
   have hl2:n<=1000000000000:=by rw[hn];exact hl
   obtain⟨wm,ke,ha,hu⟩:=Hw w n hl2;have HX:=Qa (And.intro hn (And.intro x8 (And.intro bb (And.intro hf (And.intro k8 n8)))));rw[<-hn] at BF ⊢;obtain⟨G,hG⟩:=EX w.heap.size;rw[<-hG] at ke ha
   have ht:Hid (∀j v,(bl xs)[j]? = some v->∃ad,co=some ad∧wm.cell? (ad.add j)=some v):=λj v hv=>by
    have hb:=bb.past hu
    have hj:j<xs.length:=by have:=(List.getElem?_eq_some_iff.1 hv).1;rwa [Qs] at this
    obtain⟨b,off,cap,e,h0⟩:=hb.at j hj;simp at e;obtain⟨rfl,_⟩:=e;rw[bl_at xs j hj] at hv
    cases hv
    exact⟨_,rfl,by rw[Addr.add_mid];exact h0⟩
   have HP:Hid (0<(bl xs).length->∃ad,co=some ad∧∀j v,(bl xs)[j]? = some v->wm.cell? (ad.add j)=some v):=λhp=>by
    obtain⟨ad,rfl,_⟩:=ht.o 0 (bl xs)[0] (Qi hp);refine⟨ad,rfl,λj v hv=>?_⟩;obtain⟨ad',e,h0⟩:=ht.o j v hv
    cases e
    exact h0
   obtain⟨w2,hcp,kf,k9⟩:=rN wm G n bc co xs hn.symm ha (λhp=>HP.o (by rw[Qs,<-hn];exact hp));have O2:Hid (N0 w w2):=hu.trans k9 (λi hi e=>by omega);have B2:=Qa kf;have ka:Hid (w.heap.size<=G∧w.heap.size=G):=⟨by omega,hG.symm⟩;have F:=Qa (λW (hw:N0 w W)=>Lc _ _ key nonce ctr h.1 h.2 k8 n8 W (h9.o.1.past hw) (h9.o.2.past hw))
   have OB:Hid (∀(W:World) (c:Nat),c<4294967296->Calls prog 116 #[.agg (wl (ccF key c nonce)).toArray] W λe w'=>e=.returned (.agg (bl (Yi key c nonce)).toArray)∧N0 W w') :=
    λW c hc'=>Nx (ccF key c nonce) (Kh _ _ _) (LY key k8 c hc' nonce n8) W
   have hzv:=(zero_of_info (P:=prog) Tryz.zero42).1;have k6:=(zero_of_info (P:=prog) Tryz.zero44).1;obtain⟨Z,hZ⟩:=EX zB;rw[<-hZ] at hzv;obtain⟨Y,hY⟩:=EX zW;rw[<-hY] at k6;have HZ:=Qa (And.intro hZ hY)
   have h5:Hid (∀c,(prog.info? 132).map (·.size)=some (bl (Yi key c nonce)).toArray.size∧Z.toArray.size=(bl (Yi key c nonce)).toArray.size∧(bl (Yi key c nonce)).toArray.all (·.oneCell')=true):=by
    intro c;refine⟨?_,?_,?_⟩
    ·rw[Tryz.size42];simp[Qs,Kj]
    ·rw[hZ];simp[Qs,Kj,Gk]
    ·exact J6 _
   have h8:Hid (∀c,(prog.info? 168).map (·.size)=some (wl (ccF key c nonce)).toArray.size∧Y.toArray.size=(wl (ccF key c nonce)).toArray.size∧(wl (ccF key c nonce)).toArray.all (·.oneCell')=true):=by
    intro c;refine⟨?_,?_,?_⟩
    ·rw[Tryz.size44];simp[QV,Kh]
    ·rw[hY];simp[QV,Kh,Gm]
    ·exact UP _
   have HKN:=Qa h;clear bk bn bb k8 n8 x8 h e1 EB EL hf hn hl ha hZ hY hq ht hG HP kf k9 hu;go_enter func84,ntmps84;go_wp2_with fail;refine A.o.mono ?_;rintro e w1 ⟨rfl,rfl⟩;go_wp2_with fail;refine BF.o.mono ?_;rintro e w1 ⟨rfl,rfl⟩;go_wp2_with fail;refine (F.o w2 O2.o).mono ?_;rintro e w3 ⟨rfl,o3⟩;have O3:=Qa (O2.o.same o3);have B3:=Qa (B2.o.past o3);clear o3 A BF F O2 B2 ke hcp ho hcv;go_wp2_with (first|(refine wpList_store_row rfl 168 (.tmp 11) (.tmp 34) rfl w3.heap.size (wl (ccF key ctr nonce)).toArray rfl rfl 168 Y.toArray (Blk.new w3 168 Y) (h8.o ctr).1 (h8.o ctr).2.1 (h8.o ctr).2.2 ?_));obtain⟨FB,k5⟩:=EX w3.heap.size
   have K4:Hid (Blk ((w3.alloc (.cells Y.toArray 168)).setRow w3.heap.size (wl (ccF key ctr nonce)).toArray) w3.heap.size 168 (wl (ccF key ((ctr+0) % 4294967296) nonce))∧Blk ((w3.alloc (.cells Y.toArray 168)).setRow w3.heap.size (wl (ccF key ctr nonce)).toArray) G 5 (bl (S.take (min n (64*0))++xs.drop (min n (64*0))))∧N0 w ((w3.alloc (.cells Y.toArray 168)).setRow w3.heap.size (wl (ccF key ctr nonce)).toArray)):=by
    have hg:=B3.o.lt;refine⟨?_,?_,(O3.o.alloc _).setRow (λh=>absurd h (by have:=O3.o.size;omega)) _⟩
    ·rw[Nat.add_zero,Nat.mod_eq_of_lt hc]
     exact (Blk.new w3 168 Y).row _
    ·rw[Nat.mul_zero,Nat.min_zero,List.take_zero,List.drop_zero,List.nil_append]
     exact (B3.o.alloc _).keep ((Only.refl (λk=>k=w3.heap.size) _).setRow (λ_=>rfl) _) (by omega)
   have k0:Hid (w.heap.size<=FB∧G≠FB):=by
    have:=B3.o.lt;have:=O3.o.size;exact⟨by omega,by omega⟩
   rw[<-k5] at K4 ⊢;obtain⟨W4,kb⟩:=EX ((w3.alloc (.cells Y.toArray 168)).setRow FB (wl (ccF key ctr nonce)).toArray);rw[<-kb] at K4 ⊢;obtain⟨CF,kd⟩:=EX (wl (ccF key ctr nonce));rw[<-kd];clear kb k5 kd O3 B3 k6
   go_loopw [12] (λo wr=>∃(k:Nat) (ro:Option Addr) (cap:Nat),o=.slice ro (n - min n (64*k)) cap∧(64*k<n->ro=some ⟨G,64*k,none⟩∧cap=n - 64*k)∧Blk wr FB 168 (wl (ccF key ((ctr+k) % 4294967296) nonce))∧Blk wr G 5 (bl (S.take (min n (64*k))++xs.drop (min n (64*k))))∧N0 w wr) (λo _=>slen o)
   case atStart=>exact⟨0,some ⟨G,0,none⟩,n,by rw[Nat.mul_zero,Nat.min_zero,Nat.sub_zero],λ_=>⟨rfl,rfl⟩,K4.o⟩
   case round =>
    obtain⟨k,ro,cap,rfl,he,k1,k2,k3⟩:=hrel;clear K4
    by_cases hlt:64*k<n
    ·obtain⟨rfl,rfl⟩:=he hlt
     have h3:min n (64*k)=64*k:=by omega
     rw[h3] at k2 ⊢
     have hx:ctr+k<4294967296:=by
      have h1:=HX.o.2.2.2.1;have h2:=HX.o.1;unfold fitsC at h1;omega
     rw[Nat.mod_eq_of_lt hx] at k1;obtain⟨m,hm⟩:=EX (n - 64*k);rw[<-hm];obtain⟨r,hr⟩:=EX (min m 64)
     have hm0:(0:Int)<(m:Int):=by omega
     have HK:=Qa (And.intro k1 (And.intro k2 k3));have hy:=Qa (And.intro hm hr)
     have hr1:(r:Int)<=(m:Int):=by omega
     have hr2:(0:Int)<=(r:Int):=by omega
     clear he k1 k2 k3 h3 hm hr;go_wp2_with (first|(refine wpList_load_row rfl 168 (.tmp 11) rfl FB rfl 168 (wl (ccF key (ctr+k) nonce)).toArray (0,0) _ HK.o.1 underlying168 rfl (h8.o (ctr+k)).1 ?_));refine (OB.o wr (ctr+k) hx).mono ?_;rintro e w5 ⟨rfl,o5⟩;go_wp2_with (first|(refine wpList_store_row rfl 132 (.tmp 13) (.tmp 40) rfl w5.heap.size (bl (Yi key (ctr+k) nonce)).toArray rfl rfl 132 Z.toArray (Blk.new w5 132 Z) (h5.o (ctr+k)).1 (h5.o (ctr+k)).2.1 (h5.o (ctr+k)).2.2 ?_)|(refine wpList_load_row rfl 132 (.tmp 13) rfl w5.heap.size rfl 132 (bl (Yi key (ctr+k) nonce)).toArray (0,0) _ ((Blk.new w5 132 Z).row _) underlying132 rfl (h5.o (ctr+k)).1 ?_));obtain⟨W6,hd⟩:=EX ((w5.alloc (.cells Z.toArray 132)).setRow w5.heap.size (bl (Yi key (ctr+k) nonce)).toArray)
     have K6:Hid (Blk W6 FB 168 (wl (ccF key (ctr+k) nonce))∧Blk W6 G 5 (bl (S.take (64*k)++xs.drop (64*k)))∧N0 w W6):=by
      have o6:N0 w5 W6:=by
       rw[hd];exact ((Only.refl _ _).alloc _).setRow (λh=>absurd h (Nat.lt_irrefl _)) _
      have hh:=o5.same o6;exact⟨HK.o.1.past hh,HK.o.2.1.past hh,HK.o.2.2.same hh⟩
     rw[<-hd];obtain⟨KS,hk⟩:=EX (Yi key (ctr+k) nonce);have k4:=Qa hk;rw[<-hk];clear hd o5 HK hk;refine (An G (64*k) m m r (S.take (64*k)) (xs.drop (64*k)) KS (by rw[Qg,HS.o,YQ,<-HX.o.1];omega) (by rw[Qm,<-HX.o.1,hy.o.1]) (by rw[k4.o,Kj]) hy.o.2 (HX.o.2.1.drop _) (by rw[k4.o];exact GY _ _ _) W6 K6.o.2.1).mono ?_;rintro e w7 ⟨rfl,b7,o7⟩;have h7:=hy.o
     have E7:min n (64*(k+1))=64*k+r:=by omega
     have K7:Hid (Blk w7 FB 168 (wl (ccF key (ctr+k) nonce))∧Blk w7 G 5 (bl (S.take (min n (64*(k+1)))++xs.drop (min n (64*(k+1)))))∧N0 w w7):=by
      refine⟨K6.o.1.keep o7 (λe=>k0.o.2 e.symm),?_,K6.o.2.2.trans o7 (λi hi e=>by have:=ka.o.1;omega)⟩;rw[E7,HS.o,kG key ctr nonce xs k r (by rw[<-HX.o.1];exact hlt) (by rw[<-HX.o.1,<-h7.1];exact h7.2),<-HS.o,<-k4.o,List.append_assoc,<-List.drop_drop];exact b7
     have hcc:w7.cell? ⟨FB,12,none⟩=some (.int .u32 ((ctr+k:Nat):Int)):=by
      rw[K7.o.1.cell,wl_at _ _ (by rw[Kh];decide),jN]
     have hfz:=K7.o.1.froz 12;have hs:=vU ctr k;rw[Nat.mod_eq_of_lt hx] at hs;obtain⟨cn,h6⟩:=EX ((ctr+(k+1)) % 4294967296);rw[<-h6] at hs
     have K8:Hid (Blk (w7.setCell ⟨FB,12,none⟩ (.int .u32 (cn:Int))) FB 168 (wl (ccF key ((ctr+(k+1)) % 4294967296) nonce))∧Blk (w7.setCell ⟨FB,12,none⟩ (.int .u32 (cn:Int))) G 5 (bl (S.take (min n (64*(k+1)))++xs.drop (min n (64*(k+1)))))∧N0 w (w7.setCell ⟨FB,12,none⟩ (.int .u32 (cn:Int)))):=by
      have oc:=(Only.refl (λk=>k=FB) w7).setCell (p:=⟨FB,12,none⟩) (λ_=>rfl) (.int .u32 (cn:Int));refine⟨?_,K7.o.2.1.keep oc k0.o.2,K7.o.2.2.trans oc (λi hi e=>by have:=k0.o.1;omega)⟩;have h:=K7.o.1.set 12 (.int .u32 (cn:Int));rw[U4,xx] at h;rw[<-h6];exact h
     obtain⟨cc,h4⟩:=EX (ctr+k);rw[<-h4] at hcc hs
     by_cases hlast:m=r
     ·have E8:Hid (n - min n (64*(k+1))=0∧¬64*(k+1)<n∧0<m):=⟨by omega,by omega,by omega⟩
      have hz:m - r=0:=by omega
      clear K6 K7 b7 o7 h7 E7 h6 h4;go_wp2
      go_roundw
      case rel=>exact⟨k+1,_,_,by rw[E8.o.1],λh=>absurd h E8.o.2.1,K8.o⟩
      case measure =>
       have:=E8.o.2.2;simp only[slen];omega
     ·have E8:Hid (n - min n (64*(k+1))=m - r∧64*(k+1)=64*k+r∧n - 64*(k+1)=m - r∧0<m∧0<r):=⟨by omega,by omega,by omega,by omega,by omega⟩
      clear K6 K7 b7 o7 h7 E7 h6 h4;go_wp2
      go_roundw
      case rel=>exact⟨k+1,_,_,by rw[E8.o.1],λh=>⟨by rw[E8.o.2.1],by rw[E8.o.2.2.1]⟩,K8.o⟩
      case measure =>
       have:=E8.o.2.2.2;simp only[slen];omega
    ·have h3:min n (64*k)=n:=by omega
     rw[h3] at k2 ⊢
     have F1:Hid (wr.ownsRow w.heap.size 5 1 (.slice (some ⟨G,0,none⟩) n n) S.length (bl S)):=by
      have h:=k2
      have k7:S.length=n:=by rw[HS.o,YQ,<-HX.o.1]
      rw[List.take_of_length_le (by rw[HS.o,YQ,<-HX.o.1];exact Nat.le_refl _),List.drop_of_length_le (by rw[<-HX.o.1];exact Nat.le_refl _),List.append_nil] at h
      show World.ownsRow _ _ _ _ _ _ _
      rw[k7];exact TF h ka.o.1 (by unfold maxLen;omega) (by rw[Qs,k7])
     have F2:=Qa k3;rw[Nat.sub_self];clear he k1 k2 k3 h3;go_wp2;go_ret2;exact⟨_,rfl,F1.o,F2.o⟩
  ·have EB:WE key ctr nonce xs.length=4:=by unfold WE;rw[if_pos h,if_neg hf]
   have EL:Wp key ctr nonce xs=[]:=by unfold Wp;rw[if_pos h,if_neg hf]
   rw[EB,EL]
   have hgt:((4294967296 - ctr:Nat):Int)<(q:Int):=by unfold fitsC at hf;omega
   obtain⟨n,hn⟩:=EX xs.length;rw[<-hn] at BF ⊢;clear bk bn bb k8 n8 x8 h e1 EB EL hf hn hl hq h9;go_enter func84,ntmps84;go_wp2_with fail;refine A.o.mono ?_;rintro e w1 ⟨rfl,rfl⟩;go_wp2_with fail;refine BF.o.mono ?_;rintro e w1 ⟨rfl,rfl⟩;go_wp2;go_ret2;exact⟨_,rfl,World.ownsRow_nil ..,Only.refl _ _⟩
 ·have e1:decide (key.length=32∧nonce.length=12)=false:=Qh h
  rw[e1] at A;have EB:WE key ctr nonce xs.length=1:=if_neg h;have EL:Wp key ctr nonce xs=[]:=if_neg h;rw[EB,EL];clear bk bn bb k8 n8 x8 h e1 EB EL hl h9;go_enter func84,ntmps84;go_wp2_with fail;refine A.o.mono ?_;rintro e w1 ⟨rfl,rfl⟩;go_wp2;go_ret2;exact⟨_,rfl,World.ownsRow_nil ..,Only.refl _ _⟩
def LV:List Nat->Nat
 | []=>0
 | x :: l=>x+67108864*LV l
theorem Ge (a b:List Nat):LV (a++b)=LV a+67108864^a.length*LV b:=by
 induction a with
 | nil=>simp[LV]
 | cons d a ih =>
  simp only[List.cons_append,LV,ih,Qj,Nat.pow_succ];rw[Nat.mul_add,<-Nat.mul_assoc,Nat.mul_comm 67108864 (67108864^a.length)];omega
theorem Ho (s:List Nat) (i:Nat) (h:i<s.length):LV (s.take (i+1))=LV (s.take i)+67108864^i*s.getD i 0:=by
 rw[List.take_add_one,Qi h,Qd,Qi h,Ge,Qg,Nat.min_eq_left (Nat.le_of_lt h)];simp[LV]
theorem Xt (s:List Nat) (i d:Nat) (h:i<s.length):LV (s.set i (s.getD i 0+d))=LV s+67108864^i*d:=by
 induction s generalizing i with
 | nil=>simp at h
 | cons x s ih =>
  cases i with
  | zero=>simp[LV];omega
  | succ i =>
   have:=ih i (by simpa using h);simp only[Qo,LV,List.getD_cons_succ,this,Nat.mul_add,Nat.pow_succ];rw[<-Nat.mul_assoc,Nat.mul_comm 67108864 (67108864^i)];omega
def LB (B:Nat) (s:List Nat):Prop:=∀j,s.getD j 0<B
theorem LB.mono {A B:Nat} {s:List Nat} (h:LB A s) (hb:A<=B):LB B s:=λj=>Nat.lt_of_lt_of_le (h j) hb
theorem LB.tail {B x:Nat} {s:List Nat} (h:LB B (x :: s)):LB B s:=λj=>by
 have:=h (j+1)
 rwa [List.getD_cons_succ] at this
theorem LB.head {B x:Nat} {s:List Nat} (h:LB B (x :: s)):x<B:=h 0
theorem LB.cons {B x:Nat} {s:List Nat} (h:x<B) (k:LB B s):LB B (x :: s):=λj=>by
 cases j with
 | zero=>exact h
 | succ j=>rw[List.getD_cons_succ];exact k j
theorem LB.nil {B:Nat} (h:0<B):LB B []:=λj=>by simpa using h
theorem GC (s:List Nat) (i j x:Nat):(s.set i x).getD j 0=if i=j∧i<s.length then x else s.getD j 0:=by
 simp only[Qd,List.getElem?_set]
 by_cases h:i=j
 ·subst h
  by_cases h2:i<s.length
  ·simp[h2]
  ·simp[h2]
 ·simp[h]
theorem LB.set {B:Nat} {s:List Nat} (h:LB B s) (i x:Nat) (hx:x<B):LB B (s.set i x):=λj=>by
 rw[GC]
 split
 ·exact hx
 ·exact h j
theorem LV_lt (s:List Nat) (h:LB 67108864 s):LV s<67108864^s.length:=by
 induction s with
 | nil=>simp[LV]
 | cons x s ih =>
  have h1:=h.head;have h2:=ih h.tail;simp only[LV,Qj,Nat.pow_succ];omega
def sdg:List Nat->Nat->List Nat
 | [],_=>[]
 | x :: l,c=>(x+c) % 67108864 :: sdg l ((x+c) / 67108864)
def scy:List Nat->Nat->Nat
 | [],c=>c
 | x :: l,c=>scy l ((x+c) / 67108864)
theorem YV (l:List Nat) (c:Nat):(sdg l c).length=l.length:=by
 induction l generalizing c with
 | nil=>rfl
 | cons x l ih=>simp[sdg,ih]
theorem WH (l:List Nat) (c:Nat):LB 67108864 (sdg l c):=by
 induction l generalizing c with
 | nil=>exact LB.nil (by decide)
 | cons x l ih=>exact LB.cons (Nat.mod_lt _ (by decide)) (ih _)
theorem Cl (l:List Nat) (c:Nat):LV (sdg l c)+67108864^l.length*scy l c=LV l+c:=by
 induction l generalizing c with
 | nil=>simp[LV,sdg,scy]
 | cons x l ih =>
  have h:=ih ((x+c) / 67108864);simp only[LV,sdg,scy,Qj,Nat.pow_succ];rw[Nat.mul_comm (67108864^l.length) 67108864,Nat.mul_assoc];omega
theorem uI (l:List Nat) (x c:Nat):sdg (l++[x]) c=sdg l c++[(x+scy l c) % 67108864]:=by
 induction l generalizing c with
 | nil=>rfl
 | cons y l ih=>simp[sdg,scy,ih]
theorem wV (l:List Nat) (x c:Nat):scy (l++[x]) c=(x+scy l c) / 67108864:=by
 induction l generalizing c with
 | nil=>rfl
 | cons y l ih=>simp[scy,ih]
theorem Zv (l:List Nat) (c:Nat) (h:LB 9223372036854775808 l) (hc:c<274877906944):scy l c<274877906944:=by
 induction l generalizing c with
 | nil=>exact hc
 | cons x l ih =>
  have:=h.head;exact ih _ h.tail (by omega)
theorem LB.take {B:Nat} {s:List Nat} (h:LB B s) (hB:0<B) (n:Nat):LB B (s.take n):=λj=>by
 simp only[Qd,List.getElem?_take]
 split
 ·have:=h j
  rwa [Qd] at this
 ·simpa using hB
theorem Xn:(67108864:Nat)^5=2^130:=by decide +kernel
theorem WD (s:List Nat) (hs:s.length=5):LV (sdg s 0)+2^130*scy s 0=LV s∧LV (sdg s 0)<2^130:=by
 have h1:=Cl s 0;have h2:=LV_lt _ (WH s 0);rw[YV,hs,Xn] at h2;rw[hs,Xn] at h1;exact⟨h1,h2⟩
theorem PX (s:List Nat) (hs:s.length=5) (h:LV s<2^130):scy s 0=0:=by
 have h1:=(WD s hs).1;generalize scy s 0=c at *
 rcases c with _ | c
 ·rfl
 ·rw[Nat.mul_add] at h1;omega
theorem wH (s:List Nat) (hs:s.length=5) (h:LV s<2^130):LV (sdg s 0)=LV s:=by
 have h1:=(WD s hs).1;rw[PX s hs h] at h1;omega
def pls (a b:List Nat):List Nat:=(List.range 5).map λi=>a.getD i 0+b.getD i 0
theorem YH (a b:List Nat):(pls a b).length=5:=by simp[pls]
theorem KB (a b:List Nat) (i:Nat) (h:i<5):(pls a b).getD i 0=a.getD i 0+b.getD i 0:=by
 simp[pls,List.getD_eq_getElem?_getD,h]
theorem rX (a:List Nat) (h:a.length=5):a=[a.getD 0 0,a.getD 1 0,a.getD 2 0,a.getD 3 0,a.getD 4 0]:=by
 rcases a with _ | ⟨a0,_ | ⟨a1,_ | ⟨a2,_ | ⟨a3,_ | ⟨a4,_ | ⟨a5,a⟩⟩⟩⟩⟩⟩ <;> simp at h
 rfl
theorem Vh (a:List Nat) (h:a.length=5):LV a=a.getD 0 0+67108864*(a.getD 1 0+67108864*(a.getD 2 0+67108864*(a.getD 3 0+67108864*a.getD 4 0))):=by
 have e:=congrArg LV (rX a h);simp only[LV,Nat.mul_zero,Nat.add_zero] at e;exact e
theorem Gy (a b:List Nat) (ha:a.length=5) (hb:b.length=5):LV (pls a b)=LV a+LV b:=by
 rw[Vh _ (YH a b),Vh a ha,Vh b hb];simp only[KB _ _ _ (show 0<5 by decide),KB _ _ _ (show 1<5 by decide),KB _ _ _ (show 2<5 by decide),KB _ _ _ (show 3<5 by decide),KB _ _ _ (show 4<5 by decide)];omega
theorem D7 (s:List Nat) (j:Nat) (h:s.length<=j):s.getD j 0=0:=by
 rw[Qd,List.getElem?_eq_none h];rfl
theorem Xe {A B C:Nat} {a b:List Nat} (ha:LB A a) (hb:LB B b) (hc:A+B<=C):LB C (pls a b):=λj=>by
 have h1:=ha j;have h2:=hb j
 by_cases h:j<5
 ·rw[KB _ _ _ h];omega
 ·rw[D7 _ _ (by rw[YH];omega)];omega
theorem V6 (n B:Nat) (hB:0<B):LB B (List.replicate n 0):=λj=>by
 rw[Qd,List.getElem?_replicate]
 split <;> simpa using hB
def rawI (b:LI):Nat->List Nat
 | 0=>List.replicate 5 0
 | i+1=>(rawI b i).set (8*i / 26) ((rawI b i).getD (8*i / 26) 0+(b.getD i 0).toNat*2^(8*i % 26))
theorem KG (b:LI) (i:Nat):(rawI b i).length=5:=by
 induction i with
 | zero=>rfl
 | succ i ih=>simp[rawI,ih]
theorem Bc (b:LI) (i:Nat) (hi:i<=17) (hb:i<=b.length):LV (rawI b i)=nv (b.take i):=by
 induction i with
 | zero=>simp[rawI,nv,LV]
 | succ i ih =>
  rw[rawI,Xt _ _ _ (by rw[KG];omega),ih (by omega) (by omega)]
  have e:b.take (i+1)=b.take i++[b.getD i 0]:=by
   rw[List.take_add_one,Qi (by omega),Qd,Qi (by omega)];rfl
  rw[e,Ra,Qg,Nat.min_eq_left (by omega)]
  congr 1
  rw[Nat.mul_comm (b.getD i 0).toNat,<-Nat.mul_assoc]
  congr 1
  rw[show (67108864:Nat)=2^26 from rfl,show (256:Nat)=2^8 from rfl,<-Nat.pow_mul,<-Nat.pow_mul,<-Nat.pow_add]
  congr 1
  omega
theorem MB (b:LI) (h8:U8 b) (i:Nat):LB (8589934592*i+1) (rawI b i):=by
 induction i with
 | zero =>
  exact V6 _ _ (by decide)
 | succ i ih =>
  intro j;have h1:=h8.at i;have h2:=ih (8*i / 26);have h3:=ih j;have h4:(b.getD i 0).toNat*2^(8*i % 26)<=255*2^25:=Nat.mul_le_mul (by omega) (Nat.pow_le_pow_right (by decide) (by omega));rw[rawI,GC]
  split <;> omega
def nmb (b:LI):List Nat:=sdg (rawI b b.length) 0
theorem UJ (b:LI):(nmb b).length=5:=by rw[nmb,YV,KG]
theorem Vj (b:LI):LB 67108864 (nmb b):=WH _ _
theorem Hr (b:LI) (hl:b.length<=17) (h:nv b<2^130):LV (nmb b)=nv b:=by
 have e:=Bc b b.length hl (Nat.le_refl _);rw[List.take_length] at e;rw[nmb,wH _ (KG _ _) (by rw[e];exact h),e]
def wdI (a r:List Nat):Nat->List Nat
 | 0=>List.replicate 10 0
 | k+1=>(wdI a r k).set (k / 5+k % 5) ((wdI a r k).getD (k / 5+k % 5) 0+a.getD (k / 5) 0*r.getD (k % 5) 0)
theorem ZQ (a r:List Nat) (k:Nat):(wdI a r k).length=10:=by
 induction k with
 | zero=>rfl
 | succ i ih=>simp[wdI,ih]
theorem Gq (a r:List Nat) (ha:LB 134217728 a) (hr:LB 67108864 r) (k:Nat):LB (9007199254740992*k+1) (wdI a r k):=by
 induction k with
 | zero =>
  exact V6 _ _ (by decide)
 | succ k ih =>
  intro j;have h2:=ih (k / 5+k % 5);have h3:=ih j;have h5:=ha (k / 5);have h6:=hr (k % 5);have h4:a.getD (k / 5) 0*r.getD (k % 5) 0<=134217728*67108864:=Nat.mul_le_mul (by omega) (by omega);rw[wdI,GC]
  split <;> omega
theorem yc (a r:List Nat) (ha:a.length=5) (hr:r.length=5) (k:Nat) (hk:k<=25) :
 LV (wdI a r k)=LV (a.take (k / 5))*LV r+67108864^(k / 5)*a.getD (k / 5) 0*LV (r.take (k % 5)):=by
 induction k with
 | zero=>simp[wdI,LV]
 | succ k ih =>
  have h1:=ih (by omega);rw[wdI,Xt _ _ _ (by rw[ZQ];omega),h1];have hn:=Ho r (k % 5) (by omega)
  have e:67108864^(k / 5+k % 5)*(a.getD (k / 5) 0*r.getD (k % 5) 0)=67108864^(k / 5)*a.getD (k / 5) 0*(67108864^(k % 5)*r.getD (k % 5) 0):=by
   rw[Nat.pow_add];generalize 67108864^(k / 5)=A;generalize 67108864^(k % 5)=B;generalize a.getD (k / 5) 0=x;generalize r.getD (k % 5) 0=y;rw[Nat.mul_assoc,Nat.mul_assoc,Nat.mul_left_comm B]
  rw[e,Nat.add_assoc,<-Nat.mul_add,<-hn]
  by_cases h5:k % 5=4
  ·have e1:(k+1) / 5=k / 5+1:=by omega
   have e2:(k+1) % 5=0:=by omega
   have e3:r.take (k % 5+1)=r:=List.take_of_length_le (by omega);have e4:LV (r.take 0)=0:=rfl;rw[e1,e2,e3,e4,Ho a (k / 5) (by omega),Nat.add_mul,Nat.mul_zero,Nat.add_zero]
  ·have e1:(k+1) / 5=k / 5:=by omega
   have e2:(k+1) % 5=k % 5+1:=by omega
   rw[e1,e2]
theorem wd_LV (a r:List Nat) (ha:a.length=5) (hr:r.length=5):LV (wdI a r 25)=LV a*LV r:=by
 have h:=yc a r ha hr 25 (by decide);rw[show 25 / 5=5 from rfl,show 25 % 5=0 from rfl,List.take_of_length_le (by omega)] at h
 simpa [LV] using h
def otr (W:List Nat):List Nat:=(List.range 5).map λi=>W.getD i 0+5*W.getD (i+5) 0
theorem Vk (W:List Nat):(otr W).length=5:=by simp[otr]
theorem Kn (W:List Nat) (i:Nat) (h:i<5):(otr W).getD i 0=W.getD i 0+5*W.getD (i+5) 0:=by
 simp[otr,List.getD_eq_getElem?_getD,h]
theorem Oz {B:Nat} {W:List Nat} (h:LB B W) (hB:0<B):LB (6*B) (otr W):=λj=>by
 by_cases hj:j<5
 ·have h1:=h j
  have h2:=h (j+5);rw[Kn _ _ hj];omega
 ·rw[D7 _ _ (by rw[Vk];omega)];omega
theorem pb (W:List Nat) (hW:W.length=10):LV (otr W) % PP=LV W % PP:=by
 have h1:LV W=LV (W.take 5)+2^130*LV (W.drop 5):=by
  have h:=Ge (W.take 5) (W.drop 5);rw[List.take_append_drop,Qg,hW,show min 5 10=5 from rfl,Xn] at h;exact h
 have a1:(W.take 5).length=5:=by rw[Qg,hW];rfl
 have a2:(W.drop 5).length=5:=by rw[Qm,hW]
 have t (i:Nat) (hi:i<5):(W.take 5).getD i 0=W.getD i 0:=by
  simp[List.getD_eq_getElem?_getD,hi]
 have d (i:Nat):(W.drop 5).getD i 0=W.getD (i+5) 0:=by
  simp[List.getD_eq_getElem?_getD,List.getElem?_drop,Nat.add_comm]
 have h2:LV (otr W)=LV (W.take 5)+5*LV (W.drop 5):=by
  rw[Vh _ (Vk W),Vh _ a1,Vh _ a2]
  simp only[Kn _ _ (show 0<5 by decide),Kn _ _ (show 1<5 by decide),Kn _ _ (show 2<5 by decide),Kn _ _ (show 3<5 by decide),Kn _ _ (show 4<5 by decide),
   t 0 (by decide),t 1 (by decide),t 2 (by decide),t 3 (by decide),t 4 (by decide),d]
  omega
 rw[h1,h2,SK]
def crr (s:List Nat):List Nat:=(sdg s 0).set 0 ((sdg s 0).getD 0 0+5*scy s 0)
theorem Z4 (s:List Nat):(crr s).length=s.length:=by rw[crr,List.length_set,YV]
theorem G9 (s:List Nat) (hs:s.length=5):LV (crr s)=LV (sdg s 0)+5*scy s 0:=by
 rw[crr,Xt _ _ _ (by rw[YV,hs];decide),Nat.pow_zero,Nat.one_mul]
theorem je (s:List Nat) (hs:s.length=5):LV (crr s) % PP=LV s % PP:=by
 rw[G9 s hs,SK,(WD s hs).1]
theorem OT (s:List Nat) (h:LB 9223372036854775808 s):LB 4398046511104 (crr s):=by
 have h1:=Zv s 0 h (by decide);have h2:=WH s 0 0;exact ((WH s 0).mono (by decide)).set _ _ (by omega)
theorem BH (s:List Nat) (hs:s.length=5) (h:LB 9223372036854775808 s):LV (crr s)<2^130+2199023255552:=by
 have h1:=Zv s 0 h (by decide);have h2:=(WD s hs).2;rw[G9 s hs];omega
theorem uT (s:List Nat) (hs:s.length=5) (h:LV s<2^130+2199023255552):LV (crr s)<2^130:=by
 have h1:=WD s hs;rw[G9 s hs]
 have h3:(2:Nat)^130=1361129467683753853853498429727072845824:=by decide +kernel
 rw[h3] at *;omega
theorem jA (s:List Nat) (hs:s.length=5) (h:LV s<2^130):crr s=sdg s 0:=by
 rw[crr,PX s hs h,Nat.mul_zero,Nat.add_zero];have hl:=YV s 0;rw[hs] at hl;generalize sdg s 0=t at *
 rcases t with _ | ⟨x,t⟩
 ·rfl
 ·rfl
def crI:Nat->List Nat->List Nat
 | 0,s=>s
 | k+1,s=>crr (crI k s)
theorem VW (k:Nat) (s:List Nat):(crI k s).length=s.length:=by
 induction k with
 | zero=>rfl
 | succ k ih=>rw[crI,Z4,ih]
theorem wS (k:Nat) (s:List Nat) (h:LB 9223372036854775808 s):LB 9223372036854775808 (crI k s):=by
 induction k with
 | zero=>exact h
 | succ k ih=>exact (OT _ ih).mono (by decide)
theorem yX (k:Nat) (s:List Nat) (hs:s.length=5):LV (crI k s) % PP=LV s % PP:=by
 induction k with
 | zero=>rfl
 | succ k ih=>rw[crI,je _ (by rw[VW,hs]),ih]
theorem ux (s:List Nat) (hs:s.length=5) (h:LB 9223372036854775808 s):LB 67108864 (crI 3 s):=by
 have h1:=BH s hs h;have h2:=uT (crr s) (by rw[Z4,hs]) h1
 show LB 67108864 (crr (crr (crr s)))
 rw[jA _ (by rw[Z4,Z4,hs]) h2];exact WH _ _
def ptms (a r:List Nat):List Nat:=crI 3 (otr (wdI a r 25))
theorem Gp (a r:List Nat):(ptms a r).length=5:=by rw[ptms,VW,Vk]
theorem LQ (a r:List Nat) (ha:LB 134217728 a) (hr:LB 67108864 r):LB 9223372036854775808 (otr (wdI a r 25)):=(Oz (Gq a r ha hr 25) (by decide)).mono (by decide)
theorem gJ (a r:List Nat) (ha:LB 134217728 a) (hr:LB 67108864 r):LB 67108864 (ptms a r):=ux _ (Vk _) (LQ a r ha hr)
theorem qW (a r:List Nat) (ha:a.length=5) (hr:r.length=5):LV (ptms a r) % PP=LV a*LV r % PP:=by
 rw[ptms,yX _ _ (Vk _),pb _ (ZQ _ _ _),wd_LV a r ha hr]
def pby (xs:LI) (k:Nat):LI:=((xs.drop (16*k)).take 16++[1])++List.replicate (16 - min 16 (xs.length - 16*k)) 0
theorem Jf (xs:LI) (k:Nat):(pby xs k).length=17:=by
 simp only[pby,Qb,Qg,Qm,List.length_replicate,List.length_singleton];omega
theorem A9 (xs:LI) (h8:U8 xs) (k:Nat):U8 (pby xs k):=by
 refine (((h8.drop _).take _).app (λy hy=>by simp at hy;omega)).app (λy hy=>?_);have:=List.eq_of_mem_replicate hy;omega
theorem Mc (xs:LI) (k:Nat):nv (pby xs k)=piece xs k:=by
 rw[pby,RK,Cd,Ra,piece,Qg,Qm];simp
theorem Fg (xs:LI) (h8:U8 xs) (k:Nat):piece xs k<2^130:=by
 have h1:=nv_lt _ ((h8.drop (16*k)).take 16);have h2:256^((xs.drop (16*k)).take 16).length<=256^16:=Nat.pow_le_pow_right (by decide) (by rw[Qg];omega);have h3:256^(min 16 (xs.length - 16*k))<=256^16:=Nat.pow_le_pow_right (by decide) (by omega)
 have h4:(256:Nat)^16+256^16<2^130:=by decide +kernel
 unfold piece;omega
def gth (r:List Nat) (xs:LI):Nat->List Nat
 | 0=>List.replicate 5 0
 | k+1=>ptms (pls (gth r xs k) (nmb (pby xs k))) r
theorem Wg (r:List Nat) (xs:LI) (k:Nat):(gth r xs k).length=5:=by
 cases k with
 | zero=>rfl
 | succ k=>exact Gp _ _
theorem GW (r:List Nat) (xs:LI) (hr:LB 67108864 r) (k:Nat):LB 67108864 (gth r xs k):=by
 induction k with
 | zero=>exact V6 _ _ (by decide)
 | succ k ih=>exact gJ _ _ (Xe ih (Vj _) (by decide)) hr
theorem xj (r:List Nat) (xs:LI) (hr:r.length=5) (h8:U8 xs) (k:Nat):LV (gth r xs k) % PP=pacc (LV r) xs k:=by
 induction k with
 | zero=>simp[gth,pacc,LV]
 | succ k ih =>
  rw[gth,qW _ _ (YH _ _) hr,Gy _ _ (Wg _ _ _) (UJ _),Hr _ (by rw[Jf];decide) (by rw[Mc];exact Fg xs h8 k),Mc,pacc,<-ih,Nat.mul_mod,Nat.mul_mod (LV (gth r xs k) % PP+piece xs k),Nat.mod_add_mod]
def lst (a:List Nat):List Nat:=sdg (a.set 0 (a.getD 0 0+5*scy (pls a [5,0,0,0,0]) 0)) 0
theorem Zu (a:List Nat) (h:a.length=5):(lst a).length=5:=by rw[lst,YV,List.length_set,h]
theorem Sb (a:List Nat):LB 67108864 (lst a):=WH _ _
theorem xU (a:List Nat) (ha:a.length=5) (hb:LB 67108864 a):LV (lst a)=LV a % PP:=by
 have h1:=LV_lt a hb;rw[ha,Xn] at h1;have h2:=WD (pls a [5,0,0,0,0]) (YH _ _);rw[Gy a _ ha rfl,show LV [5,0,0,0,0]=5 from rfl] at h2;have h3:=WD (a.set 0 (a.getD 0 0+5*scy (pls a [5,0,0,0,0]) 0)) (by rw[List.length_set,ha]);rw[Xt _ _ _ (by rw[ha];decide),Nat.pow_zero,Nat.one_mul] at h3;rw[Bu _ h1];have hp:=Tb;unfold lst;generalize sdg (a.set 0 (a.getD 0 0+5*scy (pls a [5,0,0,0,0]) 0)) 0=t at *;generalize scy (a.set 0 (a.getD 0 0+5*scy (pls a [5,0,0,0,0]) 0)) 0=d at *;generalize scy (pls a [5,0,0,0,0]) 0=c at *;generalize sdg (pls a [5,0,0,0,0]) 0=u at *
 have e:(2:Nat)^130=1361129467683753853853498429727072845824:=by decide +kernel
 rw[e] at *
 split <;> omega
def ul (s:List Nat):List Value:=s.map λx=>Value.int .u64 ((x:Nat):Int)
theorem QZ (s:List Nat):(ul s).length=s.length:=List.length_map ..
theorem ul_at (s:List Nat) (j:Nat) (h:j<s.length):(ul s)[j]? = some (.int .u64 ((s.getD j 0:Nat):Int)):=by
 simp[ul,List.getD_eq_getElem?_getD,List.getElem?_eq_getElem h]
theorem To (s:List Nat):∀v∈ul s,v.oneCell'=true:=by
 intro u hu;simp[ul] at hu;obtain⟨x,_,rfl⟩:=hu;rfl
theorem Uf (s:List Nat):(ul s).toArray.all (·.oneCell')=true:=all_oneCell_toArray (To s)
theorem Ku (s:List Nat) (i x:Nat):(ul s).set i (.int .u64 ((x:Nat):Int))=ul (s.set i x):=by
 simp[ul,List.map_set]
theorem JO (s:LI) (i:Nat) (x:Int):(bl s).set i (.int .u8 x)=bl (s.set i x):=by simp[bl,List.map_set]
theorem Tryz.size34:(prog.info? 173).map (·.size)=some 5:=by kernel_rfl
theorem Tryz.agg32 (w:World):(isAgg 23).run prog w=.ok false w:=by kernel_rfl
theorem Tryz.one32:(prog.info? 23).map (·.size)=some 1:=by kernel_rfl
def z5:List Value:=ul (List.replicate 5 0)
def z10:List Value:=ul (List.replicate 10 0)
theorem Tryz.zero34:(prog.info? 173).map (λi=>(i.zero,i.size))=some (some (.agg z5.toArray),5):=by kernel_rfl
theorem Tryz.zero53:(prog.info? 240).map (λi=>(i.zero,i.size))=some (some (.agg z10.toArray),10):=by kernel_rfl
theorem UD:z5.length=5:=rfl
theorem YR (s:List Nat) (h:s.length=5):(prog.info? 173).map (·.size)=some (ul s).toArray.size:=by simp[QZ,h,Tryz.size34]
theorem ix_u5 (s:List Nat) (hs:s.length=5) (j:Nat) (hj:j<5) (w:World):(Instr.index 173 (.agg (ul s).toArray) (.int .i64 j)).run prog w=.ok (.int .u64 ((s.getD j 0:Nat):Int)) w :=
 KF 173 23 5 (ul s) j _ underlying173 Tryz.agg32 Tryz.one32 hj (ul_at s j (by omega)) w
theorem yV {P:Program} {fn:Func} {p u:Tmp} {ty:TypeId} (h:fn.results=#[.cell p ty,.tmp u]) (tmps:Array Value) (w:World) (g:Nat) (t:TypeId) (cs:Array Value) (fr:Nat × Nat) (d:TypeDesc)
 (hp:tmps.getD p undef=.pointer (some ⟨g,0,none⟩)) (hg:w.heap[g]? = some (.cells cs t fr))
 (hu:P.underlying ty=some d) (hd:(match d with | .struct _ | .array _ _=>true | _=>false)=true) (hi:(P.info? ty).map (·.size)=some cs.size) :
 (results fn tmps).run P w=.ok (.tuple #[.agg cs,tmps.getD u undef]) w:=by
 have hp':tmps[p]?.getD undef=.pointer (some ⟨g,0,none⟩):=by simpa using hp
 simp[results,h,hp',asAddr,run_loadVar_row w g t ty cs fr d hg hu hd hi]
theorem wrap64 (n:Nat) (h:n<18446744073709551616):IntKind.u64.wrap (n:Int)=(n:Int):=by rw[IntKind.wrap_u64];omega
theorem and26 (v:Nat) (h:v<18446744073709551616):bits .and .u64 (v:Int) 67108863=((v % 67108864:Nat):Int):=by
 rw[show (67108863:Int)=((67108863:Nat):Int) from rfl,u64_and_nat _ _ h (by decide),show (67108863:Nat)=2^26 - 1 from rfl,Nat.and_two_pow_sub_one_eq_mod]
theorem Fd (w:World) (G i:Nat) (t:TypeId) (cs:List Value) (h:Blk w G t cs) (hi:i<cs.length) (v:Value):(w.setCell ⟨G,i,none⟩ v).cell? ⟨G,i,none⟩=some v:=by
 rw[(h.set i v).cell,List.getElem?_set_self (by simpa using hi)]
theorem tD (s:List Nat) (i:Nat) (hi:i<s.length):(sdg (s.take i) 0++s.drop i).set i ((s.getD i 0+scy (s.take i) 0) % 67108864)=sdg (s.take (i+1)) 0++s.drop (i+1):=by
 have hl:(sdg (s.take i) 0).length=i:=by rw[YV,Qg];omega
 rw[VQ s i hi,uI,List.set_append_right _ _ (by omega),hl,Nat.sub_self,List.drop_eq_getElem_cons hi,Qn,List.append_assoc]
 rfl
theorem ze (s:List Nat) (i:Nat) (hi:i<s.length):(sdg (s.take i) 0++s.drop i).getD i 0=s.getD i 0:=by
 have hl:(sdg (s.take i) 0).length=i:=by rw[YV,Qg];omega
 simp only[Qd];rw[List.getElem?_append_right (by omega),hl,Nat.sub_self,List.getElem?_drop,Nat.add_zero]
theorem Zo (s:List Nat) (hs:s.length=5) (hb:LB 9223372036854775808 s) (w:World) :
 Calls prog 120 #[.agg (ul s).toArray] w λe w'=>e=.returned (.tuple #[.agg (ul (sdg s 0)).toArray,.int .u64 (scy s 0:Nat)])∧N0 w w':=by
 have hg:=(zero_of_info (P:=prog) Tryz.zero34).1;obtain⟨Z,hZ⟩:=EX z5;rw[<-hZ] at hg;obtain⟨D,hD⟩:=EX (ul (sdg s 0))
 have h8:Hid ((prog.info? 173).map (·.size)=some D.toArray.size):=by
  show _=_
  rw[hD];simp[QZ,YV,hs,Tryz.size34]
 have HZ2:Hid (Z.toArray.size=D.toArray.size):=by
  show _=_
  rw[hD,hZ];simp[QZ,YV,hs,UD]
 have HA:Hid (D.toArray.all (·.oneCell')=true):=by
  show _=_
  rw[hD];exact Uf _
 rw[<-hD];have HD:=Qa hD;have HS:=Qa (And.intro hs hb);obtain⟨B,hB⟩:=EX (ul s);have HB:=Qa hB;rw[<-hB];obtain⟨C,hC⟩:=EX (scy s 0);rw[<-hC];have HC:=Qa hC;clear hZ hD hB hC hs hb;go_enter func120,ntmps120;go_wp2_with fail
 have S0:Hid (Blk ((w.alloc (.cells B.toArray 173)).alloc (.cells Z.toArray 173)) w.heap.size 173 (ul (sdg (s.take 0) 0++s.drop 0))):=by
  show Blk _ _ _ (ul s)
  rw[<-HB.o];exact (Blk.new w 173 B).alloc _
 have R0:Hid (Blk ((w.alloc (.cells B.toArray 173)).alloc (.cells Z.toArray 173)) (w.heap.size+1) 173 Z):=by
  have:=Blk.new (w.alloc (.cells B.toArray 173)) 173 Z;rw[size_alloc] at this;exact this
 have O0:Hid (N0 w ((w.alloc (.cells B.toArray 173)).alloc (.cells Z.toArray 173))):=((Only.refl _ _).alloc _).alloc _;obtain⟨G,hG⟩:=EX w.heap.size;obtain⟨R,hR⟩:=EX (w.heap.size+1);obtain⟨W0,h3⟩:=EX ((w.alloc (.cells B.toArray 173)).alloc (.cells Z.toArray 173));rw[<-hG,<-h3] at S0;rw[<-hR,<-h3] at R0;rw[<-h3] at O0;rw[<-hR,<-hG,<-h3];have HG:Hid (w.heap.size<=G∧w.heap.size<=R∧R≠G):=⟨by omega,by omega,by omega⟩;clear hG hR h3 hg
 go_loopw [4,6] (λc i wr=>∃n:Nat,n<=5∧i=.int .i64 n∧c=.int .u64 (scy (s.take n) 0:Nat)∧Blk wr G 173 (ul (sdg (s.take n) 0++s.drop n))∧Blk wr R 173 Z∧N0 w wr) (λ_ i _=>5 - (intOf i).toNat)
 case atStart=>exact⟨0,by omega,rfl,rfl,S0.o,R0.o,O0.o⟩
 case round =>
  obtain⟨n,hn,rfl,rfl,hS,hR,hO⟩:=hrel;clear S0 R0 O0
  by_cases hlt:n<5
  ·have h4:n<s.length:=by rw[HS.o.1];exact hlt
   have h9:(sdg (s.take n) 0++s.drop n).length=5:=by
    rw[Qb,YV,Qg,Qm,HS.o.1];omega
   have hx:=HS.o.2 n;have hh:=Zv (s.take n) 0 (HS.o.2.take (by decide) n) (by decide)
   have hc:wr.cell? ⟨G,n,none⟩=some (.int .u64 ((s.getD n 0:Nat):Int)):=by
    rw[hS.cell,ul_at _ _ (by rw[h9];exact hlt),ze s n h4]
   have hf:=hS.froz n;have h1:=tD s n h4
   have h2:scy (s.take (n+1)) 0=(s.getD n 0+scy (s.take n) 0) / 67108864:=by rw[VQ s n h4,wV]
   obtain⟨x,he⟩:=EX (s.getD n 0);obtain⟨c,h5⟩:=EX (scy (s.take n) 0);rw[<-he] at hc h1 h2 hx;rw[<-h5] at h1 h2 hh;rw[<-h5];obtain⟨v,hv⟩:=EX (x+c);rw[<-hv] at h1 h2
   have h0:v<18446744073709551616:=by omega
   have hadd:IntKind.u64.wrap ((x:Int)+(c:Int))=(v:Int):=by
    rw[show ((x:Int)+(c:Int))=((v:Nat):Int) by omega,wrap64 v h0]
   have h7:=and26 v h0;obtain⟨d,hd⟩:=EX (v % 67108864);obtain⟨q,hq⟩:=EX (v / 67108864);rw[<-hd] at h7 h1;rw[<-hq] at h2
   have hqq:(v:Int) / 67108864=(q:Int):=by omega
   have h6:=hS.set n (.int .u64 (v:Int));have hc1:=Fd wr G n 173 _ hS (by rw[QZ,h9];exact hlt) (.int .u64 (v:Int));have hf1:=h6.froz n;have ha:=h6.set n (.int .u64 (d:Int));rw[List.set_set,Ku,h1] at ha
   have N1:Hid (Blk ((wr.setCell ⟨G,n,none⟩ (.int .u64 (v:Int))).setCell ⟨G,n,none⟩ (.int .u64 (d:Int))) G 173 (ul (sdg (s.take (n+1)) 0++s.drop (n+1)))∧Blk ((wr.setCell ⟨G,n,none⟩ (.int .u64 (v:Int))).setCell ⟨G,n,none⟩ (.int .u64 (d:Int))) R 173 Z∧N0 w ((wr.setCell ⟨G,n,none⟩ (.int .u64 (v:Int))).setCell ⟨G,n,none⟩ (.int .u64 (d:Int)))):=by
    have oc:=((Only.refl (λk=>k=G) wr).setCell (p:=⟨G,n,none⟩) (λ_=>rfl) (.int .u64 (v:Int))).setCell (p:=⟨G,n,none⟩) (λ_=>rfl) (.int .u64 (d:Int));exact⟨ha,hR.keep oc HG.o.2.2,hO.trans oc (λi hi e=>by have:=HG.o.1;omega)⟩
   have HCN:=Qa h2
   have i1:(n:Int)<5:=by omega
   clear hS hR hO h9 h4 hx hh h1 he h5 hv hd hq h6 ha h2 h0;go_wp2
   go_roundw
   case rel=>exact⟨n+1,by omega,by go_num,by rw[HCN.o],N1.o.1,N1.o.2.1,N1.o.2.2⟩
   case measure=>simp[intOf];omega
  ·obtain rfl:n=5:=by omega
   have S2:Hid (Blk wr G 173 D):=by
    have h:=hS;rw[List.take_of_length_le (by rw[HS.o.1];exact Nat.le_refl _),List.drop_of_length_le (by rw[HS.o.1];exact Nat.le_refl _),List.append_nil,<-HD.o] at h;exact h
   have R2:=Qa hR;have O2:=Qa hO
   have E1:scy (s.take 5) 0=C:=by rw[List.take_of_length_le (by rw[HS.o.1];exact Nat.le_refl _),HC.o]
   rw[E1];clear hS hR hO E1;go_wp2_with (first|(refine wpList_load_row rfl 173 (.tmp 1) rfl G rfl 173 D.toArray (0,0) _ S2.o underlying173 rfl h8.o ?_)|(refine wpList_store_row rfl 173 (.tmp 2) (.tmp 25) rfl R D.toArray rfl rfl 173 Z.toArray R2.o h8.o HZ2.o HA.o ?_));refine bodyPost_ret (yV rfl _ _ R 173 D.toArray (0,0) _ rfl (R2.o.row D) underlying173 rfl h8.o) rfl ⟨rfl,?_⟩;exact O2.o.setRow (λh=>absurd h (by have:=HG.o.2.1;omega)) _
end Go.Proofs.YteciafpneamfaaaGreatDoor
