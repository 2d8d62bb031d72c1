import Derived.Test.YtoflhbghdlaeaaaGreatDoorG24
import Derived.Laws.CopyOwn
namespace Go.Proofs.YtoflhbghdlaeaaaGreatDoor
set_option maxHeartbeats 1600000
set_option maxRecDepth 100000
open Go.RowKit _root_.Go.Proofs.Tryz
def UV (key:LI) (ctr:Nat) (nonce xs:LI):LI:=if KN key nonce then (if fitsC ctr xs.length then YA key ctr nonce xs else []) else []
def Wu (key:LI) (ctr:Nat) (nonce:LI) (n:Nat):Int:=if KN key nonce then (if fitsC ctr n then 0 else 4) else 1
theorem XN (w:World) (n:Nat) (hn:n<=1000000000000):∃wm,(Instr.makeSlice 23 (.int .i64 (n:Int)) (.int .i64 (n:Int))).run prog w=.ok (.slice (some ⟨w.heap.size,0,none⟩) n n) wm∧Blk wm w.heap.size 5 (bl (List.replicate n 0))∧N0 w wm:=by
 obtain⟨i0,hi,hz0,hz1,hz2⟩:=info_parts Tryz.infoU8;obtain⟨wm,hmk,h0,hgr⟩:=run_make_full (P:=prog) w w.heap.size 23 5 i0 (.int .u8 0) 1 underlying23 hi hz0 hz1 .i64 .i64 n (by rw[hz2];omega) (by unfold maxLen;omega) (Nat.le_refl _);refine⟨wm,hmk,?_,(Only.refl _ _).grown hgr (λk _ e=>by cases e)⟩
 rcases h0.2 with ⟨h',_⟩ | ⟨g',cap',cur,h',_,hg,_,_,hcs,ht⟩
 ·simp at h'
 ·simp only[Value.slice.injEq,Option.some.injEq,Addr.mk.injEq,and_true,true_and] at h'
  obtain⟨rfl,rfl⟩:=h'
  have e1:cur=(bl (List.replicate n 0)).toArray:=by
   apply Array.toList_inj.1
   rw[List.take_of_length_le (by simp;omega)] at ht;rw[ht,Nat.mul_one,show (Value.int .u8 0).cells=#[.int .u8 0] from rfl,toList_madeCells_one];simp[bl]
  rw[e1] at hg;exact hg
theorem FE (key:LI) (ctr:Nat) (nonce xs:LI) (k r:Nat) (hk:64*k<xs.length) (hr:r=min (xs.length - 64*k) 64) :
 (YA key ctr nonce xs).take (64*k+r)=(YA key ctr nonce xs).take (64*k)++xorL ((xs.drop (64*k)).take r) ((Q9 key (ctr+k) nonce).take r):=by
 have hB:=Kj key (ctr+k) nonce;have hS:=Wt key ctr nonce xs
 have hx:(xorL ((xs.drop (64*k)).take r) ((Q9 key (ctr+k) nonce).take r)).length=r:=by
  rw[Z4,Qf,Qf,Qo,hB];omega
 refine q8 (by rw[Qc,hx,Qf,Qf,hS];omega) (λi hi=>?_);rw[Qf,hS] at hi
 have e1:((YA key ctr nonce xs).take (64*k+r)).getD i 0=(YA key ctr nonce xs).getD i 0:=by
  rw[Qd,Qd,List.getElem?_take_of_lt (by omega)]
 rw[e1]
 by_cases h:i<64*k
 ·rw[Qd,Qd,List.getElem?_append_left (by rw[Qf,hS];omega),List.getElem?_take_of_lt h]
 ·have e2:((YA key ctr nonce xs).take (64*k)++xorL ((xs.drop (64*k)).take r) ((Q9 key (ctr+k) nonce).take r)).getD i 0=(xorL ((xs.drop (64*k)).take r) ((Q9 key (ctr+k) nonce).take r)).getD (i - 64*k) 0:=by
   rw[Qd,Qd,List.getElem?_append_right (by rw[Qf,hS];omega),Qf,hS,Nat.min_eq_left (by omega)]
  rw[e2,NM _ _ _ _ i (by omega)];unfold xorL ksb;rw[Qd (l:=List.zipWith _ _ _),Qg (by unfold xorL at hx;rw[hx];omega),List.getElem_zipWith];simp only[List.getElem_take,List.getElem_drop,Option.getD_some];rw[show i / 64=k by omega,show i % 64=i - 64*k by omega,Qd,Qd,Qg (by omega),Qg (by omega)];simp only[Option.getD_some,show 64*k+(i - 64*k)=i by omega]
theorem qH (key:LI) (c:Nat) (nonce:LI):(ccF key c nonce).getD 12 0=c:=by
 unfold ccF;rw[Qd,List.append_assoc,List.getElem?_append_right (by simp[ccW,UJ])];simp[ccW,UJ]
theorem wJ (key:LI) (c d:Nat) (nonce:LI):(ccF key c nonce).set 12 d=ccF key d nonce:=by
 unfold ccF
 have hl:(ccW++ldW key 8).length=12:=by simp[ccW,UJ]
 rw[List.append_assoc (ccW++ldW key 8),List.set_append_right _ _ (by omega),hl];simp
theorem EY (c k:Nat):IntKind.u32.wrap (((c+k) % 4294967296:Nat)+1:Int)=(((c+(k+1)) % 4294967296:Nat):Int):=by
 rw[IntKind.wrap_u32'];omega
theorem N9 (wm:World) (G n bc:Nat) (co:Option Addr) (xs:LI) (hn:xs.length=n) (hb:Blk wm G 5 (bl (List.replicate n 0))) (hs:0<n->∃ad,co=some ad∧∀j v,(bl xs)[j]? = some v->wm.cell? (ad.add j)=some v) :
 ∃w2,(Builtin.copy_ #[23,23] 3 #[.slice (some ⟨G,0,none⟩) n n,.slice co n bc]).run prog wm=.ok (.int .i64 (n:Int)) w2∧Blk w2 G 5 (bl xs)∧Only (λk=>k=G) wm w2:=by
 by_cases h0:n=0
 ·subst h0
  have hx:xs=[]:=List.eq_nil_of_length_eq_zero hn;subst hx;exact⟨wm,run_copy_none (P:=prog) wm 23 23 3 5 _ _ 0 0 0 bc underlying23 Tryz.one5 rfl,hb,Only.refl _ _⟩
 ·obtain⟨ad,rfl,h2⟩:=hs (by omega)
  have hl:(bl xs).length=n:=by rw[Qs,hn]
  have h1:=run_copy_row (P:=prog) wm 23 23 3 5 G 0 n n ad n bc (bl (List.replicate n 0)).toArray 5 (bl xs) underlying23 Tryz.one5 hb (by rw[hl];exact (Nat.min_self n).symm) h2 (by simp[Qs,hn]) (Us xs)
  have e:(bl (List.replicate n 0)).toArray.toList.take 0++bl xs++(bl (List.replicate n 0)).toArray.toList.drop (0+(bl xs).length)=bl xs:=by
   rw[List.take_zero,List.nil_append,List.drop_of_length_le (by simp[Qs,hn]),List.append_nil]
  rw[e,hl] at h1;exact⟨_,h1,hb.row (bl xs),(Only.refl (λk=>k=G) wm).setRow (λ_=>rfl) _⟩
theorem As (vk vn vb:Value) (key nonce xs:LI) (ctr:Nat) (hc:ctr<4294967296) (k8:U8 key) (n8:U8 nonce) (x8:U8 xs) (hl:xs.length<=1000000000000) (w:World) (bk:Bs .u8 w vk key) (bn:Bs .u8 w vn nonce) (bb:Bs .u8 w vb xs) :
 Calls prog 119 #[vk,.int .u32 ctr,vn,vb] w λe w'=>∃v,e=.returned (.tuple #[v,.int .i64 (Wu key ctr nonce xs.length)])∧w'.ownsRow w.heap.size 5 1 v (UV key ctr nonce xs).length (bl (UV key ctr nonce xs))∧N0 w w':=by
 have h6:=Qa (And.intro bk bn);obtain⟨ao,kc,rfl⟩:=bk.len;obtain⟨bo,nc,rfl⟩:=bn.len;obtain⟨co,bc,rfl⟩:=bb.len;have A:=Qa (Hm ao bo key.length kc nonce.length nc w)
 by_cases h:KN key nonce
 ·have e1:decide (key.length=32∧nonce.length=12)=true:=Qe h
  rw[e1] at A;have BF:=Qa (MX xs.length hl w);obtain⟨q,hq⟩:=EX ((xs.length+63) / 64);rw[<-hq] at BF
  have hx:IntKind.u64.wrap (4294967296 - (ctr:Int))=((4294967296 - ctr:Nat):Int):=by simp[IntKind.wrap,IntKind.bits,IntKind.signed];omega
  have hcv:IntKind.u64.wrap (ctr:Int)=(ctr:Int):=by simp[IntKind.wrap,IntKind.bits,IntKind.signed];omega
  by_cases hf:fitsC ctr xs.length
  ·have EB:Wu key ctr nonce xs.length=0:=by unfold Wu;rw[if_pos h,if_pos hf]
   have EL:UV key ctr nonce xs=YA key ctr nonce xs:=by unfold UV;rw[if_pos h,if_pos hf]
   obtain⟨S,hS⟩:=EX (YA key ctr nonce xs);rw[EB,EL,<-hS];have HS:=Qa hS;clear hS
   have hgt:¬(((4294967296 - ctr:Nat):Int)<(q:Int)):=by unfold fitsC at hf;omega
   obtain⟨n,hn⟩:=EX xs.length
   have hl2:n<=1000000000000:=by rw[hn];exact hl
   obtain⟨wm,kd,hy,he⟩:=XN w n hl2;have HX:=Qa (And.intro hn (And.intro x8 (And.intro bb (And.intro hf (And.intro k8 n8)))));rw[<-hn] at BF ⊢;obtain⟨G,hG⟩:=EX w.heap.size;rw[<-hG] at kd hy
   have hs:Hid (∀j v,(bl xs)[j]? = some v->∃ad,co=some ad∧wm.cell? (ad.add j)=some v):=λj v hv=>by
    have hb:=bb.past he
    have hj:j<xs.length:=by have:=(List.getElem?_eq_some_iff.1 hv).1;rwa [Qs] at this
    obtain⟨b,off,cap,e,h3⟩:=hb.at j hj;simp at e;obtain⟨rfl,_⟩:=e;rw[bl_at xs j hj] at hv
    cases hv
    exact⟨_,rfl,by rw[Addr.add_mid];exact h3⟩
   have HP:Hid (0<(bl xs).length->∃ad,co=some ad∧∀j v,(bl xs)[j]? = some v->wm.cell? (ad.add j)=some v):=λhp=>by
    obtain⟨ad,rfl,_⟩:=hs.o 0 (bl xs)[0] (Qg hp);refine⟨ad,rfl,λj v hv=>?_⟩;obtain⟨ad',e,h3⟩:=hs.o j v hv
    cases e
    exact h3
   obtain⟨w2,hcp,ke,kf⟩:=N9 wm G n bc co xs hn.symm hy (λhp=>HP.o (by rw[Qs,<-hn];exact hp));have O2:Hid (N0 w w2):=he.trans kf (λi hi e=>by omega);have B2:=Qa ke;have ka:Hid (w.heap.size<=G∧w.heap.size=G):=⟨by omega,hG.symm⟩;have F:=Qa (λW (hw:N0 w W)=>Hj _ _ key nonce ctr h.1 h.2 k8 n8 W (h6.o.1.past hw) (h6.o.2.past hw))
   have OB:Hid (∀(W:World) (c:Nat),c<4294967296->Calls prog 162 #[.agg (wl (ccF key c nonce)).toArray] W λe w'=>e=.returned (.agg (bl (Q9 key c nonce)).toArray)∧N0 W w') :=
    λW c hc'=>Lq (ccF key c nonce) (WQ _ _ _) (T6 key k8 c hc' nonce n8) W
   have hzv:=(zero_of_info (P:=prog) Tryz.zero42).1;have k7:=(zero_of_info (P:=prog) Tryz.zero44).1;obtain⟨Z,hZ⟩:=EX zB;rw[<-hZ] at hzv;obtain⟨Y,hY⟩:=EX zW;rw[<-hY] at k7;have HZ:=Qa (And.intro hZ hY)
   have h8:Hid (∀c,(prog.info? 117).map (·.size)=some (bl (Q9 key c nonce)).toArray.size∧Z.toArray.size=(bl (Q9 key c nonce)).toArray.size∧(bl (Q9 key c nonce)).toArray.all (·.oneCell')=true):=by
    intro c;refine⟨?_,?_,?_⟩
    ·rw[Tryz.size42];simp[Qs,Kj]
    ·rw[hZ];simp[Qs,Kj,Xx]
    ·exact XE _
   have h7:Hid (∀c,(prog.info? 208).map (·.size)=some (wl (ccF key c nonce)).toArray.size∧Y.toArray.size=(wl (ccF key c nonce)).toArray.size∧(wl (ccF key c nonce)).toArray.all (·.oneCell')=true):=by
    intro c;refine⟨?_,?_,?_⟩
    ·rw[Tryz.size44];simp[QQ,WQ]
    ·rw[hY];simp[QQ,WQ,Ju]
    ·exact UB _
   have HKN:=Qa h;clear bk bn bb k8 n8 x8 h e1 EB EL hf hn hl hy hZ hY hq hs hG HP ke kf he;go_enter func119,ntmps119;go_wp2_with fail;refine A.o.mono ?_;rintro e w1 ⟨rfl,rfl⟩;go_wp2_with fail;refine BF.o.mono ?_;rintro e w1 ⟨rfl,rfl⟩;go_wp2_with fail;refine (F.o w2 O2.o).mono ?_;rintro e w3 ⟨rfl,o3⟩;have O3:=Qa (O2.o.same o3);have B3:=Qa (B2.o.past o3);clear o3 A BF F O2 B2 kd hcp hx hcv;go_wp2_with (first|(refine wpList_store_row rfl 208 (.tmp 11) (.tmp 34) rfl w3.heap.size (wl (ccF key ctr nonce)).toArray rfl rfl 208 Y.toArray (Blk.new w3 208 Y) (h7.o ctr).1 (h7.o ctr).2.1 (h7.o ctr).2.2 ?_));obtain⟨FB,k6⟩:=EX w3.heap.size
   have K4:Hid (Blk ((w3.alloc (.cells Y.toArray 208)).setRow w3.heap.size (wl (ccF key ctr nonce)).toArray) w3.heap.size 208 (wl (ccF key ((ctr+0) % 4294967296) nonce))∧Blk ((w3.alloc (.cells Y.toArray 208)).setRow w3.heap.size (wl (ccF key ctr nonce)).toArray) G 5 (bl (S.take (min n (64*0))++xs.drop (min n (64*0))))∧N0 w ((w3.alloc (.cells Y.toArray 208)).setRow w3.heap.size (wl (ccF key ctr nonce)).toArray)):=by
    have hg:=B3.o.lt;refine⟨?_,?_,(O3.o.alloc _).setRow (λh=>absurd h (by have:=O3.o.size;omega)) _⟩
    ·rw[Nat.add_zero,Nat.mod_eq_of_lt hc]
     exact (Blk.new w3 208 Y).row _
    ·rw[Nat.mul_zero,Nat.min_zero,List.take_zero,List.drop_zero,List.nil_append]
     exact (B3.o.alloc _).keep ((Only.refl (λk=>k=w3.heap.size) _).setRow (λ_=>rfl) _) (by omega)
   have k0:Hid (w.heap.size<=FB∧G≠FB):=by
    have:=B3.o.lt;have:=O3.o.size;exact⟨by omega,by omega⟩
   rw[<-k6] at K4 ⊢;obtain⟨W4,k9⟩:=EX ((w3.alloc (.cells Y.toArray 208)).setRow FB (wl (ccF key ctr nonce)).toArray);rw[<-k9] at K4 ⊢;obtain⟨CF,k5⟩:=EX (wl (ccF key ctr nonce));rw[<-k5];clear k9 k6 k5 O3 B3 k7
   go_loopw [12] (λo wr=>∃(k:Nat) (ro:Option Addr) (cap:Nat),o=.slice ro (n - min n (64*k)) cap∧(64*k<n->ro=some ⟨G,64*k,none⟩∧cap=n - 64*k)∧Blk wr FB 208 (wl (ccF key ((ctr+k) % 4294967296) nonce))∧Blk wr G 5 (bl (S.take (min n (64*k))++xs.drop (min n (64*k))))∧N0 w wr) (λo _=>slen o)
   case atStart=>exact⟨0,some ⟨G,0,none⟩,n,by rw[Nat.mul_zero,Nat.min_zero,Nat.sub_zero],λ_=>⟨rfl,rfl⟩,K4.o⟩
   case round =>
    obtain⟨k,ro,cap,rfl,hk,k1,k2,k3⟩:=hrel;clear K4
    by_cases hlt:64*k<n
    ·obtain⟨rfl,rfl⟩:=hk hlt
     have h0:min n (64*k)=64*k:=by omega
     rw[h0] at k2 ⊢
     have k4:ctr+k<4294967296:=by
      have h1:=HX.o.2.2.2.1;have h2:=HX.o.1;unfold fitsC at h1;omega
     rw[Nat.mod_eq_of_lt k4] at k1;obtain⟨m,hm⟩:=EX (n - 64*k);rw[<-hm];obtain⟨r,hr⟩:=EX (min m 64)
     have hm0:(0:Int)<(m:Int):=by omega
     have HK:=Qa (And.intro k1 (And.intro k2 k3));have ht:=Qa (And.intro hm hr)
     have hr1:(r:Int)<=(m:Int):=by omega
     have hr2:(0:Int)<=(r:Int):=by omega
     clear hk k1 k2 k3 h0 hm hr;go_wp2_with (first|(refine wpList_load_row rfl 208 (.tmp 11) rfl FB rfl 208 (wl (ccF key (ctr+k) nonce)).toArray (0,0) _ HK.o.1 underlying208 rfl (h7.o (ctr+k)).1 ?_));refine (OB.o wr (ctr+k) k4).mono ?_;rintro e w5 ⟨rfl,o5⟩;go_wp2_with (first|(refine wpList_store_row rfl 117 (.tmp 13) (.tmp 40) rfl w5.heap.size (bl (Q9 key (ctr+k) nonce)).toArray rfl rfl 117 Z.toArray (Blk.new w5 117 Z) (h8.o (ctr+k)).1 (h8.o (ctr+k)).2.1 (h8.o (ctr+k)).2.2 ?_)|(refine wpList_load_row rfl 117 (.tmp 13) rfl w5.heap.size rfl 117 (bl (Q9 key (ctr+k) nonce)).toArray (0,0) _ ((Blk.new w5 117 Z).row _) underlying117 rfl (h8.o (ctr+k)).1 ?_));obtain⟨W6,ha⟩:=EX ((w5.alloc (.cells Z.toArray 117)).setRow w5.heap.size (bl (Q9 key (ctr+k) nonce)).toArray)
     have K6:Hid (Blk W6 FB 208 (wl (ccF key (ctr+k) nonce))∧Blk W6 G 5 (bl (S.take (64*k)++xs.drop (64*k)))∧N0 w W6):=by
      have o6:N0 w5 W6:=by
       rw[ha];exact ((Only.refl _ _).alloc _).setRow (λh=>absurd h (Nat.lt_irrefl _)) _
      have hz:=o5.same o6;exact⟨HK.o.1.past hz,HK.o.2.1.past hz,HK.o.2.2.same hz⟩
     rw[<-ha];obtain⟨KS,hd⟩:=EX (Q9 key (ctr+k) nonce);have hh:=Qa hd;rw[<-hd];clear ha o5 HK hd;refine (BV G (64*k) m m r (S.take (64*k)) (xs.drop (64*k)) KS (by rw[Qf,HS.o,Wt,<-HX.o.1];omega) (by rw[Qo,<-HX.o.1,ht.o.1]) (by rw[hh.o,Kj]) ht.o.2 (HX.o.2.1.drop _) (by rw[hh.o];exact Jd _ _ _) W6 K6.o.2.1).mono ?_;rintro e w7 ⟨rfl,b7,o7⟩;have h9:=ht.o
     have E7:min n (64*(k+1))=64*k+r:=by omega
     have K7:Hid (Blk w7 FB 208 (wl (ccF key (ctr+k) nonce))∧Blk w7 G 5 (bl (S.take (min n (64*(k+1)))++xs.drop (min n (64*(k+1)))))∧N0 w w7):=by
      refine⟨K6.o.1.keep o7 (λe=>k0.o.2 e.symm),?_,K6.o.2.2.trans o7 (λi hi e=>by have:=ka.o.1;omega)⟩;rw[E7,HS.o,FE key ctr nonce xs k r (by rw[<-HX.o.1];exact hlt) (by rw[<-HX.o.1,<-h9.1];exact h9.2),<-HS.o,<-hh.o,List.append_assoc,<-List.drop_drop];exact b7
     have hcc:w7.cell? ⟨FB,12,none⟩=some (.int .u32 ((ctr+k:Nat):Int)):=by
      rw[K7.o.1.cell,wl_at _ _ (by rw[WQ];decide),qH]
     have hfz:=K7.o.1.froz 12;have ho:=EY ctr k;rw[Nat.mod_eq_of_lt k4] at ho;obtain⟨cn,h5⟩:=EX ((ctr+(k+1)) % 4294967296);rw[<-h5] at ho
     have K8:Hid (Blk (w7.setCell ⟨FB,12,none⟩ (.int .u32 (cn:Int))) FB 208 (wl (ccF key ((ctr+(k+1)) % 4294967296) nonce))∧Blk (w7.setCell ⟨FB,12,none⟩ (.int .u32 (cn:Int))) G 5 (bl (S.take (min n (64*(k+1)))++xs.drop (min n (64*(k+1)))))∧N0 w (w7.setCell ⟨FB,12,none⟩ (.int .u32 (cn:Int)))):=by
      have oc:=(Only.refl (λk=>k=FB) w7).setCell (p:=⟨FB,12,none⟩) (λ_=>rfl) (.int .u32 (cn:Int));refine⟨?_,K7.o.2.1.keep oc k0.o.2,K7.o.2.2.trans oc (λi hi e=>by have:=k0.o.1;omega)⟩;have h:=K7.o.1.set 12 (.int .u32 (cn:Int));rw[UP,wJ] at h;rw[<-h5];exact h
     obtain⟨cc,h4⟩:=EX (ctr+k);rw[<-h4] at hcc ho
     by_cases hlast:m=r
     ·have E8:Hid (n - min n (64*(k+1))=0∧¬64*(k+1)<n∧0<m):=⟨by omega,by omega,by omega⟩
      have hu:m - r=0:=by omega
      clear K6 K7 b7 o7 h9 E7 h5 h4;go_wp2
      go_roundw
      case rel=>exact⟨k+1,_,_,by rw[E8.o.1],λh=>absurd h E8.o.2.1,K8.o⟩
      case measure =>
       have:=E8.o.2.2;simp only[slen];omega
     ·have E8:Hid (n - min n (64*(k+1))=m - r∧64*(k+1)=64*k+r∧n - 64*(k+1)=m - r∧0<m∧0<r):=⟨by omega,by omega,by omega,by omega,by omega⟩
      clear K6 K7 b7 o7 h9 E7 h5 h4;go_wp2
      go_roundw
      case rel=>exact⟨k+1,_,_,by rw[E8.o.1],λh=>⟨by rw[E8.o.2.1],by rw[E8.o.2.2.1]⟩,K8.o⟩
      case measure =>
       have:=E8.o.2.2.2;simp only[slen];omega
    ·have h0:min n (64*k)=n:=by omega
     rw[h0] at k2 ⊢
     have F1:Hid (wr.ownsRow w.heap.size 5 1 (.slice (some ⟨G,0,none⟩) n n) S.length (bl S)):=by
      have h:=k2
      have kg:S.length=n:=by rw[HS.o,Wt,<-HX.o.1]
      rw[List.take_of_length_le (by rw[HS.o,Wt,<-HX.o.1];exact Nat.le_refl _),List.drop_of_length_le (by rw[<-HX.o.1];exact Nat.le_refl _),List.append_nil] at h
      show World.ownsRow _ _ _ _ _ _ _
      rw[kg];exact Hi h ka.o.1 (by unfold maxLen;omega) (by rw[Qs,kg])
     have F2:=Qa k3;rw[Nat.sub_self];clear hk k1 k2 k3 h0;go_wp2;go_ret2;exact⟨_,rfl,F1.o,F2.o⟩
  ·have EB:Wu key ctr nonce xs.length=4:=by unfold Wu;rw[if_pos h,if_neg hf]
   have EL:UV key ctr nonce xs=[]:=by unfold UV;rw[if_pos h,if_neg hf]
   rw[EB,EL]
   have hgt:((4294967296 - ctr:Nat):Int)<(q:Int):=by unfold fitsC at hf;omega
   obtain⟨n,hn⟩:=EX xs.length;rw[<-hn] at BF ⊢;clear bk bn bb k8 n8 x8 h e1 EB EL hf hn hl hq h6;go_enter func119,ntmps119;go_wp2_with fail;refine A.o.mono ?_;rintro e w1 ⟨rfl,rfl⟩;go_wp2_with fail;refine BF.o.mono ?_;rintro e w1 ⟨rfl,rfl⟩;go_wp2;go_ret2;exact⟨_,rfl,World.ownsRow_nil ..,Only.refl _ _⟩
 ·have e1:decide (key.length=32∧nonce.length=12)=false:=Qb h
  rw[e1] at A;have EB:Wu key ctr nonce xs.length=1:=if_neg h;have EL:UV key ctr nonce xs=[]:=if_neg h;rw[EB,EL];clear bk bn bb k8 n8 x8 h e1 EB EL hl h6;go_enter func119,ntmps119;go_wp2_with fail;refine A.o.mono ?_;rintro e w1 ⟨rfl,rfl⟩;go_wp2;go_ret2;exact⟨_,rfl,World.ownsRow_nil ..,Only.refl _ _⟩
def LV:List Nat->Nat
 | []=>0
 | x :: l=>x+67108864*LV l
theorem JW (a b:List Nat):LV (a++b)=LV a+67108864^a.length*LV b:=by
 induction a with
 | nil=>simp[LV]
 | cons d a ih =>
  simp only[List.cons_append,LV,ih,Qi,Nat.pow_succ];rw[Nat.mul_add,<-Nat.mul_assoc,Nat.mul_comm 67108864 (67108864^a.length)];omega
theorem JQ (s:List Nat) (i:Nat) (h:i<s.length):LV (s.take (i+1))=LV (s.take i)+67108864^i*s.getD i 0:=by
 rw[List.take_add_one,Qg h,Qd,Qg h,JW,Qf,Nat.min_eq_left (Nat.le_of_lt h)];simp[LV]
theorem Zn (s:List Nat) (i d:Nat) (h:i<s.length):LV (s.set i (s.getD i 0+d))=LV s+67108864^i*d:=by
 induction s generalizing i with
 | nil=>simp at h
 | cons x s ih =>
  cases i with
  | zero=>simp[LV];omega
  | succ i =>
   have:=ih i (by simpa using h);simp only[Qn,LV,List.getD_cons_succ,this,Nat.mul_add,Nat.pow_succ];rw[<-Nat.mul_assoc,Nat.mul_comm 67108864 (67108864^i)];omega
def LB (B:Nat) (s:List Nat):Prop:=∀j,s.getD j 0<B
theorem LB.mono {A B:Nat} {s:List Nat} (h:LB A s) (hb:A<=B):LB B s:=λj=>Nat.lt_of_lt_of_le (h j) hb
theorem LB.tail {B x:Nat} {s:List Nat} (h:LB B (x :: s)):LB B s:=λj=>by
 have:=h (j+1)
 rwa [List.getD_cons_succ] at this
theorem LB.head {B x:Nat} {s:List Nat} (h:LB B (x :: s)):x<B:=h 0
theorem LB.cons {B x:Nat} {s:List Nat} (h:x<B) (k:LB B s):LB B (x :: s):=λj=>by
 cases j with
 | zero=>exact h
 | succ j=>rw[List.getD_cons_succ];exact k j
theorem LB.nil {B:Nat} (h:0<B):LB B []:=λj=>by simpa using h
theorem Xs (s:List Nat) (i j x:Nat):(s.set i x).getD j 0=if i=j∧i<s.length then x else s.getD j 0:=by
 simp only[Qd,List.getElem?_set]
 by_cases h:i=j
 ·subst h
  by_cases h2:i<s.length
  ·simp[h2]
  ·simp[h2]
 ·simp[h]
theorem LB.set {B:Nat} {s:List Nat} (h:LB B s) (i x:Nat) (hx:x<B):LB B (s.set i x):=λj=>by
 rw[Xs]
 split
 ·exact hx
 ·exact h j
theorem LV_lt (s:List Nat) (h:LB 67108864 s):LV s<67108864^s.length:=by
 induction s with
 | nil=>simp[LV]
 | cons x s ih =>
  have h1:=h.head;have h2:=ih h.tail;simp only[LV,Qi,Nat.pow_succ];omega
def sdg:List Nat->Nat->List Nat
 | [],_=>[]
 | x :: l,c=>(x+c) % 67108864 :: sdg l ((x+c) / 67108864)
def scy:List Nat->Nat->Nat
 | [],c=>c
 | x :: l,c=>scy l ((x+c) / 67108864)
theorem YF (l:List Nat) (c:Nat):(sdg l c).length=l.length:=by
 induction l generalizing c with
 | nil=>rfl
 | cons x l ih=>simp[sdg,ih]
theorem Wi (l:List Nat) (c:Nat):LB 67108864 (sdg l c):=by
 induction l generalizing c with
 | nil=>exact LB.nil (by decide)
 | cons x l ih=>exact LB.cons (Nat.mod_lt _ (by decide)) (ih _)
theorem qV (l:List Nat) (c:Nat):LV (sdg l c)+67108864^l.length*scy l c=LV l+c:=by
 induction l generalizing c with
 | nil=>simp[LV,sdg,scy]
 | cons x l ih =>
  have h:=ih ((x+c) / 67108864);simp only[LV,sdg,scy,Qi,Nat.pow_succ];rw[Nat.mul_comm (67108864^l.length) 67108864,Nat.mul_assoc];omega
theorem Iq (l:List Nat) (x c:Nat):sdg (l++[x]) c=sdg l c++[(x+scy l c) % 67108864]:=by
 induction l generalizing c with
 | nil=>rfl
 | cons y l ih=>simp[sdg,scy,ih]
theorem Sd (l:List Nat) (x c:Nat):scy (l++[x]) c=(x+scy l c) / 67108864:=by
 induction l generalizing c with
 | nil=>rfl
 | cons y l ih=>simp[scy,ih]
theorem Vq (l:List Nat) (c:Nat) (h:LB 9223372036854775808 l) (hc:c<274877906944):scy l c<274877906944:=by
 induction l generalizing c with
 | nil=>exact hc
 | cons x l ih =>
  have:=h.head;exact ih _ h.tail (by omega)
theorem LB.take {B:Nat} {s:List Nat} (h:LB B s) (hB:0<B) (n:Nat):LB B (s.take n):=λj=>by
 simp only[Qd,List.getElem?_take]
 split
 ·have:=h j
  rwa [Qd] at this
 ·simpa using hB
theorem Zs:(67108864:Nat)^5=2^130:=by decide +kernel
theorem Wr (s:List Nat) (hs:s.length=5):LV (sdg s 0)+2^130*scy s 0=LV s∧LV (sdg s 0)<2^130:=by
 have h1:=qV s 0;have h2:=LV_lt _ (Wi s 0);rw[YF,hs,Zs] at h2;rw[hs,Zs] at h1;exact⟨h1,h2⟩
theorem Pk (s:List Nat) (hs:s.length=5) (h:LV s<2^130):scy s 0=0:=by
 have h1:=(Wr s hs).1;generalize scy s 0=c at *
 rcases c with _ | c
 ·rfl
 ·rw[Nat.mul_add] at h1;omega
theorem IJ (s:List Nat) (hs:s.length=5) (h:LV s<2^130):LV (sdg s 0)=LV s:=by
 have h1:=(Wr s hs).1;rw[Pk s hs h] at h1;omega
def pls (a b:List Nat):List Nat:=(List.range 5).map λi=>a.getD i 0+b.getD i 0
theorem Yw (a b:List Nat):(pls a b).length=5:=by simp[pls]
theorem WX (a b:List Nat) (i:Nat) (h:i<5):(pls a b).getD i 0=a.getD i 0+b.getD i 0:=by
 simp[pls,List.getD_eq_getElem?_getD,h]
theorem Mx (a:List Nat) (h:a.length=5):a=[a.getD 0 0,a.getD 1 0,a.getD 2 0,a.getD 3 0,a.getD 4 0]:=by
 rcases a with _ | ⟨a0,_ | ⟨a1,_ | ⟨a2,_ | ⟨a3,_ | ⟨a4,_ | ⟨a5,a⟩⟩⟩⟩⟩⟩ <;> simp at h
 rfl
theorem Ku (a:List Nat) (h:a.length=5):LV a=a.getD 0 0+67108864*(a.getD 1 0+67108864*(a.getD 2 0+67108864*(a.getD 3 0+67108864*a.getD 4 0))):=by
 have e:=congrArg LV (Mx a h);simp only[LV,Nat.mul_zero,Nat.add_zero] at e;exact e
theorem Xt (a b:List Nat) (ha:a.length=5) (hb:b.length=5):LV (pls a b)=LV a+LV b:=by
 rw[Ku _ (Yw a b),Ku a ha,Ku b hb];simp only[WX _ _ _ (show 0<5 by decide),WX _ _ _ (show 1<5 by decide),WX _ _ _ (show 2<5 by decide),WX _ _ _ (show 3<5 by decide),WX _ _ _ (show 4<5 by decide)];omega
theorem T0 (s:List Nat) (j:Nat) (h:s.length<=j):s.getD j 0=0:=by
 rw[Qd,List.getElem?_eq_none h];rfl
theorem Zq {A B C:Nat} {a b:List Nat} (ha:LB A a) (hb:LB B b) (hc:A+B<=C):LB C (pls a b):=λj=>by
 have h1:=ha j;have h2:=hb j
 by_cases h:j<5
 ·rw[WX _ _ _ h];omega
 ·rw[T0 _ _ (by rw[Yw];omega)];omega
theorem Vj (n B:Nat) (hB:0<B):LB B (List.replicate n 0):=λj=>by
 rw[Qd,List.getElem?_replicate]
 split <;> simpa using hB
def rawI (b:LI):Nat->List Nat
 | 0=>List.replicate 5 0
 | i+1=>(rawI b i).set (8*i / 26) ((rawI b i).getD (8*i / 26) 0+(b.getD i 0).toNat*2^(8*i % 26))
theorem Km (b:LI) (i:Nat):(rawI b i).length=5:=by
 induction i with
 | zero=>rfl
 | succ i ih=>simp[rawI,ih]
theorem DK (b:LI) (i:Nat) (hi:i<=17) (hb:i<=b.length):LV (rawI b i)=nv (b.take i):=by
 induction i with
 | zero=>simp[rawI,nv,LV]
 | succ i ih =>
  rw[rawI,Zn _ _ _ (by rw[Km];omega),ih (by omega) (by omega)]
  have e:b.take (i+1)=b.take i++[b.getD i 0]:=by
   rw[List.take_add_one,Qg (by omega),Qd,Qg (by omega)];rfl
  rw[e,Hb,Qf,Nat.min_eq_left (by omega)]
  congr 1
  rw[Nat.mul_comm (b.getD i 0).toNat,<-Nat.mul_assoc]
  congr 1
  rw[show (67108864:Nat)=2^26 from rfl,show (256:Nat)=2^8 from rfl,<-Nat.pow_mul,<-Nat.pow_mul,<-Nat.pow_add]
  congr 1
  omega
theorem Nd (b:LI) (h8:U8 b) (i:Nat):LB (8589934592*i+1) (rawI b i):=by
 induction i with
 | zero =>
  exact Vj _ _ (by decide)
 | succ i ih =>
  intro j;have h1:=h8.at i;have h2:=ih (8*i / 26);have h3:=ih j;have h4:(b.getD i 0).toNat*2^(8*i % 26)<=255*2^25:=Nat.mul_le_mul (by omega) (Nat.pow_le_pow_right (by decide) (by omega));rw[rawI,Xs]
  split <;> omega
def nmb (b:LI):List Nat:=sdg (rawI b b.length) 0
theorem Uq (b:LI):(nmb b).length=5:=by rw[nmb,YF,Km]
theorem KY (b:LI):LB 67108864 (nmb b):=Wi _ _
theorem XD (b:LI) (hl:b.length<=17) (h:nv b<2^130):LV (nmb b)=nv b:=by
 have e:=DK b b.length hl (Nat.le_refl _);rw[List.take_length] at e;rw[nmb,IJ _ (Km _ _) (by rw[e];exact h),e]
def wdI (a r:List Nat):Nat->List Nat
 | 0=>List.replicate 10 0
 | k+1=>(wdI a r k).set (k / 5+k % 5) ((wdI a r k).getD (k / 5+k % 5) 0+a.getD (k / 5) 0*r.getD (k % 5) 0)
theorem Z9 (a r:List Nat) (k:Nat):(wdI a r k).length=10:=by
 induction k with
 | zero=>rfl
 | succ i ih=>simp[wdI,ih]
theorem J5 (a r:List Nat) (ha:LB 134217728 a) (hr:LB 67108864 r) (k:Nat):LB (9007199254740992*k+1) (wdI a r k):=by
 induction k with
 | zero =>
  exact Vj _ _ (by decide)
 | succ k ih =>
  intro j;have h2:=ih (k / 5+k % 5);have h3:=ih j;have h5:=ha (k / 5);have h6:=hr (k % 5);have h4:a.getD (k / 5) 0*r.getD (k % 5) 0<=134217728*67108864:=Nat.mul_le_mul (by omega) (by omega);rw[wdI,Xs]
  split <;> omega
theorem uk (a r:List Nat) (ha:a.length=5) (hr:r.length=5) (k:Nat) (hk:k<=25) :
 LV (wdI a r k)=LV (a.take (k / 5))*LV r+67108864^(k / 5)*a.getD (k / 5) 0*LV (r.take (k % 5)):=by
 induction k with
 | zero=>simp[wdI,LV]
 | succ k ih =>
  have h1:=ih (by omega);rw[wdI,Zn _ _ _ (by rw[Z9];omega),h1];have hn:=JQ r (k % 5) (by omega)
  have e:67108864^(k / 5+k % 5)*(a.getD (k / 5) 0*r.getD (k % 5) 0)=67108864^(k / 5)*a.getD (k / 5) 0*(67108864^(k % 5)*r.getD (k % 5) 0):=by
   rw[Nat.pow_add];generalize 67108864^(k / 5)=A;generalize 67108864^(k % 5)=B;generalize a.getD (k / 5) 0=x;generalize r.getD (k % 5) 0=y;rw[Nat.mul_assoc,Nat.mul_assoc,Nat.mul_left_comm B]
  rw[e,Nat.add_assoc,<-Nat.mul_add,<-hn]
  by_cases h5:k % 5=4
  ·have e1:(k+1) / 5=k / 5+1:=by omega
   have e2:(k+1) % 5=0:=by omega
   have e3:r.take (k % 5+1)=r:=List.take_of_length_le (by omega);have e4:LV (r.take 0)=0:=rfl;rw[e1,e2,e3,e4,JQ a (k / 5) (by omega),Nat.add_mul,Nat.mul_zero,Nat.add_zero]
  ·have e1:(k+1) / 5=k / 5:=by omega
   have e2:(k+1) % 5=k % 5+1:=by omega
   rw[e1,e2]
theorem wd_LV (a r:List Nat) (ha:a.length=5) (hr:r.length=5):LV (wdI a r 25)=LV a*LV r:=by
 have h:=uk a r ha hr 25 (by decide);rw[show 25 / 5=5 from rfl,show 25 % 5=0 from rfl,List.take_of_length_le (by omega)] at h
 simpa [LV] using h
def otr (W:List Nat):List Nat:=(List.range 5).map λi=>W.getD i 0+5*W.getD (i+5) 0
theorem KD (W:List Nat):(otr W).length=5:=by simp[otr]
theorem Kc (W:List Nat) (i:Nat) (h:i<5):(otr W).getD i 0=W.getD i 0+5*W.getD (i+5) 0:=by
 simp[otr,List.getD_eq_getElem?_getD,h]
theorem It {B:Nat} {W:List Nat} (h:LB B W) (hB:0<B):LB (6*B) (otr W):=λj=>by
 by_cases hj:j<5
 ·have h1:=h j
  have h2:=h (j+5);rw[Kc _ _ hj];omega
 ·rw[T0 _ _ (by rw[KD];omega)];omega
theorem yN (W:List Nat) (hW:W.length=10):LV (otr W) % PP=LV W % PP:=by
 have h1:LV W=LV (W.take 5)+2^130*LV (W.drop 5):=by
  have h:=JW (W.take 5) (W.drop 5);rw[List.take_append_drop,Qf,hW,show min 5 10=5 from rfl,Zs] at h;exact h
 have a1:(W.take 5).length=5:=by rw[Qf,hW];rfl
 have a2:(W.drop 5).length=5:=by rw[Qo,hW]
 have t (i:Nat) (hi:i<5):(W.take 5).getD i 0=W.getD i 0:=by
  simp[List.getD_eq_getElem?_getD,hi]
 have d (i:Nat):(W.drop 5).getD i 0=W.getD (i+5) 0:=by
  simp[List.getD_eq_getElem?_getD,List.getElem?_drop,Nat.add_comm]
 have h2:LV (otr W)=LV (W.take 5)+5*LV (W.drop 5):=by
  rw[Ku _ (KD W),Ku _ a1,Ku _ a2]
  simp only[Kc _ _ (show 0<5 by decide),Kc _ _ (show 1<5 by decide),Kc _ _ (show 2<5 by decide),Kc _ _ (show 3<5 by decide),Kc _ _ (show 4<5 by decide),
   t 0 (by decide),t 1 (by decide),t 2 (by decide),t 3 (by decide),t 4 (by decide),d]
  omega
 rw[h1,h2,Rk]
def crr (s:List Nat):List Nat:=(sdg s 0).set 0 ((sdg s 0).getD 0 0+5*scy s 0)
theorem Za (s:List Nat):(crr s).length=s.length:=by rw[crr,List.length_set,YF]
theorem Xo (s:List Nat) (hs:s.length=5):LV (crr s)=LV (sdg s 0)+5*scy s 0:=by
 rw[crr,Zn _ _ _ (by rw[YF,hs];decide),Nat.pow_zero,Nat.one_mul]
theorem Mw (s:List Nat) (hs:s.length=5):LV (crr s) % PP=LV s % PP:=by
 rw[Xo s hs,Rk,(Wr s hs).1]
theorem OT (s:List Nat) (h:LB 9223372036854775808 s):LB 4398046511104 (crr s):=by
 have h1:=Vq s 0 h (by decide);have h2:=Wi s 0 0;exact ((Wi s 0).mono (by decide)).set _ _ (by omega)
theorem yx (s:List Nat) (hs:s.length=5) (h:LB 9223372036854775808 s):LV (crr s)<2^130+2199023255552:=by
 have h1:=Vq s 0 h (by decide);have h2:=(Wr s hs).2;rw[Xo s hs];omega
theorem MF (s:List Nat) (hs:s.length=5) (h:LV s<2^130+2199023255552):LV (crr s)<2^130:=by
 have h1:=Wr s hs;rw[Xo s hs]
 have h3:(2:Nat)^130=1361129467683753853853498429727072845824:=by decide +kernel
 rw[h3] at *;omega
theorem I7 (s:List Nat) (hs:s.length=5) (h:LV s<2^130):crr s=sdg s 0:=by
 rw[crr,Pk s hs h,Nat.mul_zero,Nat.add_zero];have hl:=YF s 0;rw[hs] at hl;generalize sdg s 0=t at *
 rcases t with _ | ⟨x,t⟩
 ·rfl
 ·rfl
def crI:Nat->List Nat->List Nat
 | 0,s=>s
 | k+1,s=>crr (crI k s)
theorem Vo (k:Nat) (s:List Nat):(crI k s).length=s.length:=by
 induction k with
 | zero=>rfl
 | succ k ih=>rw[crI,Za,ih]
theorem wY (k:Nat) (s:List Nat) (h:LB 9223372036854775808 s):LB 9223372036854775808 (crI k s):=by
 induction k with
 | zero=>exact h
 | succ k ih=>exact (OT _ ih).mono (by decide)
theorem Ab (k:Nat) (s:List Nat) (hs:s.length=5):LV (crI k s) % PP=LV s % PP:=by
 induction k with
 | zero=>rfl
 | succ k ih=>rw[crI,Mw _ (by rw[Vo,hs]),ih]
theorem yt (s:List Nat) (hs:s.length=5) (h:LB 9223372036854775808 s):LB 67108864 (crI 3 s):=by
 have h1:=yx s hs h;have h2:=MF (crr s) (by rw[Za,hs]) h1
 show LB 67108864 (crr (crr (crr s)))
 rw[I7 _ (by rw[Za,Za,hs]) h2];exact Wi _ _
def ptms (a r:List Nat):List Nat:=crI 3 (otr (wdI a r 25))
theorem Gh (a r:List Nat):(ptms a r).length=5:=by rw[ptms,Vo,KD]
theorem Ro (a r:List Nat) (ha:LB 134217728 a) (hr:LB 67108864 r):LB 9223372036854775808 (otr (wdI a r 25)):=(It (J5 a r ha hr 25) (by decide)).mono (by decide)
theorem Ch (a r:List Nat) (ha:LB 134217728 a) (hr:LB 67108864 r):LB 67108864 (ptms a r):=yt _ (KD _) (Ro a r ha hr)
theorem wE (a r:List Nat) (ha:a.length=5) (hr:r.length=5):LV (ptms a r) % PP=LV a*LV r % PP:=by
 rw[ptms,Ab _ _ (KD _),yN _ (Z9 _ _ _),wd_LV a r ha hr]
def pby (xs:LI) (k:Nat):LI:=((xs.drop (16*k)).take 16++[1])++List.replicate (16 - min 16 (xs.length - 16*k)) 0
theorem XY (xs:LI) (k:Nat):(pby xs k).length=17:=by
 simp only[pby,Qc,Qf,Qo,List.length_replicate,List.length_singleton];omega
theorem IL (xs:LI) (h8:U8 xs) (k:Nat):U8 (pby xs k):=by
 refine (((h8.drop _).take _).app (λy hy=>by simp at hy;omega)).app (λy hy=>?_);have:=List.eq_of_mem_replicate hy;omega
theorem RK (xs:LI) (k:Nat):nv (pby xs k)=piece xs k:=by
 rw[pby,L6,Mp,Hb,piece,Qf,Qo];simp
theorem Iy (xs:LI) (h8:U8 xs) (k:Nat):piece xs k<2^130:=by
 have h1:=nv_lt _ ((h8.drop (16*k)).take 16);have h2:256^((xs.drop (16*k)).take 16).length<=256^16:=Nat.pow_le_pow_right (by decide) (by rw[Qf];omega);have h3:256^(min 16 (xs.length - 16*k))<=256^16:=Nat.pow_le_pow_right (by decide) (by omega)
 have h4:(256:Nat)^16+256^16<2^130:=by decide +kernel
 unfold piece;omega
def gth (r:List Nat) (xs:LI):Nat->List Nat
 | 0=>List.replicate 5 0
 | k+1=>ptms (pls (gth r xs k) (nmb (pby xs k))) r
theorem U6 (r:List Nat) (xs:LI) (k:Nat):(gth r xs k).length=5:=by
 cases k with
 | zero=>rfl
 | succ k=>exact Gh _ _
theorem J1 (r:List Nat) (xs:LI) (hr:LB 67108864 r) (k:Nat):LB 67108864 (gth r xs k):=by
 induction k with
 | zero=>exact Vj _ _ (by decide)
 | succ k ih=>exact Ch _ _ (Zq ih (KY _) (by decide)) hr
theorem Oi (r:List Nat) (xs:LI) (hr:r.length=5) (h8:U8 xs) (k:Nat):LV (gth r xs k) % PP=pacc (LV r) xs k:=by
 induction k with
 | zero=>simp[gth,pacc,LV]
 | succ k ih =>
  rw[gth,wE _ _ (Yw _ _) hr,Xt _ _ (U6 _ _ _) (Uq _),XD _ (by rw[XY];decide) (by rw[RK];exact Iy xs h8 k),RK,pacc,<-ih,Nat.mul_mod,Nat.mul_mod (LV (gth r xs k) % PP+piece xs k),Nat.mod_add_mod]
def lst (a:List Nat):List Nat:=sdg (a.set 0 (a.getD 0 0+5*scy (pls a [5,0,0,0,0]) 0)) 0
theorem VO (a:List Nat) (h:a.length=5):(lst a).length=5:=by rw[lst,YF,List.length_set,h]
theorem Rw (a:List Nat):LB 67108864 (lst a):=Wi _ _
theorem Ak (a:List Nat) (ha:a.length=5) (hb:LB 67108864 a):LV (lst a)=LV a % PP:=by
 have h1:=LV_lt a hb;rw[ha,Zs] at h1;have h2:=Wr (pls a [5,0,0,0,0]) (Yw _ _);rw[Xt a _ ha rfl,show LV [5,0,0,0,0]=5 from rfl] at h2;have h3:=Wr (a.set 0 (a.getD 0 0+5*scy (pls a [5,0,0,0,0]) 0)) (by rw[List.length_set,ha]);rw[Zn _ _ _ (by rw[ha];decide),Nat.pow_zero,Nat.one_mul] at h3;rw[Me _ h1];have hp:=Jp;unfold lst;generalize sdg (a.set 0 (a.getD 0 0+5*scy (pls a [5,0,0,0,0]) 0)) 0=t at *;generalize scy (a.set 0 (a.getD 0 0+5*scy (pls a [5,0,0,0,0]) 0)) 0=d at *;generalize scy (pls a [5,0,0,0,0]) 0=c at *;generalize sdg (pls a [5,0,0,0,0]) 0=u at *
 have e:(2:Nat)^130=1361129467683753853853498429727072845824:=by decide +kernel
 rw[e] at *
 split <;> omega
def ul (s:List Nat):List Value:=s.map λx=>Value.int .u64 ((x:Nat):Int)
theorem QS (s:List Nat):(ul s).length=s.length:=List.length_map ..
theorem ul_at (s:List Nat) (j:Nat) (h:j<s.length):(ul s)[j]? = some (.int .u64 ((s.getD j 0:Nat):Int)):=by
 simp[ul,List.getD_eq_getElem?_getD,List.getElem?_eq_getElem h]
theorem Rx (s:List Nat):∀v∈ul s,v.oneCell'=true:=by
 intro u hu;simp[ul] at hu;obtain⟨x,_,rfl⟩:=hu;rfl
theorem Y9 (s:List Nat):(ul s).toArray.all (·.oneCell')=true:=all_oneCell_toArray (Rx s)
theorem W7 (s:List Nat) (i x:Nat):(ul s).set i (.int .u64 ((x:Nat):Int))=ul (s.set i x):=by
 simp[ul,List.map_set]
theorem X0 (s:LI) (i:Nat) (x:Int):(bl s).set i (.int .u8 x)=bl (s.set i x):=by simp[bl,List.map_set]
theorem Tryz.size34:(prog.info? 213).map (·.size)=some 5:=by kernel_rfl
theorem Tryz.agg32 (w:World):(isAgg 24).run prog w=.ok false w:=by kernel_rfl
theorem Tryz.one32:(prog.info? 24).map (·.size)=some 1:=by kernel_rfl
def z5:List Value:=ul (List.replicate 5 0)
def z10:List Value:=ul (List.replicate 10 0)
theorem Tryz.zero34:(prog.info? 213).map (λi=>(i.zero,i.size))=some (some (.agg z5.toArray),5):=by kernel_rfl
theorem Tryz.zero53:(prog.info? 261).map (λi=>(i.zero,i.size))=some (some (.agg z10.toArray),10):=by kernel_rfl
theorem Uz:z5.length=5:=rfl
theorem YJ (s:List Nat) (h:s.length=5):(prog.info? 213).map (·.size)=some (ul s).toArray.size:=by simp[QS,h,Tryz.size34]
theorem ix_u5 (s:List Nat) (hs:s.length=5) (j:Nat) (hj:j<5) (w:World):(Instr.index 213 (.agg (ul s).toArray) (.int .i64 j)).run prog w=.ok (.int .u64 ((s.getD j 0:Nat):Int)) w :=
 WN 213 24 5 (ul s) j _ underlying213 Tryz.agg32 Tryz.one32 hj (ul_at s j (by omega)) w
theorem IG {P:Program} {fn:Func} {p u:Tmp} {ty:TypeId} (h:fn.results=#[.cell p ty,.tmp u]) (tmps:Array Value) (w:World) (g:Nat) (t:TypeId) (cs:Array Value) (fr:Nat × Nat) (d:TypeDesc)
 (hp:tmps.getD p undef=.pointer (some ⟨g,0,none⟩)) (hg:w.heap[g]? = some (.cells cs t fr))
 (hu:P.underlying ty=some d) (hd:(match d with | .struct _ | .array _ _=>true | _=>false)=true) (hi:(P.info? ty).map (·.size)=some cs.size) :
 (results fn tmps).run P w=.ok (.tuple #[.agg cs,tmps.getD u undef]) w:=by
 have hp':tmps[p]?.getD undef=.pointer (some ⟨g,0,none⟩):=by simpa using hp
 simp[results,h,hp',asAddr,run_loadVar_row w g t ty cs fr d hg hu hd hi]
theorem wrap64 (n:Nat) (h:n<18446744073709551616):IntKind.u64.wrap (n:Int)=(n:Int):=by rw[IntKind.wrap_u64];omega
theorem and26 (v:Nat) (h:v<18446744073709551616):bits .and .u64 (v:Int) 67108863=((v % 67108864:Nat):Int):=by
 rw[show (67108863:Int)=((67108863:Nat):Int) from rfl,u64_and_nat _ _ h (by decide),show (67108863:Nat)=2^26 - 1 from rfl,Nat.and_two_pow_sub_one_eq_mod]
theorem Md (w:World) (G i:Nat) (t:TypeId) (cs:List Value) (h:Blk w G t cs) (hi:i<cs.length) (v:Value):(w.setCell ⟨G,i,none⟩ v).cell? ⟨G,i,none⟩=some v:=by
 rw[(h.set i v).cell,List.getElem?_set_self (by simpa using hi)]
theorem A8 (s:List Nat) (i:Nat) (hi:i<s.length):(sdg (s.take i) 0++s.drop i).set i ((s.getD i 0+scy (s.take i) 0) % 67108864)=sdg (s.take (i+1)) 0++s.drop (i+1):=by
 have hl:(sdg (s.take i) 0).length=i:=by rw[YF,Qf];omega
 rw[VJ s i hi,Iq,List.set_append_right _ _ (by omega),hl,Nat.sub_self,List.drop_eq_getElem_cons hi,Qj,List.append_assoc]
 rfl
theorem IU (s:List Nat) (i:Nat) (hi:i<s.length):(sdg (s.take i) 0++s.drop i).getD i 0=s.getD i 0:=by
 have hl:(sdg (s.take i) 0).length=i:=by rw[YF,Qf];omega
 simp only[Qd];rw[List.getElem?_append_right (by omega),hl,Nat.sub_self,List.getElem?_drop,Nat.add_zero]
theorem Vn (s:List Nat) (hs:s.length=5) (hb:LB 9223372036854775808 s) (w:World) :
 Calls prog 166 #[.agg (ul s).toArray] w λe w'=>e=.returned (.tuple #[.agg (ul (sdg s 0)).toArray,.int .u64 (scy s 0:Nat)])∧N0 w w':=by
 have hg:=(zero_of_info (P:=prog) Tryz.zero34).1;obtain⟨Z,hZ⟩:=EX z5;rw[<-hZ] at hg;obtain⟨D,hD⟩:=EX (ul (sdg s 0))
 have h9:Hid ((prog.info? 213).map (·.size)=some D.toArray.size):=by
  show _=_
  rw[hD];simp[QS,YF,hs,Tryz.size34]
 have HZ2:Hid (Z.toArray.size=D.toArray.size):=by
  show _=_
  rw[hD,hZ];simp[QS,YF,hs,Uz]
 have HA:Hid (D.toArray.all (·.oneCell')=true):=by
  show _=_
  rw[hD];exact Y9 _
 rw[<-hD];have HD:=Qa hD;have HS:=Qa (And.intro hs hb);obtain⟨B,hB⟩:=EX (ul s);have HB:=Qa hB;rw[<-hB];obtain⟨C,hC⟩:=EX (scy s 0);rw[<-hC];have HC:=Qa hC;clear hZ hD hB hC hs hb;go_enter func166,ntmps166;go_wp2_with fail
 have S0:Hid (Blk ((w.alloc (.cells B.toArray 213)).alloc (.cells Z.toArray 213)) w.heap.size 213 (ul (sdg (s.take 0) 0++s.drop 0))):=by
  show Blk _ _ _ (ul s)
  rw[<-HB.o];exact (Blk.new w 213 B).alloc _
 have R0:Hid (Blk ((w.alloc (.cells B.toArray 213)).alloc (.cells Z.toArray 213)) (w.heap.size+1) 213 Z):=by
  have:=Blk.new (w.alloc (.cells B.toArray 213)) 213 Z;rw[size_alloc] at this;exact this
 have O0:Hid (N0 w ((w.alloc (.cells B.toArray 213)).alloc (.cells Z.toArray 213))):=((Only.refl _ _).alloc _).alloc _;obtain⟨G,hG⟩:=EX w.heap.size;obtain⟨R,hR⟩:=EX (w.heap.size+1);obtain⟨W0,h3⟩:=EX ((w.alloc (.cells B.toArray 213)).alloc (.cells Z.toArray 213));rw[<-hG,<-h3] at S0;rw[<-hR,<-h3] at R0;rw[<-h3] at O0;rw[<-hR,<-hG,<-h3];have HG:Hid (w.heap.size<=G∧w.heap.size<=R∧R≠G):=⟨by omega,by omega,by omega⟩;clear hG hR h3 hg
 go_loopw [4,6] (λc i wr=>∃n:Nat,n<=5∧i=.int .i64 n∧c=.int .u64 (scy (s.take n) 0:Nat)∧Blk wr G 213 (ul (sdg (s.take n) 0++s.drop n))∧Blk wr R 213 Z∧N0 w wr) (λ_ i _=>5 - (intOf i).toNat)
 case atStart=>exact⟨0,by omega,rfl,rfl,S0.o,R0.o,O0.o⟩
 case round =>
  obtain⟨n,hn,rfl,rfl,hS,hR,hO⟩:=hrel;clear S0 R0 O0
  by_cases hlt:n<5
  ·have h4:n<s.length:=by rw[HS.o.1];exact hlt
   have h5:(sdg (s.take n) 0++s.drop n).length=5:=by
    rw[Qc,YF,Qf,Qo,HS.o.1];omega
   have hx:=HS.o.2 n;have he:=Vq (s.take n) 0 (HS.o.2.take (by decide) n) (by decide)
   have hc:wr.cell? ⟨G,n,none⟩=some (.int .u64 ((s.getD n 0:Nat):Int)):=by
    rw[hS.cell,ul_at _ _ (by rw[h5];exact hlt),IU s n h4]
   have hf:=hS.froz n;have h2:=A8 s n h4
   have h1:scy (s.take (n+1)) 0=(s.getD n 0+scy (s.take n) 0) / 67108864:=by rw[VJ s n h4,Sd]
   obtain⟨x,hh⟩:=EX (s.getD n 0);obtain⟨c,h6⟩:=EX (scy (s.take n) 0);rw[<-hh] at hc h2 h1 hx;rw[<-h6] at h2 h1 he;rw[<-h6];obtain⟨v,hv⟩:=EX (x+c);rw[<-hv] at h2 h1
   have h0:v<18446744073709551616:=by omega
   have hadd:IntKind.u64.wrap ((x:Int)+(c:Int))=(v:Int):=by
    rw[show ((x:Int)+(c:Int))=((v:Nat):Int) by omega,wrap64 v h0]
   have h7:=and26 v h0;obtain⟨d,hd⟩:=EX (v % 67108864);obtain⟨q,hq⟩:=EX (v / 67108864);rw[<-hd] at h7 h2;rw[<-hq] at h1
   have hqq:(v:Int) / 67108864=(q:Int):=by omega
   have ha:=hS.set n (.int .u64 (v:Int));have hc1:=Md wr G n 213 _ hS (by rw[QS,h5];exact hlt) (.int .u64 (v:Int));have hf1:=ha.froz n;have h8:=ha.set n (.int .u64 (d:Int));rw[List.set_set,W7,h2] at h8
   have N1:Hid (Blk ((wr.setCell ⟨G,n,none⟩ (.int .u64 (v:Int))).setCell ⟨G,n,none⟩ (.int .u64 (d:Int))) G 213 (ul (sdg (s.take (n+1)) 0++s.drop (n+1)))∧Blk ((wr.setCell ⟨G,n,none⟩ (.int .u64 (v:Int))).setCell ⟨G,n,none⟩ (.int .u64 (d:Int))) R 213 Z∧N0 w ((wr.setCell ⟨G,n,none⟩ (.int .u64 (v:Int))).setCell ⟨G,n,none⟩ (.int .u64 (d:Int)))):=by
    have oc:=((Only.refl (λk=>k=G) wr).setCell (p:=⟨G,n,none⟩) (λ_=>rfl) (.int .u64 (v:Int))).setCell (p:=⟨G,n,none⟩) (λ_=>rfl) (.int .u64 (d:Int));exact⟨h8,hR.keep oc HG.o.2.2,hO.trans oc (λi hi e=>by have:=HG.o.1;omega)⟩
   have HCN:=Qa h1
   have i1:(n:Int)<5:=by omega
   clear hS hR hO h5 h4 hx he h2 hh h6 hv hd hq ha h8 h1 h0;go_wp2
   go_roundw
   case rel=>exact⟨n+1,by omega,by go_num,by rw[HCN.o],N1.o.1,N1.o.2.1,N1.o.2.2⟩
   case measure=>simp[intOf];omega
  ·obtain rfl:n=5:=by omega
   have S2:Hid (Blk wr G 213 D):=by
    have h:=hS;rw[List.take_of_length_le (by rw[HS.o.1];exact Nat.le_refl _),List.drop_of_length_le (by rw[HS.o.1];exact Nat.le_refl _),List.append_nil,<-HD.o] at h;exact h
   have R2:=Qa hR;have O2:=Qa hO
   have E1:scy (s.take 5) 0=C:=by rw[List.take_of_length_le (by rw[HS.o.1];exact Nat.le_refl _),HC.o]
   rw[E1];clear hS hR hO E1;go_wp2_with (first|(refine wpList_load_row rfl 213 (.tmp 1) rfl G rfl 213 D.toArray (0,0) _ S2.o underlying213 rfl h9.o ?_)|(refine wpList_store_row rfl 213 (.tmp 2) (.tmp 25) rfl R D.toArray rfl rfl 213 Z.toArray R2.o h9.o HZ2.o HA.o ?_));refine bodyPost_ret (IG rfl _ _ R 213 D.toArray (0,0) _ rfl (R2.o.row D) underlying213 rfl h9.o) rfl ⟨rfl,?_⟩;exact O2.o.setRow (λh=>absurd h (by have:=HG.o.2.1;omega)) _
end Go.Proofs.YtoflhbghdlaeaaaGreatDoor
