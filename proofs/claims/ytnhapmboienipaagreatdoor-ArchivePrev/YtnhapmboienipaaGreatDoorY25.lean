import Derived.Test.YtnhapmboienipaaGreatDoorY24
import Derived.Laws.CopyOwn
import Derived.Test.YtnhapmboienipaaGreatDoorY22
import Derived.Test.YtnhapmboienipaaGreatDoorY5
namespace Go.Proofs.YtnhapmboienipaaGreatDoor
set_option maxHeartbeats 1600000
set_option maxRecDepth 100000
open Go.RowKit _root_.Go.Proofs.Tryz
def SRt (key:List Int) (ctr:Nat) (nonce xs:List Int):List Int:=if KN key nonce then (if fitsC ctr xs.length then STR key ctr nonce xs else []) else []
def SRe (key:List Int) (ctr:Nat) (nonce:List Int) (n:Nat):Int:=if KN key nonce then (if fitsC ctr n then 0 else 4) else 1
theorem QjL (w:World) (n:Nat) (hn:n≤1000000000000):∃wm,(Instr.makeSlice 22 (.int .i64 (n:Int)) (.int .i64 (n:Int))).run prog w=.ok (.slice (some ⟨w.heap.size,0,none⟩) n n) wm∧Blk wm w.heap.size 5 (bl (List.replicate n 0))∧Only (fun _=>False) w wm:=by
 obtain ⟨i0,hi,hz0,hz1,hz2⟩:=info_parts Tryz.infoU8;obtain ⟨wm,hmk,hown,hgr⟩:=run_make_full (P:=prog) w w.heap.size 22 5 i0 (.int .u8 0) 1 underlying22 hi hz0 hz1 .i64 .i64 n (by rw [hz2];omega) (by unfold maxLen;omega) (Nat.le_refl _);refine ⟨wm,hmk,?_,(Only.refl _ _).grown hgr (fun k _ e=>by cases e)⟩
 rcases hown.2 with ⟨h',_⟩ | ⟨g',cap',cur,h',_,hg,_,_,hcs,ht⟩
 ·simp at h'
 ·simp only [Value.slice.injEq,Option.some.injEq,Addr.mk.injEq,and_true,true_and] at h'
  obtain ⟨rfl,rfl⟩:=h'
  have e1:cur=(bl (List.replicate n 0)).toArray:=by
   apply Array.toList_inj.1
   rw [List.take_of_length_le (by simp;omega)] at ht;rw [ht,Nat.mul_one,show (Value.int .u8 0).cells=#[.int .u8 0] from rfl,toList_madeCells_one];simp [bl]
  rw [e1] at hg;exact hg
theorem Qp3 (key:List Int) (ctr:Nat) (nonce xs:List Int) (k r:Nat) (hk:64*k<xs.length) (hr:r=min (xs.length - 64*k) 64) :
  (STR key ctr nonce xs).take (64*k+r)=(STR key ctr nonce xs).take (64*k)++xorL ((xs.drop (64*k)).take r) ((BLK key (ctr+k) nonce).take r):=by
 have hB:=QcU key (ctr+k) nonce;have hS:=Qcf key ctr nonce xs
 have hx:(xorL ((xs.drop (64*k)).take r) ((BLK key (ctr+k) nonce).take r)).length=r:=by
  rw [QdX,Yag,Yag,Yai,hB];omega
 refine Qoj (by rw [Yae,hx,Yag,Yag,hS];omega) (fun i hi=>?_);rw [Yag,hS] at hi
 have e1:((STR key ctr nonce xs).take (64*k+r)).getD i 0=(STR key ctr nonce xs).getD i 0:=by
  rw [Yad,Yad,List.getElem?_take_of_lt (by omega)]
 rw [e1]
 by_cases h:i<64*k
 ·rw [Yad,Yad,List.getElem?_append_left (by rw [Yag,hS];omega),List.getElem?_take_of_lt h]
 ·have e2:((STR key ctr nonce xs).take (64*k)++xorL ((xs.drop (64*k)).take r) ((BLK key (ctr+k) nonce).take r)).getD i 0=(xorL ((xs.drop (64*k)).take r) ((BLK key (ctr+k) nonce).take r)).getD (i - 64*k) 0:=by
   rw [Yad,Yad,List.getElem?_append_right (by rw [Yag,hS];omega),Yag,hS,Nat.min_eq_left (by omega)]
  rw [e2,QqA _ _ _ _ i (by omega)];unfold xorL ksb;rw [Yad (l:=List.zipWith _ _ _),Yaf (by unfold xorL at hx;rw [hx];omega),List.getElem_zipWith];simp only [List.getElem_take,List.getElem_drop,Option.getD_some];rw [show i / 64=k by omega,show i % 64=i - 64*k by omega,Yad,Yad,Yaf (by omega),Yaf (by omega)];simp only [Option.getD_some,show 64*k+(i - 64*k)=i by omega]
theorem Qs0 (key:List Int) (c:Nat) (nonce:List Int):(ccF key c nonce).getD 12 0=c:=by
 unfold ccF;rw [Yad,List.append_assoc,List.getElem?_append_right (by simp [ccW,QbK])];simp [ccW,QbK]
theorem Qs1 (key:List Int) (c d:Nat) (nonce:List Int):(ccF key c nonce).set 12 d=ccF key d nonce:=by
 unfold ccF
 have hl:(ccW++ldW key 8).length=12:=by simp [ccW,QbK]
 rw [List.append_assoc (ccW++ldW key 8),List.set_append_right _ _ (by omega),hl];simp
theorem Qp4 (c k:Nat):IntKind.u32.wrap (((c+k) % 4294967296:Nat)+1:Int)=(((c+(k+1)) % 4294967296:Nat):Int):=by
 rw [IntKind.wrap_u32'];omega
theorem Qp5 (wm:World) (G n bc:Nat) (co:Option Addr) (xs:List Int) (hn:xs.length=n) (hb:Blk wm G 5 (bl (List.replicate n 0))) (hs:0<n→∃ad,co=some ad∧∀j v,(bl xs)[j]? = some v→wm.cell? (ad.add j)=some v) :
  ∃w2,(Builtin.copy_ #[22,22] 3 #[.slice (some ⟨G,0,none⟩) n n,.slice co n bc]).run prog wm=.ok (.int .i64 (n:Int)) w2∧Blk w2 G 5 (bl xs)∧Only (fun k=>k=G) wm w2:=by
 by_cases h0:n=0
 ·subst h0
  have hx:xs=[]:=List.eq_nil_of_length_eq_zero hn;subst hx;exact ⟨wm,run_copy_none (P:=prog) wm 22 22 3 5 _ _ 0 0 0 bc underlying22 Tryz.one5 rfl,hb,Only.refl _ _⟩
 ·obtain ⟨ad,rfl,hsrc⟩:=hs (by omega)
  have hl:(bl xs).length=n:=by rw [Qal,hn]
  have hrun:=run_copy_row (P:=prog) wm 22 22 3 5 G 0 n n ad n bc (bl (List.replicate n 0)).toArray 5 (bl xs) underlying22 Tryz.one5 hb (by rw [hl];exact (Nat.min_self n).symm) hsrc (by simp [Qal,hn]) (Qb7 xs)
  have e:(bl (List.replicate n 0)).toArray.toList.take 0++bl xs++(bl (List.replicate n 0)).toArray.toList.drop (0+(bl xs).length)=bl xs:=by
   rw [List.take_zero,List.nil_append,List.drop_of_length_le (by simp [Qal,hn]),List.append_nil]
  rw [e,hl] at hrun;exact ⟨_,hrun,hb.row (bl xs),(Only.refl (fun k=>k=G) wm).setRow (fun _=>rfl) _⟩
theorem QkJ (vk vn vb:Value) (key nonce xs:List Int) (ctr:Nat) (hc:ctr<4294967296) (k8:U8 key) (n8:U8 nonce) (x8:U8 xs) (hl:xs.length≤1000000000000) (w:World) (bk:Bs .u8 w vk key) (bn:Bs .u8 w vn nonce) (bb:Bs .u8 w vb xs) :
  Calls prog 101 #[vk,.int .u32 ctr,vn,vb] w fun e w'=>∃v,e=.returned (.tuple #[v,.int .i64 (SRe key ctr nonce xs.length)])∧w'.ownsRow w.heap.size 5 1 v (SRt key ctr nonce xs).length (bl (SRt key ctr nonce xs))∧Only (fun _=>False) w w':=by
 have BKN:=Qaa (And.intro bk bn);obtain ⟨ao,kc,rfl⟩:=bk.len;obtain ⟨bo,nc,rfl⟩:=bn.len;obtain ⟨co,bc,rfl⟩:=bb.len;have A:=Qaa (QlZ ao bo key.length kc nonce.length nc w)
 by_cases h:KN key nonce
 ·have e1:decide (key.length=32∧nonce.length=12)=true:=Yaj h
  rw [e1] at A;have BF:=Qaa (QfI xs.length hl w);obtain ⟨q,hq⟩:∃q,q=(xs.length+63) / 64:=⟨_,rfl⟩;rw [←hq] at BF
  have hsub:IntKind.u64.wrap (4294967296 - (ctr:Int))=((4294967296 - ctr:Nat):Int):=by simp [IntKind.wrap,IntKind.bits,IntKind.signed];omega
  have hcv:IntKind.u64.wrap (ctr:Int)=(ctr:Int):=by simp [IntKind.wrap,IntKind.bits,IntKind.signed];omega
  by_cases hf:fitsC ctr xs.length
  ·have EB:SRe key ctr nonce xs.length=0:=by unfold SRe;rw [if_pos h,if_pos hf]
   have EL:SRt key ctr nonce xs=STR key ctr nonce xs:=by unfold SRt;rw [if_pos h,if_pos hf]
   obtain ⟨S,hS⟩:∃S,S=STR key ctr nonce xs:=⟨_,rfl⟩;rw [EB,EL,←hS];have HS:=Qaa hS;clear hS
   have hgt:¬(((4294967296 - ctr:Nat):Int)<(q:Int)):=by unfold fitsC at hf;omega
   obtain ⟨n,hn⟩:∃n,n=xs.length:=⟨_,rfl⟩
   have hl2:n≤1000000000000:=by rw [hn];exact hl
   obtain ⟨wm,hmk,hbm,hom⟩:=QjL w n hl2;have HX:=Qaa (And.intro hn (And.intro x8 (And.intro bb (And.intro hf (And.intro k8 n8)))));rw [←hn] at BF ⊢;obtain ⟨G,hG⟩:∃G,G=w.heap.size:=⟨_,rfl⟩;rw [←hG] at hmk hbm
   have HCP:Hid (∀j v,(bl xs)[j]? = some v→∃ad,co=some ad∧wm.cell? (ad.add j)=some v):=fun j v hv=>by
    have hb:=bb.past hom
    have hj:j<xs.length:=by have:=(List.getElem?_eq_some_iff.1 hv).1;rwa [Qal] at this
    obtain ⟨b,off,cap,e,hcell⟩:=hb.at j hj;simp at e;obtain ⟨rfl,_⟩:=e;rw [bl_at xs j hj] at hv
    cases hv
    exact ⟨_,rfl,by rw [Addr.add_mid];exact hcell⟩
   have HP:Hid (0<(bl xs).length→∃ad,co=some ad∧∀j v,(bl xs)[j]? = some v→wm.cell? (ad.add j)=some v):=fun hp=>by
    obtain ⟨ad,rfl,_⟩:=HCP.out 0 (bl xs)[0] (Yaf hp);refine ⟨ad,rfl,fun j v hv=>?_⟩;obtain ⟨ad',e,hcell⟩:=HCP.out j v hv
    cases e
    exact hcell
   obtain ⟨w2,hcp,hb2,ho2⟩:=Qp5 wm G n bc co xs hn.symm hbm (fun hp=>HP.out (by rw [Qal,←hn];exact hp));have O2:Hid (Only (fun _=>False) w w2):=hom.trans ho2 (fun i hi e=>by omega);have B2:=Qaa hb2;have HGG:Hid (w.heap.size≤G∧w.heap.size=G):=⟨by omega,hG.symm⟩;have F:=Qaa (fun (W:World) (hw:Only (fun _=>False) w W)=>QcP _ _ key nonce ctr h.1 h.2 k8 n8 W (BKN.out.1.past hw) (BKN.out.2.past hw))
   have OB:Hid (∀(W:World) (c:Nat),c<4294967296→Calls prog 140 #[.agg (wl (ccF key c nonce)).toArray] W fun e w'=>e=.returned (.agg (bl (BLK key c nonce)).toArray)∧Only (fun _=>False) W w') :=
    fun W c hc'=>Qeb (ccF key c nonce) (QcT _ _ _) (Qlq key k8 c hc' nonce n8) W
   have hzv:=(zero_of_info (P:=prog) Tryz.zero42).1;have hzw:=(zero_of_info (P:=prog) Tryz.zero44).1;obtain ⟨Z,hZ⟩:∃Z,Z=zB:=⟨_,rfl⟩;rw [←hZ] at hzv;obtain ⟨Y,hY⟩:∃Y,Y=zW:=⟨_,rfl⟩;rw [←hY] at hzw;have HZ:=Qaa (And.intro hZ hY)
   have HZ1:Hid (∀c,(prog.info? 145).map (·.size)=some (bl (BLK key c nonce)).toArray.size∧Z.toArray.size=(bl (BLK key c nonce)).toArray.size∧(bl (BLK key c nonce)).toArray.all (·.oneCell')=true):=by
    intro c;refine ⟨?_,?_,?_⟩
    ·rw [Tryz.size42];simp [Qal,QcU]
    ·rw [hZ];simp [Qal,QcU,Qlj]
    ·exact Qlk _
   have HY1:Hid (∀c,(prog.info? 183).map (·.size)=some (wl (ccF key c nonce)).toArray.size∧Y.toArray.size=(wl (ccF key c nonce)).toArray.size∧(wl (ccF key c nonce)).toArray.all (·.oneCell')=true):=by
    intro c;refine ⟨?_,?_,?_⟩
    ·rw [Tryz.size44];simp [Qaw,QcT]
    ·rw [hY];simp [Qaw,QcT,QnN]
    ·exact Qb8 _
   have HKN:=Qaa h;clear bk bn bb k8 n8 x8 h e1 EB EL hf hn hl hbm hZ hY hq HCP hG HP hb2 ho2 hom;go_enter func101,ntmps101;go_wp2_with fail;refine A.out.mono ?_;rintro e w1 ⟨rfl,rfl⟩;go_wp2_with fail;refine BF.out.mono ?_;rintro e w1 ⟨rfl,rfl⟩;go_wp2_with fail;refine (F.out w2 O2.out).mono ?_;rintro e w3 ⟨rfl,o3⟩;have O3:=Qaa (O2.out.same o3);have B3:=Qaa (B2.out.past o3);clear o3 A BF F O2 B2 hmk hcp hsub hcv;go_wp2_with (first|(refine wpList_store_row rfl 183 (.tmp 11) (.tmp 34) rfl w3.heap.size (wl (ccF key ctr nonce)).toArray rfl rfl 183 Y.toArray (Blk.new w3 183 Y) (HY1.out ctr).1 (HY1.out ctr).2.1 (HY1.out ctr).2.2 ?_));obtain ⟨FB,hFB⟩:∃FB,FB=w3.heap.size:=⟨_,rfl⟩
   have K4:Hid (Blk ((w3.alloc (.cells Y.toArray 183)).setRow w3.heap.size (wl (ccF key ctr nonce)).toArray) w3.heap.size 183 (wl (ccF key ((ctr+0) % 4294967296) nonce))∧Blk ((w3.alloc (.cells Y.toArray 183)).setRow w3.heap.size (wl (ccF key ctr nonce)).toArray) G 5 (bl (S.take (min n (64*0))++xs.drop (min n (64*0))))∧Only (fun _=>False) w ((w3.alloc (.cells Y.toArray 183)).setRow w3.heap.size (wl (ccF key ctr nonce)).toArray)):=by
    have hg:=B3.out.lt;refine ⟨?_,?_,(O3.out.alloc _).setRow (fun h=>absurd h (by have:=O3.out.size;omega)) _⟩
    ·rw [Nat.add_zero,Nat.mod_eq_of_lt hc]
     exact (Blk.new w3 183 Y).row _
    ·rw [Nat.mul_zero,Nat.min_zero,List.take_zero,List.drop_zero,List.nil_append]
     exact (B3.out.alloc _).keep ((Only.refl (fun k=>k=w3.heap.size) _).setRow (fun _=>rfl) _) (by omega)
   have HFG:Hid (w.heap.size≤FB∧G≠FB):=by
    have:=B3.out.lt;have:=O3.out.size;exact ⟨by omega,by omega⟩
   rw [←hFB] at K4 ⊢;obtain ⟨W4,hW4⟩:∃W4,W4=(w3.alloc (.cells Y.toArray 183)).setRow FB (wl (ccF key ctr nonce)).toArray:=⟨_,rfl⟩;rw [←hW4] at K4 ⊢;obtain ⟨CF,hCF⟩:∃CF,CF=wl (ccF key ctr nonce):=⟨_,rfl⟩;rw [←hCF];clear hW4 hFB hCF O3 B3 hzw
   go_loopw [12] (fun o wr=>∃(k:Nat) (ro:Option Addr) (cap:Nat),o=.slice ro (n - min n (64*k)) cap∧(64*k<n→ro=some ⟨G,64*k,none⟩∧cap=n - 64*k)∧Blk wr FB 183 (wl (ccF key ((ctr+k) % 4294967296) nonce))∧Blk wr G 5 (bl (S.take (min n (64*k))++xs.drop (min n (64*k))))∧Only (fun _=>False) w wr) (fun o _=>slen o)
   case atStart=>exact ⟨0,some ⟨G,0,none⟩,n,by rw [Nat.mul_zero,Nat.min_zero,Nat.sub_zero],fun _=>⟨rfl,rfl⟩,K4.out⟩
   case round =>
    obtain ⟨k,ro,cap,rfl,hro,k1,k2,k3⟩:=hrel;clear K4
    by_cases hlt:64*k<n
    ·obtain ⟨rfl,rfl⟩:=hro hlt
     have hmin:min n (64*k)=64*k:=by omega
     rw [hmin] at k2 ⊢
     have hcl:ctr+k<4294967296:=by
      have h1:=HX.out.2.2.2.1;have h2:=HX.out.1;unfold fitsC at h1;omega
     rw [Nat.mod_eq_of_lt hcl] at k1;obtain ⟨m,hm⟩:∃m,m=n - 64*k:=⟨_,rfl⟩;rw [←hm];obtain ⟨r,hr⟩:∃r,r=min m 64:=⟨_,rfl⟩
     have hm0:(0:Int)<(m:Int):=by omega
     have HK:=Qaa (And.intro k1 (And.intro k2 k3));have HMR:=Qaa (And.intro hm hr)
     have hr1:(r:Int)≤(m:Int):=by omega
     have hr2:(0:Int)≤(r:Int):=by omega
     clear hro k1 k2 k3 hmin hm hr;go_wp2_with (first|(refine wpList_load_row rfl 183 (.tmp 11) rfl FB rfl 183 (wl (ccF key (ctr+k) nonce)).toArray (0,0) _ HK.out.1 underlying183 rfl (HY1.out (ctr+k)).1 ?_));refine (OB.out wr (ctr+k) hcl).mono ?_;rintro e w5 ⟨rfl,o5⟩;go_wp2_with (first|(refine wpList_store_row rfl 145 (.tmp 13) (.tmp 40) rfl w5.heap.size (bl (BLK key (ctr+k) nonce)).toArray rfl rfl 145 Z.toArray (Blk.new w5 145 Z) (HZ1.out (ctr+k)).1 (HZ1.out (ctr+k)).2.1 (HZ1.out (ctr+k)).2.2 ?_)|(refine wpList_load_row rfl 145 (.tmp 13) rfl w5.heap.size rfl 145 (bl (BLK key (ctr+k) nonce)).toArray (0,0) _ ((Blk.new w5 145 Z).row _) underlying145 rfl (HZ1.out (ctr+k)).1 ?_));obtain ⟨W6,hW6⟩:∃W6,W6=(w5.alloc (.cells Z.toArray 145)).setRow w5.heap.size (bl (BLK key (ctr+k) nonce)).toArray:=⟨_,rfl⟩
     have K6:Hid (Blk W6 FB 183 (wl (ccF key (ctr+k) nonce))∧Blk W6 G 5 (bl (S.take (64*k)++xs.drop (64*k)))∧Only (fun _=>False) w W6):=by
      have o6:Only (fun _=>False) w5 W6:=by
       rw [hW6];exact ((Only.refl _ _).alloc _).setRow (fun h=>absurd h (Nat.lt_irrefl _)) _
      have o56:=o5.same o6;exact ⟨HK.out.1.past o56,HK.out.2.1.past o56,HK.out.2.2.same o56⟩
     rw [←hW6];obtain ⟨KS,hKS⟩:∃KS,KS=BLK key (ctr+k) nonce:=⟨_,rfl⟩;have HKS:=Qaa hKS;rw [←hKS];clear hW6 o5 HK hKS;refine (QoQ G (64*k) m m r (S.take (64*k)) (xs.drop (64*k)) KS (by rw [Yag,HS.out,Qcf,←HX.out.1];omega) (by rw [Yai,←HX.out.1,HMR.out.1]) (by rw [HKS.out,QcU]) HMR.out.2 (HX.out.2.1.drop _) (by rw [HKS.out];exact Qlo _ _ _) W6 K6.out.2.1).mono ?_;rintro e w7 ⟨rfl,b7,o7⟩;have hmr:=HMR.out
     have E7:min n (64*(k+1))=64*k+r:=by omega
     have K7:Hid (Blk w7 FB 183 (wl (ccF key (ctr+k) nonce))∧Blk w7 G 5 (bl (S.take (min n (64*(k+1)))++xs.drop (min n (64*(k+1)))))∧Only (fun _=>False) w w7):=by
      refine ⟨K6.out.1.keep o7 (fun e=>HFG.out.2 e.symm),?_,K6.out.2.2.trans o7 (fun i hi e=>by have:=HGG.out.1;omega)⟩;rw [E7,HS.out,Qp3 key ctr nonce xs k r (by rw [←HX.out.1];exact hlt) (by rw [←HX.out.1,←hmr.1];exact hmr.2),←HS.out,←HKS.out,List.append_assoc,←List.drop_drop];exact b7
     have hcc:w7.cell? ⟨FB,12,none⟩=some (.int .u32 ((ctr+k:Nat):Int)):=by
      rw [K7.out.1.cell,wl_at _ _ (by rw [QcT];decide),Qs0]
     have hfz:=K7.out.1.froz 12;have hnx:=Qp4 ctr k;rw [Nat.mod_eq_of_lt hcl] at hnx;obtain ⟨cn,hcn⟩:∃cn,cn=(ctr+(k+1)) % 4294967296:=⟨_,rfl⟩;rw [←hcn] at hnx
     have K8:Hid (Blk (w7.setCell ⟨FB,12,none⟩ (.int .u32 (cn:Int))) FB 183 (wl (ccF key ((ctr+(k+1)) % 4294967296) nonce))∧Blk (w7.setCell ⟨FB,12,none⟩ (.int .u32 (cn:Int))) G 5 (bl (S.take (min n (64*(k+1)))++xs.drop (min n (64*(k+1)))))∧Only (fun _=>False) w (w7.setCell ⟨FB,12,none⟩ (.int .u32 (cn:Int)))):=by
      have oc:=(Only.refl (fun k=>k=FB) w7).setCell (p:=⟨FB,12,none⟩) (fun _=>rfl) (.int .u32 (cn:Int));refine ⟨?_,K7.out.2.1.keep oc HFG.out.2,K7.out.2.2.trans oc (fun i hi e=>by have:=HFG.out.1;omega)⟩;have h:=K7.out.1.set 12 (.int .u32 (cn:Int));rw [QcN,Qs1] at h;rw [←hcn];exact h
     obtain ⟨cc,hcc2⟩:∃cc,cc=ctr+k:=⟨_,rfl⟩;rw [←hcc2] at hcc hnx
     by_cases hlast:m=r
     ·have E8:Hid (n - min n (64*(k+1))=0∧¬64*(k+1)<n∧0<m):=⟨by omega,by omega,by omega⟩
      have hlast2:m - r=0:=by omega
      clear K6 K7 b7 o7 hmr E7 hcn hcc2;go_wp2
      go_roundw
      case rel=>exact ⟨k+1,_,_,by rw [E8.out.1],fun h=>absurd h E8.out.2.1,K8.out⟩
      case measure =>
       have:=E8.out.2.2;simp only [slen];omega
     ·have E8:Hid (n - min n (64*(k+1))=m - r∧64*(k+1)=64*k+r∧n - 64*(k+1)=m - r∧0<m∧0<r):=⟨by omega,by omega,by omega,by omega,by omega⟩
      clear K6 K7 b7 o7 hmr E7 hcn hcc2;go_wp2
      go_roundw
      case rel=>exact ⟨k+1,_,_,by rw [E8.out.1],fun h=>⟨by rw [E8.out.2.1],by rw [E8.out.2.2.1]⟩,K8.out⟩
      case measure =>
       have:=E8.out.2.2.2;simp only [slen];omega
    ·have hmin:min n (64*k)=n:=by omega
     rw [hmin] at k2 ⊢
     have F1:Hid (wr.ownsRow w.heap.size 5 1 (.slice (some ⟨G,0,none⟩) n n) S.length (bl S)):=by
      have h:=k2
      have hlS:S.length=n:=by rw [HS.out,Qcf,←HX.out.1]
      rw [List.take_of_length_le (by rw [HS.out,Qcf,←HX.out.1];exact Nat.le_refl _),List.drop_of_length_le (by rw [←HX.out.1];exact Nat.le_refl _),List.append_nil] at h
      show World.ownsRow _ _ _ _ _ _ _
      rw [hlS];exact Qe5 h HGG.out.1 (by unfold maxLen;omega) (by rw [Qal,hlS])
     have F2:=Qaa k3;rw [Nat.sub_self];clear hro k1 k2 k3 hmin;go_wp2;go_ret2;exact ⟨_,rfl,F1.out,F2.out⟩
  ·have EB:SRe key ctr nonce xs.length=4:=by unfold SRe;rw [if_pos h,if_neg hf]
   have EL:SRt key ctr nonce xs=[]:=by unfold SRt;rw [if_pos h,if_neg hf]
   rw [EB,EL]
   have hgt:((4294967296 - ctr:Nat):Int)<(q:Int):=by unfold fitsC at hf;omega
   obtain ⟨n,hn⟩:∃n,n=xs.length:=⟨_,rfl⟩;rw [←hn] at BF ⊢;clear bk bn bb k8 n8 x8 h e1 EB EL hf hn hl hq BKN;go_enter func101,ntmps101;go_wp2_with fail;refine A.out.mono ?_;rintro e w1 ⟨rfl,rfl⟩;go_wp2_with fail;refine BF.out.mono ?_;rintro e w1 ⟨rfl,rfl⟩;go_wp2;go_ret2;exact ⟨_,rfl,World.ownsRow_nil ..,Only.refl _ _⟩
 ·have e1:decide (key.length=32∧nonce.length=12)=false:=Yak h
  rw [e1] at A;have EB:SRe key ctr nonce xs.length=1:=if_neg h;have EL:SRt key ctr nonce xs=[]:=if_neg h;rw [EB,EL];clear bk bn bb k8 n8 x8 h e1 EB EL hl BKN;go_enter func101,ntmps101;go_wp2_with fail;refine A.out.mono ?_;rintro e w1 ⟨rfl,rfl⟩;go_wp2;go_ret2;exact ⟨_,rfl,World.ownsRow_nil ..,Only.refl _ _⟩
def LV:List Nat→Nat
 | []=>0
 | x :: l=>x+67108864*LV l
theorem QmW (a b:List Nat):LV (a++b)=LV a+67108864^a.length*LV b:=by
 induction a with
 | nil=>simp [LV]
 | cons d a ih =>
  simp only [List.cons_append,LV,ih,Yah,Nat.pow_succ];rw [Nat.mul_add,←Nat.mul_assoc,Nat.mul_comm 67108864 (67108864^a.length)];omega
theorem Qin (s:List Nat) (i:Nat) (h:i<s.length):LV (s.take (i+1))=LV (s.take i)+67108864^i*s.getD i 0:=by
 rw [List.take_add_one,Yaf h,Yad,Yaf h,QmW,Yag,Nat.min_eq_left (Nat.le_of_lt h)];simp [LV]
theorem QfX (s:List Nat) (i d:Nat) (h:i<s.length):LV (s.set i (s.getD i 0+d))=LV s+67108864^i*d:=by
 induction s generalizing i with
 | nil=>simp at h
 | cons x s ih =>
  cases i with
  | zero=>simp [LV];omega
  | succ i =>
   have:=ih i (by simpa using h);simp only [Yac,LV,List.getD_cons_succ,this,Nat.mul_add,Nat.pow_succ];rw [←Nat.mul_assoc,Nat.mul_comm 67108864 (67108864^i)];omega
def LB (B:Nat) (s:List Nat):Prop:=∀j,s.getD j 0<B
theorem LB.mono {A B:Nat} {s:List Nat} (h:LB A s) (hb:A≤B):LB B s:=fun j=>Nat.lt_of_lt_of_le (h j) hb
theorem LB.tail {B x:Nat} {s:List Nat} (h:LB B (x :: s)):LB B s:=fun j=>by
 have:=h (j+1)
 rwa [List.getD_cons_succ] at this
theorem LB.head {B x:Nat} {s:List Nat} (h:LB B (x :: s)):x<B:=h 0
theorem LB.cons {B x:Nat} {s:List Nat} (h:x<B) (k:LB B s):LB B (x :: s):=fun j=>by
 cases j with
 | zero=>exact h
 | succ j=>rw [List.getD_cons_succ];exact k j
theorem LB.nil {B:Nat} (h:0<B):LB B []:=fun j=>by simpa using h
theorem QfY (s:List Nat) (i j x:Nat):(s.set i x).getD j 0=if i=j∧i<s.length then x else s.getD j 0:=by
 simp only [Yad,List.getElem?_set]
 by_cases h:i=j
 ·subst h
  by_cases h2:i<s.length
  ·simp [h2]
  ·simp [h2]
 ·simp [h]
theorem LB.set {B:Nat} {s:List Nat} (h:LB B s) (i x:Nat) (hx:x<B):LB B (s.set i x):=fun j=>by
 rw [QfY]
 split
 ·exact hx
 ·exact h j
theorem LV_lt (s:List Nat) (h:LB 67108864 s):LV s<67108864^s.length:=by
 induction s with
 | nil=>simp [LV]
 | cons x s ih =>
  have h1:=h.head;have h2:=ih h.tail;simp only [LV,Yah,Nat.pow_succ];omega
def sdg:List Nat→Nat→List Nat
 | [],_=>[]
 | x :: l,c=>(x+c) % 67108864 :: sdg l ((x+c) / 67108864)
def scy:List Nat→Nat→Nat
 | [],c=>c
 | x :: l,c=>scy l ((x+c) / 67108864)
theorem QaV (l:List Nat) (c:Nat):(sdg l c).length=l.length:=by
 induction l generalizing c with
 | nil=>rfl
 | cons x l ih=>simp [sdg,ih]
theorem QdR (l:List Nat) (c:Nat):LB 67108864 (sdg l c):=by
 induction l generalizing c with
 | nil=>exact LB.nil (by decide)
 | cons x l ih=>exact LB.cons (Nat.mod_lt _ (by decide)) (ih _)
theorem Quk (l:List Nat) (c:Nat):LV (sdg l c)+67108864^l.length*scy l c=LV l+c:=by
 induction l generalizing c with
 | nil=>simp [LV,sdg,scy]
 | cons x l ih =>
  have h:=ih ((x+c) / 67108864);simp only [LV,sdg,scy,Yah,Nat.pow_succ];rw [Nat.mul_comm (67108864^l.length) 67108864,Nat.mul_assoc];omega
theorem QpF (l:List Nat) (x c:Nat):sdg (l++[x]) c=sdg l c++[(x+scy l c) % 67108864]:=by
 induction l generalizing c with
 | nil=>rfl
 | cons y l ih=>simp [sdg,scy,ih]
theorem QpG (l:List Nat) (x c:Nat):scy (l++[x]) c=(x+scy l c) / 67108864:=by
 induction l generalizing c with
 | nil=>rfl
 | cons y l ih=>simp [scy,ih]
theorem Qg6 (l:List Nat) (c:Nat) (h:LB 9223372036854775808 l) (hc:c<274877906944):scy l c<274877906944:=by
 induction l generalizing c with
 | nil=>exact hc
 | cons x l ih =>
  have:=h.head;exact ih _ h.tail (by omega)
theorem LB.take {B:Nat} {s:List Nat} (h:LB B s) (hB:0<B) (n:Nat):LB B (s.take n):=fun j=>by
 simp only [Yad,List.getElem?_take]
 split
 ·have:=h j
  rwa [Yad] at this
 ·simpa using hB
theorem Qd3:(67108864:Nat)^5=2^130:=by decide +kernel
theorem Qcp (s:List Nat) (hs:s.length=5):LV (sdg s 0)+2^130*scy s 0=LV s∧LV (sdg s 0)<2^130:=by
 have h1:=Quk s 0;have h2:=LV_lt _ (QdR s 0);rw [QaV,hs,Qd3] at h2;rw [hs,Qd3] at h1;exact ⟨h1,h2⟩
theorem Qjx (s:List Nat) (hs:s.length=5) (h:LV s<2^130):scy s 0=0:=by
 have h1:=(Qcp s hs).1;generalize scy s 0=c at *
 rcases c with _ | c
 ·rfl
 ·rw [Nat.mul_add] at h1;omega
theorem QmX (s:List Nat) (hs:s.length=5) (h:LV s<2^130):LV (sdg s 0)=LV s:=by
 have h1:=(Qcp s hs).1;rw [Qjx s hs h] at h1;omega
def pls (a b:List Nat):List Nat:=(List.range 5).map fun i=>a.getD i 0+b.getD i 0
theorem QaL (a b:List Nat):(pls a b).length=5:=by simp [pls]
theorem QeF (a b:List Nat) (i:Nat) (h:i<5):(pls a b).getD i 0=a.getD i 0+b.getD i 0:=by
 simp [pls,List.getD_eq_getElem?_getD,h]
theorem QmY (a:List Nat) (h:a.length=5):a=[a.getD 0 0,a.getD 1 0,a.getD 2 0,a.getD 3 0,a.getD 4 0]:=by
 rcases a with _ | ⟨a0,_ | ⟨a1,_ | ⟨a2,_ | ⟨a3,_ | ⟨a4,_ | ⟨a5,a⟩⟩⟩⟩⟩⟩ <;> simp at h
 rfl
theorem LV5 (a:List Nat) (h:a.length=5):LV a=a.getD 0 0+67108864*(a.getD 1 0+67108864*(a.getD 2 0+67108864*(a.getD 3 0+67108864*a.getD 4 0))):=by
 have e:=congrArg LV (QmY a h);simp only [LV,Nat.mul_zero,Nat.add_zero] at e;exact e
theorem QmZ (a b:List Nat) (ha:a.length=5) (hb:b.length=5):LV (pls a b)=LV a+LV b:=by
 rw [LV5 _ (QaL a b),LV5 a ha,LV5 b hb];simp only [QeF _ _ _ (show 0<5 by decide),QeF _ _ _ (show 1<5 by decide),QeF _ _ _ (show 2<5 by decide),QeF _ _ _ (show 3<5 by decide),QeF _ _ _ (show 4<5 by decide)];omega
theorem Qg7 (s:List Nat) (j:Nat) (h:s.length≤j):s.getD j 0=0:=by
 rw [Yad,List.getElem?_eq_none h];rfl
theorem Qjy {A B C:Nat} {a b:List Nat} (ha:LB A a) (hb:LB B b) (hc:A+B≤C):LB C (pls a b):=fun j=>by
 have h1:=ha j;have h2:=hb j
 by_cases h:j<5
 ·rw [QeF _ _ _ h];omega
 ·rw [Qg7 _ _ (by rw [QaL];omega)];omega
theorem Qdm (n B:Nat) (hB:0<B):LB B (List.replicate n 0):=fun j=>by
 rw [Yad,List.getElem?_replicate]
 split <;> simpa using hB
def rawI (b:List Int):Nat→List Nat
 | 0=>List.replicate 5 0
 | i+1=>(rawI b i).set (8*i / 26) ((rawI b i).getD (8*i / 26) 0+(b.getD i 0).toNat*2^(8*i % 26))
theorem Qb4 (b:List Int) (i:Nat):(rawI b i).length=5:=by
 induction i with
 | zero=>rfl
 | succ i ih=>simp [rawI,ih]
theorem Qsx (b:List Int) (i:Nat) (hi:i≤17) (hb:i≤b.length):LV (rawI b i)=nv (b.take i):=by
 induction i with
 | zero=>simp [rawI,nv,LV]
 | succ i ih =>
  rw [rawI,QfX _ _ _ (by rw [Qb4];omega),ih (by omega) (by omega)]
  have e:b.take (i+1)=b.take i++[b.getD i 0]:=by
   rw [List.take_add_one,Yaf (by omega),Yad,Yaf (by omega)];rfl
  rw [e,Qm8,Yag,Nat.min_eq_left (by omega)]
  congr 1
  rw [Nat.mul_comm (b.getD i 0).toNat,←Nat.mul_assoc]
  congr 1
  rw [show (67108864:Nat)=2^26 from rfl,show (256:Nat)=2^8 from rfl,←Nat.pow_mul,←Nat.pow_mul,←Nat.pow_add]
  congr 1
  omega
theorem Qm0 (b:List Int) (h8:U8 b) (i:Nat):LB (8589934592*i+1) (rawI b i):=by
 induction i with
 | zero =>
  exact Qdm _ _ (by decide)
 | succ i ih =>
  intro j;have h1:=h8.at i;have h2:=ih (8*i / 26);have h3:=ih j;have h4:(b.getD i 0).toNat*2^(8*i % 26)≤255*2^25:=Nat.mul_le_mul (by omega) (Nat.pow_le_pow_right (by decide) (by omega));rw [rawI,QfY]
  split <;> omega
def nmb (b:List Int):List Nat:=sdg (rawI b b.length) 0
theorem QbD (b:List Int):(nmb b).length=5:=by rw [nmb,QaV,Qb4]
theorem Qfj (b:List Int):LB 67108864 (nmb b):=QdR _ _
theorem Qm1 (b:List Int) (hl:b.length≤17) (h:nv b<2^130):LV (nmb b)=nv b:=by
 have e:=Qsx b b.length hl (Nat.le_refl _);rw [List.take_length] at e;rw [nmb,QmX _ (Qb4 _ _) (by rw [e];exact h),e]
def wdI (a r:List Nat):Nat→List Nat
 | 0=>List.replicate 10 0
 | k+1=>(wdI a r k).set (k / 5+k % 5) ((wdI a r k).getD (k / 5+k % 5) 0+a.getD (k / 5) 0*r.getD (k % 5) 0)
theorem QfZ (a r:List Nat) (k:Nat):(wdI a r k).length=10:=by
 induction k with
 | zero=>rfl
 | succ i ih=>simp [wdI,ih]
theorem Qm2 (a r:List Nat) (ha:LB 134217728 a) (hr:LB 67108864 r) (k:Nat):LB (9007199254740992*k+1) (wdI a r k):=by
 induction k with
 | zero =>
  exact Qdm _ _ (by decide)
 | succ k ih =>
  intro j;have h2:=ih (k / 5+k % 5);have h3:=ih j;have h5:=ha (k / 5);have h6:=hr (k % 5);have h4:a.getD (k / 5) 0*r.getD (k % 5) 0≤134217728*67108864:=Nat.mul_le_mul (by omega) (by omega);rw [wdI,QfY]
  split <;> omega
theorem Qul (a r:List Nat) (ha:a.length=5) (hr:r.length=5) (k:Nat) (hk:k≤25) :
  LV (wdI a r k)=LV (a.take (k / 5))*LV r+67108864^(k / 5)*a.getD (k / 5) 0*LV (r.take (k % 5)):=by
 induction k with
 | zero=>simp [wdI,LV]
 | succ k ih =>
  have h1:=ih (by omega);rw [wdI,QfX _ _ _ (by rw [QfZ];omega),h1];have hn:=Qin r (k % 5) (by omega)
  have e:67108864^(k / 5+k % 5)*(a.getD (k / 5) 0*r.getD (k % 5) 0)=67108864^(k / 5)*a.getD (k / 5) 0*(67108864^(k % 5)*r.getD (k % 5) 0):=by
   rw [Nat.pow_add];generalize 67108864^(k / 5)=A;generalize 67108864^(k % 5)=B;generalize a.getD (k / 5) 0=x;generalize r.getD (k % 5) 0=y;rw [Nat.mul_assoc,Nat.mul_assoc,Nat.mul_left_comm B]
  rw [e,Nat.add_assoc,←Nat.mul_add,←hn]
  by_cases h5:k % 5=4
  ·have e1:(k+1) / 5=k / 5+1:=by omega
   have e2:(k+1) % 5=0:=by omega
   have e3:r.take (k % 5+1)=r:=List.take_of_length_le (by omega);have e4:LV (r.take 0)=0:=rfl;rw [e1,e2,e3,e4,Qin a (k / 5) (by omega),Nat.add_mul,Nat.mul_zero,Nat.add_zero]
  ·have e1:(k+1) / 5=k / 5:=by omega
   have e2:(k+1) % 5=k % 5+1:=by omega
   rw [e1,e2]
theorem wd_LV (a r:List Nat) (ha:a.length=5) (hr:r.length=5):LV (wdI a r 25)=LV a*LV r:=by
 have h:=Qul a r ha hr 25 (by decide);rw [show 25 / 5=5 from rfl,show 25 % 5=0 from rfl,List.take_of_length_le (by omega)] at h
 simpa [LV] using h
def otr (W:List Nat):List Nat:=(List.range 5).map fun i=>W.getD i 0+5*W.getD (i+5) 0
theorem QdA (W:List Nat):(otr W).length=5:=by simp [otr]
theorem QeG (W:List Nat) (i:Nat) (h:i<5):(otr W).getD i 0=W.getD i 0+5*W.getD (i+5) 0:=by
 simp [otr,List.getD_eq_getElem?_getD,h]
theorem Qum {B:Nat} {W:List Nat} (h:LB B W) (hB:0<B):LB (6*B) (otr W):=fun j=>by
 by_cases hj:j<5
 ·have h1:=h j
  have h2:=h (j+5);rw [QeG _ _ hj];omega
 ·rw [Qg7 _ _ (by rw [QdA];omega)];omega
theorem Qsy (W:List Nat) (hW:W.length=10):LV (otr W) % PP=LV W % PP:=by
 have h1:LV W=LV (W.take 5)+2^130*LV (W.drop 5):=by
  have h:=QmW (W.take 5) (W.drop 5);rw [List.take_append_drop,Yag,hW,show min 5 10=5 from rfl,Qd3] at h;exact h
 have a1:(W.take 5).length=5:=by rw [Yag,hW];rfl
 have a2:(W.drop 5).length=5:=by rw [Yai,hW]
 have t (i:Nat) (hi:i<5):(W.take 5).getD i 0=W.getD i 0:=by
  simp [List.getD_eq_getElem?_getD,hi]
 have d (i:Nat):(W.drop 5).getD i 0=W.getD (i+5) 0:=by
  simp [List.getD_eq_getElem?_getD,List.getElem?_drop,Nat.add_comm]
 have h2:LV (otr W)=LV (W.take 5)+5*LV (W.drop 5):=by
  rw [LV5 _ (QdA W),LV5 _ a1,LV5 _ a2]
  simp only [QeG _ _ (show 0<5 by decide),QeG _ _ (show 1<5 by decide),QeG _ _ (show 2<5 by decide),QeG _ _ (show 3<5 by decide),QeG _ _ (show 4<5 by decide),
   t 0 (by decide),t 1 (by decide),t 2 (by decide),t 3 (by decide),t 4 (by decide),d]
  omega
 rw [h1,h2,Qjz]
def crr (s:List Nat):List Nat:=(sdg s 0).set 0 ((sdg s 0).getD 0 0+5*scy s 0)
theorem Qf0 (s:List Nat):(crr s).length=s.length:=by rw [crr,List.length_set,QaV]
theorem Qm3 (s:List Nat) (hs:s.length=5):LV (crr s)=LV (sdg s 0)+5*scy s 0:=by
 rw [crr,QfX _ _ _ (by rw [QaV,hs];decide),Nat.pow_zero,Nat.one_mul]
theorem Qsz (s:List Nat) (hs:s.length=5):LV (crr s) % PP=LV s % PP:=by
 rw [Qm3 s hs,Qjz,(Qcp s hs).1]
theorem Qun (s:List Nat) (h:LB 9223372036854775808 s):LB 4398046511104 (crr s):=by
 have h1:=Qg6 s 0 h (by decide);have h2:=QdR s 0 0;exact ((QdR s 0).mono (by decide)).set _ _ (by omega)
theorem QsA (s:List Nat) (hs:s.length=5) (h:LB 9223372036854775808 s):LV (crr s)<2^130+2199023255552:=by
 have h1:=Qg6 s 0 h (by decide);have h2:=(Qcp s hs).2;rw [Qm3 s hs];omega
theorem QsB (s:List Nat) (hs:s.length=5) (h:LV s<2^130+2199023255552):LV (crr s)<2^130:=by
 have h1:=Qcp s hs;rw [Qm3 s hs]
 have h3:(2:Nat)^130=1361129467683753853853498429727072845824:=by decide +kernel
 rw [h3] at *;omega
theorem Qm4 (s:List Nat) (hs:s.length=5) (h:LV s<2^130):crr s=sdg s 0:=by
 rw [crr,Qjx s hs h,Nat.mul_zero,Nat.add_zero];have hl:=QaV s 0;rw [hs] at hl;generalize sdg s 0=t at *
 rcases t with _ | ⟨x,t⟩
 ·rfl
 ·rfl
def crI:Nat→List Nat→List Nat
 | 0,s=>s
 | k+1,s=>crr (crI k s)
theorem QeH (k:Nat) (s:List Nat):(crI k s).length=s.length:=by
 induction k with
 | zero=>rfl
 | succ k ih=>rw [crI,Qf0,ih]
theorem Quo (k:Nat) (s:List Nat) (h:LB 9223372036854775808 s):LB 9223372036854775808 (crI k s):=by
 induction k with
 | zero=>exact h
 | succ k ih=>exact (Qun _ ih).mono (by decide)
theorem QsC (k:Nat) (s:List Nat) (hs:s.length=5):LV (crI k s) % PP=LV s % PP:=by
 induction k with
 | zero=>rfl
 | succ k ih=>rw [crI,Qsz _ (by rw [QeH,hs]),ih]
theorem Qm5 (s:List Nat) (hs:s.length=5) (h:LB 9223372036854775808 s):LB 67108864 (crI 3 s):=by
 have h1:=QsA s hs h;have h2:=QsB (crr s) (by rw [Qf0,hs]) h1
 show LB 67108864 (crr (crr (crr s)))
 rw [Qm4 _ (by rw [Qf0,Qf0,hs]) h2];exact QdR _ _
def ptms (a r:List Nat):List Nat:=crI 3 (otr (wdI a r 25))
theorem Qio (a r:List Nat):(ptms a r).length=5:=by rw [ptms,QeH,QdA]
theorem Qm6 (a r:List Nat) (ha:LB 134217728 a) (hr:LB 67108864 r):LB 9223372036854775808 (otr (wdI a r 25)):=(Qum (Qm2 a r ha hr 25) (by decide)).mono (by decide)
theorem Qup (a r:List Nat) (ha:LB 134217728 a) (hr:LB 67108864 r):LB 67108864 (ptms a r):=Qm5 _ (QdA _) (Qm6 a r ha hr)
theorem QsD (a r:List Nat) (ha:a.length=5) (hr:r.length=5):LV (ptms a r) % PP=LV a*LV r % PP:=by
 rw [ptms,QsC _ _ (QdA _),Qsy _ (QfZ _ _ _),wd_LV a r ha hr]
def pby (xs:List Int) (k:Nat):List Int:=((xs.drop (16*k)).take 16++[1])++List.replicate (16 - min 16 (xs.length - 16*k)) 0
theorem Qip (xs:List Int) (k:Nat):(pby xs k).length=17:=by
 simp only [pby,Yae,Yag,Yai,List.length_replicate,List.length_singleton];omega
theorem Quq (xs:List Int) (h8:U8 xs) (k:Nat):U8 (pby xs k):=by
 refine (((h8.drop _).take _).app (fun y hy=>by simp at hy;omega)).app (fun y hy=>?_);have:=List.eq_of_mem_replicate hy;omega
theorem QqY (xs:List Int) (k:Nat):nv (pby xs k)=piece xs k:=by
 rw [pby,Qq0,QpI,Qm8,piece,Yag,Yai];simp
theorem QpH (xs:List Int) (h8:U8 xs) (k:Nat):piece xs k<2^130:=by
 have h1:=nv_lt _ ((h8.drop (16*k)).take 16);have h2:256^((xs.drop (16*k)).take 16).length≤256^16:=Nat.pow_le_pow_right (by decide) (by rw [Yag];omega);have h3:256^(min 16 (xs.length - 16*k))≤256^16:=Nat.pow_le_pow_right (by decide) (by omega)
 have h4:(256:Nat)^16+256^16<2^130:=by decide +kernel
 unfold piece;omega
def gth (r:List Nat) (xs:List Int):Nat→List Nat
 | 0=>List.replicate 5 0
 | k+1=>ptms (pls (gth r xs k) (nmb (pby xs k))) r
theorem Qb5 (r:List Nat) (xs:List Int) (k:Nat):(gth r xs k).length=5:=by
 cases k with
 | zero=>rfl
 | succ k=>exact Qio _ _
theorem Qm7 (r:List Nat) (xs:List Int) (hr:LB 67108864 r) (k:Nat):LB 67108864 (gth r xs k):=by
 induction k with
 | zero=>exact Qdm _ _ (by decide)
 | succ k ih=>exact Qup _ _ (Qjy ih (Qfj _) (by decide)) hr
theorem QsE (r:List Nat) (xs:List Int) (hr:r.length=5) (h8:U8 xs) (k:Nat):LV (gth r xs k) % PP=pacc (LV r) xs k:=by
 induction k with
 | zero=>simp [gth,pacc,LV]
 | succ k ih =>
  rw [gth,QsD _ _ (QaL _ _) hr,QmZ _ _ (Qb5 _ _ _) (QbD _),Qm1 _ (by rw [Qip];decide) (by rw [QqY];exact QpH xs h8 k),QqY,pacc,←ih,Nat.mul_mod,Nat.mul_mod (LV (gth r xs k) % PP+piece xs k),Nat.mod_add_mod]
def lst (a:List Nat):List Nat:=sdg (a.set 0 (a.getD 0 0+5*scy (pls a [5,0,0,0,0]) 0)) 0
theorem QeI (a:List Nat) (h:a.length=5):(lst a).length=5:=by rw [lst,QaV,List.length_set,h]
theorem QqZ (a:List Nat):LB 67108864 (lst a):=QdR _ _
theorem Qur (a:List Nat) (ha:a.length=5) (hb:LB 67108864 a):LV (lst a)=LV a % PP:=by
 have h1:=LV_lt a hb;rw [ha,Qd3] at h1;have h2:=Qcp (pls a [5,0,0,0,0]) (QaL _ _);rw [QmZ a _ ha rfl,show LV [5,0,0,0,0]=5 from rfl] at h2;have h3:=Qcp (a.set 0 (a.getD 0 0+5*scy (pls a [5,0,0,0,0]) 0)) (by rw [List.length_set,ha]);rw [QfX _ _ _ (by rw [ha];decide),Nat.pow_zero,Nat.one_mul] at h3;rw [QpJ _ h1];have hp:=Qna;unfold lst;generalize sdg (a.set 0 (a.getD 0 0+5*scy (pls a [5,0,0,0,0]) 0)) 0=t at *;generalize scy (a.set 0 (a.getD 0 0+5*scy (pls a [5,0,0,0,0]) 0)) 0=d at *;generalize scy (pls a [5,0,0,0,0]) 0=c at *;generalize sdg (pls a [5,0,0,0,0]) 0=u at *
 have e:(2:Nat)^130=1361129467683753853853498429727072845824:=by decide +kernel
 rw [e] at *
 split <;> omega
def ul (s:List Nat):List Value:=s.map fun x=>Value.int .u64 ((x:Nat):Int)
theorem QaF (s:List Nat):(ul s).length=s.length:=List.length_map ..
theorem ul_at (s:List Nat) (j:Nat) (h:j<s.length):(ul s)[j]? = some (.int .u64 ((s.getD j 0:Nat):Int)):=by
 simp [ul,List.getD_eq_getElem?_getD,List.getElem?_eq_getElem h]
theorem Qq7 (s:List Nat):∀v∈ul s,v.oneCell'=true:=by
 intro u hu;simp [ul] at hu;obtain ⟨x,_,rfl⟩:=hu;rfl
theorem QbX (s:List Nat):(ul s).toArray.all (·.oneCell')=true:=all_oneCell_toArray (Qq7 s)
theorem QeS (s:List Nat) (i x:Nat):(ul s).set i (.int .u64 ((x:Nat):Int))=ul (s.set i x):=by
 simp [ul,List.map_set]
theorem QiB (s:List Int) (i:Nat) (x:Int):(bl s).set i (.int .u8 x)=bl (s.set i x):=by simp [bl,List.map_set]
theorem Tryz.size34:(prog.info? 188).map (·.size)=some 5:=by kernel_rfl
theorem Tryz.agg32 (w:World):(isAgg 23).run prog w=.ok false w:=by kernel_rfl
theorem Tryz.one32:(prog.info? 23).map (·.size)=some 1:=by kernel_rfl
def z5:List Value:=ul (List.replicate 5 0)
def z10:List Value:=ul (List.replicate 10 0)
theorem Tryz.zero34:(prog.info? 188).map (fun i=>(i.zero,i.size))=some (some (.agg z5.toArray),5):=by kernel_rfl
theorem Tryz.zero53:(prog.info? 246).map (fun i=>(i.zero,i.size))=some (some (.agg z10.toArray),10):=by kernel_rfl
theorem Qct:z5.length=5:=rfl
theorem QaW (s:List Nat) (h:s.length=5):(prog.info? 188).map (·.size)=some (ul s).toArray.size:=by simp [QaF,h,Tryz.size34]
theorem ix_u5 (s:List Nat) (hs:s.length=5) (j:Nat) (hj:j<5) (w:World):(Instr.index 188 (.agg (ul s).toArray) (.int .i64 j)).run prog w=.ok (.int .u64 ((s.getD j 0:Nat):Int)) w :=
 QaB 188 23 5 (ul s) j _ underlying188 Tryz.agg32 Tryz.one32 hj (ul_at s j (by omega)) w
theorem QkV {P:Program} {fn:Func} {p u:Tmp} {ty:TypeId} (h:fn.results=#[.cell p ty,.tmp u]) (tmps:Array Value) (w:World) (g:Nat) (t:TypeId) (cs:Array Value) (fr:Nat × Nat) (d:TypeDesc)
  (hp:tmps.getD p undef=.pointer (some ⟨g,0,none⟩)) (hg:w.heap[g]? = some (.cells cs t fr))
  (hu:P.underlying ty=some d) (hd:(match d with | .struct _ | .array _ _=>true | _=>false)=true) (hi:(P.info? ty).map (·.size)=some cs.size) :
  (results fn tmps).run P w=.ok (.tuple #[.agg cs,tmps.getD u undef]) w:=by
 have hp':tmps[p]?.getD undef=.pointer (some ⟨g,0,none⟩):=by simpa using hp
 simp [results,h,hp',asAddr,run_loadVar_row w g t ty cs fr d hg hu hd hi]
theorem wrap64 (n:Nat) (h:n<18446744073709551616):IntKind.u64.wrap (n:Int)=(n:Int):=by rw [IntKind.wrap_u64];omega
theorem and26 (v:Nat) (h:v<18446744073709551616):bits .and .u64 (v:Int) 67108863=((v % 67108864:Nat):Int):=by
 rw [show (67108863:Int)=((67108863:Nat):Int) from rfl,u64_and_nat _ _ h (by decide),show (67108863:Nat)=2^26 - 1 from rfl,Nat.and_two_pow_sub_one_eq_mod]
theorem Qqg (w:World) (G i:Nat) (t:TypeId) (cs:List Value) (h:Blk w G t cs) (hi:i<cs.length) (v:Value):(w.setCell ⟨G,i,none⟩ v).cell? ⟨G,i,none⟩=some v:=by
 rw [(h.set i v).cell,List.getElem?_set_self (by simpa using hi)]
end Go.Proofs.YtnhapmboienipaaGreatDoor
