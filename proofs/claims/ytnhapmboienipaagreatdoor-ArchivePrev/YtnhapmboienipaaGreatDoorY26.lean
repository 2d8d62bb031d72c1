import Derived.Test.YtnhapmboienipaaGreatDoorY25
namespace Go.Proofs.YtnhapmboienipaaGreatDoor
set_option maxHeartbeats 1600000
set_option maxRecDepth 100000
open Go.RowKit _root_.Go.Proofs.Tryz
theorem QsV (s:List Nat) (i:Nat) (hi:i<s.length):(sdg (s.take i) 0++s.drop i).set i ((s.getD i 0+scy (s.take i) 0) % 67108864)=sdg (s.take (i+1)) 0++s.drop (i+1):=by
 have hl:(sdg (s.take i) 0).length=i:=by rw [QaV,Yag];omega
 rw [QbP s i hi,QpF,List.set_append_right _ _ (by omega),hl,Nat.sub_self,List.drop_eq_getElem_cons hi,Yab,List.append_assoc]
 rfl
theorem QpV (s:List Nat) (i:Nat) (hi:i<s.length):(sdg (s.take i) 0++s.drop i).getD i 0=s.getD i 0:=by
 have hl:(sdg (s.take i) 0).length=i:=by rw [QaV,Yag];omega
 simp only [Yad];rw [List.getElem?_append_right (by omega),hl,Nat.sub_self,List.getElem?_drop,Nat.add_zero]
theorem QbE (s:List Nat) (hs:s.length=5) (hb:LB 9223372036854775808 s) (w:World) :
  Calls prog 144 #[.agg (ul s).toArray] w fun e w'=>e=.returned (.tuple #[.agg (ul (sdg s 0)).toArray,.int .u64 (scy s 0:Nat)])∧Only (fun _=>False) w w':=by
 have hzv:=(zero_of_info (P:=prog) Tryz.zero34).1;obtain ⟨Z,hZ⟩:∃Z,Z=z5:=⟨_,rfl⟩;rw [←hZ] at hzv;obtain ⟨D,hD⟩:∃D,D=ul (sdg s 0):=⟨_,rfl⟩
 have HZ1:Hid ((prog.info? 188).map (·.size)=some D.toArray.size):=by
  show _=_
  rw [hD];simp [QaF,QaV,hs,Tryz.size34]
 have HZ2:Hid (Z.toArray.size=D.toArray.size):=by
  show _=_
  rw [hD,hZ];simp [QaF,QaV,hs,Qct]
 have HA:Hid (D.toArray.all (·.oneCell')=true):=by
  show _=_
  rw [hD];exact QbX _
 rw [←hD];have HD:=Qaa hD;have HS:=Qaa (And.intro hs hb);obtain ⟨B,hB⟩:∃B,B=ul s:=⟨_,rfl⟩;have HB:=Qaa hB;rw [←hB];obtain ⟨C,hC⟩:∃C,C=scy s 0:=⟨_,rfl⟩;rw [←hC];have HC:=Qaa hC;clear hZ hD hB hC hs hb;go_enter func144,ntmps144;go_wp2_with fail
 have S0:Hid (Blk ((w.alloc (.cells B.toArray 188)).alloc (.cells Z.toArray 188)) w.heap.size 188 (ul (sdg (s.take 0) 0++s.drop 0))):=by
  show Blk _ _ _ (ul s)
  rw [←HB.out];exact (Blk.new w 188 B).alloc _
 have R0:Hid (Blk ((w.alloc (.cells B.toArray 188)).alloc (.cells Z.toArray 188)) (w.heap.size+1) 188 Z):=by
  have:=Blk.new (w.alloc (.cells B.toArray 188)) 188 Z;rw [size_alloc] at this;exact this
 have O0:Hid (Only (fun _=>False) w ((w.alloc (.cells B.toArray 188)).alloc (.cells Z.toArray 188))):=((Only.refl _ _).alloc _).alloc _;obtain ⟨G,hG⟩:∃G,G=w.heap.size:=⟨_,rfl⟩;obtain ⟨R,hR⟩:∃R,R=w.heap.size+1:=⟨_,rfl⟩;obtain ⟨W0,hW0⟩:∃W0,W0=(w.alloc (.cells B.toArray 188)).alloc (.cells Z.toArray 188):=⟨_,rfl⟩;rw [←hG,←hW0] at S0;rw [←hR,←hW0] at R0;rw [←hW0] at O0;rw [←hR,←hG,←hW0];have HG:Hid (w.heap.size≤G∧w.heap.size≤R∧R≠G):=⟨by omega,by omega,by omega⟩;clear hG hR hW0 hzv
 go_loopw [4,6] (fun c i wr=>∃n:Nat,n≤5∧i=.int .i64 n∧c=.int .u64 (scy (s.take n) 0:Nat)∧Blk wr G 188 (ul (sdg (s.take n) 0++s.drop n))∧Blk wr R 188 Z∧Only (fun _=>False) w wr) (fun _ i _=>5 - (intOf i).toNat)
 case atStart=>exact ⟨0,by omega,rfl,rfl,S0.out,R0.out,O0.out⟩
 case round =>
  obtain ⟨n,hn,rfl,rfl,hS,hR,hO⟩:=hrel;clear S0 R0 O0
  by_cases hlt:n<5
  ·have hl5:n<s.length:=by rw [HS.out.1];exact hlt
   have hll:(sdg (s.take n) 0++s.drop n).length=5:=by
    rw [Yae,QaV,Yag,Yai,HS.out.1];omega
   have hx:=HS.out.2 n;have hcb:=Qg6 (s.take n) 0 (HS.out.2.take (by decide) n) (by decide)
   have hc:wr.cell? ⟨G,n,none⟩=some (.int .u64 ((s.getD n 0:Nat):Int)):=by
    rw [hS.cell,ul_at _ _ (by rw [hll];exact hlt),QpV s n hl5]
   have hf:=hS.froz n;have hsn:=QsV s n hl5
   have hcn:scy (s.take (n+1)) 0=(s.getD n 0+scy (s.take n) 0) / 67108864:=by rw [QbP s n hl5,QpG]
   obtain ⟨x,hxx⟩:∃x,x=s.getD n 0:=⟨_,rfl⟩;obtain ⟨c,hcc⟩:∃c,c=scy (s.take n) 0:=⟨_,rfl⟩;rw [←hxx] at hc hsn hcn hx;rw [←hcc] at hsn hcn hcb;rw [←hcc];obtain ⟨v,hv⟩:∃v,v=x+c:=⟨_,rfl⟩;rw [←hv] at hsn hcn
   have hv64:v<18446744073709551616:=by omega
   have hadd:IntKind.u64.wrap ((x:Int)+(c:Int))=(v:Int):=by
    rw [show ((x:Int)+(c:Int))=((v:Nat):Int) by omega,wrap64 v hv64]
   have hand:=and26 v hv64;obtain ⟨d,hd⟩:∃d,d=v % 67108864:=⟨_,rfl⟩;obtain ⟨q,hq⟩:∃q,q=v / 67108864:=⟨_,rfl⟩;rw [←hd] at hand hsn;rw [←hq] at hcn
   have hqq:(v:Int) / 67108864=(q:Int):=by omega
   have hb1:=hS.set n (.int .u64 (v:Int));have hc1:=Qqg wr G n 188 _ hS (by rw [QaF,hll];exact hlt) (.int .u64 (v:Int));have hf1:=hb1.froz n;have hb2:=hb1.set n (.int .u64 (d:Int));rw [List.set_set,QeS,hsn] at hb2
   have N1:Hid (Blk ((wr.setCell ⟨G,n,none⟩ (.int .u64 (v:Int))).setCell ⟨G,n,none⟩ (.int .u64 (d:Int))) G 188 (ul (sdg (s.take (n+1)) 0++s.drop (n+1)))∧Blk ((wr.setCell ⟨G,n,none⟩ (.int .u64 (v:Int))).setCell ⟨G,n,none⟩ (.int .u64 (d:Int))) R 188 Z∧Only (fun _=>False) w ((wr.setCell ⟨G,n,none⟩ (.int .u64 (v:Int))).setCell ⟨G,n,none⟩ (.int .u64 (d:Int)))):=by
    have oc:=((Only.refl (fun k=>k=G) wr).setCell (p:=⟨G,n,none⟩) (fun _=>rfl) (.int .u64 (v:Int))).setCell (p:=⟨G,n,none⟩) (fun _=>rfl) (.int .u64 (d:Int));exact ⟨hb2,hR.keep oc HG.out.2.2,hO.trans oc (fun i hi e=>by have:=HG.out.1;omega)⟩
   have HCN:=Qaa hcn
   have i1:(n:Int)<5:=by omega
   clear hS hR hO hll hl5 hx hcb hsn hxx hcc hv hd hq hb1 hb2 hcn hv64;go_wp2
   go_roundw
   case rel=>exact ⟨n+1,by omega,by go_num,by rw [HCN.out],N1.out.1,N1.out.2.1,N1.out.2.2⟩
   case measure=>simp [intOf];omega
  ·obtain rfl:n=5:=by omega
   have S2:Hid (Blk wr G 188 D):=by
    have h:=hS;rw [List.take_of_length_le (by rw [HS.out.1];exact Nat.le_refl _),List.drop_of_length_le (by rw [HS.out.1];exact Nat.le_refl _),List.append_nil,←HD.out] at h;exact h
   have R2:=Qaa hR;have O2:=Qaa hO
   have E1:scy (s.take 5) 0=C:=by rw [List.take_of_length_le (by rw [HS.out.1];exact Nat.le_refl _),HC.out]
   rw [E1];clear hS hR hO E1;go_wp2_with (first|(refine wpList_load_row rfl 188 (.tmp 1) rfl G rfl 188 D.toArray (0,0) _ S2.out underlying188 rfl HZ1.out ?_)|(refine wpList_store_row rfl 188 (.tmp 2) (.tmp 25) rfl R D.toArray rfl rfl 188 Z.toArray R2.out HZ1.out HZ2.out HA.out ?_));refine bodyPost_ret (QkV rfl _ _ R 188 D.toArray (0,0) _ rfl (R2.out.row D) underlying188 rfl HZ1.out) rfl ⟨rfl,?_⟩;exact O2.out.setRow (fun h=>absurd h (by have:=HG.out.2.1;omega)) _
theorem Qqb (n x:Nat):leB (n+1) x=leB n x++[((x / 256^n % 256:Nat):Int)]:=by
 induction n generalizing x with
 | zero=>simp [leB]
 | succ n ih =>
  show ((x % 256:Nat):Int) :: leB (n+1) (x / 256)=((x % 256:Nat):Int) :: leB n (x / 256)++_
  rw [ih,Nat.div_div_eq_div_mul,Nat.pow_succ,Nat.mul_comm (256^n) 256];rfl
theorem QuD (a y m:Nat) (ha:a<2^m):a ||| y*2^m=a+y*2^m:=by
 have:=Nat.two_pow_add_eq_or_of_lt ha y;rw [Nat.or_comm,Nat.mul_comm y,←this,Nat.add_comm]
theorem pow26 (n k h:Nat) (e:26*n=8*k+h):67108864^n=256^k*2^h:=by
 rw [show (67108864:Nat)=2^26 from rfl,show (256:Nat)=2^8 from rfl,←Nat.pow_mul,←Nat.pow_mul,←Nat.pow_add,e]
theorem QuE (s:List Nat) (hs:s.length=5) (hb:LB 67108864 s) (n k h:Nat) (hn:n<5) (e:26*n=8*k+h) :
  LV (s.take n) / 256^k<2^h∧LV (s.take n) / 256^k+s.getD n 0*2^h=LV (s.take (n+1)) / 256^k:=by
 have h1:=LV_lt (s.take n) (hb.take (by decide) n);rw [Yag,Nat.min_eq_left (by omega),pow26 n k h e] at h1;have h2:=Qin s n (by omega);rw [pow26 n k h e] at h2;have hp:0<256^k:=Nat.pow_pos (by decide);refine ⟨Nat.div_lt_of_lt_mul h1,?_⟩;rw [h2,Nat.mul_assoc,Nat.add_mul_div_left _ _ hp,Nat.mul_comm (2^h)]
theorem Qqc (s:List Nat) (m j:Nat) (hm:m≤s.length) (e:8*(j+1)≤26*m):LV (s.take m) / 256^j % 256=LV s / 256^j % 256:=by
 have h:=QmW (s.take m) (s.drop m);rw [List.take_append_drop,Yag,Nat.min_eq_left hm,pow26 m j (26*m - 8*j) (by omega)] at h;have hp:0<256^j:=Nat.pow_pos (by decide);rw [h,Nat.mul_assoc,Nat.add_mul_div_left _ _ hp,show 26*m - 8*j=(26*m - 8*j - 8)+8 by omega,Nat.pow_add,show (2:Nat)^8=256 from rfl,Nat.mul_comm _ 256,Nat.mul_assoc,Nat.add_mul_mod_self_left]
theorem Qs6 (x j:Nat):x / 256^j / 256=x / 256^(j+1):=by rw [Nat.div_div_eq_div_mul,Nat.pow_succ]
theorem Qs7 (n x:Nat):bl (leB (n+1) x)=bl (leB n x)++[.int .u8 ((x / 256^n % 256:Nat):Int)]:=by
 rw [Qqb];simp [bl]
theorem QkO (s:List Nat) (hs:s.length=5) (hb:LB 67108864 s) (w:World) :
  Calls prog 148 #[.agg (ul s).toArray] w fun e w'=>∃v,e=.returned v∧w'.ownsRow w.heap.size 5 1 v 16 (bl (leB 16 (LV s)))∧Only (fun _=>False) w w':=by
 obtain ⟨i0,hi,hz0,hz1,hz2⟩:=info_parts Tryz.infoU8;have XA:=Qaa (ix_u5 s hs);have HSZ:=Qaa (QaW s hs);obtain ⟨B,hB⟩:∃B,B=ul s:=⟨_,rfl⟩;rw [←hB] at XA HSZ ⊢;have HS:=Qaa (And.intro hs hb)
 have hmk:∀w,(Instr.makeSlice 22 (.int .i64 0) (.int .i64 16)).run prog w=.ok (.slice (some ⟨w.heap.size,0,none⟩) 0 16) (w.alloc (.cells (bl (List.replicate 16 0)).toArray 5)):=fun _=>by kernel_rfl
 obtain ⟨Y,hY⟩:∃Y,Y=bl (List.replicate 16 0):=⟨_,rfl⟩
 have hYl:Y.toArray.size=16:=by rw [hY];simp [Qal]
 rw [←hY] at hmk
 have START:Hid (((w.alloc (.cells B.toArray 188)).alloc (.cells Y.toArray 5)).ownsRow w.heap.size 5 1 (.slice (some ⟨w.heap.size+1,0,none⟩) 0 16) 0 []∧Only (fun _=>False) w ((w.alloc (.cells B.toArray 188)).alloc (.cells Y.toArray 5))):=by
  have h:=World.ownsRow_made (base:=w.heap.size) (e:=5) (size:=1) (w.alloc (.cells B.toArray 188)) Y.toArray 16 (by rw [size_alloc];omega) (by unfold maxLen;omega) (by rw [hYl]);rw [size_alloc] at h;exact ⟨h,((Only.refl _ _).alloc _).alloc _⟩
 have HB1:Hid (Blk ((w.alloc (.cells B.toArray 188)).alloc (.cells Y.toArray 5)) w.heap.size 188 B):=(Blk.new w 188 B).alloc _;clear hB hs hb hY hYl;go_enter func148,ntmps148;go_wp2_with (first|(refine wpList_load_row rfl 188 (.tmp 1) rfl w.heap.size rfl 188 B.toArray (0,0) _ HB1.out underlying188 rfl HSZ.out ?_));obtain ⟨W0,hW0⟩:∃W0,W0=(w.alloc (.cells B.toArray 188)).alloc (.cells Y.toArray 5):=⟨_,rfl⟩;rw [←hW0] at START ⊢;clear hW0 HB1
 go_loopw [3,4,5,10] (fun o h b i wr=>∃n:Nat,n≤5∧i=.int .i64 n∧b=.int .i64 (26*n % 8:Nat)∧h=.int .u64 (LV (s.take n) / 256^(26*n / 8):Nat)∧wr.ownsRow w.heap.size 5 1 o (26*n / 8) (bl (leB (26*n / 8) (LV s)))∧Only (fun _=>False) w wr) (fun _ _ _ i _=>5 - (intOf i).toNat)
 case atStart=>exact ⟨0,by omega,rfl,rfl,by simp [LV],START.out⟩
 case round =>
  obtain ⟨n,hn,rfl,rfl,rfl,hown,hon⟩:=hrel;clear START
  by_cases hlt:n<5
  ·have hix:=XA.out n hlt
   have hx:=HS.out.2 n;obtain ⟨k,hk⟩:∃k,k=26*n / 8:=⟨_,rfl⟩;obtain ⟨h,hh⟩:∃h,h=26*n % 8:=⟨_,rfl⟩
   have he:26*n=8*k+h:=by omega
   have hto:=QuE s HS.out.1 HS.out.2 n k h hlt he
   have hm:n+1≤s.length:=by rw [HS.out.1];exact hlt
   rw [←hk] at hown ⊢;rw [←hh];obtain ⟨x,hxx⟩:∃x,x=s.getD n 0:=⟨_,rfl⟩;rw [←hxx] at hix hx hto;obtain ⟨T,hT⟩:∃T,T=LV (s.take (n+1)):=⟨_,rfl⟩;have HT:Hid (T=LV (s.take (n+1))∧∀j,8*(j+1)≤26*(n+1)→T / 256^j % 256=LV s / 256^j % 256):=⟨hT,fun j hj=>by rw [hT];exact Qqc s (n+1) j hm hj⟩;rw [←hT] at hto;obtain ⟨q,hq⟩:∃q,q=LV (s.take n) / 256^k:=⟨_,rfl⟩;rw [←hq] at hto ⊢
   have hh7:h≤7:=by omega
   have hpw:2^h≤2^7:=Nat.pow_le_pow_right (by decide) hh7;obtain ⟨t,ht⟩:∃t,t=x*2^h:=⟨_,rfl⟩
   have htl:t≤67108864*128:=by rw [ht];exact Nat.mul_le_mul (by omega) hpw
   have hti:(x:Int)*2^h=(t:Int):=by rw [ht];simp
   have s1:IntKind.u64.wrap ((x:Int)*2^h)=(t:Int):=by rw [hti,wrap64 t (by omega)]
   have s2:((x:Int)*2^h) % 18446744073709551616=(t:Int):=by rw [hti];omega
   obtain ⟨p,hp⟩:∃p,p=T / 256^k:=⟨_,rfl⟩
   have hor:bits .or .u64 (q:Int) (t:Int)=(p:Int):=by
    rw [u64_or_nat _ _ (by omega) (by omega),ht,QuD _ _ _ hto.1,hp,hto.2]
   have hr6:(h:Int)≤64:=by omega
   have HP:=Qaa (And.intro hp (And.intro hk he));have HO:=Qaa (And.intro hown hon)
   have i1:(n:Int)<5:=by omega
   have hsum:IntKind.i64.wrap ((h:Int)+26)=((h+26:Nat):Int):=by rw [IntKind.wrap_i64];omega
   clear hx hxx hto hT hq hpw ht htl hti hp hown hon hk hh he hm;go_wp2
   go_loopw [3,4,5] (fun o hd b wr=>∃j d:Nat,8*j+d=26*(n+1)∧b=.int .i64 (d:Nat)∧hd=.int .u64 (T / 256^j:Nat)∧wr.ownsRow w.heap.size 5 1 o j (bl (leB j (LV s)))∧Only (fun _=>False) w wr) (fun _ _ b _=>(intOf b).toNat)
   case atStart =>
    have h3:=HP.out.2.2;exact ⟨k,h+26,by omega,by rfl,by rw [HP.out.1],HO.out⟩
   case round =>
    obtain ⟨j,d,hjd,rfl,rfl,hown,hon⟩:=hrel;clear HO hix s1 s2 hor hsum
    by_cases hd8:8≤d
    ·have hby:=HT.out.2 j (by omega)
     have hsh:=Qs6 T j;have hbs:=Qs7 j (LV s);rw [←hby] at hbs
     have hjj:j≤16:=by omega
     obtain ⟨y,hy⟩:∃y,y=T / 256^j:=⟨_,rfl⟩;rw [←hy] at hsh hbs ⊢;have HE:=Qaa (And.intro hbs hsh)
     have i2:(8:Int)≤(d:Int):=by omega
     have hsub:IntKind.i64.wrap ((d:Int) - 8)=((d - 8:Nat):Int):=by rw [IntKind.wrap_i64];omega
     have hsz:=hon.size;clear hby hsh hbs hy;go_wp2_with (at_builtin;refine wpList_append_lies _ rfl _ _ _ rfl w.heap.size 5 i0 (.int .u8 0) 1 1 underlying22 hi hz0 hz1 hz2 rfl (by omega) _ j (bl (leB j (LV s))) rfl (hown.alloc _) ⟨wr.heap.size,0,none⟩ 1 1 [.int .u8 ((y:Int) % 256)] rfl rfl ?c1 ?c2 (by omega) ?c3 ?c4 ?c5 (wr.heap.size+1) (by simp) ?_)
     case c1=>exact cell_one_new _ _ _
     case c2=>intro u hu;simp at hu;subst hu;rfl
     case c3=>unfold maxLen;omega
     case c4=>omega
     case c5=>simp;omega
     intro g cap1 w1 hown1 hgrow hat hg1
     have N1:Hid (w1.ownsRow w.heap.size 5 1 (.slice (some ⟨g,0,none⟩) (j+1) cap1) (j+1) (bl (leB (j+1) (LV s)))∧Only (fun _=>False) w w1):=by
      refine ⟨?_,(hon.alloc _).grown hgrow (fun q hq e=>by have:=(hown.lt q e).1;omega)⟩;rw [HE.out.1];exact hown1
     clear hown hown1 hgrow hat hon;go_wp2
     go_roundw
     case rel=>exact ⟨j+1,d - 8,by omega,by go_num,by rw [←HE.out.2];go_num,N1.out⟩
     case measure=>simp [intOf];omega
    ·have hkj:26*(n+1) / 8=j∧26*(n+1) % 8=d:=by omega
     have N2:Hid (wr.ownsRow w.heap.size 5 1 u3 (26*(n+1) / 8) (bl (leB (26*(n+1) / 8) (LV s)))∧Only (fun _=>False) w wr):=by
      rw [hkj.1];exact ⟨hown,hon⟩
     have HKJ:=Qaa hkj
     have i2:¬(8:Int)≤(d:Int):=by omega
     clear hown hon hkj;go_wp2
     go_roundw
     case rel=>exact ⟨n+1,by omega,by go_num,by rw [HKJ.out.2],by rw [HKJ.out.1,HT.out.1],N2.out⟩
     case measure=>simp [intOf];omega
  ·obtain rfl:n=5:=by omega
   have F1:=Qaa (And.intro hown hon);clear hown hon;go_wp2;go_ret;exact ⟨_,rfl,F1.out⟩
theorem Qq2 (T s:List Nat) (i:Nat) (hi:i<s.length) (hT:i<T.length):(T.take i++s.drop i).set i (T.getD i 0)=T.take (i+1)++s.drop (i+1):=by
 have hl:(T.take i).length=i:=by rw [Yag];omega
 rw [QbP T i hT,List.set_append_right _ _ (by omega),hl,Nat.sub_self,List.drop_eq_getElem_cons hi,Yab,List.append_assoc]
 rfl
theorem QpK (T s:List Nat) (i:Nat) (hT:i<T.length):(T.take i++s.drop i).getD i 0=s.getD i 0:=by
 have hl:(T.take i).length=i:=by rw [Yag];omega
 simp only [Yad];rw [List.getElem?_append_right (by omega),hl,Nat.sub_self,List.getElem?_drop,Nat.add_zero]
theorem Qnd (T s:List Nat) (i n:Nat) (hT:T.length=n) (hs:s.length=n) (hi:i≤n):(T.take i++s.drop i).length=n:=by
 rw [Yae,Yag,Yai];omega
theorem Qf1 (a b:List Nat) (ha:a.length=5) (hb:b.length=5) (la:LB 4611686018427387904 a) (lb:LB 4611686018427387904 b) (w:World) :
  Calls prog 145 #[.agg (ul a).toArray,.agg (ul b).toArray] w fun e w'=>e=.returned (.agg (ul (pls a b)).toArray)∧Only (fun _=>False) w w':=by
 have hzv:=(zero_of_info (P:=prog) Tryz.zero34).1;obtain ⟨Z,hZ⟩:∃Z,Z=z5:=⟨_,rfl⟩;rw [←hZ] at hzv;obtain ⟨D,hD⟩:∃D,D=ul (pls a b):=⟨_,rfl⟩
 have HZ1:Hid ((prog.info? 188).map (·.size)=some D.toArray.size):=by
  show _=_
  rw [hD];simp [QaF,QaL,Tryz.size34]
 have HZ2:Hid (Z.toArray.size=D.toArray.size):=by
  show _=_
  rw [hD,hZ];simp [QaF,QaL,Qct]
 have HA:Hid (D.toArray.all (·.oneCell')=true):=by
  show _=_
  rw [hD];exact QbX _
 rw [←hD];have HD:=Qaa hD;have HS:=Qaa (And.intro ha (And.intro hb (And.intro la lb)));obtain ⟨A,hA⟩:∃A,A=ul a:=⟨_,rfl⟩;obtain ⟨B,hB⟩:∃B,B=ul b:=⟨_,rfl⟩;have HB:=Qaa (And.intro hA hB);rw [←hA,←hB];clear hZ hD hB hA ha hb la lb;go_enter func145,ntmps145;go_wp2_with fail
 have S0:Hid (Blk (((w.alloc (.cells A.toArray 188)).alloc (.cells B.toArray 188)).alloc (.cells Z.toArray 188)) w.heap.size 188 (ul ((pls a b).take 0++a.drop 0))∧Blk (((w.alloc (.cells A.toArray 188)).alloc (.cells B.toArray 188)).alloc (.cells Z.toArray 188)) (w.heap.size+1) 188 (ul b)∧Blk (((w.alloc (.cells A.toArray 188)).alloc (.cells B.toArray 188)).alloc (.cells Z.toArray 188)) (w.heap.size+1+1) 188 Z∧Only (fun _=>False) w (((w.alloc (.cells A.toArray 188)).alloc (.cells B.toArray 188)).alloc (.cells Z.toArray 188))):=by
  refine ⟨?_,?_,?_,(((Only.refl _ _).alloc _).alloc _).alloc _⟩
  ·show Blk _ _ _ (ul a)
   rw [←HB.out.1];exact ((Blk.new w 188 A).alloc _).alloc _
  ·rw [←HB.out.2]
   have:=(Blk.new (w.alloc (.cells A.toArray 188)) 188 B).alloc (.cells Z.toArray 188);rw [size_alloc] at this;exact this
  ·have:=Blk.new ((w.alloc (.cells A.toArray 188)).alloc (.cells B.toArray 188)) 188 Z
   rw [size_alloc,size_alloc] at this;exact this
 obtain ⟨R,hR⟩:∃R,R=w.heap.size+1+1:=⟨_,rfl⟩;rw [←hR] at S0 ⊢;obtain ⟨H,hH⟩:∃H,H=w.heap.size+1:=⟨_,rfl⟩;rw [←hH] at S0 ⊢;obtain ⟨G,hG⟩:∃G,G=w.heap.size:=⟨_,rfl⟩;have HG:Hid (w.heap.size≤G∧w.heap.size≤R∧R≠G∧H≠G):=⟨by omega,by omega,by omega,by omega⟩;rw [←hG] at S0 ⊢;obtain ⟨W0,hW0⟩:∃W0,W0=((w.alloc (.cells A.toArray 188)).alloc (.cells B.toArray 188)).alloc (.cells Z.toArray 188):=⟨_,rfl⟩;rw [←hW0] at S0 ⊢
 have hGH:¬G=H:=by omega
 clear hG hR hW0 hzv hH
 go_loopw [6] (fun i wr=>∃n:Nat,n≤5∧i=.int .i64 n∧Blk wr G 188 (ul ((pls a b).take n++a.drop n))∧Blk wr H 188 (ul b)∧Blk wr R 188 Z∧Only (fun _=>False) w wr) (fun i _=>5 - (intOf i).toNat)
 case atStart=>exact ⟨0,by omega,rfl,S0.out⟩
 case round =>
  obtain ⟨n,hn,rfl,hS,hQ,hR,hO⟩:=hrel;clear S0
  by_cases hlt:n<5
  ·have hll:=Qnd (pls a b) a n 5 (QaL _ _) HS.out.1 hn
   have hx:=HS.out.2.2.1 n;have hy:=HS.out.2.2.2 n
   have hc:wr.cell? ⟨G,n,none⟩=some (.int .u64 ((a.getD n 0:Nat):Int)):=by
    rw [hS.cell,ul_at _ _ (by rw [hll];exact hlt),QpK _ _ _ (by rw [QaL];exact hlt)]
   have hc2:wr.cell? ⟨H,n,none⟩=some (.int .u64 ((b.getD n 0:Nat):Int)):=by
    rw [hQ.cell,ul_at _ _ (by rw [HS.out.2.1];exact hlt)]
   have hf:=hS.froz n;have hsn:=Qq2 (pls a b) a n (by rw [HS.out.1];exact hlt) (by rw [QaL];exact hlt);rw [QeF _ _ _ hlt] at hsn;obtain ⟨x,hxx⟩:∃x,x=a.getD n 0:=⟨_,rfl⟩;obtain ⟨y,hyy⟩:∃y,y=b.getD n 0:=⟨_,rfl⟩;rw [←hxx] at hc hsn hx;rw [←hyy] at hsn hc2 hy;obtain ⟨v,hv⟩:∃v,v=x+y:=⟨_,rfl⟩;rw [←hv] at hsn
   have hadd:IntKind.u64.wrap ((x:Int)+(y:Int))=(v:Int):=by
    rw [show ((x:Int)+(y:Int))=((v:Nat):Int) by omega,wrap64 v (by omega)]
   have N1:Hid (Blk (wr.drew.setCell ⟨G,n,none⟩ (.int .u64 (v:Int))) G 188 (ul ((pls a b).take (n+1)++a.drop (n+1)))∧Blk (wr.drew.setCell ⟨G,n,none⟩ (.int .u64 (v:Int))) H 188 (ul b)∧Blk (wr.drew.setCell ⟨G,n,none⟩ (.int .u64 (v:Int))) R 188 Z∧Only (fun _=>False) w (wr.drew.setCell ⟨G,n,none⟩ (.int .u64 (v:Int)))):=by
    have oc:=((Only.refl (fun k=>k=G) wr).drew).setCell (p:=⟨G,n,none⟩) (fun _=>rfl) (.int .u64 (v:Int));refine ⟨?_,hQ.keep oc HG.out.2.2.2,hR.keep oc HG.out.2.2.1,hO.trans oc (fun i hi e=>by have:=HG.out.1;omega)⟩;have h:=hS.drew.set n (.int .u64 (v:Int));rw [QeS,hsn] at h;exact h
   have i1:(n:Int)<5:=by omega
   clear hS hR hO hQ hll hx hy hsn hxx hyy hv;go_wp2_with fail;go_region
   all_goals go_wp2
   all_goals go_roundw
   case rel=>exact ⟨n+1,by omega,by go_num,N1.out⟩
   case measure=>simp [intOf];omega
  ·obtain rfl:n=5:=by omega
   have S2:Hid (Blk wr G 188 D):=by
    have h:=hS;rw [List.take_of_length_le (by rw [QaL];exact Nat.le_refl _),List.drop_of_length_le (by rw [HS.out.1];exact Nat.le_refl _),List.append_nil,←HD.out] at h;exact h
   have R2:=Qaa hR;have O2:=Qaa hO;clear hS hR hO hQ;go_wp2_with (first|(refine wpList_load_row rfl 188 (.tmp 2) rfl G rfl 188 D.toArray (0,0) _ S2.out underlying188 rfl HZ1.out ?_)|(refine wpList_store_row rfl 188 (.tmp 4) (.tmp 18) rfl R D.toArray rfl rfl 188 Z.toArray R2.out HZ1.out HZ2.out HA.out ?_));refine bodyPost_ret (v:=.agg D.toArray) (results_cell_row rfl _ _ R 188 D.toArray (0,0) _ rfl (R2.out.row D) underlying188 rfl HZ1.out) rfl ⟨rfl,?_⟩;exact O2.out.setRow (fun h=>absurd h (by have:=HG.out.2.1;omega)) _
theorem Qib (s:List Nat) (hs:s.length=5) (hb:LB 67108864 s) (w:World) :
  Calls prog 146 #[.agg (ul s).toArray] w fun e w'=>e=.returned (.agg (ul (lst s)).toArray)∧Only (fun _=>False) w w':=by
 have hzv:=(zero_of_info (P:=prog) Tryz.zero34).1;obtain ⟨Z,hZ⟩:∃Z,Z=z5:=⟨_,rfl⟩;rw [←hZ] at hzv;have P5:=Qaa (fun W=>Qf1 s [5,0,0,0,0] hs rfl (hb.mono (by decide)) (LB.cons (by decide) (Qdm 4 _ (by decide))) W);have lp:LB 9223372036854775808 (pls s [5,0,0,0,0]):=Qjy (A:=67108864) (B:=6) hb (LB.cons (by decide) (Qdm 4 _ (by decide))) (by decide);have SE:=Qaa (fun W=>QbE (pls s [5,0,0,0,0]) (QaL _ _) lp W);have hcy:=Qg6 (pls s [5,0,0,0,0]) 0 lp (by decide);have EL:Hid (lst s=sdg (s.set 0 (s.getD 0 0+5*scy (pls s [5,0,0,0,0]) 0)) 0):=rfl;obtain ⟨c,hc⟩:∃c,c=scy (pls s [5,0,0,0,0]) 0:=⟨_,rfl⟩;obtain ⟨E,hE⟩:∃E,E=ul (sdg (pls s [5,0,0,0,0]) 0):=⟨_,rfl⟩
 have HE:Hid ((prog.info? 188).map (·.size)=some E.toArray.size∧Z.toArray.size=E.toArray.size∧E.toArray.all (·.oneCell')=true):=by
  rw [hE,hZ];exact ⟨QaW _ (by rw [QaV,QaL]),by simp [QaF,QaV,QaL,Qct],QbX _⟩
 rw [←hc,←hE] at SE;rw [←hc] at hcy EL;obtain ⟨PL,hPL⟩:∃PL,PL=ul (pls s [5,0,0,0,0]):=⟨_,rfl⟩;rw [←hPL] at P5 SE;have hx:=hb 0;have H0:=Qaa (ul_at s 0 (by rw [hs];decide));have HUS:=Qaa (QeS s 0);obtain ⟨x,hxx⟩:∃x,x=s.getD 0 0:=⟨_,rfl⟩;rw [←hxx] at hx H0 EL;obtain ⟨v,hv⟩:∃v,v=x+5*c:=⟨_,rfl⟩;rw [←hv] at EL
 have hml:IntKind.u64.wrap (5*(c:Int))=5*(c:Int):=by
  rw [show (5*(c:Int))=((5*c:Nat):Int) by omega,wrap64 _ (by omega)]
 have hadd:IntKind.u64.wrap ((x:Int)+5*(c:Int))=(v:Int):=by
  rw [show ((x:Int)+5*(c:Int))=((v:Nat):Int) by omega,wrap64 v (by omega)]
 have SV:=Qaa (fun W=>QbE (s.set 0 v) (by rw [List.length_set,hs]) ((hb.mono (by decide)).set 0 v (by omega)) W);rw [←EL.out] at SV;obtain ⟨D,hD⟩:∃D,D=ul (lst s):=⟨_,rfl⟩
 have HZ1:Hid ((prog.info? 188).map (·.size)=some D.toArray.size∧Z.toArray.size=D.toArray.size∧D.toArray.all (·.oneCell')=true):=by
  rw [hD,hZ];exact ⟨QaW _ (QeI s hs),by simp [QaF,QeI s hs,Qct],QbX _⟩
 rw [←hD] at SV ⊢;obtain ⟨V,hV⟩:∃V,V=ul (s.set 0 v):=⟨_,rfl⟩
 have HV:Hid ((prog.info? 188).map (·.size)=some V.toArray.size∧V.toArray.size=D.toArray.size):=by
  rw [hV,hD];exact ⟨QaW _ (by rw [List.length_set,hs]),by simp [QaF,QeI s hs,hs]⟩
 rw [←hV] at SV;obtain ⟨d,hd⟩:∃d,d=scy (s.set 0 v) 0:=⟨_,rfl⟩;rw [←hd] at SV;have HSZ:=Qaa (QaW s hs);obtain ⟨B,hB⟩:∃B,B=ul s:=⟨_,rfl⟩
 have HVS:Hid (B.set 0 (.int .u64 (v:Int))=V):=by
  show _=_
  rw [hB,HUS.out,hV]
 rw [←hB] at P5 H0 HSZ ⊢
 have KA:Hid (Blk ((w.alloc (.cells B.toArray 188)).alloc (.cells Z.toArray 188)) w.heap.size 188 B∧Blk ((w.alloc (.cells B.toArray 188)).alloc (.cells Z.toArray 188)) (w.heap.size+1) 188 Z∧Only (fun _=>False) w ((w.alloc (.cells B.toArray 188)).alloc (.cells Z.toArray 188))):=by
  refine ⟨(Blk.new w 188 B).alloc _,?_,((Only.refl _ _).alloc _).alloc _⟩;have:=Blk.new (w.alloc (.cells B.toArray 188)) 188 Z;rw [size_alloc] at this;exact this
 clear hZ hs hb lp hc hE hPL hx hxx hv hD hV hd hB EL HUS;go_enter func146,ntmps146;go_wp2_with (first|(refine wpList_load_row rfl 188 (.tmp 1) rfl w.heap.size rfl 188 B.toArray (0,0) _ KA.out.1 underlying188 rfl HSZ.out ?_)|(refine Qax rfl 188 _ rfl (ul [5,0,0,0,0]).toArray (by kernel_rfl) ?_));obtain ⟨R,hR⟩:∃R,R=w.heap.size+1:=⟨_,rfl⟩;rw [←hR] at KA ⊢;obtain ⟨G,hG⟩:∃G,G=w.heap.size:=⟨_,rfl⟩;have HG:Hid (w.heap.size≤G∧w.heap.size≤R∧R≠G):=⟨by omega,by omega,by omega⟩;rw [←hG] at KA ⊢;obtain ⟨W0,hW0⟩:∃W0,W0=(w.alloc (.cells B.toArray 188)).alloc (.cells Z.toArray 188):=⟨_,rfl⟩;rw [←hW0] at KA ⊢;clear hG hR hW0;refine (P5.out W0).mono ?_;rintro e w1 ⟨rfl,o1⟩;have K1:Hid (Blk w1 G 188 B∧Blk w1 R 188 Z∧Only (fun _=>False) w w1):=⟨KA.out.1.past o1,KA.out.2.1.past o1,KA.out.2.2.same o1⟩;clear o1 KA P5;go_wp2_with fail;refine (SE.out w1).mono ?_;rintro e w2 ⟨rfl,o2⟩;have K2:Hid (Blk w2 G 188 B∧Blk w2 R 188 Z∧Only (fun _=>False) w w2):=⟨K1.out.1.past o2,K1.out.2.1.past o2,K1.out.2.2.same o2⟩;clear o2 K1 SE;obtain ⟨W3,hW3⟩:∃W3,W3=(w2.alloc (.cells Z.toArray 188)).setRow w2.heap.size E.toArray:=⟨_,rfl⟩
 have o3:Only (fun _=>False) w2 W3:=by
  rw [hW3];exact ((Only.refl _ _).alloc _).setRow (fun h=>absurd h (Nat.lt_irrefl _)) _
 have K3:Hid (Blk W3 G 188 B∧Blk W3 R 188 Z∧Only (fun _=>False) w W3):=⟨K2.out.1.past o3,K2.out.2.1.past o3,K2.out.2.2.same o3⟩
 have hc3:W3.cell? ⟨G,0,none⟩=some (.int .u64 (x:Int)):=by rw [K3.out.1.cell,H0.out]
 have hf3:=K3.out.1.froz 0
 have K4:Hid (Blk (W3.setCell ⟨G,0,none⟩ (.int .u64 (v:Int))) G 188 V∧Blk (W3.setCell ⟨G,0,none⟩ (.int .u64 (v:Int))) R 188 Z∧Only (fun _=>False) w (W3.setCell ⟨G,0,none⟩ (.int .u64 (v:Int)))):=by
  have oc:=(Only.refl (fun k=>k=G) W3).setCell (p:=⟨G,0,none⟩) (fun _=>rfl) (.int .u64 (v:Int));refine ⟨?_,K3.out.2.1.keep oc HG.out.2.2,K3.out.2.2.trans oc (fun i hi e=>by have:=HG.out.1;omega)⟩;have h:=K3.out.1.set 0 (.int .u64 (v:Int));rw [HVS.out] at h;exact h
 clear o3;go_wp2_with (first|(refine wpList_store_row rfl 188 (.tmp 3) (.tmp 10) rfl w2.heap.size E.toArray rfl rfl 188 Z.toArray (Blk.new w2 188 Z) HE.out.1 HE.out.2.1 HE.out.2.2 ?_;rw [←hW3];clear hW3)|(refine wpList_load_row rfl 188 (.tmp 1) rfl G rfl 188 V.toArray (0,0) _ K4.out.1 underlying188 rfl HV.out.1 ?_));obtain ⟨W4,hW4⟩:∃W4,W4=W3.setCell ⟨G,0,none⟩ (.int .u64 (v:Int)):=⟨_,rfl⟩;rw [←hW4] at K4 ⊢;clear hW4 K2 K3;refine (SV.out W4).mono ?_;rintro e w5 ⟨rfl,o5⟩;have S5:=Qaa (K4.out.1.past o5);have R5:=Qaa (K4.out.2.1.past o5);have O5:=Qaa (K4.out.2.2.same o5);have S6:=Qaa (S5.out.row D);have R6:Hid (Blk (w5.setRow G D.toArray) R 188 Z):=R5.out.keep ((Only.refl (fun k=>k=G) _).setRow (fun _=>rfl) _) HG.out.2.2;clear o5 K4 SV;go_wp2_with (first|(refine wpList_store_row rfl 188 (.tmp 1) (.tmp 21) rfl G D.toArray rfl rfl 188 V.toArray S5.out HZ1.out.1 HV.out.2 HZ1.out.2.2 ?_)|(refine wpList_load_row rfl 188 (.tmp 1) rfl G rfl 188 D.toArray (0,0) _ S6.out underlying188 rfl HZ1.out.1 ?_)|(refine wpList_store_row rfl 188 (.tmp 2) (.tmp 23) rfl R D.toArray rfl rfl 188 Z.toArray R6.out HZ1.out.1 HZ1.out.2.1 HZ1.out.2.2 ?_));refine bodyPost_ret (v:=.agg D.toArray) (results_cell_row rfl _ _ R 188 D.toArray (0,0) _ rfl (R6.out.row D) underlying188 rfl HZ1.out.1) rfl ⟨rfl,?_⟩;exact (O5.out.setRow (fun h=>absurd h (by have:=HG.out.1;omega)) _).setRow (fun h=>absurd h (by have:=HG.out.2.1;omega)) _
theorem QhH (s:List Nat) (hs:s.length=5) (hb:LB 9223372036854775808 s) (w:World) :
  Calls prog 202 #[.agg (ul s).toArray] w fun e w'=>e=.returned (.agg (ul (crI 3 s)).toArray)∧Only (fun _=>False) w w':=by
 have hzv:=(zero_of_info (P:=prog) Tryz.zero34).1;obtain ⟨Z,hZ⟩:∃Z,Z=z5:=⟨_,rfl⟩;rw [←hZ] at hzv;obtain ⟨D,hD⟩:∃D,D=ul (crI 3 s):=⟨_,rfl⟩
 have HZ1:Hid ((prog.info? 188).map (·.size)=some D.toArray.size):=by
  show _=_
  rw [hD];simp [QaF,QeH,hs,Tryz.size34]
 have HZ2:Hid (Z.toArray.size=D.toArray.size):=by
  show _=_
  rw [hD,hZ];simp [QaF,QeH,hs,Qct]
 have HA:Hid (D.toArray.all (·.oneCell')=true):=by
  show _=_
  rw [hD];exact QbX _
 rw [←hD];have HD:=Qaa hD;have HS:=Qaa (And.intro hs hb);obtain ⟨B,hB⟩:∃B,B=ul s:=⟨_,rfl⟩;have HB:=Qaa hB;rw [←hB];clear hZ hD hB hs hb;go_enter func202,ntmps202;go_wp2_with fail
 have S0:Hid (Blk ((w.alloc (.cells B.toArray 188)).alloc (.cells Z.toArray 188)) w.heap.size 188 (ul (crI 0 s))∧Blk ((w.alloc (.cells B.toArray 188)).alloc (.cells Z.toArray 188)) (w.heap.size+1) 188 Z∧Only (fun _=>False) w ((w.alloc (.cells B.toArray 188)).alloc (.cells Z.toArray 188))):=by
  refine ⟨?_,?_,((Only.refl _ _).alloc _).alloc _⟩
  ·show Blk _ _ _ (ul s)
   rw [←HB.out];exact (Blk.new w 188 B).alloc _
  ·have:=Blk.new (w.alloc (.cells B.toArray 188)) 188 Z
   rw [size_alloc] at this;exact this
 obtain ⟨R,hR⟩:∃R,R=w.heap.size+1:=⟨_,rfl⟩;rw [←hR] at S0 ⊢;obtain ⟨G,hG⟩:∃G,G=w.heap.size:=⟨_,rfl⟩;have HG:Hid (w.heap.size≤G∧w.heap.size≤R∧R≠G):=⟨by omega,by omega,by omega⟩;rw [←hG] at S0 ⊢;obtain ⟨W0,hW0⟩:∃W0,W0=(w.alloc (.cells B.toArray 188)).alloc (.cells Z.toArray 188):=⟨_,rfl⟩;rw [←hW0] at S0 ⊢;clear hG hR hW0 hzv
 go_loopw [4] (fun i wr=>∃n:Nat,n≤3∧i=.int .i64 n∧Blk wr G 188 (ul (crI n s))∧Blk wr R 188 Z∧Only (fun _=>False) w wr) (fun i _=>3 - (intOf i).toNat)
 case atStart=>exact ⟨0,by omega,rfl,S0.out⟩
 case round =>
  obtain ⟨n,hn,rfl,hS,hR,hO⟩:=hrel;clear S0
  by_cases hlt:n<3
  ·have hl:(crI n s).length=5:=by rw [QeH,HS.out.1]
   have hbb:=Quo n s HS.out.2;have A:=Qaa (QbE (crI n s) hl hbb wr);have hcy:=Qg6 (crI n s) 0 hbb (by decide);have hdd:=QdR (crI n s) 0 0;have EN:Hid (crI (n+1) s=(sdg (crI n s) 0).set 0 ((sdg (crI n s) 0).getD 0 0+5*scy (crI n s) 0)):=rfl;obtain ⟨c,hc⟩:∃c,c=scy (crI n s) 0:=⟨_,rfl⟩;obtain ⟨d,hd⟩:∃d,d=sdg (crI n s) 0:=⟨_,rfl⟩
   have hdl:d.length=5:=by rw [hd,QaV,hl]
   rw [←hc] at A hcy EN;rw [←hd] at A hdd EN
   have HN:Hid ((prog.info? 188).map (·.size)=some (ul (crI n s)).toArray.size∧(prog.info? 188).map (·.size)=some (ul d).toArray.size∧(ul (crI n s)).toArray.size=(ul d).toArray.size∧(ul d).toArray.all (·.oneCell')=true) :=
    ⟨QaW _ hl,QaW _ hdl,by simp [QaF,hl,hdl],QbX _⟩
   have S1:=Qaa hS;have R1:=Qaa hR;have O1:=Qaa hO;obtain ⟨NN,hNN⟩:∃NN,NN=ul (crI n s):=⟨_,rfl⟩;rw [←hNN] at A HN S1;have hd0:(ul d)[0]? = some (.int .u64 ((d.getD 0 0:Nat):Int)):=ul_at d 0 (by rw [hdl];decide);have HUS:=Qaa (QeS d 0);obtain ⟨x,hx⟩:∃x,x=d.getD 0 0:=⟨_,rfl⟩;rw [←hx] at hd0 hdd EN;obtain ⟨DD,hDD⟩:∃DD,DD=ul d:=⟨_,rfl⟩;rw [←hDD] at A HN hd0 HUS;obtain ⟨v,hv⟩:∃v,v=x+5*c:=⟨_,rfl⟩
   have hml:IntKind.u64.wrap (5*(c:Int))=5*(c:Int):=by
    rw [show (5*(c:Int))=((5*c:Nat):Int) by omega,wrap64 _ (by omega)]
   have hadd:IntKind.u64.wrap ((x:Int)+5*(c:Int))=(v:Int):=by
    rw [show ((x:Int)+5*(c:Int))=((v:Nat):Int) by omega,wrap64 v (by omega)]
   rw [←hv] at EN
   have i1:(n:Int)<3:=by omega
   have HX0:=Qaa hd0;clear hS hR hO hl hbb hc hd hdl hNN hx hDD hv hd0;go_wp2_with (first|(refine wpList_load_row rfl 188 (.tmp 1) rfl G rfl 188 NN.toArray (0,0) _ S1.out underlying188 rfl HN.out.1 ?_));refine A.out.mono ?_;rintro e w1 ⟨rfl,o1⟩;have S2:=Qaa (S1.out.past o1);have R2:=Qaa (R1.out.past o1);have O2:=Qaa (O1.out.same o1);obtain ⟨W2,hW2⟩:∃W2,W2=w1.setRow G DD.toArray:=⟨_,rfl⟩
   have hb2:Blk W2 G 188 DD:=by rw [hW2];exact S2.out.row DD
   have hc2:W2.cell? ⟨G,0,none⟩=some (.int .u64 (x:Int)):=by rw [hb2.cell,HX0.out]
   have hf2:=hb2.froz 0
   have N1:Hid (Blk (W2.setCell ⟨G,0,none⟩ (.int .u64 (v:Int))) G 188 (ul (crI (n+1) s))∧Blk (W2.setCell ⟨G,0,none⟩ (.int .u64 (v:Int))) R 188 Z∧Only (fun _=>False) w (W2.setCell ⟨G,0,none⟩ (.int .u64 (v:Int)))):=by
    have oc:Only (fun k=>k=G) w1 (W2.setCell ⟨G,0,none⟩ (.int .u64 (v:Int))):=by
     rw [hW2];exact ((Only.refl (fun k=>k=G) w1).setRow (fun _=>rfl) _).setCell (p:=⟨G,0,none⟩) (fun _=>rfl) _
    refine ⟨?_,R2.out.keep oc HG.out.2.2,O2.out.trans oc (fun i hi e=>by have:=HG.out.1;omega)⟩;have h:=hb2.set 0 (.int .u64 (v:Int));rw [HUS.out,←EN.out] at h;exact h
   clear o1 S1 R1 O1 A hb2;go_wp2_with (first|(refine wpList_store_row rfl 188 (.tmp 1) (.tmp 9) rfl G DD.toArray rfl rfl 188 NN.toArray S2.out HN.out.2.1 HN.out.2.2.1 HN.out.2.2.2 ?_;rw [←hW2];clear hW2))
   go_roundw
   case rel=>exact ⟨n+1,by omega,by go_num,N1.out⟩
   case measure=>simp [intOf];omega
  ·obtain rfl:n=3:=by omega
   rw [←HD.out] at hS;have S2:=Qaa hS;have R2:=Qaa hR;have O2:=Qaa hO;clear hS hR hO;go_wp2_with (first|(refine wpList_load_row rfl 188 (.tmp 1) rfl G rfl 188 D.toArray (0,0) _ S2.out underlying188 rfl HZ1.out ?_)|(refine wpList_store_row rfl 188 (.tmp 2) (.tmp 18) rfl R D.toArray rfl rfl 188 Z.toArray R2.out HZ1.out HZ2.out HA.out ?_));refine bodyPost_ret (v:=.agg D.toArray) (results_cell_row rfl _ _ R 188 D.toArray (0,0) _ rfl (R2.out.row D) underlying188 rfl HZ1.out) rfl ⟨rfl,?_⟩;exact O2.out.setRow (fun h=>absurd h (by have:=HG.out.2.1;omega)) _
end Go.Proofs.YtnhapmboienipaaGreatDoor
