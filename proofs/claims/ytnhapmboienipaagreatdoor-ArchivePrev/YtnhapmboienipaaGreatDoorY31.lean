import Derived.Test.YtnhapmboienipaaGreatDoorY30
import Derived.Test.YtnhapmboienipaaGreatDoorProg
import Derived.Test.YtnhapmboienipaaGreatDoorY1
import Derived.Shelf.Bytes.SlSmallAll
import Derived.Deep.LoopGhost
import Derived.WalkMore
import Derived.Test.YtnhapmboienipaaGreatDoorY3
import Derived.Test.YtnhapmboienipaaGreatDoorY2
namespace Go.Proofs.YtnhapmboienipaaGreatDoor
set_option maxHeartbeats 1600000
set_option maxRecDepth 100000
open Go.RowKit _root_.Go.Proofs.Tryz
theorem Qqo (q:Nat):((2^q:Nat):Int)=(2:Int)^q:=by simp
theorem wrapU {x:Int} (h0:0≤x) (h1:x≤18446744073709551615):IntKind.u64.wrap x=x:=by
 rw [IntKind.wrap_u64];omega
theorem Qtk {s q:Nat} {zs:List Int} (hs:s<16) (h:Up q zs) (k:Nat) (hk:k≤zs.length):wacc s q (zs.take k)<2^(4+k*q):=by
 obtain ⟨r,h1,h2⟩:=QdE q (zs.take k) s (h.take k)
 have hl:(zs.take k).length=k:=by rw [Yag];omega
 rw [hl] at h1 h2;have:(s+1)*2^(k*q)≤16*2^(k*q):=Nat.mul_le_mul_right _ (by omega);rw [Nat.add_mul,Nat.one_mul] at this;rw [Nat.pow_add,show (2:Nat)^4=16 from rfl];omega
theorem QnX {s q:Nat} {zs:List Int} (hs:s<16) (h:Up q zs) (hw:zs.length*q≤60) (k:Nat) (hk:k<zs.length) :
  (wacc s q (zs.take k):Int)*2^q≤18446744073709551615∧bits .or .u64 ((wacc s q (zs.take k):Int)*2^q) (zs.getD k 0)=(wacc s q (zs.take (k+1)):Int):=by
 have h1:=Qtk hs h k (by omega);have hz:=h _ (Qfy zs k hk);have hn:=QjI hz;have hkq:(k+1)*q≤60:=Nat.le_trans (Nat.mul_le_mul_right q (by omega)) hw
 have h2:wacc s q (zs.take k)*2^q<2^64:=by
  have:=Nat.mul_lt_mul_of_pos_right h1 (Nat.two_pow_pos q);rw [←Nat.pow_add] at this;exact Nat.lt_of_lt_of_le this (Nat.pow_le_pow_right (by omega) (by rw [Nat.add_mul] at hkq;omega))
 have e64:(2:Nat)^64=18446744073709551616:=by decide
 have hq:2^q≤2^60:=Nat.pow_le_pow_right (by omega) (by
  have:1*q≤(k+1)*q:=Nat.mul_le_mul_right q (by omega)
  omega)
 have e60:(2:Nat)^60=1152921504606846976:=by decide
 rw [Qa4 zs k hk,Qnv];generalize zs.getD k 0=z at *;generalize wacc s q (zs.take k)=a at *;obtain ⟨m,rfl⟩:=Int.eq_ofNat_of_zero_le hz.1;rw [Int.toNat_natCast] at hn ⊢
 have e2:((a:Int)*2^q)=((a*2^q:Nat):Int):=by simp
 rw [e2];refine ⟨by omega,?_⟩;rw [u64_or_nat _ _ (by omega) (by omega),nat_join q _ _ (Nat.mul_mod_left _ _) hn]
theorem Qtl (s q:Nat) (v:Value) (zs:List Int) (w:World) (h:Bs .u64 w v zs) (hs:s<16) (hu:Up q zs) (hw:zs.length*q≤60) (hq:q≤60) (hl:zs.length≤240) :
  Calls prog 255 #[.int .i64 s,v,.int .i64 q] w fun e w'=>e=.returned (.int .u64 (wordN s q zs))∧w=w':=by
 obtain ⟨ao,cap,rfl⟩:=h.len;have HB:=Qaa h;have HU:=Qaa hu;have HW:=Qaa hw
 have FIN:Hid ((wacc s q zs:Int)*2^(60 - zs.length*q)=(wordN s q zs:Int)):=by simp only [Hid,wordN];simp
 have FLT:Hid (wordN s q zs<18446744073709551616):=Qp0 hs hu hw;obtain ⟨m,hm⟩:∃m,m=zs.length:=⟨_,rfl⟩;rw [←hm] at HB hl FIN ⊢;have HM:=Qaa hm
 have p0:(0:Int)≤(m:Int)*(q:Int):=by rw [←Int.natCast_mul];omega
 have p1:(m:Int)*(q:Int)≤60:=by rw [←Int.natCast_mul,hm];omega
 clear h hu hm hw
 have hq2:(q:Int)≤60:=by omega
 have hs2:(s:Int)≤15:=by omega
 go_enter func255,ntmps255;go_wp2
 go_loop [7,14] (fun a i=>∃k:Nat,k≤m∧i=.int .i64 k∧a=.int .u64 (wacc s q (zs.take k))) (fun _ i=>m - (intOf i).toNat)
 case atStart=>exact ⟨0,Nat.zero_le _,rfl,rfl⟩
 case round =>
  obtain ⟨k,hk,rfl,rfl⟩:=hrel
  by_cases hlt:k<m
  ·have hkx:k<zs.length:=by rw [←HM.out];exact hlt
   obtain ⟨b,off,cap',e1,c0⟩:=(HB.out).at k hkx;simp only [Value.slice.injEq] at e1;obtain ⟨rfl,e2,rfl⟩:=e1;clear e2;obtain ⟨hsh,hst⟩:=QnX hs HU.out HW.out k hkx;have hz:=HU.out _ (Qfy zs k hkx);have HST:=Qaa hst;generalize zs.getD k 0=x at c0 HST hz;generalize wacc s q (zs.take k)=a at hsh HST
   have i0:(0:Int)≤(k:Int):=by omega
   have i1:(k:Int)<(m:Int):=by omega
   have hz0:=hz.1;clear hst hkx hz
   have h00:0≤(a:Int)*2^q:=by rw [←Qqo,←Int.natCast_mul];omega
   go_wp2
   go_round
   case rel=>exact ⟨k+1,by omega,by go_num,by rw [HST.out]⟩
   case measure=>simp [intOf];omega
  ·have hkm:k=m:=by omega
   subst hkm;rw [HM.out,List.take_length,←HM.out];generalize wacc s q zs=a at FIN;go_wp2;go_ret;refine ⟨Qa0 ?_,rfl⟩;rw [FIN.out,wrapU (by omega) (by have:=FLT.out;omega)]
theorem QiE (v:Value) (xs:List Int) (w:World) (h:Bs .u64 w v xs) (hl:65536<xs.length) :
  Calls prog 224 #[v] w fun e w'=>e=.returned (.tuple #[.slice none 0 0,.int .i64 4])∧w=w':=by
 obtain ⟨ao,cap,rfl⟩:=h.len
 have d:decide (65536<(xs.length:Int))=true:=by simp;omega
 generalize xs.length=n at *;clear h;go_enter func224,ntmps224;go_wp2;go_ret2;exact ⟨rfl,rfl⟩
theorem Qk0 (v:Value) (xs:List Int) (w:World) (h:Bs .u64 w v xs) (hu:∀x∈xs,0≤x∧x≤18446744073709551615) (hl:xs.length≤65536) (hs:small 60 xs=false) :
  Calls prog 224 #[v] w fun e w'=>e=.returned (.tuple #[.slice none 0 0,.int .i64 1])∧w=w':=by
 have A:=Qaa (Qc6 v xs 60 w h hu (by omega) (by omega));rw [hs] at A;obtain ⟨ao,cap,rfl⟩:=h.len
 have d:decide (65536<(xs.length:Int))=false:=by simp;omega
 generalize xs.length=n at *;clear h;go_enter func224,ntmps224;go_wp2_with fail;refine A.out.mono ?_;rintro e w1 ⟨rfl,rfl⟩;go_wp2;go_ret2;exact ⟨rfl,rfl⟩
theorem QnY (v:Value) (xs:List Int) (w:World) (h:Bs .u64 w v xs) (hu:Up 60 xs) (hl:xs.length≤65536) :
  Calls prog 224 #[v] w fun e w'=>∃v',e=.returned (.tuple #[v',.int .i64 0])∧w'.ownsRow w.heap.size 5 1 v' (enc xs).length ((enc xs).map (Value.int .u8))∧Only (fun _=>False) w w':=by
 obtain ⟨i0,hi,hz0,hz1,hz2⟩:=info_parts Tryz.infoU8;have A:=Qaa (Qc6 v xs 60 w h (fun x hx=>⟨(hu x hx).1,by have:=(hu x hx).2;omega⟩) (by omega) (by omega));rw [QjH hu] at A;have HEL:=Qaa (Qnx xs.length xs rfl hu).2.1;obtain ⟨ao,cap,rfl⟩:=h.len;have HB:=Qaa h;have HU:=Qaa hu
 have d:decide (65536<(xs.length:Int))=false:=by simp;omega
 obtain ⟨m,hm⟩:∃m,m=xs.length:=⟨_,rfl⟩;rw [←hm] at HB hl d A HEL ⊢;have HM:=Qaa hm;clear h hu hm;go_enter func224,ntmps224;go_wp2_with fail;refine A.out.mono ?_;rintro e w1 ⟨rfl,rfl⟩;clear A;go_wp2
 go_loopw [0,4] (fun l o wr=>∃(zs done:List Int) (ao:Option Addr) (cap:Nat),done++enc zs=enc xs∧Up 60 zs∧l=.slice ao zs.length cap∧zs.length≤m∧Bs .u64 w (.slice ao zs.length cap) zs∧wr.ownsRow w.heap.size 5 1 o done.length (done.map (Value.int .u8))∧Only (fun _=>False) w wr) (fun l _ _=>(match l with | .slice _ n _=>n | _=>0))
 case atStart=>exact ⟨xs,[],ao,cap,rfl,HU.out,by rw [HM.out],by rw [←HM.out];omega,by rw [←HM.out];exact HB.out,World.ownsRow_nil _ _ _ _,Only.refl _ _⟩
 case round =>
  obtain ⟨zs,done,ao,cap,hdone,hup,rfl,hzm,hbs,hown,hon⟩:=hrel;clear HB HU
  by_cases hz:zs=[]
  ·subst hz
   have d0:decide (0<(([]:List Int).length:Int))=false:=by simp
   rw [Qiy,List.append_nil] at hdone;rw [hdone] at hown;obtain ⟨a6,c6,e6⟩:=(Bs.of_own hown).len;subst e6;have H:=Qaa (And.intro hown hon);clear hown hon hdone hbs;simp only [List.length_nil];go_wp2;go_ret2;exact ⟨_,rfl,H.out⟩
  ·have hpos:0<zs.length:=List.length_pos_iff.2 hz
   obtain ⟨f1,f2,f3⟩:=QbW hz hup;obtain ⟨g1,g2,g3,g4,_⟩:=QcZ _ f1;have LS:=Qaa (Qgu _ zs wr (hbs.keep hon (fun _ _ f=>f)) hup hz (by omega))
   have htl:(zs.take (cn (least zs))).length=cn (least zs):=by rw [Yag];omega
   have WF:Hid (∀w2,Only (fun _=>False) w w2→Calls prog 255 #[.int .i64 (least zs),.slice ao (cn (least zs)) cap,.int .i64 (swi (least zs))] w2 fun e w'=>e=.returned (.int .u64 (wd0 zs))∧w2=w') :=
    fun w2 o2=>Qtl (least zs) (swi (least zs)) _ (zs.take (cn (least zs))) w2 ((hbs.head (n:=cn (least zs)) f2).keep o2 (fun _ _ f=>f)) f1 f3 (by rw [htl];exact g4) g3 (by rw [htl];omega)
   have RM:Hid (∀w2,Calls prog 254 #[.int .i64 (least zs)] w2 fun e w'=>e=.returned (.tuple #[.int .i64 (cn (least zs)),.int .i64 (swi (least zs))])∧Only (fun _=>False) w2 w'):=fun w2=>QsL (least zs) w2 f1
   have ES:Hid (done++fixL (wd0 zs) 8++enc (zs.drop (cn (least zs)))=enc xs):=by simp only [Hid];rw [←hdone,Qf6 hz hup,List.append_assoc]
   have HUD:Hid (Up 60 (zs.drop (cn (least zs)))):=hup.drop _
   have HDL:Hid (done.length≤8*m):=by
    have h1:=congrArg List.length hdone;rw [Yae] at h1;have:=HEL.out;simp only [Hid];omega
   have hcap:=hbs.cap_le;have HBS:=Qaa hbs;have HOWN:=Qaa hown;have HON:=Qaa hon;obtain ⟨n,hn⟩:∃n,n=zs.length:=⟨_,rfl⟩;have HNL:=Qaa hn;rw [←hn] at LS hcap HBS hpos hzm f2 ⊢;generalize cn (least zs)=c at *;generalize swi (least zs)=q at *;generalize least zs=s at *;generalize wd0 zs=x at *
   have d0:decide (0<(n:Int))=true:=by simp;omega
   have j0:(0:Int)≤(c:Int):=by omega
   have j1:(c:Int)≤(n:Int):=by omega
   have j2:(c:Int)≤(cap:Int):=by omega
   clear hbs hown hon hdone hup hn hz f1 f3 g4 htl
   by_cases hcc:cap=c
   ·subst hcc
    go_wp2_with fail;refine LS.out.mono ?_;rintro e w2 ⟨rfl,o2⟩;have O2:=Qaa (HON.out.trans o2 (fun _ _ f=>f));have OW2:=Qaa (o2.own HOWN.out (fun _ _ f=>f));clear o2 LS HON HOWN;go_wp2_with fail;refine (RM.out w2).mono ?_;rintro e w3 ⟨rfl,o3⟩;have O3:=Qaa (O2.out.trans o3 (fun _ _ f=>f));have OW3:=Qaa (o3.own OW2.out (fun _ _ f=>f));clear o3 O2 OW2 RM;go_wp2_with fail;refine (WF.out w3 O3.out).mono ?_;rintro e w3' ⟨rfl,rfl⟩;clear WF;go_wp2_with fail;refine (Qbx x 8 w3 (by omega)).mono ?_;rintro e w4 ⟨u,rfl,own4,o4⟩;have ow:=o4.own OW3.out (fun _ _ f=>f);have hb4:=Bs.of_own own4;have NC4:=Qaa (NoCap.of_own own4);have HB4:=Qaa hb4;have hs4:w.heap.size≤w4.heap.size:=Nat.le_trans O3.out.size o4.size;have O4:=Qaa (O3.out.trans o4 (fun _ _ f=>f));obtain ⟨a4,c4,e4⟩:=hb4.len;subst e4;clear o4 own4 O3 OW3 hb4;rw [Qag] at HB4 NC4;go_wp2_with (at_builtin;refine Qab _ rfl _ _ _ rfl w.heap.size 5 i0 (.int .u8 0) 1 underlying22 hi hz0 hz1 hz2 rfl _ _ _ rfl ow .u8 _ (fixL x 8) rfl HB4.out NC4.out ?c3 ?c4 hs4 ?_)
    case c3=>have:=HDL.out;rw [Qag];unfold maxLen;omega
    case c4=>have:=HDL.out;rw [Qag];omega
    intro v6 w6 own6 hgrow6 _ _
    have OWN6:Hid (w6.ownsRow w.heap.size 5 1 v6 (done++fixL x 8).length ((done++fixL x 8).map (Value.int .u8))):=by
     simp only [Hid];rw [Yae,List.map_append];exact own6
    have O6:=Qaa (O4.out.grown hgrow6 (fun k hk e=>absurd (ow.lt k e).1 (by omega)));clear ow own6 hgrow6;go_wp2
    go_roundw
    case rel =>
     refine ⟨zs.drop cap,done++fixL x 8,ao,0,ES.out,HUD.out,?_,by rw [Yai,←HNL.out];omega,?_,OWN6.out,O6.out⟩
     ·rw [Yai,←HNL.out,show n - cap=0 by omega]
     ·rw [Yai,←HNL.out]
      exact (Nat.sub_self cap▸HBS.out.cut0 f2)
    case measure =>
     simp only [];omega
   ·go_wp2_with fail
    refine LS.out.mono ?_;rintro e w2 ⟨rfl,o2⟩;have O2:=Qaa (HON.out.trans o2 (fun _ _ f=>f));have OW2:=Qaa (o2.own HOWN.out (fun _ _ f=>f));clear o2 LS HON HOWN;go_wp2_with fail;refine (RM.out w2).mono ?_;rintro e w3 ⟨rfl,o3⟩;have O3:=Qaa (O2.out.trans o3 (fun _ _ f=>f));have OW3:=Qaa (o3.own OW2.out (fun _ _ f=>f));clear o3 O2 OW2 RM;go_wp2_with fail;refine (WF.out w3 O3.out).mono ?_;rintro e w3' ⟨rfl,rfl⟩;clear WF;go_wp2_with fail;refine (Qbx x 8 w3 (by omega)).mono ?_;rintro e w4 ⟨u,rfl,own4,o4⟩;have ow:=o4.own OW3.out (fun _ _ f=>f);have hb4:=Bs.of_own own4;have NC4:=Qaa (NoCap.of_own own4);have HB4:=Qaa hb4;have hs4:w.heap.size≤w4.heap.size:=Nat.le_trans O3.out.size o4.size;have O4:=Qaa (O3.out.trans o4 (fun _ _ f=>f));obtain ⟨a4,c4,e4⟩:=hb4.len;subst e4;clear o4 own4 O3 OW3 hb4;rw [Qag] at HB4 NC4;go_wp2_with (at_builtin;refine Qab _ rfl _ _ _ rfl w.heap.size 5 i0 (.int .u8 0) 1 underlying22 hi hz0 hz1 hz2 rfl _ _ _ rfl ow .u8 _ (fixL x 8) rfl HB4.out NC4.out ?c3 ?c4 hs4 ?_)
    case c3=>have:=HDL.out;rw [Qag];unfold maxLen;omega
    case c4=>have:=HDL.out;rw [Qag];omega
    intro v6 w6 own6 hgrow6 _ _
    have OWN6:Hid (w6.ownsRow w.heap.size 5 1 v6 (done++fixL x 8).length ((done++fixL x 8).map (Value.int .u8))):=by
     simp only [Hid];rw [Yae,List.map_append];exact own6
    have O6:=Qaa (O4.out.grown hgrow6 (fun k hk e=>absurd (ow.lt k e).1 (by omega)));clear ow own6 hgrow6;go_wp2
    go_roundw
    case rel =>
     refine ⟨zs.drop c,done++fixL x 8,ao.map (fun x=>x.add c),cap - c,ES.out,HUD.out,?_,by rw [Yai,←HNL.out];omega,?_,OWN6.out,O6.out⟩
     ·rw [Yai,←HNL.out]
     ·rw [Yai,←HNL.out]
      exact HBS.out.cut f2
    case measure =>
     simp only [];omega
theorem Qi6:∀(xs ys:List Int),(∀x∈xs,0≤x∧x≤255)→(∀y∈ys,0≤y∧y≤255)→(xs.map fun n=>UInt8.ofNat n.toNat)=(ys.map fun n=>UInt8.ofNat n.toNat)→xs=ys
 | [],[],_,_,_=>rfl
 | [],y :: ys,_,_,h=>by simp at h
 | x :: xs,[],_,_,h=>by simp at h
 | x :: xs,y :: ys,hx,hy,h=>by
  simp only [List.map_cons,List.cons.injEq] at h;have h1:=hx x List.mem_cons_self;have h2:=hy y List.mem_cons_self
  have e:x.toNat % 256=y.toNat % 256:=by
   have:=congrArg UInt8.toNat h.1
   simpa using this
  have e2:x=y:=by omega
  rw [e2,Qi6 xs ys (fun a ha=>hx a (List.mem_cons_of_mem _ ha)) (fun a ha=>hy a (List.mem_cons_of_mem _ ha)) h.2]
theorem Qoz (xs ys:List Int) (hx:∀x∈xs,0≤x∧x≤255) (hy:∀y∈ys,0≤y∧y≤255):((strOfNums xs).toList == (strOfNums ys).toList)=decide (xs=ys):=by
 rw [Lib.strOfNums_toList,Lib.strOfNums_toList]
 by_cases h:xs=ys
 ·subst h;simp
 ·rw [Yak h]
  have:Lib.bytesOf xs≠Lib.bytesOf ys:=fun e=>h (Qi6 xs ys hx hy e)
  simp [this]
theorem QqH (src dst e:TypeId) (va:Value) (xs:List Int) (w:World) (h:Bs .u8 w va xs) (hs:prog.underlying src=some (.slice e)) (he:prog.underlying e=some (.int .u8)) (hd:prog.underlying dst=some .string) :
  (convert src dst va).run prog w=.ok (.string (strOfNums xs)) w:=by
 obtain ⟨ao,cap,rfl,hc,hr⟩:=h
 by_cases h0:xs=[]
 ·subst h0
  exact run_convert_bytes_zero w src e hs he ao cap dst hd
 ·obtain ⟨b,off,rfl,hcell⟩:=hr h0
  exact run_convert_bytes_arg (P:=prog) w src e hs he b off _ cap xs rfl hcell dst hd
theorem Qi7 (va vb:Value) (xs ys:List Int) (w:World) (ha:Bs .u8 w va xs) (hb:Bs .u8 w vb ys) (hx:∀x∈xs,0≤x∧x≤255) (hy:∀y∈ys,0≤y∧y≤255) :
  Calls prog 28 #[va,vb] w fun e w'=>e=.returned (.bool (decide (xs=ys)))∧w=w':=by
 have h1:=QqH 22 9 5 va xs w ha underlying22 underlying5 underlying9;have h2:=QqH 22 9 5 vb ys w hb underlying22 underlying5 underlying9;rw [←Qoz xs ys hx hy];clear ha hb hx hy;go_enter func28,ntmps28;go_wp2;go_ret;exact ⟨rfl,rfl⟩
theorem QsT (va vb:Value) (xs:List Int) (w:World) (ha:Bs .u8 w va xs) (hb:Bs .u8 w vb xs) (hl:xs.length≤140737488355328) :
  Calls prog 31 #[va,vb] w fun e w'=>e=.returned (.bool true)∧Only (fun _=>False) w w':=by
 obtain ⟨aoa,ca,rfl,hca,hra⟩:=ha;obtain ⟨aob,cb,rfl,hcb,hrb⟩:=hb
 have hbn:((xs.length:Int) != (xs.length:Int))=false:=by simp
 by_cases hx:xs=[]
 ·subst hx
  clear hra hrb;simp only [List.length_nil];go_enter func31,ntmps31;go_wp2
  go_loop [5] (fun i=>i=.int .i64 0) (fun _=>0)
  case atStart=>rfl
  case round =>
   subst hrel;go_wp2;go_ret;exact ⟨rfl,Only.refl _ _⟩
 ·obtain ⟨ba,oa,rfl,hcella⟩:=hra hx
  obtain ⟨bb,ob,rfl,hcellb⟩:=hrb hx;clear hra hrb hx;obtain ⟨n,hn⟩:∃n,n=xs.length:=⟨_,rfl⟩;rw [←hn] at hbn hca hcb hcella hcellb hl ⊢;have HA:Hid (∀j,j<n→w.cell? ⟨ba,oa+j,none⟩=some (.int .u8 (xs.getD j 0))):=hcella;have HB:Hid (∀j,j<n→w.cell? ⟨bb,ob+j,none⟩=some (.int .u8 (xs.getD j 0))):=hcellb;clear hcella hcellb hn;go_enter func31,ntmps31;go_wp2
  go_loopw [5] (fun i wr=>∃k:Nat,k≤n∧i=.int .i64 k∧Only (fun _=>False) w wr) (fun i _=>n - (intOf i).toNat)
  case atStart=>exact ⟨0,Nat.zero_le _,rfl,Only.refl _ _⟩
  case round =>
   obtain ⟨k,hk,rfl,hon⟩:=hrel
   by_cases hlt:k<n
   ·obtain ⟨y,hy⟩:∃y,y=xs.getD k 0:=⟨_,rfl⟩
    have h1:wr.cell? ⟨ba,oa+k,none⟩=some (.int .u8 y):=by
     have:=HA.out k hlt;rw [World.cell?_of_block (hon.block ba (World.block_lt_of_cell? w _ this) (fun f=>f)),hy];exact this
    have h2:wr.cell? ⟨bb,ob+k,none⟩=some (.int .u8 y):=by
     have:=HB.out k hlt;rw [World.cell?_of_block (hon.block bb (World.block_lt_of_cell? w _ this) (fun f=>f)),hy];exact this
    have i0:(0:Int)≤(k:Int):=by omega
    have i1:(k:Int)<(n:Int):=by omega
    have hy1:(y != y)=false:=by simp
    clear hy;go_wp2;go_quiet (fail);go_wp2
    go_roundw
    case rel=>exact ⟨k+1,by omega,by go_num,hon.drewN nq⟩
    case measure=>simp [intOf];omega
   ·go_wp2
    go_ret;exact ⟨rfl,hon⟩
theorem QpU (va vb:Value) (xs ys:List Int) (w:World) (ha:Bs .u8 w va xs) (hb:Bs .u8 w vb ys) (h:xs.length≠ys.length) :
  Calls prog 31 #[va,vb] w fun e w'=>e=.returned (.bool false)∧Only (fun _=>False) w w':=by
 obtain ⟨aoa,ca,rfl⟩:=ha.len;obtain ⟨aob,cb,rfl⟩:=hb.len
 have hbn:((xs.length:Int) != (ys.length:Int))=true:=by simp;omega
 clear ha hb h;generalize xs.length=n at *;generalize ys.length=m at *;go_enter func31,ntmps31;go_wp2;go_ret;exact ⟨rfl,Only.refl _ _⟩
theorem QsU (va vb:Value) (xs ys:List Int) (w:World) (ha:Bs .u8 w va xs) (hb:Bs .u8 w vb ys) (hlen:ys.length=xs.length) (hl:xs.length≤140737488355328) (hne:xs≠ys) :
  Calls prog 31 #[va,vb] w fun e w'=>e=.returned (.bool false)∧Only (fun _=>False) w w':=by
 obtain ⟨aoa,ca,rfl,hca,hra⟩:=ha;obtain ⟨aob,cb,rfl,hcb,hrb⟩:=hb
 have hx:xs≠[]:=by
  intro h0;subst h0;exact hne (List.eq_nil_of_length_eq_zero hlen).symm
 have hy:ys≠[]:=by
  intro h0;subst h0;exact hx (List.eq_nil_of_length_eq_zero hlen.symm)
 obtain ⟨ba,oa,rfl,hcella⟩:=hra hx;obtain ⟨bb,ob,rfl,hcellb⟩:=hrb hy
 have HD:Hid (¬∀j,j<xs.length→xs.getD j 0=ys.getD j 0):=by
  intro h
  apply hne
  apply List.ext_getElem hlen.symm
  intro i h1 h2;have:=h i h1;rw [Yad,Yad,Yaf h1,Yaf h2] at this;exact this
 rw [hlen] at hcb hcellb ⊢
 have hbn:((xs.length:Int) != (xs.length:Int))=false:=by simp
 clear hra hrb hx hy hne hlen;obtain ⟨n,hn⟩:∃n,n=xs.length:=⟨_,rfl⟩;rw [←hn] at hbn hca hcb hcella hcellb hl HD ⊢;have HA:Hid (∀j,j<n→w.cell? ⟨ba,oa+j,none⟩=some (.int .u8 (xs.getD j 0))):=hcella;have HB:Hid (∀j,j<n→w.cell? ⟨bb,ob+j,none⟩=some (.int .u8 (ys.getD j 0))):=hcellb;clear hcella hcellb hn;go_enter func31,ntmps31;go_wp2
 go_loopw [5] (fun i wr=>∃k:Nat,k≤n∧i=.int .i64 k∧Only (fun _=>False) w wr∧∀j,j<k→xs.getD j 0=ys.getD j 0) (fun i _=>n - (intOf i).toNat)
 case atStart=>exact ⟨0,Nat.zero_le _,rfl,Only.refl _ _,fun j hj=>absurd hj (by omega)⟩
 case round =>
  obtain ⟨k,hk,rfl,hon,hall⟩:=hrel;have HALL:=Qaa hall;clear hall
  by_cases hlt:k<n
  ·obtain ⟨y,hy⟩:∃y,y=xs.getD k 0:=⟨_,rfl⟩
   obtain ⟨z,hz⟩:∃z,z=ys.getD k 0:=⟨_,rfl⟩
   have h1:wr.cell? ⟨ba,oa+k,none⟩=some (.int .u8 y):=by
    have:=HA.out k hlt;rw [World.cell?_of_block (hon.block ba (World.block_lt_of_cell? w _ this) (fun f=>f)),hy];exact this
   have h2:wr.cell? ⟨bb,ob+k,none⟩=some (.int .u8 z):=by
    have:=HB.out k hlt;rw [World.cell?_of_block (hon.block bb (World.block_lt_of_cell? w _ this) (fun f=>f)),hz];exact this
   have i0:(0:Int)≤(k:Int):=by omega
   have i1:(k:Int)<(n:Int):=by omega
   by_cases hyz:y=z
   ·have HE:=Qaa (show xs.getD k 0=ys.getD k 0 by rw [←hy,←hz];exact hyz)
    subst hyz
    have hy1:(y != y)=false:=by simp
    clear hy hz;go_wp2;go_quiet (fail);go_wp2
    go_roundw
    case rel=>exact ⟨k+1,by omega,by go_num,hon.drewN nq,fun j hj=>by
     rcases Nat.lt_or_ge j k with h | h
     ·exact HALL.out j h
     ·rw [show j=k by omega];exact HE.out⟩
    case measure=>simp [intOf];omega
   ·have hy1:(y != z)=true:=by simpa using hyz
    clear hy hz hyz;go_wp2;go_quiet (fail);go_wp2;go_ret;exact ⟨rfl,hon.drewN nq⟩
  ·exact absurd (fun j hj=>HALL.out j (by omega)) HD.out
theorem QjF (va vb:Value) (xs ys:List Int) (w:World) (ha:Bs .u8 w va xs) (hb:Bs .u8 w vb ys) (hl:xs.length≤140737488355328) :
  Calls prog 31 #[va,vb] w fun e w'=>e=.returned (.bool (decide (xs=ys)))∧Only (fun _=>False) w w':=by
 by_cases h:xs=ys
 ·subst h
  rw [Yaj rfl];exact QsT va vb xs w ha hb hl
 ·rw [Yak h]
  by_cases hlen:ys.length=xs.length
  ·exact QsU va vb xs ys w ha hb hlen hl h
  ·exact QpU va vb xs ys w ha hb (fun e=>hlen e.symm)
def ENC (xs:List Int):List Int × Int:=if 65536<xs.length then ([],4) else if small 60 xs=true then (enc xs,0) else ([],1)
def DEC (ys:List Int) (n:Int):List Int × Int:=if n<0∨65536<n then ([],1) else dec ys n.toNat
theorem QkS (v:Value) (xs:List Int) (w:World) (h:Bs .u64 w v xs) (hu:U64 xs) :
  Calls prog 224 #[v] w fun e w'=>∃v',e=.returned (.tuple #[v',.int .i64 (ENC xs).2])∧w'.ownsRow w.heap.size 5 1 v' (ENC xs).1.length ((ENC xs).1.map (Value.int .u8))∧Only (fun _=>False) w w':=by
 unfold ENC
 by_cases hl:65536<xs.length
 ·rw [if_pos hl]
  refine (QiE v xs w h hl).mono ?_;rintro e w' ⟨rfl,rfl⟩;exact ⟨_,rfl,World.ownsRow_nil _ _ _ _,Only.refl _ _⟩
 ·rw [if_neg hl]
  by_cases hs:small 60 xs=true
  ·rw [if_pos hs]
   exact QnY v xs w h (Qf5 hs (fun x hx=>(hu x hx).1)) (by omega)
  ·rw [if_neg hs]
   refine (Qk0 v xs w h hu (by omega) (by simpa using hs)).mono ?_;rintro e w' ⟨rfl,rfl⟩;exact ⟨_,rfl,World.ownsRow_nil _ _ _ _,Only.refl _ _⟩
theorem Qq6 {xs:List Int} (h0:∀x∈xs,0≤x) (h:(ENC xs).2=0):ENC xs=(enc xs,0)∧Up 60 xs∧xs.length≤65536:=by
 unfold ENC at *
 by_cases hl:65536<xs.length
 ·rw [if_pos hl] at h;cases h
 ·rw [if_neg hl] at h ⊢
  by_cases hs:small 60 xs=true
  ·rw [if_pos hs];exact ⟨rfl,Qf5 hs h0,by omega⟩
  ·rw [if_neg hs] at h;cases h
theorem Qtc {xs:List Int} (h0:∀x∈xs,0≤x):(ENC xs).1.length≤600000:=by
 by_cases h:(ENC xs).2=0
 ·obtain ⟨e,hu,hl⟩:=Qq6 h0 h
  rw [e];have:=(Qnx xs.length xs rfl hu).2.1;simp only;omega
 ·unfold ENC at *
  by_cases hl:65536<xs.length
  ·rw [if_pos hl];decide
  ·rw [if_neg hl] at h ⊢
   by_cases hs:small 60 xs=true
   ·rw [if_pos hs] at h;exact absurd rfl h
   ·rw [if_neg hs];decide
theorem Qcq (l:List Int) (k:Nat) (h:k<l.length):l.getD k 0∈l:=by
 rw [Yad,Yaf h];simp
theorem Qni (v:Int) (c:Nat) (w:World) (h0:0≤v) (h1:v≤18446744073709551615) (c0:1≤c) (c1:c≤65536) :
  Calls prog 256 #[.int .u64 v,.int .i64 c] w fun e w'=>∃v',e=.returned v'∧w'.ownsRow w.heap.size 5 1 v' (gs v.toNat++gs (c - 1)).length ((gs v.toNat++gs (c - 1)).map (Value.int .u8))∧Only (fun _=>False) w w':=by
 have A:=Qaa (Qaz (.slice none 0 0) [] v w (Bs.nil _ _) NoCap.nil (by simp) h0 h1);have H10:=Qaa (QaC (v:=v.toNat) (by omega));obtain ⟨m,rfl⟩:∃m,c=m+1:=⟨c - 1,by omega⟩;rw [Nat.add_sub_cancel]
 have em:((m+1:Nat):Int) - 1=(m:Int):=by omega
 go_enter func256,ntmps256;go_wp2_with fail;refine A.out.mono ?_;rintro e w1 ⟨v1,rfl,own1,o1⟩;rw [List.nil_append] at own1;have B:=Qaa (Qaz v1 (gs v.toNat) m w1 (Bs.of_own own1) (NoCap.of_own own1) (by have:=H10.out;omega) (by omega) (by omega));have O1:=Qaa o1;clear A own1 o1;go_wp2_with fail;refine B.out.mono ?_;rintro e w2 ⟨v2,rfl,own2,o2⟩;rw [Int.toNat_natCast] at own2;have F:=Qaa (And.intro (Qaf own2 O1.out.size) (O1.out.trans o2 (fun _ _ f=>f)));clear B own2 o2;go_wp2;go_ret;exact ⟨_,rfl,F.out⟩
theorem Qf2 (v:Value) (xs:List Int) (w:World) (h:Bs .u64 w v xs) (hu:U64 xs) (hl:xs.length≤65536) :
  Calls prog 225 #[v] w fun e w'=>∃v',e=.returned (.tuple #[v',.int .i64 0])∧w'.ownsRow w.heap.size 5 1 v' (runE xs).length ((runE xs).map (Value.int .u8))∧Only (fun _=>False) w w':=by
 obtain ⟨i0,hi,hz0,hz1,hz2⟩:=info_parts Tryz.infoU8;have HB:=Qaa h;have HU:=Qaa hu;have HEL:=Qaa (QjC xs hu (by omega));obtain ⟨ao,cap,rfl⟩:=h.len;obtain ⟨n,hn⟩:∃n,n=xs.length:=⟨_,rfl⟩;rw [←hn] at hl HB HEL;rw [←hn];have HN:=Qaa hn;have d0:decide ((65536:Int)<n)=false:=Yak (by omega);clear h hu hn;go_enter func225,ntmps225;go_wp2
 go_step3
 go_wp2
 go_step3
 go_wp2
 go_loopg [0,4] n (fun g s0 s4 wx=>∃(ls o:List Int),Hid (ls.length=g)∧g≤n∧Bs .u64 w s0 ls∧Hid (o++runE ls=runE xs)∧U64 ls∧wx.ownsRow w.heap.size 5 1 s4 o.length (o.map (Value.int .u8))∧Only (fun _=>False) w wx)
 case atStart=>exact ⟨xs,[],HN.out.symm,Nat.le_refl _,HB.out,rfl,HU.out,World.ownsRow_nil _ _ _ _,Only.refl _ _⟩
 case round =>
  obtain ⟨ls,o,HL,hgn,hbs,HO,hul,hown,hon⟩:=hrel;obtain ⟨W,hW⟩:∃W,W=wr:=⟨_,rfl⟩;subst hW;have HBS:=Qaa hbs;obtain ⟨al,cl,el⟩:=hbs.len;rw [HL.out] at el;subst el;have HUL:=Qaa hul;have HOWN:=Qaa hown;have HON:=Qaa hon
  have HOL:Hid (o.length≤2000000):=by
   have:=congrArg List.length HO.out;have:=HEL.out;rw [Yae] at *;simp only [Hid];omega
  clear hbs hul hown hon HB HU;obtain ⟨G,hG⟩:∃G,G=gk:=⟨_,rfl⟩;subst hG
  by_cases hg0:G=0
  ·subst hg0
   have d1:decide ((0:Int)<((0:Nat):Int))=false:=by simp
   have F:Hid (W.ownsRow w.heap.size 5 1 u4 (runE xs).length ((runE xs).map (Value.int .u8))):=by
    have e:ls=[]:=List.eq_nil_of_length_eq_zero HL.out;have:=HO.out;rw [e,runE,List.append_nil] at this;simp only [Hid];rw [←this];exact HOWN.out
   go_wp2
   try rw [Exit.noGoto_ret]
   go_ret2;exact ⟨_,rfl,F.out,HON.out⟩
  ·have d1:decide ((0:Int)<(G:Int))=true:=Yaj (by omega)
   obtain ⟨b,off,cap',e1,hc0⟩:=(HBS.out.past HON.out).at 0 (by rw [HL.out];omega)
   have ea:al=some ⟨b,off,none⟩:=by simp at e1;exact e1.1
   subst ea;clear e1;rw [Nat.add_zero] at hc0;have hx0:=HUL.out (ls.getD 0 0) (Qcq ls 0 (by rw [HL.out];omega));obtain ⟨x0,hx⟩:∃x0,x0=ls.getD 0 0:=⟨_,rfl⟩;rw [←hx] at hc0 hx0;have HX:=Qaa hx;clear hx;go_wp2;obtain ⟨O4,hO4⟩:∃O4,O4=u4:=⟨_,rfl⟩;subst hO4
   go_loopg [0,4,15] G (fun g2 s0 s4 s15 wy=>∃j:Nat,j+g2=G∧s0=.slice (some ⟨b,off,none⟩) G cl∧s4=O4∧s15=.int .i64 j∧Hid (∀i,i<j→ls.getD i 0=x0)∧W=wy)
   case atStart=>exact ⟨0,by omega,rfl,rfl,rfl,(fun i hi=>by omega),rfl⟩
   case round =>
    obtain ⟨j,hj,rfl,rfl,rfl,HJ,hw⟩:=hrel;subst hw
    cases gk with
    | zero =>
     obtain rfl:j=G:=by omega
     have R:=Qaa (Qni x0 j W hx0.1 hx0.2 (by omega) (by omega))
     have HE:Hid (runE ls=gs x0.toNat++gs (j - 1)):=by
      simp only [Hid];rw [HX.out,←HL.out];exact QpS (by rw [HL.out];omega) (fun i hi=>by rw [←HX.out];exact HJ.out i (by rw [←HL.out];exact hi))
     go_wp2_with fail;refine R.out.mono ?_;rintro e w2 ⟨v2,rfl,own2,o2⟩;have B2:=Qaa (Bs.of_own own2);have N2:=Qaa (NoCap.of_own own2);have O2:=Qaa (HON.out.same o2);have OWN2:=Qaa (o2.own HOWN.out (fun _ _ f=>f));rw [←HE.out] at B2
     have HRL:Hid ((runE ls).length≤2000000):=by
      have:=congrArg List.length HO.out;have:=HEL.out;rw [Yae] at *;simp only [Hid];omega
     have hsz:=O2.out.size;clear R own2 o2;go_wp2_with (at_builtin;refine Qab _ rfl _ _ _ rfl w.heap.size 5 i0 (.int .u8 0) 1 underlying22 hi hz0 hz1 hz2 rfl _ o.length (o.map (Value.int .u8)) rfl OWN2.out .u8 _ (runE ls) rfl B2.out N2.out ?c3 ?c4 hsz ?_)
     case c3=>have:=HRL.out;have:=HOL.out;unfold maxLen;omega
     case c4=>have:=HRL.out;have:=HOL.out;omega
     intro v' w3 own3 hgrow _ _
     have F:Hid (w3.ownsRow w.heap.size 5 1 v' (runE xs).length ((runE xs).map (Value.int .u8))∧Only (fun _=>False) w w3):=by
      refine ⟨?_,O2.out.grown hgrow (fun k hk hq=>by have:=(OWN2.out.lt k hq).1;omega)⟩;rw [←HO.out,Yae,List.map_append];exact own3
     clear own3 hgrow;go_wp2
     try rw [Exit.noGoto_ret]
     go_ret2;exact ⟨_,rfl,F.out⟩
    | succ g =>
     have jl:j<G:=by omega
     obtain ⟨b',off',cap'',e1,hcj⟩:=(HBS.out.past HON.out).at j (by rw [HL.out];exact jl)
     have e2:b=b'∧off=off':=by simp at e1;exact ⟨e1.1.1,e1.1.2⟩
     obtain ⟨rfl,rfl⟩:=e2;clear e1
     have i0':(0:Int)≤(j:Int):=by omega
     have i1:(j:Int)<(G:Int):=by omega
     obtain ⟨x,hx⟩:∃x,x=ls.getD j 0:=⟨_,rfl⟩;rw [←hx] at hcj;have HXJ:=Qaa hx;clear hx
     by_cases hxx:x=x0
     ·subst hxx
      have z0:(x != x)=false:=by simp
      go_wp2
      go_roundg g
      case rel=>exact ⟨j+1,by omega,rfl,rfl,by go_num,(fun i hi=>by
       rcases Nat.lt_or_ge i j with h | h
       ·exact HJ.out i h
       ·obtain rfl:i=j:=by omega
        exact HXJ.out.symm),rfl⟩
      case measure=>omega
     ·have z0:(x != x0)=true:=by simpa using hxx
      have j0:0<j:=by
       rcases Nat.eq_zero_or_pos j with h | h
       ·subst h
        exact absurd (HXJ.out.trans HX.out.symm) hxx
       ·exact h
      have HE:Hid (runE ls=gs x0.toNat++gs (j - 1)++runE (ls.drop j)):=by
       simp only [Hid];rw [HX.out];exact Qnk j0 (by rw [HL.out];exact jl) (fun i hi=>by rw [←HX.out];exact HJ.out i hi) (by rw [←HX.out,←HXJ.out];exact hxx)
      have R:=Qaa (Qni x0 j W hx0.1 hx0.2 (by omega) (by omega))
      have hcap:G≤cl:=by
       obtain ⟨_,_,e,h2,_⟩:=HBS.out;simp at e;have:=HL.out;omega
      have CUT:=HBS.out.cut (n:=j) (by omega)
      have hadd:(⟨b,off,none⟩:Addr).add j=⟨b,off+j,none⟩:=by unfold Addr.add;split <;> simp_all
      rw [Option.map_some,hadd] at CUT;have CUT:=Qaa CUT
      have k1:(j:Int)≤(G:Int):=by omega
      have k2:(j:Int)≤(cl:Int):=by omega
      have k3:cl≠j:=by omega
      go_wp2_with fail;refine R.out.mono ?_;rintro e w2 ⟨v2,rfl,own2,o2⟩;have B2:=Qaa (Bs.of_own own2);have N2:=Qaa (NoCap.of_own own2);have O2:=Qaa (HON.out.same o2);have OWN2:=Qaa (o2.own HOWN.out (fun _ _ f=>f))
      have HRL:Hid ((gs x0.toNat++gs (j - 1)).length≤2000000):=by
       have h1:=congrArg List.length HO.out;have h2:=HEL.out;rw [HE.out] at h1;simp only [Yae] at h1;simp only [Hid,Yae];omega
      have hsz:=O2.out.size;obtain ⟨q,hq⟩:∃q,q=gs x0.toNat++gs (j - 1):=⟨_,rfl⟩;rw [←hq] at B2 HRL HE;clear R own2 o2 hq;go_wp2_with (at_builtin;refine Qab _ rfl _ _ _ rfl w.heap.size 5 i0 (.int .u8 0) 1 underlying22 hi hz0 hz1 hz2 rfl _ o.length (o.map (Value.int .u8)) rfl OWN2.out .u8 _ q rfl B2.out N2.out ?c3 ?c4 hsz ?_)
      case c3=>have:=HRL.out;have:=HOL.out;unfold maxLen;omega
      case c4=>have:=HRL.out;have:=HOL.out;omega
      intro v' w3 own3 hgrow _ _
      have F:Hid (w3.ownsRow w.heap.size 5 1 v' (o++q).length ((o++q).map (Value.int .u8))∧Only (fun _=>False) w w3):=by
       refine ⟨?_,O2.out.grown hgrow (fun k hk hq=>by have:=(OWN2.out.lt k hq).1;omega)⟩;rw [Yae,List.map_append];exact own3
      clear own3 hgrow OWN2 O2 B2 N2;go_wp2
      go_roundg (G - j)
      case rel=>exact ⟨ls.drop j,o++q,(by simp only [Hid];rw [Yai,HL.out]),by omega,CUT.out,(by simp only [Hid];rw [List.append_assoc,←HE.out];exact HO.out),(fun y hy=>HUL.out y (List.mem_of_mem_drop hy)),F.out⟩
      case measure=>omega
def RUND (ys:List Int) (n:Int):List Int × Int:=if n<0∨65536<n then ([],1) else Quw ys n.toNat
def I64s (l:List Int):Prop:=∀x∈l,G64 x
def Byt (b:List Int):Prop:=∀y∈b,0≤y∧y≤255
def u64o (x:Int):Int:=x % 18446744073709551616
def zsn (l:List Int):List Int:=l.map zig
def zgn (l:List Int):List Int:=l.map zag
def fx (l:List Int):List Int:=l.flatMap fun x=>fixL (u64o x) 8
def tms (tag:Nat):Nat:=if tag=3∨tag=4 then 2 else 1
def WOTH (z:List Int) (tag:Nat):List Int × Int:=if tag=2 then (PK z,0) else if tag=3 then ENC z else if tag=4 then (runE z,0) else (allG z,0)
def WAY (l:List Int) (tag:Nat):List Int × Int :=
 if l=[] then ([],0) else if tag=0 then (fx l,0) else
 if (WOTH ((zsn (D (tms tag) l)).drop 1) tag).2≠0 then ([],(WOTH ((zsn (D (tms tag) l)).drop 1) tag).2) else
 (gs ((zsn (D (tms tag) l)).getD 0 0).toNat++(WOTH ((zsn (D (tms tag) l)).drop 1) tag).1,0)
def WAY8 (l:List Int) (tag:Int):List Int × Int:=if tag<0∨4<tag then ([],1) else if 65536<l.length then ([],4) else WAY l tag.toNat
def pick (l:List Int):Nat→Nat × List Int
 | 0=>(0,(WAY l 0).1)
 | t+1=>if (WAY l (t+1)).2=0∧(WAY l (t+1)).1.length<(pick l t).2.length then (t+1,(WAY l (t+1)).1) else pick l t
def ENC8 (l:List Int):List Int × Int:=if 65536<l.length then ([],4) else (((pick l 4).1:Int) :: (pick l 4).2,0)
def fxN (ys:List Int) (n:Nat):List Int:=(List.range n).map fun i=>(num ((ys.drop (8*i)).take 8):Int)
def rFx (ys:List Int) (n:Nat):List Int × Int:=if ys.length<8*n then ([],2) else (fxN ys n,0)
def rVs:Nat→List Int→List Int→List Int × List Int × Int
 | 0,acc,ys=>(acc,ys,0)
 | n+1,acc,ys=>if (Qac ys).2.2≠0 then ([],ys,(Qac ys).2.2) else rVs n (acc++[(Qac ys).1]) (ys.drop (Qac ys).2.1)
def OTH (ys:List Int) (m tag:Nat):List Int × Int :=
 if tag=2 then ((UN ys m).2,(UN ys m).1) else if tag=3 then DEC ys m else if tag=4 then RUND ys m else ((rVs m [] ys).1,(rVs m [] ys).2.2)
def s64 (x:Int):Int:=wrap64 x
def READ (ys:List Int) (n tag:Nat):List Int × Int :=
 if n=0 then ([],0) else if tag=0 then ((rFx ys n).1.map s64,(rFx ys n).2) else
 if (Qac ys).2.2≠0 then ([],(Qac ys).2.2) else
 if (OTH (ys.drop (Qac ys).2.1) (n - 1) tag).2≠0 then ([],(OTH (ys.drop (Qac ys).2.1) (n - 1) tag).2) else
 (S (tms tag) (zag (Qac ys).1 :: zgn (OTH (ys.drop (Qac ys).2.1) (n - 1) tag).1),0)
theorem Qcy (l:List Int):(zsn l).length=l.length:=by simp [zsn]
theorem QrQ {l:List Int} (h:I64s l):U64 (zsn l):=by
 intro x hx;simp only [zsn,List.mem_map] at hx;obtain ⟨y,hy,rfl⟩:=hx;exact QdJ y (h y hy).1 (h y hy).2
theorem U64.drop {l:List Int} (h:U64 l) (k:Nat):U64 (l.drop k):=fun x hx=>h x (List.mem_of_mem_drop hx)
theorem QrR {a b:List Int} (ha:Byt a) (hb:Byt b):Byt (a++b):=fun y hy=>(List.mem_append.1 hy).elim (ha y) (hb y)
theorem Qek (l:List Int):(fx l).length=8*l.length:=by
 induction l with
 | nil=>rfl
 | cons x t ih =>
  have:fx (x :: t)=fixL (u64o x) 8++fx t:=by simp [fx]
  rw [this,Yae,Qag,ih,Yah];omega
theorem QrS (l:List Int) (x:Int):fx (l++[x])=fx l++fixL (u64o x) 8:=by simp [fx]
theorem QtY (l:List Int):Byt (fx l):=by
 intro y hy;simp only [fx,List.mem_flatMap] at hy;obtain ⟨x,_,hy⟩:=hy;exact QaG _ _ y hy
theorem QoR {z:List Int} (hu:U64 z) {tag:Nat}:Byt (WOTH z tag).1:=by
 unfold WOTH
 by_cases h2:tag=2
 ·rw [if_pos h2];exact QtS hu
 ·rw [if_neg h2]
  by_cases h3:tag=3
  ·rw [if_pos h3]
   by_cases h:(ENC z).2=0
   ·obtain ⟨e,hup,_⟩:=Qq6 (fun x hx=>(hu x hx).1) h
    rw [e];exact Qny _ z rfl hup
   ·unfold ENC at h ⊢
    by_cases hl:65536<z.length
    ·rw [if_pos hl];intro y hy;simp at hy
    ·rw [if_neg hl] at h ⊢
     by_cases hs:small 60 z=true
     ·rw [if_pos hs] at h;exact absurd rfl h
     ·rw [if_neg hs];intro y hy;simp at hy
  ·rw [if_neg h3]
   by_cases h4:tag=4
   ·rw [if_pos h4];exact QkF z
   ·rw [if_neg h4];exact QkW z
theorem D_i64 {l:List Int} (h:I64s l) (k:Nat):I64s (D k l):=D_g k l h
theorem Ql3 {l:List Int} (h:I64s l) (k:Nat):U64 (zsn (D k l)):=QrQ (D_i64 h k)
theorem QgL (l:List Int) (k:Nat):(zsn (D k l)).length=l.length:=by rw [Qcy,Qd0]
theorem QtZ (tag:Nat):tms tag≤3:=by unfold tms;split <;> omega
theorem QrT (tag:Nat):WAY [] tag=([],0):=by unfold WAY;simp
theorem QbH {l:List Int}:WAY l 0=(fx l,0):=by
 unfold WAY
 by_cases h:l=[]
 ·rw [if_pos h,h];rfl
 ·rw [if_neg h];rfl
theorem QrU {l:List Int} (hg:I64s l) (tag:Nat):Byt (WAY l tag).1:=by
 unfold WAY
 by_cases hne:l=[]
 ·rw [if_pos hne];intro y hy;simp at hy
 ·rw [if_neg hne]
  by_cases ht:tag=0
  ·rw [if_pos ht];exact QtY l
  ·rw [if_neg ht]
   by_cases hw:(WOTH ((zsn (D (tms tag) l)).drop 1) tag).2≠0
   ·rw [if_pos hw];intro y hy;simp at hy
   ·rw [if_neg hw]
    exact QrR (Qa8 _) (QoR ((Ql3 hg _).drop 1))
theorem Qci (l:List Int):∀t,(pick l t).1≤t∧WAY l (pick l t).1=((pick l t).2,0)∧∀s,s≤t→(WAY l s).2=0→(pick l t).2.length≤(WAY l s).1.length
 | 0=>by
  refine ⟨Nat.le_refl _,?_,fun s hs _=>?_⟩
  ·show WAY l 0=((WAY l 0).1,0)
   rw [QbH]
  ·have:s=0:=by omega
   subst this;exact Nat.le_refl _
 | t+1=>by
  obtain ⟨h1,h2,h3⟩:=Qci l t;rw [pick]
  by_cases hc:(WAY l (t+1)).2=0∧(WAY l (t+1)).1.length<(pick l t).2.length
  ·rw [if_pos hc]
   refine ⟨Nat.le_refl _,by rw [←hc.1],fun s hs h0=>?_⟩
   rcases Nat.lt_or_ge s (t+1) with h | h
   ·have:=h3 s (by omega) h0;simp only;omega
   ·have:s=t+1:=by omega
    subst this;exact Nat.le_refl _
  ·rw [if_neg hc]
   refine ⟨by omega,h2,fun s hs h0=>?_⟩
   rcases Nat.lt_or_ge s (t+1) with h | h
   ·exact h3 s (by omega) h0
   ·have:s=t+1:=by omega
    subst this
    rcases Nat.lt_or_ge (WAY l (t+1)).1.length (pick l t).2.length with h4 | h4
    ·exact absurd ⟨h0,h4⟩ hc
    ·exact h4
theorem QrV {l:List Int} (hl:l.length≤65536):ENC8 l=(((pick l 4).1:Int) :: (pick l 4).2,0):=if_neg (by omega)
theorem Qjc {l:List Int} (hl:l.length≤65536):(ENC8 l).1.length≤1+8*l.length∧0<(ENC8 l).1.length:=by
 rw [QrV hl];have h:=(Qci l 4).2.2 0 (by omega) (by rw [QbH]);rw [QbH] at h;simp only [Qek] at h;simp only [Yah];omega
theorem QoS {l:List Int} (hg:I64s l):Byt (ENC8 l).1:=by
 unfold ENC8
 by_cases hl:65536<l.length
 ·rw [if_pos hl];intro y hy;simp at hy
 ·rw [if_neg hl]
  obtain ⟨h1,h2,_⟩:=Qci l 4;intro y hy
  rcases List.mem_cons.1 hy with rfl | hy
  ·omega
  ·have:=QrU hg (pick l 4).1
   rw [h2] at this;exact this y hy
theorem QoT {l:List Int} (hl:l.length≤65536) (t:Nat) (ht:t≤4):WAY8 l t=WAY l t:=by
 unfold WAY8;rw [if_neg (by omega),if_neg (by omega)]
 rfl
def tzF:Nat→Nat→Nat
 | 0,_=>0
 | f+1,x=>if x % 2=0 then tzF f (x / 2)+1 else 0
def tz (x:Nat):Nat:=tzF 64 x
def ldz (x:Nat):Nat:=min (64 - wid x) 31
abbrev fitsW (x a z:Nat):Prop:=a≤64 - wid x∧z≤tz x
def newW (x:Nat):List Bool:=true :: true :: (Qaj (ldz x) 5++(Qaj (63 - ldz x - tz x) 6++Qaj (x / 2^tz x) (64 - ldz x - tz x)))
def gx (x:Nat) (wn:Option (Nat × Nat)):List Bool × Option (Nat × Nat) :=
 if x=0 then ([false],wn) else
 match wn with
 | none=>(newW x,some (ldz x,tz x))
 | some (a,z)=>if fitsW x a z then (true :: false :: Qaj (x / 2^z) (64 - a - z),some (a,z)) else (newW x,some (ldz x,tz x))
def gE:Nat→Option (Nat × Nat)→List Int→List Bool
 | _,_,[]=>[]
 | p,wn,y :: t=>(gx (p ^^^ y.toNat) wn).1++gE y.toNat (gx (p ^^^ y.toNat) wn).2 t
def GB:List Int→List Bool
 | []=>[]
 | y :: t=>Qaj y.toNat 64++gE y.toNat none t
theorem QlQ:∀(f x:Nat),2^tzF f x∣x
 | 0,x=>by simp [tzF]
 | f+1,x=>by
  rw [tzF]
  by_cases h:x % 2=0
  ·rw [if_pos h]
   obtain ⟨k,hk⟩:=QlQ f (x / 2);refine ⟨k,?_⟩
   have e:x=2*(x / 2):=by omega
   rw [Nat.pow_succ,Nat.mul_comm (2^tzF f (x / 2)) 2,Nat.mul_assoc,←hk];exact e
  ·rw [if_neg h];simp
theorem QlR:∀(f x:Nat),0<x→x<2^f→x / 2^tzF f x % 2=1
 | 0,x,h0,h1=>by simp at h1;omega
 | f+1,x,h0,h1=>by
  rw [tzF]
  by_cases h:x % 2=0
  ·rw [if_pos h,Nat.pow_succ,Nat.mul_comm,←Nat.div_div_eq_div_mul]
   exact QlR f (x / 2) (by omega) (by rw [Nat.pow_succ] at h1;omega)
  ·rw [if_neg h];simp;omega
theorem QqL:∀(f x:Nat),0<x→x<2^f→tzF f x<f
 | 0,x,h0,h1=>by simp at h1;omega
 | f+1,x,h0,h1=>by
  rw [tzF]
  by_cases h:x % 2=0
  ·rw [if_pos h]
   have:=QqL f (x / 2) (by omega) (by rw [Nat.pow_succ] at h1;omega);omega
  ·rw [if_neg h];omega
theorem p64:(2:Nat)^64=18446744073709551616:=by decide
theorem QlS {x z:Nat} (h:z≤tz x):x / 2^z*2^z=x:=by
 have h1:2^z∣x:=Nat.dvd_trans (Nat.pow_dvd_pow 2 h) (QlQ 64 x);exact Nat.div_mul_cancel h1
theorem QhU {x a z:Nat} (hx:x<18446744073709551616) (ha:a≤64 - wid x) (hz:a+z≤63):x / 2^z<2^(64 - a - z):=by
 have hw:=Qb2 x hx;have h1:x<2^(64 - a):=(Qan x (64 - a)).1 (by omega);rw [Nat.div_lt_iff_lt_mul (Nat.two_pow_pos z),←Nat.pow_add];rw [show 64 - a - z+z=64 - a by omega];exact h1
theorem QfH {x:Nat} (h0:0<x) (hx:x<18446744073709551616):ldz x≤31∧ldz x≤64 - wid x∧ldz x+tz x≤63:=by
 have h1:tz x<64:=QqL 64 x h0 (by rw [p64];exact hx)
 have h2:tz x<wid x:=by
  rcases Nat.lt_or_ge (tz x) (wid x) with h | h
  ·exact h
  ·have h3:x<2^tz x:=(Qan x (tz x)).1 h
   have h4:x / 2^tz x*2^tz x=x:=QlS (Nat.le_refl _);rw [Nat.div_eq_of_lt h3] at h4;omega
 have hw:=Qb2 x hx;unfold ldz;omega
def gR (wn:Option (Nat × Nat)):List Bool→Nat × Option (Nat × Nat) × List Bool × Int
 | []=>(0,wn,[],2)
 | false :: r=>(0,wn,r,0)
 | [true]=>(0,wn,[],2)
 | true :: false :: r =>
  match wn with
  | none=>(0,none,r,3)
  | some (a,z)=>if r.length<64 - a - z then (0,wn,r,2) else (bnum (r.take (64 - a - z))*2^z,wn,r.drop (64 - a - z),0)
 | true :: true :: r =>
  if r.length<5 then (0,wn,r,2) else
  if r.length<11 then (0,wn,r,2) else
  if 63<bnum (r.take 5)+bnum ((r.drop 5).take 6) then (0,wn,r,3) else
  if r.length<12+bnum ((r.drop 5).take 6) then (0,wn,r,2) else
  (bnum ((r.drop 11).take (bnum ((r.drop 5).take 6)+1))*2^(63 - bnum (r.take 5) - bnum ((r.drop 5).take 6)),some (bnum (r.take 5),63 - bnum (r.take 5) - bnum ((r.drop 5).take 6)),r.drop (12+bnum ((r.drop 5).take 6)),0)
theorem QrG {a b:Nat} (ha:a<18446744073709551616) (hb:b<18446744073709551616):a ^^^ b<18446744073709551616:=by
 rw [←p64] at *;exact Nat.xor_lt_two_pow ha hb
def ENC9 (l:List Int):List Int × Int:=if 65536<l.length then ([],4) else (QaD (GB l),0)
theorem QlT {l:List Int} (hl:l.length≤65536):ENC9 l=(QaD (GB l),0):=if_neg (by omega)
theorem QoL (l:List Int):∀y∈(ENC9 l).1,0≤y∧y≤255:=by
 unfold ENC9
 by_cases h:65536<l.length
 ·rw [if_pos h];intro y hy;simp at hy
 ·rw [if_neg h];exact Qdr _
theorem QtU (x:Nat) {wn:Option (Nat × Nat)}:(gx x wn).1.length≤77∧1≤(gx x wn).1.length:=by
 have hn:∀x,(newW x).length≤77∧1≤(newW x).length:=fun x=>by
  unfold newW;simp only [Yah,Yae,Qao];omega
 unfold gx
 by_cases h0:x=0
 ·rw [if_pos h0];exact ⟨by simp,by simp⟩
 ·rw [if_neg h0]
  cases wn with
  | none=>exact hn x
  | some p =>
   obtain ⟨a,z⟩:=p;simp only
   by_cases hf:fitsW x a z
   ·rw [if_pos hf]
    simp only [Yah,Qao];omega
   ·rw [if_neg hf];exact hn x
theorem Qja (l:List Int):∀(p:Nat) (wn:Option (Nat × Nat)),(gE p wn l).length≤77*l.length∧l.length≤(gE p wn l).length:=by
 induction l with
 | nil=>intro p wn;simp [gE]
 | cons y t ih =>
  intro p wn;rw [gE,Yae,Yah];have h1:=QtU (p ^^^ y.toNat) (wn:=wn);have h2:=ih y.toNat (gx (p ^^^ y.toNat) wn).2;omega
theorem QtV (l:List Int):(GB l).length≤77*l.length∧l.length≤(GB l).length:=by
 cases l with
 | nil=>simp [GB]
 | cons y t =>
  have h:=Qja t y.toNat none;unfold GB;rw [Yae,Qao,Yah];omega
end Go.Proofs.YtnhapmboienipaaGreatDoor
