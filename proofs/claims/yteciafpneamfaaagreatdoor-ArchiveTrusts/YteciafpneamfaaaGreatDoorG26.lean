import Derived.Test.YteciafpneamfaaaGreatDoorG25
import Derived.Shelf.Bytes.SlSmallAll
namespace Go.Proofs.YteciafpneamfaaaGreatDoor
set_option maxHeartbeats 800000
set_option maxRecDepth 100000
open Go.RowKit _root_.Go.Proofs.Tryz
variable {w w' W:World} {v:Value} {ys xs l:LI} {R n p k g B:Nat} {P:Program} {ls:List (LI)} {E:TypeId}
def wd0 (xs:LI):Nat:=wordN (least xs) (swi (least xs)) (xs.take (cn (least xs)))
def encF:Nat->LI->LI
 | 0,_=>[]
 | f+1,xs=>if xs=[] then [] else fixL (wd0 xs) 8++encF f (xs.drop (cn (least xs)))
def enc (xs:LI):LI:=encF xs.length xs
theorem Vq (f:Nat):encF f []=[]:=by cases f <;> simp[encF]
theorem T7:∀(f g:Nat) (xs:LI),Up 60 xs->xs.length<=f->xs.length<=g->encF f xs=encF g xs
 | 0,g,xs,_,hf,_=>by
  have:xs=[]:=List.eq_nil_of_length_eq_zero (by omega);rw[this,Vq,Vq]
 | f+1,0,xs,_,_,hg=>by
  have:xs=[]:=List.eq_nil_of_length_eq_zero (by omega);rw[this,Vq,Vq]
 | f+1,g+1,xs,hu,hf,hg=>by
  by_cases h:xs=[]
  ·rw[h,Vq,Vq]
  ·have h1:=(Y5 _ (Ka h hu).1).1
   simp only[encF,h,if_false];rw[T7 f g (xs.drop (cn (least xs))) (hu.drop _) (by rw[Qm];omega) (by rw[Qm];omega)]
theorem XM:enc []=[]:=rfl
theorem ZT (h:xs≠[]) (hu:Up 60 xs):enc xs=fixL (wd0 xs) 8++enc (xs.drop (cn (least xs))):=by
 have hl:0<xs.length:=List.length_pos_iff.2 h;have h1:=(Y5 _ (Ka h hu).1).1;obtain⟨f,hf⟩:∃f,xs.length=f+1:=⟨xs.length - 1,by omega⟩;unfold enc;rw[hf];simp only[encF,h,if_false];rw[T7 f (xs.drop (cn (least xs))).length _ (hu.drop _) (by rw[Qm];omega) (Nat.le_refl _)]
theorem FU (h:xs≠[]) (hu:Up 60 xs):wd0 xs<18446744073709551616∧nms (wd0 xs)=xs.take (cn (least xs)):=by
 obtain⟨h1,h2,h3⟩:=Ka h hu
 have hl:(xs.take (cn (least xs))).length=cn (least xs):=by rw[Qg];omega
 exact⟨DT h1 h3 (by rw[hl];exact (Y5 _ h1).2.2.2.1),uO h1 hl h3⟩
theorem SH:∀(n:Nat) (xs:LI),xs.length=n->Up 60 xs->(enc xs).length % 8=0∧(enc xs).length<=8*xs.length∧xs.length<=30*(enc xs).length:=by
 intro n
 induction n using Nat.strongRecOn with
 | _ n ih =>
  intro xs hn hu
  by_cases h:xs=[]
  ·subst h;simp[XM]
  ·obtain⟨h1,h2,h3⟩:=Ka h hu
   have h4:=Y5 _ h1;obtain⟨a,b,c⟩:=ih (xs.drop (cn (least xs))).length (by rw[Qm];omega) _ rfl (hu.drop _);rw[ZT h hu,Qb,Qt];rw[Qm] at b c;omega
theorem RY:∀(n:Nat) (xs:LI),xs.length=n->Up 60 xs->∀y∈enc xs,0<=y∧y<=255:=by
 intro n
 induction n using Nat.strongRecOn with
 | _ n ih =>
  intro xs hn hu y hy
  by_cases h:xs=[]
  ·subst h;simp[XM] at hy
  ·obtain⟨h1,h2,h3⟩:=Ka h hu
   have h4:=Y5 _ h1;rw[ZT h hu,List.mem_append] at hy
   rcases hy with hy | hy
   ·exact UM _ _ y hy
   ·exact ih (xs.drop (cn (least xs))).length (by rw[Qm];omega) _ rfl (hu.drop _) y hy
def rdF:Nat->Nat->LI->LI->LI × LI × Int
 | 0,_,acc,ys=>(acc,ys,0)
 | f+1,n,acc,ys=>if acc.length<n then (if ys.length<8 then ([],ys,2) else rdF f n (acc++nms (num (ys.take 8))) (ys.drop 8)) else (acc,ys,0)
def rdA (n:Nat) (ys:LI):LI × LI × Int:=rdF (ys.length+1) n [] ys
theorem JH {acc ys:LI} (h:n<=acc.length) (f:Nat):rdF f n acc ys=(acc,ys,0):=by
 cases f with
 | zero=>rfl
 | succ f=>simp only[rdF];rw[if_neg (by omega)]
theorem T3 {n f:Nat} {acc ys:LI} (h:acc.length<n) (hy:ys.length<8) (hf:0<f):rdF f n acc ys=([],ys,2):=by
 obtain⟨g,rfl⟩:∃g,f=g+1:=⟨f - 1,by omega⟩;simp only[rdF];rw[if_pos h,if_pos hy]
theorem Hj {n f:Nat} {acc ys:LI} (h:acc.length<n) (hy:8<=ys.length) (hf:ys.length<f):rdF f n acc ys=rdF (f - 1) n (acc++nms (num (ys.take 8))) (ys.drop 8)∧(ys.drop 8).length<f - 1:=by
 obtain⟨g,rfl⟩:∃g,f=g+1:=⟨f - 1,by omega⟩;simp only[rdF];rw[if_pos h,if_neg (by omega)];exact⟨rfl,by rw[Qm];omega⟩
theorem Nq (hr:∀y∈ys,0<=y∧y<=255):num (ys.take 8)<18446744073709551616:=by
 have h:=Wv (ys.take 8) (λy hy=>hr y (List.mem_of_mem_take hy));have h2:256^(ys.take 8).length<=256^8:=Nat.pow_le_pow_right (by omega) (by rw[Qg];omega)
 have e:(256:Nat)^8=18446744073709551616:=by decide
 omega
theorem Gx {v:Nat} (h:v<18446744073709551616):v / 2^60<16:=by
 have e60:(2:Nat)^60=1152921504606846976:=by decide
 rw[e60];omega
theorem DB:∀(f n:Nat) (acc ys:LI),ys.length<f->(∀y∈ys,0<=y∧y<=255)->Up 60 acc->acc.length<n+240 ->
 (rdF f n acc ys).2.2=2∧(rdF f n acc ys).1=[]∨(rdF f n acc ys).2.2=0∧Up 60 (rdF f n acc ys).1∧n<=(rdF f n acc ys).1.length∧(rdF f n acc ys).1.length<n+240
 | 0,n,acc,ys,h,_,_,_=>by omega
 | f+1,n,acc,ys,h,hr,hu,hl=>by
  by_cases ha:acc.length<n
  ·by_cases hy:ys.length<8
   ·rw[T3 ha hy (by omega)]
    exact .inl ⟨rfl,rfl⟩
   ·rw[(Hj ha (by omega) h).1]
    have hv:=Nq hr;have h4:=Y5 _ (Gx hv);exact DB f n _ _ (by rw[Qm];omega) (λy hy=>hr y (List.mem_of_mem_drop hy)) (hu.append (jj _ hv)) (by rw[Qb,PO];omega)
  ·rw[JH (by omega)]
   exact .inr ⟨rfl,hu,by simpa using ha,hl⟩
theorem IG:∀(n:Nat) (xs acc r:LI) (f:Nat),xs.length=n->Up 60 xs->(enc xs++r).length<f->rdF f (acc.length+xs.length) acc (enc xs++r)=(acc++xs,r,0):=by
 intro n
 induction n using Nat.strongRecOn with
 | _ n ih =>
  intro xs acc r f hn hu hf
  by_cases h:xs=[]
  ·subst h
   simp only[XM,List.nil_append,List.append_nil];rw[JH (by simp)]
  ·obtain⟨h1,h2,h3⟩:=Ka h hu
   have h4:=Y5 _ h1;obtain⟨w1,w2⟩:=FU h hu;have hx:0<xs.length:=List.length_pos_iff.2 h
   have e:enc xs++r=fixL (wd0 xs) 8++(enc (xs.drop (cn (least xs)))++r):=by rw[ZT h hu,List.append_assoc]
   have l8:=Qt (wd0 xs) 8;rw[e] at hf ⊢;have s:=Hj (f:=f) (n:=acc.length+xs.length) (acc:=acc) (ys:=fixL (wd0 xs) 8++(enc (xs.drop (cn (least xs)))++r)) (by omega) (by rw[Qb];omega) hf;rw[List.take_left' l8,List.drop_left' l8,VL _ w1,w2] at s;rw[s.1]
   have hl:(acc++xs.take (cn (least xs))).length+(xs.drop (cn (least xs))).length=acc.length+xs.length:=by
    rw[Qb,Qg,Qm];omega
   rw[<-hl,ih (xs.drop (cn (least xs))).length (by rw[Qm];omega) _ (acc++xs.take (cn (least xs))) r (f - 1) rfl (hu.drop _) s.2,List.append_assoc,List.take_append_drop]
def dec (ys:LI) (n:Nat):LI × Int :=
 if (rdA n ys).2.2≠0 then ([],2) else if n<(rdA n ys).1.length then ([],3) else if enc (rdA n ys).1=ys then ((rdA n ys).1,0) else ([],3)
theorem R7 (hr:∀y∈ys,0<=y∧y<=255) :
 (rdA n ys).2.2=2∧(rdA n ys).1=[]∨(rdA n ys).2.2=0∧Up 60 (rdA n ys).1∧n<=(rdA n ys).1.length∧(rdA n ys).1.length<n+240 :=
 DB _ n [] ys (by omega) hr (Up.nil _) (by simp)
theorem un (hu:Up 60 xs) (r:LI):rdA xs.length (enc xs++r)=(xs,r,0):=by
 have:=IG xs.length xs [] r ((enc xs++r).length+1) rfl hu (by omega)
 simpa [rdA] using this
theorem uv (hu:Up 60 xs):dec (enc xs) xs.length=(xs,0):=by
 have:=un hu [];rw[List.append_nil] at this;simp[dec,this]
theorem AC (hr:∀y∈ys,0<=y∧y<=255) :
 (∃c,dec ys n=([],c)∧(c=2∨c=3))∨(∃l,dec ys n=(l,0)∧Up 60 l∧l.length=n∧enc l=ys):=by
 unfold dec
 by_cases h0:(rdA n ys).2.2=0
 ·rw[if_neg (by simpa using h0)]
  rcases R7 (n:=n) hr with ⟨h,_⟩ | ⟨_,hu,h1,_⟩
  ·omega
  ·by_cases hn:n<(rdA n ys).1.length
   ·rw[if_pos hn];exact .inl ⟨3,rfl,.inr rfl⟩
   ·rw[if_neg hn]
    by_cases he:enc (rdA n ys).1=ys
    ·rw[if_pos he];exact .inr ⟨_,rfl,hu,by omega,he⟩
    ·rw[if_neg he];exact .inl ⟨3,rfl,.inr rfl⟩
 ·rw[if_pos h0];exact .inl ⟨2,rfl,.inl rfl⟩
theorem Tv (q:Nat):((2^q:Nat):Int)=(2:Int)^q:=by simp
theorem wrapU {x:Int} (h0:0<=x) (h1:x<=18446744073709551615):IntKind.u64.wrap x=x:=by
 rw[IntKind.wrap_u64];omega
theorem uy {s q:Nat} {zs:LI} (hs:s<16) (h:Up q zs) (k:Nat) (hk:k<=zs.length):wacc s q (zs.take k)<2^(4+k*q):=by
 obtain⟨r,h1,h2⟩:=Zh q (zs.take k) s (h.take k)
 have hl:(zs.take k).length=k:=by rw[Qg];omega
 rw[hl] at h1 h2;have:(s+1)*2^(k*q)<=16*2^(k*q):=Nat.mul_le_mul_right _ (by omega);rw[Nat.add_mul,Nat.one_mul] at this;rw[Nat.pow_add,show (2:Nat)^4=16 from rfl];omega
theorem ga {s q:Nat} {zs:LI} (hs:s<16) (h:Up q zs) (hw:zs.length*q<=60) (k:Nat) (hk:k<zs.length) :
 (wacc s q (zs.take k):Int)*2^q<=18446744073709551615∧bits .or .u64 ((wacc s q (zs.take k):Int)*2^q) (zs.getD k 0)=(wacc s q (zs.take (k+1)):Int):=by
 have h1:=uy hs h k (by omega);have hz:=h _ (GE zs k hk);have hn:=Ga hz;have hkq:(k+1)*q<=60:=Nat.le_trans (Nat.mul_le_mul_right q (by omega)) hw
 have h2:wacc s q (zs.take k)*2^q<2^64:=by
  have:=Nat.mul_lt_mul_of_pos_right h1 (Nat.two_pow_pos q);rw[<-Nat.pow_add] at this;exact Nat.lt_of_lt_of_le this (Nat.pow_le_pow_right (by omega) (by rw[Nat.add_mul] at hkq;omega))
 have e64:(2:Nat)^64=18446744073709551616:=by decide
 have hq:2^q<=2^60:=Nat.pow_le_pow_right (by omega) (by
  have:1*q<=(k+1)*q:=Nat.mul_le_mul_right q (by omega)
  omega)
 have e60:(2:Nat)^60=1152921504606846976:=by decide
 rw[U9 zs k hk,Ri];generalize zs.getD k 0=z at *;generalize wacc s q (zs.take k)=a at *;obtain⟨m,rfl⟩:=Int.eq_ofNat_of_zero_le hz.1;rw[Int.toNat_natCast] at hn ⊢
 have e2:((a:Int)*2^q)=((a*2^q:Nat):Int):=by simp
 rw[e2];refine⟨by omega,?_⟩;rw[u64_or_nat _ _ (by omega) (by omega),nat_join q _ _ (Nat.mul_mod_left _ _) hn]
theorem Cb (s q:Nat) (v:Value) (zs:LI) (w:World) (h:Bs .u64 w v zs) (hs:s<16) (hu:Up q zs) (hw:zs.length*q<=60) (hq:q<=60) (hl:zs.length<=240) :
 Calls prog 240 #[.int .i64 s,v,.int .i64 q] w λe w'=>e=.returned (.int .u64 (wordN s q zs))∧w=w':=by
 obtain⟨ao,cap,rfl⟩:=h.len;have HB:=Qa h;have HU:=Qa hu;have HW:=Qa hw
 have h1:Hid ((wacc s q zs:Int)*2^(60 - zs.length*q)=(wordN s q zs:Int)):=by simp only[Hid,wordN];simp
 have FLT:Hid (wordN s q zs<18446744073709551616):=DT hs hu hw;obtain⟨m,hm⟩:=EX zs.length;rw[<-hm] at HB hl h1 ⊢;have HM:=Qa hm
 have p0:(0:Int)<=(m:Int)*(q:Int):=by rw[<-Int.natCast_mul];omega
 have p1:(m:Int)*(q:Int)<=60:=by rw[<-Int.natCast_mul,hm];omega
 clear h hu hm hw
 have hq2:(q:Int)<=60:=by omega
 have hs2:(s:Int)<=15:=by omega
 go_enter func240,ntmps240;go_wp2
 go_loop [7,14] (λa i=>∃k:Nat,k<=m∧i=.int .i64 k∧a=.int .u64 (wacc s q (zs.take k))) (λ_ i=>m - (intOf i).toNat)
 case atStart=>exact⟨0,Nat.zero_le _,rfl,rfl⟩
 case round =>
  obtain⟨k,hk,rfl,rfl⟩:=hrel
  by_cases hlt:k<m
  ·have h0:k<zs.length:=by rw[<-HM.o];exact hlt
   obtain⟨b,off,cap',e1,c0⟩:=(HB.o).at k h0;simp only[Value.slice.injEq] at e1;obtain⟨rfl,e2,rfl⟩:=e1;clear e2;obtain⟨hsh,h3⟩:=ga hs HU.o HW.o k h0;have hz:=HU.o _ (GE zs k h0);have h2:=Qa h3;generalize zs.getD k 0=x at c0 h2 hz;generalize wacc s q (zs.take k)=a at hsh h2
   have i0:(0:Int)<=(k:Int):=by omega
   have i1:(k:Int)<(m:Int):=by omega
   have hz0:=hz.1;clear h3 h0 hz
   have h00:0<=(a:Int)*2^q:=by rw[<-Tv,<-Int.natCast_mul];omega
   go_wp2
   go_round
   case rel=>exact⟨k+1,by omega,by go_num,by rw[h2.o]⟩
   case measure=>simp[intOf];omega
  ·have hkm:k=m:=by omega
   subst hkm;rw[HM.o,List.take_length,<-HM.o];generalize wacc s q zs=a at h1;go_wp2;go_ret;refine⟨YD ?_,rfl⟩;rw[h1.o,wrapU (by omega) (by have:=FLT.o;omega)]
theorem yJ (v:Value) (xs:LI) (w:World) (h:Bs .u64 w v xs) (hl:65536<xs.length) :
 Calls prog 209 #[v] w λe w'=>e=.returned (.tuple #[.slice none 0 0,.int .i64 4])∧w=w':=by
 obtain⟨ao,cap,rfl⟩:=h.len
 have d:decide (65536<(xs.length:Int))=true:=by simp;omega
 generalize xs.length=n at *;clear h;go_enter func209,ntmps209;go_wp2;go_ret2;exact⟨rfl,rfl⟩
theorem pq (v:Value) (xs:LI) (w:World) (h:Bs .u64 w v xs) (hu:∀x∈xs,0<=x∧x<=18446744073709551615) (hl:xs.length<=65536) (hs:small 60 xs=false) :
 Calls prog 209 #[v] w λe w'=>e=.returned (.tuple #[.slice none 0 0,.int .i64 1])∧w=w':=by
 have A:=Qa (Xd v xs 60 w h hu (by omega) (by omega));rw[hs] at A;obtain⟨ao,cap,rfl⟩:=h.len
 have d:decide (65536<(xs.length:Int))=false:=by simp;omega
 generalize xs.length=n at *;clear h;go_enter func209,ntmps209;go_wp2_with fail;refine A.o.mono ?_;rintro e w1 ⟨rfl,rfl⟩;go_wp2;go_ret2;exact⟨rfl,rfl⟩
theorem Dt (v:Value) (xs:LI) (w:World) (h:Bs .u64 w v xs) (hu:Up 60 xs) (hl:xs.length<=65536) :
 Calls prog 209 #[v] w λe w'=>∃v',e=.returned (.tuple #[v',.int .i64 0])∧w'.ownsRow w.heap.size 5 1 v' (enc xs).length ((enc xs).map (Value.int .u8))∧N0 w w':=by
 obtain⟨i0,hi,ht,k0,hw⟩:=info_parts Tryz.infoU8;have A:=Qa (Xd v xs 60 w h (λx hx=>⟨(hu x hx).1,by have:=(hu x hx).2;omega⟩) (by omega) (by omega));rw[Ru hu] at A;have hv:=Qa (SH xs.length xs rfl hu).2.1;obtain⟨ao,cap,rfl⟩:=h.len;have HB:=Qa h;have HU:=Qa hu
 have d:decide (65536<(xs.length:Int))=false:=by simp;omega
 obtain⟨m,hm⟩:=EX xs.length;rw[<-hm] at HB hl d A hv ⊢;have HM:=Qa hm;clear h hu hm;go_enter func209,ntmps209;go_wp2_with fail;refine A.o.mono ?_;rintro e w1 ⟨rfl,rfl⟩;clear A;go_wp2
 go_loopw [0,4] (λl o wr=>∃(zs h0:LI) (ao:Option Addr) (cap:Nat),h0++enc zs=enc xs∧Up 60 zs∧l=.slice ao zs.length cap∧zs.length<=m∧Bs .u64 w (.slice ao zs.length cap) zs∧wr.ownsRow w.heap.size 5 1 o h0.length (h0.map (Value.int .u8))∧N0 w wr) (λl _ _=>(match l with | .slice _ n _=>n | _=>0))
 case atStart=>exact⟨xs,[],ao,cap,rfl,HU.o,by rw[HM.o],by rw[<-HM.o];omega,by rw[<-HM.o];exact HB.o,World.ownsRow_nil _ _ _ _,Only.refl _ _⟩
 case round =>
  obtain⟨zs,h0,ao,cap,h2,ha,rfl,hzm,h9,h4,hb⟩:=hrel;clear HB HU
  by_cases hz:zs=[]
  ·subst hz
   have d0:decide (0<(([]:LI).length:Int))=false:=by simp
   rw[XM,List.append_nil] at h2;rw[h2] at h4;obtain⟨a6,c6,e6⟩:=(Bs.of_own h4).len;subst e6;have H:=Qa (And.intro h4 hb);clear h4 hb h2 h9;simp only[List.length_nil];go_wp2;go_ret2;exact⟨_,rfl,H.o⟩
  ·have hr:0<zs.length:=List.length_pos_iff.2 hz
   obtain⟨f1,f2,f3⟩:=Ka hz ha;obtain⟨g1,g2,g3,g4,_⟩:=Y5 _ f1;have LS:=Qa (qQ _ zs wr (h9.keep hb (λ_ _ f=>f)) ha hz (by omega))
   have hs:(zs.take (cn (least zs))).length=cn (least zs):=by rw[Qg];omega
   have WF:Hid (∀w2,N0 w w2->Calls prog 240 #[.int .i64 (least zs),.slice ao (cn (least zs)) cap,.int .i64 (swi (least zs))] w2 λe w'=>e=.returned (.int .u64 (wd0 zs))∧w2=w') :=
    λw2 o2=>Cb (least zs) (swi (least zs)) _ (zs.take (cn (least zs))) w2 ((h9.head (n:=cn (least zs)) f2).keep o2 (λ_ _ f=>f)) f1 f3 (by rw[hs];exact g4) g3 (by rw[hs];omega)
   have RM:Hid (∀w2,Calls prog 239 #[.int .i64 (least zs)] w2 λe w'=>e=.returned (.tuple #[.int .i64 (cn (least zs)),.int .i64 (swi (least zs))])∧N0 w2 w'):=λw2=>Rc (least zs) w2 f1
   have ES:Hid (h0++fixL (wd0 zs) 8++enc (zs.drop (cn (least zs)))=enc xs):=by simp only[Hid];rw[<-h2,ZT hz ha,List.append_assoc]
   have hy:Hid (Up 60 (zs.drop (cn (least zs)))):=ha.drop _
   have hh:Hid (h0.length<=8*m):=by
    have h1:=congrArg List.length h2;rw[Qb] at h1;have:=hv.o;simp only[Hid];omega
   have hp:=h9.cap_le;have ho:=Qa h9;have h5:=Qa h4;have hj:=Qa hb;obtain⟨n,hn⟩:=EX zs.length;have h8:=Qa hn;rw[<-hn] at LS hp ho hr hzm f2 ⊢;generalize cn (least zs)=c at *;generalize swi (least zs)=q at *;generalize least zs=s at *;generalize wd0 zs=x at *
   have d0:decide (0<(n:Int))=true:=by simp;omega
   have j0:(0:Int)<=(c:Int):=by omega
   have j1:(c:Int)<=(n:Int):=by omega
   have j2:(c:Int)<=(cap:Int):=by omega
   clear h9 h4 hb h2 ha hn hz f1 f3 g4 hs
   by_cases hcc:cap=c
   ·subst hcc
    go_wp2_with fail;refine LS.o.mono ?_;rintro e w2 ⟨rfl,o2⟩;have O2:=Qa (hj.o.trans o2 (λ_ _ f=>f));have hg:=Qa (o2.own h5.o (λ_ _ f=>f));clear o2 LS hj h5;go_wp2_with fail;refine (RM.o w2).mono ?_;rintro e w3 ⟨rfl,o3⟩;have O3:=Qa (O2.o.trans o3 (λ_ _ f=>f));have he:=Qa (o3.own hg.o (λ_ _ f=>f));clear o3 O2 hg RM;go_wp2_with fail;refine (WF.o w3 O3.o).mono ?_;rintro e w3' ⟨rfl,rfl⟩;clear WF;go_wp2_with fail;refine (UF x 8 w3 (by omega)).mono ?_;rintro e w4 ⟨u,rfl,h3,o4⟩;have ow:=o4.own he.o (λ_ _ f=>f);have h6:=Bs.of_own h3;have hf:=Qa (NoCap.of_own h3);have hd:=Qa h6;have hq:w.heap.size<=w4.heap.size:=Nat.le_trans O3.o.size o4.size;have O4:=Qa (O3.o.trans o4 (λ_ _ f=>f));obtain⟨a4,c4,e4⟩:=h6.len;subst e4;clear o4 h3 O3 he h6;rw[Qt] at hd hf;go_wp2_with (at_builtin;refine Yr _ rfl _ _ _ rfl w.heap.size 5 i0 (.int .u8 0) 1 underlying22 hi ht k0 hw rfl _ _ _ rfl ow .u8 _ (fixL x 8) rfl hd.o hf.o ?c3 ?c4 hq ?_)
    case c3=>have:=hh.o;rw[Qt];unfold maxLen;omega
    case c4=>have:=hh.o;rw[Qt];omega
    intro v6 w6 own6 hgrow6 _ _
    have h7:Hid (w6.ownsRow w.heap.size 5 1 v6 (h0++fixL x 8).length ((h0++fixL x 8).map (Value.int .u8))):=by
     simp only[Hid];rw[Qb,List.map_append];exact own6
    have O6:=Qa (O4.o.grown hgrow6 (λk hk e=>absurd (ow.lt k e).1 (by omega)));clear ow own6 hgrow6;go_wp2
    go_roundw
    case rel =>
     refine⟨zs.drop cap,h0++fixL x 8,ao,0,ES.o,hy.o,?_,by rw[Qm,<-h8.o];omega,?_,h7.o,O6.o⟩
     ·rw[Qm,<-h8.o,show n - cap=0 by omega]
     ·rw[Qm,<-h8.o]
      exact (Nat.sub_self cap▸ho.o.cut0 f2)
    case measure =>
     simp only[];omega
   ·go_wp2_with fail
    refine LS.o.mono ?_;rintro e w2 ⟨rfl,o2⟩;have O2:=Qa (hj.o.trans o2 (λ_ _ f=>f));have hg:=Qa (o2.own h5.o (λ_ _ f=>f));clear o2 LS hj h5;go_wp2_with fail;refine (RM.o w2).mono ?_;rintro e w3 ⟨rfl,o3⟩;have O3:=Qa (O2.o.trans o3 (λ_ _ f=>f));have he:=Qa (o3.own hg.o (λ_ _ f=>f));clear o3 O2 hg RM;go_wp2_with fail;refine (WF.o w3 O3.o).mono ?_;rintro e w3' ⟨rfl,rfl⟩;clear WF;go_wp2_with fail;refine (UF x 8 w3 (by omega)).mono ?_;rintro e w4 ⟨u,rfl,h3,o4⟩;have ow:=o4.own he.o (λ_ _ f=>f);have h6:=Bs.of_own h3;have hf:=Qa (NoCap.of_own h3);have hd:=Qa h6;have hq:w.heap.size<=w4.heap.size:=Nat.le_trans O3.o.size o4.size;have O4:=Qa (O3.o.trans o4 (λ_ _ f=>f));obtain⟨a4,c4,e4⟩:=h6.len;subst e4;clear o4 h3 O3 he h6;rw[Qt] at hd hf;go_wp2_with (at_builtin;refine Yr _ rfl _ _ _ rfl w.heap.size 5 i0 (.int .u8 0) 1 underlying22 hi ht k0 hw rfl _ _ _ rfl ow .u8 _ (fixL x 8) rfl hd.o hf.o ?c3 ?c4 hq ?_)
    case c3=>have:=hh.o;rw[Qt];unfold maxLen;omega
    case c4=>have:=hh.o;rw[Qt];omega
    intro v6 w6 own6 hgrow6 _ _
    have h7:Hid (w6.ownsRow w.heap.size 5 1 v6 (h0++fixL x 8).length ((h0++fixL x 8).map (Value.int .u8))):=by
     simp only[Hid];rw[Qb,List.map_append];exact own6
    have O6:=Qa (O4.o.grown hgrow6 (λk hk e=>absurd (ow.lt k e).1 (by omega)));clear ow own6 hgrow6;go_wp2
    go_roundw
    case rel =>
     refine⟨zs.drop c,h0++fixL x 8,ao.map (λx=>x.add c),cap - c,ES.o,hy.o,?_,by rw[Qm,<-h8.o];omega,?_,h7.o,O6.o⟩
     ·rw[Qm,<-h8.o]
     ·rw[Qm,<-h8.o]
      exact ho.o.cut f2
    case measure =>
     simp only[];omega
theorem LN:∀(xs ys:LI),(∀x∈xs,0<=x∧x<=255)->(∀y∈ys,0<=y∧y<=255)->(xs.map λn=>UInt8.ofNat n.toNat)=(ys.map λn=>UInt8.ofNat n.toNat)->xs=ys
 | [],[],_,_,_=>rfl
 | [],y :: ys,_,_,h=>by simp at h
 | x :: xs,[],_,_,h=>by simp at h
 | x :: xs,y :: ys,hx,hy,h=>by
  simp only[List.map_cons,List.cons.injEq] at h;have h1:=hx x List.mem_cons_self;have h2:=hy y List.mem_cons_self
  have e:x.toNat % 256=y.toNat % 256:=by
   have:=congrArg UInt8.toNat h.1
   simpa using this
  have e2:x=y:=by omega
  rw[e2,LN xs ys (λa ha=>hx a (List.mem_cons_of_mem _ ha)) (λa ha=>hy a (List.mem_cons_of_mem _ ha)) h.2]
theorem AE (xs ys:LI) (hx:∀x∈xs,0<=x∧x<=255) (hy:∀y∈ys,0<=y∧y<=255):((strOfNums xs).toList == (strOfNums ys).toList)=decide (xs=ys):=by
 rw[Lib.strOfNums_toList,Lib.strOfNums_toList]
 by_cases h:xs=ys
 ·subst h;simp
 ·rw[Qh h]
  have:Lib.bytesOf xs≠Lib.bytesOf ys:=λe=>h (LN xs ys hx hy e)
  simp[this]
theorem Sc (src dst e:TypeId) (va:Value) (xs:LI) (w:World) (h:Bs .u8 w va xs) (hs:prog.underlying src=some (.slice e)) (he:prog.underlying e=some (.int .u8)) (hd:prog.underlying dst=some .string) :
 (convert src dst va).run prog w=.ok (.string (strOfNums xs)) w:=by
 obtain⟨ao,cap,rfl,hc,hr⟩:=h
 by_cases h0:xs=[]
 ·subst h0
  exact run_convert_bytes_zero w src e hs he ao cap dst hd
 ·obtain⟨b,off,rfl,h1⟩:=hr h0
  exact run_convert_bytes_arg (P:=prog) w src e hs he b off _ cap xs rfl h1 dst hd
theorem UZ (va vb:Value) (xs ys:LI) (w:World) (ha:Bs .u8 w va xs) (hb:Bs .u8 w vb ys) (hx:∀x∈xs,0<=x∧x<=255) (hy:∀y∈ys,0<=y∧y<=255) :
 Calls prog 23 #[va,vb] w λe w'=>e=.returned (.bool (decide (xs=ys)))∧w=w':=by
 have h1:=Sc 22 9 5 va xs w ha underlying22 underlying5 underlying9;have h2:=Sc 22 9 5 vb ys w hb underlying22 underlying5 underlying9;rw[<-AE xs ys hx hy];clear ha hb hx hy;go_enter func23,ntmps23;go_wp2;go_ret;exact⟨rfl,rfl⟩
theorem gK (v k:Nat):((List.range (k+1)).map λi=>(numAt v (swi (v / 2^60)) i:Int))=((List.range k).map λi=>(numAt v (swi (v / 2^60)) i:Int))++[(numAt v (swi (v / 2^60)) k:Int)]:=by
 rw[List.range_succ,List.map_append];rfl
theorem wQ (v q k:Nat) (hv:v<18446744073709551616) (hq:q<=60):bits .and .u64 ((v:Int) / 2^(60 - (k+1)*q)) (2^q - 1)=(numAt v q k:Int):=by
 have e1:((v:Int) / 2^(60 - (k+1)*q))=((v / 2^(60 - (k+1)*q):Nat):Int):=by simp
 have hp:=Nat.two_pow_pos q
 have e2:((2:Int)^q - 1)=((2^q - 1:Nat):Int):=by
  rw[<-Tv];omega
 have h60:2^q<=2^60:=Nat.pow_le_pow_right (by omega) hq
 have e60:(2:Nat)^60=1152921504606846976:=by decide
 have hd:=Nat.div_le_self v (2^(60 - (k+1)*q));rw[e1,e2,u64_and_nat _ _ (by omega) (by omega),Nat.and_two_pow_sub_one_eq_mod]
 rfl
theorem IL (lo:Nat) (u:Value) (acc:LI) (v:Nat) (w:World) (h0:w.ownsRow lo 23 1 u acc.length (acc.map (Value.int .u64))) (hlo:lo<=w.heap.size) (hv:v<18446744073709551616) (ha:acc.length<=70000) :
 Calls prog 278 #[u,.int .u64 v] w λe w'=>∃u',e=.returned u'∧w'.ownsRow lo 23 1 u' (acc++nms v).length ((acc++nms v).map (Value.int .u64))∧Only (λk=>lo<=k) w w':=by
 obtain⟨i0,hi,hz0,hz1,hz2⟩:=info_parts Tryz.infoU64;have hs:=Gx hv;obtain⟨g1,g2,g3,g4,_⟩:=Y5 _ hs
 have h3:(2:Int)^60=1152921504606846976:=by decide
 have RM:Hid (Calls prog 239 #[.int .i64 ((v:Int) / 1152921504606846976)] w λe w'=>e=.returned (.tuple #[.int .i64 (cn (v / 2^60)),.int .i64 (swi (v / 2^60))])∧N0 w w'):=by
  have:=Rc (v / 2^60) w hs
  have e:((v / 2^60:Nat):Int)=(v:Int) / 1152921504606846976:=by rw[<-h3];simp
  rw[e] at this;exact this
 have NU:Hid (nms v=((List.range (cn (v / 2^60))).map λi=>(numAt v (swi (v / 2^60)) i:Int))):=rfl;have SN:Hid (∀k,((List.range (k+1)).map λi=>(numAt v (swi (v / 2^60)) i:Int))=((List.range k).map λi=>(numAt v (swi (v / 2^60)) i:Int))++[(numAt v (swi (v / 2^60)) k:Int)]):=gK v;generalize swi (v / 2^60)=q at *;generalize cn (v / 2^60)=c at *
 have AN:Hid (∀k,bits .and .u64 ((v:Int) / 2^(60 - (k+1)*q)) (2^q - 1)=(numAt v q k:Int)):=λk=>wQ v q k hv g3
 have v0:(0:Int)<=(v:Int):=by omega
 have v1:(v:Int)<=18446744073709551615:=by omega
 have q1:(q:Int)<=60:=by omega
 have h1:=Qa h0;have t0:(1:Int)<=2^q:=JA (Nat.zero_le q)
 have t1:(2:Int)^q<=1152921504606846976:=by rw[<-h3];exact JA g3
 clear h0 hs h3;go_enter func278,ntmps278;go_wp2_with fail;refine RM.o.mono ?_;rintro e w1 ⟨rfl,o1⟩;have O1:=Qa o1;have h5:=Qa (o1.own h1.o (λ_ _ f=>f));clear o1 RM h1;go_wp2
 go_loopw [0,20] (λo i wr=>∃k:Nat,k<=c∧i=.int .i64 k∧wr.ownsRow lo 23 1 o (acc.length+k) ((acc++(List.range k).map λi=>(numAt v q i:Int)).map (Value.int .u64))∧Only (λk=>lo<=k) w wr) (λ_ i _=>c - (intOf i).toNat)
 case atStart=>exact⟨0,Nat.zero_le _,rfl,by simpa using h5.o,O1.o.mono (λ_ _ f=>f.elim)⟩
 case round =>
  obtain⟨k,hk,rfl,h0,h2⟩:=hrel;clear h5 O1
  by_cases hlt:k<c
  ·have pk:(k+1)*q<=60:=Nat.le_trans (Nat.mul_le_mul_right q (by omega)) g4
   have p0:(0:Int)<=((k:Int)+1)*(q:Int):=by rw[show ((k:Int)+1)=((k+1:Nat):Int) by simp,<-Int.natCast_mul];omega
   have p1:((k:Int)+1)*(q:Int)<=60:=by rw[show ((k:Int)+1)=((k+1:Nat):Int) by simp,<-Int.natCast_mul];omega
   have A1:=AN.o k;have S1:=Qa (SN.o k);have hsz:=h2.size;have hN:=Qa h2;generalize numAt v q k=x at A1 S1;clear hk h2;go_wp2_with (at_builtin;refine wpList_append_lies _ rfl _ _ _ rfl lo 23 i0 (.int .u64 0) 1 8 underlying161 hi hz0 hz1 hz2 rfl (by omega) _ (acc.length+k) _ rfl (h0.alloc _) ⟨wr.heap.size,0,none⟩ 1 1 [.int .u64 x] rfl rfl ?c1 ?c2 (by omega) ?c3 ?c4 ?c5 (wr.heap.size+1) (by simp) ?_)
   case c1=>exact cell_one_new _ _ _
   case c2=>intro u hu;simp at hu;subst hu;rfl
   case c3=>unfold maxLen;omega
   case c4=>omega
   case c5=>simp;omega
   intro g cap1 w3 hown1 hgrow hat hg1;have o3:=Qa ((hN.o.alloc _).grown hgrow (λp _ hp=>(h0.lt p hp).1))
   have h4:Hid (w3.ownsRow lo 23 1 (.slice (some ⟨g,0,none⟩) (acc.length+k+1) cap1) (acc.length+(k+1)) ((acc++(List.range (k+1)).map λi=>(numAt v q i:Int)).map (Value.int .u64))):=by
    simp only[Hid];rw[S1.o,<-Nat.add_assoc];simpa using hown1
   clear h0 hown1 hgrow hat hN;go_wp2
   go_roundw
   case rel=>exact⟨k+1,by omega,by go_num,h4.o,o3.o⟩
   case measure=>simp[intOf];omega
  ·have hkc:k=c:=by omega
   subst hkc
   have F:Hid (wr.ownsRow lo 23 1 u0 (acc++nms v).length ((acc++nms v).map (Value.int .u64))∧Only (λk=>lo<=k) w wr):=by
    simp only[Hid];rw[NU.o];exact⟨by simpa using h0,h2⟩
   clear h0 h2;go_wp2;go_ret;exact⟨_,rfl,F.o⟩
theorem Ls (h:ys.length<8):QW 8 ys=(0,0,2):=by
 unfold QW;rw[if_neg (by omega),if_pos (by omega)]
theorem DI (h:8<=ys.length):QW 8 ys=((num (ys.take 8):Int),8,0):=by
 unfold QW;rw[if_neg (by omega),if_neg (by omega)]
 rfl
def lenS:Value->Nat | .slice _ n _=>n | _=>0
theorem qD (h:CurAt 112 w R v ys) (hvb:∀k,v.ownBlock=some k->k<w.heap.size) (n:Nat) (hn:n<=65536) :
 Calls prog 266 #[.pointer (some ⟨R,0,none⟩),.int .i64 n] w λe w'=>∃u,e=.returned (.tuple #[u,.int .i64 (rdA n ys).2.2])∧w'.ownsRow w.heap.size 23 1 u (rdA n ys).1.length ((rdA n ys).1.map (Value.int .u64))∧Only (λk=>k=R) w w':=by
 have hR:R<w.heap.size:=(Array.getElem?_eq_some_iff.1 h.cell).1;have HC:=Qa h;have HVB:=Qa hvb;clear h hvb;go_enter func266,ntmps266;go_wp2
 go_loopw [6] (λl wr=>∃(f:Nat) (acc h1:LI) (v':Value),wr.ownsRow w.heap.size 23 1 l acc.length (acc.map (Value.int .u64))∧CurAt 112 wr R v' h1∧v'.ownBlock=v.ownBlock∧h1.length<f∧rdF f n acc h1=rdA n ys∧acc.length<n+240∧Only (λk=>k=R) w wr) (λl _=>n - lenS l)
 case atStart=>exact⟨ys.length+1,[],ys,v,World.ownsRow_nil _ _ _ _,HC.o,rfl,by omega,rfl,by simp,Only.refl _ _⟩
 case round =>
  obtain⟨f,acc,h1,v',h5,h2,hg,hf,h7,hacc,hb⟩:=hrel;clear HC;obtain⟨a6,c6,e6⟩:=(Bs.of_own h5).len;subst e6;have h0:=Qa h5;have he:=Qa hb;have hp:=Qa hg
  by_cases hlt:acc.length<n
  ·have d0:decide ((acc.length:Int)<(n:Int))=true:=by simp;omega
   have FX:=Qa (Ke h2 8)
   by_cases hs:h1.length<8
   ·rw[Ls hs] at FX
    have HR:Hid (rdA n ys=([],h1,2)):=by simp only[Hid];rw[<-h7,T3 hlt hs (by omega)]
    clear h5 h2 hg h7 hb;generalize acc.length=m at *;go_wp2_with fail;refine FX.o.mono ?_;rintro e w2 ⟨rfl,v2,_,_,o2⟩;have O2:=Qa (he.o.trans o2 (λ_ _ e=>e));clear FX o2 h0;go_wp2;go_ret2;rw[HR.o];exact⟨_,rfl,World.ownsRow_nil _ _ _ _,O2.o⟩
   ·rw[DI (by omega)] at FX
    have hv:=Nq h2.rng;have h3:=Hj hlt (by omega) hf;have hd:Hid (rdF (f - 1) n (acc++nms (num (h1.take 8))) (h1.drop 8)=rdA n ys∧(h1.drop 8).length<f - 1):=⟨by rw[<-h7,h3.1],h3.2⟩
    have ha:Hid ((acc++nms (num (h1.take 8))).length<n+240∧acc.length<(acc++nms (num (h1.take 8))).length):=by
     have h4:=Y5 _ (Gx hv);simp only[Hid];rw[Qb,PO];omega
    have HV:=Qa hv;obtain⟨x,hx⟩:=EX (num (h1.take 8));rw[<-hx] at FX hd ha HV;obtain⟨m,hm⟩:=EX acc.length;rw[<-hm] at h0 d0 ha hlt ⊢;have HM:=Qa hm;obtain⟨z,hz⟩:=EX (acc++nms x);rw[<-hz] at hd ha;have HZ:=Qa hz;clear hz;clear h5 h2 hg h7 hb h3 hx hv hm;go_wp2_with fail;refine FX.o.mono ?_;rintro e w2 ⟨rfl,v2,h8,ho,o2⟩;have O2:=Qa (he.o.trans o2 (λ_ _ e=>e))
    have hl:Hid (w2.ownsRow w.heap.size 23 1 (.slice a6 acc.length c6) acc.length (acc.map (Value.int .u64))):=by
     simp only[Hid];rw[<-HM.o];exact o2.own h0.o (λk hk e=>by have:=(h0.o.lt k hk).1;omega)
    have h9:=Qa h8;have hj:=Qa (ho.trans hp.o);have AP:=Qa (IL w.heap.size _ acc x w2 hl.o O2.o.size HV.o (by omega));rw[<-HM.o,<-HZ.o] at AP;clear FX o2 h0 he hp h8 ho hl;go_wp2_with fail;refine AP.o.mono ?_;rintro e w3 ⟨u3,rfl,h6,o3⟩
    have F:Hid (CurAt 112 w3 R v2 (h1.drop 8)∧v2.ownBlock=v.ownBlock∧Only (λk=>k=R) w w3) :=
     ⟨h9.o.keep o3 (by omega) (λk hk e=>by have:=HVB.o k (by rw[<-hj.o];exact hk);omega),hj.o,O2.o.trans o3 (λk hk e=>by omega)⟩
    have hh:=Qa h6;obtain⟨a7,c7,e7⟩:=(Bs.of_own h6).len;subst e7;clear AP h6 o3 O2 h9 hj;go_wp2
    go_roundw
    case rel=>exact⟨f - 1,_,h1.drop 8,v2,hh.o,F.o.1,F.o.2.1,hd.o.2,hd.o.1,ha.o.1,F.o.2.2⟩
    case measure=>have:=ha.o;simp only[lenS];omega
  ·have d0:decide ((acc.length:Int)<(n:Int))=false:=Qh (by omega)
   have HR:Hid (rdA n ys=(acc,h1,0)):=by simp only[Hid];rw[<-h7,JH (by omega)]
   clear h5 h2 hg h7 hb;obtain⟨m,hm⟩:=EX acc.length;rw[<-hm] at h0 d0 hlt ⊢;have HM:=Qa hm;clear hm;go_wp2;go_ret2;rw[HR.o];exact⟨_,rfl,by rw[<-HM.o];exact h0.o,he.o⟩
theorem tS (v:Value) (n:Int) (w:World) (h:n<0∨65536<n) :
 Calls prog 248 #[v,.int .i64 n] w λe w'=>e=.returned (.tuple #[.slice none 0 0,.int .i64 1])∧w=w':=by
 by_cases h0:n<0
 ·have d0:decide (n<0)=true:=Qc h0
  clear h;go_enter func248,ntmps248;go_wp2;go_ret2;exact⟨rfl,rfl⟩
 ·have d0:decide (n<0)=false:=Qh h0
  have d1:decide (65536<n)=true:=Qc (by omega);clear h;go_enter func248,ntmps248;go_wp2;go_ret2;exact⟨rfl,rfl⟩
theorem qT (v:Value) (ys:LI) (n:Nat) (w:World) (h:Bs .u8 w v ys) (hr:∀y∈ys,0<=y∧y<=255) (hl:ys.length<=1000000000000) (hn:n<=65536) :
 Calls prog 248 #[v,.int .i64 n] w λe w'=>∃u,e=.returned (.tuple #[u,.int .i64 (dec ys n).2])∧w'.ownsRow w.heap.size 23 1 u (dec ys n).1.length ((dec ys n).1.map (Value.int .u64))∧N0 w w':=by
 have d0:decide ((n:Int)<0)=false:=by simp
 have d1:decide (65536<(n:Int))=false:=by simp;omega
 have NW:=Qa (Ut v ys w h hr hl);have HB:=Qa h;have HR:=Qa hr;have RF:=Qa (R7 (n:=n) hr);clear h hr;go_enter func248,ntmps248;go_wp2_with fail;refine NW.o.mono ?_;rintro e w1 ⟨R,v1,rfl,h9,o1,r0,r1,ha⟩;have RD:=Qa (qD h9 (λk hk=>(ha k hk).2) n hn);have h4:=Qa (And.intro r0 o1.size);have O1:=Qa o1;clear NW h9 o1 ha r0 r1;go_wp2_with fail;refine RD.o.mono ?_;rintro e w2 ⟨u,rfl,h5,o2⟩;have O2:=Qa (O1.o.trans o2 (λk hk e=>absurd h4.o.1 (by omega)));have h0:=Qa (Qr h5 h4.o.2);clear RD h5 o2 O1
 rcases RF.o with ⟨f1,f2⟩ | ⟨f1,f2,f3,f4⟩
 ·have HD:Hid (dec ys n=([],2)):=by simp only[Hid,dec];rw[if_pos (by rw[f1];decide)]
  rw[f1];clear f1 f2 h0 RF h4;obtain⟨x2,h2⟩:∃x2:Int,x2=2:=⟨_,rfl⟩;go_wp2;go_ret2;rw[HD.o];exact⟨_,rfl,World.ownsRow_nil _ _ _ _,O2.o⟩
 ·have HF0:=Qa f1
  rw[f1];obtain⟨l,h3⟩:=EX ((rdA n ys).1);rw[<-h3] at h0 f2 f3 f4;have HL2:=Qa h3;have h7:=Bs.of_own h0.o;obtain⟨a2,c2,e2⟩:=h7.len;subst e2
  by_cases hgt:n<l.length
  ·have HD:Hid (dec ys n=([],3)):=by simp only[Hid,dec];rw[if_neg (by rw[f1];decide),<-h3,if_pos hgt]
   clear f1 f2 RF h4 h7 h3 h0;generalize l.length=m at *;have dm:decide (n<m)=true:=Qc hgt;go_wp2;go_ret2;rw[HD.o];exact⟨_,rfl,World.ownsRow_nil _ _ _ _,O2.o⟩
  ·have h8:l.length=n:=by omega
   have EN:=Qa (Dt _ l w2 h7 f2 (by omega));have HER:=Qa (RY l.length l rfl f2);have HB2:=Qa (HB.o.keep O2.o (λ_ _ f=>f))
   have h6:Hid (dec ys n=if enc l=ys then (l,0) else ([],3)):=by simp only[Hid,dec];rw[if_neg (by rw[f1];decide),<-h3,if_neg hgt]
   have HSZ:=Qa O2.o.size;rw[h8] at EN h0 ⊢;have HLN:=Qa h8
   have dn:decide (n<n)=false:=by simp
   clear f1 f2 f3 f4 RF h4 h7 h3 hgt h8;go_wp2_with fail;refine EN.o.mono ?_;rintro e w3 ⟨u3,rfl,h1,o3⟩;have EQ:=Qa (UZ u3 v (enc l) ys w3 (Bs.of_own h1) (HB2.o.keep o3 (λ_ _ f=>f)) HER.o HR.o);have O3:=Qa (O2.o.trans o3 (λ_ _ f=>f));have OW3:=Qa (o3.own h0.o (λ_ _ f=>f));obtain⟨a3,c3,e3⟩:=(Bs.of_own h1).len;subst e3;obtain⟨m3,hb⟩:=EX ((enc l).length);rw[<-hb] at EQ ⊢;clear EN h1 o3 h0 O2 hb
   by_cases he:enc l=ys
   ·rw[if_pos he] at h6
    rw[Qc he] at EQ;clear he;go_wp2_with fail;refine EQ.o.mono ?_;rintro e w4 ⟨rfl,rfl⟩;clear EQ;go_wp2;go_ret2;rw[h6.o];exact⟨_,rfl,by rw[HLN.o];exact OW3.o,O3.o⟩
   ·rw[if_neg he] at h6
    rw[Qh he] at EQ;clear he;go_wp2_with fail;refine EQ.o.mono ?_;rintro e w4 ⟨rfl,rfl⟩;clear EQ;go_wp2;go_ret2;rw[h6.o];exact⟨_,rfl,World.ownsRow_nil _ _ _ _,O3.o⟩
theorem zA (va vb:Value) (xs:LI) (w:World) (ha:Bs .u8 w va xs) (hb:Bs .u8 w vb xs) (hl:xs.length<=140737488355328) :
 Calls prog 26 #[va,vb] w λe w'=>e=.returned (.bool true)∧N0 w w':=by
 obtain⟨aoa,ca,rfl,hca,h5⟩:=ha;obtain⟨aob,cb,rfl,hcb,h6⟩:=hb
 have hbn:((xs.length:Int) != (xs.length:Int))=false:=by simp
 by_cases hx:xs=[]
 ·subst hx
  clear h5 h6;simp only[List.length_nil];go_enter func26,ntmps26;go_wp2
  go_loop [5] (λi=>i=.int .i64 0) (λ_=>0)
  case atStart=>rfl
  case round =>
   subst hrel;go_wp2;go_ret;exact⟨rfl,Only.refl _ _⟩
 ·obtain⟨ba,oa,rfl,h3⟩:=h5 hx
  obtain⟨bb,ob,rfl,h0⟩:=h6 hx;clear h5 h6 hx;obtain⟨n,hn⟩:=EX xs.length;rw[<-hn] at hbn hca hcb h3 h0 hl ⊢;have HA:Hid (∀j,j<n->w.cell? ⟨ba,oa+j,none⟩=some (.int .u8 (xs.getD j 0))):=h3;have HB:Hid (∀j,j<n->w.cell? ⟨bb,ob+j,none⟩=some (.int .u8 (xs.getD j 0))):=h0;clear h3 h0 hn;go_enter func26,ntmps26;go_wp2
  go_loopw [5] (λi wr=>∃k:Nat,k<=n∧i=.int .i64 k∧N0 w wr) (λi _=>n - (intOf i).toNat)
  case atStart=>exact⟨0,Nat.zero_le _,rfl,Only.refl _ _⟩
  case round =>
   obtain⟨k,hk,rfl,h4⟩:=hrel
   by_cases hlt:k<n
   ·obtain⟨y,hy⟩:=EX (xs.getD k 0)
    have h1:wr.cell? ⟨ba,oa+k,none⟩=some (.int .u8 y):=by
     have:=HA.o k hlt;rw[World.cell?_of_block (h4.block ba (World.block_lt_of_cell? w _ this) (λf=>f)),hy];exact this
    have h2:wr.cell? ⟨bb,ob+k,none⟩=some (.int .u8 y):=by
     have:=HB.o k hlt;rw[World.cell?_of_block (h4.block bb (World.block_lt_of_cell? w _ this) (λf=>f)),hy];exact this
    have i0:(0:Int)<=(k:Int):=by omega
    have i1:(k:Int)<(n:Int):=by omega
    have hy1:(y != y)=false:=by simp
    clear hy;go_wp2;go_quiet (fail);go_wp2
    go_roundw
    case rel=>exact⟨k+1,by omega,by go_num,h4.drewN nq⟩
    case measure=>simp[intOf];omega
   ·go_wp2
    go_ret;exact⟨rfl,h4⟩
theorem ut (va vb:Value) (xs ys:LI) (w:World) (ha:Bs .u8 w va xs) (hb:Bs .u8 w vb ys) (h:xs.length≠ys.length) :
 Calls prog 26 #[va,vb] w λe w'=>e=.returned (.bool false)∧N0 w w':=by
 obtain⟨aoa,ca,rfl⟩:=ha.len;obtain⟨aob,cb,rfl⟩:=hb.len
 have hbn:((xs.length:Int) != (ys.length:Int))=true:=by simp;omega
 clear ha hb h;generalize xs.length=n at *;generalize ys.length=m at *;go_enter func26,ntmps26;go_wp2;go_ret;exact⟨rfl,Only.refl _ _⟩
theorem Ba (va vb:Value) (xs ys:LI) (w:World) (ha:Bs .u8 w va xs) (hb:Bs .u8 w vb ys) (hlen:ys.length=xs.length) (hl:xs.length<=140737488355328) (hne:xs≠ys) :
 Calls prog 26 #[va,vb] w λe w'=>e=.returned (.bool false)∧N0 w w':=by
 obtain⟨aoa,ca,rfl,hca,h8⟩:=ha;obtain⟨aob,cb,rfl,h9,hd⟩:=hb
 have hx:xs≠[]:=by
  intro h0;subst h0;exact hne (List.eq_nil_of_length_eq_zero hlen).symm
 have hy:ys≠[]:=by
  intro h0;subst h0;exact hx (List.eq_nil_of_length_eq_zero hlen.symm)
 obtain⟨ba,oa,rfl,h4⟩:=h8 hx;obtain⟨bb,ob,rfl,h3⟩:=hd hy
 have HD:Hid (¬∀j,j<xs.length->xs.getD j 0=ys.getD j 0):=by
  intro h
  apply hne
  apply List.ext_getElem hlen.symm
  intro i h1 h2;have:=h i h1;rw[Qd,Qd,Qi h1,Qi h2] at this;exact this
 rw[hlen] at h9 h3 ⊢
 have hbn:((xs.length:Int) != (xs.length:Int))=false:=by simp
 clear h8 hd hx hy hne hlen;obtain⟨n,hn⟩:=EX xs.length;rw[<-hn] at hbn hca h9 h4 h3 hl HD ⊢;have HA:Hid (∀j,j<n->w.cell? ⟨ba,oa+j,none⟩=some (.int .u8 (xs.getD j 0))):=h4;have HB:Hid (∀j,j<n->w.cell? ⟨bb,ob+j,none⟩=some (.int .u8 (ys.getD j 0))):=h3;clear h4 h3 hn;go_enter func26,ntmps26;go_wp2
 go_loopw [5] (λi wr=>∃k:Nat,k<=n∧i=.int .i64 k∧N0 w wr∧∀j,j<k->xs.getD j 0=ys.getD j 0) (λi _=>n - (intOf i).toNat)
 case atStart=>exact⟨0,Nat.zero_le _,rfl,Only.refl _ _,λj hj=>absurd hj (by omega)⟩
 case round =>
  obtain⟨k,hk,rfl,h7,h6⟩:=hrel;have h5:=Qa h6;clear h6
  by_cases hlt:k<n
  ·obtain⟨y,hy⟩:=EX (xs.getD k 0)
   obtain⟨z,hz⟩:=EX (ys.getD k 0)
   have h1:wr.cell? ⟨ba,oa+k,none⟩=some (.int .u8 y):=by
    have:=HA.o k hlt;rw[World.cell?_of_block (h7.block ba (World.block_lt_of_cell? w _ this) (λf=>f)),hy];exact this
   have h2:wr.cell? ⟨bb,ob+k,none⟩=some (.int .u8 z):=by
    have:=HB.o k hlt;rw[World.cell?_of_block (h7.block bb (World.block_lt_of_cell? w _ this) (λf=>f)),hz];exact this
   have i0:(0:Int)<=(k:Int):=by omega
   have i1:(k:Int)<(n:Int):=by omega
   by_cases hyz:y=z
   ·have HE:=Qa (show xs.getD k 0=ys.getD k 0 by rw[<-hy,<-hz];exact hyz)
    subst hyz
    have hy1:(y != y)=false:=by simp
    clear hy hz;go_wp2;go_quiet (fail);go_wp2
    go_roundw
    case rel=>exact⟨k+1,by omega,by go_num,h7.drewN nq,λj hj=>by
     rcases Nat.lt_or_ge j k with h | h
     ·exact h5.o j h
     ·rw[show j=k by omega];exact HE.o⟩
    case measure=>simp[intOf];omega
   ·have hy1:(y != z)=true:=by simpa using hyz
    clear hy hz hyz;go_wp2;go_quiet (fail);go_wp2;go_ret;exact⟨rfl,h7.drewN nq⟩
  ·exact absurd (λj hj=>h5.o j (by omega)) HD.o
theorem Nm (va vb:Value) (xs ys:LI) (w:World) (ha:Bs .u8 w va xs) (hb:Bs .u8 w vb ys) (hl:xs.length<=140737488355328) :
 Calls prog 26 #[va,vb] w λe w'=>e=.returned (.bool (decide (xs=ys)))∧N0 w w':=by
 by_cases h:xs=ys
 ·subst h
  rw[Qc rfl];exact zA va vb xs w ha hb hl
 ·rw[Qh h]
  by_cases hlen:ys.length=xs.length
  ·exact Ba va vb xs ys w ha hb hlen hl h
  ·exact ut va vb xs ys w ha hb (λe=>hlen e.symm)
def Ug (xs:LI):LI × Int:=if 65536<xs.length then ([],4) else if small 60 xs=true then (enc xs,0) else ([],1)
def UX (ys:LI) (n:Int):LI × Int:=if n<0∨65536<n then ([],1) else dec ys n.toNat
theorem vP (v:Value) (xs:LI) (w:World) (h:Bs .u64 w v xs) (hu:U64 xs) :
 Calls prog 209 #[v] w λe w'=>∃v',e=.returned (.tuple #[v',.int .i64 (Ug xs).2])∧w'.ownsRow w.heap.size 5 1 v' (Ug xs).1.length ((Ug xs).1.map (Value.int .u8))∧N0 w w':=by
 unfold Ug
 by_cases hl:65536<xs.length
 ·rw[if_pos hl]
  refine (yJ v xs w h hl).mono ?_;rintro e w' ⟨rfl,rfl⟩;exact⟨_,rfl,World.ownsRow_nil _ _ _ _,Only.refl _ _⟩
 ·rw[if_neg hl]
  by_cases hs:small 60 xs=true
  ·rw[if_pos hs]
   exact Dt v xs w h (Hn hs (λx hx=>(hu x hx).1)) (by omega)
  ·rw[if_neg hs]
   refine (pq v xs w h hu (by omega) (by simpa using hs)).mono ?_;rintro e w' ⟨rfl,rfl⟩;exact⟨_,rfl,World.ownsRow_nil _ _ _ _,Only.refl _ _⟩
theorem wo (v:Value) (ys:LI) (n:Int) (w:World) (h:Bs .u8 w v ys) (hr:∀y∈ys,0<=y∧y<=255) (hl:ys.length<=1000000000000) :
 Calls prog 248 #[v,.int .i64 n] w λe w'=>∃u,e=.returned (.tuple #[u,.int .i64 (UX ys n).2])∧w'.ownsRow w.heap.size 23 1 u (UX ys n).1.length ((UX ys n).1.map (Value.int .u64))∧N0 w w':=by
 unfold UX
 by_cases hn:n<0∨65536<n
 ·rw[if_pos hn]
  refine (tS v n w hn).mono ?_;rintro e w' ⟨rfl,rfl⟩;exact⟨_,rfl,World.ownsRow_nil _ _ _ _,Only.refl _ _⟩
 ·rw[if_neg hn]
  obtain⟨m,rfl⟩:=Int.eq_ofNat_of_zero_le (show 0<=n by omega);exact qT v ys m w h hr hl (by omega)
theorem Js (h0:∀x∈xs,0<=x) (h:(Ug xs).2=0):Ug xs=(enc xs,0)∧Up 60 xs∧xs.length<=65536:=by
 unfold Ug at *
 by_cases hl:65536<xs.length
 ·rw[if_pos hl] at h;cases h
 ·rw[if_neg hl] at h ⊢
  by_cases hs:small 60 xs=true
  ·rw[if_pos hs];exact⟨rfl,Hn hs h0,by omega⟩
  ·rw[if_neg hs] at h;cases h
theorem vI (h0:∀x∈xs,0<=x):(Ug xs).1.length<=600000:=by
 by_cases h:(Ug xs).2=0
 ·obtain⟨e,hu,hl⟩:=Js h0 h
  rw[e];have:=(SH xs.length xs rfl hu).2.1;simp only;omega
 ·unfold Ug at *
  by_cases hl:65536<xs.length
  ·rw[if_pos hl];decide
  ·rw[if_neg hl] at h ⊢
   by_cases hs:small 60 xs=true
   ·rw[if_pos hs] at h;exact absurd rfl h
   ·rw[if_neg hs];decide
theorem Mm {n:Int} (hr:∀y∈ys,0<=y∧y<=255) :
 (∃c,UX ys n=([],c)∧c≠0)∨(∃l,UX ys n=(l,0)∧Up 60 l∧(l.length:Int)=n∧l.length<=65536∧enc l=ys):=by
 unfold UX
 by_cases hn:n<0∨65536<n
 ·rw[if_pos hn];exact .inl ⟨1,rfl,by decide⟩
 ·rw[if_neg hn]
  rcases AC (n:=n.toNat) hr with ⟨c,h1,h2⟩ | ⟨l,h1,h2,h3,h4⟩
  ·exact .inl ⟨c,h1,by omega⟩
  ·exact .inr ⟨l,h1,h2,by omega,by omega,h4⟩
theorem pD (ys:LI) (n:Nat) (h:n<=65536):UX ys n=dec ys n:=by
 unfold UX;rw[if_neg (by omega)]
 rfl
end Go.Proofs.YteciafpneamfaaaGreatDoor
