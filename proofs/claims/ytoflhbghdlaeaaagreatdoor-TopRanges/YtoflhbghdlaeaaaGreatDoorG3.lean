import Derived.Test.YtoflhbghdlaeaaaGreatDoorG2
namespace Go.Proofs.YtoflhbghdlaeaaaGreatDoor
set_option maxHeartbeats 1000000
set_option maxRecDepth 100000
open Go.RowKit _root_.Go.Proofs.Tryz
variable {w w' W:World} {v:Value} {ys xs l:LI} {R n p k g B:Nat} {P:Program} {ls:List (LI)} {E:TypeId}
theorem Kl (N:Nat):∀k,(Value.slice none 0 0).ownBlock=some k->N<=k:=λk hk=>by cases hk
def num (l:LI):Nat:=l.foldl (λa y=>256*a+y.toNat) 0
theorem ZL (l:LI) (y:Int):num (l++[y])=256*num l+y.toNat:=by simp[num]
theorem GE (l:LI) (hr:∀y∈l,0<=y∧y<=255):num l<256^l.length:=by
 induction h:l.length generalizing l with
 | zero =>
  have:l=[]:=List.eq_nil_of_length_eq_zero h;subst this;simp[num]
 | succ n ih =>
  have h1:l≠[]:=by intro h0;subst h0;simp at h
  obtain⟨t,b,rfl⟩:∃t b,l=t++[b]:=⟨l.dropLast,l.getLast h1,(List.dropLast_concat_getLast h1).symm⟩;have:=ih t (λy hy=>hr y (by simp[hy])) (by simp at h;omega);have hb:=hr b (by simp);rw[ZL,Nat.pow_succ];omega
theorem UU (l:LI) (k:Nat) (h:k<l.length):l.take (k+1)=l.take k++[l.getD k 0]:=by
 rw[List.take_succ_eq_append_getElem h,Qd,Qg h];rfl
theorem qI (h:k<=7):256^k<=72057594037927936:=by
 have h1:256^k<=256^7:=Nat.pow_le_pow_right (by omega) h
 have h2:(256:Nat)^7=72057594037927936:=by decide
 omega
theorem Mg (zs:LI) (k:Nat) (hr:∀y∈zs,0<=y∧y<=255) (h8:zs.length<=8) (h:k<zs.length) :
 num (zs.take k)<72057594037927936∧bits .or .u64 ((num (zs.take k):Int)*256) (zs.getD k 0)=(num (zs.take (k+1)):Int):=by
 have hl:=GE (zs.take k) (λy hy=>hr y (List.mem_of_mem_take hy));rw[Qf,Nat.min_eq_left (by omega)] at hl;have hp:=qI (k:=k) (by omega);have hy:=hr (zs.getD k 0) (by rw[Qd,Qg h];simp);rw[UU zs k h,ZL];generalize zs.getD k 0=y at hy;generalize num (zs.take k)=a at hl;obtain⟨m,rfl⟩:=Int.eq_ofNat_of_zero_le hy.1
 have e2:((a:Int)*256)=((256*a:Nat):Int):=by omega
 refine⟨by omega,?_⟩;rw[e2,u64_or_nat _ _ (by omega) (by omega),nat_join 8 _ _ (by omega) (by omega),Int.toNat_natCast]
def sByte (ys:LI):Int × Nat × Int:=if ys.length=0 then (0,0,2) else (ys.getD 0 0,1,0)
def YG (n:Int) (ys:LI):LI × Nat × Int:=if n<0 then ([],0,1) else if (ys.length:Int)<n then ([],0,2) else (ys.take n.toNat,n.toNat,0)
def Y6 (n:Int) (ys:LI):Int × Nat × Int:=if n<0∨8<n then (0,0,1) else if (ys.length:Int)<n then (0,0,2) else (num (ys.take n.toNat),n.toNat,0)
def Qh (ys:LI):Int × Nat × Int:=((rd 0 0 ys).1,(rd 0 0 ys).2.1.toNat,(rd 0 0 ys).2.2)
def Qq (most:Int) (ys:LI):LI × Nat × Int :=
 if most<0 then ([],0,1) else if (Qh ys).2.2≠0 then ([],0,(Qh ys).2.2) else if most<(Qh ys).1 then ([],0,4)
 else if (ys.length:Int) - (Qh ys).2.1<(Qh ys).1 then ([],0,2) else ((ys.drop (Qh ys).2.1).take (Qh ys).1.toNat,(Qh ys).2.1+(Qh ys).1.toNat,0)
theorem Jj (ys:LI) (hr:∀y∈ys,0<=y∧y<=255):(∃c,rd 0 0 ys=(0,0,c)∧(c=2∨c=3))∨(∃a k:Nat,rd 0 0 ys=((a:Int),(k:Int),0)∧1<=k∧k<=ys.length∧k<=10∧a<18446744073709551616∧gs a=ys.take k):=by
 obtain⟨r,n,c,h⟩:∃r n c,rd 0 0 ys=(r,n,c):=⟨_,_,_,rfl⟩
 rcases Ml ys 0 0 with h0 | ⟨h1,h2,h3⟩
 ·right
  rw[h] at h0;simp at h0;subst h0;obtain⟨a,k,e1,e2,k1,k2,hg,_,hv⟩:=rd_ok ys 0 0 r n (by omega) hr h;simp at e1 e2 hv;subst e1;subst e2;refine⟨a,k,h,k1,k2,?_,hv,hg⟩;have h10:=Q6 (v:=a) hv;rw[hg,Qf] at h10;omega
 ·left
  rw[h] at h1 h2 h3;simp at h1 h2 h3;subst h1;subst h2;exact⟨c,h,h3⟩
theorem qy (h:CurAt 108 w R v ys) :
 Calls prog 178 #[.pointer (some ⟨R,0,none⟩)] w λe w'=>e=.returned (.tuple #[.int .u8 (sByte ys).1,.int .i64 (sByte ys).2.2]) ∧
  ∃v2,CurAt 108 w' R v2 (ys.drop (sByte ys).2.1)∧v2.ownBlock=v.ownBlock∧Only (λk=>k=R) w w':=by
 by_cases h0:ys.length=0
 ·have HS:Hid (sByte ys=(0,0,2)):=if_pos h0
  have A:=Qa (X2 h 1 (by omega) (by omega));have HC:=Qa h;clear h;go_enter func178,ntmps178;go_wp2_with fail;refine A.o.mono ?_;rintro e w1 ⟨rfl,rfl⟩;go_wp2;go_ret2;rw[HS.o];exact⟨rfl,v,HC.o,rfl,Only.refl _ _⟩
 ·have HS:Hid (sByte ys=(ys.getD 0 0,1,0)):=if_neg h0
  have A:=Qa (Jr h 1 (by omega));clear h;go_enter func178,ntmps178;go_wp2_with fail;refine A.o.mono ?_;rintro e w1 ⟨ao,cap,v2,rfl,hb,_,hc,ho,h1⟩;obtain⟨b,off,cap',e1,hx⟩:=hb.at 0 (by rw[Qf];omega)
  have ea:ao=some ⟨b,off,none⟩:=by simp at e1;exact e1.1
  subst ea;clear e1
  have hg:(ys.take 1).getD 0 0=ys.getD 0 0:=by
   rw[Qd,Qd,List.getElem?_take,if_pos (by omega)]
  rw[hg,Nat.add_zero] at hx;generalize ys.getD 0 0=y at hx HS;have HR:=Qa (And.intro hc (And.intro ho h1));clear hb hc ho h1 A;go_wp2;go_ret2;rw[HS.o];exact⟨rfl,v2,HR.o⟩
theorem Ie (h:CurAt 108 w R v ys) (n:Int) :
 Calls prog 135 #[.pointer (some ⟨R,0,none⟩),.int .i64 n] w λe w'=>e=.returned (.tuple #[.int .u64 (Y6 n ys).1,.int .i64 (Y6 n ys).2.2]) ∧
  ∃v2,CurAt 108 w' R v2 (ys.drop (Y6 n ys).2.1)∧v2.ownBlock=v.ownBlock∧Only (λk=>k=R) w w':=by
 by_cases h8:8<n
 ·have HS:Hid (Y6 n ys=(0,0,1)):=if_pos (.inr h8)
  have HC:=Qa h;clear h;go_enter func135,ntmps135;go_wp2;go_ret2;rw[HS.o];exact⟨rfl,v,HC.o,rfl,Only.refl _ _⟩
 have d8:decide (8<n)=false:=Qb h8
 by_cases h0:n<0
 ·have HS:Hid (Y6 n ys=(0,0,1)):=if_pos (.inl h0)
  have A:=Qa (TX R n w h0);have HC:=Qa h;clear h;go_enter func135,ntmps135;go_wp2_with fail;refine A.o.mono ?_;rintro e w1 ⟨rfl,rfl⟩;go_wp2;go_ret2;rw[HS.o];exact⟨rfl,v,HC.o,rfl,Only.refl _ _⟩
 obtain⟨n,rfl⟩:=Int.eq_ofNat_of_zero_le (Int.not_lt.1 h0)
 by_cases hs:(ys.length:Int)<(n:Int)
 ·have HS:Hid (Y6 n ys=(0,0,2)):=by
   simp only[Hid,Y6];rw[if_neg (by omega),if_pos hs]
  have A:=Qa (X2 h n (by omega) hs);have HC:=Qa h;clear h;go_enter func135,ntmps135;go_wp2_with fail;refine A.o.mono ?_;rintro e w1 ⟨rfl,rfl⟩;go_wp2;go_ret2;rw[HS.o];exact⟨rfl,v,HC.o,rfl,Only.refl _ _⟩
 ·have HS:Hid (Y6 n ys=((num (ys.take n):Int),n,0)):=by
   simp only[Hid,Y6];rw[if_neg (by omega),if_neg hs]
   rfl
  have A:=Qa (Jr h n (by omega))
  have h3:Hid (∀y∈ys.take n,0<=y∧y<=255):=λy hy=>h.rng y (List.mem_of_mem_take hy)
  have h1:Hid ((ys.take n).length=n):=by simp only[Hid,Qf];omega
  clear h;go_enter func135,ntmps135;go_wp2_with fail;refine A.o.mono ?_;rintro e w1 ⟨ao,cap,v2,rfl,hb,_,hc,ho,h4⟩;have HB:=Qa hb;have HR:=Qa (And.intro hc (And.intro ho h4));clear hb hc ho h4 A;generalize ys.take n=zs at HB h3 h1 HS;go_wp2
  go_loop [8,24] (λa i=>∃k:Nat,k<=n∧i=.int .i64 k∧a=.int .u64 (num (zs.take k))) (λ_ i=>n - (intOf i).toNat)
  case atStart=>exact⟨0,Nat.zero_le _,rfl,rfl⟩
  case round =>
   obtain⟨k,hk,rfl,rfl⟩:=hrel
   by_cases hlt:k<n
   ·obtain⟨b,off,cap',e1,hx⟩:=HB.o.at k (by rw[h1.o];exact hlt)
    have ea:ao=some ⟨b,off,none⟩:=by simp at e1;exact e1.1
    subst ea;clear e1;obtain⟨ha,h2⟩:=Mg zs k h3.o (by rw[h1.o];omega) (by rw[h1.o];exact hlt);have hy:=h3.o (zs.getD k 0) (by rw[Qd,Qg (by rw[h1.o];exact hlt)];simp);generalize zs.getD k 0=y at hx h2 hy
    have i0:(0:Int)<=(k:Int):=by omega
    have i1:(k:Int)<(n:Int):=by omega
    have h5:=Qa h2
    have hsh:(num (zs.take k):Int)*256<=18446744073709551615:=by omega
    generalize num (zs.take k)=a at h5 ha hsh;clear h2;go_wp2
    go_round
    case rel=>exact⟨k+1,by omega,by go_num,by rw[h5.o]⟩
    case measure=>simp[intOf];omega
   ·have hkn:k=n:=by omega
    subst hkn;go_wp2;go_ret2;rw[HS.o,List.take_of_length_le (by rw[h1.o];omega)];exact⟨rfl,v2,HR.o⟩
theorem VY (h:CurAt 108 w R v ys) :
 Calls prog 64 #[.pointer (some ⟨R,0,none⟩)] w λe w'=>e=.returned (.tuple #[.int .u64 (Qh ys).1,.int .i64 (Qh ys).2.2]) ∧
  ∃v2,CurAt 108 w' R v2 (ys.drop (Qh ys).2.1)∧v2.ownBlock=v.ownBlock∧Only (λk=>k=R) w w':=by
 obtain⟨ao,cap,rfl⟩:=h.form;have c0:=(U3 h.cell).1
 rcases Jj ys h.rng with ⟨c,hrd,hc⟩ | ⟨a,k,hrd,_,hk,_,_,_⟩
 ·have HS:Hid (Qh ys=(0,0,c)):=by simp only[Hid,Qh];rw[hrd];rfl
  have A:=Qa (ZV _ ys w hrd h.bs h.rng);have HC:=Qa h
  have dc:(c != 0)=true:=by simp;omega
  clear h hrd;go_enter func64,ntmps64;go_wp2_with fail;refine A.o.mono ?_;rintro e w1 ⟨rfl,rfl⟩;go_wp2;go_ret2;rw[HS.o];exact⟨rfl,_,HC.o,rfl,Only.refl _ _⟩
 ·have HS:Hid (Qh ys=((a:Int),k,0)):=by simp only[Hid,Qh];rw[hrd];rfl
  have A:=Qa (ZV _ ys w hrd h.bs h.rng);have B:=Qa (Xj h k hk);clear h hrd;go_enter func64,ntmps64;go_wp2_with fail;refine A.o.mono ?_;rintro e w1 ⟨rfl,rfl⟩;go_wp2_with fail;refine B.o.mono ?_;rintro e w1 ⟨ao',cap',v2,rfl,_,_,hc,ho,h0⟩;have HR:=Qa (And.intro hc (And.intro ho h0));clear hc ho h0 A B c0;go_wp2;go_ret2;rw[HS.o];exact⟨rfl,v2,HR.o⟩
theorem V8 (h:CurAt 108 w R v ys) (n:Int) :
 Calls prog 56 #[.pointer (some ⟨R,0,none⟩),.int .i64 n] w λe w'=>∃v1,e=.returned (.tuple #[v1,.int .i64 (YG n ys).2.2])∧w'.ownsRow w.heap.size 5 1 v1 (YG n ys).1.length ((YG n ys).1.map (Value.int .u8)) ∧
  ∃v2,CurAt 108 w' R v2 (ys.drop (YG n ys).2.1)∧v2.ownBlock=v.ownBlock∧Only (λk=>k=R) w w':=by
 by_cases h0:n<0
 ·have HS:Hid (YG n ys=([],0,1)):=if_pos h0
  have A:=Qa (TX R n w h0);have HC:=Qa h;clear h;go_enter func56,ntmps56;go_wp2_with fail;refine A.o.mono ?_;rintro e w1 ⟨rfl,rfl⟩;go_wp2;go_ret2;rw[HS.o];exact⟨.slice none 0 0,rfl,World.ownsRow_nil _ _ _ _,v,HC.o,rfl,Only.refl _ _⟩
 obtain⟨n,rfl⟩:=Int.eq_ofNat_of_zero_le (Int.not_lt.1 h0)
 by_cases hs:(ys.length:Int)<(n:Int)
 ·have HS:Hid (YG n ys=([],0,2)):=by
   simp only[Hid,YG];rw[if_neg h0,if_pos hs]
  have A:=Qa (X2 h n (by omega) hs);have HC:=Qa h;clear h;go_enter func56,ntmps56;go_wp2_with fail;refine A.o.mono ?_;rintro e w1 ⟨rfl,rfl⟩;go_wp2;go_ret2;rw[HS.o];exact⟨.slice none 0 0,rfl,World.ownsRow_nil _ _ _ _,v,HC.o,rfl,Only.refl _ _⟩
 ·have HS:Hid (YG n ys=(ys.take n,n,0)):=by
   simp only[Hid,YG];rw[if_neg h0,if_neg hs]
   rfl
  have A:=Qa (Jr h n (by omega));have hlen:=h.len;have hRw:R<w.heap.size:=(Array.getElem?_eq_some_iff.1 h.cell).1;clear h;go_enter func56,ntmps56;go_wp2_with fail;refine A.o.mono ?_;rintro e w1 ⟨ao,cap,v2,rfl,hb,_,hc,ho,h3⟩;have B:=Qa (KI _ _ w1 hb (by rw[Qf];omega));have HR:=Qa (And.intro hc (And.intro ho h3));clear hb hc ho h3 A;go_wp2_with fail;refine B.o.mono ?_;rintro e w2 ⟨v1,rfl,h2,h1⟩
  have F:Hid (w2.ownsRow w.heap.size 5 1 v1 (ys.take n).length ((ys.take n).map (Value.int .u8))∧CurAt 108 w2 R v2 (ys.drop n)∧v2.ownBlock=v.ownBlock∧Only (λk=>k=R) w w2):=by
   obtain⟨hc,ho,h3⟩:=HR.o;exact⟨Qu h2 h3.size,hc.keep h1 (λf=>f) (λ_ _ f=>f),ho,h3.trans h1 (λ_ _ f=>f.elim)⟩
  clear h2 h1 B HR;go_wp2;go_ret2;rw[HS.o];exact⟨v1,rfl,F.o.1,v2,F.o.2⟩
theorem Jw (h:CurAt 108 w R v ys) (n:Int) :
 Calls prog 56 #[.pointer (some ⟨R,0,none⟩),.int .i64 n] w λe w'=>∃v1,e=.returned (.tuple #[v1,.int .i64 (YG n ys).2.2])∧Bs .u8 w' v1 (YG n ys).1∧NoCap v1∧(∀k,v1.ownBlock=some k->w.heap.size<=k) ∧
  ∃v2,CurAt 108 w' R v2 (ys.drop (YG n ys).2.1)∧v2.ownBlock=v.ownBlock∧Only (λk=>k=R) w w' :=
 (V8 h n).mono λ_ _ ⟨v1,e,own,r⟩=>⟨v1,e,Bs.of_own own,NoCap.of_own own,λk hk=>(own.lt k hk).1,r⟩
theorem J2 (h:CurAt 108 w R v ys) (most:Int) (hm:most<=9223372036854775807) :
 Calls prog 54 #[.pointer (some ⟨R,0,none⟩),.int .i64 most] w λe w'=>∃v1,e=.returned (.tuple #[v1,.int .i64 (Qq most ys).2.2])∧Bs .u8 w' v1 (Qq most ys).1∧NoCap v1∧(∀k,v1.ownBlock=some k->w.heap.size<=k) ∧
  ∃v2,CurAt 108 w' R v2 (ys.drop (Qq most ys).2.1)∧v2.ownBlock=v.ownBlock∧Only (λk=>k=R) w w':=by
 by_cases h0:most<0
 ·have HS:Hid (Qq most ys=([],0,1)):=if_pos h0
  have HC:=Qa h;clear h;go_enter func54,ntmps54;go_wp2;go_ret2;rw[HS.o];exact⟨.slice none 0 0,rfl,Bs.nil _ _,NoCap.nil,Kl _,v,HC.o,rfl,Only.refl _ _⟩
 have d0:decide (most<0)=false:=Qb h0;obtain⟨ao,cap,rfl⟩:=h.form;have c0:=(U3 h.cell).1;have hlen:=h.len
 rcases Jj ys h.rng with ⟨c,hrd,hc⟩ | ⟨a,k,hrd,hk1,hk,_,ha,_⟩
 ·have HV:Qh ys=(0,0,c):=by simp only[Qh];rw[hrd];rfl
  have HS:Hid (Qq most ys=([],0,c)):=by
   simp only[Hid,Qq];rw[if_neg h0,HV,if_pos (by simp;omega)]
  have A:=Qa (ZV _ ys w hrd h.bs h.rng);have HC:=Qa h
  have dc:(c != 0)=true:=by simp;omega
  clear h hrd HV;go_enter func54,ntmps54;go_wp2_with fail;refine A.o.mono ?_;rintro e w1 ⟨rfl,rfl⟩;go_wp2;go_ret2;rw[HS.o];exact⟨.slice none 0 0,rfl,Bs.nil _ _,NoCap.nil,Kl _,_,HC.o,rfl,Only.refl _ _⟩
 ·have HV:Qh ys=((a:Int),k,0):=by simp only[Qh];rw[hrd];rfl
  have A:=Qa (ZV _ ys w hrd h.bs h.rng)
  by_cases h4:most<(a:Int)
  ·have HS:Hid (Qq most ys=([],0,4)):=by
    simp only[Hid,Qq];rw[if_neg h0,HV,if_neg (by simp),if_pos h4]
   have HC:=Qa h;clear h hrd HV;have d4:decide (most<(a:Int))=true:=Qe h4;go_enter func54,ntmps54;go_wp2_with fail;refine A.o.mono ?_;rintro e w1 ⟨rfl,rfl⟩;go_wp2;go_ret2;rw[HS.o];exact⟨.slice none 0 0,rfl,Bs.nil _ _,NoCap.nil,Kl _,_,HC.o,rfl,Only.refl _ _⟩
  have d4:decide (most<(a:Int))=false:=Qb h4;have L:=Qa (VG h)
  by_cases h2:(ys.length:Int) - k<(a:Int)
  ·have HS:Hid (Qq most ys=([],0,2)):=by
    simp only[Hid,Qq];rw[if_neg h0,HV,if_neg (by simp),if_neg h4,if_pos h2]
   have HC:=Qa h;clear h hrd HV;have d2:decide ((ys.length:Int) - k<(a:Int))=true:=Qe h2;go_enter func54,ntmps54;go_wp2_with fail;refine A.o.mono ?_;rintro e w1 ⟨rfl,rfl⟩;go_wp2_with fail;refine L.o.mono ?_;rintro e w1 ⟨rfl,rfl⟩;go_wp2;go_ret2;rw[HS.o];exact⟨.slice none 0 0,rfl,Bs.nil _ _,NoCap.nil,Kl _,_,HC.o,rfl,Only.refl _ _⟩
  ·have HS:Hid (Qq most ys=((ys.drop k).take a,k+a,0)):=by
    simp only[Hid,Qq];rw[if_neg h0,HV,if_neg (by simp),if_neg h4,if_neg h2]
    rfl
   have d2:decide ((ys.length:Int) - k<(a:Int))=false:=Qb h2;have B:=Qa (Xj h k hk);clear h hrd HV;go_enter func54,ntmps54;go_wp2_with fail;refine A.o.mono ?_;rintro e w1 ⟨rfl,rfl⟩;go_wp2_with fail;refine L.o.mono ?_;rintro e w1 ⟨rfl,rfl⟩;go_wp2_with fail;refine B.o.mono ?_;rintro e w1 ⟨ao',cap',v2,rfl,_,_,hc,ho,h5⟩;have C:=Qa (Xj hc a (by rw[Qo];omega));have HR:=Qa (And.intro ho h5);clear hc ho h5 A B L c0;go_wp2_with fail;refine C.o.mono ?_;rintro e w2 ⟨ao3,cap3,v3,rfl,hb,_,hc,ho,h5⟩;have D:=Qa (KI _ _ w2 hb (by rw[Qf,Qo];omega));have h8:=Qa (And.intro hc (And.intro ho h5));clear hb hc ho h5 C;go_wp2_with fail;refine D.o.mono ?_;rintro e w3 ⟨v1,rfl,h1,h6⟩
   have F:Hid (Bs .u8 w3 v1 ((ys.drop k).take a)∧NoCap v1∧(∀k,v1.ownBlock=some k->w.heap.size<=k)∧CurAt 108 w3 R v3 (ys.drop (k+a))∧v3.ownBlock=(Value.slice ao ys.length cap).ownBlock∧Only (λk=>k=R) w w3):=by
    obtain⟨ho,h5⟩:=HR.o;obtain⟨hc,ho2,h7⟩:=h8.o;rw[List.drop_drop] at hc;have h3:=h5.trans h7 (λ_ _ f=>f);exact⟨Bs.of_own h1,NoCap.of_own h1,λk hk=>Nat.le_trans h3.size (h1.lt k hk).1,hc.keep h6 (λf=>f) (λ_ _ f=>f),ho2.trans ho,h3.trans h6 (λ_ _ f=>f.elim)⟩
   clear h1 h6 D HR h8;go_wp2;go_ret2;rw[HS.o];obtain⟨f1,f2,f3,f4⟩:=F.o;exact⟨v1,rfl,f1,f2,f3,v3,f4⟩
theorem Ke (v:Nat) (t:LI) (h:v<18446744073709551616):Qh (gs v++t)=((v:Int),(gs v).length,0):=by
 have:=rd_gs t v 0 0 (by omega) (by simpa using h) (λh=>by omega);rw[Qh,this];simp
def loF (a:Int) (l:LI):Int:=l.foldl (λm x=>min m x) a
def hiF (a:Int) (l:LI):Int:=l.foldl (λm x=>max m x) a
def lo (l:LI):Int:=loF (l.getD 0 0) (l.drop 1)
def hi (l:LI):Int:=hiF (l.getD 0 0) (l.drop 1)
theorem Lb (l:LI):∀a,loF a l<=a∧∀x∈l,loF a l<=x:=by
 induction l with
 | nil=>intro a;simp[loF]
 | cons b t ih =>
  intro a;obtain⟨h1,h2⟩:=ih (min a b);have e:loF a (b :: t)=loF (min a b) t:=rfl;rw[e];refine⟨by omega,λx hx=>?_⟩
  rcases List.mem_cons.1 hx with rfl | hx
  ·omega
  ·exact h2 x hx
theorem LJ (l:LI):∀a,a<=hiF a l∧∀x∈l,x<=hiF a l:=by
 induction l with
 | nil=>intro a;simp[hiF]
 | cons b t ih =>
  intro a;obtain⟨h1,h2⟩:=ih (max a b);have e:hiF a (b :: t)=hiF (max a b) t:=rfl;rw[e];refine⟨by omega,λx hx=>?_⟩
  rcases List.mem_cons.1 hx with rfl | hx
  ·omega
  ·exact h2 x hx
theorem Mm (l:LI):∀a,loF a l=a∨loF a l∈l:=by
 induction l with
 | nil=>intro a;simp[loF]
 | cons b t ih =>
  intro a;have e:loF a (b :: t)=loF (min a b) t:=rfl;rw[e]
  rcases ih (min a b) with h | h
  ·rw[h]
   rcases Int.le_total a b with h' | h'
   ·left;omega
   ·right;rw[show min a b=b by omega];exact List.mem_cons_self
  ·exact .inr (List.mem_cons_of_mem _ h)
theorem Ir (l:LI):∀a,hiF a l=a∨hiF a l∈l:=by
 induction l with
 | nil=>intro a;simp[hiF]
 | cons b t ih =>
  intro a;have e:hiF a (b :: t)=hiF (max a b) t:=rfl;rw[e]
  rcases ih (max a b) with h | h
  ·rw[h]
   rcases Int.le_total a b with h' | h'
   ·right;rw[show max a b=b by omega];exact List.mem_cons_self
   ·left;omega
  ·exact .inr (List.mem_cons_of_mem _ h)
theorem uX (a:Int) (l:LI) (x:Int):loF a (l++[x])=min (loF a l) x:=by simp[loF]
theorem Dz (a:Int) (l:LI) (x:Int):hiF a (l++[x])=max (hiF a l) x:=by simp[hiF]
theorem GV (a:Int) (t:LI):lo (a :: t)=loF a t:=rfl
theorem Hl (a:Int) (t:LI):hi (a :: t)=hiF a t:=rfl
theorem BP:lo []=0:=rfl
theorem uB:hi []=0:=rfl
theorem lo_le (l:LI):∀x∈l,lo l<=x:=by
 cases l with
 | nil=>simp
 | cons a t =>
  intro x hx;rw[GV]
  rcases List.mem_cons.1 hx with rfl | hx
  ·exact (Lb t x).1
  ·exact (Lb t a).2 x hx
theorem le_hi (l:LI):∀x∈l,x<=hi l:=by
 cases l with
 | nil=>simp
 | cons a t =>
  intro x hx;rw[Hl]
  rcases List.mem_cons.1 hx with rfl | hx
  ·exact (LJ t x).1
  ·exact (LJ t a).2 x hx
theorem qA (h:l≠[]):lo l∈l:=by
 cases l with
 | nil=>exact absurd rfl h
 | cons a t =>
  rw[GV]
  rcases Mm t a with h | h
  ·rw[h];exact List.mem_cons_self
  ·exact List.mem_cons_of_mem _ h
theorem Rm (h:l≠[]):hi l∈l:=by
 cases l with
 | nil=>exact absurd rfl h
 | cons a t =>
  rw[Hl]
  rcases Ir t a with h | h
  ·rw[h];exact List.mem_cons_self
  ·exact List.mem_cons_of_mem _ h
theorem lohi (h:U64 l):0<=lo l∧lo l<=hi l∧hi l<=18446744073709551615:=by
 by_cases hne:l=[]
 ·subst hne;rw[BP,uB];omega
 ·have h1:=h _ (qA hne)
  have h2:=h _ (Rm hne);have h3:=lo_le l _ (Rm hne);omega
def wd (l:LI):Nat:=wid (hi l - lo l).toNat
theorem wd_le (h:U64 l):wd l<=64:=by
 have:=lohi h;exact Wz _ (by omega)
theorem SX (l:LI) (x:Int) (hx:x∈l):wid (x - lo l).toNat<=wd l:=by
 have h1:=lo_le l x hx;have h2:=le_hi l x hx;exact PJ (by omega)
def ups (a:Int) (w:Nat) (t:LI):List Bool:=t.flatMap λx=>Qr (x - a).toNat w
def up (l:LI):List Bool:=ups (lo l) (wd l) l
theorem GZ (a:Int) (w:Nat) (t:LI):(ups a w t).length=t.length*w:=by
 induction t with
 | nil=>simp[ups]
 | cons b t ih =>
  have e:ups a w (b :: t)=Qr (b - a).toNat w++ups a w t:=rfl;rw[e,Qc,ih,Ug,Qi,Nat.add_mul];omega
theorem I8 (a:Int) (w:Nat) (t:LI) (x:Int):ups a w (t++[x])=ups a w t++Qr (x - a).toNat w:=by simp[ups]
theorem Ns (l:LI):(up l).length=l.length*wd l:=GZ _ _ _
def PK (l:LI):LI:=gs (lo l).toNat++((wd l:Int) :: QR (up l))
theorem qQ (l:LI):(PK l).length=(gs (lo l).toNat).length+1+(l.length*wd l+7) / 8:=by
 unfold PK;rw[Qc,Qi,Ka,nb,Ns];omega
theorem yT (h:U64 l):∀y∈PK l,0<=y∧y<=255:=by
 intro y hy;have hw:=wd_le h;unfold PK at hy
 rcases List.mem_append.1 hy with h1 | h1
 ·exact YW _ y h1
 ·rcases List.mem_cons.1 h1 with rfl | h1
  ·omega
  ·exact JO _ y h1
def nums (a:Nat) (w:Nat) (l:List Bool) (n:Nat):LI:=(List.range n).map λi=>(((a+bnum ((l.drop (i*w)).take w)) % 18446744073709551616:Nat):Int)
def rdl (b:LI) (n:Nat):Int × LI :=
 if (Qh b).2.2≠0 then ((Qh b).2.2,[]) else
 if (b.drop (Qh b).2.1).length=0 then (2,[]) else
 if 64<(b.drop (Qh b).2.1).getD 0 0 then (3,[]) else
 if 8*(b.drop ((Qh b).2.1+1)).length<n*((b.drop (Qh b).2.1).getD 0 0).toNat then (2,[]) else
 (0,nums (Qh b).1.toNat ((b.drop (Qh b).2.1).getD 0 0).toNat (Xg (b.drop ((Qh b).2.1+1))) n)
def UN (b:LI) (n:Int):Int × LI :=
 if n<0∨65536<n then (1,[]) else
 if (rdl b n.toNat).1≠0 then ((rdl b n.toNat).1,[]) else
 if PK (rdl b n.toNat).2=b then (0,(rdl b n.toNat).2) else (3,[])
end Go.Proofs.YtoflhbghdlaeaaaGreatDoor
