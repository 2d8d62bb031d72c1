import Derived.Test.YteciafpneamfaaaGreatDoorG2
namespace Go.Proofs.YteciafpneamfaaaGreatDoor
set_option maxHeartbeats 1000000
set_option maxRecDepth 100000
open Go.RowKit _root_.Go.Proofs.Tryz
variable {w w' W:World} {v:Value} {ys xs l:LI} {R n p k g B:Nat} {P:Program} {ls:List (LI)} {E:TypeId}
structure CurAt (T:TypeId) (w:World) (R:Nat) (v:Value) (ys:LI):Prop where
 bs:Bs .u8 w v ys
 rng:∀y∈ys,0<=y∧y<=255
 cell:w.heap[R]? = some (.cells #[v] T (0,0))
 ap:v.ownBlock≠some R
 len:ys.length<=1000000000000
theorem CurAt.keep {T:TypeId} (h:CurAt T w R v ys) {S:Nat->Prop} (ho:Only S w w') (hR:¬S R) (hv:∀k,v.ownBlock=some k->¬S k):CurAt T w' R v ys :=
 ⟨h.bs.keep ho hv,h.rng,ho.heap h.cell hR,h.ap,h.len⟩
theorem CurAt.form {T:TypeId} (h:CurAt T w R v ys):∃ao cap,v=.slice ao ys.length cap:=by
 obtain⟨ao,cap,rfl,_⟩:=h.bs;exact⟨ao,cap,rfl⟩
theorem UC {T:TypeId} (h:w.heap[R]? = some (.cells #[v] T (0,0))):w.cell? ⟨R,0,none⟩=some v∧w.frozen? ⟨R,0,none⟩=false :=
 ⟨by simp[World.cell?,h],by simp[World.frozen?,h]⟩
theorem Hq {T:TypeId} (h:w.heap[R]? = some (.cells #[v] T (0,0))) (u:Value):(w.setCell ⟨R,0,none⟩ u).heap[R]? = some (.cells #[u] T (0,0)):=by
 have h0:=heap_setCell_same w R 0 #[v] T u h
 simpa using h0
theorem Ut (v:Value) (ys:LI) (w:World) (h:Bs .u8 w v ys) (hr:∀y∈ys,0<=y∧y<=255) (hl:ys.length<=1000000000000) :
 Calls prog 39 #[v] w λe w'=>∃R v',e=.returned (.pointer (some ⟨R,0,none⟩))∧CurAt 112 w' R v' ys∧N0 w w'∧w.heap.size<=R∧R<w'.heap.size∧(∀k,v'.ownBlock=some k->w.heap.size<=k∧k<w'.heap.size):=by
 have HB:=Qa h;have HR:=Qa hr;clear h hr;go_enter func39,ntmps39;go_wp2_with fail;refine (Km v ys _ HB.o (by omega)).mono ?_;rintro e w1 ⟨v',rfl,h0,ho⟩;have h1:=Bs.of_own h0;have h3:=h0.lt;obtain⟨ao,cap,rfl,_⟩:=id h1;have HBS:=Qa h1;have h2:=Qa h3;have HO:=Qa ho;clear h0 ho h1 h3;go_wp2;go_ret;have oa:N0 w1 (w1.alloc (.cells #[.slice ao ys.length cap] 112)):=(Only.refl _ _).alloc _;refine⟨w1.heap.size,.slice ao ys.length cap,rfl,⟨HBS.o.keep oa (λ_ _ f=>f),HR.o,heap_alloc_new w1 _,?_,hl⟩,HO.o.trans oa (λ_ _ f=>f),HO.o.size,by simp,?_⟩
 ·intro e
  have:=(h2.o _ e).2;omega
 ·intro k hk
  have:=h2.o k hk;simp;omega
theorem BR (R m cap:Nat) (ao:Option Addr) (w:World) (h0:w.cell? ⟨R,0,none⟩=some (.slice ao m cap)) :
 Calls prog 69 #[.pointer (some ⟨R,0,none⟩)] w λe w'=>e=.returned (.int .i64 m)∧w=w':=by
 go_enter func69,ntmps69;go_wp2;go_ret;exact⟨rfl,rfl⟩
theorem JM (ao:Option Addr) (m c m' c':Nat):(Value.slice ao m c).ownBlock=(Value.slice ao m' c').ownBlock:=by cases ao <;> rfl
theorem qH (R n m cap:Nat) (ao:Option Addr) (w:World) (h0:w.cell? ⟨R,0,none⟩=some (.slice ao m cap)) (f0:w.frozen? ⟨R,0,none⟩=false) (h1:n<=m) (h2:m<=cap) :
 Calls prog 70 #[.pointer (some ⟨R,0,none⟩),.int .i64 n] w λe w'=>e=.returned (.slice ao n cap)∧w'=w.setCell ⟨R,0,none⟩ (.slice (if cap=n then ao else ao.map (λx=>x.add n)) (m - n) (cap - n)):=by
 have i0:(0:Int)<=(n:Int):=by omega
 have i1:(n:Int)<=(m:Int):=by omega
 have i2:(n:Int)<=(cap:Int):=by omega
 by_cases hc:cap=n
 ·subst hc
  go_enter func70,ntmps70;go_wp2;go_ret;simp
 ·go_enter func70,ntmps70
  go_wp2;go_ret;simp
theorem Xb (h:CurAt 112 w R v ys) (n:Nat) (hn:n<=ys.length) :
 Calls prog 70 #[.pointer (some ⟨R,0,none⟩),.int .i64 n] w λe w'=>∃ao cap v2,e=.returned (.slice ao n cap)∧Bs .u8 w' (.slice ao n cap) (ys.take n)∧(Value.slice ao n cap).ownBlock=v.ownBlock∧CurAt 112 w' R v2 (ys.drop n)∧v2.ownBlock=v.ownBlock∧Only (λk=>k=R) w w':=by
 obtain⟨ao,cap,rfl,h1,hr⟩:=id h.bs;refine (qH R n ys.length cap ao w (UC h.cell).1 (UC h.cell).2 hn h1).mono ?_;rintro e w' ⟨rfl,rfl⟩;have ho:Only (λk=>k=R) w (w.setCell ⟨R,0,none⟩ (.slice (if cap=n then ao else ao.map (λx=>x.add n)) (ys.length - n) (cap - n))):=Only.setCell (S:=λk=>k=R) (p:=⟨R,0,none⟩) (Only.refl _ _) (λ_=>rfl) _
 have h0:(Value.slice (if cap=n then ao else ao.map (λx=>x.add n)) (ys.length - n) (cap - n)).ownBlock=(Value.slice ao ys.length cap).ownBlock:=by
  split
  ·exact JM _ _ _ _ _
  ·exact qr _ _ _ _ _ _
 have h2:∀k,(Value.slice ao ys.length cap).ownBlock=some k->¬k=R:=λk hk e=>h.ap (by rw[<-e];exact hk)
 have hd:Bs .u8 w (.slice (if cap=n then ao else ao.map (λx=>x.add n)) (ys.length - n) (cap - n)) (ys.drop n):=by
  split
  ·rename_i hc
   subst hc;rw[Nat.sub_self];exact h.bs.cut0 hn
  ·exact h.bs.cut hn
 refine⟨ao,cap,_,rfl,(h.bs.head hn).keep ho (λk hk=>h2 k (by rw[JM ao ys.length cap n cap];exact hk)),JM _ _ _ _ _,⟨hd.keep ho (λk hk=>h2 k (by rw[<-h0];exact hk)),λy hy=>h.rng y (List.mem_of_mem_drop hy),Hq h.cell _,by rw[h0];exact h.ap,?_⟩,h0,ho⟩;have:=h.len;rw[Qm];omega
theorem VA (h:CurAt 112 w R v ys) :
 Calls prog 69 #[.pointer (some ⟨R,0,none⟩)] w λe w'=>e=.returned (.int .i64 ys.length)∧w=w':=by
 obtain⟨ao,cap,rfl⟩:=h.form;exact BR R ys.length cap ao w (UC h.cell).1
theorem Vu (h:CurAt 112 w R v ys) :
 Calls prog 142 #[.pointer (some ⟨R,0,none⟩)] w λe w'=>e=.returned (.int .i64 ys.length)∧w=w':=by
 have A:=Qa (VA h);clear h;go_enter func142,ntmps142;go_wp2_with fail;refine A.o.mono ?_;rintro e w1 ⟨rfl,rfl⟩;go_wp2;go_ret;exact⟨rfl,rfl⟩
def endV (ys:LI):Int:=if 0<ys.length then 3 else 0
theorem JI (h:CurAt 112 w R v ys) :
 Calls prog 44 #[.pointer (some ⟨R,0,none⟩)] w λe w'=>e=.returned (.int .i64 (endV ys))∧w=w':=by
 have A:=Qa (VA h);clear h
 by_cases h0:0<ys.length
 ·have d0:decide (0<(ys.length:Int))=true:=by simp;omega
  have HE:Hid (endV ys=3):=if_pos h0;go_enter func44,ntmps44;go_wp2_with fail;refine A.o.mono ?_;rintro e w1 ⟨rfl,rfl⟩;go_wp2;go_ret;exact⟨by rw[HE.o];rfl,rfl⟩
 ·have d0:decide (0<(ys.length:Int))=false:=Qh (by omega)
  have HE:Hid (endV ys=0):=if_neg h0;go_enter func44,ntmps44;go_wp2_with fail;refine A.o.mono ?_;rintro e w1 ⟨rfl,rfl⟩;go_wp2;go_ret;exact⟨by rw[HE.o];rfl,rfl⟩
theorem Nh (R:Nat) (n:Int) (w:World) (h:n<0):Calls prog 72 #[.pointer (some ⟨R,0,none⟩),.int .i64 n] w λe w'=>e=.returned (.tuple #[.slice none 0 0,.int .i64 1])∧w=w':=by
 go_enter func72,ntmps72;go_wp2;go_ret2;exact⟨rfl,rfl⟩
theorem JR (h:CurAt 112 w R v ys) (n:Int) (h0:0<=n) (h1:(ys.length:Int)<n) :
 Calls prog 72 #[.pointer (some ⟨R,0,none⟩),.int .i64 n] w λe w'=>e=.returned (.tuple #[.slice none 0 0,.int .i64 2])∧w=w':=by
 have A:=Qa (VA h);clear h
 have d0:decide (n<0)=false:=by simp;omega
 go_enter func72,ntmps72;go_wp2_with fail;refine A.o.mono ?_;rintro e w1 ⟨rfl,rfl⟩;go_wp2;go_ret2;exact⟨rfl,rfl⟩
theorem GV (h:CurAt 112 w R v ys) (n:Nat) (h1:n<=ys.length) :
 Calls prog 72 #[.pointer (some ⟨R,0,none⟩),.int .i64 n] w λe w'=>∃ao cap v2,e=.returned (.tuple #[.slice ao n cap,.int .i64 0])∧Bs .u8 w' (.slice ao n cap) (ys.take n)∧(Value.slice ao n cap).ownBlock=v.ownBlock∧CurAt 112 w' R v2 (ys.drop n)∧v2.ownBlock=v.ownBlock∧Only (λk=>k=R) w w':=by
 have A:=Qa (VA h);have B:=Qa (Xb h n h1);clear h
 have d0:decide ((n:Int)<0)=false:=by simp
 have d1:decide ((ys.length:Int)<(n:Int))=false:=by simp;omega
 go_enter func72,ntmps72;go_wp2_with fail;refine A.o.mono ?_;rintro e w1 ⟨rfl,rfl⟩;go_wp2_with fail;refine B.o.mono ?_;rintro e w1 ⟨ao,cap,v2,rfl,hr⟩;have HR:=Qa hr;clear hr;go_wp2;go_ret2;exact⟨ao,cap,v2,rfl,HR.o⟩
theorem U3 (N:Nat):∀k,(Value.slice none 0 0).ownBlock=some k->N<=k:=λk hk=>by cases hk
def num (l:LI):Nat:=l.foldl (λa y=>256*a+y.toNat) 0
theorem Xw (l:LI) (y:Int):num (l++[y])=256*num l+y.toNat:=by simp[num]
theorem Wv (l:LI) (hr:∀y∈l,0<=y∧y<=255):num l<256^l.length:=by
 induction h:l.length generalizing l with
 | zero =>
  have:l=[]:=List.eq_nil_of_length_eq_zero h;subst this;simp[num]
 | succ n ih =>
  have h1:l≠[]:=by intro h0;subst h0;simp at h
  obtain⟨t,b,rfl⟩:∃t b,l=t++[b]:=⟨l.dropLast,l.getLast h1,(List.dropLast_concat_getLast h1).symm⟩;have:=ih t (λy hy=>hr y (by simp[hy])) (by simp at h;omega);have hb:=hr b (by simp);rw[Xw,Nat.pow_succ];omega
theorem U9 (l:LI) (k:Nat) (h:k<l.length):l.take (k+1)=l.take k++[l.getD k 0]:=by
 rw[List.take_succ_eq_append_getElem h,Qd,Qi h];rfl
theorem BZ (h:k<=7):256^k<=72057594037927936:=by
 have h1:256^k<=256^7:=Nat.pow_le_pow_right (by omega) h
 have h2:(256:Nat)^7=72057594037927936:=by decide
 omega
theorem yQ (zs:LI) (k:Nat) (hr:∀y∈zs,0<=y∧y<=255) (h8:zs.length<=8) (h:k<zs.length) :
 num (zs.take k)<72057594037927936∧bits .or .u64 ((num (zs.take k):Int)*256) (zs.getD k 0)=(num (zs.take (k+1)):Int):=by
 have hl:=Wv (zs.take k) (λy hy=>hr y (List.mem_of_mem_take hy));rw[Qg,Nat.min_eq_left (by omega)] at hl;have hp:=BZ (k:=k) (by omega);have hy:=hr (zs.getD k 0) (by rw[Qd,Qi h];simp);rw[U9 zs k h,Xw];generalize zs.getD k 0=y at hy;generalize num (zs.take k)=a at hl;obtain⟨m,rfl⟩:=Int.eq_ofNat_of_zero_le hy.1
 have e2:((a:Int)*256)=((256*a:Nat):Int):=by omega
 refine⟨by omega,?_⟩;rw[e2,u64_or_nat _ _ (by omega) (by omega),nat_join 8 _ _ (by omega) (by omega),Int.toNat_natCast]
def sByte (ys:LI):Int × Nat × Int:=if ys.length=0 then (0,0,2) else (ys.getD 0 0,1,0)
def Q8 (n:Int) (ys:LI):LI × Nat × Int:=if n<0 then ([],0,1) else if (ys.length:Int)<n then ([],0,2) else (ys.take n.toNat,n.toNat,0)
def QW (n:Int) (ys:LI):Int × Nat × Int:=if n<0∨8<n then (0,0,1) else if (ys.length:Int)<n then (0,0,2) else (num (ys.take n.toNat),n.toNat,0)
def Qe (ys:LI):Int × Nat × Int:=((rd 0 0 ys).1,(rd 0 0 ys).2.1.toNat,(rd 0 0 ys).2.2)
def Qp (most:Int) (ys:LI):LI × Nat × Int :=
 if most<0 then ([],0,1) else if (Qe ys).2.2≠0 then ([],0,(Qe ys).2.2) else if most<(Qe ys).1 then ([],0,4)
 else if (ys.length:Int) - (Qe ys).2.1<(Qe ys).1 then ([],0,2) else ((ys.drop (Qe ys).2.1).take (Qe ys).1.toNat,(Qe ys).2.1+(Qe ys).1.toNat,0)
theorem XO (ys:LI) (hr:∀y∈ys,0<=y∧y<=255):(∃c,rd 0 0 ys=(0,0,c)∧(c=2∨c=3))∨(∃a k:Nat,rd 0 0 ys=((a:Int),(k:Int),0)∧1<=k∧k<=ys.length∧k<=10∧a<18446744073709551616∧gs a=ys.take k):=by
 obtain⟨r,n,c,h⟩:∃r n c,rd 0 0 ys=(r,n,c):=⟨_,_,_,rfl⟩
 rcases wD ys 0 0 with h0 | ⟨h1,h2,h3⟩
 ·right
  rw[h] at h0;simp at h0;subst h0;obtain⟨a,k,e1,e2,k1,k2,hg,_,hv⟩:=rd_ok ys 0 0 r n (by omega) hr h;simp at e1 e2 hv;subst e1;subst e2;refine⟨a,k,h,k1,k2,?_,hv,hg⟩;have h10:=Yw (v:=a) hv;rw[hg,Qg] at h10;omega
 ·left
  rw[h] at h1 h2 h3;simp at h1 h2 h3;subst h1;subst h2;exact⟨c,h,h3⟩
theorem Us (h:CurAt 112 w R v ys) :
 Calls prog 164 #[.pointer (some ⟨R,0,none⟩)] w λe w'=>e=.returned (.tuple #[.int .u8 (sByte ys).1,.int .i64 (sByte ys).2.2]) ∧
  ∃v2,CurAt 112 w' R v2 (ys.drop (sByte ys).2.1)∧v2.ownBlock=v.ownBlock∧Only (λk=>k=R) w w':=by
 by_cases h0:ys.length=0
 ·have HS:Hid (sByte ys=(0,0,2)):=if_pos h0
  have A:=Qa (JR h 1 (by omega) (by omega));have HC:=Qa h;clear h;go_enter func164,ntmps164;go_wp2_with fail;refine A.o.mono ?_;rintro e w1 ⟨rfl,rfl⟩;go_wp2;go_ret2;rw[HS.o];exact⟨rfl,v,HC.o,rfl,Only.refl _ _⟩
 ·have HS:Hid (sByte ys=(ys.getD 0 0,1,0)):=if_neg h0
  have A:=Qa (GV h 1 (by omega));clear h;go_enter func164,ntmps164;go_wp2_with fail;refine A.o.mono ?_;rintro e w1 ⟨ao,cap,v2,rfl,hb,_,hc,ho,h1⟩;obtain⟨b,off,cap',e1,hx⟩:=hb.at 0 (by rw[Qg];omega)
  have ea:ao=some ⟨b,off,none⟩:=by simp at e1;exact e1.1
  subst ea;clear e1
  have hg:(ys.take 1).getD 0 0=ys.getD 0 0:=by
   rw[Qd,Qd,List.getElem?_take,if_pos (by omega)]
  rw[hg,Nat.add_zero] at hx;generalize ys.getD 0 0=y at hx HS;have HR:=Qa (And.intro hc (And.intro ho h1));clear hb hc ho h1 A;go_wp2;go_ret2;rw[HS.o];exact⟨rfl,v2,HR.o⟩
theorem Ke (h:CurAt 112 w R v ys) (n:Int) :
 Calls prog 139 #[.pointer (some ⟨R,0,none⟩),.int .i64 n] w λe w'=>e=.returned (.tuple #[.int .u64 (QW n ys).1,.int .i64 (QW n ys).2.2]) ∧
  ∃v2,CurAt 112 w' R v2 (ys.drop (QW n ys).2.1)∧v2.ownBlock=v.ownBlock∧Only (λk=>k=R) w w':=by
 by_cases h8:8<n
 ·have HS:Hid (QW n ys=(0,0,1)):=if_pos (.inr h8)
  have HC:=Qa h;clear h;go_enter func139,ntmps139;go_wp2;go_ret2;rw[HS.o];exact⟨rfl,v,HC.o,rfl,Only.refl _ _⟩
 have d8:decide (8<n)=false:=Qh h8
 by_cases h0:n<0
 ·have HS:Hid (QW n ys=(0,0,1)):=if_pos (.inl h0)
  have A:=Qa (Nh R n w h0);have HC:=Qa h;clear h;go_enter func139,ntmps139;go_wp2_with fail;refine A.o.mono ?_;rintro e w1 ⟨rfl,rfl⟩;go_wp2;go_ret2;rw[HS.o];exact⟨rfl,v,HC.o,rfl,Only.refl _ _⟩
 obtain⟨n,rfl⟩:=Int.eq_ofNat_of_zero_le (Int.not_lt.1 h0)
 by_cases hs:(ys.length:Int)<(n:Int)
 ·have HS:Hid (QW n ys=(0,0,2)):=by
   simp only[Hid,QW];rw[if_neg (by omega),if_pos hs]
  have A:=Qa (JR h n (by omega) hs);have HC:=Qa h;clear h;go_enter func139,ntmps139;go_wp2_with fail;refine A.o.mono ?_;rintro e w1 ⟨rfl,rfl⟩;go_wp2;go_ret2;rw[HS.o];exact⟨rfl,v,HC.o,rfl,Only.refl _ _⟩
 ·have HS:Hid (QW n ys=((num (ys.take n):Int),n,0)):=by
   simp only[Hid,QW];rw[if_neg (by omega),if_neg hs]
   rfl
  have A:=Qa (GV h n (by omega))
  have h2:Hid (∀y∈ys.take n,0<=y∧y<=255):=λy hy=>h.rng y (List.mem_of_mem_take hy)
  have h1:Hid ((ys.take n).length=n):=by simp only[Hid,Qg];omega
  clear h;go_enter func139,ntmps139;go_wp2_with fail;refine A.o.mono ?_;rintro e w1 ⟨ao,cap,v2,rfl,hb,_,hc,ho,h4⟩;have HB:=Qa hb;have HR:=Qa (And.intro hc (And.intro ho h4));clear hb hc ho h4 A;generalize ys.take n=zs at HB h2 h1 HS;go_wp2
  go_loop [8,24] (λa i=>∃k:Nat,k<=n∧i=.int .i64 k∧a=.int .u64 (num (zs.take k))) (λ_ i=>n - (intOf i).toNat)
  case atStart=>exact⟨0,Nat.zero_le _,rfl,rfl⟩
  case round =>
   obtain⟨k,hk,rfl,rfl⟩:=hrel
   by_cases hlt:k<n
   ·obtain⟨b,off,cap',e1,hx⟩:=HB.o.at k (by rw[h1.o];exact hlt)
    have ea:ao=some ⟨b,off,none⟩:=by simp at e1;exact e1.1
    subst ea;clear e1;obtain⟨ha,h3⟩:=yQ zs k h2.o (by rw[h1.o];omega) (by rw[h1.o];exact hlt);have hy:=h2.o (zs.getD k 0) (by rw[Qd,Qi (by rw[h1.o];exact hlt)];simp);generalize zs.getD k 0=y at hx h3 hy
    have i0:(0:Int)<=(k:Int):=by omega
    have i1:(k:Int)<(n:Int):=by omega
    have h5:=Qa h3
    have hsh:(num (zs.take k):Int)*256<=18446744073709551615:=by omega
    generalize num (zs.take k)=a at h5 ha hsh;clear h3;go_wp2
    go_round
    case rel=>exact⟨k+1,by omega,by go_num,by rw[h5.o]⟩
    case measure=>simp[intOf];omega
   ·have hkn:k=n:=by omega
    subst hkn;go_wp2;go_ret2;rw[HS.o,List.take_of_length_le (by rw[h1.o];omega)];exact⟨rfl,v2,HR.o⟩
theorem YO (h:CurAt 112 w R v ys) :
 Calls prog 162 #[.pointer (some ⟨R,0,none⟩)] w λe w'=>e=.returned (.tuple #[.int .u64 (Qe ys).1,.int .i64 (Qe ys).2.2]) ∧
  ∃v2,CurAt 112 w' R v2 (ys.drop (Qe ys).2.1)∧v2.ownBlock=v.ownBlock∧Only (λk=>k=R) w w':=by
 obtain⟨ao,cap,rfl⟩:=h.form;have c0:=(UC h.cell).1
 rcases XO ys h.rng with ⟨c,hrd,hc⟩ | ⟨a,k,hrd,_,hk,_,_,_⟩
 ·have HS:Hid (Qe ys=(0,0,c)):=by simp only[Hid,Qe];rw[hrd];rfl
  have A:=Qa (Z9 _ ys w hrd h.bs h.rng);have HC:=Qa h
  have dc:(c != 0)=true:=by simp;omega
  clear h hrd;go_enter func162,ntmps162;go_wp2_with fail;refine A.o.mono ?_;rintro e w1 ⟨rfl,rfl⟩;go_wp2;go_ret2;rw[HS.o];exact⟨rfl,_,HC.o,rfl,Only.refl _ _⟩
 ·have HS:Hid (Qe ys=((a:Int),k,0)):=by simp only[Hid,Qe];rw[hrd];rfl
  have A:=Qa (Z9 _ ys w hrd h.bs h.rng);have B:=Qa (Xb h k hk);clear h hrd;go_enter func162,ntmps162;go_wp2_with fail;refine A.o.mono ?_;rintro e w1 ⟨rfl,rfl⟩;go_wp2_with fail;refine B.o.mono ?_;rintro e w1 ⟨ao',cap',v2,rfl,_,_,hc,ho,h0⟩;have HR:=Qa (And.intro hc (And.intro ho h0));clear hc ho h0 A B c0;go_wp2;go_ret2;rw[HS.o];exact⟨rfl,v2,HR.o⟩
theorem DQ (h:CurAt 112 w R v ys) (n:Int) :
 Calls prog 43 #[.pointer (some ⟨R,0,none⟩),.int .i64 n] w λe w'=>∃v1,e=.returned (.tuple #[v1,.int .i64 (Q8 n ys).2.2])∧w'.ownsRow w.heap.size 5 1 v1 (Q8 n ys).1.length ((Q8 n ys).1.map (Value.int .u8)) ∧
  ∃v2,CurAt 112 w' R v2 (ys.drop (Q8 n ys).2.1)∧v2.ownBlock=v.ownBlock∧Only (λk=>k=R) w w':=by
 by_cases h0:n<0
 ·have HS:Hid (Q8 n ys=([],0,1)):=if_pos h0
  have A:=Qa (Nh R n w h0);have HC:=Qa h;clear h;go_enter func43,ntmps43;go_wp2_with fail;refine A.o.mono ?_;rintro e w1 ⟨rfl,rfl⟩;go_wp2;go_ret2;rw[HS.o];exact⟨.slice none 0 0,rfl,World.ownsRow_nil _ _ _ _,v,HC.o,rfl,Only.refl _ _⟩
 obtain⟨n,rfl⟩:=Int.eq_ofNat_of_zero_le (Int.not_lt.1 h0)
 by_cases hs:(ys.length:Int)<(n:Int)
 ·have HS:Hid (Q8 n ys=([],0,2)):=by
   simp only[Hid,Q8];rw[if_neg h0,if_pos hs]
  have A:=Qa (JR h n (by omega) hs);have HC:=Qa h;clear h;go_enter func43,ntmps43;go_wp2_with fail;refine A.o.mono ?_;rintro e w1 ⟨rfl,rfl⟩;go_wp2;go_ret2;rw[HS.o];exact⟨.slice none 0 0,rfl,World.ownsRow_nil _ _ _ _,v,HC.o,rfl,Only.refl _ _⟩
 ·have HS:Hid (Q8 n ys=(ys.take n,n,0)):=by
   simp only[Hid,Q8];rw[if_neg h0,if_neg hs]
   rfl
  have A:=Qa (GV h n (by omega));have hlen:=h.len;have hRw:R<w.heap.size:=(Array.getElem?_eq_some_iff.1 h.cell).1;clear h;go_enter func43,ntmps43;go_wp2_with fail;refine A.o.mono ?_;rintro e w1 ⟨ao,cap,v2,rfl,hb,_,hc,ho,h2⟩;have B:=Qa (Km _ _ w1 hb (by rw[Qg];omega));have HR:=Qa (And.intro hc (And.intro ho h2));clear hb hc ho h2 A;go_wp2_with fail;refine B.o.mono ?_;rintro e w2 ⟨v1,rfl,h3,h1⟩
  have F:Hid (w2.ownsRow w.heap.size 5 1 v1 (ys.take n).length ((ys.take n).map (Value.int .u8))∧CurAt 112 w2 R v2 (ys.drop n)∧v2.ownBlock=v.ownBlock∧Only (λk=>k=R) w w2):=by
   obtain⟨hc,ho,h2⟩:=HR.o;exact⟨Qr h3 h2.size,hc.keep h1 (λf=>f) (λ_ _ f=>f),ho,h2.trans h1 (λ_ _ f=>f.elim)⟩
  clear h3 h1 B HR;go_wp2;go_ret2;rw[HS.o];exact⟨v1,rfl,F.o.1,v2,F.o.2⟩
theorem Wt (h:CurAt 112 w R v ys) (n:Int) :
 Calls prog 43 #[.pointer (some ⟨R,0,none⟩),.int .i64 n] w λe w'=>∃v1,e=.returned (.tuple #[v1,.int .i64 (Q8 n ys).2.2])∧Bs .u8 w' v1 (Q8 n ys).1∧NoCap v1∧(∀k,v1.ownBlock=some k->w.heap.size<=k) ∧
  ∃v2,CurAt 112 w' R v2 (ys.drop (Q8 n ys).2.1)∧v2.ownBlock=v.ownBlock∧Only (λk=>k=R) w w' :=
 (DQ h n).mono λ_ _ ⟨v1,e,own,r⟩=>⟨v1,e,Bs.of_own own,NoCap.of_own own,λk hk=>(own.lt k hk).1,r⟩
theorem Zf (h:CurAt 112 w R v ys) (most:Int) (hm:most<=9223372036854775807) :
 Calls prog 41 #[.pointer (some ⟨R,0,none⟩),.int .i64 most] w λe w'=>∃v1,e=.returned (.tuple #[v1,.int .i64 (Qp most ys).2.2])∧Bs .u8 w' v1 (Qp most ys).1∧NoCap v1∧(∀k,v1.ownBlock=some k->w.heap.size<=k) ∧
  ∃v2,CurAt 112 w' R v2 (ys.drop (Qp most ys).2.1)∧v2.ownBlock=v.ownBlock∧Only (λk=>k=R) w w':=by
 by_cases h0:most<0
 ·have HS:Hid (Qp most ys=([],0,1)):=if_pos h0
  have HC:=Qa h;clear h;go_enter func41,ntmps41;go_wp2;go_ret2;rw[HS.o];exact⟨.slice none 0 0,rfl,Bs.nil _ _,NoCap.nil,U3 _,v,HC.o,rfl,Only.refl _ _⟩
 have d0:decide (most<0)=false:=Qh h0;obtain⟨ao,cap,rfl⟩:=h.form;have c0:=(UC h.cell).1;have hlen:=h.len
 rcases XO ys h.rng with ⟨c,hrd,hc⟩ | ⟨a,k,hrd,hk1,hk,_,ha,_⟩
 ·have HV:Qe ys=(0,0,c):=by simp only[Qe];rw[hrd];rfl
  have HS:Hid (Qp most ys=([],0,c)):=by
   simp only[Hid,Qp];rw[if_neg h0,HV,if_pos (by simp;omega)]
  have A:=Qa (Z9 _ ys w hrd h.bs h.rng);have HC:=Qa h
  have dc:(c != 0)=true:=by simp;omega
  clear h hrd HV;go_enter func41,ntmps41;go_wp2_with fail;refine A.o.mono ?_;rintro e w1 ⟨rfl,rfl⟩;go_wp2;go_ret2;rw[HS.o];exact⟨.slice none 0 0,rfl,Bs.nil _ _,NoCap.nil,U3 _,_,HC.o,rfl,Only.refl _ _⟩
 ·have HV:Qe ys=((a:Int),k,0):=by simp only[Qe];rw[hrd];rfl
  have A:=Qa (Z9 _ ys w hrd h.bs h.rng)
  by_cases h4:most<(a:Int)
  ·have HS:Hid (Qp most ys=([],0,4)):=by
    simp only[Hid,Qp];rw[if_neg h0,HV,if_neg (by simp),if_pos h4]
   have HC:=Qa h;clear h hrd HV;have d4:decide (most<(a:Int))=true:=Qc h4;go_enter func41,ntmps41;go_wp2_with fail;refine A.o.mono ?_;rintro e w1 ⟨rfl,rfl⟩;go_wp2;go_ret2;rw[HS.o];exact⟨.slice none 0 0,rfl,Bs.nil _ _,NoCap.nil,U3 _,_,HC.o,rfl,Only.refl _ _⟩
  have d4:decide (most<(a:Int))=false:=Qh h4;have L:=Qa (VA h)
  by_cases h2:(ys.length:Int) - k<(a:Int)
  ·have HS:Hid (Qp most ys=([],0,2)):=by
    simp only[Hid,Qp];rw[if_neg h0,HV,if_neg (by simp),if_neg h4,if_pos h2]
   have HC:=Qa h;clear h hrd HV;have d2:decide ((ys.length:Int) - k<(a:Int))=true:=Qc h2;go_enter func41,ntmps41;go_wp2_with fail;refine A.o.mono ?_;rintro e w1 ⟨rfl,rfl⟩;go_wp2_with fail;refine L.o.mono ?_;rintro e w1 ⟨rfl,rfl⟩;go_wp2;go_ret2;rw[HS.o];exact⟨.slice none 0 0,rfl,Bs.nil _ _,NoCap.nil,U3 _,_,HC.o,rfl,Only.refl _ _⟩
  ·have HS:Hid (Qp most ys=((ys.drop k).take a,k+a,0)):=by
    simp only[Hid,Qp];rw[if_neg h0,HV,if_neg (by simp),if_neg h4,if_neg h2]
    rfl
   have d2:decide ((ys.length:Int) - k<(a:Int))=false:=Qh h2;have B:=Qa (Xb h k hk);clear h hrd HV;go_enter func41,ntmps41;go_wp2_with fail;refine A.o.mono ?_;rintro e w1 ⟨rfl,rfl⟩;go_wp2_with fail;refine L.o.mono ?_;rintro e w1 ⟨rfl,rfl⟩;go_wp2_with fail;refine B.o.mono ?_;rintro e w1 ⟨ao',cap',v2,rfl,_,_,hc,ho,h6⟩;have C:=Qa (Xb hc a (by rw[Qm];omega));have HR:=Qa (And.intro ho h6);clear hc ho h6 A B L c0;go_wp2_with fail;refine C.o.mono ?_;rintro e w2 ⟨ao3,cap3,v3,rfl,hb,_,hc,ho,h6⟩;have D:=Qa (Km _ _ w2 hb (by rw[Qg,Qm];omega));have h8:=Qa (And.intro hc (And.intro ho h6));clear hb hc ho h6 C;go_wp2_with fail;refine D.o.mono ?_;rintro e w3 ⟨v1,rfl,h1,h5⟩
   have F:Hid (Bs .u8 w3 v1 ((ys.drop k).take a)∧NoCap v1∧(∀k,v1.ownBlock=some k->w.heap.size<=k)∧CurAt 112 w3 R v3 (ys.drop (k+a))∧v3.ownBlock=(Value.slice ao ys.length cap).ownBlock∧Only (λk=>k=R) w w3):=by
    obtain⟨ho,h6⟩:=HR.o;obtain⟨hc,ho2,h7⟩:=h8.o;rw[List.drop_drop] at hc;have h3:=h6.trans h7 (λ_ _ f=>f);exact⟨Bs.of_own h1,NoCap.of_own h1,λk hk=>Nat.le_trans h3.size (h1.lt k hk).1,hc.keep h5 (λf=>f) (λ_ _ f=>f),ho2.trans ho,h3.trans h5 (λ_ _ f=>f.elim)⟩
   clear h1 h5 D HR h8;go_wp2;go_ret2;rw[HS.o];obtain⟨f1,f2,f3,f4⟩:=F.o;exact⟨v1,rfl,f1,f2,f3,v3,f4⟩
theorem Y4 (v:Nat) (t:LI) (h:v<18446744073709551616):Qe (gs v++t)=((v:Int),(gs v).length,0):=by
 have:=rd_gs t v 0 0 (by omega) (by simpa using h) (λh=>by omega);rw[Qe,this];simp
def loF (a:Int) (l:LI):Int:=l.foldl (λm x=>min m x) a
def hiF (a:Int) (l:LI):Int:=l.foldl (λm x=>max m x) a
def lo (l:LI):Int:=loF (l.getD 0 0) (l.drop 1)
def hi (l:LI):Int:=hiF (l.getD 0 0) (l.drop 1)
theorem Pp (l:LI):∀a,loF a l<=a∧∀x∈l,loF a l<=x:=by
 induction l with
 | nil=>intro a;simp[loF]
 | cons b t ih =>
  intro a;obtain⟨h1,h2⟩:=ih (min a b);have e:loF a (b :: t)=loF (min a b) t:=rfl;rw[e];refine⟨by omega,λx hx=>?_⟩
  rcases List.mem_cons.1 hx with rfl | hx
  ·omega
  ·exact h2 x hx
theorem NE (l:LI):∀a,a<=hiF a l∧∀x∈l,x<=hiF a l:=by
 induction l with
 | nil=>intro a;simp[hiF]
 | cons b t ih =>
  intro a;obtain⟨h1,h2⟩:=ih (max a b);have e:hiF a (b :: t)=hiF (max a b) t:=rfl;rw[e];refine⟨by omega,λx hx=>?_⟩
  rcases List.mem_cons.1 hx with rfl | hx
  ·omega
  ·exact h2 x hx
theorem wj (l:LI):∀a,loF a l=a∨loF a l∈l:=by
 induction l with
 | nil=>intro a;simp[loF]
 | cons b t ih =>
  intro a;have e:loF a (b :: t)=loF (min a b) t:=rfl;rw[e]
  rcases ih (min a b) with h | h
  ·rw[h]
   rcases Int.le_total a b with h' | h'
   ·left;omega
   ·right;rw[show min a b=b by omega];exact List.mem_cons_self
  ·exact .inr (List.mem_cons_of_mem _ h)
theorem Cv (l:LI):∀a,hiF a l=a∨hiF a l∈l:=by
 induction l with
 | nil=>intro a;simp[hiF]
 | cons b t ih =>
  intro a;have e:hiF a (b :: t)=hiF (max a b) t:=rfl;rw[e]
  rcases ih (max a b) with h | h
  ·rw[h]
   rcases Int.le_total a b with h' | h'
   ·right;rw[show max a b=b by omega];exact List.mem_cons_self
   ·left;omega
  ·exact .inr (List.mem_cons_of_mem _ h)
theorem qP (a:Int) (l:LI) (x:Int):loF a (l++[x])=min (loF a l) x:=by simp[loF]
theorem ue (a:Int) (l:LI) (x:Int):hiF a (l++[x])=max (hiF a l) x:=by simp[hiF]
theorem Pa (a:Int) (t:LI):lo (a :: t)=loF a t:=rfl
theorem Ro (a:Int) (t:LI):hi (a :: t)=hiF a t:=rfl
theorem Ai:lo []=0:=rfl
theorem AK:hi []=0:=rfl
theorem lo_le (l:LI):∀x∈l,lo l<=x:=by
 cases l with
 | nil=>simp
 | cons a t =>
  intro x hx;rw[Pa]
  rcases List.mem_cons.1 hx with rfl | hx
  ·exact (Pp t x).1
  ·exact (Pp t a).2 x hx
theorem le_hi (l:LI):∀x∈l,x<=hi l:=by
 cases l with
 | nil=>simp
 | cons a t =>
  intro x hx;rw[Ro]
  rcases List.mem_cons.1 hx with rfl | hx
  ·exact (NE t x).1
  ·exact (NE t a).2 x hx
theorem zL (h:l≠[]):lo l∈l:=by
 cases l with
 | nil=>exact absurd rfl h
 | cons a t =>
  rw[Pa]
  rcases wj t a with h | h
  ·rw[h];exact List.mem_cons_self
  ·exact List.mem_cons_of_mem _ h
theorem Dd (h:l≠[]):hi l∈l:=by
 cases l with
 | nil=>exact absurd rfl h
 | cons a t =>
  rw[Ro]
  rcases Cv t a with h | h
  ·rw[h];exact List.mem_cons_self
  ·exact List.mem_cons_of_mem _ h
theorem lohi (h:U64 l):0<=lo l∧lo l<=hi l∧hi l<=18446744073709551615:=by
 by_cases hne:l=[]
 ·subst hne;rw[Ai,AK];omega
 ·have h1:=h _ (zL hne)
  have h2:=h _ (Dd hne);have h3:=lo_le l _ (Dd hne);omega
def wd (l:LI):Nat:=wid (hi l - lo l).toNat
theorem wd_le (h:U64 l):wd l<=64:=by
 have:=lohi h;exact Kk _ (by omega)
theorem Sg (l:LI) (x:Int) (hx:x∈l):wid (x - lo l).toNat<=wd l:=by
 have h1:=lo_le l x hx;have h2:=le_hi l x hx;exact OG (by omega)
def ups (a:Int) (w:Nat) (t:LI):List Bool:=t.flatMap λx=>Ql (x - a).toNat w
def up (l:LI):List Bool:=ups (lo l) (wd l) l
theorem Mi (a:Int) (w:Nat) (t:LI):(ups a w t).length=t.length*w:=by
 induction t with
 | nil=>simp[ups]
 | cons b t ih =>
  have e:ups a w (b :: t)=Ql (b - a).toNat w++ups a w t:=rfl;rw[e,Qb,ih,Ys,Qj,Nat.add_mul];omega
theorem tT (a:Int) (w:Nat) (t:LI) (x:Int):ups a w (t++[x])=ups a w t++Ql (x - a).toNat w:=by simp[ups]
theorem Gv (l:LI):(up l).length=l.length*wd l:=Mi _ _ _
def PK (l:LI):LI:=gs (lo l).toNat++((wd l:Int) :: QH (up l))
theorem ET (l:LI):(PK l).length=(gs (lo l).toNat).length+1+(l.length*wd l+7) / 8:=by
 unfold PK;rw[Qb,Qj,UG,nb,Gv];omega
theorem Jo (h:U64 l):∀y∈PK l,0<=y∧y<=255:=by
 intro y hy;have hw:=wd_le h;unfold PK at hy
 rcases List.mem_append.1 hy with h1 | h1
 ·exact UO _ y h1
 ·rcases List.mem_cons.1 h1 with rfl | h1
  ·omega
  ·exact GD _ y h1
def nums (a:Nat) (w:Nat) (l:List Bool) (n:Nat):LI:=(List.range n).map λi=>(((a+bnum ((l.drop (i*w)).take w)) % 18446744073709551616:Nat):Int)
theorem Vp (a w:Nat) (l:List Bool) (n:Nat):(nums a w l n).length=n:=by simp[nums]
theorem xK (a w:Nat) (l:List Bool) (n:Nat):nums a w l (n+1)=nums a w l n++[(((a+bnum ((l.drop (n*w)).take w)) % 18446744073709551616:Nat):Int)]:=by simp[nums,List.range_succ]
theorem ji (a w:Nat) (l:List Bool) (n:Nat):U64 (nums a w l n):=by
 intro x hx;simp only[nums,List.mem_map,List.mem_range] at hx;obtain⟨i,_,rfl⟩:=hx;have:=Nat.mod_lt (a+bnum ((l.drop (i*w)).take w)) (show 0<18446744073709551616 by decide);omega
def rdl (b:LI) (n:Nat):Int × LI :=
 if (Qe b).2.2≠0 then ((Qe b).2.2,[]) else
 if (b.drop (Qe b).2.1).length=0 then (2,[]) else
 if 64<(b.drop (Qe b).2.1).getD 0 0 then (3,[]) else
 if 8*(b.drop ((Qe b).2.1+1)).length<n*((b.drop (Qe b).2.1).getD 0 0).toNat then (2,[]) else
 (0,nums (Qe b).1.toNat ((b.drop (Qe b).2.1).getD 0 0).toNat (Qf (b.drop ((Qe b).2.1+1))) n)
theorem As {b:LI} {c:Int} (n:Nat) (h:rd 0 0 b=(0,0,c)) (hc:c≠0):rdl b n=(c,[]):=by
 unfold rdl Qe;rw[h];simp[hc]
theorem wq (a n:Nat) (h:a<18446744073709551616):rdl (gs a) n=(2,[]):=by
 have hs:=Y4 a [] h;rw[List.append_nil] at hs;unfold rdl;rw[hs];simp
theorem Nw (a n:Nat) (y:Int) (r:LI) (h:a<18446744073709551616) :
 rdl (gs a++y :: r) n=if 64<y then (3,[]) else if 8*r.length<n*y.toNat then (2,[]) else (0,nums a y.toNat (Qf r) n):=by
 have hd:(gs a++y :: r).drop (gs a).length=y :: r:=by simp
 have hd1:(gs a++y :: r).drop ((gs a).length+1)=r:=by rw[<-List.drop_drop,hd];rfl
 unfold rdl;rw[Y4 a _ h];simp only[hd,hd1,ne_eq,not_true_eq_false,if_false];simp
theorem Dr {b:LI} (h:rdl b n=(0,l)):l.length=n:=by
 unfold rdl at h
 split at h
 ·rename_i h0;simp at h;exact absurd h.1 h0
 ·split at h
  ·simp at h
  ·split at h
   ·simp at h
   ·split at h
    ·simp at h
    ·simp at h;rw[<-h,Vp]
theorem RH (b:LI) (n:Nat):U64 (rdl b n).2:=by
 have h0:U64 []:=λx hx=>by simp at hx
 unfold rdl
 split
 ·exact h0
 ·split
  ·exact h0
  ·split
   ·exact h0
   ·split
    ·exact h0
    ·exact ji _ _ _ _
theorem parse (b:LI) (hr:∀y∈b,0<=y∧y<=255):(∃c,rd 0 0 b=(0,0,c)∧(c=2∨c=3))∨(∃a:Nat,a<18446744073709551616∧b=gs a)∨(∃(a:Nat) (y:Int) (r:LI),a<18446744073709551616∧b=gs a++y :: r):=by
 rcases XO b hr with h | ⟨a,k,h,h1,h2,h3,h4,h5⟩
 ·exact .inl h
 ·right
  have hb:b=gs a++b.drop k:=by rw[h5,List.take_append_drop]
  cases hd:b.drop k with
  | nil=>left;rw[hd,List.append_nil] at hb;exact⟨a,h4,hb⟩
  | cons y r=>right;rw[hd] at hb;exact⟨a,y,r,h4,hb⟩
theorem yi (a:Int) (w:Nat) (t:LI):∀(i:Nat) (z:List Bool),i<t.length->((ups a w t++z).drop (i*w)).take w=Ql (t.getD i 0 - a).toNat w:=by
 induction t with
 | nil=>intro i z h;simp at h
 | cons b t ih =>
  intro i z h;have e:ups a w (b :: t)=Ql (b - a).toNat w++ups a w t:=rfl;have hl:=Ys (b - a).toNat w
  cases i with
  | zero=>rw[e,Nat.zero_mul,List.drop_zero,List.append_assoc,List.take_append_of_le_length (by omega),List.take_of_length_le (by omega)];rfl
  | succ i =>
   have hd:(Ql (b - a).toNat w++(ups a w t++z)).drop w=ups a w t++z:=by
    rw[List.drop_append_of_le_length (by omega),List.drop_of_length_le (l:=Ql (b - a).toNat w) (by omega),List.nil_append]
   rw[e,List.append_assoc,Nat.add_mul,Nat.one_mul,Nat.add_comm,<-List.drop_drop,hd,ih i z (by simpa using h)]
   rfl
theorem tb (h:U64 l) (t:LI):rdl (PK l++t) l.length=(0,l):=by
 obtain⟨h1,h2,h3⟩:=lohi h;have hw:=wd_le h
 have e:PK l++t=gs (lo l).toNat++(wd l:Int) :: (QH (up l)++t):=by simp[PK]
 rw[e,Nw _ _ _ _ (by omega),if_neg (by omega),if_neg]
 ·congr 1
  rw[Int.toNat_natCast,Rx,Hu,List.append_assoc]
  apply List.ext_getElem
  ·rw[Vp]
  ·intro i hi1 hi2
   have hx:l[i]∈l:=List.getElem_mem _
   have hg:l.getD i 0=l[i]:=by rw[Qd,Qi hi2];rfl
   simp only[nums,List.getElem_map,List.getElem_range]
   have hu:∀z,((up l++z).drop (i*wd l)).take (wd l)=Ql (l.getD i 0 - lo l).toNat (wd l):=λz=>yi _ _ l i z hi2
   rw[hu,hg,JL,Nat.mod_eq_of_lt ((Yj _ _).1 (Sg l _ hx))];have:=lo_le l _ hx;have:=h _ hx;rw[Nat.mod_eq_of_lt (by omega)];omega
 ·rw[Int.toNat_natCast,Qb,UG,nb,Gv];omega
def UN (b:LI) (n:Int):Int × LI :=
 if n<0∨65536<n then (1,[]) else
 if (rdl b n.toNat).1≠0 then ((rdl b n.toNat).1,[]) else
 if PK (rdl b n.toNat).2=b then (0,(rdl b n.toNat).2) else (3,[])
theorem yI (b:LI) (n:Int):U64 (UN b n).2:=by
 have h0:U64 []:=λx hx=>by simp at hx
 unfold UN
 split
 ·exact h0
 ·split
  ·exact h0
  ·split
   ·exact RH _ _
   ·exact h0
theorem yr (b:LI) (n:Int) (h:(UN b n).1≠0):(UN b n).2=[]:=by
 unfold UN at h ⊢
 split
 ·rfl
 ·split
  ·rfl
  ·split
   ·rename_i h1 h2 h3;rw[if_neg h1,if_neg h2,if_pos h3] at h;simp at h
   ·rfl
theorem UN_ok {b:LI} {n:Int} (h:(UN b n).1=0):PK (UN b n).2=b∧((UN b n).2.length:Int)=n∧n<=65536:=by
 unfold UN at h ⊢
 split
 ·rename_i h1;rw[if_pos h1] at h;simp at h
 ·split
  ·rename_i h1 h2;rw[if_neg h1,if_pos h2] at h;exact absurd h h2
  ·split
   ·rename_i h1 h2 h3
    have h4:rdl b n.toNat=(0,(rdl b n.toNat).2):=by rw[<-Decidable.of_not_not h2]
    have:=Dr h4;refine⟨h3,?_,by omega⟩
    show ((rdl b n.toNat).2.length:Int)=n
    omega
   ·rename_i h1 h2 h3;rw[if_neg h1,if_neg h2,if_neg h3] at h;simp at h
theorem un_pk (h:U64 l) (hl:l.length<=65536):UN (PK l) l.length=(0,l):=by
 have e:=tb h [];rw[List.append_nil] at e;unfold UN;rw[if_neg (by omega),Int.toNat_natCast,e];simp
end Go.Proofs.YteciafpneamfaaaGreatDoor
