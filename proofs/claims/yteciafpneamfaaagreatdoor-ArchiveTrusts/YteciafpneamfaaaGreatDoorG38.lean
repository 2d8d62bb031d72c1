import Derived.Test.YteciafpneamfaaaGreatDoorG37
namespace Go.Proofs.YteciafpneamfaaaGreatDoor
set_option maxHeartbeats 2000000
set_option maxRecDepth 100000
open Go.RowKit _root_.Go.Proofs.Tryz
variable {w w' W:World} {v:Value} {ys xs l:LI} {R n p k g B:Nat} {P:Program} {ls:List (LI)} {E:TypeId}
theorem AS (h:CurAt 112 w R v ys) (hvb:∀k,v.ownBlock=some k->k<w.heap.size) (m t:Nat) (hm:m<=65536) (h1:1<=t) (h4:t<=4) :
 Calls prog 224 #[.pointer (some ⟨R,0,none⟩),.int .i64 m,.int .i64 t] w λe w'=>∃u,e=.returned (.tuple #[u,.int .i64 (Q0 ys m t).2])∧w'.ownsRow w.heap.size 23 1 u (Q0 ys m t).1.length ((Q0 ys m t).1.map (Value.int .u64))∧Only (λk=>k=R) w w':=by
 rcases (by omega:t=1∨t=2∨t=3∨t=4) with rfl | ht
 ·have B:=Qa (Ck h hvb m hm)
  rw[show ((1:Nat):Int)=1 from rfl];clear h hvb hm;go_enter func224,ntmps224;go_wp2_with fail;refine B.o.mono ?_;rintro e w2 ⟨u2,rfl,h0,o2⟩;have F:=Qa (And.intro h0 o2);obtain⟨f2,c2,e2⟩:=(Bs.of_own h0).len;subst e2;clear B h0 o2;go_wp2
  try rw[Exit.noGoto_ret]
  go_ret2;exact⟨_,rfl,F.o.1,F.o.2⟩
 ·have RC:=Qa (kV h)
  have h2:=Qa h.rng;have HL:=Qa h.len;clear h hvb hm h1 h4
  rcases ht with rfl | rfl | rfl
  case' inr.inl=>have B:=Qa (λu w1 bs=>wX u ys m w1 bs h2.o HL.o);rw[show ((2:Nat):Int)=2 from rfl]
  case' inr.inr.inl=>have B:=Qa (λu w1 bs=>wo u ys m w1 bs h2.o HL.o);rw[show ((3:Nat):Int)=3 from rfl]
  case' inr.inr.inr=>have B:=Qa (λu w1 bs=>EM u ys m w1 bs h2.o HL.o);rw[show ((4:Nat):Int)=4 from rfl]
  all_goals
   go_enter func224,ntmps224;go_wp2_with fail;refine RC.o.mono ?_;rintro e w1 ⟨u,rfl,bs,o1⟩;have C:=Qa (B.o u w1 bs);have O1:=Qa o1;obtain⟨f1,c1,e1⟩:=bs.len;subst e1;clear RC bs o1 B;go_wp2_with fail;refine C.o.mono ?_;rintro e w2 ⟨u2,rfl,h0,o2⟩;have F:=Qa (And.intro (Qr h0 O1.o.size) (O1.o.trans o2 (λ_ _ f=>f.elim)));obtain⟨f2,c2,e2⟩:=(Bs.of_own h0).len;subst e2;clear C h0 o2;go_wp2
   try rw[Exit.noGoto_ret]
   go_ret2;exact⟨_,rfl,F.o.1,F.o.2⟩
theorem Bz (R t:Nat) (w:World) :
 Calls prog 201 #[.pointer (some ⟨R,0,none⟩),.int .i64 0,.int .i64 t] w λe w'=>e=.returned (.tuple #[.slice none 0 0,.int .i64 0])∧w=w':=by
 go_enter func201,ntmps201;go_wp2
 try rw[Exit.noGoto_ret]
 go_ret2;exact⟨rfl,rfl⟩
theorem Is (h:CurAt 112 w R v ys) (hvb:∀k,v.ownBlock=some k->k<w.heap.size) (n:Nat) (hn:n<=65536) (hp:0<n) :
 Calls prog 201 #[.pointer (some ⟨R,0,none⟩),.int .i64 n,.int .i64 0] w λe w'=>∃u,e=.returned (.tuple #[u,.int .i64 (rFx ys n).2])∧w'.ownsRow w.heap.size 3 1 u ((rFx ys n).1.map s64).length (((rFx ys n).1.map s64).map (Value.int .i64))∧Only (λk=>k=R) w w':=by
 have B:=Qa (Fa h hvb n hn)
 have d0:((n:Int) == 0)=false:=by rw[beq_eq_false_iff_ne];omega
 generalize (rFx ys n).1.map s64=z at *;clear h hvb hn hp;go_enter func201,ntmps201;go_wp2_with fail;refine B.o.mono ?_;rintro e w2 ⟨u2,rfl,h0,o2⟩;have F:=Qa (And.intro h0 o2);obtain⟨f2,c2,e2⟩:=(Bs.of_own h0).len;subst e2;clear B h0 o2;go_wp2
 try rw[Exit.noGoto_ret]
 go_ret2;exact⟨_,rfl,F.o.1,F.o.2⟩
theorem yd (h:CurAt 112 w R v ys) (hvb:∀k,v.ownBlock=some k->k<w.heap.size) (m t:Nat) (hm:m<65536) (h1:1<=t) (h4:t<=4) :
 Calls prog 201 #[.pointer (some ⟨R,0,none⟩),.int .i64 (m+1:Nat),.int .i64 t] w λe w'=>∃u,e=.returned (.tuple #[u,.int .i64 (READ ys (m+1) t).2])∧w'.ownsRow w.heap.size 3 1 u (READ ys (m+1) t).1.length ((READ ys (m+1) t).1.map (Value.int .i64))∧Only (λk=>k=R) w w':=by
 have hR:R<w.heap.size:=(Array.getElem?_eq_some_iff.1 h.cell).1;have V:=YO h
 have d0:(((m+1:Nat):Int) == 0)=false:=by rw[beq_eq_false_iff_ne];omega
 have d1:((t:Int) == 0)=false:=by rw[beq_eq_false_iff_ne];omega
 have em:((m+1:Nat):Int) - 1=(m:Int):=by omega
 have HVB:=Qa hvb
 have h2:READ ys (m+1) t=if (Qe ys).2.2≠0 then ([],(Qe ys).2.2) else
  if (Q0 (ys.drop (Qe ys).2.1) m t).2≠0 then ([],(Q0 (ys.drop (Qe ys).2.1) m t).2) else
  (S (tms t) (zag (Qe ys).1 :: zgn (Q0 (ys.drop (Qe ys).2.1) m t).1),0):=by
  unfold READ;rw[if_neg (by omega),if_neg (by omega),Nat.add_sub_cancel]
 rcases Ua h.rng with ⟨c,hs,hc⟩ | ⟨a,q,hs,_,_,ha,_⟩
 ·rw[hs] at V h2
  simp only at h2;rw[if_pos (by omega)] at h2;rw[h2];have V:=Qa V
  have dc:(c != 0)=true:=by simp;omega
  clear h hvb hs h2 hc;go_enter func201,ntmps201;go_wp2_with fail;refine V.o.mono ?_;rintro e w2 ⟨rfl,v2,_,_,o2⟩;have O2:=Qa o2;clear V o2;go_wp2
  try rw[Exit.noGoto_ret]
  go_ret2;exact⟨_,rfl,World.ownsRow_nil _ _ _ _,O2.o⟩
 ·rw[hs] at V h2
  simp only[ne_eq,not_true_eq_false,if_false] at h2;have V:=Qa V
  have hf:Hid (YX (ys.drop q)):=λy hy=>h.rng y (List.mem_of_mem_drop hy)
  have h7:Hid (∀(v2:Value) (w2:World),CurAt 112 w2 R v2 (ys.drop q)->v2.ownBlock=v.ownBlock->w.heap.size<=w2.heap.size->Calls prog 224 #[.pointer (some ⟨R,0,none⟩),.int .i64 m,.int .i64 t] w2 λe w'=>∃u,e=.returned (.tuple #[u,.int .i64 (Q0 (ys.drop q) m t).2])∧w'.ownsRow w2.heap.size 23 1 u (Q0 (ys.drop q) m t).1.length ((Q0 (ys.drop q) m t).1.map (Value.int .u64))∧Only (λk=>k=R) w2 w') :=
   λv2 w2 hc ho hz=>AS hc (λk hk=>by rw[ho] at hk;have:=hvb k hk;omega) m t (by omega) h1 h4
  have hh:Hid (∀w2,Calls prog 178 #[.int .i64 t] w2 λe w'=>e=.returned (.int .i64 (tms t))∧w2=w'):=λw2=>Sr t w2 h1 h4
  have HT3:=Qa (Mn t)
  by_cases ho:(Q0 (ys.drop q) m t).2=0
  ·have h6:=Qa (Rr hf.o ho)
   rw[if_neg (by simpa using ho)] at h2;rw[h2];simp only[PN,Qj,Hl,h6.o.2];generalize hW:Q0 (ys.drop q) m t=W at *;obtain⟨o,c⟩:=W;simp only at ho h6 h7 ⊢;subst ho;clear h hvb hs h2 hW;generalize tms t=k at *
   have ha1:(a:Int)<=18446744073709551615:=by omega
   obtain⟨zz,he⟩:=EX (zag a :: zgn o);rw[<-he];have hg:=Qa he;clear he;go_enter func201,ntmps201;go_wp2_with fail;refine V.o.mono ?_;rintro e w2 ⟨rfl,v2,h3,h9,o2⟩;have OC:=Qa (h7.o v2 w2 h3 h9 o2.size);have O2:=Qa o2;clear V o2 h7 h3 h9;go_wp2_with fail;refine OC.o.mono ?_;rintro e w3 ⟨u3,rfl,h0,o3⟩;have O3:=Qa (O2.o.trans o3 (λ_ _ e=>e));have ZG:=Qa (ta a u3 o w3 (Bs.of_own h0) h6.o.1 (by rw[h6.o.2];omega) (by omega) ha1);obtain⟨f3,c3,e3⟩:=(Bs.of_own h0).len;rw[h6.o.2] at e3 ZG;subst e3;clear OC h0 o3 O2;go_wp2_with fail;refine ZG.o.mono ?_;rintro e w4 ⟨u4,rfl,h8,o4⟩
   have hb:zz.length=m+1:=by rw[hg.o,Qj,Hl,h6.o.2]
   have hd:Bs .i64 w4 u4 zz:=Bs.of_own (by rw[hb,hg.o];exact h8);have SU:=Qa (yh u4 zz k w4 hd (by rw[hb];omega) HT3.o);have O4:=Qa (O3.o.trans o4 (λ_ _ f=>f.elim));obtain⟨f4,c4,e4⟩:=hd.len;rw[hb] at e4 SU;subst e4;clear ZG h8 o4 O3 hd hb;go_wp2_with fail;refine (hh.o w4).mono ?_;rintro e w5 ⟨rfl,rfl⟩;clear hh;go_wp2_with fail;refine SU.o.mono ?_;rintro e w6 ⟨u6,rfl,h5,o6⟩;have F:=Qa (And.intro (Qr h5 O4.o.size) (O4.o.trans o6 (λ_ _ f=>f.elim)));clear SU o6;obtain⟨f6,c6,e6,_,_⟩:=h5.form (by omega);subst e6;clear h5;go_wp2
   try rw[Exit.noGoto_ret]
   go_ret2;exact⟨_,rfl,F.o.1,F.o.2⟩
  ·rw[if_pos ho] at h2
   rw[h2];have HE:=Qa (xX hf.o ho);generalize hW:Q0 (ys.drop q) m t=W at *;obtain⟨o,c⟩:=W;simp only at ho HE h7 ⊢
   have dc:(c != 0)=true:=by simp;exact ho
   clear h hvb hs h2 hW;go_enter func201,ntmps201;go_wp2_with fail;refine V.o.mono ?_;rintro e w2 ⟨rfl,v2,h3,h9,o2⟩;have OC:=Qa (h7.o v2 w2 h3 h9 o2.size);have O2:=Qa o2;clear V o2 h7 h3 h9;go_wp2_with fail;refine OC.o.mono ?_;rintro e w3 ⟨u3,rfl,h0,o3⟩;have O3:=Qa (O2.o.trans o3 (λ_ _ e=>e));obtain⟨f3,c3,e3⟩:=(Bs.of_own h0).len;subst e3;clear OC h0 o3 O2;go_wp2
   try rw[Exit.noGoto_ret]
   go_ret2;exact⟨_,rfl,World.ownsRow_nil _ _ _ _,O3.o⟩
theorem jp (h:CurAt 112 w R v ys) (hvb:∀k,v.ownBlock=some k->k<w.heap.size) (n t:Nat) (hn:n<=65536) (h4:t<=4) :
 Calls prog 201 #[.pointer (some ⟨R,0,none⟩),.int .i64 n,.int .i64 t] w λe w'=>∃u,e=.returned (.tuple #[u,.int .i64 (READ ys n t).2])∧w'.ownsRow w.heap.size 3 1 u (READ ys n t).1.length ((READ ys n t).1.map (Value.int .i64))∧Only (λk=>k=R) w w':=by
 by_cases h0:n=0
 ·subst h0
  refine (Bz R t w).mono ?_;rintro e w' ⟨rfl,rfl⟩;exact⟨_,rfl,World.ownsRow_nil _ _ _ _,Only.refl _ _⟩
 ·by_cases ht:t=0
  ·subst ht
   have e:READ ys n 0=((rFx ys n).1.map s64,(rFx ys n).2):=by
    unfold READ;rw[if_neg h0,if_pos rfl]
   rw[e];exact Is h hvb n hn (by omega)
  ·obtain⟨m,rfl⟩:∃m,n=m+1:=⟨n - 1,by omega⟩
   exact yd h hvb m t (by omega) (by omega) h4
theorem wG (v:Value) (n:Int) (w:World) (h:n<0∨65536<n) :
 Calls prog 171 #[v,.int .i64 n] w λe w'=>e=.returned (.tuple #[.slice none 0 0,.int .i64 1])∧w=w':=by
 by_cases h0:n<0
 ·have d0:decide (n<0)=true:=Qc h0
  clear h h0;go_enter func171,ntmps171;go_wp2
  try rw[Exit.noGoto_ret]
  go_ret2;exact⟨rfl,rfl⟩
 ·have d0:decide (n<0)=false:=Qh h0
  have d1:decide (65536<n)=true:=Qc (by omega);clear h h0;go_enter func171,ntmps171;go_wp2
  try rw[Exit.noGoto_ret]
  go_ret2;exact⟨rfl,rfl⟩
theorem IU:sByte []=(0,0,2):=rfl
theorem Lj (y:Int) (r:LI):sByte (y :: r)=(y,1,0):=by simp[sByte]
theorem uG (v:Value) (ys:LI) (n:Nat) (w:World) (h:Bs .u8 w v ys) (hr:YX ys) (hl:ys.length<=1000000000000) (hn:n<=65536) :
 Calls prog 171 #[v,.int .i64 n] w λe w'=>∃u,e=.returned (.tuple #[u,.int .i64 (DEC8 ys n).2])∧w'.ownsRow w.heap.size 3 1 u (DEC8 ys n).1.length ((DEC8 ys n).1.map (Value.int .i64))∧N0 w w':=by
 have NW:=Qa (Ut v ys w h hr hl);have HB:=Qa h
 have d0:decide ((n:Int)<0)=false:=by simp
 have d1:decide ((65536:Int)<(n:Int))=false:=Qh (by omega)
 have eD:DEC8 ys n=if ys=[] then ([],2) else if 4<ys.getD 0 0 then ([],3) else
  if (READ (ys.drop 1) n (ys.getD 0 0).toNat).2≠0 then ([],(READ (ys.drop 1) n (ys.getD 0 0).toNat).2) else
  if (ENC8 (READ (ys.drop 1) n (ys.getD 0 0).toNat).1).1=ys then ((READ (ys.drop 1) n (ys.getD 0 0).toNat).1,0) else ([],3):=by
  unfold DEC8;rw[if_neg (by omega)]
  rfl
 have hp:=Qa hr;obtain⟨ao,cap,rfl⟩:=h.len;clear h hl
 cases ys with
 | nil =>
  rw[eD,if_pos rfl];clear eD hr;go_enter func171,ntmps171;go_wp2_with fail;refine NW.o.mono ?_;rintro e w1 ⟨R,v1,rfl,h1,o1,he,hj,h5⟩;have BY:=Us h1;rw[IU] at BY;have BY:=Qa BY;have O1:=Qa o1;clear NW h1 o1 h5;go_wp2_with fail;refine BY.o.mono ?_;rintro e w2 ⟨rfl,v2,_,_,o2⟩;have O2:=Qa (O1.o.trans o2 (λk hk e=>by omega));clear BY o2;go_wp2
  try rw[Exit.noGoto_ret]
  go_ret2;exact⟨_,rfl,World.ownsRow_nil _ _ _ _,O2.o⟩
 | cons y r =>
  have hy:=hr y List.mem_cons_self;rw[if_neg (by simp),List.getD_cons_zero,List.drop_succ_cons,List.drop_zero] at eD;obtain⟨t,rfl⟩:∃t:Nat,y=t:=⟨y.toNat,by omega⟩;rw[Int.toNat_natCast] at eD;have t255:(t:Int)<=255:=hy.2
  by_cases ht:4<t
  ·rw[if_pos (by omega)] at eD
   rw[eD];have IT:=Qa (λw2=>My (t:Int) w2 (.inr (by omega)));obtain⟨N,hN⟩:=EX (((t:Int) :: r).length);rw[<-hN] at NW HB ⊢;clear eD hr hy hN;go_enter func171,ntmps171;go_wp2_with fail;refine NW.o.mono ?_;rintro e w1 ⟨R,v1,rfl,h1,o1,he,hj,h5⟩;have BY:=Us h1;rw[Lj] at BY;have BY:=Qa BY;have O1:=Qa o1;clear NW h1 o1 h5;go_wp2_with fail;refine BY.o.mono ?_;rintro e w2 ⟨rfl,v2,_,_,o2⟩;have O2:=Qa (O1.o.trans o2 (λk hk e=>by omega));clear BY o2;go_wp2_with fail;refine (IT.o w2).mono ?_;rintro e w3 ⟨rfl,rfl⟩;clear IT;go_wp2
   try rw[Exit.noGoto_ret]
   go_ret2;exact⟨_,rfl,World.ownsRow_nil _ _ _ _,O2.o⟩
  ·rw[if_neg (by omega)] at eD
   have IT:=Qa (λw2=>Vz (t:Int) w2 (by omega) (by omega))
   have RD:Hid (∀(R:Nat) (v2:Value) (w2:World),CurAt 112 w2 R v2 r->(∀k,v2.ownBlock=some k->k<w2.heap.size)->Calls prog 201 #[.pointer (some ⟨R,0,none⟩),.int .i64 n,.int .i64 t] w2 λe w'=>∃u,e=.returned (.tuple #[u,.int .i64 (READ r n t).2])∧w'.ownsRow w2.heap.size 3 1 u (READ r n t).1.length ((READ r n t).1.map (Value.int .i64))∧Only (λk=>k=R) w2 w') :=
    λR v2 w2 hc hv=>jp hc hv n t hn (by omega)
   have h9:Hid ((READ r n t).2=0->I64s (READ r n t).1∧(READ r n t).1.length=n):=λh0=>Lp (λz hz=>hr z (List.mem_cons_of_mem _ hz)) h0
   have ha:Hid ((READ r n t).2≠0->(READ r n t).1=[]):=λh0=>uj h0
   obtain⟨zs,h7⟩:=EX (((t:Int) :: r));obtain⟨N,hN⟩:=EX (((t:Int) :: r).length);rw[<-h7] at eD hp;rw[<-hN] at NW HB ⊢
   have HN:Hid (N=zs.length):=by simp only[Hid];rw[h7];exact hN
   have hh:Hid (Calls prog 39 #[Value.slice ao N cap] w λe w'=>∃R v',e=.returned (.pointer (some ⟨R,0,none⟩))∧CurAt 112 w' R v' ((t:Int) :: r)∧N0 w w'∧w.heap.size<=R∧R<w'.heap.size∧(∀k,v'.ownBlock=some k->w.heap.size<=k∧k<w'.heap.size)):=NW
   have HBZ:Hid (Bs .u8 w (.slice ao N cap) zs):=by simp only[Hid];rw[h7];exact HB.o
   rw[<-h7];generalize DEC8 zs n=DD at *;generalize READ r n t=RR at *;obtain⟨l,c⟩:=RR;simp only at RD h9 ha eD;clear hr hy hN h7 NW HB;go_enter func171,ntmps171;go_wp2_with fail;refine hh.o.mono ?_;rintro e w1 ⟨R,v1,rfl,h1,o1,he,hj,h5⟩;have BY:=Us h1;rw[Lj] at BY;have BY:=Qa BY;have O1:=Qa o1;have HV1:=Qa h5;clear hh h1 o1 h5;go_wp2_with fail;refine BY.o.mono ?_;rintro e w2 ⟨rfl,v2,h6,ho,o2⟩;have O2:=Qa (O1.o.trans o2 (λk hk e=>by omega));have RA:=Qa (RD.o R v2 w2 h6 (λk hk=>by rw[ho] at hk;have:=(HV1.o k hk).2;have:=o2.size;omega));clear BY o2 h6 ho RD;go_wp2_with fail;refine (IT.o w2).mono ?_;rintro e w3 ⟨rfl,rfl⟩;clear IT;go_wp2_with fail;refine RA.o.mono ?_;rintro e w3 ⟨u3,rfl,h4,o3⟩;have O3:=Qa (O2.o.trans o3 (λk hk e=>by omega));have h2:=Qa (Qr h4 O2.o.size);obtain⟨f3,c3,e3⟩:=(Bs.of_own h4).len;subst e3;clear RA h4 o3
   by_cases hc:c=0
   ·subst hc
    obtain⟨hg,hd⟩:=h9.o rfl;rw[if_neg (by simp)] at eD;have EN:=Ll _ l w3 (Bs.of_own h2.o) hg;have hf:=Qa (LC hg);have EN:=Qa EN;obtain⟨m,hm⟩:=EX l.length;rw[<-hm] at EN h2 ⊢;have HM:=Qa hm;generalize ENC8 l=E at *;obtain⟨E1,Ec⟩:=E;simp only at EN hf eD;have h8:=Qa eD;clear hg hd h9 ha eD hm;go_wp2_with fail;refine EN.o.mono ?_;rintro e w4 ⟨u4,rfl,h3,o4⟩;have O4:=Qa (O3.o.same o4);have hb:=Qa (o4.own h2.o (λ_ _ f=>f));have EQ:=Qa (UZ u4 (.slice ao N cap) E1 zs w4 (Bs.of_own h3) (HBZ.o.past O4.o) hf.o hp.o);obtain⟨f4,c4,e4⟩:=(Bs.of_own h3).len;subst e4;clear EN h3 o4
    by_cases heq:E1=zs
    case' pos =>
     rw[Qc heq] at EQ;rw[if_pos heq] at h8
    case' neg =>
     rw[Qh heq] at EQ;rw[if_neg heq] at h8
    all_goals
     have eE:=h8.o;subst eE;clear heq h8;generalize E1.length=e1 at *;go_wp2_with fail;refine EQ.o.mono ?_;rintro e w5 ⟨rfl,rfl⟩;clear EQ;go_wp2
     try rw[Exit.noGoto_ret]
     go_ret2
     first
     | exact⟨_,rfl,World.ownsRow_nil _ _ _ _,O4.o⟩
     | (refine⟨_,rfl,?_,O4.o⟩;simp only[<-HM.o];exact hb.o)
   ·have dc:(c != 0)=true:=by simp;exact hc
    rw[if_pos hc] at eD;subst eD;clear h9 ha h2;generalize l.length=m at *;go_wp2
    try rw[Exit.noGoto_ret]
    go_ret2;exact⟨_,rfl,World.ownsRow_nil _ _ _ _,O3.o⟩
theorem OJ (v:Value) (ys:LI) (n:Int) (w:World) (h:Bs .u8 w v ys) (hr:YX ys) (hl:ys.length<=1000000000000) :
 Calls prog 171 #[v,.int .i64 n] w λe w'=>∃u,e=.returned (.tuple #[u,.int .i64 (DEC8 ys n).2])∧w'.ownsRow w.heap.size 3 1 u (DEC8 ys n).1.length ((DEC8 ys n).1.map (Value.int .i64))∧N0 w w':=by
 by_cases hn:n<0∨65536<n
 ·have e:DEC8 ys n=([],1):=by unfold DEC8;rw[if_pos hn]
  rw[e];refine (wG v n w hn).mono ?_;rintro e w' ⟨rfl,rfl⟩;exact⟨_,rfl,World.ownsRow_nil _ _ _ _,Only.refl _ _⟩
 ·obtain⟨m,rfl⟩:=Int.eq_ofNat_of_zero_le (show 0<=n by omega)
  exact uG v ys m w h hr hl (by omega)
theorem and32 (n:Nat) (h:n<=65536):bits .and .u64 (n:Int) 4294967295=n:=by
 have:=bits_and_u64_nat n 4294967295 (by omega) (by omega);rw[show (4294967295:Nat)=2^32 - 1 by decide,Nat.and_two_pow_sub_one_eq_mod,Nat.mod_eq_of_lt (by omega)] at this;exact this
theorem zZ (n:Nat) (w:World) (h:n<=65536):Calls prog 271 #[.int .u64 1,.int .u64 n] w λe w'=>e=.returned (.tuple #[.int .u64 0,.int .u64 n])∧w=w':=by
 have e1:bits .and .u64 1 4294967295=1:=and32 1 (by omega);have e0:bits .and .u64 0 4294967295=0:=and32 0 (by omega);have e2:=and32 n h
 have e3:(n:Int) / 4294967296=0:=by omega
 have e4:IntKind.u64.wrap (n:Int)=n:=by rw[IntKind.wrap_u64];omega
 have e5:IntKind.u64.wrap 0=0:=by rw[IntKind.wrap_u64];rfl
 go_enter func271,ntmps271;go_wp2;go_ret2;exact⟨rfl,rfl⟩
theorem mul_one (n:Nat) (w:World) (h:n<=65536):Calls prog 253 #[.int .u64 1,.int .u64 n] w λe w'=>e=.returned (.tuple #[.int .u64 0,.int .u64 n])∧w=w':=by
 have A:=Qa (zZ n w h);clear h;go_enter func253,ntmps253;go_wp2_with fail;refine A.o.mono ?_;rintro e w1 ⟨rfl,rfl⟩;go_wp2;go_ret2;exact⟨rfl,rfl⟩
def fill (x:Int) (n k:Nat):List Value:=(List.replicate k x++List.replicate (n - k) 0).map (Value.int .u64)
theorem V9 (x:Int) {n k:Nat} (h:k<=n):(fill x n k).length=n:=by simp[fill];omega
theorem I1 (x:Int) (n:Nat):fill x n n=(List.replicate n x).map (Value.int .u64):=by simp[fill]
theorem Ca (x:Int) (n:Nat):fill x n 0=(madeCells #[Value.int .u64 0] (n*1)).toList:=by
 apply List.ext_getElem?
 intro i
 by_cases h:i<n
 ·simp[fill,madeCells,h,Nat.mod_one]
 ·simp[fill,madeCells,h]
theorem ND (x:Int) {n k m:Nat}:splice (fill x n k) k ((List.replicate m x).map (Value.int .u64))=fill x n (k+m):=by
 unfold splice fill
 rw[List.map_append,List.map_append,List.take_left' (by simp),List.drop_append,List.drop_of_length_le (by simp),List.length_map,List.length_replicate,List.length_map,List.length_replicate,
  <-List.map_drop,List.drop_replicate,List.nil_append,<-List.append_assoc,<-List.map_append,List.replicate_append_replicate,show k+m - k=m by omega,show n - k - m=n - (k+m) by omega]
theorem jE (x:Int) {n k j:Nat} (hj:j<k):(fill x n k)[j]? = some (.int .u64 x):=by
 unfold fill;rw[List.map_append,List.getElem?_append_left (by simp;exact hj)];simp[hj]
theorem Tn {N n:Nat} {x:Int} (hk:k<=n) (hn:n<=65536) (h:w.heap[N]? = some (.cells (fill x n k).toArray 23 (0,0))):w.ownsRow N 23 1 (.slice (some ⟨N,0,none⟩) n n) n (fill x n k) :=
 ⟨by rw[V9 x hk];omega,.inr ⟨N,n,_,rfl,Nat.le_refl _,h,Nat.le_refl _,by unfold maxLen;omega,by simp[V9 x hk],List.take_of_length_le (by rw[V9 x hk];omega)⟩⟩
theorem I7 {N n:Nat} {xs:List Value} (h:w.ownsRow N 23 1 (.slice (some ⟨N,0,none⟩) n n) n xs):w.heap[N]? = some (.cells xs.toArray 23 (0,0)):=by
 rcases h.2 with ⟨e,_⟩ | ⟨g,cap,cur,e,_,hg,_,_,hs,ht⟩
 ·cases e
 ·simp at e
  obtain⟨rfl,rfl⟩:=e;rw[List.take_of_length_le (by simp;omega)] at ht;rw[hg,<-ht]
theorem Fi (x:Int) (m:Nat):∀v∈(List.replicate m x).map (Value.int .u64),v.oneCell'=true:=Kz .u64 _
theorem uH (B:Nat) (x:Int) (n:Nat) (w:World) (hc:w.cell? ⟨B,0,none⟩=some (.int .u64 x)) (hn:n<=65536) :
 Calls prog 227 #[.slice (some ⟨B,0,none⟩) 1 1,.int .i64 n] w λe w'=>∃u,e=.returned u∧w'.ownsRow w.heap.size 23 1 u n ((List.replicate n x).map (Value.int .u64))∧N0 w w':=by
 obtain⟨i0,hi,hz0,hp,hz2⟩:=info_parts Tryz.infoU64
 have hb:(prog.info? 23).map (·.size)=some 1:=by rw[hi];simp[hp]
 obtain⟨wm,hmk,h3,he⟩:=run_make_full (P:=prog) w w.heap.size 161 23 i0 (.int .u64 0) 1 underlying161 hi hz0 hp .i64 .i64 n (by rw[hz2];omega) (by unfold maxLen;omega) (Nat.le_refl _);rw[show (Value.int .u64 0).cells=#[Value.int .u64 0] from rfl,<-Ca x] at h3;have h5:=Qa (I7 h3);have om:N0 w wm:=(Only.refl _ _).grown he (λ_ _ e=>by cases e);have hd:Below w.heap.size w wm:=om.low (Nat.le_refl _);have h9:=Qa hd;have hh:wm.cell? ⟨B,0,none⟩=some (.int .u64 x):=(hd.cell (p:=⟨B,0,none⟩) (World.block_lt_of_cell? w _ hc)).trans hc;have M:=Qa (mul_one n w hn);obtain⟨N,hN⟩:=EX w.heap.size;rw[<-hN] at hmk h5 h9;rw[<-hN];have HN:=Qa hN;have HCM:=Qa hh
 have d0:decide ((n:Int)<0)=false:=by simp
 have d2:decide ((9223372036854775807:Int)<(n:Int))=false:=Qh (by omega);clear hN h3 he om hd hh;go_enter func227,ntmps227;go_wp2_with fail;refine M.o.mono ?_;rintro e w1 ⟨rfl,rfl⟩;clear M;obtain⟨k0,h4⟩:=EX (Nat.min 1 n)
 have hg:k0<=n∧(k0=0->n=0):=by rw[h4];have:Nat.min 1 n=min 1 n:=rfl;omega
 have HCP:∃w3,(Builtin.copy_ #[161,161] 3 #[.slice (some ⟨N,0,none⟩) n n,.slice (some ⟨B,0,none⟩) 1 1]).run prog wm=.ok (.int .i64 k0) w3∧w3.heap[N]? = some (.cells (fill x n k0).toArray 23 (0,0))∧Below N w w3:=by
  by_cases h0:n=0
  ·subst h0
   obtain rfl:k0=0:=by omega
   exact⟨wm,run_copy_none (P:=prog) wm 161 161 3 23 _ _ 0 0 1 1 underlying161 hb rfl,h5.o,h9.o⟩
  ·obtain rfl:k0=1:=by rw[h4];have:Nat.min 1 n=min 1 n:=rfl;omega
   have h8:=run_copy_row (P:=prog) wm 161 161 3 23 N 0 n n ⟨B,0,none⟩ 1 1 (fill x n 0).toArray 23 [.int .u64 x] underlying161 hb h5.o h4
    (λj v hv=>by
     rcases j with _ | j
     ·simp at hv;subst hv;exact HCM.o
     ·simp at hv) (by simp[V9];omega) (by intro v hv;simp at hv;subst hv;rfl)
   refine⟨_,h8,?_,below_setRow h9.o (Nat.le_refl _) _⟩;rw[setRow_heap wm N _ _ 23 _ h5.o];have:=ND x (n:=n) (k:=0) (m:=1);simp only[splice,List.replicate_one,List.map_cons,List.map_nil] at this;rw[<-this];simp
 obtain⟨w3,hcp,hl,hq⟩:=HCP;have h2:=Qa (And.intro hg (And.intro hl hq));clear h4 hg hc hl hq;go_wp2
 go_loopw [8] (λi wr=>∃k:Nat,(k<=n∧(k=0->n=0))∧i=.int .i64 k∧Hid (wr.heap[N]? = some (.cells (fill x n k).toArray 23 (0,0))∧Below N w wr)) (λi _=>n - (intOf i).toNat)
 case atStart=>exact⟨k0,h2.o.1,rfl,h2.o.2⟩
 case round =>
  obtain⟨k,⟨hk,h4⟩,rfl,HR⟩:=hrel;clear h2 hcp
  by_cases hlt:k<n
  ·have dlt:decide ((k:Int)<(n:Int))=true:=by simp;omega
   have hkp:0<k:=by
    rcases Nat.eq_zero_or_pos k with h | h
    ·have:=h4 h;omega
    ·exact h
   have b1:(k:Int)<=(n:Int):=by omega
   obtain⟨m,hm⟩:=EX (Nat.min k (n - k))
   have ho:0<m∧k+m<=n∧m<=k:=by rw[hm];have:Nat.min k (n - k)=min k (n - k):=rfl;omega
   have HL:Hid (((List.replicate m x).map (Value.int .u64)).length=Nat.min k (n - k)):=by simp only[Hid];rw[List.length_map,List.length_replicate,hm]
   have HP:Hid (∀j v,((List.replicate m x).map (Value.int .u64))[j]? = some v->wr.drew.cell? ((⟨N,0,none⟩:Addr).add j)=some v):=by
    intro j v hv;have hj:=(List.getElem?_eq_some_iff.1 hv).1;rw[List.length_map,List.length_replicate] at hj
    have e:v=.int .u64 x:=by
     have:=List.mem_of_getElem? hv;simp at this;exact this.2
    have ha:(⟨N,0,none⟩:Addr).add j=⟨N,j,none⟩:=by unfold Addr.add;split <;> simp_all
    rw[ha,e,World.cell?_drew];have h1:=(Tn (k:=k) (x:=x) hk hn HR.o.1).cellAt j (by omega);rw[h1,jE x (by omega)]
   have HF:Hid (k+((List.replicate m x).map (Value.int .u64)).length<=(fill x n k).length):=by simp only[Hid];rw[V9 x hk,List.length_map,List.length_replicate];omega
   have HS:Hid (splice (fill x n k) k ((List.replicate m x).map (Value.int .u64))=fill x n (k+m)):=ND x
   have h6:Hid (((List.replicate m x).map (Value.int .u64)).length=m):=by simp only[Hid];rw[List.length_map,List.length_replicate]
   have h7:=Qa (Fi x m);obtain⟨CS,hf⟩:=EX ((List.replicate m x).map (Value.int .u64));rw[<-hf] at HL HP HF HS h6 h7;have HM:=Qa ho
   have hnk:¬n=k:=by omega
   clear hm ho hf h4;go_wp2_with fail
   go_region_law (refine step_copy_splice rfl (.tmp 41) (.tmp 44) 161 161 rfl 23 underlying161 hb (some ⟨N,k,none⟩) (some ⟨N,0,none⟩) (n - k) (n - k) k n (by kernel_rfl) (by kernel_rfl) N k (fill x n k) 23 HR.o.1 CS HL.o (λ_=>⟨rfl,_,rfl,HP.o⟩) HF.o h7.o N w HR.o.2.drew (Nat.le_refl _) ?_;intro w4 HG4 hB4)
   have hCL:k+CS.length<=n∧0<CS.length:=by rw[h6.o];have:=HM.o;omega
   have HR4:Hid (w4.heap[N]? = some (.cells (fill x n (k+CS.length)).toArray 23 (0,0))∧Below N w w4):=by
    simp only[Hid];rw[h6.o,<-HS.o];exact⟨HG4.o,hB4⟩
   clear HG4 hB4 HR HP HL HF HS h6 h7 HM
   have hwr:IntKind.i64.wrap ((k:Int)+(CS.length:Int))=(k:Int)+(CS.length:Int):=by rw[IntKind.wrap_i64];omega
   go_simp
   go_wp2
   go_roundw
   case rel=>exact⟨k+CS.length,⟨by omega,by omega⟩,by go_num,HR4⟩
   case measure=>simp[intOf];omega
  ·obtain rfl:k=n:=by omega
   have dlt:decide ((k:Int)<(k:Int))=false:=by simp
   have OW:=Qa (Tn (Nat.le_refl _) hn HR.o.1);rw[I1] at OW;have HO:=Qa (YU (HN.o▸HR.o.2));clear HR;go_wp2;go_ret;exact⟨_,rfl,OW.o,HO.o⟩
section
open Go.Maps
theorem PD {o:Obj} (h:w.heap[k]? = some o):k<w.heap.size:=(Array.getElem?_eq_some_iff.1 h).1
theorem px (h:CurAt 112 w R v ys) (N:Nat) {a:Int} {k:Nat} {c:Int} (hs:Qe ys=(a,k,c)) (hc:c≠0) :
 Calls prog 272 #[.pointer (some ⟨R,0,none⟩),.int .i64 N] w λe w'=>e=.returned (.tuple #[.slice none 0 0,.int .i64 c])∧Only (λk=>k=R) w w':=by
 have VC:=Qa (YO h);rw[hs] at VC
 have dc:(c != 0)=true:=by simpa using hc
 clear h hs hc;go_enter func272,ntmps272;go_wp2_with fail;refine VC.o.mono ?_;rintro e w1 ⟨rfl,v2,_,_,o2⟩;have O2:=Qa o2;clear o2 VC;go_wp2;go_ret2;exact⟨rfl,O2.o⟩
theorem CV (h:CurAt 112 w R v ys) (N:Nat) {a k:Nat} (hs:Qe ys=((a:Int),k,0)) (hN:N<=65536) (hc:N<a) :
 Calls prog 272 #[.pointer (some ⟨R,0,none⟩),.int .i64 N] w λe w'=>e=.returned (.tuple #[.slice none 0 0,.int .i64 3])∧Only (λk=>k=R) w w':=by
 have VC:=Qa (YO h);rw[hs] at VC
 have dc:decide ((N:Int)<(a:Int))=true:=by simp;omega
 have dn:N<a:=hc;clear h hs hc;go_enter func272,ntmps272;go_wp2_with fail;refine VC.o.mono ?_;rintro e w1 ⟨rfl,v2,_,_,o2⟩;have O2:=Qa o2;clear o2 VC;go_wp2;go_ret2;exact⟨rfl,O2.o⟩
theorem jk (h:CurAt 112 w R v ys) (hv:∀k,v.ownBlock=some k->k<w.heap.size) (N:Nat) {a q:Nat} (hs:Qe ys=((a:Int),q,0)) (hN:N<=65536) (hc:a<=N) (rest:LI) (hrest:rest=ys.drop q) :
 Calls prog 272 #[.pointer (some ⟨R,0,none⟩),.int .i64 N] w λe w' =>
  (Hid (rest.length<8*a)∧e=.returned (.tuple #[.slice none 0 0,.int .i64 2])∧Only (λk=>k=R) w w') ∨
  (Hid (8*a<=rest.length)∧∃u v2,e=.returned (.tuple #[u,.int .i64 0])∧w'.ownsRow w.heap.size 23 1 u a ((rd8 a rest).map (Value.int .u64))∧CurAt 112 w' R v2 (rest.drop (8*a))∧v2.ownBlock=v.ownBlock∧Only (λk=>k=R) w w'):=by
 obtain⟨i0,hi,hz0,hz1,hz2⟩:=info_parts Tryz.infoU64;have VC:=Qa (YO h);rw[hs] at VC;simp only at VC;rw[<-hrest] at VC;have HR:=Qa (PD h.cell);have HV:=Qa hv
 have dc:decide ((N:Int)<(a:Int))=false:=by simp;omega
 have dn:decide (N<a)=false:=Qh (by omega);clear h hs hrest hv;go_enter func272,ntmps272;go_wp2_with fail;refine VC.o.mono ?_;rintro e w1 ⟨rfl,v1,ho,hn,o1⟩;have C1:Hid (CurAt 112 w1 R v1 (rest.drop (8*0))):=ho;have hp:=Qa hn;have O1:=Qa o1;clear ho hn o1 VC;go_wp2
 go_loopw [8,24] (λs i wr=>∃j:Nat,j<=a∧i=.int .u64 j∧Hid (8*j<=rest.length)∧wr.ownsRow w.heap.size 23 1 s j ((rd8 j rest).map (Value.int .u64))∧∃v2,CurAt 112 wr R v2 (rest.drop (8*j))∧v2.ownBlock=v.ownBlock∧Only (λk=>k=R) w wr) (λ_ i _=>a - (intOf i).toNat)
 case atStart=>exact⟨0,Nat.zero_le _,rfl,by simp[Hid],World.ownsRow_nil _ _ _ _,v1,C1.o,hp.o,O1.o⟩
 case round =>
  clear C1 hp O1;obtain⟨j,hj,rfl,HJ,h6,v2,h4,h7,h9⟩:=hrel
  by_cases hlt:j<a
  ·have dlt:decide ((j:Int)<(a:Int))=true:=by simp;omega
   have FC:=Qa (Ke h4 8);have hb:=Qa h7;have ha:=Qa h9;have h0:=Qa h6
   by_cases h8:rest.length<8*j+8
   ·have e1:QW 8 (rest.drop (8*j))=(0,0,2):=by
     unfold QW;rw[if_neg (by omega),if_pos (by rw[Qm];omega)]
    rw[e1] at FC;have HS:Hid (rest.length<8*a):=(by omega:rest.length<8*a);clear e1 h8 h4 h7 h9 h6;go_wp2_with fail;refine FC.o.mono ?_;rintro e w4 ⟨rfl,v4,_,_,o4⟩;have O4:=Qa (ha.o.trans o4 (λ_ _ f=>f));clear o4 FC;go_wp2;go_ret2;exact .inl ⟨HS,rfl,O4.o⟩
   ·have e1:QW 8 (rest.drop (8*j))=(((num ((rest.drop (8*j)).take 8):Nat):Int),8,0):=by
     unfold QW;rw[if_neg (by omega),if_neg (by rw[Qm];omega)];rfl
    rw[e1] at FC;simp only[List.drop_drop] at FC;have HJ2:Hid (8*(j+1)<=rest.length):=(by omega:8*(j+1)<=rest.length);have hm:=Qa (Gh j rest)
    have hxl:num ((rest.drop (8*j)).take 8)<18446744073709551616:=by
     have h1:=Wv ((rest.drop (8*j)).take 8) (λy hy=>h4.rng y (List.mem_of_mem_take hy));have h2:(256:Nat)^((rest.drop (8*j)).take 8).length<=256^8:=Nat.pow_le_pow_right (by omega) (by rw[Qg];omega)
     have h3:(256:Nat)^8=18446744073709551616:=by decide
     omega
    rw[show 8*j+8=8*(j+1) by omega] at FC;generalize num ((rest.drop (8*j)).take 8)=x at *;obtain⟨d,hd⟩:=EX (rd8 j rest)
    have hf:d.length=j:=by rw[hd,Wo]
    rw[<-hd] at h0 hm
    obtain⟨a6,c6,e6⟩:∃a6 c6,u8=.slice a6 j c6:=by
     have:=(Bs.of_own (k:=.u64) (xs:=d) (by rw[hf];exact h0.o)).len;rw[hf] at this;exact this
    subst e6;clear e1 h8 h4 h7 h9 h6 hd hf;go_wp2_with fail;refine FC.o.mono ?_;rintro e w4 ⟨rfl,v4,hg,hl,o4⟩;have h5:=o4.own h0.o (λk hk f=>by have:=(h0.o.lt k hk).1;have:=HR.o;omega);have C4:=Qa hg;have hh:=Qa (hl.trans hb.o);have O4:=Qa (ha.o.trans o4 (λ_ _ f=>f));clear FC hg hl o4 h0 ha hb;have s4:w.heap.size<=w4.heap.size:=O4.o.size;go_wp2_with (at_builtin;refine wpList_append_own _ rfl _ _ 161 rfl w.heap.size 23 i0 (.int .u64 0) 1 8 underlying161 hi hz0 hz1 hz2 rfl (by decide) _ j _ rfl (h5.alloc _) ⟨w4.heap.size,0,none⟩ 1 1 [.int .u64 (x:Int)] rfl rfl (cell_one_new _ _ _) (ints_oneCell .u64 [(x:Int)]) (by unfold maxLen;omega) (by omega) (by simp;omega) ?_;intro v' w6 hown' hgrow2 hnil2)
    have OW6:Hid (w6.ownsRow w.heap.size 23 1 v' (j+1) ((rd8 (j+1) rest).map (Value.int .u64))):=by
     simp only[Hid];rw[hm.o,List.map_append];exact hown'
    have ONA:Only (λk=>k=R) w4 (w4.alloc (.cells #[.int .u64 (x:Int)] 23)):=(Only.refl _ _).alloc _;have he:Only (λk=>(Value.slice a6 j c6).ownBlock=some k) w4 w6:=((Only.refl _ w4).alloc _).grown hgrow2 (λk hk e=>e);have O6:=Qa (O4.o.trans he (λi hi f=>absurd (h5.lt i f).1 (by omega)))
    have C6:=Qa (C4.o.keep he (λf=>by have:=(h5.lt R f).1;have:=HR.o;omega) (λk hk f=>by
     rw[hh.o] at hk
     have:=HV.o k hk;have:=(h5.lt k f).1;omega))
    clear hown' hgrow2 hnil2 h5 ONA he C4 O4;go_wp2
    go_roundw
    case rel=>exact⟨j+1,by omega,by go_num,HJ2,OW6.o,v4,C6.o,hh.o,O6.o⟩
    case measure=>simp[intOf];omega
  ·obtain rfl:j=a:=by omega
   have dlt:decide ((j:Int)<(j:Int))=false:=by simp
   have hb:=Qa h7;have ha:=Qa h9;have h0:=Qa h6;have HC:=Qa h4;clear h6 h4 h7 h9;go_wp2;go_ret2;exact .inr ⟨HJ,_,v2,rfl,h0.o,HC.o,hb.o,ha.o⟩
end
section
open Go.Maps
theorem Nc (w:Nat):∀(n j:Nat) (k:List Bool),j<=n->(rdP w n k).take j=rdP w j k
 | n,0,k,_=>by simp[rdP]
 | 0,j+1,k,h=>by omega
 | n+1,j+1,k,h=>by rw[rdP,rdP,List.take_succ_cons,Nc w n j _ (by omega)]
theorem yM (w n j:Nat) (k:List Bool) (h:j<n):bnum ((k.drop (j*w)).take w)∈rdP w n k:=by
 refine List.mem_of_mem_take (i:=j+1) ?_;rw[Nc w n (j+1) k h,Xr];simp
def pt (D:LI) (w:Nat) (b:List Bool) (n k:Nat):LI:=((rdP w k b).map λp=>D.getD p 0)++List.replicate (n - k) 0
theorem Pv (D:LI) (w:Nat) (b:List Bool) (n k:Nat) (h:k<=n):(pt D w b n k).length=n:=by
 unfold pt;rw[Qb,List.length_map,VJ,List.length_replicate];omega
theorem Cp (D:LI) (w:Nat) (b:List Bool) (n:Nat):(pt D w b n 0).map (Value.int .u64)=(madeCells #[Value.int .u64 0] (n*1)).toList:=by
 apply List.ext_getElem?
 intro i
 by_cases h:i<n
 ·simp[pt,rdP,madeCells,h,Nat.mod_one]
 ·simp[pt,rdP,madeCells,h]
theorem vQ (D:LI) (w:Nat) (b:List Bool) (n:Nat):pt D w b n n=(rdP w n b).map λp=>D.getD p 0:=by simp[pt]
theorem Ij (D:LI) (w:Nat) (b:List Bool) (n k:Nat) (h:k<n):(pt D w b n k).set k (D.getD (bnum ((b.drop (k*w)).take w)) 0)=pt D w b n (k+1):=by
 unfold pt
 have h0:((rdP w k b).map λp=>D.getD p 0).length=k:=by rw[List.length_map,VJ]
 rw[show n - k=(n - (k+1))+1 by omega,List.replicate_succ,List.set_append_right _ _ (by omega),h0,Nat.sub_self,Qn,Xr,List.map_append,List.append_assoc]
 rfl
def RB (many n:Nat) (rest:LI):LI × Int :=
 if rest.length<8*many then ([],2) else
 if (Qf (rest.drop (8*many))).length<n*wP many then ([],2) else
 if ∃p∈rdP (wP many) n (Qf (rest.drop (8*many))),many<=p then ([],3) else
 ((rdP (wP many) n (Qf (rest.drop (8*many)))).map (λp=>(rd8 many rest).getD p 0),0)
def RD10 (ys:LI) (n:Nat):LI × Int :=
 if (Qe ys).2.2≠0 then ([],(Qe ys).2.2) else
 if (n:Int)<(Qe ys).1 then ([],3) else RB (Qe ys).1.toNat n (ys.drop (Qe ys).2.1)
theorem xQ (many n:Nat) (rest b:LI):DECB many n rest b=if (RB many n rest).2≠0 then ([],(RB many n rest).2) else if (ENC10 (RB many n rest).1).1=b then ((RB many n rest).1,0) else ([],3):=by
 unfold DECB RB
 by_cases c1:rest.length<8*many
 ·simp only[if_pos c1];rfl
 ·by_cases c2:(Qf (rest.drop (8*many))).length<n*wP many
  ·simp only[if_neg c1,if_pos c2];rfl
  ·by_cases c3:∃p∈rdP (wP many) n (Qf (rest.drop (8*many))),many<=p
   ·simp only[if_neg c1,if_neg c2,if_pos c3];rfl
   ·simp only[if_neg c1,if_neg c2,if_neg c3];rfl
theorem kK (ys:LI) (n:Nat) (hn:n<=65536):DEC10 ys n=if (RD10 ys n).2≠0 then ([],(RD10 ys n).2) else if (ENC10 (RD10 ys n).1).1=ys then ((RD10 ys n).1,0) else ([],3):=by
 unfold DEC10 RD10;rw[if_neg (by omega),Int.toNat_natCast]
 by_cases c1:(Qe ys).2.2≠0
 ·simp only[if_pos c1]
 ·by_cases c2:(n:Int)<(Qe ys).1
  ·simp only[if_neg c1,if_pos c2];rfl
  ·simp only[if_neg c1,if_neg c2];exact xQ _ _ _ _
theorem g6 {many n:Nat} {rest:LI} (hr:∀y∈rest,0<=y∧y<=255):U64 (RB many n rest).1:=by
 unfold RB
 by_cases c1:rest.length<8*many
 ·rw[if_pos c1];intro x hx;simp at hx
 ·rw[if_neg c1]
  by_cases c2:(Qf (rest.drop (8*many))).length<n*wP many
  ·rw[if_pos c2];intro x hx;simp at hx
  ·rw[if_neg c2]
   by_cases c3:∃p∈rdP (wP many) n (Qf (rest.drop (8*many))),many<=p
   ·rw[if_pos c3];intro x hx;simp at hx
   ·rw[if_neg c3]
    intro x hx;obtain⟨p,hp,rfl⟩:=List.mem_map.1 hx
    have hpm:p<many:=by
     rcases Nat.lt_or_ge p many with e | e
     ·exact e
     ·exact absurd ⟨p,hp,e⟩ c3
    have h0:p<(rd8 many rest).length:=by rw[Wo];exact hpm
    refine KT many rest hr _ ?_;rw[Qd,Qi h0];exact List.getElem_mem h0
theorem qZ (hr:∀y∈ys,0<=y∧y<=255):U64 (RD10 ys n).1:=by
 unfold RD10
 by_cases c1:(Qe ys).2.2≠0
 ·rw[if_pos c1];intro x hx;simp at hx
 ·rw[if_neg c1]
  by_cases c2:(n:Int)<(Qe ys).1
  ·rw[if_pos c2];intro x hx;simp at hx
  ·rw[if_neg c2];exact g6 (λy hy=>hr y (List.mem_of_mem_drop hy))
theorem jX (ys:LI):Q8 (ys.length:Int) ys=(ys,ys.length,0):=by
 unfold Q8;rw[if_neg (by omega),if_neg (by omega),Int.toNat_natCast,List.take_length]
theorem Bd (h:CurAt 112 w R v ys) (hv:∀k,v.ownBlock=some k->k<w.heap.size) (n:Nat) {a j:Nat} (hs:Qe ys=((a:Int),j,0)) (hn:n<=65536) (ha:a<=n) (rest:LI) (hrest:rest=ys.drop j) :
 Calls prog 254 #[.pointer (some ⟨R,0,none⟩),.int .i64 n] w λe w'=>∃u,e=.returned (.tuple #[u,.int .i64 (RB a n rest).2])∧w'.ownsRow w.heap.size 23 1 u (RB a n rest).1.length ((RB a n rest).1.map (Value.int .u64))∧Only (λk=>k=R) w w':=by
 have RD:=Qa (jk h hv n hs hn ha rest hrest)
 have k6:∀y∈rest,0<=y∧y<=255:=λy hy=>h.rng y (by rw[hrest] at hy;exact List.mem_of_mem_drop hy)
 have hu:Hid (∀y∈rest.drop (8*a),0<=y∧y<=255):=λy hy=>k6 y (List.mem_of_mem_drop hy)
 have hm:Hid ((rest.drop (8*a)).length<=1000000000000):=by
  simp only[Hid];have:=h.len;rw[hrest,Qm,Qm];omega
 have HR:=Qa (PD h.cell);have HDU:=Qa (KT a rest k6);obtain⟨E,hE⟩:=EX (RB a n rest);rw[<-hE];have HE:=Qa hE;clear h hv hs hrest k6 hE;go_enter func254,ntmps254;go_wp2_with fail;refine RD.o.mono ?_;rintro e w1 (⟨HS,rfl,o1⟩ | ⟨HS,u,v2,rfl,h8,k2,ob1,o1⟩)
 ·have hf:Hid (E=([],2)):=by simp only[Hid];rw[HE.o];unfold RB;rw[if_pos HS.o]
  have O1:=Qa o1;clear o1 RD HE;go_wp2;go_ret2;have hE:=hf.o;subst hE;exact⟨_,rfl,World.ownsRow_nil _ _ _ _,O1.o⟩
 ·obtain⟨D,hD⟩:=EX (rd8 a rest)
  obtain⟨r,hr⟩:=EX (rest.drop (8*a))
  have k1:D.length=a:=by rw[hD,Wo]
  have hf:Hid (E=if (Qf r).length<n*wP a then ([],2) else if ∃p∈rdP (wP a) n (Qf r),a<=p then ([],3) else ((rdP (wP a) n (Qf r)).map (λp=>D.getD p 0),0)):=by
   simp only[Hid];rw[HE.o];unfold RB;have:=HS.o;rw[if_neg (by omega),<-hr,<-hD]
  rw[<-hD] at h8 HDU;rw[<-hr] at k2 hu hm
  obtain⟨a6,c6,e6⟩:∃a6 c6,u=.slice a6 a c6:=by
   have:=(Bs.of_own (k:=.u64) (xs:=D) (by rw[k1];exact h8)).len;rw[k1] at this;exact this
  subst e6;have kj:=Qa h8;have O1:=Qa o1;have kf:=Qa k1;have C:=Qa (Vu k2);have B:=Qa (Wt k2 r.length);rw[jX] at B
  have VB:Hid (∀k,(Value.slice a6 a c6).ownBlock=some k->w.heap.size<=k∧k<w1.heap.size):=λk hk=>h8.lt k hk
  obtain⟨q,hq⟩:=EX (wP a)
  have k7:q<=16:=by rw[hq];exact wP_le (by omega)
  rw[<-hq] at hf;have HQ:=Qa hq;obtain⟨rl,k8⟩:=EX r.length;rw[<-k8] at C B hm;have ho:=Qa k8;have rl0:rl<=1000000000000:=hm.o;clear h8 o1 RD hD k1 hr k2 ob1 HE k8 hq;go_wp2_with fail;refine C.o.mono ?_;rintro e w1' ⟨rfl,rfl⟩;clear C;go_wp2_with fail;refine B.o.mono ?_;rintro e w2 ⟨v3,rfl,b3,_,_,v4,_,_,o2⟩;have EN:=Qa (XQ v3 r w2 b3 hu.o (by rw[<-ho.o];exact rl0));have O2:=Qa (O1.o.trans o2 (λ_ _ e=>e));have kl:=Qa (o2.own kj.o (λk hk f=>by have:=(VB.o k hk).1;have:=HR.o;omega));have S2:=Qa o2.size;obtain⟨a3,c3,e3⟩:=b3.len;subst e3;rw[<-ho.o] at EN ⊢;clear B o2 b3;go_wp2_with fail;refine EN.o.mono ?_;rintro e w3 ⟨R4,v5,rfl,r4,o3,g1,g2,g3⟩;have PW:=Qa (Ah a w3 (by omega));rw[<-HQ.o] at PW;have F:=Qa (VI r4);rw[<-ho.o] at F;have O3:=Qa (O2.o.trans o3 (λ_ _ f=>f.elim));have ki:=Qa (o3.own kl.o (λ_ _ f=>f));have kd:=Qa r4;have S3:=Qa o3.size;have G:=Qa (And.intro g1 (And.intro g2 g3));clear EN o3 r4 g1 g2 g3;go_wp2_with fail;refine PW.o.mono ?_;rintro e w3' ⟨rfl,rfl⟩;clear PW;go_wp2_with fail;refine F.o.mono ?_;rintro e w5 ⟨rfl,o5⟩;have O5:=Qa (O3.o.trans o5 (λ_ _ f=>f.elim));have R5:=Qa (kd.o.keep o5 (λf=>f) (λ_ _ f=>f));have kk:=Qa (o5.own ki.o (λ_ _ f=>f));have S5:=Qa o5.size;clear F o5;have kg:n*q<=65536*16:=Nat.mul_le_mul hn k7
  have hd:Hid (((n:Int)*(q:Int))=((n*q:Nat):Int)):=by simp only[Hid];simp
  have m0:0<=(n:Int)*(q:Int):=by rw[hd.o];omega
  have m1:(n:Int)*(q:Int)<=1048576:=by rw[hd.o];omega
  have hw:=WU r;rw[<-ho.o] at hw
  by_cases hsh:8*rl<n*q
  ·have h4:=hf.o
   rw[if_pos (by rw[hw];exact hsh)] at h4;have h4:=Qa h4
   have d2:decide (8*(rl:Int)<(n:Int)*(q:Int))=true:=by rw[hd.o];simp only[decide_eq_true_eq];omega
   clear hsh hw kg hf;go_wp2;go_ret2;have hE:=h4.o;subst hE;exact⟨_,rfl,World.ownsRow_nil _ _ _ _,O5.o⟩
  ·have h4:=hf.o
   rw[if_neg (by rw[hw];exact hsh)] at h4;have h4:=Qa h4
   have d2:decide (8*(rl:Int)<(n:Int)*(q:Int))=false:=by rw[hd.o];simp only[decide_eq_false_iff_not];omega
   have HSH:=Qa hsh;obtain⟨i0,hi,hz0,hz1,hz2⟩:=info_parts Tryz.infoU64;obtain⟨wm,km,h7,kh⟩:=run_make_full (P:=prog) w5 w5.heap.size 161 23 i0 (.int .u64 0) 1 underlying161 hi hz0 hz1 .i64 .i64 n (by rw[hz2];omega) (by unfold maxLen;omega) (Nat.le_refl _);rw[show (Value.int .u64 0).cells=#[Value.int .u64 0] from rfl,<-Cp D q (Qf r) n] at h7;have om:N0 w5 wm:=(Only.refl _ _).grown kh (λ_ _ e=>by cases e)
   have G2:Hid (R4<w5.heap.size∧(∀k,v5.ownBlock=some k->k<w5.heap.size)∧w.heap.size<=w5.heap.size∧w.heap.size<=R4∧(∀k,(Value.slice a6 a c6).ownBlock=some k->k<w5.heap.size∧k≠R4)):=by
    have g:=G.o;have s5:=S5.o;have s2:=S2.o;have s1:=O1.o.size;have s3:=S3.o;exact⟨by omega,λk hk=>by have:=(g.2.2 k hk).2;omega,O5.o.size,by have:=O2.o.size;omega,λk hk=>by have:=(VB.o k hk).2;omega⟩
   have h5:Hid (RdAt 311 wm R4 v5 r (0*q)∧wm.ownsRow w5.heap.size 23 1 (.slice (some ⟨w5.heap.size,0,none⟩) n n) n ((pt D q (Qf r) n 0).map (Value.int .u64))∧Only (λj=>j=R) w wm∧wm.ownsRow w.heap.size 23 1 (.slice a6 a c6) a (D.map (Value.int .u64))∧(∀p∈rdP q 0 (Qf r),p<a)) :=
    ⟨by rw[Nat.zero_mul];exact R5.o.keep om (λf=>f) (λ_ _ f=>f),h7,O5.o.trans om (λ_ _ f=>f.elim),om.own kk.o (λ_ _ f=>f),λp hp=>by simp[rdP] at hp⟩
   obtain⟨N,hN⟩:=EX w5.heap.size;rw[<-hN] at km h5 G2;clear hsh h7 kh om R5 kd G S5 O3 O2 O1 hN kk ki kl kj kg VB hf hw;go_wp2
   go_loopw [47] (λi wr=>∃k:Nat,k<=n∧i=.int .i64 k∧RdAt 311 wr R4 v5 r (k*q)∧wr.ownsRow N 23 1 (.slice (some ⟨N,0,none⟩) n n) n ((pt D q (Qf r) n k).map (Value.int .u64))∧Only (λj=>j=R) w wr∧wr.ownsRow w.heap.size 23 1 (.slice a6 a c6) a (D.map (Value.int .u64))∧(∀p∈rdP q k (Qf r),p<a)) (λi _=>n - (intOf i).toNat)
   case atStart=>exact⟨0,Nat.zero_le _,rfl,h5.o⟩
   case round =>
    obtain⟨k,hk,rfl,k5,hg,k3,hl,k0⟩:=hrel;clear h5 km;have hh:=Qa hg;have k4:=Qa k3;have kc:=Qa k0;have ht:=Qa hl
    by_cases hlt:k<n
    ·have hkq:k*q+q<=8*r.length:=by
      have h1:(k+1)*q<=n*q:=Nat.mul_le_mul_right q (by omega);rw[Nat.add_mul,Nat.one_mul] at h1;have:=HSH.o;have:=ho.o;omega
     have GT:=Gc k5 (q:Int) (by omega) (by omega) (by omega);rw[Int.toNat_natCast] at GT;have GT:=Qa GT
     have hx:Hid (bnum (((Qf r).drop (k*q)).take q)<18446744073709551616):=by
      have h1:=Wi (((Qf r).drop (k*q)).take q);have h2:2^(((Qf r).drop (k*q)).take q).length<=2^64:=Nat.pow_le_pow_right (by omega) (by rw[Qg];omega)
      have h3:(2:Nat)^64=18446744073709551616:=by decide
      simp only[Hid];omega
     have dlt:decide ((k:Int)<(n:Int))=true:=by simp;omega
     have kb:=Qa (yM q n k (Qf r) hlt);have ke:=Qa (Xr q k (Qf r));have h0:=Ij D q (Qf r) n k hlt;clear k5 hkq hg k3 k0 hl;generalize bnum (((Qf r).drop (k*q)).take q)=x at *;go_wp2_with fail;refine GT.o.mono ?_;rintro e w6 ⟨rfl,r6,o6⟩
     have h6:=o6.own hh.o (λj hj=>by
      have e1:j=N:=by simp[Value.ownBlock] at hj;exact hj.symm
      have:=G2.o.1
      omega)
     have h9:=o6.own ht.o (λj hj f=>(G2.o.2.2.2.2 j hj).2 f);have O6:=Qa (k4.o.trans o6 (λi hi e=>by have:=G2.o.2.2.2.1;omega));have R6:=Qa r6;have hxx:=hx.o
     by_cases hxa:a<=x
     ·have he:=h4.o
      rw[if_pos ⟨x,kb.o,hxa⟩] at he;have he:=Qa he
      have da:decide ((a:Int)<=(x:Int))=true:=by simp;omega
      have db:decide (a<=x)=true:=Qc hxa;clear GT h6 h9 r6 o6 hxx hx h4 h0;go_wp2;go_ret2;have hE:=he.o;subst hE;exact⟨_,rfl,World.ownsRow_nil _ _ _ _,O6.o⟩
     ·have da:decide ((a:Int)<=(x:Int))=false:=by simp;omega
      have db:decide (a<=x)=false:=Qh hxa
      have ck:w6.cell? ⟨N,k,none⟩=some (.int .u64 ((pt D q (Qf r) n k).getD k 0)):=by
       rw[h6.cellAt k (by omega),List.getElem?_map,Qi (by rw[Pv _ _ _ _ _ hk];exact hlt),Qd,Qi (by rw[Pv _ _ _ _ _ hk];exact hlt)]
       rfl
      have fk:w6.frozen? ⟨N,k,none⟩=false:=h6.frozenAt _;obtain⟨b7,o7,c7,e7,hc7⟩:=(Bs.of_own (k:=.u64) (xs:=D) (by rw[kf.o];exact h9)).at x (by rw[kf.o];omega)
      have ea:a6=some ⟨b7,o7,none⟩:=by simp at e7;exact e7.1
      subst ea;have HB7:=Qa (G2.o.2.2.2.2 b7 rfl)
      have h0:Hid (((pt D q (Qf r) n k).map (Value.int .u64)).set k (.int .u64 (D.getD x 0))=(pt D q (Qf r) n (k+1)).map (Value.int .u64)):=by
       simp only[Hid];rw[<-List.map_set,h0]
      have PL2:Hid (∀p∈rdP q (k+1) (Qf r),p<a):=by
       intro p hp;rw[ke.o,List.mem_append] at hp
       rcases hp with hp | hp
       ·exact kc.o p hp
       ·simp at hp;omega
      have ka:=Qa h6;have k9:=Qa h9;obtain⟨z,hz⟩:=EX ((pt D q (Qf r) n k).getD k 0);rw[<-hz] at ck;obtain⟨y,hy⟩:=EX (D.getD x 0);rw[<-hy] at hc7 h0
      have xi:(x:Int)<(a:Int):=by omega
      clear GT h6 h9 r6 o6 hz hx e7 hy hxa h4 hh k4 ht kc ke kb;go_wp2
      go_roundw
      case rel =>
       have g:=G2.o;have hb7:=HB7.o;have oN:Only (λj=>j=N) w6 (w6.setCell ⟨N,k,none⟩ (.int .u64 y)):=(Only.refl (λj=>j=N) w6).setCell (λ_=>rfl) _;refine⟨k+1,by omega,by simp,?_,?_,?_,?_,PL2.o⟩
       ·rw[Nat.add_mul,Nat.one_mul]
        exact R6.o.keep oN (by omega) (λj hj=>by have:=g.2.1 j hj;omega)
       ·have h1:=(ka.o.stored k (.int .u64 y)).1
        rw[h0.o] at h1;exact h1
       ·exact O6.o.setCell (λhb=>by simp only at hb;omega) _
       ·exact oN.own k9.o (λj hj=>by have:=(g.2.2.2.2 j hj).1;omega)
      case measure=>simp[intOf];omega
    ·obtain rfl:k=n:=by omega
     have dlt:decide ((k:Int)<(k:Int))=false:=by simp
     have he:=h4.o;rw[if_neg (λ⟨p,hp,h⟩=>by have:=k0 p hp;omega)] at he;have he:=Qa he;clear hg k3 k5 hl k0;go_wp2;go_ret2;have hE:=he.o;subst hE;refine⟨_,rfl,?_,k4.o⟩;have h1:=Qr hh.o G2.o.2.2.1;rw[vQ] at h1;rw[List.length_map,VJ];exact h1
end
end Go.Proofs.YteciafpneamfaaaGreatDoor
