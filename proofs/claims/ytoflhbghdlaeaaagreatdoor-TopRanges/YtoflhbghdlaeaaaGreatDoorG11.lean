import Derived.Test.YtoflhbghdlaeaaaGreatDoorG10
namespace Go.Proofs.YtoflhbghdlaeaaaGreatDoor
set_option maxHeartbeats 1600000
set_option maxRecDepth 100000
open Go.RowKit _root_.Go.Proofs.Tryz
theorem V3 (b:LI):U8 (QH b):=λy hy=>Zv b y hy
theorem Zr (l:List (LI)):l.headD []=l.getD 0 []:=by cases l <;> rfl
theorem yI:∀(f:Nat) (l:List (LI)),R8 l->U8 (TOPF f l)∧(TOPF f l).length<=1000000000
 | 0,l,h=>by
  unfold TOPF;rw[Zr];exact h.at 0
 | f+1,l,h=>by
  unfold TOPF
  split
  ·exact⟨V3 _,by rw[YN];decide⟩
  ·split
   ·rw[Zr]
    exact h.at 0
   ·exact⟨V3 _,by rw[Zb];decide⟩
theorem KC {l:List (LI)} (h:R8 l):U8 (QB l)∧(QB l).length<=1000000000:=yI _ l h
theorem Vl {w:World} {lo n:Nat} {v:Value} {xs:LI} (h:w.ownsRow lo 5 1 v n (bl xs)):Bs .u8 w v xs:=by
 have hl:=h.1;rw[Qs] at hl;refine Bs.of_own (k:=.u8) (E:=5) (lo:=lo) ?_;rw[show xs.length=n by omega];exact h
theorem JH:∀(k:Nat) (ls:List (LI)) (v:Value) (w:World),ls.length<=k->0<ls.length->ls.length<=1000000000->R8 ls->RL w v ls ->
 Calls prog 38 #[v] w λe w'=>∃v',e=.returned v'∧w'.ownsRow w.heap.size 5 1 v' (QB ls).length (bl (QB ls))∧N0 w w':=by
 intro k
 induction k with
 | zero=>intro ls v w h1 h2;omega
 | succ k ih =>
  intro ls v w hk h0 hl h8 hr;obtain⟨n,hn⟩:∃n,ls.length=n:=⟨_,rfl⟩;obtain⟨b,off,cap,rfl,hcap⟩:=hr.form hn (by omega)
  by_cases h1:n=1
  ·obtain⟨u,hu,h7,nu⟩:=hr.at 0 (by omega)
   rw[Nat.add_zero] at hu;have A:=Qa (KI u _ w h7 (by have:=(h8.at 0).2;omega));rw[V4 (by omega),Zr];obtain⟨x,hx⟩:=EX (ls.getD 0 []);rw[<-hx] at A h7 ⊢;obtain⟨ao,cu,rfl⟩:=h7.len;obtain⟨m,hm⟩:=EX x.length;rw[<-hm] at A hu ⊢;subst h1;clear ih hk h0 hl h8 hr hn h7 nu hx hm;go_enter func38,ntmps38;go_wp2_with fail;refine A.o.mono ?_;rintro e w4 ⟨v4,rfl,h3,ha⟩;have F1:=Qa h3;have F2:=Qa ha;obtain⟨ao4,cap4,e4⟩:=Qm h3;subst e4;clear h3 ha A;go_wp2;go_ret;exact⟨_,rfl,F1.o,F2.o⟩
  ·obtain⟨q,hq⟩:=EX (HALF n)
   have q1:=Y8 n;have q2:=YK (n:=n) (by omega);rw[<-hq] at q1 q2;obtain⟨L,hL⟩:=EX (ls.take q);obtain⟨R,hR⟩:=EX (ls.drop q)
   have hLl:L.length=q:=by rw[hL,Qf];omega
   have hRl:R.length=n - q:=by rw[hR,Qo];omega
   have L8:R8 L:=by rw[hL];exact h8.take _
   have h9:R8 R:=by rw[hR];exact h8.drop _
   have rL:RL w (.slice (some ⟨b,off,none⟩) q cap) L:=by rw[hL];exact hr.head q (by omega)
   have rR:RL w (.slice (some ⟨b,off+q,none⟩) (n - q) (cap - q)) R:=by rw[hR];exact hr.tail q (by omega)
   rw[JD (by omega),hn,<-hq,<-hL,<-hR,Zb];have AL:=Qa (WE n (by omega) (by omega) w);rw[<-hq] at AL;have T1:=Qa (λW (o:N0 w W)=>ih L _ W (by omega) (by omega) (by omega) L8 (rL.past o));have T2:=Qa (λW (o:N0 w W)=>ih R _ W (by omega) (by omega) (by omega) h9 (rR.past o));have NC:=Qa (λ(vl vr:Value) (W:World) (hb:Bs .u8 W vl (QB L)) (hr:Bs .u8 W vr (QB R))=>XK vl vr (QB L) (QB R) W hb hr (KC L8).1 (KC h9).1 (KC L8).2 (KC h9).2)
   have d1:((n:Int) == 1)=false:=by rw[beq_eq_false_iff_ne];omega
   have c1:(q:Int)<=(cap:Int):=by omega
   have c2:(q:Int)<=(n:Int):=by omega
   have c0:(0:Int)<=(q:Int):=by omega
   have c3:¬cap=q:=by omega
   clear ih hk h0 hl h8 hr hn hLl hRl L8 h9 rL rR hL hR hq h1;go_enter func38,ntmps38;go_wp2_with fail;refine AL.o.mono ?_;rintro e w1 ⟨rfl,rfl⟩;clear AL;go_wp2_with fail;go_region_held3 (λ_=>True) (trivial) (first|(go_at_call 38;refine (T1.o _ ((Only.refl _ _).drew)).mono ?_;rintro e w1 ⟨v1,rfl,h5,o1⟩;have O1:=Qa (((Only.refl (λ_=>False) w).drew).same o1);have B1:=Qa (Vl h5);clear h5 o1 T1)|(go_at_call 38;refine (T2.o _ O1.o).mono ?_;rintro e w2 ⟨v2,rfl,h6,o2⟩;have O2:=Qa (O1.o.same o2);have B2:=Qa (Vl h6);have B1':=Qa (B1.o.past o2);clear h6 o2 T2)|(go_at_call 72;refine (NC.o _ _ _ B1'.o B2.o).mono ?_;rintro e w3 ⟨v3,rfl,h4,o3⟩;have F1:=Qa (Qu h4 O2.o.size);have F2:=Qa (O2.o.same o3);obtain⟨ao3,cap3,e3⟩:=Qm h4;subst e3;clear h4 o3 NC));go_wp2;go_ret;exact⟨_,rfl,F1.o,F2.o⟩
theorem GY (ls:List (LI)) (v:Value) (w:World) (hl:ls.length<=1000000000) (h8:R8 ls) (hr:RL w v ls) :
 Calls prog 13 #[v] w λe w'=>∃v',e=.returned v'∧w'.ownsRow w.heap.size 5 1 v' (QB ls).length (bl (QB ls))∧N0 w w':=by
 obtain⟨ao,cap,e,_⟩:=hr.len;subst e
 by_cases h0:ls.length=0
 ·have A:=Qa (Nn (.slice none 0 0) [] w (Bs.nil _ _) (λy hy=>by simp at hy) (by simp))
  have e:ls=[]:=List.eq_nil_of_length_eq_zero h0;subst e;rw[IW,YN];clear hl h8 hr h0;go_enter func13,ntmps13;go_wp2_with fail;refine A.o.mono ?_;rintro e w4 ⟨v4,rfl,h1,h2⟩;have F1:=Qa h1;have F2:=Qa h2;obtain⟨ao4,h3,e4⟩:=Qm h1;subst e4;clear h1 h2 A;go_wp2;go_ret;exact⟨_,rfl,F1.o,F2.o⟩
 ·have A:=Qa (JH ls.length ls _ w (Nat.le_refl _) (by omega) hl h8 hr)
  obtain⟨n,hn⟩:=EX ls.length;rw[<-hn] at A h0 ⊢
  have d1:((n:Int) == 0)=false:=by rw[beq_eq_false_iff_ne];omega
  clear hl h8 hr h0 hn;go_enter func13,ntmps13;go_wp2_with fail;refine A.o.mono ?_;rintro e w4 ⟨v4,rfl,h1,h2⟩;have F1:=Qa h1;have F2:=Qa h2;obtain⟨ao4,h3,e4⟩:=Qm h1;subst e4;clear h1 h2 A;go_wp2;go_ret;exact⟨_,rfl,F1.o,F2.o⟩
end Go.Proofs.YtoflhbghdlaeaaaGreatDoor
