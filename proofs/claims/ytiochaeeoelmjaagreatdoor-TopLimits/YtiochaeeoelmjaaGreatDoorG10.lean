import Derived.Test.YtiochaeeoelmjaaGreatDoorG7
import Derived.Test.YtiochaeeoelmjaaGreatDoorProg
import Derived.Deep.Matrix
import Derived.OpenShut
import Derived.Test.YtiochaeeoelmjaaGreatDoorG5
import Derived.Test.YtiochaeeoelmjaaGreatDoorG1
namespace Go.Proofs.YtiochaeeoelmjaaGreatDoor
set_option maxHeartbeats 800000
set_option maxRecDepth 100000
open Go.RowKit _root_.Go.Proofs.Tryz
variable {w w' W:World} {v:Value} {ys xs l:LI} {R n p k g B:Nat} {P:Program} {ls:List (LI)} {E:TypeId}
def RL (w:World) (v:Value) (ls:List (LI)):Prop :=
 ∃ao cap,v=.slice ao ls.length cap∧ls.length<=cap∧(ls≠[]->∃b off,ao=some ⟨b,off,none⟩∧∀j,j<ls.length->∃u,w.cell? ⟨b,off+j,none⟩=some u∧Bs .u8 w u (ls.getD j [])∧NoCap u)
theorem RL.len (h:RL w v ls):∃ao cap,v=.slice ao ls.length cap∧ls.length<=cap:=by
 obtain⟨ao,cap,rfl,hc,_⟩:=h;exact⟨ao,cap,rfl,hc⟩
theorem RL.form (h:RL w v ls) {n:Nat} (hn:ls.length=n) (h0:0<n):∃b off cap,v=.slice (some ⟨b,off,none⟩) n cap∧n<=cap:=by
 obtain⟨ao,cap,rfl,hc,hr⟩:=h;obtain⟨b,off,rfl,_⟩:=hr (by intro e;subst e;simp at hn;omega);exact⟨b,off,cap,by rw[hn],by omega⟩
theorem RL.nil (w:World):RL w (.slice none 0 0) []:=⟨none,0,rfl,Nat.le_refl _,λh=>absurd rfl h⟩
theorem RL.at {b off m cap:Nat} (h:RL w (.slice (some ⟨b,off,none⟩) m cap) ls) (j:Nat) (hj:j<ls.length) :
 ∃u,w.cell? ⟨b,off+j,none⟩=some u∧Bs .u8 w u (ls.getD j [])∧NoCap u:=by
 obtain⟨ao1,cap1,e,_,hr⟩:=h;simp at e;obtain⟨rfl,_,_⟩:=e;obtain⟨b',off',e',hc⟩:=hr (by intro h0;subst h0;simp at hj);simp at e';obtain⟨rfl,rfl⟩:=e';exact hc j hj
theorem RL.past (h:RL w v ls) (o:N0 w w'):RL w' v ls:=by
 obtain⟨ao,cap,rfl,hc,hr⟩:=h;refine⟨ao,cap,rfl,hc,λhx=>?_⟩;obtain⟨b,off,rfl,h0⟩:=hr hx;refine⟨b,off,rfl,λj hj=>?_⟩;obtain⟨u,h1,h2,h3⟩:=h0 j hj;exact⟨u,Uw h1 o,h2.past o,h3⟩
theorem RL.length {ao:Option Addr} {m cap:Nat} (h:RL w (.slice ao m cap) ls):m=ls.length:=by
 obtain⟨ao',cap',e,_⟩:=h;simp at e;exact e.2.1
theorem RL.room {ao:Option Addr} {m cap:Nat} (h:RL w (.slice ao m cap) ls):m<=cap:=by
 obtain⟨ao',cap',e,hc,_⟩:=h;simp at e;obtain⟨rfl,rfl,rfl⟩:=e;exact hc
theorem RL.part {b off m cap:Nat} (h:RL w (.slice (some ⟨b,off,none⟩) m cap) ls) (lo hi:Nat) (h1:lo<=hi) (h2:hi<=m) :
 RL w (.slice (some ⟨b,off+lo,none⟩) (hi - lo) (cap - lo)) ((ls.drop lo).take (hi - lo)):=by
 have hm:=h.length;have hr:=h.room
 have hl:((ls.drop lo).take (hi - lo)).length=hi - lo:=by rw[Qd,Qq];omega
 refine⟨_,_,by rw[hl],by omega,λ_=>⟨b,off+lo,rfl,λj hj=>?_⟩⟩;rw[hl] at hj;obtain⟨u,c1,c2,c3⟩:=h.at (lo+j) (by omega);refine⟨u,by rw[Nat.add_assoc];exact c1,?_,c3⟩
 have e:((ls.drop lo).take (hi - lo)).getD j []=ls.getD (lo+j) []:=by
  rw[Qc,Qc,List.getElem?_take,if_pos hj,List.getElem?_drop]
 rw[e];exact c2
theorem RL.head {b off m cap:Nat} (h:RL w (.slice (some ⟨b,off,none⟩) m cap) ls) (n:Nat) (hn:n<=m):RL w (.slice (some ⟨b,off,none⟩) n cap) (ls.take n):=by
 have:=h.part 0 n (Nat.zero_le _) hn
 simpa using this
theorem RL.tail {b off m cap:Nat} (h:RL w (.slice (some ⟨b,off,none⟩) m cap) ls) (n:Nat) (hn:n<=m):RL w (.slice (some ⟨b,off+n,none⟩) (m - n) (cap - n)) (ls.drop n):=by
 have hm:=h.length;have:=h.part n m hn (Nat.le_refl _);rw[List.take_of_length_le (by rw[Qq];omega)] at this;exact this
def R8 (ls:List (LI)):Prop:=∀l∈ls,U8 l∧l.length<=1000000000
theorem R8.take (h:R8 ls) (n:Nat):R8 (ls.take n):=λl hl=>h l (List.mem_of_mem_take hl)
theorem R8.drop (h:R8 ls) (n:Nat):R8 (ls.drop n):=λl hl=>h l (List.mem_of_mem_drop hl)
theorem R8.at (h:R8 ls) (j:Nat):U8 (ls.getD j [])∧(ls.getD j []).length<=1000000000:=by
 rw[Qc]
 cases hj:ls[j]? with
 | none=>exact⟨λy hy=>by simp at hy,by simp⟩
 | some l=>exact h l (List.mem_of_getElem? hj)
theorem RL.of_own {lo:Nat} {vs:List Value} (h:w.ownsRow lo 23 1 v ls.length vs) (hv:∀j u,vs[j]? = some u->Bs .u8 w u (ls.getD j [])∧NoCap u):RL w v ls:=by
 rcases h.2 with ⟨rfl,h0⟩ | ⟨g,cap,cur,rfl,_,_,hc,_⟩
 ·have:ls=[]:=List.eq_nil_of_length_eq_zero h0
  subst this;exact RL.nil w
 ·refine⟨_,cap,rfl,hc,λ_=>⟨g,0,rfl,λj hj=>?_⟩⟩
  have hl:=h.1
  have h1:j<vs.length:=by omega
  refine⟨vs[j],?_,hv j _ (Qe h1)⟩;rw[Nat.zero_add,h.cellAt j (by omega),Qe h1]
def LEAF (b:LI):LI:=QE (0 :: b)
def NODE (l r:LI):LI:=QE (1 :: (l++r))
theorem XD (b:LI):(LEAF b).length=32:=YK _
theorem ZH (l r:LI):(NODE l r).length=32:=YK _
def HALF (n:Nat):Nat:=2^Nat.log2 (n - 1)
theorem Xn (n:Nat):1<=HALF n:=Nat.two_pow_pos _
theorem Jt (h:2<=n):HALF n<n:=by
 have:=Nat.log2_self_le (n:=n - 1) (by omega);unfold HALF;omega
def TOPF:Nat->List (LI)->LI
 | 0,l=>l.headD []
 | f+1,l=>if l.length=0 then QE [] else if l.length=1 then l.headD [] else NODE (TOPF f (l.take (HALF l.length))) (TOPF f (l.drop (HALF l.length)))
def Ym (l:List (LI)):LI:=TOPF (l.length+1) l
theorem VM:∀(f g:Nat) (l:List (LI)),l.length<f->l.length<g->TOPF f l=TOPF g l
 | 0,_,_,h,_=>by omega
 | _,0,_,_,h=>by omega
 | f+1,g+1,l,hf,hg=>by
  unfold TOPF
  by_cases h0:l.length=0
  ·rw[if_pos h0,if_pos h0]
  ·rw[if_neg h0,if_neg h0]
   by_cases h1:l.length=1
   ·rw[if_pos h1,if_pos h1]
   ·rw[if_neg h1,if_neg h1]
    have a:=Jt (n:=l.length) (by omega);have b:=Xn l.length;rw[VM f g _ (by rw[Qd];omega) (by rw[Qd];omega),VM f g _ (by rw[Qq];omega) (by rw[Qq];omega)]
theorem Br:Ym []=QE []:=rfl
theorem Li {l:List (LI)} (h:l.length=1):Ym l=l.headD []:=by
 unfold Ym TOPF;rw[if_neg (by omega),if_pos h]
theorem Hp {l:List (LI)} (h:2<=l.length):Ym l=NODE (Ym (l.take (HALF l.length))) (Ym (l.drop (HALF l.length))):=by
 have a:=Jt h;have b:=Xn l.length
 show TOPF (l.length+1) l=_
 rw[TOPF,if_neg (by omega),if_neg (by omega)]
 congr 1
 ·exact VM _ _ _ (by rw[Qd];omega) (by omega)
 ·exact VM _ _ _ (by rw[Qq];omega) (by omega)
theorem Mg {l:List (LI)} (h:2<=l.length):(Ym l).length=32:=by rw[Hp h];exact ZH _ _
def ZW:Nat->Nat->Nat->Nat->Nat->Nat
 | 0,_,_,_,_=>0
 | f+1,lo,hi,i,j=>if i<=lo∧hi<=j+1 then 0 else if j<lo∨hi<=i then 1 else ZW f lo (lo+HALF (hi - lo)) i j+ZW f (lo+HALF (hi - lo)) hi i j
def MANY (n i j:Nat):Nat:=ZW (n+1) 0 n i j
theorem Pt (m:Int) (hm:0<=m∧m<=255) (p n:Nat) (ls:Nat->LI) (w:World) (hp:Ps w p n ls) (hl:(pcat ls n).length<=10000000000) (hn:n<=1000) :
 Calls prog 72 #[.int .u8 m,.slice (some ⟨p,0,none⟩) n n] w λe w'=>∃v,e=.returned v∧w'.ownsRow w.heap.size 5 1 v 32 ((QE (m :: pcat ls n)).map (Value.int .u8))∧N0 w w':=by
 have hb:=(zero_of_info (P:=prog) Tryz.zero33).1;obtain⟨Z,hZ⟩:=EX zH;rw[<-hZ] at hb;obtain⟨W1,h1⟩:=EX ((w.alloc (.cells Z.toArray 163)).alloc (.cells #[.int .u8 m] 5))
 have h5:Blk W1 w.heap.size 163 zH:=by
  have:=(Blk.new w 163 Z).alloc (.cells #[.int .u8 m] 5);rw[h1,<-hZ];exact this
 have hd:Blk W1 (w.heap.size+1) 5 (bl [m]):=by
  have:=Blk.new (w.alloc (.cells Z.toArray 163)) 5 (bl [m]);rw[size_alloc] at this;rw[h1];exact this
 have hf:N0 w W1:=by rw[h1];exact ((Only.refl _ _).alloc _).alloc _
 have WC:=Qa (WP w.heap.size [] [m] (.slice (some ⟨w.heap.size+1,0,none⟩) 1 1) W1 (Hs.zero h5) (hd.bs 1 rfl) (λy hy=>by simp at hy;subst hy;exact hm) (λ_ k hk e=>by simp[Value.ownBlock] at hk;omega) (by simp));rw[show (([m]:LI).length:Int)=1 from rfl] at WC;have h7:=Qa hf;have h8:=Qa h1;have HP:=Qa hp;obtain⟨G,hG⟩:=EX w.heap.size;have HG:=Qa hG;clear hZ h1 hd h5 hf hp hm hG;go_enter func72,ntmps72;go_wp2_with fail;rw[<-h8.o];refine WC.o.mono ?_;rintro e w3 ⟨rfl,h3,h9⟩;rw[List.nil_append] at h3
 have S0:Hid (Hs w3 G (m :: pcat ls 0)):=by
  show _
  rw[HG.o];exact .inl h3
 have O0:=Qa (h7.o.trans h9 (λi hi e=>by omega));rw[<-HG.o];clear h3 h9 WC h8 h7 hb;go_wp2
 go_loopw [13] (λi wr=>∃j:Nat,j<=n∧i=.int .i64 j∧Hid (Hs wr G (m :: pcat ls j))∧Hid (N0 w wr)) (λi _=>n - (intOf i).toNat)
 case atStart=>exact⟨0,by omega,rfl,S0,O0⟩
 case round =>
  obtain⟨j,hj,rfl,hS,hO⟩:=hrel;clear S0 O0
  by_cases hlt:j<n
  ·obtain⟨u,hu,h4,he⟩:=HP.o j hlt
   have hc:wr.cell? ⟨p,j,none⟩=some u:=Uw hu hO.o;have h6:=Rn ls (j+1) n (by omega);have A:=Qa (WP G (m :: pcat ls j) (ls j) u wr hS.o (h4.past hO.o) he (λhx k hk e=>by have:=h4.blk_lt hx k hk;have:=HG.o;omega) (by rw[pcat,Qb] at h6;rw[Ql];omega));have dlt:decide ((j:Int)<(n:Int))=true:=Qf (by omega);have dlt':decide (j<n)=true:=Qf hlt
   have i0:(0:Int)<=(j:Int):=by omega
   have i1:(j:Int)<(n:Int):=by omega
   clear hu h4 he hS h6;go_wp2_with fail;refine A.o.mono ?_;rintro e w4 ⟨rfl,ha,h2⟩
   have N1:Hid (Hs w4 G (m :: pcat ls (j+1))):=by
    show _
    rw[pcat];exact .inl ha
   have N2:=Qa (hO.o.trans h2 (λi hi e=>by have:=HG.o;omega));clear ha h2 A hO hc;go_wp2
   go_roundw
   case rel=>exact⟨j+1,by omega,by go_num,N1,N2⟩
   case measure=>simp[intOf];omega
  ·obtain rfl:j=n:=by omega
   have A:=Qa (Xz G (m :: pcat ls j) wr hS.o (by rw[Ql];omega));have dlt:decide ((j:Int)<(j:Int))=false:=Qj (by omega);clear hS;go_wp2_with fail;refine A.o.mono ?_;rintro e w4 ⟨v4,rfl,h0,h2⟩;have F1:=Qa (Qv h0 hO.o.size);have F2:=Qa (hO.o.same h2);obtain⟨ao4,cap4,e4⟩:=QB h0;subst e4;clear h0 h2 A;go_wp2;go_ret;exact⟨_,rfl,F1.o,F2.o⟩
theorem Fw (v:Value) (xs:LI) (w:World) (hb:Bs .u8 w v xs) (h8:U8 xs) (hl:xs.length<=10000000000) :
 Calls prog 46 #[v] w λe w'=>∃v',e=.returned v'∧w'.ownsRow w.heap.size 5 1 v' 32 (bl (LEAF xs))∧N0 w w':=by
 have A:=Qa (Pt 0 (by decide) w.heap.size 1 (λ_=>xs) (w.alloc (.cells #[v] 23)) (Ps.one hb h8) (by rw[Ka];exact hl) (by decide));rw[Ka] at A;have HO:=Qa (((Only.refl (λ_=>False) w)).alloc (.cells #[v] 23));obtain⟨ao,cap,rfl⟩:=hb.len;obtain⟨n,hn⟩:=EX xs.length;rw[<-hn] at A HO ⊢;clear hb h8 hl hn;go_enter func46,ntmps46;go_wp2_with fail;refine A.o.mono ?_;rintro e w4 ⟨v4,rfl,h0,h1⟩;have F1:=Qa (Qv h0 HO.o.size);have F2:=Qa (HO.o.same h1);obtain⟨ao4,cap4,e4⟩:=QB h0;subst e4;clear h0 h1 A;go_wp2;go_ret;exact⟨_,rfl,F1.o,F2.o⟩
theorem qN (vl vr:Value) (l r:LI) (w:World) (hb:Bs .u8 w vl l) (hr:Bs .u8 w vr r) (h8:U8 l) (r8:U8 r) (hl:l.length<=1000000000) (hl':r.length<=1000000000) :
 Calls prog 115 #[vl,vr] w λe w'=>∃v',e=.returned v'∧w'.ownsRow w.heap.size 5 1 v' 32 (bl (NODE l r))∧N0 w w':=by
 have A:=Qa (Pt 1 (by decide) w.heap.size 2 (ptwo l r) (w.alloc (.cells #[vl,vr] 23)) (Ps.two hb hr h8 r8) (by rw[Gb,Qb];omega) (by decide));rw[Gb] at A;have HO:=Qa (((Only.refl (λ_=>False) w)).alloc (.cells #[vl,vr] 23));obtain⟨ao,cap,rfl⟩:=hb.len;obtain⟨ao',cap',rfl⟩:=hr.len;obtain⟨n,hn⟩:=EX l.length;obtain⟨n',h1⟩:=EX r.length;rw[<-hn,<-h1] at A HO ⊢;clear hb h8 hl hn hr r8 hl' h1;go_enter func115,ntmps115;go_wp2_with fail;refine A.o.mono ?_;rintro e w4 ⟨v4,rfl,h0,h2⟩;have F1:=Qa (Qv h0 HO.o.size);have F2:=Qa (HO.o.same h2);obtain⟨ao4,cap4,e4⟩:=QB h0;subst e4;clear h0 h2 A;go_wp2;go_ret;exact⟨_,rfl,F1.o,F2.o⟩
theorem AX (v:Int) (w:World) (h0:0<=v) (h1:v<=18446744073709551615) :
 Calls prog 165 #[.int .u64 v] w λe w'=>e=.returned (.int .i64 (wid v.toNat))∧w=w':=by
 have A:=Qa (JT v w h0 h1);obtain⟨z,hz⟩:∃z:Int,z=(wid v.toNat:Int):=⟨_,rfl⟩;rw[<-hz] at A ⊢;clear hz;go_enter func165,ntmps165;go_wp2_with fail;refine A.o.mono ?_;rintro e w1 ⟨rfl,rfl⟩;go_wp2;go_ret;exact⟨rfl,rfl⟩
theorem EA (h:2<=n):HALF n=2^(wid (n - 1) - 1):=by
 unfold HALF wid;rw[if_neg (by omega),Nat.add_sub_cancel]
theorem Sc (n:Nat) (h:2<=n) (hn:n<=1000000000000) (w:World) :
 Calls prog 114 #[.int .i64 n] w λe w'=>e=.returned (.int .i64 (HALF n))∧w=w':=by
 obtain⟨d,hd⟩:=EX (wid (n - 1) - 1)
 have h1:wid (n - 1)=d+1:=by
  have:wid (n - 1)≠0:=by unfold wid;rw[if_neg (by omega)];omega
  omega
 have h0:d<=40:=by
  have:=(Q7 (n - 1) 40).2 (by omega);omega
 have hH:=EA h;rw[<-hd] at hH;have A:=Qa (AX (n - 1:Int) w (by omega) (by omega));rw[show ((n:Int) - 1).toNat=n - 1 by omega,h1] at A;have HH:=Qa hH
 have e1:(((d+1:Nat)):Int) - 1=(d:Int):=by omega
 clear hd h1 hH;go_enter func114,ntmps114;go_wp2_with fail;refine A.o.mono ?_;rintro e w1 ⟨rfl,rfl⟩;go_wp2;go_ret;refine⟨YP ?_,rfl⟩;have hp:(2:Nat)^d<=2^40:=Nat.pow_le_pow_right (by omega) h0
 have h2:(2:Nat)^40=1099511627776:=by decide
 have e2:(2:Int)^d=((2^d:Nat):Int):=(Int.natCast_pow 2 d).symm;rw[HH.o,e2];rw[h2] at hp;clear e2 h2;generalize (2:Nat)^d=z at hp ⊢;exact IntWalk.wrap64_in _ (by omega)
end Go.Proofs.YtiochaeeoelmjaaGreatDoor
