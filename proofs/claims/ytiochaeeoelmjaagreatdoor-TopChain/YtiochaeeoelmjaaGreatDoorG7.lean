import Derived.Test.YtiochaeeoelmjaaGreatDoorG5
import Derived.Deep.Matrix
import Derived.Test.YtiochaeeoelmjaaGreatDoorG4
namespace Go.Proofs.YtiochaeeoelmjaaGreatDoor
set_option maxHeartbeats 800000
set_option maxRecDepth 100000
open Go.RowKit _root_.Go.Proofs.Tryz
variable {w w' W:World} {v:Value} {ys xs l:LI} {R n p k g B:Nat} {P:Program} {ls:List (LI)} {E:TypeId}
def RL (w:World) (v:Value) (ls:List (LI)):Prop :=
 ∃ao cap,v=.slice ao ls.length cap∧ls.length<=cap∧(ls≠[]->∃b off,ao=some ⟨b,off,none⟩∧∀j,j<ls.length->∃u,w.cell? ⟨b,off+j,none⟩=some u∧Bs .u8 w u (ls.getD j [])∧NoCap u)
theorem RL.len (h:RL w v ls):∃ao cap,v=.slice ao ls.length cap∧ls.length<=cap:=by
 obtain⟨ao,cap,rfl,hc,_⟩:=h;exact⟨ao,cap,rfl,hc⟩
theorem RL.form (h:RL w v ls) {n:Nat} (hn:ls.length=n) (h0:0<n):∃b off cap,v=.slice (some ⟨b,off,none⟩) n cap∧n<=cap:=by
 obtain⟨ao,cap,rfl,hc,hr⟩:=h;obtain⟨b,off,rfl,_⟩:=hr (by intro e;subst e;simp at hn;omega);exact⟨b,off,cap,by rw[hn],by omega⟩
theorem RL.nil (w:World):RL w (.slice none 0 0) []:=⟨none,0,rfl,Zu,λh=>absurd rfl h⟩
theorem RL.at {b off m cap:Nat} (h:RL w (.slice (some ⟨b,off,none⟩) m cap) ls) (j:Nat) (hj:j<ls.length) :
 ∃u,w.cell? ⟨b,off+j,none⟩=some u∧Bs .u8 w u (ls.getD j [])∧NoCap u:=by
 obtain⟨ao1,cap1,e,_,hr⟩:=h;simp at e;obtain⟨rfl,_,_⟩:=e;obtain⟨b',off',e',hc⟩:=hr (by intro h0;subst h0;simp at hj);simp at e';obtain⟨rfl,rfl⟩:=e';exact hc j hj
theorem RL.past (h:RL w v ls) (o:N0 w w'):RL w' v ls:=by
 obtain⟨ao,cap,rfl,hc,hr⟩:=h;refine⟨ao,cap,rfl,hc,λhx=>?_⟩;obtain⟨b,off,rfl,h0⟩:=hr hx;refine⟨b,off,rfl,λj hj=>?_⟩;obtain⟨u,h1,h2,h3⟩:=h0 j hj;exact⟨u,Uw h1 o,h2.past o,h3⟩
theorem RL.length {ao:Option Addr} {m cap:Nat} (h:RL w (.slice ao m cap) ls):m=ls.length:=by
 obtain⟨ao',cap',e,_⟩:=h;simp at e;exact e.2.1
theorem RL.room {ao:Option Addr} {m cap:Nat} (h:RL w (.slice ao m cap) ls):m<=cap:=by
 obtain⟨ao',cap',e,hc,_⟩:=h;simp at e;obtain⟨rfl,rfl,rfl⟩:=e;exact hc
theorem RL.part {b off m cap:Nat} (h:RL w (.slice (some ⟨b,off,none⟩) m cap) ls) (lo hi:Nat) (h1:lo<=hi) (h2:hi<=m) :
 RL w (.slice (some ⟨b,off+lo,none⟩) (hi - lo) (cap - lo)) ((ls.drop lo).take (hi - lo)):=by
 have hm:=h.length;have hr:=h.room
 have hl:((ls.drop lo).take (hi - lo)).length=hi - lo:=by rw[Qg,Qm];omega
 refine⟨_,_,by rw[hl],by omega,λ_=>⟨b,off+lo,rfl,λj hj=>?_⟩⟩;rw[hl] at hj;obtain⟨u,c1,c2,c3⟩:=h.at (lo+j) (by omega);refine⟨u,by rw[Nat.add_assoc];exact c1,?_,c3⟩
 have e:((ls.drop lo).take (hi - lo)).getD j []=ls.getD (lo+j) []:=by
  rw[Qc,Qc,List.getElem?_take,if_pos hj,List.getElem?_drop]
 rw[e];exact c2
theorem RL.head {b off m cap:Nat} (h:RL w (.slice (some ⟨b,off,none⟩) m cap) ls) (n:Nat) (hn:n<=m):RL w (.slice (some ⟨b,off,none⟩) n cap) (ls.take n):=by
 have:=h.part 0 n (Nat.zero_le _) hn
 simpa using this
theorem RL.tail {b off m cap:Nat} (h:RL w (.slice (some ⟨b,off,none⟩) m cap) ls) (n:Nat) (hn:n<=m):RL w (.slice (some ⟨b,off+n,none⟩) (m - n) (cap - n)) (ls.drop n):=by
 have hm:=h.length;have:=h.part n m hn Zu;rw[List.take_of_length_le (by rw[Qm];omega)] at this;exact this
def R8 (ls:List (LI)):Prop:=∀l∈ls,U8 l∧l.length<=1000000000
theorem R8.take (h:R8 ls) (n:Nat):R8 (ls.take n):=λl hl=>h l (List.mem_of_mem_take hl)
theorem R8.drop (h:R8 ls) (n:Nat):R8 (ls.drop n):=λl hl=>h l (List.mem_of_mem_drop hl)
theorem R8.at (h:R8 ls) (j:Nat):U8 (ls.getD j [])∧(ls.getD j []).length<=1000000000:=by
 rw[Qc]
 cases hj:ls[j]? with
 | none=>exact⟨λy hy=>by simp at hy,by simp⟩
 | some l=>exact h l (List.mem_of_getElem? hj)
theorem RL.of_own {lo:Nat} {vs:List Value} (h:w.ownsRow lo 23 1 v ls.length vs) (hv:∀j u,vs[j]? = some u->Bs .u8 w u (ls.getD j [])∧NoCap u):RL w v ls:=by
 rcases h.2 with ⟨rfl,h0⟩ | ⟨g,cap,cur,rfl,_,_,hc,_⟩
 ·have:ls=[]:=List.eq_nil_of_length_eq_zero h0
  subst this;exact RL.nil w
 ·refine⟨_,cap,rfl,hc,λ_=>⟨g,0,rfl,λj hj=>?_⟩⟩
  have hl:=h.1
  have h1:j<vs.length:=by omega
  refine⟨vs[j],?_,hv j _ (Qh h1)⟩;rw[Nat.zero_add,h.cellAt j (by omega),Qh h1]
def LEAF (b:LI):LI:=QL (0 :: b)
def NODE (l r:LI):LI:=QL (1 :: (l++r))
theorem Hl (b:LI):(LEAF b).length=32:=Y2 _
theorem JU (l r:LI):(NODE l r).length=32:=Y2 _
def HALF (n:Nat):Nat:=2^Nat.log2 (n - 1)
theorem Jr (n:Nat):1<=HALF n:=Nat.two_pow_pos _
theorem JT (h:2<=n):HALF n<n:=by
 have:=Nat.log2_self_le (n:=n - 1) (by omega);unfold HALF;omega
def TOPF:Nat->List (LI)->LI
 | 0,l=>l.headD []
 | f+1,l=>if l.length=0 then QL [] else if l.length=1 then l.headD [] else NODE (TOPF f (l.take (HALF l.length))) (TOPF f (l.drop (HALF l.length)))
def YC (l:List (LI)):LI:=TOPF (l.length+1) l
theorem XD:∀(f g:Nat) (l:List (LI)),l.length<f->l.length<g->TOPF f l=TOPF g l
 | 0,_,_,h,_=>by omega
 | _,0,_,_,h=>by omega
 | f+1,g+1,l,hf,hg=>by
  unfold TOPF
  by_cases h0:l.length=0
  ·rw[if_pos h0,if_pos h0]
  ·rw[if_neg h0,if_neg h0]
   by_cases h1:l.length=1
   ·rw[if_pos h1,if_pos h1]
   ·rw[if_neg h1,if_neg h1]
    have a:=JT (n:=l.length) (by omega);have b:=Jr l.length;rw[XD f g _ (by rw[Qg];omega) (by rw[Qg];omega),XD f g _ (by rw[Qm];omega) (by rw[Qm];omega)]
theorem zx:YC []=QL []:=rfl
theorem RX {l:List (LI)} (h:l.length=1):YC l=l.headD []:=by
 unfold YC TOPF;rw[if_neg (by omega),if_pos h]
theorem SF {l:List (LI)} (h:2<=l.length):YC l=NODE (YC (l.take (HALF l.length))) (YC (l.drop (HALF l.length))):=by
 have a:=JT h;have b:=Jr l.length
 show TOPF (l.length+1) l=_
 rw[TOPF,if_neg (by omega),if_neg (by omega)]
 congr 1
 ·exact XD _ _ _ (by rw[Qg];omega) (by omega)
 ·exact XD _ _ _ (by rw[Qm];omega) (by omega)
theorem xD {l:List (LI)} (h:2<=l.length):(YC l).length=32:=by rw[SF h];exact JU _ _
def Jl:Nat->Nat->Nat->Nat->Nat->Nat
 | 0,_,_,_,_=>0
 | f+1,lo,hi,i,j=>if i<=lo∧hi<=j+1 then 0 else if j<lo∨hi<=i then 1 else Jl f lo (lo+HALF (hi - lo)) i j+Jl f (lo+HALF (hi - lo)) hi i j
def MANY (n i j:Nat):Nat:=Jl (n+1) 0 n i j
theorem Lv (m:Int) (hm:0<=m∧m<=255) (p n:Nat) (ls:Nat->LI) (w:World) (hp:Ps w p n ls) (hl:(pcat ls n).length<=10000000000) (hn:n<=1000) :
 Calls prog 72 #[.int .u8 m,.slice (some ⟨p,0,none⟩) n n] w λe w'=>∃v,e=.returned v∧w'.ownsRow w.heap.size 5 1 v 32 ((QL (m :: pcat ls n)).map (Value.int .u8))∧N0 w w':=by
 have h7:=(zero_of_info (P:=prog) Tryz.zero33).1;obtain⟨Z,hZ⟩:=EX zH;rw[<-hZ] at h7;obtain⟨W1,h2⟩:=EX ((w.alloc (.cells Z.toArray 163)).alloc (.cells #[.int .u8 m] 5))
 have hf:Blk W1 w.heap.size 163 zH:=by
  have:=(Blk.new w 163 Z).alloc (.cells #[.int .u8 m] 5);rw[h2,<-hZ];exact this
 have h9:Blk W1 (w.heap.size+1) 5 (bl [m]):=by
  have:=Blk.new (w.alloc (.cells Z.toArray 163)) 5 (bl [m]);rw[size_alloc] at this;rw[h2];exact this
 have h5:N0 w W1:=by rw[h2];exact (VG.alloc _).alloc _
 have WC:=Qa (Ve w.heap.size [] [m] (.slice (some ⟨w.heap.size+1,0,none⟩) 1 1) W1 (Hs.zero hf) (h9.bs 1 rfl) (λy hy=>by simp at hy;subst hy;exact hm) (λ_ k hk e=>by simp[Value.ownBlock] at hk;omega) (by simp));rw[show (([m]:LI).length:Int)=1 from rfl] at WC;have ha:=Qa h5;have hb:=Qa h2;have HP:=Qa hp;obtain⟨G,hG⟩:=EX w.heap.size;have HG:=Qa hG;clear hZ h2 h9 hf h5 hp hm hG;go_enter func72,ntmps72;go_wp2_with fail;rw[<-hb.o];refine WC.o.mono ?_;rintro e w3 ⟨rfl,h3,h6⟩;rw[List.nil_append] at h3
 have S0:Hid (Hs w3 G (m :: pcat ls 0)):=by
  show _
  rw[HG.o];exact .inl h3
 have O0:=Qa (ha.o.trans h6 (λi hi e=>by omega));rw[<-HG.o];clear h3 h6 WC hb ha h7;go_wp2
 go_loopw [13] (λi wr=>∃j:Nat,j<=n∧i=.int .i64 j∧Hid (Hs wr G (m :: pcat ls j))∧Hid (N0 w wr)) (λi _=>n - (intOf i).toNat)
 case atStart=>exact⟨0,by omega,rfl,S0,O0⟩
 case round =>
  obtain⟨j,hj,rfl,hS,hO⟩:=hrel;clear S0 O0
  by_cases hlt:j<n
  ·obtain⟨u,hu,h4,hd⟩:=HP.o j hlt
   have hc:wr.cell? ⟨p,j,none⟩=some u:=Uw hu hO.o;have he:=Th ls (j+1) n (by omega);have A:=Qa (Ve G (m :: pcat ls j) (ls j) u wr hS.o (h4.past hO.o) hd (λhx k hk e=>by have:=h4.blk_lt hx k hk;have:=HG.o;omega) (by rw[pcat,Qb] at he;rw[Qk];omega));have dlt:decide ((j:Int)<(n:Int))=true:=Qe (by omega);have dlt':decide (j<n)=true:=Qe hlt
   have i0:(0:Int)<=(j:Int):=by omega
   have i1:(j:Int)<(n:Int):=by omega
   clear hu h4 hd hS he;go_wp2_with fail;refine A.o.mono ?_;rintro e w4 ⟨rfl,h8,h1⟩
   have N1:Hid (Hs w4 G (m :: pcat ls (j+1))):=by
    show _
    rw[pcat];exact .inl h8
   have N2:=Qa (hO.o.trans h1 (λi hi e=>by have:=HG.o;omega));clear h8 h1 A hO hc;go_wp2
   go_roundw
   case rel=>exact⟨j+1,by omega,by go_num,N1,N2⟩
   case measure=>simp[intOf];omega
  ·obtain rfl:j=n:=by omega
   have A:=Qa (JA G (m :: pcat ls j) wr hS.o (by rw[Qk];omega));have dlt:decide ((j:Int)<(j:Int))=false:=Qi (by omega);clear hS;go_wp2_with fail;refine A.o.mono ?_;rintro e w4 ⟨v4,rfl,h0,h1⟩;have F1:=Qa (Qr h0 hO.o.size);have F2:=Qa (hO.o.same h1);obtain⟨ao4,cap4,e4⟩:=QK h0;subst e4;clear h0 h1 A;go_wp2;go_ret;exact⟨_,rfl,F1.o,F2.o⟩
theorem rI (v:Value) (xs:LI) (w:World) (hb:Bs .u8 w v xs) (h8:U8 xs) (hl:xs.length<=10000000000) :
 Calls prog 46 #[v] w λe w'=>∃v',e=.returned v'∧w'.ownsRow w.heap.size 5 1 v' 32 (bl (LEAF xs))∧N0 w w':=by
 have A:=Qa (Lv 0 (by decide) w.heap.size 1 (λ_=>xs) (w.alloc (.cells #[v] 23)) (Ps.one hb h8) (by rw[Vs];exact hl) (by decide));rw[Vs] at A;have HO:=Qa (((Only.refl (λ_=>False) w)).alloc (.cells #[v] 23));obtain⟨ao,cap,rfl⟩:=hb.len;obtain⟨n,hn⟩:=EX xs.length;rw[<-hn] at A HO ⊢;clear hb h8 hl hn;go_enter func46,ntmps46;go_wp2_with fail;refine A.o.mono ?_;rintro e w4 ⟨v4,rfl,h0,h1⟩;have F1:=Qa (Qr h0 HO.o.size);have F2:=Qa (HO.o.same h1);obtain⟨ao4,cap4,e4⟩:=QK h0;subst e4;clear h0 h1 A;go_wp2;go_ret;exact⟨_,rfl,F1.o,F2.o⟩
theorem js (vl vr:Value) (l r:LI) (w:World) (hb:Bs .u8 w vl l) (hr:Bs .u8 w vr r) (h8:U8 l) (r8:U8 r) (hl:l.length<=1000000000) (hl':r.length<=1000000000) :
 Calls prog 115 #[vl,vr] w λe w'=>∃v',e=.returned v'∧w'.ownsRow w.heap.size 5 1 v' 32 (bl (NODE l r))∧N0 w w':=by
 have A:=Qa (Lv 1 (by decide) w.heap.size 2 (ptwo l r) (w.alloc (.cells #[vl,vr] 23)) (Ps.two hb hr h8 r8) (by rw[Mj,Qb];omega) (by decide));rw[Mj] at A;have HO:=Qa (((Only.refl (λ_=>False) w)).alloc (.cells #[vl,vr] 23));obtain⟨ao,cap,rfl⟩:=hb.len;obtain⟨ao',cap',rfl⟩:=hr.len;obtain⟨n,hn⟩:=EX l.length;obtain⟨n',h2⟩:=EX r.length;rw[<-hn,<-h2] at A HO ⊢;clear hb h8 hl hn hr r8 hl' h2;go_enter func115,ntmps115;go_wp2_with fail;refine A.o.mono ?_;rintro e w4 ⟨v4,rfl,h0,h1⟩;have F1:=Qa (Qr h0 HO.o.size);have F2:=Qa (HO.o.same h1);obtain⟨ao4,cap4,e4⟩:=QK h0;subst e4;clear h0 h1 A;go_wp2;go_ret;exact⟨_,rfl,F1.o,F2.o⟩
theorem Bb (v:Int) (w:World) (h0:0<=v) (h1:v<=18446744073709551615) :
 Calls prog 165 #[.int .u64 v] w λe w'=>e=.returned (.int .i64 (wid v.toNat))∧w=w':=by
 have A:=Qa (PI v w h0 h1);obtain⟨z,hz⟩:∃z:Int,z=(wid v.toNat:Int):=⟨_,rfl⟩;rw[<-hz] at A ⊢;clear hz;go_enter func165,ntmps165;go_wp2_with fail;refine A.o.mono ?_;rintro e w1 ⟨rfl,rfl⟩;go_wp2;go_ret;exact⟨rfl,rfl⟩
theorem uM (h:2<=n):HALF n=2^(wid (n - 1) - 1):=by
 unfold HALF wid;rw[if_neg (by omega),Nat.add_sub_cancel]
theorem uu (n:Nat) (h:2<=n) (hn:n<=1000000000000) (w:World) :
 Calls prog 114 #[.int .i64 n] w λe w'=>e=.returned (.int .i64 (HALF n))∧w=w':=by
 obtain⟨d,hd⟩:=EX (wid (n - 1) - 1)
 have h2:wid (n - 1)=d+1:=by
  have:wid (n - 1)≠0:=by unfold wid;rw[if_neg (by omega)];omega
  omega
 have h0:d<=40:=by
  have:=(Yi (n - 1) 40).2 (by omega);omega
 have hH:=uM h;rw[<-hd] at hH;have A:=Qa (Bb (n - 1:Int) w (by omega) (by omega));rw[show ((n:Int) - 1).toNat=n - 1 by omega,h2] at A;have HH:=Qa hH
 have e1:(((d+1:Nat)):Int) - 1=(d:Int):=by omega
 clear hd h2 hH;go_enter func114,ntmps114;go_wp2_with fail;refine A.o.mono ?_;rintro e w1 ⟨rfl,rfl⟩;go_wp2;go_ret;refine⟨YN ?_,rfl⟩;have hp:(2:Nat)^d<=2^40:=Nat.pow_le_pow_right (by omega) h0
 have h1:(2:Nat)^40=1099511627776:=by decide
 have e2:(2:Int)^d=((2^d:Nat):Int):=(Int.natCast_pow 2 d).symm;rw[HH.o,e2];rw[h1] at hp;clear e2 h1;generalize (2:Nat)^d=z at hp ⊢;exact IntWalk.wrap64_in _ (by omega)
end Go.Proofs.YtiochaeeoelmjaaGreatDoor
