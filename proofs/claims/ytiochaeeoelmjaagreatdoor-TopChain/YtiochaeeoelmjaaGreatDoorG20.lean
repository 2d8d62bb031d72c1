import Derived.Test.YtiochaeeoelmjaaGreatDoorG3
import Derived.Test.YtiochaeeoelmjaaGreatDoorG19
import Derived.Test.YtiochaeeoelmjaaGreatDoorG18
import Derived.Test.YtiochaeeoelmjaaGreatDoorG4
import Derived.Test.YtiochaeeoelmjaaGreatDoorG11
namespace Go.Proofs.YtiochaeeoelmjaaGreatDoor
set_option maxHeartbeats 1600000
set_option maxRecDepth 100000
open Go.RowKit _root_.Go.Proofs.Tryz
variable {w w' W:World} {v:Value} {ys xs l:LI} {R n p k g B:Nat} {P:Program} {ls:List (LI)} {E:TypeId}
def ENC9 (l:LI):LI × Int:=if 65536<l.length then ([],4) else (QF (GB l),0)
def DEC9 (b:LI) (n:Int):LI × Int :=
 if n<0∨65536<n then ([],1) else
 if (gRd (Qf b) n.toNat).2≠0 then ([],(gRd (Qf b) n.toNat).2) else
 if (ENC9 (gRd (Qf b) n.toNat).1).1=b then ((gRd (Qf b) n.toNat).1,0) else ([],3)
theorem VV (hl:l.length<=65536):ENC9 l=(QF (GB l),0):=if_neg (by omega)
theorem P8 (l:LI):∀y∈(ENC9 l).1,0<=y∧y<=255:=by
 unfold ENC9
 by_cases h:65536<l.length
 ·rw[if_pos h];intro y hy;simp at hy
 ·rw[if_neg h];exact GW _
theorem ji (x:Nat) {wn:Option (Nat × Nat)}:(gx x wn).1.length<=77∧1<=(gx x wn).1.length:=by
 have hn:∀x,(newW x).length<=77∧1<=(newW x).length:=λx=>by
  unfold newW;simp only[Qk,Qb,Yo];omega
 unfold gx
 by_cases h0:x=0
 ·rw[if_pos h0];exact⟨by simp,by simp⟩
 ·rw[if_neg h0]
  cases wn with
  | none=>exact hn x
  | some p =>
   obtain⟨a,z⟩:=p;simp only
   by_cases hf:fitsW x a z
   ·rw[if_pos hf]
    simp only[Qk,Yo];omega
   ·rw[if_neg hf];exact hn x
theorem ZP (l:LI):∀(p:Nat) (wn:Option (Nat × Nat)),(gE p wn l).length<=77*l.length∧l.length<=(gE p wn l).length:=by
 induction l with
 | nil=>intro p wn;simp[gE]
 | cons y t ih =>
  intro p wn;rw[gE,Qb,Qk];have h1:=ji (p ^^^ y.toNat) (wn:=wn);have h2:=ih y.toNat (gx (p ^^^ y.toNat) wn).2;omega
theorem y9 (l:LI):(GB l).length<=77*l.length∧l.length<=(GB l).length:=by
 cases l with
 | nil=>simp[GB]
 | cons y t =>
  have h:=ZP t y.toNat none;unfold GB;rw[Qb,Yo,Qk];omega
theorem yi (hu:U64 l) (hl:l.length<=65536):DEC9 (ENC9 l).1 l.length=(l,0):=by
 have e:gRd (Qf (ENC9 l).1) l.length=(l,0):=by
  rw[VV hl];simp only[Ta];exact C9 hu _
 unfold DEC9;rw[if_neg (by omega),Int.toNat_natCast,e];simp
theorem DK {b:LI} {n:Int} (h:(DEC9 b n).2=0):0<=n∧n<=65536∧((DEC9 b n).1.length:Int)=n∧U64 (DEC9 b n).1∧ENC9 (DEC9 b n).1=(b,0):=by
 unfold DEC9 at *
 by_cases hn:n<0∨65536<n
 ·rw[if_pos hn] at h;cases h
 ·rw[if_neg hn] at h ⊢
  by_cases hR:(gRd (Qf b) n.toNat).2≠0
  ·rw[if_pos hR] at h;exact absurd h hR
  ·rw[if_neg hR] at h ⊢
   by_cases hE:(ENC9 (gRd (Qf b) n.toNat).1).1=b
   ·rw[if_pos hE]
    obtain⟨h1,h2⟩:=Tu (l:=Qf b) (n:=n.toNat) (by simpa using hR);refine⟨by omega,by omega,by simp only[h2];omega,h1,?_⟩;have h3:=VV (l:=(gRd (Qf b) n.toNat).1) (by rw[h2];omega);rw[h3] at hE ⊢;simp only at hE;simp only[hE]
   ·rw[if_neg hE] at h;cases h
theorem g6 {b:LI} {n:Int} (h:(DEC9 b n).2≠0):(DEC9 b n).1=[]:=by
 unfold DEC9 at *
 by_cases hn:n<0∨65536<n
 ·rw[if_pos hn]
 ·rw[if_neg hn] at h ⊢
  by_cases hR:(gRd (Qf b) n.toNat).2≠0
  ·rw[if_pos hR]
  ·rw[if_neg hR] at h ⊢
   by_cases hE:(ENC9 (gRd (Qf b) n.toNat).1).1=b
   ·rw[if_pos hE] at h;exact absurd rfl h
   ·rw[if_neg hE]
def dct:LI->LI->LI
 | d,[]=>d
 | d,x :: t=>if x∈d then dct d t else dct (d++[x]) t
def dic (l:LI):LI:=dct [] l
theorem lj (l:LI) (y:Int):∀d,dct d (l++[y])=if y∈dct d l then dct d l else dct d l++[y]:=by
 induction l with
 | nil=>intro d;rfl
 | cons x t ih =>
  intro d;rw[List.cons_append,dct,dct]
  by_cases h:x∈d
  ·rw[if_pos h,if_pos h,ih]
  ·rw[if_neg h,if_neg h,ih]
theorem AS (l:LI):∀(d:LI) (y:Int),y∈dct d l↔y∈d∨y∈l:=by
 induction l with
 | nil=>intro d y;simp[dct]
 | cons x t ih =>
  intro d y;rw[dct]
  by_cases h:x∈d
  ·rw[if_pos h,ih,List.mem_cons]
   constructor
   ·rintro (h1 | h1)
    ·exact .inl h1
    ·exact .inr (.inr h1)
   ·rintro (h1 | rfl | h1)
    ·exact .inl h1
    ·exact .inl h
    ·exact .inr h1
  ·rw[if_neg h,ih,List.mem_cons,List.mem_append]
   constructor
   ·rintro ((h1 | h1) | h1)
    ·exact .inl h1
    ·exact .inr (.inl (by simpa using h1))
    ·exact .inr (.inr h1)
   ·rintro (h1 | rfl | h1)
    ·exact .inl (.inl h1)
    ·exact .inl (.inr (by simp))
    ·exact .inr h1
theorem EU (l:LI):∀d:LI,d.Nodup->(dct d l).Nodup:=by
 induction l with
 | nil=>intro d h;exact h
 | cons x t ih =>
  intro d h;rw[dct]
  by_cases hx:x∈d
  ·rw[if_pos hx];exact ih d h
  ·rw[if_neg hx]
   refine ih _ (List.nodup_append.2 ⟨h,by simp,?_⟩);intro a ha b hb e;simp at hb;subst hb e;exact hx ha
theorem xY (l:LI):∀d:LI,(dct d l).length<=d.length+l.length:=by
 induction l with
 | nil=>intro d;simp[dct]
 | cons x t ih =>
  intro d;rw[dct]
  by_cases h:x∈d
  ·rw[if_pos h];have:=ih d;simp only[Qk];omega
  ·rw[if_neg h];have:=ih (d++[x]);simp only[Qk,Qb,List.length_nil] at *;omega
theorem V5 (l:LI) (y:Int):y∈dic l↔y∈l:=by unfold dic;rw[AS];simp
theorem uQ (l:LI):(dic l).Nodup:=EU l [] List.nodup_nil
theorem V9 (l:LI):(dic l).length<=l.length:=by have:=xY l [];simpa [dic] using this
theorem SH (hu:U64 l):U64 (dic l):=λy hy=>hu y ((V5 l y).1 hy)
theorem tj (l:LI) (y:Int):dic (l++[y])=if y∈dic l then dic l else dic l++[y]:=lj l y []
theorem Bl (h:l≠[]):0<(dic l).length:=by
 cases l with
 | nil=>exact absurd rfl h
 | cons x t =>
  have:x∈dic (x :: t):=(V5 _ _).2 List.mem_cons_self;exact List.length_pos_of_mem this
def plc (d:LI) (v:Int):Nat:=d.idxOf v
theorem Jc {d:LI} {v:Int} (h:v∈d):plc d v<d.length:=List.idxOf_lt_length_of_mem h
theorem yB {d:LI} {v:Int} (h:v∈d):d.getD (plc d v) 0=v:=by
 have hl:=Jc h;rw[Qc,Qh hl];exact List.getElem_idxOf hl
def wP (k:Nat):Nat:=if k=0 then 0 else wid (k - 1)
theorem wP_lt (h:p<k):p<2^wP k:=by
 unfold wP;rw[if_neg (by omega)];have:=(Yi (k - 1) (wid (k - 1))).1 Zu;omega
theorem wP_le (h:k<=65536):wP k<=16:=by
 unfold wP
 by_cases h0:k=0
 ·rw[if_pos h0];omega
 ·rw[if_neg h0];exact (Yi _ 16).2 (by omega)
def bitsP (w:Nat) (ps:List Nat):List Bool:=ps.flatMap λp=>Ql p w
theorem Nn (w p:Nat) (ps:List Nat):bitsP w (p :: ps)=Ql p w++bitsP w ps:=rfl
theorem TE (w:Nat) (ps:List Nat):(bitsP w ps).length=ps.length*w:=by
 induction ps with
 | nil=>simp[bitsP]
 | cons p t ih=>rw[Nn,Qb,Yo,ih,Qk,Nat.succ_mul];omega
theorem kN (w:Nat) (ps:List Nat) (p:Nat):bitsP w (ps++[p])=bitsP w ps++Ql p w:=by simp[bitsP]
def rdP (w:Nat):Nat->List Bool->List Nat
 | 0,_=>[]
 | n+1,k=>bnum (k.take w) :: rdP w n (k.drop w)
theorem VR (w:Nat):∀(n:Nat) (k:List Bool),(rdP w n k).length=n
 | 0,_=>rfl
 | n+1,k=>by rw[rdP,Qk,VR w n]
theorem qF (w:Nat) (ps:List Nat):∀r:List Bool,(∀p∈ps,p<2^w)->rdP w ps.length (bitsP w ps++r)=ps:=by
 induction ps with
 | nil=>intro r _;rfl
 | cons p t ih =>
  intro r h;have hl:(Ql p w).length=w:=Yo _ _;rw[Qk,rdP,Nn,List.append_assoc,List.take_left' hl,List.drop_left' hl,GE,Nat.mod_eq_of_lt (h p List.mem_cons_self),ih r (λq hq=>h q (List.mem_cons_of_mem _ hq))]
theorem ZN (w:Nat):∀(n:Nat) (k:List Bool),rdP w (n+1) k=rdP w n k++[bnum ((k.drop (n*w)).take w)]
 | 0,k=>by simp[rdP]
 | n+1,k=>by
  rw[rdP,ZN w n (k.drop w),rdP,List.drop_drop,List.cons_append,Nat.succ_mul,Nat.add_comm w]
def fx8 (d:LI):LI:=d.flatMap λv=>fixL v 8
theorem Pb (v:Int) (d:LI):fx8 (v :: d)=fixL v 8++fx8 d:=rfl
theorem wO (d:LI) (v:Int):fx8 (d++[v])=fx8 d++fixL v 8:=by simp[fx8]
theorem UH (d:LI):(fx8 d).length=8*d.length:=by
 induction d with
 | nil=>rfl
 | cons v t ih=>rw[Pb,Qb,Qv,ih,Qk];omega
def rd8:Nat->LI->LI
 | 0,_=>[]
 | n+1,b=>((num (b.take 8):Nat):Int) :: rd8 n (b.drop 8)
theorem Wt:∀(n:Nat) (b:LI),(rd8 n b).length=n
 | 0,_=>rfl
 | n+1,b=>by rw[rd8,Qk,Wt n]
theorem Dp (d:LI):∀r:LI,U64 d->rd8 d.length (fx8 d++r)=d:=by
 induction d with
 | nil=>intro r _;rfl
 | cons v t ih =>
  intro r hu;have hv:=hu v List.mem_cons_self;obtain⟨n,rfl⟩:=Int.eq_ofNat_of_zero_le hv.1;rw[Qk,rd8,Pb,List.append_assoc,List.take_left' (Qv _ 8),List.drop_left' (Qv _ 8),VE n (by omega),ih r (λq hq=>hu q (List.mem_cons_of_mem _ hq))]
theorem JO:∀(n:Nat) (b:LI),rd8 (n+1) b=rd8 n b++[((num ((b.drop (8*n)).take 8):Nat):Int)]
 | 0,b=>by simp[rd8]
 | n+1,b=>by
  rw[rd8,JO n (b.drop 8),rd8,List.drop_drop,List.cons_append,show 8+8*n=8*(n+1) by omega]
theorem Vl:∀(n:Nat) (b:LI),(∀y∈b,0<=y∧y<=255)->U64 (rd8 n b)
 | 0,_,_=>λx hx=>by simp[rd8] at hx
 | n+1,b,hr=>λx hx=>by
  rw[rd8] at hx
  rcases List.mem_cons.1 hx with rfl | h
  ·have h1:=Wx (b.take 8) (λy hy=>hr y (List.mem_of_mem_take hy))
   have h2:(256:Nat)^(b.take 8).length<=256^8:=Nat.pow_le_pow_right (by omega) (by rw[Qg];omega)
   have h3:(256:Nat)^8=18446744073709551616:=by decide
   omega
  ·exact Vl n _ (λy hy=>hr y (List.mem_of_mem_drop hy)) x h
def Yx (d l:LI):List Bool:=bitsP (wP d.length) (l.map (plc d))
def ENC10 (l:LI):LI × Int:=if 65536<l.length then ([],4) else (gs (dic l).length++(fx8 (dic l)++QF (Yx (dic l) l)),0)
theorem VI (h:l.length<=65536):ENC10 l=(gs (dic l).length++(fx8 (dic l)++QF (Yx (dic l) l)),0):=if_neg (by omega)
def DECB (many n:Nat) (rest b:LI):LI × Int :=
 if rest.length<8*many then ([],2) else
 if (Qf (rest.drop (8*many))).length<n*wP many then ([],2) else
 if ∃p∈rdP (wP many) n (Qf (rest.drop (8*many))),many<=p then ([],3) else
 if (ENC10 ((rdP (wP many) n (Qf (rest.drop (8*many)))).map λp=>(rd8 many rest).getD p 0)).1=b then ((rdP (wP many) n (Qf (rest.drop (8*many)))).map λp=>(rd8 many rest).getD p 0,0) else ([],3)
def DEC10 (b:LI) (n:Int):LI × Int :=
 if n<0∨65536<n then ([],1) else
 if (Qd b).2.2≠0 then ([],(Qd b).2.2) else
 if n<(Qd b).1 then ([],3) else
 DECB (Qd b).1.toNat n.toNat (b.drop (Qd b).2.1) b
theorem Rb (d l:LI):(Yx d l).length=l.length*wP d.length:=by unfold Yx;rw[TE,List.length_map]
theorem Db:∀p∈l.map (plc (dic l)),p<(dic l).length:=by
 intro p hp;obtain⟨x,hx,rfl⟩:=List.mem_map.1 hp;exact Jc ((V5 l x).2 hx)
theorem Ip (l:LI):(l.map (plc (dic l))).map (λp=>(dic l).getD p 0)=l:=by
 rw[List.map_map];exact (List.map_congr_left (g:=id) (λx hx=>yB ((V5 l x).2 hx))).trans (List.map_id l)
theorem Sa (hl:l.length<=65536):(dic l).length<18446744073709551616:=by have:=V9 l;omega
theorem Bn (hu:U64 l) (r b:LI) :
 DECB (dic l).length l.length (fx8 (dic l)++(QF (Yx (dic l) l)++r)) b=if (ENC10 l).1=b then (l,0) else ([],3):=by
 have hf:=UH (dic l);have e1:(fx8 (dic l)++(QF (Yx (dic l) l)++r)).drop (8*(dic l).length)=QF (Yx (dic l) l)++r:=List.drop_left' hf
 have e2:Qf (QF (Yx (dic l) l)++r)=Yx (dic l) l++(List.replicate (8*nb (Yx (dic l) l) - (Yx (dic l) l).length) false++Qf r):=by
  rw[Rn,Ta,List.append_assoc]
 have e3:rdP (wP (dic l).length) l.length (Yx (dic l) l++(List.replicate (8*nb (Yx (dic l) l) - (Yx (dic l) l).length) false++Qf r))=l.map (plc (dic l)):=by
  have:=qF (wP (dic l).length) (l.map (plc (dic l))) (List.replicate (8*nb (Yx (dic l) l) - (Yx (dic l) l).length) false++Qf r) (λp hp=>wP_lt (Db p hp));rw[List.length_map] at this;exact this
 have e4:rd8 (dic l).length (fx8 (dic l)++(QF (Yx (dic l) l)++r))=dic l:=Dp (dic l) _ (SH hu);unfold DECB;rw[e1,e2,e3,e4,Ip];rw[if_neg (by rw[Qb];omega),if_neg (by rw[Qb,Rb];omega),if_neg (λ⟨p,hp,h⟩=>by have:=Db p hp;omega)]
theorem qy (hl:l.length<=65536) (r:LI):DEC10 (gs (dic l).length++r) l.length=DECB (dic l).length l.length r (gs (dic l).length++r):=by
 unfold DEC10;rw[Ua _ _ (Sa hl)];have:=V9 l;simp only[ne_eq,not_true_eq_false,if_false,Int.toNat_natCast,List.drop_left];rw[if_neg (by omega),if_neg (by omega)]
theorem tD (hu:U64 l) (hl:l.length<=65536):DEC10 (ENC10 l).1 l.length=(l,0):=by
 have e:=Bn hu [] (ENC10 l).1;rw[List.append_nil,if_pos rfl] at e;rw[VI hl] at e ⊢;rw[qy hl];exact e
theorem Kq {p:Prop} [Decidable p] {x y:LI × Int} (hx:x.2≠0->x.1=[]) (hy:y.2≠0->y.1=[]):(if p then x else y).2≠0->(if p then x else y).1=[]:=by
 by_cases h:p
 ·rw[if_pos h];exact hx
 ·rw[if_neg h];exact hy
theorem Ca {b:LI} {n:Int}:(DEC10 b n).2≠0->(DEC10 b n).1=[]:=by
 unfold DEC10 DECB;exact Kq (λ_=>rfl) (Kq (λ_=>rfl) (Kq (λ_=>rfl) (Kq (λ_=>rfl) (Kq (λ_=>rfl) (Kq (λ_=>rfl) (Kq (λh=>absurd rfl h) (λ_=>rfl)))))))
theorem DY {b:LI} {n:Int} (hr:∀y∈b,0<=y∧y<=255) (h:(DEC10 b n).2=0):0<=n∧n<=65536∧((DEC10 b n).1.length:Int)=n∧U64 (DEC10 b n).1∧ENC10 (DEC10 b n).1=(b,0):=by
 have key:∀(h0 m:Nat) (rest:LI),(∀y∈rest,0<=y∧y<=255)->m<=65536->(DECB h0 m rest b).2=0->(DECB h0 m rest b).1.length=m∧U64 (DECB h0 m rest b).1∧ENC10 (DECB h0 m rest b).1=(b,0):=by
  intro h0 m rest hrr hm h;unfold DECB at *
  by_cases c1:rest.length<8*h0
  ·rw[if_pos c1] at h;cases h
  ·rw[if_neg c1] at h ⊢
   by_cases c2:(Qf (rest.drop (8*h0))).length<m*wP h0
   ·rw[if_pos c2] at h;cases h
   ·rw[if_neg c2] at h ⊢
    by_cases c3:∃p∈rdP (wP h0) m (Qf (rest.drop (8*h0))),h0<=p
    ·rw[if_pos c3] at h;cases h
    ·rw[if_neg c3] at h ⊢
     by_cases c4:(ENC10 ((rdP (wP h0) m (Qf (rest.drop (8*h0)))).map λp=>(rd8 h0 rest).getD p 0)).1=b
     ·rw[if_pos c4]
      have h1:((rdP (wP h0) m (Qf (rest.drop (8*h0)))).map λp=>(rd8 h0 rest).getD p 0).length=m:=by rw[List.length_map,VR]
      refine⟨h1,?_,?_⟩
      ·intro x hx
       obtain⟨p,hp,rfl⟩:=List.mem_map.1 hx
       have hpm:p<h0:=by
        rcases Nat.lt_or_ge p h0 with e | e
        ·exact e
        ·exact absurd ⟨p,hp,e⟩ c3
       have h2:p<(rd8 h0 rest).length:=by rw[Wt];exact hpm
       refine Vl h0 rest hrr _ ?_;rw[Qc,Qh h2];exact List.getElem_mem h2
      ·have e:=VI (l:=(rdP (wP h0) m (Qf (rest.drop (8*h0)))).map λp=>(rd8 h0 rest).getD p 0) (by rw[h1];exact hm)
       rw[e] at c4 ⊢;simp only at c4;simp only[c4]
     ·rw[if_neg c4] at h;cases h
 unfold DEC10 at *
 by_cases hn:n<0∨65536<n
 ·rw[if_pos hn] at h;cases h
 ·rw[if_neg hn] at h ⊢
  by_cases hv:(Qd b).2.2≠0
  ·rw[if_pos hv] at h;exact absurd h hv
  ·rw[if_neg hv] at h ⊢
   by_cases hm:n<(Qd b).1
   ·rw[if_pos hm] at h;cases h
   ·rw[if_neg hm] at h ⊢
    obtain⟨k1,k2,k3⟩:=key _ n.toNat _ (λy hy=>hr y (List.mem_of_mem_drop hy)) (by omega) h;exact⟨by omega,by omega,by rw[k1];omega,k2,k3⟩
theorem Dl (l:LI):∀y∈(ENC10 l).1,0<=y∧y<=255:=by
 unfold ENC10
 by_cases h:65536<l.length
 ·rw[if_pos h];intro y hy;simp at hy
 ·rw[if_neg h]
  intro y hy
  rcases List.mem_append.1 hy with h1 | h1
  ·exact UU _ y h1
  ·rcases List.mem_append.1 h1 with h2 | h2
   ·obtain⟨v,_,hv⟩:=List.mem_flatMap.1 h2
    unfold fixL at hv;obtain⟨j,_,rfl⟩:=List.mem_map.1 hv;exact Ji v _
   ·exact GW _ y h2
def lF (l:LI) (k:Nat):Nat:=(dic (l.take k)).length
def MY (l:LI):Bool:=l.all λx=>x == l.getD 0 0
abbrev YB (l:LI):Prop:=MY l=true
theorem Qcq:YB l↔∀x∈l,x=l.getD 0 0:=by
 unfold YB MY;rw[List.all_eq_true];exact⟨λh x hx=>by simpa using h x hx,λh x hx=>by simpa using h x hx⟩
def QE (l:LI) (tag:Nat):LI × Int :=
 if tag=0 then (fx8 l,0) else if tag=1 then (if l=[]∨¬YB l then ([],1) else (fixL (l.getD 0 0) 8,0)) else if tag=2 then ENC10 l else ENC9 l
def WAY11 (l:LI) (tag:Int):LI × Int:=if tag<0∨3<tag then ([],1) else if 65536<l.length then ([],4) else QE l tag.toNat
def QU (l:LI):Nat->Nat × LI
 | 0=>(0,(QE l 0).1)
 | t+1=>if (QE l (t+1)).2=0∧(QE l (t+1)).1.length<(QU l t).2.length then (t+1,(QE l (t+1)).1) else QU l t
def ENC11 (l:LI):LI × Int:=if 65536<l.length then ([],4) else (((QU l 3).1:Int) :: (QU l 3).2,0)
def Yh (ys:LI) (n tag:Nat):LI × Int :=
 if tag=2 then DEC10 ys n else if tag=3 then DEC9 ys n else
 if tag=1 then (if ys.length<8 then ([],2) else if 8<ys.length then ([],3) else (List.replicate n ((num (ys.take 8):Nat):Int),0)) else
 if ys.length<8*n then ([],2) else if 8*n<ys.length then ([],3) else (rd8 n ys,0)
def DEC11 (b:LI) (n:Int):LI × Int :=
 if n<0∨65536<n then ([],1) else if b=[] then ([],2) else if 3<b.getD 0 0 then ([],3) else
 if (Yh (b.drop 1) n.toNat (b.getD 0 0).toNat).2≠0 then ([],(Yh (b.drop 1) n.toNat (b.getD 0 0).toNat).2) else
 if (ENC11 (Yh (b.drop 1) n.toNat (b.getD 0 0).toNat).1).1=b then ((Yh (b.drop 1) n.toNat (b.getD 0 0).toNat).1,0) else ([],3)
theorem W11_0 (l:LI):QE l 0=(fx8 l,0):=rfl
theorem W11_1 (l:LI):QE l 1=if l=[]∨¬YB l then ([],1) else (fixL (l.getD 0 0) 8,0):=rfl
theorem W11_2 (l:LI):QE l 2=ENC10 l:=rfl
theorem W11_3 (l:LI):QE l 3=ENC9 l:=rfl
theorem WW {t:Nat} (h:t<=3):t=0∨t=1∨t=2∨t=3:=by omega
theorem OU (l:LI):∀y∈fx8 l,0<=y∧y<=255:=by
 intro y hy;obtain⟨v,_,hv⟩:=List.mem_flatMap.1 hy;exact US v 8 y hv
theorem xe {t:Nat} (ht:t<=3):∀y∈(QE l t).1,0<=y∧y<=255:=by
 rcases WW ht with rfl | rfl | rfl | rfl
 ·exact OU l
 ·rw[W11_1]
  by_cases c:l=[]∨¬YB l
  ·rw[if_pos c];intro y hy;simp at hy
  ·rw[if_neg c];exact US _ 8
 ·exact Dl l
 ·exact P8 l
theorem uy (h:YB l):l=List.replicate l.length (l.getD 0 0):=List.eq_replicate_iff.2 ⟨rfl,Qcq.1 h⟩
theorem yu {v:Int} (h0:0<=v) (h1:v<=18446744073709551615):((num (fixL v 8):Nat):Int)=v:=by
 obtain⟨n,rfl⟩:=Int.eq_ofNat_of_zero_le h0;rw[VE n (by omega)]
theorem Xv (h:l≠[]):l.getD 0 0∈l:=by
 cases l with
 | nil=>exact absurd rfl h
 | cons x t=>exact List.mem_cons_self
theorem zM {t:Nat} (ht:t<=3) (hu:U64 l) (hl:l.length<=65536) (h:(QE l t).2=0):Yh (QE l t).1 l.length t=(l,0):=by
 rcases WW ht with rfl | rfl | rfl | rfl
 ·rw[W11_0]
  unfold Yh;rw[if_neg (by omega),if_neg (by omega),if_neg (by omega),if_neg (by rw[UH];omega),if_neg (by rw[UH];omega)];have:=Dp l [] hu;rw[List.append_nil] at this;rw[this]
 ·rw[W11_1] at *
  by_cases c:l=[]∨¬YB l
  ·rw[if_pos c] at h;cases h
  ·rw[if_neg c]
   have h0:l≠[]:=λe=>c (.inl e)
   have hs:YB l:=Classical.byContradiction λe=>c (.inr e)
   unfold Yh;rw[if_neg (by omega),if_neg (by omega),if_pos rfl,if_neg (by rw[Qv];omega),if_neg (by rw[Qv];omega)];rw[List.take_of_length_le (by rw[Qv];omega),yu (hu _ (Xv h0)).1 (hu _ (Xv h0)).2,<-uy hs]
 ·exact tD hu hl
 ·exact yi hu hl
theorem Iv {n t:Nat} (hr:∀y∈ys,0<=y∧y<=255) (h:(Yh ys n t).2=0):U64 (Yh ys n t).1∧(Yh ys n t).1.length=n:=by
 unfold Yh at *
 by_cases c2:t=2
 ·rw[if_pos c2] at h ⊢
  obtain⟨_,_,h3,h4,_⟩:=DY hr h;exact⟨h4,by omega⟩
 ·rw[if_neg c2] at h ⊢
  by_cases c3:t=3
  ·rw[if_pos c3] at h ⊢
   obtain⟨_,_,h3,h4,_⟩:=DK h;exact⟨h4,by omega⟩
  ·rw[if_neg c3] at h ⊢
   by_cases c1:t=1
   ·rw[if_pos c1] at h ⊢
    by_cases a1:ys.length<8
    ·rw[if_pos a1] at h;cases h
    ·rw[if_neg a1] at h ⊢
     by_cases a2:8<ys.length
     ·rw[if_pos a2] at h;cases h
     ·rw[if_neg a2]
      refine⟨λx hx=>?_,by rw[List.length_replicate]⟩;rw[List.eq_of_mem_replicate hx];have h1:=Wx (ys.take 8) (λy hy=>hr y (List.mem_of_mem_take hy));have h2:(256:Nat)^(ys.take 8).length<=256^8:=Nat.pow_le_pow_right (by omega) (by rw[Qg];omega)
      have h3:(256:Nat)^8=18446744073709551616:=by decide
      omega
   ·rw[if_neg c1] at h ⊢
    by_cases a1:ys.length<8*n
    ·rw[if_pos a1] at h;cases h
    ·rw[if_neg a1] at h ⊢
     by_cases a2:8*n<ys.length
     ·rw[if_pos a2] at h;cases h
     ·rw[if_neg a2]
      exact⟨Vl n ys hr,Wt n ys⟩
theorem KV (l:LI):∀t,(QU l t).1<=t∧QE l (QU l t).1=((QU l t).2,0)∧∀s,s<=t->(QE l s).2=0->(QU l t).2.length<=(QE l s).1.length
 | 0=>⟨Zu,rfl,λs hs _=>by
  obtain rfl:s=0:=by omega
  exact Zu⟩
 | t+1=>by
  obtain⟨h1,h2,h3⟩:=KV l t;rw[QU]
  by_cases c:(QE l (t+1)).2=0∧(QE l (t+1)).1.length<(QU l t).2.length
  ·rw[if_pos c]
   refine⟨Zu,Prod.ext rfl c.1,λs hs he=>?_⟩
   rcases Nat.lt_or_ge s (t+1) with e | e
   ·have:=h3 s (by omega) he;simp only;omega
   ·obtain rfl:s=t+1:=by omega
    exact Zu
  ·rw[if_neg c]
   refine⟨by omega,h2,λs hs he=>?_⟩
   rcases Nat.lt_or_ge s (t+1) with e | e
   ·exact h3 s (by omega) he
   ·obtain rfl:s=t+1:=by omega
    rcases Nat.lt_or_ge (QE l (t+1)).1.length (QU l t).2.length with e2 | e2
    ·exact absurd ⟨he,e2⟩ c
    ·exact e2
theorem KW (hl:l.length<=65536):ENC11 l=(((QU l 3).1:Int) :: (QU l 3).2,0):=if_neg (by omega)
theorem Zk (hl:l.length<=65536):(ENC11 l).1.length<=1+8*l.length∧0<(ENC11 l).1.length:=by
 have h:=(KV l 3).2.2 0 (by omega) rfl;rw[W11_0] at h;simp only[UH] at h;rw[KW hl];simp only[Qk];omega
theorem TQ (l:LI):∀y∈(ENC11 l).1,0<=y∧y<=255:=by
 unfold ENC11
 by_cases h:65536<l.length
 ·rw[if_pos h];intro y hy;simp at hy
 ·rw[if_neg h]
  obtain⟨h1,h2,_⟩:=KV l 3;intro y hy
  rcases List.mem_cons.1 hy with rfl | hy
  ·omega
  ·have:=xe (l:=l) h1
   rw[h2] at this;exact this y hy
theorem J1 (hl:l.length<=65536) (t:Nat) (ht:t<=3):WAY11 l t=QE l t:=by
 unfold WAY11;rw[if_neg (by omega),if_neg (by omega),Int.toNat_natCast]
theorem Nu {tag:Int}:(WAY11 l tag).1.length<=2000000:=by
 unfold WAY11
 by_cases c:tag<0∨3<tag
 ·rw[if_pos c];simp
 ·rw[if_neg c]
  by_cases hl:65536<l.length
  ·rw[if_pos hl];simp
  ·rw[if_neg hl]
   rcases WW (t:=tag.toNat) (by omega) with e | e | e | e <;> rw[e]
   ·rw[W11_0];simp only[UH];omega
   ·rw[W11_1];split <;> simp[Qv]
   ·rw[W11_2,VI (by omega)]
    have h1:=Yu (Sa (l:=l) (by omega));have h2:=V9 l;have h3:=wP_le (k:=(dic l).length) (by omega)
    have h4:(Yx (dic l) l).length<=65536*16:=by rw[Rb];exact Nat.mul_le_mul (by omega) h3
    simp only[Qb,UH,UM];unfold nb;omega
   ·rw[W11_3,VV (by omega)]
    have:=(y9 l).1;simp only[UM];unfold nb;omega
theorem tR (hl:l.length<=65536) (ys:LI) (n:Nat) (hn:n=l.length):DEC11 (((QU l 3).1:Int) :: ys) n=if (Yh ys n (QU l 3).1).2≠0 then ([],(Yh ys n (QU l 3).1).2) else if (ENC11 (Yh ys n (QU l 3).1).1).1=((QU l 3).1:Int) :: ys then ((Yh ys n (QU l 3).1).1,0) else ([],3):=by
 have h1:=(KV l 3).1;unfold DEC11;rw[if_neg (by omega),if_neg (List.cons_ne_nil _ _),List.getD_cons_zero,if_neg (by omega),List.drop_succ_cons,List.drop_zero,Int.toNat_natCast,Int.toNat_natCast]
theorem uh (hu:U64 l) (hl:l.length<=65536):DEC11 (ENC11 l).1 l.length=(l,0):=by
 obtain⟨h1,h2,_⟩:=KV l 3;have hR:=zM h1 hu hl (by rw[h2]);rw[h2] at hR;rw[KW hl];simp only;rw[tR hl _ _ rfl,hR];simp only[ne_eq,not_true_eq_false,if_false];rw[KW hl,if_pos rfl]
theorem Ll {b:LI} {n:Int} (hr:∀y∈b,0<=y∧y<=255) (h:(DEC11 b n).2=0):0<=n∧n<=65536∧((DEC11 b n).1.length:Int)=n∧U64 (DEC11 b n).1∧ENC11 (DEC11 b n).1=(b,0):=by
 unfold DEC11 at *
 by_cases c1:n<0∨65536<n
 ·rw[if_pos c1] at h;cases h
 ·rw[if_neg c1] at h ⊢
  by_cases c2:b=[]
  ·rw[if_pos c2] at h;cases h
  ·rw[if_neg c2] at h ⊢
   by_cases c3:3<b.getD 0 0
   ·rw[if_pos c3] at h;cases h
   ·rw[if_neg c3] at h ⊢
    by_cases c4:(Yh (b.drop 1) n.toNat (b.getD 0 0).toNat).2≠0
    ·rw[if_pos c4] at h;exact absurd h c4
    ·rw[if_neg c4] at h ⊢
     by_cases c5:(ENC11 (Yh (b.drop 1) n.toNat (b.getD 0 0).toNat).1).1=b
     ·rw[if_pos c5]
      obtain⟨k1,k2⟩:=Iv (ys:=b.drop 1) (n:=n.toNat) (t:=(b.getD 0 0).toNat) (λy hy=>hr y (List.mem_of_mem_drop hy)) (by simpa using c4);refine⟨by omega,by omega,by rw[k2];omega,k1,?_⟩;have e:=KW (l:=(Yh (b.drop 1) n.toNat (b.getD 0 0).toNat).1) (by rw[k2];omega);rw[e] at c5 ⊢;simp only at c5;simp only[c5]
     ·rw[if_neg c5] at h;cases h
theorem Bq {t:Nat} (ht:t<=3) (hne:l≠[]) (hl:l.length<=65536) (h:(QE l t).2=0):8<=(QE l t).1.length:=by
 have hp:=List.length_pos_iff.2 hne
 rcases WW ht with rfl | rfl | rfl | rfl
 ·rw[W11_0];simp only[UH];omega
 ·rw[W11_1] at *
  by_cases c:l=[]∨¬YB l
  ·rw[if_pos c] at h;cases h
  ·rw[if_neg c];simp only[Qv];omega
 ·rw[W11_2,VI hl]
  have:=Bl hne;simp only[Qb,UH];omega
 ·rw[W11_3,VV hl]
  have h64:64<=(GB l).length:=by
   cases l with
   | nil=>exact absurd rfl hne
   | cons y t=>unfold GB;rw[Qb,Yo];omega
  simp only[UM];unfold nb;omega
theorem yl (v:Int) (k:Nat) (hl:k+1<=65536):(ENC11 (List.replicate (k+1) v)).1.length=9:=by
 have h4:(List.replicate (k+1) v).length<=65536:=by rw[List.length_replicate];exact hl
 have h0:List.replicate (k+1) v≠[]:=by rw[List.replicate_succ];exact List.cons_ne_nil _ _
 obtain⟨h1,h2,h3⟩:=KV (List.replicate (k+1) v) 3
 have hs:YB (List.replicate (k+1) v):=Qcq.2 λx hx=>by rw[List.eq_of_mem_replicate hx,List.replicate_succ];rfl
 have e1:QE (List.replicate (k+1) v) 1=(fixL ((List.replicate (k+1) v).getD 0 0) 8,0):=by
  rw[W11_1,if_neg (by
   intro c;rcases c with c | c
   ·exact h0 c
   ·exact c hs)]
 have a1:=h3 1 (by omega) (by rw[e1]);rw[e1] at a1;simp only[Qv] at a1;have a2:=Bq h1 h0 h4 (by rw[h2]);rw[h2] at a2;simp only at a2;rw[KW h4];simp only[Qk];omega
def e8c (l:LI):LI:=(ENC8 l).1
def e11c (l:LI):LI:=(ENC11 l).1
theorem rW:Codec e8c DEC8 I64s where
 back:=λ_ g h=>jz g h
 ok:=λb n hr h=>by
  obtain⟨_,_,h3,h4,h5⟩:=Ap (b:=b) (n:=n) hr h;exact⟨h3,h4,by unfold e8c;rw[h5]⟩
 len:=λ_ h=>(Ht h).1
theorem vz:Codec e11c DEC11 U64 where
 back:=λ_ g h=>uh g h
 ok:=λb n hr h=>by
  obtain⟨_,_,h3,h4,h5⟩:=Ll (b:=b) (n:=n) hr h;exact⟨h3,h4,by unfold e11c;rw[h5]⟩
 len:=λ_ h=>(Zk h).1
def ENCC (tn:LI) (s:List (Int × Int)):LI × Int:=ENC12 e8c e11c tn s
def DECC (b:LI):(LI × List (Int × Int)) × Int:=DEC12 DEC8 DEC11 b
def Gs (s:List (Int × Int)):Prop:=I64s (s.map Prod.fst)∧U64 (s.map Prod.snd)
theorem Bh {tn:LI} {s:List (Int × Int)} (ht:tn.length<=64) (hs:s.length<=65536) (g:Gs s):DECC (ENCC tn s).1=((tn,s),0):=ug rW vz ht hs g.1 g.2
theorem rC {b:LI} (h:(DECC b).2≠0):(DECC b).1=QM:=AW h
theorem GK {tn:LI} {s:List (Int × Int)} (h:64<tn.length∨65536<s.length):ENCC tn s=([],4):=if_pos h
theorem V4 {tn:LI} {s:List (Int × Int)} (h:tn.length<=64) (h':s.length<=65536):ENCC tn s=(1 :: (blk tn++(gs s.length++(blk (e8c (s.map Prod.fst))++blk (e11c (s.map Prod.snd))))),0):=if_neg (by omega)
section
open Go.ChangeShapes Go.WideShapes
def Sps (w:World) (v:Value) (s:List (Int × Int)):Prop :=
 ∃ao cap,v=.slice ao s.length cap∧s.length<=cap∧(s≠[]->∃b off,ao=some ⟨b,off,none⟩∧∀j,j<s.length ->
  w.cell? ⟨b,off+j*2,none⟩=some (.int .i64 (s.getD j (0,0)).1)∧w.cell? ⟨b,off+j*2+1,none⟩=some (.int .u64 (s.getD j (0,0)).2))
theorem Sps.len {s:List (Int × Int)} (h:Sps w v s):∃ao cap,v=.slice ao s.length cap:=by
 obtain⟨ao,cap,rfl,_⟩:=h;exact⟨ao,cap,rfl⟩
theorem Sps.nil (w:World):Sps w (.slice none 0 0) []:=⟨none,0,rfl,Zu,λh=>absurd rfl h⟩
theorem Sps.at {s:List (Int × Int)} (h:Sps w v s) (j:Nat) (hj:j<s.length) :
 ∃b off cap,v=.slice (some ⟨b,off,none⟩) s.length cap∧w.cell? ⟨b,off+j*2,none⟩=some (.int .i64 (s.getD j (0,0)).1)∧w.cell? ⟨b,off+j*2+1,none⟩=some (.int .u64 (s.getD j (0,0)).2):=by
 obtain⟨ao,cap,rfl,_,hr⟩:=h;obtain⟨b,off,rfl,hc⟩:=hr (by intro h0;subst h0;simp at hj);exact⟨b,off,cap,rfl,hc j hj⟩
theorem Sps.keep {s:List (Int × Int)} (h:Sps w v s) {S:Nat->Prop} (ho:Only S w w') (hs:∀b,v.ownBlock=some b->¬S b):Sps w' v s:=by
 obtain⟨ao,cap,rfl,hl,hr⟩:=h;refine⟨ao,cap,rfl,hl,λhne=>?_⟩;obtain⟨b,off,rfl,hc⟩:=hr hne;refine⟨b,off,rfl,λj hj=>?_⟩;have hb:¬S b:=hs b rfl;obtain⟨h0,h1⟩:=hc j hj;have hlt:b<w.heap.size:=World.block_lt_of_cell? w _ h0;have e:=ho.block b hlt hb;exact⟨by rw[<-h0];unfold World.cell?;rw[e],by rw[<-h1];unfold World.cell?;rw[e]⟩
theorem Sps.past {s:List (Int × Int)} (h:Sps w v s) (o:N0 w w'):Sps w' v s:=h.keep o (λ_ _ f=>f)
end
def prt (l:LI) (n k:Nat):LI:=l.take k++List.replicate (n - k) 0
theorem PO (l:LI) (k:Nat) (hk:k<=l.length):(prt l l.length k).length=l.length:=by
 simp[prt];omega
theorem MF (kd:IntKind) (l:LI) (n:Nat):(prt l n 0).map (Value.int kd)=(madeCells #[Value.int kd 0] (n*1)).toList:=by
 simp only[prt,List.take_zero,List.nil_append,Nat.sub_zero,List.map_replicate];unfold madeCells
 apply List.ext_getElem
 ·simp
 ·intro i h1 h2
  simp[Nat.mod_one]
theorem Lr (l:LI):prt l l.length l.length=l:=by simp[prt]
theorem Ra (l:LI) (k:Nat) (h:k<l.length):(prt l l.length k).set k (l.getD k 0)=prt l l.length (k+1):=by
 unfold prt;obtain⟨m,hm⟩:∃m,l.length - k=m+1:=⟨l.length - k - 1,by omega⟩;rw[hm,show l.length - (k+1)=m by omega,List.replicate_succ,List.set_append_right _ _ (by simp;omega)];rw[List.take_succ_eq_append_getElem h]
 have e:k - (l.take k).length=0:=by simp;omega
 rw[e,Qn,List.append_assoc];simp[List.getD_eq_getElem?_getD,List.getElem?_eq_getElem h]
theorem pgetD (s:List (Int × Int)) (k:Nat):((s.map Prod.fst).getD k 0=(s.getD k (0,0)).1)∧((s.map Prod.snd).getD k 0=(s.getD k (0,0)).2):=by
 rw[Qc,Qc,Qc,List.getElem?_map,List.getElem?_map]
 cases s[k]? <;> exact⟨rfl,rfl⟩
theorem xh (v:Value) (s:List (Int × Int)) (w:World) (h:Sps w v s) (hl:s.length<=65536) :
 Calls prog 32 #[v] w λe w'=>∃u1 u2,e=.returned (.tuple #[u1,u2])∧Bs .i64 w' u1 (s.map Prod.fst)∧Bs .u64 w' u2 (s.map Prod.snd)∧N0 w w':=by
 obtain⟨i0,hi,hz0,hz1,hz2⟩:=info_parts Tryz.infoI64;obtain⟨j0,hj,gz0,gz1,gz2⟩:=info_parts Tryz.infoU64;have HB:=Qa h;obtain⟨ao,cap,rfl⟩:=h.len;obtain⟨n,hn⟩:=EX s.length;rw[<-hn] at hl HB;rw[<-hn];have HN:=Qa hn;obtain⟨wm,hp,h4,hq⟩:=run_make_full (P:=prog) w w.heap.size 75 3 i0 (.int .i64 0) 1 underlying75 hi hz0 hz1 .i64 .i64 n (by rw[hz2];omega) (by unfold maxLen;omega) Zu;obtain⟨wk,ha,h6,hg⟩:=run_make_full (P:=prog) wm wm.heap.size 76 29 j0 (.int .u64 0) 1 underlying76 hj gz0 gz1 .i64 .i64 n (by rw[gz2];omega) (by unfold maxLen;omega) Zu
 have h0:Hid (wk.ownsRow w.heap.size 3 1 (.slice (some ⟨w.heap.size,0,none⟩) n n) n ((prt (s.map Prod.fst) n 0).map (Value.int .i64))∧wk.ownsRow wm.heap.size 29 1 (.slice (some ⟨wm.heap.size,0,none⟩) n n) n ((prt (s.map Prod.snd) n 0).map (Value.int .u64))∧N0 w wk∧w.heap.size<wm.heap.size):=by
  rw[show (Value.int .u64 0).cells=#[Value.int .u64 0] from rfl] at h6;rw[show (Value.int .i64 0).cells=#[Value.int .i64 0] from rfl] at h4;rw[MF,MF];have o1:N0 w wm:=VG.grown hq (λ_ _ e=>by cases e);have o2:N0 wm wk:=VG.grown hg (λ_ _ e=>by cases e);exact⟨o2.own h4 (λ_ _ f=>f),h6,o1.same o2,(h4.lt _ rfl).2⟩
 clear h4 hq h6 hg;obtain⟨N,hN⟩:=EX w.heap.size;obtain⟨M,hM⟩:=EX wm.heap.size;rw[<-hN] at hp h0;rw[<-hM] at ha h0;have HNN:=Qa hN;have HMM:=Qa hM;clear h hn hN hM;go_enter func32,ntmps32;go_wp2
 go_loopw [16] (λi wr=>∃k:Nat,k<=n∧i=.int .i64 k∧wr.ownsRow N 3 1 (.slice (some ⟨N,0,none⟩) n n) n ((prt (s.map Prod.fst) n k).map (Value.int .i64))∧wr.ownsRow M 29 1 (.slice (some ⟨M,0,none⟩) n n) n ((prt (s.map Prod.snd) n k).map (Value.int .u64))∧N0 w wr) (λi _=>n - (intOf i).toNat)
 case atStart=>exact⟨0,Nat.zero_le _,rfl,h0.o.1,h0.o.2.1,h0.o.2.2.1⟩
 case round =>
  obtain⟨k,hk,rfl,h5,h3,hh⟩:=hrel;have HNM:N<M:=h0.o.2.2.2;clear h0 hp ha;have hf:=Qa h5;have h7:=Qa h3;have ho:=Qa hh
  by_cases hlt:k<n
  ·have dlt:decide ((k:Int)<(n:Int))=true:=by simp;omega
   have dlt2:(k:Int)<(n:Int):=by omega
   have hm:k<s.length:=by rw[<-HN.o];exact hlt
   obtain⟨b,off,cap',e1,hc0,hc1⟩:=(HB.o.past hh).at k hm
   have ea:ao=some ⟨b,off,none⟩:=by simp at e1;exact e1.1
   subst ea;clear e1
   have hd:∃y,wr.cell? ⟨N,k,none⟩=some (.int .i64 y):=by
    have hz:=PO (s.map Prod.fst) k (by simp;omega);rw[List.length_map,<-HN.o] at hz;refine⟨(prt (s.map Prod.fst) n k).getD k 0,?_⟩;rw[h5.cellAt k (by omega),List.getElem?_map,Qh (by rw[hz];omega),Qc,Qh (by rw[hz];omega)]
    rfl
   have h8:∃y,wr.cell? ⟨M,k,none⟩=some (.int .u64 y):=by
    have hz:=PO (s.map Prod.snd) k (by simp;omega);rw[List.length_map,<-HN.o] at hz;refine⟨(prt (s.map Prod.snd) n k).getD k 0,?_⟩;rw[h3.cellAt k (by omega),List.getElem?_map,Qh (by rw[hz];omega),Qc,Qh (by rw[hz];omega)]
    rfl
   obtain⟨y,hy⟩:=hd;obtain⟨y2,hy2⟩:=h8;have hfr:wr.frozen? ⟨N,k,none⟩=false:=h5.frozenAt _;have hfr2:wr.frozen? ⟨M,k,none⟩=false:=h3.frozenAt _;have hNlt:N<wr.heap.size:=(h5.lt _ rfl).2;have hMlt:M<wr.heap.size:=(h3.lt _ rfl).2
   have he:Hid (((prt (s.map Prod.fst) n k).map (Value.int .i64)).set k (.int .i64 (s.getD k (0,0)).1)=(prt (s.map Prod.fst) n (k+1)).map (Value.int .i64)):=by
    simp only[Hid];rw[<-List.map_set,<-(pgetD s k).1];have:=Ra (s.map Prod.fst) k (by simpa using hm);rw[List.length_map,<-HN.o] at this;rw[this]
   have h9:Hid (((prt (s.map Prod.snd) n k).map (Value.int .u64)).set k (.int .u64 (s.getD k (0,0)).2)=(prt (s.map Prod.snd) n (k+1)).map (Value.int .u64)):=by
    simp only[Hid];rw[<-List.map_set,<-(pgetD s k).2];have:=Ra (s.map Prod.snd) k (by simpa using hm);rw[List.length_map,<-HN.o] at this;rw[this]
   generalize (s.getD k (0,0)).1=x at *;generalize (s.getD k (0,0)).2=z at *
   have ne1:¬N=M:=by omega
   have ne2:¬M=N:=by omega
   have ne3:¬N=wr.heap.size:=by omega
   have ne4:¬M=wr.heap.size:=by omega
   have ne5:¬wr.heap.size=N:=by omega
   have ne6:¬wr.heap.size=M:=by omega
   have hk0:(0:Int)<=(k:Int):=by omega
   clear h5 h3 hh HB hm;go_wp2;go_region;go_wp2
   go_roundw
   case rel =>
    have e1:=(hf.o.stored k (.int .i64 x)).1;rw[he.o] at e1;have o1:Only (λb=>b=N) wr (wr.setCell ⟨N,k,none⟩ (.int .i64 x)):=(Only.refl (λb=>b=N) wr).setCell (p:=⟨N,k,none⟩) (λ_=>rfl) _;have e2:=((o1.own h7.o (λb hb e=>by cases hb;exact ne2 e)).stored k (.int .u64 z)).1;rw[h9.o] at e2;have o2:Only (λb=>b=M) (wr.setCell ⟨N,k,none⟩ (.int .i64 x)) ((wr.setCell ⟨N,k,none⟩ (.int .i64 x)).setCell ⟨M,k,none⟩ (.int .u64 z)):=(Only.refl (λb=>b=M) _).setCell (p:=⟨M,k,none⟩) (λ_=>rfl) _;have o3:N0 ((wr.setCell ⟨N,k,none⟩ (.int .i64 x)).setCell ⟨M,k,none⟩ (.int .u64 z)) ((((wr.setCell ⟨N,k,none⟩ (.int .i64 x)).setCell ⟨M,k,none⟩ (.int .u64 z)).alloc (Obj.cells #[Value.int IntKind.i64 x,Value.int IntKind.u64 z] 60)).drew):=(VG.alloc _).drew;have hNw:=HNN.o;have hMN:=HNM;refine⟨k+1,by omega,by go_num,o3.own (o2.own e1 (λb hb e=>by cases hb;exact ne1 e)) (λ_ _ f=>f),o3.own e2 (λ_ _ f=>f),?_⟩;exact ((ho.o.trans o1 (λb hb e=>by omega)).trans o2 (λb hb e=>by omega)).trans o3 (λ_ _ f=>f)
   case measure=>simp[intOf];omega
  ·obtain rfl:k=n:=by omega
   have dlt:decide ((k:Int)<(k:Int))=false:=by simp
   have F:Hid (Bs .i64 wr (.slice (some ⟨N,0,none⟩) k k) (s.map Prod.fst)∧Bs .u64 wr (.slice (some ⟨M,0,none⟩) k k) (s.map Prod.snd)):=by
    have h1:=hf.o;have h2:=h7.o;have e1:=Lr (s.map Prod.fst);have e2:=Lr (s.map Prod.snd);rw[List.length_map,<-HN.o] at e1 e2;rw[e1] at h1;rw[e2] at h2;refine⟨Bs.of_own (lo:=N) (E:=3) ?_,Bs.of_own (lo:=M) (E:=29) ?_⟩
    ·rw[List.length_map,<-HN.o];exact h1
    ·rw[List.length_map,<-HN.o];exact h2
   clear h5 h3 hh;go_wp2;go_ret2;exact⟨_,_,rfl,F.o.1,F.o.2,ho.o⟩
def QO (s:List (Int × Int)):List Value:=s.flatMap λp=>[.int .i64 p.1,.int .u64 p.2]
theorem XJ (p:Int × Int) (s:List (Int × Int)):QO (p :: s)=.int .i64 p.1 :: .int .u64 p.2 :: QO s:=rfl
theorem vM (s:List (Int × Int)):(QO s).length=s.length*2:=by
 induction s with
 | nil=>rfl
 | cons p s ih=>rw[XJ,Qk,Qk,Qk,ih];omega
theorem Hu (s:List (Int × Int)):∀(j:Nat),j<s.length->(QO s)[j*2]? = some (.int .i64 (s.getD j (0,0)).1)∧(QO s)[j*2+1]? = some (.int .u64 (s.getD j (0,0)).2):=by
 induction s with
 | nil=>intro j hj;simp at hj
 | cons p s ih =>
  intro j hj
  cases j with
  | zero=>exact⟨rfl,rfl⟩
  | succ j =>
   have:=ih j (by simpa using hj);rw[XJ,show (j+1)*2=j*2+1+1 by omega]
   simpa using this
theorem rq (s:List (Int × Int)):∀(j:Nat) (a b:Int),j<s.length->((QO s).set (j*2) (.int .i64 a)).set (j*2+1) (.int .u64 b)=QO (s.set j (a,b)):=by
 induction s with
 | nil=>intro j a b hj;simp at hj
 | cons p s ih =>
  intro j a b hj
  cases j with
  | zero=>rfl
  | succ j =>
   have:=ih j a b (by simpa using hj);rw[XJ,show (j+1)*2=j*2+1+1 by omega,Qo,Qo,Qo,Qo,Qo,XJ,this]
theorem Sps.of_own {lo:Nat} {s:List (Int × Int)} (h:w.ownsRow lo E 2 v s.length (QO s)):Sps w v s:=by
 rcases h.2 with ⟨rfl,hn⟩ | ⟨g,cap,cur,rfl,_,hg,hnc,_,hcs,htk⟩
 ·have:s=[]:=List.eq_nil_of_length_eq_zero hn
  subst this;exact Sps.nil w
 ·refine⟨_,cap,rfl,hnc,λ_=>⟨g,0,rfl,λj hj=>?_⟩⟩
  have hc:∀i,i<s.length*2->w.cell? ⟨g,0+i,none⟩=(QO s)[i]?:=λi hi=>by
   rw[<-htk,List.getElem?_take_of_lt hi];simp[World.cell?,hg]
  obtain⟨h0,h1⟩:=Hu s j hj;exact⟨by rw[hc _ (by omega)];exact h0,by rw[Nat.add_assoc,hc _ (by omega)];exact h1⟩
def ppart (s:List (Int × Int)) (n k:Nat):List (Int × Int):=s.take k++List.replicate (n - k) (0,0)
theorem xQ (s:List (Int × Int)) (k:Nat) (hk:k<=s.length):(ppart s s.length k).length=s.length:=by
 simp[ppart];omega
theorem jx (s:List (Int × Int)) (n:Nat):QO (ppart s n 0)=(madeCells #[Value.int .i64 0,Value.int .u64 0] (n*2)).toList:=by
 simp only[ppart,List.take_zero,List.nil_append,Nat.sub_zero];unfold madeCells
 apply List.ext_getElem?
 intro i;have hl:=vM (List.replicate n ((0:Int),(0:Int)));rw[List.length_replicate] at hl
 by_cases h:i<n*2
 ·obtain⟨h0,h1⟩:=Hu (List.replicate n ((0:Int),(0:Int))) (i / 2) (by simp;omega)
  have hg:(List.replicate n ((0:Int),(0:Int))).getD (i / 2) (0,0)=(0,0):=by
   rw[Qc,List.getElem?_replicate];split <;> rfl
  rw[hg] at h0 h1
  rcases Nat.mod_two_eq_zero_or_one i with hm | hm
  ·rw[show i / 2*2=i by omega] at h0
   rw[h0];simp[h,hm]
  ·rw[show i / 2*2+1=i by omega] at h1
   rw[h1];simp[h,hm]
 ·rw[List.getElem?_eq_none (by omega),List.getElem?_eq_none (by simp;omega)]
theorem Bd (s:List (Int × Int)):ppart s s.length s.length=s:=by simp[ppart]
theorem AD (s:List (Int × Int)) (k:Nat) (h:k<s.length):(ppart s s.length k).set k (s.getD k (0,0))=ppart s s.length (k+1):=by
 unfold ppart;obtain⟨m,hm⟩:∃m,s.length - k=m+1:=⟨s.length - k - 1,by omega⟩;rw[hm,show s.length - (k+1)=m by omega,List.replicate_succ,List.set_append_right _ _ (by simp;omega)];rw[List.take_succ_eq_append_getElem h]
 have e:k - (s.take k).length=0:=by simp;omega
 rw[e,Qn,List.append_assoc];simp[List.getD_eq_getElem?_getD,List.getElem?_eq_getElem h]
theorem Tryz.infoSm:(prog.info? 60).map (λi=>(i.zero,i.size,i.bytes))=some (some (.agg #[.int .i64 0,.int .u64 0]),2,16):=by kernel_rfl
theorem qp (v1 v2:Value) (s:List (Int × Int)) (w:World) (h1:Bs .i64 w v1 (s.map Prod.fst)) (h2:Bs .u64 w v2 (s.map Prod.snd)) (hl:s.length<=65536) :
 Calls prog 226 #[v1,v2] w λe w'=>∃u,e=.returned u∧w'.ownsRow w.heap.size 60 2 u s.length (QO s)∧N0 w w':=by
 obtain⟨i0,hi,hz0,hz1,hz2⟩:=info_parts Tryz.infoSm;have hd:=Qa h1;have he:=Qa h2;obtain⟨ao,cap,rfl⟩:=h1.len;obtain⟨ao2,cap2,rfl⟩:=h2.len;obtain⟨n,hn⟩:=EX s.length;rw[List.length_map,<-hn] at hd he;rw[List.length_map,List.length_map,<-hn];rw[<-hn] at hl;have HN:=Qa hn;obtain⟨wm,hj,h4,hh⟩:=run_make_full (P:=prog) w w.heap.size 44 60 i0 (.agg #[.int .i64 0,.int .u64 0]) 2 underlying44 hi hz0 hz1 .i64 .i64 n (by rw[hz2];omega) (by unfold maxLen;omega) Zu
 have h0:Hid (wm.ownsRow w.heap.size 60 2 (.slice (some ⟨w.heap.size,0,none⟩) n n) n (QO (ppart s n 0))∧N0 w wm):=by
  rw[jx];exact⟨h4,VG.grown hh (λ_ _ e=>by cases e)⟩
 clear h4 hh;obtain⟨N,hN⟩:=EX w.heap.size;rw[<-hN] at hj h0;rw[<-hN];have HNN:=Qa hN;clear h1 h2 hn hN;go_enter func226,ntmps226;go_wp2
 go_loopw [13] (λi wr=>∃k:Nat,k<=n∧i=.int .i64 k∧wr.ownsRow N 60 2 (.slice (some ⟨N,0,none⟩) n n) n (QO (ppart s n k))∧N0 w wr) (λi _=>n - (intOf i).toNat)
 case atStart=>exact⟨0,Nat.zero_le _,rfl,h0.o.1,h0.o.2⟩
 case round =>
  obtain⟨k,hk,rfl,h3,h5⟩:=hrel;clear h0 hj;have h6:=Qa h3;have hf:=Qa h5
  by_cases hlt:k<n
  ·have dlt:decide ((k:Int)<(n:Int))=true:=by simp;omega
   have h8:k<s.length:=by rw[<-HN.o];exact hlt
   obtain⟨b,off,cap',e1,hc0⟩:=(hd.o.past h5).at k (by simpa using h8)
   have ea:ao=some ⟨b,off,none⟩:=by simp at e1;exact e1.1
   subst ea;clear e1;obtain⟨b2,ha,hm,e2,hc2⟩:=(he.o.past h5).at k (by simpa using h8)
   have ea:ao2=some ⟨b2,ha,none⟩:=by simp at e2;exact e2.1
   subst ea;clear e2;rw[(pgetD s k).1] at hc0;rw[(pgetD s k).2] at hc2;have hz:=xQ s k (by omega);rw[<-HN.o] at hz;have h9:=Hu (ppart s n k) k (by omega)
   have hg:∀i,i<n*2->wr.cell? ⟨N,i,none⟩=(QO (ppart s n k))[i]?:=λi hi=>h3.cellAt i hi
   have hy1:=hg (k*2) (by omega);have hy2:=hg (k*2+1) (by omega);rw[h9.1] at hy1;rw[h9.2] at hy2;have hfr:wr.frozen? ⟨N,k*2,none⟩=false:=h3.frozenAt _;have hfr2:wr.frozen? ⟨N,k*2+1,none⟩=false:=h3.frozenAt _
   have h7:Hid (((QO (ppart s n k)).set (k*2) (.int .i64 (s.getD k (0,0)).1)).set (k*2+1) (.int .u64 (s.getD k (0,0)).2)=QO (ppart s n (k+1))):=by
    simp only[Hid];rw[rq _ _ _ _ (by omega)];have:=AD s k h8;rw[<-HN.o] at this;rw[<-this]
   generalize (s.getD k (0,0)).1=x at *;generalize (s.getD k (0,0)).2=z at *;generalize ((ppart s n k).getD k (0,0)).1=y1 at *;generalize ((ppart s n k).getD k (0,0)).2=y2 at *;clear h3 h5 hd he h8 hz h9 hg;go_wp2
   go_roundw
   case rel =>
    have e1:=(h6.o.stored (k*2) (.int .i64 x)).1;have e2:=(e1.stored (k*2+1) (.int .u64 z)).1;rw[h7.o] at e2;have hNw:=HNN.o;refine⟨k+1,by omega,by go_num,e2,?_⟩;exact (hf.o.setCell (p:=⟨N,k*2,none⟩) (λhb=>by simp only at hb;omega) _).setCell (p:=⟨N,k*2+1,none⟩) (λhb=>by simp only at hb;omega) _
   case measure=>simp[intOf];omega
  ·obtain rfl:k=n:=by omega
   have dlt:decide ((k:Int)<(k:Int))=false:=by simp
   have F:Hid (wr.ownsRow N 60 2 (.slice (some ⟨N,0,none⟩) k k) k (QO s)):=by
    have h1:=h6.o;have e1:=Bd s;rw[<-HN.o] at e1;rw[e1] at h1;exact h1
   clear h3 h5;go_wp2;go_ret;exact⟨_,rfl,F.o,hf.o⟩
section
open Go.Shelf
attribute [local go_sem] Oper.semAt_some
theorem tY (F:Fence) (n:Nat) (h3:F.fn 170) (hro:F.round=none) (ao:Option Addr) (cap:Nat) (w:World) :
 CallsIn F n prog 170 #[.slice ao 0 cap] w λe W'=>e=.returned (.tuple #[.int .u64 0,.int .u64 0])∧Below w.heap.size w W':=by
 refine callsIn_of_wp_marks func170 rfl h3 ?_ hro;simp only[ntmps170,List.size_toArray,Qk,List.length_nil,Nat.reduceAdd,Nat.reduceSub,Array.replicate_succ,Array.replicate_zero,List.push_toArray,List.append_toArray,List.nil_append,List.cons_append]
 gi_wp2
 have bA:=(Boxed.new w 29 (.int .u64 0)).alloc (.cells #[.int .u64 0] 29);have bC:=Boxed.new (w.alloc (.cells #[.int .u64 0] 29)) 29 (.int .u64 0);rw[World.size_alloc] at bC;have r1:=bA.cell;have r3:=bC.cell;refine⟨.tuple #[.int .u64 0,.int .u64 0],?_,rfl,((Below.refl _ w).alloc (Nat.le_refl _) _).alloc (by simp) _⟩;simp[results,Tryz.f170,go_sem,r1,r3]
theorem tZ (v:Value) (xs:LI) (w:World) (h:Bs .u64 w v xs) (hl:xs.length<=1000000000) :
 Calls prog 170 #[v] w λe w'=>e=.returned (.tuple #[.int .u64 (lo xs),.int .u64 (hi xs)])∧N0 w w':=by
 obtain⟨ao,cap,rfl,hc,hr⟩:=h
 refine ((callsIn_wide (n:=3)).1 ?_:Calls prog 170 #[.slice ao xs.length cap] w λe w'=>e=.returned (.tuple #[.int .u64 (lo xs),.int .u64 (hi xs)])∧Below w.heap.size w w').mono λe w' h=>⟨h.1,YW h.2⟩
 cases xs with
 | nil=>exact tY _ _ trivial rfl ao cap w
 | cons x0 zs =>
  obtain⟨b,off,rfl,h2⟩:=hr (by simp);have c0:w.cell? ⟨b,off,none⟩=some (.int .u64 x0):=h2 0 (by simp)
  by_cases h1:cap=1
  ·subst h1
   have h0:zs=[]:=List.eq_nil_of_length_eq_zero (by rw[Qk] at hc;omega);subst h0;exact II _ _ trivial trivial trivial rfl (by omega) b off x0 w c0
  ·refine ze _ _ trivial trivial trivial rfl (by omega) b off cap zs x0 w c0 (by rw[Qk] at hl;omega) (by rw[Qk] at hc;omega) h1 ?_
   refine⟨_,_,rfl,λ_=>⟨b,off+1,rfl,World.block_lt_of_cell? w _ c0,λj hj=>?_⟩⟩;have:=h2 (j+1) (by rw[Qk];omega);rw[show off+1+j=off+(j+1) by omega,this];simp[List.getD_eq_getElem?_getD]
end
theorem JM (x y z:LI):cat (λi=>if i=0 then x else if i=1 then y else z) 3=x++y++z:=by
 rw[WV,WV,WV,NK];simp
theorem GP (v:Value) (xs:LI) (w:World) (h:Bs .u64 w v xs) (hu:U64 xs) (hl:xs.length<=65536) :
 Calls prog 129 #[v] w λe w'=>∃v',e=.returned (.tuple #[v',.int .i64 0])∧w'.ownsRow w.heap.size 5 1 v' (PK xs).length ((PK xs).map (Value.int .u8))∧N0 w w':=by
 have A:=Qa (tZ v xs w h (by omega));have hz:=Qa h;have HU:=Qa hu;obtain⟨l1,l2,l3⟩:=lohi hu;have HW:=Qa (wd_le hu);have hf:Hid (wd xs=wid (hi xs - lo xs).toNat):=rfl;obtain⟨ao,cap,rfl⟩:=h.len
 have d0:decide (65536<(xs.length:Int))=false:=by simp;omega
 obtain⟨m,hm⟩:=EX xs.length;rw[<-hm] at A hz hl d0 ⊢;have HM:=Qa hm;clear h hu hm;obtain⟨a,ha⟩:=EX (lo xs);obtain⟨c,hc⟩:=EX (hi xs);rw[<-ha,<-hc] at A hf l2;rw[<-ha] at l1;rw[<-hc] at l3;have HA:=Qa ha;have HCC:=Qa hc;clear ha hc;go_enter func129,ntmps129;go_wp2_with fail;refine A.o.mono ?_;rintro e w1 ⟨rfl,o1⟩;clear A;have HO:=Qa o1;have BW:=Qa (V2 (c - a) w1 (by omega) (by omega));clear o1;go_wp2_with fail;refine BW.o.mono ?_;rintro e w1' ⟨rfl,rfl⟩;clear BW;rw[<-hf.o];have hq:=HW.o;obtain⟨q,hj⟩:=EX (wd xs);rw[<-hj] at hq ⊢;have HQ:=Qa hj;clear hj hf HW
 have hq2:(q:Int)<=64:=by omega
 have W0:=Qa (WrAt.new (T:=214) (E:=5) w1);have ht:Hid (Below w1.heap.size w1 (w1.alloc (.cells #[.slice none 0 0,.int .i64 0] 214))):=(Below.refl _ _).alloc Zu _;have HSZ:=HO.o.size;go_wp2
 go_loopw [24] (λi wr=>∃k:Nat,k<=m∧i=.int .i64 k∧Below w1.heap.size w1 wr∧∃vw,WrAt 214 5 wr (w1.heap.size+1) w1.heap.size vw (ups a q (xs.take k))) (λi _=>m - (intOf i).toNat)
 case atStart=>exact⟨0,Nat.zero_le _,rfl,ht.o,_,W0.o⟩
 case round =>
  obtain⟨k,hk,rfl,hb,vw,h8⟩:=hrel;clear W0 ht;have hd:=Qa hb;have hn:=Qa h8
  by_cases hlt:k<m
  ·have h6:k<xs.length:=by rw[<-HM.o];exact hlt
   have k0:=(hz.o.keep HO.o (λ_ _ f=>f)).later hb;obtain⟨b,off,cap',e1,c0⟩:=k0.at k h6;simp only[Value.slice.injEq] at e1;obtain⟨rfl,e2,rfl⟩:=e1;clear e2
   have h7:xs.getD k 0∈xs:=by rw[Qc,Qh h6];simp
   obtain⟨x0,x1⟩:=HU.o _ h7;have x2:=lo_le xs _ h7;rw[<-HA.o] at x2;have x3:=D4 xs _ h7;rw[<-HA.o,<-HQ.o] at x3
   have hw:Hid (ups a q (xs.take (k+1))=ups a q (xs.take k)++Ql (xs.getD k 0 - a).toNat q):=by
    simp only[Hid];rw[UX xs k h6,zw]
   have hr:(ups a q (xs.take k)).length<=1000000000:=by
    rw[NM,Qg];have:min k xs.length*q<=65536*64:=Nat.mul_le_mul (by omega) hq;omega
   obtain⟨x,hx⟩:=EX (xs.getD k 0);rw[<-hx] at c0 x0 x1 x2 x3 hw;have PU:=Qa (We h8 (x - a) q (by omega) hq2 (by omega) (by omega) (by omega) hr)
   have dlt:decide ((k:Int)<(m:Int))=true:=by simp;omega
   clear k0 hx h7 x3 hr h8 hb h6;go_wp2_with fail;refine PU.o.mono ?_;rintro e w2 ⟨rfl,vw2,ho,hs,st2⟩;have HB2:=Qa (hd.o.trans (hs.below (B:=w1.heap.size) hd.o.size (hn.o.foot_ge Zu)));have HW2:=Qa ho;clear PU ho hs st2;go_wp2
   go_roundw
   case rel=>exact⟨k+1,by omega,by simp,HB2.o,vw2,by rw[hw.o];simpa using HW2.o⟩
   case measure=>simp[intOf];omega
  ·obtain rfl:k=m:=by omega
   have dlt:decide ((k:Int)<(k:Int))=false:=by simp
   have AP:=Qa (UO (.slice none 0 0) [] a wr (Bs.nil _ _) NoCap.nil (by simp) l1 (by omega));clear h8 hb;go_wp2_with fail;refine AP.o.mono ?_;rintro e w3 ⟨v3,rfl,h0,he⟩;clear AP;rw[List.nil_append] at h0
   have hv:(q:Int)<256:=by omega
   have hg:=Qa (Yu (v:=a.toNat) (by omega));have W3:=hn.o.keep ((he.trans ((Only.refl (λ_=>False) w3).alloc (.cells #[.int .u8 q] 5)) (λ_ _ f=>f))) (λf=>f) (λ_ _ f=>f)
   have hup:Hid (ups a q (xs.take k)=up xs):=by
    simp only[Hid];rw[HM.o,List.take_length,up,<-HA.o,<-HQ.o]
   rw[hup.o] at W3
   have h3:(up xs).length<=65536*64:=by rw[GJ,<-HQ.o,<-HM.o];exact Nat.mul_le_mul hl hq
   have BY:=Qa (ZM W3 (by omega));have O3:=Qa he;have W3':=Qa h0;have hh:=Qa h3;clear he h0 W3 h3;go_wp2_with fail;refine BY.o.mono ?_;rintro e w4 ⟨v4,rfl,h1,h5⟩;have h0:=h5.own (((Only.refl (λ_=>False) w3).alloc (.cells #[.int .u8 q] 5)).own W3'.o (λ_ _ f=>f)) (λ_ _ f=>f);clear BY;have b1:Bs .u8 w4 (.slice (some ⟨w3.heap.size,0,none⟩) 1 1) [(q:Int)]:=(Bs.lit .u8 w3 5 [(q:Int)]).keep h5 (λ_ _ f=>f);have h9:Below w4.heap.size w4 (w4.alloc (.cells #[v3,.slice (some ⟨w3.heap.size,0,none⟩) 1 1,v4] 23)):=(Below.refl _ _).alloc Zu _
   have CC:=Qa (VN w4.heap.size 3 (λi=>if i=0 then v3 else if i=1 then .slice (some ⟨w3.heap.size,0,none⟩) 1 1 else v4) (λi=>if i=0 then gs a.toNat else if i=1 then [(q:Int)] else QF (up xs)) (w4.alloc (.cells #[v3,.slice (some ⟨w3.heap.size,0,none⟩) 1 1,v4] 23)) (by omega) (by omega)
    (by
     intro i hi
     have:i=0∨i=1∨i=2:=by omega
     rcases this with rfl | rfl | rfl <;> go_cell)
    (by
     intro i hi
     have:i=0∨i=1∨i=2:=by omega
     rcases this with rfl | rfl | rfl
     ·exact (Bs.of_own h0).later h9
     ·exact b1.later h9
     ·exact (Bs.of_own h1).later h9)
    (by
     intro i hi
     have:i=0∨i=1∨i=2:=by omega
     rcases this with rfl | rfl | rfl
     ·exact NoCap.of_own h0
     ·exact NoCap.some _ _ _
     ·exact NoCap.of_own h1)
    (by rw[JM];simp;omega)
    (by
     rw[JM,Qb,Qb,UM,nb]
     have:=hh.o;have:=hg.o;simp;omega))
   rw[JM] at CC;have O4:=Qa h5;obtain⟨f3,cp3,hv3⟩:=(Bs.of_own h0).len;obtain⟨f4,cp4,hv4⟩:=(Bs.of_own h1).len;subst hv3 hv4;clear h0 h1 h5 b1 h9;go_wp2_with fail;refine CC.o.mono ?_;rintro e w5 ⟨v5,rfl,h2,hp⟩
   have hy:gs a.toNat++[(q:Int)]++QF (up xs)=PK xs:=by unfold PK;rw[<-HA.o,<-HQ.o];simp
   rw[hy] at h2;have s4:=O4.o.size;have s3:=O3.o.size;have sr:=hd.o.size;simp only[World.size_alloc] at h2 s4;have h4:=Qa (Qr h2 (show w.heap.size<=w4.heap.size+1 by omega));have bl:Hid (Below w.heap.size w w5):=((((HO.o.low (Nat.le_refl _)).trans (hd.o.mono HSZ)).trans (O3.o.low (by omega))).trans ((((Below.refl _ w3).alloc (by omega) _)).trans (O4.o.low (by simp;omega)))).trans (((Below.refl _ w4).alloc (by omega) _).trans (hp.low (by simp;omega)));clear h2 hp CC hy;obtain⟨f5,cp5,hv5⟩:=(Bs.of_own h4.o).len;subst hv5;go_wp2;go_ret2;exact⟨_,rfl,h4.o,YW bl.o⟩
theorem dclo (c:Nat) (x a:Int) (w:World) (hc:w.cell? ⟨c,0,none⟩=some (.int .i64 a)) (hf:w.frozen? ⟨c,0,none⟩=false) :
 Calls prog 169 #[.int .i64 x,.pointer (some ⟨c,0,none⟩)] w λe w'=>e=.returned (.int .i64 (wrap64 (x - a)))∧w'=w.setCell ⟨c,0,none⟩ (.int .i64 x):=by
 go_enter func169,ntmps169;go_wp2;go_ret;exact⟨rfl,rfl⟩
theorem sclo (c:Nat) (x a:Int) (w:World) (hc:w.cell? ⟨c,0,none⟩=some (.int .i64 a)) (hf:w.frozen? ⟨c,0,none⟩=false) :
 Calls prog 280 #[.int .i64 x,.pointer (some ⟨c,0,none⟩)] w λe w'=>e=.returned (.int .i64 (wrap64 (a+x)))∧w'=w.setCell ⟨c,0,none⟩ (.int .i64 (wrap64 (a+x))):=by
 go_enter func280,ntmps280;go_wp2;go_ret;exact⟨rfl,rfl⟩
theorem Oy {f:Int->LI->LI} {st:Int->Int->Int × Int} (hf:∀a x t,f a (x :: t)=(st a x).1 :: f (st a x).2 t) (xs:LI) (j:Nat) (a:Int) (hj:j<xs.length) :
 (xs.set j (st a (xs.getD j 0)).1).take (j+1)++f (st a (xs.getD j 0)).2 ((xs.set j (st a (xs.getD j 0)).1).drop (j+1))=xs.take j++f a (xs.drop j):=by
 have e1:xs.drop j=xs.getD j 0 :: xs.drop (j+1):=by
  rw[Qc,Qh hj];exact List.drop_eq_getElem_cons hj
 rw[e1,hf,List.take_add_one,List.take_set_of_le (Nat.le_refl _),List.drop_set_of_lt (Nat.lt_succ_self _),List.getElem?_set_self hj];simp
theorem rep_a {F:Nat} {f:Int->LI->LI} {so:Int->Int->Int × Int} (hd:∀a,f a []=[]) (hh:∀a x t,f a (x :: t)=(so a x).1 :: f (so a x).2 t) (CL:∀(c:Nat) (x a:Int) (w:World),w.cell? ⟨c,0,none⟩=some (.int .i64 a)->w.frozen? ⟨c,0,none⟩=false->Calls prog F #[.int .i64 x,.pointer (some ⟨c,0,none⟩)] w λe w'=>e=.returned (.int .i64 (so a x).1)∧w'=w.setCell ⟨c,0,none⟩ (.int .i64 (so a x).2)) (hF:F=169∨F=280) (lo c st n:Nat) (a0:Int) (v:Value) (xs:LI) (w:World) (hn:xs.length=n) (h0:w.ownsRow lo 3 1 v n (xs.map (Value.int .i64)))
 (hc:w.cell? ⟨c,0,none⟩=some (.int .i64 a0)) (hf:w.frozen? ⟨c,0,none⟩=false) (hne:∀k,v.ownBlock=some k->k≠c) (hl:n<=1000000) (hs:st<=1000000) :
 Calls prog 127 #[v,.int .i64 st,.func (.func F) #[] #[.pointer (some ⟨c,0,none⟩)]] w λe w'=>e=.returned (.tuple #[]) ∧
  w'.ownsRow lo 3 1 v n ((xs.take st++f a0 (xs.drop st)).map (Value.int .i64))∧Only (λk=>v.ownBlock=some k∨k=c) w w':=by
 have h8:v=.slice none 0 0∧n=0∨∃g cap,v=.slice (some ⟨g,0,none⟩) n cap:=by
  rcases h0.2 with h | ⟨g,cap,cur,h,_⟩
  ·exact .inl h
  ·exact .inr ⟨g,cap,h⟩
 have CLH:=Qa CL;have hd:=Qa hd;have hh:=Qa hh;clear CL;obtain⟨he,h2⟩:=EX (xs.take st++f a0 (xs.drop st));rw[<-h2]
 rcases hF with rfl | rfl
 all_goals
  rcases h8 with ⟨rfl,rfl⟩ | ⟨g,cap,rfl⟩
  ·have hx:xs=[]:=List.eq_nil_of_length_eq_zero hn
   subst hx
   have h7:he=[]:=by rw[h2];simp[hd.o]
   subst h7;have H:=Qa h0;clear h0 h2 hc hf hne hn;go_enter func127,ntmps127;go_wp2
   go_loop [6] (λi=>i=.int .i64 st) (λ_=>0)
   case atStart=>rfl
   case round =>
    subst hrel;go_wp2
    go_end0
    exact⟨rfl,H.o,VG⟩
  ·have hq:g≠c:=hne g rfl
   have h3:=Qa (Vz h0 (Vz hc hf));have HF:=Qa h2;have HN:=Qa hn;clear h0 hc hf h2 hne hn;go_enter func127,ntmps127;go_wp2
   go_loopw [6] (λi wr=>∃(j:Nat) (ys:LI) (a:Int),j<=1000000∧i=.int .i64 j∧ys.length=n∧wr.ownsRow lo 3 1 (.slice (some ⟨g,0,none⟩) n cap) n (ys.map (Value.int .i64)) ∧
    wr.cell? ⟨c,0,none⟩=some (.int .i64 a)∧wr.frozen? ⟨c,0,none⟩=false∧he=ys.take j++f a (ys.drop j)∧Only (λk=>k=g∨k=c) w wr) (λi _=>n - (intOf i).toNat)
   case atStart=>exact⟨st,xs,a0,hs,rfl,HN.o,h3.o.1,h3.o.2.1,h3.o.2.2,HF.o,VG⟩
   case round =>
    obtain⟨j,ys,a,hj,rfl,hb,h0,hc,hf,h2,ha⟩:=hrel;clear h3 HF HN
    by_cases hlt:j<n
    ·have h5:wr.cell? ⟨g,j,none⟩=some (.int .i64 (ys.getD j 0)):=by
      rw[h0.cellAt j (by omega),List.getElem?_map,Qh (by omega),Qc,Qh (by omega)]
      rfl
     have h6:=Oy hh.o ys j a (by omega);obtain⟨y,hy⟩:=EX (ys.getD j 0);rw[<-hy] at h5 h6;have A:=Qa (CLH.o c y a wr hc hf);generalize (so a y).1=u at *;generalize (so a y).2=z at *
     have hg:(wr.setCell ⟨c,0,none⟩ (.int .i64 z)).cell? ⟨g,j,none⟩=some (.int .i64 y):=by
      rw[World.cell?_setCell_other (h:=by intro h;exact hq (by cases h;rfl))];exact h5
     have hfr2:(wr.setCell ⟨c,0,none⟩ (.int .i64 z)).frozen? ⟨g,j,none⟩=false:=by
      rw[World.frozen?_setCell];exact h0.frozenAt _
     have h9:Only (λk=>k=g∨k=c) w (wr.setCell ⟨c,0,none⟩ (.int .i64 z)):=ha.setCell (λ_=>.inr rfl) _
     have h4:(wr.setCell ⟨c,0,none⟩ (.int .i64 z)).ownsRow lo 3 1 (.slice (some ⟨g,0,none⟩) n cap) n (ys.map (Value.int .i64)) :=
      ((Only.refl (λk=>k=c) wr).setCell (p:=⟨c,0,none⟩) (λ_=>rfl) _).own h0 (λk hk=>by simp[Value.ownBlock] at hk;omega)
     have ho:(wr.setCell ⟨c,0,none⟩ (.int .i64 z)).cell? ⟨c,0,none⟩=some (.int .i64 z):=World.cell?_setCell_same _ _ _ hc
     have hp:(wr.setCell ⟨c,0,none⟩ (.int .i64 z)).frozen? ⟨c,0,none⟩=false:=by rw[World.frozen?_setCell];exact hf
     have H:=Qa (Vz h9 (Vz h4 (Vz ho (Vz hp (Vz h2 h6)))))
     have i0:(0:Int)<=(j:Int):=by omega
     have i1:(j:Int)<(n:Int):=by omega
     clear h0 hc hf h2 ha h9 h4 ho hp h6;have HY:=Qa hy;have hm:=Qa hb;clear hy hb;go_wp2_with fail;refine A.o.mono ?_;rintro e w1 ⟨rfl,rfl⟩;clear A;go_wp2
     go_roundw
     case rel =>
      refine⟨j+1,ys.set j u,z,by omega,by go_num,by rw[List.length_set];exact hm.o,?_,?_,?_,?_,?_⟩
      ·have h1:=(H.o.2.1.stored j (.int .i64 u)).1
       rw[<-List.map_set] at h1;exact h1
      ·rw[World.cell?_setCell_other (h:=by intro h;exact hq (by cases h;rfl))];exact H.o.2.2.1
      ·rw[World.frozen?_setCell];exact H.o.2.2.2.1
      ·rw[H.o.2.2.2.2.1];exact H.o.2.2.2.2.2.symm
      ·exact H.o.1.setCell (λ_=>.inl rfl) _
     case measure=>simp[intOf];omega
    ·have e1:he=ys:=by
      rw[h2,List.drop_of_length_le (by omega),List.take_of_length_le (by omega)];simp[hd.o]
     subst e1;have H:=Qa (Vz h0 ha);clear h0 ha hc hf h2;have hm:=Qa hb;clear hb;go_wp2
     go_end0
     exact⟨rfl,H.o.1,H.o.2.mono (λi _ h=>h.imp (λe=>by rw[e];rfl) id)⟩
theorem Tryz.infoCI:(prog.info? 3).map (λi=>(i.zero,i.size,i.bytes))=some (some (.int .i64 0),1,8):=by kernel_rfl
theorem AB (c:Nat) (w:World):Calls prog 126 #[.slice none 0 c] w λe w'=>e=.returned (.slice none 0 0)∧w=w':=by
 have hnil:∀W,(binOp .eql 75 (.slice none 0 c) (.slice none 0 0)).run prog W=.ok (.bool true) W:=λW=>by
  rw[Lib.run_eql_slice_nil W 75 3 none 0 c 0 0 underlying75];rfl
 go_enter func126,ntmps126;go_wp2;go_ret;exact⟨rfl,rfl⟩
theorem pI (ad:Addr) (m c:Nat) (news:List Value) (w:World) (hl:news.length=m) (hnews:∀j u,news[j]? = some u->w.cell? (ad.add j)=some u) (h1:∀u∈news,u.oneCell'=true) (hm:m<=1000000) :
 Calls prog 126 #[.slice (some ad) m c] w λe w'=>∃v',e=.returned v'∧w'.ownsRow w.heap.size 3 1 v' m news∧N0 w w'∧v'≠.slice none 0 0:=by
 obtain⟨i0,hi,hz0,hz1,hz2⟩:=info_parts Tryz.infoCI
 have hnil:∀W,(binOp .eql 75 (.slice (some ad) m c) (.slice none 0 0)).run prog W=.ok (.bool false) W:=λW=>by
  rw[Lib.run_eql_slice_nil W 75 3 (some ad) m c 0 0 underlying75];rfl
 have ho:=World.ownsRow_made (base:=w.heap.size) (e:=3) (size:=1) w #[] 0 Zu (by unfold maxLen;omega) rfl;have HN:Hid (∀j u,news[j]? = some u->w.cell? (ad.add j)=some u):=hnews;clear hnews;go_enter func126,ntmps126;go_wp2_with (at_builtin;refine wpList_append_own_at _ rfl _ _ _ rfl w.heap.size 3 i0 (.int .i64 0) 1 8 underlying75 hi hz0 hz1 hz2 rfl (by omega) (.slice (some ⟨w.heap.size,0,none⟩) 0 0) 0 [] rfl ho ad m c news rfl ?c0 ?c1 h1 ?c3 ?c4 ?c5 ?_)
 case c0=>omega
 case c1 =>
  intro j u hu;have h0:=HN.o j u hu;rw[World.cell?_of_block (Below.heap_alloc w _ _ (World.block_lt_of_cell? w _ h0))];exact h0
 case c3=>unfold maxLen;omega
 case c4=>omega
 case c5=>simp
 intro v' w1 hown1 hgrow hnn hat
 have FIN:Hid (w1.ownsRow w.heap.size 3 1 v' m news∧N0 w w1∧v'≠.slice none 0 0):=by
  refine⟨by simpa using hown1,(VG.alloc _).grown hgrow (λk hk e=>?_),hnn⟩;simp[Value.ownBlock] at e;omega
 clear hown1 hgrow hnn hat ho;go_wp2;go_ret;exact⟨v',rfl,FIN.o⟩
theorem LY (v:Value) (xs:LI) (w:World) (h:Bs .i64 w v xs) (hm:xs.length<=1000000) :
 Calls prog 126 #[v] w λe w'=>∃v',e=.returned v'∧w'.ownsRow w.heap.size 3 1 v' xs.length (xs.map (Value.int .i64))∧N0 w w':=by
 obtain⟨ao,cap,rfl,hc,hr⟩:=h
 cases ao with
 | none =>
  have hx:xs=[]:=by
   cases xs with
   | nil=>rfl
   | cons a t=>obtain⟨b,off,h,_⟩:=hr (by simp);cases h
  subst hx;refine (AB cap w).mono ?_;rintro e w' ⟨rfl,rfl⟩;exact⟨_,rfl,Xh,VG⟩
 | some ad =>
  refine (pI ad xs.length cap (xs.map (Value.int .i64)) w (by simp) ?_ (KF _ _) hm).mono ?_
  ·intro j u hu
   have hj:j<xs.length:=by
    have:=(List.getElem?_eq_some_iff.1 hu).1
    simpa using this
   obtain⟨b,off,hb,h0⟩:=hr (by intro h;subst h;simp at hj)
   cases hb
   have h3:(⟨b,off,none⟩:Addr).add j=⟨b,off+j,none⟩:=by unfold Addr.add;split <;> simp_all
   rw[h3,h0 j hj];rw[<-hu];simp[List.getElem?_eq_getElem hj]
  ·rintro e w' ⟨v',rfl,h1,h2,_⟩
   exact⟨v',rfl,h1,h2⟩
theorem Z9 {lo:Nat} {size:Nat} {xs:List Value} (h:w.ownsRow lo E size v n xs) {b:Nat} (hb:v.ownBlock=some b):lo<=b∧b<w.heap.size:=by
 rcases h.2 with ⟨rfl,_⟩ | ⟨g,cap,cur,rfl,hg,hh,_⟩
 ·simp[Value.ownBlock] at hb
 ·simp[Value.ownBlock] at hb
  subst hb;exact⟨hg,(Array.getElem?_eq_some_iff.1 hh).1⟩
theorem Dv (k:Nat) (w:World) (hk:k<=3):Calls prog 125 #[.int .i64 k] w λe w'=>e=.returned (.bool true)∧w=w':=by
 have h1:decide ((0:Int)<=k)=true:=Qe (by omega);have h2:decide ((k:Int)<=3)=true:=Qe (by omega);go_enter func125,ntmps125;go_wp2;go_ret;exact⟨rfl,rfl⟩
theorem Rf (w:World):(w.alloc (.cells #[.int .i64 0] 3)).cell? ⟨w.heap.size,0,none⟩=some (.int .i64 0) ∧
 (w.alloc (.cells #[.int .i64 0] 3)).frozen? ⟨w.heap.size,0,none⟩=false∧N0 w (w.alloc (.cells #[.int .i64 0] 3)) :=
 ⟨by rw[World.cell?_alloc_at _ _ _ _ rfl];rfl,World.frozen?_alloc_at _ _ _ _ rfl,VG.alloc _⟩
theorem kD (w:World):Calls prog 128 #[] w λe w'=>e=.returned (.func (.func 169) #[] #[.pointer (some ⟨w.heap.size,0,none⟩)]) ∧
 w'.cell? ⟨w.heap.size,0,none⟩=some (.int .i64 0)∧w'.frozen? ⟨w.heap.size,0,none⟩=false∧N0 w w':=by
 have hmf:∀(fn:Fn) (first cap:Array Value) (w:World),(Instr.makeFunc fn first cap).run prog w=.ok (.func fn first cap) w:=λ_ _ _ _=>rfl
 have H:=Qa (Rf w);go_enter func128,ntmps128;go_wp2;go_ret;exact⟨rfl,H.o⟩
theorem qm (w:World):Calls prog 270 #[] w λe w'=>e=.returned (.func (.func 280) #[] #[.pointer (some ⟨w.heap.size,0,none⟩)]) ∧
 w'.cell? ⟨w.heap.size,0,none⟩=some (.int .i64 0)∧w'.frozen? ⟨w.heap.size,0,none⟩=false∧N0 w w':=by
 have hmf:∀(fn:Fn) (first cap:Array Value) (w:World),(Instr.makeFunc fn first cap).run prog w=.ok (.func fn first cap) w:=λ_ _ _ _=>rfl
 have H:=Qa (Rf w);go_enter func270,ntmps270;go_wp2;go_ret;exact⟨rfl,H.o⟩
theorem un (v:Value) (xs:LI) (k:Nat) (w:World) (hb:Bs .i64 w v xs) (hl:xs.length<=1000000) (hk:k<=3) :
 Calls prog 86 #[v,.int .i64 k] w λe w'=>∃v',e=.returned (.tuple #[v',.int .i64 0])∧w'.ownsRow w.heap.size 3 1 v' xs.length ((D k xs).map (Value.int .i64))∧N0 w w':=by
 have A0:=Qa (Dv k w hk);have A1:=Qa (LY v xs w hb hl);obtain⟨n,hn⟩:=EX xs.length;rw[<-hn] at hl A1 ⊢;obtain⟨N,hN⟩:=EX w.heap.size;rw[<-hN] at A1 ⊢;have HN:=Qa (Vz hn hN);clear hn hN hb;go_enter func86,ntmps86;go_wp2_with fail;refine A0.o.mono ?_;rintro e w1 ⟨rfl,rfl⟩;clear A0;go_wp2_with fail;refine A1.o.mono ?_;rintro e w1 ⟨v',rfl,h3,h7⟩;have H1:=Qa (Vz h3 h7);clear A1 h3 h7;go_wp2
 go_loopw [14] (λi wr=>∃j:Nat,j<=k∧i=.int .i64 j∧wr.ownsRow N 3 1 v' n ((D j xs).map (Value.int .i64))∧N0 w wr) (λi _=>k - (intOf i).toNat)
 case atStart=>exact⟨0,Nat.zero_le _,rfl,H1.o⟩
 case round =>
  obtain⟨j,hj,rfl,h1,h4⟩:=hrel;clear H1
  by_cases hlt:j<k
  ·have H:=Qa (Vz h1 h4)
   clear h1 h4;have A2:=Qa (kD wr);go_wp2_with fail;refine A2.o.mono ?_;rintro e w2 ⟨rfl,hc,hf,h5⟩;have h0:=h5.own H.o.1 (λ_ _ f=>f)
   have hln:(D j xs).length=n:=by rw[Xp];exact HN.o.1.symm
   have A3:=Qa (rep_a (f:=dif) (so:=λa x=>(wrap64 (x - a),x)) (λ_=>rfl) (λ_ _ _=>rfl) dclo (.inl rfl) N wr.heap.size j n 0 v' (D j xs) w2 hln h0 hc hf (λb hb=>Nat.ne_of_lt (Z9 H.o.1 hb).2) hl (by omega));have H2:=Qa (Vz h5 h0);clear A2 hc hf h5 h0;go_wp2_with fail;refine A3.o.mono ?_;rintro e w3 ⟨rfl,h2,h6⟩;have H3:=Qa (Vz h2 h6);clear A3 h2 h6;go_wp2
   go_roundw
   case rel =>
    refine⟨j+1,by omega,by go_num,H3.o.1,?_⟩;have o2:=H.o.2.trans H2.o.1 (λ_ _ f=>f);refine o2.trans H3.o.2 (λi hi h=>?_)
    rcases h with h | h
    ·have:=(Z9 H.o.1 h).1
     have:=HN.o.2;omega
    ·have:=H.o.2.size
     omega
   case measure=>simp[intOf];omega
  ·have e1:j=k:=by omega
   subst e1;have H:=Qa (Vz h1 h4);clear h1 h4;go_wp2;go_ret2;exact⟨_,rfl,H.o⟩
theorem Cl (v:Value) (xs:LI) (k:Nat) (w:World) (hb:Bs .i64 w v xs) (hl:xs.length<=1000000) (hk:k<=3) :
 Calls prog 257 #[v,.int .i64 k] w λe w'=>∃v',e=.returned (.tuple #[v',.int .i64 0])∧w'.ownsRow w.heap.size 3 1 v' xs.length ((S k xs).map (Value.int .i64))∧N0 w w':=by
 have A0:=Qa (Dv k w hk);have A1:=Qa (LY v xs w hb hl);obtain⟨n,hn⟩:=EX xs.length;rw[<-hn] at hl A1 ⊢;obtain⟨N,hN⟩:=EX w.heap.size;rw[<-hN] at A1 ⊢;have HN:=Qa (Vz hn hN);clear hn hN hb;go_enter func257,ntmps257;go_wp2_with fail;refine A0.o.mono ?_;rintro e w1 ⟨rfl,rfl⟩;clear A0;go_wp2_with fail;refine A1.o.mono ?_;rintro e w1 ⟨v',rfl,h3,h9⟩;have H1:=Qa (Vz h3 h9);clear A1 h3 h9;go_wp2
 go_loopw [14] (λi wr=>∃j:Nat,j<=k∧i=.int .i64 j∧∃ys,ys.length=n∧S (k - j) ys=S k xs∧wr.ownsRow N 3 1 v' n (ys.map (Value.int .i64))∧N0 w wr) (λi _=>k - (intOf i).toNat)
 case atStart=>exact⟨0,Nat.zero_le _,rfl,xs,HN.o.1.symm,rfl,H1.o⟩
 case round =>
  obtain⟨j,hj,rfl,ys,h7,h8,h1,h4⟩:=hrel;have HY:=Qa (Vz h7 h8);clear h7 h8;clear H1
  by_cases hlt:j<k
  ·have H:=Qa (Vz h1 h4)
   clear h1 h4;have A2:=Qa (qm wr)
   have it:((k:Int) - 1 - j)=((k - 1 - j:Nat):Int):=by omega
   go_wp2_with fail;refine A2.o.mono ?_;rintro e w2 ⟨rfl,hc,hf,h5⟩;have h0:=h5.own H.o.1 (λ_ _ f=>f);have A3:=Qa (rep_a (f:=sm) (so:=λa x=>(wrap64 (a+x),wrap64 (a+x))) (λ_=>rfl) (λ_ _ _=>rfl) sclo (.inr rfl) N wr.heap.size (k - 1 - j) n 0 v' ys w2 HY.o.1 h0 hc hf (λb hb=>Nat.ne_of_lt (Z9 H.o.1 hb).2) hl (by omega));have H2:=Qa (Vz h5 h0);clear A2 hc hf h5 h0;go_wp2_with fail;refine A3.o.mono ?_;rintro e w3 ⟨rfl,h2,h6⟩;have H3:=Qa (Vz h2 h6);clear A3 h2 h6;go_wp2
   go_roundw
   case rel =>
    refine⟨j+1,by omega,by go_num,_,?_,?_,H3.o.1,?_⟩
    ·exact (JP (PN 0) (k - 1 - j) ys).trans HY.o.1
    ·rw[<-HY.o.2,show k - j=(k - (j+1))+1 by omega,S,show k - 1 - j=k - (j+1) by omega];rfl
    have o2:=H.o.2.trans H2.o.1 (λ_ _ f=>f);refine o2.trans H3.o.2 (λi hi h=>?_)
    rcases h with h | h
    ·have:=(Z9 H.o.1 h).1
     have:=HN.o.2;omega
    ·have:=H.o.2.size
     omega
   case measure=>simp[intOf];omega
  ·have e1:j=k:=by omega
   subst e1
   have e2:ys=S j xs:=by have:=HY.o.2;rw[Nat.sub_self] at this;exact this
   subst e2;have H:=Qa (Vz h1 h4);clear h1 h4;go_wp2;go_ret2;exact⟨_,rfl,H.o⟩
end Go.Proofs.YtiochaeeoelmjaaGreatDoor
