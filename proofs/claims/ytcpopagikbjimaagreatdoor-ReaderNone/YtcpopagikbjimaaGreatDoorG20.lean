import Derived.Test.YtcpopagikbjimaaGreatDoorG19
import Derived.Test.YtcpopagikbjimaaGreatDoorG7
namespace Go.Proofs.YtcpopagikbjimaaGreatDoor
open Go.RowKit
def STQ (ys : List Int) (s : List Int × Int) (P : List Int → Prop) : Prop:=(s.2 = 0 ∧ P s.1) ∨ (s.2 ≠ 0 ∧ MDEC ys = .error s.2)
def P1 (ys : List Int) (t : List Int) : Prop:=rdHd ys = .ok (MHD,t)
def P2 (ys : List Int) (v : Nat) (t : List Int) : Prop:=∃ y1,P1 ys y1 ∧ rdVer y1 = .ok (v,t)
def P3 (ys : List Int) (v : Nat) (p t : List Int) : Prop:=∃ y2,P2 ys v y2 ∧ rdB 32 y2 = .ok (p,t)
def P4 (ys : List Int) (v : Nat) (p : List Int) (T : List (List Int)) (t : List Int) : Prop:=∃ y3 n,P3 ys v p y3 ∧ rdDir y3 = .ok ((n,T),t)
def P5 (ys : List Int) (v : Nat) (p : List Int) (T : List (List Int)) (ts : List (Nat × List Int)) (t : List Int) : Prop:=∃ y4 n,P4 ys v p T y4 ∧ rdAll T.length y4 = .ok ((n,ts),t)
def P6 (ys : List Int) (v : Nat) (p : List Int) (T : List (List Int)) (ts : List (Nat × List Int)) (r t : List Int) : Prop:=∃ y5,P5 ys v p T ts y5 ∧ rdB 32 y5 = .ok (r,t)
theorem Qbc (n : Nat) (s : List Int × Int) (h0 : s.2 = 0) : (s.1.length < n ∧ rB n s = ([],(s.1,2))) ∨ (¬ s.1.length < n ∧ rB n s = (s.1.take n,(s.1.drop n,0))):=by
 unfold rB;rw [if_pos h0];unfold Qai;rw [if_neg (by omega)]
 by_cases h : s.1.length < n
 ·rw [if_pos (by omega)]
  exact .inl ⟨h,rfl⟩
 ·rw [if_neg (by omega),Int.toNat_natCast]
  exact .inr ⟨h,rfl⟩
theorem QcO {n : Nat} {s : List Int × Int} (h : s.2 ≠ 0) : rB n s = ([],s):=if_neg h
theorem Qb1 (n : Nat) (s : List Int × Int) : (rB n s).2.1.length ≤ s.1.length ∧ (rB n s).1.length ≤ n:=by
 by_cases h : s.2 = 0
 ·rcases Qbc n s h with ⟨_,e⟩ | ⟨_,e⟩ <;> rw [e]
  ·exact ⟨Nat.le_refl _,Nat.zero_le _⟩
  ·exact ⟨by simp,by simp;omega⟩
 ·rw [QcO h];exact ⟨Nat.le_refl _,Nat.zero_le _⟩
theorem rB_u8 (n : Nat) (s : List Int × Int) (h8 : U8 s.1) : U8 (rB n s).2.1 ∧ U8 (rB n s).1:=by
 by_cases h : s.2 = 0
 ·rcases Qbc n s h with ⟨_,e⟩ | ⟨_,e⟩ <;> rw [e]
  ·exact ⟨h8,fun y hy => by cases hy⟩
  ·exact ⟨QaL h8 n,fun y hy => h8 y (List.mem_of_mem_take hy)⟩
 ·rw [QcO h];exact ⟨h8,fun y hy => by cases hy⟩
theorem two0 : (2 : Int) ≠ 0:=by decide
theorem Qck : (3 : Int) ≠ 0:=by decide
theorem four0 : (4 : Int) ≠ 0:=by decide
theorem Qkm (ys : List Int) : STQ ys (rN (decide ((rB 4 (ys,0)).1 = MHD)) 3 (rB 4 (ys,0)).2) (P1 ys):=by
 rcases Qbc 4 (ys,0) rfl with ⟨h,e⟩ | ⟨h,e⟩ <;> rw [e]
 ·rw [Qa9 two0]
  exact .inr ⟨two0,M1 (Qfp h)⟩
 ·by_cases hm : ys.take 4 = MHD
  ·rw [decide_eq_true hm,rN_ok]
   exact .inl ⟨rfl,hd_ok h hm⟩
  ·rw [decide_eq_false hm,rN_no rfl]
   exact .inr ⟨Qck,M1 (hd_no h hm)⟩
theorem QiR {ys : List Int} {s : List Int × Int} (h : STQ ys s (P1 ys)) : STQ ys (rN (decide (num (rB 8 s).1 ≠ 18446744073709551615)) 3 (rB 8 s).2) (P2 ys (num (rB 8 s).1)):=by
 rcases h with ⟨h0,hp⟩ | ⟨h0,hp⟩
 ·rcases Qbc 8 s h0 with ⟨h,e⟩ | ⟨h,e⟩ <;> rw [e]
  ·rw [Qa9 two0]
   exact .inr ⟨two0,M2 hp (QdZ h)⟩
  ·by_cases hm : num (s.1.take 8) = 18446744073709551615
   ·rw [decide_eq_false (by simp [hm]),rN_no rfl]
    exact .inr ⟨Qck,M2 hp (Qjn h hm)⟩
   ·rw [decide_eq_true hm,rN_ok]
    exact .inl ⟨rfl,s.1,hp,Qjo h hm⟩
 ·rw [QcO h0,Qa9 h0]
  exact .inr ⟨h0,hp⟩
theorem Qhr {ys : List Int} {v : Nat} {s : List Int × Int} (h : STQ ys s (P2 ys v)) : STQ ys (rB 32 s).2 (P3 ys v (rB 32 s).1):=by
 rcases h with ⟨h0,hp⟩ | ⟨h0,hp⟩
 ·obtain ⟨y1,h1,h2⟩:=hp
  rcases Qbc 32 s h0 with ⟨h,e⟩ | ⟨h,e⟩ <;> rw [e]
  ·exact .inr ⟨two0,M3 h1 h2 (Qa3 h)⟩
  ·exact .inl ⟨rfl,s.1,⟨y1,h1,h2⟩,QaX h⟩
 ·rw [QcO h0]
  exact .inr ⟨h0,hp⟩
theorem QiS {ys p : List Int} {v : Nat} {s s' : List Int × Int} {T : List (List Int)} (h : STQ ys s (P3 ys v p)) (hd : DIRQ s T s') : STQ ys s' (P4 ys v p T):=by
 rcases h with ⟨h0,hp⟩ | ⟨h0,hp⟩
 ·rcases hd.2 h0 with ⟨e0,n,e⟩ | ⟨e0,e⟩
  ·exact .inl ⟨e0,s.1,n,hp,e⟩
  ·obtain ⟨y2,⟨y1,h1,h2⟩,h3⟩:=hp
   exact .inr ⟨e0,M4 h1 h2 h3 e⟩
 ·rw [hd.1 h0]
  exact .inr ⟨h0,hp⟩
def ELr (D : Except Int (List (Nat × List Int) × List Int)) (T : List (List Int)) (n _L : Nat) (ts : List (Nat × List Int)) (s : List Int × Int) : Prop :=
 (s.2 = 0 ∧ ts.length ≤ n ∧ n ≤ 1048576 ∧ D = pre ts (rdEns T.length (n - ts.length) s.1)) ∨ (s.2 ≠ 0 ∧ D = .error s.2)
theorem Qhs {ys p : List Int} {v : Nat} {T : List (List Int)} {s : List Int × Int} (h : STQ ys s (P4 ys v p T)) (h8 : U8 s.1) (n : Nat) (hn : (rV s).1 = (n : Int)) :
  ∃ D,ELr D T n s.1.length [] (rN (decide ((n : Int) ≤ 1048576)) 4 (rV s).2) ∧ U8 (rN (decide ((n : Int) ≤ 1048576)) 4 (rV s).2).1 ∧ (rN (decide ((n : Int) ≤ 1048576)) 4 (rV s).2).1.length ≤ s.1.length ∧
   ∀ ts s',(s'.2 = 0 ∧ D = .ok (ts,s'.1)) ∨ (s'.2 ≠ 0 ∧ D = .error s'.2) → STQ ys s' (P5 ys v p T ts):=by
 rcases h with ⟨he,hp⟩ | ⟨he,hp⟩
 ·have eR : rV s = ((Qab s.1).1,(s.1.drop (Qab s.1).2.1,(Qab s.1).2.2)):=if_pos he
  obtain ⟨y3,m3,⟨y2,⟨y1,h1,h2⟩,h3⟩,h4⟩:=hp
  rcases Qam h8 with ⟨c,h,hc⟩ | ⟨a,k,h,k1,k2,ha,_⟩
  ·have hc0 : c ≠ 0:=by omega
   rw [eR,h] at hn ⊢;have hq:=Qa9 (ok:=decide ((n : Int) ≤ 1048576)) (c:=4) (s:=(s.1.drop 0,c)) hc0;simp only at hq ⊢;rw [hq];have hm5 : MDEC ys = .error c:=M5 h1 h2 h3 h4 (Qax (QaN (QcA h hc0)));refine ⟨.error c,.inr ⟨hc0,rfl⟩,QaL h8 _,by simp,fun ts s' hs => ?_⟩
   rcases hs with ⟨_,z⟩ | ⟨z0,z⟩
   ·cases z
   ·have z':=Except.error.inj z
    exact .inr ⟨z0,by rw [← z'];exact hm5⟩
  ·rw [eR,h] at hn ⊢
   simp only at hn ⊢
   obtain rfl : a = n:=by omega
   by_cases hm : a ≤ 1048576
   ·have hd : decide ((a : Int) ≤ 1048576) = true:=by rw [decide_eq_true_eq];omega
    rw [hd,rN_ok];have hmy : QbW s.1 = .ok (a,s.1.drop k):=QaS (Qbw h) (decide_eq_true hm);refine ⟨rdEns T.length a (s.1.drop k),.inl ⟨rfl,Nat.zero_le _,hm,by rw [Qdf];rfl⟩,QaL h8 _,by simp,fun ts s' hs => ?_⟩
    rcases hs with ⟨e1,e2⟩ | ⟨e1,e2⟩
    ·exact .inl ⟨e1,s.1,a,⟨y3,m3,⟨y2,⟨y1,h1,h2⟩,h3⟩,h4⟩,Qa2 hmy e2⟩
    ·exact .inr ⟨e1,M5 h1 h2 h3 h4 (Qap hmy e2)⟩
   ·have hd : decide ((a : Int) ≤ 1048576) = false:=by rw [decide_eq_false_iff_not];omega
    rw [hd,rN_no rfl];have hm5 : MDEC ys = .error 4:=M5 h1 h2 h3 h4 (Qax (Qbe (Qbw h) (decide_eq_false hm)));refine ⟨.error 4,.inr ⟨four0,rfl⟩,QaL h8 _,by simp,fun ts s' hs => ?_⟩
    rcases hs with ⟨_,z⟩ | ⟨z0,z⟩
    ·cases z
    ·have z':=Except.error.inj z
     exact .inr ⟨z0,by rw [← z'];exact hm5⟩
 ·have eR : rV s = (0,s):=if_neg he
  rw [eR] at hn ⊢;rw [Qa9 he];refine ⟨.error s.2,.inr ⟨he,rfl⟩,h8,Nat.le_refl _,fun ts s' hs => ?_⟩
  rcases hs with ⟨_,z⟩ | ⟨z0,z⟩
  ·cases z
  ·have z':=Except.error.inj z
   exact .inr ⟨z0,by rw [← z'];exact hp⟩
def eS1 (T : List (List Int)) (s : List Int × Int) : List Int × Int:=rN (decide ((rV s).1 < (T.length : Int))) 3 (rV s).2
def eK (T : List (List Int)) (s : List Int × Int) : List Int:=(rB 1 (eS1 T s)).1
def eS2 (T : List (List Int)) (s : List Int × Int) : List Int × Int:=rN (decide ((eK T s).length = 1) && decide ((eK T s).getD 0 0 ≤ 8)) 3 (rB 1 (eS1 T s)).2
theorem Qkn {D : Except Int (List (Nat × List Int) × List Int)} {T : List (List Int)} {n L : Nat} {ts : List (Nat × List Int)} {s : List Int × Int} (h : ELr D T n L ts s) (he : s.2 = 0) (hlt : ts.length < n) (h8 : U8 s.1) :
  (((eS2 T s).2 ≠ 0 ∧ ELr D T n L ts (eS2 T s)) ∨ ((eS2 T s).2 = 0 ∧ ∃ (a : Nat) (y : Int),(rV s).1 = (a : Int) ∧ a < T.length ∧ eK T s = [y] ∧ 0 ≤ y ∧ y ≤ 8 ∧ ELr D T n L (ts ++ [(a,[y])]) (eS2 T s) ∧ (eS2 T s).1.length + 2 ≤ s.1.length)):=by
 rcases h with ⟨_,h1,h2,h4⟩ | ⟨h1,_⟩
 ·obtain ⟨m,hm⟩ : ∃ m,n - ts.length = m + 1:=⟨n - ts.length - 1,by omega⟩
  rw [hm] at h4;have eR : rV s = ((Qab s.1).1,(s.1.drop (Qab s.1).2.1,(Qab s.1).2.2)):=if_pos he
  have bad : ∀ c,c ≠ 0 → rdEn T.length s.1 = .error c → eS2 T s = ((eS2 T s).1,c) → ((eS2 T s).2 ≠ 0 ∧ ELr D T n L ts (eS2 T s)):=fun c hc0 hr hq => by
   have e2 : (eS2 T s).2 = c:=by rw [hq]
   refine ⟨by rw [e2];exact hc0,.inr ⟨by rw [e2];exact hc0,?_⟩⟩;rw [e2,h4];unfold rdEns;rw [Qb7 (r:=fun _ : Unit => rdEn T.length) hr];rfl
  rcases Qam h8 with ⟨c,h,hc⟩ | ⟨a,k,h,k1,k2,ha,_⟩
  ·have hc0 : c ≠ 0:=by omega
   left
   refine bad c hc0 (Qjj h hc0) ?_
   have e1 : eS1 T s = (s.1.drop 0,c):=by unfold eS1;rw [eR,h];exact Qa9 hc0
   have e2 : rB 1 (eS1 T s) = ([],(s.1.drop 0,c)):=by rw [e1];exact QcO hc0
   unfold eS2;rw [e2,Qa9 (show ((s.1.drop 0,c) : List Int × Int).2 ≠ 0 from hc0)]
  ·have hv : (rV s).1 = (a : Int):=by rw [eR,h]
   have hv2 : (rV s).2 = (s.1.drop k,0):=by rw [eR,h]
   by_cases haT : a < T.length
   ·have e1 : eS1 T s = (s.1.drop k,0):=by unfold eS1;rw [hv,hv2,decide_eq_true (by omega),rN_ok]
    cases hd : s.1.drop k with
    | nil =>
     left
     refine bad 2 two0 (Qfn h haT hd) ?_
     have e2 : rB 1 (eS1 T s) = ([],([],2)):=by
      rw [e1,hd]
      rcases Qbc 1 (([],0) : List Int × Int) rfl with ⟨_,e⟩ | ⟨z,_⟩
      ·exact e
      ·exact absurd (by decide) z
     unfold eS2;rw [e2,Qa9 (show (([],2) : List Int × Int).2 ≠ 0 from two0)]
    | cons y t =>
     have e2 : rB 1 (eS1 T s) = ([y],(t,0)):=by
      rw [e1,hd]
      rcases Qbc 1 ((y :: t,0) : List Int × Int) rfl with ⟨z,_⟩ | ⟨_,e⟩
      ·simp at z
      ·rw [e];simp
     have eKy : eK T s = [y]:=by unfold eK;rw [e2]
     by_cases hy : y ≤ 8
     ·right
      have e3 : eS2 T s = (t,0):=by
       unfold eS2;rw [eKy,e2,show (decide ([y].length = 1) && decide ([y].getD 0 0 ≤ 8)) = true by simp [hy],rN_ok]
      have hy0 : 0 ≤ y:=(h8 y (List.mem_of_mem_drop (by rw [hd];exact List.mem_cons_self))).1
      have hlen : (s.1.drop k).length = t.length + 1:=by rw [hd];rfl
      rw [List.length_drop] at hlen;rw [e3];refine ⟨rfl,a,y,hv,haT,eKy,hy0,hy,.inl ⟨rfl,by simp;omega,h2,?_⟩,by simp only;omega⟩;rw [h4];unfold rdEns;rw [QdU (r:=fun _ : Unit => rdEn T.length) (en_ok h haT hd hy),Qdg]
      have : n - (ts ++ [(a,[y])]).length = m:=by simp;omega
      rw [this]
     ·left
      refine bad 3 Qck (QdX h haT hd (by omega)) ?_;unfold eS2;rw [eKy,e2,show (decide ([y].length = 1) && decide ([y].getD 0 0 ≤ 8)) = false by simp [hy],rN_no rfl]
   ·left
    refine bad 3 Qck (Qfm h (by omega)) ?_
    have e1 : eS1 T s = (s.1.drop k,3):=by unfold eS1;rw [hv,hv2,decide_eq_false (by omega),rN_no rfl]
    have e2 : rB 1 (eS1 T s) = ([],(s.1.drop k,3)):=by rw [e1];exact QcO Qck
    unfold eS2;rw [e2,Qa9 (show ((s.1.drop k,3) : List Int × Int).2 ≠ 0 from Qck)]
 ·exact absurd he h1
theorem Qht (ok : Bool) (c : Int) (s : List Int × Int) : (rN ok c s).1 = s.1:=rfl
theorem Qhu (s : List Int × Int) : (rV s).2.1.length ≤ s.1.length:=by
 unfold rV
 split
 ·simp
 ·exact Nat.le_refl _
theorem rV_u8 {s : List Int × Int} (h : U8 s.1) : U8 (rV s).2.1:=by
 unfold rV
 split
 ·exact QaL h _
 ·exact h
theorem QiT {T : List (List Int)} {s : List Int × Int} (h : U8 s.1) : U8 (eS2 T s).1 ∧ (eS2 T s).1.length ≤ s.1.length:=by
 unfold eS2;rw [Qht]
 have h1 : U8 (eS1 T s).1:=by unfold eS1;rw [Qht];exact rV_u8 h
 have h2 : (eS1 T s).1.length ≤ s.1.length:=by unfold eS1;rw [Qht];exact Qhu s
 exact ⟨(rB_u8 1 _ h1).1,Nat.le_trans (Qb1 1 _).1 h2⟩
theorem Qej {ys p : List Int} {v : Nat} {T : List (List Int)} {ts : List (Nat × List Int)} {s : List Int × Int} (h : STQ ys s (P5 ys v p T ts)) : STQ ys (rB 32 s).2 (P6 ys v p T ts (rB 32 s).1):=by
 rcases h with ⟨h0,hp⟩ | ⟨h0,hp⟩
 ·rcases Qbc 32 s h0 with ⟨h,e⟩ | ⟨h,e⟩ <;> rw [e]
  ·obtain ⟨y4,n,⟨y3,m3,⟨y2,⟨y1,h1,h2⟩,h3⟩,h4⟩,h5⟩:=hp
   exact .inr ⟨two0,M6 h1 h2 h3 h4 h5 (Qa3 h)⟩
  ·exact .inl ⟨rfl,s.1,hp,QaX h⟩
 ·rw [QcO h0]
  exact .inr ⟨h0,hp⟩
theorem P6.all {ys p r t : List Int} {v : Nat} {T : List (List Int)} {ts : List (Nat × List Int)} (h : P6 ys v p T ts r t) : ∃ m n,MRD ys = .ok ((MHD,v,p,(m,T),(n,ts),r),t):=by
 obtain ⟨y5,⟨y4,n,⟨y3,m3,⟨y2,⟨y1,h1,h2⟩,h3⟩,h4⟩,h5⟩,h6⟩:=h;exact ⟨m3,n,Mall h1 h2 h3 h4 h5 h6⟩
def usd (ts : List (Nat × List Int)) (i : Nat) : Bool:=ts.any fun t => t.1 == i
def PE (ys p r : List Int) (v : Nat) (T : List (List Int)) (ts : List (Nat × List Int)) (i : Nat) (t : List Int) : Prop:=P6 ys v p T ts r t ∧ t = [] ∧ ∀ j,j < i → usd ts j = true
theorem Qfx {ys p r : List Int} {v : Nat} {T : List (List Int)} {ts : List (Nat × List Int)} {s : List Int × Int} (h : STQ ys s (P6 ys v p T ts r)) : STQ ys (rN (decide (s.1.length = 0)) 3 s) (PE ys p r v T ts 0):=by
 rcases h with ⟨h0,hp⟩ | ⟨h0,hp⟩
 ·by_cases hl : s.1.length = 0
  ·rw [decide_eq_true hl,rN_ok]
   exact .inl ⟨h0,hp,List.eq_nil_of_length_eq_zero hl,fun j hj => by omega⟩
  ·rw [decide_eq_false hl,rN_no h0]
   obtain ⟨m,n,ha⟩:=hp.all;exact .inr ⟨Qck,M7 ha (fun z => hl (by rw [z];rfl))⟩
 ·rw [Qa9 h0]
  exact .inr ⟨h0,hp⟩
theorem Qek {ys p r : List Int} {v : Nat} {T : List (List Int)} {ts : List (Nat × List Int)} {s : List Int × Int} {i : Nat} (hi : i < T.length) (h : STQ ys s (PE ys p r v T ts i)) : STQ ys (rN (usd ts i) 3 s) (PE ys p r v T ts (i + 1)):=by
 rcases h with ⟨h0,hp⟩ | ⟨h0,hp⟩
 ·cases hu : usd ts i with
  | true =>
   rw [rN_ok];refine .inl ⟨h0,hp.1,hp.2.1,fun j hj => ?_⟩
   rcases Nat.lt_succ_iff_lt_or_eq.1 hj with z | rfl
   ·exact hp.2.2 j z
   ·exact hu
  | false =>
   rw [rN_no h0];obtain ⟨m,n,ha⟩:=hp.1.all;refine .inr ⟨Qck,M8 ha hp.2.1 (fun z => ?_)⟩;unfold QaH at z;rw [List.all_eq_true] at z;have:=z i (List.mem_range.2 hi);unfold usd at hu;rw [hu] at this
   cases this
 ·rw [Qa9 h0]
  exact .inr ⟨h0,hp⟩
theorem Qel {ys p r : List Int} {v : Nat} {T : List (List Int)} {ts : List (Nat × List Int)} {s : List Int × Int} (h : STQ ys s (PE ys p r v T ts T.length)) :
  (s.2 = 0 ∧ MDEC ys = .ok ⟨v,p,ts.map (EOF T),r⟩) ∨ (s.2 ≠ 0 ∧ MDEC ys = .error s.2):=by
 rcases h with ⟨h0,hp⟩ | h
 ·obtain ⟨m,n,ha⟩:=hp.1.all
  refine .inl ⟨h0,M9 ha hp.2.1 ?_⟩;unfold QaH;rw [List.all_eq_true];intro i hi;exact hp.2.2 i (List.mem_range.1 hi)
 ·exact .inr h
theorem QiU (ts : List (Nat × List Int)) (x : Nat × List Int) (i : Nat) : usd (ts ++ [x]) i = (usd ts i || (x.1 == i)):=by
 unfold usd;rw [List.any_append];simp
theorem Tryz.infoRows : (Tryz.prog.info? 22).map (fun i => (i.zero,i.size,i.bytes)) = some (some (.slice none 0 0),1,24):=by kernel_rfl
theorem Qgi (w : World) (t : TypeId) (vs : List Value) {base : Nat} (hb : base ≤ w.heap.size) (hl : vs.length ≤ maxLen) : (w.alloc (.cells vs.toArray t)).ownsRow base t 1 (.slice (some ⟨w.heap.size,0,none⟩) vs.length vs.length) vs.length vs :=
 ⟨(Nat.mul_one _).symm,.inr ⟨w.heap.size,vs.length,vs.toArray,rfl,hb,Blk.new w t vs,Nat.le_refl _,hl,by rw [List.size_toArray,Nat.mul_one],by rw [Nat.mul_one];exact List.take_length⟩⟩
def VS (w : World) (u : Value) (ys : List Value) : Prop :=
 ∃ ao cap,u = .slice ao ys.length cap ∧ NoCap u ∧ (∀ y ∈ ys,y.oneCell' = true) ∧ (ao = none → ys = []) ∧ ∀ ad,ao = some ad → ∀ j y,ys[j]? = some y → w.cell? (ad.add j) = some y
theorem VS.of_own {w : World} {lo n : Nat} {e : TypeId} {u : Value} {ys : List Value} (h : w.ownsRow lo e 1 u n ys) (h1 : ∀ y ∈ ys,y.oneCell' = true) : VS w u ys:=by
 have hl:=h.1
 rcases h.2 with ⟨rfl,h0⟩ | ⟨g,cap,cur,rfl,hb,hg,hc,r⟩
 ·have : ys = []:=List.eq_nil_of_length_eq_zero (by omega)
  subst this;exact ⟨none,0,rfl,NoCap.nil,h1,fun _ => rfl,fun ad e => by cases e⟩
 ·refine ⟨_,cap,by rw [show ys.length = n by omega],NoCap.some _ _ _,h1,fun e => by (cases e),fun ad e j y hy => ?_⟩
  cases e
  have hj:=(List.getElem?_eq_some_iff.1 hy).1;have:=h.cellAt j (by omega);rw [Go.WideShapes.add_plain,Nat.zero_add,this,hy]
theorem QdG {P : Program} {w : World} {o : Oper} {a : Act} {K : Act → World → Prop} {Q : Exit → Act → World → Prop} (s x : Operand) (t : TypeId)
  (ho : o.op = .call { callee:=.builtin .append,args:=#[s,x],argTypes:=#[t,t] })
  (base : Nat) (e : TypeId) (i : TypeInfo) (z : Value) (bytes : Nat) (ht : P.underlying t = some (.slice e)) (hi : P.info? e = some i) (hz : i.zero = some z)
  (hsize : i.size = 1) (hby : i.bytes = bytes) (hzs : z.cells.size = 1)
  (v : Value) (n : Nat) (xs : List Value) (hs : a.eval s = v) (hown : w.ownsRow base e 1 v n xs)
  (u : Value) (ys : List Value) (hx : a.eval x = u) (hb : VS w u ys)
  (h63 : n + ys.length ≤ maxLen) (hbytes : (n + ys.length) * bytes ≤ 140737488355328) (hbase : base ≤ w.heap.size)
  (h : ∀ v' w',w'.ownsRow base e 1 v' (n + ys.length) (xs ++ ys) → w.grownBy w' v.ownBlock → K (a.put o.dst v') w') :
  Oper.wp P o a w K Q:=by
 obtain ⟨ao,cap,rfl,hnc,hone,hnone,hcell⟩:=hb
 cases ao with
 | none =>
  have h0 : ys = []:=hnone rfl;subst h0;have hc : cap = 0:=hnc _ _ rfl;subst hc;have hrun:=run_append_owned_none (P:=P) (w:=w) base t o.type e i 1 ht hi v n xs hown;have hK:=h v w (by simpa using hown) (World.grownBy.refl _ _);unfold Oper.wp;simp [execOp,ho,resolve,invoke,builtin,hs,hx,hrun,Result.andThen];exact hK
 | some ad =>
  obtain ⟨v',w',hrun,r1,r2,_⟩:=run_append_own_at (P:=P) w base t o.type e i z 1 bytes ht hi hz hsize hby hzs (by omega) v n xs hown ad ys.length cap ys (by simp) (hcell ad rfl) hone h63 hbytes hbase;unfold Oper.wp;simp [execOp,ho,resolve,invoke,builtin,hs,hx,hrun,Result.andThen];exact h v' w' r1 r2
theorem Qbp {P : Program} (w : World) {ops : Array Oper} {rest : List Oper} {o : Oper} {a : Act} {Q : Exit → Act → World → Prop} (hw : Region.wanted o (yielded ops a.tmps) = true) (s x : Operand) (t : TypeId)
  (ho : o.op = .call { callee:=.builtin .append,args:=#[s,x],argTypes:=#[t,t] })
  (base : Nat) (e : TypeId) (i : TypeInfo) (z : Value) (bytes : Nat) (ht : P.underlying t = some (.slice e)) (hi : P.info? e = some i) (hz : i.zero = some z)
  (hsize : i.size = 1) (hby : i.bytes = bytes) (hzs : z.cells.size = 1)
  (v : Value) (n : Nat) (xs : List Value) (hs : a.eval s = v) (hown : w.ownsRow base e 1 v n xs)
  (u : Value) (ys : List Value) (hx : a.eval x = u) (hb : VS w u ys)
  (h63 : n + ys.length ≤ maxLen) (hbytes : (n + ys.length) * bytes ≤ 140737488355328) (hbase : base ≤ w.heap.size)
  (h : ∀ v' w',w'.ownsRow base e 1 v' (n + ys.length) (xs ++ ys) → w.grownBy w' v.ownBlock → wpList P ops Q rest (a.put o.dst v') w') :
  wpList P ops Q (o :: rest) a w:=by
 refine wpList_step fun K hK => ?_
 rw [if_pos hw];exact QdG s x t ho base e i z bytes ht hi hz hsize hby hzs v n xs hs hown u ys hx hb h63 hbytes hbase (fun v' w' h1 h2 => hK _ _ (h v' w' h1 h2))
def LO (w : World) (vs : List Value) (ls : List (List Int)) : Prop:=vs.length = ls.length ∧ ∀ j u,vs[j]? = some u → ∃ lo,w.ownsRow lo 5 1 u (ls.getD j []).length (bl (ls.getD j []))
theorem LO.nil (w : World) : LO w [] []:=⟨rfl,fun j u h => by simp at h⟩
theorem LO.one {w : World} {lo : Nat} {u : Value} {l : List Int} (h : w.ownsRow lo 5 1 u l.length (bl l)) : LO w [u] [l]:=⟨rfl,fun j v hv => by
 cases j with
 | zero => simp at hv;subst hv;exact ⟨lo,h⟩
 | succ j => simp at hv⟩
theorem LO.app {w : World} {vs us : List Value} {ls ms : List (List Int)} (h : LO w vs ls) (k : LO w us ms) : LO w (vs ++ us) (ls ++ ms):=⟨by rw [List.length_append,List.length_append,h.1,k.1],fun j u hu => by
 have hl:=h.1
 by_cases hj : j < vs.length
 ·rw [List.getElem?_append_left hj] at hu
  rw [List.getD_eq_getElem?_getD,List.getElem?_append_left (by omega),← List.getD_eq_getElem?_getD];exact h.2 j u hu
 ·rw [List.getElem?_append_right (by omega)] at hu
  rw [List.getD_eq_getElem?_getD,List.getElem?_append_right (by omega),← List.getD_eq_getElem?_getD,← hl]
  exact k.2 _ u hu⟩
theorem LO.past {w w' : World} {vs : List Value} {ls : List (List Int)} (h : LO w vs ls) (o : Only (fun _ => False) w w') : LO w' vs ls:=⟨h.1,fun j u hu => by
 obtain ⟨lo,h1⟩:=h.2 j u hu
 exact ⟨lo,o.own h1 (fun _ _ f => f)⟩⟩
theorem LO.grown {w w' : World} {vs : List Value} {ls : List (List Int)} (h : LO w vs ls) {base n : Nat} {v : Value} {xs : List Value} (hv : w.ownsRow base 22 1 v n xs) (g : w.grownBy w' v.ownBlock) : LO w' vs ls:=⟨h.1,fun j u hu => by
 obtain ⟨lo,h1⟩:=h.2 j u hu;refine ⟨lo,((Only.refl (fun k => v.ownBlock = some k) w).grown g (fun _ _ e => e)).own h1 (fun k hk e => ?_)⟩
 rcases hv.2 with ⟨rfl,_⟩ | ⟨b,cap,cur,rfl,_,hb,_⟩
 ·cases e
 ·cases e
  rcases h1.2 with ⟨rfl,_⟩ | ⟨b',cap',cur',rfl,_,hb',_⟩
  ·cases hk
  ·cases hk
   rw [hb] at hb'
   cases hb'⟩
theorem LO.rl {w : World} {lo : Nat} {v : Value} {vs : List Value} {ls : List (List Int)} (h : LO w vs ls) (ho : w.ownsRow lo 22 1 v vs.length vs) : RL w v ls ∧ NoCap v:=⟨RL.of_own (lo:=lo) (vs:=vs) (by rw [← h.1];exact ho) (fun j u hu => by
 obtain ⟨lo',h1⟩:=h.2 j u hu
 exact ⟨Bs.of_own (k:=.u8) (E:=5) (lo:=lo') h1,NoCap.of_own h1⟩),NoCap.of_own ho⟩
theorem Blk.newIn {w : World} {G : Nat} (h : w.heap.size = G) (t : TypeId) (cs : List Value) : Blk (w.alloc (.cells cs.toArray t)) G t cs:=by
 subst h;exact Blk.new w t cs
theorem Qfy {o : Oper} {a : Act} {W : World} {K : Act → World → Prop} {Q : Exit → Act → World → Prop} {b i : Nat} {u : Value} (ho : o.op = .load 42 (.tmp 106)) (h0 : a.eval (.tmp 106) = .pointer (some ⟨b,i,none⟩)) (hc : W.cell? ⟨b,i,none⟩ = some u)
  (h : K (a.put o.dst u) W) : Oper.wp Tryz.prog o a W K Q:=by
 obtain ⟨dst,op,ty,pos,af,gd⟩:=o;simp only at ho;subst ho;simp only [Act.eval] at h0
 have e0 : a.tmps[106]?.getD undef = .pointer (some ⟨b,i,none⟩):=by simpa using h0
 unfold Oper.wp
 go_simp
 exact h
theorem Qfz {o : Oper} {a : Act} {W : World} {K : Act → World → Prop} {Q : Exit → Act → World → Prop} {b i n c : Nat} {ao : Option Addr} {u : Value} (ho : o.op = .store 42 (.tmp 119) (.tmp 118)) (hd : o.dst = none) (h0 : a.eval (.tmp 119) = .pointer (some ⟨b,i,none⟩)) (h1 : a.eval (.tmp 118) = .slice ao n c)
  (hc : W.cell? ⟨b,i,none⟩ = some u) (hf : W.frozen? ⟨b,i,none⟩ = false)
  (h : K a (W.setCell ⟨b,i,none⟩ (.slice ao n c))) : Oper.wp Tryz.prog o a W K Q:=by
 obtain ⟨dst,op,ty,pos,af,gd⟩:=o;simp only at ho hd;subst ho hd;simp only [Act.eval] at h0 h1
 have e0 : a.tmps[119]?.getD undef = .pointer (some ⟨b,i,none⟩):=by simpa using h0
 have e1 : a.tmps[118]?.getD undef = .slice ao n c:=by simpa using h1
 unfold Oper.wp
 go_simp
 exact h
theorem Qem {o : Oper} {a : Act} {W : World} {K : Act → World → Prop} {Q : Exit → Act → World → Prop} {s : ByteArray} {y : Int} (ho : o.op = .buildSlice 42 1 #[(0,Operand.tmp 116)]) (h0 : a.eval (.tmp 116) = .agg #[.string s,.int .i64 y])
  (h : K (a.put o.dst (.slice (some ⟨W.heap.size,0,none⟩) 1 1)) (W.alloc (.cells #[.string s,.int .i64 y] 61))) : Oper.wp Tryz.prog o a W K Q:=by
 obtain ⟨dst,op,ty,pos,af,gd⟩:=o;simp only at ho;subst ho;simp only [Act.eval] at h0
 have e0 : a.tmps[116]?.getD undef = .agg #[.string s,.int .i64 y]:=by simpa using h0
 unfold Oper.wp
 go_simp
 exact h
end Go.Proofs.YtcpopagikbjimaaGreatDoor
