import Derived.Test.YtcpopagikbjimaaGreatDoorG7
namespace Go.Proofs.YtcpopagikbjimaaGreatDoor
set_option maxHeartbeats 1600000
set_option maxRecDepth 100000
open Go.RowKit
theorem QgW (b : List Int) : U8 (SHA b):=fun y hy => QaR b y hy
theorem QeQ (l : List (List Int)) : l.headD [] = l.getD 0 []:=by cases l <;> rfl
theorem Qj2 : ∀ (f : Nat) (l : List (List Int)),R8 l → U8 (TOPF f l) ∧ (TOPF f l).length ≤ 1000000000
 | 0,l,h => by
  unfold TOPF;rw [QeQ];exact h.at 0
 | f + 1,l,h => by
  unfold TOPF
  split
  ·exact ⟨QgW _,by rw [Qan];decide⟩
  ·split
   ·rw [QeQ]
    exact h.at 0
   ·exact ⟨QgW _,by rw [Qds];decide⟩
theorem Qd4 {l : List (List Int)} (h : R8 l) : U8 (TOP l) ∧ (TOP l).length ≤ 1000000000:=Qj2 _ l h
theorem Qjv {w : World} {lo n : Nat} {v : Value} {xs : List Int} (h : w.ownsRow lo 5 1 v n (bl xs)) : Bs .u8 w v xs:=by
 have hl:=h.1;rw [Qah] at hl;refine Bs.of_own (k:=.u8) (E:=5) (lo:=lo) ?_;rw [show xs.length = n by omega];exact h
theorem Qj3 : ∀ (k : Nat) (ls : List (List Int)) (v : Value) (w : World),ls.length ≤ k → 0 < ls.length → ls.length ≤ 1000000000 → R8 ls → RL w v ls →
  Calls Tryz.prog 78 #[v] w fun e w' => ∃ v',e = .returned v' ∧ w'.ownsRow w.heap.size 5 1 v' (TOP ls).length (bl (TOP ls)) ∧ Only (fun _ => False) w w':=by
 intro k
 induction k with
 | zero => intro ls v w h1 h2;omega
 | succ k ih =>
  intro ls v w hk h0 hl h8 hr;obtain ⟨n,hn⟩ : ∃ n,ls.length = n:=⟨_,rfl⟩;obtain ⟨b,off,cap,rfl,hcap⟩:=hr.form hn (by omega)
  by_cases h1 : n = 1
  ·obtain ⟨u,hu,hbu,nu⟩:=hr.at 0 (by omega)
   rw [Nat.add_zero] at hu;have A:=Qaa (Qcn u _ w hbu (by have:=(h8.at 0).2;omega));rw [QgY (by omega),QeQ];obtain ⟨x,hx⟩ : ∃ x,x = ls.getD 0 []:=⟨_,rfl⟩;rw [← hx] at A hbu ⊢;obtain ⟨ao,cu,rfl⟩:=hbu.len;obtain ⟨m,hm⟩ : ∃ m,m = x.length:=⟨_,rfl⟩;rw [← hm] at A hu ⊢;subst h1;clear ih hk h0 hl h8 hr hn hbu nu hx hm;go_enter Tryz.func78,Tryz.ntmps78;go_wp2_with fail;refine A.out.mono ?_;rintro e w4 ⟨v4,rfl,own4,on4⟩;have F1:=Qaa own4;have F2:=Qaa on4;obtain ⟨ao4,cap4,e4⟩:=Qad own4;subst e4;clear own4 on4 A;go_wp2;go_ret;exact ⟨_,rfl,F1.out,F2.out⟩
  ·obtain ⟨q,hq⟩ : ∃ q,q = HALF n:=⟨_,rfl⟩
   have q1:=Qdt n;have q2:=QeS (n:=n) (by omega);rw [← hq] at q1 q2;obtain ⟨L,hL⟩ : ∃ L,L = ls.take q:=⟨_,rfl⟩;obtain ⟨R,hR⟩ : ∃ R,R = ls.drop q:=⟨_,rfl⟩
   have hLl : L.length = q:=by rw [hL,List.length_take];omega
   have hRl : R.length = n - q:=by rw [hR,List.length_drop];omega
   have L8 : R8 L:=by rw [hL];exact h8.take _
   have R8' : R8 R:=by rw [hR];exact h8.drop _
   have rL : RL w (.slice (some ⟨b,off,none⟩) q cap) L:=by rw [hL];exact hr.head q (by omega)
   have rR : RL w (.slice (some ⟨b,off + q,none⟩) (n - q) (cap - q)) R:=by rw [hR];exact hr.tail q (by omega)
   rw [QgZ (by omega),hn,← hq,← hL,← hR,Qds];have AL:=Qaa (QgX n (by omega) (by omega) w);rw [← hq] at AL;have T1:=Qaa (fun (W : World) (o : Only (fun _ => False) w W) => ih L _ W (by omega) (by omega) (by omega) L8 (rL.past o));have T2:=Qaa (fun (W : World) (o : Only (fun _ => False) w W) => ih R _ W (by omega) (by omega) (by omega) R8' (rR.past o));have NC:=Qaa (fun (vl vr : Value) (W : World) (hb : Bs .u8 W vl (TOP L)) (hr : Bs .u8 W vr (TOP R)) => Qix vl vr (TOP L) (TOP R) W hb hr (Qd4 L8).1 (Qd4 R8').1 (Qd4 L8).2 (Qd4 R8').2)
   have d1 : ((n : Int) == 1) = false:=by rw [beq_eq_false_iff_ne];omega
   have c1 : (q : Int) ≤ (cap : Int):=by omega
   have c2 : (q : Int) ≤ (n : Int):=by omega
   have c0 : (0 : Int) ≤ (q : Int):=by omega
   have c3 : ¬ cap = q:=by omega
   clear ih hk h0 hl h8 hr hn hLl hRl L8 R8' rL rR hL hR hq h1;go_enter Tryz.func78,Tryz.ntmps78;go_wp2_with fail;refine AL.out.mono ?_;rintro e w1 ⟨rfl,rfl⟩;clear AL;go_wp2_with fail;go_region_held3 (fun _ => True) (trivial) (first | (go_at_call 78;refine (T1.out _ ((Only.refl _ _).drew)).mono ?_;rintro e w1 ⟨v1,rfl,own1,o1⟩;have O1:=Qaa (((Only.refl (fun _ => False) w).drew).same o1);have B1:=Qaa (Qjv own1);clear own1 o1 T1) | (go_at_call 78;refine (T2.out _ O1.out).mono ?_;rintro e w2 ⟨v2,rfl,own2,o2⟩;have O2:=Qaa (O1.out.same o2);have B2:=Qaa (Qjv own2);have B1':=Qaa (B1.out.past o2);clear own2 o2 T2) | (go_at_call 108;refine (NC.out _ _ _ B1'.out B2.out).mono ?_;rintro e w3 ⟨v3,rfl,own3,o3⟩;have F1:=Qaa (Qal own3 O2.out.size);have F2:=Qaa (O2.out.same o3);obtain ⟨ao3,cap3,e3⟩:=Qad own3;subst e3;clear own3 o3 NC));go_wp2;go_ret;exact ⟨_,rfl,F1.out,F2.out⟩
theorem Qit (ls : List (List Int)) (v : Value) (w : World) (hl : ls.length ≤ 1000000000) (h8 : R8 ls) (hr : RL w v ls) :
  Calls Tryz.prog 50 #[v] w fun e w' => ∃ v',e = .returned v' ∧ w'.ownsRow w.heap.size 5 1 v' (TOP ls).length (bl (TOP ls)) ∧ Only (fun _ => False) w w':=by
 obtain ⟨ao,cap,e,_⟩:=hr.len;subst e
 by_cases h0 : ls.length = 0
 ·have A:=Qaa (QhE (.slice none 0 0) [] w (Bs.nil _ _) (fun y hy => by simp at hy) (by simp))
  have e : ls = []:=List.eq_nil_of_length_eq_zero h0;subst e;rw [QiA,Qan];clear hl h8 hr h0;go_enter Tryz.func50,Tryz.ntmps50;go_wp2_with fail;refine A.out.mono ?_;rintro e w4 ⟨v4,rfl,own4,on4⟩;have F1:=Qaa own4;have F2:=Qaa on4;obtain ⟨ao4,cap4,e4⟩:=Qad own4;subst e4;clear own4 on4 A;go_wp2;go_ret;exact ⟨_,rfl,F1.out,F2.out⟩
 ·have A:=Qaa (Qj3 ls.length ls _ w (Nat.le_refl _) (by omega) hl h8 hr)
  obtain ⟨n,hn⟩ : ∃ n,n = ls.length:=⟨_,rfl⟩;rw [← hn] at A h0 ⊢
  have d1 : ((n : Int) == 0) = false:=by rw [beq_eq_false_iff_ne];omega
  clear hl h8 hr h0 hn;go_enter Tryz.func50,Tryz.ntmps50;go_wp2_with fail;refine A.out.mono ?_;rintro e w4 ⟨v4,rfl,own4,on4⟩;have F1:=Qaa own4;have F2:=Qaa on4;obtain ⟨ao4,cap4,e4⟩:=Qad own4;subst e4;clear own4 on4 A;go_wp2;go_ret;exact ⟨_,rfl,F1.out,F2.out⟩
end Go.Proofs.YtcpopagikbjimaaGreatDoor
