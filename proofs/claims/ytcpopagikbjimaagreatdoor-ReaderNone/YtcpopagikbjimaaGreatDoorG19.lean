import Derived.Test.YtcpopagikbjimaaGreatDoorG18
namespace Go.Proofs.YtcpopagikbjimaaGreatDoor
set_option maxHeartbeats 4000000
set_option maxRecDepth 100000
open Go.RowKit
theorem Qc7 (ao : Option Addr) (m cap : Nat) (ys : List Int) (w : World) (h : Bs .u8 w (.slice ao m cap) ys) (nc : NoCap (.slice ao m cap)) (hr : ∀ y ∈ ys,0 ≤ y ∧ y ≤ 255) {a : Int} {k : Nat} {c : Int} (hs : Qab ys = (a,k,c)) :
  Calls Tryz.prog 35 #[.slice ao m cap] w fun e w' => ∃ ao' m' cap',e = .returned (.tuple #[.int .u64 a,.slice ao' m' cap',.int .i64 c]) ∧ Bs .u8 w' (.slice ao' m' cap') (ys.drop k) ∧ NoCap (.slice ao' m' cap') ∧ Only (fun _ => False) w w' ∧ (Value.slice ao' m' cap').ownBlock = (Value.slice ao m cap).ownBlock:=by
 obtain ⟨hrd,hk⟩:=QcW ys hr hs;have hl:=h.length;have A:=Qaa (Qi9 _ ys w hrd h hr)
 have hc : m ≤ cap:=by
  obtain ⟨ao',cap',e,hcap,_⟩:=h;simp at e;omega
 have j0 : (0 : Int) ≤ (k : Int):=by omega
 have j1 : (k : Int) ≤ (m : Int):=by omega
 have j2 : (k : Int) ≤ (cap : Int):=by omega
 have HH:=Qaa (And.intro h nc);clear h nc hrd hs hk hl
 by_cases hcn : cap = k
 ·subst hcn
  have H:=Qaa (And.intro (HH.out.1.cut0 (n:=cap) (by omega)) (HH.out.2.rest (n:=cap) (m':=m - cap)));rw [if_pos rfl,Nat.sub_self] at H;clear HH hc;go_enter Tryz.func35,Tryz.ntmps35;go_wp2_with fail;refine A.out.mono ?_;rintro e w1 ⟨rfl,rfl⟩;go_wp2;go_quiet (fail);go_wp2
  go_ret3
  exact ⟨_,_,_,rfl,H.out.1.keep ((Only.refl _ _).drewN nq) (fun _ _ f => f),H.out.2,(Only.refl _ _).drewN nq,Qct _ _ _ _ _⟩
 ·have H:=Qaa (And.intro (HH.out.1.cut (n:=k) (by omega)) (HH.out.2.rest (n:=k) (m':=m - k)))
  rw [if_neg hcn] at H;clear HH;go_enter Tryz.func35,Tryz.ntmps35;go_wp2_with fail;refine A.out.mono ?_;rintro e w1 ⟨rfl,rfl⟩;go_wp2;go_quiet (fail);go_wp2
  go_ret3
  exact ⟨_,_,_,rfl,H.out.1.keep ((Only.refl _ _).drewN nq) (fun _ _ f => f),H.out.2,(Only.refl _ _).drewN nq,Qey _ _ _ _ _ _⟩
theorem Qb0 (ao : Option Addr) (m cap : Nat) (ys : List Int) (w : World) (h : Bs .u8 w (.slice ao m cap) ys) (nc : NoCap (.slice ao m cap)) (n : Int) (hm : m ≤ 1000000000000 ∨ n ≤ 1000000000000) {a : List Int} {k : Nat} {c : Int} (hs : Qai n ys = (a,k,c)) :
  Calls Tryz.prog 20 #[.slice ao m cap,.int .i64 n] w fun e w' => ∃ v1 ao' m' cap',e = .returned (.tuple #[v1,.slice ao' m' cap',.int .i64 c]) ∧ Bs .u8 w' v1 a ∧ Bs .u8 w' (.slice ao' m' cap') (ys.drop k) ∧ NoCap (.slice ao' m' cap') ∧ Only (fun _ => False) w w' ∧ (Value.slice ao' m' cap').ownBlock = (Value.slice ao m cap).ownBlock ∧ (∀ j,v1.ownBlock = some j → w.heap.size ≤ j):=by
 have HL:=Qaa h.length
 by_cases h0 : n < 0
 ·have hs2 : Qai n ys = ([],0,1):=if_pos h0
  rw [hs2] at hs;simp only [Prod.mk.injEq] at hs;obtain ⟨rfl,rfl,rfl⟩:=hs;have H:=Qaa (And.intro h nc);clear h nc;go_enter Tryz.func20,Tryz.ntmps20;go_wp2
  go_ret3
  exact ⟨.slice none 0 0,_,_,_,rfl,Bs.nil _ _,H.out.1,H.out.2,Only.refl _ _,rfl,fun j e => by cases e⟩
 have d0 : decide (n < 0) = false:=decide_eq_false h0;obtain ⟨n,rfl⟩:=Int.eq_ofNat_of_zero_le (Int.not_lt.1 h0)
 by_cases h1 : (m : Int) < (n : Int)
 ·have hs2 : Qai n ys = ([],0,2):=by
   simp only [Qai];rw [if_neg h0,if_pos (by have:=HL.out;omega)]
  rw [hs2] at hs;simp only [Prod.mk.injEq] at hs;obtain ⟨rfl,rfl,rfl⟩:=hs;have H:=Qaa (And.intro h nc);clear h nc;go_enter Tryz.func20,Tryz.ntmps20;go_wp2
  go_ret3
  exact ⟨.slice none 0 0,_,_,_,rfl,Bs.nil _ _,H.out.1,H.out.2,Only.refl _ _,rfl,fun j e => by cases e⟩
 ·have hs2 : Qai n ys = (ys.take n,n,0):=by
   simp only [Qai];rw [if_neg h0,if_neg (by have:=HL.out;omega)]
   rfl
  rw [hs2] at hs;simp only [Prod.mk.injEq] at hs;obtain ⟨rfl,rfl,rfl⟩:=hs;have d1 : decide ((m : Int) < (n : Int)) = false:=decide_eq_false h1;obtain ⟨i0,hi,hz0,hz1,hz2⟩:=info_parts Tryz.infoU8;have ho:=World.ownsRow_made (base:=w.heap.size) (e:=5) (size:=1) w.drew #[] 0 (Nat.le_refl _) (by unfold maxLen;omega) rfl
  have hc : m ≤ cap:=by
   obtain ⟨ao',cap',e,hcap,_⟩:=h;simp at e;omega
  have j0 : (0 : Int) ≤ (n : Int):=by omega
  have j1 : (n : Int) ≤ (m : Int):=by omega
  have j2 : (n : Int) ≤ (cap : Int):=by omega
  have oa : Only (fun _ => False) w (w.drew.alloc (.cells #[] 5)):=((Only.refl _ _).drew).alloc _
  have nh : NoCap (.slice ao n cap):=by
   intro a b e
   cases e
   exact nc m cap rfl
  have HA:=Qaa (And.intro ((h.head (n:=n) (by omega)).keep oa (fun _ _ f => f)) nh);have HO:=Qaa ho
  have hlt : (ys.take n).length = n:=by rw [List.length_take];have:=HL.out;omega
  have HLT:=Qaa hlt
  have FIN : ∀ v' w1,w1.ownsRow w.heap.size 5 1 v' (0 + (ys.take n).length) ([] ++ (ys.take n).map (Value.int .u8)) → (w.alloc (Obj.cells #[] 5)).drew.grownBy w1 (Value.slice (some ⟨w.heap.size,0,none⟩) 0 0).ownBlock →
    Bs .u8 w1 v' (ys.take n) ∧ Only (fun _ => False) w w1 ∧ (∀ j,v'.ownBlock = some j → w.heap.size ≤ j):=by
   intro v' w1 hown hgrow;rw [Nat.zero_add,List.nil_append] at hown;refine ⟨Bs.of_own hown,oa.grown hgrow (fun k hk e => ?_),fun j e => (hown.lt j e).1⟩;simp [Value.ownBlock] at e;omega
  have FN:=Qaa FIN;have HH:=Qaa (And.intro h nc);clear h nc ho nh oa hlt FIN
  by_cases hcn : cap = n
  ·subst hcn
   have H:=Qaa (And.intro (HH.out.1.cut0 (n:=cap) (by omega)) (HH.out.2.rest (n:=cap) (m':=m - cap)));rw [if_pos rfl,Nat.sub_self] at H;clear HH hc;go_enter Tryz.func20,Tryz.ntmps20;go_wp2
   go_region_law (refine Qav rfl (.tmp 15) (.tmp 18) 22 rfl w.heap.size 5 i0 (.int .u8 0) 1 Tryz.underlying22 hi hz0 hz1 hz2 rfl (.slice (some ⟨w.heap.size,0,none⟩) 0 0) 0 [] rfl HO.out .u8 _ (ys.take cap) rfl HA.out.1 HA.out.2 (by rw [HLT.out];unfold maxLen;omega) (by rw [HLT.out];omega) (by simp) ?_;intro v' w1 hown hgrow)
   have F:=Qaa (FN.out v' w1 hown hgrow);clear hown hgrow FN HO HA;go_wp2
   go_ret3
   obtain ⟨f1,f2,f3⟩:=F.out;exact ⟨v',_,_,_,rfl,f1,H.out.1.keep f2 (fun _ _ f => f),H.out.2,f2,Qct _ _ _ _ _,f3⟩
  ·have H:=Qaa (And.intro (HH.out.1.cut (n:=n) (by omega)) (HH.out.2.rest (n:=n) (m':=m - n)))
   rw [if_neg hcn] at H;clear HH;go_enter Tryz.func20,Tryz.ntmps20;go_wp2
   go_region_law (refine Qav rfl (.tmp 15) (.tmp 18) 22 rfl w.heap.size 5 i0 (.int .u8 0) 1 Tryz.underlying22 hi hz0 hz1 hz2 rfl (.slice (some ⟨w.heap.size,0,none⟩) 0 0) 0 [] rfl HO.out .u8 _ (ys.take n) rfl HA.out.1 HA.out.2 (by rw [HLT.out];unfold maxLen;omega) (by rw [HLT.out];omega) (by simp) ?_;intro v' w1 hown hgrow)
   have F:=Qaa (FN.out v' w1 hown hgrow);clear hown hgrow FN HO HA;go_wp2
   go_ret3
   obtain ⟨f1,f2,f3⟩:=F.out;exact ⟨v',_,_,_,rfl,f1,H.out.1.keep f2 (fun _ _ f => f),H.out.2,f2,Qey _ _ _ _ _ _,f3⟩
theorem Qei (ao : Option Addr) (m cap : Nat) (ys : List Int) (w : World) (h : Bs .u8 w (.slice ao m cap) ys) (nc : NoCap (.slice ao m cap)) (hr : ∀ y ∈ ys,0 ≤ y ∧ y ≤ 255) (most : Int) (hm : m ≤ 1000000000000 ∨ most ≤ 1000000000000) (hmost : most ≤ 9223372036854775807) {a : List Int} {k : Nat} {c : Int} (hs : Qae most ys = (a,k,c)) :
  Calls Tryz.prog 18 #[.slice ao m cap,.int .i64 most] w fun e w' => ∃ v1 ao' m' cap',e = .returned (.tuple #[v1,.slice ao' m' cap',.int .i64 c]) ∧ Bs .u8 w' v1 a ∧ Bs .u8 w' (.slice ao' m' cap') (ys.drop k) ∧ NoCap (.slice ao' m' cap') ∧ Only (fun _ => False) w w' ∧ (Value.slice ao' m' cap').ownBlock = (Value.slice ao m cap).ownBlock:=by
 have HL:=Qaa h.length
 by_cases h0 : most < 0
 ·have hs2 : Qae most ys = ([],0,1):=if_pos h0
  rw [hs2] at hs;simp only [Prod.mk.injEq] at hs;obtain ⟨rfl,rfl,rfl⟩:=hs;have H:=Qaa (And.intro h nc);clear h nc;go_enter Tryz.func18,Tryz.ntmps18;go_wp2
  go_ret3
  exact ⟨.slice none 0 0,_,_,_,rfl,Bs.nil _ _,H.out.1,H.out.2,Only.refl _ _,rfl⟩
 have d0 : decide (most < 0) = false:=decide_eq_false h0;obtain ⟨x,q,g,hv⟩ : ∃ x q g,Qab ys = (x,q,g):=⟨_,_,_,rfl⟩;have A:=Qaa (Qc7 ao m cap ys w h nc hr hv);obtain ⟨hrd,hq⟩:=QcW ys hr hv;have HC:=QbR ys hr;rw [hrd] at HC;have H:=Qaa (And.intro h nc)
 by_cases hg : g = 0
 ·subst hg
  have hx : 0 ≤ x ∧ x < 18446744073709551616:=by
   rcases HC with ⟨c',e,hc⟩ | ⟨a',k',e,_,_,_,hlt,_⟩
   ·simp only [Prod.mk.injEq] at e
    omega
   ·simp only [Prod.mk.injEq] at e
    omega
  clear HC hrd
  by_cases h4 : most < x
  ·have hs2 : Qae most ys = ([],0,4):=by
    simp only [Qae];rw [if_neg h0,hv,if_neg (by simp),if_pos h4]
   rw [hs2] at hs;simp only [Prod.mk.injEq] at hs;obtain ⟨rfl,rfl,rfl⟩:=hs;have d4 : decide (most < x) = true:=decide_eq_true h4;clear h nc hv hs2;go_enter Tryz.func18,Tryz.ntmps18;go_wp2_with fail;refine A.out.mono ?_;rintro e w1 ⟨ao',m',cap',rfl,_,_,hon,-⟩;have O1:=Qaa hon;clear hon A;go_wp2
   go_ret3
   exact ⟨.slice none 0 0,_,_,_,rfl,Bs.nil _ _,H.out.1.keep O1.out (fun _ _ f => f),H.out.2,O1.out,rfl⟩
  have d4 : decide (most < x) = false:=decide_eq_false h4
  by_cases h2 : (ys.length : Int) - q < x
  ·have hs2 : Qae most ys = ([],0,2):=by
    simp only [Qae];rw [if_neg h0,hv,if_neg (by simp),if_neg h4,if_pos h2]
   have hb : Qai x (ys.drop q) = ([],0,2):=by
    simp only [Qai];rw [if_neg (by omega),if_pos (by rw [List.length_drop];omega)]
   rw [hs2] at hs;simp only [Prod.mk.injEq] at hs;obtain ⟨rfl,rfl,rfl⟩:=hs;have HB:=Qaa hb;clear h nc hv hs2 h2 hb;go_enter Tryz.func18,Tryz.ntmps18;go_wp2_with fail;refine A.out.mono ?_;rintro e w1 ⟨ao',m',cap',rfl,hb1,hn1,hon,hob⟩;have HOB:=Qaa hob;clear hob;have hm':=hb1.length;rw [List.length_drop] at hm';have B:=Qaa (Qb0 ao' m' cap' (ys.drop q) w1 hb1 hn1 x (by have:=HL.out;omega) HB.out);have O1:=Qaa hon;clear hon A hb1 hn1 hm';go_wp2_with fail;refine B.out.mono ?_;rintro e w2 ⟨v2,ao2,m2,cap2,rfl,_,_,_,hon2,-⟩;have O2:=Qaa (O1.out.trans hon2 (fun _ _ f => f));clear hon2 B O1;go_wp2
   go_ret3
   exact ⟨.slice none 0 0,_,_,_,rfl,Bs.nil _ _,H.out.1.keep O2.out (fun _ _ f => f),H.out.2,O2.out,rfl⟩
  ·have hs2 : Qae most ys = ((ys.drop q).take x.toNat,q + x.toNat,0):=by
    simp only [Qae];rw [if_neg h0,hv,if_neg (by simp),if_neg h4,if_neg h2]
   have hb : Qai x (ys.drop q) = ((ys.drop q).take x.toNat,x.toNat,0):=by
    simp only [Qai];rw [if_neg (by omega),if_neg (by rw [List.length_drop];omega)]
   rw [hs2] at hs;simp only [Prod.mk.injEq] at hs;obtain ⟨rfl,rfl,rfl⟩:=hs;have HB:=Qaa hb;clear h nc hv hs2 h2 hb;go_enter Tryz.func18,Tryz.ntmps18;go_wp2_with fail;refine A.out.mono ?_;rintro e w1 ⟨ao',m',cap',rfl,hb1,hn1,hon,hob⟩;have HOB:=Qaa hob;clear hob;have hm':=hb1.length;rw [List.length_drop] at hm';have B:=Qaa (Qb0 ao' m' cap' (ys.drop q) w1 hb1 hn1 x (by have:=HL.out;omega) HB.out);rw [List.drop_drop] at B;have O1:=Qaa hon;clear hon A hb1 hn1 hm';go_wp2_with fail;refine B.out.mono ?_;rintro e w2 ⟨v2,ao2,m2,cap2,rfl,hb2,hc2,hn2,hon2,hob2,-⟩;have F:=Qaa (And.intro hb2 (And.intro hc2 (And.intro hn2 (And.intro (O1.out.trans hon2 (fun _ _ f => f)) (hob2.trans HOB.out)))));clear hb2 hc2 hn2 hon2 hob2 B O1;go_wp2
   go_ret3
   exact ⟨v2,_,_,_,rfl,F.out⟩
 ·have hs2 : Qae most ys = ([],0,g):=by
   simp only [Qae];rw [if_neg h0,hv,if_pos hg]
  rw [hs2] at hs;simp only [Prod.mk.injEq] at hs;obtain ⟨rfl,rfl,rfl⟩:=hs
  have dg : (g != 0) = true:=by simpa using hg
  clear h nc hv hs2 HC hrd;go_enter Tryz.func18,Tryz.ntmps18;go_wp2_with fail;refine A.out.mono ?_;rintro e w1 ⟨ao',m',cap',rfl,_,_,hon,-⟩;have O1:=Qaa hon;clear hon A;go_wp2
  go_ret3
  exact ⟨.slice none 0 0,_,_,_,rfl,Bs.nil _ _,H.out.1.keep O1.out (fun _ _ f => f),H.out.2,O1.out,rfl⟩
theorem Sts.offB {w w' : World} {g : Nat} {T : TypeId} {cs : List Value} {v : Value} {ys : List (List Int)} (hb : Sts w v ys) (hB : Blk w g T cs) (hc : ∀ y ∈ cs,∀ x,y ≠ .string x) (o : Only (fun k => k = g) w w') : Sts w' v ys:=by
 obtain ⟨ao,cap,rfl,hl,hr⟩:=hb;refine ⟨ao,cap,rfl,hl,fun hne => ?_⟩;obtain ⟨b,off,rfl,h⟩:=hr hne;refine ⟨b,off,rfl,fun j hj => ?_⟩;have h0:=h j hj
 by_cases hbg : b = g
 ·subst hbg
  rw [hB.cell] at h0;exact absurd rfl (hc _ (List.mem_of_getElem? h0) _)
 ·rw [← h0]
  exact World.cell?_of_block (o.block b (World.block_lt_of_cell? w _ h0) hbg)
def RDR (w : World) (g B : Nat) (s : List Int × Int) : Prop :=
 ∃ ao cap,Blk w g 77 [.slice ao s.1.length cap,.int .i64 s.2] ∧ Bs .u8 w (.slice ao s.1.length cap) s.1 ∧ NoCap (.slice ao s.1.length cap) ∧ (s.1 ≠ [] → ∀ j,(Value.slice ao s.1.length cap).ownBlock = some j → j < B)
theorem QbA (ao : Option Addr) (m cap : Nat) (e : Int) : ∀ y ∈ [Value.slice ao m cap,.int .i64 e],∀ x,y ≠ .int .u8 x:=fun y hy x => by
 rcases List.mem_cons.1 hy with rfl | hy
 ·intro h;cases h
 ·rcases List.mem_cons.1 hy with rfl | hy
  ·intro h;cases h
  ·cases hy
theorem QiO (ao : Option Addr) (m cap : Nat) (e : Int) : ∀ y ∈ [Value.slice ao m cap,.int .i64 e],∀ x,y ≠ .string x:=fun y hy x => by
 rcases List.mem_cons.1 hy with rfl | hy
 ·intro h;cases h
 ·rcases List.mem_cons.1 hy with rfl | hy
  ·intro h;cases h
  ·cases hy
theorem Bs.offR {w w' : World} {g B : Nat} {s : List Int × Int} {v : Value} {ys : List Int} (hb : Bs .u8 w v ys) (h : RDR w g B s) (o : Only (fun k => k = g) w w') : Bs .u8 w' v ys:=by
 obtain ⟨ao,cap,hB,_⟩:=h;exact hb.offB hB (QbA _ _ _ _) o
theorem Sts.offR {w w' : World} {g B : Nat} {s : List Int × Int} {v : Value} {ys : List (List Int)} (hb : Sts w v ys) (h : RDR w g B s) (o : Only (fun k => k = g) w w') : Sts w' v ys:=by
 obtain ⟨ao,cap,hB,_⟩:=h;exact hb.offB hB (QiO _ _ _ _) o
theorem RDR.past {w w' : World} {g B : Nat} {s : List Int × Int} (h : RDR w g B s) (o : Only (fun _ => False) w w') : RDR w' g B s:=by
 obtain ⟨ao,cap,hB,hb,nc,hj⟩:=h;exact ⟨ao,cap,hB.past o,hb.past o,nc,hj⟩
theorem RDR.lt {w : World} {g B : Nat} {s : List Int × Int} (h : RDR w g B s) : g < w.heap.size:=by
 obtain ⟨ao,cap,hB,_⟩:=h;exact hB.lt
theorem RDR.keepB {w w' : World} {g B : Nat} {s : List Int × Int} (h : RDR w g B s) {S : Nat → Prop} (o : Only S w w') (hg : ¬ S g) (hS : ∀ j,j < B → ¬ S j) : RDR w' g B s:=by
 obtain ⟨ao,cap,hB,hb,nc,hj⟩:=h;refine ⟨ao,cap,hB.keep o hg,?_,nc,hj⟩
 by_cases h0 : s.1 = []
 ·rw [h0]
  exact ⟨ao,cap,rfl,Nat.zero_le _,fun z => absurd rfl z⟩
 ·exact hb.keep o (fun j e => hS j (hj h0 j e))
def rB (n : Nat) (s : List Int × Int) : List Int × (List Int × Int):=if s.2 = 0 then ((Qai n s.1).1,(s.1.drop (Qai n s.1).2.1,(Qai n s.1).2.2)) else ([],s)
def rV (s : List Int × Int) : Int × (List Int × Int):=if s.2 = 0 then ((Qab s.1).1,(s.1.drop (Qab s.1).2.1,(Qab s.1).2.2)) else (0,s)
def rN (ok : Bool) (c : Int) (s : List Int × Int) : List Int × Int:=(s.1,if s.2 = 0 ∧ ok = false then c else s.2)
theorem Qeh (g B : Nat) (s : List Int × Int) (n : Nat) (w : World) (h : RDR w g B s) (hl : s.1.length ≤ 300000000) :
  Calls Tryz.prog 36 #[.pointer (some ⟨g,0,none⟩),.int .i64 (n : Int)] w fun e w' => ∃ v,e = .returned v ∧ Bs .u8 w' v (rB n s).1 ∧ RDR w' g B (rB n s).2 ∧ Only (fun k => k = g) w w' ∧ (∀ j,v.ownBlock = some j → w.heap.size ≤ j):=by
 obtain ⟨ao,cap,hB,hb,nc,hj⟩:=h;have c0:=hB.cell 0;have c1:=hB.cell 1;simp only [List.getElem?_cons_zero,List.getElem?_cons_succ] at c0 c1
 by_cases he : s.2 = 0
 ·have eR : rB n s = ((Qai n s.1).1,(s.1.drop (Qai n s.1).2.1,(Qai n s.1).2.2)):=if_pos he
  obtain ⟨a,k,c,hs⟩ : ∃ a k c,Qai (n : Int) s.1 = (a,k,c):=⟨_,_,_,rfl⟩;rw [eR,hs];have A:=Qaa (Qb0 ao s.1.length cap s.1 w hb nc n (by omega) hs);rw [he] at c1 hB;obtain ⟨t,ht⟩ : ∃ t,t = s.1:=⟨_,rfl⟩;rw [← ht] at A c0 hB;simp only [← ht];obtain ⟨m,hm⟩ : ∃ m,m = t.length:=⟨_,rfl⟩;rw [← hm] at A c0 hB;have HB:=Qaa hB;have HJ:=Qaa hj;rw [← ht,← hm] at HJ;clear hj hb nc eR hs ht hm hB he hl;go_enter Tryz.func36,Tryz.ntmps36;go_wp2_with fail;refine A.out.mono ?_;rintro e w1 ⟨v1,ao',m',cap',rfl,b1,b2,n1,o1,ob,fr⟩;have K1:=HB.out.past o1;have c0':=K1.cell 0;have c1':=K1.cell 1;have f0:=K1.froz 0;have f1:=K1.froz 1;simp only [List.getElem?_cons_zero,List.getElem?_cons_succ] at c0' c1';have hml:=b2.length;have H:=Qaa (And.intro b1 (And.intro b2 (And.intro n1 (And.intro o1 (And.intro K1 (And.intro hml (And.intro ob fr)))))));clear A c0 c1 b1 b2 n1 o1 K1 hml ob fr HB;go_wp2;go_ret;obtain ⟨b1,b2,n1,o1,K1,hml,ob,fr⟩:=H.out;have os : Only (fun k => k = g) w1 ((w1.setCell ⟨g,0,none⟩ (.slice ao' m' cap')).setCell ⟨g,1,none⟩ (.int .i64 c)):=((Only.refl (fun k => k = g) _).setCell (p:=⟨g,0,none⟩) (fun _ => rfl) _).setCell (p:=⟨g,1,none⟩) (fun _ => rfl) _;refine ⟨v1,rfl,b1.offB K1 (QbA _ _ _ _) os,⟨ao',cap',?_,?_,?_,?_⟩,(o1.mono (fun _ _ f => f.elim)).trans os (fun i hi e => e),fr⟩
  ·have:=(K1.set 0 (.slice ao' m' cap')).set 1 (.int .i64 c)
   rw [← hml];exact this
  ·rw [← hml];exact b2.offB K1 (QbA _ _ _ _) os
  ·rw [← hml];exact n1
  ·intro hz j e
   rw [← hml] at e;exact HJ.out (fun z => hz (by simp only;rw [z];exact List.drop_nil)) j (by rw [← ob];exact e)
 ·have eR : rB n s = ([],s):=if_neg he
  rw [eR]
  have d1 : (s.2 != 0) = true:=by simpa using he
  have F:=Qaa (And.intro hB (And.intro hb (And.intro nc hj)));obtain ⟨e0,he0⟩ : ∃ e0,e0 = s.2:=⟨_,rfl⟩;rw [← he0] at d1 c1;clear hB hb nc hj eR he he0 c0;go_enter Tryz.func36,Tryz.ntmps36;go_wp2;go_ret;exact ⟨_,rfl,Bs.nil _ _,⟨ao,cap,F.out.1,F.out.2.1,F.out.2.2⟩,Only.refl _ _,fun j e => by cases e⟩
theorem QbZ (g B : Nat) (s : List Int × Int) (n : Nat) (w : World) (h : RDR w g B s) (hl : s.1.length ≤ 300000000) :
  Calls Tryz.prog 36 #[.pointer (some ⟨g,0,none⟩),.int .i64 (n : Int)] w fun e w' => ∃ v,e = .returned v ∧ Bs .u8 w' v (rB n s).1 ∧ RDR w' g B (rB n s).2 ∧ Only (fun k => k = g) w w' :=
 (Qeh g B s n w h hl).mono fun _ _ ⟨v,e,b,r,o,_⟩ => ⟨v,e,b,r,o⟩
theorem QcN (g B : Nat) (s : List Int × Int) (w : World) (h : RDR w g B s) (h8 : U8 s.1) :
  Calls Tryz.prog 40 #[.pointer (some ⟨g,0,none⟩)] w fun e w' => e = .returned (.int .u64 (rV s).1) ∧ RDR w' g B (rV s).2 ∧ Only (fun k => k = g) w w':=by
 obtain ⟨ao,cap,hB,hb,nc,hj⟩:=h;have c0:=hB.cell 0;have c1:=hB.cell 1;simp only [List.getElem?_cons_zero,List.getElem?_cons_succ] at c0 c1
 by_cases he : s.2 = 0
 ·have eR : rV s = ((Qab s.1).1,(s.1.drop (Qab s.1).2.1,(Qab s.1).2.2)):=if_pos he
  obtain ⟨a,k,c,hs⟩ : ∃ a k c,Qab s.1 = (a,k,c):=⟨_,_,_,rfl⟩;rw [eR,hs];have A:=Qaa (Qc7 ao s.1.length cap s.1 w hb nc h8 hs);rw [he] at c1 hB;obtain ⟨t,ht⟩ : ∃ t,t = s.1:=⟨_,rfl⟩;rw [← ht] at A c0 hB;simp only [← ht];obtain ⟨m,hm⟩ : ∃ m,m = t.length:=⟨_,rfl⟩;rw [← hm] at A c0 hB;have HB:=Qaa hB;have HJ:=Qaa hj;rw [← ht,← hm] at HJ;clear hj hb nc eR hs ht hm hB he h8;go_enter Tryz.func40,Tryz.ntmps40;go_wp2_with fail;refine A.out.mono ?_;rintro e w1 ⟨ao',m',cap',rfl,b2,n1,o1,ob⟩;have K1:=HB.out.past o1;have c0':=K1.cell 0;have c1':=K1.cell 1;have f0:=K1.froz 0;have f1:=K1.froz 1;simp only [List.getElem?_cons_zero,List.getElem?_cons_succ] at c0' c1';have hml:=b2.length;have H:=Qaa (And.intro b2 (And.intro n1 (And.intro o1 (And.intro K1 (And.intro hml ob)))));clear A c0 c1 b2 n1 o1 K1 hml ob HB;go_wp2;go_ret;obtain ⟨b2,n1,o1,K1,hml,ob⟩:=H.out;have os : Only (fun k => k = g) w1 ((w1.setCell ⟨g,0,none⟩ (.slice ao' m' cap')).setCell ⟨g,1,none⟩ (.int .i64 c)):=((Only.refl (fun k => k = g) _).setCell (p:=⟨g,0,none⟩) (fun _ => rfl) _).setCell (p:=⟨g,1,none⟩) (fun _ => rfl) _;refine ⟨rfl,⟨ao',cap',?_,?_,?_,?_⟩,(o1.mono (fun _ _ f => f.elim)).trans os (fun i hi e => e)⟩
  ·have:=(K1.set 0 (.slice ao' m' cap')).set 1 (.int .i64 c)
   rw [← hml];exact this
  ·rw [← hml];exact b2.offB K1 (QbA _ _ _ _) os
  ·rw [← hml];exact n1
  ·intro hz j e
   rw [← hml] at e;exact HJ.out (fun z => hz (by simp only;rw [z];exact List.drop_nil)) j (by rw [← ob];exact e)
 ·have eR : rV s = (0,s):=if_neg he
  rw [eR]
  have d1 : (s.2 != 0) = true:=by simpa using he
  have F:=Qaa (And.intro hB (And.intro hb (And.intro nc hj)));obtain ⟨e0,he0⟩ : ∃ e0,e0 = s.2:=⟨_,rfl⟩;rw [← he0] at d1 c1;clear hB hb nc hj eR he he0 c0;go_enter Tryz.func40,Tryz.ntmps40;go_wp2;go_ret;exact ⟨rfl,⟨ao,cap,F.out.1,F.out.2.1,F.out.2.2⟩,Only.refl _ _⟩
theorem QaT (g B : Nat) (s : List Int × Int) (ok : Bool) (c : Int) (w : World) (h : RDR w g B s) :
  Calls Tryz.prog 37 #[.pointer (some ⟨g,0,none⟩),.bool ok,.int .i64 c] w fun e w' => e = .returned (.tuple #[]) ∧ RDR w' g B (rN ok c s) ∧ Only (fun k => k = g) w w':=by
 obtain ⟨ao,cap,hB,hb,nc,hj⟩:=h;have c1:=hB.cell 1;have f1:=hB.froz 1;simp only [List.getElem?_cons_zero,List.getElem?_cons_succ] at c1;have F:=Qaa (And.intro hB (And.intro hb (And.intro nc hj)))
 by_cases he : s.2 = 0
 ·cases ok with
  | false =>
   have eR : rN false c s = (s.1,c):=by unfold rN;rw [if_pos ⟨he,rfl⟩]
   rw [eR];rw [he] at c1;have HE:=Qaa he;clear hB hb nc hj eR he;go_enter Tryz.func37,Tryz.ntmps37;go_wp2
   go_end0
   obtain ⟨hB,hb,nc,hj⟩:=F.out;have os : Only (fun k => k = g) w (w.setCell ⟨g,1,none⟩ (.int .i64 c)):=(Only.refl (fun k => k = g) _).setCell (p:=⟨g,1,none⟩) (fun _ => rfl) _;exact ⟨rfl,⟨ao,cap,hB.set 1 (.int .i64 c),hb.offB hB (QbA _ _ _ _) os,nc,hj⟩,os⟩
  | true =>
   have eR : rN true c s = s:=by unfold rN;rw [if_neg (fun h => by cases h.2)]
   rw [eR];rw [he] at c1;clear hB hb nc hj eR he;go_enter Tryz.func37,Tryz.ntmps37;go_wp2
   go_end0
   exact ⟨rfl,⟨ao,cap,F.out.1,F.out.2.1,F.out.2.2⟩,Only.refl _ _⟩
 ·have eR : rN ok c s = s:=by unfold rN;rw [if_neg (fun h => he h.1)]
  rw [eR]
  have d1 : (s.2 == 0) = false:=by simpa using he
  obtain ⟨e0,he0⟩ : ∃ e0,e0 = s.2:=⟨_,rfl⟩;rw [← he0] at d1 c1;clear hB hb nc hj eR he he0;go_enter Tryz.func37,Tryz.ntmps37;go_wp2
  go_end0
  exact ⟨rfl,⟨ao,cap,F.out.1,F.out.2.1,F.out.2.2⟩,Only.refl _ _⟩
theorem QaL {s : List Int} (h : U8 s) (k : Nat) : U8 (s.drop k):=fun y hy => h y (List.mem_of_mem_drop hy)
def DLr (D : Except Int (List (List Int) × List Int)) (n L : Nat) (T : List (List Int)) (s : List Int × Int) : Prop :=
 (s.2 = 0 ∧ T.length ≤ n ∧ n ≤ 1048576 ∧ T.length + s.1.length ≤ L ∧ D = pre T (rdTns (n - T.length) T s.1)) ∨ (s.2 ≠ 0 ∧ T.length ≤ L + 1 ∧ D = .error s.2)
def DIRQ (s : List Int × Int) (T : List (List Int)) (s' : List Int × Int) : Prop :=
 (s.2 ≠ 0 → s' = s) ∧ (s.2 = 0 → (s'.2 = 0 ∧ ∃ n,rdDir s.1 = .ok ((n,T),s'.1)) ∨ (s'.2 ≠ 0 ∧ rdDir s.1 = .error s'.2))
theorem Qa9 {ok : Bool} {c : Int} {s : List Int × Int} (h : s.2 ≠ 0) : rN ok c s = s:=by unfold rN;rw [if_neg (fun z => h z.1)]
theorem rN_ok {c : Int} {s : List Int × Int} : rN true c s = s:=by unfold rN;rw [if_neg (fun z => by cases z.2)]
theorem rN_no {c : Int} {s : List Int × Int} (h : s.2 = 0) : rN false c s = (s.1,c):=by unfold rN;rw [if_pos ⟨h,rfl⟩]
theorem Qhn {s : List Int × Int} (h8 : U8 s.1) : ∃ n : Nat,(rV s).1 = (n : Int) ∧ n < 18446744073709551616:=by
 unfold rV
 split
 ·rcases Qam h8 with ⟨c,h,_⟩ | ⟨a,k,h,_,_,ha,_⟩
  ·exact ⟨0,by rw [h];rfl,by decide⟩
  ·exact ⟨a,by rw [h],ha⟩
 ·exact ⟨0,rfl,by decide⟩
theorem Qho (s : List Int × Int) (h8 : U8 s.1) (n : Nat) (hn : (rV s).1 = (n : Int)) :
  ∃ D,DLr D n s.1.length [] (rN (decide ((n : Int) ≤ 1048576)) 4 (rV s).2) ∧ U8 (rN (decide ((n : Int) ≤ 1048576)) 4 (rV s).2).1 ∧ (rN (decide ((n : Int) ≤ 1048576)) 4 (rV s).2).1.length ≤ s.1.length ∧
   ∀ T s',(s'.2 = 0 ∧ D = .ok (T,s'.1)) ∨ (s'.2 ≠ 0 ∧ D = .error s'.2) → ((rN (decide ((n : Int) ≤ 1048576)) 4 (rV s).2).2 ≠ 0 → s' = rN (decide ((n : Int) ≤ 1048576)) 4 (rV s).2) → DIRQ s T s':=by
 by_cases he : s.2 = 0
 ·have eR : rV s = ((Qab s.1).1,(s.1.drop (Qab s.1).2.1,(Qab s.1).2.2)):=if_pos he
  rcases Qam h8 with ⟨c,h,hc⟩ | ⟨a,k,h,h1,h2,ha,_⟩
  ·have hc0 : c ≠ 0:=by omega
   rw [eR,h] at hn ⊢;have hq:=Qa9 (ok:=decide ((n : Int) ≤ 1048576)) (c:=4) (s:=(s.1.drop 0,c)) hc0;simp only at hq ⊢;rw [hq];refine ⟨.error c,.inr ⟨hc0,Nat.zero_le _,rfl⟩,QaL h8 _,by simp,fun T s' hs hk => ⟨fun z => absurd he z,fun _ => .inr ?_⟩⟩;rw [hk hc0];exact ⟨hc0,Qax (QaN (QcA h hc0))⟩
  ·rw [eR,h] at hn ⊢
   simp only at hn ⊢
   obtain rfl : a = n:=by omega
   by_cases hm : a ≤ 1048576
   ·have hd : decide ((a : Int) ≤ 1048576) = true:=by rw [decide_eq_true_eq];omega
    rw [hd,rN_ok];have hmy : QbW s.1 = .ok (a,s.1.drop k):=QaS (Qbw h) (decide_eq_true hm);refine ⟨rdTns a [] (s.1.drop k),.inl ⟨rfl,Nat.zero_le _,hm,by simp,by rw [Qdf];rfl⟩,QaL h8 _,by simp,fun T s' hs hk => ⟨fun z => absurd he z,fun _ => ?_⟩⟩
    rcases hs with ⟨e1,e2⟩ | ⟨e1,e2⟩
    ·exact .inl ⟨e1,a,Qa2 hmy e2⟩
    ·exact .inr ⟨e1,Qap hmy e2⟩
   ·have hd : decide ((a : Int) ≤ 1048576) = false:=by rw [decide_eq_false_iff_not];omega
    rw [hd,rN_no rfl]
    have h40 : (4 : Int) ≠ 0:=by decide
    refine ⟨.error 4,.inr ⟨h40,Nat.zero_le _,rfl⟩,QaL h8 _,by simp,fun T s' hs hk => ⟨fun z => absurd he z,fun _ => .inr ?_⟩⟩;rw [hk h40];exact ⟨h40,Qax (Qbe (Qbw h) (decide_eq_false hm))⟩
 ·have eR : rV s = (0,s):=if_neg he
  rw [eR] at hn ⊢;rw [Qa9 he];exact ⟨.error s.2,.inr ⟨he,Nat.zero_le _,rfl⟩,h8,Nat.le_refl _,fun T s' hs hk => ⟨fun _ => hk he,fun z => absurd z he⟩⟩
theorem Qkj {D : Except Int (List (List Int) × List Int)} {n L : Nat} {T : List (List Int)} {s : List Int × Int} (h : DLr D n L T s) (he : s.2 = 0) (hlt : T.length < n) (h8 : U8 s.1) {a : List Int} {k : Nat} {c : Int} (hs : Qae 64 s.1 = (a,k,c)) :
  DLr D n L (T ++ [a]) (rN (QaU T a) 3 (s.1.drop k,c)) ∧ U8 a ∧ a.length ≤ 64:=by
 rcases h with ⟨_,h1,h2,h3,h4⟩ | ⟨h1,_⟩
 ·obtain ⟨m,hm⟩ : ∃ m,n - T.length = m + 1:=⟨n - T.length - 1,by omega⟩
  rw [hm] at h4
  rcases QbF (n:=64) h8 (by decide) (by decide) with ⟨c',h,hc⟩ | ⟨b,k',h,hl,hk,hk1,hsp,_⟩
  ·rw [h] at hs
   cases hs
   have hc0 : c ≠ 0:=by omega
   rw [Qa9 hc0];refine ⟨.inr ⟨hc0,by simp;omega,?_⟩,fun y hy => (by cases hy),by simp⟩;rw [h4];unfold rdTns;rw [Qb7 (r:=rdTn) (s:=T) (QaN (QeH (n:=64) h hc0))];rfl
  ·rw [h] at hs
   cases hs
   have hx8 : U8 a:=fun y hy => h8 y (by rw [hsp];unfold blk;simp [hy])
   refine ⟨?_,hx8,by omega⟩
   cases hb : QaU T a with
   | true =>
    rw [rN_ok];refine .inl ⟨rfl,by simp;omega,h2,by simp;omega,?_⟩;rw [h4];unfold rdTns;rw [QdU (r:=rdTn) (s:=T) (QaS (Qfk (n:=64) h) hb),Qdg]
    have : n - (T ++ [a]).length = m:=by simp;omega
    rw [this]
   | false =>
    rw [rN_no rfl]
    have h30 : (3 : Int) ≠ 0:=by decide
    refine .inr ⟨h30,by simp;omega,?_⟩;rw [h4];unfold rdTns;rw [Qb7 (r:=rdTn) (s:=T) (Qbe (Qfk (n:=64) h) hb)];rfl
 ·exact absurd he h1
theorem Qhp {o : Oper} {a : Act} {W : World} {K : Act → World → Prop} {Q : Exit → Act → World → Prop} (n : Nat) (xs : Array Operand) (ts : Array TypeId)
  (ho : o.op = .call { callee:=.value (.func n),args:=xs,argTypes:=ts }) (hf : ∀ vs W,(callFunc n vs).run Tryz.prog W = .ok (.enter n vs) W) (vs : Array Value) (hx : xs.map a.eval = vs) {r : Value} {R : World → Prop}
  (hc : Calls Tryz.prog n vs W fun e w' => e = .returned r ∧ R w') (h : ∀ w',R w' → K (a.put o.dst r) w') : Oper.wp Tryz.prog o a W K Q:=by
 subst hx;unfold Oper.wp;have e : a.eval (Operand.func n) = .func (.func n) #[] #[]:=rfl;have hf2:=hf (xs.map a.eval) W;simp [execOp,ho,resolve,invoke,e,Oper.upon,Deferred.ofValue,hf2];refine Calls.mono hc ?_;rintro e w' ⟨rfl,hR⟩;exact h w' hR
theorem Qhq (vs : Array Value) (W : World) : (callFunc 37 vs).run Tryz.prog W = .ok (.enter 37 vs) W:=by kernel_rfl
theorem Qk0 (g B : Nat) (s : List Int × Int) (w : World) (h : RDR w g B s) (h8 : U8 s.1) (hl : s.1.length ≤ 300000000) (hBw : B ≤ w.heap.size) :
  Calls Tryz.prog 39 #[.pointer (some ⟨g,0,none⟩)] w fun e w' => ∃ u T s',e = .returned u ∧ w'.ownsRow w.heap.size 9 1 u T.length (QaV T) ∧ T.length ≤ 300000001 ∧ (∀ x ∈ T,U8 x ∧ x.length ≤ 64) ∧ RDR w' g B s' ∧ U8 s'.1 ∧ s'.1.length ≤ 300000000 ∧ DIRQ s T s' ∧ Only (fun k => k = g) w w':=by
 obtain ⟨i0,hi,hz0,hz1,hz2⟩:=info_parts Tryz.infoStr;have hg:=h.lt;have A:=Qaa (QcN g B s w h h8);obtain ⟨n,hn,hn64⟩:=Qhn h8;obtain ⟨D,hD,hs8,hsl,hfin⟩:=Qho s h8 n hn;rw [hn] at A;have FIN:=Qaa hfin;have B:=Qaa (fun W (hr : RDR W g B (rV s).2) => QaT g B _ (decide ((n : Int) ≤ 1048576)) 4 W hr);obtain ⟨s1,hs1⟩ : ∃ s1,s1 = (rV s).2:=⟨_,rfl⟩;rw [← hs1] at A B FIN hD hs8 hsl;obtain ⟨s2,hs2⟩ : ∃ s2,s2 = rN (decide ((n : Int) ≤ 1048576)) 4 s1:=⟨_,rfl⟩;rw [← hs2] at B FIN hD hs8 hsl;obtain ⟨L,hL⟩ : ∃ L,L = s.1.length:=⟨_,rfl⟩;rw [← hL] at hD hl hsl;have P0:=Qaa (And.intro hD (And.intro hs8 hsl));clear h h8 hn hfin hs1 hs2 hL hD hs8 hsl;go_enter Tryz.func39,Tryz.ntmps39;go_wp2_with fail;refine A.out.mono ?_;rintro e w1 ⟨rfl,r1,o1⟩;have C:=Qaa (B.out w1 r1);have O1:=Qaa o1;clear A B r1 o1;go_wp2_with fail;refine C.out.mono ?_;rintro e w2 ⟨rfl,r2,o2⟩;have F0 : Hid (RDR w2 g B s2 ∧ Only (fun k => k = g) w w2):=⟨r2,O1.out.trans o2 (fun i _ e => e)⟩;clear C r2 o2 O1;go_wp2
 go_loopw [4,5] (fun u i wr => ∃ T sc,i = .int .u64 (T.length : Nat) ∧ wr.ownsRow w.heap.size 9 1 u T.length (QaV T) ∧ (∀ x ∈ T,U8 x ∧ x.length ≤ 64) ∧ RDR wr g B sc ∧ U8 sc.1 ∧ sc.1.length ≤ 300000000 ∧ DLr D n L T sc ∧ (s2.2 ≠ 0 → sc = s2) ∧ Only (fun k => k = g) w wr) (fun _ i _ => n - (intOf i).toNat)
 case atStart => exact ⟨[],s2,rfl,World.ownsRow_nil _ _ _ _,fun x hx => (by cases hx),F0.out.1,P0.out.2.1,Nat.le_trans P0.out.2.2 hl,P0.out.1,fun _ => rfl,F0.out.2⟩
 case round =>
  clear F0 P0;obtain ⟨T,sc,rfl,own,hall,hr,h8,hcl,hdl,hst,on⟩:=hrel;obtain ⟨au,cu,rfl⟩:=Qb2 own;obtain ⟨ao,cap,hB,hb,nc,hj⟩:=hr;have c0:=hB.cell 0;have c1:=hB.cell 1;simp only [List.getElem?_cons_zero,List.getElem?_cons_succ] at c0 c1
  by_cases hlt : T.length < n
  ·have d1 : decide (((T.length : Nat) : Int) < (n : Int)) = true:=by rw [decide_eq_true_eq];omega
   have d2 : decide (T.length < n) = true:=by rw [decide_eq_true_eq];exact hlt
   by_cases he : sc.2 = 0
   ·obtain ⟨a,k,c,hs⟩ : ∃ a k c,Qae 64 sc.1 = (a,k,c):=⟨_,_,_,rfl⟩
    obtain ⟨NX,ha8,hal⟩:=Qkj hdl he hlt h8 hs;have BK:=Qaa (Qei ao sc.1.length cap sc.1 wr hb nc h8 64 (by omega) (by decide) hs);rw [he] at c1 hB
    have hT1 : T.length ≤ 300000000:=by
     rcases hdl with ⟨_,_,_,z,_⟩ | ⟨z,_⟩
     ·omega
     ·exact absurd he z
    obtain ⟨P,hP⟩ : ∃ P,P = QaU T a:=⟨_,rfl⟩;rw [← hP] at NX
    have hlen : (rN P 3 (sc.1.drop k,c)).1.length ≤ 300000000:=by simp [rN];omega
    have h8' : U8 (rN P 3 (sc.1.drop k,c)).1:=QaL h8 k
    have NXT : Hid (∀ u' w',w'.ownsRow w.heap.size 9 1 u' (T.length + 1) (QaV T ++ [.string (strOfNums a)]) → RDR w' g B (rN P 3 (sc.1.drop k,c)) → Only (fun k => k = g) w w' → (∃ T' sc',T'.length = T.length + 1 ∧ w'.ownsRow w.heap.size 9 1 u' T'.length (QaV T') ∧ (∀ x ∈ T',U8 x ∧ x.length ≤ 64) ∧ RDR w' g B sc' ∧ U8 sc'.1 ∧ sc'.1.length ≤ 300000000 ∧ DLr D n L T' sc' ∧ (s2.2 ≠ 0 → sc' = s2) ∧ Only (fun k => k = g) w w')):=fun u' w' z1 z2 z3 => by
     refine ⟨T ++ [a],_,by simp,by simpa [QaV] using z1,fun x hx => ?_,z2,h8',hlen,NX,fun z => ?_,z3⟩
     ·rcases List.mem_append.1 hx with q | q
      ·exact hall x q
      ·rw [List.mem_singleton] at q;subst q;exact ⟨ha8,hal⟩
     ·exact absurd (hst z ▸ he) z
    have R2 : Hid (∀ W ao' m' cap',Blk W g 77 [.slice ao' m' cap',.int .i64 c] → Bs .u8 W (.slice ao' m' cap') (sc.1.drop k) → NoCap (.slice ao' m' cap') → (Value.slice ao' m' cap').ownBlock = (Value.slice ao sc.1.length cap).ownBlock → RDR W g B (sc.1.drop k,c)):=fun W ao' m' cap' z1 z2 z3 z4 => by
     have:=z2.length;subst this;exact ⟨ao',cap',z1,z2,z3,fun hz j e => hj (fun z => hz (by simp only;rw [z];exact List.drop_nil)) j (by rw [← z4];exact e)⟩
    have HBr:=Qaa hB;have OWN:=Qaa own;have ON:=Qaa on;have HALL:=Qaa hall;have HA8:=Qaa ha8;obtain ⟨S',hS'⟩ : ∃ S',S' = (sc.1.drop k,c):=⟨_,rfl⟩;rw [← hS'] at NXT R2
    have HBL : Hid (0 < T.length → Op.bytesLess (strOfNums (T.getD (T.length - 1) [])).toList (strOfNums a).toList = P):=fun z => by
     rw [QdW (hall _ (Qat (by omega))).1 ha8,hP,QdV z]
    have HP0 : Hid (T.length = 0 → P = true):=fun z => by
     rw [hP,List.eq_nil_of_length_eq_zero z];rfl
    obtain ⟨t0,ht0⟩ : ∃ t0,t0 = sc.1:=⟨_,rfl⟩;rw [← ht0] at BK c0 HBr R2;obtain ⟨m,hm⟩ : ∃ m,m = t0.length:=⟨_,rfl⟩;rw [← hm] at BK c0 HBr R2;obtain ⟨t,ht⟩ : ∃ t,t = T.length:=⟨_,rfl⟩;have HTL:=Qaa ht;rw [← ht] at OWN NXT HBL HP0 d1 d2 hlt hT1;rw [← ht]
    have j64 : IntKind.u64.wrap ((t : Int) + 1) = ((t + 1 : Nat) : Int):=by rw [IntKind.wrap_u64];omega
    clear own hall hB hb nc hj h8 hcl hdl hst on he hs NX ha8 hal hlen h8' ht0 hm ht hS' hP;go_wp2_with fail;refine BK.out.mono ?_;rintro e w1 ⟨v1,ao',m',cap',rfl,b1,b2,n1,o1,ob⟩;have K1:=HBr.out.past o1;have c0':=K1.cell 0;have c1':=K1.cell 1;have f0:=K1.froz 0;have f1:=K1.froz 1;simp only [List.getElem?_cons_zero,List.getElem?_cons_succ] at c0' c1';have H1:=Qaa (And.intro b1 (And.intro b2 (And.intro n1 (And.intro o1 (And.intro K1 ob)))));clear BK c0 c1 b1 b2 n1 o1 K1 ob HBr;go_wp2_with fail;obtain ⟨w2,hw2⟩ : ∃ w2,w2 = (w1.setCell ⟨g,0,none⟩ (.slice ao' m' cap')).setCell ⟨g,1,none⟩ (.int .i64 c):=⟨_,rfl⟩;rw [← hw2];obtain ⟨b1,b2,n1,o1,K1,ob⟩:=H1.out
    have os : Only (fun k => k = g) w1 w2:=by
     rw [hw2];exact ((Only.refl (fun k => k = g) _).setCell (p:=⟨g,0,none⟩) (fun _ => rfl) _).setCell (p:=⟨g,1,none⟩) (fun _ => rfl) _
    have r2:=R2.out w2 ao' m' cap' (by rw [hw2];exact (K1.set 0 (.slice ao' m' cap')).set 1 (.int .i64 c)) (b2.offB K1 (QbA _ _ _ _) os) n1 ob;have B2:=Qaa (b1.offB K1 (QbA _ _ _ _) os);have own2:=os.own (o1.own OWN.out (fun _ _ f => f)) (fun j hj e => by have:=(OWN.out.lt j hj).1;omega);have O2:=Qaa ((ON.out.trans o1 (fun i _ f => f.elim)).trans os (fun i _ e => e));have NBLK0 : ∃ ao'' cap'',Blk w2 g 77 [.slice ao'' S'.1.length cap'',.int .i64 S'.2]:=⟨r2.choose,r2.choose_spec.choose,r2.choose_spec.choose_spec.1⟩;obtain ⟨ax,cx,hKx⟩:=NBLK0;have KX:=Qaa hKx;have N:=Qaa (QaT g B S' P 3 w2.drew (r2.past (Only.refl _ _).drew));have OWN2:=Qaa own2;clear hKx b1 b2 n1 o1 K1 ob os r2 own2 hw2 H1 R2 OWN ON c0' c1' f0 f1
    have REST : Hid (∀ w3,RDR w3 g B (rN P 3 S') → Only (fun k => k = g) w2.drew w3 → (w3.ownsRow w.heap.size 9 1 (.slice au t cu) t (QaV T) ∧ Bs .u8 w3 v1 a ∧ Only (fun k => k = g) w w3 ∧ w.heap.size ≤ w3.heap.size)):=fun w3 z1 z2 => by
     have ow:=z2.own (OWN2.out.drew) (fun j hj e => by have:=(OWN2.out.lt j hj).1;omega);have oo:=O2.out.trans ((Only.refl (fun k => k = g) w2).drew.trans z2 (fun i _ e => e)) (fun i _ e => e);exact ⟨ow,(B2.out.past (Only.refl _ _).drew).offB KX.out.drew (QbA _ _ _ _) z2,oo,oo.size⟩
    by_cases ht0 : t = 0
    ·have e0 : ((t : Int) == 0) = true:=by rw [ht0];rfl
     obtain rfl : P = true:=HP0.out ht0;refine wp_region_held_drew (S:=fun _ => True) (by kernel_rfl) trivial (fun hH0 => ?_)
     try simp only [Act.put,List.setIfInBounds_toArray,List.set_cons_zero,List.set_cons_succ]
     refine wpAnyH_take (i:=0) (oi:={ dst:=some 44,op:=Op.move (Operand.tmp 0),type:=75,pos:="ref.go:125",after:=#[],guard:=none }) (v:=?tvz0) rfl (by kernel_rfl) (by kernel_rfl) (by kernel_rfl) (fun _ _ _ h => h) (Or.inl ⟨by rfl,?thz0⟩) hH0 ?trz0
     case thz0 => (intro w hSw;go_simp;try with_reducible rfl)
     try simp only [Act.put,List.setIfInBounds_toArray,List.set_cons_zero,List.set_cons_succ]
     refine wpAnyH_take (i:=1) (oi:={ dst:=some 45,op:=Op.move (Operand.tmp 4),type:=80,pos:="ref.go:125",after:=#[],guard:=none }) (v:=?tvz1) rfl (by kernel_rfl) (by kernel_rfl) (by kernel_rfl) (fun _ _ _ h => h) (Or.inl ⟨by rfl,?thz1⟩) hH0 ?trz1
     case thz1 => (intro w hSw;go_simp;try with_reducible rfl)
     try simp only [Act.put,List.setIfInBounds_toArray,List.set_cons_zero,List.set_cons_succ]
     refine wpAnyH_take (i:=2) (oi:={ dst:=some 46,op:=Op.call { callee:=Callee.builtin Builtin.len,args:=#[Operand.tmp 45],argTypes:=#[80] },type:=3,pos:="ref.go:125",after:=#[{ on:=1,ground:=Ground.data }],guard:=none }) (v:=?tvz2) rfl (by kernel_rfl) (by kernel_rfl) (by kernel_rfl) (fun _ _ _ h => h) (Or.inl ⟨by rfl,?thz2⟩) hH0 ?trz2
     case thz2 => (intro w hSw;go_simp;try with_reducible rfl)
     try simp only [Act.put,List.setIfInBounds_toArray,List.set_cons_zero,List.set_cons_succ]
     refine wpAnyH_take (i:=3) (oi:={ dst:=some 47,op:=Op.binOp BinOp.eql 3 (Operand.tmp 46) (Operand.const (Value.int IntKind.i64 0)) 3,type:=4,pos:="ref.go:125",after:=#[{ on:=2,ground:=Ground.data }],guard:=none }) (v:=?tvz3) rfl (by kernel_rfl) (by kernel_rfl) (by kernel_rfl) (fun _ _ _ h => h) (Or.inl ⟨by rfl,?thz3⟩) hH0 ?trz3
     case thz3 => (intro w hSw;go_simp;try with_reducible rfl)
     try simp only [Act.put,List.setIfInBounds_toArray,List.set_cons_zero,List.set_cons_succ]
     refine wpAnyH_take (i:=4) (oi:={ dst:=some 48,op:=Op.move (Operand.tmp 47),type:=4,pos:="ref.go:125",after:=#[{ on:=3,ground:=Ground.data }],guard:=none }) (v:=?tvz4) rfl (by kernel_rfl) (by kernel_rfl) (by kernel_rfl) (fun _ _ _ h => h) (Or.inl ⟨by rfl,?thz4⟩) hH0 ?trz4
     case thz4 => (intro w hSw;go_simp;try with_reducible rfl)
     try simp only [Act.put,List.setIfInBounds_toArray,List.set_cons_zero,List.set_cons_succ]
     refine wpAnyH_take (i:=5) (oi:={ dst:=some 49,op:=Op.move (Operand.tmp 4),type:=80,pos:="ref.go:125",after:=#[{ on:=4,ground:=Ground.guard }],guard:=some (4,false) }) (v:=undef) rfl (by kernel_rfl) (by kernel_rfl) (by kernel_rfl) (fun _ _ _ h => h) (Or.inr ⟨by rfl,rfl⟩) hH0 ?trz5
     try simp only [Act.put,List.setIfInBounds_toArray,List.set_cons_zero,List.set_cons_succ]
     refine wpAnyH_take (i:=6) (oi:={ dst:=some 50,op:=Op.move (Operand.tmp 4),type:=80,pos:="ref.go:125",after:=#[{ on:=4,ground:=Ground.guard }],guard:=some (4,false) }) (v:=undef) rfl (by kernel_rfl) (by kernel_rfl) (by kernel_rfl) (fun _ _ _ h => h) (Or.inr ⟨by rfl,rfl⟩) hH0 ?trz6
     try simp only [Act.put,List.setIfInBounds_toArray,List.set_cons_zero,List.set_cons_succ]
     refine wpAnyH_take (i:=7) (oi:={ dst:=some 51,op:=Op.call { callee:=Callee.builtin Builtin.len,args:=#[Operand.tmp 50],argTypes:=#[80] },type:=3,pos:="ref.go:125",after:=#[{ on:=6,ground:=Ground.data },{ on:=4,ground:=Ground.guard }],guard:=some (4,false) }) (v:=undef) rfl (by kernel_rfl) (by kernel_rfl) (by kernel_rfl) (fun _ _ _ h => h) (Or.inr ⟨by rfl,rfl⟩) hH0 ?trz7
     try simp only [Act.put,List.setIfInBounds_toArray,List.set_cons_zero,List.set_cons_succ]
     refine wpAnyH_take (i:=8) (oi:={ dst:=some 52,op:=Op.binOp BinOp.sub 3 (Operand.tmp 51) (Operand.const (Value.int IntKind.i64 1)) 3,type:=3,pos:="ref.go:125",after:=#[{ on:=7,ground:=Ground.data },{ on:=4,ground:=Ground.guard }],guard:=some (4,false) }) (v:=undef) rfl (by kernel_rfl) (by kernel_rfl) (by kernel_rfl) (fun _ _ _ h => h) (Or.inr ⟨by rfl,rfl⟩) hH0 ?trz8
     try simp only [Act.put,List.setIfInBounds_toArray,List.set_cons_zero,List.set_cons_succ]
     refine wpAnyH_take (i:=9) (oi:={ dst:=some 53,op:=Op.indexAddr 80 (Operand.tmp 49) (Operand.tmp 52),type:=0,pos:="ref.go:125",after:=#[{ on:=5,ground:=Ground.data },{ on:=8,ground:=Ground.data },{ on:=4,ground:=Ground.guard }],guard:=some (4,false) }) (v:=undef) rfl (by kernel_rfl) (by kernel_rfl) (by kernel_rfl) (fun _ _ _ h => h) (Or.inr ⟨by rfl,rfl⟩) hH0 ?trz9
     try simp only [Act.put,List.setIfInBounds_toArray,List.set_cons_zero,List.set_cons_succ]
     refine wpAnyH_take (i:=10) (oi:={ dst:=some 54,op:=Op.load 9 (Operand.tmp 53),type:=9,pos:="ref.go:125",after:=#[{ on:=9,ground:=Ground.data },{ on:=4,ground:=Ground.guard }],guard:=some (4,false) }) (v:=undef) rfl (by kernel_rfl) (by kernel_rfl) (by kernel_rfl) (fun _ _ _ h => h) (Or.inr ⟨by rfl,rfl⟩) hH0 ?trz10
     try simp only [Act.put,List.setIfInBounds_toArray,List.set_cons_zero,List.set_cons_succ]
     refine wpAnyH_take (i:=11) (oi:={ dst:=some 55,op:=Op.move (Operand.tmp 6),type:=22,pos:="ref.go:125",after:=#[{ on:=4,ground:=Ground.guard }],guard:=some (4,false) }) (v:=undef) rfl (by kernel_rfl) (by kernel_rfl) (by kernel_rfl) (fun _ _ _ h => h) (Or.inr ⟨by rfl,rfl⟩) hH0 ?trz11
     try simp only [Act.put,List.setIfInBounds_toArray,List.set_cons_zero,List.set_cons_succ]
     refine wpAnyH_take (i:=12) (oi:={ dst:=some 56,op:=Op.convert 22 9 (Operand.tmp 55),type:=9,pos:="ref.go:125",after:=#[{ on:=11,ground:=Ground.data },{ on:=4,ground:=Ground.guard }],guard:=some (4,false) }) (v:=undef) rfl (by kernel_rfl) (by kernel_rfl) (by kernel_rfl) (fun _ _ _ h => h) (Or.inr ⟨by rfl,rfl⟩) hH0 ?trz12
     try simp only [Act.put,List.setIfInBounds_toArray,List.set_cons_zero,List.set_cons_succ]
     refine wpAnyH_take (i:=13) (oi:={ dst:=some 57,op:=Op.binOp BinOp.lss 9 (Operand.tmp 54) (Operand.tmp 56) 9,type:=4,pos:="ref.go:125",after:=#[{ on:=10,ground:=Ground.data },{ on:=12,ground:=Ground.data },{ on:=4,ground:=Ground.guard }],guard:=some (4,false) }) (v:=undef) rfl (by kernel_rfl) (by kernel_rfl) (by kernel_rfl) (fun _ _ _ h => h) (Or.inr ⟨by rfl,rfl⟩) hH0 ?trz13
     try simp only [Act.put,List.setIfInBounds_toArray,List.set_cons_zero,List.set_cons_succ]
     refine wpAnyH_take (i:=14) (oi:={ dst:=some 58,op:=Op.pick (Operand.tmp 48) (Operand.const (Value.bool true)) (Operand.tmp 57),type:=4,pos:="ref.go:125",after:=#[{ on:=4,ground:=Ground.data },{ on:=13,ground:=Ground.data }],guard:=none }) (v:=?tvz14) rfl (by kernel_rfl) (by kernel_rfl) (by kernel_rfl) (fun _ _ _ h => h) (Or.inl ⟨by rfl,?thz14⟩) hH0 ?trz14
     case thz14 => (intro w hSw;go_simp;try with_reducible rfl)
     try simp only [Act.put,List.setIfInBounds_toArray,List.set_cons_zero,List.set_cons_succ]
     refine wpAnyH_ready (rs:=[15]) (by kernel_rfl) (by simp) ?_;refine (AllReadyH.cons (o:={ dst:=some 59,op:=Op.call { callee:=Callee.value (Operand.func 37),args:=#[Operand.tmp 44,Operand.tmp 58,Operand.const (Value.int IntKind.i64 3)],argTypes:=#[75,4,32] },type:=0,pos:="ref.go:125",after:=#[{ on:=0,ground:=Ground.data },{ on:=14,ground:=Ground.data },{ on:=4,ground:=Ground.chain }],guard:=none }) rfl (fun K hK => ?_) AllReadyH.nil);rw [if_pos (by rfl)];refine Qhp 37 #[.tmp 44,.tmp 58,.const (Value.int IntKind.i64 3)] #[75,4,32] rfl Qhq #[.pointer (some ⟨g,0,none⟩),.bool true,.int .i64 3] (by kernel_rfl) N.out ?_;rintro w3 ⟨r3,o3⟩;refine hK.out _ _ trivial (fun hh15 => ?_);clear hK K
     try simp only [Act.put,List.setIfInBounds_toArray,List.set_cons_zero,List.set_cons_succ]
     refine wpAnyH_done (by kernel_rfl) ?_ _;obtain ⟨own3,b3,on3,sz3⟩:=REST.out w3 r3 o3;have hcv3:=Qa4 w3 v1 a b3;have R3:=Qaa r3;have ON3:=Qaa on3;clear r3 o3 b3 on3 REST N B2 O2 OWN2
     go_wp2_with (first
      | (at_builtin;refine wpList_append_own _ rfl _ _ 80 rfl w.heap.size 9 i0 (.string ⟨#[]⟩) 1 16 Tryz.underlying80 hi hz0 hz1 hz2 rfl (by decide) _ t _ rfl (own3.alloc _) ⟨w3.heap.size,0,none⟩ 1 1 [.string (strOfNums a)] rfl rfl (cell_one_new _ _ _) (Qdh _) (by unfold maxLen;omega) (by omega) (by simp;omega) ?_;intro v' w4 hown' hgrow' _)
      | fail)
     have og : Only (fun j => (Value.slice au t cu).ownBlock = some j) w3 w4:=((Only.refl _ w3).alloc _).grown hgrow' (fun j _ e => e);have NN:=Qaa (NXT.out v' w4 hown' (R3.out.keepB og (fun e => by have:=(own3.lt _ e).1;omega) (fun j hj e => by have:=(own3.lt _ e).1;omega)) (ON3.out.trans og (fun i hi e => by have:=(own3.lt _ e).1;omega)));clear hown' hgrow' og own3 R3 ON3 hcv3
     go_roundw
     case rel =>
      obtain ⟨T',sc',e1,F⟩:=NN.out;exact ⟨T',sc',by rw [e1];go_num,F⟩
     case measure => simp [intOf];omega
    ·have e0 : ((t : Int) == 0) = false:=by rw [beq_eq_false_iff_ne];omega
     obtain ⟨b5,off5,cap5,e5,hc5⟩:=(Sts.of_own (w:=w2) (v:=.slice au t cu) (T:=T) (by rw [← HTL.out];exact OWN2.out)).at (t - 1) (by rw [← HTL.out];omega);rw [← HTL.out] at e5;have hle:=HBL.out (by omega);rw [HTL.out] at hle;rw [← HTL.out] at hle;simp only [Value.slice.injEq] at e5;obtain ⟨rfl,-,rfl⟩:=e5;obtain ⟨y,hy⟩ : ∃ y,y = T.getD (t - 1) []:=⟨_,rfl⟩;rw [← hy] at hle hc5
     have hw1 : IntKind.i64.wrap ((t : Int) - 1) = ((t - 1 : Nat) : Int):=by rw [IntKind.wrap_i64];omega
     have q0 : (0 : Int) ≤ ((t - 1 : Nat) : Int):=by omega
     have q1 : ((t - 1 : Nat) : Int) < (t : Int):=by omega
     have hcv:=Qa4 w2.drew v1 a (B2.out.past (Only.refl _ _).drew);have hcv2:=Qa4 w2 v1 a B2.out
     have KEEP : Hid (∀ w3,RDR w3 g B (rN P 3 S') → Only (fun k => k = g) w2.drew w3 → (w3.cell? ⟨b5,off5 + (t - 1),none⟩ = some (.string (strOfNums y)) ∧ (convert 22 9 v1).run Tryz.prog w3 = .ok (.string (strOfNums a)) w3)):=fun w3 z1 z2 => by
      obtain ⟨ow,bb,_,_⟩:=REST.out w3 z1 z2;obtain ⟨b6,off6,cap6,e6,hc6⟩:=(Sts.of_own (w:=w3) (T:=T) (by rw [← HTL.out];exact ow)).at (t - 1) (by rw [← HTL.out];omega);simp only [Value.slice.injEq,Option.some.injEq,Addr.mk.injEq] at e6;obtain ⟨⟨rfl,rfl,-⟩,-,-⟩:=e6;rw [← hy] at hc6;exact ⟨hc6,Qa4 w3 v1 a bb⟩
     clear hy;go_region_held3 (fun W => W.cell? ⟨b5,off5 + (t - 1),none⟩ = some (.string (strOfNums y)) ∧ (convert 22 9 v1).run Tryz.prog W = .ok (.string (strOfNums a)) W) (first | exact ⟨hc5,hcv⟩ | assumption | exact KEEP.out _ r3 o3) ((go_at_call 37;refine N.out.mono ?_;rintro e w3 ⟨rfl,r3,o3⟩));obtain ⟨own3,b3,on3,sz3⟩:=REST.out w3 r3 o3;have hcv3:=Qa4 w3 v1 a b3;have R3:=Qaa r3;have ON3:=Qaa on3;clear r3 o3 b3 on3 REST N B2 O2 OWN2
     go_wp2_with (first
      | (at_builtin;refine wpList_append_own _ rfl _ _ 80 rfl w.heap.size 9 i0 (.string ⟨#[]⟩) 1 16 Tryz.underlying80 hi hz0 hz1 hz2 rfl (by decide) _ t _ rfl (own3.alloc _) ⟨w3.heap.size,0,none⟩ 1 1 [.string (strOfNums a)] rfl rfl (cell_one_new _ _ _) (Qdh _) (by unfold maxLen;omega) (by omega) (by simp;omega) ?_;intro v' w4 hown' hgrow' _)
      | fail)
     have og : Only (fun j => (Value.slice (some ⟨b5,off5,none⟩) t cu).ownBlock = some j) w3 w4:=((Only.refl _ w3).alloc _).grown hgrow' (fun j _ e => e);have NN:=Qaa (NXT.out v' w4 hown' (R3.out.keepB og (fun e => by have:=(own3.lt _ e).1;omega) (fun j hj e => by have:=(own3.lt _ e).1;omega)) (ON3.out.trans og (fun i hi e => by have:=(own3.lt _ e).1;omega)));clear hown' hgrow' og own3 R3 ON3 hcv3
     go_roundw
     case rel =>
      obtain ⟨T',sc',e1,F⟩:=NN.out;exact ⟨T',sc',by rw [e1];go_num,F⟩
     case measure => simp [intOf];omega
   ·have d3 : (sc.2 == 0) = false:=by simpa using he
    have RES : Hid (∃ T' s',wr.ownsRow w.heap.size 9 1 (Value.slice au T.length cu) T'.length (QaV T') ∧ T'.length ≤ 300000001 ∧ (∀ x ∈ T',U8 x ∧ x.length ≤ 64) ∧ RDR wr g B s' ∧ U8 s'.1 ∧ s'.1.length ≤ 300000000 ∧ DIRQ s T' s' ∧ Only (fun k => k = g) w wr):=by
     rcases hdl with ⟨z,_⟩ | ⟨z,z1,z2⟩
     ·exact absurd z he
     ·exact ⟨T,sc,own,by omega,hall,⟨ao,cap,hB,hb,nc,hj⟩,h8,hcl,FIN.out T sc (.inr ⟨z,z2⟩) hst,on⟩
    obtain ⟨e0,he0⟩ : ∃ e0,e0 = sc.2:=⟨_,rfl⟩;rw [← he0] at d3 c1;obtain ⟨t,ht⟩ : ∃ t,t = T.length:=⟨_,rfl⟩;rw [← ht] at d1 d2 hlt RES;rw [← ht];clear own hall hB hb nc hj h8 hcl hdl hst on he he0 c0 ht;go_wp2;go_ret;obtain ⟨T',s',F⟩:=RES.out;exact ⟨_,T',s',rfl,F⟩
  ·have d1 : decide (((T.length : Nat) : Int) < (n : Int)) = false:=by rw [decide_eq_false_iff_not];omega
   have d2 : decide (T.length < n) = false:=by rw [decide_eq_false_iff_not];exact hlt
   have RES : Hid (∃ T' s',wr.ownsRow w.heap.size 9 1 (Value.slice au T.length cu) T'.length (QaV T') ∧ T'.length ≤ 300000001 ∧ (∀ x ∈ T',U8 x ∧ x.length ≤ 64) ∧ RDR wr g B s' ∧ U8 s'.1 ∧ s'.1.length ≤ 300000000 ∧ DIRQ s T' s' ∧ Only (fun k => k = g) w wr):=by
    rcases hdl with ⟨z,z1,z2,z3,z4⟩ | ⟨z,z1,z2⟩
    ·refine ⟨T,sc,own,by omega,hall,⟨ao,cap,hB,hb,nc,hj⟩,h8,hcl,FIN.out T sc (.inl ⟨z,?_⟩) hst,on⟩
     rw [z4,show n - T.length = 0 by omega];simp [pre,rdTns,rdRep]
    ·exact ⟨T,sc,own,by omega,hall,⟨ao,cap,hB,hb,nc,hj⟩,h8,hcl,FIN.out T sc (.inr ⟨z,z2⟩) hst,on⟩
   obtain ⟨t,ht⟩ : ∃ t,t = T.length:=⟨_,rfl⟩;rw [← ht] at d1 d2 hlt RES;rw [← ht];clear own hall hB hb nc hj h8 hcl hdl hst on c0 c1 ht;go_wp2;go_ret;obtain ⟨T',s',F⟩:=RES.out;exact ⟨_,T',s',rfl,F⟩
end Go.Proofs.YtcpopagikbjimaaGreatDoor
