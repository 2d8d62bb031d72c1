import Derived.Test.YtcpopagikbjimaaGreatDoorG15
namespace Go.Proofs.YtcpopagikbjimaaGreatDoor
set_option maxHeartbeats 4000000
set_option maxRecDepth 100000
open Go.RowKit
theorem Qko {x y : List Int} (hx : U8 x) (hy : U8 y) : ((strOfNums x).toList == (strOfNums y).toList) = decide (x = y):=by rw [eq_sb,sb_of hx,sb_of hy]
theorem Qen (v : Value) (T : List (List Int)) (x : List Int) (w : World) (h : Sts w v T) (hr : RIS T) (hU : ∀ y ∈ T,U8 y) (hx : x ∈ T) (hl : T.length ≤ 1048576) :
  Calls Tryz.prog 97 #[v,.string (strOfNums x)] w fun e w' => e = .returned (.int .i64 (PLC T x : Nat)) ∧ w = w':=by
 obtain ⟨ao,cap,rfl⟩:=h.len;have HB:=Qaa h;have HR:=Qaa hr;have HU:=Qaa hU;have HX:=Qaa hx;obtain ⟨P,hP⟩ : ∃ P,P = PLC T x:=⟨_,rfl⟩;have HP:=Qaa hP;rw [← hP];obtain ⟨n,hn⟩ : ∃ n,n = T.length:=⟨_,rfl⟩;have HN:=Qaa hn;rw [← hn] at HB hl;rw [← hn];clear h hr hU hx hP hn;go_enter Tryz.func97,Tryz.ntmps97;go_wp2
 go_loop [5] (fun i => ∃ k : Nat,k ≤ n ∧ i = .int .i64 k ∧ ∀ j,j < k → T.getD j [] ≠ x) (fun i => n - (intOf i).toNat)
 case atStart => exact ⟨0,Nat.zero_le _,rfl,fun j hj => by omega⟩
 case round =>
  obtain ⟨k,hk,rfl,hno⟩:=hrel;have HNO:=Qaa hno
  by_cases hlt : k < n
  ·have hlt' : k < T.length:=by rw [← HN.out];exact hlt
   obtain ⟨b,off,cap',e,hc0⟩:=HB.out.at k hlt';simp only [Value.slice.injEq] at e;obtain ⟨rfl,hmx,rfl⟩:=e;clear hmx;have hq:=Qko (HU.out _ (Qat (d:=[]) hlt')) (HU.out x HX.out);have hpo:=Qaa (Qd1 HR.out hlt');obtain ⟨y,hy⟩ : ∃ y,y = T.getD k []:=⟨_,rfl⟩;have HY:=Qaa hy;rw [← hy] at hc0 hq hpo
   have i0 : (0 : Int) ≤ (k : Int):=by omega
   have i1 : (k : Int) < (n : Int):=by omega
   clear hy hlt' hno
   by_cases hxy : y = x
   ·rw [decide_eq_true hxy] at hq
    have HF : Hid (P = k):=by simp only [Hid];rw [HP.out,← hxy];exact hpo.out
    clear hxy hpo;go_wp2;go_ret;exact ⟨by rw [HF.out];rfl,rfl⟩
   ·rw [decide_eq_false hxy] at hq
    have HF:=Qaa hxy;clear hxy hpo;go_wp2
    go_round
    case rel =>
     refine ⟨k + 1,by omega,by go_num,fun j hj => ?_⟩
     rcases Nat.lt_succ_iff_lt_or_eq.1 hj with q | rfl
     ·exact HNO.out j q
     ·rw [← HY.out];exact HF.out
    case measure => simp [intOf];omega
  ·exfalso
   obtain rfl : k = n:=by omega
   exact hno (PLC T x) (by rw [HN.out];exact Qcj HX.out) (Qfr HX.out)
theorem Qhv (x vp ve vr : Value) (m : MAN) (w : World) (h : Mf w x m vp ve vr) (hk : Mok m) (hl : m.es.length ≤ 100) :
  Calls Tryz.prog 95 #[x] w fun e w' => e = .returned (.int .i64 (MEr m)) ∧ Only (fun _ => False) w w':=by
 have hf:=h.form;obtain ⟨ap,pc,ep⟩:=h.prev.len;obtain ⟨ae,ec,ee⟩:=h.es.len;obtain ⟨ar,rc,er⟩:=h.root.len;subst ep ee er hf;have oa : Only (fun _ => False) w (w.alloc (.cells #[.int .u64 m.ver,.slice ap m.prev.length pc,.slice ae m.es.length ec,.slice ar m.root.length rc] 44)):=(Only.refl _ _).alloc _;have OA:=Qaa oa
 by_cases h1 : m.ver = 18446744073709551615 ∨ m.prev.length ≠ 32 ∨ m.root.length ≠ 32
 ·have e1 : MEr m = 1:=by unfold MEr;rw [if_pos h1]
  rw [e1];clear h e1 oa
  by_cases q1 : m.ver = 18446744073709551615
  ·have d1 : ((m.ver : Int) == 18446744073709551615) = true:=by simp;omega
   clear h1 q1;generalize m.ver = ver at *;go_enter Tryz.func95,Tryz.ntmps95;go_wp2;go_ret;exact ⟨rfl,OA.out⟩
  ·have d1 : ((m.ver : Int) == 18446744073709551615) = false:=by rw [beq_eq_false_iff_ne];omega
   by_cases q2 : m.prev.length = 32
   ·have q3 : m.root.length ≠ 32:=by omega
    have d3 : ((m.root.length : Int) != 32) = true:=by simp;omega
    have d2 : ((m.prev.length : Int) != 32) = false:=by rw [q2];rfl
    clear h1 q1 q2 q3;generalize m.prev.length = pl at *;generalize m.root.length = rl at *;go_enter Tryz.func95,Tryz.ntmps95;go_wp2;go_ret;exact ⟨rfl,OA.out⟩
   ·have d2 : ((m.prev.length : Int) != 32) = true:=by simp;omega
    clear h1 q1 q2;generalize m.prev.length = pl at *;go_enter Tryz.func95,Tryz.ntmps95;go_wp2;go_ret;exact ⟨rfl,OA.out⟩
 have d1 : ((m.ver : Int) == 18446744073709551615) = false:=by rw [beq_eq_false_iff_ne];omega
 have l1 : m.prev.length = 32:=by omega
 have l2 : m.root.length = 32:=by omega
 have HE : Hid (MEr m = if m.es.any (fun e => !okB e.2) = true then 1 else if m.es.any (fun e => decide (64 < e.1.length)) = true then 4 else 0):=by
  simp only [Hid];unfold MEr;rw [if_neg h1]
  by_cases q : m.es.any (fun e => !okB e.2) = true
  ·rw [if_pos q,if_pos q]
  ·rw [if_neg q,if_neg q]
   by_cases q4 : m.es.any (fun e => decide (64 < e.1.length)) = true
   ·rw [if_pos q4,if_pos (.inr q4)]
   ·rw [if_neg q4,if_neg (fun z => z.elim (fun z => by omega) q4)]
 obtain ⟨R,hR⟩ : ∃ R,R = MEr m:=⟨_,rfl⟩;rw [← hR] at HE;rw [← hR];have KA:=Qaa (heap_alloc_new w (.cells #[.int .u64 m.ver,.slice ap m.prev.length pc,.slice ae m.es.length ec,.slice ar m.root.length rc] 44));have EA:=Qaa (h.es.past oa);rw [l1,l2];rw [l1,l2] at KA EA OA;generalize m.ver = ver at *;obtain ⟨E,hE⟩ : ∃ E,E = m.es:=⟨_,rfl⟩
 have HU : Hid (EU8 E):=by rw [hE];exact hk.es
 rw [← hE] at EA KA OA hl HE;rw [← hE];obtain ⟨n,hn⟩ : ∃ n,n = E.length:=⟨_,rfl⟩;have HN:=Qaa hn;rw [← hn] at EA KA OA hl;rw [← hn];obtain ⟨A1,hA1⟩ : ∃ A1,A1 = E.any (fun e => !okB e.2):=⟨_,rfl⟩;obtain ⟨A2,hA2⟩ : ∃ A2,A2 = E.any (fun e => decide (64 < e.1.length)):=⟨_,rfl⟩;have HA1:=Qaa hA1;have HA2:=Qaa hA2;rw [← hA1,← hA2] at HE;clear h oa hn hE hA1 hA2 h1 l1 l2 hR;have e32 : ((32 : Nat) : Int) = 32:=rfl
 have d4 : decide ((1048576 : Int) < (n : Int)) = false:=by simp;omega
 have d5 : decide (1048576 < n) = false:=by simp;omega
 obtain ⟨W,hW⟩ : ∃ W,W = w.alloc (.cells #[.int .u64 ver,.slice ap 32 pc,.slice ae n ec,.slice ar 32 rc] 44):=⟨_,rfl⟩;rw [← hW] at EA KA OA;have HW:=Qaa hW;have R0:=Qaa (Only.refl (fun _ => False) W);clear hW;go_enter Tryz.func95,Tryz.ntmps95;go_wp2;rw [← HW.out]
 go_loopw [3] (fun i wr => ∃ k : Nat,k ≤ n ∧ i = .int .i64 k ∧ (∀ j,j < k → okB (E.getD j ([],0)).2 = true) ∧ Only (fun _ => False) W wr) (fun i _ => n - (intOf i).toNat)
 case atStart => exact ⟨0,Nat.zero_le _,rfl,fun j hj => by omega,R0.out⟩
 case round =>
  clear R0;obtain ⟨k,hk',rfl,hall,ho⟩:=hrel;obtain ⟨a0,a1,a2,a3⟩:=heap4 (ho.heap KA.out (fun f => f));have HO:=Qaa ho;have HALL:=Qaa hall
  by_cases hlt : k < n
  ·have hlt' : k < E.length:=by rw [← HN.out];exact hlt
   obtain ⟨b,off,cap,e,hc0,hc1⟩:=(EA.out.past ho).at k hlt';simp only [Value.slice.injEq] at e;obtain ⟨rfl,hmx,rfl⟩:=e;clear hmx;have hmem : E.getD k ([],0) ∈ E:=Qat hlt';obtain ⟨z,hz⟩ : ∃ z,z = E.getD k ([],0):=⟨_,rfl⟩;rw [← hz] at hc0 hc1 hmem;have HZ:=Qaa hz;have HME:=Qaa hmem
   have i0 : (0 : Int) ≤ (k : Int):=by omega
   have i1 : (k : Int) < (n : Int):=by omega
   clear ho hall hlt' hmem hz
   by_cases hb : 0 ≤ z.2 ∧ z.2 ≤ 8
   ·have f1 : decide (z.2 < 0) = false:=by rw [decide_eq_false_iff_not];omega
    have f2 : decide (8 < z.2) = false:=by rw [decide_eq_false_iff_not];omega
    have f3 : ¬ z.2 < 0:=by omega
    have f4 : ¬ 8 < z.2:=by omega
    have HBB:=Qaa hb;clear hb;go_wp2
    go_roundw
    case rel =>
     refine ⟨k + 1,by omega,by go_num,fun j hj => ?_,HO.out⟩
     rcases Nat.lt_succ_iff_lt_or_eq.1 hj with q | rfl
     ·exact HALL.out j q
     ·rw [← HZ.out];exact decide_eq_true HBB.out
    case measure => simp [intOf];omega
   ·have HF : Hid (A1 = true):=by
     simp only [Hid];rw [HA1.out,List.any_eq_true];exact ⟨z,HME.out,by rw [okB,decide_eq_false hb];rfl⟩
    by_cases hb1 : z.2 < 0
    ·have f1 : decide (z.2 < 0) = true:=decide_eq_true hb1
     clear hb;go_wp2;go_ret;exact ⟨by rw [HE.out,HF.out];rfl,OA.out.same HO.out⟩
    ·have f1 : decide (z.2 < 0) = false:=decide_eq_false hb1
     have f2 : decide (8 < z.2) = true:=by rw [decide_eq_true_eq];omega
     have f4 : 8 < z.2:=by omega
     clear hb;go_wp2;go_ret;exact ⟨by rw [HE.out,HF.out];rfl,OA.out.same HO.out⟩
  ·obtain rfl : k = n:=by omega
   have HF1 : Hid (A1 = false):=by
    simp only [Hid];rw [HA1.out];refine Qjq (d:=([],0)) (fun j hj => ?_);rw [hall j (by rw [HN.out];exact hj)];rfl
   have O1:=Qaa (Only.refl (fun _ => False) wr);clear ho hall;go_wp2;clear a0 a1 a2 a3
   go_loopw [4] (fun i w3 => ∃ j : Nat,j ≤ k ∧ i = .int .i64 j ∧ (∀ q,q < j → (E.getD q ([],0)).1.length ≤ 64) ∧ Only (fun _ => False) wr w3) (fun i _ => k - (intOf i).toNat)
   case atStart => exact ⟨0,Nat.zero_le _,rfl,fun j hj => by omega,O1.out⟩
   case round =>
    clear O1;obtain ⟨j,hj,rfl,hall,ho⟩:=hrel;obtain ⟨a0,a1,a2,a3⟩:=heap4 ((HO.out.same ho).heap KA.out (fun f => f));have HO3:=Qaa (HO.out.same ho);have HP3:=Qaa ho;have HALL3:=Qaa hall
    by_cases hlt3 : j < k
    ·have hlt' : j < E.length:=by rw [← HN.out];exact hlt3
     obtain ⟨b,off,cap,e,hc0,hc1⟩:=(EA.out.past HO3.out).at j hlt';simp only [Value.slice.injEq] at e;obtain ⟨rfl,hmx,rfl⟩:=e;clear hmx;have hmem : E.getD j ([],0) ∈ E:=Qat hlt';obtain ⟨z,hz⟩ : ∃ z,z = E.getD j ([],0):=⟨_,rfl⟩;rw [← hz] at hc0 hc1 hmem;have HZ:=Qaa hz;have HME:=Qaa hmem;have hsz:=strOfNums_size z.1
     have i0 : (0 : Int) ≤ (j : Int):=by omega
     have i1 : (j : Int) < (k : Int):=by omega
     clear ho hall hlt' hmem hz hc1
     by_cases hb : 64 < z.1.length
     ·have f1 : decide ((64 : Int) < ((strOfNums z.1).size : Int)) = true:=by rw [hsz];simp;omega
      have f2 : decide (64 < (strOfNums z.1).size) = true:=by rw [hsz];simp;omega
      have HF : Hid (A2 = true):=by
       simp only [Hid];rw [HA2.out,List.any_eq_true];exact ⟨z,HME.out,decide_eq_true hb⟩
      clear hsz hb;go_wp2;go_ret;exact ⟨by rw [HE.out,HF1.out,HF.out];rfl,OA.out.same HO3.out⟩
     ·have f1 : decide ((64 : Int) < ((strOfNums z.1).size : Int)) = false:=by rw [hsz];simp;omega
      have f2 : decide (64 < (strOfNums z.1).size) = false:=by rw [hsz];simp;omega
      clear hsz;go_wp2
      go_roundw
      case rel =>
       refine ⟨j + 1,by omega,by go_num,fun q hq => ?_,HP3.out⟩
       rcases Nat.lt_succ_iff_lt_or_eq.1 hq with q' | rfl
       ·exact HALL3.out q q'
       ·rw [← HZ.out];omega
      case measure => simp [intOf];omega
    ·obtain rfl : j = k:=by omega
     have HF2 : Hid (A2 = false):=by
      simp only [Hid];rw [HA2.out];refine Qjq (d:=([],0)) (fun q hq => ?_);have:=hall q (by rw [HN.out];exact hq);rw [decide_eq_false_iff_not];omega
     clear ho hall;go_wp2;go_ret;exact ⟨by rw [HE.out,HF1.out,HF2.out];rfl,OA.out.same HO3.out⟩
def RTN (T : List (List Int)) (v : Value) (w : World) : Prop:=Calls Tryz.prog 96 #[v] w fun e w' => ∃ u,e = .returned u ∧ Sts w' u T ∧ Only (fun _ => False) w w'
theorem QiV (w : World) : (w.alloc (.cells #[.int .u8 67,.int .u8 83,.int .u8 75,.int .u8 49] 5)).ownsRow w.heap.size 5 1 (.slice (some ⟨w.heap.size,0,none⟩) 4 4) 4 (MHD.map (Value.int .u8)) :=
 ⟨rfl,.inr ⟨w.heap.size,4,_,rfl,Nat.le_refl _,heap_alloc_new w _,Nat.le_refl _,by unfold maxLen;omega,rfl,rfl⟩⟩
theorem Qb2 {w : World} {lo : Nat} {E : TypeId} {size : Nat} {v : Value} {n : Nat} {xs : List Value} (h : w.ownsRow lo E size v n xs) : ∃ a c,v = .slice a n c:=by
 rcases h.2 with ⟨rfl,h0⟩ | ⟨g,cap,cur,rfl,_⟩
 ·exact ⟨none,0,by rw [h0]⟩
 ·exact ⟨_,_,rfl⟩
theorem Qeo (x vp ve vr : Value) (m : MAN) (w : World) (h : Mf w x m vp ve vr) (hk : Mok m) (np : NoCap vp) (nr : NoCap vr) (hl : m.es.length ≤ 100) (her : MEr m = 0)
  (HTN : ∀ W,Only (fun _ => False) w W → RTN (MTN m) ve W) :
  Calls Tryz.prog 63 #[x] w fun e w' => ∃ u,e = .returned (.tuple #[u,.int .i64 0]) ∧ w'.ownsRow w.heap.size 5 1 u (MENC m).length ((MENC m).map (Value.int .u8)) ∧ Only (fun _ => False) w w':=by
 obtain ⟨i0,hi,hz0,hz1,hz2⟩:=info_parts Tryz.infoU8;have hf:=h.form;obtain ⟨ap,pc,ep⟩:=h.prev.len;obtain ⟨ae,ec,ee⟩:=h.es.len;obtain ⟨ar,rc,er⟩:=h.root.len;subst ep ee er hf;have oa : Only (fun _ => False) w (w.alloc (.cells #[.int .u64 m.ver,.slice ap m.prev.length pc,.slice ae m.es.length ec,.slice ar m.root.length rc] 44)):=(Only.refl _ _).alloc _;have K0:=Qaa (heap_alloc_new w (.cells #[.int .u64 m.ver,.slice ap m.prev.length pc,.slice ae m.es.length ec,.slice ar m.root.length rc] 44));have A:=Qaa (Qhv _ _ _ _ m _ (h.past oa) hk hl);rw [her] at A;have OA:=Qaa oa;obtain ⟨g1,g2,g3,g4,g5⟩:=(QgT hk).1 her;rw [g2.1] at np;rw [g3.1] at nr;have HE:=Qaa h.es;have HP:=Qaa h.prev;have HR:=Qaa h.root;have TNC:=Qaa HTN
 have HT64 : Hid (∀ x ∈ MTN m,U8 x ∧ x.length ≤ 64):=fun x hx => by
  obtain ⟨e,he',rfl⟩:=List.mem_map.1 ((Qbl _ _).1 hx);exact ⟨(g5 e he').1.2,(g5 e he').1.1⟩
 have HTM : Hid (∀ e ∈ m.es,e.1 ∈ MTN m):=fun e he' => Qdq he'
 have HX8 : Hid (∀ e ∈ m.es,e.1.length ≤ 64 ∧ 0 ≤ e.2 ∧ e.2 ≤ 8):=fun e he' => ⟨(g5 e he').1.1,(g5 e he').2⟩
 have hTl : (MTN m).length ≤ 100:=Nat.le_trans (QeP m) hl;have HRS:=Qaa (Qb9 (m.es.map Prod.fst))
 have HME : Hid (MENC m = (MHD ++ fixL (m.ver : Int) 8 ++ m.prev ++ TBS (MTN m) (MTN m).length) ++ EBS (MTN m) m.es m.es.length ++ m.root):=by
  simp only [Hid];rw [QgR,QgS];simp [MENC]
 have HTB:=Qaa (fun k hk => Qjr (MTN m) k hk (by omega) (fun x hx => (HT64.out x hx).2));have HEB:=Qaa (fun k hk => Qjs (MTN m) m.es k hk (by omega) HTM.out (by omega));have HF8:=Qaa (fun W => QhS (m.ver : Int) 8 W (by decide));rw [show ((8 : Nat) : Int) = 8 from rfl] at HF8;rw [HME.out];have l1 : m.prev.length = 32:=g2.1;have l2 : m.root.length = 32:=g3.1
 change Hid (RIS (MTN m)) at HRS
 obtain ⟨T,hT⟩ : ∃ T,T = MTN m:=⟨_,rfl⟩;rw [← hT] at TNC HT64 HTM hTl HRS HTB HEB;rw [← hT];obtain ⟨E,hE⟩ : ∃ E,E = m.es:=⟨_,rfl⟩;rw [← hE] at HE HTM HX8 hl HEB A OA K0 TNC;rw [← hE];obtain ⟨pv,hpv⟩ : ∃ pv,pv = m.prev:=⟨_,rfl⟩;rw [← hpv] at HP l1 A OA K0;rw [← hpv];obtain ⟨rt,hrt⟩ : ∃ rt,rt = m.root:=⟨_,rfl⟩;rw [← hrt] at HR l2 A OA K0;rw [← hrt];obtain ⟨ver,hver⟩ : ∃ ver,ver = m.ver:=⟨_,rfl⟩;rw [← hver] at A OA K0 HF8;rw [← hver];rw [l1,l2] at A OA K0;rw [l1] at HP;rw [l2] at HR;rw [l1,l2];obtain ⟨n,hn⟩ : ∃ n,n = E.length:=⟨_,rfl⟩;have HN:=Qaa hn;rw [← hn] at A OA K0 HE hl TNC;rw [← hn];obtain ⟨PRE,hPRE⟩ : ∃ PRE,PRE = MHD ++ fixL (ver : Int) 8 ++ pv:=⟨_,rfl⟩
 have hPl : PRE.length = 44:=by rw [hPRE];simp [Qa7,l1,MHD]
 have HPR:=Qaa hPRE;rw [← hPRE];have HL12:=Qaa (And.intro l1 l2);clear h hk oa her g1 g2 g3 g4 g5 HTN HME hT hE hpv hrt hver hn hPRE l1 l2;have e32 : ((32 : Nat) : Int) = 32:=rfl;go_enter Tryz.func63,Tryz.ntmps63;go_wp2_with fail;refine A.out.mono ?_;rintro e w1 ⟨rfl,o1⟩;have K1:=Qaa (o1.heap K0.out (fun f => f));obtain ⟨k0,k1,k2,k3⟩:=heap4 (((Only.refl (fun _ => False) w1).alloc (.cells #[.int .u8 67,.int .u8 83,.int .u8 75,.int .u8 49] 5)).heap K1.out (fun f => f));have O1:=Qaa (OA.out.same o1);clear A o1 K0 OA;go_wp2_with fail;refine (HF8.out _).mono ?_;rintro e w2 ⟨v2,rfl,own2,o2⟩;have ol:=QiV w1;have ol2:=o2.own ol (fun _ _ f => f);have b2:=Bs.of_own (k:=.u8) own2;have n2:=NoCap.of_own own2;have oz : Only (fun _ => False) w1 (w1.alloc (.cells #[.int .u8 67,.int .u8 83,.int .u8 75,.int .u8 49] 5)):=(Only.refl _ _).alloc _;have o12:=oz.same o2;have s2:=o12.size;have f8:=Qa7 (ver : Int) 8;have K2:=Qaa (o12.heap K1.out (fun f => f));have O2:=Qaa (O1.out.same o12);have O12:=Qaa o12;clear HF8 k0 k1 k2 k3 oz o12 o2 ol
 go_wp2_with (first
  | (at_builtin;refine Qac _ rfl _ _ 22 rfl w1.heap.size 5 i0 (.int .u8 0) 1 Tryz.underlying22 hi hz0 hz1 hz2 rfl (.slice (some ⟨w1.heap.size,0,none⟩) 4 4) 4 _ rfl ol2 .u8 v2 (fixL (ver : Int) 8) rfl b2 n2 (by rw [f8];unfold maxLen;omega) (by rw [f8];omega) (by omega) ?_;intro v3 w3 own3 gr3 _ _;have og3:=Qaa (O12.out.grown gr3 (fun j hj e => by have:=(ol2.lt j e).1;omega));have s3:=og3.out.size;obtain ⟨k0,k1,k2,k3⟩:=heap4 (og3.out.heap K1.out (fun f => f));clear gr3 b2 n2 ol2 own2;rw [f8] at own3)
  | (at_builtin;refine Qac _ rfl _ _ 22 rfl w1.heap.size 5 i0 (.int .u8 0) 1 Tryz.underlying22 hi hz0 hz1 hz2 rfl v3 (4 + 8) _ rfl own3 .u8 (.slice ap 32 pc) pv rfl (HP.out.past (O1.out.same og3.out)) np (by rw [HL12.out.1];unfold maxLen;omega) (by rw [HL12.out.1];omega) (by omega) ?_;intro v4 w4 own4 gr4 _ _;have og4:=Qaa (og3.out.grown gr4 (fun j hj e => by have:=(own3.lt j e).1;omega));clear k0 k1 k2 k3;obtain ⟨k0,k1,k2,k3⟩:=heap4 (og4.out.heap K1.out (fun f => f));clear gr4 own3 og3 s3;rw [HL12.out.1] at own4)
  | fail)
 refine Calls.mono (TNC.out w4 (O1.out.same og4.out)) ?_;rintro e w5 ⟨vt,rfl,hts,o5⟩;obtain ⟨ta,tc,rfl⟩:=hts.len
 have own4' : w4.ownsRow w1.heap.size 5 1 v4 PRE.length (PRE.map (Value.int .u8)):=by
  rw [hPl,HPR.out,List.map_append,List.map_append];exact own4
 have own5:=o5.own own4' (fun _ _ f => f);have B5:=Qaa (Qbo v4 PRE (T.length : Int) w5 (Bs.of_own (k:=.u8) own5) (NoCap.of_own own5) (by omega) (by omega) (by omega));rw [Int.toNat_natCast,← Qim] at B5;have K5:=Qaa ((og4.out.same o5).heap K1.out (fun f => f));have O5:=Qaa (O1.out.same (og4.out.same o5));have HTS:=Qaa hts;have E5:=Qaa (HE.out.past O5.out);have R5:=Qaa (HR.out.past O5.out)
 have hwt : IntKind.u64.wrap (T.length : Int) = T.length:=by rw [IntKind.wrap_u64];omega
 obtain ⟨t,ht⟩ : ∃ t,t = T.length:=⟨_,rfl⟩;have HTL:=Qaa ht;rw [← ht] at B5 HTS hTl hwt;rw [← ht]
 have FIN : Hid (∀ u (W : World) (Z : List Int),W.ownsRow w5.heap.size 5 1 u Z.length (Z.map (Value.int .u8)) → Only (fun _ => False) w5 W → W.ownsRow w.heap.size 5 1 u Z.length (Z.map (Value.int .u8)) ∧ Only (fun _ => False) w W) :=
  fun u W Z a b => ⟨Qal a O5.out.size,O5.out.same b⟩
 clear TNC K2 K1 O1 O2 O12 og4 own4 own4' own5 hts o5 k0 k1 k2 k3 f8 s2 ht HE HR HP np O5;go_wp2_with fail;refine B5.out.mono ?_;rintro e w6 ⟨u6,rfl,own6,o6⟩;have F0:=Qaa (And.intro own6 o6);have HS:=Qaa (Qin T);clear own6 o6 B5 hwt;go_wp2_with fail
 go_loopw [5,7] (fun u i wr => ∃ k : Nat,k ≤ t ∧ i = .int .i64 k ∧ wr.ownsRow w5.heap.size 5 1 u (PRE ++ TBS T k).length ((PRE ++ TBS T k).map (Value.int .u8)) ∧ Only (fun _ => False) w5 wr) (fun _ i _ => t - (intOf i).toNat)
 case atStart => exact ⟨0,Nat.zero_le _,rfl,F0.out⟩
 case round =>
  clear F0;obtain ⟨k,hk,rfl,own,on⟩:=hrel
  by_cases hlt : k < t
  ·have hlt' : k < T.length:=by rw [← HTL.out];exact hlt
   obtain ⟨b,off,cap',e,hc0⟩:=(HTS.out.past on).at k hlt';simp only [Value.slice.injEq] at e;obtain ⟨rfl,hmx,rfl⟩:=e;clear hmx;obtain ⟨xu,xl⟩:=HT64.out _ (Qat (s:=T) (d:=[]) hlt');have SC:=Qaa (HS.out k hlt');have LE:=HTB.out k (by omega);have HSB:=sb_of xu;obtain ⟨x,hx⟩ : ∃ x,x = T.getD k []:=⟨_,rfl⟩;rw [← hx] at hc0 SC xu xl HSB;have hcv:=Qcb (strOfNums x);have hsz : (strOfNums x).size = x.length:=Qd5 x;have hge:=grownCap_ge wr (strOfNums x).size 0 5;obtain ⟨c,hc⟩ : ∃ c,c = grownCap wr (strOfNums x).size 0 5:=⟨_,rfl⟩;rw [← hc] at hge;have o2 : Only (fun _ => False) wr (wr.alloc (QaY (strOfNums x) c)).drew:=((Only.refl _ _).alloc _).drew;have B:=Qaa (Qbu (.slice (some ⟨wr.heap.size,0,none⟩) (strOfNums x).size c) x (wr.alloc (QaY (strOfNums x) c)).drew (by have:=QbO (QbB (Qak (W:=wr) (o:=QaY (strOfNums x) c) rfl)) (by omega : (strOfNums x).size ≤ c);rw [HSB] at this;exact this) (NoCap.some _ _ _) (by omega));have HBL:=Qcv x (by omega);obtain ⟨X,hX⟩ : ∃ X,X = blk x:=⟨_,rfl⟩;rw [← hX] at B SC HBL
   have LE2 : (PRE ++ TBS T k).length ≤ 100000:=by rw [List.length_append];omega
   have SC2 : Hid (PRE ++ TBS T (k + 1) = (PRE ++ TBS T k) ++ X):=by simp only [Hid];rw [SC.out,List.append_assoc]
   clear SC LE;obtain ⟨Y,hY⟩ : ∃ Y,Y = PRE ++ TBS T k:=⟨_,rfl⟩;rw [← hY] at own SC2 LE2;have OWN:=Qaa (o2.own own (fun _ _ f => f));have ON:=Qaa (on.same o2)
   have i1 : (k : Int) < (t : Int):=by omega
   have hsl:=on.size;clear hx hX hY own on o2 hlt' xu HSB hge hsz;go_wp2_with fail;rw [← hc];refine B.out.mono ?_;rintro e w7 ⟨v7,rfl,own7,o7⟩;have OWN1:=o7.own OWN.out (fun _ _ f => f);have BS1:=Bs.of_own (k:=.u8) own7;have NC1:=NoCap.of_own own7;have s1:=o7.size;clear hcv hc;go_wp2_with (at_builtin;refine Qac _ rfl _ _ 22 rfl w5.heap.size 5 i0 (.int .u8 0) 1 Tryz.underlying22 hi hz0 hz1 hz2 rfl _ Y.length (Y.map (Value.int .u8)) rfl OWN1 .u8 _ X rfl BS1 NC1 (by unfold maxLen;omega) (by omega) (by simp at s1;omega) ?_;intro v8 w8 own8 gr8 _ _)
   go_roundw
   case rel =>
    refine ⟨k + 1,by omega,by go_num,?_,(ON.out.same o7).grown gr8 (fun j hj e => by have:=(OWN1.lt j e).1;omega)⟩;rw [SC2.out,List.length_append,List.map_append];exact own8
   case measure => simp [intOf];omega
  ·obtain rfl : k = t:=by omega
   obtain ⟨k0,k1,k2,k3⟩:=heap4 (on.heap K5.out (fun f => f));have LE:=HTB.out k (by rw [HTL.out];exact Nat.le_refl _)
   have LE2 : (PRE ++ TBS T k).length ≤ 100000:=by rw [List.length_append];omega
   obtain ⟨P2,hP2⟩ : ∃ P2,P2 = PRE ++ TBS T k:=⟨_,rfl⟩;rw [← hP2] at own LE2;have HP2:=Qaa hP2;have B:=Qaa (Qbo _ P2 (n : Int) wr (Bs.of_own (k:=.u8) own) (NoCap.of_own own) (by omega) (by omega) (by omega));rw [Int.toNat_natCast] at B;have EZ:=Qio T E;rw [← HN.out] at EZ;rw [← EZ] at B
   have hwn : IntKind.u64.wrap (n : Int) = n:=by rw [IntKind.wrap_u64];omega
   have ON:=Qaa on;have HS2:=Qaa (Qip T E);clear EZ own on hP2 LE HPR hPl HS HTB;go_wp2_with fail;refine B.out.mono ?_;rintro e w7 ⟨u7,rfl,own7,o7⟩;have F0:=Qaa (And.intro (Qal own7 ON.out.size) (ON.out.same o7));clear B own7 o7 ON hwn k0 k1 k2 k3;go_wp2_with fail
   go_loopw [5,8] (fun u i wr => ∃ k : Nat,k ≤ n ∧ i = .int .i64 k ∧ wr.ownsRow w5.heap.size 5 1 u (P2 ++ EBS T E k).length ((P2 ++ EBS T E k).map (Value.int .u8)) ∧ Only (fun _ => False) w5 wr) (fun _ i _ => n - (intOf i).toNat)
   case atStart => exact ⟨0,Nat.zero_le _,rfl,F0.out⟩
   case round =>
    clear F0;obtain ⟨q,hq,rfl,own,on⟩:=hrel;obtain ⟨k0,k1,k2,k3⟩:=heap4 (on.heap K5.out (fun f => f))
    by_cases hlt2 : q < n
    ·have hlt' : q < E.length:=by rw [← HN.out];exact hlt2
     obtain ⟨b,off,cap',e,hc0,hc1⟩:=(E5.out.past on).at q hlt';simp only [Value.slice.injEq] at e;obtain ⟨rfl,hmx,rfl⟩:=e;clear hmx;have hmem : E.getD q ([],0) ∈ E:=Qat hlt';have SC:=Qaa (HS2.out q hlt');have LEq:=HEB.out q (by omega)
     have LE3 : (P2 ++ EBS T E q).length ≤ 200000:=by rw [List.length_append];omega
     obtain ⟨x,hx⟩ : ∃ x,x = E.getD q ([],0):=⟨_,rfl⟩;rw [← hx] at hc0 hc1 SC hmem;obtain ⟨xl,x0,x8⟩:=HX8.out x hmem;have PL:=Qaa (Qen _ T x.1 wr (HTS.out.past on) HRS.out (fun y hy => (HT64.out y hy).1) (HTM.out x hmem) (by rw [← HTL.out];omega));have hpl:=Qcj (HTM.out x hmem);rw [← HTL.out] at hpl;have hg10:=Qa5 (v:=PLC T x.1) (by omega);obtain ⟨p,hp⟩ : ∃ p,p = PLC T x.1:=⟨_,rfl⟩;rw [← hp] at PL hpl SC hg10
     have SC2 : Hid (P2 ++ EBS T E (q + 1) = ((P2 ++ EBS T E q) ++ gs p) ++ [x.2]):=by simp only [Hid];rw [SC.out];simp only [List.append_assoc]
     clear SC LEq;obtain ⟨Y,hY⟩ : ∃ Y,Y = P2 ++ EBS T E q:=⟨_,rfl⟩;rw [← hY] at own SC2 LE3;have B:=Qaa (Qbo _ Y (p : Int) wr (Bs.of_own (k:=.u8) own) (NoCap.of_own own) (by omega) (by omega) (by omega));rw [Int.toNat_natCast] at B;obtain ⟨Z,hZ⟩ : ∃ Z,Z = Y ++ gs p:=⟨_,rfl⟩
     have hZl : Z.length ≤ 200010:=by rw [hZ,List.length_append];omega
     rw [← hZ] at B SC2;have ON:=Qaa on;have HLT:=Qaa hlt';have HX:=Qaa hx
     have i1 : (q : Int) < (n : Int):=by omega
     have i0' : (0 : Int) ≤ (q : Int):=by omega
     have hsl:=on.size
     have hw : IntKind.u64.wrap (p : Int) = p:=by rw [IntKind.wrap_u64];omega
     have hw8 : IntKind.u8.wrap x.2 = x.2:=by rw [IntKind.wrap_u8];omega
     clear hx hY hZ own on hlt' hmem hp hg10;go_wp2_with fail;refine PL.out.mono ?_;rintro e w8 ⟨rfl,rfl⟩;go_wp2_with fail;refine B.out.mono ?_;rintro e w8 ⟨v8,rfl,own8,o8⟩;obtain ⟨k0',k1',k2',k3'⟩:=heap4 ((ON.out.same o8).heap K5.out (fun f => f));obtain ⟨b2,off2,cap2,e2,hd0,hd1⟩:=(E5.out.past (ON.out.same o8)).at q HLT.out;simp only [Value.slice.injEq,Option.some.injEq,Addr.mk.injEq] at e2;obtain ⟨⟨rfl,rfl,-⟩,-,rfl⟩:=e2;rw [← HX.out] at hd0 hd1;have own8':=Qal own8 hsl;have O8:=Qaa (ON.out.same o8);have s8:=O8.out.size;clear k0 k1 k2 k3 hc0 hc1 B PL
     go_wp2_with (first
      | (at_builtin;refine Qac _ rfl _ _ 22 rfl w5.heap.size 5 i0 (.int .u8 0) 1 Tryz.underlying22 hi hz0 hz1 hz2 rfl v8 Z.length _ rfl (own8'.alloc _) .u8 (.slice (some ⟨w8.heap.size,0,none⟩) 1 1) [x.2] rfl (Bs.litN .u8 w8 5 [x.2] _ _ rfl rfl) (NoCap.some _ _ _) (by unfold maxLen;simp;omega) (by simp;omega) (by simp;omega) ?_;intro v9 w9 own9 gr9 _ _)
      | fail)
     go_roundw
     case rel =>
      refine ⟨q + 1,by omega,by go_num,?_,(O8.out.alloc _).grown gr9 (fun j hj e => by have:=(own8'.lt j e).1;omega)⟩;rw [SC2.out,List.length_append,List.map_append];exact own9
     case measure => simp [intOf];omega
    ·obtain rfl : q = n:=by omega
     have LEq:=HEB.out q (by rw [HN.out];exact Nat.le_refl _)
     have LE3 : (P2 ++ EBS T E q).length ≤ 200000:=by rw [List.length_append];omega
     have OWN:=own;have B9:=R5.out.past on;have hsl:=on.size;have ON:=Qaa on;clear k0 k1 HT64 HRS HTM HX8 HS2 HEB HTS E5 K5 on own
     go_wp2_with (first
      | (at_builtin;refine Qac _ rfl _ _ 22 rfl w5.heap.size 5 i0 (.int .u8 0) 1 Tryz.underlying22 hi hz0 hz1 hz2 rfl _ (P2 ++ EBS T E q).length _ rfl OWN .u8 (.slice ar 32 rc) rt rfl B9 nr (by rw [HL12.out.2];unfold maxLen;omega) (by rw [HL12.out.2];omega) (by omega) ?_;intro v9 w9 own9 gr9 _ _)
      | fail)
     go_ret2;refine ⟨v9,rfl,?_⟩;have:=FIN.out v9 w9 ((P2 ++ EBS T E q) ++ rt) (by rw [List.length_append (bs:=rt),List.map_append (l₂:=rt)];exact own9) (ON.out.grown gr9 (fun j hj e => by have:=(OWN.lt j e).1;omega));rw [HP2.out,HTL.out] at this;exact this
end Go.Proofs.YtcpopagikbjimaaGreatDoor
