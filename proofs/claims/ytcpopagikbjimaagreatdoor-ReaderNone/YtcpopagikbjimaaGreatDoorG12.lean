import Derived.Test.YtcpopagikbjimaaGreatDoorG11
import Derived.Deep.Cut
import Derived.Test.YtcpopagikbjimaaGreatDoorG6
namespace Go.Proofs.YtcpopagikbjimaaGreatDoor
set_option maxHeartbeats 4000000
set_option maxRecDepth 100000
open Go.RowKit
section
open Go.Maps
theorem Tryz.sizeMf : (Tryz.prog.info? 44).map (·.size) = some 4:=by kernel_rfl
theorem Qag {W : World} {b : Nat} {x0 x1 x2 x3 : Value} (h : W.heap[b]? = some (.cells #[x0,x1,x2,x3] 44 (0,0))) : (loadVar 44 ⟨b,0,none⟩).run Tryz.prog W = .ok (.agg #[x0,x1,x2,x3]) W :=
 run_loadVar_row W b 44 44 _ (0,0) _ h Tryz.underlying44 rfl Tryz.sizeMf
theorem Qaq {W : World} {B : Nat} {x0 x1 x2 x3 : Value} {E : TypeId} (h : W.heap[B]? = some (.cells #[x0,x1,x2,x3] E (0,0))) : (W.cell? ⟨B,0,none⟩ = some x0 ∧ W.cell? ⟨B,1,none⟩ = some x1 ∧ W.cell? ⟨B,2,none⟩ = some x2 ∧ W.cell? ⟨B,3,none⟩ = some x3) ∧ (W.frozen? ⟨B,0,none⟩ = false ∧ W.frozen? ⟨B,1,none⟩ = false ∧ W.frozen? ⟨B,2,none⟩ = false ∧ W.frozen? ⟨B,3,none⟩ = false) :=
 ⟨⟨by simp [World.cell?,h],by simp [World.cell?,h],by simp [World.cell?,h],by simp [World.cell?,h]⟩,by simp [World.frozen?,h],by simp [World.frozen?,h],by simp [World.frozen?,h],by simp [World.frozen?,h]⟩
theorem put4 {W : World} {B : Nat} {x0 x1 x2 x3 : Value} {E : TypeId} (h : W.heap[B]? = some (.cells #[x0,x1,x2,x3] E (0,0))) (y0 y1 y2 y3 : Value) :
  ((((W.setCell ⟨B,0,none⟩ y0).setCell ⟨B,1,none⟩ y1).setCell ⟨B,2,none⟩ y2).setCell ⟨B,3,none⟩ y3).heap[B]? = some (.cells #[y0,y1,y2,y3] E (0,0)) ∧ Only (fun k => k = B) W ((((W.setCell ⟨B,0,none⟩ y0).setCell ⟨B,1,none⟩ y1).setCell ⟨B,2,none⟩ y2).setCell ⟨B,3,none⟩ y3):=by
 have g1:=heap_setCell_same W B 0 _ _ y0 h;have g2:=heap_setCell_same _ B 1 _ _ y1 g1;have g3:=heap_setCell_same _ B 2 _ _ y2 g2;have g4:=heap_setCell_same _ B 3 _ _ y3 g3;exact ⟨by simpa using g4,((((Only.refl (fun k => k = B) W).setCell (p:=⟨B,0,none⟩) (fun _ => rfl) _).setCell (p:=⟨B,1,none⟩) (fun _ => rfl) _).setCell (p:=⟨B,2,none⟩) (fun _ => rfl) _).setCell (p:=⟨B,3,none⟩) (fun _ => rfl) _⟩
theorem Qby {n : Nat} {ys : List Int} (h : ys.length < n) : Qai (n : Int) ys = ([],0,2):=by unfold Qai;rw [if_neg (by omega),if_pos (by omega)]
theorem Qbk {n : Nat} {ys : List Int} (h : ¬ ys.length < n) : Qai (n : Int) ys = (ys.take n,n,0):=by unfold Qai;rw [if_neg (by omega),if_neg (by omega),Int.toNat_natCast]
theorem QdY {ys : List Int} (h : ys.length < 8) : Qbh 8 ys = (0,0,2):=by unfold Qbh;rw [if_neg (by omega),if_pos (by omega)]
theorem QcD {ys : List Int} (h : ¬ ys.length < 8) : Qbh 8 ys = ((num (ys.take 8) : Int),8,0):=by unfold Qbh;rw [if_neg (by omega),if_neg (by omega)];rfl
theorem QjP {x : List Int} (h : U8 x) : ((strOfNums x).toList == [67,83,75,49]) = decide (x = MHD):=by
 rw [show ([67,83,75,49] : List UInt8) = (⟨#[67,83,75,49]⟩ : ByteArray).toList by rw [ByteArray.toList_eq],eq_sb,sb_of h];rfl
def RMan (w : World) (R : Nat) (ys : List Int) (e : Ending) (w' : World) : Prop :=
 Only (fun k => k = R) w w' ∧ ((∃ c,c ≠ 0 ∧ MDEC ys = .error c ∧ e = mpan c) ∨ ∃ m x vp ve vr,MDEC ys = .ok m ∧ e = .returned x ∧ Mf w' x m vp ve vr ∧ NoCap vp ∧ NoCap vr ∧ (∀ k,vp.ownBlock = some k → w.heap.size ≤ k) ∧ (∀ k,vr.ownBlock = some k → w.heap.size ≤ k) ∧ (∀ k,ve.ownBlock = some k → w.heap.size ≤ k))
theorem QgC {w : World} {R : Nat} {v : Value} {ys : List Int} (h : CurAt 111 w R v ys) (hR : R < w.heap.size) (hvb : ∀ j,v.ownBlock = some j → j < w.heap.size) :
  Calls Tryz.prog 101 #[.pointer (some ⟨R,0,none⟩)] w (RMan w R ys):=by
 obtain ⟨K,hK⟩ : ∃ K,K = RMan w R ys:=⟨_,rfl⟩;rw [← hK];have HK:=Qaa hK;have HV:=Qaa hvb
 have bad : Hid (∀ c w',c ≠ 0 → MDEC ys = .error c → Only (fun j => j = R) w w' → K (.panicked [{ v:=.iface 32 (.int .i64 c),recovered:=false }]) w'):=by
  intro c w' hc he ho;rw [HK.out];exact ⟨ho,.inl ⟨c,hc,he,rfl⟩⟩
 have oa : Only (fun j => j = R) w (w.alloc (.cells #[.int .u64 0,.slice none 0 0,.slice none 0 0,.slice none 0 0] 44)):=(Only.refl _ _).alloc _;have c0:=h.keep (S:=fun _ => False) ((Only.refl _ w).alloc (.cells #[.int .u64 0,.slice none 0 0,.slice none 0 0,.slice none 0 0] 44)) (fun f => f) (fun _ _ f => f);have G0:=Qaa (heap_alloc_new w (.cells #[.int .u64 0,.slice none 0 0,.slice none 0 0,.slice none 0 0] 44));have A:=Qaa (Qcu c0 ((4 : Nat) : Int));rw [show ((4 : Nat) : Int) = 4 from rfl] at A;have hrng:=h.rng;have hylen:=h.len;have OA:=Qaa oa;clear h hvb hK oa c0;go_enter Tryz.func101,Tryz.ntmps101;go_wp2_with fail;refine A.out.mono ?_;rintro e w1 ⟨v1,rfl,b1,nc1,nb1,vc1,c1,ob1,o1⟩
 have hs1 : w.heap.size + 1 ≤ w1.heap.size:=by have:=o1.size;simpa using this
 have O1:=Qaa (OA.out.trans o1 (fun i _ e => e));have G1:=Qaa (o1.heap G0.out (fun e => by omega));clear A o1 OA G0 nb1 nc1
 by_cases h4 : ys.length < 4
 ·rw [show (4 : Int) = ((4 : Nat) : Int) from rfl,Qby h4]
  have FN:=Qaa (bad.out 2 w1 (by decide) (M1 (Qfp h4)) O1.out);clear b1 c1;go_wp2_with fail;refine (QbT v1 2 w1 (by decide)).mono ?_;rintro e w' ⟨rfl,rfl⟩;unfold mpan;go_wp2;exact ⟨rfl,FN.out⟩
 have e4:=Qbk (n:=4) h4;rw [show ((4 : Nat) : Int) = 4 from rfl] at e4;rw [e4] at b1 c1;rw [e4];have hcv:=Qa4 w1 v1 _ b1;have hme:=QjP (x:=ys.take 4) (fun y hy => hrng y (List.mem_of_mem_take hy));generalize hx4 : ys.take 4 = x4 at *;have HX4:=Qaa hx4;have C1:=Qaa (And.intro c1 ob1);clear e4 b1 c1 ob1 hx4;go_wp2_with fail;refine (QbS v1 w1).mono ?_;rintro e w' ⟨rfl,rfl⟩
 by_cases hm4 : x4 = MHD
 ·rw [decide_eq_true hm4] at hme
  have H1:=Qaa (hd_ok h4 (HX4.out.trans hm4));clear HX4 hm4 h4;go_wp2_with fail;refine (Qaj 3 w1).mono ?_;rintro e w' ⟨rfl,rfl⟩;have B:=Qaa (Qgr C1.out.1 8);obtain ⟨y1,hy1⟩ : ∃ y1,y1 = ys.drop 4:=⟨_,rfl⟩
  have HR1 : ∀ y ∈ y1,0 ≤ y ∧ y ≤ 255:=fun y hy => hrng y (by rw [hy1] at hy;exact List.mem_of_mem_drop hy)
  rw [← hy1] at B H1;clear hcv hme hy1 hrng;go_wp2_with fail;refine B.out.mono ?_;rintro e w2 ⟨rfl,vc2,c2,ob2,o2⟩;have hs2:=o2.size;have O2:=Qaa (O1.out.trans o2 (fun i _ e => e));have G2:=Qaa (o2.heap G1.out (fun e => by omega));have C2:=Qaa (And.intro c2 (ob2.trans C1.out.2));clear B o2 c2 ob2 C1 O1 G1
  by_cases h8 : y1.length < 8
  ·rw [QdY h8]
   have FN:=Qaa (bad.out 2 w2 (by decide) (M2 H1.out (QdZ h8)) O2.out);clear C2;go_wp2_with fail;refine (Qcz _ 2 w2 (by decide)).mono ?_;rintro e w' ⟨rfl,rfl⟩;unfold mpan;go_wp2;exact ⟨rfl,FN.out⟩
  rw [QcD h8] at C2;rw [QcD h8];go_wp2_with fail;refine (Qbv _ w2).mono ?_;rintro e w' ⟨rfl,rfl⟩
  by_cases hv : num (y1.take 8) = 18446744073709551615
  ·have d1 : ((num (y1.take 8) : Int) != 18446744073709551615) = false:=by rw [hv];rfl
   have FN:=Qaa (bad.out 3 w2 (by decide) (M2 H1.out (Qjn h8 hv)) O2.out);clear C2 hv;go_wp2_with fail;refine (Qao 3 w2).mono ?_;rintro e w' ⟨rfl,rfl⟩;unfold mpan;go_wp2;exact ⟨rfl,FN.out⟩
  have d1 : ((num (y1.take 8) : Int) != 18446744073709551615) = true:=by simp;omega
  have H2:=Qaa (Qjo h8 hv);generalize num (y1.take 8) = ver at *;obtain ⟨y2,hy2⟩ : ∃ y2,y2 = y1.drop 8:=⟨_,rfl⟩
  have HR2 : ∀ y ∈ y2,0 ≤ y ∧ y ≤ 255:=fun y hy => HR1 y (by rw [hy2] at hy;exact List.mem_of_mem_drop hy)
  have C2' : Hid (CurAt 111 w2 R vc2 y2 ∧ vc2.ownBlock = v.ownBlock):=by rw [hy2];exact C2.out
  rw [← hy2] at H2;clear C2 hy2 HR1 h8 hv;go_wp2_with fail;refine (Qaj 3 w2).mono ?_;rintro e w' ⟨rfl,rfl⟩;have B:=Qaa (Qcu C2'.out.1 ((32 : Nat) : Int));rw [show ((32 : Nat) : Int) = 32 from rfl] at B;go_wp2_with fail;refine B.out.mono ?_;rintro e w3 ⟨vp,rfl,bp,ncp,nbp,vc3,c3,ob3,o3⟩;have hs3b:=o3.size;have O3:=Qaa (O2.out.trans o3 (fun i _ e => e));have G3:=Qaa (o3.heap G2.out (fun e => by omega));clear B o3 G2
  by_cases h32 : y2.length < 32
  ·have e32:=Qby h32
   rw [show ((32 : Nat) : Int) = 32 from rfl] at e32;rw [e32];have FN:=Qaa (bad.out 2 w3 (by decide) (M3 H1.out H2.out (Qa3 h32)) O3.out);clear bp c3;go_wp2_with fail;refine (QbT vp 2 w3 (by decide)).mono ?_;rintro e w' ⟨rfl,rfl⟩;unfold mpan;go_wp2;exact ⟨rfl,FN.out⟩
  have e32:=Qbk h32;rw [show ((32 : Nat) : Int) = 32 from rfl] at e32;rw [e32] at bp c3;rw [e32];have H3:=Qaa (QaX h32);obtain ⟨y3,hy3⟩ : ∃ y3,y3 = y2.drop 32:=⟨_,rfl⟩
  have HR3 : ∀ y ∈ y3,0 ≤ y ∧ y ≤ 255:=fun y hy => HR2 y (by rw [hy3] at hy;exact List.mem_of_mem_drop hy)
  rw [← hy3] at H3
  have c3' : CurAt 111 w3 R vc3 y3:=by rw [hy3];exact c3
  generalize y2.take 32 = prv at *;have hs3:=O3.out.size;have ob3':=ob3.trans C2'.out.2;have hw2:=O2.out.size;have D:=Qaa (QcB c3' (by omega) (fun j hj => by rw [ob3'] at hj;have:=HV.out j hj;omega));obtain ⟨apv,pcv,epv⟩:=bp.len;subst epv;have PV:=Qaa (And.intro bp (And.intro ncp nbp));have OB3:=Qaa ob3';clear e32 c3 c3' bp ncp nbp ob3 ob3' hy3 h32 C2' HR2 O2;go_wp2_with fail;refine (QbS (.slice apv prv.length pcv) w3).mono ?_;rintro e w' ⟨rfl,rfl⟩;go_wp2_with fail;refine D.out.mono ?_;rintro e w4 ⟨o4,⟨c,hc0,hr,rfl⟩ | ⟨d,y4,hr,⟨vt,rfl,rowt,hdl,hda⟩,vc4,c4,ob4⟩⟩
  ·have FN:=Qaa (bad.out c w4 hc0 (M4 H1.out H2.out H3.out hr) (O3.out.trans o4 (fun i _ e => e)))
   clear D o4 hr;unfold mpan;go_wp2;exact ⟨rfl,FN.out⟩
  have H4:=Qaa hr;have RS:=Qaa (QjQ HR3 hr);have O4:=Qaa (O3.out.trans o4 (fun i _ e => e));have G4:=Qaa (o4.heap G3.out (fun e => by omega));have hs4:=o4.size;have st4:=Sts.of_own rowt;have PV4 : Hid (Bs .u8 w4 (.slice apv prv.length pcv) prv):=PV.out.1.keep o4 (fun j hj e => by have:=PV.out.2.2 j hj;omega);have E5:=Qaa (QcC (vt:=vt) c4 (by omega) (fun j hj => by rw [ob4,OB3.out] at hj;have:=HV.out j hj;omega) st4 (fun j hj e => by have:=(rowt.lt j hj).1;omega) hdl);have RT:=Qaa rowt;have HDA:=Qaa hda;have OB4:=Qaa (ob4.trans OB3.out);clear D o4 hr rowt c4 ob4 st4 hda G3 OB3;go_wp2_with fail;refine E5.out.mono ?_;rintro e w5 ⟨o5,⟨c,hc0,hr,rfl⟩ | ⟨a,y5,hr,⟨ve,rfl,rowe,hal,haa⟩,vc5,c5,ob5⟩⟩
  ·have FN:=Qaa (bad.out c w5 hc0 (M5 H1.out H2.out H3.out H4.out hr) (O4.out.trans o5 (fun i _ e => e)))
   clear E5 o5 hr;unfold mpan;go_wp2;exact ⟨rfl,FN.out⟩
  have H5:=Qaa hr;have O5:=Qaa (O4.out.trans o5 (fun i _ e => e));have G5:=Qaa (o5.heap G4.out (fun e => by omega));have hs5:=o5.size;have PV5 : Hid (Bs .u8 w5 (.slice apv prv.length pcv) prv):=PV4.out.keep o5 (fun j hj e => by have:=PV.out.2.2 j hj;omega);have B:=Qaa (Qcu c5 ((32 : Nat) : Int));rw [show ((32 : Nat) : Int) = 32 from rfl] at B;have RE:=Qaa rowe;have HAA:=Qaa haa;have RT5:=Qaa (o5.own RT.out (fun j hj e => by have:=(RT.out.lt j hj).1;omega));clear E5 o5 hr rowe ob5 haa G4 PV4 RT;go_wp2_with fail;refine B.out.mono ?_;rintro e w6 ⟨vr,rfl,br,ncr,nbr,vc6,c6,ob6,o6⟩;have O6:=Qaa (O5.out.trans o6 (fun i _ e => e));have G6:=Qaa (o6.heap G5.out (fun e => by omega));have hs6:=o6.size;have PV6 : Hid (Bs .u8 w6 (.slice apv prv.length pcv) prv):=PV5.out.keep o6 (fun j hj e => by have:=PV.out.2.2 j hj;omega);have RE6:=Qaa (o6.own RE.out (fun j hj e => by have:=(RE.out.lt j hj).1;omega));have RT6:=Qaa (o6.own RT5.out (fun j hj e => by have:=(RT5.out.lt j hj).1;omega));clear B o6 ob6 c5 G5 PV5 RE RT5
  by_cases h32 : y5.length < 32
  ·have e32:=Qby h32
   rw [show ((32 : Nat) : Int) = 32 from rfl] at e32;rw [e32];have FN:=Qaa (bad.out 2 w6 (by decide) (M6 H1.out H2.out H3.out H4.out H5.out (Qa3 h32)) O6.out);clear br c6;go_wp2_with fail;refine (QbT vr 2 w6 (by decide)).mono ?_;rintro e w' ⟨rfl,rfl⟩;unfold mpan;go_wp2;exact ⟨rfl,FN.out⟩
  have e32:=Qbk h32;rw [show ((32 : Nat) : Int) = 32 from rfl] at e32;rw [e32] at br c6;rw [e32];have H6:=Qaa (Mall H1.out H2.out H3.out H4.out H5.out (QaX h32));generalize y5.take 32 = rt at *;obtain ⟨y6,hy6⟩ : ∃ y6,y6 = y5.drop 32:=⟨_,rfl⟩;rw [← hy6] at H6
  have c6' : CurAt 111 w6 R vc6 y6:=by rw [hy6];exact c6
  have LL:=Qaa (QhX c6');obtain ⟨arv,rcv,erv⟩:=br.len;subst erv;have RV:=Qaa (And.intro br (And.intro ncr nbr));clear e32 c6 c6' br ncr nbr hy6 h32 H1 H2 H3 H5;go_wp2_with fail;refine (QbS (.slice arv rt.length rcv) w6).mono ?_;rintro e w' ⟨rfl,rfl⟩;go_wp2_with fail;refine LL.out.mono ?_;rintro e w' ⟨rfl,rfl⟩;clear LL
  by_cases h6 : y6 = []
  ·have d6 : ((y6.length : Int) == 0) = true:=by rw [h6];rfl
   obtain ⟨ev,cv,ee⟩:=(Ens.of_own (s:=a.2.map (EOF d.2)) (by rw [List.length_map];exact RE6.out)).len;rw [List.length_map] at ee;subst ee
   have TO:=Qaa (Qdn (.slice ev a.2.length cv) (a.2.map (EOF d.2)) w6 (Ens.of_own (by rw [List.length_map];exact RE6.out)) (fun e he => by
    obtain ⟨t,ht,rfl⟩:=List.mem_map.1 he
    exact (HDA.out _ (Qat (HAA.out t ht))).1) (by rw [List.length_map];exact hal) (fun e he => by
    obtain ⟨t,ht,rfl⟩:=List.mem_map.1 he;have:=(HDA.out _ (Qat (d:=[]) (HAA.out t ht))).2
    unfold maxLen EOF;simp only;omega))
   go_wp2_with fail;refine (Qaj 3 w6).mono ?_;rintro e w' ⟨rfl,rfl⟩;go_wp2_with fail;refine TO.out.mono ?_;rintro e w7 ⟨rfl,⟨Dm,hmap,hT⟩,o7⟩;obtain ⟨sk1,sk2,sk3⟩:=QeR Tryz.underlying9 hmap
   have hTk : ((a.2.map (EOF d.2)).map Prod.fst).take (a.2.map (EOF d.2)).length = (a.2.map (EOF d.2)).map Prod.fst:=by
    have : ((a.2.map (EOF d.2)).map Prod.fst).take ((a.2.map (EOF d.2)).map Prod.fst).length = _:=List.take_length
    rwa [List.length_map] at this
   rw [hTk] at hT
   have SZ:=Qiv (fun x hx => by
    obtain ⟨e,he,rfl⟩:=List.mem_map.1 hx;obtain ⟨t,ht,rfl⟩:=List.mem_map.1 he
    exact (HDA.out _ (Qat (HAA.out t ht))).1) hT sk1 sk2 sk3
   have UI:=Qid RS.out HAA.out;rw [← SZ] at UI
   have hlen:=fun ty => hmap.len Tryz.underlying165 ty
   obtain ⟨at1,ct1,et1⟩:=(Sts.of_own RT6.out).len;generalize Maps.size Dm = sz at *;have O7:=Qaa (O6.out.trans o7 (fun i _ f => f.elim));have G7:=o7.heap G6.out (fun f => f);clear TO sk1 sk2 sk3 hT hTk SZ hmap
   by_cases hu : sz = d.2.length
   ·have hU:=UI.1 hu
    have d7 : ((sz : Int) == (d.2.length : Int)) = true:=by rw [hu];simp
    obtain ⟨⟨k0,k1,k2,k3⟩,f0,f1,f2,f3⟩:=Qaq G7;subst et1
    have FIN : Hid (∀ x,x = Value.agg #[.int .u64 (ver : Nat),(.slice apv prv.length pcv),.slice ev a.2.length cv,(.slice arv rt.length rcv)] → ∀ w',w' = ((((w7.setCell ⟨w.heap.size,0,none⟩ (.int .u64 ver)).setCell ⟨w.heap.size,1,none⟩ (.slice apv prv.length pcv)).setCell ⟨w.heap.size,2,none⟩ (.slice ev a.2.length cv)).setCell ⟨w.heap.size,3,none⟩ (.slice arv rt.length rcv)) → (loadVar 44 ⟨w.heap.size,0,none⟩).run Tryz.prog w' = .ok x w' ∧ RMan w R ys (.returned x) w'):=by
     intro x hx w' hw';obtain ⟨g,og⟩:=put4 G7 (.int .u64 ver) (.slice apv prv.length pcv) (.slice ev a.2.length cv) (.slice arv rt.length rcv);rw [← hw'] at g og;subst hx;have o7g : Only (fun k => k = w.heap.size) w6 w':=(o7.mono (fun _ _ f => f.elim)).trans og (fun i _ e => e);refine ⟨Qag g,O7.out.trans og (fun i hi e => by omega),.inr ⟨_,_,(.slice apv prv.length pcv),.slice ev a.2.length cv,(.slice arv rt.length rcv),M9 H6.out h6 hU,rfl,⟨rfl,PV6.out.keep o7g (fun j hj e => by have:=PV.out.2.2 j hj;omega),?_,RV.out.1.keep o7g (fun j hj e => by have:=RV.out.2.2 j hj;omega)⟩,PV.out.2.1,RV.out.2.1,fun k hk => by have:=PV.out.2.2 k hk;omega,fun k hk => by have:=RV.out.2.2 k hk;omega,fun k hk => by have:=(RE6.out.lt k hk).1;omega⟩⟩;exact (Ens.of_own (s:=a.2.map (EOF d.2)) (by rw [List.length_map];exact RE6.out)).keep o7g (fun j hj e => by have:=(RE6.out.lt j hj).1;omega)
    have hKK:=HK.out;clear HK bad UI hu hU O7 RE6 RT6 PV6 RV PV G7;subst hKK
    go_wp2_with (first
     | (go_at_call 134;refine (Qaj 3 w7).mono ?_;rintro e w' ⟨rfl,rfl⟩)
     | fail)
    obtain ⟨fl,fr⟩:=FIN.out _ rfl _ rfl;exact bodyPost_ret (QbI Tryz.results101 _ _ rfl fl) rfl fr
   ·have d7 : ((sz : Int) == (d.2.length : Int)) = false:=by rw [beq_eq_false_iff_ne];omega
    have FN:=Qaa (bad.out 3 w7 (by decide) (M8 H6.out h6 (fun q => hu (UI.2 q))) O7.out);subst et1;clear bad UI hu O7;go_wp2_with fail;refine (Qao 3 w7).mono ?_;rintro e w' ⟨rfl,rfl⟩;unfold mpan;go_wp2;exact ⟨rfl,FN.out⟩
  ·have d6 : ((y6.length : Int) == 0) = false:=by
    rw [beq_eq_false_iff_ne];intro e;exact h6 (List.eq_nil_of_length_eq_zero (by omega))
   have FN:=Qaa (bad.out 3 w6 (by decide) (M7 H6.out h6) O6.out);clear bad;go_wp2_with fail;refine (Qao 3 w6).mono ?_;rintro e w' ⟨rfl,rfl⟩;unfold mpan;go_wp2;exact ⟨rfl,FN.out⟩
 ·rw [decide_eq_false hm4] at hme
  have FN:=Qaa (bad.out 3 w1 (by decide) (M1 (hd_no h4 (fun e => hm4 (HX4.out.symm.trans e)))) O1.out);clear bad HX4 hm4;go_wp2_with fail;refine (Qao 3 w1).mono ?_;rintro e w' ⟨rfl,rfl⟩;unfold mpan;go_wp2;exact ⟨rfl,FN.out⟩
end
def MDv (ys : List Int) : MAN:=match MDEC ys with
 | .ok m => m
 | .error _ => ⟨0,[],[],[]⟩
def MDe (ys : List Int) : Int:=match MDEC ys with
 | .ok _ => 0
 | .error c => c
theorem MD_ok {ys : List Int} {m : MAN} (h : MDEC ys = .ok m) : MDv ys = m ∧ MDe ys = 0:=by unfold MDv MDe;rw [h];exact ⟨rfl,rfl⟩
theorem Qfo {ys : List Int} {c : Int} (h : MDEC ys = .error c) : MDv ys = ⟨0,[],[],[]⟩ ∧ MDe ys = c:=by unfold MDv MDe;rw [h];exact ⟨rfl,rfl⟩
abbrev Qjk : Value:=.agg #[.int .u64 0,.slice none 0 0,.slice none 0 0,.slice none 0 0]
structure Mnw (w w' : World) (x : Value) (m : MAN) (vp ve vr : Value) : Prop where
 mf : Mf w' x m vp ve vr
 np : NoCap vp
 nr : NoCap vr
 bp : ∀ k,vp.ownBlock = some k → w.heap.size ≤ k
 be : ∀ k,ve.ownBlock = some k → w.heap.size ≤ k
 br : ∀ k,vr.ownBlock = some k → w.heap.size ≤ k
theorem Mnw.zero (w w' : World) : Mnw w w' Qjk ⟨0,[],[],[]⟩ (.slice none 0 0) (.slice none 0 0) (.slice none 0 0) :=
 ⟨⟨rfl,Bs.nil _ _,Ens.nil _,Bs.nil _ _⟩,NoCap.nil,NoCap.nil,QbL _,QbL _,QbL _⟩
theorem Mnw.keep {w w' w'' : World} {x : Value} {m : MAN} {vp ve vr : Value} (h : Mnw w w' x m vp ve vr) {B : Nat} (o : Only (fun k => k = B) w' w'') (hB : B < w.heap.size) : Mnw w w'' x m vp ve vr :=
 ⟨⟨h.mf.form,h.mf.prev.keep o (fun k hk e => by have:=h.bp k hk;omega),h.mf.es.keep o (fun k hk e => by have:=h.be k hk;omega),h.mf.root.keep o (fun k hk e => by have:=h.br k hk;omega)⟩,h.np,h.nr,h.bp,h.be,h.br⟩
theorem Mnw.low {w0 w w' : World} {x : Value} {m : MAN} {vp ve vr : Value} (h : Mnw w w' x m vp ve vr) (hl : w0.heap.size ≤ w.heap.size) : Mnw w0 w' x m vp ve vr :=
 ⟨h.mf,h.np,h.nr,fun k hk => Nat.le_trans hl (h.bp k hk),fun k hk => Nat.le_trans hl (h.be k hk),fun k hk => Nat.le_trans hl (h.br k hk)⟩
theorem Qia (B : Nat) (v : Value) (ys : List Int) (w : World) (hB : w.heap[B]? = some (.cells #[v] 22 (0,0))) (h : Bs .u8 w v ys) (hr : U8 ys) (hl : ys.length ≤ 1000000000000) :
  Calls Tryz.prog 100 #[.pointer (some ⟨B,0,none⟩)] w fun e w' => Only (fun _ => False) w w' ∧ ((MDe ys ≠ 0 ∧ MDv ys = ⟨0,[],[],[]⟩ ∧ e = mpan (MDe ys)) ∨ (MDe ys = 0 ∧ ∃ x vp ve vr,e = .returned x ∧ Mnw w w' x (MDv ys) vp ve vr)):=by
 obtain ⟨cB,_⟩:=Qa6 hB
 have cB1 : (w.alloc (.cells #[.int .u64 0,.slice none 0 0,.slice none 0 0,.slice none 0 0] 44)).cell? ⟨B,0,none⟩ = some v:=by
  have:=Qaf (o:=.cells #[.int .u64 0,.slice none 0 0,.slice none 0 0,.slice none 0 0] 44) hB;simp [World.cell?,this]
 have oa : Only (fun _ => False) w (w.alloc (.cells #[.int .u64 0,.slice none 0 0,.slice none 0 0,.slice none 0 0] 44)):=(Only.refl _ _).alloc _;have A:=Qaa (Qjf v ys _ (h.past oa) hr hl);have G0:=Qaa (heap_alloc_new w (.cells #[.int .u64 0,.slice none 0 0,.slice none 0 0,.slice none 0 0] 44));have OA:=Qaa oa;obtain ⟨av,cv,ev⟩:=h.len;subst ev;clear h hB cB oa;go_enter Tryz.func100,Tryz.ntmps100;go_wp2_with fail;refine A.out.mono ?_;rintro e w1 ⟨R,v',rfl,c1,o1,hR1,hR2,hvk⟩
 have hR1' : w.heap.size + 1 ≤ R:=by simpa using hR1
 have RD:=Qaa (QgC c1 hR2 (fun j hj => (hvk j hj).2));have O1:=Qaa (OA.out.same o1);have G1:=Qaa (o1.heap G0.out (fun f => f));have hs1:=O1.out.size;clear A c1 o1 hvk hR1 G0 OA;go_wp2_with fail;refine RD.out.mono ?_;rintro e w2 ⟨o2,⟨c,hc0,hd,rfl⟩ | ⟨m,x,vp,ve,vr,hd,rfl,hmf,np,nr,bp,br,be⟩⟩
 ·obtain ⟨e1,e2⟩:=Qfo hd
  have F:=Qaa (And.intro (O1.out.trans o2 (fun i hi e => by omega)) (And.intro e1 e2));clear RD o2 hd e1 e2;unfold mpan;go_wp2;refine ⟨rfl,F.out.1,.inl ⟨by rw [F.out.2.2];exact hc0,F.out.2.1,by rw [F.out.2.2];rfl⟩⟩
 ·obtain ⟨e1,e2⟩:=MD_ok hd
  have G2:=o2.heap G1.out (fun e => by omega);obtain ⟨⟨k0,k1,k2,k3⟩,f0,f1,f2,f3⟩:=Qaq G2;obtain ⟨ap,pc,ep⟩:=hmf.prev.len;obtain ⟨ae,ec,ee⟩:=hmf.es.len;obtain ⟨ar,rc,er⟩:=hmf.root.len;subst ep ee er;have hx:=hmf.form;subst hx;obtain ⟨g,og⟩:=put4 G2 (.int .u64 m.ver) (.slice ap m.prev.length pc) (.slice ae m.es.length ec) (.slice ar m.root.length rc)
  have F:=Qaa (And.intro (Qag g) (And.intro ((O1.out.trans o2 (fun i hi e => by omega)).trans og (fun i hi e => by omega)) (show Mnw w _ _ m _ _ _ from
   ⟨⟨rfl,hmf.prev.keep og (fun k hk e => by have:=bp k hk;omega),hmf.es.keep og (fun k hk e => by have:=be k hk;omega),hmf.root.keep og (fun k hk e => by have:=br k hk;omega)⟩,np,nr,fun k hk => by have:=bp k hk;omega,fun k hk => by have:=be k hk;omega,fun k hk => by have:=br k hk;omega⟩)))
  have ME:=Qaa (And.intro e1 e2);clear RD o2 hd e1 e2 hmf np nr bp br be g og G2;go_wp2;refine bodyPost_ret (QbI Tryz.results100 _ _ rfl F.out.1) rfl ?_;refine ⟨F.out.2.1,.inr ⟨ME.out.2,_,.slice ap m.prev.length pc,.slice ae m.es.length ec,.slice ar m.root.length rc,rfl,?_⟩⟩;rw [ME.out.1];exact F.out.2.2
theorem QgD (q : Nat) (w : World) :
  CallsD Tryz.prog 132 #[.pointer (some ⟨q,0,none⟩)] .returning w fun e u' w' => e = .returned (.tuple #[]) ∧ u' = .returning ∧ w = w':=by
 refine callsD_of_wpS Tryz.func132 rfl fun c₀ cs hu => ?_
 apply wpS_seq
 apply wpS_region
 simp [wpOpsS,go_sem,recoverD,hu,Tryz.ntmps132,Exit.thenS];refine wpS_of_wp ?_;go_wp2
 cases c₀
 simp_all [bodyPostS,results,Tryz.results132]
theorem Qib (q : Nat) (c : Int) (older : List PanicEntry) (w : World) (y : Value) (hq : w.cell? ⟨q,0,none⟩ = some y) (fq : w.frozen? ⟨q,0,none⟩ = false) :
  CallsD Tryz.prog 132 #[.pointer (some ⟨q,0,none⟩)] (.panicking ({ v:=.iface 32 (.int .i64 c),recovered:=false } :: older)) w fun e u' w' =>
   e = .returned (.tuple #[]) ∧ u' = .panicking ({ v:=.iface 32 (.int .i64 c),recovered:=true } :: older) ∧ w' = w.setCell ⟨q,0,none⟩ (.int .i64 c):=by
 have hta : ∀ (W : World),(Instr.typeAssert (.iface 32 (.int .i64 c)) 20 32 true).run Tryz.prog W = .ok (.tuple #[.int .i64 c,.bool true]) W:=fun _ => by kernel_rfl
 refine callsD_of_wpS Tryz.func132 rfl fun c₀ cs hu => ?_
 apply wpS_seq
 apply wpS_region
 simp [wpOpsS,go_sem,recoverD,hu,Tryz.ntmps132,Exit.thenS];refine wpS_of_wp ?_;go_wp2;simp [bodyPostS,results,Tryz.results132]
theorem QcE {P : Program} {fn : Func} {p q : Tmp} {ty ty2 : TypeId} (h : fn.results = #[.cell p ty,.cell q ty2]) (tmps : Array Value) (w : World) {a b : Addr} {v1 v2 : Value}
  (hp : tmps.getD p undef = .pointer (some a)) (hq : tmps.getD q undef = .pointer (some b)) (h1 : (loadVar ty a).run P w = .ok v1 w) (h2 : (loadVar ty2 b).run P w = .ok v2 w) :
  (results fn tmps).run P w = .ok (.tuple #[v1,v2]) w:=by
 have hp' : tmps[p]?.getD undef = .pointer (some a):=by simpa using hp
 have hq' : tmps[q]?.getD undef = .pointer (some b):=by simpa using hq
 simp [results,h,hp',hq',asAddr,h1,h2]
theorem Qau {P : Program} {fn : Func} {p q : Tmp} {ty : TypeId} (h : fn.results = #[.cell p ty,.tmp q]) (tmps : Array Value) (w : World) {a : Addr} {v1 v2 : Value}
  (hp : tmps.getD p undef = .pointer (some a)) (hq : tmps.getD q undef = v2) (h1 : (loadVar ty a).run P w = .ok v1 w) :
  (results fn tmps).run P w = .ok (.tuple #[v1,v2]) w:=by
 have hp' : tmps[p]?.getD undef = .pointer (some a):=by simpa using hp
 have hq' : tmps[q]?.getD undef = v2:=by simpa using hq
 simp [results,h,hp',hq',asAddr,h1]
theorem QcF {W : World} {b : Nat} {c : Int} (h : W.heap[b]? = some (.cells #[.int .i64 c] 32 (0,0))) : (loadVar 32 ⟨b,0,none⟩).run Tryz.prog W = .ok (.int .i64 c) W:=by
 have hc : W.cell? ⟨b,0,none⟩ = some (.int .i64 c):=by simp [World.cell?,h]
 simp [go_sem,hc]
theorem Qic (B : Nat) (v : Value) (ys : List Int) (w : World) (hB : w.heap[B]? = some (.cells #[v] 22 (0,0))) (h : Bs .u8 w v ys) (hr : U8 ys) (hl : ys.length ≤ 1000000000000) :
  Calls Tryz.prog 99 #[.func (.func 100) #[] #[.pointer (some ⟨B,0,none⟩)]] w fun e w' => ∃ x vp ve vr,e = .returned (.tuple #[x,.int .i64 (MDe ys)]) ∧ Mnw w w' x (MDv ys) vp ve vr ∧ Only (fun _ => False) w w':=by
 have hmf : ∀ (fn : Fn) (first cap : Array Value) (w : World),(Instr.makeFunc fn first cap).run Tryz.prog w = .ok (.func fn first cap) w:=fun _ _ _ _ => rfl
 have oa : Only (fun _ => False) w ((w.alloc (.cells #[.int .u64 0,.slice none 0 0,.slice none 0 0,.slice none 0 0] 44)).alloc (.cells #[.int .i64 0] 32)):=((Only.refl _ _).alloc _).alloc _;have RD:=Qaa (Qia B v ys _ (oa.heap hB (fun f => f)) (h.past oa) hr hl);have g0:=Qaf (o:=.cells #[.int .i64 0] 32) (heap_alloc_new w (.cells #[.int .u64 0,.slice none 0 0,.slice none 0 0,.slice none 0 0] 44));have g1:=Qak (W:=w.alloc (.cells #[.int .u64 0,.slice none 0 0,.slice none 0 0,.slice none 0 0] 44)) (o:=.cells #[.int .i64 0] 32) (k:=w.heap.size + 1) (by simp);have OA:=Qaa oa;obtain ⟨c,hc⟩ : ∃ c,c = MDe ys:=⟨_,rfl⟩;obtain ⟨m,hm⟩ : ∃ m,m = MDv ys:=⟨_,rfl⟩;rw [← hc,← hm] at RD;rw [← hc,← hm];clear hc hm;have G0:=Qaa g0;have G1:=Qaa g1;clear h hB oa g0 g1
 go_enter_defers Tryz.func99,Tryz.ntmps99
 go_wp2_with fail;refine RD.out.mono ?_;rintro e w2 ⟨o2,hh⟩;have K0:=o2.heap G0.out (fun f => f);have K1:=o2.heap G1.out (fun f => f);have O2:=Qaa (OA.out.same o2);have hs2:=o2.size;clear o2 RD G0 G1 OA
 rcases hh with ⟨he,hm,rfl⟩ | ⟨he,x,vp,ve,vr,rfl,mn⟩
 ·obtain ⟨p1,p2⟩:=Qa6 K1
  have o3 : Only (fun k => k = w.heap.size + 1) w2 (w2.setCell ⟨w.heap.size + 1,0,none⟩ (.int .i64 c)):=(Only.refl (fun k => k = w.heap.size + 1) w2).setCell (p:=⟨w.heap.size + 1,0,none⟩) (fun _ => rfl) _;have F0:=Qaa (Qag (o3.heap K0 (fun e => by omega)));have F1:=Qaa (QcF (Qdc K1 (.int .i64 c)));have OX:=Qaa (O2.out.trans o3 (fun i hi e => by omega));have CE:=Qaa (Qib (w.heap.size + 1) c [] w2 _ p1 p2);have HM:=Qaa hm;clear K0 K1 o3 hm;unfold mpan;go_wp2;refine leaves_cons (f:=132) (args:=#[.pointer (some ⟨w.heap.size + 1,0,none⟩)]) (by simp) (by simp [go_sem]) ?_;refine CE.out.mono ?_;rintro e u' w'' ⟨rfl,rfl,rfl⟩;refine ⟨_,QcE Tryz.results99 _ _ rfl rfl F0.out F1.out,?_⟩;refine ⟨_,.slice none 0 0,.slice none 0 0,.slice none 0 0,rfl,?_,OX.out⟩;rw [HM.out];exact Mnw.zero _ _
 ·obtain ⟨ap,pc,ep⟩:=mn.mf.prev.len
  obtain ⟨ae,ec,ee⟩:=mn.mf.es.len;obtain ⟨ar,rc,er⟩:=mn.mf.root.len;subst ep ee er;have hx:=mn.mf.form;subst hx;obtain ⟨⟨k0,k1,k2,k3⟩,f0,f1,f2,f3⟩:=Qaq K0;obtain ⟨p1,p2⟩:=Qa6 K1;obtain ⟨g,og⟩:=put4 K0 (.int .u64 m.ver) (.slice ap m.prev.length pc) (.slice ae m.es.length ec) (.slice ar m.root.length rc);have K1':=og.heap K1 (fun e => by omega);generalize hW3 : ((((w2.setCell ⟨w.heap.size,0,none⟩ (.int .u64 m.ver)).setCell ⟨w.heap.size,1,none⟩ (.slice ap m.prev.length pc)).setCell ⟨w.heap.size,2,none⟩ (.slice ae m.es.length ec)).setCell ⟨w.heap.size,3,none⟩ (.slice ar m.root.length rc)) = w3 at *;have o3 : Only (fun k => k = w.heap.size + 1) w3 (w3.setCell ⟨w.heap.size + 1,0,none⟩ (.int .i64 0)):=(Only.refl (fun k => k = w.heap.size + 1) w3).setCell (p:=⟨w.heap.size + 1,0,none⟩) (fun _ => rfl) _;have F0:=Qaa (Qag (o3.heap g (fun e => by omega)));have F1:=Qaa (QcF (Qdc K1' (.int .i64 0)));have OX:=Qaa ((O2.out.trans og (fun i hi e => by omega)).trans o3 (fun i hi e => by omega));have MN:=Qaa (((mn.keep og (by simp;omega)).keep o3 (by simp)).low (w0:=w) (by simp;omega));have HE:=Qaa he;rw [← hW3] at F0 F1 OX MN;clear K0 K1 K1' o3 g og mn he hW3;go_wp2;refine leaves_cons (f:=132) (args:=#[.pointer (some ⟨w.heap.size + 1,0,none⟩)]) (by simp) (by simp [go_sem]) ?_;refine (QgD (w.heap.size + 1) _).mono ?_;rintro e u' w'' ⟨rfl,rfl,rfl⟩;refine ⟨_,QcE Tryz.results99 _ _ rfl rfl F0.out F1.out,?_⟩;refine ⟨_,.slice ap m.prev.length pc,.slice ae m.es.length ec,.slice ar m.root.length rc,by rw [HE.out],?_,OX.out⟩;exact MN.out
theorem Qc1 (v : Value) (ys : List Int) (w : World) (h : Bs .u8 w v ys) (hr : U8 ys) (hl : ys.length ≤ 1000000000000) :
  Calls Tryz.prog 68 #[v] w fun e w' => ∃ x vp ve vr,e = .returned (.tuple #[x,.int .i64 (MDe ys)]) ∧ Mnw w w' x (MDv ys) vp ve vr ∧ Only (fun _ => False) w w':=by
 have hmf : ∀ (fn : Fn) (first cap : Array Value) (w : World),(Instr.makeFunc fn first cap).run Tryz.prog w = .ok (.func fn first cap) w:=fun _ _ _ _ => rfl
 obtain ⟨av,cv,ev⟩:=h.len;subst ev;have oa : Only (fun _ => False) w ((w.alloc (.cells #[.slice av ys.length cv] 22)).alloc (.cells #[.int .u64 0,.slice none 0 0,.slice none 0 0,.slice none 0 0] 44)):=((Only.refl _ _).alloc _).alloc _;have g0:=Qaf (o:=.cells #[.int .u64 0,.slice none 0 0,.slice none 0 0,.slice none 0 0] 44) (heap_alloc_new w (.cells #[.slice av ys.length cv] 22));have g1:=Qak (W:=w.alloc (.cells #[.slice av ys.length cv] 22)) (o:=.cells #[.int .u64 0,.slice none 0 0,.slice none 0 0,.slice none 0 0] 44) (k:=w.heap.size + 1) (by simp);have RD:=Qaa (Qic w.heap.size _ ys _ g0 (h.past oa) hr hl);have G1:=Qaa g1;have OA:=Qaa oa;obtain ⟨c,hc⟩ : ∃ c,c = MDe ys:=⟨_,rfl⟩;obtain ⟨m,hm⟩ : ∃ m,m = MDv ys:=⟨_,rfl⟩;rw [← hc,← hm] at RD;rw [← hc,← hm];clear hc hm;clear h oa g0 g1 hr hl;go_enter Tryz.func68,Tryz.ntmps68;go_wp2_with fail;refine RD.out.mono ?_;rintro e w2 ⟨x,vp,ve,vr,rfl,mn,o2⟩;have K1:=o2.heap G1.out (fun f => f);have hs2:=o2.size;obtain ⟨ap,pc,ep⟩:=mn.mf.prev.len;obtain ⟨ae,ec,ee⟩:=mn.mf.es.len;obtain ⟨ar,rc,er⟩:=mn.mf.root.len;subst ep ee er;have hx:=mn.mf.form;subst hx;obtain ⟨⟨k0,k1,k2,k3⟩,f0,f1,f2,f3⟩:=Qaq K1;obtain ⟨g,og⟩:=put4 K1 (.int .u64 m.ver) (.slice ap m.prev.length pc) (.slice ae m.es.length ec) (.slice ar m.root.length rc);have F:=Qaa (And.intro (Qag g) (And.intro ((OA.out.same o2).trans og (fun i hi e => by omega)) ((mn.keep og (by simp)).low (w0:=w) (by simp;omega))));clear RD K1 o2 mn g og G1 OA;go_wp2;refine bodyPost_ret (Qau Tryz.results68 _ _ rfl rfl F.out.1) rfl ?_;refine ⟨_,.slice ap m.prev.length pc,.slice ae m.es.length ec,.slice ar m.root.length rc,rfl,?_,F.out.2.1⟩;exact F.out.2.2
section
open Go.Maps
def TBS (T : List (List Int)) (k : Nat) : List Int:=gs T.length ++ ((T.take k).map blk).flatten
theorem Qim (T : List (List Int)) : TBS T 0 = gs T.length:=by simp [TBS]
theorem QgR (T : List (List Int)) : TBS T T.length = gs T.length ++ (T.map blk).flatten:=by rw [TBS,List.take_length]
theorem Qc2 {α : Type} (l : List α) (k : Nat) (d : α) (h : k < l.length) : l.take (k + 1) = l.take k ++ [l.getD k d]:=by
 rw [List.take_succ_eq_append_getElem h,List.getD_eq_getElem?_getD,List.getElem?_eq_getElem h];rfl
theorem Qin (T : List (List Int)) (k : Nat) (h : k < T.length) : TBS T (k + 1) = TBS T k ++ blk (T.getD k []):=by
 rw [TBS,Qc2 T k [] h,List.map_append,List.flatten_append,TBS];simp
theorem QeO {α : Type} (f : α → List Int) (B : Nat) : ∀ (l : List α),(∀ x ∈ l,(f x).length ≤ B) → ((l.map f).flatten).length ≤ l.length * B
 | [],_ => by simp
 | x :: l,h => by
  have h1:=QeO f B l (fun y hy => h y (List.mem_cons_of_mem _ hy));have h2:=h x List.mem_cons_self;simp only [List.map_cons,List.flatten_cons,List.length_append,List.length_cons];rw [Nat.succ_mul];omega
theorem Qjr (T : List (List Int)) (k : Nat) (hk : k ≤ T.length) (hn : T.length ≤ 1048576) (hl : ∀ x ∈ T,x.length ≤ 64) : (TBS T k).length ≤ 10 + k * 74:=by
 have h1:=Qa5 (v:=T.length) (by omega)
 have h2:=QeO blk 74 (T.take k) (fun x hx => by
  have h3:=hl x (List.mem_of_mem_take hx);have h4:=Qcv x (by omega)
  omega)
 rw [List.length_take,Nat.min_eq_left hk] at h2;rw [TBS,List.length_append];omega
def EBS (T : List (List Int)) (es : List (List Int × Int)) (k : Nat) : List Int:=gs es.length ++ ((es.take k).map (MEN T)).flatten
theorem Qio (T : List (List Int)) (es : List (List Int × Int)) : EBS T es 0 = gs es.length:=by simp [EBS]
theorem QgS (T : List (List Int)) (es : List (List Int × Int)) : EBS T es es.length = gs es.length ++ (es.map (MEN T)).flatten:=by rw [EBS,List.take_length]
theorem Qip (T : List (List Int)) (es : List (List Int × Int)) (k : Nat) (h : k < es.length) : EBS T es (k + 1) = EBS T es k ++ (gs (PLC T (es.getD k ([],0)).1) ++ [(es.getD k ([],0)).2]):=by
 rw [EBS,Qc2 es k ([],0) h,List.map_append,List.flatten_append,EBS];simp [MEN]
theorem Qjs (T : List (List Int)) (es : List (List Int × Int)) (k : Nat) (hk : k ≤ es.length) (hn : es.length ≤ 1048576) (hT : ∀ e ∈ es,e.1 ∈ T) (hl : T.length ≤ 1048576) : (EBS T es k).length ≤ 10 + k * 11:=by
 have h1:=Qa5 (v:=es.length) (by omega)
 have h2:=QeO (MEN T) 11 (es.take k) (fun e he => by
  have h3:=Qcj (hT e (List.mem_of_mem_take he));have h4:=Qa5 (v:=PLC T e.1) (by omega)
  simp only [MEN,List.length_append,List.length_singleton];omega)
 rw [List.length_take,Nat.min_eq_left hk] at h2;rw [EBS,List.length_append];omega
end
section
open Go.Maps
def MEr (m : MAN) : Int :=
 if m.ver = 18446744073709551615 ∨ m.prev.length ≠ 32 ∨ m.root.length ≠ 32 then 1
 else if m.es.any (fun e => !okB e.2) = true then 1
 else if 1048576 < m.es.length ∨ m.es.any (fun e => decide (64 < e.1.length)) = true then 4 else 0
theorem QgT {m : MAN} (hk : Mok m) : MEr m = 0 ↔ MGD m:=by
 unfold MEr
 constructor
 ·intro h
  by_cases h1 : m.ver = 18446744073709551615 ∨ m.prev.length ≠ 32 ∨ m.root.length ≠ 32
  ·rw [if_pos h1] at h;cases h
  ·rw [if_neg h1] at h
   by_cases h2 : m.es.any (fun e => !okB e.2) = true
   ·rw [if_pos h2] at h;cases h
   ·rw [if_neg h2] at h
    by_cases h3 : 1048576 < m.es.length ∨ m.es.any (fun e => decide (64 < e.1.length)) = true
    ·rw [if_pos h3] at h;cases h
    ·have hv:=hk.ver
     refine ⟨by omega,⟨by omega,hk.prev⟩,⟨by omega,hk.root⟩,by omega,fun e he => ⟨⟨?_,hk.es e he⟩,?_⟩⟩
     ·have h4 : ¬ m.es.any (fun e => decide (64 < e.1.length)) = true:=fun q => h3 (.inr q)
      rw [List.any_eq_true] at h4
      exact Nat.le_of_not_lt fun q => h4 ⟨e,he,by simpa using q⟩
     ·rw [List.any_eq_true] at h2
      by_cases q : 0 ≤ e.2 ∧ e.2 ≤ 8
      ·exact q
      ·exact absurd ⟨e,he,by simp only [okB,decide_eq_false q,Bool.not_false]⟩ h2
 ·rintro ⟨h1,h2,h3,h4,h5⟩
  have q2 : ¬ m.es.any (fun e => !okB e.2) = true:=by
   rw [List.any_eq_true];rintro ⟨e,he,q⟩;have:=(h5 e he).2;rw [okB,decide_eq_true this] at q
   cases q
  have q3 : ¬ m.es.any (fun e => decide (64 < e.1.length)) = true:=by
   rw [List.any_eq_true];rintro ⟨e,he,q⟩;have:=(h5 e he).1.1;have:=of_decide_eq_true q;omega
  rw [if_neg (by have:=h2.1;have:=h3.1;omega),if_neg q2,if_neg (fun q => q.elim (fun q => by omega) q3)]
theorem heap4 {W : World} {B : Nat} {x0 x1 x2 x3 : Value} (h : W.heap[B]? = some (.cells #[x0,x1,x2,x3] 44 (0,0))) : W.cell? ⟨B,0,none⟩ = some x0 ∧ W.cell? ⟨B,1,none⟩ = some x1 ∧ W.cell? ⟨B,2,none⟩ = some x2 ∧ W.cell? ⟨B,3,none⟩ = some x3 :=
 ⟨by simp [World.cell?,h],by simp [World.cell?,h],by simp [World.cell?,h],by simp [World.cell?,h]⟩
end
def MKY (k : List Int) : List Int:=KDt k 4 []
theorem QgE {k : List Int} (h : k.length = 32) : (MKY k).length = 32:=by unfold MKY KDt;rw [if_pos h,if_pos (by simp),QgM]
theorem Qjl (k : List Int) : U8 (MKY k):=by
 unfold MKY KDt
 by_cases h : k.length = 32
 ·rw [if_pos h,if_pos (by simp)];exact QkM _ _ _
 ·rw [if_neg h];intro y hy;cases hy
theorem Qjm {k : List Int} (h : k.length = 32) : KDe k [] = 0:=by unfold KDe;rw [if_pos h];rfl
theorem QkL {k : List Int} (h : k.length ≠ 32) : KDe k [] = 1:=by unfold KDe;rw [if_neg h]
def MCe (k b : List Int) : Int:=if k.length = 32 then (if b.length < 32 then 2 else if MACL (MKY k) (b.take (b.length - 32)) = b.drop (b.length - 32) then MDe (b.take (b.length - 32)) else 5) else 1
def MCv (k b : List Int) : MAN:=if k.length = 32 then (if b.length < 32 then ⟨0,[],[],[]⟩ else if MACL (MKY k) (b.take (b.length - 32)) = b.drop (b.length - 32) then MDv (b.take (b.length - 32)) else ⟨0,[],[],[]⟩) else ⟨0,[],[],[]⟩
theorem QcG {W w : World} {B : Nat} (hB : w.heap.size ≤ B) (o : Only (fun _ => False) w W) (g : W.heap[B]? = some (.cells #[.int .u64 0,.slice none 0 0,.slice none 0 0,.slice none 0 0] 44 (0,0))) :
  (loadVar 44 ⟨B,0,none⟩).run Tryz.prog ((((W.setCell ⟨B,0,none⟩ (.int .u64 0)).setCell ⟨B,1,none⟩ (.slice none 0 0)).setCell ⟨B,2,none⟩ (.slice none 0 0)).setCell ⟨B,3,none⟩ (.slice none 0 0)) = .ok Qjk ((((W.setCell ⟨B,0,none⟩ (.int .u64 0)).setCell ⟨B,1,none⟩ (.slice none 0 0)).setCell ⟨B,2,none⟩ (.slice none 0 0)).setCell ⟨B,3,none⟩ (.slice none 0 0)) ∧
  Only (fun _ => False) w ((((W.setCell ⟨B,0,none⟩ (.int .u64 0)).setCell ⟨B,1,none⟩ (.slice none 0 0)).setCell ⟨B,2,none⟩ (.slice none 0 0)).setCell ⟨B,3,none⟩ (.slice none 0 0)):=by
 obtain ⟨g',og⟩:=put4 g (.int .u64 0) (.slice none 0 0) (.slice none 0 0) (.slice none 0 0);exact ⟨Qag g',o.trans og (fun i hi e => by omega)⟩
theorem QgF (vk vb : Value) (k b : List Int) (w : World) (hb : Bs .u8 w vk k) (hk8 : U8 k) (hv : Bs .u8 w vb b) (hb8 : U8 b) (hl : b.length ≤ 10000000000) :
  Calls Tryz.prog 48 #[vk,vb] w fun e w' => ∃ x vp ve vr,e = .returned (.tuple #[x,.int .i64 (MCe k b)]) ∧ Mnw w w' x (MCv k b) vp ve vr ∧ Only (fun _ => False) w w':=by
 obtain ⟨ak,kc,ek⟩:=hb.len;have oa : Only (fun _ => False) w (w.alloc (.cells #[.int .u64 0,.slice none 0 0,.slice none 0 0,.slice none 0 0] 44)):=(Only.refl _ _).alloc _;have G0:=Qaa (heap_alloc_new w (.cells #[.int .u64 0,.slice none 0 0,.slice none 0 0,.slice none 0 0] 44));have A:=Qaa (Qdi _ k hk8 _ (hb.past oa));have OA:=Qaa oa
 obtain ⟨bo,n,bc,hvb,hn⟩ : ∃ bo n bc,vb = .slice bo n bc ∧ n = b.length:=by
  obtain ⟨so,sc,e⟩:=hv.len;exact ⟨so,b.length,sc,e,rfl⟩
 subst hvb
 by_cases h32 : k.length = 32
 ·rw [Qjm h32] at A
  have HKL:=Qaa (QgE h32);have HK8:=Qaa (Qjl k)
  by_cases hs : n < 32
  ·have e1 : MCe k b = 2:=by unfold MCe;rw [if_pos h32,if_pos (by omega)]
   have e2 : MCv k b = ⟨0,[],[],[]⟩:=by unfold MCv;rw [if_pos h32,if_pos (by omega)]
   rw [e1,e2]
   have i1 : (n : Int) < 32:=by omega
   clear e1 e2 hb hv oa h32 hn ek;go_enter Tryz.func48,Tryz.ntmps48;go_wp2_with fail;refine A.out.mono ?_;rintro e w1 ⟨v1,rfl,own1,o1⟩;have G1:=o1.heap G0.out (fun f => f);obtain ⟨⟨c0,c1,c2,c3⟩,f0,f1,f2,f3⟩:=Qaq G1;have F:=Qaa (QcG (w:=w) (Nat.le_refl _) (OA.out.same o1) G1);clear A own1 o1 G1;go_wp2;refine bodyPost_ret (Qau Tryz.results48 _ _ rfl rfl F.out.1) rfl ?_;exact ⟨_,_,_,_,rfl,Mnw.zero _ _,F.out.2⟩
  ·obtain ⟨q,hq⟩ : ∃ q,q = n - 32:=⟨_,rfl⟩
   obtain ⟨C,hC⟩ : ∃ C,C = b.take q:=⟨_,rfl⟩;obtain ⟨R,hR⟩ : ∃ R,R = b.drop q:=⟨_,rfl⟩
   have hCl : C.length = q:=by rw [hC,List.length_take];omega
   have hRl : R.length = 32:=by rw [hR,List.length_drop];omega
   have C8 : U8 C:=by rw [hC];exact hb8.take _
   have R8 : U8 R:=by rw [hR];exact hb8.drop _
   obtain ⟨g,off,rfl⟩ : ∃ g off,bo = some ⟨g,off,none⟩:=by
    obtain ⟨g,off,c,e,_⟩:=hv.at 0 (by omega);simp at e;exact ⟨g,off,e.1⟩
   have hcap : n ≤ bc:=hv.room
   have bC : Bs .u8 w (.slice (some ⟨g,off,none⟩) q bc) C:=by rw [hC];exact hv.head (by omega)
   have bR : Bs .u8 w (.slice (some ⟨g,off + q,none⟩) 32 (bc - q)) R:=by
    have:=hv.cut (n:=q) (by omega);rw [← hR,show n - q = 32 by omega] at this
    simpa [Addr.add_lit] using this
   have E1 : MCe k b = if MACL (MKY k) C = R then MDe C else 5:=by unfold MCe;rw [if_pos h32,if_neg (by omega),hC,hR,hq,hn]
   have E2 : MCv k b = if MACL (MKY k) C = R then MDv C else ⟨0,[],[],[]⟩:=by unfold MCv;rw [if_pos h32,if_neg (by omega),hC,hR,hq,hn]
   rw [E1,E2];have CK:=Qaa (fun (v1 : Value) (W : World) (o : Only (fun _ => False) w W) (h1 : Bs .u8 W v1 (MKY k)) => QhU v1 _ _ (MKY k) C R W h1 HK8.out (by rw [HKL.out];decide) (bC.past o) C8 (by omega) (bR.past o) R8);have DC:=Qaa (fun (W : World) (o : Only (fun _ => False) w W) => Qc1 _ C W (bC.past o) C8 (by omega))
   have hsub : (n : Int) - 32 = (q : Int):=by omega
   have hwq : IntKind.i64.wrap (q : Int) = (q : Int):=by rw [IntKind.wrap_i64];omega
   have c1 : (q : Int) ≤ (bc : Int):=by omega
   have c2 : (q : Int) ≤ (n : Int):=by omega
   have c0 : (0 : Int) ≤ (q : Int):=by omega
   have c3 : ¬ bc = q:=by omega
   have hnq : n - q = 32:=by omega
   have i1 : ¬ (n : Int) < 32:=by omega
   have HKT : Hid (KDt k 4 [] = MKY k):=rfl
   by_cases ht : MACL (MKY k) C = R
   ·rw [if_pos ht,if_pos ht]
    rw [decide_eq_true ht] at CK;clear E1 E2 hb hv oa h32 hn ek hC hR hq hCl hRl C8 R8 bC bR hb8 hl hcap hs ht;go_enter Tryz.func48,Tryz.ntmps48;go_wp2_with fail;refine A.out.mono ?_;rintro e w1 ⟨v1,rfl,own1,o1⟩;have G1:=Qaa (o1.heap G0.out (fun f => f));have O1:=Qaa (OA.out.same o1);have D:=Qaa (fun nq => CK.out v1 (w1.drewN nq) (O1.out.drewN nq) ((Bs.of_own own1).past ((Only.refl _ _).drewN nq)));clear A own1 o1 CK G0;go_wp2_with fail;go_quiet (fail);go_wp2_with fail;refine (D.out _).mono ?_;rintro e w2 ⟨rfl,o2x⟩;have o2:=((Only.refl (fun _ => False) w1).drewN nq).same o2x;clear o2x;have HG2:=Qaa (o2.heap G1.out (fun f => f));have O2:=Qaa (O1.out.same o2);have E:=Qaa (DC.out w2 O2.out);clear D G1 DC o2;go_wp2_with fail;refine E.out.mono ?_;rintro e w3 ⟨x,vp,ve,vr,rfl,mn,o3⟩;have K1:=o3.heap HG2.out (fun f => f);obtain ⟨ap,pc,ep⟩:=mn.mf.prev.len;obtain ⟨ae,ec,ee⟩:=mn.mf.es.len;obtain ⟨ar,rc,er⟩:=mn.mf.root.len;subst ep ee er;have hx:=mn.mf.form;subst hx;have hs2:=O2.out.size;have hlt : w.heap.size < w2.heap.size:=(Array.getElem?_eq_some_iff.1 HG2.out).1;obtain ⟨⟨k0,k1,k2,k3⟩,f0,f1,f2,f3⟩:=Qaq K1;obtain ⟨g',og⟩:=put4 K1 (.int .u64 (MDv C).ver) (.slice ap (MDv C).prev.length pc) (.slice ae (MDv C).es.length ec) (.slice ar (MDv C).root.length rc);have F:=Qaa (And.intro (Qag g') (And.intro ((O2.out.same o3).trans og (fun i hi e => by omega)) ((mn.keep og hlt).low (w0:=w) hs2)));clear E K1 o3 mn g' og HG2;go_wp2;refine bodyPost_ret (Qau Tryz.results48 _ _ rfl rfl F.out.1) rfl ?_;exact ⟨_,.slice ap (MDv C).prev.length pc,.slice ae (MDv C).es.length ec,.slice ar (MDv C).root.length rc,rfl,F.out.2.2,F.out.2.1⟩
   ·rw [if_neg ht,if_neg ht]
    rw [decide_eq_false ht] at CK;clear E1 E2 hb hv oa h32 hn ek hC hR hq hCl hRl C8 R8 bC bR hb8 hl hcap hs ht DC;go_enter Tryz.func48,Tryz.ntmps48;go_wp2_with fail;refine A.out.mono ?_;rintro e w1 ⟨v1,rfl,own1,o1⟩;have G1:=Qaa (o1.heap G0.out (fun f => f));have O1:=Qaa (OA.out.same o1);have D:=Qaa (fun nq => CK.out v1 (w1.drewN nq) (O1.out.drewN nq) ((Bs.of_own own1).past ((Only.refl _ _).drewN nq)));clear A own1 o1 CK G0;go_wp2_with fail;go_quiet (fail);go_wp2_with fail;refine (D.out _).mono ?_;rintro e w2 ⟨rfl,o2x⟩;have o2:=((Only.refl (fun _ => False) w1).drewN nq).same o2x;clear o2x;have G2:=o2.heap G1.out (fun f => f);have O2:=Qaa (O1.out.same o2);obtain ⟨⟨k0,k1,k2,k3⟩,f0,f1,f2,f3⟩:=Qaq G2;have F:=Qaa (QcG (w:=w) (Nat.le_refl _) O2.out G2);clear D G1 o2 G2;go_wp2;refine bodyPost_ret (Qau Tryz.results48 _ _ rfl rfl F.out.1) rfl ?_;exact ⟨_,_,_,_,rfl,Mnw.zero _ _,F.out.2⟩
 ·rw [QkL h32] at A
  have e1 : MCe k b = 1:=by unfold MCe;rw [if_neg h32]
  have e2 : MCv k b = ⟨0,[],[],[]⟩:=by unfold MCv;rw [if_neg h32]
  rw [e1,e2];clear e1 e2 hb hv oa h32 hn ek;go_enter Tryz.func48,Tryz.ntmps48;go_wp2_with fail;refine A.out.mono ?_;rintro e w1 ⟨v1,rfl,own1,o1⟩;have G1:=o1.heap G0.out (fun f => f);obtain ⟨⟨c0,c1,c2,c3⟩,f0,f1,f2,f3⟩:=Qaq G1;have F:=Qaa (QcG (w:=w) (Nat.le_refl _) (OA.out.same o1) G1);clear A own1 o1 G1;go_wp2;refine bodyPost_ret (Qau Tryz.results48 _ _ rfl rfl F.out.1) rfl ?_;exact ⟨_,_,_,_,rfl,Mnw.zero _ _,F.out.2⟩
end Go.Proofs.YtcpopagikbjimaaGreatDoor
