/- Several texts in one: Kr, Ke, Kx, Ky, Kw. -/
import Derived.Test.YthapipgaohlgdaaGreatDoorG9
import Derived.Test.YthapipgaohlgdaaGreatDoorG12
import Derived.Test.YthapipgaohlgdaaGreatDoorG16
import Derived.Deep.RegionWith
import Derived.Deep.DrawnRows
import Derived.Test.YthapipgaohlgdaaGreatDoorG11
import Derived.Test.YthapipgaohlgdaaGreatDoorG14
import Derived.Deep.RegionHeld
import Derived.Recover
import Derived.Deep.QuietTactic
import Derived.BigQuiet
import Derived.Laws.Strings
import Derived.Test.YthapipgaohlgdaaGreatDoorG7


namespace Go.Proofs.YthapipgaohlgdaaGreatDoor
set_option maxRecDepth 100000
open Go.RowKit
attribute [local go_sem ↓] Go.wp_at_zero Go.wp_at_succ
def RP (w : World) (R : Nat) (D : (List Int × List (Int × Int)) × Int) : Ending → World → Prop:=fun e w' =>
 ((D.2 = 0 ∧ ∃ u,e = .returned (.agg #[.string (strOfNums D.1.1),u]) ∧ w'.ownsRow w.heap.size 44 2 u D.1.2.length (scells D.1.2)) ∨ (D.2 ≠ 0 ∧ e = pan D.2)) ∧ Only (fun k => k = R) w w'
theorem RP.no {w w' : World} {R : Nat} {D : (List Int × List (Int × Int)) × Int} {c : Int} (h : D = (chNone,c)) (hc : c ≠ 0) (o : Only (fun k => k = R) w w') : RP w R D (.panicked [{ v:=.iface 27 (.int .i64 c),recovered:=false }]) w':=by
 subst h;exact ⟨.inr ⟨hc,rfl⟩,o⟩
theorem RP.yes {w w' : World} {R : Nat} {D : (List Int × List (Int × Int)) × Int} {tn : List Int} {s : List (Int × Int)} {u : Value} (h : D = ((tn,s),0)) (ho : w'.ownsRow w.heap.size 44 2 u s.length (scells s)) (o : Only (fun k => k = R) w w') : RP w R D (.returned (.agg #[.string (strOfNums tn),u])) w':=by
 subst h;exact ⟨.inl ⟨rfl,u,rfl,ho⟩,o⟩
theorem C1_err {ys : List Int} {c : Int} (h : sBlock 64 ys = ([],0,c)) (hc : c ≠ 0) : C1 DEC8 DEC11 ys = (chNone,c):=by unfold C1;rw [h,if_pos (by simpa using hc)]
theorem C1_ok {ys tn : List Int} {k : Nat} (h : sBlock 64 ys = (tn,k,0)) : C1 DEC8 DEC11 ys = C2 DEC8 DEC11 tn (ys.drop k):=by unfold C1;rw [h,if_neg (by simp)]
theorem C2_err {tn ys : List Int} {c : Int} (h : sVarint ys = (0,0,c)) (hc : c ≠ 0) : C2 DEC8 DEC11 tn ys = (chNone,c):=by unfold C2;rw [h,if_pos (by simpa using hc)]
theorem C2_long {tn ys : List Int} {n k : Nat} (h : sVarint ys = ((n : Int),k,0)) (hn : 65536 < n) : C2 DEC8 DEC11 tn ys = (chNone,4):=by unfold C2;rw [h,if_neg (by simp),if_pos (by simp only;omega)]
theorem C2_ok {tn ys : List Int} {n k : Nat} (h : sVarint ys = ((n : Int),k,0)) (hn : n ≤ 65536) : C2 DEC8 DEC11 tn ys = C3 DEC8 DEC11 tn n (ys.drop k):=by unfold C2;rw [h,if_neg (by simp),if_neg (by simp only;omega)]
theorem C3_err {tn ys : List Int} {n c : Int} (h : sBlock (MOST n) ys = ([],0,c)) (hc : c ≠ 0) : C3 DEC8 DEC11 tn n ys = (chNone,c):=by unfold C3;rw [h,if_pos (by simpa using hc)]
theorem C3_ok {tn ys ti : List Int} {n : Int} {k : Nat} (h : sBlock (MOST n) ys = (ti,k,0)) : C3 DEC8 DEC11 tn n ys = C4 DEC8 DEC11 tn n ti (ys.drop k):=by unfold C3;rw [h,if_neg (by simp)]
theorem C4_err {tn ti ys : List Int} {n c : Int} (h : sBlock (MOST n) ys = ([],0,c)) (hc : c ≠ 0) : C4 DEC8 DEC11 tn n ti ys = (chNone,c):=by unfold C4;rw [h,if_pos (by simpa using hc)]
theorem C4_ok {tn ti ys va : List Int} {n : Int} {k : Nat} (h : sBlock (MOST n) ys = (va,k,0)) : C4 DEC8 DEC11 tn n ti ys = C5 DEC8 DEC11 tn n ti va (ys.drop k):=by unfold C4;rw [h,if_neg (by simp)]
theorem C5_left {tn ti va r : List Int} {n : Int} (h : r ≠ []) : C5 DEC8 DEC11 tn n ti va r = (chNone,3):=by unfold C5;rw [if_pos h]
theorem C5_d8 {tn ti va : List Int} {n : Int} (h : (DEC8 ti n).2 ≠ 0) : C5 DEC8 DEC11 tn n ti va [] = (chNone,(DEC8 ti n).2):=by unfold C5;rw [if_neg (by simp),if_pos h]
theorem C5_d11 {tn ti va : List Int} {n : Int} (h : (DEC8 ti n).2 = 0) (h' : (DEC11 va n).2 ≠ 0) : C5 DEC8 DEC11 tn n ti va [] = (chNone,(DEC11 va n).2):=by unfold C5;rw [if_neg (by simp),if_neg (by rw [h];simp),if_pos h']
theorem C5_all {tn ti va : List Int} {n : Int} (h : (DEC8 ti n).2 = 0) (h' : (DEC11 va n).2 = 0) : C5 DEC8 DEC11 tn n ti va [] = ((tn,(DEC8 ti n).1.zip (DEC11 va n).1),0):=by unfold C5;rw [if_neg (by simp),if_neg (by rw [h];simp),if_neg (by rw [h'];simp)]
theorem DECC_form {y : Int} {r : List Int} (h : y ≠ 1) : DECC (y :: r) = (chNone,3):=by unfold DECC DEC12;rw [if_neg (List.cons_ne_nil _ _),List.getD_cons_zero,if_pos h]
theorem DECC_one {r : List Int} : DECC (1 :: r) = C1 DEC8 DEC11 r:=by unfold DECC DEC12;rw [if_neg (List.cons_ne_nil _ _),List.getD_cons_zero,if_neg (by simp)];rfl
theorem blk_rng {b t ys : List Int} (hr : ∀ y ∈ ys,0 ≤ y ∧ y ≤ 255) (e : ys = blk b ++ t) : ∀ y ∈ b,0 ≤ y ∧ y ≤ 255:=fun y hy => hr y (by rw [e];unfold blk;simp [hy])
theorem zip_fst {xs zs : List Int} (h : xs.length = zs.length) : (xs.zip zs).map Prod.fst = xs:=List.map_fst_zip (by omega)
theorem zip_snd {xs zs : List Int} (h : xs.length = zs.length) : (xs.zip zs).map Prod.snd = zs:=List.map_snd_zip (by omega)
theorem Tryz.sizeCh : (Tryz.prog.info? 24).map (·.size) = some 2:=by kernel_rfl
theorem rd_cells {W : World} {B : Nat} {x y : Value} {T : TypeId} (h : W.heap[B]? = some (.cells #[x,y] T (0,0))) : W.cell? ⟨B,0,none⟩ = some x ∧ W.cell? ⟨B,1,none⟩ = some y ∧ W.frozen? ⟨B,0,none⟩ = false ∧ W.frozen? ⟨B,1,none⟩ = false :=
 ⟨by simp [World.cell?,h],by simp [World.cell?,h],by simp [World.frozen?,h],by simp [World.frozen?,h]⟩
set_option maxHeartbeats 4000000 in
theorem read12_any {w : World} {R : Nat} {v : Value} {ys : List Int} (h : CurAt 92 w R v ys) (hvb : ∀ k,v.ownBlock = some k → k < w.heap.size) (hl : ys.length ≤ 1000000000) (hT : Tab w) (hR0 : 0 < R) (hRl : R < w.heap.size) :
  Calls Tryz.prog 32 #[.pointer (some ⟨R,0,none⟩)] w (RP w R (DECC ys)):=by
 obtain ⟨D,hD⟩ : ∃ D,D = DECC ys:=⟨_,rfl⟩
 rw [← hD]
 have HD:=hideIt hD
 obtain ⟨K,hK⟩ : ∃ K,K = RP w R D:=⟨_,rfl⟩
 rw [← hK]
 have HK:=hideIt hK
 clear hD hK
 have BY : Hid (∀ W,Only (fun _ => False) w W → Calls Tryz.prog 48 #[.pointer (some ⟨R,0,none⟩)] W fun e w' => e = .returned (.tuple #[.int .u8 (sByte ys).1,.int .i64 (sByte ys).2.2]) ∧
   ∃ v2,CurAt 92 w' R v2 (ys.drop (sByte ys).2.1) ∧ v2.ownBlock = v.ownBlock ∧ Only (fun k => k = R) W w'):=by
  intro W o
  refine (byte_cur (h.keep o (fun f => f) (fun _ _ f => f))).mono ?_
  rintro e w' ⟨rfl,v2,c2,e2,o2⟩
  exact ⟨rfl,v2,c2,e2,o2⟩
 have HT:=hideIt hT
 have HVB:=hideIt hvb
 have HY:=hideIt h.rng
 have HL:=hideIt hl
 clear h hvb hl hT
 cases ys with
 | nil =>
  have e0 : sByte [] = (0,0,2):=rfl
  rw [e0] at BY
  have ED : Hid (D = (chNone,2)):=HD.out
  clear HD
  go_enter Tryz.func32,Tryz.ntmps32
  go_wp2_with fail
  refine (BY.out _ ((Only.refl _ _).alloc _)).mono ?_
  rintro e w1 ⟨rfl,v2,_,_,o1⟩
  have O1:=hideIt (((Only.refl (fun k => k = R) w).alloc _).trans o1 (fun _ _ e => e))
  clear o1 BY
  go_wp2_with fail
  refine (must1_no _ 2 w1 (by omega)).mono ?_
  rintro e w' ⟨rfl,rfl⟩
  unfold pan
  go_wp2
  exact ⟨rfl,by rw [HK.out];exact RP.no ED.out (by omega) O1.out⟩
 | cons y r =>
  have e0 : sByte (y :: r) = (y,1,0):=by simp [sByte]
  rw [e0] at BY
  simp only [List.drop_succ_cons,List.drop_zero] at BY
  have hy:=HY.out y (by simp)
  have HR : Hid (∀ z ∈ r,0 ≤ z ∧ z ≤ 255):=fun z hz => HY.out z (by simp [hz])
  have HLr : Hid (r.length ≤ 1000000000):=by have:=HL.out;simp only [Hid,List.length_cons] at *;omega
  clear HL HY
  by_cases hy1 : y ≠ 1
  ·have hd : (y != 1) = true:=by simpa using hy1
   have ED : Hid (D = (chNone,3)):=by have:=HD.out;simp only [Hid];rw [this,DECC_form hy1]
   clear HD
   go_enter Tryz.func32,Tryz.ntmps32
   go_wp2_with fail
   refine (BY.out _ ((Only.refl _ _).alloc _)).mono ?_
   rintro e w1 ⟨rfl,v2,_,_,o1⟩
   have O1:=hideIt (((Only.refl (fun k => k = R) w).alloc _).trans o1 (fun _ _ e => e))
   clear o1 BY
   go_wp2_with fail
   refine (must1_ok _ w1).mono ?_
   rintro e w' ⟨rfl,rfl⟩
   go_wp2
   exact ⟨rfl,by rw [HK.out];exact RP.no ED.out (by omega) O1.out⟩
  ·obtain rfl : y = 1:=by simpa using hy1
   have HD1 : Hid (D = C1 DEC8 DEC11 r):=by have:=HD.out;simp only [Hid];rw [this,DECC_one]
   clear HD hy1 hy
   go_enter Tryz.func32,Tryz.ntmps32
   go_wp2_with fail
   refine (BY.out _ ((Only.refl _ _).alloc _)).mono ?_
   rintro e w1 ⟨rfl,v2,c2,e2,o1⟩
   have BL:=hideIt (block_cur c2 64 (by omega))
   have O1:=hideIt (((Only.refl (fun k => k = R) w).alloc _).trans o1 (fun _ _ e => e))
   have RS:=hideIt (o1.heap (heap_alloc_new w _) (fun e => by omega))
   clear o1 BY c2 e2
   go_wp2_with fail
   refine (must1_ok _ w1).mono ?_
   rintro e w' ⟨rfl,rfl⟩
   rcases sBlk_cases (n:=64) HR.out (by omega) (by omega) with ⟨c,eb,hc⟩ | ⟨tn,k1,eb,hl1,hk1,_,er1,_⟩
   ·rw [eb] at BL
    have ED : Hid (D = (chNone,c)):=by have:=HD1.out;simp only [Hid];rw [this,C1_err eb (by omega)]
    clear HD1 eb
    go_wp2_with fail
    refine BL.out.mono ?_
    rintro e w2 ⟨vt,rfl,_,_,_,v3,_,_,o2⟩
    have O2:=hideIt (O1.out.trans o2 (fun _ _ e => e))
    clear o2 BL
    go_wp2_with fail
    refine (musts_no _ c w2 (by omega)).mono ?_
    rintro e w' ⟨rfl,rfl⟩
    unfold pan
    go_wp2
    exact ⟨rfl,by rw [HK.out];exact RP.no ED.out (by omega) O2.out⟩
   ·rw [eb] at BL
    have HD2 : Hid (D = C2 DEC8 DEC11 tn (r.drop k1)):=by have:=HD1.out;simp only [Hid];rw [this,C1_ok eb]
    have RT:=hideIt (blk_rng HR.out er1)
    have HR2:=hideIt (drop_rng (k:=k1) HR.out)
    have HL2 : Hid ((r.drop k1).length ≤ 1000000000):=by have:=HLr.out;simp only [Hid,List.length_drop];omega
    clear HD1 eb er1 HR HLr
    go_wp2_with fail
    refine BL.out.mono ?_
    rintro e w2 ⟨vt,rfl,bt,nt,lt,v3,c3,_,o2⟩
    have O2:=hideIt (O1.out.trans o2 (fun _ _ e => e))
    have RS2:=hideIt (o2.heap RS.out (fun e => by omega))
    have BT:=hideIt bt
    have NT : Hid (∀ k,vt.ownBlock = some k → ¬ k = R):=fun k hk e => by have:=lt k hk;have:=O1.out.size;omega
    have CC3:=hideIt c3
    clear o2 BL bt nt lt c3 O1 RS
    generalize r.drop k1 = y2 at *
    go_wp2_with fail
    refine (musts_ok _ w2).mono ?_
    rintro e w' ⟨rfl,rfl⟩
    rcases sVarint_cases HR2.out with ⟨c,eb,hc⟩ | ⟨n,k2,eb,_,_,_,er2⟩
    ·have ED : Hid (D = (chNone,c)):=by have:=HD2.out;simp only [Hid];rw [this,C2_err eb (by omega)]
     have RC:=hideIt (readCount_err CC3.out eb (by omega))
     clear HD2 eb CC3
     go_wp2_with fail
     refine RC.out.mono ?_
     rintro e w3 ⟨rfl,o3⟩
     have O3:=hideIt (O2.out.trans o3 (fun _ _ e => e))
     clear o3 RC
     unfold pan
     go_wp2
     exact ⟨rfl,by rw [HK.out];exact RP.no ED.out (by omega) O3.out⟩
    by_cases hn : 65536 < n
    ·have ED : Hid (D = (chNone,4)):=by have:=HD2.out;simp only [Hid];rw [this,C2_long eb hn]
     have RC:=hideIt (readCount_long CC3.out eb hn)
     clear HD2 eb CC3 er2
     go_wp2_with fail
     refine RC.out.mono ?_
     rintro e w3 ⟨rfl,o3⟩
     have O3:=hideIt (O2.out.trans o3 (fun _ _ e => e))
     clear o3 RC
     unfold pan
     go_wp2
     exact ⟨rfl,by rw [HK.out];exact RP.no ED.out (by omega) O3.out⟩
    have hn' : n ≤ 65536:=by omega
    have HD3 : Hid (D = C3 DEC8 DEC11 tn n (y2.drop k2)):=by have:=HD2.out;simp only [Hid];rw [this,C2_ok eb hn']
    have RC:=hideIt (readCount_ok CC3.out eb hn')
    have HR3:=hideIt (drop_rng (k:=k2) HR2.out)
    have HL3 : Hid ((y2.drop k2).length ≤ 1000000000):=by have:=HL2.out;simp only [Hid,List.length_drop] at *;omega
    clear HD2 eb CC3 er2 HR2 HL2 hn
    go_wp2_with fail
    refine RC.out.mono ?_
    rintro e w3 ⟨rfl,v4,c4,_,o3⟩
    have hM:=MOST_nat hn'
    have O3:=hideIt (O2.out.trans o3 (fun _ _ e => e))
    have RS3:=hideIt (o3.heap RS2.out (fun e => by omega))
    have BT3:=hideIt (BT.out.keep o3 NT.out)
    generalize y2.drop k2 = y3 at *
    have BL:=hideIt (block_cur c4 (MOST n) (by omega))
    clear o3 RC c4 RS2 BT O2
    go_wp2_with fail
    refine (most_any n _).mono ?_
    rintro e w' ⟨rfl,rfl⟩
    have HMo:=hideIt hM
    rcases sBlk_cases (n:=MOST n) HR3.out (by omega) (by omega) with ⟨c,eb,hc⟩ | ⟨ti,k3,eb,hl3,hk3,_,er3,_⟩
    ·rw [eb] at BL
     have ED : Hid (D = (chNone,c)):=by have:=HD3.out;simp only [Hid];rw [this,C3_err eb (by omega)]
     clear HD3 eb hM
     go_wp2_with fail
     refine BL.out.mono ?_
     rintro e w4 ⟨vi,rfl,_,_,_,v5,_,_,o4⟩
     have O4:=hideIt (O3.out.trans o4 (fun _ _ e => e))
     clear o4 BL
     go_wp2_with fail
     refine (musts_no _ c w4 (by omega)).mono ?_
     rintro e w' ⟨rfl,rfl⟩
     unfold pan
     go_wp2
     exact ⟨rfl,by rw [HK.out];exact RP.no ED.out (by omega) O4.out⟩
    rw [eb] at BL
    have HD4 : Hid (D = C4 DEC8 DEC11 tn n ti (y3.drop k3)):=by have:=HD3.out;simp only [Hid];rw [this,C3_ok eb]
    have RTI:=hideIt (blk_rng HR3.out er3)
    have HR4:=hideIt (drop_rng (k:=k3) HR3.out)
    have HL4 : Hid ((y3.drop k3).length ≤ 1000000000):=by have:=HL3.out;simp only [Hid,List.length_drop] at *;omega
    have HLI : Hid (ti.length ≤ 1000000):=by simp only [Hid];omega
    clear HD3 eb er3 HR3 HL3 hM hl3 hk3
    go_wp2_with fail
    refine BL.out.mono ?_
    rintro e w4 ⟨vi,rfl,bi,ni,li,v5,c5,_,o4⟩
    have O4:=hideIt (O3.out.trans o4 (fun _ _ e => e))
    have RS4:=hideIt (o4.heap RS3.out (fun e => by omega))
    have BT4:=hideIt (BT3.out.keep o4 NT.out)
    have BI:=hideIt bi
    have NI : Hid (∀ k,vi.ownBlock = some k → ¬ k = R):=fun k hk e => by have:=li k hk;have:=O3.out.size;omega
    generalize y3.drop k3 = y4 at *
    have BL2:=hideIt (block_cur c5 (MOST n) (by have:=HMo.out;omega))
    clear o4 BL bi ni li c5 RS3 BT3 O3
    go_wp2_with fail
    refine (musts_ok _ w4).mono ?_
    rintro e w' ⟨rfl,rfl⟩
    go_wp2_with fail
    refine (most_any n _).mono ?_
    rintro e w' ⟨rfl,rfl⟩
    have hM:=HMo.out
    rcases sBlk_cases (n:=MOST n) HR4.out (by omega) (by omega) with ⟨c,eb,hc⟩ | ⟨va,k4,eb,hl4,hk4,_,er4,_⟩
    ·rw [eb] at BL2
     have ED : Hid (D = (chNone,c)):=by have:=HD4.out;simp only [Hid];rw [this,C4_err eb (by omega)]
     clear HD4 eb hM
     go_wp2_with fail
     refine BL2.out.mono ?_
     rintro e w5 ⟨vv,rfl,_,_,_,v6,_,_,o5⟩
     have O5:=hideIt (O4.out.trans o5 (fun _ _ e => e))
     clear o5 BL2
     go_wp2_with fail
     refine (musts_no _ c w5 (by omega)).mono ?_
     rintro e w' ⟨rfl,rfl⟩
     unfold pan
     go_wp2
     exact ⟨rfl,by rw [HK.out];exact RP.no ED.out (by omega) O5.out⟩
    rw [eb] at BL2
    have HD5 : Hid (D = C5 DEC8 DEC11 tn n ti va (y4.drop k4)):=by have:=HD4.out;simp only [Hid];rw [this,C4_ok eb]
    have RVA:=hideIt (blk_rng HR4.out er4)
    have HLV : Hid (va.length ≤ 1000000):=by simp only [Hid];omega
    clear HD4 eb er4 HR4 HL4 hM hl4 hk4
    go_wp2_with fail
    refine BL2.out.mono ?_
    rintro e w5 ⟨vv,rfl,bv,nv,lv,v6,c6,_,o5⟩
    have O5:=hideIt (O4.out.trans o5 (fun _ _ e => e))
    have RS5:=hideIt (o5.heap RS4.out (fun e => by omega))
    have BT5:=hideIt (BT4.out.keep o5 NT.out)
    have BI5:=hideIt (BI.out.keep o5 NI.out)
    have BV:=hideIt bv
    have T5:=hideIt (HT.out.keep O5.out (fun e => by omega))
    generalize y4.drop k4 = y5 at *
    have EN:=hideIt (end_cur c6)
    clear o5 BL2 bv nv lv c6 RS4 BT4 BI O4
    go_wp2_with fail
    refine (musts_ok _ w5).mono ?_
    rintro e w' ⟨rfl,rfl⟩
    go_wp2_with fail
    refine EN.out.mono ?_
    rintro e w' ⟨rfl,rfl⟩
    by_cases h5 : y5 ≠ []
    ·have ED : Hid (D = (chNone,3)):=by have:=HD5.out;simp only [Hid];rw [this,C5_left h5]
     have ev : endV y5 = 3:=by unfold endV;rw [if_pos (by cases y5 with | nil => exact absurd rfl h5 | cons a b => simp)]
     rw [ev]
     clear HD5 EN
     go_wp2_with fail
     refine (mustBeOK_no 3 w5 (by omega)).mono ?_
     rintro e w' ⟨rfl,rfl⟩
     unfold pan
     go_wp2
     exact ⟨rfl,by rw [HK.out];exact RP.no ED.out (by omega) O5.out⟩
    obtain rfl : y5 = []:=Classical.not_not.1 h5
    have ev : endV [] = 0:=rfl
    rw [ev]
    clear EN h5 ev
    go_wp2_with fail
    refine (mustBeOK_ok w5).mono ?_
    rintro e w' ⟨rfl,rfl⟩
    have E8:=hideIt (decode8_all vi ti n w5 BI5.out RTI.out (by have:=HLI.out;omega))
    by_cases h8 : (DEC8 ti n).2 ≠ 0
    ·have ED : Hid (D = (chNone,(DEC8 ti n).2)):=by have:=HD5.out;simp only [Hid];rw [this,C5_d8 h8]
     clear HD5
     generalize (DEC8 ti n).2 = c at *
     go_wp2_with fail
     refine E8.out.mono ?_
     rintro e w6 ⟨u8,rfl,_,o6⟩
     have O6:=hideIt (O5.out.trans o6 (fun _ _ f => f.elim))
     clear o6 E8
     go_wp2_with fail
     refine (musti_no _ c w6 h8).mono ?_
     rintro e w' ⟨rfl,rfl⟩
     unfold pan
     go_wp2
     exact ⟨rfl,by rw [HK.out];exact RP.no ED.out h8 O6.out⟩
    have h8' : (DEC8 ti n).2 = 0:=Classical.not_not.1 h8
    have K8:=hideIt (DEC8_ok RTI.out h8')
    rw [h8'] at E8
    have H8:=hideIt h8'
    clear h8 h8'
    go_wp2_with fail
    refine E8.out.mono ?_
    rintro e w6 ⟨u8,rfl,own8,o6⟩
    have O6:=hideIt (O5.out.trans o6 (fun _ _ f => f.elim))
    have RS6:=hideIt (o6.heap RS5.out (fun f => f))
    have BT6:=hideIt (BT5.out.past o6)
    have BX:=hideIt (Bs.of_own own8)
    have E11:=hideIt (decode11_all vv va n w6 (BV.out.past o6) RVA.out (by have:=HLV.out;omega) (T5.out.past o6))
    clear o6 E8 own8 RS5 BT5 O5 BI5 BV T5
    go_wp2_with fail
    refine (musti_ok _ w6).mono ?_
    rintro e w' ⟨rfl,rfl⟩
    by_cases h11 : (DEC11 va n).2 ≠ 0
    ·have ED : Hid (D = (chNone,(DEC11 va n).2)):=by have:=HD5.out;simp only [Hid];rw [this,C5_d11 H8.out h11]
     clear HD5
     generalize (DEC11 va n).2 = c at *
     go_wp2_with fail
     refine E11.out.mono ?_
     rintro e w7 ⟨u11,rfl,_,o7⟩
     have O7:=hideIt (O6.out.trans o7 (fun _ _ f => f.elim))
     clear o7 E11
     go_wp2_with fail
     refine (mustv_no _ c w7 h11).mono ?_
     rintro e w' ⟨rfl,rfl⟩
     unfold pan
     go_wp2
     exact ⟨rfl,by rw [HK.out];exact RP.no ED.out h11 O7.out⟩
    have h11' : (DEC11 va n).2 = 0:=Classical.not_not.1 h11
    have K11:=hideIt (DEC11_ok RVA.out h11')
    have ED : Hid (D = ((tn,(DEC8 ti n).1.zip (DEC11 va n).1),0)):=by have:=HD5.out;simp only [Hid];rw [this,C5_all H8.out h11']
    rw [h11'] at E11
    clear h11 h11' HD5
    go_wp2_with fail
    refine E11.out.mono ?_
    rintro e w7 ⟨u11,rfl,own11,o7⟩
    have O7:=hideIt (O6.out.trans o7 (fun _ _ f => f.elim))
    have RS7:=o7.heap RS6.out (fun f => f)
    have BT7:=hideIt (BT6.out.past o7)
    have hxz : (DEC8 ti n).1.length = (DEC11 va n).1.length:=by have:=K8.out.2.2.1;have:=K11.out.2.2.1;omega
    have od : Only (fun _ => False) w7 w7.drew:=(Only.refl _ _).drew
    have TG:=hideIt (together_any u8 u11 ((DEC8 ti n).1.zip (DEC11 va n).1) w7.drew (by rw [zip_fst hxz];exact (BX.out.past o7).past od) (by rw [zip_snd hxz];exact (Bs.of_own own11).past od) (by have:=K8.out.2.2.1;rw [List.length_zip];omega))
    have HX:=hideIt hxz
    clear o7 E11 own11 od hxz RS6 BT6 O6 BX K8 K11 H8
    generalize (DEC8 ti n).1.zip (DEC11 va n).1 = s at *
    go_wp2_with fail
    refine (mustv_ok _ w7).mono ?_
    rintro e w' ⟨rfl,rfl⟩
    have hB:=rd_cells RS7
    obtain ⟨q1,q2,q3,q4⟩:=hB
    have cv7 : (convert 26 9 vt).run Tryz.prog w7 = .ok (.string (strOfNums tn)) w7:=string_of w7 vt tn BT7.out
    have cv7d : (convert 26 9 vt).run Tryz.prog w7.drew = .ok (.string (strOfNums tn)) w7.drew:=string_of w7.drew vt tn (BT7.out.past (Only.refl _ _).drew)
    have HRS:=hideIt RS7
    clear RS7
    go_wp2_with fail
    go_region_with (first | (go_at_call 58;refine TG.out.mono ?_;rintro e w8 ⟨u,rfl,ownu,o8d⟩;have o8:=Only.same ((Only.refl (fun _ => False) w7).drew) o8d;clear o8d;(obtain ⟨au,cu,eu⟩:=(Sps.of_own ownu).len);subst eu;have cv8 : (convert 26 9 vt).run Tryz.prog w8 = .ok (.string (strOfNums tn)) w8:=string_of w8 vt tn (BT7.out.past o8);(obtain ⟨p1,p2,p3,p4⟩:=rd_cells (o8.heap HRS.out (fun f => f)))))
    all_goals
     have hBl : w.heap.size < w7.heap.size:=World.block_lt_of_cell? w7 _ q1
     have g0:=o8.heap HRS.out (fun f => f)
     have g1:=heap_setCell_same w8 w.heap.size 0 _ _ (Value.string (strOfNums tn)) g0
     have g2:=heap_setCell_same _ w.heap.size 1 _ _ (Value.slice au s.length cu) g1
     have ob : Only (fun k => k = w.heap.size) w8 ((w8.setCell ⟨w.heap.size,0,none⟩ (Value.string (strOfNums tn))).setCell ⟨w.heap.size,1,none⟩ (Value.slice au s.length cu)):=((Only.refl (fun k => k = w.heap.size) w8).setCell (p:=⟨w.heap.size,0,none⟩) (fun _ => rfl) _).setCell (p:=⟨w.heap.size,1,none⟩) (fun _ => rfl) _
     have ow:=ob.own (own_low ownu (show w.heap.size ≤ w7.drew.heap.size from Nat.le_of_lt hBl)) (fun k hk e => by have:=(ownu.lt k hk).1;simp only [World.drew] at this;omega)
     have oo : Only (fun k => k = R) w ((w8.setCell ⟨w.heap.size,0,none⟩ (Value.string (strOfNums tn))).setCell ⟨w.heap.size,1,none⟩ (Value.slice au s.length cu)):=((O7.out.trans o8 (fun _ _ f => f.elim)).setCell (p:=⟨w.heap.size,0,none⟩) (fun hb => absurd hb (Nat.lt_irrefl _)) _).setCell (p:=⟨w.heap.size,1,none⟩) (fun hb => absurd hb (Nat.lt_irrefl _)) _
     have FIN : Hid (K (.returned (.agg #[.string (strOfNums tn),.slice au s.length cu])) ((w8.setCell ⟨w.heap.size,0,none⟩ (Value.string (strOfNums tn))).setCell ⟨w.heap.size,1,none⟩ (Value.slice au s.length cu))):=by
      simp only [Hid];rw [HK.out];exact RP.yes ED.out ow oo
     have G2:=hideIt g2
     clear g0 g1 g2 ob ow oo ownu o8
     go_wp2
     exact bodyPost_ret (results_cell_row rfl _ _ w.heap.size 24 _ (0,0) _ rfl G2.out Tryz.underlying24 rfl Tryz.sizeCh) rfl FIN.out
end Go.Proofs.YthapipgaohlgdaaGreatDoor


namespace Go.Proofs.YthapipgaohlgdaaGreatDoor
set_option maxRecDepth 100000
open Go.RowKit
attribute [local go_sem ↓] Go.wp_at_zero Go.wp_at_succ
set_option maxHeartbeats 1600000 in
theorem encode12_long (t : ByteArray) (u : Value) (s : List (Int × Int)) (w : World) (h : Sps w u s) (hl : 64 < t.size ∨ 65536 < s.length) (hm : s.length ≤ maxLen) (hm2 : t.size ≤ maxLen) :
  Calls Tryz.prog 10 #[.agg #[.string t,u]] w fun e w' => e = .returned (.tuple #[.slice none 0 0,.int .i64 4]) ∧ Only (fun _ => False) w w':=by
 unfold maxLen at hm hm2
 obtain ⟨ao,cap,rfl⟩:=h.len
 clear h
 generalize s.length = n at *
 by_cases h1 : 64 < t.size
 ·have d1 : decide (64 < (t.size : Int)) = true:=by simp;omega
  have d2 : decide (64 < t.size) = true:=by simp;omega
  go_enter Tryz.func10,Tryz.ntmps10
  go_wp2
  go_ret2
  exact ⟨rfl,(Only.refl _ _).alloc _⟩
 ·have h2 : 65536 < n:=by omega
  have d1 : decide (64 < (t.size : Int)) = false:=by simp;omega
  have d2 : decide (64 < t.size) = false:=by simp;omega
  have d3 : decide (65536 < (n : Int)) = true:=by simp;omega
  have d4 : decide (65536 < n) = true:=by simp;omega
  go_enter Tryz.func10,Tryz.ntmps10
  go_wp2
  go_ret2
  exact ⟨rfl,(Only.refl _ _).alloc _⟩
def bytesObj (t : ByteArray) (c : Nat) : Obj:=.cells (bytesRow t c) 5 ((bytesRow t c).size,(bytesRow t c).size + 1)
theorem conv_bytes (t : ByteArray) (W : World) : (convert 9 26 (.string t)).run Tryz.prog W = .ok (.slice (some ⟨W.heap.size,0,none⟩) t.size (grownCap W t.size 0 5)) (W.drew.alloc (bytesObj t (grownCap W t.size 0 5))) :=
 run_bytes_of_string (P:=Tryz.prog) W 9 26 5 t Tryz.underlying9 Tryz.underlying26 Tryz.underlying5
theorem bytesObj_bs {W : World} {t : ByteArray} {b c : Nat} (h : W.heap[b]? = some (bytesObj t c)) (hc : t.size ≤ c) : Bs .u8 W (.slice (some ⟨b,0,none⟩) t.size c) (sb t):=by
 refine ⟨some _,_,by rw [sb_len],by rw [sb_len];omega,fun _ => ⟨b,0,rfl,fun j hj => ?_⟩⟩
 rw [sb_len] at hj
 have e : W.cell? ⟨b,0 + j,none⟩ = (bytesRow t c)[j]?:=by rw [Nat.zero_add];unfold World.cell?;simp only;rw [h];rfl
 rw [e]
 simp [bytesRow,Array.getElem?_append,hj,sb,List.getD_eq_getElem?_getD]
theorem heap_alloc_old {W : World} {k : Nat} {x o : Obj} (h : W.heap[k]? = some x) : (W.alloc o).heap[k]? = some x:=by
 have hk : k < W.heap.size:=by
  rcases Nat.lt_or_ge k W.heap.size with h' | h'
  ·exact h'
  ·rw [Array.getElem?_eq_none h'] at h;cases h
 show (W.heap.push o)[k]? = _
 rw [Array.getElem?_push,if_neg (by omega)];exact h
theorem heap_at_new {W : World} {k : Nat} {o : Obj} (h : W.heap.size = k) : (W.alloc o).heap[k]? = some o:=by subst h;exact heap_alloc_new W o
theorem heap_drew_at {W : World} {k : Nat} {x : Obj} (h : W.heap[k]? = some x) : W.drew.heap[k]? = some x:=h
theorem enc_keep {w3 W W' : World} {B : Nat} {x y : Value} (h : Only (fun _ => False) w3 W ∧ W.cell? ⟨B,0,none⟩ = some x ∧ W.cell? ⟨B,1,none⟩ = some y) (o : Only (fun _ => False) W W') :
  Only (fun _ => False) w3 W' ∧ W'.cell? ⟨B,0,none⟩ = some x ∧ W'.cell? ⟨B,1,none⟩ = some y:=by
 obtain ⟨h1,h2,h3⟩:=h
 have hb : B < W.heap.size:=World.block_lt_of_cell? W _ h2
 have e:=o.block B hb (fun f => f)
 exact ⟨h1.same o,by rw [← h2];unfold World.cell?;rw [e],by rw [← h3];unfold World.cell?;rw [e]⟩
def five {α : Type} (a b c d e : α) : Nat → α
 | 0 => a
 | 1 => b
 | 2 => c
 | 3 => d
 | _ => e
theorem cat_five (a b c d e : List Int) : cat (five a b c d e) 5 = a ++ (b ++ (c ++ (d ++ e))):=by
 simp [cat,List.range_succ,five]
theorem lit1_bs {W : World} {X : Nat} (h : W.heap[X]? = some (.cells #[.int .u8 1] 5 (0,0))) : Bs .u8 W (.slice (some ⟨X,0,none⟩) 1 1) [1]:=by
 refine ⟨some _,1,rfl,Nat.le_refl _,fun _ => ⟨X,0,rfl,fun j hj => ?_⟩⟩
 have : j = 0:=by simpa using hj
 subst this
 simp [World.cell?,h]
theorem concat_five {W : World} {B : Nat} {v0 v1 v2 v3 v4 : Value} {l0 l1 l2 l3 l4 : List Int} (hB : W.heap[B]? = some (.cells #[v0,v1,v2,v3,v4] 26 (0,0)))
  (b0 : Bs .u8 W v0 l0) (b1 : Bs .u8 W v1 l1) (b2 : Bs .u8 W v2 l2) (b3 : Bs .u8 W v3 l3) (b4 : Bs .u8 W v4 l4) (n0 : NoCap v0) (n1 : NoCap v1) (n2 : NoCap v2) (n3 : NoCap v3) (n4 : NoCap v4)
  (hp : 0 < l0.length) (hl : (l0 ++ (l1 ++ (l2 ++ (l3 ++ l4)))).length ≤ 140737488355328) :
  Calls Tryz.prog 22 #[.slice (some ⟨B,0,none⟩) 5 5] W fun e w' => ∃ v',e = .returned v' ∧ w'.ownsRow W.heap.size 5 1 v' (l0 ++ (l1 ++ (l2 ++ (l3 ++ l4)))).length ((l0 ++ (l1 ++ (l2 ++ (l3 ++ l4)))).map (Value.int .u8)) ∧ Only (fun _ => False) W w':=by
 have:=concat_n B 5 (five v0 v1 v2 v3 v4) (five l0 l1 l2 l3 l4) W (by omega) (by omega)
  (fun i hi => by
   have e : W.cell? ⟨B,i,none⟩ = (#[v0,v1,v2,v3,v4] : Array Value)[i]?:=by unfold World.cell?;simp only;rw [hB];rfl
   rw [e]
   match i,hi with
   | 0,_ => rfl
   | 1,_ => rfl
   | 2,_ => rfl
   | 3,_ => rfl
   | 4,_ => rfl)
  (fun i hi => by
   match i,hi with
   | 0,_ => exact b0
   | 1,_ => exact b1
   | 2,_ => exact b2
   | 3,_ => exact b3
   | 4,_ => exact b4)
  (fun i hi => by
   match i,hi with
   | 0,_ => exact n0
   | 1,_ => exact n1
   | 2,_ => exact n2
   | 3,_ => exact n3
   | 4,_ => exact n4)
  (by rw [cat_five];simp only [List.length_append];omega) (by rw [cat_five];exact hl)
 rw [cat_five] at this
 exact this
set_option maxHeartbeats 4000000 in
theorem encode12_bs (t : ByteArray) (u : Value) (s : List (Int × Int)) (w : World) (h : Sps w u s) (hg : Gs s) (ht : t.size ≤ 64) (hl : s.length ≤ 65536) (hT : Tab w) :
  Calls Tryz.prog 10 #[.agg #[.string t,u]] w fun e w' => ∃ v',e = .returned (.tuple #[v',.int .i64 0]) ∧ w'.ownsRow w.heap.size 5 1 v' (ENCC (sb t) s).1.length ((ENCC (sb t) s).1.map (Value.int .u8)) ∧ Only (fun _ => False) w w':=by
 rw [ENCC_of (by rw [sb_len];omega) hl]
 obtain ⟨x8,hx8⟩ : ∃ x8,x8 = e8c (s.map Prod.fst):=⟨_,rfl⟩
 obtain ⟨x11,hx11⟩ : ∃ x11,x11 = e11c (s.map Prod.snd):=⟨_,rfl⟩
 rw [← hx8,← hx11]
 have X8:=hideIt hx8
 have X11:=hideIt hx11
 clear hx8 hx11
 have HS:=hideIt h
 have HG:=hideIt hg
 have HT:=hideIt hT
 have hcv:=conv_bytes t
 obtain ⟨ao,cap,rfl⟩:=h.len
 obtain ⟨n,hn⟩ : ∃ n,n = s.length:=⟨_,rfl⟩
 rw [← hn] at hl HS
 rw [← hn]
 have HN:=hideIt hn
 have d1 : decide (64 < (t.size : Int)) = false:=by simp;omega
 have d2 : decide (64 < t.size) = false:=by simp;omega
 have d3 : decide (65536 < (n : Int)) = false:=by simp;omega
 have d4 : decide (65536 < n) = false:=by simp;omega
 have oa : Only (fun _ => False) w (w.alloc (.cells #[.string t,.slice ao n cap] 24)):=(Only.refl _ _).alloc _
 have AP:=hideIt (apart_any (.slice ao n cap) s _ (HS.out.past oa) (by rw [← hn];exact hl))
 have OA:=hideIt oa
 clear h hg hT hn oa
 go_enter Tryz.func10,Tryz.ntmps10
 go_wp2_with fail
 refine AP.out.mono ?_
 rintro e w1 ⟨u1,u2,rfl,b1,b2,o1⟩
 obtain ⟨a1,c1,e1⟩:=b1.len
 obtain ⟨a2,c2,e2⟩:=b2.len
 subst e1 e2
 have T1:=HT.out.past (OA.out.same o1)
 have B2:=hideIt b2
 have hc1 : Only (fun _ => False) (w.alloc (.cells #[.string t,.slice ao n cap] 24)) w1 ∧ w1.cell? ⟨w.heap.size,0,none⟩ = some (.string t) ∧ w1.cell? ⟨w.heap.size,1,none⟩ = some (.slice ao n cap) :=
  enc_keep ⟨Only.refl _ _,by go_cell,by go_cell⟩ o1
 have E8:=hideIt (encode8_all _ _ w1 b1 HG.out.1)
 have e8 : (ENC8 (s.map Prod.fst)).2 = 0:=by unfold ENC8;rw [if_neg (by rw [List.length_map,← HN.out];omega)]
 have e11 : (ENC11 (s.map Prod.snd)).2 = 0:=by unfold ENC11;rw [if_neg (by rw [List.length_map,← HN.out];omega)]
 have l8 : (e8c (s.map Prod.fst)).length ≤ 600000:=by
  have:=(ENC8_len (l:=s.map Prod.fst) (by rw [List.length_map,← HN.out];exact hl)).1
  rw [List.length_map,← HN.out] at this
  show (ENC8 (s.map Prod.fst)).1.length ≤ 600000
  omega
 have l11 : (e11c (s.map Prod.snd)).length ≤ 600000:=by
  have:=(ENC11_len (l:=s.map Prod.snd) (by rw [List.length_map,← HN.out];exact hl)).1
  rw [List.length_map,← HN.out] at this
  show (ENC11 (s.map Prod.snd)).1.length ≤ 600000
  omega
 rw [e8] at E8
 have E11 : Hid (∀ W,Only (fun _ => False) w1 W → Calls Tryz.prog 21 #[.slice a2 (s.map Prod.snd).length c2] W fun e w' => ∃ u,e = .returned (.tuple #[u,.int .i64 0]) ∧ w'.ownsRow W.heap.size 5 1 u (e11c (s.map Prod.snd)).length ((e11c (s.map Prod.snd)).map (Value.int .u8)) ∧ Only (fun _ => False) W w'):=by
  intro W o
  have:=encode11_all (.slice a2 (s.map Prod.snd).length c2) (s.map Prod.snd) W (B2.out.past o) HG.out.2 (T1.past o)
  rw [e11] at this
  exact this
 have O1:=hideIt (OA.out.same o1)
 have HC1:=hideIt hc1
 have L8:=hideIt l8
 have L11:=hideIt l11
 have eB : ∃ B,B = w.heap.size:=⟨_,rfl⟩
 clear b1 b2 o1 AP hc1 T1 e8 e11 l8 l11 HS OA HT
 generalize (s.map Prod.fst).length = n1 at *
 generalize (s.map Prod.snd).length = n2 at *
 go_wp2_with fail
 refine E8.out.mono ?_
 rintro e w2 ⟨v8,rfl,own8,o2⟩
 obtain ⟨a8,c8,e1⟩:=(Bs.of_own own8).len
 subst e1
 have B8 : Hid (Bs .u8 w2 (.slice a8 (ENC8 (s.map Prod.fst)).1.length c8) (e8c (s.map Prod.fst)) ∧ NoCap (.slice a8 (ENC8 (s.map Prod.fst)).1.length c8)):=⟨Bs.of_own own8,NoCap.of_own own8⟩
 have O2:=hideIt (O1.out.same o2)
 have HC2:=hideIt (enc_keep HC1.out o2)
 have EV:=hideIt (E11.out w2 o2)
 clear own8 o2 E8 E11 HC1
 generalize (ENC8 (s.map Prod.fst)).1.length = m8 at *
 go_wp2_with fail
 refine EV.out.mono ?_
 rintro e w3 ⟨v11,rfl,own11,o3⟩
 obtain ⟨a11,c11,e1⟩:=(Bs.of_own own11).len
 subst e1
 have B8' : Hid (Bs .u8 w3 (.slice a8 m8 c8) (e8c (s.map Prod.fst)) ∧ NoCap (.slice a8 m8 c8)):=⟨B8.out.1.past o3,B8.out.2⟩
 have B11 : Hid (Bs .u8 w3 (.slice a11 (e11c (s.map Prod.snd)).length c11) (e11c (s.map Prod.snd)) ∧ NoCap (.slice a11 (e11c (s.map Prod.snd)).length c11)):=⟨Bs.of_own own11,NoCap.of_own own11⟩
 have O3:=hideIt (O2.out.same o3)
 have HC3:=(enc_keep HC2.out o3).2
 clear own11 o3 EV HC2 B8
 rw [← X8.out] at B8' L8
 rw [← X11.out] at B11 L11
 rw [← X11.out]
 generalize hm11 : x11.length = m11 at *
 have HM11:=hideIt hm11
 clear hm11 HG
 have HLL : Hid (([1] ++ (blk (sb t) ++ (gs n ++ (blk x8 ++ blk x11)))).length ≤ 140737488355328):=by
  have q1:=blk_len (sb t) (by rw [sb_len];omega)
  have q2:=blk_len x8 (by have:=L8.out;omega)
  have q3:=blk_len x11 (by have:=L11.out;have:=HM11.out;omega)
  have q4:=gs_le10 (v:=n) (by omega)
  have q5:=L8.out
  have q6:=L11.out
  have q7:=HM11.out
  rw [sb_len] at q1
  simp only [Hid,List.length_append,List.length_cons,List.length_nil]
  omega
 have hwn : IntKind.u64.wrap (n : Int) = n:=by rw [IntKind.wrap_u64];omega
 obtain ⟨hca,hcb⟩:=HC3
 clear O1 O2
 go_wp2_with fail
 have hS3 : Only (fun _ => False) w3 w3 ∧ w3.cell? ⟨w.heap.size,0,none⟩ = some (Value.string t) ∧ w3.cell? ⟨w.heap.size,1,none⟩ = some (Value.slice ao n cap):=⟨Only.refl _ _,hca,hcb⟩
 clear hca hcb
 go_region_held (fun W => Only (fun _ => False) w3 W ∧ W.cell? ⟨w.heap.size,0,none⟩ = some (Value.string t) ∧ W.cell? ⟨w.heap.size,1,none⟩ = some (Value.slice ao n cap)) ((refine enc_keep hS3 ?_;(repeat (first | with_reducible exact Only.refl _ _ | assumption | (with_reducible refine Only.drew ?_) | (with_reducible refine Only.alloc ?_ _) | (with_reducible apply Only.same;case k => assumption)))))
  (first
   | (go_at_call 24;refine (append_any (.slice none 0 0) [] n _ (Bs.nil _ _) NoCap.nil (by simp) (by omega) (by omega)).mono ?_;rintro e wv ⟨vv,rfl,ownv,ov⟩;rw [List.nil_append,Int.toNat_natCast] at ownv;(obtain ⟨av,cv,ev⟩:=(Bs.of_own ownv).len);subst ev)
   | (go_at_call_of 23 (t.size);refine (blk_any _ (sb t) _ (bytesObj_bs (by (repeat (first | (with_reducible refine heap_at_new ?_;simp;done) | (with_reducible refine heap_drew_at ?_) | (with_reducible refine heap_alloc_old ?_)))) (grownCap_ge _ _ _ _)) (NoCap.some _ _ _) (by rw [sb_len];omega)).mono ?_;rintro e wt ⟨vt,rfl,ownt,ot⟩;(obtain ⟨at1,ct,et⟩:=(Bs.of_own ownt).len);subst et)
   | (go_at_call_of 23 m8;refine (blk_any _ x8 _ (B8'.out.1.past (by (repeat (first | with_reducible exact Only.refl _ _ | assumption | (with_reducible refine Only.drew ?_) | (with_reducible refine Only.alloc ?_ _) | (with_reducible apply Only.same;case k => assumption))))) B8'.out.2 (by have:=L8.out;omega)).mono ?_;rintro e w8 ⟨v8,rfl,own8,o8⟩;(obtain ⟨ab8,cb8,eb8⟩:=(Bs.of_own own8).len);subst eb8)
   | (go_at_call_of 23 m11;refine (blk_any _ x11 _ (B11.out.1.past (by (repeat (first | with_reducible exact Only.refl _ _ | assumption | (with_reducible refine Only.drew ?_) | (with_reducible refine Only.alloc ?_ _) | (with_reducible apply Only.same;case k => assumption))))) B11.out.2 (by have:=L11.out;have:=HM11.out;omega)).mono ?_;rintro e wp ⟨vp,rfl,ownp,op⟩;(obtain ⟨ap,cp,ep⟩:=(Bs.of_own ownp).len);subst ep)
   | (go_at_call 22;refine Calls.mono (concat_five (l0:=[1]) (l1:=blk (sb t)) (l2:=gs n) (l3:=blk x8) (l4:=blk x11) (by (repeat (first | (with_reducible refine heap_at_new ?_;simp;done) | (with_reducible refine heap_drew_at ?_) | (with_reducible refine heap_alloc_old ?_)))) (by (repeat (first | (with_reducible refine lit1_bs ?_;(repeat (first | (with_reducible refine heap_at_new ?_;simp;done) | (with_reducible refine heap_drew_at ?_) | (with_reducible refine heap_alloc_old ?_)));done) | (with_reducible refine Bs.past ?_ ((Only.refl _ _).drew)) | (with_reducible refine Bs.past ?_ ((Only.refl _ _).alloc _)) | (with_reducible apply Bs.past;case o => assumption)))) (by (repeat (first | (with_reducible apply Bs.of_own;assumption) | (with_reducible refine Bs.past ?_ ((Only.refl _ _).drew)) | (with_reducible refine Bs.past ?_ ((Only.refl _ _).alloc _)) | (with_reducible apply Bs.past;case o => assumption)))) (by (repeat (first | (with_reducible apply Bs.of_own;assumption) | (with_reducible refine Bs.past ?_ ((Only.refl _ _).drew)) | (with_reducible refine Bs.past ?_ ((Only.refl _ _).alloc _)) | (with_reducible apply Bs.past;case o => assumption)))) (by (repeat (first | (with_reducible apply Bs.of_own;assumption) | (with_reducible refine Bs.past ?_ ((Only.refl _ _).drew)) | (with_reducible refine Bs.past ?_ ((Only.refl _ _).alloc _)) | (with_reducible apply Bs.past;case o => assumption)))) (by (repeat (first | (with_reducible apply Bs.of_own;assumption) | (with_reducible refine Bs.past ?_ ((Only.refl _ _).drew)) | (with_reducible refine Bs.past ?_ ((Only.refl _ _).alloc _)) | (with_reducible apply Bs.past;case o => assumption)))) (NoCap.some _ _ _) (by (with_reducible exact NoCap.of_own (by assumption))) (by (with_reducible exact NoCap.of_own (by assumption))) (by (with_reducible exact NoCap.of_own (by assumption))) (by (with_reducible exact NoCap.of_own (by assumption))) (by simp) HLL.out) ?_;rintro e wc ⟨vc,rfl,ownc,oc⟩))
 all_goals
  go_wp2
  go_ret2
  refine ⟨vc,rfl,own_low (show World.ownsRow _ _ _ _ _ (1 :: (blk (sb t) ++ (gs n ++ (blk x8 ++ blk x11)))).length ((1 :: (blk (sb t) ++ (gs n ++ (blk x8 ++ blk x11)))).map (Value.int .u8)) from ownc) (Nat.le_trans O3.out.size (Only.size (S:=fun _ => False) ?_)),Only.same O3.out ?_⟩
  all_goals (repeat (first | with_reducible exact Only.refl _ _ | assumption | (with_reducible refine Only.drew ?_) | (with_reducible refine Only.alloc ?_ _) | (with_reducible apply Only.same;case k => assumption)))
theorem encode12_all (t : ByteArray) (u : Value) (s : List (Int × Int)) (w : World) (h : Sps w u s) (hg : Gs s) (hm : s.length ≤ maxLen) (hm2 : t.size ≤ maxLen) (hT : Tab w) :
  Calls Tryz.prog 10 #[.agg #[.string t,u]] w fun e w' => ∃ v',e = .returned (.tuple #[v',.int .i64 (ENCC (sb t) s).2]) ∧ w'.ownsRow w.heap.size 5 1 v' (ENCC (sb t) s).1.length ((ENCC (sb t) s).1.map (Value.int .u8)) ∧ Only (fun _ => False) w w':=by
 by_cases hl : 64 < t.size ∨ 65536 < s.length
 ·rw [ENCC_long (by rw [sb_len];exact hl)]
  refine (encode12_long t u s w h hl hm hm2).mono ?_
  rintro e w' ⟨rfl,o⟩
  exact ⟨_,rfl,World.ownsRow_nil _ _ _ _,o⟩
 ·have e : (ENCC (sb t) s).2 = 0:=by rw [ENCC_of (by rw [sb_len];omega) (by omega)]
  rw [e]
  exact encode12_bs t u s w h hg (by omega) (by omega) hT
end Go.Proofs.YthapipgaohlgdaaGreatDoor


namespace Go.Proofs.YthapipgaohlgdaaGreatDoor
set_option maxRecDepth 100000
open Go.RowKit
set_option maxHeartbeats 1600000 in
theorem catch_idle (p q : Nat) (w : World) :
  CallsD Tryz.prog 31 #[.pointer (some ⟨p,0,none⟩),.pointer (some ⟨q,0,none⟩)] .returning w fun e u' w' => e = .returned (.tuple #[]) ∧ u' = .returning ∧ w = w':=by
 refine callsD_of_wpS Tryz.func31 rfl fun c₀ cs hu => ?_
 apply wpS_seq
 apply wpS_region
 simp [wpOpsS,go_sem,recoverD,hu,Tryz.ntmps31,Exit.thenS]
 refine wpS_of_wp ?_
 go_wp2
 cases c₀
 simp_all [bodyPostS,results,Tryz.results31]
set_option maxHeartbeats 1600000 in
theorem catch_err (p q : Nat) (c : Int) (older : List PanicEntry) (w : World) (x0 x1 y : Value) (h0 : w.cell? ⟨p,0,none⟩ = some x0) (h1 : w.cell? ⟨p,1,none⟩ = some x1) (hq : w.cell? ⟨q,0,none⟩ = some y)
  (f0 : w.frozen? ⟨p,0,none⟩ = false) (f1 : w.frozen? ⟨p,1,none⟩ = false) (fq : w.frozen? ⟨q,0,none⟩ = false) (hpq : ¬ p = q) :
  CallsD Tryz.prog 31 #[.pointer (some ⟨p,0,none⟩),.pointer (some ⟨q,0,none⟩)] (.panicking ({ v:=.iface 27 (.int .i64 c),recovered:=false } :: older)) w fun e u' w' =>
   e = .returned (.tuple #[]) ∧ u' = .panicking ({ v:=.iface 27 (.int .i64 c),recovered:=true } :: older) ∧ w' = ((w.setCell ⟨p,0,none⟩ (.string ⟨#[]⟩)).setCell ⟨p,1,none⟩ (.slice none 0 0)).setCell ⟨q,0,none⟩ (.int .i64 c):=by
 have hta : ∀ (W : World),(Instr.typeAssert (.iface 27 (.int .i64 c)) 20 27 true).run Tryz.prog W = .ok (.tuple #[.int .i64 c,.bool true]) W:=fun _ => by kernel_rfl
 have hqp : ¬ q = p:=fun e => hpq e.symm
 refine callsD_of_wpS Tryz.func31 rfl fun c₀ cs hu => ?_
 apply wpS_seq
 apply wpS_region
 simp [wpOpsS,go_sem,recoverD,hu,Tryz.ntmps31,Exit.thenS]
 refine wpS_of_wp ?_
 go_wp2
 simp [bodyPostS,results,Tryz.results31]
theorem results_cc {P : Program} {fn : Func} {p q : Tmp} {ty ty2 : TypeId} (h : fn.results = #[.cell p ty,.cell q ty2]) (tmps : Array Value) (w : World) {a b : Addr} {v1 v2 : Value}
  (hp : tmps.getD p undef = .pointer (some a)) (hq : tmps.getD q undef = .pointer (some b)) (h1 : (loadVar ty a).run P w = .ok v1 w) (h2 : (loadVar ty2 b).run P w = .ok v2 w) :
  (results fn tmps).run P w = .ok (.tuple #[v1,v2]) w:=by
 have hp' : tmps[p]?.getD undef = .pointer (some a):=by simpa using hp
 have hq' : tmps[q]?.getD undef = .pointer (some b):=by simpa using hq
 simp [results,h,hp',hq',asAddr,h1,h2]
theorem load_errno {W : World} {b : Nat} {c : Int} (h : W.heap[b]? = some (.cells #[.int .i64 c] 27 (0,0))) : (loadVar 27 ⟨b,0,none⟩).run Tryz.prog W = .ok (.int .i64 c) W:=by
 have hc : W.cell? ⟨b,0,none⟩ = some (.int .i64 c):=by simp [World.cell?,h]
 simp [go_sem,hc]
theorem load_chunk {W : World} {b : Nat} {x y : Value} (h : W.heap[b]? = some (.cells #[x,y] 24 (0,0))) : (loadVar 24 ⟨b,0,none⟩).run Tryz.prog W = .ok (.agg #[x,y]) W :=
 run_loadVar_row W b 24 24 _ (0,0) _ h Tryz.underlying24 rfl Tryz.sizeCh
theorem res_cells {W : World} {b : Nat} {x0 x1 z0 y0 y1 z1 : Value} {T U : TypeId} (h : W.heap[b]? = some (.cells #[x0,x1] T (0,0))) (h' : W.heap[b + 1]? = some (.cells #[z0] U (0,0))) :
  (((W.setCell ⟨b,0,none⟩ y0).setCell ⟨b,1,none⟩ y1).setCell ⟨b + 1,0,none⟩ z1).heap[b]? = some (.cells #[y0,y1] T (0,0)) ∧ (((W.setCell ⟨b,0,none⟩ y0).setCell ⟨b,1,none⟩ y1).setCell ⟨b + 1,0,none⟩ z1).heap[b + 1]? = some (.cells #[z1] U (0,0)):=by
 have g1:=heap_setCell_same W b 0 _ _ y0 h
 have g2:=heap_setCell_same _ b 1 _ _ y1 g1
 have o1 : Only (fun k => k = b) W ((W.setCell ⟨b,0,none⟩ y0).setCell ⟨b,1,none⟩ y1):=((Only.refl (fun k => k = b) W).setCell (p:=⟨b,0,none⟩) (fun _ => rfl) _).setCell (p:=⟨b,1,none⟩) (fun _ => rfl) _
 have g3:=o1.heap h' (fun e => by omega)
 have o2 : Only (fun k => k = b + 1) ((W.setCell ⟨b,0,none⟩ y0).setCell ⟨b,1,none⟩ y1) (((W.setCell ⟨b,0,none⟩ y0).setCell ⟨b,1,none⟩ y1).setCell ⟨b + 1,0,none⟩ z1):=(Only.refl (fun k => k = b + 1) _).setCell (p:=⟨b + 1,0,none⟩) (fun _ => rfl) _
 exact ⟨o2.heap (by simpa using g2) (fun e => by omega),by have:=heap_setCell_same _ (b + 1) 0 _ _ z1 g3;simpa using this⟩
set_option maxHeartbeats 1600000 in
theorem decode12_any (v : Value) (ys : List Int) (w : World) (h : Bs .u8 w v ys) (hr : ∀ y ∈ ys,0 ≤ y ∧ y ≤ 255) (hl : ys.length ≤ 1000000000) (hT : Tab w) :
  Calls Tryz.prog 16 #[v] w fun e w' => ∃ u,e = .returned (.tuple #[.agg #[.string (strOfNums (DECC ys).1.1),u],.int .i64 (DECC ys).2]) ∧ w'.ownsRow w.heap.size 44 2 u (DECC ys).1.2.length (scells (DECC ys).1.2) ∧ Only (fun _ => False) w w':=by
 have hmf : ∀ (fn : Fn) (first cap : Array Value) (w : World),(Instr.makeFunc fn first cap).run Tryz.prog w = .ok (.func fn first cap) w:=fun _ _ _ _ => rfl
 have NW : Hid (∀ W,Only (fun _ => False) w W → Calls Tryz.prog 33 #[v] W fun e w' => ∃ R v',e = .returned (.pointer (some ⟨R,0,none⟩)) ∧ CurAt 92 w' R v' ys ∧ Only (fun _ => False) W w' ∧ W.heap.size ≤ R ∧ R < w'.heap.size ∧ (∀ k,v'.ownBlock = some k → W.heap.size ≤ k ∧ k < w'.heap.size)) :=
  fun W o => new_bs v ys W (h.past o) hr (by omega)
 have HT:=hideIt hT
 have HLL:=hideIt hl
 have hw0:=hT.pos
 obtain ⟨D,hD⟩ : ∃ D,D = DECC ys:=⟨_,rfl⟩
 have HE : Hid (D.2 ≠ 0 → D.1 = chNone):=by simp only [Hid];rw [hD];exact DECC_err
 have HD:=hideIt hD
 rw [← hD]
 clear h hr hT hl hD
 go_enter_defers Tryz.func16,Tryz.ntmps16
 go_wp2_with fail
 refine (NW.out _ (((Only.refl _ _).alloc _).alloc _)).mono ?_
 rintro e w1 ⟨R,v',rfl,c1,o1,hR1,hR2,hvk⟩
 have hR1' : w.heap.size + 2 ≤ R:=by simpa using hR1
 have g0:=o1.heap (heap_alloc_old (o:=.cells #[.int .i64 0] 27) (heap_alloc_new w (.cells #[.string ⟨#[]⟩,.slice none 0 0] 24))) (fun f => f)
 have g1:=o1.heap (heap_at_new (W:=w.alloc (.cells #[.string ⟨#[]⟩,.slice none 0 0] 24)) (o:=.cells #[.int .i64 0] 27) (k:=w.heap.size + 1) (by simp)) (fun f => f)
 have oo : Only (fun _ => False) w w1:=Only.same (((Only.refl _ _).alloc _).alloc _) o1
 have RD:=hideIt (read12_any c1 (fun k hk => (hvk k hk).2) HLL.out (HT.out.past oo) (by omega) hR2)
 rw [← HD.out] at RD
 have O1:=hideIt oo
 have G0:=hideIt g0
 have G1:=hideIt g1
 clear c1 o1 hvk g0 g1 oo NW hR1 HLL
 go_wp2_with fail
 refine RD.out.mono ?_
 rintro e w2 ⟨hh,o2⟩
 have K0:=o2.heap G0.out (fun e => by omega)
 have K1:=o2.heap G1.out (fun e => by omega)
 have O2 : Hid (Only (fun _ => False) w w2):=by
  have s1:=O1.out
  exact s1.trans o2 (fun k hk e => by omega)
 clear o2 RD G0 G1
 rcases hh with ⟨hd,u,rfl,ownu⟩ | ⟨hd,rfl⟩
 ·obtain ⟨au,cu,eu⟩:=(Sps.of_own ownu).len
  subst eu
  obtain ⟨q1,q2,q3,q4⟩:=rd_cells K0
  obtain ⟨p1,p2⟩:=one_cell K1
  obtain ⟨F0,F1⟩:=res_cells (y0:=.string (strOfNums D.1.1)) (y1:=.slice au D.1.2.length cu) (z1:=.int .i64 0) K0 K1
  have ob : Only (fun k => k = w.heap.size ∨ k = w.heap.size + 1) w2 (((w2.setCell ⟨w.heap.size,0,none⟩ (.string (strOfNums D.1.1))).setCell ⟨w.heap.size,1,none⟩ (.slice au D.1.2.length cu)).setCell ⟨w.heap.size + 1,0,none⟩ (.int .i64 0)) :=
   (((Only.refl (fun k => k = w.heap.size ∨ k = w.heap.size + 1) w2).setCell (p:=⟨w.heap.size,0,none⟩) (fun _ => .inl rfl) _).setCell (p:=⟨w.heap.size,1,none⟩) (fun _ => .inl rfl) _).setCell (p:=⟨w.heap.size + 1,0,none⟩) (fun _ => .inr rfl) _
  have ow:=hideIt (ob.own (own_low ownu O1.out.size) (fun k hk e => by have:=(ownu.lt k hk).1;omega))
  have ox:=hideIt (O2.out.trans ob (fun k hk e => by omega))
  have HF0:=hideIt (load_chunk F0)
  have HF1:=hideIt (load_errno F1)
  clear F0 F1 ob ownu K0 K1
  go_wp2
  refine leaves_cons (f:=31) (args:=#[.pointer (some ⟨w.heap.size,0,none⟩),.pointer (some ⟨w.heap.size + 1,0,none⟩)]) (by simp) (by simp [go_sem]) ?_
  refine (catch_idle w.heap.size (w.heap.size + 1) _).mono ?_
  rintro e u' w'' ⟨rfl,rfl,rfl⟩
  refine ⟨_,results_cc Tryz.results16 _ _ rfl rfl HF0.out HF1.out,?_⟩
  exact ⟨_,by rw [hd],ow.out,ox.out⟩
 ·have hn:=HE.out hd
  obtain ⟨q1,q2,q3,q4⟩:=rd_cells K0
  obtain ⟨p1,p2⟩:=one_cell K1
  obtain ⟨F0,F1⟩:=res_cells (y0:=.string ⟨#[]⟩) (y1:=.slice none 0 0) (z1:=.int .i64 D.2) K0 K1
  have ob : Only (fun k => k = w.heap.size ∨ k = w.heap.size + 1) w2 (((w2.setCell ⟨w.heap.size,0,none⟩ (.string ⟨#[]⟩)).setCell ⟨w.heap.size,1,none⟩ (.slice none 0 0)).setCell ⟨w.heap.size + 1,0,none⟩ (.int .i64 D.2)) :=
   (((Only.refl (fun k => k = w.heap.size ∨ k = w.heap.size + 1) w2).setCell (p:=⟨w.heap.size,0,none⟩) (fun _ => .inl rfl) _).setCell (p:=⟨w.heap.size,1,none⟩) (fun _ => .inl rfl) _).setCell (p:=⟨w.heap.size + 1,0,none⟩) (fun _ => .inr rfl) _
  have ox:=hideIt (O2.out.trans ob (fun k hk e => by omega))
  have HF0:=hideIt (load_chunk F0)
  have HF1:=hideIt (load_errno F1)
  have CE:=hideIt (catch_err w.heap.size (w.heap.size + 1) D.2 [] w2 _ _ _ q1 q2 p1 q3 q4 p2 (by omega))
  clear F0 F1 ob K0 K1
  unfold pan
  go_wp2
  refine leaves_cons (f:=31) (args:=#[.pointer (some ⟨w.heap.size,0,none⟩),.pointer (some ⟨w.heap.size + 1,0,none⟩)]) (by simp) (by simp [go_sem]) ?_
  refine CE.out.mono ?_
  rintro e u' w'' ⟨rfl,rfl,rfl⟩
  refine ⟨_,results_cc Tryz.results16 _ _ rfl rfl HF0.out HF1.out,?_⟩
  rw [hn]
  exact ⟨_,rfl,World.ownsRow_nil _ _ _ _,ox.out⟩
end Go.Proofs.YthapipgaohlgdaaGreatDoor


namespace Go.Proofs.YthapipgaohlgdaaGreatDoor
set_option maxRecDepth 100000
open Go.RowKit
theorem bool_ret {a b : Bool} (h : a = b) : Ending.returned (.bool a) = .returned (.bool b):=by rw [h]
theorem sps_ne {s s' : List (Int × Int)} {k : Nat} (h : s.getD k (0,0) ≠ s'.getD k (0,0)) : s ≠ s':=fun e => h (by rw [e])
theorem sps_eq {s s' : List (Int × Int)} (hl : s.length = s'.length) (h : ∀ j,j < s.length → s.getD j (0,0) = s'.getD j (0,0)) : s = s':=by
 refine List.ext_getElem hl (fun i h1 h2 => ?_)
 have:=h i h1
 rw [List.getD_eq_getElem?_getD,List.getD_eq_getElem?_getD,List.getElem?_eq_getElem h1,List.getElem?_eq_getElem h2] at this
 exact this
theorem tl_inj {t t' : ByteArray} (h : t.toList = t'.toList) : t = t':=by
 rw [ByteArray.toList_eq,ByteArray.toList_eq] at h
 cases t;cases t'
 simp only [ByteArray.mk.injEq]
 exact Array.toList_inj.1 h
theorem cell_past {W W' : World} {a : Addr} {x : Value} (o : Only (fun _ => False) W W') (h : W.cell? a = some x) : W'.cell? a = some x:=by
 have hb:=World.block_lt_of_cell? W _ h
 rw [← h];unfold World.cell?;rw [o.block a.block hb (fun f => f)]
set_option maxHeartbeats 1600000 in
theorem csame_any (t t' : ByteArray) (u u' : Value) (s s' : List (Int × Int)) (w : World) (h : Sps w u s) (h' : Sps w u' s') (hm : s.length ≤ maxLen) :
  Calls Tryz.prog 37 #[.agg #[.string t,u],.agg #[.string t',u']] w fun e w' => e = .returned (.bool (decide (t = t' ∧ s = s'))) ∧ Only (fun _ => False) w w':=by
 unfold maxLen at hm
 have HS:=hideIt h
 have HS':=hideIt h'
 obtain ⟨ao,cap,rfl⟩:=h.len
 obtain ⟨ao',cap',rfl⟩:=h'.len
 clear h h'
 by_cases ht : t = t'
 ·subst ht
  by_cases hl : s.length = s'.length
  ·rw [← hl]
   rw [← hl] at HS'
   obtain ⟨n,hn⟩ : ∃ n,n = s.length:=⟨_,rfl⟩
   rw [← hn] at hm HS HS'
   rw [← hn]
   obtain ⟨B,hB⟩ : ∃ B,B = decide (t = t ∧ s = s'):=⟨_,rfl⟩
   rw [← hB]
   have HB:=hideIt hB
   have HN:=hideIt hn
   have HLL:=hideIt hl
   have hdn : ((n : Int) != (n : Int)) = false:=by simp
   clear hl hn hB
   obtain ⟨W0,hW0⟩ : ∃ W0,W0 = (w.alloc (.cells #[.string t,.slice ao n cap] 24)).alloc (.cells #[.string t,.slice ao' n cap'] 24):=⟨_,rfl⟩
   have O0 : Hid (Only (fun _ => False) w W0):=by simp only [Hid];rw [hW0];exact ((Only.refl _ _).alloc _).alloc _
   have c1 : W0.cell? ⟨w.heap.size,1,none⟩ = some (.slice ao n cap):=by rw [hW0];go_cell
   have c2 : W0.cell? ⟨w.heap.size + 1,1,none⟩ = some (.slice ao' n cap'):=by rw [hW0];go_cell
   have HS0:=hideIt (HS.out.past O0.out)
   have HS0':=hideIt (HS'.out.past O0.out)
   go_enter Tryz.func37,Tryz.ntmps37
   go_wp2
   rw [← hW0]
   clear hW0 HS HS'
   go_loopw [5] (fun i wr => ∃ k : Nat,k ≤ n ∧ i = .int .i64 k ∧ Only (fun _ => False) W0 wr ∧ (∀ j,j < k → s.getD j (0,0) = s'.getD j (0,0))) (fun i _ => n - (intOf i).toNat)
   case atStart => exact ⟨0,Nat.zero_le _,rfl,Only.refl _ _,fun j hj => by omega⟩
   case round =>
    obtain ⟨k,hk,rfl,od,hall⟩:=hrel
    have c1':=cell_past od c1
    have c2':=cell_past od c2
    have HALL:=hideIt hall
    have OD:=hideIt od
    clear hall c1 c2
    by_cases hlt : k < n
    ·have dlt : decide ((k : Int) < (n : Int)) = true:=by simp;omega
     have dlt2 : (k : Int) < (n : Int):=by omega
     have hkl : k < s.length:=by rw [← HN.out];exact hlt
     have hkl' : k < s'.length:=by rw [← HLL.out,← HN.out];exact hlt
     obtain ⟨b,off,cp,e1,x1,x2⟩:=(HS0.out.past od).at k hkl
     have ea : ao = some ⟨b,off,none⟩:=by simp at e1;exact e1.1
     subst ea
     obtain ⟨b',off',cp',e1',x1',x2'⟩:=(HS0'.out.past od).at k hkl'
     have ea : ao' = some ⟨b',off',none⟩:=by simp at e1';exact e1'.1
     subst ea
     clear e1 e1' hkl hkl' od HS0 HS0'
     obtain ⟨p,hp⟩ : ∃ p,p = s.getD k (0,0):=⟨_,rfl⟩
     obtain ⟨q,hq⟩ : ∃ q,q = s'.getD k (0,0):=⟨_,rfl⟩
     rw [← hp] at x1 x2
     rw [← hq] at x1' x2'
     have HP:=hideIt hp
     have HQ:=hideIt hq
     clear hp hq
     obtain ⟨p1,p2⟩:=p
     obtain ⟨q1,q2⟩:=q
     simp only at x1 x2 x1' x2'
     by_cases h1 : p1 = q1
     ·subst h1
      have n1 : (p1 != p1) = false:=by simp
      by_cases h2 : p2 = q2
      ·subst h2
       have n2 : (p2 != p2) = false:=by simp
       go_wp2_with fail
       go_quiet (fail)
       go_wp2
       go_roundw
       case rel =>
        refine ⟨k + 1,by omega,by go_num,OD.out.drewN nq,fun j hj => ?_⟩
        by_cases hjk : j < k
        ·exact HALL.out j hjk
        ·obtain rfl : j = k:=by omega
         rw [← HP.out,← HQ.out]
       case measure => simp [intOf];omega
      ·have n2 : (p2 != q2) = true:=by simpa using h2
       have HF : Hid (false = B):=by
        have:=HB.out
        simp only [Hid];rw [this]
        have hne : s ≠ s':=sps_ne (k:=k) (by rw [← HP.out,← HQ.out];simpa using h2)
        simp [hne]
       go_wp2_with fail
       go_quiet (fail)
       go_wp2
       go_ret
       exact ⟨bool_ret HF.out,O0.out.same (OD.out.drewN nq)⟩
     ·have n1 : (p1 != q1) = true:=by simpa using h1
      have HF : Hid (false = B):=by
       have:=HB.out
       simp only [Hid];rw [this]
       have hne : s ≠ s':=sps_ne (k:=k) (by rw [← HP.out,← HQ.out];intro e;exact h1 (congrArg Prod.fst e))
       simp [hne]
      go_wp2_with fail
      go_quiet (fail)
      go_wp2
      go_ret
      exact ⟨bool_ret HF.out,O0.out.same (OD.out.drewN nq)⟩
    ·obtain rfl : k = n:=by omega
     have dlt : decide ((k : Int) < (k : Int)) = false:=by simp
     have HF : Hid (true = B):=by
      have:=HB.out
      simp only [Hid];rw [this]
      have he : s = s':=sps_eq HLL.out (by rw [← HN.out];exact HALL.out)
      simp [he]
     clear od
     go_wp2
     go_ret
     exact ⟨bool_ret HF.out,O0.out.same OD.out⟩
  ·have hdn : ((s.length : Int) != (s'.length : Int)) = true:=by rw [bne_iff_ne];omega
   have hf : decide (t = t ∧ s = s') = false:=by simp;intro e;exact hl (by rw [e])
   rw [hf]
   generalize s.length = n at *
   generalize s'.length = n' at *
   clear hf
   go_enter Tryz.func37,Tryz.ntmps37
   go_wp2
   go_ret
   exact ⟨rfl,((Only.refl _ _).alloc _).alloc _⟩
 ·have hd2 : ¬ t.toList = t'.toList:=fun e => ht (tl_inj e)
  have hd3 : decide (t.toList = t'.toList) = false:=by simpa using hd2
  have hf : decide (t = t' ∧ s = s') = false:=by simp [ht]
  rw [hf]
  go_enter Tryz.func37,Tryz.ntmps37
  go_wp2
  go_ret
  exact ⟨rfl,((Only.refl _ _).alloc _).alloc _⟩
set_option maxHeartbeats 400000 in
theorem lsame12_any (t t' : ByteArray) (u u' : Value) (s s' : List (Int × Int)) (w : World) (h : Sps w u s) (h' : Sps w u' s') (hm : s.length ≤ maxLen) :
  Calls Tryz.prog 18 #[.agg #[.string t,u],.agg #[.string t',u']] w fun e w' => e = .returned (.bool (decide (t = t' ∧ s = s'))) ∧ Only (fun _ => False) w w':=by
 have CS : Hid (∀ W,Only (fun _ => False) w W → Calls Tryz.prog 37 #[.agg #[.string t,u],.agg #[.string t',u']] W fun e w' => e = .returned (.bool (decide (t = t' ∧ s = s'))) ∧ Only (fun _ => False) W w') :=
  fun W o => csame_any t t' u u' s s' W (h.past o) (h'.past o) hm
 obtain ⟨ao,cap,rfl⟩:=h.len
 obtain ⟨ao',cap',rfl⟩:=h'.len
 obtain ⟨B,hB⟩ : ∃ B,B = decide (t = t' ∧ s = s'):=⟨_,rfl⟩
 rw [← hB] at CS
 rw [← hB]
 clear h h' hm hB
 generalize s.length = n at *
 generalize s'.length = n' at *
 go_enter Tryz.func18,Tryz.ntmps18
 go_wp2_with fail
 refine (CS.out _ (((Only.refl _ _).alloc _).alloc _)).mono ?_
 rintro e w1 ⟨rfl,o1⟩
 have O1:=hideIt o1
 clear o1 CS
 go_wp2
 go_ret
 exact ⟨rfl,Only.same (((Only.refl _ _).alloc _).alloc _) O1.out⟩
end Go.Proofs.YthapipgaohlgdaaGreatDoor


namespace Go.Proofs.YthapipgaohlgdaaGreatDoor
set_option maxRecDepth 100000
open Go.RowKit
def ex17 : List Int:=[1,1,97,1,2,1,10,9,0,0,0,0,0,0,0,0,7]
theorem ex_enc : ENCC (sb ⟨#[97]⟩) [(5,7)] = (ex17,0):=by decide +kernel
theorem ex_gs : Gs [(5,7)]:=⟨by intro x hx;simp at hx;subst hx;simp [G64],by intro x hx;simp at hx;subst hx;simp⟩
theorem ex_dec : DECC ex17 = ((sb ⟨#[97]⟩,[(5,7)]),0):=by
 have:=DECC_ENCC (tn:=sb ⟨#[97]⟩) (s:=[(5,7)]) (by decide) (by decide) ex_gs
 rw [ex_enc] at this
 exact this
theorem ex_rng : ∀ y ∈ ex17,0 ≤ y ∧ y ≤ 255:=by unfold ex17;intro y hy;simp at hy;omega
theorem sps_one {W : World} {b : Nat} {x y : Int} (h : W.heap[b]? = some (.cells #[.int .i64 x,.int .u64 y] 44 (0,0))) : Sps W (.slice (some ⟨b,0,none⟩) 1 1) [(x,y)]:=by
 refine ⟨some _,1,rfl,Nat.le_refl _,fun _ => ⟨b,0,rfl,fun j hj => ?_⟩⟩
 have : j = 0:=by simpa using hj
 subst this
 exact ⟨by simp [World.cell?,h],by simp [World.cell?,h]⟩
set_option maxHeartbeats 1600000 in
theorem awake_any (w : World) (hT : Tab w) : Calls Tryz.prog 9 #[] w fun e w' => e = .returned (.bool true) ∧ Only (fun _ => False) w w':=by
 obtain ⟨WA,hWA⟩ : ∃ WA,WA = ((w.alloc (.cells #[.int .i64 5,.int .u64 7] 44)).alloc (.cells #[.string ⟨#[97]⟩,.slice (some ⟨w.heap.size,0,none⟩) 1 1] 24)).alloc (.cells #[.int .u8 1,.int .u8 1,.int .u8 97,.int .u8 1,.int .u8 2,.int .u8 1,.int .u8 10,.int .u8 9,.int .u8 0,.int .u8 0,.int .u8 0,.int .u8 0,.int .u8 0,.int .u8 0,.int .u8 0,.int .u8 0,.int .u8 7] 5):=⟨_,rfl⟩
 have OA : Only (fun _ => False) w WA:=by rw [hWA];exact (((Only.refl _ _).alloc _).alloc _).alloc _
 have G0 : WA.heap[w.heap.size]? = some (.cells #[.int .i64 5,.int .u64 7] 44 (0,0)):=by rw [hWA];exact heap_alloc_old (heap_alloc_old (heap_at_new rfl))
 have G1 : WA.heap[w.heap.size + 1]? = some (.cells #[.string ⟨#[97]⟩,.slice (some ⟨w.heap.size,0,none⟩) 1 1] 24 (0,0)):=by rw [hWA];exact heap_alloc_old (heap_at_new (by simp))
 have G2 : Bs .u8 WA (.slice (some ⟨w.heap.size + 1 + 1,0,none⟩) 17 17) ex17:=by rw [hWA];exact Bs.litN .u8 _ 5 ex17 _ _ (by simp) rfl
 have EN:=encode12_all ⟨#[97]⟩ (.slice (some ⟨w.heap.size,0,none⟩) 1 1) [(5,7)] WA (sps_one G0) ex_gs (by decide) (by decide) (hT.past OA)
 rw [ex_enc] at EN
 have EN:=hideIt EN
 have HG0:=hideIt G0
 have HG1:=hideIt G1
 have HG2:=hideIt G2
 have HOA:=hideIt OA
 have HT:=hideIt hT
 clear G0 G1 G2 OA hT
 go_enter Tryz.func9,Tryz.ntmps9
 go_wp2_with fail
 rw [← hWA]
 refine EN.out.mono ?_
 rintro e w1 ⟨v1,rfl,own1,o1⟩
 have DE:=decode12_any _ ex17 w1 (HG2.out.past o1) ex_rng (by decide) (HT.out.past (HOA.out.same o1))
 rw [ex_dec] at DE
 have DE:=hideIt DE
 have B1:=hideIt (Bs.of_own own1)
 obtain ⟨a1,c1,e1⟩:=(Bs.of_own own1).len
 subst e1
 have HO1:=hideIt o1
 clear own1 o1 EN
 go_wp2_with fail
 refine DE.out.mono ?_
 rintro e w2 ⟨u,rfl,ownu,o2⟩
 have SU:=hideIt (Sps.of_own ownu)
 obtain ⟨a2,c2,e2⟩:=(Sps.of_own ownu).len
 subst e2
 have o02:=HO1.out.same o2
 obtain ⟨q1,q2,q3,q4⟩:=rd_cells (o02.heap HG1.out (fun f => f))
 have hlt:=World.block_lt_of_cell? w2 _ q1
 have SA : Hid (∀ W,Only (fun _ => False) w2 W → Calls Tryz.prog 12 #[.slice a1 17 c1,.slice (some ⟨w.heap.size + 1 + 1,0,none⟩) 17 17] W fun e w' => e = .returned (.bool true) ∧ Only (fun _ => False) W w') :=
  fun W o => same_eq (.slice a1 17 c1) (.slice (some ⟨w.heap.size + 1 + 1,0,none⟩) 17 17) ex17 W ((B1.out.past o2).past o) ((HG2.out.past o02).past o) (by decide)
 have SB : Hid (∀ W,Only (fun _ => False) w2 W → Calls Tryz.prog 18 #[.agg #[.string ⟨#[97]⟩,.slice (some ⟨w.heap.size,0,none⟩) 1 1],.agg #[.string ⟨#[97]⟩,.slice a2 1 c2]] W fun e w' => e = .returned (.bool true) ∧ Only (fun _ => False) W w'):=by
  intro W o
  have:=lsame12_any ⟨#[97]⟩ ⟨#[97]⟩ (.slice (some ⟨w.heap.size,0,none⟩) 1 1) (.slice a2 1 c2) [(5,7)] [(5,7)] W ((sps_one (o02.heap HG0.out (fun f => f))).past o) (SU.out.past o) (by decide)
  rw [show decide ((⟨#[97]⟩ : ByteArray) = ⟨#[97]⟩ ∧ [((5 : Int),(7 : Int))] = [(5,7)]) = true by simp] at this
  exact this
 have hst : strOfNums (sb ⟨#[97]⟩) = ⟨#[97]⟩:=of_sb _
 have HO2:=hideIt (HOA.out.same o02)
 clear ownu o2 o02 DE B1 q3 q4
 simp only [hst]
 go_wp2_with fail
 refine (SA.out _ ((Only.refl _ _).alloc _)).mono ?_
 rintro e w3 ⟨rfl,o3⟩
 have q1':=cell_past (Only.same ((Only.refl _ _).alloc _) o3) q1
 have q2':=cell_past (Only.same ((Only.refl _ _).alloc _) o3) q2
 have k1:=rd_cells (o3.heap (heap_alloc_new w2 _) (fun f => f))
 obtain ⟨k11,k12,_,_⟩:=k1
 have SB3:=hideIt (SB.out w3 (Only.same ((Only.refl _ _).alloc _) o3))
 have O3:=hideIt (Only.same HO2.out (Only.same ((Only.refl _ _).alloc _) o3))
 clear o3 SA SB
 go_wp2_with fail
 refine SB3.out.mono ?_
 rintro e w4 ⟨rfl,o4⟩
 have O4:=hideIt (O3.out.same o4)
 clear o4 SB3
 go_wp2
 go_ret
 exact ⟨rfl,O4.out⟩
end Go.Proofs.YthapipgaohlgdaaGreatDoor
