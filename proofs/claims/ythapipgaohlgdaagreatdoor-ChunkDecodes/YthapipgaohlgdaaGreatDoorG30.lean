/- Several texts in one: Rd12. -/
import Derived.Test.YthapipgaohlgdaaGreatDoorG19
import Derived.Test.YthapipgaohlgdaaGreatDoorG25
import Derived.Test.YthapipgaohlgdaaGreatDoorG29
import Derived.Deep.RegionLaw
import Derived.Deep.AppendLies
import Derived.BigRegion


namespace Go.Proofs.YthapipgaohlgdaaGreatDoor
set_option maxRecDepth 100000
open Go.RowKit
def RQ (w : World) (D : (List Int × List (Int × Int)) × Int) : Ending → World → Prop:=fun e w' =>
 ∃ u,e = .returned (.tuple #[.agg #[.string (strOfNums D.1.1),u],.int .i64 D.2]) ∧ Sps w' u D.1.2 ∧ Only (fun _ => False) w w'
def TwoC (w W : World) : Prop:=W.heap[w.heap.size]? = some (.cells #[.string ⟨#[]⟩,.slice none 0 0] 24 (0,0)) ∧ W.heap[w.heap.size + 1]? = some (.cells #[.string ⟨#[]⟩,.slice none 0 0] 24 (0,0))
theorem TwoC.past {w W W' : World} (h : TwoC w W) (o : Only (fun _ => False) W W') : TwoC w W':=⟨o.heap h.1 (fun f => f),o.heap h.2 (fun f => f)⟩
theorem TwoC.new (w : World) : TwoC w ((w.alloc (.cells #[.string ⟨#[]⟩,.slice none 0 0] 24)).alloc (.cells #[.string ⟨#[]⟩,.slice none 0 0] 24)) :=
 ⟨heap_alloc_old (heap_alloc_new _ _),heap_at_new (by simp)⟩
theorem wrote_heap {w W : World} (h : TwoC w W) (x y : Value) : ((W.setCell ⟨w.heap.size,0,none⟩ x).setCell ⟨w.heap.size,1,none⟩ y).heap[w.heap.size]? = some (.cells #[x,y] 24 (0,0)):=by
 have g1:=heap_setCell_same W w.heap.size 0 _ _ x h.1
 have g2:=heap_setCell_same _ w.heap.size 1 _ _ y g1
 simpa using g2
theorem wrote_only {w W : World} (o : Only (fun _ => False) w W) (x y : Value) : Only (fun _ => False) w ((W.setCell ⟨w.heap.size,0,none⟩ x).setCell ⟨w.heap.size,1,none⟩ y) :=
 (o.setCell (p:=⟨w.heap.size,0,none⟩) (fun hb => absurd hb (Nat.lt_irrefl _)) _).setCell (p:=⟨w.heap.size,1,none⟩) (fun hb => absurd hb (Nat.lt_irrefl _)) _
theorem RQ.no {w W : World} {D : (List Int × List (Int × Int)) × Int} {c : Int} (h : D = (chNone,c)) (o : Only (fun _ => False) w W) :
  RQ w D (.returned (.tuple #[.agg #[.string ⟨#[]⟩,.slice none 0 0],.int .i64 c])) ((W.setCell ⟨w.heap.size,0,none⟩ (.string ⟨#[]⟩)).setCell ⟨w.heap.size,1,none⟩ (.slice none 0 0)):=by
 subst h;exact ⟨.slice none 0 0,rfl,Sps.nil _,wrote_only o _ _⟩
theorem rd_round {C n : Nat} {W0 w9 : World} {ts : ByteArray} {sv V : Value} {xs : List Value} (h : w9.heap[C]? = some (.cells #[.string ts,sv] 24 (0,0))) (o : Only (fun g => g = C) W0 w9) (own : w9.ownsRow (C + 1) 44 2 V n xs) :
  (w9.setCell ⟨C,1,none⟩ V).heap[C]? = some (.cells #[.string ts,V] 24 (0,0)) ∧ (w9.setCell ⟨C,1,none⟩ V).ownsRow (C + 1) 44 2 V n xs ∧ Only (fun g => g = C) W0 (w9.setCell ⟨C,1,none⟩ V):=by
 have g1:=heap_setCell_same w9 C 1 _ _ V h
 have o1 : Only (fun g => g = C) w9 (w9.setCell ⟨C,1,none⟩ V):=(Only.refl (fun g => g = C) w9).setCell (p:=⟨C,1,none⟩) (fun _ => rfl) _
 exact ⟨by simpa using g1,o1.own own (fun b hb e => by have:=(own.lt b hb).1;omega),o.trans o1 (fun _ _ e => e)⟩
set_option maxHeartbeats 6400000 in
theorem rdecode12_any (v : Value) (ys : List Int) (w : World) (h : Bs .u8 w v ys) (nc : NoCap v) (hr : ∀ y ∈ ys,0 ≤ y ∧ y ≤ 255) (hl : ys.length ≤ 400) (hh : HEADN ys ≤ 500) :
  Calls Tryz.prog 17 #[v] w (RQ w (DECC ys)):=by
 obtain ⟨D,hD⟩ : ∃ D,D = DECC ys:=⟨_,rfl⟩
 rw [← hD]
 have HD:=hideIt hD
 obtain ⟨K,hK⟩ : ∃ K,K = RQ w D:=⟨_,rfl⟩
 rw [← hK]
 have HK:=hideIt hK
 have HH:=hideIt hh
 clear hD hK hh
 have HB:=hideIt h
 have NB:=hideIt nc
 have HY:=hideIt hr
 have HL:=hideIt hl
 obtain ⟨ao,cap,rfl⟩:=h.len
 clear h nc hr hl
 cases ys with
 | nil =>
  have ED : Hid (D = (chNone,2)):=HD.out
  have BY : Hid (∀ W,Only (fun _ => False) w W → Calls Tryz.prog 34 #[.slice ao ([] : List Int).length cap] W fun e w' => ∃ ao' m' cap',e = .returned (.tuple #[.int .u8 0,.slice ao' m' cap',.int .i64 2]) ∧ Bs .u8 w' (.slice ao' m' cap') (([] : List Int).drop 0) ∧ NoCap (.slice ao' m' cap') ∧ Only (fun _ => False) W w') :=
   fun W o => rbyte_bs ao _ cap [] W (HB.out.past o) NB.out (by simp) rfl
  clear HD
  go_enter Tryz.func17,Tryz.ntmps17
  go_wp2_with fail
  refine (BY.out _ (((Only.refl _ _).alloc _).alloc _)).mono ?_
  rintro e w1 ⟨a1,m1,c1,rfl,_,_,o1⟩
  have TC:=hideIt ((TwoC.new w).past o1)
  have O1:=hideIt (Only.same (((Only.refl _ _).alloc _).alloc _) o1)
  clear o1 BY
  obtain ⟨q1,q2,q3,q4⟩:=rd_cells TC.out.1
  obtain ⟨p1,p2,p3,p4⟩:=rd_cells TC.out.2
  have GX:=hideIt (wrote_heap TC.out (.string ⟨#[]⟩) (.slice none 0 0))
  have FX:=hideIt (RQ.no ED.out O1.out)
  rw [← HK.out] at FX
  go_wp2
  exact bodyPost_ret (results_ct Tryz.results17 _ _ w.heap.size 24 _ (0,0) _ rfl GX.out Tryz.underlying24 rfl Tryz.sizeCh) rfl FX.out
 | cons y r =>
  have e0 : sByte (y :: r) = (y,1,0):=by simp [sByte]
  have BY : Hid (∀ W,Only (fun _ => False) w W → Calls Tryz.prog 34 #[.slice ao (y :: r).length cap] W fun e w' => ∃ ao' m' cap',e = .returned (.tuple #[.int .u8 y,.slice ao' m' cap',.int .i64 0]) ∧ Bs .u8 w' (.slice ao' m' cap') r ∧ NoCap (.slice ao' m' cap') ∧ Only (fun _ => False) W w') :=
   fun W o => rbyte_bs ao _ cap (y :: r) W (HB.out.past o) NB.out (by have:=HL.out;omega) e0
  have hy:=HY.out y (by simp)
  have HR : Hid (∀ z ∈ r,0 ≤ z ∧ z ≤ 255):=fun z hz => HY.out z (by simp [hz])
  have HLr : Hid (r.length ≤ 400):=by have:=HL.out;simp only [Hid,List.length_cons] at *;omega
  generalize (y :: r).length = m0 at *
  clear HL HY HB NB e0
  by_cases hy1 : y ≠ 1
  ·have hd : (y != 1) = true:=by simpa using hy1
   have ED : Hid (D = (chNone,3)):=by have:=HD.out;simp only [Hid];rw [this,DECC_form hy1]
   clear HD
   go_enter Tryz.func17,Tryz.ntmps17
   go_wp2_with fail
   refine (BY.out _ (((Only.refl _ _).alloc _).alloc _)).mono ?_
   rintro e w1 ⟨a1,m1,c1,rfl,_,_,o1⟩
   have TC:=hideIt ((TwoC.new w).past o1)
   have O1:=hideIt (Only.same (((Only.refl _ _).alloc _).alloc _) o1)
   clear o1 BY
   obtain ⟨q1,q2,q3,q4⟩:=rd_cells TC.out.1
   obtain ⟨p1,p2,p3,p4⟩:=rd_cells TC.out.2
   have GX:=hideIt (wrote_heap TC.out (.string ⟨#[]⟩) (.slice none 0 0))
   have FX:=hideIt (RQ.no ED.out O1.out)
   rw [← HK.out] at FX
   go_wp2
   exact bodyPost_ret (results_ct Tryz.results17 _ _ w.heap.size 24 _ (0,0) _ rfl GX.out Tryz.underlying24 rfl Tryz.sizeCh) rfl FX.out
  obtain rfl : y = 1:=by simpa using hy1
  have hd1 : ((1 : Int) != 1) = false:=rfl
  have HD1 : Hid (D = C1 DEC8 DEC11 r):=by have:=HD.out;simp only [Hid];rw [this,DECC_one]
  clear HD hy1 hy
  go_enter Tryz.func17,Tryz.ntmps17
  go_wp2_with fail
  refine (BY.out _ (((Only.refl _ _).alloc _).alloc _)).mono ?_
  rintro e w1 ⟨a1,m1,c1,rfl,b1,n1,o1⟩
  have TC:=hideIt ((TwoC.new w).past o1)
  have O1:=hideIt (Only.same (((Only.refl _ _).alloc _).alloc _) o1)
  have B1:=hideIt b1
  have N1:=hideIt n1
  clear o1 BY b1 n1
  have hm1:=B1.out.length
  rcases sBlk_cases (n:=64) HR.out (by omega) (by omega) with ⟨c,eb,hc⟩ | ⟨tn,k1,eb,hl1,hk1,_,er1,_⟩
  ·have BL:=hideIt (rblock_bs a1 m1 c1 r w1 B1.out N1.out HR.out (by have:=HLr.out;omega) 64 (by omega) eb)
   have ED : Hid (D = (chNone,c)):=by have:=HD1.out;simp only [Hid];rw [this,C1_err eb (by omega)]
   have zc : (c != 0) = true:=by rw [bne_iff_ne];omega
   clear HD1 eb hm1
   go_wp2_with fail
   refine BL.out.mono ?_
   rintro e w2 ⟨vt,a2,m2,c2,rfl,_,_,_,o2⟩
   have TC2:=hideIt (TC.out.past o2)
   have O2:=hideIt (O1.out.same o2)
   clear o2 BL
   obtain ⟨q1,q2,q3,q4⟩:=rd_cells TC2.out.1
   obtain ⟨p1,p2,p3,p4⟩:=rd_cells TC2.out.2
   have GX:=hideIt (wrote_heap TC2.out (.string ⟨#[]⟩) (.slice none 0 0))
   have FX:=hideIt (RQ.no ED.out O2.out)
   rw [← HK.out] at FX
   go_wp2
   exact bodyPost_ret (results_ct Tryz.results17 _ _ w.heap.size 24 _ (0,0) _ rfl GX.out Tryz.underlying24 rfl Tryz.sizeCh) rfl FX.out
  have BL:=hideIt (rblock_bs a1 m1 c1 r w1 B1.out N1.out HR.out (by have:=HLr.out;omega) 64 (by omega) eb)
  have HD2 : Hid (D = C2 DEC8 DEC11 tn (r.drop k1)):=by have:=HD1.out;simp only [Hid];rw [this,C1_ok eb]
  have EB1:=hideIt eb
  have RT:=hideIt (blk_rng HR.out er1)
  have HR2:=hideIt (drop_rng (k:=k1) HR.out)
  have HL2 : Hid ((r.drop k1).length ≤ 400):=by have:=HLr.out;simp only [Hid,List.length_drop];omega
  clear HD1 eb er1 HLr hm1
  go_wp2_with fail
  refine BL.out.mono ?_
  rintro e w2 ⟨vt,a2,m2,c2,rfl,bt,b2,n2,o2⟩
  have TC2:=hideIt (TC.out.past o2)
  have O2:=hideIt (O1.out.same o2)
  have BT2:=hideIt bt
  have B2:=hideIt b2
  have N2:=hideIt n2
  clear o2 BL bt b2 n2 B1 N1 O1 TC
  rcases sVarint_cases HR2.out with ⟨c,eb,hc⟩ | ⟨n,k2,eb,_,_,_,er2⟩
  ·have VA:=hideIt (rvarint_bs a2 m2 c2 _ w2 B2.out N2.out HR2.out eb)
   have ED : Hid (D = (chNone,c)):=by have:=HD2.out;simp only [Hid];rw [this,C2_err eb (by omega)]
   have zc : (c != 0) = true:=by rw [bne_iff_ne];omega
   clear HD2 eb
   go_wp2_with fail
   refine VA.out.mono ?_
   rintro e w3 ⟨a3,m3,c3,rfl,_,_,o3⟩
   have TC3:=hideIt (TC2.out.past o3)
   have O3:=hideIt (O2.out.same o3)
   clear o3 VA
   obtain ⟨q1,q2,q3,q4⟩:=rd_cells TC3.out.1
   obtain ⟨p1,p2,p3,p4⟩:=rd_cells TC3.out.2
   have GX:=hideIt (wrote_heap TC3.out (.string ⟨#[]⟩) (.slice none 0 0))
   have FX:=hideIt (RQ.no ED.out O3.out)
   rw [← HK.out] at FX
   go_wp2
   exact bodyPost_ret (results_ct Tryz.results17 _ _ w.heap.size 24 _ (0,0) _ rfl GX.out Tryz.underlying24 rfl Tryz.sizeCh) rfl FX.out
  have VA:=hideIt (rvarint_bs a2 m2 c2 _ w2 B2.out N2.out HR2.out eb)
  by_cases hn : 65536 < n
  ·have ED : Hid (D = (chNone,4)):=by have:=HD2.out;simp only [Hid];rw [this,C2_long eb hn]
   have d1 : decide ((65536 : Int) < (n : Int)) = true:=decide_eq_true (by omega)
   have d2 : decide (65536 < n) = true:=decide_eq_true (by omega)
   clear HD2 eb
   go_wp2_with fail
   refine VA.out.mono ?_
   rintro e w3 ⟨a3,m3,c3,rfl,_,_,o3⟩
   have TC3:=hideIt (TC2.out.past o3)
   have O3:=hideIt (O2.out.same o3)
   clear o3 VA
   obtain ⟨q1,q2,q3,q4⟩:=rd_cells TC3.out.1
   obtain ⟨p1,p2,p3,p4⟩:=rd_cells TC3.out.2
   have GX:=hideIt (wrote_heap TC3.out (.string ⟨#[]⟩) (.slice none 0 0))
   have FX:=hideIt (RQ.no ED.out O3.out)
   rw [← HK.out] at FX
   go_wp2
   exact bodyPost_ret (results_ct Tryz.results17 _ _ w.heap.size 24 _ (0,0) _ rfl GX.out Tryz.underlying24 rfl Tryz.sizeCh) rfl FX.out
  have hn5 : n ≤ 500:=by
   have e1:=HEADN_ok (y:=1) EB1.out eb (by omega)
   have:=HH.out
   rw [e1] at this
   omega
  have hn' : n ≤ 65536:=by omega
  have d1 : decide ((65536 : Int) < (n : Int)) = false:=decide_eq_false (by omega)
  have d2 : decide (65536 < n) = false:=decide_eq_false (by omega)
  have HD3 : Hid (D = C3 DEC8 DEC11 tn n ((r.drop k1).drop k2)):=by have:=HD2.out;simp only [Hid];rw [this,C2_ok eb hn']
  have HR3:=hideIt (drop_rng (k:=k2) HR2.out)
  have HL3 : Hid (((r.drop k1).drop k2).length ≤ 400):=by have:=HL2.out;simp only [Hid,List.length_drop] at *;omega
  have hM:=MOST_nat hn'
  have HMo:=hideIt hM
  clear HD2 eb er2 HL2 hn EB1 HH
  go_wp2_with fail
  refine VA.out.mono ?_
  rintro e w3 ⟨a3,m3,c3,rfl,b3,n3,o3⟩
  have TC3:=hideIt (TC2.out.past o3)
  have O3:=hideIt (O2.out.same o3)
  have BT3:=hideIt (BT2.out.past o3)
  have B3:=hideIt b3
  have N3:=hideIt n3
  clear o3 VA b3 n3 B2 N2 O2 TC2 BT2 HR2 HR
  generalize (r.drop k1).drop k2 = y3 at *
  have hwn : IntKind.i64.wrap (n : Int) = n:=by rw [IntKind.wrap_i64];omega
  go_wp2_with fail
  refine (rmost_any n _).mono ?_
  rintro e w' ⟨rfl,rfl⟩
  have hm3:=B3.out.length
  rcases sBlk_cases (n:=MOST n) HR3.out (by omega) (by omega) with ⟨c,eb,hc⟩ | ⟨ti,k3,eb,hl3,hk3,_,er3,_⟩
  ·have BL:=hideIt (rblock_bs a3 m3 c3 y3 w3 B3.out N3.out HR3.out (by have:=HL3.out;omega) (MOST n) (by omega) eb)
   have ED : Hid (D = (chNone,c)):=by have:=HD3.out;simp only [Hid];rw [this,C3_err eb (by omega)]
   have zc : (c != 0) = true:=by rw [bne_iff_ne];omega
   clear HD3 eb hM hm3
   go_wp2_with fail
   refine BL.out.mono ?_
   rintro e w4 ⟨vi,a4,m4,c4,rfl,_,_,_,o4⟩
   have TC4:=hideIt (TC3.out.past o4)
   have O4:=hideIt (O3.out.same o4)
   clear o4 BL
   obtain ⟨q1,q2,q3,q4⟩:=rd_cells TC4.out.1
   obtain ⟨p1,p2,p3,p4⟩:=rd_cells TC4.out.2
   have GX:=hideIt (wrote_heap TC4.out (.string ⟨#[]⟩) (.slice none 0 0))
   have FX:=hideIt (RQ.no ED.out O4.out)
   rw [← HK.out] at FX
   go_wp2
   exact bodyPost_ret (results_ct Tryz.results17 _ _ w.heap.size 24 _ (0,0) _ rfl GX.out Tryz.underlying24 rfl Tryz.sizeCh) rfl FX.out
  have BL:=hideIt (rblock_bs a3 m3 c3 y3 w3 B3.out N3.out HR3.out (by have:=HL3.out;omega) (MOST n) (by omega) eb)
  have HD4 : Hid (D = C4 DEC8 DEC11 tn n ti (y3.drop k3)):=by have:=HD3.out;simp only [Hid];rw [this,C3_ok eb]
  have RTI:=hideIt (blk_rng HR3.out er3)
  have HR4:=hideIt (drop_rng (k:=k3) HR3.out)
  have HL4 : Hid ((y3.drop k3).length ≤ 400):=by have:=HL3.out;simp only [Hid,List.length_drop] at *;omega
  have HLI : Hid (ti.length ≤ 400):=by
   have:=HL3.out
   have e:=congrArg List.length er3
   unfold blk at e
   simp only [Hid,List.length_append] at *
   omega
  clear HD3 eb er3 HL3 hM hl3 hk3 hm3
  go_wp2_with fail
  refine BL.out.mono ?_
  rintro e w4 ⟨vi,a4,m4,c4,rfl,bi,b4,n4,o4⟩
  have TC4:=hideIt (TC3.out.past o4)
  have O4:=hideIt (O3.out.same o4)
  have BT4:=hideIt (BT3.out.past o4)
  have BI4:=hideIt bi
  have B4:=hideIt b4
  have N4:=hideIt n4
  clear o4 BL bi b4 n4 B3 N3 O3 TC3 BT3 HR3
  generalize y3.drop k3 = y4 at *
  go_wp2_with fail
  refine (rmost_any n _).mono ?_
  rintro e w' ⟨rfl,rfl⟩
  have hm4:=B4.out.length
  have hM:=HMo.out
  rcases sBlk_cases (n:=MOST n) HR4.out (by omega) (by omega) with ⟨c,eb,hc⟩ | ⟨va,k4,eb,hl4,hk4,_,er4,_⟩
  ·have BL:=hideIt (rblock_bs a4 m4 c4 y4 w4 B4.out N4.out HR4.out (by have:=HL4.out;omega) (MOST n) (by omega) eb)
   have ED : Hid (D = (chNone,c)):=by have:=HD4.out;simp only [Hid];rw [this,C4_err eb (by omega)]
   have zc : (c != 0) = true:=by rw [bne_iff_ne];omega
   clear HD4 eb hM hm4
   go_wp2_with fail
   refine BL.out.mono ?_
   rintro e w5 ⟨vv,a5,m5,c5,rfl,_,_,_,o5⟩
   have TC5:=hideIt (TC4.out.past o5)
   have O5:=hideIt (O4.out.same o5)
   clear o5 BL
   obtain ⟨q1,q2,q3,q4⟩:=rd_cells TC5.out.1
   obtain ⟨p1,p2,p3,p4⟩:=rd_cells TC5.out.2
   have GX:=hideIt (wrote_heap TC5.out (.string ⟨#[]⟩) (.slice none 0 0))
   have FX:=hideIt (RQ.no ED.out O5.out)
   rw [← HK.out] at FX
   go_wp2
   exact bodyPost_ret (results_ct Tryz.results17 _ _ w.heap.size 24 _ (0,0) _ rfl GX.out Tryz.underlying24 rfl Tryz.sizeCh) rfl FX.out
  have BL:=hideIt (rblock_bs a4 m4 c4 y4 w4 B4.out N4.out HR4.out (by have:=HL4.out;omega) (MOST n) (by omega) eb)
  have HD5 : Hid (D = C5 DEC8 DEC11 tn n ti va (y4.drop k4)):=by have:=HD4.out;simp only [Hid];rw [this,C4_ok eb]
  have RVA:=hideIt (blk_rng HR4.out er4)
  have HLV : Hid (va.length ≤ 400):=by
   have:=HL4.out
   have e:=congrArg List.length er4
   unfold blk at e
   simp only [Hid,List.length_append] at *
   omega
  clear HD4 eb er4 HL4 hM hl4 hk4 hm4
  go_wp2_with fail
  refine BL.out.mono ?_
  rintro e w5 ⟨vv,a5,m5,c5,rfl,bv,b5,n5,o5⟩
  have TC5:=hideIt (TC4.out.past o5)
  have O5:=hideIt (O4.out.same o5)
  have BT5:=hideIt (BT4.out.past o5)
  have BI5:=hideIt (BI4.out.past o5)
  have BV5:=hideIt bv
  have hm5:=b5.length
  clear o5 BL bv b5 n5 B4 N4 O4 TC4 BT4 BI4 HR4
  generalize y4.drop k4 = y5 at *
  by_cases h5 : y5 ≠ []
  ·have ED : Hid (D = (chNone,3)):=by have:=HD5.out;simp only [Hid];rw [this,C5_left h5]
   have h5p : 0 < y5.length:=by cases y5 with | nil => exact absurd rfl h5 | cons a b => simp
   have g1 : decide ((0 : Int) < (m5 : Int)) = true:=decide_eq_true (by omega)
   have g2 : decide (0 < m5) = true:=decide_eq_true (by omega)
   clear HD5 hm5
   obtain ⟨q1,q2,q3,q4⟩:=rd_cells TC5.out.1
   obtain ⟨p1,p2,p3,p4⟩:=rd_cells TC5.out.2
   have GX:=hideIt (wrote_heap TC5.out (.string ⟨#[]⟩) (.slice none 0 0))
   have FX:=hideIt (RQ.no ED.out O5.out)
   rw [← HK.out] at FX
   go_wp2
   exact bodyPost_ret (results_ct Tryz.results17 _ _ w.heap.size 24 _ (0,0) _ rfl GX.out Tryz.underlying24 rfl Tryz.sizeCh) rfl FX.out
  obtain rfl : y5 = []:=Classical.not_not.1 h5
  obtain rfl : m5 = 0:=by simpa using hm5
  clear h5 hm5
  have R8:=hideIt (rdecode8_all vi ti n w5 BI5.out RTI.out HLI.out (.inl (by omega)))
  by_cases h8 : (DEC8 ti n).2 ≠ 0
  ·have ED : Hid (D = (chNone,(DEC8 ti n).2)):=by have:=HD5.out;simp only [Hid];rw [this,C5_d8 h8]
   have zc : ((DEC8 ti n).2 != 0) = true:=by rw [bne_iff_ne];exact h8
   clear HD5 h8
   generalize (DEC8 ti n).2 = c at *
   go_wp2_with fail
   refine R8.out.mono ?_
   rintro e w6 ⟨u8,rfl,_,o6⟩
   have TC6:=hideIt (TC5.out.past o6)
   have O6:=hideIt (O5.out.same o6)
   clear o6 R8
   obtain ⟨q1,q2,q3,q4⟩:=rd_cells TC6.out.1
   obtain ⟨p1,p2,p3,p4⟩:=rd_cells TC6.out.2
   have GX:=hideIt (wrote_heap TC6.out (.string ⟨#[]⟩) (.slice none 0 0))
   have FX:=hideIt (RQ.no ED.out O6.out)
   rw [← HK.out] at FX
   go_wp2
   exact bodyPost_ret (results_ct Tryz.results17 _ _ w.heap.size 24 _ (0,0) _ rfl GX.out Tryz.underlying24 rfl Tryz.sizeCh) rfl FX.out
  have h8' : (DEC8 ti n).2 = 0:=Classical.not_not.1 h8
  have K8:=hideIt (DEC8_ok RTI.out h8')
  rw [h8'] at R8
  have H8:=hideIt h8'
  clear h8 h8'
  go_wp2_with fail
  refine R8.out.mono ?_
  rintro e w6 ⟨u8,rfl,b8,o6⟩
  have TC6:=hideIt (TC5.out.past o6)
  have O6:=hideIt (O5.out.same o6)
  have BT6:=hideIt (BT5.out.past o6)
  have BX6:=hideIt b8
  have R11:=hideIt (rdecode11_all vv va n w6 (BV5.out.past o6) RVA.out (by have:=HLV.out;omega) (.inl (by omega)))
  clear o6 R8 b8 O5 TC5 BT5 BI5 BV5
  by_cases h11 : (DEC11 va n).2 ≠ 0
  ·have ED : Hid (D = (chNone,(DEC11 va n).2)):=by have:=HD5.out;simp only [Hid];rw [this,C5_d11 H8.out h11]
   have zc : ((DEC11 va n).2 != 0) = true:=by rw [bne_iff_ne];exact h11
   clear HD5 h11
   generalize (DEC11 va n).2 = c at *
   go_wp2_with fail
   refine R11.out.mono ?_
   rintro e w7 ⟨u11,rfl,_,o7⟩
   have TC7:=hideIt (TC6.out.past o7)
   have O7:=hideIt (O6.out.same o7)
   clear o7 R11
   obtain ⟨q1,q2,q3,q4⟩:=rd_cells TC7.out.1
   obtain ⟨p1,p2,p3,p4⟩:=rd_cells TC7.out.2
   have GX:=hideIt (wrote_heap TC7.out (.string ⟨#[]⟩) (.slice none 0 0))
   have FX:=hideIt (RQ.no ED.out O7.out)
   rw [← HK.out] at FX
   go_wp2
   exact bodyPost_ret (results_ct Tryz.results17 _ _ w.heap.size 24 _ (0,0) _ rfl GX.out Tryz.underlying24 rfl Tryz.sizeCh) rfl FX.out
  have h11' : (DEC11 va n).2 = 0:=Classical.not_not.1 h11
  have K11:=hideIt (DEC11_ok RVA.out h11')
  have ED : Hid (D = ((tn,(DEC8 ti n).1.zip (DEC11 va n).1),0)):=by have:=HD5.out;simp only [Hid];rw [this,C5_all H8.out h11']
  rw [h11'] at R11
  clear h11 h11' HD5
  go_wp2_with fail
  refine R11.out.mono ?_
  rintro e w7 ⟨u11,rfl,own11,o7⟩
  have TC7:=hideIt (TC6.out.past o7)
  have O7:=hideIt (O6.out.same o7)
  have hxz : (DEC8 ti n).1.length = (DEC11 va n).1.length:=by have:=K8.out.2.2.1;have:=K11.out.2.2.1;omega
  have BX : Hid (Bs .i64 w7 u8 (((DEC8 ti n).1.zip (DEC11 va n).1).map Prod.fst)):=by simp only [Hid];rw [zip_fst hxz];exact BX6.out.past o7
  have BZ : Hid (Bs .u64 w7 u11 (((DEC8 ti n).1.zip (DEC11 va n).1).map Prod.snd)):=by simp only [Hid];rw [zip_snd hxz];exact Bs.of_own own11
  have cv7 : (convert 26 9 vt).run Tryz.prog w7 = .ok (.string (strOfNums tn)) w7:=string_of w7 vt tn (BT6.out.past o7)
  have HLs : Hid (((DEC8 ti n).1.zip (DEC11 va n).1).length ≤ 500):=by have:=K8.out.2.2.1;simp only [Hid];rw [List.length_zip];omega
  clear o7 R11 own11 hxz O6 TC6 BT6 BX6 K8 K11 H8
  generalize (DEC8 ti n).1.zip (DEC11 va n).1 = s at *
  obtain ⟨ax,cx,e1⟩:=BX.out.len
  obtain ⟨az,cz,e2⟩:=BZ.out.len
  rw [List.length_map] at e1 e2
  subst e1 e2
  obtain ⟨q,hq⟩ : ∃ q,q = s.length:=⟨_,rfl⟩
  rw [← hq] at BX BZ HLs
  rw [← hq]
  have HQ:=hideIt hq
  clear hq
  obtain ⟨W0,hW0⟩ : ∃ W0,W0 = w7.alloc (.cells #[.string (strOfNums tn),.slice none 0 0] 24):=⟨_,rfl⟩
  have O70 : Hid (Only (fun _ => False) w7 W0):=by simp only [Hid];rw [hW0];exact (Only.refl _ _).alloc _
  have GC0 : Hid (W0.heap[w7.heap.size]? = some (.cells #[.string (strOfNums tn),.slice none 0 0] 24 (0,0))):=by simp only [Hid];rw [hW0];exact heap_alloc_new _ _
  obtain ⟨i0,hi,hz0,hz1,hz2⟩:=info_parts Tryz.infoSm
  obtain ⟨C,hC⟩ : ∃ C,C = w7.heap.size:=⟨_,rfl⟩
  have hC1 : Hid (W0.heap.size = C + 1):=by simp only [Hid];rw [hW0,hC];simp
  rw [← hC] at GC0
  obtain ⟨ts,hts⟩ : ∃ ts,ts = strOfNums tn:=⟨_,rfl⟩
  rw [← hts] at GC0 hW0 cv7
  have HC:=hideIt hC
  have HTS:=hideIt hts
  clear hC hts
  go_wp2
  rw [← hW0,← HC.out]
  clear hW0 cv7
  go_loopw [14] (fun i wr => ∃ k : Nat,k ≤ q ∧ i = .int .i64 k ∧ ∃ sv,wr.heap[C]? = some (.cells #[.string ts,sv] 24 (0,0)) ∧ wr.ownsRow (C + 1) 44 2 sv k (scells (s.take k)) ∧ Only (fun g => g = C) W0 wr) (fun i _ => q - (intOf i).toNat)
  case atStart => exact ⟨0,Nat.zero_le _,rfl,_,GC0.out,World.ownsRow_nil _ _ _ _,Only.refl _ _⟩
  case round =>
   obtain ⟨k,hk,rfl,sv,hc,own,od⟩:=hrel
   have HCC:=hideIt hc
   have OWN:=hideIt own
   have OD:=hideIt od
   obtain ⟨_,cC,_,fC⟩:=rd_cells hc
   have hsvb : ∀ g,sv.ownBlock = some g → C + 1 ≤ g ∧ g < wr.heap.size:=fun g hg => own.lt g hg
   have HSV:=hideIt hsvb
   have hCw : C < wr.heap.size:=World.block_lt_of_cell? wr _ cC
   have oo : Only (fun g => g = C) w7 wr:=(O70.out.mono (fun _ _ f => f.elim)).trans od (fun _ _ e => e)
   by_cases hlt : k < q
   ·have dlt : decide ((k : Int) < (q : Int)) = true:=by simp;omega
    have dlt2 : (k : Int) < (q : Int):=by omega
    have dlt0 : (0 : Int) ≤ (k : Int):=by omega
    have hkl : k < s.length:=by rw [← HQ.out];exact hlt
    obtain ⟨bx,ox,cx',e1,xx⟩:=BX.out.at k (by simpa using hkl)
    have ea : ax = some ⟨bx,ox,none⟩:=by simp at e1;exact e1.1
    subst ea
    obtain ⟨bz,oz,cz',e2,zz⟩:=BZ.out.at k (by simpa using hkl)
    have ea : az = some ⟨bz,oz,none⟩:=by simp at e2;exact e2.1
    subst ea
    clear e1 e2
    rw [(pgetD s k).1] at xx
    rw [(pgetD s k).2] at zz
    have hbx:=World.block_lt_of_cell? w7 _ xx
    have hbz:=World.block_lt_of_cell? w7 _ zz
    have xr : wr.cell? ⟨bx,ox + k,none⟩ = some (.int .i64 (s.getD k (0,0)).1):=by
     rw [← xx];unfold World.cell?;simp only;rw [oo.block bx (by simpa using hbx) (fun e => by have:=HC.out;simp at hbx;omega)]
    have zr : wr.cell? ⟨bz,oz + k,none⟩ = some (.int .u64 (s.getD k (0,0)).2):=by
     rw [← zz];unfold World.cell?;simp only;rw [oo.block bz (by simpa using hbz) (fun e => by have:=HC.out;simp at hbz;omega)]
    have hbxr:=World.block_lt_of_cell? wr _ xr
    have hbzr:=World.block_lt_of_cell? wr _ zr
    have TK : Hid (scells (s.take k) ++ [.int .i64 (s.getD k (0,0)).1,.int .u64 (s.getD k (0,0)).2] = scells (s.take (k + 1))):=by
     simp only [Hid]
     rw [List.take_succ_eq_append_getElem hkl]
     unfold scells
     rw [List.flatMap_append]
     simp [List.getD_eq_getElem?_getD,List.getElem?_eq_getElem hkl]
    generalize (s.getD k (0,0)).1 = x at *
    generalize (s.getD k (0,0)).2 = y at *
    generalize scells (s.take k) = SK at *
    have OWNA : Hid (((wr.alloc (.cells #[.int .i64 x,.int .u64 y] 44)).drew).ownsRow (C + 1) 44 2 sv k SK):=(((Only.refl (fun _ => False) wr).alloc _).drew).own OWN.out (fun _ _ f => f)
    have NEW : Hid (∀ j u,([.int .i64 x,.int .u64 y] : List Value)[j]? = some u → ((wr.alloc (.cells #[.int .i64 x,.int .u64 y] 44)).drew).cell? ((⟨wr.heap.size,0,none⟩ : Addr).add j) = some u):=by
     intro j u hj
     have e : ((wr.alloc (.cells #[.int .i64 x,.int .u64 y] 44)).drew).cell? ((⟨wr.heap.size,0,none⟩ : Addr).add j) = (#[.int .i64 x,.int .u64 y] : Array Value)[j]?:=by
      rw [Go.WideShapes.add_plain,Nat.zero_add]
      show (wr.alloc (.cells #[.int .i64 x,.int .u64 y] 44)).cell? ⟨wr.heap.size,j,none⟩ = _
      unfold World.cell?;simp only;rw [heap_alloc_new];rfl
     rw [e,← hj]
     simp
    have ONEC : Hid (∀ u ∈ ([.int .i64 x,.int .u64 y] : List Value),u.oneCell' = true):=by
     intro u hu;simp at hu;rcases hu with rfl | rfl <;> rfl
    have FN : Hid (∀ w2 : World,((wr.alloc (.cells #[.int .i64 x,.int .u64 y] 44)).drew).grownBy w2 sv.ownBlock → w2.heap[C]? = some (.cells #[.string ts,sv] 24 (0,0)) ∧ Only (fun g => g = C) W0 w2):=by
     intro w2 hgrow
     have o1 : Only (fun g => sv.ownBlock = some g) wr w2:=(((Only.refl (fun g => sv.ownBlock = some g) wr).alloc _).drew).grown hgrow (fun _ _ e => e)
     refine ⟨o1.heap HCC.out (fun e => by have:=HSV.out C e;omega),OD.out.trans o1 (fun g hg e => ?_)⟩
     have:=HSV.out g e
     have:=hC1.out
     omega
    have n1 : ¬ bx = wr.heap.size:=by simp at hbxr;omega
    have n2 : ¬ bz = wr.heap.size:=by simp at hbzr;omega
    have n3 : ¬ C = wr.heap.size:=by omega
    have HLs2:=HLs.out
    clear own od oo hc xx zz hbx hbz hbxr hbzr hsvb hkl
    go_wp2
    go_region_law (refine step_append_lies _ rfl (.tmp 114) (.tmp 124) 22 rfl (C + 1) 44 i0 (.agg #[.int .i64 0,.int .u64 0]) 2 16 Tryz.underlying22 hi hz0 hz1 hz2 rfl (by omega) sv k SK rfl OWNA.out ⟨wr.heap.size,0,none⟩ 1 1 [.int .i64 x,.int .u64 y] rfl rfl NEW.out ONEC.out (by omega) (by unfold maxLen;omega) (by omega) (by simp;omega) (wr.heap.size + 1) (by simp) ?_;intro g cap1 w9 hown1 hgrow hat hg1;obtain ⟨_,c9,_,f9⟩:=rd_cells (FN.out w9 hgrow).1)
    all_goals (rw [TK.out] at hown1)
    all_goals (have H2:=hideIt (rd_round (FN.out w9 hgrow).1 (FN.out w9 hgrow).2 hown1))
    all_goals (clear hown1 hgrow hat hg1 c9 f9)
    all_goals go_wp2
    all_goals go_roundw
    all_goals first | exact ⟨k + 1,by omega,by go_num,_,H2.out⟩ | (simp [intOf];omega)
   ·obtain rfl : k = q:=by omega
    have dlt : decide ((k : Int) < (k : Int)) = false:=by simp
    rw [List.take_of_length_le (by rw [← HQ.out];omega)] at own
    have own' : wr.ownsRow (C + 1) 44 2 sv s.length (scells s):=by rw [← HQ.out];exact own
    have SP:=Sps.of_own own'
    have TCw : TwoC w wr:=by
     have h1:=TC7.out.1
     have h2:=TC7.out.2
     have hC:=HC.out
     have l2 : w.heap.size + 1 < w7.heap.size:=by
      rcases Nat.lt_or_ge (w.heap.size + 1) w7.heap.size with h | h
      ·exact h
      ·rw [Array.getElem?_eq_none h] at h2;cases h2
     exact ⟨oo.heap h1 (fun e => by omega),oo.heap h2 (fun e => by omega)⟩
    have hBC : w.heap.size < C:=by rw [HC.out];exact World.block_lt_of_cell? w7 _ (rd_cells TC7.out.1).1
    obtain ⟨asv,csv,esv⟩:=SP.len
    subst esv
    obtain ⟨q1,q2,q3,q4⟩:=rd_cells TCw.1
    obtain ⟨p1,p2,p3,p4⟩:=rd_cells hc
    have ow : Only (fun _ => False) w wr:=O7.out.trans oo (fun g hg e => by omega)
    have GX:=hideIt (wrote_heap TCw (.string ts) (.slice asv s.length csv))
    have FX : Hid (K (.returned (.tuple #[.agg #[.string ts,.slice asv s.length csv],.int .i64 0])) ((wr.setCell ⟨w.heap.size,0,none⟩ (.string ts)).setCell ⟨w.heap.size,1,none⟩ (.slice asv s.length csv))):=by
     simp only [Hid]
     rw [HK.out,ED.out,HTS.out]
     have ob : Only (fun g => g = w.heap.size) wr ((wr.setCell ⟨w.heap.size,0,none⟩ (.string (strOfNums tn))).setCell ⟨w.heap.size,1,none⟩ (.slice asv s.length csv)):=((Only.refl (fun g => g = w.heap.size) wr).setCell (p:=⟨w.heap.size,0,none⟩) (fun _ => rfl) _).setCell (p:=⟨w.heap.size,1,none⟩) (fun _ => rfl) _
     exact ⟨_,rfl,SP.keep ob (fun b hb e => by have:=hsvb b hb;omega),wrote_only ow _ _⟩
    generalize s.length = sl at *
    clear own own' od oo hc SP TCw ow hsvb cC fC
    go_wp2
    exact bodyPost_ret (results_ct Tryz.results17 _ _ w.heap.size 24 _ (0,0) _ rfl GX.out Tryz.underlying24 rfl Tryz.sizeCh) rfl FX.out
end Go.Proofs.YthapipgaohlgdaaGreatDoor
