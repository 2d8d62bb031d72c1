/- Several texts in one: Im3, SameI, Aw8, BRBytes, RPa, RRoom, REnc, REnc2. -/
import Derived.Test.YthapipgaohlgdaaGreatDoorG8
import Derived.Test.YthapipgaohlgdaaGreatDoorProg
import Derived.Test.YthapipgaohlgdaaGreatDoorG1
import Derived.Test.YthapipgaohlgdaaGreatDoorG12
import Derived.Test.YthapipgaohlgdaaGreatDoorG7
import Derived.Test.YthapipgaohlgdaaGreatDoorG2
import Derived.BigRegion
import Derived.Test.YthapipgaohlgdaaGreatDoorG6
import Derived.Test.YthapipgaohlgdaaGreatDoorG3
import Derived.Test.YthapipgaohlgdaaGreatDoorG19


namespace Go.Proofs.YthapipgaohlgdaaGreatDoor
open Go.RowKit
def RR (ys : List Int) (n tag : Nat) : List Int × Int :=
 if tag = 0 then (if ys.length < 8 * n then ([],2) else if 8 * n < ys.length then ([],3) else (fxN ys n,0)) else
 if tag = 1 then (if (rVs n [] ys).2.2 ≠ 0 then ([],(rVs n [] ys).2.2) else if 0 < (rVs n [] ys).2.1.length then ([],3) else ((rVs n [] ys).1,0)) else
 if n = 0 then (if 0 < ys.length then ([],3) else ([],0)) else
 if (sVarint ys).2.2 ≠ 0 then ([],(sVarint ys).2.2) else
 if (OTH (ys.drop (sVarint ys).2.1) (n - 1) tag).2 ≠ 0 then ([],(OTH (ys.drop (sVarint ys).2.1) (n - 1) tag).2) else
 ((sVarint ys).1 :: (OTH (ys.drop (sVarint ys).2.1) (n - 1) tag).1,0)
def RI (z : List Int) (tag : Nat) : List Int:=if tag = 0 then z.map s64 else S (tms tag) (zgn z)
def RDEC8 (b : List Int) (n : Int) : List Int × Int :=
 if n < 0 ∨ 65536 < n then ([],1) else if b = [] then ([],2) else if 4 < b.getD 0 0 then ([],3) else
 if (RR (b.drop 1) n.toNat (b.getD 0 0).toNat).2 ≠ 0 then ([],(RR (b.drop 1) n.toNat (b.getD 0 0).toNat).2) else
 if (ENC8 (RI (RR (b.drop 1) n.toNat (b.getD 0 0).toNat).1 (b.getD 0 0).toNat)).1 = b then (RI (RR (b.drop 1) n.toNat (b.getD 0 0).toNat).1 (b.getD 0 0).toNat,0) else ([],3)
theorem enc_tag {l ys : List Int} {t : Nat} (hl : l.length ≤ 65536) (h : (ENC8 l).1 = (t : Int) :: ys) : WAY l t = (ys,0):=by
 rw [ENC8_of hl] at h
 simp only [List.cons.injEq] at h
 have h1 : (pick l 4).1 = t:=by omega
 have:=(pick_spec l 4).2.1
 rw [h1,h.2] at this
 exact this
theorem S_nil (k : Nat) : S k [] = []:=List.eq_nil_of_length_eq_zero (by rw [S_length];rfl)
theorem enc_none {ys : List Int} {t : Nat} (h : (ENC8 []).1 = (t : Int) :: ys) : ys = []:=by
 have:=enc_tag (by simp) h
 rw [WAY_nil] at this
 simpa using (congrArg Prod.fst this).symm
theorem RR_READ (ys : List Int) (m t : Nat) (hm : m ≤ 65536) (ht : t ≤ 4) (hr : Byt ys) :
  (if (RR ys m t).2 ≠ 0 then ([],(RR ys m t).2) else if (ENC8 (RI (RR ys m t).1 t)).1 = (t : Int) :: ys then (RI (RR ys m t).1 t,0) else ([],3)) =
  (if (READ ys m t).2 ≠ 0 then ([],(READ ys m t).2) else if (ENC8 (READ ys m t).1).1 = (t : Int) :: ys then ((READ ys m t).1,0) else (([] : List Int),(3 : Int))):=by
 by_cases hm0 : m = 0
 ·subst hm0
  have e0 : READ ys 0 t = ([],0):=rfl
  have e1 : RR ys 0 t = if 0 < ys.length then ([],3) else ([],0):=by
   unfold RR
   by_cases h0 : t = 0
   ·rw [if_pos h0,if_neg (by omega)];rfl
   ·rw [if_neg h0]
    by_cases h1 : t = 1
    ·rw [if_pos h1]
     rfl
    ·rw [if_neg h1,if_pos rfl]
  rw [e0,e1]
  by_cases hy : 0 < ys.length
  ·rw [if_pos hy]
   simp only [ne_eq,not_true_eq_false,if_false]
   rw [if_pos (by decide)]
   by_cases hE : (ENC8 []).1 = (t : Int) :: ys
   ·have:=enc_none hE
    subst this;simp at hy
   ·rw [if_neg hE]
  ·rw [if_neg hy]
   have : RI [] t = []:=by
    unfold RI
    by_cases h0 : t = 0
    ·rw [if_pos h0];rfl
    ·rw [if_neg h0];exact S_nil _
   simp only [this]
 ·by_cases h0 : t = 0
  ·subst h0
   unfold RR READ rFx RI
   simp only [if_neg hm0,if_true]
   by_cases h8 : ys.length < 8 * m
   ·simp only [if_pos h8]
   ·simp only [if_neg h8]
    by_cases h9 : 8 * m < ys.length
    ·simp only [if_pos h9]
     rw [if_pos (by decide),if_neg (by simp)]
     by_cases hE : (ENC8 ((fxN ys m).map s64)).1 = ((0 : Nat) : Int) :: ys
     ·have hl : ((fxN ys m).map s64).length = m:=by simp [fxN]
      have h1:=enc_tag (by omega) hE
      rw [WAY_zero] at h1
      have h2:=congrArg (fun p => p.1.length) h1
      simp only [fx_length,hl] at h2
      omega
     ·rw [if_neg hE]
    ·simp only [if_neg h9]
  ·by_cases h1 : t = 1
   ·subst h1
    obtain ⟨k,rfl⟩ : ∃ k,m = k + 1:=⟨m - 1,by omega⟩
    have hO : OTH (ys.drop (sVarint ys).2.1) k 1 = ((rVs k [] (ys.drop (sVarint ys).2.1)).1,(rVs k [] (ys.drop (sVarint ys).2.1)).2.2):=rfl
    unfold RR READ
    rw [if_neg h0,if_pos rfl,if_neg hm0,if_neg h0,rVs,Nat.add_sub_cancel,hO]
    by_cases hs : (sVarint ys).2.2 ≠ 0
    ·simp only [if_pos hs]
    ·simp only [if_neg hs]
     have he:=rVs_err k ([] ++ [(sVarint ys).1]) [] (ys.drop (sVarint ys).2.1)
     by_cases hv : (rVs k [] (ys.drop (sVarint ys).2.1)).2.2 ≠ 0
     ·rw [← he] at hv
      simp only [if_pos hv]
      rw [he] at hv ⊢
      simp only [if_pos hv]
     ·have hv0 : (rVs k [] (ys.drop (sVarint ys).2.1)).2.2 = 0:=by simpa using hv
      have hp:=rVs_pre k [(sVarint ys).1] [] (ys.drop (sVarint ys).2.1) hv0
      rw [List.append_nil] at hp
      rw [List.nil_append,hp]
      simp only [if_neg hv]
      by_cases hl : 0 < (rVs k [] (ys.drop (sVarint ys).2.1)).2.1.length
      ·simp only [if_pos hl]
       rw [if_pos (by decide),if_neg (by simp)]
       have ho:=rVs_only (k + 1) [] ys hr
       rw [rVs,if_neg hs,List.nil_append,hp] at ho
       rcases ho with ⟨r,c,e,hc⟩ | ⟨q,r,e,h2,h3,h4⟩
       ·have:=congrArg (fun p => p.2.2) e
        simp only [hv0] at this
        omega
       ·have e1 : q = (sVarint ys).1 :: (rVs k [] (ys.drop (sVarint ys).2.1)).1:=by
         have:=congrArg (fun p => p.1) e
         simpa using this.symm
        have e2 : r = (rVs k [] (ys.drop (sVarint ys).2.1)).2.1:=by
         have:=congrArg (fun p => p.2.1) e
         simpa using this.symm
        have hq : zag (sVarint ys).1 :: zgn (rVs k [] (ys.drop (sVarint ys).2.1)).1 = zgn q:=by rw [e1];rfl
        rw [hq]
        have hql : (S (tms 1) (zgn q)).length = k + 1:=by rw [S_length,zgn_length,h2]
        by_cases hE : (ENC8 (S (tms 1) (zgn q))).1 = ((1 : Nat) : Int) :: ys
        ·exfalso
         have hw:=enc_tag (by omega) hE
         have hw2 : (WAY (S (tms 1) (zgn q)) 1).2 = 0:=by rw [hw]
         have hne : S (tms 1) (zgn q) ≠ []:=List.length_pos_iff.1 (by omega)
         obtain ⟨_,hw3⟩:=WAY_ok hne (by decide) hw2
         rw [hw3,D_S _ _ (zgn_i64 h3),zsn_zgn _ h3] at hw
         have hw4 : gs (q.getD 0 0).toNat ++ allG (q.drop 1) = ys:=congrArg Prod.fst hw
         have hw5 : gs (q.getD 0 0).toNat ++ allG (q.drop 1) = allG q:=by
          have e5:=allG_drop q 0 (by omega)
          rw [List.drop_zero] at e5
          exact e5.symm
         rw [hw5,h4] at hw4
         have : r = []:=List.self_eq_append_right.1 hw4
         rw [← e2,this] at hl
         simp at hl
        ·rw [if_neg hE]
      ·simp only [if_neg hl]
       rfl
   ·unfold RR READ
    rw [if_neg h0,if_neg h1,if_neg hm0,if_neg hm0,if_neg h0]
    by_cases hs : (sVarint ys).2.2 ≠ 0
    ·simp only [if_pos hs]
    ·simp only [if_neg hs]
     by_cases ho : (OTH (ys.drop (sVarint ys).2.1) (m - 1) t).2 ≠ 0
     ·simp only [if_pos ho]
     ·simp only [if_neg ho]
      have : RI ((sVarint ys).1 :: (OTH (ys.drop (sVarint ys).2.1) (m - 1) t).1) t = S (tms t) (zag (sVarint ys).1 :: zgn (OTH (ys.drop (sVarint ys).2.1) (m - 1) t).1):=by
       unfold RI
       rw [if_neg h0];rfl
      rw [this]
theorem RDEC8_eq {b : List Int} {n : Int} (hr : Byt b) : RDEC8 b n = DEC8 b n:=by
 unfold RDEC8 DEC8
 by_cases hn : n < 0 ∨ 65536 < n
 ·rw [if_pos hn,if_pos hn]
 ·rw [if_neg hn,if_neg hn]
  by_cases hb : b = []
  ·rw [if_pos hb,if_pos hb]
  ·rw [if_neg hb,if_neg hb]
   by_cases h4 : 4 < b.getD 0 0
   ·rw [if_pos h4,if_pos h4]
   ·rw [if_neg h4,if_neg h4]
    cases b with
    | nil => exact absurd rfl hb
    | cons y ys =>
     have hy:=hr y List.mem_cons_self
     simp only [List.getD_cons_zero] at h4 ⊢
     simp only [List.drop_succ_cons,List.drop_zero]
     have:=RR_READ ys n.toNat y.toNat (by omega) (by omega) (fun z hz => hr z (List.mem_cons_of_mem _ hz))
     rw [Int.toNat_of_nonneg hy.1] at this
     exact this
end Go.Proofs.YthapipgaohlgdaaGreatDoor


namespace Go.Proofs.YthapipgaohlgdaaGreatDoor
open Go.RowKit
end Go.Proofs.YthapipgaohlgdaaGreatDoor


namespace Go.Proofs.YthapipgaohlgdaaGreatDoor
open Go.RowKit
end Go.Proofs.YthapipgaohlgdaaGreatDoor


namespace Go.Proofs.YthapipgaohlgdaaGreatDoor
set_option maxRecDepth 100000
open Go.RowKit
theorem pb8_next (l : List Bool) (k : Nat) (hk : k < l.length) : pb8 (l.take (k + 1)) = ((if k % 8 = 0 then pb8 (l.take k) ++ [0] else pb8 (l.take k))).set (k / 8) ((lastB (l.take k) : Int) * 2 + ((l.getD k false).toNat : Int)):=by
 have hl : (l.take k).length = k:=by rw [List.length_take];omega
 have h:=pb8_set (l.take k) (l.getD k false)
 rw [hl] at h
 rw [List.take_succ_eq_append_getElem hk,h,List.getD_eq_getElem?_getD,List.getElem?_eq_getElem hk];rfl
theorem nb_take (l : List Bool) (k : Nat) (hk : k ≤ l.length) : nb (l.take k) = (k + 7) / 8:=by
 unfold nb;rw [List.length_take];congr 2;omega
theorem pb8_zero (l : List Bool) (t : Nat) (h : (l.length + t) % 8 ≠ 0) : pb8 (l ++ List.replicate (t + 1) false) = (pb8 (l ++ List.replicate t false)).set ((l.length + t) / 8) ((lastB (l ++ List.replicate t false) : Int) * 2):=by
 have hl : (l ++ List.replicate t false).length = l.length + t:=by simp
 have h1:=pb8_set (l ++ List.replicate t false) false
 rw [hl,if_neg h] at h1
 rw [List.replicate_succ',← List.append_assoc,← h1]
 simp
theorem set_vals (xs : List Int) (j : Nat) (a : Int) : (xs.set j a).map (Value.int .u8) = (xs.map (Value.int .u8)).set j (.int .u8 a):=by simp [List.map_set]
set_option maxHeartbeats 1600000 in
theorem brbytes_bs (v : Value) (l : List Bool) (w : World) (h : Bs .i64 w v (bitsI l)) (hl : l.length ≤ 1000000) :
  Calls Tryz.prog 116 #[v] w fun e w' => ∃ v',e = .returned v' ∧ w'.ownsRow w.heap.size 5 1 v' (bytesI l).length ((bytesI l).map (Value.int .u8)) ∧ Only (fun _ => False) w w':=by
 obtain ⟨i0,hi,hz0,hz1,hz2⟩:=info_parts Tryz.info5
 have H0:=hideIt h
 obtain ⟨ao,cap,hv⟩:=(show ∃ ao cap,v = .slice ao l.length cap by obtain ⟨ao,cap,rfl,_⟩:=h;exact ⟨ao,cap,by rw [bitsI_length]⟩)
 obtain ⟨m,hm⟩ : ∃ m,m = l.length:=⟨_,rfl⟩
 have HM:=hideIt hm
 rw [← hm] at hv hl
 subst hv
 clear hm h
 go_enter Tryz.func116,Tryz.ntmps116
 go_wp2
 go_loopw [3,4] (fun o i wr => ∃ k : Nat,k ≤ m ∧ i = .int .i64 k ∧ wr.ownsRow w.heap.size 5 1 o ((k + 7) / 8) ((pb8 (l.take k)).map (Value.int .u8)) ∧ Below w.heap.size w wr) (fun _ i _ => m - (intOf i).toNat)
 case atStart => exact ⟨0,Nat.zero_le _,rfl,by simpa [pb8,nb] using World.ownsRow_nil w w.heap.size 5 1,Below.refl _ _⟩
 case round =>
  obtain ⟨k,hk,rfl,hown,hbel⟩:=hrel
  by_cases hlt : k < m
  ·have hlt' : k < l.length:=by have:=HM.out;omega
   obtain ⟨b,off,cap',e1,hc⟩:=H0.out.at k (by rw [bitsI_length];exact hlt')
   have hbw : b < w.heap.size:=World.block_lt_of_cell? w _ hc
   have ea : ao = some ⟨b,off,none⟩:=by simp at e1;exact e1.1
   subst ea
   clear e1
   rw [bitsI_getD] at hc
   have PN:=hideIt (pb8_next l k hlt')
   obtain ⟨t,ht⟩ : ∃ t : Nat,t = (l.getD k false).toNat:=⟨_,rfl⟩
   have ht1 : (t : Int) ≤ 1:=by have:=bool_le (l.getD k false);omega
   rw [← ht] at hc PN
   obtain ⟨q,hq⟩ : ∃ q : Nat,q = lastB (l.take k):=⟨_,rfl⟩
   have hq1 : (q : Int) ≤ 127:=by have:=lastB_lt (l.take k);omega
   rw [← hq] at PN
   have HQ:=hideIt hq
   have HC:=hideIt hc
   have hsz:=hbel.size
   have hlk : (l.take k).length = k:=by rw [List.length_take];omega
   have HLK:=hideIt hlk
   clear ht hq hc hlk
   by_cases h8 : k % 8 = 0
   ·have hr : ((k : Int) % 8 == 0) = true:=by rw [beq_iff_eq];omega
    have hq0 : Hid (q = 0):=by simp only [Hid];rw [HQ.out];exact lastB_new _ (by rw [HLK.out];exact h8)
    go_wp2_with (at_builtin;refine wpList_append_lies _ rfl _ _ _ rfl w.heap.size 5 i0 (.int .u8 0) 1 1 Tryz.underlying26 hi hz0 hz1 hz2 rfl (by omega) _ ((k + 7) / 8) ((pb8 (l.take k)).map (Value.int .u8)) rfl (hown.alloc _) ⟨wr.heap.size,0,none⟩ 1 1 [.int .u8 0] rfl rfl ?c1 ?c2 (by omega) ?c3 ?c4 ?c5 (wr.heap.size + 1) (by simp) ?_)
    case c1 => exact cell_one_new _ _ _
    case c2 => intro u hu;simp at hu;subst hu;rfl
    case c3 => unfold maxLen;omega
    case c4 => omega
    case c5 => simp;omega
    intro g cap1 w1 hown1 hgrow hat hg1
    have hb1 : Below w.heap.size w w1:=(hbel.alloc hbel.size _).grown hgrow (by simp;omega) (fun q hq => (hown.lt q hq).1)
    have hcx:=(hb1.cell (p:=⟨b,off + k,none⟩) hbw).trans HC.out
    have hg0 : w.heap.size ≤ g:=(hown1.lt g rfl).1
    have hne : b ≠ g:=by omega
    have hrow : w1.cell? ⟨g,k / 8,none⟩ = some (.int .u8 0):=by
     rw [hown1.cellAt (k / 8) (by omega)]
     have : (List.map (Value.int IntKind.u8) (pb8 (l.take k))).length = k / 8:=by rw [List.length_map,pb8_length,nb_take l k (by omega)];omega
     rw [List.getElem?_append_right (by omega)];simp [this]
    have hfr : w1.frozen? ⟨g,k / 8,none⟩ = false:=hown1.frozenAt _
    have hi0 : (0 : Int) ≤ (k : Int) / 8:=by omega
    have hi1 : (k : Int) / 8 < (((k + 7) / 8 + 1 : Nat) : Int):=by omega
    have i0' : (0 : Int) ≤ (k : Int):=by omega
    have i1' : (k : Int) < (m : Int):=by omega
    have FIN:=hideIt (And.intro hown1 hb1)
    clear hown hown1 hgrow hat hbel hb1
    go_wp2
    go_region
    all_goals go_wp2
    all_goals go_roundw
    case rel =>
     refine ⟨k + 1,by omega,by go_num,?_,(FIN.out.2.setCell (p:=⟨g,k / 8,none⟩) hg0 _).drew⟩
     have o2:=(FIN.out.1.stored (k / 8) (.int .u8 (t : Int))).1.drew
     rw [show (k + 1 + 7) / 8 = (k + 7) / 8 + 1 by omega,PN.out,if_pos h8,hq0.out,set_vals]
     simpa using o2
    case measure => simp [intOf];omega
   ·have hr : ((k : Int) % 8 == 0) = false:=by rw [beq_eq_false_iff_ne];omega
    obtain ⟨g,cap1,ho,hg0,hg1⟩:=hown.form (by omega)
    subst ho
    have hcx:=(hbel.cell (p:=⟨b,off + k,none⟩) hbw).trans HC.out
    have hne : b ≠ g:=by omega
    have hrow : wr.cell? ⟨g,k / 8,none⟩ = some (.int .u8 q):=by
     rw [hown.cellAt (k / 8) (by omega),List.getElem?_map]
     have:=pb8_at (l.take k) (by rw [HLK.out];exact h8)
     rw [HLK.out] at this
     rw [this,← HQ.out];rfl
    have hfr : wr.frozen? ⟨g,k / 8,none⟩ = false:=hown.frozenAt _
    have hi0 : (0 : Int) ≤ (k : Int) / 8:=by omega
    have hi1 : (k : Int) / 8 < (((k + 7) / 8 : Nat) : Int):=by omega
    have i0' : (0 : Int) ≤ (k : Int):=by omega
    have i1' : (k : Int) < (m : Int):=by omega
    have FIN:=hideIt (And.intro hown hbel)
    clear hown hbel
    go_wp2
    go_region
    all_goals go_wp2
    all_goals go_roundw
    case rel =>
     refine ⟨k + 1,by omega,by go_num,?_,(FIN.out.2.setCell (p:=⟨g,k / 8,none⟩) hg0 _).drew⟩
     have o2:=(FIN.out.1.stored (k / 8) (.int .u8 ((q : Int) * 2 + t))).1.drew
     rw [show (k + 1 + 7) / 8 = (k + 7) / 8 by omega,PN.out,if_neg h8,set_vals]
     exact o2
    case measure => simp [intOf];omega
  ·have hkm : k = m:=by omega
   subst hkm
   have START:=hideIt (And.intro hown hbel)
   clear hown hbel hk hlt
   go_wp2
   go_loopw [5] (fun i wx => ∃ t : Nat,i = .int .i64 ((k : Int) + t) ∧ (k + t + 7) / 8 = (k + 7) / 8 ∧ wx.ownsRow w.heap.size 5 1 u3 ((k + 7) / 8) ((pb8 (l ++ List.replicate t false)).map (Value.int .u8)) ∧ Below w.heap.size w wx) (fun i _ => 8 * ((k + 7) / 8) - (intOf i).toNat)
   case atStart =>
    refine ⟨0,by go_num,rfl,?_,START.out.2⟩
    have e:=START.out.1
    rw [List.take_of_length_le (by have:=HM.out;omega)] at e
    rw [List.replicate_zero,List.append_nil];exact e
   case round =>
    obtain ⟨t,rfl,hnb,hown,hbel⟩:=hrel
    clear START
    have HNB:=hideIt hnb
    have htb : t ≤ 7:=by omega
    clear hnb
    by_cases h8 : (k + t) % 8 = 0
    ·have hr : (((k : Int) + t) % 8 != 0) = false:=by rw [bne_eq_false_iff_eq];omega
     go_wp2
     go_ret
     have hlt : (l ++ List.replicate t false).length % 8 = 0:=by rw [List.length_append,List.length_replicate,← HM.out];exact h8
     have hn2 : nb (l ++ List.replicate t false) = nb l:=by
      unfold nb;rw [List.length_append,List.length_replicate,← HM.out];exact HNB.out
     refine ⟨_,rfl,?_,only_of_below hbel⟩
     rw [pb8_full _ hlt,bytesI_pad l t hn2] at hown
     rw [bytesI_length]
     have e : nb l = (k + 7) / 8:=by unfold nb;rw [← HM.out]
     rw [e];exact hown
    ·have hr : (((k : Int) + t) % 8 != 0) = true:=by rw [bne_iff_ne];omega
     obtain ⟨g,cap1,ho,hg0,hg1⟩:=hown.form (by have:=HNB.out;omega)
     subst ho
     have hidx : (k + t) / 8 + 1 = (k + 7) / 8:=by have:=HNB.out;omega
     have HID:=hideIt hidx
     obtain ⟨n,hn⟩ : ∃ n,n = (k + 7) / 8:=⟨_,rfl⟩
     have HN:=hideIt hn
     have hn1 : 1 ≤ n:=by omega
     have hn2 : (n : Int) ≤ 1000000:=by omega
     rw [← hn] at hown ⊢
     have ZE:=hideIt (pb8_zero l t (by rw [← HM.out];exact h8))
     obtain ⟨q,hq⟩ : ∃ q : Nat,q = lastB (l ++ List.replicate t false):=⟨_,rfl⟩
     have hq1 : (q : Int) ≤ 127:=by have:=lastB_lt (l ++ List.replicate t false);omega
     have hll : (l ++ List.replicate t false).length = k + t:=by rw [List.length_append,List.length_replicate,← HM.out]
     have hrow : wr.cell? ⟨g,n - 1,none⟩ = some (.int .u8 q):=by
      rw [hown.cellAt (n - 1) (by omega),List.getElem?_map]
      have:=pb8_at (l ++ List.replicate t false) (by rw [hll];exact h8)
      rw [hll] at this
      rw [show n - 1 = (k + t) / 8 by omega,this,← hq];rfl
     have hfr : wr.frozen? ⟨g,n - 1,none⟩ = false:=hown.frozenAt _
     rw [← hq] at ZE
     have FIN:=hideIt (And.intro hown hbel)
     clear hown hbel hq hll hidx hn
     go_wp2
     go_roundw
     case rel =>
      have hid:=HID.out
      have hnn:=HN.out
      refine ⟨t + 1,by go_num,by omega,?_,FIN.out.2.setCell (p:=⟨g,n - 1,none⟩) hg0 _⟩
      have o2:=(FIN.out.1.stored (n - 1) (.int .u8 ((q : Int) * 2))).1
      have ei : (l.length + t) / 8 = n - 1:=by have:=HM.out;omega
      rw [ZE.out,ei,set_vals]
      exact o2
     case measure =>
      have hid:=HID.out
      have hnn:=HN.out
      simp [intOf];omega
end Go.Proofs.YthapipgaohlgdaaGreatDoor


namespace Go.Proofs.YthapipgaohlgdaaGreatDoor
set_option maxRecDepth 100000
open Go.RowKit
theorem lo_step (xs : List Int) (k : Nat) (h0 : 0 < k) (hk : k < xs.length) : lo (xs.take (k + 1)) = (if xs.getD k 0 < lo (xs.take k) then xs.getD k 0 else lo (xs.take k)) ∧ hi (xs.take (k + 1)) = (if hi (xs.take k) < xs.getD k 0 then xs.getD k 0 else hi (xs.take k)):=by
 rw [take_snoc xs k hk]
 cases xs with
 | nil => simp at hk
 | cons a t =>
  obtain ⟨j,rfl⟩ : ∃ j,k = j + 1:=⟨k - 1,by omega⟩
  have e : (a :: t).take (j + 1) = a :: t.take j:=rfl
  rw [e,List.cons_append,lo_cons,hi_cons,lo_cons,hi_cons,loF_snoc,hiF_snoc]
  constructor
  ·split <;> omega
  ·split <;> omega
theorem lo_first (xs : List Int) (h : 0 < xs.length) : lo (xs.take 1) = xs.getD 0 0 ∧ hi (xs.take 1) = xs.getD 0 0:=by
 cases xs with
 | nil => simp at h
 | cons a t => exact ⟨rfl,rfl⟩
set_option maxHeartbeats 1600000 in
theorem rpack_bs (v : Value) (xs : List Int) (w : World) (h : Bs .u64 w v xs) (hu : U64 xs) (hl : xs.length ≤ 700) :
  Calls Tryz.prog 110 #[v] w fun e w' => ∃ v',e = .returned (.tuple #[v',.int .i64 0]) ∧ w'.ownsRow w.heap.size 5 1 v' (PK xs).length ((PK xs).map (Value.int .u8)) ∧ Only (fun _ => False) w w':=by
 have HBS:=hideIt h
 have HU:=hideIt hu
 have HL:=hideIt (lohi hu)
 have HW:=hideIt (wd_le hu)
 obtain ⟨ao,cap,rfl⟩:=h.len
 have d0 : decide (65536 < (xs.length : Int)) = false:=by simp;omega
 obtain ⟨m,hm⟩ : ∃ m,m = xs.length:=⟨_,rfl⟩
 rw [← hm] at HBS hl d0 ⊢
 have HM:=hideIt hm
 clear h hu hm
 go_enter Tryz.func110,Tryz.ntmps110
 go_wp2
 go_loop [4,5,6] (fun a c i => ∃ k : Nat,k ≤ m ∧ i = .int .i64 k ∧ a = .int .u64 (lo (xs.take k)) ∧ c = .int .u64 (hi (xs.take k))) (fun _ _ i => m - (intOf i).toNat)
 case atStart => exact ⟨0,Nat.zero_le _,rfl,rfl,rfl⟩
 case round =>
  obtain ⟨k,hk,rfl,rfl,rfl⟩:=hrel
  by_cases hlt : k < m
  ·have hkx : k < xs.length:=by rw [← HM.out];exact hlt
   obtain ⟨b,off,cap',e1,c0⟩:=HBS.out.at k hkx
   simp only [Value.slice.injEq] at e1
   obtain ⟨rfl,e2,rfl⟩:=e1
   clear e2
   have dlt : decide ((k : Int) < (m : Int)) = true:=by simp;omega
   obtain ⟨x,hx⟩ : ∃ x,x = xs.getD k 0:=⟨_,rfl⟩
   rw [← hx] at c0
   by_cases hk0 : k = 0
   ·subst hk0
    have hf:=lo_first xs hkx
    rw [← hx] at hf
    have HF:=hideIt hf
    have z0 : (((0 : Nat) : Int) == 0) = true:=by simp
    rw [Nat.add_zero] at c0
    clear hf hx hkx
    go_wp2
    go_round
    case rel => exact ⟨1,by omega,by simp,by rw [HF.out.1],by rw [HF.out.2]⟩
    case measure => simp [intOf];omega
   ·have hs:=lo_step xs k (by omega) hkx
    rw [← hx] at hs
    have HS:=hideIt hs
    have z0 : ((k : Int) == 0) = false:=by simp;omega
    obtain ⟨a,ha⟩ : ∃ a,a = lo (xs.take k):=⟨_,rfl⟩
    obtain ⟨c,hc⟩ : ∃ c,c = hi (xs.take k):=⟨_,rfl⟩
    rw [← ha,← hc] at HS
    rw [← ha,← hc]
    clear hs hx hkx ha hc
    by_cases p1 : x < a
    ·by_cases p2 : c < x
     ·have q1 : decide (x < a) = true:=decide_eq_true p1
      have q2 : decide (c < x) = true:=decide_eq_true p2
      rw [if_pos p1,if_pos p2] at HS
      clear p1 p2
      go_wp2
      go_round
      case rel => exact ⟨k + 1,by omega,by simp,by rw [HS.out.1],by rw [HS.out.2]⟩
      case measure => simp [intOf];omega
     ·have q1 : decide (x < a) = true:=decide_eq_true p1
      have q2 : decide (c < x) = false:=decide_eq_false p2
      rw [if_pos p1,if_neg p2] at HS
      clear p1 p2
      go_wp2
      go_round
      case rel => exact ⟨k + 1,by omega,by simp,by rw [HS.out.1],by rw [HS.out.2]⟩
      case measure => simp [intOf];omega
    ·by_cases p2 : c < x
     ·have q1 : decide (x < a) = false:=decide_eq_false p1
      have q2 : decide (c < x) = true:=decide_eq_true p2
      rw [if_neg p1,if_pos p2] at HS
      clear p1 p2
      go_wp2
      go_round
      case rel => exact ⟨k + 1,by omega,by simp,by rw [HS.out.1],by rw [HS.out.2]⟩
      case measure => simp [intOf];omega
     ·have q1 : decide (x < a) = false:=decide_eq_false p1
      have q2 : decide (c < x) = false:=decide_eq_false p2
      rw [if_neg p1,if_neg p2] at HS
      clear p1 p2
      go_wp2
      go_round
      case rel => exact ⟨k + 1,by omega,by simp,by rw [HS.out.1],by rw [HS.out.2]⟩
      case measure => simp [intOf];omega
  ·obtain rfl : k = m:=by omega
   have dlt : decide ((k : Int) < (k : Int)) = false:=by simp
   have ht : xs.take k = xs:=by rw [HM.out,List.take_length]
   rw [ht]
   obtain ⟨l1,l2,l3⟩:=HL.out
   have hwd : Hid (wd xs = wid (hi xs - lo xs).toNat):=rfl
   obtain ⟨a,ha⟩ : ∃ a,a = lo xs:=⟨_,rfl⟩
   obtain ⟨c,hc⟩ : ∃ c,c = hi xs:=⟨_,rfl⟩
   rw [← ha,← hc] at hwd l2
   rw [← ha] at l1
   rw [← hc] at l3
   rw [← ha,← hc]
   have HA:=hideIt ha
   have BW:=hideIt (rwidth_any (c - a) w (by omega) (by omega))
   clear ha hc HL ht
   go_wp2_with fail
   refine BW.out.mono ?_
   rintro e w1' ⟨rfl,rfl⟩
   clear BW
   rw [← hwd.out]
   have hq:=HW.out
   obtain ⟨q,hqd⟩ : ∃ q,q = wd xs:=⟨_,rfl⟩
   rw [← hqd] at hq ⊢
   have HQ:=hideIt hqd
   clear hqd hwd HW
   have hq2 : (q : Int) ≤ 64:=by omega
   obtain ⟨i0,hi,hz0,hz1,hz2⟩:=info_parts Tryz.infoI64
   obtain ⟨j0,hj,hy0,hy1,hy2⟩:=info_parts Tryz.info5
   go_wp2
   go_loopw [8,9] (fun o i wr => ∃ t : Nat,t ≤ k ∧ i = .int .i64 t ∧ wr.ownsRow w.heap.size 3 1 o (ups a q (xs.take t)).length ((bitsI (ups a q (xs.take t))).map (Value.int .i64)) ∧ Below w.heap.size w wr) (fun _ i _ => k - (intOf i).toNat)
   case atStart => exact ⟨0,Nat.zero_le _,rfl,World.ownsRow_nil _ _ _ _,Below.refl _ _⟩
   case round =>
    obtain ⟨t,htk,rfl,hown,hbel⟩:=hrel
    have HOWN:=hideIt hown
    have HBEL:=hideIt hbel
    by_cases hlt2 : t < k
    ·have hkx : t < xs.length:=by rw [← HM.out];exact hlt2
     obtain ⟨b,off,cap',e1,c0⟩:=(HBS.out).at t hkx
     simp only [Value.slice.injEq] at e1
     obtain ⟨rfl,e2,rfl⟩:=e1
     clear e2
     have hxm : xs.getD t 0 ∈ xs:=by rw [List.getD_eq_getElem?_getD,List.getElem?_eq_getElem hkx];simp
     obtain ⟨x0,x1⟩:=HU.out _ hxm
     have x2:=lo_le xs _ hxm
     rw [← HA.out] at x2
     have hnx : Hid (ups a q (xs.take (t + 1)) = ups a q (xs.take t) ++ bitsOf (xs.getD t 0 - a).toNat q):=by
      simp only [Hid];rw [take_snoc xs t hkx,ups_snoc]
     have hln : Hid ((ups a q (xs.take t)).length ≤ 44800):=by
      simp only [Hid]
      rw [ups_length,List.length_take]
      have : min t xs.length * q ≤ 700 * 64:=Nat.mul_le_mul (by omega) hq
      omega
     obtain ⟨x,hx⟩ : ∃ x,x = xs.getD t 0:=⟨_,rfl⟩
     rw [← hx] at c0 x0 x1 x2 hnx
     obtain ⟨u,hu⟩ : ∃ u,u = ups a q (xs.take t):=⟨_,rfl⟩
     rw [← hu] at HOWN hnx hln
     have HC0:=hideIt c0
     have dlt2 : decide ((t : Int) < (k : Int)) = true:=by simp;omega
     clear hx hxm hkx hown hbel hu c0
     go_wp2
     go_loopw [8,10] (fun o i wr2 => ∃ j : Nat,j ≤ q ∧ i = .int .i64 ((q : Int) - 1 - (j : Int)) ∧ wr2.ownsRow w.heap.size 3 1 o (u ++ (bitsOf (x - a).toNat q).take j).length ((bitsI (u ++ (bitsOf (x - a).toNat q).take j)).map (Value.int .i64)) ∧ Below w.heap.size w wr2) (fun _ i _ => (1 + intOf i).toNat)
     case atStart => exact ⟨0,Nat.zero_le _,by go_num,by simpa using HOWN.out,HBEL.out⟩
     case round =>
      obtain ⟨j,hjq,rfl,hown,hbel⟩:=hrel
      clear HBEL HOWN
      by_cases hlt3 : j < q
      ·have c0:=(hbel.cell (p:=⟨b,off + t,none⟩) (World.block_lt_of_cell? w _ HC0.out)).trans HC0.out
       have B8:=bits64_of (x - a) (q - 1 - j) (by omega) (by omega)
       have TK:=hideIt (bitsOf_take (x - a).toNat q j hlt3)
       obtain ⟨cb,hcc⟩ : ∃ cb,cb = (x - a).toNat.testBit (q - 1 - j):=⟨_,rfl⟩
       rw [← hcc] at TK B8
       obtain ⟨bt,hbt⟩ : ∃ bt : Nat,bt = cb.toNat:=⟨_,rfl⟩
       have ht1 : (bt : Int) ≤ 1:=by have:=bool_le cb;omega
       rw [← hbt] at B8
       have HT:=hideIt hbt
       have hsz:=hbel.size
       have hll : Hid ((u ++ (bitsOf (x - a).toNat q).take j).length ≤ 44864):=by
        simp only [Hid]
        have:=hln.out
        rw [List.length_append,List.length_take];omega
       obtain ⟨z,hz⟩ : ∃ z,z = u ++ (bitsOf (x - a).toNat q).take j:=⟨_,rfl⟩
       have HZ : Hid (u ++ (bitsOf (x - a).toNat q).take (j + 1) = z ++ [cb]):=by
        simp only [Hid];rw [TK.out,← List.append_assoc,← hz]
       rw [← hz] at hown hll
       obtain ⟨zl,hzl⟩ : ∃ zl,zl = z.length:=⟨_,rfl⟩
       rw [← hzl] at hown hll
       have HZL:=hideIt hzl
       clear hcc hbt hz TK hzl
       go_wp2_with (at_builtin;refine wpList_append_lies _ rfl _ _ _ rfl w.heap.size 3 i0 (.int .i64 0) 1 8 Tryz.underlying45 hi hz0 hz1 hz2 rfl (by omega) _ zl ((bitsI z).map (Value.int .i64)) rfl (hown.alloc _) ⟨wr.heap.size,0,none⟩ 1 1 [.int .i64 bt] rfl rfl ?c1 ?c2 (by omega) ?c3 ?c4 ?c5 (wr.heap.size + 1) (by simp) ?_)
       case c1 => exact cell_one_new _ _ _
       case c2 => intro u hu;simp at hu;subst hu;rfl
       case c3 => have:=hll.out;unfold maxLen;omega
       case c4 => have:=hll.out;omega
       case c5 => simp;omega
       intro g cap1 w1 hown1 hgrow hat hg1
       have hb1 : Below w.heap.size w w1:=(hbel.alloc hbel.size _).grown hgrow (by simp;omega) (fun q hq => (hown.lt q hq).1)
       have hown2 : Hid (w1.ownsRow w.heap.size 3 1 (.slice (some ⟨g,0,none⟩) (zl + 1) cap1) (u ++ (bitsOf (x - a).toNat q).take (j + 1)).length ((bitsI (u ++ (bitsOf (x - a).toNat q).take (j + 1))).map (Value.int .i64))):=by
        simp only [Hid]
        rw [HZ.out,bitsI_vals_snoc,← HT.out,List.length_append,← HZL.out];exact hown1
       have HB1:=hideIt hb1
       clear hown hown1 hgrow hat hbel hb1
       go_wp2
       go_roundw
       case rel => exact ⟨j + 1,by omega,by go_num,hown2.out,HB1.out⟩
       case measure => simp [intOf];omega
      ·have hjn : j = q:=by omega
       subst hjn
       have hown3 : Hid (wr.ownsRow w.heap.size 3 1 u8 (ups a j (xs.take (t + 1))).length ((bitsI (ups a j (xs.take (t + 1)))).map (Value.int .i64))):=by
        simp only [Hid]
        rw [hnx.out,put_fin];exact hown
       have HB1:=hideIt hbel
       clear hown hbel
       go_wp2
       go_roundw
       case rel => exact ⟨t + 1,by omega,by simp,hown3.out,HB1.out⟩
       case measure => simp [intOf];omega
    ·obtain rfl : t = k:=by omega
     have dlt2 : decide ((t : Int) < (t : Int)) = false:=by simp
     have hup : ups a q (xs.take t) = up xs:=by
      rw [HM.out,List.take_length,up,← HA.out,← HQ.out]
     rw [hup] at HOWN
     have hlen : (up xs).length ≤ 44800:=by
      rw [up_length,← HQ.out,← HM.out]
      have : t * q ≤ 700 * 64:=Nat.mul_le_mul hl hq
      omega
     have HLEN:=hideIt hlen
     have AP:=hideIt (rappend_any (.slice none 0 0) [] a wr (Bs.nil _ _) NoCap.nil (by simp) l1 (by omega))
     have HG10:=hideIt (gs_le10 (v:=a.toNat) (by omega))
     have hq256 : (q : Int) < 256:=by omega
     have hsr:=hbel.size
     obtain ⟨f8,cp8,e8⟩:=(Bs.of_own (k:=.i64) (xs:=bitsI (up xs)) (by rw [bitsI_length];exact HOWN.out)).len
     rw [bitsI_length] at e8
     subst e8
     obtain ⟨ul,hul⟩ : ∃ ul,ul = (up xs).length:=⟨_,rfl⟩
     rw [← hul] at HOWN
     have HUL:=hideIt hul
     rw [← hul]
     clear hown hbel hup hlen hul
     go_wp2_with fail
     refine AP.out.mono ?_
     rintro e w3 ⟨v3,rfl,own3,on3⟩
     rw [List.nil_append] at own3
     have hs3:=on3.size
     have B3:=hideIt (on3.low (Nat.le_refl _))
     clear AP on3
     go_wp2_with (at_builtin;refine wpList_append_lies _ rfl _ _ _ rfl wr.heap.size 5 j0 (.int .u8 0) 1 1 Tryz.underlying26 hj hy0 hy1 hy2 rfl (by omega) _ (gs a.toNat).length ((gs a.toNat).map (Value.int .u8)) rfl (own3.alloc _) ⟨w3.heap.size,0,none⟩ 1 1 [.int .u8 q] rfl rfl ?c1 ?c2 (by omega) ?c3 ?c4 ?c5 (w3.heap.size + 1) (by simp) ?_)
     case c1 => exact cell_one_new _ _ _
     case c2 => intro u hu;simp at hu;subst hu;rfl
     case c3 => have:=HG10.out;unfold maxLen;omega
     case c4 => have:=HG10.out;omega
     case c5 => simp;omega
     intro g cap1 w4 own4 hgrow hat hg1
     have b4 : Below wr.heap.size wr w4:=(B3.out.alloc (by omega) _).grown hgrow (by simp;omega) (fun p hp => (own3.lt p hp).1)
     have bs4 : Bs .i64 w4 (.slice f8 ul cp8) (bitsI (up xs)):=(Bs.of_own (k:=.i64) (xs:=bitsI (up xs)) (by rw [bitsI_length,← HUL.out];exact HOWN.out)).later b4
     have RB:=hideIt (brbytes_bs (.slice f8 ul cp8) (up xs) w4 bs4 (by have:=HLEN.out;omega))
     have OWN4:=hideIt own4
     have B4:=hideIt b4
     clear own3 own4 hgrow hat b4 bs4 B3
     go_wp2_with fail
     refine RB.out.mono ?_
     rintro e w5 ⟨v5,rfl,own5,on5⟩
     have own4:=on5.own OWN4.out (fun _ _ f => f)
     have HB5:=hideIt (Bs.of_own own5)
     have NC5:=hideIt (NoCap.of_own own5)
     have hs5 : wr.heap.size ≤ w5.heap.size:=Nat.le_trans B4.out.size on5.size
     have B5:=hideIt (B4.out.trans (on5.low B4.out.size))
     have HBY : Hid ((bytesI (up xs)).length ≤ 5700):=by
      simp only [Hid];rw [bytesI_length,nb];have:=HLEN.out;omega
     obtain ⟨a5,c5,e5⟩:=HB5.out.len
     subst e5
     obtain ⟨bl,hbl⟩ : ∃ bl,bl = (bytesI (up xs)).length:=⟨_,rfl⟩
     rw [← hbl] at HB5 NC5 ⊢
     have HBL:=hideIt hbl
     clear RB OWN4 own5 on5 hbl
     go_wp2_with (at_builtin;refine wpList_append_bs _ rfl _ _ _ rfl wr.heap.size 5 j0 (.int .u8 0) 1 Tryz.underlying26 hj hy0 hy1 hy2 rfl _ _ _ rfl own4 .u8 _ (bytesI (up xs)) rfl HB5.out NC5.out ?c3 ?c4 hs5 ?_)
     case c3 => have:=HBY.out;have:=HG10.out;unfold maxLen;omega
     case c4 => have:=HBY.out;have:=HG10.out;omega
     intro v6 w6 own6 hgrow6 _ _
     have hpk : (gs a.toNat).map (Value.int .u8) ++ Value.int .u8 q :: (bytesI (up xs)).map (Value.int .u8) = (PK xs).map (Value.int .u8):=by unfold PK;rw [← HA.out,← HQ.out];simp
     have hpl : (gs a.toNat).length + 1 + (bytesI (up xs)).length = (PK xs).length:=by unfold PK;rw [← HA.out];simp;omega
     rw [hpk,hpl] at own6
     have OWN6:=hideIt (own_low own6 hsr)
     have B6:=hideIt (HBEL.out.trans ((B5.out.grown hgrow6 hs5 (fun p hp => (own4.lt p hp).1)).mono hsr))
     obtain ⟨a6,c6,e6⟩:=(Bs.of_own own6).len
     subst e6
     clear own4 own6 hgrow6 hpk hpl
     go_wp2
     go_ret2
     exact ⟨_,rfl,OWN6.out,only_of_below B6.out⟩
end Go.Proofs.YthapipgaohlgdaaGreatDoor


namespace Go.Proofs.YthapipgaohlgdaaGreatDoor
set_option maxRecDepth 100000
open Go.RowKit
theorem wid_gt {x : Int} {q : Nat} (h0 : 0 ≤ x) : decide ((q : Int) < (wid x.toNat : Int)) = !decide (x < 2 ^ q):=by
 have h:=wid_le_iff x.toNat q
 have e : x.toNat < 2 ^ q ↔ x < 2 ^ q:=by
  rw [← cast_pow];omega
 rw [e] at h
 by_cases hx : x < 2 ^ q
 ·have:=h.2 hx
  rw [decide_eq_true hx,decide_eq_false (by omega)];rfl
 ·rw [decide_eq_false hx,decide_eq_true];· rfl
  have:=fun h' => hx (h.1 h')
  omega
def cntCells : Array Value:=#[.int .i64 240,.int .i64 120,.int .i64 60,.int .i64 30,.int .i64 20,.int .i64 15,.int .i64 12,.int .i64 10,.int .i64 8,.int .i64 7,.int .i64 6,.int .i64 5,.int .i64 4,.int .i64 3,.int .i64 2,.int .i64 1]
def widCells : Array Value:=#[.int .i64 0,.int .i64 0,.int .i64 1,.int .i64 2,.int .i64 3,.int .i64 4,.int .i64 5,.int .i64 6,.int .i64 7,.int .i64 8,.int .i64 10,.int .i64 12,.int .i64 15,.int .i64 20,.int .i64 30,.int .i64 60]
theorem tab_cells {s : Nat} (h : s < 16) : cntCells[s]? = some (.int .i64 (cn s)) ∧ widCells[s]? = some (.int .i64 (wi s)):=by
 obtain rfl | rfl | rfl | rfl | rfl | rfl | rfl | rfl | rfl | rfl | rfl | rfl | rfl | rfl | rfl | rfl : s = 0 ∨ s = 1 ∨ s = 2 ∨ s = 3 ∨ s = 4 ∨ s = 5 ∨ s = 6 ∨ s = 7 ∨ s = 8 ∨ s = 9 ∨ s = 10 ∨ s = 11 ∨ s = 12 ∨ s = 13 ∨ s = 14 ∨ s = 15:=by omega
 all_goals exact ⟨by kernel_rfl,by kernel_rfl⟩
set_option maxHeartbeats 400000 in
theorem rroom_at (s : Nat) (w : World) (h : s < 16) : Calls Tryz.prog 134 #[.int .i64 s] w fun e w' => e = .returned (.tuple #[.int .i64 (cn s),.int .i64 (wi s)]) ∧ Only (fun _ => False) w w':=by
 have d0 : decide ((s : Int) < 0) = false:=by simp
 have d1 : decide (15 < (s : Int)) = false:=by simp;omega
 have s0 : (0 : Int) ≤ (s : Int):=by omega
 have s1 : (s : Int) < 16:=by omega
 obtain ⟨t1,t2⟩:=tab_cells h
 obtain ⟨W,hW⟩ : ∃ W,W = (w.alloc (.cells cntCells 3)).alloc (.cells widCells 3):=⟨_,rfl⟩
 obtain ⟨N,hN⟩ : ∃ N,N = w.heap.size:=⟨_,rfl⟩
 have HO : Hid (Only (fun _ => False) w W):=by rw [hW];exact ((Only.refl _ _).alloc _).alloc _
 have c0 : W.cell? ⟨N,s,none⟩ = some (.int .i64 (cn s)):=by
  rw [hW,hN,cell_of_row _ _ s cntCells 3 (0,0) (by rw [Below.heap_alloc _ _ _ (by simp)];exact heap_alloc_last w _),t1]
 have c1 : W.cell? ⟨N + 1,s,none⟩ = some (.int .i64 (wi s)):=by
  have:=heap_alloc_last (w.alloc (.cells cntCells 3)) (.cells widCells 3)
  rw [show (w.alloc (.cells cntCells 3)).heap.size = N + 1 by rw [hN];simp,← hW] at this
  rw [cell_of_row _ _ s widCells 3 (0,0) this,t2]
 have HW:=hideIt hW
 have HN:=hideIt hN
 clear t1 t2 hW hN
 unfold cntCells widCells at HW
 go_enter Tryz.func134,Tryz.ntmps134
 go_wp2
 rw [← HW.out,← HN.out]
 clear HW HN
 go_quiet (fail)
 go_wp2
 go_ret2
 exact ⟨rfl,HO.out.drewN nq⟩
set_option maxHeartbeats 400000 in
theorem rfits_bs (v : Value) (xs : List Int) (s : Nat) (w : World) (h : Bs .u64 w v xs) (hu : ∀ x ∈ xs,0 ≤ x ∧ x ≤ 18446744073709551615) (hs : s < 16) (hl : xs.length ≤ 140737488355328) :
  Calls Tryz.prog 149 #[v,.int .i64 s] w fun e w' => e = .returned (.bool (fitB xs s)) ∧ Only (fun _ => False) w w':=by
 have RM:=hideIt (rroom_at s w hs)
 obtain ⟨ao,cap,rfl⟩:=h.len
 have HB:=hideIt h
 have HU:=hideIt hu
 have h4:=sort_at s hs
 have HF : Hid (fitB xs s = (decide (cn s ≤ xs.length) && small (wi s) (xs.take (cn s)))):=rfl
 obtain ⟨m,hm⟩ : ∃ m,m = xs.length:=⟨_,rfl⟩
 rw [← hm] at HB hl HF ⊢
 have HM:=hideIt hm
 clear h hu hm
 generalize cn s = c at *
 generalize wi s = q at *
 by_cases hc : m < c
 ·have dc : decide ((m : Int) < (c : Int)) = true:=by simp;omega
  have dn : decide (m < c) = true:=decide_eq_true hc
  rw [decide_eq_false (by omega)] at HF
  go_enter Tryz.func149,Tryz.ntmps149
  go_wp2_with fail
  refine RM.out.mono ?_
  rintro e w1 ⟨rfl,o1⟩
  have O1:=hideIt o1
  clear o1 RM
  go_wp2
  go_ret
  exact ⟨by rw [HF.out];rfl,O1.out⟩
 ·have dc : decide ((m : Int) < (c : Int)) = false:=by simp;omega
  have dn : decide (m < c) = false:=decide_eq_false hc
  rw [decide_eq_true (by omega),Bool.true_and] at HF
  go_enter Tryz.func149,Tryz.ntmps149
  go_wp2_with fail
  refine RM.out.mono ?_
  rintro e w1 ⟨rfl,o1⟩
  have O1:=hideIt o1
  have HB1:=hideIt (HB.out.keep o1 (fun _ _ f => f))
  clear o1 RM HB
  go_wp2
  go_loop [7] (fun i => ∃ k : Nat,k ≤ c ∧ i = .int .i64 k ∧ small q (xs.take k) = true) (fun i => c - (intOf i).toNat)
  case atStart => exact ⟨0,Nat.zero_le _,rfl,by simp [small]⟩
  case round =>
   obtain ⟨k,hk,rfl,hsm⟩:=hrel
   have HS:=hideIt hsm
   clear hsm
   by_cases hlt : k < c
   ·have hkx : k < xs.length:=by rw [← HM.out];omega
    obtain ⟨b,off,cap',e1,c0⟩:=(HB1.out).at k hkx
    simp only [Value.slice.injEq] at e1
    obtain ⟨rfl,e2,rfl⟩:=e1
    clear e2
    obtain ⟨x0,x1⟩:=HU.out _ (getD_mem xs k hkx)
    have hsn : Hid (small q (xs.take (k + 1)) = (small q (xs.take k) && decide (xs.getD k 0 < 2 ^ q))):=by
     simp only [Hid];rw [take_snoc xs k hkx,small_snoc]
    have hno : Hid (¬ xs.getD k 0 < 2 ^ q → small q (xs.take c) = false):=fun hx =>
     small_no (k:=k) (by rw [List.length_take];omega) (by
      rw [List.getD_eq_getElem?_getD,List.getElem?_take,if_pos hlt,← List.getD_eq_getElem?_getD];exact hx)
    have WA:=hideIt (rwidth_any (xs.getD k 0) w1 x0 x1)
    have dw:=wid_gt (q:=q) x0
    have h64:=wid_le64 (xs.getD k 0).toNat (by omega)
    obtain ⟨x,hx⟩ : ∃ x,x = xs.getD k 0:=⟨_,rfl⟩
    rw [← hx] at c0 x0 x1 hsn hno WA dw h64
    have i0 : (0 : Int) ≤ (k : Int):=by omega
    have i1 : (k : Int) < (m : Int):=by omega
    clear hx hkx
    generalize wid x.toNat = y at WA dw h64
    by_cases hf : x < 2 ^ q
    ·rw [decide_eq_true hf] at dw
     have dy : decide (q < y) = false:=by have : ¬ ((q : Int) < (y : Int)):=of_decide_eq_false dw;exact decide_eq_false (by omega)
     have HFX:=hideIt hf
     clear hf hno
     go_wp2_with fail
     refine WA.out.mono ?_
     rintro e w2 ⟨rfl,rfl⟩
     go_wp2
     go_round
     case rel => exact ⟨k + 1,by omega,by go_num,by rw [hsn.out,HS.out];simpa using HFX.out⟩
     case measure => simp [intOf];omega
    ·have HN:=hideIt (hno.out hf)
     rw [decide_eq_false hf] at dw
     have dy : decide (q < y) = true:=by have : ((q : Int) < (y : Int)):=of_decide_eq_true dw;exact decide_eq_true (by omega)
     clear hf hno hsn
     go_wp2_with fail
     refine WA.out.mono ?_
     rintro e w2 ⟨rfl,rfl⟩
     go_wp2
     go_ret
     exact ⟨by rw [HF.out,HN.out];rfl,O1.out⟩
   ·have hkm : k = c:=by omega
    subst hkm
    go_wp2
    go_ret
    exact ⟨by rw [HF.out,HS.out];rfl,O1.out⟩
end Go.Proofs.YthapipgaohlgdaaGreatDoor


namespace Go.Proofs.YthapipgaohlgdaaGreatDoor
set_option maxRecDepth 100000
open Go.RowKit
set_option maxHeartbeats 800000 in
theorem rencode_arg (v : Value) (xs : List Int) (w : World) (h : Bs .u64 w v xs) (hu : ∀ x ∈ xs,0 ≤ x ∧ x ≤ 18446744073709551615) (hl : xs.length ≤ 65536) (hs : small 60 xs = false) :
  Calls Tryz.prog 111 #[v] w fun e w' => e = .returned (.tuple #[.slice none 0 0,.int .i64 1]) ∧ w = w':=by
 obtain ⟨ao,cap,rfl⟩:=h.len
 have HB:=hideIt h
 have HU:=hideIt hu
 have HSF:=hideIt hs
 have d : decide (65536 < (xs.length : Int)) = false:=by simp;omega
 obtain ⟨m,hm⟩ : ∃ m,m = xs.length:=⟨_,rfl⟩
 rw [← hm] at HB hl d ⊢
 have HM:=hideIt hm
 clear h hu hm hs
 go_enter Tryz.func111,Tryz.ntmps111
 go_wp2
 go_loop [4] (fun i => ∃ k : Nat,k ≤ m ∧ i = .int .i64 k ∧ small 60 (xs.take k) = true) (fun i => m - (intOf i).toNat)
 case atStart => exact ⟨0,Nat.zero_le _,rfl,by simp [small]⟩
 case round =>
  obtain ⟨k,hk,rfl,hsm⟩:=hrel
  have HS:=hideIt hsm
  clear hsm
  by_cases hlt : k < m
  ·have hkx : k < xs.length:=by rw [← HM.out];omega
   obtain ⟨b,off,cap',e1,c0⟩:=(HB.out).at k hkx
   simp only [Value.slice.injEq] at e1
   obtain ⟨rfl,e2,rfl⟩:=e1
   clear e2
   obtain ⟨x0,x1⟩:=HU.out _ (getD_mem xs k hkx)
   have hsn : Hid (small 60 (xs.take (k + 1)) = (small 60 (xs.take k) && decide (xs.getD k 0 < 2 ^ 60))):=by
    simp only [Hid];rw [take_snoc xs k hkx,small_snoc]
   have WA:=hideIt (rwidth_any (xs.getD k 0) w x0 x1)
   have dw:=wid_gt (q:=60) x0
   have h64:=wid_le64 (xs.getD k 0).toNat (by omega)
   obtain ⟨x,hx⟩ : ∃ x,x = xs.getD k 0:=⟨_,rfl⟩
   rw [← hx] at c0 x0 x1 hsn WA dw h64
   have i0 : (0 : Int) ≤ (k : Int):=by omega
   have i1 : (k : Int) < (m : Int):=by omega
   clear hx hkx
   generalize wid x.toNat = y at WA dw h64
   by_cases hf : x < 2 ^ 60
   ·rw [decide_eq_true hf] at dw
    have dy : decide (60 < (y : Int)) = false:=dw
    have HFX:=hideIt hf
    clear hf dw
    go_wp2_with fail
    refine WA.out.mono ?_
    rintro e w2 ⟨rfl,rfl⟩
    go_wp2
    go_round
    case rel => exact ⟨k + 1,by omega,by go_num,by rw [hsn.out,HS.out,decide_eq_true HFX.out];rfl⟩
    case measure => simp [intOf];omega
   ·rw [decide_eq_false hf] at dw
    have dy : decide (60 < (y : Int)) = true:=dw
    clear hf hsn dw
    go_wp2_with fail
    refine WA.out.mono ?_
    rintro e w2 ⟨rfl,rfl⟩
    go_wp2
    go_ret2
    exact ⟨rfl,rfl⟩
  ·have hkm : k = m:=by omega
   subst hkm
   have:=HS.out
   rw [HM.out,List.take_length,HSF.out] at this
   cases this
def wpN (s q : Nat) (ts : List Int) (k : Nat) : Nat:=wacc s q (ts.take k) * 2 ^ (60 - k * q)
theorem wpN_all (s q : Nat) (ts : List Int) : wpN s q ts ts.length = wordN s q ts:=by simp [wpN,wordN]
theorem wpN_zero (s q : Nat) (ts : List Int) : wpN s q ts 0 = s * 1152921504606846976:=by simp [wpN,wacc]
theorem wpN_step {s q : Nat} {ts : List Int} (hs : s < 16) (h : Up q ts) (hw : ts.length * q ≤ 60) (k : Nat) (hk : k < ts.length) :
  0 ≤ ts.getD k 0 * 2 ^ (60 - (k + 1) * q) ∧ ts.getD k 0 * 2 ^ (60 - (k + 1) * q) ≤ 18446744073709551615 ∧ bits .or .u64 (wpN s q ts k : Int) (ts.getD k 0 * 2 ^ (60 - (k + 1) * q)) = (wpN s q ts (k + 1) : Int):=by
 have h1:=wacc_lt hs h k (by omega)
 have hz:=h _ (getD_mem ts k hk)
 have hn:=toNat_up hz
 have hkq : (k + 1) * q ≤ 60:=Nat.le_trans (Nat.mul_le_mul_right q (by omega)) hw
 have hkq2 : (k + 1) * q = k * q + q:=by rw [Nat.add_mul,Nat.one_mul]
 have e64 : (2 : Nat) ^ 64 = 18446744073709551616:=by decide
 have e60 : (2 : Nat) ^ 60 = 1152921504606846976:=by decide
 unfold wpN
 rw [take_snoc ts k hk,wacc_snoc]
 generalize ts.getD k 0 = z at *
 generalize wacc s q (ts.take k) = a at *
 obtain ⟨m,rfl⟩:=Int.eq_ofNat_of_zero_le hz.1
 rw [Int.toNat_natCast] at hn ⊢
 have e2 : ((m : Int) * 2 ^ (60 - (k + 1) * q)) = ((m * 2 ^ (60 - (k + 1) * q) : Nat) : Int):=by simp
 have hm1 : m * 2 ^ (60 - (k + 1) * q) < 2 ^ (60 - k * q):=by
  have:=Nat.mul_lt_mul_of_pos_right hn (Nat.two_pow_pos (60 - (k + 1) * q))
  rw [← Nat.pow_add] at this
  rwa [show q + (60 - (k + 1) * q) = 60 - k * q by omega] at this
 have hm2 : 2 ^ (60 - k * q) ≤ 2 ^ 60:=Nat.pow_le_pow_right (by omega) (by omega)
 have ha : a * 2 ^ (60 - k * q) < 2 ^ 64:=by
  have:=Nat.mul_lt_mul_of_pos_right h1 (Nat.two_pow_pos (60 - k * q))
  rw [← Nat.pow_add] at this
  rwa [show 4 + k * q + (60 - k * q) = 64 by omega] at this
 rw [e2]
 refine ⟨by omega,by omega,?_⟩
 rw [u64_or_nat _ _ (by omega) (by omega),nat_join (60 - k * q) _ _ (Nat.mul_mod_left _ _) hm1]
 congr 1
 rw [show 60 - k * q = q + (60 - (k + 1) * q) by omega,Nat.pow_add,← Nat.mul_assoc,← Nat.add_mul]
theorem take_getD (zs : List Int) (c k : Nat) (h : k < c) : (zs.take c).getD k 0 = zs.getD k 0:=by
 rw [List.getD_eq_getElem?_getD,List.getElem?_take,if_pos h,← List.getD_eq_getElem?_getD]
end Go.Proofs.YthapipgaohlgdaaGreatDoor


namespace Go.Proofs.YthapipgaohlgdaaGreatDoor
set_option maxRecDepth 100000
open Go.RowKit
theorem u64_of_up {xs : List Int} (h : Up 60 xs) : ∀ x ∈ xs,0 ≤ x ∧ x ≤ 18446744073709551615:=fun x hx => ⟨(h x hx).1,by have:=(h x hx).2;omega⟩
set_option maxHeartbeats 1600000 in
theorem rencode_bs (v : Value) (xs : List Int) (w : World) (h : Bs .u64 w v xs) (hu : Up 60 xs) (hl : xs.length ≤ 65536) :
  Calls Tryz.prog 111 #[v] w fun e w' => ∃ v',e = .returned (.tuple #[v',.int .i64 0]) ∧ w'.ownsRow w.heap.size 5 1 v' (enc xs).length ((enc xs).map (Value.int .u8)) ∧ Only (fun _ => False) w w':=by
 obtain ⟨i0,hi,hz0,hz1,hz2⟩:=info_parts Tryz.infoU8
 have HEL:=hideIt (enc_len xs.length xs rfl hu).2.1
 obtain ⟨ao,cap,rfl⟩:=h.len
 have HB:=hideIt h
 have HU:=hideIt hu
 have d : decide (65536 < (xs.length : Int)) = false:=by simp;omega
 obtain ⟨m,hm⟩ : ∃ m,m = xs.length:=⟨_,rfl⟩
 rw [← hm] at HB hl d HEL ⊢
 have HM:=hideIt hm
 clear h hu hm
 go_enter Tryz.func111,Tryz.ntmps111
 go_wp2
 go_loop [4] (fun i => ∃ k : Nat,k ≤ m ∧ i = .int .i64 k) (fun i => m - (intOf i).toNat)
 case atStart => exact ⟨0,Nat.zero_le _,rfl⟩
 case round =>
  obtain ⟨k,hk,rfl⟩:=hrel
  by_cases hlt : k < m
  ·have hkx : k < xs.length:=by rw [← HM.out];omega
   obtain ⟨b,off,cap',e1,c0⟩:=(HB.out).at k hkx
   simp only [Value.slice.injEq] at e1
   obtain ⟨rfl,e2,rfl⟩:=e1
   clear e2
   obtain ⟨x0,x1⟩:=u64_of_up HU.out _ (getD_mem xs k hkx)
   have x60:=(HU.out _ (getD_mem xs k hkx)).2
   have WA:=hideIt (rwidth_any (xs.getD k 0) w x0 x1)
   have dw:=wid_gt (q:=60) x0
   have h64:=wid_le64 (xs.getD k 0).toNat (by omega)
   rw [decide_eq_true x60] at dw
   obtain ⟨x,hx⟩ : ∃ x,x = xs.getD k 0:=⟨_,rfl⟩
   rw [← hx] at c0 x0 x1 WA dw h64
   have i0 : (0 : Int) ≤ (k : Int):=by omega
   have i1 : (k : Int) < (m : Int):=by omega
   clear hx hkx x60
   generalize wid x.toNat = y at WA dw h64
   have dy : decide (60 < (y : Int)) = false:=dw
   clear dw
   go_wp2_with fail
   refine WA.out.mono ?_
   rintro e w2 ⟨rfl,rfl⟩
   go_wp2
   go_round
   case rel => exact ⟨k + 1,by omega,by go_num⟩
   case measure => simp [intOf];omega
  ·have hkm : k = m:=by omega
   subst hkm
   have dk : decide ((k : Int) < (k : Int)) = false:=by simp
   go_wp2
   go_loopw [0,5] (fun l o wr => ∃ (zs done : List Int) (ao : Option Addr) (cap : Nat),done ++ enc zs = enc xs ∧ Up 60 zs ∧ l = .slice ao zs.length cap ∧ zs.length ≤ k ∧ Bs .u64 w (.slice ao zs.length cap) zs ∧ wr.ownsRow w.heap.size 5 1 o done.length (done.map (Value.int .u8)) ∧ Only (fun _ => False) w wr) (fun l _ _ => lenS l)
   case atStart => exact ⟨xs,[],ao,cap,rfl,HU.out,by rw [HM.out],by rw [← HM.out];omega,by rw [← HM.out];exact HB.out,World.ownsRow_nil _ _ _ _,Only.refl _ _⟩
   case round =>
    obtain ⟨zs,done,ao,cap,hdone,hup,rfl,hzm,hbs,hown,hon⟩:=hrel
    clear HB HU hlt dk
    by_cases hz : zs = []
    ·subst hz
     have d0 : decide (0 < (([] : List Int).length : Int)) = false:=by simp
     rw [enc_nil,List.append_nil] at hdone
     rw [hdone] at hown
     obtain ⟨a6,c6,e6⟩:=(Bs.of_own hown).len
     subst e6
     have H:=hideIt (And.intro hown hon)
     clear hown hon hdone hbs
     simp only [List.length_nil]
     go_wp2
     go_ret2
     exact ⟨_,rfl,H.out⟩
    ·have hpos : 0 < zs.length:=List.length_pos_iff.2 hz
     obtain ⟨f1,f2,f3⟩:=least_fits hz hup
     obtain ⟨g1,g2,g3,g4,_⟩:=sort_at _ f1
     have F15:=hideIt (fit15 hz hup)
     have FITS : Hid (∀ (s : Nat) (w2 : World),s < 16 → Only (fun _ => False) w w2 → Calls Tryz.prog 149 #[.slice ao zs.length cap,.int .i64 s] w2 fun e w' => e = .returned (.bool (fitB zs s)) ∧ Only (fun _ => False) w2 w') :=
      fun s w2 hs o2 => rfits_bs _ zs s w2 (hbs.keep o2 (fun _ _ f => f)) (u64_of_up hup) hs (by omega)
     have htl : (zs.take (cn (least zs))).length = cn (least zs):=by rw [List.length_take];omega
     have WS : Hid (∀ j,j < cn (least zs) → 0 ≤ zs.getD j 0 * 2 ^ (60 - (j + 1) * wi (least zs)) ∧ zs.getD j 0 * 2 ^ (60 - (j + 1) * wi (least zs)) ≤ 18446744073709551615 ∧ bits .or .u64 (wpN (least zs) (wi (least zs)) (zs.take (cn (least zs))) j : Int) (zs.getD j 0 * 2 ^ (60 - (j + 1) * wi (least zs))) = (wpN (least zs) (wi (least zs)) (zs.take (cn (least zs))) (j + 1) : Int)):=by
      intro j hj
      have:=wpN_step f1 f3 (by rw [htl];exact g4) j (by omega)
      rw [take_getD _ _ _ hj] at this
      exact this
     have W0 : Hid (wpN (least zs) (wi (least zs)) (zs.take (cn (least zs))) 0 = least zs * 1152921504606846976):=wpN_zero _ _ _
     have WE : Hid (wpN (least zs) (wi (least zs)) (zs.take (cn (least zs))) (cn (least zs)) = wd0 zs):=by
      have:=wpN_all (least zs) (wi (least zs)) (zs.take (cn (least zs)))
      rw [htl] at this
      exact this
     have RM : Hid (∀ w2,Calls Tryz.prog 134 #[.int .i64 (least zs)] w2 fun e w' => e = .returned (.tuple #[.int .i64 (cn (least zs)),.int .i64 (wi (least zs))]) ∧ Only (fun _ => False) w2 w'):=fun w2 => rroom_at (least zs) w2 f1
     have ES : Hid (done ++ fixL (wd0 zs) 8 ++ enc (zs.drop (cn (least zs))) = enc xs):=by simp only [Hid];rw [← hdone,enc_step hz hup,List.append_assoc]
     have HUD : Hid (Up 60 (zs.drop (cn (least zs)))):=hup.drop _
     have HDL : Hid (done.length ≤ 8 * k):=by
      have h1:=congrArg List.length hdone
      rw [List.length_append] at h1
      have:=HEL.out
      simp only [Hid];omega
     have HZ0 : Hid (∀ x ∈ zs,0 ≤ x ∧ x ≤ 18446744073709551615):=u64_of_up hup
     have hcap:=hbs.cap_le
     have HBS:=hideIt hbs
     have HOWN:=hideIt hown
     have HON:=hideIt hon
     obtain ⟨n,hn⟩ : ∃ n,n = zs.length:=⟨_,rfl⟩
     have HNL:=hideIt hn
     rw [← hn] at FITS hcap HBS hpos hzm f2 ⊢
     have LE : Hid (∀ s,s ≤ 15 → leastF (15 - s) s zs = least zs → fitB zs s = true → s = least zs):=fun s _ h1 h2 => by rw [← h1,leastF_hit h2]
     have LN : Hid (∀ s,s ≤ 15 → leastF (15 - s) s zs = least zs → fitB zs s = false → s < 15 ∧ leastF (15 - (s + 1)) (s + 1) zs = least zs):=fun s hs h1 h2 => by
      have h15 : s < 15:=by
       rcases Nat.lt_or_ge s 15 with h | h
       ·exact h
       ·rw [show s = 15 by omega,F15.out] at h2;cases h2
      exact ⟨h15,by rw [← leastF_miss h2 h15];exact h1⟩
     have LZ : Hid (leastF (15 - 0) 0 zs = least zs):=rfl
     obtain ⟨c,hc⟩ : ∃ c,c = cn (least zs):=⟨_,rfl⟩
     obtain ⟨q,hq⟩ : ∃ q,q = wi (least zs):=⟨_,rfl⟩
     obtain ⟨t,ht⟩ : ∃ t,t = least zs:=⟨_,rfl⟩
     obtain ⟨x,hx⟩ : ∃ x,x = wd0 zs:=⟨_,rfl⟩
     rw [← hc,← hq,← ht] at WS W0 RM
     rw [← hc,← hq,← ht,← hx] at WE
     rw [← hc,← hx] at ES
     rw [← hc] at HUD f2 g1 g2 g4
     rw [← hq] at g3 g4
     rw [← ht] at LE LN LZ f1
     have d0 : decide (0 < (n : Int)) = true:=by simp;omega
     have j0 : (0 : Int) ≤ (c : Int):=by omega
     have j1 : (c : Int) ≤ (n : Int):=by omega
     have j2 : (c : Int) ≤ (cap : Int):=by omega
     clear hbs hown hon hdone hup hn hz f3 htl hc hq ht hx F15
     have TS : Hid (∃ ts : List Int,ts = zs.take c):=⟨_,rfl⟩
     go_wp2
     go_loopw [6] (fun i wr => ∃ s : Nat,s ≤ 15 ∧ i = .int .i64 s ∧ leastF (15 - s) s zs = t ∧ wr.ownsRow w.heap.size 5 1 u5 done.length (done.map (Value.int .u8)) ∧ Only (fun _ => False) w wr) (fun i _ => 15 - (intOf i).toNat)
     case atStart => exact ⟨0,by omega,rfl,LZ.out,HOWN.out,HON.out⟩
     case round =>
      obtain ⟨s,hs,rfl,hls,hown,hon⟩:=hrel
      have HLS:=hideIt hls
      have FT:=hideIt (FITS.out s wr (by omega) hon)
      have HOWN2:=hideIt hown
      have HON2:=hideIt hon
      clear HOWN HON hown hon hls
      cases hf : fitB zs s
      ·have LN1:=hideIt (LN.out s hs HLS.out hf)
       rw [hf] at FT
       clear hf
       go_wp2_with fail
       refine FT.out.mono ?_
       rintro e w2 ⟨rfl,o2⟩
       have O2:=hideIt (HON2.out.trans o2 (fun _ _ f => f))
       have OW2:=hideIt (o2.own HOWN2.out (fun _ _ f => f))
       clear o2 FT HOWN2 HON2
       go_wp2
       go_roundw
       case rel => exact ⟨s + 1,by have:=LN1.out.1;omega,by go_num,LN1.out.2,OW2.out,O2.out⟩
       case measure => have:=LN1.out.1;simp [intOf];omega
      ·have hst:=LE.out s hs HLS.out hf
       subst hst
       rw [hf] at FT
       clear hf
       go_wp2_with fail
       refine FT.out.mono ?_
       rintro e w2 ⟨rfl,o2⟩
       have O2:=hideIt (HON2.out.trans o2 (fun _ _ f => f))
       have OW2:=hideIt (o2.own HOWN2.out (fun _ _ f => f))
       clear o2 FT HOWN2 HON2 LE LN LZ HLS FITS
       go_wp2_with fail
       refine (RM.out w2).mono ?_
       rintro e w3 ⟨rfl,o3⟩
       have O3:=hideIt (O2.out.trans o3 (fun _ _ f => f))
       have OW3:=hideIt (o3.own OW2.out (fun _ _ f => f))
       have HBS3:=hideIt (HBS.out.keep O3.out (fun _ _ f => f))
       clear o3 O2 OW2 RM
       have s15 : (s : Int) ≤ 15:=by omega
       go_wp2
       go_loop [9,10] (fun a i => ∃ j : Nat,j ≤ c ∧ i = .int .i64 j ∧ a = .int .u64 (wpN s q (zs.take c) j)) (fun _ i => c - (intOf i).toNat)
       case atStart => exact ⟨0,Nat.zero_le _,rfl,by rw [W0.out];simp⟩
       case round =>
        obtain ⟨j,hj,rfl,rfl⟩:=hrel
        by_cases hlt3 : j < c
        ·have hjx : j < zs.length:=by rw [← HNL.out];omega
         obtain ⟨b,off,cap',e1,c0⟩:=(HBS3.out).at j hjx
         simp only [Value.slice.injEq] at e1
         obtain ⟨rfl,e2,rfl⟩:=e1
         clear e2
         obtain ⟨k0,k1,k2⟩:=WS.out j hlt3
         have HK2:=hideIt k2
         obtain ⟨z0,z1⟩:=HZ0.out _ (getD_mem zs j hjx)
         have pk : (j + 1) * q ≤ 60:=Nat.le_trans (Nat.mul_le_mul_right q (by omega)) g4
         have p0 : (0 : Int) ≤ ((j : Int) + 1) * (q : Int):=by rw [show ((j : Int) + 1) = ((j + 1 : Nat) : Int) by simp,← Int.natCast_mul];omega
         have p1 : ((j : Int) + 1) * (q : Int) ≤ 60:=by rw [show ((j : Int) + 1) = ((j + 1 : Nat) : Int) by simp,← Int.natCast_mul];omega
         generalize zs.getD j 0 = z at c0 k0 k1 HK2 z0 z1
         generalize wpN s q (zs.take c) j = a at HK2
         have i0 : (0 : Int) ≤ (j : Int):=by omega
         have i1 : (j : Int) < (n : Int):=by omega
         clear k2 hjx
         go_wp2
         go_round
         case rel => exact ⟨j + 1,by omega,by go_num,by rw [HK2.out]⟩
         case measure => simp [intOf];omega
        ·have hjc : j = c:=by omega
         subst hjc
         rw [WE.out]
         clear WS W0 hlt3
         by_cases hcc : cap = j
         ·subst hcc
          go_wp2_with fail
          refine (rfix_any x 8 w3 (by omega)).mono ?_
          rintro e w4 ⟨u,rfl,own4,o4⟩
          have ow:=o4.own OW3.out (fun _ _ f => f)
          have hb4:=Bs.of_own own4
          have NC4:=hideIt (NoCap.of_own own4)
          have HB4:=hideIt hb4
          have hs4 : w.heap.size ≤ w4.heap.size:=Nat.le_trans O3.out.size o4.size
          have O4:=hideIt (O3.out.trans o4 (fun _ _ f => f))
          obtain ⟨a4,c4,e4⟩:=hb4.len
          subst e4
          clear o4 own4 O3 OW3 hb4
          rw [fixL_len] at HB4 NC4
          go_wp2_with (at_builtin;refine wpList_append_bs _ rfl _ _ _ rfl w.heap.size 5 i0 (.int .u8 0) 1 Tryz.underlying26 hi hz0 hz1 hz2 rfl _ _ _ rfl ow .u8 _ (fixL x 8) rfl HB4.out NC4.out ?c3 ?c4 hs4 ?_)
          case c3 => have:=HDL.out;rw [fixL_len];unfold maxLen;omega
          case c4 => have:=HDL.out;rw [fixL_len];omega
          intro v6 w6 own6 hgrow6 _ _
          have OWN6 : Hid (w6.ownsRow w.heap.size 5 1 v6 (done ++ fixL x 8).length ((done ++ fixL x 8).map (Value.int .u8))):=by
           simp only [Hid];rw [List.length_append,List.map_append];exact own6
          have O6:=hideIt (O4.out.grown hgrow6 (fun k hk e => absurd (ow.lt k e).1 (by omega)))
          clear ow own6 hgrow6
          go_wp2
          go_roundw
          case rel =>
           refine ⟨zs.drop cap,done ++ fixL x 8,ao,0,ES.out,HUD.out,?_,by rw [List.length_drop,← HNL.out];omega,?_,OWN6.out,O6.out⟩
           ·rw [List.length_drop,← HNL.out,show n - cap = 0 by omega]
           ·rw [List.length_drop,← HNL.out]
            exact (Nat.sub_self cap ▸ HBS.out.cut0 f2)
          case measure =>
           simp only [lenS]
           omega
         ·go_wp2_with fail
          refine (rfix_any x 8 w3 (by omega)).mono ?_
          rintro e w4 ⟨u,rfl,own4,o4⟩
          have ow:=o4.own OW3.out (fun _ _ f => f)
          have hb4:=Bs.of_own own4
          have NC4:=hideIt (NoCap.of_own own4)
          have HB4:=hideIt hb4
          have hs4 : w.heap.size ≤ w4.heap.size:=Nat.le_trans O3.out.size o4.size
          have O4:=hideIt (O3.out.trans o4 (fun _ _ f => f))
          obtain ⟨a4,c4,e4⟩:=hb4.len
          subst e4
          clear o4 own4 O3 OW3 hb4
          rw [fixL_len] at HB4 NC4
          go_wp2_with (at_builtin;refine wpList_append_bs _ rfl _ _ _ rfl w.heap.size 5 i0 (.int .u8 0) 1 Tryz.underlying26 hi hz0 hz1 hz2 rfl _ _ _ rfl ow .u8 _ (fixL x 8) rfl HB4.out NC4.out ?c3 ?c4 hs4 ?_)
          case c3 => have:=HDL.out;rw [fixL_len];unfold maxLen;omega
          case c4 => have:=HDL.out;rw [fixL_len];omega
          intro v6 w6 own6 hgrow6 _ _
          have OWN6 : Hid (w6.ownsRow w.heap.size 5 1 v6 (done ++ fixL x 8).length ((done ++ fixL x 8).map (Value.int .u8))):=by
           simp only [Hid];rw [List.length_append,List.map_append];exact own6
          have O6:=hideIt (O4.out.grown hgrow6 (fun k hk e => absurd (ow.lt k e).1 (by omega)))
          clear ow own6 hgrow6
          go_wp2
          go_roundw
          case rel =>
           refine ⟨zs.drop j,done ++ fixL x 8,ao.map (fun x => x.add j),cap - j,ES.out,HUD.out,?_,by rw [List.length_drop,← HNL.out];omega,?_,OWN6.out,O6.out⟩
           ·rw [List.length_drop,← HNL.out]
           ·rw [List.length_drop,← HNL.out]
            exact HBS.out.cut f2
          case measure =>
           simp only [lenS]
           omega
end Go.Proofs.YthapipgaohlgdaaGreatDoor
