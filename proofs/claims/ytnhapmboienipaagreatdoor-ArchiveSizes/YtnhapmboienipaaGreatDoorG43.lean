import Derived.Test.YtnhapmboienipaaGreatDoorG42
namespace Go.Proofs.YtnhapmboienipaaGreatDoor
set_option maxHeartbeats 4000000
set_option maxRecDepth 100000
open Go.RowKit
def SUMS (ls : List (List Int)) (k : Nat) : Nat:=((ls.take k).flatten).length
theorem QmJ {ls : List (List Int)} {k : Nat} (h : k < ls.length) : SUMS ls (k + 1) = SUMS ls k + (ls.getD k []).length:=by
 unfold SUMS;rw [List.take_add_one,List.getElem?_eq_getElem h,List.flatten_append,List.length_append,List.getD_eq_getElem?_getD,List.getElem?_eq_getElem h];simp
theorem Qsb {m : List Int} {v : Nat} {l : List CHK} (j k : Nat) : SUMS (SAt m v l j) k ≤ k * 4194320:=by
 have h1:=Qfc ((SAt m v l j).take k) 4194320 (fun x hx => Qko x (List.mem_of_mem_take hx))
 have h2 : ((SAt m v l j).take k).length ≤ k:=by rw [List.length_take];omega
 exact Nat.le_trans h1 (Nat.mul_le_mul_right 4194320 h2)
theorem Qsc {b : Nat} (h : 127 < b) : (gs b).length = (gs (b / 128)).length + 1:=by rw [QdK (by omega)];rfl
theorem Qsd {b : Nat} (h : ¬ 127 < b) : (gs b).length = 1:=by rw [Qa6 (by omega)];rfl
theorem QjW (vm vl : Value) (m : List Int) (v : Nat) (l : List CHK) (w : World) (bm : Bs .u8 w vm m) (m8 : U8 m) (hv : v < 18446744073709551616) (hc : Chs w vl l) (hg : CL l) (hT : Tab w) :
  Calls Tryz.prog 5 #[vm,.int .u64 v,vl] w fun e w' => e = .returned (.bool true) ∧ Only (fun _ => False) w w':=by
 have A:=Qaa (Qkw w hT);obtain ⟨am,cm,rfl⟩:=bm.len;obtain ⟨al,cl,rfl,_⟩:=hc.len
 have hcg : ∀ c ∈ l,CG c:=fun c h => (hg c h).1
 have FW:=Qaa (fun W (o : Only (fun _ => False) w W) => Qkx (.slice al l.length cl) l W (hc.past o) hg (fun c h => (hcg c h).t8));have BD:=Qaa (fun W (o : Only (fun _ => False) w W) (h100 : l.length ≤ 100) => QfU (.slice am m.length cm) NIL (.slice al l.length cl) m [] 0 v l W (bm.past o) m8 (Bs.nil _ _) NoCap.nil (fun y hy => by cases hy) (hc.past o) hg h100 hv (hT.past o));have HC:=Qaa hc;have HI:=Qaa (And.intro m8 (And.intro hv (And.intro hg hcg)));obtain ⟨M,hM⟩ : ∃ M,M = m.length:=⟨_,rfl⟩;obtain ⟨n,hn⟩ : ∃ n,n = l.length:=⟨_,rfl⟩;rw [← hn] at FW HC;simp only [← hM,← hn] at BD;rw [← hM,← hn];have HL:=Qaa (And.intro hM hn);clear bm m8 hv hc hg hT hcg hM hn;go_enter Tryz.func5,Tryz.ntmps5;go_wp2_with fail;refine A.out.mono ?_;rintro e w1 ⟨rfl,o1⟩;obtain ⟨b,hb,fw⟩:=FW.out w1 o1;have FW1:=Qaa fw;have HB:=Qaa hb;have O1:=Qaa o1;clear A FW fw hb o1
 cases b with
 | false =>
  clear BD HB HC HI;go_wp2_with fail;refine FW1.out.mono ?_;rintro e w2 ⟨rfl,rfl⟩;clear FW1;go_wp2;go_ret;exact ⟨rfl,O1.out⟩
 | true =>
  obtain ⟨h12,hfew⟩:=HB.out rfl
  have hn12 : n ≤ 12:=by have:=HL.out.2;omega
  clear hfew HB
  by_cases h32 : M = 32
  ·subst h32
   have BD1:=Qaa (BD.out w1 O1.out (by omega));clear BD h12
   by_cases hE : ARe m (0,[]) v l = 0
   ·have h100 : l.length ≤ 100:=by have:=HL.out.2;omega
    have nl8 : U8 ([] : List Int):=fun y hy => by cases hy
    have hsp:=Qip (m:=m) (s:=(0,[])) (v:=v) HI.out.2.1 nl8 HI.out.2.2.2 h100 hE;have h8:=AR_u8 (m:=m) (s:=(0,[])) (v:=v) HI.out.2.1 nl8 HI.out.2.2.2 hE;have hln:=QsQ (m:=m) (s:=(0,[])) (v:=v) HI.out.2.1 nl8 HI.out.2.2.2 h100 hE;have hsm:=Qfg (m:=m) (s:=(0,[])) (v:=v) HI.out.2.1 nl8 HI.out.2.2.2 h100 hE;have SP:=Qaa (fun (W : World) (x : Value) (h : Bs .u8 W x (ARt m (0,[]) v l)) => Qfd x (ARt m (0,[]) v l) W h h8.2 (by omega) hsp);have hsz:=Qaa (fun (j : Nat) (hj : j < l.length) => Qio (m:=m) (v:=v) (Qig hE).2 hj)
    have hT : (ARt m (0,[]) v l).length = (blk (ARg m (0,[]) v l)).length + SUMS (SAt m v l l.length) l.length:=by
     unfold ARt SUMS;rw [if_pos hE,List.length_append,List.take_of_length_le (by rw [Qb6];exact Nat.le_refl _)]
    have hB : (blk (ARg m (0,[]) v l)).length = (ARg m (0,[]) v l).length + (gs (ARg m (0,[]) v l).length).length:=by unfold blk;rw [List.length_append];omega
    have hES : (ARm m [] v l).es.length = n:=by rw [HL.out.2];exact Qdj _ _ _
    have hLS : (SAt m v l l.length).length = n:=by rw [HL.out.2];exact Qb6 _ _ _ _
    rw [hE,show ((0 : Nat) : Int) = 0 from rfl] at BD1;have HEE:=Qaa (show (ARm m [] v l).es = SAn m l l.length from rfl);obtain ⟨q,hq⟩ : ∃ q,q = (ARg m (0,[]) v l).length:=⟨_,rfl⟩
    have hqb : q ≤ 10032:=by have : (MENC (ARm m [] v l)).length ≤ 10000:=hsm;have:=hln.1;have e : (ARm m ((0 : Nat),([] : List Int)).2 v l) = ARm m [] v l:=rfl;rw [e] at this;omega
    have HQ:=Qaa (And.intro hT (And.intro hB (And.intro hES (And.intro hLS (And.intro hq hln.2)))));clear h100 nl8 hsp h8 hln hsm hE hT hB hES hLS hq;go_wp2_with fail;refine FW1.out.mono ?_;rintro e w2 ⟨rfl,rfl⟩;clear FW1;go_wp2_with fail;refine BD1.out.mono ?_;rintro e w3 ⟨u,ru,rfl,bu⟩;obtain ⟨ar,cr,rfl⟩:=bu.r.len;obtain ⟨au,cu,rfl⟩:=(Bs.of_own (k:=.u8) (E:=5) bu.t).len;have o3:=bu.o.alloc (.cells #[.int .u64 (ARr m (0,[]) v l).1,.slice ar (ARr m (0,[]) v l).2.length cr] 25);have SP3:=Qaa (SP.out _ _ ((Bs.of_own (k:=.u8) (E:=5) bu.t).past ((Only.refl (fun _ => False) w3).alloc (.cells #[.int .u64 (ARr m (0,[]) v l).1,.slice ar (ARr m (0,[]) v l).2.length cr] 25))));have O3:=Qaa (O1.out.same o3);clear bu o3 BD1 O1 SP;go_wp2_with fail;refine SP3.out.mono ?_;rintro e w5 ⟨x,vp,ve,vr,sg,a,rfl,sw⟩;have hf:=sw.mn.mf.form;obtain ⟨ap,cp,ep⟩:=sw.mn.mf.prev.len;obtain ⟨ae,ce,ee⟩:=sw.mn.mf.es.len;obtain ⟨avr,cvr,er⟩:=sw.mn.mf.root.len;obtain ⟨vs,lo,own⟩:=sw.ls;obtain ⟨aa,ca,ea⟩:=Qaj own;obtain ⟨asg,csg,esg⟩:=sw.sg.len;subst ep ee er hf ea esg;obtain ⟨W6,hW6⟩ : ∃ W,W = w5.alloc (.cells #[.int .u64 (ARm m [] v l).ver,.slice ap (ARm m [] v l).prev.length cp,.slice ae (ARm m [] v l).es.length ce,.slice avr (ARm m [] v l).root.length cvr] 42):=⟨_,rfl⟩
    have o6 : Only (fun _ => False) w5 W6:=by rw [hW6];exact (Only.refl _ _).alloc _
    have g6:=show W6.heap[w5.heap.size]? = some (.cells #[.int .u64 (ARm m [] v l).ver,.slice ap (ARm m [] v l).prev.length cp,.slice ae (ARm m [] v l).es.length ce,.slice avr (ARm m [] v l).root.length cvr] 42 (0,0)) by rw [hW6];exact heap_alloc_new _ _
    obtain ⟨⟨_,_,y2,_⟩,_⟩:=QaP g6;have H6:=Qaa (And.intro (sw.mn.mf.es.past o6) (And.intro (lo.past o6) (And.intro (o6.own own (fun _ _ f => f)) (O3.out.same (sw.o.same o6)))));obtain ⟨e1,e2,e3,e4,e5,e6⟩:=HQ.out;rw [e3] at y2 H6;rw [e4] at H6;have HW6:=Qaa hW6;rw [e3] at HW6;rw [e3,e4,← e5];clear sw lo own o6 g6 SP3 O3 hW6 e1 e2 e3 e4 e5 e6;go_wp2_with fail;rw [← HW6.out];have hgq : (gs q).length ≤ 10:=Qaz (by omega);have S0 : Hid (q + 1 + (gs q).length = q + 1 + (gs q).length):=rfl
    go_loopw [15,16] (fun s k wr => wr = W6 ∧ ∃ a b : Nat,s = .int .i64 a ∧ k = .int .i64 b ∧ b ≤ q ∧ Hid (a + (gs b).length = q + 1 + (gs q).length)) (fun _ k _ => (intOf k).toNat)
    case atStart => exact ⟨rfl,q + 1,q,by go_num,rfl,Nat.le_refl _,S0⟩
    case round =>
     obtain ⟨hwr,a,b,rfl,rfl,hbq,hab⟩:=hrel;have hwr':=hwr.symm;clear hwr;subst hwr';clear S0
     by_cases h127 : 127 < b
     ·have e1 : decide ((127 : Int) < (b : Int)) = true:=decide_eq_true (by omega)
      have e2 : decide (127 < b) = true:=decide_eq_true h127
      have e3 : (b : Int).tdiv 128 = ((b / 128 : Nat) : Int):=by rw [Int.tdiv_eq_ediv_of_nonneg (by omega)];omega
      have e4 : (b : Int) / 128 = ((b / 128 : Nat) : Int):=by omega
      have N1 : Hid (a + 1 + (gs (b / 128)).length = q + 1 + (gs q).length):=by have:=hab.out;have:=Qsc h127;show _ = _;omega
      have hb2 : b / 128 < b:=by omega
      have ha : a ≤ 20000:=by have:=hab.out;omega
      obtain ⟨d,hd⟩ : ∃ d,d = b / 128:=⟨_,rfl⟩;rw [← hd] at e3 e4 N1 hb2;clear hab hd;go_wp2
      go_roundw
      case rel => exact ⟨trivial,a + 1,d,by go_num,by go_num,by omega,N1⟩
      case measure => simp [intOf];omega
     ·have e1 : decide ((127 : Int) < (b : Int)) = false:=decide_eq_false (by omega)
      have e2 : decide (127 < b) = false:=decide_eq_false h127
      have ha : a ≤ 20000:=by have:=hab.out;omega
      have N1 : Hid (a = q + (gs q).length):=by have:=hab.out;have:=Qsd h127;show _ = _;omega
      clear hab h127;go_wp2
      have T0 : Hid (a = q + (gs q).length + SUMS (SAt m v l l.length) 0):=by have:=N1.out;show _ = _;unfold SUMS;rw [List.take_zero];simpa using this
      clear N1
      go_loopw [15,17] (fun s i wr => Hid (Only (fun _ => False) W6 wr) ∧ ∃ k c : Nat,k ≤ n ∧ i = .int .i64 k ∧ s = .int .i64 c ∧ Hid (c = q + (gs q).length + SUMS (SAt m v l l.length) k)) (fun _ i _ => n - (intOf i).toNat)
      case atStart => exact ⟨Only.refl _ _,0,a,Nat.zero_le _,rfl,rfl,T0⟩
      case round =>
       obtain ⟨oW,k,c,hk,rfl,rfl,hck⟩:=hrel;have y2':=Qa5 y2 oW.out;clear T0 y2
       by_cases hlt : k < n
       ·have dlt : decide ((k : Int) < (n : Int)) = true:=decide_eq_true (by omega)
        have dlt' : decide (k < n) = true:=decide_eq_true hlt
        have hkl : k < l.length:=by rw [← HL.out.2];exact hlt
        obtain ⟨bb,off,uu,ea,hc0,_,_⟩:=(HC.out.past (H6.out.2.2.2.same oW.out)).at k hkl;subst ea;obtain ⟨be,oe,cpe,ee,he0,he1⟩:=(H6.out.1.past oW.out).at k (by rw [HQ.out.2.2.1];exact hlt)
        obtain rfl : ae = some ⟨be,oe,none⟩:=by simp at ee;exact ee.1
        clear ee;rw [HEE.out,Qkj m l hkl] at he0 he1;obtain ⟨T,hT⟩ : ∃ T,T = strOfNums (l.getD k NCH).1:=⟨_,rfl⟩;simp only [← hT] at hc0 he0;obtain ⟨bk,hbk⟩ : ∃ b,b = SEb (TKY m (l.getD k NCH)) k (l.getD k NCH):=⟨_,rfl⟩;simp only [← hbk] at he1;have hzz:=hsz.out k hkl;rw [Qkj m l hkl] at hzz;simp only [← hbk] at hzz;have hb8:=QpK (k:=TKY m (l.getD k NCH)) (i:=(k : Int)) (c:=l.getD k NCH);rw [← hbk] at hb8;obtain ⟨y,hy⟩ : ∃ y : Nat,SZV bk = (y : Int):=⟨PSZ bk.toNat,by unfold SZV;rw [if_pos hb8]⟩;rw [hy] at hzz;obtain ⟨lo1,ow1⟩:=H6.out.2.1.2 k (vs.getD k NIL) (by rw [List.getD_eq_getElem?_getD,List.getElem?_eq_getElem (by rw [H6.out.2.1.1,Qb6];exact hkl)];rfl)
        obtain ⟨ga,rfl⟩ : ∃ g,aa = some ⟨g,0,none⟩:=by
         rcases H6.out.2.2.1.2 with ⟨e,h0⟩ | ⟨g,_,_,e,_⟩
         ·omega
         ·cases e;exact ⟨g,rfl⟩
        have hpc:=World.ownsRow.cellAt (oW.out.own H6.out.2.2.1 (fun _ _ f => f)) k (by omega);obtain ⟨zz,hzd⟩ : ∃ z,z = ((SAt m v l l.length).getD k []).length:=⟨_,rfl⟩;rw [← hzd] at hzz ow1;obtain ⟨a1,c1,e1⟩:=Qaj ow1
        have hvk : vs[k]? = some (.slice a1 zz c1):=by
         rw [← e1,List.getD_eq_getElem?_getD,List.getElem?_eq_getElem (by rw [H6.out.2.1.1,Qb6];exact hkl)];rfl
        rw [hvk] at hpc
        have hzn : zz = y + 16:=by rw [hzz];rfl
        have ds : ((zz : Int) != (y : Int) + 16) = false:=by rw [hzn];simp
        have ds2 : ((y : Int) + 16 != (y : Int) + 16) = false:=by simp
        have SZ : Hid (∀ W,Calls Tryz.prog 15 #[.int .i64 bk] W fun e w' => e = .returned (.int .i64 (y : Int)) ∧ w' = W):=fun W => by rw [← hy];exact (QjT bk W).mono (fun _ _ h => ⟨h.1,h.2.symm⟩)
        have N2 : Hid (c + zz = q + (gs q).length + SUMS (SAt m v l l.length) (k + 1)):=by
         have:=hck.out
         show _ = _
         rw [QmJ (by rw [Qb6];exact hkl),← hzd];omega
        have hcb : c + zz ≤ 1000000000:=by
         have h1:=N2.out;have h2:=Qsb (m:=m) (v:=v) (l:=l) l.length (k + 1);have h3 : (k + 1) * 4194320 ≤ 12 * 4194320:=Nat.mul_le_mul_right _ (by omega);omega
        have hyb : y ≤ 1000000000:=by omega
        have i0 : (0 : Int) ≤ (k : Int):=by omega
        have i1 : (k : Int) < (n : Int):=by omega
        clear hkl hT hbk hzz hb8 hy ow1 e1 hvk hzd hzn hck;go_wp2;go_quiet ((go_at_call 15;exact Calls.quiet_of_same (SZ.out _)));have N3:=Qaa (oW.out.drewN nq);clear oW;go_wp2
        go_roundw
        case rel => exact ⟨N3,k + 1,c + zz,by omega,by go_num,by go_num,N2⟩
        case measure => simp [intOf];omega
       ·obtain rfl : k = n:=by omega
        have dlt : decide ((k : Int) < (k : Int)) = false:=decide_eq_false (by omega);obtain ⟨e1,e2,_,_,e5,e6⟩:=HQ.out;have hs : SUMS (SAt m v l l.length) k = SUMS (SAt m v l l.length) l.length:=congrArg (SUMS (SAt m v l l.length)) HL.out.2
        have hcL : c = (ARt m (0,[]) v l).length:=by rw [e1,e2,← e5,← hs];exact hck.out
        have d4 : (((ARt m (0,[]) v l).length : Int) == (c : Int)) = true:=by rw [hcL];simp
        have F:=Qaa (H6.out.2.2.2.same oW.out);clear e1 e2 e5 e6 hcL hck hs;go_wp2;go_ret;exact ⟨rfl,F.out⟩
   ·have hne : (ARe m (0,[]) v l != 0) = true:=by simpa using hE
    rw [show ((0 : Nat) : Int) = 0 from rfl] at BD1;clear hE;generalize ARe m (0,[]) v l = c at *;go_wp2_with fail;refine FW1.out.mono ?_;rintro e w2 ⟨rfl,rfl⟩;clear FW1;go_wp2_with fail;refine BD1.out.mono ?_;rintro e w3 ⟨u,ru,rfl,bu⟩;obtain ⟨ar,cr,rfl⟩:=bu.r.len;have F:=Qaa ((O1.out.same bu.o).alloc (.cells #[.int .u64 (ARr m (0,[]) v l).1,.slice ar (ARr m (0,[]) v l).2.length cr] 25));clear bu BD1 O1;go_wp2;go_ret;exact ⟨rfl,F.out⟩
  ·have d1 : ((M : Int) != 32) = true:=by rw [bne_iff_ne];omega
   clear BD HC HI h12 h32;go_wp2_with fail;refine FW1.out.mono ?_;rintro e w2 ⟨rfl,rfl⟩;clear FW1;go_wp2;go_ret;exact ⟨rfl,O1.out⟩
theorem QmK (vm vl : Value) (m : List Int) (v : Int) (l : List CHK) (w : World) (bm : Bs .u8 w vm m) (m8 : U8 m) (hv : 0 ≤ v ∧ v ≤ 18446744073709551615) (h : Chs w vl l ∧ CL l) (hT : Tab w) :
  Calls Tryz.prog 5 #[vm,.int .u64 v,vl] w fun e w' => e = .returned (.bool true) ∧ Below w.heap.size w w':=by
 obtain ⟨n,rfl⟩:=Int.eq_ofNat_of_zero_le hv.1;exact Qnv (QjW vm vl m n l w bm m8 (by omega) h.1 h.2 hT)
end Go.Proofs.YtnhapmboienipaaGreatDoor
