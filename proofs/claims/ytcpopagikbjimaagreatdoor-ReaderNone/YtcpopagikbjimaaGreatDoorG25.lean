import Derived.Test.YtcpopagikbjimaaGreatDoorG24
import Derived.Test.YtcpopagikbjimaaGreatDoorG21
namespace Go.Proofs.YtcpopagikbjimaaGreatDoor
set_option maxHeartbeats 4000000
set_option maxRecDepth 100000
open Go.RowKit
theorem Qf0 (k : Int) (w : World) : Calls Tryz.prog 21 #[.int .i64 k] w fun e w' => e = .returned (.int .i64 (SZV k)) ∧ w = w':=by
 by_cases h0 : k < 0
 ·have HS : Hid (SZV k = 0):=if_neg (by omega)
  have d0 : decide (k < 0) = true:=decide_eq_true h0;clear h0;go_enter Tryz.func21,Tryz.ntmps21;go_wp2;go_ret;rw [HS.out];exact ⟨rfl,rfl⟩
 by_cases h8 : 8 < k
 ·have HS : Hid (SZV k = 0):=if_neg (by omega)
  have d0 : decide (k < 0) = false:=decide_eq_false h0;have d8 : decide (8 < k) = true:=decide_eq_true h8;clear h0 h8;go_enter Tryz.func21,Tryz.ntmps21;go_wp2;go_ret;rw [HS.out];exact ⟨rfl,rfl⟩
 have HS : Hid (SZV k = (PSZ k.toNat : Int)):=if_pos (by omega);obtain ⟨k,rfl⟩:=Int.eq_ofNat_of_zero_le (Int.not_lt.1 h0);have d0 : decide ((k : Int) < 0) = false:=decide_eq_false h0;have d8 : decide (8 < (k : Int)) = false:=decide_eq_false h8
 have hk : k ≤ 8:=by omega
 clear h0 h8;go_enter Tryz.func21,Tryz.ntmps21;go_wp2
 go_loop [3,4] (fun z i => ∃ t q : Nat,t ≤ k ∧ i = .int .i64 t ∧ z = .int .i64 q ∧ Hid (q = PSZ t)) (fun _ i => k - (intOf i).toNat)
 case atStart => exact ⟨0,64,Nat.zero_le _,rfl,rfl,rfl⟩
 case round =>
  obtain ⟨t,q,ht,rfl,rfl,HQ⟩:=hrel;have hc:=Qd8 (t:=t) (by omega);rw [← HQ.out] at hc
  by_cases hlt : t < k
  ·have hq : q ≤ 4194304:=by omega
   have dk : decide ((t : Int) < (k : Int)) = true:=decide_eq_true (by omega);clear hc;go_wp2
   go_round
   case rel => exact ⟨t + 1,q * 4,by omega,by go_num,by go_num,by show _ = _;rw [HQ.out,Qft]⟩
   case measure => simp [intOf];omega
  ·have htk : t = k:=by omega
   subst htk;clear hc;go_wp2;go_ret;rw [HS.out,HQ.out];exact ⟨rfl,rfl⟩
abbrev Y4 : Array Value:=#[.int .u64 0,.slice none 0 0,.slice none 0 0,.slice none 0 0]
theorem Qhi {n : Int} {b sg : List Int} {k : Nat} {c : Int} (h : Qae n b = (sg,k,c)) : (sg.length : Int) ≤ max n 0:=by
 unfold Qae at h
 split at h
 ·simp only [Prod.mk.injEq] at h;rw [← h.1];simp;omega
 ·split at h
  ·simp only [Prod.mk.injEq] at h;rw [← h.1];simp;omega
  ·split at h
   ·simp only [Prod.mk.injEq] at h;rw [← h.1];simp;omega
   ·split at h
    ·simp only [Prod.mk.injEq] at h;rw [← h.1];simp;omega
    ·simp only [Prod.mk.injEq] at h;rw [← h.1,List.length_take];omega
theorem Bs.keepS {w w' : World} {v : Value} {xs : List Int} (h : Bs .u8 w v xs) {S : Nat → Prop} (o : Only S w w') (hs : xs ≠ [] → ∀ j,v.ownBlock = some j → ¬ S j) : Bs .u8 w' v xs:=by
 by_cases h0 : xs = []
 ·obtain ⟨a,c,rfl⟩:=h.len
  subst h0;exact ⟨a,c,rfl,Nat.zero_le _,fun z => absurd rfl z⟩
 ·exact h.keep o (hs h0)
def RSW (w2 W : World) (b : List Int) (vb rv lv : Value) (k : Nat) : Prop:=∃ rest xs,Bs .u8 W rv rest ∧ NoCap rv ∧ U8 rest ∧ (rest ≠ [] → b ≠ []) ∧ rv.ownBlock = vb.ownBlock ∧ W.ownsRow w2.heap.size 22 1 lv k xs ∧ Only (fun _ => False) w2 W
theorem Qeg (vb : Value) (b : List Int) (w : World) (hb : Bs .u8 w vb b) (nb : NoCap vb) (h8 : U8 b) :
  Calls Tryz.prog 11 #[vb] w fun e w' => ∃ ver a1 n1 c1 a2 n2 c2 a3 n3 c3 u l c,e = .returned (.tuple #[.agg #[.int .u64 ver,.slice a1 n1 c1,.slice a2 n2 c2,.slice a3 n3 c3],u,l,.int .i64 c]) ∧ Only (fun _ => False) w w':=by
 obtain ⟨i0,hi,hz0,hz1,hz2⟩:=info_parts Tryz.infoRows;obtain ⟨ao,cap,rfl⟩:=hb.len;obtain ⟨sg,q,c,hs⟩ : ∃ sg k c,Qae 268435456 b = (sg,k,c):=⟨_,_,_,rfl⟩;have hsg8:=Qcq h8 hs
 have hsl : sg.length ≤ 268435456:=by have:=Qhi hs;omega
 obtain ⟨W0,hW0⟩ : ∃ W0,W0 = (w.alloc (.cells Y4 44)).alloc (.cells Y4 44):=⟨_,rfl⟩
 have o0 : Only (fun _ => False) w W0:=by rw [hW0];exact ((Only.refl _ _).alloc _).alloc _
 have KR : Hid (W0.heap[w.heap.size]? = some (.cells Y4 44 (0,0))):=by show _ = _;rw [hW0];exact Qaf (heap_alloc_new _ _)
 have KN : Hid (W0.heap[w.heap.size + 1]? = some (.cells Y4 44 (0,0))):=by show _ = _;rw [hW0];exact Qak (by simp)
 -- a refusal: the zero manifest
 have BAD : Hid (∀ W,Only (fun _ => False) W0 W → (loadVar 44 ⟨w.heap.size,0,none⟩).run Tryz.prog ((((W.setCell ⟨w.heap.size,0,none⟩ (.int .u64 0)).setCell ⟨w.heap.size,1,none⟩ (.slice none 0 0)).setCell ⟨w.heap.size,2,none⟩ (.slice none 0 0)).setCell ⟨w.heap.size,3,none⟩ (.slice none 0 0)) = .ok (.agg #[.int .u64 0,.slice none 0 0,.slice none 0 0,.slice none 0 0]) ((((W.setCell ⟨w.heap.size,0,none⟩ (.int .u64 0)).setCell ⟨w.heap.size,1,none⟩ (.slice none 0 0)).setCell ⟨w.heap.size,2,none⟩ (.slice none 0 0)).setCell ⟨w.heap.size,3,none⟩ (.slice none 0 0)) ∧ Only (fun _ => False) w ((((W.setCell ⟨w.heap.size,0,none⟩ (.int .u64 0)).setCell ⟨w.heap.size,1,none⟩ (.slice none 0 0)).setCell ⟨w.heap.size,2,none⟩ (.slice none 0 0)).setCell ⟨w.heap.size,3,none⟩ (.slice none 0 0))):=fun W o => by
  have P:=put4 (o.heap KR.out (fun f => f)) (.int .u64 0) (.slice none 0 0) (.slice none 0 0) (.slice none 0 0);exact ⟨Qag P.1,(o0.same o).trans P.2 (fun i hi e => by omega)⟩
 have GOOD : Hid (∀ W ver a1 n1 c1 a2 n2 c2 a3 n3 c3,Only (fun _ => False) W0 W → (loadVar 44 ⟨w.heap.size,0,none⟩).run Tryz.prog ((((W.setCell ⟨w.heap.size,0,none⟩ (.int .u64 ver)).setCell ⟨w.heap.size,1,none⟩ (.slice a1 n1 c1)).setCell ⟨w.heap.size,2,none⟩ (.slice a2 n2 c2)).setCell ⟨w.heap.size,3,none⟩ (.slice a3 n3 c3)) = .ok (.agg #[.int .u64 ver,.slice a1 n1 c1,.slice a2 n2 c2,.slice a3 n3 c3]) ((((W.setCell ⟨w.heap.size,0,none⟩ (.int .u64 ver)).setCell ⟨w.heap.size,1,none⟩ (.slice a1 n1 c1)).setCell ⟨w.heap.size,2,none⟩ (.slice a2 n2 c2)).setCell ⟨w.heap.size,3,none⟩ (.slice a3 n3 c3)) ∧ Only (fun _ => False) w ((((W.setCell ⟨w.heap.size,0,none⟩ (.int .u64 ver)).setCell ⟨w.heap.size,1,none⟩ (.slice a1 n1 c1)).setCell ⟨w.heap.size,2,none⟩ (.slice a2 n2 c2)).setCell ⟨w.heap.size,3,none⟩ (.slice a3 n3 c3))):=fun W ver a1 n1 c1 a2 n2 c2 a3 n3 c3 o => by
  have P:=put4 (o.heap KR.out (fun f => f)) (.int .u64 ver) (.slice a1 n1 c1) (.slice a2 n2 c2) (.slice a3 n3 c3);exact ⟨Qag P.1,(o0.same o).trans P.2 (fun i hi e => by omega)⟩
 have CZ : Hid (∀ W,Only (fun _ => False) W0 W → ((W.cell? ⟨w.heap.size + 1,0,none⟩ = some (.int .u64 0) ∧ W.cell? ⟨w.heap.size + 1,1,none⟩ = some (.slice none 0 0) ∧ W.cell? ⟨w.heap.size + 1,2,none⟩ = some (.slice none 0 0) ∧ W.cell? ⟨w.heap.size + 1,3,none⟩ = some (.slice none 0 0)) ∧ (loadVar 44 ⟨w.heap.size + 1,0,none⟩).run Tryz.prog W = .ok (.agg #[.int .u64 0,.slice none 0 0,.slice none 0 0,.slice none 0 0]) W) ∧ ((W.cell? ⟨w.heap.size,0,none⟩ = some (.int .u64 0) ∧ W.cell? ⟨w.heap.size,1,none⟩ = some (.slice none 0 0) ∧ W.cell? ⟨w.heap.size,2,none⟩ = some (.slice none 0 0) ∧ W.cell? ⟨w.heap.size,3,none⟩ = some (.slice none 0 0)) ∧ (W.frozen? ⟨w.heap.size,0,none⟩ = false ∧ W.frozen? ⟨w.heap.size,1,none⟩ = false ∧ W.frozen? ⟨w.heap.size,2,none⟩ = false ∧ W.frozen? ⟨w.heap.size,3,none⟩ = false))):=fun W o =>
  ⟨⟨(Qaq (o.heap KN.out (fun f => f))).1,Qag (o.heap KN.out (fun f => f))⟩,Qaq (o.heap KR.out (fun f => f))⟩
 have A:=Qaa (Qei ao b.length cap b W0 (hb.past o0) nb h8 268435456 (.inr (by decide)) (by decide) hs);have HB0:=Qaa (fun (h : b ≠ []) => hb.blk_lt h);have HSG:=Qaa (And.intro hsg8 hsl);have HW:=Qaa (And.intro hW0 o0);obtain ⟨R,hR⟩ : ∃ R,R = w.heap.size:=⟨_,rfl⟩;rw [← hR] at BAD GOOD CZ;have HR:=Qaa hR;have HBQ : Hid (U8 (b.drop q) ∧ (b.drop q ≠ [] → b ≠ [])):=⟨fun y hy => h8 y (List.mem_of_mem_drop hy),fun h e => h (by rw [e];simp)⟩;obtain ⟨bq,hbq⟩ : ∃ bq,bq = b.drop q:=⟨_,rfl⟩;rw [← hbq] at A HBQ;obtain ⟨n,hn⟩ : ∃ n,n = b.length:=⟨_,rfl⟩;rw [← hn] at A HB0;rw [← hn];clear hb nb h8 hs hsg8 hsl hW0 o0 KR KN hbq hn hR;go_enter Tryz.func11,Tryz.ntmps11;go_wp2_with fail;rw [← HW.out.1,← HR.out];refine A.out.mono ?_;rintro e w1 ⟨v1,ar,mr,cr,rfl,b1,b2,nr,o1,ob⟩;obtain ⟨a1,c1,rfl⟩:=b1.len;obtain ⟨⟨⟨x0,x1,x2,x3⟩,xl⟩,⟨z0,z1,z2,z3⟩,f0,f1,f2,f3⟩:=CZ.out w1 o1;obtain ⟨N,hN⟩ : ∃ N,N = sg.length:=⟨_,rfl⟩
 by_cases hc : c = 0
 case neg =>
  have dc : (c != 0) = true:=by simpa using hc
  have F:=Qaa (BAD.out w1 o1);clear A b1 b2 nr o1 ob;go_wp2;exact bodyPost_ret (Qaz rfl _ _ rfl rfl rfl rfl F.out.1) rfl ⟨_,_,_,_,_,_,_,_,_,_,_,_,_,rfl,F.out.2⟩
 case pos =>
 have dc : (c != 0) = false:=by rw [hc];rfl
 by_cases h32 : sg.length < 32
 case pos =>
  have d1 : decide ((sg.length : Int) < 32) = true:=by rw [decide_eq_true_eq];omega
  have F:=Qaa (BAD.out w1 o1);rw [← hN] at d1 ⊢;clear A b1 b2 nr o1 ob h32 hN;go_wp2;exact bodyPost_ret (Qaz rfl _ _ rfl rfl rfl rfl F.out.1) rfl ⟨_,_,_,_,_,_,_,_,_,_,_,_,_,rfl,F.out.2⟩
 case neg =>
 have d1 : decide ((sg.length : Int) < 32) = false:=by rw [decide_eq_false_iff_not];omega
 have hroom:=b1.room
 have jw : IntKind.i64.wrap ((sg.length : Int) - 32) = ((sg.length - 32 : Nat) : Int):=by have:=HSG.out.2;rw [IntKind.wrap_i64];omega
 have q0 : (0 : Int) ≤ ((sg.length - 32 : Nat) : Int):=by omega
 have q1 : ((sg.length - 32 : Nat) : Int) ≤ (c1 : Int):=by omega
 have hne : sg ≠ []:=fun e => h32 (by rw [e];decide)
 obtain ⟨ys,hys⟩ : ∃ ys,ys = sg.take (sg.length - 32):=⟨_,rfl⟩
 have y8 : U8 ys:=by rw [hys];exact HSG.out.1.take _
 have DC:=Qaa (Qdz (.slice a1 (sg.length - 32) c1) ys w1 (by rw [hys];exact b1.head (by omega)) ((b1.nocap hne).cut _) y8 (by rw [hys,List.length_take];have:=HSG.out.2;omega));have MC:=Qaa (QiB ys y8);have Y8:=Qaa y8;rw [← hN] at d1 jw q0 q1 DC ⊢;have H1:=Qaa (And.intro b2 (And.intro nr (And.intro o1 ob)));clear A b1 b2 nr o1 ob h32 hN hroom hne hys y8;go_wp2_with fail;refine DC.out.mono ?_;rintro e w2 ⟨x,vp,ve,vr,rfl,mf,o2⟩;have hf:=mf.form;obtain ⟨ap,cp,ep⟩:=mf.prev.len;obtain ⟨ae,ce,ee⟩:=mf.es.len;obtain ⟨at',ct,et⟩:=mf.root.len;subst ep ee et hf;obtain ⟨m,hm⟩ : ∃ m,m = MDv ys:=⟨_,rfl⟩;obtain ⟨E2,hE2⟩ : ∃ E2,E2 = MDe ys:=⟨_,rfl⟩;rw [← hm] at mf;rw [← hm,← hE2]
 have MC2 : Hid (E2 = 0 → MGD m):=fun h => by
  rcases MC.out with ⟨_,z,_⟩ | ⟨_,c',hd,z⟩
  ·rw [hm];exact z
  ·exfalso
   have hz : c' = 0:=by rw [← z,← hE2];exact h
   subst hz;exact Qj8 Y8.out hd
 obtain ⟨W3,hW3⟩ : ∃ W,W = w2.alloc (.cells #[.int .u64 m.ver,.slice ap m.prev.length cp,.slice ae m.es.length ce,.slice at' m.root.length ct] 44):=⟨_,rfl⟩
 have o3 : Only (fun _ => False) w2 W3:=by rw [hW3];exact (Only.refl _ _).alloc _
 have gM : Hid (W3.heap[w2.heap.size]? = some (.cells #[.int .u64 m.ver,.slice ap m.prev.length cp,.slice ae m.es.length ce,.slice at' m.root.length ct] 44 (0,0))):=by show _ = _;rw [hW3];exact heap_alloc_new _ _
 have oA:=(H1.out.2.2.1.same o2).same o3;clear x0 x1 x2 x3 xl z0 z1 z2 z3 f0 f1 f2 f3;obtain ⟨⟨⟨x0,x1,x2,x3⟩,xl⟩,⟨z0,z1,z2,z3⟩,f0,f1,f2,f3⟩:=CZ.out W3 oA
 by_cases he : E2 = 0
 case neg =>
  have de : (E2 != 0) = true:=by simpa using he
  have F:=Qaa (BAD.out W3 oA);clear DC mf o2 o3 oA gM MC MC2 hm hE2;subst hW3;go_wp2;exact bodyPost_ret (Qaz rfl _ _ rfl rfl rfl rfl F.out.1) rfl ⟨_,_,_,_,_,_,_,_,_,_,_,_,_,rfl,F.out.2⟩
 case pos =>
 have de : (E2 != 0) = false:=by rw [he];rfl
 have G:=MC2.out he;have HG:=Qaa (And.intro G.2.2.2.1 (fun e he => (G.2.2.2.2 e he).2));have S0 : Hid (RSW W3 W3 b (.slice ao n cap) (.slice ar mr cr) (.slice none 0 0) 0):=⟨bq,[],(H1.out.1.past o2).past o3,H1.out.2.1,HBQ.out.1,HBQ.out.2,H1.out.2.2.2,World.ownsRow_nil _ _ _ _,Only.refl _ _⟩;have HE:=Qaa (mf.es.past o3);have OA:=Qaa oA;obtain ⟨t,ht⟩ : ∃ t,t = m.es.length:=⟨_,rfl⟩;have HT:=Qaa ht;obtain ⟨M,hM⟩ : ∃ M,M = w2.heap.size:=⟨_,rfl⟩;have hld:=Qag gM.out;obtain ⟨⟨y0,y1,y2,y3⟩,_⟩:=Qaq gM.out;rw [← ht] at HE gM hld y2 ⊢;rw [← hM] at gM hld y0 y1 y2 y3;rw [← ht] at hW3;clear DC mf o2 o3 oA MC MC2 hE2 G H1 HBQ ht hm;go_wp2;rw [← hM,← hW3]
 have ht20 : t ≤ 1048576:=by have:=HG.out.1;have:=HT.out;omega
 have FB:=Qaa hM;clear x0 x1 x2 x3 xl z0 z1 z2 z3 f0 f1 f2 f3 y0 y1 y2 y3 hld hW3 hM
 go_loopw [8,11,12] (fun rv lv i wr => ∃ k : Nat,k ≤ t ∧ i = .int .i64 k ∧ Hid (RSW W3 wr b (.slice ao n cap) rv lv k)) (fun _ _ i _ => t - (intOf i).toNat)
 case atStart => exact ⟨0,Nat.zero_le _,rfl,S0.out⟩
 case round =>
  obtain ⟨k,hk,rfl,hS⟩:=hrel;clear S0;obtain ⟨rest,xs,br,nr,r8,hre,hob,own,on⟩:=hS.out;clear hS;obtain ⟨ar,cr,rfl⟩:=br.len;obtain ⟨al,cl,rfl⟩:=Qad own;have oW:=OA.out.same on;obtain ⟨⟨⟨x0,x1,x2,x3⟩,xl⟩,⟨z0,z1,z2,z3⟩,f0,f1,f2,f3⟩:=CZ.out wr oW;have gMr:=on.heap gM.out (fun f => f);have hld:=Qag gMr;obtain ⟨⟨y0,y1,y2,y3⟩,_⟩:=Qaq gMr;obtain ⟨rn,hrn⟩ : ∃ rn,rn = rest.length:=⟨_,rfl⟩
  by_cases hlt : k < t
  case neg =>
   obtain rfl : k = t:=by omega
   have dlt : decide ((k : Int) < (k : Int)) = false:=decide_eq_false (by omega);have BF:=Qaa (BAD.out wr oW);have GF:=Qaa (GOOD.out wr m.ver ap m.prev.length cp ae k ce at' m.root.length ct oW)
   by_cases h0 : rest.length = 0
   ·have d0 : decide ((0 : Int) < (rest.length : Int)) = false:=by rw [decide_eq_false_iff_not];omega
    have d0' : decide (0 < rest.length) = false:=by rw [decide_eq_false_iff_not];omega
    rw [← hrn] at d0 d0' ⊢;clear br own on oW h0 hrn gMr hre r8 nr hob;go_wp2;exact bodyPost_ret (Qaz rfl _ _ rfl rfl rfl rfl GF.out.1) rfl ⟨_,_,_,_,_,_,_,_,_,_,_,_,_,rfl,GF.out.2⟩
   ·have d0 : decide ((0 : Int) < (rest.length : Int)) = true:=by rw [decide_eq_true_eq];omega
    have d0' : decide (0 < rest.length) = true:=by rw [decide_eq_true_eq];omega
    rw [← hrn] at d0 d0' ⊢;clear br own on oW h0 hrn gMr hre r8 nr hob;go_wp2;exact bodyPost_ret (Qaz rfl _ _ rfl rfl rfl rfl BF.out.1) rfl ⟨_,_,_,_,_,_,_,_,_,_,_,_,_,rfl,BF.out.2⟩
  case pos =>
  have dlt : decide ((k : Int) < (t : Int)) = true:=decide_eq_true (by omega)
  have i0' : (0 : Int) ≤ (k : Int):=by omega
  have i1' : (k : Int) < (t : Int):=by omega
  have hke : k < m.es.length:=by rw [← HT.out];exact hlt
  obtain ⟨b4,off,cap',ee,hc0,hc1⟩:=(HE.out.past on).at k hke
  obtain rfl : ae = some ⟨b4,off,none⟩:=by simp at ee;exact ee.1
  clear ee hc0;have hbk:=HG.out.2 _ (Qat (d:=([],0)) hke);obtain ⟨e0,he0⟩ : ∃ e0,e0 = (m.es.getD k ([],0)).2:=⟨_,rfl⟩;rw [← he0] at hbk hc1
  obtain ⟨z,hz,hz4⟩ : ∃ z : Nat,SZV e0 = (z : Int) ∧ z ≤ 4194304:=by
   refine ⟨PSZ e0.toNat,?_,?_⟩
   ·unfold SZV;rw [if_pos hbk]
   ·unfold PSZ
    have : e0.toNat ≤ 8:=by omega
    have h4 : 4 ^ e0.toNat ≤ 4 ^ 8:=Nat.pow_le_pow_right (by decide) this
    have : (4 : Nat) ^ 8 = 65536:=by decide
    omega
  have SZ:=Qaa (Qf0 e0 wr);rw [hz] at SZ
  have jz : IntKind.i64.wrap ((z : Int) + 16) = ((z + 16 : Nat) : Int):=by rw [IntKind.wrap_i64];omega
  obtain ⟨l,q,c,hs⟩ : ∃ l q c,Qai ((z + 16 : Nat) : Int) rest = (l,q,c):=⟨_,_,_,rfl⟩;have BY:=Qaa (Qb0 ar rest.length cr rest wr br nr ((z + 16 : Nat) : Int) (.inr (by omega)) hs);have R2 : Hid (U8 (rest.drop q) ∧ (rest.drop q ≠ [] → b ≠ [])):=⟨fun y hy => r8 y (List.mem_of_mem_drop hy),fun h => hre (fun e => h (by rw [e];simp))⟩;have OW:=Qaa (And.intro own (And.intro on (And.intro oW hob)));rw [← hrn] at BY ⊢;rw [← hrn] at OW;clear br nr r8 hre hob own on oW gMr hke hbk he0 hz hz4 hs hrn;go_wp2_with fail;refine SZ.out.mono ?_;rintro e w4 ⟨rfl,rfl⟩;clear SZ;go_wp2_with fail;refine BY.out.mono ?_;rintro e w5 ⟨v5,a5,m5,c5,rfl,b5,b6,n5,o5,ob5,-⟩;obtain ⟨av,cv,rfl⟩:=b5.len;have oW5:=OW.out.2.2.1.same o5;clear x0 x1 x2 x3 xl z0 z1 z2 z3 f0 f1 f2 f3 y0 y1 y2 y3 hld hc1;obtain ⟨⟨⟨x0,x1,x2,x3⟩,xl⟩,⟨z0,z1,z2,z3⟩,f0,f1,f2,f3⟩:=CZ.out w5 oW5
  by_cases hc : c = 0
  case neg =>
   have dc : (c != 0) = true:=by simpa using hc
   have F:=Qaa (BAD.out w5 oW5);clear b5 b6 n5 o5 ob5 oW5 OW BY R2;go_wp2;exact bodyPost_ret (Qaz rfl _ _ rfl rfl rfl rfl F.out.1) rfl ⟨_,_,_,_,_,_,_,_,_,_,_,_,_,rfl,F.out.2⟩
  case pos =>
  have dc : (c != 0) = false:=by rw [hc];rfl
  obtain ⟨ln,hln⟩ : ∃ ln,ln = l.length:=⟨_,rfl⟩;obtain ⟨W6,hW6⟩ : ∃ W,W = w5.alloc (.cells #[.slice av ln cv] 22):=⟨_,rfl⟩
  have o6 : Only (fun _ => False) w5 W6:=by rw [hW6];exact (Only.refl _ _).alloc _
  have hV : VS W6 (.slice (some ⟨w5.heap.size,0,none⟩) 1 1) [.slice av ln cv]:=VS.of_own (lo:=w5.heap.size) (n:=1) (e:=22) (by rw [hW6];exact Qgi w5 22 [.slice av ln cv] (Nat.le_refl _) (show 1 ≤ maxLen by unfold maxLen;decide)) (fun y hy => by simp at hy;subst hy;rfl);have HV:=Qaa (And.intro hV hW6);have on6:=(OW.out.2.1.same o5).same o6;have K:=Qaa (And.intro ((o5.same o6).own OW.out.1 (fun _ _ f => f)) (And.intro (b6.past o6) (And.intro n5 (And.intro on6 (ob5.trans OW.out.2.2.2)))));have bs : Hid (W3.heap.size ≤ W6.heap.size):=on6.size
  have hkm : k + 1 ≤ maxLen:=by have:=HG.out.1;have:=HT.out;unfold maxLen;omega
  have hk24 : (k + 1) * 24 ≤ 140737488355328:=by have:=HG.out.1;have:=HT.out;omega
  rw [← hln];clear x0 x1 x2 x3 xl z0 z1 z2 z3 f0 f1 f2 f3 b5 b6 n5 o5 ob5 oW5 OW BY hV hW6 o6 on6 hln;go_wp2_with (at_builtin;rw [← HV.out.2];refine Qbp _ rfl _ _ 45 rfl W3.heap.size 22 i0 (.slice none 0 0) 24 Tryz.underlying45 hi hz0 hz1 hz2 rfl _ k xs rfl K.out.1 _ [.slice av ln cv] rfl HV.out.1 hkm hk24 bs.out ?_);intro v' w7 own7 g7
  have F : Hid (RSW W3 w7 b (.slice ao n cap) (.slice a5 m5 c5) v' (k + 1)):=by
   obtain ⟨ow,bq6,n6,o6,ob6⟩:=K.out;have hg:=(Only.refl (fun q => (Value.slice al k cl).ownBlock = some q) W6).grown g7 (fun _ _ e => e);refine ⟨_,_,bq6.keepS hg (fun hne j hj e => ?_),n6,R2.out.1,R2.out.2,ob6,own7,o6.grown g7 (fun j hj e => ?_)⟩
   ·rw [ob6] at hj
    have:=HB0.out (R2.out.2 hne) j hj;have:=(ow.lt j e).1;have:=OA.out.size;have:=HW.out.2.size;omega
   ·have:=(ow.lt j e).1
    omega
  obtain ⟨a7,c7,rfl⟩:=Qad own7;clear own7 g7 K HV bs hkm hk24 R2;go_wp2
  go_roundw
  case rel => exact ⟨k + 1,by omega,by go_num,F⟩
  case measure => simp [intOf];omega
end Go.Proofs.YtcpopagikbjimaaGreatDoor
