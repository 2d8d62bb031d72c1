import Derived.Test.YtcpopagikbjimaaGreatDoorG1
import Derived.Lib.AppendZerosOnto
import Derived.WalkSpells
namespace Go.Proofs.YtcpopagikbjimaaGreatDoor
set_option maxHeartbeats 1600000
set_option maxRecDepth 100000
open Go.RowKit
theorem Qjb (n : Nat) (w : World) (h0 : 0 < n) (h1 : n ≤ 140737488355328) :
  Calls Tryz.prog 165 #[.slice none 0 0,.int .i64 n] w fun e w' => ∃ G,e = .returned (.slice (some ⟨w.heap.size,0,none⟩) 0 G) ∧ w'.ownsRow w.heap.size 5 1 (.slice (some ⟨w.heap.size,0,none⟩) 0 G) 0 [] ∧ Only (fun _ => False) w w':=by
 obtain ⟨i0,hi,hz0,hz1,hz2⟩:=info_parts Tryz.infoU8
 have hrz : ∀ ty,(Builtin.append_ #[22,3] ty #[.slice none 0 0,.int .i64 (n : Int)]).run Tryz.prog w =
   .ok (.slice (some ⟨w.heap.size,0,none⟩) n (grownCap w n 0 5)) (w.drew.alloc (.cells (Builtin.zeroCells (Value.int .u8 0).cells n ++ Builtin.zeroCells (Value.int .u8 0).cells (grownCap w n 0 5 - n)) 5)):=fun ty =>
  Lib.run_append_nil_zeros w 22 3 ty 5 i0 (.int .u8 0) .i64 .i64 Tryz.underlying22 Tryz.underlying3 hi hz0 n h0 (by omega) (by omega) (by rw [hz2];omega)
 have hGn : n ≤ grownCap w n 0 5:=grownCap_ge w _ _ _;have hGm : grownCap w n 0 5 ≤ maxLen:=grownCap_le_maxLen w n 0 5 (by unfold maxLen;omega);obtain ⟨G,hG⟩ : ∃ G,G = grownCap w n 0 5:=⟨_,rfl⟩;rw [← hG] at hrz hGn hGm
 have hG63 : G ≤ 9223372036854775807:=by unfold maxLen at hGm;omega
 have HM:=Qaa hGm
 have d0 : decide ((n : Int) < 0) = false:=by simp
 have d1 : decide (0 < (n : Int)) = true:=by simp;omega
 obtain ⟨cs,hcs⟩ : ∃ cs,cs = Builtin.zeroCells (Value.int .u8 0).cells n ++ Builtin.zeroCells (Value.int .u8 0).cells (G - n):=⟨_,rfl⟩
 have hsz : Hid (cs.size = G * 1):=by
  have hs : ∀ q,(Builtin.zeroCells (Value.int .u8 0).cells q).size = q:=fun q => by simp [Builtin.zeroCells,Value.cells]
  simp only [Hid];rw [hcs,Array.size_append,hs,hs];omega
 rw [← hcs] at hrz;clear hG hGm hcs;go_enter Tryz.func165,Tryz.ntmps165;go_wp2_with (at_builtin;refine Lib.wpList_append_run _ rfl _ _ _ _ rfl _ _ rfl rfl _ _ (hrz _) ?_);go_ret;exact ⟨G,rfl,World.ownsRow_made (w:=w.drew) (base:=w.heap.size) (e:=5) (size:=1) cs G (Nat.le_refl _) HM.out hsz.out,(Only.refl _ _).drew.alloc _⟩
theorem Qce (B : Nat) (va vb : Value) (xs ys : List Int) (w : World) (c0 : w.cell? ⟨B,0,none⟩ = some va) (c1 : w.cell? ⟨B,1,none⟩ = some vb)
  (ha : Bs .u8 w va xs) (hb : Bs .u8 w vb ys) (na : NoCap va) (nb : NoCap vb) (hp : 0 < xs.length + ys.length) (hl : xs.length + ys.length ≤ 140737488355328) :
  Calls Tryz.prog 117 #[.slice (some ⟨B,0,none⟩) 2 2] w fun e w' => ∃ v',e = .returned v' ∧ w'.ownsRow w.heap.size 5 1 v' (xs ++ ys).length ((xs ++ ys).map (Value.int .u8)) ∧ Only (fun _ => False) w w':=by
 obtain ⟨i0,hi,hz0,hz1,hz2⟩:=info_parts Tryz.infoU8;have HA:=Qaa ha;have HB:=Qaa hb;have NA:=Qaa na;have NB:=Qaa nb;obtain ⟨aa,ca,rfl⟩:=ha.len;obtain ⟨ab,cb,rfl⟩:=hb.len;obtain ⟨n,hn⟩ : ∃ n,n = xs.length:=⟨_,rfl⟩;obtain ⟨m,hm⟩ : ∃ m,m = ys.length:=⟨_,rfl⟩;rw [← hn] at c0 hp hl HA NA;rw [← hm] at c1 hp hl HB NB;have HN:=Qaa hn;have HM:=Qaa hm;have hBw : B < w.heap.size:=World.block_lt_of_cell? w _ c0;clear ha hb na nb hn hm;go_enter Tryz.func117,Tryz.ntmps117;go_wp2
 go_loop [3,11] (fun s i => (i = .int .i64 0 ∧ s = .int .i64 0) ∨ (i = .int .i64 1 ∧ s = .int .i64 n) ∨ (i = .int .i64 2 ∧ s = .int .i64 ((n : Int) + m))) (fun _ i => 2 - (intOf i).toNat)
 case atStart => exact .inl ⟨rfl,rfl⟩
 case round =>
  rcases hrel with ⟨rfl,rfl⟩ | ⟨rfl,rfl⟩ | ⟨rfl,rfl⟩
  ·have d0 : decide ((n : Int) < 0) = false:=by simp
   go_wp2
   go_round
   case rel => exact .inr (.inl ⟨rfl,rfl⟩)
   case measure => simp [intOf]
  ·have d0 : decide ((n : Int) + m < 0) = false:=by simp;omega
   go_wp2
   go_round
   case rel => exact .inr (.inr ⟨rfl,rfl⟩)
   case measure => simp [intOf]
  ·have GN:=Qaa (Qjb (n + m) w (by omega) (by omega))
   go_wp2_with fail;rw [show ((n : Int) + (m : Int)) = ((n + m : Nat) : Int) by omega];refine GN.out.mono ?_;rintro e w2 ⟨G,rfl,hown,hon⟩;have hbel : Below w.heap.size w w2:=hon.low (Nat.le_refl _);go_wp2
   go_loopw [6,27] (fun o i wr => Below w.heap.size w wr ∧ ((i = .int .i64 0 ∧ wr.ownsRow w.heap.size 5 1 o 0 []) ∨ (i = .int .i64 1 ∧ wr.ownsRow w.heap.size 5 1 o n (xs.map (Value.int .u8))) ∨ (i = .int .i64 2 ∧ wr.ownsRow w.heap.size 5 1 o (n + m) ((xs ++ ys).map (Value.int .u8))))) (fun _ i _ => 2 - (intOf i).toNat)
   case atStart => exact ⟨hbel,.inl ⟨rfl,hown⟩⟩
   case round =>
    obtain ⟨hbw,hr⟩:=hrel;clear hbel hown hon GN;have d0:=(hbw.cell (p:=⟨B,0,none⟩) hBw).trans c0;have d1:=(hbw.cell (p:=⟨B,1,none⟩) hBw).trans c1;have hsz:=hbw.size
    rcases hr with ⟨rfl,hown⟩ | ⟨rfl,hown⟩ | ⟨rfl,hown⟩
    ·have HBA:=Qaa (HA.out.later hbw)
     go_wp2_with (at_builtin;refine Qac _ rfl _ _ _ rfl w.heap.size 5 i0 (.int .u8 0) 1 Tryz.underlying22 hi hz0 hz1 hz2 rfl _ 0 [] rfl hown .u8 _ xs rfl HBA.out NA.out ?c3 ?c4 hsz ?_)
     case c3 => rw [← HN.out];unfold maxLen;omega
     case c4 => rw [← HN.out];omega
     intro v' w3 hown1 hgrow _ _;rw [← HN.out] at hown1;have hb3 : Below w.heap.size w w3:=hbw.grown hgrow hsz (fun q hq => (hown.lt q hq).1);clear hown hgrow;go_wp2
     go_roundw
     case rel => exact ⟨hb3,.inr (.inl ⟨rfl,by simpa using hown1⟩)⟩
     case measure => simp [intOf]
    ·have HBB:=Qaa (HB.out.later hbw)
     go_wp2_with (at_builtin;refine Qac _ rfl _ _ _ rfl w.heap.size 5 i0 (.int .u8 0) 1 Tryz.underlying22 hi hz0 hz1 hz2 rfl _ n (xs.map (Value.int .u8)) rfl hown .u8 _ ys rfl HBB.out NB.out ?c3 ?c4 hsz ?_)
     case c3 => rw [← HM.out];unfold maxLen;omega
     case c4 => rw [← HM.out];omega
     intro v' w3 hown1 hgrow _ _;rw [← HM.out,← List.map_append] at hown1;have hb3 : Below w.heap.size w w3:=hbw.grown hgrow hsz (fun q hq => (hown.lt q hq).1);clear hown hgrow;go_wp2
     go_roundw
     case rel => exact ⟨hb3,.inr (.inr ⟨rfl,hown1⟩)⟩
     case measure => simp [intOf]
    ·go_wp2
     go_ret;refine ⟨_,rfl,?_,QaW hbw⟩;rw [List.length_append,← HN.out,← HM.out];exact hown
theorem Qev (va vb : Value) (xs ys : List Int) (w : World)
  (ha : Bs .u8 w va xs) (hb : Bs .u8 w vb ys) (na : NoCap va) (nb : NoCap vb) (hp : 0 < xs.length + ys.length) (hl : xs.length + ys.length ≤ 140737488355328) :
  Calls Tryz.prog 203 #[va,vb] w fun e w' => ∃ v',e = .returned v' ∧ w'.ownsRow w.heap.size 5 1 v' (xs ++ ys).length ((xs ++ ys).map (Value.int .u8)) ∧ Only (fun _ => False) w w':=by
 have hbl : Below w.heap.size w (w.alloc (.cells #[va,vb] 22)):=(Below.refl _ _).alloc (Nat.le_refl _) _;have CC:=Qaa (Qce w.heap.size va vb xs ys (w.alloc (.cells #[va,vb] 22)) (by go_cell) (by go_cell) (ha.later hbl) (hb.later hbl) na nb hp hl);obtain ⟨aa,ca,rfl⟩:=ha.len;obtain ⟨ab,cb,rfl⟩:=hb.len;clear ha hb;go_enter Tryz.func203,Tryz.ntmps203;go_wp2_with fail;refine CC.out.mono ?_;rintro e w2 ⟨v',rfl,hown,hon⟩
 have F : Hid (w2.ownsRow w.heap.size 5 1 v' (xs ++ ys).length ((xs ++ ys).map (Value.int .u8)) ∧ Only (fun _ => False) w w2):=by
  refine ⟨?_,((Only.refl _ _).alloc _).trans hon (fun _ _ f => f)⟩;refine ⟨hown.1,?_⟩
  rcases hown.2 with h | ⟨g,cap,cur,e,h,r⟩
  ·exact .inl h
  ·exact .inr ⟨g,cap,cur,e,by simp at h;omega,r⟩
 clear hown hon;go_wp2;go_ret;exact ⟨_,rfl,F.out⟩
theorem Qge (va : Value) (xs : List Int) (v : Int) (w : World) (ha : Bs .u8 w va xs) (na : NoCap va) (hl : xs.length ≤ 1000000000) (h0 : 0 ≤ v) (h1 : v ≤ 18446744073709551615) :
  Calls Tryz.prog 166 #[va,.int .u64 v] w fun e w' => ∃ v',e = .returned v' ∧ w'.ownsRow w.heap.size 5 1 v' (xs ++ gs v.toNat).length ((xs ++ gs v.toNat).map (Value.int .u8)) ∧ Only (fun _ => False) w w':=by
 have H10:=Qaa (Qa5 (v:=v.toNat) (by omega));have HP:=Qaa (QfG v.toNat);have HA:=Qaa ha;obtain ⟨aa,ca,rfl⟩:=ha.len;clear ha;go_enter Tryz.func166,Tryz.ntmps166;go_wp2_with fail;refine (Qgd v _ h0 h1).mono ?_;rintro e w1 ⟨v1,rfl,hown1,hon1⟩;have AP:=Qaa (Qev _ v1 xs (gs v.toNat) w1 (HA.out.later (hon1.low (Nat.le_refl _))) (Bs.of_own hown1) na (NoCap.of_own hown1) (by have:=HP.out;omega) (by have:=H10.out;omega));have ON1:=Qaa hon1;clear hown1 hon1;go_wp2_with fail;refine AP.out.mono ?_;rintro e w2 ⟨v',rfl,hown,hon⟩
 have F : Hid (w2.ownsRow w.heap.size 5 1 v' (xs ++ gs v.toNat).length ((xs ++ gs v.toNat).map (Value.int .u8)) ∧ Only (fun _ => False) w w2):=by
  refine ⟨?_,ON1.out.trans hon (fun _ _ f => f)⟩;refine ⟨hown.1,?_⟩
  rcases hown.2 with h | ⟨g,cap,cur,e,h,r⟩
  ·exact .inl h
  ·exact .inr ⟨g,cap,cur,e,by have:=ON1.out.size;omega,r⟩
 clear hown hon;go_wp2;go_ret;exact ⟨_,rfl,F.out⟩
theorem rd_at (xs : List Int) (k : Nat) (acc : Int) (h : k < xs.length) : rd k acc (xs.drop k) = if k = 9 ∧ 1 < xs.getD k 0 then (0,0,3) else if 128 ≤ xs.getD k 0 then rd (k + 1) (acc + xs.getD k 0 % 128 * 128 ^ k) (xs.drop (k + 1)) else if xs.getD k 0 = 0 ∧ 0 < k then (0,0,3) else (acc + xs.getD k 0 * 128 ^ k,(k : Int) + 1,0):=by
 rw [List.drop_eq_getElem_cons h,Qcd,List.getD_eq_getElem?_getD,List.getElem?_eq_getElem h]
 rfl
theorem QhM (k acc : Nat) (c : Int) (hk : k ≤ 9) (hacc : acc < 128 ^ k) (c0 : 0 ≤ c) (c1 : c ≤ 255) (h9 : k = 9 → c ≤ 1) :
  bits .or .u64 (acc : Int) (IntKind.u64.wrap (IntKind.u64.wrap (bits .and .u8 c 127) * 2 ^ (7 * k))) = ((acc + (c % 128).toNat * 128 ^ k : Nat) : Int) ∧ acc + (c % 128).toNat * 128 ^ k < 128 ^ (k + 1):=by
 obtain ⟨m,rfl⟩:=Int.eq_ofNat_of_zero_le c0
 have e : ((m : Int) % 128).toNat = m % 128:=by omega
 rw [e,show (127 : Int) = ((127 : Nat) : Int) from rfl,u8_and_nat _ _ (by omega) (by omega),nat_mask7]
 have w1 : IntKind.u64.wrap ((m % 128 : Nat) : Int) = ((m % 128 : Nat) : Int):=by rw [IntKind.wrap_u64];omega
 have p1 : (2 : Nat) ^ (7 * k) = 128 ^ k:=by rw [Nat.pow_mul]
 have w2 : ((m % 128 : Nat) : Int) * 2 ^ (7 * k) = ((m % 128 * 128 ^ k : Nat) : Int):=by
  rw [← p1];simp
 have hlt : m % 128 * 128 ^ k < 18446744073709551616:=by
  rcases Nat.lt_or_ge k 9 with h | h
  ·have h1 : m % 128 * 128 ^ k ≤ 127 * 128 ^ k:=Nat.mul_le_mul_right _ (by omega)
   have h2 : 128 ^ k ≤ 128 ^ 8:=Nat.pow_le_pow_right (by omega) (by omega)
   have h3 : (128 : Nat) ^ 8 = 72057594037927936:=by decide
   omega
  ·have hk : k = 9:=by omega
   subst hk;have:=h9 rfl
   have h3 : (128 : Nat) ^ 9 = 9223372036854775808:=by decide
   have h1 : m % 128 * 128 ^ 9 ≤ 1 * 128 ^ 9:=Nat.mul_le_mul_right _ (by omega);omega
 have hacc2 : acc < 18446744073709551616:=by
  have h2 : 128 ^ k ≤ 128 ^ 9:=Nat.pow_le_pow_right (by omega) (by omega)
  have h3 : (128 : Nat) ^ 9 = 9223372036854775808:=by decide
  omega
 have w3 : IntKind.u64.wrap ((m % 128 * 128 ^ k : Nat) : Int) = ((m % 128 * 128 ^ k : Nat) : Int):=by rw [IntKind.wrap_u64];omega
 rw [w1,w2,w3,u64_or_nat _ _ hacc2 hlt,Nat.or_comm,nat_join (7 * k) _ _ (by rw [p1];exact Nat.mul_mod_left _ _) (by rw [p1];exact hacc),Nat.add_comm];refine ⟨rfl,?_⟩;rw [Nat.pow_succ];have h1 : m % 128 * 128 ^ k ≤ 127 * 128 ^ k:=Nat.mul_le_mul_right _ (by omega);omega
theorem QfH (k acc : Nat) (c : Int) (c0 : 0 ≤ c) (h : c < 128) : ((acc + (c % 128).toNat * 128 ^ k : Nat) : Int) = acc + c * 128 ^ k:=by
 obtain ⟨m,rfl⟩:=Int.eq_ofNat_of_zero_le c0
 have e : ((m : Int) % 128).toNat = m:=by omega
 rw [e];simp
theorem QfI (k acc : Nat) (c : Int) : ((acc + (c % 128).toNat * 128 ^ k : Nat) : Int) = acc + c % 128 * 128 ^ k:=by
 have e : ((c % 128).toNat : Int) = c % 128:=by omega
 simp [e]
def rdVal (r : Int × Int × Int) : Value:=.tuple #[.int .u64 r.1,.int .i64 r.2.1,.int .i64 r.2.2]
theorem Qc9 {a b c : Int} {r : Int × Int × Int} (h1 : a = r.1) (h2 : b = r.2.1) (h3 : c = r.2.2) : Ending.returned (.tuple #[.int .u64 a,.int .i64 b,.int .i64 c]) = .returned (rdVal r):=by
 rw [h1,h2,h3];rfl
theorem QkA (va : Value) (xs : List Int) (w : World) (ha : Bs .u8 w va xs) (hr : ∀ x ∈ xs,0 ≤ x ∧ x ≤ 255) :
  Calls Tryz.prog 69 #[va] w fun e w' => e = .returned (rdVal (rd 0 0 xs)) ∧ w = w':=by
 have HA:=Qaa ha;have HR:=Qaa hr;obtain ⟨aa,ca,rfl⟩:=ha.len;obtain ⟨n,hn⟩ : ∃ n,n = xs.length:=⟨_,rfl⟩;rw [← hn] at HA;rw [← hn];have HN:=Qaa hn;obtain ⟨R,hR⟩ : ∃ R,R = rd 0 0 xs:=⟨_,rfl⟩;rw [← hR];have HRD:=Qaa hR;clear ha hr hn hR;go_enter Tryz.func69,Tryz.ntmps69;go_wp2
 go_loop [5,10] (fun a i => ∃ (k : Nat) (acc : Nat),k ≤ n ∧ k ≤ 9 ∧ i = .int .i64 k ∧ a = .int .u64 acc ∧ acc < 128 ^ k ∧ rd k acc (xs.drop k) = R) (fun _ i => n - (intOf i).toNat)
 case atStart => exact ⟨0,0,by omega,by omega,rfl,rfl,by simp,by simpa using HRD.out.symm⟩
 case round =>
  obtain ⟨k,acc,hk,hk9,rfl,rfl,hacc,hrd⟩:=hrel
  by_cases hlt : k < n
  ·obtain ⟨b,off,cap',e1,hc⟩:=HA.out.at k (by rw [← HN.out];exact hlt)
   have ea : aa = some ⟨b,off,none⟩:=by simp at e1;exact e1.1
   subst ea;clear e1;have hcr:=HR.out (xs.getD k 0) (by rw [List.getD_eq_getElem?_getD,List.getElem?_eq_getElem (by rw [← HN.out];exact hlt)];simp);rw [rd_at xs k _ (by rw [← HN.out];exact hlt)] at hrd;generalize xs.getD k 0 = c at hc hcr hrd;have HD:=Qaa hrd;have HACC:=Qaa hacc;clear hrd hacc
   have i0 : (0 : Int) ≤ (k : Int):=by omega
   have i1 : (k : Int) < (n : Int):=by omega
   by_cases hF : k = 9 ∧ 1 < c
   ·obtain ⟨rfl,h1c⟩:=hF
    have hRR : R = (0,0,3):=by have:=HD.out;rw [if_pos ⟨rfl,h1c⟩] at this;exact this.symm
    subst hRR;go_wp2
    go_ret3
    exact ⟨rfl,rfl⟩
   ·have OS:=Qaa (QhM k acc c hk9 HACC.out hcr.1 hcr.2 (by omega))
    by_cases h128 : 128 ≤ c
    ·have d9 : ((k : Int) == 9) = false:=by simp;omega
     go_wp2
     go_round
     case rel =>
      refine ⟨k + 1,acc + (c % 128).toNat * 128 ^ k,by omega,by omega,by go_num,by rw [OS.out.1],OS.out.2,?_⟩;have:=HD.out;rw [if_neg hF,if_pos h128] at this;rw [QfI k acc c];exact this
     case measure => simp [intOf];omega
    ·by_cases h0 : c = 0 ∧ 0 < k
     ·obtain ⟨rfl,hk0⟩:=h0
      have hRR : R = (0,0,3):=by have:=HD.out;rw [if_neg hF,if_neg h128,if_pos ⟨rfl,hk0⟩] at this;exact this.symm
      subst hRR
      by_cases h9 : k = 9
      ·subst h9
       go_wp2
       go_ret3
       exact ⟨rfl,rfl⟩
      ·have d9 : ((k : Int) == 9) = false:=by simp;omega
       have dk : decide (0 < (k : Int)) = true:=by simp;omega
       go_wp2
       go_ret3
       exact ⟨rfl,rfl⟩
     ·have hRR : R = (acc + c * 128 ^ k,(k : Int) + 1,0):=by have:=HD.out;rw [if_neg hF,if_neg h128,if_neg h0] at this;exact this.symm
      subst hRR;have VS:=Qaa (QfH k acc c hcr.1 (by omega))
      by_cases h9 : k = 9
      ·subst h9
       have hc0 : (c == 0) = false:=by simp;omega
       have O9:=Qaa (OS.out.1.trans VS.out);rw [show (2 : Int) ^ (7 * 9) = 9223372036854775808 by decide] at O9;go_wp2
       go_ret3
       exact ⟨Qc9 O9.out rfl rfl,rfl⟩
      ·have d9 : ((k : Int) == 9) = false:=by simp;omega
       have O9:=Qaa (OS.out.1.trans VS.out)
       by_cases hc0 : c = 0
       ·have dk : decide (0 < (k : Int)) = false:=by simp;omega
        subst hc0;go_wp2
        go_ret3
        exact ⟨Qc9 (O9.out.trans (by simp)) rfl rfl,rfl⟩
       ·have dc : (c == 0) = false:=by simp;omega
        go_wp2
        go_ret3
        exact ⟨Qc9 O9.out rfl rfl,rfl⟩
  ·have hkn : k = n:=by omega
   subst hkn
   have hRR : R = (0,0,2):=by rw [← hrd,List.drop_of_length_le (by rw [← HN.out];omega)];rfl
   subst hRR;clear hrd hacc;go_wp2
   go_ret3
   exact ⟨rfl,rfl⟩
theorem QdB (va : Value) (xs : List Int) (w : World) {a b c : Int} (h : rd 0 0 xs = (a,b,c)) (ha : Bs .u8 w va xs) (hr : ∀ x ∈ xs,0 ≤ x ∧ x ≤ 255) :
  Calls Tryz.prog 69 #[va] w fun e w' => e = .returned (.tuple #[.int .u64 a,.int .i64 b,.int .i64 c]) ∧ w = w':=by
 have:=QkA va xs w ha hr;rw [h] at this;exact this
theorem Tryz.infoC8 : (Tryz.prog.info? 5).map (fun i => (i.zero,i.size,i.bytes)) = some (some (.int .u8 0),1,1):=by kernel_rfl
theorem Qgq (c : Nat) (w : World) : Calls Tryz.prog 67 #[.slice none 0 c] w fun e w' => e = .returned (.slice none 0 0) ∧ w = w':=by
 have hnil : ∀ W,(binOp .eql 22 (.slice none 0 c) (.slice none 0 0)).run Tryz.prog W = .ok (.bool true) W:=fun W => by
  rw [Lib.run_eql_slice_nil W 22 5 none 0 c 0 0 Tryz.underlying22];rfl
 go_enter Tryz.func67,Tryz.ntmps67;go_wp2;go_ret;exact ⟨rfl,rfl⟩
theorem QfO (ad : Addr) (m c : Nat) (news : List Value) (w : World) (hl : news.length = m) (hnews : ∀ j u,news[j]? = some u → w.cell? (ad.add j) = some u) (h1 : ∀ u ∈ news,u.oneCell' = true) (hm : m ≤ 140737488355328) :
  Calls Tryz.prog 67 #[.slice (some ad) m c] w fun e w' => ∃ v',e = .returned v' ∧ w'.ownsRow w.heap.size 5 1 v' m news ∧ Only (fun _ => False) w w' ∧ v' ≠ .slice none 0 0:=by
 obtain ⟨i0,hi,hz0,hz1,hz2⟩:=info_parts Tryz.infoC8
 have hnil : ∀ W,(binOp .eql 22 (.slice (some ad) m c) (.slice none 0 0)).run Tryz.prog W = .ok (.bool false) W:=fun W => by
  rw [Lib.run_eql_slice_nil W 22 5 (some ad) m c 0 0 Tryz.underlying22];rfl
 have ho:=World.ownsRow_made (base:=w.heap.size) (e:=5) (size:=1) w #[] 0 (Nat.le_refl _) (by unfold maxLen;omega) rfl;have HN : Hid (∀ j u,news[j]? = some u → w.cell? (ad.add j) = some u):=hnews;clear hnews;go_enter Tryz.func67,Tryz.ntmps67;go_wp2_with (at_builtin;refine wpList_append_own_at _ rfl _ _ _ rfl w.heap.size 5 i0 (.int .u8 0) 1 1 Tryz.underlying22 hi hz0 hz1 hz2 rfl (by omega) (.slice (some ⟨w.heap.size,0,none⟩) 0 0) 0 [] rfl ho ad m c news rfl ?c0 ?c1 h1 ?c3 ?c4 ?c5 ?_)
 case c0 => omega
 case c1 =>
  intro j u hu;have h0:=HN.out j u hu;rw [World.cell?_of_block (Below.heap_alloc w _ _ (World.block_lt_of_cell? w _ h0))];exact h0
 case c3 => unfold maxLen;omega
 case c4 => omega
 case c5 => simp
 intro v' w1 hown1 hgrow hnn hat
 have FIN : Hid (w1.ownsRow w.heap.size 5 1 v' m news ∧ Only (fun _ => False) w w1 ∧ v' ≠ .slice none 0 0):=by
  refine ⟨by simpa using hown1,((Only.refl _ _).alloc _).grown hgrow (fun k hk e => ?_),hnn⟩;simp [Value.ownBlock] at e;omega
 clear hown1 hgrow hnn hat ho;go_wp2;go_ret;exact ⟨v',rfl,FIN.out⟩
theorem Qcn (v : Value) (xs : List Int) (w : World) (h : Bs .u8 w v xs) (hm : xs.length ≤ 140737488355328) :
  Calls Tryz.prog 67 #[v] w fun e w' => ∃ v',e = .returned v' ∧ w'.ownsRow w.heap.size 5 1 v' xs.length (xs.map (Value.int .u8)) ∧ Only (fun _ => False) w w':=by
 obtain ⟨ao,cap,rfl,hc,hr⟩:=h
 cases ao with
 | none =>
  have hx : xs = []:=by
   cases xs with
   | nil => rfl
   | cons a t => obtain ⟨b,off,h,_⟩:=hr (by simp);cases h
  subst hx;refine (Qgq cap w).mono ?_;rintro e w' ⟨rfl,rfl⟩;exact ⟨_,rfl,World.ownsRow_nil _ _ _ _,Only.refl _ _⟩
 | some ad =>
  refine (QfO ad xs.length cap (xs.map (Value.int .u8)) w (by simp) ?_ (QaD _ _) hm).mono ?_
  ·intro j u hu
   have hj : j < xs.length:=by
    have:=(List.getElem?_eq_some_iff.1 hu).1
    simpa using this
   obtain ⟨b,off,hb,hcell⟩:=hr (by intro h;subst h;simp at hj)
   cases hb
   have hadd : (⟨b,off,none⟩ : Addr).add j = ⟨b,off + j,none⟩:=by unfold Addr.add;split <;> simp_all
   rw [hadd,hcell j hj];rw [← hu];simp [List.getElem?_eq_getElem hj]
  ·rintro e w' ⟨v',rfl,h1,h2,_⟩
   exact ⟨v',rfl,h1,h2⟩
structure CurAt (T : TypeId) (w : World) (R : Nat) (v : Value) (ys : List Int) : Prop where
 bs : Bs .u8 w v ys
 rng : ∀ y ∈ ys,0 ≤ y ∧ y ≤ 255
 cell : w.heap[R]? = some (.cells #[v] T (0,0))
 ap : v.ownBlock ≠ some R
 len : ys.length ≤ 1000000000000
theorem CurAt.keep {T : TypeId} {w w' : World} {R : Nat} {v : Value} {ys : List Int} (h : CurAt T w R v ys) {S : Nat → Prop} (ho : Only S w w') (hR : ¬ S R) (hv : ∀ k,v.ownBlock = some k → ¬ S k) : CurAt T w' R v ys :=
 ⟨h.bs.keep ho hv,h.rng,ho.heap h.cell hR,h.ap,h.len⟩
theorem CurAt.form {T : TypeId} {w : World} {R : Nat} {v : Value} {ys : List Int} (h : CurAt T w R v ys) : ∃ ao cap,v = .slice ao ys.length cap:=by
 obtain ⟨ao,cap,rfl,_⟩:=h.bs;exact ⟨ao,cap,rfl⟩
theorem Qa6 {w : World} {R : Nat} {v : Value} {T : TypeId} (h : w.heap[R]? = some (.cells #[v] T (0,0))) : w.cell? ⟨R,0,none⟩ = some v ∧ w.frozen? ⟨R,0,none⟩ = false :=
 ⟨by simp [World.cell?,h],by simp [World.frozen?,h]⟩
theorem Qdc {w : World} {R : Nat} {v : Value} {T : TypeId} (h : w.heap[R]? = some (.cells #[v] T (0,0))) (u : Value) : (w.setCell ⟨R,0,none⟩ u).heap[R]? = some (.cells #[u] T (0,0)):=by
 have h0:=heap_setCell_same w R 0 #[v] T u h
 simpa using h0
theorem Qjf (v : Value) (ys : List Int) (w : World) (h : Bs .u8 w v ys) (hr : ∀ y ∈ ys,0 ≤ y ∧ y ≤ 255) (hl : ys.length ≤ 1000000000000) :
  Calls Tryz.prog 42 #[v] w fun e w' => ∃ R v',e = .returned (.pointer (some ⟨R,0,none⟩)) ∧ CurAt 111 w' R v' ys ∧ Only (fun _ => False) w w' ∧ w.heap.size ≤ R ∧ R < w'.heap.size ∧ (∀ k,v'.ownBlock = some k → w.heap.size ≤ k ∧ k < w'.heap.size):=by
 have HB:=Qaa h;have HR:=Qaa hr;clear h hr;go_enter Tryz.func42,Tryz.ntmps42;go_wp2_with fail;refine (Qcn v ys _ HB.out (by omega)).mono ?_;rintro e w1 ⟨v',rfl,hown,ho⟩;have hbs:=Bs.of_own hown;have hlt:=hown.lt;obtain ⟨ao,cap,rfl,_⟩:=id hbs;have HBS:=Qaa hbs;have HLT:=Qaa hlt;have HO:=Qaa ho;clear hown ho hbs hlt;go_wp2;go_ret;have oa : Only (fun _ => False) w1 (w1.alloc (.cells #[.slice ao ys.length cap] 111)):=(Only.refl _ _).alloc _;refine ⟨w1.heap.size,.slice ao ys.length cap,rfl,⟨HBS.out.keep oa (fun _ _ f => f),HR.out,heap_alloc_new w1 _,?_,hl⟩,HO.out.trans oa (fun _ _ f => f),HO.out.size,by simp,?_⟩
 ·intro e
  have:=(HLT.out _ e).2;omega
 ·intro k hk
  have:=HLT.out k hk;simp;omega
theorem QhV (R m cap : Nat) (ao : Option Addr) (w : World) (h0 : w.cell? ⟨R,0,none⟩ = some (.slice ao m cap)) :
  Calls Tryz.prog 70 #[.pointer (some ⟨R,0,none⟩)] w fun e w' => e = .returned (.int .i64 m) ∧ w = w':=by
 go_enter Tryz.func70,Tryz.ntmps70;go_wp2;go_ret;exact ⟨rfl,rfl⟩
theorem Qct (ao : Option Addr) (m c m' c' : Nat) : (Value.slice ao m c).ownBlock = (Value.slice ao m' c').ownBlock:=by cases ao <;> rfl
theorem QhW (R n m cap : Nat) (ao : Option Addr) (w : World) (h0 : w.cell? ⟨R,0,none⟩ = some (.slice ao m cap)) (f0 : w.frozen? ⟨R,0,none⟩ = false) (h1 : n ≤ m) (h2 : m ≤ cap) :
  Calls Tryz.prog 71 #[.pointer (some ⟨R,0,none⟩),.int .i64 n] w fun e w' => e = .returned (.slice ao n cap) ∧ w' = w.setCell ⟨R,0,none⟩ (.slice (if cap = n then ao else ao.map (fun x => x.add n)) (m - n) (cap - n)):=by
 have i0 : (0 : Int) ≤ (n : Int):=by omega
 have i1 : (n : Int) ≤ (m : Int):=by omega
 have i2 : (n : Int) ≤ (cap : Int):=by omega
 by_cases hc : cap = n
 ·subst hc
  go_enter Tryz.func71,Tryz.ntmps71;go_wp2;go_ret;simp
 ·go_enter Tryz.func71,Tryz.ntmps71
  go_wp2;go_ret;simp
theorem Qco {w : World} {R : Nat} {v : Value} {ys : List Int} (h : CurAt 111 w R v ys) (n : Nat) (hn : n ≤ ys.length) :
  Calls Tryz.prog 71 #[.pointer (some ⟨R,0,none⟩),.int .i64 n] w fun e w' => ∃ ao cap v2,e = .returned (.slice ao n cap) ∧ Bs .u8 w' (.slice ao n cap) (ys.take n) ∧ (Value.slice ao n cap).ownBlock = v.ownBlock ∧ CurAt 111 w' R v2 (ys.drop n) ∧ v2.ownBlock = v.ownBlock ∧ Only (fun k => k = R) w w':=by
 obtain ⟨ao,cap,rfl,hcap,hr⟩:=id h.bs;refine (QhW R n ys.length cap ao w (Qa6 h.cell).1 (Qa6 h.cell).2 hn hcap).mono ?_;rintro e w' ⟨rfl,rfl⟩;have ho : Only (fun k => k = R) w (w.setCell ⟨R,0,none⟩ (.slice (if cap = n then ao else ao.map (fun x => x.add n)) (ys.length - n) (cap - n))):=Only.setCell (S:=fun k => k = R) (p:=⟨R,0,none⟩) (Only.refl _ _) (fun _ => rfl) _
 have hb2 : (Value.slice (if cap = n then ao else ao.map (fun x => x.add n)) (ys.length - n) (cap - n)).ownBlock = (Value.slice ao ys.length cap).ownBlock:=by
  split
  ·exact Qct _ _ _ _ _
  ·exact Qey _ _ _ _ _ _
 have hne : ∀ k,(Value.slice ao ys.length cap).ownBlock = some k → ¬ k = R:=fun k hk e => h.ap (by rw [← e];exact hk)
 have hd : Bs .u8 w (.slice (if cap = n then ao else ao.map (fun x => x.add n)) (ys.length - n) (cap - n)) (ys.drop n):=by
  split
  ·rename_i hc
   subst hc;rw [Nat.sub_self];exact h.bs.cut0 hn
  ·exact h.bs.cut hn
 refine ⟨ao,cap,_,rfl,(h.bs.head hn).keep ho (fun k hk => hne k (by rw [Qct ao ys.length cap n cap];exact hk)),Qct _ _ _ _ _,⟨hd.keep ho (fun k hk => hne k (by rw [← hb2];exact hk)),fun y hy => h.rng y (List.mem_of_mem_drop hy),Qdc h.cell _,by rw [hb2];exact h.ap,?_⟩,hb2,ho⟩;have:=h.len;rw [List.length_drop];omega
theorem QbP {w : World} {R : Nat} {v : Value} {ys : List Int} (h : CurAt 111 w R v ys) :
  Calls Tryz.prog 70 #[.pointer (some ⟨R,0,none⟩)] w fun e w' => e = .returned (.int .i64 ys.length) ∧ w = w':=by
 obtain ⟨ao,cap,rfl⟩:=h.form;exact QhV R ys.length cap ao w (Qa6 h.cell).1
theorem QhX {w : World} {R : Nat} {v : Value} {ys : List Int} (h : CurAt 111 w R v ys) :
  Calls Tryz.prog 139 #[.pointer (some ⟨R,0,none⟩)] w fun e w' => e = .returned (.int .i64 ys.length) ∧ w = w':=by
 have A:=Qaa (QbP h);clear h;go_enter Tryz.func139,Tryz.ntmps139;go_wp2_with fail;refine A.out.mono ?_;rintro e w1 ⟨rfl,rfl⟩;go_wp2;go_ret;exact ⟨rfl,rfl⟩
def endV (ys : List Int) : Int:=if 0 < ys.length then 3 else 0
theorem QjF {w : World} {R : Nat} {v : Value} {ys : List Int} (h : CurAt 111 w R v ys) :
  Calls Tryz.prog 47 #[.pointer (some ⟨R,0,none⟩)] w fun e w' => e = .returned (.int .i64 (endV ys)) ∧ w = w':=by
 have A:=Qaa (QbP h);clear h
 by_cases h0 : 0 < ys.length
 ·have d0 : decide (0 < (ys.length : Int)) = true:=by simp;omega
  have HE : Hid (endV ys = 3):=if_pos h0;go_enter Tryz.func47,Tryz.ntmps47;go_wp2_with fail;refine A.out.mono ?_;rintro e w1 ⟨rfl,rfl⟩;go_wp2;go_ret;exact ⟨by rw [HE.out];rfl,rfl⟩
 ·have d0 : decide (0 < (ys.length : Int)) = false:=decide_eq_false (by omega)
  have HE : Hid (endV ys = 0):=if_neg h0;go_enter Tryz.func47,Tryz.ntmps47;go_wp2_with fail;refine A.out.mono ?_;rintro e w1 ⟨rfl,rfl⟩;go_wp2;go_ret;exact ⟨by rw [HE.out];rfl,rfl⟩
theorem Qfb (R : Nat) (n : Int) (w : World) (h : n < 0) : Calls Tryz.prog 73 #[.pointer (some ⟨R,0,none⟩),.int .i64 n] w fun e w' => e = .returned (.tuple #[.slice none 0 0,.int .i64 1]) ∧ w = w':=by
 go_enter Tryz.func73,Tryz.ntmps73;go_wp2;go_ret2;exact ⟨rfl,rfl⟩
theorem Qb6 {w : World} {R : Nat} {v : Value} {ys : List Int} (h : CurAt 111 w R v ys) (n : Int) (h0 : 0 ≤ n) (h1 : (ys.length : Int) < n) :
  Calls Tryz.prog 73 #[.pointer (some ⟨R,0,none⟩),.int .i64 n] w fun e w' => e = .returned (.tuple #[.slice none 0 0,.int .i64 2]) ∧ w = w':=by
 have A:=Qaa (QbP h);clear h
 have d0 : decide (n < 0) = false:=by simp;omega
 go_enter Tryz.func73,Tryz.ntmps73;go_wp2_with fail;refine A.out.mono ?_;rintro e w1 ⟨rfl,rfl⟩;go_wp2;go_ret2;exact ⟨rfl,rfl⟩
theorem QeA {w : World} {R : Nat} {v : Value} {ys : List Int} (h : CurAt 111 w R v ys) (n : Nat) (h1 : n ≤ ys.length) :
  Calls Tryz.prog 73 #[.pointer (some ⟨R,0,none⟩),.int .i64 n] w fun e w' => ∃ ao cap v2,e = .returned (.tuple #[.slice ao n cap,.int .i64 0]) ∧ Bs .u8 w' (.slice ao n cap) (ys.take n) ∧ (Value.slice ao n cap).ownBlock = v.ownBlock ∧ CurAt 111 w' R v2 (ys.drop n) ∧ v2.ownBlock = v.ownBlock ∧ Only (fun k => k = R) w w':=by
 have A:=Qaa (QbP h);have B:=Qaa (Qco h n h1);clear h
 have d0 : decide ((n : Int) < 0) = false:=by simp
 have d1 : decide ((ys.length : Int) < (n : Int)) = false:=by simp;omega
 go_enter Tryz.func73,Tryz.ntmps73;go_wp2_with fail;refine A.out.mono ?_;rintro e w1 ⟨rfl,rfl⟩;go_wp2_with fail;refine B.out.mono ?_;rintro e w1 ⟨ao,cap,v2,rfl,hr⟩;have HR:=Qaa hr;clear hr;go_wp2;go_ret2;exact ⟨ao,cap,v2,rfl,HR.out⟩
theorem QbL (N : Nat) : ∀ k,(Value.slice none 0 0).ownBlock = some k → N ≤ k:=fun k hk => by cases hk
def num (l : List Int) : Nat:=l.foldl (fun a y => 256 * a + y.toNat) 0
theorem QbQ (l : List Int) (y : Int) : num (l ++ [y]) = 256 * num l + y.toNat:=by simp [num]
theorem Qfc (l : List Int) (hr : ∀ y ∈ l,0 ≤ y ∧ y ≤ 255) : num l < 256 ^ l.length:=by
 induction h : l.length generalizing l with
 | zero =>
  have : l = []:=List.eq_nil_of_length_eq_zero h;subst this;simp [num]
 | succ n ih =>
  have hne : l ≠ []:=by intro h0;subst h0;simp at h
  obtain ⟨t,b,rfl⟩ : ∃ t b,l = t ++ [b]:=⟨l.dropLast,l.getLast hne,(List.dropLast_concat_getLast hne).symm⟩;have:=ih t (fun y hy => hr y (by simp [hy])) (by simp at h;omega);have hb:=hr b (by simp);rw [QbQ,Nat.pow_succ];omega
theorem QdJ (l : List Int) (k : Nat) (h : k < l.length) : l.take (k + 1) = l.take k ++ [l.getD k 0]:=by
 rw [List.take_succ_eq_append_getElem h,List.getD_eq_getElem?_getD,List.getElem?_eq_getElem h];rfl
theorem QkH {k : Nat} (h : k ≤ 7) : 256 ^ k ≤ 72057594037927936:=by
 have h1 : 256 ^ k ≤ 256 ^ 7:=Nat.pow_le_pow_right (by omega) h
 have h2 : (256 : Nat) ^ 7 = 72057594037927936:=by decide
 omega
theorem QhY (zs : List Int) (k : Nat) (hr : ∀ y ∈ zs,0 ≤ y ∧ y ≤ 255) (h8 : zs.length ≤ 8) (h : k < zs.length) :
  num (zs.take k) < 72057594037927936 ∧ bits .or .u64 ((num (zs.take k) : Int) * 256) (zs.getD k 0) = (num (zs.take (k + 1)) : Int):=by
 have hl:=Qfc (zs.take k) (fun y hy => hr y (List.mem_of_mem_take hy));rw [List.length_take,Nat.min_eq_left (by omega)] at hl;have hp:=QkH (k:=k) (by omega);have hy:=hr (zs.getD k 0) (by rw [List.getD_eq_getElem?_getD,List.getElem?_eq_getElem h];simp);rw [QdJ zs k h,QbQ];generalize zs.getD k 0 = y at hy;generalize num (zs.take k) = a at hl;obtain ⟨m,rfl⟩:=Int.eq_ofNat_of_zero_le hy.1
 have e2 : ((a : Int) * 256) = ((256 * a : Nat) : Int):=by omega
 refine ⟨by omega,?_⟩;rw [e2,u64_or_nat _ _ (by omega) (by omega),nat_join 8 _ _ (by omega) (by omega),Int.toNat_natCast]
def sByte (ys : List Int) : Int × Nat × Int:=if ys.length = 0 then (0,0,2) else (ys.getD 0 0,1,0)
def Qai (n : Int) (ys : List Int) : List Int × Nat × Int:=if n < 0 then ([],0,1) else if (ys.length : Int) < n then ([],0,2) else (ys.take n.toNat,n.toNat,0)
def Qbh (n : Int) (ys : List Int) : Int × Nat × Int:=if n < 0 ∨ 8 < n then (0,0,1) else if (ys.length : Int) < n then (0,0,2) else (num (ys.take n.toNat),n.toNat,0)
def Qab (ys : List Int) : Int × Nat × Int:=((rd 0 0 ys).1,(rd 0 0 ys).2.1.toNat,(rd 0 0 ys).2.2)
def Qae (most : Int) (ys : List Int) : List Int × Nat × Int :=
 if most < 0 then ([],0,1) else if (Qab ys).2.2 ≠ 0 then ([],0,(Qab ys).2.2) else if most < (Qab ys).1 then ([],0,4)
 else if (ys.length : Int) - (Qab ys).2.1 < (Qab ys).1 then ([],0,2) else ((ys.drop (Qab ys).2.1).take (Qab ys).1.toNat,(Qab ys).2.1 + (Qab ys).1.toNat,0)
theorem QbR (ys : List Int) (hr : ∀ y ∈ ys,0 ≤ y ∧ y ≤ 255) : (∃ c,rd 0 0 ys = (0,0,c) ∧ (c = 2 ∨ c = 3)) ∨ (∃ a k : Nat,rd 0 0 ys = ((a : Int),(k : Int),0) ∧ 1 ≤ k ∧ k ≤ ys.length ∧ k ≤ 10 ∧ a < 18446744073709551616 ∧ gs a = ys.take k):=by
 obtain ⟨r,n,c,h⟩ : ∃ r n c,rd 0 0 ys = (r,n,c):=⟨_,_,_,rfl⟩
 rcases Qk7 ys 0 0 with h0 | ⟨h1,h2,h3⟩
 ·right
  rw [h] at h0;simp at h0;subst h0;obtain ⟨a,k,e1,e2,k1,k2,hg,_,hv⟩:=rd_ok ys 0 0 r n (by omega) hr h;simp at e1 e2 hv;subst e1;subst e2;refine ⟨a,k,h,k1,k2,?_,hv,hg⟩;have h10:=Qa5 (v:=a) hv;rw [hg,List.length_take] at h10;omega
 ·left
  rw [h] at h1 h2 h3;simp at h1 h2 h3;subst h1;subst h2;exact ⟨c,h,h3⟩
theorem QhZ {w : World} {R : Nat} {v : Value} {ys : List Int} (h : CurAt 111 w R v ys) :
  Calls Tryz.prog 188 #[.pointer (some ⟨R,0,none⟩)] w fun e w' => e = .returned (.tuple #[.int .u8 (sByte ys).1,.int .i64 (sByte ys).2.2]) ∧
   ∃ v2,CurAt 111 w' R v2 (ys.drop (sByte ys).2.1) ∧ v2.ownBlock = v.ownBlock ∧ Only (fun k => k = R) w w':=by
 by_cases h0 : ys.length = 0
 ·have HS : Hid (sByte ys = (0,0,2)):=if_pos h0
  have A:=Qaa (Qb6 h 1 (by omega) (by omega));have HC:=Qaa h;clear h;go_enter Tryz.func188,Tryz.ntmps188;go_wp2_with fail;refine A.out.mono ?_;rintro e w1 ⟨rfl,rfl⟩;go_wp2;go_ret2;rw [HS.out];exact ⟨rfl,v,HC.out,rfl,Only.refl _ _⟩
 ·have HS : Hid (sByte ys = (ys.getD 0 0,1,0)):=if_neg h0
  have A:=Qaa (QeA h 1 (by omega));clear h;go_enter Tryz.func188,Tryz.ntmps188;go_wp2_with fail;refine A.out.mono ?_;rintro e w1 ⟨ao,cap,v2,rfl,hb,_,hc,ho,hon⟩;obtain ⟨b,off,cap',e1,hx⟩:=hb.at 0 (by rw [List.length_take];omega)
  have ea : ao = some ⟨b,off,none⟩:=by simp at e1;exact e1.1
  subst ea;clear e1
  have hg : (ys.take 1).getD 0 0 = ys.getD 0 0:=by
   rw [List.getD_eq_getElem?_getD,List.getD_eq_getElem?_getD,List.getElem?_take,if_pos (by omega)]
  rw [hg,Nat.add_zero] at hx;generalize ys.getD 0 0 = y at hx HS;have HR:=Qaa (And.intro hc (And.intro ho hon));clear hb hc ho hon A;go_wp2;go_ret2;rw [HS.out];exact ⟨rfl,v2,HR.out⟩
theorem Qgr {w : World} {R : Nat} {v : Value} {ys : List Int} (h : CurAt 111 w R v ys) (n : Int) :
  Calls Tryz.prog 136 #[.pointer (some ⟨R,0,none⟩),.int .i64 n] w fun e w' => e = .returned (.tuple #[.int .u64 (Qbh n ys).1,.int .i64 (Qbh n ys).2.2]) ∧
   ∃ v2,CurAt 111 w' R v2 (ys.drop (Qbh n ys).2.1) ∧ v2.ownBlock = v.ownBlock ∧ Only (fun k => k = R) w w':=by
 by_cases h8 : 8 < n
 ·have HS : Hid (Qbh n ys = (0,0,1)):=if_pos (.inr h8)
  have HC:=Qaa h;clear h;go_enter Tryz.func136,Tryz.ntmps136;go_wp2;go_ret2;rw [HS.out];exact ⟨rfl,v,HC.out,rfl,Only.refl _ _⟩
 have d8 : decide (8 < n) = false:=decide_eq_false h8
 by_cases h0 : n < 0
 ·have HS : Hid (Qbh n ys = (0,0,1)):=if_pos (.inl h0)
  have A:=Qaa (Qfb R n w h0);have HC:=Qaa h;clear h;go_enter Tryz.func136,Tryz.ntmps136;go_wp2_with fail;refine A.out.mono ?_;rintro e w1 ⟨rfl,rfl⟩;go_wp2;go_ret2;rw [HS.out];exact ⟨rfl,v,HC.out,rfl,Only.refl _ _⟩
 obtain ⟨n,rfl⟩:=Int.eq_ofNat_of_zero_le (Int.not_lt.1 h0)
 by_cases hs : (ys.length : Int) < (n : Int)
 ·have HS : Hid (Qbh n ys = (0,0,2)):=by
   simp only [Hid,Qbh];rw [if_neg (by omega),if_pos hs]
  have A:=Qaa (Qb6 h n (by omega) hs);have HC:=Qaa h;clear h;go_enter Tryz.func136,Tryz.ntmps136;go_wp2_with fail;refine A.out.mono ?_;rintro e w1 ⟨rfl,rfl⟩;go_wp2;go_ret2;rw [HS.out];exact ⟨rfl,v,HC.out,rfl,Only.refl _ _⟩
 ·have HS : Hid (Qbh n ys = ((num (ys.take n) : Int),n,0)):=by
   simp only [Hid,Qbh];rw [if_neg (by omega),if_neg hs]
   rfl
  have A:=Qaa (QeA h n (by omega))
  have HZR : Hid (∀ y ∈ ys.take n,0 ≤ y ∧ y ≤ 255):=fun y hy => h.rng y (List.mem_of_mem_take hy)
  have HZL : Hid ((ys.take n).length = n):=by simp only [Hid,List.length_take];omega
  clear h;go_enter Tryz.func136,Tryz.ntmps136;go_wp2_with fail;refine A.out.mono ?_;rintro e w1 ⟨ao,cap,v2,rfl,hb,_,hc,ho,hon⟩;have HB:=Qaa hb;have HR:=Qaa (And.intro hc (And.intro ho hon));clear hb hc ho hon A;generalize ys.take n = zs at HB HZR HZL HS;go_wp2
  go_loop [8,24] (fun a i => ∃ k : Nat,k ≤ n ∧ i = .int .i64 k ∧ a = .int .u64 (num (zs.take k))) (fun _ i => n - (intOf i).toNat)
  case atStart => exact ⟨0,Nat.zero_le _,rfl,rfl⟩
  case round =>
   obtain ⟨k,hk,rfl,rfl⟩:=hrel
   by_cases hlt : k < n
   ·obtain ⟨b,off,cap',e1,hx⟩:=HB.out.at k (by rw [HZL.out];exact hlt)
    have ea : ao = some ⟨b,off,none⟩:=by simp at e1;exact e1.1
    subst ea;clear e1;obtain ⟨ha,hst⟩:=QhY zs k HZR.out (by rw [HZL.out];omega) (by rw [HZL.out];exact hlt);have hy:=HZR.out (zs.getD k 0) (by rw [List.getD_eq_getElem?_getD,List.getElem?_eq_getElem (by rw [HZL.out];exact hlt)];simp);generalize zs.getD k 0 = y at hx hst hy
    have i0 : (0 : Int) ≤ (k : Int):=by omega
    have i1 : (k : Int) < (n : Int):=by omega
    have HST:=Qaa hst
    have hsh : (num (zs.take k) : Int) * 256 ≤ 18446744073709551615:=by omega
    generalize num (zs.take k) = a at HST ha hsh;clear hst;go_wp2
    go_round
    case rel => exact ⟨k + 1,by omega,by go_num,by rw [HST.out]⟩
    case measure => simp [intOf];omega
   ·have hkn : k = n:=by omega
    subst hkn;go_wp2;go_ret2;rw [HS.out,List.take_of_length_le (by rw [HZL.out];omega)];exact ⟨rfl,v2,HR.out⟩
theorem QcX {w : World} {R : Nat} {v : Value} {ys : List Int} (h : CurAt 111 w R v ys) :
  Calls Tryz.prog 186 #[.pointer (some ⟨R,0,none⟩)] w fun e w' => e = .returned (.tuple #[.int .u64 (Qab ys).1,.int .i64 (Qab ys).2.2]) ∧
   ∃ v2,CurAt 111 w' R v2 (ys.drop (Qab ys).2.1) ∧ v2.ownBlock = v.ownBlock ∧ Only (fun k => k = R) w w':=by
 obtain ⟨ao,cap,rfl⟩:=h.form;have c0:=(Qa6 h.cell).1
 rcases QbR ys h.rng with ⟨c,hrd,hc⟩ | ⟨a,k,hrd,_,hk,_,_,_⟩
 ·have HS : Hid (Qab ys = (0,0,c)):=by simp only [Hid,Qab];rw [hrd];rfl
  have A:=Qaa (QdB _ ys w hrd h.bs h.rng);have HC:=Qaa h
  have dc : (c != 0) = true:=by simp;omega
  clear h hrd;go_enter Tryz.func186,Tryz.ntmps186;go_wp2_with fail;refine A.out.mono ?_;rintro e w1 ⟨rfl,rfl⟩;go_wp2;go_ret2;rw [HS.out];exact ⟨rfl,_,HC.out,rfl,Only.refl _ _⟩
 ·have HS : Hid (Qab ys = ((a : Int),k,0)):=by simp only [Hid,Qab];rw [hrd];rfl
  have A:=Qaa (QdB _ ys w hrd h.bs h.rng);have B:=Qaa (Qco h k hk);clear h hrd;go_enter Tryz.func186,Tryz.ntmps186;go_wp2_with fail;refine A.out.mono ?_;rintro e w1 ⟨rfl,rfl⟩;go_wp2_with fail;refine B.out.mono ?_;rintro e w1 ⟨ao',cap',v2,rfl,_,_,hc,ho,hon⟩;have HR:=Qaa (And.intro hc (And.intro ho hon));clear hc ho hon A B c0;go_wp2;go_ret2;rw [HS.out];exact ⟨rfl,v2,HR.out⟩
theorem QdK {w : World} {R : Nat} {v : Value} {ys : List Int} (h : CurAt 111 w R v ys) (n : Int) :
  Calls Tryz.prog 46 #[.pointer (some ⟨R,0,none⟩),.int .i64 n] w fun e w' => ∃ v1,e = .returned (.tuple #[v1,.int .i64 (Qai n ys).2.2]) ∧ w'.ownsRow w.heap.size 5 1 v1 (Qai n ys).1.length ((Qai n ys).1.map (Value.int .u8)) ∧
   ∃ v2,CurAt 111 w' R v2 (ys.drop (Qai n ys).2.1) ∧ v2.ownBlock = v.ownBlock ∧ Only (fun k => k = R) w w':=by
 by_cases h0 : n < 0
 ·have HS : Hid (Qai n ys = ([],0,1)):=if_pos h0
  have A:=Qaa (Qfb R n w h0);have HC:=Qaa h;clear h;go_enter Tryz.func46,Tryz.ntmps46;go_wp2_with fail;refine A.out.mono ?_;rintro e w1 ⟨rfl,rfl⟩;go_wp2;go_ret2;rw [HS.out];exact ⟨.slice none 0 0,rfl,World.ownsRow_nil _ _ _ _,v,HC.out,rfl,Only.refl _ _⟩
 obtain ⟨n,rfl⟩:=Int.eq_ofNat_of_zero_le (Int.not_lt.1 h0)
 by_cases hs : (ys.length : Int) < (n : Int)
 ·have HS : Hid (Qai n ys = ([],0,2)):=by
   simp only [Hid,Qai];rw [if_neg h0,if_pos hs]
  have A:=Qaa (Qb6 h n (by omega) hs);have HC:=Qaa h;clear h;go_enter Tryz.func46,Tryz.ntmps46;go_wp2_with fail;refine A.out.mono ?_;rintro e w1 ⟨rfl,rfl⟩;go_wp2;go_ret2;rw [HS.out];exact ⟨.slice none 0 0,rfl,World.ownsRow_nil _ _ _ _,v,HC.out,rfl,Only.refl _ _⟩
 ·have HS : Hid (Qai n ys = (ys.take n,n,0)):=by
   simp only [Hid,Qai];rw [if_neg h0,if_neg hs]
   rfl
  have A:=Qaa (QeA h n (by omega));have hlen:=h.len;have hRw : R < w.heap.size:=(Array.getElem?_eq_some_iff.1 h.cell).1;clear h;go_enter Tryz.func46,Tryz.ntmps46;go_wp2_with fail;refine A.out.mono ?_;rintro e w1 ⟨ao,cap,v2,rfl,hb,_,hc,ho,hon⟩;have B:=Qaa (Qcn _ _ w1 hb (by rw [List.length_take];omega));have HR:=Qaa (And.intro hc (And.intro ho hon));clear hb hc ho hon A;go_wp2_with fail;refine B.out.mono ?_;rintro e w2 ⟨v1,rfl,hown,hon2⟩
  have F : Hid (w2.ownsRow w.heap.size 5 1 v1 (ys.take n).length ((ys.take n).map (Value.int .u8)) ∧ CurAt 111 w2 R v2 (ys.drop n) ∧ v2.ownBlock = v.ownBlock ∧ Only (fun k => k = R) w w2):=by
   obtain ⟨hc,ho,hon⟩:=HR.out;exact ⟨Qal hown hon.size,hc.keep hon2 (fun f => f) (fun _ _ f => f),ho,hon.trans hon2 (fun _ _ f => f.elim)⟩
  clear hown hon2 B HR;go_wp2;go_ret2;rw [HS.out];exact ⟨v1,rfl,F.out.1,v2,F.out.2⟩
theorem Qcu {w : World} {R : Nat} {v : Value} {ys : List Int} (h : CurAt 111 w R v ys) (n : Int) :
  Calls Tryz.prog 46 #[.pointer (some ⟨R,0,none⟩),.int .i64 n] w fun e w' => ∃ v1,e = .returned (.tuple #[v1,.int .i64 (Qai n ys).2.2]) ∧ Bs .u8 w' v1 (Qai n ys).1 ∧ NoCap v1 ∧ (∀ k,v1.ownBlock = some k → w.heap.size ≤ k) ∧
   ∃ v2,CurAt 111 w' R v2 (ys.drop (Qai n ys).2.1) ∧ v2.ownBlock = v.ownBlock ∧ Only (fun k => k = R) w w' :=
 (QdK h n).mono fun _ _ ⟨v1,e,own,r⟩ => ⟨v1,e,Bs.of_own own,NoCap.of_own own,fun k hk => (own.lt k hk).1,r⟩
theorem QdL {w : World} {R : Nat} {v : Value} {ys : List Int} (h : CurAt 111 w R v ys) (most : Int) (hm : most ≤ 9223372036854775807) :
  Calls Tryz.prog 44 #[.pointer (some ⟨R,0,none⟩),.int .i64 most] w fun e w' => ∃ v1,e = .returned (.tuple #[v1,.int .i64 (Qae most ys).2.2]) ∧ Bs .u8 w' v1 (Qae most ys).1 ∧ NoCap v1 ∧ (∀ k,v1.ownBlock = some k → w.heap.size ≤ k) ∧
   ∃ v2,CurAt 111 w' R v2 (ys.drop (Qae most ys).2.1) ∧ v2.ownBlock = v.ownBlock ∧ Only (fun k => k = R) w w':=by
 by_cases h0 : most < 0
 ·have HS : Hid (Qae most ys = ([],0,1)):=if_pos h0
  have HC:=Qaa h;clear h;go_enter Tryz.func44,Tryz.ntmps44;go_wp2;go_ret2;rw [HS.out];exact ⟨.slice none 0 0,rfl,Bs.nil _ _,NoCap.nil,QbL _,v,HC.out,rfl,Only.refl _ _⟩
 have d0 : decide (most < 0) = false:=decide_eq_false h0;obtain ⟨ao,cap,rfl⟩:=h.form;have c0:=(Qa6 h.cell).1;have hlen:=h.len
 rcases QbR ys h.rng with ⟨c,hrd,hc⟩ | ⟨a,k,hrd,hk1,hk,_,ha,_⟩
 ·have HV : Qab ys = (0,0,c):=by simp only [Qab];rw [hrd];rfl
  have HS : Hid (Qae most ys = ([],0,c)):=by
   simp only [Hid,Qae];rw [if_neg h0,HV,if_pos (by simp;omega)]
  have A:=Qaa (QdB _ ys w hrd h.bs h.rng);have HC:=Qaa h
  have dc : (c != 0) = true:=by simp;omega
  clear h hrd HV;go_enter Tryz.func44,Tryz.ntmps44;go_wp2_with fail;refine A.out.mono ?_;rintro e w1 ⟨rfl,rfl⟩;go_wp2;go_ret2;rw [HS.out];exact ⟨.slice none 0 0,rfl,Bs.nil _ _,NoCap.nil,QbL _,_,HC.out,rfl,Only.refl _ _⟩
 ·have HV : Qab ys = ((a : Int),k,0):=by simp only [Qab];rw [hrd];rfl
  have A:=Qaa (QdB _ ys w hrd h.bs h.rng)
  by_cases h4 : most < (a : Int)
  ·have HS : Hid (Qae most ys = ([],0,4)):=by
    simp only [Hid,Qae];rw [if_neg h0,HV,if_neg (by simp),if_pos h4]
   have HC:=Qaa h;clear h hrd HV;have d4 : decide (most < (a : Int)) = true:=decide_eq_true h4;go_enter Tryz.func44,Tryz.ntmps44;go_wp2_with fail;refine A.out.mono ?_;rintro e w1 ⟨rfl,rfl⟩;go_wp2;go_ret2;rw [HS.out];exact ⟨.slice none 0 0,rfl,Bs.nil _ _,NoCap.nil,QbL _,_,HC.out,rfl,Only.refl _ _⟩
  have d4 : decide (most < (a : Int)) = false:=decide_eq_false h4;have L:=Qaa (QbP h)
  by_cases h2 : (ys.length : Int) - k < (a : Int)
  ·have HS : Hid (Qae most ys = ([],0,2)):=by
    simp only [Hid,Qae];rw [if_neg h0,HV,if_neg (by simp),if_neg h4,if_pos h2]
   have HC:=Qaa h;clear h hrd HV;have d2 : decide ((ys.length : Int) - k < (a : Int)) = true:=decide_eq_true h2;go_enter Tryz.func44,Tryz.ntmps44;go_wp2_with fail;refine A.out.mono ?_;rintro e w1 ⟨rfl,rfl⟩;go_wp2_with fail;refine L.out.mono ?_;rintro e w1 ⟨rfl,rfl⟩;go_wp2;go_ret2;rw [HS.out];exact ⟨.slice none 0 0,rfl,Bs.nil _ _,NoCap.nil,QbL _,_,HC.out,rfl,Only.refl _ _⟩
  ·have HS : Hid (Qae most ys = ((ys.drop k).take a,k + a,0)):=by
    simp only [Hid,Qae];rw [if_neg h0,HV,if_neg (by simp),if_neg h4,if_neg h2]
    rfl
   have d2 : decide ((ys.length : Int) - k < (a : Int)) = false:=decide_eq_false h2;have B:=Qaa (Qco h k hk);clear h hrd HV;go_enter Tryz.func44,Tryz.ntmps44;go_wp2_with fail;refine A.out.mono ?_;rintro e w1 ⟨rfl,rfl⟩;go_wp2_with fail;refine L.out.mono ?_;rintro e w1 ⟨rfl,rfl⟩;go_wp2_with fail;refine B.out.mono ?_;rintro e w1 ⟨ao',cap',v2,rfl,_,_,hc,ho,hon⟩;have C:=Qaa (Qco hc a (by rw [List.length_drop];omega));have HR:=Qaa (And.intro ho hon);clear hc ho hon A B L c0;go_wp2_with fail;refine C.out.mono ?_;rintro e w2 ⟨ao3,cap3,v3,rfl,hb,_,hc,ho,hon⟩;have D:=Qaa (Qcn _ _ w2 hb (by rw [List.length_take,List.length_drop];omega));have HR2:=Qaa (And.intro hc (And.intro ho hon));clear hb hc ho hon C;go_wp2_with fail;refine D.out.mono ?_;rintro e w3 ⟨v1,rfl,hown,hon3⟩
   have F : Hid (Bs .u8 w3 v1 ((ys.drop k).take a) ∧ NoCap v1 ∧ (∀ k,v1.ownBlock = some k → w.heap.size ≤ k) ∧ CurAt 111 w3 R v3 (ys.drop (k + a)) ∧ v3.ownBlock = (Value.slice ao ys.length cap).ownBlock ∧ Only (fun k => k = R) w w3):=by
    obtain ⟨ho,hon⟩:=HR.out;obtain ⟨hc,ho2,hon2⟩:=HR2.out;rw [List.drop_drop] at hc;have hon12:=hon.trans hon2 (fun _ _ f => f);exact ⟨Bs.of_own hown,NoCap.of_own hown,fun k hk => Nat.le_trans hon12.size (hown.lt k hk).1,hc.keep hon3 (fun f => f) (fun _ _ f => f),ho2.trans ho,hon12.trans hon3 (fun _ _ f => f.elim)⟩
   clear hown hon3 D HR HR2;go_wp2;go_ret2;rw [HS.out];obtain ⟨f1,f2,f3,f4⟩:=F.out;exact ⟨v1,rfl,f1,f2,f3,v3,f4⟩
theorem QbD (v : Nat) (t : List Int) (h : v < 18446744073709551616) : Qab (gs v ++ t) = ((v : Int),(gs v).length,0):=by
 have:=rd_gs t v 0 0 (by omega) (by simpa using h) (fun h => by omega);rw [Qab,this];simp
def fixB (v : Int) (i : Nat) : Int:=v / 2 ^ (8 * i) % 256
def fixL (v : Int) (n : Nat) : List Int:=(List.range n).map fun j => fixB v (n - 1 - j)
theorem Qa7 (v : Int) (n : Nat) : (fixL v n).length = n:=by simp [fixL]
theorem QcY (v : Int) (i : Nat) : 0 ≤ fixB v i ∧ fixB v i ≤ 255:=by unfold fixB;omega
theorem QcZ (v : Int) (n : Nat) : ∀ y ∈ fixL v n,0 ≤ y ∧ y ≤ 255:=by
 intro y hy;simp only [fixL,List.mem_map] at hy;obtain ⟨j,_,rfl⟩:=hy;exact QcY _ _
def blk (b : List Int) : List Int:=gs b.length ++ b
theorem Qcv (b : List Int) (h : b.length ≤ 1000000) : (blk b).length ≤ b.length + 10:=by
 have:=Qa5 (v:=b.length) (by omega);simp only [blk,List.length_append];omega
theorem Qcw (b : List Int) (hr : ∀ y ∈ b,0 ≤ y ∧ y ≤ 255) : ∀ y ∈ blk b,0 ≤ y ∧ y ≤ 255:=by
 intro y hy;simp only [blk,List.mem_append] at hy
 rcases hy with hy | hy
 ·exact Qcp _ y hy
 ·exact hr y hy
theorem QjG (vb : Value) (ys : List Int) (w : World) (hb : Bs .u8 w vb ys) (nb : NoCap vb) (hl : ys.length ≤ 1000000) :
  Calls Tryz.prog 119 #[vb] w fun e w' => ∃ v',e = .returned v' ∧ w'.ownsRow w.heap.size 5 1 v' (blk ys).length ((blk ys).map (Value.int .u8)) ∧ Only (fun _ => False) w w':=by
 have HB:=Qaa hb;have NB:=Qaa nb;have A:=Qaa (Qge (.slice none 0 0) [] ys.length w (Bs.nil _ _) NoCap.nil (by simp) (by omega) (by omega));rw [List.nil_append,Int.toNat_natCast] at A;have H10:=Qaa (Qa5 (v:=ys.length) (by omega));have HP:=Qaa (QfG ys.length);obtain ⟨ab,cb,rfl⟩:=hb.len;clear hb nb;go_enter Tryz.func119,Tryz.ntmps119;go_wp2_with fail;refine A.out.mono ?_;rintro e w1 ⟨v1,rfl,hown1,hon1⟩;have hbl : Below w1.heap.size w1 (w1.alloc (.cells #[v1,.slice ab ys.length cb] 22)):=(Below.refl _ _).alloc (Nat.le_refl _) _;have CC:=Qaa (Qce w1.heap.size v1 (.slice ab ys.length cb) (gs ys.length) ys (w1.alloc (.cells #[v1,.slice ab ys.length cb] 22)) (by go_cell) (by go_cell) ((Bs.of_own hown1).later hbl) ((HB.out.later (hon1.low (Nat.le_refl _))).later hbl) (NoCap.of_own hown1) NB.out (by have:=HP.out;omega) (by have:=H10.out;omega));have O1:=Qaa hon1;have F1 : Hid (∃ ao c,v1 = .slice ao (gs ys.length).length c):=(Bs.of_own hown1).len;clear hown1 hon1 hbl A;obtain ⟨ao1,c1,hv1⟩:=F1.out;subst hv1;go_wp2_with fail;refine CC.out.mono ?_;rintro e w2 ⟨v',rfl,hown,hon⟩
 have F : Hid (w2.ownsRow w.heap.size 5 1 v' (blk ys).length ((blk ys).map (Value.int .u8)) ∧ Only (fun _ => False) w w2) :=
  ⟨Qal hown (by have:=O1.out.size;simp;omega),(O1.out.alloc _).trans hon (fun _ _ f => f)⟩
 clear hown hon CC O1;go_wp2;go_ret;exact ⟨_,rfl,F.out⟩
theorem Qgs {b : List Int} (h : b.length ≤ 127) : blk b = (b.length : Int) :: b:=by
 unfold blk;rw [QaO (by omega)]
 rfl
def sb (s : ByteArray) : List Int:=s.data.toList.map fun c => (c.toNat : Int)
theorem QaB (s : ByteArray) : (sb s).length = s.size:=by simp [sb]
theorem QfA (s : ByteArray) : ∀ y ∈ sb s,0 ≤ y ∧ y ≤ 255:=by
 intro y hy;simp only [sb,List.mem_map] at hy;obtain ⟨c,_,rfl⟩:=hy;have:=c.toNat_lt;omega
theorem of_sb (s : ByteArray) : strOfNums (sb s) = s:=by
 unfold strOfNums sb;rw [List.map_map]
 have : s.data.toList.map ((fun n : Int => UInt8.ofNat n.toNat) ∘ fun c : UInt8 => (c.toNat : Int)) = s.data.toList:=by
  refine (List.map_congr_left (g:=id) (fun x _ => ?_)).trans (List.map_id _);simp
 rw [this]
theorem sb_of {l : List Int} (h : ∀ y ∈ l,0 ≤ y ∧ y ≤ 255) : sb (strOfNums l) = l:=by
 unfold strOfNums sb;rw [List.map_map];refine (List.map_congr_left (g:=id) (fun x hx => ?_)).trans (List.map_id _);have:=h x hx;simp only [Function.comp,id];rw [UInt8.toNat_ofNat'];omega
theorem Qk2 {s t : ByteArray} (h : sb s = sb t) : s = t:=by rw [← of_sb s,← of_sb t,h]
def KTX (p : Int) (nm : List Int) : List Int:=p :: blk nm
def KDV (key : List Int) (p : Int) (nm : List Int) : List Int:=EXPL key (KTX p nm) 32
def KDt (key : List Int) (p : Int) (nm : List Int) : List Int:=if key.length = 32 then (if nm.length ≤ 64 then KDV key p nm else []) else []
def KDe (key nm : List Int) : Int:=if key.length = 32 then (if nm.length ≤ 64 then 0 else 4) else 1
theorem QgK (p : Int) (nm : List Int) (h : nm.length ≤ 127) : KTX p nm = p :: (nm.length : Int) :: nm:=by rw [KTX,Qgs h]
theorem QgL (p : Int) (nm : List Int) (h : nm.length ≤ 127) : (KTX p nm).length = nm.length + 2:=by rw [QgK p nm h];simp
theorem Qjp {p : Int} {nm : List Int} (hp : 0 ≤ p ∧ p ≤ 255) (h : U8 nm) : U8 (KTX p nm):=fun y hy => by
 rcases List.mem_cons.1 hy with rfl | hy
 ·exact hp
 ·exact Qcw nm h y hy
theorem QgM (key : List Int) (p : Int) (nm : List Int) : (KDV key p nm).length = 32:=Qh6 _ _ _
theorem QkM (key : List Int) (p : Int) (nm : List Int) : U8 (KDV key p nm):=QjM _ _ _
theorem Qa4 (w : World) (v : Value) (xs : List Int) (h : Bs .u8 w v xs) : (convert 22 9 v).run Tryz.prog w = .ok (.string (strOfNums xs)) w:=by
 obtain ⟨ao,cap,rfl,hl,hc⟩:=h
 cases ao with
 | none =>
  have hx : xs = []:=by
   by_cases hx : xs = []
   ·exact hx
   ·obtain ⟨b,off,e,_⟩:=hc hx;cases e
  subst hx;rw [run_convert_bytes_nil w 22 5 Tryz.underlying22 Tryz.underlying5 _ _ _ Tryz.underlying9]
  rfl
 | some a =>
  by_cases hx : xs = []
  ·subst hx
   obtain ⟨b,off,spot⟩:=a;rw [run_convert_bytes_string w 22 9 5 _ _ _ Tryz.underlying22 Tryz.underlying5 Tryz.underlying9];have hl0:=run_loadCells_list (P:=Tryz.prog) w ⟨b,off,spot⟩ [] (fun j u hj => by simp at hj);rw [List.length_nil] at *;rw [run_bytesToString w _ 0 cap [] (by simpa using hl0)]
   rfl
  ·obtain ⟨b,off,e,hcell⟩:=hc hx
   cases e
   exact run_convert_bytes_arg w 22 5 Tryz.underlying22 Tryz.underlying5 b off xs.length cap xs rfl hcell _ Tryz.underlying9
def QaY (t : ByteArray) (c : Nat) : Obj:=.cells (bytesRow t c) 5 ((bytesRow t c).size,(bytesRow t c).size + 1)
theorem Qcb (t : ByteArray) (W : World) : (convert 9 22 (.string t)).run Tryz.prog W = .ok (.slice (some ⟨W.heap.size,0,none⟩) t.size (grownCap W t.size 0 5)) (W.drew.alloc (QaY t (grownCap W t.size 0 5))) :=
 run_bytes_of_string (P:=Tryz.prog) W 9 22 5 t Tryz.underlying9 Tryz.underlying22 Tryz.underlying5
theorem QbO {W : World} {t : ByteArray} {b c : Nat} (h : W.heap[b]? = some (QaY t c)) (hc : t.size ≤ c) : Bs .u8 W (.slice (some ⟨b,0,none⟩) t.size c) (sb t):=by
 refine ⟨some _,_,by rw [QaB],by rw [QaB];omega,fun _ => ⟨b,0,rfl,fun j hj => ?_⟩⟩;rw [QaB] at hj
 have e : W.cell? ⟨b,0 + j,none⟩ = (bytesRow t c)[j]?:=by rw [Nat.zero_add];unfold World.cell?;simp only;rw [h];rfl
 rw [e];simp [bytesRow,Array.getElem?_append,hj,sb,List.getD_eq_getElem?_getD]
theorem Qaf {W : World} {k : Nat} {x o : Obj} (h : W.heap[k]? = some x) : (W.alloc o).heap[k]? = some x:=by
 have hk : k < W.heap.size:=by
  rcases Nat.lt_or_ge k W.heap.size with h' | h'
  ·exact h'
  ·rw [Array.getElem?_eq_none h'] at h;cases h
 show (W.heap.push o)[k]? = _
 rw [Array.getElem?_push,if_neg (by omega)];exact h
theorem Qak {W : World} {k : Nat} {o : Obj} (h : W.heap.size = k) : (W.alloc o).heap[k]? = some o:=by subst h;exact heap_alloc_new W o
theorem QbB {W : World} {k : Nat} {x : Obj} (h : W.heap[k]? = some x) : W.drew.heap[k]? = some x:=h
end Go.Proofs.YtcpopagikbjimaaGreatDoor
