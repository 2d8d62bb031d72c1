import Derived.Test.YtcpopagikbjimaaGreatDoorG13
namespace Go.Proofs.YtcpopagikbjimaaGreatDoor
set_option maxHeartbeats 3200000
set_option maxRecDepth 100000
open Go.RowKit
theorem QcW (ys : List Int) (hr : ∀ y ∈ ys,0 ≤ y ∧ y ≤ 255) {a : Int} {k : Nat} {c : Int} (hs : Qab ys = (a,k,c)) : rd 0 0 ys = (a,(k : Int),c) ∧ k ≤ ys.length:=by
 rcases QbR ys hr with ⟨c',h,hc⟩ | ⟨a',k',h,h1,h2,_,h4,_⟩
 ·rw [Qab,h] at hs
  simp only [Prod.mk.injEq] at hs;obtain ⟨rfl,rfl,rfl⟩:=hs;exact ⟨h,by simp⟩
 ·rw [Qab,h] at hs
  simp only [Prod.mk.injEq,Int.toNat_natCast] at hs;obtain ⟨rfl,rfl,rfl⟩:=hs;exact ⟨h,h2⟩
theorem Qgp (v : Int) (n k : Nat) (h : k < n) : (fixL v n).take (k + 1) = (fixL v n).take k ++ [fixB v (n - 1 - k)]:=by
 rw [QdJ (fixL v n) k (by rw [Qa7];exact h)]
 congr 2
 rw [List.getD_eq_getElem?_getD];simp [fixL,h]
theorem QhS (v : Int) (n : Nat) (w : World) (h : n ≤ 8) :
  Calls Tryz.prog 89 #[.int .u64 v,.int .i64 n] w fun e w' => ∃ u,e = .returned u ∧ w'.ownsRow w.heap.size 5 1 u (fixL v n).length ((fixL v n).map (Value.int .u8)) ∧ Only (fun _ => False) w w':=by
 obtain ⟨i0,hi,hz0,hz1,hz2⟩:=info_parts Tryz.infoU8
 have d0 : decide ((n : Int) < 0) = false:=by simp
 have d8 : decide (8 < (n : Int)) = false:=decide_eq_false (by omega);go_enter Tryz.func89,Tryz.ntmps89;go_wp2
 go_loopw [5,6] (fun o i wr => ∃ k : Nat,k ≤ n ∧ i = .int .i64 ((n : Int) - 1 - k) ∧ wr.ownsRow w.heap.size 5 1 o k (((fixL v n).map (Value.int .u8)).take k) ∧ Below w.heap.size w wr) (fun _ i _ => (intOf i + 1).toNat)
 case atStart => exact ⟨0,Nat.zero_le _,by go_num,World.ownsRow_nil _ _ _ _,Below.refl _ _⟩
 case round =>
  obtain ⟨k,hk,rfl,hown,hbel⟩:=hrel;have hsz:=hbel.size
  by_cases hlt : k < n
  ·have dk : decide (0 ≤ (n : Int) - 1 - (k : Int)) = true:=decide_eq_true (by omega)
   obtain ⟨j,hj⟩ : ∃ j : Nat,j = n - 1 - k:=⟨_,rfl⟩
   have ej : ((n : Int) - 1 - k) = (j : Int):=by omega
   have HJ:=Qaa hj;rw [ej] at dk;rw [ej]
   have hj7 : j ≤ 7:=by omega
   clear hj ej hk;go_wp2_with (at_builtin;refine wpList_append_lies _ rfl _ _ _ rfl w.heap.size 5 i0 (.int .u8 0) 1 1 Tryz.underlying22 hi hz0 hz1 hz2 rfl (by omega) _ k (((fixL v n).map (Value.int .u8)).take k) rfl (hown.alloc _) ⟨wr.heap.size,0,none⟩ 1 1 [.int .u8 (v / 2 ^ (8 * j) % 256)] rfl rfl ?c1 ?c2 (by omega) ?c3 ?c4 ?c5 (wr.heap.size + 1) (by simp) ?_)
   case c1 => exact cell_one_new _ _ _
   case c2 => intro u hu;simp at hu;subst hu;rfl
   case c3 => unfold maxLen;omega
   case c4 => omega
   case c5 => simp;omega
   intro g cap1 w1 hown1 hgrow hat hg1;have hb1 : Below w.heap.size w w1:=(hbel.alloc hbel.size _).grown hgrow (by simp;omega) (fun q hq => (hown.lt q hq).1)
   have hown2 : w1.ownsRow w.heap.size 5 1 (.slice (some ⟨g,0,none⟩) (k + 1) cap1) (k + 1) (((fixL v n).map (Value.int .u8)).take (k + 1)):=by
    rw [← List.map_take,Qgp v n k hlt,← HJ.out,List.map_append,List.map_take];exact hown1
   clear hown hown1 hgrow hat hbel;go_wp2
   go_roundw
   case rel => exact ⟨k + 1,by omega,by have:=HJ.out;go_num,hown2,hb1⟩
   case measure => have:=HJ.out;simp [intOf]
  ·have hkn : k = n:=by omega
   subst hkn;have dk : decide (0 ≤ (k : Int) - 1 - (k : Int)) = false:=decide_eq_false (by omega)
   have F : Hid (wr.ownsRow w.heap.size 5 1 u5 (fixL v k).length ((fixL v k).map (Value.int .u8)) ∧ Only (fun _ => False) w wr):=by
    rw [List.take_of_length_le (by rw [List.length_map,Qa7];omega)] at hown;rw [Qa7];exact ⟨hown,QaW hbel⟩
   clear hown hbel;go_wp2;go_ret;exact ⟨_,rfl,F.out⟩
theorem Qbu (vb : Value) (ys : List Int) (w : World) (hb : Bs .u8 w vb ys) (nb : NoCap vb) (hl : ys.length ≤ 1000000) :
  Calls Tryz.prog 34 #[vb] w fun e w' => ∃ v',e = .returned v' ∧ w'.ownsRow w.heap.size 5 1 v' (blk ys).length ((blk ys).map (Value.int .u8)) ∧ Only (fun _ => False) w w':=by
 obtain ⟨i0,hi,hz0,hz1,hz2⟩:=info_parts Tryz.infoU8;have HB:=Qaa hb;have NB:=Qaa nb;have A:=Qaa (Qbo (.slice none 0 0) [] ys.length w (Bs.nil _ _) NoCap.nil (by simp) (by omega) (by omega));rw [List.nil_append,Int.toNat_natCast] at A;have H10:=Qaa (Qa5 (v:=ys.length) (by omega));obtain ⟨ab,cb,rfl⟩:=hb.len;clear hb nb;go_enter Tryz.func34,Tryz.ntmps34;go_wp2_with fail;refine A.out.mono ?_;rintro e w1 ⟨v1,rfl,hown1,hon1⟩;have O1:=Qaa (And.intro hon1 (HB.out.later (hon1.low (Nat.le_refl _))));have hsz:=hon1.size;clear hon1 A;go_wp2_with (at_builtin;refine Qac _ rfl _ _ _ rfl w.heap.size 5 i0 (.int .u8 0) 1 Tryz.underlying22 hi hz0 hz1 hz2 rfl _ (gs ys.length).length ((gs ys.length).map (Value.int .u8)) rfl hown1 .u8 _ ys rfl O1.out.2 NB.out ?c3 ?c4 hsz ?_)
 case c3 => have:=H10.out;unfold maxLen;omega
 case c4 => have:=H10.out;omega
 intro v' w2 hown2 hgrow _ _
 have F : Hid (w2.ownsRow w.heap.size 5 1 v' (blk ys).length ((blk ys).map (Value.int .u8)) ∧ Only (fun _ => False) w w2):=by
  refine ⟨?_,O1.out.1.grown hgrow (fun k hk e => ?_)⟩
  ·rw [blk,List.length_append,List.map_append];exact hown2
  ·have:=(hown1.lt k e).1
   omega
 clear hown1 hown2 hgrow O1;go_wp2;go_ret;exact ⟨_,rfl,F.out⟩
theorem or4 (a b c d : Nat) (ha : a < 256) (hb : b < 256) (hc : c < 256) (hd : d < 256) :
  bits .or .u32 (bits .or .u32 (bits .or .u32 (IntKind.u32.wrap ((a : Int) * 16777216)) (IntKind.u32.wrap ((b : Int) * 65536))) (IntKind.u32.wrap ((c : Int) * 256))) (d : Int) = ((a * 16777216 + b * 65536 + c * 256 + d : Nat) : Int):=by
 rw [IntKind.wrap_u32',IntKind.wrap_u32',IntKind.wrap_u32',show (a : Int) * 16777216 % 4294967296 = ((a * 16777216 : Nat) : Int) by omega,show (b : Int) * 65536 % 4294967296 = ((b * 65536 : Nat) : Int) by omega,show (c : Int) * 256 % 4294967296 = ((c * 256 : Nat) : Int) by omega]
 have e1 : a * 16777216 ||| b * 65536 = a * 16777216 + b * 65536:=by
  have:=Nat.two_pow_add_eq_or_of_lt (i:=24) (b:=b * 65536) (by omega) a;rw [Nat.mul_comm a];exact this.symm
 have e2 : (a * 16777216 + b * 65536) ||| c * 256 = a * 16777216 + b * 65536 + c * 256:=by
  have:=Nat.two_pow_add_eq_or_of_lt (i:=16) (b:=c * 256) (by omega) (a * 256 + b);rw [show a * 16777216 + b * 65536 = 2 ^ 16 * (a * 256 + b) by omega];exact this.symm
 have e3 : (a * 16777216 + b * 65536 + c * 256) ||| d = a * 16777216 + b * 65536 + c * 256 + d:=by
  have:=Nat.two_pow_add_eq_or_of_lt (i:=8) (b:=d) (by omega) (a * 65536 + b * 256 + c);rw [show a * 16777216 + b * 65536 + c * 256 = 2 ^ 8 * (a * 65536 + b * 256 + c) by omega];exact this.symm
 rw [u32_or_nat _ _ (by omega) (by omega),e1,u32_or_nat _ _ (by omega) (by omega),e2,u32_or_nat _ _ (by omega) (by omega),e3]
theorem Qf5 (v : Value) (p : List Int) (w : World) (hb : Bs .u8 w v p) (hp : p.length = 64) (h8 : U8 p) (hv : ∀ k,v.ownBlock = some k → k < w.heap.size) :
  Calls Tryz.prog 183 #[v] w fun e w' => ∃ v',e = .returned v' ∧ w'.ownsRow w.heap.size 127 1 v' 64 (wl (wds p)) ∧ Only (fun _ => False) w w':=by
 obtain ⟨i0,hi,hz0,hz1,hz2⟩:=info_parts Tryz.infoU32;obtain ⟨ao,cap,e0,hcap,hr⟩:=hb;obtain ⟨bb,off,rfl,hcell⟩:=hr (by intro h;rw [h] at hp;cases hp);rw [hp] at e0 hcell;subst e0;have hbb : bb < w.heap.size:=hv bb rfl;have HC:=Qaa hcell;have H8:=Qaa h8
 have hcap' : 64 ≤ cap:=by omega
 clear hcell h8 hv hr
 obtain ⟨F,hF⟩ : ∃ F : Nat → List Value,F = fun t => wl ((List.range t).map (wd4 p)):=⟨_,rfl⟩
 have F0 : Hid (F 0 = []):=by rw [hF];exact rfl
 have FN : Hid (∀ t,F (t + 1) = F t ++ [((wd4 p t : Nat) : Int)].map (Value.int .u32)):=fun t => by
  rw [hF];simp only;rw [QcV,Qgk];rfl
 have F16 : Hid (F 16 = wl (wv p 16)):=by rw [hF];exact rfl
 obtain ⟨D,hD⟩ : ∃ D,D = wl (wds p):=⟨_,rfl⟩;rw [← hD];have HD:=Qaa hD;clear hF hD hp;go_enter Tryz.func183,Tryz.ntmps183;go_wp2
 go_loopw [3,4] (fun o i wr => ∃ t : Nat,t ≤ 16 ∧ i = .int .i64 t ∧ wr.ownsRow w.heap.size 127 1 o t (F t) ∧ Only (fun _ => False) w wr) (fun _ i _ => 16 - (intOf i).toNat)
 case atStart => exact ⟨0,by omega,rfl,by rw [F0.out];exact World.ownsRow_nil _ _ _ _,Only.refl _ _⟩
 case round =>
  obtain ⟨t,ht,rfl,hown,hon⟩:=hrel;obtain ⟨ao1,cap1,rfl⟩:=Qad hown;have hsz:=hon.size
  by_cases hlt : t < 16
  ·have hcw : ∀ j,j < 64 → wr.cell? ⟨bb,off + j,none⟩ = some (.int .u8 (p.getD j 0)):=fun j hj => by
    have:=HC.out j hj;rw [World.cell?_of_block (hon.block bb hbb (fun f => f))];exact this
   obtain ⟨a,ea,la⟩:=Qe8 H8.out (4 * t);obtain ⟨b,eb,lb⟩:=Qe8 H8.out (4 * t + 1);obtain ⟨c,ec,lc⟩:=Qe8 H8.out (4 * t + 2);obtain ⟨d,ed,ld⟩:=Qe8 H8.out (4 * t + 3);have c0:=hcw (4 * t) (by omega);have c1:=hcw (4 * t + 1) (by omega);have c2:=hcw (4 * t + 2) (by omega);have c3:=hcw (4 * t + 3) (by omega);rw [ea] at c0;rw [eb] at c1;rw [ec] at c2;rw [ed] at c3
   have hwd : wd4 p t = a * 16777216 + b * 65536 + c * 256 + d:=by unfold wd4;rw [ea,eb,ec,ed];rfl
   have HOR:=Qaa (or4 a b c d la lb lc ld);rw [← hwd] at HOR;have HFN:=Qaa (FN.out t);obtain ⟨k0,f0⟩ : ∃ k,k = 4 * t:=⟨_,rfl⟩;obtain ⟨k1,f1⟩ : ∃ k,k = 4 * t + 1:=⟨_,rfl⟩;obtain ⟨k2,f2⟩ : ∃ k,k = 4 * t + 2:=⟨_,rfl⟩;obtain ⟨k3,f3⟩ : ∃ k,k = 4 * t + 3:=⟨_,rfl⟩;rw [← f0] at c0;rw [← f1] at c1;rw [← f2] at c2;rw [← f3] at c3
   have g0 : 4 * (t : Int) = (k0 : Int):=by omega
   have g1 : (k0 : Int) + 1 = (k1 : Int):=by omega
   have g2 : (k0 : Int) + 2 = (k2 : Int):=by omega
   have g3 : (k0 : Int) + 3 = (k3 : Int):=by omega
   have m0 : (k0 : Int) < 64:=by omega
   have m1 : (k1 : Int) < 64:=by omega
   have m2 : (k2 : Int) < 64:=by omega
   have m3 : (k3 : Int) < 64:=by omega
   have r0 : IntKind.i64.wrap (k0 : Int) = (k0 : Int):=by rw [IntKind.wrap_i64];omega
   have r1 : IntKind.i64.wrap (k1 : Int) = (k1 : Int):=by rw [IntKind.wrap_i64];omega
   have r2 : IntKind.i64.wrap (k2 : Int) = (k2 : Int):=by rw [IntKind.wrap_i64];omega
   have r3 : IntKind.i64.wrap (k3 : Int) = (k3 : Int):=by rw [IntKind.wrap_i64];omega
   have u0 : IntKind.u32.wrap (a : Int) = (a : Int):=by rw [IntKind.wrap_u32'];omega
   have u1 : IntKind.u32.wrap (b : Int) = (b : Int):=by rw [IntKind.wrap_u32'];omega
   have u2 : IntKind.u32.wrap (c : Int) = (c : Int):=by rw [IntKind.wrap_u32'];omega
   have u3 : IntKind.u32.wrap (d : Int) = (d : Int):=by rw [IntKind.wrap_u32'];omega
   have NB : (Value.slice ao1 t cap1).ownBlock ≠ some bb:=fun e => by have:=hown.lt bb e;omega
   have KA : Hid (∀ W W4 : World,(W.cell? ⟨bb,off + k0,none⟩ = some (Value.int .u8 a) ∧ W.cell? ⟨bb,off + k1,none⟩ = some (Value.int .u8 b) ∧ W.cell? ⟨bb,off + k2,none⟩ = some (Value.int .u8 c) ∧ W.cell? ⟨bb,off + k3,none⟩ = some (Value.int .u8 d)) → W.grownBy W4 (Value.slice ao1 t cap1).ownBlock → (W4.cell? ⟨bb,off + k0,none⟩ = some (Value.int .u8 a) ∧ W4.cell? ⟨bb,off + k1,none⟩ = some (Value.int .u8 b) ∧ W4.cell? ⟨bb,off + k2,none⟩ = some (Value.int .u8 c) ∧ W4.cell? ⟨bb,off + k3,none⟩ = some (Value.int .u8 d))):=fun W W4 ⟨q0,q1,q2,q3⟩ hg => ⟨Qbg hg NB q0,Qbg hg NB q1,Qbg hg NB q2,Qbg hg NB q3⟩
   have HON:=Qaa hon;have HOWN:=Qaa hown;clear NB ea eb ec ed hwd f0 f1 f2 f3 hcw hon hown la lb lc ld;obtain ⟨X,hX⟩ : ∃ X,X = bits .or .u32 (bits .or .u32 (bits .or .u32 (IntKind.u32.wrap ((a : Int) * 16777216)) (IntKind.u32.wrap ((b : Int) * 65536))) (IntKind.u32.wrap ((c : Int) * 256))) (d : Int):=⟨_,rfl⟩;rw [← hX] at HOR;have hX':=hX.symm;have BL:=Qaa (Bs.litN .u32 wr 127 [X] _ _ rfl rfl);have OWA:=Qaa (HOWN.out.alloc (.cells #[.int .u32 X] 127));clear hX;go_wp2;go_region_held3 (fun W => W.cell? ⟨bb,off + k0,none⟩ = some (Value.int .u8 a) ∧ W.cell? ⟨bb,off + k1,none⟩ = some (Value.int .u8 b) ∧ W.cell? ⟨bb,off + k2,none⟩ = some (Value.int .u8 c) ∧ W.cell? ⟨bb,off + k3,none⟩ = some (Value.int .u8 d)) (first | go_keep | exact KA.out _ _ (by assumption) hgrow') (first | (refine Qav rfl (.tmp 14) (.tmp 48) 155 rfl w.heap.size 127 i0 (.int .u32 0) 4 Tryz.underlying155 hi hz0 hz1 hz2 rfl _ t (F t) rfl OWA.out .u32 _ [X] rfl BL.out (NoCap.some _ _ _) (by simp [maxLen];omega) (by simp;omega) (by simp;omega) ?_;intro v' w4 hown' hgrow'))
   have N1 : Hid (w4.ownsRow w.heap.size 127 1 v' (t + 1) (F (t + 1))):=by
    show _
    rw [HFN.out,← HOR.out];exact hown'
   have N2 : Hid (Only (fun _ => False) w w4):=((HON.out.alloc _).drew).grown hgrow' (fun k hk e => by have:=HOWN.out.lt k e;omega);clear hown' hgrow' KA BL OWA HOR hX' HOWN HON HFN
   go_simp
   go_wp2
   go_roundw
   case rel => exact ⟨t + 1,by omega,by go_num,N1.out,N2.out⟩
   case measure => simp [intOf];omega
  ·obtain rfl : t = 16:=by omega
   rw [F16.out] at hown;have HON:=Qaa hon;have HOWN:=Qaa hown;obtain ⟨W2,hW2⟩ : ∃ W2,W2 = wr:=⟨_,rfl⟩;subst hW2;clear hon hown F0 FN F16 HC;go_wp2
   go_loopw [3,5] (fun o i wr => ∃ t : Nat,16 ≤ t ∧ t ≤ 64 ∧ i = .int .i64 t ∧ wr.ownsRow w.heap.size 127 1 o t (wl (wv p t)) ∧ Only (fun _ => False) w wr) (fun _ i _ => 64 - (intOf i).toNat)
   case atStart => exact ⟨16,by omega,by omega,rfl,HOWN.out,HON.out⟩
   case round =>
    obtain ⟨t,ht1,ht2,rfl,hown,hon⟩:=hrel;clear HOWN HON
    obtain ⟨g,cap2,rfl⟩ : ∃ g cap2,u3 = .slice (some ⟨g,0,none⟩) t cap2:=by
     rcases hown.2 with ⟨_,h0⟩ | ⟨g,cap,cur,h,_⟩
     ·omega
     ·exact ⟨g,cap,h⟩
    have hsz3:=hon.size
    by_cases hlt : t < 64
    ·have hvl:=QhI p t ht1
     have hv32 : W32 (wv p t):=by
      have:=QhJ p H8.out (t - 16)
      rwa [show 16 + (t - 16) = t by omega] at this
     have hbs : Bs .u32 wr (.slice (some ⟨g,0,none⟩) t cap2) (wi (wv p t)):=Bs.of_own (by rw [Qa1,hvl,Qgn];exact hown)
     have hcell : ∀ k,k < t → wr.cell? ⟨g,k,none⟩ = some (.int .u32 (((wv p t).getD k 0 : Nat) : Int)):=fun k hk => by
      have:=QaC hbs k (by omega)
      rwa [Nat.zero_add] at this
     have hnx:=QfE (wv p t) t hvl;obtain ⟨a2,e2⟩ : ∃ a,a = (wv p t).getD (t - 2) 0:=⟨_,rfl⟩;obtain ⟨a7,e7⟩ : ∃ a,a = (wv p t).getD (t - 7) 0:=⟨_,rfl⟩;obtain ⟨a15,e15⟩ : ∃ a,a = (wv p t).getD (t - 15) 0:=⟨_,rfl⟩;obtain ⟨a16,e16⟩ : ∃ a,a = (wv p t).getD (t - 16) 0:=⟨_,rfl⟩;have c2:=hcell (t - 2) (by omega);have c7:=hcell (t - 7) (by omega);have c15:=hcell (t - 15) (by omega);have c16:=hcell (t - 16) (by omega);have b2:=hv32.at (t - 2);have b15:=hv32.at (t - 15);rw [← e2] at c2 b2;rw [← e7] at c7;rw [← e15] at c15 b15;rw [← e16] at c16;rw [← e2,← e7,← e15,← e16] at hnx;obtain ⟨k2,f2⟩ : ∃ k,k = t - 2:=⟨_,rfl⟩;obtain ⟨k7,f7⟩ : ∃ k,k = t - 7:=⟨_,rfl⟩;obtain ⟨k15,f15⟩ : ∃ k,k = t - 15:=⟨_,rfl⟩;obtain ⟨k16,f16⟩ : ∃ k,k = t - 16:=⟨_,rfl⟩;rw [← f2] at c2;rw [← f7] at c7;rw [← f15] at c15;rw [← f16] at c16
     have m2 : (k2 : Int) < (t : Int):=by omega
     have m7 : (k7 : Int) < (t : Int):=by omega
     have m15 : (k15 : Int) < (t : Int):=by omega
     have m16 : (k16 : Int) < (t : Int):=by omega
     have l2 : k2 < t:=by omega
     have l7 : k7 < t:=by omega
     have l15 : k15 < t:=by omega
     have l16 : k16 < t:=by omega
     have g2 : (t : Int) - 2 = (k2 : Int):=by omega
     have g7 : (t : Int) - 7 = (k7 : Int):=by omega
     have g15 : (t : Int) - 15 = (k15 : Int):=by omega
     have g16 : (t : Int) - 16 = (k16 : Int):=by omega
     have r7 : IntKind.i64.wrap (k7 : Int) = (k7 : Int):=by rw [IntKind.wrap_i64];omega
     have r16 : IntKind.i64.wrap (k16 : Int) = (k16 : Int):=by rw [IntKind.wrap_i64];omega
     have t3 : (t : Int) < 64:=by omega
     have A1:=Qaa (QbY a2 17 · b2 (by decide) (by decide));have A2:=Qaa (QbY a2 19 · b2 (by decide) (by decide));have A3:=Qaa (QbY a15 7 · b15 (by decide) (by decide));have A4:=Qaa (QbY a15 18 · b15 (by decide) (by decide));obtain ⟨s1,hs1⟩ : ∃ s1,s1 = sg1 a2:=⟨_,rfl⟩;obtain ⟨s0,hs0⟩ : ∃ s0,s0 = sg0 a15:=⟨_,rfl⟩;have p1:=Qhk a2 b2;have p0:=Qhj a15 b15;rw [← hs1] at p1 hnx;rw [← hs0] at p0 hnx;obtain ⟨X,hX⟩ : ∃ X,X = IntKind.u32.wrap (IntKind.u32.wrap (IntKind.u32.wrap ((s1 : Int) + a7) + s0) + a16):=⟨_,rfl⟩
     have HNX : Hid (wl (wv p (t + 1)) = wl (wv p t) ++ [X].map (Value.int .u32)):=by
      show _ = _
      rw [Qe2 p t ht1,Qgk,hX,sum4,hnx];rfl
     have BL:=Qaa (Bs.litN .u32 wr 127 [X] _ _ rfl rfl);have OWA:=Qaa (hown.alloc (.cells #[.int .u32 X] 127));have hX':=hX.symm;have HON3:=Qaa hon;have HOWN3:=Qaa hown
     have hcp : t ≤ cap2:=by
      rcases hown.2 with ⟨h,_⟩ | ⟨g',cap',cur',h,_,_,h2,_⟩
      ·cases h
      ·cases h;exact h2
     clear e2 e7 e15 e16 f2 f7 f15 f16 hcell hvl hv32 hbs hnx hs1 hs0 hX hon hown b2 b15;obtain ⟨VT,hVT⟩ : ∃ VT,VT = wl (wv p t):=⟨_,rfl⟩;rw [← hVT] at HNX OWA HOWN3;clear hVT;go_wp2_with fail;refine (A1.out _).mono ?_;rintro e w1 ⟨rfl,rfl⟩;go_wp2_with fail;refine (A2.out _).mono ?_;rintro e w1 ⟨rfl,rfl⟩;go_wp2_with fail;refine (A3.out _).mono ?_;rintro e w1 ⟨rfl,rfl⟩;go_wp2_with fail;refine (A4.out _).mono ?_;rintro e w1 ⟨rfl,rfl⟩;clear A1 A2 A3 A4;go_wp2
     go_region_law (refine Qav rfl (.tmp 80) (.tmp 96) 155 rfl w.heap.size 127 i0 (.int .u32 0) 4 Tryz.underlying155 hi hz0 hz1 hz2 rfl (.slice (some ⟨g,0,none⟩) t cap2) t VT rfl OWA.out .u32 _ [X] rfl BL.out (NoCap.some _ _ _) (by simp [maxLen];omega) (by simp;omega) (by simp;omega) ?_;intro v' w4 hown' hgrow')
     all_goals
      have N1 : Hid (w4.ownsRow w.heap.size 127 1 v' (t + 1) (wl (wv p (t + 1)))):=by
       show _
       rw [HNX.out];exact hown'
      have N2 : Hid (Only (fun _ => False) w w4):=((HON3.out.alloc _).drew).grown hgrow' (fun k hk e => by have:=HOWN3.out.lt k e;omega);clear hown' hgrow' BL OWA hX' HOWN3 HON3 HNX
      go_simp
      go_wp2
      go_roundw
      case rel => ((repeat apply Exists.intro);exact ⟨⟨t + 1,by omega,by omega,by go_num,N1.out,N2.out⟩,rfl⟩)
      case measure => simp [intOf];omega
    ·obtain rfl : t = 64:=by omega
     have E1 : Hid (wr.ownsRow w.heap.size 127 1 (.slice (some ⟨g,0,none⟩) 64 cap2) 64 D):=by
      show _
      rw [HD.out,← QjB];exact hown
     have E2:=Qaa hon;clear hown hon;go_wp2;go_ret;exact ⟨_,rfl,E1.out,E2.out⟩
theorem Qc4 (x n : Nat) (w : World) (hx : x < 4294967296) (h1 : 1 ≤ n) (h2 : n ≤ 31) : Calls Tryz.prog 184 #[.int .u32 x,.int .u64 n] w fun e w' => e = .returned (.int .u32 (rotw x n : Nat)) ∧ w' = w:=(QbY x n w hx h1 h2).mono fun _ _ ⟨h1,h2⟩ => ⟨h1,h2.symm⟩
theorem Qf6 (s : List Nat) (b : List Int) : thru s b = (List.range 8).map fun i => (s.getD i 0 + (rnds s (wds b) 64).getD i 0) % 4294967296:=rfl
theorem Qkb {w : World} {v : Value} {s : List Nat} (h : Bs .u32 w v (wi s)) (hs : 0 < s.length) : ∃ g off cap,v = .slice (some ⟨g,off,none⟩) s.length cap ∧ s.length ≤ cap:=by
 obtain ⟨ao,cap,rfl,hc,hr⟩:=h;obtain ⟨b,off,rfl,_⟩:=hr (by intro h;have:=congrArg List.length h;rw [Qa1] at this;simp at this;rw [this] at hs;simp at hs);exact ⟨b,off,cap,by rw [Qa1],by rw [← Qa1];exact hc⟩
theorem Qec (gs os cs : Nat) (vb : Value) (gk ok ck : Nat) (s : List Nat) (p : List Int) (w : World) (hbs : Bs .u32 w (.slice (some ⟨gs,os,none⟩) 8 cs) (wi s)) (hs : s.length = 8) (hw : W32 s)
  (hb : Bs .u8 w vb p) (hp : p.length = 64) (h8 : U8 p) (hv : ∀ k,vb.ownBlock = some k → k < w.heap.size) (hbk : Bs .u32 w (.slice (some ⟨gk,ok,none⟩) 64 ck) (wi shK)) :
  Calls Tryz.prog 131 #[.slice (some ⟨gs,os,none⟩) 8 cs,vb,.slice (some ⟨gk,ok,none⟩) 64 ck] w fun e w' => ∃ v',e = .returned v' ∧ w'.ownsRow w.heap.size 127 1 v' 8 (wl (thru s p)) ∧ Only (fun _ => False) w w':=by
 obtain ⟨i0,hi,hz0,hz1,hz2⟩:=info_parts Tryz.infoU32;have RW:=Qaa (Qf5 vb p w hb hp h8 hv);obtain ⟨aob,cb,eb⟩:=hb.len;rw [hp] at eb;subst eb;obtain ⟨W,hW⟩ : ∃ W,W = wds p:=⟨_,rfl⟩
 have hWl : W.length = 64:=by rw [hW];exact Qcc p
 have hTR:=Qf6 s p;obtain ⟨T,hT⟩ : ∃ T,T = thru s p:=⟨_,rfl⟩;rw [← hW] at RW hTR;rw [← hT] at hTR ⊢;have HS:=Qaa (And.intro hs (And.intro hw (And.intro hWl hTR)));have HB:=Qaa (And.intro hbs hbk)
 have hsc : 8 ≤ cs:=by obtain ⟨_,_,e,h,_⟩:=hbs;simp at e;obtain ⟨_,_,rfl⟩:=e;rw [Qa1,hs] at h;exact h
 have hkc : 64 ≤ ck:=by obtain ⟨_,_,e,h,_⟩:=hbk;simp at e;obtain ⟨_,_,rfl⟩:=e;rw [Qa1] at h;exact h
 clear hbs hs hw hb hp h8 hv hbk hW hWl hTR hT;go_enter Tryz.func131,Tryz.ntmps131;go_wp2_with fail;refine RW.out.mono ?_;rintro e w1 ⟨vw,rfl,own1,on1⟩
 obtain ⟨gw,cw,hgw⟩ : ∃ g cap,vw = .slice (some ⟨g,0,none⟩) 64 cap:=by
  rcases own1.2 with ⟨_,h0⟩ | ⟨g,cap,cur,h,_⟩
  ·omega
  ·exact ⟨g,cap,h⟩
 subst hgw;have bw1 : Bs .u32 w1 (.slice (some ⟨gw,0,none⟩) 64 cw) (wi W):=Bs.of_own (by rw [Qa1,HS.out.2.2.1,Qgn];exact own1)
 have hcw : 64 ≤ cw:=by obtain ⟨_,_,e,h,_⟩:=bw1;simp at e;obtain ⟨_,_,rfl⟩:=e;rw [Qa1,HS.out.2.2.1] at h;exact h
 have ho:=World.ownsRow_made (base:=w1.heap.size) (e:=127) (size:=1) w1 #[] 0 (Nat.le_refl _) (by unfold maxLen;omega) rfl;have HBS:=Qaa (HB.out.1.past (on1.alloc (.cells #[] 127)))
 have SL : Hid ((wi s).length = 8):=by rw [Qa1];exact HS.out.1
 have B1:=Qaa (And.intro bw1 on1);clear own1 on1 bw1 RW;go_wp2_with (at_builtin;refine Qac _ rfl _ _ 155 rfl w1.heap.size 127 i0 (.int .u32 0) 4 Tryz.underlying155 hi hz0 hz1 hz2 rfl (.slice (some ⟨w1.heap.size,0,none⟩) 0 0) 0 [] rfl ho .u32 (.slice (some ⟨gs,os,none⟩) 8 cs) (wi s) rfl HBS.out (NoCap.some _ _ _) (by rw [SL.out];unfold maxLen;omega) (by rw [SL.out];omega) (by simp) ?_;intro v2 w2 hown2 hgrow2 hnil2 hob2);have on2 : Only (fun _ => False) w1 w2:=((Only.refl _ _).alloc _).grown hgrow2 (fun k hk e => by simp [Value.ownBlock] at e;omega);have b2 : Bs .u32 w2 v2 (wi s):=Bs.of_own (by have:=hown2;rw [Nat.zero_add,List.nil_append] at this;exact this);obtain ⟨g2,o2,c2,e2,hc2⟩:=Qkb b2 (by rw [HS.out.1];decide);rw [HS.out.1] at e2 hc2;subst e2;have ST:=Qaa (And.intro b2 (And.intro (B1.out.1.past on2) (B1.out.2.same on2)));have XX:=Qaa (getD8 s HS.out.1);clear hown2 hgrow2 hnil2 hob2 on2 b2 B1 HBS ho SL;go_wp2
 go_loopw [8,9] (fun o i wr => ∃ (t g off cap y0 y1 y2 y3 y4 y5 y6 y7 : Nat),t ≤ 64 ∧ i = .int .i64 t ∧ o = .slice (some ⟨g,off,none⟩) 8 cap ∧ 8 ≤ cap ∧ [y0,y1,y2,y3,y4,y5,y6,y7] = rnds s W t ∧ Bs .u32 wr (.slice (some ⟨g,off,none⟩) 8 cap) (wi [y0,y1,y2,y3,y4,y5,y6,y7]) ∧ Bs .u32 wr (.slice (some ⟨gw,0,none⟩) 64 cw) (wi W) ∧ Only (fun _ => False) w wr) (fun _ i _ => 64 - (intOf i).toNat)
 case atStart => exact ⟨0,g2,o2,c2,_,_,_,_,_,_,_,_,by omega,rfl,rfl,hc2,XX.out.symm,by have:=ST.out.1;rw [XX.out] at this;exact this,ST.out.2.1,ST.out.2.2⟩
 case round =>
  obtain ⟨t,g,off,cap,y0,y1,y2,y3,y4,y5,y6,y7,ht,rfl,rfl,hcap,hr,hby,hbw,hon⟩:=hrel;have HR:=Qaa hr;clear hr ST XX
  by_cases hlt : t < 64
  ·have hw32 : W32 [y0,y1,y2,y3,y4,y5,y6,y7]:=by rw [HR.out];exact QfC _ _ HS.out.2.1 _
   have b0:=hw32.at 0;have b1:=hw32.at 1;have b2:=hw32.at 2;have b4:=hw32.at 4;have b5:=hw32.at 5;have b6:=hw32.at 6
   change y0 < _ at b0
   change y1 < _ at b1
   change y2 < _ at b2
   change y4 < _ at b4
   change y5 < _ at b5
   change y6 < _ at b6
   obtain ⟨k,hk⟩ : ∃ k,k = shK.getD t 0:=⟨_,rfl⟩;obtain ⟨x,hx⟩ : ∃ x,x = W.getD t 0:=⟨_,rfl⟩
   have hcx : wr.cell? ⟨gw,t,none⟩ = some (.int .u32 (x : Int)):=by
    have:=QaC hbw t (by rw [HS.out.2.2.1];exact hlt);rw [Nat.zero_add,← hx] at this;exact this
   have hck' : wr.cell? ⟨gk,ok + t,none⟩ = some (.int .u32 (k : Int)):=by
    have:=QaC (HB.out.2.past hon) t hlt;rw [← hk] at this;exact this
   have d0 : wr.cell? ⟨g,off,none⟩ = some (.int .u32 (y0 : Int)):=QaC hby 0 (Nat.zero_lt_succ _);have d1 : wr.cell? ⟨g,off + 1,none⟩ = some (.int .u32 (y1 : Int)):=QaC hby 1 (by show 1 < 8;decide);have d2 : wr.cell? ⟨g,off + 2,none⟩ = some (.int .u32 (y2 : Int)):=QaC hby 2 (by show 2 < 8;decide);have d3 : wr.cell? ⟨g,off + 3,none⟩ = some (.int .u32 (y3 : Int)):=QaC hby 3 (by show 3 < 8;decide);have d4 : wr.cell? ⟨g,off + 4,none⟩ = some (.int .u32 (y4 : Int)):=QaC hby 4 (by show 4 < 8;decide);have d5 : wr.cell? ⟨g,off + 5,none⟩ = some (.int .u32 (y5 : Int)):=QaC hby 5 (by show 5 < 8;decide);have d6 : wr.cell? ⟨g,off + 6,none⟩ = some (.int .u32 (y6 : Int)):=QaC hby 6 (by show 6 < 8;decide);have d7 : wr.cell? ⟨g,off + 7,none⟩ = some (.int .u32 (y7 : Int)):=QaC hby 7 (by show 7 < 8;decide)
   have hnx : rnds s W (t + 1) = rnd [y0,y1,y2,y3,y4,y5,y6,y7] k x:=by rw [QcQ,← HR.out,← hk,← hx]
   rw [rnd_t] at hnx;obtain ⟨ny,hny⟩ : ∃ ny,ny = 4294967295 - y4:=⟨_,rfl⟩;have hs1 : IntKind.u32.signed = false:=rfl;have hs2 : IntKind.u32.max = 4294967295:=rfl
   have hs3 : bits .xor .u32 4294967295 (y4 : Int) = (ny : Int):=by rw [QfF y4 b4,hny]
   obtain ⟨ch,hch⟩ : ∃ ch,ch = chw y4 y5 y6:=⟨_,rfl⟩;obtain ⟨mj,hmj⟩ : ∃ mj,mj = majw y0 y1 y2:=⟨_,rfl⟩;obtain ⟨g1,hg1⟩ : ∃ g1,g1 = Sg1 y4:=⟨_,rfl⟩;obtain ⟨g0,hg0⟩ : ∃ g0,g0 = Sg0 y0:=⟨_,rfl⟩;obtain ⟨T1,hT1⟩ : ∃ T1,T1 = (y7 + g1 + ch + k + x) % 4294967296:=⟨_,rfl⟩;obtain ⟨T2,hT2⟩ : ∃ T2,T2 = (g0 + mj) % 4294967296:=⟨_,rfl⟩;obtain ⟨n0,hn0⟩ : ∃ n0,n0 = (T1 + T2) % 4294967296:=⟨_,rfl⟩;obtain ⟨n4,hn4⟩ : ∃ n4,n4 = (y3 + T1) % 4294967296:=⟨_,rfl⟩
   have NX : Hid (rnds s W (t + 1) = [n0,y0,y1,y2,n4,y4,y5,y6]):=by
    show _ = _
    rw [hnx];simp only [t1w,t2w,List.getD_cons_zero,List.getD_cons_succ];rw [← hch,← hmj,← hg1,← hg0,← hT1,← hT2,← hn0,← hn4]
   have q1:=Qhm y4 b4;have q0:=Qhl y0 b0;rw [← hg1] at q1;rw [← hg0] at q0
   have p1 : bits .xor .u32 (bits .and .u32 (y4 : Int) (y5 : Int)) (bits .and .u32 (ny : Int) (y6 : Int)) = (ch : Int):=by rw [hny,hch,QjA y4 y5 y6 b4 b5 b6]
   have p2 : bits .xor .u32 (bits .xor .u32 (bits .and .u32 (y0 : Int) (y1 : Int)) (bits .and .u32 (y0 : Int) (y2 : Int))) (bits .and .u32 (y1 : Int) (y2 : Int)) = (mj : Int):=by rw [hmj,QhA y0 y1 y2 b0 b1 b2]
   have p3 : IntKind.u32.wrap (IntKind.u32.wrap (IntKind.u32.wrap (IntKind.u32.wrap ((y7 : Int) + g1) + ch) + k) + x) = (T1 : Int):=by rw [sum5,hT1]
   have p4 : IntKind.u32.wrap ((g0 : Int) + mj) = (T2 : Int):=by rw [sum2,hT2]
   have p5 : IntKind.u32.wrap ((T1 : Int) + T2) = (n0 : Int):=by rw [sum2,hn0]
   have p6 : IntKind.u32.wrap ((y3 : Int) + T1) = (n4 : Int):=by rw [sum2,hn4]
   have p7 : ((g0 : Int) + mj) % 4294967296 = (T2 : Int):=by rw [hT2];omega
   have p8 : (((y7 : Int) + g1 + ch + k) % 4294967296 + x) % 4294967296 = (T1 : Int):=by rw [hT1];omega
   have j0 : (0 : Int) ≤ (t : Int):=by omega
   have j1 : (t : Int) < 64:=by omega
   have BB4:=Qaa b4;have BB0:=Qaa b0;have KP:=Qaa (And.intro hby (And.intro hbw hon));clear hny hch hmj hg1 hg0 hT1 hT2 hn0 hn4 hk hx hw32 hnx b0 b1 b2 b4 b5 b6 hby hbw hon;go_wp2_with fail;go_quiet (first | ((go_at_call_of 184 (6 : Int);exact Calls.quiet_of_same (Qc4 y4 6 _ BB4.out (by decide) (by decide)))) | ((go_at_call_of 184 (11 : Int);exact Calls.quiet_of_same (Qc4 y4 11 _ BB4.out (by decide) (by decide)))) | ((go_at_call_of 184 (25 : Int);exact Calls.quiet_of_same (Qc4 y4 25 _ BB4.out (by decide) (by decide)))));obtain ⟨W3,hW3⟩ : ∃ W3,W3 = wr.drewN nq:=⟨_,rfl⟩
   have f0 : W3.cell? ⟨g,off,none⟩ = some (.int .u32 (y0 : Int)):=by rw [hW3];exact d0
   have f1 : W3.cell? ⟨g,off + 1,none⟩ = some (.int .u32 (y1 : Int)):=by rw [hW3];exact d1
   have f2 : W3.cell? ⟨g,off + 2,none⟩ = some (.int .u32 (y2 : Int)):=by rw [hW3];exact d2
   have f3 : W3.cell? ⟨g,off + 3,none⟩ = some (.int .u32 (y3 : Int)):=by rw [hW3];exact d3
   have f4 : W3.cell? ⟨g,off + 4,none⟩ = some (.int .u32 (y4 : Int)):=by rw [hW3];exact d4
   have f5 : W3.cell? ⟨g,off + 5,none⟩ = some (.int .u32 (y5 : Int)):=by rw [hW3];exact d5
   have f6 : W3.cell? ⟨g,off + 6,none⟩ = some (.int .u32 (y6 : Int)):=by rw [hW3];exact d6
   have f7 : W3.cell? ⟨g,off + 7,none⟩ = some (.int .u32 (y7 : Int)):=by rw [hW3];exact d7
   rw [← hW3]
   have O3 : Hid (Only (fun _ => False) wr W3):=by rw [hW3];exact (Only.refl _ _).drewN nq
   clear d0 d1 d2 d3 d4 d5 d6 d7 hcx hck' hW3;go_wp2;go_quiet (first | ((go_at_call_of 184 (2 : Int);exact Calls.quiet_of_same (Qc4 y0 2 _ BB0.out (by decide) (by decide)))) | ((go_at_call_of 184 (13 : Int);exact Calls.quiet_of_same (Qc4 y0 13 _ BB0.out (by decide) (by decide)))) | ((go_at_call_of 184 (22 : Int);exact Calls.quiet_of_same (Qc4 y0 22 _ BB0.out (by decide) (by decide)))));obtain ⟨W4,hW4⟩ : ∃ W4,W4 = W3.drewN nq:=⟨_,rfl⟩
   have z0 : W4.cell? ⟨g,off,none⟩ = some (.int .u32 (y0 : Int)):=by rw [hW4];exact f0
   have i1 : W4.cell? ⟨g,off + 1,none⟩ = some (.int .u32 (y1 : Int)):=by rw [hW4];exact f1
   have i2 : W4.cell? ⟨g,off + 2,none⟩ = some (.int .u32 (y2 : Int)):=by rw [hW4];exact f2
   have i3 : W4.cell? ⟨g,off + 3,none⟩ = some (.int .u32 (y3 : Int)):=by rw [hW4];exact f3
   have i4 : W4.cell? ⟨g,off + 4,none⟩ = some (.int .u32 (y4 : Int)):=by rw [hW4];exact f4
   have i5 : W4.cell? ⟨g,off + 5,none⟩ = some (.int .u32 (y5 : Int)):=by rw [hW4];exact f5
   have i6 : W4.cell? ⟨g,off + 6,none⟩ = some (.int .u32 (y6 : Int)):=by rw [hW4];exact f6
   have i7 : W4.cell? ⟨g,off + 7,none⟩ = some (.int .u32 (y7 : Int)):=by rw [hW4];exact f7
   rw [← hW4]
   have O4 : Hid (Only (fun _ => False) wr W4):=by rw [hW4];exact O3.out.drewN _
   clear f0 f1 f2 f3 f4 f5 f6 f7 hW4;have KB:=Qaa (Bs.litN .u32 W4 127 (wi [n0,y0,y1,y2,n4,y4,y5,y6]) _ 8 rfl rfl);go_wp2;go_region_held3 (fun W => W.cell? ⟨g,off,none⟩ = some (Value.int .u32 y0) ∧ W.cell? ⟨g,off + 1,none⟩ = some (Value.int .u32 y1) ∧ W.cell? ⟨g,off + 2,none⟩ = some (Value.int .u32 y2) ∧ W.cell? ⟨g,off + 3,none⟩ = some (Value.int .u32 y3) ∧ W.cell? ⟨g,off + 4,none⟩ = some (Value.int .u32 y4) ∧ W.cell? ⟨g,off + 5,none⟩ = some (Value.int .u32 y5) ∧ W.cell? ⟨g,off + 6,none⟩ = some (Value.int .u32 y6)) (go_keep) (fail);have KO : Hid (Only (fun _ => False) wr (W4.alloc (.cells #[.int .u32 n0,.int .u32 y0,.int .u32 y1,.int .u32 y2,.int .u32 n4,.int .u32 y4,.int .u32 y5,.int .u32 y6] 127)).drew):=(O4.out.alloc _).drew
   go_simp
   go_wp2
   go_roundw
   case rel => exact ⟨t + 1,W4.heap.size,0,8,n0,y0,y1,y2,n4,y4,y5,y6,by omega,by go_num,rfl,Nat.le_refl _,NX.out.symm,KB.out.past (Only.refl _ _).drew,KP.out.2.1.past KO.out,KP.out.2.2.same KO.out⟩
   case measure => simp [intOf];omega
  ·obtain rfl : t = 64:=by omega
   obtain ⟨r,hr⟩ : ∃ r,r = [y0,y1,y2,y3,y4,y5,y6,y7]:=⟨_,rfl⟩
   have hrl : r.length = 8:=by rw [hr];rfl
   rw [← hr] at HR hby
   obtain ⟨F,hF⟩ : ∃ F : Nat → List Value,F = fun j => wl ((List.range j).map fun i => (s.getD i 0 + r.getD i 0) % 4294967296):=⟨_,rfl⟩
   have F0 : Hid (F 0 = []):=by rw [hF];exact rfl
   have FN : Hid (∀ j,F (j + 1) = F j ++ [(((s.getD j 0 + r.getD j 0) % 4294967296 : Nat) : Int)].map (Value.int .u32)):=fun j => by
    rw [hF];simp only;rw [QcV,Qgk];rfl
   have F8 : Hid (F 8 = wl T):=by
    show _ = _
    rw [hF,HS.out.2.2.2,HR.out]
   have KP:=Qaa (And.intro (HB.out.1.past hon) (And.intro hby hon));obtain ⟨W5,hW5⟩ : ∃ W5,W5 = wr:=⟨_,rfl⟩;subst hW5;have hsz0:=hon.size;clear hr hF hby hbw hon HR HB;go_wp2
   go_loopw [14,15] (fun o i wr => ∃ j : Nat,j ≤ 8 ∧ i = .int .i64 j ∧ wr.ownsRow W5.heap.size 127 1 o j (F j) ∧ Only (fun _ => False) W5 wr) (fun _ i _ => 8 - (intOf i).toNat)
   case atStart => exact ⟨0,by omega,rfl,by rw [F0.out];exact World.ownsRow_nil _ _ _ _,Only.refl _ _⟩
   case round =>
    obtain ⟨j,hj,rfl,hown,hon⟩:=hrel;obtain ⟨ao1,cap1,rfl⟩:=Qad hown;have hsz:=hon.size
    by_cases hlt : j < 8
    ·obtain ⟨a,ha⟩ : ∃ a,a = s.getD j 0:=⟨_,rfl⟩
     obtain ⟨b,hb⟩ : ∃ b,b = r.getD j 0:=⟨_,rfl⟩
     have ca : wr.cell? ⟨gs,os + j,none⟩ = some (.int .u32 (a : Int)):=by
      have:=QaC (KP.out.1.past hon) j (by rw [HS.out.1];exact hlt);rw [← ha] at this;exact this
     have cbb : wr.cell? ⟨g,off + j,none⟩ = some (.int .u32 (b : Int)):=by
      have:=QaC (KP.out.2.1.past hon) j (by rw [hrl];exact hlt);rw [← hb] at this;exact this
     obtain ⟨X,hX⟩ : ∃ X,X = IntKind.u32.wrap ((a : Int) + b):=⟨_,rfl⟩
     have HFN : Hid (F (j + 1) = F j ++ [X].map (Value.int .u32)):=by
      show _ = _
      rw [FN.out j,hX,sum2,← ha,← hb]
     have BL:=Qaa (Bs.litN .u32 wr 127 [X] _ _ rfl rfl);have OWA:=Qaa (hown.alloc (.cells #[.int .u32 X] 127));have hX':=hX.symm;have HON:=Qaa hon;have HOWN:=Qaa hown
     have j0 : (0 : Int) ≤ (j : Int):=by omega
     have j1 : (j : Int) < 8:=by omega
     clear ha hb hX hon hown;go_wp2
     go_region_law (refine Qav rfl (.tmp 125) (.tmp 135) 155 rfl W5.heap.size 127 i0 (.int .u32 0) 4 Tryz.underlying155 hi hz0 hz1 hz2 rfl (.slice ao1 j cap1) j (F j) rfl OWA.out .u32 _ [X] rfl BL.out (NoCap.some _ _ _) (by simp [maxLen];omega) (by simp;omega) (by simp;omega) ?_;intro v' w4 hown' hgrow')
     all_goals
      have N1 : Hid (w4.ownsRow W5.heap.size 127 1 v' (j + 1) (F (j + 1))):=by
       show _
       rw [HFN.out];exact hown'
      have N2 : Hid (Only (fun _ => False) W5 w4):=((HON.out.alloc _).drew).grown hgrow' (fun k hk e => by have:=HOWN.out.lt k e;omega);clear hown' hgrow' BL OWA hX' HOWN HON HFN
      go_simp
      go_wp2
      go_roundw
      case rel => ((repeat apply Exists.intro);exact ⟨⟨j + 1,by omega,by go_num,N1.out,N2.out⟩,rfl⟩)
      case measure => simp [intOf];omega
    ·obtain rfl : j = 8:=by omega
     rw [F8.out] at hown;have E1:=Qaa (Qal hown hsz0);have E2:=Qaa (KP.out.2.2.same hon);clear hown hon;go_wp2;go_ret;exact ⟨_,rfl,E1.out,E2.out⟩
theorem Qkd {b : List Int} (j : Nat) : W32 (thrus shH b j) ∧ (thrus shH b j).length = 8:=⟨Qhz b j,QbC b j⟩
theorem Qke {b : List Int} (h : U8 b) : U8 (padS b):=h.app (Qc0 _)
theorem Qdx (v : Value) (xs : List Int) (w : World) (hb : Bs .u8 w v xs) (nc : NoCap v) (h8 : U8 xs) (hl : xs.length ≤ 1000000) :
  Calls Tryz.prog 92 #[v] w fun e w' => ∃ v',e = .returned v' ∧ w'.ownsRow w.heap.size 5 1 v' 32 ((SHA xs).map (Value.int .u8)) ∧ Only (fun _ => False) w w':=by
 obtain ⟨i0,hi,hz0,hz1,hz2⟩:=info_parts Tryz.infoU8;have A:=Qaa (Qf1 w);have P8:=Qke h8;have hmod:=QiY xs;have hplen:=QdA xs;have hzl:=Qdd xs.length;obtain ⟨P,hP⟩ : ∃ P,P = padS xs:=⟨_,rfl⟩;obtain ⟨q,hq⟩ : ∃ q,q = P.length / 64:=⟨_,rfl⟩
 have hSH : SHA xs = (thrus shH P q).flatMap be4:=by rw [hq,hP];rfl
 rw [← hP] at P8 hmod hplen
 have hPl : P.length = 64 * q:=by omega
 have hq1 : q ≤ 1000000:=by omega
 have B:=Qaa (fun w1 (o : Only (fun _ => False) w w1) => Qf2 v xs w1 (hb.past o) nc (by omega));rw [← hP] at B;obtain ⟨ao,cap,hv⟩:=hb.len;subst hv;rw [hSH];have HP:=Qaa (And.intro P8 hPl);rw [hPl] at B;clear hP hq hmod hplen hzl hb nc h8 hSH P8 hPl;go_enter Tryz.func92,Tryz.ntmps92;go_wp2_with fail;refine A.out.mono ?_;rintro e w1 ⟨rfl,bk,bh,on1⟩;have C:=Qaa (B.out w1 on1);have H1:=Qaa (And.intro bk (And.intro bh on1));clear A bk bh on1 B;go_wp2_with fail;refine C.out.mono ?_;rintro e w2 ⟨vp,rfl,own2,on2⟩
 have hst : Bs .u8 w2 vp P ∧ Bs .u32 w2 (.slice (some ⟨w.heap.size,0,none⟩) 64 64) (wi shK) ∧ Bs .u32 w2 (.slice (some ⟨w.heap.size + 1,0,none⟩) 8 8) (wi shH) ∧ Only (fun _ => False) w w2 :=
  ⟨Bs.of_own (by rw [HP.out.2];exact own2),Bs.of_wl (H1.out.1.past on2) 64 rfl,Bs.of_wl (H1.out.2.1.past on2) 8 rfl,H1.out.2.2.same on2⟩
 obtain ⟨aop,cp,hvp⟩:=Qad own2;subst hvp
 have hcp : 64 * q ≤ cp:=by
  obtain ⟨_,_,e,h,_⟩:=hst.1;simp at e;obtain ⟨_,_,rfl⟩:=e;rw [HP.out.2] at h;exact h
 have hlow : ∀ k,(Value.slice aop (64 * q) cp).ownBlock = some k → k < w2.heap.size:=fun k hk => (own2.lt k hk).2
 have HST:=Qaa hst;have HLOW:=Qaa hlow;clear C H1 hst own2 on2 hlow;obtain ⟨N,hN⟩ : ∃ N,N = w.heap.size:=⟨_,rfl⟩;rw [← hN] at HST ⊢;have HN:=Qaa hN;clear hN;obtain ⟨PL,hPL⟩ : ∃ PL,PL = 64 * q:=⟨_,rfl⟩;rw [← hPL] at HST HLOW hcp ⊢;have HPL:=Qaa hPL
 have hPLb : PL ≤ 64000000:=by omega
 clear hPL;go_wp2
 go_loopw [4,6] (fun o i wr => ∃ (j g off cap : Nat),j ≤ q ∧ i = .int .i64 ((64 * j : Nat) : Int) ∧ o = .slice (some ⟨g,off,none⟩) 8 cap ∧ 8 ≤ cap ∧ Bs .u32 wr (.slice (some ⟨g,off,none⟩) 8 cap) (wi (thrus shH P j)) ∧ Only (fun _ => False) w2 wr) (fun _ i _ => PL - (intOf i).toNat)
 case atStart => exact ⟨0,N + 1,0,8,Nat.zero_le _,rfl,rfl,Nat.le_refl _,HST.out.2.2.1,Only.refl _ _⟩
 case round =>
  obtain ⟨j,g,off,cap4,hj,rfl,rfl,hcap4,hbt,hon⟩:=hrel;obtain ⟨m,hm⟩ : ∃ m,m = 64 * j:=⟨_,rfl⟩;rw [← hm]
  by_cases hlt : j < q
  ·have hmP : m + 64 ≤ PL:=by rw [HPL.out];omega
   have bP:=HST.out.1.past hon
   obtain ⟨bp,op',rfl,_⟩ : ∃ b o,aop = some ⟨b,o,none⟩ ∧ True:=by
    obtain ⟨_,_,e,_,hr⟩:=bP;simp at e;obtain ⟨rfl,_,_⟩:=e;obtain ⟨b,o,h,_⟩:=hr (by intro h;have h2:=HP.out.2;rw [h] at h2;simp at h2;omega);exact ⟨b,o,h,trivial⟩
   have bC : Bs .u8 wr (.slice (some ⟨bp,op' + m,none⟩) 64 (cp - m)) ((P.drop m).take 64):=by
    have:=(bP.cut (n:=m) (by omega)).head (n:=64) (by omega);rw [Option.map_some,Addr.add_mid] at this;exact this
   have hdl : ((P.drop m).take 64).length = 64:=by rw [List.length_take,List.length_drop,HP.out.2];have:=HPL.out;omega
   have hlo : ∀ k,(Value.slice (some ⟨bp,op' + m,none⟩) 64 (cp - m)).ownBlock = some k → k < wr.heap.size:=fun k hk => by
    have:=HLOW.out k (by simpa [Value.ownBlock] using hk);have:=hon.size;omega
   have tw:=Qkd (b:=P) j;have TC:=Qaa (Qec g off cap4 (.slice (some ⟨bp,op' + m,none⟩) 64 (cp - m)) N 0 64 (thrus shH P j) ((P.drop m).take 64) wr hbt tw.2 tw.1 bC hdl ((HP.out.1.drop _).take _) hlo (HST.out.2.1.past hon));rw [hm,← QaZ,← hm] at TC;have HON:=Qaa hon;have HM : Hid (m = 64 * j ∧ j < q):=⟨hm,hlt⟩
   have e1 : (m : Int) + 64 ≤ (cp : Int):=by omega
   have e2 : ¬ cp = m:=by omega
   have e3 : (m : Int) < (PL : Int):=by omega
   clear hbt hon bP bC hdl hlo tw hm hlt hj;go_wp2_with fail;refine TC.out.mono ?_;rintro e w3 ⟨v3,rfl,own3,on3⟩
   obtain ⟨g3,c3,rfl⟩ : ∃ g cap,v3 = .slice (some ⟨g,0,none⟩) 8 cap:=by
    rcases own3.2 with ⟨_,h0⟩ | ⟨g,cap,cur,h,_⟩
    ·omega
    ·exact ⟨g,cap,h⟩
   have b3 : Bs .u32 w3 (.slice (some ⟨g3,0,none⟩) 8 c3) (wi (thrus shH P (j + 1))):=Bs.of_own (by rw [Qa1,QbC,Qgn];exact own3)
   have hc3 : 8 ≤ c3:=by
    obtain ⟨_,_,e,h,_⟩:=b3;simp at e;obtain ⟨_,_,rfl⟩:=e;rw [Qa1,QbC] at h;exact h
   have R1:=Qaa b3;have R2:=Qaa (HON.out.same on3);clear TC own3 on3 b3 HON;go_wp2
   go_roundw
   case rel => exact ⟨j + 1,g3,0,c3,HM.out.2,by have:=HM.out.1;congr 1;omega,rfl,hc3,R1.out,R2.out⟩
   case measure =>
    have:=HM.out.1;simp [intOf]
    try omega
  ·obtain rfl : j = q:=by omega
   obtain rfl : m = PL:=by rw [hm,HPL.out]
   obtain ⟨s,hs⟩ : ∃ s,s = thrus shH P j:=⟨_,rfl⟩
   have hsl : s.length = 8:=by rw [hs];exact QbC _ _
   rw [← hs] at hbt
   obtain ⟨F,hF⟩ : ∃ F : Nat → List Value,F = fun k => ((s.take k).flatMap be4).map (Value.int .u8):=⟨_,rfl⟩
   have F0 : Hid (F 0 = []):=by rw [hF];exact rfl
   have F8 : Hid (F 8 = ((thrus shH P j).flatMap be4).map (Value.int .u8)):=by
    show _ = _
    rw [hF,← hs];simp only;rw [List.take_of_length_le (Nat.le_of_eq hsl)]
   have FN : Hid (∀ k,k < 8 → F (k + 1) = F k ++ (be4 (s.getD k 0)).map (Value.int .u8)):=fun k hk => by
    rw [hF];simp only;rw [QdH s k (by omega),List.map_append]
   have e3 : ¬ (m : Int) < (m : Int):=by omega
   have KP:=Qaa (And.intro hbt (And.intro hsl (HST.out.2.2.2.same hon)));obtain ⟨W5,hW5⟩ : ∃ W5,W5 = wr:=⟨_,rfl⟩;subst hW5
   have hgl : g < W5.heap.size:=by
    have:=QaC hbt 0 (by omega);exact World.block_lt_of_cell? _ _ this
   have hsz0 : N ≤ W5.heap.size:=by have:=(HST.out.2.2.2.same hon).size;have:=HN.out;omega
   clear hs hsl hF hbt hon hj HST HLOW;go_wp2
   go_loopw [7,8] (fun o i wr => ∃ k : Nat,k ≤ 8 ∧ i = .int .i64 k ∧ wr.ownsRow W5.heap.size 5 1 o (4 * k) (F k) ∧ Only (fun _ => False) W5 wr) (fun _ i _ => 8 - (intOf i).toNat)
   case atStart => exact ⟨0,by omega,rfl,by rw [F0.out];exact World.ownsRow_nil _ _ _ _,Only.refl _ _⟩
   case round =>
    obtain ⟨k,hk,rfl,hown,hon⟩:=hrel;obtain ⟨ao1,cap1,rfl⟩:=Qad hown;have hsz:=hon.size
    by_cases hlt2 : k < 8
    ·obtain ⟨x,hx⟩ : ∃ x,x = s.getD k 0:=⟨_,rfl⟩
     have cx : wr.cell? ⟨g,off + k,none⟩ = some (.int .u32 (x : Int)):=by
      have:=QaC (KP.out.1.past hon) k (by rw [KP.out.2.1];exact hlt2);rw [← hx] at this;exact this
     have HFN : Hid (F (k + 1) = F k ++ [(x : Int) / 16777216 % 256,(x : Int) / 65536 % 256,(x : Int) / 256 % 256,(x : Int) % 256].map (Value.int .u8)):=by
      show _ = _
      rw [FN.out k hlt2,← hx,QdI];rfl
     have w0 : IntKind.u8.wrap ((x : Int) / 16777216) = (x : Int) / 16777216 % 256:=by simp [IntKind.wrap,IntKind.bits,IntKind.signed]
     have w1 : IntKind.u8.wrap ((x : Int) / 65536) = (x : Int) / 65536 % 256:=by simp [IntKind.wrap,IntKind.bits,IntKind.signed]
     have w2' : IntKind.u8.wrap ((x : Int) / 256) = (x : Int) / 256 % 256:=by simp [IntKind.wrap,IntKind.bits,IntKind.signed]
     have w3 : IntKind.u8.wrap (x : Int) = (x : Int) % 256:=by simp [IntKind.wrap,IntKind.bits,IntKind.signed]
     have BL:=Qaa (Bs.litN .u8 wr 5 [(x : Int) / 16777216 % 256,(x : Int) / 65536 % 256,(x : Int) / 256 % 256,(x : Int) % 256] _ _ rfl rfl);have OWA:=Qaa (hown.alloc (.cells #[.int .u8 ((x : Int) / 16777216 % 256),.int .u8 ((x : Int) / 65536 % 256),.int .u8 ((x : Int) / 256 % 256),.int .u8 ((x : Int) % 256)] 5))
     have NB : (Value.slice ao1 (4 * k) cap1).ownBlock ≠ some g:=fun e => by have:=hown.lt g e;omega
     have KA : Hid (∀ W W4 : World,W.cell? ⟨g,off + k,none⟩ = some (Value.int .u32 x) → W.grownBy W4 (Value.slice ao1 (4 * k) cap1).ownBlock → W4.cell? ⟨g,off + k,none⟩ = some (Value.int .u32 x)):=fun W W4 q hg => Qbg hg NB q
     have HON:=Qaa hon;have HOWN:=Qaa hown
     have k0 : (0 : Int) ≤ (k : Int):=by omega
     have k1 : (k : Int) < 8:=by omega
     clear NB hx hon hown;go_wp2;go_region_held3 (fun W => W.cell? ⟨g,off + k,none⟩ = some (Value.int .u32 x)) (first | go_keep | exact KA.out _ _ (by assumption) hgrow') (first | (refine Qav rfl (.tmp 33) (.tmp 57) 22 rfl W5.heap.size 5 i0 (.int .u8 0) 1 Tryz.underlying22 hi hz0 hz1 hz2 rfl (.slice ao1 (4 * k) cap1) (4 * k) (F k) rfl OWA.out .u8 _ [(x : Int) / 16777216 % 256,(x : Int) / 65536 % 256,(x : Int) / 256 % 256,(x : Int) % 256] rfl BL.out (NoCap.some _ _ _) (by simp [maxLen];omega) (by simp;omega) (by simp;omega) ?_;intro v' w4 hown' hgrow'))
     have N1 : Hid (w4.ownsRow W5.heap.size 5 1 v' (4 * (k + 1)) (F (k + 1))):=by
      show _
      rw [HFN.out];exact hown'
     have N2 : Hid (Only (fun _ => False) W5 w4):=((HON.out.alloc _).drew).grown hgrow' (fun k hk e => by have:=HOWN.out.lt k e;omega);clear hown' hgrow' BL OWA HOWN HON HFN KA w0 w1 w2' w3
     go_simp
     go_wp2
     go_roundw
     case rel => exact ⟨k + 1,by omega,by go_num,N1.out,N2.out⟩
     case measure => simp [intOf];omega
    ·obtain rfl : k = 8:=by omega
     rw [F8.out] at hown;have e1:=Qal hown hsz0;rw [HN.out] at e1;have E1:=Qaa e1;have E2:=Qaa (KP.out.2.2.same hon);clear hown hon e1;go_wp2;go_ret;exact ⟨_,rfl,E1.out,E2.out⟩
end Go.Proofs.YtcpopagikbjimaaGreatDoor
