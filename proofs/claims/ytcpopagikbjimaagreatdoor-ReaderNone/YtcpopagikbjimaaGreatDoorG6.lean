import Derived.Test.YtcpopagikbjimaaGreatDoorG5
import Derived.StillTailTactics
namespace Go.Proofs.YtcpopagikbjimaaGreatDoor
set_option maxHeartbeats 4000000
set_option maxRecDepth 100000
open Go.RowKit
section
open Go.Shelf
theorem QiI {P : Program} {n l : Nat} {o : Oper} {a : Act} {w : World} {K : Act → World → Prop} {Q : Exit → Act → World → Prop} (hnd : ∀ c,o.op ≠ .defer c) (h : o.wp P a w K Q) : o.wpIn (Fence.wide.inRound l) n P a w K Q:=by
 refine ⟨fun _ _ => trivial,?_⟩;rw [Oper.semAt_eq _ _ _ hnd];unfold Oper.wp at h;generalize (execOp a.eval o).run P w = r at *
 cases r with
 | ok x w' =>
  cases x with
  | value v => exact h
  | skip => exact h
  | defer d => exact h
  | enter f args => exact ⟨(fun h => by cases h),CallsIn.inRound l (callsIn_wide.2 h)⟩
  | row row args => exact ⟨(fun h => by cases h),fun c cs _ => by
    obtain ⟨v,w',r,s⟩:=h c cs
    exact ⟨v,w',r,stepsIn_wide.2 s⟩⟩
  | _ => exact False.elim h
 | halt x w' => cases x <;> first | exact h | exact False.elim h
theorem Qg8 {P : Program} {n l : Nat} {md : Region.Mode} {ops : Array Oper} {Q : Exit → Act → World → Prop} (hQ : ¬ LetsOut Q) (hnd : ∀ (i : Nat) (o : Oper),ops[i]? = some o → ∀ c,o.op ≠ .defer c) :
  ∀ (fuel : Nat) (listed : Array Bool) (a : Act) (w : World),wpAny P md ops Q fuel listed a w → wpAnyIn (Fence.wide.inRound l) n P md ops Q fuel listed a w:=by
 intro fuel
 induction fuel with
 | zero => intro listed a w h;exact h
 | succ fuel ih =>
  intro listed a w h;refine ⟨h.1,fun i hi => ?_⟩;have h1:=h.2 i hi;unfold wpOp at h1;unfold wpOpIn
  cases ho : ops[i]? with
  | none => simp only [ho] at h1 ⊢;exact ih _ _ _ h1
  | some o =>
   simp only [ho] at h1 ⊢
   by_cases hw : Region.wanted o (yielded ops a.tmps) = true
   ·rw [if_pos hw] at h1 ⊢
    exact Oper.wpIn_mono (fun a w => ih _ a w) (QiI (hnd i o ho) (h1.resolve_right (fun c => hQ c.2)))
   ·rw [if_neg hw] at h1 ⊢
    exact ⟨fun _ _ => trivial,ih _ _ _ h1⟩
def Qg9 (l : List Oper) : Bool:=l.all fun o => match o.op with | .defer _ => false | _ => true
theorem Qeb {l : List Oper} (h : Qg9 l = true) (i : Nat) (o : Oper) (ho : l.toArray[i]? = some o) (c : Call) : o.op ≠ .defer c:=fun e => by
 have hm : o ∈ l:=by
  have:=Array.mem_of_getElem? ho
  simpa using this
 have:=List.all_eq_true.1 h o hm;rw [e] at this
 cases this
theorem Qbr {P : Program} {k L id : Nat} {Q : Exit → Act → World → Prop} {a : Act} {w : World} {l : List Oper} (n : Nat) (hm : P.follows .mixedOrders = true) (hQ : ¬ LetsOut Q) (hnd : Qg9 l = true) (hB : Region.lexTailB .any l.toArray n = true)
  (h : wpStill P l.toArray { w with drawn:=w.drawn + 1 } (fun a' => wpList P l.toArray Q (l.drop n) a' { w with drawn:=w.drawn + 1 }) (l.take n) a) : (Code.region id l.toArray true).wpIn (Fence.wide.inRound L) k P Q a w:=by
 simp only [Region.lexTailB,Bool.and_eq_true,decide_eq_true_eq] at hB;obtain ⟨⟨⟨⟨hsel,hn⟩,hs⟩,hc⟩,hlex⟩:=hB
 have hn' : n < l.length:=by simpa using hn
 have htl : (l.take n).length = n:=by simp;omega
 have hdl : (l.drop n).length = l.toArray.size - n:=by simp
 have inv0 : HeadInv .any l.toArray n (Array.replicate l.toArray.size false) :=
  ⟨by simp,fun j oj _ hl => (by rw [getD_replicate_false] at hl;cases hl),fun t _ ht => Go.getD_in (by simpa using ht) (getD_replicate_false _ _)⟩
 have H:=wpAnyL_lex (md:=.any) (g:=l.toArray.size - n) hsel hs hc hn (l.take n) 0 _ a (fun j hj => by
  have hj' : j < n:=by rw [htl] at hj;exact hj
  simp [hj']) (by simpa using htl) inv0 (by rw [htl];exact hlex) h
 refine wpIn_region_any hm (Qg8 hQ (Qeb hnd) _ _ _ _ ?_)
 have:=wpAny_of_head (Q':=Q) (g:=l.toArray.size - n) (fun listed a' hL => by
  have:=wpAny_of_seq (md:=.any) (Q':=Q) (l.drop n) n listed a' { w with drawn:=w.drawn + 1 } (fun j => by simp [List.getElem?_drop]) (by rw [hdl];exact hL.1) hL.2
  rwa [hdl] at this) _ _ _ H
 rw [htl,show n + (l.toArray.size - n) = l.toArray.size by omega] at this;exact this
end
theorem QbY (x n : Nat) (w : World) (hx : x < 4294967296) (h1 : 1 ≤ n) (h2 : n ≤ 31) :
  Calls Tryz.prog 184 #[.int .u32 x,.int .u64 n] w fun e w' => e = .returned (.int .u32 (rotw x n : Nat)) ∧ w = w':=by
 go_enter Tryz.func184,Tryz.ntmps184;go_wp2;go_ret;refine ⟨Qbt ?_,rfl⟩
 rw [show ((x : Int) * 2 ^ (32 - n) % 4294967296) = ((x * 2 ^ (32 - n) % 4294967296 : Nat) : Int) by simp,show ((x : Int) / 2 ^ n) = ((x / 2 ^ n : Nat) : Int) by simp,
  u32_or_nat _ _ (QhL _ _ hx) (Nat.mod_lt _ (by decide))]
 rfl
theorem Qf1 (w : World) : Calls Tryz.prog 129 #[] w fun e w' => e = .returned (.tuple #[.slice (some ⟨w.heap.size,0,none⟩) 64 64,.slice (some ⟨w.heap.size + 1,0,none⟩) 8 8]) ∧ Blk w' w.heap.size 127 (wl shK) ∧ Blk w' (w.heap.size + 1) 127 (wl shH) ∧ Only (fun _ => False) w w':=by
 go_enter Tryz.func129,Tryz.ntmps129;go_wp2_with (first | (refine wpList_buildSlice rfl 155 127 64 _ rfl (wl shK).toArray Tryz.t127 (.int .u32 0) Tryz.underlying155 (by kernel_rfl) (by kernel_rfl) (by decide) (by decide) (by kernel_rfl) ?_) | (refine wpList_buildSlice rfl 155 127 8 _ rfl (wl shH).toArray Tryz.t127 (.int .u32 0) Tryz.underlying155 (by kernel_rfl) (by kernel_rfl) (by decide) (by decide) (by kernel_rfl) ?_));go_ret2;refine ⟨rfl,(Blk.new w 127 (wl shK)).alloc _,?_,((Only.refl _ _).alloc _).alloc _⟩;have:=Blk.new (w.alloc (.cells (wl shK).toArray 127)) 127 (wl shH);rw [size_alloc] at this;exact this
theorem Qg7 (n j : Nat) (h : j < zpad n) : (n + 1 + j) % 64 ≠ 56:=by unfold zpad at h;omega
theorem QiG (n : Nat) : (n + 1 + zpad n) % 64 = 56:=QfB n
def slenB : Value → Nat
 | .slice _ n _ => n
 | _ => 0
theorem QiH (n k : Nat) : (n : Int) * 8 / 2 ^ (8 * k) % 256 = ((8 * n / 256 ^ k % 256 : Nat) : Int):=by
 rw [Nat.mul_comm 8 k];exact byte8 n k
theorem Qf2 (v : Value) (xs : List Int) (w : World) (hb : Bs .u8 w v xs) (nc : NoCap v) (hl : xs.length ≤ 1000000000) :
  Calls Tryz.prog 130 #[v] w fun e w' => ∃ v',e = .returned v' ∧ w'.ownsRow w.heap.size 5 1 v' (padS xs).length ((padS xs).map (Value.int .u8)) ∧ Only (fun _ => False) w w':=by
 obtain ⟨i0,hi,hz0,hz1,hz2⟩:=info_parts Tryz.infoU8;obtain ⟨n,hn⟩ : ∃ n,n = xs.length:=⟨_,rfl⟩
 have HPL : Hid ((padS xs).length = n + 1 + zpad n + 8):=by rw [QdA,hn];exact rfl
 obtain ⟨z,hz⟩ : ∃ z,z = zpad n:=⟨_,rfl⟩
 have hzl : z < 64:=by rw [hz];exact Qdd n
 obtain ⟨F,hF⟩ : ∃ F : Nat → List Value,F = fun j => (xs ++ 128 :: List.replicate j 0).map (Value.int .u8):=⟨_,rfl⟩
 obtain ⟨G,hG⟩ : ∃ G : Nat → List Value,G = fun j => (xs ++ 128 :: (List.replicate z 0 ++ (be8 (8 * n)).take j)).map (Value.int .u8):=⟨_,rfl⟩
 have F0 : Hid (xs.map (Value.int .u8) ++ [(128 : Int)].map (Value.int .u8) = F 0):=by rw [hF];exact (List.map_append ..).symm
 have FN : Hid (∀ j,F (j + 1) = F j ++ [(0 : Int)].map (Value.int .u8)):=fun j => by
  rw [hF];simp only;rw [← List.map_append,List.replicate_succ'];simp
 have G0 : Hid (F z = G 0):=by rw [hF,hG];simp;exact trivial
 have GN : Hid (∀ j,j < 8 → G (j + 1) = G j ++ [((8 * n / 256 ^ (7 - j) % 256 : Nat) : Int)].map (Value.int .u8)):=fun j hj => by
  rw [hG];simp only;rw [Qfe _ _ hj,← List.map_append];simp
 have G8 : Hid (G 8 = (padS xs).map (Value.int .u8)):=by
  show _ = _
  rw [hG];simp only;rw [List.take_of_length_le (Nat.le_of_eq (QcP _)),padS,hz,hn]
 have HT : Hid (∀ j,j < z → (n + 1 + j) % 64 ≠ 56):=fun j hj => Qg7 n j (by rw [← hz];exact hj)
 have HT2 : Hid ((n + 1 + z) % 64 = 56):=by rw [hz];exact QiG n
 obtain ⟨P,hP⟩ : ∃ P,P = (padS xs).map (Value.int .u8):=⟨_,rfl⟩;obtain ⟨PL,hPL⟩ : ∃ PL,PL = (padS xs).length:=⟨_,rfl⟩;rw [← hP] at G8;rw [← hPL,← hz] at HPL;rw [← hP,← hPL];have ho:=World.ownsRow_made (base:=w.heap.size) (e:=5) (size:=1) w #[] 0 (Nat.le_refl _) (by unfold maxLen;omega) rfl;have HB:=Qaa (And.intro (hb.past ((Only.refl (fun _ => False) w).alloc (.cells #[] 5))) nc);have HN:=Qaa hn;obtain ⟨ao,cap,rfl⟩:=hb.len;rw [← hn] at HB hl ⊢;clear hF hG hz hP hPL hb nc hn;go_enter Tryz.func130,Tryz.ntmps130
 have hln : n + 1 ≤ 1000000001:=by omega
 go_wp2_with (first
  | (at_builtin;refine Qac _ rfl _ _ 22 rfl w.heap.size 5 i0 (.int .u8 0) 1 Tryz.underlying22 hi hz0 hz1 hz2 rfl (.slice (some ⟨w.heap.size,0,none⟩) 0 0) 0 [] rfl ho .u8 (.slice ao n cap) xs rfl HB.out.1 HB.out.2 (by rw [← HN.out];unfold maxLen;omega) (by rw [← HN.out];omega) (by simp) ?_;intro v1 w1 hown1 hgrow1 hnil1 hob1)
  | (at_builtin;refine Qac _ rfl _ _ 22 rfl w.heap.size 5 i0 (.int .u8 0) 1 Tryz.underlying22 hi hz0 hz1 hz2 rfl v1 (0 + xs.length) _ rfl (hown1.alloc _) .u8 _ [128] rfl (Bs.litN .u8 w1 5 [128] _ _ rfl rfl) (NoCap.some _ _ _) (by rw [← HN.out];simp [maxLen];omega) (by rw [← HN.out];simp;omega) (by have:=hgrow1.size;simp at this ⊢;omega) ?_;intro v2 w2 hown2 hgrow2 hnil2 hob2))
 have N1 : Hid (w2.ownsRow w.heap.size 5 1 v2 (n + 1 + 0) (F 0)):=by
  show _
  rw [← F0.out];have:=hown2;rw [← HN.out,Nat.zero_add,List.nil_append] at this;exact this
 have o1 : Only (fun _ => False) w w1:=((Only.refl _ _).alloc _).grown hgrow1 (fun k hk e => by simp [Value.ownBlock] at e;omega);have N2 : Hid (Only (fun _ => False) w w2):=(o1.alloc _).grown hgrow2 (fun k hk e => by have:=hown1.lt k e;omega);clear hown1 hgrow1 hnil1 hob1 hown2 hgrow2 hnil2 hob2 ho HB o1;go_wp2
 go_loopw [3] (fun o wr => ∃ j : Nat,j ≤ z ∧ wr.ownsRow w.heap.size 5 1 o (n + 1 + j) (F j) ∧ Only (fun _ => False) w wr) (fun o _ => n + 1 + z - slenB o)
 case atStart => exact ⟨0,Nat.zero_le _,N1.out,N2.out⟩
 case round =>
  obtain ⟨j,hj,hown,hon⟩:=hrel;obtain ⟨ao1,cap1,rfl⟩:=Qad hown;have hsz:=hon.size;obtain ⟨m,hm⟩ : ∃ m,m = n + 1 + j:=⟨_,rfl⟩;rw [← hm] at hown ⊢;have HON:=Qaa hon;have HOWN:=Qaa hown
  have hm1 : m ≤ 1000000065:=by omega
  clear hon hown N1 N2
  by_cases hlt : j < z
  ·have ht : ((m : Int) % 64 != 56) = true:=by
    have:=HT.out j hlt;rw [← hm] at this;rw [bne_iff_ne];omega
   have HFN:=Qaa (FN.out j);have HM : Hid (m = n + 1 + j ∧ j < z):=⟨hm,hlt⟩;have BL:=Qaa (Bs.litN .u8 wr 5 [0] _ _ rfl rfl);clear hm hlt hj;go_wp2_with (at_builtin;refine Qac _ rfl _ _ 22 rfl w.heap.size 5 i0 (.int .u8 0) 1 Tryz.underlying22 hi hz0 hz1 hz2 rfl _ m (F j) rfl (HOWN.out.alloc _) .u8 _ [0] rfl BL.out (NoCap.some _ _ _) (by simp [maxLen];omega) (by simp;omega) (by simp;omega) ?_;intro v' w3 hown' hgrow2 hnil2 hob2);obtain ⟨ao3,cap3,e3⟩:=Qad hown'
   have M1 : Hid (w3.ownsRow w.heap.size 5 1 v' (n + 1 + (j + 1)) (F (j + 1))):=by
    have e : n + 1 + (j + 1) = m + 1:=by rw [HM.out.1];omega
    show _
    rw [HFN.out,e];exact hown'
   have M2 : Hid (Only (fun _ => False) w w3):=(HON.out.alloc _).grown hgrow2 (fun k hk e => by have:=HOWN.out.lt k e;omega)
   have M3 : Hid (slenB v' = m + 1):=by rw [e3];exact rfl
   clear hown' hgrow2 hnil2 hob2 HOWN HON BL HFN e3;go_wp2
   go_roundw
   case rel => exact ⟨j + 1,HM.out.2,M1.out,M2.out⟩
   case measure =>
    have:=M3.out;have h1:=HM.out
    show n + 1 + z - slenB v' < n + 1 + z - m
    omega
  ·obtain rfl : j = z:=by omega
   have ht : ((m : Int) % 64 != 56) = false:=by
    have:=HT2.out;rw [← hm] at this;rw [bne_eq_false_iff_eq];omega
   rw [G0.out] at HOWN;have HM:=Qaa hm;obtain ⟨W2,hW2⟩ : ∃ W2,W2 = wr:=⟨_,rfl⟩;subst hW2;clear hm hlt hj FN F0 HT HT2;go_wp2
   go_loopw [3,5] (fun o i wr => ∃ t : Nat,t ≤ 8 ∧ i = .int .i64 (7 - (t : Int)) ∧ wr.ownsRow w.heap.size 5 1 o (m + t) (G t) ∧ Only (fun _ => False) w wr) (fun _ i _ => (intOf i + 1).toNat)
   case atStart => exact ⟨0,Nat.zero_le _,rfl,HOWN.out,HON.out⟩
   case round =>
    obtain ⟨t,htt,rfl,hown,hon⟩:=hrel;have hsz3:=hon.size;have HON3:=Qaa hon;have HOWN3:=Qaa hown;clear hon hown HOWN HON
    by_cases hlt : t < 8
    ·obtain ⟨k,hk⟩ : ∃ k,k = 7 - t:=⟨_,rfl⟩
     have hk7 : (7 : Int) - (t : Int) = (k : Int):=by omega
     have HGN:=Qaa (GN.out t hlt);rw [hk7];rw [← hk] at HGN;have HK:=Qaa (And.intro hk (And.intro hk7 hlt))
     have hk8 : k ≤ 7:=by omega
     have s0 : 0 ≤ 8 * (k : Int):=by omega
     have s1 : 8 * (k : Int) ≤ 64:=by omega
     have ht8 : m + t ≤ 1000000100:=by omega
     have BL:=Qaa (Bs.litN .u8 wr 5 [(n : Int) * 8 / 2 ^ (8 * k) % 256] _ _ rfl rfl);clear hk hk7 hlt htt ht;go_wp2_with (at_builtin;refine Qac _ rfl _ _ 22 rfl w.heap.size 5 i0 (.int .u8 0) 1 Tryz.underlying22 hi hz0 hz1 hz2 rfl _ (m + t) (G t) rfl (HOWN3.out.alloc _) .u8 _ [(n : Int) * 8 / 2 ^ (8 * k) % 256] rfl BL.out (NoCap.some _ _ _) (by simp [maxLen];omega) (by simp;omega) (by simp;omega) ?_;intro v' w3 hown' hgrow2 hnil2 hob2)
     have M1 : Hid (w3.ownsRow w.heap.size 5 1 v' (m + (t + 1)) (G (t + 1))):=by
      show _
      rw [HGN.out,← QiH];exact hown'
     have M2 : Hid (Only (fun _ => False) w w3):=(HON3.out.alloc _).grown hgrow2 (fun k hk e => by have:=HOWN3.out.lt k e;omega);clear hown' hgrow2 hnil2 hob2 HOWN3 HON3 BL HGN;go_wp2
     go_roundw
     case rel =>
      have h1:=HK.out;exact ⟨t + 1,by omega,by congr 1;omega,M1.out,M2.out⟩
     case measure =>
      have h1:=HK.out;simp [intOf]
      try omega
    ·obtain rfl : t = 8:=by omega
     rw [G8.out] at HOWN3
     have hf : Hid (m + 8 = PL):=by show _ = _;rw [HPL.out,HM.out]
     rw [hf.out] at HOWN3;clear ht htt hlt;go_wp2;go_ret;exact ⟨_,rfl,HOWN3.out,HON3.out⟩
section
open Go.Shelf
attribute [local go_sem] Oper.semAt_some
theorem Qj9 (key info : List Int) (j : Nat) : U8 (tpc key info j):=by
 cases j with
 | zero => intro y hy;cases hy
 | succ j => exact Qcy _ _
theorem Qka (key info : List Int) (j : Nat) : (tpc key info j).length ≤ 32:=by
 cases j with
 | zero => exact Nat.zero_le _
 | succ j => exact Nat.le_of_eq (QbM _ _ _)
def three (a b c : List Int) (i : Nat) : List Int:=if i = 0 then a else if i = 1 then b else c
theorem Qc3 (a b c : List Int) : pcat (three a b c) 3 = a ++ b ++ c:=by
 show ((([] ++ a) ++ b) ++ c : List Int) = _
 rw [List.nil_append]
theorem Ps.three {w : World} {p u q : Value} {a b c : List Int} (ha : Bs .u8 w p a) (hb : Bs .u8 w u b) (hc : Bs .u8 w q c) (a8 : U8 a) (b8 : U8 b) (c8 : U8 c) (G : Nat) (hG : w.heap.size = G) :
  Ps (w.alloc (.cells #[p,u,q] 22)) G 3 (three a b c):=fun i hi => by
 subst hG;have o : Only (fun _ => False) w (w.alloc (.cells #[p,u,q] 22)):=(Only.refl _ _).alloc _;have hB:=Blk.new w 22 [p,u,q]
 rcases (show i = 0 ∨ i = 1 ∨ i = 2 by omega) with rfl | rfl | rfl
 ·exact ⟨p,hB.cell 0,ha.past o,a8⟩
 ·exact ⟨u,hB.cell 1,hb.past o,b8⟩
 ·exact ⟨q,hB.cell 2,hc.past o,c8⟩
theorem Qg4 (n : Nat) (a : Option Addr) (len cap : Nat) (b : Option Addr) (len' cap' : Nat) (w : World) :
  CallsIn Fence.wide n Tryz.prog 148 #[.slice a len cap,.slice b len' cap'] w fun e w' => e = .returned (.func (.func 199) #[] #[.pointer (some ⟨w.heap.size,0,none⟩),.pointer (some ⟨w.heap.size + 1,0,none⟩)]) ∧ w' = (w.alloc (.cells #[.slice a len cap] 22)).alloc (.cells #[.slice b len' cap'] 22):=by
 refine callsIn_of_wp Tryz.func148 rfl trivial ?_ rfl;simp only [Tryz.ntmps148,List.size_toArray,List.length_cons,List.length_nil,Nat.reduceAdd,Nat.reduceSub,Array.replicate_succ,Array.replicate_zero,List.push_toArray,List.append_toArray,List.nil_append,List.cons_append]
 gi_wp2
 go_ret;exact ⟨rfl,rfl⟩
theorem QfY (n L Bk Bi B0 : Nat) (v : Value) (ua : Option Addr) (ul uc : Nat) (key info : List Int) (h8 : U8 key) (hk : key.length ≤ 10000000000) (hu8 : U8 info) (hl : info.length ≤ 1000000000) (J Jx : Nat → World → Prop)
  (hJ : ∀ s A,J s A → Boxed A Bk 22 v ∧ Boxed A Bi 22 (.slice ua ul uc) ∧ Bs .u8 A v key ∧ Bs .u8 A (.slice ua ul uc) info)
  (hJo : ∀ s A B,J s A → Only (fun _ => False) A B → J s B)
  (hY : ∀ (s : Nat) g c A,s < 255 → J s A → Bs .u8 A (.slice (some ⟨g,0,none⟩) 32 c) (tpc key info (s + 1)) → B0 + 2 ≤ g → YieldAt Fence.wide (n - 1) Tryz.prog L #[.slice (some ⟨g,0,none⟩) 32 c] A fun e B =>
   (e = .returned (.bool true) ∧ J (s + 1) B ∧ Only (fun k => k < B0 ∨ k = B0 + 1) A B) ∨ (e = .returned (.bool false) ∧ Jx (s + 1) B))
  (W : World) (h0 : J 0 W) (hW : B0 + 2 ≤ W.heap.size) :
  CallsIn Fence.wide n Tryz.prog 199 #[.func (.yield L) #[] #[],.pointer (some ⟨Bk,0,none⟩),.pointer (some ⟨Bi,0,none⟩)] W fun e B => (∃ v,e = .returned v) ∧ (J 255 B ∨ ∃ s,Jx s B):=by
 have HJ:=Qaa hJ;have HJo:=Qaa hJo;have HY:=Qaa hY;have H0:=Qaa h0;have HW:=Qaa hW;have HK:=Qaa (And.intro h8 (And.intro hk (And.intro hu8 hl)));clear hJ hJo hY h0 hW h8 hk hu8 hl;refine callsIn_of_wp Tryz.func199 rfl trivial ?_ rfl;simp only [Tryz.ntmps199,List.size_toArray,List.length_cons,List.length_nil,Nat.reduceAdd,Nat.reduceSub,Array.replicate_succ,Array.replicate_zero,List.push_toArray,List.append_toArray,List.nil_append,List.cons_append]
 gi_wp2
 gi_loopw [4,6] (fun p i wr => ∃ t : Nat,t ≤ 255 ∧ i = .int .i64 t ∧ Hid (J t wr) ∧ Hid (Bs .u8 wr p (tpc key info t)) ∧ Hid (∀ k,p.ownBlock = some k → B0 + 2 ≤ k) ∧ Hid (B0 + 2 ≤ wr.heap.size)) (fun _ i _ => 255 - (intOf i).toNat)
 case atStart => exact ⟨0,by omega,rfl,H0,Bs.nil _ _,(fun k h => by cases h),HW⟩
 case round =>
  obtain ⟨t,ht,rfl,HT,HP,HQ,HS⟩:=hrel
  by_cases hlt : t < 255
  ·have dlt : decide ((t : Int) < 255) = true:=decide_eq_true (by omega)
   obtain ⟨hbk,hbi,hbv,hbu⟩:=HJ.out t wr HT.out;have hc1:=hbk.cell;have hc2:=hbi.cell;obtain ⟨b,hb⟩ : ∃ b : Int,b = (t : Int) + 1:=⟨_,rfl⟩
   have hbb : b = (((t + 1) % 256 : Nat) : Int):=by omega
   obtain ⟨pa,pc,ep⟩:=HP.out.len;obtain ⟨m,hm⟩ : ∃ m,m = (tpc key info t).length:=⟨_,rfl⟩;rw [← hm] at ep;subst ep;have o1 : Only (fun _ => False) wr (wr.alloc (.cells #[.int .u8 b] 5)):=(Only.refl _ _).alloc _;have o2 : Only (fun _ => False) wr ((wr.alloc (.cells #[.int .u8 b] 5)).alloc (.cells #[.slice pa m pc,.slice ua ul uc,.slice (some ⟨wr.heap.size,0,none⟩) 1 1] 22)):=o1.alloc _;have hps:=Ps.three (HP.out.past o1) (hbu.past o1) (Bs.litN .u8 wr 5 [b] _ _ rfl rfl) (Qj9 _ _ _) HK.out.2.2.1 (fun y hy => by rw [List.mem_singleton] at hy;subst hy;omega) (wr.heap.size + 1) (size_alloc _ _)
   have A:=Qaa (Qet v key (wr.heap.size + 1) 3 (three (tpc key info t) info [b]) ((wr.alloc (.cells #[.int .u8 b] 5)).alloc (.cells #[.slice pa m pc,.slice ua ul uc,.slice (some ⟨wr.heap.size,0,none⟩) 1 1] 22)) (hbv.past o2) HK.out.1 HK.out.2.1 hps (by
    have h1:=Qka key info t;have h2:=HK.out.2.2.2
    rw [Qc3,List.length_append,List.length_append];simp only [List.length_singleton];omega) (by decide))
   have hM : MACL key (pcat (three (tpc key info t) info [b]) 3) = tpc key info (t + 1):=by rw [Qc3,hbb];rfl
   rw [hM,hb] at A;have O2:=Qaa o2;rw [hb] at O2;clear hbk hbi hbv hbu hb hbb hm o1 o2 hps hM
   gi_wp2_with fail
   refine ⟨trivial,(fun h => by cases h),(callsIn_wide.2 A.out).mono ?_⟩;rintro e w2 ⟨r,rfl,own2,on2⟩;have hsz:=O2.out.size;have hs2:=on2.size;have hS:=HS.out;have b2 : Bs .u8 w2 r (tpc key info (t + 1)):=Bs.of_own (by rw [QbM];exact own2)
   have lt2:=fun k hk => (own2.lt k hk)
   obtain ⟨ra,rc,er⟩:=Qad own2;subst er
   obtain ⟨g,hg⟩ : ∃ g,ra = some ⟨g,0,none⟩:=by
    rcases own2.2 with ⟨_,h0⟩ | ⟨g,cap,cur,hv,_⟩
    ·cases h0
    ·simp at hv;exact ⟨g,hv.1⟩
   subst hg;have hgB:=lt2 g rfl;obtain ⟨fn,tmps,assign,body,hy,hR⟩:=HY.out t g rc w2 hlt (HJo.out _ _ _ HT.out (O2.out.same on2)) b2 (by omega);have HR:=Qaa hR;have H2:=Qaa (And.intro b2 (show B0 + 2 ≤ g by omega))
   have HS2 : Hid (B0 + 2 ≤ w2.heap.size):=by show _ ≤ _;omega
   clear own2 on2 A hR b2 lt2 hsz hs2 hS hgB hc1 hc2 HT HP HQ HS O2
   gi_wp2
   refine ⟨(fun h => by cases h),HR.out.mono ?_⟩;rintro e w3 (⟨rfl,hJ3,o3⟩ | ⟨rfl,hJ3⟩)
   ·have H3:=Qaa hJ3
    have N2:=Qaa (H2.out.1.keep o3 (fun k hk => by
     have h2:=H2.out.2;simp [Value.ownBlock] at hk
     omega))
    have N3 : Hid (∀ k,(Value.slice (some ⟨g,0,none⟩) 32 rc).ownBlock = some k → B0 + 2 ≤ k):=fun k hk => by
     have h2:=H2.out.2;simp [Value.ownBlock] at hk;omega
    have N4 : Hid (B0 + 2 ≤ w3.heap.size):=by
     have h1:=HS2.out;have h2:=o3.size
     show _ ≤ _
     omega
    clear HR hJ3 o3
    gi_wp2
    go_roundw
    case rel => exact ⟨t + 1,by omega,by go_num,H3,N2,N3,N4⟩
    case measure => simp [intOf];omega
   ·have H3:=Qaa hJ3
    clear HR hJ3
    gi_wp2
    refine bodyPost_ret (results_none rfl _ _ _) rfl ?_;exact ⟨⟨_,rfl⟩,.inr ⟨_,H3.out⟩⟩
  ·obtain rfl : t = 255:=by omega
   gi_wp2
   go_end0
   exact ⟨⟨_,rfl⟩,.inl HT.out⟩
end
section
open Go.Shelf
attribute [local go_sem] Oper.semAt_some
theorem QkK (w : World) (c : Nat) (hc : c ≤ 100000) : (Instr.makeSlice 22 (.int .i64 0) (.int .i64 (c : Int))).run Tryz.prog w = .ok (.slice (some ⟨w.heap.size,0,none⟩) 0 c) (w.alloc (.cells (bl (List.replicate c 0)).toArray 5)):=by
 obtain ⟨i0,hi,hz0,hz1,hz2⟩:=info_parts Tryz.infoU8;have:=run_make (P:=Tryz.prog) w 22 5 i0 (.int .u8 0) Tryz.underlying22 hi hz0 .i64 .i64 0 c (by omega) (by omega) (by rw [hz2];omega) (by omega)
 have e : madeCells (Value.int .u8 0).cells ((c : Int).toNat * i0.size) = (bl (List.replicate c 0)).toArray:=by
  apply Array.toList_inj.1
  rw [show (Value.int .u8 0).cells = #[.int .u8 0] from rfl,toList_madeCells_one];simp [bl,hz1]
 rw [e] at this;exact this
theorem Qfh (key info : List Int) (n s : Nat) (h : n ≤ 32 * s) : (tcat key info s).take n = EXPL key info n:=by
 unfold EXPL;obtain ⟨d,hd⟩ : ∃ d,s = (n + 31) / 32 + d:=⟨s - (n + 31) / 32,by omega⟩;rw [hd,← QeE key info ((n + 31) / 32) d,List.take_take,Nat.min_eq_left (by omega)]
def Oq (W0 : World) (Bx Gr lo n : Nat) (A : World) (m : Nat) (xs : List Int) : Prop :=
 Only (fun k => k = Bx ∨ k = Gr) W0 A ∧ Boxed A Bx 22 (.slice (some ⟨Gr,0,none⟩) m n) ∧ A.ownsRow lo 5 1 (.slice (some ⟨Gr,0,none⟩) m n) m (xs.map (Value.int .u8))
theorem Oq.past {W0 : World} {Bx Gr lo n m : Nat} {A B : World} {xs : List Int} (h : Oq W0 Bx Gr lo n A m xs) (o : Only (fun _ => False) A B) : Oq W0 Bx Gr lo n B m xs :=
 ⟨h.1.trans o (fun _ _ f => f.elim),Qay h.2.1 o (fun f => f),o.own h.2.2 (fun _ _ f => f)⟩
theorem Oq.loop {W0 : World} {Bx Gr lo n m : Nat} {A B : World} {xs : List Int} (h : Oq W0 Bx Gr lo n A m xs) {L : Nat} (o : Only (fun k => k = L) A B) (hL : W0.heap.size ≤ L) (hx : Bx < W0.heap.size) (hr : Gr < W0.heap.size) : Oq W0 Bx Gr lo n B m xs :=
 ⟨h.1.trans o (fun k hk e => by omega),Qay h.2.1 o (by omega),o.own h.2.2 (fun k hk e => by simp [Value.ownBlock] at hk;omega)⟩
theorem Oq.stored {W0 W w4 : World} {Bx Gr lo n m m' : Nat} {xs ys : List Int} (h : Oq W0 Bx Gr lo n W m xs) (hne : Bx ≠ Gr) (hx : Bx < W0.heap.size) (hr : Gr < W0.heap.size)
  (own : w4.ownsRow lo 5 1 (.slice (some ⟨Gr,0,none⟩) m' n) m' (ys.map (Value.int .u8))) (hg : W.drew.grownBy w4 (some Gr)) :
  Only (fun k => k < W0.heap.size) W (w4.setCell ⟨Bx,0,none⟩ (.slice (some ⟨Gr,0,none⟩) m' n)) ∧ Oq W0 Bx Gr lo n (w4.setCell ⟨Bx,0,none⟩ (.slice (some ⟨Gr,0,none⟩) m' n)) m' ys:=by
 have o4 : Only (fun k => k = Gr) W w4:=((Only.refl (fun k => k = Gr) W).drew).grown hg (fun k _ e => by cases e;rfl);have o5 : Only (fun k => k = Bx) w4 (w4.setCell ⟨Bx,0,none⟩ (.slice (some ⟨Gr,0,none⟩) m' n)):=(Only.refl (fun k => k = Bx) w4).setCell (p:=⟨Bx,0,none⟩) (fun _ => rfl) _;refine ⟨(o4.mono (T:=fun k => k < W0.heap.size) (fun k _ e => by omega)).trans o5 (fun k _ e => by omega),?_,(Qay h.2.1 o4 (by omega)).set _,o5.own own (fun k hk e => by simp [Value.ownBlock] at hk;omega)⟩;exact (h.1.trans o4 (fun k _ e => .inr e)).trans o5 (fun k _ e => .inl e)
theorem Qgw (aov : Option Addr) (lv cv : Nat) (aou : Option Addr) (lu cu : Nat) (key info : List Int) (n : Nat) (w : World) (hb : Bs .u8 w (.slice aov lv cv) key) (h8 : U8 key) (hk : key.length ≤ 1000000000) (hu : Bs .u8 w (.slice aou lu cu) info) (hu8 : U8 info) (hl : info.length ≤ 1000000000) (hn : n ≤ 8160) :
  Calls Tryz.prog 109 #[.slice aov lv cv,.slice aou lu cu,.int .i64 (n : Int)] w fun e w' => ∃ r,e = .returned (.tuple #[r,.int .i64 0]) ∧ w'.ownsRow w.heap.size 5 1 r n ((EXPL key info n).map (Value.int .u8)) ∧ Only (fun _ => False) w w':=by
 obtain ⟨i0,hi,hz0,hz1,hz2⟩:=info_parts Tryz.infoU8;have HB:=Qaa (And.intro hb (And.intro h8 (And.intro hk (And.intro hu (And.intro hu8 hl)))));have d1 : decide ((n : Int) < 0) = false:=decide_eq_false (by omega);have d2 : decide ((8160 : Int) < (n : Int)) = false:=decide_eq_false (by omega);have d2' : decide (8160 < n) = false:=decide_eq_false (by omega);obtain ⟨Z,hZ⟩ : ∃ Z,Z = (bl (List.replicate n 0)).toArray:=⟨_,rfl⟩;have hmk:=QkK (w.alloc (.cells #[.int .i64 (n : Int)] 3)) n (by omega);rw [← hZ,size_alloc] at hmk;have HZ:=Qaa hZ;clear hb h8 hk hu hu8 hl hZ;refine (callsIn_wide (n:=5)).1 ?_;refine callsIn_of_wp_marks Tryz.func109 rfl trivial ?_ rfl;simp only [Tryz.ntmps109,List.size_toArray,List.length_cons,List.length_nil,Nat.reduceAdd,Nat.reduceSub,Array.replicate_succ,Array.replicate_zero,List.push_toArray,List.append_toArray,List.nil_append,List.cons_append]
 gi_wp2_with fail
 refine ⟨trivial,(Qg4 _ _ _ _ _ _ _ _).mono ?_⟩;rintro e w2 ⟨rfl,rfl⟩
 gi_wp2_with fail
 obtain ⟨W0,hW0⟩ : ∃ W0,((((w.alloc (.cells #[.int .i64 (n : Int)] 3)).alloc (.cells Z 5)).alloc (.cells #[.slice (some ⟨w.heap.size + 1,0,none⟩) 0 n] 22)).alloc (.cells #[.slice aov lv cv] 22)).alloc (.cells #[.slice aou lu cu] 22) = W0:=⟨_,rfl⟩
 have o0 : Only (fun _ => False) w W0:=by rw [← hW0];exact (((((Only.refl _ w).alloc _).alloc _).alloc _).alloc _).alloc _
 have hsz : W0.heap.size = w.heap.size + 1 + 1 + 1 + 1 + 1:=by rw [← hW0];simp
 have bN : Boxed W0 w.heap.size 3 (.int .i64 (n : Int)):=by rw [← hW0];exact ((((Boxed.new w 3 (.int .i64 (n : Int))).alloc _).alloc _).alloc _).alloc _
 have bX : Boxed W0 (w.heap.size + 1 + 1) 22 (.slice (some ⟨w.heap.size + 1,0,none⟩) 0 n):=by
  have h:=((Boxed.new ((w.alloc (.cells #[.int .i64 (n : Int)] 3)).alloc (.cells Z 5)) 22 (.slice (some ⟨w.heap.size + 1,0,none⟩) 0 n)).alloc (.cells #[.slice aov lv cv] 22)).alloc (.cells #[.slice aou lu cu] 22);rw [World.size_alloc,World.size_alloc,hW0] at h;exact h
 have bK : Boxed W0 (w.heap.size + 1 + 1 + 1) 22 (.slice aov lv cv):=by
  have h:=(Boxed.new (((w.alloc (.cells #[.int .i64 (n : Int)] 3)).alloc (.cells Z 5)).alloc (.cells #[.slice (some ⟨w.heap.size + 1,0,none⟩) 0 n] 22)) 22 (.slice aov lv cv)).alloc (.cells #[.slice aou lu cu] 22);rw [World.size_alloc,World.size_alloc,World.size_alloc,hW0] at h;exact h
 have bI : Boxed W0 (w.heap.size + 1 + 1 + 1 + 1) 22 (.slice aou lu cu):=by
  have h:=Boxed.new ((((w.alloc (.cells #[.int .i64 (n : Int)] 3)).alloc (.cells Z 5)).alloc (.cells #[.slice (some ⟨w.heap.size + 1,0,none⟩) 0 n] 22)).alloc (.cells #[.slice aov lv cv] 22)) 22 (.slice aou lu cu);rw [World.size_alloc,World.size_alloc,World.size_alloc,World.size_alloc,hW0] at h;exact h
 have bG : Blk W0 (w.heap.size + 1) 5 (bl (List.replicate n 0)):=by
  have h:=(((Blk.new (w.alloc (.cells #[.int .i64 (n : Int)] 3)) 5 (bl (List.replicate n 0))).alloc (.cells #[.slice (some ⟨w.heap.size + 1,0,none⟩) 0 n] 22)).alloc (.cells #[.slice aov lv cv] 22)).alloc (.cells #[.slice aou lu cu] 22);rw [← HZ.out,World.size_alloc,hW0] at h;exact h
 have oG : W0.ownsRow w.heap.size 5 1 (.slice (some ⟨w.heap.size + 1,0,none⟩) 0 n) 0 ([] : List Value):=by
  have h:=Qcx (base:=w.heap.size) (n:=0) (cap:=n) bG (by omega) (Nat.zero_le _) (by simp only [maxLen];omega) (by rw [Qah,List.length_replicate]);rw [List.take_zero] at h;exact h
 rw [hW0];have HI0 : (0 = 0 ∨ 32 * 0 < n) ∧ Oq W0 (w.heap.size + 1 + 1) (w.heap.size + 1) w.heap.size n W0 (32 * 0) (tcat key info 0):=⟨.inl rfl,Only.refl _ _,bX,oG⟩
 refine Qfv (c:=.exit 0) (gf:=199) (lb:=#[.pointer (some ⟨w.heap.size + 1 + 1 + 1,0,none⟩),.pointer (some ⟨w.heap.size + 1 + 1 + 1 + 1,0,none⟩)]) rfl (enters_of Tryz.func199 (by kernel_rfl) rfl)
  (fun x : Nat × Nat => #[.slice (some ⟨x.1,0,none⟩) 32 x.2]) (fun _ => rfl)
  (fun s A => (s = 0 ∨ 32 * s < n) ∧ Oq W0 (w.heap.size + 1 + 1) (w.heap.size + 1) w.heap.size n A (32 * s) (tcat key info s))
  (fun _ A => Oq W0 (w.heap.size + 1 + 1) (w.heap.size + 1) w.heap.size n A n (EXPL key info n))
  (fun s x s' A => s' = s + 1 ∧ s < 255 ∧ Bs .u8 A (.slice (some ⟨x.1,0,none⟩) 32 x.2) (tpc key info (s + 1)) ∧ W0.heap.size + 2 ≤ x.1) 0 255
  (fun s A B r hi hl o => ⟨hi.1,hi.2.loop o (by omega) (by omega) (by omega)⟩) (fun s A B r hi hl o => Oq.loop hi o (by omega) (by omega) (by omega)) (fun s A B hi o => ⟨hi.1,hi.2.past o⟩)
  (fun s x s' A B r hv hl o => ⟨hv.1,hv.2.1,hv.2.2.1.loop hl o,hv.2.2.2⟩) HI0
  ?hit (fun x => { tmps:=#[.slice aov lv cv,.slice aou lu cu,.int .i64 (n : Int),undef,undef,.pointer (some ⟨w.heap.size,0,none⟩),.slice none 0 0,.int .i64 0,.pointer (some ⟨w.heap.size + 1 + 1,0,none⟩),.slice (some ⟨x.1,0,none⟩) 32 x.2,.int .i64 (n : Int),.bool false,.bool false,.int .i64 (n : Int),.bool false,.bool false,.int .i64 (n : Int),.slice (some ⟨w.heap.size + 1,0,none⟩) 0 n,.slice aov lv cv,.slice aou lu cu,.func (.func 199) #[] #[.pointer (some ⟨w.heap.size + 1 + 1 + 1,0,none⟩),.pointer (some ⟨w.heap.size + 1 + 1 + 1 + 1,0,none⟩)],.slice (some ⟨x.1,0,none⟩) 32 x.2,undef,undef,undef,undef,undef,undef,undef,undef,undef,undef,undef,undef,undef,undef,undef,undef],defers:=[] }) ?assign ?body ?done ?stop
 case hit =>
  intro J Jx W hJ hJo hY h0 hW;refine QfY 4 (W0.heap.size + 1) (w.heap.size + 1 + 1 + 1) (w.heap.size + 1 + 1 + 1 + 1) W0.heap.size (.slice aov lv cv) aou lu cu key info HB.out.2.1 (by have:=HB.out.2.2.1;omega) HB.out.2.2.2.2.1 HB.out.2.2.2.2.2 J Jx (fun s A hs => ?_) hJo (fun s g c A h3 hs hb hg => hY s (g,c) (s + 1) A hs ⟨rfl,h3,hb,hg⟩) W h0 hW;have o:=(hJ s A hs).2.1;have o' : Only (fun _ => False) w A:=o0.trans o (fun k hk e => by omega);exact ⟨Qay bK o (by omega),Qay bI o (by omega),HB.out.1.past o',HB.out.2.2.2.1.past o'⟩
 case assign =>
  intro x W K hK
  gi_wp2
  exact hK
 case body =>
  rintro s ⟨g,cp⟩ s' W ⟨hs,hq⟩ ⟨rfl,h255,hbs,hg⟩;simp only at hbs hg;have hcx:=hq.2.1.cell;have hcn:=(Qay bN hq.1 (by omega)).cell
  have hcp : 32 ≤ cp:=by
   obtain ⟨_,_,e,h,_⟩:=hbs;simp at e;obtain ⟨_,_,rfl⟩:=e;rw [QbM] at h;exact h
  obtain ⟨a,ha⟩ : ∃ a,a = 32 * s:=⟨_,rfl⟩;have HA:=Qaa ha
  have han : a ≤ n:=by omega
  rw [← ha] at hcx hq;obtain ⟨XS,hXS⟩ : ∃ XS,XS = tcat key info s:=⟨_,rfl⟩;rw [← hXS] at hq;have HXS:=Qaa hXS
  have hT : tcat key info (s + 1) = XS ++ tpc key info (s + 1):=by rw [hXS];rfl
  have HT:=Qaa hT;have htl : (tpc key info (s + 1)).length = 32:=QbM _ _ _;obtain ⟨T,hTT⟩ : ∃ T,T = tpc key info (s + 1):=⟨_,rfl⟩;rw [← hTT] at hbs htl HT;have HQ:=Qaa hq;have HS:=Qaa (And.intro hs (And.intro h255 hg));have HSZ:=Qaa hsz
  have h32 : (32 : Int) ≤ (cp : Int):=by omega
  obtain ⟨r,hr⟩ : ∃ r : Nat,r = n - a:=⟨_,rfl⟩
  have hsub : (n : Int) - (a : Int) = (r : Int):=by omega
  have HR:=Qaa (And.intro hr han)
  have hwr : IntKind.i64.wrap (r : Int) = (r : Int):=by rw [IntKind.wrap_i64];omega
  by_cases hmin : r < 32
  ·have HC : Hid ((((T.take r).map (Value.int .u8)).length = r * 1) ∧ ∀ j v,((T.take r).map (Value.int .u8))[j]? = some v → W.drew.cell? ((⟨g,0,none⟩ : Addr).add j) = some v):=by
    refine ⟨by rw [List.length_map,List.length_take,htl];omega,?_⟩;exact (hbs.head (n:=r) (by omega)).news
   have HFIT : Hid (a + r ≤ n):=by show _ ≤ _;omega
   have m1 : (r : Int) < 32:=by omega
   have m2 : ¬ (32 : Int) < (r : Int):=by omega
   have m3 : (r : Int) ≤ (cp : Int):=by omega
   have dm : decide ((r : Int) < 32) = true:=decide_eq_true m1;clear hs hq hbs hg ha han hXS hT hTT hsz hr hcp
   gi_wp2_with fail
   refine wpIn_mono (Q:=Exit.then (fun a1 W1 => a1 = { tmps:=#[.slice aov lv cv,.slice aou lu cu,.int .i64 (n : Int),undef,undef,.pointer (some ⟨w.heap.size,0,none⟩),.slice none 0 0,.int .i64 0,.pointer (some ⟨w.heap.size + 1 + 1,0,none⟩),.slice (some ⟨g,0,none⟩) 32 cp,.int .i64 (n : Int),.bool false,.bool false,.int .i64 (n : Int),.bool false,.bool false,.int .i64 (n : Int),.slice (some ⟨w.heap.size + 1,0,none⟩) 0 n,.slice aov lv cv,.slice aou lu cu,.func (.func 199) #[] #[.pointer (some ⟨w.heap.size + 1 + 1 + 1,0,none⟩),.pointer (some ⟨w.heap.size + 1 + 1 + 1 + 1,0,none⟩)],.slice (some ⟨g,0,none⟩) 32 cp,.slice (some ⟨w.heap.size + 1,0,none⟩) a n,.slice (some ⟨g,0,none⟩) 32 cp,.slice (some ⟨g,0,none⟩) 32 cp,.int .i64 32,.int .i64 (n : Int),.slice (some ⟨w.heap.size + 1,0,none⟩) a n,.int .i64 (a : Int),.int .i64 (r : Int),.int .i64 (r : Int),.slice (some ⟨g,0,none⟩) r cp,.slice (some ⟨w.heap.size + 1,0,none⟩) (a + r) n,undef,undef,undef,undef,undef],defers:=[] } ∧ ∃ w4,w4.ownsRow w.heap.size 5 1 (.slice (some ⟨w.heap.size + 1,0,none⟩) (a + r) n) (a + r) (XS.map (Value.int .u8) ++ (T.take r).map (Value.int .u8)) ∧ W.drew.grownBy w4 (some (w.heap.size + 1)) ∧ W1 = w4.setCell ⟨w.heap.size + 1 + 1,0,none⟩ (.slice (some ⟨w.heap.size + 1,0,none⟩) (a + r) n)) (fun _ _ _ => False)) ?hr ?hq
   case hr =>
    refine Qbr 10 (by kernel_rfl) (fun ⟨_,_,h⟩ => h) (by kernel_rfl) (by kernel_rfl) ?_;simp only [List.take_succ_cons,List.take_zero,List.drop_succ_cons,List.drop_zero]
    repeat still_step
    refine wpStill_nil ?_;refine wpList_append_fits _ rfl _ _ 22 rfl w.heap.size 5 i0 1 Tryz.underlying22 hi hz1 (w.heap.size + 1) a n (XS.map (Value.int .u8)) rfl HQ.out.2.2 ⟨g,0,none⟩ r cp ((T.take r).map (Value.int .u8)) rfl HC.out.1 HC.out.2 (QaD _ _) HFIT.out ?_;intro w4 hown4 hgrow4;have hc4 : w4.cell? ⟨w.heap.size + 1 + 1,0,none⟩ = some (.slice (some ⟨w.heap.size + 1,0,none⟩) a n):=(World.cell?_of_block (hgrow4.block (w.heap.size + 1 + 1) HQ.out.2.1.lt (fun e => by have:=Option.some.inj e;omega))).trans hcx;have hf4 : w4.frozen? ⟨w.heap.size + 1 + 1,0,none⟩ = false:=((show Boxed W.drew (w.heap.size + 1 + 1) 22 (.slice (some ⟨w.heap.size + 1,0,none⟩) a n) from HQ.out.2.1).kept (W':=w4) hgrow4 (fun e => by have:=Option.some.inj e;omega)).frozen;go_wp2;exact ⟨trivial,w4,hown4,hgrow4,rfl⟩
   intro ex a1 W1 h
   cases ex
   all_goals first | exact False.elim h | skip
   obtain ⟨rfl,w4,hown4,hgrow4,rfl⟩:=h
   have hne1 : w.heap.size + 1 + 1 ≠ w.heap.size + 1:=by omega
   have FIN0:=HQ.out.stored (m':=a + r) (ys:=XS ++ T.take r) hne1 (by have:=HSZ.out;omega) (by have:=HSZ.out;omega) (by rw [List.map_append];exact hown4) hgrow4;obtain ⟨W5,hW5⟩ : ∃ W5,W5 = w4.setCell ⟨w.heap.size + 1 + 1,0,none⟩ (.slice (some ⟨w.heap.size + 1,0,none⟩) (a + r) n):=⟨_,rfl⟩;rw [← hW5] at FIN0 ⊢;have hx5:=FIN0.2.2.1.cell;have hn5:=(Qay bN FIN0.2.1 (by omega)).cell;have FIN:=Qaa FIN0;clear FIN0 hW5 hown4 hgrow4 hcx hcn HQ HC
   have e1 : XS ++ T.take r = EXPL key info n:=by
    have h1:=HA.out;have h2:=HR.out
    have hxl : XS.length = a:=by rw [HXS.out,Qbj,h1]
    have hx : XS.take n = XS:=List.take_of_length_le (by rw [hxl];exact h2.2);rw [← Qfh key info n (s + 1) (by omega),HT.out,List.take_append,hx,hxl,← h2.1]
   have hne : a + r = n:=by have:=HR.out;omega
   rw [e1] at FIN;obtain ⟨m,hm⟩ : ∃ m,m = a + r:=⟨_,rfl⟩;rw [← hm] at FIN hx5 hne ⊢
   have hd1 : ((m : Int) == (n : Int)) = true:=by rw [hne];simp
   have HM:=Qaa hne;clear hm hne e1 hsub
   gi_wp2
   refine ⟨rfl,FIN.out.1,?_⟩;have:=FIN.out.2;rw [HM.out] at this;exact this
  ·have HC : Hid (((T.map (Value.int .u8)).length = 32 * 1) ∧ ∀ j v,(T.map (Value.int .u8))[j]? = some v → W.drew.cell? ((⟨g,0,none⟩ : Addr).add j) = some v):=by
    refine ⟨by rw [List.length_map,htl],?_⟩;exact hbs.news
   have HFIT : Hid (a + 32 ≤ n):=by show _ ≤ _;omega
   have m1 : ¬ (r : Int) < 32:=by omega
   have m2 : (32 : Int) ≤ (r : Int):=by omega
   have dm : (if (r : Int) < 32 then (r : Int) else 32) = 32:=if_neg m1;clear m1;clear hs hq hbs hg ha han hXS hT hTT hsz hr hcp
   gi_wp2_with fail
   refine wpIn_mono (Q:=Exit.then (fun a1 W1 => a1 = { tmps:=#[.slice aov lv cv,.slice aou lu cu,.int .i64 (n : Int),undef,undef,.pointer (some ⟨w.heap.size,0,none⟩),.slice none 0 0,.int .i64 0,.pointer (some ⟨w.heap.size + 1 + 1,0,none⟩),.slice (some ⟨g,0,none⟩) 32 cp,.int .i64 (n : Int),.bool false,.bool false,.int .i64 (n : Int),.bool false,.bool false,.int .i64 (n : Int),.slice (some ⟨w.heap.size + 1,0,none⟩) 0 n,.slice aov lv cv,.slice aou lu cu,.func (.func 199) #[] #[.pointer (some ⟨w.heap.size + 1 + 1 + 1,0,none⟩),.pointer (some ⟨w.heap.size + 1 + 1 + 1 + 1,0,none⟩)],.slice (some ⟨g,0,none⟩) 32 cp,.slice (some ⟨w.heap.size + 1,0,none⟩) a n,.slice (some ⟨g,0,none⟩) 32 cp,.slice (some ⟨g,0,none⟩) 32 cp,.int .i64 32,.int .i64 (n : Int),.slice (some ⟨w.heap.size + 1,0,none⟩) a n,.int .i64 (a : Int),.int .i64 (r : Int),.int .i64 32,.slice (some ⟨g,0,none⟩) 32 cp,.slice (some ⟨w.heap.size + 1,0,none⟩) (a + 32) n,undef,undef,undef,undef,undef],defers:=[] } ∧ ∃ w4,w4.ownsRow w.heap.size 5 1 (.slice (some ⟨w.heap.size + 1,0,none⟩) (a + 32) n) (a + 32) (XS.map (Value.int .u8) ++ (T).map (Value.int .u8)) ∧ W.drew.grownBy w4 (some (w.heap.size + 1)) ∧ W1 = w4.setCell ⟨w.heap.size + 1 + 1,0,none⟩ (.slice (some ⟨w.heap.size + 1,0,none⟩) (a + 32) n)) (fun _ _ _ => False)) ?hr2 ?hq2
   case hr2 =>
    refine Qbr 10 (by kernel_rfl) (fun ⟨_,_,h⟩ => h) (by kernel_rfl) (by kernel_rfl) ?_;simp only [List.take_succ_cons,List.take_zero,List.drop_succ_cons,List.drop_zero]
    repeat still_step
    refine wpStill_nil ?_;refine wpList_append_fits _ rfl _ _ 22 rfl w.heap.size 5 i0 1 Tryz.underlying22 hi hz1 (w.heap.size + 1) a n (XS.map (Value.int .u8)) rfl HQ.out.2.2 ⟨g,0,none⟩ 32 cp ((T).map (Value.int .u8)) rfl HC.out.1 HC.out.2 (QaD _ _) HFIT.out ?_;intro w4 hown4 hgrow4;have hc4 : w4.cell? ⟨w.heap.size + 1 + 1,0,none⟩ = some (.slice (some ⟨w.heap.size + 1,0,none⟩) a n):=(World.cell?_of_block (hgrow4.block (w.heap.size + 1 + 1) HQ.out.2.1.lt (fun e => by have:=Option.some.inj e;omega))).trans hcx;have hf4 : w4.frozen? ⟨w.heap.size + 1 + 1,0,none⟩ = false:=((show Boxed W.drew (w.heap.size + 1 + 1) 22 (.slice (some ⟨w.heap.size + 1,0,none⟩) a n) from HQ.out.2.1).kept (W':=w4) hgrow4 (fun e => by have:=Option.some.inj e;omega)).frozen;go_wp2;exact ⟨trivial,w4,hown4,hgrow4,rfl⟩
   intro ex a1 W1 h
   cases ex
   all_goals first | exact False.elim h | skip
   obtain ⟨rfl,w4,hown4,hgrow4,rfl⟩:=h
   have hne1 : w.heap.size + 1 + 1 ≠ w.heap.size + 1:=by omega
   have FIN0:=HQ.out.stored (m':=a + 32) (ys:=XS ++ T) hne1 (by have:=HSZ.out;omega) (by have:=HSZ.out;omega) (by rw [List.map_append];exact hown4) hgrow4;obtain ⟨W5,hW5⟩ : ∃ W5,W5 = w4.setCell ⟨w.heap.size + 1 + 1,0,none⟩ (.slice (some ⟨w.heap.size + 1,0,none⟩) (a + 32) n):=⟨_,rfl⟩;rw [← hW5] at FIN0 ⊢;have hx5:=FIN0.2.2.1.cell;have hn5:=(Qay bN FIN0.2.1 (by omega)).cell;have FIN:=Qaa FIN0;clear FIN0 hW5 hown4 hgrow4 hcx hcn HQ HC;rw [← HT.out] at FIN
   have hs1 : 32 * (s + 1) = a + 32:=by have:=HA.out;omega
   by_cases heq : a + 32 = n
   ·have e1 : tcat key info (s + 1) = EXPL key info n:=by
     rw [← Qfh key info n (s + 1) (by omega),List.take_of_length_le (by rw [Qbj];omega)]
    rw [e1] at FIN;obtain ⟨m,hm⟩ : ∃ m,m = a + 32:=⟨_,rfl⟩;rw [← hm] at FIN hx5 heq ⊢
    have hd1 : ((m : Int) == (n : Int)) = true:=by rw [heq];simp
    have HM:=Qaa heq;clear hm heq e1 hsub hs1
    gi_wp2
    refine ⟨rfl,FIN.out.1,?_⟩;have:=FIN.out.2;rw [HM.out] at this;exact this
   ·have hlt : 32 * (s + 1) < n:=by have:=HR.out;omega
    have HLT:=Qaa hlt;rw [← hs1] at FIN hx5 ⊢;obtain ⟨m,hm⟩ : ∃ m,m = 32 * (s + 1):=⟨_,rfl⟩;rw [← hm] at FIN hx5 ⊢
    have hd1 : ((m : Int) == (n : Int)) = false:=by rw [beq_eq_false_iff_ne];omega
    have HM:=Qaa hm;clear hm heq hsub hs1 hlt
    gi_wp2
    refine ⟨FIN.out.1,.inr HLT.out,?_⟩;rw [← HM.out];exact FIN.out.2
 case done =>
  intro W hi hD
  rcases hi.1 with h | h
  ·cases h
  ·exact absurd h (by omega)
 case stop =>
  intro s W hi hD;rw [hsz] at hD;have hc:=hi.2.1.cell;have HO:=Qaa hi.2.2;have O1:=Qaa hi.1;have HD:=Qaa hD;clear hi hD
  gi_wp2
  refine ⟨by simp,.inl ⟨_,_,rfl,run_takeDeferred HD.out,?_⟩⟩;refine ⟨.tuple #[.slice (some ⟨w.heap.size + 1,0,none⟩) n n,.int .i64 0],?_,_,rfl,ownsRow_putObj HO.out _ HD.out rfl,?_⟩
  ·simp [results,Tryz.f109,go_sem]
  ·exact (o0.trans O1.out (fun k hk e => by omega)).putObj _ _ (fun hk => by omega)
end
theorem QgI (vk : Value) (key : List Int) (p : Int) (t : ByteArray) (hk : key.length = 32) (k8 : U8 key) (hp : 0 ≤ p ∧ p ≤ 255) (ht : t.size ≤ 64) (w : World) (bk : Bs .u8 w vk key) :
  Calls Tryz.prog 79 #[vk,.int .u8 p,.string t] w fun e w' => ∃ v,e = .returned (.tuple #[v,.int .i64 0]) ∧ w'.ownsRow w.heap.size 5 1 v 32 (bl (KDV key p (sb t))) ∧ Only (fun _ => False) w w':=by
 have I:=Qaa (Qif p t (by omega) w)
 have d1 : decide (64 < (t.size : Int)) = false:=by simp;omega
 have d2 : decide (64 < t.size) = false:=by simp;omega
 obtain ⟨ko,kc,rfl,_⟩:=bk.formN hk
 have HL : Hid ((KTX p (sb t)).length ≤ 66 ∧ U8 (KTX p (sb t))):=by
  refine ⟨?_,Qjp hp (QfA t)⟩;rw [QgL _ _ (by rw [QaB];omega),QaB];omega
 have E:=Qaa (fun (a : Option Addr) (l c : Nat) (W : World) (o : Only (fun _ => False) w W) (b : Bs .u8 W (.slice a l c) (KTX p (sb t))) => Qgw ko 32 kc a l c key (KTX p (sb t)) 32 W (bk.past o) k8 (by omega) b HL.out.2 (by have:=HL.out.1;omega) (by decide));rw [show ((32 : Nat) : Int) = 32 from rfl] at E;have HX : Hid (EXPL key (KTX p (sb t)) 32 = KDV key p (sb t)):=rfl;rw [HX.out] at E;obtain ⟨X,hX⟩ : ∃ X,X = KTX p (sb t):=⟨_,rfl⟩;rw [← hX] at I HL E;clear bk k8 hk hp hX HX;go_enter Tryz.func79,Tryz.ntmps79;go_wp2_with fail;refine I.out.mono ?_;rintro e w1 ⟨v1,rfl,own1,o1⟩;obtain ⟨a1,c1,rfl⟩:=Qad own1;have E1:=Qaa (E.out a1 X.length c1 w1 o1 (Bs.of_own (k:=.u8) own1));have O1:=Qaa o1;obtain ⟨m,hm⟩ : ∃ m,m = X.length:=⟨_,rfl⟩;rw [← hm] at E1 ⊢;clear own1 o1 I E hm;go_wp2_with fail;refine E1.out.mono ?_;rintro e w2 ⟨v2,rfl,own2,o2⟩;have F:=Qaa (And.intro (Qal own2 O1.out.size) (O1.out.same o2));clear own2 o2 E1 O1;go_wp2;go_ret2;exact ⟨_,rfl,F.out⟩
theorem QfT (ko : Option Addr) (kl kc : Nat) (p : Value) (t : ByteArray) (h : kl ≠ 32) (w : World) :
  Calls Tryz.prog 79 #[.slice ko kl kc,p,.string t] w fun e w' => e = .returned (.tuple #[.slice none 0 0,.int .i64 1]) ∧ Only (fun _ => False) w w':=by
 have h3 : ((kl : Int) != 32) = true:=by simp;omega
 clear h;go_enter Tryz.func79,Tryz.ntmps79;go_wp2;go_ret2;exact ⟨rfl,Only.refl _ _⟩
theorem QeJ (ko : Option Addr) (kc : Nat) (p : Value) (t : ByteArray) (h : 64 < t.size) (w : World) :
  Calls Tryz.prog 79 #[.slice ko 32 kc,p,.string t] w fun e w' => e = .returned (.tuple #[.slice none 0 0,.int .i64 4]) ∧ Only (fun _ => False) w w':=by
 have d1 : decide (64 < (t.size : Int)) = true:=by simp;omega
 have d2 : decide (64 < t.size) = true:=by simp;omega
 go_enter Tryz.func79,Tryz.ntmps79;go_wp2;go_ret2;exact ⟨rfl,Only.refl _ _⟩
theorem QfU (vk : Value) (key : List Int) (p : Int) (t : ByteArray) (k8 : U8 key) (hp : 0 ≤ p ∧ p ≤ 255) (w : World) (bk : Bs .u8 w vk key) :
  Calls Tryz.prog 79 #[vk,.int .u8 p,.string t] w fun e w' => ∃ v,e = .returned (.tuple #[v,.int .i64 (KDe key (sb t))]) ∧ w'.ownsRow w.heap.size 5 1 v (KDt key p (sb t)).length (bl (KDt key p (sb t))) ∧ Only (fun _ => False) w w':=by
 by_cases hk : key.length = 32
 ·by_cases ht : t.size ≤ 64
  ·have e1 : KDe key (sb t) = 0:=by unfold KDe;rw [if_pos hk,QaB,if_pos ht]
   have e2 : KDt key p (sb t) = KDV key p (sb t):=by unfold KDt;rw [if_pos hk,QaB,if_pos ht]
   rw [e1,e2,QgM];exact QgI vk key p t hk k8 hp ht w bk
  ·have e1 : KDe key (sb t) = 4:=by unfold KDe;rw [if_pos hk,QaB,if_neg ht]
   have e2 : KDt key p (sb t) = []:=by unfold KDt;rw [if_pos hk,QaB,if_neg ht]
   rw [e1,e2];obtain ⟨ko,kc,rfl,_⟩:=bk.formN hk;exact (QeJ ko kc (.int .u8 p) t (by omega) w).mono (fun _ _ ⟨h1,h2⟩ => ⟨_,h1,World.ownsRow_nil ..,h2⟩)
 ·have e1 : KDe key (sb t) = 1:=by unfold KDe;rw [if_neg hk]
  have e2 : KDt key p (sb t) = []:=by unfold KDt;rw [if_neg hk]
  rw [e1,e2];obtain ⟨ko,kc,rfl⟩:=bk.len;exact (QfT ko key.length kc (.int .u8 p) t hk w).mono (fun _ _ ⟨h1,h2⟩ => ⟨_,h1,World.ownsRow_nil ..,h2⟩)
theorem QgJ : sb ⟨#[]⟩ = []:=rfl
theorem QeK (vk : Value) (key : List Int) (p : Int) (k8 : U8 key) (hp : 0 ≤ p ∧ p ≤ 255) (w : World) (bk : Bs .u8 w vk key) :
  Calls Tryz.prog 79 #[vk,.int .u8 p,.string ⟨#[]⟩] w fun e w' => ∃ v,e = .returned (.tuple #[v,.int .i64 (KDe key [])]) ∧ w'.ownsRow w.heap.size 5 1 v (KDt key p []).length (bl (KDt key p [])) ∧ Only (fun _ => False) w w':=by
 have:=QfU vk key p ⟨#[]⟩ k8 hp w bk;rw [QgJ] at this;exact this
theorem Qdi (vk : Value) (key : List Int) (k8 : U8 key) (w : World) (bk : Bs .u8 w vk key) :
  Calls Tryz.prog 74 #[vk] w fun e w' => ∃ v,e = .returned (.tuple #[v,.int .i64 (KDe key [])]) ∧ w'.ownsRow w.heap.size 5 1 v (KDt key 4 []).length (bl (KDt key 4 [])) ∧ Only (fun _ => False) w w':=by
 have A:=Qaa (QeK vk key 4 k8 (by decide) w bk);obtain ⟨E,hE⟩ : ∃ E,E = KDe key []:=⟨_,rfl⟩;rw [← hE] at A ⊢;clear k8 bk hE;go_enter Tryz.func74,Tryz.ntmps74;go_wp2_with fail;refine A.out.mono ?_;rintro e w1 ⟨v1,rfl,own1,o1⟩;have F:=Qaa (And.intro own1 o1);clear own1 o1 A;go_wp2;go_ret2;exact ⟨_,rfl,F.out⟩
end Go.Proofs.YtcpopagikbjimaaGreatDoor
