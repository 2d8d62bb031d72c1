import Derived.Test.YtcpopagikbjimaaGreatDoorG16
namespace Go.Proofs.YtcpopagikbjimaaGreatDoor
set_option maxHeartbeats 3200000
set_option maxRecDepth 100000
open Go.RowKit
theorem QkV (key info : List Int) (j : Nat) : U8 (tpc key info j):=by
 cases j with
 | zero => intro y hy;cases hy
 | succ j => exact Qcy _ _
theorem QkW (key info : List Int) (j : Nat) : (tpc key info j).length ≤ 32:=by
 cases j with
 | zero => exact Nat.zero_le _
 | succ j => exact Nat.le_of_eq (QbM _ _ _)
theorem QiK (key info : List Int) (n j : Nat) (h1 : n ≤ 32 * j) (h2 : j = 0 ∨ 32 * (j - 1) < n) : (tcat key info j).take n = EXPL key info n:=by
 have : (n + 31) / 32 = j:=by rcases h2 with h | h <;> omega
 unfold EXPL;rw [this]
theorem Qf7 (v u : Value) (key info : List Int) (n : Nat) (w : World) (hb : Bs .u8 w v key) (nc : NoCap v) (h8 : U8 key) (hk : key.length ≤ 1000000) (hu : Bs .u8 w u info) (ncu : NoCap u) (hu8 : U8 info) (hl : info.length ≤ 100000) (hn : n ≤ 8160) :
  Calls Tryz.prog 84 #[v,u,.int .i64 (n : Int)] w fun e w' => ∃ r,e = .returned (.tuple #[r,.int .i64 0]) ∧ Bs .u8 w' r (EXPL key info n) ∧ Only (fun _ => False) w w':=by
 obtain ⟨i0,hi,hz0,hz1,hz2⟩:=info_parts Tryz.infoU8;have HM:=Qaa (fun w1 (o : Only (fun _ => False) w w1) t b (h1 : Bs .u8 w1 t b) (h2 : NoCap t) (h3 : U8 b) (h4 : b.length ≤ 900000) => Qhe v t key b w1 (hb.past o) nc h8 hk h1 h2 h3 h4);have HU:=Qaa (And.intro hu (And.intro ncu (And.intro hu8 hl)));have d1 : decide ((n : Int) < 0) = false:=decide_eq_false (by omega);have d2 : decide ((8160 : Int) < (n : Int)) = false:=decide_eq_false (by omega);have d2' : decide (8160 < n) = false:=decide_eq_false (by omega)
 obtain ⟨F,hF⟩ : ∃ F : Nat → List Value,F = fun j => (tcat key info j).map (Value.int .u8):=⟨_,rfl⟩
 have F0 : Hid (F 0 = []):=by rw [hF];rfl
 have FN : Hid (∀ j,F (j + 1) = F j ++ (tpc key info (j + 1)).map (Value.int .u8)):=fun j => by
  rw [hF];simp only;rw [tcat,List.map_append]
 have HF:=Qaa hF;obtain ⟨aou,capu,rfl⟩:=hu.len;obtain ⟨m,hm⟩ : ∃ m,m = info.length:=⟨_,rfl⟩;rw [← hm] at HU ⊢;have HN:=Qaa hm;clear hb nc h8 hk hu ncu hu8 hl hm hF;go_enter Tryz.func84,Tryz.ntmps84;go_wp2
 go_loopw [8,9,10] (fun o t i wr => ∃ j : Nat,(j = 0 ∨ 32 * (j - 1) < n) ∧ j ≤ 255 ∧ i = .int .i64 ((j + 1 : Nat) : Int) ∧ Hid (wr.ownsRow w.heap.size 5 1 o (32 * j) (F j)) ∧ Hid (Bs .u8 wr t (tpc key info j)) ∧ Hid (NoCap t) ∧ Hid (∀ k,t.ownBlock = some k → o.ownBlock = some k → False) ∧ Hid (Only (fun _ => False) w wr)) (fun _ _ i _ => 256 - (intOf i).toNat)
 case atStart => exact ⟨0,.inl rfl,by omega,rfl,⟨by rw [F0.out];rfl,.inl ⟨rfl,rfl⟩⟩,Bs.nil _ _,NoCap.nil,(fun k h => by cases h),Only.refl _ _⟩
 case round =>
  obtain ⟨j,hj1,hj2,rfl,HO,HT,HC,HS,HW⟩:=hrel;obtain ⟨aoo,capo,eo⟩:=Qad HO.out;subst eo
  by_cases hlt : 32 * j < n
  ·have dlt : decide (((32 * j : Nat) : Int) < (n : Int)) = true:=decide_eq_true (by omega)
   have dlt' : decide (32 * j < n) = true:=decide_eq_true hlt;obtain ⟨a,ha⟩ : ∃ a,a = 32 * j:=⟨_,rfl⟩;have HA:=Qaa ha;rw [← ha] at dlt dlt' HO HS ⊢;have dlt2 : decide ((a : Int) < (n : Int)) = true:=dlt;obtain ⟨q,hq⟩ : ∃ q,q = j + 1:=⟨_,rfl⟩;have HQ:=Qaa hq;rw [← hq];obtain ⟨ta,tc,et⟩:=HT.out.len;obtain ⟨L,hL⟩ : ∃ L,L = tpc key info j:=⟨_,rfl⟩;have hLl:=QkW key info j;have hL8:=QkV key info j;rw [← hL] at et hLl hL8;obtain ⟨p,hp⟩ : ∃ p,p = L.length:=⟨_,rfl⟩;rw [← hp] at et;subst et;rw [← hL] at HT;have HP:=Qaa (And.intro hp (And.intro hL hLl));have HL8:=Qaa hL8;have HTP:=Qaa hL;have ho:=World.ownsRow_made (base:=wr.heap.size) (e:=5) (size:=1) wr #[] 0 (Nat.le_refl _) (by unfold maxLen;omega) rfl;have T1:=Qaa (HT.out.past ((Only.refl (fun _ => False) wr).alloc (.cells #[] 5)));have U1:=Qaa (HU.out.1.past HW.out);have HJ:=Qaa (And.intro hj1 (And.intro hj2 hlt));obtain ⟨WR,hWR⟩ : ∃ WR,WR = wr:=⟨_,rfl⟩;subst hWR
   have hqb : (q : Int) ≤ 256:=by omega
   clear ha hq hp hL hLl hL8 hj1 hlt
   have hq0 : (q : Int) % 256 = (((j + 1) % 256 : Nat) : Int):=by rw [HQ.out];omega
   have HQ0:=Qaa hq0;clear hq0
   go_wp2_with (first
    | (at_builtin;refine Qac _ rfl _ _ 22 rfl WR.heap.size 5 i0 (.int .u8 0) 1 Tryz.underlying22 hi hz0 hz1 hz2 rfl (.slice (some ⟨WR.heap.size,0,none⟩) 0 0) 0 [] rfl ho .u8 (.slice ta p tc) L rfl T1.out HC.out (by have:=HP.out.2.2;simp only [maxLen];omega) (by have:=HP.out.2.2;omega) (by simp) ?_;intro v1 w1 hown1 hgrow1 hnil1 hob1)
    | (at_builtin;refine Qac _ rfl _ _ 22 rfl WR.heap.size 5 i0 (.int .u8 0) 1 Tryz.underlying22 hi hz0 hz1 hz2 rfl v1 (0 + L.length) _ rfl hown1 .u8 (.slice aou m capu) info rfl (U1.out.past (((Only.refl (fun _ => False) WR).alloc (.cells #[] 5)).grown hgrow1 (fun k hk e => by simp [Value.ownBlock] at e;omega))) HU.out.2.1 (by have:=HP.out.2.2;have:=HU.out.2.2.2;have:=HN.out;simp only [maxLen];omega) (by have:=HP.out.2.2;have:=HU.out.2.2.2;have:=HN.out;omega) (by have:=hgrow1.size;simp at this ⊢;omega) ?_;intro v2 w2 hown2 hgrow2 hnil2 hob2)
    | (at_builtin;refine Qac _ rfl _ _ 22 rfl WR.heap.size 5 i0 (.int .u8 0) 1 Tryz.underlying22 hi hz0 hz1 hz2 rfl v2 (0 + L.length + info.length) _ rfl (hown2.alloc _) .u8 _ [(q : Int) % 256] rfl (Bs.litN .u8 w2 5 [(q : Int) % 256] _ _ rfl rfl) (NoCap.some _ _ _) (by have:=HP.out.2.2;have:=HU.out.2.2.2;have:=HN.out;simp [maxLen];omega) (by have:=HP.out.2.2;have:=HU.out.2.2.2;have:=HN.out;simp;omega) (by have:=hgrow1.size;have:=hgrow2.size;simp at *;omega) ?_;intro v3 w3 hown3 hgrow3 hnil3 hob3))
   have o1 : Only (fun _ => False) WR w1:=((Only.refl _ _).alloc _).grown hgrow1 (fun k hk e => by simp [Value.ownBlock] at e;omega);have o2 : Only (fun _ => False) WR w2:=o1.grown hgrow2 (fun k hk e => by have:=hown1.lt k e;omega);have o3 : Only (fun _ => False) WR w3:=(o2.alloc _).grown hgrow3 (fun k hk e => by have:=hown2.lt k e;omega)
   have b3 : Bs .u8 w3 v3 (L ++ info ++ [(((j + 1) % 256 : Nat) : Int)]):=Bs.of_own (by
    rw [← HQ0.out,List.length_append,List.length_append,List.map_append,List.map_append];have:=hown3;rw [Nat.zero_add,List.nil_append] at this
    exact this)
   have hb38 : U8 (L ++ info ++ [(((j + 1) % 256 : Nat) : Int)]):=(HL8.out.app HU.out.2.2.1).app (fun y hy => by
    rw [List.mem_singleton] at hy;subst hy;omega)
   have O3:=Qaa (HW.out.same o3);have M:=Qaa (HM.out w3 O3.out v3 _ b3 (NoCap.of_own hown3) hb38 (by have:=HP.out.2.2;have:=HU.out.2.2.2;have:=HN.out;rw [List.length_append,List.length_append];simp only [List.length_singleton];omega))
   have hT : MACL key (L ++ info ++ [(((j + 1) % 256 : Nat) : Int)]) = tpc key info (j + 1):=by rw [HTP.out];rfl
   rw [hT] at M;have HO3:=Qaa (o3.own HO.out (fun _ _ f => f))
   have HLT : Hid (∀ k,(Value.slice aoo a capo).ownBlock = some k → k < w3.heap.size):=fun k hk => by
    have:=(HO.out.lt k hk).2;have:=o3.size;omega
   obtain ⟨a3,c3,e3⟩:=Qad hown3;subst e3;clear hown1 hgrow1 hnil1 hob1 hown2 hgrow2 hnil2 hob2 hown3 hgrow3 hnil3 hob3 o1 o2 o3 b3 hb38 hT ho T1 U1 HO HT HC HS HTP HL8;go_wp2_with fail;refine M.out.mono ?_;rintro e w4 ⟨v4,rfl,own4,on4⟩;have hl4 : (tpc key info (j + 1)).length = 32:=QbM _ _ _;obtain ⟨T4,hT4⟩ : ∃ T4,T4 = tpc key info (j + 1):=⟨_,rfl⟩;have HFN:=Qaa (FN.out j);rw [← hT4] at own4 hl4 HFN;have b4 : Bs .u8 w4 v4 T4:=Bs.of_own (by rw [hl4];exact own4);have H4:=Qaa (And.intro own4 (And.intro b4 hl4));have HO4:=Qaa (on4.own HO3.out (fun _ _ f => f));have O4:=Qaa (O3.out.same on4);have HLT4 : Hid (∀ k,(Value.slice aoo a capo).ownBlock = some k → k < w3.heap.size):=HLT;have hs4:=O4.out.size;have HT4:=Qaa hT4;obtain ⟨a4,c4,e4⟩:=Qad own4;subst e4;clear M own4 on4 b4 hl4 hT4 HO3 HLT O3;go_wp2_with (at_builtin;refine Qac _ rfl _ _ 22 rfl w.heap.size 5 i0 (.int .u8 0) 1 Tryz.underlying22 hi hz0 hz1 hz2 rfl (.slice aoo a capo) a (F j) rfl HO4.out .u8 (.slice a4 32 c4) T4 rfl H4.out.2.1 (NoCap.of_own H4.out.1) (by have:=H4.out.2.2;have:=HA.out;simp only [maxLen];omega) (by have:=H4.out.2.2;have:=HA.out;omega) hs4 ?_;intro v5 w5 hown5 hgrow5 hnil5 hob5)
   have N1 : Hid (w5.ownsRow w.heap.size 5 1 v5 (32 * (j + 1)) (F (j + 1))):=by
    show _
    have e : 32 * (j + 1) = a + T4.length:=by rw [H4.out.2.2,HA.out];omega
    rw [e,HFN.out];exact hown5
   have N2 : Hid (Bs .u8 w5 (.slice a4 32 c4) (tpc key info (j + 1))):=by
    show _
    rw [← HT4.out];refine H4.out.2.1.keep ((Only.refl (fun k => (Value.slice aoo a capo).ownBlock = some k) w4).grown hgrow5 (fun k hk e => e)) (fun k hk e => ?_);have h1:=HLT4.out k e;have h2:=(H4.out.1.lt k hk).1;omega
   have N3 : Hid (NoCap (.slice a4 32 c4)):=NoCap.of_own H4.out.1
   have N4 : Hid (∀ k,(Value.slice a4 32 c4).ownBlock = some k → v5.ownBlock = some k → False):=fun k hk e => by
    have h2:=H4.out.1.lt k hk
    rcases hob5 with h | h
    ·rw [h] at e
     have h1:=HLT4.out k e;omega
    ·rw [h] at e;cases e;omega
   have N5 : Hid (Only (fun _ => False) w w5):=O4.out.grown hgrow5 (fun k hk e => by have:=HO4.out.lt k e;omega);clear hown5 hgrow5 hnil5 hob5 HO4 H4 O4 HFN HT4 HLT4 hs4;go_wp2
   go_roundw
   case rel => exact ⟨j + 1,.inr (by rw [Nat.add_sub_cancel];exact HJ.out.2.2),by have:=HJ.out.2.2;omega,by rw [HQ.out];go_num,N1,N2,N3,N4,N5⟩
   case measure => have:=HQ.out;have:=HJ.out.2.2;simp [intOf];omega
  ·have dlt : decide (((32 * j : Nat) : Int) < (n : Int)) = false:=decide_eq_false (by omega)
   have dlt' : decide (32 * j < n) = false:=decide_eq_false hlt;have hE:=QiK key info n j (by omega) hj1
   have bo : Bs .u8 wr (.slice aoo (32 * j) capo) (tcat key info j):=Bs.of_own (by
    have h:=HO.out;rw [HF.out] at h
    rw [Qbj];exact h)
   have bh:=bo.head (n:=n) (by omega);rw [hE] at bh
   have hc : 32 * j ≤ capo:=by
    obtain ⟨_,_,e,h,_⟩:=bo;simp at e;obtain ⟨_,_,rfl⟩:=e;rw [Qbj] at h;exact h
   obtain ⟨a,ha⟩ : ∃ a,a = 32 * j:=⟨_,rfl⟩;rw [← ha] at dlt dlt' ⊢
   have h1 : (n : Int) ≤ (capo : Int):=by omega
   have h0 : (0 : Int) ≤ (n : Int):=by omega
   have dlt2 : decide ((a : Int) < (n : Int)) = false:=dlt;have BH:=Qaa bh;clear hE bo bh hc ha hj1 hlt HO HS HT HC;go_wp2;go_ret2;exact ⟨_,rfl,BH.out,HW.out⟩
theorem QfZ (vk : Value) (key : List Int) (p : Int) (t : ByteArray) (hk : key.length = 32) (k8 : U8 key) (nk : NoCap vk) (hp : 0 ≤ p ∧ p ≤ 255) (ht : t.size ≤ 64) (w : World) (bk : Bs .u8 w vk key) :
  Calls Tryz.prog 53 #[vk,.int .u8 p,.string t] w fun e w' => ∃ v,e = .returned (.tuple #[v,.int .i64 0]) ∧ Bs .u8 w' v (KDV key p (sb t)) ∧ Only (fun _ => False) w w':=by
 obtain ⟨i0,hi,hz0,hz1,hz2⟩:=info_parts Tryz.infoU8;have hcv:=Qcb t;have hge:=grownCap_ge (w.alloc (.cells #[.int .u8 p] 5)) t.size 0 5;obtain ⟨c,hc⟩ : ∃ c,c = grownCap (w.alloc (.cells #[.int .u8 p] 5)) t.size 0 5:=⟨_,rfl⟩;rw [← hc] at hge;have o1 : Only (fun _ => False) w (w.alloc (.cells #[.int .u8 p] 5)):=(Only.refl _ _).alloc _;have b0 : (w.alloc (.cells #[.int .u8 p] 5)).ownsRow w.heap.size 5 1 (.slice (some ⟨w.heap.size,0,none⟩) 1 1) 1 (bl [p]):=QfN (Blk.new w 5 (bl [p])) (Nat.le_refl _) (by unfold maxLen;omega) rfl;have o2 : Only (fun _ => False) (w.alloc (.cells #[.int .u8 p] 5)) ((w.alloc (.cells #[.int .u8 p] 5)).alloc (QaY t c)).drew:=((Only.refl _ _).alloc _).drew;have A:=Qaa (Qbu (.slice (some ⟨w.heap.size + 1,0,none⟩) t.size c) (sb t) ((w.alloc (.cells #[.int .u8 p] 5)).alloc (QaY t c)).drew (QbO (QbB (Qak (by simp))) (by omega)) (NoCap.some _ _ _) (by rw [QaB];omega))
 have d1 : decide (64 < (t.size : Int)) = false:=by simp;omega
 have d2 : decide (64 < t.size) = false:=by simp;omega
 obtain ⟨ko,kc,rfl,_⟩:=bk.formN hk
 have HL : Hid ((KTX p (sb t)).length ≤ 66 ∧ U8 (KTX p (sb t)) ∧ (blk (sb t)).length ≤ 100):=by
  refine ⟨?_,Qjp hp (QfA t),?_⟩
  ·rw [QgL _ _ (by rw [QaB];omega),QaB];omega
  ·have:=Qcv (sb t) (by rw [QaB];omega)
   rw [QaB] at this;omega
 have E:=Qaa (fun (u : Value) (W : World) (o : Only (fun _ => False) w W) (b : Bs .u8 W u (KTX p (sb t))) (nu : NoCap u) => Qf7 (.slice ko 32 kc) u key (KTX p (sb t)) 32 W (bk.past o) nk k8 (by omega) b nu HL.out.2.1 (by have:=HL.out.1;omega) (by decide));rw [show ((32 : Nat) : Int) = 32 from rfl] at E;have HV : Hid (EXPL key (KTX p (sb t)) 32 = KDV key p (sb t)):=rfl;rw [HV.out] at E;have P0:=Qaa (And.intro (o2.own b0 (fun _ _ f => f)) (o1.same o2));have HX : Hid ([p] ++ blk (sb t) = KTX p (sb t)):=rfl;obtain ⟨X,hX⟩ : ∃ X,X = blk (sb t):=⟨_,rfl⟩;rw [← hX] at A HL HX;clear o1 b0 o2 hge hX HV bk nk k8 hk hp;go_enter Tryz.func53,Tryz.ntmps53;go_wp2_with fail;rw [← hc];refine A.out.mono ?_;rintro e w1 ⟨v1,rfl,own1,o1⟩;have OW0 : Hid (w1.ownsRow w.heap.size 5 1 (.slice (some ⟨w.heap.size,0,none⟩) 1 1) 1 (bl [p])):=o1.own P0.out.1 (fun _ _ f => f);have B1 : Hid (Bs .u8 w1 v1 X ∧ NoCap v1):=⟨Bs.of_own (k:=.u8) own1,NoCap.of_own own1⟩;have O1:=Qaa (P0.out.2.same o1);have hle:=O1.out.size;clear own1 o1 A P0 hcv hc;go_wp2_with (at_builtin;refine Qac _ rfl _ _ 22 rfl w.heap.size 5 i0 (.int .u8 0) 1 Tryz.underlying22 hi hz0 hz1 hz2 rfl (.slice (some ⟨w.heap.size,0,none⟩) 1 1) 1 (bl [p]) rfl OW0.out .u8 v1 X rfl B1.out.1 B1.out.2 (by have:=HL.out.2.2;unfold maxLen;omega) (by have:=HL.out.2.2;omega) hle ?_;intro v5 w5 hown5 hgrow5 hnil5 hob5)
 have b5 : Bs .u8 w5 v5 (KTX p (sb t)):=by
  rw [← HX.out];refine Bs.of_own (k:=.u8) (E:=5) (lo:=w.heap.size) ?_
  have : ([p] ++ X).length = 1 + X.length:=by simp only [List.length_append,List.length_cons,List.length_nil]
  rw [this,List.map_append];exact hown5
 have o5 : Only (fun _ => False) w w5:=O1.out.grown hgrow5 (fun j hj e => by have:=(OW0.out.lt j e).1;omega);have E5:=Qaa (E.out v5 w5 o5 b5 (NoCap.of_own hown5));have O5:=Qaa o5;clear hown5 hgrow5 hnil5 hob5 OW0 B1 O1 b5 o5 E hle;go_wp2_with fail;refine E5.out.mono ?_;rintro e w6 ⟨v6,rfl,b6,o6⟩;have F:=Qaa (And.intro b6 (O5.out.same o6));clear b6 o6 E5 O5;go_wp2;go_ret2;exact ⟨_,rfl,F.out⟩
theorem QeT (ko : Option Addr) (kl kc : Nat) (p : Value) (t : ByteArray) (h : kl ≠ 32) (w : World) :
  Calls Tryz.prog 53 #[.slice ko kl kc,p,.string t] w fun e w' => e = .returned (.tuple #[.slice none 0 0,.int .i64 1]) ∧ Only (fun _ => False) w w':=by
 have h3 : ((kl : Int) != 32) = true:=by simp;omega
 clear h;go_enter Tryz.func53,Tryz.ntmps53;go_wp2;go_ret2;exact ⟨rfl,Only.refl _ _⟩
theorem Qd9 (ko : Option Addr) (kc : Nat) (p : Value) (t : ByteArray) (h : 64 < t.size) (w : World) :
  Calls Tryz.prog 53 #[.slice ko 32 kc,p,.string t] w fun e w' => e = .returned (.tuple #[.slice none 0 0,.int .i64 4]) ∧ Only (fun _ => False) w w':=by
 have d1 : decide (64 < (t.size : Int)) = true:=by simp;omega
 have d2 : decide (64 < t.size) = true:=by simp;omega
 go_enter Tryz.func53,Tryz.ntmps53;go_wp2;go_ret2;exact ⟨rfl,Only.refl _ _⟩
theorem QeU (vk : Value) (key : List Int) (p : Int) (t : ByteArray) (k8 : U8 key) (nk : NoCap vk) (hp : 0 ≤ p ∧ p ≤ 255) (w : World) (bk : Bs .u8 w vk key) :
  Calls Tryz.prog 53 #[vk,.int .u8 p,.string t] w fun e w' => ∃ v,e = .returned (.tuple #[v,.int .i64 (KDe key (sb t))]) ∧ Bs .u8 w' v (KDt key p (sb t)) ∧ Only (fun _ => False) w w':=by
 by_cases hk : key.length = 32
 ·by_cases ht : t.size ≤ 64
  ·have e1 : KDe key (sb t) = 0:=by unfold KDe;rw [if_pos hk,QaB,if_pos ht]
   have e2 : KDt key p (sb t) = KDV key p (sb t):=by unfold KDt;rw [if_pos hk,QaB,if_pos ht]
   rw [e1,e2];exact QfZ vk key p t hk k8 nk hp ht w bk
  ·have e1 : KDe key (sb t) = 4:=by unfold KDe;rw [if_pos hk,QaB,if_neg ht]
   have e2 : KDt key p (sb t) = []:=by unfold KDt;rw [if_pos hk,QaB,if_neg ht]
   rw [e1,e2];obtain ⟨ko,kc,rfl,_⟩:=bk.formN hk;exact (Qd9 ko kc (.int .u8 p) t (by omega) w).mono (fun _ _ ⟨h1,h2⟩ => ⟨_,h1,Bs.nil _ _,h2⟩)
 ·have e1 : KDe key (sb t) = 1:=by unfold KDe;rw [if_neg hk]
  have e2 : KDt key p (sb t) = []:=by unfold KDt;rw [if_neg hk]
  rw [e1,e2];obtain ⟨ko,kc,rfl⟩:=bk.len;exact (QeT ko key.length kc (.int .u8 p) t hk w).mono (fun _ _ ⟨h1,h2⟩ => ⟨_,h1,Bs.nil _ _,h2⟩)
theorem Qea (vk : Value) (key : List Int) (p : Int) (k8 : U8 key) (nk : NoCap vk) (hp : 0 ≤ p ∧ p ≤ 255) (w : World) (bk : Bs .u8 w vk key) :
  Calls Tryz.prog 53 #[vk,.int .u8 p,.string ⟨#[]⟩] w fun e w' => ∃ v,e = .returned (.tuple #[v,.int .i64 (KDe key [])]) ∧ Bs .u8 w' v (KDt key p []) ∧ Only (fun _ => False) w w':=by
 have:=QeU vk key p ⟨#[]⟩ k8 nk hp w bk;rw [QgJ] at this;exact this
theorem QcS (vk : Value) (key : List Int) (k8 : U8 key) (nk : NoCap vk) (w : World) (bk : Bs .u8 w vk key) :
  Calls Tryz.prog 62 #[vk] w fun e w' => ∃ v,e = .returned (.tuple #[v,.int .i64 (KDe key [])]) ∧ Bs .u8 w' v (KDt key 4 []) ∧ Only (fun _ => False) w w':=by
 have A:=Qaa (Qea vk key 4 k8 nk (by decide) w bk);obtain ⟨E,hE⟩ : ∃ E,E = KDe key []:=⟨_,rfl⟩;rw [← hE] at A ⊢;clear k8 bk hE nk;go_enter Tryz.func62,Tryz.ntmps62;go_wp2_with fail;refine A.out.mono ?_;rintro e w1 ⟨v1,rfl,own1,o1⟩;have F:=Qaa (And.intro own1 o1);clear own1 o1 A;go_wp2;go_ret2;exact ⟨_,rfl,F.out⟩
end Go.Proofs.YtcpopagikbjimaaGreatDoor
