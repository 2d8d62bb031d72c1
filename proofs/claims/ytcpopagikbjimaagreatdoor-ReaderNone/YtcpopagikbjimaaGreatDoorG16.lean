import Derived.Test.YtcpopagikbjimaaGreatDoorG15
namespace Go.Proofs.YtcpopagikbjimaaGreatDoor
set_option maxHeartbeats 1600000
set_option maxRecDepth 100000
open Go.RowKit
theorem Qee (x : Nat) (k : List Int) (j : Nat) (hj : j < k.length) : (xorB x k).take (j + 1) = (xorB x k).take j ++ [(((k.getD j 0).toNat ^^^ x : Nat) : Int)]:=by
 rw [List.take_add_one]
 have e : (xorB x k)[j]? = some (((k.getD j 0).toNat ^^^ x : Nat) : Int):=by
  unfold xorB;rw [List.getElem?_map,List.getElem?_eq_getElem hj,List.getD_eq_getElem?_getD,List.getElem?_eq_getElem hj];rfl
 rw [e];rfl
theorem Qfu (key : List Int) (j : Nat) (hj : j < (keyS key).length) : (keyS key).getD j 0 = (pad64 key).getD j 0:=by
 unfold pad64;rw [List.getD_eq_getElem?_getD,List.getD_eq_getElem?_getD,List.getElem?_append_left hj]
theorem Qef (key : List Int) (j : Nat) (hj : ¬ j < (keyS key).length) : (pad64 key).getD j 0 = 0:=by
 unfold pad64;rw [List.getD_eq_getElem?_getD,List.getElem?_append_right (by omega)];rw [List.getElem?_replicate]
 by_cases h : j - (keyS key).length < 64 - (keyS key).length
 ·rw [if_pos h];rfl
 ·rw [if_neg h];rfl
theorem Qf8 (v : Value) (key : List Int) (x : Nat) (w : World) (hb : Bs .u8 w v key) (h8 : U8 key) (hl : key.length ≤ 64) (hx : x < 256) :
  Calls Tryz.prog 98 #[v,.int .u8 (x : Int)] w fun e w' => ∃ u,e = .returned u ∧ w'.ownsRow w.heap.size 5 1 u 64 ((xorB x (pad64 key)).map (Value.int .u8)) ∧ Only (fun _ => False) w w':=by
 obtain ⟨i0,hi,hz0,hz1,hz2⟩:=info_parts Tryz.infoU8;obtain ⟨K,hK⟩ : ∃ K,K = keyS key:=⟨_,rfl⟩
 obtain ⟨F,hF⟩ : ∃ F : Nat → List Value,F = fun j => ((xorB x (pad64 key)).take j).map (Value.int .u8):=⟨_,rfl⟩
 have F0 : Hid (F 0 = []):=by rw [hF];rfl
 have F64 : Hid (F 64 = (xorB x (pad64 key)).map (Value.int .u8)):=by
  show _ = _
  rw [hF];simp only;rw [List.take_of_length_le (by rw [QaM,QaP];decide)]
 have FN : Hid (∀ j,j < 64 → F (j + 1) = F j ++ [((((pad64 key).getD j 0).toNat ^^^ x : Nat) : Int)].map (Value.int .u8)):=fun j hj => by
  rw [hF];simp only;rw [← List.map_append,Qee x _ j (by rw [QaP];exact hj)]
 have HX:=Qaa hx;obtain ⟨T,hT⟩ : ∃ T,T = (xorB x (pad64 key)).map (Value.int .u8):=⟨_,rfl⟩;rw [← hT] at F64 ⊢;have hk : keyS key = key:=if_neg (by omega);obtain ⟨W,hW⟩ : ∃ W,W = w:=⟨_,rfl⟩;obtain ⟨LO,hLO⟩ : ∃ LO,LO = W.heap.size:=⟨_,rfl⟩;have HLO : Hid (w.heap.size ≤ LO ∧ LO ≤ W.heap.size ∧ Only (fun _ => False) w W ∧ W.heap.size ≤ LO):=⟨by rw [hLO,hW];exact Nat.le_refl _,by rw [hLO];exact Nat.le_refl _,by rw [hW];exact Only.refl _ _,by rw [hLO];exact Nat.le_refl _⟩;obtain ⟨ao,cap,rfl⟩:=hb.len;obtain ⟨n,hn⟩ : ∃ n,n = key.length:=⟨_,rfl⟩;rw [← hn] at hb ⊢;rw [hk] at hK
 have HB : Hid (Bs .u8 W (.slice ao n cap) K ∧ n = K.length ∧ U8 K):=by
  rw [hK,hW];exact ⟨hb,hn,h8⟩
 have HY : Hid ((∀ j,j < n → K.getD j 0 = (pad64 key).getD j 0) ∧ ∀ j,¬ j < n → (pad64 key).getD j 0 = 0):=by
  refine ⟨fun j hj => ?_,fun j hj => ?_⟩
  ·rw [hK,← Qfu key j (by rw [hk,← hn];exact hj),hk]
  ·exact Qef key j (by rw [hk,← hn];exact hj)
 have d1 : decide ((64 : Int) < (n : Int)) = false:=decide_eq_false (by omega);have d1' : decide (64 < n) = false:=decide_eq_false (by omega);clear hK hF hT hk hLO hb h8 hl hx hn;subst hW;obtain ⟨W,hW⟩ : ∃ W',W' = W:=⟨_,rfl⟩;subst hW;go_enter Tryz.func98,Tryz.ntmps98;go_wp2
 go_loopw [6,7] (fun o i wr => ∃ j : Nat,j ≤ 64 ∧ i = .int .i64 j ∧ Hid (wr.ownsRow LO 5 1 o j (F j)) ∧ Hid (Only (fun _ => False) W wr)) (fun _ i _ => 64 - (intOf i).toNat)
 case atStart => exact ⟨0,by omega,rfl,⟨by rw [F0.out];rfl,.inl ⟨rfl,rfl⟩⟩,Only.refl _ _⟩
 case round =>
  obtain ⟨j,hj,rfl,HOWN,HON⟩:=hrel
  have HSZ : Hid (LO ≤ wr.heap.size):=by
   have h1:=HON.out.size;have h2:=HLO.out
   show _ ≤ _
   omega
  by_cases hlt : j < 64
  ·have hfn:=FN.out j hlt
   by_cases hin : j < n
   ·obtain ⟨b,off,cap',e,hcell⟩:=HB.out.1.at j (by rw [← HB.out.2.1];exact hin)
    simp at e;obtain ⟨e1,-,e3⟩:=e;subst e1;have hy:=HY.out.1 j hin;obtain ⟨y,hyy⟩ : ∃ y,y = K.getD j 0:=⟨_,rfl⟩;rw [← hyy] at hcell hy;have hc : wr.cell? ⟨b,off + j,none⟩ = some (.int .u8 y):=Qar hcell HON.out;have hr:=HB.out.2.2.at j;rw [← hyy] at hr;have hxor:=u8_xor y (x : Int) hr.1 (by omega) (by omega) (by have:=HX.out;omega);rw [Int.toNat_natCast] at hxor;obtain ⟨q,hq⟩ : ∃ q : Nat,q = y.toNat ^^^ x:=⟨_,rfl⟩;rw [← hq] at hxor
    have HFN : Hid (F (j + 1) = F j ++ [(q : Int)].map (Value.int .u8)):=by
     show _ = _
     rw [hfn,← hy,← hq]
    have dlt : decide ((j : Int) < (n : Int)) = true:=decide_eq_true (by omega);have dlt' : decide (j < n) = true:=decide_eq_true hin
    have i2 : (j : Int) < (n : Int):=by omega
    clear hfn hy hyy hcell hr hq e3
    have i0' : (0 : Int) ≤ (j : Int):=by omega
    have i1 : (j : Int) < 64:=by omega
    have BL:=Qaa (Bs.litN .u8 wr 5 [(q : Int)] _ _ rfl rfl);go_wp2_with (at_builtin;refine Qac _ rfl _ _ 22 rfl LO 5 i0 (.int .u8 0) 1 Tryz.underlying22 hi hz0 hz1 hz2 rfl _ j (F j) rfl (HOWN.out.alloc _) .u8 _ [(q : Int)] rfl BL.out (NoCap.some _ _ _) (by simp [maxLen];omega) (by simp;omega) (by have:=HSZ.out;simp;omega) ?_;intro v' w2 hown' hgrow2 hnil2 hob2)
    have N1 : Hid (w2.ownsRow LO 5 1 v' (j + 1) (F (j + 1))):=by
     rw [HFN.out];exact hown'
    have N2 : Hid (Only (fun _ => False) W w2):=(HON.out.alloc _).grown hgrow2 (fun k hk e => by have:=HOWN.out.lt k e;have:=HLO.out;omega);clear hown' hgrow2 hnil2 hob2 HOWN HON BL HFN;go_wp2
    go_roundw
    case rel => exact ⟨j + 1,by omega,by go_num,N1,N2⟩
    case measure => simp [intOf];omega
   ·have hy:=HY.out.2 j hin
    have hxor:=u8_xor 0 (x : Int) (by omega) (by omega) (by omega) (by have:=HX.out;omega);rw [Int.toNat_natCast] at hxor;obtain ⟨q,hq⟩ : ∃ q : Nat,q = (0 : Int).toNat ^^^ x:=⟨_,rfl⟩;rw [← hq] at hxor
    have HFN : Hid (F (j + 1) = F j ++ [(q : Int)].map (Value.int .u8)):=by
     show _ = _
     rw [hfn,hy,hq]
    have dlt : decide ((j : Int) < (n : Int)) = false:=decide_eq_false (by omega);have dlt' : decide (j < n) = false:=decide_eq_false hin;clear hfn hy hq
    have i0' : (0 : Int) ≤ (j : Int):=by omega
    have i1 : (j : Int) < 64:=by omega
    have BL:=Qaa (Bs.litN .u8 wr 5 [(q : Int)] _ _ rfl rfl);go_wp2_with (at_builtin;refine Qac _ rfl _ _ 22 rfl LO 5 i0 (.int .u8 0) 1 Tryz.underlying22 hi hz0 hz1 hz2 rfl _ j (F j) rfl (HOWN.out.alloc _) .u8 _ [(q : Int)] rfl BL.out (NoCap.some _ _ _) (by simp [maxLen];omega) (by simp;omega) (by have:=HSZ.out;simp;omega) ?_;intro v' w2 hown' hgrow2 hnil2 hob2)
    have N1 : Hid (w2.ownsRow LO 5 1 v' (j + 1) (F (j + 1))):=by
     rw [HFN.out];exact hown'
    have N2 : Hid (Only (fun _ => False) W w2):=(HON.out.alloc _).grown hgrow2 (fun k hk e => by have:=HOWN.out.lt k e;have:=HLO.out;omega);clear hown' hgrow2 hnil2 hob2 HOWN HON BL HFN;go_wp2
    go_roundw
    case rel => exact ⟨j + 1,by omega,by go_num,N1,N2⟩
    case measure => simp [intOf];omega
  ·obtain rfl : j = 64:=by omega
   rw [F64.out] at HOWN;obtain ⟨ao',cap',e'⟩:=Qad HOWN.out;subst e';go_wp2;go_ret;exact ⟨_,rfl,Qal HOWN.out HLO.out.1,HLO.out.2.2.1.same HON.out⟩
theorem Qhh (v : Value) (key : List Int) (x : Nat) (w : World) (hb : Bs .u8 w v key) (nc : NoCap v) (h8 : U8 key) (hl : 64 < key.length) (hl2 : key.length ≤ 1000000) (hx : x < 256) :
  Calls Tryz.prog 98 #[v,.int .u8 (x : Int)] w fun e w' => ∃ u,e = .returned u ∧ w'.ownsRow w.heap.size 5 1 u 64 ((xorB x (pad64 key)).map (Value.int .u8)) ∧ Only (fun _ => False) w w':=by
 obtain ⟨i0,hi,hz0,hz1,hz2⟩:=info_parts Tryz.infoU8;obtain ⟨K,hK⟩ : ∃ K,K = keyS key:=⟨_,rfl⟩
 obtain ⟨F,hF⟩ : ∃ F : Nat → List Value,F = fun j => ((xorB x (pad64 key)).take j).map (Value.int .u8):=⟨_,rfl⟩
 have F0 : Hid (F 0 = []):=by rw [hF];rfl
 have F64 : Hid (F 64 = (xorB x (pad64 key)).map (Value.int .u8)):=by
  show _ = _
  rw [hF];simp only;rw [List.take_of_length_le (by rw [QaM,QaP];decide)]
 have FN : Hid (∀ j,j < 64 → F (j + 1) = F j ++ [((((pad64 key).getD j 0).toNat ^^^ x : Nat) : Int)].map (Value.int .u8)):=fun j hj => by
  rw [hF];simp only;rw [← List.map_append,Qee x _ j (by rw [QaP];exact hj)]
 have HX:=Qaa hx;obtain ⟨T,hT⟩ : ∃ T,T = (xorB x (pad64 key)).map (Value.int .u8):=⟨_,rfl⟩;rw [← hT] at F64 ⊢;have hk : keyS key = SHA key:=if_pos hl;have A:=Qaa (Qdx v key w hb nc h8 hl2);rw [hk] at hK;rw [← hK] at A
 have HK : Hid (K.length = 32 ∧ U8 K):=by rw [hK];exact ⟨Qan _,QaR _⟩
 have HY : Hid ((∀ j,j < 32 → K.getD j 0 = (pad64 key).getD j 0) ∧ ∀ j,¬ j < 32 → (pad64 key).getD j 0 = 0):=by
  refine ⟨fun j hj => ?_,fun j hj => ?_⟩
  ·rw [hK,← hk]
   exact Qfu key j (by rw [hk,Qan];exact hj)
  ·exact Qef key j (by rw [hk,Qan];exact hj)
 obtain ⟨ao0,cap0,rfl⟩:=hb.len;obtain ⟨m,hm⟩ : ∃ m,m = key.length:=⟨_,rfl⟩;rw [← hm] at A ⊢;have d1 : decide ((64 : Int) < (m : Int)) = true:=decide_eq_true (by omega);have d1' : decide (64 < m) = true:=decide_eq_true (by omega);clear hK hF hT hk hb h8 hl hl2 hx hm nc;go_enter Tryz.func98,Tryz.ntmps98;go_wp2_with fail;refine A.out.mono ?_;rintro e W ⟨v1,rfl,own1,on1⟩;have b1 : Bs .u8 W v1 K:=Bs.of_own (by rw [HK.out.1];exact own1);obtain ⟨LO,hLO⟩ : ∃ LO,LO = W.heap.size:=⟨_,rfl⟩;have HLO : Hid (w.heap.size ≤ LO ∧ LO ≤ W.heap.size ∧ Only (fun _ => False) w W ∧ W.heap.size ≤ LO):=⟨by rw [hLO];exact on1.size,by rw [hLO];exact Nat.le_refl _,on1,by rw [hLO];exact Nat.le_refl _⟩;obtain ⟨n,hn⟩ : ∃ n,n = 32:=⟨_,rfl⟩;rw [← hn] at HY HK;obtain ⟨ao,cap,e1⟩:=b1.len;rw [HK.out.1] at e1;subst e1;have HB : Hid (Bs .u8 W (.slice ao n cap) K ∧ n = K.length ∧ U8 K):=⟨b1,HK.out.1.symm,HK.out.2⟩;clear hLO own1 on1 b1 A hn HK;go_wp2
 go_loopw [6,7] (fun o i wr => ∃ j : Nat,j ≤ 64 ∧ i = .int .i64 j ∧ Hid (wr.ownsRow LO 5 1 o j (F j)) ∧ Hid (Only (fun _ => False) W wr)) (fun _ i _ => 64 - (intOf i).toNat)
 case atStart => exact ⟨0,by omega,rfl,⟨by rw [F0.out];rfl,.inl ⟨rfl,rfl⟩⟩,Only.refl _ _⟩
 case round =>
  obtain ⟨j,hj,rfl,HOWN,HON⟩:=hrel
  have HSZ : Hid (LO ≤ wr.heap.size):=by
   have h1:=HON.out.size;have h2:=HLO.out
   show _ ≤ _
   omega
  by_cases hlt : j < 64
  ·have hfn:=FN.out j hlt
   by_cases hin : j < n
   ·obtain ⟨b,off,cap',e,hcell⟩:=HB.out.1.at j (by rw [← HB.out.2.1];exact hin)
    simp at e;obtain ⟨e1,-,e3⟩:=e;subst e1;have hy:=HY.out.1 j hin;obtain ⟨y,hyy⟩ : ∃ y,y = K.getD j 0:=⟨_,rfl⟩;rw [← hyy] at hcell hy;have hc : wr.cell? ⟨b,off + j,none⟩ = some (.int .u8 y):=Qar hcell HON.out;have hr:=HB.out.2.2.at j;rw [← hyy] at hr;have hxor:=u8_xor y (x : Int) hr.1 (by omega) (by omega) (by have:=HX.out;omega);rw [Int.toNat_natCast] at hxor;obtain ⟨q,hq⟩ : ∃ q : Nat,q = y.toNat ^^^ x:=⟨_,rfl⟩;rw [← hq] at hxor
    have HFN : Hid (F (j + 1) = F j ++ [(q : Int)].map (Value.int .u8)):=by
     show _ = _
     rw [hfn,← hy,← hq]
    have dlt : decide ((j : Int) < (n : Int)) = true:=decide_eq_true (by omega);have dlt' : decide (j < n) = true:=decide_eq_true hin
    have i2 : (j : Int) < (n : Int):=by omega
    clear hfn hy hyy hcell hr hq e3
    have i0' : (0 : Int) ≤ (j : Int):=by omega
    have i1 : (j : Int) < 64:=by omega
    have BL:=Qaa (Bs.litN .u8 wr 5 [(q : Int)] _ _ rfl rfl);go_wp2_with (at_builtin;refine Qac _ rfl _ _ 22 rfl LO 5 i0 (.int .u8 0) 1 Tryz.underlying22 hi hz0 hz1 hz2 rfl _ j (F j) rfl (HOWN.out.alloc _) .u8 _ [(q : Int)] rfl BL.out (NoCap.some _ _ _) (by simp [maxLen];omega) (by simp;omega) (by have:=HSZ.out;simp;omega) ?_;intro v' w2 hown' hgrow2 hnil2 hob2)
    have N1 : Hid (w2.ownsRow LO 5 1 v' (j + 1) (F (j + 1))):=by
     rw [HFN.out];exact hown'
    have N2 : Hid (Only (fun _ => False) W w2):=(HON.out.alloc _).grown hgrow2 (fun k hk e => by have:=HOWN.out.lt k e;have:=HLO.out;omega);clear hown' hgrow2 hnil2 hob2 HOWN HON BL HFN;go_wp2
    go_roundw
    case rel => exact ⟨j + 1,by omega,by go_num,N1,N2⟩
    case measure => simp [intOf];omega
   ·have hy:=HY.out.2 j hin
    have hxor:=u8_xor 0 (x : Int) (by omega) (by omega) (by omega) (by have:=HX.out;omega);rw [Int.toNat_natCast] at hxor;obtain ⟨q,hq⟩ : ∃ q : Nat,q = (0 : Int).toNat ^^^ x:=⟨_,rfl⟩;rw [← hq] at hxor
    have HFN : Hid (F (j + 1) = F j ++ [(q : Int)].map (Value.int .u8)):=by
     show _ = _
     rw [hfn,hy,hq]
    have dlt : decide ((j : Int) < (n : Int)) = false:=decide_eq_false (by omega);have dlt' : decide (j < n) = false:=decide_eq_false hin;clear hfn hy hq
    have i0' : (0 : Int) ≤ (j : Int):=by omega
    have i1 : (j : Int) < 64:=by omega
    have BL:=Qaa (Bs.litN .u8 wr 5 [(q : Int)] _ _ rfl rfl);go_wp2_with (at_builtin;refine Qac _ rfl _ _ 22 rfl LO 5 i0 (.int .u8 0) 1 Tryz.underlying22 hi hz0 hz1 hz2 rfl _ j (F j) rfl (HOWN.out.alloc _) .u8 _ [(q : Int)] rfl BL.out (NoCap.some _ _ _) (by simp [maxLen];omega) (by simp;omega) (by have:=HSZ.out;simp;omega) ?_;intro v' w2 hown' hgrow2 hnil2 hob2)
    have N1 : Hid (w2.ownsRow LO 5 1 v' (j + 1) (F (j + 1))):=by
     rw [HFN.out];exact hown'
    have N2 : Hid (Only (fun _ => False) W w2):=(HON.out.alloc _).grown hgrow2 (fun k hk e => by have:=HOWN.out.lt k e;have:=HLO.out;omega);clear hown' hgrow2 hnil2 hob2 HOWN HON BL HFN;go_wp2
    go_roundw
    case rel => exact ⟨j + 1,by omega,by go_num,N1,N2⟩
    case measure => simp [intOf];omega
  ·obtain rfl : j = 64:=by omega
   rw [F64.out] at HOWN;obtain ⟨ao',cap',e'⟩:=Qad HOWN.out;subst e';go_wp2;go_ret;exact ⟨_,rfl,Qal HOWN.out HLO.out.1,HLO.out.2.2.1.same HON.out⟩
theorem QiM (v : Value) (key : List Int) (x : Nat) (w : World) (hb : Bs .u8 w v key) (nc : NoCap v) (h8 : U8 key) (hl2 : key.length ≤ 1000000) (hx : x < 256) :
  Calls Tryz.prog 98 #[v,.int .u8 (x : Int)] w fun e w' => ∃ u,e = .returned u ∧ w'.ownsRow w.heap.size 5 1 u 64 ((xorB x (pad64 key)).map (Value.int .u8)) ∧ Only (fun _ => False) w w':=by
 by_cases h : 64 < key.length
 ·exact Qhh v key x w hb nc h8 h hl2 hx
 ·exact Qf8 v key x w hb h8 (by omega) hx
theorem Qhe (v u : Value) (key b : List Int) (w : World) (hb : Bs .u8 w v key) (nc : NoCap v) (h8 : U8 key) (hk : key.length ≤ 1000000) (hu : Bs .u8 w u b) (ncu : NoCap u) (hu8 : U8 b) (hl : b.length ≤ 900000) :
  Calls Tryz.prog 64 #[v,u] w fun e w' => ∃ r,e = .returned r ∧ w'.ownsRow w.heap.size 5 1 r 32 ((MACL key b).map (Value.int .u8)) ∧ Only (fun _ => False) w w':=by
 obtain ⟨i0,hi,hz0,hz1,hz2⟩:=info_parts Tryz.infoU8;have HP:=Qaa (fun x (hx : x < 256) w1 (o : Only (fun _ => False) w w1) => QiM v key x w1 (hb.past o) nc h8 hk hx);have A:=Qaa (HP.out 54 (by decide) w (Only.refl _ _));obtain ⟨k,hkk⟩ : ∃ k,k = pad64 key:=⟨_,rfl⟩
 have hkl : k.length = 64:=by rw [hkk,QaP]
 have hk8 : U8 k:=by rw [hkk];exact Qfi h8
 have HL : Hid (∀ x,(xorB x k).length = 64):=fun x => by rw [QaM,hkl]
 have H8 : Hid (∀ x,x < 256 → U8 (xorB x k)):=fun x hx => Qgx x hx hk8
 have HM : Hid (MACL key b = SHA (xorB 92 k ++ SHA (xorB 54 k ++ b))):=by rw [hkk];exact rfl
 rw [← hkk] at HP A;have HU:=Qaa (And.intro hu (And.intro ncu (And.intro hu8 hl)));obtain ⟨aou,capu,rfl⟩:=hu.len;obtain ⟨m,hm⟩ : ∃ m,m = b.length:=⟨_,rfl⟩;rw [← hm] at HU ⊢;have HN:=Qaa hm;clear hb nc h8 hk hu ncu hu8 hl hkk hkl hk8 hm;go_enter Tryz.func64,Tryz.ntmps64;go_wp2_with fail;refine A.out.mono ?_;rintro e w1 ⟨v1,rfl,own1,on1⟩;have B1:=Qaa (HU.out.1.past on1);have hs1:=on1.size;have H1:=Qaa on1;have hown1:=own1;clear on1 own1 A;go_wp2_with (at_builtin;refine Qac _ rfl _ _ 22 rfl w.heap.size 5 i0 (.int .u8 0) 1 Tryz.underlying22 hi hz0 hz1 hz2 rfl v1 64 _ rfl hown1 .u8 (.slice aou m capu) b rfl B1.out HU.out.2.1 (by have:=HU.out.2.2.2;have:=HN.out;simp only [maxLen];omega) (by have:=HU.out.2.2.2;have:=HN.out;omega) hs1 ?_;intro v2 w2 hown2 hgrow2 hnil2 hob2);have o2 : Only (fun _ => False) w w2:=H1.out.grown hgrow2 (fun k hk e => by have:=hown1.lt k e;omega)
 have b2 : Bs .u8 w2 v2 (xorB 54 k ++ b):=Bs.of_own (by
  rw [List.length_append,HL.out,List.map_append];exact hown2)
 have S:=Qaa (Qdx v2 (xorB 54 k ++ b) w2 b2 (NoCap.of_own hown2) ((H8.out 54 (by decide)).app HU.out.2.2.1) (by have:=HU.out.2.2.2;have:=HN.out;rw [List.length_append,HL.out];omega));have O2:=Qaa o2;obtain ⟨ao2,cap2,e2⟩:=Qad hown2;subst e2;clear hown1 hown2 hgrow2 hnil2 hob2 o2 b2 H1 B1 hs1;go_wp2_with fail;refine S.out.mono ?_;rintro e w3 ⟨v3,rfl,own3,on3⟩;have b3 : Bs .u8 w3 v3 (SHA (xorB 54 k ++ b)):=Bs.of_own (by rw [Qan];exact own3);have h38 : U8 (SHA (xorB 54 k ++ b)):=QaR _;have h3l : (SHA (xorB 54 k ++ b)).length = 32:=Qan _;obtain ⟨I,hI⟩ : ∃ I,I = SHA (xorB 54 k ++ b):=⟨_,rfl⟩;rw [← hI] at b3 h38 h3l;have HI:=Qaa hI;have O3:=Qaa (O2.out.same on3);have HB3:=Qaa (And.intro b3 (And.intro (NoCap.of_own own3) (And.intro h38 h3l)));have A2:=Qaa (HP.out 92 (by decide) w3 O3.out);obtain ⟨ao3,cap3,e3⟩:=Qad own3;subst e3;clear S own3 on3 b3 h38 h3l hI O2;go_wp2_with fail;refine A2.out.mono ?_;rintro e w4 ⟨v4,rfl,own4,on4⟩;have hs4:=on4.size;have H4:=Qaa on4;have hown4:=own4;have B4:=Qaa (HB3.out.1.past on4);clear own4 on4 A2;go_wp2_with (at_builtin;refine Qac _ rfl _ _ 22 rfl w3.heap.size 5 i0 (.int .u8 0) 1 Tryz.underlying22 hi hz0 hz1 hz2 rfl v4 64 _ rfl hown4 .u8 (.slice ao3 32 cap3) I rfl B4.out HB3.out.2.1 (by have:=HB3.out.2.2.2;simp only [maxLen];omega) (by have:=HB3.out.2.2.2;omega) hs4 ?_;intro v5 w5 hown5 hgrow5 hnil5 hob5);have o5 : Only (fun _ => False) w3 w5:=H4.out.grown hgrow5 (fun k hk e => by have:=hown4.lt k e;omega)
 have b5 : Bs .u8 w5 v5 (xorB 92 k ++ I):=Bs.of_own (by
  rw [List.length_append,HL.out,List.map_append];exact hown5)
 have S2:=Qaa (Qdx v5 (xorB 92 k ++ I) w5 b5 (NoCap.of_own hown5) ((H8.out 92 (by decide)).app HB3.out.2.2.1) (by have:=HB3.out.2.2.2;rw [List.length_append,HL.out];omega));have O5:=Qaa (O3.out.same o5);obtain ⟨ao5,cap5,e5⟩:=Qad hown5;subst e5;clear hown4 hown5 hgrow5 hnil5 hob5 o5 b5 H4 B4 hs4;go_wp2_with fail;refine S2.out.mono ?_;rintro e w6 ⟨v6,rfl,own6,on6⟩;have F1:=Qaa (Qal own6 O5.out.size);have F2:=Qaa (O5.out.same on6);obtain ⟨ao6,cap6,e6⟩:=Qad own6;subst e6;clear own6 on6 S2;go_wp2;go_ret;exact ⟨_,rfl,by rw [HM.out,← HI.out];exact F1.out,F2.out⟩
end Go.Proofs.YtcpopagikbjimaaGreatDoor
