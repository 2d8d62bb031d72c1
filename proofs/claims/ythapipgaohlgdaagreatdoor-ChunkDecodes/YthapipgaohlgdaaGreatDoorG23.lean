/- Several texts in one: RDec, RrDe, DRef2, Rd8. -/
import Derived.Test.YthapipgaohlgdaaGreatDoorG20
import Derived.Test.YthapipgaohlgdaaGreatDoorG7
import Derived.Test.YthapipgaohlgdaaGreatDoorG8
import Derived.Test.YthapipgaohlgdaaGreatDoorG19
import Derived.Test.YthapipgaohlgdaaGreatDoorG21
import Derived.Test.YthapipgaohlgdaaGreatDoorG22


namespace Go.Proofs.YthapipgaohlgdaaGreatDoor
set_option maxRecDepth 100000
open Go.RowKit
theorem numAt_and4 (v q k : Nat) (hq : q ≤ 60) (hk : (k + 1) * q ≤ 60) : bits .and .u64 (((v : Int) * 16 % 18446744073709551616) / 2 ^ (64 - (k + 1) * q)) (2 ^ q - 1) = (numAt v q k : Int):=by
 have e0 : ((v : Int) * 16 % 18446744073709551616) = ((v * 16 % 18446744073709551616 : Nat) : Int):=by omega
 have e1 : (((v * 16 % 18446744073709551616 : Nat) : Int) / 2 ^ (64 - (k + 1) * q)) = ((v * 16 % 18446744073709551616 / 2 ^ (64 - (k + 1) * q) : Nat) : Int):=by simp
 have hp:=Nat.two_pow_pos q
 have e2 : ((2 : Int) ^ q - 1) = ((2 ^ q - 1 : Nat) : Int):=by
  rw [← cast_pow];omega
 have h60 : 2 ^ q ≤ 2 ^ 60:=Nat.pow_le_pow_right (by omega) hq
 have e60 : (2 : Nat) ^ 60 = 1152921504606846976:=by decide
 have hd:=Nat.div_le_self (v * 16 % 18446744073709551616) (2 ^ (64 - (k + 1) * q))
 rw [e0,e1,e2,u64_and_nat _ _ (by omega) (by omega),Nat.and_two_pow_sub_one_eq_mod]
 unfold numAt
 have hkq : (k + 1) * q = k * q + q:=by rw [Nat.add_mul,Nat.one_mul]
 have e3 : v * 16 % 18446744073709551616 = v % 2 ^ 60 * 16:=by rw [e60];omega
 have e4 : (2 : Nat) ^ (64 - (k + 1) * q) = 16 * 2 ^ (60 - (k + 1) * q):=by
  rw [show 64 - (k + 1) * q = 4 + (60 - (k + 1) * q) by omega,Nat.pow_add]
 rw [e3,e4,← Nat.div_div_eq_div_mul,Nat.mul_div_cancel _ (by omega)]
 have e5 : (2 : Nat) ^ 60 = 2 ^ (60 - (k + 1) * q) * 2 ^ ((k + 1) * q):=by rw [← Nat.pow_add];congr 1;omega
 rw [e5,Nat.mod_mul_right_div_self,Nat.mod_mod_of_dvd _ (Nat.pow_dvd_pow 2 (by omega))]
theorem Bs.keepNe {k : IntKind} {w w' : World} {v : Value} {xs : List Int} (h : Bs k w v xs) {S : Nat → Prop} (ho : Only S w w') (hs : xs ≠ [] → ∀ b,v.ownBlock = some b → ¬ S b) : Bs k w' v xs:=by
 by_cases hx : xs = []
 ·obtain ⟨ao,cap,rfl,hc,_⟩:=h
  exact ⟨ao,cap,rfl,hc,fun h0 => absurd hx h0⟩
 ·exact h.keep ho (hs hx)
theorem Bs.blockLt {k : IntKind} {w : World} {v : Value} {xs : List Int} (h : Bs k w v xs) (hx : xs ≠ []) : ∀ b,v.ownBlock = some b → b < w.heap.size:=by
 obtain ⟨ao,cap,rfl,hc,hr⟩:=h
 obtain ⟨b,off,rfl,hcell⟩:=hr hx
 intro b' hb'
 cases hb'
 exact World.block_lt_of_cell? w _ (hcell 0 (List.length_pos_iff.2 hx))
set_option maxHeartbeats 1600000 in
theorem rdecode_bs (v : Value) (ys : List Int) (n : Nat) (w : World) (h : Bs .u8 w v ys) (nc : NoCap v) (hr : ∀ y ∈ ys,0 ≤ y ∧ y ≤ 255) (hl : ys.length ≤ 1000000) (hn : n ≤ 65536) :
  Calls Tryz.prog 91 #[v,.int .i64 n] w fun e w' => ∃ u,e = .returned (.tuple #[u,.int .i64 (dec ys n).2]) ∧ w'.ownsRow w.heap.size 42 1 u (dec ys n).1.length ((dec ys n).1.map (Value.int .u64)) ∧ Only (fun _ => False) w w':=by
 obtain ⟨i0,hi,hz0,hz1,hz2⟩:=info_parts Tryz.infoU64
 have d0 : decide ((n : Int) < 0) = false:=by simp
 have d1 : decide (65536 < (n : Int)) = false:=by simp;omega
 obtain ⟨ao,cap,rfl⟩:=h.len
 have HB:=hideIt h
 have NC:=hideIt nc
 have HR:=hideIt hr
 have RF:=hideIt (rdA_facts (n:=n) hr)
 have RR : Hid ((rdA n ys).2.2 = 0 → (rdA n ys).1.length = n → enc (rdA n ys).1 = ys → (rdA n ys).2.1 = []):=rdA_rest hr
 have HBL : Hid (ys ≠ [] → ∀ k,(Value.slice ao ys.length cap).ownBlock = some k → k < w.heap.size):=h.blockLt
 obtain ⟨m,hm⟩ : ∃ m,m = ys.length:=⟨_,rfl⟩
 rw [← hm] at HB NC hl ⊢
 have HM:=hideIt hm
 clear h hr nc hm
 go_enter Tryz.func91,Tryz.ntmps91
 go_wp2
 go_loopw [6,7] (fun o l wr => ∃ (f : Nat) (acc ys' : List Int) (ao' : Option Addr) (cap' : Nat),l = .slice ao' ys'.length cap' ∧ wr.ownsRow w.heap.size 42 1 o acc.length (acc.map (Value.int .u64)) ∧ Bs .u8 wr (.slice ao' ys'.length cap') ys' ∧ NoCap (.slice ao' ys'.length cap') ∧ (ys' ≠ [] → ∀ k,(Value.slice ao' ys'.length cap').ownBlock = some k → k < w.heap.size) ∧ (∀ y ∈ ys',0 ≤ y ∧ y ≤ 255) ∧ ys'.length ≤ m ∧ ys'.length < f ∧ rdF f n acc ys' = rdA n ys ∧ acc.length < n + 240 ∧ Only (fun _ => False) w wr) (fun o _ _ => n - lenS o)
 case atStart => exact ⟨ys.length + 1,[],ys,ao,cap,by rw [HM.out],World.ownsRow_nil _ _ _ _,by rw [← HM.out];exact HB.out,by rw [← HM.out];exact NC.out,HBL.out,HR.out,by rw [HM.out];omega,by omega,rfl,by simp,Only.refl _ _⟩
 case round =>
  obtain ⟨f,acc,ys',ao',cap',rfl,hown,hbs,hnc,hbl,hrr,hym,hf,hrd,hacc,hon⟩:=hrel
  obtain ⟨a6,c6,e6⟩:=(Bs.of_own hown).len
  subst e6
  have HOWN:=hideIt hown
  have HON:=hideIt hon
  have HBLT:=hideIt hbl
  have HRR:=hideIt hrr
  by_cases hlt : acc.length < n
  ·by_cases hs : ys'.length < 8
   ·have FX:=hideIt (rfixed_at ao' ys'.length cap' ys' wr hbs hnc hrr (by omega) 8 (sFixed8_short hs))
    have HRE : Hid (rdA n ys = ([],ys',2)):=by simp only [Hid];rw [← hrd,rdF_short hlt hs (by omega)]
    have HD : Hid (dec ys n = ([],2)):=by simp only [Hid,dec];rw [HRE.out];exact if_pos (show (2 : Int) ≠ 0 by decide)
    clear hown hbs hnc hbl hrr hrd hon RF RR HRE
    obtain ⟨p,hp⟩ : ∃ p,p = acc.length:=⟨_,rfl⟩
    rw [← hp] at HOWN hlt hacc ⊢
    obtain ⟨p',hp'⟩ : ∃ p',p' = ys'.length:=⟨_,rfl⟩
    rw [← hp'] at FX ⊢
    have dl : decide (p < n) = true:=decide_eq_true hlt
    clear hp hp'
    go_wp2_with fail
    refine FX.out.mono ?_
    rintro e w2 ⟨ao2,m2,cap2,rfl,_,_,o2,_⟩
    have O2:=hideIt (HON.out.trans o2 (fun _ _ e => e))
    clear FX o2 HOWN
    go_wp2
    go_ret2
    rw [HD.out]
    exact ⟨_,rfl,World.ownsRow_nil _ _ _ _,O2.out⟩
   ·have FX:=hideIt (rfixed_at ao' ys'.length cap' ys' wr hbs hnc hrr (by omega) 8 (sFixed8_ok (by omega)))
    have hv:=num8_lt hrr
    have hstep:=rdF_step hlt (by omega) hf
    have HRD : Hid (rdF (f - 1) n (acc ++ nms (num (ys'.take 8))) (ys'.drop 8) = rdA n ys ∧ (ys'.drop 8).length < f - 1):=⟨by rw [← hrd,hstep.1],hstep.2⟩
    have hs16:=sort_lt hv
    have h4:=sort_at _ hs16
    have HNL : Hid ((acc ++ nms (num (ys'.take 8))).length < n + 240 ∧ acc.length < (acc ++ nms (num (ys'.take 8))).length):=by
     simp only [Hid]
     rw [List.length_append,nms_length];omega
    have HBD : Hid (ys'.drop 8 ≠ [] → ∀ k,(Value.slice ao' ys'.length cap').ownBlock = some k → k < w.heap.size):=fun hne => HBLT.out (fun h0 => hne (by rw [h0];rfl))
    have HRD2 : Hid ((∀ y ∈ ys'.drop 8,0 ≤ y ∧ y ≤ 255) ∧ (ys'.drop 8).length ≤ m):=⟨fun y hy => HRR.out y (List.mem_of_mem_drop hy),by rw [List.length_drop];omega⟩
    obtain ⟨x,hx⟩ : ∃ x,x = num (ys'.take 8):=⟨_,rfl⟩
    rw [← hx] at FX HRD HNL hv h4 hs16
    have e60 : (2 : Int) ^ 60 = 1152921504606846976:=by decide
    have RM : Hid (∀ w2,Calls Tryz.prog 134 #[.int .i64 ((x : Int) / 1152921504606846976)] w2 fun e w' => e = .returned (.tuple #[.int .i64 (cn (x / 2 ^ 60)),.int .i64 (wi (x / 2 ^ 60))]) ∧ Only (fun _ => False) w2 w'):=fun w2 => by
     have:=rroom_at (x / 2 ^ 60) w2 hs16
     have e : ((x / 2 ^ 60 : Nat) : Int) = (x : Int) / 1152921504606846976:=by rw [← e60];simp
     rw [e] at this
     exact this
    have NU : Hid (nms x = ((List.range (cn (x / 2 ^ 60))).map fun i => (numAt x (wi (x / 2 ^ 60)) i : Int))):=rfl
    have SN : Hid (∀ k,((List.range (k + 1)).map fun i => (numAt x (wi (x / 2 ^ 60)) i : Int)) = ((List.range k).map fun i => (numAt x (wi (x / 2 ^ 60)) i : Int)) ++ [(numAt x (wi (x / 2 ^ 60)) k : Int)]):=nms_snoc x
    obtain ⟨g1,g2,g3,g4,_⟩:=h4
    generalize wi (x / 2 ^ 60) = q at *
    generalize cn (x / 2 ^ 60) = c at *
    have AN : Hid (∀ k,k < c → bits .and .u64 (IntKind.u64.wrap ((x : Int) * 16) / 2 ^ (64 - (k + 1) * q)) (2 ^ q - 1) = (numAt x q k : Int)):=fun k hk => by rw [IntKind.wrap_u64];exact numAt_and4 x q k g3 (Nat.le_trans (Nat.mul_le_mul_right q (by omega)) g4)
    have v0 : (0 : Int) ≤ (x : Int):=by omega
    have v1 : (x : Int) ≤ 18446744073709551615:=by omega
    have q1 : (q : Int) ≤ 60:=by omega
    have t0 : (1 : Int) ≤ 2 ^ q:=pow_mono (Nat.zero_le q)
    have t1 : (2 : Int) ^ q ≤ 1152921504606846976:=by rw [← e60];exact pow_mono g3
    obtain ⟨p,hp⟩ : ∃ p,p = acc.length:=⟨_,rfl⟩
    rw [← hp] at HOWN hlt hacc HNL ⊢
    have HP:=hideIt hp
    obtain ⟨p',hp'⟩ : ∃ p',p' = ys'.length:=⟨_,rfl⟩
    rw [← hp'] at FX HBD ⊢
    have dl : decide (p < n) = true:=decide_eq_true hlt
    clear hp hp' e60 hown hbs hnc hbl hrr hrd hon hstep hx hs16 HBLT HRR RF RR
    go_wp2_with fail
    refine FX.out.mono ?_
    rintro e w2 ⟨ao2,m2,cap2,rfl,bs2,nc2,o2,ob2⟩
    have hm2:=bs2.length
    subst hm2
    have F2:=hideIt (And.intro bs2 (And.intro nc2 ob2))
    have O2:=hideIt (HON.out.trans o2 (fun _ _ e => e))
    have OW2:=hideIt (o2.own HOWN.out (fun _ _ f => f))
    clear FX o2 HOWN HON bs2 nc2 ob2
    obtain ⟨p2,hp2⟩ : ∃ p2,p2 = (ys'.drop 8).length:=⟨_,rfl⟩
    rw [← hp2]
    have HP2:=hideIt hp2
    clear hp2
    go_wp2_with fail
    refine (RM.out w2).mono ?_
    rintro e w3 ⟨rfl,o3⟩
    have O3:=hideIt (O2.out.trans o3 (fun _ _ e => e))
    have OW3:=hideIt (o3.own OW2.out (fun _ _ f => f))
    have B3:=hideIt (F2.out.1.keep o3 (fun _ _ f => f))
    clear o3 O2 OW2 RM
    go_wp2
    go_loopw [6,13] (fun o i wr => ∃ k : Nat,k ≤ c ∧ i = .int .i64 k ∧ wr.ownsRow w.heap.size 42 1 o (acc.length + k) ((acc ++ (List.range k).map fun i => (numAt x q i : Int)).map (Value.int .u64)) ∧ Only (fun k => w.heap.size ≤ k) w3 wr ∧ Only (fun _ => False) w wr) (fun _ i _ => c - (intOf i).toNat)
    case atStart => exact ⟨0,Nat.zero_le _,rfl,by rw [Nat.add_zero,← HP.out];simpa using OW3.out,Only.refl _ _,O3.out⟩
    case round =>
     obtain ⟨k,hk,rfl,hown,hon3,hon⟩:=hrel
     clear OW3
     by_cases hlt2 : k < c
     ·have pk : (k + 1) * q ≤ 60:=Nat.le_trans (Nat.mul_le_mul_right q (by omega)) g4
      have p0 : (0 : Int) ≤ ((k : Int) + 1) * (q : Int):=by rw [show ((k : Int) + 1) = ((k + 1 : Nat) : Int) by simp,← Int.natCast_mul];omega
      have p1 : ((k : Int) + 1) * (q : Int) ≤ 60:=by rw [show ((k : Int) + 1) = ((k + 1 : Nat) : Int) by simp,← Int.natCast_mul];omega
      have A1:=AN.out k hlt2
      have S1:=hideIt (SN.out k)
      have hsz:=hon.size
      have hN:=hideIt hon
      have hN3:=hideIt hon3
      have hpl : p ≤ 65536:=by omega
      rw [← HP.out] at hown
      generalize numAt x q k = y at A1 S1
      clear hk hon hon3
      go_wp2_with (at_builtin;refine wpList_append_lies _ rfl _ _ _ rfl w.heap.size 42 i0 (.int .u64 0) 1 8 Tryz.underlying46 hi hz0 hz1 hz2 rfl (by omega) _ (p + k) _ rfl (hown.alloc _) ⟨wr.heap.size,0,none⟩ 1 1 [.int .u64 y] rfl rfl ?c1 ?c2 (by omega) ?c3 ?c4 ?c5 (wr.heap.size + 1) (by simp) ?_)
      case c1 => exact cell_one_new _ _ _
      case c2 => intro u hu;simp at hu;subst hu;rfl
      case c3 => unfold maxLen;omega
      case c4 => omega
      case c5 => simp;omega
      intro g cap1 w4 hown1 hgrow hat hg1
      have o3:=hideIt ((hN3.out.alloc _).grown hgrow (fun p _ hp => (hown.lt p hp).1))
      have o4:=hideIt ((hN.out.alloc _).grown hgrow (fun p hp0 hp => absurd (hown.lt p hp).1 (by omega)))
      have own3 : Hid (w4.ownsRow w.heap.size 42 1 (.slice (some ⟨g,0,none⟩) (p + k + 1) cap1) (acc.length + (k + 1)) ((acc ++ (List.range (k + 1)).map fun i => (numAt x q i : Int)).map (Value.int .u64))):=by
       simp only [Hid]
       rw [S1.out,← HP.out,← Nat.add_assoc];simpa using hown1
      clear hown hown1 hgrow hat hN hN3
      go_wp2
      go_roundw
      case rel => exact ⟨k + 1,by omega,by go_num,own3.out,o3.out,o4.out⟩
      case measure => simp [intOf];omega
     ·have hkc : k = c:=by omega
      subst hkc
      have FIN : Hid (∃ a9 c9,u6 = .slice a9 (acc ++ nms x).length c9 ∧ wr.ownsRow w.heap.size 42 1 (.slice a9 (acc ++ nms x).length c9) (acc ++ nms x).length ((acc ++ nms x).map (Value.int .u64))):=by
       have h1 : wr.ownsRow w.heap.size 42 1 u6 (acc ++ nms x).length ((acc ++ nms x).map (Value.int .u64)):=by
        rw [NU.out];simpa using hown
       obtain ⟨a9,c9,e9⟩:=(Bs.of_own h1).len
       subst e9
       exact ⟨a9,c9,rfl,h1⟩
      have BF : Hid (Bs .u8 wr (.slice ao2 (ys'.drop 8).length cap2) (ys'.drop 8) ∧ (ys'.drop 8 ≠ [] → ∀ k,(Value.slice ao2 (ys'.drop 8).length cap2).ownBlock = some k → k < w.heap.size)):=by
       have h2 : ys'.drop 8 ≠ [] → ∀ k,(Value.slice ao2 (ys'.drop 8).length cap2).ownBlock = some k → k < w.heap.size:=fun hne k hk => HBD.out hne k (by rw [← F2.out.2.2];exact hk)
       exact ⟨B3.out.keepNe hon3 (fun hne k hk hge => by have:=h2 hne k hk;omega),h2⟩
      have ON:=hideIt hon
      obtain ⟨a9,c9,e9,own9⟩:=FIN.out
      subst e9
      obtain ⟨z,hz⟩ : ∃ z,z = acc ++ nms x:=⟨_,rfl⟩
      rw [← hz] at own9 HNL HRD ⊢
      have OWN9:=hideIt own9
      obtain ⟨zl,hzl⟩ : ∃ zl,zl = z.length:=⟨_,rfl⟩
      rw [← hzl]
      have HZL:=hideIt hzl
      clear hown hon hon3 own9 FIN hz hzl
      go_wp2
      go_roundw
      case rel => exact ⟨f - 1,z,ys'.drop 8,ao2,cap2,by rw [HP2.out],by rw [HZL.out];exact OWN9.out,BF.out.1,F2.out.2.1,BF.out.2,HRD2.out.1,HRD2.out.2,HRD.out.2,HRD.out.1,HNL.out.1,ON.out⟩
      case measure => have:=HNL.out.2;have:=HZL.out;simp only [lenS];omega
  ·have HRE : Hid (rdA n ys = (acc,ys',0)):=by simp only [Hid];rw [← hrd,rdF_done (by omega)]
   have RF2:=RF.out
   have RR2:=RR.out
   rw [HRE.out] at RF2 RR2
   simp only [forall_const] at RR2
   rcases RF2 with ⟨f1,_⟩ | ⟨_,hup,hge,_⟩
   ·cases f1
   simp only at hup hge
   have HUP:=hideIt hup
   have HRR2:=hideIt RR2
   have HDY : Hid (dec ys n = if n < acc.length then ([],3) else if enc acc = ys then (acc,0) else ([],3)):=by simp only [Hid,dec];rw [HRE.out];simp
   have HBW:=hideIt (HB.out.keep hon (fun _ _ f => f))
   have dl : decide (acc.length < n) = false:=decide_eq_false hlt
   have EN:=hideIt (fun hn2 : acc.length = n => rencode_bs _ acc wr (Bs.of_own hown) hup (by omega))
   have HER:=hideIt (enc_len acc.length acc rfl hup).2.1
   clear hown hbs hnc hbl hrr hrd hon RF RR HRE hup RR2 hge
   by_cases hne : acc.length = n
   ·rw [if_neg (by omega)] at HDY
    have EN2:=hideIt (EN.out hne)
    have HRR3:=hideIt (HRR2.out hne)
    have HNE:=hideIt hne
    rw [hne] at EN2 HOWN HER dl ⊢
    have dn : ((n : Int) != (n : Int)) = false:=by simp
    clear EN HRR2 hlt hacc hne
    by_cases hy0 : ys' = []
    ·subst hy0
     simp only [List.length_nil]
     clear HRR3 HBLT HRR
     go_wp2_with fail
     refine EN2.out.mono ?_
     rintro e w3 ⟨u3,rfl,own3,o3⟩
     have SM:=hideIt (same_any u3 (.slice ao m cap) (enc acc) ys w3 (Bs.of_own own3) (HBW.out.keep o3 (fun _ _ f => f)) (by have:=HER.out;omega))
     have O3:=hideIt (HON.out.trans o3 (fun _ _ f => f))
     have OW3:=hideIt (o3.own HOWN.out (fun _ _ f => f))
     obtain ⟨a3,c3,e3⟩:=(Bs.of_own own3).len
     subst e3
     obtain ⟨m3,hm3⟩ : ∃ m3,m3 = (enc acc).length:=⟨_,rfl⟩
     rw [← hm3] at SM ⊢
     clear EN2 own3 o3 HOWN HON hm3
     by_cases he : enc acc = ys
     ·rw [if_pos he] at HDY
      rw [decide_eq_true he] at SM
      clear he
      go_wp2_with fail
      refine SM.out.mono ?_
      rintro e w4 ⟨rfl,o4⟩
      have O4:=hideIt (O3.out.trans o4 (fun _ _ f => f))
      have OW4:=hideIt (o4.own OW3.out (fun _ _ f => f))
      clear SM o4
      go_wp2
      go_ret2
      rw [HDY.out]
      exact ⟨_,rfl,by rw [HNE.out];exact OW4.out,O4.out⟩
     ·rw [if_neg he] at HDY
      rw [decide_eq_false he] at SM
      clear he
      go_wp2_with fail
      refine SM.out.mono ?_
      rintro e w4 ⟨rfl,o4⟩
      have O4:=hideIt (O3.out.trans o4 (fun _ _ f => f))
      clear SM o4
      go_wp2
      go_ret2
      rw [HDY.out]
      exact ⟨_,rfl,World.ownsRow_nil _ _ _ _,O4.out⟩
    ·have hpos : 0 < ys'.length:=List.length_pos_iff.2 hy0
     rw [if_neg (fun he => hy0 (HRR3.out he))] at HDY
     obtain ⟨p',hp'⟩ : ∃ p',p' = ys'.length:=⟨_,rfl⟩
     rw [← hp'] at hpos ⊢
     have dp : decide (0 < (p' : Int)) = true:=by simp;omega
     clear HRR3 HBLT HRR hp' hy0 EN2
     go_wp2
     go_ret2
     rw [HDY.out]
     exact ⟨_,rfl,World.ownsRow_nil _ _ _ _,HON.out⟩
   ·rw [if_pos (by omega)] at HDY
    obtain ⟨p,hp⟩ : ∃ p,p = acc.length:=⟨_,rfl⟩
    rw [← hp] at hne dl hlt ⊢
    have dn : ((p : Int) != (n : Int)) = true:=by simp;omega
    obtain ⟨p',hp'⟩ : ∃ p',p' = ys'.length:=⟨_,rfl⟩
    rw [← hp']
    clear EN HRR2 HBLT HRR hp hp' HOWN HER HUP hacc
    go_wp2
    go_ret2
    rw [HDY.out]
    exact ⟨_,rfl,World.ownsRow_nil _ _ _ _,HON.out⟩
end Go.Proofs.YthapipgaohlgdaaGreatDoor


namespace Go.Proofs.YthapipgaohlgdaaGreatDoor
set_option maxRecDepth 100000
open Go.RowKit
set_option maxHeartbeats 400000 in
theorem rvarint_at (ao : Option Addr) (m cap : Nat) (ys : List Int) (w : World) (h : Bs .u8 w (.slice ao m cap) ys) (nc : NoCap (.slice ao m cap)) (hr : ∀ y ∈ ys,0 ≤ y ∧ y ≤ 255) {a : Int} {k : Nat} {c : Int} (hs : sVarint ys = (a,k,c)) :
  Calls Tryz.prog 30 #[.slice ao m cap] w fun e w' => ∃ ao' m' cap',e = .returned (.tuple #[.int .u64 a,.slice ao' m' cap',.int .i64 c]) ∧ (∀ w0,Bs .u8 w0 (.slice ao m cap) ys → Bs .u8 w0 (.slice ao' m' cap') (ys.drop k)) ∧ NoCap (.slice ao' m' cap') ∧ Only (fun _ => False) w w':=by
 obtain ⟨hrd,hk⟩:=sVarint_rd ys hr hs
 have hl:=h.length
 have A:=hideIt (rread_as _ ys w hrd h hr)
 have hc : m ≤ cap:=by
  obtain ⟨ao',cap',e,hcap,_⟩:=h
  simp at e
  omega
 have j0 : (0 : Int) ≤ (k : Int):=by omega
 have j1 : (k : Int) ≤ (m : Int):=by omega
 have j2 : (k : Int) ≤ (cap : Int):=by omega
 have HH:=hideIt (And.intro h nc)
 clear h nc hrd hs hk hl
 by_cases hcn : cap = k
 ·subst hcn
  have H:=hideIt (And.intro (fun (w0 : World) (h0 : Bs .u8 w0 (.slice ao m cap) ys) => h0.cut0 (n:=cap) (by omega)) (HH.out.2.rest (n:=cap) (m':=m - cap)))
  rw [if_pos rfl,Nat.sub_self] at H
  clear HH hc
  go_enter Tryz.func30,Tryz.ntmps30
  go_wp2_with fail
  refine A.out.mono ?_
  rintro e w1 ⟨rfl,rfl⟩
  go_wp2
  go_quiet (fail)
  go_wp2
  go_ret3
  exact ⟨_,_,_,rfl,H.out.1,H.out.2,(Only.refl _ _).drewN nq⟩
 ·have H:=hideIt (And.intro (fun (w0 : World) (h0 : Bs .u8 w0 (.slice ao m cap) ys) => h0.cut (n:=k) (by omega)) (HH.out.2.rest (n:=k) (m':=m - k)))
  rw [if_neg hcn] at H
  clear HH
  go_enter Tryz.func30,Tryz.ntmps30
  go_wp2_with fail
  refine A.out.mono ?_
  rintro e w1 ⟨rfl,rfl⟩
  go_wp2
  go_quiet (fail)
  go_wp2
  go_ret3
  exact ⟨_,_,_,rfl,H.out.1,H.out.2,(Only.refl _ _).drewN nq⟩
set_option maxHeartbeats 1600000 in
theorem run_rdecode_bs (v : Value) (ys : List Int) (n : Nat) (w : World) (h : Bs .u8 w v ys) (nc : NoCap v) (hr : ∀ y ∈ ys,0 ≤ y ∧ y ≤ 255) (hn : n ≤ 65536) :
  Calls Tryz.prog 92 #[v,.int .i64 n] w fun e w' => ∃ u,e = .returned (.tuple #[u,.int .i64 (runDec ys n).2]) ∧ w'.ownsRow w.heap.size 42 1 u (runDec ys n).1.length ((runDec ys n).1.map (Value.int .u64)) ∧ Only (fun _ => False) w w':=by
 obtain ⟨i0,hi,hz0,hz1,hz2⟩:=info_parts Tryz.infoU64
 have d0 : decide ((n : Int) < 0) = false:=by simp
 have d1 : decide (65536 < (n : Int)) = false:=by simp;omega
 have HB:=hideIt (And.intro h (And.intro nc hr))
 clear h nc hr
 go_enter Tryz.func92,Tryz.ntmps92
 go_wp2
 go_loopg [0,6] n (fun g s0 s6 wx => ∃ (f : Nat) (acc ys' : List Int),wx.ownsRow w.heap.size 42 1 s6 acc.length (acc.map (Value.int .u64)) ∧ Bs .u8 w s0 ys' ∧ NoCap s0 ∧ Hid (∀ y ∈ ys',0 ≤ y ∧ y ≤ 255) ∧ Hid (acc.length + g = n) ∧ Hid (g < f) ∧ Hid (runD f acc ys' n = runDec ys n) ∧ Only (fun _ => False) w wx)
 case atStart => exact ⟨n + 1,[],ys,World.ownsRow_nil _ _ _ _,HB.out.1,HB.out.2.1,HB.out.2.2,(by simp [Hid]),(by simp [Hid]),rfl,Only.refl _ _⟩
 case round =>
  obtain ⟨f,acc,ys',hown,hbs,hnc,HRG,HG,HF,HD,hon⟩:=hrel
  clear HB
  obtain ⟨W,hW⟩ : ∃ W,W = wr:=⟨_,rfl⟩
  subst hW
  obtain ⟨G,hG⟩ : ∃ G,G = gk:=⟨_,rfl⟩
  subst hG
  have HOWN:=hideIt hown
  have HON:=hideIt hon
  have HBS:=hideIt hbs
  have HNC:=hideIt hnc
  obtain ⟨ab,cb,eb⟩:=hbs.len
  obtain ⟨a7,c7,e7⟩:=(Bs.of_own hown).len
  obtain ⟨m,hm⟩ : ∃ m,m = acc.length:=⟨_,rfl⟩
  rw [← hm] at e7 HOWN
  have HM:=hideIt hm
  have hmn : m + G = n:=by rw [hm];exact HG.out
  obtain ⟨q,hq⟩ : ∃ q,q = ys'.length:=⟨_,rfl⟩
  rw [← hq] at eb
  have HQ:=hideIt hq
  subst e7 eb
  clear hown hon hbs hnc hq
  by_cases hlt : G = 0
  ·have d2 : decide ((m : Int) < (n : Int)) = false:=decide_eq_false (by omega)
   have HR:=runD_done (f:=f) (acc:=acc) (ys:=ys') (n:=n) (by omega) (by have:=HF.out;omega)
   rw [HD.out] at HR
   have HR:=hideIt HR
   clear hm
   by_cases hy : 0 < ys'.length
   ·rw [if_pos hy] at HR
    have d3 : decide ((0 : Int) < (q : Int)) = true:=decide_eq_true (by rw [HQ.out];omega)
    have d4 : 0 < q:=by rw [HQ.out];exact hy
    go_wp2
    go_ret2
    rw [HR.out]
    exact ⟨_,rfl,World.ownsRow_nil _ _ _ _,HON.out⟩
   ·rw [if_neg hy] at HR
    have d3 : decide ((0 : Int) < (q : Int)) = false:=decide_eq_false (by rw [HQ.out];omega)
    have d4 : ¬ 0 < q:=by rw [HQ.out];exact hy
    go_wp2
    go_ret2
    rw [HR.out]
    exact ⟨_,rfl,by simp only;rw [← HM.out];exact HOWN.out,HON.out⟩
  ·have d2 : decide ((m : Int) < (n : Int)) = true:=decide_eq_true (by omega)
   have fp : 0 < f:=by have:=HF.out;omega
   have hln : acc.length < n:=by omega
   clear hm
   rcases sVarint_cases HRG.out with ⟨c,hs,hc⟩ | ⟨a,k,hs,k1,k2,ha,_⟩
   ·have HR:=runD_err1 hln fp hs (by omega)
    rw [HD.out] at HR
    have HR:=hideIt HR
    have RV:=hideIt (rvarint_at ab q cb ys' W (HBS.out.past HON.out) HNC.out HRG.out hs)
    have dc : (c != 0) = true:=by simp;omega
    clear hs hln
    go_wp2_with fail
    refine RV.out.mono ?_
    rintro e w2 ⟨ao2,m2,cap2,rfl,_,_,o2⟩
    have O2:=hideIt (HON.out.same o2)
    clear RV o2
    go_wp2
    go_ret2
    rw [HR.out]
    exact ⟨_,rfl,World.ownsRow_nil _ _ _ _,O2.out⟩
   ·have hr2 : ∀ y ∈ ys'.drop k,0 ≤ y ∧ y ≤ 255:=fun y hy => HRG.out y (List.mem_of_mem_drop hy)
    have RV:=hideIt (rvarint_at ab q cb ys' W (HBS.out.past HON.out) HNC.out HRG.out hs)
    have HR2:=hideIt hr2
    rcases sVarint_cases hr2 with ⟨c,hs2,hc⟩ | ⟨b,j,hs2,j1,j2,hb,_⟩
    ·have HR:=runD_err2 hln fp hs hs2 (by omega)
     rw [HD.out] at HR
     have HR:=hideIt HR
     have HS2:=hideIt hs2
     have dc : (c != 0) = true:=by simp;omega
     clear hs hln hs2 hr2
     go_wp2_with fail
     refine RV.out.mono ?_
     rintro e w2 ⟨ao2,m2,cap2,rfl,hb2,nc2,o2⟩
     have O2:=hideIt (HON.out.same o2)
     have RW:=hideIt (rvarint_at ao2 m2 cap2 (ys'.drop k) w2 (hb2 w2 (HBS.out.past O2.out)) nc2 HR2.out HS2.out)
     clear RV o2 hb2 nc2
     go_wp2_with fail
     refine RW.out.mono ?_
     rintro e w3 ⟨ao3,m3,cap3,rfl,_,_,o3⟩
     have O3:=hideIt (O2.out.same o3)
     clear RW o3
     go_wp2
     go_ret2
     rw [HR.out]
     exact ⟨_,rfl,World.ownsRow_nil _ _ _ _,O3.out⟩
    ·have hq : (n : Int) - (m : Int) = (G : Int):=by omega
     have HS2:=hideIt hs2
     have hcase : (G ≤ b) ∨ (¬ G ≤ b ∧ m = 0) ∨ (¬ G ≤ b ∧ 0 < m):=by omega
     rcases hcase with hbG | ⟨hbG,hm0⟩ | ⟨hbG,hm0⟩
     ·have HR:=runD_err3 hln fp hs hs2 (.inl (by have:=HM.out;omega))
      rw [HD.out] at HR
      have HR:=hideIt HR
      have dg : decide ((G : Int) ≤ (b : Int)) = true:=decide_eq_true (by omega)
      clear hs hln hs2 hr2
      go_wp2_with fail
      refine RV.out.mono ?_
      rintro e w2 ⟨ao2,m2,cap2,rfl,hb2,nc2,o2⟩
      have O2:=hideIt (HON.out.same o2)
      have RW:=hideIt (rvarint_at ao2 m2 cap2 (ys'.drop k) w2 (hb2 w2 (HBS.out.past O2.out)) nc2 HR2.out HS2.out)
      clear RV o2 hb2 nc2
      go_wp2_with fail
      refine RW.out.mono ?_
      rintro e w3 ⟨ao3,m3,cap3,rfl,_,_,o3⟩
      have O3:=hideIt (O2.out.same o3)
      clear RW o3
      go_wp2
      go_ret2
      rw [HR.out]
      exact ⟨_,rfl,World.ownsRow_nil _ _ _ _,O3.out⟩
     ·have ho : runOn acc (a : Int) = false:=by
       have : acc = []:=List.eq_nil_of_length_eq_zero (by rw [← HM.out];exact hm0)
       rw [this];rfl
      have HR:=runD_next hln fp hs hs2 (by have:=HM.out;omega) ho
      rw [HD.out] at HR
      have HR:=hideIt HR
      have dg : decide ((G : Int) ≤ (b : Int)) = false:=decide_eq_false (by omega)
      have dm : decide ((0 : Int) < (m : Int)) = false:=decide_eq_false (by omega)
      have dm2 : decide (0 < m) = false:=decide_eq_false (by omega)
      have ha0 : (a : Int) ≤ 18446744073709551615:=by omega
      clear hs hln hs2 hr2 ho hm0
      go_wp2_with fail
      refine RV.out.mono ?_
      rintro e w2 ⟨ao2,m2,cap2,rfl,hb2,nc2,o2⟩
      have O2:=hideIt (HON.out.same o2)
      have RW:=hideIt (rvarint_at ao2 m2 cap2 (ys'.drop k) w2 (hb2 w2 (HBS.out.past O2.out)) nc2 HR2.out HS2.out)
      have HB2:=hideIt (hb2 w HBS.out)
      have OO2:=hideIt o2
      clear RV o2 hb2 nc2
      go_wp2_with fail
      refine RW.out.mono ?_
      rintro e w3 ⟨ao3,m3,cap3,rfl,hb3,nc3,o3⟩
      have O3:=hideIt (O2.out.same o3)
      have HB3:=hideIt (hb3 w HB2.out)
      have NC3:=hideIt nc3
      have OW3:=hideIt (OO2.out.same o3)
      have OWN3:=hideIt (OW3.out.own HOWN.out (fun _ _ f => f))
      clear RW o3 hb3 nc3
      have LIN:=hideIt (O3.out.size)
      go_wp2
      go_loopg [6,13] (b + 1) (fun g2 s6 s13 wy => ∃ i : Nat,i + g2 = b + 1 ∧ s13 = .int .u64 i ∧ wy.ownsRow w.heap.size 42 1 s6 (m + i) ((acc ++ List.replicate i (a : Int)).map (Value.int .u64)) ∧ Only (fun _ => False) w wy)
      case atStart => exact ⟨0,by omega,rfl,by simpa using OWN3.out,O3.out⟩
      case round =>
       obtain ⟨i,hib,rfl,hown,hon⟩:=hrel
       have HX:=hideIt hon
       have hsz : w.heap.size ≤ wr.heap.size:=hon.size
       clear OWN3 hon
       cases gk with
       | zero =>
        obtain rfl : i = b + 1:=by omega
        have F : Hid (wr.ownsRow w.heap.size 42 1 u6 (acc ++ List.replicate (b + 1) (a : Int)).length ((acc ++ List.replicate (b + 1) (a : Int)).map (Value.int .u64))):=by
         simp only [Hid]
         rw [List.length_append,List.length_replicate,← HM.out];exact hown
        have HLN : Hid ((acc ++ List.replicate (b + 1) (a : Int)).length + (G - (b + 1)) = n):=by
         simp only [Hid]
         rw [List.length_append,List.length_replicate,← HM.out];omega
        have d5 : decide (((b : Int) + 1) ≤ (b : Int)) = false:=decide_eq_false (by omega)
        have d6 : decide (b + 1 ≤ b) = false:=decide_eq_false (by omega)
        clear hown
        go_wp2
        go_roundg (G - (b + 1))
        case rel => exact ⟨f - 1,_,_,F.out,HB3.out,NC3.out,(fun y hy => HR2.out y (List.mem_of_mem_drop hy)),HLN.out,(by have:=HF.out;simp only [Hid];omega),HR.out.symm,HX.out⟩
        case measure => omega
       | succ g =>
        have d5 : decide ((i : Int) ≤ (b : Int)) = true:=decide_eq_true (by omega)
        have d6 : decide (i ≤ b) = true:=decide_eq_true (by omega)
        go_wp2_with (at_builtin;refine wpList_append_lies _ rfl _ _ _ rfl w.heap.size 42 i0 (.int .u64 0) 1 8 Tryz.underlying46 hi hz0 hz1 hz2 rfl (by omega) _ (m + i) _ rfl (hown.alloc _) ⟨wr.heap.size,0,none⟩ 1 1 [.int .u64 (a : Int)] rfl rfl ?c1 ?c2 (by omega) ?c3 ?c4 ?c5 (wr.heap.size + 1) (by simp) ?_)
        case c1 => exact cell_one_new _ _ _
        case c2 => intro u hu;simp at hu;subst hu;rfl
        case c3 => unfold maxLen;omega
        case c4 => omega
        case c5 => simp;omega
        intro gg cap1 w4 hown1 hgrow hat hg1
        have o3:=hideIt ((HX.out.alloc _).grown hgrow (fun p hp hq => by have:=(hown.lt p hq).1;omega))
        have own3 : Hid (w4.ownsRow w.heap.size 42 1 (.slice (some ⟨gg,0,none⟩) (m + i + 1) cap1) (m + (i + 1)) ((acc ++ List.replicate (i + 1) (a : Int)).map (Value.int .u64))):=by
         simp only [Hid]
         rw [rep_snoc,← Nat.add_assoc];simpa using hown1
        clear hown hown1 hgrow hat HX
        go_wp2
        go_roundg g
        case rel => exact ⟨i + 1,by omega,by go_num,own3.out,o3.out⟩
        case measure => omega
     ·obtain ⟨p,rfl⟩ : ∃ p,m = p + 1:=⟨m - 1,by omega⟩
      have HY : Hid (runOn acc (a : Int) = (acc.getD p 0 == (a : Int))):=by
       simp only [Hid,runOn]
       rw [← HM.out,decide_eq_true (by omega),Bool.true_and,Nat.add_sub_cancel]
      obtain ⟨bb,off,cap9,e9,_⟩:=(Bs.of_own (by rw [← HM.out];exact HOWN.out : W.ownsRow w.heap.size 42 1 (.slice a7 (p + 1) c7) acc.length (acc.map (Value.int .u64)))).at p (by rw [← HM.out];omega)
      have ea : a7 = some ⟨bb,off,none⟩:=by simp at e9;exact e9.1
      subst ea
      clear e9
      have HC : Hid (∀ w' : World,w'.ownsRow w.heap.size 42 1 (.slice (some ⟨bb,off,none⟩) (p + 1) c7) (p + 1) (acc.map (Value.int .u64)) → w'.cell? ⟨bb,off + p,none⟩ = some (.int .u64 (acc.getD p 0))):=by
       intro w' hw
       obtain ⟨b2,off2,cap2,e2,hc2⟩:=(Bs.of_own (by rw [← HM.out];exact hw : w'.ownsRow w.heap.size 42 1 (.slice (some ⟨bb,off,none⟩) (p + 1) c7) acc.length (acc.map (Value.int .u64)))).at p (by rw [← HM.out];omega)
       have e3 : bb = b2 ∧ off = off2:=by simp at e2;exact ⟨e2.1.1,e2.1.2⟩
       obtain ⟨rfl,rfl⟩:=e3
       exact hc2
      generalize acc.getD p 0 = y at HY HC
      have dg : decide ((G : Int) ≤ (b : Int)) = false:=decide_eq_false (by omega)
      have hq2 : (n : Int) - ((p : Int) + 1) = (G : Int):=by omega
      have d2a : decide ((p : Int) + 1 < (n : Int)) = true:=decide_eq_true (by omega)
      have d2b : decide (p + 1 < n) = true:=decide_eq_true (by omega)
      have ha0 : (a : Int) ≤ 18446744073709551615:=by omega
      cases hya : (y == (a : Int)) with
      | true =>
       have ho : runOn acc (a : Int) = true:=by rw [HY.out];exact hya
       have HR:=runD_err3 hln fp hs hs2 (.inr ho)
       rw [HD.out] at HR
       have HR:=hideIt HR
       clear hs hln hs2 hr2 ho
       go_wp2_with fail
       refine RV.out.mono ?_
       rintro e w2 ⟨ao2,m2,cap2,rfl,hb2,nc2,o2⟩
       have O2:=hideIt (HON.out.same o2)
       have RW:=hideIt (rvarint_at ao2 m2 cap2 (ys'.drop k) w2 (hb2 w2 (HBS.out.past O2.out)) nc2 HR2.out HS2.out)
       have HB2:=hideIt (hb2 w HBS.out)
       have OO2:=hideIt o2
       clear RV o2 hb2 nc2
       go_wp2_with fail
       refine RW.out.mono ?_
       rintro e w3 ⟨ao3,m3,cap3,rfl,hb3,nc3,o3⟩
       have O3:=hideIt (O2.out.same o3)
       have HB3:=hideIt (hb3 w HB2.out)
       have NC3:=hideIt nc3
       have OW3:=hideIt (OO2.out.same o3)
       have OWN3:=hideIt (OW3.out.own HOWN.out (fun _ _ f => f))
       clear RW o3 hb3 nc3
       have HCC:=HC.out w3 OWN3.out
       go_wp2
       go_ret2
       rw [HR.out]
       exact ⟨_,rfl,World.ownsRow_nil _ _ _ _,O3.out⟩
      | false =>
       have ho : runOn acc (a : Int) = false:=by rw [HY.out];exact hya
       have HR:=runD_next hln fp hs hs2 (by have:=HM.out;omega) ho
       rw [HD.out] at HR
       have HR:=hideIt HR
       clear hs hln hs2 hr2 ho
       go_wp2_with fail
       refine RV.out.mono ?_
       rintro e w2 ⟨ao2,m2,cap2,rfl,hb2,nc2,o2⟩
       have O2:=hideIt (HON.out.same o2)
       have RW:=hideIt (rvarint_at ao2 m2 cap2 (ys'.drop k) w2 (hb2 w2 (HBS.out.past O2.out)) nc2 HR2.out HS2.out)
       have HB2:=hideIt (hb2 w HBS.out)
       have OO2:=hideIt o2
       clear RV o2 hb2 nc2
       go_wp2_with fail
       refine RW.out.mono ?_
       rintro e w3 ⟨ao3,m3,cap3,rfl,hb3,nc3,o3⟩
       have O3:=hideIt (O2.out.same o3)
       have HB3:=hideIt (hb3 w HB2.out)
       have NC3:=hideIt nc3
       have OW3:=hideIt (OO2.out.same o3)
       have OWN3:=hideIt (OW3.out.own HOWN.out (fun _ _ f => f))
       clear RW o3 hb3 nc3
       have HCC:=HC.out w3 OWN3.out
       have LIN:=hideIt (O3.out.size)
       go_wp2
       go_loopg [6,13] (b + 1) (fun g2 s6 s13 wy => ∃ i : Nat,i + g2 = b + 1 ∧ s13 = .int .u64 i ∧ wy.ownsRow w.heap.size 42 1 s6 (p + 1 + i) ((acc ++ List.replicate i (a : Int)).map (Value.int .u64)) ∧ Only (fun _ => False) w wy)
       case atStart => exact ⟨0,by omega,rfl,by simpa using OWN3.out,O3.out⟩
       case round =>
        obtain ⟨i,hib,rfl,hown,hon⟩:=hrel
        have HX:=hideIt hon
        have hsz : w.heap.size ≤ wr.heap.size:=hon.size
        clear OWN3 hon
        cases gk with
        | zero =>
         obtain rfl : i = b + 1:=by omega
         have F : Hid (wr.ownsRow w.heap.size 42 1 u6 (acc ++ List.replicate (b + 1) (a : Int)).length ((acc ++ List.replicate (b + 1) (a : Int)).map (Value.int .u64))):=by
          simp only [Hid]
          rw [List.length_append,List.length_replicate,← HM.out];exact hown
         have HLN : Hid ((acc ++ List.replicate (b + 1) (a : Int)).length + (G - (b + 1)) = n):=by
          simp only [Hid]
          rw [List.length_append,List.length_replicate,← HM.out];omega
         have d5 : decide (((b : Int) + 1) ≤ (b : Int)) = false:=decide_eq_false (by omega)
         have d6 : decide (b + 1 ≤ b) = false:=decide_eq_false (by omega)
         clear hown
         go_wp2
         go_roundg (G - (b + 1))
         case rel => exact ⟨f - 1,_,_,F.out,HB3.out,NC3.out,(fun y hy => HR2.out y (List.mem_of_mem_drop hy)),HLN.out,(by have:=HF.out;simp only [Hid];omega),HR.out.symm,HX.out⟩
         case measure => omega
        | succ g =>
         have d5 : decide ((i : Int) ≤ (b : Int)) = true:=decide_eq_true (by omega)
         have d6 : decide (i ≤ b) = true:=decide_eq_true (by omega)
         go_wp2_with (at_builtin;refine wpList_append_lies _ rfl _ _ _ rfl w.heap.size 42 i0 (.int .u64 0) 1 8 Tryz.underlying46 hi hz0 hz1 hz2 rfl (by omega) _ (p + 1 + i) _ rfl (hown.alloc _) ⟨wr.heap.size,0,none⟩ 1 1 [.int .u64 (a : Int)] rfl rfl ?c1 ?c2 (by omega) ?c3 ?c4 ?c5 (wr.heap.size + 1) (by simp) ?_)
         case c1 => exact cell_one_new _ _ _
         case c2 => intro u hu;simp at hu;subst hu;rfl
         case c3 => unfold maxLen;omega
         case c4 => omega
         case c5 => simp;omega
         intro gg cap1 w4 hown1 hgrow hat hg1
         have o3:=hideIt ((HX.out.alloc _).grown hgrow (fun p hp hq => by have:=(hown.lt p hq).1;omega))
         have own3 : Hid (w4.ownsRow w.heap.size 42 1 (.slice (some ⟨gg,0,none⟩) (p + 1 + i + 1) cap1) (p + 1 + (i + 1)) ((acc ++ List.replicate (i + 1) (a : Int)).map (Value.int .u64))):=by
          simp only [Hid]
          rw [rep_snoc,← Nat.add_assoc];simpa using hown1
         clear hown hown1 hgrow hat HX
         go_wp2
         go_roundg g
         case rel => exact ⟨i + 1,by omega,by go_num,own3.out,o3.out⟩
         case measure => omega
end Go.Proofs.YthapipgaohlgdaaGreatDoor


namespace Go.Proofs.YthapipgaohlgdaaGreatDoor
set_option maxRecDepth 100000
open Go.RowKit
theorem sum_begin (ys : List Int) (j : Nat) (hj : 1 ≤ j) (hg : ∀ x ∈ ys,G64 x) : ys.take j ++ sm (ys.getD (j - 1) 0) (ys.drop j) = bh (sm 0) (j - 1) ys:=by
 unfold bh
 by_cases h : j - 1 < ys.length
 ·obtain ⟨p,rfl⟩ : ∃ p,j = p + 1:=⟨j - 1,by omega⟩
  simp only [Nat.add_sub_cancel] at h ⊢
  have e1 : ys.drop p = ys.getD p 0 :: ys.drop (p + 1):=by
   rw [List.getD_eq_getElem?_getD,List.getElem?_eq_getElem h]
   exact List.drop_eq_getElem_cons h
  have gx : G64 (ys.getD p 0):=by
   rw [List.getD_eq_getElem?_getD,List.getElem?_eq_getElem h]
   exact hg _ (List.getElem_mem h)
  rw [e1,take_next ys p h]
  simp only [sm,Int.zero_add,w64_id gx,List.append_assoc,List.singleton_append]
 ·rw [List.drop_of_length_le (by omega),List.drop_of_length_le (by omega),List.take_of_length_le (by omega),List.take_of_length_le (by omega)]
  rfl
theorem sum_round (zs : List Int) (i : Nat) (hi : i < zs.length) : (zs.set i (wrap64 (zs.getD i 0 + zs.getD (i - 1) 0))).take (i + 1) ++ sm ((zs.set i (wrap64 (zs.getD i 0 + zs.getD (i - 1) 0))).getD i 0) ((zs.set i (wrap64 (zs.getD i 0 + zs.getD (i - 1) 0))).drop (i + 1)) = zs.take i ++ sm (zs.getD (i - 1) 0) (zs.drop i):=by
 have h:=dif_round (f:=sm) (st:=fun a x => (wrap64 (a + x),wrap64 (a + x))) (fun _ _ _ => rfl) zs i (zs.getD (i - 1) 0) hi
 simp only at h
 rw [Int.add_comm (zs.getD i 0),← h]
 congr 2
 rw [List.getD_eq_getElem?_getD,List.getElem?_set_self hi];rfl
set_option maxHeartbeats 800000 in
theorem rsum_in (v : Value) (xs : List Int) (k : Nat) (w : World) (hb : Bs .i64 w v xs) (nc : NoCap v) (hl : xs.length ≤ 1000000) (hg : ∀ x ∈ xs, G64 x) (hk : k ≤ 3) :
    Calls Tryz.prog 62 #[v, .int .i64 k] w fun e w' => ∃ v', e = .returned (.tuple #[v', .int .i64 0]) ∧ w'.ownsRow w.heap.size 3 1 v' xs.length ((S k xs).map (Value.int .i64)) ∧ Only (fun _ => False) w w' := by
  obtain ⟨i0, hi, hz0, hz1, hz2⟩ := info_parts Tryz.infoI64
  have t0 : decide ((k : Int) < 0) = false := decide_eq_false (by omega)
  have t1 : decide ((3 : Int) < (k : Int)) = false := decide_eq_false (by omega)
  have ho := World.ownsRow_made (base := w.heap.size) (e := 3) (size := 1) w #[] 0 (Nat.le_refl _) (by unfold maxLen; omega) rfl
  have HB := hideIt (And.intro (hb.keep ((Only.refl (fun _ => False) w).alloc (.cells #[] 3)) (fun _ _ f => f)) nc)
  have HG := hideIt hg
  clear hb nc hg
  obtain ⟨fin, hfin⟩ : ∃ fin, fin = S k xs := ⟨_, rfl⟩
  rw [← hfin]
  have HF := hideIt hfin
  clear hfin
  go_enter Tryz.func62, Tryz.ntmps62
  go_wp2_with (at_builtin; refine wpList_append_bs _ rfl _ _ _ rfl w.heap.size 3 i0 (.int .i64 0) 8 Tryz.underlying45 hi hz0 hz1 hz2 rfl (.slice (some ⟨w.heap.size, 0, none⟩) 0 0) 0 [] rfl ho .i64 v xs rfl HB.out.1 HB.out.2 (by unfold maxLen; omega) (by omega) (by simp) ?_)
  intro v' w1 hown1 hgrow hnn _
  have hv' : v' ≠ .slice none 0 0 := hnn
  have FIN : w1.ownsRow w.heap.size 3 1 v' xs.length (xs.map (Value.int .i64)) ∧ Only (fun _ => False) w w1 := by
    refine ⟨by simpa using hown1, ((Only.refl _ _).alloc _).grown hgrow (fun k hk e => ?_)⟩
    simp [Value.ownBlock] at e
    omega
  obtain ⟨g, cap, hgv, hgN⟩ : ∃ g cap, v' = .slice (some ⟨g, 0, none⟩) xs.length cap ∧ w.heap.size ≤ g := by
    rcases FIN.1.2 with ⟨h, _⟩ | ⟨g, cap, cur, h, h2, _⟩
    · exact absurd h hv'
    · exact ⟨g, cap, h, h2⟩
  subst hgv
  have HFI := hideIt FIN
  clear hown1 hgrow ho HB hnn hv' FIN
  obtain ⟨n, hn⟩ : ∃ n, n = xs.length := ⟨_, rfl⟩
  have HN := hideIt hn
  rw [← hn] at hl HFI ⊢
  clear hn
  obtain ⟨N, hN⟩ : ∃ N, N = w.heap.size := ⟨_, rfl⟩
  rw [← hN] at HFI hgN ⊢
  have HNN := hideIt hN
  clear hN
  go_wp2
  go_loopw [7] (fun i wr => ∃ (j : Nat) (ys : List Int), j ≤ 3 ∧ i = .int .i64 j ∧ ys.length = n ∧ fin = S j ys ∧ (∀ x ∈ ys, G64 x) ∧ wr.ownsRow N 3 1 (.slice (some ⟨g, 0, none⟩) n cap) n (ys.map (Value.int .i64)) ∧ Only (fun _ => False) w wr) (fun i _ => (intOf i).toNat)
  case atStart => exact ⟨k, xs, hk, rfl, HN.out.symm, HF.out, HG.out, HFI.out.1, HFI.out.2⟩
  case round =>
    obtain ⟨j, ys, hj3, rfl, hyl, hfy, hyg, hown, hon⟩ := hrel
    clear HFI HF HG t0 t1
    by_cases hj1 : 1 ≤ j
    · have tj : decide ((1 : Int) ≤ (j : Int)) = true := decide_eq_true (by omega)
      have HBG := hideIt (sum_begin ys j hj1 hyg)
      have HYG := hideIt hyg
      have HFY := hideIt hfy
      have START := hideIt (And.intro hyl (And.intro hown hon))
      clear hyl hown hon hyg hfy
      go_wp2
      go_loopw [8] (fun i wx => ∃ (q : Nat) (zs : List Int), 1 ≤ q ∧ q ≤ 1000003 ∧ i = .int .i64 q ∧ zs.length = n ∧ zs.take q ++ sm (zs.getD (q - 1) 0) (zs.drop q) = bh (sm 0) (j - 1) ys ∧ wx.ownsRow N 3 1 (.slice (some ⟨g, 0, none⟩) n cap) n (zs.map (Value.int .i64)) ∧ Only (fun _ => False) w wx) (fun i _ => n - (intOf i).toNat)
      case atStart => exact ⟨j, ys, hj1, by omega, rfl, START.out.1, HBG.out, START.out.2.1, START.out.2.2⟩
      case round =>
        obtain ⟨q, zs, hq1, hq2, rfl, hzl, hze, hown, hon⟩ := hrel
        clear START HBG
        by_cases hlt : q < n
        · have hcell : wr.cell? ⟨g, q, none⟩ = some (.int .i64 (zs.getD q 0)) := by
            rw [hown.cellAt q (by omega), List.getElem?_map, getD_in zs q (by omega)]; rfl
          have hcell1 : wr.cell? ⟨g, q - 1, none⟩ = some (.int .i64 (zs.getD (q - 1) 0)) := by
            rw [hown.cellAt (q - 1) (by omega), List.getElem?_map, getD_in zs (q - 1) (by omega)]; rfl
          have hfr : wr.frozen? ⟨g, q, none⟩ = false := hown.frozenAt _
          have hrnd := sum_round zs q (by omega)
          rw [hze] at hrnd
          obtain ⟨x, hx⟩ : ∃ x, x = zs.getD q 0 := ⟨_, rfl⟩
          obtain ⟨y, hy⟩ : ∃ y, y = zs.getD (q - 1) 0 := ⟨_, rfl⟩
          obtain ⟨p, hp⟩ : ∃ p : Nat, p = q - 1 := ⟨_, rfl⟩
          rw [← hx] at hcell hrnd
          rw [← hy] at hcell1 hrnd
          rw [← hp] at hcell1
          have hw1 : IntKind.i64.wrap ((q : Int) - 1) = (p : Int) := by rw [IntKind.wrap_i64]; omega
          have i0' : (0 : Int) ≤ (q : Int) := by omega
          have i1' : (q : Int) < (n : Int) := by omega
          have i2 : (0 : Int) ≤ (p : Int) := by omega
          have i3 : (p : Int) < (n : Int) := by omega
          have H := hideIt (And.intro hown (And.intro hon (And.intro hzl hrnd)))
          clear hown hon hzl hrnd hze hx hy hp
          go_wp2
          go_region
          all_goals go_wp2
          all_goals go_roundw
          all_goals first
            | (refine ⟨q + 1, zs.set q (wrap64 (x + y)), by omega, by omega, by go_num, by rw [List.length_set]; exact H.out.2.2.1, by rw [Nat.add_sub_cancel]; exact H.out.2.2.2, ?_, ?_⟩
               · have h1 := (H.out.1.stored q (.int .i64 (wrap64 (x + y)))).1
                 rw [← List.map_set] at h1
                 exact h1.drew
               · exact (H.out.2.1.setCell (fun hb => by have := HNN.out; simp only at hb; omega) _).drew)
            | (simp [intOf]; omega)
        · have e1 : zs = bh (sm 0) (j - 1) ys := by
            rw [← hze, List.drop_of_length_le (by omega), List.take_of_length_le (by omega)]; simp [sm]
          have hfy : fin = S (j - 1) zs := by
            rw [HFY.out, e1]
            obtain ⟨p, rfl⟩ : ∃ p, j = p + 1 := ⟨j - 1, by omega⟩
            rfl
          have hzg : ∀ x ∈ zs, G64 x := by rw [e1]; exact bh_g (sm_g 0) _ _ HYG.out
          have H := hideIt (And.intro hzl (And.intro hfy (And.intro hzg (And.intro hown hon))))
          clear hzl hfy hzg hown hon e1 hze
          go_wp2
          go_roundw
          case rel => exact ⟨j - 1, zs, by omega, by go_num, H.out⟩
          case measure => simp [intOf]; omega
    · have tj : decide ((1 : Int) ≤ (j : Int)) = false := decide_eq_false (by omega)
      have e1 : fin = ys := by
        rw [hfy, show j = 0 by omega]; rfl
      subst e1
      have H := hideIt (And.intro hown hon)
      clear hown hon hyl hyg hfy
      go_wp2
      go_ret2
      refine ⟨_, rfl, ?_, H.out.2⟩
      have h1 := H.out.1
      rw [HNN.out] at h1
      rw [← HN.out]
      exact h1
end Go.Proofs.YthapipgaohlgdaaGreatDoor


namespace Go.Proofs.YthapipgaohlgdaaGreatDoor
set_option maxRecDepth 100000
open Go.RowKit
theorem Bs.back {k : IntKind} {w w' : World} {v : Value} {xs : List Int} (h : Bs k w' v xs) (o : Only (fun _ => False) w w') (hb : xs ≠ [] → ∀ b,v.ownBlock = some b → b < w.heap.size) : Bs k w v xs:=by
 obtain ⟨ao,cap,rfl,hc,hr⟩:=h
 refine ⟨ao,cap,rfl,hc,fun hx => ?_⟩
 obtain ⟨b,off,rfl,hcell⟩:=hr hx
 refine ⟨b,off,rfl,fun j hj => ?_⟩
 rw [← hcell j hj]
 exact World.cell?_of_block (o.block b (hb hx b rfl) (fun f => f)).symm
theorem Bs.old {k : IntKind} {w : World} {v : Value} {xs : List Int} (h : Bs k w v xs) (hx : xs ≠ []) : ∀ b,v.ownBlock = some b → b < w.heap.size:=by
 obtain ⟨ao,cap,rfl,hc,hr⟩:=h
 obtain ⟨b,off,rfl,hcell⟩:=hr hx
 intro q hq
 have : b = q:=by simpa [Value.ownBlock] using hq
 subst this
 exact World.block_lt_of_cell? w _ (hcell 0 (List.length_pos_iff.2 hx))
theorem rfixed_w (ao : Option Addr) (m cap : Nat) (ys : List Int) (w0 w : World) (h : Bs .u8 w0 (.slice ao m cap) ys) (o : Only (fun _ => False) w0 w) (nc : NoCap (.slice ao m cap)) (hr : Byt ys) (hm : m ≤ 1000000000000) {a : Int} {k : Nat} {c : Int} (hs : sFixed 8 ys = (a,k,c)) :
  Calls Tryz.prog 95 #[.slice ao m cap,.int .i64 8] w fun e w' => ∃ ao' m' cap',e = .returned (.tuple #[.int .u64 a,.slice ao' m' cap',.int .i64 c]) ∧ Bs .u8 w0 (.slice ao' m' cap') (ys.drop k) ∧ NoCap (.slice ao' m' cap') ∧ Only (fun _ => False) w w':=by
 refine (rfixed_at ao m cap ys w (h.past o) nc hr hm 8 hs).mono ?_
 rintro e w' ⟨ao',m',cap',rfl,hb,hn,o',ho⟩
 refine ⟨ao',m',cap',rfl,hb.back (o.same o') (fun hx b hb2 => ?_),hn,o'⟩
 rw [ho] at hb2
 exact h.old (fun e => hx (by rw [e];simp)) b hb2
set_option maxHeartbeats 800000 in
theorem rplain_none (v : Value) (ys : List Int) (tag : Int) (w : World) (h : Bs .u8 w v ys) :
  Calls Tryz.prog 89 #[v,.int .i64 0,.int .i64 tag] w fun e w' => ∃ u,e = .returned (.tuple #[u,.int .i64 (if 0 < ys.length then ([],3) else (([] : List Int),(0 : Int))).2]) ∧ w'.ownsRow w.heap.size 42 1 u 0 [] ∧ Only (fun _ => False) w w':=by
 obtain ⟨ao,cap,rfl⟩:=h.len
 clear h
 by_cases hp : 0 < ys.length
 ·rw [if_pos hp]
  have dp : decide ((0 : Int) < ys.length) = true:=decide_eq_true (by omega)
  generalize ys.length = m at *
  go_enter Tryz.func89,Tryz.ntmps89
  go_wp2
  go_loopw [0,8,9] (fun s0 s8 s9 wr => s0 = .slice ao m cap ∧ s8 = .slice none 0 0 ∧ s9 = .int .i64 0 ∧ w = wr) (fun _ _ _ _ => 0)
  case atStart => exact ⟨rfl,rfl,rfl,rfl⟩
  case round =>
   obtain ⟨rfl,rfl,rfl,rfl⟩:=hrel
   go_wp2
   try rw [Exit.noGoto_ret]
   go_ret2
   exact ⟨_,rfl,World.ownsRow_nil _ _ _ _,Only.refl _ _⟩
 ·rw [if_neg hp]
  obtain h0 : ys.length = 0:=by omega
  rw [h0]
  clear hp h0
  go_enter Tryz.func89,Tryz.ntmps89
  go_wp2
  go_loopw [0,8,9] (fun s0 s8 s9 wr => s0 = .slice ao 0 cap ∧ s8 = .slice none 0 0 ∧ s9 = .int .i64 0 ∧ w = wr) (fun _ _ _ _ => 0)
  case atStart => exact ⟨rfl,rfl,rfl,rfl⟩
  case round =>
   obtain ⟨rfl,rfl,rfl,rfl⟩:=hrel
   go_wp2
   try rw [Exit.noGoto_ret]
   go_ret2
   exact ⟨_,rfl,World.ownsRow_nil _ _ _ _,Only.refl _ _⟩
set_option maxHeartbeats 1600000 in
theorem rplain_zero (v : Value) (ys : List Int) (n : Nat) (w : World) (h : Bs .u8 w v ys) (nc : NoCap v) (hr : Byt ys) (hl : ys.length ≤ 1000000) (hn : n ≤ 65536) :
  Calls Tryz.prog 89 #[v,.int .i64 n,.int .i64 0] w fun e w' => ∃ u,e = .returned (.tuple #[u,.int .i64 (RR ys n 0).2]) ∧ w'.ownsRow w.heap.size 42 1 u (RR ys n 0).1.length ((RR ys n 0).1.map (Value.int .u64)) ∧ Only (fun _ => False) w w':=by
 obtain ⟨i0,hi,hz0,hz1,hz2⟩:=info_parts Tryz.infoU64
 have HB:=hideIt h
 have NC:=hideIt nc
 have HRG:=hideIt hr
 have eR : RR ys n 0 = if ys.length < 8 * n then ([],2) else if 8 * n < ys.length then ([],3) else (fxN ys n,0):=by unfold RR;rw [if_pos rfl]
 obtain ⟨E,hE⟩ : ∃ E,E = RR ys n 0:=⟨_,rfl⟩
 rw [← hE] at eR ⊢
 have HE:=hideIt eR
 obtain ⟨ao,cap,rfl⟩:=h.len
 clear h nc hr eR hE
 go_enter Tryz.func89,Tryz.ntmps89
 go_wp2
 go_loopw [0,8,9] (fun s0 s8 s9 wr => ∃ (k : Nat) (a1 : Option Addr) (m1 c1 : Nat),k ≤ n ∧ 8 * k ≤ ys.length ∧ s9 = .int .i64 k ∧ s0 = .slice a1 m1 c1 ∧ Bs .u8 w (.slice a1 m1 c1) (ys.drop (8 * k)) ∧ NoCap (.slice a1 m1 c1) ∧ wr.ownsRow w.heap.size 42 1 s8 k ((fxN ys k).map (Value.int .u64)) ∧ Only (fun _ => False) w wr) (fun _ _ s9 _ => n - (intOf s9).toNat)
 case atStart => exact ⟨0,ao,_,cap,Nat.zero_le _,Nat.zero_le _,rfl,rfl,HB.out,NC.out,World.ownsRow_nil _ _ _ _,Only.refl _ _⟩
 case round =>
  obtain ⟨k,a1,m1,c1,hk,h8,rfl,rfl,hbs,hnc,hown,hon⟩:=hrel
  have hm1 : m1 = ys.length - 8 * k:=by have:=hbs.length;rw [List.length_drop] at this;exact this
  have HBS:=hideIt hbs
  have HNC:=hideIt hnc
  have HOWN:=hideIt hown
  have HON:=hideIt hon
  have hrd : Byt (ys.drop (8 * k)):=fun y hy => HRG.out y (List.mem_of_mem_drop hy)
  by_cases hlt : k < n
  ·have dlt : decide ((k : Int) < (n : Int)) = true:=by simp;omega
   by_cases hs : (ys.drop (8 * k)).length < 8
   ·have FX:=hideIt (rfixed_w a1 m1 c1 _ w wr hbs hon hnc hrd (by omega) (sFixed8_short hs))
    have HR : ys.length < 8 * n:=by rw [List.length_drop] at hs;omega
    have eE:=HE.out
    rw [if_pos HR] at eE
    subst eE
    clear hown hbs hnc hon hs hrd HB NC HE hm1
    go_wp2_with fail
    refine FX.out.mono ?_
    rintro e w2 ⟨a2,m2,c2,rfl,_,_,o2⟩
    have O2:=hideIt (HON.out.same o2)
    clear FX o2 HOWN
    go_wp2
    try rw [Exit.noGoto_ret]
    go_ret2
    exact ⟨_,rfl,World.ownsRow_nil _ _ _ _,O2.out⟩
   ·have FX:=rfixed_w a1 m1 c1 _ w wr hbs hon hnc hrd (by omega) (sFixed8_ok (by omega))
    have h9 : 8 * (k + 1) ≤ ys.length:=by rw [List.length_drop] at hs;omega
    have HST:=hideIt (fxN_succ ys k)
    rw [List.drop_drop,show 8 * k + 8 = 8 * (k + 1) by omega] at FX
    have FX:=hideIt FX
    generalize (num ((ys.drop (8 * k)).take 8) : Int) = x at *
    clear hown hbs hnc hon hs hrd HB NC hm1
    go_wp2_with fail
    refine FX.out.mono ?_
    rintro e w2 ⟨a2,m2,c2,rfl,b2,n2,o2⟩
    have O2:=hideIt (HON.out.same o2)
    have own2:=o2.own HOWN.out (fun _ _ f => f)
    have B2:=hideIt (And.intro b2 n2)
    have hsz:=O2.out.size
    clear FX o2 HOWN HON b2 n2 HBS HNC
    go_wp2_with (at_builtin;refine wpList_append_lies _ rfl _ _ _ rfl w.heap.size 42 i0 (.int .u64 0) 1 8 Tryz.underlying46 hi hz0 hz1 hz2 rfl (by omega) _ k _ rfl (own2.alloc _) ⟨w2.heap.size,0,none⟩ 1 1 [.int .u64 x] rfl rfl ?c1 ?c2 (by omega) ?c3 ?c4 ?c5 (w2.heap.size + 1) (by simp) ?_)
    case c1 => exact cell_one_new _ _ _
    case c2 => intro u hu;simp at hu;subst hu;rfl
    case c3 => unfold maxLen;omega
    case c4 => omega
    case c5 => simp;omega
    intro gg cap1 w3 hown1 hgrow hat hg1
    have o3:=hideIt ((O2.out.alloc _).grown hgrow (fun p hp0 hp => absurd (own2.lt p hp).1 (by omega)))
    have own3 : Hid (w3.ownsRow w.heap.size 42 1 (.slice (some ⟨gg,0,none⟩) (k + 1) cap1) (k + 1) ((fxN ys (k + 1)).map (Value.int .u64))):=by
     simp only [Hid]
     rw [HST.out,List.map_append];exact hown1
    clear own2 hown1 hgrow hat
    go_wp2
    go_roundw
    case rel => exact ⟨k + 1,a2,m2,c2,by omega,h9,by go_num,rfl,B2.out.1,B2.out.2,own3.out,o3.out⟩
    case measure => simp [intOf];omega
  ·obtain rfl : k = n:=by omega
   have dlt : decide ((k : Int) < (k : Int)) = false:=by simp
   clear hown hbs hnc hon hrd HB NC
   by_cases h9 : 8 * k < ys.length
   ·have eE:=HE.out
    rw [if_neg (by omega),if_pos h9] at eE
    subst eE
    clear HE
    have dp : decide ((0 : Int) < m1) = true:=decide_eq_true (by omega)
    have dpn : decide (0 < m1) = true:=decide_eq_true (by omega)
    have hpos : 0 < m1:=by omega
    clear hm1
    go_wp2
    try rw [Exit.noGoto_ret]
    go_ret2
    exact ⟨_,rfl,World.ownsRow_nil _ _ _ _,HON.out⟩
   ·have eE:=HE.out
    rw [if_neg (by omega),if_neg h9] at eE
    subst eE
    clear HE
    obtain rfl : m1 = 0:=by omega
    obtain ⟨a8,c8,e8⟩:=(Bs.of_own (k:=.u64) (xs:=fxN ys k) (by rw [fxN_length];exact HOWN.out)).len
    rw [fxN_length] at e8
    subst e8
    clear hm1
    go_wp2
    try rw [Exit.noGoto_ret]
    go_ret2
    refine ⟨_,rfl,?_,HON.out⟩
    simp only [fxN_length]
    exact HOWN.out
set_option maxHeartbeats 1600000 in
theorem rplain_one (v : Value) (ys : List Int) (n : Nat) (w : World) (h : Bs .u8 w v ys) (nc : NoCap v) (hr : Byt ys) (hl : ys.length ≤ 1000000) (hn : n ≤ 65536) :
  Calls Tryz.prog 89 #[v,.int .i64 n,.int .i64 1] w fun e w' => ∃ u,e = .returned (.tuple #[u,.int .i64 (RR ys n 1).2]) ∧ w'.ownsRow w.heap.size 42 1 u (RR ys n 1).1.length ((RR ys n 1).1.map (Value.int .u64)) ∧ Only (fun _ => False) w w':=by
 obtain ⟨i0,hi,hz0,hz1,hz2⟩:=info_parts Tryz.infoU64
 have HB:=hideIt h
 have NC:=hideIt nc
 have HRG:=hideIt hr
 have eR : RR ys n 1 = if (rVs n [] ys).2.2 ≠ 0 then ([],(rVs n [] ys).2.2) else if 0 < (rVs n [] ys).2.1.length then ([],3) else ((rVs n [] ys).1,0):=by unfold RR;rw [if_neg (by decide),if_pos rfl]
 obtain ⟨E,hE⟩ : ∃ E,E = RR ys n 1:=⟨_,rfl⟩
 rw [← hE] at eR ⊢
 obtain ⟨V,hV⟩ : ∃ V,V = rVs n [] ys:=⟨_,rfl⟩
 rw [← hV] at eR
 have HE:=hideIt eR
 have HV:=hideIt hV
 have HL:=hideIt hl
 obtain ⟨ao,cap,rfl⟩:=h.len
 clear h nc hr eR hV hl hE
 go_enter Tryz.func89,Tryz.ntmps89
 go_wp2
 go_loopw [0,8,9] (fun s0 s8 s9 wr => ∃ (k g : Nat) (acc ys' : List Int) (a1 : Option Addr) (m1 c1 : Nat),k + g = n ∧ s9 = .int .i64 k ∧ s0 = .slice a1 m1 c1 ∧ acc.length = k ∧ ys'.length ≤ ys.length ∧ Byt ys' ∧ Bs .u8 w (.slice a1 m1 c1) ys' ∧ NoCap (.slice a1 m1 c1) ∧ Hid (rVs g acc ys' = V) ∧ wr.ownsRow w.heap.size 42 1 s8 k (acc.map (Value.int .u64)) ∧ Only (fun _ => False) w wr) (fun _ _ s9 _ => n - (intOf s9).toNat)
 case atStart => exact ⟨0,n,[],ys,ao,_,cap,by omega,rfl,rfl,rfl,Nat.le_refl _,HRG.out,HB.out,NC.out,HV.out.symm,World.ownsRow_nil _ _ _ _,Only.refl _ _⟩
 case round =>
  obtain ⟨k,g,acc,ys',a1,m1,c1,hk,rfl,rfl,hal,hyl,hrd,hbs,hnc,HRV,hown,hon⟩:=hrel
  have hm1:=hbs.length
  have HBS:=hideIt hbs
  have HNC:=hideIt hnc
  have HOWN:=hideIt hown
  have HON:=hideIt hon
  have HAL:=hideIt hal
  have HRD:=hideIt hrd
  have HYL:=hideIt hyl
  have hmb : m1 ≤ 1000000000000:=by have:=HL.out;omega
  obtain ⟨⟨fa,fk,fc⟩,hfx⟩ : ∃ p,sFixed 8 ys' = p:=⟨_,rfl⟩
  cases g with
  | succ g =>
   have dlt : decide ((k : Int) < (n : Int)) = true:=by simp;omega
   have FX:=hideIt (rfixed_w a1 m1 c1 _ w wr hbs hon hnc hrd hmb hfx)
   have VX : Hid (∀ (w2 : World) (a : Int) (q : Nat) (c : Int),sVarint ys' = (a,q,c) → Only (fun _ => False) wr w2 → Calls Tryz.prog 30 #[.slice a1 m1 c1] w2 fun e w' => ∃ ao' m' cap',e = .returned (.tuple #[.int .u64 a,.slice ao' m' cap',.int .i64 c]) ∧ Bs .u8 w (.slice ao' m' cap') (ys'.drop q) ∧ NoCap (.slice ao' m' cap') ∧ Only (fun _ => False) w2 w'):=fun w2 a q c hs o2 =>
    (rvarint_at a1 m1 c1 ys' w2 ((HBS.out.past HON.out).past o2) HNC.out HRD.out hs).mono fun e w' ⟨ao',m',cap',e1,hb,hn,o⟩ => ⟨ao',m',cap',e1,hb w HBS.out,hn,o⟩
   rcases sVarint_cases hrd with ⟨c,hs,hc⟩ | ⟨a,q,hs,_,_,ha,_⟩
   ·have HR:=HRV.out
    rw [rVs_stop hs (by omega)] at HR
    have dc : (c != 0) = true:=by simp;omega
    have HS:=hideIt hs
    have eE:=HE.out
    rw [← HR] at eE
    simp only [ne_eq] at eE
    rw [if_pos (by omega)] at eE
    subst eE
    clear hown hon hs HB NC hal HRV hc hbs hnc hrd hfx hyl hm1 HR HE
    go_wp2_with fail
    refine FX.out.mono ?_
    rintro e w2 ⟨a2,m2,c2,rfl,_,_,o2⟩
    have V2:=hideIt (VX.out w2 _ _ _ HS.out o2)
    have O2:=hideIt (HON.out.same o2)
    clear FX o2 HOWN VX
    go_wp2_with fail
    refine V2.out.mono ?_
    rintro e w3 ⟨a3,m3,c3,rfl,_,_,o3⟩
    have O3:=hideIt (O2.out.same o3)
    clear V2 o3
    go_wp2
    try rw [Exit.noGoto_ret]
    go_ret2
    exact ⟨_,rfl,World.ownsRow_nil _ _ _ _,O3.out⟩
   ·have HR:=HRV.out
    rw [rVs_go hs] at HR
    have HR:=hideIt HR
    have HS:=hideIt hs
    clear hown hon hs HB NC hal HRV hbs hnc hrd hfx hyl hm1
    go_wp2_with fail
    refine FX.out.mono ?_
    rintro e w2 ⟨a2,m2,c2,rfl,_,_,o2⟩
    have V2:=hideIt (VX.out w2 _ _ _ HS.out o2)
    have O2:=hideIt (HON.out.same o2)
    have OW2:=hideIt (o2.own HOWN.out (fun _ _ f => f))
    clear FX o2 HOWN VX
    go_wp2_with fail
    refine V2.out.mono ?_
    rintro e w3 ⟨a3,m3,c3,rfl,b3,n3,o3⟩
    have O3:=hideIt (O2.out.same o3)
    have own3:=o3.own OW2.out (fun _ _ f => f)
    have B3:=hideIt (And.intro b3 n3)
    have hsz:=O3.out.size
    clear V2 o3 OW2 b3 n3 HBS HNC
    go_wp2_with (at_builtin;refine wpList_append_lies _ rfl _ _ _ rfl w.heap.size 42 i0 (.int .u64 0) 1 8 Tryz.underlying46 hi hz0 hz1 hz2 rfl (by omega) _ k _ rfl (own3.alloc _) ⟨w3.heap.size,0,none⟩ 1 1 [.int .u64 (a : Int)] rfl rfl ?c1 ?c2 (by omega) ?c3 ?c4 ?c5 (w3.heap.size + 1) (by simp) ?_)
    case c1 => exact cell_one_new _ _ _
    case c2 => intro u hu;simp at hu;subst hu;rfl
    case c3 => unfold maxLen;omega
    case c4 => omega
    case c5 => simp;omega
    intro gg cap1 w4 hown1 hgrow hat hg1
    have o4:=hideIt ((O3.out.alloc _).grown hgrow (fun p hp0 hp => absurd (own3.lt p hp).1 (by omega)))
    have own4 : Hid (w4.ownsRow w.heap.size 42 1 (.slice (some ⟨gg,0,none⟩) (k + 1) cap1) (k + 1) ((acc ++ [(a : Int)]).map (Value.int .u64))):=by
     simp only [Hid]
     rw [List.map_append];exact hown1
    clear own3 hown1 hgrow hat
    go_wp2
    go_roundw
    case rel => exact ⟨k + 1,g,acc ++ [(a : Int)],ys'.drop q,a3,m3,c3,by omega,by go_num,rfl,by simp [HAL.out],by have:=HYL.out;rw [List.length_drop];omega,fun y hy => HRD.out y (List.mem_of_mem_drop hy),B3.out.1,B3.out.2,HR.out,own4.out,o4.out⟩
    case measure => simp [intOf];omega
  | zero =>
   obtain rfl : k = n:=by omega
   have dlt : decide ((k : Int) < (k : Int)) = false:=by simp
   have HR : V = (acc,ys',0):=HRV.out.symm
   have eE:=HE.out
   rw [HR] at eE
   simp only [ne_eq,not_true_eq_false,if_false] at eE
   clear hown hon HB NC hal HRV hbs hnc hrd hfx hyl HR HE HV
   by_cases h9 : 0 < ys'.length
   ·rw [if_pos h9] at eE
    subst eE
    have dp : decide ((0 : Int) < m1) = true:=decide_eq_true (by omega)
    have dpn : decide (0 < m1) = true:=decide_eq_true (by omega)
    have hpos : 0 < m1:=by omega
    clear hm1
    go_wp2
    try rw [Exit.noGoto_ret]
    go_ret2
    exact ⟨_,rfl,World.ownsRow_nil _ _ _ _,HON.out⟩
   ·rw [if_neg h9] at eE
    subst eE
    obtain rfl : m1 = 0:=by omega
    obtain ⟨a8,c8,e8⟩:=(Bs.of_own (k:=.u64) (xs:=acc) (by rw [HAL.out];exact HOWN.out)).len
    rw [HAL.out] at e8
    subst e8
    clear hm1
    go_wp2
    try rw [Exit.noGoto_ret]
    go_ret2
    refine ⟨_,rfl,?_,HON.out⟩
    simp only [HAL.out]
    exact HOWN.out
end Go.Proofs.YthapipgaohlgdaaGreatDoor
