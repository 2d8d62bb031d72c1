/- Several texts in one: Rd10, Rd11, Rd11b. -/
import Derived.Test.YthapipgaohlgdaaGreatDoorG26
import Derived.Test.YthapipgaohlgdaaGreatDoorG15
import Derived.Test.YthapipgaohlgdaaGreatDoorG2
import Derived.Test.YthapipgaohlgdaaGreatDoorG7
import Derived.Test.YthapipgaohlgdaaGreatDoorG27
import Derived.Test.YthapipgaohlgdaaGreatDoorG16
import Derived.Test.YthapipgaohlgdaaGreatDoorG28
import Derived.Deep.RegionHeld3


namespace Go.Proofs.YthapipgaohlgdaaGreatDoor
set_option maxRecDepth 100000
open Go.RowKit
theorem Bs.keepN {k : IntKind} {w w' : World} {v : Value} {xs : List Int} (h : Bs k w v xs) {S : Nat → Prop} (ho : Only S w w') (hs : xs ≠ [] → ∀ b,v.ownBlock = some b → ¬ S b) : Bs k w' v xs:=by
 by_cases hx : xs = []
 ·subst hx
  obtain ⟨ao,cap,rfl,hc,_⟩:=h
  exact ⟨ao,cap,rfl,hc,fun h => absurd rfl h⟩
 ·exact h.keep ho (hs hx)
theorem Bs.lowN {k : IntKind} {w : World} {v : Value} {xs : List Int} (h : Bs k w v xs) (hx : xs ≠ []) : ∀ b,v.ownBlock = some b → b < w.heap.size:=by
 obtain ⟨ao,cap,rfl,hc,hr⟩:=h
 obtain ⟨b,off,rfl,hcell⟩:=hr hx
 intro b' hb'
 simp only [Value.ownBlock,Option.some.injEq] at hb'
 subst hb'
 exact World.block_lt_of_cell? w _ (hcell 0 (List.length_pos_iff.2 hx))
set_option maxHeartbeats 400000 in
theorem rdecode10_arg (v : Value) (n : Int) (w : World) (h : n < 0 ∨ 65536 < n) :
  Calls Tryz.prog 93 #[v,.int .i64 n] w fun e w' => e = .returned (.tuple #[.slice none 0 0,.int .i64 1]) ∧ w = w':=by
 by_cases h0 : n < 0
 ·have d0 : decide (n < 0) = true:=decide_eq_true h0
  clear h
  go_enter Tryz.func93,Tryz.ntmps93
  go_wp2
  go_ret2
  exact ⟨rfl,rfl⟩
 ·have d0 : decide (n < 0) = false:=decide_eq_false h0
  have d1 : decide (65536 < n) = true:=decide_eq_true (by omega)
  clear h
  go_enter Tryz.func93,Tryz.ntmps93
  go_wp2
  go_ret2
  exact ⟨rfl,rfl⟩
set_option maxHeartbeats 400000 in
theorem rdecode10_err (ao : Option Addr) (m cap : Nat) (ys : List Int) (n : Nat) (w : World) (h : Bs .u8 w (.slice ao m cap) ys) (nc : NoCap (.slice ao m cap)) (hr : ∀ y ∈ ys,0 ≤ y ∧ y ≤ 255) (hn : n ≤ 65536) {a : Int} {k : Nat} {c : Int} (hs : sVarint ys = (a,k,c)) (hc : c ≠ 0) :
  Calls Tryz.prog 93 #[.slice ao m cap,.int .i64 n] w fun e w' => e = .returned (.tuple #[.slice none 0 0,.int .i64 c]) ∧ Only (fun _ => False) w w':=by
 have RV:=hideIt (rvarint_bs ao m cap ys w h nc hr hs)
 have d0 : decide ((n : Int) < 0) = false:=by simp
 have d1 : decide (65536 < (n : Int)) = false:=by simp;omega
 have dc : (c != 0) = true:=by simpa using hc
 clear h nc hr hs hc
 go_enter Tryz.func93,Tryz.ntmps93
 go_wp2_with fail
 refine RV.out.mono ?_
 rintro e w1 ⟨ao1,m1,c1,rfl,_,_,o1⟩
 have O1:=hideIt o1
 clear o1 RV
 go_wp2
 go_ret2
 exact ⟨rfl,O1.out⟩
set_option maxHeartbeats 400000 in
theorem rdecode10_many (ao : Option Addr) (m cap : Nat) (ys : List Int) (n : Nat) (w : World) (h : Bs .u8 w (.slice ao m cap) ys) (nc : NoCap (.slice ao m cap)) (hr : ∀ y ∈ ys,0 ≤ y ∧ y ≤ 255) (hn : n ≤ 65536) {a k : Nat} (hs : sVarint ys = ((a : Int),k,0)) (hc : n < a) :
  Calls Tryz.prog 93 #[.slice ao m cap,.int .i64 n] w fun e w' => e = .returned (.tuple #[.slice none 0 0,.int .i64 3]) ∧ Only (fun _ => False) w w':=by
 have RV:=hideIt (rvarint_bs ao m cap ys w h nc hr hs)
 have d0 : decide ((n : Int) < 0) = false:=by simp
 have d1 : decide (65536 < (n : Int)) = false:=by simp;omega
 have dc : decide ((n : Int) < (a : Int)) = true:=by simp;omega
 clear h nc hr hs
 go_enter Tryz.func93,Tryz.ntmps93
 go_wp2_with fail
 refine RV.out.mono ?_
 rintro e w1 ⟨ao1,m1,c1,rfl,_,_,o1⟩
 have O1:=hideIt o1
 clear o1 RV
 go_wp2
 go_ret2
 exact ⟨rfl,O1.out⟩
set_option maxHeartbeats 4000000 in
theorem rdecode10_bs (ao : Option Addr) (m cap : Nat) (ys : List Int) (n : Nat) (w : World) (h : Bs .u8 w (.slice ao m cap) ys) (nc : NoCap (.slice ao m cap)) (hr : ∀ y ∈ ys,0 ≤ y ∧ y ≤ 255) (hl : ys.length ≤ 1000) (hn : n ≤ 10000) {a j : Nat} (hs : sVarint ys = ((a : Int),j,0)) (ha : a ≤ n) (rest : List Int) (hrest : rest = ys.drop j)
  (E : List Int × Int) (hE : E = DECB a n rest ys) :
  Calls Tryz.prog 93 #[.slice ao m cap,.int .i64 n] w fun e w' => ∃ u,e = .returned (.tuple #[u,.int .i64 E.2]) ∧ w'.ownsRow w.heap.size 42 1 u E.1.length (E.1.map (Value.int .u64)) ∧ Only (fun _ => False) w w':=by
 obtain ⟨i0,hi,hz0,hz1,hz2⟩:=info_parts Tryz.infoU64
 have RV:=rvarint_bs ao m cap ys w h nc hr hs
 rw [← hrest] at RV
 have RV:=hideIt RV
 have HB:=hideIt h
 have HR2 : Hid (∀ y ∈ rest,0 ≤ y ∧ y ≤ 255):=fun y hy => hr y (by rw [hrest] at hy;exact List.mem_of_mem_drop hy)
 have HLR : Hid (rest.length ≤ 1000):=by simp only [Hid];rw [hrest,List.length_drop];omega
 have HE:=hideIt hE
 have HL:=hideIt hl
 have d0 : decide ((n : Int) < 0) = false:=by simp
 have d1 : decide (65536 < (n : Int)) = false:=by simp;omega
 have dc : decide ((n : Int) < (a : Int)) = false:=by simp;omega
 have dn : decide (n < a) = false:=decide_eq_false (by omega)
 clear h nc hr hs hrest hE hl
 go_enter Tryz.func93,Tryz.ntmps93
 go_wp2_with fail
 refine RV.out.mono ?_
 rintro e w1 ⟨ao1,m1,c1,rfl,b1,nc1,o1⟩
 have ml : m1 = rest.length:=b1.length
 have B1:=hideIt b1
 have N1:=hideIt nc1
 have O1:=hideIt o1
 have LOW:=hideIt (fun hx => b1.lowN hx)
 clear b1 nc1 o1 RV ml
 go_wp2
 go_loopw [7,9,10] (fun vr s i wr => ∃ q : Nat,q ≤ a ∧ i = .int .u64 q ∧ Hid (8 * q ≤ rest.length) ∧ wr.ownsRow w1.heap.size 42 1 s q ((rd8 q rest).map (Value.int .u64)) ∧ (∃ ar mr cr,vr = .slice ar mr cr ∧ Bs .u8 wr (.slice ar mr cr) (rest.drop (8 * q)) ∧ NoCap (.slice ar mr cr) ∧ (Value.slice ar mr cr).ownBlock = (Value.slice ao1 m1 c1).ownBlock) ∧ Only (fun _ => False) w1 wr) (fun _ _ i _ => a - (intOf i).toNat)
 case atStart => exact ⟨0,Nat.zero_le _,rfl,by simp [Hid],World.ownsRow_nil _ _ _ _,⟨ao1,m1,c1,rfl,B1.out,N1.out,rfl⟩,Only.refl _ _⟩
 case round =>
  clear B1 N1
  obtain ⟨q,hq,rfl,HQ,hown,⟨ar,mr,cr,rfl,br,nr,obr⟩,hon⟩:=hrel
  obtain ⟨w3,hw3⟩ : ∃ w3,w3 = wr:=⟨_,rfl⟩
  subst hw3
  have HOWN:=hideIt hown
  have HON:=hideIt hon
  have BR:=hideIt br
  have NR:=hideIt nr
  have OBR:=hideIt obr
  have hmr : mr ≤ 1000:=by have:=br.length;have:=HLR.out;rw [List.length_drop] at *;omega
  have RR:=hideIt (show ∀ y ∈ rest.drop (8 * q),0 ≤ y ∧ y ≤ 255 from fun y hy => HR2.out y (List.mem_of_mem_drop hy))
  by_cases hlt : q < a
  ·have dlt : decide ((q : Int) < (a : Int)) = true:=by simp;omega
   by_cases h8 : rest.length < 8 * q + 8
   ·have e1 : sFixed 8 (rest.drop (8 * q)) = (0,0,2):=by
     unfold sFixed;rw [if_neg (by omega),if_pos (by rw [List.length_drop];omega)]
    have RF:=hideIt (rfixed_at ar mr cr (rest.drop (8 * q)) w3 br nr RR.out (by omega) 8 e1)
    have HE2 : Hid (E = ([],2)):=by simp only [Hid];rw [HE.out];unfold DECB;rw [if_pos (by omega)]
    clear e1 h8 hown hon br nr obr
    go_wp2_with fail
    refine RF.out.mono ?_
    rintro e w4 ⟨a4,m4,c4,rfl,_,_,o4,_⟩
    have O4:=hideIt (O1.out.same (HON.out.same o4))
    clear o4 RF
    go_wp2
    go_ret2
    have hE:=HE2.out
    subst hE
    exact ⟨_,rfl,World.ownsRow_nil _ _ _ _,O4.out⟩
   ·have e1 : sFixed 8 (rest.drop (8 * q)) = (((num ((rest.drop (8 * q)).take 8) : Nat) : Int),8,0):=by
     unfold sFixed;rw [if_neg (by omega),if_neg (by rw [List.length_drop];omega)];rfl
    have RF:=rfixed_at ar mr cr (rest.drop (8 * q)) w3 br nr RR.out (by omega) 8 e1
    rw [List.drop_drop,show 8 * q + 8 = 8 * (q + 1) by omega] at RF
    have RF:=hideIt RF
    have HJ2 : Hid (8 * (q + 1) ≤ rest.length):=(by omega : 8 * (q + 1) ≤ rest.length)
    have HST:=hideIt (rd8_snoc q rest)
    have hxl : num ((rest.drop (8 * q)).take 8) < 18446744073709551616:=by
     have h1:=num_lt ((rest.drop (8 * q)).take 8) (fun y hy => RR.out y (List.mem_of_mem_take hy))
     have h2 : (256 : Nat) ^ ((rest.drop (8 * q)).take 8).length ≤ 256 ^ 8:=Nat.pow_le_pow_right (by omega) (by rw [List.length_take];omega)
     have h3 : (256 : Nat) ^ 8 = 18446744073709551616:=by decide
     omega
    generalize num ((rest.drop (8 * q)).take 8) = x at *
    obtain ⟨d,hd⟩ : ∃ d,d = rd8 q rest:=⟨_,rfl⟩
    have hdl : d.length = q:=by rw [hd,rd8_len]
    rw [← hd] at HOWN HST
    obtain ⟨a6,c6,e6⟩ : ∃ a6 c6,u9 = .slice a6 q c6:=by
     have:=(Bs.of_own (k:=.u64) (xs:=d) (by rw [hdl];exact HOWN.out)).len
     rw [hdl] at this;exact this
    subst e6
    clear e1 h8 hown hon hd hdl br nr obr
    go_wp2_with fail
    refine RF.out.mono ?_
    rintro e w4 ⟨a4,m4,c4,rfl,b4,n4,o4,ob4⟩
    have hrow:=o4.own HOWN.out (fun _ _ f => f)
    have B4:=hideIt b4
    have N4:=hideIt n4
    have OB4:=hideIt (ob4.trans OBR.out)
    have O4:=hideIt (HON.out.same o4)
    clear RF b4 n4 ob4 o4 HOWN HON BR NR OBR
    have s4 : w1.heap.size ≤ w4.heap.size:=O4.out.size
    go_wp2_with (at_builtin;refine wpList_append_own _ rfl _ _ 46 rfl w1.heap.size 42 i0 (.int .u64 0) 1 8 Tryz.underlying46 hi hz0 hz1 hz2 rfl (by decide) _ q _ rfl (hrow.alloc _) ⟨w4.heap.size,0,none⟩ 1 1 [.int .u64 (x : Int)] rfl rfl (cell_one_new _ _ _) (ints_oneCell .u64 [(x : Int)]) (by unfold maxLen;omega) (by omega) (by simp;omega) ?_;intro v' w6 hown' hgrow2 hnil2)
    have OW6 : Hid (w6.ownsRow w1.heap.size 42 1 v' (q + 1) ((rd8 (q + 1) rest).map (Value.int .u64))):=by
     simp only [Hid];rw [HST.out,List.map_append];exact hown'
    have ON6 : Only (fun k => (Value.slice a6 q c6).ownBlock = some k) w4 w6:=((Only.refl _ w4).alloc _).grown hgrow2 (fun k hk e => e)
    have O6:=hideIt (O4.out.trans ON6 (fun i hi f => absurd (hrow.lt i f).1 (by omega)))
    have B6:=hideIt (B4.out.keepN ON6 (fun hx k hk f => by
     rw [OB4.out] at hk
     have h1:=LOW.out (fun e0 => hx (by rw [e0];rfl)) k hk
     have:=(hrow.lt k f).1
     omega))
    clear hown' hgrow2 hnil2 hrow ON6 B4 O4
    go_wp2
    go_roundw
    case rel => exact ⟨q + 1,by omega,by go_num,HJ2,OW6.out,⟨a4,m4,c4,rfl,B6.out,N4.out,OB4.out⟩,O6.out⟩
    case measure => simp [intOf];omega
  ·obtain rfl : q = a:=by omega
   have dlt : decide ((q : Int) < (q : Int)) = false:=by simp
   obtain ⟨D,hD⟩ : ∃ D,D = rd8 q rest:=⟨_,rfl⟩
   obtain ⟨r,hrr⟩ : ∃ r,r = rest.drop (8 * q):=⟨_,rfl⟩
   have hdl : D.length = q:=by rw [hD,rd8_len]
   have HE2 : Hid (E = if (allBits r).length < n * wP q then ([],2) else if ∃ p ∈ rdP (wP q) n (allBits r),q ≤ p then ([],3) else if (ENC10 ((rdP (wP q) n (allBits r)).map fun p => D.getD p 0)).1 = ys then ((rdP (wP q) n (allBits r)).map (fun p => D.getD p 0),0) else ([],3)):=by
    simp only [Hid];rw [HE.out];unfold DECB;have:=HQ.out;rw [if_neg (by omega),← hrr,← hD]
   have HDU:=hideIt (rd8_u64 q rest HR2.out)
   rw [← hD] at hown HDU
   rw [← hrr] at br BR RR
   have hrl : r.length ≤ 1000:=by rw [hrr,List.length_drop];have:=HLR.out;omega
   obtain ⟨a6,c6,e6⟩ : ∃ a6 c6,u9 = .slice a6 q c6:=by
    have:=(Bs.of_own (k:=.u64) (xs:=D) (by rw [hdl];exact hown)).len
    rw [hdl] at this;exact this
   subst e6
   have OW3:=hideIt hown
   have HDL:=hideIt hdl
   have PW:=hideIt (rwid10_any q w3 (by omega))
   have OF:=hideIt (of_bs _ r w3 br RR.out (by omega))
   have VB : Hid (∀ k,(Value.slice a6 q c6).ownBlock = some k → w1.heap.size ≤ k ∧ k < w3.heap.size):=fun k hk => hown.lt k hk
   obtain ⟨wd,hwd⟩ : ∃ wd,wd = wP q:=⟨_,rfl⟩
   have hw16 : wd ≤ 16:=by rw [hwd];exact wP_le (by omega)
   rw [← hwd] at HE2 PW
   have hal:=allBits_length r
   clear hown hon br nr obr hD hrr hdl hwd HE HOWN BR NR OBR
   go_wp2_with fail
   refine PW.out.mono ?_
   rintro e w3' ⟨rfl,rfl⟩
   clear PW
   go_wp2_with fail
   refine OF.out.mono ?_
   rintro e w4 ⟨vk,rfl,own4,o4⟩
   have hbl : (allBits r).length ≤ 8000:=by rw [hal];omega
   clear hal
   generalize allBits r = B at *
   have KB:=hideIt (bs_bits10 own4)
   have KL:=hideIt (fun k hk => (own4.lt k hk).2)
   have OW4:=hideIt (o4.own OW3.out (fun _ _ f => f))
   have O4:=hideIt (O1.out.same (HON.out.same o4))
   have S4:=hideIt o4.size
   obtain ⟨a7,c7,e7⟩:=KB.out.len
   subst e7
   rw [bitsI_length] at KB KL ⊢
   have hnq : n * wd ≤ 10000 * 16:=Nat.mul_le_mul hn hw16
   have hnqI : Hid (((n : Int) * (wd : Int)) = ((n * wd : Nat) : Int)):=by simp only [Hid];simp
   have m0 : 0 ≤ (n : Int) * (wd : Int):=by rw [hnqI.out];omega
   have m1' : (n : Int) * (wd : Int) ≤ 160000:=by rw [hnqI.out];omega
   obtain ⟨bl,hbl2⟩ : ∃ bl,bl = B.length:=⟨_,rfl⟩
   rw [← hbl2] at KB KL hbl ⊢
   have HBL:=hideIt hbl2
   clear OF own4 o4 OW3
   by_cases hsh : bl < n * wd
   ·have HE3:=HE2.out
    rw [if_pos (by rw [← HBL.out];exact hsh)] at HE3
    have HE3:=hideIt HE3
    have d2 : decide ((bl : Int) < (n : Int) * (wd : Int)) = true:=by rw [hnqI.out];simp only [decide_eq_true_eq];omega
    clear hsh hnq HE2 hbl2
    go_wp2
    go_ret2
    have hE:=HE3.out
    subst hE
    exact ⟨_,rfl,World.ownsRow_nil _ _ _ _,O4.out⟩
   ·have HE3:=HE2.out
    rw [if_neg (by rw [← HBL.out];exact hsh)] at HE3
    have HE3:=hideIt HE3
    have d2 : decide ((bl : Int) < (n : Int) * (wd : Int)) = false:=by rw [hnqI.out];simp only [decide_eq_false_iff_not];omega
    have HSH:=hideIt hsh
    have START : Hid (Bs .i64 w4 (.slice a7 bl c7) (bitsI (B.drop (0 * wd)))):=by
     simp only [Hid];rw [Nat.zero_mul,List.drop_zero];exact KB.out
    clear hsh hnq HE2 hbl2 KB
    go_wp2
    go_loopw [15,16,17] (fun kv s i wr => ∃ k : Nat,k ≤ n ∧ i = .int .i64 k ∧ (∃ ak mk ck,kv = .slice ak mk ck ∧ Bs .i64 wr (.slice ak mk ck) (bitsI (B.drop (k * wd))) ∧ (Value.slice ak mk ck).ownBlock = (Value.slice a7 bl c7).ownBlock) ∧
      wr.ownsRow w4.heap.size 42 1 s k (((rdP wd k B).map fun p => D.getD p 0).map (Value.int .u64)) ∧ Hid (∀ p ∈ rdP wd k B,p < q) ∧ Only (fun _ => False) w4 wr) (fun _ _ i _ => n - (intOf i).toNat)
    case atStart => exact ⟨0,Nat.zero_le _,rfl,⟨a7,bl,c7,rfl,START.out,rfl⟩,World.ownsRow_nil _ _ _ _,by simp [Hid,rdP],Only.refl _ _⟩
    case round =>
     clear START
     obtain ⟨k,hk,rfl,⟨ak,mk,ck,rfl,bk,obk⟩,hown,HPL,hon⟩:=hrel
     have HOWN:=hideIt hown
     have HON4:=hideIt hon
     have OBK:=hideIt obk
     by_cases hlt2 : k < n
     ·have hkq : k * wd + wd ≤ bl:=by
       have h1 : (k + 1) * wd ≤ n * wd:=Nat.mul_le_mul_right wd (by omega)
       rw [Nat.add_mul,Nat.one_mul] at h1
       have:=HSH.out
       omega
      have hdl : (B.drop (k * wd)).length = bl - k * wd:=by rw [List.length_drop,HBL.out]
      have GT:=rget_bs _ (B.drop (k * wd)) (wd : Int) wr bk (by omega) (by omega) (by omega) (by omega)
      rw [Int.toNat_natCast,List.drop_drop,show k * wd + wd = (k + 1) * wd by rw [Nat.add_mul,Nat.one_mul]] at GT
      have GT:=hideIt GT
      have hx : bnum ((B.drop (k * wd)).take wd) < 18446744073709551616:=by
       have h1:=bnum_lt ((B.drop (k * wd)).take wd)
       have h2 : 2 ^ ((B.drop (k * wd)).take wd).length ≤ 2 ^ 64:=Nat.pow_le_pow_right (by omega) (by rw [List.length_take];omega)
       have h3 : (2 : Nat) ^ 64 = 18446744073709551616:=by decide
       omega
      have dlt2 : decide ((k : Int) < (n : Int)) = true:=by simp;omega
      have MEM:=hideIt (rdP_mem wd n k B hlt2)
      have SNO:=hideIt (rdP_snoc wd k B)
      clear hkq hown hon bk obk hdl
      generalize bnum ((B.drop (k * wd)).take wd) = x at *
      go_wp2_with fail
      refine GT.out.mono ?_
      rintro e w6 ⟨v6,rfl,b6,o6,ob6⟩
      have own6:=o6.own HOWN.out (fun _ _ f => f)
      have dic6:=(HON4.out.same o6).own OW4.out (fun _ _ f => f)
      have O6:=hideIt (HON4.out.same o6)
      have B6:=hideIt b6
      have OB6:=hideIt (ob6.trans OBK.out)
      obtain ⟨a8,c8,e8⟩:=b6.len
      subst e8
      obtain ⟨m8,hm8⟩ : ∃ m8,m8 = (bitsI (B.drop ((k + 1) * wd))).length:=⟨_,rfl⟩
      rw [← hm8] at B6 OB6 ⊢
      clear GT b6 o6 ob6 hm8
      by_cases hxa : q ≤ x
      ·have HE4:=HE3.out
       rw [if_pos ⟨x,MEM.out,hxa⟩] at HE4
       have HE4:=hideIt HE4
       have da : decide ((q : Int) ≤ (x : Int)) = true:=by simp;omega
       have db : decide (q ≤ x) = true:=decide_eq_true hxa
       have O7:=hideIt (O4.out.same O6.out)
       clear own6 dic6 HE3
       go_wp2
       go_ret2
       have hE:=HE4.out
       subst hE
       exact ⟨_,rfl,World.ownsRow_nil _ _ _ _,O7.out⟩
      ·have da : decide ((q : Int) ≤ (x : Int)) = false:=by simp;omega
       have db : decide (q ≤ x) = false:=decide_eq_false hxa
       obtain ⟨b7,o7,c7',e7,hc7⟩:=(Bs.of_own (k:=.u64) (xs:=D) (by rw [HDL.out];exact dic6)).at x (by rw [HDL.out];omega)
       have ea : a6 = some ⟨b7,o7,none⟩:=by simp at e7;exact e7.1
       subst ea
       have PL2 : Hid (∀ p ∈ rdP wd (k + 1) B,p < q):=by
        intro p hp
        rw [SNO.out,List.mem_append] at hp
        rcases hp with hp | hp
        ·exact HPL.out p hp
        ·simp at hp;omega
       obtain ⟨L,hL⟩ : ∃ L,L = (rdP wd k B).map fun p => D.getD p 0:=⟨_,rfl⟩
       have hLl : L.length = k:=by rw [hL,List.length_map,rdP_len]
       have HL2 : Hid (((rdP wd (k + 1) B).map fun p => D.getD p 0) = L ++ [D.getD x 0]):=by
        simp only [Hid];rw [SNO.out,List.map_append,hL];rfl
       rw [← hL] at own6
       obtain ⟨a9,c9,e9⟩ : ∃ a9 c9,u16 = .slice a9 k c9:=by
        have:=(Bs.of_own (k:=.u64) (xs:=L) (by rw [hLl];exact own6)).len
        rw [hLl] at this;exact this
       subst e9
       obtain ⟨y,hy⟩ : ∃ y,y = D.getD x 0:=⟨_,rfl⟩
       rw [← hy] at hc7 HL2
       have xi : (x : Int) < (q : Int):=by omega
       have s6 : w4.heap.size ≤ w6.heap.size:=O6.out.size
       clear e7 hy hxa HE3 HOWN HON4 HPL SNO MEM hL hLl dic6
       go_wp2_with (at_builtin;refine wpList_append_own _ rfl _ _ 46 rfl w4.heap.size 42 i0 (.int .u64 0) 1 8 Tryz.underlying46 hi hz0 hz1 hz2 rfl (by decide) _ k _ rfl (own6.alloc _) ⟨w6.heap.size,0,none⟩ 1 1 [.int .u64 y] rfl rfl (cell_one_new _ _ _) (ints_oneCell .u64 [y]) (by unfold maxLen;omega) (by omega) (by simp;omega) ?_;intro v' w7 hown' hgrow2 hnil2)
       have OW7 : Hid (w7.ownsRow w4.heap.size 42 1 v' (k + 1) (((rdP wd (k + 1) B).map fun p => D.getD p 0).map (Value.int .u64))):=by
        simp only [Hid];rw [HL2.out,List.map_append];exact hown'
       have ON7 : Only (fun j => (Value.slice a9 k c9).ownBlock = some j) w6 w7:=((Only.refl _ w6).alloc _).grown hgrow2 (fun j hj e => e)
       have O7:=hideIt (O6.out.trans ON7 (fun i hi f => absurd (own6.lt i f).1 (by omega)))
       have B7:=hideIt (B6.out.keep ON7 (fun j hj f => by
        rw [OB6.out] at hj
        have h1:=KL.out j hj
        have:=(own6.lt j f).1
        omega))
       clear hown' hgrow2 hnil2 own6 ON7 B6 O6
       go_wp2
       go_roundw
       case rel => exact ⟨k + 1,by omega,by go_num,⟨a8,m8,c8,rfl,B7.out,OB6.out⟩,OW7.out,PL2,O7.out⟩
       case measure => simp [intOf];omega
     ·obtain rfl : k = n:=by omega
      have dlt2 : decide ((k : Int) < (k : Int)) = false:=by simp
      have HE4:=HE3.out
      rw [if_neg (fun ⟨p,hp,h⟩ => by have:=HPL.out p hp;omega)] at HE4
      have hLU : U64 ((rdP wd k B).map fun p => D.getD p 0):=by
       intro z hz
       obtain ⟨p,hp,rfl⟩:=List.mem_map.1 hz
       exact HDU.out _ (getD_ofl (l:=D) (k:=p) (by rw [HDL.out];exact HPL.out p hp))
      have hLl : ((rdP wd k B).map fun p => D.getD p 0).length = k:=by rw [List.length_map,rdP_len]
      generalize ((rdP wd k B).map fun p => D.getD p 0) = L at *
      have HE4:=hideIt HE4
      have EN:=hideIt (rencode10_all u16 L wr (Bs.of_own (by rw [hLl];exact hown)) hLU (by omega))
      obtain ⟨a9,c9,e9⟩ : ∃ a9 c9,u16 = .slice a9 k c9:=by
       have:=(Bs.of_own (k:=.u64) (xs:=L) (by rw [hLl];exact hown)).len
       rw [hLl] at this;exact this
      subst e9
      have HLL:=hideIt hLl
      have ELN:=hideIt (ENC10_len L)
      clear hown hon bk obk hLU hLl HE3
      go_wp2_with fail
      refine EN.out.mono ?_
      rintro e w6 ⟨v6,rfl,own6,o6⟩
      have O6:=hideIt (O4.out.same (HON4.out.same o6))
      have OW6:=hideIt (o6.own HOWN.out (fun _ _ f => f))
      have SM:=hideIt (same_any v6 (.slice ao m cap) (ENC10 L).1 ys w6 (Bs.of_own own6) (HB.out.past O6.out) (by have:=ELN.out;omega))
      obtain ⟨a10,c10,e10⟩:=(Bs.of_own own6).len
      subst e10
      have SW:=hideIt (Nat.le_trans O1.out.size (Nat.le_trans HON.out.size S4.out))
      clear EN own6 o6
      generalize (ENC10 L).2 = EC at *
      generalize (ENC10 L).1 = F at *
      obtain ⟨fl,hfl⟩ : ∃ fl,fl = F.length:=⟨_,rfl⟩
      rw [← hfl] at SM ⊢
      clear hfl
      by_cases he : F = ys
      ·rw [decide_eq_true he] at SM
       have HE5:=HE4.out
       rw [if_pos he] at HE5
       have HE5:=hideIt HE5
       clear he HE4
       go_wp2_with fail
       refine SM.out.mono ?_
       rintro e w7 ⟨rfl,o7⟩
       have O7:=hideIt (O6.out.same o7)
       have OW7:=hideIt (o7.own OW6.out (fun _ _ f => f))
       clear SM o7
       go_wp2
       go_ret2
       have hE:=HE5.out
       subst hE
       exact ⟨_,rfl,by simp only;rw [HLL.out];exact own_low OW7.out SW.out,O7.out⟩
      ·rw [decide_eq_false he] at SM
       have HE5:=HE4.out
       rw [if_neg he] at HE5
       have HE5:=hideIt HE5
       clear he HE4
       go_wp2_with fail
       refine SM.out.mono ?_
       rintro e w7 ⟨rfl,o7⟩
       have O7:=hideIt (O6.out.same o7)
       clear SM o7
       go_wp2
       go_ret2
       have hE:=HE5.out
       subst hE
       exact ⟨_,rfl,World.ownsRow_nil _ _ _ _,O7.out⟩
theorem rdecode10_all (v : Value) (ys : List Int) (n : Int) (w : World) (h : Bs .u8 w v ys) (nc : NoCap v) (hr : ∀ y ∈ ys,0 ≤ y ∧ y ≤ 255) (hl : ys.length ≤ 1000) (hn : n ≤ 10000 ∨ 65536 < n) :
  Calls Tryz.prog 93 #[v,.int .i64 n] w fun e w' => ∃ u,e = .returned (.tuple #[u,.int .i64 (DEC10 ys n).2]) ∧ w'.ownsRow w.heap.size 42 1 u (DEC10 ys n).1.length ((DEC10 ys n).1.map (Value.int .u64)) ∧ Only (fun _ => False) w w':=by
 by_cases hg : n < 0 ∨ 65536 < n
 ·have e : DEC10 ys n = ([],1):=if_pos hg
  rw [e]
  refine (rdecode10_arg v n w hg).mono ?_
  rintro e w' ⟨rfl,rfl⟩
  exact ⟨_,rfl,World.ownsRow_nil _ _ _ _,Only.refl _ _⟩
 ·obtain ⟨N,rfl⟩:=Int.eq_ofNat_of_zero_le (show 0 ≤ n by omega)
  obtain ⟨ao,cap,rfl⟩:=h.len
  rcases sVarint_cases hr with ⟨c,hs,hc⟩ | ⟨a,k,hs,_,_,ha,_⟩
  ·have e : DEC10 ys N = ([],c):=by unfold DEC10;rw [if_neg hg,hs];exact if_pos (show c ≠ 0 by omega)
   rw [e]
   refine (rdecode10_err ao _ cap ys N w h nc hr (by omega) hs (by omega)).mono ?_
   rintro e w' ⟨rfl,o⟩
   exact ⟨_,rfl,World.ownsRow_nil _ _ _ _,o⟩
  ·by_cases hb : N < a
   ·have e : DEC10 ys N = ([],3):=by unfold DEC10;rw [if_neg hg,hs];simp only [ne_eq,not_true_eq_false,if_false];exact if_pos (by omega)
    rw [e]
    refine (rdecode10_many ao _ cap ys N w h nc hr (by omega) hs hb).mono ?_
    rintro e w' ⟨rfl,o⟩
    exact ⟨_,rfl,World.ownsRow_nil _ _ _ _,o⟩
   ·have e : DEC10 ys N = DECB a N (ys.drop k) ys:=by unfold DEC10;rw [if_neg hg,hs];simp only [ne_eq,not_true_eq_false,if_false,Int.toNat_natCast];exact if_neg (by omega)
    exact rdecode10_bs ao _ cap ys N w h nc hr hl (by omega) hs (by omega) _ rfl _ e
end Go.Proofs.YthapipgaohlgdaaGreatDoor


namespace Go.Proofs.YthapipgaohlgdaaGreatDoor
set_option maxRecDepth 100000
open Go.RowKit
theorem own_head {w : World} {base : Nat} {e : TypeId} {g m cap n : Nat} {xs : List Value} (h : w.ownsRow base e 1 (.slice (some ⟨g,0,none⟩) m cap) m xs) (hn : n ≤ m) : w.ownsRow base e 1 (.slice (some ⟨g,0,none⟩) n cap) n (xs.take n):=by
 have hl:=h.1
 refine ⟨by rw [List.length_take];omega,?_⟩
 rcases h.2 with ⟨e,_⟩ | ⟨g',cap',cur,e,hb,hg,h1,h2,h3,h4⟩
 ·cases e
 ·simp at e
  obtain ⟨rfl,rfl⟩:=e
  refine .inr ⟨g,cap,cur,rfl,hb,hg,by omega,h2,h3,?_⟩
  rw [← h4,List.take_take]
  congr 1
  omega
theorem rd8_one (ys : List Int) : rd8 1 ys = [((num (ys.take 8) : Nat) : Int)]:=rfl
set_option maxHeartbeats 1600000 in
theorem rvread_0 (v : Value) (ys : List Int) (n : Nat) (w : World) (h : Bs .u8 w v ys) (nc : NoCap v) (hr : ∀ y ∈ ys,0 ≤ y ∧ y ≤ 255) (hl : ys.length ≤ 1000000) (hn : n ≤ 65536) :
  Calls Tryz.prog 63 #[v,.int .i64 n,.int .i64 0] w fun e w' => ∃ u,e = .returned (.tuple #[u,.int .i64 (R11 ys n 0).2]) ∧ w'.ownsRow w.heap.size 42 1 u (R11 ys n 0).1.length ((R11 ys n 0).1.map (Value.int .u64)) ∧ Only (fun _ => False) w w':=by
 obtain ⟨i0,hi,hz0,hz1,hz2⟩:=info_parts Tryz.infoU64
 obtain ⟨X,hX⟩ : ∃ X,X = R11 ys n 0:=⟨_,rfl⟩
 rw [← hX]
 rw [R11_0] at hX
 have HX:=hideIt hX
 have HB:=hideIt h
 have HR:=hideIt hr
 have HLOW:=hideIt (fun (hx : ys ≠ []) => h.lowN hx)
 obtain ⟨ao,cap,rfl⟩:=h.len
 have NC:=hideIt nc
 obtain ⟨m,hm⟩ : ∃ m,m = ys.length:=⟨_,rfl⟩
 rw [← hm] at HB NC hl HLOW
 rw [← hm]
 have HM:=hideIt hm
 clear h nc hr hX hm
 go_enter Tryz.func63,Tryz.ntmps63
 go_wp2
 go_loopw [0,9,10] (fun b o i wr => ∃ (k : Nat) (ao' : Option Addr) (m' cap' : Nat),k ≤ n ∧ 8 * k ≤ m ∧ i = .int .i64 k ∧ b = .slice ao' m' cap' ∧ m' = m - 8 * k ∧ Bs .u8 wr (.slice ao' m' cap') (ys.drop (8 * k)) ∧ NoCap (.slice ao' m' cap') ∧ (Value.slice ao' m' cap').ownBlock = (Value.slice ao m cap).ownBlock ∧ wr.ownsRow w.heap.size 42 1 o k ((rd8 k ys).map (Value.int .u64)) ∧ Only (fun _ => False) w wr) (fun _ _ i _ => n - (intOf i).toNat)
 case atStart => exact ⟨0,ao,m,cap,Nat.zero_le _,by omega,rfl,rfl,by omega,HB.out,NC.out,rfl,World.ownsRow_nil _ _ _ _,Only.refl _ _⟩
 case round =>
  obtain ⟨k,ao',m',cap',hk,h8,rfl,rfl,hm',hbs,hnc,hob,hown,hon⟩:=hrel
  have HOWN:=hideIt hown
  have HON:=hideIt hon
  have HOB:=hideIt hob
  have hm2 : m' = (ys.drop (8 * k)).length:=by rw [List.length_drop,← HM.out];exact hm'
  have hrd : ∀ y ∈ ys.drop (8 * k),0 ≤ y ∧ y ≤ 255:=fun y hy => HR.out y (List.mem_of_mem_drop hy)
  by_cases hlt : k < n
  ·have dlt : decide ((k : Int) < (n : Int)) = true:=by simp;omega
   by_cases hs : m' < 8
   ·have FX:=hideIt (rfixed_at ao' m' cap' (ys.drop (8 * k)) wr hbs hnc hrd (by omega) 8 (sFixed_8short (by rw [← hm2];exact hs)))
    have HX2 : Hid (X = ([],2)):=by
     simp only [Hid];rw [HX.out,if_pos (by rw [← HM.out];omega)]
    clear hown hbs hnc hob hon hrd hm2 hm' hs HX HLOW
    go_wp2_with fail
    refine FX.out.mono ?_
    rintro e w2 ⟨ao2,m2,cap2,rfl,_,_,o2,_⟩
    have O2:=hideIt (HON.out.same o2)
    clear FX o2 HOWN
    go_wp2
    go_ret2
    have hX:=HX2.out
    subst hX
    exact ⟨_,rfl,World.ownsRow_nil _ _ _ _,O2.out⟩
   ·have FX:=rfixed_at ao' m' cap' (ys.drop (8 * k)) wr hbs hnc hrd (by omega) 8 (sFixed_8ok (by rw [← hm2];omega))
    rw [List.drop_drop,show 8 * k + 8 = 8 * (k + 1) by omega] at FX
    have FX:=hideIt FX
    have h9 : 8 * (k + 1) ≤ m:=by omega
    have HST : Hid ((rd8 (k + 1) ys).map (Value.int .u64) = (rd8 k ys).map (Value.int .u64) ++ [.int .u64 ((num ((ys.drop (8 * k)).take 8) : Nat) : Int)]):=by
     simp only [Hid];rw [rd8_snoc,List.map_append];rfl
    obtain ⟨R1,hR1⟩ : ∃ R1,R1 = (rd8 (k + 1) ys).map (Value.int .u64):=⟨_,rfl⟩
    rw [← hR1] at HST
    have HR1:=hideIt hR1
    have HNE : Hid (ys.drop (8 * (k + 1)) ≠ [] → ys ≠ []):=fun hx hy => hx (by rw [hy];exact List.drop_nil)
    generalize (rd8 k ys).map (Value.int .u64) = R0 at *
    generalize ((num ((ys.drop (8 * k)).take 8) : Nat) : Int) = x at *
    clear hown hbs hnc hob hon hrd hm2 hm' hs HX hR1
    go_wp2_with fail
    refine FX.out.mono ?_
    rintro e w2 ⟨ao2,m2,cap2,rfl,b2,n2,o2,ob2⟩
    have O2:=hideIt (HON.out.same o2)
    have own2:=o2.own HOWN.out (fun _ _ f => f)
    have B2:=hideIt b2
    have N2:=hideIt n2
    have OB2:=hideIt (ob2.trans HOB.out)
    have hm2':=b2.length
    rw [List.length_drop,← HM.out] at hm2'
    have HM2:=hideIt hm2'
    have hsz:=O2.out.size
    clear FX o2 HOWN HON HOB b2 n2 ob2 hm2'
    go_wp2_with (at_builtin;refine wpList_append_lies _ rfl _ _ _ rfl w.heap.size 42 i0 (.int .u64 0) 1 8 Tryz.underlying46 hi hz0 hz1 hz2 rfl (by omega) _ k _ rfl (own2.alloc _) ⟨w2.heap.size,0,none⟩ 1 1 [.int .u64 x] rfl rfl ?c1 ?c2 (by omega) ?c3 ?c4 ?c5 (w2.heap.size + 1) (by simp) ?_)
    case c1 => exact cell_one_new _ _ _
    case c2 => intro u hu;simp at hu;subst hu;rfl
    case c3 => unfold maxLen;omega
    case c4 => omega
    case c5 => simp;omega
    intro gg cap1 w3 hown1 hgrow hat hg1
    have o3:=hideIt (((Only.refl (fun q => w.heap.size ≤ q) w2).alloc _).grown hgrow (fun p _ hp => (own2.lt p hp).1))
    have own3 : Hid (w3.ownsRow w.heap.size 42 1 (.slice (some ⟨gg,0,none⟩) (k + 1) cap1) (k + 1) R1):=by
     simp only [Hid]
     rw [HST.out];exact hown1
    have B3:=hideIt (B2.out.keepN o3.out (fun hx q hq e => by
     rw [OB2.out] at hq
     have:=HLOW.out (HNE.out hx) q hq
     omega))
    have O3:=hideIt (O2.out.trans o3.out (fun q hq e => absurd e (by omega)))
    clear own2 hown1 hgrow hat o3 B2 O2
    go_wp2
    go_roundw
    case rel => exact ⟨k + 1,ao2,m2,cap2,by omega,h9,by go_num,rfl,HM2.out,B3.out,N2.out,OB2.out,by rw [← HR1.out];exact own3.out,O3.out⟩
    case measure => simp [intOf];omega
  ·obtain rfl : k = n:=by omega
   have dlt : decide ((k : Int) < (k : Int)) = false:=by simp
   by_cases hp : 0 < m'
   ·have d2 : decide ((0 : Int) < (m' : Int)) = true:=decide_eq_true (by omega)
    have d2' : decide (0 < m') = true:=decide_eq_true hp
    have HX2 : Hid (X = ([],3)):=by
     simp only [Hid];rw [HX.out,if_neg (by rw [← HM.out];omega),if_pos (by rw [← HM.out];omega)]
    clear hown hbs hnc hob hon hrd hm2 hm' hp HX HLOW
    go_wp2
    go_ret2
    have hX:=HX2.out
    subst hX
    exact ⟨_,rfl,World.ownsRow_nil _ _ _ _,HON.out⟩
   ·have d2 : decide ((0 : Int) < (m' : Int)) = false:=decide_eq_false (by omega)
    have d2' : decide (0 < m') = false:=decide_eq_false hp
    have HX2 : Hid (X = (rd8 k ys,0)):=by
     simp only [Hid];rw [HX.out,if_neg (by rw [← HM.out];omega),if_neg (by rw [← HM.out];omega)]
    obtain ⟨R0,hR0⟩ : ∃ R0,R0 = rd8 k ys:=⟨_,rfl⟩
    have hRl : R0.length = k:=by rw [hR0];exact rd8_len k ys
    rw [← hR0] at HX2 HOWN
    have OWR : Hid (wr.ownsRow w.heap.size 42 1 u9 R0.length (R0.map (Value.int .u64))):=by simp only [Hid];rw [hRl];exact HOWN.out
    obtain ⟨a9,c9,e9,hc9⟩ : ∃ a9 c9,u9 = .slice a9 k c9 ∧ k ≤ c9:=by
     obtain ⟨a9,c9,e,hc,_⟩:=Bs.of_own OWR.out
     exact ⟨a9,c9,by rw [e,hRl],by omega⟩
    subst e9
    have b9 : (k : Int) ≤ (c9 : Int):=by omega
    have b9' : (0 : Int) ≤ (k : Int):=by omega
    clear hown hbs hnc hob hon hrd hm2 hm' hp HX HLOW hR0 hRl HOWN
    obtain ⟨W,hW⟩ : ∃ W,W = wr:=⟨_,rfl⟩
    subst hW
    go_wp2
    go_loopw [9,14] (fun o i wq => o = .slice a9 k c9 ∧ i = .int .i64 1 ∧ wq = W) (fun _ _ _ => 0)
    case atStart => exact ⟨rfl,rfl,rfl⟩
    case round =>
     obtain ⟨rfl,rfl,rfl⟩:=hrel
     by_cases h1 : 1 < k
     ·have d3 : decide ((1 : Int) < (k : Int)) = true:=decide_eq_true (by omega)
      have d3' : decide (1 < k) = true:=decide_eq_true h1
      clear h1
      go_wp2
      go_ret2
      have hX:=HX2.out
      subst hX
      exact ⟨_,rfl,OWR.out,HON.out⟩
     ·have d3 : decide ((1 : Int) < (k : Int)) = false:=decide_eq_false (by omega)
      have d3' : decide (1 < k) = false:=decide_eq_false h1
      clear h1
      go_wp2
      go_ret2
      have hX:=HX2.out
      subst hX
      exact ⟨_,rfl,OWR.out,HON.out⟩
set_option maxHeartbeats 1600000 in
theorem rvread_1 (v : Value) (ys : List Int) (n : Nat) (w : World) (h : Bs .u8 w v ys) (nc : NoCap v) (hr : ∀ y ∈ ys,0 ≤ y ∧ y ≤ 255) (hl : ys.length ≤ 1000000) (hn : n ≤ 65536) :
  Calls Tryz.prog 63 #[v,.int .i64 n,.int .i64 1] w fun e w' => ∃ u,e = .returned (.tuple #[u,.int .i64 (R11 ys n 1).2]) ∧ w'.ownsRow w.heap.size 42 1 u (R11 ys n 1).1.length ((R11 ys n 1).1.map (Value.int .u64)) ∧ Only (fun _ => False) w w':=by
 obtain ⟨i0,hi,hz0,hz1,hz2⟩:=info_parts Tryz.infoU64
 obtain ⟨X,hX⟩ : ∃ X,X = R11 ys n 1:=⟨_,rfl⟩
 rw [← hX]
 rw [R11_1] at hX
 have HX:=hideIt hX
 have HB:=hideIt h
 have HR:=hideIt hr
 have HLOW:=hideIt (fun (hx : ys ≠ []) => h.lowN hx)
 obtain ⟨ao,cap,rfl⟩:=h.len
 have NC:=hideIt nc
 obtain ⟨m,hm⟩ : ∃ m,m = ys.length:=⟨_,rfl⟩
 rw [← hm] at HB NC hl HLOW
 rw [← hm]
 have HM:=hideIt hm
 clear h nc hr hX hm
 go_enter Tryz.func63,Tryz.ntmps63
 go_wp2
 go_loopw [0,9,10] (fun b o i wr => ∃ (k : Nat) (ao' : Option Addr) (m' cap' : Nat),k ≤ 1 ∧ 8 * k ≤ m ∧ i = .int .i64 k ∧ b = .slice ao' m' cap' ∧ m' = m - 8 * k ∧ Bs .u8 wr (.slice ao' m' cap') (ys.drop (8 * k)) ∧ NoCap (.slice ao' m' cap') ∧ (Value.slice ao' m' cap').ownBlock = (Value.slice ao m cap).ownBlock ∧ wr.ownsRow w.heap.size 42 1 o k ((rd8 k ys).map (Value.int .u64)) ∧ Only (fun _ => False) w wr) (fun _ _ i _ => 1 - (intOf i).toNat)
 case atStart => exact ⟨0,ao,m,cap,Nat.zero_le _,by omega,rfl,rfl,by omega,HB.out,NC.out,rfl,World.ownsRow_nil _ _ _ _,Only.refl _ _⟩
 case round =>
  obtain ⟨k,ao',m',cap',hk,h8,rfl,rfl,hm',hbs,hnc,hob,hown,hon⟩:=hrel
  have HOWN:=hideIt hown
  have HON:=hideIt hon
  have HOB:=hideIt hob
  have hm2 : m' = (ys.drop (8 * k)).length:=by rw [List.length_drop,← HM.out];exact hm'
  have hrd : ∀ y ∈ ys.drop (8 * k),0 ≤ y ∧ y ≤ 255:=fun y hy => HR.out y (List.mem_of_mem_drop hy)
  by_cases hlt : k < 1
  ·have dlt : decide ((k : Int) < (1 : Int)) = true:=by simp;omega
   by_cases hs : m' < 8
   ·have FX:=hideIt (rfixed_at ao' m' cap' (ys.drop (8 * k)) wr hbs hnc hrd (by omega) 8 (sFixed_8short (by rw [← hm2];exact hs)))
    have HX2 : Hid (X = ([],2)):=by
     simp only [Hid];rw [HX.out,if_pos (by rw [← HM.out];omega)]
    clear hown hbs hnc hob hon hrd hm2 hm' hs HX HLOW
    go_wp2_with fail
    refine FX.out.mono ?_
    rintro e w2 ⟨ao2,m2,cap2,rfl,_,_,o2,_⟩
    have O2:=hideIt (HON.out.same o2)
    clear FX o2 HOWN
    go_wp2
    go_ret2
    have hX:=HX2.out
    subst hX
    exact ⟨_,rfl,World.ownsRow_nil _ _ _ _,O2.out⟩
   ·have FX:=rfixed_at ao' m' cap' (ys.drop (8 * k)) wr hbs hnc hrd (by omega) 8 (sFixed_8ok (by rw [← hm2];omega))
    rw [List.drop_drop,show 8 * k + 8 = 8 * (k + 1) by omega] at FX
    have FX:=hideIt FX
    have h9 : 8 * (k + 1) ≤ m:=by omega
    have HST : Hid ((rd8 (k + 1) ys).map (Value.int .u64) = (rd8 k ys).map (Value.int .u64) ++ [.int .u64 ((num ((ys.drop (8 * k)).take 8) : Nat) : Int)]):=by
     simp only [Hid];rw [rd8_snoc,List.map_append];rfl
    obtain ⟨R1,hR1⟩ : ∃ R1,R1 = (rd8 (k + 1) ys).map (Value.int .u64):=⟨_,rfl⟩
    rw [← hR1] at HST
    have HR1:=hideIt hR1
    have HNE : Hid (ys.drop (8 * (k + 1)) ≠ [] → ys ≠ []):=fun hx hy => hx (by rw [hy];exact List.drop_nil)
    generalize (rd8 k ys).map (Value.int .u64) = R0 at *
    generalize ((num ((ys.drop (8 * k)).take 8) : Nat) : Int) = x at *
    clear hown hbs hnc hob hon hrd hm2 hm' hs HX hR1
    go_wp2_with fail
    refine FX.out.mono ?_
    rintro e w2 ⟨ao2,m2,cap2,rfl,b2,n2,o2,ob2⟩
    have O2:=hideIt (HON.out.same o2)
    have own2:=o2.own HOWN.out (fun _ _ f => f)
    have B2:=hideIt b2
    have N2:=hideIt n2
    have OB2:=hideIt (ob2.trans HOB.out)
    have hm2':=b2.length
    rw [List.length_drop,← HM.out] at hm2'
    have HM2:=hideIt hm2'
    have hsz:=O2.out.size
    clear FX o2 HOWN HON HOB b2 n2 ob2 hm2'
    go_wp2_with (at_builtin;refine wpList_append_lies _ rfl _ _ _ rfl w.heap.size 42 i0 (.int .u64 0) 1 8 Tryz.underlying46 hi hz0 hz1 hz2 rfl (by omega) _ k _ rfl (own2.alloc _) ⟨w2.heap.size,0,none⟩ 1 1 [.int .u64 x] rfl rfl ?c1 ?c2 (by omega) ?c3 ?c4 ?c5 (w2.heap.size + 1) (by simp) ?_)
    case c1 => exact cell_one_new _ _ _
    case c2 => intro u hu;simp at hu;subst hu;rfl
    case c3 => unfold maxLen;omega
    case c4 => omega
    case c5 => simp;omega
    intro gg cap1 w3 hown1 hgrow hat hg1
    have o3:=hideIt (((Only.refl (fun q => w.heap.size ≤ q) w2).alloc _).grown hgrow (fun p _ hp => (own2.lt p hp).1))
    have own3 : Hid (w3.ownsRow w.heap.size 42 1 (.slice (some ⟨gg,0,none⟩) (k + 1) cap1) (k + 1) R1):=by
     simp only [Hid]
     rw [HST.out];exact hown1
    have B3:=hideIt (B2.out.keepN o3.out (fun hx q hq e => by
     rw [OB2.out] at hq
     have:=HLOW.out (HNE.out hx) q hq
     omega))
    have O3:=hideIt (O2.out.trans o3.out (fun q hq e => absurd e (by omega)))
    clear own2 hown1 hgrow hat o3 B2 O2
    go_wp2
    go_roundw
    case rel => exact ⟨k + 1,ao2,m2,cap2,by omega,h9,by go_num,rfl,HM2.out,B3.out,N2.out,OB2.out,by rw [← HR1.out];exact own3.out,O3.out⟩
    case measure => simp [intOf];omega
  ·obtain rfl : k = 1:=by omega
   clear hlt
   rw [show ((1 : Nat) : Int) = (1 : Int) from rfl]
   by_cases hp : 0 < m'
   ·have d2 : decide ((0 : Int) < (m' : Int)) = true:=decide_eq_true (by omega)
    have d2' : decide (0 < m') = true:=decide_eq_true hp
    have HX2 : Hid (X = ([],3)):=by
     simp only [Hid];rw [HX.out,if_neg (by rw [← HM.out];omega),if_pos (by rw [← HM.out];omega)]
    clear hown hbs hnc hob hon hrd hm2 hm' hp HX HLOW
    go_wp2
    go_ret2
    have hX:=HX2.out
    subst hX
    exact ⟨_,rfl,World.ownsRow_nil _ _ _ _,HON.out⟩
   ·have d2 : decide ((0 : Int) < (m' : Int)) = false:=decide_eq_false (by omega)
    have d2' : decide (0 < m') = false:=decide_eq_false hp
    rw [rd8_one] at HOWN
    have HX2 : Hid (X = (List.replicate n ((num (ys.take 8) : Nat) : Int),0)):=by
     simp only [Hid];rw [HX.out,if_neg (by rw [← HM.out];omega),if_neg (by rw [← HM.out];omega)]
    generalize ((num (ys.take 8) : Nat) : Int) = x at *
    obtain ⟨W,hW⟩ : ∃ W,W = wr:=⟨_,rfl⟩
    subst hW
    clear hown hbs hnc hob hon hrd hm2 hm' hp HX HLOW
    go_wp2
    go_loopw [9,14] (fun o i wq => ∃ j : Nat,1 ≤ j ∧ (j ≤ n ∨ j = 1) ∧ i = .int .i64 j ∧ wq.ownsRow w.heap.size 42 1 o j ((List.replicate j x).map (Value.int .u64)) ∧ Only (fun _ => False) w wq) (fun _ i _ => n - (intOf i).toNat)
    case atStart => exact ⟨1,by omega,.inr rfl,rfl,HOWN.out,HON.out⟩
    case round =>
     obtain ⟨j,hj1,hjn,rfl,hown,hon⟩:=hrel
     have HOW:=hideIt hown
     have HO:=hideIt hon
     have hjl : ((List.replicate j x).map (Value.int .u64)).length = j:=by simp
     obtain ⟨g9,c9,e9,hc9⟩ : ∃ g9 c9,u9 = .slice (some ⟨g9,0,none⟩) j c9 ∧ j ≤ c9:=by
      rcases hown.2 with ⟨_,h0⟩ | ⟨g,cap,cur,e,_,_,hc,_⟩
      ·omega
      ·exact ⟨g,cap,e,hc⟩
     subst e9
     clear HOWN
     by_cases h1 : j < n
     ·have d3 : decide ((j : Int) < (n : Int)) = true:=decide_eq_true (by omega)
      have d3' : decide (j < n) = true:=decide_eq_true h1
      have hc0 : wr.cell? ⟨g9,0,none⟩ = some (.int .u64 x):=by
       have:=hown.cellAt 0 (by omega)
       rw [this]
       cases j with
       | zero => omega
       | succ j => rw [List.replicate_succ];rfl
      have b0 : (0 : Int) < (j : Int):=by omega
      have AP : Hid ((List.replicate (j + 1) x).map (Value.int .u64) = (List.replicate j x).map (Value.int .u64) ++ [.int .u64 x]):=by
       simp only [Hid];rw [List.replicate_succ',List.map_append];rfl
      generalize (List.replicate j x).map (Value.int .u64) = R0 at *
      obtain ⟨R1,hR1⟩ : ∃ R1,R1 = (List.replicate (j + 1) x).map (Value.int .u64):=⟨_,rfl⟩
      rw [← hR1] at AP
      have HR1:=hideIt hR1
      have hsz:=hon.size
      have hlow:=hown.lt
      clear hR1 hon hjl hown
      go_wp2_with (at_builtin;refine wpList_append_lies _ rfl _ _ _ rfl w.heap.size 42 i0 (.int .u64 0) 1 8 Tryz.underlying46 hi hz0 hz1 hz2 rfl (by omega) _ j R0 rfl (HOW.out.alloc _) ⟨wr.heap.size,0,none⟩ 1 1 [.int .u64 x] rfl rfl ?c1 ?c2 (by omega) ?c3 ?c4 ?c5 (wr.heap.size + 1) (by simp) ?_)
      case c1 => exact cell_one_new _ _ _
      case c2 => intro u hu;simp at hu;subst hu;rfl
      case c3 => unfold maxLen;omega
      case c4 => omega
      case c5 => simp;omega
      intro gg cap1 w3 hown1 hgrow hat hg1
      have O3:=hideIt ((HO.out.alloc _).grown hgrow (fun p hp e => absurd (hlow p e).1 (by omega)))
      have own3 : Hid (w3.ownsRow w.heap.size 42 1 (.slice (some ⟨gg,0,none⟩) (j + 1) cap1) (j + 1) R1):=by
       simp only [Hid]
       rw [AP.out];exact hown1
      clear hown1 hgrow hat hlow hc0
      go_wp2
      go_roundw
      case rel => exact ⟨j + 1,by omega,.inl (by omega),by go_num,by rw [← HR1.out];exact own3.out,O3.out⟩
      case measure => simp [intOf];omega
     ·have d3 : decide ((j : Int) < (n : Int)) = false:=decide_eq_false (by omega)
      have d3' : decide (j < n) = false:=decide_eq_false h1
      have b9 : (n : Int) ≤ (c9 : Int):=by omega
      have b9' : (0 : Int) ≤ (n : Int):=by omega
      have OW2:=own_head (n:=n) HOW.out (by omega)
      rw [← List.map_take,List.take_replicate,Nat.min_eq_left (by omega)] at OW2
      have OW3:=hideIt OW2
      clear hown hon hjl h1 OW2 HOW
      go_wp2
      go_ret2
      have hX:=HX2.out
      subst hX
      exact ⟨_,rfl,by simp only;rw [List.length_replicate];exact OW3.out,HO.out⟩
end Go.Proofs.YthapipgaohlgdaaGreatDoor


namespace Go.Proofs.YthapipgaohlgdaaGreatDoor
set_option maxRecDepth 100000
open Go.RowKit
theorem addr_add (b off k : Nat) : (⟨b,off,none⟩ : Addr).add k = ⟨b,off + k,none⟩:=by unfold Addr.add;split <;> simp_all
set_option maxHeartbeats 800000 in
theorem rvread_2 (v : Value) (ys : List Int) (n : Nat) (w : World) (h : Bs .u8 w v ys) (nc : NoCap v) (hr : ∀ y ∈ ys,0 ≤ y ∧ y ≤ 255) (hl : ys.length ≤ 1000) (hn : n ≤ 10000) :
  Calls Tryz.prog 63 #[v,.int .i64 n,.int .i64 2] w fun e w' => ∃ u,e = .returned (.tuple #[u,.int .i64 (DEC10 ys n).2]) ∧ w'.ownsRow w.heap.size 42 1 u (DEC10 ys n).1.length ((DEC10 ys n).1.map (Value.int .u64)) ∧ Only (fun _ => False) w w':=by
 have B:=hideIt (rdecode10_all v ys n w h nc hr hl (.inl (by omega)))
 obtain ⟨ao,cap,rfl⟩:=h.len
 generalize DEC10 ys n = X at *
 obtain ⟨X1,X2⟩:=X
 simp only at B ⊢
 clear h nc hr hl hn
 go_enter Tryz.func63,Tryz.ntmps63
 go_wp2_with fail
 refine B.out.mono ?_
 rintro e w2 ⟨u,rfl,own2,o2⟩
 have F:=hideIt (And.intro own2 o2)
 clear B own2 o2
 go_wp2
 go_ret2
 exact ⟨u,rfl,F.out.1,F.out.2⟩
set_option maxHeartbeats 800000 in
theorem rvread_3 (v : Value) (ys : List Int) (n : Nat) (w : World) (h : Bs .u8 w v ys) (hr : ∀ y ∈ ys,0 ≤ y ∧ y ≤ 255) (hl : ys.length ≤ 1000) :
  Calls Tryz.prog 63 #[v,.int .i64 n,.int .i64 3] w fun e w' => ∃ u,e = .returned (.tuple #[u,.int .i64 (DEC9 ys n).2]) ∧ w'.ownsRow w.heap.size 42 1 u (DEC9 ys n).1.length ((DEC9 ys n).1.map (Value.int .u64)) ∧ Only (fun _ => False) w w':=by
 have B:=hideIt (rdecode9_all v ys n w h hr hl)
 obtain ⟨ao,cap,rfl⟩:=h.len
 generalize DEC9 ys n = X at *
 obtain ⟨X1,X2⟩:=X
 simp only at B ⊢
 clear h hr hl
 go_enter Tryz.func63,Tryz.ntmps63
 go_wp2_with fail
 refine B.out.mono ?_
 rintro e w2 ⟨u,rfl,own2,o2⟩
 have F:=hideIt (And.intro own2 o2)
 clear B own2 o2
 go_wp2
 go_ret2
 exact ⟨u,rfl,F.out.1,F.out.2⟩
theorem rvread_any (v : Value) (ys : List Int) (n t : Nat) (w : World) (h : Bs .u8 w v ys) (nc : NoCap v) (hr : ∀ y ∈ ys,0 ≤ y ∧ y ≤ 255) (hl : ys.length ≤ 1000) (hn : n ≤ 10000) (ht : t ≤ 3) :
  Calls Tryz.prog 63 #[v,.int .i64 n,.int .i64 t] w fun e w' => ∃ u,e = .returned (.tuple #[u,.int .i64 (R11 ys n t).2]) ∧ w'.ownsRow w.heap.size 42 1 u (R11 ys n t).1.length ((R11 ys n t).1.map (Value.int .u64)) ∧ Only (fun _ => False) w w':=by
 rcases tag_cases ht with rfl | rfl | rfl | rfl
 ·exact rvread_0 v ys n w h nc hr (by omega) (by omega)
 ·exact rvread_1 v ys n w h nc hr (by omega) (by omega)
 ·exact rvread_2 v ys n w h nc hr hl hn
 ·exact rvread_3 v ys n w h hr hl
set_option maxHeartbeats 400000 in
theorem rdecode11_arg (v : Value) (n : Int) (w : World) (h : n < 0 ∨ 65536 < n) : Calls Tryz.prog 36 #[v,.int .i64 n] w fun e w' => e = .returned (.tuple #[.slice none 0 0,.int .i64 1]) ∧ w = w':=by
 by_cases h0 : n < 0
 ·have d0 : decide (n < 0) = true:=decide_eq_true h0
  clear h h0
  go_enter Tryz.func36,Tryz.ntmps36
  go_wp2
  go_ret2
  exact ⟨rfl,rfl⟩
 ·have d0 : decide (n < 0) = false:=decide_eq_false h0
  have d1 : decide (65536 < n) = true:=decide_eq_true (by omega)
  clear h h0
  go_enter Tryz.func36,Tryz.ntmps36
  go_wp2
  go_ret2
  exact ⟨rfl,rfl⟩
set_option maxHeartbeats 400000 in
theorem rdecode11_none (v : Value) (n : Nat) (w : World) (h : Bs .u8 w v []) (hn : n ≤ 65536) : Calls Tryz.prog 36 #[v,.int .i64 n] w fun e w' => e = .returned (.tuple #[.slice none 0 0,.int .i64 2]) ∧ w = w':=by
 have d0 : decide ((n : Int) < 0) = false:=by simp
 have d1 : decide (65536 < (n : Int)) = false:=by simp;omega
 obtain ⟨ao,cap,rfl⟩:=h.len
 clear h hn
 go_enter Tryz.func36,Tryz.ntmps36
 go_wp2
 go_ret2
 exact ⟨rfl,rfl⟩
set_option maxHeartbeats 400000 in
theorem rdecode11_tag (v : Value) (b : List Int) (n : Nat) (w : World) (h : Bs .u8 w v b) (hn : n ≤ 65536) (hne : b ≠ []) (h3 : 3 < b.getD 0 0) : Calls Tryz.prog 36 #[v,.int .i64 n] w fun e w' => e = .returned (.tuple #[.slice none 0 0,.int .i64 3]) ∧ w = w':=by
 have d0 : decide ((n : Int) < 0) = false:=by simp
 have d1 : decide (65536 < (n : Int)) = false:=by simp;omega
 have hp:=List.length_pos_iff.2 hne
 obtain ⟨bb,off,cap,rfl,cell0⟩:=h.at 0 hp
 rw [Nat.add_zero] at cell0
 generalize b.getD 0 0 = x at *
 have d3 : decide (3 < x) = true:=decide_eq_true h3
 have d4 : ((b.length : Int) == 0) = false:=by rw [beq_eq_false_iff_ne];omega
 have hN : (0 : Int) < (b.length : Int):=by omega
 generalize b.length = N at *
 clear h hn h3 hne
 go_enter Tryz.func36,Tryz.ntmps36
 go_wp2
 go_ret2
 exact ⟨rfl,rfl⟩
set_option maxHeartbeats 3200000 in
theorem rdecode11_bs (v : Value) (b : List Int) (n : Nat) (w : World) (h : Bs .u8 w v b) (hr : ∀ y ∈ b,0 ≤ y ∧ y ≤ 255) (hl : b.length ≤ 1000) (hn : n ≤ 10000) (hne : b ≠ []) (h3 : b.getD 0 0 ≤ 3) :
  Calls Tryz.prog 36 #[v,.int .i64 n] w fun e w' => ∃ u,e = .returned (.tuple #[u,.int .i64 (DEC11 b n).2]) ∧ w'.ownsRow w.heap.size 42 1 u (DEC11 b n).1.length ((DEC11 b n).1.map (Value.int .u64)) ∧ Only (fun _ => False) w w':=by
 obtain ⟨D,hD⟩ : ∃ D,D = DEC11 b n:=⟨_,rfl⟩
 rw [← hD]
 unfold DEC11 at hD
 rw [if_neg (by omega),if_neg hne,if_neg (by omega),Int.toNat_natCast] at hD
 have d0 : decide ((n : Int) < 0) = false:=by simp
 have d1 : decide (65536 < (n : Int)) = false:=by simp;omega
 have hp:=List.length_pos_iff.2 hne
 have HB:=hideIt h
 obtain ⟨bb,off,cap,ev,cell0⟩:=h.at 0 hp
 subst ev
 rw [Nat.add_zero] at cell0
 have hb0:=(hr _ (head_mem hne)).1
 obtain ⟨t,ht⟩ : ∃ t,t = (b.getD 0 0).toNat:=⟨_,rfl⟩
 have hx : b.getD 0 0 = (t : Int):=by omega
 rw [← ht] at hD
 rw [hx] at cell0
 have ht3 : t ≤ 3:=by omega
 have d3 : decide (3 < (t : Int)) = false:=decide_eq_false (by omega)
 have d3' : decide (3 < t) = false:=decide_eq_false (by omega)
 have t255 : (t : Int) ≤ 255:=by omega
 have hwt : IntKind.i64.wrap (t : Int) = (t : Int):=by rw [IntKind.wrap_i64];omega
 obtain ⟨r,hrr⟩ : ∃ r,r = b.drop 1:=⟨_,rfl⟩
 rw [← hrr] at hD
 have hrng : ∀ y ∈ r,0 ≤ y ∧ y ≤ 255:=fun y hy => hr y (List.mem_of_mem_drop (by rw [← hrr];exact hy))
 have hrl : r.length + 1 = b.length:=by rw [hrr,List.length_drop];omega
 have hcapN : b.length ≤ cap:=by
  obtain ⟨ao',cap',e2,hc,_⟩:=h
  simp at e2
  omega
 have HRT1 : Hid (cap = 1 → Bs .u8 w (.slice (some ⟨bb,off,none⟩) 0 0) r):=fun hc => by
  have e1 : b.length = 1:=by omega
  have:=h
  rw [hc,e1] at this
  have:=this.cut0 (n:=1) (by omega)
  rw [hrr]
  simpa using this
 have HRT2 : Hid (Bs .u8 w (.slice (some ⟨bb,off + 1,none⟩) (b.length - 1) (cap - 1)) r):=by
  simp only [Hid]
  have:=h.cut (n:=1) (by omega)
  rw [hrr]
  simpa [addr_add] using this
 have RA : Hid (∀ u : Value,Bs .u8 w u r → NoCap u → Calls Tryz.prog 63 #[u,.int .i64 n,.int .i64 t] w.drew fun e w' => ∃ u,e = .returned (.tuple #[u,.int .i64 (R11 r n t).2]) ∧ w'.ownsRow w.heap.size 42 1 u (R11 r n t).1.length ((R11 r n t).1.map (Value.int .u64)) ∧ Only (fun _ => False) w w') :=
  fun u hu hc => (rvread_any u r n t w.drew (hu.past (Only.refl (fun _ => False) w).drew) hc hrng (by omega) hn ht3).mono fun e w' ⟨z,h1,h2,h3⟩ => ⟨z,h1,h2,(Only.refl (fun _ => False) w).drew.same h3⟩
 have CK : Hid (∀ W,Only (fun _ => False) w W → W.cell? ⟨bb,off,none⟩ = some (Value.int .u8 t)):=fun W o => by
  rw [← cell0];exact World.cell?_of_block (o.block bb (World.block_lt_of_cell? w _ cell0) (fun f => f))
 have HOK : Hid ((R11 r n t).2 = 0 → U64 (R11 r n t).1 ∧ (R11 r n t).1.length = n):=fun h0 => R11_ok hrng h0
 have HRR:=hideIt hr
 have HD:=hideIt hD
 have HL:=hideIt hl
 obtain ⟨N,hN⟩ : ∃ N,N = b.length:=⟨_,rfl⟩
 rw [← hN] at HB HRT2 hcapN hp
 rw [← hN]
 have d4 : ((N : Int) == 0) = false:=by rw [beq_eq_false_iff_ne];omega
 have j0 : (1 : Int) ≤ (N : Int):=by omega
 have j1 : (1 : Int) ≤ (cap : Int):=by omega
 have j2 : (0 : Int) < (N : Int):=by omega
 generalize R11 r n t = R at *
 obtain ⟨l,c⟩:=R
 simp only at RA HOK HD
 clear h hr hl hD hx ht hb0 h3 hne hrr hrng hrl hN
 by_cases hcc : cap = 1
 ·subst hcc
  obtain rfl : N = 1:=by omega
  have RD:=hideIt (RA.out _ (HRT1.out rfl) (NoCap.some _ _ _))
  clear RA HRT1 HRT2
  by_cases hc : c = 0
  ·subst hc
   obtain ⟨hu,hln⟩:=HOK.out rfl
   have HU:=hideIt hu
   have HLN:=hideIt hln
   have HD2 : Hid (D = if (ENC11 l).1 = b then (l,0) else ([],3)):=by simp only [Hid];rw [HD.out,if_neg (by simp)]
   have EN:=hideIt (fun (u : Value) (w2 : World) (hb : Bs .u64 w2 u l) => rencode11_all u l w2 hb hu (.inl (by omega)))
   have ELN : Hid ((ENC11 l).1.length ≤ 140737488355328):=by have:=(ENC11_len (l:=l) (by omega)).1;simp only [Hid];omega
   have HER:=hideIt (ENC11_rng l)
   clear hu hln HD HOK
   generalize (ENC11 l).2 = EC at *
   generalize (ENC11 l).1 = E at *
   go_enter Tryz.func36,Tryz.ntmps36
   go_wp2_with fail
   go_region_held3 (fun W => W.cell? ⟨bb,off,none⟩ = some (Value.int .u8 t)) (go_keep) (first | (go_at_call 63;refine RD.out.mono ?_;rintro e w2 ⟨u2,rfl,own2,o2⟩;have hc2:=CK.out w2 o2))
   have B2:=hideIt (Bs.of_own own2)
   have OW2:=hideIt own2
   have O2:=hideIt o2
   have EN2:=hideIt (EN.out u2 w2 B2.out)
   obtain ⟨a6,c6,e6⟩:=B2.out.len
   subst e6
   obtain ⟨q,hq⟩ : ∃ q,q = l.length:=⟨_,rfl⟩
   rw [← hq] at EN2 ⊢
   have HQ:=hideIt hq
   clear RD own2 o2 EN hq
   go_wp2_with fail
   refine EN2.out.mono ?_
   rintro e w3 ⟨v3,rfl,own3,o3⟩
   have O3:=hideIt (O2.out.same o3)
   have OW3:=hideIt (o3.own OW2.out (fun _ _ f => f))
   have SM:=hideIt (same_any v3 _ E b w3 (Bs.of_own own3) (HB.out.past O3.out) ELN.out)
   obtain ⟨a7,c7,e7⟩:=(Bs.of_own own3).len
   subst e7
   obtain ⟨q2,hq2⟩ : ∃ q2,q2 = E.length:=⟨_,rfl⟩
   rw [← hq2] at SM ⊢
   clear EN2 own3 o3 hq2
   by_cases he : E = b
   ·rw [decide_eq_true he] at SM
    have hD:=HD2.out
    rw [if_pos he] at hD
    have HD3:=hideIt hD
    clear he hD HD2
    go_wp2_with fail
    refine SM.out.mono ?_
    rintro e w4 ⟨rfl,o4⟩
    have O4:=hideIt (O3.out.same o4)
    have OW4:=hideIt (o4.own OW3.out (fun _ _ f => f))
    clear SM o4
    go_wp2
    go_ret2
    have hD:=HD3.out
    subst hD
    exact ⟨_,rfl,by have:=OW4.out;rw [HQ.out];exact this,O4.out⟩
   ·rw [decide_eq_false he] at SM
    have hD:=HD2.out
    rw [if_neg he] at hD
    have HD3:=hideIt hD
    clear he hD HD2
    go_wp2_with fail
    refine SM.out.mono ?_
    rintro e w4 ⟨rfl,o4⟩
    have O4:=hideIt (O3.out.same o4)
    clear SM o4
    go_wp2
    go_ret2
    have hD:=HD3.out
    subst hD
    exact ⟨_,rfl,World.ownsRow_nil _ _ _ _,O4.out⟩
  ·have dc : (c != 0) = true:=bne_iff_ne.2 hc
   have HD2 : Hid (D = ([],c)):=by simp only [Hid];rw [HD.out,if_pos hc]
   clear HD HOK hc
   go_enter Tryz.func36,Tryz.ntmps36
   go_wp2_with fail
   go_region_held3 (fun W => W.cell? ⟨bb,off,none⟩ = some (Value.int .u8 t)) (go_keep) (first | (go_at_call 63;refine RD.out.mono ?_;rintro e w2 ⟨u2,rfl,own2,o2⟩;have hc2:=CK.out w2 o2))
   have O2:=hideIt o2
   obtain ⟨a6,c6,e6⟩:=(Bs.of_own own2).len
   subst e6
   clear RD own2 o2
   go_wp2
   go_ret2
   have hD:=HD2.out
   subst hD
   exact ⟨_,rfl,World.ownsRow_nil _ _ _ _,O2.out⟩
 ·have RD:=hideIt (RA.out _ HRT2.out (NoCap.some _ _ _))
  clear RA HRT1 HRT2
  by_cases hc : c = 0
  ·subst hc
   obtain ⟨hu,hln⟩:=HOK.out rfl
   have HU:=hideIt hu
   have HLN:=hideIt hln
   have HD2 : Hid (D = if (ENC11 l).1 = b then (l,0) else ([],3)):=by simp only [Hid];rw [HD.out,if_neg (by simp)]
   have EN:=hideIt (fun (u : Value) (w2 : World) (hb : Bs .u64 w2 u l) => rencode11_all u l w2 hb hu (.inl (by omega)))
   have ELN : Hid ((ENC11 l).1.length ≤ 140737488355328):=by have:=(ENC11_len (l:=l) (by omega)).1;simp only [Hid];omega
   have HER:=hideIt (ENC11_rng l)
   clear hu hln HD HOK
   generalize (ENC11 l).2 = EC at *
   generalize (ENC11 l).1 = E at *
   go_enter Tryz.func36,Tryz.ntmps36
   go_wp2_with fail
   go_region_held3 (fun W => W.cell? ⟨bb,off,none⟩ = some (Value.int .u8 t)) (go_keep) (first | (go_at_call 63;refine RD.out.mono ?_;rintro e w2 ⟨u2,rfl,own2,o2⟩;have hc2:=CK.out w2 o2))
   have B2:=hideIt (Bs.of_own own2)
   have OW2:=hideIt own2
   have O2:=hideIt o2
   have EN2:=hideIt (EN.out u2 w2 B2.out)
   obtain ⟨a6,c6,e6⟩:=B2.out.len
   subst e6
   obtain ⟨q,hq⟩ : ∃ q,q = l.length:=⟨_,rfl⟩
   rw [← hq] at EN2 ⊢
   have HQ:=hideIt hq
   clear RD own2 o2 EN hq
   go_wp2_with fail
   refine EN2.out.mono ?_
   rintro e w3 ⟨v3,rfl,own3,o3⟩
   have O3:=hideIt (O2.out.same o3)
   have OW3:=hideIt (o3.own OW2.out (fun _ _ f => f))
   have SM:=hideIt (same_any v3 _ E b w3 (Bs.of_own own3) (HB.out.past O3.out) ELN.out)
   obtain ⟨a7,c7,e7⟩:=(Bs.of_own own3).len
   subst e7
   obtain ⟨q2,hq2⟩ : ∃ q2,q2 = E.length:=⟨_,rfl⟩
   rw [← hq2] at SM ⊢
   clear EN2 own3 o3 hq2
   by_cases he : E = b
   ·rw [decide_eq_true he] at SM
    have hD:=HD2.out
    rw [if_pos he] at hD
    have HD3:=hideIt hD
    clear he hD HD2
    go_wp2_with fail
    refine SM.out.mono ?_
    rintro e w4 ⟨rfl,o4⟩
    have O4:=hideIt (O3.out.same o4)
    have OW4:=hideIt (o4.own OW3.out (fun _ _ f => f))
    clear SM o4
    go_wp2
    go_ret2
    have hD:=HD3.out
    subst hD
    exact ⟨_,rfl,by have:=OW4.out;rw [HQ.out];exact this,O4.out⟩
   ·rw [decide_eq_false he] at SM
    have hD:=HD2.out
    rw [if_neg he] at hD
    have HD3:=hideIt hD
    clear he hD HD2
    go_wp2_with fail
    refine SM.out.mono ?_
    rintro e w4 ⟨rfl,o4⟩
    have O4:=hideIt (O3.out.same o4)
    clear SM o4
    go_wp2
    go_ret2
    have hD:=HD3.out
    subst hD
    exact ⟨_,rfl,World.ownsRow_nil _ _ _ _,O4.out⟩
  ·have dc : (c != 0) = true:=bne_iff_ne.2 hc
   have HD2 : Hid (D = ([],c)):=by simp only [Hid];rw [HD.out,if_pos hc]
   clear HD HOK hc
   go_enter Tryz.func36,Tryz.ntmps36
   go_wp2_with fail
   go_region_held3 (fun W => W.cell? ⟨bb,off,none⟩ = some (Value.int .u8 t)) (go_keep) (first | (go_at_call 63;refine RD.out.mono ?_;rintro e w2 ⟨u2,rfl,own2,o2⟩;have hc2:=CK.out w2 o2))
   have O2:=hideIt o2
   obtain ⟨a6,c6,e6⟩:=(Bs.of_own own2).len
   subst e6
   clear RD own2 o2
   go_wp2
   go_ret2
   have hD:=HD2.out
   subst hD
   exact ⟨_,rfl,World.ownsRow_nil _ _ _ _,O2.out⟩
theorem rdecode11_all (v : Value) (b : List Int) (n : Int) (w : World) (h : Bs .u8 w v b) (hr : ∀ y ∈ b,0 ≤ y ∧ y ≤ 255) (hl : b.length ≤ 1000) (hn : n ≤ 10000 ∨ 65536 < n) :
  Calls Tryz.prog 36 #[v,.int .i64 n] w fun e w' => ∃ u,e = .returned (.tuple #[u,.int .i64 (DEC11 b n).2]) ∧ w'.ownsRow w.heap.size 42 1 u (DEC11 b n).1.length ((DEC11 b n).1.map (Value.int .u64)) ∧ Only (fun _ => False) w w':=by
 by_cases hg : n < 0 ∨ 65536 < n
 ·have e : DEC11 b n = ([],1):=if_pos hg
  rw [e]
  refine (rdecode11_arg v n w hg).mono ?_
  rintro e w' ⟨rfl,rfl⟩
  exact ⟨_,rfl,World.ownsRow_nil _ _ _ _,Only.refl _ _⟩
 ·obtain ⟨N,rfl⟩:=Int.eq_ofNat_of_zero_le (show 0 ≤ n by omega)
  by_cases hne : b = []
  ·subst hne
   have e : DEC11 [] N = ([],2):=by unfold DEC11;rw [if_neg hg,if_pos rfl]
   rw [e]
   refine (rdecode11_none v N w h (by omega)).mono ?_
   rintro e w' ⟨rfl,rfl⟩
   exact ⟨_,rfl,World.ownsRow_nil _ _ _ _,Only.refl _ _⟩
  ·by_cases h3 : 3 < b.getD 0 0
   ·have e : DEC11 b N = ([],3):=by unfold DEC11;rw [if_neg hg,if_neg hne,if_pos h3]
    rw [e]
    refine (rdecode11_tag v b N w h (by omega) hne h3).mono ?_
    rintro e w' ⟨rfl,rfl⟩
    exact ⟨_,rfl,World.ownsRow_nil _ _ _ _,Only.refl _ _⟩
   ·exact rdecode11_bs v b N w h hr hl (by omega) hne (by omega)
end Go.Proofs.YthapipgaohlgdaaGreatDoor
