/- Several texts in one: Vr3, Cu, Cu2, Fm. -/
import Derived.Test.YthapipgaohlgdaaGreatDoorG2
import Derived.Test.YthapipgaohlgdaaGreatDoorG1


namespace Go.Proofs.YthapipgaohlgdaaGreatDoor
set_option maxRecDepth 100000
open Go.RowKit
theorem rd_at (xs : List Int) (k : Nat) (acc : Int) (h : k < xs.length) : rd k acc (xs.drop k) = if k = 9 ∧ 1 < xs.getD k 0 then (0,0,3) else if 128 ≤ xs.getD k 0 then rd (k + 1) (acc + xs.getD k 0 % 128 * 128 ^ k) (xs.drop (k + 1)) else if xs.getD k 0 = 0 ∧ 0 < k then (0,0,3) else (acc + xs.getD k 0 * 128 ^ k,(k : Int) + 1,0):=by
 rw [List.drop_eq_getElem_cons h,rd_cons,List.getD_eq_getElem?_getD,List.getElem?_eq_getElem h]
 rfl
theorem v_or_step (k acc : Nat) (c : Int) (hk : k ≤ 9) (hacc : acc < 128 ^ k) (c0 : 0 ≤ c) (c1 : c ≤ 255) (h9 : k = 9 → c ≤ 1) :
  bits .or .u64 (acc : Int) (IntKind.u64.wrap (IntKind.u64.wrap (bits .and .u8 c 127) * 2 ^ (7 * k))) = ((acc + (c % 128).toNat * 128 ^ k : Nat) : Int) ∧ acc + (c % 128).toNat * 128 ^ k < 128 ^ (k + 1):=by
 obtain ⟨m,rfl⟩:=Int.eq_ofNat_of_zero_le c0
 have e : ((m : Int) % 128).toNat = m % 128:=by omega
 rw [e,show (127 : Int) = ((127 : Nat) : Int) from rfl,u8_and_nat _ _ (by omega) (by omega),nat_mask7]
 have w1 : IntKind.u64.wrap ((m % 128 : Nat) : Int) = ((m % 128 : Nat) : Int):=by rw [IntKind.wrap_u64];omega
 have p1 : (2 : Nat) ^ (7 * k) = 128 ^ k:=by rw [Nat.pow_mul]
 have w2 : ((m % 128 : Nat) : Int) * 2 ^ (7 * k) = ((m % 128 * 128 ^ k : Nat) : Int):=by
  rw [← p1];simp
 have hlt : m % 128 * 128 ^ k < 18446744073709551616:=by
  rcases Nat.lt_or_ge k 9 with h | h
  ·have h1 : m % 128 * 128 ^ k ≤ 127 * 128 ^ k:=Nat.mul_le_mul_right _ (by omega)
   have h2 : 128 ^ k ≤ 128 ^ 8:=Nat.pow_le_pow_right (by omega) (by omega)
   have h3 : (128 : Nat) ^ 8 = 72057594037927936:=by decide
   omega
  ·have hk : k = 9:=by omega
   subst hk
   have:=h9 rfl
   have h3 : (128 : Nat) ^ 9 = 9223372036854775808:=by decide
   have h1 : m % 128 * 128 ^ 9 ≤ 1 * 128 ^ 9:=Nat.mul_le_mul_right _ (by omega)
   omega
 have hacc2 : acc < 18446744073709551616:=by
  have h2 : 128 ^ k ≤ 128 ^ 9:=Nat.pow_le_pow_right (by omega) (by omega)
  have h3 : (128 : Nat) ^ 9 = 9223372036854775808:=by decide
  omega
 have w3 : IntKind.u64.wrap ((m % 128 * 128 ^ k : Nat) : Int) = ((m % 128 * 128 ^ k : Nat) : Int):=by rw [IntKind.wrap_u64];omega
 rw [w1,w2,w3,u64_or_nat _ _ hacc2 hlt,Nat.or_comm,nat_join (7 * k) _ _ (by rw [p1];exact Nat.mul_mod_left _ _) (by rw [p1];exact hacc),Nat.add_comm]
 refine ⟨rfl,?_⟩
 rw [Nat.pow_succ]
 have h1 : m % 128 * 128 ^ k ≤ 127 * 128 ^ k:=Nat.mul_le_mul_right _ (by omega)
 omega
theorem val_step (k acc : Nat) (c : Int) (c0 : 0 ≤ c) (h : c < 128) : ((acc + (c % 128).toNat * 128 ^ k : Nat) : Int) = acc + c * 128 ^ k:=by
 obtain ⟨m,rfl⟩:=Int.eq_ofNat_of_zero_le c0
 have e : ((m : Int) % 128).toNat = m:=by omega
 rw [e];simp
theorem val_more (k acc : Nat) (c : Int) : ((acc + (c % 128).toNat * 128 ^ k : Nat) : Int) = acc + c % 128 * 128 ^ k:=by
 have e : ((c % 128).toNat : Int) = c % 128:=by omega
 simp [e]
def rdVal (r : Int × Int × Int) : Value:=.tuple #[.int .u64 r.1,.int .i64 r.2.1,.int .i64 r.2.2]
theorem ret_rd {a b c : Int} {r : Int × Int × Int} (h1 : a = r.1) (h2 : b = r.2.1) (h3 : c = r.2.2) : Ending.returned (.tuple #[.int .u64 a,.int .i64 b,.int .i64 c]) = .returned (rdVal r):=by
 rw [h1,h2,h3];rfl
set_option maxHeartbeats 800000 in
theorem read_bs (va : Value) (xs : List Int) (w : World) (ha : Bs .u8 w va xs) (hr : ∀ x ∈ xs,0 ≤ x ∧ x ≤ 255) :
  Calls Tryz.prog 80 #[va] w fun e w' => e = .returned (rdVal (rd 0 0 xs)) ∧ w = w':=by
 have HA:=hideIt ha
 have HR:=hideIt hr
 obtain ⟨aa,ca,rfl⟩:=ha.len
 obtain ⟨n,hn⟩ : ∃ n,n = xs.length:=⟨_,rfl⟩
 rw [← hn] at HA
 rw [← hn]
 have HN:=hideIt hn
 obtain ⟨R,hR⟩ : ∃ R,R = rd 0 0 xs:=⟨_,rfl⟩
 rw [← hR]
 have HRD:=hideIt hR
 clear ha hr hn hR
 go_enter Tryz.func80,Tryz.ntmps80
 go_wp2
 go_loop [5,10] (fun a i => ∃ (k : Nat) (acc : Nat),k ≤ n ∧ k ≤ 9 ∧ i = .int .i64 k ∧ a = .int .u64 acc ∧ acc < 128 ^ k ∧ rd k acc (xs.drop k) = R) (fun _ i => n - (intOf i).toNat)
 case atStart => exact ⟨0,0,by omega,by omega,rfl,rfl,by simp,by simpa using HRD.out.symm⟩
 case round =>
  obtain ⟨k,acc,hk,hk9,rfl,rfl,hacc,hrd⟩:=hrel
  by_cases hlt : k < n
  ·obtain ⟨b,off,cap',e1,hc⟩:=HA.out.at k (by rw [← HN.out];exact hlt)
   have ea : aa = some ⟨b,off,none⟩:=by simp at e1;exact e1.1
   subst ea
   clear e1
   have hcr:=HR.out (xs.getD k 0) (by rw [List.getD_eq_getElem?_getD,List.getElem?_eq_getElem (by rw [← HN.out];exact hlt)];simp)
   rw [rd_at xs k _ (by rw [← HN.out];exact hlt)] at hrd
   generalize xs.getD k 0 = c at hc hcr hrd
   have HD:=hideIt hrd
   have HACC:=hideIt hacc
   clear hrd hacc
   have i0 : (0 : Int) ≤ (k : Int):=by omega
   have i1 : (k : Int) < (n : Int):=by omega
   by_cases hF : k = 9 ∧ 1 < c
   ·obtain ⟨rfl,h1c⟩:=hF
    have hRR : R = (0,0,3):=by have:=HD.out;rw [if_pos ⟨rfl,h1c⟩] at this;exact this.symm
    subst hRR
    go_wp2
    go_ret3
    exact ⟨rfl,rfl⟩
   ·have OS:=hideIt (v_or_step k acc c hk9 HACC.out hcr.1 hcr.2 (by omega))
    by_cases h128 : 128 ≤ c
    ·have d9 : ((k : Int) == 9) = false:=by simp;omega
     go_wp2
     go_round
     case rel =>
      refine ⟨k + 1,acc + (c % 128).toNat * 128 ^ k,by omega,by omega,by go_num,by rw [OS.out.1],OS.out.2,?_⟩
      have:=HD.out
      rw [if_neg hF,if_pos h128] at this
      rw [val_more k acc c];exact this
     case measure => simp [intOf];omega
    ·by_cases h0 : c = 0 ∧ 0 < k
     ·obtain ⟨rfl,hk0⟩:=h0
      have hRR : R = (0,0,3):=by have:=HD.out;rw [if_neg hF,if_neg h128,if_pos ⟨rfl,hk0⟩] at this;exact this.symm
      subst hRR
      by_cases h9 : k = 9
      ·subst h9
       go_wp2
       go_ret3
       exact ⟨rfl,rfl⟩
      ·have d9 : ((k : Int) == 9) = false:=by simp;omega
       have dk : decide (0 < (k : Int)) = true:=by simp;omega
       go_wp2
       go_ret3
       exact ⟨rfl,rfl⟩
     ·have hRR : R = (acc + c * 128 ^ k,(k : Int) + 1,0):=by have:=HD.out;rw [if_neg hF,if_neg h128,if_neg h0] at this;exact this.symm
      subst hRR
      have VS:=hideIt (val_step k acc c hcr.1 (by omega))
      by_cases h9 : k = 9
      ·subst h9
       have hc0 : (c == 0) = false:=by simp;omega
       have O9:=hideIt (OS.out.1.trans VS.out)
       rw [show (2 : Int) ^ (7 * 9) = 9223372036854775808 by decide] at O9
       go_wp2
       go_ret3
       exact ⟨ret_rd O9.out rfl rfl,rfl⟩
      ·have d9 : ((k : Int) == 9) = false:=by simp;omega
       have O9:=hideIt (OS.out.1.trans VS.out)
       by_cases hc0 : c = 0
       ·have dk : decide (0 < (k : Int)) = false:=by simp;omega
        subst hc0
        go_wp2
        go_ret3
        exact ⟨ret_rd (O9.out.trans (by simp)) rfl rfl,rfl⟩
       ·have dc : (c == 0) = false:=by simp;omega
        go_wp2
        go_ret3
        exact ⟨ret_rd O9.out rfl rfl,rfl⟩
  ·have hkn : k = n:=by omega
   subst hkn
   have hRR : R = (0,0,2):=by rw [← hrd,List.drop_of_length_le (by rw [← HN.out];omega)];rfl
   subst hRR
   clear hrd hacc
   go_wp2
   go_ret3
   exact ⟨rfl,rfl⟩
theorem read_as (va : Value) (xs : List Int) (w : World) {a b c : Int} (h : rd 0 0 xs = (a,b,c)) (ha : Bs .u8 w va xs) (hr : ∀ x ∈ xs,0 ≤ x ∧ x ≤ 255) :
  Calls Tryz.prog 80 #[va] w fun e w' => e = .returned (.tuple #[.int .u64 a,.int .i64 b,.int .i64 c]) ∧ w = w':=by
 have:=read_bs va xs w ha hr
 rw [h] at this
 exact this
end Go.Proofs.YthapipgaohlgdaaGreatDoor


namespace Go.Proofs.YthapipgaohlgdaaGreatDoor
set_option maxRecDepth 100000
open Go.RowKit
structure CurAt (T : TypeId) (w : World) (R : Nat) (v : Value) (ys : List Int) : Prop where
 bs : Bs .u8 w v ys
 rng : ∀ y ∈ ys,0 ≤ y ∧ y ≤ 255
 cell : w.heap[R]? = some (.cells #[v] T (0,0))
 ap : v.ownBlock ≠ some R
 len : ys.length ≤ 1000000000000
theorem CurAt.keep {T : TypeId} {w w' : World} {R : Nat} {v : Value} {ys : List Int} (h : CurAt T w R v ys) {S : Nat → Prop} (ho : Only S w w') (hR : ¬ S R) (hv : ∀ k,v.ownBlock = some k → ¬ S k) : CurAt T w' R v ys :=
 ⟨h.bs.keep ho hv,h.rng,ho.heap h.cell hR,h.ap,h.len⟩
theorem CurAt.form {T : TypeId} {w : World} {R : Nat} {v : Value} {ys : List Int} (h : CurAt T w R v ys) : ∃ ao cap,v = .slice ao ys.length cap:=by
 obtain ⟨ao,cap,rfl,_⟩:=h.bs
 exact ⟨ao,cap,rfl⟩
theorem one_cell {w : World} {R : Nat} {v : Value} {T : TypeId} (h : w.heap[R]? = some (.cells #[v] T (0,0))) : w.cell? ⟨R,0,none⟩ = some v ∧ w.frozen? ⟨R,0,none⟩ = false :=
 ⟨by simp [World.cell?,h],by simp [World.frozen?,h]⟩
theorem heap_one {w : World} {R : Nat} {v : Value} {T : TypeId} (h : w.heap[R]? = some (.cells #[v] T (0,0))) (u : Value) : (w.setCell ⟨R,0,none⟩ u).heap[R]? = some (.cells #[u] T (0,0)):=by
 have h0:=heap_setCell_same w R 0 #[v] T u h
 simpa using h0
set_option maxHeartbeats 400000 in
theorem new_bs (v : Value) (ys : List Int) (w : World) (h : Bs .u8 w v ys) (hr : ∀ y ∈ ys,0 ≤ y ∧ y ≤ 255) (hl : ys.length ≤ 1000000000000) :
  Calls Tryz.prog 33 #[v] w fun e w' => ∃ R v',e = .returned (.pointer (some ⟨R,0,none⟩)) ∧ CurAt 92 w' R v' ys ∧ Only (fun _ => False) w w' ∧ w.heap.size ≤ R ∧ R < w'.heap.size ∧ (∀ k,v'.ownBlock = some k → w.heap.size ≤ k ∧ k < w'.heap.size):=by
 have HB:=hideIt h
 have HR:=hideIt hr
 clear h hr
 go_enter Tryz.func33,Tryz.ntmps33
 go_wp2_with fail
 refine (clone_bs v ys _ HB.out (by omega)).mono ?_
 rintro e w1 ⟨v',rfl,hown,ho⟩
 have hbs:=Bs.of_own hown
 have hlt:=hown.lt
 obtain ⟨ao,cap,rfl,_⟩:=id hbs
 have HBS:=hideIt hbs
 have HLT:=hideIt hlt
 have HO:=hideIt ho
 clear hown ho hbs hlt
 go_wp2
 go_ret
 have oa : Only (fun _ => False) w1 (w1.alloc (.cells #[.slice ao ys.length cap] 92)):=(Only.refl _ _).alloc _
 refine ⟨w1.heap.size,.slice ao ys.length cap,rfl,⟨HBS.out.keep oa (fun _ _ f => f),HR.out,heap_alloc_new w1 _,?_,hl⟩,HO.out.trans oa (fun _ _ f => f),HO.out.size,by simp,?_⟩
 ·intro e
  have:=(HLT.out _ e).2
  omega
 ·intro k hk
  have:=HLT.out k hk
  simp
  omega
set_option maxHeartbeats 400000 in
theorem left_any (R m cap : Nat) (ao : Option Addr) (w : World) (h0 : w.cell? ⟨R,0,none⟩ = some (.slice ao m cap)) :
  Calls Tryz.prog 81 #[.pointer (some ⟨R,0,none⟩)] w fun e w' => e = .returned (.int .i64 m) ∧ w = w':=by
 go_enter Tryz.func81,Tryz.ntmps81
 go_wp2
 go_ret
 exact ⟨rfl,rfl⟩
theorem own_any (ao : Option Addr) (m c m' c' : Nat) : (Value.slice ao m c).ownBlock = (Value.slice ao m' c').ownBlock:=by cases ao <;> rfl
set_option maxHeartbeats 400000 in
theorem skip_any (R n m cap : Nat) (ao : Option Addr) (w : World) (h0 : w.cell? ⟨R,0,none⟩ = some (.slice ao m cap)) (f0 : w.frozen? ⟨R,0,none⟩ = false) (h1 : n ≤ m) (h2 : m ≤ cap) :
  Calls Tryz.prog 82 #[.pointer (some ⟨R,0,none⟩),.int .i64 n] w fun e w' => e = .returned (.slice ao n cap) ∧ w' = w.setCell ⟨R,0,none⟩ (.slice (if cap = n then ao else ao.map (fun x => x.add n)) (m - n) (cap - n)):=by
 have i0 : (0 : Int) ≤ (n : Int):=by omega
 have i1 : (n : Int) ≤ (m : Int):=by omega
 have i2 : (n : Int) ≤ (cap : Int):=by omega
 by_cases hc : cap = n
 ·subst hc
  go_enter Tryz.func82,Tryz.ntmps82
  go_wp2
  go_ret
  simp
 ·go_enter Tryz.func82,Tryz.ntmps82
  go_wp2
  go_ret
  simp
theorem skip_cur {w : World} {R : Nat} {v : Value} {ys : List Int} (h : CurAt 92 w R v ys) (n : Nat) (hn : n ≤ ys.length) :
  Calls Tryz.prog 82 #[.pointer (some ⟨R,0,none⟩),.int .i64 n] w fun e w' => ∃ ao cap v2,e = .returned (.slice ao n cap) ∧ Bs .u8 w' (.slice ao n cap) (ys.take n) ∧ (Value.slice ao n cap).ownBlock = v.ownBlock ∧ CurAt 92 w' R v2 (ys.drop n) ∧ v2.ownBlock = v.ownBlock ∧ Only (fun k => k = R) w w':=by
 obtain ⟨ao,cap,rfl,hcap,hr⟩:=id h.bs
 refine (skip_any R n ys.length cap ao w (one_cell h.cell).1 (one_cell h.cell).2 hn hcap).mono ?_
 rintro e w' ⟨rfl,rfl⟩
 have ho : Only (fun k => k = R) w (w.setCell ⟨R,0,none⟩ (.slice (if cap = n then ao else ao.map (fun x => x.add n)) (ys.length - n) (cap - n))):=Only.setCell (S:=fun k => k = R) (p:=⟨R,0,none⟩) (Only.refl _ _) (fun _ => rfl) _
 have hb2 : (Value.slice (if cap = n then ao else ao.map (fun x => x.add n)) (ys.length - n) (cap - n)).ownBlock = (Value.slice ao ys.length cap).ownBlock:=by
  split
  ·exact own_any _ _ _ _ _
  ·exact own_cut _ _ _ _ _ _
 have hne : ∀ k,(Value.slice ao ys.length cap).ownBlock = some k → ¬ k = R:=fun k hk e => h.ap (by rw [← e];exact hk)
 have hd : Bs .u8 w (.slice (if cap = n then ao else ao.map (fun x => x.add n)) (ys.length - n) (cap - n)) (ys.drop n):=by
  split
  ·rename_i hc
   subst hc
   rw [Nat.sub_self]
   exact h.bs.cut0 hn
  ·exact h.bs.cut hn
 refine ⟨ao,cap,_,rfl,(h.bs.head hn).keep ho (fun k hk => hne k (by rw [own_any ao ys.length cap n cap];exact hk)),own_any _ _ _ _ _,⟨hd.keep ho (fun k hk => hne k (by rw [← hb2];exact hk)),fun y hy => h.rng y (List.mem_of_mem_drop hy),heap_one h.cell _,by rw [hb2];exact h.ap,?_⟩,hb2,ho⟩
 have:=h.len
 rw [List.length_drop];omega
theorem left_cur {w : World} {R : Nat} {v : Value} {ys : List Int} (h : CurAt 92 w R v ys) :
  Calls Tryz.prog 81 #[.pointer (some ⟨R,0,none⟩)] w fun e w' => e = .returned (.int .i64 ys.length) ∧ w = w':=by
 obtain ⟨ao,cap,rfl⟩:=h.form
 exact left_any R ys.length cap ao w (one_cell h.cell).1
set_option maxHeartbeats 400000 in
theorem Left_cur {w : World} {R : Nat} {v : Value} {ys : List Int} (h : CurAt 92 w R v ys) :
  Calls Tryz.prog 160 #[.pointer (some ⟨R,0,none⟩)] w fun e w' => e = .returned (.int .i64 ys.length) ∧ w = w':=by
 have A:=hideIt (left_cur h)
 clear h
 go_enter Tryz.func160,Tryz.ntmps160
 go_wp2_with fail
 refine A.out.mono ?_
 rintro e w1 ⟨rfl,rfl⟩
 go_wp2
 go_ret
 exact ⟨rfl,rfl⟩
def endV (ys : List Int) : Int:=if 0 < ys.length then 3 else 0
set_option maxHeartbeats 400000 in
theorem end_cur {w : World} {R : Nat} {v : Value} {ys : List Int} (h : CurAt 92 w R v ys) :
  Calls Tryz.prog 53 #[.pointer (some ⟨R,0,none⟩)] w fun e w' => e = .returned (.int .i64 (endV ys)) ∧ w = w':=by
 have A:=hideIt (left_cur h)
 clear h
 by_cases h0 : 0 < ys.length
 ·have d0 : decide (0 < (ys.length : Int)) = true:=by simp;omega
  have HE : Hid (endV ys = 3):=if_pos h0
  go_enter Tryz.func53,Tryz.ntmps53
  go_wp2_with fail
  refine A.out.mono ?_
  rintro e w1 ⟨rfl,rfl⟩
  go_wp2
  go_ret
  exact ⟨by rw [HE.out];rfl,rfl⟩
 ·have d0 : decide (0 < (ys.length : Int)) = false:=decide_eq_false (by omega)
  have HE : Hid (endV ys = 0):=if_neg h0
  go_enter Tryz.func53,Tryz.ntmps53
  go_wp2_with fail
  refine A.out.mono ?_
  rintro e w1 ⟨rfl,rfl⟩
  go_wp2
  go_ret
  exact ⟨by rw [HE.out];rfl,rfl⟩
set_option maxHeartbeats 400000 in
theorem next_neg (R : Nat) (n : Int) (w : World) (h : n < 0) : Calls Tryz.prog 79 #[.pointer (some ⟨R,0,none⟩),.int .i64 n] w fun e w' => e = .returned (.tuple #[.slice none 0 0,.int .i64 1]) ∧ w = w':=by
 go_enter Tryz.func79,Tryz.ntmps79
 go_wp2
 go_ret2
 exact ⟨rfl,rfl⟩
set_option maxHeartbeats 400000 in
theorem next_short {w : World} {R : Nat} {v : Value} {ys : List Int} (h : CurAt 92 w R v ys) (n : Int) (h0 : 0 ≤ n) (h1 : (ys.length : Int) < n) :
  Calls Tryz.prog 79 #[.pointer (some ⟨R,0,none⟩),.int .i64 n] w fun e w' => e = .returned (.tuple #[.slice none 0 0,.int .i64 2]) ∧ w = w':=by
 have A:=hideIt (left_cur h)
 clear h
 have d0 : decide (n < 0) = false:=by simp;omega
 go_enter Tryz.func79,Tryz.ntmps79
 go_wp2_with fail
 refine A.out.mono ?_
 rintro e w1 ⟨rfl,rfl⟩
 go_wp2
 go_ret2
 exact ⟨rfl,rfl⟩
set_option maxHeartbeats 400000 in
theorem next_ok {w : World} {R : Nat} {v : Value} {ys : List Int} (h : CurAt 92 w R v ys) (n : Nat) (h1 : n ≤ ys.length) :
  Calls Tryz.prog 79 #[.pointer (some ⟨R,0,none⟩),.int .i64 n] w fun e w' => ∃ ao cap v2,e = .returned (.tuple #[.slice ao n cap,.int .i64 0]) ∧ Bs .u8 w' (.slice ao n cap) (ys.take n) ∧ (Value.slice ao n cap).ownBlock = v.ownBlock ∧ CurAt 92 w' R v2 (ys.drop n) ∧ v2.ownBlock = v.ownBlock ∧ Only (fun k => k = R) w w':=by
 have A:=hideIt (left_cur h)
 have B:=hideIt (skip_cur h n h1)
 clear h
 have d0 : decide ((n : Int) < 0) = false:=by simp
 have d1 : decide ((ys.length : Int) < (n : Int)) = false:=by simp;omega
 go_enter Tryz.func79,Tryz.ntmps79
 go_wp2_with fail
 refine A.out.mono ?_
 rintro e w1 ⟨rfl,rfl⟩
 go_wp2_with fail
 refine B.out.mono ?_
 rintro e w1 ⟨ao,cap,v2,rfl,hr⟩
 have HR:=hideIt hr
 clear hr
 go_wp2
 go_ret2
 exact ⟨ao,cap,v2,rfl,HR.out⟩
end Go.Proofs.YthapipgaohlgdaaGreatDoor


namespace Go.Proofs.YthapipgaohlgdaaGreatDoor
set_option maxRecDepth 100000
open Go.RowKit
theorem own_nil (N : Nat) : ∀ k,(Value.slice none 0 0).ownBlock = some k → N ≤ k:=fun k hk => by cases hk
def num (l : List Int) : Nat:=l.foldl (fun a y => 256 * a + y.toNat) 0
theorem num_snoc (l : List Int) (y : Int) : num (l ++ [y]) = 256 * num l + y.toNat:=by simp [num]
theorem num_lt (l : List Int) (hr : ∀ y ∈ l,0 ≤ y ∧ y ≤ 255) : num l < 256 ^ l.length:=by
 induction h : l.length generalizing l with
 | zero =>
  have : l = []:=List.eq_nil_of_length_eq_zero h
  subst this;simp [num]
 | succ n ih =>
  have hne : l ≠ []:=by intro h0;subst h0;simp at h
  obtain ⟨t,b,rfl⟩ : ∃ t b,l = t ++ [b]:=⟨l.dropLast,l.getLast hne,(List.dropLast_concat_getLast hne).symm⟩
  have:=ih t (fun y hy => hr y (by simp [hy])) (by simp at h;omega)
  have hb:=hr b (by simp)
  rw [num_snoc,Nat.pow_succ]
  omega
theorem take_snoc (l : List Int) (k : Nat) (h : k < l.length) : l.take (k + 1) = l.take k ++ [l.getD k 0]:=by
 rw [List.take_succ_eq_append_getElem h,List.getD_eq_getElem?_getD,List.getElem?_eq_getElem h];rfl
theorem pow256 {k : Nat} (h : k ≤ 7) : 256 ^ k ≤ 72057594037927936:=by
 have h1 : 256 ^ k ≤ 256 ^ 7:=Nat.pow_le_pow_right (by omega) h
 have h2 : (256 : Nat) ^ 7 = 72057594037927936:=by decide
 omega
theorem num_step (zs : List Int) (k : Nat) (hr : ∀ y ∈ zs,0 ≤ y ∧ y ≤ 255) (h8 : zs.length ≤ 8) (h : k < zs.length) :
  num (zs.take k) < 72057594037927936 ∧ bits .or .u64 ((num (zs.take k) : Int) * 256) (zs.getD k 0) = (num (zs.take (k + 1)) : Int):=by
 have hl:=num_lt (zs.take k) (fun y hy => hr y (List.mem_of_mem_take hy))
 rw [List.length_take,Nat.min_eq_left (by omega)] at hl
 have hp:=pow256 (k:=k) (by omega)
 have hy:=hr (zs.getD k 0) (by rw [List.getD_eq_getElem?_getD,List.getElem?_eq_getElem h];simp)
 rw [take_snoc zs k h,num_snoc]
 generalize zs.getD k 0 = y at hy
 generalize num (zs.take k) = a at hl
 obtain ⟨m,rfl⟩:=Int.eq_ofNat_of_zero_le hy.1
 have e2 : ((a : Int) * 256) = ((256 * a : Nat) : Int):=by omega
 refine ⟨by omega,?_⟩
 rw [e2,u64_or_nat _ _ (by omega) (by omega),nat_join 8 _ _ (by omega) (by omega),Int.toNat_natCast]
def sByte (ys : List Int) : Int × Nat × Int:=if ys.length = 0 then (0,0,2) else (ys.getD 0 0,1,0)
def sBytes (n : Int) (ys : List Int) : List Int × Nat × Int:=if n < 0 then ([],0,1) else if (ys.length : Int) < n then ([],0,2) else (ys.take n.toNat,n.toNat,0)
def sFixed (n : Int) (ys : List Int) : Int × Nat × Int:=if n < 0 ∨ 8 < n then (0,0,1) else if (ys.length : Int) < n then (0,0,2) else (num (ys.take n.toNat),n.toNat,0)
def sVarint (ys : List Int) : Int × Nat × Int:=((rd 0 0 ys).1,(rd 0 0 ys).2.1.toNat,(rd 0 0 ys).2.2)
def sBlock (most : Int) (ys : List Int) : List Int × Nat × Int :=
 if most < 0 then ([],0,1) else if (sVarint ys).2.2 ≠ 0 then ([],0,(sVarint ys).2.2) else if most < (sVarint ys).1 then ([],0,4)
 else if (ys.length : Int) - (sVarint ys).2.1 < (sVarint ys).1 then ([],0,2) else ((ys.drop (sVarint ys).2.1).take (sVarint ys).1.toNat,(sVarint ys).2.1 + (sVarint ys).1.toNat,0)
theorem rd_cases (ys : List Int) (hr : ∀ y ∈ ys,0 ≤ y ∧ y ≤ 255) : (∃ c,rd 0 0 ys = (0,0,c) ∧ (c = 2 ∨ c = 3)) ∨ (∃ a k : Nat,rd 0 0 ys = ((a : Int),(k : Int),0) ∧ 1 ≤ k ∧ k ≤ ys.length ∧ k ≤ 10 ∧ a < 18446744073709551616 ∧ gs a = ys.take k):=by
 obtain ⟨r,n,c,h⟩ : ∃ r n c,rd 0 0 ys = (r,n,c):=⟨_,_,_,rfl⟩
 rcases rd_err ys 0 0 with h0 | ⟨h1,h2,h3⟩
 ·right
  rw [h] at h0
  simp at h0
  subst h0
  obtain ⟨a,k,e1,e2,k1,k2,hg,_,hv⟩:=rd_ok ys 0 0 r n (by omega) hr h
  simp at e1 e2 hv
  subst e1;subst e2
  refine ⟨a,k,h,k1,k2,?_,hv,hg⟩
  have h10:=gs_le10 (v:=a) hv
  rw [hg,List.length_take] at h10
  omega
 ·left
  rw [h] at h1 h2 h3
  simp at h1 h2 h3
  subst h1;subst h2
  exact ⟨c,h,h3⟩
set_option maxHeartbeats 400000 in
theorem byte_cur {w : World} {R : Nat} {v : Value} {ys : List Int} (h : CurAt 92 w R v ys) :
  Calls Tryz.prog 48 #[.pointer (some ⟨R,0,none⟩)] w fun e w' => e = .returned (.tuple #[.int .u8 (sByte ys).1,.int .i64 (sByte ys).2.2]) ∧
   ∃ v2,CurAt 92 w' R v2 (ys.drop (sByte ys).2.1) ∧ v2.ownBlock = v.ownBlock ∧ Only (fun k => k = R) w w':=by
 by_cases h0 : ys.length = 0
 ·have HS : Hid (sByte ys = (0,0,2)):=if_pos h0
  have A:=hideIt (next_short h 1 (by omega) (by omega))
  have HC:=hideIt h
  clear h
  go_enter Tryz.func48,Tryz.ntmps48
  go_wp2_with fail
  refine A.out.mono ?_
  rintro e w1 ⟨rfl,rfl⟩
  go_wp2
  go_ret2
  rw [HS.out]
  exact ⟨rfl,v,HC.out,rfl,Only.refl _ _⟩
 ·have HS : Hid (sByte ys = (ys.getD 0 0,1,0)):=if_neg h0
  have A:=hideIt (next_ok h 1 (by omega))
  clear h
  go_enter Tryz.func48,Tryz.ntmps48
  go_wp2_with fail
  refine A.out.mono ?_
  rintro e w1 ⟨ao,cap,v2,rfl,hb,_,hc,ho,hon⟩
  obtain ⟨b,off,cap',e1,hx⟩:=hb.at 0 (by rw [List.length_take];omega)
  have ea : ao = some ⟨b,off,none⟩:=by simp at e1;exact e1.1
  subst ea
  clear e1
  have hg : (ys.take 1).getD 0 0 = ys.getD 0 0:=by
   rw [List.getD_eq_getElem?_getD,List.getD_eq_getElem?_getD,List.getElem?_take,if_pos (by omega)]
  rw [hg,Nat.add_zero] at hx
  generalize ys.getD 0 0 = y at hx HS
  have HR:=hideIt (And.intro hc (And.intro ho hon))
  clear hb hc ho hon A
  go_wp2
  go_ret2
  rw [HS.out]
  exact ⟨rfl,v2,HR.out⟩
set_option maxHeartbeats 400000 in
theorem fixed_cur {w : World} {R : Nat} {v : Value} {ys : List Int} (h : CurAt 92 w R v ys) (n : Int) :
  Calls Tryz.prog 125 #[.pointer (some ⟨R,0,none⟩),.int .i64 n] w fun e w' => e = .returned (.tuple #[.int .u64 (sFixed n ys).1,.int .i64 (sFixed n ys).2.2]) ∧
   ∃ v2,CurAt 92 w' R v2 (ys.drop (sFixed n ys).2.1) ∧ v2.ownBlock = v.ownBlock ∧ Only (fun k => k = R) w w':=by
 by_cases h8 : 8 < n
 ·have HS : Hid (sFixed n ys = (0,0,1)):=if_pos (.inr h8)
  have HC:=hideIt h
  clear h
  go_enter Tryz.func125,Tryz.ntmps125
  go_wp2
  go_ret2
  rw [HS.out]
  exact ⟨rfl,v,HC.out,rfl,Only.refl _ _⟩
 have d8 : decide (8 < n) = false:=decide_eq_false h8
 by_cases h0 : n < 0
 ·have HS : Hid (sFixed n ys = (0,0,1)):=if_pos (.inl h0)
  have A:=hideIt (next_neg R n w h0)
  have HC:=hideIt h
  clear h
  go_enter Tryz.func125,Tryz.ntmps125
  go_wp2_with fail
  refine A.out.mono ?_
  rintro e w1 ⟨rfl,rfl⟩
  go_wp2
  go_ret2
  rw [HS.out]
  exact ⟨rfl,v,HC.out,rfl,Only.refl _ _⟩
 obtain ⟨n,rfl⟩:=Int.eq_ofNat_of_zero_le (Int.not_lt.1 h0)
 by_cases hs : (ys.length : Int) < (n : Int)
 ·have HS : Hid (sFixed n ys = (0,0,2)):=by
   simp only [Hid,sFixed]
   rw [if_neg (by omega),if_pos hs]
  have A:=hideIt (next_short h n (by omega) hs)
  have HC:=hideIt h
  clear h
  go_enter Tryz.func125,Tryz.ntmps125
  go_wp2_with fail
  refine A.out.mono ?_
  rintro e w1 ⟨rfl,rfl⟩
  go_wp2
  go_ret2
  rw [HS.out]
  exact ⟨rfl,v,HC.out,rfl,Only.refl _ _⟩
 ·have HS : Hid (sFixed n ys = ((num (ys.take n) : Int),n,0)):=by
   simp only [Hid,sFixed]
   rw [if_neg (by omega),if_neg hs]
   rfl
  have A:=hideIt (next_ok h n (by omega))
  have HZR : Hid (∀ y ∈ ys.take n,0 ≤ y ∧ y ≤ 255):=fun y hy => h.rng y (List.mem_of_mem_take hy)
  have HZL : Hid ((ys.take n).length = n):=by simp only [Hid,List.length_take];omega
  clear h
  go_enter Tryz.func125,Tryz.ntmps125
  go_wp2_with fail
  refine A.out.mono ?_
  rintro e w1 ⟨ao,cap,v2,rfl,hb,_,hc,ho,hon⟩
  have HB:=hideIt hb
  have HR:=hideIt (And.intro hc (And.intro ho hon))
  clear hb hc ho hon A
  generalize ys.take n = zs at HB HZR HZL HS
  go_wp2
  go_loop [8,24] (fun a i => ∃ k : Nat,k ≤ n ∧ i = .int .i64 k ∧ a = .int .u64 (num (zs.take k))) (fun _ i => n - (intOf i).toNat)
  case atStart => exact ⟨0,Nat.zero_le _,rfl,rfl⟩
  case round =>
   obtain ⟨k,hk,rfl,rfl⟩:=hrel
   by_cases hlt : k < n
   ·obtain ⟨b,off,cap',e1,hx⟩:=HB.out.at k (by rw [HZL.out];exact hlt)
    have ea : ao = some ⟨b,off,none⟩:=by simp at e1;exact e1.1
    subst ea
    clear e1
    obtain ⟨ha,hst⟩:=num_step zs k HZR.out (by rw [HZL.out];omega) (by rw [HZL.out];exact hlt)
    have hy:=HZR.out (zs.getD k 0) (by rw [List.getD_eq_getElem?_getD,List.getElem?_eq_getElem (by rw [HZL.out];exact hlt)];simp)
    generalize zs.getD k 0 = y at hx hst hy
    have i0 : (0 : Int) ≤ (k : Int):=by omega
    have i1 : (k : Int) < (n : Int):=by omega
    have HST:=hideIt hst
    have hsh : (num (zs.take k) : Int) * 256 ≤ 18446744073709551615:=by omega
    generalize num (zs.take k) = a at HST ha hsh
    clear hst
    go_wp2
    go_round
    case rel => exact ⟨k + 1,by omega,by go_num,by rw [HST.out]⟩
    case measure => simp [intOf];omega
   ·have hkn : k = n:=by omega
    subst hkn
    go_wp2
    go_ret2
    rw [HS.out,List.take_of_length_le (by rw [HZL.out];omega)]
    exact ⟨rfl,v2,HR.out⟩
set_option maxHeartbeats 400000 in
theorem varint_cur {w : World} {R : Nat} {v : Value} {ys : List Int} (h : CurAt 92 w R v ys) :
  Calls Tryz.prog 84 #[.pointer (some ⟨R,0,none⟩)] w fun e w' => e = .returned (.tuple #[.int .u64 (sVarint ys).1,.int .i64 (sVarint ys).2.2]) ∧
   ∃ v2,CurAt 92 w' R v2 (ys.drop (sVarint ys).2.1) ∧ v2.ownBlock = v.ownBlock ∧ Only (fun k => k = R) w w':=by
 obtain ⟨ao,cap,rfl⟩:=h.form
 have c0:=(one_cell h.cell).1
 rcases rd_cases ys h.rng with ⟨c,hrd,hc⟩ | ⟨a,k,hrd,_,hk,_,_,_⟩
 ·have HS : Hid (sVarint ys = (0,0,c)):=by simp only [Hid,sVarint];rw [hrd];rfl
  have A:=hideIt (read_as _ ys w hrd h.bs h.rng)
  have HC:=hideIt h
  have dc : (c != 0) = true:=by simp;omega
  clear h hrd
  go_enter Tryz.func84,Tryz.ntmps84
  go_wp2_with fail
  refine A.out.mono ?_
  rintro e w1 ⟨rfl,rfl⟩
  go_wp2
  go_ret2
  rw [HS.out]
  exact ⟨rfl,_,HC.out,rfl,Only.refl _ _⟩
 ·have HS : Hid (sVarint ys = ((a : Int),k,0)):=by simp only [Hid,sVarint];rw [hrd];rfl
  have A:=hideIt (read_as _ ys w hrd h.bs h.rng)
  have B:=hideIt (skip_cur h k hk)
  clear h hrd
  go_enter Tryz.func84,Tryz.ntmps84
  go_wp2_with fail
  refine A.out.mono ?_
  rintro e w1 ⟨rfl,rfl⟩
  go_wp2_with fail
  refine B.out.mono ?_
  rintro e w1 ⟨ao',cap',v2,rfl,_,_,hc,ho,hon⟩
  have HR:=hideIt (And.intro hc (And.intro ho hon))
  clear hc ho hon A B c0
  go_wp2
  go_ret2
  rw [HS.out]
  exact ⟨rfl,v2,HR.out⟩
set_option maxHeartbeats 400000 in
theorem bytes_cur {w : World} {R : Nat} {v : Value} {ys : List Int} (h : CurAt 92 w R v ys) (n : Int) :
  Calls Tryz.prog 159 #[.pointer (some ⟨R,0,none⟩),.int .i64 n] w fun e w' => ∃ v1,e = .returned (.tuple #[v1,.int .i64 (sBytes n ys).2.2]) ∧ Bs .u8 w' v1 (sBytes n ys).1 ∧ NoCap v1 ∧ (∀ k,v1.ownBlock = some k → w.heap.size ≤ k) ∧
   ∃ v2,CurAt 92 w' R v2 (ys.drop (sBytes n ys).2.1) ∧ v2.ownBlock = v.ownBlock ∧ Only (fun k => k = R) w w':=by
 by_cases h0 : n < 0
 ·have HS : Hid (sBytes n ys = ([],0,1)):=if_pos h0
  have A:=hideIt (next_neg R n w h0)
  have HC:=hideIt h
  clear h
  go_enter Tryz.func159,Tryz.ntmps159
  go_wp2_with fail
  refine A.out.mono ?_
  rintro e w1 ⟨rfl,rfl⟩
  go_wp2
  go_ret2
  rw [HS.out]
  exact ⟨.slice none 0 0,rfl,Bs.nil _ _,NoCap.nil,own_nil _,v,HC.out,rfl,Only.refl _ _⟩
 obtain ⟨n,rfl⟩:=Int.eq_ofNat_of_zero_le (Int.not_lt.1 h0)
 by_cases hs : (ys.length : Int) < (n : Int)
 ·have HS : Hid (sBytes n ys = ([],0,2)):=by
   simp only [Hid,sBytes]
   rw [if_neg h0,if_pos hs]
  have A:=hideIt (next_short h n (by omega) hs)
  have HC:=hideIt h
  clear h
  go_enter Tryz.func159,Tryz.ntmps159
  go_wp2_with fail
  refine A.out.mono ?_
  rintro e w1 ⟨rfl,rfl⟩
  go_wp2
  go_ret2
  rw [HS.out]
  exact ⟨.slice none 0 0,rfl,Bs.nil _ _,NoCap.nil,own_nil _,v,HC.out,rfl,Only.refl _ _⟩
 ·have HS : Hid (sBytes n ys = (ys.take n,n,0)):=by
   simp only [Hid,sBytes]
   rw [if_neg h0,if_neg hs]
   rfl
  have A:=hideIt (next_ok h n (by omega))
  have hlen:=h.len
  have hRw : R < w.heap.size:=(Array.getElem?_eq_some_iff.1 h.cell).1
  clear h
  go_enter Tryz.func159,Tryz.ntmps159
  go_wp2_with fail
  refine A.out.mono ?_
  rintro e w1 ⟨ao,cap,v2,rfl,hb,_,hc,ho,hon⟩
  have B:=hideIt (clone_bs _ _ w1 hb (by rw [List.length_take];omega))
  have HR:=hideIt (And.intro hc (And.intro ho hon))
  clear hb hc ho hon A
  go_wp2_with fail
  refine B.out.mono ?_
  rintro e w2 ⟨v1,rfl,hown,hon2⟩
  have F : Hid (Bs .u8 w2 v1 (ys.take n) ∧ NoCap v1 ∧ (∀ k,v1.ownBlock = some k → w.heap.size ≤ k) ∧ CurAt 92 w2 R v2 (ys.drop n) ∧ v2.ownBlock = v.ownBlock ∧ Only (fun k => k = R) w w2):=by
   obtain ⟨hc,ho,hon⟩:=HR.out
   exact ⟨Bs.of_own hown,NoCap.of_own hown,fun k hk => Nat.le_trans hon.size (hown.lt k hk).1,hc.keep hon2 (fun f => f) (fun _ _ f => f),ho,hon.trans hon2 (fun _ _ f => f.elim)⟩
  clear hown hon2 B HR
  go_wp2
  go_ret2
  rw [HS.out]
  obtain ⟨f1,f2,f3,f4⟩:=F.out
  exact ⟨v1,rfl,f1,f2,f3,v2,f4⟩
set_option maxHeartbeats 1000000 in
theorem block_cur {w : World} {R : Nat} {v : Value} {ys : List Int} (h : CurAt 92 w R v ys) (most : Int) (hm : most ≤ 9223372036854775807) :
  Calls Tryz.prog 50 #[.pointer (some ⟨R,0,none⟩),.int .i64 most] w fun e w' => ∃ v1,e = .returned (.tuple #[v1,.int .i64 (sBlock most ys).2.2]) ∧ Bs .u8 w' v1 (sBlock most ys).1 ∧ NoCap v1 ∧ (∀ k,v1.ownBlock = some k → w.heap.size ≤ k) ∧
   ∃ v2,CurAt 92 w' R v2 (ys.drop (sBlock most ys).2.1) ∧ v2.ownBlock = v.ownBlock ∧ Only (fun k => k = R) w w':=by
 by_cases h0 : most < 0
 ·have HS : Hid (sBlock most ys = ([],0,1)):=if_pos h0
  have HC:=hideIt h
  clear h
  go_enter Tryz.func50,Tryz.ntmps50
  go_wp2
  go_ret2
  rw [HS.out]
  exact ⟨.slice none 0 0,rfl,Bs.nil _ _,NoCap.nil,own_nil _,v,HC.out,rfl,Only.refl _ _⟩
 have d0 : decide (most < 0) = false:=decide_eq_false h0
 obtain ⟨ao,cap,rfl⟩:=h.form
 have c0:=(one_cell h.cell).1
 have hlen:=h.len
 rcases rd_cases ys h.rng with ⟨c,hrd,hc⟩ | ⟨a,k,hrd,hk1,hk,_,ha,_⟩
 ·have HV : sVarint ys = (0,0,c):=by simp only [sVarint];rw [hrd];rfl
  have HS : Hid (sBlock most ys = ([],0,c)):=by
   simp only [Hid,sBlock]
   rw [if_neg h0,HV,if_pos (by simp;omega)]
  have A:=hideIt (read_as _ ys w hrd h.bs h.rng)
  have HC:=hideIt h
  have dc : (c != 0) = true:=by simp;omega
  clear h hrd HV
  go_enter Tryz.func50,Tryz.ntmps50
  go_wp2_with fail
  refine A.out.mono ?_
  rintro e w1 ⟨rfl,rfl⟩
  go_wp2
  go_ret2
  rw [HS.out]
  exact ⟨.slice none 0 0,rfl,Bs.nil _ _,NoCap.nil,own_nil _,_,HC.out,rfl,Only.refl _ _⟩
 ·have HV : sVarint ys = ((a : Int),k,0):=by simp only [sVarint];rw [hrd];rfl
  have A:=hideIt (read_as _ ys w hrd h.bs h.rng)
  by_cases h4 : most < (a : Int)
  ·have HS : Hid (sBlock most ys = ([],0,4)):=by
    simp only [Hid,sBlock]
    rw [if_neg h0,HV,if_neg (by simp),if_pos h4]
   have HC:=hideIt h
   clear h hrd HV
   have d4 : decide (most < (a : Int)) = true:=decide_eq_true h4
   go_enter Tryz.func50,Tryz.ntmps50
   go_wp2_with fail
   refine A.out.mono ?_
   rintro e w1 ⟨rfl,rfl⟩
   go_wp2
   go_ret2
   rw [HS.out]
   exact ⟨.slice none 0 0,rfl,Bs.nil _ _,NoCap.nil,own_nil _,_,HC.out,rfl,Only.refl _ _⟩
  have d4 : decide (most < (a : Int)) = false:=decide_eq_false h4
  have L:=hideIt (left_cur h)
  by_cases h2 : (ys.length : Int) - k < (a : Int)
  ·have HS : Hid (sBlock most ys = ([],0,2)):=by
    simp only [Hid,sBlock]
    rw [if_neg h0,HV,if_neg (by simp),if_neg h4,if_pos h2]
   have HC:=hideIt h
   clear h hrd HV
   have d2 : decide ((ys.length : Int) - k < (a : Int)) = true:=decide_eq_true h2
   go_enter Tryz.func50,Tryz.ntmps50
   go_wp2_with fail
   refine A.out.mono ?_
   rintro e w1 ⟨rfl,rfl⟩
   go_wp2_with fail
   refine L.out.mono ?_
   rintro e w1 ⟨rfl,rfl⟩
   go_wp2
   go_ret2
   rw [HS.out]
   exact ⟨.slice none 0 0,rfl,Bs.nil _ _,NoCap.nil,own_nil _,_,HC.out,rfl,Only.refl _ _⟩
  ·have HS : Hid (sBlock most ys = ((ys.drop k).take a,k + a,0)):=by
    simp only [Hid,sBlock]
    rw [if_neg h0,HV,if_neg (by simp),if_neg h4,if_neg h2]
    rfl
   have d2 : decide ((ys.length : Int) - k < (a : Int)) = false:=decide_eq_false h2
   have B:=hideIt (skip_cur h k hk)
   clear h hrd HV
   go_enter Tryz.func50,Tryz.ntmps50
   go_wp2_with fail
   refine A.out.mono ?_
   rintro e w1 ⟨rfl,rfl⟩
   go_wp2_with fail
   refine L.out.mono ?_
   rintro e w1 ⟨rfl,rfl⟩
   go_wp2_with fail
   refine B.out.mono ?_
   rintro e w1 ⟨ao',cap',v2,rfl,_,_,hc,ho,hon⟩
   have C:=hideIt (skip_cur hc a (by rw [List.length_drop];omega))
   have HR:=hideIt (And.intro ho hon)
   clear hc ho hon A B L c0
   go_wp2_with fail
   refine C.out.mono ?_
   rintro e w2 ⟨ao3,cap3,v3,rfl,hb,_,hc,ho,hon⟩
   have D:=hideIt (clone_bs _ _ w2 hb (by rw [List.length_take,List.length_drop];omega))
   have HR2:=hideIt (And.intro hc (And.intro ho hon))
   clear hb hc ho hon C
   go_wp2_with fail
   refine D.out.mono ?_
   rintro e w3 ⟨v1,rfl,hown,hon3⟩
   have F : Hid (Bs .u8 w3 v1 ((ys.drop k).take a) ∧ NoCap v1 ∧ (∀ k,v1.ownBlock = some k → w.heap.size ≤ k) ∧ CurAt 92 w3 R v3 (ys.drop (k + a)) ∧ v3.ownBlock = (Value.slice ao ys.length cap).ownBlock ∧ Only (fun k => k = R) w w3):=by
    obtain ⟨ho,hon⟩:=HR.out
    obtain ⟨hc,ho2,hon2⟩:=HR2.out
    rw [List.drop_drop] at hc
    have hon12:=hon.trans hon2 (fun _ _ f => f)
    exact ⟨Bs.of_own hown,NoCap.of_own hown,fun k hk => Nat.le_trans hon12.size (hown.lt k hk).1,hc.keep hon3 (fun f => f) (fun _ _ f => f),ho2.trans ho,hon12.trans hon3 (fun _ _ f => f.elim)⟩
   clear hown hon3 D HR HR2
   go_wp2
   go_ret2
   rw [HS.out]
   obtain ⟨f1,f2,f3,f4⟩:=F.out
   exact ⟨v1,rfl,f1,f2,f3,v3,f4⟩
theorem sVarint_gs (v : Nat) (t : List Int) (h : v < 18446744073709551616) : sVarint (gs v ++ t) = ((v : Int),(gs v).length,0):=by
 have:=rd_gs t v 0 0 (by omega) (by simpa using h) (fun h => by omega)
 rw [sVarint,this]
 simp
end Go.Proofs.YthapipgaohlgdaaGreatDoor


namespace Go.Proofs.YthapipgaohlgdaaGreatDoor
open Go.RowKit
def loF (a : Int) (l : List Int) : Int:=l.foldl (fun m x => min m x) a
def hiF (a : Int) (l : List Int) : Int:=l.foldl (fun m x => max m x) a
def lo (l : List Int) : Int:=loF (l.getD 0 0) (l.drop 1)
def hi (l : List Int) : Int:=hiF (l.getD 0 0) (l.drop 1)
theorem loF_le (l : List Int) : ∀ a,loF a l ≤ a ∧ ∀ x ∈ l,loF a l ≤ x:=by
 induction l with
 | nil => intro a;simp [loF]
 | cons b t ih =>
  intro a
  obtain ⟨h1,h2⟩:=ih (min a b)
  have e : loF a (b :: t) = loF (min a b) t:=rfl
  rw [e]
  refine ⟨by omega,fun x hx => ?_⟩
  rcases List.mem_cons.1 hx with rfl | hx
  ·omega
  ·exact h2 x hx
theorem hiF_ge (l : List Int) : ∀ a,a ≤ hiF a l ∧ ∀ x ∈ l,x ≤ hiF a l:=by
 induction l with
 | nil => intro a;simp [hiF]
 | cons b t ih =>
  intro a
  obtain ⟨h1,h2⟩:=ih (max a b)
  have e : hiF a (b :: t) = hiF (max a b) t:=rfl
  rw [e]
  refine ⟨by omega,fun x hx => ?_⟩
  rcases List.mem_cons.1 hx with rfl | hx
  ·omega
  ·exact h2 x hx
theorem loF_mem (l : List Int) : ∀ a,loF a l = a ∨ loF a l ∈ l:=by
 induction l with
 | nil => intro a;simp [loF]
 | cons b t ih =>
  intro a
  have e : loF a (b :: t) = loF (min a b) t:=rfl
  rw [e]
  rcases ih (min a b) with h | h
  ·rw [h]
   rcases Int.le_total a b with h' | h'
   ·left;omega
   ·right;rw [show min a b = b by omega];exact List.mem_cons_self
  ·exact .inr (List.mem_cons_of_mem _ h)
theorem hiF_mem (l : List Int) : ∀ a,hiF a l = a ∨ hiF a l ∈ l:=by
 induction l with
 | nil => intro a;simp [hiF]
 | cons b t ih =>
  intro a
  have e : hiF a (b :: t) = hiF (max a b) t:=rfl
  rw [e]
  rcases ih (max a b) with h | h
  ·rw [h]
   rcases Int.le_total a b with h' | h'
   ·right;rw [show max a b = b by omega];exact List.mem_cons_self
   ·left;omega
  ·exact .inr (List.mem_cons_of_mem _ h)
theorem loF_snoc (a : Int) (l : List Int) (x : Int) : loF a (l ++ [x]) = min (loF a l) x:=by simp [loF]
theorem hiF_snoc (a : Int) (l : List Int) (x : Int) : hiF a (l ++ [x]) = max (hiF a l) x:=by simp [hiF]
theorem lo_cons (a : Int) (t : List Int) : lo (a :: t) = loF a t:=rfl
theorem hi_cons (a : Int) (t : List Int) : hi (a :: t) = hiF a t:=rfl
theorem lo_nil : lo [] = 0:=rfl
theorem hi_nil : hi [] = 0:=rfl
theorem lo_le (l : List Int) : ∀ x ∈ l,lo l ≤ x:=by
 cases l with
 | nil => simp
 | cons a t =>
  intro x hx
  rw [lo_cons]
  rcases List.mem_cons.1 hx with rfl | hx
  ·exact (loF_le t x).1
  ·exact (loF_le t a).2 x hx
theorem le_hi (l : List Int) : ∀ x ∈ l,x ≤ hi l:=by
 cases l with
 | nil => simp
 | cons a t =>
  intro x hx
  rw [hi_cons]
  rcases List.mem_cons.1 hx with rfl | hx
  ·exact (hiF_ge t x).1
  ·exact (hiF_ge t a).2 x hx
theorem lo_mem {l : List Int} (h : l ≠ []) : lo l ∈ l:=by
 cases l with
 | nil => exact absurd rfl h
 | cons a t =>
  rw [lo_cons]
  rcases loF_mem t a with h | h
  ·rw [h];exact List.mem_cons_self
  ·exact List.mem_cons_of_mem _ h
theorem hi_mem {l : List Int} (h : l ≠ []) : hi l ∈ l:=by
 cases l with
 | nil => exact absurd rfl h
 | cons a t =>
  rw [hi_cons]
  rcases hiF_mem t a with h | h
  ·rw [h];exact List.mem_cons_self
  ·exact List.mem_cons_of_mem _ h
theorem lohi {l : List Int} (h : U64 l) : 0 ≤ lo l ∧ lo l ≤ hi l ∧ hi l ≤ 18446744073709551615:=by
 by_cases hne : l = []
 ·subst hne;rw [lo_nil,hi_nil];omega
 ·have h1:=h _ (lo_mem hne)
  have h2:=h _ (hi_mem hne)
  have h3:=lo_le l _ (hi_mem hne)
  omega
def wd (l : List Int) : Nat:=wid (hi l - lo l).toNat
theorem wd_le {l : List Int} (h : U64 l) : wd l ≤ 64:=by
 have:=lohi h
 exact wid_le64 _ (by omega)
theorem wd_fits (l : List Int) (x : Int) (hx : x ∈ l) : wid (x - lo l).toNat ≤ wd l:=by
 have h1:=lo_le l x hx
 have h2:=le_hi l x hx
 exact wid_mono (by omega)
def ups (a : Int) (w : Nat) (t : List Int) : List Bool:=t.flatMap fun x => bitsOf (x - a).toNat w
def up (l : List Int) : List Bool:=ups (lo l) (wd l) l
theorem ups_length (a : Int) (w : Nat) (t : List Int) : (ups a w t).length = t.length * w:=by
 induction t with
 | nil => simp [ups]
 | cons b t ih =>
  have e : ups a w (b :: t) = bitsOf (b - a).toNat w ++ ups a w t:=rfl
  rw [e,List.length_append,ih,bitsOf_length,List.length_cons,Nat.add_mul];omega
theorem ups_snoc (a : Int) (w : Nat) (t : List Int) (x : Int) : ups a w (t ++ [x]) = ups a w t ++ bitsOf (x - a).toNat w:=by simp [ups]
theorem up_length (l : List Int) : (up l).length = l.length * wd l:=ups_length _ _ _
def PK (l : List Int) : List Int:=gs (lo l).toNat ++ ((wd l : Int) :: bytesI (up l))
theorem PK_length (l : List Int) : (PK l).length = (gs (lo l).toNat).length + 1 + (l.length * wd l + 7) / 8:=by
 unfold PK
 rw [List.length_append,List.length_cons,bytesI_length,nb,up_length];omega
theorem PK_rng {l : List Int} (h : U64 l) : ∀ y ∈ PK l,0 ≤ y ∧ y ≤ 255:=by
 intro y hy
 have hw:=wd_le h
 unfold PK at hy
 rcases List.mem_append.1 hy with h1 | h1
 ·exact gs_range _ y h1
 ·rcases List.mem_cons.1 h1 with rfl | h1
  ·omega
  ·exact bytesI_rng _ y h1
def nums (a : Nat) (w : Nat) (l : List Bool) (n : Nat) : List Int:=(List.range n).map fun i => (((a + bnum ((l.drop (i * w)).take w)) % 18446744073709551616 : Nat) : Int)
theorem nums_length (a w : Nat) (l : List Bool) (n : Nat) : (nums a w l n).length = n:=by simp [nums]
theorem nums_succ (a w : Nat) (l : List Bool) (n : Nat) : nums a w l (n + 1) = nums a w l n ++ [(((a + bnum ((l.drop (n * w)).take w)) % 18446744073709551616 : Nat) : Int)]:=by simp [nums,List.range_succ]
theorem nums_u64 (a w : Nat) (l : List Bool) (n : Nat) : U64 (nums a w l n):=by
 intro x hx
 simp only [nums,List.mem_map,List.mem_range] at hx
 obtain ⟨i,_,rfl⟩:=hx
 have:=Nat.mod_lt (a + bnum ((l.drop (i * w)).take w)) (show 0 < 18446744073709551616 by decide)
 omega
def rdl (b : List Int) (n : Nat) : Int × List Int :=
 if (sVarint b).2.2 ≠ 0 then ((sVarint b).2.2,[]) else
 if (b.drop (sVarint b).2.1).length = 0 then (2,[]) else
 if 64 < (b.drop (sVarint b).2.1).getD 0 0 then (3,[]) else
 if 8 * (b.drop ((sVarint b).2.1 + 1)).length < n * ((b.drop (sVarint b).2.1).getD 0 0).toNat then (2,[]) else
 (0,nums (sVarint b).1.toNat ((b.drop (sVarint b).2.1).getD 0 0).toNat (allBits (b.drop ((sVarint b).2.1 + 1))) n)
theorem rdl_err {b : List Int} {c : Int} (n : Nat) (h : rd 0 0 b = (0,0,c)) (hc : c ≠ 0) : rdl b n = (c,[]):=by
 unfold rdl sVarint
 rw [h];simp [hc]
theorem rdl_none (a n : Nat) (h : a < 18446744073709551616) : rdl (gs a) n = (2,[]):=by
 have hs:=sVarint_gs a [] h
 rw [List.append_nil] at hs
 unfold rdl
 rw [hs];simp
theorem rdl_at (a n : Nat) (y : Int) (r : List Int) (h : a < 18446744073709551616) :
  rdl (gs a ++ y :: r) n = if 64 < y then (3,[]) else if 8 * r.length < n * y.toNat then (2,[]) else (0,nums a y.toNat (allBits r) n):=by
 have hd : (gs a ++ y :: r).drop (gs a).length = y :: r:=by simp
 have hd1 : (gs a ++ y :: r).drop ((gs a).length + 1) = r:=by rw [← List.drop_drop,hd];rfl
 unfold rdl
 rw [sVarint_gs a _ h]
 simp only [hd,hd1,ne_eq,not_true_eq_false,if_false]
 simp
theorem rdl_len {b : List Int} {n : Nat} {l : List Int} (h : rdl b n = (0,l)) : l.length = n:=by
 unfold rdl at h
 split at h
 ·rename_i h0;simp at h;exact absurd h.1 h0
 ·split at h
  ·simp at h
  ·split at h
   ·simp at h
   ·split at h
    ·simp at h
    ·simp at h;rw [← h,nums_length]
theorem rdl_u64 (b : List Int) (n : Nat) : U64 (rdl b n).2:=by
 have h0 : U64 []:=fun x hx => by simp at hx
 unfold rdl
 split
 ·exact h0
 ·split
  ·exact h0
  ·split
   ·exact h0
   ·split
    ·exact h0
    ·exact nums_u64 _ _ _ _
theorem parse (b : List Int) (hr : ∀ y ∈ b,0 ≤ y ∧ y ≤ 255) : (∃ c,rd 0 0 b = (0,0,c) ∧ (c = 2 ∨ c = 3)) ∨ (∃ a : Nat,a < 18446744073709551616 ∧ b = gs a) ∨ (∃ (a : Nat) (y : Int) (r : List Int),a < 18446744073709551616 ∧ b = gs a ++ y :: r):=by
 rcases rd_cases b hr with h | ⟨a,k,h,h1,h2,h3,h4,h5⟩
 ·exact .inl h
 ·right
  have hb : b = gs a ++ b.drop k:=by rw [h5,List.take_append_drop]
  cases hd : b.drop k with
  | nil => left;rw [hd,List.append_nil] at hb;exact ⟨a,h4,hb⟩
  | cons y r => right;rw [hd] at hb;exact ⟨a,y,r,h4,hb⟩
theorem ups_at (a : Int) (w : Nat) (t : List Int) : ∀ (i : Nat) (z : List Bool),i < t.length → ((ups a w t ++ z).drop (i * w)).take w = bitsOf (t.getD i 0 - a).toNat w:=by
 induction t with
 | nil => intro i z h;simp at h
 | cons b t ih =>
  intro i z h
  have e : ups a w (b :: t) = bitsOf (b - a).toNat w ++ ups a w t:=rfl
  have hl:=bitsOf_length (b - a).toNat w
  cases i with
  | zero => rw [e,Nat.zero_mul,List.drop_zero,List.append_assoc,List.take_append_of_le_length (by omega),List.take_of_length_le (by omega)];rfl
  | succ i =>
   have hd : (bitsOf (b - a).toNat w ++ (ups a w t ++ z)).drop w = ups a w t ++ z:=by
    rw [List.drop_append_of_le_length (by omega),List.drop_of_length_le (l:=bitsOf (b - a).toNat w) (by omega),List.nil_append]
   rw [e,List.append_assoc,Nat.add_mul,Nat.one_mul,Nat.add_comm,← List.drop_drop,hd,ih i z (by simpa using h)]
   rfl
theorem pk_read {l : List Int} (h : U64 l) (t : List Int) : rdl (PK l ++ t) l.length = (0,l):=by
 obtain ⟨h1,h2,h3⟩:=lohi h
 have hw:=wd_le h
 have e : PK l ++ t = gs (lo l).toNat ++ (wd l : Int) :: (bytesI (up l) ++ t):=by simp [PK]
 rw [e,rdl_at _ _ _ _ (by omega),if_neg (by omega),if_neg]
 ·congr 1
  rw [Int.toNat_natCast,allBits_append,bits_back,List.append_assoc]
  apply List.ext_getElem
  ·rw [nums_length]
  ·intro i hi1 hi2
   have hx : l[i] ∈ l:=List.getElem_mem _
   have hg : l.getD i 0 = l[i]:=by rw [List.getD_eq_getElem?_getD,List.getElem?_eq_getElem hi2];rfl
   simp only [nums,List.getElem_map,List.getElem_range]
   have hu : ∀ z,((up l ++ z).drop (i * wd l)).take (wd l) = bitsOf (l.getD i 0 - lo l).toNat (wd l):=fun z => ups_at _ _ l i z hi2
   rw [hu,hg,num_bitsOf,Nat.mod_eq_of_lt ((wid_le_iff _ _).1 (wd_fits l _ hx))]
   have:=lo_le l _ hx
   have:=h _ hx
   rw [Nat.mod_eq_of_lt (by omega)]
   omega
 ·rw [Int.toNat_natCast,List.length_append,bytesI_length,nb,up_length];omega
theorem pk_split {l r : List Int} {a : Nat} {y : Int} (h : U64 l) (ha : a < 18446744073709551616) (e : PK l = gs a ++ y :: r) : (lo l).toNat = a ∧ (wd l : Int) = y ∧ bytesI (up l) = r:=by
 obtain ⟨h1,h2,h3⟩:=lohi h
 have s1 : sVarint (PK l) = (((lo l).toNat : Int),(gs (lo l).toNat).length,0):=sVarint_gs _ _ (by omega)
 have s2:=sVarint_gs a (y :: r) ha
 rw [← e,s1] at s2
 simp only [Prod.mk.injEq,Int.natCast_inj] at s2
 obtain ⟨s2,_⟩:=s2
 unfold PK at e
 rw [s2] at e
 have e2:=List.append_cancel_left e
 simp only [List.cons.injEq] at e2
 exact ⟨s2,e2.1,e2.2⟩
theorem pk_fits {a n : Nat} {y : Int} {r : List Int} (ha : a < 18446744073709551616) (e : PK (nums a y.toNat (allBits r) n) = gs a ++ y :: r) :
  bendV ((allBits r).drop (n * y.toNat)) = 0 ∧ ∀ i,i < n → a + bnum (((allBits r).drop (i * y.toNat)).take y.toNat) < 18446744073709551616:=by
 obtain ⟨m,hm⟩ : ∃ m,nums a y.toNat (allBits r) n = m:=⟨_,rfl⟩
 have hu : U64 m:=by rw [← hm];exact nums_u64 _ _ _ _
 have hlen : m.length = n:=by rw [← hm];exact nums_length _ _ _ _
 rw [hm] at e
 obtain ⟨p1,p2,p3⟩:=pk_split hu ha e
 have hy : y.toNat = wd m:=by omega
 have hw:=wd_le hu
 constructor
 ·have:=back_end (up m)
  rw [p3,up_length,hlen,← hy] at this
  exact this
 ·intro i hi
  have hb : bnum (((allBits r).drop (i * y.toNat)).take y.toNat) < 18446744073709551616:=by
   have h1:=bnum_lt (((allBits r).drop (i * y.toNat)).take y.toNat)
   have h2 : 2 ^ (((allBits r).drop (i * y.toNat)).take y.toNat).length ≤ 2 ^ 64:=Nat.pow_le_pow_right (by omega) (by rw [List.length_take];omega)
   have h3 : (2 : Nat) ^ 64 = 18446744073709551616:=by decide
   omega
  have hx : (((a + bnum (((allBits r).drop (i * y.toNat)).take y.toNat)) % 18446744073709551616 : Nat) : Int) ∈ m:=by
   rw [← hm]
   simp only [nums,List.mem_map,List.mem_range]
   exact ⟨i,hi,rfl⟩
  have h1:=lo_le m _ hx
  have h2:=(lohi hu).1
  omega
def UN (b : List Int) (n : Int) : Int × List Int :=
 if n < 0 ∨ 65536 < n then (1,[]) else
 if (rdl b n.toNat).1 ≠ 0 then ((rdl b n.toNat).1,[]) else
 if PK (rdl b n.toNat).2 = b then (0,(rdl b n.toNat).2) else (3,[])
theorem UN_u64 (b : List Int) (n : Int) : U64 (UN b n).2:=by
 have h0 : U64 []:=fun x hx => by simp at hx
 unfold UN
 split
 ·exact h0
 ·split
  ·exact h0
  ·split
   ·exact rdl_u64 _ _
   ·exact h0
theorem UN_err (b : List Int) (n : Int) (h : (UN b n).1 ≠ 0) : (UN b n).2 = []:=by
 unfold UN at h ⊢
 split
 ·rfl
 ·split
  ·rfl
  ·split
   ·rename_i h1 h2 h3;rw [if_neg h1,if_neg h2,if_pos h3] at h;simp at h
   ·rfl
theorem UN_ok {b : List Int} {n : Int} (h : (UN b n).1 = 0) : PK (UN b n).2 = b ∧ ((UN b n).2.length : Int) = n ∧ n ≤ 65536:=by
 unfold UN at h ⊢
 split
 ·rename_i h1;rw [if_pos h1] at h;simp at h
 ·split
  ·rename_i h1 h2;rw [if_neg h1,if_pos h2] at h;exact absurd h h2
  ·split
   ·rename_i h1 h2 h3
    have h4 : rdl b n.toNat = (0,(rdl b n.toNat).2):=by rw [← Decidable.of_not_not h2]
    have:=rdl_len h4
    refine ⟨h3,?_,by omega⟩
    show ((rdl b n.toNat).2.length : Int) = n
    omega
   ·rename_i h1 h2 h3;rw [if_neg h1,if_neg h2,if_neg h3] at h;simp at h
theorem un_pk {l : List Int} (h : U64 l) (hl : l.length ≤ 65536) : UN (PK l) l.length = (0,l):=by
 have e:=pk_read h []
 rw [List.append_nil] at e
 unfold UN
 rw [if_neg (by omega),Int.toNat_natCast,e]
 simp
end Go.Proofs.YthapipgaohlgdaaGreatDoor
