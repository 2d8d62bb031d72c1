/- Several texts in one: Sm2, Word, Eq, Rd6, Same, Same2, SameU, Tot6. -/
import Derived.Test.YthapipgaohlgdaaGreatDoorG6
import Derived.Test.YthapipgaohlgdaaGreatDoorProg
import Derived.Test.YthapipgaohlgdaaGreatDoorG1
import Derived.Shelf.Bytes.SlSmallAll


namespace Go.Proofs.YthapipgaohlgdaaGreatDoor
open Go.RowKit
theorem fixB_next (v : Int) (i : Nat) : fixB v (i + 1) = fixB (v / 256) i:=by
 unfold fixB
 rw [show 8 * (i + 1) = 8 + 8 * i by omega,Int.pow_add,show (2 : Int) ^ 8 = 256 from rfl,Int.ediv_ediv_of_nonneg (by omega)]
theorem fixL_next (v : Int) (n : Nat) : fixL v (n + 1) = fixL (v / 256) n ++ [fixB v 0]:=by
 unfold fixL
 rw [List.range_succ,List.map_append,List.map_singleton]
 congr 1
 ·apply List.map_congr_left
  intro j hj
  rw [List.mem_range] at hj
  rw [← fixB_next]
  congr 1
  omega
 ·simp
theorem num_fix (n : Nat) : ∀ v : Int,0 ≤ v → (num (fixL v n) : Int) = v % ((256 ^ n : Nat) : Int):=by
 induction n with
 | zero => intro v _;simp [fixL,num]
 | succ n ih =>
  intro v hv
  have h0:=fixB_range v 0
  rw [fixL_next,num_snoc,Int.natCast_add,Int.natCast_mul,ih (v / 256) (by omega),Int.toNat_of_nonneg h0.1]
  obtain ⟨m,rfl⟩:=Int.eq_ofNat_of_zero_le hv
  have e1 : fixB (m : Int) 0 = ((m % 256 : Nat) : Int):=by simp [fixB]
  have e2 : ((m : Int) / 256) = ((m / 256 : Nat) : Int):=by omega
  rw [e1,e2,Nat.pow_succ,Nat.mul_comm (256 ^ n) 256,← Int.natCast_emod,← Int.natCast_emod,Nat.mod_mul]
  omega
theorem num_fix8 (v : Nat) (h : v < 18446744073709551616) : num (fixL v 8) = v:=by
 have:=num_fix 8 v (by omega)
 have e : ((256 ^ 8 : Nat) : Int) = 18446744073709551616:=by decide
 rw [e] at this
 omega
def wd0 (xs : List Int) : Nat:=wordN (least xs) (wi (least xs)) (xs.take (cn (least xs)))
def encF : Nat → List Int → List Int
 | 0,_ => []
 | f + 1,xs => if xs = [] then [] else fixL (wd0 xs) 8 ++ encF f (xs.drop (cn (least xs)))
def enc (xs : List Int) : List Int:=encF xs.length xs
theorem encF_nil (f : Nat) : encF f [] = []:=by cases f <;> simp [encF]
theorem encF_fuel : ∀ (f g : Nat) (xs : List Int),Up 60 xs → xs.length ≤ f → xs.length ≤ g → encF f xs = encF g xs
 | 0,g,xs,_,hf,_ => by
  have : xs = []:=List.eq_nil_of_length_eq_zero (by omega)
  rw [this,encF_nil,encF_nil]
 | f + 1,0,xs,_,_,hg => by
  have : xs = []:=List.eq_nil_of_length_eq_zero (by omega)
  rw [this,encF_nil,encF_nil]
 | f + 1,g + 1,xs,hu,hf,hg => by
  by_cases h : xs = []
  ·rw [h,encF_nil,encF_nil]
  ·have h1:=(sort_at _ (least_fits h hu).1).1
   simp only [encF,h,if_false]
   rw [encF_fuel f g (xs.drop (cn (least xs))) (hu.drop _) (by rw [List.length_drop];omega) (by rw [List.length_drop];omega)]
theorem enc_nil : enc [] = []:=rfl
theorem enc_step {xs : List Int} (h : xs ≠ []) (hu : Up 60 xs) : enc xs = fixL (wd0 xs) 8 ++ enc (xs.drop (cn (least xs))):=by
 have hl : 0 < xs.length:=List.length_pos_iff.2 h
 have h1:=(sort_at _ (least_fits h hu).1).1
 obtain ⟨f,hf⟩ : ∃ f,xs.length = f + 1:=⟨xs.length - 1,by omega⟩
 unfold enc
 rw [hf]
 simp only [encF,h,if_false]
 rw [encF_fuel f (xs.drop (cn (least xs))).length _ (hu.drop _) (by rw [List.length_drop];omega) (Nat.le_refl _)]
theorem wd0_facts {xs : List Int} (h : xs ≠ []) (hu : Up 60 xs) : wd0 xs < 18446744073709551616 ∧ nms (wd0 xs) = xs.take (cn (least xs)):=by
 obtain ⟨h1,h2,h3⟩:=least_fits h hu
 have hl : (xs.take (cn (least xs))).length = cn (least xs):=by rw [List.length_take];omega
 exact ⟨wordN_lt h1 h3 (by rw [hl];exact (sort_at _ h1).2.2.2.1),nms_word h1 hl h3⟩
theorem enc_len : ∀ (n : Nat) (xs : List Int),xs.length = n → Up 60 xs → (enc xs).length % 8 = 0 ∧ (enc xs).length ≤ 8 * xs.length ∧ xs.length ≤ 30 * (enc xs).length:=by
 intro n
 induction n using Nat.strongRecOn with
 | _ n ih =>
  intro xs hn hu
  by_cases h : xs = []
  ·subst h;simp [enc_nil]
  ·obtain ⟨h1,h2,h3⟩:=least_fits h hu
   have h4:=sort_at _ h1
   obtain ⟨a,b,c⟩:=ih (xs.drop (cn (least xs))).length (by rw [List.length_drop];omega) _ rfl (hu.drop _)
   rw [enc_step h hu,List.length_append,fixL_len]
   rw [List.length_drop] at b c
   omega
theorem enc_range : ∀ (n : Nat) (xs : List Int),xs.length = n → Up 60 xs → ∀ y ∈ enc xs,0 ≤ y ∧ y ≤ 255:=by
 intro n
 induction n using Nat.strongRecOn with
 | _ n ih =>
  intro xs hn hu y hy
  by_cases h : xs = []
  ·subst h;simp [enc_nil] at hy
  ·obtain ⟨h1,h2,h3⟩:=least_fits h hu
   have h4:=sort_at _ h1
   rw [enc_step h hu,List.mem_append] at hy
   rcases hy with hy | hy
   ·exact fixL_range _ _ y hy
   ·exact ih (xs.drop (cn (least xs))).length (by rw [List.length_drop];omega) _ rfl (hu.drop _) y hy
def rdF : Nat → Nat → List Int → List Int → List Int × List Int × Int
 | 0,_,acc,ys => (acc,ys,0)
 | f + 1,n,acc,ys => if acc.length < n then (if ys.length < 8 then ([],ys,2) else rdF f n (acc ++ nms (num (ys.take 8))) (ys.drop 8)) else (acc,ys,0)
def rdA (n : Nat) (ys : List Int) : List Int × List Int × Int:=rdF (ys.length + 1) n [] ys
theorem rdF_done {n : Nat} {acc ys : List Int} (h : n ≤ acc.length) (f : Nat) : rdF f n acc ys = (acc,ys,0):=by
 cases f with
 | zero => rfl
 | succ f => simp only [rdF];rw [if_neg (by omega)]
theorem rdF_short {n f : Nat} {acc ys : List Int} (h : acc.length < n) (hy : ys.length < 8) (hf : 0 < f) : rdF f n acc ys = ([],ys,2):=by
 obtain ⟨g,rfl⟩ : ∃ g,f = g + 1:=⟨f - 1,by omega⟩
 simp only [rdF]
 rw [if_pos h,if_pos hy]
theorem rdF_step {n f : Nat} {acc ys : List Int} (h : acc.length < n) (hy : 8 ≤ ys.length) (hf : ys.length < f) : rdF f n acc ys = rdF (f - 1) n (acc ++ nms (num (ys.take 8))) (ys.drop 8) ∧ (ys.drop 8).length < f - 1:=by
 obtain ⟨g,rfl⟩ : ∃ g,f = g + 1:=⟨f - 1,by omega⟩
 simp only [rdF]
 rw [if_pos h,if_neg (by omega)]
 exact ⟨rfl,by rw [List.length_drop];omega⟩
theorem num8_lt {ys : List Int} (hr : ∀ y ∈ ys,0 ≤ y ∧ y ≤ 255) : num (ys.take 8) < 18446744073709551616:=by
 have h:=num_lt (ys.take 8) (fun y hy => hr y (List.mem_of_mem_take hy))
 have h2 : 256 ^ (ys.take 8).length ≤ 256 ^ 8:=Nat.pow_le_pow_right (by omega) (by rw [List.length_take];omega)
 have e : (256 : Nat) ^ 8 = 18446744073709551616:=by decide
 omega
theorem sort_lt {v : Nat} (h : v < 18446744073709551616) : v / 2 ^ 60 < 16:=by
 have e60 : (2 : Nat) ^ 60 = 1152921504606846976:=by decide
 rw [e60];omega
theorem rdF_facts : ∀ (f n : Nat) (acc ys : List Int),ys.length < f → (∀ y ∈ ys,0 ≤ y ∧ y ≤ 255) → Up 60 acc → acc.length < n + 240 →
  (rdF f n acc ys).2.2 = 2 ∧ (rdF f n acc ys).1 = [] ∨ (rdF f n acc ys).2.2 = 0 ∧ Up 60 (rdF f n acc ys).1 ∧ n ≤ (rdF f n acc ys).1.length ∧ (rdF f n acc ys).1.length < n + 240
 | 0,n,acc,ys,h,_,_,_ => by omega
 | f + 1,n,acc,ys,h,hr,hu,hl => by
  by_cases ha : acc.length < n
  ·by_cases hy : ys.length < 8
   ·rw [rdF_short ha hy (by omega)]
    exact .inl ⟨rfl,rfl⟩
   ·rw [(rdF_step ha (by omega) h).1]
    have hv:=num8_lt hr
    have h4:=sort_at _ (sort_lt hv)
    exact rdF_facts f n _ _ (by rw [List.length_drop];omega) (fun y hy => hr y (List.mem_of_mem_drop hy)) (hu.append (nms_up _ hv)) (by rw [List.length_append,nms_length];omega)
  ·rw [rdF_done (by omega)]
   exact .inr ⟨rfl,hu,by simpa using ha,hl⟩
theorem rdF_enc : ∀ (n : Nat) (xs acc r : List Int) (f : Nat),xs.length = n → Up 60 xs → (enc xs ++ r).length < f → rdF f (acc.length + xs.length) acc (enc xs ++ r) = (acc ++ xs,r,0):=by
 intro n
 induction n using Nat.strongRecOn with
 | _ n ih =>
  intro xs acc r f hn hu hf
  by_cases h : xs = []
  ·subst h
   simp only [enc_nil,List.nil_append,List.append_nil]
   rw [rdF_done (by simp)]
  ·obtain ⟨h1,h2,h3⟩:=least_fits h hu
   have h4:=sort_at _ h1
   obtain ⟨w1,w2⟩:=wd0_facts h hu
   have hx : 0 < xs.length:=List.length_pos_iff.2 h
   have e : enc xs ++ r = fixL (wd0 xs) 8 ++ (enc (xs.drop (cn (least xs))) ++ r):=by rw [enc_step h hu,List.append_assoc]
   have l8:=fixL_len (wd0 xs) 8
   rw [e] at hf ⊢
   have s:=rdF_step (f:=f) (n:=acc.length + xs.length) (acc:=acc) (ys:=fixL (wd0 xs) 8 ++ (enc (xs.drop (cn (least xs))) ++ r)) (by omega) (by rw [List.length_append];omega) hf
   rw [List.take_left' l8,List.drop_left' l8,num_fix8 _ w1,w2] at s
   rw [s.1]
   have hl : (acc ++ xs.take (cn (least xs))).length + (xs.drop (cn (least xs))).length = acc.length + xs.length:=by
    rw [List.length_append,List.length_take,List.length_drop];omega
   rw [← hl,ih (xs.drop (cn (least xs))).length (by rw [List.length_drop];omega) _ (acc ++ xs.take (cn (least xs))) r (f - 1) rfl (hu.drop _) s.2,List.append_assoc,List.take_append_drop]
def dec (ys : List Int) (n : Nat) : List Int × Int :=
 if (rdA n ys).2.2 ≠ 0 then ([],2) else if n < (rdA n ys).1.length then ([],3) else if enc (rdA n ys).1 = ys then ((rdA n ys).1,0) else ([],3)
theorem rdA_facts {n : Nat} {ys : List Int} (hr : ∀ y ∈ ys,0 ≤ y ∧ y ≤ 255) :
  (rdA n ys).2.2 = 2 ∧ (rdA n ys).1 = [] ∨ (rdA n ys).2.2 = 0 ∧ Up 60 (rdA n ys).1 ∧ n ≤ (rdA n ys).1.length ∧ (rdA n ys).1.length < n + 240 :=
 rdF_facts _ n [] ys (by omega) hr (Up.nil _) (by simp)
theorem rdA_enc {xs : List Int} (hu : Up 60 xs) (r : List Int) : rdA xs.length (enc xs ++ r) = (xs,r,0):=by
 have:=rdF_enc xs.length xs [] r ((enc xs ++ r).length + 1) rfl hu (by omega)
 simpa [rdA] using this
theorem dec_enc {xs : List Int} (hu : Up 60 xs) : dec (enc xs) xs.length = (xs,0):=by
 have:=rdA_enc hu []
 rw [List.append_nil] at this
 simp [dec,this]
theorem rdA_rest {n : Nat} {ys : List Int} (hr : ∀ y ∈ ys,0 ≤ y ∧ y ≤ 255) (h0 : (rdA n ys).2.2 = 0) (hn : (rdA n ys).1.length = n) (he : enc (rdA n ys).1 = ys) : (rdA n ys).2.1 = []:=by
 rcases rdA_facts (n:=n) hr with ⟨h,_⟩ | ⟨_,hu,_⟩
 ·omega
 ·have:=rdA_enc hu []
  rw [List.append_nil,hn,he] at this
  rw [this]
theorem dec_only {n : Nat} {ys : List Int} (hr : ∀ y ∈ ys,0 ≤ y ∧ y ≤ 255) :
  (∃ c,dec ys n = ([],c) ∧ (c = 2 ∨ c = 3)) ∨ (∃ l,dec ys n = (l,0) ∧ Up 60 l ∧ l.length = n ∧ enc l = ys):=by
 unfold dec
 by_cases h0 : (rdA n ys).2.2 = 0
 ·rw [if_neg (by simpa using h0)]
  rcases rdA_facts (n:=n) hr with ⟨h,_⟩ | ⟨_,hu,h1,_⟩
  ·omega
  ·by_cases hn : n < (rdA n ys).1.length
   ·rw [if_pos hn];exact .inl ⟨3,rfl,.inr rfl⟩
   ·rw [if_neg hn]
    by_cases he : enc (rdA n ys).1 = ys
    ·rw [if_pos he];exact .inr ⟨_,rfl,hu,by omega,he⟩
    ·rw [if_neg he];exact .inl ⟨3,rfl,.inr rfl⟩
 ·rw [if_pos h0];exact .inl ⟨2,rfl,.inl rfl⟩
end Go.Proofs.YthapipgaohlgdaaGreatDoor


namespace Go.Proofs.YthapipgaohlgdaaGreatDoor
set_option maxRecDepth 100000
open Go.RowKit
theorem cast_pow (q : Nat) : ((2 ^ q : Nat) : Int) = (2 : Int) ^ q:=by simp
theorem wrapU {x : Int} (h0 : 0 ≤ x) (h1 : x ≤ 18446744073709551615) : IntKind.u64.wrap x = x:=by
 rw [IntKind.wrap_u64];omega
theorem wacc_lt {s q : Nat} {zs : List Int} (hs : s < 16) (h : Up q zs) (k : Nat) (hk : k ≤ zs.length) : wacc s q (zs.take k) < 2 ^ (4 + k * q):=by
 obtain ⟨r,h1,h2⟩:=wacc_split q (zs.take k) s (h.take k)
 have hl : (zs.take k).length = k:=by rw [List.length_take];omega
 rw [hl] at h1 h2
 have : (s + 1) * 2 ^ (k * q) ≤ 16 * 2 ^ (k * q):=Nat.mul_le_mul_right _ (by omega)
 rw [Nat.add_mul,Nat.one_mul] at this
 rw [Nat.pow_add,show (2 : Nat) ^ 4 = 16 from rfl]
 omega
theorem word_step {s q : Nat} {zs : List Int} (hs : s < 16) (h : Up q zs) (hw : zs.length * q ≤ 60) (k : Nat) (hk : k < zs.length) :
  (wacc s q (zs.take k) : Int) * 2 ^ q ≤ 18446744073709551615 ∧ bits .or .u64 ((wacc s q (zs.take k) : Int) * 2 ^ q) (zs.getD k 0) = (wacc s q (zs.take (k + 1)) : Int):=by
 have h1:=wacc_lt hs h k (by omega)
 have hz:=h _ (getD_mem zs k hk)
 have hn:=toNat_up hz
 have hkq : (k + 1) * q ≤ 60:=Nat.le_trans (Nat.mul_le_mul_right q (by omega)) hw
 have h2 : wacc s q (zs.take k) * 2 ^ q < 2 ^ 64:=by
  have:=Nat.mul_lt_mul_of_pos_right h1 (Nat.two_pow_pos q)
  rw [← Nat.pow_add] at this
  exact Nat.lt_of_lt_of_le this (Nat.pow_le_pow_right (by omega) (by rw [Nat.add_mul] at hkq;omega))
 have e64 : (2 : Nat) ^ 64 = 18446744073709551616:=by decide
 have hq : 2 ^ q ≤ 2 ^ 60:=Nat.pow_le_pow_right (by omega) (by
  have : 1 * q ≤ (k + 1) * q:=Nat.mul_le_mul_right q (by omega)
  omega)
 have e60 : (2 : Nat) ^ 60 = 1152921504606846976:=by decide
 rw [take_snoc zs k hk,wacc_snoc]
 generalize zs.getD k 0 = z at *
 generalize wacc s q (zs.take k) = a at *
 obtain ⟨m,rfl⟩:=Int.eq_ofNat_of_zero_le hz.1
 rw [Int.toNat_natCast] at hn ⊢
 have e2 : ((a : Int) * 2 ^ q) = ((a * 2 ^ q : Nat) : Int):=by simp
 rw [e2]
 refine ⟨by omega,?_⟩
 rw [u64_or_nat _ _ (by omega) (by omega),nat_join q _ _ (Nat.mul_mod_left _ _) hn]
set_option maxHeartbeats 400000 in
theorem word_bs (s q : Nat) (v : Value) (zs : List Int) (w : World) (h : Bs .u64 w v zs) (hs : s < 16) (hu : Up q zs) (hw : zs.length * q ≤ 60) (hq : q ≤ 60) (hl : zs.length ≤ 240) :
  Calls Tryz.prog 144 #[.int .i64 s,v,.int .i64 q] w fun e w' => e = .returned (.int .u64 (wordN s q zs)) ∧ w = w':=by
 obtain ⟨ao,cap,rfl⟩:=h.len
 have HB:=hideIt h
 have HU:=hideIt hu
 have HW:=hideIt hw
 have FIN : Hid ((wacc s q zs : Int) * 2 ^ (60 - zs.length * q) = (wordN s q zs : Int)):=by simp only [Hid,wordN];simp
 have FLT : Hid (wordN s q zs < 18446744073709551616):=wordN_lt hs hu hw
 obtain ⟨m,hm⟩ : ∃ m,m = zs.length:=⟨_,rfl⟩
 rw [← hm] at HB hl FIN ⊢
 have HM:=hideIt hm
 have p0 : (0 : Int) ≤ (m : Int) * (q : Int):=by rw [← Int.natCast_mul];omega
 have p1 : (m : Int) * (q : Int) ≤ 60:=by rw [← Int.natCast_mul,hm];omega
 clear h hu hm hw
 have hq2 : (q : Int) ≤ 60:=by omega
 have hs2 : (s : Int) ≤ 15:=by omega
 go_enter Tryz.func144,Tryz.ntmps144
 go_wp2
 go_loop [7,14] (fun a i => ∃ k : Nat,k ≤ m ∧ i = .int .i64 k ∧ a = .int .u64 (wacc s q (zs.take k))) (fun _ i => m - (intOf i).toNat)
 case atStart => exact ⟨0,Nat.zero_le _,rfl,rfl⟩
 case round =>
  obtain ⟨k,hk,rfl,rfl⟩:=hrel
  by_cases hlt : k < m
  ·have hkx : k < zs.length:=by rw [← HM.out];exact hlt
   obtain ⟨b,off,cap',e1,c0⟩:=(HB.out).at k hkx
   simp only [Value.slice.injEq] at e1
   obtain ⟨rfl,e2,rfl⟩:=e1
   clear e2
   obtain ⟨hsh,hst⟩:=word_step hs HU.out HW.out k hkx
   have hz:=HU.out _ (getD_mem zs k hkx)
   have HST:=hideIt hst
   generalize zs.getD k 0 = x at c0 HST hz
   generalize wacc s q (zs.take k) = a at hsh HST
   have i0 : (0 : Int) ≤ (k : Int):=by omega
   have i1 : (k : Int) < (m : Int):=by omega
   have hz0:=hz.1
   clear hst hkx hz
   have h00 : 0 ≤ (a : Int) * 2 ^ q:=by rw [← cast_pow,← Int.natCast_mul];omega
   go_wp2
   go_round
   case rel => exact ⟨k + 1,by omega,by go_num,by rw [HST.out]⟩
   case measure => simp [intOf];omega
  ·have hkm : k = m:=by omega
   subst hkm
   rw [HM.out,List.take_length,← HM.out]
   generalize wacc s q zs = a at FIN
   go_wp2
   go_ret
   refine ⟨ret_int ?_,rfl⟩
   rw [FIN.out,wrapU (by omega) (by have:=FLT.out;omega)]
set_option maxHeartbeats 400000 in
theorem encode_long (v : Value) (xs : List Int) (w : World) (h : Bs .u64 w v xs) (hl : 65536 < xs.length) :
  Calls Tryz.prog 102 #[v] w fun e w' => e = .returned (.tuple #[.slice none 0 0,.int .i64 4]) ∧ w = w':=by
 obtain ⟨ao,cap,rfl⟩:=h.len
 have d : decide (65536 < (xs.length : Int)) = true:=by simp;omega
 generalize xs.length = n at *
 clear h
 go_enter Tryz.func102,Tryz.ntmps102
 go_wp2
 go_ret2
 exact ⟨rfl,rfl⟩
set_option maxHeartbeats 400000 in
theorem encode_arg (v : Value) (xs : List Int) (w : World) (h : Bs .u64 w v xs) (hu : ∀ x ∈ xs,0 ≤ x ∧ x ≤ 18446744073709551615) (hl : xs.length ≤ 65536) (hs : small 60 xs = false) :
  Calls Tryz.prog 102 #[v] w fun e w' => e = .returned (.tuple #[.slice none 0 0,.int .i64 1]) ∧ w = w':=by
 have A:=hideIt (allFit_bs v xs 60 w h hu (by omega) (by omega))
 rw [hs] at A
 obtain ⟨ao,cap,rfl⟩:=h.len
 have d : decide (65536 < (xs.length : Int)) = false:=by simp;omega
 generalize xs.length = n at *
 clear h
 go_enter Tryz.func102,Tryz.ntmps102
 go_wp2_with fail
 refine A.out.mono ?_
 rintro e w1 ⟨rfl,rfl⟩
 go_wp2
 go_ret2
 exact ⟨rfl,rfl⟩
set_option maxHeartbeats 800000 in
theorem encode_bs (v : Value) (xs : List Int) (w : World) (h : Bs .u64 w v xs) (hu : Up 60 xs) (hl : xs.length ≤ 65536) :
  Calls Tryz.prog 102 #[v] w fun e w' => ∃ v',e = .returned (.tuple #[v',.int .i64 0]) ∧ w'.ownsRow w.heap.size 5 1 v' (enc xs).length ((enc xs).map (Value.int .u8)) ∧ Only (fun _ => False) w w':=by
 obtain ⟨i0,hi,hz0,hz1,hz2⟩:=info_parts Tryz.infoU8
 have A:=hideIt (allFit_bs v xs 60 w h (fun x hx => ⟨(hu x hx).1,by have:=(hu x hx).2;omega⟩) (by omega) (by omega))
 rw [up_small hu] at A
 have HEL:=hideIt (enc_len xs.length xs rfl hu).2.1
 obtain ⟨ao,cap,rfl⟩:=h.len
 have HB:=hideIt h
 have HU:=hideIt hu
 have d : decide (65536 < (xs.length : Int)) = false:=by simp;omega
 obtain ⟨m,hm⟩ : ∃ m,m = xs.length:=⟨_,rfl⟩
 rw [← hm] at HB hl d A HEL ⊢
 have HM:=hideIt hm
 clear h hu hm
 go_enter Tryz.func102,Tryz.ntmps102
 go_wp2_with fail
 refine A.out.mono ?_
 rintro e w1 ⟨rfl,rfl⟩
 clear A
 go_wp2
 go_loopw [0,4] (fun l o wr => ∃ (zs done : List Int) (ao : Option Addr) (cap : Nat),done ++ enc zs = enc xs ∧ Up 60 zs ∧ l = .slice ao zs.length cap ∧ zs.length ≤ m ∧ Bs .u64 w (.slice ao zs.length cap) zs ∧ wr.ownsRow w.heap.size 5 1 o done.length (done.map (Value.int .u8)) ∧ Only (fun _ => False) w wr) (fun l _ _ => (match l with | .slice _ n _ => n | _ => 0))
 case atStart => exact ⟨xs,[],ao,cap,rfl,HU.out,by rw [HM.out],by rw [← HM.out];omega,by rw [← HM.out];exact HB.out,World.ownsRow_nil _ _ _ _,Only.refl _ _⟩
 case round =>
  obtain ⟨zs,done,ao,cap,hdone,hup,rfl,hzm,hbs,hown,hon⟩:=hrel
  clear HB HU
  by_cases hz : zs = []
  ·subst hz
   have d0 : decide (0 < (([] : List Int).length : Int)) = false:=by simp
   rw [enc_nil,List.append_nil] at hdone
   rw [hdone] at hown
   obtain ⟨a6,c6,e6⟩:=(Bs.of_own hown).len
   subst e6
   have H:=hideIt (And.intro hown hon)
   clear hown hon hdone hbs
   simp only [List.length_nil]
   go_wp2
   go_ret2
   exact ⟨_,rfl,H.out⟩
  ·have hpos : 0 < zs.length:=List.length_pos_iff.2 hz
   obtain ⟨f1,f2,f3⟩:=least_fits hz hup
   obtain ⟨g1,g2,g3,g4,_⟩:=sort_at _ f1
   have LS:=hideIt (leastSort_bs _ zs wr (hbs.keep hon (fun _ _ f => f)) hup hz (by omega))
   have htl : (zs.take (cn (least zs))).length = cn (least zs):=by rw [List.length_take];omega
   have WF : Hid (∀ w2,Only (fun _ => False) w w2 → Calls Tryz.prog 144 #[.int .i64 (least zs),.slice ao (cn (least zs)) cap,.int .i64 (wi (least zs))] w2 fun e w' => e = .returned (.int .u64 (wd0 zs)) ∧ w2 = w') :=
    fun w2 o2 => word_bs (least zs) (wi (least zs)) _ (zs.take (cn (least zs))) w2 ((hbs.head (n:=cn (least zs)) f2).keep o2 (fun _ _ f => f)) f1 f3 (by rw [htl];exact g4) g3 (by rw [htl];omega)
   have RM : Hid (∀ w2,Calls Tryz.prog 143 #[.int .i64 (least zs)] w2 fun e w' => e = .returned (.tuple #[.int .i64 (cn (least zs)),.int .i64 (wi (least zs))]) ∧ Only (fun _ => False) w2 w'):=fun w2 => room_at (least zs) w2 f1
   have ES : Hid (done ++ fixL (wd0 zs) 8 ++ enc (zs.drop (cn (least zs))) = enc xs):=by simp only [Hid];rw [← hdone,enc_step hz hup,List.append_assoc]
   have HUD : Hid (Up 60 (zs.drop (cn (least zs)))):=hup.drop _
   have HDL : Hid (done.length ≤ 8 * m):=by
    have h1:=congrArg List.length hdone
    rw [List.length_append] at h1
    have:=HEL.out
    simp only [Hid];omega
   have hcap:=hbs.cap_le
   have HBS:=hideIt hbs
   have HOWN:=hideIt hown
   have HON:=hideIt hon
   obtain ⟨n,hn⟩ : ∃ n,n = zs.length:=⟨_,rfl⟩
   have HNL:=hideIt hn
   rw [← hn] at LS hcap HBS hpos hzm f2 ⊢
   generalize cn (least zs) = c at *
   generalize wi (least zs) = q at *
   generalize least zs = s at *
   generalize wd0 zs = x at *
   have d0 : decide (0 < (n : Int)) = true:=by simp;omega
   have j0 : (0 : Int) ≤ (c : Int):=by omega
   have j1 : (c : Int) ≤ (n : Int):=by omega
   have j2 : (c : Int) ≤ (cap : Int):=by omega
   clear hbs hown hon hdone hup hn hz f1 f3 g4 htl
   by_cases hcc : cap = c
   ·subst hcc
    go_wp2_with fail
    refine LS.out.mono ?_
    rintro e w2 ⟨rfl,o2⟩
    have O2:=hideIt (HON.out.trans o2 (fun _ _ f => f))
    have OW2:=hideIt (o2.own HOWN.out (fun _ _ f => f))
    clear o2 LS HON HOWN
    go_wp2_with fail
    refine (RM.out w2).mono ?_
    rintro e w3 ⟨rfl,o3⟩
    have O3:=hideIt (O2.out.trans o3 (fun _ _ f => f))
    have OW3:=hideIt (o3.own OW2.out (fun _ _ f => f))
    clear o3 O2 OW2 RM
    go_wp2_with fail
    refine (WF.out w3 O3.out).mono ?_
    rintro e w3' ⟨rfl,rfl⟩
    clear WF
    go_wp2_with fail
    refine (fix_any x 8 w3 (by omega)).mono ?_
    rintro e w4 ⟨u,rfl,own4,o4⟩
    have ow:=o4.own OW3.out (fun _ _ f => f)
    have hb4:=Bs.of_own own4
    have NC4:=hideIt (NoCap.of_own own4)
    have HB4:=hideIt hb4
    have hs4 : w.heap.size ≤ w4.heap.size:=Nat.le_trans O3.out.size o4.size
    have O4:=hideIt (O3.out.trans o4 (fun _ _ f => f))
    obtain ⟨a4,c4,e4⟩:=hb4.len
    subst e4
    clear o4 own4 O3 OW3 hb4
    rw [fixL_len] at HB4 NC4
    go_wp2_with (at_builtin;refine wpList_append_bs _ rfl _ _ _ rfl w.heap.size 5 i0 (.int .u8 0) 1 Tryz.underlying26 hi hz0 hz1 hz2 rfl _ _ _ rfl ow .u8 _ (fixL x 8) rfl HB4.out NC4.out ?c3 ?c4 hs4 ?_)
    case c3 => have:=HDL.out;rw [fixL_len];unfold maxLen;omega
    case c4 => have:=HDL.out;rw [fixL_len];omega
    intro v6 w6 own6 hgrow6 _ _
    have OWN6 : Hid (w6.ownsRow w.heap.size 5 1 v6 (done ++ fixL x 8).length ((done ++ fixL x 8).map (Value.int .u8))):=by
     simp only [Hid];rw [List.length_append,List.map_append];exact own6
    have O6:=hideIt (O4.out.grown hgrow6 (fun k hk e => absurd (ow.lt k e).1 (by omega)))
    clear ow own6 hgrow6
    go_wp2
    go_roundw
    case rel =>
     refine ⟨zs.drop cap,done ++ fixL x 8,ao,0,ES.out,HUD.out,?_,by rw [List.length_drop,← HNL.out];omega,?_,OWN6.out,O6.out⟩
     ·rw [List.length_drop,← HNL.out,show n - cap = 0 by omega]
     ·rw [List.length_drop,← HNL.out]
      exact (Nat.sub_self cap ▸ HBS.out.cut0 f2)
    case measure =>
     simp only []
     omega
   ·go_wp2_with fail
    refine LS.out.mono ?_
    rintro e w2 ⟨rfl,o2⟩
    have O2:=hideIt (HON.out.trans o2 (fun _ _ f => f))
    have OW2:=hideIt (o2.own HOWN.out (fun _ _ f => f))
    clear o2 LS HON HOWN
    go_wp2_with fail
    refine (RM.out w2).mono ?_
    rintro e w3 ⟨rfl,o3⟩
    have O3:=hideIt (O2.out.trans o3 (fun _ _ f => f))
    have OW3:=hideIt (o3.own OW2.out (fun _ _ f => f))
    clear o3 O2 OW2 RM
    go_wp2_with fail
    refine (WF.out w3 O3.out).mono ?_
    rintro e w3' ⟨rfl,rfl⟩
    clear WF
    go_wp2_with fail
    refine (fix_any x 8 w3 (by omega)).mono ?_
    rintro e w4 ⟨u,rfl,own4,o4⟩
    have ow:=o4.own OW3.out (fun _ _ f => f)
    have hb4:=Bs.of_own own4
    have NC4:=hideIt (NoCap.of_own own4)
    have HB4:=hideIt hb4
    have hs4 : w.heap.size ≤ w4.heap.size:=Nat.le_trans O3.out.size o4.size
    have O4:=hideIt (O3.out.trans o4 (fun _ _ f => f))
    obtain ⟨a4,c4,e4⟩:=hb4.len
    subst e4
    clear o4 own4 O3 OW3 hb4
    rw [fixL_len] at HB4 NC4
    go_wp2_with (at_builtin;refine wpList_append_bs _ rfl _ _ _ rfl w.heap.size 5 i0 (.int .u8 0) 1 Tryz.underlying26 hi hz0 hz1 hz2 rfl _ _ _ rfl ow .u8 _ (fixL x 8) rfl HB4.out NC4.out ?c3 ?c4 hs4 ?_)
    case c3 => have:=HDL.out;rw [fixL_len];unfold maxLen;omega
    case c4 => have:=HDL.out;rw [fixL_len];omega
    intro v6 w6 own6 hgrow6 _ _
    have OWN6 : Hid (w6.ownsRow w.heap.size 5 1 v6 (done ++ fixL x 8).length ((done ++ fixL x 8).map (Value.int .u8))):=by
     simp only [Hid];rw [List.length_append,List.map_append];exact own6
    have O6:=hideIt (O4.out.grown hgrow6 (fun k hk e => absurd (ow.lt k e).1 (by omega)))
    clear ow own6 hgrow6
    go_wp2
    go_roundw
    case rel =>
     refine ⟨zs.drop c,done ++ fixL x 8,ao.map (fun x => x.add c),cap - c,ES.out,HUD.out,?_,by rw [List.length_drop,← HNL.out];omega,?_,OWN6.out,O6.out⟩
     ·rw [List.length_drop,← HNL.out]
     ·rw [List.length_drop,← HNL.out]
      exact HBS.out.cut f2
    case measure =>
     simp only []
     omega
end Go.Proofs.YthapipgaohlgdaaGreatDoor


namespace Go.Proofs.YthapipgaohlgdaaGreatDoor
set_option maxRecDepth 100000
open Go.RowKit
theorem nums_inj : ∀ (xs ys : List Int),(∀ x ∈ xs,0 ≤ x ∧ x ≤ 255) → (∀ y ∈ ys,0 ≤ y ∧ y ≤ 255) → (xs.map fun n => UInt8.ofNat n.toNat) = (ys.map fun n => UInt8.ofNat n.toNat) → xs = ys
 | [],[],_,_,_ => rfl
 | [],y :: ys,_,_,h => by simp at h
 | x :: xs,[],_,_,h => by simp at h
 | x :: xs,y :: ys,hx,hy,h => by
  simp only [List.map_cons,List.cons.injEq] at h
  have h1:=hx x List.mem_cons_self
  have h2:=hy y List.mem_cons_self
  have e : x.toNat % 256 = y.toNat % 256:=by
   have:=congrArg UInt8.toNat h.1
   simpa using this
  have e2 : x = y:=by omega
  rw [e2,nums_inj xs ys (fun a ha => hx a (List.mem_cons_of_mem _ ha)) (fun a ha => hy a (List.mem_cons_of_mem _ ha)) h.2]
theorem str_same (xs ys : List Int) (hx : ∀ x ∈ xs,0 ≤ x ∧ x ≤ 255) (hy : ∀ y ∈ ys,0 ≤ y ∧ y ≤ 255) : ((strOfNums xs).toList == (strOfNums ys).toList) = decide (xs = ys):=by
 rw [Lib.strOfNums_toList,Lib.strOfNums_toList]
 by_cases h : xs = ys
 ·subst h;simp
 ·rw [decide_eq_false h]
  have : Lib.bytesOf xs ≠ Lib.bytesOf ys:=fun e => h (nums_inj xs ys hx hy e)
  simp [this]
theorem str_of (src dst e : TypeId) (va : Value) (xs : List Int) (w : World) (h : Bs .u8 w va xs) (hs : Tryz.prog.underlying src = some (.slice e)) (he : Tryz.prog.underlying e = some (.int .u8)) (hd : Tryz.prog.underlying dst = some .string) :
  (convert src dst va).run Tryz.prog w = .ok (.string (strOfNums xs)) w:=by
 obtain ⟨ao,cap,rfl,hc,hr⟩:=h
 by_cases h0 : xs = []
 ·subst h0
  exact run_convert_bytes_zero w src e hs he ao cap dst hd
 ·obtain ⟨b,off,rfl,hcell⟩:=hr h0
  exact run_convert_bytes_arg (P:=Tryz.prog) w src e hs he b off _ cap xs rfl hcell dst hd
set_option maxHeartbeats 400000 in
theorem equal_bs (va vb : Value) (xs ys : List Int) (w : World) (ha : Bs .u8 w va xs) (hb : Bs .u8 w vb ys) (hx : ∀ x ∈ xs,0 ≤ x ∧ x ≤ 255) (hy : ∀ y ∈ ys,0 ≤ y ∧ y ≤ 255) :
  Calls Tryz.prog 86 #[va,vb] w fun e w' => e = .returned (.bool (decide (xs = ys))) ∧ w = w':=by
 have h1:=str_of 26 9 5 va xs w ha Tryz.underlying26 Tryz.underlying5 Tryz.underlying9
 have h2:=str_of 26 9 5 vb ys w hb Tryz.underlying26 Tryz.underlying5 Tryz.underlying9
 rw [← str_same xs ys hx hy]
 clear ha hb hx hy
 go_enter Tryz.func86,Tryz.ntmps86
 go_wp2
 go_ret
 exact ⟨rfl,rfl⟩
end Go.Proofs.YthapipgaohlgdaaGreatDoor


namespace Go.Proofs.YthapipgaohlgdaaGreatDoor
set_option maxRecDepth 100000
open Go.RowKit
theorem nms_snoc (v k : Nat) : ((List.range (k + 1)).map fun i => (numAt v (wi (v / 2 ^ 60)) i : Int)) = ((List.range k).map fun i => (numAt v (wi (v / 2 ^ 60)) i : Int)) ++ [(numAt v (wi (v / 2 ^ 60)) k : Int)]:=by
 rw [List.range_succ,List.map_append];rfl
theorem numAt_and (v q k : Nat) (hv : v < 18446744073709551616) (hq : q ≤ 60) : bits .and .u64 ((v : Int) / 2 ^ (60 - (k + 1) * q)) (2 ^ q - 1) = (numAt v q k : Int):=by
 have e1 : ((v : Int) / 2 ^ (60 - (k + 1) * q)) = ((v / 2 ^ (60 - (k + 1) * q) : Nat) : Int):=by simp
 have hp:=Nat.two_pow_pos q
 have e2 : ((2 : Int) ^ q - 1) = ((2 ^ q - 1 : Nat) : Int):=by
  rw [← cast_pow];omega
 have h60 : 2 ^ q ≤ 2 ^ 60:=Nat.pow_le_pow_right (by omega) hq
 have e60 : (2 : Nat) ^ 60 = 1152921504606846976:=by decide
 have hd:=Nat.div_le_self v (2 ^ (60 - (k + 1) * q))
 rw [e1,e2,u64_and_nat _ _ (by omega) (by omega),Nat.and_two_pow_sub_one_eq_mod]
 rfl
set_option maxHeartbeats 800000 in
theorem appendNumbers_own (lo : Nat) (u : Value) (acc : List Int) (v : Nat) (w : World) (hown : w.ownsRow lo 42 1 u acc.length (acc.map (Value.int .u64))) (hlo : lo ≤ w.heap.size) (hv : v < 18446744073709551616) (ha : acc.length ≤ 70000) :
  Calls Tryz.prog 185 #[u,.int .u64 v] w fun e w' => ∃ u',e = .returned u' ∧ w'.ownsRow lo 42 1 u' (acc ++ nms v).length ((acc ++ nms v).map (Value.int .u64)) ∧ Only (fun k => lo ≤ k) w w':=by
 obtain ⟨i0,hi,hz0,hz1,hz2⟩:=info_parts Tryz.infoU64
 have hs:=sort_lt hv
 obtain ⟨g1,g2,g3,g4,_⟩:=sort_at _ hs
 have e60 : (2 : Int) ^ 60 = 1152921504606846976:=by decide
 have RM : Hid (Calls Tryz.prog 143 #[.int .i64 ((v : Int) / 1152921504606846976)] w fun e w' => e = .returned (.tuple #[.int .i64 (cn (v / 2 ^ 60)),.int .i64 (wi (v / 2 ^ 60))]) ∧ Only (fun _ => False) w w'):=by
  have:=room_at (v / 2 ^ 60) w hs
  have e : ((v / 2 ^ 60 : Nat) : Int) = (v : Int) / 1152921504606846976:=by rw [← e60];simp
  rw [e] at this
  exact this
 have NU : Hid (nms v = ((List.range (cn (v / 2 ^ 60))).map fun i => (numAt v (wi (v / 2 ^ 60)) i : Int))):=rfl
 have SN : Hid (∀ k,((List.range (k + 1)).map fun i => (numAt v (wi (v / 2 ^ 60)) i : Int)) = ((List.range k).map fun i => (numAt v (wi (v / 2 ^ 60)) i : Int)) ++ [(numAt v (wi (v / 2 ^ 60)) k : Int)]):=nms_snoc v
 generalize wi (v / 2 ^ 60) = q at *
 generalize cn (v / 2 ^ 60) = c at *
 have AN : Hid (∀ k,bits .and .u64 ((v : Int) / 2 ^ (60 - (k + 1) * q)) (2 ^ q - 1) = (numAt v q k : Int)):=fun k => numAt_and v q k hv g3
 have v0 : (0 : Int) ≤ (v : Int):=by omega
 have v1 : (v : Int) ≤ 18446744073709551615:=by omega
 have q1 : (q : Int) ≤ 60:=by omega
 have HOWN:=hideIt hown
 have t0 : (1 : Int) ≤ 2 ^ q:=pow_mono (Nat.zero_le q)
 have t1 : (2 : Int) ^ q ≤ 1152921504606846976:=by rw [← e60];exact pow_mono g3
 clear hown hs e60
 go_enter Tryz.func185,Tryz.ntmps185
 go_wp2_with fail
 refine RM.out.mono ?_
 rintro e w1 ⟨rfl,o1⟩
 have O1:=hideIt o1
 have OW1:=hideIt (o1.own HOWN.out (fun _ _ f => f))
 clear o1 RM HOWN
 go_wp2
 go_loopw [0,20] (fun o i wr => ∃ k : Nat,k ≤ c ∧ i = .int .i64 k ∧ wr.ownsRow lo 42 1 o (acc.length + k) ((acc ++ (List.range k).map fun i => (numAt v q i : Int)).map (Value.int .u64)) ∧ Only (fun k => lo ≤ k) w wr) (fun _ i _ => c - (intOf i).toNat)
 case atStart => exact ⟨0,Nat.zero_le _,rfl,by simpa using OW1.out,O1.out.mono (fun _ _ f => f.elim)⟩
 case round =>
  obtain ⟨k,hk,rfl,hown,hon⟩:=hrel
  clear OW1 O1
  by_cases hlt : k < c
  ·have pk : (k + 1) * q ≤ 60:=Nat.le_trans (Nat.mul_le_mul_right q (by omega)) g4
   have p0 : (0 : Int) ≤ ((k : Int) + 1) * (q : Int):=by rw [show ((k : Int) + 1) = ((k + 1 : Nat) : Int) by simp,← Int.natCast_mul];omega
   have p1 : ((k : Int) + 1) * (q : Int) ≤ 60:=by rw [show ((k : Int) + 1) = ((k + 1 : Nat) : Int) by simp,← Int.natCast_mul];omega
   have A1:=AN.out k
   have S1:=hideIt (SN.out k)
   have hsz:=hon.size
   have hN:=hideIt hon
   generalize numAt v q k = x at A1 S1
   clear hk hon
   go_wp2_with (at_builtin;refine wpList_append_lies _ rfl _ _ _ rfl lo 42 i0 (.int .u64 0) 1 8 Tryz.underlying46 hi hz0 hz1 hz2 rfl (by omega) _ (acc.length + k) _ rfl (hown.alloc _) ⟨wr.heap.size,0,none⟩ 1 1 [.int .u64 x] rfl rfl ?c1 ?c2 (by omega) ?c3 ?c4 ?c5 (wr.heap.size + 1) (by simp) ?_)
   case c1 => exact cell_one_new _ _ _
   case c2 => intro u hu;simp at hu;subst hu;rfl
   case c3 => unfold maxLen;omega
   case c4 => omega
   case c5 => simp;omega
   intro g cap1 w3 hown1 hgrow hat hg1
   have o3:=hideIt ((hN.out.alloc _).grown hgrow (fun p _ hp => (hown.lt p hp).1))
   have own3 : Hid (w3.ownsRow lo 42 1 (.slice (some ⟨g,0,none⟩) (acc.length + k + 1) cap1) (acc.length + (k + 1)) ((acc ++ (List.range (k + 1)).map fun i => (numAt v q i : Int)).map (Value.int .u64))):=by
    simp only [Hid]
    rw [S1.out,← Nat.add_assoc];simpa using hown1
   clear hown hown1 hgrow hat hN
   go_wp2
   go_roundw
   case rel => exact ⟨k + 1,by omega,by go_num,own3.out,o3.out⟩
   case measure => simp [intOf];omega
  ·have hkc : k = c:=by omega
   subst hkc
   have F : Hid (wr.ownsRow lo 42 1 u0 (acc ++ nms v).length ((acc ++ nms v).map (Value.int .u64)) ∧ Only (fun k => lo ≤ k) w wr):=by
    simp only [Hid]
    rw [NU.out]
    exact ⟨by simpa using hown,hon⟩
   clear hown hon
   go_wp2
   go_ret
   exact ⟨_,rfl,F.out⟩
theorem sFixed8_short {ys : List Int} (h : ys.length < 8) : sFixed 8 ys = (0,0,2):=by
 unfold sFixed
 rw [if_neg (by omega),if_pos (by omega)]
theorem sFixed8_ok {ys : List Int} (h : 8 ≤ ys.length) : sFixed 8 ys = ((num (ys.take 8) : Int),8,0):=by
 unfold sFixed
 rw [if_neg (by omega),if_neg (by omega)]
 rfl
def lenS : Value → Nat | .slice _ n _ => n | _ => 0
set_option maxHeartbeats 800000 in
theorem read_cur {w : World} {R : Nat} {v : Value} {ys : List Int} (h : CurAt 92 w R v ys) (hvb : ∀ k,v.ownBlock = some k → k < w.heap.size) (n : Nat) (hn : n ≤ 65536) :
  Calls Tryz.prog 173 #[.pointer (some ⟨R,0,none⟩),.int .i64 n] w fun e w' => ∃ u,e = .returned (.tuple #[u,.int .i64 (rdA n ys).2.2]) ∧ w'.ownsRow w.heap.size 42 1 u (rdA n ys).1.length ((rdA n ys).1.map (Value.int .u64)) ∧ Only (fun k => k = R) w w':=by
 have hR : R < w.heap.size:=(Array.getElem?_eq_some_iff.1 h.cell).1
 have HC:=hideIt h
 have HVB:=hideIt hvb
 clear h hvb
 go_enter Tryz.func173,Tryz.ntmps173
 go_wp2
 go_loopw [6] (fun l wr => ∃ (f : Nat) (acc ys' : List Int) (v' : Value),wr.ownsRow w.heap.size 42 1 l acc.length (acc.map (Value.int .u64)) ∧ CurAt 92 wr R v' ys' ∧ v'.ownBlock = v.ownBlock ∧ ys'.length < f ∧ rdF f n acc ys' = rdA n ys ∧ acc.length < n + 240 ∧ Only (fun k => k = R) w wr) (fun l _ => n - lenS l)
 case atStart => exact ⟨ys.length + 1,[],ys,v,World.ownsRow_nil _ _ _ _,HC.out,rfl,by omega,rfl,by simp,Only.refl _ _⟩
 case round =>
  obtain ⟨f,acc,ys',v',hown,hcur,hob,hf,hrd,hacc,hon⟩:=hrel
  clear HC
  obtain ⟨a6,c6,e6⟩:=(Bs.of_own hown).len
  subst e6
  have HOWN:=hideIt hown
  have HON:=hideIt hon
  have HOB:=hideIt hob
  by_cases hlt : acc.length < n
  ·have d0 : decide ((acc.length : Int) < (n : Int)) = true:=by simp;omega
   have FX:=hideIt (fixed_cur hcur 8)
   by_cases hs : ys'.length < 8
   ·rw [sFixed8_short hs] at FX
    have HR : Hid (rdA n ys = ([],ys',2)):=by simp only [Hid];rw [← hrd,rdF_short hlt hs (by omega)]
    clear hown hcur hob hrd hon
    generalize acc.length = m at *
    go_wp2_with fail
    refine FX.out.mono ?_
    rintro e w2 ⟨rfl,v2,_,_,o2⟩
    have O2:=hideIt (HON.out.trans o2 (fun _ _ e => e))
    clear FX o2 HOWN
    go_wp2
    go_ret2
    rw [HR.out]
    exact ⟨_,rfl,World.ownsRow_nil _ _ _ _,O2.out⟩
   ·rw [sFixed8_ok (by omega)] at FX
    have hv:=num8_lt hcur.rng
    have hstep:=rdF_step hlt (by omega) hf
    have HRD : Hid (rdF (f - 1) n (acc ++ nms (num (ys'.take 8))) (ys'.drop 8) = rdA n ys ∧ (ys'.drop 8).length < f - 1):=⟨by rw [← hrd,hstep.1],hstep.2⟩
    have HNL : Hid ((acc ++ nms (num (ys'.take 8))).length < n + 240 ∧ acc.length < (acc ++ nms (num (ys'.take 8))).length):=by
     have h4:=sort_at _ (sort_lt hv)
     simp only [Hid]
     rw [List.length_append,nms_length];omega
    have HV:=hideIt hv
    obtain ⟨x,hx⟩ : ∃ x,x = num (ys'.take 8):=⟨_,rfl⟩
    rw [← hx] at FX HRD HNL HV
    obtain ⟨m,hm⟩ : ∃ m,m = acc.length:=⟨_,rfl⟩
    rw [← hm] at HOWN d0 HNL hlt ⊢
    have HM:=hideIt hm
    obtain ⟨z,hz⟩ : ∃ z,z = acc ++ nms x:=⟨_,rfl⟩
    rw [← hz] at HRD HNL
    have HZ:=hideIt hz
    clear hz
    clear hown hcur hob hrd hon hstep hx hv hm
    go_wp2_with fail
    refine FX.out.mono ?_
    rintro e w2 ⟨rfl,v2,cur2,ob2,o2⟩
    have O2:=hideIt (HON.out.trans o2 (fun _ _ e => e))
    have OW2 : Hid (w2.ownsRow w.heap.size 42 1 (.slice a6 acc.length c6) acc.length (acc.map (Value.int .u64))):=by
     simp only [Hid];rw [← HM.out]
     exact o2.own HOWN.out (fun k hk e => by have:=(HOWN.out.lt k hk).1;omega)
    have CUR2:=hideIt cur2
    have OB2:=hideIt (ob2.trans HOB.out)
    have AP:=hideIt (appendNumbers_own w.heap.size _ acc x w2 OW2.out O2.out.size HV.out (by omega))
    rw [← HM.out,← HZ.out] at AP
    clear FX o2 HOWN HON HOB cur2 ob2 OW2
    go_wp2_with fail
    refine AP.out.mono ?_
    rintro e w3 ⟨u3,rfl,own3,o3⟩
    have F : Hid (CurAt 92 w3 R v2 (ys'.drop 8) ∧ v2.ownBlock = v.ownBlock ∧ Only (fun k => k = R) w w3) :=
     ⟨CUR2.out.keep o3 (by omega) (fun k hk e => by have:=HVB.out k (by rw [← OB2.out];exact hk);omega),OB2.out,O2.out.trans o3 (fun k hk e => by omega)⟩
    have OWN3:=hideIt own3
    obtain ⟨a7,c7,e7⟩:=(Bs.of_own own3).len
    subst e7
    clear AP own3 o3 O2 CUR2 OB2
    go_wp2
    go_roundw
    case rel => exact ⟨f - 1,_,ys'.drop 8,v2,OWN3.out,F.out.1,F.out.2.1,HRD.out.2,HRD.out.1,HNL.out.1,F.out.2.2⟩
    case measure => have:=HNL.out;simp only [lenS];omega
  ·have d0 : decide ((acc.length : Int) < (n : Int)) = false:=decide_eq_false (by omega)
   have HR : Hid (rdA n ys = (acc,ys',0)):=by simp only [Hid];rw [← hrd,rdF_done (by omega)]
   clear hown hcur hob hrd hon
   obtain ⟨m,hm⟩ : ∃ m,m = acc.length:=⟨_,rfl⟩
   rw [← hm] at HOWN d0 hlt ⊢
   have HM:=hideIt hm
   clear hm
   go_wp2
   go_ret2
   rw [HR.out]
   exact ⟨_,rfl,by rw [← HM.out];exact HOWN.out,HON.out⟩
set_option maxHeartbeats 400000 in
theorem decode_arg (v : Value) (n : Int) (w : World) (h : n < 0 ∨ 65536 < n) :
  Calls Tryz.prog 152 #[v,.int .i64 n] w fun e w' => e = .returned (.tuple #[.slice none 0 0,.int .i64 1]) ∧ w = w':=by
 by_cases h0 : n < 0
 ·have d0 : decide (n < 0) = true:=decide_eq_true h0
  clear h
  go_enter Tryz.func152,Tryz.ntmps152
  go_wp2
  go_ret2
  exact ⟨rfl,rfl⟩
 ·have d0 : decide (n < 0) = false:=decide_eq_false h0
  have d1 : decide (65536 < n) = true:=decide_eq_true (by omega)
  clear h
  go_enter Tryz.func152,Tryz.ntmps152
  go_wp2
  go_ret2
  exact ⟨rfl,rfl⟩
set_option maxHeartbeats 800000 in
theorem decode_bs (v : Value) (ys : List Int) (n : Nat) (w : World) (h : Bs .u8 w v ys) (hr : ∀ y ∈ ys,0 ≤ y ∧ y ≤ 255) (hl : ys.length ≤ 1000000000000) (hn : n ≤ 65536) :
  Calls Tryz.prog 152 #[v,.int .i64 n] w fun e w' => ∃ u,e = .returned (.tuple #[u,.int .i64 (dec ys n).2]) ∧ w'.ownsRow w.heap.size 42 1 u (dec ys n).1.length ((dec ys n).1.map (Value.int .u64)) ∧ Only (fun _ => False) w w':=by
 have d0 : decide ((n : Int) < 0) = false:=by simp
 have d1 : decide (65536 < (n : Int)) = false:=by simp;omega
 have NW:=hideIt (new_bs v ys w h hr hl)
 have HB:=hideIt h
 have HR:=hideIt hr
 have RF:=hideIt (rdA_facts (n:=n) hr)
 clear h hr
 go_enter Tryz.func152,Tryz.ntmps152
 go_wp2_with fail
 refine NW.out.mono ?_
 rintro e w1 ⟨R,v1,rfl,cur,o1,r0,r1,hv1⟩
 have RD:=hideIt (read_cur cur (fun k hk => (hv1 k hk).2) n hn)
 have HR0:=hideIt (And.intro r0 o1.size)
 have O1:=hideIt o1
 clear NW cur o1 hv1 r0 r1
 go_wp2_with fail
 refine RD.out.mono ?_
 rintro e w2 ⟨u,rfl,own2,o2⟩
 have O2:=hideIt (O1.out.trans o2 (fun k hk e => absurd HR0.out.1 (by omega)))
 have OW2:=hideIt (own_low own2 HR0.out.2)
 clear RD own2 o2 O1
 rcases RF.out with ⟨f1,f2⟩ | ⟨f1,f2,f3,f4⟩
 ·have HD : Hid (dec ys n = ([],2)):=by simp only [Hid,dec];rw [if_pos (by rw [f1];decide)]
  rw [f1]
  clear f1 f2 OW2 RF HR0
  obtain ⟨x2,h2⟩ : ∃ x2 : Int,x2 = 2:=⟨_,rfl⟩
  go_wp2
  go_ret2
  rw [HD.out]
  exact ⟨_,rfl,World.ownsRow_nil _ _ _ _,O2.out⟩
 ·have HF0:=hideIt f1
  rw [f1]
  obtain ⟨l,hl2⟩ : ∃ l,l = (rdA n ys).1:=⟨_,rfl⟩
  rw [← hl2] at OW2 f2 f3 f4
  have HL2:=hideIt hl2
  have hb2:=Bs.of_own OW2.out
  obtain ⟨a2,c2,e2⟩:=hb2.len
  subst e2
  by_cases hgt : n < l.length
  ·have HD : Hid (dec ys n = ([],3)):=by simp only [Hid,dec];rw [if_neg (by rw [f1];decide),← hl2,if_pos hgt]
   clear f1 f2 RF HR0 hb2 hl2 OW2
   generalize l.length = m at *
   have dm : decide (n < m) = true:=decide_eq_true hgt
   go_wp2
   go_ret2
   rw [HD.out]
   exact ⟨_,rfl,World.ownsRow_nil _ _ _ _,O2.out⟩
  ·have hln : l.length = n:=by omega
   have EN:=hideIt (encode_bs _ l w2 hb2 f2 (by omega))
   have HER:=hideIt (enc_range l.length l rfl f2)
   have HB2:=hideIt (HB.out.keep O2.out (fun _ _ f => f))
   have HDY : Hid (dec ys n = if enc l = ys then (l,0) else ([],3)):=by simp only [Hid,dec];rw [if_neg (by rw [f1];decide),← hl2,if_neg hgt]
   have HSZ:=hideIt O2.out.size
   rw [hln] at EN OW2 ⊢
   have HLN:=hideIt hln
   have dn : decide (n < n) = false:=by simp
   clear f1 f2 f3 f4 RF HR0 hb2 hl2 hgt hln
   go_wp2_with fail
   refine EN.out.mono ?_
   rintro e w3 ⟨u3,rfl,own3,o3⟩
   have EQ:=hideIt (equal_bs u3 v (enc l) ys w3 (Bs.of_own own3) (HB2.out.keep o3 (fun _ _ f => f)) HER.out HR.out)
   have O3:=hideIt (O2.out.trans o3 (fun _ _ f => f))
   have OW3:=hideIt (o3.own OW2.out (fun _ _ f => f))
   obtain ⟨a3,c3,e3⟩:=(Bs.of_own own3).len
   subst e3
   obtain ⟨m3,hm3⟩ : ∃ m3,m3 = (enc l).length:=⟨_,rfl⟩
   rw [← hm3] at EQ ⊢
   clear EN own3 o3 OW2 O2 hm3
   by_cases he : enc l = ys
   ·rw [if_pos he] at HDY
    rw [decide_eq_true he] at EQ
    clear he
    go_wp2_with fail
    refine EQ.out.mono ?_
    rintro e w4 ⟨rfl,rfl⟩
    clear EQ
    go_wp2
    go_ret2
    rw [HDY.out]
    exact ⟨_,rfl,by rw [HLN.out];exact OW3.out,O3.out⟩
   ·rw [if_neg he] at HDY
    rw [decide_eq_false he] at EQ
    clear he
    go_wp2_with fail
    refine EQ.out.mono ?_
    rintro e w4 ⟨rfl,rfl⟩
    clear EQ
    go_wp2
    go_ret2
    rw [HDY.out]
    exact ⟨_,rfl,World.ownsRow_nil _ _ _ _,O3.out⟩
end Go.Proofs.YthapipgaohlgdaaGreatDoor


namespace Go.Proofs.YthapipgaohlgdaaGreatDoor
set_option maxRecDepth 100000
open Go.RowKit
set_option maxHeartbeats 400000 in
theorem same_eq (va vb : Value) (xs : List Int) (w : World) (ha : Bs .u8 w va xs) (hb : Bs .u8 w vb xs) (hl : xs.length ≤ 140737488355328) :
  Calls Tryz.prog 12 #[va,vb] w fun e w' => e = .returned (.bool true) ∧ Only (fun _ => False) w w':=by
 obtain ⟨aoa,ca,rfl,hca,hra⟩:=ha
 obtain ⟨aob,cb,rfl,hcb,hrb⟩:=hb
 have hbn : ((xs.length : Int) != (xs.length : Int)) = false:=by simp
 by_cases hx : xs = []
 ·subst hx
  clear hra hrb
  simp only [List.length_nil]
  go_enter Tryz.func12,Tryz.ntmps12
  go_wp2
  go_loop [5] (fun i => i = .int .i64 0) (fun _ => 0)
  case atStart => rfl
  case round =>
   subst hrel
   go_wp2
   go_ret
   exact ⟨rfl,Only.refl _ _⟩
 ·obtain ⟨ba,oa,rfl,hcella⟩:=hra hx
  obtain ⟨bb,ob,rfl,hcellb⟩:=hrb hx
  clear hra hrb hx
  obtain ⟨n,hn⟩ : ∃ n,n = xs.length:=⟨_,rfl⟩
  rw [← hn] at hbn hca hcb hcella hcellb hl ⊢
  have HA : Hid (∀ j,j < n → w.cell? ⟨ba,oa + j,none⟩ = some (.int .u8 (xs.getD j 0))):=hcella
  have HB : Hid (∀ j,j < n → w.cell? ⟨bb,ob + j,none⟩ = some (.int .u8 (xs.getD j 0))):=hcellb
  clear hcella hcellb hn
  go_enter Tryz.func12,Tryz.ntmps12
  go_wp2
  go_loopw [5] (fun i wr => ∃ k : Nat,k ≤ n ∧ i = .int .i64 k ∧ Only (fun _ => False) w wr) (fun i _ => n - (intOf i).toNat)
  case atStart => exact ⟨0,Nat.zero_le _,rfl,Only.refl _ _⟩
  case round =>
   obtain ⟨k,hk,rfl,hon⟩:=hrel
   by_cases hlt : k < n
   ·obtain ⟨y,hy⟩ : ∃ y,y = xs.getD k 0:=⟨_,rfl⟩
    have h1 : wr.cell? ⟨ba,oa + k,none⟩ = some (.int .u8 y):=by
     have:=HA.out k hlt
     rw [World.cell?_of_block (hon.block ba (World.block_lt_of_cell? w _ this) (fun f => f)),hy];exact this
    have h2 : wr.cell? ⟨bb,ob + k,none⟩ = some (.int .u8 y):=by
     have:=HB.out k hlt
     rw [World.cell?_of_block (hon.block bb (World.block_lt_of_cell? w _ this) (fun f => f)),hy];exact this
    have i0 : (0 : Int) ≤ (k : Int):=by omega
    have i1 : (k : Int) < (n : Int):=by omega
    have hy1 : (y != y) = false:=by simp
    clear hy
    go_wp2
    go_quiet (fail)
    go_wp2
    go_roundw
    case rel => exact ⟨k + 1,by omega,by go_num,hon.drewN nq⟩
    case measure => simp [intOf];omega
   ·go_wp2
    go_ret
    exact ⟨rfl,hon⟩
end Go.Proofs.YthapipgaohlgdaaGreatDoor


namespace Go.Proofs.YthapipgaohlgdaaGreatDoor
set_option maxRecDepth 100000
open Go.RowKit
set_option maxHeartbeats 400000 in
theorem same_len (va vb : Value) (xs ys : List Int) (w : World) (ha : Bs .u8 w va xs) (hb : Bs .u8 w vb ys) (h : xs.length ≠ ys.length) :
  Calls Tryz.prog 12 #[va,vb] w fun e w' => e = .returned (.bool false) ∧ Only (fun _ => False) w w':=by
 obtain ⟨aoa,ca,rfl⟩:=ha.len
 obtain ⟨aob,cb,rfl⟩:=hb.len
 have hbn : ((xs.length : Int) != (ys.length : Int)) = true:=by simp;omega
 clear ha hb h
 generalize xs.length = n at *
 generalize ys.length = m at *
 go_enter Tryz.func12,Tryz.ntmps12
 go_wp2
 go_ret
 exact ⟨rfl,Only.refl _ _⟩
set_option maxHeartbeats 400000 in
theorem same_ne (va vb : Value) (xs ys : List Int) (w : World) (ha : Bs .u8 w va xs) (hb : Bs .u8 w vb ys) (hlen : ys.length = xs.length) (hl : xs.length ≤ 140737488355328) (hne : xs ≠ ys) :
  Calls Tryz.prog 12 #[va,vb] w fun e w' => e = .returned (.bool false) ∧ Only (fun _ => False) w w':=by
 obtain ⟨aoa,ca,rfl,hca,hra⟩:=ha
 obtain ⟨aob,cb,rfl,hcb,hrb⟩:=hb
 have hx : xs ≠ []:=by
  intro h0;subst h0
  exact hne (List.eq_nil_of_length_eq_zero hlen).symm
 have hy : ys ≠ []:=by
  intro h0;subst h0
  exact hx (List.eq_nil_of_length_eq_zero hlen.symm)
 obtain ⟨ba,oa,rfl,hcella⟩:=hra hx
 obtain ⟨bb,ob,rfl,hcellb⟩:=hrb hy
 have HD : Hid (¬ ∀ j,j < xs.length → xs.getD j 0 = ys.getD j 0):=by
  intro h
  apply hne
  apply List.ext_getElem hlen.symm
  intro i h1 h2
  have:=h i h1
  rw [List.getD_eq_getElem?_getD,List.getD_eq_getElem?_getD,List.getElem?_eq_getElem h1,List.getElem?_eq_getElem h2] at this
  exact this
 rw [hlen] at hcb hcellb ⊢
 have hbn : ((xs.length : Int) != (xs.length : Int)) = false:=by simp
 clear hra hrb hx hy hne hlen
 obtain ⟨n,hn⟩ : ∃ n,n = xs.length:=⟨_,rfl⟩
 rw [← hn] at hbn hca hcb hcella hcellb hl HD ⊢
 have HA : Hid (∀ j,j < n → w.cell? ⟨ba,oa + j,none⟩ = some (.int .u8 (xs.getD j 0))):=hcella
 have HB : Hid (∀ j,j < n → w.cell? ⟨bb,ob + j,none⟩ = some (.int .u8 (ys.getD j 0))):=hcellb
 clear hcella hcellb hn
 go_enter Tryz.func12,Tryz.ntmps12
 go_wp2
 go_loopw [5] (fun i wr => ∃ k : Nat,k ≤ n ∧ i = .int .i64 k ∧ Only (fun _ => False) w wr ∧ ∀ j,j < k → xs.getD j 0 = ys.getD j 0) (fun i _ => n - (intOf i).toNat)
 case atStart => exact ⟨0,Nat.zero_le _,rfl,Only.refl _ _,fun j hj => absurd hj (by omega)⟩
 case round =>
  obtain ⟨k,hk,rfl,hon,hall⟩:=hrel
  have HALL:=hideIt hall
  clear hall
  by_cases hlt : k < n
  ·obtain ⟨y,hy⟩ : ∃ y,y = xs.getD k 0:=⟨_,rfl⟩
   obtain ⟨z,hz⟩ : ∃ z,z = ys.getD k 0:=⟨_,rfl⟩
   have h1 : wr.cell? ⟨ba,oa + k,none⟩ = some (.int .u8 y):=by
    have:=HA.out k hlt
    rw [World.cell?_of_block (hon.block ba (World.block_lt_of_cell? w _ this) (fun f => f)),hy];exact this
   have h2 : wr.cell? ⟨bb,ob + k,none⟩ = some (.int .u8 z):=by
    have:=HB.out k hlt
    rw [World.cell?_of_block (hon.block bb (World.block_lt_of_cell? w _ this) (fun f => f)),hz];exact this
   have i0 : (0 : Int) ≤ (k : Int):=by omega
   have i1 : (k : Int) < (n : Int):=by omega
   by_cases hyz : y = z
   ·have HE:=hideIt (show xs.getD k 0 = ys.getD k 0 by rw [← hy,← hz];exact hyz)
    subst hyz
    have hy1 : (y != y) = false:=by simp
    clear hy hz
    go_wp2
    go_quiet (fail)
    go_wp2
    go_roundw
    case rel => exact ⟨k + 1,by omega,by go_num,hon.drewN nq,fun j hj => by
     rcases Nat.lt_or_ge j k with h | h
     ·exact HALL.out j h
     ·rw [show j = k by omega];exact HE.out⟩
    case measure => simp [intOf];omega
   ·have hy1 : (y != z) = true:=by simpa using hyz
    clear hy hz hyz
    go_wp2
    go_quiet (fail)
    go_wp2
    go_ret
    exact ⟨rfl,hon.drewN nq⟩
  ·exact absurd (fun j hj => HALL.out j (by omega)) HD.out
theorem same_any (va vb : Value) (xs ys : List Int) (w : World) (ha : Bs .u8 w va xs) (hb : Bs .u8 w vb ys) (hl : xs.length ≤ 140737488355328) :
  Calls Tryz.prog 12 #[va,vb] w fun e w' => e = .returned (.bool (decide (xs = ys))) ∧ Only (fun _ => False) w w':=by
 by_cases h : xs = ys
 ·subst h
  rw [decide_eq_true rfl]
  exact same_eq va vb xs w ha hb hl
 ·rw [decide_eq_false h]
  by_cases hlen : ys.length = xs.length
  ·exact same_ne va vb xs ys w ha hb hlen hl h
  ·exact same_len va vb xs ys w ha hb (fun e => hlen e.symm)
end Go.Proofs.YthapipgaohlgdaaGreatDoor


namespace Go.Proofs.YthapipgaohlgdaaGreatDoor
open Go.RowKit
end Go.Proofs.YthapipgaohlgdaaGreatDoor


namespace Go.Proofs.YthapipgaohlgdaaGreatDoor
open Go.RowKit
def ENC (xs : List Int) : List Int × Int:=if 65536 < xs.length then ([],4) else if small 60 xs = true then (enc xs,0) else ([],1)
def DEC (ys : List Int) (n : Int) : List Int × Int:=if n < 0 ∨ 65536 < n then ([],1) else dec ys n.toNat
theorem encode_all (v : Value) (xs : List Int) (w : World) (h : Bs .u64 w v xs) (hu : U64 xs) :
  Calls Tryz.prog 102 #[v] w fun e w' => ∃ v',e = .returned (.tuple #[v',.int .i64 (ENC xs).2]) ∧ w'.ownsRow w.heap.size 5 1 v' (ENC xs).1.length ((ENC xs).1.map (Value.int .u8)) ∧ Only (fun _ => False) w w':=by
 unfold ENC
 by_cases hl : 65536 < xs.length
 ·rw [if_pos hl]
  refine (encode_long v xs w h hl).mono ?_
  rintro e w' ⟨rfl,rfl⟩
  exact ⟨_,rfl,World.ownsRow_nil _ _ _ _,Only.refl _ _⟩
 ·rw [if_neg hl]
  by_cases hs : small 60 xs = true
  ·rw [if_pos hs]
   exact encode_bs v xs w h (small_up hs (fun x hx => (hu x hx).1)) (by omega)
  ·rw [if_neg hs]
   refine (encode_arg v xs w h hu (by omega) (by simpa using hs)).mono ?_
   rintro e w' ⟨rfl,rfl⟩
   exact ⟨_,rfl,World.ownsRow_nil _ _ _ _,Only.refl _ _⟩
theorem decode_all (v : Value) (ys : List Int) (n : Int) (w : World) (h : Bs .u8 w v ys) (hr : ∀ y ∈ ys,0 ≤ y ∧ y ≤ 255) (hl : ys.length ≤ 1000000000000) :
  Calls Tryz.prog 152 #[v,.int .i64 n] w fun e w' => ∃ u,e = .returned (.tuple #[u,.int .i64 (DEC ys n).2]) ∧ w'.ownsRow w.heap.size 42 1 u (DEC ys n).1.length ((DEC ys n).1.map (Value.int .u64)) ∧ Only (fun _ => False) w w':=by
 unfold DEC
 by_cases hn : n < 0 ∨ 65536 < n
 ·rw [if_pos hn]
  refine (decode_arg v n w hn).mono ?_
  rintro e w' ⟨rfl,rfl⟩
  exact ⟨_,rfl,World.ownsRow_nil _ _ _ _,Only.refl _ _⟩
 ·rw [if_neg hn]
  obtain ⟨m,rfl⟩:=Int.eq_ofNat_of_zero_le (show 0 ≤ n by omega)
  exact decode_bs v ys m w h hr hl (by omega)
theorem ENC_ok {xs : List Int} (h0 : ∀ x ∈ xs,0 ≤ x) (h : (ENC xs).2 = 0) : ENC xs = (enc xs,0) ∧ Up 60 xs ∧ xs.length ≤ 65536:=by
 unfold ENC at *
 by_cases hl : 65536 < xs.length
 ·rw [if_pos hl] at h;cases h
 ·rw [if_neg hl] at h ⊢
  by_cases hs : small 60 xs = true
  ·rw [if_pos hs];exact ⟨rfl,small_up hs h0,by omega⟩
  ·rw [if_neg hs] at h;cases h
theorem ENC_len {xs : List Int} (h0 : ∀ x ∈ xs,0 ≤ x) : (ENC xs).1.length ≤ 600000:=by
 by_cases h : (ENC xs).2 = 0
 ·obtain ⟨e,hu,hl⟩:=ENC_ok h0 h
  rw [e]
  have:=(enc_len xs.length xs rfl hu).2.1
  simp only;omega
 ·unfold ENC at *
  by_cases hl : 65536 < xs.length
  ·rw [if_pos hl];decide
  ·rw [if_neg hl] at h ⊢
   by_cases hs : small 60 xs = true
   ·rw [if_pos hs] at h;exact absurd rfl h
   ·rw [if_neg hs];decide
theorem DEC_facts {ys : List Int} {n : Int} (hr : ∀ y ∈ ys,0 ≤ y ∧ y ≤ 255) :
  (∃ c,DEC ys n = ([],c) ∧ c ≠ 0) ∨ (∃ l,DEC ys n = (l,0) ∧ Up 60 l ∧ (l.length : Int) = n ∧ l.length ≤ 65536 ∧ enc l = ys):=by
 unfold DEC
 by_cases hn : n < 0 ∨ 65536 < n
 ·rw [if_pos hn];exact .inl ⟨1,rfl,by decide⟩
 ·rw [if_neg hn]
  rcases dec_only (n:=n.toNat) hr with ⟨c,h1,h2⟩ | ⟨l,h1,h2,h3,h4⟩
  ·exact .inl ⟨c,h1,by omega⟩
  ·exact .inr ⟨l,h1,h2,by omega,by omega,h4⟩
theorem DEC_nat (ys : List Int) (n : Nat) (h : n ≤ 65536) : DEC ys n = dec ys n:=by
 unfold DEC
 rw [if_neg (by omega)]
 rfl
end Go.Proofs.YthapipgaohlgdaaGreatDoor
