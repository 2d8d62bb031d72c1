/- Several texts in one: Rw11, Re11, Rg9. -/
import Derived.Test.YthapipgaohlgdaaGreatDoorG13
import Derived.Test.YthapipgaohlgdaaGreatDoorG26
import Derived.BigQuiet
import Derived.Test.YthapipgaohlgdaaGreatDoorG16


namespace Go.Proofs.YthapipgaohlgdaaGreatDoor
set_option maxRecDepth 100000
open Go.RowKit
set_option maxHeartbeats 400000 in
theorem rvway_arg (v : Value) (tag : Int) (w : World) (h : tag < 0 ∨ 3 < tag) : Calls Tryz.prog 44 #[v,.int .i64 tag] w fun e w' => e = .returned (.tuple #[.slice none 0 0,.int .i64 1]) ∧ w = w':=by
 by_cases h0 : tag < 0
 ·have d0 : decide (tag < 0) = true:=decide_eq_true h0
  clear h h0
  go_enter Tryz.func44,Tryz.ntmps44
  go_wp2
  go_ret2
  exact ⟨rfl,rfl⟩
 ·have d0 : decide (tag < 0) = false:=decide_eq_false h0
  have d1 : decide (3 < tag) = true:=decide_eq_true (by omega)
  clear h h0
  go_enter Tryz.func44,Tryz.ntmps44
  go_wp2
  go_ret2
  exact ⟨rfl,rfl⟩
set_option maxHeartbeats 400000 in
theorem rvway_long (v : Value) (l : List Int) (tag : Int) (w : World) (h : Bs .u64 w v l) (h0 : 0 ≤ tag) (h3 : tag ≤ 3) (hl : 65536 < l.length) : Calls Tryz.prog 44 #[v,.int .i64 tag] w fun e w' => e = .returned (.tuple #[.slice none 0 0,.int .i64 4]) ∧ w = w':=by
 obtain ⟨ao,cap,rfl⟩:=h.len
 have d1 : decide ((65536 : Int) < (l.length : Int)) = true:=decide_eq_true (by omega)
 have d1' : decide (65536 < l.length) = true:=decide_eq_true hl
 have e0 : decide (tag < 0) = false:=decide_eq_false (by omega)
 have e1 : decide (3 < tag) = false:=decide_eq_false (by omega)
 clear h h0 h3 hl
 go_enter Tryz.func44,Tryz.ntmps44
 go_wp2
 go_ret2
 exact ⟨rfl,rfl⟩
set_option maxHeartbeats 800000 in
theorem rvway_0 (v : Value) (l : List Int) (w : World) (h : Bs .u64 w v l) (hl : l.length ≤ 65536) :
  Calls Tryz.prog 44 #[v,.int .i64 0] w fun e w' => ∃ u,e = .returned (.tuple #[u,.int .i64 0]) ∧ w'.ownsRow w.heap.size 5 1 u (fx8 l).length ((fx8 l).map (Value.int .u8)) ∧ Only (fun _ => False) w w':=by
 obtain ⟨i0,hi,hz0,hz1,hz2⟩:=info_parts Tryz.infoU8
 have HB:=hideIt h
 obtain ⟨ao,cap,rfl⟩:=h.len
 obtain ⟨n,hn⟩ : ∃ n,n = l.length:=⟨_,rfl⟩
 rw [← hn] at hl HB
 rw [← hn]
 have HN:=hideIt hn
 have d1 : decide ((65536 : Int) < (n : Int)) = false:=decide_eq_false (by omega)
 have d1' : decide (65536 < n) = false:=decide_eq_false (by omega)
 clear h hn
 go_enter Tryz.func44,Tryz.ntmps44
 go_wp2
 go_loopw [6,7] (fun s i wr => ∃ k : Nat,k ≤ n ∧ i = .int .i64 k ∧ wr.ownsRow w.heap.size 5 1 s (fx8 (l.take k)).length ((fx8 (l.take k)).map (Value.int .u8)) ∧ Only (fun _ => False) w wr) (fun _ i _ => n - (intOf i).toNat)
 case atStart => exact ⟨0,Nat.zero_le _,rfl,World.ownsRow_nil _ _ _ _,Only.refl _ _⟩
 case round =>
  obtain ⟨k,hk,rfl,hown,hon⟩:=hrel
  have HOWN:=hideIt hown
  have HON:=hideIt hon
  by_cases hlt : k < n
  ·have dlt : decide ((k : Int) < (n : Int)) = true:=by simp;omega
   obtain ⟨b,off,cap',e1,hc0⟩:=(HB.out.past hon).at k (by rw [← HN.out];exact hlt)
   have ea : ao = some ⟨b,off,none⟩:=by simp at e1;exact e1.1
   subst ea
   clear e1
   have HST:=hideIt (fx8_take l k (by rw [← HN.out];exact hlt))
   have HFL : Hid ((fx8 (l.take k)).length ≤ 8 * n):=by
    simp only [Hid];rw [fx8_len,List.length_take];omega
   obtain ⟨f1,hf1⟩ : ∃ f1,f1 = fx8 (l.take (k + 1)):=⟨_,rfl⟩
   rw [← hf1] at HST
   have HF1:=hideIt hf1
   clear hf1
   generalize fx8 (l.take k) = f0 at *
   generalize l.getD k 0 = x at *
   clear hown hon HB
   go_wp2_with fail
   refine (rfix_any _ 8 wr (by omega)).mono ?_
   rintro e w4 ⟨u,rfl,own4,o4⟩
   have ow:=o4.own HOWN.out (fun _ _ f => f)
   have hb4:=Bs.of_own own4
   have NC4:=hideIt (NoCap.of_own own4)
   have HB4:=hideIt hb4
   have hs4 : w.heap.size ≤ w4.heap.size:=Nat.le_trans HON.out.size o4.size
   have O4:=hideIt (HON.out.trans o4 (fun _ _ f => f))
   obtain ⟨a4,c4,e4⟩:=hb4.len
   subst e4
   clear o4 own4 HON HOWN hb4
   rw [fixL_len] at HB4 NC4
   go_wp2_with (at_builtin;refine wpList_append_bs _ rfl _ _ _ rfl w.heap.size 5 i0 (.int .u8 0) 1 Tryz.underlying26 hi hz0 hz1 hz2 rfl _ _ _ rfl ow .u8 _ (fixL x 8) rfl HB4.out NC4.out ?c3 ?c4 hs4 ?_)
   case c3 => have:=HFL.out;rw [fixL_len];unfold maxLen;omega
   case c4 => have:=HFL.out;rw [fixL_len];omega
   intro v6 w6 own6 hgrow6 _ _
   have OWN6 : Hid (w6.ownsRow w.heap.size 5 1 v6 f1.length (f1.map (Value.int .u8))):=by
    simp only [Hid];rw [HST.out,List.length_append,List.map_append];exact own6
   have O6:=hideIt (O4.out.grown hgrow6 (fun k hk e => absurd (ow.lt k e).1 (by omega)))
   clear ow own6 hgrow6
   go_wp2
   go_roundw
   case rel => exact ⟨k + 1,by omega,by go_num,by rw [← HF1.out];exact OWN6.out,O6.out⟩
   case measure => simp [intOf];omega
  ·obtain rfl : k = n:=by omega
   have dlt : decide ((k : Int) < (k : Int)) = false:=by simp
   have HL : Hid (l.take k = l):=by simp only [Hid];exact List.take_of_length_le (by rw [← HN.out];exact Nat.le_refl _)
   rw [HL.out] at HOWN
   clear hown hon HB
   go_wp2
   go_ret2
   exact ⟨_,rfl,HOWN.out,HON.out⟩
set_option maxHeartbeats 400000 in
theorem rvway_1nil (v : Value) (w : World) (h : Bs .u64 w v []) :
  Calls Tryz.prog 44 #[v,.int .i64 1] w fun e w' => e = .returned (.tuple #[.slice none 0 0,.int .i64 1]) ∧ w = w':=by
 obtain ⟨ao,cap,rfl⟩:=h.len
 clear h
 go_enter Tryz.func44,Tryz.ntmps44
 go_wp2
 go_ret2
 exact ⟨rfl,rfl⟩
set_option maxHeartbeats 1600000 in
theorem rvway_1 (v : Value) (l : List Int) (w : World) (h : Bs .u64 w v l) (hl : l.length ≤ 65536) (hne : l ≠ []) :
  Calls Tryz.prog 44 #[v,.int .i64 1] w fun e w' => ∃ u,e = .returned (.tuple #[u,.int .i64 (W11 l 1).2]) ∧ w'.ownsRow w.heap.size 5 1 u (W11 l 1).1.length ((W11 l 1).1.map (Value.int .u8)) ∧ Only (fun _ => False) w w':=by
 have hp : 0 < l.length:=List.length_pos_iff.2 hne
 obtain ⟨X,hX⟩ : ∃ X,X = W11 l 1:=⟨_,rfl⟩
 rw [← hX]
 rw [W11_1] at hX
 have HXN : Hid (∀ k,k < l.length → l.getD k 0 ≠ l.getD 0 0 → X = ([],1)):=fun k hk hx => by rw [hX,if_pos (.inr (allSame_at hk hx))]
 have HXY : Hid ((∀ k,k < l.length → l.getD k 0 = l.getD 0 0) → X = (fixL (l.getD 0 0) 8,0)):=fun hk => by
  rw [hX,if_neg (by
   intro c;rcases c with c | c
   ·exact hne c
   ·exact c (allSame_of hk))]
 have HB:=hideIt h
 obtain ⟨b,off,cap,e1,hc1⟩:=h.at 0 hp
 subst e1
 rw [Nat.add_zero] at hc1
 obtain ⟨n,hn⟩ : ∃ n,n = l.length:=⟨_,rfl⟩
 rw [← hn] at hl HB hp HXN HXY
 rw [← hn]
 have HN:=hideIt hn
 have d1 : decide ((65536 : Int) < (n : Int)) = false:=decide_eq_false (by omega)
 have d1' : decide (65536 < n) = false:=decide_eq_false (by omega)
 have dn : ((n : Int) == 0) = false:=by rw [beq_eq_false_iff_ne];omega
 have bd : (0 : Int) < (n : Int):=by omega
 clear h hn hX hne
 go_enter Tryz.func44,Tryz.ntmps44
 go_wp2
 go_loopw [8] (fun i wr => ∃ k : Nat,k ≤ n ∧ i = .int .i64 k ∧ Hid (∀ j,j < k → l.getD j 0 = l.getD 0 0) ∧ Only (fun _ => False) w wr) (fun i _ => n - (intOf i).toNat)
 case atStart => exact ⟨0,Nat.zero_le _,rfl,fun j hj => absurd hj (by omega),Only.refl _ _⟩
 case round =>
  obtain ⟨k,hk,rfl,HS,hon⟩:=hrel
  have HON:=hideIt hon
  have hcW : wr.cell? ⟨b,off,none⟩ = some (.int .u64 (l.getD 0 0)):=by
   rw [← hc1];exact World.cell?_of_block (hon.block b (World.block_lt_of_cell? w _ hc1) (fun f => f))
  by_cases hlt : k < n
  ·have dlt : decide ((k : Int) < (n : Int)) = true:=by simp;omega
   have b2 : (k : Int) < (n : Int):=by omega
   obtain ⟨b',off',cap',e1,hc0⟩:=(HB.out.past hon).at k (by rw [← HN.out];exact hlt)
   simp at e1
   obtain ⟨⟨rfl,rfl⟩,e3⟩:=e1
   by_cases hx : l.getD k 0 = l.getD 0 0
   ·have HS' : Hid (∀ j,j < k + 1 → l.getD j 0 = l.getD 0 0):=fun j hj => by
     rcases Nat.lt_or_ge j k with h | h
     ·exact HS.out j h
     ·obtain rfl : j = k:=by omega
      exact hx
    rw [hx] at hc0
    generalize l.getD 0 0 = x at *
    have dx : (x != x) = false:=by simp
    clear hx HB e3 hon hc1
    go_wp2_with fail
    go_quiet (fail)
    go_wp2
    go_roundw
    case rel => exact ⟨k + 1,by omega,by go_num,HS',HON.out.drewN _⟩
    case measure => simp [intOf];omega
   ·have hX:=HXN.out k hlt hx
    have HX:=hideIt hX
    have dx : (l.getD k 0 != l.getD 0 0) = true:=bne_iff_ne.2 hx
    clear HXY HXN
    generalize l.getD 0 0 = x at *
    generalize l.getD k 0 = y at *
    clear hx HB HS e3 hon hc1 hX
    go_wp2_with fail
    go_quiet (fail)
    go_wp2
    go_ret2
    rw [HX.out]
    exact ⟨_,rfl,World.ownsRow_nil _ _ _ _,HON.out.drewN _⟩
  ·obtain rfl : k = n:=by omega
   have dlt : decide ((k : Int) < (k : Int)) = false:=by simp
   have HX:=hideIt (HXY.out HS.out)
   clear HXN HXY HS HB hc1 hon
   generalize l.getD 0 0 = x at *
   go_wp2_with fail
   refine (rfix_any _ 8 wr (by omega)).mono ?_
   rintro e w4 ⟨u,rfl,own4,o4⟩
   have F : Hid (w4.ownsRow w.heap.size 5 1 u (fixL x 8).length ((fixL x 8).map (Value.int .u8)) ∧ Only (fun _ => False) w w4):=⟨own_low own4 HON.out.size,HON.out.same o4⟩
   clear own4 o4
   go_wp2
   go_ret2
   rw [HX.out]
   exact ⟨u,rfl,F.out.1,F.out.2⟩
set_option maxHeartbeats 800000 in
theorem rvway_2 (v : Value) (l : List Int) (w : World) (h : Bs .u64 w v l) (hu : U64 l) (hl : l.length ≤ 10000) :
  Calls Tryz.prog 44 #[v,.int .i64 2] w fun e w' => ∃ u,e = .returned (.tuple #[u,.int .i64 (ENC10 l).2]) ∧ w'.ownsRow w.heap.size 5 1 u (ENC10 l).1.length ((ENC10 l).1.map (Value.int .u8)) ∧ Only (fun _ => False) w w':=by
 have F:=hideIt (rencode10_all v l w h hu (.inl hl))
 obtain ⟨ao,cap,rfl⟩:=h.len
 have d1 : decide ((65536 : Int) < (l.length : Int)) = false:=decide_eq_false (by omega)
 have d1' : decide (65536 < l.length) = false:=decide_eq_false (by omega)
 generalize ENC10 l = E at *
 obtain ⟨E1,E2⟩:=E
 simp only at F ⊢
 clear h hl hu
 go_enter Tryz.func44,Tryz.ntmps44
 go_wp2_with fail
 refine F.out.mono ?_
 rintro e w2 ⟨u,rfl,own2,o2⟩
 have R:=hideIt (And.intro own2 o2)
 clear own2 o2 F
 go_wp2
 go_ret2
 exact ⟨u,rfl,R.out.1,R.out.2⟩
set_option maxHeartbeats 800000 in
theorem rvway_3 (v : Value) (l : List Int) (w : World) (h : Bs .u64 w v l) (hu : U64 l) (hl : l.length ≤ 10000) :
  Calls Tryz.prog 44 #[v,.int .i64 3] w fun e w' => ∃ u,e = .returned (.tuple #[u,.int .i64 (ENC9 l).2]) ∧ w'.ownsRow w.heap.size 5 1 u (ENC9 l).1.length ((ENC9 l).1.map (Value.int .u8)) ∧ Only (fun _ => False) w w':=by
 have F:=hideIt (rencode9_all v l w h hu (.inl hl))
 obtain ⟨ao,cap,rfl⟩:=h.len
 have d1 : decide ((65536 : Int) < (l.length : Int)) = false:=decide_eq_false (by omega)
 have d1' : decide (65536 < l.length) = false:=decide_eq_false (by omega)
 generalize ENC9 l = E at *
 obtain ⟨E1,E2⟩:=E
 simp only at F ⊢
 clear h hl hu
 go_enter Tryz.func44,Tryz.ntmps44
 go_wp2_with fail
 refine F.out.mono ?_
 rintro e w2 ⟨u,rfl,own2,o2⟩
 have R:=hideIt (And.intro own2 o2)
 clear own2 o2 F
 go_wp2
 go_ret2
 exact ⟨u,rfl,R.out.1,R.out.2⟩
theorem rway11_any (v : Value) (l : List Int) (tag : Int) (w : World) (h : Bs .u64 w v l) (hu : U64 l) (hl : l.length ≤ 10000 ∨ 65536 < l.length) :
  Calls Tryz.prog 44 #[v,.int .i64 tag] w fun e w' => ∃ u,e = .returned (.tuple #[u,.int .i64 (WAY11 l tag).2]) ∧ w'.ownsRow w.heap.size 5 1 u (WAY11 l tag).1.length ((WAY11 l tag).1.map (Value.int .u8)) ∧ Only (fun _ => False) w w':=by
 unfold WAY11
 by_cases ht : tag < 0 ∨ 3 < tag
 ·rw [if_pos ht]
  refine (rvway_arg v tag w ht).mono ?_
  rintro e w' ⟨rfl,rfl⟩
  exact ⟨_,rfl,World.ownsRow_nil _ _ _ _,Only.refl _ _⟩
 ·rw [if_neg ht]
  by_cases hl6 : 65536 < l.length
  ·rw [if_pos hl6]
   refine (rvway_long v l tag w h (by omega) (by omega) hl6).mono ?_
   rintro e w' ⟨rfl,rfl⟩
   exact ⟨_,rfl,World.ownsRow_nil _ _ _ _,Only.refl _ _⟩
  ·rw [if_neg hl6]
   obtain ⟨t,rfl⟩:=Int.eq_ofNat_of_zero_le (show 0 ≤ tag by omega)
   rw [Int.toNat_natCast]
   rcases tag_cases (t:=t) (by omega) with rfl | rfl | rfl | rfl
   ·rw [W11_0];exact rvway_0 v l w h (by omega)
   ·by_cases hne : l = []
    ·subst hne
     rw [W11_1,if_pos (.inl rfl)]
     refine (rvway_1nil v w h).mono ?_
     rintro e w' ⟨rfl,rfl⟩
     exact ⟨_,rfl,World.ownsRow_nil _ _ _ _,Only.refl _ _⟩
    ·exact rvway_1 v l w h (by omega) hne
   ·rw [W11_2];exact rvway_2 v l w h hu (by omega)
   ·rw [W11_3];exact rvway_3 v l w h hu (by omega)
theorem rway11_nat (v : Value) (l : List Int) (t : Nat) (w : World) (h : Bs .u64 w v l) (hu : U64 l) (hl : l.length ≤ 10000) (ht : t ≤ 3) :
  Calls Tryz.prog 44 #[v,.int .i64 t] w fun e w' => ∃ u,e = .returned (.tuple #[u,.int .i64 (W11 l t).2]) ∧ w'.ownsRow w.heap.size 5 1 u (W11 l t).1.length ((W11 l t).1.map (Value.int .u8)) ∧ Only (fun _ => False) w w':=by
 have:=rway11_any v l t w h hu (.inl hl)
 rw [WAY11_nat (by omega) t ht] at this
 exact this
end Go.Proofs.YthapipgaohlgdaaGreatDoor


namespace Go.Proofs.YthapipgaohlgdaaGreatDoor
set_option maxRecDepth 100000
open Go.RowKit
theorem pick11_len (l : List Int) (t : Nat) : (pick11 l t).2.length ≤ 8 * l.length:=by
 have h:=(pick11_spec l t).2.2 0 (by omega) rfl
 rw [W11_0] at h
 simp only [fx8_len] at h
 exact h
set_option maxHeartbeats 400000 in
theorem rencode11_long (v : Value) (l : List Int) (w : World) (h : Bs .u64 w v l) (hl : 65536 < l.length) :
  Calls Tryz.prog 26 #[v] w fun e w' => e = .returned (.tuple #[.slice none 0 0,.int .i64 4]) ∧ w = w':=by
 obtain ⟨ao,cap,rfl⟩:=h.len
 have d0 : decide ((65536 : Int) < l.length) = true:=decide_eq_true (by omega)
 clear h hl
 generalize l.length = n at *
 go_enter Tryz.func26,Tryz.ntmps26
 go_wp2
 try rw [Exit.noGoto_ret]
 go_ret2
 exact ⟨rfl,rfl⟩
set_option maxHeartbeats 1600000 in
theorem rencode11_bs (v : Value) (l : List Int) (w : World) (h : Bs .u64 w v l) (hg : U64 l) (hl : l.length ≤ 10000) :
  Calls Tryz.prog 26 #[v] w fun e w' => ∃ u,e = .returned (.tuple #[u,.int .i64 0]) ∧ w'.ownsRow w.heap.size 5 1 u (((pick11 l 3).1 : Int) :: (pick11 l 3).2).length ((((pick11 l 3).1 : Int) :: (pick11 l 3).2).map (Value.int .u8)) ∧ Only (fun _ => False) w w':=by
 obtain ⟨i0,hi,hz0,hz1,hz2⟩:=info_parts Tryz.infoU8
 have WY : Hid (∀ (t : Nat) (w1 : World),t ≤ 3 → Only (fun _ => False) w w1 → Calls Tryz.prog 44 #[v,.int .i64 t] w1 fun e w' => ∃ u,e = .returned (.tuple #[u,.int .i64 (W11 l t).2]) ∧ w'.ownsRow w1.heap.size 5 1 u (W11 l t).1.length ((W11 l t).1.map (Value.int .u8)) ∧ Only (fun _ => False) w1 w') :=
  fun t w1 ht o => by
   exact rway11_nat v l t w1 (h.past o) hg hl ht
 have HP : Hid (∀ t,(pick11 l t).1 ≤ t ∧ (pick11 l t).2.length ≤ 8 * l.length):=fun t => ⟨(pick11_spec l t).1,pick11_len l t⟩
 have HPS : Hid (∀ t,pick11 l (t + 1) = if (W11 l (t + 1)).2 = 0 ∧ (W11 l (t + 1)).1.length < (pick11 l t).2.length then (t + 1,(W11 l (t + 1)).1) else pick11 l t):=fun t => rfl
 have HP0 : Hid (pick11 l 0 = (0,(W11 l 0).1) ∧ (W11 l 0).2 = 0):=⟨rfl,rfl⟩
 obtain ⟨pp,hpp⟩ : ∃ pp,pp = ((pick11 l 3).1 : Int) :: (pick11 l 3).2:=⟨_,rfl⟩
 rw [← hpp]
 have HPP:=hideIt hpp
 obtain ⟨ao,cap,rfl⟩:=h.len
 have d0 : decide ((65536 : Int) < l.length) = false:=decide_eq_false (by omega)
 clear h hg hpp
 go_enter Tryz.func26,Tryz.ntmps26
 go_wp2
 go_loopw [4,5,6] (fun s4 s5 s6 wr => ∃ t : Nat,t ≤ 4 ∧ s6 = .int .i64 t ∧ Only (fun _ => False) w wr ∧ ((t = 0 ∧ s4 = .int .i64 (-1) ∧ s5 = .slice none 0 0) ∨ (∃ t',t = t' + 1 ∧ s4 = .int .i64 ((pick11 l t').1 : Nat) ∧ wr.ownsRow w.heap.size 5 1 s5 (pick11 l t').2.length ((pick11 l t').2.map (Value.int .u8))))) (fun _ _ s6 _ => 4 - (intOf s6).toNat)
 case atStart => exact ⟨0,by omega,rfl,Only.refl _ _,.inl ⟨rfl,rfl,rfl⟩⟩
 case round =>
  obtain ⟨t,ht,rfl,hon,hcase⟩:=hrel
  have HON:=hideIt hon
  clear hon
  rcases hcase with ⟨rfl,rfl,rfl⟩ | ⟨t',rfl,rfl,hown⟩
  ·have WT:=WY.out 0 wr (by omega) HON.out
   have hp0:=HP0.out
   rw [hp0.2] at WT
   have WT:=hideIt WT
   have HQ:=hideIt hp0.1
   generalize (W11 l 0).1 = W1 at *
   clear hp0 WY HPS HP HP0
   go_wp2_with fail
   refine WT.out.mono ?_
   rintro e w3 ⟨v3,rfl,own3,o3⟩
   clear WT
   have OW3:=hideIt (own_low own3 HON.out.size)
   have O3:=hideIt (HON.out.same o3)
   obtain ⟨f3,c3,e3⟩:=(Bs.of_own own3).len
   subst e3
   clear own3 o3
   generalize hn1 : W1.length = n1 at *
   go_wp2
   go_roundw
   case rel =>
    refine ⟨1,by omega,by simp,O3.out,.inr ⟨0,rfl,?_,?_⟩⟩
    ·rw [HQ.out];rfl
    ·rw [HQ.out]
     simp only [hn1]
     exact OW3.out
   case measure => simp [intOf]
  ·have HOWN:=hideIt hown
   obtain ⟨f2,c2,e2⟩:=(Bs.of_own hown).len
   subst e2
   clear hown
   have hp1:=(HP.out t').1
   have HPL:=hideIt (HP.out t').2
   have HST:=hideIt (HPS.out t')
   have dm : decide (((pick11 l t').1 : Int) < 0) = false:=decide_eq_false (by omega)
   by_cases hlt : t' < 3
   ·have dlt : decide (((t' + 1 : Nat) : Int) ≤ 3) = true:=decide_eq_true (by omega)
    have WT:=hideIt (WY.out (t' + 1) wr (by omega) HON.out)
    generalize W11 l (t' + 1) = W at *
    obtain ⟨W1,c⟩:=W
    simp only at WT HST
    obtain ⟨pn,hpn⟩ : ∃ pn,pn = pick11 l (t' + 1):=⟨_,rfl⟩
    rw [← hpn] at HST
    have HPN:=hideIt hpn
    generalize pick11 l t' = p at *
    obtain ⟨p1,p2⟩:=p
    simp only at HOWN HST hp1 HPL dm
    clear hpn WY HPS HP HP0
    go_wp2_with fail
    refine WT.out.mono ?_
    rintro e w3 ⟨v3,rfl,own3,o3⟩
    clear WT
    have OW3:=hideIt (own_low own3 HON.out.size)
    have OWP:=hideIt (o3.own HOWN.out (fun _ _ f => f))
    have O3:=hideIt (HON.out.same o3)
    obtain ⟨f3,c3,e3⟩:=(Bs.of_own own3).len
    subst e3
    clear own3 o3
    by_cases hc : c = 0
    ·subst hc
     by_cases hlen : W1.length < p2.length
     ·have dl : decide ((W1.length : Int) < (p2.length : Int)) = true:=decide_eq_true (by omega)
      rw [if_pos ⟨rfl,hlen⟩] at HST
      generalize hn1 : W1.length = n1 at *
      generalize hn2 : p2.length = n2 at *
      go_wp2
      go_roundw
      case rel =>
       refine ⟨t' + 2,by omega,by simp;omega,O3.out,.inr ⟨t' + 1,rfl,?_,?_⟩⟩
       ·rw [← HPN.out,HST.out];simp
       ·rw [← HPN.out,HST.out]
        simp only [hn1]
        exact OW3.out
      case measure => simp [intOf];omega
     ·have dl : decide ((W1.length : Int) < (p2.length : Int)) = false:=decide_eq_false (by omega)
      rw [if_neg (fun hh => hlen hh.2)] at HST
      generalize hn1 : W1.length = n1 at *
      generalize hn2 : p2.length = n2 at *
      go_wp2
      go_roundw
      case rel =>
       refine ⟨t' + 2,by omega,by simp;omega,O3.out,.inr ⟨t' + 1,rfl,?_,?_⟩⟩
       ·rw [← HPN.out,HST.out]
       ·rw [← HPN.out,HST.out]
        simp only [hn2]
        exact OWP.out
      case measure => simp [intOf];omega
    ·have dc : (c == 0) = false:=by rw [beq_eq_false_iff_ne];exact hc
     rw [if_neg (fun hh => hc hh.1)] at HST
     generalize hn2 : p2.length = n2 at *
     go_wp2
     go_roundw
     case rel =>
      refine ⟨t' + 2,by omega,by simp;omega,O3.out,.inr ⟨t' + 1,rfl,?_,?_⟩⟩
      ·rw [← HPN.out,HST.out]
      ·rw [← HPN.out,HST.out]
       simp only [hn2]
       exact OWP.out
     case measure => simp [intOf];omega
   ·obtain rfl : t' = 3:=by omega
    clear HST HPS HP HP0 WY
    generalize pick11 l 3 = p at *
    obtain ⟨p1,p2⟩:=p
    simp only at HOWN hp1 HPL HPP dm
    have hq256 : (p1 : Int) < 256:=by omega
    have oA : Only (fun _ => False) wr (wr.alloc (.cells #[.int .u8 p1] 5)):=(Only.refl _ _).alloc _
    have ow:=World.ownsRow_lit (base:=w.heap.size) (e:=5) (size:=1) wr #[.int .u8 p1] 1 HON.out.size (by unfold maxLen;omega) rfl
    have HB4:=hideIt ((Bs.of_own HOWN.out).past oA)
    have NC4:=hideIt (NoCap.of_own HOWN.out)
    have O4:=hideIt (HON.out.same oA)
    have hs4 : w.heap.size ≤ (wr.alloc (.cells #[.int .u8 p1] 5)).heap.size:=O4.out.size
    clear oA HOWN
    go_wp2_with (at_builtin;refine wpList_append_bs _ rfl _ _ _ rfl w.heap.size 5 i0 (.int .u8 0) 1 Tryz.underlying26 hi hz0 hz1 hz2 rfl _ _ _ rfl ow .u8 _ p2 rfl HB4.out NC4.out ?c3 ?c4 hs4 ?_)
    case c3 => have:=HPL.out;unfold maxLen;omega
    case c4 => have:=HPL.out;omega
    intro v6 w6 own6 hgrow6 _ _
    have OWN6 : Hid (w6.ownsRow w.heap.size 5 1 v6 pp.length (pp.map (Value.int .u8))):=by
     simp only [Hid];rw [HPP.out,List.length_cons,List.map_cons,Nat.add_comm];exact own6
    have O6:=hideIt (O4.out.grown hgrow6 (fun k hk e => absurd (ow.lt k e).1 (by omega)))
    obtain ⟨f6,c6,e6⟩:=(Bs.of_own OWN6.out).len
    subst e6
    clear ow own6 hgrow6
    go_wp2
    try rw [Exit.noGoto_ret]
    go_ret2
    exact ⟨_,rfl,OWN6.out,O6.out⟩
theorem rencode11_all (v : Value) (l : List Int) (w : World) (h : Bs .u64 w v l) (hg : U64 l) (hl : l.length ≤ 10000 ∨ 65536 < l.length) :
  Calls Tryz.prog 26 #[v] w fun e w' => ∃ u,e = .returned (.tuple #[u,.int .i64 (ENC11 l).2]) ∧ w'.ownsRow w.heap.size 5 1 u (ENC11 l).1.length ((ENC11 l).1.map (Value.int .u8)) ∧ Only (fun _ => False) w w':=by
 unfold ENC11
 by_cases hl2 : 65536 < l.length
 ·rw [if_pos hl2]
  refine (rencode11_long v l w h hl2).mono ?_
  rintro e w' ⟨rfl,rfl⟩
  exact ⟨_,rfl,World.ownsRow_nil _ _ _ _,Only.refl _ _⟩
 ·rw [if_neg hl2]
  exact rencode11_bs v l w h hg (by omega)
end Go.Proofs.YthapipgaohlgdaaGreatDoor


namespace Go.Proofs.YthapipgaohlgdaaGreatDoor
open Go.RowKit
structure RfAt (w : World) (R : Nat) (v : Value) (l : List Bool) (c : Int) : Prop where
 bs : Bs .i64 w v (bitsI l)
 cell : w.heap[R]? = some (.cells #[v,.int .i64 c] 134 (0,0))
 ap : v.ownBlock ≠ some R
 len : l.length ≤ 1000000
theorem RfAt.keep {w w' : World} {R : Nat} {v : Value} {l : List Bool} {c : Int} (h : RfAt w R v l c) {S : Nat → Prop} (ho : Only S w w') (hR : ¬ S R) (hv : ∀ k,v.ownBlock = some k → ¬ S k) : RfAt w' R v l c :=
 ⟨h.bs.keep ho hv,ho.heap h.cell hR,h.ap,h.len⟩
theorem RfAt.set0 {w : World} {R : Nat} {v v2 : Value} {l2 : List Bool} {c : Int} (h : w.heap[R]? = some (.cells #[v,.int .i64 c] 134 (0,0))) (hb : Bs .i64 w v2 (bitsI l2)) (ha : v2.ownBlock ≠ some R) (hl : l2.length ≤ 1000000) :
  RfAt (w.setCell ⟨R,0,none⟩ v2) R v2 l2 c ∧ Only (fun k => k = R) w (w.setCell ⟨R,0,none⟩ v2):=by
 have o : Only (fun k => k = R) w (w.setCell ⟨R,0,none⟩ v2):=(Only.refl (fun k => k = R) w).setCell (p:=⟨R,0,none⟩) (fun _ => rfl) v2
 exact ⟨⟨hb.keep o (fun k hk e => ha (by rw [hk,e])),(heap_two h v2).1,ha,hl⟩,o⟩
set_option maxHeartbeats 800000 in
theorem rget9_at {w : World} {R : Nat} {v : Value} {l : List Bool} {c : Int} (h : RfAt w R v l c) (n : Nat) (h1 : n ≤ 64) (hs : n ≤ l.length) :
  Calls Tryz.prog 135 #[.pointer (some ⟨R,0,none⟩),.int .i64 n] w fun e w' => e = .returned (.int .u64 (bnum (l.take n) : Nat)) ∧
   (∃ v',RfAt w' R v' (l.drop n) c ∧ v'.ownBlock = v.ownBlock) ∧ Only (fun k => k = R) w w':=by
 have hl:=h.len
 have G0:=rget_bs v l n w h.bs (by omega) (by omega) (by omega) (by omega)
 rw [Int.toNat_natCast] at G0
 have G:=hideIt G0
 clear G0
 have H:=hideIt h
 obtain ⟨ao,cap,hv⟩:=h.bs.len
 subst hv
 obtain ⟨c0,c1,f0,f1⟩:=two_cells h.cell
 clear h
 rw [bitsI_length] at G H c0 ⊢
 generalize hml : l.length = m at *
 have HML:=hideIt hml
 clear hml
 go_enter Tryz.func135,Tryz.ntmps135
 go_wp2_with fail
 refine G.out.mono ?_
 rintro e w1 ⟨v1,rfl,b1,o1,e1⟩
 have g1:=o1.heap H.out.cell (fun f => f)
 obtain ⟨_,_,k0,k1⟩:=two_cells g1
 have ST:=hideIt (RfAt.set0 g1 b1 (by rw [e1];exact H.out.ap) (by have:=HML.out;rw [List.length_drop];omega))
 have O1:=hideIt o1
 have E1:=hideIt e1
 obtain ⟨f1',cp1,ev⟩:=b1.len
 subst ev
 clear G g1 b1 o1 e1 c0 c1 f0 f1
 go_wp2
 go_ret
 exact ⟨rfl,⟨_,ST.out.1,E1.out⟩,(O1.out.mono (T:=fun k => k = R) (fun _ _ f => f.elim)).trans ST.out.2 (fun _ _ e => e)⟩
set_option maxHeartbeats 800000 in
theorem rget9_cut {w : World} {R : Nat} {v : Value} {l : List Bool} (h : RfAt w R v l 0) (n : Nat) (h1 : n ≤ 64) (hs : l.length < n) :
  Calls Tryz.prog 135 #[.pointer (some ⟨R,0,none⟩),.int .i64 n] w fun e w' => e = .returned (.int .u64 0) ∧ RfAt w' R v l 2 ∧ Only (fun k => k = R) w w':=by
 have H:=hideIt h
 obtain ⟨ao,cap,hv⟩:=h.bs.len
 subst hv
 rw [bitsI_length] at H
 have G:=hideIt (rget_short ao l.length cap n w (by omega) (by omega) (by omega))
 obtain ⟨c0,c1,f0,f1⟩:=two_cells H.out.cell
 clear h
 rw [bitsI_length]
 generalize hml : l.length = m at *
 have HML:=hideIt hml
 clear hml
 go_enter Tryz.func135,Tryz.ntmps135
 go_wp2_with fail
 refine G.out.mono ?_
 rintro e w1 ⟨rfl,rfl⟩
 go_wp2
 go_ret
 have o2 : Only (fun k => k = R) w (w.setCell ⟨R,1,none⟩ (.int .i64 2)):=(Only.refl (fun k => k = R) w).setCell (p:=⟨R,1,none⟩) (fun _ => rfl) _
 have g2:=(heap_two H.out.cell (.int .i64 2)).2
 have ST:=RfAt.set0 g2 (H.out.bs.keep o2 (fun k hk e => H.out.ap (by rw [hk,e]))) H.out.ap H.out.len
 exact ⟨rfl,ST.1,o2.trans ST.2 (fun _ _ e => e)⟩
set_option maxHeartbeats 800000 in
theorem rget9_cut2 {w : World} {R : Nat} {v : Value} {l : List Bool} (h : RfAt w R v l 2) (n : Nat) (h1 : n ≤ 64) (hs : l.length < n) :
  Calls Tryz.prog 135 #[.pointer (some ⟨R,0,none⟩),.int .i64 n] w fun e w' => e = .returned (.int .u64 0) ∧ RfAt w' R v l 2 ∧ Only (fun k => k = R) w w':=by
 have H:=hideIt h
 obtain ⟨ao,cap,hv⟩:=h.bs.len
 subst hv
 rw [bitsI_length] at H
 have G:=hideIt (rget_short ao l.length cap n w (by omega) (by omega) (by omega))
 obtain ⟨c0,c1,f0,f1⟩:=two_cells H.out.cell
 clear h
 rw [bitsI_length]
 generalize hml : l.length = m at *
 have HML:=hideIt hml
 clear hml
 go_enter Tryz.func135,Tryz.ntmps135
 go_wp2_with fail
 refine G.out.mono ?_
 rintro e w1 ⟨rfl,rfl⟩
 go_wp2
 go_ret
 have ST:=RfAt.set0 H.out.cell H.out.bs H.out.ap H.out.len
 exact ⟨rfl,ST.1,ST.2⟩
end Go.Proofs.YthapipgaohlgdaaGreatDoor
