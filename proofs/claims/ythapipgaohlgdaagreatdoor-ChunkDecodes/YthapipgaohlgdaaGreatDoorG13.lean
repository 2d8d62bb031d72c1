/- Several texts in one: Vw, Vp, Gf, Gw, Gw2. -/
import Derived.Test.YthapipgaohlgdaaGreatDoorG9
import Derived.Test.YthapipgaohlgdaaGreatDoorG12
import Derived.Laws.CopyOwn
import Derived.Laws.Bits64b
import Derived.Test.YthapipgaohlgdaaGreatDoorG6
import Derived.Test.YthapipgaohlgdaaGreatDoorG5


namespace Go.Proofs.YthapipgaohlgdaaGreatDoor
set_option maxRecDepth 100000
open Go.RowKit
set_option maxHeartbeats 400000 in
theorem vtag_yes (t : Int) (w : World) (h0 : 0 ≤ t) (h1 : t ≤ 3) : Calls Tryz.prog 87 #[.int .i64 t] w fun e w' => e = .returned (.bool true) ∧ w = w':=by
 have d0 : decide (0 ≤ t) = true:=decide_eq_true h0
 have d1 : decide (t < 4) = true:=decide_eq_true (by omega)
 clear h0 h1
 go_enter Tryz.func87,Tryz.ntmps87
 go_wp2
 go_ret
 exact ⟨rfl,rfl⟩
set_option maxHeartbeats 400000 in
theorem vtag_no (t : Int) (w : World) (h : t < 0 ∨ 3 < t) : Calls Tryz.prog 87 #[.int .i64 t] w fun e w' => e = .returned (.bool false) ∧ w = w':=by
 by_cases h0 : t < 0
 ·have d0 : decide (0 ≤ t) = false:=decide_eq_false (by omega)
  clear h0 h
  go_enter Tryz.func87,Tryz.ntmps87
  go_wp2
  go_ret
  exact ⟨rfl,rfl⟩
 ·have d0 : decide (0 ≤ t) = true:=decide_eq_true (by omega)
  have d1 : decide (t < 4) = false:=decide_eq_false (by omega)
  clear h0 h
  go_enter Tryz.func87,Tryz.ntmps87
  go_wp2
  go_ret
  exact ⟨rfl,rfl⟩
set_option maxHeartbeats 800000 in
theorem vfixed_any (v : Value) (l : List Int) (w : World) (h : Bs .u64 w v l) (hl : l.length ≤ 65536) :
  Calls Tryz.prog 106 #[v] w fun e w' => ∃ u,e = .returned u ∧ w'.ownsRow w.heap.size 5 1 u (fx8 l).length ((fx8 l).map (Value.int .u8)) ∧ Only (fun _ => False) w w':=by
 obtain ⟨i0,hi,hz0,hz1,hz2⟩:=info_parts Tryz.infoU8
 have HB:=hideIt h
 obtain ⟨ao,cap,rfl⟩:=h.len
 obtain ⟨n,hn⟩ : ∃ n,n = l.length:=⟨_,rfl⟩
 rw [← hn] at hl HB
 rw [← hn]
 have HN:=hideIt hn
 clear h hn
 go_enter Tryz.func106,Tryz.ntmps106
 go_wp2
 go_loopw [3,8] (fun s i wr => ∃ k : Nat,k ≤ n ∧ i = .int .i64 k ∧ wr.ownsRow w.heap.size 5 1 s (fx8 (l.take k)).length ((fx8 (l.take k)).map (Value.int .u8)) ∧ Only (fun _ => False) w wr) (fun _ i _ => n - (intOf i).toNat)
 case atStart => exact ⟨0,Nat.zero_le _,rfl,World.ownsRow_nil _ _ _ _,Only.refl _ _⟩
 case round =>
  obtain ⟨k,hk,rfl,hown,hon⟩:=hrel
  have HOWN:=hideIt hown
  have HON:=hideIt hon
  by_cases hlt : k < n
  ·have dlt : decide ((k : Int) < (n : Int)) = true:=by simp;omega
   obtain ⟨b,off,cap',e1,hc0⟩:=(HB.out.past hon).at k (by rw [← HN.out];exact hlt)
   have ea : ao = some ⟨b,off,none⟩:=by simp at e1;exact e1.1
   subst ea
   clear e1
   have HST:=hideIt (fx8_take l k (by rw [← HN.out];exact hlt))
   have HFL : Hid ((fx8 (l.take k)).length ≤ 8 * n):=by
    simp only [Hid];rw [fx8_len,List.length_take];omega
   obtain ⟨f1,hf1⟩ : ∃ f1,f1 = fx8 (l.take (k + 1)):=⟨_,rfl⟩
   rw [← hf1] at HST
   have HF1:=hideIt hf1
   clear hf1
   generalize fx8 (l.take k) = f0 at *
   generalize l.getD k 0 = x at *
   clear hown hon HB
   go_wp2_with fail
   refine (fix_any _ 8 wr (by omega)).mono ?_
   rintro e w4 ⟨u,rfl,own4,o4⟩
   have ow:=o4.own HOWN.out (fun _ _ f => f)
   have hb4:=Bs.of_own own4
   have NC4:=hideIt (NoCap.of_own own4)
   have HB4:=hideIt hb4
   have hs4 : w.heap.size ≤ w4.heap.size:=Nat.le_trans HON.out.size o4.size
   have O4:=hideIt (HON.out.trans o4 (fun _ _ f => f))
   obtain ⟨a4,c4,e4⟩:=hb4.len
   subst e4
   clear o4 own4 HON HOWN hb4
   rw [fixL_len] at HB4 NC4
   go_wp2_with (at_builtin;refine wpList_append_bs _ rfl _ _ _ rfl w.heap.size 5 i0 (.int .u8 0) 1 Tryz.underlying26 hi hz0 hz1 hz2 rfl _ _ _ rfl ow .u8 _ (fixL x 8) rfl HB4.out NC4.out ?c3 ?c4 hs4 ?_)
   case c3 => have:=HFL.out;rw [fixL_len];unfold maxLen;omega
   case c4 => have:=HFL.out;rw [fixL_len];omega
   intro v6 w6 own6 hgrow6 _ _
   have OWN6 : Hid (w6.ownsRow w.heap.size 5 1 v6 f1.length (f1.map (Value.int .u8))):=by
    simp only [Hid];rw [HST.out,List.length_append,List.map_append];exact own6
   have O6:=hideIt (O4.out.grown hgrow6 (fun k hk e => absurd (ow.lt k e).1 (by omega)))
   clear ow own6 hgrow6
   go_wp2
   go_roundw
   case rel => exact ⟨k + 1,by omega,by go_num,by rw [← HF1.out];exact OWN6.out,O6.out⟩
   case measure => simp [intOf];omega
  ·obtain rfl : k = n:=by omega
   have dlt : decide ((k : Int) < (k : Int)) = false:=by simp
   have HL : Hid (l.take k = l):=by simp only [Hid];exact List.take_of_length_le (by rw [← HN.out];exact Nat.le_refl _)
   rw [HL.out] at HOWN
   clear hown hon HB
   go_wp2
   go_ret
   exact ⟨_,rfl,HOWN.out,HON.out⟩
theorem allSame_at {l : List Int} {k : Nat} (hk : k < l.length) (h : l.getD k 0 ≠ l.getD 0 0) : ¬ allSame l:=fun a => h (allSame_iff.1 a _ (by
 rw [List.getD_eq_getElem?_getD,List.getElem?_eq_getElem hk];exact List.getElem_mem hk))
theorem allSame_of {l : List Int} (h : ∀ k,k < l.length → l.getD k 0 = l.getD 0 0) : allSame l:=allSame_iff.2 fun x hx => by
 obtain ⟨k,hk,rfl⟩:=List.getElem_of_mem hx
 have:=h k hk
 rw [List.getD_eq_getElem?_getD,List.getElem?_eq_getElem hk] at this
 exact this
set_option maxHeartbeats 800000 in
theorem areSame_bs (v : Value) (l : List Int) (w : World) (h : Bs .u64 w v l) (hl : l.length ≤ 65536) :
  Calls Tryz.prog 105 #[v] w fun e w' => e = .returned (.bool (decide (¬ (l = [] ∨ ¬ allSame l)))) ∧ w = w':=by
 have HB:=hideIt h
 obtain ⟨ao,cap,rfl⟩:=h.len
 obtain ⟨n,hn⟩ : ∃ n,n = l.length:=⟨_,rfl⟩
 rw [← hn] at hl HB
 rw [← hn]
 obtain ⟨A,hA⟩ : ∃ A,A = decide (¬ (l = [] ∨ ¬ allSame l)):=⟨_,rfl⟩
 rw [← hA]
 have HA:=hideIt hA
 have HN:=hideIt hn
 clear h hn hA
 go_enter Tryz.func105,Tryz.ntmps105
 go_wp2
 go_loop [7] (fun i => ∃ k : Nat,k ≤ n ∧ i = .int .i64 k ∧ Hid (∀ j,j < k → l.getD j 0 = l.getD 0 0)) (fun i => n - (intOf i).toNat)
 case atStart => exact ⟨0,Nat.zero_le _,rfl,fun j hj => absurd hj (by omega)⟩
 case round =>
  obtain ⟨k,hk,rfl,HS⟩:=hrel
  by_cases hlt : k < n
  ·have dlt : decide ((k : Int) < (n : Int)) = true:=by simp;omega
   obtain ⟨b,off,cap',e1,hc0⟩:=HB.out.at k (by rw [← HN.out];exact hlt)
   have ea : ao = some ⟨b,off,none⟩:=by simp at e1;exact e1.1
   subst ea
   clear e1
   obtain ⟨b',off',cap2,e2,hc1⟩:=HB.out.at 0 (by rw [← HN.out];omega)
   simp at e2
   obtain ⟨⟨rfl,rfl⟩,e3⟩:=e2
   clear e3
   rw [Nat.add_zero] at hc1
   have bd : (0 : Int) < (n : Int):=by omega
   by_cases hx : l.getD k 0 = l.getD 0 0
   ·have HS' : Hid (∀ j,j < k + 1 → l.getD j 0 = l.getD 0 0):=fun j hj => by
     rcases Nat.lt_or_ge j k with h | h
     ·exact HS.out j h
     ·obtain rfl : j = k:=by omega
      exact hx
    rw [hx] at hc0
    generalize l.getD 0 0 = x at *
    have dx : (x != x) = false:=by simp
    clear hx HB
    go_wp2
    go_round
    case rel => exact ⟨k + 1,by omega,by go_num,HS'⟩
    case measure => simp [intOf];omega
   ·have HF : Hid (A = false):=by
     simp only [Hid];rw [HA.out]
     exact decide_eq_false (fun c => c (.inr (allSame_at (by rw [← HN.out];exact hlt) hx)))
    have dx : (l.getD k 0 != l.getD 0 0) = true:=bne_iff_ne.2 hx
    generalize l.getD 0 0 = x at *
    generalize l.getD k 0 = y at *
    clear hx HB HS
    go_wp2
    go_ret
    rw [HF.out]
    exact ⟨rfl,rfl⟩
  ·obtain rfl : k = n:=by omega
   have dlt : decide ((k : Int) < (k : Int)) = false:=by simp
   by_cases h0 : k = 0
   ·have HF : Hid (A = false):=by
     simp only [Hid];rw [HA.out]
     exact decide_eq_false (fun c => c (.inl (List.eq_nil_of_length_eq_zero (by rw [← HN.out];exact h0))))
    have d2 : decide ((0 : Int) < (k : Int)) = false:=by simp;omega
    have d2' : decide (0 < k) = false:=by simp;omega
    clear h0 HB HS
    go_wp2
    go_ret
    rw [HF.out]
    exact ⟨rfl,rfl⟩
   ·have HF : Hid (A = true):=by
     simp only [Hid];rw [HA.out]
     refine decide_eq_true (fun c => ?_)
     rcases c with c | c
     ·rw [c] at HN;exact h0 HN.out
     ·exact c (allSame_of (by rw [← HN.out];exact HS.out))
    have d2 : decide ((0 : Int) < (k : Int)) = true:=by simp;omega
    have d2' : decide (0 < k) = true:=by simp;omega
    clear h0 HB HS
    go_wp2
    go_ret
    rw [HF.out]
    exact ⟨rfl,rfl⟩
end Go.Proofs.YthapipgaohlgdaaGreatDoor


namespace Go.Proofs.YthapipgaohlgdaaGreatDoor
set_option maxRecDepth 100000
open Go.RowKit
theorem and32 (n : Nat) (h : n ≤ 65536) : bits .and .u64 (n : Int) 4294967295 = n:=by
 have:=bits_and_u64_nat n 4294967295 (by omega) (by omega)
 rw [show (4294967295 : Nat) = 2 ^ 32 - 1 by decide,Nat.and_two_pow_sub_one_eq_mod,Nat.mod_eq_of_lt (by omega)] at this
 exact this
set_option maxHeartbeats 400000 in
theorem mul64_one (n : Nat) (w : World) (h : n ≤ 65536) : Calls Tryz.prog 178 #[.int .u64 1,.int .u64 n] w fun e w' => e = .returned (.tuple #[.int .u64 0,.int .u64 n]) ∧ w = w':=by
 have e1 : bits .and .u64 1 4294967295 = 1:=and32 1 (by omega)
 have e0 : bits .and .u64 0 4294967295 = 0:=and32 0 (by omega)
 have e2:=and32 n h
 have e3 : (n : Int) / 4294967296 = 0:=by omega
 have e4 : IntKind.u64.wrap (n : Int) = n:=by rw [IntKind.wrap_u64];omega
 have e5 : IntKind.u64.wrap 0 = 0:=by rw [IntKind.wrap_u64];rfl
 go_enter Tryz.func178,Tryz.ntmps178
 go_wp2
 go_ret2
 exact ⟨rfl,rfl⟩
set_option maxHeartbeats 400000 in
theorem mul_one (n : Nat) (w : World) (h : n ≤ 65536) : Calls Tryz.prog 157 #[.int .u64 1,.int .u64 n] w fun e w' => e = .returned (.tuple #[.int .u64 0,.int .u64 n]) ∧ w = w':=by
 have A:=hideIt (mul64_one n w h)
 clear h
 go_enter Tryz.func157,Tryz.ntmps157
 go_wp2_with fail
 refine A.out.mono ?_
 rintro e w1 ⟨rfl,rfl⟩
 go_wp2
 go_ret2
 exact ⟨rfl,rfl⟩
def fill (x : Int) (n k : Nat) : List Value:=(List.replicate k x ++ List.replicate (n - k) 0).map (Value.int .u64)
theorem fill_length (x : Int) {n k : Nat} (h : k ≤ n) : (fill x n k).length = n:=by simp [fill];omega
theorem fill_all (x : Int) (n : Nat) : fill x n n = (List.replicate n x).map (Value.int .u64):=by simp [fill]
theorem fill_zero (x : Int) (n : Nat) : fill x n 0 = (madeCells #[Value.int .u64 0] (n * 1)).toList:=by
 apply List.ext_getElem?
 intro i
 by_cases h : i < n
 ·simp [fill,madeCells,h,Nat.mod_one]
 ·simp [fill,madeCells,h]
theorem fill_splice (x : Int) {n k m : Nat} : splice (fill x n k) k ((List.replicate m x).map (Value.int .u64)) = fill x n (k + m):=by
 unfold splice fill
 rw [List.map_append,List.map_append,List.take_left' (by simp),List.drop_append,List.drop_of_length_le (by simp),List.length_map,List.length_replicate,List.length_map,List.length_replicate,
  ← List.map_drop,List.drop_replicate,List.nil_append,← List.append_assoc,← List.map_append,List.replicate_append_replicate,show k + m - k = m by omega,show n - k - m = n - (k + m) by omega]
theorem fill_at (x : Int) {n k j : Nat} (hj : j < k) : (fill x n k)[j]? = some (.int .u64 x):=by
 unfold fill
 rw [List.map_append,List.getElem?_append_left (by simp;exact hj)]
 simp [hj]
theorem row_own {w : World} {N n : Nat} {x : Int} {k : Nat} (hk : k ≤ n) (hn : n ≤ 65536) (h : w.heap[N]? = some (.cells (fill x n k).toArray 42 (0,0))) : w.ownsRow N 42 1 (.slice (some ⟨N,0,none⟩) n n) n (fill x n k) :=
 ⟨by rw [fill_length x hk];omega,.inr ⟨N,n,_,rfl,Nat.le_refl _,h,Nat.le_refl _,by unfold maxLen;omega,by simp [fill_length x hk],List.take_of_length_le (by rw [fill_length x hk];omega)⟩⟩
theorem own_row {w : World} {N n : Nat} {xs : List Value} (h : w.ownsRow N 42 1 (.slice (some ⟨N,0,none⟩) n n) n xs) : w.heap[N]? = some (.cells xs.toArray 42 (0,0)):=by
 rcases h.2 with ⟨e,_⟩ | ⟨g,cap,cur,e,_,hg,_,_,hs,ht⟩
 ·cases e
 ·simp at e
  obtain ⟨rfl,rfl⟩:=e
  rw [List.take_of_length_le (by simp;omega)] at ht
  rw [hg,← ht]
theorem one_cells (x : Int) (m : Nat) : ∀ v ∈ (List.replicate m x).map (Value.int .u64),v.oneCell' = true:=oneCell_ints .u64 _
set_option maxHeartbeats 600000 in
theorem repeat_one (B : Nat) (x : Int) (n : Nat) (w : World) (hc : w.cell? ⟨B,0,none⟩ = some (.int .u64 x)) (hn : n ≤ 65536) :
  Calls Tryz.prog 126 #[.slice (some ⟨B,0,none⟩) 1 1,.int .i64 n] w fun e w' => ∃ u,e = .returned u ∧ w'.ownsRow w.heap.size 42 1 u n ((List.replicate n x).map (Value.int .u64)) ∧ Only (fun _ => False) w w':=by
 obtain ⟨i0,hi,hz0,hz1,hz2⟩:=info_parts Tryz.infoU64
 have hsz : (Tryz.prog.info? 42).map (·.size) = some 1:=by rw [hi];simp [hz1]
 obtain ⟨wm,hmk,hown0,hgr⟩:=run_make_full (P:=Tryz.prog) w w.heap.size 46 42 i0 (.int .u64 0) 1 Tryz.underlying46 hi hz0 hz1 .i64 .i64 n (by rw [hz2];omega) (by unfold maxLen;omega) (Nat.le_refl _)
 rw [show (Value.int .u64 0).cells = #[Value.int .u64 0] from rfl,← fill_zero x] at hown0
 have HG0:=hideIt (own_row hown0)
 have om : Only (fun _ => False) w wm:=(Only.refl _ _).grown hgr (fun _ _ e => by cases e)
 have hBm : Below w.heap.size w wm:=om.low (Nat.le_refl _)
 have HBm:=hideIt hBm
 have hcm : wm.cell? ⟨B,0,none⟩ = some (.int .u64 x):=(hBm.cell (p:=⟨B,0,none⟩) (World.block_lt_of_cell? w _ hc)).trans hc
 have M:=hideIt (mul_one n w hn)
 obtain ⟨N,hN⟩ : ∃ N,N = w.heap.size:=⟨_,rfl⟩
 rw [← hN] at hmk HG0 HBm
 rw [← hN]
 have HN:=hideIt hN
 have HCM:=hideIt hcm
 have d0 : decide ((n : Int) < 0) = false:=by simp
 have d2 : decide ((9223372036854775807 : Int) < (n : Int)) = false:=decide_eq_false (by omega)
 clear hN hown0 hgr om hBm hcm
 go_enter Tryz.func126,Tryz.ntmps126
 go_wp2_with fail
 refine M.out.mono ?_
 rintro e w1 ⟨rfl,rfl⟩
 clear M
 obtain ⟨k0,hk0⟩ : ∃ k0,k0 = Nat.min 1 n:=⟨_,rfl⟩
 have hk1 : k0 ≤ n ∧ (k0 = 0 → n = 0):=by rw [hk0];have : Nat.min 1 n = min 1 n:=rfl;omega
 have HCP : ∃ w3,(Builtin.copy_ #[46,46] 3 #[.slice (some ⟨N,0,none⟩) n n,.slice (some ⟨B,0,none⟩) 1 1]).run Tryz.prog wm = .ok (.int .i64 k0) w3 ∧ w3.heap[N]? = some (.cells (fill x n k0).toArray 42 (0,0)) ∧ Below N w w3:=by
  by_cases h0 : n = 0
  ·subst h0
   obtain rfl : k0 = 0:=by omega
   exact ⟨wm,run_copy_none (P:=Tryz.prog) wm 46 46 3 42 _ _ 0 0 1 1 Tryz.underlying46 hsz rfl,HG0.out,HBm.out⟩
  ·obtain rfl : k0 = 1:=by rw [hk0];have : Nat.min 1 n = min 1 n:=rfl;omega
   have hrun:=run_copy_row (P:=Tryz.prog) wm 46 46 3 42 N 0 n n ⟨B,0,none⟩ 1 1 (fill x n 0).toArray 42 [.int .u64 x] Tryz.underlying46 hsz HG0.out hk0
    (fun j v hv => by
     rcases j with _ | j
     ·simp at hv;subst hv;exact HCM.out
     ·simp at hv) (by simp [fill_length];omega) (by intro v hv;simp at hv;subst hv;rfl)
   refine ⟨_,hrun,?_,below_setRow HBm.out (Nat.le_refl _) _⟩
   rw [setRow_heap wm N _ _ 42 _ HG0.out]
   have:=fill_splice x (n:=n) (k:=0) (m:=1)
   simp only [splice,List.replicate_one,List.map_cons,List.map_nil] at this
   rw [← this]
   simp
 obtain ⟨w3,hcp,hg3,hB3⟩:=HCP
 have START:=hideIt (And.intro hk1 (And.intro hg3 hB3))
 clear hk0 hk1 hc hg3 hB3
 go_wp2
 go_loopw [8] (fun i wr => ∃ k : Nat,(k ≤ n ∧ (k = 0 → n = 0)) ∧ i = .int .i64 k ∧ Hid (wr.heap[N]? = some (.cells (fill x n k).toArray 42 (0,0)) ∧ Below N w wr)) (fun i _ => n - (intOf i).toNat)
 case atStart => exact ⟨k0,START.out.1,rfl,START.out.2⟩
 case round =>
  obtain ⟨k,⟨hk,hk0⟩,rfl,HR⟩:=hrel
  clear START hcp
  by_cases hlt : k < n
  ·have dlt : decide ((k : Int) < (n : Int)) = true:=by simp;omega
   have hkp : 0 < k:=by
    rcases Nat.eq_zero_or_pos k with h | h
    ·have:=hk0 h;omega
    ·exact h
   have b1 : (k : Int) ≤ (n : Int):=by omega
   obtain ⟨m,hm⟩ : ∃ m,m = Nat.min k (n - k):=⟨_,rfl⟩
   have hm' : 0 < m ∧ k + m ≤ n ∧ m ≤ k:=by rw [hm];have : Nat.min k (n - k) = min k (n - k):=rfl;omega
   have HL : Hid (((List.replicate m x).map (Value.int .u64)).length = Nat.min k (n - k)):=by simp only [Hid];rw [List.length_map,List.length_replicate,hm]
   have HP : Hid (∀ j v,((List.replicate m x).map (Value.int .u64))[j]? = some v → wr.drew.cell? ((⟨N,0,none⟩ : Addr).add j) = some v):=by
    intro j v hv
    have hj:=(List.getElem?_eq_some_iff.1 hv).1
    rw [List.length_map,List.length_replicate] at hj
    have e : v = .int .u64 x:=by
     have:=List.mem_of_getElem? hv
     simp at this
     exact this.2
    have ha : (⟨N,0,none⟩ : Addr).add j = ⟨N,j,none⟩:=by unfold Addr.add;split <;> simp_all
    rw [ha,e,World.cell?_drew]
    have h1:=(row_own (k:=k) (x:=x) hk hn HR.out.1).cellAt j (by omega)
    rw [h1,fill_at x (by omega)]
   have HF : Hid (k + ((List.replicate m x).map (Value.int .u64)).length ≤ (fill x n k).length):=by simp only [Hid];rw [fill_length x hk,List.length_map,List.length_replicate];omega
   have HS : Hid (splice (fill x n k) k ((List.replicate m x).map (Value.int .u64)) = fill x n (k + m)):=fill_splice x
   have HLR : Hid (((List.replicate m x).map (Value.int .u64)).length = m):=by simp only [Hid];rw [List.length_map,List.length_replicate]
   have HOC:=hideIt (one_cells x m)
   obtain ⟨CS,hCS⟩ : ∃ CS,CS = (List.replicate m x).map (Value.int .u64):=⟨_,rfl⟩
   rw [← hCS] at HL HP HF HS HLR HOC
   have HM:=hideIt hm'
   have hnk : ¬ n = k:=by omega
   clear hm hm' hCS hk0
   go_wp2_with fail
   go_region_law (refine step_copy_splice rfl (.tmp 41) (.tmp 44) 46 46 rfl 42 Tryz.underlying46 hsz (some ⟨N,k,none⟩) (some ⟨N,0,none⟩) (n - k) (n - k) k n (by kernel_rfl) (by kernel_rfl) N k (fill x n k) 42 HR.out.1 CS HL.out (fun _ => ⟨rfl,_,rfl,HP.out⟩) HF.out HOC.out N w HR.out.2.drew (Nat.le_refl _) ?_;intro w4 HG4 hB4)
   have hCL : k + CS.length ≤ n ∧ 0 < CS.length:=by rw [HLR.out];have:=HM.out;omega
   have HR4 : Hid (w4.heap[N]? = some (.cells (fill x n (k + CS.length)).toArray 42 (0,0)) ∧ Below N w w4):=by
    simp only [Hid]
    rw [HLR.out,← HS.out]
    exact ⟨HG4.out,hB4⟩
   clear HG4 hB4 HR HP HL HF HS HLR HOC HM
   have hwr : IntKind.i64.wrap ((k : Int) + (CS.length : Int)) = (k : Int) + (CS.length : Int):=by rw [IntKind.wrap_i64];omega
   go_simp
   go_wp2
   go_roundw
   case rel => exact ⟨k + CS.length,⟨by omega,by omega⟩,by go_num,HR4⟩
   case measure => simp [intOf];omega
  ·obtain rfl : k = n:=by omega
   have dlt : decide ((k : Int) < (k : Int)) = false:=by simp
   have OW:=hideIt (row_own (Nat.le_refl _) hn HR.out.1)
   rw [fill_all] at OW
   have HO:=hideIt (only_of_below (HN.out ▸ HR.out.2))
   clear HR
   go_wp2
   go_ret
   exact ⟨_,rfl,OW.out,HO.out⟩
end Go.Proofs.YthapipgaohlgdaaGreatDoor


namespace Go.Proofs.YthapipgaohlgdaaGreatDoor
open Go.RowKit
theorem trail_win (a z d : Nat) (w : World) (h : a + z + d = 64) :
  Calls Tryz.prog 171 #[.agg #[.int .i64 a,.int .i64 d]] w fun e w' => e = .returned (.int .i64 (z : Int)) ∧ Only (fun _ => False) w w':=by
 have:=trail_any a d w (by omega) (by omega)
 rw [show (64 : Int) - (a : Int) - d = (z : Int) by omega] at this
 exact this
theorem dvd_tz {x z : Nat} (h0 : 0 < x) (hx : x < 18446744073709551616) (h : x / 2 ^ z * 2 ^ z = x) : z ≤ tz x:=by
 rcases Nat.lt_or_ge (tz x) z with hlt | hge
 ·exfalso
  have ho : x / 2 ^ tz x % 2 = 1:=tzF_odd 64 x h0 (by rw [p64];exact hx)
  obtain ⟨j,rfl⟩ : ∃ j,z = tz x + 1 + j:=⟨z - tz x - 1,by omega⟩
  generalize tz x = t at *
  generalize x / 2 ^ (t + 1 + j) = y at *
  have e : x = 2 ^ t * (2 * (y * 2 ^ j)):=by
   rw [← h,Nat.pow_add,Nat.pow_succ]
   simp only [Nat.mul_assoc,Nat.mul_comm,Nat.mul_left_comm]
  rw [e,Nat.mul_div_cancel_left _ (Nat.two_pow_pos t)] at ho
  omega
 ·exact hge
theorem fits_iff {x a z d : Nat} (h0 : 0 < x) (hx : x < 18446744073709551616) (h : a + z + d = 64) (hd : 0 < d) :
  fitsW x a z ↔ (x / 2 ^ z * 2 ^ z = x ∧ wid (x / 2 ^ z) ≤ d):=by
 have hw:=wid_le64 x hx
 constructor
 ·rintro ⟨h1,h2⟩
  have h3:=fits_lt (z:=z) hx h1 (by omega)
  rw [show 64 - a - z = d by omega] at h3
  exact ⟨tz_back h2,(wid_le_iff _ d).2 h3⟩
 ·rintro ⟨h1,h2⟩
  refine ⟨?_,dvd_tz h0 hx h1⟩
  have h3:=(wid_le_iff _ d).1 h2
  rw [Nat.div_lt_iff_lt_mul (Nat.two_pow_pos z),← Nat.pow_add] at h3
  have h4:=(wid_le_iff x (d + z)).2 h3
  omega
theorem wrap_back {x z : Nat} (hx : x < 18446744073709551616) : IntKind.u64.wrap ((x : Int) / 2 ^ z * 2 ^ z) = ((x / 2 ^ z * 2 ^ z : Nat) : Int):=by
 have h1 : x / 2 ^ z * 2 ^ z ≤ x:=Nat.div_mul_le_self x _
 have e : (x : Int) / 2 ^ z * 2 ^ z = ((x / 2 ^ z * 2 ^ z : Nat) : Int):=by push_cast;rfl
 rw [e,IntKind.wrap_u64]
 omega
set_option maxHeartbeats 1000000 in
theorem fits_yes (a z d x : Nat) (w : World) (h0 : 0 < x) (hx : x < 18446744073709551616) (h : a + z + d = 64) (hd : 0 < d) (he : x / 2 ^ z * 2 ^ z = x) :
  Calls Tryz.prog 169 #[.agg #[.int .i64 a,.int .i64 d],.int .u64 x] w fun e w' => e = .returned (.bool (decide (wid (x / 2 ^ z) ≤ d))) ∧ Only (fun _ => False) w w':=by
 have z64 : (z : Int) < 64:=by omega
 have T1:=hideIt (trail_win a z d (w.alloc (.cells #[.int .i64 a,.int .i64 d] 148)) h)
 have e1:=wrap_back (z:=z) hx
 rw [he] at e1
 have e2 : (IntKind.u64.wrap ((x : Int) / 2 ^ z * 2 ^ z) == (x : Int)) = true:=by rw [e1];simp
 have e3 : (x : Int) / 2 ^ z = ((x / 2 ^ z : Nat) : Int):=by push_cast;rfl
 have y1 : x / 2 ^ z ≤ x:=Nat.div_le_self _ _
 clear e1 he
 rw [e3] at e2
 generalize hy : x / 2 ^ z = y at *
 have E3:=hideIt e3
 clear e3 hy
 have WI:=fun w => hideIt (width_any (y : Int) w (by omega) (by omega))
 simp only [Int.toNat_natCast] at WI
 generalize wid y = q at *
 go_enter Tryz.func169,Tryz.ntmps169
 go_wp2_with fail
 refine T1.out.mono ?_
 rintro e w1 ⟨rfl,o1⟩
 have g1:=o1.heap (heap_alloc_last w _) (fun f => f)
 obtain ⟨c0,c1,_,_⟩:=two_cells g1
 have O1:=hideIt ((Only.refl (fun _ => False) w).alloc (.cells #[.int .i64 a,.int .i64 d] 148) |>.same o1)
 clear T1 o1
 go_wp2
 rw [E3.out]
 go_region_with (first | (go_at_call 171;refine (trail_win a z d _ h).mono ?_;rintro e w2 ⟨rfl,o2⟩;have c2:=(two_cells (o2.heap (a:=w1.drew) g1 (fun f => f))).2.1) | (go_at_call 138;refine (WI _).out.mono ?_;rintro e w3 ⟨rfl,rfl⟩))
 all_goals go_wp2
 all_goals go_ret
 all_goals exact ⟨rfl,O1.out.drew.same o2⟩
set_option maxHeartbeats 1000000 in
theorem fits_no (a z d x : Nat) (w : World) (hx : x < 18446744073709551616) (h : a + z + d = 64) (hd : 0 < d) (he : x / 2 ^ z * 2 ^ z ≠ x) :
  Calls Tryz.prog 169 #[.agg #[.int .i64 a,.int .i64 d],.int .u64 x] w fun e w' => e = .returned (.bool false) ∧ Only (fun _ => False) w w':=by
 have z64 : (z : Int) < 64:=by omega
 have T1:=hideIt (trail_win a z d (w.alloc (.cells #[.int .i64 a,.int .i64 d] 148)) h)
 have e1:=wrap_back (z:=z) hx
 have e2 : (IntKind.u64.wrap ((x : Int) / 2 ^ z * 2 ^ z) == (x : Int)) = false:=by rw [e1,beq_eq_false_iff_ne];omega
 have e3 : (x : Int) / 2 ^ z = ((x / 2 ^ z : Nat) : Int):=by push_cast;rfl
 have y1 : x / 2 ^ z ≤ x:=Nat.div_le_self _ _
 clear e1 he
 rw [e3] at e2
 generalize hy : x / 2 ^ z = y at *
 have E3:=hideIt e3
 clear e3 hy
 go_enter Tryz.func169,Tryz.ntmps169
 go_wp2_with fail
 refine T1.out.mono ?_
 rintro e w1 ⟨rfl,o1⟩
 have g1:=o1.heap (heap_alloc_last w _) (fun f => f)
 obtain ⟨c0,c1,_,_⟩:=two_cells g1
 have O1:=hideIt ((Only.refl (fun _ => False) w).alloc (.cells #[.int .i64 a,.int .i64 d] 148) |>.same o1)
 clear T1 o1
 go_wp2
 rw [E3.out]
 first | (go_region_with ((go_at_call 171;refine (trail_win a z d _ h).mono ?_;rintro e w2 ⟨rfl,o2⟩;have c2:=(two_cells (o2.heap (a:=w1.drew) g1 (fun f => f))).2.1))) | fail
 all_goals go_wp2
 all_goals go_ret
 all_goals exact ⟨rfl,O1.out.drew.same o2⟩
theorem fits_any (a z d x : Nat) (w : World) (h0 : 0 < x) (hx : x < 18446744073709551616) (h : a + z + d = 64) (hd : 0 < d) :
  Calls Tryz.prog 169 #[.agg #[.int .i64 a,.int .i64 d],.int .u64 x] w fun e w' => e = .returned (.bool (decide (fitsW x a z))) ∧ Only (fun _ => False) w w':=by
 by_cases he : x / 2 ^ z * 2 ^ z = x
 ·have e : decide (fitsW x a z) = decide (wid (x / 2 ^ z) ≤ d):=decide_eq_decide.2 ((fits_iff h0 hx h hd).trans (and_iff_right he))
  rw [e]
  exact fits_yes a z d x w h0 hx h hd he
 ·have e : decide (fitsW x a z) = false:=decide_eq_false (fun f => he ((fits_iff h0 hx h hd).1 f).1)
  rw [e]
  exact fits_no a z d x w hx h hd he
end Go.Proofs.YthapipgaohlgdaaGreatDoor


namespace Go.Proofs.YthapipgaohlgdaaGreatDoor
open Go.RowKit
def W2 (wn : Option (Nat × Nat)) (a d : Nat) : Prop:=(wn = none ∧ a = 0 ∧ d = 0) ∨ ∃ z,wn = some (a,z) ∧ a ≤ 31 ∧ a + z + d = 64 ∧ 0 < d
theorem W2.none : W2 .none 0 0:=.inl ⟨rfl,rfl,rfl⟩
theorem W2.le {wn : Option (Nat × Nat)} {a d : Nat} (h : W2 wn a d) : a ≤ 31 ∧ d ≤ 64:=by
 rcases h with ⟨_,rfl,rfl⟩ | ⟨z,_,h1,h2,h3⟩ <;> omega
structure Ws (w : World) (lo B : Nat) (v : Value) (w1 : World) (v1 : Value) (l1 : List Bool) (a d : Nat) : Prop where
 wr : WrAt 138 5 w1 lo B v1 l1
 on : Only (Foot B v) w w1
 st : Stays w v v1
 nb : ∀ k,v1.ownBlock = some k → k ≠ w.heap.size ∧ k ≠ w.heap.size + 1
 lt : B < w.heap.size
 box : w1.heap[w.heap.size]? = some (.cells #[.int .i64 a,.int .i64 d] 148 (0,0))
 res : w1.heap[w.heap.size + 1]? = some (.cells #[.int .i64 0,.int .i64 0] 148 (0,0))
theorem WrAt.lt_size {T E : TypeId} {w : World} {lo B : Nat} {v : Value} {l : List Bool} (h : WrAt T E w lo B v l) : B < w.heap.size:=Nat.lt_of_lt_of_le h.lt h.le
theorem Ws.start {w : World} {lo B : Nat} {v : Value} {l : List Bool} (h : WrAt 138 5 w lo B v l) (a d : Nat) :
  Ws w lo B v ((w.alloc (.cells #[.int .i64 a,.int .i64 d] 148)).alloc (.cells #[.int .i64 0,.int .i64 0] 148)) v l a d where
 wr:=h.keep (((Only.refl (fun _ => False) w).alloc _).alloc _) (fun f => f) (fun _ _ f => f)
 on:=((Only.refl _ w).alloc _).alloc _
 st:=Stays.refl _ _
 nb:=fun k hk => by have:=(h.own.lt k hk).2;omega
 lt:=h.lt_size
 box:=by
  have:=heap_alloc_last w (.cells #[.int .i64 a,.int .i64 d] 148)
  exact ((Only.refl (fun _ => False) _).alloc _).heap this (fun f => f)
 res:=by
  have:=heap_alloc_last (w.alloc (.cells #[.int .i64 a,.int .i64 d] 148)) (.cells #[.int .i64 0,.int .i64 0] 148)
  rwa [show (w.alloc (.cells #[.int .i64 a,.int .i64 d] 148)).heap.size = w.heap.size + 1 from Array.size_push ..] at this
theorem Ws.big {w : World} {lo B : Nat} {v : Value} {w1 : World} {v1 : Value} {l1 : List Bool} {a d : Nat} (h : Ws w lo B v w1 v1 l1 a d) : w.heap.size + 1 < w1.heap.size:=by
 rcases Nat.lt_or_ge (w.heap.size + 1) w1.heap.size with e | e
 ·exact e
 ·have:=h.res
  rw [Array.getElem?_eq_none e] at this
  cases this
theorem Ws.put {w : World} {lo B : Nat} {v : Value} {w1 w2 : World} {v1 v2 : Value} {l1 l2 : List Bool} {a d : Nat} (h : Ws w lo B v w1 v1 l1 a d)
  (h2 : WrAt 138 5 w2 lo B v2 l2) (o : Only (Foot B v1) w1 w2) (s : Stays w1 v1 v2) : Ws w lo B v w2 v2 l2 a d where
 wr:=h2
 on:=h.on.trans o (foot_stays h.st)
 st:=h.st.trans s h.on.size
 nb:=fun k hk => by
  rcases s with e | e
  ·rw [e] at hk;exact h.nb k hk
  ·have:=e k hk;have:=h.big;omega
 lt:=h.lt
 box:=o.heap h.box (fun f => by
  rcases f with e | e
  ·have:=h.lt;omega
  ·exact (h.nb _ e).1 rfl)
 res:=o.heap h.res (fun f => by
  rcases f with e | e
  ·have:=h.lt;omega
  ·exact (h.nb _ e).2 rfl)
theorem Ws.past {w : World} {lo B : Nat} {v : Value} {w1 w2 : World} {v1 : Value} {l1 : List Bool} {a d : Nat} (h : Ws w lo B v w1 v1 l1 a d) (o : Only (fun _ => False) w1 w2) : Ws w lo B v w2 v1 l1 a d :=
 h.put (h.wr.keep o (fun f => f) (fun _ _ f => f)) (o.mono (fun _ _ f => f.elim)) (Stays.refl _ _)
theorem setCell2_only {w : World} {K : Nat} (x y : Value) {S : Nat → Prop} (hS : S K) : Only S w ((w.setCell ⟨K,0,none⟩ x).setCell ⟨K,1,none⟩ y) :=
 ((Only.refl S w).setCell (fun _ => hS) x).setCell (fun _ => hS) y
theorem setCell2_heap {w : World} {K : Nat} {a b : Value} {T : TypeId} (x y : Value) (h : w.heap[K]? = some (.cells #[a,b] T (0,0))) :
  ((w.setCell ⟨K,0,none⟩ x).setCell ⟨K,1,none⟩ y).heap[K]? = some (.cells #[x,y] T (0,0)):=(heap_two ((heap_two h x).1) y).2
theorem Ws.set {w : World} {lo B : Nat} {v : Value} {w1 : World} {v1 : Value} {l1 : List Bool} {a d : Nat} (h : Ws w lo B v w1 v1 l1 a d) (a' d' : Nat) :
  Ws w lo B v ((w1.setCell ⟨w.heap.size,0,none⟩ (.int .i64 a')).setCell ⟨w.heap.size,1,none⟩ (.int .i64 d')) v1 l1 a' d' where
 wr:=h.wr.keep (setCell2_only (S:=fun k => k = w.heap.size) _ _ rfl) (fun f => by have:=h.lt;omega) (fun k hk f => (h.nb k hk).1 f)
 on:=((h.on.setCell (p:=⟨w.heap.size,0,none⟩) (fun f => absurd f (Nat.lt_irrefl _)) _).setCell (p:=⟨w.heap.size,1,none⟩) (fun f => absurd f (Nat.lt_irrefl _)) _)
 st:=h.st
 nb:=h.nb
 lt:=h.lt
 box:=setCell2_heap _ _ h.box
 res:=(setCell2_only (S:=fun k => k = w.heap.size) _ _ rfl).heap h.res (fun f => by omega)
theorem Ws.fin {w : World} {lo B : Nat} {v : Value} {w1 : World} {v1 : Value} {l1 : List Bool} {a d : Nat} (h : Ws w lo B v w1 v1 l1 a d) (x y : Value) {w2 : World} (e : w2 = (w1.setCell ⟨w.heap.size + 1,0,none⟩ x).setCell ⟨w.heap.size + 1,1,none⟩ y) :
  w2.heap[w.heap.size + 1]? = some (.cells #[x,y] 148 (0,0)) ∧ WrAt 138 5 w2 lo B v1 l1 ∧ Only (Foot B v) w w2 ∧ Stays w v v1:=by
 subst e
 refine ⟨setCell2_heap _ _ h.res,h.wr.keep (setCell2_only (S:=fun k => k = w.heap.size + 1) _ _ rfl) (fun f => by have:=h.lt;omega) (fun k hk f => (h.nb k hk).2 f),?_,h.st⟩
 exact ((h.on.setCell (p:=⟨w.heap.size + 1,0,none⟩) (fun (f : w.heap.size + 1 < w.heap.size) => absurd f (by omega)) _).setCell (p:=⟨w.heap.size + 1,1,none⟩) (fun (f : w.heap.size + 1 < w.heap.size) => absurd f (by omega)) _)
theorem bits_01 : bitsOf (Int.toNat 0) (Int.toNat 1) = [false]:=by decide
theorem bits_11 : bitsOf (Int.toNat 1) (Int.toNat 1) = [true]:=by decide
set_option maxHeartbeats 1000000 in
theorem write_zero {w : World} {lo B : Nat} {v : Value} {l : List Bool} (h : WrAt 138 5 w lo B v l) (a d : Nat) (hl : l.length ≤ 100000000) :
  Calls Tryz.prog 148 #[.pointer (some ⟨B,0,none⟩),.int .u64 0,.agg #[.int .i64 a,.int .i64 d]] w fun e w' => e = .returned (.agg #[.int .i64 a,.int .i64 d]) ∧
   ∃ v',WrAt 138 5 w' lo B v' (l ++ [false]) ∧ Only (Foot B v) w w' ∧ Stays w v v':=by
 have S0:=hideIt (Ws.start h a d)
 have P1:=hideIt (put_wr S0.out.wr 0 1 (by omega) (by omega) (by omega) (by omega) (by decide) (by omega))
 rw [bits_01] at P1
 clear h
 go_enter Tryz.func148,Tryz.ntmps148
 go_wp2_with fail
 refine P1.out.mono ?_
 rintro e w1 ⟨rfl,v1,h1,o1,s1⟩
 have S1:=hideIt (S0.out.put h1 o1 s1)
 clear h1 o1 s1 S0 P1
 obtain ⟨c0,c1,_,_⟩:=two_cells S1.out.box
 obtain ⟨c2,c3,f2,f3⟩:=two_cells S1.out.res
 go_wp2
 obtain ⟨g,r1,r2,r3⟩:=S1.out.fin (.int .i64 a) (.int .i64 d) rfl
 exact bodyPost_ret (results_cell_row rfl _ _ (w.heap.size + 1) 148 _ (0,0) _ rfl g Tryz.underlying148 rfl Tryz.sizeWin) rfl ⟨rfl,v1,r1,r2,r3⟩
theorem put_in {w w1 : World} {lo B : Nat} {v v1 : Value} {l1 : List Bool} {a d : Nat} (S : Ws w lo B v w1 v1 l1 a d) (x : Int) (y z : Nat) (e3 : x / 2 ^ z = (y : Int)) (hy : y < 18446744073709551616) (hd : d ≤ 64) (y2 : wid y ≤ d) (hl : l1.length ≤ 1000000000) :
  Calls Tryz.prog 139 #[.pointer (some ⟨B,0,none⟩),.int .u64 (x / 2 ^ z),.int .i64 d] w1 fun e w' => e = .returned (.int .i64 0) ∧ ∃ v',Ws w lo B v w' v' (l1 ++ bitsOf y d) a d:=by
 rw [e3]
 refine (put_wr S.wr y d (by omega) (by omega) (by omega) (by omega) (by simpa using y2) hl).mono ?_
 rintro e w' ⟨rfl,v',h,o,s⟩
 simp only [Int.toNat_natCast] at h
 exact ⟨rfl,v',S.put h o s⟩
set_option maxHeartbeats 2000000 in
theorem write_fit {w : World} {lo B : Nat} {v : Value} {l : List Bool} (h : WrAt 138 5 w lo B v l) (a z d x : Nat) (hl : l.length ≤ 100000000) (h0 : 0 < x) (hx : x < 18446744073709551616) (hs : a + z + d = 64) (hd : 0 < d) (hf : fitsW x a z) :
  Calls Tryz.prog 148 #[.pointer (some ⟨B,0,none⟩),.int .u64 x,.agg #[.int .i64 a,.int .i64 d]] w fun e w' => e = .returned (.agg #[.int .i64 a,.int .i64 d]) ∧
   ∃ v',WrAt 138 5 w' lo B v' (l ++ [true] ++ [false] ++ bitsOf (x / 2 ^ z) d) ∧ Only (Foot B v) w w' ∧ Stays w v v':=by
 have S0:=hideIt (Ws.start h a d)
 have P1:=hideIt (put_wr S0.out.wr 1 1 (by omega) (by omega) (by omega) (by omega) (by decide) (by omega))
 rw [bits_11] at P1
 have hne : ((x : Int) == 0) = false:=by rw [beq_eq_false_iff_ne];omega
 have z64 : (z : Int) < 64:=by omega
 have e3 : Hid ((x : Int) / 2 ^ z = ((x / 2 ^ z : Nat) : Int)):=by simp only [Hid];push_cast;rfl
 have y1 : x / 2 ^ z ≤ x:=Nat.div_le_self _ _
 have y2 : wid (x / 2 ^ z) ≤ d:=((fits_iff h0 hx hs hd).1 hf).2
 have FI:=fun w => hideIt (fits_any a z d x w h0 hx hs hd)
 rw [decide_eq_true hf] at FI
 generalize hy : x / 2 ^ z = y at *
 clear h hf hy
 go_enter Tryz.func148,Tryz.ntmps148
 go_wp2_with fail
 refine P1.out.mono ?_
 rintro e w1 ⟨rfl,v1,h1,o1,s1⟩
 have S1:=hideIt (S0.out.put h1 o1 s1)
 clear h1 o1 s1 S0 P1
 obtain ⟨c0,c1,_,_⟩:=two_cells S1.out.box
 go_wp2_with fail
 refine (isNone_no a d _ (by omega)).mono ?_
 rintro e w2 ⟨rfl,o2⟩
 have S2:=hideIt (S1.out.past o2)
 clear S1 o2 c0 c1
 obtain ⟨c0,c1,_,_⟩:=two_cells S2.out.box
 go_wp2_with fail
 refine (FI _).out.mono ?_
 rintro e w3 ⟨rfl,o3⟩
 have S3:=hideIt (S2.out.past o3)
 clear S2 o3 c0 c1 FI
 have P3:=hideIt (put_wr S3.out.wr 0 1 (by omega) (by omega) (by omega) (by omega) (by decide) (by simp;omega))
 rw [bits_01] at P3
 go_wp2_with fail
 refine P3.out.mono ?_
 rintro e w4 ⟨rfl,v4,h4,o4,s4⟩
 have S4:=hideIt (S3.out.put h4 o4 s4)
 clear h4 o4 s4 S3 P3
 obtain ⟨c0,c1,_,_⟩:=two_cells S4.out.box
 go_wp2
 have SD:=hideIt (S4.out.past ((Only.refl (fun _ => False) w4).drew))
 have hl4 : (l ++ [true] ++ [false]).length ≤ 1000000000:=by simp;omega
 go_region_with (first | (go_at_call 171;refine (trail_win a z d _ hs).mono ?_;rintro e w5 ⟨rfl,o5⟩;have S5:=hideIt (SD.out.past o5);have c2:=(two_cells S5.out.box).2.1) | (go_at_call 139;refine (put_in S5.out (x : Int) y z e3.out (by omega) (by omega) y2 hl4).mono ?_;rintro e w6 ⟨rfl,v6,S6⟩))
 all_goals
  have S7:=hideIt S6
  clear S6
  clear c0 c1
  obtain ⟨c0,c1,_,_⟩:=two_cells S7.out.box
  obtain ⟨c2,c3,f2,f3⟩:=two_cells S7.out.res
  go_wp2
  obtain ⟨g,r1,r2,r3⟩:=S7.out.fin (.int .i64 a) (.int .i64 d) rfl
  exact bodyPost_ret (results_cell_row rfl _ _ (w.heap.size + 1) 148 _ (0,0) _ rfl g Tryz.underlying148 rfl Tryz.sizeWin) rfl ⟨rfl,v6,r1,r2,r3⟩
end Go.Proofs.YthapipgaohlgdaaGreatDoor


namespace Go.Proofs.YthapipgaohlgdaaGreatDoor
open Go.RowKit
theorem Ws.tab {w : World} {lo B : Nat} {v : Value} {w1 : World} {v1 : Value} {l1 : List Bool} {a d : Nat} (h : Ws w lo B v w1 v1 l1 a d) (hT : Tab w) (hB : 0 < B) (hv : ∀ k,v.ownBlock = some k → 0 < k) : Tab w1 :=
 hT.keep h.on (fun f => by
  rcases f with e | e
  ·omega
  ·exact absurd (hv 0 e) (by omega))
theorem wid_5 {n : Nat} (h : n ≤ 31) : wid n ≤ 5:=(wid_le_iff n 5).2 (by omega)
theorem wid_6 {n : Nat} (h : n ≤ 63) : wid n ≤ 6:=(wid_le_iff n 6).2 (by omega)
theorem put_small {w w1 : World} {lo B : Nat} {v v1 : Value} {l1 : List Bool} {a d : Nat} (S : Ws w lo B v w1 v1 l1 a d) (x : Int) (n q : Nat) (e : x = (n : Int)) (hn : n < 18446744073709551616) (hq : q ≤ 64) (hw : wid n ≤ q) (hl : l1.length ≤ 1000000000) :
  Calls Tryz.prog 139 #[.pointer (some ⟨B,0,none⟩),.int .u64 x,.int .i64 q] w1 fun e w' => e = .returned (.int .i64 0) ∧ ∃ v',Ws w lo B v w' v' (l1 ++ bitsOf n q) a d:=by
 subst e
 refine (put_wr S.wr n q (by omega) (by omega) (by omega) (by omega) (by simpa using hw) hl).mono ?_
 rintro e w' ⟨rfl,v',h,o,s⟩
 simp only [Int.toNat_natCast] at h
 exact ⟨rfl,v',S.put h o s⟩
set_option maxHeartbeats 2000000 in
theorem write_first {w : World} {lo B : Nat} {v : Value} {l : List Bool} (h : WrAt 138 5 w lo B v l) (x : Nat) (hl : l.length ≤ 100000000) (h0 : 0 < x) (hx : x < 18446744073709551616) (hT : Tab w) (hB : 0 < B) :
  Calls Tryz.prog 148 #[.pointer (some ⟨B,0,none⟩),.int .u64 x,.agg #[.int .i64 0,.int .i64 0]] w fun e w' => e = .returned (.agg #[.int .i64 (ldz x : Nat),.int .i64 (64 - ldz x - tz x : Nat)]) ∧
   ∃ v',WrAt 138 5 w' lo B v' (l ++ [true] ++ [true] ++ bitsOf (ldz x) 5 ++ bitsOf (63 - ldz x - tz x) 6 ++ bitsOf (x / 2 ^ tz x) (64 - ldz x - tz x)) ∧ Only (Foot B v) w w' ∧ Stays w v v':=by
 have S0:=hideIt (Ws.start h 0 0)
 have P1:=hideIt (put_wr S0.out.wr 1 1 (by omega) (by omega) (by omega) (by omega) (by decide) (by omega))
 rw [bits_11] at P1
 have hne : ((x : Int) == 0) = false:=by rw [beq_eq_false_iff_ne];omega
 have hv0 : ∀ k,v.ownBlock = some k → 0 < k:=fun k hk => by have:=(h.own.lt k hk).1;have:=h.lt;omega
 obtain ⟨n1,n2,n3⟩:=win_new h0 hx
 have WO:=fun w hT => hideIt (windowOf_any (x : Int) w (by omega) (by omega) hT)
 simp only [Int.toNat_natCast] at WO
 have e3 : Hid ((x : Int) / 2 ^ tz x = ((x / 2 ^ tz x : Nat) : Int)):=by simp only [Hid];push_cast;rfl
 have y1 : x / 2 ^ tz x ≤ x:=Nat.div_le_self _ _
 have y2 : wid (x / 2 ^ tz x) ≤ 64 - ldz x - tz x:=(wid_le_iff _ _).2 (fits_lt hx n2 n3)
 generalize hy : x / 2 ^ tz x = y at *
 generalize ldz x = a' at *
 generalize tz x = z' at *
 obtain ⟨d',hd'⟩ : ∃ d',d' = 64 - a' - z':=⟨_,rfl⟩
 rw [show 63 - a' - z' = d' - 1 by omega,← hd']
 rw [← hd'] at WO y2
 have hs' : a' + z' + d' = 64:=by omega
 have hp' : 0 < d':=by omega
 clear h hy hd' n2 n3
 have z64 : (z' : Int) < 64:=by omega
 have dd : (d' : Int) - 1 = ((d' - 1 : Nat) : Int):=by omega
 go_enter Tryz.func148,Tryz.ntmps148
 go_wp2_with fail
 refine P1.out.mono ?_
 rintro e w1 ⟨rfl,v1,h1,o1,s1⟩
 have S1:=hideIt (S0.out.put h1 o1 s1)
 clear h1 o1 s1 S0 P1
 obtain ⟨c0,c1,_,_⟩:=two_cells S1.out.box
 go_wp2_with fail
 refine (isNone_yes _).mono ?_
 rintro e w3 ⟨rfl,o2⟩
 have S3:=hideIt (S1.out.past o2)
 clear S1 o2 c0 c1
 have W3:=WO w3 (S3.out.tab hT hB hv0)
 clear WO
 go_wp2_with fail
 refine W3.out.mono ?_
 rintro e w4 ⟨rfl,o4⟩
 have S4:=hideIt (S3.out.past o4)
 clear S3 o4 W3
 obtain ⟨c0,c1,f0,f1⟩:=two_cells S4.out.box
 have S5:=hideIt (S4.out.set a' d')
 have P5:=hideIt (put_small S5.out 1 1 1 rfl (by omega) (by omega) (by decide) (by simp;omega))
 rw [show bitsOf 1 1 = [true] by decide] at P5
 clear S4
 go_wp2_with fail
 refine P5.out.mono ?_
 rintro e w6 ⟨rfl,v6,s6⟩
 have S6:=hideIt s6
 clear s6 S5 P5 c0 c1 f0 f1
 obtain ⟨c0,c1,_,_⟩:=two_cells S6.out.box
 have P6:=hideIt (put_small S6.out (a' : Int) a' 5 rfl (by omega) (by omega) (wid_5 n1) (by simp;omega))
 go_wp2_with fail
 refine P6.out.mono ?_
 rintro e w7 ⟨rfl,v7,s7⟩
 have S7:=hideIt s7
 clear s7 S6 P6 c0 c1
 obtain ⟨c0,c1,_,_⟩:=two_cells S7.out.box
 have P7:=hideIt (put_small S7.out ((d' - 1 : Nat) : Int) (d' - 1) 6 rfl (by omega) (by omega) (wid_6 (by omega)) (by simp [bitsOf_length];omega))
 go_wp2_with fail
 refine P7.out.mono ?_
 rintro e w8 ⟨rfl,v8,s8⟩
 have S8:=hideIt s8
 clear s8 S7 P7 c0 c1
 obtain ⟨c0,c1,_,_⟩:=two_cells S8.out.box
 go_wp2
 have SD:=hideIt (S8.out.past ((Only.refl (fun _ => False) w8).drew))
 have hl4 : (l ++ [true] ++ [true] ++ bitsOf a' 5 ++ bitsOf (d' - 1) 6).length ≤ 1000000000:=by simp [bitsOf_length];omega
 go_region_with (first | (go_at_call 171;refine (trail_win a' z' d' _ hs').mono ?_;rintro e w5 ⟨rfl,o5⟩;have S5:=hideIt (SD.out.past o5);have c2:=(two_cells S5.out.box).2.1) | (go_at_call 139;refine (put_in S5.out (x : Int) y z' e3.out (by omega) (by omega) y2 hl4).mono ?_;rintro e w6 ⟨rfl,v6,S6⟩))
 all_goals
  have S9:=hideIt S6
  clear S6
  clear c0 c1
  obtain ⟨c0,c1,_,_⟩:=two_cells S9.out.box
  obtain ⟨c2,c3,f2,f3⟩:=two_cells S9.out.res
  go_wp2
  obtain ⟨g,r1,r2,r3⟩:=S9.out.fin (.int .i64 a') (.int .i64 d') rfl
  exact bodyPost_ret (results_cell_row rfl _ _ (w.heap.size + 1) 148 _ (0,0) _ rfl g Tryz.underlying148 rfl Tryz.sizeWin) rfl ⟨rfl,v6,r1,r2,r3⟩
set_option maxHeartbeats 2000000 in
theorem write_other {w : World} {lo B : Nat} {v : Value} {l : List Bool} (h : WrAt 138 5 w lo B v l) (x : Nat) (a z d : Nat) (hs : a + z + d = 64) (hd : 0 < d) (hf : ¬ fitsW x a z) (hl : l.length ≤ 100000000) (h0 : 0 < x) (hx : x < 18446744073709551616) (hT : Tab w) (hB : 0 < B) :
  Calls Tryz.prog 148 #[.pointer (some ⟨B,0,none⟩),.int .u64 x,.agg #[.int .i64 a,.int .i64 d]] w fun e w' => e = .returned (.agg #[.int .i64 (ldz x : Nat),.int .i64 (64 - ldz x - tz x : Nat)]) ∧
   ∃ v',WrAt 138 5 w' lo B v' (l ++ [true] ++ [true] ++ bitsOf (ldz x) 5 ++ bitsOf (63 - ldz x - tz x) 6 ++ bitsOf (x / 2 ^ tz x) (64 - ldz x - tz x)) ∧ Only (Foot B v) w w' ∧ Stays w v v':=by
 have S0:=hideIt (Ws.start h a d)
 have P1:=hideIt (put_wr S0.out.wr 1 1 (by omega) (by omega) (by omega) (by omega) (by decide) (by omega))
 rw [bits_11] at P1
 have hne : ((x : Int) == 0) = false:=by rw [beq_eq_false_iff_ne];omega
 have hv0 : ∀ k,v.ownBlock = some k → 0 < k:=fun k hk => by have:=(h.own.lt k hk).1;have:=h.lt;omega
 obtain ⟨n1,n2,n3⟩:=win_new h0 hx
 have WO:=fun w hT => hideIt (windowOf_any (x : Int) w (by omega) (by omega) hT)
 simp only [Int.toNat_natCast] at WO
 have e3 : Hid ((x : Int) / 2 ^ tz x = ((x / 2 ^ tz x : Nat) : Int)):=by simp only [Hid];push_cast;rfl
 have y1 : x / 2 ^ tz x ≤ x:=Nat.div_le_self _ _
 have y2 : wid (x / 2 ^ tz x) ≤ 64 - ldz x - tz x:=(wid_le_iff _ _).2 (fits_lt hx n2 n3)
 have FI:=fun w => hideIt (fits_any a z d x w h0 hx hs hd)
 rw [decide_eq_false hf] at FI
 clear hf
 generalize hy : x / 2 ^ tz x = y at *
 generalize ldz x = a' at *
 generalize tz x = z' at *
 obtain ⟨d',hd'⟩ : ∃ d',d' = 64 - a' - z':=⟨_,rfl⟩
 rw [show 63 - a' - z' = d' - 1 by omega,← hd']
 rw [← hd'] at WO y2
 have hs' : a' + z' + d' = 64:=by omega
 have hp' : 0 < d':=by omega
 clear h hy hd' n2 n3
 have z64 : (z' : Int) < 64:=by omega
 have dd : (d' : Int) - 1 = ((d' - 1 : Nat) : Int):=by omega
 go_enter Tryz.func148,Tryz.ntmps148
 go_wp2_with fail
 refine P1.out.mono ?_
 rintro e w1 ⟨rfl,v1,h1,o1,s1⟩
 have S1:=hideIt (S0.out.put h1 o1 s1)
 clear h1 o1 s1 S0 P1
 obtain ⟨c0,c1,_,_⟩:=two_cells S1.out.box
 go_wp2_with fail
 refine (isNone_no a d _ (by omega)).mono ?_
 rintro e w2 ⟨rfl,o2⟩
 have S2:=hideIt (S1.out.past o2)
 clear S1 o2 c0 c1
 obtain ⟨c0,c1,_,_⟩:=two_cells S2.out.box
 go_wp2_with fail
 refine (FI _).out.mono ?_
 rintro e w3 ⟨rfl,o3⟩
 have S3:=hideIt (S2.out.past o3)
 clear S2 o3 c0 c1 FI
 have W3:=WO w3 (S3.out.tab hT hB hv0)
 clear WO
 go_wp2_with fail
 refine W3.out.mono ?_
 rintro e w4 ⟨rfl,o4⟩
 have S4:=hideIt (S3.out.past o4)
 clear S3 o4 W3
 obtain ⟨c0,c1,f0,f1⟩:=two_cells S4.out.box
 have S5:=hideIt (S4.out.set a' d')
 have P5:=hideIt (put_small S5.out 1 1 1 rfl (by omega) (by omega) (by decide) (by simp;omega))
 rw [show bitsOf 1 1 = [true] by decide] at P5
 clear S4
 go_wp2_with fail
 refine P5.out.mono ?_
 rintro e w6 ⟨rfl,v6,s6⟩
 have S6:=hideIt s6
 clear s6 S5 P5 c0 c1 f0 f1
 obtain ⟨c0,c1,_,_⟩:=two_cells S6.out.box
 have P6:=hideIt (put_small S6.out (a' : Int) a' 5 rfl (by omega) (by omega) (wid_5 n1) (by simp;omega))
 go_wp2_with fail
 refine P6.out.mono ?_
 rintro e w7 ⟨rfl,v7,s7⟩
 have S7:=hideIt s7
 clear s7 S6 P6 c0 c1
 obtain ⟨c0,c1,_,_⟩:=two_cells S7.out.box
 have P7:=hideIt (put_small S7.out ((d' - 1 : Nat) : Int) (d' - 1) 6 rfl (by omega) (by omega) (wid_6 (by omega)) (by simp [bitsOf_length];omega))
 go_wp2_with fail
 refine P7.out.mono ?_
 rintro e w8 ⟨rfl,v8,s8⟩
 have S8:=hideIt s8
 clear s8 S7 P7 c0 c1
 obtain ⟨c0,c1,_,_⟩:=two_cells S8.out.box
 go_wp2
 have SD:=hideIt (S8.out.past ((Only.refl (fun _ => False) w8).drew))
 have hl4 : (l ++ [true] ++ [true] ++ bitsOf a' 5 ++ bitsOf (d' - 1) 6).length ≤ 1000000000:=by simp [bitsOf_length];omega
 go_region_with (first | (go_at_call 171;refine (trail_win a' z' d' _ hs').mono ?_;rintro e w5 ⟨rfl,o5⟩;have S5:=hideIt (SD.out.past o5);have c2:=(two_cells S5.out.box).2.1) | (go_at_call 139;refine (put_in S5.out (x : Int) y z' e3.out (by omega) (by omega) y2 hl4).mono ?_;rintro e w6 ⟨rfl,v6,S6⟩))
 all_goals
  have S9:=hideIt S6
  clear S6
  clear c0 c1
  obtain ⟨c0,c1,_,_⟩:=two_cells S9.out.box
  obtain ⟨c2,c3,f2,f3⟩:=two_cells S9.out.res
  go_wp2
  obtain ⟨g,r1,r2,r3⟩:=S9.out.fin (.int .i64 a') (.int .i64 d') rfl
  exact bodyPost_ret (results_cell_row rfl _ _ (w.heap.size + 1) 148 _ (0,0) _ rfl g Tryz.underlying148 rfl Tryz.sizeWin) rfl ⟨rfl,v6,r1,r2,r3⟩
theorem write_any {w : World} {lo B : Nat} {v : Value} {l : List Bool} (h : WrAt 138 5 w lo B v l) (x : Nat) (wn : Option (Nat × Nat)) (a d : Nat) (hwn : W2 wn a d) (hl : l.length ≤ 100000000) (hx : x < 18446744073709551616) (hT : Tab w) (hB : 0 < B) :
  Calls Tryz.prog 148 #[.pointer (some ⟨B,0,none⟩),.int .u64 x,.agg #[.int .i64 a,.int .i64 d]] w fun e w' => ∃ a' d' : Nat,e = .returned (.agg #[.int .i64 a',.int .i64 d']) ∧ W2 (gx x wn).2 a' d' ∧
   ∃ v',WrAt 138 5 w' lo B v' (l ++ (gx x wn).1) ∧ Only (Foot B v) w w' ∧ Stays w v v':=by
 by_cases h0 : x = 0
 ·subst h0
  have e : gx 0 wn = ([false],wn):=by unfold gx;rw [if_pos rfl]
  rw [e]
  refine (write_zero h a d hl).mono ?_
  rintro e w' ⟨rfl,r⟩
  exact ⟨a,d,rfl,hwn,r⟩
 ·obtain ⟨n1,n2,n3⟩:=win_new (Nat.pos_of_ne_zero h0) hx
  have hw : W2 (some (ldz x,tz x)) (ldz x) (64 - ldz x - tz x):=.inr ⟨tz x,rfl,n1,by omega,by omega⟩
  have hN : ∀ m : List Bool,m ++ [true] ++ [true] ++ bitsOf (ldz x) 5 ++ bitsOf (63 - ldz x - tz x) 6 ++ bitsOf (x / 2 ^ tz x) (64 - ldz x - tz x) = m ++ newW x:=fun m => by unfold newW;simp
  rcases hwn with ⟨rfl,rfl,rfl⟩ | ⟨z,rfl,h1,h2,h3⟩
  ·have e : gx x none = (newW x,some (ldz x,tz x)):=by unfold gx;rw [if_neg h0]
   rw [e]
   refine (write_first h x hl (Nat.pos_of_ne_zero h0) hx hT hB).mono ?_
   rintro e w' ⟨rfl,v',r⟩
   rw [hN] at r
   exact ⟨_,_,rfl,hw,v',r⟩
  ·by_cases hf : fitsW x a z
   ·have e : gx x (some (a,z)) = (true :: false :: bitsOf (x / 2 ^ z) (64 - a - z),some (a,z)):=by unfold gx;rw [if_neg h0];simp only;rw [if_pos hf]
    rw [e]
    refine (write_fit h a z d x hl (Nat.pos_of_ne_zero h0) hx h2 h3 hf).mono ?_
    rintro e w' ⟨rfl,v',r⟩
    rw [show l ++ [true] ++ [false] ++ bitsOf (x / 2 ^ z) d = l ++ true :: false :: bitsOf (x / 2 ^ z) (64 - a - z) by rw [show 64 - a - z = d by omega];simp] at r
    exact ⟨a,d,rfl,.inr ⟨z,rfl,h1,h2,h3⟩,v',r⟩
   ·have e : gx x (some (a,z)) = (newW x,some (ldz x,tz x)):=by unfold gx;rw [if_neg h0];simp only;rw [if_neg hf]
    rw [e]
    refine (write_other h x a z d h2 h3 hf hl (Nat.pos_of_ne_zero h0) hx hT hB).mono ?_
    rintro e w' ⟨rfl,v',r⟩
    rw [hN] at r
    exact ⟨_,_,rfl,hw,v',r⟩
end Go.Proofs.YthapipgaohlgdaaGreatDoor
