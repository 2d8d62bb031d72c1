/- Several texts in one: Kz, SizeW12. -/
import Derived.Test.YthapipgaohlgdaaGreatDoorG17
import Derived.Deep.QuietTactic
import Derived.BigQuiet


namespace Go.Proofs.YthapipgaohlgdaaGreatDoor
set_option maxRecDepth 100000
open Go.RowKit
theorem gs_two {n : Nat} (h : n ≤ 16383) : (gs n).length ≤ 2:=Nat.le_trans (gs_mono h) (by rw [gs_big (by omega),gs_small (by omega)];decide)
theorem ENCC_size {tn : List Int} {s : List (Int × Int)} (ht : tn.length ≤ 64) (hs : s.length ≤ 200) : (ENCC tn s).1.length ≤ 2 + tn.length + 3 + 2 * (3 + (1 + 8 * s.length)):=by
 rw [ENCC_of ht (by omega),blk_small (by omega)]
 have h8:=(ENC8_len (l:=s.map Prod.fst) (by rw [List.length_map];omega)).1
 have h11:=(ENC11_len (l:=s.map Prod.snd) (by rw [List.length_map];omega)).1
 rw [List.length_map] at h8 h11
 have g8:=gs_two (n:=(e8c (s.map Prod.fst)).length) (by unfold e8c;omega)
 have g11:=gs_two (n:=(e11c (s.map Prod.snd)).length) (by unfold e11c;omega)
 have gn:=gs_two (n:=s.length) (by omega)
 unfold blk e8c e11c at *
 simp only [List.length_cons,List.length_append] at *
 omega
def rest12 (s : List (Int × Int)) : List Int:=gs s.length ++ (blk (e8c (s.map Prod.fst)) ++ blk (e11c (s.map Prod.snd)))
theorem ENCC_rest {tn : List Int} {s : List (Int × Int)} (ht : tn.length ≤ 64) (hs : s.length ≤ 65536) : (ENCC tn s).1 = 1 :: (tn.length : Int) :: (tn ++ rest12 s):=by
 rw [ENCC_of ht hs,blk_small (by omega)];rfl
theorem ENCC_drop {tn : List Int} {s : List (Int × Int)} (ht : tn.length ≤ 64) (hs : s.length ≤ 65536) : (ENCC tn s).1.drop (2 + tn.length) = rest12 s:=by
 rw [ENCC_rest ht hs,show 2 + tn.length = tn.length + 1 + 1 by omega,List.drop_succ_cons,List.drop_succ_cons,List.drop_left]
theorem ENCC_lenr {tn : List Int} {s : List (Int × Int)} (ht : tn.length ≤ 64) (hs : s.length ≤ 65536) : (ENCC tn s).1.length = 2 + tn.length + (rest12 s).length:=by
 rw [ENCC_rest ht hs];simp only [List.length_cons,List.length_append];omega
theorem rest12_pos (s : List (Int × Int)) : 0 < (rest12 s).length:=by
 unfold rest12;have:=gs_pos s.length;simp only [List.length_append];omega
theorem ENCC_err {tn : List Int} {s : List (Int × Int)} (h : 64 < tn.length) : (ENCC tn s).2 = 4:=by rw [ENCC_long (.inl h)]
theorem ENCC_ok {tn : List Int} {s : List (Int × Int)} (hs : s.length ≤ 65536) (h : tn.length ≤ 64) : (ENCC tn s).2 = 0:=by rw [ENCC_of h hs]
theorem ENCC_few {tn : List Int} {s : List (Int × Int)} (hs : s.length ≤ 200) : (ENCC tn s).1.length ≤ 4000:=by
 by_cases h : 64 < tn.length
 ·rw [ENCC_long (.inl h)];simp
 ·have:=ENCC_size (tn:=tn) (s:=s) (by omega) hs;omega
theorem ENCC_range {tn : List Int} {s : List (Int × Int)} (ht : ∀ y ∈ tn,0 ≤ y ∧ y ≤ 255) (h1 : tn.length ≤ 64) (h2 : s.length ≤ 65536) (hg : Gs s) : ∀ y ∈ (ENCC tn s).1,0 ≤ y ∧ y ≤ 255:=by
 rw [ENCC_of h1 h2]
 intro y hy
 simp only [List.mem_cons,List.mem_append] at hy
 rcases hy with rfl | hy | hy | hy | hy
 ·omega
 ·exact blk_range tn ht y hy
 ·exact gs_range _ y hy
 ·exact blk_range _ (ENC8_byt hg.1) y hy
 ·exact blk_range _ (ENC11_rng _) y hy
end Go.Proofs.YthapipgaohlgdaaGreatDoor


namespace Go.Proofs.YthapipgaohlgdaaGreatDoor
set_option maxRecDepth 100000
open Go.RowKit
theorem box_cells (w : World) (x y : Value) : (w.alloc (.cells #[x,y] 24)).cell? ⟨w.heap.size,0,none⟩ = some x ∧ (w.alloc (.cells #[x,y] 24)).cell? ⟨w.heap.size,1,none⟩ = some y:=⟨by go_cell,by go_cell⟩
set_option maxHeartbeats 1600000 in
theorem size_any (t : ByteArray) (u : Value) (s : List (Int × Int)) (w : World) (h : Sps w u s) (hg : Gs s) (hm : s.length ≤ maxLen) (hm2 : t.size ≤ maxLen) (hT : Tab w) :
  Calls Tryz.prog 7 #[.agg #[.string t,u]] w fun e w' => e = .returned (.bool true) ∧ Only (fun _ => False) w w':=by
 have AW : Hid (∀ W,Only (fun _ => False) w W → Calls Tryz.prog 9 #[] W fun e w' => e = .returned (.bool true) ∧ Only (fun _ => False) W w'):=fun W o => awake_any W (hT.past o)
 have EN : Hid (∀ W,Only (fun _ => False) w W → Calls Tryz.prog 10 #[.agg #[.string t,u]] W fun e w' => ∃ v',e = .returned (.tuple #[v',.int .i64 (ENCC (sb t) s).2]) ∧ w'.ownsRow W.heap.size 5 1 v' (ENCC (sb t) s).1.length ((ENCC (sb t) s).1.map (Value.int .u8)) ∧ Only (fun _ => False) W w') :=
  fun W o => encode12_all t u s W (h.past o) hg hm hm2 (hT.past o)
 obtain ⟨ao,cap,rfl⟩:=h.len
 unfold maxLen at hm hm2
 obtain ⟨n,hn⟩ : ∃ n,n = s.length:=⟨_,rfl⟩
 rw [← hn] at EN hm
 rw [← hn]
 have HN:=hideIt hn
 clear h hg hT hn
 have hsb:=sb_len t
 have HSB:=hideIt hsb
 clear hsb
 have BC:=box_cells w (.string t) (.slice ao n cap)
 by_cases hl : 200 < n
 ·have d1 : decide ((200 : Int) < (n : Int)) = true:=decide_eq_true (by omega)
  have d2 : decide (200 < n) = true:=decide_eq_true (by omega)
  clear EN
  go_enter Tryz.func7,Tryz.ntmps7
  go_wp2_with fail
  refine (AW.out _ ((Only.refl _ _).alloc _)).mono ?_
  rintro e w1 ⟨rfl,o1⟩
  have q1:=cell_past o1 BC.1
  have q2:=cell_past o1 BC.2
  have O1:=hideIt (Only.same ((Only.refl _ _).alloc _) o1)
  clear o1 AW BC
  go_wp2
  go_ret
  exact ⟨rfl,O1.out⟩
 ·have d1 : decide ((200 : Int) < (n : Int)) = false:=decide_eq_false (by omega)
  have d2 : decide (200 < n) = false:=decide_eq_false (by omega)
  by_cases ht : 64 < t.size
  ·have e4 : (ENCC (sb t) s).2 = 4:=ENCC_err (by rw [HSB.out];exact ht)
   rw [e4] at EN
   clear e4
   go_enter Tryz.func7,Tryz.ntmps7
   go_wp2_with fail
   refine (AW.out _ ((Only.refl _ _).alloc _)).mono ?_
   rintro e w1 ⟨rfl,o1⟩
   have q1:=cell_past o1 BC.1
   have q2:=cell_past o1 BC.2
   have O1:=hideIt (Only.same ((Only.refl _ _).alloc _) o1)
   have E1:=hideIt (EN.out w1 O1.out)
   clear o1 AW BC EN
   go_wp2_with fail
   refine E1.out.mono ?_
   rintro e w2 ⟨v',rfl,own2,o2⟩
   have O2:=hideIt (O1.out.same o2)
   have q1':=cell_past o2 q1
   have q2':=cell_past o2 q2
   obtain ⟨a2,c2,e2⟩:=(Bs.of_own own2).len
   subst e2
   clear own2 o2 q1 q2 E1
   generalize (ENCC (sb t) s).1.length = m at *
   go_wp2_with fail
   go_quiet (fail)
   go_wp2
   go_ret
   exact ⟨rfl,O2.out.drewN nq⟩
  ·have e0 : (ENCC (sb t) s).2 = 0:=ENCC_ok (by rw [← HN.out];omega) (by rw [HSB.out];omega)
   have hsz:=ENCC_size (tn:=sb t) (s:=s) (by rw [HSB.out];omega) (by rw [← HN.out];omega)
   rw [HSB.out,← HN.out] at hsz
   rw [e0] at EN
   have HM:=hideIt (MOST_nat (n:=n) (by omega))
   clear e0
   go_enter Tryz.func7,Tryz.ntmps7
   go_wp2_with fail
   refine (AW.out _ ((Only.refl _ _).alloc _)).mono ?_
   rintro e w1 ⟨rfl,o1⟩
   have q1:=cell_past o1 BC.1
   have q2:=cell_past o1 BC.2
   have O1:=hideIt (Only.same ((Only.refl _ _).alloc _) o1)
   have E1:=hideIt (EN.out w1 O1.out)
   clear o1 AW BC EN
   go_wp2_with fail
   refine E1.out.mono ?_
   rintro e w2 ⟨v',rfl,own2,o2⟩
   have O2:=hideIt (O1.out.same o2)
   have q1':=cell_past o2 q1
   have q2':=cell_past o2 q2
   obtain ⟨a2,c2,e2⟩:=(Bs.of_own own2).len
   subst e2
   clear own2 o2 q1 q2 E1
   generalize (ENCC (sb t) s).1.length = m at *
   have MO : Hid (∀ W,Calls Tryz.prog 13 #[.int .i64 n] W fun e w' => e = .returned (.int .i64 (1 + 8 * (n : Int))) ∧ w' = W):=fun W => by rw [← HM.out];exact (most_any n W).mono (fun _ _ h => ⟨h.1,h.2.symm⟩)
   have r1 : IntKind.i64.wrap (2 + (t.size : Int)) = 2 + (t.size : Int):=by rw [IntKind.wrap_i64];omega
   have r2 : IntKind.i64.wrap (2 + (t.size : Int) + 3) = 2 + (t.size : Int) + 3:=by rw [IntKind.wrap_i64];omega
   have r3 : IntKind.i64.wrap (3 + (1 + 8 * (n : Int))) = 3 + (1 + 8 * (n : Int)):=by rw [IntKind.wrap_i64];omega
   have r4 : IntKind.i64.wrap (2 * (3 + (1 + 8 * (n : Int)))) = 2 * (3 + (1 + 8 * (n : Int))):=by rw [IntKind.wrap_i64];omega
   have r5 : IntKind.i64.wrap (2 + (t.size : Int) + 3 + 2 * (3 + (1 + 8 * (n : Int)))) = 2 + (t.size : Int) + 3 + 2 * (3 + (1 + 8 * (n : Int))):=by rw [IntKind.wrap_i64];omega
   have dq : decide ((m : Int) ≤ 2 + (t.size : Int) + 3 + 2 * (3 + (1 + 8 * (n : Int)))) = true:=decide_eq_true (by omega)
   go_wp2_with fail
   go_quiet ((go_at_call 13;exact Calls.quiet_of_same (MO.out _)))
   go_wp2
   go_ret
   exact ⟨rfl,O2.out.drewN nq⟩
end Go.Proofs.YthapipgaohlgdaaGreatDoor
