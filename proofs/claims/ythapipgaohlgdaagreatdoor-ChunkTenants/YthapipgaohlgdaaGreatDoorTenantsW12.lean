import Derived.Test.YthapipgaohlgdaaGreatDoorG18
import Derived.Test.YthapipgaohlgdaaGreatDoorSameB
import Derived.Deep.AppendLies
namespace Go.Proofs.YthapipgaohlgdaaGreatDoor
set_option maxRecDepth 100000
open Go.RowKit
theorem Bs.cuti {w : World} {g la cp i : Nat} {A : List Int} (h : Bs .u8 w (.slice (some ⟨g,0,none⟩) la cp) A) (hi : i ≤ la) : Bs .u8 w (.slice (some ⟨g,i,none⟩) (la - i) (cp - i)) (A.drop i):=by
 have:=h.cut (n:=i) hi
 rw [Option.map_some,Go.WideShapes.add_plain,Nat.zero_add] at this
 exact this
set_option maxHeartbeats 1600000 in
theorem tenants_long (t t2 : ByteArray) (u : Value) (s : List (Int × Int)) (w : World) (h : Sps w u s) (hT : Tab w) (hl : 200 < s.length ∨ 1000 < t2.size) (hm : s.length ≤ maxLen) (hm2 : t2.size ≤ maxLen) :
  Calls Tryz.prog 8 #[.agg #[.string t,u],.string t2] w fun e w' => e = .returned (.bool true) ∧ Only (fun _ => False) w w':=by
 have AW : Hid (∀ W,Only (fun _ => False) w W → Calls Tryz.prog 9 #[] W fun e w' => e = .returned (.bool true) ∧ Only (fun _ => False) W w'):=fun W o => awake_any W (hT.past o)
 obtain ⟨ao,cap,rfl⟩:=h.len
 unfold maxLen at hm hm2
 clear h hT
 generalize s.length = n at *
 have BC:=box_cells w (.string t) (.slice ao n cap)
 have hd : (decide ((200 : Int) < (n : Int)) = true ∧ decide (200 < n) = true) ∨ (decide ((200 : Int) < (n : Int)) = false ∧ decide (200 < n) = false ∧ decide ((1000 : Int) < (t2.size : Int)) = true ∧ decide (1000 < t2.size) = true):=by
  by_cases h : 200 < n
  ·exact .inl ⟨decide_eq_true (by omega),decide_eq_true h⟩
  ·exact .inr ⟨decide_eq_false (by omega),decide_eq_false h,decide_eq_true (by omega),decide_eq_true (by omega)⟩
 clear hl
 rcases hd with ⟨d1,d2⟩ | ⟨d1,d2,d3,d4⟩
 all_goals
  go_enter Tryz.func8,Tryz.ntmps8
  go_wp2_with fail
  refine (AW.out _ ((Only.refl _ _).alloc _)).mono ?_
  rintro e w1 ⟨rfl,o1⟩
  have q1:=cell_past o1 BC.1
  have q2:=cell_past o1 BC.2
  have O1:=hideIt (Only.same ((Only.refl _ _).alloc _) o1)
  clear o1 AW BC
  go_wp2
  go_ret
  exact ⟨rfl,O1.out⟩
set_option maxHeartbeats 1600000 in
theorem tenants_run (t t2 : ByteArray) (u : Value) (s : List (Int × Int)) (w : World) (h : Sps w u s) (hg : Gs s) (hT : Tab w) (hl : s.length ≤ 200) (hl2 : t2.size ≤ 1000) (hm : t.size ≤ maxLen) :
  Calls Tryz.prog 8 #[.agg #[.string t,u],.string t2] w fun e w' => e = .returned (.bool true) ∧ Only (fun _ => False) w w':=by
 have AW : Hid (∀ W,Only (fun _ => False) w W → Calls Tryz.prog 9 #[] W fun e w' => e = .returned (.bool true) ∧ Only (fun _ => False) W w'):=fun W o => awake_any W (hT.past o)
 have EN : Hid (∀ (r : ByteArray) W,r.size ≤ maxLen → Only (fun _ => False) w W → Calls Tryz.prog 10 #[.agg #[.string r,u]] W fun e w' => ∃ v',e = .returned (.tuple #[v',.int .i64 (ENCC (sb r) s).2]) ∧ w'.ownsRow W.heap.size 5 1 v' (ENCC (sb r) s).1.length ((ENCC (sb r) s).1.map (Value.int .u8)) ∧ Only (fun _ => False) W w') :=
  fun r W hr o => encode12_all r u s W (h.past o) hg (by unfold maxLen;omega) hr (hT.past o)
 obtain ⟨ao,cap,rfl⟩:=h.len
 obtain ⟨n,hn⟩ : ∃ n,n = s.length:=⟨_,rfl⟩
 rw [← hn] at EN hl
 rw [← hn]
 have HN:=hideIt hn
 have HM:=hideIt hm
 unfold maxLen at hm
 clear h hg hT hn
 have HSB:=hideIt (sb_len t)
 have HSB2:=hideIt (sb_len t2)
 have BC:=box_cells w (.string t) (.slice ao n cap)
 have d1 : decide ((200 : Int) < (n : Int)) = false:=decide_eq_false (by omega)
 have d2 : decide (200 < n) = false:=decide_eq_false (by omega)
 have d3 : decide ((1000 : Int) < (t2.size : Int)) = false:=decide_eq_false (by omega)
 have d4 : decide (1000 < t2.size) = false:=decide_eq_false (by omega)
 obtain ⟨c1,hc1⟩ : ∃ c,c = (ENCC (sb t) s).2:=⟨_,rfl⟩
 obtain ⟨c2,hc2⟩ : ∃ c,c = (ENCC (sb t2) s).2:=⟨_,rfl⟩
 have E1:=hideIt (EN.out t)
 have E2:=hideIt (EN.out t2)
 rw [← hc1] at E1
 rw [← hc2] at E2
 have HC1:=hideIt hc1
 have HC2:=hideIt hc2
 clear hc1 hc2 EN
 go_enter Tryz.func8,Tryz.ntmps8
 go_wp2_with fail
 refine (AW.out _ ((Only.refl _ _).alloc _)).mono ?_
 rintro e w1 ⟨rfl,o1⟩
 have q1:=cell_past o1 BC.1
 have q2:=cell_past o1 BC.2
 have O1:=hideIt (Only.same ((Only.refl _ _).alloc _) o1)
 have E1':=hideIt (E1.out w1 HM.out O1.out)
 clear o1 AW BC E1
 go_wp2_with fail
 refine E1'.out.mono ?_
 rintro e w2 ⟨va,rfl,own2,o2⟩
 have O2:=hideIt (O1.out.same o2)
 have k1:=cell_past o2 q1
 have k2:=cell_past o2 q2
 have E2':=hideIt (E2.out w2 (by unfold maxLen;omega) O2.out)
 have OW2:=hideIt own2
 clear own2 o2 q1 q2 E1' E2
 go_wp2_with fail
 refine E2'.out.mono ?_
 rintro e w3 ⟨vb,rfl,own3,o3⟩
 have O3:=hideIt (O2.out.same o3)
 have p1:=cell_past o3 k1
 have p2:=cell_past o3 k2
 have OW3:=hideIt own3
 have OW2':=hideIt (o3.own OW2.out (fun _ _ f => f))
 clear own3 o3 k1 k2 E2' OW2
 by_cases ht : 64 < t.size
 ·have hc : c1 = 4:=by rw [HC1.out];exact ENCC_err (by rw [HSB.out];exact ht)
  subst hc
  have f1 : decide ((64 : Int) < (t.size : Int)) = true:=decide_eq_true (by omega)
  have f2 : decide (64 < t.size) = true:=decide_eq_true (by omega)
  go_wp2
  go_ret
  exact ⟨rfl,O3.out⟩
 have hc : c1 = 0:=by rw [HC1.out];exact ENCC_ok (by rw [← HN.out];omega) (by rw [HSB.out];omega)
 subst hc
 have f1 : decide ((64 : Int) < (t.size : Int)) = false:=decide_eq_false (by omega)
 have f2 : decide (64 < t.size) = false:=decide_eq_false (by omega)
 by_cases ht2 : 64 < t2.size
 ·have hc : c2 = 4:=by rw [HC2.out];exact ENCC_err (by rw [HSB2.out];exact ht2)
  subst hc
  have f3 : decide ((64 : Int) < (t2.size : Int)) = true:=decide_eq_true (by omega)
  have f4 : decide (64 < t2.size) = true:=decide_eq_true (by omega)
  go_wp2
  go_ret
  exact ⟨rfl,O3.out⟩
 have hc : c2 = 0:=by rw [HC2.out];exact ENCC_ok (by rw [← HN.out];omega) (by rw [HSB2.out];omega)
 subst hc
 have hlen1:=ENCC_lenr (tn:=sb t) (s:=s) (by rw [HSB.out];omega) (by rw [← HN.out];omega)
 have hlen2:=ENCC_lenr (tn:=sb t2) (s:=s) (by rw [HSB2.out];omega) (by rw [← HN.out];omega)
 have hpos:=rest12_pos s
 have hfew:=ENCC_few (tn:=sb t) (s:=s) (by rw [← HN.out];omega)
 have dr1:=ENCC_drop (tn:=sb t) (s:=s) (by rw [HSB.out];omega) (by rw [← HN.out];omega)
 have dr2:=ENCC_drop (tn:=sb t2) (s:=s) (by rw [HSB2.out];omega) (by rw [← HN.out];omega)
 rw [HSB.out] at hlen1 dr1
 rw [HSB2.out] at hlen2 dr2
 obtain ⟨g1,cp1,e1,_,_⟩:=OW2'.out.form (by omega)
 obtain ⟨g2,cp2,e2,_,_⟩:=OW3.out.form (by omega)
 subst e1 e2
 have B1:=Bs.of_own OW2'.out
 have B2:=Bs.of_own OW3.out
 obtain ⟨i,hi⟩ : ∃ i,i = 2 + t.size:=⟨_,rfl⟩
 obtain ⟨k,hk⟩ : ∃ k,k = 2 + t2.size:=⟨_,rfl⟩
 rw [← hi] at hlen1 dr1
 rw [← hk] at hlen2 dr2
 have cc1 : (ENCC (sb t) s).1.length ≤ cp1:=by obtain ⟨_,_,e,hh,_⟩:=B1;cases e;exact hh
 have cc2 : (ENCC (sb t2) s).1.length ≤ cp2:=by obtain ⟨_,_,e,hh,_⟩:=B2;cases e;exact hh
 have S1:=B1.cuti (i:=i) (by omega)
 have S2:=B2.cuti (i:=k) (by omega)
 rw [dr1] at S1
 rw [dr2] at S2
 have HS1:=hideIt S1
 have HS2:=hideIt S2
 have HRL : Hid ((rest12 s).length ≤ 140737488355328):=by simp only [Hid];omega
 clear S1 S2 B1 B2 dr1 dr2 OW2' OW3 HC1 HC2
 generalize (ENCC (sb t) s).1.length = la at *
 generalize (ENCC (sb t2) s).1.length = lb at *
 have hi' : (2 : Int) + (t.size : Int) = (i : Int):=by omega
 have hk' : (2 : Int) + (t2.size : Int) = (k : Int):=by omega
 have g1a : (i : Int) ≤ (la : Int):=by omega
 have g2a : (k : Int) ≤ (lb : Int):=by omega
 have g1b : (la : Int) ≤ (cp1 : Int):=by omega
 have g2b : (lb : Int) ≤ (cp2 : Int):=by omega
 have dl1 : decide ((i : Int) ≤ (la : Int)) = true:=decide_eq_true g1a
 have dl2 : decide ((k : Int) ≤ (lb : Int)) = true:=decide_eq_true g2a
 have dl3 : decide (i ≤ la) = true:=decide_eq_true (by omega)
 have dl4 : decide (k ≤ lb) = true:=decide_eq_true (by omega)
 have ni : ¬ cp1 = i:=by omega
 have nk : ¬ cp2 = k:=by omega
 have HI:=hideIt hi
 have HK:=hideIt hk
 have HL1:=hideIt hlen1
 have HL2:=hideIt hlen2
 clear hi hk hlen1 hlen2
 go_wp2_with fail
 go_quiet ((go_at_call 12;exact Calls.quiet_of (bsame_q (.slice (some ⟨g1,i,none⟩) (la - i) (cp1 - i)) (.slice (some ⟨g2,k,none⟩) (lb - k) (cp2 - k)) (rest12 s) _ (HS1.out.past ((Only.refl _ _).drewN _)) (HS2.out.past ((Only.refl _ _).drewN _)) HRL.out)))
 go_wp2
 go_ret
 exact ⟨rfl,O3.out.drewN nq⟩
theorem tenants_any (t t2 : ByteArray) (u : Value) (s : List (Int × Int)) (w : World) (h : Sps w u s) (hg : Gs s) (hT : Tab w) (hm0 : s.length ≤ maxLen) (hm : t.size ≤ maxLen) (hm2 : t2.size ≤ maxLen) :
  Calls Tryz.prog 8 #[.agg #[.string t,u],.string t2] w fun e w' => e = .returned (.bool true) ∧ Only (fun _ => False) w w':=by
 by_cases hl : 200 < s.length ∨ 1000 < t2.size
 ·exact tenants_long t t2 u s w h hT hl hm0 hm2
 ·exact tenants_run t t2 u s w h hg hT (by omega) (by omega) hm
end Go.Proofs.YthapipgaohlgdaaGreatDoor
