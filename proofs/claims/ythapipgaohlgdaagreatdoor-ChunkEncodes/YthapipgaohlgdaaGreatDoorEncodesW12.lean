import Derived.Test.YthapipgaohlgdaaGreatDoorG31
import Derived.Test.YthapipgaohlgdaaGreatDoorG19
namespace Go.Proofs.YthapipgaohlgdaaGreatDoor
set_option maxRecDepth 100000
open Go.RowKit
set_option maxHeartbeats 1600000 in
theorem encodes_any (t : ByteArray) (u : Value) (s : List (Int × Int)) (q : Int) (w : World) (h : Sps w u s) (hg : Gs s) (hm : s.length ≤ maxLen) (hm2 : t.size ≤ maxLen) (hT : Tab w) :
  Calls Tryz.prog 3 #[.agg #[.string t,u],.int .i64 q] w fun e w' => e = .returned (.bool true) ∧ Only (fun _ => False) w w':=by
 have AW : Hid (∀ W,Only (fun _ => False) w W → Calls Tryz.prog 9 #[] W fun e w' => e = .returned (.bool true) ∧ Only (fun _ => False) W w'):=fun W o => awake_any W (hT.past o)
 have EN : Hid (∀ W,Only (fun _ => False) w W → Calls Tryz.prog 10 #[.agg #[.string t,u]] W fun e w' => ∃ v',e = .returned (.tuple #[v',.int .i64 (ENCC (sb t) s).2]) ∧ w'.ownsRow W.heap.size 5 1 v' (ENCC (sb t) s).1.length ((ENCC (sb t) s).1.map (Value.int .u8)) ∧ Only (fun _ => False) W w') :=
  fun W o => encode12_all t u s W (h.past o) hg hm hm2 (hT.past o)
 have RE : Hid ((s.length ≤ 200 ∨ 65536 < s.length) → ∀ W,Only (fun _ => False) w W → Calls Tryz.prog 11 #[.agg #[.string t,u]] W fun e w' => ∃ v',e = .returned (.tuple #[v',.int .i64 (ENCC (sb t) s).2]) ∧ Bs .u8 w' v' (ENCC (sb t) s).1 ∧ Only (fun _ => False) W w') :=
  fun hl W o => rencode12_all t u s W (h.past o) hg hl hm hm2
 have LE : Hid ((s.length ≤ 200 ∨ 65536 < s.length) → (ENCC (sb t) s).1.length ≤ 4000):=by
  intro hl
  rcases hl with hl | hl
  ·exact ENCC_few hl
  ·rw [ENCC_long (.inr hl)];simp
 obtain ⟨ao,cap,rfl⟩:=h.len
 unfold maxLen at hm hm2
 obtain ⟨n,hn⟩ : ∃ n,n = s.length:=⟨_,rfl⟩
 rw [← hn] at EN RE LE hm
 rw [← hn]
 clear h hg hT hn
 generalize ENCC (sb t) s = EE at *
 obtain ⟨eb,c⟩:=EE
 simp only at EN RE LE
 have BC:=box_cells w (.string t) (.slice ao n cap)
 have hd : (decide ((200 : Int) < (n : Int)) = true ∧ decide (200 < n) = true ∧ decide ((n : Int) ≤ 65536) = true ∧ decide (n ≤ 65536) = true) ∨
   ((decide ((200 : Int) < (n : Int)) = false ∧ decide (200 < n) = false ∨ decide ((200 : Int) < (n : Int)) = true ∧ decide (200 < n) = true ∧ decide ((n : Int) ≤ 65536) = false ∧ decide (n ≤ 65536) = false) ∧ (n ≤ 200 ∨ 65536 < n)):=by
  by_cases h1 : 200 < n
  ·by_cases h2 : n ≤ 65536
   ·exact .inl ⟨decide_eq_true (by omega),decide_eq_true h1,decide_eq_true (by omega),decide_eq_true h2⟩
   ·exact .inr ⟨.inr ⟨decide_eq_true (by omega),decide_eq_true h1,decide_eq_false (by omega),decide_eq_false h2⟩,.inr (by omega)⟩
  ·exact .inr ⟨.inl ⟨decide_eq_false (by omega),decide_eq_false h1⟩,.inl (by omega)⟩
 rcases hd with ⟨d1,d2,d3,d4⟩ | ⟨hd,hor⟩
 ·clear EN RE LE
  go_enter Tryz.func3,Tryz.ntmps3
  go_wp2_with fail
  refine (AW.out _ ((Only.refl _ _).alloc _)).mono ?_
  rintro e w1 ⟨rfl,o1⟩
  have q1:=cell_past o1 BC.1
  have q2:=cell_past o1 BC.2
  have O1:=hideIt (Only.same ((Only.refl _ _).alloc _) o1)
  clear o1 AW BC
  go_wp2
  go_ret
  exact ⟨rfl,O1.out⟩
 have RE2:=hideIt (RE.out hor)
 have LE2:=hideIt (LE.out hor)
 clear RE LE hor
 by_cases ht : 1000 < t.size
 ·have f1 : decide ((1000 : Int) < (t.size : Int)) = true:=decide_eq_true (by omega)
  have f2 : decide (1000 < t.size) = true:=decide_eq_true (by omega)
  rcases hd with ⟨d1,d2⟩ | ⟨d1,d2,d3,d4⟩
  all_goals
   clear EN RE2 LE2
   go_enter Tryz.func3,Tryz.ntmps3
   go_wp2_with fail
   refine (AW.out _ ((Only.refl _ _).alloc _)).mono ?_
   rintro e w1 ⟨rfl,o1⟩
   have q1:=cell_past o1 BC.1
   have q2:=cell_past o1 BC.2
   have O1:=hideIt (Only.same ((Only.refl _ _).alloc _) o1)
   clear o1 AW BC
   go_wp2
   go_ret
   exact ⟨rfl,O1.out⟩
 have f1 : decide ((1000 : Int) < (t.size : Int)) = false:=decide_eq_false (by omega)
 have f2 : decide (1000 < t.size) = false:=decide_eq_false (by omega)
 have zc : (c == c) = true:=by simp
 have zm : (MOST q == MOST q) = true:=by simp
 rcases hd with ⟨d1,d2⟩ | ⟨d1,d2,d3,d4⟩
 all_goals
  go_enter Tryz.func3,Tryz.ntmps3
  go_wp2_with fail
  refine (AW.out _ ((Only.refl _ _).alloc _)).mono ?_
  rintro e w1 ⟨rfl,o1⟩
  have q1:=cell_past o1 BC.1
  have q2:=cell_past o1 BC.2
  have O1:=hideIt (Only.same ((Only.refl _ _).alloc _) o1)
  have E1:=hideIt (EN.out w1 O1.out)
  clear o1 AW BC EN
  go_wp2_with fail
  refine E1.out.mono ?_
  rintro e w2 ⟨va,rfl,own2,o2⟩
  have O2:=hideIt (O1.out.same o2)
  have k1:=cell_past o2 q1
  have k2:=cell_past o2 q2
  have BA:=hideIt (Bs.of_own own2)
  have R1:=hideIt (RE2.out w2 O2.out)
  clear own2 o2 q1 q2 E1 RE2
  go_wp2_with fail
  refine R1.out.mono ?_
  rintro e w3 ⟨vb,rfl,b3,o3⟩
  have O3:=hideIt (O2.out.same o3)
  have SE:=hideIt (same_eq va vb eb w3 (BA.out.past o3) b3 (by have:=LE2.out;omega))
  clear b3 o3 R1 k1 k2
  go_wp2_with fail
  refine SE.out.mono ?_
  rintro e w4 ⟨rfl,o4⟩
  have O4:=hideIt (O3.out.same o4)
  clear o4 SE
  go_wp2_with fail
  refine (most_any q w4).mono ?_
  rintro e w5 ⟨rfl,rfl⟩
  go_wp2_with fail
  refine (rmost_any q w4).mono ?_
  rintro e w5 ⟨rfl,rfl⟩
  go_wp2
  go_ret
  exact ⟨rfl,O4.out⟩
end Go.Proofs.YthapipgaohlgdaaGreatDoor
