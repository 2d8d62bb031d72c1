/- The walk of the statement 'samples turned about'. -/
import Derived.Test.YthapipgaohlgdabGreatDoorG21
import Derived.Deep.AppendLies
namespace Go.Proofs.YthapipgaohlgdabGreatDoor
open Go.RowKit

theorem Gs.rev {s : List (Int × Int)} (h : Gs s) : Gs s.reverse := by
  refine ⟨fun x hx => h.1 x ?_, fun x hx => h.2 x ?_⟩ <;> (rw [List.map_reverse] at hx; simpa using hx)
theorem rev_getD {s : List (Int × Int)} {j k : Nat} (h : j + 1 + k = s.length) : s.reverse.getD k (0, 0) = s.getD j (0, 0) := by
  rw [List.getD_eq_getElem?_getD, List.getD_eq_getElem?_getD, List.getElem?_reverse (by omega), show s.length - 1 - k = j by omega]
theorem take_sc {s : List (Int × Int)} {k : Nat} (h : k < s.length) : scells (s.take k) ++ [.int .i64 (s.getD k (0, 0)).1, .int .u64 (s.getD k (0, 0)).2] = scells (s.take (k + 1)) := by
  rw [List.take_succ_eq_append_getElem h]
  unfold scells
  rw [List.flatMap_append]
  simp [List.getD_eq_getElem?_getD, List.getElem?_eq_getElem h]
/-- the first k of samples, as cells -/
def tsc (s : List (Int × Int)) (k : Nat) : List Value := scells (s.take k)
theorem cells_two (w : World) (x y : Value) (T : TypeId) : ∀ j u, [x, y][j]? = some u → (w.alloc (.cells #[x, y] T)).cell? ((⟨w.heap.size, 0, none⟩ : Addr).add j) = some u := by
  intro j u hj
  have e : (w.alloc (.cells #[x, y] T)).cell? ((⟨w.heap.size, 0, none⟩ : Addr).add j) = (#[x, y] : Array Value)[j]? := by
    rw [Go.WideShapes.add_plain, Nat.zero_add]; unfold World.cell?; simp only; rw [heap_alloc_new]; rfl
  rw [e, ← hj]
  simp
theorem one_two (x y : Int) : ∀ u ∈ ([.int .i64 x, .int .u64 y] : List Value), u.oneCell' = true := by
  intro u hu; simp at hu; rcases hu with rfl | rfl <;> rfl

set_option maxHeartbeats 3200000 in
set_option maxRecDepth 100000 in
theorem samples_any (t : ByteArray) (u : Value) (s : List (Int × Int)) (w : World) (h : Sps w u s) (hg : Gs s) (hm : s.length ≤ maxLen) (hm2 : t.size ≤ maxLen) (hT : Tab w) :
    Calls Tryz.prog 3 #[.agg #[.string t, u]] w fun e w' => e = .returned (.bool true) ∧ Only (fun _ => False) w w' := by
  obtain ⟨i0, hi, hz0, hz1, hz2⟩ := info_parts Tryz.infoSm
  have AW : Hid (∀ W, Only (fun _ => False) w W → Calls Tryz.prog 4 #[] W fun e w' => e = .returned (.bool true) ∧ Only (fun _ => False) W w') := fun W o => awake_any W (hT.past o)
  have EN : Hid (∀ (l : List (Int × Int)) (v : Value) W, Gs l → l.length ≤ maxLen → Sps W v l → Only (fun _ => False) w W → Calls Tryz.prog 5 #[.agg #[.string t, v]] W fun e w' => ∃ v', e = .returned (.tuple #[v', .int .i64 (ENCC (sb t) l).2]) ∧ w'.ownsRow W.heap.size 5 1 v' (ENCC (sb t) l).1.length ((ENCC (sb t) l).1.map (Value.int .u8)) ∧ Only (fun _ => False) W w') :=
    fun l v W hg2 hl2 hs o => encode12_all t v l W hs hg2 hl2 hm2 (hT.past o)
  have HS := hideIt h
  have HG := hideIt hg
  have HT := hideIt hT
  obtain ⟨ao, cap, rfl⟩ := h.len
  unfold maxLen at hm hm2
  obtain ⟨n, hn⟩ : ∃ n, n = s.length := ⟨_, rfl⟩
  rw [← hn] at hm HS
  rw [← hn]
  have HN := hideIt hn
  have HSB := hideIt (sb_len t)
  clear h hg hT hn
  have BC := box_cells w (.string t) (.slice ao n cap)
  have hnot : ∀ (x : Bool) (w : World), (Op.unary .not (.bool x)).run Tryz.prog w = .ok (.bool (!x)) w := fun _ _ => rfl
  have hd : (decide ((200 : Int) < (n : Int)) = true ∧ decide (200 < n) = true) ∨ (decide ((200 : Int) < (n : Int)) = false ∧ decide (200 < n) = false ∧ decide ((64 : Int) < (t.size : Int)) = true ∧ decide (64 < t.size) = true) ∨ (n ≤ 200 ∧ t.size ≤ 64) := by
    by_cases h1 : 200 < n
    · exact .inl ⟨decide_eq_true (by omega), decide_eq_true h1⟩
    · by_cases h2 : 64 < t.size
      · exact .inr (.inl ⟨decide_eq_false (by omega), decide_eq_false h1, decide_eq_true (by omega), decide_eq_true h2⟩)
      · exact .inr (.inr ⟨by omega, by omega⟩)
  rcases hd with ⟨d1, d2⟩ | ⟨d1, d2, d3, d4⟩ | ⟨hn2, ht2⟩
  · clear EN
    go_enter Tryz.func3, Tryz.ntmps3
    go_wp2_with fail
    refine (AW.out _ ((Only.refl _ _).alloc _)).mono ?_
    rintro e w1 ⟨rfl, o1⟩
    have q1 := cell_past o1 BC.1
    have q2 := cell_past o1 BC.2
    have O1 := hideIt (Only.same ((Only.refl _ _).alloc _) o1)
    clear o1 AW BC
    go_wp2
    go_ret
    exact ⟨rfl, O1.out⟩
  · clear EN
    go_enter Tryz.func3, Tryz.ntmps3
    go_wp2_with fail
    refine (AW.out _ ((Only.refl _ _).alloc _)).mono ?_
    rintro e w1 ⟨rfl, o1⟩
    have q1 := cell_past o1 BC.1
    have q2 := cell_past o1 BC.2
    have O1 := hideIt (Only.same ((Only.refl _ _).alloc _) o1)
    clear o1 AW BC
    go_wp2
    go_ret
    exact ⟨rfl, O1.out⟩
  have d1 : decide ((200 : Int) < (n : Int)) = false := decide_eq_false (by omega)
  have d2 : decide (200 < n) = false := decide_eq_false (by omega)
  have d3 : decide ((64 : Int) < (t.size : Int)) = false := decide_eq_false (by omega)
  have d4 : decide (64 < t.size) = false := decide_eq_false (by omega)
  go_enter Tryz.func3, Tryz.ntmps3
  go_wp2_with fail
  refine (AW.out _ ((Only.refl _ _).alloc _)).mono ?_
  rintro e w1 ⟨rfl, o1⟩
  have q1 := cell_past o1 BC.1
  have q2 := cell_past o1 BC.2
  have O1 := hideIt (Only.same ((Only.refl _ _).alloc _) o1)
  have HS1 := hideIt (HS.out.past O1.out)
  have Q1 := hideIt q1
  have Q2 := hideIt q2
  have hB1 := World.block_lt_of_cell? w1 _ q1
  clear o1 AW BC HS
  go_wp2
  go_loopw [4, 5] (fun tv i wr => ∃ j k : Nat, j + k = n ∧ i = .int .i64 ((j : Int) - 1) ∧ wr.ownsRow w1.heap.size 28 2 tv k (tsc s.reverse k) ∧ Only (fun _ => False) w1 wr) (fun _ i _ => (intOf i + 1).toNat)
  case atStart => exact ⟨n, 0, by omega, rfl, World.ownsRow_nil _ _ _ _, Only.refl _ _⟩
  case round =>
    obtain ⟨j, k, hjk, hi5, own, od⟩ := hrel
    obtain ⟨tv, htv⟩ : ∃ tv, tv = u4 := ⟨_, rfl⟩
    subst htv
    have r1 := cell_past od Q1.out
    have r2 := cell_past od Q2.out
    have OWN := hideIt own
    have OD := hideIt od
    cases j with
    | succ j =>
      obtain rfl : u5 = .int .i64 (j : Int) := by rw [hi5]; simp
      have hjn : j < s.length := by rw [← HN.out]; omega
      obtain ⟨b, off, cp, e1, x1, x2⟩ := (HS1.out.past od).at j hjn
      have ea : ao = some ⟨b, off, none⟩ := by simp at e1; exact e1.1
      subst ea
      have dge : decide ((0 : Int) ≤ (j : Int)) = true := decide_eq_true (by omega)
      have dlt2 : (j : Int) < (n : Int) := by omega
      have TK : Hid (tsc s.reverse k ++ [.int .i64 (s.getD j (0, 0)).1, .int .u64 (s.getD j (0, 0)).2] = tsc s.reverse (k + 1)) := by
        have := take_sc (s := s.reverse) (k := k) (by rw [List.length_reverse, ← HN.out]; omega)
        rw [rev_getD (j := j) (by rw [← HN.out]; omega)] at this
        exact this
      generalize (s.getD j (0, 0)).1 = x at *
      generalize (s.getD j (0, 0)).2 = y at *
      have hkn : k < 200 := by omega
      clear own od e1 hi5 q1 q2 hjn
      go_wp2_with (at_builtin; refine wpList_append_lies _ rfl _ _ _ rfl w1.heap.size 28 i0 (.agg #[.int .i64 0, .int .u64 0]) 2 16 Tryz.underlying22 hi hz0 hz1 hz2 rfl (by omega) tv k _ rfl (OWN.out.alloc _) ⟨wr.heap.size, 0, none⟩ 1 1 [.int .i64 x, .int .u64 y] rfl rfl (cells_two _ _ _ _) (one_two x y) (by omega) ?c3 ?c4 ?c5 (wr.heap.size + 1) (by simp) ?_)
      case c3 => unfold maxLen; omega
      case c4 => omega
      case c5 => have := OD.out.size; simp; omega
      intro g cap2 w2 own2 hgrow2 _ _
      rw [TK.out] at own2
      have o2 : Only (fun g => tv.ownBlock = some g) wr w2 := ((Only.refl _ wr).alloc _).grown hgrow2 (fun k hk e => e)
      have OD2 := hideIt (OD.out.trans o2 (fun g hg e => by have := (OWN.out.lt g e).1; omega))
      have OWN2 := hideIt own2
      clear own2 hgrow2 o2 OWN
      go_wp2
      go_roundw
      case rel => exact ⟨j, k + 1, by omega, rfl, OWN2.out, OD2.out⟩
      case measure => simp [intOf]
    | zero =>
      obtain rfl : k = n := by omega
      obtain rfl : u5 = .int .i64 (-1) := by rw [hi5]; rfl
      have dge : decide ((0 : Int) ≤ -1) = false := rfl
      have hrl : s.reverse.length = k := by rw [List.length_reverse, ← HN.out]
      have own' : wr.ownsRow w1.heap.size 28 2 tv s.reverse.length (scells s.reverse) := by
        rw [hrl]
        have := own
        unfold tsc at this
        rwa [List.take_of_length_le (by omega)] at this
      have SR := hideIt (Sps.of_own own')
      obtain ⟨at1, ct1, et1⟩ := (Sps.of_own own').len
      rw [hrl] at et1
      subst et1
      have GR := HG.out.rev
      have OW := hideIt (O1.out.same od)
      have L1 : Hid ((sb t).length ≤ 64) := by simp only [Hid]; rw [HSB.out]; exact ht2
      have eA0 : (ENCC (sb t) s).2 = 0 := ENCC_ok (by rw [← HN.out]; omega) L1.out
      have eB0 : (ENCC (sb t) s.reverse).2 = 0 := ENCC_ok (by rw [hrl]; omega) L1.out
      have EA := EN.out s (.slice ao k cap) wr HG.out (by unfold maxLen; rw [← HN.out]; omega) (HS1.out.past od) OW.out
      rw [eA0] at EA
      have EA := hideIt EA
      have EB : Hid (∀ W, Only (fun _ => False) wr W → Calls Tryz.prog 5 #[.agg #[.string t, .slice at1 k ct1]] W fun e w' => ∃ v', e = .returned (.tuple #[v', .int .i64 0]) ∧ w'.ownsRow W.heap.size 5 1 v' (ENCC (sb t) s.reverse).1.length ((ENCC (sb t) s.reverse).1.map (Value.int .u8)) ∧ Only (fun _ => False) W w') := by
        intro W o
        have := EN.out s.reverse (.slice at1 k ct1) W GR (by unfold maxLen; rw [hrl]; omega) (SR.out.past o) (OW.out.same o)
        rw [eB0] at this
        exact this
      have DB : Hid (∀ (v : Value) W, Only (fun _ => False) wr W → Bs .u8 W v (ENCC (sb t) s.reverse).1 → Calls Tryz.prog 6 #[v] W fun e w' => ∃ u2, e = .returned (.tuple #[.agg #[.string t, u2], .int .i64 0]) ∧ Sps w' u2 s.reverse ∧ Only (fun _ => False) W w') := by
        intro v W o b
        have := decode12_any v (ENCC (sb t) s.reverse).1 W b (ENCC_range (sb_range t) L1.out (by rw [hrl]; omega) GR) (by have := ENCC_few (tn := sb t) (s := s.reverse) (by rw [hrl]; omega); omega) (HT.out.past (OW.out.same o))
        rw [DECC_ENCC L1.out (by rw [hrl]; omega) GR] at this
        simp only [of_sb] at this
        refine this.mono ?_
        rintro e w' ⟨u2, rfl, own, oo⟩
        exact ⟨u2, rfl, Sps.of_own own, oo⟩
      obtain ⟨AL, hAL⟩ : ∃ AL, AL = decide (t = t ∧ s = s.reverse) := ⟨_, rfl⟩
      have SA : Hid (∀ W, Only (fun _ => False) wr W → Calls Tryz.prog 7 #[.agg #[.string t, .slice ao k cap], .agg #[.string t, .slice at1 k ct1]] W fun e w' => e = .returned (.bool AL) ∧ Only (fun _ => False) W w') := by
        intro W o
        rw [hAL]
        exact lsame12_any t t _ _ s s.reverse W ((HS1.out.past od).past o) (SR.out.past o) (by unfold maxLen; rw [← HN.out]; omega)
      have SD : Hid (∀ (u2 : Value) W, Only (fun _ => False) wr W → Sps W u2 s.reverse → Calls Tryz.prog 7 #[.agg #[.string t, u2], .agg #[.string t, .slice at1 k ct1]] W fun e w' => e = .returned (.bool true) ∧ Only (fun _ => False) W w') := by
        intro u2 W o hu
        have := lsame12_any t t u2 (.slice at1 k ct1) s.reverse s.reverse W hu (SR.out.past o) (by unfold maxLen; rw [hrl]; omega)
        rw [show decide (t = t ∧ s.reverse = s.reverse) = true by simp] at this
        exact this
      have HEQ : Hid (AL = true → (ENCC (sb t) s).1.length = (ENCC (sb t) s.reverse).1.length) := by
        intro h
        rw [hAL] at h
        have := (of_decide_eq_true h).2
        rw [← this]
      have HRL := hideIt hrl
      clear own own' od GR EN HG HT eA0 eB0 hAL hrl hi5 q1 q2 OWN
      generalize (ENCC (sb t) s).1 = ea at *
      generalize (ENCC (sb t) s.reverse).1 = eb at *
      generalize s.reverse = sr at *
      go_wp2_with fail
      refine EA.out.mono ?_
      rintro e w2 ⟨va, rfl, own2, o2⟩
      obtain ⟨a2, c2, e2⟩ := (Bs.of_own own2).len
      subst e2
      have t1 := cell_past o2 r1
      have t2 := cell_past o2 r2
      have O2 := hideIt o2
      have EB2 := hideIt (EB.out w2 o2)
      clear own2 o2 r1 r2 EA EB
      generalize ea.length = la at *
      go_wp2_with fail
      refine EB2.out.mono ?_
      rintro e w3 ⟨vb, rfl, own3, o3⟩
      have B3 := hideIt (Bs.of_own own3)
      obtain ⟨a3, c3, e3⟩ := (Bs.of_own own3).len
      subst e3
      have p1 := cell_past o3 t1
      have p2 := cell_past o3 t2
      have O3 := hideIt (O2.out.same o3)
      have DB3 := hideIt (DB.out _ w3 O3.out B3.out)
      clear own3 o3 t1 t2 EB2 DB
      generalize eb.length = lb at *
      go_wp2_with fail
      refine DB3.out.mono ?_
      rintro e w4 ⟨u4, rfl, sp4, o4⟩
      obtain ⟨a4, c4, e4⟩ := sp4.len
      rw [HRL.out] at e4
      subst e4
      have s1 := cell_past o4 p1
      have s2 := cell_past o4 p2
      have O4 := hideIt (O3.out.same o4)
      have SP4 := hideIt sp4
      have hlt4 := World.block_lt_of_cell? w4 _ s1
      have BC4 := box_cells w4 (.string t) (.slice a4 k c4)
      have SA4 := hideIt (fun W o => SA.out W (O4.out.same o))
      clear sp4 o4 p1 p2 DB3 SA
      go_wp2_with fail
      refine (SA4.out _ ((Only.refl _ _).alloc _)).mono ?_
      rintro e w5 ⟨rfl, o5⟩
      have oo5 : Only (fun _ => False) w4 w5 := Only.same ((Only.refl _ _).alloc _) o5
      have y1 := cell_past oo5 s1
      have y2 := cell_past oo5 s2
      have z1 := cell_past o5 BC4.1
      have z2 := cell_past o5 BC4.2
      have O5 := hideIt (O4.out.same oo5)
      have SD5 := hideIt (SD.out (.slice a4 k c4) w5 O5.out (SP4.out.past oo5))
      clear o5 oo5 s1 s2 BC4 SA4 SD SP4
      go_wp2_with fail
      refine SD5.out.mono ?_
      rintro e w6 ⟨rfl, o6⟩
      have O6 := hideIt (OW.out.same (O5.out.same o6))
      clear o6 SD5
      by_cases hlab : la = lb
      · subst hlab
        have zz : ((la : Int) == (la : Int)) = true := by simp
        go_wp2
        go_ret
        exact ⟨rfl, O6.out⟩
      · have zz : ((la : Int) == (lb : Int)) = false := by rw [beq_eq_false_iff_ne]; omega
        have hal : AL = false := by
          cases hA : AL with
          | false => rfl
          | true => exact absurd (HEQ.out hA) hlab
        subst hal
        go_wp2
        go_ret
        exact ⟨rfl, O6.out⟩
end Go.Proofs.YthapipgaohlgdabGreatDoor
