/- The walk of the statement on the same added to all. -/
import Derived.Test.YtlfioabaingfbaaDAwake
namespace Go.Proofs.Ytlfioabaingfbaa
open Go.RowKit

theorem D1_at (l : List Int) (i : Nat) (hi : i + 1 < l.length) : (D 1 l).getD (i + 1) 0 = wrap64 (l.getD (i + 1) 0 - l.getD i 0) := by
  show (bh (dif 0) 0 l).getD (i + 1) 0 = _
  simp only [bh, List.take_zero, List.drop_zero, List.nil_append]
  exact dif_at 0 l i hi
theorem map_at (f : Int → Int) (l : List Int) (i : Nat) (hi : i < l.length) : (l.map f).getD i 0 = f (l.getD i 0) := by
  rw [List.getD_eq_getElem?_getD, List.getD_eq_getElem?_getD, List.getElem?_map, List.getElem?_eq_getElem hi]; rfl
/-- WITH THE SAME ADDED TO ALL, what lies between them stays -/
theorem moves_at (l : List Int) (y : Int) (i : Nat) (hi : i < l.length) (h1 : 1 ≤ i) :
    (D 1 (l.map (fun x => wrap64 (x + y)))).getD i 0 = (D 1 l).getD i 0 ∧ (D 1 (l.map (fun x => wrap64 (-x)))).getD i 0 = wrap64 (-(D 1 l).getD i 0) := by
  obtain ⟨j, rfl⟩ : ∃ j, i = j + 1 := ⟨i - 1, by omega⟩
  constructor
  · rw [D1_at (l.map (fun x => wrap64 (x + y))) _ (by rw [List.length_map]; exact hi), D1_at l _ hi, map_at _ _ _ hi, map_at _ _ _ (by omega), w64_both]
  · rw [D1_at (l.map (fun x => wrap64 (-x))) _ (by rw [List.length_map]; exact hi), D1_at l _ hi, map_at _ _ _ hi, map_at _ _ _ (by omega), w64_neg]
theorem take_map (f : Int → Int) (l : List Int) (k : Nat) (hk : k < l.length) : ((l.map f).map (Value.int .i64)).take (k + 1) = ((l.map f).map (Value.int .i64)).take k ++ [.int .i64 (f (l.getD k 0))] := by
  rw [List.take_add_one, List.getElem?_map, List.getElem?_map, List.getElem?_eq_getElem hk, List.getD_eq_getElem?_getD, List.getElem?_eq_getElem hk]; rfl
theorem Try.infoM64 : (Try.prog.info? 3).map (fun i => (i.zero, i.size, i.bytes)) = some (some (.int .i64 0), 1, 8) := by kernel_rfl
/-- two rows that lie apart -/
def Far (u v : Value) : Prop := ∀ q, u.ownBlock = some q → v.ownBlock ≠ some q

set_option maxHeartbeats 1600000 in
set_option maxRecDepth 100000 in
theorem moves_any (v : Value) (xs : List Int) (y : Int) (w : World) (hb : Bs .i64 w v xs) :
    Calls Try.prog 7 #[v, .int .i64 y] w fun e w' => e = .returned (.bool true) ∧ Only (fun _ => False) w w' := by
  have AW := hideIt (awake_any w)
  by_cases hlong : 1000 < xs.length
  · have h1 : decide ((1000 : Int) < xs.length) = true := decide_eq_true (by omega)
    obtain ⟨ao, cap, rfl⟩ := hb.len
    clear hb
    go_enter Try.func7, Try.ntmps7
    go_wp2_with fail
    refine AW.out.mono ?_
    rintro e w1 ⟨rfl, on1⟩
    have O1 := hideIt on1
    clear on1 AW
    go_wp2
    go_ret
    exact ⟨rfl, O1.out⟩
  obtain ⟨i0, hi, hz0, hz1, hz2⟩ := info_parts Try.infoM64
  have h1 : decide ((1000 : Int) < xs.length) = false := decide_eq_false (by omega)
  have HB := hideIt hb
  obtain ⟨ao, cap, hv⟩ := hb.len
  have HTM := hideIt (fun k (hk : k < xs.length) => And.intro (take_map (fun x => wrap64 (x + y)) xs k hk) (take_map (fun x => wrap64 (-x)) xs k hk))
  have HMV := hideIt (fun i (h : i < xs.length) (h1 : 1 ≤ i) => moves_at xs y i h h1)
  obtain ⟨n, hn⟩ : ∃ n, n = xs.length := ⟨_, rfl⟩
  rw [← hn] at hv h1 hlong HTM HMV
  have hlm : (xs.map (fun x => wrap64 (x + y))).length = n := by rw [List.length_map]; exact hn.symm
  have hln : (xs.map (fun x => wrap64 (-x))).length = n := by rw [List.length_map]; exact hn.symm
  obtain ⟨X, hX⟩ : ∃ X, X = xs.map (fun x => wrap64 (x + y)) := ⟨_, rfl⟩
  obtain ⟨Y, hY⟩ : ∃ Y, Y = xs.map (fun x => wrap64 (-x)) := ⟨_, rfl⟩
  rw [← hX] at hlm HTM HMV
  rw [← hY] at hln HTM HMV
  subst hv
  have HN := hideIt (And.intro hn (And.intro hlm hln))
  clear hb hn hlm hln hX hY
  go_enter Try.func7, Try.ntmps7
  go_wp2_with fail
  refine AW.out.mono ?_
  rintro e w1 ⟨rfl, on1⟩
  have O1 := hideIt on1
  have HB1 := hideIt (HB.out.past on1)
  clear on1 AW HB
  obtain ⟨M, hM⟩ : ∃ M, M = w1.heap.size := ⟨_, rfl⟩
  have HM := hideIt hM
  clear hM
  go_wp2
  go_loopw [6, 7, 8] (fun om on i wr => ∃ k : Nat, k ≤ n ∧ i = .int .i64 k ∧ wr.ownsRow M 3 1 om k ((X.map (Value.int .i64)).take k) ∧ wr.ownsRow M 3 1 on k ((Y.map (Value.int .i64)).take k) ∧ Far om on ∧ Below M w1 wr) (fun _ _ i _ => n - (intOf i).toNat)
  case atStart => exact ⟨0, Nat.zero_le _, rfl, World.ownsRow_nil _ _ _ _, World.ownsRow_nil _ _ _ _, fun q hq => by simp [Value.ownBlock] at hq, Below.refl _ _⟩
  case round =>
    obtain ⟨k, hk, rfl, hom, hon, hfar, hbel⟩ := hrel
    have hsz : M ≤ wr.heap.size := by have := hbel.size; have := HM.out; omega
    by_cases hlt : k < n
    · obtain ⟨b, off, cap', e1, hc1⟩ := HB1.out.at k (by rw [← HN.out.1]; exact hlt)
      simp at e1
      obtain ⟨rfl, q1, rfl⟩ := e1
      clear q1
      have hbM : b < M := by rw [HM.out]; exact World.block_lt_of_cell? w1 _ hc1
      have hcell := (hbel.cell (p := ⟨b, off + k, none⟩) hbM).trans hc1
      have HC1 := hideIt (And.intro hbM hc1)
      have i0' : (0 : Int) ≤ (k : Int) := by omega
      have i1' : (k : Int) < (n : Int) := by omega
      have HT := hideIt (HTM.out k hlt)
      obtain ⟨x, hx⟩ : ∃ x, x = xs.getD k 0 := ⟨_, rfl⟩
      rw [← hx] at hcell HT HC1
      clear hx hc1 hbM
      have HB := hideIt (And.intro hon (And.intro hfar hbel))
      clear hon hfar hbel
      go_wp2_with (at_builtin; refine wpList_append_lies _ rfl _ _ _ rfl M 3 i0 (.int .i64 0) 1 8 Try.underlying22 hi hz0 hz1 hz2 rfl (by omega) u6 k ((X.map (Value.int .i64)).take k) rfl (hom.alloc _) ⟨wr.heap.size, 0, none⟩ 1 1 [.int .i64 (wrap64 (x + y))] rfl rfl ?c1 ?c2 (by omega) ?c3 ?c4 ?c5 (wr.heap.size + 1) (by simp) ?_)
      case c1 => exact cell_one_new _ _ _
      case c2 => intro u hu; simp at hu; subst hu; rfl
      case c3 => unfold maxLen; omega
      case c4 => omega
      case c5 => simp; omega
      intro g cap1 w2 hown1 hgrow hat hg1
      obtain ⟨hon, hfar, hbel⟩ := HB.out
      have o2 : Only (fun q => u6.ownBlock = some q) wr w2 := ((Only.refl _ _).alloc _).grown hgrow (fun _ _ e => e)
      have hon2 := o2.own hon (fun q hq e => hfar q e hq)
      have hb2 : Below M w1 w2 := (hbel.alloc hsz _).grown hgrow (by simp; omega) (fun q hq => (hom.lt q hq).1)
      have hfar2 : Far (.slice (some ⟨g, 0, none⟩) (k + 1) cap1) u7 := by
        intro q hq hq7
        simp [Value.ownBlock] at hq
        subst hq
        rcases hat with h | h
        · exact hfar g h hq7
        · have := (own_at_lt hon hq7).2
          omega
      rw [← HT.out.1] at hown1
      have hcell2 := (hb2.cell (p := ⟨b, off + k, none⟩) HC1.out.1).trans HC1.out.2
      have hsz2 : M ≤ w2.heap.size := by have := hb2.size; have := HM.out; omega
      have H2 := hideIt (And.intro hown1 (And.intro hfar2 hb2))
      clear hown1 hfar2 hb2 o2 hon hfar hbel hgrow hat hg1 HB hom hcell
      go_wp2_with (at_builtin; refine wpList_append_lies _ rfl _ _ _ rfl M 3 i0 (.int .i64 0) 1 8 Try.underlying22 hi hz0 hz1 hz2 rfl (by omega) u7 k ((Y.map (Value.int .i64)).take k) rfl (hon2.alloc _) ⟨w2.heap.size, 0, none⟩ 1 1 [.int .i64 (wrap64 (-x))] rfl rfl ?c1 ?c2 (by omega) ?c3 ?c4 ?c5 (w2.heap.size + 1) (by simp) ?_)
      case c1 => exact cell_one_new _ _ _
      case c2 => intro u hu; simp at hu; subst hu; rfl
      case c3 => unfold maxLen; omega
      case c4 => omega
      case c5 => simp; omega
      intro g' cap2 w3 hown3 hgrow hat hg1
      obtain ⟨hown1, hfar2, hb2⟩ := H2.out
      have o3 : Only (fun q => u7.ownBlock = some q) w2 w3 := ((Only.refl _ _).alloc _).grown hgrow (fun _ _ e => e)
      have hown4 := o3.own hown1 (fun q hq e => hfar2 q hq e)
      have hb3 : Below M w1 w3 := (hb2.alloc hsz2 _).grown hgrow (by simp; omega) (fun q hq => (hon2.lt q hq).1)
      have hfar3 : Far (.slice (some ⟨g, 0, none⟩) (k + 1) cap1) (.slice (some ⟨g', 0, none⟩) (k + 1) cap2) := by
        intro q hq hq7
        have hgl := (own_at_lt hown1 (b := g) rfl).2
        simp [Value.ownBlock] at hq hq7
        subst hq hq7
        rcases hat with h | h
        · exact hfar2 _ rfl h
        · omega
      rw [← HT.out.2] at hown3
      have H3 := hideIt (And.intro hown4 (And.intro hown3 (And.intro hfar3 hb3)))
      clear hown4 hown3 hfar3 hb3 o3 hown1 hfar2 hb2 hgrow hat hg1 H2 hon2 hcell2
      go_wp2
      go_roundw
      case rel => exact ⟨k + 1, by omega, by go_num, H3.out⟩
      case measure => simp [intOf]; omega
    · obtain rfl : k = n := by omega
      rw [List.take_of_length_le (by rw [List.length_map, HN.out.2.1]; omega)] at hom
      rw [List.take_of_length_le (by rw [List.length_map, HN.out.2.2]; omega)] at hon
      have bm : Bs .i64 wr u6 X := Bs.of_own (by rw [HN.out.2.1]; exact hom)
      have bn : Bs .i64 wr u7 Y := Bs.of_own (by rw [HN.out.2.2]; exact hon)
      have onr : Only (fun _ => False) w1 wr := only_of_below (by rw [← HM.out]; exact hbel)
      have OR := hideIt (O1.out.same onr)
      have A2 := hideIt (diff_bs (.slice ao k cap) xs 1 wr (HB1.out.past onr) (by rw [← HN.out.1]; omega) (by omega))
      have HL2 : Hid ((D 1 xs).length = k ∧ (D 1 X).length = k ∧ (D 1 Y).length = k) := by rw [D_length, D_length, D_length]; exact ⟨HN.out.1.symm, HN.out.2.1, HN.out.2.2⟩
      have BMN := hideIt (And.intro bm bn)
      clear hom hon hfar hbel bm bn onr HTM
      go_wp2_with fail
      refine A2.out.mono ?_
      rintro e w3 ⟨v3, rfl, b3, _, on3⟩
      have O3 := hideIt (OR.out.same on3)
      have A3 := hideIt (diff_bs u6 X 1 w3 (BMN.out.1.past on3) (by rw [HN.out.2.1]; omega) (by omega))
      have B3 := hideIt (And.intro b3 (BMN.out.2.past on3))
      clear A2 b3 on3 BMN
      go_wp2_with fail
      refine A3.out.mono ?_
      rintro e w4 ⟨v4, rfl, b4, _, on4⟩
      have O4 := hideIt (O3.out.same on4)
      have A4 := hideIt (diff_bs u7 Y 1 w4 (B3.out.2.past on4) (by rw [HN.out.2.2]; omega) (by omega))
      have B4 := hideIt (And.intro (B3.out.1.past on4) b4)
      clear A3 b4 on4 B3
      go_wp2_with fail
      refine A4.out.mono ?_
      rintro e w5 ⟨v5, rfl, b5, _, on5⟩
      have O5 := hideIt (O4.out.same on5)
      have ba := B4.out.1.past on5
      have bb := B4.out.2.past on5
      obtain ⟨ao3, cap3, hv3⟩ := ba.len
      obtain ⟨ao4, cap4, hv4⟩ := bb.len
      obtain ⟨ao5, cap5, hv5⟩ := b5.len
      rw [HL2.out.1] at hv3
      rw [HL2.out.2.1] at hv4
      rw [HL2.out.2.2] at hv5
      subst hv3 hv4 hv5
      have B5 := hideIt (And.intro ba (And.intro bb b5))
      have tn : ((k : Int) != (k : Int)) = false := by simp
      clear A4 ba bb b5 on5 B4 O1 OR O3 O4
      go_wp2
      go_loopw [15] (fun i wr => ∃ j : Nat, 1 ≤ j ∧ j ≤ 1001 ∧ i = .int .i64 j ∧ ∃ md, wr = w5.drewN md) (fun i _ => k - (intOf i).toNat)
      case atStart => exact ⟨1, Nat.le_refl _, by omega, rfl, 0, rfl⟩
      case round =>
        obtain ⟨j, hj1, hj2, rfl, md, rfl⟩ := hrel
        by_cases hlt : j < k
        · have i0' : (0 : Int) ≤ (j : Int) := by omega
          have i1' : (j : Int) < (k : Int) := by omega
          obtain ⟨e3, e4⟩ := HMV.out j hlt hj1
          obtain ⟨b, off, cp, ev, hc3⟩ := B5.out.1.at j (by rw [HL2.out.1]; exact hlt)
          obtain ⟨b', off', cp', ev', hc4⟩ := B5.out.2.1.at j (by rw [HL2.out.2.1]; exact hlt)
          obtain ⟨b'', off'', cp'', ev'', hc5⟩ := B5.out.2.2.at j (by rw [HL2.out.2.2]; exact hlt)
          simp at ev ev' ev''
          obtain ⟨rfl, q1, rfl⟩ := ev
          obtain ⟨rfl, q2, rfl⟩ := ev'
          obtain ⟨rfl, q3, rfl⟩ := ev''
          obtain ⟨z, hz⟩ : ∃ z, z = (D 1 xs).getD j 0 := ⟨_, rfl⟩
          rw [← hz] at e3 e4 hc3
          rw [e3] at hc4
          rw [e4] at hc5
          have tz : (z != z) = false := by simp
          have tw : (wrap64 (-z) != wrap64 (-z)) = false := by simp
          clear e3 e4 q1 q2 q3 hz
          go_wp2
          go_quiet (fail)
          go_wp2
          go_roundw
          case rel => exact ⟨j + 1, by omega, by omega, by go_num, md + nq, rfl⟩
          case measure => simp [intOf]; omega
        · go_wp2
          go_ret
          exact ⟨rfl, O5.out.drewN md⟩
end Go.Proofs.Ytlfioabaingfbaa
