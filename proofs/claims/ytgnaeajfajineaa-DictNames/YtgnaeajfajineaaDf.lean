/- Package dict: the width of a place; the dictionary and the map of its places. -/
import Derived.Test.YtgnaeajfajineaaDk4
import Derived.Test.YtgnaeajfajineaaBLeaf
import Derived.Test.YtgnaeajfajineaaInfo
namespace Go.Proofs.Ytgnaeajfajineaa
open Go.RowKit Go.Maps

theorem placeWidth_any (k : Nat) (w : World) (h : k ≤ 65536) :
    Calls Try.prog 18 #[.int .i64 k] w fun e w' => e = .returned (.int .i64 (wP k)) ∧ w = w' := by
  by_cases h0 : k = 0
  · subst h0
    go_enter Try.func18, Try.ntmps18
    go_wp2
    go_ret
    exact ⟨rfl, rfl⟩
  · obtain ⟨j, rfl⟩ : ∃ j, k = j + 1 := ⟨k - 1, by omega⟩
    have WA := hideIt (width_any ((j : Nat) : Int) w (by omega) (by omega))
    have e1 : wP (j + 1) = wid j := by unfold wP; rw [if_neg (by omega)]; rfl
    rw [e1]
    have d0 : (((j + 1 : Nat) : Int) == 0) = false := by rw [beq_eq_false_iff_ne]; omega
    have e2 : ((j + 1 : Nat) : Int) - 1 = (j : Int) := by omega
    obtain ⟨K, hK⟩ : ∃ K : Int, K = ((j + 1 : Nat) : Int) := ⟨_, rfl⟩
    rw [← hK] at d0 e2 ⊢
    have k1 : K ≤ 65536 := by omega
    have k0 : 1 ≤ K := by omega
    clear hK h0 e1 h
    go_enter Try.func18, Try.ntmps18
    go_wp2_with fail
    refine WA.out.mono ?_
    rintro e w' ⟨rfl, rfl⟩
    clear WA
    go_wp2
    go_ret
    exact ⟨rfl, rfl⟩

theorem law35 : Keyed Try.prog 35 := int_keyed Try.underlying35
theorem zero3 (w : World) : (zeroValue 3).run Try.prog w = .ok (.int .i64 0) w := by kernel_rfl
theorem wf_u64 {y : Int} (h0 : 0 ≤ y) (h1 : y ≤ 18446744073709551615) : (Lit.int .u64 y).wf = true := by
  have e1 : IntKind.u64.min = 0 := by decide
  have e2 : IntKind.u64.max = 18446744073709551615 := by decide
  simp only [Lit.wf, e1, e2, Bool.and_eq_true, decide_eq_true_eq]; omega

/-- the dictionary under way: a map of places in block w.heap.size, a list above it -/
structure Fs (w wr : World) (vd : Value) (l : List Int) (k : Nat) : Prop where
  map : wr.ownsMap Try.prog 35 (plainElem (H := Unit) Try.prog 3) w.heap.size k (DM (dic l))
  row : wr.ownsRow (w.heap.size + 1) 35 1 vd (dic l).length ((dic l).map (Value.int .u64))
  be : Below w.heap.size w wr

theorem getD_in {l : List Int} {k : Nat} (h : k < l.length) : l.getD k 0 ∈ l := by
  rw [List.getD_eq_getElem?_getD, List.getElem?_eq_getElem h]; exact List.getElem_mem h
theorem take_snocI (l : List Int) (k : Nat) (h : k < l.length) : l.take (k + 1) = l.take k ++ [l.getD k 0] := take_snoc l k h
theorem wf_i64 {y : Nat} (h : y ≤ 65536) : (Lit.int .i64 (y : Int)).wf = true := by
  have e1 : IntKind.i64.min = -9223372036854775808 := by decide
  have e2 : IntKind.i64.max = 9223372036854775807 := by decide
  simp only [Lit.wf, e1, e2, Bool.and_eq_true, decide_eq_true_eq]; omega
theorem own_ne {w : World} {lo : Nat} {E : TypeId} {size : Nat} {v : Value} {n : Nat} {xs : List Value} (h : w.ownsRow lo E size v n xs) {b : Nat} (hb : b < lo) : some b ≠ v.ownBlock := by
  intro e
  have := (h.lt b e.symm).1
  omega

set_option maxHeartbeats 1000000 in
set_option maxRecDepth 100000 in
theorem firsts_bs (v : Value) (xs : List Int) (w : World) (h : Bs .u64 w v xs) (hu : U64 xs) (hl : xs.length ≤ 65536) :
    Calls Try.prog 15 #[v] w fun e w' => ∃ vd, e = .returned (.tuple #[vd, .map (some w.heap.size)]) ∧ Fs w w' vd xs xs.length := by
  have hmm := @run_makeMap Try.prog
  obtain ⟨i0, hi, hz0, hz1, hz2⟩ := info_parts Try.infoU64
  obtain ⟨ao, cap, rfl⟩ := h.len
  have HB := hideIt h
  have HU := hideIt hu
  obtain ⟨m, hm⟩ : ∃ m, m = xs.length := ⟨_, rfl⟩
  rw [← hm] at HB hl
  rw [← hm]
  have HM := hideIt hm
  have F0 : Hid (Fs w (w.alloc (.map #[] 0)) (.slice none 0 0) (xs.take 0) 0) :=
    ⟨World.ownsMap_made _ _ _ _, World.ownsRow_nil _ _ _ _, (Below.refl _ _).alloc (Nat.le_refl _) _⟩
  clear h hm hu
  go_enter Try.func15, Try.ntmps15
  go_wp2
  go_loopw [2, 11] (fun vd i wr => ∃ k : Nat, k ≤ m ∧ i = .int .i64 k ∧ Fs w wr vd (xs.take k) k) (fun _ i _ => m - (intOf i).toNat)
  case atStart => exact ⟨0, Nat.zero_le _, rfl, F0.out⟩
  case round =>
    clear F0
    obtain ⟨k, hk, rfl, hf⟩ := hrel
    by_cases hlt : k < m
    · obtain ⟨b, off, cap', e, hc⟩ := HB.out.at k (by rw [← HM.out]; exact hlt)
      simp only [Value.slice.injEq] at e
      obtain ⟨rfl, hmx, rfl⟩ := e
      clear hmx
      have hc1 := (hf.be.cell (p := ⟨b, off + k, none⟩) (World.block_lt_of_cell? w _ hc)).trans hc
      obtain ⟨y0, y1⟩ := HU.out _ (getD_in (l := xs) (k := k) (by rw [← HM.out]; exact hlt))
      have HT := hideIt (take_snocI xs k (by rw [← HM.out]; exact hlt))
      generalize xs.getD k 0 = y at *
      have hkey : keyOf Try.prog 35 (.int .u64 y) = some (.int .u64 y) := keyOf_int_mk Try.underlying35 (wf_u64 y0 y1)
      have hdl := dic_len (xs.take k)
      rw [List.length_take] at hdl
      have hmap := hf.map
      have hrow := hf.row
      have BE := hideIt hf.be
      have DS := hideIt (dic_snoc (xs.take k) y)
      rw [← HT.out] at DS
      have DH := DM_has (dic (xs.take k)) y
      have DN := hideIt (DM_snoc (dic (xs.take k)) y)
      obtain ⟨d, hd⟩ : ∃ d, d = dic (xs.take k) := ⟨_, rfl⟩
      have HD := hideIt hd
      rw [← hd] at hmap hrow hdl DS DH DN
      obtain ⟨n, hn⟩ : ∃ n, n = d.length := ⟨_, rfl⟩
      rw [← hn] at hrow hdl DN
      obtain ⟨a6, c6, e6⟩ : ∃ a6 c6, u2 = .slice a6 n c6 := by
        have := (Bs.of_own (by rw [← hn]; exact hrow) : Bs .u64 wr u2 d).len
        rw [← hn] at this; exact this
      subst e6
      have HN := hideIt hn
      have i1 : (k : Int) < (m : Int) := by omega
      clear hc hd hn hf HB
      by_cases hin : y ∈ d
      · rw [decide_eq_true hin] at DH
        have DS2 := hideIt (DS.out.trans (if_pos hin))
        have HX := hideIt hmap
        have HY := hideIt hrow
        clear DS hin hrow
        go_wp2_with (first
          | (at_lookup; refine wpList_lookup_own_ok_int _ rfl _ _ 37 rfl 35 3 .i64 law35 Try.underlying37 Try.underlying3 (zero3 _) w.heap.size k _ rfl hmap _ _ rfl hkey ?_; intro c hat hwc; rw [DH]; clear hat hwc)
          | fail)
        go_roundw
        case rel =>
          refine ⟨k + 1, by omega, by go_num, ?_, ?_, BE.out⟩
          · rw [DS2.out]; exact HX.out.mono (Nat.le_succ _)
          · rw [DS2.out, ← HN.out]; exact HY.out
        case measure => simp [intOf]; omega
      · rw [decide_eq_false hin] at DH
        have DS2 := hideIt (DS.out.trans (if_neg hin))
        have BL := hideIt (own_ne hrow (Nat.lt_succ_self w.heap.size))
        have SZ := hmap.lt
        clear DS hin
        go_wp2_with (first
          | (at_lookup; refine wpList_lookup_own_ok_int _ rfl _ _ 37 rfl 35 3 .i64 law35 Try.underlying37 Try.underlying3 (zero3 _) w.heap.size k _ rfl hmap _ _ rfl hkey ?_; intro c hat hwc; rw [DH]; clear hat hwc)
          | (at_mapUpdate; refine wpList_mapUpdate_own _ rfl _ _ _ 37 rfl 35 3 law35 Try.underlying37 (plainElem (H := Unit) Try.prog 3) w.heap.size k _ rfl hmap (by unfold maxLen; omega) _ _ _ rfl rfl hkey _ [] (plainElem_int Try.underlying3 (wf_i64 (y := n) (by omega))) ?_; intro w1 hown1 hgrow1)
          | (at_builtin; refine wpList_append_own _ rfl _ _ 22 rfl (w.heap.size + 1) 35 i0 (.int .u64 0) 1 8 Try.underlying22 hi hz0 hz1 hz2 rfl (by decide) _ n _ rfl ((hrow.kept hgrow1 (Or.inr BL.out.symm)).alloc _) ⟨w1.heap.size, 0, none⟩ 1 1 [.int .u64 y] rfl rfl (cell_one_new _ _ _) (ints_oneCell .u64 [y]) (by unfold maxLen; omega) (by omega) (by have := hgrow1.size; simp at this ⊢; omega) ?_; intro v' w2 hown' hgrow2 hnil2)
          | fail)
        have hr1 := hrow.kept hgrow1 (Or.inr BL.out.symm)
        have s1 := hgrow1.size
        have s2 := hgrow2.size
        have b0 := BE.out.size
        simp at s1 s2
        go_roundw
        case rel =>
          refine ⟨k + 1, by omega, by go_num, ?_, ?_, ?_⟩
          · rw [DS2.out, DN.out]
            exact (hown1.alloc _).kept hgrow2 (own_ne hr1 (Nat.lt_succ_self _))
          · rw [DS2.out, List.length_append, List.map_append, ← HN.out]
            simpa using hown'
          · exact (((BE.out.grown hgrow1 b0 (fun j hj => by cases hj; exact Nat.le_refl _)).alloc (by omega) _).grown hgrow2 (by simp; omega) (fun j hj => Nat.le_trans (Nat.le_succ _) (hr1.lt j hj).1))
        case measure => simp [intOf]; omega
    · obtain rfl : k = m := by omega
      have e0 : xs.take k = xs := by rw [HM.out, List.take_length]
      rw [e0] at hf
      have HF := hideIt hf
      clear hf
      go_wp2
      go_ret2
      exact ⟨_, rfl, HF.out⟩
end Go.Proofs.Ytgnaeajfajineaa
