/- The walk of CursorBack: what Fix and Block write is read by Fixed and Block. -/
import Derived.Test.YtdpcmhgmgkelhaaRws
namespace Go.Proofs.Ytdpcmhgmgkelhaa
open Go.RowKit

theorem getD_memL (ls : List (List Int)) (k : Nat) (h : k < ls.length) : ls.getD k [] ∈ ls := by
  rw [getD_of_lt ls k h]; exact List.getElem_mem h

set_option maxHeartbeats 1000000 in
set_option maxRecDepth 100000 in
/-- CursorBack ANSWERS TRUE. -/
theorem back_walk (v : Int) (vl : Value) (ls : List (List Int)) (w : World) (v0 : 0 ≤ v) (v1 : v ≤ 18446744073709551615) (hb : Rws w vl ls) (hr : ∀ l ∈ ls, ∀ y ∈ l, 0 ≤ y ∧ y ≤ 255) :
    Calls Try.prog 5 #[.int .u64 v, vl] w fun e w' => e = .returned (.bool true) ∧ Below w.heap.size w w' := by
  obtain ⟨i0, hi, hz0, hz1, hz2⟩ := info_parts Try.infoU8
  have A := hideIt (awake_any w)
  obtain ⟨al, cl, rfl⟩ := hb.len
  have HB := hideIt hb
  have HR := hideIt hr
  obtain ⟨K, hK⟩ : ∃ K, K = ls.length := ⟨_, rfl⟩
  rw [← hK] at HB
  rw [← hK]
  have HK := hideIt hK
  clear hb hr hK
  by_cases hl : 30 < (K : Int)
  · go_enter Try.func5, Try.ntmps5
    go_wp2_with fail
    refine A.out.mono ?_
    rintro e w1 ⟨rfl, ho⟩
    have O := hideIt (ho.low (Nat.le_refl _))
    clear ho
    go_wp2
    go_ret
    exact ⟨rfl, O.out⟩
  have dl : decide (30 < (K : Int)) = false := decide_eq_false hl
  go_enter Try.func5, Try.ntmps5
  go_wp2_with fail
  refine A.out.mono ?_
  rintro e w1 ⟨rfl, ho1⟩
  have F := hideIt (fix_any v 8 w1 (by omega))
  have O1 := hideIt ho1
  clear ho1 A
  go_wp2_with fail
  refine F.out.mono ?_
  rintro e w2 ⟨u, rfl, hown, ho2⟩
  have START : Hid (w2.ownsRow w.heap.size 5 1 u 8 ((fixL v 8 ++ blks (ls.take 0)).map (Value.int .u8)) ∧ Below w.heap.size w w2) := by
    refine ⟨?_, (O1.out.trans ho2 (fun _ _ f => f)).low (Nat.le_refl _)⟩
    have e : fixL v 8 ++ blks (ls.take 0) = fixL v 8 := by simp [blks]
    rw [e]
    rw [fixL_len] at hown
    exact own_low hown O1.out.size
  clear hown ho2 O1 F
  go_wp2
  go_loopw [6, 7] (fun o i wr => ∃ k n : Nat, k ≤ K ∧ i = .int .i64 k ∧ n ≤ 8 + 310 * k ∧ n = (fixL v 8 ++ blks (ls.take k)).length ∧ wr.ownsRow w.heap.size 5 1 o n ((fixL v 8 ++ blks (ls.take k)).map (Value.int .u8)) ∧ Below w.heap.size w wr ∧ ∀ j, j < k → (ls.getD j []).length ≤ 300) (fun _ i _ => K - (intOf i).toNat)
  case atStart => exact ⟨0, 8, Nat.zero_le _, rfl, by omega, by simp [blks, fixL_len], START.out.1, START.out.2, fun j hj => by omega⟩
  case round =>
    obtain ⟨k, n, hk, rfl, hn, hnl, hown, hbel, hall⟩ := hrel
    have HNL := hideIt hnl
    have HALL := hideIt hall
    clear START hnl hall
    by_cases hlt : k < K
    · obtain ⟨b, off, ao', cap', hao, hcell, hbs, hnc⟩ := HB.out.at k (by rw [← HK.out]; exact hlt)
      have hcell' := (hbel.cell (p := ⟨b, off + k, none⟩) (World.block_lt_of_cell? w _ hcell)).trans hcell
      subst hao
      have hbs' := hbs.later hbel
      obtain ⟨p, hp⟩ : ∃ p, p = (ls.getD k []).length := ⟨_, rfl⟩
      rw [← hp] at hcell' hbs' hnc
      have HP := hideIt hp
      clear hcell hbs hp
      have j0 : (0 : Int) ≤ (k : Int) := by omega
      have j1 : (k : Int) < (K : Int) := by omega
      by_cases h3 : 300 < (p : Int)
      · have OB := hideIt hbel
        clear hown hbel hbs' hnc
        go_wp2
        go_ret
        exact ⟨rfl, OB.out⟩
      have d3 : decide (300 < (p : Int)) = false := decide_eq_false h3
      have B := hideIt (blk_any _ (ls.getD k []) wr hbs' hnc (by rw [← HP.out]; omega))
      have OB := hideIt (And.intro hown hbel)
      clear hown hbel hbs' hnc
      go_wp2_with fail
      refine B.out.mono ?_
      rintro e wa ⟨ub, rfl, hownb, hoa⟩
      have hwa : w.heap.size ≤ wa.heap.size := by have := OB.out.2.size; have := hoa.size; omega
      have hown2 := hoa.own OB.out.1 (fun _ _ f => f)
      have UB := hideIt (And.intro (Bs.of_own hownb) (NoCap.of_own hownb))
      have BL : Hid ((blk (ls.getD k [])).length ≤ 310) := by
        have := blk_len (ls.getD k []) (by rw [← HP.out]; omega)
        have := HP.out
        simp only [Hid]
        omega
      have OA := hideIt (OB.out.2.trans (hoa.low OB.out.2.size))
      clear hownb hoa B OB
      go_wp2_with (at_builtin; refine wpList_append_bs _ rfl _ _ _ rfl w.heap.size 5 i0 (.int .u8 0) 1 Try.underlying22 hi hz0 hz1 hz2 rfl _ n ((fixL v 8 ++ blks (ls.take k)).map (Value.int .u8)) rfl hown2 .u8 _ (blk (ls.getD k [])) rfl UB.out.1 UB.out.2 ?c3 ?c4 hwa ?_)
      case c3 => have := BL.out; unfold maxLen; omega
      case c4 => have := BL.out; omega
      intro u' wb hownc hgrow _ _
      have hb3 : Below w.heap.size w wb := OA.out.grown hgrow hwa (fun q hq => (hown2.lt q hq).1)
      have hown3 : wb.ownsRow w.heap.size 5 1 u' (n + (blk (ls.getD k [])).length) ((fixL v 8 ++ blks (ls.take (k + 1))).map (Value.int .u8)) := by
        rw [blks_take ls k (by rw [← HK.out]; exact hlt), ← List.append_assoc, List.map_append]; exact hownc
      clear hownc hgrow hown2 UB OA
      go_wp2
      go_roundw
      case rel =>
        refine ⟨k + 1, n + (blk (ls.getD k [])).length, by omega, by go_num, by have := BL.out; omega, ?_, hown3, hb3, fun j hj => ?_⟩
        · rw [blks_take ls k (by rw [← HK.out]; exact hlt), ← List.append_assoc, List.length_append, ← HNL.out]
        · by_cases hjk : j = k
          · subst hjk
            rw [← HP.out]; omega
          · exact HALL.out j (by omega)
      case measure => simp [intOf]; omega
    · have hkK : k = K := by omega
      subst hkK
      have et : Hid (ls.take k = ls) := List.take_of_length_le (by rw [← HK.out]; omega)
      rw [et.out] at HNL hown
      have NS := hideIt (new_st (w0 := w) hbel u6 (fixL v 8 ++ blks ls) (by rw [HNL.out] at hown; exact Bs.of_own hown) (fun y hy => by
        rcases List.mem_append.1 hy with h | h
        · exact fixL_range v 8 y h
        · exact blks_range ls HR.out y h) (by rw [← HNL.out]; omega))
      clear hown hbel
      go_wp2_with fail
      refine NS.out.mono ?_
      rintro e wc ⟨R, rfl, hs, _, _⟩
      have FX := fixed_st hs 8 (fix_back v (blks ls) v0 v1)
      rw [List.drop_left' (fixL_len v 8)] at FX
      have FX' := hideIt FX
      clear hs NS FX
      have dv : (v != v) = false := by simp
      go_wp2_with fail
      refine FX'.out.mono ?_
      rintro e wd ⟨rfl, hs, _⟩
      have S0 : Hid (St w wd R (blks (ls.drop 0))) := by rw [List.drop_zero]; exact hs
      clear hs FX'
      go_wp2
      go_loopw [11] (fun i wr => ∃ q : Nat, q ≤ k ∧ i = .int .i64 q ∧ St w wr R (blks (ls.drop q))) (fun i _ => k - (intOf i).toNat)
      case atStart => exact ⟨0, Nat.zero_le _, rfl, S0.out⟩
      case round =>
        obtain ⟨q, hq, rfl, hs⟩ := hrel
        clear S0
        by_cases hlt : q < k
        · obtain ⟨b, off, ao', cap', hao, hcell, hbs, hnc⟩ := HB.out.at q (by rw [← HK.out]; exact hlt)
          have hcell' := (hs.below.cell (p := ⟨b, off + q, none⟩) (World.block_lt_of_cell? w _ hcell)).trans hcell
          subst hao
          have h300 := HALL.out q hlt
          have BK := blk_back (ls.getD q []) (blks (ls.drop (q + 1))) (ls.getD q []).length (by omega) (by omega)
          rw [← blks_drop ls q (by rw [← HK.out]; exact hlt)] at BK
          have BB := block_st hs (ls.getD q []).length (by omega) BK
          rw [blks_drop ls q (by rw [← HK.out]; exact hlt), List.drop_left' rfl] at BB
          obtain ⟨p, hp⟩ : ∃ p, p = (ls.getD q []).length := ⟨_, rfl⟩
          rw [← hp] at hcell' hnc BB h300
          have HX := hideIt (And.intro hcell hbs)
          rw [← hp] at HX
          have BB' := hideIt BB
          have HP := hideIt hp
          clear hcell hbs hp BB BK hs
          have j0 : (0 : Int) ≤ (q : Int) := by omega
          have j1 : (q : Int) < (k : Int) := by omega
          go_wp2_with fail
          refine BB'.out.mono ?_
          rintro e we ⟨x, rfl, hx, _, _, hs2, _⟩
          have hcell2 := (hs2.below.cell (p := ⟨b, off + q, none⟩) (World.block_lt_of_cell? w _ HX.out.1)).trans HX.out.1
          have SM := hideIt (lsame_eq x _ (ls.getD q []) we hx (HX.out.2.later hs2.below) (by rw [← HP.out]; omega))
          have S2 := hideIt hs2
          clear hx hs2 BB' hcell' HX
          go_wp2_with fail
          refine SM.out.mono ?_
          rintro e wf ⟨rfl, hof⟩
          have S3 := hideIt (S2.out.keep hof)
          clear hof S2 SM hcell2
          go_wp2
          go_roundw
          case rel => exact ⟨q + 1, by omega, by go_num, S3.out⟩
          case measure => simp [intOf]; omega
        · have hqk : q = k := by omega
          subst hqk
          have ed : Hid (ls.drop q = []) := List.drop_of_length_le (by rw [← HK.out]; omega)
          rw [ed.out] at hs
          have EN := end_st hs
          rw [show endV (blks []) = 0 from rfl] at EN
          have EN' := hideIt EN
          have OB := hideIt hs.below
          clear hs EN
          go_wp2_with fail
          refine EN'.out.mono ?_
          rintro e we ⟨rfl, rfl⟩
          go_wp2
          go_ret
          exact ⟨rfl, OB.out⟩
end Go.Proofs.Ytdpcmhgmgkelhaa
